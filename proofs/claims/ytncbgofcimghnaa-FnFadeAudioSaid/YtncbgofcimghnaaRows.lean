/-
  No cell of these rows narrows 'for every input' (looked for: loops, veiled, ifaces, maps, wideKeys, modest, calm, conditions, laid).
  DERIVED. THE GIVEN ROWS OF THIS SEAT. 12 by the template 'for every input the law returns true; each argument reads behind the call as it read before'; 0 by the template 'total and deterministic' (their statements: YtncbgofcimghnaaTotals.lean).
  GIVEN WITH THE SEED: the statements are not yours to turn. If you find one false, say at which input.
  Laid BY PROGRAM, IN A SANDBOX (cutbox-rows.mjs): the forced cells as the released guide's own fill.sh prints them over the translation b699c308cf1a9625… (all of the seat's roots in one cut). By AI agents, Wed Nov 11 2026. No macro, syntax, notation, axiom, sorry.
-/
import Derived.Test.YtncbgofcimghnaaChecked
import GoSem.Claim
import GoSem.ClaimJoined
import GoSem.ClaimMapViews
import Derived.JoinedTies
import Derived.KernelRfl
namespace Go.Proofs.Ytncbgofcimghnaa
/- THE CELL 'sum', in the pinned program and in every row, IS THE sha256 OF THE DUMP (.gsa) THAT YtncbgofcimghnaaProg.lean LOADS. Nothing in Lean hashes anything: it is a label: what it is worth is what the hold of that sum in a sandbox is worth. -/
noncomputable def Try.pinned : Pinned := { name := "ytncbgofcimghnaa", sum := "b699c308cf1a962523b32c7783a44ff611fb59786f196226c290457e2e549d03", checked := Try.checked }
namespace Rows
def none {H : Type} : Left H := { results := [], args := [] }

/-- 'laws.FnCutAudio': WHATEVER THE INPUT: true; the input reads as it did. -/
def fnCutAudioSpec : ChangeSpec := { name := "fnCutAudio", fn := fun _ => fun
  | [d] => { results := [.lit (.bool true)], args := [d] }
  | _ => none }
def fnCutAudioRow : OpenClaim := { program := "ytncbgofcimghnaa", sum := "b699c308cf1a962523b32c7783a44ff611fb59786f196226c290457e2e549d03", func := "loop.example/losslessaudio/laws.FnCutAudio", spec := "fnCutAudio", unfollowed := true, recurses := true, apart := false }
def FnCutAudioSaid : Prop := fnCutAudioRow.holds Try.pinned (OpenSpec.ofChange fnCutAudioSpec)

/-- ITS FALSE NEIGHBOUR: 'it returns false'. Refute it at one input. -/
def fnCutAudioWrong : ChangeSpec := { name := "fnCutAudio", fn := fun _ => fun
  | [d] => { results := [.lit (.bool false)], args := [d] }
  | _ => none }
def FnCutAudioWrongFalsely : Prop := fnCutAudioRow.holds Try.pinned (OpenSpec.ofChange fnCutAudioWrong)

/-- 'laws.FnJoinAudio': WHATEVER THE INPUT: true; the input reads as it did. -/
def fnJoinAudioSpec : ChangeSpec := { name := "fnJoinAudio", fn := fun _ => fun
  | [d] => { results := [.lit (.bool true)], args := [d] }
  | _ => none }
def fnJoinAudioRow : OpenClaim := { program := "ytncbgofcimghnaa", sum := "b699c308cf1a962523b32c7783a44ff611fb59786f196226c290457e2e549d03", func := "loop.example/losslessaudio/laws.FnJoinAudio", spec := "fnJoinAudio", unfollowed := true, recurses := true, apart := false }
def FnJoinAudioSaid : Prop := fnJoinAudioRow.holds Try.pinned (OpenSpec.ofChange fnJoinAudioSpec)

/-- ITS FALSE NEIGHBOUR: 'it returns false'. Refute it at one input. -/
def fnJoinAudioWrong : ChangeSpec := { name := "fnJoinAudio", fn := fun _ => fun
  | [d] => { results := [.lit (.bool false)], args := [d] }
  | _ => none }
def FnJoinAudioWrongFalsely : Prop := fnJoinAudioRow.holds Try.pinned (OpenSpec.ofChange fnJoinAudioWrong)

/-- 'laws.FnFadeAudio': WHATEVER THE INPUT: true; the input reads as it did. -/
def fnFadeAudioSpec : ChangeSpec := { name := "fnFadeAudio", fn := fun _ => fun
  | [d] => { results := [.lit (.bool true)], args := [d] }
  | _ => none }
def fnFadeAudioRow : OpenClaim := { program := "ytncbgofcimghnaa", sum := "b699c308cf1a962523b32c7783a44ff611fb59786f196226c290457e2e549d03", func := "loop.example/losslessaudio/laws.FnFadeAudio", spec := "fnFadeAudio", unfollowed := true, recurses := true, apart := false }
def FnFadeAudioSaid : Prop := fnFadeAudioRow.holds Try.pinned (OpenSpec.ofChange fnFadeAudioSpec)

/-- ITS FALSE NEIGHBOUR: 'it returns false'. Refute it at one input. -/
def fnFadeAudioWrong : ChangeSpec := { name := "fnFadeAudio", fn := fun _ => fun
  | [d] => { results := [.lit (.bool false)], args := [d] }
  | _ => none }
def FnFadeAudioWrongFalsely : Prop := fnFadeAudioRow.holds Try.pinned (OpenSpec.ofChange fnFadeAudioWrong)

/-- 'laws.FnReverseAudio': WHATEVER THE INPUT: true; the input reads as it did. -/
def fnReverseAudioSpec : ChangeSpec := { name := "fnReverseAudio", fn := fun _ => fun
  | [d] => { results := [.lit (.bool true)], args := [d] }
  | _ => none }
def fnReverseAudioRow : OpenClaim := { program := "ytncbgofcimghnaa", sum := "b699c308cf1a962523b32c7783a44ff611fb59786f196226c290457e2e549d03", func := "loop.example/losslessaudio/laws.FnReverseAudio", spec := "fnReverseAudio", unfollowed := true, recurses := true, apart := false }
def FnReverseAudioSaid : Prop := fnReverseAudioRow.holds Try.pinned (OpenSpec.ofChange fnReverseAudioSpec)

/-- ITS FALSE NEIGHBOUR: 'it returns false'. Refute it at one input. -/
def fnReverseAudioWrong : ChangeSpec := { name := "fnReverseAudio", fn := fun _ => fun
  | [d] => { results := [.lit (.bool false)], args := [d] }
  | _ => none }
def FnReverseAudioWrongFalsely : Prop := fnReverseAudioRow.holds Try.pinned (OpenSpec.ofChange fnReverseAudioWrong)

/-- 'laws.FnReverseJoin': WHATEVER THE INPUT: true; the input reads as it did. -/
def fnReverseJoinSpec : ChangeSpec := { name := "fnReverseJoin", fn := fun _ => fun
  | [d] => { results := [.lit (.bool true)], args := [d] }
  | _ => none }
def fnReverseJoinRow : OpenClaim := { program := "ytncbgofcimghnaa", sum := "b699c308cf1a962523b32c7783a44ff611fb59786f196226c290457e2e549d03", func := "loop.example/losslessaudio/laws.FnReverseJoin", spec := "fnReverseJoin", unfollowed := true, recurses := true, apart := false }
def FnReverseJoinSaid : Prop := fnReverseJoinRow.holds Try.pinned (OpenSpec.ofChange fnReverseJoinSpec)

/-- ITS FALSE NEIGHBOUR: 'it returns false'. Refute it at one input. -/
def fnReverseJoinWrong : ChangeSpec := { name := "fnReverseJoin", fn := fun _ => fun
  | [d] => { results := [.lit (.bool false)], args := [d] }
  | _ => none }
def FnReverseJoinWrongFalsely : Prop := fnReverseJoinRow.holds Try.pinned (OpenSpec.ofChange fnReverseJoinWrong)

/-- 'laws.FnCutAudioTwice': WHATEVER THE INPUT: true; the input reads as it did. -/
def fnCutAudioTwiceSpec : ChangeSpec := { name := "fnCutAudioTwice", fn := fun _ => fun
  | [d] => { results := [.lit (.bool true)], args := [d] }
  | _ => none }
def fnCutAudioTwiceRow : OpenClaim := { program := "ytncbgofcimghnaa", sum := "b699c308cf1a962523b32c7783a44ff611fb59786f196226c290457e2e549d03", func := "loop.example/losslessaudio/laws.FnCutAudioTwice", spec := "fnCutAudioTwice", unfollowed := true, recurses := true, apart := false }
def FnCutAudioTwiceSaid : Prop := fnCutAudioTwiceRow.holds Try.pinned (OpenSpec.ofChange fnCutAudioTwiceSpec)

/-- ITS FALSE NEIGHBOUR: 'it returns false'. Refute it at one input. -/
def fnCutAudioTwiceWrong : ChangeSpec := { name := "fnCutAudioTwice", fn := fun _ => fun
  | [d] => { results := [.lit (.bool false)], args := [d] }
  | _ => none }
def FnCutAudioTwiceWrongFalsely : Prop := fnCutAudioTwiceRow.holds Try.pinned (OpenSpec.ofChange fnCutAudioTwiceWrong)

/-- 'laws.FnFadeAudioNone': WHATEVER THE INPUT: true; the input reads as it did. -/
def fnFadeAudioNoneSpec : ChangeSpec := { name := "fnFadeAudioNone", fn := fun _ => fun
  | [d] => { results := [.lit (.bool true)], args := [d] }
  | _ => none }
def fnFadeAudioNoneRow : OpenClaim := { program := "ytncbgofcimghnaa", sum := "b699c308cf1a962523b32c7783a44ff611fb59786f196226c290457e2e549d03", func := "loop.example/losslessaudio/laws.FnFadeAudioNone", spec := "fnFadeAudioNone", unfollowed := true, recurses := true, apart := false }
def FnFadeAudioNoneSaid : Prop := fnFadeAudioNoneRow.holds Try.pinned (OpenSpec.ofChange fnFadeAudioNoneSpec)

/-- ITS FALSE NEIGHBOUR: 'it returns false'. Refute it at one input. -/
def fnFadeAudioNoneWrong : ChangeSpec := { name := "fnFadeAudioNone", fn := fun _ => fun
  | [d] => { results := [.lit (.bool false)], args := [d] }
  | _ => none }
def FnFadeAudioNoneWrongFalsely : Prop := fnFadeAudioNoneRow.holds Try.pinned (OpenSpec.ofChange fnFadeAudioNoneWrong)

/-- 'laws.FnPeakOfJoin': WHATEVER THE INPUT: true; the input reads as it did. -/
def fnPeakOfJoinSpec : ChangeSpec := { name := "fnPeakOfJoin", fn := fun _ => fun
  | [d] => { results := [.lit (.bool true)], args := [d] }
  | _ => none }
def fnPeakOfJoinRow : OpenClaim := { program := "ytncbgofcimghnaa", sum := "b699c308cf1a962523b32c7783a44ff611fb59786f196226c290457e2e549d03", func := "loop.example/losslessaudio/laws.FnPeakOfJoin", spec := "fnPeakOfJoin", unfollowed := true, recurses := true, apart := false }
def FnPeakOfJoinSaid : Prop := fnPeakOfJoinRow.holds Try.pinned (OpenSpec.ofChange fnPeakOfJoinSpec)

/-- ITS FALSE NEIGHBOUR: 'it returns false'. Refute it at one input. -/
def fnPeakOfJoinWrong : ChangeSpec := { name := "fnPeakOfJoin", fn := fun _ => fun
  | [d] => { results := [.lit (.bool false)], args := [d] }
  | _ => none }
def FnPeakOfJoinWrongFalsely : Prop := fnPeakOfJoinRow.holds Try.pinned (OpenSpec.ofChange fnPeakOfJoinWrong)

/-- 'laws.FnExactCutAudio': WHATEVER THE INPUT: true; the input reads as it did. -/
def fnExactCutAudioSpec : ChangeSpec := { name := "fnExactCutAudio", fn := fun _ => fun
  | [d1, d2, d3] => { results := [.lit (.bool true)], args := [d1, d2, d3] }
  | _ => none }
def fnExactCutAudioRow : OpenClaim := { program := "ytncbgofcimghnaa", sum := "b699c308cf1a962523b32c7783a44ff611fb59786f196226c290457e2e549d03", func := "loop.example/losslessaudio/laws.FnExactCutAudio", spec := "fnExactCutAudio", unfollowed := true, recurses := true, apart := false }
def FnExactCutAudioSaid : Prop := fnExactCutAudioRow.holds Try.pinned (OpenSpec.ofChange fnExactCutAudioSpec)

/-- ITS FALSE NEIGHBOUR: 'it returns false'. Refute it at one input. -/
def fnExactCutAudioWrong : ChangeSpec := { name := "fnExactCutAudio", fn := fun _ => fun
  | [d1, d2, d3] => { results := [.lit (.bool false)], args := [d1, d2, d3] }
  | _ => none }
def FnExactCutAudioWrongFalsely : Prop := fnExactCutAudioRow.holds Try.pinned (OpenSpec.ofChange fnExactCutAudioWrong)

/-- 'laws.FnExactJoinAudio': WHATEVER THE INPUT: true; the input reads as it did. -/
def fnExactJoinAudioSpec : ChangeSpec := { name := "fnExactJoinAudio", fn := fun _ => fun
  | [d1, d2] => { results := [.lit (.bool true)], args := [d1, d2] }
  | _ => none }
def fnExactJoinAudioRow : OpenClaim := { program := "ytncbgofcimghnaa", sum := "b699c308cf1a962523b32c7783a44ff611fb59786f196226c290457e2e549d03", func := "loop.example/losslessaudio/laws.FnExactJoinAudio", spec := "fnExactJoinAudio", unfollowed := true, recurses := true, apart := false }
def FnExactJoinAudioSaid : Prop := fnExactJoinAudioRow.holds Try.pinned (OpenSpec.ofChange fnExactJoinAudioSpec)

/-- ITS FALSE NEIGHBOUR: 'it returns false'. Refute it at one input. -/
def fnExactJoinAudioWrong : ChangeSpec := { name := "fnExactJoinAudio", fn := fun _ => fun
  | [d1, d2] => { results := [.lit (.bool false)], args := [d1, d2] }
  | _ => none }
def FnExactJoinAudioWrongFalsely : Prop := fnExactJoinAudioRow.holds Try.pinned (OpenSpec.ofChange fnExactJoinAudioWrong)

/-- 'laws.FnExactFadeAudio': WHATEVER THE INPUT: true; the input reads as it did. -/
def fnExactFadeAudioSpec : ChangeSpec := { name := "fnExactFadeAudio", fn := fun _ => fun
  | [d1, d2] => { results := [.lit (.bool true)], args := [d1, d2] }
  | _ => none }
def fnExactFadeAudioRow : OpenClaim := { program := "ytncbgofcimghnaa", sum := "b699c308cf1a962523b32c7783a44ff611fb59786f196226c290457e2e549d03", func := "loop.example/losslessaudio/laws.FnExactFadeAudio", spec := "fnExactFadeAudio", unfollowed := true, recurses := true, apart := false }
def FnExactFadeAudioSaid : Prop := fnExactFadeAudioRow.holds Try.pinned (OpenSpec.ofChange fnExactFadeAudioSpec)

/-- ITS FALSE NEIGHBOUR: 'it returns false'. Refute it at one input. -/
def fnExactFadeAudioWrong : ChangeSpec := { name := "fnExactFadeAudio", fn := fun _ => fun
  | [d1, d2] => { results := [.lit (.bool false)], args := [d1, d2] }
  | _ => none }
def FnExactFadeAudioWrongFalsely : Prop := fnExactFadeAudioRow.holds Try.pinned (OpenSpec.ofChange fnExactFadeAudioWrong)

/-- 'laws.FnExactReverseAudio': WHATEVER THE INPUT: true; the input reads as it did. -/
def fnExactReverseAudioSpec : ChangeSpec := { name := "fnExactReverseAudio", fn := fun _ => fun
  | [d] => { results := [.lit (.bool true)], args := [d] }
  | _ => none }
def fnExactReverseAudioRow : OpenClaim := { program := "ytncbgofcimghnaa", sum := "b699c308cf1a962523b32c7783a44ff611fb59786f196226c290457e2e549d03", func := "loop.example/losslessaudio/laws.FnExactReverseAudio", spec := "fnExactReverseAudio", unfollowed := true, recurses := true, apart := false }
def FnExactReverseAudioSaid : Prop := fnExactReverseAudioRow.holds Try.pinned (OpenSpec.ofChange fnExactReverseAudioSpec)

/-- ITS FALSE NEIGHBOUR: 'it returns false'. Refute it at one input. -/
def fnExactReverseAudioWrong : ChangeSpec := { name := "fnExactReverseAudio", fn := fun _ => fun
  | [d] => { results := [.lit (.bool false)], args := [d] }
  | _ => none }
def FnExactReverseAudioWrongFalsely : Prop := fnExactReverseAudioRow.holds Try.pinned (OpenSpec.ofChange fnExactReverseAudioWrong)

/- THE SECOND FORM. 'bulk': how many values and letters a reading holds, each counted each time it is reached (what is shared counts as often as it is met; a slice's spare places count too). A statement '..UptoSaid' is the law's where the arguments, and the package variables that the reading takes, are together of bulk at most 1048576: NARROWER than '..Said'. Prove '..Said' where nothing that the law and all that it calls make is longer than what came in: it says more and counts as full. Else prove '..UptoSaid'. A law counts once. -/
mutual
def uptoBulk {H : Type} : DataW H → Nat
  | .lit (.string bytes) => bytes.length + 1
  | .lit _ => 1
  | .nil => 1
  | .ptr d => uptoBulk d + 1
  | .slice elems spare => uptoBulkAll elems + uptoBulkAll spare + 1
  | .agg parts => uptoBulkAll parts + 1
  | .iface _ d => uptoBulk d + 1
  | .map entries => uptoBulkEntries entries + 1
  | .held _ => 1
def uptoBulkAll {H : Type} : List (DataW H) → Nat
  | [] => 0
  | d :: r => uptoBulk d + uptoBulkAll r
def uptoBulkEntries {H : Type} : List (Lit × DataW H) → Nat
  | [] => 0
  | x :: r => uptoBulkEntry x + uptoBulkEntries r
def uptoBulkEntry {H : Type} : Lit × DataW H → Nat
  | (.string bytes, d) => bytes.length + uptoBulk d + 1
  | (_, d) => uptoBulk d + 1
 end
def uptoSmall : (H : Type) → List (DataW H) → Bool := fun _ ds => decide (uptoBulkAll ds ≤ 1048576)
def OpenSpec.upto (s : _root_.Go.ChangeSpec) : _root_.Go.OpenSpec := { _root_.Go.OpenSpec.ofChange s with cond := some uptoSmall }

/-- 'laws.FnCutAudio', WHERE WHAT IT READS IS OF BULK AT MOST 1048576: true; the input reads as it did. -/
def fnCutAudioUptoRow : OpenClaim := { program := "ytncbgofcimghnaa", sum := "b699c308cf1a962523b32c7783a44ff611fb59786f196226c290457e2e549d03", func := "loop.example/losslessaudio/laws.FnCutAudio", spec := "fnCutAudio", unfollowed := true, recurses := true, apart := false, narrowed := true }
def FnCutAudioUptoSaid : Prop := fnCutAudioUptoRow.holds Try.pinned (OpenSpec.upto fnCutAudioSpec)

/-- 'laws.FnJoinAudio', WHERE WHAT IT READS IS OF BULK AT MOST 1048576: true; the input reads as it did. -/
def fnJoinAudioUptoRow : OpenClaim := { program := "ytncbgofcimghnaa", sum := "b699c308cf1a962523b32c7783a44ff611fb59786f196226c290457e2e549d03", func := "loop.example/losslessaudio/laws.FnJoinAudio", spec := "fnJoinAudio", unfollowed := true, recurses := true, apart := false, narrowed := true }
def FnJoinAudioUptoSaid : Prop := fnJoinAudioUptoRow.holds Try.pinned (OpenSpec.upto fnJoinAudioSpec)

/-- 'laws.FnFadeAudio', WHERE WHAT IT READS IS OF BULK AT MOST 1048576: true; the input reads as it did. -/
def fnFadeAudioUptoRow : OpenClaim := { program := "ytncbgofcimghnaa", sum := "b699c308cf1a962523b32c7783a44ff611fb59786f196226c290457e2e549d03", func := "loop.example/losslessaudio/laws.FnFadeAudio", spec := "fnFadeAudio", unfollowed := true, recurses := true, apart := false, narrowed := true }
def FnFadeAudioUptoSaid : Prop := fnFadeAudioUptoRow.holds Try.pinned (OpenSpec.upto fnFadeAudioSpec)

/-- 'laws.FnReverseAudio', WHERE WHAT IT READS IS OF BULK AT MOST 1048576: true; the input reads as it did. -/
def fnReverseAudioUptoRow : OpenClaim := { program := "ytncbgofcimghnaa", sum := "b699c308cf1a962523b32c7783a44ff611fb59786f196226c290457e2e549d03", func := "loop.example/losslessaudio/laws.FnReverseAudio", spec := "fnReverseAudio", unfollowed := true, recurses := true, apart := false, narrowed := true }
def FnReverseAudioUptoSaid : Prop := fnReverseAudioUptoRow.holds Try.pinned (OpenSpec.upto fnReverseAudioSpec)

/-- 'laws.FnReverseJoin', WHERE WHAT IT READS IS OF BULK AT MOST 1048576: true; the input reads as it did. -/
def fnReverseJoinUptoRow : OpenClaim := { program := "ytncbgofcimghnaa", sum := "b699c308cf1a962523b32c7783a44ff611fb59786f196226c290457e2e549d03", func := "loop.example/losslessaudio/laws.FnReverseJoin", spec := "fnReverseJoin", unfollowed := true, recurses := true, apart := false, narrowed := true }
def FnReverseJoinUptoSaid : Prop := fnReverseJoinUptoRow.holds Try.pinned (OpenSpec.upto fnReverseJoinSpec)

/-- 'laws.FnCutAudioTwice', WHERE WHAT IT READS IS OF BULK AT MOST 1048576: true; the input reads as it did. -/
def fnCutAudioTwiceUptoRow : OpenClaim := { program := "ytncbgofcimghnaa", sum := "b699c308cf1a962523b32c7783a44ff611fb59786f196226c290457e2e549d03", func := "loop.example/losslessaudio/laws.FnCutAudioTwice", spec := "fnCutAudioTwice", unfollowed := true, recurses := true, apart := false, narrowed := true }
def FnCutAudioTwiceUptoSaid : Prop := fnCutAudioTwiceUptoRow.holds Try.pinned (OpenSpec.upto fnCutAudioTwiceSpec)

/-- 'laws.FnFadeAudioNone', WHERE WHAT IT READS IS OF BULK AT MOST 1048576: true; the input reads as it did. -/
def fnFadeAudioNoneUptoRow : OpenClaim := { program := "ytncbgofcimghnaa", sum := "b699c308cf1a962523b32c7783a44ff611fb59786f196226c290457e2e549d03", func := "loop.example/losslessaudio/laws.FnFadeAudioNone", spec := "fnFadeAudioNone", unfollowed := true, recurses := true, apart := false, narrowed := true }
def FnFadeAudioNoneUptoSaid : Prop := fnFadeAudioNoneUptoRow.holds Try.pinned (OpenSpec.upto fnFadeAudioNoneSpec)

/-- 'laws.FnPeakOfJoin', WHERE WHAT IT READS IS OF BULK AT MOST 1048576: true; the input reads as it did. -/
def fnPeakOfJoinUptoRow : OpenClaim := { program := "ytncbgofcimghnaa", sum := "b699c308cf1a962523b32c7783a44ff611fb59786f196226c290457e2e549d03", func := "loop.example/losslessaudio/laws.FnPeakOfJoin", spec := "fnPeakOfJoin", unfollowed := true, recurses := true, apart := false, narrowed := true }
def FnPeakOfJoinUptoSaid : Prop := fnPeakOfJoinUptoRow.holds Try.pinned (OpenSpec.upto fnPeakOfJoinSpec)

/-- 'laws.FnExactCutAudio', WHERE WHAT IT READS IS OF BULK AT MOST 1048576: true; the input reads as it did. -/
def fnExactCutAudioUptoRow : OpenClaim := { program := "ytncbgofcimghnaa", sum := "b699c308cf1a962523b32c7783a44ff611fb59786f196226c290457e2e549d03", func := "loop.example/losslessaudio/laws.FnExactCutAudio", spec := "fnExactCutAudio", unfollowed := true, recurses := true, apart := false, narrowed := true }
def FnExactCutAudioUptoSaid : Prop := fnExactCutAudioUptoRow.holds Try.pinned (OpenSpec.upto fnExactCutAudioSpec)

/-- 'laws.FnExactJoinAudio', WHERE WHAT IT READS IS OF BULK AT MOST 1048576: true; the input reads as it did. -/
def fnExactJoinAudioUptoRow : OpenClaim := { program := "ytncbgofcimghnaa", sum := "b699c308cf1a962523b32c7783a44ff611fb59786f196226c290457e2e549d03", func := "loop.example/losslessaudio/laws.FnExactJoinAudio", spec := "fnExactJoinAudio", unfollowed := true, recurses := true, apart := false, narrowed := true }
def FnExactJoinAudioUptoSaid : Prop := fnExactJoinAudioUptoRow.holds Try.pinned (OpenSpec.upto fnExactJoinAudioSpec)

/-- 'laws.FnExactFadeAudio', WHERE WHAT IT READS IS OF BULK AT MOST 1048576: true; the input reads as it did. -/
def fnExactFadeAudioUptoRow : OpenClaim := { program := "ytncbgofcimghnaa", sum := "b699c308cf1a962523b32c7783a44ff611fb59786f196226c290457e2e549d03", func := "loop.example/losslessaudio/laws.FnExactFadeAudio", spec := "fnExactFadeAudio", unfollowed := true, recurses := true, apart := false, narrowed := true }
def FnExactFadeAudioUptoSaid : Prop := fnExactFadeAudioUptoRow.holds Try.pinned (OpenSpec.upto fnExactFadeAudioSpec)

/-- 'laws.FnExactReverseAudio', WHERE WHAT IT READS IS OF BULK AT MOST 1048576: true; the input reads as it did. -/
def fnExactReverseAudioUptoRow : OpenClaim := { program := "ytncbgofcimghnaa", sum := "b699c308cf1a962523b32c7783a44ff611fb59786f196226c290457e2e549d03", func := "loop.example/losslessaudio/laws.FnExactReverseAudio", spec := "fnExactReverseAudio", unfollowed := true, recurses := true, apart := false, narrowed := true }
def FnExactReverseAudioUptoSaid : Prop := fnExactReverseAudioUptoRow.holds Try.pinned (OpenSpec.upto fnExactReverseAudioSpec)

end Rows
end Go.Proofs.Ytncbgofcimghnaa
