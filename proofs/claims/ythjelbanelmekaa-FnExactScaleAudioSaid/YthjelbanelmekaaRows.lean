/-
  No cell of these rows narrows 'for every input' (looked for: loops, veiled, ifaces, maps, wideKeys, modest, calm, conditions, laid).
  DERIVED. THE GIVEN ROWS OF THIS SEAT. 12 by the template 'for every input the law returns true; each argument reads behind the call as it read before'; 0 by the template 'total and deterministic' (their statements: YthjelbanelmekaaTotals.lean).
  GIVEN WITH THE SEED: the statements are not yours to turn. If you find one false, say at which input.
  Laid BY PROGRAM, IN A SANDBOX (cutbox-rows.mjs): the forced cells as the released guide's own fill.sh prints them over the translation bacbd746fac483c1… (all of the seat's roots in one cut). By AI agents, Wed Nov 11 2026. No macro, syntax, notation, axiom, sorry.
-/
import Derived.Test.YthjelbanelmekaaChecked
import GoSem.Claim
import GoSem.ClaimJoined
import GoSem.ClaimMapViews
import Derived.JoinedTies
import Derived.KernelRfl
namespace Go.Proofs.Ythjelbanelmekaa
/- THE CELL 'sum', in the pinned program and in every row, IS THE sha256 OF THE DUMP (.gsa) THAT YthjelbanelmekaaProg.lean LOADS. Nothing in Lean hashes anything: it is a label: what it is worth is what the hold of that sum in a sandbox is worth. -/
noncomputable def Try.pinned : Pinned := { name := "ythjelbanelmekaa", sum := "bacbd746fac483c1ccb34bad5476946829fb0268b322e8ceb67c781ddc8a48bf", checked := Try.checked }
namespace Rows
def none {H : Type} : Left H := { results := [], args := [] }

/-- 'laws.FnPeakOf': WHATEVER THE INPUT: true; the input reads as it did. -/
def fnPeakOfSpec : ChangeSpec := { name := "fnPeakOf", fn := fun _ => fun
  | [d] => { results := [.lit (.bool true)], args := [d] }
  | _ => none }
def fnPeakOfRow : OpenClaim := { program := "ythjelbanelmekaa", sum := "bacbd746fac483c1ccb34bad5476946829fb0268b322e8ceb67c781ddc8a48bf", func := "loop.example/losslessaudio/laws.FnPeakOf", spec := "fnPeakOf", unfollowed := true, recurses := true, apart := false }
def FnPeakOfSaid : Prop := fnPeakOfRow.holds Try.pinned (OpenSpec.ofChange fnPeakOfSpec)

/-- ITS FALSE NEIGHBOUR: 'it returns false'. Refute it at one input. -/
def fnPeakOfWrong : ChangeSpec := { name := "fnPeakOf", fn := fun _ => fun
  | [d] => { results := [.lit (.bool false)], args := [d] }
  | _ => none }
def FnPeakOfWrongFalsely : Prop := fnPeakOfRow.holds Try.pinned (OpenSpec.ofChange fnPeakOfWrong)

/-- 'laws.FnLoudnessWindow': WHATEVER THE INPUT: true; the input reads as it did. -/
def fnLoudnessWindowSpec : ChangeSpec := { name := "fnLoudnessWindow", fn := fun _ => fun
  | [d] => { results := [.lit (.bool true)], args := [d] }
  | _ => none }
def fnLoudnessWindowRow : OpenClaim := { program := "ythjelbanelmekaa", sum := "bacbd746fac483c1ccb34bad5476946829fb0268b322e8ceb67c781ddc8a48bf", func := "loop.example/losslessaudio/laws.FnLoudnessWindow", spec := "fnLoudnessWindow", unfollowed := true, recurses := true, apart := false }
def FnLoudnessWindowSaid : Prop := fnLoudnessWindowRow.holds Try.pinned (OpenSpec.ofChange fnLoudnessWindowSpec)

/-- ITS FALSE NEIGHBOUR: 'it returns false'. Refute it at one input. -/
def fnLoudnessWindowWrong : ChangeSpec := { name := "fnLoudnessWindow", fn := fun _ => fun
  | [d] => { results := [.lit (.bool false)], args := [d] }
  | _ => none }
def FnLoudnessWindowWrongFalsely : Prop := fnLoudnessWindowRow.holds Try.pinned (OpenSpec.ofChange fnLoudnessWindowWrong)

/-- 'laws.FnScaleAudio': WHATEVER THE INPUT: true; the input reads as it did. -/
def fnScaleAudioSpec : ChangeSpec := { name := "fnScaleAudio", fn := fun _ => fun
  | [d] => { results := [.lit (.bool true)], args := [d] }
  | _ => none }
def fnScaleAudioRow : OpenClaim := { program := "ythjelbanelmekaa", sum := "bacbd746fac483c1ccb34bad5476946829fb0268b322e8ceb67c781ddc8a48bf", func := "loop.example/losslessaudio/laws.FnScaleAudio", spec := "fnScaleAudio", unfollowed := true, recurses := true, apart := false }
def FnScaleAudioSaid : Prop := fnScaleAudioRow.holds Try.pinned (OpenSpec.ofChange fnScaleAudioSpec)

/-- ITS FALSE NEIGHBOUR: 'it returns false'. Refute it at one input. -/
def fnScaleAudioWrong : ChangeSpec := { name := "fnScaleAudio", fn := fun _ => fun
  | [d] => { results := [.lit (.bool false)], args := [d] }
  | _ => none }
def FnScaleAudioWrongFalsely : Prop := fnScaleAudioRow.holds Try.pinned (OpenSpec.ofChange fnScaleAudioWrong)

/-- 'laws.FnScaleAudioTwice': WHATEVER THE INPUT: true; the input reads as it did. -/
def fnScaleAudioTwiceSpec : ChangeSpec := { name := "fnScaleAudioTwice", fn := fun _ => fun
  | [d] => { results := [.lit (.bool true)], args := [d] }
  | _ => none }
def fnScaleAudioTwiceRow : OpenClaim := { program := "ythjelbanelmekaa", sum := "bacbd746fac483c1ccb34bad5476946829fb0268b322e8ceb67c781ddc8a48bf", func := "loop.example/losslessaudio/laws.FnScaleAudioTwice", spec := "fnScaleAudioTwice", unfollowed := true, recurses := true, apart := false }
def FnScaleAudioTwiceSaid : Prop := fnScaleAudioTwiceRow.holds Try.pinned (OpenSpec.ofChange fnScaleAudioTwiceSpec)

/-- ITS FALSE NEIGHBOUR: 'it returns false'. Refute it at one input. -/
def fnScaleAudioTwiceWrong : ChangeSpec := { name := "fnScaleAudioTwice", fn := fun _ => fun
  | [d] => { results := [.lit (.bool false)], args := [d] }
  | _ => none }
def FnScaleAudioTwiceWrongFalsely : Prop := fnScaleAudioTwiceRow.holds Try.pinned (OpenSpec.ofChange fnScaleAudioTwiceWrong)

/-- 'laws.FnScaleAudioOrder': WHATEVER THE INPUT: true; the input reads as it did. -/
def fnScaleAudioOrderSpec : ChangeSpec := { name := "fnScaleAudioOrder", fn := fun _ => fun
  | [d] => { results := [.lit (.bool true)], args := [d] }
  | _ => none }
def fnScaleAudioOrderRow : OpenClaim := { program := "ythjelbanelmekaa", sum := "bacbd746fac483c1ccb34bad5476946829fb0268b322e8ceb67c781ddc8a48bf", func := "loop.example/losslessaudio/laws.FnScaleAudioOrder", spec := "fnScaleAudioOrder", unfollowed := true, recurses := true, apart := false }
def FnScaleAudioOrderSaid : Prop := fnScaleAudioOrderRow.holds Try.pinned (OpenSpec.ofChange fnScaleAudioOrderSpec)

/-- ITS FALSE NEIGHBOUR: 'it returns false'. Refute it at one input. -/
def fnScaleAudioOrderWrong : ChangeSpec := { name := "fnScaleAudioOrder", fn := fun _ => fun
  | [d] => { results := [.lit (.bool false)], args := [d] }
  | _ => none }
def FnScaleAudioOrderWrongFalsely : Prop := fnScaleAudioOrderRow.holds Try.pinned (OpenSpec.ofChange fnScaleAudioOrderWrong)

/-- 'laws.FnScaleAudioSilence': WHATEVER THE INPUT: true; the input reads as it did. -/
def fnScaleAudioSilenceSpec : ChangeSpec := { name := "fnScaleAudioSilence", fn := fun _ => fun
  | [d] => { results := [.lit (.bool true)], args := [d] }
  | _ => none }
def fnScaleAudioSilenceRow : OpenClaim := { program := "ythjelbanelmekaa", sum := "bacbd746fac483c1ccb34bad5476946829fb0268b322e8ceb67c781ddc8a48bf", func := "loop.example/losslessaudio/laws.FnScaleAudioSilence", spec := "fnScaleAudioSilence", unfollowed := true, recurses := true, apart := false }
def FnScaleAudioSilenceSaid : Prop := fnScaleAudioSilenceRow.holds Try.pinned (OpenSpec.ofChange fnScaleAudioSilenceSpec)

/-- ITS FALSE NEIGHBOUR: 'it returns false'. Refute it at one input. -/
def fnScaleAudioSilenceWrong : ChangeSpec := { name := "fnScaleAudioSilence", fn := fun _ => fun
  | [d] => { results := [.lit (.bool false)], args := [d] }
  | _ => none }
def FnScaleAudioSilenceWrongFalsely : Prop := fnScaleAudioSilenceRow.holds Try.pinned (OpenSpec.ofChange fnScaleAudioSilenceWrong)

/-- 'laws.FnGainFor': WHATEVER THE INPUT: true; the input reads as it did. -/
def fnGainForSpec : ChangeSpec := { name := "fnGainFor", fn := fun _ => fun
  | [d] => { results := [.lit (.bool true)], args := [d] }
  | _ => none }
def fnGainForRow : OpenClaim := { program := "ythjelbanelmekaa", sum := "bacbd746fac483c1ccb34bad5476946829fb0268b322e8ceb67c781ddc8a48bf", func := "loop.example/losslessaudio/laws.FnGainFor", spec := "fnGainFor", unfollowed := true, recurses := true, apart := false }
def FnGainForSaid : Prop := fnGainForRow.holds Try.pinned (OpenSpec.ofChange fnGainForSpec)

/-- ITS FALSE NEIGHBOUR: 'it returns false'. Refute it at one input. -/
def fnGainForWrong : ChangeSpec := { name := "fnGainFor", fn := fun _ => fun
  | [d] => { results := [.lit (.bool false)], args := [d] }
  | _ => none }
def FnGainForWrongFalsely : Prop := fnGainForRow.holds Try.pinned (OpenSpec.ofChange fnGainForWrong)

/-- 'laws.FnGainForMore': WHATEVER THE INPUT: true; the input reads as it did. -/
def fnGainForMoreSpec : ChangeSpec := { name := "fnGainForMore", fn := fun _ => fun
  | [d] => { results := [.lit (.bool true)], args := [d] }
  | _ => none }
def fnGainForMoreRow : OpenClaim := { program := "ythjelbanelmekaa", sum := "bacbd746fac483c1ccb34bad5476946829fb0268b322e8ceb67c781ddc8a48bf", func := "loop.example/losslessaudio/laws.FnGainForMore", spec := "fnGainForMore", unfollowed := true, recurses := true, apart := false }
def FnGainForMoreSaid : Prop := fnGainForMoreRow.holds Try.pinned (OpenSpec.ofChange fnGainForMoreSpec)

/-- ITS FALSE NEIGHBOUR: 'it returns false'. Refute it at one input. -/
def fnGainForMoreWrong : ChangeSpec := { name := "fnGainForMore", fn := fun _ => fun
  | [d] => { results := [.lit (.bool false)], args := [d] }
  | _ => none }
def FnGainForMoreWrongFalsely : Prop := fnGainForMoreRow.holds Try.pinned (OpenSpec.ofChange fnGainForMoreWrong)

/-- 'laws.FnExactPeakOf': WHATEVER THE INPUT: true; the input reads as it did. -/
def fnExactPeakOfSpec : ChangeSpec := { name := "fnExactPeakOf", fn := fun _ => fun
  | [d] => { results := [.lit (.bool true)], args := [d] }
  | _ => none }
def fnExactPeakOfRow : OpenClaim := { program := "ythjelbanelmekaa", sum := "bacbd746fac483c1ccb34bad5476946829fb0268b322e8ceb67c781ddc8a48bf", func := "loop.example/losslessaudio/laws.FnExactPeakOf", spec := "fnExactPeakOf", unfollowed := true, recurses := true, apart := false }
def FnExactPeakOfSaid : Prop := fnExactPeakOfRow.holds Try.pinned (OpenSpec.ofChange fnExactPeakOfSpec)

/-- ITS FALSE NEIGHBOUR: 'it returns false'. Refute it at one input. -/
def fnExactPeakOfWrong : ChangeSpec := { name := "fnExactPeakOf", fn := fun _ => fun
  | [d] => { results := [.lit (.bool false)], args := [d] }
  | _ => none }
def FnExactPeakOfWrongFalsely : Prop := fnExactPeakOfRow.holds Try.pinned (OpenSpec.ofChange fnExactPeakOfWrong)

/-- 'laws.FnExactLoudnessOf': WHATEVER THE INPUT: true; the input reads as it did. -/
def fnExactLoudnessOfSpec : ChangeSpec := { name := "fnExactLoudnessOf", fn := fun _ => fun
  | [d1, d2] => { results := [.lit (.bool true)], args := [d1, d2] }
  | _ => none }
def fnExactLoudnessOfRow : OpenClaim := { program := "ythjelbanelmekaa", sum := "bacbd746fac483c1ccb34bad5476946829fb0268b322e8ceb67c781ddc8a48bf", func := "loop.example/losslessaudio/laws.FnExactLoudnessOf", spec := "fnExactLoudnessOf", unfollowed := true, recurses := true, apart := false }
def FnExactLoudnessOfSaid : Prop := fnExactLoudnessOfRow.holds Try.pinned (OpenSpec.ofChange fnExactLoudnessOfSpec)

/-- ITS FALSE NEIGHBOUR: 'it returns false'. Refute it at one input. -/
def fnExactLoudnessOfWrong : ChangeSpec := { name := "fnExactLoudnessOf", fn := fun _ => fun
  | [d1, d2] => { results := [.lit (.bool false)], args := [d1, d2] }
  | _ => none }
def FnExactLoudnessOfWrongFalsely : Prop := fnExactLoudnessOfRow.holds Try.pinned (OpenSpec.ofChange fnExactLoudnessOfWrong)

/-- 'laws.FnExactScaleAudio': WHATEVER THE INPUT: true; the input reads as it did. -/
def fnExactScaleAudioSpec : ChangeSpec := { name := "fnExactScaleAudio", fn := fun _ => fun
  | [d1, d2, d3] => { results := [.lit (.bool true)], args := [d1, d2, d3] }
  | _ => none }
def fnExactScaleAudioRow : OpenClaim := { program := "ythjelbanelmekaa", sum := "bacbd746fac483c1ccb34bad5476946829fb0268b322e8ceb67c781ddc8a48bf", func := "loop.example/losslessaudio/laws.FnExactScaleAudio", spec := "fnExactScaleAudio", unfollowed := true, recurses := true, apart := false }
def FnExactScaleAudioSaid : Prop := fnExactScaleAudioRow.holds Try.pinned (OpenSpec.ofChange fnExactScaleAudioSpec)

/-- ITS FALSE NEIGHBOUR: 'it returns false'. Refute it at one input. -/
def fnExactScaleAudioWrong : ChangeSpec := { name := "fnExactScaleAudio", fn := fun _ => fun
  | [d1, d2, d3] => { results := [.lit (.bool false)], args := [d1, d2, d3] }
  | _ => none }
def FnExactScaleAudioWrongFalsely : Prop := fnExactScaleAudioRow.holds Try.pinned (OpenSpec.ofChange fnExactScaleAudioWrong)

/-- 'laws.FnExactGainFor': WHATEVER THE INPUT: true; the input reads as it did. -/
def fnExactGainForSpec : ChangeSpec := { name := "fnExactGainFor", fn := fun _ => fun
  | [d1, d2] => { results := [.lit (.bool true)], args := [d1, d2] }
  | _ => none }
def fnExactGainForRow : OpenClaim := { program := "ythjelbanelmekaa", sum := "bacbd746fac483c1ccb34bad5476946829fb0268b322e8ceb67c781ddc8a48bf", func := "loop.example/losslessaudio/laws.FnExactGainFor", spec := "fnExactGainFor", unfollowed := true, recurses := true, apart := false }
def FnExactGainForSaid : Prop := fnExactGainForRow.holds Try.pinned (OpenSpec.ofChange fnExactGainForSpec)

/-- ITS FALSE NEIGHBOUR: 'it returns false'. Refute it at one input. -/
def fnExactGainForWrong : ChangeSpec := { name := "fnExactGainFor", fn := fun _ => fun
  | [d1, d2] => { results := [.lit (.bool false)], args := [d1, d2] }
  | _ => none }
def FnExactGainForWrongFalsely : Prop := fnExactGainForRow.holds Try.pinned (OpenSpec.ofChange fnExactGainForWrong)

/- THE SECOND FORM. 'bulk': how many values and letters a reading holds, each counted each time it is reached (what is shared counts as often as it is met; a slice's spare places count too). A statement '..UptoSaid' is the law's where the arguments, and the package variables that the reading takes, are together of bulk at most 1048576: NARROWER than '..Said'. Prove '..Said' where nothing that the law and all that it calls make is longer than what came in: it says more and counts as full. Else prove '..UptoSaid'. A law counts once. -/
mutual
def uptoBulk {H : Type} : DataW H → Nat
  | .lit (.string bytes) => bytes.length + 1
  | .lit _ => 1
  | .nil => 1
  | .ptr d => uptoBulk d + 1
  | .slice elems spare => uptoBulkAll elems + uptoBulkAll spare + 1
  | .agg parts => uptoBulkAll parts + 1
  | .iface _ d => uptoBulk d + 1
  | .map entries => uptoBulkEntries entries + 1
  | .held _ => 1
def uptoBulkAll {H : Type} : List (DataW H) → Nat
  | [] => 0
  | d :: r => uptoBulk d + uptoBulkAll r
def uptoBulkEntries {H : Type} : List (Lit × DataW H) → Nat
  | [] => 0
  | x :: r => uptoBulkEntry x + uptoBulkEntries r
def uptoBulkEntry {H : Type} : Lit × DataW H → Nat
  | (.string bytes, d) => bytes.length + uptoBulk d + 1
  | (_, d) => uptoBulk d + 1
 end
def uptoSmall : (H : Type) → List (DataW H) → Bool := fun _ ds => decide (uptoBulkAll ds ≤ 1048576)
def OpenSpec.upto (s : _root_.Go.ChangeSpec) : _root_.Go.OpenSpec := { _root_.Go.OpenSpec.ofChange s with cond := some uptoSmall }

/-- 'laws.FnPeakOf', WHERE WHAT IT READS IS OF BULK AT MOST 1048576: true; the input reads as it did. -/
def fnPeakOfUptoRow : OpenClaim := { program := "ythjelbanelmekaa", sum := "bacbd746fac483c1ccb34bad5476946829fb0268b322e8ceb67c781ddc8a48bf", func := "loop.example/losslessaudio/laws.FnPeakOf", spec := "fnPeakOf", unfollowed := true, recurses := true, apart := false, narrowed := true }
def FnPeakOfUptoSaid : Prop := fnPeakOfUptoRow.holds Try.pinned (OpenSpec.upto fnPeakOfSpec)

/-- 'laws.FnLoudnessWindow', WHERE WHAT IT READS IS OF BULK AT MOST 1048576: true; the input reads as it did. -/
def fnLoudnessWindowUptoRow : OpenClaim := { program := "ythjelbanelmekaa", sum := "bacbd746fac483c1ccb34bad5476946829fb0268b322e8ceb67c781ddc8a48bf", func := "loop.example/losslessaudio/laws.FnLoudnessWindow", spec := "fnLoudnessWindow", unfollowed := true, recurses := true, apart := false, narrowed := true }
def FnLoudnessWindowUptoSaid : Prop := fnLoudnessWindowUptoRow.holds Try.pinned (OpenSpec.upto fnLoudnessWindowSpec)

/-- 'laws.FnScaleAudio', WHERE WHAT IT READS IS OF BULK AT MOST 1048576: true; the input reads as it did. -/
def fnScaleAudioUptoRow : OpenClaim := { program := "ythjelbanelmekaa", sum := "bacbd746fac483c1ccb34bad5476946829fb0268b322e8ceb67c781ddc8a48bf", func := "loop.example/losslessaudio/laws.FnScaleAudio", spec := "fnScaleAudio", unfollowed := true, recurses := true, apart := false, narrowed := true }
def FnScaleAudioUptoSaid : Prop := fnScaleAudioUptoRow.holds Try.pinned (OpenSpec.upto fnScaleAudioSpec)

/-- 'laws.FnScaleAudioTwice', WHERE WHAT IT READS IS OF BULK AT MOST 1048576: true; the input reads as it did. -/
def fnScaleAudioTwiceUptoRow : OpenClaim := { program := "ythjelbanelmekaa", sum := "bacbd746fac483c1ccb34bad5476946829fb0268b322e8ceb67c781ddc8a48bf", func := "loop.example/losslessaudio/laws.FnScaleAudioTwice", spec := "fnScaleAudioTwice", unfollowed := true, recurses := true, apart := false, narrowed := true }
def FnScaleAudioTwiceUptoSaid : Prop := fnScaleAudioTwiceUptoRow.holds Try.pinned (OpenSpec.upto fnScaleAudioTwiceSpec)

/-- 'laws.FnScaleAudioOrder', WHERE WHAT IT READS IS OF BULK AT MOST 1048576: true; the input reads as it did. -/
def fnScaleAudioOrderUptoRow : OpenClaim := { program := "ythjelbanelmekaa", sum := "bacbd746fac483c1ccb34bad5476946829fb0268b322e8ceb67c781ddc8a48bf", func := "loop.example/losslessaudio/laws.FnScaleAudioOrder", spec := "fnScaleAudioOrder", unfollowed := true, recurses := true, apart := false, narrowed := true }
def FnScaleAudioOrderUptoSaid : Prop := fnScaleAudioOrderUptoRow.holds Try.pinned (OpenSpec.upto fnScaleAudioOrderSpec)

/-- 'laws.FnScaleAudioSilence', WHERE WHAT IT READS IS OF BULK AT MOST 1048576: true; the input reads as it did. -/
def fnScaleAudioSilenceUptoRow : OpenClaim := { program := "ythjelbanelmekaa", sum := "bacbd746fac483c1ccb34bad5476946829fb0268b322e8ceb67c781ddc8a48bf", func := "loop.example/losslessaudio/laws.FnScaleAudioSilence", spec := "fnScaleAudioSilence", unfollowed := true, recurses := true, apart := false, narrowed := true }
def FnScaleAudioSilenceUptoSaid : Prop := fnScaleAudioSilenceUptoRow.holds Try.pinned (OpenSpec.upto fnScaleAudioSilenceSpec)

/-- 'laws.FnGainFor', WHERE WHAT IT READS IS OF BULK AT MOST 1048576: true; the input reads as it did. -/
def fnGainForUptoRow : OpenClaim := { program := "ythjelbanelmekaa", sum := "bacbd746fac483c1ccb34bad5476946829fb0268b322e8ceb67c781ddc8a48bf", func := "loop.example/losslessaudio/laws.FnGainFor", spec := "fnGainFor", unfollowed := true, recurses := true, apart := false, narrowed := true }
def FnGainForUptoSaid : Prop := fnGainForUptoRow.holds Try.pinned (OpenSpec.upto fnGainForSpec)

/-- 'laws.FnGainForMore', WHERE WHAT IT READS IS OF BULK AT MOST 1048576: true; the input reads as it did. -/
def fnGainForMoreUptoRow : OpenClaim := { program := "ythjelbanelmekaa", sum := "bacbd746fac483c1ccb34bad5476946829fb0268b322e8ceb67c781ddc8a48bf", func := "loop.example/losslessaudio/laws.FnGainForMore", spec := "fnGainForMore", unfollowed := true, recurses := true, apart := false, narrowed := true }
def FnGainForMoreUptoSaid : Prop := fnGainForMoreUptoRow.holds Try.pinned (OpenSpec.upto fnGainForMoreSpec)

/-- 'laws.FnExactPeakOf', WHERE WHAT IT READS IS OF BULK AT MOST 1048576: true; the input reads as it did. -/
def fnExactPeakOfUptoRow : OpenClaim := { program := "ythjelbanelmekaa", sum := "bacbd746fac483c1ccb34bad5476946829fb0268b322e8ceb67c781ddc8a48bf", func := "loop.example/losslessaudio/laws.FnExactPeakOf", spec := "fnExactPeakOf", unfollowed := true, recurses := true, apart := false, narrowed := true }
def FnExactPeakOfUptoSaid : Prop := fnExactPeakOfUptoRow.holds Try.pinned (OpenSpec.upto fnExactPeakOfSpec)

/-- 'laws.FnExactLoudnessOf', WHERE WHAT IT READS IS OF BULK AT MOST 1048576: true; the input reads as it did. -/
def fnExactLoudnessOfUptoRow : OpenClaim := { program := "ythjelbanelmekaa", sum := "bacbd746fac483c1ccb34bad5476946829fb0268b322e8ceb67c781ddc8a48bf", func := "loop.example/losslessaudio/laws.FnExactLoudnessOf", spec := "fnExactLoudnessOf", unfollowed := true, recurses := true, apart := false, narrowed := true }
def FnExactLoudnessOfUptoSaid : Prop := fnExactLoudnessOfUptoRow.holds Try.pinned (OpenSpec.upto fnExactLoudnessOfSpec)

/-- 'laws.FnExactScaleAudio', WHERE WHAT IT READS IS OF BULK AT MOST 1048576: true; the input reads as it did. -/
def fnExactScaleAudioUptoRow : OpenClaim := { program := "ythjelbanelmekaa", sum := "bacbd746fac483c1ccb34bad5476946829fb0268b322e8ceb67c781ddc8a48bf", func := "loop.example/losslessaudio/laws.FnExactScaleAudio", spec := "fnExactScaleAudio", unfollowed := true, recurses := true, apart := false, narrowed := true }
def FnExactScaleAudioUptoSaid : Prop := fnExactScaleAudioUptoRow.holds Try.pinned (OpenSpec.upto fnExactScaleAudioSpec)

/-- 'laws.FnExactGainFor', WHERE WHAT IT READS IS OF BULK AT MOST 1048576: true; the input reads as it did. -/
def fnExactGainForUptoRow : OpenClaim := { program := "ythjelbanelmekaa", sum := "bacbd746fac483c1ccb34bad5476946829fb0268b322e8ceb67c781ddc8a48bf", func := "loop.example/losslessaudio/laws.FnExactGainFor", spec := "fnExactGainFor", unfollowed := true, recurses := true, apart := false, narrowed := true }
def FnExactGainForUptoSaid : Prop := fnExactGainForUptoRow.holds Try.pinned (OpenSpec.upto fnExactGainForSpec)

end Rows
end Go.Proofs.Ythjelbanelmekaa
