/-
  No cell of these rows narrows 'for every input' (looked for: loops, veiled, ifaces, maps, wideKeys, modest, calm, conditions, laid).
  DERIVED. THE GIVEN ROWS OF THIS SEAT. 12 by the template 'for every input the law returns true; each argument reads behind the call as it read before'; 0 by the template 'total and deterministic' (their statements: YtbjkclbgocpbkaaTotals.lean).
  GIVEN WITH THE SEED: the statements are not yours to turn. If you find one false, say at which input.
  Laid BY PROGRAM, IN A SANDBOX (cutbox-rows.mjs): the forced cells as the released guide's own fill.sh prints them over the translation 77302630f324d4b7… (all of the seat's roots in one cut). By AI agents, Wed Nov 11 2026. No macro, syntax, notation, axiom, sorry.
-/
import Derived.Test.YtbjkclbgocpbkaaChecked
import GoSem.Claim
import GoSem.ClaimJoined
import GoSem.ClaimMapViews
import Derived.JoinedTies
import Derived.KernelRfl
namespace Go.Proofs.Ytbjkclbgocpbkaa
/- THE CELL 'sum', in the pinned program and in every row, IS THE sha256 OF THE DUMP (.gsa) THAT YtbjkclbgocpbkaaProg.lean LOADS. Nothing in Lean hashes anything: it is a label: what it is worth is what the hold of that sum in a sandbox is worth. -/
noncomputable def Try.pinned : Pinned := { name := "ytbjkclbgocpbkaa", sum := "77302630f324d4b7d727eb2788d6640099b068bd1a369da36b7a6ed8e22a9965", checked := Try.checked }
namespace Rows
def none {H : Type} : Left H := { results := [], args := [] }

/-- 'laws.FnMidSide': WHATEVER THE INPUT: true; the input reads as it did. -/
def fnMidSideSpec : ChangeSpec := { name := "fnMidSide", fn := fun _ => fun
  | [d] => { results := [.lit (.bool true)], args := [d] }
  | _ => none }
def fnMidSideRow : OpenClaim := { program := "ytbjkclbgocpbkaa", sum := "77302630f324d4b7d727eb2788d6640099b068bd1a369da36b7a6ed8e22a9965", func := "loop.example/losslessaudio/laws.FnMidSide", spec := "fnMidSide", unfollowed := true, recurses := true, apart := false }
def FnMidSideSaid : Prop := fnMidSideRow.holds Try.pinned (OpenSpec.ofChange fnMidSideSpec)

/-- ITS FALSE NEIGHBOUR: 'it returns false'. Refute it at one input. -/
def fnMidSideWrong : ChangeSpec := { name := "fnMidSide", fn := fun _ => fun
  | [d] => { results := [.lit (.bool false)], args := [d] }
  | _ => none }
def FnMidSideWrongFalsely : Prop := fnMidSideRow.holds Try.pinned (OpenSpec.ofChange fnMidSideWrong)

/-- 'laws.FnMidSideSwapped': WHATEVER THE INPUT: true; the input reads as it did. -/
def fnMidSideSwappedSpec : ChangeSpec := { name := "fnMidSideSwapped", fn := fun _ => fun
  | [d] => { results := [.lit (.bool true)], args := [d] }
  | _ => none }
def fnMidSideSwappedRow : OpenClaim := { program := "ytbjkclbgocpbkaa", sum := "77302630f324d4b7d727eb2788d6640099b068bd1a369da36b7a6ed8e22a9965", func := "loop.example/losslessaudio/laws.FnMidSideSwapped", spec := "fnMidSideSwapped", unfollowed := true, recurses := true, apart := false }
def FnMidSideSwappedSaid : Prop := fnMidSideSwappedRow.holds Try.pinned (OpenSpec.ofChange fnMidSideSwappedSpec)

/-- ITS FALSE NEIGHBOUR: 'it returns false'. Refute it at one input. -/
def fnMidSideSwappedWrong : ChangeSpec := { name := "fnMidSideSwapped", fn := fun _ => fun
  | [d] => { results := [.lit (.bool false)], args := [d] }
  | _ => none }
def FnMidSideSwappedWrongFalsely : Prop := fnMidSideSwappedRow.holds Try.pinned (OpenSpec.ofChange fnMidSideSwappedWrong)

/-- 'laws.FnFromMidSide': WHATEVER THE INPUT: true; the input reads as it did. -/
def fnFromMidSideSpec : ChangeSpec := { name := "fnFromMidSide", fn := fun _ => fun
  | [d] => { results := [.lit (.bool true)], args := [d] }
  | _ => none }
def fnFromMidSideRow : OpenClaim := { program := "ytbjkclbgocpbkaa", sum := "77302630f324d4b7d727eb2788d6640099b068bd1a369da36b7a6ed8e22a9965", func := "loop.example/losslessaudio/laws.FnFromMidSide", spec := "fnFromMidSide", unfollowed := true, recurses := true, apart := false }
def FnFromMidSideSaid : Prop := fnFromMidSideRow.holds Try.pinned (OpenSpec.ofChange fnFromMidSideSpec)

/-- ITS FALSE NEIGHBOUR: 'it returns false'. Refute it at one input. -/
def fnFromMidSideWrong : ChangeSpec := { name := "fnFromMidSide", fn := fun _ => fun
  | [d] => { results := [.lit (.bool false)], args := [d] }
  | _ => none }
def FnFromMidSideWrongFalsely : Prop := fnFromMidSideRow.holds Try.pinned (OpenSpec.ofChange fnFromMidSideWrong)

/-- 'laws.FnEncodeStereo': WHATEVER THE INPUT: true; the input reads as it did. -/
def fnEncodeStereoSpec : ChangeSpec := { name := "fnEncodeStereo", fn := fun _ => fun
  | [d] => { results := [.lit (.bool true)], args := [d] }
  | _ => none }
def fnEncodeStereoRow : OpenClaim := { program := "ytbjkclbgocpbkaa", sum := "77302630f324d4b7d727eb2788d6640099b068bd1a369da36b7a6ed8e22a9965", func := "loop.example/losslessaudio/laws.FnEncodeStereo", spec := "fnEncodeStereo", unfollowed := true, recurses := true, apart := false }
def FnEncodeStereoSaid : Prop := fnEncodeStereoRow.holds Try.pinned (OpenSpec.ofChange fnEncodeStereoSpec)

/-- ITS FALSE NEIGHBOUR: 'it returns false'. Refute it at one input. -/
def fnEncodeStereoWrong : ChangeSpec := { name := "fnEncodeStereo", fn := fun _ => fun
  | [d] => { results := [.lit (.bool false)], args := [d] }
  | _ => none }
def FnEncodeStereoWrongFalsely : Prop := fnEncodeStereoRow.holds Try.pinned (OpenSpec.ofChange fnEncodeStereoWrong)

/-- 'laws.FnDecodeStereo': WHATEVER THE INPUT: true; the input reads as it did. -/
def fnDecodeStereoSpec : ChangeSpec := { name := "fnDecodeStereo", fn := fun _ => fun
  | [d] => { results := [.lit (.bool true)], args := [d] }
  | _ => none }
def fnDecodeStereoRow : OpenClaim := { program := "ytbjkclbgocpbkaa", sum := "77302630f324d4b7d727eb2788d6640099b068bd1a369da36b7a6ed8e22a9965", func := "loop.example/losslessaudio/laws.FnDecodeStereo", spec := "fnDecodeStereo", unfollowed := true, recurses := true, apart := false }
def FnDecodeStereoSaid : Prop := fnDecodeStereoRow.holds Try.pinned (OpenSpec.ofChange fnDecodeStereoSpec)

/-- ITS FALSE NEIGHBOUR: 'it returns false'. Refute it at one input. -/
def fnDecodeStereoWrong : ChangeSpec := { name := "fnDecodeStereo", fn := fun _ => fun
  | [d] => { results := [.lit (.bool false)], args := [d] }
  | _ => none }
def FnDecodeStereoWrongFalsely : Prop := fnDecodeStereoRow.holds Try.pinned (OpenSpec.ofChange fnDecodeStereoWrong)

/-- 'laws.FnBestStereo': WHATEVER THE INPUT: true; the input reads as it did. -/
def fnBestStereoSpec : ChangeSpec := { name := "fnBestStereo", fn := fun _ => fun
  | [d] => { results := [.lit (.bool true)], args := [d] }
  | _ => none }
def fnBestStereoRow : OpenClaim := { program := "ytbjkclbgocpbkaa", sum := "77302630f324d4b7d727eb2788d6640099b068bd1a369da36b7a6ed8e22a9965", func := "loop.example/losslessaudio/laws.FnBestStereo", spec := "fnBestStereo", unfollowed := true, recurses := true, apart := false }
def FnBestStereoSaid : Prop := fnBestStereoRow.holds Try.pinned (OpenSpec.ofChange fnBestStereoSpec)

/-- ITS FALSE NEIGHBOUR: 'it returns false'. Refute it at one input. -/
def fnBestStereoWrong : ChangeSpec := { name := "fnBestStereo", fn := fun _ => fun
  | [d] => { results := [.lit (.bool false)], args := [d] }
  | _ => none }
def FnBestStereoWrongFalsely : Prop := fnBestStereoRow.holds Try.pinned (OpenSpec.ofChange fnBestStereoWrong)

/-- 'laws.FnEncodeStereoSwapped': WHATEVER THE INPUT: true; the input reads as it did. -/
def fnEncodeStereoSwappedSpec : ChangeSpec := { name := "fnEncodeStereoSwapped", fn := fun _ => fun
  | [d] => { results := [.lit (.bool true)], args := [d] }
  | _ => none }
def fnEncodeStereoSwappedRow : OpenClaim := { program := "ytbjkclbgocpbkaa", sum := "77302630f324d4b7d727eb2788d6640099b068bd1a369da36b7a6ed8e22a9965", func := "loop.example/losslessaudio/laws.FnEncodeStereoSwapped", spec := "fnEncodeStereoSwapped", unfollowed := true, recurses := true, apart := false }
def FnEncodeStereoSwappedSaid : Prop := fnEncodeStereoSwappedRow.holds Try.pinned (OpenSpec.ofChange fnEncodeStereoSwappedSpec)

/-- ITS FALSE NEIGHBOUR: 'it returns false'. Refute it at one input. -/
def fnEncodeStereoSwappedWrong : ChangeSpec := { name := "fnEncodeStereoSwapped", fn := fun _ => fun
  | [d] => { results := [.lit (.bool false)], args := [d] }
  | _ => none }
def FnEncodeStereoSwappedWrongFalsely : Prop := fnEncodeStereoSwappedRow.holds Try.pinned (OpenSpec.ofChange fnEncodeStereoSwappedWrong)

/-- 'laws.FnExactMidSide': WHATEVER THE INPUT: true; the input reads as it did. -/
def fnExactMidSideSpec : ChangeSpec := { name := "fnExactMidSide", fn := fun _ => fun
  | [d1, d2] => { results := [.lit (.bool true)], args := [d1, d2] }
  | _ => none }
def fnExactMidSideRow : OpenClaim := { program := "ytbjkclbgocpbkaa", sum := "77302630f324d4b7d727eb2788d6640099b068bd1a369da36b7a6ed8e22a9965", func := "loop.example/losslessaudio/laws.FnExactMidSide", spec := "fnExactMidSide", unfollowed := true, recurses := true, apart := false }
def FnExactMidSideSaid : Prop := fnExactMidSideRow.holds Try.pinned (OpenSpec.ofChange fnExactMidSideSpec)

/-- ITS FALSE NEIGHBOUR: 'it returns false'. Refute it at one input. -/
def fnExactMidSideWrong : ChangeSpec := { name := "fnExactMidSide", fn := fun _ => fun
  | [d1, d2] => { results := [.lit (.bool false)], args := [d1, d2] }
  | _ => none }
def FnExactMidSideWrongFalsely : Prop := fnExactMidSideRow.holds Try.pinned (OpenSpec.ofChange fnExactMidSideWrong)

/-- 'laws.FnExactFromMidSide': WHATEVER THE INPUT: true; the input reads as it did. -/
def fnExactFromMidSideSpec : ChangeSpec := { name := "fnExactFromMidSide", fn := fun _ => fun
  | [d1, d2] => { results := [.lit (.bool true)], args := [d1, d2] }
  | _ => none }
def fnExactFromMidSideRow : OpenClaim := { program := "ytbjkclbgocpbkaa", sum := "77302630f324d4b7d727eb2788d6640099b068bd1a369da36b7a6ed8e22a9965", func := "loop.example/losslessaudio/laws.FnExactFromMidSide", spec := "fnExactFromMidSide", unfollowed := true, recurses := true, apart := false }
def FnExactFromMidSideSaid : Prop := fnExactFromMidSideRow.holds Try.pinned (OpenSpec.ofChange fnExactFromMidSideSpec)

/-- ITS FALSE NEIGHBOUR: 'it returns false'. Refute it at one input. -/
def fnExactFromMidSideWrong : ChangeSpec := { name := "fnExactFromMidSide", fn := fun _ => fun
  | [d1, d2] => { results := [.lit (.bool false)], args := [d1, d2] }
  | _ => none }
def FnExactFromMidSideWrongFalsely : Prop := fnExactFromMidSideRow.holds Try.pinned (OpenSpec.ofChange fnExactFromMidSideWrong)

/-- 'laws.FnExactEncodeStereo': WHATEVER THE INPUT: true; the input reads as it did. -/
def fnExactEncodeStereoSpec : ChangeSpec := { name := "fnExactEncodeStereo", fn := fun _ => fun
  | [d1, d2, d3] => { results := [.lit (.bool true)], args := [d1, d2, d3] }
  | _ => none }
def fnExactEncodeStereoRow : OpenClaim := { program := "ytbjkclbgocpbkaa", sum := "77302630f324d4b7d727eb2788d6640099b068bd1a369da36b7a6ed8e22a9965", func := "loop.example/losslessaudio/laws.FnExactEncodeStereo", spec := "fnExactEncodeStereo", unfollowed := true, recurses := true, apart := false }
def FnExactEncodeStereoSaid : Prop := fnExactEncodeStereoRow.holds Try.pinned (OpenSpec.ofChange fnExactEncodeStereoSpec)

/-- ITS FALSE NEIGHBOUR: 'it returns false'. Refute it at one input. -/
def fnExactEncodeStereoWrong : ChangeSpec := { name := "fnExactEncodeStereo", fn := fun _ => fun
  | [d1, d2, d3] => { results := [.lit (.bool false)], args := [d1, d2, d3] }
  | _ => none }
def FnExactEncodeStereoWrongFalsely : Prop := fnExactEncodeStereoRow.holds Try.pinned (OpenSpec.ofChange fnExactEncodeStereoWrong)

/-- 'laws.FnExactDecodeStereo': WHATEVER THE INPUT: true; the input reads as it did. -/
def fnExactDecodeStereoSpec : ChangeSpec := { name := "fnExactDecodeStereo", fn := fun _ => fun
  | [d1, d2, d3] => { results := [.lit (.bool true)], args := [d1, d2, d3] }
  | _ => none }
def fnExactDecodeStereoRow : OpenClaim := { program := "ytbjkclbgocpbkaa", sum := "77302630f324d4b7d727eb2788d6640099b068bd1a369da36b7a6ed8e22a9965", func := "loop.example/losslessaudio/laws.FnExactDecodeStereo", spec := "fnExactDecodeStereo", unfollowed := true, recurses := true, apart := false }
def FnExactDecodeStereoSaid : Prop := fnExactDecodeStereoRow.holds Try.pinned (OpenSpec.ofChange fnExactDecodeStereoSpec)

/-- ITS FALSE NEIGHBOUR: 'it returns false'. Refute it at one input. -/
def fnExactDecodeStereoWrong : ChangeSpec := { name := "fnExactDecodeStereo", fn := fun _ => fun
  | [d1, d2, d3] => { results := [.lit (.bool false)], args := [d1, d2, d3] }
  | _ => none }
def FnExactDecodeStereoWrongFalsely : Prop := fnExactDecodeStereoRow.holds Try.pinned (OpenSpec.ofChange fnExactDecodeStereoWrong)

/-- 'laws.FnExactBestStereo': WHATEVER THE INPUT: true; the input reads as it did. -/
def fnExactBestStereoSpec : ChangeSpec := { name := "fnExactBestStereo", fn := fun _ => fun
  | [d1, d2] => { results := [.lit (.bool true)], args := [d1, d2] }
  | _ => none }
def fnExactBestStereoRow : OpenClaim := { program := "ytbjkclbgocpbkaa", sum := "77302630f324d4b7d727eb2788d6640099b068bd1a369da36b7a6ed8e22a9965", func := "loop.example/losslessaudio/laws.FnExactBestStereo", spec := "fnExactBestStereo", unfollowed := true, recurses := true, apart := false }
def FnExactBestStereoSaid : Prop := fnExactBestStereoRow.holds Try.pinned (OpenSpec.ofChange fnExactBestStereoSpec)

/-- ITS FALSE NEIGHBOUR: 'it returns false'. Refute it at one input. -/
def fnExactBestStereoWrong : ChangeSpec := { name := "fnExactBestStereo", fn := fun _ => fun
  | [d1, d2] => { results := [.lit (.bool false)], args := [d1, d2] }
  | _ => none }
def FnExactBestStereoWrongFalsely : Prop := fnExactBestStereoRow.holds Try.pinned (OpenSpec.ofChange fnExactBestStereoWrong)

/- THE SECOND FORM. 'bulk': how many values and letters a reading holds, each counted each time it is reached (what is shared counts as often as it is met; a slice's spare places count too). A statement '..UptoSaid' is the law's where the arguments, and the package variables that the reading takes, are together of bulk at most 1048576: NARROWER than '..Said'. Prove '..Said' where nothing that the law and all that it calls make is longer than what came in: it says more and counts as full. Else prove '..UptoSaid'. A law counts once. -/
mutual
def uptoBulk {H : Type} : DataW H → Nat
  | .lit (.string bytes) => bytes.length + 1
  | .lit _ => 1
  | .nil => 1
  | .ptr d => uptoBulk d + 1
  | .slice elems spare => uptoBulkAll elems + uptoBulkAll spare + 1
  | .agg parts => uptoBulkAll parts + 1
  | .iface _ d => uptoBulk d + 1
  | .map entries => uptoBulkEntries entries + 1
  | .held _ => 1
def uptoBulkAll {H : Type} : List (DataW H) → Nat
  | [] => 0
  | d :: r => uptoBulk d + uptoBulkAll r
def uptoBulkEntries {H : Type} : List (Lit × DataW H) → Nat
  | [] => 0
  | x :: r => uptoBulkEntry x + uptoBulkEntries r
def uptoBulkEntry {H : Type} : Lit × DataW H → Nat
  | (.string bytes, d) => bytes.length + uptoBulk d + 1
  | (_, d) => uptoBulk d + 1
 end
def uptoSmall : (H : Type) → List (DataW H) → Bool := fun _ ds => decide (uptoBulkAll ds ≤ 1048576)
def OpenSpec.upto (s : _root_.Go.ChangeSpec) : _root_.Go.OpenSpec := { _root_.Go.OpenSpec.ofChange s with cond := some uptoSmall }

/-- 'laws.FnMidSide', WHERE WHAT IT READS IS OF BULK AT MOST 1048576: true; the input reads as it did. -/
def fnMidSideUptoRow : OpenClaim := { program := "ytbjkclbgocpbkaa", sum := "77302630f324d4b7d727eb2788d6640099b068bd1a369da36b7a6ed8e22a9965", func := "loop.example/losslessaudio/laws.FnMidSide", spec := "fnMidSide", unfollowed := true, recurses := true, apart := false, narrowed := true }
def FnMidSideUptoSaid : Prop := fnMidSideUptoRow.holds Try.pinned (OpenSpec.upto fnMidSideSpec)

/-- 'laws.FnMidSideSwapped', WHERE WHAT IT READS IS OF BULK AT MOST 1048576: true; the input reads as it did. -/
def fnMidSideSwappedUptoRow : OpenClaim := { program := "ytbjkclbgocpbkaa", sum := "77302630f324d4b7d727eb2788d6640099b068bd1a369da36b7a6ed8e22a9965", func := "loop.example/losslessaudio/laws.FnMidSideSwapped", spec := "fnMidSideSwapped", unfollowed := true, recurses := true, apart := false, narrowed := true }
def FnMidSideSwappedUptoSaid : Prop := fnMidSideSwappedUptoRow.holds Try.pinned (OpenSpec.upto fnMidSideSwappedSpec)

/-- 'laws.FnFromMidSide', WHERE WHAT IT READS IS OF BULK AT MOST 1048576: true; the input reads as it did. -/
def fnFromMidSideUptoRow : OpenClaim := { program := "ytbjkclbgocpbkaa", sum := "77302630f324d4b7d727eb2788d6640099b068bd1a369da36b7a6ed8e22a9965", func := "loop.example/losslessaudio/laws.FnFromMidSide", spec := "fnFromMidSide", unfollowed := true, recurses := true, apart := false, narrowed := true }
def FnFromMidSideUptoSaid : Prop := fnFromMidSideUptoRow.holds Try.pinned (OpenSpec.upto fnFromMidSideSpec)

/-- 'laws.FnEncodeStereo', WHERE WHAT IT READS IS OF BULK AT MOST 1048576: true; the input reads as it did. -/
def fnEncodeStereoUptoRow : OpenClaim := { program := "ytbjkclbgocpbkaa", sum := "77302630f324d4b7d727eb2788d6640099b068bd1a369da36b7a6ed8e22a9965", func := "loop.example/losslessaudio/laws.FnEncodeStereo", spec := "fnEncodeStereo", unfollowed := true, recurses := true, apart := false, narrowed := true }
def FnEncodeStereoUptoSaid : Prop := fnEncodeStereoUptoRow.holds Try.pinned (OpenSpec.upto fnEncodeStereoSpec)

/-- 'laws.FnDecodeStereo', WHERE WHAT IT READS IS OF BULK AT MOST 1048576: true; the input reads as it did. -/
def fnDecodeStereoUptoRow : OpenClaim := { program := "ytbjkclbgocpbkaa", sum := "77302630f324d4b7d727eb2788d6640099b068bd1a369da36b7a6ed8e22a9965", func := "loop.example/losslessaudio/laws.FnDecodeStereo", spec := "fnDecodeStereo", unfollowed := true, recurses := true, apart := false, narrowed := true }
def FnDecodeStereoUptoSaid : Prop := fnDecodeStereoUptoRow.holds Try.pinned (OpenSpec.upto fnDecodeStereoSpec)

/-- 'laws.FnBestStereo', WHERE WHAT IT READS IS OF BULK AT MOST 1048576: true; the input reads as it did. -/
def fnBestStereoUptoRow : OpenClaim := { program := "ytbjkclbgocpbkaa", sum := "77302630f324d4b7d727eb2788d6640099b068bd1a369da36b7a6ed8e22a9965", func := "loop.example/losslessaudio/laws.FnBestStereo", spec := "fnBestStereo", unfollowed := true, recurses := true, apart := false, narrowed := true }
def FnBestStereoUptoSaid : Prop := fnBestStereoUptoRow.holds Try.pinned (OpenSpec.upto fnBestStereoSpec)

/-- 'laws.FnEncodeStereoSwapped', WHERE WHAT IT READS IS OF BULK AT MOST 1048576: true; the input reads as it did. -/
def fnEncodeStereoSwappedUptoRow : OpenClaim := { program := "ytbjkclbgocpbkaa", sum := "77302630f324d4b7d727eb2788d6640099b068bd1a369da36b7a6ed8e22a9965", func := "loop.example/losslessaudio/laws.FnEncodeStereoSwapped", spec := "fnEncodeStereoSwapped", unfollowed := true, recurses := true, apart := false, narrowed := true }
def FnEncodeStereoSwappedUptoSaid : Prop := fnEncodeStereoSwappedUptoRow.holds Try.pinned (OpenSpec.upto fnEncodeStereoSwappedSpec)

/-- 'laws.FnExactMidSide', WHERE WHAT IT READS IS OF BULK AT MOST 1048576: true; the input reads as it did. -/
def fnExactMidSideUptoRow : OpenClaim := { program := "ytbjkclbgocpbkaa", sum := "77302630f324d4b7d727eb2788d6640099b068bd1a369da36b7a6ed8e22a9965", func := "loop.example/losslessaudio/laws.FnExactMidSide", spec := "fnExactMidSide", unfollowed := true, recurses := true, apart := false, narrowed := true }
def FnExactMidSideUptoSaid : Prop := fnExactMidSideUptoRow.holds Try.pinned (OpenSpec.upto fnExactMidSideSpec)

/-- 'laws.FnExactFromMidSide', WHERE WHAT IT READS IS OF BULK AT MOST 1048576: true; the input reads as it did. -/
def fnExactFromMidSideUptoRow : OpenClaim := { program := "ytbjkclbgocpbkaa", sum := "77302630f324d4b7d727eb2788d6640099b068bd1a369da36b7a6ed8e22a9965", func := "loop.example/losslessaudio/laws.FnExactFromMidSide", spec := "fnExactFromMidSide", unfollowed := true, recurses := true, apart := false, narrowed := true }
def FnExactFromMidSideUptoSaid : Prop := fnExactFromMidSideUptoRow.holds Try.pinned (OpenSpec.upto fnExactFromMidSideSpec)

/-- 'laws.FnExactEncodeStereo', WHERE WHAT IT READS IS OF BULK AT MOST 1048576: true; the input reads as it did. -/
def fnExactEncodeStereoUptoRow : OpenClaim := { program := "ytbjkclbgocpbkaa", sum := "77302630f324d4b7d727eb2788d6640099b068bd1a369da36b7a6ed8e22a9965", func := "loop.example/losslessaudio/laws.FnExactEncodeStereo", spec := "fnExactEncodeStereo", unfollowed := true, recurses := true, apart := false, narrowed := true }
def FnExactEncodeStereoUptoSaid : Prop := fnExactEncodeStereoUptoRow.holds Try.pinned (OpenSpec.upto fnExactEncodeStereoSpec)

/-- 'laws.FnExactDecodeStereo', WHERE WHAT IT READS IS OF BULK AT MOST 1048576: true; the input reads as it did. -/
def fnExactDecodeStereoUptoRow : OpenClaim := { program := "ytbjkclbgocpbkaa", sum := "77302630f324d4b7d727eb2788d6640099b068bd1a369da36b7a6ed8e22a9965", func := "loop.example/losslessaudio/laws.FnExactDecodeStereo", spec := "fnExactDecodeStereo", unfollowed := true, recurses := true, apart := false, narrowed := true }
def FnExactDecodeStereoUptoSaid : Prop := fnExactDecodeStereoUptoRow.holds Try.pinned (OpenSpec.upto fnExactDecodeStereoSpec)

/-- 'laws.FnExactBestStereo', WHERE WHAT IT READS IS OF BULK AT MOST 1048576: true; the input reads as it did. -/
def fnExactBestStereoUptoRow : OpenClaim := { program := "ytbjkclbgocpbkaa", sum := "77302630f324d4b7d727eb2788d6640099b068bd1a369da36b7a6ed8e22a9965", func := "loop.example/losslessaudio/laws.FnExactBestStereo", spec := "fnExactBestStereo", unfollowed := true, recurses := true, apart := false, narrowed := true }
def FnExactBestStereoUptoSaid : Prop := fnExactBestStereoUptoRow.holds Try.pinned (OpenSpec.upto fnExactBestStereoSpec)

end Rows
end Go.Proofs.Ytbjkclbgocpbkaa
