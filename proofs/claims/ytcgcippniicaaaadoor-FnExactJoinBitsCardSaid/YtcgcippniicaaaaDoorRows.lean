/-
  NARROWER THAN 'FOR EVERY INPUT', by the rows' own cells (each row's printed sentence says how): FnPutBits: ifaces, laid · FnPutBitsParts: ifaces, laid · FnGetBits: ifaces, laid · FnJoinBits: ifaces, laid · FnBitsOf: ifaces, laid · FnPutBitsNothing: ifaces, laid · FnJoinBitsThree: ifaces, laid · FnExactPutBits: ifaces, laid · FnExactGetBits: ifaces, laid · FnExactJoinBits: ifaces, laid.
  DERIVED. THE GIVEN ROWS OF THIS SEAT. 10 by the template 'for every input the law returns true; each argument reads behind the call as it read before'; 0 by the template 'total and deterministic' (their statements: YtcgcippniicaaaaDoorTotals.lean).
  GIVEN WITH THE SEED: the statements are not yours to turn. If you find one false, say at which input.
  Laid BY PROGRAM, IN A SANDBOX (cutbox-rows.mjs): the forced cells as the released guide's own fill.sh prints them over the translation 7659cd83e219fd32… (all of the seat's roots in one cut). By AI agents, Wed Nov 11 2026. No macro, syntax, notation, axiom, sorry.
-/
import Derived.Test.YtcgcippniicaaaaDoorChecked
import GoSem.Claim
import GoSem.ClaimJoined
import GoSem.ClaimMapViews
import Derived.JoinedTies
import Derived.KernelRfl
namespace Go.Proofs.YtcgcippniicaaaaDoor
/- THE CELL 'sum', in the pinned program and in every row, IS THE sha256 OF THE DUMP (.gsa) THAT YtcgcippniicaaaaDoorProg.lean LOADS. Nothing in Lean hashes anything: it is a label: what it is worth is what the hold of that sum in a sandbox is worth. -/
noncomputable def Tryd.pinned : Pinned := { name := "ytcgcippniicaaaadoor", sum := "7659cd83e219fd325603665dddfe23b8c418dbd4973513aaddb6401f7b32ebae", checked := Tryd.checked }
namespace Rows
def none {H : Type} : Left H := { results := [], args := [] }

/- WHAT THE LISTED PACKAGE-LEVEL VARIABLES READ AS WHEN THE CALL BEGINS. Each datum BY PROGRAM (the guide's laid-datum.mjs) off the statement by which the dump's own 'gosem.cut.vars' lays the variable. In a bare row this is a premise. The card (YtcgcippniicaaaaDoorCards.lean) ties it to the program's text. -/
def laid_loop_example_losslessaudio_impl_errBits {H : Type} : DataW H := .iface "*errors.errorString" (.ptr (.agg [.lit (.string [105, 110, 118, 97, 108, 105, 100, 32, 98, 105, 116, 115])]))
def laid_loop_example_losslessaudio_impl_errNumber {H : Type} : DataW H := .iface "*errors.errorString" (.ptr (.agg [.lit (.string [110, 117, 109, 98, 101, 114, 32, 119, 105, 116, 104, 111, 117, 116, 32, 97, 32, 99, 111, 100, 101])]))
def laid_loop_example_losslessaudio_impl_errRoom {H : Type} : DataW H := .iface "*errors.errorString" (.ptr (.agg [.lit (.string [116, 111, 111, 32, 109, 97, 110, 121, 32, 98, 105, 116, 115])]))
def laid_loop_example_losslessaudio_impl_errEnd {H : Type} : DataW H := .iface "*errors.errorString" (.ptr (.agg [.lit (.string [116, 111, 111, 32, 102, 101, 119, 32, 98, 105, 116, 115])]))

/-- 'laws.FnPutBits': WHATEVER THE INPUT: true; the input reads as it did. -/
def fnPutBitsSpec : ChangeSpec := { name := "fnPutBits", vars := ["loop.example/losslessaudio/impl.errNumber", "loop.example/losslessaudio/impl.errRoom", "loop.example/losslessaudio/impl.errBits", "loop.example/losslessaudio/impl.errEnd"], fn := fun _ => fun
  | [d, g1, g2, g3, g4] => { results := [.lit (.bool true)], args := [d], vars := [g1, g2, g3, g4] }
  | _ => none }
def fnPutBitsRow : OpenClaim := { program := "ytcgcippniicaaaadoor", sum := "7659cd83e219fd325603665dddfe23b8c418dbd4973513aaddb6401f7b32ebae", func := "loop.example/losslessaudio/laws.FnPutBits", spec := "fnPutBits", unfollowed := true, recurses := true, named := ["loop.example/losslessaudio/impl.errNumber", "loop.example/losslessaudio/impl.errRoom", "loop.example/losslessaudio/impl.errBits", "loop.example/losslessaudio/impl.errEnd"], ifaces := true, apart := false, laid := [("loop.example/losslessaudio/impl.errBits", laid_loop_example_losslessaudio_impl_errBits), ("loop.example/losslessaudio/impl.errNumber", laid_loop_example_losslessaudio_impl_errNumber), ("loop.example/losslessaudio/impl.errRoom", laid_loop_example_losslessaudio_impl_errRoom), ("loop.example/losslessaudio/impl.errEnd", laid_loop_example_losslessaudio_impl_errEnd)] }
def FnPutBitsSaid : Prop := fnPutBitsRow.holds Tryd.pinned (OpenSpec.ofChange fnPutBitsSpec)

/-- ITS FALSE NEIGHBOUR: 'it returns false'. Refute it at one input. -/
def fnPutBitsWrong : ChangeSpec := { name := "fnPutBits", vars := ["loop.example/losslessaudio/impl.errNumber", "loop.example/losslessaudio/impl.errRoom", "loop.example/losslessaudio/impl.errBits", "loop.example/losslessaudio/impl.errEnd"], fn := fun _ => fun
  | [d, g1, g2, g3, g4] => { results := [.lit (.bool false)], args := [d], vars := [g1, g2, g3, g4] }
  | _ => none }
def FnPutBitsWrongFalsely : Prop := fnPutBitsRow.holds Tryd.pinned (OpenSpec.ofChange fnPutBitsWrong)

/-- 'laws.FnPutBitsParts': WHATEVER THE INPUT: true; the input reads as it did. -/
def fnPutBitsPartsSpec : ChangeSpec := { name := "fnPutBitsParts", vars := ["loop.example/losslessaudio/impl.errNumber", "loop.example/losslessaudio/impl.errRoom", "loop.example/losslessaudio/impl.errBits"], fn := fun _ => fun
  | [d, g1, g2, g3] => { results := [.lit (.bool true)], args := [d], vars := [g1, g2, g3] }
  | _ => none }
def fnPutBitsPartsRow : OpenClaim := { program := "ytcgcippniicaaaadoor", sum := "7659cd83e219fd325603665dddfe23b8c418dbd4973513aaddb6401f7b32ebae", func := "loop.example/losslessaudio/laws.FnPutBitsParts", spec := "fnPutBitsParts", unfollowed := true, recurses := true, named := ["loop.example/losslessaudio/impl.errNumber", "loop.example/losslessaudio/impl.errRoom", "loop.example/losslessaudio/impl.errBits"], ifaces := true, apart := false, laid := [("loop.example/losslessaudio/impl.errBits", laid_loop_example_losslessaudio_impl_errBits), ("loop.example/losslessaudio/impl.errNumber", laid_loop_example_losslessaudio_impl_errNumber), ("loop.example/losslessaudio/impl.errRoom", laid_loop_example_losslessaudio_impl_errRoom)] }
def FnPutBitsPartsSaid : Prop := fnPutBitsPartsRow.holds Tryd.pinned (OpenSpec.ofChange fnPutBitsPartsSpec)

/-- ITS FALSE NEIGHBOUR: 'it returns false'. Refute it at one input. -/
def fnPutBitsPartsWrong : ChangeSpec := { name := "fnPutBitsParts", vars := ["loop.example/losslessaudio/impl.errNumber", "loop.example/losslessaudio/impl.errRoom", "loop.example/losslessaudio/impl.errBits"], fn := fun _ => fun
  | [d, g1, g2, g3] => { results := [.lit (.bool false)], args := [d], vars := [g1, g2, g3] }
  | _ => none }
def FnPutBitsPartsWrongFalsely : Prop := fnPutBitsPartsRow.holds Tryd.pinned (OpenSpec.ofChange fnPutBitsPartsWrong)

/-- 'laws.FnGetBits': WHATEVER THE INPUT: true; the input reads as it did. -/
def fnGetBitsSpec : ChangeSpec := { name := "fnGetBits", vars := ["loop.example/losslessaudio/impl.errNumber", "loop.example/losslessaudio/impl.errEnd", "loop.example/losslessaudio/impl.errBits"], fn := fun _ => fun
  | [d, g1, g2, g3] => { results := [.lit (.bool true)], args := [d], vars := [g1, g2, g3] }
  | _ => none }
def fnGetBitsRow : OpenClaim := { program := "ytcgcippniicaaaadoor", sum := "7659cd83e219fd325603665dddfe23b8c418dbd4973513aaddb6401f7b32ebae", func := "loop.example/losslessaudio/laws.FnGetBits", spec := "fnGetBits", unfollowed := true, recurses := true, named := ["loop.example/losslessaudio/impl.errNumber", "loop.example/losslessaudio/impl.errEnd", "loop.example/losslessaudio/impl.errBits"], ifaces := true, apart := false, laid := [("loop.example/losslessaudio/impl.errBits", laid_loop_example_losslessaudio_impl_errBits), ("loop.example/losslessaudio/impl.errNumber", laid_loop_example_losslessaudio_impl_errNumber), ("loop.example/losslessaudio/impl.errEnd", laid_loop_example_losslessaudio_impl_errEnd)] }
def FnGetBitsSaid : Prop := fnGetBitsRow.holds Tryd.pinned (OpenSpec.ofChange fnGetBitsSpec)

/-- ITS FALSE NEIGHBOUR: 'it returns false'. Refute it at one input. -/
def fnGetBitsWrong : ChangeSpec := { name := "fnGetBits", vars := ["loop.example/losslessaudio/impl.errNumber", "loop.example/losslessaudio/impl.errEnd", "loop.example/losslessaudio/impl.errBits"], fn := fun _ => fun
  | [d, g1, g2, g3] => { results := [.lit (.bool false)], args := [d], vars := [g1, g2, g3] }
  | _ => none }
def FnGetBitsWrongFalsely : Prop := fnGetBitsRow.holds Tryd.pinned (OpenSpec.ofChange fnGetBitsWrong)

/-- 'laws.FnJoinBits': WHATEVER THE INPUT: true; the input reads as it did. -/
def fnJoinBitsSpec : ChangeSpec := { name := "fnJoinBits", vars := ["loop.example/losslessaudio/impl.errNumber", "loop.example/losslessaudio/impl.errRoom", "loop.example/losslessaudio/impl.errBits", "loop.example/losslessaudio/impl.errEnd"], fn := fun _ => fun
  | [d, g1, g2, g3, g4] => { results := [.lit (.bool true)], args := [d], vars := [g1, g2, g3, g4] }
  | _ => none }
def fnJoinBitsRow : OpenClaim := { program := "ytcgcippniicaaaadoor", sum := "7659cd83e219fd325603665dddfe23b8c418dbd4973513aaddb6401f7b32ebae", func := "loop.example/losslessaudio/laws.FnJoinBits", spec := "fnJoinBits", unfollowed := true, recurses := true, named := ["loop.example/losslessaudio/impl.errNumber", "loop.example/losslessaudio/impl.errRoom", "loop.example/losslessaudio/impl.errBits", "loop.example/losslessaudio/impl.errEnd"], ifaces := true, apart := false, laid := [("loop.example/losslessaudio/impl.errBits", laid_loop_example_losslessaudio_impl_errBits), ("loop.example/losslessaudio/impl.errNumber", laid_loop_example_losslessaudio_impl_errNumber), ("loop.example/losslessaudio/impl.errRoom", laid_loop_example_losslessaudio_impl_errRoom), ("loop.example/losslessaudio/impl.errEnd", laid_loop_example_losslessaudio_impl_errEnd)] }
def FnJoinBitsSaid : Prop := fnJoinBitsRow.holds Tryd.pinned (OpenSpec.ofChange fnJoinBitsSpec)

/-- ITS FALSE NEIGHBOUR: 'it returns false'. Refute it at one input. -/
def fnJoinBitsWrong : ChangeSpec := { name := "fnJoinBits", vars := ["loop.example/losslessaudio/impl.errNumber", "loop.example/losslessaudio/impl.errRoom", "loop.example/losslessaudio/impl.errBits", "loop.example/losslessaudio/impl.errEnd"], fn := fun _ => fun
  | [d, g1, g2, g3, g4] => { results := [.lit (.bool false)], args := [d], vars := [g1, g2, g3, g4] }
  | _ => none }
def FnJoinBitsWrongFalsely : Prop := fnJoinBitsRow.holds Tryd.pinned (OpenSpec.ofChange fnJoinBitsWrong)

/-- 'laws.FnBitsOf': WHATEVER THE INPUT: true; the input reads as it did. -/
def fnBitsOfSpec : ChangeSpec := { name := "fnBitsOf", vars := ["loop.example/losslessaudio/impl.errNumber", "loop.example/losslessaudio/impl.errEnd", "loop.example/losslessaudio/impl.errBits"], fn := fun _ => fun
  | [d, g1, g2, g3] => { results := [.lit (.bool true)], args := [d], vars := [g1, g2, g3] }
  | _ => none }
def fnBitsOfRow : OpenClaim := { program := "ytcgcippniicaaaadoor", sum := "7659cd83e219fd325603665dddfe23b8c418dbd4973513aaddb6401f7b32ebae", func := "loop.example/losslessaudio/laws.FnBitsOf", spec := "fnBitsOf", unfollowed := true, recurses := true, named := ["loop.example/losslessaudio/impl.errNumber", "loop.example/losslessaudio/impl.errEnd", "loop.example/losslessaudio/impl.errBits"], ifaces := true, apart := false, laid := [("loop.example/losslessaudio/impl.errBits", laid_loop_example_losslessaudio_impl_errBits), ("loop.example/losslessaudio/impl.errNumber", laid_loop_example_losslessaudio_impl_errNumber), ("loop.example/losslessaudio/impl.errEnd", laid_loop_example_losslessaudio_impl_errEnd)] }
def FnBitsOfSaid : Prop := fnBitsOfRow.holds Tryd.pinned (OpenSpec.ofChange fnBitsOfSpec)

/-- ITS FALSE NEIGHBOUR: 'it returns false'. Refute it at one input. -/
def fnBitsOfWrong : ChangeSpec := { name := "fnBitsOf", vars := ["loop.example/losslessaudio/impl.errNumber", "loop.example/losslessaudio/impl.errEnd", "loop.example/losslessaudio/impl.errBits"], fn := fun _ => fun
  | [d, g1, g2, g3] => { results := [.lit (.bool false)], args := [d], vars := [g1, g2, g3] }
  | _ => none }
def FnBitsOfWrongFalsely : Prop := fnBitsOfRow.holds Tryd.pinned (OpenSpec.ofChange fnBitsOfWrong)

/-- 'laws.FnPutBitsNothing': WHATEVER THE INPUT: true; the input reads as it did. -/
def fnPutBitsNothingSpec : ChangeSpec := { name := "fnPutBitsNothing", vars := ["loop.example/losslessaudio/impl.errNumber", "loop.example/losslessaudio/impl.errRoom", "loop.example/losslessaudio/impl.errBits"], fn := fun _ => fun
  | [d, g1, g2, g3] => { results := [.lit (.bool true)], args := [d], vars := [g1, g2, g3] }
  | _ => none }
def fnPutBitsNothingRow : OpenClaim := { program := "ytcgcippniicaaaadoor", sum := "7659cd83e219fd325603665dddfe23b8c418dbd4973513aaddb6401f7b32ebae", func := "loop.example/losslessaudio/laws.FnPutBitsNothing", spec := "fnPutBitsNothing", unfollowed := true, recurses := true, named := ["loop.example/losslessaudio/impl.errNumber", "loop.example/losslessaudio/impl.errRoom", "loop.example/losslessaudio/impl.errBits"], ifaces := true, apart := false, laid := [("loop.example/losslessaudio/impl.errBits", laid_loop_example_losslessaudio_impl_errBits), ("loop.example/losslessaudio/impl.errNumber", laid_loop_example_losslessaudio_impl_errNumber), ("loop.example/losslessaudio/impl.errRoom", laid_loop_example_losslessaudio_impl_errRoom)] }
def FnPutBitsNothingSaid : Prop := fnPutBitsNothingRow.holds Tryd.pinned (OpenSpec.ofChange fnPutBitsNothingSpec)

/-- ITS FALSE NEIGHBOUR: 'it returns false'. Refute it at one input. -/
def fnPutBitsNothingWrong : ChangeSpec := { name := "fnPutBitsNothing", vars := ["loop.example/losslessaudio/impl.errNumber", "loop.example/losslessaudio/impl.errRoom", "loop.example/losslessaudio/impl.errBits"], fn := fun _ => fun
  | [d, g1, g2, g3] => { results := [.lit (.bool false)], args := [d], vars := [g1, g2, g3] }
  | _ => none }
def FnPutBitsNothingWrongFalsely : Prop := fnPutBitsNothingRow.holds Tryd.pinned (OpenSpec.ofChange fnPutBitsNothingWrong)

/-- 'laws.FnJoinBitsThree': WHATEVER THE INPUT: true; the input reads as it did. -/
def fnJoinBitsThreeSpec : ChangeSpec := { name := "fnJoinBitsThree", vars := ["loop.example/losslessaudio/impl.errNumber", "loop.example/losslessaudio/impl.errRoom", "loop.example/losslessaudio/impl.errBits"], fn := fun _ => fun
  | [d, g1, g2, g3] => { results := [.lit (.bool true)], args := [d], vars := [g1, g2, g3] }
  | _ => none }
def fnJoinBitsThreeRow : OpenClaim := { program := "ytcgcippniicaaaadoor", sum := "7659cd83e219fd325603665dddfe23b8c418dbd4973513aaddb6401f7b32ebae", func := "loop.example/losslessaudio/laws.FnJoinBitsThree", spec := "fnJoinBitsThree", unfollowed := true, recurses := true, named := ["loop.example/losslessaudio/impl.errNumber", "loop.example/losslessaudio/impl.errRoom", "loop.example/losslessaudio/impl.errBits"], ifaces := true, apart := false, laid := [("loop.example/losslessaudio/impl.errBits", laid_loop_example_losslessaudio_impl_errBits), ("loop.example/losslessaudio/impl.errNumber", laid_loop_example_losslessaudio_impl_errNumber), ("loop.example/losslessaudio/impl.errRoom", laid_loop_example_losslessaudio_impl_errRoom)] }
def FnJoinBitsThreeSaid : Prop := fnJoinBitsThreeRow.holds Tryd.pinned (OpenSpec.ofChange fnJoinBitsThreeSpec)

/-- ITS FALSE NEIGHBOUR: 'it returns false'. Refute it at one input. -/
def fnJoinBitsThreeWrong : ChangeSpec := { name := "fnJoinBitsThree", vars := ["loop.example/losslessaudio/impl.errNumber", "loop.example/losslessaudio/impl.errRoom", "loop.example/losslessaudio/impl.errBits"], fn := fun _ => fun
  | [d, g1, g2, g3] => { results := [.lit (.bool false)], args := [d], vars := [g1, g2, g3] }
  | _ => none }
def FnJoinBitsThreeWrongFalsely : Prop := fnJoinBitsThreeRow.holds Tryd.pinned (OpenSpec.ofChange fnJoinBitsThreeWrong)

/-- 'laws.FnExactPutBits': WHATEVER THE INPUT: true; the input reads as it did. -/
def fnExactPutBitsSpec : ChangeSpec := { name := "fnExactPutBits", vars := ["loop.example/losslessaudio/impl.errNumber", "loop.example/losslessaudio/impl.errRoom", "loop.example/losslessaudio/impl.errBits"], fn := fun _ => fun
  | [d1, d2, d3, g1, g2, g3] => { results := [.lit (.bool true)], args := [d1, d2, d3], vars := [g1, g2, g3] }
  | _ => none }
def fnExactPutBitsRow : OpenClaim := { program := "ytcgcippniicaaaadoor", sum := "7659cd83e219fd325603665dddfe23b8c418dbd4973513aaddb6401f7b32ebae", func := "loop.example/losslessaudio/laws.FnExactPutBits", spec := "fnExactPutBits", unfollowed := true, recurses := true, named := ["loop.example/losslessaudio/impl.errNumber", "loop.example/losslessaudio/impl.errRoom", "loop.example/losslessaudio/impl.errBits"], ifaces := true, apart := false, laid := [("loop.example/losslessaudio/impl.errBits", laid_loop_example_losslessaudio_impl_errBits), ("loop.example/losslessaudio/impl.errNumber", laid_loop_example_losslessaudio_impl_errNumber), ("loop.example/losslessaudio/impl.errRoom", laid_loop_example_losslessaudio_impl_errRoom)] }
def FnExactPutBitsSaid : Prop := fnExactPutBitsRow.holds Tryd.pinned (OpenSpec.ofChange fnExactPutBitsSpec)

/-- ITS FALSE NEIGHBOUR: 'it returns false'. Refute it at one input. -/
def fnExactPutBitsWrong : ChangeSpec := { name := "fnExactPutBits", vars := ["loop.example/losslessaudio/impl.errNumber", "loop.example/losslessaudio/impl.errRoom", "loop.example/losslessaudio/impl.errBits"], fn := fun _ => fun
  | [d1, d2, d3, g1, g2, g3] => { results := [.lit (.bool false)], args := [d1, d2, d3], vars := [g1, g2, g3] }
  | _ => none }
def FnExactPutBitsWrongFalsely : Prop := fnExactPutBitsRow.holds Tryd.pinned (OpenSpec.ofChange fnExactPutBitsWrong)

/-- 'laws.FnExactGetBits': WHATEVER THE INPUT: true; the input reads as it did. -/
def fnExactGetBitsSpec : ChangeSpec := { name := "fnExactGetBits", vars := ["loop.example/losslessaudio/impl.errNumber", "loop.example/losslessaudio/impl.errEnd", "loop.example/losslessaudio/impl.errBits"], fn := fun _ => fun
  | [d1, d2, d3, g1, g2, g3] => { results := [.lit (.bool true)], args := [d1, d2, d3], vars := [g1, g2, g3] }
  | _ => none }
def fnExactGetBitsRow : OpenClaim := { program := "ytcgcippniicaaaadoor", sum := "7659cd83e219fd325603665dddfe23b8c418dbd4973513aaddb6401f7b32ebae", func := "loop.example/losslessaudio/laws.FnExactGetBits", spec := "fnExactGetBits", unfollowed := true, recurses := true, named := ["loop.example/losslessaudio/impl.errNumber", "loop.example/losslessaudio/impl.errEnd", "loop.example/losslessaudio/impl.errBits"], ifaces := true, apart := false, laid := [("loop.example/losslessaudio/impl.errBits", laid_loop_example_losslessaudio_impl_errBits), ("loop.example/losslessaudio/impl.errNumber", laid_loop_example_losslessaudio_impl_errNumber), ("loop.example/losslessaudio/impl.errEnd", laid_loop_example_losslessaudio_impl_errEnd)] }
def FnExactGetBitsSaid : Prop := fnExactGetBitsRow.holds Tryd.pinned (OpenSpec.ofChange fnExactGetBitsSpec)

/-- ITS FALSE NEIGHBOUR: 'it returns false'. Refute it at one input. -/
def fnExactGetBitsWrong : ChangeSpec := { name := "fnExactGetBits", vars := ["loop.example/losslessaudio/impl.errNumber", "loop.example/losslessaudio/impl.errEnd", "loop.example/losslessaudio/impl.errBits"], fn := fun _ => fun
  | [d1, d2, d3, g1, g2, g3] => { results := [.lit (.bool false)], args := [d1, d2, d3], vars := [g1, g2, g3] }
  | _ => none }
def FnExactGetBitsWrongFalsely : Prop := fnExactGetBitsRow.holds Tryd.pinned (OpenSpec.ofChange fnExactGetBitsWrong)

/-- 'laws.FnExactJoinBits': WHATEVER THE INPUT: true; the input reads as it did. -/
def fnExactJoinBitsSpec : ChangeSpec := { name := "fnExactJoinBits", vars := ["loop.example/losslessaudio/impl.errNumber", "loop.example/losslessaudio/impl.errRoom", "loop.example/losslessaudio/impl.errBits"], fn := fun _ => fun
  | [d1, d2, g1, g2, g3] => { results := [.lit (.bool true)], args := [d1, d2], vars := [g1, g2, g3] }
  | _ => none }
def fnExactJoinBitsRow : OpenClaim := { program := "ytcgcippniicaaaadoor", sum := "7659cd83e219fd325603665dddfe23b8c418dbd4973513aaddb6401f7b32ebae", func := "loop.example/losslessaudio/laws.FnExactJoinBits", spec := "fnExactJoinBits", unfollowed := true, recurses := true, named := ["loop.example/losslessaudio/impl.errNumber", "loop.example/losslessaudio/impl.errRoom", "loop.example/losslessaudio/impl.errBits"], ifaces := true, apart := false, laid := [("loop.example/losslessaudio/impl.errBits", laid_loop_example_losslessaudio_impl_errBits), ("loop.example/losslessaudio/impl.errNumber", laid_loop_example_losslessaudio_impl_errNumber), ("loop.example/losslessaudio/impl.errRoom", laid_loop_example_losslessaudio_impl_errRoom)] }
def FnExactJoinBitsSaid : Prop := fnExactJoinBitsRow.holds Tryd.pinned (OpenSpec.ofChange fnExactJoinBitsSpec)

/-- ITS FALSE NEIGHBOUR: 'it returns false'. Refute it at one input. -/
def fnExactJoinBitsWrong : ChangeSpec := { name := "fnExactJoinBits", vars := ["loop.example/losslessaudio/impl.errNumber", "loop.example/losslessaudio/impl.errRoom", "loop.example/losslessaudio/impl.errBits"], fn := fun _ => fun
  | [d1, d2, g1, g2, g3] => { results := [.lit (.bool false)], args := [d1, d2], vars := [g1, g2, g3] }
  | _ => none }
def FnExactJoinBitsWrongFalsely : Prop := fnExactJoinBitsRow.holds Tryd.pinned (OpenSpec.ofChange fnExactJoinBitsWrong)

/- THE SECOND FORM. 'bulk': how many values and letters a reading holds, each counted each time it is reached (what is shared counts as often as it is met; a slice's spare places count too). A statement '..UptoSaid' is the law's where the arguments, and the package variables that the reading takes, are together of bulk at most 1048576: NARROWER than '..Said'. Prove '..Said' where nothing that the law and all that it calls make is longer than what came in: it says more and counts as full. Else prove '..UptoSaid'. A law counts once. -/
mutual
def uptoBulk {H : Type} : DataW H → Nat
  | .lit (.string bytes) => bytes.length + 1
  | .lit _ => 1
  | .nil => 1
  | .ptr d => uptoBulk d + 1
  | .slice elems spare => uptoBulkAll elems + uptoBulkAll spare + 1
  | .agg parts => uptoBulkAll parts + 1
  | .iface _ d => uptoBulk d + 1
  | .map entries => uptoBulkEntries entries + 1
  | .held _ => 1
def uptoBulkAll {H : Type} : List (DataW H) → Nat
  | [] => 0
  | d :: r => uptoBulk d + uptoBulkAll r
def uptoBulkEntries {H : Type} : List (Lit × DataW H) → Nat
  | [] => 0
  | x :: r => uptoBulkEntry x + uptoBulkEntries r
def uptoBulkEntry {H : Type} : Lit × DataW H → Nat
  | (.string bytes, d) => bytes.length + uptoBulk d + 1
  | (_, d) => uptoBulk d + 1
 end
def uptoSmall : (H : Type) → List (DataW H) → Bool := fun _ ds => decide (uptoBulkAll ds ≤ 1048576)
def OpenSpec.upto (s : _root_.Go.ChangeSpec) : _root_.Go.OpenSpec := { _root_.Go.OpenSpec.ofChange s with cond := some uptoSmall }

/-- 'laws.FnPutBits', WHERE WHAT IT READS IS OF BULK AT MOST 1048576: true; the input reads as it did. -/
def fnPutBitsUptoRow : OpenClaim := { program := "ytcgcippniicaaaadoor", sum := "7659cd83e219fd325603665dddfe23b8c418dbd4973513aaddb6401f7b32ebae", func := "loop.example/losslessaudio/laws.FnPutBits", spec := "fnPutBits", unfollowed := true, recurses := true, named := ["loop.example/losslessaudio/impl.errNumber", "loop.example/losslessaudio/impl.errRoom", "loop.example/losslessaudio/impl.errBits", "loop.example/losslessaudio/impl.errEnd"], ifaces := true, apart := false, laid := [("loop.example/losslessaudio/impl.errBits", laid_loop_example_losslessaudio_impl_errBits), ("loop.example/losslessaudio/impl.errNumber", laid_loop_example_losslessaudio_impl_errNumber), ("loop.example/losslessaudio/impl.errRoom", laid_loop_example_losslessaudio_impl_errRoom), ("loop.example/losslessaudio/impl.errEnd", laid_loop_example_losslessaudio_impl_errEnd)], narrowed := true }
def FnPutBitsUptoSaid : Prop := fnPutBitsUptoRow.holds Tryd.pinned (OpenSpec.upto fnPutBitsSpec)

/-- 'laws.FnPutBitsParts', WHERE WHAT IT READS IS OF BULK AT MOST 1048576: true; the input reads as it did. -/
def fnPutBitsPartsUptoRow : OpenClaim := { program := "ytcgcippniicaaaadoor", sum := "7659cd83e219fd325603665dddfe23b8c418dbd4973513aaddb6401f7b32ebae", func := "loop.example/losslessaudio/laws.FnPutBitsParts", spec := "fnPutBitsParts", unfollowed := true, recurses := true, named := ["loop.example/losslessaudio/impl.errNumber", "loop.example/losslessaudio/impl.errRoom", "loop.example/losslessaudio/impl.errBits"], ifaces := true, apart := false, laid := [("loop.example/losslessaudio/impl.errBits", laid_loop_example_losslessaudio_impl_errBits), ("loop.example/losslessaudio/impl.errNumber", laid_loop_example_losslessaudio_impl_errNumber), ("loop.example/losslessaudio/impl.errRoom", laid_loop_example_losslessaudio_impl_errRoom)], narrowed := true }
def FnPutBitsPartsUptoSaid : Prop := fnPutBitsPartsUptoRow.holds Tryd.pinned (OpenSpec.upto fnPutBitsPartsSpec)

/-- 'laws.FnGetBits', WHERE WHAT IT READS IS OF BULK AT MOST 1048576: true; the input reads as it did. -/
def fnGetBitsUptoRow : OpenClaim := { program := "ytcgcippniicaaaadoor", sum := "7659cd83e219fd325603665dddfe23b8c418dbd4973513aaddb6401f7b32ebae", func := "loop.example/losslessaudio/laws.FnGetBits", spec := "fnGetBits", unfollowed := true, recurses := true, named := ["loop.example/losslessaudio/impl.errNumber", "loop.example/losslessaudio/impl.errEnd", "loop.example/losslessaudio/impl.errBits"], ifaces := true, apart := false, laid := [("loop.example/losslessaudio/impl.errBits", laid_loop_example_losslessaudio_impl_errBits), ("loop.example/losslessaudio/impl.errNumber", laid_loop_example_losslessaudio_impl_errNumber), ("loop.example/losslessaudio/impl.errEnd", laid_loop_example_losslessaudio_impl_errEnd)], narrowed := true }
def FnGetBitsUptoSaid : Prop := fnGetBitsUptoRow.holds Tryd.pinned (OpenSpec.upto fnGetBitsSpec)

/-- 'laws.FnJoinBits', WHERE WHAT IT READS IS OF BULK AT MOST 1048576: true; the input reads as it did. -/
def fnJoinBitsUptoRow : OpenClaim := { program := "ytcgcippniicaaaadoor", sum := "7659cd83e219fd325603665dddfe23b8c418dbd4973513aaddb6401f7b32ebae", func := "loop.example/losslessaudio/laws.FnJoinBits", spec := "fnJoinBits", unfollowed := true, recurses := true, named := ["loop.example/losslessaudio/impl.errNumber", "loop.example/losslessaudio/impl.errRoom", "loop.example/losslessaudio/impl.errBits", "loop.example/losslessaudio/impl.errEnd"], ifaces := true, apart := false, laid := [("loop.example/losslessaudio/impl.errBits", laid_loop_example_losslessaudio_impl_errBits), ("loop.example/losslessaudio/impl.errNumber", laid_loop_example_losslessaudio_impl_errNumber), ("loop.example/losslessaudio/impl.errRoom", laid_loop_example_losslessaudio_impl_errRoom), ("loop.example/losslessaudio/impl.errEnd", laid_loop_example_losslessaudio_impl_errEnd)], narrowed := true }
def FnJoinBitsUptoSaid : Prop := fnJoinBitsUptoRow.holds Tryd.pinned (OpenSpec.upto fnJoinBitsSpec)

/-- 'laws.FnBitsOf', WHERE WHAT IT READS IS OF BULK AT MOST 1048576: true; the input reads as it did. -/
def fnBitsOfUptoRow : OpenClaim := { program := "ytcgcippniicaaaadoor", sum := "7659cd83e219fd325603665dddfe23b8c418dbd4973513aaddb6401f7b32ebae", func := "loop.example/losslessaudio/laws.FnBitsOf", spec := "fnBitsOf", unfollowed := true, recurses := true, named := ["loop.example/losslessaudio/impl.errNumber", "loop.example/losslessaudio/impl.errEnd", "loop.example/losslessaudio/impl.errBits"], ifaces := true, apart := false, laid := [("loop.example/losslessaudio/impl.errBits", laid_loop_example_losslessaudio_impl_errBits), ("loop.example/losslessaudio/impl.errNumber", laid_loop_example_losslessaudio_impl_errNumber), ("loop.example/losslessaudio/impl.errEnd", laid_loop_example_losslessaudio_impl_errEnd)], narrowed := true }
def FnBitsOfUptoSaid : Prop := fnBitsOfUptoRow.holds Tryd.pinned (OpenSpec.upto fnBitsOfSpec)

/-- 'laws.FnPutBitsNothing', WHERE WHAT IT READS IS OF BULK AT MOST 1048576: true; the input reads as it did. -/
def fnPutBitsNothingUptoRow : OpenClaim := { program := "ytcgcippniicaaaadoor", sum := "7659cd83e219fd325603665dddfe23b8c418dbd4973513aaddb6401f7b32ebae", func := "loop.example/losslessaudio/laws.FnPutBitsNothing", spec := "fnPutBitsNothing", unfollowed := true, recurses := true, named := ["loop.example/losslessaudio/impl.errNumber", "loop.example/losslessaudio/impl.errRoom", "loop.example/losslessaudio/impl.errBits"], ifaces := true, apart := false, laid := [("loop.example/losslessaudio/impl.errBits", laid_loop_example_losslessaudio_impl_errBits), ("loop.example/losslessaudio/impl.errNumber", laid_loop_example_losslessaudio_impl_errNumber), ("loop.example/losslessaudio/impl.errRoom", laid_loop_example_losslessaudio_impl_errRoom)], narrowed := true }
def FnPutBitsNothingUptoSaid : Prop := fnPutBitsNothingUptoRow.holds Tryd.pinned (OpenSpec.upto fnPutBitsNothingSpec)

/-- 'laws.FnJoinBitsThree', WHERE WHAT IT READS IS OF BULK AT MOST 1048576: true; the input reads as it did. -/
def fnJoinBitsThreeUptoRow : OpenClaim := { program := "ytcgcippniicaaaadoor", sum := "7659cd83e219fd325603665dddfe23b8c418dbd4973513aaddb6401f7b32ebae", func := "loop.example/losslessaudio/laws.FnJoinBitsThree", spec := "fnJoinBitsThree", unfollowed := true, recurses := true, named := ["loop.example/losslessaudio/impl.errNumber", "loop.example/losslessaudio/impl.errRoom", "loop.example/losslessaudio/impl.errBits"], ifaces := true, apart := false, laid := [("loop.example/losslessaudio/impl.errBits", laid_loop_example_losslessaudio_impl_errBits), ("loop.example/losslessaudio/impl.errNumber", laid_loop_example_losslessaudio_impl_errNumber), ("loop.example/losslessaudio/impl.errRoom", laid_loop_example_losslessaudio_impl_errRoom)], narrowed := true }
def FnJoinBitsThreeUptoSaid : Prop := fnJoinBitsThreeUptoRow.holds Tryd.pinned (OpenSpec.upto fnJoinBitsThreeSpec)

/-- 'laws.FnExactPutBits', WHERE WHAT IT READS IS OF BULK AT MOST 1048576: true; the input reads as it did. -/
def fnExactPutBitsUptoRow : OpenClaim := { program := "ytcgcippniicaaaadoor", sum := "7659cd83e219fd325603665dddfe23b8c418dbd4973513aaddb6401f7b32ebae", func := "loop.example/losslessaudio/laws.FnExactPutBits", spec := "fnExactPutBits", unfollowed := true, recurses := true, named := ["loop.example/losslessaudio/impl.errNumber", "loop.example/losslessaudio/impl.errRoom", "loop.example/losslessaudio/impl.errBits"], ifaces := true, apart := false, laid := [("loop.example/losslessaudio/impl.errBits", laid_loop_example_losslessaudio_impl_errBits), ("loop.example/losslessaudio/impl.errNumber", laid_loop_example_losslessaudio_impl_errNumber), ("loop.example/losslessaudio/impl.errRoom", laid_loop_example_losslessaudio_impl_errRoom)], narrowed := true }
def FnExactPutBitsUptoSaid : Prop := fnExactPutBitsUptoRow.holds Tryd.pinned (OpenSpec.upto fnExactPutBitsSpec)

/-- 'laws.FnExactGetBits', WHERE WHAT IT READS IS OF BULK AT MOST 1048576: true; the input reads as it did. -/
def fnExactGetBitsUptoRow : OpenClaim := { program := "ytcgcippniicaaaadoor", sum := "7659cd83e219fd325603665dddfe23b8c418dbd4973513aaddb6401f7b32ebae", func := "loop.example/losslessaudio/laws.FnExactGetBits", spec := "fnExactGetBits", unfollowed := true, recurses := true, named := ["loop.example/losslessaudio/impl.errNumber", "loop.example/losslessaudio/impl.errEnd", "loop.example/losslessaudio/impl.errBits"], ifaces := true, apart := false, laid := [("loop.example/losslessaudio/impl.errBits", laid_loop_example_losslessaudio_impl_errBits), ("loop.example/losslessaudio/impl.errNumber", laid_loop_example_losslessaudio_impl_errNumber), ("loop.example/losslessaudio/impl.errEnd", laid_loop_example_losslessaudio_impl_errEnd)], narrowed := true }
def FnExactGetBitsUptoSaid : Prop := fnExactGetBitsUptoRow.holds Tryd.pinned (OpenSpec.upto fnExactGetBitsSpec)

/-- 'laws.FnExactJoinBits', WHERE WHAT IT READS IS OF BULK AT MOST 1048576: true; the input reads as it did. -/
def fnExactJoinBitsUptoRow : OpenClaim := { program := "ytcgcippniicaaaadoor", sum := "7659cd83e219fd325603665dddfe23b8c418dbd4973513aaddb6401f7b32ebae", func := "loop.example/losslessaudio/laws.FnExactJoinBits", spec := "fnExactJoinBits", unfollowed := true, recurses := true, named := ["loop.example/losslessaudio/impl.errNumber", "loop.example/losslessaudio/impl.errRoom", "loop.example/losslessaudio/impl.errBits"], ifaces := true, apart := false, laid := [("loop.example/losslessaudio/impl.errBits", laid_loop_example_losslessaudio_impl_errBits), ("loop.example/losslessaudio/impl.errNumber", laid_loop_example_losslessaudio_impl_errNumber), ("loop.example/losslessaudio/impl.errRoom", laid_loop_example_losslessaudio_impl_errRoom)], narrowed := true }
def FnExactJoinBitsUptoSaid : Prop := fnExactJoinBitsUptoRow.holds Tryd.pinned (OpenSpec.upto fnExactJoinBitsSpec)

end Rows
end Go.Proofs.YtcgcippniicaaaaDoor
