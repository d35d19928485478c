/-
  NARROWER THAN 'FOR EVERY INPUT', by the rows' own cells (each row's printed sentence says how): FnRiceLength: ifaces, laid · FnPutUnary: ifaces, laid · FnGetUnary: ifaces, laid · FnPutRice: ifaces, laid · FnGetRice: ifaces, laid · FnExactPutUnary: ifaces, laid · FnExactGetUnary: ifaces, laid · FnExactPutRice: ifaces, laid · FnExactGetRice: ifaces, laid.
  DERIVED. THE GIVEN ROWS OF THIS SEAT. 9 by the template 'for every input the law returns true; each argument reads behind the call as it read before'; 0 by the template 'total and deterministic' (their statements: YtdbneenlejgjcaaDoorTotals.lean).
  GIVEN WITH THE SEED: the statements are not yours to turn. If you find one false, say at which input.
  Laid BY PROGRAM, IN A SANDBOX (cutbox-rows.mjs): the forced cells as the released guide's own fill.sh prints them over the translation 1e911c7705e2d9fd… (all of the seat's roots in one cut). By AI agents, Wed Nov 11 2026. No macro, syntax, notation, axiom, sorry.
-/
import Derived.Test.YtdbneenlejgjcaaDoorChecked
import GoSem.Claim
import GoSem.ClaimJoined
import GoSem.ClaimMapViews
import Derived.JoinedTies
import Derived.KernelRfl
namespace Go.Proofs.YtdbneenlejgjcaaDoor
/- THE CELL 'sum', in the pinned program and in every row, IS THE sha256 OF THE DUMP (.gsa) THAT YtdbneenlejgjcaaDoorProg.lean LOADS. Nothing in Lean hashes anything: it is a label: what it is worth is what the hold of that sum in a sandbox is worth. -/
noncomputable def Tryd.pinned : Pinned := { name := "ytdbneenlejgjcaadoor", sum := "1e911c7705e2d9fd1990ba16d4fb85a1801d1ea9ef5cf531e06565ad1dca99b4", checked := Tryd.checked }
namespace Rows
def none {H : Type} : Left H := { results := [], args := [] }

/- WHAT THE LISTED PACKAGE-LEVEL VARIABLES READ AS WHEN THE CALL BEGINS. Each datum BY PROGRAM (the guide's laid-datum.mjs) off the statement by which the dump's own 'gosem.cut.vars' lays the variable. In a bare row this is a premise. The card (YtdbneenlejgjcaaDoorCards.lean) ties it to the program's text. -/
def laid_loop_example_losslessaudio_impl_errBits {H : Type} : DataW H := .iface "*errors.errorString" (.ptr (.agg [.lit (.string [105, 110, 118, 97, 108, 105, 100, 32, 98, 105, 116, 115])]))
def laid_loop_example_losslessaudio_impl_errNumber {H : Type} : DataW H := .iface "*errors.errorString" (.ptr (.agg [.lit (.string [110, 117, 109, 98, 101, 114, 32, 119, 105, 116, 104, 111, 117, 116, 32, 97, 32, 99, 111, 100, 101])]))
def laid_loop_example_losslessaudio_impl_errRoom {H : Type} : DataW H := .iface "*errors.errorString" (.ptr (.agg [.lit (.string [116, 111, 111, 32, 109, 97, 110, 121, 32, 98, 105, 116, 115])]))
def laid_loop_example_losslessaudio_impl_errEnd {H : Type} : DataW H := .iface "*errors.errorString" (.ptr (.agg [.lit (.string [116, 111, 111, 32, 102, 101, 119, 32, 98, 105, 116, 115])]))

/-- 'laws.FnRiceLength': WHATEVER THE INPUT: true; the input reads as it did. -/
def fnRiceLengthSpec : ChangeSpec := { name := "fnRiceLength", vars := ["loop.example/losslessaudio/impl.errNumber", "loop.example/losslessaudio/impl.errRoom", "loop.example/losslessaudio/impl.errBits"], fn := fun _ => fun
  | [d, g1, g2, g3] => { results := [.lit (.bool true)], args := [d], vars := [g1, g2, g3] }
  | _ => none }
def fnRiceLengthRow : OpenClaim := { program := "ytdbneenlejgjcaadoor", sum := "1e911c7705e2d9fd1990ba16d4fb85a1801d1ea9ef5cf531e06565ad1dca99b4", func := "loop.example/losslessaudio/laws.FnRiceLength", spec := "fnRiceLength", unfollowed := true, recurses := true, named := ["loop.example/losslessaudio/impl.errNumber", "loop.example/losslessaudio/impl.errRoom", "loop.example/losslessaudio/impl.errBits"], ifaces := true, apart := false, laid := [("loop.example/losslessaudio/impl.errBits", laid_loop_example_losslessaudio_impl_errBits), ("loop.example/losslessaudio/impl.errNumber", laid_loop_example_losslessaudio_impl_errNumber), ("loop.example/losslessaudio/impl.errRoom", laid_loop_example_losslessaudio_impl_errRoom)] }
def FnRiceLengthSaid : Prop := fnRiceLengthRow.holds Tryd.pinned (OpenSpec.ofChange fnRiceLengthSpec)

/-- ITS FALSE NEIGHBOUR: 'it returns false'. Refute it at one input. -/
def fnRiceLengthWrong : ChangeSpec := { name := "fnRiceLength", vars := ["loop.example/losslessaudio/impl.errNumber", "loop.example/losslessaudio/impl.errRoom", "loop.example/losslessaudio/impl.errBits"], fn := fun _ => fun
  | [d, g1, g2, g3] => { results := [.lit (.bool false)], args := [d], vars := [g1, g2, g3] }
  | _ => none }
def FnRiceLengthWrongFalsely : Prop := fnRiceLengthRow.holds Tryd.pinned (OpenSpec.ofChange fnRiceLengthWrong)

/-- 'laws.FnPutUnary': WHATEVER THE INPUT: true; the input reads as it did. -/
def fnPutUnarySpec : ChangeSpec := { name := "fnPutUnary", vars := ["loop.example/losslessaudio/impl.errNumber", "loop.example/losslessaudio/impl.errRoom", "loop.example/losslessaudio/impl.errBits", "loop.example/losslessaudio/impl.errEnd"], fn := fun _ => fun
  | [d, g1, g2, g3, g4] => { results := [.lit (.bool true)], args := [d], vars := [g1, g2, g3, g4] }
  | _ => none }
def fnPutUnaryRow : OpenClaim := { program := "ytdbneenlejgjcaadoor", sum := "1e911c7705e2d9fd1990ba16d4fb85a1801d1ea9ef5cf531e06565ad1dca99b4", func := "loop.example/losslessaudio/laws.FnPutUnary", spec := "fnPutUnary", unfollowed := true, recurses := true, named := ["loop.example/losslessaudio/impl.errNumber", "loop.example/losslessaudio/impl.errRoom", "loop.example/losslessaudio/impl.errBits", "loop.example/losslessaudio/impl.errEnd"], ifaces := true, apart := false, laid := [("loop.example/losslessaudio/impl.errBits", laid_loop_example_losslessaudio_impl_errBits), ("loop.example/losslessaudio/impl.errNumber", laid_loop_example_losslessaudio_impl_errNumber), ("loop.example/losslessaudio/impl.errRoom", laid_loop_example_losslessaudio_impl_errRoom), ("loop.example/losslessaudio/impl.errEnd", laid_loop_example_losslessaudio_impl_errEnd)] }
def FnPutUnarySaid : Prop := fnPutUnaryRow.holds Tryd.pinned (OpenSpec.ofChange fnPutUnarySpec)

/-- ITS FALSE NEIGHBOUR: 'it returns false'. Refute it at one input. -/
def fnPutUnaryWrong : ChangeSpec := { name := "fnPutUnary", vars := ["loop.example/losslessaudio/impl.errNumber", "loop.example/losslessaudio/impl.errRoom", "loop.example/losslessaudio/impl.errBits", "loop.example/losslessaudio/impl.errEnd"], fn := fun _ => fun
  | [d, g1, g2, g3, g4] => { results := [.lit (.bool false)], args := [d], vars := [g1, g2, g3, g4] }
  | _ => none }
def FnPutUnaryWrongFalsely : Prop := fnPutUnaryRow.holds Tryd.pinned (OpenSpec.ofChange fnPutUnaryWrong)

/-- 'laws.FnGetUnary': WHATEVER THE INPUT: true; the input reads as it did. -/
def fnGetUnarySpec : ChangeSpec := { name := "fnGetUnary", vars := ["loop.example/losslessaudio/impl.errBits", "loop.example/losslessaudio/impl.errNumber", "loop.example/losslessaudio/impl.errEnd"], fn := fun _ => fun
  | [d, g1, g2, g3] => { results := [.lit (.bool true)], args := [d], vars := [g1, g2, g3] }
  | _ => none }
def fnGetUnaryRow : OpenClaim := { program := "ytdbneenlejgjcaadoor", sum := "1e911c7705e2d9fd1990ba16d4fb85a1801d1ea9ef5cf531e06565ad1dca99b4", func := "loop.example/losslessaudio/laws.FnGetUnary", spec := "fnGetUnary", unfollowed := true, recurses := true, named := ["loop.example/losslessaudio/impl.errBits", "loop.example/losslessaudio/impl.errNumber", "loop.example/losslessaudio/impl.errEnd"], ifaces := true, apart := false, laid := [("loop.example/losslessaudio/impl.errBits", laid_loop_example_losslessaudio_impl_errBits), ("loop.example/losslessaudio/impl.errNumber", laid_loop_example_losslessaudio_impl_errNumber), ("loop.example/losslessaudio/impl.errEnd", laid_loop_example_losslessaudio_impl_errEnd)] }
def FnGetUnarySaid : Prop := fnGetUnaryRow.holds Tryd.pinned (OpenSpec.ofChange fnGetUnarySpec)

/-- ITS FALSE NEIGHBOUR: 'it returns false'. Refute it at one input. -/
def fnGetUnaryWrong : ChangeSpec := { name := "fnGetUnary", vars := ["loop.example/losslessaudio/impl.errBits", "loop.example/losslessaudio/impl.errNumber", "loop.example/losslessaudio/impl.errEnd"], fn := fun _ => fun
  | [d, g1, g2, g3] => { results := [.lit (.bool false)], args := [d], vars := [g1, g2, g3] }
  | _ => none }
def FnGetUnaryWrongFalsely : Prop := fnGetUnaryRow.holds Tryd.pinned (OpenSpec.ofChange fnGetUnaryWrong)

/-- 'laws.FnPutRice': WHATEVER THE INPUT: true; the input reads as it did. -/
def fnPutRiceSpec : ChangeSpec := { name := "fnPutRice", vars := ["loop.example/losslessaudio/impl.errNumber", "loop.example/losslessaudio/impl.errRoom", "loop.example/losslessaudio/impl.errBits", "loop.example/losslessaudio/impl.errEnd"], fn := fun _ => fun
  | [d, g1, g2, g3, g4] => { results := [.lit (.bool true)], args := [d], vars := [g1, g2, g3, g4] }
  | _ => none }
def fnPutRiceRow : OpenClaim := { program := "ytdbneenlejgjcaadoor", sum := "1e911c7705e2d9fd1990ba16d4fb85a1801d1ea9ef5cf531e06565ad1dca99b4", func := "loop.example/losslessaudio/laws.FnPutRice", spec := "fnPutRice", unfollowed := true, recurses := true, named := ["loop.example/losslessaudio/impl.errNumber", "loop.example/losslessaudio/impl.errRoom", "loop.example/losslessaudio/impl.errBits", "loop.example/losslessaudio/impl.errEnd"], ifaces := true, apart := false, laid := [("loop.example/losslessaudio/impl.errBits", laid_loop_example_losslessaudio_impl_errBits), ("loop.example/losslessaudio/impl.errNumber", laid_loop_example_losslessaudio_impl_errNumber), ("loop.example/losslessaudio/impl.errRoom", laid_loop_example_losslessaudio_impl_errRoom), ("loop.example/losslessaudio/impl.errEnd", laid_loop_example_losslessaudio_impl_errEnd)] }
def FnPutRiceSaid : Prop := fnPutRiceRow.holds Tryd.pinned (OpenSpec.ofChange fnPutRiceSpec)

/-- ITS FALSE NEIGHBOUR: 'it returns false'. Refute it at one input. -/
def fnPutRiceWrong : ChangeSpec := { name := "fnPutRice", vars := ["loop.example/losslessaudio/impl.errNumber", "loop.example/losslessaudio/impl.errRoom", "loop.example/losslessaudio/impl.errBits", "loop.example/losslessaudio/impl.errEnd"], fn := fun _ => fun
  | [d, g1, g2, g3, g4] => { results := [.lit (.bool false)], args := [d], vars := [g1, g2, g3, g4] }
  | _ => none }
def FnPutRiceWrongFalsely : Prop := fnPutRiceRow.holds Tryd.pinned (OpenSpec.ofChange fnPutRiceWrong)

/-- 'laws.FnGetRice': WHATEVER THE INPUT: true; the input reads as it did. -/
def fnGetRiceSpec : ChangeSpec := { name := "fnGetRice", vars := ["loop.example/losslessaudio/impl.errNumber", "loop.example/losslessaudio/impl.errEnd", "loop.example/losslessaudio/impl.errBits", "loop.example/losslessaudio/impl.errRoom"], fn := fun _ => fun
  | [d, g1, g2, g3, g4] => { results := [.lit (.bool true)], args := [d], vars := [g1, g2, g3, g4] }
  | _ => none }
def fnGetRiceRow : OpenClaim := { program := "ytdbneenlejgjcaadoor", sum := "1e911c7705e2d9fd1990ba16d4fb85a1801d1ea9ef5cf531e06565ad1dca99b4", func := "loop.example/losslessaudio/laws.FnGetRice", spec := "fnGetRice", unfollowed := true, recurses := true, named := ["loop.example/losslessaudio/impl.errNumber", "loop.example/losslessaudio/impl.errEnd", "loop.example/losslessaudio/impl.errBits", "loop.example/losslessaudio/impl.errRoom"], ifaces := true, apart := false, laid := [("loop.example/losslessaudio/impl.errBits", laid_loop_example_losslessaudio_impl_errBits), ("loop.example/losslessaudio/impl.errNumber", laid_loop_example_losslessaudio_impl_errNumber), ("loop.example/losslessaudio/impl.errRoom", laid_loop_example_losslessaudio_impl_errRoom), ("loop.example/losslessaudio/impl.errEnd", laid_loop_example_losslessaudio_impl_errEnd)] }
def FnGetRiceSaid : Prop := fnGetRiceRow.holds Tryd.pinned (OpenSpec.ofChange fnGetRiceSpec)

/-- ITS FALSE NEIGHBOUR: 'it returns false'. Refute it at one input. -/
def fnGetRiceWrong : ChangeSpec := { name := "fnGetRice", vars := ["loop.example/losslessaudio/impl.errNumber", "loop.example/losslessaudio/impl.errEnd", "loop.example/losslessaudio/impl.errBits", "loop.example/losslessaudio/impl.errRoom"], fn := fun _ => fun
  | [d, g1, g2, g3, g4] => { results := [.lit (.bool false)], args := [d], vars := [g1, g2, g3, g4] }
  | _ => none }
def FnGetRiceWrongFalsely : Prop := fnGetRiceRow.holds Tryd.pinned (OpenSpec.ofChange fnGetRiceWrong)

/-- 'laws.FnExactPutUnary': WHATEVER THE INPUT: true; the input reads as it did. -/
def fnExactPutUnarySpec : ChangeSpec := { name := "fnExactPutUnary", vars := ["loop.example/losslessaudio/impl.errNumber", "loop.example/losslessaudio/impl.errRoom", "loop.example/losslessaudio/impl.errBits"], fn := fun _ => fun
  | [d1, d2, g1, g2, g3] => { results := [.lit (.bool true)], args := [d1, d2], vars := [g1, g2, g3] }
  | _ => none }
def fnExactPutUnaryRow : OpenClaim := { program := "ytdbneenlejgjcaadoor", sum := "1e911c7705e2d9fd1990ba16d4fb85a1801d1ea9ef5cf531e06565ad1dca99b4", func := "loop.example/losslessaudio/laws.FnExactPutUnary", spec := "fnExactPutUnary", unfollowed := true, recurses := true, named := ["loop.example/losslessaudio/impl.errNumber", "loop.example/losslessaudio/impl.errRoom", "loop.example/losslessaudio/impl.errBits"], ifaces := true, apart := false, laid := [("loop.example/losslessaudio/impl.errBits", laid_loop_example_losslessaudio_impl_errBits), ("loop.example/losslessaudio/impl.errNumber", laid_loop_example_losslessaudio_impl_errNumber), ("loop.example/losslessaudio/impl.errRoom", laid_loop_example_losslessaudio_impl_errRoom)] }
def FnExactPutUnarySaid : Prop := fnExactPutUnaryRow.holds Tryd.pinned (OpenSpec.ofChange fnExactPutUnarySpec)

/-- ITS FALSE NEIGHBOUR: 'it returns false'. Refute it at one input. -/
def fnExactPutUnaryWrong : ChangeSpec := { name := "fnExactPutUnary", vars := ["loop.example/losslessaudio/impl.errNumber", "loop.example/losslessaudio/impl.errRoom", "loop.example/losslessaudio/impl.errBits"], fn := fun _ => fun
  | [d1, d2, g1, g2, g3] => { results := [.lit (.bool false)], args := [d1, d2], vars := [g1, g2, g3] }
  | _ => none }
def FnExactPutUnaryWrongFalsely : Prop := fnExactPutUnaryRow.holds Tryd.pinned (OpenSpec.ofChange fnExactPutUnaryWrong)

/-- 'laws.FnExactGetUnary': WHATEVER THE INPUT: true; the input reads as it did. -/
def fnExactGetUnarySpec : ChangeSpec := { name := "fnExactGetUnary", vars := ["loop.example/losslessaudio/impl.errBits", "loop.example/losslessaudio/impl.errNumber", "loop.example/losslessaudio/impl.errEnd"], fn := fun _ => fun
  | [d1, d2, g1, g2, g3] => { results := [.lit (.bool true)], args := [d1, d2], vars := [g1, g2, g3] }
  | _ => none }
def fnExactGetUnaryRow : OpenClaim := { program := "ytdbneenlejgjcaadoor", sum := "1e911c7705e2d9fd1990ba16d4fb85a1801d1ea9ef5cf531e06565ad1dca99b4", func := "loop.example/losslessaudio/laws.FnExactGetUnary", spec := "fnExactGetUnary", unfollowed := true, recurses := true, named := ["loop.example/losslessaudio/impl.errBits", "loop.example/losslessaudio/impl.errNumber", "loop.example/losslessaudio/impl.errEnd"], ifaces := true, apart := false, laid := [("loop.example/losslessaudio/impl.errBits", laid_loop_example_losslessaudio_impl_errBits), ("loop.example/losslessaudio/impl.errNumber", laid_loop_example_losslessaudio_impl_errNumber), ("loop.example/losslessaudio/impl.errEnd", laid_loop_example_losslessaudio_impl_errEnd)] }
def FnExactGetUnarySaid : Prop := fnExactGetUnaryRow.holds Tryd.pinned (OpenSpec.ofChange fnExactGetUnarySpec)

/-- ITS FALSE NEIGHBOUR: 'it returns false'. Refute it at one input. -/
def fnExactGetUnaryWrong : ChangeSpec := { name := "fnExactGetUnary", vars := ["loop.example/losslessaudio/impl.errBits", "loop.example/losslessaudio/impl.errNumber", "loop.example/losslessaudio/impl.errEnd"], fn := fun _ => fun
  | [d1, d2, g1, g2, g3] => { results := [.lit (.bool false)], args := [d1, d2], vars := [g1, g2, g3] }
  | _ => none }
def FnExactGetUnaryWrongFalsely : Prop := fnExactGetUnaryRow.holds Tryd.pinned (OpenSpec.ofChange fnExactGetUnaryWrong)

/-- 'laws.FnExactPutRice': WHATEVER THE INPUT: true; the input reads as it did. -/
def fnExactPutRiceSpec : ChangeSpec := { name := "fnExactPutRice", vars := ["loop.example/losslessaudio/impl.errNumber", "loop.example/losslessaudio/impl.errRoom", "loop.example/losslessaudio/impl.errBits"], fn := fun _ => fun
  | [d1, d2, d3, g1, g2, g3] => { results := [.lit (.bool true)], args := [d1, d2, d3], vars := [g1, g2, g3] }
  | _ => none }
def fnExactPutRiceRow : OpenClaim := { program := "ytdbneenlejgjcaadoor", sum := "1e911c7705e2d9fd1990ba16d4fb85a1801d1ea9ef5cf531e06565ad1dca99b4", func := "loop.example/losslessaudio/laws.FnExactPutRice", spec := "fnExactPutRice", unfollowed := true, recurses := true, named := ["loop.example/losslessaudio/impl.errNumber", "loop.example/losslessaudio/impl.errRoom", "loop.example/losslessaudio/impl.errBits"], ifaces := true, apart := false, laid := [("loop.example/losslessaudio/impl.errBits", laid_loop_example_losslessaudio_impl_errBits), ("loop.example/losslessaudio/impl.errNumber", laid_loop_example_losslessaudio_impl_errNumber), ("loop.example/losslessaudio/impl.errRoom", laid_loop_example_losslessaudio_impl_errRoom)] }
def FnExactPutRiceSaid : Prop := fnExactPutRiceRow.holds Tryd.pinned (OpenSpec.ofChange fnExactPutRiceSpec)

/-- ITS FALSE NEIGHBOUR: 'it returns false'. Refute it at one input. -/
def fnExactPutRiceWrong : ChangeSpec := { name := "fnExactPutRice", vars := ["loop.example/losslessaudio/impl.errNumber", "loop.example/losslessaudio/impl.errRoom", "loop.example/losslessaudio/impl.errBits"], fn := fun _ => fun
  | [d1, d2, d3, g1, g2, g3] => { results := [.lit (.bool false)], args := [d1, d2, d3], vars := [g1, g2, g3] }
  | _ => none }
def FnExactPutRiceWrongFalsely : Prop := fnExactPutRiceRow.holds Tryd.pinned (OpenSpec.ofChange fnExactPutRiceWrong)

/-- 'laws.FnExactGetRice': WHATEVER THE INPUT: true; the input reads as it did. -/
def fnExactGetRiceSpec : ChangeSpec := { name := "fnExactGetRice", vars := ["loop.example/losslessaudio/impl.errNumber", "loop.example/losslessaudio/impl.errEnd", "loop.example/losslessaudio/impl.errBits"], fn := fun _ => fun
  | [d1, d2, d3, g1, g2, g3] => { results := [.lit (.bool true)], args := [d1, d2, d3], vars := [g1, g2, g3] }
  | _ => none }
def fnExactGetRiceRow : OpenClaim := { program := "ytdbneenlejgjcaadoor", sum := "1e911c7705e2d9fd1990ba16d4fb85a1801d1ea9ef5cf531e06565ad1dca99b4", func := "loop.example/losslessaudio/laws.FnExactGetRice", spec := "fnExactGetRice", unfollowed := true, recurses := true, named := ["loop.example/losslessaudio/impl.errNumber", "loop.example/losslessaudio/impl.errEnd", "loop.example/losslessaudio/impl.errBits"], ifaces := true, apart := false, laid := [("loop.example/losslessaudio/impl.errBits", laid_loop_example_losslessaudio_impl_errBits), ("loop.example/losslessaudio/impl.errNumber", laid_loop_example_losslessaudio_impl_errNumber), ("loop.example/losslessaudio/impl.errEnd", laid_loop_example_losslessaudio_impl_errEnd)] }
def FnExactGetRiceSaid : Prop := fnExactGetRiceRow.holds Tryd.pinned (OpenSpec.ofChange fnExactGetRiceSpec)

/-- ITS FALSE NEIGHBOUR: 'it returns false'. Refute it at one input. -/
def fnExactGetRiceWrong : ChangeSpec := { name := "fnExactGetRice", vars := ["loop.example/losslessaudio/impl.errNumber", "loop.example/losslessaudio/impl.errEnd", "loop.example/losslessaudio/impl.errBits"], fn := fun _ => fun
  | [d1, d2, d3, g1, g2, g3] => { results := [.lit (.bool false)], args := [d1, d2, d3], vars := [g1, g2, g3] }
  | _ => none }
def FnExactGetRiceWrongFalsely : Prop := fnExactGetRiceRow.holds Tryd.pinned (OpenSpec.ofChange fnExactGetRiceWrong)

/- THE SECOND FORM. 'bulk': how many values and letters a reading holds, each counted each time it is reached (what is shared counts as often as it is met; a slice's spare places count too). A statement '..UptoSaid' is the law's where the arguments, and the package variables that the reading takes, are together of bulk at most 1048576: NARROWER than '..Said'. Prove '..Said' where nothing that the law and all that it calls make is longer than what came in: it says more and counts as full. Else prove '..UptoSaid'. A law counts once. -/
mutual
def uptoBulk {H : Type} : DataW H → Nat
  | .lit (.string bytes) => bytes.length + 1
  | .lit _ => 1
  | .nil => 1
  | .ptr d => uptoBulk d + 1
  | .slice elems spare => uptoBulkAll elems + uptoBulkAll spare + 1
  | .agg parts => uptoBulkAll parts + 1
  | .iface _ d => uptoBulk d + 1
  | .map entries => uptoBulkEntries entries + 1
  | .held _ => 1
def uptoBulkAll {H : Type} : List (DataW H) → Nat
  | [] => 0
  | d :: r => uptoBulk d + uptoBulkAll r
def uptoBulkEntries {H : Type} : List (Lit × DataW H) → Nat
  | [] => 0
  | x :: r => uptoBulkEntry x + uptoBulkEntries r
def uptoBulkEntry {H : Type} : Lit × DataW H → Nat
  | (.string bytes, d) => bytes.length + uptoBulk d + 1
  | (_, d) => uptoBulk d + 1
 end
def uptoSmall : (H : Type) → List (DataW H) → Bool := fun _ ds => decide (uptoBulkAll ds ≤ 1048576)
def OpenSpec.upto (s : _root_.Go.ChangeSpec) : _root_.Go.OpenSpec := { _root_.Go.OpenSpec.ofChange s with cond := some uptoSmall }

/-- 'laws.FnRiceLength', WHERE WHAT IT READS IS OF BULK AT MOST 1048576: true; the input reads as it did. -/
def fnRiceLengthUptoRow : OpenClaim := { program := "ytdbneenlejgjcaadoor", sum := "1e911c7705e2d9fd1990ba16d4fb85a1801d1ea9ef5cf531e06565ad1dca99b4", func := "loop.example/losslessaudio/laws.FnRiceLength", spec := "fnRiceLength", unfollowed := true, recurses := true, named := ["loop.example/losslessaudio/impl.errNumber", "loop.example/losslessaudio/impl.errRoom", "loop.example/losslessaudio/impl.errBits"], ifaces := true, apart := false, laid := [("loop.example/losslessaudio/impl.errBits", laid_loop_example_losslessaudio_impl_errBits), ("loop.example/losslessaudio/impl.errNumber", laid_loop_example_losslessaudio_impl_errNumber), ("loop.example/losslessaudio/impl.errRoom", laid_loop_example_losslessaudio_impl_errRoom)], narrowed := true }
def FnRiceLengthUptoSaid : Prop := fnRiceLengthUptoRow.holds Tryd.pinned (OpenSpec.upto fnRiceLengthSpec)

/-- 'laws.FnPutUnary', WHERE WHAT IT READS IS OF BULK AT MOST 1048576: true; the input reads as it did. -/
def fnPutUnaryUptoRow : OpenClaim := { program := "ytdbneenlejgjcaadoor", sum := "1e911c7705e2d9fd1990ba16d4fb85a1801d1ea9ef5cf531e06565ad1dca99b4", func := "loop.example/losslessaudio/laws.FnPutUnary", spec := "fnPutUnary", unfollowed := true, recurses := true, named := ["loop.example/losslessaudio/impl.errNumber", "loop.example/losslessaudio/impl.errRoom", "loop.example/losslessaudio/impl.errBits", "loop.example/losslessaudio/impl.errEnd"], ifaces := true, apart := false, laid := [("loop.example/losslessaudio/impl.errBits", laid_loop_example_losslessaudio_impl_errBits), ("loop.example/losslessaudio/impl.errNumber", laid_loop_example_losslessaudio_impl_errNumber), ("loop.example/losslessaudio/impl.errRoom", laid_loop_example_losslessaudio_impl_errRoom), ("loop.example/losslessaudio/impl.errEnd", laid_loop_example_losslessaudio_impl_errEnd)], narrowed := true }
def FnPutUnaryUptoSaid : Prop := fnPutUnaryUptoRow.holds Tryd.pinned (OpenSpec.upto fnPutUnarySpec)

/-- 'laws.FnGetUnary', WHERE WHAT IT READS IS OF BULK AT MOST 1048576: true; the input reads as it did. -/
def fnGetUnaryUptoRow : OpenClaim := { program := "ytdbneenlejgjcaadoor", sum := "1e911c7705e2d9fd1990ba16d4fb85a1801d1ea9ef5cf531e06565ad1dca99b4", func := "loop.example/losslessaudio/laws.FnGetUnary", spec := "fnGetUnary", unfollowed := true, recurses := true, named := ["loop.example/losslessaudio/impl.errBits", "loop.example/losslessaudio/impl.errNumber", "loop.example/losslessaudio/impl.errEnd"], ifaces := true, apart := false, laid := [("loop.example/losslessaudio/impl.errBits", laid_loop_example_losslessaudio_impl_errBits), ("loop.example/losslessaudio/impl.errNumber", laid_loop_example_losslessaudio_impl_errNumber), ("loop.example/losslessaudio/impl.errEnd", laid_loop_example_losslessaudio_impl_errEnd)], narrowed := true }
def FnGetUnaryUptoSaid : Prop := fnGetUnaryUptoRow.holds Tryd.pinned (OpenSpec.upto fnGetUnarySpec)

/-- 'laws.FnPutRice', WHERE WHAT IT READS IS OF BULK AT MOST 1048576: true; the input reads as it did. -/
def fnPutRiceUptoRow : OpenClaim := { program := "ytdbneenlejgjcaadoor", sum := "1e911c7705e2d9fd1990ba16d4fb85a1801d1ea9ef5cf531e06565ad1dca99b4", func := "loop.example/losslessaudio/laws.FnPutRice", spec := "fnPutRice", unfollowed := true, recurses := true, named := ["loop.example/losslessaudio/impl.errNumber", "loop.example/losslessaudio/impl.errRoom", "loop.example/losslessaudio/impl.errBits", "loop.example/losslessaudio/impl.errEnd"], ifaces := true, apart := false, laid := [("loop.example/losslessaudio/impl.errBits", laid_loop_example_losslessaudio_impl_errBits), ("loop.example/losslessaudio/impl.errNumber", laid_loop_example_losslessaudio_impl_errNumber), ("loop.example/losslessaudio/impl.errRoom", laid_loop_example_losslessaudio_impl_errRoom), ("loop.example/losslessaudio/impl.errEnd", laid_loop_example_losslessaudio_impl_errEnd)], narrowed := true }
def FnPutRiceUptoSaid : Prop := fnPutRiceUptoRow.holds Tryd.pinned (OpenSpec.upto fnPutRiceSpec)

/-- 'laws.FnGetRice', WHERE WHAT IT READS IS OF BULK AT MOST 1048576: true; the input reads as it did. -/
def fnGetRiceUptoRow : OpenClaim := { program := "ytdbneenlejgjcaadoor", sum := "1e911c7705e2d9fd1990ba16d4fb85a1801d1ea9ef5cf531e06565ad1dca99b4", func := "loop.example/losslessaudio/laws.FnGetRice", spec := "fnGetRice", unfollowed := true, recurses := true, named := ["loop.example/losslessaudio/impl.errNumber", "loop.example/losslessaudio/impl.errEnd", "loop.example/losslessaudio/impl.errBits", "loop.example/losslessaudio/impl.errRoom"], ifaces := true, apart := false, laid := [("loop.example/losslessaudio/impl.errBits", laid_loop_example_losslessaudio_impl_errBits), ("loop.example/losslessaudio/impl.errNumber", laid_loop_example_losslessaudio_impl_errNumber), ("loop.example/losslessaudio/impl.errRoom", laid_loop_example_losslessaudio_impl_errRoom), ("loop.example/losslessaudio/impl.errEnd", laid_loop_example_losslessaudio_impl_errEnd)], narrowed := true }
def FnGetRiceUptoSaid : Prop := fnGetRiceUptoRow.holds Tryd.pinned (OpenSpec.upto fnGetRiceSpec)

/-- 'laws.FnExactPutUnary', WHERE WHAT IT READS IS OF BULK AT MOST 1048576: true; the input reads as it did. -/
def fnExactPutUnaryUptoRow : OpenClaim := { program := "ytdbneenlejgjcaadoor", sum := "1e911c7705e2d9fd1990ba16d4fb85a1801d1ea9ef5cf531e06565ad1dca99b4", func := "loop.example/losslessaudio/laws.FnExactPutUnary", spec := "fnExactPutUnary", unfollowed := true, recurses := true, named := ["loop.example/losslessaudio/impl.errNumber", "loop.example/losslessaudio/impl.errRoom", "loop.example/losslessaudio/impl.errBits"], ifaces := true, apart := false, laid := [("loop.example/losslessaudio/impl.errBits", laid_loop_example_losslessaudio_impl_errBits), ("loop.example/losslessaudio/impl.errNumber", laid_loop_example_losslessaudio_impl_errNumber), ("loop.example/losslessaudio/impl.errRoom", laid_loop_example_losslessaudio_impl_errRoom)], narrowed := true }
def FnExactPutUnaryUptoSaid : Prop := fnExactPutUnaryUptoRow.holds Tryd.pinned (OpenSpec.upto fnExactPutUnarySpec)

/-- 'laws.FnExactGetUnary', WHERE WHAT IT READS IS OF BULK AT MOST 1048576: true; the input reads as it did. -/
def fnExactGetUnaryUptoRow : OpenClaim := { program := "ytdbneenlejgjcaadoor", sum := "1e911c7705e2d9fd1990ba16d4fb85a1801d1ea9ef5cf531e06565ad1dca99b4", func := "loop.example/losslessaudio/laws.FnExactGetUnary", spec := "fnExactGetUnary", unfollowed := true, recurses := true, named := ["loop.example/losslessaudio/impl.errBits", "loop.example/losslessaudio/impl.errNumber", "loop.example/losslessaudio/impl.errEnd"], ifaces := true, apart := false, laid := [("loop.example/losslessaudio/impl.errBits", laid_loop_example_losslessaudio_impl_errBits), ("loop.example/losslessaudio/impl.errNumber", laid_loop_example_losslessaudio_impl_errNumber), ("loop.example/losslessaudio/impl.errEnd", laid_loop_example_losslessaudio_impl_errEnd)], narrowed := true }
def FnExactGetUnaryUptoSaid : Prop := fnExactGetUnaryUptoRow.holds Tryd.pinned (OpenSpec.upto fnExactGetUnarySpec)

/-- 'laws.FnExactPutRice', WHERE WHAT IT READS IS OF BULK AT MOST 1048576: true; the input reads as it did. -/
def fnExactPutRiceUptoRow : OpenClaim := { program := "ytdbneenlejgjcaadoor", sum := "1e911c7705e2d9fd1990ba16d4fb85a1801d1ea9ef5cf531e06565ad1dca99b4", func := "loop.example/losslessaudio/laws.FnExactPutRice", spec := "fnExactPutRice", unfollowed := true, recurses := true, named := ["loop.example/losslessaudio/impl.errNumber", "loop.example/losslessaudio/impl.errRoom", "loop.example/losslessaudio/impl.errBits"], ifaces := true, apart := false, laid := [("loop.example/losslessaudio/impl.errBits", laid_loop_example_losslessaudio_impl_errBits), ("loop.example/losslessaudio/impl.errNumber", laid_loop_example_losslessaudio_impl_errNumber), ("loop.example/losslessaudio/impl.errRoom", laid_loop_example_losslessaudio_impl_errRoom)], narrowed := true }
def FnExactPutRiceUptoSaid : Prop := fnExactPutRiceUptoRow.holds Tryd.pinned (OpenSpec.upto fnExactPutRiceSpec)

/-- 'laws.FnExactGetRice', WHERE WHAT IT READS IS OF BULK AT MOST 1048576: true; the input reads as it did. -/
def fnExactGetRiceUptoRow : OpenClaim := { program := "ytdbneenlejgjcaadoor", sum := "1e911c7705e2d9fd1990ba16d4fb85a1801d1ea9ef5cf531e06565ad1dca99b4", func := "loop.example/losslessaudio/laws.FnExactGetRice", spec := "fnExactGetRice", unfollowed := true, recurses := true, named := ["loop.example/losslessaudio/impl.errNumber", "loop.example/losslessaudio/impl.errEnd", "loop.example/losslessaudio/impl.errBits"], ifaces := true, apart := false, laid := [("loop.example/losslessaudio/impl.errBits", laid_loop_example_losslessaudio_impl_errBits), ("loop.example/losslessaudio/impl.errNumber", laid_loop_example_losslessaudio_impl_errNumber), ("loop.example/losslessaudio/impl.errEnd", laid_loop_example_losslessaudio_impl_errEnd)], narrowed := true }
def FnExactGetRiceUptoSaid : Prop := fnExactGetRiceUptoRow.holds Tryd.pinned (OpenSpec.upto fnExactGetRiceSpec)

end Rows
end Go.Proofs.YtdbneenlejgjcaaDoor
