/-
  No cell of these rows narrows 'for every input' (looked for: loops, veiled, ifaces, maps, wideKeys, modest, calm, conditions, laid).
  DERIVED. THE GIVEN ROWS OF THIS SEAT. 16 by the template 'for every input the law returns true; each argument reads behind the call as it read before'; 0 by the template 'total and deterministic' (their statements: YtdhfjaoaekdfbaaTotals.lean).
  GIVEN WITH THE SEED: the statements are not yours to turn. If you find one false, say at which input.
  Laid BY PROGRAM, IN A SANDBOX (cutbox-rows.mjs): the forced cells as the released guide's own fill.sh prints them over the translation b96d91f5ab10f112… (all of the seat's roots in one cut). By AI agents, Wed Nov 11 2026. No macro, syntax, notation, axiom, sorry.
-/
import Derived.Test.YtdhfjaoaekdfbaaChecked
import GoSem.Claim
import GoSem.ClaimJoined
import GoSem.ClaimMapViews
import Derived.JoinedTies
import Derived.KernelRfl
namespace Go.Proofs.Ytdhfjaoaekdfbaa
/- THE CELL 'sum', in the pinned program and in every row, IS THE sha256 OF THE DUMP (.gsa) THAT YtdhfjaoaekdfbaaProg.lean LOADS. Nothing in Lean hashes anything: it is a label: what it is worth is what the hold of that sum in a sandbox is worth. -/
noncomputable def Try.pinned : Pinned := { name := "ytdhfjaoaekdfbaa", sum := "b96d91f5ab10f112a253651c7ae648029703111dbd88cd3a0fd327b9c5c3f11b", checked := Try.checked }
namespace Rows
def none {H : Type} : Left H := { results := [], args := [] }

/-- 'laws.FnAlignBits': WHATEVER THE INPUT: true; the input reads as it did. -/
def fnAlignBitsSpec : ChangeSpec := { name := "fnAlignBits", fn := fun _ => fun
  | [d] => { results := [.lit (.bool true)], args := [d] }
  | _ => none }
def fnAlignBitsRow : OpenClaim := { program := "ytdhfjaoaekdfbaa", sum := "b96d91f5ab10f112a253651c7ae648029703111dbd88cd3a0fd327b9c5c3f11b", func := "loop.example/losslessaudio/laws.FnAlignBits", spec := "fnAlignBits", apart := false }
def FnAlignBitsSaid : Prop := fnAlignBitsRow.holds Try.pinned (OpenSpec.ofChange fnAlignBitsSpec)

/-- ITS FALSE NEIGHBOUR: 'it returns false'. Refute it at one input. -/
def fnAlignBitsWrong : ChangeSpec := { name := "fnAlignBits", fn := fun _ => fun
  | [d] => { results := [.lit (.bool false)], args := [d] }
  | _ => none }
def FnAlignBitsWrongFalsely : Prop := fnAlignBitsRow.holds Try.pinned (OpenSpec.ofChange fnAlignBitsWrong)

/-- 'laws.FnZigzag': WHATEVER THE INPUT: true; the input reads as it did. -/
def fnZigzagSpec : ChangeSpec := { name := "fnZigzag", fn := fun _ => fun
  | [d] => { results := [.lit (.bool true)], args := [d] }
  | _ => none }
def fnZigzagRow : OpenClaim := { program := "ytdhfjaoaekdfbaa", sum := "b96d91f5ab10f112a253651c7ae648029703111dbd88cd3a0fd327b9c5c3f11b", func := "loop.example/losslessaudio/laws.FnZigzag", spec := "fnZigzag", apart := false }
def FnZigzagSaid : Prop := fnZigzagRow.holds Try.pinned (OpenSpec.ofChange fnZigzagSpec)

/-- ITS FALSE NEIGHBOUR: 'it returns false'. Refute it at one input. -/
def fnZigzagWrong : ChangeSpec := { name := "fnZigzag", fn := fun _ => fun
  | [d] => { results := [.lit (.bool false)], args := [d] }
  | _ => none }
def FnZigzagWrongFalsely : Prop := fnZigzagRow.holds Try.pinned (OpenSpec.ofChange fnZigzagWrong)

/-- 'laws.FnUnzigzag': WHATEVER THE INPUT: true; the input reads as it did. -/
def fnUnzigzagSpec : ChangeSpec := { name := "fnUnzigzag", fn := fun _ => fun
  | [d] => { results := [.lit (.bool true)], args := [d] }
  | _ => none }
def fnUnzigzagRow : OpenClaim := { program := "ytdhfjaoaekdfbaa", sum := "b96d91f5ab10f112a253651c7ae648029703111dbd88cd3a0fd327b9c5c3f11b", func := "loop.example/losslessaudio/laws.FnUnzigzag", spec := "fnUnzigzag", apart := false }
def FnUnzigzagSaid : Prop := fnUnzigzagRow.holds Try.pinned (OpenSpec.ofChange fnUnzigzagSpec)

/-- ITS FALSE NEIGHBOUR: 'it returns false'. Refute it at one input. -/
def fnUnzigzagWrong : ChangeSpec := { name := "fnUnzigzag", fn := fun _ => fun
  | [d] => { results := [.lit (.bool false)], args := [d] }
  | _ => none }
def FnUnzigzagWrongFalsely : Prop := fnUnzigzagRow.holds Try.pinned (OpenSpec.ofChange fnUnzigzagWrong)

/-- 'laws.FnRiceLengthParameter': WHATEVER THE INPUT: true; the input reads as it did. -/
def fnRiceLengthParameterSpec : ChangeSpec := { name := "fnRiceLengthParameter", fn := fun _ => fun
  | [d] => { results := [.lit (.bool true)], args := [d] }
  | _ => none }
def fnRiceLengthParameterRow : OpenClaim := { program := "ytdhfjaoaekdfbaa", sum := "b96d91f5ab10f112a253651c7ae648029703111dbd88cd3a0fd327b9c5c3f11b", func := "loop.example/losslessaudio/laws.FnRiceLengthParameter", spec := "fnRiceLengthParameter", apart := false }
def FnRiceLengthParameterSaid : Prop := fnRiceLengthParameterRow.holds Try.pinned (OpenSpec.ofChange fnRiceLengthParameterSpec)

/-- ITS FALSE NEIGHBOUR: 'it returns false'. Refute it at one input. -/
def fnRiceLengthParameterWrong : ChangeSpec := { name := "fnRiceLengthParameter", fn := fun _ => fun
  | [d] => { results := [.lit (.bool false)], args := [d] }
  | _ => none }
def FnRiceLengthParameterWrongFalsely : Prop := fnRiceLengthParameterRow.holds Try.pinned (OpenSpec.ofChange fnRiceLengthParameterWrong)

/-- 'laws.FnCrc8': WHATEVER THE INPUT: true; the input reads as it did. -/
def fnCrc8Spec : ChangeSpec := { name := "fnCrc8", fn := fun _ => fun
  | [d] => { results := [.lit (.bool true)], args := [d] }
  | _ => none }
def fnCrc8Row : OpenClaim := { program := "ytdhfjaoaekdfbaa", sum := "b96d91f5ab10f112a253651c7ae648029703111dbd88cd3a0fd327b9c5c3f11b", func := "loop.example/losslessaudio/laws.FnCrc8", spec := "fnCrc8", apart := false }
def FnCrc8Said : Prop := fnCrc8Row.holds Try.pinned (OpenSpec.ofChange fnCrc8Spec)

/-- ITS FALSE NEIGHBOUR: 'it returns false'. Refute it at one input. -/
def fnCrc8Wrong : ChangeSpec := { name := "fnCrc8", fn := fun _ => fun
  | [d] => { results := [.lit (.bool false)], args := [d] }
  | _ => none }
def FnCrc8WrongFalsely : Prop := fnCrc8Row.holds Try.pinned (OpenSpec.ofChange fnCrc8Wrong)

/-- 'laws.FnCrc16': WHATEVER THE INPUT: true; the input reads as it did. -/
def fnCrc16Spec : ChangeSpec := { name := "fnCrc16", fn := fun _ => fun
  | [d] => { results := [.lit (.bool true)], args := [d] }
  | _ => none }
def fnCrc16Row : OpenClaim := { program := "ytdhfjaoaekdfbaa", sum := "b96d91f5ab10f112a253651c7ae648029703111dbd88cd3a0fd327b9c5c3f11b", func := "loop.example/losslessaudio/laws.FnCrc16", spec := "fnCrc16", apart := false }
def FnCrc16Said : Prop := fnCrc16Row.holds Try.pinned (OpenSpec.ofChange fnCrc16Spec)

/-- ITS FALSE NEIGHBOUR: 'it returns false'. Refute it at one input. -/
def fnCrc16Wrong : ChangeSpec := { name := "fnCrc16", fn := fun _ => fun
  | [d] => { results := [.lit (.bool false)], args := [d] }
  | _ => none }
def FnCrc16WrongFalsely : Prop := fnCrc16Row.holds Try.pinned (OpenSpec.ofChange fnCrc16Wrong)

/-- 'laws.FnCrcZeros': WHATEVER THE INPUT: true; the input reads as it did. -/
def fnCrcZerosSpec : ChangeSpec := { name := "fnCrcZeros", fn := fun _ => fun
  | [d] => { results := [.lit (.bool true)], args := [d] }
  | _ => none }
def fnCrcZerosRow : OpenClaim := { program := "ytdhfjaoaekdfbaa", sum := "b96d91f5ab10f112a253651c7ae648029703111dbd88cd3a0fd327b9c5c3f11b", func := "loop.example/losslessaudio/laws.FnCrcZeros", spec := "fnCrcZeros", apart := false }
def FnCrcZerosSaid : Prop := fnCrcZerosRow.holds Try.pinned (OpenSpec.ofChange fnCrcZerosSpec)

/-- ITS FALSE NEIGHBOUR: 'it returns false'. Refute it at one input. -/
def fnCrcZerosWrong : ChangeSpec := { name := "fnCrcZeros", fn := fun _ => fun
  | [d] => { results := [.lit (.bool false)], args := [d] }
  | _ => none }
def FnCrcZerosWrongFalsely : Prop := fnCrcZerosRow.holds Try.pinned (OpenSpec.ofChange fnCrcZerosWrong)

/-- 'laws.FnZigzagOrder': WHATEVER THE INPUT: true; the input reads as it did. -/
def fnZigzagOrderSpec : ChangeSpec := { name := "fnZigzagOrder", fn := fun _ => fun
  | [d] => { results := [.lit (.bool true)], args := [d] }
  | _ => none }
def fnZigzagOrderRow : OpenClaim := { program := "ytdhfjaoaekdfbaa", sum := "b96d91f5ab10f112a253651c7ae648029703111dbd88cd3a0fd327b9c5c3f11b", func := "loop.example/losslessaudio/laws.FnZigzagOrder", spec := "fnZigzagOrder", apart := false }
def FnZigzagOrderSaid : Prop := fnZigzagOrderRow.holds Try.pinned (OpenSpec.ofChange fnZigzagOrderSpec)

/-- ITS FALSE NEIGHBOUR: 'it returns false'. Refute it at one input. -/
def fnZigzagOrderWrong : ChangeSpec := { name := "fnZigzagOrder", fn := fun _ => fun
  | [d] => { results := [.lit (.bool false)], args := [d] }
  | _ => none }
def FnZigzagOrderWrongFalsely : Prop := fnZigzagOrderRow.holds Try.pinned (OpenSpec.ofChange fnZigzagOrderWrong)

/-- 'laws.FnCrcLinear': WHATEVER THE INPUT: true; the input reads as it did. -/
def fnCrcLinearSpec : ChangeSpec := { name := "fnCrcLinear", fn := fun _ => fun
  | [d] => { results := [.lit (.bool true)], args := [d] }
  | _ => none }
def fnCrcLinearRow : OpenClaim := { program := "ytdhfjaoaekdfbaa", sum := "b96d91f5ab10f112a253651c7ae648029703111dbd88cd3a0fd327b9c5c3f11b", func := "loop.example/losslessaudio/laws.FnCrcLinear", spec := "fnCrcLinear", apart := false }
def FnCrcLinearSaid : Prop := fnCrcLinearRow.holds Try.pinned (OpenSpec.ofChange fnCrcLinearSpec)

/-- ITS FALSE NEIGHBOUR: 'it returns false'. Refute it at one input. -/
def fnCrcLinearWrong : ChangeSpec := { name := "fnCrcLinear", fn := fun _ => fun
  | [d] => { results := [.lit (.bool false)], args := [d] }
  | _ => none }
def FnCrcLinearWrongFalsely : Prop := fnCrcLinearRow.holds Try.pinned (OpenSpec.ofChange fnCrcLinearWrong)

/-- 'laws.FnExactAlignBits': WHATEVER THE INPUT: true; the input reads as it did. -/
def fnExactAlignBitsSpec : ChangeSpec := { name := "fnExactAlignBits", fn := fun _ => fun
  | [d] => { results := [.lit (.bool true)], args := [d] }
  | _ => none }
def fnExactAlignBitsRow : OpenClaim := { program := "ytdhfjaoaekdfbaa", sum := "b96d91f5ab10f112a253651c7ae648029703111dbd88cd3a0fd327b9c5c3f11b", func := "loop.example/losslessaudio/laws.FnExactAlignBits", spec := "fnExactAlignBits", apart := false }
def FnExactAlignBitsSaid : Prop := fnExactAlignBitsRow.holds Try.pinned (OpenSpec.ofChange fnExactAlignBitsSpec)

/-- ITS FALSE NEIGHBOUR: 'it returns false'. Refute it at one input. -/
def fnExactAlignBitsWrong : ChangeSpec := { name := "fnExactAlignBits", fn := fun _ => fun
  | [d] => { results := [.lit (.bool false)], args := [d] }
  | _ => none }
def FnExactAlignBitsWrongFalsely : Prop := fnExactAlignBitsRow.holds Try.pinned (OpenSpec.ofChange fnExactAlignBitsWrong)

/-- 'laws.FnExactBitsOf': WHATEVER THE INPUT: true; the input reads as it did. -/
def fnExactBitsOfSpec : ChangeSpec := { name := "fnExactBitsOf", fn := fun _ => fun
  | [d] => { results := [.lit (.bool true)], args := [d] }
  | _ => none }
def fnExactBitsOfRow : OpenClaim := { program := "ytdhfjaoaekdfbaa", sum := "b96d91f5ab10f112a253651c7ae648029703111dbd88cd3a0fd327b9c5c3f11b", func := "loop.example/losslessaudio/laws.FnExactBitsOf", spec := "fnExactBitsOf", apart := false }
def FnExactBitsOfSaid : Prop := fnExactBitsOfRow.holds Try.pinned (OpenSpec.ofChange fnExactBitsOfSpec)

/-- ITS FALSE NEIGHBOUR: 'it returns false'. Refute it at one input. -/
def fnExactBitsOfWrong : ChangeSpec := { name := "fnExactBitsOf", fn := fun _ => fun
  | [d] => { results := [.lit (.bool false)], args := [d] }
  | _ => none }
def FnExactBitsOfWrongFalsely : Prop := fnExactBitsOfRow.holds Try.pinned (OpenSpec.ofChange fnExactBitsOfWrong)

/-- 'laws.FnExactZigzag': WHATEVER THE INPUT: true; the input reads as it did. -/
def fnExactZigzagSpec : ChangeSpec := { name := "fnExactZigzag", fn := fun _ => fun
  | [d] => { results := [.lit (.bool true)], args := [d] }
  | _ => none }
def fnExactZigzagRow : OpenClaim := { program := "ytdhfjaoaekdfbaa", sum := "b96d91f5ab10f112a253651c7ae648029703111dbd88cd3a0fd327b9c5c3f11b", func := "loop.example/losslessaudio/laws.FnExactZigzag", spec := "fnExactZigzag", apart := false }
def FnExactZigzagSaid : Prop := fnExactZigzagRow.holds Try.pinned (OpenSpec.ofChange fnExactZigzagSpec)

/-- ITS FALSE NEIGHBOUR: 'it returns false'. Refute it at one input. -/
def fnExactZigzagWrong : ChangeSpec := { name := "fnExactZigzag", fn := fun _ => fun
  | [d] => { results := [.lit (.bool false)], args := [d] }
  | _ => none }
def FnExactZigzagWrongFalsely : Prop := fnExactZigzagRow.holds Try.pinned (OpenSpec.ofChange fnExactZigzagWrong)

/-- 'laws.FnExactUnzigzag': WHATEVER THE INPUT: true; the input reads as it did. -/
def fnExactUnzigzagSpec : ChangeSpec := { name := "fnExactUnzigzag", fn := fun _ => fun
  | [d] => { results := [.lit (.bool true)], args := [d] }
  | _ => none }
def fnExactUnzigzagRow : OpenClaim := { program := "ytdhfjaoaekdfbaa", sum := "b96d91f5ab10f112a253651c7ae648029703111dbd88cd3a0fd327b9c5c3f11b", func := "loop.example/losslessaudio/laws.FnExactUnzigzag", spec := "fnExactUnzigzag", apart := false }
def FnExactUnzigzagSaid : Prop := fnExactUnzigzagRow.holds Try.pinned (OpenSpec.ofChange fnExactUnzigzagSpec)

/-- ITS FALSE NEIGHBOUR: 'it returns false'. Refute it at one input. -/
def fnExactUnzigzagWrong : ChangeSpec := { name := "fnExactUnzigzag", fn := fun _ => fun
  | [d] => { results := [.lit (.bool false)], args := [d] }
  | _ => none }
def FnExactUnzigzagWrongFalsely : Prop := fnExactUnzigzagRow.holds Try.pinned (OpenSpec.ofChange fnExactUnzigzagWrong)

/-- 'laws.FnExactRiceLength': WHATEVER THE INPUT: true; the input reads as it did. -/
def fnExactRiceLengthSpec : ChangeSpec := { name := "fnExactRiceLength", fn := fun _ => fun
  | [d1, d2] => { results := [.lit (.bool true)], args := [d1, d2] }
  | _ => none }
def fnExactRiceLengthRow : OpenClaim := { program := "ytdhfjaoaekdfbaa", sum := "b96d91f5ab10f112a253651c7ae648029703111dbd88cd3a0fd327b9c5c3f11b", func := "loop.example/losslessaudio/laws.FnExactRiceLength", spec := "fnExactRiceLength", apart := false }
def FnExactRiceLengthSaid : Prop := fnExactRiceLengthRow.holds Try.pinned (OpenSpec.ofChange fnExactRiceLengthSpec)

/-- ITS FALSE NEIGHBOUR: 'it returns false'. Refute it at one input. -/
def fnExactRiceLengthWrong : ChangeSpec := { name := "fnExactRiceLength", fn := fun _ => fun
  | [d1, d2] => { results := [.lit (.bool false)], args := [d1, d2] }
  | _ => none }
def FnExactRiceLengthWrongFalsely : Prop := fnExactRiceLengthRow.holds Try.pinned (OpenSpec.ofChange fnExactRiceLengthWrong)

/-- 'laws.FnExactCrc8': WHATEVER THE INPUT: true; the input reads as it did. -/
def fnExactCrc8Spec : ChangeSpec := { name := "fnExactCrc8", fn := fun _ => fun
  | [d] => { results := [.lit (.bool true)], args := [d] }
  | _ => none }
def fnExactCrc8Row : OpenClaim := { program := "ytdhfjaoaekdfbaa", sum := "b96d91f5ab10f112a253651c7ae648029703111dbd88cd3a0fd327b9c5c3f11b", func := "loop.example/losslessaudio/laws.FnExactCrc8", spec := "fnExactCrc8", apart := false }
def FnExactCrc8Said : Prop := fnExactCrc8Row.holds Try.pinned (OpenSpec.ofChange fnExactCrc8Spec)

/-- ITS FALSE NEIGHBOUR: 'it returns false'. Refute it at one input. -/
def fnExactCrc8Wrong : ChangeSpec := { name := "fnExactCrc8", fn := fun _ => fun
  | [d] => { results := [.lit (.bool false)], args := [d] }
  | _ => none }
def FnExactCrc8WrongFalsely : Prop := fnExactCrc8Row.holds Try.pinned (OpenSpec.ofChange fnExactCrc8Wrong)

/-- 'laws.FnExactCrc16': WHATEVER THE INPUT: true; the input reads as it did. -/
def fnExactCrc16Spec : ChangeSpec := { name := "fnExactCrc16", fn := fun _ => fun
  | [d] => { results := [.lit (.bool true)], args := [d] }
  | _ => none }
def fnExactCrc16Row : OpenClaim := { program := "ytdhfjaoaekdfbaa", sum := "b96d91f5ab10f112a253651c7ae648029703111dbd88cd3a0fd327b9c5c3f11b", func := "loop.example/losslessaudio/laws.FnExactCrc16", spec := "fnExactCrc16", apart := false }
def FnExactCrc16Said : Prop := fnExactCrc16Row.holds Try.pinned (OpenSpec.ofChange fnExactCrc16Spec)

/-- ITS FALSE NEIGHBOUR: 'it returns false'. Refute it at one input. -/
def fnExactCrc16Wrong : ChangeSpec := { name := "fnExactCrc16", fn := fun _ => fun
  | [d] => { results := [.lit (.bool false)], args := [d] }
  | _ => none }
def FnExactCrc16WrongFalsely : Prop := fnExactCrc16Row.holds Try.pinned (OpenSpec.ofChange fnExactCrc16Wrong)

/- THE SECOND FORM. 'bulk': how many values and letters a reading holds, each counted each time it is reached (what is shared counts as often as it is met; a slice's spare places count too). A statement '..UptoSaid' is the law's where the arguments, and the package variables that the reading takes, are together of bulk at most 1048576: NARROWER than '..Said'. Prove '..Said' where nothing that the law and all that it calls make is longer than what came in: it says more and counts as full. Else prove '..UptoSaid'. A law counts once. -/
mutual
def uptoBulk {H : Type} : DataW H → Nat
  | .lit (.string bytes) => bytes.length + 1
  | .lit _ => 1
  | .nil => 1
  | .ptr d => uptoBulk d + 1
  | .slice elems spare => uptoBulkAll elems + uptoBulkAll spare + 1
  | .agg parts => uptoBulkAll parts + 1
  | .iface _ d => uptoBulk d + 1
  | .map entries => uptoBulkEntries entries + 1
  | .held _ => 1
def uptoBulkAll {H : Type} : List (DataW H) → Nat
  | [] => 0
  | d :: r => uptoBulk d + uptoBulkAll r
def uptoBulkEntries {H : Type} : List (Lit × DataW H) → Nat
  | [] => 0
  | x :: r => uptoBulkEntry x + uptoBulkEntries r
def uptoBulkEntry {H : Type} : Lit × DataW H → Nat
  | (.string bytes, d) => bytes.length + uptoBulk d + 1
  | (_, d) => uptoBulk d + 1
 end
def uptoSmall : (H : Type) → List (DataW H) → Bool := fun _ ds => decide (uptoBulkAll ds ≤ 1048576)
def OpenSpec.upto (s : _root_.Go.ChangeSpec) : _root_.Go.OpenSpec := { _root_.Go.OpenSpec.ofChange s with cond := some uptoSmall }

/-- 'laws.FnAlignBits', WHERE WHAT IT READS IS OF BULK AT MOST 1048576: true; the input reads as it did. -/
def fnAlignBitsUptoRow : OpenClaim := { program := "ytdhfjaoaekdfbaa", sum := "b96d91f5ab10f112a253651c7ae648029703111dbd88cd3a0fd327b9c5c3f11b", func := "loop.example/losslessaudio/laws.FnAlignBits", spec := "fnAlignBits", apart := false, narrowed := true }
def FnAlignBitsUptoSaid : Prop := fnAlignBitsUptoRow.holds Try.pinned (OpenSpec.upto fnAlignBitsSpec)

/-- 'laws.FnZigzag', WHERE WHAT IT READS IS OF BULK AT MOST 1048576: true; the input reads as it did. -/
def fnZigzagUptoRow : OpenClaim := { program := "ytdhfjaoaekdfbaa", sum := "b96d91f5ab10f112a253651c7ae648029703111dbd88cd3a0fd327b9c5c3f11b", func := "loop.example/losslessaudio/laws.FnZigzag", spec := "fnZigzag", apart := false, narrowed := true }
def FnZigzagUptoSaid : Prop := fnZigzagUptoRow.holds Try.pinned (OpenSpec.upto fnZigzagSpec)

/-- 'laws.FnUnzigzag', WHERE WHAT IT READS IS OF BULK AT MOST 1048576: true; the input reads as it did. -/
def fnUnzigzagUptoRow : OpenClaim := { program := "ytdhfjaoaekdfbaa", sum := "b96d91f5ab10f112a253651c7ae648029703111dbd88cd3a0fd327b9c5c3f11b", func := "loop.example/losslessaudio/laws.FnUnzigzag", spec := "fnUnzigzag", apart := false, narrowed := true }
def FnUnzigzagUptoSaid : Prop := fnUnzigzagUptoRow.holds Try.pinned (OpenSpec.upto fnUnzigzagSpec)

/-- 'laws.FnRiceLengthParameter', WHERE WHAT IT READS IS OF BULK AT MOST 1048576: true; the input reads as it did. -/
def fnRiceLengthParameterUptoRow : OpenClaim := { program := "ytdhfjaoaekdfbaa", sum := "b96d91f5ab10f112a253651c7ae648029703111dbd88cd3a0fd327b9c5c3f11b", func := "loop.example/losslessaudio/laws.FnRiceLengthParameter", spec := "fnRiceLengthParameter", apart := false, narrowed := true }
def FnRiceLengthParameterUptoSaid : Prop := fnRiceLengthParameterUptoRow.holds Try.pinned (OpenSpec.upto fnRiceLengthParameterSpec)

/-- 'laws.FnCrc8', WHERE WHAT IT READS IS OF BULK AT MOST 1048576: true; the input reads as it did. -/
def fnCrc8UptoRow : OpenClaim := { program := "ytdhfjaoaekdfbaa", sum := "b96d91f5ab10f112a253651c7ae648029703111dbd88cd3a0fd327b9c5c3f11b", func := "loop.example/losslessaudio/laws.FnCrc8", spec := "fnCrc8", apart := false, narrowed := true }
def FnCrc8UptoSaid : Prop := fnCrc8UptoRow.holds Try.pinned (OpenSpec.upto fnCrc8Spec)

/-- 'laws.FnCrc16', WHERE WHAT IT READS IS OF BULK AT MOST 1048576: true; the input reads as it did. -/
def fnCrc16UptoRow : OpenClaim := { program := "ytdhfjaoaekdfbaa", sum := "b96d91f5ab10f112a253651c7ae648029703111dbd88cd3a0fd327b9c5c3f11b", func := "loop.example/losslessaudio/laws.FnCrc16", spec := "fnCrc16", apart := false, narrowed := true }
def FnCrc16UptoSaid : Prop := fnCrc16UptoRow.holds Try.pinned (OpenSpec.upto fnCrc16Spec)

/-- 'laws.FnCrcZeros', WHERE WHAT IT READS IS OF BULK AT MOST 1048576: true; the input reads as it did. -/
def fnCrcZerosUptoRow : OpenClaim := { program := "ytdhfjaoaekdfbaa", sum := "b96d91f5ab10f112a253651c7ae648029703111dbd88cd3a0fd327b9c5c3f11b", func := "loop.example/losslessaudio/laws.FnCrcZeros", spec := "fnCrcZeros", apart := false, narrowed := true }
def FnCrcZerosUptoSaid : Prop := fnCrcZerosUptoRow.holds Try.pinned (OpenSpec.upto fnCrcZerosSpec)

/-- 'laws.FnZigzagOrder', WHERE WHAT IT READS IS OF BULK AT MOST 1048576: true; the input reads as it did. -/
def fnZigzagOrderUptoRow : OpenClaim := { program := "ytdhfjaoaekdfbaa", sum := "b96d91f5ab10f112a253651c7ae648029703111dbd88cd3a0fd327b9c5c3f11b", func := "loop.example/losslessaudio/laws.FnZigzagOrder", spec := "fnZigzagOrder", apart := false, narrowed := true }
def FnZigzagOrderUptoSaid : Prop := fnZigzagOrderUptoRow.holds Try.pinned (OpenSpec.upto fnZigzagOrderSpec)

/-- 'laws.FnCrcLinear', WHERE WHAT IT READS IS OF BULK AT MOST 1048576: true; the input reads as it did. -/
def fnCrcLinearUptoRow : OpenClaim := { program := "ytdhfjaoaekdfbaa", sum := "b96d91f5ab10f112a253651c7ae648029703111dbd88cd3a0fd327b9c5c3f11b", func := "loop.example/losslessaudio/laws.FnCrcLinear", spec := "fnCrcLinear", apart := false, narrowed := true }
def FnCrcLinearUptoSaid : Prop := fnCrcLinearUptoRow.holds Try.pinned (OpenSpec.upto fnCrcLinearSpec)

/-- 'laws.FnExactAlignBits', WHERE WHAT IT READS IS OF BULK AT MOST 1048576: true; the input reads as it did. -/
def fnExactAlignBitsUptoRow : OpenClaim := { program := "ytdhfjaoaekdfbaa", sum := "b96d91f5ab10f112a253651c7ae648029703111dbd88cd3a0fd327b9c5c3f11b", func := "loop.example/losslessaudio/laws.FnExactAlignBits", spec := "fnExactAlignBits", apart := false, narrowed := true }
def FnExactAlignBitsUptoSaid : Prop := fnExactAlignBitsUptoRow.holds Try.pinned (OpenSpec.upto fnExactAlignBitsSpec)

/-- 'laws.FnExactBitsOf', WHERE WHAT IT READS IS OF BULK AT MOST 1048576: true; the input reads as it did. -/
def fnExactBitsOfUptoRow : OpenClaim := { program := "ytdhfjaoaekdfbaa", sum := "b96d91f5ab10f112a253651c7ae648029703111dbd88cd3a0fd327b9c5c3f11b", func := "loop.example/losslessaudio/laws.FnExactBitsOf", spec := "fnExactBitsOf", apart := false, narrowed := true }
def FnExactBitsOfUptoSaid : Prop := fnExactBitsOfUptoRow.holds Try.pinned (OpenSpec.upto fnExactBitsOfSpec)

/-- 'laws.FnExactZigzag', WHERE WHAT IT READS IS OF BULK AT MOST 1048576: true; the input reads as it did. -/
def fnExactZigzagUptoRow : OpenClaim := { program := "ytdhfjaoaekdfbaa", sum := "b96d91f5ab10f112a253651c7ae648029703111dbd88cd3a0fd327b9c5c3f11b", func := "loop.example/losslessaudio/laws.FnExactZigzag", spec := "fnExactZigzag", apart := false, narrowed := true }
def FnExactZigzagUptoSaid : Prop := fnExactZigzagUptoRow.holds Try.pinned (OpenSpec.upto fnExactZigzagSpec)

/-- 'laws.FnExactUnzigzag', WHERE WHAT IT READS IS OF BULK AT MOST 1048576: true; the input reads as it did. -/
def fnExactUnzigzagUptoRow : OpenClaim := { program := "ytdhfjaoaekdfbaa", sum := "b96d91f5ab10f112a253651c7ae648029703111dbd88cd3a0fd327b9c5c3f11b", func := "loop.example/losslessaudio/laws.FnExactUnzigzag", spec := "fnExactUnzigzag", apart := false, narrowed := true }
def FnExactUnzigzagUptoSaid : Prop := fnExactUnzigzagUptoRow.holds Try.pinned (OpenSpec.upto fnExactUnzigzagSpec)

/-- 'laws.FnExactRiceLength', WHERE WHAT IT READS IS OF BULK AT MOST 1048576: true; the input reads as it did. -/
def fnExactRiceLengthUptoRow : OpenClaim := { program := "ytdhfjaoaekdfbaa", sum := "b96d91f5ab10f112a253651c7ae648029703111dbd88cd3a0fd327b9c5c3f11b", func := "loop.example/losslessaudio/laws.FnExactRiceLength", spec := "fnExactRiceLength", apart := false, narrowed := true }
def FnExactRiceLengthUptoSaid : Prop := fnExactRiceLengthUptoRow.holds Try.pinned (OpenSpec.upto fnExactRiceLengthSpec)

/-- 'laws.FnExactCrc8', WHERE WHAT IT READS IS OF BULK AT MOST 1048576: true; the input reads as it did. -/
def fnExactCrc8UptoRow : OpenClaim := { program := "ytdhfjaoaekdfbaa", sum := "b96d91f5ab10f112a253651c7ae648029703111dbd88cd3a0fd327b9c5c3f11b", func := "loop.example/losslessaudio/laws.FnExactCrc8", spec := "fnExactCrc8", apart := false, narrowed := true }
def FnExactCrc8UptoSaid : Prop := fnExactCrc8UptoRow.holds Try.pinned (OpenSpec.upto fnExactCrc8Spec)

/-- 'laws.FnExactCrc16', WHERE WHAT IT READS IS OF BULK AT MOST 1048576: true; the input reads as it did. -/
def fnExactCrc16UptoRow : OpenClaim := { program := "ytdhfjaoaekdfbaa", sum := "b96d91f5ab10f112a253651c7ae648029703111dbd88cd3a0fd327b9c5c3f11b", func := "loop.example/losslessaudio/laws.FnExactCrc16", spec := "fnExactCrc16", apart := false, narrowed := true }
def FnExactCrc16UptoSaid : Prop := fnExactCrc16UptoRow.holds Try.pinned (OpenSpec.upto fnExactCrc16Spec)

end Rows
end Go.Proofs.Ytdhfjaoaekdfbaa
