/-
  No cell of these rows narrows 'for every input' (looked for: loops, veiled, ifaces, maps, wideKeys, modest, calm, conditions, laid).
  DERIVED. THE GIVEN ROWS OF THIS SEAT. 7 by the template 'for every input the law returns true; each argument reads behind the call as it read before'; 0 by the template 'total and deterministic' (their statements: YtikblehndmikoaaTotals.lean).
  GIVEN WITH THE SEED: the statements are not yours to turn. If you find one false, say at which input.
  Laid BY PROGRAM, IN A SANDBOX (cutbox-rows.mjs): the forced cells as the released guide's own fill.sh prints them over the translation 0b80ce793cd60c02… (all of the seat's roots in one cut). By AI agents, Wed Nov 11 2026. No macro, syntax, notation, axiom, sorry.
-/
import Derived.Test.YtikblehndmikoaaChecked
import GoSem.Claim
import GoSem.ClaimJoined
import GoSem.ClaimMapViews
import Derived.JoinedTies
import Derived.KernelRfl
namespace Go.Proofs.Ytikblehndmikoaa
/- THE CELL 'sum', in the pinned program and in every row, IS THE sha256 OF THE DUMP (.gsa) THAT YtikblehndmikoaaProg.lean LOADS. Nothing in Lean hashes anything: it is a label: what it is worth is what the hold of that sum in a sandbox is worth. -/
noncomputable def Try.pinned : Pinned := { name := "ytikblehndmikoaa", sum := "0b80ce793cd60c02da7c5cf943a84472c88c31b96fb6dda3214c1016d00655ef", checked := Try.checked }
namespace Rows
def none {H : Type} : Left H := { results := [], args := [] }

/-- 'laws.FnPartitionSizes': WHATEVER THE INPUT: true; the input reads as it did. -/
def fnPartitionSizesSpec : ChangeSpec := { name := "fnPartitionSizes", fn := fun _ => fun
  | [d] => { results := [.lit (.bool true)], args := [d] }
  | _ => none }
def fnPartitionSizesRow : OpenClaim := { program := "ytikblehndmikoaa", sum := "0b80ce793cd60c02da7c5cf943a84472c88c31b96fb6dda3214c1016d00655ef", func := "loop.example/losslessaudio/laws.FnPartitionSizes", spec := "fnPartitionSizes", apart := false }
def FnPartitionSizesSaid : Prop := fnPartitionSizesRow.holds Try.pinned (OpenSpec.ofChange fnPartitionSizesSpec)

/-- ITS FALSE NEIGHBOUR: 'it returns false'. Refute it at one input. -/
def fnPartitionSizesWrong : ChangeSpec := { name := "fnPartitionSizes", fn := fun _ => fun
  | [d] => { results := [.lit (.bool false)], args := [d] }
  | _ => none }
def FnPartitionSizesWrongFalsely : Prop := fnPartitionSizesRow.holds Try.pinned (OpenSpec.ofChange fnPartitionSizesWrong)

/-- 'laws.FnShiftDown': WHATEVER THE INPUT: true; the input reads as it did. -/
def fnShiftDownSpec : ChangeSpec := { name := "fnShiftDown", fn := fun _ => fun
  | [d] => { results := [.lit (.bool true)], args := [d] }
  | _ => none }
def fnShiftDownRow : OpenClaim := { program := "ytikblehndmikoaa", sum := "0b80ce793cd60c02da7c5cf943a84472c88c31b96fb6dda3214c1016d00655ef", func := "loop.example/losslessaudio/laws.FnShiftDown", spec := "fnShiftDown", unfollowed := true, recurses := true, apart := false }
def FnShiftDownSaid : Prop := fnShiftDownRow.holds Try.pinned (OpenSpec.ofChange fnShiftDownSpec)

/-- ITS FALSE NEIGHBOUR: 'it returns false'. Refute it at one input. -/
def fnShiftDownWrong : ChangeSpec := { name := "fnShiftDown", fn := fun _ => fun
  | [d] => { results := [.lit (.bool false)], args := [d] }
  | _ => none }
def FnShiftDownWrongFalsely : Prop := fnShiftDownRow.holds Try.pinned (OpenSpec.ofChange fnShiftDownWrong)

/-- 'laws.FnPartitionSizesFiner': WHATEVER THE INPUT: true; the input reads as it did. -/
def fnPartitionSizesFinerSpec : ChangeSpec := { name := "fnPartitionSizesFiner", fn := fun _ => fun
  | [d] => { results := [.lit (.bool true)], args := [d] }
  | _ => none }
def fnPartitionSizesFinerRow : OpenClaim := { program := "ytikblehndmikoaa", sum := "0b80ce793cd60c02da7c5cf943a84472c88c31b96fb6dda3214c1016d00655ef", func := "loop.example/losslessaudio/laws.FnPartitionSizesFiner", spec := "fnPartitionSizesFiner", apart := false }
def FnPartitionSizesFinerSaid : Prop := fnPartitionSizesFinerRow.holds Try.pinned (OpenSpec.ofChange fnPartitionSizesFinerSpec)

/-- ITS FALSE NEIGHBOUR: 'it returns false'. Refute it at one input. -/
def fnPartitionSizesFinerWrong : ChangeSpec := { name := "fnPartitionSizesFiner", fn := fun _ => fun
  | [d] => { results := [.lit (.bool false)], args := [d] }
  | _ => none }
def FnPartitionSizesFinerWrongFalsely : Prop := fnPartitionSizesFinerRow.holds Try.pinned (OpenSpec.ofChange fnPartitionSizesFinerWrong)

/-- 'laws.FnShiftUpSteps': WHATEVER THE INPUT: true; the input reads as it did. -/
def fnShiftUpStepsSpec : ChangeSpec := { name := "fnShiftUpSteps", fn := fun _ => fun
  | [d] => { results := [.lit (.bool true)], args := [d] }
  | _ => none }
def fnShiftUpStepsRow : OpenClaim := { program := "ytikblehndmikoaa", sum := "0b80ce793cd60c02da7c5cf943a84472c88c31b96fb6dda3214c1016d00655ef", func := "loop.example/losslessaudio/laws.FnShiftUpSteps", spec := "fnShiftUpSteps", unfollowed := true, recurses := true, apart := false }
def FnShiftUpStepsSaid : Prop := fnShiftUpStepsRow.holds Try.pinned (OpenSpec.ofChange fnShiftUpStepsSpec)

/-- ITS FALSE NEIGHBOUR: 'it returns false'. Refute it at one input. -/
def fnShiftUpStepsWrong : ChangeSpec := { name := "fnShiftUpSteps", fn := fun _ => fun
  | [d] => { results := [.lit (.bool false)], args := [d] }
  | _ => none }
def FnShiftUpStepsWrongFalsely : Prop := fnShiftUpStepsRow.holds Try.pinned (OpenSpec.ofChange fnShiftUpStepsWrong)

/-- 'laws.FnExactShiftDown': WHATEVER THE INPUT: true; the input reads as it did. -/
def fnExactShiftDownSpec : ChangeSpec := { name := "fnExactShiftDown", fn := fun _ => fun
  | [d1, d2] => { results := [.lit (.bool true)], args := [d1, d2] }
  | _ => none }
def fnExactShiftDownRow : OpenClaim := { program := "ytikblehndmikoaa", sum := "0b80ce793cd60c02da7c5cf943a84472c88c31b96fb6dda3214c1016d00655ef", func := "loop.example/losslessaudio/laws.FnExactShiftDown", spec := "fnExactShiftDown", unfollowed := true, recurses := true, apart := false }
def FnExactShiftDownSaid : Prop := fnExactShiftDownRow.holds Try.pinned (OpenSpec.ofChange fnExactShiftDownSpec)

/-- ITS FALSE NEIGHBOUR: 'it returns false'. Refute it at one input. -/
def fnExactShiftDownWrong : ChangeSpec := { name := "fnExactShiftDown", fn := fun _ => fun
  | [d1, d2] => { results := [.lit (.bool false)], args := [d1, d2] }
  | _ => none }
def FnExactShiftDownWrongFalsely : Prop := fnExactShiftDownRow.holds Try.pinned (OpenSpec.ofChange fnExactShiftDownWrong)

/-- 'laws.FnExactShiftUp': WHATEVER THE INPUT: true; the input reads as it did. -/
def fnExactShiftUpSpec : ChangeSpec := { name := "fnExactShiftUp", fn := fun _ => fun
  | [d1, d2] => { results := [.lit (.bool true)], args := [d1, d2] }
  | _ => none }
def fnExactShiftUpRow : OpenClaim := { program := "ytikblehndmikoaa", sum := "0b80ce793cd60c02da7c5cf943a84472c88c31b96fb6dda3214c1016d00655ef", func := "loop.example/losslessaudio/laws.FnExactShiftUp", spec := "fnExactShiftUp", unfollowed := true, recurses := true, apart := false }
def FnExactShiftUpSaid : Prop := fnExactShiftUpRow.holds Try.pinned (OpenSpec.ofChange fnExactShiftUpSpec)

/-- ITS FALSE NEIGHBOUR: 'it returns false'. Refute it at one input. -/
def fnExactShiftUpWrong : ChangeSpec := { name := "fnExactShiftUp", fn := fun _ => fun
  | [d1, d2] => { results := [.lit (.bool false)], args := [d1, d2] }
  | _ => none }
def FnExactShiftUpWrongFalsely : Prop := fnExactShiftUpRow.holds Try.pinned (OpenSpec.ofChange fnExactShiftUpWrong)

/-- 'laws.FnExactPartitionSizes': WHATEVER THE INPUT: true; the input reads as it did. -/
def fnExactPartitionSizesSpec : ChangeSpec := { name := "fnExactPartitionSizes", fn := fun _ => fun
  | [d1, d2, d3] => { results := [.lit (.bool true)], args := [d1, d2, d3] }
  | _ => none }
def fnExactPartitionSizesRow : OpenClaim := { program := "ytikblehndmikoaa", sum := "0b80ce793cd60c02da7c5cf943a84472c88c31b96fb6dda3214c1016d00655ef", func := "loop.example/losslessaudio/laws.FnExactPartitionSizes", spec := "fnExactPartitionSizes", apart := false }
def FnExactPartitionSizesSaid : Prop := fnExactPartitionSizesRow.holds Try.pinned (OpenSpec.ofChange fnExactPartitionSizesSpec)

/-- ITS FALSE NEIGHBOUR: 'it returns false'. Refute it at one input. -/
def fnExactPartitionSizesWrong : ChangeSpec := { name := "fnExactPartitionSizes", fn := fun _ => fun
  | [d1, d2, d3] => { results := [.lit (.bool false)], args := [d1, d2, d3] }
  | _ => none }
def FnExactPartitionSizesWrongFalsely : Prop := fnExactPartitionSizesRow.holds Try.pinned (OpenSpec.ofChange fnExactPartitionSizesWrong)

/- THE SECOND FORM. 'bulk': how many values and letters a reading holds, each counted each time it is reached (what is shared counts as often as it is met; a slice's spare places count too). A statement '..UptoSaid' is the law's where the arguments, and the package variables that the reading takes, are together of bulk at most 1048576: NARROWER than '..Said'. Prove '..Said' where nothing that the law and all that it calls make is longer than what came in: it says more and counts as full. Else prove '..UptoSaid'. A law counts once. -/
mutual
def uptoBulk {H : Type} : DataW H → Nat
  | .lit (.string bytes) => bytes.length + 1
  | .lit _ => 1
  | .nil => 1
  | .ptr d => uptoBulk d + 1
  | .slice elems spare => uptoBulkAll elems + uptoBulkAll spare + 1
  | .agg parts => uptoBulkAll parts + 1
  | .iface _ d => uptoBulk d + 1
  | .map entries => uptoBulkEntries entries + 1
  | .held _ => 1
def uptoBulkAll {H : Type} : List (DataW H) → Nat
  | [] => 0
  | d :: r => uptoBulk d + uptoBulkAll r
def uptoBulkEntries {H : Type} : List (Lit × DataW H) → Nat
  | [] => 0
  | x :: r => uptoBulkEntry x + uptoBulkEntries r
def uptoBulkEntry {H : Type} : Lit × DataW H → Nat
  | (.string bytes, d) => bytes.length + uptoBulk d + 1
  | (_, d) => uptoBulk d + 1
 end
def uptoSmall : (H : Type) → List (DataW H) → Bool := fun _ ds => decide (uptoBulkAll ds ≤ 1048576)
def OpenSpec.upto (s : _root_.Go.ChangeSpec) : _root_.Go.OpenSpec := { _root_.Go.OpenSpec.ofChange s with cond := some uptoSmall }

/-- 'laws.FnPartitionSizes', WHERE WHAT IT READS IS OF BULK AT MOST 1048576: true; the input reads as it did. -/
def fnPartitionSizesUptoRow : OpenClaim := { program := "ytikblehndmikoaa", sum := "0b80ce793cd60c02da7c5cf943a84472c88c31b96fb6dda3214c1016d00655ef", func := "loop.example/losslessaudio/laws.FnPartitionSizes", spec := "fnPartitionSizes", apart := false, narrowed := true }
def FnPartitionSizesUptoSaid : Prop := fnPartitionSizesUptoRow.holds Try.pinned (OpenSpec.upto fnPartitionSizesSpec)

/-- 'laws.FnShiftDown', WHERE WHAT IT READS IS OF BULK AT MOST 1048576: true; the input reads as it did. -/
def fnShiftDownUptoRow : OpenClaim := { program := "ytikblehndmikoaa", sum := "0b80ce793cd60c02da7c5cf943a84472c88c31b96fb6dda3214c1016d00655ef", func := "loop.example/losslessaudio/laws.FnShiftDown", spec := "fnShiftDown", unfollowed := true, recurses := true, apart := false, narrowed := true }
def FnShiftDownUptoSaid : Prop := fnShiftDownUptoRow.holds Try.pinned (OpenSpec.upto fnShiftDownSpec)

/-- 'laws.FnPartitionSizesFiner', WHERE WHAT IT READS IS OF BULK AT MOST 1048576: true; the input reads as it did. -/
def fnPartitionSizesFinerUptoRow : OpenClaim := { program := "ytikblehndmikoaa", sum := "0b80ce793cd60c02da7c5cf943a84472c88c31b96fb6dda3214c1016d00655ef", func := "loop.example/losslessaudio/laws.FnPartitionSizesFiner", spec := "fnPartitionSizesFiner", apart := false, narrowed := true }
def FnPartitionSizesFinerUptoSaid : Prop := fnPartitionSizesFinerUptoRow.holds Try.pinned (OpenSpec.upto fnPartitionSizesFinerSpec)

/-- 'laws.FnShiftUpSteps', WHERE WHAT IT READS IS OF BULK AT MOST 1048576: true; the input reads as it did. -/
def fnShiftUpStepsUptoRow : OpenClaim := { program := "ytikblehndmikoaa", sum := "0b80ce793cd60c02da7c5cf943a84472c88c31b96fb6dda3214c1016d00655ef", func := "loop.example/losslessaudio/laws.FnShiftUpSteps", spec := "fnShiftUpSteps", unfollowed := true, recurses := true, apart := false, narrowed := true }
def FnShiftUpStepsUptoSaid : Prop := fnShiftUpStepsUptoRow.holds Try.pinned (OpenSpec.upto fnShiftUpStepsSpec)

/-- 'laws.FnExactShiftDown', WHERE WHAT IT READS IS OF BULK AT MOST 1048576: true; the input reads as it did. -/
def fnExactShiftDownUptoRow : OpenClaim := { program := "ytikblehndmikoaa", sum := "0b80ce793cd60c02da7c5cf943a84472c88c31b96fb6dda3214c1016d00655ef", func := "loop.example/losslessaudio/laws.FnExactShiftDown", spec := "fnExactShiftDown", unfollowed := true, recurses := true, apart := false, narrowed := true }
def FnExactShiftDownUptoSaid : Prop := fnExactShiftDownUptoRow.holds Try.pinned (OpenSpec.upto fnExactShiftDownSpec)

/-- 'laws.FnExactShiftUp', WHERE WHAT IT READS IS OF BULK AT MOST 1048576: true; the input reads as it did. -/
def fnExactShiftUpUptoRow : OpenClaim := { program := "ytikblehndmikoaa", sum := "0b80ce793cd60c02da7c5cf943a84472c88c31b96fb6dda3214c1016d00655ef", func := "loop.example/losslessaudio/laws.FnExactShiftUp", spec := "fnExactShiftUp", unfollowed := true, recurses := true, apart := false, narrowed := true }
def FnExactShiftUpUptoSaid : Prop := fnExactShiftUpUptoRow.holds Try.pinned (OpenSpec.upto fnExactShiftUpSpec)

/-- 'laws.FnExactPartitionSizes', WHERE WHAT IT READS IS OF BULK AT MOST 1048576: true; the input reads as it did. -/
def fnExactPartitionSizesUptoRow : OpenClaim := { program := "ytikblehndmikoaa", sum := "0b80ce793cd60c02da7c5cf943a84472c88c31b96fb6dda3214c1016d00655ef", func := "loop.example/losslessaudio/laws.FnExactPartitionSizes", spec := "fnExactPartitionSizes", apart := false, narrowed := true }
def FnExactPartitionSizesUptoSaid : Prop := fnExactPartitionSizesUptoRow.holds Try.pinned (OpenSpec.upto fnExactPartitionSizesSpec)

end Rows
end Go.Proofs.Ytikblehndmikoaa
