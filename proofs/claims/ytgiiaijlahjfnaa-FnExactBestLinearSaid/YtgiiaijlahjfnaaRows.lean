/-
  No cell of these rows narrows 'for every input' (looked for: loops, veiled, ifaces, maps, wideKeys, modest, calm, conditions, laid).
  DERIVED. THE GIVEN ROWS OF THIS SEAT. 9 by the template 'for every input the law returns true; each argument reads behind the call as it read before'; 0 by the template 'total and deterministic' (their statements: YtgiiaijlahjfnaaTotals.lean).
  GIVEN WITH THE SEED: the statements are not yours to turn. If you find one false, say at which input.
  Laid BY PROGRAM, IN A SANDBOX (cutbox-rows.mjs): the forced cells as the released guide's own fill.sh prints them over the translation 39915b1220aad7df… (all of the seat's roots in one cut). By AI agents, Wed Nov 11 2026. No macro, syntax, notation, axiom, sorry.
-/
import Derived.Test.YtgiiaijlahjfnaaChecked
import GoSem.Claim
import GoSem.ClaimJoined
import GoSem.ClaimMapViews
import Derived.JoinedTies
import Derived.KernelRfl
namespace Go.Proofs.Ytgiiaijlahjfnaa
/- THE CELL 'sum', in the pinned program and in every row, IS THE sha256 OF THE DUMP (.gsa) THAT YtgiiaijlahjfnaaProg.lean LOADS. Nothing in Lean hashes anything: it is a label: what it is worth is what the hold of that sum in a sandbox is worth. -/
noncomputable def Try.pinned : Pinned := { name := "ytgiiaijlahjfnaa", sum := "39915b1220aad7dfd635c08ef0872fb2be1929a824ada307176aeb06838d53df", checked := Try.checked }
namespace Rows
def none {H : Type} : Left H := { results := [], args := [] }

/-- 'laws.FnLinearResidual': WHATEVER THE INPUT: true; the input reads as it did. -/
def fnLinearResidualSpec : ChangeSpec := { name := "fnLinearResidual", fn := fun _ => fun
  | [d] => { results := [.lit (.bool true)], args := [d] }
  | _ => none }
def fnLinearResidualRow : OpenClaim := { program := "ytgiiaijlahjfnaa", sum := "39915b1220aad7dfd635c08ef0872fb2be1929a824ada307176aeb06838d53df", func := "loop.example/losslessaudio/laws.FnLinearResidual", spec := "fnLinearResidual", unfollowed := true, recurses := true, apart := false }
def FnLinearResidualSaid : Prop := fnLinearResidualRow.holds Try.pinned (OpenSpec.ofChange fnLinearResidualSpec)

/-- ITS FALSE NEIGHBOUR: 'it returns false'. Refute it at one input. -/
def fnLinearResidualWrong : ChangeSpec := { name := "fnLinearResidual", fn := fun _ => fun
  | [d] => { results := [.lit (.bool false)], args := [d] }
  | _ => none }
def FnLinearResidualWrongFalsely : Prop := fnLinearResidualRow.holds Try.pinned (OpenSpec.ofChange fnLinearResidualWrong)

/-- 'laws.FnLinearRestore': WHATEVER THE INPUT: true; the input reads as it did. -/
def fnLinearRestoreSpec : ChangeSpec := { name := "fnLinearRestore", fn := fun _ => fun
  | [d] => { results := [.lit (.bool true)], args := [d] }
  | _ => none }
def fnLinearRestoreRow : OpenClaim := { program := "ytgiiaijlahjfnaa", sum := "39915b1220aad7dfd635c08ef0872fb2be1929a824ada307176aeb06838d53df", func := "loop.example/losslessaudio/laws.FnLinearRestore", spec := "fnLinearRestore", unfollowed := true, recurses := true, apart := false }
def FnLinearRestoreSaid : Prop := fnLinearRestoreRow.holds Try.pinned (OpenSpec.ofChange fnLinearRestoreSpec)

/-- ITS FALSE NEIGHBOUR: 'it returns false'. Refute it at one input. -/
def fnLinearRestoreWrong : ChangeSpec := { name := "fnLinearRestore", fn := fun _ => fun
  | [d] => { results := [.lit (.bool false)], args := [d] }
  | _ => none }
def FnLinearRestoreWrongFalsely : Prop := fnLinearRestoreRow.holds Try.pinned (OpenSpec.ofChange fnLinearRestoreWrong)

/-- 'laws.FnLinearShift': WHATEVER THE INPUT: true; the input reads as it did. -/
def fnLinearShiftSpec : ChangeSpec := { name := "fnLinearShift", fn := fun _ => fun
  | [d] => { results := [.lit (.bool true)], args := [d] }
  | _ => none }
def fnLinearShiftRow : OpenClaim := { program := "ytgiiaijlahjfnaa", sum := "39915b1220aad7dfd635c08ef0872fb2be1929a824ada307176aeb06838d53df", func := "loop.example/losslessaudio/laws.FnLinearShift", spec := "fnLinearShift", unfollowed := true, recurses := true, apart := false }
def FnLinearShiftSaid : Prop := fnLinearShiftRow.holds Try.pinned (OpenSpec.ofChange fnLinearShiftSpec)

/-- ITS FALSE NEIGHBOUR: 'it returns false'. Refute it at one input. -/
def fnLinearShiftWrong : ChangeSpec := { name := "fnLinearShift", fn := fun _ => fun
  | [d] => { results := [.lit (.bool false)], args := [d] }
  | _ => none }
def FnLinearShiftWrongFalsely : Prop := fnLinearShiftRow.holds Try.pinned (OpenSpec.ofChange fnLinearShiftWrong)

/-- 'laws.FnBestLinear': WHATEVER THE INPUT: true; the input reads as it did. -/
def fnBestLinearSpec : ChangeSpec := { name := "fnBestLinear", fn := fun _ => fun
  | [d] => { results := [.lit (.bool true)], args := [d] }
  | _ => none }
def fnBestLinearRow : OpenClaim := { program := "ytgiiaijlahjfnaa", sum := "39915b1220aad7dfd635c08ef0872fb2be1929a824ada307176aeb06838d53df", func := "loop.example/losslessaudio/laws.FnBestLinear", spec := "fnBestLinear", unfollowed := true, recurses := true, apart := false }
def FnBestLinearSaid : Prop := fnBestLinearRow.holds Try.pinned (OpenSpec.ofChange fnBestLinearSpec)

/-- ITS FALSE NEIGHBOUR: 'it returns false'. Refute it at one input. -/
def fnBestLinearWrong : ChangeSpec := { name := "fnBestLinear", fn := fun _ => fun
  | [d] => { results := [.lit (.bool false)], args := [d] }
  | _ => none }
def FnBestLinearWrongFalsely : Prop := fnBestLinearRow.holds Try.pinned (OpenSpec.ofChange fnBestLinearWrong)

/-- 'laws.FnBestLinearEnergy': WHATEVER THE INPUT: true; the input reads as it did. -/
def fnBestLinearEnergySpec : ChangeSpec := { name := "fnBestLinearEnergy", fn := fun _ => fun
  | [d] => { results := [.lit (.bool true)], args := [d] }
  | _ => none }
def fnBestLinearEnergyRow : OpenClaim := { program := "ytgiiaijlahjfnaa", sum := "39915b1220aad7dfd635c08ef0872fb2be1929a824ada307176aeb06838d53df", func := "loop.example/losslessaudio/laws.FnBestLinearEnergy", spec := "fnBestLinearEnergy", unfollowed := true, recurses := true, apart := false }
def FnBestLinearEnergySaid : Prop := fnBestLinearEnergyRow.holds Try.pinned (OpenSpec.ofChange fnBestLinearEnergySpec)

/-- ITS FALSE NEIGHBOUR: 'it returns false'. Refute it at one input. -/
def fnBestLinearEnergyWrong : ChangeSpec := { name := "fnBestLinearEnergy", fn := fun _ => fun
  | [d] => { results := [.lit (.bool false)], args := [d] }
  | _ => none }
def FnBestLinearEnergyWrongFalsely : Prop := fnBestLinearEnergyRow.holds Try.pinned (OpenSpec.ofChange fnBestLinearEnergyWrong)

/-- 'laws.FnLinearZero': WHATEVER THE INPUT: true; the input reads as it did. -/
def fnLinearZeroSpec : ChangeSpec := { name := "fnLinearZero", fn := fun _ => fun
  | [d] => { results := [.lit (.bool true)], args := [d] }
  | _ => none }
def fnLinearZeroRow : OpenClaim := { program := "ytgiiaijlahjfnaa", sum := "39915b1220aad7dfd635c08ef0872fb2be1929a824ada307176aeb06838d53df", func := "loop.example/losslessaudio/laws.FnLinearZero", spec := "fnLinearZero", unfollowed := true, recurses := true, apart := false }
def FnLinearZeroSaid : Prop := fnLinearZeroRow.holds Try.pinned (OpenSpec.ofChange fnLinearZeroSpec)

/-- ITS FALSE NEIGHBOUR: 'it returns false'. Refute it at one input. -/
def fnLinearZeroWrong : ChangeSpec := { name := "fnLinearZero", fn := fun _ => fun
  | [d] => { results := [.lit (.bool false)], args := [d] }
  | _ => none }
def FnLinearZeroWrongFalsely : Prop := fnLinearZeroRow.holds Try.pinned (OpenSpec.ofChange fnLinearZeroWrong)

/-- 'laws.FnExactLinearResidual': WHATEVER THE INPUT: true; the input reads as it did. -/
def fnExactLinearResidualSpec : ChangeSpec := { name := "fnExactLinearResidual", fn := fun _ => fun
  | [d1, d2] => { results := [.lit (.bool true)], args := [d1, d2] }
  | _ => none }
def fnExactLinearResidualRow : OpenClaim := { program := "ytgiiaijlahjfnaa", sum := "39915b1220aad7dfd635c08ef0872fb2be1929a824ada307176aeb06838d53df", func := "loop.example/losslessaudio/laws.FnExactLinearResidual", spec := "fnExactLinearResidual", unfollowed := true, recurses := true, apart := false }
def FnExactLinearResidualSaid : Prop := fnExactLinearResidualRow.holds Try.pinned (OpenSpec.ofChange fnExactLinearResidualSpec)

/-- ITS FALSE NEIGHBOUR: 'it returns false'. Refute it at one input. -/
def fnExactLinearResidualWrong : ChangeSpec := { name := "fnExactLinearResidual", fn := fun _ => fun
  | [d1, d2] => { results := [.lit (.bool false)], args := [d1, d2] }
  | _ => none }
def FnExactLinearResidualWrongFalsely : Prop := fnExactLinearResidualRow.holds Try.pinned (OpenSpec.ofChange fnExactLinearResidualWrong)

/-- 'laws.FnExactLinearRestore': WHATEVER THE INPUT: true; the input reads as it did. -/
def fnExactLinearRestoreSpec : ChangeSpec := { name := "fnExactLinearRestore", fn := fun _ => fun
  | [d1, d2, d3] => { results := [.lit (.bool true)], args := [d1, d2, d3] }
  | _ => none }
def fnExactLinearRestoreRow : OpenClaim := { program := "ytgiiaijlahjfnaa", sum := "39915b1220aad7dfd635c08ef0872fb2be1929a824ada307176aeb06838d53df", func := "loop.example/losslessaudio/laws.FnExactLinearRestore", spec := "fnExactLinearRestore", unfollowed := true, recurses := true, apart := false }
def FnExactLinearRestoreSaid : Prop := fnExactLinearRestoreRow.holds Try.pinned (OpenSpec.ofChange fnExactLinearRestoreSpec)

/-- ITS FALSE NEIGHBOUR: 'it returns false'. Refute it at one input. -/
def fnExactLinearRestoreWrong : ChangeSpec := { name := "fnExactLinearRestore", fn := fun _ => fun
  | [d1, d2, d3] => { results := [.lit (.bool false)], args := [d1, d2, d3] }
  | _ => none }
def FnExactLinearRestoreWrongFalsely : Prop := fnExactLinearRestoreRow.holds Try.pinned (OpenSpec.ofChange fnExactLinearRestoreWrong)

/-- 'laws.FnExactBestLinear': WHATEVER THE INPUT: true; the input reads as it did. -/
def fnExactBestLinearSpec : ChangeSpec := { name := "fnExactBestLinear", fn := fun _ => fun
  | [d1, d2] => { results := [.lit (.bool true)], args := [d1, d2] }
  | _ => none }
def fnExactBestLinearRow : OpenClaim := { program := "ytgiiaijlahjfnaa", sum := "39915b1220aad7dfd635c08ef0872fb2be1929a824ada307176aeb06838d53df", func := "loop.example/losslessaudio/laws.FnExactBestLinear", spec := "fnExactBestLinear", unfollowed := true, recurses := true, apart := false }
def FnExactBestLinearSaid : Prop := fnExactBestLinearRow.holds Try.pinned (OpenSpec.ofChange fnExactBestLinearSpec)

/-- ITS FALSE NEIGHBOUR: 'it returns false'. Refute it at one input. -/
def fnExactBestLinearWrong : ChangeSpec := { name := "fnExactBestLinear", fn := fun _ => fun
  | [d1, d2] => { results := [.lit (.bool false)], args := [d1, d2] }
  | _ => none }
def FnExactBestLinearWrongFalsely : Prop := fnExactBestLinearRow.holds Try.pinned (OpenSpec.ofChange fnExactBestLinearWrong)

/- THE SECOND FORM. 'bulk': how many values and letters a reading holds, each counted each time it is reached (what is shared counts as often as it is met; a slice's spare places count too). A statement '..UptoSaid' is the law's where the arguments, and the package variables that the reading takes, are together of bulk at most 1048576: NARROWER than '..Said'. Prove '..Said' where nothing that the law and all that it calls make is longer than what came in: it says more and counts as full. Else prove '..UptoSaid'. A law counts once. -/
mutual
def uptoBulk {H : Type} : DataW H → Nat
  | .lit (.string bytes) => bytes.length + 1
  | .lit _ => 1
  | .nil => 1
  | .ptr d => uptoBulk d + 1
  | .slice elems spare => uptoBulkAll elems + uptoBulkAll spare + 1
  | .agg parts => uptoBulkAll parts + 1
  | .iface _ d => uptoBulk d + 1
  | .map entries => uptoBulkEntries entries + 1
  | .held _ => 1
def uptoBulkAll {H : Type} : List (DataW H) → Nat
  | [] => 0
  | d :: r => uptoBulk d + uptoBulkAll r
def uptoBulkEntries {H : Type} : List (Lit × DataW H) → Nat
  | [] => 0
  | x :: r => uptoBulkEntry x + uptoBulkEntries r
def uptoBulkEntry {H : Type} : Lit × DataW H → Nat
  | (.string bytes, d) => bytes.length + uptoBulk d + 1
  | (_, d) => uptoBulk d + 1
 end
def uptoSmall : (H : Type) → List (DataW H) → Bool := fun _ ds => decide (uptoBulkAll ds ≤ 1048576)
def OpenSpec.upto (s : _root_.Go.ChangeSpec) : _root_.Go.OpenSpec := { _root_.Go.OpenSpec.ofChange s with cond := some uptoSmall }

/-- 'laws.FnLinearResidual', WHERE WHAT IT READS IS OF BULK AT MOST 1048576: true; the input reads as it did. -/
def fnLinearResidualUptoRow : OpenClaim := { program := "ytgiiaijlahjfnaa", sum := "39915b1220aad7dfd635c08ef0872fb2be1929a824ada307176aeb06838d53df", func := "loop.example/losslessaudio/laws.FnLinearResidual", spec := "fnLinearResidual", unfollowed := true, recurses := true, apart := false, narrowed := true }
def FnLinearResidualUptoSaid : Prop := fnLinearResidualUptoRow.holds Try.pinned (OpenSpec.upto fnLinearResidualSpec)

/-- 'laws.FnLinearRestore', WHERE WHAT IT READS IS OF BULK AT MOST 1048576: true; the input reads as it did. -/
def fnLinearRestoreUptoRow : OpenClaim := { program := "ytgiiaijlahjfnaa", sum := "39915b1220aad7dfd635c08ef0872fb2be1929a824ada307176aeb06838d53df", func := "loop.example/losslessaudio/laws.FnLinearRestore", spec := "fnLinearRestore", unfollowed := true, recurses := true, apart := false, narrowed := true }
def FnLinearRestoreUptoSaid : Prop := fnLinearRestoreUptoRow.holds Try.pinned (OpenSpec.upto fnLinearRestoreSpec)

/-- 'laws.FnLinearShift', WHERE WHAT IT READS IS OF BULK AT MOST 1048576: true; the input reads as it did. -/
def fnLinearShiftUptoRow : OpenClaim := { program := "ytgiiaijlahjfnaa", sum := "39915b1220aad7dfd635c08ef0872fb2be1929a824ada307176aeb06838d53df", func := "loop.example/losslessaudio/laws.FnLinearShift", spec := "fnLinearShift", unfollowed := true, recurses := true, apart := false, narrowed := true }
def FnLinearShiftUptoSaid : Prop := fnLinearShiftUptoRow.holds Try.pinned (OpenSpec.upto fnLinearShiftSpec)

/-- 'laws.FnBestLinear', WHERE WHAT IT READS IS OF BULK AT MOST 1048576: true; the input reads as it did. -/
def fnBestLinearUptoRow : OpenClaim := { program := "ytgiiaijlahjfnaa", sum := "39915b1220aad7dfd635c08ef0872fb2be1929a824ada307176aeb06838d53df", func := "loop.example/losslessaudio/laws.FnBestLinear", spec := "fnBestLinear", unfollowed := true, recurses := true, apart := false, narrowed := true }
def FnBestLinearUptoSaid : Prop := fnBestLinearUptoRow.holds Try.pinned (OpenSpec.upto fnBestLinearSpec)

/-- 'laws.FnBestLinearEnergy', WHERE WHAT IT READS IS OF BULK AT MOST 1048576: true; the input reads as it did. -/
def fnBestLinearEnergyUptoRow : OpenClaim := { program := "ytgiiaijlahjfnaa", sum := "39915b1220aad7dfd635c08ef0872fb2be1929a824ada307176aeb06838d53df", func := "loop.example/losslessaudio/laws.FnBestLinearEnergy", spec := "fnBestLinearEnergy", unfollowed := true, recurses := true, apart := false, narrowed := true }
def FnBestLinearEnergyUptoSaid : Prop := fnBestLinearEnergyUptoRow.holds Try.pinned (OpenSpec.upto fnBestLinearEnergySpec)

/-- 'laws.FnLinearZero', WHERE WHAT IT READS IS OF BULK AT MOST 1048576: true; the input reads as it did. -/
def fnLinearZeroUptoRow : OpenClaim := { program := "ytgiiaijlahjfnaa", sum := "39915b1220aad7dfd635c08ef0872fb2be1929a824ada307176aeb06838d53df", func := "loop.example/losslessaudio/laws.FnLinearZero", spec := "fnLinearZero", unfollowed := true, recurses := true, apart := false, narrowed := true }
def FnLinearZeroUptoSaid : Prop := fnLinearZeroUptoRow.holds Try.pinned (OpenSpec.upto fnLinearZeroSpec)

/-- 'laws.FnExactLinearResidual', WHERE WHAT IT READS IS OF BULK AT MOST 1048576: true; the input reads as it did. -/
def fnExactLinearResidualUptoRow : OpenClaim := { program := "ytgiiaijlahjfnaa", sum := "39915b1220aad7dfd635c08ef0872fb2be1929a824ada307176aeb06838d53df", func := "loop.example/losslessaudio/laws.FnExactLinearResidual", spec := "fnExactLinearResidual", unfollowed := true, recurses := true, apart := false, narrowed := true }
def FnExactLinearResidualUptoSaid : Prop := fnExactLinearResidualUptoRow.holds Try.pinned (OpenSpec.upto fnExactLinearResidualSpec)

/-- 'laws.FnExactLinearRestore', WHERE WHAT IT READS IS OF BULK AT MOST 1048576: true; the input reads as it did. -/
def fnExactLinearRestoreUptoRow : OpenClaim := { program := "ytgiiaijlahjfnaa", sum := "39915b1220aad7dfd635c08ef0872fb2be1929a824ada307176aeb06838d53df", func := "loop.example/losslessaudio/laws.FnExactLinearRestore", spec := "fnExactLinearRestore", unfollowed := true, recurses := true, apart := false, narrowed := true }
def FnExactLinearRestoreUptoSaid : Prop := fnExactLinearRestoreUptoRow.holds Try.pinned (OpenSpec.upto fnExactLinearRestoreSpec)

/-- 'laws.FnExactBestLinear', WHERE WHAT IT READS IS OF BULK AT MOST 1048576: true; the input reads as it did. -/
def fnExactBestLinearUptoRow : OpenClaim := { program := "ytgiiaijlahjfnaa", sum := "39915b1220aad7dfd635c08ef0872fb2be1929a824ada307176aeb06838d53df", func := "loop.example/losslessaudio/laws.FnExactBestLinear", spec := "fnExactBestLinear", unfollowed := true, recurses := true, apart := false, narrowed := true }
def FnExactBestLinearUptoSaid : Prop := fnExactBestLinearUptoRow.holds Try.pinned (OpenSpec.upto fnExactBestLinearSpec)

end Rows
end Go.Proofs.Ytgiiaijlahjfnaa
