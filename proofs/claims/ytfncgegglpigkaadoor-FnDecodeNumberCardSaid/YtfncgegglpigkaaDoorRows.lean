/-
  NARROWER THAN 'FOR EVERY INPUT', by the rows' own cells (each row's printed sentence says how): FnEncodeNumber: laid · FnDecodeNumber: laid.
  DERIVED. THE GIVEN ROWS OF THIS SEAT. 2 by the template 'for every input the law returns true; each argument reads behind the call as it read before'; 0 by the template 'total and deterministic' (their statements: YtfncgegglpigkaaDoorTotals.lean).
  GIVEN WITH THE SEED: the statements are not yours to turn. If you find one false, say at which input.
  Laid BY PROGRAM, IN A SANDBOX (cutbox-rows.mjs): the forced cells as the released guide's own fill.sh prints them over the translation ff522d0b1497dc75… (all of the seat's roots in one cut). By AI agents, Wed Nov 11 2026. No macro, syntax, notation, axiom, sorry.
-/
import Derived.Test.YtfncgegglpigkaaDoorChecked
import GoSem.Claim
import GoSem.ClaimJoined
import GoSem.ClaimMapViews
import Derived.JoinedTies
import Derived.KernelRfl
namespace Go.Proofs.YtfncgegglpigkaaDoor
/- THE CELL 'sum', in the pinned program and in every row, IS THE sha256 OF THE DUMP (.gsa) THAT YtfncgegglpigkaaDoorProg.lean LOADS. Nothing in Lean hashes anything: it is a label: what it is worth is what the hold of that sum in a sandbox is worth. -/
noncomputable def Tryd.pinned : Pinned := { name := "ytfncgegglpigkaadoor", sum := "ff522d0b1497dc75e0ddce177189490949d7abe7a149824e2bd5cb81fcd17d88", checked := Tryd.checked }
namespace Rows
def none {H : Type} : Left H := { results := [], args := [] }

/- WHAT THE LISTED PACKAGE-LEVEL VARIABLES READ AS WHEN THE CALL BEGINS. Each datum BY PROGRAM (the guide's laid-datum.mjs) off the statement by which the dump's own 'gosem.cut.vars' lays the variable. In a bare row this is a premise. The card (YtfncgegglpigkaaDoorCards.lean) ties it to the program's text. -/
def laid_loop_example_losslessaudio_impl_numberForms {H : Type} : DataW H := .agg [.agg [.lit (.int .i64 128), .lit (.int .i64 0)], .agg [.lit (.int .i64 2048), .lit (.int .i64 192)], .agg [.lit (.int .i64 65536), .lit (.int .i64 224)], .agg [.lit (.int .i64 2097152), .lit (.int .i64 240)], .agg [.lit (.int .i64 67108864), .lit (.int .i64 248)], .agg [.lit (.int .i64 2147483648), .lit (.int .i64 252)]]

/-- 'laws.FnEncodeNumber': WHATEVER THE INPUT: true; the input reads as it did. -/
def fnEncodeNumberSpec : ChangeSpec := { name := "fnEncodeNumber", vars := ["loop.example/losslessaudio/impl.numberForms"], fn := fun _ => fun
  | [d, g1] => { results := [.lit (.bool true)], args := [d], vars := [g1] }
  | _ => none }
def fnEncodeNumberRow : OpenClaim := { program := "ytfncgegglpigkaadoor", sum := "ff522d0b1497dc75e0ddce177189490949d7abe7a149824e2bd5cb81fcd17d88", func := "loop.example/losslessaudio/laws.FnEncodeNumber", spec := "fnEncodeNumber", named := ["loop.example/losslessaudio/impl.numberForms"], apart := false, laid := [("loop.example/losslessaudio/impl.numberForms", laid_loop_example_losslessaudio_impl_numberForms)] }
def FnEncodeNumberSaid : Prop := fnEncodeNumberRow.holds Tryd.pinned (OpenSpec.ofChange fnEncodeNumberSpec)

/-- ITS FALSE NEIGHBOUR: 'it returns false'. Refute it at one input. -/
def fnEncodeNumberWrong : ChangeSpec := { name := "fnEncodeNumber", vars := ["loop.example/losslessaudio/impl.numberForms"], fn := fun _ => fun
  | [d, g1] => { results := [.lit (.bool false)], args := [d], vars := [g1] }
  | _ => none }
def FnEncodeNumberWrongFalsely : Prop := fnEncodeNumberRow.holds Tryd.pinned (OpenSpec.ofChange fnEncodeNumberWrong)

/-- 'laws.FnDecodeNumber': WHATEVER THE INPUT: true; the input reads as it did. -/
def fnDecodeNumberSpec : ChangeSpec := { name := "fnDecodeNumber", vars := ["loop.example/losslessaudio/impl.numberForms"], fn := fun _ => fun
  | [d, g1] => { results := [.lit (.bool true)], args := [d], vars := [g1] }
  | _ => none }
def fnDecodeNumberRow : OpenClaim := { program := "ytfncgegglpigkaadoor", sum := "ff522d0b1497dc75e0ddce177189490949d7abe7a149824e2bd5cb81fcd17d88", func := "loop.example/losslessaudio/laws.FnDecodeNumber", spec := "fnDecodeNumber", named := ["loop.example/losslessaudio/impl.numberForms"], apart := false, laid := [("loop.example/losslessaudio/impl.numberForms", laid_loop_example_losslessaudio_impl_numberForms)] }
def FnDecodeNumberSaid : Prop := fnDecodeNumberRow.holds Tryd.pinned (OpenSpec.ofChange fnDecodeNumberSpec)

/-- ITS FALSE NEIGHBOUR: 'it returns false'. Refute it at one input. -/
def fnDecodeNumberWrong : ChangeSpec := { name := "fnDecodeNumber", vars := ["loop.example/losslessaudio/impl.numberForms"], fn := fun _ => fun
  | [d, g1] => { results := [.lit (.bool false)], args := [d], vars := [g1] }
  | _ => none }
def FnDecodeNumberWrongFalsely : Prop := fnDecodeNumberRow.holds Tryd.pinned (OpenSpec.ofChange fnDecodeNumberWrong)

/- THE SECOND FORM. 'bulk': how many values and letters a reading holds, each counted each time it is reached (what is shared counts as often as it is met; a slice's spare places count too). A statement '..UptoSaid' is the law's where the arguments, and the package variables that the reading takes, are together of bulk at most 1048576: NARROWER than '..Said'. Prove '..Said' where nothing that the law and all that it calls make is longer than what came in: it says more and counts as full. Else prove '..UptoSaid'. A law counts once. -/
mutual
def uptoBulk {H : Type} : DataW H → Nat
  | .lit (.string bytes) => bytes.length + 1
  | .lit _ => 1
  | .nil => 1
  | .ptr d => uptoBulk d + 1
  | .slice elems spare => uptoBulkAll elems + uptoBulkAll spare + 1
  | .agg parts => uptoBulkAll parts + 1
  | .iface _ d => uptoBulk d + 1
  | .map entries => uptoBulkEntries entries + 1
  | .held _ => 1
def uptoBulkAll {H : Type} : List (DataW H) → Nat
  | [] => 0
  | d :: r => uptoBulk d + uptoBulkAll r
def uptoBulkEntries {H : Type} : List (Lit × DataW H) → Nat
  | [] => 0
  | x :: r => uptoBulkEntry x + uptoBulkEntries r
def uptoBulkEntry {H : Type} : Lit × DataW H → Nat
  | (.string bytes, d) => bytes.length + uptoBulk d + 1
  | (_, d) => uptoBulk d + 1
 end
def uptoSmall : (H : Type) → List (DataW H) → Bool := fun _ ds => decide (uptoBulkAll ds ≤ 1048576)
def OpenSpec.upto (s : _root_.Go.ChangeSpec) : _root_.Go.OpenSpec := { _root_.Go.OpenSpec.ofChange s with cond := some uptoSmall }

/-- 'laws.FnEncodeNumber', WHERE WHAT IT READS IS OF BULK AT MOST 1048576: true; the input reads as it did. -/
def fnEncodeNumberUptoRow : OpenClaim := { program := "ytfncgegglpigkaadoor", sum := "ff522d0b1497dc75e0ddce177189490949d7abe7a149824e2bd5cb81fcd17d88", func := "loop.example/losslessaudio/laws.FnEncodeNumber", spec := "fnEncodeNumber", named := ["loop.example/losslessaudio/impl.numberForms"], apart := false, laid := [("loop.example/losslessaudio/impl.numberForms", laid_loop_example_losslessaudio_impl_numberForms)], narrowed := true }
def FnEncodeNumberUptoSaid : Prop := fnEncodeNumberUptoRow.holds Tryd.pinned (OpenSpec.upto fnEncodeNumberSpec)

/-- 'laws.FnDecodeNumber', WHERE WHAT IT READS IS OF BULK AT MOST 1048576: true; the input reads as it did. -/
def fnDecodeNumberUptoRow : OpenClaim := { program := "ytfncgegglpigkaadoor", sum := "ff522d0b1497dc75e0ddce177189490949d7abe7a149824e2bd5cb81fcd17d88", func := "loop.example/losslessaudio/laws.FnDecodeNumber", spec := "fnDecodeNumber", named := ["loop.example/losslessaudio/impl.numberForms"], apart := false, laid := [("loop.example/losslessaudio/impl.numberForms", laid_loop_example_losslessaudio_impl_numberForms)], narrowed := true }
def FnDecodeNumberUptoSaid : Prop := fnDecodeNumberUptoRow.holds Tryd.pinned (OpenSpec.upto fnDecodeNumberSpec)

end Rows
end Go.Proofs.YtfncgegglpigkaaDoor
