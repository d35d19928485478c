/-
  No cell of these rows narrows 'for every input' (looked for: loops, veiled, ifaces, maps, wideKeys, modest, calm, conditions, laid).
  DERIVED. THE GIVEN ROWS OF THIS SEAT. 3 by the template 'for every input the law returns true; each argument reads behind the call as it read before'; 0 by the template 'total and deterministic' (their statements: YthgppflplcoemaaTotals.lean).
  GIVEN WITH THE SEED: the statements are not yours to turn. If you find one false, say at which input.
  Laid BY PROGRAM, IN A SANDBOX (cutbox-rows.mjs): the forced cells as the released guide's own fill.sh prints them over the translation 0a0d47232eed38a8… (all of the seat's roots in one cut). By AI agents, Wed Nov 11 2026. No macro, syntax, notation, axiom, sorry.
-/
import Derived.Test.YthgppflplcoemaaChecked
import GoSem.Claim
import GoSem.ClaimJoined
import GoSem.ClaimMapViews
import Derived.JoinedTies
import Derived.KernelRfl
namespace Go.Proofs.Ythgppflplcoemaa
/- THE CELL 'sum', in the pinned program and in every row, IS THE sha256 OF THE DUMP (.gsa) THAT YthgppflplcoemaaProg.lean LOADS. Nothing in Lean hashes anything: it is a label: what it is worth is what the hold of that sum in a sandbox is worth. -/
noncomputable def Try.pinned : Pinned := { name := "ythgppflplcoemaa", sum := "0a0d47232eed38a8dbca178e80f2b161e612c969ed6f3d0a40151ac77b3c706c", checked := Try.checked }
namespace Rows
def none {H : Type} : Left H := { results := [], args := [] }

/-- 'laws.FnBestParameter': WHATEVER THE INPUT: true; the input reads as it did. -/
def fnBestParameterSpec : ChangeSpec := { name := "fnBestParameter", fn := fun _ => fun
  | [d] => { results := [.lit (.bool true)], args := [d] }
  | _ => none }
def fnBestParameterRow : OpenClaim := { program := "ythgppflplcoemaa", sum := "0a0d47232eed38a8dbca178e80f2b161e612c969ed6f3d0a40151ac77b3c706c", func := "loop.example/losslessaudio/laws.FnBestParameter", spec := "fnBestParameter", unfollowed := true, recurses := true, apart := false }
def FnBestParameterSaid : Prop := fnBestParameterRow.holds Try.pinned (OpenSpec.ofChange fnBestParameterSpec)

/-- ITS FALSE NEIGHBOUR: 'it returns false'. Refute it at one input. -/
def fnBestParameterWrong : ChangeSpec := { name := "fnBestParameter", fn := fun _ => fun
  | [d] => { results := [.lit (.bool false)], args := [d] }
  | _ => none }
def FnBestParameterWrongFalsely : Prop := fnBestParameterRow.holds Try.pinned (OpenSpec.ofChange fnBestParameterWrong)

/-- 'laws.FnBestParameterZeros': WHATEVER THE INPUT: true; the input reads as it did. -/
def fnBestParameterZerosSpec : ChangeSpec := { name := "fnBestParameterZeros", fn := fun _ => fun
  | [d] => { results := [.lit (.bool true)], args := [d] }
  | _ => none }
def fnBestParameterZerosRow : OpenClaim := { program := "ythgppflplcoemaa", sum := "0a0d47232eed38a8dbca178e80f2b161e612c969ed6f3d0a40151ac77b3c706c", func := "loop.example/losslessaudio/laws.FnBestParameterZeros", spec := "fnBestParameterZeros", unfollowed := true, recurses := true, apart := false }
def FnBestParameterZerosSaid : Prop := fnBestParameterZerosRow.holds Try.pinned (OpenSpec.ofChange fnBestParameterZerosSpec)

/-- ITS FALSE NEIGHBOUR: 'it returns false'. Refute it at one input. -/
def fnBestParameterZerosWrong : ChangeSpec := { name := "fnBestParameterZeros", fn := fun _ => fun
  | [d] => { results := [.lit (.bool false)], args := [d] }
  | _ => none }
def FnBestParameterZerosWrongFalsely : Prop := fnBestParameterZerosRow.holds Try.pinned (OpenSpec.ofChange fnBestParameterZerosWrong)

/-- 'laws.FnExactBestParameter': WHATEVER THE INPUT: true; the input reads as it did. -/
def fnExactBestParameterSpec : ChangeSpec := { name := "fnExactBestParameter", fn := fun _ => fun
  | [d] => { results := [.lit (.bool true)], args := [d] }
  | _ => none }
def fnExactBestParameterRow : OpenClaim := { program := "ythgppflplcoemaa", sum := "0a0d47232eed38a8dbca178e80f2b161e612c969ed6f3d0a40151ac77b3c706c", func := "loop.example/losslessaudio/laws.FnExactBestParameter", spec := "fnExactBestParameter", unfollowed := true, recurses := true, apart := false }
def FnExactBestParameterSaid : Prop := fnExactBestParameterRow.holds Try.pinned (OpenSpec.ofChange fnExactBestParameterSpec)

/-- ITS FALSE NEIGHBOUR: 'it returns false'. Refute it at one input. -/
def fnExactBestParameterWrong : ChangeSpec := { name := "fnExactBestParameter", fn := fun _ => fun
  | [d] => { results := [.lit (.bool false)], args := [d] }
  | _ => none }
def FnExactBestParameterWrongFalsely : Prop := fnExactBestParameterRow.holds Try.pinned (OpenSpec.ofChange fnExactBestParameterWrong)

/- THE SECOND FORM. 'bulk': how many values and letters a reading holds, each counted each time it is reached (what is shared counts as often as it is met; a slice's spare places count too). A statement '..UptoSaid' is the law's where the arguments, and the package variables that the reading takes, are together of bulk at most 1048576: NARROWER than '..Said'. Prove '..Said' where nothing that the law and all that it calls make is longer than what came in: it says more and counts as full. Else prove '..UptoSaid'. A law counts once. -/
mutual
def uptoBulk {H : Type} : DataW H → Nat
  | .lit (.string bytes) => bytes.length + 1
  | .lit _ => 1
  | .nil => 1
  | .ptr d => uptoBulk d + 1
  | .slice elems spare => uptoBulkAll elems + uptoBulkAll spare + 1
  | .agg parts => uptoBulkAll parts + 1
  | .iface _ d => uptoBulk d + 1
  | .map entries => uptoBulkEntries entries + 1
  | .held _ => 1
def uptoBulkAll {H : Type} : List (DataW H) → Nat
  | [] => 0
  | d :: r => uptoBulk d + uptoBulkAll r
def uptoBulkEntries {H : Type} : List (Lit × DataW H) → Nat
  | [] => 0
  | x :: r => uptoBulkEntry x + uptoBulkEntries r
def uptoBulkEntry {H : Type} : Lit × DataW H → Nat
  | (.string bytes, d) => bytes.length + uptoBulk d + 1
  | (_, d) => uptoBulk d + 1
 end
def uptoSmall : (H : Type) → List (DataW H) → Bool := fun _ ds => decide (uptoBulkAll ds ≤ 1048576)
def OpenSpec.upto (s : _root_.Go.ChangeSpec) : _root_.Go.OpenSpec := { _root_.Go.OpenSpec.ofChange s with cond := some uptoSmall }

/-- 'laws.FnBestParameter', WHERE WHAT IT READS IS OF BULK AT MOST 1048576: true; the input reads as it did. -/
def fnBestParameterUptoRow : OpenClaim := { program := "ythgppflplcoemaa", sum := "0a0d47232eed38a8dbca178e80f2b161e612c969ed6f3d0a40151ac77b3c706c", func := "loop.example/losslessaudio/laws.FnBestParameter", spec := "fnBestParameter", unfollowed := true, recurses := true, apart := false, narrowed := true }
def FnBestParameterUptoSaid : Prop := fnBestParameterUptoRow.holds Try.pinned (OpenSpec.upto fnBestParameterSpec)

/-- 'laws.FnBestParameterZeros', WHERE WHAT IT READS IS OF BULK AT MOST 1048576: true; the input reads as it did. -/
def fnBestParameterZerosUptoRow : OpenClaim := { program := "ythgppflplcoemaa", sum := "0a0d47232eed38a8dbca178e80f2b161e612c969ed6f3d0a40151ac77b3c706c", func := "loop.example/losslessaudio/laws.FnBestParameterZeros", spec := "fnBestParameterZeros", unfollowed := true, recurses := true, apart := false, narrowed := true }
def FnBestParameterZerosUptoSaid : Prop := fnBestParameterZerosUptoRow.holds Try.pinned (OpenSpec.upto fnBestParameterZerosSpec)

/-- 'laws.FnExactBestParameter', WHERE WHAT IT READS IS OF BULK AT MOST 1048576: true; the input reads as it did. -/
def fnExactBestParameterUptoRow : OpenClaim := { program := "ythgppflplcoemaa", sum := "0a0d47232eed38a8dbca178e80f2b161e612c969ed6f3d0a40151ac77b3c706c", func := "loop.example/losslessaudio/laws.FnExactBestParameter", spec := "fnExactBestParameter", unfollowed := true, recurses := true, apart := false, narrowed := true }
def FnExactBestParameterUptoSaid : Prop := fnExactBestParameterUptoRow.holds Try.pinned (OpenSpec.upto fnExactBestParameterSpec)

end Rows
end Go.Proofs.Ythgppflplcoemaa
