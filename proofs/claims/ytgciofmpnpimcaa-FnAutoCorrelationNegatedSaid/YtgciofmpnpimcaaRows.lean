/-
  No cell of these rows narrows 'for every input' (looked for: loops, veiled, ifaces, maps, wideKeys, modest, calm, conditions, laid).
  DERIVED. THE GIVEN ROWS OF THIS SEAT. 6 by the template 'for every input the law returns true; each argument reads behind the call as it read before'; 0 by the template 'total and deterministic' (their statements: YtgciofmpnpimcaaTotals.lean).
  GIVEN WITH THE SEED: the statements are not yours to turn. If you find one false, say at which input.
  Laid BY PROGRAM, IN A SANDBOX (cutbox-rows.mjs): the forced cells as the released guide's own fill.sh prints them over the translation 781d9dfcddc564a8… (all of the seat's roots in one cut). By AI agents, Wed Nov 11 2026. No macro, syntax, notation, axiom, sorry.
-/
import Derived.Test.YtgciofmpnpimcaaChecked
import GoSem.Claim
import GoSem.ClaimJoined
import GoSem.ClaimMapViews
import Derived.JoinedTies
import Derived.KernelRfl
namespace Go.Proofs.Ytgciofmpnpimcaa
/- THE CELL 'sum', in the pinned program and in every row, IS THE sha256 OF THE DUMP (.gsa) THAT YtgciofmpnpimcaaProg.lean LOADS. Nothing in Lean hashes anything: it is a label: what it is worth is what the hold of that sum in a sandbox is worth. -/
noncomputable def Try.pinned : Pinned := { name := "ytgciofmpnpimcaa", sum := "781d9dfcddc564a8e944c3669b5609206555a2a498f4b0a54590fae2abb820cf", checked := Try.checked }
namespace Rows
def none {H : Type} : Left H := { results := [], args := [] }

/-- 'laws.FnQuantizeCoefs': WHATEVER THE INPUT: true; the input reads as it did. -/
def fnQuantizeCoefsSpec : ChangeSpec := { name := "fnQuantizeCoefs", fn := fun _ => fun
  | [d] => { results := [.lit (.bool true)], args := [d] }
  | _ => none }
def fnQuantizeCoefsRow : OpenClaim := { program := "ytgciofmpnpimcaa", sum := "781d9dfcddc564a8e944c3669b5609206555a2a498f4b0a54590fae2abb820cf", func := "loop.example/losslessaudio/laws.FnQuantizeCoefs", spec := "fnQuantizeCoefs", apart := false }
def FnQuantizeCoefsSaid : Prop := fnQuantizeCoefsRow.holds Try.pinned (OpenSpec.ofChange fnQuantizeCoefsSpec)

/-- ITS FALSE NEIGHBOUR: 'it returns false'. Refute it at one input. -/
def fnQuantizeCoefsWrong : ChangeSpec := { name := "fnQuantizeCoefs", fn := fun _ => fun
  | [d] => { results := [.lit (.bool false)], args := [d] }
  | _ => none }
def FnQuantizeCoefsWrongFalsely : Prop := fnQuantizeCoefsRow.holds Try.pinned (OpenSpec.ofChange fnQuantizeCoefsWrong)

/-- 'laws.FnQuantizeExact': WHATEVER THE INPUT: true; the input reads as it did. -/
def fnQuantizeExactSpec : ChangeSpec := { name := "fnQuantizeExact", fn := fun _ => fun
  | [d] => { results := [.lit (.bool true)], args := [d] }
  | _ => none }
def fnQuantizeExactRow : OpenClaim := { program := "ytgciofmpnpimcaa", sum := "781d9dfcddc564a8e944c3669b5609206555a2a498f4b0a54590fae2abb820cf", func := "loop.example/losslessaudio/laws.FnQuantizeExact", spec := "fnQuantizeExact", apart := false }
def FnQuantizeExactSaid : Prop := fnQuantizeExactRow.holds Try.pinned (OpenSpec.ofChange fnQuantizeExactSpec)

/-- ITS FALSE NEIGHBOUR: 'it returns false'. Refute it at one input. -/
def fnQuantizeExactWrong : ChangeSpec := { name := "fnQuantizeExact", fn := fun _ => fun
  | [d] => { results := [.lit (.bool false)], args := [d] }
  | _ => none }
def FnQuantizeExactWrongFalsely : Prop := fnQuantizeExactRow.holds Try.pinned (OpenSpec.ofChange fnQuantizeExactWrong)

/-- 'laws.FnAutoCorrelation': WHATEVER THE INPUT: true; the input reads as it did. -/
def fnAutoCorrelationSpec : ChangeSpec := { name := "fnAutoCorrelation", fn := fun _ => fun
  | [d] => { results := [.lit (.bool true)], args := [d] }
  | _ => none }
def fnAutoCorrelationRow : OpenClaim := { program := "ytgciofmpnpimcaa", sum := "781d9dfcddc564a8e944c3669b5609206555a2a498f4b0a54590fae2abb820cf", func := "loop.example/losslessaudio/laws.FnAutoCorrelation", spec := "fnAutoCorrelation", unfollowed := true, recurses := true, apart := false }
def FnAutoCorrelationSaid : Prop := fnAutoCorrelationRow.holds Try.pinned (OpenSpec.ofChange fnAutoCorrelationSpec)

/-- ITS FALSE NEIGHBOUR: 'it returns false'. Refute it at one input. -/
def fnAutoCorrelationWrong : ChangeSpec := { name := "fnAutoCorrelation", fn := fun _ => fun
  | [d] => { results := [.lit (.bool false)], args := [d] }
  | _ => none }
def FnAutoCorrelationWrongFalsely : Prop := fnAutoCorrelationRow.holds Try.pinned (OpenSpec.ofChange fnAutoCorrelationWrong)

/-- 'laws.FnAutoCorrelationNegated': WHATEVER THE INPUT: true; the input reads as it did. -/
def fnAutoCorrelationNegatedSpec : ChangeSpec := { name := "fnAutoCorrelationNegated", fn := fun _ => fun
  | [d] => { results := [.lit (.bool true)], args := [d] }
  | _ => none }
def fnAutoCorrelationNegatedRow : OpenClaim := { program := "ytgciofmpnpimcaa", sum := "781d9dfcddc564a8e944c3669b5609206555a2a498f4b0a54590fae2abb820cf", func := "loop.example/losslessaudio/laws.FnAutoCorrelationNegated", spec := "fnAutoCorrelationNegated", unfollowed := true, recurses := true, apart := false }
def FnAutoCorrelationNegatedSaid : Prop := fnAutoCorrelationNegatedRow.holds Try.pinned (OpenSpec.ofChange fnAutoCorrelationNegatedSpec)

/-- ITS FALSE NEIGHBOUR: 'it returns false'. Refute it at one input. -/
def fnAutoCorrelationNegatedWrong : ChangeSpec := { name := "fnAutoCorrelationNegated", fn := fun _ => fun
  | [d] => { results := [.lit (.bool false)], args := [d] }
  | _ => none }
def FnAutoCorrelationNegatedWrongFalsely : Prop := fnAutoCorrelationNegatedRow.holds Try.pinned (OpenSpec.ofChange fnAutoCorrelationNegatedWrong)

/-- 'laws.FnExactQuantizeCoefs': WHATEVER THE INPUT: true; the input reads as it did. -/
def fnExactQuantizeCoefsSpec : ChangeSpec := { name := "fnExactQuantizeCoefs", fn := fun _ => fun
  | [d1, d2, d3] => { results := [.lit (.bool true)], args := [d1, d2, d3] }
  | _ => none }
def fnExactQuantizeCoefsRow : OpenClaim := { program := "ytgciofmpnpimcaa", sum := "781d9dfcddc564a8e944c3669b5609206555a2a498f4b0a54590fae2abb820cf", func := "loop.example/losslessaudio/laws.FnExactQuantizeCoefs", spec := "fnExactQuantizeCoefs", apart := false }
def FnExactQuantizeCoefsSaid : Prop := fnExactQuantizeCoefsRow.holds Try.pinned (OpenSpec.ofChange fnExactQuantizeCoefsSpec)

/-- ITS FALSE NEIGHBOUR: 'it returns false'. Refute it at one input. -/
def fnExactQuantizeCoefsWrong : ChangeSpec := { name := "fnExactQuantizeCoefs", fn := fun _ => fun
  | [d1, d2, d3] => { results := [.lit (.bool false)], args := [d1, d2, d3] }
  | _ => none }
def FnExactQuantizeCoefsWrongFalsely : Prop := fnExactQuantizeCoefsRow.holds Try.pinned (OpenSpec.ofChange fnExactQuantizeCoefsWrong)

/-- 'laws.FnExactAutoCorrelation': WHATEVER THE INPUT: true; the input reads as it did. -/
def fnExactAutoCorrelationSpec : ChangeSpec := { name := "fnExactAutoCorrelation", fn := fun _ => fun
  | [d1, d2] => { results := [.lit (.bool true)], args := [d1, d2] }
  | _ => none }
def fnExactAutoCorrelationRow : OpenClaim := { program := "ytgciofmpnpimcaa", sum := "781d9dfcddc564a8e944c3669b5609206555a2a498f4b0a54590fae2abb820cf", func := "loop.example/losslessaudio/laws.FnExactAutoCorrelation", spec := "fnExactAutoCorrelation", unfollowed := true, recurses := true, apart := false }
def FnExactAutoCorrelationSaid : Prop := fnExactAutoCorrelationRow.holds Try.pinned (OpenSpec.ofChange fnExactAutoCorrelationSpec)

/-- ITS FALSE NEIGHBOUR: 'it returns false'. Refute it at one input. -/
def fnExactAutoCorrelationWrong : ChangeSpec := { name := "fnExactAutoCorrelation", fn := fun _ => fun
  | [d1, d2] => { results := [.lit (.bool false)], args := [d1, d2] }
  | _ => none }
def FnExactAutoCorrelationWrongFalsely : Prop := fnExactAutoCorrelationRow.holds Try.pinned (OpenSpec.ofChange fnExactAutoCorrelationWrong)

/- THE SECOND FORM. 'bulk': how many values and letters a reading holds, each counted each time it is reached (what is shared counts as often as it is met; a slice's spare places count too). A statement '..UptoSaid' is the law's where the arguments, and the package variables that the reading takes, are together of bulk at most 1048576: NARROWER than '..Said'. Prove '..Said' where nothing that the law and all that it calls make is longer than what came in: it says more and counts as full. Else prove '..UptoSaid'. A law counts once. -/
mutual
def uptoBulk {H : Type} : DataW H → Nat
  | .lit (.string bytes) => bytes.length + 1
  | .lit _ => 1
  | .nil => 1
  | .ptr d => uptoBulk d + 1
  | .slice elems spare => uptoBulkAll elems + uptoBulkAll spare + 1
  | .agg parts => uptoBulkAll parts + 1
  | .iface _ d => uptoBulk d + 1
  | .map entries => uptoBulkEntries entries + 1
  | .held _ => 1
def uptoBulkAll {H : Type} : List (DataW H) → Nat
  | [] => 0
  | d :: r => uptoBulk d + uptoBulkAll r
def uptoBulkEntries {H : Type} : List (Lit × DataW H) → Nat
  | [] => 0
  | x :: r => uptoBulkEntry x + uptoBulkEntries r
def uptoBulkEntry {H : Type} : Lit × DataW H → Nat
  | (.string bytes, d) => bytes.length + uptoBulk d + 1
  | (_, d) => uptoBulk d + 1
 end
def uptoSmall : (H : Type) → List (DataW H) → Bool := fun _ ds => decide (uptoBulkAll ds ≤ 1048576)
def OpenSpec.upto (s : _root_.Go.ChangeSpec) : _root_.Go.OpenSpec := { _root_.Go.OpenSpec.ofChange s with cond := some uptoSmall }

/-- 'laws.FnQuantizeCoefs', WHERE WHAT IT READS IS OF BULK AT MOST 1048576: true; the input reads as it did. -/
def fnQuantizeCoefsUptoRow : OpenClaim := { program := "ytgciofmpnpimcaa", sum := "781d9dfcddc564a8e944c3669b5609206555a2a498f4b0a54590fae2abb820cf", func := "loop.example/losslessaudio/laws.FnQuantizeCoefs", spec := "fnQuantizeCoefs", apart := false, narrowed := true }
def FnQuantizeCoefsUptoSaid : Prop := fnQuantizeCoefsUptoRow.holds Try.pinned (OpenSpec.upto fnQuantizeCoefsSpec)

/-- 'laws.FnQuantizeExact', WHERE WHAT IT READS IS OF BULK AT MOST 1048576: true; the input reads as it did. -/
def fnQuantizeExactUptoRow : OpenClaim := { program := "ytgciofmpnpimcaa", sum := "781d9dfcddc564a8e944c3669b5609206555a2a498f4b0a54590fae2abb820cf", func := "loop.example/losslessaudio/laws.FnQuantizeExact", spec := "fnQuantizeExact", apart := false, narrowed := true }
def FnQuantizeExactUptoSaid : Prop := fnQuantizeExactUptoRow.holds Try.pinned (OpenSpec.upto fnQuantizeExactSpec)

/-- 'laws.FnAutoCorrelation', WHERE WHAT IT READS IS OF BULK AT MOST 1048576: true; the input reads as it did. -/
def fnAutoCorrelationUptoRow : OpenClaim := { program := "ytgciofmpnpimcaa", sum := "781d9dfcddc564a8e944c3669b5609206555a2a498f4b0a54590fae2abb820cf", func := "loop.example/losslessaudio/laws.FnAutoCorrelation", spec := "fnAutoCorrelation", unfollowed := true, recurses := true, apart := false, narrowed := true }
def FnAutoCorrelationUptoSaid : Prop := fnAutoCorrelationUptoRow.holds Try.pinned (OpenSpec.upto fnAutoCorrelationSpec)

/-- 'laws.FnAutoCorrelationNegated', WHERE WHAT IT READS IS OF BULK AT MOST 1048576: true; the input reads as it did. -/
def fnAutoCorrelationNegatedUptoRow : OpenClaim := { program := "ytgciofmpnpimcaa", sum := "781d9dfcddc564a8e944c3669b5609206555a2a498f4b0a54590fae2abb820cf", func := "loop.example/losslessaudio/laws.FnAutoCorrelationNegated", spec := "fnAutoCorrelationNegated", unfollowed := true, recurses := true, apart := false, narrowed := true }
def FnAutoCorrelationNegatedUptoSaid : Prop := fnAutoCorrelationNegatedUptoRow.holds Try.pinned (OpenSpec.upto fnAutoCorrelationNegatedSpec)

/-- 'laws.FnExactQuantizeCoefs', WHERE WHAT IT READS IS OF BULK AT MOST 1048576: true; the input reads as it did. -/
def fnExactQuantizeCoefsUptoRow : OpenClaim := { program := "ytgciofmpnpimcaa", sum := "781d9dfcddc564a8e944c3669b5609206555a2a498f4b0a54590fae2abb820cf", func := "loop.example/losslessaudio/laws.FnExactQuantizeCoefs", spec := "fnExactQuantizeCoefs", apart := false, narrowed := true }
def FnExactQuantizeCoefsUptoSaid : Prop := fnExactQuantizeCoefsUptoRow.holds Try.pinned (OpenSpec.upto fnExactQuantizeCoefsSpec)

/-- 'laws.FnExactAutoCorrelation', WHERE WHAT IT READS IS OF BULK AT MOST 1048576: true; the input reads as it did. -/
def fnExactAutoCorrelationUptoRow : OpenClaim := { program := "ytgciofmpnpimcaa", sum := "781d9dfcddc564a8e944c3669b5609206555a2a498f4b0a54590fae2abb820cf", func := "loop.example/losslessaudio/laws.FnExactAutoCorrelation", spec := "fnExactAutoCorrelation", unfollowed := true, recurses := true, apart := false, narrowed := true }
def FnExactAutoCorrelationUptoSaid : Prop := fnExactAutoCorrelationUptoRow.holds Try.pinned (OpenSpec.upto fnExactAutoCorrelationSpec)

end Rows
end Go.Proofs.Ytgciofmpnpimcaa
