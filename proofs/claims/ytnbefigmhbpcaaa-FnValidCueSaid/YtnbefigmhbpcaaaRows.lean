/-
  No cell of these rows narrows 'for every input' (looked for: loops, veiled, ifaces, maps, wideKeys, modest, calm, conditions, laid).
  DERIVED. THE GIVEN ROWS OF THIS SEAT. 6 by the template 'for every input the law returns true; each argument reads behind the call as it read before'; 0 by the template 'total and deterministic' (their statements: YtnbefigmhbpcaaaTotals.lean).
  GIVEN WITH THE SEED: the statements are not yours to turn. If you find one false, say at which input.
  Laid BY PROGRAM, IN A SANDBOX (cutbox-rows.mjs): the forced cells as the released guide's own fill.sh prints them over the translation 2040333dcadd3331… (all of the seat's roots in one cut). By AI agents, Wed Nov 11 2026. No macro, syntax, notation, axiom, sorry.
-/
import Derived.Test.YtnbefigmhbpcaaaChecked
import GoSem.Claim
import GoSem.ClaimJoined
import GoSem.ClaimMapViews
import Derived.JoinedTies
import Derived.KernelRfl
namespace Go.Proofs.Ytnbefigmhbpcaaa
/- THE CELL 'sum', in the pinned program and in every row, IS THE sha256 OF THE DUMP (.gsa) THAT YtnbefigmhbpcaaaProg.lean LOADS. Nothing in Lean hashes anything: it is a label: what it is worth is what the hold of that sum in a sandbox is worth. -/
noncomputable def Try.pinned : Pinned := { name := "ytnbefigmhbpcaaa", sum := "2040333dcadd333198445d05e85c5d6a49de9964dbfbb272c206b1b0da9d7b8c", checked := Try.checked }
namespace Rows
def none {H : Type} : Left H := { results := [], args := [] }

/-- 'laws.FnValidCue': WHATEVER THE INPUT: true; the input reads as it did. -/
def fnValidCueSpec : ChangeSpec := { name := "fnValidCue", fn := fun _ => fun
  | [d] => { results := [.lit (.bool true)], args := [d] }
  | _ => none }
def fnValidCueRow : OpenClaim := { program := "ytnbefigmhbpcaaa", sum := "2040333dcadd333198445d05e85c5d6a49de9964dbfbb272c206b1b0da9d7b8c", func := "loop.example/losslessaudio/laws.FnValidCue", spec := "fnValidCue", apart := false }
def FnValidCueSaid : Prop := fnValidCueRow.holds Try.pinned (OpenSpec.ofChange fnValidCueSpec)

/-- ITS FALSE NEIGHBOUR: 'it returns false'. Refute it at one input. -/
def fnValidCueWrong : ChangeSpec := { name := "fnValidCue", fn := fun _ => fun
  | [d] => { results := [.lit (.bool false)], args := [d] }
  | _ => none }
def FnValidCueWrongFalsely : Prop := fnValidCueRow.holds Try.pinned (OpenSpec.ofChange fnValidCueWrong)

/-- 'laws.FnTrackAt': WHATEVER THE INPUT: true; the input reads as it did. -/
def fnTrackAtSpec : ChangeSpec := { name := "fnTrackAt", fn := fun _ => fun
  | [d] => { results := [.lit (.bool true)], args := [d] }
  | _ => none }
def fnTrackAtRow : OpenClaim := { program := "ytnbefigmhbpcaaa", sum := "2040333dcadd333198445d05e85c5d6a49de9964dbfbb272c206b1b0da9d7b8c", func := "loop.example/losslessaudio/laws.FnTrackAt", spec := "fnTrackAt", unfollowed := true, recurses := true, apart := false }
def FnTrackAtSaid : Prop := fnTrackAtRow.holds Try.pinned (OpenSpec.ofChange fnTrackAtSpec)

/-- ITS FALSE NEIGHBOUR: 'it returns false'. Refute it at one input. -/
def fnTrackAtWrong : ChangeSpec := { name := "fnTrackAt", fn := fun _ => fun
  | [d] => { results := [.lit (.bool false)], args := [d] }
  | _ => none }
def FnTrackAtWrongFalsely : Prop := fnTrackAtRow.holds Try.pinned (OpenSpec.ofChange fnTrackAtWrong)

/-- 'laws.FnTrackRange': WHATEVER THE INPUT: true; the input reads as it did. -/
def fnTrackRangeSpec : ChangeSpec := { name := "fnTrackRange", fn := fun _ => fun
  | [d] => { results := [.lit (.bool true)], args := [d] }
  | _ => none }
def fnTrackRangeRow : OpenClaim := { program := "ytnbefigmhbpcaaa", sum := "2040333dcadd333198445d05e85c5d6a49de9964dbfbb272c206b1b0da9d7b8c", func := "loop.example/losslessaudio/laws.FnTrackRange", spec := "fnTrackRange", unfollowed := true, recurses := true, apart := false }
def FnTrackRangeSaid : Prop := fnTrackRangeRow.holds Try.pinned (OpenSpec.ofChange fnTrackRangeSpec)

/-- ITS FALSE NEIGHBOUR: 'it returns false'. Refute it at one input. -/
def fnTrackRangeWrong : ChangeSpec := { name := "fnTrackRange", fn := fun _ => fun
  | [d] => { results := [.lit (.bool false)], args := [d] }
  | _ => none }
def FnTrackRangeWrongFalsely : Prop := fnTrackRangeRow.holds Try.pinned (OpenSpec.ofChange fnTrackRangeWrong)

/-- 'laws.FnExactValidCue': WHATEVER THE INPUT: true; the input reads as it did. -/
def fnExactValidCueSpec : ChangeSpec := { name := "fnExactValidCue", fn := fun _ => fun
  | [d1, d2] => { results := [.lit (.bool true)], args := [d1, d2] }
  | _ => none }
def fnExactValidCueRow : OpenClaim := { program := "ytnbefigmhbpcaaa", sum := "2040333dcadd333198445d05e85c5d6a49de9964dbfbb272c206b1b0da9d7b8c", func := "loop.example/losslessaudio/laws.FnExactValidCue", spec := "fnExactValidCue", apart := false }
def FnExactValidCueSaid : Prop := fnExactValidCueRow.holds Try.pinned (OpenSpec.ofChange fnExactValidCueSpec)

/-- ITS FALSE NEIGHBOUR: 'it returns false'. Refute it at one input. -/
def fnExactValidCueWrong : ChangeSpec := { name := "fnExactValidCue", fn := fun _ => fun
  | [d1, d2] => { results := [.lit (.bool false)], args := [d1, d2] }
  | _ => none }
def FnExactValidCueWrongFalsely : Prop := fnExactValidCueRow.holds Try.pinned (OpenSpec.ofChange fnExactValidCueWrong)

/-- 'laws.FnExactTrackAt': WHATEVER THE INPUT: true; the input reads as it did. -/
def fnExactTrackAtSpec : ChangeSpec := { name := "fnExactTrackAt", fn := fun _ => fun
  | [d1, d2, d3] => { results := [.lit (.bool true)], args := [d1, d2, d3] }
  | _ => none }
def fnExactTrackAtRow : OpenClaim := { program := "ytnbefigmhbpcaaa", sum := "2040333dcadd333198445d05e85c5d6a49de9964dbfbb272c206b1b0da9d7b8c", func := "loop.example/losslessaudio/laws.FnExactTrackAt", spec := "fnExactTrackAt", unfollowed := true, recurses := true, apart := false }
def FnExactTrackAtSaid : Prop := fnExactTrackAtRow.holds Try.pinned (OpenSpec.ofChange fnExactTrackAtSpec)

/-- ITS FALSE NEIGHBOUR: 'it returns false'. Refute it at one input. -/
def fnExactTrackAtWrong : ChangeSpec := { name := "fnExactTrackAt", fn := fun _ => fun
  | [d1, d2, d3] => { results := [.lit (.bool false)], args := [d1, d2, d3] }
  | _ => none }
def FnExactTrackAtWrongFalsely : Prop := fnExactTrackAtRow.holds Try.pinned (OpenSpec.ofChange fnExactTrackAtWrong)

/-- 'laws.FnExactTrackRange': WHATEVER THE INPUT: true; the input reads as it did. -/
def fnExactTrackRangeSpec : ChangeSpec := { name := "fnExactTrackRange", fn := fun _ => fun
  | [d1, d2, d3] => { results := [.lit (.bool true)], args := [d1, d2, d3] }
  | _ => none }
def fnExactTrackRangeRow : OpenClaim := { program := "ytnbefigmhbpcaaa", sum := "2040333dcadd333198445d05e85c5d6a49de9964dbfbb272c206b1b0da9d7b8c", func := "loop.example/losslessaudio/laws.FnExactTrackRange", spec := "fnExactTrackRange", unfollowed := true, recurses := true, apart := false }
def FnExactTrackRangeSaid : Prop := fnExactTrackRangeRow.holds Try.pinned (OpenSpec.ofChange fnExactTrackRangeSpec)

/-- ITS FALSE NEIGHBOUR: 'it returns false'. Refute it at one input. -/
def fnExactTrackRangeWrong : ChangeSpec := { name := "fnExactTrackRange", fn := fun _ => fun
  | [d1, d2, d3] => { results := [.lit (.bool false)], args := [d1, d2, d3] }
  | _ => none }
def FnExactTrackRangeWrongFalsely : Prop := fnExactTrackRangeRow.holds Try.pinned (OpenSpec.ofChange fnExactTrackRangeWrong)

/- THE SECOND FORM. 'bulk': how many values and letters a reading holds, each counted each time it is reached (what is shared counts as often as it is met; a slice's spare places count too). A statement '..UptoSaid' is the law's where the arguments, and the package variables that the reading takes, are together of bulk at most 1048576: NARROWER than '..Said'. Prove '..Said' where nothing that the law and all that it calls make is longer than what came in: it says more and counts as full. Else prove '..UptoSaid'. A law counts once. -/
mutual
def uptoBulk {H : Type} : DataW H → Nat
  | .lit (.string bytes) => bytes.length + 1
  | .lit _ => 1
  | .nil => 1
  | .ptr d => uptoBulk d + 1
  | .slice elems spare => uptoBulkAll elems + uptoBulkAll spare + 1
  | .agg parts => uptoBulkAll parts + 1
  | .iface _ d => uptoBulk d + 1
  | .map entries => uptoBulkEntries entries + 1
  | .held _ => 1
def uptoBulkAll {H : Type} : List (DataW H) → Nat
  | [] => 0
  | d :: r => uptoBulk d + uptoBulkAll r
def uptoBulkEntries {H : Type} : List (Lit × DataW H) → Nat
  | [] => 0
  | x :: r => uptoBulkEntry x + uptoBulkEntries r
def uptoBulkEntry {H : Type} : Lit × DataW H → Nat
  | (.string bytes, d) => bytes.length + uptoBulk d + 1
  | (_, d) => uptoBulk d + 1
 end
def uptoSmall : (H : Type) → List (DataW H) → Bool := fun _ ds => decide (uptoBulkAll ds ≤ 1048576)
def OpenSpec.upto (s : _root_.Go.ChangeSpec) : _root_.Go.OpenSpec := { _root_.Go.OpenSpec.ofChange s with cond := some uptoSmall }

/-- 'laws.FnValidCue', WHERE WHAT IT READS IS OF BULK AT MOST 1048576: true; the input reads as it did. -/
def fnValidCueUptoRow : OpenClaim := { program := "ytnbefigmhbpcaaa", sum := "2040333dcadd333198445d05e85c5d6a49de9964dbfbb272c206b1b0da9d7b8c", func := "loop.example/losslessaudio/laws.FnValidCue", spec := "fnValidCue", apart := false, narrowed := true }
def FnValidCueUptoSaid : Prop := fnValidCueUptoRow.holds Try.pinned (OpenSpec.upto fnValidCueSpec)

/-- 'laws.FnTrackAt', WHERE WHAT IT READS IS OF BULK AT MOST 1048576: true; the input reads as it did. -/
def fnTrackAtUptoRow : OpenClaim := { program := "ytnbefigmhbpcaaa", sum := "2040333dcadd333198445d05e85c5d6a49de9964dbfbb272c206b1b0da9d7b8c", func := "loop.example/losslessaudio/laws.FnTrackAt", spec := "fnTrackAt", unfollowed := true, recurses := true, apart := false, narrowed := true }
def FnTrackAtUptoSaid : Prop := fnTrackAtUptoRow.holds Try.pinned (OpenSpec.upto fnTrackAtSpec)

/-- 'laws.FnTrackRange', WHERE WHAT IT READS IS OF BULK AT MOST 1048576: true; the input reads as it did. -/
def fnTrackRangeUptoRow : OpenClaim := { program := "ytnbefigmhbpcaaa", sum := "2040333dcadd333198445d05e85c5d6a49de9964dbfbb272c206b1b0da9d7b8c", func := "loop.example/losslessaudio/laws.FnTrackRange", spec := "fnTrackRange", unfollowed := true, recurses := true, apart := false, narrowed := true }
def FnTrackRangeUptoSaid : Prop := fnTrackRangeUptoRow.holds Try.pinned (OpenSpec.upto fnTrackRangeSpec)

/-- 'laws.FnExactValidCue', WHERE WHAT IT READS IS OF BULK AT MOST 1048576: true; the input reads as it did. -/
def fnExactValidCueUptoRow : OpenClaim := { program := "ytnbefigmhbpcaaa", sum := "2040333dcadd333198445d05e85c5d6a49de9964dbfbb272c206b1b0da9d7b8c", func := "loop.example/losslessaudio/laws.FnExactValidCue", spec := "fnExactValidCue", apart := false, narrowed := true }
def FnExactValidCueUptoSaid : Prop := fnExactValidCueUptoRow.holds Try.pinned (OpenSpec.upto fnExactValidCueSpec)

/-- 'laws.FnExactTrackAt', WHERE WHAT IT READS IS OF BULK AT MOST 1048576: true; the input reads as it did. -/
def fnExactTrackAtUptoRow : OpenClaim := { program := "ytnbefigmhbpcaaa", sum := "2040333dcadd333198445d05e85c5d6a49de9964dbfbb272c206b1b0da9d7b8c", func := "loop.example/losslessaudio/laws.FnExactTrackAt", spec := "fnExactTrackAt", unfollowed := true, recurses := true, apart := false, narrowed := true }
def FnExactTrackAtUptoSaid : Prop := fnExactTrackAtUptoRow.holds Try.pinned (OpenSpec.upto fnExactTrackAtSpec)

/-- 'laws.FnExactTrackRange', WHERE WHAT IT READS IS OF BULK AT MOST 1048576: true; the input reads as it did. -/
def fnExactTrackRangeUptoRow : OpenClaim := { program := "ytnbefigmhbpcaaa", sum := "2040333dcadd333198445d05e85c5d6a49de9964dbfbb272c206b1b0da9d7b8c", func := "loop.example/losslessaudio/laws.FnExactTrackRange", spec := "fnExactTrackRange", unfollowed := true, recurses := true, apart := false, narrowed := true }
def FnExactTrackRangeUptoSaid : Prop := fnExactTrackRangeUptoRow.holds Try.pinned (OpenSpec.upto fnExactTrackRangeSpec)

end Rows
end Go.Proofs.Ytnbefigmhbpcaaa
