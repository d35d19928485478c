/-
  From the reading of a list of structs of a list and a number to what the walks ask. No condition.
-/
import Derived.Test.YtgiiaijlahjfnaaFrame
import Derived.Test.YtgiiaijlahjfnaaLbX
import Derived.Deep.SlicePairs
import Derived.WalkKit
import Derived.ProofKit
import Derived.OpenShut
import Derived.ChangeOld
import Derived.Below
import Derived.Lib.SmallJoins
import Derived.Deep.Matrix
namespace Go.Proofs.Ytgiiaijlahjfnaa.FrameP
open Go.ChangeShapes Go.WideShapes Go.ChangeAt Go.RowKit Go.Joins Go.Deep

theorem ints_open {H : Type} {enc : TypeId × Value → H} {P : Program} {w : World} {base : Nat} {held : Bool} {q i : TypeId} {fuel : Nat} {v : Value} {x : DataW H × List MemPlace} (hq : P.underlying q = some (.slice i)) (hi : P.underlying i = some (.int .i64)) (ci : P.cellsOf i = 1)
    (h : DataW.trod enc P w base (fun _ => true) held fuel q [v] = some x) : ∃ (ao : Option Addr) (n cap : Nat) (xs : List Int), v = .slice ao n cap ∧ Ints w ao n xs ∧ n ≤ 9223372036854775807 := by
  rcases open_ints hq hi ci h with ⟨hcs, _⟩ | ⟨x, l, c, zs, hcs, _, hl, hm, hz, _, hcell, hwz⟩
  · simp only [List.cons.injEq, and_true] at hcs
    exact ⟨none, 0, 0, [], hcs, ⟨rfl, Or.inl rfl⟩, by omega⟩
  · simp only [List.cons.injEq, and_true] at hcs
    have hr : Frame.IsRow .i64 w (some x) l c zs := .inr ⟨_, rfl, hl, hm, by simpa using hz, hcell, hwz⟩
    exact ⟨some x, l, c, zs.take l, hcs, (Frame.ints_row hr).1, by unfold maxLen at hm; omega⟩

theorem pairs_open {H : Type} {enc : TypeId × Value → H} {P : Program} {w : World} {base : Nat} {held : Bool} {t e q i : TypeId} {f0 f1 : Field} {fuel : Nat} {v : Value} {x : DataW H × List MemPlace} (ht : P.underlying t = some (.slice e)) (he : P.underlying e = some (.struct #[f0, f1])) (ce : P.cellsOf e = 2) (o0 : f0.offset = 0) (o1 : f1.offset = 1) (t0 : f0.type = q) (t1 : f1.type = i)
    (hq : P.underlying q = some (.slice i)) (hi : P.underlying i = some (.int .i64)) (cq : P.cellsOf q = 1) (ci : P.cellsOf i = 1) (h : DataW.trod enc P w base (fun _ => true) held fuel t [v] = some x) :
    ∃ (ao : Option Addr) (len cap : Nat) (ls : List LinV), v = .slice ao len cap ∧ LinsW w ao len ls ∧ len ≤ 9223372036854775807 := by
  subst t0
  subst t1
  rcases open_slice_pairs ht he ce o0 o1 cq ci h with ⟨hcs, _⟩ | ⟨a, len, cap, m, n, V0, V1, D0, D1, P0, P1, hcs, _, hl, hm, hmm, _, hall⟩
  · simp only [List.cons.injEq, and_true] at hcs
    exact ⟨none, 0, 0, [], hcs, ⟨rfl, Or.inl rfl⟩, by omega⟩
  · simp only [List.cons.injEq, and_true] at hcs
    simp only [if_true] at hmm
    subst hmm
    obtain ⟨ls, hls, hp⟩ := list_choose (P := fun k (y : LinV) => w.cell? (a.add (k * 2)) = some (.slice y.ao y.n y.cap) ∧ w.cell? (a.add (k * 2 + 1)) = some (.int .i64 y.sh) ∧ Ints w y.ao y.n y.cs ∧ y.n ≤ 9223372036854775807) len (fun k hk => by
      obtain ⟨c0, c1, r0, r1⟩ := hall k (by omega)
      obtain ⟨ao, n', c, xs, e0, hx, hn⟩ := ints_open hq hi ci r0
      obtain ⟨sh, e1, _, _⟩ := DataW.trod_int hi r1
      simp only [List.cons.injEq, and_true] at e1
      exact ⟨⟨ao, n', c, xs, sh⟩, by rw [c0, e0], by rw [c1, e1], hx, hn⟩)
    refine ⟨some a, len, _, ls, hcs, ⟨hls, ?_⟩, by unfold maxLen at hm; omega⟩
    by_cases h0 : len = 0
    · left; exact List.eq_nil_of_length_eq_zero (by omega)
    have hs : a.spot = none := by
      have := Frame.spot_none (hall 0 (by omega)).1
      obtain ⟨b, o, s⟩ := a
      cases s
      · rfl
      · simp [Addr.add] at this
    right
    refine ⟨a.block, a.off, ?_, fun k l hlk => ?_⟩
    · obtain ⟨b, o, s⟩ := a; simp at hs; subst hs; rfl
    · obtain ⟨h1, h2, h3, h4⟩ := hp k l hlk
      rw [Frame.add_none hs] at h1 h2
      exact ⟨h1, h2, h3, h4⟩

end Go.Proofs.Ytgiiaijlahjfnaa.FrameP
