/-
  From the reading of an argument with lists of lists to what the walks ask. No condition.
-/
import Derived.Test.YtncbgofcimghnaaFrame
import Derived.Test.YtncbgofcimghnaaMatM
import Derived.Deep.Matrix
namespace Go.Proofs.Ytncbgofcimghnaa.FrameM
open Go.ChangeShapes Go.WideShapes Go.RowKit Go.Deep

theorem mat_open {H : Type} {enc : TypeId × Value → H} {P : Program} {w : World} {base : Nat} {held : Bool} {t e q : TypeId} {fuel : Nat} {v : Value} {x : DataW H × List MemPlace} (ht : P.underlying t = some (.slice e)) (he : P.underlying e = some (.slice q)) (hq : P.underlying q = some (.int .i64))
    (ce : P.cellsOf e = 1) (cq : P.cellsOf q = 1) (h : DataW.trod enc P w base (fun _ => true) held fuel t [v] = some x) :
    ∃ (ao : Option Addr) (len cap : Nat) (xss : List (List Int)), v = .slice ao len cap ∧ Mat w ao len xss ∧ len ≤ 9223372036854775807 := by
  rcases open_int_rows ht he hq ce cq h with ⟨hcs, _⟩ | ⟨a, len, cap, A, L, C, Z, hcs, _, hl, hm, _, hr⟩
  · simp only [List.cons.injEq, and_true] at hcs
    exact ⟨none, 0, 0, [], hcs, ⟨rfl, Or.inl rfl⟩, by omega⟩
  · simp only [List.cons.injEq, and_true] at hcs
    have hm' : cap ≤ 9223372036854775807 := by unfold maxLen at hm; omega
    refine ⟨some a, len, cap, (List.range len).map (fun r => (Z r).take (L r)), hcs, ⟨by simp, ?_⟩, by omega⟩
    by_cases h0 : len = 0
    · left; subst h0; rfl
    have hs : a.spot = none := by
      have := Frame.spot_none (hr 0 (by omega)).1
      obtain ⟨b, o, s⟩ := a
      cases s
      · rfl
      · simp [Addr.add] at this
    right
    refine ⟨a.block, a.off, ?_, fun k xs hx => ?_⟩
    · obtain ⟨b, o, s⟩ := a; simp at hs; subst hs; rfl
    · have hk : k < len := by have := (List.getElem?_eq_some_iff.1 hx).1; simpa using this
      rw [List.getElem?_map, List.getElem?_range hk] at hx
      simp only [Option.map_some, Option.some.injEq] at hx
      obtain ⟨hc, h1, h2, h3, h4, h5, h6⟩ := hr k (by omega)
      rw [Frame.add_none hs] at hc
      have hxl : xs.length = L k := by rw [← hx]; simp; omega
      refine ⟨_, hc, A k, C k, by rw [hxl], ?_, by omega, by unfold maxLen at h2; omega, h5⟩
      rw [hxl]
      by_cases hL : L k = 0
      · refine ⟨hxl, Or.inl ?_⟩
        exact List.length_eq_zero_iff.1 (by omega)
      cases hA : A k with
      | none => have := h5 hA; omega
      | some y =>
        obtain ⟨_, h7⟩ := h6 y hA
        have hys : y.spot = none := by
          have := Frame.spot_none (h7 0 (by omega))
          obtain ⟨b, o, s⟩ := y
          cases s
          · rfl
          · simp [Addr.add] at this
        refine ⟨hxl, Or.inr ⟨y.block, y.off, ?_, fun j n hj => ?_⟩⟩
        · obtain ⟨b, o, s⟩ := y; simp at hys; subst hys; rfl
        · have hjl : j < L k := by have := (List.getElem?_eq_some_iff.1 hj).1; omega
          rw [← hx, List.getElem?_take, if_pos hjl] at hj
          have := h7 j (by omega)
          rw [Frame.add_none hys] at this
          rw [this, List.getD_eq_getElem?_getD, hj]; rfl

end Go.Proofs.Ytncbgofcimghnaa.FrameM
