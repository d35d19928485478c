/-
  The draws of bits that may be wrong: 'anyBits' and what draws with it. For every code.
-/
import Derived.Test.YtdbneenlejgjcaaDoorDrawBits
import Derived.Deep.CutRange
namespace Go.Proofs.YtdbneenlejgjcaaDoor
open Go.RowKit

/-- Inside 'anyBits': the result's cell and the bits so far. -/
structure AB (w : World) (r P B0 : Nat) (bv : Value) (len : Nat) (c : Int) (ys : List Int) (wr : World) : Prop where
  res : wr.heap[w.heap.size]? = some (.cells #[.slice none 0 0, .int .i64 0] 28 (0, 0))
  now : wr.heap[B0]? = some (.cells #[bv, .int .i64 c] 28 (0, 0))
  lo : w.heap.size < B0
  own : Owns wr (w.heap.size + 1) bv len ys
  ne : bv.ownBlock ≠ some B0
  rdr : Rdr wr r P
  g : w.grownBy wr (some r)

/-- What 'anyBits' gives. -/
def DrewW (r P : Nat) (w : World) (e : Ending) (w' : World) : Prop :=
  ∃ (v : Value) (len : Nat) (c : Int) (xs : List Int), e = .returned (.agg #[v, .int .i64 c]) ∧ -1 ≤ c ∧ c ≤ 16385 ∧ len ≤ 30 ∧ Owns w' w.heap.size v len xs ∧ Rdr w' r P ∧ w.grownBy w' (some r)

theorem AB.step {w wr w2 : World} {r P P' B0 len : Nat} {c : Int} {bv : Value} {ys : List Int} (h : AB w r P B0 bv len c ys wr) (hr : r < w.heap.size) (hg : wr.grownBy w2 (some r)) (hR : Rdr w2 r P') : AB w r P' B0 bv len c ys w2 :=
  have := h.lo
  ⟨grown_heap hg h.res (by intro e; injection e with e; omega), grown_heap hg h.now (by intro e; injection e with e; omega), h.lo, h.own.read hg (by omega), h.ne, hR, grown_trans h.g hg⟩
theorem AB.grown {w wr w2 : World} {r P B0 len : Nat} {c : Int} {bv : Value} {ys : List Int} (h : AB w r P B0 bv len c ys wr) (hr : r < w.heap.size) (hg : wr.grownBy w2 none) : AB w r P B0 bv len c ys w2 :=
  h.step hr (grown_any hg _) (h.rdr.kept hg (by simp))
/-- Another row that the call owns is written. -/
theorem AB.row {w wr w2 : World} {r P B0 len : Nat} {c : Int} {bv : Value} {ys : List Int} {row : Option Nat} (h : AB w r P B0 bv len c ys wr) (hr : r < w.heap.size) (hrow : ∀ g, row = some g → w.heap.size < g ∧ g ≠ B0 ∧ bv.ownBlock ≠ some g) (hg : wr.grownBy w2 row) :
    AB w r P B0 bv len c ys w2 := by
  have := h.lo
  refine ⟨grown_heap hg h.res (by intro e; have := hrow _ e; omega), grown_heap hg h.now (by intro e; have := hrow _ e; omega), h.lo, h.own.kept hg ?_, h.ne, h.rdr.kept hg (fun x hx => by have := hrow _ hx; omega), grown_row h.g hg (fun g e => by have := hrow _ e; omega)⟩
  cases hv : bv.ownBlock with
  | none => exact Or.inl rfl
  | some g => right; intro e; exact (hrow g e.symm).2.2 hv
/-- One of the bytes is written. -/
theorem AB.elem {w wr : World} {r P B0 len g cap : Nat} {c : Int} {ys : List Int} (h : AB w r P B0 (.slice (some ⟨g, 0, none⟩) len cap) len c ys wr) (hr : r < w.heap.size) (i : Nat) (x : Int) :
    AB w r P B0 (.slice (some ⟨g, 0, none⟩) len cap) len c (ys.set i x) (wr.setCell ⟨g, i, none⟩ (.int .i64 x)) := by
  have hlo := h.lo
  have hst := World.ownsRow.stored h.own i (.int .i64 x)
  rw [← List.map_set] at hst
  have hg0 : w.heap.size + 1 ≤ g := h.own.block g rfl
  have hne : g ≠ B0 := fun e => h.ne (by rw [e]; rfl)
  exact ⟨grown_heap hst.2 h.res (by intro e; injection e with e; omega), grown_heap hst.2 h.now (by intro e; injection e with e; exact hne e), h.lo, hst.1, h.ne, h.rdr.kept hst.2 (fun x hx => by injection hx with hx; omega), grown_row h.g hst.2 (fun g e => by injection e with e; omega)⟩
theorem AB.facts {w wr : World} {r P B0 len : Nat} {c : Int} {bv : Value} {ys : List Int} (h : AB w r P B0 bv len c ys wr) :
    wr.cell? ⟨B0, 0, none⟩ = some bv ∧ wr.cell? ⟨B0, 1, none⟩ = some (.int .i64 c) ∧ wr.cell? ⟨w.heap.size, 0, none⟩ = some (.slice none 0 0) ∧ wr.cell? ⟨w.heap.size, 1, none⟩ = some (.int .i64 0) ∧
    wr.frozen? ⟨B0, 0, none⟩ = false ∧ wr.frozen? ⟨B0, 1, none⟩ = false ∧ wr.frozen? ⟨w.heap.size, 0, none⟩ = false ∧ wr.frozen? ⟨w.heap.size, 1, none⟩ = false :=
  ⟨by rw [cell_of_row wr _ 0 _ _ _ h.now]; rfl, by rw [cell_of_row wr _ 1 _ _ _ h.now]; rfl, by rw [cell_of_row wr _ 0 _ _ _ h.res]; rfl, by rw [cell_of_row wr _ 1 _ _ _ h.res]; rfl,
   frozen_of_row wr _ 0 _ _ h.now, frozen_of_row wr _ 1 _ _ h.now, frozen_of_row wr _ 0 _ _ h.res, frozen_of_row wr _ 1 _ _ h.res⟩
theorem AB.setc {w wr : World} {r P B0 len : Nat} {c : Int} {bv : Value} {ys : List Int} (h : AB w r P B0 bv len c ys wr) (hr : r < w.heap.size) (x : Int) : AB w r P B0 bv len x ys (wr.setCell ⟨B0, 1, none⟩ (.int .i64 x)) := by
  have hlo := h.lo
  have hgg := grown_setCell wr ⟨B0, 1, none⟩ (.int .i64 x)
  refine ⟨grown_heap hgg h.res (by intro e; injection e with e; simp at e; omega), ?_, h.lo, h.own.set _ _ h.ne, h.ne, h.rdr.kept hgg (fun z hz => by injection hz with hz; simp at hz; omega), grown_row h.g hgg (fun g e => by injection e with e; simp at e; omega)⟩
  rw [heap_setCell_same wr B0 1 _ _ (.int .i64 x) h.now]; rfl
theorem AB.setv {w wr : World} {r P B0 len len' : Nat} {c : Int} {bv bv' : Value} {ys ys' : List Int} (h : AB w r P B0 bv len c ys wr) (hr : r < w.heap.size) (ho : Owns wr (w.heap.size + 1) bv' len' ys') (hne : bv'.ownBlock ≠ some B0) : AB w r P B0 bv' len' c ys' (wr.setCell ⟨B0, 0, none⟩ bv') := by
  have hlo := h.lo
  have hgg := grown_setCell wr ⟨B0, 0, none⟩ bv'
  refine ⟨grown_heap hgg h.res (by intro e; injection e with e; simp at e; omega), ?_, h.lo, ho.set _ _ hne, hne, h.rdr.kept hgg (fun z hz => by injection hz with hz; simp at hz; omega), grown_row h.g hgg (fun g e => by injection e with e; simp at e; omega)⟩
  rw [heap_setCell_same wr B0 0 _ _ bv' h.now]; rfl
theorem AB.done {w wr : World} {r P B0 len : Nat} {c : Int} {bv : Value} {ys : List Int} (h : AB w r P B0 bv len c ys wr) (hr : r < w.heap.size) (h0 : -1 ≤ c) (h1 : c ≤ 16385) (h2 : len ≤ 30) :
    DrewW r P w (.returned (.agg #[bv, .int .i64 c])) ((wr.setCell ⟨w.heap.size, 0, none⟩ bv).setCell ⟨w.heap.size, 1, none⟩ (.int .i64 c)) := by
  have hne : bv.ownBlock ≠ some w.heap.size := fun e => by have := h.own.block _ e; omega
  have hgg : wr.grownBy ((wr.setCell ⟨w.heap.size, 0, none⟩ bv).setCell ⟨w.heap.size, 1, none⟩ (.int .i64 c)) (some w.heap.size) := grown_trans (grown_setCell wr ⟨w.heap.size, 0, none⟩ _) (grown_setCell _ ⟨w.heap.size, 1, none⟩ _)
  exact ⟨bv, len, c, ys, rfl, h0, h1, h2, ((h.own.set _ _ hne).set _ _ hne).base_le (by omega), h.rdr.kept hgg (fun x hx => by injection hx with hx; omega), grown_row h.g hgg (fun g e => by injection e with e; omega)⟩

theorem Owns.cellEx {w : World} {base len g cap i : Nat} {xs : List Int} (h : Owns w base (.slice (some ⟨g, 0, none⟩) len cap) len xs) (hi : i < len) : ∃ y, w.cell? ⟨g, i, none⟩ = some (.int .i64 y) := by
  have hl := h.len_eq
  refine ⟨xs[i]'(by omega), ?_⟩
  rw [World.ownsRow.cellAt h i (by omega), List.getElem?_map, List.getElem?_eq_getElem (by omega)]; rfl

set_option maxRecDepth 100000 in
set_option maxHeartbeats 2000000 in
theorem anyBits_any (r P : Nat) (w : World) (hR : Rdr w r P) (hP : P < 700000) :
    Calls Tryd.prog 43 #[.pointer (some ⟨r, 0, none⟩)] w (DrewW r (P + 40) w) := by
  have hrl := hR.lt
  go_enter Tryd.func43, Tryd.ntmps43
  go_wp2_with fail
  refine (randomBits_any r P (w.alloc (.cells #[.slice none 0 0, .int .i64 0] 28)) (hR.alloc _) (by omega)).mono ?_
  rintro e w1 ⟨v1, c, xs, rfl, hc, ho1, hu1, hR1, hg1⟩
  obtain ⟨a1, c1, rfl, hlc, hnil, hi1, hlt1⟩ := ho1.reads
  have hz1 := hg1.size
  have H1 : Hid (∀ w2, (w1.alloc (.cells #[.slice a1 ((c + 7) / 8) c1, .int .i64 (c : Int)] 28)).grownBy w2 (some r) → ∀ P', Rdr w2 r P' → AB w r P' w1.heap.size (.slice a1 ((c + 7) / 8) c1) ((c + 7) / 8) (c : Int) xs w2) := by
    intro w2 hg2 P' hR2
    have hlo : w.heap.size < w1.heap.size := by simp at hz1; omega
    have hne : (Value.slice a1 ((c + 7) / 8) c1).ownBlock ≠ some w1.heap.size := fun e => by
      have := World.ownsRow.lt ho1 _ e; omega
    have h0 : AB w r (P + 30) w1.heap.size (.slice a1 ((c + 7) / 8) c1) ((c + 7) / 8) (c : Int) xs (w1.alloc (.cells #[.slice a1 ((c + 7) / 8) c1, .int .i64 (c : Int)] 28)) := by
      refine ⟨grown_heap (grown_alloc w1 _ none) (grown_heap hg1 (heap_alloc_new w _) (by intro e; injection e with e; omega)) (by simp), heap_alloc_new w1 _, hlo, (Owns.grown ho1 (grown_alloc _ _ _)).base_le (by simp), hne, hR1.alloc _, grown_trans (grown_trans (grown_alloc w (.cells #[.slice none 0 0, .int .i64 0] 28) _) hg1) (grown_alloc _ _ _)⟩
    exact h0.step hrl hg2 hR2
  have HR1 := Lib.hid hR1
  have HN := Lib.hid hnil
  clear hR ho1 hu1 hR1 hg1 hi1 hlt1 hnil hlc
  go_wp2_with fail
  refine (pick_any 24 r (P + 30) _ (HR1.out.alloc _) (by omega) (by omega)).mono ?_
  rintro e w2 ⟨m, rfl, hm0, hm1, _, hR2, hg2⟩
  have HA : Hid (AB w r (P + 31) w1.heap.size (.slice a1 ((c + 7) / 8) c1) ((c + 7) / 8) (c : Int) xs w2) := H1.out w2 hg2 _ hR2
  have hz2 := hg2.size
  clear H1 HR1 hR2 hg2 hm1
  have hn17 : (c + 7) / 8 ≤ 17 := by omega
  generalize (c + 7) / 8 = n at *
  generalize w1.heap.size = B0 at *
  obtain ⟨q0, q1, -, -, f0, f1, -, -⟩ := HA.out.facts
  by_cases h0 : m = 0
  · subst h0
    go_wp2_with fail
    refine (one_lit [-1, (c : Int) + 1, (c : Int) + 8, 16385] _ r (P + 31) _ w2 HA.out.rdr (by omega) (by simp) (by simp)).mono ?_
    rintro e w3 ⟨x, hx, rfl, hR3, hg3⟩
    have hx0 : -1 ≤ x := by simp at hx; omega
    have hx1 : x ≤ 16385 := by simp at hx; omega
    have HA3 := Lib.hid (HA.out.step hrl hg3 hR3)
    have HB := Lib.hid (HA3.out.setc hrl x)
    clear hx hR3 hg3 q0 q1 f0 f1
    obtain ⟨q0, q1, -, -, f0, f1, -, -⟩ := HA3.out.facts
    clear HA
    go_upto_region 11 with fail
    generalize w3.setCell ⟨B0, 1, none⟩ (.int .i64 x) = W at *
    obtain ⟨q0, q1, r0, r1, f0, f1, f2, f3⟩ := HB.out.facts
    have HF := Lib.hid (HB.out.done hrl (by omega) (by omega) (by omega))
    clear HB
    go_wp2
    exact bodyPost_ret (v := .agg #[.slice a1 n c1, .int .i64 x]) (by simp [results, Tryd.results43, go_sem, r0, r1]) rfl (by have := HF.out; obtain ⟨v, len, c, xs, h1, h2⟩ := this; exact ⟨v, len, c, xs, h1, h2.1, h2.2.1, h2.2.2.1, h2.2.2.2.1, h2.2.2.2.2.1.mono (by omega), h2.2.2.2.2.2⟩)
  have h0' : (m == 0) = false := by simpa using h0
  by_cases h1 : m = 1
  · subst h1
    clear h0 h0'
    go_wp2_with fail
    refine (copyInts_any xs a1 n c1 w2 (ints_of HA.out.own) HN.out (by omega)).mono ?_
    rintro e w3 ⟨v3, rfl, ho3, hg3⟩
    have HA3 := Lib.hid (HA.out.grown hrl hg3)
    go_wp2_with fail
    refine (one_lit [0, 256, -1] _ r (P + 31) _ w3 HA3.out.rdr (by omega) (by simp) (by simp)).mono ?_
    rintro e w4 ⟨x, hx, rfl, hR4, hg4⟩
    have hr2 := HA.out.rdr.lt
    have HA4 := Lib.hid (HA3.out.step hrl hg4 hR4)
    have HO4 := Lib.hid (ho3.read hg4 hr2)
    have hB2 := block_lt HA.out.now
    have hlo2 := HA.out.lo
    have hz4 := Nat.le_trans hg3.size hg4.size
    clear hx hR4 hg4 ho3 hg3 q0 q1 f0 f1
    go_wp2_with (at_builtin; refine append_ints rfl _ _ rfl w2.heap.size v3 n xs rfl (HO4.out.grown (grown_alloc _ _ _)) (some ⟨w4.heap.size, 0, none⟩) 1 1 [x] rfl (ints_one _ _ _) (fun e => nomatch e) ?a1 ?a2 ?_)
    case a1 => omega
    case a2 => simp; omega
    intro v5 w5 hown hgrow
    obtain ⟨a5, c5, rfl, _, _, _, _⟩ := hown.reads
    have HA5 := Lib.hid ((HA4.out.grown hrl (grown_alloc w4 _ none)).row hrl (fun g e => by
      have h1 := HO4.out.block g e
      have h2 := HA.out.lo
      exact ⟨by omega, by omega, fun e2 => by have := World.ownsRow.lt HA.out.own g e2; omega⟩) hgrow)
    have HB := Lib.hid (HA5.out.setv hrl (hown.base_le (by omega)) (fun e => by have := hown.block _ e; omega))
    clear hown hgrow
    obtain ⟨q0, q1, -, -, f0, f1, -, -⟩ := HA5.out.facts
    clear HA3 HA4 HO4
    go_upto_region 11 with fail
    generalize w5.setCell ⟨B0, 0, none⟩ (.slice a5 (n + 1) c5) = W at *
    obtain ⟨q0, q1, r0, r1, f0, f1, f2, f3⟩ := HB.out.facts
    have HF := Lib.hid (HB.out.done hrl (by omega) (by omega) (by omega))
    clear HB
    go_wp2
    exact bodyPost_ret (v := .agg #[.slice a5 (n + 1) c5, .int .i64 (c : Int)]) (by simp [results, Tryd.results43, go_sem, r0, r1]) rfl (by have := HF.out; obtain ⟨v, len, c, xs, h1, h2⟩ := this; exact ⟨v, len, c, xs, h1, h2.1, h2.2.1, h2.2.2.1, h2.2.2.2.1, h2.2.2.2.2.1.mono (by omega), h2.2.2.2.2.2⟩)
  have h1' : (m == 1) = false := by simpa using h1
  have HB := HA
  by_cases h2 : m = 2
  · subst h2
    clear h0 h0' h1 h1'
    by_cases hl0 : n = 0
    · subst hl0
      skip
      go_upto_region 11 with fail
      obtain ⟨q0, q1, r0, r1, f0, f1, f2, f3⟩ := HB.out.facts
      have HF := Lib.hid (HB.out.done hrl (by omega) (by omega) (by omega))
      clear HB
      go_wp2
      exact bodyPost_ret (v := .agg #[.slice a1 0 c1, .int .i64 (c : Int)]) (by simp [results, Tryd.results43, go_sem, r0, r1]) rfl (by have := HF.out; obtain ⟨v, len, c, xs, h1, h2⟩ := this; exact ⟨v, len, c, xs, h1, h2.1, h2.2.1, h2.2.2.1, h2.2.2.2.1, h2.2.2.2.2.1.mono (by omega), h2.2.2.2.2.2⟩)
    · go_wp2_with fail
      rcases HA.out.own.2 with ⟨hv, hv0⟩ | ⟨g, cap, cur, hv, hg, _⟩
      · omega
      injection hv with e1 e2 e3
      subst e1; subst e3
      have i1 : (1 : Int) ≤ (n : Int) := by omega
      have i2 : (n : Int) - 1 < (n : Int) := by omega
      have i3 : ((n : Int) - 1).toNat = n - 1 := by omega
      have qa : ∀ o, (w2.alloc o).cell? ⟨B0, 0, none⟩ = some (.slice (some ⟨g, 0, none⟩) n c1) := fun o => (World.cell?_of_block (heap_alloc_old _ _ (block_lt_of_cell q0))).trans q0
      have i4 : IntKind.i64.wrap ((n : Int) - 1) = (n : Int) - 1 := by
        rw [IntWalk.i64_left]; exact IntWalk.wrap64_in _ (by omega)
      go_region_with ((first
        | (go_at_call 44; refine (one_any (· ∈ [255, 256, -1, 1]) 4 r (P + 31) w2.heap.size 0 4 _ ((HA.out.rdr.alloc _).kept (grown_drew _ none) (by simp)) (by omega) (by omega) (by omega) HA.out.rdr.ne (fun k hk => lit_cells w2 [255, 256, -1, 1] _ k hk)).mono ?_; rintro e w3 ⟨x, hx, rfl, hR3, hg3⟩; have HA3 := Lib.hid (HA.out.step hrl (grown_trans (grown_trans (grown_alloc _ _ _) (grown_drew _ _)) hg3) hR3); have HB3 := Lib.hid (HA3.out.elem hrl (n - 1) x); obtain ⟨q0, q1, -, -, f0, f1, -, -⟩ := HA3.out.facts; obtain ⟨y, hcell⟩ := HA3.out.own.cellEx (i := n - 1) (by omega); have hfz : w3.frozen? ⟨g, n - 1, none⟩ = false := World.ownsRow.frozenAt HA3.out.own (n - 1); clear hR3 hg3 hx)))
      all_goals
        clear HA HB HA3 q0 q1 f0 f1 hcell hfz qa i4 i3 i2 i1
        go_upto_region 11 with fail
        generalize w3.setCell ⟨g, n - 1, none⟩ (.int .i64 x) = W at *
        obtain ⟨q0, q1, r0, r1, f0, f1, f2, f3⟩ := HB3.out.facts
        have HF := Lib.hid (HB3.out.done hrl (by omega) (by omega) (by omega))
        clear HB3
        go_wp2
        exact bodyPost_ret (v := .agg #[.slice (some ⟨g, 0, none⟩) n c1, .int .i64 (c : Int)]) (by simp [results, Tryd.results43, go_sem, r0, r1]) rfl (by have := HF.out; obtain ⟨v, len, c, xs, h1, h2⟩ := this; exact ⟨v, len, c, xs, h1, h2.1, h2.2.1, h2.2.2.1, h2.2.2.2.1, h2.2.2.2.2.1.mono (by omega), h2.2.2.2.2.2⟩)
  · have h2' : (m == 2) = false := by simpa using h2
    clear h0 h1 h2
    skip
    go_upto_region 11 with fail
    obtain ⟨q0, q1, r0, r1, f0, f1, f2, f3⟩ := HB.out.facts
    have HF := Lib.hid (HB.out.done hrl (by omega) (by omega) (by omega))
    clear HB
    go_wp2
    exact bodyPost_ret (v := .agg #[.slice a1 n c1, .int .i64 (c : Int)]) (by simp [results, Tryd.results43, go_sem, r0, r1]) rfl (by have := HF.out; obtain ⟨v, len, c, xs, h1, h2⟩ := this; exact ⟨v, len, c, xs, h1, h2.1, h2.2.1, h2.2.2.1, h2.2.2.2.1, h2.2.2.2.2.1.mono (by omega), h2.2.2.2.2.2⟩)
end Go.Proofs.YtdbneenlejgjcaaDoor
