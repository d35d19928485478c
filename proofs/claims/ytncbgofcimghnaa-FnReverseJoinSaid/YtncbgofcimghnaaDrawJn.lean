/-
  The draw of two audios. For every code.
-/
import Derived.Test.YtncbgofcimghnaaDrawEd
import Derived.Test.YtncbgofcimghnaaQA
import Derived.Test.YtncbgofcimghnaaMatAp
import Derived.Test.YtncbgofcimghnaaSlS
import Derived.Deep.RegionHeld3
import Derived.BigRegion
namespace Go.Proofs.Ytncbgofcimghnaa
open Go.RowKit

/-- Inside the draw: the reader, the places of the results, and both audios; what was there behind the first one's draw is as it was. -/
structure DJ (w wA wr : World) (r P A B : Nat) (OA OB : Obj) : Prop where
  rd : Rdr wr r P
  gr : w.grownBy wr none
  gA : wA.grownBy wr (some r)
  z1 : wr.heap[w.heap.size]? = some (.cells #[.int .i64 0, .int .i64 0, .slice none 0 0] 25)
  z2 : wr.heap[w.heap.size + 1]? = some (.cells #[.int .i64 0, .int .i64 0, .slice none 0 0] 25)
  bA : wr.heap[A]? = some OA
  bB : wr.heap[B]? = some OB
  hr : w.heap.size + 1 < r
  hA : r < A
  hB : A < B
  hw : wA.heap.size ≤ B
theorem DJ.next {w wA wr w2 : World} {r P P2 A B : Nat} {OA OB : Obj} (h : DJ w wA wr r P A B OA OB) (hg : wr.grownBy w2 (some r)) (hR : Rdr w2 r P2) : DJ w wA w2 r P2 A B OA OB := by
  have h1 := h.hr; have h2 := h.hA; have h3 := h.hB
  exact ⟨hR, grown_row h.gr hg (fun g e => by injection e with e; omega), grown_trans h.gA hg, grown_heap hg h.z1 (by simp; omega), grown_heap hg h.z2 (by simp; omega), grown_heap hg h.bA (by simp; omega), grown_heap hg h.bB (by simp; omega), h1, h2, h3, h.hw⟩
theorem DJ.far {w wA wr w2 : World} {r P A B : Nat} {OA OB : Obj} {row : Option Nat} (h : DJ w wA wr r P A B OA OB) (hg : wr.grownBy w2 row) (hf : ∀ g, row = some g → B < g) : DJ w wA w2 r P A B OA OB := by
  have h1 := h.hr; have h2 := h.hA; have h3 := h.hB; have h4 := h.hw
  refine ⟨h.rd.kept hg (fun x e => by have := hf x e; omega), grown_row h.gr hg (fun g e => by have := hf g e; omega), grown_row h.gA hg (fun g e => by have := hf g e; omega), grown_heap hg h.z1 (fun e => by have := hf _ e; omega), grown_heap hg h.z2 (fun e => by have := hf _ e; omega), grown_heap hg h.bA (fun e => by have := hf _ e; omega), grown_heap hg h.bB (fun e => by have := hf _ e; omega), h1, h2, h3, h4⟩
theorem DJ.setB {w wA wr : World} {r P A B : Nat} {OA : Obj} {x y z x' y' z' : Value} (h : DJ w wA wr r P A B OA (.cells #[x, y, z] 25)) : DJ w wA (((wr.setCell ⟨B, 0, none⟩ x').setCell ⟨B, 1, none⟩ y').setCell ⟨B, 2, none⟩ z') r P A B OA (.cells #[x', y', z'] 25) := by
  have h1 := h.hr; have h2 := h.hA; have h3 := h.hB; have h4 := h.hw
  have g : wr.grownBy (((wr.setCell ⟨B, 0, none⟩ x').setCell ⟨B, 1, none⟩ y').setCell ⟨B, 2, none⟩ z') (some B) := grown_trans (grown_trans (grown_setCell wr ⟨B, 0, none⟩ x') (grown_setCell _ ⟨B, 1, none⟩ y')) (grown_setCell _ ⟨B, 2, none⟩ z')
  refine ⟨h.rd.kept g (fun x e => by injection e with e; omega), grown_row h.gr g (fun g e => by injection e with e; omega), grown_row h.gA g (fun g e => by injection e with e; omega), grown_heap g h.z1 (by simp; omega), grown_heap g h.z2 (by simp; omega), grown_heap g h.bA (by simp; omega), heap_st3q h.bB, h1, h2, h3, h4⟩
theorem cell_st3d {w : World} {a : Addr} {v x y z : Value} {B : Nat} (h : w.cell? a = some v) (h1 : a.block ≠ B) : (((w.setCell ⟨B, 0, none⟩ x).setCell ⟨B, 1, none⟩ y).setCell ⟨B, 2, none⟩ z).drew.cell? a = some v := cell_st3q h h1
theorem cell_drq {w : World} {a : Addr} {v : Value} (h : w.cell? a = some v) : w.drew.cell? a = some v := h
/-- What comes out. -/
def JnOut (w : World) (a : Option Addr) (l : Nat) (xss : List (List Int)) (a' : Option Addr) (l' : Nat) (yss : List (List Int)) (w' : World) : Prop := AuOut w a l xss w' ∧ Mat w' a' l' yss ∧ l' ≤ 2 ∧ szL yss ≤ 1000
theorem szL_rows {yss : List (List Int)} {n : Nat} (hl : yss.length ≤ 2) (hr : ∀ ys ∈ yss, ys.length = n) (hn : n ≤ 12) : szL yss ≤ 1000 := by
  match yss, hl, hr with
  | [], _, _ => simp [szL]
  | [xs], _, hr => have := hr xs (by simp); simp [szL]; omega
  | [xs, ys], _, hr => have := hr xs (by simp); have := hr ys (by simp); simp [szL]; omega
  | _ :: _ :: _ :: _, h2, _ => simp at h2

theorem MOwn.matB {w : World} {base n c : Nat} {ao : Option Addr} {xss : List (List Int)} (h : MOwn w base (.slice ao n c) n xss) : MatB w base ao n xss := by
  obtain ⟨hl, vs, h1, h2, h3⟩ := h
  have hvl : vs.length = n := by have := h1.1; simpa using this
  refine ⟨hl, ?_⟩
  have h1' := h1
  rcases h1.2 with ⟨_, hn⟩ | ⟨g, cap, cur, hv, hg, _⟩
  · subst hn; exact Or.inl (List.length_eq_zero_iff.1 hl)
  · injection hv with e _ _
    subst e
    refine Or.inr ⟨g, 0, rfl, hg, fun k xs hx => ?_⟩
    have hk : k < n := by have := (List.getElem?_eq_some_iff.1 hx).1; omega
    have hu : vs[k]? = some vs[k] := List.getElem?_eq_getElem (by omega)
    refine ⟨vs[k], ?_, (h2 k _ xs hu hx).rowB⟩
    rw [Nat.zero_add, World.ownsRow.cellAt h1' k (by omega), hu]
theorem MatB.setq {w : World} {base l b j : Nat} {v : Value} {ao : Option Addr} {xss : List (List Int)} (h : MatB w base ao l xss) (hb : b < base) : MatB (w.setCell ⟨b, j, none⟩ v) base ao l xss :=
  h.kept (grown_setCell w ⟨b, j, none⟩ v) (fun g e => by injection e with e; simp at e; omega)
theorem jn_end {w wA wr : World} {r P A B base base' X Y : Nat} {OA OB : Obj} {a a' : Option Addr} {l l' : Nat} {xss yss : List (List Int)} {x1 x2 x3 y1 y2 y3 : Value} (h : DJ w wA wr r P A B OA OB) (hA : MatB wA base a l xss) (hB : MatB wr base' a' l' yss) (hb : r < base) (hl : l ≤ 2) (hs : szL xss ≤ 1000) (hl' : l' ≤ 2) (hs' : szL yss ≤ 1000)
    (hX : w.heap.size ≤ X) (hY : w.heap.size ≤ Y) (h1 : X < base) (h2 : Y < base) (h3 : X < base') (h4 : Y < base') :
    JnOut w a l xss a' l' yss ((((((wr.setCell ⟨X, 0, none⟩ x1).setCell ⟨X, 1, none⟩ x2).setCell ⟨X, 2, none⟩ x3).setCell ⟨Y, 0, none⟩ y1).setCell ⟨Y, 1, none⟩ y2).setCell ⟨Y, 2, none⟩ y3).drew := by
  have kA := (((((((hA.kept h.gA (fun g e => by injection e with e; omega)).setq (j := 0) (v := x1) h1).setq (j := 1) (v := x2) h1).setq (j := 2) (v := x3) h1).setq (j := 0) (v := y1) h2).setq (j := 1) (v := y2) h2).setq (j := 2) (v := y3) h2).mat.grown (grown_drew _ none)
  have kB := ((((((hB.setq (j := 0) (v := x1) h3).setq (j := 1) (v := x2) h3).setq (j := 2) (v := x3) h3).setq (j := 0) (v := y1) h4).setq (j := 1) (v := y2) h4).setq (j := 2) (v := y3) h4).mat.grown (grown_drew _ none)
  exact ⟨⟨kA, hl, hs, grown_trans (grown_set (grown_set (grown_set (grown_set (grown_set (grown_set h.gr hX) hX) hX) hY) hY) hY) (grown_drew _ none)⟩, kB, hl', hs'⟩

set_option maxRecDepth 100000 in
set_option maxHeartbeats 4000000 in
theorem drawJn_any (ao : Option Addr) (len cap : Nat) (w : World) (hb : BytesAt w ao len) (hlc : len ≤ cap) (hmax : len ≤ 9223372036854775807) :
    Calls Try.prog 21 #[.slice ao len cap] w fun e w' => ∃ (p q : Int) (a : Option Addr) (l c : Nat) (xss : List (List Int)) (p' q' : Int) (a' : Option Addr) (l' c' : Nat) (yss : List (List Int)), e = .returned (.tuple #[.agg #[.int .i64 p, .int .i64 q, .slice a l c], .agg #[.int .i64 p', .int .i64 q', .slice a' l' c']]) ∧ JnOut w a l xss a' l' yss w' := by
  have HZ0 : Hid (((w.alloc (.cells #[.int .i64 0, .int .i64 0, .slice none 0 0] 25)).alloc (.cells #[.int .i64 0, .int .i64 0, .slice none 0 0] 25)).heap[w.heap.size]? = some (.cells #[.int .i64 0, .int .i64 0, .slice none 0 0] 25)) := grown_heap (grown_alloc _ _ none) (heap_alloc_new w _) (by simp)
  have hy0 : ((w.alloc (.cells #[.int .i64 0, .int .i64 0, .slice none 0 0] 25)).alloc (.cells #[.int .i64 0, .int .i64 0, .slice none 0 0] 25)).heap[w.heap.size + 1]? = some (.cells #[.int .i64 0, .int .i64 0, .slice none 0 0] 25) := by have := heap_alloc_new (w.alloc (.cells #[.int .i64 0, .int .i64 0, .slice none 0 0] 25)) (.cells #[.int .i64 0, .int .i64 0, .slice none 0 0] 25); rwa [World.size_alloc] at this
  have HY0 := Lib.hid hy0
  have HG0 : Hid (w.grownBy ((w.alloc (.cells #[.int .i64 0, .int .i64 0, .slice none 0 0] 25)).alloc (.cells #[.int .i64 0, .int .i64 0, .slice none 0 0] 25)) none) := grown_trans (grown_alloc _ _ _) (grown_alloc _ _ _)
  have hb0 : BytesAt ((w.alloc (.cells #[.int .i64 0, .int .i64 0, .slice none 0 0] 25)).alloc (.cells #[.int .i64 0, .int .i64 0, .slice none 0 0] 25)) ao len := bytesAt_alloc (bytesAt_alloc hb _) _
  clear hb
  go_enter Try.func21, Try.ntmps21
  go_wp2_with fail
  refine (newReader_any ao len cap _ hb0 hlc hmax).mono ?_
  rintro e w1 ⟨rfl, hR1, hg1⟩
  have HZ1 := Lib.hid (grown_heap hg1 HZ0.out (by simp))
  have HY1 := Lib.hid (grown_heap hg1 HY0.out (by simp))
  have HG1 := Lib.hid (grown_trans HG0.out hg1)
  have hw1 : ((w.alloc (.cells #[.int .i64 0, .int .i64 0, .slice none 0 0] 25)).alloc (.cells #[.int .i64 0, .int .i64 0, .slice none 0 0] 25)).heap.size = w.heap.size + 1 + 1 := by simp
  rw [hw1] at hR1
  clear hb0 HZ0 HY0 HG0 hg1
  go_wp2_with fail
  refine (anyAudio_any (w.heap.size + 1 + 1) 0 w1 (by simpa using hR1) (by omega)).mono ?_
  rintro e wA ⟨p, q, a, l, c, xss, rfl, hm2, hl2, hs2, hR2, hg2⟩
  have HZ2 := Lib.hid (grown_heap hg2 HZ1.out (fun e => by injection e with e; omega))
  have HY2 := Lib.hid (grown_heap hg2 HY1.out (fun e => by injection e with e; omega))
  have HG2 := Lib.hid (grown_row HG1.out hg2 (fun g e => by injection e with e; omega))
  have hrl1 := hR1.lt
  have HMA := Lib.hid hm2
  have hR3 := hR2.alloc (.cells #[.int .i64 p, .int .i64 q, .slice a l c] 25)
  have hrl := hR2.lt
  clear hR1 HG1 HZ1 HY1 hm2 hg2 hR2
  go_wp2_with fail
  refine (anyAudio_any (w.heap.size + 1 + 1) 130 _ (by simpa using hR3) (by omega)).mono ?_
  rintro e w3 ⟨p', q', a', l', c', yss, rfl, hm4, hl4, hs4, hR4, hg4⟩
  have hgA := grown_trans (grown_any (grown_alloc wA (.cells #[.int .i64 p, .int .i64 q, .slice a l c] 25) none) (some (w.heap.size + 1 + 1))) hg4
  have hkA := grown_heap hg4 (heap_alloc_new wA (.cells #[.int .i64 p, .int .i64 q, .slice a l c] 25)) (by simp; omega)
  have hszA : wA.heap.size < w3.heap.size := block_lt hkA
  have HJ : Hid (DJ w wA (w3.alloc (.cells #[.int .i64 p', .int .i64 q', .slice a' l' c'] 25)) (w.heap.size + 1 + 1) (130 + 130) wA.heap.size w3.heap.size (.cells #[.int .i64 p, .int .i64 q, .slice a l c] 25) (.cells #[.int .i64 p', .int .i64 q', .slice a' l' c'] 25)) :=
    ⟨hR4.alloc _, grown_trans (grown_row HG2.out hgA (fun g e => by injection e with e; omega)) (grown_alloc _ _ _), grown_trans hgA (grown_any (grown_alloc _ _ none) _), grown_heap (grown_alloc _ _ none) (grown_heap hgA HZ2.out (fun e => by injection e with e; omega)) (by simp), grown_heap (grown_alloc _ _ none) (grown_heap hgA HY2.out (fun e => by injection e with e; omega)) (by simp), grown_heap (grown_alloc _ _ none) hkA (by simp), heap_alloc_new _ _, by omega, hrl, hszA, by omega⟩
  have HMB : Hid (MatB (w3.alloc (.cells #[.int .i64 p', .int .i64 q', .slice a' l' c'] 25)) (wA.alloc (.cells #[.int .i64 p, .int .i64 q, .slice a l c] 25)).heap.size a' l' yss) := hm4.kept (grown_alloc w3 (.cells #[.int .i64 p', .int .i64 q', .slice a' l' c'] 25) none) (by simp)
  clear HZ2 HY2 HG2 hR3 hR4 hg4 hm4 hgA hkA
  have hbase : w.heap.size + 1 + 1 < w1.heap.size := hrl1
  have hszB : (wA.alloc (.cells #[.int .i64 p, .int .i64 q, .slice a l c] 25)).heap.size = wA.heap.size + 1 := by simp
  have HZB := Lib.hid hszB
  go_wp2_with fail
  generalize hW4 : w3.alloc (.cells #[.int .i64 p', .int .i64 q', .slice a' l' c'] 25) = w4 at *
  generalize hAe : wA.heap.size = A at *
  generalize hBe : w3.heap.size = B at *
  clear hW4 hszA
  obtain ⟨qa0, qa1, qa2⟩ := three_cells HJ.out.bA
  refine (pick_any 4 (w.heap.size + 1 + 1) 260 w4 (by simpa using HJ.out.rd) (by omega) (by omega)).mono ?_
  rintro e w5 ⟨m, rfl, hm0, _, _, hR5, hg5⟩
  have HJ5 := Lib.hid (HJ.out.next hg5 hR5)
  have HMB5 := Lib.hid (HMB.out.kept hg5 (fun g e => by injection e with e; rw [HZB.out]; omega))
  clear HJ HMB hg5 hR5 qa0 qa1 qa2
  obtain ⟨qa0, qa1, qa2⟩ := three_cells HJ5.out.bA
  by_cases hc : ¬ (0 < m ∧ 0 < l ∧ 4 ≤ q ∧ q ≤ 16)
  · have HF := HJ5
    clear HJ5
    by_cases h1 : 0 < m
    · have b1 : decide (0 < m) = true := by simpa using h1
      by_cases h2 : 0 < l
      · have b2 : decide ((0 : Int) < (l : Int)) = true := by simp; omega
        have b2n : decide (0 < l) = true := by simp; omega
        have b2m : 0 < l := by omega
        by_cases h3 : 4 ≤ q
        · have b3 : decide (4 ≤ q) = true := by simpa using h3
          have b4 : decide (q ≤ 16) = false := by simp; omega
          clear h1 h3 hc hm0
          obtain ⟨qa0, qa1, qa2⟩ := three_cells HF.out.bA
          obtain ⟨qb0, qb1, qb2⟩ := three_cells HF.out.bB
          obtain ⟨z0, z1, z2⟩ := three_cells HF.out.z1
          obtain ⟨y0, y1, y2⟩ := three_cells HF.out.z2
          have fz0 := frozen_of_row _ _ 0 _ _ HF.out.z1
          have fz1 := frozen_of_row _ _ 1 _ _ HF.out.z1
          have fz2 := frozen_of_row _ _ 2 _ _ HF.out.z1
          have fy0 := frozen_of_row _ _ 0 _ _ HF.out.z2
          have fy1 := frozen_of_row _ _ 1 _ _ HF.out.z2
          have fy2 := frozen_of_row _ _ 2 _ _ HF.out.z2
          have hnA : A ≠ w.heap.size := by have := HF.out.hr; have := HF.out.hA; omega
          have hnA1 : A ≠ w.heap.size + 1 := by have := HF.out.hr; have := HF.out.hA; omega
          have hnB : B ≠ w.heap.size := by have := HF.out.hr; have := HF.out.hA; have := HF.out.hB; omega
          have hnB1 : B ≠ w.heap.size + 1 := by have := HF.out.hr; have := HF.out.hA; have := HF.out.hB; omega
          go_wp2_with fail
          go_region_held3 (fun w' => w'.cell? ⟨A, 0, none⟩ = some (.int .i64 p) ∧ w'.cell? ⟨A, 1, none⟩ = some (.int .i64 q) ∧ w'.cell? ⟨A, 2, none⟩ = some (.slice a l c) ∧ w'.cell? ⟨B, 0, none⟩ = some (.int .i64 p') ∧ w'.cell? ⟨B, 1, none⟩ = some (.int .i64 q') ∧ w'.cell? ⟨B, 2, none⟩ = some (.slice a' l' c')) (first | with_reducible exact ⟨cell_drq qa0, cell_drq qa1, cell_drq qa2, cell_drq qb0, cell_drq qb1, cell_drq qb2⟩ | with_reducible exact ⟨cell_st3d qa0 hnA, cell_st3d qa1 hnA, cell_st3d qa2 hnA, cell_st3d qb0 hnB, cell_st3d qb1 hnB, cell_st3d qb2 hnB⟩ | with_reducible exact ⟨cell_st3d qa0 hnA1, cell_st3d qa1 hnA1, cell_st3d qa2 hnA1, cell_st3d qb0 hnB1, cell_st3d qb1 hnB1, cell_st3d qb2 hnB1⟩ | with_reducible exact ⟨cell_st3d (cell_st3q qa0 hnA) hnA1, cell_st3d (cell_st3q qa1 hnA) hnA1, cell_st3d (cell_st3q qa2 hnA) hnA1, cell_st3d (cell_st3q qb0 hnB) hnB1, cell_st3d (cell_st3q qb1 hnB) hnB1, cell_st3d (cell_st3q qb2 hnB) hnB1⟩ | with_reducible exact ⟨cell_st3d (cell_st3q qa0 hnA1) hnA, cell_st3d (cell_st3q qa1 hnA1) hnA, cell_st3d (cell_st3q qa2 hnA1) hnA, cell_st3d (cell_st3q qb0 hnB1) hnB, cell_st3d (cell_st3q qb1 hnB1) hnB, cell_st3d (cell_st3q qb2 hnB1) hnB⟩) ((first | fail))
          all_goals
            go_wp2
            refine bodyPost_ret (v := .tuple #[.agg #[.int .i64 p, .int .i64 q, .slice a l c], .agg #[.int .i64 p', .int .i64 q', .slice a' l' c']]) (by simp [results, Try.results21, go_sem, z0, z1, z2, y0, y1, y2]) rfl ⟨p, q, a, l, c, xss, p', q', a', l', c', yss, rfl, ?_⟩
            have hx1 := HF.out.hr
            have hx2 := HF.out.hA
            have hx3 := HF.out.hB
            have hzb := HZB.out
            exact jn_end HF.out HMA.out HMB5.out (by omega) hl2 hs2 hl4 hs4 (by omega) (by omega) (by omega) (by omega) (by omega) (by omega)
        · have b3 : decide (4 ≤ q) = false := by simp; omega
          clear h1 h3 hc hm0
          obtain ⟨qa0, qa1, qa2⟩ := three_cells HF.out.bA
          obtain ⟨qb0, qb1, qb2⟩ := three_cells HF.out.bB
          obtain ⟨z0, z1, z2⟩ := three_cells HF.out.z1
          obtain ⟨y0, y1, y2⟩ := three_cells HF.out.z2
          have fz0 := frozen_of_row _ _ 0 _ _ HF.out.z1
          have fz1 := frozen_of_row _ _ 1 _ _ HF.out.z1
          have fz2 := frozen_of_row _ _ 2 _ _ HF.out.z1
          have fy0 := frozen_of_row _ _ 0 _ _ HF.out.z2
          have fy1 := frozen_of_row _ _ 1 _ _ HF.out.z2
          have fy2 := frozen_of_row _ _ 2 _ _ HF.out.z2
          have hnA : A ≠ w.heap.size := by have := HF.out.hr; have := HF.out.hA; omega
          have hnA1 : A ≠ w.heap.size + 1 := by have := HF.out.hr; have := HF.out.hA; omega
          have hnB : B ≠ w.heap.size := by have := HF.out.hr; have := HF.out.hA; have := HF.out.hB; omega
          have hnB1 : B ≠ w.heap.size + 1 := by have := HF.out.hr; have := HF.out.hA; have := HF.out.hB; omega
          go_wp2_with fail
          go_region_held3 (fun w' => w'.cell? ⟨A, 0, none⟩ = some (.int .i64 p) ∧ w'.cell? ⟨A, 1, none⟩ = some (.int .i64 q) ∧ w'.cell? ⟨A, 2, none⟩ = some (.slice a l c) ∧ w'.cell? ⟨B, 0, none⟩ = some (.int .i64 p') ∧ w'.cell? ⟨B, 1, none⟩ = some (.int .i64 q') ∧ w'.cell? ⟨B, 2, none⟩ = some (.slice a' l' c')) (first | with_reducible exact ⟨cell_drq qa0, cell_drq qa1, cell_drq qa2, cell_drq qb0, cell_drq qb1, cell_drq qb2⟩ | with_reducible exact ⟨cell_st3d qa0 hnA, cell_st3d qa1 hnA, cell_st3d qa2 hnA, cell_st3d qb0 hnB, cell_st3d qb1 hnB, cell_st3d qb2 hnB⟩ | with_reducible exact ⟨cell_st3d qa0 hnA1, cell_st3d qa1 hnA1, cell_st3d qa2 hnA1, cell_st3d qb0 hnB1, cell_st3d qb1 hnB1, cell_st3d qb2 hnB1⟩ | with_reducible exact ⟨cell_st3d (cell_st3q qa0 hnA) hnA1, cell_st3d (cell_st3q qa1 hnA) hnA1, cell_st3d (cell_st3q qa2 hnA) hnA1, cell_st3d (cell_st3q qb0 hnB) hnB1, cell_st3d (cell_st3q qb1 hnB) hnB1, cell_st3d (cell_st3q qb2 hnB) hnB1⟩ | with_reducible exact ⟨cell_st3d (cell_st3q qa0 hnA1) hnA, cell_st3d (cell_st3q qa1 hnA1) hnA, cell_st3d (cell_st3q qa2 hnA1) hnA, cell_st3d (cell_st3q qb0 hnB1) hnB, cell_st3d (cell_st3q qb1 hnB1) hnB, cell_st3d (cell_st3q qb2 hnB1) hnB⟩) ((first | fail))
          all_goals
            go_wp2
            refine bodyPost_ret (v := .tuple #[.agg #[.int .i64 p, .int .i64 q, .slice a l c], .agg #[.int .i64 p', .int .i64 q', .slice a' l' c']]) (by simp [results, Try.results21, go_sem, z0, z1, z2, y0, y1, y2]) rfl ⟨p, q, a, l, c, xss, p', q', a', l', c', yss, rfl, ?_⟩
            have hx1 := HF.out.hr
            have hx2 := HF.out.hA
            have hx3 := HF.out.hB
            have hzb := HZB.out
            exact jn_end HF.out HMA.out HMB5.out (by omega) hl2 hs2 hl4 hs4 (by omega) (by omega) (by omega) (by omega) (by omega) (by omega)
      · have b2 : decide ((0 : Int) < (l : Int)) = false := by simp; omega
        have b2n : decide (0 < l) = false := by simp; omega
        have b2m : ¬ 0 < l := by omega
        clear h1 hc hm0
        obtain ⟨qa0, qa1, qa2⟩ := three_cells HF.out.bA
        obtain ⟨qb0, qb1, qb2⟩ := three_cells HF.out.bB
        obtain ⟨z0, z1, z2⟩ := three_cells HF.out.z1
        obtain ⟨y0, y1, y2⟩ := three_cells HF.out.z2
        have fz0 := frozen_of_row _ _ 0 _ _ HF.out.z1
        have fz1 := frozen_of_row _ _ 1 _ _ HF.out.z1
        have fz2 := frozen_of_row _ _ 2 _ _ HF.out.z1
        have fy0 := frozen_of_row _ _ 0 _ _ HF.out.z2
        have fy1 := frozen_of_row _ _ 1 _ _ HF.out.z2
        have fy2 := frozen_of_row _ _ 2 _ _ HF.out.z2
        have hnA : A ≠ w.heap.size := by have := HF.out.hr; have := HF.out.hA; omega
        have hnA1 : A ≠ w.heap.size + 1 := by have := HF.out.hr; have := HF.out.hA; omega
        have hnB : B ≠ w.heap.size := by have := HF.out.hr; have := HF.out.hA; have := HF.out.hB; omega
        have hnB1 : B ≠ w.heap.size + 1 := by have := HF.out.hr; have := HF.out.hA; have := HF.out.hB; omega
        go_wp2_with fail
        go_region_held3 (fun w' => w'.cell? ⟨A, 0, none⟩ = some (.int .i64 p) ∧ w'.cell? ⟨A, 1, none⟩ = some (.int .i64 q) ∧ w'.cell? ⟨A, 2, none⟩ = some (.slice a l c) ∧ w'.cell? ⟨B, 0, none⟩ = some (.int .i64 p') ∧ w'.cell? ⟨B, 1, none⟩ = some (.int .i64 q') ∧ w'.cell? ⟨B, 2, none⟩ = some (.slice a' l' c')) (first | with_reducible exact ⟨cell_drq qa0, cell_drq qa1, cell_drq qa2, cell_drq qb0, cell_drq qb1, cell_drq qb2⟩ | with_reducible exact ⟨cell_st3d qa0 hnA, cell_st3d qa1 hnA, cell_st3d qa2 hnA, cell_st3d qb0 hnB, cell_st3d qb1 hnB, cell_st3d qb2 hnB⟩ | with_reducible exact ⟨cell_st3d qa0 hnA1, cell_st3d qa1 hnA1, cell_st3d qa2 hnA1, cell_st3d qb0 hnB1, cell_st3d qb1 hnB1, cell_st3d qb2 hnB1⟩ | with_reducible exact ⟨cell_st3d (cell_st3q qa0 hnA) hnA1, cell_st3d (cell_st3q qa1 hnA) hnA1, cell_st3d (cell_st3q qa2 hnA) hnA1, cell_st3d (cell_st3q qb0 hnB) hnB1, cell_st3d (cell_st3q qb1 hnB) hnB1, cell_st3d (cell_st3q qb2 hnB) hnB1⟩ | with_reducible exact ⟨cell_st3d (cell_st3q qa0 hnA1) hnA, cell_st3d (cell_st3q qa1 hnA1) hnA, cell_st3d (cell_st3q qa2 hnA1) hnA, cell_st3d (cell_st3q qb0 hnB1) hnB, cell_st3d (cell_st3q qb1 hnB1) hnB, cell_st3d (cell_st3q qb2 hnB1) hnB⟩) ((first | fail))
        all_goals
          go_wp2
          refine bodyPost_ret (v := .tuple #[.agg #[.int .i64 p, .int .i64 q, .slice a l c], .agg #[.int .i64 p', .int .i64 q', .slice a' l' c']]) (by simp [results, Try.results21, go_sem, z0, z1, z2, y0, y1, y2]) rfl ⟨p, q, a, l, c, xss, p', q', a', l', c', yss, rfl, ?_⟩
          have hx1 := HF.out.hr
          have hx2 := HF.out.hA
          have hx3 := HF.out.hB
          have hzb := HZB.out
          exact jn_end HF.out HMA.out HMB5.out (by omega) hl2 hs2 hl4 hs4 (by omega) (by omega) (by omega) (by omega) (by omega) (by omega)
    · have b1 : decide (0 < m) = false := by simpa using h1
      clear h1 hc hm0
      obtain ⟨qa0, qa1, qa2⟩ := three_cells HF.out.bA
      obtain ⟨qb0, qb1, qb2⟩ := three_cells HF.out.bB
      obtain ⟨z0, z1, z2⟩ := three_cells HF.out.z1
      obtain ⟨y0, y1, y2⟩ := three_cells HF.out.z2
      have fz0 := frozen_of_row _ _ 0 _ _ HF.out.z1
      have fz1 := frozen_of_row _ _ 1 _ _ HF.out.z1
      have fz2 := frozen_of_row _ _ 2 _ _ HF.out.z1
      have fy0 := frozen_of_row _ _ 0 _ _ HF.out.z2
      have fy1 := frozen_of_row _ _ 1 _ _ HF.out.z2
      have fy2 := frozen_of_row _ _ 2 _ _ HF.out.z2
      have hnA : A ≠ w.heap.size := by have := HF.out.hr; have := HF.out.hA; omega
      have hnA1 : A ≠ w.heap.size + 1 := by have := HF.out.hr; have := HF.out.hA; omega
      have hnB : B ≠ w.heap.size := by have := HF.out.hr; have := HF.out.hA; have := HF.out.hB; omega
      have hnB1 : B ≠ w.heap.size + 1 := by have := HF.out.hr; have := HF.out.hA; have := HF.out.hB; omega
      go_wp2_with fail
      go_region_held3 (fun w' => w'.cell? ⟨A, 0, none⟩ = some (.int .i64 p) ∧ w'.cell? ⟨A, 1, none⟩ = some (.int .i64 q) ∧ w'.cell? ⟨A, 2, none⟩ = some (.slice a l c) ∧ w'.cell? ⟨B, 0, none⟩ = some (.int .i64 p') ∧ w'.cell? ⟨B, 1, none⟩ = some (.int .i64 q') ∧ w'.cell? ⟨B, 2, none⟩ = some (.slice a' l' c')) (first | with_reducible exact ⟨cell_drq qa0, cell_drq qa1, cell_drq qa2, cell_drq qb0, cell_drq qb1, cell_drq qb2⟩ | with_reducible exact ⟨cell_st3d qa0 hnA, cell_st3d qa1 hnA, cell_st3d qa2 hnA, cell_st3d qb0 hnB, cell_st3d qb1 hnB, cell_st3d qb2 hnB⟩ | with_reducible exact ⟨cell_st3d qa0 hnA1, cell_st3d qa1 hnA1, cell_st3d qa2 hnA1, cell_st3d qb0 hnB1, cell_st3d qb1 hnB1, cell_st3d qb2 hnB1⟩ | with_reducible exact ⟨cell_st3d (cell_st3q qa0 hnA) hnA1, cell_st3d (cell_st3q qa1 hnA) hnA1, cell_st3d (cell_st3q qa2 hnA) hnA1, cell_st3d (cell_st3q qb0 hnB) hnB1, cell_st3d (cell_st3q qb1 hnB) hnB1, cell_st3d (cell_st3q qb2 hnB) hnB1⟩ | with_reducible exact ⟨cell_st3d (cell_st3q qa0 hnA1) hnA, cell_st3d (cell_st3q qa1 hnA1) hnA, cell_st3d (cell_st3q qa2 hnA1) hnA, cell_st3d (cell_st3q qb0 hnB1) hnB, cell_st3d (cell_st3q qb1 hnB1) hnB, cell_st3d (cell_st3q qb2 hnB1) hnB⟩) ((first | fail))
      all_goals
        go_wp2
        refine bodyPost_ret (v := .tuple #[.agg #[.int .i64 p, .int .i64 q, .slice a l c], .agg #[.int .i64 p', .int .i64 q', .slice a' l' c']]) (by simp [results, Try.results21, go_sem, z0, z1, z2, y0, y1, y2]) rfl ⟨p, q, a, l, c, xss, p', q', a', l', c', yss, rfl, ?_⟩
        have hx1 := HF.out.hr
        have hx2 := HF.out.hA
        have hx3 := HF.out.hB
        have hzb := HZB.out
        exact jn_end HF.out HMA.out HMB5.out (by omega) hl2 hs2 hl4 hs4 (by omega) (by omega) (by omega) (by omega) (by omega) (by omega)
  replace hc := Classical.not_not.1 hc
  have b1 : decide (0 < m) = true := by simpa using hc.1
  have b2 : decide ((0 : Int) < (l : Int)) = true := by simp; omega
  have b2n : decide (0 < l) = true := by simp; omega
  have b2m : 0 < l := by omega
  have b3 : decide (4 ≤ q) = true := by simpa using hc.2.2.1
  have b4 : decide (q ≤ 16) = true := by simpa using hc.2.2.2
  obtain ⟨k, hk, hk3⟩ : ∃ k : Nat, (k : Int) + 1 = q ∧ k ≤ 15 := ⟨(q - 1).toNat, by omega, by omega⟩
  have HK := Lib.hid hk
  have HR6 := Lib.hid (HJ5.out.rd.alloc (.cells #[] 39))
  have HJ6 := Lib.hid (HJ5.out.far (grown_alloc w5 (.cells #[] 39) none) (by simp))
  have hB5 := block_lt HJ5.out.bB
  have HE6 : Hid (MOwn (w5.alloc (.cells #[] 39)) w5.heap.size (.slice (some ⟨w5.heap.size, 0, none⟩) 0 0) 0 []) := mown_empty w5
  clear hc hm0 hk HJ5 HMB5
  go_wp2_with fail
  refine (pick_any 12 (w.heap.size + 1 + 1) 261 _ (by simpa using HR6.out) (by omega) (by omega)).mono ?_
  rintro e w6 ⟨n, rfl, hn0, hn1, _, hR7, hg7⟩
  obtain ⟨n, rfl⟩ := Int.eq_ofNat_of_zero_le hn0
  have hn12 : n ≤ 12 := by have := hn1 (by omega); omega
  have hs67 : w5.heap.size ≤ w6.heap.size := by have h9 := hg7.size; simp at h9; omega
  have HJ7 := Lib.hid (HJ6.out.next hg7 hR7)
  have HE7 := Lib.hid (HE6.out.kept hg7 (fun g e => by injection e with e; have := HJ6.out.hA; have := HJ6.out.hB; omega))
  clear qa0 qa1 qa2 HR6 HJ6 HE6 hR7 hg7 hn0 hn1
  go_wp2_with fail
  go_loopw [7, 9] (fun vv iv wr => ∃ (i : Nat) (v : Value) (zss : List (List Int)), v = vv ∧ iv = .int .i64 i ∧ i ≤ l ∧ w5.heap.size ≤ wr.heap.size ∧ Hid (DJ w wA wr (w.heap.size + 1 + 1) (262 + 70 * i) A B (.cells #[.int .i64 p, .int .i64 q, .slice a l c] 25) (.cells #[.int .i64 p', .int .i64 q', .slice a' l' c'] 25)) ∧ Hid (MOwn wr w5.heap.size v i zss ∧ ∀ zs ∈ zss, zs.length = n)) (fun _ iv _ => l - (intOf iv).toNat)
  case atStart => exact ⟨0, _, [], rfl, rfl, Nat.zero_le _, hs67, HJ7, HE7.out, by simp⟩
  case round =>
    clear HJ7 HE7
    obtain ⟨i, v, zss, rfl, rfl, hi, hbs, HW, HE⟩ := hrel
    obtain ⟨qa0, qa1, qa2⟩ := three_cells HW.out.bA
    by_cases hlt : i < l
    · have kS := randomSamples_any n k (w.heap.size + 1 + 1) (262 + 70 * i) wr HW.out.rd (by omega) (by omega) (by omega)
      rw [HK.out] at kS
      go_wp2_with fail
      refine kS.mono ?_
      rintro e w7 ⟨u7, zs, rfl, ho7, _, hR8, hg8⟩
      have hzl := ho7.len_eq
      obtain ⟨a7, c7, rfl, _⟩ := ho7.reads
      have HW7 := Lib.hid (HW.out.next hg8 hR8)
      have HG8 := Lib.hid hg8
      have HROW : Hid (Owns w7 wr.heap.size (.slice a7 n c7) zs.length zs) := by show Owns _ _ _ _ _; rw [hzl]; exact ho7
      have hcu : (w7.alloc (.cells #[.slice a7 n c7] 39)).cell? ⟨w7.heap.size, 0, none⟩ = some (.slice a7 n c7) := by rw [cell_of_row _ w7.heap.size 0 _ _ _ (heap_alloc_new w7 _)]; rfl
      have HU := Lib.hid hcu
      have HZL := Lib.hid hzl
      have hrb : w.heap.size + 1 + 1 < w5.heap.size := by have := HW.out.hA; have := HW.out.hB; omega
      clear kS ho7 hg8 hR8 hcu hzl qa0 qa1 qa2
      go_wp2_with (at_builtin; refine append_row rfl _ _ rfl w5.heap.size v i _ rfl HE.out.1 HG8.out (fun g e => by injection e with e; omega) (.slice a7 n c7) _ HROW.out (grown_alloc _ _ _) ⟨w7.heap.size, 0, none⟩ 1 rfl HU.out (by omega) hbs ?_)
      intro v' w8 hown hgrow
      have HE8 : Hid (MOwn w8 w5.heap.size v' (i + 1) (zss ++ [zs]) ∧ ∀ z ∈ zss ++ [zs], z.length = n) := ⟨hown, fun z hz => by
        rcases List.mem_append.1 hz with h | h
        · exact HE.out.2 z h
        · simp at h; subst h; exact HZL.out⟩
      have HW8 : Hid (DJ w wA w8 (w.heap.size + 1 + 1) (262 + 70 * (i + 1)) A B (.cells #[.int .i64 p, .int .i64 q, .slice a l c] 25) (.cells #[.int .i64 p', .int .i64 q', .slice a' l' c'] 25)) := by
        have h9 := (HW7.out.far (grown_alloc w7 (.cells #[.slice a7 n c7] 39) none) (by simp)).far hgrow (fun g e => by have := MOwn.block HE.out.1 g e; omega)
        rwa [show 262 + 70 * i + 70 = 262 + 70 * (i + 1) by omega] at h9
      have hs68 : w5.heap.size ≤ w8.heap.size := by have h9 := hgrow.size; have h8 := HG8.out.size; simp at h9; omega
      clear hown hgrow HW HE HW7 HG8
      go_wp2
      go_roundw
      case rel => exact ⟨i + 1, v', _, rfl, by go_num, by omega, hs68, HW8, HE8⟩
      case measure => simp [intOf]; omega
    · obtain rfl : i = l := by omega
      obtain ⟨qb0, qb1, qb2⟩ := three_cells HW.out.bB
      have fb0 := frozen_of_row _ _ 0 _ _ HW.out.bB
      have fb1 := frozen_of_row _ _ 1 _ _ HW.out.bB
      have fb2 := frozen_of_row _ _ 2 _ _ HW.out.bB
      obtain ⟨a9, c9, rfl, _⟩ := MOwn.reads HE.out.1
      have HF := Lib.hid (HW.out.setB (x' := .int .i64 p) (y' := .int .i64 q) (z' := .slice a9 i c9))
      have hO := ((MOwn.set HE.out.1 ⟨B, 0, none⟩ (.int .i64 p) hB5).set ⟨B, 1, none⟩ (.int .i64 q) hB5).set ⟨B, 2, none⟩ (.slice a9 i c9) hB5
      have HMZ := Lib.hid hO.matB
      have hzl : zss.length ≤ 2 := by rw [HE.out.1.1]; exact hl2
      have hsy : szL zss ≤ 1000 := szL_rows hzl HE.out.2 hn12
      clear hO
      obtain ⟨qa0, qa1, qa2⟩ := three_cells HF.out.bA
      obtain ⟨qb0, qb1, qb2⟩ := three_cells HF.out.bB
      obtain ⟨z0, z1, z2⟩ := three_cells HF.out.z1
      obtain ⟨y0, y1, y2⟩ := three_cells HF.out.z2
      have fz0 := frozen_of_row _ _ 0 _ _ HF.out.z1
      have fz1 := frozen_of_row _ _ 1 _ _ HF.out.z1
      have fz2 := frozen_of_row _ _ 2 _ _ HF.out.z1
      have fy0 := frozen_of_row _ _ 0 _ _ HF.out.z2
      have fy1 := frozen_of_row _ _ 1 _ _ HF.out.z2
      have fy2 := frozen_of_row _ _ 2 _ _ HF.out.z2
      have hnA : A ≠ w.heap.size := by have := HF.out.hr; have := HF.out.hA; omega
      have hnA1 : A ≠ w.heap.size + 1 := by have := HF.out.hr; have := HF.out.hA; omega
      have hnB : B ≠ w.heap.size := by have := HF.out.hr; have := HF.out.hA; have := HF.out.hB; omega
      have hnB1 : B ≠ w.heap.size + 1 := by have := HF.out.hr; have := HF.out.hA; have := HF.out.hB; omega
      go_wp2_with fail
      go_region_held3 (fun w' => w'.cell? ⟨A, 0, none⟩ = some (.int .i64 p) ∧ w'.cell? ⟨A, 1, none⟩ = some (.int .i64 q) ∧ w'.cell? ⟨A, 2, none⟩ = some (.slice a i c) ∧ w'.cell? ⟨B, 0, none⟩ = some (.int .i64 p) ∧ w'.cell? ⟨B, 1, none⟩ = some (.int .i64 q) ∧ w'.cell? ⟨B, 2, none⟩ = some (.slice a9 i c9)) (first | with_reducible exact ⟨cell_drq qa0, cell_drq qa1, cell_drq qa2, cell_drq qb0, cell_drq qb1, cell_drq qb2⟩ | with_reducible exact ⟨cell_st3d qa0 hnA, cell_st3d qa1 hnA, cell_st3d qa2 hnA, cell_st3d qb0 hnB, cell_st3d qb1 hnB, cell_st3d qb2 hnB⟩ | with_reducible exact ⟨cell_st3d qa0 hnA1, cell_st3d qa1 hnA1, cell_st3d qa2 hnA1, cell_st3d qb0 hnB1, cell_st3d qb1 hnB1, cell_st3d qb2 hnB1⟩ | with_reducible exact ⟨cell_st3d (cell_st3q qa0 hnA) hnA1, cell_st3d (cell_st3q qa1 hnA) hnA1, cell_st3d (cell_st3q qa2 hnA) hnA1, cell_st3d (cell_st3q qb0 hnB) hnB1, cell_st3d (cell_st3q qb1 hnB) hnB1, cell_st3d (cell_st3q qb2 hnB) hnB1⟩ | with_reducible exact ⟨cell_st3d (cell_st3q qa0 hnA1) hnA, cell_st3d (cell_st3q qa1 hnA1) hnA, cell_st3d (cell_st3q qa2 hnA1) hnA, cell_st3d (cell_st3q qb0 hnB1) hnB, cell_st3d (cell_st3q qb1 hnB1) hnB, cell_st3d (cell_st3q qb2 hnB1) hnB⟩) ((first | fail))
      all_goals
        go_wp2
        refine bodyPost_ret (v := .tuple #[.agg #[.int .i64 p, .int .i64 q, .slice a i c], .agg #[.int .i64 p, .int .i64 q, .slice a9 i c9]]) (by simp [results, Try.results21, go_sem, z0, z1, z2, y0, y1, y2]) rfl ⟨p, q, a, i, c, xss, p, q, a9, i, c9, zss, rfl, ?_⟩
        have hx1 := HF.out.hr
        have hx2 := HF.out.hA
        have hx3 := HF.out.hB
        have hzb := HZB.out
        exact jn_end HF.out HMA.out HMZ.out (by omega) hl2 hs2 hl2 hsy (by omega) (by omega) (by omega) (by omega) (by omega) (by omega)

end Go.Proofs.Ytncbgofcimghnaa
