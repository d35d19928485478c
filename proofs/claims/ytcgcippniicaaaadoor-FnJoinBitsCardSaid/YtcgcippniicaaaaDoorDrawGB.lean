/-
  The draw of what is read: bits, a place and a width. For every code.
-/
import Derived.Test.YtcgcippniicaaaaDoorDrawPB
namespace Go.Proofs.YtcgcippniicaaaaDoor
open Go.RowKit

/-- What stands while the numbers are drawn. -/
structure GB (w w0 wx : World) (r B P : Nat) (a1 : Option Addr) (l1 k1 : Nat) (c1 : Int) (xs : List Int) : Prop where
  rdr : Rdr wx r P
  g : w0.grownBy wx (some r)
  ints : Ints wx a1 l1 xs
  res : wx.heap[w.heap.size]? = some (.cells #[.slice none 0 0, .int .i64 0] 25 (0, 0))
  bits : wx.heap[B]? = some (.cells #[.slice a1 l1 k1, .int .i64 c1] 25 (0, 0))
theorem GB.step {w w0 wx wy : World} {r B P P' : Nat} {a1 : Option Addr} {l1 k1 : Nat} {c1 : Int} {xs : List Int} (h : GB w w0 wx r B P a1 l1 k1 c1 xs) (hg : wx.grownBy wy (some r)) (hR : Rdr wy r P') (ha : ∀ a, a1 = some a → r < a.block) (h1 : r ≠ w.heap.size) (h2 : r ≠ B) : GB w w0 wy r B P' a1 l1 k1 c1 xs :=
  ⟨hR, grown_trans h.g hg, h.ints.kept hg (fun a e h => by have := ha a e; injection h with h; omega), grown_heap hg h.res (by intro e; injection e with e; omega), grown_heap hg h.bits (by intro e; injection e with e; omega)⟩

set_option maxRecDepth 100000 in
set_option maxHeartbeats 4000000 in
theorem drawGB_any (ao : Option Addr) (len cap : Nat) (w : World) (hb : BytesAt w ao len) (hlc : len ≤ cap) (hmax : len ≤ 9223372036854775807) :
    Calls Tryd.prog 18 #[.slice ao len cap] w (DrewPB w) := by
  have hbb : BytesAt (w.alloc (.cells #[.slice none 0 0, .int .i64 0] 25)) ao len := by
    rcases hb with hb | ⟨b, off, ha, hc⟩
    · exact Or.inl hb
    · exact Or.inr ⟨b, off, ha, fun i hi => by obtain ⟨u, hu, hcu⟩ := hc i hi; exact ⟨u, hu, (grown_alloc w _ none).cell hcu (by simp)⟩⟩
  have hnew := newReader_any ao len cap (w.alloc (.cells #[.slice none 0 0, .int .i64 0] 25)) hbb hlc hmax
  clear hb hlc hmax hbb
  go_enter Tryd.func18, Tryd.ntmps18
  go_wp2_with fail
  refine hnew.mono ?_
  rintro e w0 ⟨rfl, hR, hg0⟩
  obtain ⟨r, hr⟩ : ∃ r, (w.alloc (.cells #[.slice none 0 0, .int .i64 0] 25)).heap.size = r := ⟨_, rfl⟩
  rw [hr] at hR ⊢
  have hr1 : r = w.heap.size + 1 := by rw [← hr]; simp
  have hm0 := (Mem.start w).block (.cells #[.slice none 0 0, .int .i64 0] 25)
  have HM0 := Lib.hid (hm0.grown hg0)
  have HRR := Lib.hid hr1
  have hrl : r < w0.heap.size := hR.lt
  clear hnew hg0 hr hr1 hm0
  go_wp2_with fail
  refine (anyBits_any r 0 _ hR (by omega)).mono ?_
  rintro e w1 ⟨v1, l1, c1, xs, rfl, hc0, hc1, hl1, ho1, hR1, hg1⟩
  obtain ⟨a1, k1, rfl, hlc1, hn1, hx1, hb1⟩ := ho1.reads
  have hres1 := grown_heap hg1 (HM0.out.get (b := w.heap.size) (o := .cells #[.slice none 0 0, .int .i64 0] 25) (by simp)) (by intro e; injection e with e; have := HRR.out; omega)
  have HS : Hid (Rdr (w1.alloc (.cells #[.slice a1 l1 k1, .int .i64 c1] 25)) r (0 + 40) ∧ w0.grownBy (w1.alloc (.cells #[.slice a1 l1 k1, .int .i64 c1] 25)) (some r) ∧ Ints (w1.alloc (.cells #[.slice a1 l1 k1, .int .i64 c1] 25)) a1 l1 xs ∧ (a1 = none → k1 = 0) ∧ (∀ a, a1 = some a → r < a.block) ∧
      (w1.alloc (.cells #[.slice a1 l1 k1, .int .i64 c1] 25)).heap[w.heap.size]? = some (.cells #[.slice none 0 0, .int .i64 0] 25 (0, 0)) ∧ (w1.alloc (.cells #[.slice a1 l1 k1, .int .i64 c1] 25)).heap[w1.heap.size]? = some (.cells #[.slice a1 l1 k1, .int .i64 c1] 25 (0, 0)) ∧ w0.heap.size ≤ w1.heap.size) :=
    ⟨hR1.alloc _, grown_trans hg1 (grown_alloc _ _ _), hx1.grown (grown_alloc _ _ _), hn1, fun a e => by have := (hb1 a e).1; omega, grown_heap (grown_alloc _ _ none) hres1 (by simp), heap_alloc_new w1 _, hg1.size⟩
  obtain ⟨B, hB⟩ : ∃ B, w1.heap.size = B := ⟨_, rfl⟩
  rw [hB] at HS
  have HL1 : Hid (l1 ≤ 30 ∧ l1 ≤ k1 ∧ -1 ≤ c1 ∧ c1 ≤ 16385) := ⟨hl1, hlc1, hc0, hc1⟩
  have hsz2 : (w1.alloc (.cells #[.slice a1 l1 k1, .int .i64 c1] 25)).heap.size = B + 1 := by simp [hB]
  clear hR ho1 hR1 hg1 hn1 hx1 hb1 hres1 hl1 hlc1
  go_wp2_with fail
  clear hB
  generalize w1.alloc (.cells #[.slice a1 l1 k1, .int .i64 c1] 25) = w2 at *
  have HK : Hid ((∀ a, a1 = some a → r < a.block) ∧ r ≠ w.heap.size ∧ r ≠ B ∧ (a1 = none → k1 = 0)) := ⟨HS.out.2.2.2.2.1, by have := HRR.out; omega, by have := HS.out.2.2.2.2.2.2.2; omega, HS.out.2.2.2.1⟩
  have HG2 : Hid (GB w w0 w2 r B 40 a1 l1 k1 c1 xs) := ⟨HS.out.1, HS.out.2.1, HS.out.2.2.1, HS.out.2.2.2.2.2.1, HS.out.2.2.2.2.2.2.1⟩
  clear HS
  refine (pick_any 40 r 40 _ HG2.out.rdr (by omega) (by omega)).mono ?_
  rintro e w3 ⟨at0, rfl, _, _, _, hR3, hg3⟩
  have HG3 := Lib.hid (HG2.out.step hg3 hR3 HK.out.1 HK.out.2.1 HK.out.2.2.1)
  clear hR3 hg3
  go_wp2_with fail
  refine (pick_any 16 r 41 _ HG3.out.rdr (by omega) (by omega)).mono ?_
  rintro e w4 ⟨y, rfl, _, _, _, hR4, hg4⟩
  have HG4 := Lib.hid (HG3.out.step hg4 hR4 HK.out.1 HK.out.2.1 HK.out.2.2.1)
  clear hR4 hg4
  have hlt4 := block_lt HG4.out.bits
  by_cases hy : y = 0
  · have p0 := (two_cells HG4.out.bits).1
    have p1 := (two_cells HG4.out.bits).2
    have hy2 : (y == 0) = true := by simp [hy]
    go_wp2_with fail
    refine (one_at [-1, c1, c1 + 1] _ r 42 _ _ w4 rfl HG4.out.rdr (by omega) (by simp) (by simp)).mono ?_
    rintro e w5 ⟨at1, _, rfl, hR5, hg5⟩
    have HG5 := Lib.hid (HG4.out.step hg5 hR5 HK.out.1 HK.out.2.1 HK.out.2.2.1)
    clear hR5 hg5 p0 p1
    have p0 := (two_cells HG5.out.bits).1
    have p1 := (two_cells HG5.out.bits).2
    have pa : ∀ o, (w5.alloc o).cell? ⟨B, 0, none⟩ = some (.slice a1 l1 k1) := fun o => (World.cell?_of_block (heap_alloc_old _ _ (block_lt_of_cell p0))).trans p0
    have pb : ∀ o, (w5.alloc o).cell? ⟨B, 1, none⟩ = some (.int .i64 c1) := fun o => (World.cell?_of_block (heap_alloc_old _ _ (block_lt_of_cell p1))).trans p1
    have hlt6 := block_lt HG5.out.res
    go_wp2_with fail
    go_region_with ((go_at_call 33; refine (one_at [4, 8, 1, 0, 13, 32, 33, -1] _ r 43 _ _ w5.drew rfl (HG5.out.rdr.kept (grown_drew _ none) (by simp)) (by omega) (by decide) (by decide)).mono ?_; rintro e w6 ⟨x, _, rfl, hR6, hg6⟩; have HG6 := Lib.hid (HG5.out.step (grown_trans (grown_drew w5 (some r)) hg6) hR6 HK.out.1 HK.out.2.1 HK.out.2.2.1); have t0 := (two_cells HG6.out.bits).1; have t1 := (two_cells HG6.out.bits).2; have r0 := (two_cells HG6.out.res).1; have r1 := (two_cells HG6.out.res).2; have f0 := frozen_of_row w6 _ 0 _ _ HG6.out.res; have f1 := frozen_of_row w6 _ 1 _ _ HG6.out.res; clear hR6 hg6))
    all_goals
      have R : Hid (Ints ((w6.setCell ⟨w.heap.size, 0, none⟩ (.slice a1 l1 k1)).setCell ⟨w.heap.size, 1, none⟩ (.int .i64 c1)) a1 l1 xs ∧ w.grownBy ((w6.setCell ⟨w.heap.size, 0, none⟩ (.slice a1 l1 k1)).setCell ⟨w.heap.size, 1, none⟩ (.int .i64 c1)) none) := by
        have hr := HRR.out
        have hgg : w6.grownBy ((w6.setCell ⟨w.heap.size, 0, none⟩ (.slice a1 l1 k1)).setCell ⟨w.heap.size, 1, none⟩ (.int .i64 c1)) (some w.heap.size) := grown_trans (grown_setCell w6 ⟨w.heap.size, 0, none⟩ _) (grown_setCell _ ⟨w.heap.size, 1, none⟩ _)
        exact ⟨HG6.out.ints.kept hgg (fun a e h => by have := HK.out.1 a e; injection h with h; omega), grown_set (grown_set (grown_row HM0.out.g HG6.out.g (fun g e => by injection e with e; omega)) (by simp)) (by simp)⟩
      clear HG5 HG6 HM0 HRR t0 t1 p0 p1 pa pb
      go_wp2
      exact bodyPost_ret (v := .tuple #[.agg #[.slice a1 l1 k1, .int .i64 c1], .int .i64 at1, .int .i64 x]) (by simp [results, Tryd.results18, go_sem, r0, r1]) rfl ⟨a1, l1, k1, c1, xs, at1, x, rfl, HL1.out.1, HL1.out.2.1, HK.out.2.2.2, R.out.1, R.out.2⟩
  · have hy2 : (y == 0) = false := by simp [hy]
    have p0 := (two_cells HG4.out.bits).1
    have p1 := (two_cells HG4.out.bits).2
    have pa : ∀ o, (w4.alloc o).cell? ⟨B, 0, none⟩ = some (.slice a1 l1 k1) := fun o => (World.cell?_of_block (heap_alloc_old _ _ (block_lt_of_cell p0))).trans p0
    have pb : ∀ o, (w4.alloc o).cell? ⟨B, 1, none⟩ = some (.int .i64 c1) := fun o => (World.cell?_of_block (heap_alloc_old _ _ (block_lt_of_cell p1))).trans p1
    have hlt5 := block_lt HG4.out.res
    go_wp2_with fail
    go_region_with ((go_at_call 33; refine (one_at [4, 8, 1, 0, 13, 32, 33, -1] _ r 42 _ _ w4.drew rfl (HG4.out.rdr.kept (grown_drew _ none) (by simp)) (by omega) (by decide) (by decide)).mono ?_; rintro e w5 ⟨x, _, rfl, hR5, hg5⟩; have HG5 := Lib.hid (HG4.out.step (grown_trans (grown_drew w4 (some r)) hg5) hR5 HK.out.1 HK.out.2.1 HK.out.2.2.1); have t0 := (two_cells HG5.out.bits).1; have t1 := (two_cells HG5.out.bits).2; have r0 := (two_cells HG5.out.res).1; have r1 := (two_cells HG5.out.res).2; have f0 := frozen_of_row w5 _ 0 _ _ HG5.out.res; have f1 := frozen_of_row w5 _ 1 _ _ HG5.out.res; clear hR5 hg5))
    all_goals
      have R : Hid (Ints ((w5.setCell ⟨w.heap.size, 0, none⟩ (.slice a1 l1 k1)).setCell ⟨w.heap.size, 1, none⟩ (.int .i64 c1)) a1 l1 xs ∧ w.grownBy ((w5.setCell ⟨w.heap.size, 0, none⟩ (.slice a1 l1 k1)).setCell ⟨w.heap.size, 1, none⟩ (.int .i64 c1)) none) := by
        have hr := HRR.out
        have hgg : w5.grownBy ((w5.setCell ⟨w.heap.size, 0, none⟩ (.slice a1 l1 k1)).setCell ⟨w.heap.size, 1, none⟩ (.int .i64 c1)) (some w.heap.size) := grown_trans (grown_setCell w5 ⟨w.heap.size, 0, none⟩ _) (grown_setCell _ ⟨w.heap.size, 1, none⟩ _)
        exact ⟨HG5.out.ints.kept hgg (fun a e h => by have := HK.out.1 a e; injection h with h; omega), grown_set (grown_set (grown_row HM0.out.g HG5.out.g (fun g e => by injection e with e; omega)) (by simp)) (by simp)⟩
      clear HG4 HG5 HM0 HRR t0 t1 p0 p1 pa pb
      go_wp2
      exact bodyPost_ret (v := .tuple #[.agg #[.slice a1 l1 k1, .int .i64 c1], .int .i64 at0, .int .i64 x]) (by simp [results, Tryd.results18, go_sem, r0, r1]) rfl ⟨a1, l1, k1, c1, xs, at0, x, rfl, HL1.out.1, HL1.out.2.1, HK.out.2.2.2, R.out.1, R.out.2⟩

end Go.Proofs.YtcgcippniicaaaaDoor
