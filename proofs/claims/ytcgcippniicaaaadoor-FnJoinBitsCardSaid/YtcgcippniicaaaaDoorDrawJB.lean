/-
  The draw of two bits. For every code.
-/
import Derived.Test.YtcgcippniicaaaaDoorDrawPB
namespace Go.Proofs.YtcgcippniicaaaaDoor
open Go.RowKit

/-- What stands while the second bits are drawn. -/
structure JD (w w0 wx : World) (r B P : Nat) (a1 : Option Addr) (l1 k1 : Nat) (c1 : Int) (xs : List Int) : Prop where
  rdr : Rdr wx r P
  g : w0.grownBy wx (some r)
  ints : Ints wx a1 l1 xs
  res : wx.heap[w.heap.size]? = some (.cells #[.slice none 0 0, .int .i64 0] 25 (0, 0))
  res2 : wx.heap[w.heap.size + 1]? = some (.cells #[.slice none 0 0, .int .i64 0] 25 (0, 0))
  bits : wx.heap[B]? = some (.cells #[.slice a1 l1 k1, .int .i64 c1] 25 (0, 0))
theorem JD.step {w w0 wx wy : World} {r B P P' : Nat} {a1 : Option Addr} {l1 k1 : Nat} {c1 : Int} {xs : List Int} (h : JD w w0 wx r B P a1 l1 k1 c1 xs) (hg : wx.grownBy wy (some r)) (hR : Rdr wy r P') (ha : ∀ a, a1 = some a → r < a.block) (h1 : r = w.heap.size + 2) (h2 : r ≠ B) : JD w w0 wy r B P' a1 l1 k1 c1 xs :=
  ⟨hR, grown_trans h.g hg, h.ints.kept hg (fun a e h => by have := ha a e; injection h with h; omega), grown_heap hg h.res (by intro e; injection e with e; omega), grown_heap hg h.res2 (by intro e; injection e with e; omega), grown_heap hg h.bits (by intro e; injection e with e; omega)⟩

/-- Two drawn bits: new memory, and nothing old is written. -/
def DrewJB (w : World) (e : Ending) (w' : World) : Prop :=
  ∃ (ao bo : Option Addr) (la ca lb cb_ : Nat) (c d : Int) (xs ys : List Int), e = .returned (.tuple #[.agg #[.slice ao la ca, .int .i64 c], .agg #[.slice bo lb cb_, .int .i64 d]]) ∧ la ≤ 30 ∧ lb ≤ 30 ∧ (ao = none → ca = 0) ∧ (bo = none → cb_ = 0) ∧ Ints w' ao la xs ∧ Ints w' bo lb ys ∧ w.grownBy w' none

set_option maxRecDepth 100000 in
set_option maxHeartbeats 4000000 in
theorem drawJB_any (ao : Option Addr) (len cap : Nat) (w : World) (hb : BytesAt w ao len) (hlc : len ≤ cap) (hmax : len ≤ 9223372036854775807) :
    Calls Tryd.prog 20 #[.slice ao len cap] w (DrewJB w) := by
  have hbb : BytesAt ((w.alloc (.cells #[.slice none 0 0, .int .i64 0] 25)).alloc (.cells #[.slice none 0 0, .int .i64 0] 25)) ao len := by
    rcases hb with hb | ⟨b, off, ha, hc⟩
    · exact Or.inl hb
    · exact Or.inr ⟨b, off, ha, fun i hi => by obtain ⟨u, hu, hcu⟩ := hc i hi; exact ⟨u, hu, (grown_trans (grown_alloc w (.cells #[.slice none 0 0, .int .i64 0] 25) none) (grown_alloc _ _ none)).cell hcu (by simp)⟩⟩
  have hnew := newReader_any ao len cap ((w.alloc (.cells #[.slice none 0 0, .int .i64 0] 25)).alloc (.cells #[.slice none 0 0, .int .i64 0] 25)) hbb hlc hmax
  clear hb hlc hmax hbb
  go_enter Tryd.func20, Tryd.ntmps20
  go_wp2_with fail
  refine hnew.mono ?_
  rintro e w0 ⟨rfl, hR, hg0⟩
  obtain ⟨r, hr⟩ : ∃ r, ((w.alloc (.cells #[.slice none 0 0, .int .i64 0] 25)).alloc (.cells #[.slice none 0 0, .int .i64 0] 25)).heap.size = r := ⟨_, rfl⟩
  rw [hr] at hR ⊢
  have hr1 : r = w.heap.size + 2 := by rw [← hr]; simp
  have hm0 := ((Mem.start w).block (.cells #[.slice none 0 0, .int .i64 0] 25)).block (.cells #[.slice none 0 0, .int .i64 0] 25)
  have HM0 := Lib.hid (hm0.grown hg0)
  have HRR := Lib.hid hr1
  have hrl : r < w0.heap.size := hR.lt
  clear hnew hg0 hr hr1 hm0
  go_wp2_with fail
  refine (anyBits_any r 0 _ hR (by omega)).mono ?_
  rintro e w1 ⟨v1, l1, c1, xs, rfl, _, _, hl1, ho1, hR1, hg1⟩
  obtain ⟨a1, k1, rfl, hlc1, hn1, hx1, hb1⟩ := ho1.reads
  have hres1 := grown_heap hg1 (HM0.out.get (b := w.heap.size) (o := (.cells #[.slice none 0 0, .int .i64 0] 25)) (by simp)) (by intro e; injection e with e; have := HRR.out; omega)
  have hres2 := grown_heap hg1 (HM0.out.get (b := w.heap.size + 1) (o := (.cells #[.slice none 0 0, .int .i64 0] 25)) (by simp)) (by intro e; injection e with e; have := HRR.out; omega)
  obtain ⟨Bk, hB⟩ : ∃ Bk, w1.heap.size = Bk := ⟨_, rfl⟩
  have HS : Hid (JD w w0 (w1.alloc (.cells #[.slice a1 l1 k1, .int .i64 c1] 25)) r Bk 40 a1 l1 k1 c1 xs) :=
    ⟨hR1.alloc _, grown_trans hg1 (grown_alloc _ _ _), hx1.grown (grown_alloc _ _ _), grown_heap (grown_alloc _ _ none) hres1 (by simp), grown_heap (grown_alloc _ _ none) hres2 (by simp), by rw [← hB]; exact heap_alloc_new w1 _⟩
  have HK : Hid ((∀ a, a1 = some a → r < a.block) ∧ r = w.heap.size + 2 ∧ r ≠ Bk ∧ (a1 = none → k1 = 0) ∧ w0.heap.size ≤ Bk) := ⟨fun a e => by have := (hb1 a e).1; omega, HRR.out, by have := hg1.size; omega, hn1, by rw [← hB]; exact hg1.size⟩
  clear hR ho1 hR1 hg1 hn1 hx1 hb1 hres1 hres2
  go_wp2_with fail
  clear hB
  generalize w1.alloc (.cells #[.slice a1 l1 k1, .int .i64 c1] 25) = w2 at *
  have p0 := (two_cells HS.out.bits).1
  have p1 := (two_cells HS.out.bits).2
  have hb2 := block_lt HS.out.bits
  first | (go_region_with ((first
    | (go_at_call 32; refine (anyBits_any r 40 w2.drew (HS.out.rdr.kept (grown_drew _ none) (by simp)) (by omega)).mono ?_; rintro e w4 ⟨v4, l4, c4, ys, rfl, _, _, hl4, ho4, hR4, hg4⟩; obtain ⟨a4, k4, rfl, hlc4, hn4, hx4, hb4⟩ := ho4.reads; have HT := Lib.hid (HS.out.step (grown_trans (grown_drew w2 (some r)) hg4) hR4 HK.out.1 HK.out.2.1 HK.out.2.2.1); have HN4 := Lib.hid (And.intro hn4 (And.intro hx4 hb4)); have t0 := (two_cells HT.out.bits).1; have t1 := (two_cells HT.out.bits).2; have r0 := (two_cells HT.out.res).1; have r1 := (two_cells HT.out.res).2; have f0 := frozen_of_row w4 _ 0 _ _ HT.out.res; have f1 := frozen_of_row w4 _ 1 _ _ HT.out.res; have s0 := (two_cells HT.out.res2).1; have s1 := (two_cells HT.out.res2).2; have g0 := frozen_of_row w4 _ 0 _ _ HT.out.res2; have g1 := frozen_of_row w4 _ 1 _ _ HT.out.res2; clear ho4 hR4 hg4 hn4 hx4 hb4)))) | fail
  all_goals
    have R : Hid (Ints (((((w4.setCell ⟨w.heap.size, 0, none⟩ (.slice a1 l1 k1)).setCell ⟨w.heap.size, 1, none⟩ (.int .i64 c1)).setCell ⟨w.heap.size + 1, 0, none⟩ (.slice a4 l4 k4)).setCell ⟨w.heap.size + 1, 1, none⟩ (.int .i64 c4))) a1 l1 xs ∧ Ints (((((w4.setCell ⟨w.heap.size, 0, none⟩ (.slice a1 l1 k1)).setCell ⟨w.heap.size, 1, none⟩ (.int .i64 c1)).setCell ⟨w.heap.size + 1, 0, none⟩ (.slice a4 l4 k4)).setCell ⟨w.heap.size + 1, 1, none⟩ (.int .i64 c4))) a4 l4 ys ∧ w.grownBy (((((w4.setCell ⟨w.heap.size, 0, none⟩ (.slice a1 l1 k1)).setCell ⟨w.heap.size, 1, none⟩ (.int .i64 c1)).setCell ⟨w.heap.size + 1, 0, none⟩ (.slice a4 l4 k4)).setCell ⟨w.heap.size + 1, 1, none⟩ (.int .i64 c4))) none) := by
      have hr := HRR.out
      have hk := HK.out
      have g1 : w4.grownBy (((w4.setCell ⟨w.heap.size, 0, none⟩ (.slice a1 l1 k1)).setCell ⟨w.heap.size, 1, none⟩ (.int .i64 c1))) (some w.heap.size) := grown_trans (grown_setCell w4 ⟨w.heap.size, 0, none⟩ _) (grown_setCell _ ⟨w.heap.size, 1, none⟩ _)
      have g2 : (((w4.setCell ⟨w.heap.size, 0, none⟩ (.slice a1 l1 k1)).setCell ⟨w.heap.size, 1, none⟩ (.int .i64 c1))).grownBy (((((w4.setCell ⟨w.heap.size, 0, none⟩ (.slice a1 l1 k1)).setCell ⟨w.heap.size, 1, none⟩ (.int .i64 c1)).setCell ⟨w.heap.size + 1, 0, none⟩ (.slice a4 l4 k4)).setCell ⟨w.heap.size + 1, 1, none⟩ (.int .i64 c4))) (some (w.heap.size + 1)) := grown_trans (grown_setCell _ ⟨w.heap.size + 1, 0, none⟩ _) (grown_setCell _ ⟨w.heap.size + 1, 1, none⟩ _)
      refine ⟨(HT.out.ints.kept g1 (fun a e h => by have := hk.1 a e; injection h with h; omega)).kept g2 (fun a e h => by have := hk.1 a e; injection h with h; omega), (HN4.out.2.1.kept g1 (fun a e h => by have := (HN4.out.2.2 a e).1; injection h with h; simp at this; omega)).kept g2 (fun a e h => by have := (HN4.out.2.2 a e).1; injection h with h; simp at this; omega), ?_⟩
      exact grown_set (grown_set (grown_set (grown_set (grown_row HM0.out.g HT.out.g (fun g e => by injection e with e; omega)) (by simp)) (by simp)) (by simp)) (by simp)
    have HN1 := HK.out.2.2.2.1
    have HN2 := HN4.out.1
    have HN1 := Lib.hid HN1
    have HN2 := Lib.hid HN2
    clear HT HM0 HRR HK HN4 t0 t1 p0 p1
    go_wp2
    exact bodyPost_ret (v := .tuple #[.agg #[.slice a1 l1 k1, .int .i64 c1], .agg #[.slice a4 l4 k4, .int .i64 c4]]) (by simp [results, Tryd.results20, go_sem, r0, r1, s0, s1]) rfl ⟨a1, a4, l1, k1, l4, k4, c1, c4, xs, ys, rfl, by omega, by omega, HN1.out, HN2.out, R.out.1, R.out.2.1, R.out.2.2⟩

end Go.Proofs.YtcgcippniicaaaaDoor
