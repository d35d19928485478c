/-
  The draw of what is put: bits and two numbers. For every code. And the laws' comparison of bits.
-/
import Derived.Test.YtcgcippniicaaaaDoorAnyBits
import Derived.Test.YtcgcippniicaaaaDoorSPut
import Derived.Deep.RegionWith
namespace Go.Proofs.YtcgcippniicaaaaDoor
open Go.RowKit

set_option maxHeartbeats 400000 in
theorem equalBits_same (xs : List Int) (ao bo : Option Addr) (len cap cap' : Nat) (c : Int) (w : World) (hx : Ints w ao len xs) (hy : Ints w bo len xs) (hlen : len ≤ 4194304) :
    Calls Tryd.prog 16 #[.agg #[.slice ao len cap, .int .i64 c], .agg #[.slice bo len cap', .int .i64 c]] w fun e w' => e = .returned (.bool true) ∧ w.grownBy w' none := by
  have k1 := equalInts_any xs xs ao bo len cap len cap' true ((w.alloc (.cells #[.slice ao len cap, .int .i64 c] 25)).alloc (.cells #[.slice bo len cap', .int .i64 c] 25))
    (hx.grown (grown_trans (grown_alloc _ _ _) (grown_alloc _ _ _))) (hy.grown (grown_trans (grown_alloc _ _ _) (grown_alloc _ _ _))) (by omega) (by simp)
  clear hx hy
  have hcc : (c == c) = true := by simp
  go_enter Tryd.func16, Tryd.ntmps16
  go_wp2_with fail
  refine k1.mono ?_
  rintro e w1 ⟨rfl, hg⟩
  have HG := Lib.hid (grown_trans (grown_trans (grown_alloc w (.cells #[.slice ao len cap, .int .i64 c] 25) none) (grown_alloc _ _ _)) hg)
  clear k1 hg
  go_wp2
  go_ret
  exact ⟨rfl, HG.out⟩

/-- Drawn bits and two numbers: new memory, and nothing old is written. -/
def DrewPB (w : World) (e : Ending) (w' : World) : Prop :=
  ∃ (ao : Option Addr) (len cap : Nat) (c : Int) (xs : List Int) (x z : Int), e = .returned (.tuple #[.agg #[.slice ao len cap, .int .i64 c], .int .i64 x, .int .i64 z]) ∧ len ≤ 30 ∧ len ≤ cap ∧ (ao = none → cap = 0) ∧ Ints w' ao len xs ∧ w.grownBy w' none

set_option maxRecDepth 100000 in
set_option maxHeartbeats 4000000 in
theorem drawPB_any (ao : Option Addr) (len cap : Nat) (w : World) (hb : BytesAt w ao len) (hlc : len ≤ cap) (hmax : len ≤ 9223372036854775807) :
    Calls Tryd.prog 13 #[.slice ao len cap] w (DrewPB w) := by
  have hbb : BytesAt (w.alloc (.cells #[.slice none 0 0, .int .i64 0] 25)) ao len := by
    rcases hb with hb | ⟨b, off, ha, hc⟩
    · exact Or.inl hb
    · exact Or.inr ⟨b, off, ha, fun i hi => by obtain ⟨u, hu, hcu⟩ := hc i hi; exact ⟨u, hu, (grown_alloc w _ none).cell hcu (by simp)⟩⟩
  have hnew := newReader_any ao len cap (w.alloc (.cells #[.slice none 0 0, .int .i64 0] 25)) hbb hlc hmax
  clear hb hlc hmax hbb
  go_enter Tryd.func13, Tryd.ntmps13
  go_wp2_with fail
  refine hnew.mono ?_
  rintro e w0 ⟨rfl, hR, hg0⟩
  obtain ⟨r, hr⟩ : ∃ r, (w.alloc (.cells #[.slice none 0 0, .int .i64 0] 25)).heap.size = r := ⟨_, rfl⟩
  rw [hr] at hR ⊢
  have hr1 : r = w.heap.size + 1 := by rw [← hr]; simp
  have hm0 := (Mem.start w).block (.cells #[.slice none 0 0, .int .i64 0] 25)
  have HM0 := Lib.hid (hm0.grown hg0)
  have HRR := Lib.hid hr1
  have hrl : r < w0.heap.size := hR.lt
  clear hnew hg0 hr hr1 hm0
  go_wp2_with fail
  refine (anyBits_any r 0 _ hR (by omega)).mono ?_
  rintro e w1 ⟨v1, l1, c1, xs, rfl, hc0, hc1, hl1, ho1, hR1, hg1⟩
  obtain ⟨a1, k1, rfl, hlc1, hn1, hx1, hb1⟩ := ho1.reads
  have hres1 := grown_heap hg1 (HM0.out.get (b := w.heap.size) (o := .cells #[.slice none 0 0, .int .i64 0] 25) (by simp)) (by intro e; injection e with e; have := HRR.out; omega)
  have HS : Hid (Rdr (w1.alloc (.cells #[.slice a1 l1 k1, .int .i64 c1] 25)) r (0 + 40) ∧ w0.grownBy (w1.alloc (.cells #[.slice a1 l1 k1, .int .i64 c1] 25)) (some r) ∧ Ints (w1.alloc (.cells #[.slice a1 l1 k1, .int .i64 c1] 25)) a1 l1 xs ∧ (a1 = none → k1 = 0) ∧ (∀ a, a1 = some a → r < a.block) ∧
      (w1.alloc (.cells #[.slice a1 l1 k1, .int .i64 c1] 25)).heap[w.heap.size]? = some (.cells #[.slice none 0 0, .int .i64 0] 25 (0, 0)) ∧ (w1.alloc (.cells #[.slice a1 l1 k1, .int .i64 c1] 25)).heap[w1.heap.size]? = some (.cells #[.slice a1 l1 k1, .int .i64 c1] 25 (0, 0)) ∧ w0.heap.size ≤ w1.heap.size) :=
    ⟨hR1.alloc _, grown_trans hg1 (grown_alloc _ _ _), hx1.grown (grown_alloc _ _ _), hn1, fun a e => by have := (hb1 a e).1; omega, grown_heap (grown_alloc _ _ none) hres1 (by simp), heap_alloc_new w1 _, hg1.size⟩
  obtain ⟨B, hB⟩ : ∃ B, w1.heap.size = B := ⟨_, rfl⟩
  rw [hB] at HS
  clear hR ho1 hR1 hg1 hn1 hx1 hb1 hres1
  have hsz2 : (w1.alloc (.cells #[.slice a1 l1 k1, .int .i64 c1] 25)).heap.size = B + 1 := by simp [hB]
  go_wp2_with fail
  clear hB
  generalize w1.alloc (.cells #[.slice a1 l1 k1, .int .i64 c1] 25) = w2 at *
  refine (one_at [4, 8, 1, 0, 13, 32, 33, -1] _ r (0 + 40) _ _ w2 hsz2 HS.out.1 (by omega) (by decide) (by decide)).mono ?_
  rintro e w3 ⟨z, _, rfl, hR3, hg3⟩
  have hBr : r < B := by have := HS.out.2.2.2.2.2.2.2; omega
  have HS3 : Hid (Rdr w3 r (0 + 40 + 1) ∧ w0.grownBy w3 (some r) ∧ Ints w3 a1 l1 xs ∧ w3.heap[w.heap.size]? = some (.cells #[.slice none 0 0, .int .i64 0] 25 (0, 0)) ∧ w3.heap[B]? = some (.cells #[.slice a1 l1 k1, .int .i64 c1] 25 (0, 0))) := by
    obtain ⟨h1, h2, h3, h4, h5, h6, h7, h8⟩ := HS.out
    have := HRR.out
    exact ⟨hR3, grown_trans h2 hg3, h3.kept hg3 (fun a e h => by have := h5 a e; injection h with h; omega), grown_heap hg3 h6 (by intro e; injection e with e; omega), grown_heap hg3 h7 (by intro e; injection e with e; omega)⟩
  clear hR3 hg3
  have p0 := (two_cells HS3.out.2.2.2.2).1
  have p1 := (two_cells HS3.out.2.2.2.2).2
  have hlt3 := block_lt HS3.out.2.2.2.1
  have pa : ∀ o, (w3.alloc o).cell? ⟨B, 0, none⟩ = some (.slice a1 l1 k1) := fun o => (World.cell?_of_block (heap_alloc_old _ _ (block_lt_of_cell p0))).trans p0
  have pb : ∀ o, (w3.alloc o).cell? ⟨B, 1, none⟩ = some (.int .i64 c1) := fun o => (World.cell?_of_block (heap_alloc_old _ _ (block_lt_of_cell p1))).trans p1
  go_wp2_with fail
  go_region_with ((go_at_call 33; refine (one_at [0, 1, 5, 15, 200, 255, 4294967295, 4294967296, -1] _ r (0 + 40 + 1) _ _ w3.drew rfl (HS3.out.1.kept (grown_drew _ none) (by simp)) (by omega) (by decide) (by decide)).mono ?_; rintro e w4 ⟨x, _, rfl, hR4, hg4⟩; have hg5 := grown_trans (grown_drew w3 (some r)) hg4; have hres4 := grown_heap hg5 HS3.out.2.2.2.1 (by have := HRR.out; intro e; injection e with e; omega); have hbit4 := grown_heap hg5 HS3.out.2.2.2.2 (by intro e; injection e with e; omega); have t0 := (two_cells hbit4).1; have t1 := (two_cells hbit4).2; have r0 := (two_cells hres4).1; have r1 := (two_cells hres4).2; have f0 := frozen_of_row w4 _ 0 _ _ hres4; have f1 := frozen_of_row w4 _ 1 _ _ hres4; have HG5 := Lib.hid hg5; clear hR4 hg4 hg5 hres4 hbit4))
  all_goals
    have R : Hid (Ints ((w4.setCell ⟨w.heap.size, 0, none⟩ (.slice a1 l1 k1)).setCell ⟨w.heap.size, 1, none⟩ (.int .i64 c1)) a1 l1 xs ∧ w.grownBy ((w4.setCell ⟨w.heap.size, 0, none⟩ (.slice a1 l1 k1)).setCell ⟨w.heap.size, 1, none⟩ (.int .i64 c1)) none ∧ (a1 = none → k1 = 0)) := by
      have hr := HRR.out
      have hz1 := HS.out
      have hgg : w4.grownBy ((w4.setCell ⟨w.heap.size, 0, none⟩ (.slice a1 l1 k1)).setCell ⟨w.heap.size, 1, none⟩ (.int .i64 c1)) (some w.heap.size) := grown_trans (grown_setCell w4 ⟨w.heap.size, 0, none⟩ _) (grown_setCell _ ⟨w.heap.size, 1, none⟩ _)
      refine ⟨?_, ?_, hz1.2.2.2.1⟩
      · exact (HS3.out.2.2.1.kept HG5.out (fun a e h => by have := hz1.2.2.2.2.1 a e; injection h with h; omega)).kept hgg (fun a e h => by have := hz1.2.2.2.2.1 a e; injection h with h; omega)
      · exact grown_set (grown_set (grown_row (grown_row HM0.out.g HS3.out.2.1 (fun g e => by injection e with e; omega)) HG5.out (fun g e => by injection e with e; omega)) (by simp)) (by simp)
    clear HS HS3 HG5 HM0 HRR t0 t1 p0 p1 pa pb
    go_wp2
    refine bodyPost_ret (v := .tuple #[.agg #[.slice a1 l1 k1, .int .i64 c1], .int .i64 x, .int .i64 z]) (by simp [results, Tryd.results13, go_sem, r0, r1]) rfl ⟨a1, l1, k1, c1, xs, x, z, rfl, by omega, hlc1, R.out.2.2, R.out.1, R.out.2.1⟩

end Go.Proofs.YtcgcippniicaaaaDoor
