/-
  The draws of what is read as unary and Rice codes. For every code.
-/
import Derived.Test.YtdbneenlejgjcaaDoorCoded
import Derived.Test.YtdbneenlejgjcaaDoorLawUna
import Derived.Deep.RegionWith
namespace Go.Proofs.YtdbneenlejgjcaaDoor
open Go.RowKit

/-- What stands while the numbers are drawn. -/
structure GU (w w0 wx : World) (r B P : Nat) (a1 : Option Addr) (l1 k1 : Nat) (c1 : Int) (xs : List Int) : Prop where
  rdr : Rdr wx r P
  g : w0.grownBy wx (some r)
  ints : Ints wx a1 l1 xs
  res : wx.heap[w.heap.size]? = some (.cells #[.slice none 0 0, .int .i64 0] 28 (0, 0))
  bits : wx.heap[B]? = some (.cells #[.slice a1 l1 k1, .int .i64 c1] 28 (0, 0))
theorem GU.step {w w0 wx wy : World} {r B P P' : Nat} {a1 : Option Addr} {l1 k1 : Nat} {c1 : Int} {xs : List Int} (h : GU w w0 wx r B P a1 l1 k1 c1 xs) (hg : wx.grownBy wy (some r)) (hR : Rdr wy r P') (ha : ∀ a, a1 = some a → r < a.block) (h1 : r ≠ w.heap.size) (h2 : r ≠ B) : GU w w0 wy r B P' a1 l1 k1 c1 xs :=
  ⟨hR, grown_trans h.g hg, h.ints.kept hg (fun a e h => by have := ha a e; injection h with h; omega), grown_heap hg h.res (by intro e; injection e with e; omega), grown_heap hg h.bits (by intro e; injection e with e; omega)⟩

/-- Drawn bits and a place: new memory, and nothing old is written. -/
def DrewGU (w : World) (e : Ending) (w' : World) : Prop :=
  ∃ (ao : Option Addr) (len cap : Nat) (c : Int) (xs : List Int) (x : Int), e = .returned (.tuple #[.agg #[.slice ao len cap, .int .i64 c], .int .i64 x]) ∧ len ≤ 30 ∧ len ≤ cap ∧ (ao = none → cap = 0) ∧ Ints w' ao len xs ∧ w.grownBy w' none ∧ ∀ a, ao = some a → w.heap.size ≤ a.block

set_option maxRecDepth 100000 in
set_option maxHeartbeats 4000000 in
theorem drawGU_any (ao : Option Addr) (len cap : Nat) (w : World) (hb : BytesAt w ao len) (hlc : len ≤ cap) (hmax : len ≤ 9223372036854775807) :
    Calls Tryd.prog 21 #[.slice ao len cap] w (DrewGU w) := by
  have hbb : BytesAt (w.alloc (.cells #[.slice none 0 0, .int .i64 0] 28)) ao len := by
    rcases hb with hb | ⟨b, off, ha, hc⟩
    · exact Or.inl hb
    · exact Or.inr ⟨b, off, ha, fun i hi => by obtain ⟨u, hu, hcu⟩ := hc i hi; exact ⟨u, hu, (grown_alloc w _ none).cell hcu (by simp)⟩⟩
  have hnew := newReader_any ao len cap (w.alloc (.cells #[.slice none 0 0, .int .i64 0] 28)) hbb hlc hmax
  clear hb hlc hmax hbb
  go_enter Tryd.func21, Tryd.ntmps21
  go_wp2_with fail
  refine hnew.mono ?_
  rintro e w0 ⟨rfl, hR, hg0⟩
  obtain ⟨r, hr⟩ : ∃ r, (w.alloc (.cells #[.slice none 0 0, .int .i64 0] 28)).heap.size = r := ⟨_, rfl⟩
  rw [hr] at hR ⊢
  have hr1 : r = w.heap.size + 1 := by rw [← hr]; simp
  have hm0 := (Mem.start w).block (.cells #[.slice none 0 0, .int .i64 0] 28)
  have HM0 := Lib.hid (hm0.grown hg0)
  have HRR := Lib.hid hr1
  have hrl : r < w0.heap.size := hR.lt
  clear hnew hg0 hr hr1 hm0
  go_wp2_with fail
  refine (codedBits_any r 0 _ hR (by omega)).mono ?_
  rintro e w1 ⟨v1, l1, c1, xs, rfl, hc0, hc1, hl1, ho1, hR1, hg1⟩
  obtain ⟨a1, k1, rfl, hlc1, hn1, hx1, hb1⟩ := ho1.reads
  have hres1 := grown_heap hg1 (HM0.out.get (b := w.heap.size) (o := .cells #[.slice none 0 0, .int .i64 0] 28) (by simp)) (by intro e; injection e with e; have := HRR.out; omega)
  have HS : Hid (Rdr (w1.alloc (.cells #[.slice a1 l1 k1, .int .i64 c1] 28)) r (0 + 60) ∧ w0.grownBy (w1.alloc (.cells #[.slice a1 l1 k1, .int .i64 c1] 28)) (some r) ∧ Ints (w1.alloc (.cells #[.slice a1 l1 k1, .int .i64 c1] 28)) a1 l1 xs ∧ (a1 = none → k1 = 0) ∧ (∀ a, a1 = some a → r < a.block) ∧
      (w1.alloc (.cells #[.slice a1 l1 k1, .int .i64 c1] 28)).heap[w.heap.size]? = some (.cells #[.slice none 0 0, .int .i64 0] 28 (0, 0)) ∧ (w1.alloc (.cells #[.slice a1 l1 k1, .int .i64 c1] 28)).heap[w1.heap.size]? = some (.cells #[.slice a1 l1 k1, .int .i64 c1] 28 (0, 0)) ∧ w0.heap.size ≤ w1.heap.size) :=
    ⟨hR1.alloc _, grown_trans hg1 (grown_alloc _ _ _), hx1.grown (grown_alloc _ _ _), hn1, fun a e => by have := (hb1 a e).1; omega, grown_heap (grown_alloc _ _ none) hres1 (by simp), heap_alloc_new w1 _, hg1.size⟩
  obtain ⟨B, hB⟩ : ∃ B, w1.heap.size = B := ⟨_, rfl⟩
  rw [hB] at HS
  have HL1 : Hid (l1 ≤ 30 ∧ l1 ≤ k1 ∧ -1 ≤ c1 ∧ c1 ≤ 16385) := ⟨hl1, hlc1, hc0, hc1⟩
  have hsz2 : (w1.alloc (.cells #[.slice a1 l1 k1, .int .i64 c1] 28)).heap.size = B + 1 := by simp [hB]
  clear hR ho1 hR1 hg1 hn1 hx1 hb1 hres1 hl1 hlc1
  go_wp2_with fail
  clear hB
  generalize w1.alloc (.cells #[.slice a1 l1 k1, .int .i64 c1] 28) = w2 at *
  have HK : Hid ((∀ a, a1 = some a → r < a.block) ∧ r ≠ w.heap.size ∧ r ≠ B ∧ (a1 = none → k1 = 0)) := ⟨HS.out.2.2.2.2.1, by have := HRR.out; omega, by have := HS.out.2.2.2.2.2.2.2; omega, HS.out.2.2.2.1⟩
  have HG2 : Hid (GU w w0 w2 r B 60 a1 l1 k1 c1 xs) := ⟨HS.out.1, HS.out.2.1, HS.out.2.2.1, HS.out.2.2.2.2.2.1, HS.out.2.2.2.2.2.2.1⟩
  clear HS
  refine (pick_any 20 r 60 _ HG2.out.rdr (by omega) (by omega)).mono ?_
  rintro e w3 ⟨at0, rfl, _, _, _, hR3, hg3⟩
  have HG3 := Lib.hid (HG2.out.step hg3 hR3 HK.out.1 HK.out.2.1 HK.out.2.2.1)
  clear hR3 hg3
  go_wp2_with fail
  refine (pick_any 16 r 61 _ HG3.out.rdr (by omega) (by omega)).mono ?_
  rintro e w4 ⟨y, rfl, _, _, _, hR4, hg4⟩
  have HG4 := Lib.hid (HG3.out.step hg4 hR4 HK.out.1 HK.out.2.1 HK.out.2.2.1)
  clear hR4 hg4
  have hlt4 := block_lt HG4.out.bits
  by_cases hy : y = 0
  · have p0 := (two_cells HG4.out.bits).1
    have p1 := (two_cells HG4.out.bits).2
    have hy2 : (y == 0) = true := by simp [hy]
    go_wp2_with fail
    refine (one_at [-1, c1, c1 + 1] _ r 62 _ _ w4 rfl HG4.out.rdr (by omega) (by simp) (by simp)).mono ?_
    rintro e w5 ⟨at1, _, rfl, hR5, hg5⟩
    have HG5 := Lib.hid (HG4.out.step hg5 hR5 HK.out.1 HK.out.2.1 HK.out.2.2.1)
    clear hR5 hg5 p0 p1
    have t0 := (two_cells HG5.out.bits).1
    have t1 := (two_cells HG5.out.bits).2
    have r0 := (two_cells HG5.out.res).1
    have r1 := (two_cells HG5.out.res).2
    have f0 := frozen_of_row w5 _ 0 _ _ HG5.out.res
    have f1 := frozen_of_row w5 _ 1 _ _ HG5.out.res
    have R : Hid (Ints ((w5.setCell ⟨w.heap.size, 0, none⟩ (.slice a1 l1 k1)).setCell ⟨w.heap.size, 1, none⟩ (.int .i64 c1)) a1 l1 xs ∧ w.grownBy ((w5.setCell ⟨w.heap.size, 0, none⟩ (.slice a1 l1 k1)).setCell ⟨w.heap.size, 1, none⟩ (.int .i64 c1)) none) := by
      have hr := HRR.out
      have hgg : w5.grownBy ((w5.setCell ⟨w.heap.size, 0, none⟩ (.slice a1 l1 k1)).setCell ⟨w.heap.size, 1, none⟩ (.int .i64 c1)) (some w.heap.size) := grown_trans (grown_setCell w5 ⟨w.heap.size, 0, none⟩ _) (grown_setCell _ ⟨w.heap.size, 1, none⟩ _)
      exact ⟨HG5.out.ints.kept hgg (fun a e h => by have := HK.out.1 a e; injection h with h; omega), grown_set (grown_set (grown_row HM0.out.g HG5.out.g (fun g e => by injection e with e; omega)) (by simp)) (by simp)⟩
    have hlt9 := block_lt HG5.out.res
    have HRQ := HRR
    clear HG5 HM0 HRR
    go_wp2
    exact bodyPost_ret (v := .tuple #[.agg #[.slice a1 l1 k1, .int .i64 c1], .int .i64 at1]) (by simp [results, Tryd.results21, go_sem, r0, r1]) rfl ⟨a1, l1, k1, c1, xs, at1, rfl, HL1.out.1, HL1.out.2.1, HK.out.2.2.2, R.out.1, R.out.2, fun a e => by have := HK.out.1 a e; have := HRQ.out; omega⟩
  · have hy2 : (y == 0) = false := by simp [hy]
    have t0 := (two_cells HG4.out.bits).1
    have t1 := (two_cells HG4.out.bits).2
    have r0 := (two_cells HG4.out.res).1
    have r1 := (two_cells HG4.out.res).2
    have f0 := frozen_of_row w4 _ 0 _ _ HG4.out.res
    have f1 := frozen_of_row w4 _ 1 _ _ HG4.out.res
    have R : Hid (Ints ((w4.setCell ⟨w.heap.size, 0, none⟩ (.slice a1 l1 k1)).setCell ⟨w.heap.size, 1, none⟩ (.int .i64 c1)) a1 l1 xs ∧ w.grownBy ((w4.setCell ⟨w.heap.size, 0, none⟩ (.slice a1 l1 k1)).setCell ⟨w.heap.size, 1, none⟩ (.int .i64 c1)) none) := by
      have hr := HRR.out
      have hgg : w4.grownBy ((w4.setCell ⟨w.heap.size, 0, none⟩ (.slice a1 l1 k1)).setCell ⟨w.heap.size, 1, none⟩ (.int .i64 c1)) (some w.heap.size) := grown_trans (grown_setCell w4 ⟨w.heap.size, 0, none⟩ _) (grown_setCell _ ⟨w.heap.size, 1, none⟩ _)
      exact ⟨HG4.out.ints.kept hgg (fun a e h => by have := HK.out.1 a e; injection h with h; omega), grown_set (grown_set (grown_row HM0.out.g HG4.out.g (fun g e => by injection e with e; omega)) (by simp)) (by simp)⟩
    have hlt9 := block_lt HG4.out.res
    have HRQ := HRR
    clear HG4 HM0 HRR
    go_wp2
    exact bodyPost_ret (v := .tuple #[.agg #[.slice a1 l1 k1, .int .i64 c1], .int .i64 at0]) (by simp [results, Tryd.results21, go_sem, r0, r1]) rfl ⟨a1, l1, k1, c1, xs, at0, rfl, HL1.out.1, HL1.out.2.1, HK.out.2.2.2, R.out.1, R.out.2, fun a e => by have := HK.out.1 a e; have := HRQ.out; omega⟩

/-- Drawn bits, a place and a parameter. -/
def DrewGR (w : World) (e : Ending) (w' : World) : Prop :=
  ∃ (ao : Option Addr) (len cap : Nat) (c : Int) (xs : List Int) (x z : Int), e = .returned (.tuple #[.agg #[.slice ao len cap, .int .i64 c], .int .i64 x, .int .i64 z]) ∧ len ≤ 30 ∧ len ≤ cap ∧ (ao = none → cap = 0) ∧ Ints w' ao len xs ∧ w.grownBy w' none

theorem BytesAt.grown {w w' : World} {ao : Option Addr} {len : Nat} (h : BytesAt w ao len) (hg : w.grownBy w' none) : BytesAt w' ao len := by
  rcases h with h | ⟨b, off, ha, hc⟩
  · exact Or.inl h
  · exact Or.inr ⟨b, off, ha, fun i hi => by obtain ⟨u, hu, hcu⟩ := hc i hi; exact ⟨u, hu, hg.cell hcu (by simp)⟩⟩

set_option maxRecDepth 100000 in
set_option maxHeartbeats 4000000 in
theorem drawGR_any (ao : Option Addr) (len cap : Nat) (w : World) (hb : BytesAt w ao len) (hlc : len ≤ cap) (hmax : len ≤ 9223372036854775807) :
    Calls Tryd.prog 27 #[.slice ao len cap] w (DrewGR w) := by
  have hbb := hb.grown (grown_alloc w (.cells #[.slice none 0 0, .int .i64 0] 28) none)
  have hnew := newReader_any ao len cap (w.alloc (.cells #[.slice none 0 0, .int .i64 0] 28)) hbb hlc hmax
  have HB := Lib.hid (And.intro hb (And.intro hlc hmax))
  clear hb hlc hmax hbb
  go_enter Tryd.func27, Tryd.ntmps27
  go_wp2_with fail
  refine hnew.mono ?_
  rintro e w0 ⟨rfl, hR, hg0⟩
  obtain ⟨r, hr⟩ : ∃ r, (w.alloc (.cells #[.slice none 0 0, .int .i64 0] 28)).heap.size = r := ⟨_, rfl⟩
  rw [hr] at hR ⊢
  have hr1 : r = w.heap.size + 1 := by rw [← hr]; simp
  have HM0 := Lib.hid (((Mem.start w).block (.cells #[.slice none 0 0, .int .i64 0] 28)).grown hg0)
  have HRR := Lib.hid hr1
  have hrl : r < w0.heap.size := hR.lt
  clear hnew hg0 hr hr1
  go_wp2_with fail
  refine (drawGU_any ao len cap _ (HB.out.1.grown HM0.out.g) HB.out.2.1 HB.out.2.2).mono ?_
  rintro e w1 ⟨a1, l1, k1, c1, xs, x, rfl, hl1, hlc1, hn1, hx1, hg1, hlo1⟩
  have HK : Hid ((a1 = none → k1 = 0) ∧ r = w.heap.size + 1) := ⟨hn1, HRR.out⟩
  have HG2 : Hid (Rdr (w1.alloc (.cells #[.slice a1 l1 k1, .int .i64 c1] 28)) r 0 ∧ Mem w (w1.alloc (.cells #[.slice a1 l1 k1, .int .i64 c1] 28)) ([] ++ [(w.heap.size, Obj.cells #[.slice none 0 0, .int .i64 0] 28)] ++ [(w1.heap.size, Obj.cells #[.slice a1 l1 k1, .int .i64 c1] 28)]) ∧ (Ints (w1.alloc (.cells #[.slice a1 l1 k1, .int .i64 c1] 28)) a1 l1 xs ∧ ∀ a, a1 = some a → r < a.block) ∧ r < w1.heap.size) :=
    ⟨(hR.kept hg1 (by simp)).alloc _, (HM0.out.grown hg1).block _, ⟨hx1.grown (grown_alloc _ _ _), fun a e => by have := hlo1 a e; omega⟩, by have := hg1.size; omega⟩
  obtain ⟨Bk, hB⟩ : ∃ Bk, w1.heap.size = Bk := ⟨_, rfl⟩
  rw [hB] at HG2
  clear hR hg1 hn1 hx1 HM0 hlo1
  go_wp2_with fail
  clear hB
  generalize w1.alloc (.cells #[.slice a1 l1 k1, .int .i64 c1] 28) = w3 at *
  have p0 := (two_cells (HG2.out.2.1.get (b := Bk) (o := .cells #[.slice a1 l1 k1, .int .i64 c1] 28) (by simp))).1
  have p1 := (two_cells (HG2.out.2.1.get (b := Bk) (o := .cells #[.slice a1 l1 k1, .int .i64 c1] 28) (by simp))).2
  have hBr : r < Bk := HG2.out.2.2.2
  go_wp2_with fail
  first | (go_region_with ((go_at_call 36; refine (anyRice_any r 0 w3.drew (HG2.out.1.kept (grown_drew _ none) (by simp)) (by omega)).mono ?_; rintro e w4 ⟨z, rfl, _, _, hR4, hg4⟩; have hg5 := grown_trans (grown_drew w3 (some r)) hg4; have hres4 := grown_heap hg5 (HG2.out.2.1.get (b := w.heap.size) (o := .cells #[.slice none 0 0, .int .i64 0] 28) (by simp)) (by have := HK.out.2; intro e; injection e with e; omega); have hbit4 := grown_heap hg5 (HG2.out.2.1.get (b := Bk) (o := .cells #[.slice a1 l1 k1, .int .i64 c1] 28) (by simp)) (by intro e; injection e with e; omega); have t0 := (two_cells hbit4).1; have t1 := (two_cells hbit4).2; have r0 := (two_cells hres4).1; have r1 := (two_cells hres4).2; have f0 := frozen_of_row w4 _ 0 _ _ hres4; have f1 := frozen_of_row w4 _ 1 _ _ hres4; have HG5 := Lib.hid hg5; clear hR4 hg4 hg5 hres4 hbit4))) | fail
  all_goals
    have R : Hid (Ints ((w4.setCell ⟨w.heap.size, 0, none⟩ (.slice a1 l1 k1)).setCell ⟨w.heap.size, 1, none⟩ (.int .i64 c1)) a1 l1 xs ∧ w.grownBy ((w4.setCell ⟨w.heap.size, 0, none⟩ (.slice a1 l1 k1)).setCell ⟨w.heap.size, 1, none⟩ (.int .i64 c1)) none) := by
      have hr := HK.out.2
      have hgg : w4.grownBy ((w4.setCell ⟨w.heap.size, 0, none⟩ (.slice a1 l1 k1)).setCell ⟨w.heap.size, 1, none⟩ (.int .i64 c1)) (some w.heap.size) := grown_trans (grown_setCell w4 ⟨w.heap.size, 0, none⟩ _) (grown_setCell _ ⟨w.heap.size, 1, none⟩ _)
      exact ⟨(HG2.out.2.2.1.1.kept HG5.out (fun a e h => by have := HG2.out.2.2.1.2 a e; injection h with h; omega)).kept hgg (fun a e h => by have := HG2.out.2.2.1.2 a e; injection h with h; omega), grown_set (grown_set (grown_row HG2.out.2.1.g HG5.out (fun g e => by injection e with e; omega)) (by simp)) (by simp)⟩
    have hlt9 := block_lt (HG2.out.2.1.get (b := w.heap.size) (o := .cells #[.slice none 0 0, .int .i64 0] 28) (by simp))
    clear HG2 HG5 t0 t1 p0 p1
    go_wp2
    exact bodyPost_ret (v := .tuple #[.agg #[.slice a1 l1 k1, .int .i64 c1], .int .i64 x, .int .i64 z]) (by simp [results, Tryd.results27, go_sem, r0, r1]) rfl ⟨a1, l1, k1, c1, xs, x, z, rfl, hl1, hlc1, HK.out.1, R.out.1, R.out.2⟩

end Go.Proofs.YtdbneenlejgjcaaDoor
