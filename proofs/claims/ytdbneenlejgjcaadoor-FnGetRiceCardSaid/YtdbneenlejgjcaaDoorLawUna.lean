/-
  The walk of the law on numbers put in unary form: it returns true and writes nothing that was there. For every code.
-/
import Derived.Test.YtdbneenlejgjcaaDoorAnyBits
import Derived.Test.YtdbneenlejgjcaaDoorUna2
import Derived.Test.YtdbneenlejgjcaaDoorGuna
import Derived.Deep.RegionWith
namespace Go.Proofs.YtdbneenlejgjcaaDoor
open Go.RowKit

structure ErrsUG (w : World) : Prop where
  num : ErrAt w 0
  bits : ErrAt w 3
  room : ErrAt w 1
  fin : ErrAt w 2
theorem ErrsUG.grown {w w' : World} (h : ErrsUG w) (hg : w.grownBy w' none) : ErrsUG w' := ⟨h.num.grown hg, h.bits.grown hg, h.room.grown hg, h.fin.grown hg⟩
theorem ErrsUG.p {w : World} (h : ErrsUG w) : ErrsU w := ⟨h.num, h.bits, h.room⟩
theorem ErrsUG.q {w : World} (h : ErrsUG w) : ErrsG w := ⟨h.num, h.bits, h.fin⟩

theorem una_one (bs : List Bool) (n : Nat) (hn : n ≤ 500) : OneAt (bs ++ una n) bs.length n := by
  have get : ∀ j, (bs ++ una n)[bs.length + j]? = (una n)[j]? := fun j => by rw [List.getElem?_append_right (by omega), show bs.length + j - bs.length = j by omega]
  refine ⟨hn, by rw [List.length_append, una_len]; omega, ?_, ?_⟩
  · unfold cb
    rw [List.getD_eq_getElem?_getD, get n]
    unfold una
    rw [List.getElem?_append_right (by rw [numB_len]; omega), numB_len, Nat.sub_self]
    decide
  · intro j hj
    unfold cb
    rw [List.getD_eq_getElem?_getD, get j]
    unfold una
    rw [List.getElem?_append_left (by rw [numB_len]; omega), numB_get hj]
    simp

theorem iGuna_good (bs : List Bool) (m at_ k : Nat) (hm : bs.length = m) (hk : OneAt bs at_ k) (ao : Option Addr) (len cap : Nat) (w : World) (hx : Ints w ao len (pk bs)) (hb : bs.length ≤ 16384) (hat : at_ ≤ m) (hE : ErrsG w) :
    Calls Tryd.prog 20 #[.agg #[.slice ao len cap, .int .i64 (m : Int)], .int .i64 (at_ : Int)] w (GotNNB (k : Int) ((at_ : Int) + (k : Int) + 1) true w) := by
  subst hm
  have _ := hE
  exact iGuna_by _ _ _ _ true ao len cap w (fun w1 hg => by
      have h := read_good_guna bs bs.length at_ (at_ + k + 1) (k : Int) rfl ao len cap w1 (hx.grown hg) hb hat (fun w2 w3 B hg2 hR => getUnary_good bs at_ k w2 w3 B ao len cap _ rfl (hx.grown (grown_trans hg hg2)) hR hb hk)
      rw [show ((at_ + k + 1 : Nat) : Int) = (at_ : Int) + (k : Int) + 1 by omega] at h
      exact h)

set_option maxHeartbeats 400000 in
theorem equalBits_same (xs : List Int) (ao bo : Option Addr) (len cap cap' : Nat) (c : Int) (w : World) (hx : Ints w ao len xs) (hy : Ints w bo len xs) (hlen : len ≤ 4194304) :
    Calls Tryd.prog 19 #[.agg #[.slice ao len cap, .int .i64 c], .agg #[.slice bo len cap', .int .i64 c]] w fun e w' => e = .returned (.bool true) ∧ w.grownBy w' none := by
  have k1 := equalInts_any xs xs ao bo len cap len cap' true ((w.alloc (.cells #[.slice ao len cap, .int .i64 c] 28)).alloc (.cells #[.slice bo len cap', .int .i64 c] 28))
    (hx.grown (grown_trans (grown_alloc _ _ _) (grown_alloc _ _ _))) (hy.grown (grown_trans (grown_alloc _ _ _) (grown_alloc _ _ _))) (by omega) (by simp)
  clear hx hy
  have hcc : (c == c) = true := by simp
  go_enter Tryd.func19, Tryd.ntmps19
  go_wp2_with fail
  refine k1.mono ?_
  rintro e w1 ⟨rfl, hg⟩
  have HG := Lib.hid (grown_trans (grown_trans (grown_alloc w (.cells #[.slice ao len cap, .int .i64 c] 28) none) (grown_alloc _ _ _)) hg)
  clear k1 hg
  go_wp2
  go_ret
  exact ⟨rfl, HG.out⟩


theorem una_both2 (xs : List Int) (c x : Int) (len : Nat) (hlen : len ≤ 4194304) : ∃ o : Option (List Bool), (∀ bs, o = some bs → bs.length ≤ 16384) ∧
    Hid (∀ (ao : Option Addr) (cap : Nat) (w : World), Ints w ao len xs → (ao = none → cap = 0) → Calls Tryd.prog 18 #[.agg #[.slice ao len cap, .int .i64 c], .int .i64 x] w (GaveU o w)) ∧
    Hid (∀ (ao : Option Addr) (cap : Nat) (w : World), Ints w ao len xs → (ao = none → cap = 0) → ErrsU w → Calls Tryd.prog 17 #[.agg #[.slice ao len cap, .int .i64 c], .int .i64 x] w (GaveU o w)) ∧
    Hid (∀ rs, o = some rs → ∃ (bs : List Bool) (v : Nat), xs = pk bs ∧ c = (bs.length : Int) ∧ x = (v : Int) ∧ v ≤ 500 ∧ bs.length + v + 1 ≤ 16384 ∧ rs = bs ++ una v) := by
  cases hv : VB xs c with
  | false =>
    exact ⟨none, by simp, fun ao cap w hx hn => sUna_inv xs c x ao len cap w hx hlen hv, fun ao cap w hx hn hE => iUna_none c x ao len cap w (fun w1 hg _ => app_inv_unary _ xs c ao len cap w1 (hx.grown hg) hlen hv (hE.bits.grown hg)), by intro rs h; cases h⟩
  | true =>
  obtain ⟨bs, rfl, rfl, hb⟩ := VB_pk hv
  cases hz : inB x 0 500 with
  | false =>
    have hz' : x < 0 ∨ 500 < x := by simp [inB] at hz; omega
    exact ⟨none, by simp, fun ao cap w hx hn => sUna_number _ _ x ao len cap w hx hlen hv hz, fun ao cap w hx hn hE => iUna_none _ x ao len cap w (fun w1 hg hP => app_bad_unary _ bs bs.length rfl ao len cap w1 (hx.grown hg) hn hb (fun w2 w3 B hg2 hW => clo_unary x B _ w3 (hP w3 (grown_trans hg2 hW.g)) _ ((putUnary_number x w3 _ (hE.num.grown (grown_trans hg (grown_trans hg2 hW.g))) hz').mono fun e w' ⟨h1, h2⟩ => ⟨Or.inr h1, h1, h2 ▸ hW.g⟩))), by intro rs h; cases h⟩
  | true =>
  have hz' : 0 ≤ x ∧ x ≤ 500 := by simpa [inB] using hz
  obtain ⟨n, rfl⟩ := Int.eq_ofNat_of_zero_le hz'.1
  have hn5 : n ≤ 500 := by omega
  by_cases hr : bs.length + n + 1 ≤ 16384
  · exact ⟨some (bs ++ una n), by intro rs h; injection h with h; subst h; rw [List.length_append, una_len]; omega, fun ao cap w hx hn => sUna_good bs bs.length n rfl ao len cap w hx hn hn5 hr, fun ao cap w hx hn hE => iUna_good _ n (bs ++ una n) ao len cap w (fun w1 hg hP => app_good_unary _ bs (bs ++ una n) bs.length rfl ao len cap w1 (hx.grown hg) hn hb (fun w2 w3 B hg2 hW => clo_unary n B _ w3 (hP w3 (grown_trans hg2 hW.g)) _ ((putUnary_good n w2 w3 B bs hW hn5 hr).mono fun e w' ⟨h1, h2⟩ => ⟨Or.inl h1, h1, h2⟩))), by intro rs h; injection h with h; exact ⟨bs, n, rfl, rfl, rfl, hn5, hr, h.symm⟩⟩
  · exact ⟨none, by simp, fun ao cap w hx hn => sUna_room bs bs.length n rfl ao len cap w hx hlen hb hn5 (by omega), fun ao cap w hx hn hE => iUna_none _ n ao len cap w (fun w1 hg hP => app_bad_unary _ bs bs.length rfl ao len cap w1 (hx.grown hg) hn hb (fun w2 w3 B hg2 hW => clo_unary n B _ w3 (hP w3 (grown_trans hg2 hW.g)) _ ((putUnary_room n w2 w3 B bs hW (hE.room.grown (grown_trans hg (grown_trans hg2 hW.g))) hn5 hb (by omega)).mono fun e w' ⟨h1, h2⟩ => ⟨Or.inr h1, h1, h2 ▸ hW.g⟩))), by intro rs h; cases h⟩


/-- Drawn bits and a number: new memory, and nothing old is written. -/
def DrewUna (w : World) (e : Ending) (w' : World) : Prop :=
  ∃ (ao : Option Addr) (len cap : Nat) (c : Int) (xs : List Int) (x : Int), e = .returned (.tuple #[.agg #[.slice ao len cap, .int .i64 c], .int .i64 x]) ∧ len ≤ 30 ∧ len ≤ cap ∧ (ao = none → cap = 0) ∧ Ints w' ao len xs ∧ w.grownBy w' none

set_option maxRecDepth 100000 in
set_option maxHeartbeats 4000000 in
theorem drawUna_any (ao : Option Addr) (len cap : Nat) (w : World) (hb : BytesAt w ao len) (hlc : len ≤ cap) (hmax : len ≤ 9223372036854775807) :
    Calls Tryd.prog 16 #[.slice ao len cap] w (DrewUna w) := by
  have hbb : BytesAt (w.alloc (.cells #[.slice none 0 0, .int .i64 0] 28)) ao len := by
    rcases hb with hb | ⟨b, off, ha, hc⟩
    · exact Or.inl hb
    · exact Or.inr ⟨b, off, ha, fun i hi => by obtain ⟨u, hu, hcu⟩ := hc i hi; exact ⟨u, hu, (grown_alloc w _ none).cell hcu (by simp)⟩⟩
  have hnew := newReader_any ao len cap (w.alloc (.cells #[.slice none 0 0, .int .i64 0] 28)) hbb hlc hmax
  clear hb hlc hmax hbb
  go_enter Tryd.func16, Tryd.ntmps16
  go_wp2_with fail
  refine hnew.mono ?_
  rintro e w0 ⟨rfl, hR, hg0⟩
  obtain ⟨r, hr⟩ : ∃ r, (w.alloc (.cells #[.slice none 0 0, .int .i64 0] 28)).heap.size = r := ⟨_, rfl⟩
  rw [hr] at hR ⊢
  have hr1 : r = w.heap.size + 1 := by rw [← hr]; simp
  have hm0 := (Mem.start w).block (.cells #[.slice none 0 0, .int .i64 0] 28)
  have HM0 := Lib.hid (hm0.grown hg0)
  have HRR := Lib.hid hr1
  have hrl : r < w0.heap.size := hR.lt
  clear hnew hg0 hr hr1 hm0
  go_wp2_with fail
  refine (anyBits_any r 0 _ hR (by omega)).mono ?_
  rintro e w1 ⟨v1, l1, c1, xs, rfl, hc0, hc1, hl1, ho1, hR1, hg1⟩
  obtain ⟨a1, k1, rfl, hlc1, hn1, hx1, hb1⟩ := ho1.reads
  have hres1 := grown_heap hg1 (HM0.out.get (b := w.heap.size) (o := .cells #[.slice none 0 0, .int .i64 0] 28) (by simp)) (by intro e; injection e with e; have := HRR.out; omega)
  have HS : Hid (Rdr (w1.alloc (.cells #[.slice a1 l1 k1, .int .i64 c1] 28)) r (0 + 40) ∧ w0.grownBy (w1.alloc (.cells #[.slice a1 l1 k1, .int .i64 c1] 28)) (some r) ∧ Ints (w1.alloc (.cells #[.slice a1 l1 k1, .int .i64 c1] 28)) a1 l1 xs ∧ (a1 = none → k1 = 0) ∧ (∀ a, a1 = some a → r < a.block) ∧
      (w1.alloc (.cells #[.slice a1 l1 k1, .int .i64 c1] 28)).heap[w.heap.size]? = some (.cells #[.slice none 0 0, .int .i64 0] 28 (0, 0)) ∧ (w1.alloc (.cells #[.slice a1 l1 k1, .int .i64 c1] 28)).heap[w1.heap.size]? = some (.cells #[.slice a1 l1 k1, .int .i64 c1] 28 (0, 0)) ∧ w0.heap.size ≤ w1.heap.size) :=
    ⟨hR1.alloc _, grown_trans hg1 (grown_alloc _ _ _), hx1.grown (grown_alloc _ _ _), hn1, fun a e => by have := (hb1 a e).1; omega, grown_heap (grown_alloc _ _ none) hres1 (by simp), heap_alloc_new w1 _, hg1.size⟩
  obtain ⟨B, hB⟩ : ∃ B, w1.heap.size = B := ⟨_, rfl⟩
  rw [hB] at HS
  clear hR ho1 hR1 hg1 hn1 hx1 hb1 hres1
  go_wp2_with fail
  clear hB
  generalize w1.alloc (.cells #[.slice a1 l1 k1, .int .i64 c1] 28) = w3 at *
  have hBr : r < B := by have := HS.out.2.2.2.2.2.2.2; omega
  have HS3 : Hid (Rdr w3 r 40 ∧ w0.grownBy w3 (some r) ∧ Ints w3 a1 l1 xs ∧ w3.heap[w.heap.size]? = some (.cells #[.slice none 0 0, .int .i64 0] 28 (0, 0)) ∧ w3.heap[B]? = some (.cells #[.slice a1 l1 k1, .int .i64 c1] 28 (0, 0))) := by
    obtain ⟨h1, h2, h3, h4, h5, h6, h7, h8⟩ := HS.out
    exact ⟨h1, h2, h3, h6, h7⟩
  have p0 := (two_cells HS3.out.2.2.2.2).1
  have p1 := (two_cells HS3.out.2.2.2.2).2
  have hlt3 := block_lt HS3.out.2.2.2.1
  have pa : ∀ o, (w3.alloc o).cell? ⟨B, 0, none⟩ = some (.slice a1 l1 k1) := fun o => (World.cell?_of_block (heap_alloc_old _ _ (block_lt_of_cell p0))).trans p0
  have pb : ∀ o, (w3.alloc o).cell? ⟨B, 1, none⟩ = some (.int .i64 c1) := fun o => (World.cell?_of_block (heap_alloc_old _ _ (block_lt_of_cell p1))).trans p1
  go_wp2_with fail
  go_region_with ((go_at_call 44; refine (one_at [0, 1, 3, 8, 20, 500, 501, -1] _ r 40 _ _ w3.drew rfl (HS3.out.1.kept (grown_drew _ none) (by simp)) (by omega) (by decide) (by decide)).mono ?_; rintro e w4 ⟨x, _, rfl, hR4, hg4⟩; have hg5 := grown_trans (grown_drew w3 (some r)) hg4; have hres4 := grown_heap hg5 HS3.out.2.2.2.1 (by have := HRR.out; intro e; injection e with e; omega); have hbit4 := grown_heap hg5 HS3.out.2.2.2.2 (by intro e; injection e with e; omega); have t0 := (two_cells hbit4).1; have t1 := (two_cells hbit4).2; have r0 := (two_cells hres4).1; have r1 := (two_cells hres4).2; have f0 := frozen_of_row w4 _ 0 _ _ hres4; have f1 := frozen_of_row w4 _ 1 _ _ hres4; have HG5 := Lib.hid hg5; clear hR4 hg4 hg5 hres4 hbit4))
  all_goals
    have R : Hid (Ints ((w4.setCell ⟨w.heap.size, 0, none⟩ (.slice a1 l1 k1)).setCell ⟨w.heap.size, 1, none⟩ (.int .i64 c1)) a1 l1 xs ∧ w.grownBy ((w4.setCell ⟨w.heap.size, 0, none⟩ (.slice a1 l1 k1)).setCell ⟨w.heap.size, 1, none⟩ (.int .i64 c1)) none ∧ (a1 = none → k1 = 0)) := by
      have hr := HRR.out
      have hz1 := HS.out
      have hgg : w4.grownBy ((w4.setCell ⟨w.heap.size, 0, none⟩ (.slice a1 l1 k1)).setCell ⟨w.heap.size, 1, none⟩ (.int .i64 c1)) (some w.heap.size) := grown_trans (grown_setCell w4 ⟨w.heap.size, 0, none⟩ _) (grown_setCell _ ⟨w.heap.size, 1, none⟩ _)
      refine ⟨?_, ?_, hz1.2.2.2.1⟩
      · exact (HS3.out.2.2.1.kept HG5.out (fun a e h => by have := hz1.2.2.2.2.1 a e; injection h with h; omega)).kept hgg (fun a e h => by have := hz1.2.2.2.2.1 a e; injection h with h; omega)
      · exact grown_set (grown_set (grown_row (grown_row HM0.out.g HS3.out.2.1 (fun g e => by injection e with e; omega)) HG5.out (fun g e => by injection e with e; omega)) (by simp)) (by simp)
    clear HS HS3 HG5 HM0 HRR t0 t1 p0 p1 pa pb
    go_wp2
    refine bodyPost_ret (v := .tuple #[.agg #[.slice a1 l1 k1, .int .i64 c1], .int .i64 x]) (by simp [results, Tryd.results16, go_sem, r0, r1]) rfl ⟨a1, l1, k1, c1, xs, x, rfl, by omega, hlc1, R.out.2.2, R.out.1, R.out.2.1⟩


set_option maxRecDepth 100000 in
set_option maxHeartbeats 4000000 in
theorem FnPutUnary_walk (ao : Option Addr) (len cap : Nat) (w : World) (hb : BytesAt w ao len) (hlc : len ≤ cap) (hmax : len ≤ 9223372036854775807) (hE : ErrsUG w) :
    Calls Tryd.prog 4 #[.slice ao len cap] w (Holds w) := by
  by_cases hlen : 1048576 < len
  · clear hb hE
    go_enter Tryd.func4, Tryd.ntmps4
    go_wp2
    go_ret
    exact ⟨rfl, grown_refl _ _⟩
  have hd := drawUna_any ao len cap w hb hlc hmax
  have hm : decide (1048576 < (len : Int)) = false := by simp; omega
  have HE0 := Lib.hid hE
  clear hb hlc hmax hlen hE
  go_enter Tryd.func4, Tryd.ntmps4
  go_wp2_with fail
  refine hd.mono ?_
  rintro e w1 ⟨a1, l1, k1, c, xs, x, rfl, hl1, hlc1, hn1, hx1, hg1⟩
  have HN := Lib.hid hn1
  have HG1 := Lib.hid hg1
  have HE := Lib.hid (HE0.out.grown hg1)
  have HM := Lib.hid ((Mem.start w1).block (.cells #[.slice a1 l1 k1, .int .i64 c] 28))
  have HX := Lib.hid (hx1.grown HM.out.g)
  clear hd hn1 hx1 hg1
  obtain ⟨o, ho, hS, hI, hC⟩ := una_both2 xs c x l1 (by omega)
  have HO := Lib.hid ho
  clear ho
  cases o with
  | none =>
    have q0 := (two_cells (HM.out.get (b := w1.heap.size) (o := .cells #[.slice a1 l1 k1, .int .i64 c] 28) (by simp))).1
    have q1 := (two_cells (HM.out.get (b := w1.heap.size) (o := .cells #[.slice a1 l1 k1, .int .i64 c] 28) (by simp))).2
    go_wp2_with fail
    refine (hI.out a1 k1 _ HX.out HN.out (HE.out.p.grown HM.out.g)).mono ?_
    rintro e w2 ⟨rfl, hg2⟩
    have HX2 := Lib.hid ((HX.out.grown hg2).grown (grown_alloc w2 (.cells #[.slice none 0 0, .int .i64 0] 28) none))
    have HM2 := Lib.hid ((HM.out.grown hg2).block (.cells #[.slice none 0 0, .int .i64 0] 28))
    clear q0 q1 hg2
    have q0 := (two_cells (HM2.out.get (b := w1.heap.size) (o := .cells #[.slice a1 l1 k1, .int .i64 c] 28) (by simp))).1
    have q1 := (two_cells (HM2.out.get (b := w1.heap.size) (o := .cells #[.slice a1 l1 k1, .int .i64 c] 28) (by simp))).2
    go_wp2_with fail
    refine (hS.out a1 k1 _ HX2.out HN.out).mono ?_
    rintro e w3 ⟨rfl, hg3⟩
    have HM3 := Lib.hid ((HM2.out.grown hg3).block (.cells #[.slice none 0 0, .int .i64 0] 28))
    clear q0 q1 hg3
    have s0 := (two_cells (HM3.out.get (b := w2.heap.size) (o := .cells #[.slice none 0 0, .int .i64 0] 28) (by simp))).1
    have s1 := (two_cells (HM3.out.get (b := w2.heap.size) (o := .cells #[.slice none 0 0, .int .i64 0] 28) (by simp))).2
    have t0 := (two_cells (HM3.out.get (b := w3.heap.size) (o := .cells #[.slice none 0 0, .int .i64 0] 28) (by simp))).1
    have t1 := (two_cells (HM3.out.get (b := w3.heap.size) (o := .cells #[.slice none 0 0, .int .i64 0] 28) (by simp))).2
    go_wp2_with fail
    refine (equalBits_same [] none none 0 0 0 0 _ ⟨rfl, Or.inl rfl⟩ ⟨rfl, Or.inl rfl⟩ (by omega)).mono ?_
    rintro e w4 ⟨rfl, hg4⟩
    have HM4 := Lib.hid (HM3.out.grown hg4)
    clear s0 s1 t0 t1 hg4
    have s0 := (two_cells (HM4.out.get (b := w2.heap.size) (o := .cells #[.slice none 0 0, .int .i64 0] 28) (by simp))).1
    have s1 := (two_cells (HM4.out.get (b := w2.heap.size) (o := .cells #[.slice none 0 0, .int .i64 0] 28) (by simp))).2
    have t0 := (two_cells (HM4.out.get (b := w3.heap.size) (o := .cells #[.slice none 0 0, .int .i64 0] 28) (by simp))).1
    have t1 := (two_cells (HM4.out.get (b := w3.heap.size) (o := .cells #[.slice none 0 0, .int .i64 0] 28) (by simp))).2
    go_wp2_with fail
    refine (equalBits_same [] none none 0 0 0 0 _ ⟨rfl, Or.inl rfl⟩ ⟨rfl, Or.inl rfl⟩ (by omega)).mono ?_
    rintro e w5 ⟨rfl, hg5⟩
    have HM5 := Lib.hid (HM4.out.grown hg5)
    clear s0 s1 t0 t1 hg5
    go_wp2
    go_ret
    exact ⟨rfl, grown_trans HG1.out HM5.out.g⟩
  | some rs =>
    obtain ⟨bs, v, hxs, hcc, hxx, hv, hroom, hrs⟩ := hC.out rs rfl
    have hrl : rs.length ≤ 16384 := HO.out rs rfl
    obtain ⟨m, hm⟩ : ∃ m, rs.length = m := ⟨_, rfl⟩
    obtain ⟨n, hn⟩ : ∃ n, (rs.length + 7) / 8 = n := ⟨_, rfl⟩
    have hn2 : n ≤ 2048 := by omega
    have HRS := Lib.hid (And.intro hrs (And.intro hm hn))
    have HD := Lib.hid (And.intro hxs (And.intro hcc hroom))
    subst hxx
    clear hrs HO hxs hcc hroom hrl hm hn
    have q0 := (two_cells (HM.out.get (b := w1.heap.size) (o := .cells #[.slice a1 l1 k1, .int .i64 c] 28) (by simp))).1
    have q1 := (two_cells (HM.out.get (b := w1.heap.size) (o := .cells #[.slice a1 l1 k1, .int .i64 c] 28) (by simp))).2
    go_wp2_with fail
    refine (hI.out a1 k1 _ HX.out HN.out (HE.out.p.grown HM.out.g)).mono ?_
    rintro e w2 ⟨v2, rfl, ho2, hg2⟩
    rw [HRS.out.2.1]
    rw [HRS.out.2.2] at ho2
    obtain ⟨p2, c2, rfl, _, _, hx2, _⟩ := ho2.reads
    have HM2 := Lib.hid ((HM.out.grown hg2).block (.cells #[.slice p2 n c2, .int .i64 (m : Int)] 28))
    have HY2 := Lib.hid (hx2.grown (grown_alloc w2 (.cells #[.slice p2 n c2, .int .i64 (m : Int)] 28) none))
    have HX2 := Lib.hid ((HX.out.grown hg2).grown (grown_alloc w2 (.cells #[.slice p2 n c2, .int .i64 (m : Int)] 28) none))
    clear q0 q1 ho2 hg2 hx2
    have q0 := (two_cells (HM2.out.get (b := w1.heap.size) (o := .cells #[.slice a1 l1 k1, .int .i64 c] 28) (by simp))).1
    have q1 := (two_cells (HM2.out.get (b := w1.heap.size) (o := .cells #[.slice a1 l1 k1, .int .i64 c] 28) (by simp))).2
    go_wp2_with fail
    refine (hS.out a1 k1 _ HX2.out HN.out).mono ?_
    rintro e w3 ⟨v3, rfl, ho3, hg3⟩
    rw [HRS.out.2.1]
    rw [HRS.out.2.2] at ho3
    obtain ⟨p3, c3, rfl, _, _, hx3, _⟩ := ho3.reads
    have HM3 := Lib.hid ((HM2.out.grown hg3).block (.cells #[.slice p3 n c3, .int .i64 (m : Int)] 28))
    have HY3 := Lib.hid (hx3.grown (grown_alloc w3 (.cells #[.slice p3 n c3, .int .i64 (m : Int)] 28) none))
    have HX3 := Lib.hid ((HX2.out.grown hg3).grown (grown_alloc w3 (.cells #[.slice p3 n c3, .int .i64 (m : Int)] 28) none))
    have HY2b := Lib.hid ((HY2.out.grown hg3).grown (grown_alloc w3 (.cells #[.slice p3 n c3, .int .i64 (m : Int)] 28) none))
    clear q0 q1 ho3 hg3 hx3
    have s0 := (two_cells (HM3.out.get (b := w2.heap.size) (o := .cells #[.slice p2 n c2, .int .i64 (m : Int)] 28) (by simp))).1
    have s1 := (two_cells (HM3.out.get (b := w2.heap.size) (o := .cells #[.slice p2 n c2, .int .i64 (m : Int)] 28) (by simp))).2
    have t0 := (two_cells (HM3.out.get (b := w3.heap.size) (o := .cells #[.slice p3 n c3, .int .i64 (m : Int)] 28) (by simp))).1
    have t1 := (two_cells (HM3.out.get (b := w3.heap.size) (o := .cells #[.slice p3 n c3, .int .i64 (m : Int)] 28) (by simp))).2
    go_wp2_with fail
    refine (equalBits_same (pk rs) p2 p3 n c2 c3 (m : Int) _ HY2b.out HY3.out (by omega)).mono ?_
    rintro e w4 ⟨rfl, hg4⟩
    have HM4 := Lib.hid (HM3.out.grown hg4)
    have HX4 := Lib.hid (HX3.out.grown hg4)
    have HY24 := Lib.hid (HY2b.out.grown hg4)
    have HY34 := Lib.hid (HY3.out.grown hg4)
    clear s0 s1 t0 t1 hg4
    obtain ⟨mb, hmb⟩ : ∃ mb, bs.length = mb := ⟨_, rfl⟩
    have hcm : c = (mb : Int) := by rw [← hmb]; exact HD.out.2.1
    subst hcm
    have hlr : rs.length = bs.length + (v + 1) := by rw [HRS.out.1, List.length_append, una_len]
    have hmm : m = mb + v + 1 := by have := HRS.out.2.1; omega
    have hmx : mb + v + 1 ≤ 16384 := by have := HD.out.2.2; omega
    have hq1 : ((mb : Int) + (v : Int) + 1 == (m : Int)) = true := by simp; omega
    have hq2 : ((m : Int) == (mb : Int) + (v : Int) + 1) = true := by simp; omega
    have HLR : Hid (rs.length ≤ 16384 ∧ rs.length = m ∧ mb ≤ m) := ⟨by omega, HRS.out.2.1, by omega⟩
    have HO1 : Hid (OneAt rs mb v) := by show OneAt rs mb v; rw [HRS.out.1, ← hmb]; exact una_one bs v hv
    clear hmb hmm hlr
    have q0 := (two_cells (HM4.out.get (b := w1.heap.size) (o := .cells #[.slice a1 l1 k1, .int .i64 (mb : Int)] 28) (by simp))).1
    have q1 := (two_cells (HM4.out.get (b := w1.heap.size) (o := .cells #[.slice a1 l1 k1, .int .i64 (mb : Int)] 28) (by simp))).2
    have s0 := (two_cells (HM4.out.get (b := w2.heap.size) (o := .cells #[.slice p2 n c2, .int .i64 (m : Int)] 28) (by simp))).1
    have s1 := (two_cells (HM4.out.get (b := w2.heap.size) (o := .cells #[.slice p2 n c2, .int .i64 (m : Int)] 28) (by simp))).2
    go_wp2_with fail
    refine (iGuna_good rs m mb v HLR.out.2.1 HO1.out p2 n c2 _ HY24.out HLR.out.1 HLR.out.2.2 (HE.out.q.grown HM4.out.g)).mono ?_
    rintro e w5 ⟨rfl, hg5⟩
    have HM5 := Lib.hid (HM4.out.grown hg5)
    clear q0 q1 s0 s1 hg5
    have q0 := (two_cells (HM5.out.get (b := w1.heap.size) (o := .cells #[.slice a1 l1 k1, .int .i64 (mb : Int)] 28) (by simp))).1
    have q1 := (two_cells (HM5.out.get (b := w1.heap.size) (o := .cells #[.slice a1 l1 k1, .int .i64 (mb : Int)] 28) (by simp))).2
    have s0 := (two_cells (HM5.out.get (b := w2.heap.size) (o := .cells #[.slice p2 n c2, .int .i64 (m : Int)] 28) (by simp))).1
    have s1 := (two_cells (HM5.out.get (b := w2.heap.size) (o := .cells #[.slice p2 n c2, .int .i64 (m : Int)] 28) (by simp))).2
    go_wp2
    go_ret
    exact ⟨rfl, grown_trans HG1.out HM5.out.g⟩


end Go.Proofs.YtdbneenlejgjcaaDoor
