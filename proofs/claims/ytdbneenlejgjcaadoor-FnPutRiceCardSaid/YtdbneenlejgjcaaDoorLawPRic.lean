/-
  The walk of the law on Rice codes put: it returns true and writes nothing that was there. For every code.
-/
import Derived.Test.YtdbneenlejgjcaaDoorLawRice
import Derived.Deep.RegionWith
namespace Go.Proofs.YtdbneenlejgjcaaDoor
open Go.RowKit

/-- Drawn bits and two numbers: new memory, and nothing old is written. -/
def DrewRic (w : World) (e : Ending) (w' : World) : Prop :=
  ∃ (ao : Option Addr) (len cap : Nat) (c : Int) (xs : List Int) (x z : Int), e = .returned (.tuple #[.agg #[.slice ao len cap, .int .i64 c], .int .i64 x, .int .i64 z]) ∧ len ≤ 30 ∧ len ≤ cap ∧ (ao = none → cap = 0) ∧ Ints w' ao len xs ∧ w.grownBy w' none

set_option maxRecDepth 100000 in
set_option maxHeartbeats 4000000 in
theorem drawRic_any (ao : Option Addr) (len cap : Nat) (w : World) (hb : BytesAt w ao len) (hlc : len ≤ cap) (hmax : len ≤ 9223372036854775807) :
    Calls Tryd.prog 24 #[.slice ao len cap] w (DrewRic w) := by
  have hbb : BytesAt (w.alloc (.cells #[.slice none 0 0, .int .i64 0] 28)) ao len := by
    rcases hb with hb | ⟨b, off, ha, hc⟩
    · exact Or.inl hb
    · exact Or.inr ⟨b, off, ha, fun i hi => by obtain ⟨u, hu, hcu⟩ := hc i hi; exact ⟨u, hu, (grown_alloc w _ none).cell hcu (by simp)⟩⟩
  have hnew := newReader_any ao len cap (w.alloc (.cells #[.slice none 0 0, .int .i64 0] 28)) hbb hlc hmax
  clear hb hlc hmax hbb
  go_enter Tryd.func24, Tryd.ntmps24
  go_wp2_with fail
  refine hnew.mono ?_
  rintro e w0 ⟨rfl, hR, hg0⟩
  obtain ⟨r, hr⟩ : ∃ r, (w.alloc (.cells #[.slice none 0 0, .int .i64 0] 28)).heap.size = r := ⟨_, rfl⟩
  rw [hr] at hR ⊢
  have hr1 : r = w.heap.size + 1 := by rw [← hr]; simp
  have hm0 := (Mem.start w).block (.cells #[.slice none 0 0, .int .i64 0] 28)
  have HM0 := Lib.hid (hm0.grown hg0)
  have HRR := Lib.hid hr1
  have hrl : r < w0.heap.size := hR.lt
  clear hnew hg0 hr hr1 hm0
  go_wp2_with fail
  refine (anyBits_any r 0 _ hR (by omega)).mono ?_
  rintro e w1 ⟨v1, l1, c1, xs, rfl, hc0, hc1, hl1, ho1, hR1, hg1⟩
  obtain ⟨a1, k1, rfl, hlc1, hn1, hx1, hb1⟩ := ho1.reads
  have hres1 := grown_heap hg1 (HM0.out.get (b := w.heap.size) (o := .cells #[.slice none 0 0, .int .i64 0] 28) (by simp)) (by intro e; injection e with e; have := HRR.out; omega)
  have HS : Hid (Rdr (w1.alloc (.cells #[.slice a1 l1 k1, .int .i64 c1] 28)) r (0 + 40) ∧ w0.grownBy (w1.alloc (.cells #[.slice a1 l1 k1, .int .i64 c1] 28)) (some r) ∧ Ints (w1.alloc (.cells #[.slice a1 l1 k1, .int .i64 c1] 28)) a1 l1 xs ∧ (a1 = none → k1 = 0) ∧ (∀ a, a1 = some a → r < a.block) ∧
      (w1.alloc (.cells #[.slice a1 l1 k1, .int .i64 c1] 28)).heap[w.heap.size]? = some (.cells #[.slice none 0 0, .int .i64 0] 28 (0, 0)) ∧ (w1.alloc (.cells #[.slice a1 l1 k1, .int .i64 c1] 28)).heap[w1.heap.size]? = some (.cells #[.slice a1 l1 k1, .int .i64 c1] 28 (0, 0)) ∧ w0.heap.size ≤ w1.heap.size) :=
    ⟨hR1.alloc _, grown_trans hg1 (grown_alloc _ _ _), hx1.grown (grown_alloc _ _ _), hn1, fun a e => by have := (hb1 a e).1; omega, grown_heap (grown_alloc _ _ none) hres1 (by simp), heap_alloc_new w1 _, hg1.size⟩
  obtain ⟨B, hB⟩ : ∃ B, w1.heap.size = B := ⟨_, rfl⟩
  rw [hB] at HS
  clear hR ho1 hR1 hg1 hn1 hx1 hb1 hres1
  have hsz2 : (w1.alloc (.cells #[.slice a1 l1 k1, .int .i64 c1] 28)).heap.size = B + 1 := by simp [hB]
  go_wp2_with fail
  clear hB
  generalize w1.alloc (.cells #[.slice a1 l1 k1, .int .i64 c1] 28) = w2 at *
  refine (anySigned_any r 40 w2 HS.out.1 (by omega)).mono ?_
  rintro e w3 ⟨x, rfl, _, _, hR3, hg3⟩
  have hBr : r < B := by have := HS.out.2.2.2.2.2.2.2; omega
  have HS3 : Hid (Rdr w3 r 43 ∧ w0.grownBy w3 (some r) ∧ Ints w3 a1 l1 xs ∧ w3.heap[w.heap.size]? = some (.cells #[.slice none 0 0, .int .i64 0] 28 (0, 0)) ∧ w3.heap[B]? = some (.cells #[.slice a1 l1 k1, .int .i64 c1] 28 (0, 0))) := by
    obtain ⟨h1, h2, h3, h4, h5, h6, h7, h8⟩ := HS.out
    have := HRR.out
    exact ⟨hR3, grown_trans h2 hg3, h3.kept hg3 (fun a e h => by have := h5 a e; injection h with h; omega), grown_heap hg3 h6 (by intro e; injection e with e; omega), grown_heap hg3 h7 (by intro e; injection e with e; omega)⟩
  clear hR3 hg3
  have p0 := (two_cells HS3.out.2.2.2.2).1
  have p1 := (two_cells HS3.out.2.2.2.2).2
  have hlt3 := block_lt HS3.out.2.2.2.1
  go_wp2_with fail
  go_region_with ((go_at_call 36; refine (anyRice_any r 43 w3.drew (HS3.out.1.kept (grown_drew _ none) (by simp)) (by omega)).mono ?_; rintro e w4 ⟨z, rfl, _, _, hR4, hg4⟩; have hg5 := grown_trans (grown_drew w3 (some r)) hg4; have hres4 := grown_heap hg5 HS3.out.2.2.2.1 (by have := HRR.out; intro e; injection e with e; omega); have hbit4 := grown_heap hg5 HS3.out.2.2.2.2 (by intro e; injection e with e; omega); have t0 := (two_cells hbit4).1; have t1 := (two_cells hbit4).2; have r0 := (two_cells hres4).1; have r1 := (two_cells hres4).2; have f0 := frozen_of_row w4 _ 0 _ _ hres4; have f1 := frozen_of_row w4 _ 1 _ _ hres4; have HG5 := Lib.hid hg5; clear hR4 hg4 hg5 hres4 hbit4))
  all_goals
    have R : Hid (Ints ((w4.setCell ⟨w.heap.size, 0, none⟩ (.slice a1 l1 k1)).setCell ⟨w.heap.size, 1, none⟩ (.int .i64 c1)) a1 l1 xs ∧ w.grownBy ((w4.setCell ⟨w.heap.size, 0, none⟩ (.slice a1 l1 k1)).setCell ⟨w.heap.size, 1, none⟩ (.int .i64 c1)) none ∧ (a1 = none → k1 = 0)) := by
      have hr := HRR.out
      have hz1 := HS.out
      have hgg : w4.grownBy ((w4.setCell ⟨w.heap.size, 0, none⟩ (.slice a1 l1 k1)).setCell ⟨w.heap.size, 1, none⟩ (.int .i64 c1)) (some w.heap.size) := grown_trans (grown_setCell w4 ⟨w.heap.size, 0, none⟩ _) (grown_setCell _ ⟨w.heap.size, 1, none⟩ _)
      refine ⟨?_, ?_, hz1.2.2.2.1⟩
      · exact (HS3.out.2.2.1.kept HG5.out (fun a e h => by have := hz1.2.2.2.2.1 a e; injection h with h; omega)).kept hgg (fun a e h => by have := hz1.2.2.2.2.1 a e; injection h with h; omega)
      · exact grown_set (grown_set (grown_row (grown_row HM0.out.g HS3.out.2.1 (fun g e => by injection e with e; omega)) HG5.out (fun g e => by injection e with e; omega)) (by simp)) (by simp)
    clear HS HS3 HG5 HM0 HRR t0 t1 p0 p1
    go_wp2
    refine bodyPost_ret (v := .tuple #[.agg #[.slice a1 l1 k1, .int .i64 c1], .int .i64 x, .int .i64 z]) (by simp [results, Tryd.results24, go_sem, r0, r1]) rfl ⟨a1, l1, k1, c1, xs, x, z, rfl, by omega, hlc1, R.out.2.2, R.out.1, R.out.2.1⟩



set_option maxRecDepth 100000 in
set_option maxHeartbeats 4000000 in
theorem FnPutRice_walk (ao : Option Addr) (len cap : Nat) (w : World) (hb : BytesAt w ao len) (hlc : len ≤ cap) (hmax : len ≤ 9223372036854775807) (hE : ErrsUG w) :
    Calls Tryd.prog 6 #[.slice ao len cap] w (Holds w) := by
  by_cases hlen : 1048576 < len
  · clear hb hE
    go_enter Tryd.func6, Tryd.ntmps6
    go_wp2
    go_ret
    exact ⟨rfl, grown_refl _ _⟩
  have hd := drawRic_any ao len cap w hb hlc hmax
  have hm : decide (1048576 < (len : Int)) = false := by simp; omega
  have HE0 := Lib.hid hE
  clear hb hlc hmax hlen hE
  go_enter Tryd.func6, Tryd.ntmps6
  go_wp2_with fail
  refine hd.mono ?_
  rintro e w1 ⟨a1, l1, k1, c, xs, x, z, rfl, hl1, hlc1, hn1, hx1, hg1⟩
  have HN := Lib.hid hn1
  have HG1 := Lib.hid hg1
  have HE := Lib.hid (HE0.out.grown hg1)
  have HM := Lib.hid ((Mem.start w1).block (.cells #[.slice a1 l1 k1, .int .i64 c] 28))
  have HX := Lib.hid (hx1.grown HM.out.g)
  clear hd hn1 hx1 hg1
  obtain ⟨o, ho, hS, hI, hC, hNN⟩ := ric_both xs c x z l1 (by omega)
  have HO := Lib.hid ho
  clear ho
  cases o with
  | none =>
    have q0 := (two_cells (HM.out.get (b := w1.heap.size) (o := .cells #[.slice a1 l1 k1, .int .i64 c] 28) (by simp))).1
    have q1 := (two_cells (HM.out.get (b := w1.heap.size) (o := .cells #[.slice a1 l1 k1, .int .i64 c] 28) (by simp))).2
    go_wp2_with fail
    refine (hI.out a1 k1 _ HX.out HN.out (HE.out.p.grown HM.out.g)).mono ?_
    rintro e w2 ⟨rfl, hg2⟩
    have HX2 := Lib.hid ((HX.out.grown hg2).grown (grown_alloc w2 (.cells #[.slice none 0 0, .int .i64 0] 28) none))
    have HM2 := Lib.hid ((HM.out.grown hg2).block (.cells #[.slice none 0 0, .int .i64 0] 28))
    clear q0 q1 hg2
    have q0 := (two_cells (HM2.out.get (b := w1.heap.size) (o := .cells #[.slice a1 l1 k1, .int .i64 c] 28) (by simp))).1
    have q1 := (two_cells (HM2.out.get (b := w1.heap.size) (o := .cells #[.slice a1 l1 k1, .int .i64 c] 28) (by simp))).2
    go_wp2_with fail
    refine (hS.out a1 k1 _ HX2.out HN.out).mono ?_
    rintro e w3 ⟨rfl, hg3⟩
    have HM3 := Lib.hid ((HM2.out.grown hg3).block (.cells #[.slice none 0 0, .int .i64 0] 28))
    clear q0 q1 hg3
    have s0 := (two_cells (HM3.out.get (b := w2.heap.size) (o := .cells #[.slice none 0 0, .int .i64 0] 28) (by simp))).1
    have s1 := (two_cells (HM3.out.get (b := w2.heap.size) (o := .cells #[.slice none 0 0, .int .i64 0] 28) (by simp))).2
    have t0 := (two_cells (HM3.out.get (b := w3.heap.size) (o := .cells #[.slice none 0 0, .int .i64 0] 28) (by simp))).1
    have t1 := (two_cells (HM3.out.get (b := w3.heap.size) (o := .cells #[.slice none 0 0, .int .i64 0] 28) (by simp))).2
    go_wp2_with fail
    refine (equalBits_same [] none none 0 0 0 0 _ ⟨rfl, Or.inl rfl⟩ ⟨rfl, Or.inl rfl⟩ (by omega)).mono ?_
    rintro e w4 ⟨rfl, hg4⟩
    have HM4 := Lib.hid (HM3.out.grown hg4)
    clear s0 s1 t0 t1 hg4
    have s0 := (two_cells (HM4.out.get (b := w2.heap.size) (o := .cells #[.slice none 0 0, .int .i64 0] 28) (by simp))).1
    have s1 := (two_cells (HM4.out.get (b := w2.heap.size) (o := .cells #[.slice none 0 0, .int .i64 0] 28) (by simp))).2
    have t0 := (two_cells (HM4.out.get (b := w3.heap.size) (o := .cells #[.slice none 0 0, .int .i64 0] 28) (by simp))).1
    have t1 := (two_cells (HM4.out.get (b := w3.heap.size) (o := .cells #[.slice none 0 0, .int .i64 0] 28) (by simp))).2
    go_wp2_with fail
    refine (equalBits_same [] none none 0 0 0 0 _ ⟨rfl, Or.inl rfl⟩ ⟨rfl, Or.inl rfl⟩ (by omega)).mono ?_
    rintro e w5 ⟨rfl, hg5⟩
    have HM5 := Lib.hid (HM4.out.grown hg5)
    clear s0 s1 t0 t1 hg5
    go_wp2
    go_ret
    exact ⟨rfl, grown_trans HG1.out HM5.out.g⟩
  | some rs =>
    obtain ⟨bs, n0, k0, hxs, hcc, hzz, hk14, hzn, hq5, hroom, hrs⟩ := hC.out rs rfl
    obtain ⟨mb, hmb⟩ : ∃ mb, bs.length = mb := ⟨_, rfl⟩
    have hback := ric_back bs n0 k0 hq5
    rw [hmb] at hcc hroom hback
    subst hcc
    subst hzz
    subst hxs
    obtain ⟨m, hm⟩ : ∃ m, rs.length = m := ⟨_, rfl⟩
    obtain ⟨n, hn⟩ : ∃ n, (m + 7) / 8 = n := ⟨_, rfl⟩
    obtain ⟨q, hqe⟩ : ∃ q, n0 / 2 ^ k0 = q := ⟨_, rfl⟩
    rw [hqe] at hroom hq5 hback
    have hml : m = mb + (q + 1 + k0) := by rw [← hm, hrs, List.length_append, ric_len, hqe, hmb]
    have HL := Lib.hid (And.intro hm hn)
    have HBK : Hid (OneAt rs mb q ∧ uz ((q : Int) * 2 ^ k0 + numV rs (mb + q + 1) k0) = x) := by
      rw [hrs]
      refine ⟨hback.1, ?_⟩
      rw [hback.2, ← hzn]
      exact uz_Zz (by omega)
    have HML := Lib.hid hml
    have HMB := Lib.hid hmb
    have hn2 : n ≤ 2048 := by omega
    have hm16 : m ≤ 16384 := by omega
    have hx0 := Zz_neg_iff x
    clear hrs hm hn hml hmb hroom HO hback hqe hzn hx0 hNN
    have q0a := (two_cells (HM.out.get (b := w1.heap.size) (o := .cells #[.slice a1 l1 k1, .int .i64 (mb : Int)] 28) (by simp))).1
    have q0b := (two_cells (HM.out.get (b := w1.heap.size) (o := .cells #[.slice a1 l1 k1, .int .i64 (mb : Int)] 28) (by simp))).2
    go_wp2_with fail
    refine (hI.out a1 k1 _ HX.out HN.out (HE.out.p.grown HM.out.g)).mono ?_
    rintro e w2 ⟨v2, rfl, ho2, hg2⟩
    rw [HL.out.1]
    rw [HL.out.1, HL.out.2] at ho2
    obtain ⟨p2, c2, rfl, _, hn2, hx2, _⟩ := ho2.reads
    have HM := Lib.hid ((HM.out.grown hg2).block (.cells #[.slice p2 n c2, .int .i64 (m : Int)] 28))
    have HY2 := Lib.hid (hx2.grown (grown_alloc w2 (.cells #[.slice p2 n c2, .int .i64 (m : Int)] 28) none))
    have HY2n := Lib.hid hn2
    have HX := Lib.hid ((HX.out.grown hg2).grown (grown_alloc w2 (.cells #[.slice p2 n c2, .int .i64 (m : Int)] 28) none))
    clear q0a q0b hg2 ho2 hx2 hn2
    have q0a := (two_cells (HM.out.get (b := w1.heap.size) (o := .cells #[.slice a1 l1 k1, .int .i64 (mb : Int)] 28) (by simp))).1
    have q0b := (two_cells (HM.out.get (b := w1.heap.size) (o := .cells #[.slice a1 l1 k1, .int .i64 (mb : Int)] 28) (by simp))).2
    have q1a := (two_cells (HM.out.get (b := w2.heap.size) (o := .cells #[.slice p2 n c2, .int .i64 (m : Int)] 28) (by simp))).1
    have q1b := (two_cells (HM.out.get (b := w2.heap.size) (o := .cells #[.slice p2 n c2, .int .i64 (m : Int)] 28) (by simp))).2
    go_wp2_with fail
    refine (hS.out a1 k1 _ HX.out HN.out).mono ?_
    rintro e w3 ⟨v3, rfl, ho3, hg3⟩
    rw [HL.out.1]
    rw [HL.out.1, HL.out.2] at ho3
    obtain ⟨p3, c3, rfl, _, hn3, hx3, _⟩ := ho3.reads
    have HM := Lib.hid ((HM.out.grown hg3).block (.cells #[.slice p3 n c3, .int .i64 (m : Int)] 28))
    have HY3 := Lib.hid (hx3.grown (grown_alloc w3 (.cells #[.slice p3 n c3, .int .i64 (m : Int)] 28) none))
    have HY3n := Lib.hid hn3
    have HX := Lib.hid ((HX.out.grown hg3).grown (grown_alloc w3 (.cells #[.slice p3 n c3, .int .i64 (m : Int)] 28) none))
    have HY2 := Lib.hid ((HY2.out.grown hg3).grown (grown_alloc w3 (.cells #[.slice p3 n c3, .int .i64 (m : Int)] 28) none))
    clear q0a q0b q1a q1b hg3 ho3 hx3 hn3
    have q0a := (two_cells (HM.out.get (b := w1.heap.size) (o := .cells #[.slice a1 l1 k1, .int .i64 (mb : Int)] 28) (by simp))).1
    have q0b := (two_cells (HM.out.get (b := w1.heap.size) (o := .cells #[.slice a1 l1 k1, .int .i64 (mb : Int)] 28) (by simp))).2
    have q1a := (two_cells (HM.out.get (b := w2.heap.size) (o := .cells #[.slice p2 n c2, .int .i64 (m : Int)] 28) (by simp))).1
    have q1b := (two_cells (HM.out.get (b := w2.heap.size) (o := .cells #[.slice p2 n c2, .int .i64 (m : Int)] 28) (by simp))).2
    have q2a := (two_cells (HM.out.get (b := w3.heap.size) (o := .cells #[.slice p3 n c3, .int .i64 (m : Int)] 28) (by simp))).1
    have q2b := (two_cells (HM.out.get (b := w3.heap.size) (o := .cells #[.slice p3 n c3, .int .i64 (m : Int)] 28) (by simp))).2
    go_wp2_with fail
    refine (equalBits_same (pk rs) p2 p3 n c2 c3 (m : Int) _ HY2.out HY3.out (by omega)).mono ?_
    rintro e w4 ⟨rfl, hg4⟩
    have HM := Lib.hid (HM.out.grown hg4)
    have HX := Lib.hid ((HX.out.grown hg4))
    have HY2 := Lib.hid ((HY2.out.grown hg4))
    have HY3 := Lib.hid ((HY3.out.grown hg4))
    clear q0a q0b q1a q1b q2a q2b hg4
    have q0a := (two_cells (HM.out.get (b := w1.heap.size) (o := .cells #[.slice a1 l1 k1, .int .i64 (mb : Int)] 28) (by simp))).1
    have q0b := (two_cells (HM.out.get (b := w1.heap.size) (o := .cells #[.slice a1 l1 k1, .int .i64 (mb : Int)] 28) (by simp))).2
    have q1a := (two_cells (HM.out.get (b := w2.heap.size) (o := .cells #[.slice p2 n c2, .int .i64 (m : Int)] 28) (by simp))).1
    have q1b := (two_cells (HM.out.get (b := w2.heap.size) (o := .cells #[.slice p2 n c2, .int .i64 (m : Int)] 28) (by simp))).2
    have q2a := (two_cells (HM.out.get (b := w3.heap.size) (o := .cells #[.slice p3 n c3, .int .i64 (m : Int)] 28) (by simp))).1
    have q2b := (two_cells (HM.out.get (b := w3.heap.size) (o := .cells #[.slice p3 n c3, .int .i64 (m : Int)] 28) (by simp))).2
    go_wp2_with fail
    refine (iGric_eq rs (pk rs) (m : Int) (mb : Int) (k0 : Int) mb k0 q x (m : Int) p2 n c2 _ HY2.out (by omega) rfl (by rw [HL.out.1]) rfl rfl (by rw [HL.out.1]; exact hm16) hk14 HBK.out.1 (by rw [HL.out.1]; have := HML.out; omega) (HE.out.q.grown HM.out.g) HBK.out.2 (by have := HML.out; omega)).mono ?_
    rintro e w5 ⟨rfl, hg5⟩
    have HM := Lib.hid (HM.out.grown hg5)
    have HX := Lib.hid ((HX.out.grown hg5))
    have HY2 := Lib.hid ((HY2.out.grown hg5))
    have HY3 := Lib.hid ((HY3.out.grown hg5))
    clear q0a q0b q1a q1b q2a q2b hg5
    have hxx : (x == x) = true := by simp
    have hmm : ((m : Int) == (m : Int)) = true := by simp
    have q0a := (two_cells (HM.out.get (b := w1.heap.size) (o := .cells #[.slice a1 l1 k1, .int .i64 (mb : Int)] 28) (by simp))).1
    have q0b := (two_cells (HM.out.get (b := w1.heap.size) (o := .cells #[.slice a1 l1 k1, .int .i64 (mb : Int)] 28) (by simp))).2
    have q1a := (two_cells (HM.out.get (b := w2.heap.size) (o := .cells #[.slice p2 n c2, .int .i64 (m : Int)] 28) (by simp))).1
    have q1b := (two_cells (HM.out.get (b := w2.heap.size) (o := .cells #[.slice p2 n c2, .int .i64 (m : Int)] 28) (by simp))).2
    have q2a := (two_cells (HM.out.get (b := w3.heap.size) (o := .cells #[.slice p3 n c3, .int .i64 (m : Int)] 28) (by simp))).1
    have q2b := (two_cells (HM.out.get (b := w3.heap.size) (o := .cells #[.slice p3 n c3, .int .i64 (m : Int)] 28) (by simp))).2
    go_wp2
    go_ret
    exact ⟨rfl, grown_trans HG1.out HM.out.g⟩

end Go.Proofs.YtdbneenlejgjcaaDoor
