/-
  The walk of the law on numbers put in parts: it returns true and writes nothing that was there. For every code.
-/
import Derived.Test.YtcgcippniicaaaaDoorDrawPB
namespace Go.Proofs.YtcgcippniicaaaaDoor
open Go.RowKit

theorem numB_split (v wd : Nat) (h : 4 ≤ wd) : numB (v / 16) (wd - 4) ++ numB (v % 16) 4 = numB v wd := by
  apply List.ext_getElem?
  intro i
  by_cases h1 : i < wd - 4
  · rw [List.getElem?_append_left (by rw [numB_len]; exact h1), numB_get h1, numB_get (by omega)]
    congr 2
    rw [show wd - 1 - i = 4 + (wd - 4 - 1 - i) by omega, Nat.pow_add, ← Nat.div_div_eq_div_mul]
  · rw [List.getElem?_append_right (by rw [numB_len]; omega), numB_len]
    by_cases h2 : i < wd
    · rw [numB_get (by omega), numB_get h2]
      congr 2
      obtain ⟨j, hj, rfl⟩ : ∃ j, j < 4 ∧ i = wd - 4 + j := ⟨i - (wd - 4), by omega, by omega⟩
      rw [show 4 - 1 - (wd - 4 + j - (wd - 4)) = 3 - j by omega, show wd - 1 - (wd - 4 + j) = 3 - j by omega]
      have : j = 0 ∨ j = 1 ∨ j = 2 ∨ j = 3 := by omega
      rcases this with rfl | rfl | rfl | rfl <;> simp <;> omega
    · rw [List.getElem?_eq_none (by rw [numB_len]; omega), List.getElem?_eq_none (by rw [numB_len]; omega)]

set_option maxRecDepth 100000 in
set_option maxHeartbeats 4000000 in
theorem FnPutBitsParts_walk (ao : Option Addr) (len cap : Nat) (w : World) (hb : BytesAt w ao len) (hlc : len ≤ cap) (hmax : len ≤ 9223372036854775807) (hE : Errs w) :
    Calls Tryd.prog 4 #[.slice ao len cap] w (Holds w) := by
  by_cases hlen : 1048576 < len
  · clear hb hE
    go_enter Tryd.func4, Tryd.ntmps4
    go_wp2
    go_ret
    exact ⟨rfl, grown_refl _ _⟩
  have hd := drawPB_any ao len cap w hb hlc hmax
  have hm : decide (1048576 < (len : Int)) = false := by simp; omega
  have HE0 := Lib.hid hE
  clear hb hlc hmax hlen hE
  go_enter Tryd.func4, Tryd.ntmps4
  go_wp2_with fail
  refine hd.mono ?_
  rintro e w1 ⟨a1, l1, k1, c, xs, x, z, rfl, hl1, hlc1, hn1, hx1, hg1⟩
  have HN := Lib.hid hn1
  have HG1 := Lib.hid hg1
  have HE := Lib.hid (HE0.out.grown hg1)
  have HM := Lib.hid ((Mem.start w1).block (.cells #[.slice a1 l1 k1, .int .i64 c] 25))
  have HX := Lib.hid (hx1.grown HM.out.g)
  clear hd hn1 hx1 hg1
  obtain ⟨o, ho, hS, hI, hA, hC⟩ := put_both xs c x z l1 (by omega)
  have HO := Lib.hid ho
  clear ho
  cases o with
  | none =>
    have q0 := (two_cells (HM.out.get (b := w1.heap.size) (o := .cells #[.slice a1 l1 k1, .int .i64 c] 25) (by simp))).1
    have q1 := (two_cells (HM.out.get (b := w1.heap.size) (o := .cells #[.slice a1 l1 k1, .int .i64 c] 25) (by simp))).2
    go_wp2_with fail
    refine (hI.out a1 k1 _ HX.out HN.out (HE.out.grown HM.out.g)).mono ?_
    rintro e w2 ⟨rfl, hg2⟩
    have HX2 := Lib.hid ((HX.out.grown hg2).grown (grown_alloc w2 (.cells #[.slice none 0 0, .int .i64 0] 25) none))
    have HM2 := Lib.hid ((HM.out.grown hg2).block (.cells #[.slice none 0 0, .int .i64 0] 25))
    clear q0 q1 hg2
    have q0 := (two_cells (HM2.out.get (b := w1.heap.size) (o := .cells #[.slice a1 l1 k1, .int .i64 c] 25) (by simp))).1
    have q1 := (two_cells (HM2.out.get (b := w1.heap.size) (o := .cells #[.slice a1 l1 k1, .int .i64 c] 25) (by simp))).2
    go_wp2_with fail
    refine (hS.out a1 k1 _ HX2.out HN.out).mono ?_
    rintro e w3 ⟨rfl, hg3⟩
    have HM3 := Lib.hid ((HM2.out.grown hg3).block (.cells #[.slice none 0 0, .int .i64 0] 25))
    clear q0 q1 hg3
    have s0 := (two_cells (HM3.out.get (b := w2.heap.size) (o := .cells #[.slice none 0 0, .int .i64 0] 25) (by simp))).1
    have s1 := (two_cells (HM3.out.get (b := w2.heap.size) (o := .cells #[.slice none 0 0, .int .i64 0] 25) (by simp))).2
    have t0 := (two_cells (HM3.out.get (b := w3.heap.size) (o := .cells #[.slice none 0 0, .int .i64 0] 25) (by simp))).1
    have t1 := (two_cells (HM3.out.get (b := w3.heap.size) (o := .cells #[.slice none 0 0, .int .i64 0] 25) (by simp))).2
    go_wp2_with fail
    refine (equalBits_same [] none none 0 0 0 0 _ ⟨rfl, Or.inl rfl⟩ ⟨rfl, Or.inl rfl⟩ (by omega)).mono ?_
    rintro e w4 ⟨rfl, hg4⟩
    have HM4 := Lib.hid (HM3.out.grown hg4)
    clear s0 s1 t0 t1 hg4
    have s0 := (two_cells (HM4.out.get (b := w2.heap.size) (o := .cells #[.slice none 0 0, .int .i64 0] 25) (by simp))).1
    have s1 := (two_cells (HM4.out.get (b := w2.heap.size) (o := .cells #[.slice none 0 0, .int .i64 0] 25) (by simp))).2
    have t0 := (two_cells (HM4.out.get (b := w3.heap.size) (o := .cells #[.slice none 0 0, .int .i64 0] 25) (by simp))).1
    have t1 := (two_cells (HM4.out.get (b := w3.heap.size) (o := .cells #[.slice none 0 0, .int .i64 0] 25) (by simp))).2
    go_wp2_with fail
    refine (equalBits_same [] none none 0 0 0 0 _ ⟨rfl, Or.inl rfl⟩ ⟨rfl, Or.inl rfl⟩ (by omega)).mono ?_
    rintro e w5 ⟨rfl, hg5⟩
    have HM5 := Lib.hid (HM4.out.grown hg5)
    clear s0 s1 t0 t1 hg5
    go_wp2
    go_ret
    exact ⟨rfl, grown_trans HG1.out HM5.out.g⟩
  | some rs =>
    obtain ⟨bs, v, wd, hxs, hcc, hxx, hzz, hroom, hwd, hv, hrs⟩ := hC.out rs rfl
    have hrl : rs.length ≤ 16384 := HO.out rs rfl
    obtain ⟨m, hm⟩ : ∃ m, rs.length = m := ⟨_, rfl⟩
    obtain ⟨n, hn⟩ : ∃ n, (rs.length + 7) / 8 = n := ⟨_, rfl⟩
    have hn2 : n ≤ 2048 := by omega
    have HRS := Lib.hid (And.intro hrs (And.intro hm hn))
    have HD := Lib.hid (And.intro hxs (And.intro hcc (And.intro hroom hv)))
    subst hxx
    subst hzz
    clear hrs HO hxs hcc hroom hv hrl hm hn
    have q0 := (two_cells (HM.out.get (b := w1.heap.size) (o := .cells #[.slice a1 l1 k1, .int .i64 c] 25) (by simp))).1
    have q1 := (two_cells (HM.out.get (b := w1.heap.size) (o := .cells #[.slice a1 l1 k1, .int .i64 c] 25) (by simp))).2
    go_wp2_with fail
    refine (hI.out a1 k1 _ HX.out HN.out (HE.out.grown HM.out.g)).mono ?_
    rintro e w2 ⟨v2, rfl, ho2, hg2⟩
    rw [HRS.out.2.1]
    rw [HRS.out.2.2] at ho2
    obtain ⟨p2, c2, rfl, _, _, hx2, _⟩ := ho2.reads
    have HM2 := Lib.hid ((HM.out.grown hg2).block (.cells #[.slice p2 n c2, .int .i64 (m : Int)] 25))
    have HY2 := Lib.hid (hx2.grown (grown_alloc w2 (.cells #[.slice p2 n c2, .int .i64 (m : Int)] 25) none))
    have HX2 := Lib.hid ((HX.out.grown hg2).grown (grown_alloc w2 (.cells #[.slice p2 n c2, .int .i64 (m : Int)] 25) none))
    clear q0 q1 ho2 hg2 hx2
    have q0 := (two_cells (HM2.out.get (b := w1.heap.size) (o := .cells #[.slice a1 l1 k1, .int .i64 c] 25) (by simp))).1
    have q1 := (two_cells (HM2.out.get (b := w1.heap.size) (o := .cells #[.slice a1 l1 k1, .int .i64 c] 25) (by simp))).2
    go_wp2_with fail
    refine (hS.out a1 k1 _ HX2.out HN.out).mono ?_
    rintro e w3 ⟨v3, rfl, ho3, hg3⟩
    rw [HRS.out.2.1]
    rw [HRS.out.2.2] at ho3
    obtain ⟨p3, c3, rfl, _, _, hx3, _⟩ := ho3.reads
    have HM3 := Lib.hid ((HM2.out.grown hg3).block (.cells #[.slice p3 n c3, .int .i64 (m : Int)] 25))
    have HY3 := Lib.hid (hx3.grown (grown_alloc w3 (.cells #[.slice p3 n c3, .int .i64 (m : Int)] 25) none))
    have HX3 := Lib.hid ((HX2.out.grown hg3).grown (grown_alloc w3 (.cells #[.slice p3 n c3, .int .i64 (m : Int)] 25) none))
    have HY2b := Lib.hid ((HY2.out.grown hg3).grown (grown_alloc w3 (.cells #[.slice p3 n c3, .int .i64 (m : Int)] 25) none))
    clear q0 q1 ho3 hg3 hx3
    have s0 := (two_cells (HM3.out.get (b := w2.heap.size) (o := .cells #[.slice p2 n c2, .int .i64 (m : Int)] 25) (by simp))).1
    have s1 := (two_cells (HM3.out.get (b := w2.heap.size) (o := .cells #[.slice p2 n c2, .int .i64 (m : Int)] 25) (by simp))).2
    have t0 := (two_cells (HM3.out.get (b := w3.heap.size) (o := .cells #[.slice p3 n c3, .int .i64 (m : Int)] 25) (by simp))).1
    have t1 := (two_cells (HM3.out.get (b := w3.heap.size) (o := .cells #[.slice p3 n c3, .int .i64 (m : Int)] 25) (by simp))).2
    go_wp2_with fail
    refine (equalBits_same (pk rs) p2 p3 n c2 c3 (m : Int) _ HY2b.out HY3.out (by omega)).mono ?_
    rintro e w4 ⟨rfl, hg4⟩
    have HM4 := Lib.hid (HM3.out.grown hg4)
    have HX4 := Lib.hid (HX3.out.grown hg4)
    have HY24 := Lib.hid (HY2b.out.grown hg4)
    have HY34 := Lib.hid (HY3.out.grown hg4)
    clear s0 s1 t0 t1 hg4
    by_cases hw4 : wd < 4
    · have hd4 : decide ((wd : Int) < 4) = true := by simp; omega
      have s0 := (two_cells (HM4.out.get (b := w2.heap.size) (o := .cells #[.slice p2 n c2, .int .i64 (m : Int)] 25) (by simp))).1
      have s1 := (two_cells (HM4.out.get (b := w2.heap.size) (o := .cells #[.slice p2 n c2, .int .i64 (m : Int)] 25) (by simp))).2
      have t0 := (two_cells (HM4.out.get (b := w3.heap.size) (o := .cells #[.slice p3 n c3, .int .i64 (m : Int)] 25) (by simp))).1
      have t1 := (two_cells (HM4.out.get (b := w3.heap.size) (o := .cells #[.slice p3 n c3, .int .i64 (m : Int)] 25) (by simp))).2
      go_wp2_with fail
      refine (equalBits_same (pk rs) p2 p3 n c2 c3 (m : Int) _ HY24.out HY34.out (by omega)).mono ?_
      rintro e w5 ⟨rfl, hg5⟩
      have HM5 := Lib.hid (HM4.out.grown hg5)
      clear s0 s1 t0 t1 hg5
      go_wp2
      go_ret
      exact ⟨rfl, grown_trans HG1.out HM5.out.g⟩
    have hd4 : decide ((wd : Int) < 4) = false := by simp; omega
    have hd5 : (wd : Int) - 4 = ((wd - 4 : Nat) : Int) := by omega
    have hv16 : v / 16 < 2 ^ (wd - 4) := by
      have h := HD.out.2.2.2
      rw [show wd = 4 + (wd - 4) by omega, Nat.pow_add] at h
      exact Nat.div_lt_of_lt_mul (by simpa using h)
    obtain ⟨m5, hm5⟩ : ∃ m5, (bs ++ numB (v / 16) (wd - 4)).length = m5 := ⟨_, rfl⟩
    obtain ⟨n5, hn5⟩ : ∃ n5, (m5 + 7) / 8 = n5 := ⟨_, rfl⟩
    have hl5 : (bs ++ numB (v / 16) (wd - 4)).length = bs.length + (wd - 4) := by simp [numB_len]
    have H5 := Lib.hid (And.intro hm5 (And.intro hn5 (And.intro hl5 hv16)))
    clear hm5 hn5 hl5 hv16
    have q0 := (two_cells (HM4.out.get (b := w1.heap.size) (o := .cells #[.slice a1 l1 k1, .int .i64 c] 25) (by simp))).1
    have q1 := (two_cells (HM4.out.get (b := w1.heap.size) (o := .cells #[.slice a1 l1 k1, .int .i64 c] 25) (by simp))).2
    obtain ⟨mb, hmb⟩ : ∃ mb, bs.length = mb := ⟨_, rfl⟩
    have hcm : c = (mb : Int) := by rw [← hmb]; exact HD.out.2.1
    subst hcm
    have HMB := Lib.hid hmb
    clear hmb
    go_wp2_with fail
    rw [show (v : Int) / 16 = ((v / 16 : Nat) : Int) by omega]
    refine (iPut_good bs mb (v / 16) (wd - 4) HMB.out a1 l1 k1 w4 (HD.out.1 ▸ HX4.out) HN.out (by omega) H5.out.2.2.2 (by have := HD.out.2.2.1; omega)).mono ?_
    rintro e w5 ⟨v5, rfl, ho5, hg5⟩
    rw [H5.out.1]
    rw [H5.out.1, H5.out.2.1] at ho5
    obtain ⟨p5, c5, rfl, _, hnn5, hx5, _⟩ := ho5.reads
    have HM5 := Lib.hid ((HM4.out.grown hg5).block (.cells #[.slice p5 n5 c5, .int .i64 (m5 : Int)] 25))
    have HY5 := Lib.hid (hx5.grown (grown_alloc w5 (.cells #[.slice p5 n5 c5, .int .i64 (m5 : Int)] 25) none))
    have HY25 := Lib.hid ((HY24.out.grown hg5).grown (grown_alloc w5 (.cells #[.slice p5 n5 c5, .int .i64 (m5 : Int)] 25) none))
    have HN5 := Lib.hid hnn5
    clear q0 q1 ho5 hg5 hx5 hnn5
    have s0 := (two_cells (HM5.out.get (b := w5.heap.size) (o := .cells #[.slice p5 n5 c5, .int .i64 (m5 : Int)] 25) (by simp))).1
    have s1 := (two_cells (HM5.out.get (b := w5.heap.size) (o := .cells #[.slice p5 n5 c5, .int .i64 (m5 : Int)] 25) (by simp))).2
    go_wp2_with fail
    rw [show (v : Int) % 16 = ((v % 16 : Nat) : Int) by omega]
    have hrs2 : bs ++ numB (v / 16) (wd - 4) ++ numB (v % 16) 4 = rs := by rw [HRS.out.1, List.append_assoc, numB_split v wd (by omega)]
    have k6 := iPut_good (bs ++ numB (v / 16) (wd - 4)) m5 (v % 16) 4 H5.out.1 p5 n5 c5 _ HY5.out HN5.out (by omega) (by omega) (by have := HD.out.2.2.1; have := H5.out.2.2.1; omega)
    rw [hrs2] at k6
    refine Calls.mono k6 ?_
    rintro e w6 ⟨v6, rfl, ho6, hg6⟩
    rw [HRS.out.2.1]
    rw [HRS.out.2.2] at ho6
    obtain ⟨p6, c6, rfl, _, _, hx6, _⟩ := ho6.reads
    have HM6 := Lib.hid ((HM5.out.grown hg6).block (.cells #[.slice p6 n c6, .int .i64 (m : Int)] 25))
    have HY6 := Lib.hid (hx6.grown (grown_alloc w6 (.cells #[.slice p6 n c6, .int .i64 (m : Int)] 25) none))
    have HY26 := Lib.hid ((HY25.out.grown hg6).grown (grown_alloc w6 (.cells #[.slice p6 n c6, .int .i64 (m : Int)] 25) none))
    clear s0 s1 ho6 hg6 hx6 k6
    have s0 := (two_cells (HM6.out.get (b := w6.heap.size) (o := .cells #[.slice p6 n c6, .int .i64 (m : Int)] 25) (by simp))).1
    have s1 := (two_cells (HM6.out.get (b := w6.heap.size) (o := .cells #[.slice p6 n c6, .int .i64 (m : Int)] 25) (by simp))).2
    have t0 := (two_cells (HM6.out.get (b := w2.heap.size) (o := .cells #[.slice p2 n c2, .int .i64 (m : Int)] 25) (by simp))).1
    have t1 := (two_cells (HM6.out.get (b := w2.heap.size) (o := .cells #[.slice p2 n c2, .int .i64 (m : Int)] 25) (by simp))).2
    go_wp2_with fail
    refine (equalBits_same (pk rs) p6 p2 n c6 c2 (m : Int) _ HY6.out HY26.out (by omega)).mono ?_
    rintro e w7 ⟨rfl, hg7⟩
    have HM7 := Lib.hid (HM6.out.grown hg7)
    clear s0 s1 t0 t1 hg7
    go_wp2
    go_ret
    exact ⟨rfl, grown_trans HG1.out HM7.out.g⟩

end Go.Proofs.YtcgcippniicaaaaDoor
