/-
  The walk of 'FnScaleAudioTwice': it returns true and writes nothing that was there. For every code.
-/
import Derived.Test.YthjelbanelmekaaDrawLv
import Derived.Test.YthjelbanelmekaaEqA
import Derived.Test.YthjelbanelmekaaScI
import Derived.Test.YthjelbanelmekaaScP
import Derived.Test.YthjelbanelmekaaMem
namespace Go.Proofs.Ythjelbanelmekaa
open Go.RowKit

set_option maxRecDepth 100000 in
set_option maxHeartbeats 4000000 in
theorem FnScaleAudioTwice_walk (ao : Option Addr) (len cap : Nat) (w : World) (hb : BytesAt w ao len) (hlc : len ≤ cap) (hmax : len ≤ 9223372036854775807) :
    Calls Try.prog 6 #[.slice ao len cap] w (Holds w) := by
  by_cases hlen : 1048576 < len
  · clear hb
    go_enter Try.func6, Try.ntmps6
    go_wp2
    go_ret
    exact ⟨rfl, grown_refl _ _⟩
  have hd := drawSc_any ao len cap w hb hlc hmax
  have hm : decide (1048576 < (len : Int)) = false := by simp; omega
  clear hb hlen
  go_enter Try.func6, Try.ntmps6
  go_wp2_with fail
  refine hd.mono ?_
  rintro e w1 ⟨p, q, a, l, c, xss, x0, x1, rfl, hx0, hx1, hmat, hl2, hs2, hg1⟩
  obtain rfl := hmat.1
  have HM := Lib.hid (((Mem.start w).grown hg1).block (.cells #[.int .i64 p, .int .i64 q, .slice a xss.length c] 25))
  have HX := Lib.hid (hmat.grown (grown_alloc w1 (.cells #[.int .i64 p, .int .i64 q, .slice a xss.length c] 25) none))
  have hsz : szL xss ≤ 1048576 := by omega
  clear hd hmat hg1
  have hx0b : 0 ≤ x0 ∧ x0 ≤ 300 := by simp at hx0; omega
  have hx00 := hx0b.1
  have hx01 := hx0b.2
  clear hx0 hx0b
  have hx1b : 0 ≤ x1 ∧ x1 ≤ 300 := by simp at hx1; omega
  have hx10 := hx1b.1
  have hx11 := hx1b.2
  clear hx1 hx1b
  obtain ⟨rr, dd, yss, nn, ok, hS⟩ := ScR_there p q x0 x1 xss
  have hszy : szL yss ≤ 1048576 := Nat.le_trans (ScR_sz hS) hsz
  have HS := Lib.hid hS
  clear hS
  obtain ⟨q00, q01, q02⟩ := three_cells (HM.out.get (b := w1.heap.size) (o := .cells #[.int .i64 p, .int .i64 q, .slice a xss.length c] 25) (by simp))
  go_wp2_with fail
  refine (iSc_any xss a xss.length c p q x0 x1 _ rr dd nn yss ok HX.out hsz HS.out).mono ?_
  rintro e w2 ⟨v2, rfl, ho2, hg2⟩
  obtain ⟨a2, c2, rfl, _, _, hm2, _⟩ := ho2.reads
  replace HM := Lib.hid ((HM.out.grown hg2).block (.cells #[.int .i64 rr, .int .i64 dd, .slice a2 yss.length c2] 25))
  replace HX := Lib.hid ((HX.out.grown hg2).grown (grown_alloc w2 (.cells #[.int .i64 rr, .int .i64 dd, .slice a2 yss.length c2] 25) none))
  have HY : Hid (Mat (w2.alloc (.cells #[.int .i64 rr, .int .i64 dd, .slice a2 yss.length c2] 25)) a2 yss.length yss) := by
    have h := hm2.grown (grown_alloc w2 (.cells #[.int .i64 rr, .int .i64 dd, .slice a2 yss.length c2] 25) none)
    first | exact h | (simp only [List.length_map] at h; exact h)
  clear q00 q01 q02 hg2 ho2 hm2
  obtain ⟨q00, q01, q02⟩ := three_cells (HM.out.get (b := w1.heap.size) (o := .cells #[.int .i64 p, .int .i64 q, .slice a xss.length c] 25) (by simp))
  obtain ⟨q10, q11, q12⟩ := three_cells (HM.out.get (b := w2.heap.size) (o := .cells #[.int .i64 rr, .int .i64 dd, .slice a2 yss.length c2] 25) (by simp))
  go_wp2_with fail
  refine (sSc_any xss a xss.length c p q x0 x1 _ rr dd nn yss ok HX.out hsz HS.out).mono ?_
  rintro e w3 ⟨v3, rfl, ho3, hg3⟩
  obtain ⟨a3, c3, rfl, _, _, hm3, _⟩ := ho3.reads
  replace HM := Lib.hid ((HM.out.grown hg3).block (.cells #[.int .i64 rr, .int .i64 dd, .slice a3 yss.length c3] 25))
  replace HX := Lib.hid ((HX.out.grown hg3).grown (grown_alloc w3 (.cells #[.int .i64 rr, .int .i64 dd, .slice a3 yss.length c3] 25) none))
  replace HY := Lib.hid ((HY.out.grown hg3).grown (grown_alloc w3 (.cells #[.int .i64 rr, .int .i64 dd, .slice a3 yss.length c3] 25) none))
  have HW : Hid (Mat (w3.alloc (.cells #[.int .i64 rr, .int .i64 dd, .slice a3 yss.length c3] 25)) a3 yss.length yss) := by
    have h := hm3.grown (grown_alloc w3 (.cells #[.int .i64 rr, .int .i64 dd, .slice a3 yss.length c3] 25) none)
    first | exact h | (simp only [List.length_map] at h; exact h)
  clear q00 q01 q02 q10 q11 q12 hg3 ho3 hm3
  obtain ⟨q00, q01, q02⟩ := three_cells (HM.out.get (b := w1.heap.size) (o := .cells #[.int .i64 p, .int .i64 q, .slice a xss.length c] 25) (by simp))
  obtain ⟨q10, q11, q12⟩ := three_cells (HM.out.get (b := w2.heap.size) (o := .cells #[.int .i64 rr, .int .i64 dd, .slice a2 yss.length c2] 25) (by simp))
  obtain ⟨q20, q21, q22⟩ := three_cells (HM.out.get (b := w3.heap.size) (o := .cells #[.int .i64 rr, .int .i64 dd, .slice a3 yss.length c3] 25) (by simp))
  go_wp2_with fail
  refine (equalAudio_same yss a2 a3 _ c2 c3 rr dd _ HY.out HW.out hszy).mono ?_
  rintro e w4 ⟨rfl, hg4⟩
  replace HM := Lib.hid (HM.out.grown hg4)
  replace HX := Lib.hid (HX.out.grown hg4)
  replace HY := Lib.hid (HY.out.grown hg4)
  replace HW := Lib.hid (HW.out.grown hg4)
  clear q00 q01 q02 q10 q11 q12 q20 q21 q22 hg4
  cases ok with
  | false =>
    obtain ⟨q00, q01, q02⟩ := three_cells (HM.out.get (b := w1.heap.size) (o := .cells #[.int .i64 p, .int .i64 q, .slice a xss.length c] 25) (by simp))
    obtain ⟨q10, q11, q12⟩ := three_cells (HM.out.get (b := w2.heap.size) (o := .cells #[.int .i64 rr, .int .i64 dd, .slice a2 yss.length c2] 25) (by simp))
    obtain ⟨q20, q21, q22⟩ := three_cells (HM.out.get (b := w3.heap.size) (o := .cells #[.int .i64 rr, .int .i64 dd, .slice a3 yss.length c3] 25) (by simp))
    go_wp2_with fail
    refine (equalAudio_same yss a2 a3 _ c2 c3 rr dd _ HY.out HW.out hszy).mono ?_
    rintro e w5 ⟨rfl, hg5⟩
    replace HM := Lib.hid (HM.out.grown hg5)
    replace HX := Lib.hid (HX.out.grown hg5)
    replace HY := Lib.hid (HY.out.grown hg5)
    replace HW := Lib.hid (HW.out.grown hg5)
    clear q00 q01 q02 q10 q11 q12 q20 q21 q22 hg5
    obtain ⟨q00, q01, q02⟩ := three_cells (HM.out.get (b := w1.heap.size) (o := .cells #[.int .i64 p, .int .i64 q, .slice a xss.length c] 25) (by simp))
    obtain ⟨q10, q11, q12⟩ := three_cells (HM.out.get (b := w2.heap.size) (o := .cells #[.int .i64 rr, .int .i64 dd, .slice a2 yss.length c2] 25) (by simp))
    obtain ⟨q20, q21, q22⟩ := three_cells (HM.out.get (b := w3.heap.size) (o := .cells #[.int .i64 rr, .int .i64 dd, .slice a3 yss.length c3] 25) (by simp))
    go_wp2
    go_ret
    exact ⟨rfl, HM.out.g⟩
  | true =>
  obtain ⟨rfl, rfl, hn1, hn2, hd1, hd2, u, H, hV, rfl, rfl⟩ : p = rr ∧ q = dd ∧ 1 ≤ x0 ∧ x0 ≤ 64 ∧ 1 ≤ x1 ∧ x1 ≤ 64 ∧ ∃ u H, VA p q xss u H ∧ yss = xss.map (scL u x0 x1) ∧ nn = (clM u x0 x1 xss : Int) := by
    rcases HS.out with ⟨_, h2, h3, h4, h5, u, H, hV, h6, h7⟩ | ⟨h1, _⟩
    · exact ⟨h2.symm, h3.symm, h4.1, h4.2, h5.1, h5.2, u, H, hV, h6, h7⟩
    · cases h1
  have HV := Lib.hid hV
  clear hV
  rw [show (xss.map (scL u x0 x1)).length = xss.length from List.length_map _] at HM HY HW
  have hS2 := scR_of HV.out (show (1 : Int) ≤ 2 by omega) (by omega) (show (1 : Int) ≤ 1 by omega) (by omega)
  have HS2 := Lib.hid hS2
  have hS3 := scR_of (sc_va HV.out 2 1) (show (1 : Int) ≤ 1 by omega) (by omega) (show (1 : Int) ≤ 2 by omega) (by omega)
  rw [clM_small (sc_va HV.out 2 1) (by omega) (by omega)] at hS3
  have HS3 := Lib.hid hS3
  have hsz2 : szL (xss.map (scL u 2 1)) ≤ 1048576 := Nat.le_trans (ScR_sz HS2.out) hsz
  have HTW : Hid (clM u 2 1 xss = 0 → (xss.map (scL u 2 1)).map (scL u 1 2) = xss) := scM_twice HV.out
  obtain ⟨cz, hcz⟩ : ∃ cz, clM u 2 1 xss = cz := ⟨_, rfl⟩
  rw [hcz] at HTW
  rw [hcz] at HS2
  clear hS2 hS3 hcz
  obtain ⟨q00, q01, q02⟩ := three_cells (HM.out.get (b := w1.heap.size) (o := .cells #[.int .i64 p, .int .i64 q, .slice a xss.length c] 25) (by simp))
  obtain ⟨q10, q11, q12⟩ := three_cells (HM.out.get (b := w2.heap.size) (o := .cells #[.int .i64 p, .int .i64 q, .slice a2 xss.length c2] 25) (by simp))
  obtain ⟨q20, q21, q22⟩ := three_cells (HM.out.get (b := w3.heap.size) (o := .cells #[.int .i64 p, .int .i64 q, .slice a3 xss.length c3] 25) (by simp))
  go_wp2_with fail
  refine (iSc_any xss a xss.length c p q 2 1 _ p q _ _ true HX.out hsz HS2.out).mono ?_
  rintro e w5 ⟨v5, rfl, ho5, hg5⟩
  obtain ⟨a5, c5, rfl, _, _, hm5, _⟩ := ho5.reads
  replace HM := Lib.hid ((HM.out.grown hg5).block (.cells #[.int .i64 p, .int .i64 q, .slice a5 xss.length c5] 25))
  replace HX := Lib.hid ((HX.out.grown hg5).grown (grown_alloc w5 (.cells #[.int .i64 p, .int .i64 q, .slice a5 xss.length c5] 25) none))
  replace HY := Lib.hid ((HY.out.grown hg5).grown (grown_alloc w5 (.cells #[.int .i64 p, .int .i64 q, .slice a5 xss.length c5] 25) none))
  replace HW := Lib.hid ((HW.out.grown hg5).grown (grown_alloc w5 (.cells #[.int .i64 p, .int .i64 q, .slice a5 xss.length c5] 25) none))
  have HT : Hid (Mat (w5.alloc (.cells #[.int .i64 p, .int .i64 q, .slice a5 xss.length c5] 25)) a5 xss.length (xss.map (scL u 2 1))) := by
    have h := hm5.grown (grown_alloc w5 (.cells #[.int .i64 p, .int .i64 q, .slice a5 xss.length c5] 25) none)
    first | exact h | (simp only [List.length_map] at h; exact h)
  clear q00 q01 q02 q10 q11 q12 q20 q21 q22 hg5 ho5 hm5
  obtain ⟨q00, q01, q02⟩ := three_cells (HM.out.get (b := w1.heap.size) (o := .cells #[.int .i64 p, .int .i64 q, .slice a xss.length c] 25) (by simp))
  obtain ⟨q10, q11, q12⟩ := three_cells (HM.out.get (b := w2.heap.size) (o := .cells #[.int .i64 p, .int .i64 q, .slice a2 xss.length c2] 25) (by simp))
  obtain ⟨q20, q21, q22⟩ := three_cells (HM.out.get (b := w3.heap.size) (o := .cells #[.int .i64 p, .int .i64 q, .slice a3 xss.length c3] 25) (by simp))
  obtain ⟨q30, q31, q32⟩ := three_cells (HM.out.get (b := w5.heap.size) (o := .cells #[.int .i64 p, .int .i64 q, .slice a5 xss.length c5] 25) (by simp))
  go_wp2_with fail
  refine (iSc_any (xss.map (scL u 2 1)) a5 xss.length c5 p q 1 2 _ p q _ _ true HT.out hsz2 HS3.out).mono ?_
  rintro e w6 ⟨v6, rfl, ho6, hg6⟩
  obtain ⟨a6, c6, rfl, _, _, hm6, _⟩ := ho6.reads
  replace HM := Lib.hid ((HM.out.grown hg6).block (.cells #[.int .i64 p, .int .i64 q, .slice a6 xss.length c6] 25))
  replace HX := Lib.hid ((HX.out.grown hg6).grown (grown_alloc w6 (.cells #[.int .i64 p, .int .i64 q, .slice a6 xss.length c6] 25) none))
  replace HY := Lib.hid ((HY.out.grown hg6).grown (grown_alloc w6 (.cells #[.int .i64 p, .int .i64 q, .slice a6 xss.length c6] 25) none))
  replace HW := Lib.hid ((HW.out.grown hg6).grown (grown_alloc w6 (.cells #[.int .i64 p, .int .i64 q, .slice a6 xss.length c6] 25) none))
  replace HT := Lib.hid ((HT.out.grown hg6).grown (grown_alloc w6 (.cells #[.int .i64 p, .int .i64 q, .slice a6 xss.length c6] 25) none))
  have HU : Hid (Mat (w6.alloc (.cells #[.int .i64 p, .int .i64 q, .slice a6 xss.length c6] 25)) a6 xss.length ((xss.map (scL u 2 1)).map (scL u 1 2))) := by
    have h := hm6.grown (grown_alloc w6 (.cells #[.int .i64 p, .int .i64 q, .slice a6 xss.length c6] 25) none)
    first | exact h | (simp only [List.length_map] at h; exact h)
  clear q00 q01 q02 q10 q11 q12 q20 q21 q22 q30 q31 q32 hg6 ho6 hm6
  by_cases hc0 : 0 < cz
  · have hb : decide ((0 : Int) < (cz : Int)) = true := by simp; omega
    obtain ⟨q00, q01, q02⟩ := three_cells (HM.out.get (b := w1.heap.size) (o := .cells #[.int .i64 p, .int .i64 q, .slice a xss.length c] 25) (by simp))
    obtain ⟨q10, q11, q12⟩ := three_cells (HM.out.get (b := w2.heap.size) (o := .cells #[.int .i64 p, .int .i64 q, .slice a2 xss.length c2] 25) (by simp))
    obtain ⟨q20, q21, q22⟩ := three_cells (HM.out.get (b := w3.heap.size) (o := .cells #[.int .i64 p, .int .i64 q, .slice a3 xss.length c3] 25) (by simp))
    obtain ⟨q30, q31, q32⟩ := three_cells (HM.out.get (b := w5.heap.size) (o := .cells #[.int .i64 p, .int .i64 q, .slice a5 xss.length c5] 25) (by simp))
    obtain ⟨q40, q41, q42⟩ := three_cells (HM.out.get (b := w6.heap.size) (o := .cells #[.int .i64 p, .int .i64 q, .slice a6 xss.length c6] 25) (by simp))
    go_wp2
    go_ret
    exact ⟨rfl, HM.out.g⟩
  obtain rfl : cz = 0 := by omega
  replace HU := Lib.hid HU.out
  rw [HTW.out rfl] at HU
  obtain ⟨q00, q01, q02⟩ := three_cells (HM.out.get (b := w1.heap.size) (o := .cells #[.int .i64 p, .int .i64 q, .slice a xss.length c] 25) (by simp))
  obtain ⟨q10, q11, q12⟩ := three_cells (HM.out.get (b := w2.heap.size) (o := .cells #[.int .i64 p, .int .i64 q, .slice a2 xss.length c2] 25) (by simp))
  obtain ⟨q20, q21, q22⟩ := three_cells (HM.out.get (b := w3.heap.size) (o := .cells #[.int .i64 p, .int .i64 q, .slice a3 xss.length c3] 25) (by simp))
  obtain ⟨q30, q31, q32⟩ := three_cells (HM.out.get (b := w5.heap.size) (o := .cells #[.int .i64 p, .int .i64 q, .slice a5 xss.length c5] 25) (by simp))
  obtain ⟨q40, q41, q42⟩ := three_cells (HM.out.get (b := w6.heap.size) (o := .cells #[.int .i64 p, .int .i64 q, .slice a6 xss.length c6] 25) (by simp))
  go_wp2_with fail
  refine (equalAudio_same xss a6 a _ c6 c p q _ HU.out HX.out hsz).mono ?_
  rintro e w7 ⟨rfl, hg7⟩
  replace HM := Lib.hid (HM.out.grown hg7)
  replace HX := Lib.hid (HX.out.grown hg7)
  replace HY := Lib.hid (HY.out.grown hg7)
  replace HW := Lib.hid (HW.out.grown hg7)
  replace HT := Lib.hid (HT.out.grown hg7)
  replace HU := Lib.hid (HU.out.grown hg7)
  clear q00 q01 q02 q10 q11 q12 q20 q21 q22 q30 q31 q32 q40 q41 q42 hg7
  obtain ⟨q00, q01, q02⟩ := three_cells (HM.out.get (b := w1.heap.size) (o := .cells #[.int .i64 p, .int .i64 q, .slice a xss.length c] 25) (by simp))
  obtain ⟨q10, q11, q12⟩ := three_cells (HM.out.get (b := w2.heap.size) (o := .cells #[.int .i64 p, .int .i64 q, .slice a2 xss.length c2] 25) (by simp))
  obtain ⟨q20, q21, q22⟩ := three_cells (HM.out.get (b := w3.heap.size) (o := .cells #[.int .i64 p, .int .i64 q, .slice a3 xss.length c3] 25) (by simp))
  obtain ⟨q30, q31, q32⟩ := three_cells (HM.out.get (b := w5.heap.size) (o := .cells #[.int .i64 p, .int .i64 q, .slice a5 xss.length c5] 25) (by simp))
  obtain ⟨q40, q41, q42⟩ := three_cells (HM.out.get (b := w6.heap.size) (o := .cells #[.int .i64 p, .int .i64 q, .slice a6 xss.length c6] 25) (by simp))
  go_wp2
  go_ret
  exact ⟨rfl, HM.out.g⟩

end Go.Proofs.Ythjelbanelmekaa
