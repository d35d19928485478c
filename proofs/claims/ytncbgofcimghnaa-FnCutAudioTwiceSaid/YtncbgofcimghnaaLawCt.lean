/-
  The walk of 'FnCutAudioTwice': it returns true and writes nothing that was there. For every code.
-/
import Derived.Test.YtncbgofcimghnaaDrawEd
import Derived.Test.YtncbgofcimghnaaEqA
import Derived.Test.YtncbgofcimghnaaEdS
import Derived.Test.YtncbgofcimghnaaEdPc
import Derived.Test.YtncbgofcimghnaaEdZ
import Derived.Test.YtncbgofcimghnaaMem
namespace Go.Proofs.Ytncbgofcimghnaa
open Go.RowKit

theorem cu_of {r d : Int} {xss : List (List Int)} {u H f t : Nat} {a b : Int} (h : VA r d xss u H) (hf : f ≤ t) (ht : t ≤ H) (ha : a = (f : Int)) (hb : b = (t : Int)) : CuR r d a b xss r d (xss.map (cutR f t)) true := by
  subst ha hb
  refine Or.inl ⟨⟨va_back h, by omega, by omega, by rw [h.hd]; omega⟩, rfl, rfl, rfl, by simp⟩
theorem cut_cut {r d : Int} {xss : List (List Int)} {u H f t a b : Nat} (_h : VA r d xss u H) (hft : f ≤ t) (ha : a ≤ b) (hb : b ≤ t - f) : (xss.map (cutR f t)).map (cutR a b) = xss.map (cutR (f + a) (f + b)) := by
  rw [List.map_map]
  exact List.map_congr_left (fun xs _ => cutR_twice hft ha hb)
set_option maxRecDepth 100000 in
set_option maxHeartbeats 4000000 in
theorem FnCutAudioTwice_walk (ao : Option Addr) (len cap : Nat) (w : World) (hb : BytesAt w ao len) (hlc : len ≤ cap) (hmax : len ≤ 9223372036854775807) :
    Calls Try.prog 8 #[.slice ao len cap] w (Holds w) := by
  by_cases hlen : 1048576 < len
  · clear hb
    go_enter Try.func8, Try.ntmps8
    go_wp2
    go_ret
    exact ⟨rfl, grown_refl _ _⟩
  have hd := drawCu_any ao len cap w hb hlc hmax
  have hm : decide (1048576 < (len : Int)) = false := by simp; omega
  clear hb hlen
  go_enter Try.func8, Try.ntmps8
  go_wp2_with fail
  refine hd.mono ?_
  rintro e w1 ⟨p, q, a, l, c, xss, x0, x1, rfl, hx0, hx1, hmat, hl2, hs2, hg1⟩
  obtain rfl := hmat.1
  have HM := Lib.hid (((Mem.start w).grown hg1).block (.cells #[.int .i64 p, .int .i64 q, .slice a xss.length c] 25))
  have HX := Lib.hid (hmat.grown (grown_alloc w1 (.cells #[.int .i64 p, .int .i64 q, .slice a xss.length c] 25) none))
  have hsz : szL xss ≤ 1048576 := by omega
  clear hd hmat hg1
  have hx0b : -1 ≤ x0 ∧ x0 ≤ 20 := by simp only [List.mem_cons, List.not_mem_nil, or_false] at hx0; omega
  have hx00 := hx0b.1
  have hx01 := hx0b.2
  clear hx0 hx0b
  have hx1b : -2 ≤ x1 ∧ x1 ≤ 300 := by simp only [List.mem_cons, List.not_mem_nil, or_false] at hx1; omega
  have hx10 := hx1b.1
  have hx11 := hx1b.2
  clear hx1 hx1b
  obtain ⟨rr, dd, yss, ok, hS⟩ : ∃ rr dd yss ok, CuR p q x0 x1 xss rr dd yss ok := AuR_there _ _ _ _
  have hszy : szL yss ≤ 1048576 := cu_sz hS
  have HS := Lib.hid hS
  clear hS
  obtain ⟨q00, q01, q02⟩ := three_cells (HM.out.get (b := w1.heap.size) (o := .cells #[.int .i64 p, .int .i64 q, .slice a xss.length c] 25) (by simp))
  go_wp2_with fail
  refine (iCut_any xss a xss.length c p q x0 x1 _ rr dd yss ok HX.out hsz HS.out).mono ?_
  rintro e w2 ⟨v2, rfl, ho2, hg2⟩
  obtain ⟨a2, c2, rfl, _, _, hm2, _⟩ := ho2.reads
  replace HM := Lib.hid ((HM.out.grown hg2).block (.cells #[.int .i64 rr, .int .i64 dd, .slice a2 yss.length c2] 25))
  replace HX := Lib.hid ((HX.out.grown hg2).grown (grown_alloc w2 (.cells #[.int .i64 rr, .int .i64 dd, .slice a2 yss.length c2] 25) none))
  have HY : Hid (Mat (w2.alloc (.cells #[.int .i64 rr, .int .i64 dd, .slice a2 yss.length c2] 25)) a2 yss.length yss) := by
    have h := hm2.grown (grown_alloc w2 (.cells #[.int .i64 rr, .int .i64 dd, .slice a2 yss.length c2] 25) none)
    first | exact h | (simp only [List.length_map] at h; exact h)
  clear q00 q01 q02 hg2 ho2 hm2
  obtain ⟨q00, q01, q02⟩ := three_cells (HM.out.get (b := w1.heap.size) (o := .cells #[.int .i64 p, .int .i64 q, .slice a xss.length c] 25) (by simp))
  obtain ⟨q10, q11, q12⟩ := three_cells (HM.out.get (b := w2.heap.size) (o := .cells #[.int .i64 rr, .int .i64 dd, .slice a2 yss.length c2] 25) (by simp))
  go_wp2_with fail
  refine (sCut_any xss a xss.length c p q x0 x1 _ rr dd yss ok HX.out hsz HS.out).mono ?_
  rintro e w3 ⟨v3, rfl, ho3, hg3⟩
  obtain ⟨a3, c3, rfl, _, _, hm3, _⟩ := ho3.reads
  replace HM := Lib.hid ((HM.out.grown hg3).block (.cells #[.int .i64 rr, .int .i64 dd, .slice a3 yss.length c3] 25))
  replace HX := Lib.hid ((HX.out.grown hg3).grown (grown_alloc w3 (.cells #[.int .i64 rr, .int .i64 dd, .slice a3 yss.length c3] 25) none))
  replace HY := Lib.hid ((HY.out.grown hg3).grown (grown_alloc w3 (.cells #[.int .i64 rr, .int .i64 dd, .slice a3 yss.length c3] 25) none))
  have HW : Hid (Mat (w3.alloc (.cells #[.int .i64 rr, .int .i64 dd, .slice a3 yss.length c3] 25)) a3 yss.length yss) := by
    have h := hm3.grown (grown_alloc w3 (.cells #[.int .i64 rr, .int .i64 dd, .slice a3 yss.length c3] 25) none)
    first | exact h | (simp only [List.length_map] at h; exact h)
  clear q00 q01 q02 q10 q11 q12 hg3 ho3 hm3
  obtain ⟨q00, q01, q02⟩ := three_cells (HM.out.get (b := w1.heap.size) (o := .cells #[.int .i64 p, .int .i64 q, .slice a xss.length c] 25) (by simp))
  obtain ⟨q10, q11, q12⟩ := three_cells (HM.out.get (b := w2.heap.size) (o := .cells #[.int .i64 rr, .int .i64 dd, .slice a2 yss.length c2] 25) (by simp))
  obtain ⟨q20, q21, q22⟩ := three_cells (HM.out.get (b := w3.heap.size) (o := .cells #[.int .i64 rr, .int .i64 dd, .slice a3 yss.length c3] 25) (by simp))
  go_wp2_with fail
  refine (equalAudio_same yss a2 a3 _ c2 c3 rr dd _ HY.out HW.out hszy).mono ?_
  rintro e w4 ⟨rfl, hg4⟩
  replace HM := Lib.hid (HM.out.grown hg4)
  replace HX := Lib.hid (HX.out.grown hg4)
  replace HY := Lib.hid (HY.out.grown hg4)
  replace HW := Lib.hid (HW.out.grown hg4)
  clear q00 q01 q02 q10 q11 q12 q20 q21 q22 hg4
  cases ok with
  | false =>
    obtain ⟨q00, q01, q02⟩ := three_cells (HM.out.get (b := w1.heap.size) (o := .cells #[.int .i64 p, .int .i64 q, .slice a xss.length c] 25) (by simp))
    obtain ⟨q10, q11, q12⟩ := three_cells (HM.out.get (b := w2.heap.size) (o := .cells #[.int .i64 rr, .int .i64 dd, .slice a2 yss.length c2] 25) (by simp))
    obtain ⟨q20, q21, q22⟩ := three_cells (HM.out.get (b := w3.heap.size) (o := .cells #[.int .i64 rr, .int .i64 dd, .slice a3 yss.length c3] 25) (by simp))
    go_wp2_with fail
    refine (equalAudio_same yss a2 a3 _ c2 c3 rr dd _ HY.out HW.out hszy).mono ?_
    rintro e w5 ⟨rfl, hg5⟩
    replace HM := Lib.hid (HM.out.grown hg5)
    replace HX := Lib.hid (HX.out.grown hg5)
    replace HY := Lib.hid (HY.out.grown hg5)
    replace HW := Lib.hid (HW.out.grown hg5)
    clear q00 q01 q02 q10 q11 q12 q20 q21 q22 hg5
    obtain ⟨q00, q01, q02⟩ := three_cells (HM.out.get (b := w1.heap.size) (o := .cells #[.int .i64 p, .int .i64 q, .slice a xss.length c] 25) (by simp))
    obtain ⟨q10, q11, q12⟩ := three_cells (HM.out.get (b := w2.heap.size) (o := .cells #[.int .i64 rr, .int .i64 dd, .slice a2 yss.length c2] 25) (by simp))
    obtain ⟨q20, q21, q22⟩ := three_cells (HM.out.get (b := w3.heap.size) (o := .cells #[.int .i64 rr, .int .i64 dd, .slice a3 yss.length c3] 25) (by simp))
    go_wp2
    go_ret
    exact ⟨rfl, HM.out.g⟩
  | true =>
  obtain ⟨⟨hva, h0, h1, h2⟩, rfl, rfl, rfl⟩ : cutC p q x0 x1 xss ∧ p = rr ∧ q = dd ∧ yss = xss.map (cutR x0.toNat x1.toNat) := by
    rcases HS.out with ⟨h1, _, h3, h4, h5⟩ | ⟨_, h1, _⟩
    · exact ⟨h1, h3.symm, h4.symm, h5⟩
    · cases h1
  obtain ⟨u, H, hV⟩ := va_of hva
  rw [hV.hd] at h2
  obtain ⟨f, hf⟩ := Int.eq_ofNat_of_zero_le h0
  obtain ⟨t, ht⟩ := Int.eq_ofNat_of_zero_le (show 0 ≤ x1 by omega)
  subst hf ht
  have hft : f ≤ t := by omega
  have htH : t ≤ H := by omega
  have HV := Lib.hid hV
  simp only [Int.toNat_natCast] at *
  rw [show (xss.map (cutR f t)).length = xss.length from List.length_map _] at HM HY HW
  clear hV hva h0 h1 h2 HS
  by_cases h2 : (t : Int) - (f : Int) < 2
  · have hb : decide ((t : Int) - (f : Int) < 2) = true := by simpa using h2
    obtain ⟨q00, q01, q02⟩ := three_cells (HM.out.get (b := w1.heap.size) (o := .cells #[.int .i64 p, .int .i64 q, .slice a xss.length c] 25) (by simp))
    obtain ⟨q10, q11, q12⟩ := three_cells (HM.out.get (b := w2.heap.size) (o := .cells #[.int .i64 p, .int .i64 q, .slice a2 xss.length c2] 25) (by simp))
    obtain ⟨q20, q21, q22⟩ := three_cells (HM.out.get (b := w3.heap.size) (o := .cells #[.int .i64 p, .int .i64 q, .slice a3 xss.length c3] 25) (by simp))
    go_wp2_with fail
    refine (equalAudio_same (xss.map (cutR f t)) a2 a3 _ c2 c3 p q _ HY.out HW.out hszy).mono ?_
    rintro e w5 ⟨rfl, hg5⟩
    replace HM := Lib.hid (HM.out.grown hg5)
    replace HX := Lib.hid (HX.out.grown hg5)
    replace HY := Lib.hid (HY.out.grown hg5)
    replace HW := Lib.hid (HW.out.grown hg5)
    clear q00 q01 q02 q10 q11 q12 q20 q21 q22 hg5
    obtain ⟨q00, q01, q02⟩ := three_cells (HM.out.get (b := w1.heap.size) (o := .cells #[.int .i64 p, .int .i64 q, .slice a xss.length c] 25) (by simp))
    obtain ⟨q10, q11, q12⟩ := three_cells (HM.out.get (b := w2.heap.size) (o := .cells #[.int .i64 p, .int .i64 q, .slice a2 xss.length c2] 25) (by simp))
    obtain ⟨q20, q21, q22⟩ := three_cells (HM.out.get (b := w3.heap.size) (o := .cells #[.int .i64 p, .int .i64 q, .slice a3 xss.length c3] 25) (by simp))
    go_wp2
    go_ret
    exact ⟨rfl, HM.out.g⟩
  have hb : decide ((t : Int) - (f : Int) < 2) = false := by simpa using h2
  have hVc := va_cut HV.out hft htH
  have hC1 := cu_of (a := 1) (b := (t : Int) - (f : Int) - 1) (f := 1) (t := t - f - 1) hVc (by omega) (by omega) rfl (by omega)
  rw [cut_cut HV.out hft (by omega) (by omega)] at hC1
  have hC2 := cu_of (a := (f : Int) + 1) (b := (t : Int) - 1) (f := f + 1) (t := f + (t - f - 1)) HV.out (by omega) (by omega) (by omega) (by omega)
  have HC1 := Lib.hid hC1
  have HC2 := Lib.hid hC2
  have hszz : szL (xss.map (cutR (f + 1) (f + (t - f - 1)))) ≤ 1048576 := cu_sz hC2
  clear hVc hC1 hC2
  obtain ⟨q00, q01, q02⟩ := three_cells (HM.out.get (b := w1.heap.size) (o := .cells #[.int .i64 p, .int .i64 q, .slice a xss.length c] 25) (by simp))
  obtain ⟨q10, q11, q12⟩ := three_cells (HM.out.get (b := w2.heap.size) (o := .cells #[.int .i64 p, .int .i64 q, .slice a2 xss.length c2] 25) (by simp))
  obtain ⟨q20, q21, q22⟩ := three_cells (HM.out.get (b := w3.heap.size) (o := .cells #[.int .i64 p, .int .i64 q, .slice a3 xss.length c3] 25) (by simp))
  go_wp2_with fail
  refine (iCut_any (xss.map (cutR f t)) a2 xss.length c2 p q 1 ((t : Int) - (f : Int) - 1) _ p q _ true HY.out hszy HC1.out).mono ?_
  rintro e w5 ⟨v5, rfl, ho5, hg5⟩
  obtain ⟨a5, c5, rfl, _, _, hm5, _⟩ := ho5.reads
  replace HM := Lib.hid ((HM.out.grown hg5).block (.cells #[.int .i64 p, .int .i64 q, .slice a5 xss.length c5] 25))
  replace HX := Lib.hid ((HX.out.grown hg5).grown (grown_alloc w5 (.cells #[.int .i64 p, .int .i64 q, .slice a5 xss.length c5] 25) none))
  replace HY := Lib.hid ((HY.out.grown hg5).grown (grown_alloc w5 (.cells #[.int .i64 p, .int .i64 q, .slice a5 xss.length c5] 25) none))
  replace HW := Lib.hid ((HW.out.grown hg5).grown (grown_alloc w5 (.cells #[.int .i64 p, .int .i64 q, .slice a5 xss.length c5] 25) none))
  have HU : Hid (Mat (w5.alloc (.cells #[.int .i64 p, .int .i64 q, .slice a5 xss.length c5] 25)) a5 xss.length (xss.map (cutR (f + 1) (f + (t - f - 1))))) := by
    have h := hm5.grown (grown_alloc w5 (.cells #[.int .i64 p, .int .i64 q, .slice a5 xss.length c5] 25) none)
    first | exact h | (simp only [List.length_map] at h; exact h)
  clear q00 q01 q02 q10 q11 q12 q20 q21 q22 hg5 ho5 hm5
  obtain ⟨q00, q01, q02⟩ := three_cells (HM.out.get (b := w1.heap.size) (o := .cells #[.int .i64 p, .int .i64 q, .slice a xss.length c] 25) (by simp))
  obtain ⟨q10, q11, q12⟩ := three_cells (HM.out.get (b := w2.heap.size) (o := .cells #[.int .i64 p, .int .i64 q, .slice a2 xss.length c2] 25) (by simp))
  obtain ⟨q20, q21, q22⟩ := three_cells (HM.out.get (b := w3.heap.size) (o := .cells #[.int .i64 p, .int .i64 q, .slice a3 xss.length c3] 25) (by simp))
  obtain ⟨q30, q31, q32⟩ := three_cells (HM.out.get (b := w5.heap.size) (o := .cells #[.int .i64 p, .int .i64 q, .slice a5 xss.length c5] 25) (by simp))
  go_wp2_with fail
  refine (iCut_any xss a xss.length c p q ((f : Int) + 1) ((t : Int) - 1) _ p q _ true HX.out hsz HC2.out).mono ?_
  rintro e w6 ⟨v6, rfl, ho6, hg6⟩
  obtain ⟨a6, c6, rfl, _, _, hm6, _⟩ := ho6.reads
  replace HM := Lib.hid ((HM.out.grown hg6).block (.cells #[.int .i64 p, .int .i64 q, .slice a6 xss.length c6] 25))
  replace HX := Lib.hid ((HX.out.grown hg6).grown (grown_alloc w6 (.cells #[.int .i64 p, .int .i64 q, .slice a6 xss.length c6] 25) none))
  replace HY := Lib.hid ((HY.out.grown hg6).grown (grown_alloc w6 (.cells #[.int .i64 p, .int .i64 q, .slice a6 xss.length c6] 25) none))
  replace HW := Lib.hid ((HW.out.grown hg6).grown (grown_alloc w6 (.cells #[.int .i64 p, .int .i64 q, .slice a6 xss.length c6] 25) none))
  replace HU := Lib.hid ((HU.out.grown hg6).grown (grown_alloc w6 (.cells #[.int .i64 p, .int .i64 q, .slice a6 xss.length c6] 25) none))
  have HZ : Hid (Mat (w6.alloc (.cells #[.int .i64 p, .int .i64 q, .slice a6 xss.length c6] 25)) a6 xss.length (xss.map (cutR (f + 1) (f + (t - f - 1))))) := by
    have h := hm6.grown (grown_alloc w6 (.cells #[.int .i64 p, .int .i64 q, .slice a6 xss.length c6] 25) none)
    first | exact h | (simp only [List.length_map] at h; exact h)
  clear q00 q01 q02 q10 q11 q12 q20 q21 q22 q30 q31 q32 hg6 ho6 hm6
  obtain ⟨q00, q01, q02⟩ := three_cells (HM.out.get (b := w1.heap.size) (o := .cells #[.int .i64 p, .int .i64 q, .slice a xss.length c] 25) (by simp))
  obtain ⟨q10, q11, q12⟩ := three_cells (HM.out.get (b := w2.heap.size) (o := .cells #[.int .i64 p, .int .i64 q, .slice a2 xss.length c2] 25) (by simp))
  obtain ⟨q20, q21, q22⟩ := three_cells (HM.out.get (b := w3.heap.size) (o := .cells #[.int .i64 p, .int .i64 q, .slice a3 xss.length c3] 25) (by simp))
  obtain ⟨q30, q31, q32⟩ := three_cells (HM.out.get (b := w5.heap.size) (o := .cells #[.int .i64 p, .int .i64 q, .slice a5 xss.length c5] 25) (by simp))
  obtain ⟨q40, q41, q42⟩ := three_cells (HM.out.get (b := w6.heap.size) (o := .cells #[.int .i64 p, .int .i64 q, .slice a6 xss.length c6] 25) (by simp))
  go_wp2_with fail
  refine (equalAudio_same (xss.map (cutR (f + 1) (f + (t - f - 1)))) a5 a6 _ c5 c6 p q _ HU.out HZ.out hszz).mono ?_
  rintro e w7 ⟨rfl, hg7⟩
  replace HM := Lib.hid (HM.out.grown hg7)
  replace HX := Lib.hid (HX.out.grown hg7)
  replace HY := Lib.hid (HY.out.grown hg7)
  replace HW := Lib.hid (HW.out.grown hg7)
  replace HU := Lib.hid (HU.out.grown hg7)
  replace HZ := Lib.hid (HZ.out.grown hg7)
  clear q00 q01 q02 q10 q11 q12 q20 q21 q22 q30 q31 q32 q40 q41 q42 hg7
  obtain ⟨q00, q01, q02⟩ := three_cells (HM.out.get (b := w1.heap.size) (o := .cells #[.int .i64 p, .int .i64 q, .slice a xss.length c] 25) (by simp))
  obtain ⟨q10, q11, q12⟩ := three_cells (HM.out.get (b := w2.heap.size) (o := .cells #[.int .i64 p, .int .i64 q, .slice a2 xss.length c2] 25) (by simp))
  obtain ⟨q20, q21, q22⟩ := three_cells (HM.out.get (b := w3.heap.size) (o := .cells #[.int .i64 p, .int .i64 q, .slice a3 xss.length c3] 25) (by simp))
  obtain ⟨q30, q31, q32⟩ := three_cells (HM.out.get (b := w5.heap.size) (o := .cells #[.int .i64 p, .int .i64 q, .slice a5 xss.length c5] 25) (by simp))
  obtain ⟨q40, q41, q42⟩ := three_cells (HM.out.get (b := w6.heap.size) (o := .cells #[.int .i64 p, .int .i64 q, .slice a6 xss.length c6] 25) (by simp))
  go_wp2
  go_ret
  exact ⟨rfl, HM.out.g⟩

end Go.Proofs.Ytncbgofcimghnaa
