/-
  The walk of 'FnScaleAudioOrder': it returns true and writes nothing that was there. For every code.
-/
import Derived.Test.YthjelbanelmekaaDrawLv
import Derived.Test.YthjelbanelmekaaEqA
import Derived.Test.YthjelbanelmekaaScI
import Derived.Test.YthjelbanelmekaaScP
import Derived.Test.YthjelbanelmekaaMem
import Derived.Test.YthjelbanelmekaaCnt
namespace Go.Proofs.Ythjelbanelmekaa
open Go.RowKit

set_option maxRecDepth 100000 in
set_option maxHeartbeats 4000000 in
theorem FnScaleAudioOrder_walk (ao : Option Addr) (len cap : Nat) (w : World) (hb : BytesAt w ao len) (hlc : len ≤ cap) (hmax : len ≤ 9223372036854775807) :
    Calls Try.prog 7 #[.slice ao len cap] w (Holds w) := by
  by_cases hlen : 1048576 < len
  · clear hb
    go_enter Try.func7, Try.ntmps7
    go_wp2
    go_ret
    exact ⟨rfl, grown_refl _ _⟩
  have hd := drawSc_any ao len cap w hb hlc hmax
  have hm : decide (1048576 < (len : Int)) = false := by simp; omega
  clear hb hlen
  go_enter Try.func7, Try.ntmps7
  go_wp2_with fail
  refine hd.mono ?_
  rintro e w1 ⟨p, q, a, l, c, xss, x0, x1, rfl, hx0, hx1, hmat, hl2, hs2, hg1⟩
  obtain rfl := hmat.1
  have HM := Lib.hid (((Mem.start w).grown hg1).block (.cells #[.int .i64 p, .int .i64 q, .slice a xss.length c] 25))
  have HX := Lib.hid (hmat.grown (grown_alloc w1 (.cells #[.int .i64 p, .int .i64 q, .slice a xss.length c] 25) none))
  have hsz : szL xss ≤ 1048576 := by omega
  clear hd hmat hg1
  have hx0b : 0 ≤ x0 ∧ x0 ≤ 300 := by simp at hx0; omega
  have hx00 := hx0b.1
  have hx01 := hx0b.2
  clear hx0 hx0b
  have hx1b : 0 ≤ x1 ∧ x1 ≤ 300 := by simp at hx1; omega
  have hx10 := hx1b.1
  have hx11 := hx1b.2
  clear hx1 hx1b
  obtain ⟨rr, dd, yss, nn, ok, hS⟩ := ScR_there p q x0 x1 xss
  have hszy : szL yss ≤ 1048576 := Nat.le_trans (ScR_sz hS) hsz
  have HS := Lib.hid hS
  clear hS
  obtain ⟨q00, q01, q02⟩ := three_cells (HM.out.get (b := w1.heap.size) (o := .cells #[.int .i64 p, .int .i64 q, .slice a xss.length c] 25) (by simp))
  go_wp2_with fail
  refine (iSc_any xss a xss.length c p q x0 x1 _ rr dd nn yss ok HX.out hsz HS.out).mono ?_
  rintro e w2 ⟨v2, rfl, ho2, hg2⟩
  obtain ⟨a2, c2, rfl, _, _, hm2, _⟩ := ho2.reads
  replace HM := Lib.hid ((HM.out.grown hg2).block (.cells #[.int .i64 rr, .int .i64 dd, .slice a2 yss.length c2] 25))
  replace HX := Lib.hid ((HX.out.grown hg2).grown (grown_alloc w2 (.cells #[.int .i64 rr, .int .i64 dd, .slice a2 yss.length c2] 25) none))
  have HY : Hid (Mat (w2.alloc (.cells #[.int .i64 rr, .int .i64 dd, .slice a2 yss.length c2] 25)) a2 yss.length yss) := by
    have h := hm2.grown (grown_alloc w2 (.cells #[.int .i64 rr, .int .i64 dd, .slice a2 yss.length c2] 25) none)
    first | exact h | (simp only [List.length_map] at h; exact h)
  clear q00 q01 q02 hg2 ho2 hm2
  obtain ⟨q00, q01, q02⟩ := three_cells (HM.out.get (b := w1.heap.size) (o := .cells #[.int .i64 p, .int .i64 q, .slice a xss.length c] 25) (by simp))
  obtain ⟨q10, q11, q12⟩ := three_cells (HM.out.get (b := w2.heap.size) (o := .cells #[.int .i64 rr, .int .i64 dd, .slice a2 yss.length c2] 25) (by simp))
  go_wp2_with fail
  refine (sSc_any xss a xss.length c p q x0 x1 _ rr dd nn yss ok HX.out hsz HS.out).mono ?_
  rintro e w3 ⟨v3, rfl, ho3, hg3⟩
  obtain ⟨a3, c3, rfl, _, _, hm3, _⟩ := ho3.reads
  replace HM := Lib.hid ((HM.out.grown hg3).block (.cells #[.int .i64 rr, .int .i64 dd, .slice a3 yss.length c3] 25))
  replace HX := Lib.hid ((HX.out.grown hg3).grown (grown_alloc w3 (.cells #[.int .i64 rr, .int .i64 dd, .slice a3 yss.length c3] 25) none))
  replace HY := Lib.hid ((HY.out.grown hg3).grown (grown_alloc w3 (.cells #[.int .i64 rr, .int .i64 dd, .slice a3 yss.length c3] 25) none))
  have HW : Hid (Mat (w3.alloc (.cells #[.int .i64 rr, .int .i64 dd, .slice a3 yss.length c3] 25)) a3 yss.length yss) := by
    have h := hm3.grown (grown_alloc w3 (.cells #[.int .i64 rr, .int .i64 dd, .slice a3 yss.length c3] 25) none)
    first | exact h | (simp only [List.length_map] at h; exact h)
  clear q00 q01 q02 q10 q11 q12 hg3 ho3 hm3
  obtain ⟨q00, q01, q02⟩ := three_cells (HM.out.get (b := w1.heap.size) (o := .cells #[.int .i64 p, .int .i64 q, .slice a xss.length c] 25) (by simp))
  obtain ⟨q10, q11, q12⟩ := three_cells (HM.out.get (b := w2.heap.size) (o := .cells #[.int .i64 rr, .int .i64 dd, .slice a2 yss.length c2] 25) (by simp))
  obtain ⟨q20, q21, q22⟩ := three_cells (HM.out.get (b := w3.heap.size) (o := .cells #[.int .i64 rr, .int .i64 dd, .slice a3 yss.length c3] 25) (by simp))
  go_wp2_with fail
  refine (equalAudio_same yss a2 a3 _ c2 c3 rr dd _ HY.out HW.out hszy).mono ?_
  rintro e w4 ⟨rfl, hg4⟩
  replace HM := Lib.hid (HM.out.grown hg4)
  replace HX := Lib.hid (HX.out.grown hg4)
  replace HY := Lib.hid (HY.out.grown hg4)
  replace HW := Lib.hid (HW.out.grown hg4)
  clear q00 q01 q02 q10 q11 q12 q20 q21 q22 hg4
  cases ok with
  | false =>
    obtain ⟨q00, q01, q02⟩ := three_cells (HM.out.get (b := w1.heap.size) (o := .cells #[.int .i64 p, .int .i64 q, .slice a xss.length c] 25) (by simp))
    obtain ⟨q10, q11, q12⟩ := three_cells (HM.out.get (b := w2.heap.size) (o := .cells #[.int .i64 rr, .int .i64 dd, .slice a2 yss.length c2] 25) (by simp))
    obtain ⟨q20, q21, q22⟩ := three_cells (HM.out.get (b := w3.heap.size) (o := .cells #[.int .i64 rr, .int .i64 dd, .slice a3 yss.length c3] 25) (by simp))
    go_wp2_with fail
    refine (equalAudio_same yss a2 a3 _ c2 c3 rr dd _ HY.out HW.out hszy).mono ?_
    rintro e w5 ⟨rfl, hg5⟩
    replace HM := Lib.hid (HM.out.grown hg5)
    replace HX := Lib.hid (HX.out.grown hg5)
    replace HY := Lib.hid (HY.out.grown hg5)
    replace HW := Lib.hid (HW.out.grown hg5)
    clear q00 q01 q02 q10 q11 q12 q20 q21 q22 hg5
    obtain ⟨q00, q01, q02⟩ := three_cells (HM.out.get (b := w1.heap.size) (o := .cells #[.int .i64 p, .int .i64 q, .slice a xss.length c] 25) (by simp))
    obtain ⟨q10, q11, q12⟩ := three_cells (HM.out.get (b := w2.heap.size) (o := .cells #[.int .i64 rr, .int .i64 dd, .slice a2 yss.length c2] 25) (by simp))
    obtain ⟨q20, q21, q22⟩ := three_cells (HM.out.get (b := w3.heap.size) (o := .cells #[.int .i64 rr, .int .i64 dd, .slice a3 yss.length c3] 25) (by simp))
    go_wp2
    go_ret
    exact ⟨rfl, HM.out.g⟩
  | true =>
  obtain ⟨rfl, rfl, hn1, hn2, hd1, hd2, u, H, hV, rfl, rfl⟩ : p = rr ∧ q = dd ∧ 1 ≤ x0 ∧ x0 ≤ 64 ∧ 1 ≤ x1 ∧ x1 ≤ 64 ∧ ∃ u H, VA p q xss u H ∧ yss = xss.map (scL u x0 x1) ∧ nn = (clM u x0 x1 xss : Int) := by
    rcases HS.out with ⟨_, h2, h3, h4, h5, u, H, hV, h6, h7⟩ | ⟨h1, _⟩
    · exact ⟨h2.symm, h3.symm, h4.1, h4.2, h5.1, h5.2, u, H, hV, h6, h7⟩
    · cases h1
  have HV := Lib.hid hV
  clear hV
  rw [show (xss.map (scL u x0 x1)).length = xss.length from List.length_map _] at HM HY HW
  have hlen0 : 0 < xss.length := by have := HV.out.ch.1; omega
  have hHH := HV.out.hh
  obtain ⟨bx, ox, ax, cx, xs0, rfl, hx0, hxh, hxc, hxi⟩ := mat_first HX.out hlen0
  obtain ⟨by_, oy, ay, cy, ys0, rfl, hy0, hyh, hyc, hyi⟩ := mat_first HY.out (by simpa using hlen0)
  have hxl : xs0.length = H := (HV.out.row 0 xs0 hx0).1
  have hys : ys0 = scL u x0 x1 xs0 := by
    rw [List.getElem?_map, hx0] at hy0
    simpa using hy0.symm
  have hyl : ys0.length = H := by rw [hys, scL_len]; exact hxl
  rw [hxl] at hxc hxi
  rw [hyl] at hyc hyi
  have HXC := Lib.hid hxc
  have HYC := Lib.hid hyc
  have HXI := Lib.hid hxi
  have HYI := Lib.hid hyi
  have HYS := Lib.hid hys
  have HHD : Hid ((xss.headD []).length = H) := by show _ = _; rw [hxh]; exact hxl
  clear hx0 hxh hxc hxi hy0 hyh hyc hyi hxl hyl hys
  have hgr : ∀ W, w4.grownBy W none → w4.grownBy W none := fun _ h => h
  clear hgr
  obtain ⟨q00, q01, q02⟩ := three_cells (HM.out.get (b := w1.heap.size) (o := .cells #[.int .i64 p, .int .i64 q, .slice (some ⟨bx, ox, none⟩) xss.length c] 25) (by simp))
  obtain ⟨q10, q11, q12⟩ := three_cells (HM.out.get (b := w2.heap.size) (o := .cells #[.int .i64 p, .int .i64 q, .slice (some ⟨by_, oy, none⟩) xss.length c2] 25) (by simp))
  obtain ⟨q20, q21, q22⟩ := three_cells (HM.out.get (b := w3.heap.size) (o := .cells #[.int .i64 p, .int .i64 q, .slice a3 xss.length c3] 25) (by simp))
  go_wp2
  go_loopw [12] (fun kv wr => ∃ j : Nat, kv = .int .i64 ((j : Int) + 1) ∧ j ≤ H ∧ Hid (w4.grownBy wr none)) (fun kv _ => 300 - (intOf kv).toNat)
  case atStart => exact ⟨0, rfl, Nat.zero_le _, grown_refl _ _⟩
  case round =>
    clear q00 q01 q02 q10 q11 q12 q20 q21 q22
    obtain ⟨j, rfl, hj, HW2⟩ := hrel
    have HM2 := Lib.hid (HM.out.grown HW2.out)
    obtain ⟨q00, q01, q02⟩ := three_cells (HM2.out.get (b := w1.heap.size) (o := .cells #[.int .i64 p, .int .i64 q, .slice (some ⟨bx, ox, none⟩) xss.length c] 25) (by simp))
    obtain ⟨q10, q11, q12⟩ := three_cells (HM2.out.get (b := w2.heap.size) (o := .cells #[.int .i64 p, .int .i64 q, .slice (some ⟨by_, oy, none⟩) xss.length c2] 25) (by simp))
    obtain ⟨q20, q21, q22⟩ := three_cells (HM2.out.get (b := w3.heap.size) (o := .cells #[.int .i64 p, .int .i64 q, .slice a3 xss.length c3] 25) (by simp))
    go_wp2_with fail
    refine (lCount_any xss (some ⟨bx, ox, none⟩) xss.length c H p q _ (HX.out.grown HW2.out) HHD.out).mono ?_
    rintro e w5 ⟨rfl, hg5⟩
    have HM5 := Lib.hid (HM2.out.grown hg5)
    have HW5 := Lib.hid (grown_trans HW2.out hg5)
    clear q00 q01 q02 q10 q11 q12 q20 q21 q22 hg5 HM2 HW2
    obtain ⟨q00, q01, q02⟩ := three_cells (HM5.out.get (b := w1.heap.size) (o := .cells #[.int .i64 p, .int .i64 q, .slice (some ⟨bx, ox, none⟩) xss.length c] 25) (by simp))
    obtain ⟨q10, q11, q12⟩ := three_cells (HM5.out.get (b := w2.heap.size) (o := .cells #[.int .i64 p, .int .i64 q, .slice (some ⟨by_, oy, none⟩) xss.length c2] 25) (by simp))
    obtain ⟨q20, q21, q22⟩ := three_cells (HM5.out.get (b := w3.heap.size) (o := .cells #[.int .i64 p, .int .i64 q, .slice a3 xss.length c3] 25) (by simp))
    by_cases hlt : j + 1 < H
    · obtain ⟨x, hx⟩ : ∃ x, xs0[j]? = some x := ⟨_, List.getElem?_eq_getElem (by rw [HXI.out.1]; omega)⟩
      obtain ⟨y, hy⟩ : ∃ y, xs0[j + 1]? = some y := ⟨_, List.getElem?_eq_getElem (by rw [HXI.out.1]; omega)⟩
      have hu : ys0[j]? = some (scx u x0 x1 x) := by rw [HYS.out]; unfold scL; rw [List.getElem?_map, hx]; rfl
      have hv : ys0[j + 1]? = some (scx u x0 x1 y) := by rw [HYS.out]; unfold scL; rw [List.getElem?_map, hy]; rfl
      obtain ⟨b1, o1, rfl, hc1⟩ := HXI.out.2.resolve_left (by intro e; subst e; simp at hx)
      obtain ⟨b2, o2, rfl, hc2⟩ := HYI.out.2.resolve_left (by intro e; rw [e] at hu; simp at hu)
      have e1 := HW5.out.cell HXC.out (by simp)
      have e2 := HW5.out.cell HYC.out (by simp)
      have d1 := HW5.out.cell (hc1 j x hx) (by simp)
      have d2 : w5.cell? ⟨b1, o1 + (j + 1), none⟩ = some (.int .i64 y) := HW5.out.cell (hc1 (j + 1) y hy) (by simp)
      have d3 := HW5.out.cell (hc2 j _ hu) (by simp)
      have d4 := HW5.out.cell (hc2 (j + 1) _ hv) (by simp)
      have hm1 : x ≤ y → scx u x0 x1 x ≤ scx u x0 x1 y := scx_mono hn1 hd1
      have hm2 : y ≤ x → scx u x0 x1 y ≤ scx u x0 x1 x := scx_mono hn1 hd1
      generalize scx u x0 x1 x = s at *
      generalize scx u x0 x1 y = t at *
      clear hx hy hu hv hc1 hc2
      have hjz : (j : Int) + 1 < (H : Int) := by omega
      rcases Int.lt_trichotomy x y with hxy | hxy | hxy
      · have b1' : decide (x ≤ y) = true := by simp; omega
        have b2' : decide (t < s) = false := by have := hm1 (by omega); simp; omega
        have b3' : decide (y ≤ x) = false := by simp; omega
        clear hm1 hm2 hxy
        go_wp2
        go_roundw
        case rel => exact ⟨j + 1, by go_num, by omega, HW5⟩
        case measure => simp [intOf]; omega
      · subst hxy
        have b1' : decide (x ≤ x) = true := by simp
        have b2' : decide (t < s) = false := by have := hm1 (by omega); simp; omega
        have b4' : decide (s < t) = false := by have := hm2 (by omega); simp; omega
        clear hm1 hm2
        go_wp2
        go_roundw
        case rel => exact ⟨j + 1, by go_num, by omega, HW5⟩
        case measure => simp [intOf]; omega
      · have b1' : decide (x ≤ y) = false := by simp; omega
        have b3' : decide (y ≤ x) = true := by simp; omega
        have b4' : decide (s < t) = false := by have := hm2 (by omega); simp; omega
        clear hm1 hm2 hxy
        go_wp2
        go_roundw
        case rel => exact ⟨j + 1, by go_num, by omega, HW5⟩
        case measure => simp [intOf]; omega
    · have hjz : ¬ (j : Int) + 1 < (H : Int) := by omega
      go_wp2
      go_ret
      exact ⟨rfl, HM5.out.g⟩

end Go.Proofs.Ythjelbanelmekaa
