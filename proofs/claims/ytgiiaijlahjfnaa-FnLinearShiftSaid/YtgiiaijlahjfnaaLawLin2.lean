/-
  The walk of the law on coefficients and shifts: it returns true and writes nothing that was there. For every code.
-/
import Derived.Test.YtgiiaijlahjfnaaLawLin
namespace Go.Proofs.Ytgiiaijlahjfnaa
open Go.RowKit

set_option maxRecDepth 100000 in
set_option maxHeartbeats 4000000 in
theorem FnLinearShift_walk (ao : Option Addr) (len cap : Nat) (w : World) (hb : BytesAt w ao len) (hlc : len ≤ cap) (hmax : len ≤ 9223372036854775807) :
    Calls Try.prog 5 #[.slice ao len cap] w (Holds w) := by
  by_cases hlen : 1048576 < len
  · clear hb
    go_enter Try.func5, Try.ntmps5
    go_wp2
    go_ret
    exact ⟨rfl, grown_refl _ _⟩
  have hd := drawLR_any ao len cap w hb hlc hmax
  have hm : decide (1048576 < (len : Int)) = false := by simp; omega
  clear hb hlen
  go_enter Try.func5, Try.ntmps5
  go_wp2_with fail
  refine hd.mono ?_
  rintro e w1 ⟨v1, n1, xs, u1, n, cs, sh, rfl, hn1, hn9, ho1, hu1, ha1, hc1, hs0, hs1, hg1⟩
  obtain ⟨a1, c1, rfl, hlc1, hnn1, hx1, _⟩ := ho1.reads
  obtain ⟨a2, c2, rfl, hlc2, hnn2, hx2, _⟩ := hu1.reads
  obtain ⟨ys, m, ok, hLR, hm64⟩ := LR_there xs cs sh
  have HLR := Lib.hid hLR
  have HB := Lib.hid (heap_alloc_new w1 (.cells #[.slice a2 n c2, .int .i64 sh] 25))
  have HX := Lib.hid (hx1.grown (grown_alloc w1 (.cells #[.slice a2 n c2, .int .i64 sh] 25) none))
  have HC := Lib.hid (hx2.grown (grown_alloc w1 (.cells #[.slice a2 n c2, .int .i64 sh] 25) none))
  have HG := Lib.hid (grown_trans hg1 (grown_alloc w1 (.cells #[.slice a2 n c2, .int .i64 sh] 25) none))
  have HNN1 := Lib.hid hnn1
  have HXC := Lib.hid (And.intro hx1.1 hx2.1)
  clear hd ho1 hu1 hx1 hx2 hg1 hLR ha1 hc1 hnn1 hnn2
  have qc0 := (two_cells HB.out).1
  have qc1 := (two_cells HB.out).2
  go_wp2_with fail
  refine (iLR_any cs xs n n1 m sh ys ok a2 a1 c2 c1 _ HX.out hlc1 HC.out (by omega) (by omega) HLR.out).mono ?_
  rintro e w2 ⟨v2, rfl, ho2, hg2⟩
  obtain ⟨a3, c3, rfl, hlc3, hnn3, hx3, _⟩ := ho2.reads
  clear ho2
  replace HB := Lib.hid (grown_heap hg2 HB.out (by simp))
  replace HX := Lib.hid (HX.out.grown hg2)
  replace HC := Lib.hid (HC.out.grown hg2)
  replace HG := Lib.hid (grown_trans HG.out hg2)
  clear hg2 qc0 qc1
  have HY := Lib.hid hx3
  have HNN3 := Lib.hid hnn3
  clear hx3 hnn3
  have qc0 := (two_cells HB.out).1
  have qc1 := (two_cells HB.out).2
  go_wp2_with fail
  refine (sLR_any cs xs n n1 m sh ys ok a2 a1 c2 c1 _ HX.out HC.out (by omega) (by omega) HLR.out).mono ?_
  rintro e w3 ⟨v3, rfl, ho3, hg3⟩
  obtain ⟨a4, c4, rfl, _, _, hx4, _⟩ := ho3.reads
  clear ho3
  replace HB := Lib.hid (grown_heap hg3 HB.out (by simp))
  replace HX := Lib.hid (HX.out.grown hg3)
  replace HC := Lib.hid (HC.out.grown hg3)
  replace HG := Lib.hid (grown_trans HG.out hg3)
  replace HY := Lib.hid (HY.out.grown hg3)
  clear hg3 qc0 qc1
  have HS := Lib.hid hx4
  clear hx4
  go_wp2_with fail
  refine (equalInts_any ys ys a3 a4 m c3 m c4 true _ HY.out HS.out (by omega) (by simp)).mono ?_
  rintro e w4 ⟨rfl, hg4⟩
  replace HB := Lib.hid (grown_heap hg4 HB.out (by simp))
  replace HX := Lib.hid (HX.out.grown hg4)
  replace HC := Lib.hid (HC.out.grown hg4)
  replace HG := Lib.hid (grown_trans HG.out hg4)
  replace HY := Lib.hid (HY.out.grown hg4)
  replace HS := Lib.hid (HS.out.grown hg4)
  clear hg4
  cases ok with
  | false =>
    go_wp2_with fail
    refine (equalInts_any ys ys a3 a4 m c3 m c4 true _ HY.out HS.out (by omega) (by simp)).mono ?_
    rintro e w5 ⟨rfl, hg5⟩
    replace HB := Lib.hid (grown_heap hg5 HB.out (by simp))
    replace HX := Lib.hid (HX.out.grown hg5)
    replace HC := Lib.hid (HC.out.grown hg5)
    replace HG := Lib.hid (grown_trans HG.out hg5)
    replace HY := Lib.hid (HY.out.grown hg5)
    replace HS := Lib.hid (HS.out.grown hg5)
    clear hg5
    go_wp2
    go_ret
    exact ⟨rfl, HG.out⟩
  | true =>
  have hok := HLR.out.1
  have hok2 := hok
  unfold lrOk at hok2
  simp only [Bool.and_eq_true, decide_eq_true_eq] at hok2
  obtain ⟨⟨⟨hvs, hvl⟩, hcl⟩, hvr⟩ := hok2
  obtain ⟨hv1, hv8, hca, hs00, hs14⟩ := vLin_in hvl
  obtain ⟨s, rfl⟩ := Int.eq_ofNat_of_zero_le hs00
  obtain ⟨hys, hmm, _⟩ := LR_yes HLR.out hok rfl
  rw [show (s : Int).toNat = s by simp] at hvr
  have HYS := Lib.hid hys
  have HM := Lib.hid hmm
  have HVS := Lib.hid hvs
  have HVL := Lib.hid hvl
  have HVR := Lib.hid hvr
  have hl64 := vS_len hvs
  have e1 := HXC.out.1
  have e2 := HXC.out.2
  have hn8 : n ≤ 8 := by omega
  have hn1' : 1 ≤ n := by omega
  have hnl : n ≤ n1 := by omega
  have hl64' : n1 ≤ 64 := by omega
  have hmn1 : m + n ≤ n1 := by omega
  have hmn2 : n1 ≤ m + n := by omega
  have hs14' : s ≤ 14 := by omega
  clear hok hvs hvl hcl hvr hv1 hv8 hca hs00 hs14 hys hmm hl64 e1 e2 hs0 hs1
  obtain ⟨bs, hbs⟩ : ∃ bs, ((s : Int) == 14) = bs := ⟨_, rfl⟩
  have HBS := Lib.hid hbs
  cases bs with
  | true =>
    have qc0 := (two_cells HB.out).1
    have qc1 := (two_cells HB.out).2
    go_wp2_with fail
    refine (equalInts_any ys ys a3 a4 m c3 m c4 true _ HY.out HS.out (by omega) (by simp)).mono ?_
    rintro e w5 ⟨rfl, hg5⟩
    replace HB := Lib.hid (grown_heap hg5 HB.out (by simp))
    replace HX := Lib.hid (HX.out.grown hg5)
    replace HC := Lib.hid (HC.out.grown hg5)
    replace HG := Lib.hid (grown_trans HG.out hg5)
    replace HY := Lib.hid (HY.out.grown hg5)
    replace HS := Lib.hid (HS.out.grown hg5)
    clear hg5 qc0 qc1
    go_wp2
    go_ret
    exact ⟨rfl, HG.out⟩
  | false =>
  have hs13 : s ≤ 13 := by
    have h := HBS.out
    have h2 : ¬ (s : Int) = 14 := by simpa using h
    omega
  have hbl : w1.heap.size < w4.heap.size := block_lt HB.out
  have HL0 : Hid (LO w4 (.slice (some ⟨w4.heap.size, 0, none⟩) 0 0) 0 ((cs.take 0).map (2 * ·)) (w4.alloc (.cells #[] 3))) := ⟨owns_empty w4, grown_alloc _ _ _⟩
  have HC0 := Lib.hid (vLin_in HVL.out).2.2.1
  have qc0 := (two_cells HB.out).1
  have qc1 := (two_cells HB.out).2
  go_wp2
  clear qc0 qc1 hbl
  go_loopw [9, 10] (fun sv iv wr => ∃ (k : Nat) (bv : Value), bv = sv ∧ k ≤ n ∧ iv = .int .i64 (k : Int) ∧ Hid (LO w4 bv k ((cs.take k).map (2 * ·)) wr ∧ allB ((cs.take k).map (2 * ·)) (-4095) 4095 = true)) (fun _ iv _ => n - (intOf iv).toNat)
  case atStart => exact ⟨0, _, by simp, by omega, by simp, HL0.out, rfl⟩
  case round =>
    obtain ⟨k, bv, rfl, hk, rfl, HR⟩ := hrel
    have HB2 := Lib.hid (grown_heap HR.out.1.g HB.out (by simp))
    have qc0 := (two_cells HB2.out).1
    have qc1 := (two_cells HB2.out).2
    obtain ⟨a7, c7, rfl, _⟩ := HR.out.1.own.reads
    by_cases hlt : k < n
    · obtain ⟨c, hck⟩ : ∃ c, cs[k]? = some c := ⟨_, List.getElem?_eq_getElem (by have := HXC.out.2; omega)⟩
      obtain ⟨b, off, rfl, hc⟩ := HC.out.2.resolve_left (by intro e; subst e; simp at hck)
      have hcx := HR.out.1.g.cell (hc k c hck) (by simp)
      have hcr := allB_mem HC0.out hck
      have hcr0 := hcr.1
      have hcr1 := hcr.2
      have HCK := Lib.hid hck
      clear hc hck hcr
      by_cases hb : 4095 < 2 * c
      · have hd1 : decide (4095 < 2 * c) = true := by simpa using hb
        have HGr := Lib.hid (grown_trans HG.out HR.out.1.g)
        clear HR hb
        go_wp2
        go_ret
        exact ⟨rfl, HGr.out⟩
      have hd1 : decide (4095 < 2 * c) = false := by simpa using hb
      by_cases hb2 : 2 * c < -4095
      · have hd2 : decide (2 * c < -4095) = true := by simpa using hb2
        have HGr := Lib.hid (grown_trans HG.out HR.out.1.g)
        clear HR hb hb2
        go_wp2
        go_ret
        exact ⟨rfl, HGr.out⟩
      have hd2 : decide (2 * c < -4095) = false := by simpa using hb2
      have hnew : (cs.take (k + 1)).map (2 * ·) = (cs.take k).map (2 * ·) ++ [2 * c] := by rw [List.take_add_one, HCK.out]; simp
      have HNEW := Lib.hid hnew
      have h1 : -4095 ≤ 2 * c := by omega
      have h2 : 2 * c ≤ 4095 := by omega
      have hall := Lib.hid (allB_snoc HR.out.2 h1 h2)
      clear hb hb2 hnew
      go_wp2_with (at_builtin; refine append_ints rfl _ _ rfl w4.heap.size (.slice a7 k c7) k ((cs.take k).map (2 * ·)) rfl (HR.out.1.own.grown (grown_alloc _ _ _)) (some ⟨wr.heap.size, 0, none⟩) 1 1 [2 * c] rfl (ints_one _ _ _) (fun e => nomatch e) ?_ ?_ ?_)
      · omega
      · have := HR.out.1.g.size; simp; omega
      intro v8 w8 hown hgrow
      have HQ := Lib.hid (HR.out.1.step (grown_alloc _ _ _) hgrow hown)
      clear hown hgrow HR qc0 qc1 hd1 hd2
      go_wp2
      go_roundw
      case rel => exact ⟨k + 1, v8, rfl, by omega, by go_num, by rw [HNEW.out]; first | exact HQ.out | (rw [List.map_take]; exact HQ.out), by rw [HNEW.out]; first | exact hall.out | (rw [List.map_take]; exact hall.out)⟩
      case measure => simp [intOf]; omega
    · obtain rfl : k = n := by omega
      have htk : cs.take k = cs := List.take_of_length_le (by have := HXC.out.2; omega)
      have HR2 := HR.out
      rw [htk] at HR2
      have HDX := Lib.hid (HR2.1.own.toInts)
      have HXX := Lib.hid (HX.out.grown HR2.1.g)
      have HYY := Lib.hid (HY.out.grown HR2.1.g)
      have HGG := Lib.hid (grown_trans HG.out HR2.1.g)
      have hLS : LR xs (cs.map (2 * ·)) ((s : Int) + 1) ys m true := by
        have e2 := HXC.out.2
        have e1 := HXC.out.1
        have hv2 : vLin (cs.map (2 * ·)) ((s : Int) + 1) = true := by
          unfold vLin
          rw [HR2.2, List.length_map, inB_true (by omega) (by omega)]
          simp; omega
        have hok : lrOk xs (cs.map (2 * ·)) ((s : Int) + 1) = true := by
          rw [lrOk_in HVS.out hv2 (by simp; omega) (show (s : Int) + 1 = ((s + 1 : Nat) : Int) by omega), resL_double, HVR.out]
        refine ⟨hok, ?_, ?_⟩
        · unfold lrR
          rw [hok, if_pos rfl, show ((s : Int) + 1).toNat = s + 1 by omega, resL_double]; exact HYS.out.symm
        · rw [if_pos rfl, List.length_map]; exact HM.out.symm
      have HLS := Lib.hid hLS
      clear HR HR2 htk hLS
      go_wp2_with fail
      refine (iLR_any (cs.map (2 * ·)) xs k n1 m ((s : Int) + 1) ys true a7 a1 c7 c1 _ HXX.out hlc1 HDX.out (by omega) (by omega) HLS.out).mono ?_
      rintro e w9 ⟨v9, rfl, ho9, hg9⟩
      obtain ⟨a9, c9, rfl, _, _, hx9, _⟩ := ho9.reads
      have HR9 := Lib.hid hx9
      have HY9 := Lib.hid (HYY.out.grown hg9)
      have HG9 := Lib.hid (grown_trans HGG.out hg9)
      clear ho9 hg9 hx9 qc0 qc1
      go_wp2_with fail
      refine (equalInts_any ys ys a9 a3 m c9 m c3 true _ HR9.out HY9.out (by omega) (by simp)).mono ?_
      rintro e w10 ⟨rfl, hg10⟩
      have HG10 := Lib.hid (grown_trans HG9.out hg10)
      clear hg10
      go_wp2
      go_ret
      exact ⟨rfl, HG10.out⟩

end Go.Proofs.Ytgiiaijlahjfnaa
