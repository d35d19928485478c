/-
  The walks of the laws on residuals of linear predictors: they return true and write nothing that was there. For every code.
-/
import Derived.Test.YtgiiaijlahjfnaaDrawLR
import Derived.Test.YtgiiaijlahjfnaaLinR4
import Derived.Deep.RegionHeld3
namespace Go.Proofs.Ytgiiaijlahjfnaa
open Go.RowKit

set_option maxRecDepth 100000 in
set_option maxHeartbeats 4000000 in
theorem FnLinearResidual_walk (ao : Option Addr) (len cap : Nat) (w : World) (hb : BytesAt w ao len) (hlc : len ≤ cap) (hmax : len ≤ 9223372036854775807) :
    Calls Try.prog 3 #[.slice ao len cap] w (Holds w) := by
  by_cases hlen : 1048576 < len
  · clear hb
    go_enter Try.func3, Try.ntmps3
    go_wp2
    go_ret
    exact ⟨rfl, grown_refl _ _⟩
  have hd := drawLR_any ao len cap w hb hlc hmax
  have hm : decide (1048576 < (len : Int)) = false := by simp; omega
  clear hb hlen
  go_enter Try.func3, Try.ntmps3
  go_wp2_with fail
  refine hd.mono ?_
  rintro e w1 ⟨v1, n1, xs, u1, n, cs, sh, rfl, hn1, hn9, ho1, hu1, ha1, hc1, hs0, hs1, hg1⟩
  obtain ⟨a1, c1, rfl, hlc1, hnn1, hx1, _⟩ := ho1.reads
  obtain ⟨a2, c2, rfl, hlc2, hnn2, hx2, _⟩ := hu1.reads
  obtain ⟨ys, m, ok, hLR, hm64⟩ := LR_there xs cs sh
  have HLR := Lib.hid hLR
  have HB := Lib.hid (heap_alloc_new w1 (.cells #[.slice a2 n c2, .int .i64 sh] 25))
  have HX := Lib.hid (hx1.grown (grown_alloc w1 (.cells #[.slice a2 n c2, .int .i64 sh] 25) none))
  have HC := Lib.hid (hx2.grown (grown_alloc w1 (.cells #[.slice a2 n c2, .int .i64 sh] 25) none))
  have HG := Lib.hid (grown_trans hg1 (grown_alloc w1 (.cells #[.slice a2 n c2, .int .i64 sh] 25) none))
  have HNN1 := Lib.hid hnn1
  have HXC := Lib.hid (And.intro hx1.1 hx2.1)
  clear hd ho1 hu1 hx1 hx2 hg1 hLR ha1 hc1 hnn1 hnn2
  have qc0 := (two_cells HB.out).1
  have qc1 := (two_cells HB.out).2
  go_wp2_with fail
  refine (iLR_any cs xs n n1 m sh ys ok a2 a1 c2 c1 _ HX.out hlc1 HC.out (by omega) (by omega) HLR.out).mono ?_
  rintro e w2 ⟨v2, rfl, ho2, hg2⟩
  obtain ⟨a3, c3, rfl, hlc3, hnn3, hx3, _⟩ := ho2.reads
  clear ho2
  replace HB := Lib.hid (grown_heap hg2 HB.out (by simp))
  replace HX := Lib.hid (HX.out.grown hg2)
  replace HC := Lib.hid (HC.out.grown hg2)
  replace HG := Lib.hid (grown_trans HG.out hg2)
  clear hg2 qc0 qc1
  have HY := Lib.hid hx3
  have HNN3 := Lib.hid hnn3
  clear hx3 hnn3
  have qc0 := (two_cells HB.out).1
  have qc1 := (two_cells HB.out).2
  go_wp2_with fail
  refine (sLR_any cs xs n n1 m sh ys ok a2 a1 c2 c1 _ HX.out HC.out (by omega) (by omega) HLR.out).mono ?_
  rintro e w3 ⟨v3, rfl, ho3, hg3⟩
  obtain ⟨a4, c4, rfl, _, _, hx4, _⟩ := ho3.reads
  clear ho3
  replace HB := Lib.hid (grown_heap hg3 HB.out (by simp))
  replace HX := Lib.hid (HX.out.grown hg3)
  replace HC := Lib.hid (HC.out.grown hg3)
  replace HG := Lib.hid (grown_trans HG.out hg3)
  replace HY := Lib.hid (HY.out.grown hg3)
  clear hg3 qc0 qc1
  have HS := Lib.hid hx4
  clear hx4
  go_wp2_with fail
  refine (equalInts_any ys ys a3 a4 m c3 m c4 true _ HY.out HS.out (by omega) (by simp)).mono ?_
  rintro e w4 ⟨rfl, hg4⟩
  replace HB := Lib.hid (grown_heap hg4 HB.out (by simp))
  replace HX := Lib.hid (HX.out.grown hg4)
  replace HC := Lib.hid (HC.out.grown hg4)
  replace HG := Lib.hid (grown_trans HG.out hg4)
  replace HY := Lib.hid (HY.out.grown hg4)
  replace HS := Lib.hid (HS.out.grown hg4)
  clear hg4
  cases ok with
  | false =>
    go_wp2_with fail
    refine (equalInts_any ys ys a3 a4 m c3 m c4 true _ HY.out HS.out (by omega) (by simp)).mono ?_
    rintro e w5 ⟨rfl, hg5⟩
    replace HB := Lib.hid (grown_heap hg5 HB.out (by simp))
    replace HX := Lib.hid (HX.out.grown hg5)
    replace HC := Lib.hid (HC.out.grown hg5)
    replace HG := Lib.hid (grown_trans HG.out hg5)
    replace HY := Lib.hid (HY.out.grown hg5)
    replace HS := Lib.hid (HS.out.grown hg5)
    clear hg5
    go_wp2
    go_ret
    exact ⟨rfl, HG.out⟩
  | true =>
  have hok := HLR.out.1
  have hok2 := hok
  unfold lrOk at hok2
  simp only [Bool.and_eq_true, decide_eq_true_eq] at hok2
  obtain ⟨⟨⟨hvs, hvl⟩, hcl⟩, hvr⟩ := hok2
  obtain ⟨hv1, hv8, hca, hs00, hs14⟩ := vLin_in hvl
  obtain ⟨s, rfl⟩ := Int.eq_ofNat_of_zero_le hs00
  obtain ⟨hys, hmm, _⟩ := LR_yes HLR.out hok rfl
  rw [show (s : Int).toNat = s by simp] at hvr
  have HYS := Lib.hid hys
  have HM := Lib.hid hmm
  have HVS := Lib.hid hvs
  have HVL := Lib.hid hvl
  have HVR := Lib.hid hvr
  have hl64 := vS_len hvs
  have e1 := HXC.out.1
  have e2 := HXC.out.2
  have hn8 : n ≤ 8 := by omega
  have hn1' : 1 ≤ n := by omega
  have hnl : n ≤ n1 := by omega
  have hl64' : n1 ≤ 64 := by omega
  have hmn1 : m + n ≤ n1 := by omega
  have hmn2 : n1 ≤ m + n := by omega
  have hs14' : s ≤ 14 := by omega
  clear hok hvs hvl hcl hvr hv1 hv8 hca hs00 hs14 hys hmm hl64 e1 e2 hs0 hs1
  have hRS : RS (xs.take n) ys cs (s : Int) xs n1 true := by
    have e1 := HXC.out.1
    have e2 := HXC.out.2
    have hl : (xs.take n).length = n := by simp; omega
    have hyl : ys.length = m := HY.out.1
    have hca := (vLin_in HVL.out).2.2.1
    have hall := vS_all HVS.out
    have hta : allB (xs.take n) (-65536) 65536 = true := allB_prefix hall n
    have hvt : vS (xs.take n) = true := by unfold vS; rw [hta, hl]; simp; omega
    have hvr : vR ys = true := by rw [HYS.out]; exact HVR.out
    have hgo : rsT cs s (xs.take n) ys ys.length = some xs := by
      have h := rsT_of_res (cs := cs) (sh := s) hall (by omega) m (by omega)
      rw [e2] at h
      rw [hyl, HYS.out]
      rw [h, List.take_of_length_le (by omega)]
    have hok : rsOk (xs.take n) ys cs (s : Int) = true := by
      rw [rsOk_in HVL.out (by rw [hl, e2]) hvt hvr (by rw [hl, hyl]; omega) rfl, hgo]; rfl
    refine ⟨hok, ?_, ?_⟩
    · unfold rsR
      rw [hok, if_pos rfl, show (s : Int).toNat = s by simp, hgo]; rfl
    · rw [if_pos rfl, hl, hyl]; omega
  have HRS := Lib.hid hRS
  have HW := Lib.hid (show Ints _ a1 n (xs.take n) from by
    obtain ⟨b, off, hab, hc⟩ := HX.out.2.resolve_left (by intro e; have := HXC.out.1; rw [e] at this; simp at this; omega)
    have e1 := HXC.out.1
    refine ⟨by simp; omega, Or.inr ⟨b, off, hab, fun k x hx => ?_⟩⟩
    rw [List.getElem?_take] at hx
    split at hx
    · exact hc k x hx
    · cases hx)
  clear hRS
  have hnc1 : (n : Int) ≤ (c1 : Int) := by omega
  have hn0 : (0 : Int) ≤ (n : Int) := by omega
  have qc0 := (two_cells HB.out).1
  have qc1 := (two_cells HB.out).2
  go_wp2_with fail
  obtain ⟨b1, o1, hab⟩ : ∃ b o, a1 = some ⟨b, o, none⟩ := by
    obtain ⟨b, off, hab, _⟩ := HX.out.2.resolve_left (by intro e; have := HXC.out.1; rw [e] at this; simp at this; omega)
    exact ⟨b, off, hab⟩
  subst hab
  go_region_held3 (fun w' => w'.cell? ⟨w1.heap.size, 0, none⟩ = some (.slice a2 n c2) ∧ w'.cell? ⟨w1.heap.size, 1, none⟩ = some (.int .i64 (s : Int))) (first | go_keep | exact ⟨by assumption, by assumption⟩) ((go_at_call 16; refine (iRS_any cs (xs.take n) ys n n m n1 (s : Int) xs true a2 _ a3 c2 _ c3 _ (HW.out.grown (grown_drew _ _)) (fun e => nomatch e) (HY.out.grown (grown_drew _ _)) (HC.out.grown (grown_drew _ _)) (by omega) (by omega) (by omega) HRS.out).mono ?_; rintro e w9 ⟨v9, rfl, ho9, hg9⟩; obtain ⟨a9, c9, rfl, _, _, hx9, _⟩ := ho9.reads; have HR9 := Lib.hid hx9; have HX9 := Lib.hid ((HX.out.grown (grown_drew _ _)).grown hg9); have HG9 := Lib.hid (grown_trans (grown_trans HG.out (grown_drew _ _)) hg9); have hS0 := hg9.cell qc0 (by simp); have hS1 := hg9.cell qc1 (by simp); clear ho9 hg9 hx9))
  clear hS0 hS1 qc0 qc1
  go_wp2_with fail
  refine (equalInts_any xs xs a9 _ n1 c9 n1 c1 true _ HR9.out HX9.out (by omega) (by simp)).mono ?_
  rintro e w10 ⟨rfl, hg10⟩
  have HG10 := Lib.hid (grown_trans HG9.out hg10)
  clear hg10
  go_wp2
  go_ret
  exact ⟨rfl, HG10.out⟩

set_option maxRecDepth 100000 in
set_option maxHeartbeats 4000000 in
theorem FnLinearZero_walk (ao : Option Addr) (len cap : Nat) (w : World) (hb : BytesAt w ao len) (hlc : len ≤ cap) (hmax : len ≤ 9223372036854775807) :
    Calls Try.prog 8 #[.slice ao len cap] w (Holds w) := by
  by_cases hlen : 1048576 < len
  · clear hb
    go_enter Try.func8, Try.ntmps8
    go_wp2
    go_ret
    exact ⟨rfl, grown_refl _ _⟩
  have hd := drawLR_any ao len cap w hb hlc hmax
  have hm : decide (1048576 < (len : Int)) = false := by simp; omega
  clear hb hlen
  go_enter Try.func8, Try.ntmps8
  go_wp2_with fail
  refine hd.mono ?_
  rintro e w1 ⟨v1, n1, xs, u1, n, cs, sh, rfl, hn1, hn9, ho1, hu1, ha1, hc1, hs0, hs1, hg1⟩
  obtain ⟨a1, c1, rfl, hlc1, hnn1, hx1, _⟩ := ho1.reads
  obtain ⟨a2, c2, rfl, hlc2, hnn2, hx2, _⟩ := hu1.reads
  obtain ⟨ys, m, ok, hLR, hm64⟩ := LR_there xs cs sh
  have HLR := Lib.hid hLR
  have HB := Lib.hid (heap_alloc_new w1 (.cells #[.slice a2 n c2, .int .i64 sh] 25))
  have HX := Lib.hid (hx1.grown (grown_alloc w1 (.cells #[.slice a2 n c2, .int .i64 sh] 25) none))
  have HC := Lib.hid (hx2.grown (grown_alloc w1 (.cells #[.slice a2 n c2, .int .i64 sh] 25) none))
  have HG := Lib.hid (grown_trans hg1 (grown_alloc w1 (.cells #[.slice a2 n c2, .int .i64 sh] 25) none))
  have HNN1 := Lib.hid hnn1
  have HXC := Lib.hid (And.intro hx1.1 hx2.1)
  clear hd ho1 hu1 hx1 hx2 hg1 hLR ha1 hc1 hnn1 hnn2
  have qc0 := (two_cells HB.out).1
  have qc1 := (two_cells HB.out).2
  go_wp2_with fail
  refine (iLR_any cs xs n n1 m sh ys ok a2 a1 c2 c1 _ HX.out hlc1 HC.out (by omega) (by omega) HLR.out).mono ?_
  rintro e w2 ⟨v2, rfl, ho2, hg2⟩
  obtain ⟨a3, c3, rfl, hlc3, hnn3, hx3, _⟩ := ho2.reads
  clear ho2
  replace HB := Lib.hid (grown_heap hg2 HB.out (by simp))
  replace HX := Lib.hid (HX.out.grown hg2)
  replace HC := Lib.hid (HC.out.grown hg2)
  replace HG := Lib.hid (grown_trans HG.out hg2)
  clear hg2 qc0 qc1
  have HY := Lib.hid hx3
  have HNN3 := Lib.hid hnn3
  clear hx3 hnn3
  have qc0 := (two_cells HB.out).1
  have qc1 := (two_cells HB.out).2
  go_wp2_with fail
  refine (sLR_any cs xs n n1 m sh ys ok a2 a1 c2 c1 _ HX.out HC.out (by omega) (by omega) HLR.out).mono ?_
  rintro e w3 ⟨v3, rfl, ho3, hg3⟩
  obtain ⟨a4, c4, rfl, _, _, hx4, _⟩ := ho3.reads
  clear ho3
  replace HB := Lib.hid (grown_heap hg3 HB.out (by simp))
  replace HX := Lib.hid (HX.out.grown hg3)
  replace HC := Lib.hid (HC.out.grown hg3)
  replace HG := Lib.hid (grown_trans HG.out hg3)
  replace HY := Lib.hid (HY.out.grown hg3)
  clear hg3 qc0 qc1
  have HS := Lib.hid hx4
  clear hx4
  go_wp2_with fail
  refine (equalInts_any ys ys a3 a4 m c3 m c4 true _ HY.out HS.out (by omega) (by simp)).mono ?_
  rintro e w4 ⟨rfl, hg4⟩
  replace HB := Lib.hid (grown_heap hg4 HB.out (by simp))
  replace HX := Lib.hid (HX.out.grown hg4)
  replace HC := Lib.hid (HC.out.grown hg4)
  replace HG := Lib.hid (grown_trans HG.out hg4)
  replace HY := Lib.hid (HY.out.grown hg4)
  replace HS := Lib.hid (HS.out.grown hg4)
  clear hg4
  cases ok with
  | false =>
    go_wp2_with fail
    refine (equalInts_any ys ys a3 a4 m c3 m c4 true _ HY.out HS.out (by omega) (by simp)).mono ?_
    rintro e w5 ⟨rfl, hg5⟩
    replace HB := Lib.hid (grown_heap hg5 HB.out (by simp))
    replace HX := Lib.hid (HX.out.grown hg5)
    replace HC := Lib.hid (HC.out.grown hg5)
    replace HG := Lib.hid (grown_trans HG.out hg5)
    replace HY := Lib.hid (HY.out.grown hg5)
    replace HS := Lib.hid (HS.out.grown hg5)
    clear hg5
    go_wp2
    go_ret
    exact ⟨rfl, HG.out⟩
  | true =>
  have hok := HLR.out.1
  have hok2 := hok
  unfold lrOk at hok2
  simp only [Bool.and_eq_true, decide_eq_true_eq] at hok2
  obtain ⟨⟨⟨hvs, hvl⟩, hcl⟩, hvr⟩ := hok2
  obtain ⟨hv1, hv8, hca, hs00, hs14⟩ := vLin_in hvl
  obtain ⟨s, rfl⟩ := Int.eq_ofNat_of_zero_le hs00
  obtain ⟨hys, hmm, _⟩ := LR_yes HLR.out hok rfl
  rw [show (s : Int).toNat = s by simp] at hvr
  have HYS := Lib.hid hys
  have HM := Lib.hid hmm
  have HVS := Lib.hid hvs
  have HVL := Lib.hid hvl
  have HVR := Lib.hid hvr
  have hl64 := vS_len hvs
  have e1 := HXC.out.1
  have e2 := HXC.out.2
  have hn8 : n ≤ 8 := by omega
  have hn1' : 1 ≤ n := by omega
  have hnl : n ≤ n1 := by omega
  have hl64' : n1 ≤ 64 := by omega
  have hmn1 : m + n ≤ n1 := by omega
  have hmn2 : n1 ≤ m + n := by omega
  have hs14' : s ≤ 14 := by omega
  clear hok hvs hvl hcl hvr hv1 hv8 hca hs00 hs14 hys hmm hl64 e1 e2 hs0 hs1
  have hca : allB [0] (-4095) 4095 = true := by decide
  have hvz : vLin [0] (s : Int) = true := by
    have hs := (vLin_in HVL.out).2.2.2
    unfold vLin
    rw [hca, inB_true hs.1 hs.2]; rfl
  have hLZ : LR xs [0] (s : Int) (xs.drop 1) (n1 - 1) true := by
    have e1 := HXC.out.1
    have hall := vS_all HVS.out
    have hvr : vR (resL [0] s xs) = true := by
      rw [resL_zero]
      have : allB (xs.drop 1) (-4194303) 4194303 = true := by
        unfold allB at hall ⊢
        rw [List.all_eq_true] at hall ⊢
        intro y hy
        have h := hall y (List.mem_of_mem_drop hy)
        unfold inB at h ⊢
        simp only [decide_eq_true_eq] at h ⊢
        omega
      unfold vR
      rw [this]
      simp; omega
    have hok : lrOk xs [0] (s : Int) = true := by
      rw [lrOk_in HVS.out hvz (by simp; omega) rfl, hvr]
    refine ⟨hok, ?_, ?_⟩
    · unfold lrR
      rw [hok, if_pos rfl, show (s : Int).toNat = s by simp, resL_zero]
    · rw [if_pos rfl]; simp; omega
  have HLZ := Lib.hid hLZ
  clear hLZ hvz hca
  obtain ⟨b1, o1, hab⟩ : ∃ b o, a1 = some ⟨b, o, none⟩ := by
    obtain ⟨b, off, hab, _⟩ := HX.out.2.resolve_left (by intro e; have := HXC.out.1; rw [e] at this; simp at this; omega)
    exact ⟨b, off, hab⟩
  subst hab
  have qc0 := (two_cells HB.out).1
  have qc1 := (two_cells HB.out).2
  have hbl : w1.heap.size < w4.heap.size := block_lt HB.out
  go_wp2_with fail
  refine (iLR_any [0] xs 1 n1 (n1 - 1) (s : Int) (xs.drop 1) true _ _ _ c1 _ (HX.out.grown (grown_alloc _ _ _)) hlc1 (ints_one _ _ _) (by omega) (by omega) HLZ.out).mono ?_
  rintro e w9 ⟨v9, rfl, ho9, hg9⟩
  obtain ⟨a9, c9, rfl, _, _, hx9, _⟩ := ho9.reads
  have HR9 := Lib.hid hx9
  have HX9 := Lib.hid ((HX.out.grown (grown_alloc w4 _ none)).grown hg9)
  have HG9 := Lib.hid (grown_trans (grown_trans HG.out (grown_alloc w4 _ none)) hg9)
  clear ho9 hg9 hx9 qc0 qc1 hbl
  have hn1i : (1 : Int) ≤ (n1 : Int) := by omega
  by_cases hcc : c1 = 1
  · have hcc2 : n1 = 1 := by omega
    subst hcc
    subst hcc2
    have HE : Hid (∀ z, Ints w9 z (1 - 1) (xs.drop 1)) := fun z => by
      have : xs.drop 1 = [] := List.drop_of_length_le (by have := HXC.out.1; omega)
      rw [this]
      exact ⟨rfl, Or.inl rfl⟩
    go_wp2_with fail
    refine (equalInts_any (xs.drop 1) (xs.drop 1) a9 _ (1 - 1) c9 0 _ true _ HR9.out (HE.out _) (by omega) (by simp)).mono ?_
    rintro e w10 ⟨rfl, hg10⟩
    have HG10 := Lib.hid (grown_trans HG9.out hg10)
    clear hg10
    go_wp2
    go_ret
    exact ⟨rfl, HG10.out⟩
  · have HD : Hid (Ints w9 (some ⟨b1, o1 + 1, none⟩) (n1 - 1) (xs.drop 1)) := by
      refine ⟨by have := HXC.out.1; simp; omega, ?_⟩
      rcases HX9.out.2 with e | ⟨b, off, e, hc⟩
      · left; rw [e]; rfl
      · right
        injection e with e
        injection e with e1 e2
        subst e1
        subst e2
        refine ⟨b1, o1 + 1, rfl, fun j y hj => ?_⟩
        rw [drop_get] at hj
        rw [Nat.add_assoc]
        exact hc _ _ hj
    go_wp2_with fail
    refine (equalInts_any (xs.drop 1) (xs.drop 1) a9 _ (n1 - 1) c9 (n1 - 1) _ true _ HR9.out HD.out (by omega) (by simp)).mono ?_
    rintro e w10 ⟨rfl, hg10⟩
    have HG10 := Lib.hid (grown_trans HG9.out hg10)
    clear hg10
    go_wp2
    go_ret
    exact ⟨rfl, HG10.out⟩

end Go.Proofs.Ytgiiaijlahjfnaa
