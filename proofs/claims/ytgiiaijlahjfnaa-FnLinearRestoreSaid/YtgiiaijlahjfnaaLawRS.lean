/-
  The walk of the law on restored samples: it returns true and writes nothing that was there. For every code.
-/
import Derived.Test.YtgiiaijlahjfnaaDrawRS
import Derived.Test.YtgiiaijlahjfnaaLinR4
namespace Go.Proofs.Ytgiiaijlahjfnaa
open Go.RowKit

set_option maxRecDepth 100000 in
set_option maxHeartbeats 4000000 in
theorem FnLinearRestore_walk (ao : Option Addr) (len cap : Nat) (w : World) (hb : BytesAt w ao len) (hlc : len ≤ cap) (hmax : len ≤ 9223372036854775807) :
    Calls Try.prog 4 #[.slice ao len cap] w (Holds w) := by
  by_cases hlen : 1048576 < len
  · clear hb
    go_enter Try.func4, Try.ntmps4
    go_wp2
    go_ret
    exact ⟨rfl, grown_refl _ _⟩
  have hd := drawRS_any ao len cap w hb hlc hmax
  have hm : decide (1048576 < (len : Int)) = false := by simp; omega
  clear hb hlen
  go_enter Try.func4, Try.ntmps4
  go_wp2_with fail
  refine hd.mono ?_
  rintro e w1 ⟨a1, n1, c1, ws, a2, n2, c2, rs, a3, n, c3, cs, sh, rfl, hn1, hn2, hn9, hx1, hnn1, hlc1, hx2, hlc2, hx3, hg1⟩
  obtain ⟨ys, m, ok, hRS, hm64⟩ := RS_there ws rs cs sh
  have HRS := Lib.hid hRS
  have HB := Lib.hid (heap_alloc_new w1 (.cells #[.slice a3 n c3, .int .i64 sh] 25))
  have HX := Lib.hid (hx1.grown (grown_alloc w1 (.cells #[.slice a3 n c3, .int .i64 sh] 25) none))
  have HR := Lib.hid (hx2.grown (grown_alloc w1 (.cells #[.slice a3 n c3, .int .i64 sh] 25) none))
  have HC := Lib.hid (hx3.grown (grown_alloc w1 (.cells #[.slice a3 n c3, .int .i64 sh] 25) none))
  have HG := Lib.hid (grown_trans hg1 (grown_alloc w1 (.cells #[.slice a3 n c3, .int .i64 sh] 25) none))
  have HNN1 := Lib.hid hnn1
  have HXC := Lib.hid (And.intro hx1.1 (And.intro hx2.1 hx3.1))
  clear hd hx1 hx2 hx3 hg1 hRS hnn1
  have qc0 := (two_cells HB.out).1
  have qc1 := (two_cells HB.out).2
  go_wp2_with fail
  refine (iRS_any cs ws rs n n1 n2 m sh ys ok a3 a1 a2 c3 c1 c2 _ HX.out HNN1.out HR.out HC.out (by omega) (by omega) (by omega) HRS.out).mono ?_
  rintro e w2 ⟨v2, rfl, ho2, hg2⟩
  obtain ⟨a5, c5, rfl, hlc5, hnn5, hx5, _⟩ := ho2.reads
  clear ho2
  replace HB := Lib.hid (grown_heap hg2 HB.out (by simp))
  replace HX := Lib.hid (HX.out.grown hg2)
  replace HR := Lib.hid (HR.out.grown hg2)
  replace HC := Lib.hid (HC.out.grown hg2)
  replace HG := Lib.hid (grown_trans HG.out hg2)
  clear hg2 qc0 qc1
  have HY := Lib.hid hx5
  have HNN5 := Lib.hid hnn5
  clear hx5 hnn5
  have qc0 := (two_cells HB.out).1
  have qc1 := (two_cells HB.out).2
  go_wp2_with fail
  refine (sRS_any cs ws rs n n1 n2 m sh ys ok a3 a1 a2 c3 c1 c2 _ HX.out HNN1.out HR.out HC.out (by omega) (by omega) (by omega) HRS.out).mono ?_
  rintro e w3 ⟨v3, rfl, ho3, hg3⟩
  obtain ⟨a6, c6, rfl, _, _, hx6, _⟩ := ho3.reads
  clear ho3
  replace HB := Lib.hid (grown_heap hg3 HB.out (by simp))
  replace HX := Lib.hid (HX.out.grown hg3)
  replace HR := Lib.hid (HR.out.grown hg3)
  replace HC := Lib.hid (HC.out.grown hg3)
  replace HG := Lib.hid (grown_trans HG.out hg3)
  replace HY := Lib.hid (HY.out.grown hg3)
  clear hg3 qc0 qc1
  have HS := Lib.hid hx6
  clear hx6
  go_wp2_with fail
  refine (equalInts_any ys ys a5 a6 m c5 m c6 true _ HY.out HS.out (by omega) (by simp)).mono ?_
  rintro e w4 ⟨rfl, hg4⟩
  replace HB := Lib.hid (grown_heap hg4 HB.out (by simp))
  replace HX := Lib.hid (HX.out.grown hg4)
  replace HR := Lib.hid (HR.out.grown hg4)
  replace HC := Lib.hid (HC.out.grown hg4)
  replace HG := Lib.hid (grown_trans HG.out hg4)
  replace HY := Lib.hid (HY.out.grown hg4)
  replace HS := Lib.hid (HS.out.grown hg4)
  clear hg4
  cases ok with
  | false =>
    go_wp2_with fail
    refine (equalInts_any ys ys a5 a6 m c5 m c6 true _ HY.out HS.out (by omega) (by simp)).mono ?_
    rintro e w5 ⟨rfl, hg5⟩
    replace HB := Lib.hid (grown_heap hg5 HB.out (by simp))
    replace HX := Lib.hid (HX.out.grown hg5)
    replace HR := Lib.hid (HR.out.grown hg5)
    replace HC := Lib.hid (HC.out.grown hg5)
    replace HG := Lib.hid (grown_trans HG.out hg5)
    replace HY := Lib.hid (HY.out.grown hg5)
    replace HS := Lib.hid (HS.out.grown hg5)
    clear hg5
    go_wp2
    go_ret
    exact ⟨rfl, HG.out⟩
  | true =>
  have hok := HRS.out.1
  unfold rsOk at hok
  simp only [Bool.and_eq_true, decide_eq_true_eq] at hok
  obtain ⟨⟨⟨⟨⟨hvl, hwl⟩, hvw⟩, hvr⟩, hl64⟩, hso⟩ := hok
  obtain ⟨hv1, hv8, hca, hs00, hs14⟩ := vLin_in hvl
  obtain ⟨s, rfl⟩ := Int.eq_ofNat_of_zero_le hs00
  rw [show (s : Int).toNat = s by simp] at hso
  obtain ⟨acc, hacc⟩ := Option.isSome_iff_exists.mp hso
  have hyacc : ys = acc := by
    have h := (RS_in HRS.out hvl hwl hvw hvr hl64 rfl).out.1
    rw [hacc] at h
    exact h.symm
  subst hyacc
  have hml : m = n1 + n2 := by
    have h := (RS_in HRS.out hvl hwl hvw hvr hl64 rfl).out.2.2
    rw [if_pos rfl] at h
    have e1 := HXC.out.1
    have e2 := HXC.out.2.1
    omega
  have hyl := rsT_len hacc
  have hres := res_of_rsT hwl hacc
  have hvy : vS ys = true := by
    have hall := rsT_all (vS_all hvw) hacc
    unfold vS
    rw [hall, hyl]
    simp
    omega
  have hLR : LR ys cs (s : Int) rs n2 true := by
    have e1 := HXC.out.1
    have e2 := HXC.out.2.1
    have hok : lrOk ys cs (s : Int) = true := by
      rw [lrOk_in hvy hvl (by omega) rfl, hres.1]; exact hvr
    refine ⟨hok, ?_, ?_⟩
    · unfold lrR
      rw [hok, if_pos rfl, show (s : Int).toNat = s by simp]; exact hres.1
    · rw [if_pos rfl]; omega
  have HLR := Lib.hid hLR
  have e1 := HXC.out.1
  have e2 := HXC.out.2.1
  have e3 := HXC.out.2.2
  have hs14' : s ≤ 14 := by omega
  have hn8 : n ≤ 8 := by omega
  have hnm : n ≤ m := by omega
  have hmz : (m : Int) = (n1 : Int) + (n2 : Int) := by omega
  clear hvl hwl hvw hvr hl64 hso hv1 hv8 hca hs00 hs14 hacc hyl hres hvy hLR e1 e2 e3 hml
  have qc0 := (two_cells HB.out).1
  have qc1 := (two_cells HB.out).2
  go_wp2_with fail
  refine (iLR_any cs ys n m n2 (s : Int) rs true a3 a5 c3 c5 _ HY.out hlc5 HC.out (by omega) (by omega) HLR.out).mono ?_
  rintro e w5 ⟨v5, rfl, ho5, hg5⟩
  obtain ⟨a7, c7, rfl, _, _, hx7, _⟩ := ho5.reads
  clear ho5
  replace HB := Lib.hid (grown_heap hg5 HB.out (by simp))
  replace HX := Lib.hid (HX.out.grown hg5)
  replace HR := Lib.hid (HR.out.grown hg5)
  replace HC := Lib.hid (HC.out.grown hg5)
  replace HG := Lib.hid (grown_trans HG.out hg5)
  replace HY := Lib.hid (HY.out.grown hg5)
  replace HS := Lib.hid (HS.out.grown hg5)
  clear hg5 qc0 qc1
  have HZ := Lib.hid hx7
  clear hx7
  go_wp2_with fail
  refine (equalInts_any rs rs a7 a2 n2 c7 n2 c2 true _ HZ.out HR.out (by omega) (by simp)).mono ?_
  rintro e w6 ⟨rfl, hg6⟩
  replace HB := Lib.hid (grown_heap hg6 HB.out (by simp))
  replace HX := Lib.hid (HX.out.grown hg6)
  replace HR := Lib.hid (HR.out.grown hg6)
  replace HC := Lib.hid (HC.out.grown hg6)
  replace HG := Lib.hid (grown_trans HG.out hg6)
  replace HY := Lib.hid (HY.out.grown hg6)
  replace HS := Lib.hid (HS.out.grown hg6)
  replace HZ := Lib.hid (HZ.out.grown hg6)
  clear hg6
  go_wp2
  go_ret
  exact ⟨rfl, HG.out⟩

end Go.Proofs.Ytgiiaijlahjfnaa
