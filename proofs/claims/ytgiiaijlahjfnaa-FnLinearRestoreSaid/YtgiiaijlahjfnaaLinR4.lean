/-
  LinearRestore of the program, for all arguments; both texts give the same.
-/
import Derived.Test.YtgiiaijlahjfnaaLinR3
namespace Go.Proofs.Ytgiiaijlahjfnaa
open Go.RowKit

set_option maxRecDepth 100000 in
set_option maxHeartbeats 4000000 in
theorem iRestOf_any (cs ws rs : List Int) (n lw lr m : Nat) (sh : Int) (ys : List Int) (ok : Bool) (yo ao bo : Option Addr) (ycap cap bcap : Nat) (w : World) (hx : Ints w ao lw ws) (hxn : ao = none → cap = 0) (hr : Ints w bo lr rs) (hy : Ints w yo n cs) (hl1 : lw ≤ 4611686018427387904) (hl2 : lr ≤ 4611686018427387904) (hl3 : n ≤ 4611686018427387904) (h : RS ws rs cs sh ys m ok) :
    Calls Try.prog 41 #[.slice ao lw cap, .slice bo lr bcap, .iface 25 (.agg #[.slice yo n ycap, .int .i64 sh])] w (MadeRB ys m ok w) := by
  have HL := Lib.hid (And.intro hx.1 (And.intro hr.1 hy.1))
  have HX := Lib.hid hx
  have HXN := Lib.hid hxn
  have HR := Lib.hid hr
  have HY := Lib.hid hy
  have HH := Lib.hid h
  obtain ⟨b4, h4⟩ : ∃ b, vS ws = b := ⟨_, rfl⟩
  obtain ⟨b5, h5⟩ : ∃ b, vR rs = b := ⟨_, rfl⟩
  obtain ⟨b2, h2⟩ : ∃ b, vLin cs sh = b := ⟨_, rfl⟩
  have k4 := iValidSamples_any ws ao lw cap w b4 hx hl1 h4
  have k5 := iVR_any rs bo lr bcap w b5 hr hl2 h5
  have k2 := iValid_any cs sh yo n ycap w b2 hy hl3 h2
  have H4 := Lib.hid h4
  have H5 := Lib.hid h5
  have H2 := Lib.hid h2
  have e1 := fun w => m_valid (.slice yo n ycap) sh w
  have e2 := fun w => m_order (.slice yo n ycap) sh w
  clear hx hxn hr hy h h4 h5 h2
  cases b4 with
  | false =>
    obtain ⟨rfl, rfl, rfl⟩ := RS_no HH.out (rsOk_no3 H4.out)
    clear k5 k2
    go_enter Try.func41, Try.ntmps41
    go_wp2_with fail
    refine k4.mono ?_
    rintro e w' ⟨rfl, rfl⟩
    go_wp2
    go_ret2
    exact madeRB_none (grown_refl _ _)
  | true =>
  cases b5 with
  | false =>
    obtain ⟨rfl, rfl, rfl⟩ := RS_no HH.out (rsOk_no4 H5.out)
    clear k2
    go_enter Try.func41, Try.ntmps41
    go_wp2_with fail
    refine k4.mono ?_
    rintro e w' ⟨rfl, rfl⟩
    go_wp2_with fail
    refine k5.mono ?_
    rintro e w' ⟨rfl, rfl⟩
    go_wp2
    go_ret2
    exact madeRB_none (grown_refl _ _)
  | true =>
  have hw64 : lw ≤ 64 := by have := vS_len H4.out; have := HL.out.1; omega
  have hr64 : lr ≤ 64 := by have := vR_len H5.out; have := HL.out.2.1; omega
  by_cases h6 : ¬ lw + lr ≤ 64
  · obtain ⟨rfl, rfl, rfl⟩ := RS_no HH.out (rsOk_no5 (by rw [HL.out.1, HL.out.2.1]; exact h6))
    have d6 : decide (64 < (lw : Int) + (lr : Int)) = true := by simp; omega
    clear h6 k2
    go_enter Try.func41, Try.ntmps41
    go_wp2_with fail
    refine k4.mono ?_
    rintro e w' ⟨rfl, rfl⟩
    go_wp2_with fail
    refine k5.mono ?_
    rintro e w' ⟨rfl, rfl⟩
    go_wp2
    go_ret2
    exact madeRB_none (grown_refl _ _)
  have h6 := Classical.not_not.1 h6
  have d6 : decide (64 < (lw : Int) + (lr : Int)) = false := by simp; omega
  cases b2 with
  | false =>
    obtain ⟨rfl, rfl, rfl⟩ := RS_no HH.out (rsOk_no1 H2.out)
    go_enter Try.func41, Try.ntmps41
    go_wp2_with fail
    refine k4.mono ?_
    rintro e w' ⟨rfl, rfl⟩
    go_wp2_with fail
    refine k5.mono ?_
    rintro e w' ⟨rfl, rfl⟩
    go_wp2_with fail
    refine k2.mono ?_
    rintro e w2 ⟨rfl, hg⟩
    have HG := Lib.hid hg
    clear k4 k5 k2 hg
    go_wp2
    go_ret2
    exact madeRB_none HG.out
  | true =>
  by_cases h3 : ¬ n = lw
  · obtain ⟨rfl, rfl, rfl⟩ := RS_no HH.out (rsOk_no2 (by rw [HL.out.1, HL.out.2.2]; exact fun e => h3 e.symm))
    have d3 : ((n : Int) != (lw : Int)) = true := by simp; omega
    have d3n : (n != lw) = true := by simpa using h3
    clear h3
    go_enter Try.func41, Try.ntmps41
    go_wp2_with fail
    refine k4.mono ?_
    rintro e w' ⟨rfl, rfl⟩
    go_wp2_with fail
    refine k5.mono ?_
    rintro e w' ⟨rfl, rfl⟩
    go_wp2_with fail
    refine k2.mono ?_
    rintro e w2 ⟨rfl, hg⟩
    have HG := Lib.hid hg
    clear k4 k5 k2 hg
    go_wp2_with fail
    refine (iOrder_any yo n ycap _ w2).mono ?_
    rintro e w3 ⟨rfl, hg3⟩
    have HG3 := Lib.hid (grown_trans HG.out hg3)
    clear hg3
    go_wp2
    go_ret2
    exact madeRB_none HG3.out
  have h3 := Classical.not_not.1 h3
  subst h3
  clear k4 k5 k2 e1 e2 d6
  obtain ⟨_, _, _, hs0, _⟩ := vLin_in H2.out
  obtain ⟨s, rfl⟩ := Int.eq_ofNat_of_zero_le hs0
  have hin := RS_in HH.out H2.out (by rw [HL.out.1, HL.out.2.2]) H4.out H5.out (by rw [HL.out.1, HL.out.2.1]; exact h6) rfl
  have HIN : Hid ((rsT cs s ws rs lr).getD [] = ys ∧ (rsT cs s ws rs lr).isSome = ok ∧ (if ok then n + lr else 0) = m) := by
    have := hin.out
    rw [HL.out.1, HL.out.2.1] at this
    exact this
  exact iRestOf_good cs ws rs n lr s m _ ys ok yo ao bo ycap cap bcap w HX.out HXN.out HR.out HY.out h6 H2.out H4.out H5.out rfl HIN

set_option maxHeartbeats 400000 in
theorem iRS_any (cs ws rs : List Int) (n lw lr m : Nat) (sh : Int) (ys : List Int) (ok : Bool) (yo ao bo : Option Addr) (ycap cap bcap : Nat) (w : World) (hx : Ints w ao lw ws) (hxn : ao = none → cap = 0) (hr : Ints w bo lr rs) (hy : Ints w yo n cs) (hl1 : lw ≤ 4611686018427387904) (hl2 : lr ≤ 4611686018427387904) (hl3 : n ≤ 4611686018427387904) (h : RS ws rs cs sh ys m ok) :
    Calls Try.prog 16 #[.slice ao lw cap, .slice bo lr bcap, .agg #[.slice yo n ycap, .int .i64 sh]] w (MadeRB ys m ok w) := by
  have k1 := iRestOf_any cs ws rs n lw lr m sh ys ok yo ao bo ycap cap bcap (w.alloc (.cells #[.slice yo n ycap, .int .i64 sh] 25)) (hx.grown (grown_alloc _ _ _)) hxn (hr.grown (grown_alloc _ _ _)) (hy.grown (grown_alloc _ _ _)) hl1 hl2 hl3 h
  clear hx hr hy h
  go_enter Try.func16, Try.ntmps16
  go_wp2_with fail
  refine k1.mono ?_
  rintro e w1 ⟨v1, rfl, ho, hg⟩
  have HO := Lib.hid (ho.base_le (base' := w.heap.size) (by simp))
  have HG := Lib.hid (grown_trans (grown_alloc w (.cells #[.slice yo n ycap, .int .i64 sh] 25) none) hg)
  obtain ⟨a1, c1, rfl, _⟩ := ho.reads
  clear k1 ho hg
  go_wp2
  go_ret2
  exact ⟨.slice a1 m c1, rfl, HO.out, HG.out⟩

/-- What LinearRestore gives, of all arguments. -/
theorem RS_there (ws rs cs : List Int) (sh : Int) : ∃ (ys : List Int) (m : Nat) (ok : Bool), RS ws rs cs sh ys m ok ∧ m ≤ 64 := by
  refine ⟨rsR ws rs cs sh, _, rsOk ws rs cs sh, ⟨rfl, rfl, rfl⟩, ?_⟩
  cases h : rsOk ws rs cs sh with
  | false => simp
  | true =>
    unfold rsOk at h
    simp only [Bool.and_eq_true, decide_eq_true_eq] at h
    simp; exact h.1.2

end Go.Proofs.Ytgiiaijlahjfnaa
