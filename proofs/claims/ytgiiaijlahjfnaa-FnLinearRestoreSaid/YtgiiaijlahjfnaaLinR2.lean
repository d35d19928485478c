/-
  LinearRestore of the specification, for all arguments.
-/
import Derived.Test.YtgiiaijlahjfnaaLinR
namespace Go.Proofs.Ytgiiaijlahjfnaa
open Go.RowKit

theorem rsOk_no1 {ws rs cs : List Int} {sh : Int} (h : vLin cs sh = false) : rsOk ws rs cs sh = false := by unfold rsOk; rw [h]; rfl
theorem rsOk_no2 {ws rs cs : List Int} {sh : Int} (h : ¬ ws.length = cs.length) : rsOk ws rs cs sh = false := by unfold rsOk; rw [decide_eq_false h]; simp
theorem rsOk_no3 {ws rs cs : List Int} {sh : Int} (h : vS ws = false) : rsOk ws rs cs sh = false := by unfold rsOk; rw [h]; simp
theorem rsOk_no4 {ws rs cs : List Int} {sh : Int} (h : vR rs = false) : rsOk ws rs cs sh = false := by unfold rsOk; rw [h]; simp
theorem rsOk_no5 {ws rs cs : List Int} {sh : Int} (h : ¬ ws.length + rs.length ≤ 64) : rsOk ws rs cs sh = false := by unfold rsOk; rw [decide_eq_false h]; simp
theorem rsOk_in {ws rs cs : List Int} {sh : Int} {s : Nat} (h1 : vLin cs sh = true) (h2 : ws.length = cs.length) (h3 : vS ws = true) (h4 : vR rs = true) (h5 : ws.length + rs.length ≤ 64) (hs : sh = (s : Int)) : rsOk ws rs cs sh = (rsT cs s ws rs rs.length).isSome := by
  unfold rsOk; rw [h1, decide_eq_true h2, h3, h4, decide_eq_true h5, hs]; simp
/-- What LinearRestore gives. -/
def RS (ws rs cs : List Int) (sh : Int) (ys : List Int) (m : Nat) (ok : Bool) : Prop := rsOk ws rs cs sh = ok ∧ rsR ws rs cs sh = ys ∧ (if ok then ws.length + rs.length else 0) = m
theorem RS_no {ws rs cs : List Int} {sh : Int} {ys : List Int} {m : Nat} {ok : Bool} (h : RS ws rs cs sh ys m ok) (h0 : rsOk ws rs cs sh = false) : ys = [] ∧ m = 0 ∧ ok = false := by
  obtain ⟨a, b, c⟩ := h
  rw [h0] at a
  subst a
  unfold rsR at b
  rw [h0] at b
  exact ⟨b.symm, c.symm, rfl⟩
theorem RS_in {ws rs cs : List Int} {sh : Int} {ys : List Int} {m s : Nat} {ok : Bool} (h : RS ws rs cs sh ys m ok) (h1 : vLin cs sh = true) (h2 : ws.length = cs.length) (h3 : vS ws = true) (h4 : vR rs = true) (h5 : ws.length + rs.length ≤ 64) (hs : sh = (s : Int)) :
    Hid ((rsT cs s ws rs rs.length).getD [] = ys ∧ (rsT cs s ws rs rs.length).isSome = ok ∧ (if ok then ws.length + rs.length else 0) = m) := by
  obtain ⟨a, b, c⟩ := h
  have e := rsOk_in h1 h2 h3 h4 h5 hs
  rw [e] at a
  refine ⟨?_, a, c⟩
  unfold rsR at b
  rw [e, hs, show (s : Int).toNat = s by simp] at b
  rw [← b]
  cases rsT cs s ws rs rs.length <;> rfl

set_option maxRecDepth 100000 in
set_option maxHeartbeats 4000000 in
theorem sRS_any (cs ws rs : List Int) (n lw lr m : Nat) (sh : Int) (ys : List Int) (ok : Bool) (yo ao bo : Option Addr) (ycap cap bcap : Nat) (w : World) (hx : Ints w ao lw ws) (hxn : ao = none → cap = 0) (hr : Ints w bo lr rs) (hy : Ints w yo n cs) (hl1 : lw ≤ 4611686018427387904) (hl2 : lr ≤ 4611686018427387904) (hl3 : n ≤ 4611686018427387904) (h : RS ws rs cs sh ys m ok) :
    Calls Try.prog 18 #[.slice ao lw cap, .slice bo lr bcap, .agg #[.slice yo n ycap, .int .i64 sh]] w (MadeRB ys m ok w) := by
  have hxl := hx.1
  have hrl := hr.1
  have hyl := hy.1
  have HW := Lib.hid (grown_alloc w (.cells #[.slice yo n ycap, .int .i64 sh] 25) none)
  have HA := Lib.hid (heap_alloc_new w (.cells #[.slice yo n ycap, .int .i64 sh] 25))
  have HX := Lib.hid hx
  have HXN := Lib.hid hxn
  have HR := Lib.hid hr
  have HY := Lib.hid hy
  have HH := Lib.hid h
  obtain ⟨b2, h2⟩ : ∃ b, vLin cs sh = b := ⟨_, rfl⟩
  have k2 := sValid_any cs sh yo n ycap _ b2 (hy.grown HW.out) hl3 h2
  have H2 := Lib.hid h2
  clear hx hxn hr hy h h2
  cases b2 with
  | false =>
    obtain ⟨rfl, rfl, rfl⟩ := RS_no HH.out (rsOk_no1 H2.out)
    clear hxl hrl hyl
    go_enter Try.func18, Try.ntmps18
    go_wp2_with fail
    refine k2.mono ?_
    rintro e w2 ⟨rfl, hg⟩
    have HG := Lib.hid (grown_trans HW.out hg)
    clear k2 hg
    go_wp2
    go_ret2
    exact madeRB_none HG.out
  | true =>
  by_cases h3 : ¬ lw = n
  · obtain ⟨rfl, rfl, rfl⟩ := RS_no HH.out (rsOk_no2 (by rw [hxl, hyl]; exact h3))
    have d3 : ((lw : Int) != (n : Int)) = true := by simp; omega
    have d3n : (lw != n) = true := by simpa using h3
    clear hxl hrl hyl h3
    go_enter Try.func18, Try.ntmps18
    go_wp2_with fail
    refine k2.mono ?_
    rintro e w2 ⟨rfl, hg⟩
    have HG := Lib.hid (grown_trans HW.out hg)
    have q0 : w2.cell? ⟨w.heap.size, 0, none⟩ = some (.slice yo n ycap) := by rw [cell_of_row w2 _ 0 _ _ _ (grown_heap hg HA.out (by simp))]; rfl
    clear k2 hg
    go_wp2
    go_ret2
    exact madeRB_none HG.out
  have h3 := Classical.not_not.1 h3
  subst h3
  have HL := Lib.hid (And.intro hxl (And.intro hrl hyl))
  clear hxl hrl hyl
  obtain ⟨b4, h4⟩ : ∃ b, vS ws = b := ⟨_, rfl⟩
  have H4 := Lib.hid h4
  obtain ⟨b5, h5⟩ : ∃ b, vR rs = b := ⟨_, rfl⟩
  have H5 := Lib.hid h5
  clear h4 h5
  go_enter Try.func18, Try.ntmps18
  go_wp2_with fail
  refine k2.mono ?_
  rintro e w2 ⟨rfl, hg⟩
  have HG := Lib.hid (grown_trans HW.out hg)
  have q0 : w2.cell? ⟨w.heap.size, 0, none⟩ = some (.slice yo lw ycap) := by rw [cell_of_row w2 _ 0 _ _ _ (grown_heap hg HA.out (by simp))]; rfl
  have q1 : w2.cell? ⟨w.heap.size, 1, none⟩ = some (.int .i64 sh) := by rw [cell_of_row w2 _ 1 _ _ _ (grown_heap hg HA.out (by simp))]; rfl
  have k4 := sValidSamples_any ws ao lw cap w2 b4 (HX.out.grown HG.out) hl1 H4.out
  have k5 := sVR_any rs bo lr bcap w2 b5 (HR.out.grown HG.out) hl2 H5.out
  clear k2 hg
  go_wp2_with fail
  refine k4.mono ?_
  rintro e w' ⟨rfl, rfl⟩
  clear k4
  cases b4 with
  | false =>
    obtain ⟨rfl, rfl, rfl⟩ := RS_no HH.out (rsOk_no3 H4.out)
    clear k5
    go_wp2
    go_ret2
    exact madeRB_none HG.out
  | true =>
  go_wp2_with fail
  refine k5.mono ?_
  rintro e w' ⟨rfl, rfl⟩
  clear k5
  cases b5 with
  | false =>
    obtain ⟨rfl, rfl, rfl⟩ := RS_no HH.out (rsOk_no4 H5.out)
    go_wp2
    go_ret2
    exact madeRB_none HG.out
  | true =>
  have hw64 : lw ≤ 64 := by have := vS_len H4.out; have := HL.out.1; omega
  have hr64 : lr ≤ 64 := by have := vR_len H5.out; have := HL.out.2.1; omega
  by_cases h6 : ¬ lw + lr ≤ 64
  · obtain ⟨rfl, rfl, rfl⟩ := RS_no HH.out (rsOk_no5 (by rw [HL.out.1, HL.out.2.1]; exact h6))
    have d6 : decide (64 < (lw : Int) + (lr : Int)) = true := by simp; omega
    clear h6
    go_wp2
    go_ret2
    exact madeRB_none HG.out
  have h6 := Classical.not_not.1 h6
  have d6 : decide (64 < (lw : Int) + (lr : Int)) = false := by simp; omega
  obtain ⟨hv1, hv8, hca, hs0, hs14⟩ := vLin_in H2.out
  obtain ⟨s, rfl⟩ := Int.eq_ofNat_of_zero_le hs0
  have hin := RS_in HH.out H2.out (by rw [HL.out.1, HL.out.2.2]) H4.out H5.out (by rw [HL.out.1, HL.out.2.1]; exact h6) rfl
  have HIN : Hid ((rsT cs s ws rs lr).getD [] = ys ∧ (rsT cs s ws rs lr).isSome = ok ∧ (if ok then lw + lr else 0) = m) := by
    have := hin.out
    rw [HL.out.1, HL.out.2.1] at this
    exact this
  have HCA := Lib.hid hca
  have hv8' : lw ≤ 8 := by have := HL.out.2.2; omega
  have hs14' : s ≤ 14 := by omega
  clear hin hca hv1 hv8 hs0 hs14
  go_wp2_with fail
  refine (sRest_any cs ws rs lw lw lr s m _ ys ok yo ao bo ycap cap bcap _ (HX.out.grown HG.out) HXN.out (HR.out.grown HG.out) (HY.out.grown HG.out) (Nat.le_refl _) h6 hv8' hs14' HCA.out (vS_all H4.out) (vR_all H5.out) rfl HIN).mono ?_
  rintro e w3 ⟨v3, rfl, ho3, hg3⟩
  have HO := Lib.hid (ho3.base_le (base' := w.heap.size) HG.out.size)
  have HG3 := Lib.hid (grown_trans HG.out hg3)
  obtain ⟨a3, c3, rfl, _⟩ := ho3.reads
  clear ho3 hg3 q0 q1
  go_wp2
  go_ret2
  exact ⟨.slice a3 m c3, rfl, HO.out, HG3.out⟩

end Go.Proofs.Ytgiiaijlahjfnaa
