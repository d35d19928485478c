/-
  LinearResidual of the specification, for all arguments.
-/
import Derived.Test.YtgiiaijlahjfnaaLinS
namespace Go.Proofs.Ytgiiaijlahjfnaa
open Go.RowKit

/-- A call gives back a new list, and whether there is one. -/
def MadeRB (xs : List Int) (len : Nat) (ok : Bool) (w : World) (e : Ending) (w' : World) : Prop :=
  ∃ v, e = .returned (.tuple #[v, .bool ok]) ∧ Owns w' w.heap.size v len xs ∧ w.grownBy w' none
theorem madeRB_none {w w' : World} (hg : w.grownBy w' none) : MadeRB [] 0 false w (.returned (.tuple #[.slice none 0 0, .bool false])) w' := ⟨_, rfl, World.ownsRow_nil _ _ _ _, hg⟩

theorem vLin_in {cs : List Int} {sh : Int} (h : vLin cs sh = true) : 1 ≤ cs.length ∧ cs.length ≤ 8 ∧ allB cs (-4095) 4095 = true ∧ 0 ≤ sh ∧ sh ≤ 14 := by
  unfold vLin at h
  simp only [Bool.and_eq_true, decide_eq_true_eq] at h
  have := h.2
  unfold inB at this
  simp only [decide_eq_true_eq] at this
  exact ⟨h.1.1.1, h.1.1.2, h.1.2, this.1, this.2⟩
theorem lrOk_no1 {xs cs : List Int} {sh : Int} (h : vS xs = false) : lrOk xs cs sh = false := by unfold lrOk; rw [h]; rfl
theorem lrOk_no2 {xs cs : List Int} {sh : Int} (h : vLin cs sh = false) : lrOk xs cs sh = false := by unfold lrOk; rw [h]; simp
theorem lrOk_no3 {xs cs : List Int} {sh : Int} (h : ¬ cs.length ≤ xs.length) : lrOk xs cs sh = false := by unfold lrOk; rw [decide_eq_false h]; simp
theorem lrOk_in {xs cs : List Int} {sh : Int} {s : Nat} (h1 : vS xs = true) (h2 : vLin cs sh = true) (h3 : cs.length ≤ xs.length) (hs : sh = (s : Int)) : lrOk xs cs sh = vR (resL cs s xs) := by
  unfold lrOk; rw [h1, h2, decide_eq_true h3, hs]; simp
/-- What LinearResidual gives. -/
def LR (xs cs : List Int) (sh : Int) (ys : List Int) (m : Nat) (ok : Bool) : Prop := lrOk xs cs sh = ok ∧ lrR xs cs sh = ys ∧ (if ok then xs.length - cs.length else 0) = m
theorem LR_no {xs cs : List Int} {sh : Int} {ys : List Int} {m : Nat} {ok : Bool} (h : LR xs cs sh ys m ok) (h0 : lrOk xs cs sh = false) : ys = [] ∧ m = 0 ∧ ok = false := by
  obtain ⟨a, b, c⟩ := h
  rw [h0] at a
  subst a
  unfold lrR at b
  rw [h0] at b
  exact ⟨b.symm, c.symm, rfl⟩
theorem LR_yes {xs cs : List Int} {sh : Int} {ys : List Int} {m s : Nat} {ok : Bool} (h : LR xs cs sh ys m ok) (h0 : lrOk xs cs sh = true) (hs : sh = (s : Int)) : ys = resL cs s xs ∧ m = xs.length - cs.length ∧ ok = true := by
  obtain ⟨a, b, c⟩ := h
  rw [h0] at a
  subst a
  unfold lrR at b
  rw [h0, hs] at b
  exact ⟨b.symm, c.symm, rfl⟩

set_option maxRecDepth 100000 in
set_option maxHeartbeats 2000000 in
theorem sLR_any (cs xs : List Int) (n len m : Nat) (sh : Int) (ys : List Int) (ok : Bool) (yo ao : Option Addr) (ycap cap : Nat) (w : World) (hx : Ints w ao len xs) (hy : Ints w yo n cs) (hl1 : len ≤ 4611686018427387904) (hl2 : n ≤ 4611686018427387904) (h : LR xs cs sh ys m ok) :
    Calls Try.prog 14 #[.slice ao len cap, .agg #[.slice yo n ycap, .int .i64 sh]] w (MadeRB ys m ok w) := by
  have hxl := hx.1
  have hyl := hy.1
  have HW := Lib.hid (grown_alloc w (.cells #[.slice yo n ycap, .int .i64 sh] 25) none)
  have HA := Lib.hid (heap_alloc_new w (.cells #[.slice yo n ycap, .int .i64 sh] 25))
  have HX := Lib.hid hx
  have HY := Lib.hid hy
  cases h1 : vS xs with
  | false =>
    obtain ⟨rfl, rfl, rfl⟩ := LR_no h (lrOk_no1 h1)
    have k1 := sValidSamples_any xs ao len cap _ false (hx.grown HW.out) hl1 h1
    clear hx hy h h1 hxl hyl
    go_enter Try.func14, Try.ntmps14
    go_wp2_with fail
    refine k1.mono ?_
    rintro e w' ⟨rfl, rfl⟩
    go_wp2
    go_ret2
    exact madeRB_none HW.out
  | true =>
  have k1 := sValidSamples_any xs ao len cap _ true (hx.grown HW.out) hl1 h1
  cases h2 : vLin cs sh with
  | false =>
    obtain ⟨rfl, rfl, rfl⟩ := LR_no h (lrOk_no2 h2)
    have k2 := sValid_any cs sh yo n ycap _ false (hy.grown HW.out) hl2 h2
    clear hx hy h h1 h2 hxl hyl
    go_enter Try.func14, Try.ntmps14
    go_wp2_with fail
    refine k1.mono ?_
    rintro e w' ⟨rfl, rfl⟩
    go_wp2_with fail
    refine k2.mono ?_
    rintro e w2 ⟨rfl, hg⟩
    have HG := Lib.hid (grown_trans HW.out hg)
    clear k1 k2 hg
    go_wp2
    go_ret2
    exact madeRB_none HG.out
  | true =>
  have k2 := sValid_any cs sh yo n ycap _ true (hy.grown HW.out) hl2 h2
  by_cases h3 : ¬ n ≤ len
  · obtain ⟨rfl, rfl, rfl⟩ := LR_no h (lrOk_no3 (by rw [hxl, hyl]; exact h3))
    have d3 : decide (len < n) = true := by simp; omega
    have d3n : len < n := by omega
    clear hx hy h h1 h2 hxl hyl h3
    go_enter Try.func14, Try.ntmps14
    go_wp2_with fail
    refine k1.mono ?_
    rintro e w' ⟨rfl, rfl⟩
    go_wp2_with fail
    refine k2.mono ?_
    rintro e w2 ⟨rfl, hg⟩
    have HG := Lib.hid (grown_trans HW.out hg)
    have q0 : w2.cell? ⟨w.heap.size, 0, none⟩ = some (.slice yo n ycap) := by rw [cell_of_row w2 _ 0 _ _ _ (grown_heap hg HA.out (by simp))]; rfl
    clear k1 k2 hg
    go_wp2
    go_ret2
    exact madeRB_none HG.out
  have h3 := Classical.not_not.1 h3
  have d3 : decide (len < n) = false := by simp; omega
  obtain ⟨hv1, hv8, hca, hs0, hs14⟩ := vLin_in h2
  obtain ⟨s, rfl⟩ := Int.eq_ofNat_of_zero_le hs0
  have hlen := vS_len h1
  have hok := lrOk_in h1 h2 (by omega) rfl
  obtain ⟨v4, h4⟩ : ∃ v4, vR (resL cs s xs) = v4 := ⟨_, rfl⟩
  rw [h4] at hok
  have HV4 := Lib.hid h4
  have HOK := Lib.hid hok
  have HH := Lib.hid h
  have hsa := vS_all h1
  have HCA := Lib.hid hca
  have HSA := Lib.hid hsa
  have HXL := Lib.hid hxl
  have HYL := Lib.hid hyl
  have hn8 : n ≤ 8 := by omega
  have hl64 : len ≤ 64 := by omega
  have hs14n : s ≤ 14 := by omega
  clear hx hy h h1 h2 hca hsa h4 hok hxl hyl hv1 hv8 hlen
  go_enter Try.func14, Try.ntmps14
  go_wp2_with fail
  refine k1.mono ?_
  rintro e w' ⟨rfl, rfl⟩
  go_wp2_with fail
  refine k2.mono ?_
  rintro e w2 ⟨rfl, hg⟩
  have HG := Lib.hid (grown_trans HW.out hg)
  have q0 : w2.cell? ⟨w.heap.size, 0, none⟩ = some (.slice yo n ycap) := by rw [cell_of_row w2 _ 0 _ _ _ (grown_heap hg HA.out (by simp))]; rfl
  have q1 : w2.cell? ⟨w.heap.size, 1, none⟩ = some (.int .i64 (s : Int)) := by rw [cell_of_row w2 _ 1 _ _ _ (grown_heap hg HA.out (by simp))]; rfl
  clear k1 k2 hg
  go_wp2_with fail
  refine (sLinRes_any cs xs n (len - n) s len yo ao ycap cap _ (HX.out.grown HG.out) (HY.out.grown HG.out) h3 hl64 hn8 hs14n HCA.out HSA.out rfl).mono ?_
  rintro e w3 ⟨v3, rfl, ho3, hg3⟩
  obtain ⟨a3, c3, rfl, _, _, hx3, _⟩ := ho3.reads
  have HO := Lib.hid ((ho3.base_le (base' := w.heap.size) HG.out.size))
  have HG3 := Lib.hid (grown_trans HG.out hg3)
  have k3 := sVR_any (resL cs s xs) a3 (len - n) c3 w3 v4 hx3 (by omega) HV4.out
  clear ho3 hx3 hg3 q0 q1
  go_wp2_with fail
  refine k3.mono ?_
  rintro e w' ⟨rfl, rfl⟩
  clear k3
  cases v4 with
  | false =>
    obtain ⟨rfl, rfl, rfl⟩ := LR_no HH.out HOK.out
    go_wp2
    go_ret2
    exact madeRB_none HG3.out
  | true =>
    obtain ⟨hys, hm, rfl⟩ := LR_yes HH.out HOK.out rfl
    have HYS := Lib.hid hys
    have HMM := Lib.hid hm
    clear hys hm
    go_wp2
    go_ret2
    have e1 := HYS.out
    have e2 := HMM.out
    subst e1
    subst e2
    refine ⟨.slice a3 (len - n) c3, rfl, ?_, HG3.out⟩
    rw [HXL.out, HYL.out]
    exact HO.out

end Go.Proofs.Ytgiiaijlahjfnaa
