/-
  GetRice of both texts: what they give for all arguments.
-/
import Derived.Test.YtdbneenlejgjcaaDoorGuna
import Derived.Test.YtdbneenlejgjcaaDoorZig
import Derived.Deep.RegionHeld3
namespace Go.Proofs.YtdbneenlejgjcaaDoor
open Go.RowKit

/-- The number of a unary part and a low part, and its bounds. -/
theorem gr_num (q k : Nat) (v : Int) (hq : q ≤ 500) (hk : k ≤ 14) (h0 : 0 ≤ v) (h1 : v < 2 ^ k) : ∃ (h : Int) (p : Nat), (2 : Int) ^ k = h ∧ 1 ≤ h ∧ h ≤ 16384 ∧ (q : Int) * h = (p : Int) ∧ p ≤ 8192000 ∧ v < h := by
  have hp2 : (2 : Nat) ^ k ≤ 2 ^ 14 := Nat.pow_le_pow_right (by decide) hk
  have hp3 : 1 ≤ (2 : Nat) ^ k := Nat.one_le_two_pow
  have hpe : (2 : Int) ^ k = ((2 ^ k : Nat) : Int) := by simp
  refine ⟨_, q * 2 ^ k, rfl, by omega, by omega, by rw [hpe]; exact_mod_cast rfl, ?_, h1⟩
  calc q * 2 ^ k ≤ 500 * 2 ^ 14 := Nat.mul_le_mul hq hp2
    _ = 8192000 := by decide

theorem pk_inj {a b : List Bool} (h : pk a = pk b) (hl : a.length = b.length) : a = b := by
  apply List.ext_getElem?
  intro i
  by_cases hi : i < a.length
  · have e1 := byte_bit a i
    have e2 := byte_bit b i
    have g1 := pk_getD (bs := a) (k := i / 8) (by omega)
    have g2 := pk_getD (bs := b) (k := i / 8) (by omega)
    rw [h] at g1
    rw [g2] at g1
    rw [← g1, e2] at e1
    unfold cb at e1
    rw [List.getD_eq_getElem?_getD, List.getD_eq_getElem?_getD, List.getElem?_eq_getElem hi, List.getElem?_eq_getElem (by omega)] at e1
    rw [List.getElem?_eq_getElem hi, List.getElem?_eq_getElem (by omega)]
    simp only [Option.getD_some] at e1
    cases ha : a[i] <;> cases hb : b[i] <;> simp_all
  · rw [List.getElem?_eq_none (by omega), List.getElem?_eq_none (by omega)]

/-- Is there a Rice code? -/
def RiceAt (bs : List Bool) (at_ k q : Nat) : Prop := OneAt bs at_ q ∧ at_ + q + 1 + k ≤ bs.length

set_option maxRecDepth 100000 in
set_option maxHeartbeats 2000000 in
theorem getRice_good (bs : List Bool) (at_ k q : Nat) (w0 w : World) (B : Nat) (ao : Option Addr) (len cap m : Nat) (hm : bs.length = m) (hx : Ints w0 ao len (pk bs)) (hR : Rdb w0 w B ao len cap m at_) (hb : m ≤ 16384) (hk : k ≤ 14) (hq : OneAt bs at_ q) (hl : at_ + q + 1 + k ≤ m) :
    Calls Tryd.prog 60 #[.pointer (some ⟨B, 0, none⟩), .int .i64 (k : Int)] w fun e w' => e = .returned (.tuple #[.int .i64 (uz ((q : Int) * 2 ^ k + numV bs (at_ + q + 1) k)), .nilIface]) ∧ Rdb w0 w' B ao len cap m (at_ + q + 1 + k) := by
  obtain ⟨v, hv⟩ : ∃ v, numV bs (at_ + q + 1) k = v := ⟨_, rfl⟩
  have hvr := numV_range bs (at_ + q + 1) k
  rw [hv] at hvr
  obtain ⟨h, p, hh, hh0, hh1, hqp, hp, hvh⟩ := gr_num q k v hq.1 hk hvr.1 hvr.2
  have hv0 := hvr.1
  have hU := Uz_in (n := (p : Int) + v) (by omega) (by omega)
  have HU := Lib.hid hU
  have HX := Lib.hid hx
  have HM := Lib.hid hm
  have HR0 := Lib.hid hR
  have HQ := Lib.hid hq
  have HV := Lib.hid hv
  have HF : Hid ((q : Int) * 2 ^ k + v = (p : Int) + v) := by show _ = _; rw [hh, hqp]
  have d1 : decide ((k : Int) < 0) = false := by simp
  have d2 : decide (14 < (k : Int)) = false := by simp; omega
  have hq5 := hq.1
  clear hx hm hR hq hv hvr hU
  go_enter Tryd.func60, Tryd.ntmps60
  go_wp2_with fail
  refine (getUnary_good bs at_ q w0 _ B ao len cap m HM.out HX.out HR0.out hb HQ.out).mono ?_
  rintro e w1 ⟨rfl, hR1⟩
  have HR1 := Lib.hid hR1
  clear hR1
  go_wp2_with fail
  refine (get_good bs k w0 _ B ao len cap (at_ + q + 1) HX.out (by rw [HM.out]; exact HR1.out) (by rw [HM.out]; exact hb) (by omega) (by rw [HM.out]; exact hl)).mono ?_
  rintro e w2 ⟨rfl, hR2⟩
  rw [HV.out]
  rw [HM.out] at hR2
  have HR2 := Lib.hid hR2
  clear hR2
  go_wp2_with fail
  first | (refine (iUnzigzag ((p : Int) + v) _ _ _ HU.out.1 HU.out.2).mono ?_) | (trace_state; fail)
  rintro e w3 ⟨rfl, rfl⟩
  have HZ : Hid (uz ((q : Int) * 2 ^ k + numV bs (at_ + q + 1) k) = uz ((p : Int) + v)) := by show _ = _; rw [HV.out, HF.out]
  go_wp2
  go_ret2
  exact ⟨by rw [HZ.out]; rfl, HR2.out⟩

set_option maxRecDepth 100000 in
set_option maxHeartbeats 2000000 in
theorem getRice_width (z : Int) (w : World) (pv : Value) (hE : ErrAt w 0) (hz : z < 0 ∨ 14 < z) :
    Calls Tryd.prog 60 #[pv, .int .i64 z] w fun e w' => (∃ t v, e = .returned (.tuple #[.int .i64 0, .iface t v])) ∧ w.grownBy w' none := by
  obtain ⟨t, v, hc⟩ := hE
  by_cases h1 : z < 0
  · have d1 : decide (z < 0) = true := by simpa using h1
    clear hz
    go_enter Tryd.func60, Tryd.ntmps60
    go_wp2
    go_quiet (fail)
    go_wp2
    go_ret2
    exact ⟨⟨t, v, rfl⟩, grown_drewN _ _ _⟩
  have d1 : decide (z < 0) = false := by simpa using h1
  have d2 : decide (14 < z) = true := by simp; omega
  clear hz
  go_enter Tryd.func60, Tryd.ntmps60
  go_wp2
  go_quiet (fail)
  go_wp2
  go_ret2
  exact ⟨⟨t, v, rfl⟩, grown_drewN _ _ _⟩

set_option maxRecDepth 100000 in
set_option maxHeartbeats 2000000 in
theorem getRice_none (bs : List Bool) (at_ k : Nat) (w0 w : World) (B : Nat) (ao : Option Addr) (len cap m : Nat) (hm : bs.length = m) (hx : Ints w0 ao len (pk bs)) (hR : Rdb w0 w B ao len cap m at_) (hb : m ≤ 16384) (hat : at_ ≤ m) (hk : k ≤ 14) (hE : ErrAt w0 2) (hE2 : ErrAt w0 0) (hno : NoOne bs at_ ∨ ∃ q, OneAt bs at_ q ∧ m < at_ + q + 1 + k) :
    Calls Tryd.prog 60 #[.pointer (some ⟨B, 0, none⟩), .int .i64 (k : Int)] w fun e w' => (∃ t v, e = .returned (.tuple #[.int .i64 0, .iface t v])) ∧ w0.grownBy w' none := by
  have HX := Lib.hid hx
  have HM := Lib.hid hm
  have HR0 := Lib.hid hR
  have HE := Lib.hid hE
  have HE2 := Lib.hid hE2
  have d1 : decide ((k : Int) < 0) = false := by simp
  have d2 : decide (14 < (k : Int)) = false := by simp; omega
  rcases hno with hno | ⟨q, hq, hl⟩
  · have HN := Lib.hid hno
    clear hx hm hR hno hE hE2
    go_enter Tryd.func60, Tryd.ntmps60
    go_wp2_with fail
    refine (getUnary_bad bs at_ w0 _ B ao len cap m HM.out HX.out HR0.out hb hat HE.out HE2.out HN.out).mono ?_
    rintro e w1 ⟨⟨t, v, rfl⟩, hg1⟩
    have HG := Lib.hid hg1
    clear hg1
    go_wp2
    go_ret2
    exact ⟨⟨t, v, rfl⟩, HG.out⟩
  · have HQ := Lib.hid hq
    have hqm : at_ + q + 1 ≤ m := by have := hq.2.1; omega
    clear hx hm hR hq hE hE2
    go_enter Tryd.func60, Tryd.ntmps60
    go_wp2_with fail
    refine (getUnary_good bs at_ q w0 _ B ao len cap m HM.out HX.out HR0.out hb HQ.out).mono ?_
    rintro e w1 ⟨rfl, hR1⟩
    have HR1 := Lib.hid hR1
    clear hR1
    go_wp2_with fail
    refine (get_end bs m (at_ + q + 1) k w0 _ B ao len cap HR1.out (HE.out.grown HR1.out.g) hb (by omega) (by omega) (by omega)).mono ?_
    rintro e w2 ⟨⟨t, v, rfl⟩, hg2⟩
    have HG := Lib.hid (grown_trans HR1.out.g hg2)
    clear hg2
    go_wp2
    go_ret2
    exact ⟨⟨t, v, rfl⟩, HG.out⟩

set_option maxRecDepth 100000 in
set_option maxHeartbeats 2000000 in
theorem read_good_gric (P0 : Nat) (bs : List Bool) (m at_ at2 : Nat) (n : Int) (hm : bs.length = m) (ao : Option Addr) (len cap : Nat) (w : World) (hx : Ints w ao len (pk bs)) (hb : bs.length ≤ 16384) (hat : at_ ≤ m)
    (HC : Hid (∀ (w1 w2 : World) (B : Nat), w.grownBy w1 none → Rdb w1 w2 B ao len cap m at_ → Calls Tryd.prog 59 #[.pointer (some ⟨B, 0, none⟩), .pointer (some ⟨P0, 0, none⟩)] w2 fun e w' => e = .returned (.tuple #[.int .i64 n, .nilIface]) ∧ Rdb w1 w' B ao len cap m at2)) :
    Calls Tryd.prog 51 #[.agg #[.slice ao len cap, .int .i64 (m : Int)], .int .i64 (at_ : Int), .func (.func 59) #[] #[.pointer (some ⟨P0, 0, none⟩)]] w fun e w' => e = .returned (.tuple #[.int .i64 n, .int .i64 (at2 : Int), .bool true]) ∧ w.grownBy w' none := by
  have HX := Lib.hid hx
  have HM := Lib.hid hm
  have HB := Lib.hid hb
  clear hx hm hb
  go_enter Tryd.func51, Tryd.ntmps51
  go_wp2_with fail
  refine (newReader_good bs m at_ HM.out ao len cap _ (HX.out.grown (grown_alloc _ _ _)) HB.out hat).mono ?_
  rintro e w1 ⟨B, rfl, hR⟩
  have HR := Lib.hid hR
  clear hR
  go_wp2_with fail
  refine (HC.out _ _ B (grown_alloc w (.cells #[.slice ao len cap, .int .i64 (m : Int)] 28) none) HR.out).mono ?_
  rintro e w2 ⟨rfl, hR2⟩
  have q2 := hR2.cells.2.2.1
  have HG := Lib.hid (grown_trans (grown_alloc w (.cells #[.slice ao len cap, .int .i64 (m : Int)] 28) none) hR2.g)
  clear hR2 HR
  go_wp2
  go_quiet (fail)
  go_wp2
  exact bodyPost_ret (v := .tuple #[.int .i64 n, .int .i64 (at2 : Int), .bool true]) (by simp [results, Tryd.results51, go_sem]) rfl ⟨rfl, grown_trans HG.out (grown_drewN _ _ _)⟩

set_option maxRecDepth 100000 in
set_option maxHeartbeats 2000000 in
theorem read_bad_gric (P0 : Nat) (bs : List Bool) (m at_ : Nat) (hm : bs.length = m) (ao : Option Addr) (len cap : Nat) (w : World) (hx : Ints w ao len (pk bs)) (hb : bs.length ≤ 16384) (hat : at_ ≤ m)
    (HC : Hid (∀ (w1 w2 : World) (B : Nat), w.grownBy w1 none → Rdb w1 w2 B ao len cap m at_ → Calls Tryd.prog 59 #[.pointer (some ⟨B, 0, none⟩), .pointer (some ⟨P0, 0, none⟩)] w2 fun e w' => (∃ t v, e = .returned (.tuple #[.int .i64 0, .iface t v])) ∧ w2.grownBy w' none)) :
    Calls Tryd.prog 51 #[.agg #[.slice ao len cap, .int .i64 (m : Int)], .int .i64 (at_ : Int), .func (.func 59) #[] #[.pointer (some ⟨P0, 0, none⟩)]] w fun e w' => e = .returned (.tuple #[.int .i64 0, .int .i64 0, .bool false]) ∧ w.grownBy w' none := by
  have HX := Lib.hid hx
  have HM := Lib.hid hm
  have HB := Lib.hid hb
  clear hx hm hb
  go_enter Tryd.func51, Tryd.ntmps51
  go_wp2_with fail
  refine (newReader_good bs m at_ HM.out ao len cap _ (HX.out.grown (grown_alloc _ _ _)) HB.out hat).mono ?_
  rintro e w1 ⟨B, rfl, hR⟩
  have HR := Lib.hid hR
  clear hR
  go_wp2_with fail
  refine (HC.out _ _ B (grown_alloc w (.cells #[.slice ao len cap, .int .i64 (m : Int)] 28) none) HR.out).mono ?_
  rintro e w2 ⟨⟨t, v, rfl⟩, hg2⟩
  have HG := Lib.hid (grown_trans (grown_trans (grown_alloc w (.cells #[.slice ao len cap, .int .i64 (m : Int)] 28) none) HR.out.g) hg2)
  clear hg2 HR
  go_wp2
  exact bodyPost_ret (v := .tuple #[.int .i64 0, .int .i64 0, .bool false]) (by simp [results, Tryd.results51, go_sem]) rfl ⟨rfl, HG.out⟩

set_option maxRecDepth 100000 in
set_option maxHeartbeats 2000000 in
theorem read_none_gric (P0 : Nat) (c a : Int) (ao : Option Addr) (len cap : Nat) (w : World)
    (HC : Hid (∀ (w1 : World), w.grownBy w1 none → Calls Tryd.prog 75 #[.agg #[.slice ao len cap, .int .i64 c], .int .i64 a] w1 fun e w' => (∃ t v, e = .returned (.tuple #[.pointer none, .iface t v])) ∧ w1.grownBy w' none)) :
    Calls Tryd.prog 51 #[.agg #[.slice ao len cap, .int .i64 c], .int .i64 a, .func (.func 59) #[] #[.pointer (some ⟨P0, 0, none⟩)]] w fun e w' => e = .returned (.tuple #[.int .i64 0, .int .i64 0, .bool false]) ∧ w.grownBy w' none := by
  go_enter Tryd.func51, Tryd.ntmps51
  go_wp2_with fail
  refine (HC.out _ (grown_alloc w (.cells #[.slice ao len cap, .int .i64 c] 28) none)).mono ?_
  rintro e w1 ⟨⟨t, v, rfl⟩, hg1⟩
  have HG := Lib.hid (grown_trans (grown_alloc w (.cells #[.slice ao len cap, .int .i64 c] 28) none) hg1)
  clear hg1
  go_wp2
  exact bodyPost_ret (v := .tuple #[.int .i64 0, .int .i64 0, .bool false]) (by simp [results, Tryd.results51, go_sem]) rfl ⟨rfl, HG.out⟩

set_option maxHeartbeats 400000 in
theorem clo_gric (z : Int) (B P0 : Nat) (w : World) (h0 : w.cell? ⟨P0, 0, none⟩ = some (.int .i64 z)) (Q : Ending → World → Prop)
    (hc : Calls Tryd.prog 60 #[.pointer (some ⟨B, 0, none⟩), .int .i64 z] w fun e w' => ((∃ n, e = .returned (.tuple #[.int .i64 n, .nilIface])) ∨ ∃ t v, e = .returned (.tuple #[.int .i64 0, .iface t v])) ∧ Q e w') :
    Calls Tryd.prog 59 #[.pointer (some ⟨B, 0, none⟩), .pointer (some ⟨P0, 0, none⟩)] w Q := by
  have HC := Lib.hid hc
  clear hc
  go_enter Tryd.func59, Tryd.ntmps59
  go_wp2_with fail
  refine HC.out.mono ?_
  rintro e w' ⟨he, hq⟩
  have HQ := Lib.hid hq
  clear hq h0
  rcases he with ⟨n, rfl⟩ | ⟨t, v, rfl⟩
  · go_wp2
    exact HQ.out
  · go_wp2
    exact HQ.out


set_option maxRecDepth 100000 in
set_option maxHeartbeats 2000000 in
theorem read_bad2_gric (P0 : Nat) (bs : List Bool) (m at_ : Nat) (hm : bs.length = m) (ao : Option Addr) (len cap : Nat) (w : World) (hx : Ints w ao len (pk bs)) (hb : bs.length ≤ 16384) (hat : at_ ≤ m)
    (HC : Hid (∀ (w1 w2 : World) (B : Nat), w.grownBy w1 none → Rdb w1 w2 B ao len cap m at_ → Calls Tryd.prog 59 #[.pointer (some ⟨B, 0, none⟩), .pointer (some ⟨P0, 0, none⟩)] w2 fun e w' => (∃ t v, e = .returned (.tuple #[.int .i64 0, .iface t v])) ∧ w1.grownBy w' none)) :
    Calls Tryd.prog 51 #[.agg #[.slice ao len cap, .int .i64 (m : Int)], .int .i64 (at_ : Int), .func (.func 59) #[] #[.pointer (some ⟨P0, 0, none⟩)]] w fun e w' => e = .returned (.tuple #[.int .i64 0, .int .i64 0, .bool false]) ∧ w.grownBy w' none := by
  have HX := Lib.hid hx
  have HM := Lib.hid hm
  have HB := Lib.hid hb
  clear hx hm hb
  go_enter Tryd.func51, Tryd.ntmps51
  go_wp2_with fail
  refine (newReader_good bs m at_ HM.out ao len cap _ (HX.out.grown (grown_alloc _ _ _)) HB.out hat).mono ?_
  rintro e w1 ⟨B, rfl, hR⟩
  have HR := Lib.hid hR
  clear hR
  go_wp2_with fail
  refine (HC.out _ _ B (grown_alloc w (.cells #[.slice ao len cap, .int .i64 (m : Int)] 28) none) HR.out).mono ?_
  rintro e w2 ⟨⟨t, v, rfl⟩, hg2⟩
  have HG := Lib.hid (grown_trans (grown_alloc w (.cells #[.slice ao len cap, .int .i64 (m : Int)] 28) none) hg2)
  clear hg2 HR
  go_wp2
  exact bodyPost_ret (v := .tuple #[.int .i64 0, .int .i64 0, .bool false]) (by simp [results, Tryd.results51, go_sem]) rfl ⟨rfl, HG.out⟩


theorem iGric_by (c a z n p : Int) (ok : Bool) (ao : Option Addr) (len cap : Nat) (w : World)
    (HC : Hid (∀ (w1 : World), w.grownBy w1 none → (∀ w2, w1.grownBy w2 none → w2.cell? ⟨w.heap.size + 1, 0, none⟩ = some (.int .i64 z)) → Calls Tryd.prog 51 #[.agg #[.slice ao len cap, .int .i64 c], .int .i64 a, .func (.func 59) #[] #[.pointer (some ⟨w.heap.size + 1, 0, none⟩)]] w1 fun e w' => e = .returned (.tuple #[.int .i64 n, .int .i64 p, .bool ok]) ∧ w1.grownBy w' none)) :
    Calls Tryd.prog 26 #[.agg #[.slice ao len cap, .int .i64 c], .int .i64 a, .int .i64 z] w (GotNNB n p ok w) := by
  have HMM := Lib.hid (((Mem.start w).block (.cells #[.slice ao len cap, .int .i64 c] 28)).block (.cells #[.int .i64 z] 3))
  have b1 := HMM.out.get (b := w.heap.size + 1) (o := (.cells #[.int .i64 z] 3)) (by simp)
  have HK := Lib.hid (HC.out ((w.alloc (.cells #[.slice ao len cap, .int .i64 c] 28)).alloc (.cells #[.int .i64 z] 3)) HMM.out.g (fun w2 hg => by rw [cell_of_row w2 _ 0 _ _ _ (grown_heap hg b1 (by simp))]; rfl))
  clear b1 HC
  go_enter Tryd.func26, Tryd.ntmps26
  go_wp2_with fail
  refine HK.out.mono ?_
  rintro e w3 ⟨rfl, hg3⟩
  have HG := Lib.hid (grown_trans HMM.out.g hg3)
  clear hg3 HK HMM
  go_wp2
  exact bodyPost_ret (v := .tuple #[.int .i64 n, .int .i64 p, .bool ok]) (by simp [results, Tryd.results26, go_sem]) rfl ⟨rfl, HG.out⟩

/-! The specification. -/
set_option maxRecDepth 100000 in
set_option maxHeartbeats 2000000 in
theorem sdist_any (n : Int) (w : World) (h0 : -4194303 ≤ n) (h1 : n ≤ 4194303) :
    Calls Tryd.prog 80 #[.int .i64 n] w fun e w' => (∃ d : Int, e = .returned (.int .i64 d) ∧ decide (4194303 < d) = false) ∧ w = w' := by
  by_cases h : n < 0
  · have d1 : decide (n < 0) = true := by simpa using h
    go_enter Tryd.func80, Tryd.ntmps80
    go_wp2
    go_ret
    exact ⟨⟨-n, ret_int (by first | rfl | (unfold wrap64; omega)), by first | exact decide_eq_false (by omega) | omega | (simp; omega)⟩, rfl⟩
  · have d1 : decide (n < 0) = false := by simpa using h
    go_enter Tryd.func80, Tryd.ntmps80
    go_wp2
    go_ret
    exact ⟨⟨n, rfl, by first | exact decide_eq_false (by omega) | omega | (simp; omega)⟩, rfl⟩

theorem uz_range {n : Int} (h0 : 0 ≤ n) (h1 : n ≤ 8388606) : -4194303 ≤ uz n ∧ uz n ≤ 4194303 := by unfold uz; split <;> omega

set_option maxRecDepth 100000 in
set_option maxHeartbeats 2000000 in
theorem sgetR_good (bs : List Bool) (m at_ k q : Nat) (hm : bs.length = m) (ao : Option Addr) (len cap : Nat) (w : World) (hx : Ints w ao len (pk bs)) (hb : m ≤ 16384) (hk : k ≤ 14) (hq : OneAt bs at_ q) (hl : at_ + q + 1 + k ≤ m) :
    Calls Tryd.prog 61 #[.agg #[.slice ao len cap, .int .i64 (m : Int)], .int .i64 (at_ : Int), .int .i64 (k : Int)] w fun e w' => e = .returned (.tuple #[.int .i64 (uz ((q : Int) * 2 ^ k + numV bs (at_ + q + 1) k)), .int .i64 ((at_ + q + 1 + k : Nat) : Int)]) ∧ w.grownBy w' none := by
  obtain ⟨v, hv⟩ : ∃ v, numV bs (at_ + q + 1) k = v := ⟨_, rfl⟩
  have hvr := numV_range bs (at_ + q + 1) k
  rw [hv] at hvr
  obtain ⟨h, p, hh, hh0, hh1, hqp, hp, hvh⟩ := gr_num q k v hq.1 hk hvr.1 hvr.2
  have hv0 := hvr.1
  have HMM := Lib.hid ((Mem.start w).block (.cells #[.slice ao len cap, .int .i64 (m : Int)] 28))
  have HX := Lib.hid hx
  have HM := Lib.hid hm
  have HQ := Lib.hid hq
  have HV := Lib.hid hv
  have HF : Hid ((q : Int) * 2 ^ k + v = (p : Int) + v) := by show _ = _; rw [hh, hqp]
  obtain ⟨u, hu⟩ : ∃ u, uz ((p : Int) + v) = u := ⟨_, rfl⟩
  have hur := uz_range (n := (p : Int) + v) (by omega) (by omega)
  rw [hu] at hur
  have hu0 := hur.1
  have hu1 := hur.2
  have HU := Lib.hid hu
  obtain ⟨nx, hnx⟩ : ∃ nx, at_ + q + 1 = nx := ⟨_, rfl⟩
  have HNX := Lib.hid hnx
  have hq5 := hq.1
  have hw0 : IntKind.i64.wrap ((q : Int) * h) = (p : Int) := by rw [hqp]; exact IntWalk.i64_in _ (by omega)
  have hw1 : IntKind.i64.wrap ((p : Int) + v) = (p : Int) + v := IntWalk.i64_in _ (by omega)
  have hw2 : IntKind.i64.wrap (p : Int) = (p : Int) := IntWalk.i64_in _ (by omega)
  have hk0 : (0 : Int) ≤ (k : Int) := by omega
  have hnxm : nx + k ≤ m := by omega
  rw [hnx] at hv hl ⊢
  rw [show uz ((q : Int) * 2 ^ k + numV bs nx k) = u by rw [hv, HF.out, hu]]
  clear hx hm hq hv hvr hu hur hnx
  have q0 := (two_cells (HMM.out.get (b := w.heap.size) (o := (.cells #[.slice ao len cap, .int .i64 (m : Int)] 28)) (by simp))).1
  have q1 := (two_cells (HMM.out.get (b := w.heap.size) (o := (.cells #[.slice ao len cap, .int .i64 (m : Int)] 28)) (by simp))).2
  go_enter Tryd.func61, Tryd.ntmps61
  go_wp2_with fail
  refine (sgetU_good bs m at_ q HM.out ao len cap _ (HX.out.grown HMM.out.g) hb HQ.out).mono ?_
  rintro e w1 ⟨rfl, hg1⟩
  rw [show (at_ : Int) + (q : Int) + 1 = (nx : Int) by have := HNX.out; omega]
  have HM1 := Lib.hid (HMM.out.grown hg1)
  clear q0 q1 hg1
  have q0 := (two_cells (HM1.out.get (b := w.heap.size) (o := (.cells #[.slice ao len cap, .int .i64 (m : Int)] 28)) (by simp))).1
  have q1 := (two_cells (HM1.out.get (b := w.heap.size) (o := (.cells #[.slice ao len cap, .int .i64 (m : Int)] 28)) (by simp))).2
  go_wp2_with fail
  refine (has_any ao len cap m (nx : Int) k true _ hb (by omega) (by rw [inB_true (by omega) (by omega)]; simp; omega)).mono ?_
  rintro e w2 ⟨rfl, hg2⟩
  have HM2 := Lib.hid (HM1.out.grown hg2)
  clear q0 q1 hg2
  have q0 := (two_cells (HM2.out.get (b := w.heap.size) (o := (.cells #[.slice ao len cap, .int .i64 (m : Int)] 28)) (by simp))).1
  have q1 := (two_cells (HM2.out.get (b := w.heap.size) (o := (.cells #[.slice ao len cap, .int .i64 (m : Int)] 28)) (by simp))).2
  go_wp2_with fail
  first | (go_region_held3 (fun w' => w'.cell? ⟨w.heap.size, 0, none⟩ = some (.slice ao len cap) ∧ w'.cell? ⟨w.heap.size, 1, none⟩ = some (.int .i64 (m : Int))) (first | go_keep | exact ⟨by assumption, by assumption⟩) ((first
    | (go_at_call 77; refine (sget_any bs m nx k HM.out ao len cap _ ((HX.out.grown HM2.out.g).grown (grown_drew _ _)) (by rw [HM.out]; exact hb) (by omega) (by omega)).mono ?_; rintro e w3 ⟨rfl, hg3⟩; rw [show numV bs nx k = v by (rw [← HNX.out]; exact HV.out)]; have HM3 := Lib.hid ((HM2.out.grown (grown_drew _ _)).grown hg3); have hS0 := hg3.cell q0 (by simp); have hS1 := hg3.cell q1 (by simp); clear hg3)
    | (go_at_call 79; refine (sunzigzag ((p : Int) + v) _ (by omega) (by omega)).mono ?_; rintro e w' ⟨rfl, rfl⟩; rw [HU.out])))) | (trace_state; fail)
  clear hw0 hw1 hw2 hS0 hS1 q0 q1
  go_wp2_with fail
  refine (sdist_any u _ hu0 hu1).mono ?_
  rintro e w' ⟨⟨dd, rfl, hdd⟩, rfl⟩
  go_wp2
  go_ret2
  exact ⟨by rw [Int.natCast_add]; rfl, HM3.out.g⟩

set_option maxRecDepth 100000 in
set_option maxHeartbeats 2000000 in
theorem sgetR_none (bs : List Bool) (m at_ k : Nat) (hm : bs.length = m) (ao : Option Addr) (len cap : Nat) (w : World) (hx : Ints w ao len (pk bs)) (hb : m ≤ 16384) (hat : at_ ≤ m) (hk : k ≤ 14) (hno : NoOne bs at_ ∨ ∃ q, OneAt bs at_ q ∧ m < at_ + q + 1 + k) :
    Calls Tryd.prog 61 #[.agg #[.slice ao len cap, .int .i64 (m : Int)], .int .i64 (at_ : Int), .int .i64 (k : Int)] w fun e w' => e = .returned (.tuple #[.int .i64 0, .int .i64 (-1)]) ∧ w.grownBy w' none := by
  have HMM := Lib.hid ((Mem.start w).block (.cells #[.slice ao len cap, .int .i64 (m : Int)] 28))
  have HX := Lib.hid hx
  have HM := Lib.hid hm
  have q0 := (two_cells (HMM.out.get (b := w.heap.size) (o := (.cells #[.slice ao len cap, .int .i64 (m : Int)] 28)) (by simp))).1
  have q1 := (two_cells (HMM.out.get (b := w.heap.size) (o := (.cells #[.slice ao len cap, .int .i64 (m : Int)] 28)) (by simp))).2
  rcases hno with hno | ⟨q, hq, hl⟩
  · have HN := Lib.hid hno
    clear hx hm hno
    go_enter Tryd.func61, Tryd.ntmps61
    go_wp2_with fail
    refine (sgetU_bad bs m at_ HM.out ao len cap _ (HX.out.grown HMM.out.g) hb hat HN.out).mono ?_
    rintro e w1 ⟨rfl, hg1⟩
    have HM1 := Lib.hid (HMM.out.grown hg1)
    clear q0 q1 hg1
    go_wp2
    go_ret2
    exact ⟨rfl, HM1.out.g⟩
  · have HQ := Lib.hid hq
    have hq5 := hq.1
    obtain ⟨nx, hnx⟩ : ∃ nx, at_ + q + 1 = nx := ⟨_, rfl⟩
    have HNX := Lib.hid hnx
    have hnxm : nx ≤ m := by have := hq.2.1; omega
    have hbad : m < nx + k := by omega
    clear hx hm hq hnx hl
    go_enter Tryd.func61, Tryd.ntmps61
    go_wp2_with fail
    refine (sgetU_good bs m at_ q HM.out ao len cap _ (HX.out.grown HMM.out.g) hb HQ.out).mono ?_
    rintro e w1 ⟨rfl, hg1⟩
    rw [show (at_ : Int) + (q : Int) + 1 = (nx : Int) by have := HNX.out; omega]
    have HM1 := Lib.hid (HMM.out.grown hg1)
    clear q0 q1 hg1
    have q0 := (two_cells (HM1.out.get (b := w.heap.size) (o := (.cells #[.slice ao len cap, .int .i64 (m : Int)] 28)) (by simp))).1
    have q1 := (two_cells (HM1.out.get (b := w.heap.size) (o := (.cells #[.slice ao len cap, .int .i64 (m : Int)] 28)) (by simp))).2
    go_wp2_with fail
    refine (has_any ao len cap m (nx : Int) k false _ hb (by omega) (by rw [inB_true (by omega) (by omega)]; simp; omega)).mono ?_
    rintro e w2 ⟨rfl, hg2⟩
    have HM2 := Lib.hid (HM1.out.grown hg2)
    clear q0 q1 hg2
    go_wp2
    go_ret2
    exact ⟨rfl, HM2.out.g⟩

set_option maxRecDepth 100000 in
set_option maxHeartbeats 2000000 in
theorem sGric_inv (xs : List Int) (c a z : Int) (ao : Option Addr) (len cap : Nat) (w : World) (hx : Ints w ao len xs) (hlen : len ≤ 4194304) (hv : VB xs c = false) :
    Calls Tryd.prog 28 #[.agg #[.slice ao len cap, .int .i64 c], .int .i64 a, .int .i64 z] w (GotNNB 0 0 false w) := by
  have HMM := Lib.hid ((Mem.start w).block (.cells #[.slice ao len cap, .int .i64 c] 28))
  have k1 := sValidBits xs ao len cap c false (w.alloc (.cells #[.slice ao len cap, .int .i64 c] 28)) (hx.grown HMM.out.g) (by omega) hv
  clear hx hv
  go_enter Tryd.func28, Tryd.ntmps28
  go_wp2_with fail
  refine k1.mono ?_
  rintro e w1 ⟨rfl, hg1⟩
  have HM1 := Lib.hid (HMM.out.grown hg1)
  have p0 := (two_cells (HM1.out.get (b := w.heap.size) (o := (.cells #[.slice ao len cap, .int .i64 c] 28)) (by simp))).1
  have p1 := (two_cells (HM1.out.get (b := w.heap.size) (o := (.cells #[.slice ao len cap, .int .i64 c] 28)) (by simp))).2
  clear hg1 k1
  go_wp2
  exact bodyPost_ret (v := .tuple #[.int .i64 0, .int .i64 0, .bool false]) (by simp [results, Tryd.results28, go_sem]) rfl ⟨rfl, HM1.out.g⟩

set_option maxRecDepth 100000 in
set_option maxHeartbeats 2000000 in
theorem sGric_at (xs : List Int) (m : Nat) (a z : Int) (ao : Option Addr) (len cap : Nat) (w : World) (hx : Ints w ao len xs) (hlen : len ≤ 4194304) (hv : VB xs (m : Int) = true) (ha : inB a 0 (m : Int) = false) :
    Calls Tryd.prog 28 #[.agg #[.slice ao len cap, .int .i64 (m : Int)], .int .i64 a, .int .i64 z] w (GotNNB 0 0 false w) := by
  have HMM := Lib.hid ((Mem.start w).block (.cells #[.slice ao len cap, .int .i64 (m : Int)] 28))
  have k1 := sValidBits xs ao len cap (m : Int) true (w.alloc (.cells #[.slice ao len cap, .int .i64 (m : Int)] 28)) (hx.grown HMM.out.g) (by omega) hv
  have HA := Lib.hid ha
  clear hx hv ha
  go_enter Tryd.func28, Tryd.ntmps28
  go_wp2_with fail
  refine k1.mono ?_
  rintro e w1 ⟨rfl, hg1⟩
  have HM1 := Lib.hid (HMM.out.grown hg1)
  have p0 := (two_cells (HM1.out.get (b := w.heap.size) (o := (.cells #[.slice ao len cap, .int .i64 (m : Int)] 28)) (by simp))).1
  have p1 := (two_cells (HM1.out.get (b := w.heap.size) (o := (.cells #[.slice ao len cap, .int .i64 (m : Int)] 28)) (by simp))).2
  clear hg1 k1
  go_wp2_with fail
  refine (inRange_any a 0 (m : Int) false _ HA.out).mono ?_
  rintro e w' ⟨rfl, rfl⟩
  go_wp2
  exact bodyPost_ret (v := .tuple #[.int .i64 0, .int .i64 0, .bool false]) (by simp [results, Tryd.results28, go_sem]) rfl ⟨rfl, HM1.out.g⟩

set_option maxRecDepth 100000 in
set_option maxHeartbeats 2000000 in
theorem sGric_width (xs : List Int) (m : Nat) (a z : Int) (ao : Option Addr) (len cap : Nat) (w : World) (hx : Ints w ao len xs) (hlen : len ≤ 4194304) (hv : VB xs (m : Int) = true) (ha : inB a 0 (m : Int) = true) (hz : inB z 0 14 = false) :
    Calls Tryd.prog 28 #[.agg #[.slice ao len cap, .int .i64 (m : Int)], .int .i64 a, .int .i64 z] w (GotNNB 0 0 false w) := by
  have HMM := Lib.hid ((Mem.start w).block (.cells #[.slice ao len cap, .int .i64 (m : Int)] 28))
  have k1 := sValidBits xs ao len cap (m : Int) true (w.alloc (.cells #[.slice ao len cap, .int .i64 (m : Int)] 28)) (hx.grown HMM.out.g) (by omega) hv
  have HA := Lib.hid ha
  have HZ := Lib.hid hz
  clear hx hv ha hz
  go_enter Tryd.func28, Tryd.ntmps28
  go_wp2_with fail
  refine k1.mono ?_
  rintro e w1 ⟨rfl, hg1⟩
  have HM1 := Lib.hid (HMM.out.grown hg1)
  have p0 := (two_cells (HM1.out.get (b := w.heap.size) (o := (.cells #[.slice ao len cap, .int .i64 (m : Int)] 28)) (by simp))).1
  have p1 := (two_cells (HM1.out.get (b := w.heap.size) (o := (.cells #[.slice ao len cap, .int .i64 (m : Int)] 28)) (by simp))).2
  clear hg1 k1
  go_wp2_with fail
  refine (inRange_any a 0 (m : Int) true _ HA.out).mono ?_
  rintro e w' ⟨rfl, rfl⟩
  go_wp2_with fail
  refine (inRange_any z 0 14 false _ HZ.out).mono ?_
  rintro e w' ⟨rfl, rfl⟩
  go_wp2
  exact bodyPost_ret (v := .tuple #[.int .i64 0, .int .i64 0, .bool false]) (by simp [results, Tryd.results28, go_sem]) rfl ⟨rfl, HM1.out.g⟩

set_option maxRecDepth 100000 in
set_option maxHeartbeats 2000000 in
theorem sGric_good (bs : List Bool) (m at_ k q : Nat) (hq : OneAt bs at_ q) (hm : bs.length = m) (ao : Option Addr) (len cap : Nat) (w : World) (hx : Ints w ao len (pk bs)) (hb : m ≤ 16384) (hk : k ≤ 14) (hl : at_ + q + 1 + k ≤ m) :
    Calls Tryd.prog 28 #[.agg #[.slice ao len cap, .int .i64 (m : Int)], .int .i64 (at_ : Int), .int .i64 (k : Int)] w (GotNNB (uz ((q : Int) * 2 ^ k + numV bs (at_ + q + 1) k)) ((at_ + q + 1 + k : Nat) : Int) true w) := by
  have hlp := hx.1
  rw [pk_len, hm] at hlp
  have HMM := Lib.hid ((Mem.start w).block (.cells #[.slice ao len cap, .int .i64 (m : Int)] 28))
  have k1 := sValidBits (pk bs) ao len cap (m : Int) true (w.alloc (.cells #[.slice ao len cap, .int .i64 (m : Int)] 28)) (hx.grown HMM.out.g) (by omega) (by rw [← hm]; exact pk_VB (by omega))
  have HX := Lib.hid hx
  have HM := Lib.hid hm
  have HQ := Lib.hid hq
  clear hx hm hq hlp
  go_enter Tryd.func28, Tryd.ntmps28
  go_wp2_with fail
  refine k1.mono ?_
  rintro e w1 ⟨rfl, hg1⟩
  have HM1 := Lib.hid (HMM.out.grown hg1)
  have p0 := (two_cells (HM1.out.get (b := w.heap.size) (o := (.cells #[.slice ao len cap, .int .i64 (m : Int)] 28)) (by simp))).1
  have p1 := (two_cells (HM1.out.get (b := w.heap.size) (o := (.cells #[.slice ao len cap, .int .i64 (m : Int)] 28)) (by simp))).2
  clear hg1 k1
  go_wp2_with fail
  refine (inRange_any (at_ : Int) 0 (m : Int) true _ (inB_true (by omega) (by omega))).mono ?_
  rintro e w' ⟨rfl, rfl⟩
  go_wp2_with fail
  refine (inRange_any (k : Int) 0 14 true _ (inB_true (by omega) (by omega))).mono ?_
  rintro e w' ⟨rfl, rfl⟩
  go_wp2_with fail
  refine (sgetR_good bs m at_ k q HM.out ao len cap _ (HX.out.grown HM1.out.g) hb hk HQ.out hl).mono ?_
  rintro e w2 ⟨rfl, hg2⟩
  have HM2 := Lib.hid (HM1.out.grown hg2)
  obtain ⟨u, hu⟩ : ∃ u, uz ((q : Int) * 2 ^ k + numV bs (at_ + q + 1) k) = u := ⟨_, rfl⟩
  obtain ⟨nx, hnx⟩ : ∃ nx : Nat, at_ + q + 1 + k = nx := ⟨_, rfl⟩
  have HZ : Hid (uz ((q : Int) * 2 ^ k + numV bs (at_ + q + 1) k) = u ∧ at_ + q + 1 + k = nx) := ⟨hu, hnx⟩
  rw [hu, hnx]
  clear hg2 p0 p1 hu hnx
  go_wp2
  exact bodyPost_ret (v := .tuple #[.int .i64 u, .int .i64 (nx : Int), .bool true]) (by simp [results, Tryd.results28, go_sem]) rfl ⟨by rw [HZ.out.1, HZ.out.2], HM2.out.g⟩

set_option maxRecDepth 100000 in
set_option maxHeartbeats 2000000 in
theorem sGric_bad (bs : List Bool) (m at_ k : Nat) (hq : NoOne bs at_ ∨ ∃ q, OneAt bs at_ q ∧ m < at_ + q + 1 + k) (hm : bs.length = m) (ao : Option Addr) (len cap : Nat) (w : World) (hx : Ints w ao len (pk bs)) (hb : m ≤ 16384) (hk : k ≤ 14) (hat : at_ ≤ m) :
    Calls Tryd.prog 28 #[.agg #[.slice ao len cap, .int .i64 (m : Int)], .int .i64 (at_ : Int), .int .i64 (k : Int)] w (GotNNB 0 0 false w) := by
  have hlp := hx.1
  rw [pk_len, hm] at hlp
  have HMM := Lib.hid ((Mem.start w).block (.cells #[.slice ao len cap, .int .i64 (m : Int)] 28))
  have k1 := sValidBits (pk bs) ao len cap (m : Int) true (w.alloc (.cells #[.slice ao len cap, .int .i64 (m : Int)] 28)) (hx.grown HMM.out.g) (by omega) (by rw [← hm]; exact pk_VB (by omega))
  have HX := Lib.hid hx
  have HM := Lib.hid hm
  have HQ := Lib.hid hq
  clear hx hm hq hlp
  go_enter Tryd.func28, Tryd.ntmps28
  go_wp2_with fail
  refine k1.mono ?_
  rintro e w1 ⟨rfl, hg1⟩
  have HM1 := Lib.hid (HMM.out.grown hg1)
  have p0 := (two_cells (HM1.out.get (b := w.heap.size) (o := (.cells #[.slice ao len cap, .int .i64 (m : Int)] 28)) (by simp))).1
  have p1 := (two_cells (HM1.out.get (b := w.heap.size) (o := (.cells #[.slice ao len cap, .int .i64 (m : Int)] 28)) (by simp))).2
  clear hg1 k1
  go_wp2_with fail
  refine (inRange_any (at_ : Int) 0 (m : Int) true _ (inB_true (by omega) (by omega))).mono ?_
  rintro e w' ⟨rfl, rfl⟩
  go_wp2_with fail
  refine (inRange_any (k : Int) 0 14 true _ (inB_true (by omega) (by omega))).mono ?_
  rintro e w' ⟨rfl, rfl⟩
  go_wp2_with fail
  refine (sgetR_none bs m at_ k HM.out ao len cap _ (HX.out.grown HM1.out.g) hb hat hk HQ.out).mono ?_
  rintro e w2 ⟨rfl, hg2⟩
  have HM2 := Lib.hid (HM1.out.grown hg2)
  clear hg2 p0 p1
  go_wp2
  exact bodyPost_ret (v := .tuple #[.int .i64 0, .int .i64 0, .bool false]) (by simp [results, Tryd.results28, go_sem]) rfl ⟨rfl, HM2.out.g⟩

theorem gric_both (xs : List Int) (c a z : Int) (len : Nat) (hlen : len ≤ 4194304) : ∃ (n p : Int) (ok : Bool),
    Hid (∀ (ao : Option Addr) (cap : Nat) (w : World), Ints w ao len xs → Calls Tryd.prog 28 #[.agg #[.slice ao len cap, .int .i64 c], .int .i64 a, .int .i64 z] w (GotNNB n p ok w)) ∧
    Hid (∀ (ao : Option Addr) (cap : Nat) (w : World), Ints w ao len xs → ErrsG w → Calls Tryd.prog 26 #[.agg #[.slice ao len cap, .int .i64 c], .int .i64 a, .int .i64 z] w (GotNNB n p ok w)) ∧
    Hid (ok = true → ∃ (bs : List Bool) (at_ k q : Nat), xs = pk bs ∧ c = (bs.length : Int) ∧ a = (at_ : Int) ∧ z = (k : Int) ∧ bs.length ≤ 16384 ∧ k ≤ 14 ∧ OneAt bs at_ q ∧ at_ + q + 1 + k ≤ bs.length ∧ n = uz ((q : Int) * 2 ^ k + numV bs (at_ + q + 1) k) ∧ p = ((at_ + q + 1 + k : Nat) : Int)) ∧
    Hid (∀ (bs : List Bool) (at_ k q : Nat), xs = pk bs → c = (bs.length : Int) → a = (at_ : Int) → z = (k : Int) → bs.length ≤ 16384 → k ≤ 14 → OneAt bs at_ q → at_ + q + 1 + k ≤ bs.length → ok = true ∧ n = uz ((q : Int) * 2 ^ k + numV bs (at_ + q + 1) k) ∧ p = ((at_ + q + 1 + k : Nat) : Int)) := by
  by_cases hyes : ∃ (bs : List Bool) (at_ k q : Nat), xs = pk bs ∧ c = (bs.length : Int) ∧ a = (at_ : Int) ∧ z = (k : Int) ∧ bs.length ≤ 16384 ∧ k ≤ 14 ∧ OneAt bs at_ q ∧ at_ + q + 1 + k ≤ bs.length
  · obtain ⟨bs, at_, k, q, rfl, rfl, rfl, rfl, hb, hk, hq, hl⟩ := hyes
    refine ⟨uz ((q : Int) * 2 ^ k + numV bs (at_ + q + 1) k), ((at_ + q + 1 + k : Nat) : Int), true, fun ao cap w hx => sGric_good bs bs.length at_ k q hq rfl ao len cap w hx hb hk hl, fun ao cap w hx hE => iGric_by _ _ (k : Int) _ _ true ao len cap w (fun w1 hg hP => read_good_gric _ bs bs.length at_ (at_ + q + 1 + k) _ rfl ao len cap w1 (hx.grown hg) hb (by omega) (fun w2 w3 B hg2 hR => clo_gric (k : Int) B _ w3 (hP w3 (grown_trans hg2 hR.g)) _ ((getRice_good bs at_ k q w2 w3 B ao len cap _ rfl (hx.grown (grown_trans hg hg2)) hR hb hk hq hl).mono fun e w' ⟨h1, h2⟩ => ⟨Or.inl ⟨_, h1⟩, h1, h2⟩))), fun _ => ⟨bs, at_, k, q, rfl, rfl, rfl, rfl, hb, hk, hq, hl, rfl, rfl⟩, ?_⟩
    intro bs' at' k' q' h1 h2 h3 h4 _ _ h7 _
    have e1 := pk_inj h1 (by omega)
    have e2 : at_ = at' := by omega
    have e3 : k = k' := by omega
    subst e1; subst e2; subst e3
    have e4 : q = q' := by
      by_cases hlt : q < q'
      · have := h7.2.2.2 q hlt; have := hq.2.2.1; omega
      · by_cases hgt : q' < q
        · have := hq.2.2.2 q' hgt; have := h7.2.2.1; omega
        · omega
    subst e4
    exact ⟨rfl, rfl, rfl⟩
  · have hno : ∀ (bs : List Bool) (at_ k q : Nat), xs = pk bs → c = (bs.length : Int) → a = (at_ : Int) → z = (k : Int) → bs.length ≤ 16384 → k ≤ 14 → OneAt bs at_ q → at_ + q + 1 + k ≤ bs.length → False := fun bs at_ k q h1 h2 h3 h4 h5 h6 h7 h8 => hyes ⟨bs, at_, k, q, h1, h2, h3, h4, h5, h6, h7, h8⟩
    refine ⟨0, 0, false, ?_, ?_, Lib.hid (fun h => Bool.noConfusion h), fun bs at_ k q h1 h2 h3 h4 h5 h6 h7 h8 => (hno bs at_ k q h1 h2 h3 h4 h5 h6 h7 h8).elim⟩
    · show ∀ _, _
      intro ao cap w hx
      cases hv : VB xs c with
      | false => exact sGric_inv xs c a z ao len cap w hx hlen hv
      | true =>
      obtain ⟨bs, rfl, rfl, hb⟩ := VB_pk hv
      cases ha : inB a 0 (bs.length : Int) with
      | false => exact sGric_at _ _ a z ao len cap w hx hlen hv ha
      | true =>
      cases hz : inB z 0 14 with
      | false => exact sGric_width _ _ a z ao len cap w hx hlen hv ha hz
      | true =>
      have h2 : 0 ≤ a ∧ a ≤ (bs.length : Int) := by simpa [inB] using ha
      have h3 : 0 ≤ z ∧ z ≤ 14 := by simpa [inB] using hz
      obtain ⟨at_, rfl⟩ := Int.eq_ofNat_of_zero_le h2.1
      obtain ⟨k, rfl⟩ := Int.eq_ofNat_of_zero_le h3.1
      refine sGric_bad bs bs.length at_ k ?_ rfl ao len cap w hx hb (by omega) (by omega)
      rcases one_or bs at_ with ⟨q, hq⟩ | hq
      · by_cases hl : at_ + q + 1 + k ≤ bs.length
        · exact (hno bs at_ k q rfl rfl rfl rfl hb (by omega) hq hl).elim
        · exact Or.inr ⟨q, hq, by omega⟩
      · exact Or.inl hq
    · show ∀ _, _
      intro ao cap w hx hE
      cases hv : VB xs c with
      | false => exact iGric_by c a z 0 0 false ao len cap w (fun w1 hg _ => read_none_gric _ c a ao len cap w1 (fun w2 hg2 => newReader_inv xs c a ao len cap w2 ((hx.grown hg).grown hg2) hlen hv ((hE.bits.grown hg).grown hg2)))
      | true =>
      obtain ⟨bs, rfl, rfl, hb⟩ := VB_pk hv
      by_cases ha : a < 0 ∨ (bs.length : Int) < a
      · exact iGric_by _ a z 0 0 false ao len cap w (fun w1 hg _ => read_none_gric _ _ a ao len cap w1 (fun w2 hg2 => newReader_at _ bs.length a ao len cap w2 ((hx.grown hg).grown hg2) hlen hv ha ((hE.bits.grown hg).grown hg2)))
      obtain ⟨at_, rfl⟩ := Int.eq_ofNat_of_zero_le (show 0 ≤ a by omega)
      by_cases hz : z < 0 ∨ 14 < z
      · exact iGric_by _ _ z 0 0 false ao len cap w (fun w1 hg hP => read_bad_gric _ bs bs.length at_ rfl ao len cap w1 (hx.grown hg) hb (by omega) (fun w2 w3 B hg2 hR => clo_gric z B _ w3 (hP w3 (grown_trans hg2 hR.g)) _ ((getRice_width z w3 _ (hE.num.grown (grown_trans hg (grown_trans hg2 hR.g))) hz).mono fun e w' ⟨h1, h2⟩ => ⟨Or.inr h1, h1, h2⟩)))
      obtain ⟨k, rfl⟩ := Int.eq_ofNat_of_zero_le (show 0 ≤ z by omega)
      have hbad : NoOne bs at_ ∨ ∃ q, OneAt bs at_ q ∧ bs.length < at_ + q + 1 + k := by
        rcases one_or bs at_ with ⟨q, hq⟩ | hq
        · by_cases hl : at_ + q + 1 + k ≤ bs.length
          · exact (hno bs at_ k q rfl rfl rfl rfl hb (by omega) hq hl).elim
          · exact Or.inr ⟨q, hq, by omega⟩
        · exact Or.inl hq
      exact iGric_by _ _ (k : Int) 0 0 false ao len cap w (fun w1 hg hP => read_bad2_gric _ bs bs.length at_ rfl ao len cap w1 (hx.grown hg) hb (by omega) (fun w2 w3 B hg2 hR => clo_gric (k : Int) B _ w3 (hP w3 (grown_trans hg2 hR.g)) _ ((getRice_none bs at_ k w2 w3 B ao len cap _ rfl (hx.grown (grown_trans hg hg2)) hR hb (by omega) (by omega) (hE.fin.grown (grown_trans hg hg2)) (hE.num.grown (grown_trans hg hg2)) hbad).mono fun e w' ⟨h1, h2⟩ => ⟨Or.inr h1, h1, h2⟩)))

end Go.Proofs.YtdbneenlejgjcaaDoor
