/-
  The walks of the laws on wasted bits and shifts up: each returns true and writes nothing that was there. The table of math/bits holds what its initialiser lays.
-/
import Derived.Test.YtikblehndmikoaaDoorWb
import Derived.Test.YtikblehndmikoaaDoorLawSh
import Derived.OwnWalk
namespace Go.Proofs.YtikblehndmikoaaDoor
open Go.RowKit

theorem pt_down {x : Int} {c s : Nat} (h : x % 2 ^ c = 0) : (x / 2 ^ c) % 2 ^ s = 0 ↔ x % 2 ^ (c + s) = 0 := by
  have hp : (0 : Int) < 2 ^ c := Int.pow_pos (by omega)
  obtain ⟨y, rfl⟩ := Int.dvd_of_emod_eq_zero h
  rw [Int.mul_ediv_cancel_left _ (by omega), Int.pow_add, Int.mul_emod_mul_of_pos _ _ hp]
  constructor
  · intro e; rw [e, Int.mul_zero]
  · intro e
    rcases Int.mul_eq_zero.1 e with e | e
    · omega
    · exact e
theorem pt_zero {x : Int} {c : Nat} (h : x % 2 ^ c = 0) : x / 2 ^ c = 0 ↔ x = 0 := by
  have hp : (0 : Int) < 2 ^ c := Int.pow_pos (by omega)
  obtain ⟨y, rfl⟩ := Int.dvd_of_emod_eq_zero h
  rw [Int.mul_ediv_cancel_left _ (by omega)]
  constructor
  · rintro rfl; simp
  · intro e
    rcases Int.mul_eq_zero.1 e with e | e
    · omega
    · exact e
theorem even_down {c s : Nat} {xs : List Int} (h : evenL c xs = true) : evenL s (downL c xs) = evenL (c + s) xs := by
  induction xs with
  | nil => rfl
  | cons x xs ih =>
    have h1 : x % 2 ^ c = 0 ∧ evenL c xs = true := by
      have e : evenL c (x :: xs) = (decide (x % 2 ^ c = 0) && evenL c xs) := rfl
      rw [e, Bool.and_eq_true, decide_eq_true_eq] at h; exact h
    have e1 : evenL s (downL c (x :: xs)) = (decide (x / 2 ^ c % 2 ^ s = 0) && evenL s (downL c xs)) := rfl
    have e2 : evenL (c + s) (x :: xs) = (decide (x % 2 ^ (c + s) = 0) && evenL (c + s) xs) := rfl
    rw [e1, e2, ih h1.2]
    congr 1
    exact decide_eq_decide.2 (pt_down h1.1)
theorem zero_down {c : Nat} {xs : List Int} (h : evenL c xs = true) : zeroL (downL c xs) = zeroL xs := by
  induction xs with
  | nil => rfl
  | cons x xs ih =>
    have h1 : x % 2 ^ c = 0 ∧ evenL c xs = true := by
      have e : evenL c (x :: xs) = (decide (x % 2 ^ c = 0) && evenL c xs) := rfl
      rw [e, Bool.and_eq_true, decide_eq_true_eq] at h; exact h
    have e1 : zeroL (downL c (x :: xs)) = (decide (x / 2 ^ c = 0) && zeroL (downL c xs)) := rfl
    have e2 : zeroL (x :: xs) = (decide (x = 0) && zeroL xs) := rfl
    rw [e1, e2, ih h1.2]
    congr 1
    exact decide_eq_decide.2 (pt_zero h1.1)
theorem wbs_down {c : Nat} {xs : List Int} (hv : vS xs = true) (hc : c ≤ 14) (h : evenL c xs = true) (hz : zeroL xs = false) : wbs (downL c xs) + c = wbs xs := by
  have ha := vS_all hv
  have hb := vS_all (down_valid hc hv)
  have hz2 : zeroL (downL c xs) = false := by rw [zero_down h, hz]
  have h1 := wbs_le ha
  have h2 := wbs_le hb
  have key : ∀ s, s ≤ 40 → (s ≤ wbs (downL c xs) ↔ c + s ≤ wbs xs) := fun s hs => by
    rw [← wbs_iff hb hz2 (by omega), ← wbs_iff ha hz (by omega), even_down h]
  have a := (key _ (by omega)).1 (Nat.le_refl _)
  have b := (wbs_iff ha hz (s := c) (by omega)).1 h
  have d := (key (wbs xs - c) (by omega)).2 (by omega)
  omega
theorem even_wbs {xs : List Int} (ha : allB xs (-65536) 65536 = true) : evenL (wbs xs) xs = true := by
  cases hz : zeroL xs with
  | true => exact zero_even hz _
  | false => exact (wbs_iff ha hz (by have := wbs_le ha; omega)).2 (Nat.le_refl _)
theorem wbs_zero {xs : List Int} (h : zeroL xs = true) : wbs xs = 0 := by unfold wbs; rw [if_pos h]
theorem wbs_rest {xs : List Int} (hv : vS xs = true) (hc : wbs xs ≤ 14) : wbs (downL (wbs xs) xs) = 0 := by
  have he := even_wbs (vS_all hv)
  cases hz : zeroL xs with
  | true => exact wbs_zero (by rw [zero_down he, hz])
  | false => have := wbs_down hv hc he hz; omega
theorem down_up (s : Nat) (xs : List Int) : downL s (upL s xs) = xs ∧ evenL s (upL s xs) = true := by
  have hp : (0 : Int) < 2 ^ s := Int.pow_pos (by omega)
  constructor
  · unfold downL upL
    rw [List.map_map]
    conv => rhs; rw [← List.map_id xs]
    exact List.map_congr_left fun x _ => Int.mul_ediv_cancel _ (by omega)
  · unfold evenL upL
    rw [List.all_eq_true]
    intro y hy
    obtain ⟨x, _, rfl⟩ := List.mem_map.1 hy
    simp [Int.mul_emod_left]
theorem zeroL_take {xs : List Int} {k : Nat} {x : Int} (h : xs[k]? = some x) : zeroL (xs.take (k + 1)) = (zeroL (xs.take k) && decide (x = 0)) := by
  unfold zeroL; rw [List.take_add_one, h, List.all_append]; simp
/-- What was shifted up comes back. -/
theorem w_of_u {k : Int} {xs : List Int} (h : uOk k xs = true) : wOk k (uL k xs) = true ∧ wL k (uL k xs) = xs ∧ wN k (uL k xs) = uN k xs := by
  obtain ⟨h1, h2, h3, h4⟩ := uOk_of h
  have e : uL k xs = upL k.toNat xs := by unfold uL; rw [if_pos h]
  obtain ⟨d1, d2⟩ := down_up k.toNat xs
  have ho : wOk k (uL k xs) = true := by unfold wOk; rw [e, h4, d2]; simp [inB]; omega
  refine ⟨ho, ?_, ?_⟩
  · unfold wL; rw [if_pos ho, e, d1]
  · unfold wN uN; rw [if_pos ho, if_pos h, e]; simp [upL]
/-- Shifts up add wasted bits. -/
theorem wb_up {k : Int} {xs : List Int} (h : uOk k xs = true) (hz : zeroL xs = false) : wbI (uL k xs) = wbI xs + k := by
  obtain ⟨h1, h2, h3, h4⟩ := uOk_of h
  have e : uL k xs = upL k.toNat xs := by unfold uL; rw [if_pos h]
  obtain ⟨d1, d2⟩ := down_up k.toNat xs
  have hz2 : zeroL (upL k.toNat xs) = false := by rw [← zero_down d2, d1, hz]
  have := wbs_down h4 (by omega) d2 hz2
  rw [d1] at this
  unfold wbI
  rw [e, h4, h1]
  simp only [if_true]
  omega

set_option maxRecDepth 100000 in
set_option maxHeartbeats 4000000 in
theorem FnWastedBits_walk (ao : Option Addr) (len cap : Nat) (w : World) (hb : BytesAt w ao len) (hlc : len ≤ cap) (hmax : len ≤ 9223372036854775807) (hT : Tab64 w) :
    Calls Tryd.prog 3 #[.slice ao len cap] w (Holds w) := by
  by_cases hlen : 1048576 < len
  · clear hb hT
    go_enter Tryd.func3, Tryd.ntmps3
    go_wp2
    go_ret
    exact ⟨rfl, grown_refl _ _⟩
  have hd := drawWB_any ao len cap w hb hlc hmax
  have hm : decide (1048576 < (len : Int)) = false := by simp; omega
  have HT := Lib.hid hT
  clear hb hlc hmax hlen hT
  go_enter Tryd.func3, Tryd.ntmps3
  go_wp2_with fail
  refine hd.mono ?_
  rintro e w1 ⟨a1, l1, c1, xs, rfl, hl1, hx1, _, hg1⟩
  have H_x := Lib.hid hx1
  have HG := Lib.hid hg1
  clear hd hx1 hg1
  obtain ⟨z, hz⟩ : ∃ z, wbI xs = z := ⟨_, rfl⟩
  have KI : Hid (∀ (W : World), Ints W a1 l1 xs → Tab64 W → Calls Tryd.prog 8 #[.slice a1 l1 c1] W fun e w' => e = .returned (.int .i64 z) ∧ W.grownBy w' none) := fun W h1 hT => by
    have := iWB_any xs a1 l1 c1 W h1 (by omega) hT
    rw [hz] at this; exact this
  have KS : Hid (∀ (W : World), Ints W a1 l1 xs → Calls Tryd.prog 9 #[.slice a1 l1 c1] W fun e w' => e = .returned (.int .i64 z) ∧ W.grownBy w' none) := fun W h1 => by
    have := sWB_any xs a1 l1 c1 W h1 (by omega)
    rw [hz] at this; exact this
  have HZ := Lib.hid hz
  clear hz
  go_wp2_with fail
  refine (KI.out _ H_x.out (HT.out.grown HG.out)).mono ?_
  rintro e w2 ⟨rfl, hg2⟩
  have H_x := Lib.hid (H_x.out.grown hg2)
  have HG := Lib.hid (grown_trans HG.out hg2)
  clear hg2
  go_wp2_with fail
  refine (KS.out _ H_x.out).mono ?_
  rintro e w3 ⟨rfl, hg3⟩
  have H_x := Lib.hid (H_x.out.grown hg3)
  have HG := Lib.hid (grown_trans HG.out hg3)
  clear hg3
  by_cases h0 : z < 0
  · have d0 : decide (z < 0) = true := by simpa using h0
    go_wp2_with fail
    refine (KS.out _ H_x.out).mono ?_
    rintro e w4 ⟨rfl, hg4⟩
    have H_x := Lib.hid (H_x.out.grown hg4)
    have HG := Lib.hid (grown_trans HG.out hg4)
    clear hg4
    go_wp2
    go_ret
    exact ⟨rfl, HG.out⟩
  have d0 : decide (z < 0) = false := by simpa using h0
  by_cases h1 : 14 < z
  · have d1 : decide (14 < z) = true := by simpa using h1
    go_wp2_with fail
    refine (KS.out _ H_x.out).mono ?_
    rintro e w4 ⟨rfl, hg4⟩
    have H_x := Lib.hid (H_x.out.grown hg4)
    have HG := Lib.hid (grown_trans HG.out hg4)
    clear hg4
    go_wp2
    go_ret
    exact ⟨rfl, HG.out⟩
  have d1 : decide (14 < z) = false := by simpa using h1
  have hv : vS xs = true := by
    cases h : vS xs with
    | true => rfl
    | false => exfalso; have := HZ.out; unfold wbI at this; rw [h] at this; simp at this; omega
  have hzc : z = (wbs xs : Int) := by have := HZ.out; unfold wbI at this; rw [hv] at this; simpa using this.symm
  obtain ⟨c, hc⟩ : ∃ c, wbs xs = c := ⟨_, rfl⟩
  rw [hc] at hzc
  have HV := Lib.hid hv
  have HC := Lib.hid hc
  have hc14 : c ≤ 14 := by omega
  subst hzc
  clear hv hc h0 h1
  have e1 : wOk (c : Int) xs = true := by
    have := even_wbs (vS_all HV.out)
    rw [HC.out] at this
    unfold wOk
    rw [HV.out, show (c : Int).toNat = c by omega, this]; simp [inB]; omega
  obtain ⟨b1, b2, b3⟩ := u_of_w e1
  have e2 : wL (c : Int) xs = downL c xs := by unfold wL; rw [if_pos e1]; rfl
  have e3 : wbI (wL (c : Int) xs) = 0 := by
    have h := wbs_rest HV.out (by rw [HC.out]; exact hc14)
    rw [HC.out] at h
    rw [e2]; unfold wbI; rw [down_valid hc14 HV.out, h]; rfl
  obtain ⟨A, hA⟩ : ∃ A, wL (c : Int) xs = A := ⟨_, rfl⟩
  obtain ⟨n, hn⟩ : ∃ n, wN (c : Int) xs = n := ⟨_, rfl⟩
  have hn64 : n ≤ 64 := by rw [← hn]; exact wN_le _ _
  rw [hA] at b1 b2 b3 e3
  rw [hn] at b3
  have KD : Hid (∀ (W : World), Ints W a1 l1 xs → Calls Tryd.prog 10 #[.slice a1 l1 c1, .int .i64 (c : Int)] W (MadeOk A n true W)) := fun W h1 => by
    have := iDown_any (c : Int) xs a1 l1 c1 W h1 (by omega)
    rw [hA, hn, e1] at this; exact this
  have HB := Lib.hid (And.intro b1 (And.intro b2 (And.intro b3 e3)))
  clear e1 b1 b2 b3 e2 e3 hA hn
  go_wp2_with fail
  refine (KD.out _ H_x.out).mono ?_
  rintro e w4 ⟨v4, rfl, ho4, hg4⟩
  obtain ⟨p4, q4, rfl, _, _, hx4, _⟩ := ho4.reads
  have H_x := Lib.hid (H_x.out.grown hg4)
  have HG := Lib.hid (grown_trans HG.out hg4)
  clear hg4
  have H_a := Lib.hid hx4
  clear hx4 ho4
  have KU : Hid (∀ (W : World), Ints W p4 n A → Calls Tryd.prog 11 #[.slice p4 n q4, .int .i64 (c : Int)] W (MadeOk xs n true W)) := fun W h1 => by
    have := iUp_any (c : Int) A p4 n q4 W h1 (by omega)
    rw [HB.out.1, HB.out.2.1, HB.out.2.2.1] at this; exact this
  have K0 : Hid (∀ (W : World), Ints W p4 n A → Tab64 W → Calls Tryd.prog 8 #[.slice p4 n q4] W fun e w' => e = .returned (.int .i64 0) ∧ W.grownBy w' none) := fun W h1 hT => by
    have := iWB_any A p4 n q4 W h1 (by omega) hT
    rw [HB.out.2.2.2] at this; exact this
  go_wp2_with fail
  refine (KU.out _ H_a.out).mono ?_
  rintro e w5 ⟨v5, rfl, ho5, hg5⟩
  obtain ⟨p5, q5, rfl, _, _, hx5, _⟩ := ho5.reads
  have H_x := Lib.hid (H_x.out.grown hg5)
  have H_a := Lib.hid (H_a.out.grown hg5)
  have HG := Lib.hid (grown_trans HG.out hg5)
  clear hg5
  have H_b := Lib.hid hx5
  clear hx5 ho5
  go_wp2_with fail
  refine (K0.out _ H_a.out (HT.out.grown HG.out)).mono ?_
  rintro e w6 ⟨rfl, hg6⟩
  have H_x := Lib.hid (H_x.out.grown hg6)
  have H_a := Lib.hid (H_a.out.grown hg6)
  have H_b := Lib.hid (H_b.out.grown hg6)
  have HG := Lib.hid (grown_trans HG.out hg6)
  clear hg6
  go_wp2_with fail
  refine (equalInts_any xs xs p5 a1 n q5 l1 c1 true _ H_b.out H_x.out (by omega) (by simp)).mono ?_
  rintro e w7 ⟨rfl, hg7⟩
  have H_x := Lib.hid (H_x.out.grown hg7)
  have H_a := Lib.hid (H_a.out.grown hg7)
  have H_b := Lib.hid (H_b.out.grown hg7)
  have HG := Lib.hid (grown_trans HG.out hg7)
  clear hg7
  go_wp2
  go_ret
  exact ⟨rfl, HG.out⟩

set_option maxRecDepth 100000 in
set_option maxHeartbeats 4000000 in
theorem FnWastedBitsMore_walk (ao : Option Addr) (len cap : Nat) (w : World) (hb : BytesAt w ao len) (hlc : len ≤ cap) (hmax : len ≤ 9223372036854775807) (hT : Tab64 w) :
    Calls Tryd.prog 4 #[.slice ao len cap] w (Holds w) := by
  by_cases hlen : 1048576 < len
  · clear hb hT
    go_enter Tryd.func4, Tryd.ntmps4
    go_wp2
    go_ret
    exact ⟨rfl, grown_refl _ _⟩
  have hd := drawWB_any ao len cap w hb hlc hmax
  have hm : decide (1048576 < (len : Int)) = false := by simp; omega
  have HT := Lib.hid hT
  clear hb hlc hmax hlen hT
  go_enter Tryd.func4, Tryd.ntmps4
  go_wp2_with fail
  refine hd.mono ?_
  rintro e w1 ⟨a1, l1, c1, xs, rfl, hl1, hx1, _, hg1⟩
  have H_x := Lib.hid hx1
  have HG := Lib.hid hg1
  clear hd hx1 hg1
  obtain ⟨z, hz⟩ : ∃ z, wbI xs = z := ⟨_, rfl⟩
  have KI : Hid (∀ (W : World), Ints W a1 l1 xs → Tab64 W → Calls Tryd.prog 8 #[.slice a1 l1 c1] W fun e w' => e = .returned (.int .i64 z) ∧ W.grownBy w' none) := fun W h1 hT => by
    have := iWB_any xs a1 l1 c1 W h1 (by omega) hT
    rw [hz] at this; exact this
  have KS : Hid (∀ (W : World), Ints W a1 l1 xs → Calls Tryd.prog 9 #[.slice a1 l1 c1] W fun e w' => e = .returned (.int .i64 z) ∧ W.grownBy w' none) := fun W h1 => by
    have := sWB_any xs a1 l1 c1 W h1 (by omega)
    rw [hz] at this; exact this
  have HZ := Lib.hid hz
  clear hz
  go_wp2_with fail
  refine (KI.out _ H_x.out (HT.out.grown HG.out)).mono ?_
  rintro e w2 ⟨rfl, hg2⟩
  have H_x := Lib.hid (H_x.out.grown hg2)
  have HG := Lib.hid (grown_trans HG.out hg2)
  clear hg2
  go_wp2_with fail
  refine (KS.out _ H_x.out).mono ?_
  rintro e w3 ⟨rfl, hg3⟩
  have H_x := Lib.hid (H_x.out.grown hg3)
  have HG := Lib.hid (grown_trans HG.out hg3)
  clear hg3
  by_cases h0 : z < 0
  · have d0 : decide (z < 0) = true := by simpa using h0
    go_wp2_with fail
    refine (KS.out _ H_x.out).mono ?_
    rintro e w4 ⟨rfl, hg4⟩
    have H_x := Lib.hid (H_x.out.grown hg4)
    have HG := Lib.hid (grown_trans HG.out hg4)
    clear hg4
    go_wp2
    go_ret
    exact ⟨rfl, HG.out⟩
  have d0 : decide (z < 0) = false := by simpa using h0
  by_cases h1 : 14 ≤ z
  · have d1 : decide (14 ≤ z) = true := by simpa using h1
    go_wp2_with fail
    refine (KS.out _ H_x.out).mono ?_
    rintro e w4 ⟨rfl, hg4⟩
    have H_x := Lib.hid (H_x.out.grown hg4)
    have HG := Lib.hid (grown_trans HG.out hg4)
    clear hg4
    go_wp2
    go_ret
    exact ⟨rfl, HG.out⟩
  have d1 : decide (14 ≤ z) = false := by simpa using h1
  have hv : vS xs = true := by
    cases h : vS xs with
    | true => rfl
    | false => exfalso; have := HZ.out; unfold wbI at this; rw [h] at this; simp at this; omega
  have hzc : z = (wbs xs : Int) := by have := HZ.out; unfold wbI at this; rw [hv] at this; simpa using this.symm
  obtain ⟨c, hc⟩ : ∃ c, wbs xs = c := ⟨_, rfl⟩
  rw [hc] at hzc
  have HV := Lib.hid hv
  have HC := Lib.hid hc
  have hc14 : c ≤ 13 := by omega
  subst hzc
  clear hv hc h0 h1
  have e1 : wOk ((c : Int) + 1) xs = zeroL xs := by
    unfold wOk
    rw [HV.out, show ((c : Int) + 1).toNat = c + 1 by omega, show inB ((c : Int) + 1) 0 14 = true from inB_true (by omega) (by omega)]
    cases hz : zeroL xs with
    | true => rw [zero_even hz]; rfl
    | false =>
      cases he : evenL (c + 1) xs with
      | false => rfl
      | true => exfalso; have := (wbs_iff (vS_all HV.out) hz (by omega)).1 he; rw [HC.out] at this; omega
  have hwk : IntKind.i64.wrap ((c : Int) + 1) = (c : Int) + 1 := IntWalk.i64_in _ (by omega)
  obtain ⟨A, hA⟩ : ∃ A, wL ((c : Int) + 1) xs = A := ⟨_, rfl⟩
  obtain ⟨n, hn⟩ : ∃ n, wN ((c : Int) + 1) xs = n := ⟨_, rfl⟩
  obtain ⟨zr, hzr⟩ : ∃ zr, zeroL xs = zr := ⟨_, rfl⟩
  rw [hzr] at e1
  have HZR := Lib.hid hzr
  have KD : Hid (∀ (W : World), Ints W a1 l1 xs → Calls Tryd.prog 10 #[.slice a1 l1 c1, .int .i64 ((c : Int) + 1)] W (MadeOk A n zr W)) := fun W h1 => by
    have := iDown_any ((c : Int) + 1) xs a1 l1 c1 W h1 (by omega)
    rw [hA, hn, e1] at this; exact this
  clear e1 hA hn hzr
  go_wp2_with fail
  refine (KD.out _ H_x.out).mono ?_
  rintro e w4 ⟨v4, rfl, ho4, hg4⟩
  obtain ⟨p4, q4, rfl, _, _, hx4, _⟩ := ho4.reads
  have H_x := Lib.hid (H_x.out.grown hg4)
  have HG := Lib.hid (grown_trans HG.out hg4)
  clear hg4
  have H_a := Lib.hid hx4
  clear hx4 ho4
  go_wp2
  have HX0 := Lib.hid H_x.out
  go_loop [7, 8] (fun zv iv => ∃ (k2 : Nat) (b : Bool), k2 ≤ l1 ∧ iv = .int .i64 k2 ∧ zv = .bool b ∧ Hid (zeroL (xs.take k2) = b)) (fun _ iv => l1 - (intOf iv).toNat)
  case atStart => exact ⟨0, true, Nat.zero_le _, rfl, rfl, rfl⟩
  case round =>
    obtain ⟨k2, b, hk2, rfl, rfl, hzb⟩ := hrel
    by_cases hlt : k2 < l1
    · obtain ⟨x, hxk⟩ : ∃ x, xs[k2]? = some x := ⟨_, List.getElem?_eq_getElem (by rw [HX0.out.1]; exact hlt)⟩
      obtain ⟨bb, off, rfl, hcc⟩ := HX0.out.2.resolve_left (by intro e; subst e; simp at hxk)
      have hcx := hcc k2 x hxk
      have HZ2 := Lib.hid (zeroL_take hxk)
      have hzb2 := hzb.out
      clear hcc hxk
      cases b with
      | false =>
        have HZ3 : Hid (zeroL (xs.take (k2 + 1)) = false) := by show _ = _; rw [HZ2.out, hzb2]; rfl
        clear hzb2 hzb
        go_wp2
        go_round
        case rel => exact ⟨k2 + 1, false, by omega, by go_num, rfl, HZ3⟩
        case measure => simp [intOf]; omega
      | true =>
        by_cases hx0 : x = 0
        · subst hx0
          have HZ3 : Hid (zeroL (xs.take (k2 + 1)) = true) := by show _ = _; rw [HZ2.out, hzb2]; rfl
          clear hzb2 hzb
          go_wp2
          go_round
          case rel => exact ⟨k2 + 1, true, by omega, by go_num, rfl, HZ3⟩
          case measure => simp [intOf]; omega
        · have HZ3 : Hid (zeroL (xs.take (k2 + 1)) = false) := by show _ = _; rw [HZ2.out, hzb2, decide_eq_false hx0]; rfl
          have hxb : (x == 0) = false := by simpa using hx0
          clear hzb2 hzb
          go_wp2
          go_round
          case rel => exact ⟨k2 + 1, false, by omega, by go_num, rfl, HZ3⟩
          case measure => simp [intOf]; omega
    · have HF : Hid (zeroL xs = b) := by show _ = _; have := hzb.out; rwa [List.take_of_length_le (by rw [HX0.out.1]; omega)] at this
      clear hzb
      obtain rfl : zr = b := by rw [← HZR.out, HF.out]
      have hbb : (zr == zr) = true := by simp
      go_wp2
      go_ret
      exact ⟨rfl, HG.out⟩

set_option maxRecDepth 100000 in
set_option maxHeartbeats 4000000 in
theorem FnShiftUp_walk (ao : Option Addr) (len cap : Nat) (w : World) (hb : BytesAt w ao len) (hlc : len ≤ cap) (hmax : len ≤ 9223372036854775807) (hT : Tab64 w) :
    Calls Tryd.prog 5 #[.slice ao len cap] w (Holds w) := by
  by_cases hlen : 1048576 < len
  · clear hb hT
    go_enter Tryd.func5, Tryd.ntmps5
    go_wp2
    go_ret
    exact ⟨rfl, grown_refl _ _⟩
  have hd := drawSU_any ao len cap w hb hlc hmax
  have hm : decide (1048576 < (len : Int)) = false := by simp; omega
  have HT := Lib.hid hT
  clear hb hlc hmax hlen hT
  go_enter Tryd.func5, Tryd.ntmps5
  go_wp2_with fail
  refine hd.mono ?_
  rintro e w1 ⟨a1, l1, c1, xs, k, rfl, hl1, hk, hx1, hg1⟩
  have hk0 := hk.1
  have hk1 := hk.2
  have H_x := Lib.hid hx1
  have HG := Lib.hid hg1
  clear hd hx1 hg1 hk
  obtain ⟨A, hA⟩ : ∃ A, uL k xs = A := ⟨_, rfl⟩
  obtain ⟨n, hn⟩ : ∃ n, uN k xs = n := ⟨_, rfl⟩
  obtain ⟨ok, hok⟩ : ∃ ok, uOk k xs = ok := ⟨_, rfl⟩
  have hn64 : n ≤ 64 := by rw [← hn]; exact uN_le _ _
  have KI : Hid (∀ (W : World), Ints W a1 l1 xs → Calls Tryd.prog 11 #[.slice a1 l1 c1, .int .i64 k] W (MadeOk A n ok W)) := fun W h1 => by
    have := iUp_any k xs a1 l1 c1 W h1 (by omega)
    rw [hA, hn, hok] at this; exact this
  have KS : Hid (∀ (W : World), Ints W a1 l1 xs → Calls Tryd.prog 14 #[.slice a1 l1 c1, .int .i64 k] W (MadeOk A n ok W)) := fun W h1 => by
    have := sUp_any k xs a1 l1 c1 W h1 (by omega)
    rw [hA, hn, hok] at this; exact this
  have HE := Lib.hid (And.intro hA (And.intro hn hok))
  clear hA hn hok
  cases ok with
  | false =>
    go_wp2_with fail
    refine (KI.out _ H_x.out).mono ?_
    rintro e w2 ⟨v2, rfl, ho2, hg2⟩
    obtain ⟨p2, q2, rfl, _, _, hx2, _⟩ := ho2.reads
    have H_x := Lib.hid (H_x.out.grown hg2)
    have HG := Lib.hid (grown_trans HG.out hg2)
    clear hg2
    have H_a := Lib.hid hx2
    clear hx2 ho2
    go_wp2_with fail
    refine (KS.out _ H_x.out).mono ?_
    rintro e w3 ⟨v3, rfl, ho3, hg3⟩
    obtain ⟨p3, q3, rfl, _, _, hx3, _⟩ := ho3.reads
    have H_x := Lib.hid (H_x.out.grown hg3)
    have H_a := Lib.hid (H_a.out.grown hg3)
    have HG := Lib.hid (grown_trans HG.out hg3)
    clear hg3
    have H_b := Lib.hid hx3
    clear hx3 ho3
    go_wp2_with fail
    refine (equalInts_any A A p2 p3 n q2 n q3 true _ H_a.out H_b.out (by omega) (by simp)).mono ?_
    rintro e w4 ⟨rfl, hg4⟩
    have H_x := Lib.hid (H_x.out.grown hg4)
    have H_a := Lib.hid (H_a.out.grown hg4)
    have H_b := Lib.hid (H_b.out.grown hg4)
    have HG := Lib.hid (grown_trans HG.out hg4)
    clear hg4
    go_wp2_with fail
    refine (equalInts_any A A p2 p3 n q2 n q3 true _ H_a.out H_b.out (by omega) (by simp)).mono ?_
    rintro e w5 ⟨rfl, hg5⟩
    have H_x := Lib.hid (H_x.out.grown hg5)
    have H_a := Lib.hid (H_a.out.grown hg5)
    have H_b := Lib.hid (H_b.out.grown hg5)
    have HG := Lib.hid (grown_trans HG.out hg5)
    clear hg5
    go_wp2
    go_ret
    exact ⟨rfl, HG.out⟩
  | true =>
    go_wp2_with fail
    refine (KI.out _ H_x.out).mono ?_
    rintro e w2 ⟨v2, rfl, ho2, hg2⟩
    obtain ⟨p2, q2, rfl, _, _, hx2, _⟩ := ho2.reads
    have H_x := Lib.hid (H_x.out.grown hg2)
    have HG := Lib.hid (grown_trans HG.out hg2)
    clear hg2
    have H_a := Lib.hid hx2
    clear hx2 ho2
    go_wp2_with fail
    refine (KS.out _ H_x.out).mono ?_
    rintro e w3 ⟨v3, rfl, ho3, hg3⟩
    obtain ⟨p3, q3, rfl, _, _, hx3, _⟩ := ho3.reads
    have H_x := Lib.hid (H_x.out.grown hg3)
    have H_a := Lib.hid (H_a.out.grown hg3)
    have HG := Lib.hid (grown_trans HG.out hg3)
    clear hg3
    have H_b := Lib.hid hx3
    clear hx3 ho3
    go_wp2_with fail
    refine (equalInts_any A A p2 p3 n q2 n q3 true _ H_a.out H_b.out (by omega) (by simp)).mono ?_
    rintro e w4 ⟨rfl, hg4⟩
    have H_x := Lib.hid (H_x.out.grown hg4)
    have H_a := Lib.hid (H_a.out.grown hg4)
    have H_b := Lib.hid (H_b.out.grown hg4)
    have HG := Lib.hid (grown_trans HG.out hg4)
    clear hg4
    obtain ⟨b1, b2, b3⟩ := w_of_u HE.out.2.2
    rw [HE.out.1] at b1 b2 b3
    rw [HE.out.2.1] at b3
    have KB : Hid (∀ (W : World), Ints W p2 n A → Calls Tryd.prog 10 #[.slice p2 n q2, .int .i64 k] W (MadeOk xs n true W)) := fun W h1 => by
      have := iDown_any k A p2 n q2 W h1 (by omega)
      rw [b1, b2, b3] at this; exact this
    clear b1 b2 b3
    go_wp2_with fail
    refine (KB.out _ H_a.out).mono ?_
    rintro e w5 ⟨v5, rfl, ho5, hg5⟩
    obtain ⟨p5, q5, rfl, _, _, hx5, _⟩ := ho5.reads
    have H_x := Lib.hid (H_x.out.grown hg5)
    have H_a := Lib.hid (H_a.out.grown hg5)
    have H_b := Lib.hid (H_b.out.grown hg5)
    have HG := Lib.hid (grown_trans HG.out hg5)
    clear hg5
    have H_c := Lib.hid hx5
    clear hx5 ho5
    go_wp2
    have HX0 := Lib.hid H_x.out
    go_loop [11, 12] (fun zv iv => ∃ (k2 : Nat) (b : Bool), k2 ≤ l1 ∧ iv = .int .i64 k2 ∧ zv = .bool b ∧ Hid (zeroL (xs.take k2) = b)) (fun _ iv => l1 - (intOf iv).toNat)
    case atStart => exact ⟨0, true, Nat.zero_le _, rfl, rfl, rfl⟩
    case round =>
      obtain ⟨k2, b, hk2, rfl, rfl, hzb⟩ := hrel
      by_cases hlt : k2 < l1
      · obtain ⟨x, hxk⟩ : ∃ x, xs[k2]? = some x := ⟨_, List.getElem?_eq_getElem (by rw [HX0.out.1]; exact hlt)⟩
        obtain ⟨bb, off, rfl, hcc⟩ := HX0.out.2.resolve_left (by intro e; subst e; simp at hxk)
        have hcx := hcc k2 x hxk
        have HZ2 := Lib.hid (zeroL_take hxk)
        have hzb2 := hzb.out
        clear hcc hxk
        cases b with
        | false =>
          have HZ3 : Hid (zeroL (xs.take (k2 + 1)) = false) := by show _ = _; rw [HZ2.out, hzb2]; rfl
          clear hzb2 hzb
          go_wp2
          go_round
          case rel => exact ⟨k2 + 1, false, by omega, by go_num, rfl, HZ3⟩
          case measure => simp [intOf]; omega
        | true =>
          by_cases hx0 : x = 0
          · subst hx0
            have HZ3 : Hid (zeroL (xs.take (k2 + 1)) = true) := by show _ = _; rw [HZ2.out, hzb2]; rfl
            clear hzb2 hzb
            go_wp2
            go_round
            case rel => exact ⟨k2 + 1, true, by omega, by go_num, rfl, HZ3⟩
            case measure => simp [intOf]; omega
          · have HZ3 : Hid (zeroL (xs.take (k2 + 1)) = false) := by show _ = _; rw [HZ2.out, hzb2, decide_eq_false hx0]; rfl
            have hxb : (x == 0) = false := by simpa using hx0
            clear hzb2 hzb
            go_wp2
            go_round
            case rel => exact ⟨k2 + 1, false, by omega, by go_num, rfl, HZ3⟩
            case measure => simp [intOf]; omega
      · have HF : Hid (zeroL xs = b) := by show _ = _; have := hzb.out; rwa [List.take_of_length_le (by rw [HX0.out.1]; omega)] at this
        clear hzb
        cases b with
        | true =>
          go_wp2_with fail
          refine (equalInts_any xs xs p5 a1 n q5 l1 c1 true _ H_c.out H_x.out (by omega) (by simp)).mono ?_
          rintro e w6 ⟨rfl, hg6⟩
          have H_x := Lib.hid (H_x.out.grown hg6)
          have H_a := Lib.hid (H_a.out.grown hg6)
          have H_b := Lib.hid (H_b.out.grown hg6)
          have H_c := Lib.hid (H_c.out.grown hg6)
          have HG := Lib.hid (grown_trans HG.out hg6)
          clear hg6
          go_wp2
          go_ret
          exact ⟨rfl, HG.out⟩
        | false =>
          have hz := HF.out
          have hup := wb_up HE.out.2.2 hz
          rw [HE.out.1] at hup
          obtain ⟨z, hzz⟩ : ∃ z, wbI xs = z := ⟨_, rfl⟩
          rw [hzz] at hup
          have hzr : -1 ≤ z ∧ z ≤ 100 := by
            rw [← hzz]; unfold wbI
            split
            · rename_i hv; have := wbs_le (vS_all hv); omega
            · omega
          have hw0 : IntKind.i64.wrap (z + k) = z + k := IntWalk.i64_in _ (by omega)
          have K1 : Hid (∀ (W : World), Ints W p2 n A → Tab64 W → Calls Tryd.prog 8 #[.slice p2 n q2] W fun e w' => e = .returned (.int .i64 (z + k)) ∧ W.grownBy w' none) := fun W h1 hT => by
            have := iWB_any A p2 n q2 W h1 (by omega) hT
            rw [hup] at this; exact this
          have K2 : Hid (∀ (W : World), Ints W a1 l1 xs → Tab64 W → Calls Tryd.prog 8 #[.slice a1 l1 c1] W fun e w' => e = .returned (.int .i64 z) ∧ W.grownBy w' none) := fun W h1 hT => by
            have := iWB_any xs a1 l1 c1 W h1 (by omega) hT
            rw [hzz] at this; exact this
          clear hz hup hzz hzr
          go_wp2_with fail
          refine (equalInts_any xs xs p5 a1 n q5 l1 c1 true _ H_c.out H_x.out (by omega) (by simp)).mono ?_
          rintro e w6 ⟨rfl, hg6⟩
          have H_x := Lib.hid (H_x.out.grown hg6)
          have H_a := Lib.hid (H_a.out.grown hg6)
          have H_b := Lib.hid (H_b.out.grown hg6)
          have H_c := Lib.hid (H_c.out.grown hg6)
          have HG := Lib.hid (grown_trans HG.out hg6)
          clear hg6
          go_wp2_with fail
          refine (K1.out _ H_a.out (HT.out.grown HG.out)).mono ?_
          rintro e w7 ⟨rfl, hg7⟩
          have H_x := Lib.hid (H_x.out.grown hg7)
          have H_a := Lib.hid (H_a.out.grown hg7)
          have H_b := Lib.hid (H_b.out.grown hg7)
          have H_c := Lib.hid (H_c.out.grown hg7)
          have HG := Lib.hid (grown_trans HG.out hg7)
          clear hg7
          go_wp2_with fail
          refine (K2.out _ H_x.out (HT.out.grown HG.out)).mono ?_
          rintro e w8 ⟨rfl, hg8⟩
          have H_x := Lib.hid (H_x.out.grown hg8)
          have H_a := Lib.hid (H_a.out.grown hg8)
          have H_b := Lib.hid (H_b.out.grown hg8)
          have H_c := Lib.hid (H_c.out.grown hg8)
          have HG := Lib.hid (grown_trans HG.out hg8)
          clear hg8
          go_wp2
          go_ret
          exact ⟨rfl, HG.out⟩

end Go.Proofs.YtikblehndmikoaaDoor
