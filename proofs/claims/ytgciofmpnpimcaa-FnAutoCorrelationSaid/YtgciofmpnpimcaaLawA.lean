/-
  The walks of the laws on correlations: each returns true and writes nothing that was there. For every code.
-/
import Derived.Test.YtgciofmpnpimcaaExAuto
import Derived.Test.YtgciofmpnpimcaaDrawS
namespace Go.Proofs.Ytgciofmpnpimcaa
open Go.RowKit

/-! Plain mathematics: no correlation is greater than the energy; signs and directions. -/
theorem two_mul_le (a b : Int) : 2 * (a * b) ≤ a * a + b * b ∧ -(2 * (a * b)) ≤ a * a + b * b := by
  have h1 : 0 ≤ (a - b) * (a - b) := by
    rcases Int.le_total 0 (a - b) with h | h
    · exact Int.mul_nonneg h h
    · exact Int.mul_nonneg_of_nonpos_of_nonpos h h
  have h2 : 0 ≤ (a + b) * (a + b) := by
    rcases Int.le_total 0 (a + b) with h | h
    · exact Int.mul_nonneg h h
    · exact Int.mul_nonneg_of_nonpos_of_nonpos h h
  rw [Int.sub_mul, Int.mul_sub, Int.mul_sub, Int.mul_comm b a] at h1
  rw [Int.add_mul, Int.mul_add, Int.mul_add, Int.mul_comm b a] at h2
  omega
theorem acS_split (xs : List Int) (d k : Nat) : 2 * acS xs d k ≤ (acS xs 0 (d + k) - acS xs 0 d) + acS xs 0 k ∧ -(2 * acS xs d k) ≤ (acS xs 0 (d + k) - acS xs 0 d) + acS xs 0 k := by
  induction k with
  | zero => simp [acS]
  | succ k ih =>
    have := two_mul_le (xs.getD (d + k) 0) (xs.getD k 0)
    rw [show d + (k + 1) = (d + k) + 1 by omega]
    simp only [acS, Nat.zero_add]
    omega
theorem sq_nonneg (a : Int) : 0 ≤ a * a := by
  rcases Int.le_total 0 a with h | h
  · exact Int.mul_nonneg h h
  · exact Int.mul_nonneg_of_nonpos_of_nonpos h h
theorem acS_mono (xs : List Int) (k j : Nat) : acS xs 0 k ≤ acS xs 0 (k + j) := by
  induction j with
  | zero => simp
  | succ j ih =>
    have := sq_nonneg (xs.getD (k + j) 0)
    rw [show k + (j + 1) = (k + j) + 1 by omega]
    simp only [acS, Nat.zero_add]
    omega
theorem ac_le (xs : List Int) (d : Nat) : ac xs d ≤ ac xs 0 ∧ -ac xs d ≤ ac xs 0 := by
  unfold ac
  by_cases h : d ≤ xs.length
  · have h1 := acS_split xs d (xs.length - d)
    rw [show d + (xs.length - d) = xs.length by omega] at h1
    have h2 := acS_mono xs 0 d
    have h3 := acS_mono xs (xs.length - d) d
    rw [show xs.length - d + d = xs.length by omega] at h3
    simp only [acS, Nat.zero_add, Nat.sub_zero] at *
    omega
  · rw [show xs.length - d = 0 by omega]
    have h2 := acS_mono xs 0 xs.length
    simp only [acS, Nat.zero_add, Nat.sub_zero] at *
    omega

def sumN (f : Nat → Int) : Nat → Int
  | 0 => 0
  | k + 1 => sumN f k + f k
theorem acS_sum (xs : List Int) (d k : Nat) : acS xs d k = sumN (fun i => xs.getD (d + i) 0 * xs.getD i 0) k := by
  induction k with
  | zero => rfl
  | succ k ih => simp only [acS, sumN, ih]
theorem sumN_front (f : Nat → Int) (k : Nat) : sumN f (k + 1) = f 0 + sumN (fun i => f (i + 1)) k := by
  induction k with
  | zero => simp [sumN]
  | succ k ih => rw [sumN, ih, sumN]; omega
theorem sumN_congr {f g : Nat → Int} {k : Nat} (h : ∀ i, i < k → f i = g i) : sumN f k = sumN g k := by
  induction k with
  | zero => rfl
  | succ k ih => rw [sumN, sumN, ih (fun i hi => h i (by omega)), h k (by omega)]
theorem sumN_rev (f : Nat → Int) (k : Nat) : sumN (fun i => f (k - 1 - i)) k = sumN f k := by
  induction k with
  | zero => rfl
  | succ k ih =>
    rw [sumN_front, sumN]
    have : sumN (fun i => f (k + 1 - 1 - (i + 1))) k = sumN (fun i => f (k - 1 - i)) k := sumN_congr fun i hi => by congr 1; omega
    rw [this, ih]
    simp; omega
theorem rev_getD (xs : List Int) (i : Nat) (h : i < xs.length) : xs.reverse.getD i 0 = xs.getD (xs.length - 1 - i) 0 := by
  rw [List.getD_eq_getElem?_getD, List.getD_eq_getElem?_getD, List.getElem?_reverse h]
theorem ac_rev (xs : List Int) (d : Nat) : ac xs.reverse d = ac xs d := by
  unfold ac
  rw [List.length_reverse, acS_sum, acS_sum, ← sumN_rev (fun i => xs.getD (d + i) 0 * xs.getD i 0)]
  refine sumN_congr fun i hi => ?_
  rw [rev_getD xs (d + i) (by omega), rev_getD xs i (by omega), Int.mul_comm]
  rw [show xs.length - 1 - i = d + (xs.length - d - 1 - i) by omega, show xs.length - 1 - (d + i) = xs.length - d - 1 - i by omega]
theorem neg_getD (xs : List Int) (i : Nat) : (xs.map (fun x => -x)).getD i 0 = -(xs.getD i 0) := by
  rw [List.getD_eq_getElem?_getD, List.getD_eq_getElem?_getD, List.getElem?_map]
  cases xs[i]? <;> simp
theorem ac_neg (xs : List Int) (d : Nat) : ac (xs.map (fun x => -x)) d = ac xs d := by
  unfold ac
  rw [List.length_map, acS_sum, acS_sum]
  exact sumN_congr fun i _ => by rw [neg_getD, neg_getD, Int.neg_mul_neg]
theorem acL_rev (xs : List Int) (n : Nat) : acL xs.reverse n = acL xs n := by unfold acL; exact List.map_congr_left fun d _ => ac_rev xs d
theorem acL_neg (xs : List Int) (n : Nat) : acL (xs.map (fun x => -x)) n = acL xs n := by unfold acL; exact List.map_congr_left fun d _ => ac_neg xs d
theorem acL_get {xs : List Int} {n i : Nat} (h : i < n) : (acL xs n)[i]? = some (ac xs i) := by simp [acL, h]
theorem vS_rev (xs : List Int) : vS xs.reverse = vS xs := by unfold vS allB; rw [List.length_reverse, List.all_reverse]
theorem vS_neg (xs : List Int) : vS (xs.map (fun x => -x)) = vS xs := by
  unfold vS allB
  rw [List.length_map, List.all_map]
  congr 2
  funext x
  simp only [Function.comp, inB, decide_eq_decide]
  omega

/-! The draw. -/
def DrewLI (L : Nat) (w : World) (e : Ending) (w' : World) : Prop :=
  ∃ (ao : Option Addr) (len cap : Nat) (xs : List Int) (d : Int), e = .returned (.tuple #[.slice ao len cap, .int .i64 d]) ∧ len ≤ L ∧ len ≤ cap ∧ (ao = none → cap = 0) ∧ Ints w' ao len xs ∧ allB xs (-65537) 65537 = true ∧ w.grownBy w' none

set_option maxRecDepth 100000 in
set_option maxHeartbeats 2000000 in
theorem drawAuto_any (ao : Option Addr) (len cap : Nat) (w : World) (hb : BytesAt w ao len) (hlc : len ≤ cap) (hmax : len ≤ 9223372036854775807) :
    Calls Try.prog 15 #[.slice ao len cap] w (DrewLI 66 w) := by
  have hnew := newReader_any ao len cap w hb hlc hmax
  clear hb hlc hmax
  obtain ⟨r, hr⟩ : ∃ r, w.heap.size = r := ⟨_, rfl⟩
  go_enter Try.func15, Try.ntmps15
  go_wp2_with fail
  refine hnew.mono ?_
  rintro e w0 ⟨rfl, hR, hg0⟩
  rw [hr] at hR ⊢
  have HG0 := Lib.hid hg0
  have HRR := Lib.hid hr
  have hrl : r < w0.heap.size := hR.lt
  clear hnew hg0 hr
  go_wp2_with fail
  refine (anySamples_any r 0 _ hR (by omega)).mono ?_
  rintro e w1 ⟨v1, l1, xs, rfl, hl1, ho1, hb1, hR1, hg1⟩
  obtain ⟨a1, c1, rfl, hlc1, hn1, hx1, hab1⟩ := ho1.reads
  have HS : Hid (Ints w1 a1 l1 xs ∧ (a1 = none → c1 = 0) ∧ allB xs (-65537) 65537 = true ∧ w0.grownBy w1 (some r) ∧ ∀ a, a1 = some a → r < a.block) := ⟨hx1, hn1, hb1, hg1, fun a e => by have := (hab1 a e).1; omega⟩
  clear hR ho1 hb1 hg1 hn1 hx1 hab1
  go_wp2_with fail
  refine (one_at [0, 1, 2, 4, 8, 9, -1] _ r (0 + 200) _ _ w1 rfl hR1 (by omega) (by decide) (by decide)).mono ?_
  rintro e w2 ⟨d, _, rfl, hR2, hg2⟩
  have HF : Hid (Ints w2 a1 l1 xs ∧ allB xs (-65537) 65537 = true ∧ w.grownBy w2 none) := by
    obtain ⟨h1, h2, h3, h4, h5⟩ := HS.out
    exact ⟨h1.kept hg2 (fun a e h => by have := h5 a e; injection h with h; omega), h3, grown_new HG0.out (grown_trans h4 hg2) (by rw [HRR.out]; exact Nat.le_refl _)⟩
  clear hR1 hR2 hg2
  go_wp2
  go_ret2
  exact ⟨a1, l1, c1, xs, d, rfl, hl1, hlc1, HS.out.2.1, HF.out⟩

/-- The numbers times -1. -/
def negL (xs : List Int) : List Int := xs.map (fun x => -x)

set_option maxHeartbeats 1000000 in
theorem negated_any (xs : List Int) (ao : Option Addr) (len cap : Nat) (w : World) (hx : Ints w ao len xs) (hlen : len ≤ 1000) (hb : allB xs (-65537) 65537 = true) :
    Calls Try.prog 18 #[.slice ao len cap] w (Made (negL xs) len w) := by
  have HX := Lib.hid hx
  have HB := Lib.hid hb
  have HW : Hid (Owns (w.alloc (.cells #[] 3)) w.heap.size (.slice (some ⟨w.heap.size, 0, none⟩) 0 0) 0 (negL (xs.take 0)) ∧ w.grownBy (w.alloc (.cells #[] 3)) none) := ⟨by simpa [negL] using owns_empty w, grown_alloc _ _ _⟩
  clear hx hb
  go_enter Try.func18, Try.ntmps18
  go_wp2
  go_loopw [3, 4] (fun sv iv wr => ∃ (k : Nat) (bv : Value), bv = sv ∧ k ≤ len ∧ iv = .int .i64 k ∧ Hid (Owns wr w.heap.size bv k (negL (xs.take k)) ∧ w.grownBy wr none)) (fun _ iv _ => len - (intOf iv).toNat)
  case atStart => exact ⟨0, _, rfl, Nat.zero_le _, rfl, HW⟩
  case round =>
    obtain ⟨k, bv, rfl, hk, rfl, HR⟩ := hrel
    by_cases hlt : k < len
    · obtain ⟨x, hxk⟩ : ∃ x, xs[k]? = some x := ⟨_, List.getElem?_eq_getElem (by rw [HX.out.1]; exact hlt)⟩
      obtain ⟨b, off, rfl, hc⟩ := HX.out.2.resolve_left (by intro e; subst e; simp at hxk)
      have hcx : wr.cell? ⟨b, off + k, none⟩ = some (.int .i64 x) := HR.out.2.cell (hc k x hxk) (by simp)
      have hxr := allB_mem HB.out hxk
      have hx0 := hxr.1
      have hx1 := hxr.2
      obtain ⟨a1, c1, rfl, _, _, _, _⟩ := HR.out.1.reads
      have HT : Hid (negL (xs.take (k + 1)) = negL (xs.take k) ++ [-x]) := by show _ = _; unfold negL; rw [List.take_add_one, hxk]; simp
      clear hc hxk hxr
      go_wp2_with (at_builtin; refine append_ints rfl _ _ rfl w.heap.size (.slice a1 k c1) k (negL (xs.take k)) rfl (HR.out.1.grown (grown_alloc _ _ _)) (some ⟨wr.heap.size, 0, none⟩) 1 1 [-x] rfl (ints_one _ _ _) (fun e => nomatch e) ?a1 ?a2 ?_)
      case a1 => omega
      case a2 => have := HR.out.2.size; simp; omega
      intro v2 w2 hown hgrow
      have HN2 := own_step HR.out.1 (Nat.le_refl _) HR.out.2 hgrow hown
      rw [← HT.out] at HN2
      have HN3 := Lib.hid HN2
      clear hown hgrow HR HN2
      go_wp2
      go_roundw
      case rel => exact ⟨k + 1, v2, rfl, by omega, by go_num, HN3⟩
      case measure => simp [intOf]; omega
    · obtain rfl : k = len := by omega
      obtain ⟨a1, c1, rfl, _, _, _, _⟩ := HR.out.1.reads
      have HF : Hid (Owns wr w.heap.size (.slice a1 k c1) k (negL xs) ∧ w.grownBy wr none) := by
        have := HR.out
        rw [List.take_of_length_le (by rw [HX.out.1]; exact Nat.le_refl _)] at this
        exact this
      go_wp2
      go_ret
      exact ⟨_, rfl, HF.out⟩

set_option maxRecDepth 100000 in
set_option maxHeartbeats 4000000 in
theorem FnAutoCorrelation_walk (ao : Option Addr) (len cap : Nat) (w : World) (hb : BytesAt w ao len) (hlc : len ≤ cap) (hmax : len ≤ 9223372036854775807) :
    Calls Try.prog 5 #[.slice ao len cap] w (Holds w) := by
  by_cases hlen : 1048576 < len
  · clear hb
    go_enter Try.func5, Try.ntmps5
    go_wp2
    go_ret
    exact ⟨rfl, grown_refl _ _⟩
  have hd := drawAuto_any ao len cap w hb hlc hmax
  have hm : decide (1048576 < (len : Int)) = false := by simp; omega
  clear hb hlc hmax hlen
  go_enter Try.func5, Try.ntmps5
  go_wp2_with fail
  refine hd.mono ?_
  rintro e w1 ⟨a1, l1, c1, xs, m, rfl, hl1, hlc1, hn1, hx1, hb1, hg1⟩
  have HX := Lib.hid hx1
  have HN := Lib.hid hn1
  have HB := Lib.hid hb1
  have HG1 := Lib.hid hg1
  clear hd hn1 hx1 hb1 hg1
  obtain ⟨ys, n, hn, HS, HI, HY⟩ := auto_both xs m l1 (by omega)
  go_wp2_with fail
  refine (HI.out a1 c1 _ HX.out hlc1 HN.out).mono ?_
  rintro e w2 ⟨v2, rfl, ho2, hg2⟩
  obtain ⟨a2, c2, rfl, _, _, hx2, _⟩ := ho2.reads
  have HX2 := Lib.hid hx2
  have HXb := Lib.hid (HX.out.grown hg2)
  have HG2 := Lib.hid (grown_trans HG1.out hg2)
  clear ho2 hg2 hx2 HX
  go_wp2_with fail
  refine (HS.out a1 c1 _ HXb.out hlc1 HN.out).mono ?_
  rintro e w3 ⟨v3, rfl, ho3, hg3⟩
  obtain ⟨a3, c3, rfl, _, _, hx3, _⟩ := ho3.reads
  have HX3 := Lib.hid hx3
  have HX2b := Lib.hid (HX2.out.grown hg3)
  have HXc := Lib.hid (HXb.out.grown hg3)
  have HG3 := Lib.hid (grown_trans HG2.out hg3)
  clear ho3 hg3 hx3 HXb HX2
  go_wp2_with fail
  refine (equalInts_any ys ys a2 a3 n c2 n c3 true _ HX2b.out HX3.out (by omega) (by simp)).mono ?_
  rintro e w4 ⟨rfl, hg4⟩
  have HX2d := Lib.hid (HX2b.out.grown hg4)
  have HXd := Lib.hid (HXc.out.grown hg4)
  have HG4 := Lib.hid (grown_trans HG3.out hg4)
  clear hg4 HX2b HXc HX3
  by_cases hn0 : n = 0
  · have hz : ((n : Int) == 0) = true := by simp; omega
    have hz2 : decide (n = 0) = true := by simpa using hn0
    clear hn0
    go_wp2_with fail
    refine (HS.out a1 c1 _ HXd.out hlc1 HN.out).mono ?_
    rintro e w5 ⟨v5, rfl, ho5, hg5⟩
    obtain ⟨a5, c5, rfl, _, _, hx5, _⟩ := ho5.reads
    have HX5 := Lib.hid hx5
    have HX2e := Lib.hid (HX2d.out.grown hg5)
    have HG5 := Lib.hid (grown_trans HG4.out hg5)
    clear ho5 hg5 hx5
    go_wp2_with fail
    refine (equalInts_any ys ys a2 a5 n c2 n c5 true _ HX2e.out HX5.out (by omega) (by simp)).mono ?_
    rintro e w6 ⟨rfl, hg6⟩
    have HG6 := Lib.hid (grown_trans HG5.out hg6)
    clear hg6
    go_wp2
    go_ret
    exact ⟨rfl, HG6.out⟩
  · have hz : ((n : Int) == 0) = false := by simp; omega
    have hpos : 0 < n := by omega
    obtain ⟨hy1, hy2⟩ := HY.out
    have hok : acOk xs m = true := by
      cases h : acOk xs m with
      | true => rfl
      | false => exfalso; unfold acN at hy2; rw [h] at hy2; simp at hy2; omega
    have hN : n = m.toNat + 1 := by rw [hy2]; unfold acN; rw [hok]; rfl
    have hv : vS xs = true ∧ inB m 0 8 = true := by unfold acOk at hok; simpa using hok
    have hmm : 0 ≤ m ∧ m ≤ 8 := by simpa [inB] using hv.2
    have hm1 : m + 1 = (n : Int) := by omega
    have hall := vS_all hv.1
    obtain ⟨b, off, rfl, hc⟩ := HX2d.out.2.resolve_left (by intro e; have := HX2d.out.1; rw [e] at this; simp at this; omega)
    have HC : Hid (∀ i, i < n → ∃ z : Int, w4.cell? ⟨b, off + i, none⟩ = some (.int .i64 z) ∧ z = ac xs i) := fun i hi => ⟨ac xs i, hc i _ (by rw [hy1]; exact acL_get hi), rfl⟩
    obtain ⟨z0, hc0, hz0⟩ := HC.out 0 hpos
    have hr0 := acS_range hall 0 (xs.length - 0)
    have hl64 := vS_len hv.1
    have hz00 : -300000000000 ≤ z0 ∧ z0 ≤ 300000000000 := by rw [hz0]; unfold ac; omega
    have hz01 := hz00.1
    have hz02 := hz00.2
    have HZ0 := Lib.hid hz0
    have HM1 := Lib.hid hm1
    have hm0 := hmm.1
    have hm8 := hmm.2
    have hn9 : n ≤ 9 := by omega
    rw [Nat.add_zero] at hc0
    clear hz hn0 hy1 hy2 hok hN hv hmm hm1 hall hc hz0 hr0 hl64 hz00 HXd HX2d HS HI
    go_wp2
    go_loopw [6] (fun iv wr => ∃ k q : Nat, k ≤ n ∧ iv = .int .i64 k ∧ wr = w4.drewN q) (fun iv _ => n - (intOf iv).toNat)
    case atStart => exact ⟨0, 0, Nat.zero_le _, rfl, rfl⟩
    case round =>
      obtain ⟨k, q, hk, rfl, rfl⟩ := hrel
      by_cases hlt : k < n
      · obtain ⟨z, hcz, hz⟩ := HC.out k hlt
        have hle := ac_le xs k
        rw [← hz, ← HZ0.out] at hle
        have hle1 := hle.1
        have hle2 := hle.2
        have hd1 : decide (z0 < z) = false := by simp; omega
        have hd2 : decide (z0 < -z) = false := by simp; omega
        have hw : IntKind.i64.wrap (-z) = -z := IntWalk.i64_in _ (by omega)
        clear hz hle
        go_wp2
        go_quiet (fail)
        clear hw
        go_wp2
        go_roundw
        case rel => exact ⟨k + 1, q + nq, by omega, by go_num, rfl⟩
        case measure => simp [intOf]; omega
      · have hz3 : ((n : Int) == m + 1) = true := by simp; exact HM1.out.symm
        go_wp2
        go_ret
        exact ⟨by first | rfl | (rw [HM1.out]; simp), grown_trans HG4.out (grown_drewN _ _ _)⟩

theorem acOk_rev (xs : List Int) (m : Int) : acOk xs.reverse m = acOk xs m := by unfold acOk; rw [vS_rev]
theorem acOk_neg (xs : List Int) (m : Int) : acOk (negL xs) m = acOk xs m := by unfold acOk negL; rw [vS_neg]
theorem acN_rev (xs : List Int) (m : Int) : acN xs.reverse m = acN xs m := by unfold acN; rw [acOk_rev]
theorem acN_neg (xs : List Int) (m : Int) : acN (negL xs) m = acN xs m := by unfold acN; rw [acOk_neg]
/-- The last k numbers, backwards. -/
def backL (xs : List Int) (k : Nat) : List Int := xs.reverse.take k
theorem backL_snoc {xs : List Int} {k : Nat} {x : Int} (h : k < xs.length) (hx : xs[xs.length - 1 - k]? = some x) : backL xs (k + 1) = backL xs k ++ [x] := by
  unfold backL
  rw [List.take_add_one, List.getElem?_reverse h, hx]; rfl

set_option maxRecDepth 100000 in
set_option maxHeartbeats 4000000 in
theorem FnAutoCorrelationNegated_walk (ao : Option Addr) (len cap : Nat) (w : World) (hb : BytesAt w ao len) (hlc : len ≤ cap) (hmax : len ≤ 9223372036854775807) :
    Calls Try.prog 6 #[.slice ao len cap] w (Holds w) := by
  by_cases hlen : 1048576 < len
  · clear hb
    go_enter Try.func6, Try.ntmps6
    go_wp2
    go_ret
    exact ⟨rfl, grown_refl _ _⟩
  have hd := drawAuto_any ao len cap w hb hlc hmax
  have hm : decide (1048576 < (len : Int)) = false := by simp; omega
  clear hb hlc hmax hlen
  go_enter Try.func6, Try.ntmps6
  go_wp2_with fail
  refine hd.mono ?_
  rintro e w1 ⟨a1, l1, c1, xs, m, rfl, hl1, hlc1, hn1, hx1, hb1, hg1⟩
  have HX := Lib.hid hx1
  have HN := Lib.hid hn1
  have HB := Lib.hid hb1
  have HG1 := Lib.hid hg1
  clear hd hn1 hx1 hb1 hg1
  obtain ⟨ys, n, hn, HS, HI, HY⟩ := auto_both xs m l1 (by omega)
  go_wp2_with fail
  refine (HI.out a1 c1 _ HX.out hlc1 HN.out).mono ?_
  rintro e w2 ⟨v2, rfl, ho2, hg2⟩
  obtain ⟨a2, c2, rfl, _, _, hx2, _⟩ := ho2.reads
  have HX2 := Lib.hid hx2
  have HXb := Lib.hid (HX.out.grown hg2)
  have HG2 := Lib.hid (grown_trans HG1.out hg2)
  clear ho2 hg2 hx2 HX
  go_wp2_with fail
  refine (HS.out a1 c1 _ HXb.out hlc1 HN.out).mono ?_
  rintro e w3 ⟨v3, rfl, ho3, hg3⟩
  obtain ⟨a3, c3, rfl, _, _, hx3, _⟩ := ho3.reads
  have HX3 := Lib.hid hx3
  have HX2b := Lib.hid (HX2.out.grown hg3)
  have HXc := Lib.hid (HXb.out.grown hg3)
  have HG3 := Lib.hid (grown_trans HG2.out hg3)
  clear ho3 hg3 hx3 HXb HX2
  go_wp2_with fail
  refine (equalInts_any ys ys a2 a3 n c2 n c3 true _ HX2b.out HX3.out (by omega) (by simp)).mono ?_
  rintro e w4 ⟨rfl, hg4⟩
  have HX2d := Lib.hid (HX2b.out.grown hg4)
  have HXd := Lib.hid (HXc.out.grown hg4)
  have HG4 := Lib.hid (grown_trans HG3.out hg4)
  clear hg4 HX2b HXc HX3
  have hl := HXd.out.1
  have HW : Hid (Owns (w4.alloc (.cells #[] 3)) w4.heap.size (.slice (some ⟨w4.heap.size, 0, none⟩) 0 0) 0 (backL xs 0) ∧ w4.grownBy (w4.alloc (.cells #[] 3)) none) := ⟨by simpa [backL] using owns_empty w4, grown_alloc _ _ _⟩
  have HL := Lib.hid hl
  clear hl
  go_wp2
  go_loopw [6, 7] (fun sv iv wr => ∃ (k j : Nat) (bv : Value), bv = sv ∧ k + j = l1 ∧ iv = .int .i64 ((j : Int) - 1) ∧ Hid (Owns wr w4.heap.size bv k (backL xs k) ∧ w4.grownBy wr none)) (fun _ iv _ => (intOf iv + 1).toNat)
  case atStart => exact ⟨0, l1, _, rfl, by omega, rfl, HW⟩
  case round =>
    obtain ⟨k, j, bv, rfl, hkj, rfl, HR⟩ := hrel
    cases j with
    | succ j =>
      rw [show ((j + 1 : Nat) : Int) - 1 = (j : Int) by omega] at *
      have hjl : j < l1 := by omega
      obtain ⟨x, hxk⟩ : ∃ x, xs[j]? = some x := ⟨_, List.getElem?_eq_getElem (by rw [HL.out]; omega)⟩
      obtain ⟨b, off, rfl, hc⟩ := HXd.out.2.resolve_left (by intro e; subst e; simp at hxk)
      have hcx : wr.cell? ⟨b, off + j, none⟩ = some (.int .i64 x) := HR.out.2.cell (hc j x hxk) (by simp)
      obtain ⟨a5, c5, rfl, _, _, _, _⟩ := HR.out.1.reads
      have HT : Hid (backL xs (k + 1) = backL xs k ++ [x]) := backL_snoc (by rw [HL.out]; omega) (by rw [HL.out, show l1 - 1 - k = j by omega]; exact hxk)
      clear hc hxk
      go_wp2_with (at_builtin; refine append_ints rfl _ _ rfl w4.heap.size (.slice a5 k c5) k (backL xs k) rfl (HR.out.1.grown (grown_alloc _ _ _)) (some ⟨wr.heap.size, 0, none⟩) 1 1 [x] rfl (ints_one _ _ _) (fun e => nomatch e) ?a1 ?a2 ?_)
      case a1 => omega
      case a2 => have := HR.out.2.size; simp; omega
      intro v2 w5 hown hgrow
      have HN2 := own_step HR.out.1 (Nat.le_refl _) HR.out.2 hgrow hown
      rw [← HT.out] at HN2
      have HN3 := Lib.hid HN2
      clear hown hgrow HR HN2
      go_wp2
      go_roundw
      case rel => exact ⟨k + 1, j, v2, rfl, by omega, rfl, HN3⟩
      case measure => simp [intOf]
    | zero =>
      obtain rfl : k = l1 := by omega
      rw [show ((0 : Nat) : Int) - 1 = -1 by rfl] at *
      obtain ⟨a5, c5, rfl, hlc5, hn5, hx5, _⟩ := HR.out.1.reads
      have hbk : backL xs k = xs.reverse := by unfold backL; exact List.take_of_length_le (by simp [HL.out])
      rw [hbk] at hx5
      have HX5 := Lib.hid hx5
      have HN5 := Lib.hid hn5
      have HX6 := Lib.hid (HXd.out.grown HR.out.2)
      have HX7 := Lib.hid (HX2d.out.grown HR.out.2)
      have HG5 := Lib.hid (grown_trans HG4.out HR.out.2)
      clear hx5 hn5 hbk HR HXd HX2d
      go_wp2_with fail
      refine (negated_any xs a1 k c1 _ HX6.out (by omega) HB.out).mono ?_
      rintro e w6 ⟨v6, rfl, ho6, hg6⟩
      obtain ⟨a6, c6, rfl, hlc6, hn6, hx6, _⟩ := ho6.reads
      have HY6 := Lib.hid hx6
      have HN6 := Lib.hid hn6
      have HX5b := Lib.hid (HX5.out.grown hg6)
      have HX7b := Lib.hid (HX7.out.grown hg6)
      have HG6 := Lib.hid (grown_trans HG5.out hg6)
      clear ho6 hg6 hx6 hn6 HX5 HX7
      obtain ⟨ys2, n2, hn2, _, HI2, HY2⟩ := auto_both (negL xs) m k (by omega)
      have e2 : ys2 = ys ∧ n2 = n := by
        obtain ⟨h1, h2⟩ := HY.out
        obtain ⟨h3, h4⟩ := HY2.out
        rw [acN_neg, ← h2] at h4
        subst h4
        rw [h3, h1]
        exact ⟨acL_neg xs n2, rfl⟩
      obtain ⟨rfl, rfl⟩ := e2
      go_wp2_with fail
      refine (HI2.out a6 c6 _ HY6.out hlc6 HN6.out).mono ?_
      rintro e w7 ⟨v7, rfl, ho7, hg7⟩
      obtain ⟨a7, c7, rfl, _, _, hx7, _⟩ := ho7.reads
      have HZ7 := Lib.hid hx7
      have HX5c := Lib.hid (HX5b.out.grown hg7)
      have HX7c := Lib.hid (HX7b.out.grown hg7)
      have HG7 := Lib.hid (grown_trans HG6.out hg7)
      clear ho7 hg7 hx7 HX5b HX7b
      go_wp2_with fail
      refine (equalInts_any ys2 ys2 a7 a2 n2 c7 n2 c2 true _ HZ7.out HX7c.out (by omega) (by simp)).mono ?_
      rintro e w8 ⟨rfl, hg8⟩
      have HX5d := Lib.hid (HX5c.out.grown hg8)
      have HX7d := Lib.hid (HX7c.out.grown hg8)
      have HG8 := Lib.hid (grown_trans HG7.out hg8)
      clear hg8 HX5c HX7c
      obtain ⟨ys3, n3, hn3, _, HI3, HY3⟩ := auto_both xs.reverse m k (by omega)
      have e3 : ys3 = ys2 ∧ n3 = n2 := by
        obtain ⟨h1, h2⟩ := HY.out
        obtain ⟨h3, h4⟩ := HY3.out
        rw [acN_rev, ← h2] at h4
        subst h4
        rw [h3, h1]
        exact ⟨acL_rev xs n3, rfl⟩
      obtain ⟨rfl, rfl⟩ := e3
      go_wp2_with fail
      refine (HI3.out a5 c5 _ HX5d.out hlc5 HN5.out).mono ?_
      rintro e w9 ⟨v9, rfl, ho9, hg9⟩
      obtain ⟨a9, c9, rfl, _, _, hx9, _⟩ := ho9.reads
      have HZ9 := Lib.hid hx9
      have HX7e := Lib.hid (HX7d.out.grown hg9)
      have HG9 := Lib.hid (grown_trans HG8.out hg9)
      clear ho9 hg9 hx9 HX7d
      go_wp2_with fail
      refine (equalInts_any ys3 ys3 a9 a2 n3 c9 n3 c2 true _ HZ9.out HX7e.out (by omega) (by simp)).mono ?_
      rintro e w10 ⟨rfl, hg10⟩
      have HG10 := Lib.hid (grown_trans HG9.out hg10)
      clear hg10
      go_wp2
      go_ret
      exact ⟨rfl, HG10.out⟩

end Go.Proofs.Ytgciofmpnpimcaa
