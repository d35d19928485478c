/-
  Wasted bits of both texts, for all arguments.
-/
import Derived.Test.YtikblehndmikoaaDoorTz
import Derived.OwnWalk
namespace Go.Proofs.YtikblehndmikoaaDoor
open Go.RowKit

/-- The sum of absolute values. -/
def absI (x : Int) : Int := if x < 0 then -x else x
def absL (xs : List Int) : Int := (xs.map absI).sum
theorem absI_nonneg (x : Int) : 0 ≤ absI x := by unfold absI; split <;> omega
theorem absL_nonneg (xs : List Int) : 0 ≤ absL xs := by
  unfold absL
  induction xs with
  | nil => simp
  | cons x xs ih => rw [List.map_cons, List.sum_cons]; have := absI_nonneg x; omega
theorem absL_zero (xs : List Int) : absL xs = 0 ↔ zeroL xs = true := by
  induction xs with
  | nil => simp [absL, zeroL]
  | cons x xs ih =>
    have h1 := absI_nonneg x
    have h2 := absL_nonneg xs
    have e : absL (x :: xs) = absI x + absL xs := by unfold absL; rw [List.map_cons, List.sum_cons]
    have e2 : zeroL (x :: xs) = (decide (x = 0) && zeroL xs) := by unfold zeroL; rw [List.all_cons]
    rw [e, e2, Bool.and_eq_true, decide_eq_true_eq, ← ih]
    unfold absI at *
    constructor
    · intro h; split at h <;> (constructor <;> omega)
    · rintro ⟨rfl, h⟩; simp [h]
theorem absL_take {xs : List Int} {k : Nat} {x : Int} (h : xs[k]? = some x) : absL (xs.take (k + 1)) = absL (xs.take k) + absI x := by
  unfold absL; rw [List.take_add_one, h]; simp
theorem absL_le {xs : List Int} (ha : allB xs (-65536) 65536 = true) : absL xs ≤ 65536 * (xs.length : Int) := by
  induction xs with
  | nil => simp [absL]
  | cons x xs ih =>
    have h1 : inB x (-65536) 65536 = true ∧ allB xs (-65536) 65536 = true := by simpa [allB] using ha
    have h2 : -65536 ≤ x ∧ x ≤ 65536 := by simpa [inB] using h1.1
    have e : absL (x :: xs) = absI x + absL xs := by unfold absL; rw [List.map_cons, List.sum_cons]
    have := ih h1.2
    rw [e, List.length_cons, Int.natCast_succ]
    unfold absI; split <;> omega

set_option maxHeartbeats 400000 in
theorem sDist_any (x : Int) (w : World) (h0 : -65536 ≤ x) (h1 : x ≤ 65536) :
    Calls Tryd.prog 40 #[.int .i64 x] w fun e w' => e = .returned (.int .i64 (absI x)) ∧ w = w' := by
  by_cases h : x < 0
  · have hd : decide (x < 0) = true := by simpa using h
    have e : absI x = -x := by unfold absI; rw [if_pos h]
    rw [e]
    go_enter Tryd.func40, Tryd.ntmps40
    go_wp2
    go_ret
    exact ⟨rfl, rfl⟩
  · have hd : decide (x < 0) = false := by simpa using h
    have e : absI x = x := by unfold absI; rw [if_neg h]
    rw [e]
    go_enter Tryd.func40, Tryd.ntmps40
    go_wp2
    go_ret
    exact ⟨rfl, rfl⟩

set_option maxHeartbeats 1000000 in
theorem sWeight_any (xs : List Int) (n : Nat) (ao : Option Addr) (cap : Nat) (w : World) (hx : Ints w ao n xs) (hn : n ≤ 64) (ha : allB xs (-65536) 65536 = true) :
    Calls Tryd.prog 38 #[.slice ao n cap] w fun e w' => e = .returned (.int .i64 (absL xs)) ∧ w = w' := by
  have HX := Lib.hid hx
  have HA := Lib.hid ha
  clear hx ha
  go_enter Tryd.func38, Tryd.ntmps38
  go_wp2
  go_loop [3, 4] (fun u i => ∃ (k : Nat) (z : Int), k ≤ n ∧ i = .int .i64 k ∧ u = .int .i64 z ∧ Hid (absL (xs.take k) = z)) (fun _ i => n - (intOf i).toNat)
  case atStart => exact ⟨0, 0, Nat.zero_le _, rfl, rfl, rfl⟩
  case round =>
    obtain ⟨k, z, hk, rfl, rfl, hz⟩ := hrel
    by_cases hlt : k < n
    · obtain ⟨x, hxk⟩ : ∃ x, xs[k]? = some x := ⟨_, List.getElem?_eq_getElem (by rw [HX.out.1]; exact hlt)⟩
      obtain ⟨b, off, rfl, hc⟩ := HX.out.2.resolve_left (by intro e; subst e; simp at hxk)
      have hcx := hc k x hxk
      have hxr := allB_mem HA.out hxk
      have hx0 := hxr.1
      have hx1 := hxr.2
      have hz0 : 0 ≤ z := by rw [← hz.out]; exact absL_nonneg _
      have hz1 : z ≤ 4194304 := by
        have := absL_le (allB_prefix HA.out k)
        rw [hz.out, List.length_take] at this
        have := Nat.min_le_left k xs.length
        omega
      have a0 := absI_nonneg x
      have a1 : absI x ≤ 65536 := by unfold absI; split <;> omega
      have HZ : Hid (absL (xs.take (k + 1)) = z + absI x) := by show _ = _; rw [absL_take hxk, hz.out]
      obtain ⟨y, hy⟩ : ∃ y, absI x = y := ⟨_, rfl⟩
      have KD : Hid (∀ W : World, Calls Tryd.prog 40 #[.int .i64 x] W fun e w' => e = .returned (.int .i64 y) ∧ W = w') := fun W => by have := sDist_any x W hx0 hx1; rw [hy] at this; exact this
      rw [hy] at a0 a1 HZ
      clear hc hxk hxr hy
      go_wp2_with fail
      refine (KD.out _).mono ?_
      rintro e w' ⟨rfl, rfl⟩
      clear KD
      go_wp2
      go_round
      case rel => exact ⟨k + 1, z + y, by omega, by go_num, rfl, HZ⟩
      case measure => simp [intOf]; omega
    · have HF : Hid (absL xs = z) := by show _ = _; have := hz.out; rwa [List.take_of_length_le (by rw [HX.out.1]; omega)] at this
      go_wp2
      go_ret
      exact ⟨ret_int HF.out.symm, rfl⟩

theorem sEven_at (xs : List Int) (k n : Nat) (ao : Option Addr) (cap : Nat) (w : World) (hx : Ints w ao n xs) (hn : n ≤ 64) (ha : allB xs (-65536) 65536 = true) (hk : k ≤ 19) :
    Calls Tryd.prog 39 #[.slice ao n cap, .int .i64 (k : Int)] w fun e w' => e = .returned (.bool (evenL (k + 1) xs)) ∧ w.grownBy w' none := by
  have := sEven_any xs (k + 1) n ao cap w hx hn ha (by omega) (by omega)
  rwa [show (((k + 1 : Nat) : Int) - 1) = (k : Int) by omega] at this

set_option maxHeartbeats 1000000 in
theorem sWasted_any (xs : List Int) (n : Nat) (ao : Option Addr) (cap : Nat) (w : World) (hx : Ints w ao n xs) (hn : n ≤ 64) (ha : allB xs (-65536) 65536 = true) :
    Calls Tryd.prog 27 #[.slice ao n cap] w fun e w' => e = .returned (.int .i64 (wbs xs : Int)) ∧ w.grownBy w' none := by
  have HX := Lib.hid hx
  have HA := Lib.hid ha
  have kw := sWeight_any xs n ao cap w hx hn ha
  have h16 := wbs_le ha
  have hab := absL_zero xs
  clear hx ha
  cases hz : zeroL xs with
  | true =>
    have e : absL xs = 0 := hab.2 hz
    have e2 : wbs xs = 0 := by unfold wbs; rw [if_pos hz]
    rw [e] at kw
    rw [e2]
    clear hab e e2 hz h16
    go_enter Tryd.func27, Tryd.ntmps27
    go_wp2_with fail
    refine kw.mono ?_
    rintro e w' ⟨rfl, rfl⟩
    clear kw
    go_wp2
    go_ret
    exact ⟨rfl, grown_refl _ _⟩
  | false =>
    have hne : absL xs ≠ 0 := fun e => by rw [hab.1 e] at hz; cases hz
    have HI : Hid (∀ s, s ≤ 60 → (evenL s xs = true ↔ s ≤ wbs xs)) := fun s hs => wbs_iff HA.out hz hs
    obtain ⟨z, hzz⟩ : ∃ z, absL xs = z := ⟨_, rfl⟩
    rw [hzz] at kw hne
    have hb : (z == 0) = false := by simpa using hne
    generalize wbs xs = c at *
    clear hab hz hzz hne
    go_enter Tryd.func27, Tryd.ntmps27
    go_wp2_with fail
    refine kw.mono ?_
    rintro e w' ⟨rfl, rfl⟩
    clear kw
    go_wp2
    go_loopw [3] (fun iv wr => ∃ k : Nat, k ≤ c ∧ iv = .int .i64 k ∧ Hid (w.grownBy wr none)) (fun iv _ => c - (intOf iv).toNat)
    case atStart => exact ⟨0, Nat.zero_le _, rfl, grown_refl _ _⟩
    case round =>
      obtain ⟨k, hk, rfl, HG⟩ := hrel
      cases he : evenL (k + 1) xs with
      | true =>
        have hk1 : k + 1 ≤ c := (HI.out _ (by omega)).1 he
        go_wp2_with fail
        refine (sEven_at xs k n ao cap wr (HX.out.grown HG.out) hn HA.out (by omega)).mono ?_
        rintro e w2 ⟨rfl, hg2⟩
        rw [he]
        have HG2 := Lib.hid (grown_trans HG.out hg2)
        clear he hg2 HG
        go_wp2
        go_roundw
        case rel => exact ⟨k + 1, hk1, by go_num, HG2⟩
        case measure => simp [intOf]; omega
      | false =>
        have HKC : Hid (k = c) := by
          show k = c
          have : ¬ (k + 1 ≤ c) := fun h => by rw [(HI.out _ (by omega)).2 h] at he; cases he
          omega
        go_wp2_with fail
        refine (sEven_at xs k n ao cap wr (HX.out.grown HG.out) hn HA.out (by omega)).mono ?_
        rintro e w2 ⟨rfl, hg2⟩
        rw [he]
        have HG2 := Lib.hid (grown_trans HG.out hg2)
        clear he hg2 HG
        have hkc := HKC.out
        subst hkc
        go_wp2
        go_ret
        exact ⟨rfl, HG2.out⟩

/-- What both texts answer. -/
def wbI (xs : List Int) : Int := if vS xs then (wbs xs : Int) else -1

set_option maxHeartbeats 1000000 in
theorem sWB_any (xs : List Int) (ao : Option Addr) (len cap : Nat) (w : World) (hx : Ints w ao len xs) (hmax : len ≤ 4611686018427387904) :
    Calls Tryd.prog 9 #[.slice ao len cap] w fun e w' => e = .returned (.int .i64 (wbI xs)) ∧ w.grownBy w' none := by
  have k0 := sValidSamples_any xs ao len cap w (vS xs) hx hmax rfl
  unfold wbI
  cases b0 : vS xs with
  | false =>
    rw [b0] at k0
    clear b0 hx
    go_enter Tryd.func9, Tryd.ntmps9
    go_wp2_with fail
    refine k0.mono ?_
    rintro e w' ⟨rfl, rfl⟩
    clear k0
    go_wp2
    go_ret
    exact ⟨rfl, grown_refl _ _⟩
  | true =>
    rw [b0] at k0
    have k1 := sWasted_any xs len ao cap w hx (by rw [← hx.1]; exact vS_len b0) (vS_all b0)
    rw [if_pos rfl]
    generalize (wbs xs : Int) = z at *
    clear b0 hx
    go_enter Tryd.func9, Tryd.ntmps9
    go_wp2_with fail
    refine k0.mono ?_
    rintro e w' ⟨rfl, rfl⟩
    clear k0
    go_wp2_with fail
    refine k1.mono ?_
    rintro e w1 ⟨rfl, hg⟩
    have HG := Lib.hid hg
    clear k1 hg
    go_wp2
    go_ret
    exact ⟨rfl, HG.out⟩

set_option maxHeartbeats 1000000 in
theorem iWB_any (xs : List Int) (ao : Option Addr) (len cap : Nat) (w : World) (hx : Ints w ao len xs) (hmax : len ≤ 4611686018427387904) (hT : Tab64 w) :
    Calls Tryd.prog 8 #[.slice ao len cap] w fun e w' => e = .returned (.int .i64 (wbI xs)) ∧ w.grownBy w' none := by
  have k0 := iValidSamples_any xs ao len cap w (vS xs) hx hmax rfl
  unfold wbI
  cases b0 : vS xs with
  | false =>
    rw [b0] at k0
    clear b0 hx hT
    go_enter Tryd.func8, Tryd.ntmps8
    go_wp2_with fail
    refine k0.mono ?_
    rintro e w' ⟨rfl, rfl⟩
    clear k0
    go_wp2
    go_ret
    exact ⟨rfl, grown_refl _ _⟩
  | true =>
    rw [b0] at k0
    have hl64 : len ≤ 64 := by rw [← hx.1]; exact vS_len b0
    have k1 := usedBits_any xs len ao cap w hx hl64
    have ha := vS_all b0
    rw [if_pos rfl]
    cases hz : zeroL xs with
    | true =>
      rw [orL_zero hz] at k1
      have e2 : wbs xs = 0 := by unfold wbs; rw [if_pos hz]
      rw [e2]
      clear b0 hx hT hz e2 ha
      go_enter Tryd.func8, Tryd.ntmps8
      go_wp2_with fail
      refine k0.mono ?_
      rintro e w' ⟨rfl, rfl⟩
      clear k0
      go_wp2_with fail
      refine k1.mono ?_
      rintro e w' ⟨rfl, rfl⟩
      clear k1
      go_wp2
      go_ret
      exact ⟨rfl, grown_refl _ _⟩
    | false =>
      obtain ⟨x, hx1, hx2, hx3, _⟩ := orL_nat ha hz
      have hu : IntKind.u64.wrap (orL xs) = (x : Int) := by rw [IntKind.wrap_u64]; exact hx1
      have hne : orL xs ≠ 0 := fun e => by rw [e] at hx1; simp at hx1; omega
      have k2 := tz_any x w hx3 hx2 hT
      have e2 : wbs xs = Lib.ctz 64 x := by unfold wbs; rw [hz, hx1]; simp
      rw [e2]
      generalize Lib.ctz 64 x = c at *
      generalize orL xs = u at *
      have hb : (u == 0) = false := by simpa using hne
      clear b0 hx hT hz e2 ha hx1 hne
      go_enter Tryd.func8, Tryd.ntmps8
      go_wp2_with fail
      refine k0.mono ?_
      rintro e w' ⟨rfl, rfl⟩
      clear k0
      go_wp2_with fail
      refine k1.mono ?_
      rintro e w' ⟨rfl, rfl⟩
      clear k1
      go_wp2_with fail
      refine k2.mono ?_
      rintro e w' ⟨rfl, rfl⟩
      clear k2
      go_wp2
      go_ret
      exact ⟨rfl, grown_refl _ _⟩

end Go.Proofs.YtikblehndmikoaaDoor
