/-
  The parameters of a partition: BestParameter of the specification; widths, costs and BestParameter of the program.
-/
import Derived.Test.YthgppflplcoemaaParC
namespace Go.Proofs.Ythgppflplcoemaa
open Go.RowKit

set_option maxHeartbeats 400000 in
theorem sVR_any (xs : List Int) (ao : Option Addr) (len cap : Nat) (w : World) (v : Bool) (hx : Ints w ao len xs) (hmax : len ≤ 4611686018427387904) (hv : vR xs = v) :
    Calls Try.prog 18 #[.slice ao len cap] w fun e w' => e = .returned (.bool v) ∧ w = w' := by
  subst hv
  have hl := hx.1
  by_cases h : len ≤ 64
  · have k := allIn_any xs (-4194303) 4194303 ao len cap w hx (by omega)
    have hv : vR xs = allB xs (-4194303) 4194303 := by unfold vR; simp [hl, h]
    rw [hv]
    have hd : decide ((len : Int) ≤ 64) = true := by simp; omega
    clear hv hl hx h
    generalize allB xs (-4194303) 4194303 = b at *
    go_enter Try.func18, Try.ntmps18
    go_wp2_with fail
    refine k.mono ?_
    rintro e w' ⟨rfl, rfl⟩
    clear k
    go_wp2
    go_ret
    exact ⟨rfl, rfl⟩
  · have hv : vR xs = false := by unfold vR; simp [hl, h]
    rw [hv]
    have hd : decide ((len : Int) ≤ 64) = false := by simp; omega
    clear hv hl hx h
    go_enter Try.func18, Try.ntmps18
    go_wp2
    go_ret
    exact ⟨rfl, rfl⟩

set_option maxHeartbeats 400000 in
theorem iVR_any (xs : List Int) (ao : Option Addr) (len cap : Nat) (w : World) (v : Bool) (hx : Ints w ao len xs) (hmax : len ≤ 4611686018427387904) (hv : vR xs = v) :
    Calls Try.prog 14 #[.slice ao len cap] w fun e w' => e = .returned (.bool v) ∧ w = w' := by
  subst hv
  have hl := hx.1
  by_cases h : len ≤ 64
  · have k := iAllIn_any xs (-4194303) 4194303 ao len cap w _ hx (by omega) rfl
    have hv : vR xs = allB xs (-4194303) 4194303 := by unfold vR; simp [hl, h]
    rw [hv]
    have hd : decide ((len : Int) ≤ 64) = true := by simp; omega
    clear hv hl hx h
    generalize allB xs (-4194303) 4194303 = b at *
    go_enter Try.func14, Try.ntmps14
    go_wp2_with fail
    refine k.mono ?_
    rintro e w' ⟨rfl, rfl⟩
    clear k
    go_wp2
    go_ret
    exact ⟨rfl, rfl⟩
  · have hv : vR xs = false := by unfold vR; simp [hl, h]
    rw [hv]
    have hd : decide ((len : Int) ≤ 64) = false := by simp; omega
    clear hv hl hx h
    go_enter Try.func14, Try.ntmps14
    go_wp2
    go_ret
    exact ⟨rfl, rfl⟩

/-- What BestParameter gives. -/
def BpR (xs : List Int) (k l : Int) : Prop := (vR xs = false ∧ k = -1 ∧ l = -1) ∨ (vR xs = true ∧ ∃ b : Nat, k = (b : Int) ∧ Bst (pc xs) 16 b ∧ l = pc xs b)
theorem pc15 {xs : List Int} (hv : vR xs = true) : 0 ≤ pc xs 15 := by rw [pc_esc]; have := mxw_mul hv; omega
theorem BpR_some (xs : List Int) : ∃ k l, BpR xs k l := by
  cases hv : vR xs with
  | false => exact ⟨_, _, Or.inl ⟨hv, rfl, rfl⟩⟩
  | true =>
    obtain ⟨b, hb⟩ := bst_there (pc15 hv)
    exact ⟨_, _, Or.inr ⟨hv, b, rfl, hb, rfl⟩⟩

set_option maxHeartbeats 400000 in
theorem sBP_any (xs : List Int) (ao : Option Addr) (len cap : Nat) (k l : Int) (w : World) (hx : Ints w ao len xs) (hmax : len ≤ 4611686018427387904) (h : BpR xs k l) :
    Calls Try.prog 8 #[.slice ao len cap] w fun e w' => e = .returned (.tuple #[.int .i64 k, .int .i64 l]) ∧ w.grownBy w' none := by
  rcases h with ⟨hv, rfl, rfl⟩ | ⟨hv, b, rfl, hb, rfl⟩
  · have K := Lib.hid (sVR_any xs ao len cap w false hx hmax hv)
    clear hx hv
    go_enter Try.func8, Try.ntmps8
    go_wp2_with fail
    refine K.out.mono ?_
    rintro e w' ⟨rfl, rfl⟩
    clear K
    go_wp2
    go_ret2
    exact ⟨rfl, grown_refl _ _⟩
  · have K := Lib.hid (sVR_any xs ao len cap w true hx hmax hv)
    have KB := Lib.hid (sbestParameter_any xs len b ao cap w hx hv hb)
    obtain ⟨z, hz⟩ : ∃ z, pc xs b = z := ⟨_, rfl⟩
    rw [hz] at KB ⊢
    clear hx hv hb hz
    go_enter Try.func8, Try.ntmps8
    go_wp2_with fail
    refine K.out.mono ?_
    rintro e w' ⟨rfl, rfl⟩
    clear K
    go_wp2_with fail
    refine KB.out.mono ?_
    rintro e w' ⟨rfl, q, rfl⟩
    clear KB
    go_wp2
    go_ret2
    exact ⟨rfl, grown_drewN _ _ _⟩

set_option maxHeartbeats 1000000 in
theorem widthOf_any (xs : List Int) (n m : Nat) (ao : Option Addr) (cap : Nat) (w : World) (hx : Ints w ao n xs) (hn : n ≤ 64) (ha : allB xs (-4194303) 4194303 = true) (hm : mxw xs = m) :
    Calls Try.prog 25 #[.slice ao n cap] w fun e w' => e = .returned (.int .i64 (m : Int)) ∧ w = w' := by
  have HX := Lib.hid hx
  have HA := Lib.hid ha
  have HM := Lib.hid hm
  clear hx ha hm
  go_enter Try.func25, Try.ntmps25
  go_wp2
  go_loop [3, 8] (fun u i => ∃ (k z : Nat), k ≤ n ∧ i = .int .i64 k ∧ u = .int .i64 z ∧ z ≤ 23 ∧ Hid (mxw (xs.take k) = z)) (fun _ i => n - (intOf i).toNat)
  case atStart => exact ⟨0, 0, Nat.zero_le _, rfl, rfl, by omega, rfl⟩
  case round =>
    obtain ⟨k, z, hk, rfl, rfl, hz23, hz⟩ := hrel
    by_cases hlt : k < n
    · obtain ⟨x, hxk⟩ : ∃ x, xs[k]? = some x := ⟨_, List.getElem?_eq_getElem (by rw [HX.out.1]; exact hlt)⟩
      obtain ⟨b, off, rfl, hc⟩ := HX.out.2.resolve_left (by intro e; subst e; simp at hxk)
      have hcx := hc k x hxk
      have hxr := allB_mem HA.out hxk
      have hzz := zz_range hxr.1 hxr.2
      have hZz : Zz x = ((zz x).toNat : Int) := by unfold Zz; rw [if_neg (by omega)]; omega
      have hwl := wid_le hxr.1 hxr.2
      obtain ⟨y, hy⟩ : ∃ y, wid x = y := ⟨_, rfl⟩
      obtain ⟨t, ht⟩ : ∃ t, (zz x).toNat = t := ⟨_, rfl⟩
      have ht1 : t < 8388608 := by omega
      rw [ht] at hZz
      have KZ := Lib.hid (iZigzag x t w hZz)
      have KL := Lib.hid (iLen t y w ht1 (by rw [← ht]; exact hy))
      have HS : Hid (mxw (xs.take (k + 1)) = max z y) := by show _ = _; rw [mxw_take hxk, hz.out, hy]
      rw [hy] at hwl
      have hwu : IntKind.u64.wrap (t : Int) = (t : Int) := by rw [IntKind.wrap_u64]; omega
      clear hc hxk hxr hz hy HM hzz hZz ht
      by_cases hd : y ≤ z
      · have hmx : max z y = z := by omega
        rw [hmx] at HS
        clear hmx
        go_wp2_with fail
        refine KZ.out.mono ?_
        rintro e w' ⟨rfl, rfl⟩
        clear KZ
        go_wp2_with fail
        refine KL.out.mono ?_
        rintro e w' ⟨rfl, rfl⟩
        clear KL
        go_wp2
        go_round
        case rel => exact ⟨k + 1, z, by omega, by go_num, congrArg (Value.int IntKind.i64) (by omega), by omega, HS⟩
        case measure => simp [intOf]; omega
      · have hmx : max z y = y := by omega
        rw [hmx] at HS
        clear hmx
        go_wp2_with fail
        refine KZ.out.mono ?_
        rintro e w' ⟨rfl, rfl⟩
        clear KZ
        go_wp2_with fail
        refine KL.out.mono ?_
        rintro e w' ⟨rfl, rfl⟩
        clear KL
        go_wp2
        go_round
        case rel => exact ⟨k + 1, y, by omega, by go_num, congrArg (Value.int IntKind.i64) (by omega), by omega, HS⟩
        case measure => simp [intOf]; omega
    · have HF : Hid (m = z) := by show _ = _; have := hz.out; rw [List.take_of_length_le (by rw [HX.out.1]; omega)] at this; rw [← this]; exact HM.out.symm
      clear HM hz
      go_wp2
      go_ret
      exact ⟨ret_int (by rw [HF.out]), rfl⟩

set_option maxHeartbeats 1000000 in
theorem iPB_good (xs : List Int) (k n : Nat) (z : Int) (ao : Option Addr) (cap : Nat) (w : World) (hx : Ints w ao n xs) (hn : n ≤ 64) (hk : k ≤ 14) (hv : vrL k xs = true) (hz : 4 + rlS k xs = z) :
    Calls Try.prog 17 #[.slice ao n cap, .int .i64 (k : Int)] w fun e w' => e = .returned (.tuple #[.int .i64 z, .bool true]) ∧ w = w' := by
  have HX := Lib.hid hx
  have HZ := Lib.hid hz
  have HV := Lib.hid hv
  have hk15 : ((k : Int) == 15) = false := by simp; omega
  clear hx hz hv
  go_enter Try.func17, Try.ntmps17
  go_wp2
  clear hk15
  go_loop [6, 20] (fun u i => ∃ (j : Nat) (s : Int), j ≤ n ∧ i = .int .i64 j ∧ u = .int .i64 s ∧ Hid (4 + rlS k (xs.take j) = s)) (fun _ i => n - (intOf i).toNat)
  case atStart => exact ⟨0, 4, Nat.zero_le _, rfl, rfl, rfl⟩
  case round =>
    obtain ⟨j, s, hj, rfl, rfl, hs⟩ := hrel
    by_cases hlt : j < n
    · obtain ⟨x, hxj⟩ : ∃ x, xs[j]? = some x := ⟨_, List.getElem?_eq_getElem (by rw [HX.out.1]; exact hlt)⟩
      obtain ⟨b, off, rfl, hc⟩ := HX.out.2.resolve_left (by intro e; subst e; simp at hxj)
      have hcx := hc j x hxj
      have hsr := rlS_range k (xs.take j)
      rw [List.length_take] at hsr
      have hm := Nat.min_le_left j xs.length
      have hs2 := hs.out
      have hs0 : -64 ≤ s := by omega
      have hs1 : s ≤ 32964 := by omega
      have hvx : Vr x k = true := by
        have := HV.out; unfold vrL at this; rw [List.all_eq_true] at this; exact this x (List.mem_of_getElem? hxj)
      have hy0 := Vr_Rl hvx
      have hy2 := Rl_le2 x k
      obtain ⟨y, hy⟩ : ∃ y, Rl x k = y := ⟨_, rfl⟩
      have KL := Lib.hid (iRiceLength x k y w hy)
      have HS : Hid (4 + rlS k (xs.take (j + 1)) = s + y) := by show _ = _; rw [rlS_take hxj, hy]; omega
      rw [hy] at hy0 hy2
      have hy1 := hy2.2
      have hd : decide (y < 0) = false := by simp; omega
      clear hc hxj hsr hm hvx hy hy2 hs hs2 HZ HV
      go_wp2_with fail
      refine KL.out.mono ?_
      rintro e w' ⟨rfl, rfl⟩
      clear KL
      go_wp2
      go_round
      case rel => exact ⟨j + 1, s + y, by omega, by go_num, rfl, HS⟩
      case measure => simp [intOf]; omega
    · have HF : Hid (s = z) := by
        show _ = _
        have h1 := hs.out
        rw [List.take_of_length_le (by rw [HX.out.1]; omega)] at h1
        rw [← h1]; exact HZ.out
      clear hs HZ HV
      go_wp2
      go_ret2
      exact ⟨by rw [HF.out]; rfl, rfl⟩
set_option maxHeartbeats 1000000 in
theorem iPB_bad (xs : List Int) (k n : Nat) (ao : Option Addr) (cap : Nat) (w : World) (hx : Ints w ao n xs) (hn : n ≤ 64) (hk : k ≤ 14) (hv : vrL k xs = false) :
    Calls Try.prog 17 #[.slice ao n cap, .int .i64 (k : Int)] w fun e w' => e = .returned (.tuple #[.int .i64 0, .bool false]) ∧ w = w' := by
  have HX := Lib.hid hx
  have HV := Lib.hid hv
  have hk15 : ((k : Int) == 15) = false := by simp; omega
  clear hx hv
  go_enter Try.func17, Try.ntmps17
  go_wp2
  clear hk15
  go_loop [6, 20] (fun u i => ∃ (j : Nat) (s : Int), j ≤ n ∧ i = .int .i64 j ∧ u = .int .i64 s ∧ Hid (vrL k (xs.take j) = true ∧ 4 + rlS k (xs.take j) = s)) (fun _ i => n - (intOf i).toNat)
  case atStart => exact ⟨0, 4, Nat.zero_le _, rfl, rfl, ⟨rfl, rfl⟩⟩
  case round =>
    obtain ⟨j, s, hj, rfl, rfl, hs⟩ := hrel
    by_cases hlt : j < n
    · obtain ⟨x, hxj⟩ : ∃ x, xs[j]? = some x := ⟨_, List.getElem?_eq_getElem (by rw [HX.out.1]; exact hlt)⟩
      obtain ⟨b, off, rfl, hc⟩ := HX.out.2.resolve_left (by intro e; subst e; simp at hxj)
      have hcx := hc j x hxj
      by_cases hvx : Vr x k = true
      · have hsr := rlS_range k (xs.take j)
        rw [List.length_take] at hsr
        have hm := Nat.min_le_left j xs.length
        have hs2 := hs.out.2
        have hs0 : -64 ≤ s := by omega
        have hs1 : s ≤ 32964 := by omega
        have hy0 := Vr_Rl hvx
        have hy2 := Rl_le2 x k
        obtain ⟨y, hy⟩ : ∃ y, Rl x k = y := ⟨_, rfl⟩
        have KL := Lib.hid (iRiceLength x k y w hy)
        have HS : Hid (vrL k (xs.take (j + 1)) = true ∧ 4 + rlS k (xs.take (j + 1)) = s + y) := ⟨by rw [vrL_take hxj, hs.out.1, hvx]; rfl, by rw [rlS_take hxj, hy]; omega⟩
        rw [hy] at hy0 hy2
        have hy1 := hy2.2
        have hd : decide (y < 0) = false := by simp; omega
        clear hc hxj hsr hm hvx hy hy2 hs hs2 HV
        go_wp2_with fail
        refine KL.out.mono ?_
        rintro e w' ⟨rfl, rfl⟩
        clear KL
        go_wp2
        go_round
        case rel => exact ⟨j + 1, s + y, by omega, by go_num, rfl, HS⟩
        case measure => simp [intOf]; omega
      · have KL := Lib.hid (iRiceLength x k (-1) w (Vr_no (by simpa using hvx)))
        clear hc hxj hvx hs HV
        go_wp2_with fail
        refine KL.out.mono ?_
        rintro e w' ⟨rfl, rfl⟩
        clear KL
        go_wp2
        go_ret2
        exact ⟨rfl, rfl⟩
    · exfalso
      have h1 := hs.out.1
      rw [List.take_of_length_le (by rw [HX.out.1]; omega), HV.out] at h1
      cases h1
set_option maxHeartbeats 1000000 in
theorem iPB_esc (xs : List Int) (n : Nat) (z : Int) (ao : Option Addr) (cap : Nat) (w : World) (hx : Ints w ao n xs) (hv : vR xs = true) (hz : pc xs 15 = z) :
    Calls Try.prog 17 #[.slice ao n cap, .int .i64 15] w fun e w' => e = .returned (.tuple #[.int .i64 z, .bool true]) ∧ w = w' := by
  have hl := hx.1
  have hn : n ≤ 64 := by have := vR_len hv; omega
  obtain ⟨m, hm⟩ : ∃ m, mxw xs = m := ⟨_, rfl⟩
  have KW := Lib.hid (widthOf_any xs n m ao cap w hx hn (vR_all hv) hm)
  have h2 : m ≤ 23 := by rw [← hm]; exact mxw_le xs 0 (by omega) (vR_all hv)
  have hmm := mxw_mul hv
  rw [pc_esc, hm, hl] at hz
  rw [hm, hl] at hmm
  obtain ⟨q, hq⟩ : ∃ q : Int, (n : Int) * (m : Int) = q := ⟨_, rfl⟩
  rw [hq] at hz hmm
  have hq0 := hmm.1
  have hq1 := hmm.2
  have HZ := Lib.hid hz
  clear hx hv hl hm hz hmm
  go_enter Try.func17, Try.ntmps17
  go_wp2_with fail
  refine KW.out.mono ?_
  rintro e w' ⟨rfl, rfl⟩
  clear KW
  go_wp2
  go_ret2
  exact ⟨by rw [← HZ.out]; rfl, rfl⟩

end Go.Proofs.Ythgppflplcoemaa
