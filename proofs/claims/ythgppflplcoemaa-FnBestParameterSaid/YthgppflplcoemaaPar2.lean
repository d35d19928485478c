/-
  The parameters of a partition, the specification's text: widths, sums of Rice codes, costs, the best of them.
-/
import Derived.Test.YthgppflplcoemaaParL
namespace Go.Proofs.Ythgppflplcoemaa
open Go.RowKit

set_option maxHeartbeats 800000 in
theorem riceSum_any (xs : List Int) (k n : Nat) (z : Int) (ao : Option Addr) (cap : Nat) (w : World) (hx : Ints w ao n xs) (hn : n ≤ 64) (hz : (if vrL k xs then rlS k xs else -1) = z) :
    Calls Try.prog 32 #[.slice ao n cap, .int .i64 (k : Int)] w fun e w' => e = .returned (.int .i64 z) ∧ w = w' := by
  have HX := Lib.hid hx
  have HZ := Lib.hid hz
  clear hx hz
  go_enter Try.func32, Try.ntmps32
  go_wp2
  go_loop [5, 6] (fun u i => ∃ (j : Nat) (s : Int), j ≤ n ∧ i = .int .i64 j ∧ u = .int .i64 s ∧ Hid (vrL k (xs.take j) = true ∧ rlS k (xs.take j) = s)) (fun _ i => n - (intOf i).toNat)
  case atStart => exact ⟨0, 0, Nat.zero_le _, rfl, rfl, ⟨rfl, rfl⟩⟩
  case round =>
    obtain ⟨j, s, hj, rfl, rfl, hs⟩ := hrel
    by_cases hlt : j < n
    · obtain ⟨x, hxj⟩ : ∃ x, xs[j]? = some x := ⟨_, List.getElem?_eq_getElem (by rw [HX.out.1]; exact hlt)⟩
      obtain ⟨b, off, rfl, hc⟩ := HX.out.2.resolve_left (by intro e; subst e; simp at hxj)
      have hcx := hc j x hxj
      have hsr := rlS_range k (xs.take j)
      rw [hs.out.2, List.length_take] at hsr
      have hm := Nat.min_le_left j xs.length
      have hs0 : -64 ≤ s := by omega
      have hs1 : s ≤ 32960 := by omega
      by_cases hv : Vr x k = true
      · have KV := Lib.hid (validRice_any x k true w hv)
        have hy0 := Vr_Rl hv
        have hy2 := Rl_le2 x k
        obtain ⟨y, hy⟩ : ∃ y, Rl x k = y := ⟨_, rfl⟩
        have KL := Lib.hid (sRiceLength x k y w hy)
        have HS : Hid (vrL k (xs.take (j + 1)) = true ∧ rlS k (xs.take (j + 1)) = s + y) := ⟨by rw [vrL_take hxj, hs.out.1, hv]; rfl, by rw [rlS_take hxj, hs.out.2, hy]⟩
        rw [hy] at hy0 hy2
        have hy1 := hy2.2
        clear hc hxj hsr hm hv hy hy2 hs HZ
        go_wp2_with fail
        refine KV.out.mono ?_
        rintro e w' ⟨rfl, rfl⟩
        clear KV
        go_wp2_with fail
        refine KL.out.mono ?_
        rintro e w' ⟨rfl, rfl⟩
        clear KL
        go_wp2
        go_round
        case rel => exact ⟨j + 1, s + y, by omega, by go_num, rfl, HS⟩
        case measure => simp [intOf]; omega
      · have hv2 : Vr x k = false := by simpa using hv
        have KV := Lib.hid (validRice_any x k false w hv2)
        have HF : Hid (z = -1) := by show _ = _; rw [← HZ.out, vrL_no hxj hv2]; rfl
        clear hc hxj hsr hm hv hv2 hs HZ
        go_wp2_with fail
        refine KV.out.mono ?_
        rintro e w' ⟨rfl, rfl⟩
        clear KV
        go_wp2
        go_ret
        exact ⟨ret_int HF.out.symm, rfl⟩
    · have HF : Hid (z = s) := by
        show _ = _
        have h1 := hs.out
        rw [List.take_of_length_le (by rw [HX.out.1]; omega)] at h1
        rw [← HZ.out, h1.1, ← h1.2]; rfl
      clear hs HZ
      go_wp2
      go_ret
      exact ⟨ret_int HF.out.symm, rfl⟩

set_option maxHeartbeats 1000000 in
theorem rawWidth_any (xs : List Int) (n m : Nat) (ao : Option Addr) (cap : Nat) (w : World) (hx : Ints w ao n xs) (hn : n ≤ 64) (ha : allB xs (-4194303) 4194303 = true) (hm : mxw xs = m) :
    Calls Try.prog 31 #[.slice ao n cap] w fun e w' => e = .returned (.int .i64 (m : Int)) ∧ ∃ q, w' = w.drewN q := by
  have HX := Lib.hid hx
  have HA := Lib.hid ha
  have HM := Lib.hid hm
  clear hx ha hm
  go_enter Try.func31, Try.ntmps31
  go_wp2
  go_loopw [3, 4] (fun u i wr => ∃ (k z q : Nat), k ≤ n ∧ i = .int .i64 k ∧ u = .int .i64 z ∧ z ≤ 23 ∧ wr = w.drewN q ∧ Hid (mxw (xs.take k) = z)) (fun _ i _ => n - (intOf i).toNat)
  case atStart => exact ⟨0, 0, 0, Nat.zero_le _, rfl, rfl, by omega, rfl, rfl⟩
  case round =>
    obtain ⟨k, z, q0, hk, rfl, rfl, hz23, rfl, hz⟩ := hrel
    by_cases hlt : k < n
    · obtain ⟨x, hxk⟩ : ∃ x, xs[k]? = some x := ⟨_, List.getElem?_eq_getElem (by rw [HX.out.1]; exact hlt)⟩
      obtain ⟨b, off, rfl, hc⟩ := HX.out.2.resolve_left (by intro e; subst e; simp at hxk)
      have hcx := hc k x hxk
      have hxr := allB_mem HA.out hxk
      have hx0 := hxr.1
      have hx1 := hxr.2
      have hwl := wid_le hx0 hx1
      obtain ⟨y, hy⟩ : ∃ y, wid x = y := ⟨_, rfl⟩
      have HS : Hid (mxw (xs.take (k + 1)) = max z y) := by show _ = _; rw [mxw_take hxk, hz.out, hy]
      have HY := Lib.hid hy
      rw [hy] at hwl
      clear hc hxk hxr hz hy HM
      go_wp2
      go_loopw [3] (fun u wr => ∃ v q : Nat, u = .int .i64 v ∧ z ≤ v ∧ v ≤ max z y ∧ wr = w.drewN q) (fun u _ => 31 - (intOf u).toNat)
      case atStart => exact ⟨z, q0, rfl, Nat.le_refl _, by omega, rfl⟩
      case round =>
        obtain ⟨v, q1, rfl, hv0, hv1, rfl⟩ := hrel
        have hv31 : v < 31 := by omega
        by_cases hd : y ≤ v
        · have KF := Lib.hid (fun W : World => fitsSigned_any x v true W hx0 hx1 (by omega) (decide_eq_true (by rw [HY.out]; exact hd)))
          have hd31 : (v : Int) < 31 := by omega
          go_wp2_with fail
          refine (KF.out _).mono ?_
          rintro e w' ⟨rfl, m2, rfl⟩
          clear KF
          go_wp2
          go_roundw
          case rel => exact ⟨k + 1, v, q1 + m2, by omega, by go_num, rfl, by omega, by first | rfl | simp, by show _ = _; rw [HS.out]; omega⟩
          case measure => simp [intOf]; omega
        · have KF := Lib.hid (fun W : World => fitsSigned_any x v false W hx0 hx1 (by omega) (decide_eq_false (by rw [HY.out]; exact hd)))
          have hd31 : (v : Int) < 31 := by omega
          go_wp2_with fail
          refine (KF.out _).mono ?_
          rintro e w' ⟨rfl, m2, rfl⟩
          clear KF
          go_wp2
          go_roundw
          case rel => exact ⟨v + 1, q1 + m2, by go_num, by omega, by omega, by first | rfl | simp⟩
          case measure => simp [intOf]; omega
    · have HF : Hid (m = z) := by show _ = _; have := hz.out; rw [List.take_of_length_le (by rw [HX.out.1]; omega)] at this; rw [← this]; exact HM.out.symm
      clear HM hz
      go_wp2
      go_ret
      exact ⟨ret_int (by rw [HF.out]), _, rfl⟩

end Go.Proofs.Ythgppflplcoemaa
