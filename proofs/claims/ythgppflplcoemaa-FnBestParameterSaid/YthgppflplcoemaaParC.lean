/-
  The costs of a partition and the best of them, the specification's text.
-/
import Derived.Test.YthgppflplcoemaaPar2
namespace Go.Proofs.Ythgppflplcoemaa
open Go.RowKit

set_option maxHeartbeats 800000 in
theorem sPartLen_any (xs : List Int) (k n : Nat) (z : Int) (ao : Option Addr) (cap : Nat) (w : World) (hx : Ints w ao n xs) (hv : vR xs = true) (hk : k ≤ 15) (hz : pc xs k = z) :
    Calls Try.prog 27 #[.slice ao n cap, .int .i64 (k : Int)] w fun e w' => e = .returned (.int .i64 z) ∧ ∃ q, w' = w.drewN q := by
  have hl := hx.1
  have hn : n ≤ 64 := by have := vR_len hv; omega
  by_cases h15 : k = 15
  · subst h15
    obtain ⟨m, hm⟩ : ∃ m, mxw xs = m := ⟨_, rfl⟩
    have KW := Lib.hid (rawWidth_any xs n m ao cap w hx hn (vR_all hv) hm)
    have h2 : m ≤ 23 := by rw [← hm]; exact mxw_le xs 0 (by omega) (vR_all hv)
    have hmm := mxw_mul hv
    rw [pc_esc, hm, hl] at hz
    rw [hm, hl] at hmm
    obtain ⟨q, hq⟩ : ∃ q : Int, (n : Int) * (m : Int) = q := ⟨_, rfl⟩
    rw [hq] at hz hmm
    have hq0 := hmm.1
    have hq1 := hmm.2
    have HZ := Lib.hid hz
    clear hx hv hl hm hz hmm
    go_enter Try.func27, Try.ntmps27
    go_wp2_with fail
    refine KW.out.mono ?_
    rintro e w' ⟨rfl, q2, rfl⟩
    clear KW
    go_wp2
    go_ret
    exact ⟨ret_int (by rw [← HZ.out]), q2, rfl⟩
  · have hk15 : ((k : Int) == 15) = false := by simp; omega
    by_cases hvr : vrL k xs = true
    · have KR := Lib.hid (riceSum_any xs k n (rlS k xs) ao cap w hx hn (by rw [hvr]; rfl))
      have h0 := rlS_pos k xs hvr
      have h1 := (rlS_range k xs).2
      rw [hl] at h1
      rw [pc_good h15 hvr] at hz
      obtain ⟨q, hq⟩ : ∃ q, rlS k xs = q := ⟨_, rfl⟩
      rw [hq] at KR h0 h1 hz
      have hd : decide (q < 0) = false := by simp; omega
      have HZ := Lib.hid hz
      clear hx hv hl hz hvr hq
      go_enter Try.func27, Try.ntmps27
      go_wp2_with fail
      refine KR.out.mono ?_
      rintro e w' ⟨rfl, rfl⟩
      clear KR
      go_wp2
      go_ret
      exact ⟨ret_int (by rw [← HZ.out]), 0, rfl⟩
    · have hvr2 : vrL k xs = false := by simpa using hvr
      have KR := Lib.hid (riceSum_any xs k n (-1) ao cap w hx hn (by rw [hvr2]; rfl))
      rw [pc_bad h15 hvr2] at hz
      subst hz
      clear hx hv hl hvr hvr2
      go_enter Try.func27, Try.ntmps27
      go_wp2_with fail
      refine KR.out.mono ?_
      rintro e w' ⟨rfl, rfl⟩
      clear KR
      go_wp2
      go_ret
      exact ⟨rfl, 0, rfl⟩

set_option maxHeartbeats 1000000 in
theorem sbestParameter_any (xs : List Int) (n b : Nat) (ao : Option Addr) (cap : Nat) (w : World) (hx : Ints w ao n xs) (hv : vR xs = true) (hb : Bst (pc xs) 16 b) :
    Calls Try.prog 19 #[.slice ao n cap] w fun e w' => e = .returned (.tuple #[.int .i64 (b : Int), .int .i64 (pc xs b)]) ∧ ∃ q, w' = w.drewN q := by
  obtain ⟨z15, hz15⟩ : ∃ z, pc xs 15 = z := ⟨_, rfl⟩
  have K0 := Lib.hid (sPartLen_any xs 15 n z15 ao cap w hx hv (by omega) hz15)
  have h15 : 0 ≤ pc xs 15 := by rw [pc_esc]; have := mxw_mul hv; omega
  have HI : Hid (Dst (pc xs) 15 15 ∧ pc xs 15 = z15) := ⟨dst_last h15, hz15⟩
  have HX := Lib.hid hx
  have HV := Lib.hid hv
  have HB := Lib.hid hb
  clear hx hv hb hz15 h15
  go_enter Try.func19, Try.ntmps19
  go_wp2_with fail
  refine K0.out.mono ?_
  rintro e w' ⟨rfl, q0, rfl⟩
  clear K0
  go_wp2
  go_loopw [4, 5, 6] (fun u l i wr => ∃ (j c q : Nat) (z : Int), j ≤ 15 ∧ i = .int .i64 ((j : Int) - 1) ∧ u = .int .i64 c ∧ l = .int .i64 z ∧ wr = w.drewN q ∧ Hid (Dst (pc xs) j c ∧ pc xs c = z)) (fun _ _ i _ => (intOf i + 1).toNat)
  case atStart => exact ⟨15, 15, q0, z15, Nat.le_refl _, rfl, rfl, rfl, rfl, HI⟩
  case round =>
    clear HI
    obtain ⟨j, c, q1, z, hj, rfl, rfl, rfl, rfl, HD⟩ := hrel
    cases j with
    | zero =>
      have HF : Hid (c = b) := bst_uniq (dst_bst HD.out.1) HB.out
      have HF2 : Hid (pc xs b = z) := by show _ = _; rw [← HF.out]; exact HD.out.2
      clear HD HB
      go_wp2
      go_ret2
      exact ⟨by rw [HF.out, HF2.out]; rfl, q1, rfl⟩
    | succ j =>
      obtain ⟨q, hq⟩ : ∃ q, pc xs j = q := ⟨_, rfl⟩
      have KP := Lib.hid (sPartLen_any xs j n q ao cap (w.drewN q1) (HX.out.grown (grown_drewN _ _ _)) HV.out (by omega) hq)
      have hi : (((j + 1 : Nat) : Int) - 1) = (j : Int) := by omega
      have HQ := Lib.hid hq
      rw [hi]
      clear hq hi
      by_cases h0 : 0 ≤ q
      · have d0 : decide (0 ≤ q) = true := by simpa using h0
        by_cases h1 : q ≤ z
        · have d1 : decide (q ≤ z) = true := by simpa using h1
          have HN : Hid (Dst (pc xs) j j ∧ pc xs j = q) := ⟨dst_new HD.out.1 (by rw [HQ.out]; exact h0) (by rw [HQ.out, HD.out.2]; exact h1), HQ.out⟩
          clear HD HQ
          go_wp2_with fail
          refine KP.out.mono ?_
          rintro e w' ⟨rfl, m2, rfl⟩
          clear KP
          go_wp2
          go_roundw
          case rel => exact ⟨j, j, q1 + m2, q, by omega, by go_num, rfl, rfl, by first | rfl | simp, HN⟩
          case measure => simp [intOf]
        · have d1 : decide (q ≤ z) = false := by simpa using h1
          have HN : Hid (Dst (pc xs) j c ∧ pc xs c = z) := ⟨dst_old HD.out.1 (Or.inr (by rw [HQ.out, HD.out.2]; omega)), HD.out.2⟩
          clear HD HQ
          go_wp2_with fail
          refine KP.out.mono ?_
          rintro e w' ⟨rfl, m2, rfl⟩
          clear KP
          go_wp2
          go_roundw
          case rel => exact ⟨j, c, q1 + m2, z, by omega, by go_num, rfl, rfl, by first | rfl | simp, HN⟩
          case measure => simp [intOf]
      · have d0 : decide (0 ≤ q) = false := by simpa using h0
        have HN : Hid (Dst (pc xs) j c ∧ pc xs c = z) := ⟨dst_old HD.out.1 (Or.inl (by rw [HQ.out]; omega)), HD.out.2⟩
        clear HD HQ
        go_wp2_with fail
        refine KP.out.mono ?_
        rintro e w' ⟨rfl, m2, rfl⟩
        clear KP
        go_wp2
        go_roundw
        case rel => exact ⟨j, c, q1 + m2, z, by omega, by go_num, rfl, rfl, by first | rfl | simp, HN⟩
        case measure => simp [intOf]

end Go.Proofs.Ythgppflplcoemaa
