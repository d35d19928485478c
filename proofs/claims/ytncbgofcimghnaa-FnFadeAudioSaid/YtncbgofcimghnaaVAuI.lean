/-
  Valid audio: what the program says, for all channels that can be read.
-/
import Derived.Test.YtncbgofcimghnaaVAu
namespace Go.Proofs.Ytncbgofcimghnaa
open Go.RowKit

theorem ints_one_b (w : World) (x : Int) (t : TypeId) (B : Nat) (h : w.heap.size = B) : Ints (w.alloc (.cells #[.int .i64 x] t)) (some ⟨B, 0, none⟩) 1 [x] := by
  subst h; exact ints_one w x t
theorem iIn1 (x lo hi : Int) (b : Bool) (w : World) (B : Nat) (hB : w.heap.size = B) (hv : inB x lo hi = b) :
    Calls Try.prog 39 #[.int .i64 lo, .int .i64 hi, .slice (some ⟨B, 0, none⟩) 1 1] (w.alloc (.cells #[.int .i64 x] 3)) fun e w' => e = .returned (.bool b) ∧ w.alloc (.cells #[.int .i64 x] 3) = w' :=
  iAllIn_any [x] lo hi (some ⟨B, 0, none⟩) 1 1 _ b (ints_one_b w x _ B hB) (by omega) (by rw [← hv]; simp [allB])

set_option maxRecDepth 100000 in
set_option maxHeartbeats 2000000 in
theorem iVAu_any (xss : List (List Int)) (ao : Option Addr) (len cap : Nat) (r d : Int) (w : World) (v : Bool) (hx : Mat w ao len xss) (hs : szL xss ≤ 1048576) (hv : vAu r d xss = v) :
    Calls Try.prog 26 #[.agg #[.int .i64 r, .int .i64 d, .slice ao len cap]] w fun e w' => e = .returned (.bool v) ∧ w.grownBy w' none := by
  subst hv
  have hl := hx.1
  have hlen : len ≤ 1048576 := by unfold szL at hs; omega
  cases h1 : inB r 1 999999 with
  | false =>
    rw [vAu_no1 h1]
    clear hx hs hl
    go_enter Try.func26, Try.ntmps26
    go_wp2_with fail
    refine (iIn1 r 1 999999 _ _ _ (by simp) h1).mono ?_
    rintro e w' ⟨rfl, rfl⟩
    go_wp2
    go_ret
    exact ⟨rfl, grown_trans (grown_alloc _ _ _) (grown_alloc _ _ _)⟩
  | true =>
  cases h2 : inB d 4 16 with
  | false =>
    rw [vAu_no2 h2]
    clear hx hs hl
    go_enter Try.func26, Try.ntmps26
    go_wp2_with fail
    refine (iIn1 r 1 999999 _ _ _ (by simp) h1).mono ?_
    rintro e w' ⟨rfl, rfl⟩
    go_wp2_with fail
    refine (iIn1 d 4 16 _ _ _ (by simp) h2).mono ?_
    rintro e w' ⟨rfl, rfl⟩
    go_wp2
    go_ret
    exact ⟨rfl, grown_trans (grown_trans (grown_alloc _ _ _) (grown_alloc _ _ _)) (grown_alloc _ _ _)⟩
  | true =>
  by_cases h3 : ¬ (1 ≤ len ∧ len ≤ 2)
  · have h3b : inB (len : Int) 1 2 = false := inB_false (by omega)
    rw [vAu_no3 (by rw [hl]; exact h3)]
    clear hx hs hl h3
    go_enter Try.func26, Try.ntmps26
    go_wp2_with fail
    refine (iIn1 r 1 999999 _ _ _ (by simp) h1).mono ?_
    rintro e w' ⟨rfl, rfl⟩
    go_wp2_with fail
    refine (iIn1 d 4 16 _ _ _ (by simp) h2).mono ?_
    rintro e w' ⟨rfl, rfl⟩
    go_wp2_with fail
    refine (iIn1 (len : Int) 1 2 _ _ _ (by simp) h3b).mono ?_
    rintro e w' ⟨rfl, rfl⟩
    go_wp2
    go_ret
    exact ⟨rfl, grown_trans (grown_trans (grown_trans (grown_alloc _ _ _) (grown_alloc _ _ _)) (grown_alloc _ _ _)) (grown_alloc _ _ _)⟩
  have h3 := Classical.not_not.1 h3
  have h3b : inB (len : Int) 1 2 = true := inB_true (by omega) (by omega)
  have hd16 : 4 ≤ d ∧ d ≤ 16 := by simpa [inB] using h2
  obtain ⟨u, hu⟩ : ∃ u : Nat, d - 1 = (u : Int) := ⟨(d - 1).toNat, by omega⟩
  have hV := vAu_in h1 h2 (by rw [hl]; exact h3) hu
  obtain ⟨b, off, rfl, hc⟩ := hx.2.resolve_left (by intro e; subst e; simp at hl; omega)
  have hh0 := head_row (xss := xss) (by omega)
  obtain ⟨u0, hu0, a0, c0, rfl, hi0, hlc0, hcm0, _⟩ := hc 0 _ hh0
  obtain ⟨H, hH⟩ : ∃ H, (xss.headD []).length = H := ⟨_, rfl⟩
  rw [hH] at hu0 hV
  have hHl : H ≤ 1048576 := by have := row_le hh0; omega
  rw [hV]
  have HL := Lib.hid hl
  have HC := Lib.hid hc
  have HS := Lib.hid hs
  have HH := Lib.hid hH
  have HR0 := Lib.hid hh0
  have hp := pow_u u (by omega)
  have hp0 := hp.1
  have hp1 := hp.2
  have hu15 : u ≤ 15 := by omega
  have hus : (u : Int).toNat = u := by simp
  have hd4 : 4 ≤ d := by omega
  have hd5 : d ≤ 16 := by omega
  have h31 : 1 ≤ len := h3.1
  have h32 : len ≤ 2 := h3.2
  have hu00 : (0 : Int) ≤ (u : Int) := by omega
  have hu01 : (u : Int) ≤ 64 := by omega
  clear hx hs hl h3 hV hc hi0 hlc0 hcm0 hh0 hH hp hd16
  go_enter Try.func26, Try.ntmps26
  go_wp2_with fail
  refine (iIn1 r 1 999999 _ _ _ (by simp) h1).mono ?_
  rintro e w' ⟨rfl, rfl⟩
  go_wp2_with fail
  refine (iIn1 d 4 16 _ _ _ (by simp) h2).mono ?_
  rintro e w' ⟨rfl, rfl⟩
  go_wp2_with fail
  refine (iIn1 (len : Int) 1 2 _ _ _ (by simp) h3b).mono ?_
  rintro e w' ⟨rfl, rfl⟩
  have HA := Lib.hid (grown_heap (grown_trans (grown_trans (grown_alloc (w.alloc (.cells #[.int .i64 r, .int .i64 d, .slice (some ⟨b, off, none⟩) len cap] 25)) (.cells #[.int .i64 r] 3) none) (grown_alloc _ (.cells #[.int .i64 d] 3) _)) (grown_alloc _ (.cells #[.int .i64 (len : Int)] 3) _)) (heap_alloc_new w (.cells #[.int .i64 r, .int .i64 d, .slice (some ⟨b, off, none⟩) len cap] 25)) (by simp))
  have HW := Lib.hid (grown_trans (grown_alloc w (.cells #[.int .i64 r, .int .i64 d, .slice (some ⟨b, off, none⟩) len cap] 25) none) (grown_trans (grown_trans (grown_alloc (w.alloc (.cells #[.int .i64 r, .int .i64 d, .slice (some ⟨b, off, none⟩) len cap] 25)) (.cells #[.int .i64 r] 3) none) (grown_alloc _ (.cells #[.int .i64 d] 3) _)) (grown_alloc _ (.cells #[.int .i64 (len : Int)] 3) _)))
  generalize hwb : (((w.alloc (.cells #[.int .i64 r, .int .i64 d, .slice (some ⟨b, off, none⟩) len cap] 25)).alloc (.cells #[.int .i64 r] 3)).alloc (.cells #[.int .i64 d] 3)).alloc (.cells #[.int .i64 (len : Int)] 3) = wb at *
  clear hwb
  have hB := HA.out
  have q0 : wb.cell? ⟨w.heap.size, 0, none⟩ = some (.int .i64 r) := by rw [cell_of_row wb _ 0 _ _ _ hB]; rfl
  have q1 : wb.cell? ⟨w.heap.size, 1, none⟩ = some (.int .i64 d) := by rw [cell_of_row wb _ 1 _ _ _ hB]; rfl
  have q2 : wb.cell? ⟨w.heap.size, 2, none⟩ = some (.slice (some ⟨b, off, none⟩) len cap) := by rw [cell_of_row wb _ 2 _ _ _ hB]; rfl
  have t0 : wb.cell? ⟨b, off, none⟩ = some (.slice a0 H c0) := HW.out.cell hu0 (by simp)
  clear hB hu0 h1 h2 h3b
  go_wp2
  go_loop [33] (fun i => ∃ k : Nat, k ≤ len ∧ i = .int .i64 k ∧ Hid ((xss.take k).all (fun xs => vCh u H xs) = true) ∧ Hid (k = 0 ∨ H ≤ 256)) (fun i => len - (intOf i).toNat)
  case atStart => exact ⟨0, Nat.zero_le _, rfl, rfl, Or.inl rfl⟩
  case round =>
    obtain ⟨k, hk, rfl, HT, HZ⟩ := hrel
    by_cases hlt : k < len
    · obtain ⟨xs, hxk⟩ : ∃ xs, xss[k]? = some xs := ⟨_, List.getElem?_eq_getElem (by rw [HL.out]; exact hlt)⟩
      obtain ⟨ux, hux, a, c, rfl, hi, hlc, hcm, _⟩ := HC.out k xs hxk
      have hrl : xs.length ≤ 1048576 := Nat.le_trans (row_le hxk) HS.out
      have hcx : wb.cell? ⟨b, off + k, none⟩ = some (.slice a xs.length c) := HW.out.cell hux (by simp)
      obtain ⟨n, hn⟩ : ∃ n, xs.length = n := ⟨_, rfl⟩
      rw [hn] at hcx hrl
      have HX := Lib.hid hxk
      have HN := Lib.hid hn
      have hin := hi.grown HW.out
      rw [hn] at hin
      by_cases h6 : 256 < n
      · have d6 : decide (256 < (n : Int)) = true := by simp; omega
        have HF : Hid (((xss.all fun xs => vCh u H xs) && decide (H ≤ 256)) = false) := by
          show _ = _
          by_cases h4 : n = H
          · rw [decide_eq_false (show ¬ H ≤ 256 by omega)]; simp
          · have := all_false (p := fun xs => vCh u H xs) HX.out (by unfold vCh; simp [HN.out, h4])
            rw [this]; rfl
        clear hi hlc hcm hxk hn hin h6 hux
        go_wp2
        go_ret
        exact ⟨ret_bool HF.out.symm, HW.out⟩
      have d6 : decide (256 < (n : Int)) = false := by simp; omega
      by_cases h4 : n = H
      · have d4 : ((n : Int) != (H : Int)) = false := by simp; omega
        have ke := iAllIn_any xs (-(2 ^ u)) (2 ^ u - 1) a n c wb _ hin (by omega) rfl
        cases h5 : allB xs (-(2 ^ u)) (2 ^ u - 1) with
        | false =>
          rw [h5] at ke
          have HF : Hid (((xss.all fun xs => vCh u H xs) && decide (H ≤ 256)) = false) := by
            have := all_false (p := fun xs => vCh u H xs) HX.out (by unfold vCh; simp [h5])
            show _ = _; rw [this]; rfl
          clear hi hlc hcm hxk hn hin h4 h5 h6 hux
          go_wp2_with fail
          refine ke.mono ?_
          rintro e w' ⟨rfl, rfl⟩
          clear ke
          go_wp2
          go_ret
          exact ⟨ret_bool HF.out.symm, HW.out⟩
        | true =>
          rw [h5] at ke
          have HT2 := Lib.hid (all_take (p := fun xs => vCh u H xs) HX.out HT.out (by unfold vCh; simp [h5, HN.out, h4]))
          have hz : H ≤ 256 := by omega
          clear hi hlc hcm hxk hn hin h4 h5 h6 hux
          go_wp2_with fail
          refine ke.mono ?_
          rintro e w' ⟨rfl, rfl⟩
          clear ke
          go_wp2
          go_round
          case rel => exact ⟨k + 1, by omega, by go_num, HT2, Or.inr hz⟩
          case measure => simp [intOf]; omega
      · have d4 : ((n : Int) != (H : Int)) = true := by simp; omega
        have HF : Hid (((xss.all fun xs => vCh u H xs) && decide (H ≤ 256)) = false) := by
          have := all_false (p := fun xs => vCh u H xs) HX.out (by unfold vCh; simp [HN.out, h4])
          show _ = _; rw [this]; rfl
        clear hi hlc hcm hxk hn hin h4 h6 hux
        go_wp2
        go_ret
        exact ⟨ret_bool HF.out.symm, HW.out⟩
    · obtain rfl : k = len := by omega
      have HF : Hid (((xss.all fun xs => vCh u H xs) && decide (H ≤ 256)) = true) := by
        have h := HT.out
        rw [List.take_of_length_le (by rw [HL.out]; exact Nat.le_refl _)] at h
        have hz := HZ.out
        show _ = _
        rw [h, Bool.true_and, decide_eq_true_eq]; omega
      go_wp2
      go_ret
      exact ⟨ret_bool HF.out.symm, HW.out⟩

end Go.Proofs.Ytncbgofcimghnaa
