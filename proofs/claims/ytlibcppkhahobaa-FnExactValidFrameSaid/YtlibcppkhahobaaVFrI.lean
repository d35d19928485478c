/-
  Valid frames: what the program says, for all channels that can be read.
-/
import Derived.Test.YtlibcppkhahobaaVFr
namespace Go.Proofs.Ytlibcppkhahobaa
open Go.RowKit

set_option maxRecDepth 100000 in
set_option maxHeartbeats 2000000 in
theorem iVFr_any (xss : List (List Int)) (ao : Option Addr) (len cap : Nat) (r d : Int) (w : World) (v : Bool) (hx : Mat w ao len xss) (hs : szL xss ≤ 1048576) (hv : vFr r d xss = v) :
    Calls Try.prog 14 #[.agg #[.int .i64 r, .int .i64 d, .slice ao len cap]] w fun e w' => e = .returned (.bool v) ∧ w.grownBy w' none := by
  subst hv
  have hl := hx.1
  have hlen : len ≤ 1048576 := by unfold szL at hs; omega
  cases h1 : inB r 0 2147483647 with
  | false =>
    rw [vFr_no1 h1]
    clear hx hs hl
    go_enter Try.func14, Try.ntmps14
    go_wp2_with fail
    refine (iIn1 r 0 2147483647 _ _ _ (by simp) h1).mono ?_
    rintro e w' ⟨rfl, rfl⟩
    go_wp2
    go_ret
    exact ⟨rfl, grown_trans (grown_alloc _ _ _) (grown_alloc _ _ _)⟩
  | true =>
  cases h2 : inB d 4 16 with
  | false =>
    rw [vFr_no2 h2]
    clear hx hs hl
    go_enter Try.func14, Try.ntmps14
    go_wp2_with fail
    refine (iIn1 r 0 2147483647 _ _ _ (by simp) h1).mono ?_
    rintro e w' ⟨rfl, rfl⟩
    go_wp2_with fail
    refine (iIn1 d 4 16 _ _ _ (by simp) h2).mono ?_
    rintro e w' ⟨rfl, rfl⟩
    go_wp2
    go_ret
    exact ⟨rfl, grown_trans (grown_trans (grown_alloc _ _ _) (grown_alloc _ _ _)) (grown_alloc _ _ _)⟩
  | true =>
  by_cases h3 : ¬ (1 ≤ len ∧ len ≤ 2)
  · have h3b : inB (len : Int) 1 2 = false := inB_false (by omega)
    rw [vFr_no3 (by rw [hl]; exact h3)]
    clear hx hs hl h3
    go_enter Try.func14, Try.ntmps14
    go_wp2_with fail
    refine (iIn1 r 0 2147483647 _ _ _ (by simp) h1).mono ?_
    rintro e w' ⟨rfl, rfl⟩
    go_wp2_with fail
    refine (iIn1 d 4 16 _ _ _ (by simp) h2).mono ?_
    rintro e w' ⟨rfl, rfl⟩
    go_wp2_with fail
    refine (iIn1 (len : Int) 1 2 _ _ _ (by simp) h3b).mono ?_
    rintro e w' ⟨rfl, rfl⟩
    go_wp2
    go_ret
    exact ⟨rfl, grown_trans (grown_trans (grown_trans (grown_alloc _ _ _) (grown_alloc _ _ _)) (grown_alloc _ _ _)) (grown_alloc _ _ _)⟩
  have h3 := Classical.not_not.1 h3
  have h3b : inB (len : Int) 1 2 = true := inB_true (by omega) (by omega)
  have hd16 : 4 ≤ d ∧ d ≤ 16 := by simpa [inB] using h2
  obtain ⟨u, hu⟩ : ∃ u : Nat, d - 1 = (u : Int) := ⟨(d - 1).toNat, by omega⟩
  have hV := vFr_in h1 h2 (by rw [hl]; exact h3)
  obtain ⟨b, off, rfl, hc⟩ := hx.2.resolve_left (by intro e; subst e; simp at hl; omega)
  have hh0 := head_row (xss := xss) (by omega)
  obtain ⟨u0, hu0, a0, c0, rfl, hi0, hlc0, hcm0, _⟩ := hc 0 _ hh0
  obtain ⟨H, hH⟩ : ∃ H, (xss.headD []).length = H := ⟨_, rfl⟩
  rw [hH] at hu0 hV
  have hHl : H ≤ 1048576 := by have := row_le hh0; omega
  rw [hV]
  have HL := Lib.hid hl
  have HC := Lib.hid hc
  have HS := Lib.hid hs
  have HH := Lib.hid hH
  have HR0 := Lib.hid hh0
  have hp := pow_u u (by omega)
  have hp0 := hp.1
  have hp1 := hp.2
  have hu15 : u ≤ 15 := by omega
  have hus : (u : Int).toNat = u := by simp
  have hd4 : 4 ≤ d := by omega
  have hd5 : d ≤ 16 := by omega
  have h31 : 1 ≤ len := h3.1
  have h32 : len ≤ 2 := h3.2
  have hu00 : (0 : Int) ≤ (u : Int) := by omega
  have hu01 : (u : Int) ≤ 64 := by omega
  clear hx hs hl h3 hV hc hi0 hlc0 hcm0 hh0 hH hp hd16
  go_enter Try.func14, Try.ntmps14
  go_wp2_with fail
  refine (iIn1 r 0 2147483647 _ _ _ (by simp) h1).mono ?_
  rintro e w' ⟨rfl, rfl⟩
  go_wp2_with fail
  refine (iIn1 d 4 16 _ _ _ (by simp) h2).mono ?_
  rintro e w' ⟨rfl, rfl⟩
  go_wp2_with fail
  refine (iIn1 (len : Int) 1 2 _ _ _ (by simp) h3b).mono ?_
  rintro e w' ⟨rfl, rfl⟩
  have HA := Lib.hid (grown_heap (grown_trans (grown_trans (grown_alloc (w.alloc (.cells #[.int .i64 r, .int .i64 d, .slice (some ⟨b, off, none⟩) len cap] 35)) (.cells #[.int .i64 r] 3) none) (grown_alloc _ (.cells #[.int .i64 d] 3) _)) (grown_alloc _ (.cells #[.int .i64 (len : Int)] 3) _)) (heap_alloc_new w (.cells #[.int .i64 r, .int .i64 d, .slice (some ⟨b, off, none⟩) len cap] 35)) (by simp))
  have HW := Lib.hid (grown_trans (grown_alloc w (.cells #[.int .i64 r, .int .i64 d, .slice (some ⟨b, off, none⟩) len cap] 35) none) (grown_trans (grown_trans (grown_alloc (w.alloc (.cells #[.int .i64 r, .int .i64 d, .slice (some ⟨b, off, none⟩) len cap] 35)) (.cells #[.int .i64 r] 3) none) (grown_alloc _ (.cells #[.int .i64 d] 3) _)) (grown_alloc _ (.cells #[.int .i64 (len : Int)] 3) _)))
  generalize hwb : (((w.alloc (.cells #[.int .i64 r, .int .i64 d, .slice (some ⟨b, off, none⟩) len cap] 35)).alloc (.cells #[.int .i64 r] 3)).alloc (.cells #[.int .i64 d] 3)).alloc (.cells #[.int .i64 (len : Int)] 3) = wb at *
  clear hwb
  have hB := HA.out
  have q2 : wb.cell? ⟨w.heap.size, 2, none⟩ = some (.slice (some ⟨b, off, none⟩) len cap) := by rw [cell_of_row wb _ 2 _ _ _ hB]; rfl
  have HU0 := Lib.hid hu0
  have hu0' := hu0
  clear hB hu0
  clear hu0' h1 h2 h3b
  go_wp2
  go_loopw [28] (fun i wr => ∃ k : Nat, k ≤ len ∧ i = .int .i64 k ∧ Hid (wb.grownBy wr none) ∧ Hid ((xss.take k).all (fun xs => vBl d xs && decide (xs.length = H)) = true)) (fun i _ => len - (intOf i).toNat)
  case atStart => exact ⟨0, Nat.zero_le _, rfl, grown_refl _ _, rfl⟩
  case round =>
    obtain ⟨k, hk, rfl, HD, HT⟩ := hrel
    by_cases hlt : k < len
    · obtain ⟨xs, hxk⟩ : ∃ xs, xss[k]? = some xs := ⟨_, List.getElem?_eq_getElem (by rw [HL.out]; exact hlt)⟩
      obtain ⟨ux, hux, a, c, rfl, hi, hlc, hcm, _⟩ := HC.out k xs hxk
      have hrl : xs.length ≤ 1048576 := Nat.le_trans (row_le hxk) HS.out
      have hg1 := grown_trans HW.out HD.out
      have hcx : wr.cell? ⟨b, off + k, none⟩ = some (.slice a xs.length c) := hg1.cell hux (by simp)
      obtain ⟨n, hn⟩ : ∃ n, xs.length = n := ⟨_, rfl⟩
      rw [hn] at hcx hrl
      have HX := Lib.hid hxk
      have HN := Lib.hid hn
      have hin := hi.grown hg1
      rw [hn] at hin
      have hB := grown_heap HD.out HA.out (by simp)
      have q1 : wr.cell? ⟨w.heap.size, 1, none⟩ = some (.int .i64 d) := by rw [cell_of_row wr _ 1 _ _ _ hB]; rfl
      have HIN := Lib.hid hin
      obtain ⟨v5, h5⟩ : ∃ v5, vBl d xs = v5 := ⟨_, rfl⟩
      have HV5 := Lib.hid h5
      clear hi hlc hcm hxk hn hin hux hg1 hB h5
      go_wp2_with fail
      refine (iVB_any xs a n c d v5 _ HIN.out (by omega) HV5.out).mono ?_
      rintro e w2 ⟨rfl, hg2⟩
      have HD2 := Lib.hid (grown_trans HD.out hg2)
      have hB := grown_heap HD2.out HA.out (by simp)
      have q2 : w2.cell? ⟨w.heap.size, 2, none⟩ = some (.slice (some ⟨b, off, none⟩) len cap) := by rw [cell_of_row w2 _ 2 _ _ _ hB]; rfl
      have t0 : w2.cell? ⟨b, off, none⟩ = some (.slice a0 H c0) := (grown_trans HW.out HD2.out).cell HU0.out (by simp)
      clear hg2 hB q1 hcx
      cases v5 with
      | false =>
        have HF : Hid ((xss.all fun xs => vBl d xs && decide (xs.length = H)) = false) := all_false (p := fun xs => vBl d xs && decide (xs.length = H)) HX.out (by simp [HV5.out])
        go_wp2
        go_ret
        exact ⟨ret_bool HF.out.symm, grown_trans HW.out HD2.out⟩
      | true =>
        by_cases h4 : n = H
        · have d4 : ((n : Int) != (H : Int)) = false := by simp; omega
          have HT2 := Lib.hid (all_take (p := fun xs => vBl d xs && decide (xs.length = H)) HX.out HT.out (by simp [HV5.out, HN.out, h4]))
          clear h4
          go_wp2
          go_roundw
          case rel => exact ⟨k + 1, by omega, by go_num, HD2, HT2⟩
          case measure => simp [intOf]; omega
        · have d4 : ((n : Int) != (H : Int)) = true := by simp; omega
          have HF : Hid ((xss.all fun xs => vBl d xs && decide (xs.length = H)) = false) := all_false (p := fun xs => vBl d xs && decide (xs.length = H)) HX.out (by simp [HN.out, h4])
          clear h4
          go_wp2
          go_ret
          exact ⟨ret_bool HF.out.symm, grown_trans HW.out HD2.out⟩
    · obtain rfl : k = len := by omega
      have HF : Hid ((xss.all fun xs => vBl d xs && decide (xs.length = H)) = true) := by
        have h := HT.out
        rw [List.take_of_length_le (by rw [HL.out]; exact Nat.le_refl _)] at h
        exact h
      go_wp2
      go_ret
      exact ⟨ret_bool HF.out.symm, grown_trans HW.out HD.out⟩

end Go.Proofs.Ytlibcppkhahobaa
