/-
  When bits are valid: both texts say the same. For every list and count.
-/
import Derived.Test.YtcgcippniicaaaaDoorOwn
import Derived.Deep.QuietTactic
import Derived.BigQuiet
namespace Go.Proofs.YtcgcippniicaaaaDoor
open Go.RowKit

/-- The bits of the last byte that do not count are zeros. -/
def tailB (xs : List Int) (c : Int) : Bool := decide (c % 8 = 0) || decide (xs.getD (xs.length - 1) 0 % 2 ^ (8 - c % 8).toNat = 0)
def VB (xs : List Int) (c : Int) : Bool := inB c 0 16384 && decide ((xs.length : Int) = (c + 7) / 8) && allB xs 0 255 && tailB xs c

theorem VB_range {xs : List Int} {c : Int} (h : inB c 0 16384 = false) : VB xs c = false := by unfold VB; rw [h]; rfl
theorem VB_len {xs : List Int} {c : Int} (h : ¬ (xs.length : Int) = (c + 7) / 8) : VB xs c = false := by unfold VB; rw [decide_eq_false h]; simp
theorem VB_all {xs : List Int} {c : Int} (h : allB xs 0 255 = false) : VB xs c = false := by unfold VB; rw [h]; simp
theorem VB_in {xs : List Int} {c : Int} (h1 : inB c 0 16384 = true) (h2 : (xs.length : Int) = (c + 7) / 8) (h3 : allB xs 0 255 = true) : VB xs c = tailB xs c := by
  unfold VB; rw [h1, decide_eq_true h2, h3]; rfl
theorem tail_zero {xs : List Int} {c : Int} (h : c % 8 = 0) : tailB xs c = true := by unfold tailB; rw [decide_eq_true h]; rfl
theorem tail_some {xs : List Int} {c r x : Int} (h : c % 8 = r) (hr : r ≠ 0) (hx : xs[xs.length - 1]? = some x) : tailB xs c = decide (x % 2 ^ (8 - r).toNat = 0) := by
  unfold tailB
  rw [h, decide_eq_false hr, List.getD_eq_getElem?_getD, hx]; rfl
theorem beq_dec {a b : Int} (h : a = b) : (a == 0) = decide (b = 0) := by subst h; rfl
theorem and_mask (x : Nat) (s : Nat) (hx : x < 256) (hs : s ≤ 8) : bits .and .i64 (x : Int) ((2 ^ s - 1 : Nat) : Int) = ((x % 2 ^ s : Nat) : Int) := by
  have h2 : 2 ^ s ≤ 2 ^ 8 := Nat.pow_le_pow_right (by decide) hs
  rw [i64_and_nat x (2 ^ s - 1) (by omega) (by omega), Nat.and_two_pow_sub_one_eq_mod]

set_option maxHeartbeats 2000000 in
theorem sValidBits (xs : List Int) (ao : Option Addr) (len cap : Nat) (c : Int) (v : Bool) (w : World) (hx : Ints w ao len xs) (hlen : len ≤ 4194304) (hv : VB xs c = v) :
    Calls Tryd.prog 37 #[.agg #[.slice ao len cap, .int .i64 c]] w fun e w' => e = .returned (.bool v) ∧ w.grownBy w' none := by
  subst hv
  have hl := hx.1
  cases h1 : inB c 0 16384 with
  | false =>
    have k1 := inRange_any c 0 16384 false (w.alloc (.cells #[.slice ao len cap, .int .i64 c] 25)) h1
    rw [VB_range h1]
    clear hx h1
    go_enter Tryd.func37, Tryd.ntmps37
    go_wp2_with fail
    refine k1.mono ?_
    rintro e w' ⟨rfl, rfl⟩
    clear k1
    go_wp2
    go_ret
    exact ⟨rfl, grown_alloc _ _ _⟩
  | true =>
  have k1 := inRange_any c 0 16384 true (w.alloc (.cells #[.slice ao len cap, .int .i64 c] 25)) h1
  have hc : 0 ≤ c ∧ c ≤ 16384 := by simpa [inB] using h1
  obtain ⟨hc0, hc1⟩ := hc
  by_cases h2 : (len : Int) = (c + 7) / 8
  · have hne : ((len : Int) != (c + 7) / 8) = false := by simp [h2]
    have k2 := allIn_any xs 0 255 ao len cap (w.alloc (.cells #[.slice ao len cap, .int .i64 c] 25)) (hx.grown (grown_alloc _ _ _)) (by omega)
    cases h3 : allB xs 0 255 with
    | false =>
      rw [h3] at k2
      rw [VB_all h3]
      clear hx h1 h2 h3
      go_enter Tryd.func37, Tryd.ntmps37
      go_wp2_with fail
      refine k1.mono ?_
      rintro e w' ⟨rfl, rfl⟩
      clear k1
      go_wp2_with fail
      refine k2.mono ?_
      rintro e w' ⟨rfl, rfl⟩
      clear k2
      go_wp2
      go_ret
      exact ⟨rfl, grown_alloc _ _ _⟩
    | true =>
      rw [h3] at k2
      rw [VB_in h1 (by rw [hl]; exact h2) h3]
      by_cases h4 : c % 8 = 0
      · rw [tail_zero h4]
        have h4' : (c % 8 == 0) = true := by simpa using h4
        clear hx h1 h2 h3 h4
        go_enter Tryd.func37, Tryd.ntmps37
        go_wp2_with fail
        refine k1.mono ?_
        rintro e w' ⟨rfl, rfl⟩
        clear k1
        go_wp2_with fail
        refine k2.mono ?_
        rintro e w' ⟨rfl, rfl⟩
        clear k2
        go_wp2
        go_quiet (fail)
        go_wp2
        go_ret
        exact ⟨rfl, grown_trans (grown_alloc _ _ _) (grown_drewN _ _ _)⟩
      · have hlp : 0 < len := by omega
        obtain ⟨x, hxl⟩ : ∃ x, xs[xs.length - 1]? = some x := ⟨_, List.getElem?_eq_getElem (by omega)⟩
        obtain ⟨b, off, rfl, hcl⟩ := hx.2.resolve_left (by intro e; subst e; simp at hl; omega)
        have hxr : 0 ≤ x ∧ x ≤ 255 := by
          have := (List.all_eq_true.1 h3) x (List.mem_of_getElem? hxl); simpa [inB] using this
        obtain ⟨hx0, hx9⟩ := hxr
        have hcell : (w.alloc (.cells #[.slice (some ⟨b, off, none⟩) len cap, .int .i64 c] 25)).cell? ⟨b, off + (len - 1), none⟩ = some (.int .i64 x) := by
          have hq : w.cell? ⟨b, off + (len - 1), none⟩ = some (.int .i64 x) := hcl (len - 1) x (by rw [← hl]; exact hxl)
          exact (World.cell?_of_block (heap_alloc_old _ _ (block_lt_of_cell hq))).trans hq
        have i1 : (1 : Int) ≤ (len : Int) := by omega
        have i2 : (len : Int) - 1 < (len : Int) := by omega
        have HT := Lib.hid (fun (r : Int) (h : c % 8 = r) (hr : r ≠ 0) => tail_some h hr hxl)
        have h7 : c % 8 = 1 ∨ c % 8 = 2 ∨ c % 8 = 3 ∨ c % 8 = 4 ∨ c % 8 = 5 ∨ c % 8 = 6 ∨ c % 8 = 7 := by omega
        clear hx h1 h2 h3 hcl hxl hl h4
        rcases h7 with h | h | h | h | h | h | h
        all_goals
          rw [HT.out _ h (by decide)]
          go_enter Tryd.func37, Tryd.ntmps37
          go_wp2_with fail
          refine k1.mono ?_
          rintro e w' ⟨rfl, rfl⟩
          go_wp2_with fail
          refine k2.mono ?_
          rintro e w' ⟨rfl, rfl⟩
          go_wp2
          go_quiet (fail)
          go_wp2
          go_ret
          exact ⟨ret_bool (beq_dec rfl), grown_trans (grown_alloc _ _ _) (grown_drewN _ _ _)⟩
  · have hne : ((len : Int) != (c + 7) / 8) = true := by simpa using h2
    rw [VB_len (by rw [hl]; exact h2)]
    clear hx h1 h2
    go_enter Tryd.func37, Tryd.ntmps37
    go_wp2_with fail
    refine k1.mono ?_
    rintro e w' ⟨rfl, rfl⟩
    clear k1
    go_wp2
    go_ret
    exact ⟨rfl, grown_alloc _ _ _⟩

set_option maxHeartbeats 2000000 in
theorem iValidBits (xs : List Int) (ao : Option Addr) (len cap : Nat) (c : Int) (v : Bool) (w : World) (hx : Ints w ao len xs) (hlen : len ≤ 4194304) (hv : VB xs c = v) :
    Calls Tryd.prog 47 #[.agg #[.slice ao len cap, .int .i64 c]] w fun e w' => e = .returned (.bool v) ∧ w.grownBy w' none := by
  subst hv
  have hl := hx.1
  by_cases hc0 : c < 0
  · rw [VB_range (inB_false (by omega))]
    clear hx
    go_enter Tryd.func47, Tryd.ntmps47
    go_wp2
    go_ret
    exact ⟨rfl, grown_alloc _ _ _⟩
  have d0 : decide (c < 0) = false := by simp; omega
  by_cases hc1 : 16384 < c
  · rw [VB_range (inB_false (by omega))]
    have d1 : decide (16384 < c) = true := by simp; omega
    clear hx
    go_enter Tryd.func47, Tryd.ntmps47
    go_wp2
    go_ret
    exact ⟨rfl, grown_alloc _ _ _⟩
  have d1 : decide (16384 < c) = false := by simp; omega
  have h1 : inB c 0 16384 = true := inB_true (by omega) (by omega)
  have hc0' : 0 ≤ c := by omega
  have hc1' : c ≤ 16384 := by omega
  clear hc0 hc1
  by_cases h2 : (len : Int) = (c + 7) / 8
  · have hne : ((len : Int) != (c + 7) / 8) = false := by simp [h2]
    have hl2 : len ≤ 2048 := by omega
    have k2 : ∀ b, allB xs 0 255 = b → _ := fun b hb => iValidBytes xs ao len cap b (w.alloc (.cells #[.slice ao len cap, .int .i64 c] 25)) (hx.grown (grown_alloc _ _ _)) (by omega) (by unfold valB; rw [hl, hb]; simp; intro; omega)
    cases h3 : allB xs 0 255 with
    | false =>
      have k3 := k2 false h3
      rw [VB_all h3]
      clear hx h1 h2 h3 k2
      go_enter Tryd.func47, Tryd.ntmps47
      go_wp2_with fail
      refine k3.mono ?_
      rintro e w' ⟨rfl, rfl⟩
      clear k3
      go_wp2
      go_ret
      exact ⟨rfl, grown_alloc _ _ _⟩
    | true =>
      have k3 := k2 true h3
      clear k2
      rw [VB_in h1 (by rw [hl]; exact h2) h3]
      by_cases h4 : c % 8 = 0
      · rw [tail_zero h4]
        have h4' : (8 * (len : Int) - c == 0) = true := by simp; omega
        clear hx h1 h2 h3 h4
        go_enter Tryd.func47, Tryd.ntmps47
        go_wp2_with fail
        refine k3.mono ?_
        rintro e w' ⟨rfl, rfl⟩
        clear k3
        go_wp2
        go_quiet (fail)
        go_wp2
        go_ret
        exact ⟨rfl, grown_trans (grown_alloc _ _ _) (grown_drewN _ _ _)⟩
      · have hlp : 0 < len := by omega
        obtain ⟨x, hxl⟩ : ∃ x, xs[xs.length - 1]? = some x := ⟨_, List.getElem?_eq_getElem (by omega)⟩
        obtain ⟨b, off, rfl, hcl⟩ := hx.2.resolve_left (by intro e; subst e; simp at hl; omega)
        have hxr : 0 ≤ x ∧ x ≤ 255 := by
          have := (List.all_eq_true.1 h3) x (List.mem_of_getElem? hxl); simpa [inB] using this
        obtain ⟨X, rfl⟩ := Int.eq_ofNat_of_zero_le hxr.1
        have hX : X < 256 := by omega
        have hcell : (w.alloc (.cells #[.slice (some ⟨b, off, none⟩) len cap, .int .i64 c] 25)).cell? ⟨b, off + (len - 1), none⟩ = some (.int .i64 (X : Int)) := by
          have hq : w.cell? ⟨b, off + (len - 1), none⟩ = some (.int .i64 (X : Int)) := hcl (len - 1) X (by rw [← hl]; exact hxl)
          exact (World.cell?_of_block (heap_alloc_old _ _ (block_lt_of_cell hq))).trans hq
        have i1 : (1 : Int) ≤ (len : Int) := by omega
        have i2 : (len : Int) - 1 < (len : Int) := by omega
        have HT := Lib.hid (fun (r : Int) (h : c % 8 = r) (hr : r ≠ 0) => tail_some h hr hxl)
        have h7 : c % 8 = 1 ∨ c % 8 = 2 ∨ c % 8 = 3 ∨ c % 8 = 4 ∨ c % 8 = 5 ∨ c % 8 = 6 ∨ c % 8 = 7 := by omega
        have HX := Lib.hid h2
        clear hx h1 h2 h3 hcl hxl hl h4 hxr hne
        rcases h7 with h | h | h | h | h | h | h
        · rw [HT.out _ h (by decide)]
          have hne : ((len : Int) != (c + 7) / 8) = false := by have := HX.out; simp; omega
          have hsp : 8 * (len : Int) - c = 7 := by have := HX.out; omega
          have hm : bits .and .i64 (X : Int) 127 = ((X % 128 : Nat) : Int) := and_mask X 7 hX (by decide)
          go_enter Tryd.func47, Tryd.ntmps47
          go_wp2_with fail
          refine k3.mono ?_
          rintro e w' ⟨rfl, rfl⟩
          go_wp2
          go_quiet (fail)
          go_wp2
          go_ret
          exact ⟨ret_bool (beq_dec (by first | rfl | (simp; done) | omega)), grown_trans (grown_alloc _ _ _) (grown_drewN _ _ _)⟩
        · rw [HT.out _ h (by decide)]
          have hne : ((len : Int) != (c + 7) / 8) = false := by have := HX.out; simp; omega
          have hsp : 8 * (len : Int) - c = 6 := by have := HX.out; omega
          have hm : bits .and .i64 (X : Int) 63 = ((X % 64 : Nat) : Int) := and_mask X 6 hX (by decide)
          go_enter Tryd.func47, Tryd.ntmps47
          go_wp2_with fail
          refine k3.mono ?_
          rintro e w' ⟨rfl, rfl⟩
          go_wp2
          go_quiet (fail)
          go_wp2
          go_ret
          exact ⟨ret_bool (beq_dec (by first | rfl | (simp; done) | omega)), grown_trans (grown_alloc _ _ _) (grown_drewN _ _ _)⟩
        · rw [HT.out _ h (by decide)]
          have hne : ((len : Int) != (c + 7) / 8) = false := by have := HX.out; simp; omega
          have hsp : 8 * (len : Int) - c = 5 := by have := HX.out; omega
          have hm : bits .and .i64 (X : Int) 31 = ((X % 32 : Nat) : Int) := and_mask X 5 hX (by decide)
          go_enter Tryd.func47, Tryd.ntmps47
          go_wp2_with fail
          refine k3.mono ?_
          rintro e w' ⟨rfl, rfl⟩
          go_wp2
          go_quiet (fail)
          go_wp2
          go_ret
          exact ⟨ret_bool (beq_dec (by first | rfl | (simp; done) | omega)), grown_trans (grown_alloc _ _ _) (grown_drewN _ _ _)⟩
        · rw [HT.out _ h (by decide)]
          have hne : ((len : Int) != (c + 7) / 8) = false := by have := HX.out; simp; omega
          have hsp : 8 * (len : Int) - c = 4 := by have := HX.out; omega
          have hm : bits .and .i64 (X : Int) 15 = ((X % 16 : Nat) : Int) := and_mask X 4 hX (by decide)
          go_enter Tryd.func47, Tryd.ntmps47
          go_wp2_with fail
          refine k3.mono ?_
          rintro e w' ⟨rfl, rfl⟩
          go_wp2
          go_quiet (fail)
          go_wp2
          go_ret
          exact ⟨ret_bool (beq_dec (by first | rfl | (simp; done) | omega)), grown_trans (grown_alloc _ _ _) (grown_drewN _ _ _)⟩
        · rw [HT.out _ h (by decide)]
          have hne : ((len : Int) != (c + 7) / 8) = false := by have := HX.out; simp; omega
          have hsp : 8 * (len : Int) - c = 3 := by have := HX.out; omega
          have hm : bits .and .i64 (X : Int) 7 = ((X % 8 : Nat) : Int) := and_mask X 3 hX (by decide)
          go_enter Tryd.func47, Tryd.ntmps47
          go_wp2_with fail
          refine k3.mono ?_
          rintro e w' ⟨rfl, rfl⟩
          go_wp2
          go_quiet (fail)
          go_wp2
          go_ret
          exact ⟨ret_bool (beq_dec (by first | rfl | (simp; done) | omega)), grown_trans (grown_alloc _ _ _) (grown_drewN _ _ _)⟩
        · rw [HT.out _ h (by decide)]
          have hne : ((len : Int) != (c + 7) / 8) = false := by have := HX.out; simp; omega
          have hsp : 8 * (len : Int) - c = 2 := by have := HX.out; omega
          have hm : bits .and .i64 (X : Int) 3 = ((X % 4 : Nat) : Int) := and_mask X 2 hX (by decide)
          go_enter Tryd.func47, Tryd.ntmps47
          go_wp2_with fail
          refine k3.mono ?_
          rintro e w' ⟨rfl, rfl⟩
          go_wp2
          go_quiet (fail)
          go_wp2
          go_ret
          exact ⟨ret_bool (beq_dec (by first | rfl | (simp; done) | omega)), grown_trans (grown_alloc _ _ _) (grown_drewN _ _ _)⟩
        · rw [HT.out _ h (by decide)]
          have hne : ((len : Int) != (c + 7) / 8) = false := by have := HX.out; simp; omega
          have hsp : 8 * (len : Int) - c = 1 := by have := HX.out; omega
          have hm : bits .and .i64 (X : Int) 1 = ((X % 2 : Nat) : Int) := and_mask X 1 hX (by decide)
          go_enter Tryd.func47, Tryd.ntmps47
          go_wp2_with fail
          refine k3.mono ?_
          rintro e w' ⟨rfl, rfl⟩
          go_wp2
          go_quiet (fail)
          go_wp2
          go_ret
          exact ⟨ret_bool (beq_dec (by first | rfl | (simp; done) | omega)), grown_trans (grown_alloc _ _ _) (grown_drewN _ _ _)⟩
  · have hne : ((len : Int) != (c + 7) / 8) = true := by simpa using h2
    rw [VB_len (by rw [hl]; exact h2)]
    clear hx h1 h2
    go_enter Tryd.func47, Tryd.ntmps47
    go_wp2
    go_ret
    exact ⟨rfl, grown_alloc _ _ _⟩

end Go.Proofs.YtcgcippniicaaaaDoor
