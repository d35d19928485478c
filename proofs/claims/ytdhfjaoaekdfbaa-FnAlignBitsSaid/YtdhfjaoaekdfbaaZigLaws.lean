/-
  The walks of the laws on Zigzag, Unzigzag and RiceLength: each returns true and writes nothing that was there. For every code.
-/
import Derived.Test.YtdhfjaoaekdfbaaZig
namespace Go.Proofs.Ytdhfjaoaekdfbaa
open Go.RowKit

/-- What a law's walk comes to. -/
def Holds (w : World) (e : Ending) (w' : World) : Prop := e = .returned (.bool true) ∧ w.grownBy w' none

set_option maxHeartbeats 400000 in
theorem FnZigzag_walk (ao : Option Addr) (len cap : Nat) (w : World) (hb : BytesAt w ao len) (hlc : len ≤ cap) (hmax : len ≤ 9223372036854775807) :
    Calls Try.prog 4 #[.slice ao len cap] w (Holds w) := by
  have hc := DrawZigzag_any ao len cap w hb hlc hmax
  clear hb hlc
  by_cases hlen : 1048576 < len
  · clear hc
    go_enter Try.func4, Try.ntmps4
    go_wp2
    go_ret
    exact ⟨rfl, grown_refl _ _⟩
  go_enter Try.func4, Try.ntmps4
  go_wp2_with fail
  refine hc.mono ?_
  rintro e w1 ⟨n, rfl, hl, hh, hg⟩
  clear hc hlen hmax
  have HG := Lib.hid hg
  clear hg
  by_cases h1 : n < -4194303 ∨ 4194303 < n
  · have c1 := iZigzag n (-1) w1 (Zz_out h1)
    have c2 := sZigzag n (-1) w1 (Zz_out h1)
    clear h1
    go_wp2_with fail
    refine c1.mono ?_
    rintro e w' ⟨rfl, rfl⟩
    go_wp2_with (go_at_call 26; refine c2.mono ?_; rintro e w' ⟨rfl, rfl⟩)
    go_ret
    exact ⟨rfl, HG.out⟩
  by_cases h3 : n < 0
  · have c1 := iZigzag n (-2 * n - 1) w1 (Zz_neg (by omega) h3)
    have c2 := sZigzag n (-2 * n - 1) w1 (Zz_neg (by omega) h3)
    have c3 := iUnzigzag (-2 * n - 1) n true w1 (by rw [(Uz_in (by omega) (by omega)).1, uz_odd (by omega)]; omega) (Uz_in (by omega) (by omega)).2
    have c4 := iZigzag (-n) (-2 * n) w1 (by rw [Zz_pos (by omega) (by omega)]; omega)
    have e0 : (n == 0) = false := by simp; omega
    have l1 : -4194303 ≤ n := by omega
    clear h1
    go_wp2_with fail
    refine c1.mono ?_
    rintro e w' ⟨rfl, rfl⟩
    clear c1
    go_wp2_with fail
    refine c2.mono ?_
    rintro e w' ⟨rfl, rfl⟩
    clear c2
    go_wp2_with fail
    refine c3.mono ?_
    rintro e w' ⟨rfl, rfl⟩
    clear c3
    go_wp2_with fail
    refine c4.mono ?_
    rintro e w' ⟨rfl, rfl⟩
    clear c4
    go_wp2
    go_ret
    exact ⟨rfl, HG.out⟩
  · have c1 := iZigzag n (2 * n) w1 (Zz_pos (by omega) (by omega))
    have c2 := sZigzag n (2 * n) w1 (Zz_pos (by omega) (by omega))
    have c3 := iUnzigzag (2 * n) n true w1 (by rw [(Uz_in (by omega) (by omega)).1, uz_even (by omega)]; omega) (Uz_in (by omega) (by omega)).2
    have l1 : n ≤ 4194303 := by omega
    clear h1
    by_cases h0 : n = 0
    · subst h0
      clear hl hh h3 l1
      go_wp2_with fail
      refine c1.mono ?_
      rintro e w' ⟨rfl, rfl⟩
      clear c1
      go_wp2_with fail
      refine c2.mono ?_
      rintro e w' ⟨rfl, rfl⟩
      clear c2
      go_wp2_with fail
      refine c3.mono ?_
      rintro e w' ⟨rfl, rfl⟩
      clear c3
      go_wp2
      go_ret
      exact ⟨rfl, HG.out⟩
    · have c4 := iZigzag (-n) (2 * n - 1) w1 (by rw [Zz_neg (by omega) (by omega)]; omega)
      have e0 : (n == 0) = false := by simpa using h0
      clear h0
      go_wp2_with fail
      refine c1.mono ?_
      rintro e w' ⟨rfl, rfl⟩
      clear c1
      go_wp2_with fail
      refine c2.mono ?_
      rintro e w' ⟨rfl, rfl⟩
      clear c2
      go_wp2_with fail
      refine c3.mono ?_
      rintro e w' ⟨rfl, rfl⟩
      clear c3
      go_wp2_with fail
      refine c4.mono ?_
      rintro e w' ⟨rfl, rfl⟩
      go_wp2_with fail
      refine c4.mono ?_
      rintro e w' ⟨rfl, rfl⟩
      clear c4
      go_wp2
      go_ret
      exact ⟨rfl, HG.out⟩

set_option maxHeartbeats 400000 in
theorem FnUnzigzag_walk (ao : Option Addr) (len cap : Nat) (w : World) (hb : BytesAt w ao len) (hlc : len ≤ cap) (hmax : len ≤ 9223372036854775807) :
    Calls Try.prog 5 #[.slice ao len cap] w (Holds w) := by
  have hc := DrawUnzigzag_any ao len cap w hb hlc hmax
  clear hb hlc
  by_cases hlen : 1048576 < len
  · clear hc
    go_enter Try.func5, Try.ntmps5
    go_wp2
    go_ret
    exact ⟨rfl, grown_refl _ _⟩
  go_enter Try.func5, Try.ntmps5
  go_wp2_with fail
  refine hc.mono ?_
  rintro e w1 ⟨n, rfl, hl, hh, hg⟩
  clear hc hlen hmax
  have HG := Lib.hid hg
  clear hg
  by_cases h1 : 0 ≤ n ∧ n ≤ 8388606
  · rcases (show n % 2 = 1 ∨ n % 2 = 0 by omega) with h3 | h3
    · have c1 := iUnzigzag n (-((n + 1) / 2)) true w1 (by rw [(Uz_in (by omega) (by omega)).1, uz_odd h3]) (Uz_in (by omega) (by omega)).2
      have c2 := sUnzigzag n (-((n + 1) / 2)) true w1 (by rw [(Uz_in (by omega) (by omega)).1, uz_odd h3]) (Uz_in (by omega) (by omega)).2
      have c3 := iZigzag (-((n + 1) / 2)) n w1 (by rw [Zz_neg (by omega) (by omega)]; omega)
      have e0 : (n % 2 == 0) = false := by simp; omega
      have e1 : decide (0 ≤ -((n + 1) / 2)) = false := by simp; omega
      obtain ⟨l1, l2⟩ := h1
      clear h3
      generalize -((n + 1) / 2) = x at *
      go_wp2_with fail
      refine c1.mono ?_
      rintro e w' ⟨rfl, rfl⟩
      clear c1
      go_wp2_with fail
      refine c2.mono ?_
      rintro e w' ⟨rfl, rfl⟩
      clear c2
      go_wp2_with fail
      refine c3.mono ?_
      rintro e w' ⟨rfl, rfl⟩
      clear c3
      go_wp2
      go_ret
      exact ⟨rfl, HG.out⟩
    · have c1 := iUnzigzag n (n / 2) true w1 (by rw [(Uz_in (by omega) (by omega)).1, uz_even h3]) (Uz_in (by omega) (by omega)).2
      have c2 := sUnzigzag n (n / 2) true w1 (by rw [(Uz_in (by omega) (by omega)).1, uz_even h3]) (Uz_in (by omega) (by omega)).2
      have c3 := iZigzag (n / 2) n w1 (by rw [Zz_pos (by omega) (by omega)]; omega)
      have e0 : (n % 2 == 0) = true := by simpa using h3
      have e1 : decide (0 ≤ n / 2) = true := by simp; omega
      obtain ⟨l1, l2⟩ := h1
      clear h3
      generalize n / 2 = x at *
      go_wp2_with fail
      refine c1.mono ?_
      rintro e w' ⟨rfl, rfl⟩
      clear c1
      go_wp2_with fail
      refine c2.mono ?_
      rintro e w' ⟨rfl, rfl⟩
      clear c2
      go_wp2_with fail
      refine c3.mono ?_
      rintro e w' ⟨rfl, rfl⟩
      clear c3
      go_wp2
      go_ret
      exact ⟨rfl, HG.out⟩
  · have c1 := iUnzigzag n 0 false w1 (Uz_out h1).1 (Uz_out h1).2
    have c2 := sUnzigzag n 0 false w1 (Uz_out h1).1 (Uz_out h1).2
    clear h1
    go_wp2_with fail
    refine c1.mono ?_
    rintro e w' ⟨rfl, rfl⟩
    clear c1
    go_wp2_with fail
    refine c2.mono ?_
    rintro e w' ⟨rfl, rfl⟩
    clear c2
    go_wp2
    go_ret
    exact ⟨rfl, HG.out⟩
set_option maxHeartbeats 400000 in
theorem FnZigzagOrder_walk (ao : Option Addr) (len cap : Nat) (w : World) (hb : BytesAt w ao len) (hlc : len ≤ cap) (hmax : len ≤ 9223372036854775807) :
    Calls Try.prog 10 #[.slice ao len cap] w (Holds w) := by
  have hc := DrawZigzag_any ao len cap w hb hlc hmax
  clear hb hlc
  by_cases hlen : 1048576 < len
  · clear hc
    go_enter Try.func10, Try.ntmps10
    go_wp2
    go_ret
    exact ⟨rfl, grown_refl _ _⟩
  go_enter Try.func10, Try.ntmps10
  go_wp2_with fail
  refine hc.mono ?_
  rintro e w1 ⟨n, rfl, hl, hh, hg⟩
  clear hc hlen hmax
  have HG := Lib.hid hg
  clear hg
  by_cases h1 : n < -4194303 ∨ 4194303 < n
  · have c1 := iZigzag n (-1) w1 (Zz_out h1)
    have c2 := sZigzag n (-1) w1 (Zz_out h1)
    clear h1
    go_wp2_with fail
    refine c1.mono ?_
    rintro e w' ⟨rfl, rfl⟩
    clear c1
    go_wp2_with fail
    refine c2.mono ?_
    rintro e w' ⟨rfl, rfl⟩
    go_wp2_with fail
    refine c2.mono ?_
    rintro e w' ⟨rfl, rfl⟩
    go_wp2
    go_ret
    exact ⟨rfl, HG.out⟩
  by_cases h3 : 0 ≤ n
  · have c1 := iZigzag n (2 * n) w1 (Zz_pos (by omega) (by omega))
    have c2 := sZigzag n (2 * n) w1 (Zz_pos (by omega) (by omega))
    by_cases h4 : 4194303 < n + 1
    · have l1 : 4194303 < n + 1 := h4
      clear h1
      go_wp2_with fail
      refine c1.mono ?_
      rintro e w' ⟨rfl, rfl⟩
      clear c1
      go_wp2_with fail
      refine c2.mono ?_
      rintro e w' ⟨rfl, rfl⟩
      clear c2
      go_wp2
      go_ret
      exact ⟨rfl, HG.out⟩
    · have c3 := iZigzag (n + 1) (2 * (n + 1)) w1 (Zz_pos (by omega) (by omega))
      have c4 := iZigzag (-(n + 1)) (2 * (n + 1) - 1) w1 (by rw [Zz_neg (by omega) (by omega)]; omega)
      have l1 : n + 1 ≤ 4194303 := by omega
      have d5 : decide (2 * n < 2 * (n + 1) - 1) = true := by simp; omega
      clear h1 h4
      go_wp2_with fail
      refine c1.mono ?_
      rintro e w' ⟨rfl, rfl⟩
      clear c1
      go_wp2_with fail
      refine c2.mono ?_
      rintro e w' ⟨rfl, rfl⟩
      clear c2
      go_wp2_with fail
      refine c3.mono ?_
      rintro e w' ⟨rfl, rfl⟩
      clear c3
      go_wp2_with fail
      refine c4.mono ?_
      rintro e w' ⟨rfl, rfl⟩
      clear c4
      go_wp2
      go_ret
      exact ⟨rfl, HG.out⟩
  · have h3 : n < 0 := by omega
    have c1 := iZigzag n (-2 * n - 1) w1 (Zz_neg (by omega) h3)
    have c2 := sZigzag n (-2 * n - 1) w1 (Zz_neg (by omega) h3)
    by_cases h4 : 4194303 < -n + 1
    · have l1 : 4194303 < -n + 1 := h4
      clear h1
      go_wp2_with fail
      refine c1.mono ?_
      rintro e w' ⟨rfl, rfl⟩
      clear c1
      go_wp2_with fail
      refine c2.mono ?_
      rintro e w' ⟨rfl, rfl⟩
      clear c2
      go_wp2
      go_ret
      exact ⟨rfl, HG.out⟩
    · have c3 := iZigzag (-n + 1) (2 * (-n + 1)) w1 (Zz_pos (by omega) (by omega))
      have c4 := iZigzag (-(-n + 1)) (2 * (-n + 1) - 1) w1 (by rw [Zz_neg (by omega) (by omega)]; omega)
      have l1 : -n + 1 ≤ 4194303 := by omega
      have d5 : decide (-2 * n < 2 * (-n + 1)) = true := by simp; omega
      clear h1 h4
      go_wp2_with fail
      refine c1.mono ?_
      rintro e w' ⟨rfl, rfl⟩
      clear c1
      go_wp2_with fail
      refine c2.mono ?_
      rintro e w' ⟨rfl, rfl⟩
      clear c2
      go_wp2_with fail
      refine c3.mono ?_
      rintro e w' ⟨rfl, rfl⟩
      clear c3
      go_wp2_with fail
      refine c4.mono ?_
      rintro e w' ⟨rfl, rfl⟩
      clear c4
      go_wp2
      go_ret
      exact ⟨rfl, HG.out⟩

theorem Rl_zero {k : Int} (h : 0 ≤ k) (h' : k ≤ 14) : Rl 0 k = k + 1 := by
  have hz : Zz 0 = 0 := by decide
  rw [Rl_in (by rw [hz]; simp; omega), hz]; simp; omega
theorem Zz_uz {z : Int} (h : 0 ≤ z) (h' : z ≤ 8388606) : Zz (uz z) = z := by
  rcases (show z % 2 = 1 ∨ z % 2 = 0 by omega) with h3 | h3
  · rw [uz_odd h3, Zz_neg (by omega) (by omega)]; omega
  · rw [uz_even h3, Zz_pos (by omega) (by omega)]; omega
theorem Rl_more {n m k : Int} (hz : Zz m = Zz n + 1) : Rl m k < 0 ∨ Rl n k ≤ Rl m k := by
  by_cases h : Zz m < 0 ∨ k < 0 ∨ 14 < k ∨ 500 < Zz m / 2 ^ k.toNat
  · left; rw [Rl_out h]; omega
  · right
    have hp : (0 : Int) < 2 ^ k.toNat := Int.pow_pos (by decide)
    have hle : Zz n / 2 ^ k.toNat ≤ Zz m / 2 ^ k.toNat := Int.ediv_le_ediv hp (by omega)
    by_cases h2 : Zz n < 0 ∨ k < 0 ∨ 14 < k ∨ 500 < Zz n / 2 ^ k.toNat
    · have hm0 : 0 ≤ Zz m / 2 ^ k.toNat := Int.ediv_nonneg (by omega) (by omega)
      rw [Rl_out h2, Rl_in h]; omega
    · rw [Rl_in h, Rl_in h2]; omega
theorem Rl_nonneg {n k : Int} (h : 0 ≤ Rl n k) : 0 ≤ k ∧ k ≤ 14 ∧ 0 ≤ Zz n := by
  by_cases h2 : Zz n < 0 ∨ k < 0 ∨ 14 < k ∨ 500 < Zz n / 2 ^ k.toNat
  · rw [Rl_out h2] at h; omega
  · omega
theorem Rl_le (n k : Int) : -1 ≤ Rl n k ∧ Rl n k ≤ 515 := by
  by_cases h2 : Zz n < 0 ∨ k < 0 ∨ 14 < k ∨ 500 < Zz n / 2 ^ k.toNat
  · rw [Rl_out h2]; omega
  · have hp : (0 : Int) < 2 ^ k.toNat := Int.pow_pos (by decide)
    have hm0 : 0 ≤ Zz n / 2 ^ k.toNat := Int.ediv_nonneg (by omega) (by omega)
    rw [Rl_in h2]; omega

set_option maxHeartbeats 400000 in
theorem FnRiceLengthParameter_walk (ao : Option Addr) (len cap : Nat) (w : World) (hb : BytesAt w ao len) (hlc : len ≤ cap) (hmax : len ≤ 9223372036854775807) :
    Calls Try.prog 6 #[.slice ao len cap] w (Holds w) := by
  have hc := DrawRiceLength_any ao len cap w hb hlc hmax
  clear hb hlc
  by_cases hlen : 1048576 < len
  · clear hc
    go_enter Try.func6, Try.ntmps6
    go_wp2
    go_ret
    exact ⟨rfl, grown_refl _ _⟩
  go_enter Try.func6, Try.ntmps6
  go_wp2_with fail
  refine hc.mono ?_
  rintro e w1 ⟨n, k, rfl, hl, hh, hl', hh', hg⟩
  clear hc hlen hmax
  have HG := Lib.hid hg
  clear hg
  have c1 := iRiceLength n k (Rl n k) w1 rfl
  have c2 := sRiceLength n k (Rl n k) w1 rfl
  by_cases h1 : Rl n k < 0
  · generalize Rl n k = y at *
    go_wp2_with fail
    refine c1.mono ?_
    rintro e w' ⟨rfl, rfl⟩
    clear c1
    go_wp2_with fail
    refine c2.mono ?_
    rintro e w' ⟨rfl, rfl⟩
    go_wp2_with fail
    refine c2.mono ?_
    rintro e w' ⟨rfl, rfl⟩
    go_wp2
    go_ret
    exact ⟨rfl, HG.out⟩
  obtain ⟨k0, k1, hz0⟩ := Rl_nonneg (by omega : 0 ≤ Rl n k)
  have hz1 := (Zz_le n).2
  have hy0 : 0 ≤ Rl n k := by omega
  have hy1 := (Rl_le n k).2
  have c3 := iZigzag n (Zz n) w1 rfl
  have c6 := iRiceLength 0 k (k + 1) w1 (Rl_zero k0 k1)
  by_cases h2 : Zz n + 1 ≤ 8388606
  · have c4 := iUnzigzag (Zz n + 1) (uz (Zz n + 1)) true w1 (Uz_in (by omega) h2).1 (Uz_in (by omega) h2).2
    have hm := Rl_more (n := n) (m := uz (Zz n + 1)) (k := k) (Zz_uz (by omega) h2)
    have c5 := iRiceLength (uz (Zz n + 1)) k (Rl (uz (Zz n + 1)) k) w1 rfl
    have hq := Rl_le (uz (Zz n + 1)) k
    generalize Rl (uz (Zz n + 1)) k = q at *
    generalize uz (Zz n + 1) = m at *
    generalize Zz n = z at *
    generalize Rl n k = y at *
    clear h1
    by_cases h5 : q < 0
    · clear hm
      go_wp2_with fail
      refine c1.mono ?_
      rintro e w' ⟨rfl, rfl⟩
      clear c1
      go_wp2_with fail
      refine c2.mono ?_
      rintro e w' ⟨rfl, rfl⟩
      clear c2
      go_wp2_with fail
      refine c3.mono ?_
      rintro e w' ⟨rfl, rfl⟩
      clear c3
      go_wp2_with fail
      refine c4.mono ?_
      rintro e w' ⟨rfl, rfl⟩
      clear c4
      go_wp2_with fail
      refine c5.mono ?_
      rintro e w' ⟨rfl, rfl⟩
      clear c5
      go_wp2_with fail
      refine c6.mono ?_
      rintro e w' ⟨rfl, rfl⟩
      clear c6
      go_wp2
      go_ret
      exact ⟨rfl, HG.out⟩
    · have h6 : y ≤ q := by omega
      have h5' : decide (q < 0) = false := by simp; omega
      clear hm
      go_wp2_with fail
      refine c1.mono ?_
      rintro e w' ⟨rfl, rfl⟩
      clear c1
      go_wp2_with fail
      refine c2.mono ?_
      rintro e w' ⟨rfl, rfl⟩
      clear c2
      go_wp2_with fail
      refine c3.mono ?_
      rintro e w' ⟨rfl, rfl⟩
      clear c3
      go_wp2_with fail
      refine c4.mono ?_
      rintro e w' ⟨rfl, rfl⟩
      clear c4
      go_wp2_with fail
      refine c5.mono ?_
      rintro e w' ⟨rfl, rfl⟩
      clear c5
      go_wp2_with fail
      refine c6.mono ?_
      rintro e w' ⟨rfl, rfl⟩
      clear c6
      go_wp2
      go_ret
      exact ⟨rfl, HG.out⟩
  · have c4 := iUnzigzag (Zz n + 1) 0 false w1 (Uz_out (by omega)).1 (Uz_out (by omega)).2
    generalize Zz n = z at *
    generalize Rl n k = y at *
    clear h1
    go_wp2_with fail
    refine c1.mono ?_
    rintro e w' ⟨rfl, rfl⟩
    clear c1
    go_wp2_with fail
    refine c2.mono ?_
    rintro e w' ⟨rfl, rfl⟩
    clear c2
    go_wp2_with fail
    refine c3.mono ?_
    rintro e w' ⟨rfl, rfl⟩
    clear c3
    go_wp2_with fail
    refine c4.mono ?_
    rintro e w' ⟨rfl, rfl⟩
    clear c4
    go_wp2_with fail
    refine c6.mono ?_
    rintro e w' ⟨rfl, rfl⟩
    clear c6
    go_wp2
    go_ret
    exact ⟨rfl, HG.out⟩

/-! ### The exact laws on numbers -/
def Same (w : World) (e : Ending) (w' : World) : Prop := e = .returned (.bool true) ∧ w = w'

set_option maxHeartbeats 400000 in
theorem FnExactZigzag_walk (n : Int) (w : World) : Calls Try.prog 14 #[.int .i64 n] w (Same w) := by
  have c1 := sZigzag n (Zz n) w rfl
  have c2 := iZigzag n (Zz n) w rfl
  generalize Zz n = z at *
  go_enter Try.func14, Try.ntmps14
  go_wp2_with fail
  refine c1.mono ?_
  rintro e w' ⟨rfl, rfl⟩
  clear c1
  go_wp2_with fail
  refine c2.mono ?_
  rintro e w' ⟨rfl, rfl⟩
  clear c2
  go_wp2
  go_ret
  exact ⟨rfl, rfl⟩

set_option maxHeartbeats 400000 in
theorem FnExactUnzigzag_walk (n : Int) (w : World) : Calls Try.prog 15 #[.int .i64 n] w (Same w) := by
  have c1 := sUnzigzag n (Uz n) (UzOk n) w rfl rfl
  have c2 := iUnzigzag n (Uz n) (UzOk n) w rfl rfl
  generalize Uz n = z at *
  generalize UzOk n = b at *
  go_enter Try.func15, Try.ntmps15
  go_wp2_with fail
  refine c1.mono ?_
  rintro e w' ⟨rfl, rfl⟩
  clear c1
  go_wp2_with fail
  refine c2.mono ?_
  rintro e w' ⟨rfl, rfl⟩
  clear c2
  go_wp2
  go_ret
  exact ⟨rfl, rfl⟩

set_option maxHeartbeats 400000 in
theorem FnExactRiceLength_walk (n k : Int) (w : World) : Calls Try.prog 16 #[.int .i64 n, .int .i64 k] w (Same w) := by
  have c1 := sRiceLength n k (Rl n k) w rfl
  have c2 := iRiceLength n k (Rl n k) w rfl
  generalize Rl n k = z at *
  go_enter Try.func16, Try.ntmps16
  go_wp2_with fail
  refine c1.mono ?_
  rintro e w' ⟨rfl, rfl⟩
  clear c1
  go_wp2_with fail
  refine c2.mono ?_
  rintro e w' ⟨rfl, rfl⟩
  clear c2
  go_wp2
  go_ret
  exact ⟨rfl, rfl⟩

end Go.Proofs.Ytdhfjaoaekdfbaa
