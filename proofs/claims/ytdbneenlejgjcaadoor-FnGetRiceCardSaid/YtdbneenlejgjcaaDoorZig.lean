/-
  The statements on Zigzag, Unzigzag and RiceLength: the draws of their numbers, and the walks of the laws. For every code.
-/
import Derived.Test.YtdbneenlejgjcaaDoorNum
import Derived.Outline
namespace Go.Proofs.YtdbneenlejgjcaaDoor
open Go.RowKit

set_option maxHeartbeats 400000 in
theorem anySigned_any (r P : Nat) (w : World) (hR : Rdr w r P) (hP : P < 900000) :
    Calls Tryd.prog 35 #[.pointer (some ⟨r, 0, none⟩)] w (Drawn (-4194304) 4194304 r (P + 3) w) := by
  go_enter Tryd.func35, Tryd.ntmps35
  go_wp2_with fail
  refine (pick_any 12 r P _ hR (by omega) (by omega)).mono ?_
  rintro e w1 ⟨m, rfl, hm0, hm1, _, hR1, hg⟩
  clear hR
  by_cases h0 : m = 0
  · subst h0
    go_wp2_with fail
    refine (one_lit [4194303, -4194303, 4194304, -4194304] _ r (P + 1) _ w1 hR1 (by omega) (by decide) (by decide)).mono ?_
    rintro e w2 ⟨x, hx, rfl, hR2, hg2⟩
    have HF := Lib.hid (show Drawn (-4194304) 4194304 r (P + 3) w (.returned (.int .i64 x)) w2 from
      ⟨x, rfl, by simp at hx; omega, by simp at hx; omega, hR2.mono (by omega), grown_trans hg hg2⟩)
    clear hx hR1 hR2 hg hg2 hm1
    go_wp2
    go_ret
    exact HF.out
  have h0' : (m == 0) = false := by simpa using h0
  by_cases h1 : m = 1
  · subst h1
    clear h0 h0'
    go_wp2_with fail
    refine (pick_any 250 r (P + 1) _ hR1 (by omega) (by omega)).mono ?_
    rintro e w2 ⟨a, rfl, ha0, ha1, _, hR2, hg2⟩
    clear hR1
    go_wp2_with fail
    refine (pick_any 250 r (P + 2) _ hR2 (by omega) (by omega)).mono ?_
    rintro e w3 ⟨b, rfl, hb0, hb1, _, hR3, hg3⟩
    clear hR2
    have ha2 : a < 250 := ha1 (by omega)
    have hb2 : b < 250 := hb1 (by omega)
    have hab0 : 0 ≤ a * b := Int.mul_nonneg ha0 hb0
    have hab : a * b ≤ 249 * 249 := Int.mul_le_mul (by omega) (by omega) hb0 (by omega)
    have HF := Lib.hid (show Drawn (-4194304) 4194304 r (P + 3) w (.returned (.int .i64 (a * b - 30000))) w3 from
      ⟨_, rfl, by omega, by omega, hR3, grown_trans hg (grown_trans hg2 hg3)⟩)
    clear ha1 hb1 hg hg2 hg3 hR3
    go_wp2
    go_ret
    exact HF.out
  · have h1' : (m == 1) = false := by simpa using h1
    clear h0 h1
    go_wp2_with fail
    refine (pick_any 60 r (P + 1) _ hR1 (by omega) (by omega)).mono ?_
    rintro e w2 ⟨a, rfl, ha0, ha1, _, hR2, hg2⟩
    have ha2 : a < 60 := ha1 (by omega)
    have HF := Lib.hid (show Drawn (-4194304) 4194304 r (P + 3) w (.returned (.int .i64 (a - 30))) w2 from
      ⟨_, rfl, by omega, by omega, hR2.mono (by omega), grown_trans hg hg2⟩)
    clear ha1 hg hg2 hR1 hR2
    go_wp2
    go_ret
    exact HF.out

set_option maxHeartbeats 400000 in
theorem anyRice_any (r P : Nat) (w : World) (hR : Rdr w r P) (hP : P < 900000) :
    Calls Tryd.prog 36 #[.pointer (some ⟨r, 0, none⟩)] w (Drawn (-1) 15 r (P + 1) w) := by
  go_enter Tryd.func36, Tryd.ntmps36
  go_wp2_with fail
  refine (one_lit [0, 1, 2, 3, 4, 8, 14, 15, -1] _ r P _ w hR (by omega) (by decide) (by decide)).mono ?_
  rintro e w2 ⟨x, hx, rfl, hR2, hg2⟩
  have HF := Lib.hid (show Drawn (-1) 15 r (P + 1) w (.returned (.int .i64 x)) w2 from
      ⟨x, rfl, by simp at hx; omega, by simp at hx; omega, hR2, hg2⟩)
  clear hx hR hR2 hg2
  go_wp2
  go_ret
  exact HF.out

theorem DrawRiceLength_any (ao : Option Addr) (len cap : Nat) (w : World) (hb : BytesAt w ao len) (hlc : len ≤ cap) (hmax : len ≤ 9223372036854775807) :
    Calls Tryd.prog 12 #[.slice ao len cap] w (Num2 (-4194304) 4194304 (-1) 15 w) := by
  have hc := newReader_any ao len cap w hb hlc hmax
  clear hb hlc hmax
  go_enter Tryd.func12, Tryd.ntmps12
  go_wp2_with fail
  refine hc.mono ?_
  rintro e w1 ⟨rfl, hR, hg⟩
  clear hc
  go_wp2_with fail
  refine (anySigned_any _ 0 _ hR (by omega)).mono ?_
  rintro e w2 ⟨n, rfl, hl, hh, hR2, hg2⟩
  have HG := Lib.hid (grown_new hg hg2 (Nat.le_refl _))
  clear hR hg hg2
  go_wp2_with fail
  refine (anyRice_any _ 3 _ hR2 (by omega)).mono ?_
  rintro e w3 ⟨k, rfl, hl', hh', hR3, hg3⟩
  have HF := Lib.hid (grown_new HG.out hg3 (Nat.le_refl _))
  clear hR2 hR3 hg3
  go_wp2
  go_ret2
  exact ⟨n, k, rfl, hl, hh, hl', hh', HF.out⟩

/-! ### Zigzag, Unzigzag, RiceLength: what both texts compute -/
def zz (n : Int) : Int := if n < 0 then -2 * n - 1 else 2 * n
def Zz (n : Int) : Int := if n < -4194303 ∨ 4194303 < n then -1 else zz n
def uz (n : Int) : Int := if n % 2 = 1 then -((n + 1) / 2) else n / 2
def Rl (n k : Int) : Int := if Zz n < 0 ∨ k < 0 ∨ 14 < k ∨ 500 < Zz n / 2 ^ k.toNat then -1 else Zz n / 2 ^ k.toNat + 1 + k

theorem Zz_out {n : Int} (h : n < -4194303 ∨ 4194303 < n) : Zz n = -1 := by unfold Zz; rw [if_pos h]
theorem Zz_neg {n : Int} (h : -4194303 ≤ n) (h' : n < 0) : Zz n = -2 * n - 1 := by unfold Zz zz; rw [if_neg (by omega), if_pos h']
theorem Zz_pos {n : Int} (h : 0 ≤ n) (h' : n ≤ 4194303) : Zz n = 2 * n := by unfold Zz zz; rw [if_neg (by omega), if_neg (by omega)]
theorem Zz_le (n : Int) : -1 ≤ Zz n ∧ Zz n ≤ 8388606 := by unfold Zz zz; split <;> (try split) <;> omega

set_option maxHeartbeats 400000 in
theorem iZigzag (n z : Int) (w : World) (hz : Zz n = z) : Calls Tryd.prog 37 #[.int .i64 n] w fun e w' => e = .returned (.int .i64 z) ∧ w = w' := by
  subst hz
  by_cases h1 : n < -4194303
  · rw [Zz_out (Or.inl h1)]
    go_enter Tryd.func37, Tryd.ntmps37
    go_wp2
    go_ret
    exact ⟨rfl, rfl⟩
  by_cases h2 : 4194303 < n
  · rw [Zz_out (Or.inr h2)]
    have h1' : decide (n < -4194303) = false := by simp; omega
    have h2' : decide (4194303 < n) = true := by simp; omega
    go_enter Tryd.func37, Tryd.ntmps37
    go_wp2
    go_ret
    exact ⟨rfl, rfl⟩
  have h1' : decide (n < -4194303) = false := by simp; omega
  have h2' : decide (4194303 < n) = false := by simp; omega
  by_cases h3 : n < 0
  · rw [Zz_neg (by omega) h3]
    go_enter Tryd.func37, Tryd.ntmps37
    go_wp2
    go_ret
    exact ⟨rfl, rfl⟩
  · rw [Zz_pos (by omega) (by omega)]
    go_enter Tryd.func37, Tryd.ntmps37
    go_wp2
    go_ret
    exact ⟨rfl, rfl⟩


set_option maxHeartbeats 400000 in
theorem szigzag (n z : Int) (w : World) (h1 : -4194304 ≤ n) (h2 : n ≤ 4194304) (hz : zz n = z) : Calls Tryd.prog 39 #[.int .i64 n] w fun e w' => e = .returned (.int .i64 z) ∧ w = w' := by
  subst hz
  by_cases h3 : n < 0
  · rw [show zz n = -2 * n - 1 by unfold zz; rw [if_pos h3]]
    go_enter Tryd.func39, Tryd.ntmps39
    go_wp2
    go_ret
    exact ⟨rfl, rfl⟩
  · rw [show zz n = 2 * n by unfold zz; rw [if_neg h3]]
    go_enter Tryd.func39, Tryd.ntmps39
    go_wp2
    go_ret
    exact ⟨rfl, rfl⟩

def UzOk (n : Int) : Bool := inB n 0 8388606
def Uz (n : Int) : Int := if UzOk n then uz n else 0
theorem Uz_out {n : Int} (h : ¬ (0 ≤ n ∧ n ≤ 8388606)) : Uz n = 0 ∧ UzOk n = false := by
  have := inB_false h
  unfold Uz UzOk; simp [this]
theorem Uz_in {n : Int} (h : 0 ≤ n) (h' : n ≤ 8388606) : Uz n = uz n ∧ UzOk n = true := by
  have := inB_true h h'
  unfold Uz UzOk; simp [this]
theorem uz_odd {n : Int} (h : n % 2 = 1) : uz n = -((n + 1) / 2) := by unfold uz; rw [if_pos h]
theorem uz_even {n : Int} (h : n % 2 = 0) : uz n = n / 2 := by unfold uz; rw [if_neg (by omega)]
set_option maxHeartbeats 400000 in
theorem iUnzigzag (n x : Int) (b : Bool) (w : World) (hx : Uz n = x) (hb : UzOk n = b) :
    Calls Tryd.prog 78 #[.int .i64 n] w fun e w' => e = .returned (.tuple #[.int .i64 x, .bool b]) ∧ w = w' := by
  subst hx hb
  by_cases h : 0 ≤ n ∧ n ≤ 8388606
  · obtain ⟨h1, h2⟩ := h
    rw [(Uz_in h1 h2).1, (Uz_in h1 h2).2]
    have h1' : decide (n < 0) = false := by simp; omega
    have h2' : decide (8388606 < n) = false := by simp; omega
    rcases (show n % 2 = 1 ∨ n % 2 = 0 by omega) with h3 | h3
    · rw [uz_odd h3]
      have hq : (n + 1).tdiv 2 = (n + 1) / 2 := Int.tdiv_eq_ediv_of_nonneg (by omega)
      have h3' : (n % 2 == 1) = true := by simpa using h3
      clear h3
      go_enter Tryd.func78, Tryd.ntmps78
      go_wp2
      go_ret2
      exact ⟨rfl, rfl⟩
    · rw [uz_even h3]
      have h3' : (n % 2 == 1) = false := by simp; omega
      clear h3
      go_enter Tryd.func78, Tryd.ntmps78
      go_wp2
      go_ret2
      exact ⟨rfl, rfl⟩
  · rw [(Uz_out h).1, (Uz_out h).2]
    by_cases h1 : n < 0
    · clear h
      go_enter Tryd.func78, Tryd.ntmps78
      go_wp2
      go_ret2
      exact ⟨rfl, rfl⟩
    · have h1' : decide (n < 0) = false := by simp; omega
      have h2' : decide (8388606 < n) = true := by simp; omega
      clear h
      go_enter Tryd.func78, Tryd.ntmps78
      go_wp2
      go_ret2
      exact ⟨rfl, rfl⟩

set_option maxHeartbeats 400000 in
theorem sunzigzag (n : Int) (w : World) (h1 : 0 ≤ n) (h2 : n ≤ 17000000) : Calls Tryd.prog 79 #[.int .i64 n] w fun e w' => e = .returned (.int .i64 (uz n)) ∧ w = w' := by
  rcases (show n % 2 = 1 ∨ n % 2 = 0 by omega) with h3 | h3
  · rw [uz_odd h3]
    have hq : (n + 1).tdiv 2 = (n + 1) / 2 := Int.tdiv_eq_ediv_of_nonneg (by omega)
    have h3' : (n % 2 == 1) = true := by simpa using h3
    clear h3
    go_enter Tryd.func79, Tryd.ntmps79
    go_wp2
    go_ret
    exact ⟨rfl, rfl⟩
  · rw [uz_even h3]
    have h3' : (n % 2 == 1) = false := by simp; omega
    clear h3
    go_enter Tryd.func79, Tryd.ntmps79
    go_wp2
    go_ret
    exact ⟨rfl, rfl⟩

/-- The Rice length in the parts in which both texts ask. -/
theorem Rl_out {n k : Int} (h : Zz n < 0 ∨ k < 0 ∨ 14 < k ∨ 500 < Zz n / 2 ^ k.toNat) : Rl n k = -1 := by unfold Rl; rw [if_pos h]
theorem Rl_in {n k : Int} (h : ¬ (Zz n < 0 ∨ k < 0 ∨ 14 < k ∨ 500 < Zz n / 2 ^ k.toNat)) : Rl n k = Zz n / 2 ^ k.toNat + 1 + k := by unfold Rl; rw [if_neg h]
theorem Zz_neg_iff (n : Int) : Zz n < 0 ↔ ¬ (-4194303 ≤ n ∧ n ≤ 4194303) := by unfold Zz zz; split <;> (try split) <;> omega

set_option maxHeartbeats 400000 in
theorem iRiceLength (n k y : Int) (w : World) (hy : Rl n k = y) :
    Calls Tryd.prog 13 #[.int .i64 n, .int .i64 k] w fun e w' => e = .returned (.int .i64 y) ∧ w = w' := by
  subst hy
  have hz := iZigzag n (Zz n) w rfl
  have hle := Zz_le n
  by_cases h : Zz n < 0 ∨ k < 0 ∨ 14 < k ∨ 500 < Zz n / 2 ^ k.toNat
  · rw [Rl_out h]
    generalize Zz n = z at *
    by_cases a1 : z < 0
    · clear h
      go_enter Tryd.func13, Tryd.ntmps13
      go_wp2_with fail
      refine hz.mono ?_
      rintro e w' ⟨rfl, rfl⟩
      clear hz
      go_wp2
      go_ret
      exact ⟨rfl, rfl⟩
    have a1' : decide (z < 0) = false := by simp; omega
    by_cases a2 : k < 0
    · clear h
      go_enter Tryd.func13, Tryd.ntmps13
      go_wp2_with fail
      refine hz.mono ?_
      rintro e w' ⟨rfl, rfl⟩
      clear hz
      go_wp2
      go_ret
      exact ⟨rfl, rfl⟩
    have a2' : decide (k < 0) = false := by simp; omega
    by_cases a3 : 14 < k
    · clear h
      go_enter Tryd.func13, Tryd.ntmps13
      go_wp2_with fail
      refine hz.mono ?_
      rintro e w' ⟨rfl, rfl⟩
      clear hz
      go_wp2
      go_ret
      exact ⟨rfl, rfl⟩
    have a3' : decide (14 < k) = false := by simp; omega
    have a4 : 500 < z / 2 ^ k.toNat := by omega
    clear h
    go_enter Tryd.func13, Tryd.ntmps13
    go_wp2_with fail
    refine hz.mono ?_
    rintro e w' ⟨rfl, rfl⟩
    clear hz
    go_wp2
    go_ret
    exact ⟨rfl, rfl⟩
  · rw [Rl_in h]
    generalize Zz n = z at *
    have a1' : decide (z < 0) = false := by simp; omega
    have a2' : decide (k < 0) = false := by simp; omega
    have a3' : decide (14 < k) = false := by simp; omega
    have a4' : decide (500 < z / 2 ^ k.toNat) = false := by simp; omega
    have b1 : 0 ≤ k := by omega
    have b2 : k ≤ 14 := by omega
    have b3 : 0 ≤ z / 2 ^ k.toNat := Int.ediv_nonneg (by omega) (Int.pow_nonneg (by decide))
    have b4 : z / 2 ^ k.toNat ≤ 500 := by omega
    clear h
    go_enter Tryd.func13, Tryd.ntmps13
    go_wp2_with fail
    refine hz.mono ?_
    rintro e w' ⟨rfl, rfl⟩
    clear hz
    go_wp2
    go_ret
    exact ⟨rfl, rfl⟩

/-- Has a number a Rice code? -/
def Vr (n k : Int) : Bool := decide (¬ (Zz n < 0 ∨ k < 0 ∨ 14 < k ∨ 500 < Zz n / 2 ^ k.toNat))

set_option maxHeartbeats 400000 in
theorem validRice_any (n k : Int) (b : Bool) (w : World) (hb : Vr n k = b) :
    Calls Tryd.prog 38 #[.int .i64 n, .int .i64 k] w fun e w' => e = .returned (.bool b) ∧ w = w' := by
  subst hb
  by_cases h : -4194303 ≤ n ∧ n ≤ 4194303
  · have hr := inRange_any n (-4194303) 4194303 true w (inB_true h.1 h.2)
    have hz0 : Zz n = zz n := by unfold Zz; rw [if_neg (by omega)]
    have hc := szigzag n (Zz n) w (by omega) (by omega) hz0.symm
    have hle := Zz_le n
    have hnn : 0 ≤ Zz n := by have := Zz_neg_iff n; omega
    clear hz0
    by_cases hk : 0 ≤ k ∧ k ≤ 14
    · obtain ⟨b1, b2⟩ := hk
      have hr2 := inRange_any k 0 14 true w (inB_true b1 b2)
      have hv : Vr n k = decide (Zz n / 2 ^ k.toNat ≤ 500) := by unfold Vr; congr 1; apply propext; omega
      rw [hv]
      clear hv h
      generalize Zz n = z at *
      go_enter Tryd.func38, Tryd.ntmps38
      go_wp2_with fail
      refine hr.mono ?_
      rintro e w' ⟨rfl, rfl⟩
      clear hr
      go_wp2_with fail
      refine hr2.mono ?_
      rintro e w' ⟨rfl, rfl⟩
      clear hr2
      go_wp2_with fail
      refine hc.mono ?_
      rintro e w' ⟨rfl, rfl⟩
      clear hc
      go_wp2
      go_ret
      exact ⟨rfl, rfl⟩
    · have hr2 := inRange_any k 0 14 false w (inB_false hk)
      have hv : Vr n k = false := by unfold Vr; simp; omega
      rw [hv]
      clear hv h hk
      go_enter Tryd.func38, Tryd.ntmps38
      go_wp2_with fail
      refine hr.mono ?_
      rintro e w' ⟨rfl, rfl⟩
      clear hr
      go_wp2_with fail
      refine hr2.mono ?_
      rintro e w' ⟨rfl, rfl⟩
      clear hr2
      go_wp2
      go_ret
      exact ⟨rfl, rfl⟩
  · have hr := inRange_any n (-4194303) 4194303 false w (inB_false h)
    have hv : Vr n k = false := by unfold Vr; simp [(Zz_neg_iff n).2 h]
    rw [hv]
    clear hv h
    go_enter Tryd.func38, Tryd.ntmps38
    go_wp2_with fail
    refine hr.mono ?_
    rintro e w' ⟨rfl, rfl⟩
    clear hr
    go_wp2
    go_ret
    exact ⟨rfl, rfl⟩

set_option maxHeartbeats 400000 in
theorem sRiceLength (n k y : Int) (w : World) (hy : Rl n k = y) :
    Calls Tryd.prog 14 #[.int .i64 n, .int .i64 k] w fun e w' => e = .returned (.int .i64 y) ∧ w = w' := by
  subst hy
  have hle := Zz_le n
  by_cases h : Zz n < 0 ∨ k < 0 ∨ 14 < k ∨ 500 < Zz n / 2 ^ k.toNat
  · rw [Rl_out h]
    have hv := validRice_any n k false w (decide_eq_false (fun hn => hn h))
    clear h hle
    go_enter Tryd.func14, Tryd.ntmps14
    go_wp2_with fail
    refine hv.mono ?_
    rintro e w' ⟨rfl, rfl⟩
    clear hv
    go_wp2
    go_ret
    exact ⟨rfl, rfl⟩
  · rw [Rl_in h]
    have hv := validRice_any n k true w (decide_eq_true h)
    have hin : -4194303 ≤ n ∧ n ≤ 4194303 := by have := Zz_neg_iff n; omega
    have hz0 : Zz n = zz n := by unfold Zz; rw [if_neg (by omega)]
    have hc := szigzag n (Zz n) w (by omega) (by omega) hz0.symm
    clear hz0 hin
    generalize Zz n = z at *
    have b1 : 0 ≤ k := by omega
    have b2 : k ≤ 14 := by omega
    have b3 : 0 ≤ z / 2 ^ k.toNat := Int.ediv_nonneg (by omega) (Int.pow_nonneg (by decide))
    have b4 : z / 2 ^ k.toNat ≤ 500 := by omega
    clear h
    go_enter Tryd.func14, Tryd.ntmps14
    go_wp2_with fail
    refine hv.mono ?_
    rintro e w' ⟨rfl, rfl⟩
    clear hv
    go_wp2_with fail
    refine hc.mono ?_
    rintro e w' ⟨rfl, rfl⟩
    clear hc
    go_wp2
    go_ret
    exact ⟨rfl, rfl⟩

end Go.Proofs.YtdbneenlejgjcaaDoor
