/-
  The walk of 'FnLoudnessWindow': it returns true and writes nothing that was there. For every code.
-/
import Derived.Test.YthjelbanelmekaaDrawLv
import Derived.Test.YthjelbanelmekaaLoS
import Derived.Test.YthjelbanelmekaaLoI
import Derived.Test.YthjelbanelmekaaMem
namespace Go.Proofs.Ythjelbanelmekaa
open Go.RowKit

theorem lou_half {xs : List Int} {w : Nat} : ∀ j, mxW xs (2 * w) j ≤ 2 * mxW xs w (j + w) ∧ ∀ i, i < j + w → sq xs (i + w) - sq xs i ≤ mxW xs w (j + w) := by
  have hm : ∀ (j i : Nat), i < j → sq xs (i + w) - sq xs i ≤ mxW xs w j := by
    intro j
    induction j with
    | zero => intro i h; omega
    | succ j ih =>
      intro i h
      show _ ≤ max (mxW xs w j) (sq xs (j + w) - sq xs j)
      by_cases hij : i = j
      · subst hij; omega
      · have := ih i (by omega); omega
  have h0 : ∀ j, 0 ≤ mxW xs w j := by
    intro j
    induction j with
    | zero => exact Int.le_refl _
    | succ j ih => show 0 ≤ max _ _; omega
  have hmono : ∀ j, mxW xs w j ≤ mxW xs w (j + 1) := fun j => by show _ ≤ max _ _; omega
  intro j
  refine ⟨?_, hm (j + w)⟩
  induction j with
  | zero => have := h0 (0 + w); show (0 : Int) ≤ _; omega
  | succ j ih =>
    have e1 := hm (j + 1 + w) j (by omega)
    have e2 := hm (j + 1 + w) (j + w) (by omega)
    have e3 := hmono (j + w)
    rw [show j + w + 1 = j + 1 + w by omega] at e3
    rw [show j + w + w = j + 2 * w by omega] at e2
    show max (mxW xs (2 * w) j) (sq xs (j + 2 * w) - sq xs j) ≤ _
    omega
theorem louL_twice {xs : List Int} {w : Nat} (hw : 0 < w) : louL (2 * w) xs / ((2 * w : Nat) : Int) ≤ louL w xs / (w : Int) := by
  unfold louL
  have h := (lou_half (xs := xs) (w := w) (xs.length + 1 - 2 * w)).1
  have hmono : ∀ (i j : Nat), i ≤ j → mxW xs w i ≤ mxW xs w j := by
    intro i j hij
    induction j with
    | zero => rw [show i = 0 by omega]; exact Int.le_refl _
    | succ j ih =>
      by_cases hi : i = j + 1
      · rw [hi]; exact Int.le_refl _
      · have := ih (by omega); show _ ≤ max _ _; omega
  have key : mxW xs (2 * w) (xs.length + 1 - 2 * w) ≤ 2 * mxW xs w (xs.length + 1 - w) := by
    by_cases hl : xs.length + 1 - 2 * w = 0
    · have h0 := hmono 0 (xs.length + 1 - w) (by omega)
      rw [hl]; show (0 : Int) ≤ _
      have : mxW xs w 0 = 0 := rfl
      omega
    · have := hmono (xs.length + 1 - 2 * w + w) (xs.length + 1 - w) (by omega)
      omega
  rw [show ((2 * w : Nat) : Int) = 2 * (w : Int) by omega, ← Int.ediv_ediv_of_nonneg (by omega)]
  exact Int.ediv_le_ediv (by omega) (by omega)
theorem louS_twice {w : Nat} (hw : 0 < w) (xss : List (List Int)) : ∀ m n : Int, m ≤ n → louS (2 * w) m xss ≤ louS w n xss := by
  induction xss with
  | nil => intro m n h; exact h
  | cons xs xss ih =>
    intro m n h
    have := louL_twice (xs := xs) hw
    exact ih _ _ (by show max m _ ≤ max n _; omega)
theorem lou_twice {r d : Int} {xss : List (List Int)} {x : Int} (h : ¬ louV r d xss x < 0) (h2 : 2 * x ≤ 256) : louV r d xss (2 * x) ≤ louV r d xss x := by
  by_cases hc : vAu r d xss = true ∧ 1 ≤ x ∧ x ≤ 256
  · obtain ⟨w, rfl⟩ := Int.eq_ofNat_of_zero_le (show 0 ≤ x by omega)
    rw [louV_yes hc.1 (by omega) (by omega), show 2 * (w : Int) = ((2 * w : Nat) : Int) by omega, louV_yes hc.1 (by omega) (by omega)]
    exact louS_twice (by omega) xss 0 0 (Int.le_refl _)
  · rw [louV_no hc] at h; omega

set_option maxRecDepth 100000 in
set_option maxHeartbeats 4000000 in
theorem FnLoudnessWindow_walk (ao : Option Addr) (len cap : Nat) (w : World) (hb : BytesAt w ao len) (hlc : len ≤ cap) (hmax : len ≤ 9223372036854775807) :
    Calls Try.prog 4 #[.slice ao len cap] w (Holds w) := by
  by_cases hlen : 1048576 < len
  · clear hb
    go_enter Try.func4, Try.ntmps4
    go_wp2
    go_ret
    exact ⟨rfl, grown_refl _ _⟩
  have hd := drawLo_any ao len cap w hb hlc hmax
  have hm : decide (1048576 < (len : Int)) = false := by simp; omega
  clear hb hlen
  go_enter Try.func4, Try.ntmps4
  go_wp2_with fail
  refine hd.mono ?_
  rintro e w1 ⟨p, q, a, l, c, xss, x0, rfl, hx0, hmat, hl2, hs2, hg1⟩
  have HM := Lib.hid (((Mem.start w).grown hg1).block (.cells #[.int .i64 p, .int .i64 q, .slice a l c] 25))
  have HX := Lib.hid (hmat.grown (grown_alloc w1 (.cells #[.int .i64 p, .int .i64 q, .slice a l c] 25) none))
  have hsz : szL xss ≤ 1048576 := by omega
  clear hd hmat hg1
  have hx0b : 0 ≤ x0 ∧ x0 ≤ 300 := by simp at hx0; omega
  have hx00 := hx0b.1
  have hx01 := hx0b.2
  clear hx0 hx0b
  obtain ⟨z, hz⟩ : ∃ z, louV p q xss x0 = z := ⟨_, rfl⟩
  have HZ := Lib.hid hz
  clear hz
  obtain ⟨q00, q01, q02⟩ := three_cells (HM.out.get (b := w1.heap.size) (o := .cells #[.int .i64 p, .int .i64 q, .slice a l c] 25) (by simp))
  go_wp2_with fail
  refine (iLo_any xss a l c p q x0 _ z HX.out hsz HZ.out).mono ?_
  rintro e w2 ⟨rfl, hg2⟩
  have HM := Lib.hid (HM.out.grown hg2)
  have HX := Lib.hid (HX.out.grown hg2)
  clear q00 q01 q02 hg2
  obtain ⟨q00, q01, q02⟩ := three_cells (HM.out.get (b := w1.heap.size) (o := .cells #[.int .i64 p, .int .i64 q, .slice a l c] 25) (by simp))
  go_wp2_with fail
  refine (sLo_any xss a l c p q x0 _ z HX.out hsz HZ.out).mono ?_
  rintro e w3 ⟨rfl, hg3⟩
  have HM := Lib.hid (HM.out.grown hg3)
  have HX := Lib.hid (HX.out.grown hg3)
  clear q00 q01 q02 hg3
  by_cases hzn : z < 0
  · have hb : decide (z < 0) = true := by simpa using hzn
    obtain ⟨q00, q01, q02⟩ := three_cells (HM.out.get (b := w1.heap.size) (o := .cells #[.int .i64 p, .int .i64 q, .slice a l c] 25) (by simp))
    go_wp2_with fail
    refine (sLo_any xss a l c p q x0 _ z HX.out hsz HZ.out).mono ?_
    rintro e w4 ⟨rfl, hg4⟩
    have HM := Lib.hid (HM.out.grown hg4)
    have HX := Lib.hid (HX.out.grown hg4)
    clear q00 q01 q02 hg4
    obtain ⟨q00, q01, q02⟩ := three_cells (HM.out.get (b := w1.heap.size) (o := .cells #[.int .i64 p, .int .i64 q, .slice a l c] 25) (by simp))
    go_wp2
    go_ret
    exact ⟨rfl, HM.out.g⟩
  have hb : decide (z < 0) = false := by simpa using hzn
  by_cases hw2 : 256 < 2 * x0
  · have hb2 : decide (256 < 2 * x0) = true := by simpa using hw2
    obtain ⟨q00, q01, q02⟩ := three_cells (HM.out.get (b := w1.heap.size) (o := .cells #[.int .i64 p, .int .i64 q, .slice a l c] 25) (by simp))
    go_wp2_with fail
    refine (sLo_any xss a l c p q x0 _ z HX.out hsz HZ.out).mono ?_
    rintro e w4 ⟨rfl, hg4⟩
    have HM := Lib.hid (HM.out.grown hg4)
    have HX := Lib.hid (HX.out.grown hg4)
    clear q00 q01 q02 hg4
    obtain ⟨q00, q01, q02⟩ := three_cells (HM.out.get (b := w1.heap.size) (o := .cells #[.int .i64 p, .int .i64 q, .slice a l c] 25) (by simp))
    go_wp2
    go_ret
    exact ⟨rfl, HM.out.g⟩
  have hb2 : decide (256 < 2 * x0) = false := by simp; omega
  obtain ⟨y, hy⟩ : ∃ y, louV p q xss (2 * x0) = y := ⟨_, rfl⟩
  have hle : y ≤ z := by rw [← hy, ← HZ.out]; exact lou_twice (by rw [HZ.out]; exact hzn) (by omega)
  have HY := Lib.hid hy
  have hb3 : decide (y ≤ z) = true := by simpa using hle
  clear hy hle
  obtain ⟨q00, q01, q02⟩ := three_cells (HM.out.get (b := w1.heap.size) (o := .cells #[.int .i64 p, .int .i64 q, .slice a l c] 25) (by simp))
  go_wp2_with fail
  refine (iLo_any xss a l c p q (2 * x0) _ y HX.out hsz HY.out).mono ?_
  rintro e w4 ⟨rfl, hg4⟩
  have HM := Lib.hid (HM.out.grown hg4)
  have HX := Lib.hid (HX.out.grown hg4)
  clear q00 q01 q02 hg4
  obtain ⟨q00, q01, q02⟩ := three_cells (HM.out.get (b := w1.heap.size) (o := .cells #[.int .i64 p, .int .i64 q, .slice a l c] 25) (by simp))
  go_wp2
  go_ret
  exact ⟨rfl, HM.out.g⟩

end Go.Proofs.Ythjelbanelmekaa
