/-
  The program's reader of bits: what it holds, and what a number read does to it. For valid bits.
-/
import Derived.Test.YtcgcippniicaaaaDoorWtr2
import Derived.IntWalk
namespace Go.Proofs.YtcgcippniicaaaaDoor
open Go.RowKit

/-- The number in the next bits. -/
def numV (bs : List Bool) (at_ : Nat) : Nat → Int
  | 0 => 0
  | k + 1 => 2 * numV bs at_ k + cb bs (at_ + k)
theorem numV_range (bs : List Bool) (at_ k : Nat) : 0 ≤ numV bs at_ k ∧ numV bs at_ k < 2 ^ k := by
  induction k with
  | zero => simp [numV]
  | succ k ih =>
    have := cb_range bs (at_ + k)
    simp only [numV, Int.pow_succ]
    omega

/-- A reader lies in block B, at a place of bits; nothing older than w0 has turned. -/
structure Rdb (w0 w : World) (B : Nat) (ao : Option Addr) (len cap cnt at_ : Nat) : Prop where
  h : w.heap[B]? = some (.cells #[.slice ao len cap, .int .i64 (cnt : Int), .int .i64 (at_ : Int)] 87 (0, 0))
  g : w0.grownBy w none
  lo : w0.heap.size ≤ B

theorem Rdb.grown {w0 w w' : World} {B : Nat} {ao : Option Addr} {len cap cnt at_ : Nat} (h : Rdb w0 w B ao len cap cnt at_) (hg : w.grownBy w' none) : Rdb w0 w' B ao len cap cnt at_ :=
  ⟨grown_heap hg h.h (by simp), grown_trans h.g hg, h.lo⟩
theorem Rdb.step {w0 w : World} {B : Nat} {ao : Option Addr} {len cap cnt at_ : Nat} (h : Rdb w0 w B ao len cap cnt at_) : Rdb w0 (w.setCell ⟨B, 2, none⟩ (.int .i64 ((at_ : Int) + 1))) B ao len cap cnt (at_ + 1) :=
  ⟨by rw [heap_setCell_same w B 2 _ _ _ h.h]; rfl, grown_set h.g h.lo, h.lo⟩
theorem Rdb.cells {w0 w : World} {B : Nat} {ao : Option Addr} {len cap cnt at_ : Nat} (h : Rdb w0 w B ao len cap cnt at_) :
    w.cell? ⟨B, 0, none⟩ = some (.slice ao len cap) ∧ w.cell? ⟨B, 1, none⟩ = some (.int .i64 (cnt : Int)) ∧ w.cell? ⟨B, 2, none⟩ = some (.int .i64 (at_ : Int)) ∧ w.frozen? ⟨B, 2, none⟩ = false :=
  ⟨by rw [cell_of_row w _ 0 _ _ _ h.h]; rfl, by rw [cell_of_row w _ 1 _ _ _ h.h]; rfl, by rw [cell_of_row w _ 2 _ _ _ h.h]; rfl, frozen_of_row w _ 2 _ _ h.h⟩

theorem pow32' (n : Nat) (h : n ≤ 32) : (2 : Int) ^ n ≤ 4294967296 := by
  have h1 : (2 : Nat) ^ n ≤ 4294967296 := Nat.le_trans (Nat.pow_le_pow_right (by decide) h) (by decide)
  have e : (2 : Int) ^ n = ((2 ^ n : Nat) : Int) := by simp
  rw [e]
  omega

theorem and_byte (bs : List Bool) (i r : Nat) (y : Int) (hy : byteAt bs (i / 8) = y) (hr : i % 8 = r) : bits .and .i64 (y / 2 ^ (7 - r)) 1 = cb bs i := by
  have hb := byteAt_range bs (i / 8)
  have h1 := byte_bit bs i
  rw [hy] at hb h1
  rw [hr] at h1
  obtain ⟨n, rfl⟩ := Int.eq_ofNat_of_zero_le hb.1
  have e : (n : Int) / 2 ^ (7 - r) = ((n / 2 ^ (7 - r) : Nat) : Int) := by simp
  rw [e, and_one _ (Nat.lt_of_le_of_lt (Nat.div_le_self _ _) (by omega)), ← h1, e]
  rfl

set_option maxRecDepth 100000 in
set_option maxHeartbeats 4000000 in
theorem get_good (bs : List Bool) (wd : Nat) (w0 w : World) (B : Nat) (ao : Option Addr) (len cap at_ : Nat) (hx : Ints w0 ao len (pk bs)) (hR : Rdb w0 w B ao len cap bs.length at_) (hb : bs.length ≤ 16384) (hwd : wd ≤ 32) (hat : at_ + wd ≤ bs.length) :
    Calls Tryd.prog 43 #[.pointer (some ⟨B, 0, none⟩), .int .i64 (wd : Int)] w fun e w' => e = .returned (.tuple #[.int .i64 (numV bs at_ wd), .nilIface]) ∧ Rdb w0 w' B ao len cap bs.length (at_ + wd) := by
  obtain ⟨m, hm⟩ : ∃ m, bs.length = m := ⟨_, rfl⟩
  have hl := hx.1
  rw [pk_len] at hl
  rw [hm] at hR hb hat hl ⊢
  obtain ⟨q0, q1, q2, q3⟩ := hR.cells
  have HX := Lib.hid hx
  have HR := Lib.hid hR
  have HM := Lib.hid hm
  have HL := Lib.hid hl
  have d1 : decide ((wd : Int) < 0) = false := by simp
  have d2 : decide (32 < (wd : Int)) = false := by simp; omega
  have d3 : decide ((m : Int) - (at_ : Int) < (wd : Int)) = false := by simp; omega
  have hw0 : IntKind.i64.wrap ((m : Int) - (at_ : Int)) = (m : Int) - (at_ : Int) := IntWalk.i64_in _ (by omega)
  clear hx hR hm hl
  go_enter Tryd.func43, Tryd.ntmps43
  go_wp2
  go_quiet (fail)
  clear hw0
  go_wp2
  go_loopw [6, 28] (fun nv iv wr => ∃ (k : Nat) (n : Int), k ≤ wd ∧ iv = .int .i64 k ∧ nv = .int .i64 n ∧ Hid (numV bs at_ k = n) ∧ Hid (Rdb w0 wr B ao len cap m (at_ + k))) (fun _ iv _ => wd - (intOf iv).toNat)
  case atStart => exact ⟨0, 0, Nat.zero_le _, rfl, rfl, rfl, HR.out.grown (grown_drewN _ _ _)⟩
  case round =>
    obtain ⟨k, n, hk, rfl, rfl, hn, HR⟩ := hrel
    by_cases hlt : k < wd
    · obtain ⟨p0, p1, p2, p3⟩ := HR.out.cells
      obtain ⟨j, hj⟩ : ∃ j, at_ + k = j := ⟨_, rfl⟩
      rw [hj] at p2
      obtain ⟨q, hq⟩ : ∃ q, j / 8 = q := ⟨_, rfl⟩
      obtain ⟨r, hr⟩ : ∃ r, j % 8 = r := ⟨_, rfl⟩
      have hlen : j / 8 < len := by have := HL.out; omega
      obtain ⟨y, hy⟩ : ∃ y, byteAt bs (j / 8) = y := ⟨_, rfl⟩
      have hget : (pk bs)[j / 8]? = some y := by rw [← hy]; exact pk_get (by have := HM.out; omega)
      obtain ⟨b, off, hab, hc⟩ := HX.out.2.resolve_left (by intro e; rw [e] at hget; simp at hget)
      subst hab
      have hcy : wr.cell? ⟨b, off + q, none⟩ = some (.int .i64 y) := by rw [← hq]; exact HR.out.g.cell (hc _ _ hget) (by simp)
      have hbit := and_byte bs j r y hy hr
      have hbr := cb_range bs j
      have hnr := numV_range bs at_ k
      rw [hn.out] at hnr
      have hn0 := hnr.1
      have hn1 : n < 4294967296 := Int.lt_of_lt_of_le hnr.2 (by have := pow32' k (by omega); omega)
      have hyr := byteAt_range bs (j / 8)
      rw [hy] at hyr
      have hy0 := hyr.1
      have hy1 := hyr.2
      have iq : (j : Int) / 8 = (q : Int) := by omega
      have ir : (j : Int) % 8 = (r : Int) := by omega
      have hql : q < len := by omega
      have hjb : j ≤ 16384 := by omega
      have HW2 : Hid (∀ nq : Nat, Rdb w0 ((wr.drewN nq).setCell ⟨B, 2, none⟩ (.int .i64 ((j : Int) + 1))) B (some ⟨b, off, none⟩) len cap m (at_ + (k + 1))) := fun nq => by
        have h := (HR.out.grown (grown_drewN wr nq none)).step
        rw [hj] at h
        rw [show at_ + (k + 1) = j + 1 by omega]
        exact h
      have iq2 : (j : Int).tdiv 8 = (q : Int) := by rw [Int.tdiv_eq_ediv_of_nonneg (by omega)]; exact iq
      have ir2 : (j : Int).tmod 8 = (r : Int) := by rw [Int.tmod_eq_emod_of_nonneg (by omega)]; exact ir
      have hqi : (q : Int) < (len : Int) := by omega
      have hwq : IntKind.i64.wrap (q : Int) = (q : Int) := IntWalk.i64_in _ (by omega)
      have hwr : IntKind.i64.wrap (r : Int) = (r : Int) := IntWalk.i64_in _ (by omega)
      have hwn : IntKind.i64.wrap (2 * n) = 2 * n := IntWalk.i64_in _ (by omega)
      have HN : Hid (numV bs at_ (k + 1) = 2 * n + cb bs j) := by show _ = _; simp only [numV]; rw [hn.out, hj]
      have HB := Lib.hid hbit
      have HJ := Lib.hid hj
      have HBR := Lib.hid hbr
      have hr8 : r = 0 ∨ r = 1 ∨ r = 2 ∨ r = 3 ∨ r = 4 ∨ r = 5 ∨ r = 6 ∨ r = 7 := by omega
      clear hc hget hbit hbr hnr hyr hy hq hr hj hlen
      rcases hr8 with rfl | rfl | rfl | rfl | rfl | rfl | rfl | rfl
      all_goals first
        | (exfalso; omega)
        | (skip
           go_wp2
           go_quiet (fail)
           go_wp2
           clear hwq hwr hwn iq2 ir2
           go_roundw
           case rel =>
             refine ⟨k + 1, 2 * n + cb bs j, by omega, by go_num, ?_, HN, HW2.out _⟩
             have hb := HBR.out
             have hw : wrap64 (2 * n + cb bs j) = 2 * n + cb bs j := by unfold wrap64; omega
             first | rw [show bits .and .i64 (y / 128) 1 = cb bs j from HB.out] | rw [show bits .and .i64 (y / 64) 1 = cb bs j from HB.out] | rw [show bits .and .i64 (y / 32) 1 = cb bs j from HB.out] | rw [show bits .and .i64 (y / 16) 1 = cb bs j from HB.out] | rw [show bits .and .i64 (y / 8) 1 = cb bs j from HB.out] | rw [show bits .and .i64 (y / 4) 1 = cb bs j from HB.out] | rw [show bits .and .i64 (y / 2) 1 = cb bs j from HB.out] | rw [show bits .and .i64 (y / 1) 1 = cb bs j from HB.out] | rw [show bits .and .i64 y 1 = cb bs j by have := HB.out; simpa using this]
             rw [hw]
           case measure => simp [intOf]; omega)
    · obtain rfl : k = wd := by omega
      have HF : Hid (numV bs at_ k = n) := hn
      go_wp2
      go_ret2
      exact ⟨by rw [HF.out]; rfl, HR.out⟩

end Go.Proofs.YtcgcippniicaaaaDoor
