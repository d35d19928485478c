/-
  GetBits of both texts: what they give for all arguments.
-/
import Derived.Test.YtcgcippniicaaaaDoorRdr
import Derived.Test.YtcgcippniicaaaaDoorSPut
import Derived.IntWalk
namespace Go.Proofs.YtcgcippniicaaaaDoor
open Go.RowKit

theorem rem_byte (bs : List Bool) (i r : Nat) (y : Int) (hy : byteAt bs (i / 8) = y) (hr : i % 8 = r) : y / 2 ^ (7 - r) % 2 = cb bs i := by
  have h1 := byte_bit bs i
  rw [hy, hr] at h1
  exact h1

set_option maxRecDepth 100000 in
set_option maxHeartbeats 4000000 in
theorem sget_any (bs : List Bool) (m at_ wd : Nat) (hm : bs.length = m) (ao : Option Addr) (len cap : Nat) (w : World) (hx : Ints w ao len (pk bs)) (hb : bs.length ≤ 16384) (hwd : wd ≤ 32) (hat : at_ + wd ≤ m) :
    Calls Tryd.prog 46 #[.agg #[.slice ao len cap, .int .i64 (m : Int)], .int .i64 (at_ : Int), .int .i64 (wd : Int)] w fun e w' => e = .returned (.int .i64 (numV bs at_ wd)) ∧ w.grownBy w' none := by
  have hl := hx.1
  rw [pk_len, hm] at hl
  rw [hm] at hb
  have HA := Lib.hid (grown_alloc w (.cells #[.slice ao len cap, .int .i64 (m : Int)] 25) none)
  have HX := Lib.hid (hx.grown HA.out)
  have HM := Lib.hid hm
  have HL := Lib.hid hl
  have hlb : len ≤ 2048 := by omega
  clear hx hm hl
  go_enter Tryd.func46, Tryd.ntmps46
  go_wp2
  go_loopw [7, 8] (fun nv iv wr => ∃ (k : Nat) (n : Int), k ≤ wd ∧ iv = .int .i64 ((at_ + k : Nat) : Int) ∧ nv = .int .i64 n ∧ Hid (numV bs at_ k = n) ∧ wr = w.alloc (.cells #[.slice ao len cap, .int .i64 (m : Int)] 25)) (fun _ iv _ => at_ + wd - (intOf iv).toNat)
  case atStart => exact ⟨0, 0, Nat.zero_le _, by simp, rfl, rfl, rfl⟩
  case round =>
    obtain ⟨k, n, hk, rfl, rfl, hn, rfl⟩ := hrel
    obtain ⟨j, hj⟩ : ∃ j, at_ + k = j := ⟨_, rfl⟩
    rw [hj]
    by_cases hlt : k < wd
    · have hd : decide ((j : Int) < (at_ : Int) + (wd : Int)) = true := by simp; omega
      obtain ⟨q, hq⟩ : ∃ q, j / 8 = q := ⟨_, rfl⟩
      obtain ⟨r, hr⟩ : ∃ r, j % 8 = r := ⟨_, rfl⟩
      have hlen : j / 8 < len := by have := HL.out; omega
      obtain ⟨y, hy⟩ : ∃ y, byteAt bs (j / 8) = y := ⟨_, rfl⟩
      have hget : (pk bs)[j / 8]? = some y := by rw [← hy]; exact pk_get (by have := HM.out; omega)
      obtain ⟨b, off, hab, hc⟩ := HX.out.2.resolve_left (by intro e; rw [e] at hget; simp at hget)
      subst hab
      have hcy : (w.alloc (.cells #[.slice (some ⟨b, off, none⟩) len cap, .int .i64 (m : Int)] 25)).cell? ⟨b, off + q, none⟩ = some (.int .i64 y) := by rw [← hq]; exact hc _ _ hget
      have hbit := rem_byte bs j r y hy hr
      have hbr := cb_range bs j
      have hnr := numV_range bs at_ k
      rw [hn.out] at hnr
      have hn0 := hnr.1
      have hn1 : n < 4294967296 := Int.lt_of_lt_of_le hnr.2 (by have := pow32' k (by omega); omega)
      have hyr := byteAt_range bs (j / 8)
      rw [hy] at hyr
      have hy0 := hyr.1
      have hy1 := hyr.2
      have iq : (j : Int) / 8 = (q : Int) := by omega
      have ir : (j : Int) % 8 = (r : Int) := by omega
      have iq2 : (j : Int).tdiv 8 = (q : Int) := by rw [Int.tdiv_eq_ediv_of_nonneg (by omega)]; exact iq
      have ir2 : (j : Int).tmod 8 = (r : Int) := by rw [Int.tmod_eq_emod_of_nonneg (by omega)]; exact ir
      have hql : q < len := by omega
      have hqi : (q : Int) < (len : Int) := by omega
      have hjb : j ≤ 16384 := by omega
      have HN : Hid (numV bs at_ (k + 1) = 2 * n + cb bs j) := by show _ = _; simp only [numV]; rw [hn.out, hj]
      have HB := Lib.hid hbit
      have HBR := Lib.hid hbr
      have HJ : Hid ((j : Int) + 1 = ((at_ + (k + 1) : Nat) : Int)) := by show _ = _; omega
      have hr8 : r = 0 ∨ r = 1 ∨ r = 2 ∨ r = 3 ∨ r = 4 ∨ r = 5 ∨ r = 6 ∨ r = 7 := by omega
      clear hc hget hbit hbr hnr hyr hy hq hr hlen
      rcases hr8 with rfl | rfl | rfl | rfl | rfl | rfl | rfl | rfl
      all_goals first
        | (exfalso; omega)
        | (skip
           go_wp2
           go_roundw
           case rel =>
             refine ⟨k + 1, 2 * n + cb bs j, by omega, by rw [← HJ.out], ?_, HN, trivial⟩
             have hb := HBR.out
             have hbb := HB.out
             simp at hbb
             congr 1
             go_num
           case measure => simp [intOf]; omega)
    · obtain rfl : k = wd := by omega
      have hd : decide ((j : Int) < (at_ : Int) + (k : Int)) = false := by simp; omega
      have HF : Hid (numV bs at_ k = n) := hn
      go_wp2
      go_ret
      exact ⟨by rw [HF.out]; rfl, HA.out⟩

end Go.Proofs.YtcgcippniicaaaaDoor
