/-
  The walks of both checks: the specification's loops, the program's table and its loops. For every list of bytes.
-/
import Derived.Test.YtdhfjaoaekdfbaaList
import Derived.Test.YtdhfjaoaekdfbaaCrcMath
import Derived.Deep.LoopGhost
namespace Go.Proofs.Ytdhfjaoaekdfbaa
open Go.RowKit

theorem allB_at {xs : List Int} {lo hi x : Int} {k : Nat} (h : allB xs lo hi = true) (hx : xs[k]? = some x) : lo ≤ x ∧ x ≤ hi := by
  unfold allB at h
  rw [List.all_eq_true] at h
  have := h x (List.mem_of_getElem? hx)
  simpa [inB] using this

def tabA (w d k : Nat) : Array Value := ((List.range 16).map fun i => Value.int .i64 (if i < k then (Crc.stps w d 4 (i * 2 ^ (w - 4)) : Nat) else 0 : Nat)).toArray
theorem tab_zero (w d : Nat) : tabA w d 0 = #[.int .i64 0, .int .i64 0, .int .i64 0, .int .i64 0, .int .i64 0, .int .i64 0, .int .i64 0, .int .i64 0, .int .i64 0, .int .i64 0, .int .i64 0, .int .i64 0, .int .i64 0, .int .i64 0, .int .i64 0, .int .i64 0] := rfl
theorem tab_size (w d k : Nat) : (tabA w d k).size = 16 := by simp [tabA]
theorem tab_get {w d k i : Nat} (h : i < 16) : (tabA w d k)[i]? = some (.int .i64 (if i < k then (Crc.stps w d 4 (i * 2 ^ (w - 4)) : Nat) else 0 : Nat)) := by
  simp [tabA, h]
theorem tab_set {w d k : Nat} (_h : k < 16) : (tabA w d k).setIfInBounds k (.int .i64 ((Crc.stps w d 4 (k * 2 ^ (w - 4)) : Nat) : Int)) = tabA w d (k + 1) := by
  apply Array.ext_getElem?
  intro i
  rw [Array.getElem?_setIfInBounds]
  by_cases h : i < 16
  · rw [tab_get h, tab_get h, tab_size]
    by_cases e : k = i
    · subst e; simp [_h]
    · rw [if_neg e]
      congr 3
      by_cases e2 : i < k
      · rw [if_pos e2, if_pos (by omega)]
      · rw [if_neg e2, if_neg (by omega)]
  · have h1 : ∀ k, (tabA w d k)[i]? = none := fun k => Array.getElem?_eq_none (by rw [tab_size]; omega)
    rw [h1, h1]
    split
    · rw [tab_size] at *; split <;> omega
    · rfl
set_option maxHeartbeats 400000 in
theorem four8 (w : World) :
    Calls Try.prog 74 #[.int .i64 8, .int .i64 263] w fun e w' => e = .returned (.agg (tabA 8 263 16)) ∧ w.grownBy w' none := by
  go_enter Try.func74, Try.ntmps74
  go_wp2
  go_loopw [8] (fun i wr => ∃ k : Nat, k ≤ 16 ∧ i = .int .i64 k ∧ wr.heap[w.heap.size + 1]? = some (.cells (tabA 8 263 k) 63 (0, 0)) ∧ wr.heap[w.heap.size]? = some (.cells #[.int .i64 0, .int .i64 0, .int .i64 0, .int .i64 0, .int .i64 0, .int .i64 0, .int .i64 0, .int .i64 0, .int .i64 0, .int .i64 0, .int .i64 0, .int .i64 0, .int .i64 0, .int .i64 0, .int .i64 0, .int .i64 0] 63 (0, 0)) ∧ w.grownBy wr none) (fun i _ => 16 - (intOf i).toNat)
  case atStart => 
    refine ⟨0, by omega, rfl, ?_, ?_, grown_trans (grown_alloc _ _ _) (grown_alloc _ _ _)⟩
    · exact heap_alloc2_new _ _ _
    · exact heap_alloc2_old _ _ _
  case round =>
    obtain ⟨k, hk, rfl, hB, hA, hg⟩ := hrel
    by_cases hlt : k < 16
    · have HB := Lib.hid hB
      have HA := Lib.hid hA
      have HG := Lib.hid hg
      clear hB hA hg
      go_wp2
      go_loop [7, 15] (fun n c => ∃ j a : Nat, j ≤ 4 ∧ n = .int .i64 a ∧ c = .int .i64 j ∧ a < 256 ∧ Hid (a = Crc.stps 8 263 j (k * 16))) (fun _ c => 4 - (intOf c).toNat)
      case atStart => exact ⟨0, k * 16, by omega, by go_num, rfl, by omega, rfl⟩
      case round =>
        obtain ⟨j, a, hj, rfl, rfl, ha, HS⟩ := hrel
        by_cases hjt : j < 4
        · by_cases hh : 256 ≤ 2 * a
          · have HN : Hid ((2 * a) ^^^ 263 = Crc.stps 8 263 (j + 1) (k * 16) ∧ (2 * a) ^^^ 263 < 256) := by
              have e : Crc.stps 8 263 (j + 1) (k * 16) = (2 * a) ^^^ 263 := by rw [Crc.stps, ← HS.out]; exact Crc.stp_hi Crc.fits8 ha hh
              exact ⟨e.symm, by rw [← e]; exact Crc.stps_lt Crc.fits8 (show k * 16 < 2 ^ 8 by omega)⟩
            have hx : bits .xor .i64 ((a : Int) * 2) 263 = (((2 * a) ^^^ 263 : Nat) : Int) := by
              have := i64_xor_nat (2 * a) 263 (by omega) (by omega)
              rw [← this]; congr 1; try omega
            have ht : ((a : Int) * 2 / 256 == 1) = true := by simp; omega
            go_wp2
            go_round
            case rel => exact ⟨j + 1, (2 * a) ^^^ 263, by omega, rfl, by go_num, HN.out.2, HN.out.1⟩
            case measure => simp [intOf]; omega
          · have HN : Hid (2 * a = Crc.stps 8 263 (j + 1) (k * 16)) := by
              show 2 * a = _
              rw [Crc.stps, ← HS.out]; exact (Crc.stp_lo Crc.fits8 (show 2 * a < 2 ^ 8 by omega)).symm
            have ht : ((a : Int) * 2 / 256 == 1) = false := by simp; omega
            have hlo : 2 * a < 256 := by omega
            go_wp2
            go_round
            case rel => exact ⟨j + 1, 2 * a, by omega, by go_num, by go_num, by omega, HN.out⟩
            case measure => simp [intOf]; omega
        · obtain rfl : j = 4 := by omega
          have hcell : wr.cell? ⟨w.heap.size + 1, k, none⟩ = some (.int .i64 0) := by
            rw [cell_of_row wr _ k _ _ _ HB.out, tab_get hlt, if_neg (by omega)]; rfl
          have hfz : wr.frozen? ⟨w.heap.size + 1, k, none⟩ = false := frozen_of_row wr _ k _ _ HB.out
          have R : Hid ((wr.setCell ⟨w.heap.size + 1, k, none⟩ (.int .i64 (a : Int))).heap[w.heap.size + 1]? = some (.cells (tabA 8 263 (k + 1)) 63 (0, 0)) ∧
              (wr.setCell ⟨w.heap.size + 1, k, none⟩ (.int .i64 (a : Int))).heap[w.heap.size]? = some (.cells #[.int .i64 0, .int .i64 0, .int .i64 0, .int .i64 0, .int .i64 0, .int .i64 0, .int .i64 0, .int .i64 0, .int .i64 0, .int .i64 0, .int .i64 0, .int .i64 0, .int .i64 0, .int .i64 0, .int .i64 0, .int .i64 0] 63 (0, 0)) ∧
              w.grownBy (wr.setCell ⟨w.heap.size + 1, k, none⟩ (.int .i64 (a : Int))) none) := by
            refine ⟨?_, ?_, grown_new HG.out (grown_setCell _ _ _) (by simp)⟩
            · rw [heap_setCell_same wr _ k _ _ _ HB.out, HS.out]; exact congrArg (fun x => some (Obj.cells x 63 (0, 0))) (tab_set hlt)
            · rw [heap_setCell_other _ _ _ _ (by simp)]; exact HA.out
          go_wp2
          go_roundw
          case rel => exact ⟨k + 1, by omega, by go_num, R.out.1, R.out.2.1, R.out.2.2⟩
          case measure => simp [intOf]; omega
    · obtain rfl : k = 16 := by omega
      have HG := Lib.hid hg
      have HB := Lib.hid hB
      have HA := Lib.hid hA
      clear hg hB hA hlt hk
      go_wp2_with (first
        | (refine wpList_load_row rfl 63 (.tmp 5) rfl (w.heap.size + 1) rfl 63 (tabA 8 263 16) (0, 0) _ HB.out Try.underlying63 rfl (by kernel_rfl) ?_)
        | (refine wpList_store_row rfl 63 (.tmp 4) (.tmp 31) rfl w.heap.size (tabA 8 263 16) rfl rfl 63 _ HA.out (by kernel_rfl) rfl (by kernel_rfl) ?_))
      exact bodyPost_ret (v := .agg (tabA 8 263 16)) (results_cell_row rfl _ _ w.heap.size 63 _ (0, 0) _ rfl (setRow_heap _ _ _ _ _ _ HA.out) Try.underlying63 rfl (by kernel_rfl)) rfl ⟨rfl, grown_new HG.out (grown_setRow _ _ _) (Nat.le_refl _)⟩

set_option maxHeartbeats 400000 in
theorem four16 (w : World) :
    Calls Try.prog 74 #[.int .i64 16, .int .i64 98309] w fun e w' => e = .returned (.agg (tabA 16 98309 16)) ∧ w.grownBy w' none := by
  go_enter Try.func74, Try.ntmps74
  go_wp2
  go_loopw [8] (fun i wr => ∃ k : Nat, k ≤ 16 ∧ i = .int .i64 k ∧ wr.heap[w.heap.size + 1]? = some (.cells (tabA 16 98309 k) 63 (0, 0)) ∧ wr.heap[w.heap.size]? = some (.cells #[.int .i64 0, .int .i64 0, .int .i64 0, .int .i64 0, .int .i64 0, .int .i64 0, .int .i64 0, .int .i64 0, .int .i64 0, .int .i64 0, .int .i64 0, .int .i64 0, .int .i64 0, .int .i64 0, .int .i64 0, .int .i64 0] 63 (0, 0)) ∧ w.grownBy wr none) (fun i _ => 16 - (intOf i).toNat)
  case atStart => 
    refine ⟨0, by omega, rfl, ?_, ?_, grown_trans (grown_alloc _ _ _) (grown_alloc _ _ _)⟩
    · exact heap_alloc2_new _ _ _
    · exact heap_alloc2_old _ _ _
  case round =>
    obtain ⟨k, hk, rfl, hB, hA, hg⟩ := hrel
    by_cases hlt : k < 16
    · have HB := Lib.hid hB
      have HA := Lib.hid hA
      have HG := Lib.hid hg
      clear hB hA hg
      go_wp2
      go_loop [7, 15] (fun n c => ∃ j a : Nat, j ≤ 4 ∧ n = .int .i64 a ∧ c = .int .i64 j ∧ a < 65536 ∧ Hid (a = Crc.stps 16 98309 j (k * 4096))) (fun _ c => 4 - (intOf c).toNat)
      case atStart => exact ⟨0, k * 4096, by omega, by go_num, rfl, by omega, rfl⟩
      case round =>
        obtain ⟨j, a, hj, rfl, rfl, ha, HS⟩ := hrel
        by_cases hjt : j < 4
        · by_cases hh : 65536 ≤ 2 * a
          · have HN : Hid ((2 * a) ^^^ 98309 = Crc.stps 16 98309 (j + 1) (k * 4096) ∧ (2 * a) ^^^ 98309 < 65536) := by
              have e : Crc.stps 16 98309 (j + 1) (k * 4096) = (2 * a) ^^^ 98309 := by rw [Crc.stps, ← HS.out]; exact Crc.stp_hi Crc.fits16 ha hh
              exact ⟨e.symm, by rw [← e]; exact Crc.stps_lt Crc.fits16 (show k * 4096 < 2 ^ 16 by omega)⟩
            have hx : bits .xor .i64 ((a : Int) * 2) 98309 = (((2 * a) ^^^ 98309 : Nat) : Int) := by
              have := i64_xor_nat (2 * a) 98309 (by omega) (by omega)
              rw [← this]; congr 1; try omega
            have ht : ((a : Int) * 2 / 65536 == 1) = true := by simp; omega
            go_wp2
            go_round
            case rel => exact ⟨j + 1, (2 * a) ^^^ 98309, by omega, rfl, by go_num, HN.out.2, HN.out.1⟩
            case measure => simp [intOf]; omega
          · have HN : Hid (2 * a = Crc.stps 16 98309 (j + 1) (k * 4096)) := by
              show 2 * a = _
              rw [Crc.stps, ← HS.out]; exact (Crc.stp_lo Crc.fits16 (show 2 * a < 2 ^ 16 by omega)).symm
            have ht : ((a : Int) * 2 / 65536 == 1) = false := by simp; omega
            have hlo : 2 * a < 65536 := by omega
            go_wp2
            go_round
            case rel => exact ⟨j + 1, 2 * a, by omega, by go_num, by go_num, by omega, HN.out⟩
            case measure => simp [intOf]; omega
        · obtain rfl : j = 4 := by omega
          have hcell : wr.cell? ⟨w.heap.size + 1, k, none⟩ = some (.int .i64 0) := by
            rw [cell_of_row wr _ k _ _ _ HB.out, tab_get hlt, if_neg (by omega)]; rfl
          have hfz : wr.frozen? ⟨w.heap.size + 1, k, none⟩ = false := frozen_of_row wr _ k _ _ HB.out
          have R : Hid ((wr.setCell ⟨w.heap.size + 1, k, none⟩ (.int .i64 (a : Int))).heap[w.heap.size + 1]? = some (.cells (tabA 16 98309 (k + 1)) 63 (0, 0)) ∧
              (wr.setCell ⟨w.heap.size + 1, k, none⟩ (.int .i64 (a : Int))).heap[w.heap.size]? = some (.cells #[.int .i64 0, .int .i64 0, .int .i64 0, .int .i64 0, .int .i64 0, .int .i64 0, .int .i64 0, .int .i64 0, .int .i64 0, .int .i64 0, .int .i64 0, .int .i64 0, .int .i64 0, .int .i64 0, .int .i64 0, .int .i64 0] 63 (0, 0)) ∧
              w.grownBy (wr.setCell ⟨w.heap.size + 1, k, none⟩ (.int .i64 (a : Int))) none) := by
            refine ⟨?_, ?_, grown_new HG.out (grown_setCell _ _ _) (by simp)⟩
            · rw [heap_setCell_same wr _ k _ _ _ HB.out, HS.out]; exact congrArg (fun x => some (Obj.cells x 63 (0, 0))) (tab_set hlt)
            · rw [heap_setCell_other _ _ _ _ (by simp)]; exact HA.out
          go_wp2
          go_roundw
          case rel => exact ⟨k + 1, by omega, by go_num, R.out.1, R.out.2.1, R.out.2.2⟩
          case measure => simp [intOf]; omega
    · obtain rfl : k = 16 := by omega
      have HG := Lib.hid hg
      have HB := Lib.hid hB
      have HA := Lib.hid hA
      clear hg hB hA hlt hk
      go_wp2_with (first
        | (refine wpList_load_row rfl 63 (.tmp 5) rfl (w.heap.size + 1) rfl 63 (tabA 16 98309 16) (0, 0) _ HB.out Try.underlying63 rfl (by kernel_rfl) ?_)
        | (refine wpList_store_row rfl 63 (.tmp 4) (.tmp 31) rfl w.heap.size (tabA 16 98309 16) rfl rfl 63 _ HA.out (by kernel_rfl) rfl (by kernel_rfl) ?_))
      exact bodyPost_ret (v := .agg (tabA 16 98309 16)) (results_cell_row rfl _ _ w.heap.size 63 _ (0, 0) _ rfl (setRow_heap _ _ _ _ _ _ HA.out) Try.underlying63 rfl (by kernel_rfl)) rfl ⟨rfl, grown_new HG.out (grown_setRow _ _ _) (Nat.le_refl _)⟩

set_option maxHeartbeats 1000000 in
theorem sCrcLoop8 (xs : List Int) (ao : Option Addr) (len cap : Nat) (w : World) (hx : Ints w ao len xs) (hlen : len ≤ 4611686018427387904) (hv : allB xs 0 255 = true) :
    Calls Try.prog 65 #[.slice ao len cap, .int .i64 8, .int .i64 7] w fun e w' => e = .returned (.int .i64 (Crc.crc 8 263 xs 0 : Nat)) ∧ w = w' := by
  obtain ⟨hl, hx⟩ := hx
  rcases hx with hx | ⟨b, off, rfl, hc⟩
  · subst hx
    obtain rfl : len = 0 := by simpa using hl.symm
    clear hl hv
    rw [show Crc.crc 8 263 [] 0 = 0 from rfl]
    go_enter Try.func65, Try.ntmps65
    go_wp2
    refine wp_loop_rounds 1 ?_
    rw [rounds_succ]
    go_wp2
    go_ret
    exact ⟨rfl, rfl⟩
  have HL := Lib.hid hl
  have HC := Lib.hid hc
  have HV := Lib.hid hv
  clear hl hc hv
  go_enter Try.func65, Try.ntmps65
  go_wp2
  go_loop [7, 8] (fun n i => ∃ k a : Nat, k ≤ len ∧ i = .int .i64 k ∧ n = .int .i64 a ∧ a < 256 ∧ Hid (a = Crc.crc 8 263 (xs.take k) 0)) (fun _ i => len - (intOf i).toNat)
  case atStart => exact ⟨0, 0, Nat.zero_le _, rfl, rfl, by omega, rfl⟩
  case round =>
    obtain ⟨k, a, hk, rfl, rfl, ha, HA⟩ := hrel
    by_cases hlt : k < len
    · obtain ⟨x, hxk⟩ : ∃ x, xs[k]? = some x := ⟨_, List.getElem?_eq_getElem (by rw [HL.out]; exact hlt)⟩
      have hcx := HC.out k x hxk
      have hxr := allB_at HV.out hxk
      obtain ⟨y, rfl⟩ := Int.eq_ofNat_of_zero_le hxr.1
      have hy : y < 256 := by omega
      have HX := Lib.hid hxk
      have hxo : bits .xor .i64 (a : Int) (((y : Int))) = ((a ^^^ (y * 1) : Nat) : Int) := by
        have := i64_xor_nat a (y * 1) (by omega) (by omega)
        rw [← this]; congr 1; try omega
      have hm : a ^^^ (y * 1) < 256 := Nat.xor_lt_two_pow (n := 8) ha (by omega)
      have HM : Hid (a ^^^ (y * 1) = Crc.stps 8 263 0 (a ^^^ (y * 1))) := rfl
      generalize hmm : a ^^^ (y * 1) = m at *
      have HMM := Lib.hid hmm
      clear hxk hxr hmm
      go_wp2
      go_loop [7, 9] (fun n c => ∃ j q : Nat, j ≤ 8 ∧ n = .int .i64 q ∧ c = .int .i64 j ∧ q < 256 ∧ Hid (q = Crc.stps 8 263 j m)) (fun _ c => 8 - (intOf c).toNat)
      case atStart => exact ⟨0, m, by omega, rfl, rfl, hm, rfl⟩
      case round =>
        clear hxo hcx
        obtain ⟨j, q, hj, rfl, rfl, hq, HS⟩ := hrel
        by_cases hjt : j < 8
        · by_cases hh : 256 ≤ 2 * q
          · have HN : Hid ((2 * q) ^^^ 263 = Crc.stps 8 263 (j + 1) m ∧ (2 * q) ^^^ 263 < 256) := by
              have e : Crc.stps 8 263 (j + 1) m = (2 * q) ^^^ 263 := by rw [Crc.stps, ← HS.out]; exact Crc.stp_hi Crc.fits8 hq hh
              exact ⟨e.symm, by rw [← e]; exact Crc.stps_lt Crc.fits8 (show m < 2 ^ 8 by omega)⟩
            have hx : bits .xor .i64 ((q : Int) * 2) 263 = (((2 * q) ^^^ 263 : Nat) : Int) := by
              have := i64_xor_nat (2 * q) 263 (by omega) (by omega)
              rw [← this]; congr 1; try omega
            have ht : decide (256 ≤ (q : Int) * 2) = true := by simp; omega
            go_wp2
            go_round
            case rel => exact ⟨j + 1, (2 * q) ^^^ 263, by omega, rfl, by go_num, HN.out.2, HN.out.1⟩
            case measure => simp [intOf]; omega
          · have HN : Hid (2 * q = Crc.stps 8 263 (j + 1) m) := by
              show 2 * q = _
              rw [Crc.stps, ← HS.out]; exact (Crc.stp_lo Crc.fits8 (show 2 * q < 2 ^ 8 by omega)).symm
            have ht : decide (256 ≤ (q : Int) * 2) = false := by simp; omega
            have hlo : 2 * q < 256 := by omega
            go_wp2
            go_round
            case rel => exact ⟨j + 1, 2 * q, by omega, by go_num, by go_num, by omega, HN.out⟩
            case measure => simp [intOf]; omega
        · obtain rfl : j = 8 := by omega
          have HR : Hid (q = Crc.crc 8 263 (xs.take (k + 1)) 0) := by
            show q = _
            rw [Crc.crc_take HX.out, ← HA.out, HS.out, ← HMM.out]; rfl
          clear hjt hj
          go_wp2
          go_round
          case rel => exact ⟨k + 1, q, by omega, by go_num, rfl, hq, HR.out⟩
          case measure => simp [intOf]; omega
    · have HF : Hid (a = Crc.crc 8 263 xs 0) := by
        have := HA.out
        rwa [List.take_of_length_le (by rw [HL.out]; omega)] at this
      go_wp2
      go_ret
      exact ⟨ret_int (by rw [HF.out]), rfl⟩

set_option maxHeartbeats 1000000 in
theorem sCrcLoop16 (xs : List Int) (ao : Option Addr) (len cap : Nat) (w : World) (hx : Ints w ao len xs) (hlen : len ≤ 4611686018427387904) (hv : allB xs 0 255 = true) :
    Calls Try.prog 65 #[.slice ao len cap, .int .i64 16, .int .i64 32773] w fun e w' => e = .returned (.int .i64 (Crc.crc 16 98309 xs 0 : Nat)) ∧ w = w' := by
  obtain ⟨hl, hx⟩ := hx
  rcases hx with hx | ⟨b, off, rfl, hc⟩
  · subst hx
    obtain rfl : len = 0 := by simpa using hl.symm
    clear hl hv
    rw [show Crc.crc 16 98309 [] 0 = 0 from rfl]
    go_enter Try.func65, Try.ntmps65
    go_wp2
    refine wp_loop_rounds 1 ?_
    rw [rounds_succ]
    go_wp2
    go_ret
    exact ⟨rfl, rfl⟩
  have HL := Lib.hid hl
  have HC := Lib.hid hc
  have HV := Lib.hid hv
  clear hl hc hv
  go_enter Try.func65, Try.ntmps65
  go_wp2
  go_loop [7, 8] (fun n i => ∃ k a : Nat, k ≤ len ∧ i = .int .i64 k ∧ n = .int .i64 a ∧ a < 65536 ∧ Hid (a = Crc.crc 16 98309 (xs.take k) 0)) (fun _ i => len - (intOf i).toNat)
  case atStart => exact ⟨0, 0, Nat.zero_le _, rfl, rfl, by omega, rfl⟩
  case round =>
    obtain ⟨k, a, hk, rfl, rfl, ha, HA⟩ := hrel
    by_cases hlt : k < len
    · obtain ⟨x, hxk⟩ : ∃ x, xs[k]? = some x := ⟨_, List.getElem?_eq_getElem (by rw [HL.out]; exact hlt)⟩
      have hcx := HC.out k x hxk
      have hxr := allB_at HV.out hxk
      obtain ⟨y, rfl⟩ := Int.eq_ofNat_of_zero_le hxr.1
      have hy : y < 256 := by omega
      have HX := Lib.hid hxk
      have hxo : bits .xor .i64 (a : Int) (((y : Int) * 256)) = ((a ^^^ (y * 256) : Nat) : Int) := by
        have := i64_xor_nat a (y * 256) (by omega) (by omega)
        rw [← this]; congr 1; try omega
      have hm : a ^^^ (y * 256) < 65536 := Nat.xor_lt_two_pow (n := 16) ha (by omega)
      have HM : Hid (a ^^^ (y * 256) = Crc.stps 16 98309 0 (a ^^^ (y * 256))) := rfl
      generalize hmm : a ^^^ (y * 256) = m at *
      have HMM := Lib.hid hmm
      clear hxk hxr hmm
      go_wp2
      go_loop [7, 9] (fun n c => ∃ j q : Nat, j ≤ 8 ∧ n = .int .i64 q ∧ c = .int .i64 j ∧ q < 65536 ∧ Hid (q = Crc.stps 16 98309 j m)) (fun _ c => 8 - (intOf c).toNat)
      case atStart => exact ⟨0, m, by omega, rfl, rfl, hm, rfl⟩
      case round =>
        clear hxo hcx
        obtain ⟨j, q, hj, rfl, rfl, hq, HS⟩ := hrel
        by_cases hjt : j < 8
        · by_cases hh : 65536 ≤ 2 * q
          · have HN : Hid ((2 * q) ^^^ 98309 = Crc.stps 16 98309 (j + 1) m ∧ (2 * q) ^^^ 98309 < 65536) := by
              have e : Crc.stps 16 98309 (j + 1) m = (2 * q) ^^^ 98309 := by rw [Crc.stps, ← HS.out]; exact Crc.stp_hi Crc.fits16 hq hh
              exact ⟨e.symm, by rw [← e]; exact Crc.stps_lt Crc.fits16 (show m < 2 ^ 16 by omega)⟩
            have hx : bits .xor .i64 ((q : Int) * 2) 98309 = (((2 * q) ^^^ 98309 : Nat) : Int) := by
              have := i64_xor_nat (2 * q) 98309 (by omega) (by omega)
              rw [← this]; congr 1; try omega
            have ht : decide (65536 ≤ (q : Int) * 2) = true := by simp; omega
            go_wp2
            go_round
            case rel => exact ⟨j + 1, (2 * q) ^^^ 98309, by omega, rfl, by go_num, HN.out.2, HN.out.1⟩
            case measure => simp [intOf]; omega
          · have HN : Hid (2 * q = Crc.stps 16 98309 (j + 1) m) := by
              show 2 * q = _
              rw [Crc.stps, ← HS.out]; exact (Crc.stp_lo Crc.fits16 (show 2 * q < 2 ^ 16 by omega)).symm
            have ht : decide (65536 ≤ (q : Int) * 2) = false := by simp; omega
            have hlo : 2 * q < 65536 := by omega
            go_wp2
            go_round
            case rel => exact ⟨j + 1, 2 * q, by omega, by go_num, by go_num, by omega, HN.out⟩
            case measure => simp [intOf]; omega
        · obtain rfl : j = 8 := by omega
          have HR : Hid (q = Crc.crc 16 98309 (xs.take (k + 1)) 0) := by
            show q = _
            rw [Crc.crc_take HX.out, ← HA.out, HS.out, ← HMM.out]; rfl
          clear hjt hj
          go_wp2
          go_round
          case rel => exact ⟨k + 1, q, by omega, by go_num, rfl, hq, HR.out⟩
          case measure => simp [intOf]; omega
    · have HF : Hid (a = Crc.crc 16 98309 xs 0) := by
        have := HA.out
        rwa [List.take_of_length_le (by rw [HL.out]; omega)] at this
      go_wp2
      go_ret
      exact ⟨ret_int (by rw [HF.out]), rfl⟩

def Ck (w d : Nat) (xs : List Int) : Int := if valB xs then (Crc.crc w d xs 0 : Nat) else -1
theorem Ck_true {w d : Nat} {xs : List Int} (h : valB xs = true) : Ck w d xs = (Crc.crc w d xs 0 : Nat) := by unfold Ck; rw [if_pos h]
theorem Ck_false {w d : Nat} {xs : List Int} (h : valB xs = false) : Ck w d xs = -1 := by unfold Ck; simp [h]
theorem valB_all {xs : List Int} (h : valB xs = true) : allB xs 0 255 = true := by unfold valB at h; rw [Bool.and_eq_true] at h; exact h.2

set_option maxHeartbeats 2000000 in
theorem iCheck8_some (xs : List Int) (b off len cap : Nat) (w : World) (hl : xs.length = len) (hc : ∀ (k : Nat) (x : Int), xs[k]? = some x → w.cell? ⟨b, off + k, none⟩ = some (.int .i64 x)) (hlen : len ≤ 4611686018427387904) (hv : valB xs = true) :
    Calls Try.prog 63 #[.slice (some ⟨b, off, none⟩) len cap, .int .i64 8, .int .i64 263] w fun e w' => e = .returned (.int .i64 (Crc.crc 8 263 xs 0 : Nat)) ∧ w.grownBy w' none := by
  have c1 := iValidBytes xs (some ⟨b, off, none⟩) len cap true w ⟨hl, Or.inr ⟨b, off, rfl, hc⟩⟩ hlen hv
  have HL := Lib.hid hl
  have HC := Lib.hid hc
  have HV := Lib.hid (by unfold valB at hv; rw [Bool.and_eq_true] at hv; exact hv.2 : allB xs 0 255 = true)
  have c2 := four8 w
  clear hl hc hv
  go_enter Try.func63, Try.ntmps63
  go_wp2_with fail
  refine c1.mono ?_
  rintro e w' ⟨rfl, rfl⟩
  clear c1
  go_wp2_with fail
  refine c2.mono ?_
  rintro e w1 ⟨rfl, hg1⟩
  clear c2
  have HG1 := Lib.hid hg1
  clear hg1
  go_wp2_with (refine wpList_store_row rfl 63 (.tmp 7) (.tmp 16) rfl w1.heap.size (tabA 8 263 16) rfl rfl 63 _ (heap_alloc_new _ _) (by kernel_rfl) rfl (by kernel_rfl) ?_)
  go_loopw [8, 19] (fun c i wr => ∃ k a : Nat, k ≤ len ∧ i = .int .i64 k ∧ c = .int .i64 a ∧ a < 256 ∧ Hid (a = Crc.crc 8 263 (xs.take k) 0) ∧ Hid (wr.heap[w1.heap.size]? = some (.cells (tabA 8 263 16) 63 (0, 0)) ∧ w.grownBy wr none)) (fun _ i _ => len - (intOf i).toNat)
  case atStart =>
    exact ⟨0, 0, Nat.zero_le _, rfl, rfl, by omega, rfl, setRow_heap _ _ _ _ _ _ (heap_alloc_new _ _), grown_new HG1.out (grown_trans (grown_alloc _ _ _) (grown_setRow _ _ _)) HG1.out.size⟩
  case round =>
    obtain ⟨k, a, hk, rfl, rfl, ha, HA, HW⟩ := hrel
    by_cases hlt : k < len
    · obtain ⟨x, hxk⟩ : ∃ x, xs[k]? = some x := ⟨_, List.getElem?_eq_getElem (by rw [HL.out]; exact hlt)⟩
      have hcx := HW.out.2.cell (HC.out k x hxk) (by simp)
      have hxr := allB_at HV.out hxk
      obtain ⟨y, rfl⟩ := Int.eq_ofNat_of_zero_le hxr.1
      have hy : y < 256 := by omega
      have HX := Lib.hid hxk
      have hxo : bits .xor .i64 (a : Int) ((y : Int)) = ((a ^^^ (y * 1) : Nat) : Int) := by
        have := i64_xor_nat a (y * 1) (by omega) (by omega)
        rw [← this]; congr 1; try omega
      have hm : a ^^^ (y * 1) < 256 := Nat.xor_lt_two_pow (n := 8) ha (by omega)
      generalize hmm : a ^^^ (y * 1) = m at *
      have HMM := Lib.hid hmm
      clear hxk hxr hmm
      go_wp2
      clear hxo hcx
      obtain ⟨wo, rfl⟩ : ∃ wo : World, wo = wr := ⟨_, rfl⟩
      go_loopw [8, 29] (fun n c wr => ∃ j q : Nat, j ≤ 2 ∧ n = .int .i64 q ∧ c = .int .i64 j ∧ q < 256 ∧ Hid (q = Crc.stps 8 263 (4 * j) m) ∧ Hid (wr.heap[w1.heap.size]? = some (.cells (tabA 8 263 16) 63 (0, 0)) ∧ w.grownBy wr none)) (fun _ c _ => 2 - (intOf c).toNat)
      case atStart => exact ⟨0, m, by omega, rfl, rfl, hm, rfl, HW.out⟩
      case round =>
        obtain ⟨j, q, hj, rfl, rfl, hq, HS, HW2⟩ := hrel
        by_cases hjt : j < 2
        · have hqi : q / 16 < 16 := by omega
          obtain ⟨t, ht⟩ : ∃ t : Nat, t = Crc.stps 8 263 4 (q / 16 * 16) := ⟨_, rfl⟩
          have ht2 : t < 256 := by rw [ht]; exact Crc.stps_lt Crc.fits8 (show q / 16 * 16 < 2 ^ 8 by omega)
          have hct : wr.cell? ⟨w1.heap.size, q / 16, none⟩ = some (.int .i64 (t : Int)) := by
            rw [cell_of_row wr _ _ _ _ _ HW2.out.1, tab_get hqi, if_pos hqi, ht]
          obtain ⟨lo, hlo⟩ : ∃ lo : Nat, lo = q % 16 * 16 := ⟨_, rfl⟩
          have hlo2 : lo < 256 := by omega
          have i1 : 0 ≤ (q : Int) / 16 := by omega
          have i2 : (q : Int) / 16 < 16 := by omega
          have e1 : bits .and .i64 ((q : Int) * 16) 255 = (lo : Int) := by
            have := i64_and_nat (q * 16) 255 (by omega) (by omega)
            rw [show ((q * 16 : Nat) : Int) = (q : Int) * 16 by omega, show ((255 : Nat) : Int) = 255 from rfl] at this
            rw [this, show (255 : Nat) = 2 ^ 8 - 1 from rfl, Nat.and_two_pow_sub_one_eq_mod]; omega
          have HN : Hid (lo ^^^ t = Crc.stps 8 263 (4 * (j + 1)) m ∧ lo ^^^ t < 256) := by
            have e : Crc.stps 8 263 (4 * (j + 1)) m = lo ^^^ t := by
              rw [show 4 * (j + 1) = 4 + 4 * j by omega, Crc.stps_add, ← HS.out, Crc.four Crc.fits8, hlo, ht]
            exact ⟨e.symm, by rw [← e]; exact Crc.stps_lt Crc.fits8 (show m < 2 ^ 8 by omega)⟩
          have e2 : bits .xor .i64 (lo : Int) (t : Int) = ((lo ^^^ t : Nat) : Int) := i64_xor_nat lo t (by omega) (by omega)
          generalize lo ^^^ t = r at *
          clear ht hlo hqi
          go_wp2
          go_quiet (fail)
          go_wp2
          go_roundw
          case rel => exact ⟨j + 1, r, by omega, rfl, by go_num, HN.out.2, HN.out.1, HW2.out.1, grown_trans HW2.out.2 (grown_drewN _ _ _)⟩
          case measure => simp [intOf]; omega
        · obtain rfl : j = 2 := by omega
          have HR : Hid (q = Crc.crc 8 263 (xs.take (k + 1)) 0) := by
            show q = _
            rw [Crc.crc_take HX.out, ← HA.out, HS.out, ← HMM.out]; rfl
          clear hjt hj
          go_wp2
          go_roundw
          case rel => exact ⟨k + 1, q, by omega, by go_num, rfl, hq, HR.out, HW2.out⟩
          case measure => simp [intOf]; omega
    · have HF : Hid (a = Crc.crc 8 263 xs 0) := by
        have := HA.out
        rwa [List.take_of_length_le (by rw [HL.out]; omega)] at this
      go_wp2
      go_ret
      exact ⟨ret_int (by rw [HF.out]), HW.out.2⟩

set_option maxHeartbeats 2000000 in
theorem iCheck16_some (xs : List Int) (b off len cap : Nat) (w : World) (hl : xs.length = len) (hc : ∀ (k : Nat) (x : Int), xs[k]? = some x → w.cell? ⟨b, off + k, none⟩ = some (.int .i64 x)) (hlen : len ≤ 4611686018427387904) (hv : valB xs = true) :
    Calls Try.prog 63 #[.slice (some ⟨b, off, none⟩) len cap, .int .i64 16, .int .i64 98309] w fun e w' => e = .returned (.int .i64 (Crc.crc 16 98309 xs 0 : Nat)) ∧ w.grownBy w' none := by
  have c1 := iValidBytes xs (some ⟨b, off, none⟩) len cap true w ⟨hl, Or.inr ⟨b, off, rfl, hc⟩⟩ hlen hv
  have HL := Lib.hid hl
  have HC := Lib.hid hc
  have HV := Lib.hid (by unfold valB at hv; rw [Bool.and_eq_true] at hv; exact hv.2 : allB xs 0 255 = true)
  have c2 := four16 w
  clear hl hc hv
  go_enter Try.func63, Try.ntmps63
  go_wp2_with fail
  refine c1.mono ?_
  rintro e w' ⟨rfl, rfl⟩
  clear c1
  go_wp2_with fail
  refine c2.mono ?_
  rintro e w1 ⟨rfl, hg1⟩
  clear c2
  have HG1 := Lib.hid hg1
  clear hg1
  go_wp2_with (refine wpList_store_row rfl 63 (.tmp 7) (.tmp 16) rfl w1.heap.size (tabA 16 98309 16) rfl rfl 63 _ (heap_alloc_new _ _) (by kernel_rfl) rfl (by kernel_rfl) ?_)
  go_loopw [8, 19] (fun c i wr => ∃ k a : Nat, k ≤ len ∧ i = .int .i64 k ∧ c = .int .i64 a ∧ a < 65536 ∧ Hid (a = Crc.crc 16 98309 (xs.take k) 0) ∧ Hid (wr.heap[w1.heap.size]? = some (.cells (tabA 16 98309 16) 63 (0, 0)) ∧ w.grownBy wr none)) (fun _ i _ => len - (intOf i).toNat)
  case atStart =>
    exact ⟨0, 0, Nat.zero_le _, rfl, rfl, by omega, rfl, setRow_heap _ _ _ _ _ _ (heap_alloc_new _ _), grown_new HG1.out (grown_trans (grown_alloc _ _ _) (grown_setRow _ _ _)) HG1.out.size⟩
  case round =>
    obtain ⟨k, a, hk, rfl, rfl, ha, HA, HW⟩ := hrel
    by_cases hlt : k < len
    · obtain ⟨x, hxk⟩ : ∃ x, xs[k]? = some x := ⟨_, List.getElem?_eq_getElem (by rw [HL.out]; exact hlt)⟩
      have hcx := HW.out.2.cell (HC.out k x hxk) (by simp)
      have hxr := allB_at HV.out hxk
      obtain ⟨y, rfl⟩ := Int.eq_ofNat_of_zero_le hxr.1
      have hy : y < 256 := by omega
      have HX := Lib.hid hxk
      have hxo : bits .xor .i64 (a : Int) ((y : Int) * 256) = ((a ^^^ (y * 256) : Nat) : Int) := by
        have := i64_xor_nat a (y * 256) (by omega) (by omega)
        rw [← this]; congr 1; try omega
      have hm : a ^^^ (y * 256) < 65536 := Nat.xor_lt_two_pow (n := 16) ha (by omega)
      generalize hmm : a ^^^ (y * 256) = m at *
      have HMM := Lib.hid hmm
      clear hxk hxr hmm
      go_wp2
      clear hxo hcx
      obtain ⟨wo, rfl⟩ : ∃ wo : World, wo = wr := ⟨_, rfl⟩
      go_loopw [8, 29] (fun n c wr => ∃ j q : Nat, j ≤ 2 ∧ n = .int .i64 q ∧ c = .int .i64 j ∧ q < 65536 ∧ Hid (q = Crc.stps 16 98309 (4 * j) m) ∧ Hid (wr.heap[w1.heap.size]? = some (.cells (tabA 16 98309 16) 63 (0, 0)) ∧ w.grownBy wr none)) (fun _ c _ => 2 - (intOf c).toNat)
      case atStart => exact ⟨0, m, by omega, rfl, rfl, hm, rfl, HW.out⟩
      case round =>
        obtain ⟨j, q, hj, rfl, rfl, hq, HS, HW2⟩ := hrel
        by_cases hjt : j < 2
        · have hqi : q / 4096 < 16 := by omega
          obtain ⟨t, ht⟩ : ∃ t : Nat, t = Crc.stps 16 98309 4 (q / 4096 * 4096) := ⟨_, rfl⟩
          have ht2 : t < 65536 := by rw [ht]; exact Crc.stps_lt Crc.fits16 (show q / 4096 * 4096 < 2 ^ 16 by omega)
          have hct : wr.cell? ⟨w1.heap.size, q / 4096, none⟩ = some (.int .i64 (t : Int)) := by
            rw [cell_of_row wr _ _ _ _ _ HW2.out.1, tab_get hqi, if_pos hqi, ht]
          obtain ⟨lo, hlo⟩ : ∃ lo : Nat, lo = q % 4096 * 16 := ⟨_, rfl⟩
          have hlo2 : lo < 65536 := by omega
          have i1 : 0 ≤ (q : Int) / 4096 := by omega
          have i2 : (q : Int) / 4096 < 16 := by omega
          have e1 : bits .and .i64 ((q : Int) * 16) 65535 = (lo : Int) := by
            have := i64_and_nat (q * 16) 65535 (by omega) (by omega)
            rw [show ((q * 16 : Nat) : Int) = (q : Int) * 16 by omega, show ((65535 : Nat) : Int) = 65535 from rfl] at this
            rw [this, show (65535 : Nat) = 2 ^ 16 - 1 from rfl, Nat.and_two_pow_sub_one_eq_mod]; omega
          have HN : Hid (lo ^^^ t = Crc.stps 16 98309 (4 * (j + 1)) m ∧ lo ^^^ t < 65536) := by
            have e : Crc.stps 16 98309 (4 * (j + 1)) m = lo ^^^ t := by
              rw [show 4 * (j + 1) = 4 + 4 * j by omega, Crc.stps_add, ← HS.out, Crc.four Crc.fits16, hlo, ht]
            exact ⟨e.symm, by rw [← e]; exact Crc.stps_lt Crc.fits16 (show m < 2 ^ 16 by omega)⟩
          have e2 : bits .xor .i64 (lo : Int) (t : Int) = ((lo ^^^ t : Nat) : Int) := i64_xor_nat lo t (by omega) (by omega)
          generalize lo ^^^ t = r at *
          clear ht hlo hqi
          go_wp2
          go_quiet (fail)
          go_wp2
          go_roundw
          case rel => exact ⟨j + 1, r, by omega, rfl, by go_num, HN.out.2, HN.out.1, HW2.out.1, grown_trans HW2.out.2 (grown_drewN _ _ _)⟩
          case measure => simp [intOf]; omega
        · obtain rfl : j = 2 := by omega
          have HR : Hid (q = Crc.crc 16 98309 (xs.take (k + 1)) 0) := by
            show q = _
            rw [Crc.crc_take HX.out, ← HA.out, HS.out, ← HMM.out]; rfl
          clear hjt hj
          go_wp2
          go_roundw
          case rel => exact ⟨k + 1, q, by omega, by go_num, rfl, hq, HR.out, HW2.out⟩
          case measure => simp [intOf]; omega
    · have HF : Hid (a = Crc.crc 16 98309 xs 0) := by
        have := HA.out
        rwa [List.take_of_length_le (by rw [HL.out]; omega)] at this
      go_wp2
      go_ret
      exact ⟨ret_int (by rw [HF.out]), HW.out.2⟩

set_option maxHeartbeats 1000000 in
theorem iCheck8 (xs : List Int) (ao : Option Addr) (len cap : Nat) (w : World) (hx : Ints w ao len xs) (hlen : len ≤ 4611686018427387904) :
    Calls Try.prog 63 #[.slice ao len cap, .int .i64 8, .int .i64 263] w fun e w' => e = .returned (.int .i64 (Ck 8 263 xs)) ∧ w.grownBy w' none := by
  cases hv : valB xs with
  | true =>
    rw [Ck_true hv]
    rcases hx.2 with h | ⟨b, off, rfl, hc⟩
    · have c1 := iValidBytes xs ao len cap true w hx hlen hv
      have c2 := four8 w
      subst h
      obtain rfl : len = 0 := by simpa using hx.1.symm
      clear hx hv
      rw [show Crc.crc 8 263 [] 0 = 0 from rfl]
      go_enter Try.func63, Try.ntmps63
      go_wp2_with fail
      refine c1.mono ?_
      rintro e w' ⟨rfl, rfl⟩
      clear c1
      go_wp2_with fail
      refine c2.mono ?_
      rintro e w1 ⟨rfl, hg1⟩
      clear c2
      have HG1 := Lib.hid hg1
      clear hg1
      go_wp2_with (refine wpList_store_row rfl 63 (.tmp 7) (.tmp 16) rfl w1.heap.size (tabA 8 263 16) rfl rfl 63 _ (heap_alloc_new _ _) (by kernel_rfl) rfl (by kernel_rfl) ?_)
      refine wp_loop_rounds 1 ?_
      rw [rounds_succ]
      go_wp2
      go_ret
      exact ⟨rfl, grown_new HG1.out (grown_trans (grown_alloc _ _ _) (grown_setRow _ _ _)) HG1.out.size⟩
    · exact iCheck8_some xs b off len cap w hx.1 hc hlen hv
  | false =>
    rw [Ck_false hv]
    have c1 := iValidBytes xs ao len cap false w hx hlen hv
    clear hx hv
    go_enter Try.func63, Try.ntmps63
    go_wp2_with fail
    refine c1.mono ?_
    rintro e w' ⟨rfl, rfl⟩
    clear c1
    go_wp2
    go_ret
    exact ⟨rfl, grown_refl _ _⟩

set_option maxHeartbeats 1000000 in
theorem iCheck16 (xs : List Int) (ao : Option Addr) (len cap : Nat) (w : World) (hx : Ints w ao len xs) (hlen : len ≤ 4611686018427387904) :
    Calls Try.prog 63 #[.slice ao len cap, .int .i64 16, .int .i64 98309] w fun e w' => e = .returned (.int .i64 (Ck 16 98309 xs)) ∧ w.grownBy w' none := by
  cases hv : valB xs with
  | true =>
    rw [Ck_true hv]
    rcases hx.2 with h | ⟨b, off, rfl, hc⟩
    · have c1 := iValidBytes xs ao len cap true w hx hlen hv
      have c2 := four16 w
      subst h
      obtain rfl : len = 0 := by simpa using hx.1.symm
      clear hx hv
      rw [show Crc.crc 16 98309 [] 0 = 0 from rfl]
      go_enter Try.func63, Try.ntmps63
      go_wp2_with fail
      refine c1.mono ?_
      rintro e w' ⟨rfl, rfl⟩
      clear c1
      go_wp2_with fail
      refine c2.mono ?_
      rintro e w1 ⟨rfl, hg1⟩
      clear c2
      have HG1 := Lib.hid hg1
      clear hg1
      go_wp2_with (refine wpList_store_row rfl 63 (.tmp 7) (.tmp 16) rfl w1.heap.size (tabA 16 98309 16) rfl rfl 63 _ (heap_alloc_new _ _) (by kernel_rfl) rfl (by kernel_rfl) ?_)
      refine wp_loop_rounds 1 ?_
      rw [rounds_succ]
      go_wp2
      go_ret
      exact ⟨rfl, grown_new HG1.out (grown_trans (grown_alloc _ _ _) (grown_setRow _ _ _)) HG1.out.size⟩
    · exact iCheck16_some xs b off len cap w hx.1 hc hlen hv
  | false =>
    rw [Ck_false hv]
    have c1 := iValidBytes xs ao len cap false w hx hlen hv
    clear hx hv
    go_enter Try.func63, Try.ntmps63
    go_wp2_with fail
    refine c1.mono ?_
    rintro e w' ⟨rfl, rfl⟩
    clear c1
    go_wp2
    go_ret
    exact ⟨rfl, grown_refl _ _⟩

set_option maxHeartbeats 400000 in
theorem iCrc8 (xs : List Int) (ao : Option Addr) (len cap : Nat) (y : Int) (w : World) (hx : Ints w ao len xs) (hlen : len ≤ 4611686018427387904) (hy : Ck 8 263 xs = y) :
    Calls Try.prog 34 #[.slice ao len cap] w fun e w' => e = .returned (.int .i64 y) ∧ w.grownBy w' none := by
  subst hy
  have c1 := iCheck8 xs ao len cap w hx hlen
  clear hx
  generalize Ck 8 263 xs = z at *
  go_enter Try.func34, Try.ntmps34
  go_wp2_with fail
  refine c1.mono ?_
  rintro e w' ⟨rfl, hg⟩
  have HG := Lib.hid hg
  clear c1 hg
  go_wp2
  go_ret
  exact ⟨rfl, HG.out⟩

set_option maxHeartbeats 400000 in
theorem sCrc8 (xs : List Int) (ao : Option Addr) (len cap : Nat) (y : Int) (w : World) (hx : Ints w ao len xs) (hlen : len ≤ 4611686018427387904) (hy : Ck 8 263 xs = y) :
    Calls Try.prog 35 #[.slice ao len cap] w fun e w' => e = .returned (.int .i64 y) ∧ w = w' := by
  subst hy
  cases hv : valB xs with
  | true =>
    rw [Ck_true hv]
    have c1 := sValidBytes xs ao len cap true w hx hlen hv
    have c2 := sCrcLoop8 xs ao len cap w hx hlen (valB_all hv)
    clear hx hv
    generalize Crc.crc 8 263 xs 0 = z at *
    go_enter Try.func35, Try.ntmps35
    go_wp2_with fail
    refine c1.mono ?_
    rintro e w' ⟨rfl, rfl⟩
    clear c1
    go_wp2_with fail
    refine c2.mono ?_
    rintro e w' ⟨rfl, rfl⟩
    clear c2
    go_wp2
    go_ret
    exact ⟨rfl, rfl⟩
  | false =>
    rw [Ck_false hv]
    have c1 := sValidBytes xs ao len cap false w hx hlen hv
    clear hx hv
    go_enter Try.func35, Try.ntmps35
    go_wp2_with fail
    refine c1.mono ?_
    rintro e w' ⟨rfl, rfl⟩
    clear c1
    go_wp2
    go_ret
    exact ⟨rfl, rfl⟩

set_option maxHeartbeats 400000 in
theorem iCrc16 (xs : List Int) (ao : Option Addr) (len cap : Nat) (y : Int) (w : World) (hx : Ints w ao len xs) (hlen : len ≤ 4611686018427387904) (hy : Ck 16 98309 xs = y) :
    Calls Try.prog 37 #[.slice ao len cap] w fun e w' => e = .returned (.int .i64 y) ∧ w.grownBy w' none := by
  subst hy
  have c1 := iCheck16 xs ao len cap w hx hlen
  clear hx
  generalize Ck 16 98309 xs = z at *
  go_enter Try.func37, Try.ntmps37
  go_wp2_with fail
  refine c1.mono ?_
  rintro e w' ⟨rfl, hg⟩
  have HG := Lib.hid hg
  clear c1 hg
  go_wp2
  go_ret
  exact ⟨rfl, HG.out⟩

set_option maxHeartbeats 400000 in
theorem sCrc16 (xs : List Int) (ao : Option Addr) (len cap : Nat) (y : Int) (w : World) (hx : Ints w ao len xs) (hlen : len ≤ 4611686018427387904) (hy : Ck 16 98309 xs = y) :
    Calls Try.prog 38 #[.slice ao len cap] w fun e w' => e = .returned (.int .i64 y) ∧ w = w' := by
  subst hy
  cases hv : valB xs with
  | true =>
    rw [Ck_true hv]
    have c1 := sValidBytes xs ao len cap true w hx hlen hv
    have c2 := sCrcLoop16 xs ao len cap w hx hlen (valB_all hv)
    clear hx hv
    generalize Crc.crc 16 98309 xs 0 = z at *
    go_enter Try.func38, Try.ntmps38
    go_wp2_with fail
    refine c1.mono ?_
    rintro e w' ⟨rfl, rfl⟩
    clear c1
    go_wp2_with fail
    refine c2.mono ?_
    rintro e w' ⟨rfl, rfl⟩
    clear c2
    go_wp2
    go_ret
    exact ⟨rfl, rfl⟩
  | false =>
    rw [Ck_false hv]
    have c1 := sValidBytes xs ao len cap false w hx hlen hv
    clear hx hv
    go_enter Try.func38, Try.ntmps38
    go_wp2_with fail
    refine c1.mono ?_
    rintro e w' ⟨rfl, rfl⟩
    clear c1
    go_wp2
    go_ret
    exact ⟨rfl, rfl⟩

end Go.Proofs.Ytdhfjaoaekdfbaa
