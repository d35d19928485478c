/-
  The exact laws' own helpers on structs of bits: sizes and copies. No condition but sizes.
-/
import Derived.Test.YtcgcippniicaaaaDoorBits
namespace Go.Proofs.YtcgcippniicaaaaDoor
open Go.RowKit

set_option maxHeartbeats 400000 in
theorem szIntS_any (ao : Option Addr) (len cap : Nat) (L r : Int) (w : World) (h0 : 0 ≤ L) (h1 : L ≤ 1048576) (hmax : len ≤ 9223372036854775807) (hr : r = if (len : Int) ≤ L then L - len else -1) :
    Calls Tryd.prog 56 #[.slice ao len cap, .int .i64 L] w fun e w' => e = .returned (.int .i64 r) ∧ w = w' := by
  by_cases h : (len : Int) ≤ L
  · rw [if_pos h] at hr
    subst hr
    have hd : decide (L - (len : Int) < 0) = false := by simp; omega
    go_enter Tryd.func56, Tryd.ntmps56
    go_wp2
    go_ret
    exact ⟨rfl, rfl⟩
  · rw [if_neg h] at hr
    subst hr
    have hd : decide (L - (len : Int) < 0) = true := by simp; omega
    go_enter Tryd.func56, Tryd.ntmps56
    go_wp2
    go_ret
    exact ⟨rfl, rfl⟩

set_option maxHeartbeats 400000 in
theorem szBits_any (ao : Option Addr) (len cap : Nat) (c L r : Int) (w : World) (h0 : 0 ≤ L) (h1 : L ≤ 1048576) (hmax : len ≤ 9223372036854775807) (hr : r = if (len : Int) ≤ L then L - len else -1) :
    Calls Tryd.prog 26 #[.agg #[.slice ao len cap, .int .i64 c], .int .i64 L] w fun e w' => e = .returned (.int .i64 r) ∧ w.grownBy w' none := by
  have k1 := szIntS_any ao len cap L r (w.alloc (.cells #[.slice ao len cap, .int .i64 c] 40)) h0 h1 hmax hr
  by_cases h : (len : Int) ≤ L
  · rw [if_pos h] at hr
    have hr0 : 0 ≤ r := by omega
    clear hr h
    go_enter Tryd.func26, Tryd.ntmps26
    go_wp2_with fail
    refine k1.mono ?_
    rintro e w' ⟨rfl, rfl⟩
    clear k1
    go_wp2
    go_ret
    exact ⟨rfl, grown_alloc _ _ _⟩
  · rw [if_neg h] at hr
    subst hr
    clear h
    go_enter Tryd.func26, Tryd.ntmps26
    go_wp2_with fail
    refine k1.mono ?_
    rintro e w' ⟨rfl, rfl⟩
    clear k1
    go_wp2
    go_ret
    exact ⟨rfl, grown_alloc _ _ _⟩

set_option maxHeartbeats 1000000 in
theorem toBits_any (xs : List Int) (ao : Option Addr) (len cap : Nat) (c : Int) (w : World) (hx : Ints w ao len xs) (hlen : len ≤ 4194304) :
    Calls Tryd.prog 27 #[.agg #[.slice ao len cap, .int .i64 c]] w (MadeBits xs len c w) := by
  have k1 := toIntS_any xs ao len cap (((w.alloc (.cells #[.slice ao len cap, .int .i64 c] 40)).alloc (.cells #[.slice none 0 0, .int .i64 0] 25)).alloc (.cells #[.slice none 0 0, .int .i64 0] 25)) (hx.grown (grown_trans (grown_alloc _ _ _) (grown_trans (grown_alloc _ _ _) (grown_alloc _ _ _)))) hlen
  clear hx
  go_enter Tryd.func27, Tryd.ntmps27
  go_wp2_with fail
  refine k1.mono ?_
  rintro e w1 ⟨v1, rfl, ho, hg⟩
  obtain ⟨a1, c1, rfl, _⟩ := ho.reads
  have hA0 : (((w.alloc (.cells #[.slice ao len cap, .int .i64 c] 40)).alloc (.cells #[.slice none 0 0, .int .i64 0] 25)).alloc (.cells #[.slice none 0 0, .int .i64 0] 25)).heap[w.heap.size]? = some (.cells #[.slice ao len cap, .int .i64 c] 40) := grown_heap (grown_trans (grown_alloc (w.alloc (.cells #[.slice ao len cap, .int .i64 c] 40)) (.cells #[.slice none 0 0, .int .i64 0] 25) none) (grown_alloc _ (.cells #[.slice none 0 0, .int .i64 0] 25) _)) (heap_alloc_new w (.cells #[.slice ao len cap, .int .i64 c] 40)) (by simp)
  have hB0 : (((w.alloc (.cells #[.slice ao len cap, .int .i64 c] 40)).alloc (.cells #[.slice none 0 0, .int .i64 0] 25)).alloc (.cells #[.slice none 0 0, .int .i64 0] 25)).heap[w.heap.size + 1]? = some (.cells #[.slice none 0 0, .int .i64 0] 25) := grown_heap (grown_alloc ((w.alloc (.cells #[.slice ao len cap, .int .i64 c] 40)).alloc (.cells #[.slice none 0 0, .int .i64 0] 25)) (.cells #[.slice none 0 0, .int .i64 0] 25) none) (heap_alloc2_new w (.cells #[.slice ao len cap, .int .i64 c] 40) (.cells #[.slice none 0 0, .int .i64 0] 25)) (by simp)
  have hC0 : (((w.alloc (.cells #[.slice ao len cap, .int .i64 c] 40)).alloc (.cells #[.slice none 0 0, .int .i64 0] 25)).alloc (.cells #[.slice none 0 0, .int .i64 0] 25)).heap[w.heap.size + 2]? = some (.cells #[.slice none 0 0, .int .i64 0] 25) := by
    have := heap_alloc_new ((w.alloc (.cells #[.slice ao len cap, .int .i64 c] 40)).alloc (.cells #[.slice none 0 0, .int .i64 0] 25)) (.cells #[.slice none 0 0, .int .i64 0] 25)
    rwa [show ((w.alloc (.cells #[.slice ao len cap, .int .i64 c] 40)).alloc (.cells #[.slice none 0 0, .int .i64 0] 25)).heap.size = w.heap.size + 2 by simp] at this
  have hA := grown_heap hg hA0 (by simp)
  have hB := grown_heap hg hB0 (by simp)
  have hC := grown_heap hg hC0 (by simp)
  have p1 : w1.cell? ⟨w.heap.size, 1, none⟩ = some (.int .i64 c) := by rw [cell_of_row w1 _ 1 _ _ _ hA]; rfl
  have q0 : w1.cell? ⟨w.heap.size + 1, 0, none⟩ = some (.slice none 0 0) := by rw [cell_of_row w1 _ 0 _ _ _ hB]; rfl
  have q1 : w1.cell? ⟨w.heap.size + 1, 1, none⟩ = some (.int .i64 0) := by rw [cell_of_row w1 _ 1 _ _ _ hB]; rfl
  have r0 : w1.cell? ⟨w.heap.size + 2, 0, none⟩ = some (.slice none 0 0) := by rw [cell_of_row w1 _ 0 _ _ _ hC]; rfl
  have r1 : w1.cell? ⟨w.heap.size + 2, 1, none⟩ = some (.int .i64 0) := by rw [cell_of_row w1 _ 1 _ _ _ hC]; rfl
  have f0 : w1.frozen? ⟨w.heap.size + 1, 0, none⟩ = false := frozen_of_row w1 _ 0 _ _ hB
  have f1 : w1.frozen? ⟨w.heap.size + 1, 1, none⟩ = false := frozen_of_row w1 _ 1 _ _ hB
  have f2 : w1.frozen? ⟨w.heap.size + 2, 0, none⟩ = false := frozen_of_row w1 _ 0 _ _ hC
  have f3 : w1.frozen? ⟨w.heap.size + 2, 1, none⟩ = false := frozen_of_row w1 _ 1 _ _ hC
  have hz := hg.size
  have HO := Lib.hid ho
  have HG := Lib.hid hg
  clear k1 ho hg hA hB hC hA0 hB0 hC0
  have hb : ∀ x, (Value.slice a1 len c1).ownBlock = some x → w.heap.size + 3 ≤ x := fun x e => by
    have := Owns.block HO.out x e; simpa using this
  have hok : ∀ k, k < 3 → (Value.slice a1 len c1).ownBlock ≠ some (w.heap.size + k) := fun k hk e => by have := hb _ e; omega
  go_wp2
  refine bodyPost_ret (v := .agg #[.slice a1 len c1, .int .i64 c]) (by simp [results, Tryd.results27, go_sem, q0, q1]) rfl ⟨_, rfl, ?_, ?_⟩
  · exact Owns.base_le (Owns.set (Owns.set (Owns.set (Owns.set HO.out _ _ (hok 2 (by omega))) _ _ (hok 2 (by omega))) _ _ (hok 1 (by omega))) _ _ (hok 1 (by omega))) (by simp; omega)
  · exact grown_set (grown_set (grown_set (grown_set (grown_trans (grown_trans (grown_trans (grown_alloc w (.cells #[.slice ao len cap, .int .i64 c] 40) none) (grown_alloc _ (.cells #[.slice none 0 0, .int .i64 0] 25) none)) (grown_alloc _ (.cells #[.slice none 0 0, .int .i64 0] 25) none)) HG.out) (by simp; omega)) (by simp; omega)) (by simp)) (by simp)

end Go.Proofs.YtcgcippniicaaaaDoor
