/-
  Structs of predictors: what is compared, marked, measured and copied. The lists are at most 4194304 numbers long.
-/
import Derived.Test.YtgiiaijlahjfnaaMem
namespace Go.Proofs.Ytgiiaijlahjfnaa
open Go.RowKit

/-- A call gives back a new predictor. -/
def MadeLinear (xs : List Int) (len : Nat) (c : Int) (w : World) (e : Ending) (w' : World) : Prop :=
  ∃ v, e = .returned (.agg #[v, .int .i64 c]) ∧ Owns w' w.heap.size v len xs ∧ w.grownBy w' none

set_option maxHeartbeats 400000 in
theorem eqLinear_any (xs ys : List Int) (ao bo : Option Addr) (len cap len' cap' : Nat) (c d : Int) (w : World) (hx : Ints w ao len xs) (hy : Ints w bo len' ys) (hlen : len ≤ 4194304) :
    Calls Try.prog 26 #[.agg #[.slice ao len cap, .int .i64 c], .agg #[.slice bo len' cap', .int .i64 d]] w fun e w' => e = .returned (.bool (xs == ys && c == d)) ∧ w.grownBy w' none := by
  have k1 := eqIntS_any xs ys ao bo len cap len' cap' (xs == ys) ((w.alloc (.cells #[.slice ao len cap, .int .i64 c] 25)).alloc (.cells #[.slice bo len' cap', .int .i64 d] 25))
    (hx.grown (grown_trans (grown_alloc _ _ _) (grown_alloc _ _ _))) (hy.grown (grown_trans (grown_alloc _ _ _) (grown_alloc _ _ _))) (by omega) rfl
  clear hx hy
  go_enter Try.func26, Try.ntmps26
  go_wp2_with fail
  refine k1.mono ?_
  rintro e w1 ⟨rfl, hg⟩
  clear k1
  have hA := grown_heap hg (heap_alloc2_old w (.cells #[.slice ao len cap, .int .i64 c] 25) (.cells #[.slice bo len' cap', .int .i64 d] 25)) (by simp)
  have hB := grown_heap hg (heap_alloc2_new w (.cells #[.slice ao len cap, .int .i64 c] 25) (.cells #[.slice bo len' cap', .int .i64 d] 25)) (by simp)
  have q0 : w1.cell? ⟨w.heap.size, 1, none⟩ = some (.int .i64 c) := by rw [cell_of_row w1 _ 1 _ _ _ hA]; rfl
  have q1 : w1.cell? ⟨w.heap.size + 1, 1, none⟩ = some (.int .i64 d) := by rw [cell_of_row w1 _ 1 _ _ _ hB]; rfl
  have HG := Lib.hid (grown_trans (grown_trans (grown_alloc w (.cells #[.slice ao len cap, .int .i64 c] 25) none) (grown_alloc _ _ _)) hg)
  clear hg hA hB
  cases hxy : (xs == ys) with
  | false =>
    have HF : Hid ((xs == ys && c == d) = false) := by show _ = _; rw [hxy]; rfl
    clear hxy
    go_wp2
    go_ret
    exact ⟨ret_bool HF.out.symm, HG.out⟩
  | true =>
    cases hcd : (c == d) with
    | false =>
      have HF : Hid ((xs == ys && c == d) = false) := by show _ = _; rw [hxy, hcd]; rfl
      have hne : (c != d) = true := by simp [bne, hcd]
      clear hcd hxy
      go_wp2
      go_ret
      exact ⟨ret_bool HF.out.symm, HG.out⟩
    | true =>
      have HF : Hid ((xs == ys && c == d) = true) := by show _ = _; rw [hxy, hcd]; rfl
      have hne : (c != d) = false := by simp [bne, hcd]
      clear hcd hxy
      go_wp2
      go_ret
      exact ⟨ret_bool HF.out.symm, HG.out⟩

set_option maxHeartbeats 400000 in
theorem markLinear_any (xs : List Int) (v : Value) (base len : Nat) (c k : Int) (w : World) (hx : Owns w base v len xs) (hlen : len ≤ 4194304) (hk0 : 0 ≤ k) (hk1 : k ≤ 4194304) :
    Calls Try.prog 28 #[.agg #[v, .int .i64 c], .int .i64 k] w fun e w' => e = .returned (.int .i64 (k + (len : Int))) ∧ (Owns w' base v len (marks k len) ∧ w.grownBy w' v.ownBlock) := by
  have k1 := markIntS_any xs v base len k (w.alloc (.cells #[v, .int .i64 c] 25)) (hx.grown (grown_alloc _ _ _)) hlen hk0 hk1
  obtain ⟨ao, cap, rfl, _⟩ := hx.reads
  clear hx
  go_enter Try.func28, Try.ntmps28
  go_wp2_with fail
  refine k1.mono ?_
  rintro e w1 ⟨rfl, ho, hg⟩
  have HO := Lib.hid ho
  have HG := Lib.hid (grown_trans (grown_alloc w (.cells #[.slice ao len cap, .int .i64 c] 25) _) hg)
  clear k1 ho hg
  go_wp2
  go_ret
  exact ⟨rfl, HO.out, HG.out⟩

theorem eqLinear_same (xs : List Int) (ao bo : Option Addr) (len cap cap' : Nat) (c : Int) (w : World) (hx : Ints w ao len xs) (hy : Ints w bo len xs) (hlen : len ≤ 4194304) :
    Calls Try.prog 26 #[.agg #[.slice ao len cap, .int .i64 c], .agg #[.slice bo len cap', .int .i64 c]] w fun e w' => e = .returned (.bool true) ∧ w.grownBy w' none :=
  (eqLinear_any xs xs ao bo len cap len cap' c c w hx hy hlen).mono fun e w' ⟨he, hg⟩ => ⟨by rw [he]; simp, hg⟩

set_option maxHeartbeats 400000 in
theorem szIntSL_any (ao : Option Addr) (len cap : Nat) (L r : Int) (w : World) (h0 : 0 ≤ L) (h1 : L ≤ 1048576) (hmax : len ≤ 9223372036854775807) (hr : r = if (len : Int) ≤ L then L - len else -1) :
    Calls Try.prog 52 #[.slice ao len cap, .int .i64 L] w fun e w' => e = .returned (.int .i64 r) ∧ w = w' := by
  by_cases h : (len : Int) ≤ L
  · rw [if_pos h] at hr
    subst hr
    have hd : decide (L - (len : Int) < 0) = false := by simp; omega
    go_enter Try.func52, Try.ntmps52
    go_wp2
    go_ret
    exact ⟨rfl, rfl⟩
  · rw [if_neg h] at hr
    subst hr
    have hd : decide (L - (len : Int) < 0) = true := by simp; omega
    go_enter Try.func52, Try.ntmps52
    go_wp2
    go_ret
    exact ⟨rfl, rfl⟩

set_option maxHeartbeats 400000 in
theorem szLinear_any (ao : Option Addr) (len cap : Nat) (c L r : Int) (w : World) (h0 : 0 ≤ L) (h1 : L ≤ 1048576) (hmax : len ≤ 9223372036854775807) (hr : r = if (len : Int) ≤ L then L - len else -1) :
    Calls Try.prog 22 #[.agg #[.slice ao len cap, .int .i64 c], .int .i64 L] w fun e w' => e = .returned (.int .i64 r) ∧ w.grownBy w' none := by
  have k1 := szIntSL_any ao len cap L r (w.alloc (.cells #[.slice ao len cap, .int .i64 c] 39)) h0 h1 hmax hr
  by_cases h : (len : Int) ≤ L
  · rw [if_pos h] at hr
    have hr0 : 0 ≤ r := by omega
    clear hr h
    go_enter Try.func22, Try.ntmps22
    go_wp2_with fail
    refine k1.mono ?_
    rintro e w' ⟨rfl, rfl⟩
    clear k1
    go_wp2
    go_ret
    exact ⟨rfl, grown_alloc _ _ _⟩
  · rw [if_neg h] at hr
    subst hr
    clear h
    go_enter Try.func22, Try.ntmps22
    go_wp2_with fail
    refine k1.mono ?_
    rintro e w' ⟨rfl, rfl⟩
    clear k1
    go_wp2
    go_ret
    exact ⟨rfl, grown_alloc _ _ _⟩

set_option maxHeartbeats 1000000 in
theorem toLinear_any (xs : List Int) (ao : Option Addr) (len cap : Nat) (c : Int) (w : World) (hx : Ints w ao len xs) (hlen : len ≤ 4194304) :
    Calls Try.prog 24 #[.agg #[.slice ao len cap, .int .i64 c]] w (MadeLinear xs len c w) := by
  have k1 := toIntS_any xs ao len cap (((w.alloc (.cells #[.slice ao len cap, .int .i64 c] 39)).alloc (.cells #[.slice none 0 0, .int .i64 0] 25)).alloc (.cells #[.slice none 0 0, .int .i64 0] 25)) (hx.grown (grown_trans (grown_alloc _ _ _) (grown_trans (grown_alloc _ _ _) (grown_alloc _ _ _)))) hlen
  clear hx
  go_enter Try.func24, Try.ntmps24
  go_wp2_with fail
  refine k1.mono ?_
  rintro e w1 ⟨v1, rfl, ho, hg⟩
  obtain ⟨a1, c1, rfl, _⟩ := ho.reads
  have hA0 : (((w.alloc (.cells #[.slice ao len cap, .int .i64 c] 39)).alloc (.cells #[.slice none 0 0, .int .i64 0] 25)).alloc (.cells #[.slice none 0 0, .int .i64 0] 25)).heap[w.heap.size]? = some (.cells #[.slice ao len cap, .int .i64 c] 39) := grown_heap (grown_trans (grown_alloc (w.alloc (.cells #[.slice ao len cap, .int .i64 c] 39)) (.cells #[.slice none 0 0, .int .i64 0] 25) none) (grown_alloc _ (.cells #[.slice none 0 0, .int .i64 0] 25) _)) (heap_alloc_new w (.cells #[.slice ao len cap, .int .i64 c] 39)) (by simp)
  have hB0 : (((w.alloc (.cells #[.slice ao len cap, .int .i64 c] 39)).alloc (.cells #[.slice none 0 0, .int .i64 0] 25)).alloc (.cells #[.slice none 0 0, .int .i64 0] 25)).heap[w.heap.size + 1]? = some (.cells #[.slice none 0 0, .int .i64 0] 25) := grown_heap (grown_alloc ((w.alloc (.cells #[.slice ao len cap, .int .i64 c] 39)).alloc (.cells #[.slice none 0 0, .int .i64 0] 25)) (.cells #[.slice none 0 0, .int .i64 0] 25) none) (heap_alloc2_new w (.cells #[.slice ao len cap, .int .i64 c] 39) (.cells #[.slice none 0 0, .int .i64 0] 25)) (by simp)
  have hC0 : (((w.alloc (.cells #[.slice ao len cap, .int .i64 c] 39)).alloc (.cells #[.slice none 0 0, .int .i64 0] 25)).alloc (.cells #[.slice none 0 0, .int .i64 0] 25)).heap[w.heap.size + 2]? = some (.cells #[.slice none 0 0, .int .i64 0] 25) := by
    have := heap_alloc_new ((w.alloc (.cells #[.slice ao len cap, .int .i64 c] 39)).alloc (.cells #[.slice none 0 0, .int .i64 0] 25)) (.cells #[.slice none 0 0, .int .i64 0] 25)
    rwa [show ((w.alloc (.cells #[.slice ao len cap, .int .i64 c] 39)).alloc (.cells #[.slice none 0 0, .int .i64 0] 25)).heap.size = w.heap.size + 2 by simp] at this
  have hA := grown_heap hg hA0 (by simp)
  have hB := grown_heap hg hB0 (by simp)
  have hC := grown_heap hg hC0 (by simp)
  have p1 : w1.cell? ⟨w.heap.size, 1, none⟩ = some (.int .i64 c) := by rw [cell_of_row w1 _ 1 _ _ _ hA]; rfl
  have q0 : w1.cell? ⟨w.heap.size + 1, 0, none⟩ = some (.slice none 0 0) := by rw [cell_of_row w1 _ 0 _ _ _ hB]; rfl
  have q1 : w1.cell? ⟨w.heap.size + 1, 1, none⟩ = some (.int .i64 0) := by rw [cell_of_row w1 _ 1 _ _ _ hB]; rfl
  have r0 : w1.cell? ⟨w.heap.size + 2, 0, none⟩ = some (.slice none 0 0) := by rw [cell_of_row w1 _ 0 _ _ _ hC]; rfl
  have r1 : w1.cell? ⟨w.heap.size + 2, 1, none⟩ = some (.int .i64 0) := by rw [cell_of_row w1 _ 1 _ _ _ hC]; rfl
  have f0 : w1.frozen? ⟨w.heap.size + 1, 0, none⟩ = false := frozen_of_row w1 _ 0 _ _ hB
  have f1 : w1.frozen? ⟨w.heap.size + 1, 1, none⟩ = false := frozen_of_row w1 _ 1 _ _ hB
  have f2 : w1.frozen? ⟨w.heap.size + 2, 0, none⟩ = false := frozen_of_row w1 _ 0 _ _ hC
  have f3 : w1.frozen? ⟨w.heap.size + 2, 1, none⟩ = false := frozen_of_row w1 _ 1 _ _ hC
  have hz := hg.size
  have HO := Lib.hid ho
  have HG := Lib.hid hg
  clear k1 ho hg hA hB hC hA0 hB0 hC0
  have hb : ∀ x, (Value.slice a1 len c1).ownBlock = some x → w.heap.size + 3 ≤ x := fun x e => by
    have := Owns.block HO.out x e; simpa using this
  have hok : ∀ k, k < 3 → (Value.slice a1 len c1).ownBlock ≠ some (w.heap.size + k) := fun k hk e => by have := hb _ e; omega
  go_wp2
  refine bodyPost_ret (v := .agg #[.slice a1 len c1, .int .i64 c]) (by simp [results, Try.results24, go_sem, q0, q1]) rfl ⟨_, rfl, ?_, ?_⟩
  · exact Owns.base_le (Owns.set (Owns.set (Owns.set (Owns.set HO.out _ _ (hok 2 (by omega))) _ _ (hok 2 (by omega))) _ _ (hok 1 (by omega))) _ _ (hok 1 (by omega))) (by simp; omega)
  · exact grown_set (grown_set (grown_set (grown_set (grown_trans (grown_trans (grown_trans (grown_alloc w (.cells #[.slice ao len cap, .int .i64 c] 39) none) (grown_alloc _ (.cells #[.slice none 0 0, .int .i64 0] 25) none)) (grown_alloc _ (.cells #[.slice none 0 0, .int .i64 0] 25) none)) HG.out) (by simp; omega)) (by simp; omega)) (by simp)) (by simp)


end Go.Proofs.Ytgiiaijlahjfnaa
