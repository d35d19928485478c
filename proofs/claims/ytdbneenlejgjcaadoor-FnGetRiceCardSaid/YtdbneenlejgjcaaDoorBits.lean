/-
  Structs of bits: what is made, compared and marked. The lists are at most 4194304 numbers long.
-/
import Derived.Test.YtdbneenlejgjcaaDoorCopyOf
namespace Go.Proofs.YtdbneenlejgjcaaDoor
open Go.RowKit

/-- A call gives back new bits. -/
def MadeBits (xs : List Int) (len : Nat) (c : Int) (w : World) (e : Ending) (w' : World) : Prop :=
  ∃ v, e = .returned (.agg #[v, .int .i64 c]) ∧ Owns w' w.heap.size v len xs ∧ w.grownBy w' none

set_option maxHeartbeats 400000 in
theorem eqBits_any (xs ys : List Int) (ao bo : Option Addr) (len cap len' cap' : Nat) (c d : Int) (w : World) (hx : Ints w ao len xs) (hy : Ints w bo len' ys) (hlen : len ≤ 4194304) :
    Calls Tryd.prog 31 #[.agg #[.slice ao len cap, .int .i64 c], .agg #[.slice bo len' cap', .int .i64 d]] w fun e w' => e = .returned (.bool (xs == ys && c == d)) ∧ w.grownBy w' none := by
  have k1 := eqIntS_any xs ys ao bo len cap len' cap' (xs == ys) ((w.alloc (.cells #[.slice ao len cap, .int .i64 c] 28)).alloc (.cells #[.slice bo len' cap', .int .i64 d] 28))
    (hx.grown (grown_trans (grown_alloc _ _ _) (grown_alloc _ _ _))) (hy.grown (grown_trans (grown_alloc _ _ _) (grown_alloc _ _ _))) (by omega) rfl
  clear hx hy
  go_enter Tryd.func31, Tryd.ntmps31
  go_wp2_with fail
  refine k1.mono ?_
  rintro e w1 ⟨rfl, hg⟩
  clear k1
  have hA := grown_heap hg (heap_alloc2_old w (.cells #[.slice ao len cap, .int .i64 c] 28) (.cells #[.slice bo len' cap', .int .i64 d] 28)) (by simp)
  have hB := grown_heap hg (heap_alloc2_new w (.cells #[.slice ao len cap, .int .i64 c] 28) (.cells #[.slice bo len' cap', .int .i64 d] 28)) (by simp)
  have q0 : w1.cell? ⟨w.heap.size, 1, none⟩ = some (.int .i64 c) := by rw [cell_of_row w1 _ 1 _ _ _ hA]; rfl
  have q1 : w1.cell? ⟨w.heap.size + 1, 1, none⟩ = some (.int .i64 d) := by rw [cell_of_row w1 _ 1 _ _ _ hB]; rfl
  have HG := Lib.hid (grown_trans (grown_trans (grown_alloc w (.cells #[.slice ao len cap, .int .i64 c] 28) none) (grown_alloc _ _ _)) hg)
  clear hg hA hB
  cases hxy : (xs == ys) with
  | false =>
    have HF : Hid ((xs == ys && c == d) = false) := by show _ = _; rw [hxy]; rfl
    clear hxy
    go_wp2
    go_ret
    exact ⟨ret_bool HF.out.symm, HG.out⟩
  | true =>
    cases hcd : (c == d) with
    | false =>
      have HF : Hid ((xs == ys && c == d) = false) := by show _ = _; rw [hxy, hcd]; rfl
      have hne : (c != d) = true := by simp [bne, hcd]
      clear hcd hxy
      go_wp2
      go_ret
      exact ⟨ret_bool HF.out.symm, HG.out⟩
    | true =>
      have HF : Hid ((xs == ys && c == d) = true) := by show _ = _; rw [hxy, hcd]; rfl
      have hne : (c != d) = false := by simp [bne, hcd]
      clear hcd hxy
      go_wp2
      go_ret
      exact ⟨ret_bool HF.out.symm, HG.out⟩

set_option maxHeartbeats 400000 in
theorem markBits_any (xs : List Int) (v : Value) (base len : Nat) (c k : Int) (w : World) (hx : Owns w base v len xs) (hlen : len ≤ 4194304) (hk0 : 0 ≤ k) (hk1 : k ≤ 4194304) :
    Calls Tryd.prog 32 #[.agg #[v, .int .i64 c], .int .i64 k] w fun e w' => e = .returned (.int .i64 (k + (len : Int))) ∧ (Owns w' base v len (marks k len) ∧ w.grownBy w' v.ownBlock) := by
  have k1 := markIntS_any xs v base len k (w.alloc (.cells #[v, .int .i64 c] 28)) (hx.grown (grown_alloc _ _ _)) hlen hk0 hk1
  obtain ⟨ao, cap, rfl, _⟩ := hx.reads
  clear hx
  go_enter Tryd.func32, Tryd.ntmps32
  go_wp2_with fail
  refine k1.mono ?_
  rintro e w1 ⟨rfl, ho, hg⟩
  have HO := Lib.hid ho
  have HG := Lib.hid (grown_trans (grown_alloc w (.cells #[.slice ao len cap, .int .i64 c] 28) _) hg)
  clear k1 ho hg
  go_wp2
  go_ret
  exact ⟨rfl, HO.out, HG.out⟩

set_option maxHeartbeats 400000 in
theorem heldBits_any (ao : Option Addr) (len cap : Nat) (c k : Int) (w : World) (hx : Ints w ao len (marks k len)) (hlen : len ≤ 4194304) (hk0 : 0 ≤ k) (hk1 : k ≤ 4194304) :
    Calls Tryd.prog 33 #[.agg #[.slice ao len cap, .int .i64 c], .int .i64 k] w fun e w' => e = .returned (.int .i64 (k + (len : Int))) ∧ w.grownBy w' none := by
  have k1 := heldIntS_any ao len cap k (w.alloc (.cells #[.slice ao len cap, .int .i64 c] 28)) (hx.grown (grown_alloc _ _ _)) hlen hk0 hk1
  clear hx
  go_enter Tryd.func33, Tryd.ntmps33
  go_wp2_with fail
  refine k1.mono ?_
  rintro e w1 ⟨rfl, rfl⟩
  clear k1
  go_wp2
  go_ret
  exact ⟨rfl, grown_alloc _ _ _⟩

end Go.Proofs.YtdbneenlejgjcaaDoor
