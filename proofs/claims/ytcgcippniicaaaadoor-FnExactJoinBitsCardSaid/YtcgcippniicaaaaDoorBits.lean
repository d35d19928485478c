/-
  Structs of bits: what is made, compared and marked. The lists are at most 4194304 numbers long.
-/
import Derived.Test.YtcgcippniicaaaaDoorCopyOf
namespace Go.Proofs.YtcgcippniicaaaaDoor
open Go.RowKit

/-- A call gives back new bits. -/
def MadeBits (xs : List Int) (len : Nat) (c : Int) (w : World) (e : Ending) (w' : World) : Prop :=
  ∃ v, e = .returned (.agg #[v, .int .i64 c]) ∧ Owns w' w.heap.size v len xs ∧ w.grownBy w' none

set_option maxHeartbeats 400000 in
theorem sBitsOf_bad (xs : List Int) (ao : Option Addr) (len cap : Nat) (w : World) (hx : Ints w ao len xs) (hlen : len ≤ 4194304) (hv : valB xs = false) :
    Calls Tryd.prog 25 #[.slice ao len cap] w (MadeBits [] 0 0 w) := by
  have k1 := sValidBytes xs ao len cap false (w.alloc (.cells #[.slice none 0 0, .int .i64 0] 25)) (hx.grown (grown_alloc _ _ _)) (by omega) hv
  clear hx hv
  go_enter Tryd.func25, Tryd.ntmps25
  go_wp2_with fail
  refine k1.mono ?_
  rintro e w' ⟨rfl, rfl⟩
  clear k1
  go_wp2
  exact bodyPost_ret (v := .agg #[.slice none 0 0, .int .i64 0]) (by simp [results, Tryd.results25, go_sem]) rfl ⟨_, rfl, World.ownsRow_nil _ _ _ _, by repeat (first | exact grown_alloc _ _ _ | exact grown_refl _ _ | refine grown_new ?_ (grown_setCell _ _ _) (by simp))⟩

set_option maxHeartbeats 400000 in
theorem sBitsOf_good (xs : List Int) (ao : Option Addr) (len cap : Nat) (w : World) (hx : Ints w ao len xs) (hn : ao = none → cap = 0) (hlen : len ≤ 4194304) (hv : valB xs = true) :
    Calls Tryd.prog 25 #[.slice ao len cap] w (MadeBits xs len (8 * (len : Int)) w) := by
  have k1 := sValidBytes xs ao len cap true (w.alloc (.cells #[.slice none 0 0, .int .i64 0] 25)) (hx.grown (grown_alloc _ _ _)) (by omega) hv
  have k2 := copyInts_any xs ao len cap (w.alloc (.cells #[.slice none 0 0, .int .i64 0] 25)) (hx.grown (grown_alloc _ _ _)) hn (by omega)
  clear hx hv hn
  go_enter Tryd.func25, Tryd.ntmps25
  go_wp2_with fail
  refine k1.mono ?_
  rintro e w' ⟨rfl, rfl⟩
  clear k1
  go_wp2_with fail
  refine k2.mono ?_
  rintro e w1 ⟨v1, rfl, ho, hg⟩
  clear k2
  obtain ⟨a1, c1, rfl, _, _, _, _⟩ := ho.reads
  have hB := grown_heap hg (heap_alloc_new w (.cells #[.slice none 0 0, .int .i64 0] 25)) (by simp)
  have q0 : w1.cell? ⟨w.heap.size, 0, none⟩ = some (.slice none 0 0) := by rw [cell_of_row w1 _ 0 _ _ _ hB]; rfl
  have q1 : w1.cell? ⟨w.heap.size, 1, none⟩ = some (.int .i64 0) := by rw [cell_of_row w1 _ 1 _ _ _ hB]; rfl
  have f0 : w1.frozen? ⟨w.heap.size, 0, none⟩ = false := frozen_of_row w1 _ 0 _ _ hB
  have f1 : w1.frozen? ⟨w.heap.size, 1, none⟩ = false := frozen_of_row w1 _ 1 _ _ hB
  have R : Hid (Owns ((w1.setCell ⟨w.heap.size, 0, none⟩ (.slice a1 len c1)).setCell ⟨w.heap.size, 1, none⟩ (.int .i64 (8 * (len : Int)))) w.heap.size (.slice a1 len c1) len xs ∧
      w.grownBy ((w1.setCell ⟨w.heap.size, 0, none⟩ (.slice a1 len c1)).setCell ⟨w.heap.size, 1, none⟩ (.int .i64 (8 * (len : Int)))) none) := by
    have hb := fun g e => Owns.block ho g e
    have hne : ∀ x, (Value.slice a1 len c1).ownBlock = some x → x ≠ w.heap.size := fun x e => by have := hb x e; simp at this; omega
    have hok : (Value.slice a1 len c1).ownBlock = none ∨ (Value.slice a1 len c1).ownBlock ≠ some w.heap.size := by
      cases hv : (Value.slice a1 len c1).ownBlock with
      | none => exact Or.inl rfl
      | some x => right; intro e; injection e with e; exact hne x hv e
    exact ⟨(((ho.kept (grown_setCell w1 ⟨w.heap.size, 0, none⟩ (.slice a1 len c1)) hok).kept (grown_setCell _ ⟨w.heap.size, 1, none⟩ (.int .i64 (8 * (len : Int)))) hok)).base_le (by simp), 
      grown_new (grown_new (grown_trans (grown_alloc _ _ _) hg) (grown_setCell w1 ⟨w.heap.size, 0, none⟩ _) (Nat.le_refl _)) (grown_setCell _ ⟨w.heap.size, 1, none⟩ _) (Nat.le_refl _)⟩
  have hz := hg.size
  clear ho hg hB
  go_wp2
  exact bodyPost_ret (v := .agg #[.slice a1 len c1, .int .i64 (8 * (len : Int))]) (by simp [results, Tryd.results25, go_sem, q0, q1]) rfl ⟨_, rfl, R.out.1, R.out.2⟩

set_option maxHeartbeats 400000 in
theorem iBitsOf_bad (xs : List Int) (ao : Option Addr) (len cap : Nat) (w : World) (hx : Ints w ao len xs) (hlen : len ≤ 4194304) (hv : valB xs = false) :
    Calls Tryd.prog 24 #[.slice ao len cap] w (MadeBits [] 0 0 w) := by
  have k1 := iValidBytes xs ao len cap false (w.alloc (.cells #[.slice none 0 0, .int .i64 0] 25)) (hx.grown (grown_alloc _ _ _)) (by omega) hv
  clear hx hv
  go_enter Tryd.func24, Tryd.ntmps24
  go_wp2_with fail
  refine k1.mono ?_
  rintro e w' ⟨rfl, rfl⟩
  clear k1
  go_wp2
  exact bodyPost_ret (v := .agg #[.slice none 0 0, .int .i64 0]) (by simp [results, Tryd.results24, go_sem]) rfl ⟨_, rfl, World.ownsRow_nil _ _ _ _, by repeat (first | exact grown_alloc _ _ _ | exact grown_refl _ _ | refine grown_new ?_ (grown_setCell _ _ _) (by simp))⟩

set_option maxHeartbeats 400000 in
theorem iBitsOf_good (xs : List Int) (ao : Option Addr) (len cap : Nat) (w : World) (hx : Ints w ao len xs) (hn : ao = none → cap = 0) (hlen : len ≤ 4194304) (hv : valB xs = true) :
    Calls Tryd.prog 24 #[.slice ao len cap] w (MadeBits xs len (8 * (len : Int)) w) := by
  have k1 := iValidBytes xs ao len cap true (w.alloc (.cells #[.slice none 0 0, .int .i64 0] 25)) (hx.grown (grown_alloc _ _ _)) (by omega) hv
  have k2 := copyOf_any xs ao len cap (w.alloc (.cells #[.slice none 0 0, .int .i64 0] 25)) (hx.grown (grown_alloc _ _ _)) hn (by omega)
  clear hx hv hn
  go_enter Tryd.func24, Tryd.ntmps24
  go_wp2_with fail
  refine k1.mono ?_
  rintro e w' ⟨rfl, rfl⟩
  clear k1
  go_wp2_with fail
  refine k2.mono ?_
  rintro e w1 ⟨v1, rfl, ho, hg⟩
  clear k2
  obtain ⟨a1, c1, rfl, _, _, _, _⟩ := ho.reads
  have hB := grown_heap hg (heap_alloc_new w (.cells #[.slice none 0 0, .int .i64 0] 25)) (by simp)
  have q0 : w1.cell? ⟨w.heap.size, 0, none⟩ = some (.slice none 0 0) := by rw [cell_of_row w1 _ 0 _ _ _ hB]; rfl
  have q1 : w1.cell? ⟨w.heap.size, 1, none⟩ = some (.int .i64 0) := by rw [cell_of_row w1 _ 1 _ _ _ hB]; rfl
  have f0 : w1.frozen? ⟨w.heap.size, 0, none⟩ = false := frozen_of_row w1 _ 0 _ _ hB
  have f1 : w1.frozen? ⟨w.heap.size, 1, none⟩ = false := frozen_of_row w1 _ 1 _ _ hB
  have R : Hid (Owns ((w1.setCell ⟨w.heap.size, 0, none⟩ (.slice a1 len c1)).setCell ⟨w.heap.size, 1, none⟩ (.int .i64 (8 * (len : Int)))) w.heap.size (.slice a1 len c1) len xs ∧
      w.grownBy ((w1.setCell ⟨w.heap.size, 0, none⟩ (.slice a1 len c1)).setCell ⟨w.heap.size, 1, none⟩ (.int .i64 (8 * (len : Int)))) none) := by
    have hb := fun g e => Owns.block ho g e
    have hne : ∀ x, (Value.slice a1 len c1).ownBlock = some x → x ≠ w.heap.size := fun x e => by have := hb x e; simp at this; omega
    have hok : (Value.slice a1 len c1).ownBlock = none ∨ (Value.slice a1 len c1).ownBlock ≠ some w.heap.size := by
      cases hv : (Value.slice a1 len c1).ownBlock with
      | none => exact Or.inl rfl
      | some x => right; intro e; injection e with e; exact hne x hv e
    exact ⟨(((ho.kept (grown_setCell w1 ⟨w.heap.size, 0, none⟩ (.slice a1 len c1)) hok).kept (grown_setCell _ ⟨w.heap.size, 1, none⟩ (.int .i64 (8 * (len : Int)))) hok)).base_le (by simp), 
      grown_new (grown_new (grown_trans (grown_alloc _ _ _) hg) (grown_setCell w1 ⟨w.heap.size, 0, none⟩ _) (Nat.le_refl _)) (grown_setCell _ ⟨w.heap.size, 1, none⟩ _) (Nat.le_refl _)⟩
  have hz := hg.size
  clear ho hg hB
  go_wp2
  exact bodyPost_ret (v := .agg #[.slice a1 len c1, .int .i64 (8 * (len : Int))]) (by simp [results, Tryd.results24, go_sem, q0, q1]) rfl ⟨_, rfl, R.out.1, R.out.2⟩

set_option maxHeartbeats 400000 in
theorem eqBits_any (xs ys : List Int) (ao bo : Option Addr) (len cap len' cap' : Nat) (c d : Int) (w : World) (hx : Ints w ao len xs) (hy : Ints w bo len' ys) (hlen : len ≤ 4194304) :
    Calls Tryd.prog 28 #[.agg #[.slice ao len cap, .int .i64 c], .agg #[.slice bo len' cap', .int .i64 d]] w fun e w' => e = .returned (.bool (xs == ys && c == d)) ∧ w.grownBy w' none := by
  have k1 := eqIntS_any xs ys ao bo len cap len' cap' (xs == ys) ((w.alloc (.cells #[.slice ao len cap, .int .i64 c] 25)).alloc (.cells #[.slice bo len' cap', .int .i64 d] 25))
    (hx.grown (grown_trans (grown_alloc _ _ _) (grown_alloc _ _ _))) (hy.grown (grown_trans (grown_alloc _ _ _) (grown_alloc _ _ _))) (by omega) rfl
  clear hx hy
  go_enter Tryd.func28, Tryd.ntmps28
  go_wp2_with fail
  refine k1.mono ?_
  rintro e w1 ⟨rfl, hg⟩
  clear k1
  have hA := grown_heap hg (heap_alloc2_old w (.cells #[.slice ao len cap, .int .i64 c] 25) (.cells #[.slice bo len' cap', .int .i64 d] 25)) (by simp)
  have hB := grown_heap hg (heap_alloc2_new w (.cells #[.slice ao len cap, .int .i64 c] 25) (.cells #[.slice bo len' cap', .int .i64 d] 25)) (by simp)
  have q0 : w1.cell? ⟨w.heap.size, 1, none⟩ = some (.int .i64 c) := by rw [cell_of_row w1 _ 1 _ _ _ hA]; rfl
  have q1 : w1.cell? ⟨w.heap.size + 1, 1, none⟩ = some (.int .i64 d) := by rw [cell_of_row w1 _ 1 _ _ _ hB]; rfl
  have HG := Lib.hid (grown_trans (grown_trans (grown_alloc w (.cells #[.slice ao len cap, .int .i64 c] 25) none) (grown_alloc _ _ _)) hg)
  clear hg hA hB
  cases hxy : (xs == ys) with
  | false =>
    have HF : Hid ((xs == ys && c == d) = false) := by show _ = _; rw [hxy]; rfl
    clear hxy
    go_wp2
    go_ret
    exact ⟨ret_bool HF.out.symm, HG.out⟩
  | true =>
    cases hcd : (c == d) with
    | false =>
      have HF : Hid ((xs == ys && c == d) = false) := by show _ = _; rw [hxy, hcd]; rfl
      have hne : (c != d) = true := by simp [bne, hcd]
      clear hcd hxy
      go_wp2
      go_ret
      exact ⟨ret_bool HF.out.symm, HG.out⟩
    | true =>
      have HF : Hid ((xs == ys && c == d) = true) := by show _ = _; rw [hxy, hcd]; rfl
      have hne : (c != d) = false := by simp [bne, hcd]
      clear hcd hxy
      go_wp2
      go_ret
      exact ⟨ret_bool HF.out.symm, HG.out⟩

set_option maxHeartbeats 400000 in
theorem markBits_any (xs : List Int) (v : Value) (base len : Nat) (c k : Int) (w : World) (hx : Owns w base v len xs) (hlen : len ≤ 4194304) (hk0 : 0 ≤ k) (hk1 : k ≤ 4194304) :
    Calls Tryd.prog 29 #[.agg #[v, .int .i64 c], .int .i64 k] w fun e w' => e = .returned (.int .i64 (k + (len : Int))) ∧ (Owns w' base v len (marks k len) ∧ w.grownBy w' v.ownBlock) := by
  have k1 := markIntS_any xs v base len k (w.alloc (.cells #[v, .int .i64 c] 25)) (hx.grown (grown_alloc _ _ _)) hlen hk0 hk1
  obtain ⟨ao, cap, rfl, _⟩ := hx.reads
  clear hx
  go_enter Tryd.func29, Tryd.ntmps29
  go_wp2_with fail
  refine k1.mono ?_
  rintro e w1 ⟨rfl, ho, hg⟩
  have HO := Lib.hid ho
  have HG := Lib.hid (grown_trans (grown_alloc w (.cells #[.slice ao len cap, .int .i64 c] 25) _) hg)
  clear k1 ho hg
  go_wp2
  go_ret
  exact ⟨rfl, HO.out, HG.out⟩

set_option maxHeartbeats 400000 in
theorem heldBits_any (ao : Option Addr) (len cap : Nat) (c k : Int) (w : World) (hx : Ints w ao len (marks k len)) (hlen : len ≤ 4194304) (hk0 : 0 ≤ k) (hk1 : k ≤ 4194304) :
    Calls Tryd.prog 30 #[.agg #[.slice ao len cap, .int .i64 c], .int .i64 k] w fun e w' => e = .returned (.int .i64 (k + (len : Int))) ∧ w.grownBy w' none := by
  have k1 := heldIntS_any ao len cap k (w.alloc (.cells #[.slice ao len cap, .int .i64 c] 25)) (hx.grown (grown_alloc _ _ _)) hlen hk0 hk1
  clear hx
  go_enter Tryd.func30, Tryd.ntmps30
  go_wp2_with fail
  refine k1.mono ?_
  rintro e w1 ⟨rfl, rfl⟩
  clear k1
  go_wp2
  go_ret
  exact ⟨rfl, grown_alloc _ _ _⟩

end Go.Proofs.YtcgcippniicaaaaDoor
