/-
  FixedAsLinear of the specification. For all numbers.
-/
import Derived.Test.YtgiiaijlahjfnaaMem
import Derived.Test.YtgiiaijlahjfnaaNum
namespace Go.Proofs.Ytgiiaijlahjfnaa
open Go.RowKit

/-- The coefficients of the fixed predictor of an order. -/
def falL (k : Nat) : List Int := match k with
  | 1 => [1]
  | 2 => [2, -1]
  | 3 => [3, -3, 1]
  | 4 => [4, -6, 4, -1]
  | _ => []
theorem owns_lit_at (w : World) (xs : List Int) (hm : xs.length ≤ 1000) (B : Nat) (h : w.heap.size = B) : Owns (w.alloc (.cells (xs.map (Value.int .i64)).toArray 3)) B (.slice (some ⟨B, 0, none⟩) xs.length xs.length) xs.length xs := by
  subst h; exact owns_lit w xs hm
/-- A call gives back a predictor without a shift. -/
def MadeF (k : Nat) (ok : Bool) (w : World) (e : Ending) (w' : World) : Prop :=
  ∃ v, e = .returned (.tuple #[.agg #[v, .int .i64 0], .bool ok]) ∧ Owns w' w.heap.size v (if ok then k else 0) (if ok then falL k else []) ∧ w.grownBy w' none

set_option maxRecDepth 100000 in
set_option maxHeartbeats 1000000 in
theorem sFal1 (w : World) : Calls Try.prog 54 #[.int .i64 1] w (MadeF 1 true w) := by
  have k1 := inRange_any 1 1 4 true (w.alloc (.cells #[.slice none 0 0, .int .i64 0] 25)) (by decide)
  go_enter Try.func54, Try.ntmps54
  go_wp2_with fail
  refine k1.mono ?_
  rintro e w' ⟨rfl, rfl⟩
  clear k1
  go_wp2
  have HG : Hid (w.grownBy ((((((w.alloc (.cells #[.slice (some ⟨w.heap.size + 1, 0, none⟩) 1 1, .int .i64 0] 25)).alloc (.cells #[.int .i64 1] 3)).alloc (.cells #[.int .i64 2, .int .i64 (-1)] 3)).alloc (.cells #[.int .i64 3, .int .i64 (-3), .int .i64 1] 3)).alloc (.cells #[.int .i64 4, .int .i64 (-6), .int .i64 4, .int .i64 (-1)] 3)).alloc (.cells #[.slice (some ⟨w.heap.size + 1, 0, none⟩) 1 1, .slice (some ⟨w.heap.size + 2, 0, none⟩) 2 2, .slice (some ⟨w.heap.size + 3, 0, none⟩) 3 3, .slice (some ⟨w.heap.size + 4, 0, none⟩) 4 4] 23)) none) := grown_trans (grown_trans (grown_trans (grown_trans (grown_trans (grown_alloc _ _ _) (grown_alloc _ _ _)) (grown_alloc _ _ _)) (grown_alloc _ _ _)) (grown_alloc _ _ _)) (grown_alloc _ _ _)
  have HA : Hid (((((((w.alloc (.cells #[.slice (some ⟨w.heap.size + 1, 0, none⟩) 1 1, .int .i64 0] 25)).alloc (.cells #[.int .i64 1] 3)).alloc (.cells #[.int .i64 2, .int .i64 (-1)] 3)).alloc (.cells #[.int .i64 3, .int .i64 (-3), .int .i64 1] 3)).alloc (.cells #[.int .i64 4, .int .i64 (-6), .int .i64 4, .int .i64 (-1)] 3)).alloc (.cells #[.slice (some ⟨w.heap.size + 1, 0, none⟩) 1 1, .slice (some ⟨w.heap.size + 2, 0, none⟩) 2 2, .slice (some ⟨w.heap.size + 3, 0, none⟩) 3 3, .slice (some ⟨w.heap.size + 4, 0, none⟩) 4 4] 23)).heap[w.heap.size]? = some (.cells #[.slice (some ⟨w.heap.size + 1, 0, none⟩) 1 1, .int .i64 0] 25 (0, 0))) := grown_heap (grown_trans (grown_trans (grown_trans (grown_trans (grown_alloc (w.alloc (.cells #[.slice (some ⟨w.heap.size + 1, 0, none⟩) 1 1, .int .i64 0] 25)) _ none) (grown_alloc _ _ _)) (grown_alloc _ _ _)) (grown_alloc _ _ _)) (grown_alloc _ _ _)) (heap_alloc_new w _) (by simp)
  have HO : Hid (Owns ((((((w.alloc (.cells #[.slice (some ⟨w.heap.size + 1, 0, none⟩) 1 1, .int .i64 0] 25)).alloc (.cells #[.int .i64 1] 3)).alloc (.cells #[.int .i64 2, .int .i64 (-1)] 3)).alloc (.cells #[.int .i64 3, .int .i64 (-3), .int .i64 1] 3)).alloc (.cells #[.int .i64 4, .int .i64 (-6), .int .i64 4, .int .i64 (-1)] 3)).alloc (.cells #[.slice (some ⟨w.heap.size + 1, 0, none⟩) 1 1, .slice (some ⟨w.heap.size + 2, 0, none⟩) 2 2, .slice (some ⟨w.heap.size + 3, 0, none⟩) 3 3, .slice (some ⟨w.heap.size + 4, 0, none⟩) 4 4] 23)) w.heap.size (.slice (some ⟨w.heap.size + 1, 0, none⟩) 1 1) 1 [1]) := by
    have h : Owns ((w.alloc (.cells #[.slice (some ⟨w.heap.size + 1, 0, none⟩) 1 1, .int .i64 0] 25)).alloc (.cells #[.int .i64 1] 3)) (w.heap.size + 1) (.slice (some ⟨w.heap.size + 1, 0, none⟩) 1 1) 1 [1] := owns_lit_at (w.alloc (.cells #[.slice (some ⟨w.heap.size + 1, 0, none⟩) 1 1, .int .i64 0] 25)) [1] (by simp) _ (by simp)
    exact (h.grown (w' := ((((((w.alloc (.cells #[.slice (some ⟨w.heap.size + 1, 0, none⟩) 1 1, .int .i64 0] 25)).alloc (.cells #[.int .i64 1] 3)).alloc (.cells #[.int .i64 2, .int .i64 (-1)] 3)).alloc (.cells #[.int .i64 3, .int .i64 (-3), .int .i64 1] 3)).alloc (.cells #[.int .i64 4, .int .i64 (-6), .int .i64 4, .int .i64 (-1)] 3)).alloc (.cells #[.slice (some ⟨w.heap.size + 1, 0, none⟩) 1 1, .slice (some ⟨w.heap.size + 2, 0, none⟩) 2 2, .slice (some ⟨w.heap.size + 3, 0, none⟩) 3 3, .slice (some ⟨w.heap.size + 4, 0, none⟩) 4 4] 23))) (grown_trans (grown_trans (grown_trans (grown_alloc _ _ none) (grown_alloc _ _ _)) (grown_alloc _ _ _)) (grown_alloc _ _ _))).base_le (by omega)
  generalize ((((((w.alloc (.cells #[.slice (some ⟨w.heap.size + 1, 0, none⟩) 1 1, .int .i64 0] 25)).alloc (.cells #[.int .i64 1] 3)).alloc (.cells #[.int .i64 2, .int .i64 (-1)] 3)).alloc (.cells #[.int .i64 3, .int .i64 (-3), .int .i64 1] 3)).alloc (.cells #[.int .i64 4, .int .i64 (-6), .int .i64 4, .int .i64 (-1)] 3)).alloc (.cells #[.slice (some ⟨w.heap.size + 1, 0, none⟩) 1 1, .slice (some ⟨w.heap.size + 2, 0, none⟩) 2 2, .slice (some ⟨w.heap.size + 3, 0, none⟩) 3 3, .slice (some ⟨w.heap.size + 4, 0, none⟩) 4 4] 23)) = W at *
  have q0 : W.cell? ⟨w.heap.size, 0, none⟩ = some (.slice (some ⟨w.heap.size + 1, 0, none⟩) 1 1) := by rw [cell_of_row W _ 0 _ _ _ HA.out]; rfl
  have q1 : W.cell? ⟨w.heap.size, 1, none⟩ = some (.int .i64 0) := by rw [cell_of_row W _ 1 _ _ _ HA.out]; rfl
  exact bodyPost_ret (v := .tuple #[.agg #[.slice (some ⟨w.heap.size + 1, 0, none⟩) 1 1, .int .i64 0], .bool true]) (by simp [results, Try.results54, go_sem, q0, q1]) rfl ⟨_, rfl, HO.out, HG.out⟩

set_option maxRecDepth 100000 in
set_option maxHeartbeats 1000000 in
theorem sFal2 (w : World) : Calls Try.prog 54 #[.int .i64 2] w (MadeF 2 true w) := by
  have k1 := inRange_any 2 1 4 true (w.alloc (.cells #[.slice none 0 0, .int .i64 0] 25)) (by decide)
  go_enter Try.func54, Try.ntmps54
  go_wp2_with fail
  refine k1.mono ?_
  rintro e w' ⟨rfl, rfl⟩
  clear k1
  go_wp2
  have HG : Hid (w.grownBy ((((((w.alloc (.cells #[.slice (some ⟨w.heap.size + 2, 0, none⟩) 2 2, .int .i64 0] 25)).alloc (.cells #[.int .i64 1] 3)).alloc (.cells #[.int .i64 2, .int .i64 (-1)] 3)).alloc (.cells #[.int .i64 3, .int .i64 (-3), .int .i64 1] 3)).alloc (.cells #[.int .i64 4, .int .i64 (-6), .int .i64 4, .int .i64 (-1)] 3)).alloc (.cells #[.slice (some ⟨w.heap.size + 1, 0, none⟩) 1 1, .slice (some ⟨w.heap.size + 2, 0, none⟩) 2 2, .slice (some ⟨w.heap.size + 3, 0, none⟩) 3 3, .slice (some ⟨w.heap.size + 4, 0, none⟩) 4 4] 23)) none) := grown_trans (grown_trans (grown_trans (grown_trans (grown_trans (grown_alloc _ _ _) (grown_alloc _ _ _)) (grown_alloc _ _ _)) (grown_alloc _ _ _)) (grown_alloc _ _ _)) (grown_alloc _ _ _)
  have HA : Hid (((((((w.alloc (.cells #[.slice (some ⟨w.heap.size + 2, 0, none⟩) 2 2, .int .i64 0] 25)).alloc (.cells #[.int .i64 1] 3)).alloc (.cells #[.int .i64 2, .int .i64 (-1)] 3)).alloc (.cells #[.int .i64 3, .int .i64 (-3), .int .i64 1] 3)).alloc (.cells #[.int .i64 4, .int .i64 (-6), .int .i64 4, .int .i64 (-1)] 3)).alloc (.cells #[.slice (some ⟨w.heap.size + 1, 0, none⟩) 1 1, .slice (some ⟨w.heap.size + 2, 0, none⟩) 2 2, .slice (some ⟨w.heap.size + 3, 0, none⟩) 3 3, .slice (some ⟨w.heap.size + 4, 0, none⟩) 4 4] 23)).heap[w.heap.size]? = some (.cells #[.slice (some ⟨w.heap.size + 2, 0, none⟩) 2 2, .int .i64 0] 25 (0, 0))) := grown_heap (grown_trans (grown_trans (grown_trans (grown_trans (grown_alloc (w.alloc (.cells #[.slice (some ⟨w.heap.size + 2, 0, none⟩) 2 2, .int .i64 0] 25)) _ none) (grown_alloc _ _ _)) (grown_alloc _ _ _)) (grown_alloc _ _ _)) (grown_alloc _ _ _)) (heap_alloc_new w _) (by simp)
  have HO : Hid (Owns ((((((w.alloc (.cells #[.slice (some ⟨w.heap.size + 2, 0, none⟩) 2 2, .int .i64 0] 25)).alloc (.cells #[.int .i64 1] 3)).alloc (.cells #[.int .i64 2, .int .i64 (-1)] 3)).alloc (.cells #[.int .i64 3, .int .i64 (-3), .int .i64 1] 3)).alloc (.cells #[.int .i64 4, .int .i64 (-6), .int .i64 4, .int .i64 (-1)] 3)).alloc (.cells #[.slice (some ⟨w.heap.size + 1, 0, none⟩) 1 1, .slice (some ⟨w.heap.size + 2, 0, none⟩) 2 2, .slice (some ⟨w.heap.size + 3, 0, none⟩) 3 3, .slice (some ⟨w.heap.size + 4, 0, none⟩) 4 4] 23)) w.heap.size (.slice (some ⟨w.heap.size + 2, 0, none⟩) 2 2) 2 [2, -1]) := by
    have h : Owns (((w.alloc (.cells #[.slice (some ⟨w.heap.size + 2, 0, none⟩) 2 2, .int .i64 0] 25)).alloc (.cells #[.int .i64 1] 3)).alloc (.cells #[.int .i64 2, .int .i64 (-1)] 3)) (w.heap.size + 2) (.slice (some ⟨w.heap.size + 2, 0, none⟩) 2 2) 2 [2, -1] := owns_lit_at ((w.alloc (.cells #[.slice (some ⟨w.heap.size + 2, 0, none⟩) 2 2, .int .i64 0] 25)).alloc (.cells #[.int .i64 1] 3)) [2, -1] (by simp) _ (by simp)
    exact (h.grown (w' := ((((((w.alloc (.cells #[.slice (some ⟨w.heap.size + 2, 0, none⟩) 2 2, .int .i64 0] 25)).alloc (.cells #[.int .i64 1] 3)).alloc (.cells #[.int .i64 2, .int .i64 (-1)] 3)).alloc (.cells #[.int .i64 3, .int .i64 (-3), .int .i64 1] 3)).alloc (.cells #[.int .i64 4, .int .i64 (-6), .int .i64 4, .int .i64 (-1)] 3)).alloc (.cells #[.slice (some ⟨w.heap.size + 1, 0, none⟩) 1 1, .slice (some ⟨w.heap.size + 2, 0, none⟩) 2 2, .slice (some ⟨w.heap.size + 3, 0, none⟩) 3 3, .slice (some ⟨w.heap.size + 4, 0, none⟩) 4 4] 23))) (grown_trans (grown_trans (grown_alloc _ _ none) (grown_alloc _ _ _)) (grown_alloc _ _ _))).base_le (by omega)
  generalize ((((((w.alloc (.cells #[.slice (some ⟨w.heap.size + 2, 0, none⟩) 2 2, .int .i64 0] 25)).alloc (.cells #[.int .i64 1] 3)).alloc (.cells #[.int .i64 2, .int .i64 (-1)] 3)).alloc (.cells #[.int .i64 3, .int .i64 (-3), .int .i64 1] 3)).alloc (.cells #[.int .i64 4, .int .i64 (-6), .int .i64 4, .int .i64 (-1)] 3)).alloc (.cells #[.slice (some ⟨w.heap.size + 1, 0, none⟩) 1 1, .slice (some ⟨w.heap.size + 2, 0, none⟩) 2 2, .slice (some ⟨w.heap.size + 3, 0, none⟩) 3 3, .slice (some ⟨w.heap.size + 4, 0, none⟩) 4 4] 23)) = W at *
  have q0 : W.cell? ⟨w.heap.size, 0, none⟩ = some (.slice (some ⟨w.heap.size + 2, 0, none⟩) 2 2) := by rw [cell_of_row W _ 0 _ _ _ HA.out]; rfl
  have q1 : W.cell? ⟨w.heap.size, 1, none⟩ = some (.int .i64 0) := by rw [cell_of_row W _ 1 _ _ _ HA.out]; rfl
  exact bodyPost_ret (v := .tuple #[.agg #[.slice (some ⟨w.heap.size + 2, 0, none⟩) 2 2, .int .i64 0], .bool true]) (by simp [results, Try.results54, go_sem, q0, q1]) rfl ⟨_, rfl, HO.out, HG.out⟩

set_option maxRecDepth 100000 in
set_option maxHeartbeats 1000000 in
theorem sFal3 (w : World) : Calls Try.prog 54 #[.int .i64 3] w (MadeF 3 true w) := by
  have k1 := inRange_any 3 1 4 true (w.alloc (.cells #[.slice none 0 0, .int .i64 0] 25)) (by decide)
  go_enter Try.func54, Try.ntmps54
  go_wp2_with fail
  refine k1.mono ?_
  rintro e w' ⟨rfl, rfl⟩
  clear k1
  go_wp2
  have HG : Hid (w.grownBy ((((((w.alloc (.cells #[.slice (some ⟨w.heap.size + 3, 0, none⟩) 3 3, .int .i64 0] 25)).alloc (.cells #[.int .i64 1] 3)).alloc (.cells #[.int .i64 2, .int .i64 (-1)] 3)).alloc (.cells #[.int .i64 3, .int .i64 (-3), .int .i64 1] 3)).alloc (.cells #[.int .i64 4, .int .i64 (-6), .int .i64 4, .int .i64 (-1)] 3)).alloc (.cells #[.slice (some ⟨w.heap.size + 1, 0, none⟩) 1 1, .slice (some ⟨w.heap.size + 2, 0, none⟩) 2 2, .slice (some ⟨w.heap.size + 3, 0, none⟩) 3 3, .slice (some ⟨w.heap.size + 4, 0, none⟩) 4 4] 23)) none) := grown_trans (grown_trans (grown_trans (grown_trans (grown_trans (grown_alloc _ _ _) (grown_alloc _ _ _)) (grown_alloc _ _ _)) (grown_alloc _ _ _)) (grown_alloc _ _ _)) (grown_alloc _ _ _)
  have HA : Hid (((((((w.alloc (.cells #[.slice (some ⟨w.heap.size + 3, 0, none⟩) 3 3, .int .i64 0] 25)).alloc (.cells #[.int .i64 1] 3)).alloc (.cells #[.int .i64 2, .int .i64 (-1)] 3)).alloc (.cells #[.int .i64 3, .int .i64 (-3), .int .i64 1] 3)).alloc (.cells #[.int .i64 4, .int .i64 (-6), .int .i64 4, .int .i64 (-1)] 3)).alloc (.cells #[.slice (some ⟨w.heap.size + 1, 0, none⟩) 1 1, .slice (some ⟨w.heap.size + 2, 0, none⟩) 2 2, .slice (some ⟨w.heap.size + 3, 0, none⟩) 3 3, .slice (some ⟨w.heap.size + 4, 0, none⟩) 4 4] 23)).heap[w.heap.size]? = some (.cells #[.slice (some ⟨w.heap.size + 3, 0, none⟩) 3 3, .int .i64 0] 25 (0, 0))) := grown_heap (grown_trans (grown_trans (grown_trans (grown_trans (grown_alloc (w.alloc (.cells #[.slice (some ⟨w.heap.size + 3, 0, none⟩) 3 3, .int .i64 0] 25)) _ none) (grown_alloc _ _ _)) (grown_alloc _ _ _)) (grown_alloc _ _ _)) (grown_alloc _ _ _)) (heap_alloc_new w _) (by simp)
  have HO : Hid (Owns ((((((w.alloc (.cells #[.slice (some ⟨w.heap.size + 3, 0, none⟩) 3 3, .int .i64 0] 25)).alloc (.cells #[.int .i64 1] 3)).alloc (.cells #[.int .i64 2, .int .i64 (-1)] 3)).alloc (.cells #[.int .i64 3, .int .i64 (-3), .int .i64 1] 3)).alloc (.cells #[.int .i64 4, .int .i64 (-6), .int .i64 4, .int .i64 (-1)] 3)).alloc (.cells #[.slice (some ⟨w.heap.size + 1, 0, none⟩) 1 1, .slice (some ⟨w.heap.size + 2, 0, none⟩) 2 2, .slice (some ⟨w.heap.size + 3, 0, none⟩) 3 3, .slice (some ⟨w.heap.size + 4, 0, none⟩) 4 4] 23)) w.heap.size (.slice (some ⟨w.heap.size + 3, 0, none⟩) 3 3) 3 [3, -3, 1]) := by
    have h : Owns ((((w.alloc (.cells #[.slice (some ⟨w.heap.size + 3, 0, none⟩) 3 3, .int .i64 0] 25)).alloc (.cells #[.int .i64 1] 3)).alloc (.cells #[.int .i64 2, .int .i64 (-1)] 3)).alloc (.cells #[.int .i64 3, .int .i64 (-3), .int .i64 1] 3)) (w.heap.size + 3) (.slice (some ⟨w.heap.size + 3, 0, none⟩) 3 3) 3 [3, -3, 1] := owns_lit_at (((w.alloc (.cells #[.slice (some ⟨w.heap.size + 3, 0, none⟩) 3 3, .int .i64 0] 25)).alloc (.cells #[.int .i64 1] 3)).alloc (.cells #[.int .i64 2, .int .i64 (-1)] 3)) [3, -3, 1] (by simp) _ (by simp)
    exact (h.grown (w' := ((((((w.alloc (.cells #[.slice (some ⟨w.heap.size + 3, 0, none⟩) 3 3, .int .i64 0] 25)).alloc (.cells #[.int .i64 1] 3)).alloc (.cells #[.int .i64 2, .int .i64 (-1)] 3)).alloc (.cells #[.int .i64 3, .int .i64 (-3), .int .i64 1] 3)).alloc (.cells #[.int .i64 4, .int .i64 (-6), .int .i64 4, .int .i64 (-1)] 3)).alloc (.cells #[.slice (some ⟨w.heap.size + 1, 0, none⟩) 1 1, .slice (some ⟨w.heap.size + 2, 0, none⟩) 2 2, .slice (some ⟨w.heap.size + 3, 0, none⟩) 3 3, .slice (some ⟨w.heap.size + 4, 0, none⟩) 4 4] 23))) (grown_trans (grown_alloc _ _ none) (grown_alloc _ _ _))).base_le (by omega)
  generalize ((((((w.alloc (.cells #[.slice (some ⟨w.heap.size + 3, 0, none⟩) 3 3, .int .i64 0] 25)).alloc (.cells #[.int .i64 1] 3)).alloc (.cells #[.int .i64 2, .int .i64 (-1)] 3)).alloc (.cells #[.int .i64 3, .int .i64 (-3), .int .i64 1] 3)).alloc (.cells #[.int .i64 4, .int .i64 (-6), .int .i64 4, .int .i64 (-1)] 3)).alloc (.cells #[.slice (some ⟨w.heap.size + 1, 0, none⟩) 1 1, .slice (some ⟨w.heap.size + 2, 0, none⟩) 2 2, .slice (some ⟨w.heap.size + 3, 0, none⟩) 3 3, .slice (some ⟨w.heap.size + 4, 0, none⟩) 4 4] 23)) = W at *
  have q0 : W.cell? ⟨w.heap.size, 0, none⟩ = some (.slice (some ⟨w.heap.size + 3, 0, none⟩) 3 3) := by rw [cell_of_row W _ 0 _ _ _ HA.out]; rfl
  have q1 : W.cell? ⟨w.heap.size, 1, none⟩ = some (.int .i64 0) := by rw [cell_of_row W _ 1 _ _ _ HA.out]; rfl
  exact bodyPost_ret (v := .tuple #[.agg #[.slice (some ⟨w.heap.size + 3, 0, none⟩) 3 3, .int .i64 0], .bool true]) (by simp [results, Try.results54, go_sem, q0, q1]) rfl ⟨_, rfl, HO.out, HG.out⟩

set_option maxRecDepth 100000 in
set_option maxHeartbeats 1000000 in
theorem sFal4 (w : World) : Calls Try.prog 54 #[.int .i64 4] w (MadeF 4 true w) := by
  have k1 := inRange_any 4 1 4 true (w.alloc (.cells #[.slice none 0 0, .int .i64 0] 25)) (by decide)
  go_enter Try.func54, Try.ntmps54
  go_wp2_with fail
  refine k1.mono ?_
  rintro e w' ⟨rfl, rfl⟩
  clear k1
  go_wp2
  have HG : Hid (w.grownBy ((((((w.alloc (.cells #[.slice (some ⟨w.heap.size + 4, 0, none⟩) 4 4, .int .i64 0] 25)).alloc (.cells #[.int .i64 1] 3)).alloc (.cells #[.int .i64 2, .int .i64 (-1)] 3)).alloc (.cells #[.int .i64 3, .int .i64 (-3), .int .i64 1] 3)).alloc (.cells #[.int .i64 4, .int .i64 (-6), .int .i64 4, .int .i64 (-1)] 3)).alloc (.cells #[.slice (some ⟨w.heap.size + 1, 0, none⟩) 1 1, .slice (some ⟨w.heap.size + 2, 0, none⟩) 2 2, .slice (some ⟨w.heap.size + 3, 0, none⟩) 3 3, .slice (some ⟨w.heap.size + 4, 0, none⟩) 4 4] 23)) none) := grown_trans (grown_trans (grown_trans (grown_trans (grown_trans (grown_alloc _ _ _) (grown_alloc _ _ _)) (grown_alloc _ _ _)) (grown_alloc _ _ _)) (grown_alloc _ _ _)) (grown_alloc _ _ _)
  have HA : Hid (((((((w.alloc (.cells #[.slice (some ⟨w.heap.size + 4, 0, none⟩) 4 4, .int .i64 0] 25)).alloc (.cells #[.int .i64 1] 3)).alloc (.cells #[.int .i64 2, .int .i64 (-1)] 3)).alloc (.cells #[.int .i64 3, .int .i64 (-3), .int .i64 1] 3)).alloc (.cells #[.int .i64 4, .int .i64 (-6), .int .i64 4, .int .i64 (-1)] 3)).alloc (.cells #[.slice (some ⟨w.heap.size + 1, 0, none⟩) 1 1, .slice (some ⟨w.heap.size + 2, 0, none⟩) 2 2, .slice (some ⟨w.heap.size + 3, 0, none⟩) 3 3, .slice (some ⟨w.heap.size + 4, 0, none⟩) 4 4] 23)).heap[w.heap.size]? = some (.cells #[.slice (some ⟨w.heap.size + 4, 0, none⟩) 4 4, .int .i64 0] 25 (0, 0))) := grown_heap (grown_trans (grown_trans (grown_trans (grown_trans (grown_alloc (w.alloc (.cells #[.slice (some ⟨w.heap.size + 4, 0, none⟩) 4 4, .int .i64 0] 25)) _ none) (grown_alloc _ _ _)) (grown_alloc _ _ _)) (grown_alloc _ _ _)) (grown_alloc _ _ _)) (heap_alloc_new w _) (by simp)
  have HO : Hid (Owns ((((((w.alloc (.cells #[.slice (some ⟨w.heap.size + 4, 0, none⟩) 4 4, .int .i64 0] 25)).alloc (.cells #[.int .i64 1] 3)).alloc (.cells #[.int .i64 2, .int .i64 (-1)] 3)).alloc (.cells #[.int .i64 3, .int .i64 (-3), .int .i64 1] 3)).alloc (.cells #[.int .i64 4, .int .i64 (-6), .int .i64 4, .int .i64 (-1)] 3)).alloc (.cells #[.slice (some ⟨w.heap.size + 1, 0, none⟩) 1 1, .slice (some ⟨w.heap.size + 2, 0, none⟩) 2 2, .slice (some ⟨w.heap.size + 3, 0, none⟩) 3 3, .slice (some ⟨w.heap.size + 4, 0, none⟩) 4 4] 23)) w.heap.size (.slice (some ⟨w.heap.size + 4, 0, none⟩) 4 4) 4 [4, -6, 4, -1]) := by
    have h : Owns (((((w.alloc (.cells #[.slice (some ⟨w.heap.size + 4, 0, none⟩) 4 4, .int .i64 0] 25)).alloc (.cells #[.int .i64 1] 3)).alloc (.cells #[.int .i64 2, .int .i64 (-1)] 3)).alloc (.cells #[.int .i64 3, .int .i64 (-3), .int .i64 1] 3)).alloc (.cells #[.int .i64 4, .int .i64 (-6), .int .i64 4, .int .i64 (-1)] 3)) (w.heap.size + 4) (.slice (some ⟨w.heap.size + 4, 0, none⟩) 4 4) 4 [4, -6, 4, -1] := owns_lit_at ((((w.alloc (.cells #[.slice (some ⟨w.heap.size + 4, 0, none⟩) 4 4, .int .i64 0] 25)).alloc (.cells #[.int .i64 1] 3)).alloc (.cells #[.int .i64 2, .int .i64 (-1)] 3)).alloc (.cells #[.int .i64 3, .int .i64 (-3), .int .i64 1] 3)) [4, -6, 4, -1] (by simp) _ (by simp)
    exact (h.grown (w' := ((((((w.alloc (.cells #[.slice (some ⟨w.heap.size + 4, 0, none⟩) 4 4, .int .i64 0] 25)).alloc (.cells #[.int .i64 1] 3)).alloc (.cells #[.int .i64 2, .int .i64 (-1)] 3)).alloc (.cells #[.int .i64 3, .int .i64 (-3), .int .i64 1] 3)).alloc (.cells #[.int .i64 4, .int .i64 (-6), .int .i64 4, .int .i64 (-1)] 3)).alloc (.cells #[.slice (some ⟨w.heap.size + 1, 0, none⟩) 1 1, .slice (some ⟨w.heap.size + 2, 0, none⟩) 2 2, .slice (some ⟨w.heap.size + 3, 0, none⟩) 3 3, .slice (some ⟨w.heap.size + 4, 0, none⟩) 4 4] 23))) (grown_alloc _ _ none)).base_le (by omega)
  generalize ((((((w.alloc (.cells #[.slice (some ⟨w.heap.size + 4, 0, none⟩) 4 4, .int .i64 0] 25)).alloc (.cells #[.int .i64 1] 3)).alloc (.cells #[.int .i64 2, .int .i64 (-1)] 3)).alloc (.cells #[.int .i64 3, .int .i64 (-3), .int .i64 1] 3)).alloc (.cells #[.int .i64 4, .int .i64 (-6), .int .i64 4, .int .i64 (-1)] 3)).alloc (.cells #[.slice (some ⟨w.heap.size + 1, 0, none⟩) 1 1, .slice (some ⟨w.heap.size + 2, 0, none⟩) 2 2, .slice (some ⟨w.heap.size + 3, 0, none⟩) 3 3, .slice (some ⟨w.heap.size + 4, 0, none⟩) 4 4] 23)) = W at *
  have q0 : W.cell? ⟨w.heap.size, 0, none⟩ = some (.slice (some ⟨w.heap.size + 4, 0, none⟩) 4 4) := by rw [cell_of_row W _ 0 _ _ _ HA.out]; rfl
  have q1 : W.cell? ⟨w.heap.size, 1, none⟩ = some (.int .i64 0) := by rw [cell_of_row W _ 1 _ _ _ HA.out]; rfl
  exact bodyPost_ret (v := .tuple #[.agg #[.slice (some ⟨w.heap.size + 4, 0, none⟩) 4 4, .int .i64 0], .bool true]) (by simp [results, Try.results54, go_sem, q0, q1]) rfl ⟨_, rfl, HO.out, HG.out⟩

theorem sFal_any (k : Nat) (w : World) (h1 : 1 ≤ k) (h4 : k ≤ 4) : Calls Try.prog 54 #[.int .i64 (k : Int)] w (MadeF k true w) := by
  have : k = 1 ∨ k = 2 ∨ k = 3 ∨ k = 4 := by omega
  rcases this with rfl | rfl | rfl | rfl
  · exact sFal1 w
  · exact sFal2 w
  · exact sFal3 w
  · exact sFal4 w

set_option maxHeartbeats 400000 in
theorem sFal_out (n : Int) (w : World) (h : n < 1 ∨ 4 < n) : Calls Try.prog 54 #[.int .i64 n] w (MadeF 0 false w) := by
  have k1 := inRange_any n 1 4 false (w.alloc (.cells #[.slice none 0 0, .int .i64 0] 25)) (inB_false (by omega))
  clear h
  go_enter Try.func54, Try.ntmps54
  go_wp2_with fail
  refine k1.mono ?_
  rintro e w' ⟨rfl, rfl⟩
  clear k1
  go_wp2
  have hA := heap_alloc_new w (.cells #[.slice none 0 0, .int .i64 0] 25)
  have q0 : (w.alloc (.cells #[.slice none 0 0, .int .i64 0] 25)).cell? ⟨w.heap.size, 0, none⟩ = some (.slice none 0 0) := by rw [cell_of_row _ _ 0 _ _ _ hA]; rfl
  have q1 : (w.alloc (.cells #[.slice none 0 0, .int .i64 0] 25)).cell? ⟨w.heap.size, 1, none⟩ = some (.int .i64 0) := by rw [cell_of_row _ _ 1 _ _ _ hA]; rfl
  exact bodyPost_ret (v := .tuple #[.agg #[.slice none 0 0, .int .i64 0], .bool false]) (by simp [results, Try.results54, go_sem, q0, q1]) rfl ⟨_, rfl, World.ownsRow_nil _ _ _ _, grown_alloc _ _ _⟩

end Go.Proofs.Ytgiiaijlahjfnaa
