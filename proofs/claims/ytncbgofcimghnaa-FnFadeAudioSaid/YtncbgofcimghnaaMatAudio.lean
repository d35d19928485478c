/-
  The exact laws' own helpers on the struct Audio: sizes, copies, equality. No condition but sizes.
-/
import Derived.Test.YtncbgofcimghnaaMatA
namespace Go.Proofs.Ytncbgofcimghnaa
open Go.RowKit

set_option maxHeartbeats 400000 in
theorem szAudio_any (xss : List (List Int)) (ao : Option Addr) (len cap : Nat) (p q r : Int) (w : World) (hm : Mat w ao len xss) (hmax : len ≤ 9223372036854775807) (hr : r = if (szL xss : Int) ≤ 1048576 then 1048576 - (szL xss : Int) else -1) :
    Calls Try.prog 31 #[.agg #[.int .i64 p, .int .i64 q, .slice ao len cap], .int .i64 1048576] w fun e w' => e = .returned (.int .i64 r) ∧ w.grownBy w' none := by
  have k1 := szIntSS_any xss ao len cap r (w.alloc (.cells #[.int .i64 p, .int .i64 q, .slice ao len cap] 43)) (hm.grown (grown_alloc _ _ _)) hmax hr
  clear hm
  by_cases h : (szL xss : Int) ≤ 1048576
  · rw [if_pos h] at hr
    have hr0 : decide (r < 0) = false := by simp; omega
    clear hr h
    go_enter Try.func31, Try.ntmps31
    go_wp2_with fail
    refine k1.mono ?_
    rintro e w' ⟨rfl, rfl⟩
    clear k1
    go_wp2
    go_ret
    exact ⟨rfl, grown_alloc _ _ _⟩
  · rw [if_neg h] at hr
    subst hr
    clear h
    go_enter Try.func31, Try.ntmps31
    go_wp2_with fail
    refine k1.mono ?_
    rintro e w' ⟨rfl, rfl⟩
    clear k1
    go_wp2
    go_ret
    exact ⟨rfl, grown_alloc _ _ _⟩

/-- A call gives back a new struct of this kind. -/
def MadeAudio (xss : List (List Int)) (len : Nat) (p q : Int) (w : World) (e : Ending) (w' : World) : Prop :=
  ∃ v, e = .returned (.agg #[.int .i64 p, .int .i64 q, v]) ∧ MOwn w' w.heap.size v len xss ∧ w.grownBy w' none

set_option maxHeartbeats 1000000 in
theorem toAudio_any (xss : List (List Int)) (ao : Option Addr) (len cap : Nat) (p q : Int) (w : World) (hx : Mat w ao len xss) (hs : szL xss ≤ 1048576) :
    Calls Try.prog 32 #[.agg #[.int .i64 p, .int .i64 q, .slice ao len cap]] w (MadeAudio xss len p q w) := by
  go_enter Try.func32, Try.ntmps32
  go_wp2_with fail
  refine (toIntSS_any xss ao len cap _ (hx.grown (grown_trans (grown_trans (grown_alloc _ _ _) (grown_alloc _ _ _)) (grown_alloc _ _ _))) hs).mono ?_
  rintro e w1 ⟨v1, rfl, ho, hg⟩
  obtain ⟨a1, c1, rfl, _⟩ := ho.reads
  obtain ⟨hB0, hC0, hG0, hS0⟩ := to3 w (.cells #[.int .i64 p, .int .i64 q, .slice ao len cap] 43) 25 25 p q
  have hB := grown_heap hg hB0 (by simp)
  have hC := grown_heap hg hC0 (by simp)
  have q0 : w1.cell? ⟨w.heap.size + 1, 0, none⟩ = some (.int .i64 0) := by rw [cell_of_row w1 _ 0 _ _ _ hB]; rfl
  have q1 : w1.cell? ⟨w.heap.size + 1, 1, none⟩ = some (.int .i64 0) := by rw [cell_of_row w1 _ 1 _ _ _ hB]; rfl
  have q2 : w1.cell? ⟨w.heap.size + 1, 2, none⟩ = some (.slice none 0 0) := by rw [cell_of_row w1 _ 2 _ _ _ hB]; rfl
  have r0 : w1.cell? ⟨w.heap.size + 2, 0, none⟩ = some (.int .i64 p) := by rw [cell_of_row w1 _ 0 _ _ _ hC]; rfl
  have r1 : w1.cell? ⟨w.heap.size + 2, 1, none⟩ = some (.int .i64 q) := by rw [cell_of_row w1 _ 1 _ _ _ hC]; rfl
  have r2 : w1.cell? ⟨w.heap.size + 2, 2, none⟩ = some (.slice none 0 0) := by rw [cell_of_row w1 _ 2 _ _ _ hC]; rfl
  have f0 : w1.frozen? ⟨w.heap.size + 1, 0, none⟩ = false := frozen_of_row w1 _ 0 _ _ hB
  have f1 : w1.frozen? ⟨w.heap.size + 1, 1, none⟩ = false := frozen_of_row w1 _ 1 _ _ hB
  have f2 : w1.frozen? ⟨w.heap.size + 1, 2, none⟩ = false := frozen_of_row w1 _ 2 _ _ hB
  have g2 : w1.frozen? ⟨w.heap.size + 2, 2, none⟩ = false := frozen_of_row w1 _ 2 _ _ hC
  have HO := Lib.hid ho
  have HG := Lib.hid (grown_trans hG0 hg)
  have HZ := Lib.hid hS0
  clear ho hg hB hC hB0 hC0 hG0 hS0 hx hs
  go_wp2
  refine bodyPost_ret (v := .agg #[.int .i64 p, .int .i64 q, .slice a1 len c1]) (by simp [results, Try.results32, go_sem, q0, q1, q2]) rfl ⟨_, rfl, ?_, ?_⟩
  · have hb := HZ.out
    exact (((((HO.out.set _ _ (by show _ < _; rw [hb]; simp; try omega)).set _ _ (by show _ < _; rw [hb]; simp; try omega)).set _ _ (by show _ < _; rw [hb]; simp; try omega)).set _ _ (by show _ < _; rw [hb]; simp; try omega))).base_le (by rw [hb]; omega)
  · exact grown_set (grown_set (grown_set (grown_set HG.out (by show _ ≤ _; simp; try omega)) (by show _ ≤ _; simp; try omega)) (by show _ ≤ _; simp; try omega)) (by show _ ≤ _; simp; try omega)

set_option maxHeartbeats 1000000 in
theorem eqAudio_same (xss : List (List Int)) (ao bo : Option Addr) (len cap cap' : Nat) (p q : Int) (w : World) (hx : Mat w ao len xss) (hy : Mat w bo len xss) (hs : szL xss ≤ 1048576) :
    Calls Try.prog 33 #[.agg #[.int .i64 p, .int .i64 q, .slice ao len cap], .agg #[.int .i64 p, .int .i64 q, .slice bo len cap']] w fun e w' => e = .returned (.bool true) ∧ w.grownBy w' none := by
  have k1 := fun j => eqIntSS_same xss ao bo len cap cap' (((w.alloc (.cells #[.int .i64 p, .int .i64 q, .slice ao len cap] 25)).alloc (.cells #[.int .i64 p, .int .i64 q, .slice bo len cap'] 25)).drewN j)
    (hx.grown (grown_trans (grown_alloc _ _ _) (grown_trans (grown_alloc _ _ _) (grown_drewN _ _ _)))) (hy.grown (grown_trans (grown_alloc _ _ _) (grown_trans (grown_alloc _ _ _) (grown_drewN _ _ _)))) hs
  clear hx hy hs
  go_enter Try.func33, Try.ntmps33
  go_wp2_with fail
  have k10 := k1 0
  refine k10.mono ?_
  rintro e w1 ⟨rfl, m, rfl⟩
  clear k1 k10
  go_wp2
  go_ret
  exact ⟨rfl, grown_trans (grown_trans (grown_alloc _ _ _) (grown_alloc _ _ _)) (grown_drewN _ _ _)⟩

end Go.Proofs.Ytncbgofcimghnaa
