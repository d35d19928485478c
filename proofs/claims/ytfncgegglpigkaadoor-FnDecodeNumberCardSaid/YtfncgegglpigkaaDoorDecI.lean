/-
  bytesBehind and DecodeNumber of the program. For worlds that hold the table of the forms.
-/
import Derived.Test.YtfncgegglpigkaaDoorTab
import Derived.Test.YtfncgegglpigkaaDoorOwn
import Derived.BigQuiet
namespace Go.Proofs.YtfncgegglpigkaaDoor
open Go.RowKit

/-- What a function of (int, bool) gives: a number and a truth value. -/
def NumOk (n : Int) (b : Bool) (w : World) (e : Ending) (w' : World) : Prop := e = .returned (.tuple #[.int .i64 n, .bool b]) ∧ w.grownBy w' none

theorem idx0 : ∀ w, (Instr.index 37 (.agg #[.int .i64 128, .int .i64 0, .int .i64 2048, .int .i64 192, .int .i64 65536, .int .i64 224, .int .i64 2097152, .int .i64 240, .int .i64 67108864, .int .i64 248, .int .i64 2147483648, .int .i64 252]) (.int .i64 0)).run Tryd.prog w = .ok (.agg #[.int .i64 128, .int .i64 0]) w := fun _ => by kernel_rfl
theorem idx1 : ∀ w, (Instr.index 37 (.agg #[.int .i64 128, .int .i64 0, .int .i64 2048, .int .i64 192, .int .i64 65536, .int .i64 224, .int .i64 2097152, .int .i64 240, .int .i64 67108864, .int .i64 248, .int .i64 2147483648, .int .i64 252]) (.int .i64 1)).run Tryd.prog w = .ok (.agg #[.int .i64 2048, .int .i64 192]) w := fun _ => by kernel_rfl
theorem idx2 : ∀ w, (Instr.index 37 (.agg #[.int .i64 128, .int .i64 0, .int .i64 2048, .int .i64 192, .int .i64 65536, .int .i64 224, .int .i64 2097152, .int .i64 240, .int .i64 67108864, .int .i64 248, .int .i64 2147483648, .int .i64 252]) (.int .i64 2)).run Tryd.prog w = .ok (.agg #[.int .i64 65536, .int .i64 224]) w := fun _ => by kernel_rfl
theorem idx3 : ∀ w, (Instr.index 37 (.agg #[.int .i64 128, .int .i64 0, .int .i64 2048, .int .i64 192, .int .i64 65536, .int .i64 224, .int .i64 2097152, .int .i64 240, .int .i64 67108864, .int .i64 248, .int .i64 2147483648, .int .i64 252]) (.int .i64 3)).run Tryd.prog w = .ok (.agg #[.int .i64 2097152, .int .i64 240]) w := fun _ => by kernel_rfl
theorem idx4 : ∀ w, (Instr.index 37 (.agg #[.int .i64 128, .int .i64 0, .int .i64 2048, .int .i64 192, .int .i64 65536, .int .i64 224, .int .i64 2097152, .int .i64 240, .int .i64 67108864, .int .i64 248, .int .i64 2147483648, .int .i64 252]) (.int .i64 4)).run Tryd.prog w = .ok (.agg #[.int .i64 67108864, .int .i64 248]) w := fun _ => by kernel_rfl
theorem idx5 : ∀ w, (Instr.index 37 (.agg #[.int .i64 128, .int .i64 0, .int .i64 2048, .int .i64 192, .int .i64 65536, .int .i64 224, .int .i64 2097152, .int .i64 240, .int .i64 67108864, .int .i64 248, .int .i64 2147483648, .int .i64 252]) (.int .i64 5)).run Tryd.prog w = .ok (.agg #[.int .i64 2147483648, .int .i64 252]) w := fun _ => by kernel_rfl

set_option maxRecDepth 100000 in
set_option maxHeartbeats 1000000 in
theorem behind0 (x : Int) (w : World) (hf : HasForms w) (h0 : 0 ≤ x) (h1 : x < 128) :
    Calls Tryd.prog 17 #[.int .i64 x] w (NumOk 0 true w) := by
  have c0 : w.cell? ⟨0, 0, none⟩ = some (.int .i64 128) := (hf 0 (128, 0) rfl).1
  have e0 : w.cell? ⟨0, 1, none⟩ = some (.int .i64 0) := (hf 0 (128, 0) rfl).2
  have c1 : w.cell? ⟨0, 2, none⟩ = some (.int .i64 2048) := (hf 1 (2048, 192) rfl).1
  have e1 : w.cell? ⟨0, 3, none⟩ = some (.int .i64 192) := (hf 1 (2048, 192) rfl).2
  have c2 : w.cell? ⟨0, 4, none⟩ = some (.int .i64 65536) := (hf 2 (65536, 224) rfl).1
  have e2 : w.cell? ⟨0, 5, none⟩ = some (.int .i64 224) := (hf 2 (65536, 224) rfl).2
  have c3 : w.cell? ⟨0, 6, none⟩ = some (.int .i64 2097152) := (hf 3 (2097152, 240) rfl).1
  have e3 : w.cell? ⟨0, 7, none⟩ = some (.int .i64 240) := (hf 3 (2097152, 240) rfl).2
  have c4 : w.cell? ⟨0, 8, none⟩ = some (.int .i64 67108864) := (hf 4 (67108864, 248) rfl).1
  have e4 : w.cell? ⟨0, 9, none⟩ = some (.int .i64 248) := (hf 4 (67108864, 248) rfl).2
  have c5 : w.cell? ⟨0, 10, none⟩ = some (.int .i64 2147483648) := (hf 5 (2147483648, 252) rfl).1
  have e5 : w.cell? ⟨0, 11, none⟩ = some (.int .i64 252) := (hf 5 (2147483648, 252) rfl).2
  have d0 : decide ((0 : Int) ≤ x) = true := by simp; omega
  have d1 : decide (x < 128) = true := by simp; omega
  clear hf
  have i0 := idx0
  go_enter Tryd.func17, Tryd.ntmps17
  go_wp2
  refine wp_loop_rounds 1 ?_
  rw [rounds_succ]
  go_wp2
  go_ret2
  exact ⟨rfl, grown_alloc _ _ _⟩

set_option maxRecDepth 100000 in
set_option maxHeartbeats 1000000 in
theorem behind1 (x : Int) (w : World) (hf : HasForms w) (h0 : 192 ≤ x) (h1 : x < 224) :
    Calls Tryd.prog 17 #[.int .i64 x] w (NumOk 1 true w) := by
  have c0 : w.cell? ⟨0, 0, none⟩ = some (.int .i64 128) := (hf 0 (128, 0) rfl).1
  have e0 : w.cell? ⟨0, 1, none⟩ = some (.int .i64 0) := (hf 0 (128, 0) rfl).2
  have c1 : w.cell? ⟨0, 2, none⟩ = some (.int .i64 2048) := (hf 1 (2048, 192) rfl).1
  have e1 : w.cell? ⟨0, 3, none⟩ = some (.int .i64 192) := (hf 1 (2048, 192) rfl).2
  have c2 : w.cell? ⟨0, 4, none⟩ = some (.int .i64 65536) := (hf 2 (65536, 224) rfl).1
  have e2 : w.cell? ⟨0, 5, none⟩ = some (.int .i64 224) := (hf 2 (65536, 224) rfl).2
  have c3 : w.cell? ⟨0, 6, none⟩ = some (.int .i64 2097152) := (hf 3 (2097152, 240) rfl).1
  have e3 : w.cell? ⟨0, 7, none⟩ = some (.int .i64 240) := (hf 3 (2097152, 240) rfl).2
  have c4 : w.cell? ⟨0, 8, none⟩ = some (.int .i64 67108864) := (hf 4 (67108864, 248) rfl).1
  have e4 : w.cell? ⟨0, 9, none⟩ = some (.int .i64 248) := (hf 4 (67108864, 248) rfl).2
  have c5 : w.cell? ⟨0, 10, none⟩ = some (.int .i64 2147483648) := (hf 5 (2147483648, 252) rfl).1
  have e5 : w.cell? ⟨0, 11, none⟩ = some (.int .i64 252) := (hf 5 (2147483648, 252) rfl).2
  have d0 : decide ((0 : Int) ≤ x) = true := by simp; omega
  have d1 : decide (x < 128) = false := by simp; omega
  have d2 : decide ((0 : Int) ≤ x - 192) = true := by simp; omega
  have d3 : decide (x - 192 < 32) = true := by simp; omega
  clear hf
  have i0 := idx0
  have i1 := idx1
  go_enter Tryd.func17, Tryd.ntmps17
  go_wp2
  refine wp_loop_rounds 2 ?_
  rw [rounds_succ]
  go_wp2
  rw [rounds_succ]
  go_wp2
  go_ret2
  exact ⟨rfl, grown_trans (grown_alloc _ _ _) (grown_alloc _ _ _)⟩

set_option maxRecDepth 100000 in
set_option maxHeartbeats 1000000 in
theorem behind2 (x : Int) (w : World) (hf : HasForms w) (h0 : 224 ≤ x) (h1 : x < 240) :
    Calls Tryd.prog 17 #[.int .i64 x] w (NumOk 2 true w) := by
  have c0 : w.cell? ⟨0, 0, none⟩ = some (.int .i64 128) := (hf 0 (128, 0) rfl).1
  have e0 : w.cell? ⟨0, 1, none⟩ = some (.int .i64 0) := (hf 0 (128, 0) rfl).2
  have c1 : w.cell? ⟨0, 2, none⟩ = some (.int .i64 2048) := (hf 1 (2048, 192) rfl).1
  have e1 : w.cell? ⟨0, 3, none⟩ = some (.int .i64 192) := (hf 1 (2048, 192) rfl).2
  have c2 : w.cell? ⟨0, 4, none⟩ = some (.int .i64 65536) := (hf 2 (65536, 224) rfl).1
  have e2 : w.cell? ⟨0, 5, none⟩ = some (.int .i64 224) := (hf 2 (65536, 224) rfl).2
  have c3 : w.cell? ⟨0, 6, none⟩ = some (.int .i64 2097152) := (hf 3 (2097152, 240) rfl).1
  have e3 : w.cell? ⟨0, 7, none⟩ = some (.int .i64 240) := (hf 3 (2097152, 240) rfl).2
  have c4 : w.cell? ⟨0, 8, none⟩ = some (.int .i64 67108864) := (hf 4 (67108864, 248) rfl).1
  have e4 : w.cell? ⟨0, 9, none⟩ = some (.int .i64 248) := (hf 4 (67108864, 248) rfl).2
  have c5 : w.cell? ⟨0, 10, none⟩ = some (.int .i64 2147483648) := (hf 5 (2147483648, 252) rfl).1
  have e5 : w.cell? ⟨0, 11, none⟩ = some (.int .i64 252) := (hf 5 (2147483648, 252) rfl).2
  have d0 : decide ((0 : Int) ≤ x) = true := by simp; omega
  have d1 : decide (x < 128) = false := by simp; omega
  have d2 : decide ((0 : Int) ≤ x - 192) = true := by simp; omega
  have d3 : decide (x - 192 < 32) = false := by simp; omega
  have d4 : decide ((0 : Int) ≤ x - 224) = true := by simp; omega
  have d5 : decide (x - 224 < 16) = true := by simp; omega
  clear hf
  have i0 := idx0
  have i1 := idx1
  have i2 := idx2
  go_enter Tryd.func17, Tryd.ntmps17
  go_wp2
  refine wp_loop_rounds 3 ?_
  rw [rounds_succ]
  go_wp2
  rw [rounds_succ]
  go_wp2
  rw [rounds_succ]
  go_wp2
  go_ret2
  exact ⟨rfl, grown_trans (grown_trans (grown_alloc _ _ _) (grown_alloc _ _ _)) (grown_alloc _ _ _)⟩

set_option maxRecDepth 100000 in
set_option maxHeartbeats 1000000 in
theorem behind3 (x : Int) (w : World) (hf : HasForms w) (h0 : 240 ≤ x) (h1 : x < 248) :
    Calls Tryd.prog 17 #[.int .i64 x] w (NumOk 3 true w) := by
  have c0 : w.cell? ⟨0, 0, none⟩ = some (.int .i64 128) := (hf 0 (128, 0) rfl).1
  have e0 : w.cell? ⟨0, 1, none⟩ = some (.int .i64 0) := (hf 0 (128, 0) rfl).2
  have c1 : w.cell? ⟨0, 2, none⟩ = some (.int .i64 2048) := (hf 1 (2048, 192) rfl).1
  have e1 : w.cell? ⟨0, 3, none⟩ = some (.int .i64 192) := (hf 1 (2048, 192) rfl).2
  have c2 : w.cell? ⟨0, 4, none⟩ = some (.int .i64 65536) := (hf 2 (65536, 224) rfl).1
  have e2 : w.cell? ⟨0, 5, none⟩ = some (.int .i64 224) := (hf 2 (65536, 224) rfl).2
  have c3 : w.cell? ⟨0, 6, none⟩ = some (.int .i64 2097152) := (hf 3 (2097152, 240) rfl).1
  have e3 : w.cell? ⟨0, 7, none⟩ = some (.int .i64 240) := (hf 3 (2097152, 240) rfl).2
  have c4 : w.cell? ⟨0, 8, none⟩ = some (.int .i64 67108864) := (hf 4 (67108864, 248) rfl).1
  have e4 : w.cell? ⟨0, 9, none⟩ = some (.int .i64 248) := (hf 4 (67108864, 248) rfl).2
  have c5 : w.cell? ⟨0, 10, none⟩ = some (.int .i64 2147483648) := (hf 5 (2147483648, 252) rfl).1
  have e5 : w.cell? ⟨0, 11, none⟩ = some (.int .i64 252) := (hf 5 (2147483648, 252) rfl).2
  have d0 : decide ((0 : Int) ≤ x) = true := by simp; omega
  have d1 : decide (x < 128) = false := by simp; omega
  have d2 : decide ((0 : Int) ≤ x - 192) = true := by simp; omega
  have d3 : decide (x - 192 < 32) = false := by simp; omega
  have d4 : decide ((0 : Int) ≤ x - 224) = true := by simp; omega
  have d5 : decide (x - 224 < 16) = false := by simp; omega
  have d6 : decide ((0 : Int) ≤ x - 240) = true := by simp; omega
  have d7 : decide (x - 240 < 8) = true := by simp; omega
  clear hf
  have i0 := idx0
  have i1 := idx1
  have i2 := idx2
  have i3 := idx3
  go_enter Tryd.func17, Tryd.ntmps17
  go_wp2
  refine wp_loop_rounds 4 ?_
  rw [rounds_succ]
  go_wp2
  rw [rounds_succ]
  go_wp2
  rw [rounds_succ]
  go_wp2
  rw [rounds_succ]
  go_wp2
  go_ret2
  exact ⟨rfl, grown_trans (grown_trans (grown_trans (grown_alloc _ _ _) (grown_alloc _ _ _)) (grown_alloc _ _ _)) (grown_alloc _ _ _)⟩

set_option maxRecDepth 100000 in
set_option maxHeartbeats 1000000 in
theorem behind4 (x : Int) (w : World) (hf : HasForms w) (h0 : 248 ≤ x) (h1 : x < 252) :
    Calls Tryd.prog 17 #[.int .i64 x] w (NumOk 4 true w) := by
  have c0 : w.cell? ⟨0, 0, none⟩ = some (.int .i64 128) := (hf 0 (128, 0) rfl).1
  have e0 : w.cell? ⟨0, 1, none⟩ = some (.int .i64 0) := (hf 0 (128, 0) rfl).2
  have c1 : w.cell? ⟨0, 2, none⟩ = some (.int .i64 2048) := (hf 1 (2048, 192) rfl).1
  have e1 : w.cell? ⟨0, 3, none⟩ = some (.int .i64 192) := (hf 1 (2048, 192) rfl).2
  have c2 : w.cell? ⟨0, 4, none⟩ = some (.int .i64 65536) := (hf 2 (65536, 224) rfl).1
  have e2 : w.cell? ⟨0, 5, none⟩ = some (.int .i64 224) := (hf 2 (65536, 224) rfl).2
  have c3 : w.cell? ⟨0, 6, none⟩ = some (.int .i64 2097152) := (hf 3 (2097152, 240) rfl).1
  have e3 : w.cell? ⟨0, 7, none⟩ = some (.int .i64 240) := (hf 3 (2097152, 240) rfl).2
  have c4 : w.cell? ⟨0, 8, none⟩ = some (.int .i64 67108864) := (hf 4 (67108864, 248) rfl).1
  have e4 : w.cell? ⟨0, 9, none⟩ = some (.int .i64 248) := (hf 4 (67108864, 248) rfl).2
  have c5 : w.cell? ⟨0, 10, none⟩ = some (.int .i64 2147483648) := (hf 5 (2147483648, 252) rfl).1
  have e5 : w.cell? ⟨0, 11, none⟩ = some (.int .i64 252) := (hf 5 (2147483648, 252) rfl).2
  have d0 : decide ((0 : Int) ≤ x) = true := by simp; omega
  have d1 : decide (x < 128) = false := by simp; omega
  have d2 : decide ((0 : Int) ≤ x - 192) = true := by simp; omega
  have d3 : decide (x - 192 < 32) = false := by simp; omega
  have d4 : decide ((0 : Int) ≤ x - 224) = true := by simp; omega
  have d5 : decide (x - 224 < 16) = false := by simp; omega
  have d6 : decide ((0 : Int) ≤ x - 240) = true := by simp; omega
  have d7 : decide (x - 240 < 8) = false := by simp; omega
  have d8 : decide ((0 : Int) ≤ x - 248) = true := by simp; omega
  have d9 : decide (x - 248 < 4) = true := by simp; omega
  clear hf
  have i0 := idx0
  have i1 := idx1
  have i2 := idx2
  have i3 := idx3
  have i4 := idx4
  go_enter Tryd.func17, Tryd.ntmps17
  go_wp2
  refine wp_loop_rounds 5 ?_
  rw [rounds_succ]
  go_wp2
  rw [rounds_succ]
  go_wp2
  rw [rounds_succ]
  go_wp2
  rw [rounds_succ]
  go_wp2
  rw [rounds_succ]
  go_wp2
  go_ret2
  exact ⟨rfl, grown_trans (grown_trans (grown_trans (grown_trans (grown_alloc _ _ _) (grown_alloc _ _ _)) (grown_alloc _ _ _)) (grown_alloc _ _ _)) (grown_alloc _ _ _)⟩

set_option maxRecDepth 100000 in
set_option maxHeartbeats 1000000 in
theorem behind5 (x : Int) (w : World) (hf : HasForms w) (h0 : 252 ≤ x) (h1 : x < 254) :
    Calls Tryd.prog 17 #[.int .i64 x] w (NumOk 5 true w) := by
  have c0 : w.cell? ⟨0, 0, none⟩ = some (.int .i64 128) := (hf 0 (128, 0) rfl).1
  have e0 : w.cell? ⟨0, 1, none⟩ = some (.int .i64 0) := (hf 0 (128, 0) rfl).2
  have c1 : w.cell? ⟨0, 2, none⟩ = some (.int .i64 2048) := (hf 1 (2048, 192) rfl).1
  have e1 : w.cell? ⟨0, 3, none⟩ = some (.int .i64 192) := (hf 1 (2048, 192) rfl).2
  have c2 : w.cell? ⟨0, 4, none⟩ = some (.int .i64 65536) := (hf 2 (65536, 224) rfl).1
  have e2 : w.cell? ⟨0, 5, none⟩ = some (.int .i64 224) := (hf 2 (65536, 224) rfl).2
  have c3 : w.cell? ⟨0, 6, none⟩ = some (.int .i64 2097152) := (hf 3 (2097152, 240) rfl).1
  have e3 : w.cell? ⟨0, 7, none⟩ = some (.int .i64 240) := (hf 3 (2097152, 240) rfl).2
  have c4 : w.cell? ⟨0, 8, none⟩ = some (.int .i64 67108864) := (hf 4 (67108864, 248) rfl).1
  have e4 : w.cell? ⟨0, 9, none⟩ = some (.int .i64 248) := (hf 4 (67108864, 248) rfl).2
  have c5 : w.cell? ⟨0, 10, none⟩ = some (.int .i64 2147483648) := (hf 5 (2147483648, 252) rfl).1
  have e5 : w.cell? ⟨0, 11, none⟩ = some (.int .i64 252) := (hf 5 (2147483648, 252) rfl).2
  have d0 : decide ((0 : Int) ≤ x) = true := by simp; omega
  have d1 : decide (x < 128) = false := by simp; omega
  have d2 : decide ((0 : Int) ≤ x - 192) = true := by simp; omega
  have d3 : decide (x - 192 < 32) = false := by simp; omega
  have d4 : decide ((0 : Int) ≤ x - 224) = true := by simp; omega
  have d5 : decide (x - 224 < 16) = false := by simp; omega
  have d6 : decide ((0 : Int) ≤ x - 240) = true := by simp; omega
  have d7 : decide (x - 240 < 8) = false := by simp; omega
  have d8 : decide ((0 : Int) ≤ x - 248) = true := by simp; omega
  have d9 : decide (x - 248 < 4) = false := by simp; omega
  have d10 : decide ((0 : Int) ≤ x - 252) = true := by simp; omega
  have d11 : decide (x - 252 < 2) = true := by simp; omega
  clear hf
  have i0 := idx0
  have i1 := idx1
  have i2 := idx2
  have i3 := idx3
  have i4 := idx4
  have i5 := idx5
  go_enter Tryd.func17, Tryd.ntmps17
  go_wp2
  refine wp_loop_rounds 6 ?_
  rw [rounds_succ]
  go_wp2
  rw [rounds_succ]
  go_wp2
  rw [rounds_succ]
  go_wp2
  rw [rounds_succ]
  go_wp2
  rw [rounds_succ]
  go_wp2
  rw [rounds_succ]
  go_wp2
  go_ret2
  exact ⟨rfl, grown_trans (grown_trans (grown_trans (grown_trans (grown_trans (grown_alloc _ _ _) (grown_alloc _ _ _)) (grown_alloc _ _ _)) (grown_alloc _ _ _)) (grown_alloc _ _ _)) (grown_alloc _ _ _)⟩

set_option maxRecDepth 100000 in
set_option maxHeartbeats 1000000 in
theorem behindA (x : Int) (w : World) (hf : HasForms w) (h0 : 128 ≤ x) (h1 : x < 192) :
    Calls Tryd.prog 17 #[.int .i64 x] w (NumOk 0 false w) := by
  have c0 : w.cell? ⟨0, 0, none⟩ = some (.int .i64 128) := (hf 0 (128, 0) rfl).1
  have e0 : w.cell? ⟨0, 1, none⟩ = some (.int .i64 0) := (hf 0 (128, 0) rfl).2
  have c1 : w.cell? ⟨0, 2, none⟩ = some (.int .i64 2048) := (hf 1 (2048, 192) rfl).1
  have e1 : w.cell? ⟨0, 3, none⟩ = some (.int .i64 192) := (hf 1 (2048, 192) rfl).2
  have c2 : w.cell? ⟨0, 4, none⟩ = some (.int .i64 65536) := (hf 2 (65536, 224) rfl).1
  have e2 : w.cell? ⟨0, 5, none⟩ = some (.int .i64 224) := (hf 2 (65536, 224) rfl).2
  have c3 : w.cell? ⟨0, 6, none⟩ = some (.int .i64 2097152) := (hf 3 (2097152, 240) rfl).1
  have e3 : w.cell? ⟨0, 7, none⟩ = some (.int .i64 240) := (hf 3 (2097152, 240) rfl).2
  have c4 : w.cell? ⟨0, 8, none⟩ = some (.int .i64 67108864) := (hf 4 (67108864, 248) rfl).1
  have e4 : w.cell? ⟨0, 9, none⟩ = some (.int .i64 248) := (hf 4 (67108864, 248) rfl).2
  have c5 : w.cell? ⟨0, 10, none⟩ = some (.int .i64 2147483648) := (hf 5 (2147483648, 252) rfl).1
  have e5 : w.cell? ⟨0, 11, none⟩ = some (.int .i64 252) := (hf 5 (2147483648, 252) rfl).2
  have d0 : decide ((0 : Int) ≤ x) = true := by simp; omega
  have d1 : decide (x < 128) = false := by simp; omega
  have d2 : decide ((0 : Int) ≤ x - 192) = false := by simp; omega
  have d3 : decide ((0 : Int) ≤ x - 224) = false := by simp; omega
  have d4 : decide ((0 : Int) ≤ x - 240) = false := by simp; omega
  have d5 : decide ((0 : Int) ≤ x - 248) = false := by simp; omega
  have d6 : decide ((0 : Int) ≤ x - 252) = false := by simp; omega
  clear hf
  have i0 := idx0
  have i1 := idx1
  have i2 := idx2
  have i3 := idx3
  have i4 := idx4
  have i5 := idx5
  go_enter Tryd.func17, Tryd.ntmps17
  go_wp2
  refine wp_loop_rounds 7 ?_
  rw [rounds_succ]
  go_wp2
  rw [rounds_succ]
  go_wp2
  rw [rounds_succ]
  go_wp2
  rw [rounds_succ]
  go_wp2
  rw [rounds_succ]
  go_wp2
  rw [rounds_succ]
  go_wp2
  rw [rounds_succ]
  go_wp2
  go_ret2
  exact ⟨rfl, grown_trans (grown_trans (grown_trans (grown_trans (grown_trans (grown_alloc _ _ _) (grown_alloc _ _ _)) (grown_alloc _ _ _)) (grown_alloc _ _ _)) (grown_alloc _ _ _)) (grown_alloc _ _ _)⟩

set_option maxRecDepth 100000 in
set_option maxHeartbeats 1000000 in
theorem behindB (x : Int) (w : World) (hf : HasForms w) (h0 : 254 ≤ x) (h1 : x < 256) :
    Calls Tryd.prog 17 #[.int .i64 x] w (NumOk 0 false w) := by
  have c0 : w.cell? ⟨0, 0, none⟩ = some (.int .i64 128) := (hf 0 (128, 0) rfl).1
  have e0 : w.cell? ⟨0, 1, none⟩ = some (.int .i64 0) := (hf 0 (128, 0) rfl).2
  have c1 : w.cell? ⟨0, 2, none⟩ = some (.int .i64 2048) := (hf 1 (2048, 192) rfl).1
  have e1 : w.cell? ⟨0, 3, none⟩ = some (.int .i64 192) := (hf 1 (2048, 192) rfl).2
  have c2 : w.cell? ⟨0, 4, none⟩ = some (.int .i64 65536) := (hf 2 (65536, 224) rfl).1
  have e2 : w.cell? ⟨0, 5, none⟩ = some (.int .i64 224) := (hf 2 (65536, 224) rfl).2
  have c3 : w.cell? ⟨0, 6, none⟩ = some (.int .i64 2097152) := (hf 3 (2097152, 240) rfl).1
  have e3 : w.cell? ⟨0, 7, none⟩ = some (.int .i64 240) := (hf 3 (2097152, 240) rfl).2
  have c4 : w.cell? ⟨0, 8, none⟩ = some (.int .i64 67108864) := (hf 4 (67108864, 248) rfl).1
  have e4 : w.cell? ⟨0, 9, none⟩ = some (.int .i64 248) := (hf 4 (67108864, 248) rfl).2
  have c5 : w.cell? ⟨0, 10, none⟩ = some (.int .i64 2147483648) := (hf 5 (2147483648, 252) rfl).1
  have e5 : w.cell? ⟨0, 11, none⟩ = some (.int .i64 252) := (hf 5 (2147483648, 252) rfl).2
  have d0 : decide ((0 : Int) ≤ x) = true := by simp; omega
  have d1 : decide (x < 128) = false := by simp; omega
  have d2 : decide ((0 : Int) ≤ x - 192) = true := by simp; omega
  have d3 : decide (x - 192 < 32) = false := by simp; omega
  have d4 : decide ((0 : Int) ≤ x - 224) = true := by simp; omega
  have d5 : decide (x - 224 < 16) = false := by simp; omega
  have d6 : decide ((0 : Int) ≤ x - 240) = true := by simp; omega
  have d7 : decide (x - 240 < 8) = false := by simp; omega
  have d8 : decide ((0 : Int) ≤ x - 248) = true := by simp; omega
  have d9 : decide (x - 248 < 4) = false := by simp; omega
  have d10 : decide ((0 : Int) ≤ x - 252) = true := by simp; omega
  have d11 : decide (x - 252 < 2) = false := by simp; omega
  clear hf
  have i0 := idx0
  have i1 := idx1
  have i2 := idx2
  have i3 := idx3
  have i4 := idx4
  have i5 := idx5
  go_enter Tryd.func17, Tryd.ntmps17
  go_wp2
  refine wp_loop_rounds 7 ?_
  rw [rounds_succ]
  go_wp2
  rw [rounds_succ]
  go_wp2
  rw [rounds_succ]
  go_wp2
  rw [rounds_succ]
  go_wp2
  rw [rounds_succ]
  go_wp2
  rw [rounds_succ]
  go_wp2
  rw [rounds_succ]
  go_wp2
  go_ret2
  exact ⟨rfl, grown_trans (grown_trans (grown_trans (grown_trans (grown_trans (grown_alloc _ _ _) (grown_alloc _ _ _)) (grown_alloc _ _ _)) (grown_alloc _ _ _)) (grown_alloc _ _ _)) (grown_alloc _ _ _)⟩

end Go.Proofs.YtfncgegglpigkaaDoor
