/-
  The program's modes: the table, and one mode of it; its four functions. For all arguments.
-/
import Derived.Test.YtbjkclbgocpbkaaStI
import Derived.Test.YtbjkclbgocpbkaaStD
import Derived.Laws.EntriesVeiled
namespace Go.Proofs.Ytbjkclbgocpbkaa
open Go.RowKit

/-- The table of modes. -/
def modesV : Value := .agg #[(.func (.func 64) #[] #[]), (.func (.func 64) #[] #[]), (.func (.func 65) #[] #[]), (.func (.func 66) #[] #[]), (.func (.func 67) #[] #[]), (.func (.func 68) #[] #[]), (.func (.func 69) #[] #[]), (.func (.func 70) #[] #[])]

set_option maxHeartbeats 1000000 in
theorem iModes_any (w : World) : Calls Try.prog 58 #[] w fun e w' => e = .returned modesV ∧ w.grownBy w' none := by
  go_enter Try.func58, Try.ntmps58
  go_wp2
  exact bodyPost_ret (v := modesV) (by simp [results, Try.results58, go_sem, modesV]) rfl ⟨rfl, grown_alloc _ _ _⟩

set_option maxHeartbeats 1000000 in
theorem iModeOf0 (w : World) : Calls Try.prog 44 #[.int .i64 0] w fun e w' => e = .returned (.tuple #[.agg #[(.func (.func 64) #[] #[]), (.func (.func 64) #[] #[])], .bool true]) ∧ w.grownBy w' none := by
  go_enter Try.func44, Try.ntmps44
  go_wp2_with fail
  refine (iModes_any _).mono ?_
  rintro e w1 ⟨rfl, hg⟩
  have hA := grown_heap hg (heap_alloc_new w (.cells #[.nilFunc, .nilFunc] 48)) (by simp)
  have hsz : w.heap.size < w1.heap.size := block_lt hA
  have hne : w1.heap.size ≠ w.heap.size := by omega
  have q0 : w1.cell? ⟨w.heap.size, 0, none⟩ = some .nilFunc := by rw [cell_of_row _ _ 0 _ _ _ hA]; rfl
  have q1 : w1.cell? ⟨w.heap.size, 1, none⟩ = some .nilFunc := by rw [cell_of_row _ _ 1 _ _ _ hA]; rfl
  have z0 : w1.frozen? ⟨w.heap.size, 0, none⟩ = false := frozen_of_row _ _ 0 _ _ hA
  have z1 : w1.frozen? ⟨w.heap.size, 1, none⟩ = false := frozen_of_row _ _ 1 _ _ hA
  have HG : Hid (w.grownBy w1 none) := grown_trans (grown_alloc w (.cells #[.nilFunc, .nilFunc] 48) none) hg
  have h1 := heap_setCell_same w1 w.heap.size 0 _ _ (.func (.func 64) #[] #[]) hA
  have h2 := heap_setCell_same _ w.heap.size 1 _ _ (.func (.func 64) #[] #[]) h1
  have h3 := grown_heap (grown_alloc _ (.cells #[(.func (.func 64) #[] #[]), (.func (.func 64) #[] #[]), (.func (.func 65) #[] #[]), (.func (.func 66) #[] #[]), (.func (.func 67) #[] #[]), (.func (.func 68) #[] #[]), (.func (.func 69) #[] #[]), (.func (.func 70) #[] #[])] 59) none) h2 (by simp)
  have c0 := cell_of_row _ w.heap.size 0 _ _ _ h3
  have c1 := cell_of_row _ w.heap.size 1 _ _ _ h3
  clear hA hg h1 h2 h3
  unfold modesV
  go_wp2
  exact bodyPost_ret (v := .tuple #[.agg #[(.func (.func 64) #[] #[]), (.func (.func 64) #[] #[])], .bool true]) (by simp [results, Try.results44, go_sem]; rw [c0]; simp [go_sem]; rw [c1]; simp [go_sem]) rfl ⟨rfl, grown_trans (grown_set (grown_set HG.out (Nat.le_refl _)) (Nat.le_refl _)) (grown_alloc _ _ _)⟩

set_option maxHeartbeats 1000000 in
theorem iModeOf1 (w : World) : Calls Try.prog 44 #[.int .i64 1] w fun e w' => e = .returned (.tuple #[.agg #[(.func (.func 65) #[] #[]), (.func (.func 66) #[] #[])], .bool true]) ∧ w.grownBy w' none := by
  go_enter Try.func44, Try.ntmps44
  go_wp2_with fail
  refine (iModes_any _).mono ?_
  rintro e w1 ⟨rfl, hg⟩
  have hA := grown_heap hg (heap_alloc_new w (.cells #[.nilFunc, .nilFunc] 48)) (by simp)
  have hsz : w.heap.size < w1.heap.size := block_lt hA
  have hne : w1.heap.size ≠ w.heap.size := by omega
  have q0 : w1.cell? ⟨w.heap.size, 0, none⟩ = some .nilFunc := by rw [cell_of_row _ _ 0 _ _ _ hA]; rfl
  have q1 : w1.cell? ⟨w.heap.size, 1, none⟩ = some .nilFunc := by rw [cell_of_row _ _ 1 _ _ _ hA]; rfl
  have z0 : w1.frozen? ⟨w.heap.size, 0, none⟩ = false := frozen_of_row _ _ 0 _ _ hA
  have z1 : w1.frozen? ⟨w.heap.size, 1, none⟩ = false := frozen_of_row _ _ 1 _ _ hA
  have HG : Hid (w.grownBy w1 none) := grown_trans (grown_alloc w (.cells #[.nilFunc, .nilFunc] 48) none) hg
  have h1 := heap_setCell_same w1 w.heap.size 0 _ _ (.func (.func 65) #[] #[]) hA
  have h2 := heap_setCell_same _ w.heap.size 1 _ _ (.func (.func 66) #[] #[]) h1
  have h3 := grown_heap (grown_alloc _ (.cells #[(.func (.func 64) #[] #[]), (.func (.func 64) #[] #[]), (.func (.func 65) #[] #[]), (.func (.func 66) #[] #[]), (.func (.func 67) #[] #[]), (.func (.func 68) #[] #[]), (.func (.func 69) #[] #[]), (.func (.func 70) #[] #[])] 59) none) h2 (by simp)
  have c0 := cell_of_row _ w.heap.size 0 _ _ _ h3
  have c1 := cell_of_row _ w.heap.size 1 _ _ _ h3
  clear hA hg h1 h2 h3
  unfold modesV
  go_wp2
  exact bodyPost_ret (v := .tuple #[.agg #[(.func (.func 65) #[] #[]), (.func (.func 66) #[] #[])], .bool true]) (by simp [results, Try.results44, go_sem]; rw [c0]; simp [go_sem]; rw [c1]; simp [go_sem]) rfl ⟨rfl, grown_trans (grown_set (grown_set HG.out (Nat.le_refl _)) (Nat.le_refl _)) (grown_alloc _ _ _)⟩

set_option maxHeartbeats 1000000 in
theorem iModeOf2 (w : World) : Calls Try.prog 44 #[.int .i64 2] w fun e w' => e = .returned (.tuple #[.agg #[(.func (.func 67) #[] #[]), (.func (.func 68) #[] #[])], .bool true]) ∧ w.grownBy w' none := by
  go_enter Try.func44, Try.ntmps44
  go_wp2_with fail
  refine (iModes_any _).mono ?_
  rintro e w1 ⟨rfl, hg⟩
  have hA := grown_heap hg (heap_alloc_new w (.cells #[.nilFunc, .nilFunc] 48)) (by simp)
  have hsz : w.heap.size < w1.heap.size := block_lt hA
  have hne : w1.heap.size ≠ w.heap.size := by omega
  have q0 : w1.cell? ⟨w.heap.size, 0, none⟩ = some .nilFunc := by rw [cell_of_row _ _ 0 _ _ _ hA]; rfl
  have q1 : w1.cell? ⟨w.heap.size, 1, none⟩ = some .nilFunc := by rw [cell_of_row _ _ 1 _ _ _ hA]; rfl
  have z0 : w1.frozen? ⟨w.heap.size, 0, none⟩ = false := frozen_of_row _ _ 0 _ _ hA
  have z1 : w1.frozen? ⟨w.heap.size, 1, none⟩ = false := frozen_of_row _ _ 1 _ _ hA
  have HG : Hid (w.grownBy w1 none) := grown_trans (grown_alloc w (.cells #[.nilFunc, .nilFunc] 48) none) hg
  have h1 := heap_setCell_same w1 w.heap.size 0 _ _ (.func (.func 67) #[] #[]) hA
  have h2 := heap_setCell_same _ w.heap.size 1 _ _ (.func (.func 68) #[] #[]) h1
  have h3 := grown_heap (grown_alloc _ (.cells #[(.func (.func 64) #[] #[]), (.func (.func 64) #[] #[]), (.func (.func 65) #[] #[]), (.func (.func 66) #[] #[]), (.func (.func 67) #[] #[]), (.func (.func 68) #[] #[]), (.func (.func 69) #[] #[]), (.func (.func 70) #[] #[])] 59) none) h2 (by simp)
  have c0 := cell_of_row _ w.heap.size 0 _ _ _ h3
  have c1 := cell_of_row _ w.heap.size 1 _ _ _ h3
  clear hA hg h1 h2 h3
  unfold modesV
  go_wp2
  exact bodyPost_ret (v := .tuple #[.agg #[(.func (.func 67) #[] #[]), (.func (.func 68) #[] #[])], .bool true]) (by simp [results, Try.results44, go_sem]; rw [c0]; simp [go_sem]; rw [c1]; simp [go_sem]) rfl ⟨rfl, grown_trans (grown_set (grown_set HG.out (Nat.le_refl _)) (Nat.le_refl _)) (grown_alloc _ _ _)⟩

set_option maxHeartbeats 1000000 in
theorem iModeOf3 (w : World) : Calls Try.prog 44 #[.int .i64 3] w fun e w' => e = .returned (.tuple #[.agg #[(.func (.func 69) #[] #[]), (.func (.func 70) #[] #[])], .bool true]) ∧ w.grownBy w' none := by
  go_enter Try.func44, Try.ntmps44
  go_wp2_with fail
  refine (iModes_any _).mono ?_
  rintro e w1 ⟨rfl, hg⟩
  have hA := grown_heap hg (heap_alloc_new w (.cells #[.nilFunc, .nilFunc] 48)) (by simp)
  have hsz : w.heap.size < w1.heap.size := block_lt hA
  have hne : w1.heap.size ≠ w.heap.size := by omega
  have q0 : w1.cell? ⟨w.heap.size, 0, none⟩ = some .nilFunc := by rw [cell_of_row _ _ 0 _ _ _ hA]; rfl
  have q1 : w1.cell? ⟨w.heap.size, 1, none⟩ = some .nilFunc := by rw [cell_of_row _ _ 1 _ _ _ hA]; rfl
  have z0 : w1.frozen? ⟨w.heap.size, 0, none⟩ = false := frozen_of_row _ _ 0 _ _ hA
  have z1 : w1.frozen? ⟨w.heap.size, 1, none⟩ = false := frozen_of_row _ _ 1 _ _ hA
  have HG : Hid (w.grownBy w1 none) := grown_trans (grown_alloc w (.cells #[.nilFunc, .nilFunc] 48) none) hg
  have h1 := heap_setCell_same w1 w.heap.size 0 _ _ (.func (.func 69) #[] #[]) hA
  have h2 := heap_setCell_same _ w.heap.size 1 _ _ (.func (.func 70) #[] #[]) h1
  have h3 := grown_heap (grown_alloc _ (.cells #[(.func (.func 64) #[] #[]), (.func (.func 64) #[] #[]), (.func (.func 65) #[] #[]), (.func (.func 66) #[] #[]), (.func (.func 67) #[] #[]), (.func (.func 68) #[] #[]), (.func (.func 69) #[] #[]), (.func (.func 70) #[] #[])] 59) none) h2 (by simp)
  have c0 := cell_of_row _ w.heap.size 0 _ _ _ h3
  have c1 := cell_of_row _ w.heap.size 1 _ _ _ h3
  clear hA hg h1 h2 h3
  unfold modesV
  go_wp2
  exact bodyPost_ret (v := .tuple #[.agg #[(.func (.func 69) #[] #[]), (.func (.func 70) #[] #[])], .bool true]) (by simp [results, Try.results44, go_sem]; rw [c0]; simp [go_sem]; rw [c1]; simp [go_sem]) rfl ⟨rfl, grown_trans (grown_set (grown_set HG.out (Nat.le_refl _)) (Nat.le_refl _)) (grown_alloc _ _ _)⟩

set_option maxHeartbeats 1000000 in
theorem iModeOf_bad (m : Int) (hm : m < 0 ∨ 3 < m) (w : World) : Calls Try.prog 44 #[.int .i64 m] w fun e w' => e = .returned (.tuple #[.agg #[.nilFunc, .nilFunc], .bool false]) ∧ w.grownBy w' none := by
  by_cases h : m < 0
  · have d1 : decide (m < 0) = true := by simpa using h
    go_enter Try.func44, Try.ntmps44
    go_wp2_with fail
    refine (iModes_any _).mono ?_
    rintro e w1 ⟨rfl, hg⟩
    have hA := grown_heap hg (heap_alloc_new w (.cells #[.nilFunc, .nilFunc] 48)) (by simp)
    have hsz : w.heap.size < w1.heap.size := block_lt hA
    have hne : w1.heap.size ≠ w.heap.size := by omega
    have q0 : w1.cell? ⟨w.heap.size, 0, none⟩ = some .nilFunc := by rw [cell_of_row _ _ 0 _ _ _ hA]; rfl
    have q1 : w1.cell? ⟨w.heap.size, 1, none⟩ = some .nilFunc := by rw [cell_of_row _ _ 1 _ _ _ hA]; rfl
    have z0 : w1.frozen? ⟨w.heap.size, 0, none⟩ = false := frozen_of_row _ _ 0 _ _ hA
    have z1 : w1.frozen? ⟨w.heap.size, 1, none⟩ = false := frozen_of_row _ _ 1 _ _ hA
    have HG : Hid (w.grownBy w1 none) := grown_trans (grown_alloc w (.cells #[.nilFunc, .nilFunc] 48) none) hg
    have h1 := heap_setCell_same w1 w.heap.size 0 _ _ .nilFunc hA
    have h2 := heap_setCell_same _ w.heap.size 1 _ _ .nilFunc h1
    have h3 := grown_heap (grown_alloc _ (.cells #[(.func (.func 64) #[] #[]), (.func (.func 64) #[] #[]), (.func (.func 65) #[] #[]), (.func (.func 66) #[] #[]), (.func (.func 67) #[] #[]), (.func (.func 68) #[] #[]), (.func (.func 69) #[] #[]), (.func (.func 70) #[] #[])] 59) none) h2 (by simp)
    have c0 := cell_of_row _ w.heap.size 0 _ _ _ h3
    have c1 := cell_of_row _ w.heap.size 1 _ _ _ h3
    clear hA hg h1 h2 h3
    unfold modesV
    go_wp2
    exact bodyPost_ret (v := .tuple #[.agg #[.nilFunc, .nilFunc], .bool false]) (by simp [results, Try.results44, go_sem]; rw [c0]; simp [go_sem]; rw [c1]; simp [go_sem]) rfl ⟨rfl, grown_trans (grown_set (grown_set HG.out (Nat.le_refl _)) (Nat.le_refl _)) (grown_alloc _ _ _)⟩
  · have d1 : decide (m < 0) = false := by simpa using h
    have d2 : decide (4 ≤ m) = true := by simp; omega
    have h4 : 4 ≤ m := by omega
    go_enter Try.func44, Try.ntmps44
    go_wp2_with fail
    refine (iModes_any _).mono ?_
    rintro e w1 ⟨rfl, hg⟩
    have hA := grown_heap hg (heap_alloc_new w (.cells #[.nilFunc, .nilFunc] 48)) (by simp)
    have hsz : w.heap.size < w1.heap.size := block_lt hA
    have hne : w1.heap.size ≠ w.heap.size := by omega
    have q0 : w1.cell? ⟨w.heap.size, 0, none⟩ = some .nilFunc := by rw [cell_of_row _ _ 0 _ _ _ hA]; rfl
    have q1 : w1.cell? ⟨w.heap.size, 1, none⟩ = some .nilFunc := by rw [cell_of_row _ _ 1 _ _ _ hA]; rfl
    have z0 : w1.frozen? ⟨w.heap.size, 0, none⟩ = false := frozen_of_row _ _ 0 _ _ hA
    have z1 : w1.frozen? ⟨w.heap.size, 1, none⟩ = false := frozen_of_row _ _ 1 _ _ hA
    have HG : Hid (w.grownBy w1 none) := grown_trans (grown_alloc w (.cells #[.nilFunc, .nilFunc] 48) none) hg
    have h1 := heap_setCell_same w1 w.heap.size 0 _ _ .nilFunc hA
    have h2 := heap_setCell_same _ w.heap.size 1 _ _ .nilFunc h1
    have h3 := grown_heap (grown_alloc _ (.cells #[(.func (.func 64) #[] #[]), (.func (.func 64) #[] #[]), (.func (.func 65) #[] #[]), (.func (.func 66) #[] #[]), (.func (.func 67) #[] #[]), (.func (.func 68) #[] #[]), (.func (.func 69) #[] #[]), (.func (.func 70) #[] #[])] 59) none) h2 (by simp)
    have c0 := cell_of_row _ w.heap.size 0 _ _ _ h3
    have c1 := cell_of_row _ w.heap.size 1 _ _ _ h3
    clear hA hg h1 h2 h3
    unfold modesV
    go_wp2
    exact bodyPost_ret (v := .tuple #[.agg #[.nilFunc, .nilFunc], .bool false]) (by simp [results, Try.results44, go_sem]; rw [c0]; simp [go_sem]; rw [c1]; simp [go_sem]) rfl ⟨rfl, grown_trans (grown_set (grown_set HG.out (Nat.le_refl _)) (Nat.le_refl _)) (grown_alloc _ _ _)⟩

theorem vP_wide {xs ys : List Int} (h : vP xs ys 32767 = true) : vP xs ys 65536 = true := by
  obtain ⟨h1, h2, h3, h4⟩ := vP_of h
  exact vP_intro h1 h2 (allB_mono h3 (by omega) (by omega)) (allB_mono h4 (by omega) (by omega))

set_option maxRecDepth 100000 in
set_option maxHeartbeats 2000000 in
theorem iEnc0 (xs ys : List Int) (ao bo : Option Addr) (len cap len' cap' : Nat) (w : World) (hx : Ints w ao len xs) (hy : Ints w bo len' ys) (hmax : len ≤ 4611686018427387904) (hmax' : len' ≤ 4611686018427387904) :
    Calls Try.prog 24 #[.int .i64 0, .slice ao len cap, .slice bo len' cap'] w (MadeTwoB (eA 0 xs ys) (eB 0 xs ys) (eN 0 xs ys) (eOk 0 xs ys) w) := by
  have h0 : inB 0 0 3 = true := inB_true (by omega) (by omega)
  have HX := Lib.hid hx
  have HY := Lib.hid hy
  clear hx hy
  go_enter Try.func24, Try.ntmps24
  go_wp2_with fail
  refine (iModeOf0 w).mono ?_
  rintro e w1 ⟨rfl, hg⟩
  have HG := Lib.hid (grown_trans hg (grown_alloc w1 (.cells #[(.func (.func 64) #[] #[]), (.func (.func 64) #[] #[])] 48) none))
  clear hg
  cases h1 : vP xs ys 32767 with
  | false =>
    have HF : Hid (eOk 0 xs ys = false) := by show _ = _; unfold eOk; rw [h1]; simp
    go_wp2_with fail
    refine (iLVP_any xs ys ao bo len cap len' cap' _ false (HX.out.grown HG.out) (HY.out.grown HG.out) hmax hmax' h1).mono ?_
    rintro e w' ⟨rfl, rfl⟩
    clear h0 h1
    go_wp2
    go_ret3
    exact ⟨_, _, by rw [HF.out]; rfl, none_e HF.out HG.out⟩
  | true =>
    have hle : len' = len := by rw [← HX.out.1, ← HY.out.1]; exact (vP_of h1).1.symm
    subst hle
    have HV := Lib.hid h1
    go_wp2_with fail
    refine (iLVP_any xs ys ao bo len' cap len' cap' _ true (HX.out.grown HG.out) (HY.out.grown HG.out) hmax hmax' h1).mono ?_
    rintro e w' ⟨rfl, rfl⟩
    clear h1
    go_wp2_with fail
    refine (iAll1 xs ys len' ao bo cap cap' _ (HX.out.grown HG.out) (HY.out.grown HG.out) (vP_wide HV.out)).mono ?_
    rintro e w2 ⟨v, u, rfl, ht⟩
    have HF : Hid (eOk 0 xs ys = true) := by show _ = _; unfold eOk; rw [h0, HV.out]; rfl
    have HT := Lib.hid (made_e (m := 0) HX.out.1 HF.out (ht.before HG.out))
    clear ht h0
    go_wp2
    go_ret3
    exact ⟨_, _, by rw [HF.out]; rfl, HT.out⟩

set_option maxRecDepth 100000 in
set_option maxHeartbeats 2000000 in
theorem iEnc1 (xs ys : List Int) (ao bo : Option Addr) (len cap len' cap' : Nat) (w : World) (hx : Ints w ao len xs) (hy : Ints w bo len' ys) (hmax : len ≤ 4611686018427387904) (hmax' : len' ≤ 4611686018427387904) :
    Calls Try.prog 24 #[.int .i64 1, .slice ao len cap, .slice bo len' cap'] w (MadeTwoB (eA 1 xs ys) (eB 1 xs ys) (eN 1 xs ys) (eOk 1 xs ys) w) := by
  have h0 : inB 1 0 3 = true := inB_true (by omega) (by omega)
  have HX := Lib.hid hx
  have HY := Lib.hid hy
  clear hx hy
  go_enter Try.func24, Try.ntmps24
  go_wp2_with fail
  refine (iModeOf1 w).mono ?_
  rintro e w1 ⟨rfl, hg⟩
  have HG := Lib.hid (grown_trans hg (grown_alloc w1 (.cells #[(.func (.func 65) #[] #[]), (.func (.func 66) #[] #[])] 48) none))
  clear hg
  cases h1 : vP xs ys 32767 with
  | false =>
    have HF : Hid (eOk 1 xs ys = false) := by show _ = _; unfold eOk; rw [h1]; simp
    go_wp2_with fail
    refine (iLVP_any xs ys ao bo len cap len' cap' _ false (HX.out.grown HG.out) (HY.out.grown HG.out) hmax hmax' h1).mono ?_
    rintro e w' ⟨rfl, rfl⟩
    clear h0 h1
    go_wp2
    go_ret3
    exact ⟨_, _, by rw [HF.out]; rfl, none_e HF.out HG.out⟩
  | true =>
    have hle : len' = len := by rw [← HX.out.1, ← HY.out.1]; exact (vP_of h1).1.symm
    subst hle
    have HV := Lib.hid h1
    go_wp2_with fail
    refine (iLVP_any xs ys ao bo len' cap len' cap' _ true (HX.out.grown HG.out) (HY.out.grown HG.out) hmax hmax' h1).mono ?_
    rintro e w' ⟨rfl, rfl⟩
    clear h1
    go_wp2_with fail
    refine (iAll2 xs ys len' ao bo cap cap' _ (HX.out.grown HG.out) (HY.out.grown HG.out) (vP_wide HV.out)).mono ?_
    rintro e w2 ⟨v, u, rfl, ht⟩
    have HF : Hid (eOk 1 xs ys = true) := by show _ = _; unfold eOk; rw [h0, HV.out]; rfl
    have HT := Lib.hid (made_e (m := 1) HX.out.1 HF.out (ht.before HG.out))
    clear ht h0
    go_wp2
    go_ret3
    exact ⟨_, _, by rw [HF.out]; rfl, HT.out⟩

set_option maxRecDepth 100000 in
set_option maxHeartbeats 2000000 in
theorem iEnc2 (xs ys : List Int) (ao bo : Option Addr) (len cap len' cap' : Nat) (w : World) (hx : Ints w ao len xs) (hy : Ints w bo len' ys) (hmax : len ≤ 4611686018427387904) (hmax' : len' ≤ 4611686018427387904) :
    Calls Try.prog 24 #[.int .i64 2, .slice ao len cap, .slice bo len' cap'] w (MadeTwoB (eA 2 xs ys) (eB 2 xs ys) (eN 2 xs ys) (eOk 2 xs ys) w) := by
  have h0 : inB 2 0 3 = true := inB_true (by omega) (by omega)
  have HX := Lib.hid hx
  have HY := Lib.hid hy
  clear hx hy
  go_enter Try.func24, Try.ntmps24
  go_wp2_with fail
  refine (iModeOf2 w).mono ?_
  rintro e w1 ⟨rfl, hg⟩
  have HG := Lib.hid (grown_trans hg (grown_alloc w1 (.cells #[(.func (.func 67) #[] #[]), (.func (.func 68) #[] #[])] 48) none))
  clear hg
  cases h1 : vP xs ys 32767 with
  | false =>
    have HF : Hid (eOk 2 xs ys = false) := by show _ = _; unfold eOk; rw [h1]; simp
    go_wp2_with fail
    refine (iLVP_any xs ys ao bo len cap len' cap' _ false (HX.out.grown HG.out) (HY.out.grown HG.out) hmax hmax' h1).mono ?_
    rintro e w' ⟨rfl, rfl⟩
    clear h0 h1
    go_wp2
    go_ret3
    exact ⟨_, _, by rw [HF.out]; rfl, none_e HF.out HG.out⟩
  | true =>
    have hle : len' = len := by rw [← HX.out.1, ← HY.out.1]; exact (vP_of h1).1.symm
    subst hle
    have HV := Lib.hid h1
    go_wp2_with fail
    refine (iLVP_any xs ys ao bo len' cap len' cap' _ true (HX.out.grown HG.out) (HY.out.grown HG.out) hmax hmax' h1).mono ?_
    rintro e w' ⟨rfl, rfl⟩
    clear h1
    go_wp2_with fail
    refine (iAll4 xs ys len' ao bo cap cap' _ (HX.out.grown HG.out) (HY.out.grown HG.out) (vP_wide HV.out)).mono ?_
    rintro e w2 ⟨v, u, rfl, ht⟩
    have HF : Hid (eOk 2 xs ys = true) := by show _ = _; unfold eOk; rw [h0, HV.out]; rfl
    have HT := Lib.hid (made_e (m := 2) HX.out.1 HF.out (ht.before HG.out))
    clear ht h0
    go_wp2
    go_ret3
    exact ⟨_, _, by rw [HF.out]; rfl, HT.out⟩

set_option maxRecDepth 100000 in
set_option maxHeartbeats 2000000 in
theorem iEnc3 (xs ys : List Int) (ao bo : Option Addr) (len cap len' cap' : Nat) (w : World) (hx : Ints w ao len xs) (hy : Ints w bo len' ys) (hmax : len ≤ 4611686018427387904) (hmax' : len' ≤ 4611686018427387904) :
    Calls Try.prog 24 #[.int .i64 3, .slice ao len cap, .slice bo len' cap'] w (MadeTwoB (eA 3 xs ys) (eB 3 xs ys) (eN 3 xs ys) (eOk 3 xs ys) w) := by
  have h0 : inB 3 0 3 = true := inB_true (by omega) (by omega)
  have HX := Lib.hid hx
  have HY := Lib.hid hy
  clear hx hy
  go_enter Try.func24, Try.ntmps24
  go_wp2_with fail
  refine (iModeOf3 w).mono ?_
  rintro e w1 ⟨rfl, hg⟩
  have HG := Lib.hid (grown_trans hg (grown_alloc w1 (.cells #[(.func (.func 69) #[] #[]), (.func (.func 70) #[] #[])] 48) none))
  clear hg
  cases h1 : vP xs ys 32767 with
  | false =>
    have HF : Hid (eOk 3 xs ys = false) := by show _ = _; unfold eOk; rw [h1]; simp
    go_wp2_with fail
    refine (iLVP_any xs ys ao bo len cap len' cap' _ false (HX.out.grown HG.out) (HY.out.grown HG.out) hmax hmax' h1).mono ?_
    rintro e w' ⟨rfl, rfl⟩
    clear h0 h1
    go_wp2
    go_ret3
    exact ⟨_, _, by rw [HF.out]; rfl, none_e HF.out HG.out⟩
  | true =>
    have hle : len' = len := by rw [← HX.out.1, ← HY.out.1]; exact (vP_of h1).1.symm
    subst hle
    have HV := Lib.hid h1
    go_wp2_with fail
    refine (iLVP_any xs ys ao bo len' cap len' cap' _ true (HX.out.grown HG.out) (HY.out.grown HG.out) hmax hmax' h1).mono ?_
    rintro e w' ⟨rfl, rfl⟩
    clear h1
    go_wp2_with fail
    refine (iAll6 xs ys len' ao bo cap cap' _ (HX.out.grown HG.out) (HY.out.grown HG.out) (vP_wide HV.out)).mono ?_
    rintro e w2 ⟨v, u, rfl, ht⟩
    have HF : Hid (eOk 3 xs ys = true) := by show _ = _; unfold eOk; rw [h0, HV.out]; rfl
    have HT := Lib.hid (made_e (m := 3) HX.out.1 HF.out (ht.before HG.out))
    clear ht h0
    go_wp2
    go_ret3
    exact ⟨_, _, by rw [HF.out]; rfl, HT.out⟩

set_option maxRecDepth 100000 in
set_option maxHeartbeats 2000000 in
theorem iEnc_any (m : Int) (xs ys : List Int) (ao bo : Option Addr) (len cap len' cap' : Nat) (w : World) (hx : Ints w ao len xs) (hy : Ints w bo len' ys) (hmax : len ≤ 4611686018427387904) (hmax' : len' ≤ 4611686018427387904) :
    Calls Try.prog 24 #[.int .i64 m, .slice ao len cap, .slice bo len' cap'] w (MadeTwoB (eA m xs ys) (eB m xs ys) (eN m xs ys) (eOk m xs ys) w) := by
  by_cases hm : 0 ≤ m ∧ m ≤ 3
  · obtain rfl | rfl | rfl | rfl : m = 0 ∨ m = 1 ∨ m = 2 ∨ m = 3 := by omega
    · exact iEnc0 xs ys ao bo len cap len' cap' w hx hy hmax hmax'
    · exact iEnc1 xs ys ao bo len cap len' cap' w hx hy hmax hmax'
    · exact iEnc2 xs ys ao bo len cap len' cap' w hx hy hmax hmax'
    · exact iEnc3 xs ys ao bo len cap len' cap' w hx hy hmax hmax'
  · have h0 : inB m 0 3 = false := inB_false (by omega)
    have HF : Hid (eOk m xs ys = false) := by show _ = _; unfold eOk; rw [h0]; rfl
    have hm2 : m < 0 ∨ 3 < m := by omega
    have k0 := iModeOf_bad m hm2 w
    clear hx hy h0 hm hm2
    go_enter Try.func24, Try.ntmps24
    go_wp2_with fail
    refine k0.mono ?_
    rintro e w1 ⟨rfl, hg⟩
    have HG := Lib.hid (grown_trans hg (grown_alloc w1 (.cells #[.nilFunc, .nilFunc] 48) none))
    clear hg k0
    go_wp2
    go_ret3
    exact ⟨_, _, by rw [HF.out]; rfl, none_e HF.out HG.out⟩

set_option maxRecDepth 100000 in
set_option maxHeartbeats 2000000 in
theorem iDec0 (xs ys : List Int) (ao bo : Option Addr) (len cap len' cap' : Nat) (w : World) (hx : Ints w ao len xs) (hy : Ints w bo len' ys) (hmax : len ≤ 4611686018427387904) (hmax' : len' ≤ 4611686018427387904) :
    Calls Try.prog 26 #[.int .i64 0, .slice ao len cap, .slice bo len' cap'] w (MadeTwoB (dA 0 xs ys) (dB 0 xs ys) (dN 0 xs ys) (dOk 0 xs ys) w) := by
  have h0 : inB 0 0 3 = true := inB_true (by omega) (by omega)
  have HX := Lib.hid hx
  have HY := Lib.hid hy
  clear hx hy
  go_enter Try.func26, Try.ntmps26
  go_wp2_with fail
  refine (iModeOf0 w).mono ?_
  rintro e w1 ⟨rfl, hg⟩
  have HG := Lib.hid (grown_trans hg (grown_alloc w1 (.cells #[(.func (.func 64) #[] #[]), (.func (.func 64) #[] #[])] 48) none))
  clear hg
  cases h1 : vP xs ys 65536 with
  | false =>
    have HF : Hid (dOk 0 xs ys = false) := by show _ = _; unfold dOk; rw [h1]; simp
    go_wp2_with fail
    refine (iSVP_any xs ys ao bo len cap len' cap' _ false (HX.out.grown HG.out) (HY.out.grown HG.out) hmax hmax' h1).mono ?_
    rintro e w' ⟨rfl, rfl⟩
    clear h0 h1
    go_wp2
    go_ret3
    exact ⟨_, _, by rw [HF.out]; rfl, none_d HF.out HG.out⟩
  | true =>
    have hle : len' = len := by rw [← HX.out.1, ← HY.out.1]; exact (vP_of h1).1.symm
    subst hle
    have HV := Lib.hid h1
    go_wp2_with fail
    refine (iSVP_any xs ys ao bo len' cap len' cap' _ true (HX.out.grown HG.out) (HY.out.grown HG.out) hmax hmax' h1).mono ?_
    rintro e w' ⟨rfl, rfl⟩
    clear h1
    go_wp2_with fail
    refine (iAll1 xs ys len' ao bo cap cap' _ (HX.out.grown HG.out) (HY.out.grown HG.out) HV.out).mono ?_
    rintro e w2 ⟨v, u, rfl, ht⟩
    obtain ⟨p1, c1, rfl, _⟩ := ht.o1.reads
    obtain ⟨p2, c2, rfl, _⟩ := ht.o2.reads
    have HT : Hid (Two (List.zipWith (unA 0) xs ys) (List.zipWith (unB 0) xs ys) len' w w2 (.slice p1 len' c1) (.slice p2 len' c2)) := ht.before HG.out
    have HD : Hid (dOk 0 xs ys = vP (List.zipWith (unA 0) xs ys) (List.zipWith (unB 0) xs ys) 32767) := by show _ = _; unfold dOk; rw [h0, HV.out]; rfl
    clear ht h0
    cases hd : vP (List.zipWith (unA 0) xs ys) (List.zipWith (unB 0) xs ys) 32767 with
    | false =>
      have HF : Hid (dOk 0 xs ys = false) := by show _ = _; rw [HD.out, hd]
      go_wp2_with fail
      refine (iLVP_any _ _ p1 p2 len' c1 len' c2 w2 false HT.out.o1.toInts HT.out.o2.toInts hmax hmax' hd).mono ?_
      rintro e w' ⟨rfl, rfl⟩
      clear hd
      go_wp2
      go_ret3
      exact ⟨_, _, by rw [HF.out]; rfl, none_d HF.out HT.out.g⟩
    | true =>
      have HF : Hid (dOk 0 xs ys = true) := by show _ = _; rw [HD.out, hd]
      go_wp2_with fail
      refine (iLVP_any _ _ p1 p2 len' c1 len' c2 w2 true HT.out.o1.toInts HT.out.o2.toInts hmax hmax' hd).mono ?_
      rintro e w' ⟨rfl, rfl⟩
      clear hd
      go_wp2
      go_ret3
      exact ⟨_, _, by rw [HF.out]; rfl, made_d (m := 0) HX.out.1 HF.out HT.out⟩

set_option maxRecDepth 100000 in
set_option maxHeartbeats 2000000 in
theorem iDec1 (xs ys : List Int) (ao bo : Option Addr) (len cap len' cap' : Nat) (w : World) (hx : Ints w ao len xs) (hy : Ints w bo len' ys) (hmax : len ≤ 4611686018427387904) (hmax' : len' ≤ 4611686018427387904) :
    Calls Try.prog 26 #[.int .i64 1, .slice ao len cap, .slice bo len' cap'] w (MadeTwoB (dA 1 xs ys) (dB 1 xs ys) (dN 1 xs ys) (dOk 1 xs ys) w) := by
  have h0 : inB 1 0 3 = true := inB_true (by omega) (by omega)
  have HX := Lib.hid hx
  have HY := Lib.hid hy
  clear hx hy
  go_enter Try.func26, Try.ntmps26
  go_wp2_with fail
  refine (iModeOf1 w).mono ?_
  rintro e w1 ⟨rfl, hg⟩
  have HG := Lib.hid (grown_trans hg (grown_alloc w1 (.cells #[(.func (.func 65) #[] #[]), (.func (.func 66) #[] #[])] 48) none))
  clear hg
  cases h1 : vP xs ys 65536 with
  | false =>
    have HF : Hid (dOk 1 xs ys = false) := by show _ = _; unfold dOk; rw [h1]; simp
    go_wp2_with fail
    refine (iSVP_any xs ys ao bo len cap len' cap' _ false (HX.out.grown HG.out) (HY.out.grown HG.out) hmax hmax' h1).mono ?_
    rintro e w' ⟨rfl, rfl⟩
    clear h0 h1
    go_wp2
    go_ret3
    exact ⟨_, _, by rw [HF.out]; rfl, none_d HF.out HG.out⟩
  | true =>
    have hle : len' = len := by rw [← HX.out.1, ← HY.out.1]; exact (vP_of h1).1.symm
    subst hle
    have HV := Lib.hid h1
    go_wp2_with fail
    refine (iSVP_any xs ys ao bo len' cap len' cap' _ true (HX.out.grown HG.out) (HY.out.grown HG.out) hmax hmax' h1).mono ?_
    rintro e w' ⟨rfl, rfl⟩
    clear h1
    go_wp2_with fail
    refine (iAll3 xs ys len' ao bo cap cap' _ (HX.out.grown HG.out) (HY.out.grown HG.out) HV.out).mono ?_
    rintro e w2 ⟨v, u, rfl, ht⟩
    obtain ⟨p1, c1, rfl, _⟩ := ht.o1.reads
    obtain ⟨p2, c2, rfl, _⟩ := ht.o2.reads
    have HT : Hid (Two (List.zipWith (unA 1) xs ys) (List.zipWith (unB 1) xs ys) len' w w2 (.slice p1 len' c1) (.slice p2 len' c2)) := ht.before HG.out
    have HD : Hid (dOk 1 xs ys = vP (List.zipWith (unA 1) xs ys) (List.zipWith (unB 1) xs ys) 32767) := by show _ = _; unfold dOk; rw [h0, HV.out]; rfl
    clear ht h0
    cases hd : vP (List.zipWith (unA 1) xs ys) (List.zipWith (unB 1) xs ys) 32767 with
    | false =>
      have HF : Hid (dOk 1 xs ys = false) := by show _ = _; rw [HD.out, hd]
      go_wp2_with fail
      refine (iLVP_any _ _ p1 p2 len' c1 len' c2 w2 false HT.out.o1.toInts HT.out.o2.toInts hmax hmax' hd).mono ?_
      rintro e w' ⟨rfl, rfl⟩
      clear hd
      go_wp2
      go_ret3
      exact ⟨_, _, by rw [HF.out]; rfl, none_d HF.out HT.out.g⟩
    | true =>
      have HF : Hid (dOk 1 xs ys = true) := by show _ = _; rw [HD.out, hd]
      go_wp2_with fail
      refine (iLVP_any _ _ p1 p2 len' c1 len' c2 w2 true HT.out.o1.toInts HT.out.o2.toInts hmax hmax' hd).mono ?_
      rintro e w' ⟨rfl, rfl⟩
      clear hd
      go_wp2
      go_ret3
      exact ⟨_, _, by rw [HF.out]; rfl, made_d (m := 1) HX.out.1 HF.out HT.out⟩

set_option maxRecDepth 100000 in
set_option maxHeartbeats 2000000 in
theorem iDec2 (xs ys : List Int) (ao bo : Option Addr) (len cap len' cap' : Nat) (w : World) (hx : Ints w ao len xs) (hy : Ints w bo len' ys) (hmax : len ≤ 4611686018427387904) (hmax' : len' ≤ 4611686018427387904) :
    Calls Try.prog 26 #[.int .i64 2, .slice ao len cap, .slice bo len' cap'] w (MadeTwoB (dA 2 xs ys) (dB 2 xs ys) (dN 2 xs ys) (dOk 2 xs ys) w) := by
  have h0 : inB 2 0 3 = true := inB_true (by omega) (by omega)
  have HX := Lib.hid hx
  have HY := Lib.hid hy
  clear hx hy
  go_enter Try.func26, Try.ntmps26
  go_wp2_with fail
  refine (iModeOf2 w).mono ?_
  rintro e w1 ⟨rfl, hg⟩
  have HG := Lib.hid (grown_trans hg (grown_alloc w1 (.cells #[(.func (.func 67) #[] #[]), (.func (.func 68) #[] #[])] 48) none))
  clear hg
  cases h1 : vP xs ys 65536 with
  | false =>
    have HF : Hid (dOk 2 xs ys = false) := by show _ = _; unfold dOk; rw [h1]; simp
    go_wp2_with fail
    refine (iSVP_any xs ys ao bo len cap len' cap' _ false (HX.out.grown HG.out) (HY.out.grown HG.out) hmax hmax' h1).mono ?_
    rintro e w' ⟨rfl, rfl⟩
    clear h0 h1
    go_wp2
    go_ret3
    exact ⟨_, _, by rw [HF.out]; rfl, none_d HF.out HG.out⟩
  | true =>
    have hle : len' = len := by rw [← HX.out.1, ← HY.out.1]; exact (vP_of h1).1.symm
    subst hle
    have HV := Lib.hid h1
    go_wp2_with fail
    refine (iSVP_any xs ys ao bo len' cap len' cap' _ true (HX.out.grown HG.out) (HY.out.grown HG.out) hmax hmax' h1).mono ?_
    rintro e w' ⟨rfl, rfl⟩
    clear h1
    go_wp2_with fail
    refine (iAll5 xs ys len' ao bo cap cap' _ (HX.out.grown HG.out) (HY.out.grown HG.out) HV.out).mono ?_
    rintro e w2 ⟨v, u, rfl, ht⟩
    obtain ⟨p1, c1, rfl, _⟩ := ht.o1.reads
    obtain ⟨p2, c2, rfl, _⟩ := ht.o2.reads
    have HT : Hid (Two (List.zipWith (unA 2) xs ys) (List.zipWith (unB 2) xs ys) len' w w2 (.slice p1 len' c1) (.slice p2 len' c2)) := ht.before HG.out
    have HD : Hid (dOk 2 xs ys = vP (List.zipWith (unA 2) xs ys) (List.zipWith (unB 2) xs ys) 32767) := by show _ = _; unfold dOk; rw [h0, HV.out]; rfl
    clear ht h0
    cases hd : vP (List.zipWith (unA 2) xs ys) (List.zipWith (unB 2) xs ys) 32767 with
    | false =>
      have HF : Hid (dOk 2 xs ys = false) := by show _ = _; rw [HD.out, hd]
      go_wp2_with fail
      refine (iLVP_any _ _ p1 p2 len' c1 len' c2 w2 false HT.out.o1.toInts HT.out.o2.toInts hmax hmax' hd).mono ?_
      rintro e w' ⟨rfl, rfl⟩
      clear hd
      go_wp2
      go_ret3
      exact ⟨_, _, by rw [HF.out]; rfl, none_d HF.out HT.out.g⟩
    | true =>
      have HF : Hid (dOk 2 xs ys = true) := by show _ = _; rw [HD.out, hd]
      go_wp2_with fail
      refine (iLVP_any _ _ p1 p2 len' c1 len' c2 w2 true HT.out.o1.toInts HT.out.o2.toInts hmax hmax' hd).mono ?_
      rintro e w' ⟨rfl, rfl⟩
      clear hd
      go_wp2
      go_ret3
      exact ⟨_, _, by rw [HF.out]; rfl, made_d (m := 2) HX.out.1 HF.out HT.out⟩

set_option maxRecDepth 100000 in
set_option maxHeartbeats 2000000 in
theorem iDec3 (xs ys : List Int) (ao bo : Option Addr) (len cap len' cap' : Nat) (w : World) (hx : Ints w ao len xs) (hy : Ints w bo len' ys) (hmax : len ≤ 4611686018427387904) (hmax' : len' ≤ 4611686018427387904) :
    Calls Try.prog 26 #[.int .i64 3, .slice ao len cap, .slice bo len' cap'] w (MadeTwoB (dA 3 xs ys) (dB 3 xs ys) (dN 3 xs ys) (dOk 3 xs ys) w) := by
  have h0 : inB 3 0 3 = true := inB_true (by omega) (by omega)
  have HX := Lib.hid hx
  have HY := Lib.hid hy
  clear hx hy
  go_enter Try.func26, Try.ntmps26
  go_wp2_with fail
  refine (iModeOf3 w).mono ?_
  rintro e w1 ⟨rfl, hg⟩
  have HG := Lib.hid (grown_trans hg (grown_alloc w1 (.cells #[(.func (.func 69) #[] #[]), (.func (.func 70) #[] #[])] 48) none))
  clear hg
  cases h1 : vP xs ys 65536 with
  | false =>
    have HF : Hid (dOk 3 xs ys = false) := by show _ = _; unfold dOk; rw [h1]; simp
    go_wp2_with fail
    refine (iSVP_any xs ys ao bo len cap len' cap' _ false (HX.out.grown HG.out) (HY.out.grown HG.out) hmax hmax' h1).mono ?_
    rintro e w' ⟨rfl, rfl⟩
    clear h0 h1
    go_wp2
    go_ret3
    exact ⟨_, _, by rw [HF.out]; rfl, none_d HF.out HG.out⟩
  | true =>
    have hle : len' = len := by rw [← HX.out.1, ← HY.out.1]; exact (vP_of h1).1.symm
    subst hle
    have HV := Lib.hid h1
    go_wp2_with fail
    refine (iSVP_any xs ys ao bo len' cap len' cap' _ true (HX.out.grown HG.out) (HY.out.grown HG.out) hmax hmax' h1).mono ?_
    rintro e w' ⟨rfl, rfl⟩
    clear h1
    go_wp2_with fail
    refine (iAll7 xs ys len' ao bo cap cap' _ (HX.out.grown HG.out) (HY.out.grown HG.out) HV.out).mono ?_
    rintro e w2 ⟨v, u, rfl, ht⟩
    obtain ⟨p1, c1, rfl, _⟩ := ht.o1.reads
    obtain ⟨p2, c2, rfl, _⟩ := ht.o2.reads
    have HT : Hid (Two (List.zipWith (unA 3) xs ys) (List.zipWith (unB 3) xs ys) len' w w2 (.slice p1 len' c1) (.slice p2 len' c2)) := ht.before HG.out
    have HD : Hid (dOk 3 xs ys = vP (List.zipWith (unA 3) xs ys) (List.zipWith (unB 3) xs ys) 32767) := by show _ = _; unfold dOk; rw [h0, HV.out]; rfl
    clear ht h0
    cases hd : vP (List.zipWith (unA 3) xs ys) (List.zipWith (unB 3) xs ys) 32767 with
    | false =>
      have HF : Hid (dOk 3 xs ys = false) := by show _ = _; rw [HD.out, hd]
      go_wp2_with fail
      refine (iLVP_any _ _ p1 p2 len' c1 len' c2 w2 false HT.out.o1.toInts HT.out.o2.toInts hmax hmax' hd).mono ?_
      rintro e w' ⟨rfl, rfl⟩
      clear hd
      go_wp2
      go_ret3
      exact ⟨_, _, by rw [HF.out]; rfl, none_d HF.out HT.out.g⟩
    | true =>
      have HF : Hid (dOk 3 xs ys = true) := by show _ = _; rw [HD.out, hd]
      go_wp2_with fail
      refine (iLVP_any _ _ p1 p2 len' c1 len' c2 w2 true HT.out.o1.toInts HT.out.o2.toInts hmax hmax' hd).mono ?_
      rintro e w' ⟨rfl, rfl⟩
      clear hd
      go_wp2
      go_ret3
      exact ⟨_, _, by rw [HF.out]; rfl, made_d (m := 3) HX.out.1 HF.out HT.out⟩

set_option maxRecDepth 100000 in
set_option maxHeartbeats 2000000 in
theorem iDec_any (m : Int) (xs ys : List Int) (ao bo : Option Addr) (len cap len' cap' : Nat) (w : World) (hx : Ints w ao len xs) (hy : Ints w bo len' ys) (hmax : len ≤ 4611686018427387904) (hmax' : len' ≤ 4611686018427387904) :
    Calls Try.prog 26 #[.int .i64 m, .slice ao len cap, .slice bo len' cap'] w (MadeTwoB (dA m xs ys) (dB m xs ys) (dN m xs ys) (dOk m xs ys) w) := by
  by_cases hm : 0 ≤ m ∧ m ≤ 3
  · obtain rfl | rfl | rfl | rfl : m = 0 ∨ m = 1 ∨ m = 2 ∨ m = 3 := by omega
    · exact iDec0 xs ys ao bo len cap len' cap' w hx hy hmax hmax'
    · exact iDec1 xs ys ao bo len cap len' cap' w hx hy hmax hmax'
    · exact iDec2 xs ys ao bo len cap len' cap' w hx hy hmax hmax'
    · exact iDec3 xs ys ao bo len cap len' cap' w hx hy hmax hmax'
  · have h0 : inB m 0 3 = false := inB_false (by omega)
    have HF : Hid (dOk m xs ys = false) := by show _ = _; unfold dOk; rw [h0]; rfl
    have hm2 : m < 0 ∨ 3 < m := by omega
    have k0 := iModeOf_bad m hm2 w
    clear hx hy h0 hm hm2
    go_enter Try.func26, Try.ntmps26
    go_wp2_with fail
    refine k0.mono ?_
    rintro e w1 ⟨rfl, hg⟩
    have HG := Lib.hid (grown_trans hg (grown_alloc w1 (.cells #[.nilFunc, .nilFunc] 48) none))
    clear hg k0
    go_wp2
    go_ret3
    exact ⟨_, _, by rw [HF.out]; rfl, none_d HF.out HG.out⟩

set_option maxHeartbeats 1000000 in
theorem iMidSide_any (xs ys : List Int) (ao bo : Option Addr) (len cap len' cap' : Nat) (w : World) (hx : Ints w ao len xs) (hy : Ints w bo len' ys) (hmax : len ≤ 4611686018427387904) (hmax' : len' ≤ 4611686018427387904) :
    Calls Try.prog 16 #[.slice ao len cap, .slice bo len' cap'] w (MadeTwo (eA 3 xs ys) (eB 3 xs ys) (eN 3 xs ys) w) := by
  have k := iEnc_any 3 xs ys ao bo len cap len' cap' w hx hy hmax hmax'
  clear hx hy
  go_enter Try.func16, Try.ntmps16
  go_wp2_with fail
  refine k.mono ?_
  rintro e w1 ⟨v, u, rfl, ht⟩
  have HT := Lib.hid ht
  clear k ht
  go_wp2
  go_ret2
  exact ⟨_, _, rfl, HT.out⟩

set_option maxHeartbeats 1000000 in
theorem iFrom_any (xs ys : List Int) (ao bo : Option Addr) (len cap len' cap' : Nat) (w : World) (hx : Ints w ao len xs) (hy : Ints w bo len' ys) (hmax : len ≤ 4611686018427387904) (hmax' : len' ≤ 4611686018427387904) :
    Calls Try.prog 19 #[.slice ao len cap, .slice bo len' cap'] w (MadeTwoB (dA 3 xs ys) (dB 3 xs ys) (dN 3 xs ys) (dOk 3 xs ys) w) := by
  have k := iDec_any 3 xs ys ao bo len cap len' cap' w hx hy hmax hmax'
  clear hx hy
  go_enter Try.func19, Try.ntmps19
  go_wp2_with fail
  refine k.mono ?_
  rintro e w1 ⟨v, u, rfl, ht⟩
  have HT := Lib.hid ht
  clear k ht
  go_wp2
  go_ret3
  exact ⟨_, _, rfl, HT.out⟩

end Go.Proofs.Ytbjkclbgocpbkaa
