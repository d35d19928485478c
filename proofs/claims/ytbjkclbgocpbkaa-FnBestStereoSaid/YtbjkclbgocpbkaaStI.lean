/-
  The program's pairings, and what is made of two lists by one. The lists are at most 64 numbers long.
-/
import Derived.Test.YtbjkclbgocpbkaaStV
import Derived.BigRegion
import Derived.Deep.OwnRows
import Derived.Laws.BitsLemmas
import Derived.Deep.RegionWith
namespace Go.Proofs.Ytbjkclbgocpbkaa
open Go.RowKit

theorem i64_and1 (n : Int) : bits .and .i64 n 1 = n % 2 := by
  have h1 : (BitVec.ofInt 64 1).toNat = 2 ^ 1 - 1 := by decide
  have key : (BitVec.ofInt 64 n &&& BitVec.ofInt 64 1).toNat = (n % ((2 ^ 64 : Nat) : Int)).toNat % 2 ^ 1 := by
    rw [BitVec.toNat_and, BitVec.toNat_ofInt, h1, Nat.and_two_pow_sub_one_eq_mod]
  show IntKind.i64.wrap ((BitVec.ofInt 64 n &&& BitVec.ofInt 64 1).toNat : Nat) = n % 2
  rw [key, IntKind.wrap_i64]
  omega

set_option maxHeartbeats 400000 in
theorem cl1 (a b : Int) (w : World) (h1 : -65536 ≤ a ∧ a ≤ 65536) (h2 : -65536 ≤ b ∧ b ≤ 65536) : Calls Try.prog 64 #[.int .i64 a, .int .i64 b] w fun e w' => e = .returned (.tuple #[.int .i64 (stA 0 a b), .int .i64 (stB 0 a b)]) ∧ w = w' := by
  have a0 := h1.1
  have a1 := h1.2
  have b0 := h2.1
  have b1 := h2.2
  clear h1 h2
  go_enter Try.func64, Try.ntmps64
  go_wp2
  go_ret2
  exact ⟨rfl, rfl⟩

set_option maxHeartbeats 400000 in
theorem cl2 (a b : Int) (w : World) (h1 : -65536 ≤ a ∧ a ≤ 65536) (h2 : -65536 ≤ b ∧ b ≤ 65536) : Calls Try.prog 65 #[.int .i64 a, .int .i64 b] w fun e w' => e = .returned (.tuple #[.int .i64 (stA 1 a b), .int .i64 (stB 1 a b)]) ∧ w = w' := by
  have a0 := h1.1
  have a1 := h1.2
  have b0 := h2.1
  have b1 := h2.2
  clear h1 h2
  go_enter Try.func65, Try.ntmps65
  go_wp2
  go_ret2
  exact ⟨rfl, rfl⟩

set_option maxHeartbeats 400000 in
theorem cl3 (a b : Int) (w : World) (h1 : -65536 ≤ a ∧ a ≤ 65536) (h2 : -65536 ≤ b ∧ b ≤ 65536) : Calls Try.prog 66 #[.int .i64 a, .int .i64 b] w fun e w' => e = .returned (.tuple #[.int .i64 (unA 1 a b), .int .i64 (unB 1 a b)]) ∧ w = w' := by
  have a0 := h1.1
  have a1 := h1.2
  have b0 := h2.1
  have b1 := h2.2
  clear h1 h2
  go_enter Try.func66, Try.ntmps66
  go_wp2
  go_ret2
  exact ⟨rfl, rfl⟩

set_option maxHeartbeats 400000 in
theorem cl4 (a b : Int) (w : World) (h1 : -65536 ≤ a ∧ a ≤ 65536) (h2 : -65536 ≤ b ∧ b ≤ 65536) : Calls Try.prog 67 #[.int .i64 a, .int .i64 b] w fun e w' => e = .returned (.tuple #[.int .i64 (stA 2 a b), .int .i64 (stB 2 a b)]) ∧ w = w' := by
  have a0 := h1.1
  have a1 := h1.2
  have b0 := h2.1
  have b1 := h2.2
  clear h1 h2
  go_enter Try.func67, Try.ntmps67
  go_wp2
  go_ret2
  exact ⟨rfl, rfl⟩

set_option maxHeartbeats 400000 in
theorem cl5 (a b : Int) (w : World) (h1 : -65536 ≤ a ∧ a ≤ 65536) (h2 : -65536 ≤ b ∧ b ≤ 65536) : Calls Try.prog 68 #[.int .i64 a, .int .i64 b] w fun e w' => e = .returned (.tuple #[.int .i64 (unA 2 a b), .int .i64 (unB 2 a b)]) ∧ w = w' := by
  have a0 := h1.1
  have a1 := h1.2
  have b0 := h2.1
  have b1 := h2.2
  clear h1 h2
  rw [show unA 2 a b = b + a by simp [unA]; omega]
  go_enter Try.func68, Try.ntmps68
  go_wp2
  go_ret2
  exact ⟨rfl, rfl⟩

set_option maxHeartbeats 400000 in
theorem cl6 (a b : Int) (w : World) (h1 : -65536 ≤ a ∧ a ≤ 65536) (h2 : -65536 ≤ b ∧ b ≤ 65536) : Calls Try.prog 69 #[.int .i64 a, .int .i64 b] w fun e w' => e = .returned (.tuple #[.int .i64 (stA 3 a b), .int .i64 (stB 3 a b)]) ∧ w = w' := by
  have a0 := h1.1
  have a1 := h1.2
  have b0 := h2.1
  have b1 := h2.2
  clear h1 h2
  go_enter Try.func69, Try.ntmps69
  go_wp2
  go_ret2
  exact ⟨rfl, rfl⟩

set_option maxHeartbeats 1000000 in
theorem cl7 (a b : Int) (w : World) (h1 : -65536 ≤ a ∧ a ≤ 65536) (h2 : -65536 ≤ b ∧ b ≤ 65536) : Calls Try.prog 70 #[.int .i64 a, .int .i64 b] w fun e w' => e = .returned (.tuple #[.int .i64 (unA 3 a b), .int .i64 (unB 3 a b)]) ∧ w = w' := by
  have a0 := h1.1
  have a1 := h1.2
  have b0 := h2.1
  have b1 := h2.2
  have t1 := (tdiv_range (a := 2 * a + b % 2 + b) (b := 2) (by omega) (by omega)).1
  have t2 := (tdiv_range (a := 2 * a + b % 2 + b) (b := 2) (by omega) (by omega)).2
  have t3 := (tdiv_range (a := 2 * a + b % 2 - b) (b := 2) (by omega) (by omega)).1
  have t4 := (tdiv_range (a := 2 * a + b % 2 - b) (b := 2) (by omega) (by omega)).2
  have hb := i64_and1 b
  clear h1 h2
  rw [show unA 3 a b = (2 * a + b % 2 + b).tdiv 2 by rw [tdiv_even (by omega)]; rfl, show unB 3 a b = (2 * a + b % 2 - b).tdiv 2 by rw [tdiv_even (by omega)]; rfl]
  go_enter Try.func70, Try.ntmps70
  go_wp2
  go_ret2
  exact ⟨rfl, rfl⟩

theorem zeros_own (w : World) (n : Nat) (hn : n ≤ 64) : Owns (w.alloc (.cells (madeCells #[.int .i64 0] n) 3)) w.heap.size (.slice (some ⟨w.heap.size, 0, none⟩) n n) n (List.replicate n 0) := by
  have e := part_zero [] n
  have e2 : (List.replicate n (0 : Int)).map (Value.int .i64) = (madeCells #[Value.int .i64 0] n).toList := by rw [e]; simp [part]
  have hl : (madeCells #[Value.int .i64 0] n).toList.length = n := by rw [← e2]; simp
  refine ⟨by simp, .inr ⟨w.heap.size, n, _, rfl, Nat.le_refl _, heap_alloc_new w _, Nat.le_refl _, by unfold maxLen; omega, by rw [← Array.length_toList, hl]; simp, ?_⟩⟩
  rw [e2]; exact List.take_of_length_le (by rw [hl]; omega)
theorem zeros_two (w : World) (n : Nat) (hn : n ≤ 64) : Two (List.replicate n 0) (List.replicate n 0) n w ((w.alloc (.cells (madeCells #[.int .i64 0] n) 3)).alloc (.cells (madeCells #[.int .i64 0] n) 3)) (.slice (some ⟨w.heap.size, 0, none⟩) n n) (.slice (some ⟨w.heap.size + 1, 0, none⟩) n n) := by
  have h1 := zeros_own w n hn
  have h2 := zeros_own (w.alloc (.cells (madeCells #[.int .i64 0] n) 3)) n hn
  have := two_of h1 (grown_alloc _ _ _) h2 (grown_alloc _ _ _)
  simpa using this

set_option maxRecDepth 100000 in
set_option maxHeartbeats 4000000 in
theorem iAll1 (xs ys : List Int) (n : Nat) (ao bo : Option Addr) (cap cap' : Nat) (w : World) (hx : Ints w ao n xs) (hy : Ints w bo n ys) (hv : vP xs ys 65536 = true) :
    Calls Try.prog 46 #[.func (.func 64) #[] #[], .slice ao n cap, .slice bo n cap'] w (MadeTwo (List.zipWith (stA 0) xs ys) (List.zipWith (stB 0) xs ys) n w) := by
  obtain ⟨i0, hi, hz0, hz1, hz2⟩ := info_parts info_int
  obtain ⟨hl0, hl1, ha, hb⟩ := vP_of hv
  have hn : n ≤ 64 := by rw [← hx.1]; exact hl1
  have hmk := run_make_row' (P := Try.prog) 23 3 (.int .i64 0) 8 Try.underlying23 info_int rfl .i64 .i64 n (by omega) (by omega)
  have HX := Lib.hid hx
  have HY := Lib.hid hy
  have HA := Lib.hid ha
  have HB := Lib.hid hb
  clear hx hy hv hl0 hl1 ha hb
  go_enter Try.func46, Try.ntmps46
  go_wp2
  go_region
  · have HT : Hid (Two (mix (List.zipWith (stA 0) xs ys) (List.replicate n 0) 0) (mix (List.zipWith (stB 0) xs ys) (List.replicate n 0) 0) n w ((w.alloc (.cells (madeCells #[.int .i64 0] n) 3)).alloc (.cells (madeCells #[.int .i64 0] n) 3)).drew (.slice (some ⟨w.heap.size, 0, none⟩) n n) (.slice (some ⟨w.heap.size + 1, 0, none⟩) n n)) := by
      rw [mix_zero, mix_zero]
      exact (zeros_two w n hn).grown (grown_drew _ _)
    clear hmk
    go_wp2
    go_loopw [19] (fun i wr => ∃ k : Nat, k ≤ n ∧ i = .int .i64 k ∧ Hid (Two (mix (List.zipWith (stA 0) xs ys) (List.replicate n 0) k) (mix (List.zipWith (stB 0) xs ys) (List.replicate n 0) k) n w wr (.slice (some ⟨w.heap.size, 0, none⟩) n n) (.slice (some ⟨w.heap.size + 1, 0, none⟩) n n))) (fun i _ => n - (intOf i).toNat)
    case atStart => exact ⟨0, Nat.zero_le _, rfl, HT⟩
    case round =>
      clear HT
      obtain ⟨k, hk, rfl, HT⟩ := hrel
      by_cases hlt : k < n
      · obtain ⟨x, hxk⟩ : ∃ x, xs[k]? = some x := ⟨_, List.getElem?_eq_getElem (by rw [HX.out.1]; exact hlt)⟩
        obtain ⟨y, hyk⟩ : ∃ y, ys[k]? = some y := ⟨_, List.getElem?_eq_getElem (by rw [HY.out.1]; exact hlt)⟩
        obtain ⟨b1, f1, rfl, hc1⟩ := HX.out.2.resolve_left (by intro e; subst e; simp at hxk)
        obtain ⟨b2, f2, rfl, hc2⟩ := HY.out.2.resolve_left (by intro e; subst e; simp at hyk)
        have qx : wr.cell? ⟨b1, f1 + k, none⟩ = some (.int .i64 x) := HT.out.g.cell (hc1 k x hxk) (by simp)
        have qy : wr.cell? ⟨b2, f2 + k, none⟩ = some (.int .i64 y) := HT.out.g.cell (hc2 k y hyk) (by simp)
        have nb1 := block_lt_of_cell (hc1 k x hxk)
        have nb2 := block_lt_of_cell (hc2 k y hyk)
        have hz0 : (List.replicate n (0 : Int)).length = n := by simp
        obtain ⟨z1, hz1⟩ := mix_get (zs := List.zipWith (stA 0) xs ys) (ys := List.replicate n 0) (zip_len HX.out.1 HY.out.1) hz0 hlt
        obtain ⟨z2, hz2⟩ := mix_get (zs := List.zipWith (stB 0) xs ys) (ys := List.replicate n 0) (zip_len HX.out.1 HY.out.1) hz0 hlt
        obtain ⟨q1, q2⟩ := own_cell HT.out.o1 hlt hz1
        obtain ⟨q3, q4⟩ := own_cell HT.out.o2 hlt hz2
        have KC := Lib.hid (fun W => cl1 x y W (allB_mem HA.out hxk) (allB_mem HB.out hyk))
        have HT2 : Hid (∀ W : World, W = ((wr.setCell ⟨w.heap.size, k, none⟩ (.int .i64 (stA 0 x y))).setCell ⟨w.heap.size + 1, k, none⟩ (.int .i64 (stB 0 x y))).drew ∨ W = ((wr.setCell ⟨w.heap.size + 1, k, none⟩ (.int .i64 (stB 0 x y))).setCell ⟨w.heap.size, k, none⟩ (.int .i64 (stA 0 x y))).drew → Two (mix (List.zipWith (stA 0) xs ys) (List.replicate n 0) (k + 1)) (mix (List.zipWith (stB 0) xs ys) (List.replicate n 0) (k + 1)) n w W (.slice (some ⟨w.heap.size, 0, none⟩) n n) (.slice (some ⟨w.heap.size + 1, 0, none⟩) n n)) := by
          have e1 := mix_set (zs := List.zipWith (stA 0) xs ys) (ys := List.replicate n 0) (zip_len HX.out.1 HY.out.1) hz0 hlt (zip_get hxk hyk)
          have e2 := mix_set (zs := List.zipWith (stB 0) xs ys) (ys := List.replicate n 0) (zip_len HX.out.1 HY.out.1) hz0 hlt (zip_get hxk hyk)
          rw [← e1, ← e2]
          rintro W (rfl | rfl)
          · exact (HT.out.set1 (k := k) (z := stA 0 x y)).set2.grown (grown_drew _ _)
          · exact (HT.out.set2 (k := k) (z := stB 0 x y)).set1.grown (grown_drew _ _)
        clear HT hc1 hc2 hxk hyk hz0 hz1 hz2
        go_wp2
        go_region_with ((go_at_call 64; refine (KC.out _).mono ?_; rintro e w' ⟨rfl, rfl⟩))
        all_goals
          have HT3 := Lib.hid (HT2.out _ (by first | exact Or.inl rfl | exact Or.inr rfl))
          clear HT2 qx qy q1 q2 q3 q4 KC
          go_wp2
          go_roundw
          case rel => exact ⟨k + 1, by omega, by go_num, HT3⟩
          case measure => simp [intOf]; omega
      · obtain rfl : k = n := by omega
        have HF : Hid (Two (List.zipWith (stA 0) xs ys) (List.zipWith (stB 0) xs ys) k w wr (.slice (some ⟨w.heap.size, 0, none⟩) k k) (.slice (some ⟨w.heap.size + 1, 0, none⟩) k k)) := by
          have := HT.out
          rw [mix_full (zip_len HX.out.1 HY.out.1) (by simp), mix_full (zip_len HX.out.1 HY.out.1) (by simp)] at this
          exact this
        clear HT
        go_wp2
        go_ret2
        exact ⟨_, _, rfl, HF.out⟩
  · have HT : Hid (Two (mix (List.zipWith (stA 0) xs ys) (List.replicate n 0) 0) (mix (List.zipWith (stB 0) xs ys) (List.replicate n 0) 0) n w ((w.alloc (.cells (madeCells #[.int .i64 0] n) 3)).alloc (.cells (madeCells #[.int .i64 0] n) 3)).drew (.slice (some ⟨w.heap.size + 1, 0, none⟩) n n) (.slice (some ⟨w.heap.size, 0, none⟩) n n)) := by
      rw [mix_zero, mix_zero]
      exact (zeros_two w n hn).swap.grown (grown_drew _ _)
    clear hmk
    go_wp2
    go_loopw [19] (fun i wr => ∃ k : Nat, k ≤ n ∧ i = .int .i64 k ∧ Hid (Two (mix (List.zipWith (stA 0) xs ys) (List.replicate n 0) k) (mix (List.zipWith (stB 0) xs ys) (List.replicate n 0) k) n w wr (.slice (some ⟨w.heap.size + 1, 0, none⟩) n n) (.slice (some ⟨w.heap.size, 0, none⟩) n n))) (fun i _ => n - (intOf i).toNat)
    case atStart => exact ⟨0, Nat.zero_le _, rfl, HT⟩
    case round =>
      clear HT
      obtain ⟨k, hk, rfl, HT⟩ := hrel
      by_cases hlt : k < n
      · obtain ⟨x, hxk⟩ : ∃ x, xs[k]? = some x := ⟨_, List.getElem?_eq_getElem (by rw [HX.out.1]; exact hlt)⟩
        obtain ⟨y, hyk⟩ : ∃ y, ys[k]? = some y := ⟨_, List.getElem?_eq_getElem (by rw [HY.out.1]; exact hlt)⟩
        obtain ⟨b1, f1, rfl, hc1⟩ := HX.out.2.resolve_left (by intro e; subst e; simp at hxk)
        obtain ⟨b2, f2, rfl, hc2⟩ := HY.out.2.resolve_left (by intro e; subst e; simp at hyk)
        have qx : wr.cell? ⟨b1, f1 + k, none⟩ = some (.int .i64 x) := HT.out.g.cell (hc1 k x hxk) (by simp)
        have qy : wr.cell? ⟨b2, f2 + k, none⟩ = some (.int .i64 y) := HT.out.g.cell (hc2 k y hyk) (by simp)
        have nb1 := block_lt_of_cell (hc1 k x hxk)
        have nb2 := block_lt_of_cell (hc2 k y hyk)
        have hz0 : (List.replicate n (0 : Int)).length = n := by simp
        obtain ⟨z1, hz1⟩ := mix_get (zs := List.zipWith (stA 0) xs ys) (ys := List.replicate n 0) (zip_len HX.out.1 HY.out.1) hz0 hlt
        obtain ⟨z2, hz2⟩ := mix_get (zs := List.zipWith (stB 0) xs ys) (ys := List.replicate n 0) (zip_len HX.out.1 HY.out.1) hz0 hlt
        obtain ⟨q1, q2⟩ := own_cell HT.out.o1 hlt hz1
        obtain ⟨q3, q4⟩ := own_cell HT.out.o2 hlt hz2
        have KC := Lib.hid (fun W => cl1 x y W (allB_mem HA.out hxk) (allB_mem HB.out hyk))
        have HT2 : Hid (∀ W : World, W = ((wr.setCell ⟨w.heap.size + 1, k, none⟩ (.int .i64 (stA 0 x y))).setCell ⟨w.heap.size, k, none⟩ (.int .i64 (stB 0 x y))).drew ∨ W = ((wr.setCell ⟨w.heap.size, k, none⟩ (.int .i64 (stB 0 x y))).setCell ⟨w.heap.size + 1, k, none⟩ (.int .i64 (stA 0 x y))).drew → Two (mix (List.zipWith (stA 0) xs ys) (List.replicate n 0) (k + 1)) (mix (List.zipWith (stB 0) xs ys) (List.replicate n 0) (k + 1)) n w W (.slice (some ⟨w.heap.size + 1, 0, none⟩) n n) (.slice (some ⟨w.heap.size, 0, none⟩) n n)) := by
          have e1 := mix_set (zs := List.zipWith (stA 0) xs ys) (ys := List.replicate n 0) (zip_len HX.out.1 HY.out.1) hz0 hlt (zip_get hxk hyk)
          have e2 := mix_set (zs := List.zipWith (stB 0) xs ys) (ys := List.replicate n 0) (zip_len HX.out.1 HY.out.1) hz0 hlt (zip_get hxk hyk)
          rw [← e1, ← e2]
          rintro W (rfl | rfl)
          · exact (HT.out.set1 (k := k) (z := stA 0 x y)).set2.grown (grown_drew _ _)
          · exact (HT.out.set2 (k := k) (z := stB 0 x y)).set1.grown (grown_drew _ _)
        clear HT hc1 hc2 hxk hyk hz0 hz1 hz2
        go_wp2
        go_region_with ((go_at_call 64; refine (KC.out _).mono ?_; rintro e w' ⟨rfl, rfl⟩))
        all_goals
          have HT3 := Lib.hid (HT2.out _ (by first | exact Or.inl rfl | exact Or.inr rfl))
          clear HT2 qx qy q1 q2 q3 q4 KC
          go_wp2
          go_roundw
          case rel => exact ⟨k + 1, by omega, by go_num, HT3⟩
          case measure => simp [intOf]; omega
      · obtain rfl : k = n := by omega
        have HF : Hid (Two (List.zipWith (stA 0) xs ys) (List.zipWith (stB 0) xs ys) k w wr (.slice (some ⟨w.heap.size + 1, 0, none⟩) k k) (.slice (some ⟨w.heap.size, 0, none⟩) k k)) := by
          have := HT.out
          rw [mix_full (zip_len HX.out.1 HY.out.1) (by simp), mix_full (zip_len HX.out.1 HY.out.1) (by simp)] at this
          exact this
        clear HT
        go_wp2
        go_ret2
        exact ⟨_, _, rfl, HF.out⟩

set_option maxRecDepth 100000 in
set_option maxHeartbeats 4000000 in
theorem iAll2 (xs ys : List Int) (n : Nat) (ao bo : Option Addr) (cap cap' : Nat) (w : World) (hx : Ints w ao n xs) (hy : Ints w bo n ys) (hv : vP xs ys 65536 = true) :
    Calls Try.prog 46 #[.func (.func 65) #[] #[], .slice ao n cap, .slice bo n cap'] w (MadeTwo (List.zipWith (stA 1) xs ys) (List.zipWith (stB 1) xs ys) n w) := by
  obtain ⟨i0, hi, hz0, hz1, hz2⟩ := info_parts info_int
  obtain ⟨hl0, hl1, ha, hb⟩ := vP_of hv
  have hn : n ≤ 64 := by rw [← hx.1]; exact hl1
  have hmk := run_make_row' (P := Try.prog) 23 3 (.int .i64 0) 8 Try.underlying23 info_int rfl .i64 .i64 n (by omega) (by omega)
  have HX := Lib.hid hx
  have HY := Lib.hid hy
  have HA := Lib.hid ha
  have HB := Lib.hid hb
  clear hx hy hv hl0 hl1 ha hb
  go_enter Try.func46, Try.ntmps46
  go_wp2
  go_region
  · have HT : Hid (Two (mix (List.zipWith (stA 1) xs ys) (List.replicate n 0) 0) (mix (List.zipWith (stB 1) xs ys) (List.replicate n 0) 0) n w ((w.alloc (.cells (madeCells #[.int .i64 0] n) 3)).alloc (.cells (madeCells #[.int .i64 0] n) 3)).drew (.slice (some ⟨w.heap.size, 0, none⟩) n n) (.slice (some ⟨w.heap.size + 1, 0, none⟩) n n)) := by
      rw [mix_zero, mix_zero]
      exact (zeros_two w n hn).grown (grown_drew _ _)
    clear hmk
    go_wp2
    go_loopw [19] (fun i wr => ∃ k : Nat, k ≤ n ∧ i = .int .i64 k ∧ Hid (Two (mix (List.zipWith (stA 1) xs ys) (List.replicate n 0) k) (mix (List.zipWith (stB 1) xs ys) (List.replicate n 0) k) n w wr (.slice (some ⟨w.heap.size, 0, none⟩) n n) (.slice (some ⟨w.heap.size + 1, 0, none⟩) n n))) (fun i _ => n - (intOf i).toNat)
    case atStart => exact ⟨0, Nat.zero_le _, rfl, HT⟩
    case round =>
      clear HT
      obtain ⟨k, hk, rfl, HT⟩ := hrel
      by_cases hlt : k < n
      · obtain ⟨x, hxk⟩ : ∃ x, xs[k]? = some x := ⟨_, List.getElem?_eq_getElem (by rw [HX.out.1]; exact hlt)⟩
        obtain ⟨y, hyk⟩ : ∃ y, ys[k]? = some y := ⟨_, List.getElem?_eq_getElem (by rw [HY.out.1]; exact hlt)⟩
        obtain ⟨b1, f1, rfl, hc1⟩ := HX.out.2.resolve_left (by intro e; subst e; simp at hxk)
        obtain ⟨b2, f2, rfl, hc2⟩ := HY.out.2.resolve_left (by intro e; subst e; simp at hyk)
        have qx : wr.cell? ⟨b1, f1 + k, none⟩ = some (.int .i64 x) := HT.out.g.cell (hc1 k x hxk) (by simp)
        have qy : wr.cell? ⟨b2, f2 + k, none⟩ = some (.int .i64 y) := HT.out.g.cell (hc2 k y hyk) (by simp)
        have nb1 := block_lt_of_cell (hc1 k x hxk)
        have nb2 := block_lt_of_cell (hc2 k y hyk)
        have hz0 : (List.replicate n (0 : Int)).length = n := by simp
        obtain ⟨z1, hz1⟩ := mix_get (zs := List.zipWith (stA 1) xs ys) (ys := List.replicate n 0) (zip_len HX.out.1 HY.out.1) hz0 hlt
        obtain ⟨z2, hz2⟩ := mix_get (zs := List.zipWith (stB 1) xs ys) (ys := List.replicate n 0) (zip_len HX.out.1 HY.out.1) hz0 hlt
        obtain ⟨q1, q2⟩ := own_cell HT.out.o1 hlt hz1
        obtain ⟨q3, q4⟩ := own_cell HT.out.o2 hlt hz2
        have KC := Lib.hid (fun W => cl2 x y W (allB_mem HA.out hxk) (allB_mem HB.out hyk))
        have HT2 : Hid (∀ W : World, W = ((wr.setCell ⟨w.heap.size, k, none⟩ (.int .i64 (stA 1 x y))).setCell ⟨w.heap.size + 1, k, none⟩ (.int .i64 (stB 1 x y))).drew ∨ W = ((wr.setCell ⟨w.heap.size + 1, k, none⟩ (.int .i64 (stB 1 x y))).setCell ⟨w.heap.size, k, none⟩ (.int .i64 (stA 1 x y))).drew → Two (mix (List.zipWith (stA 1) xs ys) (List.replicate n 0) (k + 1)) (mix (List.zipWith (stB 1) xs ys) (List.replicate n 0) (k + 1)) n w W (.slice (some ⟨w.heap.size, 0, none⟩) n n) (.slice (some ⟨w.heap.size + 1, 0, none⟩) n n)) := by
          have e1 := mix_set (zs := List.zipWith (stA 1) xs ys) (ys := List.replicate n 0) (zip_len HX.out.1 HY.out.1) hz0 hlt (zip_get hxk hyk)
          have e2 := mix_set (zs := List.zipWith (stB 1) xs ys) (ys := List.replicate n 0) (zip_len HX.out.1 HY.out.1) hz0 hlt (zip_get hxk hyk)
          rw [← e1, ← e2]
          rintro W (rfl | rfl)
          · exact (HT.out.set1 (k := k) (z := stA 1 x y)).set2.grown (grown_drew _ _)
          · exact (HT.out.set2 (k := k) (z := stB 1 x y)).set1.grown (grown_drew _ _)
        clear HT hc1 hc2 hxk hyk hz0 hz1 hz2
        go_wp2
        go_region_with ((go_at_call 65; refine (KC.out _).mono ?_; rintro e w' ⟨rfl, rfl⟩))
        all_goals
          have HT3 := Lib.hid (HT2.out _ (by first | exact Or.inl rfl | exact Or.inr rfl))
          clear HT2 qx qy q1 q2 q3 q4 KC
          go_wp2
          go_roundw
          case rel => exact ⟨k + 1, by omega, by go_num, HT3⟩
          case measure => simp [intOf]; omega
      · obtain rfl : k = n := by omega
        have HF : Hid (Two (List.zipWith (stA 1) xs ys) (List.zipWith (stB 1) xs ys) k w wr (.slice (some ⟨w.heap.size, 0, none⟩) k k) (.slice (some ⟨w.heap.size + 1, 0, none⟩) k k)) := by
          have := HT.out
          rw [mix_full (zip_len HX.out.1 HY.out.1) (by simp), mix_full (zip_len HX.out.1 HY.out.1) (by simp)] at this
          exact this
        clear HT
        go_wp2
        go_ret2
        exact ⟨_, _, rfl, HF.out⟩
  · have HT : Hid (Two (mix (List.zipWith (stA 1) xs ys) (List.replicate n 0) 0) (mix (List.zipWith (stB 1) xs ys) (List.replicate n 0) 0) n w ((w.alloc (.cells (madeCells #[.int .i64 0] n) 3)).alloc (.cells (madeCells #[.int .i64 0] n) 3)).drew (.slice (some ⟨w.heap.size + 1, 0, none⟩) n n) (.slice (some ⟨w.heap.size, 0, none⟩) n n)) := by
      rw [mix_zero, mix_zero]
      exact (zeros_two w n hn).swap.grown (grown_drew _ _)
    clear hmk
    go_wp2
    go_loopw [19] (fun i wr => ∃ k : Nat, k ≤ n ∧ i = .int .i64 k ∧ Hid (Two (mix (List.zipWith (stA 1) xs ys) (List.replicate n 0) k) (mix (List.zipWith (stB 1) xs ys) (List.replicate n 0) k) n w wr (.slice (some ⟨w.heap.size + 1, 0, none⟩) n n) (.slice (some ⟨w.heap.size, 0, none⟩) n n))) (fun i _ => n - (intOf i).toNat)
    case atStart => exact ⟨0, Nat.zero_le _, rfl, HT⟩
    case round =>
      clear HT
      obtain ⟨k, hk, rfl, HT⟩ := hrel
      by_cases hlt : k < n
      · obtain ⟨x, hxk⟩ : ∃ x, xs[k]? = some x := ⟨_, List.getElem?_eq_getElem (by rw [HX.out.1]; exact hlt)⟩
        obtain ⟨y, hyk⟩ : ∃ y, ys[k]? = some y := ⟨_, List.getElem?_eq_getElem (by rw [HY.out.1]; exact hlt)⟩
        obtain ⟨b1, f1, rfl, hc1⟩ := HX.out.2.resolve_left (by intro e; subst e; simp at hxk)
        obtain ⟨b2, f2, rfl, hc2⟩ := HY.out.2.resolve_left (by intro e; subst e; simp at hyk)
        have qx : wr.cell? ⟨b1, f1 + k, none⟩ = some (.int .i64 x) := HT.out.g.cell (hc1 k x hxk) (by simp)
        have qy : wr.cell? ⟨b2, f2 + k, none⟩ = some (.int .i64 y) := HT.out.g.cell (hc2 k y hyk) (by simp)
        have nb1 := block_lt_of_cell (hc1 k x hxk)
        have nb2 := block_lt_of_cell (hc2 k y hyk)
        have hz0 : (List.replicate n (0 : Int)).length = n := by simp
        obtain ⟨z1, hz1⟩ := mix_get (zs := List.zipWith (stA 1) xs ys) (ys := List.replicate n 0) (zip_len HX.out.1 HY.out.1) hz0 hlt
        obtain ⟨z2, hz2⟩ := mix_get (zs := List.zipWith (stB 1) xs ys) (ys := List.replicate n 0) (zip_len HX.out.1 HY.out.1) hz0 hlt
        obtain ⟨q1, q2⟩ := own_cell HT.out.o1 hlt hz1
        obtain ⟨q3, q4⟩ := own_cell HT.out.o2 hlt hz2
        have KC := Lib.hid (fun W => cl2 x y W (allB_mem HA.out hxk) (allB_mem HB.out hyk))
        have HT2 : Hid (∀ W : World, W = ((wr.setCell ⟨w.heap.size + 1, k, none⟩ (.int .i64 (stA 1 x y))).setCell ⟨w.heap.size, k, none⟩ (.int .i64 (stB 1 x y))).drew ∨ W = ((wr.setCell ⟨w.heap.size, k, none⟩ (.int .i64 (stB 1 x y))).setCell ⟨w.heap.size + 1, k, none⟩ (.int .i64 (stA 1 x y))).drew → Two (mix (List.zipWith (stA 1) xs ys) (List.replicate n 0) (k + 1)) (mix (List.zipWith (stB 1) xs ys) (List.replicate n 0) (k + 1)) n w W (.slice (some ⟨w.heap.size + 1, 0, none⟩) n n) (.slice (some ⟨w.heap.size, 0, none⟩) n n)) := by
          have e1 := mix_set (zs := List.zipWith (stA 1) xs ys) (ys := List.replicate n 0) (zip_len HX.out.1 HY.out.1) hz0 hlt (zip_get hxk hyk)
          have e2 := mix_set (zs := List.zipWith (stB 1) xs ys) (ys := List.replicate n 0) (zip_len HX.out.1 HY.out.1) hz0 hlt (zip_get hxk hyk)
          rw [← e1, ← e2]
          rintro W (rfl | rfl)
          · exact (HT.out.set1 (k := k) (z := stA 1 x y)).set2.grown (grown_drew _ _)
          · exact (HT.out.set2 (k := k) (z := stB 1 x y)).set1.grown (grown_drew _ _)
        clear HT hc1 hc2 hxk hyk hz0 hz1 hz2
        go_wp2
        go_region_with ((go_at_call 65; refine (KC.out _).mono ?_; rintro e w' ⟨rfl, rfl⟩))
        all_goals
          have HT3 := Lib.hid (HT2.out _ (by first | exact Or.inl rfl | exact Or.inr rfl))
          clear HT2 qx qy q1 q2 q3 q4 KC
          go_wp2
          go_roundw
          case rel => exact ⟨k + 1, by omega, by go_num, HT3⟩
          case measure => simp [intOf]; omega
      · obtain rfl : k = n := by omega
        have HF : Hid (Two (List.zipWith (stA 1) xs ys) (List.zipWith (stB 1) xs ys) k w wr (.slice (some ⟨w.heap.size + 1, 0, none⟩) k k) (.slice (some ⟨w.heap.size, 0, none⟩) k k)) := by
          have := HT.out
          rw [mix_full (zip_len HX.out.1 HY.out.1) (by simp), mix_full (zip_len HX.out.1 HY.out.1) (by simp)] at this
          exact this
        clear HT
        go_wp2
        go_ret2
        exact ⟨_, _, rfl, HF.out⟩

set_option maxRecDepth 100000 in
set_option maxHeartbeats 4000000 in
theorem iAll3 (xs ys : List Int) (n : Nat) (ao bo : Option Addr) (cap cap' : Nat) (w : World) (hx : Ints w ao n xs) (hy : Ints w bo n ys) (hv : vP xs ys 65536 = true) :
    Calls Try.prog 46 #[.func (.func 66) #[] #[], .slice ao n cap, .slice bo n cap'] w (MadeTwo (List.zipWith (unA 1) xs ys) (List.zipWith (unB 1) xs ys) n w) := by
  obtain ⟨i0, hi, hz0, hz1, hz2⟩ := info_parts info_int
  obtain ⟨hl0, hl1, ha, hb⟩ := vP_of hv
  have hn : n ≤ 64 := by rw [← hx.1]; exact hl1
  have hmk := run_make_row' (P := Try.prog) 23 3 (.int .i64 0) 8 Try.underlying23 info_int rfl .i64 .i64 n (by omega) (by omega)
  have HX := Lib.hid hx
  have HY := Lib.hid hy
  have HA := Lib.hid ha
  have HB := Lib.hid hb
  clear hx hy hv hl0 hl1 ha hb
  go_enter Try.func46, Try.ntmps46
  go_wp2
  go_region
  · have HT : Hid (Two (mix (List.zipWith (unA 1) xs ys) (List.replicate n 0) 0) (mix (List.zipWith (unB 1) xs ys) (List.replicate n 0) 0) n w ((w.alloc (.cells (madeCells #[.int .i64 0] n) 3)).alloc (.cells (madeCells #[.int .i64 0] n) 3)).drew (.slice (some ⟨w.heap.size, 0, none⟩) n n) (.slice (some ⟨w.heap.size + 1, 0, none⟩) n n)) := by
      rw [mix_zero, mix_zero]
      exact (zeros_two w n hn).grown (grown_drew _ _)
    clear hmk
    go_wp2
    go_loopw [19] (fun i wr => ∃ k : Nat, k ≤ n ∧ i = .int .i64 k ∧ Hid (Two (mix (List.zipWith (unA 1) xs ys) (List.replicate n 0) k) (mix (List.zipWith (unB 1) xs ys) (List.replicate n 0) k) n w wr (.slice (some ⟨w.heap.size, 0, none⟩) n n) (.slice (some ⟨w.heap.size + 1, 0, none⟩) n n))) (fun i _ => n - (intOf i).toNat)
    case atStart => exact ⟨0, Nat.zero_le _, rfl, HT⟩
    case round =>
      clear HT
      obtain ⟨k, hk, rfl, HT⟩ := hrel
      by_cases hlt : k < n
      · obtain ⟨x, hxk⟩ : ∃ x, xs[k]? = some x := ⟨_, List.getElem?_eq_getElem (by rw [HX.out.1]; exact hlt)⟩
        obtain ⟨y, hyk⟩ : ∃ y, ys[k]? = some y := ⟨_, List.getElem?_eq_getElem (by rw [HY.out.1]; exact hlt)⟩
        obtain ⟨b1, f1, rfl, hc1⟩ := HX.out.2.resolve_left (by intro e; subst e; simp at hxk)
        obtain ⟨b2, f2, rfl, hc2⟩ := HY.out.2.resolve_left (by intro e; subst e; simp at hyk)
        have qx : wr.cell? ⟨b1, f1 + k, none⟩ = some (.int .i64 x) := HT.out.g.cell (hc1 k x hxk) (by simp)
        have qy : wr.cell? ⟨b2, f2 + k, none⟩ = some (.int .i64 y) := HT.out.g.cell (hc2 k y hyk) (by simp)
        have nb1 := block_lt_of_cell (hc1 k x hxk)
        have nb2 := block_lt_of_cell (hc2 k y hyk)
        have hz0 : (List.replicate n (0 : Int)).length = n := by simp
        obtain ⟨z1, hz1⟩ := mix_get (zs := List.zipWith (unA 1) xs ys) (ys := List.replicate n 0) (zip_len HX.out.1 HY.out.1) hz0 hlt
        obtain ⟨z2, hz2⟩ := mix_get (zs := List.zipWith (unB 1) xs ys) (ys := List.replicate n 0) (zip_len HX.out.1 HY.out.1) hz0 hlt
        obtain ⟨q1, q2⟩ := own_cell HT.out.o1 hlt hz1
        obtain ⟨q3, q4⟩ := own_cell HT.out.o2 hlt hz2
        have KC := Lib.hid (fun W => cl3 x y W (allB_mem HA.out hxk) (allB_mem HB.out hyk))
        have HT2 : Hid (∀ W : World, W = ((wr.setCell ⟨w.heap.size, k, none⟩ (.int .i64 (unA 1 x y))).setCell ⟨w.heap.size + 1, k, none⟩ (.int .i64 (unB 1 x y))).drew ∨ W = ((wr.setCell ⟨w.heap.size + 1, k, none⟩ (.int .i64 (unB 1 x y))).setCell ⟨w.heap.size, k, none⟩ (.int .i64 (unA 1 x y))).drew → Two (mix (List.zipWith (unA 1) xs ys) (List.replicate n 0) (k + 1)) (mix (List.zipWith (unB 1) xs ys) (List.replicate n 0) (k + 1)) n w W (.slice (some ⟨w.heap.size, 0, none⟩) n n) (.slice (some ⟨w.heap.size + 1, 0, none⟩) n n)) := by
          have e1 := mix_set (zs := List.zipWith (unA 1) xs ys) (ys := List.replicate n 0) (zip_len HX.out.1 HY.out.1) hz0 hlt (zip_get hxk hyk)
          have e2 := mix_set (zs := List.zipWith (unB 1) xs ys) (ys := List.replicate n 0) (zip_len HX.out.1 HY.out.1) hz0 hlt (zip_get hxk hyk)
          rw [← e1, ← e2]
          rintro W (rfl | rfl)
          · exact (HT.out.set1 (k := k) (z := unA 1 x y)).set2.grown (grown_drew _ _)
          · exact (HT.out.set2 (k := k) (z := unB 1 x y)).set1.grown (grown_drew _ _)
        clear HT hc1 hc2 hxk hyk hz0 hz1 hz2
        go_wp2
        go_region_with ((go_at_call 66; refine (KC.out _).mono ?_; rintro e w' ⟨rfl, rfl⟩))
        all_goals
          have HT3 := Lib.hid (HT2.out _ (by first | exact Or.inl rfl | exact Or.inr rfl))
          clear HT2 qx qy q1 q2 q3 q4 KC
          go_wp2
          go_roundw
          case rel => exact ⟨k + 1, by omega, by go_num, HT3⟩
          case measure => simp [intOf]; omega
      · obtain rfl : k = n := by omega
        have HF : Hid (Two (List.zipWith (unA 1) xs ys) (List.zipWith (unB 1) xs ys) k w wr (.slice (some ⟨w.heap.size, 0, none⟩) k k) (.slice (some ⟨w.heap.size + 1, 0, none⟩) k k)) := by
          have := HT.out
          rw [mix_full (zip_len HX.out.1 HY.out.1) (by simp), mix_full (zip_len HX.out.1 HY.out.1) (by simp)] at this
          exact this
        clear HT
        go_wp2
        go_ret2
        exact ⟨_, _, rfl, HF.out⟩
  · have HT : Hid (Two (mix (List.zipWith (unA 1) xs ys) (List.replicate n 0) 0) (mix (List.zipWith (unB 1) xs ys) (List.replicate n 0) 0) n w ((w.alloc (.cells (madeCells #[.int .i64 0] n) 3)).alloc (.cells (madeCells #[.int .i64 0] n) 3)).drew (.slice (some ⟨w.heap.size + 1, 0, none⟩) n n) (.slice (some ⟨w.heap.size, 0, none⟩) n n)) := by
      rw [mix_zero, mix_zero]
      exact (zeros_two w n hn).swap.grown (grown_drew _ _)
    clear hmk
    go_wp2
    go_loopw [19] (fun i wr => ∃ k : Nat, k ≤ n ∧ i = .int .i64 k ∧ Hid (Two (mix (List.zipWith (unA 1) xs ys) (List.replicate n 0) k) (mix (List.zipWith (unB 1) xs ys) (List.replicate n 0) k) n w wr (.slice (some ⟨w.heap.size + 1, 0, none⟩) n n) (.slice (some ⟨w.heap.size, 0, none⟩) n n))) (fun i _ => n - (intOf i).toNat)
    case atStart => exact ⟨0, Nat.zero_le _, rfl, HT⟩
    case round =>
      clear HT
      obtain ⟨k, hk, rfl, HT⟩ := hrel
      by_cases hlt : k < n
      · obtain ⟨x, hxk⟩ : ∃ x, xs[k]? = some x := ⟨_, List.getElem?_eq_getElem (by rw [HX.out.1]; exact hlt)⟩
        obtain ⟨y, hyk⟩ : ∃ y, ys[k]? = some y := ⟨_, List.getElem?_eq_getElem (by rw [HY.out.1]; exact hlt)⟩
        obtain ⟨b1, f1, rfl, hc1⟩ := HX.out.2.resolve_left (by intro e; subst e; simp at hxk)
        obtain ⟨b2, f2, rfl, hc2⟩ := HY.out.2.resolve_left (by intro e; subst e; simp at hyk)
        have qx : wr.cell? ⟨b1, f1 + k, none⟩ = some (.int .i64 x) := HT.out.g.cell (hc1 k x hxk) (by simp)
        have qy : wr.cell? ⟨b2, f2 + k, none⟩ = some (.int .i64 y) := HT.out.g.cell (hc2 k y hyk) (by simp)
        have nb1 := block_lt_of_cell (hc1 k x hxk)
        have nb2 := block_lt_of_cell (hc2 k y hyk)
        have hz0 : (List.replicate n (0 : Int)).length = n := by simp
        obtain ⟨z1, hz1⟩ := mix_get (zs := List.zipWith (unA 1) xs ys) (ys := List.replicate n 0) (zip_len HX.out.1 HY.out.1) hz0 hlt
        obtain ⟨z2, hz2⟩ := mix_get (zs := List.zipWith (unB 1) xs ys) (ys := List.replicate n 0) (zip_len HX.out.1 HY.out.1) hz0 hlt
        obtain ⟨q1, q2⟩ := own_cell HT.out.o1 hlt hz1
        obtain ⟨q3, q4⟩ := own_cell HT.out.o2 hlt hz2
        have KC := Lib.hid (fun W => cl3 x y W (allB_mem HA.out hxk) (allB_mem HB.out hyk))
        have HT2 : Hid (∀ W : World, W = ((wr.setCell ⟨w.heap.size + 1, k, none⟩ (.int .i64 (unA 1 x y))).setCell ⟨w.heap.size, k, none⟩ (.int .i64 (unB 1 x y))).drew ∨ W = ((wr.setCell ⟨w.heap.size, k, none⟩ (.int .i64 (unB 1 x y))).setCell ⟨w.heap.size + 1, k, none⟩ (.int .i64 (unA 1 x y))).drew → Two (mix (List.zipWith (unA 1) xs ys) (List.replicate n 0) (k + 1)) (mix (List.zipWith (unB 1) xs ys) (List.replicate n 0) (k + 1)) n w W (.slice (some ⟨w.heap.size + 1, 0, none⟩) n n) (.slice (some ⟨w.heap.size, 0, none⟩) n n)) := by
          have e1 := mix_set (zs := List.zipWith (unA 1) xs ys) (ys := List.replicate n 0) (zip_len HX.out.1 HY.out.1) hz0 hlt (zip_get hxk hyk)
          have e2 := mix_set (zs := List.zipWith (unB 1) xs ys) (ys := List.replicate n 0) (zip_len HX.out.1 HY.out.1) hz0 hlt (zip_get hxk hyk)
          rw [← e1, ← e2]
          rintro W (rfl | rfl)
          · exact (HT.out.set1 (k := k) (z := unA 1 x y)).set2.grown (grown_drew _ _)
          · exact (HT.out.set2 (k := k) (z := unB 1 x y)).set1.grown (grown_drew _ _)
        clear HT hc1 hc2 hxk hyk hz0 hz1 hz2
        go_wp2
        go_region_with ((go_at_call 66; refine (KC.out _).mono ?_; rintro e w' ⟨rfl, rfl⟩))
        all_goals
          have HT3 := Lib.hid (HT2.out _ (by first | exact Or.inl rfl | exact Or.inr rfl))
          clear HT2 qx qy q1 q2 q3 q4 KC
          go_wp2
          go_roundw
          case rel => exact ⟨k + 1, by omega, by go_num, HT3⟩
          case measure => simp [intOf]; omega
      · obtain rfl : k = n := by omega
        have HF : Hid (Two (List.zipWith (unA 1) xs ys) (List.zipWith (unB 1) xs ys) k w wr (.slice (some ⟨w.heap.size + 1, 0, none⟩) k k) (.slice (some ⟨w.heap.size, 0, none⟩) k k)) := by
          have := HT.out
          rw [mix_full (zip_len HX.out.1 HY.out.1) (by simp), mix_full (zip_len HX.out.1 HY.out.1) (by simp)] at this
          exact this
        clear HT
        go_wp2
        go_ret2
        exact ⟨_, _, rfl, HF.out⟩

set_option maxRecDepth 100000 in
set_option maxHeartbeats 4000000 in
theorem iAll4 (xs ys : List Int) (n : Nat) (ao bo : Option Addr) (cap cap' : Nat) (w : World) (hx : Ints w ao n xs) (hy : Ints w bo n ys) (hv : vP xs ys 65536 = true) :
    Calls Try.prog 46 #[.func (.func 67) #[] #[], .slice ao n cap, .slice bo n cap'] w (MadeTwo (List.zipWith (stA 2) xs ys) (List.zipWith (stB 2) xs ys) n w) := by
  obtain ⟨i0, hi, hz0, hz1, hz2⟩ := info_parts info_int
  obtain ⟨hl0, hl1, ha, hb⟩ := vP_of hv
  have hn : n ≤ 64 := by rw [← hx.1]; exact hl1
  have hmk := run_make_row' (P := Try.prog) 23 3 (.int .i64 0) 8 Try.underlying23 info_int rfl .i64 .i64 n (by omega) (by omega)
  have HX := Lib.hid hx
  have HY := Lib.hid hy
  have HA := Lib.hid ha
  have HB := Lib.hid hb
  clear hx hy hv hl0 hl1 ha hb
  go_enter Try.func46, Try.ntmps46
  go_wp2
  go_region
  · have HT : Hid (Two (mix (List.zipWith (stA 2) xs ys) (List.replicate n 0) 0) (mix (List.zipWith (stB 2) xs ys) (List.replicate n 0) 0) n w ((w.alloc (.cells (madeCells #[.int .i64 0] n) 3)).alloc (.cells (madeCells #[.int .i64 0] n) 3)).drew (.slice (some ⟨w.heap.size, 0, none⟩) n n) (.slice (some ⟨w.heap.size + 1, 0, none⟩) n n)) := by
      rw [mix_zero, mix_zero]
      exact (zeros_two w n hn).grown (grown_drew _ _)
    clear hmk
    go_wp2
    go_loopw [19] (fun i wr => ∃ k : Nat, k ≤ n ∧ i = .int .i64 k ∧ Hid (Two (mix (List.zipWith (stA 2) xs ys) (List.replicate n 0) k) (mix (List.zipWith (stB 2) xs ys) (List.replicate n 0) k) n w wr (.slice (some ⟨w.heap.size, 0, none⟩) n n) (.slice (some ⟨w.heap.size + 1, 0, none⟩) n n))) (fun i _ => n - (intOf i).toNat)
    case atStart => exact ⟨0, Nat.zero_le _, rfl, HT⟩
    case round =>
      clear HT
      obtain ⟨k, hk, rfl, HT⟩ := hrel
      by_cases hlt : k < n
      · obtain ⟨x, hxk⟩ : ∃ x, xs[k]? = some x := ⟨_, List.getElem?_eq_getElem (by rw [HX.out.1]; exact hlt)⟩
        obtain ⟨y, hyk⟩ : ∃ y, ys[k]? = some y := ⟨_, List.getElem?_eq_getElem (by rw [HY.out.1]; exact hlt)⟩
        obtain ⟨b1, f1, rfl, hc1⟩ := HX.out.2.resolve_left (by intro e; subst e; simp at hxk)
        obtain ⟨b2, f2, rfl, hc2⟩ := HY.out.2.resolve_left (by intro e; subst e; simp at hyk)
        have qx : wr.cell? ⟨b1, f1 + k, none⟩ = some (.int .i64 x) := HT.out.g.cell (hc1 k x hxk) (by simp)
        have qy : wr.cell? ⟨b2, f2 + k, none⟩ = some (.int .i64 y) := HT.out.g.cell (hc2 k y hyk) (by simp)
        have nb1 := block_lt_of_cell (hc1 k x hxk)
        have nb2 := block_lt_of_cell (hc2 k y hyk)
        have hz0 : (List.replicate n (0 : Int)).length = n := by simp
        obtain ⟨z1, hz1⟩ := mix_get (zs := List.zipWith (stA 2) xs ys) (ys := List.replicate n 0) (zip_len HX.out.1 HY.out.1) hz0 hlt
        obtain ⟨z2, hz2⟩ := mix_get (zs := List.zipWith (stB 2) xs ys) (ys := List.replicate n 0) (zip_len HX.out.1 HY.out.1) hz0 hlt
        obtain ⟨q1, q2⟩ := own_cell HT.out.o1 hlt hz1
        obtain ⟨q3, q4⟩ := own_cell HT.out.o2 hlt hz2
        have KC := Lib.hid (fun W => cl4 x y W (allB_mem HA.out hxk) (allB_mem HB.out hyk))
        have HT2 : Hid (∀ W : World, W = ((wr.setCell ⟨w.heap.size, k, none⟩ (.int .i64 (stA 2 x y))).setCell ⟨w.heap.size + 1, k, none⟩ (.int .i64 (stB 2 x y))).drew ∨ W = ((wr.setCell ⟨w.heap.size + 1, k, none⟩ (.int .i64 (stB 2 x y))).setCell ⟨w.heap.size, k, none⟩ (.int .i64 (stA 2 x y))).drew → Two (mix (List.zipWith (stA 2) xs ys) (List.replicate n 0) (k + 1)) (mix (List.zipWith (stB 2) xs ys) (List.replicate n 0) (k + 1)) n w W (.slice (some ⟨w.heap.size, 0, none⟩) n n) (.slice (some ⟨w.heap.size + 1, 0, none⟩) n n)) := by
          have e1 := mix_set (zs := List.zipWith (stA 2) xs ys) (ys := List.replicate n 0) (zip_len HX.out.1 HY.out.1) hz0 hlt (zip_get hxk hyk)
          have e2 := mix_set (zs := List.zipWith (stB 2) xs ys) (ys := List.replicate n 0) (zip_len HX.out.1 HY.out.1) hz0 hlt (zip_get hxk hyk)
          rw [← e1, ← e2]
          rintro W (rfl | rfl)
          · exact (HT.out.set1 (k := k) (z := stA 2 x y)).set2.grown (grown_drew _ _)
          · exact (HT.out.set2 (k := k) (z := stB 2 x y)).set1.grown (grown_drew _ _)
        clear HT hc1 hc2 hxk hyk hz0 hz1 hz2
        go_wp2
        go_region_with ((go_at_call 67; refine (KC.out _).mono ?_; rintro e w' ⟨rfl, rfl⟩))
        all_goals
          have HT3 := Lib.hid (HT2.out _ (by first | exact Or.inl rfl | exact Or.inr rfl))
          clear HT2 qx qy q1 q2 q3 q4 KC
          go_wp2
          go_roundw
          case rel => exact ⟨k + 1, by omega, by go_num, HT3⟩
          case measure => simp [intOf]; omega
      · obtain rfl : k = n := by omega
        have HF : Hid (Two (List.zipWith (stA 2) xs ys) (List.zipWith (stB 2) xs ys) k w wr (.slice (some ⟨w.heap.size, 0, none⟩) k k) (.slice (some ⟨w.heap.size + 1, 0, none⟩) k k)) := by
          have := HT.out
          rw [mix_full (zip_len HX.out.1 HY.out.1) (by simp), mix_full (zip_len HX.out.1 HY.out.1) (by simp)] at this
          exact this
        clear HT
        go_wp2
        go_ret2
        exact ⟨_, _, rfl, HF.out⟩
  · have HT : Hid (Two (mix (List.zipWith (stA 2) xs ys) (List.replicate n 0) 0) (mix (List.zipWith (stB 2) xs ys) (List.replicate n 0) 0) n w ((w.alloc (.cells (madeCells #[.int .i64 0] n) 3)).alloc (.cells (madeCells #[.int .i64 0] n) 3)).drew (.slice (some ⟨w.heap.size + 1, 0, none⟩) n n) (.slice (some ⟨w.heap.size, 0, none⟩) n n)) := by
      rw [mix_zero, mix_zero]
      exact (zeros_two w n hn).swap.grown (grown_drew _ _)
    clear hmk
    go_wp2
    go_loopw [19] (fun i wr => ∃ k : Nat, k ≤ n ∧ i = .int .i64 k ∧ Hid (Two (mix (List.zipWith (stA 2) xs ys) (List.replicate n 0) k) (mix (List.zipWith (stB 2) xs ys) (List.replicate n 0) k) n w wr (.slice (some ⟨w.heap.size + 1, 0, none⟩) n n) (.slice (some ⟨w.heap.size, 0, none⟩) n n))) (fun i _ => n - (intOf i).toNat)
    case atStart => exact ⟨0, Nat.zero_le _, rfl, HT⟩
    case round =>
      clear HT
      obtain ⟨k, hk, rfl, HT⟩ := hrel
      by_cases hlt : k < n
      · obtain ⟨x, hxk⟩ : ∃ x, xs[k]? = some x := ⟨_, List.getElem?_eq_getElem (by rw [HX.out.1]; exact hlt)⟩
        obtain ⟨y, hyk⟩ : ∃ y, ys[k]? = some y := ⟨_, List.getElem?_eq_getElem (by rw [HY.out.1]; exact hlt)⟩
        obtain ⟨b1, f1, rfl, hc1⟩ := HX.out.2.resolve_left (by intro e; subst e; simp at hxk)
        obtain ⟨b2, f2, rfl, hc2⟩ := HY.out.2.resolve_left (by intro e; subst e; simp at hyk)
        have qx : wr.cell? ⟨b1, f1 + k, none⟩ = some (.int .i64 x) := HT.out.g.cell (hc1 k x hxk) (by simp)
        have qy : wr.cell? ⟨b2, f2 + k, none⟩ = some (.int .i64 y) := HT.out.g.cell (hc2 k y hyk) (by simp)
        have nb1 := block_lt_of_cell (hc1 k x hxk)
        have nb2 := block_lt_of_cell (hc2 k y hyk)
        have hz0 : (List.replicate n (0 : Int)).length = n := by simp
        obtain ⟨z1, hz1⟩ := mix_get (zs := List.zipWith (stA 2) xs ys) (ys := List.replicate n 0) (zip_len HX.out.1 HY.out.1) hz0 hlt
        obtain ⟨z2, hz2⟩ := mix_get (zs := List.zipWith (stB 2) xs ys) (ys := List.replicate n 0) (zip_len HX.out.1 HY.out.1) hz0 hlt
        obtain ⟨q1, q2⟩ := own_cell HT.out.o1 hlt hz1
        obtain ⟨q3, q4⟩ := own_cell HT.out.o2 hlt hz2
        have KC := Lib.hid (fun W => cl4 x y W (allB_mem HA.out hxk) (allB_mem HB.out hyk))
        have HT2 : Hid (∀ W : World, W = ((wr.setCell ⟨w.heap.size + 1, k, none⟩ (.int .i64 (stA 2 x y))).setCell ⟨w.heap.size, k, none⟩ (.int .i64 (stB 2 x y))).drew ∨ W = ((wr.setCell ⟨w.heap.size, k, none⟩ (.int .i64 (stB 2 x y))).setCell ⟨w.heap.size + 1, k, none⟩ (.int .i64 (stA 2 x y))).drew → Two (mix (List.zipWith (stA 2) xs ys) (List.replicate n 0) (k + 1)) (mix (List.zipWith (stB 2) xs ys) (List.replicate n 0) (k + 1)) n w W (.slice (some ⟨w.heap.size + 1, 0, none⟩) n n) (.slice (some ⟨w.heap.size, 0, none⟩) n n)) := by
          have e1 := mix_set (zs := List.zipWith (stA 2) xs ys) (ys := List.replicate n 0) (zip_len HX.out.1 HY.out.1) hz0 hlt (zip_get hxk hyk)
          have e2 := mix_set (zs := List.zipWith (stB 2) xs ys) (ys := List.replicate n 0) (zip_len HX.out.1 HY.out.1) hz0 hlt (zip_get hxk hyk)
          rw [← e1, ← e2]
          rintro W (rfl | rfl)
          · exact (HT.out.set1 (k := k) (z := stA 2 x y)).set2.grown (grown_drew _ _)
          · exact (HT.out.set2 (k := k) (z := stB 2 x y)).set1.grown (grown_drew _ _)
        clear HT hc1 hc2 hxk hyk hz0 hz1 hz2
        go_wp2
        go_region_with ((go_at_call 67; refine (KC.out _).mono ?_; rintro e w' ⟨rfl, rfl⟩))
        all_goals
          have HT3 := Lib.hid (HT2.out _ (by first | exact Or.inl rfl | exact Or.inr rfl))
          clear HT2 qx qy q1 q2 q3 q4 KC
          go_wp2
          go_roundw
          case rel => exact ⟨k + 1, by omega, by go_num, HT3⟩
          case measure => simp [intOf]; omega
      · obtain rfl : k = n := by omega
        have HF : Hid (Two (List.zipWith (stA 2) xs ys) (List.zipWith (stB 2) xs ys) k w wr (.slice (some ⟨w.heap.size + 1, 0, none⟩) k k) (.slice (some ⟨w.heap.size, 0, none⟩) k k)) := by
          have := HT.out
          rw [mix_full (zip_len HX.out.1 HY.out.1) (by simp), mix_full (zip_len HX.out.1 HY.out.1) (by simp)] at this
          exact this
        clear HT
        go_wp2
        go_ret2
        exact ⟨_, _, rfl, HF.out⟩

set_option maxRecDepth 100000 in
set_option maxHeartbeats 4000000 in
theorem iAll5 (xs ys : List Int) (n : Nat) (ao bo : Option Addr) (cap cap' : Nat) (w : World) (hx : Ints w ao n xs) (hy : Ints w bo n ys) (hv : vP xs ys 65536 = true) :
    Calls Try.prog 46 #[.func (.func 68) #[] #[], .slice ao n cap, .slice bo n cap'] w (MadeTwo (List.zipWith (unA 2) xs ys) (List.zipWith (unB 2) xs ys) n w) := by
  obtain ⟨i0, hi, hz0, hz1, hz2⟩ := info_parts info_int
  obtain ⟨hl0, hl1, ha, hb⟩ := vP_of hv
  have hn : n ≤ 64 := by rw [← hx.1]; exact hl1
  have hmk := run_make_row' (P := Try.prog) 23 3 (.int .i64 0) 8 Try.underlying23 info_int rfl .i64 .i64 n (by omega) (by omega)
  have HX := Lib.hid hx
  have HY := Lib.hid hy
  have HA := Lib.hid ha
  have HB := Lib.hid hb
  clear hx hy hv hl0 hl1 ha hb
  go_enter Try.func46, Try.ntmps46
  go_wp2
  go_region
  · have HT : Hid (Two (mix (List.zipWith (unA 2) xs ys) (List.replicate n 0) 0) (mix (List.zipWith (unB 2) xs ys) (List.replicate n 0) 0) n w ((w.alloc (.cells (madeCells #[.int .i64 0] n) 3)).alloc (.cells (madeCells #[.int .i64 0] n) 3)).drew (.slice (some ⟨w.heap.size, 0, none⟩) n n) (.slice (some ⟨w.heap.size + 1, 0, none⟩) n n)) := by
      rw [mix_zero, mix_zero]
      exact (zeros_two w n hn).grown (grown_drew _ _)
    clear hmk
    go_wp2
    go_loopw [19] (fun i wr => ∃ k : Nat, k ≤ n ∧ i = .int .i64 k ∧ Hid (Two (mix (List.zipWith (unA 2) xs ys) (List.replicate n 0) k) (mix (List.zipWith (unB 2) xs ys) (List.replicate n 0) k) n w wr (.slice (some ⟨w.heap.size, 0, none⟩) n n) (.slice (some ⟨w.heap.size + 1, 0, none⟩) n n))) (fun i _ => n - (intOf i).toNat)
    case atStart => exact ⟨0, Nat.zero_le _, rfl, HT⟩
    case round =>
      clear HT
      obtain ⟨k, hk, rfl, HT⟩ := hrel
      by_cases hlt : k < n
      · obtain ⟨x, hxk⟩ : ∃ x, xs[k]? = some x := ⟨_, List.getElem?_eq_getElem (by rw [HX.out.1]; exact hlt)⟩
        obtain ⟨y, hyk⟩ : ∃ y, ys[k]? = some y := ⟨_, List.getElem?_eq_getElem (by rw [HY.out.1]; exact hlt)⟩
        obtain ⟨b1, f1, rfl, hc1⟩ := HX.out.2.resolve_left (by intro e; subst e; simp at hxk)
        obtain ⟨b2, f2, rfl, hc2⟩ := HY.out.2.resolve_left (by intro e; subst e; simp at hyk)
        have qx : wr.cell? ⟨b1, f1 + k, none⟩ = some (.int .i64 x) := HT.out.g.cell (hc1 k x hxk) (by simp)
        have qy : wr.cell? ⟨b2, f2 + k, none⟩ = some (.int .i64 y) := HT.out.g.cell (hc2 k y hyk) (by simp)
        have nb1 := block_lt_of_cell (hc1 k x hxk)
        have nb2 := block_lt_of_cell (hc2 k y hyk)
        have hz0 : (List.replicate n (0 : Int)).length = n := by simp
        obtain ⟨z1, hz1⟩ := mix_get (zs := List.zipWith (unA 2) xs ys) (ys := List.replicate n 0) (zip_len HX.out.1 HY.out.1) hz0 hlt
        obtain ⟨z2, hz2⟩ := mix_get (zs := List.zipWith (unB 2) xs ys) (ys := List.replicate n 0) (zip_len HX.out.1 HY.out.1) hz0 hlt
        obtain ⟨q1, q2⟩ := own_cell HT.out.o1 hlt hz1
        obtain ⟨q3, q4⟩ := own_cell HT.out.o2 hlt hz2
        have KC := Lib.hid (fun W => cl5 x y W (allB_mem HA.out hxk) (allB_mem HB.out hyk))
        have HT2 : Hid (∀ W : World, W = ((wr.setCell ⟨w.heap.size, k, none⟩ (.int .i64 (unA 2 x y))).setCell ⟨w.heap.size + 1, k, none⟩ (.int .i64 (unB 2 x y))).drew ∨ W = ((wr.setCell ⟨w.heap.size + 1, k, none⟩ (.int .i64 (unB 2 x y))).setCell ⟨w.heap.size, k, none⟩ (.int .i64 (unA 2 x y))).drew → Two (mix (List.zipWith (unA 2) xs ys) (List.replicate n 0) (k + 1)) (mix (List.zipWith (unB 2) xs ys) (List.replicate n 0) (k + 1)) n w W (.slice (some ⟨w.heap.size, 0, none⟩) n n) (.slice (some ⟨w.heap.size + 1, 0, none⟩) n n)) := by
          have e1 := mix_set (zs := List.zipWith (unA 2) xs ys) (ys := List.replicate n 0) (zip_len HX.out.1 HY.out.1) hz0 hlt (zip_get hxk hyk)
          have e2 := mix_set (zs := List.zipWith (unB 2) xs ys) (ys := List.replicate n 0) (zip_len HX.out.1 HY.out.1) hz0 hlt (zip_get hxk hyk)
          rw [← e1, ← e2]
          rintro W (rfl | rfl)
          · exact (HT.out.set1 (k := k) (z := unA 2 x y)).set2.grown (grown_drew _ _)
          · exact (HT.out.set2 (k := k) (z := unB 2 x y)).set1.grown (grown_drew _ _)
        clear HT hc1 hc2 hxk hyk hz0 hz1 hz2
        go_wp2
        go_region_with ((go_at_call 68; refine (KC.out _).mono ?_; rintro e w' ⟨rfl, rfl⟩))
        all_goals
          have HT3 := Lib.hid (HT2.out _ (by first | exact Or.inl rfl | exact Or.inr rfl))
          clear HT2 qx qy q1 q2 q3 q4 KC
          go_wp2
          go_roundw
          case rel => exact ⟨k + 1, by omega, by go_num, HT3⟩
          case measure => simp [intOf]; omega
      · obtain rfl : k = n := by omega
        have HF : Hid (Two (List.zipWith (unA 2) xs ys) (List.zipWith (unB 2) xs ys) k w wr (.slice (some ⟨w.heap.size, 0, none⟩) k k) (.slice (some ⟨w.heap.size + 1, 0, none⟩) k k)) := by
          have := HT.out
          rw [mix_full (zip_len HX.out.1 HY.out.1) (by simp), mix_full (zip_len HX.out.1 HY.out.1) (by simp)] at this
          exact this
        clear HT
        go_wp2
        go_ret2
        exact ⟨_, _, rfl, HF.out⟩
  · have HT : Hid (Two (mix (List.zipWith (unA 2) xs ys) (List.replicate n 0) 0) (mix (List.zipWith (unB 2) xs ys) (List.replicate n 0) 0) n w ((w.alloc (.cells (madeCells #[.int .i64 0] n) 3)).alloc (.cells (madeCells #[.int .i64 0] n) 3)).drew (.slice (some ⟨w.heap.size + 1, 0, none⟩) n n) (.slice (some ⟨w.heap.size, 0, none⟩) n n)) := by
      rw [mix_zero, mix_zero]
      exact (zeros_two w n hn).swap.grown (grown_drew _ _)
    clear hmk
    go_wp2
    go_loopw [19] (fun i wr => ∃ k : Nat, k ≤ n ∧ i = .int .i64 k ∧ Hid (Two (mix (List.zipWith (unA 2) xs ys) (List.replicate n 0) k) (mix (List.zipWith (unB 2) xs ys) (List.replicate n 0) k) n w wr (.slice (some ⟨w.heap.size + 1, 0, none⟩) n n) (.slice (some ⟨w.heap.size, 0, none⟩) n n))) (fun i _ => n - (intOf i).toNat)
    case atStart => exact ⟨0, Nat.zero_le _, rfl, HT⟩
    case round =>
      clear HT
      obtain ⟨k, hk, rfl, HT⟩ := hrel
      by_cases hlt : k < n
      · obtain ⟨x, hxk⟩ : ∃ x, xs[k]? = some x := ⟨_, List.getElem?_eq_getElem (by rw [HX.out.1]; exact hlt)⟩
        obtain ⟨y, hyk⟩ : ∃ y, ys[k]? = some y := ⟨_, List.getElem?_eq_getElem (by rw [HY.out.1]; exact hlt)⟩
        obtain ⟨b1, f1, rfl, hc1⟩ := HX.out.2.resolve_left (by intro e; subst e; simp at hxk)
        obtain ⟨b2, f2, rfl, hc2⟩ := HY.out.2.resolve_left (by intro e; subst e; simp at hyk)
        have qx : wr.cell? ⟨b1, f1 + k, none⟩ = some (.int .i64 x) := HT.out.g.cell (hc1 k x hxk) (by simp)
        have qy : wr.cell? ⟨b2, f2 + k, none⟩ = some (.int .i64 y) := HT.out.g.cell (hc2 k y hyk) (by simp)
        have nb1 := block_lt_of_cell (hc1 k x hxk)
        have nb2 := block_lt_of_cell (hc2 k y hyk)
        have hz0 : (List.replicate n (0 : Int)).length = n := by simp
        obtain ⟨z1, hz1⟩ := mix_get (zs := List.zipWith (unA 2) xs ys) (ys := List.replicate n 0) (zip_len HX.out.1 HY.out.1) hz0 hlt
        obtain ⟨z2, hz2⟩ := mix_get (zs := List.zipWith (unB 2) xs ys) (ys := List.replicate n 0) (zip_len HX.out.1 HY.out.1) hz0 hlt
        obtain ⟨q1, q2⟩ := own_cell HT.out.o1 hlt hz1
        obtain ⟨q3, q4⟩ := own_cell HT.out.o2 hlt hz2
        have KC := Lib.hid (fun W => cl5 x y W (allB_mem HA.out hxk) (allB_mem HB.out hyk))
        have HT2 : Hid (∀ W : World, W = ((wr.setCell ⟨w.heap.size + 1, k, none⟩ (.int .i64 (unA 2 x y))).setCell ⟨w.heap.size, k, none⟩ (.int .i64 (unB 2 x y))).drew ∨ W = ((wr.setCell ⟨w.heap.size, k, none⟩ (.int .i64 (unB 2 x y))).setCell ⟨w.heap.size + 1, k, none⟩ (.int .i64 (unA 2 x y))).drew → Two (mix (List.zipWith (unA 2) xs ys) (List.replicate n 0) (k + 1)) (mix (List.zipWith (unB 2) xs ys) (List.replicate n 0) (k + 1)) n w W (.slice (some ⟨w.heap.size + 1, 0, none⟩) n n) (.slice (some ⟨w.heap.size, 0, none⟩) n n)) := by
          have e1 := mix_set (zs := List.zipWith (unA 2) xs ys) (ys := List.replicate n 0) (zip_len HX.out.1 HY.out.1) hz0 hlt (zip_get hxk hyk)
          have e2 := mix_set (zs := List.zipWith (unB 2) xs ys) (ys := List.replicate n 0) (zip_len HX.out.1 HY.out.1) hz0 hlt (zip_get hxk hyk)
          rw [← e1, ← e2]
          rintro W (rfl | rfl)
          · exact (HT.out.set1 (k := k) (z := unA 2 x y)).set2.grown (grown_drew _ _)
          · exact (HT.out.set2 (k := k) (z := unB 2 x y)).set1.grown (grown_drew _ _)
        clear HT hc1 hc2 hxk hyk hz0 hz1 hz2
        go_wp2
        go_region_with ((go_at_call 68; refine (KC.out _).mono ?_; rintro e w' ⟨rfl, rfl⟩))
        all_goals
          have HT3 := Lib.hid (HT2.out _ (by first | exact Or.inl rfl | exact Or.inr rfl))
          clear HT2 qx qy q1 q2 q3 q4 KC
          go_wp2
          go_roundw
          case rel => exact ⟨k + 1, by omega, by go_num, HT3⟩
          case measure => simp [intOf]; omega
      · obtain rfl : k = n := by omega
        have HF : Hid (Two (List.zipWith (unA 2) xs ys) (List.zipWith (unB 2) xs ys) k w wr (.slice (some ⟨w.heap.size + 1, 0, none⟩) k k) (.slice (some ⟨w.heap.size, 0, none⟩) k k)) := by
          have := HT.out
          rw [mix_full (zip_len HX.out.1 HY.out.1) (by simp), mix_full (zip_len HX.out.1 HY.out.1) (by simp)] at this
          exact this
        clear HT
        go_wp2
        go_ret2
        exact ⟨_, _, rfl, HF.out⟩

set_option maxRecDepth 100000 in
set_option maxHeartbeats 4000000 in
theorem iAll6 (xs ys : List Int) (n : Nat) (ao bo : Option Addr) (cap cap' : Nat) (w : World) (hx : Ints w ao n xs) (hy : Ints w bo n ys) (hv : vP xs ys 65536 = true) :
    Calls Try.prog 46 #[.func (.func 69) #[] #[], .slice ao n cap, .slice bo n cap'] w (MadeTwo (List.zipWith (stA 3) xs ys) (List.zipWith (stB 3) xs ys) n w) := by
  obtain ⟨i0, hi, hz0, hz1, hz2⟩ := info_parts info_int
  obtain ⟨hl0, hl1, ha, hb⟩ := vP_of hv
  have hn : n ≤ 64 := by rw [← hx.1]; exact hl1
  have hmk := run_make_row' (P := Try.prog) 23 3 (.int .i64 0) 8 Try.underlying23 info_int rfl .i64 .i64 n (by omega) (by omega)
  have HX := Lib.hid hx
  have HY := Lib.hid hy
  have HA := Lib.hid ha
  have HB := Lib.hid hb
  clear hx hy hv hl0 hl1 ha hb
  go_enter Try.func46, Try.ntmps46
  go_wp2
  go_region
  · have HT : Hid (Two (mix (List.zipWith (stA 3) xs ys) (List.replicate n 0) 0) (mix (List.zipWith (stB 3) xs ys) (List.replicate n 0) 0) n w ((w.alloc (.cells (madeCells #[.int .i64 0] n) 3)).alloc (.cells (madeCells #[.int .i64 0] n) 3)).drew (.slice (some ⟨w.heap.size, 0, none⟩) n n) (.slice (some ⟨w.heap.size + 1, 0, none⟩) n n)) := by
      rw [mix_zero, mix_zero]
      exact (zeros_two w n hn).grown (grown_drew _ _)
    clear hmk
    go_wp2
    go_loopw [19] (fun i wr => ∃ k : Nat, k ≤ n ∧ i = .int .i64 k ∧ Hid (Two (mix (List.zipWith (stA 3) xs ys) (List.replicate n 0) k) (mix (List.zipWith (stB 3) xs ys) (List.replicate n 0) k) n w wr (.slice (some ⟨w.heap.size, 0, none⟩) n n) (.slice (some ⟨w.heap.size + 1, 0, none⟩) n n))) (fun i _ => n - (intOf i).toNat)
    case atStart => exact ⟨0, Nat.zero_le _, rfl, HT⟩
    case round =>
      clear HT
      obtain ⟨k, hk, rfl, HT⟩ := hrel
      by_cases hlt : k < n
      · obtain ⟨x, hxk⟩ : ∃ x, xs[k]? = some x := ⟨_, List.getElem?_eq_getElem (by rw [HX.out.1]; exact hlt)⟩
        obtain ⟨y, hyk⟩ : ∃ y, ys[k]? = some y := ⟨_, List.getElem?_eq_getElem (by rw [HY.out.1]; exact hlt)⟩
        obtain ⟨b1, f1, rfl, hc1⟩ := HX.out.2.resolve_left (by intro e; subst e; simp at hxk)
        obtain ⟨b2, f2, rfl, hc2⟩ := HY.out.2.resolve_left (by intro e; subst e; simp at hyk)
        have qx : wr.cell? ⟨b1, f1 + k, none⟩ = some (.int .i64 x) := HT.out.g.cell (hc1 k x hxk) (by simp)
        have qy : wr.cell? ⟨b2, f2 + k, none⟩ = some (.int .i64 y) := HT.out.g.cell (hc2 k y hyk) (by simp)
        have nb1 := block_lt_of_cell (hc1 k x hxk)
        have nb2 := block_lt_of_cell (hc2 k y hyk)
        have hz0 : (List.replicate n (0 : Int)).length = n := by simp
        obtain ⟨z1, hz1⟩ := mix_get (zs := List.zipWith (stA 3) xs ys) (ys := List.replicate n 0) (zip_len HX.out.1 HY.out.1) hz0 hlt
        obtain ⟨z2, hz2⟩ := mix_get (zs := List.zipWith (stB 3) xs ys) (ys := List.replicate n 0) (zip_len HX.out.1 HY.out.1) hz0 hlt
        obtain ⟨q1, q2⟩ := own_cell HT.out.o1 hlt hz1
        obtain ⟨q3, q4⟩ := own_cell HT.out.o2 hlt hz2
        have KC := Lib.hid (fun W => cl6 x y W (allB_mem HA.out hxk) (allB_mem HB.out hyk))
        have HT2 : Hid (∀ W : World, W = ((wr.setCell ⟨w.heap.size, k, none⟩ (.int .i64 (stA 3 x y))).setCell ⟨w.heap.size + 1, k, none⟩ (.int .i64 (stB 3 x y))).drew ∨ W = ((wr.setCell ⟨w.heap.size + 1, k, none⟩ (.int .i64 (stB 3 x y))).setCell ⟨w.heap.size, k, none⟩ (.int .i64 (stA 3 x y))).drew → Two (mix (List.zipWith (stA 3) xs ys) (List.replicate n 0) (k + 1)) (mix (List.zipWith (stB 3) xs ys) (List.replicate n 0) (k + 1)) n w W (.slice (some ⟨w.heap.size, 0, none⟩) n n) (.slice (some ⟨w.heap.size + 1, 0, none⟩) n n)) := by
          have e1 := mix_set (zs := List.zipWith (stA 3) xs ys) (ys := List.replicate n 0) (zip_len HX.out.1 HY.out.1) hz0 hlt (zip_get hxk hyk)
          have e2 := mix_set (zs := List.zipWith (stB 3) xs ys) (ys := List.replicate n 0) (zip_len HX.out.1 HY.out.1) hz0 hlt (zip_get hxk hyk)
          rw [← e1, ← e2]
          rintro W (rfl | rfl)
          · exact (HT.out.set1 (k := k) (z := stA 3 x y)).set2.grown (grown_drew _ _)
          · exact (HT.out.set2 (k := k) (z := stB 3 x y)).set1.grown (grown_drew _ _)
        clear HT hc1 hc2 hxk hyk hz0 hz1 hz2
        go_wp2
        go_region_with ((go_at_call 69; refine (KC.out _).mono ?_; rintro e w' ⟨rfl, rfl⟩))
        all_goals
          have HT3 := Lib.hid (HT2.out _ (by first | exact Or.inl rfl | exact Or.inr rfl))
          clear HT2 qx qy q1 q2 q3 q4 KC
          go_wp2
          go_roundw
          case rel => exact ⟨k + 1, by omega, by go_num, HT3⟩
          case measure => simp [intOf]; omega
      · obtain rfl : k = n := by omega
        have HF : Hid (Two (List.zipWith (stA 3) xs ys) (List.zipWith (stB 3) xs ys) k w wr (.slice (some ⟨w.heap.size, 0, none⟩) k k) (.slice (some ⟨w.heap.size + 1, 0, none⟩) k k)) := by
          have := HT.out
          rw [mix_full (zip_len HX.out.1 HY.out.1) (by simp), mix_full (zip_len HX.out.1 HY.out.1) (by simp)] at this
          exact this
        clear HT
        go_wp2
        go_ret2
        exact ⟨_, _, rfl, HF.out⟩
  · have HT : Hid (Two (mix (List.zipWith (stA 3) xs ys) (List.replicate n 0) 0) (mix (List.zipWith (stB 3) xs ys) (List.replicate n 0) 0) n w ((w.alloc (.cells (madeCells #[.int .i64 0] n) 3)).alloc (.cells (madeCells #[.int .i64 0] n) 3)).drew (.slice (some ⟨w.heap.size + 1, 0, none⟩) n n) (.slice (some ⟨w.heap.size, 0, none⟩) n n)) := by
      rw [mix_zero, mix_zero]
      exact (zeros_two w n hn).swap.grown (grown_drew _ _)
    clear hmk
    go_wp2
    go_loopw [19] (fun i wr => ∃ k : Nat, k ≤ n ∧ i = .int .i64 k ∧ Hid (Two (mix (List.zipWith (stA 3) xs ys) (List.replicate n 0) k) (mix (List.zipWith (stB 3) xs ys) (List.replicate n 0) k) n w wr (.slice (some ⟨w.heap.size + 1, 0, none⟩) n n) (.slice (some ⟨w.heap.size, 0, none⟩) n n))) (fun i _ => n - (intOf i).toNat)
    case atStart => exact ⟨0, Nat.zero_le _, rfl, HT⟩
    case round =>
      clear HT
      obtain ⟨k, hk, rfl, HT⟩ := hrel
      by_cases hlt : k < n
      · obtain ⟨x, hxk⟩ : ∃ x, xs[k]? = some x := ⟨_, List.getElem?_eq_getElem (by rw [HX.out.1]; exact hlt)⟩
        obtain ⟨y, hyk⟩ : ∃ y, ys[k]? = some y := ⟨_, List.getElem?_eq_getElem (by rw [HY.out.1]; exact hlt)⟩
        obtain ⟨b1, f1, rfl, hc1⟩ := HX.out.2.resolve_left (by intro e; subst e; simp at hxk)
        obtain ⟨b2, f2, rfl, hc2⟩ := HY.out.2.resolve_left (by intro e; subst e; simp at hyk)
        have qx : wr.cell? ⟨b1, f1 + k, none⟩ = some (.int .i64 x) := HT.out.g.cell (hc1 k x hxk) (by simp)
        have qy : wr.cell? ⟨b2, f2 + k, none⟩ = some (.int .i64 y) := HT.out.g.cell (hc2 k y hyk) (by simp)
        have nb1 := block_lt_of_cell (hc1 k x hxk)
        have nb2 := block_lt_of_cell (hc2 k y hyk)
        have hz0 : (List.replicate n (0 : Int)).length = n := by simp
        obtain ⟨z1, hz1⟩ := mix_get (zs := List.zipWith (stA 3) xs ys) (ys := List.replicate n 0) (zip_len HX.out.1 HY.out.1) hz0 hlt
        obtain ⟨z2, hz2⟩ := mix_get (zs := List.zipWith (stB 3) xs ys) (ys := List.replicate n 0) (zip_len HX.out.1 HY.out.1) hz0 hlt
        obtain ⟨q1, q2⟩ := own_cell HT.out.o1 hlt hz1
        obtain ⟨q3, q4⟩ := own_cell HT.out.o2 hlt hz2
        have KC := Lib.hid (fun W => cl6 x y W (allB_mem HA.out hxk) (allB_mem HB.out hyk))
        have HT2 : Hid (∀ W : World, W = ((wr.setCell ⟨w.heap.size + 1, k, none⟩ (.int .i64 (stA 3 x y))).setCell ⟨w.heap.size, k, none⟩ (.int .i64 (stB 3 x y))).drew ∨ W = ((wr.setCell ⟨w.heap.size, k, none⟩ (.int .i64 (stB 3 x y))).setCell ⟨w.heap.size + 1, k, none⟩ (.int .i64 (stA 3 x y))).drew → Two (mix (List.zipWith (stA 3) xs ys) (List.replicate n 0) (k + 1)) (mix (List.zipWith (stB 3) xs ys) (List.replicate n 0) (k + 1)) n w W (.slice (some ⟨w.heap.size + 1, 0, none⟩) n n) (.slice (some ⟨w.heap.size, 0, none⟩) n n)) := by
          have e1 := mix_set (zs := List.zipWith (stA 3) xs ys) (ys := List.replicate n 0) (zip_len HX.out.1 HY.out.1) hz0 hlt (zip_get hxk hyk)
          have e2 := mix_set (zs := List.zipWith (stB 3) xs ys) (ys := List.replicate n 0) (zip_len HX.out.1 HY.out.1) hz0 hlt (zip_get hxk hyk)
          rw [← e1, ← e2]
          rintro W (rfl | rfl)
          · exact (HT.out.set1 (k := k) (z := stA 3 x y)).set2.grown (grown_drew _ _)
          · exact (HT.out.set2 (k := k) (z := stB 3 x y)).set1.grown (grown_drew _ _)
        clear HT hc1 hc2 hxk hyk hz0 hz1 hz2
        go_wp2
        go_region_with ((go_at_call 69; refine (KC.out _).mono ?_; rintro e w' ⟨rfl, rfl⟩))
        all_goals
          have HT3 := Lib.hid (HT2.out _ (by first | exact Or.inl rfl | exact Or.inr rfl))
          clear HT2 qx qy q1 q2 q3 q4 KC
          go_wp2
          go_roundw
          case rel => exact ⟨k + 1, by omega, by go_num, HT3⟩
          case measure => simp [intOf]; omega
      · obtain rfl : k = n := by omega
        have HF : Hid (Two (List.zipWith (stA 3) xs ys) (List.zipWith (stB 3) xs ys) k w wr (.slice (some ⟨w.heap.size + 1, 0, none⟩) k k) (.slice (some ⟨w.heap.size, 0, none⟩) k k)) := by
          have := HT.out
          rw [mix_full (zip_len HX.out.1 HY.out.1) (by simp), mix_full (zip_len HX.out.1 HY.out.1) (by simp)] at this
          exact this
        clear HT
        go_wp2
        go_ret2
        exact ⟨_, _, rfl, HF.out⟩

set_option maxRecDepth 100000 in
set_option maxHeartbeats 4000000 in
theorem iAll7 (xs ys : List Int) (n : Nat) (ao bo : Option Addr) (cap cap' : Nat) (w : World) (hx : Ints w ao n xs) (hy : Ints w bo n ys) (hv : vP xs ys 65536 = true) :
    Calls Try.prog 46 #[.func (.func 70) #[] #[], .slice ao n cap, .slice bo n cap'] w (MadeTwo (List.zipWith (unA 3) xs ys) (List.zipWith (unB 3) xs ys) n w) := by
  obtain ⟨i0, hi, hz0, hz1, hz2⟩ := info_parts info_int
  obtain ⟨hl0, hl1, ha, hb⟩ := vP_of hv
  have hn : n ≤ 64 := by rw [← hx.1]; exact hl1
  have hmk := run_make_row' (P := Try.prog) 23 3 (.int .i64 0) 8 Try.underlying23 info_int rfl .i64 .i64 n (by omega) (by omega)
  have HX := Lib.hid hx
  have HY := Lib.hid hy
  have HA := Lib.hid ha
  have HB := Lib.hid hb
  clear hx hy hv hl0 hl1 ha hb
  go_enter Try.func46, Try.ntmps46
  go_wp2
  go_region
  · have HT : Hid (Two (mix (List.zipWith (unA 3) xs ys) (List.replicate n 0) 0) (mix (List.zipWith (unB 3) xs ys) (List.replicate n 0) 0) n w ((w.alloc (.cells (madeCells #[.int .i64 0] n) 3)).alloc (.cells (madeCells #[.int .i64 0] n) 3)).drew (.slice (some ⟨w.heap.size, 0, none⟩) n n) (.slice (some ⟨w.heap.size + 1, 0, none⟩) n n)) := by
      rw [mix_zero, mix_zero]
      exact (zeros_two w n hn).grown (grown_drew _ _)
    clear hmk
    go_wp2
    go_loopw [19] (fun i wr => ∃ k : Nat, k ≤ n ∧ i = .int .i64 k ∧ Hid (Two (mix (List.zipWith (unA 3) xs ys) (List.replicate n 0) k) (mix (List.zipWith (unB 3) xs ys) (List.replicate n 0) k) n w wr (.slice (some ⟨w.heap.size, 0, none⟩) n n) (.slice (some ⟨w.heap.size + 1, 0, none⟩) n n))) (fun i _ => n - (intOf i).toNat)
    case atStart => exact ⟨0, Nat.zero_le _, rfl, HT⟩
    case round =>
      clear HT
      obtain ⟨k, hk, rfl, HT⟩ := hrel
      by_cases hlt : k < n
      · obtain ⟨x, hxk⟩ : ∃ x, xs[k]? = some x := ⟨_, List.getElem?_eq_getElem (by rw [HX.out.1]; exact hlt)⟩
        obtain ⟨y, hyk⟩ : ∃ y, ys[k]? = some y := ⟨_, List.getElem?_eq_getElem (by rw [HY.out.1]; exact hlt)⟩
        obtain ⟨b1, f1, rfl, hc1⟩ := HX.out.2.resolve_left (by intro e; subst e; simp at hxk)
        obtain ⟨b2, f2, rfl, hc2⟩ := HY.out.2.resolve_left (by intro e; subst e; simp at hyk)
        have qx : wr.cell? ⟨b1, f1 + k, none⟩ = some (.int .i64 x) := HT.out.g.cell (hc1 k x hxk) (by simp)
        have qy : wr.cell? ⟨b2, f2 + k, none⟩ = some (.int .i64 y) := HT.out.g.cell (hc2 k y hyk) (by simp)
        have nb1 := block_lt_of_cell (hc1 k x hxk)
        have nb2 := block_lt_of_cell (hc2 k y hyk)
        have hz0 : (List.replicate n (0 : Int)).length = n := by simp
        obtain ⟨z1, hz1⟩ := mix_get (zs := List.zipWith (unA 3) xs ys) (ys := List.replicate n 0) (zip_len HX.out.1 HY.out.1) hz0 hlt
        obtain ⟨z2, hz2⟩ := mix_get (zs := List.zipWith (unB 3) xs ys) (ys := List.replicate n 0) (zip_len HX.out.1 HY.out.1) hz0 hlt
        obtain ⟨q1, q2⟩ := own_cell HT.out.o1 hlt hz1
        obtain ⟨q3, q4⟩ := own_cell HT.out.o2 hlt hz2
        have KC := Lib.hid (fun W => cl7 x y W (allB_mem HA.out hxk) (allB_mem HB.out hyk))
        have HT2 : Hid (∀ W : World, W = ((wr.setCell ⟨w.heap.size, k, none⟩ (.int .i64 (unA 3 x y))).setCell ⟨w.heap.size + 1, k, none⟩ (.int .i64 (unB 3 x y))).drew ∨ W = ((wr.setCell ⟨w.heap.size + 1, k, none⟩ (.int .i64 (unB 3 x y))).setCell ⟨w.heap.size, k, none⟩ (.int .i64 (unA 3 x y))).drew → Two (mix (List.zipWith (unA 3) xs ys) (List.replicate n 0) (k + 1)) (mix (List.zipWith (unB 3) xs ys) (List.replicate n 0) (k + 1)) n w W (.slice (some ⟨w.heap.size, 0, none⟩) n n) (.slice (some ⟨w.heap.size + 1, 0, none⟩) n n)) := by
          have e1 := mix_set (zs := List.zipWith (unA 3) xs ys) (ys := List.replicate n 0) (zip_len HX.out.1 HY.out.1) hz0 hlt (zip_get hxk hyk)
          have e2 := mix_set (zs := List.zipWith (unB 3) xs ys) (ys := List.replicate n 0) (zip_len HX.out.1 HY.out.1) hz0 hlt (zip_get hxk hyk)
          rw [← e1, ← e2]
          rintro W (rfl | rfl)
          · exact (HT.out.set1 (k := k) (z := unA 3 x y)).set2.grown (grown_drew _ _)
          · exact (HT.out.set2 (k := k) (z := unB 3 x y)).set1.grown (grown_drew _ _)
        clear HT hc1 hc2 hxk hyk hz0 hz1 hz2
        go_wp2
        go_region_with ((go_at_call 70; refine (KC.out _).mono ?_; rintro e w' ⟨rfl, rfl⟩))
        all_goals
          have HT3 := Lib.hid (HT2.out _ (by first | exact Or.inl rfl | exact Or.inr rfl))
          clear HT2 qx qy q1 q2 q3 q4 KC
          go_wp2
          go_roundw
          case rel => exact ⟨k + 1, by omega, by go_num, HT3⟩
          case measure => simp [intOf]; omega
      · obtain rfl : k = n := by omega
        have HF : Hid (Two (List.zipWith (unA 3) xs ys) (List.zipWith (unB 3) xs ys) k w wr (.slice (some ⟨w.heap.size, 0, none⟩) k k) (.slice (some ⟨w.heap.size + 1, 0, none⟩) k k)) := by
          have := HT.out
          rw [mix_full (zip_len HX.out.1 HY.out.1) (by simp), mix_full (zip_len HX.out.1 HY.out.1) (by simp)] at this
          exact this
        clear HT
        go_wp2
        go_ret2
        exact ⟨_, _, rfl, HF.out⟩
  · have HT : Hid (Two (mix (List.zipWith (unA 3) xs ys) (List.replicate n 0) 0) (mix (List.zipWith (unB 3) xs ys) (List.replicate n 0) 0) n w ((w.alloc (.cells (madeCells #[.int .i64 0] n) 3)).alloc (.cells (madeCells #[.int .i64 0] n) 3)).drew (.slice (some ⟨w.heap.size + 1, 0, none⟩) n n) (.slice (some ⟨w.heap.size, 0, none⟩) n n)) := by
      rw [mix_zero, mix_zero]
      exact (zeros_two w n hn).swap.grown (grown_drew _ _)
    clear hmk
    go_wp2
    go_loopw [19] (fun i wr => ∃ k : Nat, k ≤ n ∧ i = .int .i64 k ∧ Hid (Two (mix (List.zipWith (unA 3) xs ys) (List.replicate n 0) k) (mix (List.zipWith (unB 3) xs ys) (List.replicate n 0) k) n w wr (.slice (some ⟨w.heap.size + 1, 0, none⟩) n n) (.slice (some ⟨w.heap.size, 0, none⟩) n n))) (fun i _ => n - (intOf i).toNat)
    case atStart => exact ⟨0, Nat.zero_le _, rfl, HT⟩
    case round =>
      clear HT
      obtain ⟨k, hk, rfl, HT⟩ := hrel
      by_cases hlt : k < n
      · obtain ⟨x, hxk⟩ : ∃ x, xs[k]? = some x := ⟨_, List.getElem?_eq_getElem (by rw [HX.out.1]; exact hlt)⟩
        obtain ⟨y, hyk⟩ : ∃ y, ys[k]? = some y := ⟨_, List.getElem?_eq_getElem (by rw [HY.out.1]; exact hlt)⟩
        obtain ⟨b1, f1, rfl, hc1⟩ := HX.out.2.resolve_left (by intro e; subst e; simp at hxk)
        obtain ⟨b2, f2, rfl, hc2⟩ := HY.out.2.resolve_left (by intro e; subst e; simp at hyk)
        have qx : wr.cell? ⟨b1, f1 + k, none⟩ = some (.int .i64 x) := HT.out.g.cell (hc1 k x hxk) (by simp)
        have qy : wr.cell? ⟨b2, f2 + k, none⟩ = some (.int .i64 y) := HT.out.g.cell (hc2 k y hyk) (by simp)
        have nb1 := block_lt_of_cell (hc1 k x hxk)
        have nb2 := block_lt_of_cell (hc2 k y hyk)
        have hz0 : (List.replicate n (0 : Int)).length = n := by simp
        obtain ⟨z1, hz1⟩ := mix_get (zs := List.zipWith (unA 3) xs ys) (ys := List.replicate n 0) (zip_len HX.out.1 HY.out.1) hz0 hlt
        obtain ⟨z2, hz2⟩ := mix_get (zs := List.zipWith (unB 3) xs ys) (ys := List.replicate n 0) (zip_len HX.out.1 HY.out.1) hz0 hlt
        obtain ⟨q1, q2⟩ := own_cell HT.out.o1 hlt hz1
        obtain ⟨q3, q4⟩ := own_cell HT.out.o2 hlt hz2
        have KC := Lib.hid (fun W => cl7 x y W (allB_mem HA.out hxk) (allB_mem HB.out hyk))
        have HT2 : Hid (∀ W : World, W = ((wr.setCell ⟨w.heap.size + 1, k, none⟩ (.int .i64 (unA 3 x y))).setCell ⟨w.heap.size, k, none⟩ (.int .i64 (unB 3 x y))).drew ∨ W = ((wr.setCell ⟨w.heap.size, k, none⟩ (.int .i64 (unB 3 x y))).setCell ⟨w.heap.size + 1, k, none⟩ (.int .i64 (unA 3 x y))).drew → Two (mix (List.zipWith (unA 3) xs ys) (List.replicate n 0) (k + 1)) (mix (List.zipWith (unB 3) xs ys) (List.replicate n 0) (k + 1)) n w W (.slice (some ⟨w.heap.size + 1, 0, none⟩) n n) (.slice (some ⟨w.heap.size, 0, none⟩) n n)) := by
          have e1 := mix_set (zs := List.zipWith (unA 3) xs ys) (ys := List.replicate n 0) (zip_len HX.out.1 HY.out.1) hz0 hlt (zip_get hxk hyk)
          have e2 := mix_set (zs := List.zipWith (unB 3) xs ys) (ys := List.replicate n 0) (zip_len HX.out.1 HY.out.1) hz0 hlt (zip_get hxk hyk)
          rw [← e1, ← e2]
          rintro W (rfl | rfl)
          · exact (HT.out.set1 (k := k) (z := unA 3 x y)).set2.grown (grown_drew _ _)
          · exact (HT.out.set2 (k := k) (z := unB 3 x y)).set1.grown (grown_drew _ _)
        clear HT hc1 hc2 hxk hyk hz0 hz1 hz2
        go_wp2
        go_region_with ((go_at_call 70; refine (KC.out _).mono ?_; rintro e w' ⟨rfl, rfl⟩))
        all_goals
          have HT3 := Lib.hid (HT2.out _ (by first | exact Or.inl rfl | exact Or.inr rfl))
          clear HT2 qx qy q1 q2 q3 q4 KC
          go_wp2
          go_roundw
          case rel => exact ⟨k + 1, by omega, by go_num, HT3⟩
          case measure => simp [intOf]; omega
      · obtain rfl : k = n := by omega
        have HF : Hid (Two (List.zipWith (unA 3) xs ys) (List.zipWith (unB 3) xs ys) k w wr (.slice (some ⟨w.heap.size + 1, 0, none⟩) k k) (.slice (some ⟨w.heap.size, 0, none⟩) k k)) := by
          have := HT.out
          rw [mix_full (zip_len HX.out.1 HY.out.1) (by simp), mix_full (zip_len HX.out.1 HY.out.1) (by simp)] at this
          exact this
        clear HT
        go_wp2
        go_ret2
        exact ⟨_, _, rfl, HF.out⟩

end Go.Proofs.Ytbjkclbgocpbkaa
