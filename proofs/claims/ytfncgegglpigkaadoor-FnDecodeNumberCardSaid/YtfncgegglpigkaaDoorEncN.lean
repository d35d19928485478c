/-
  The encoding of a number by the program, for each of its six lengths. For worlds that hold the table of the forms.
-/
import Derived.Test.YtfncgegglpigkaaDoorTab
import Derived.Test.YtfncgegglpigkaaDoorOwn
namespace Go.Proofs.YtfncgegglpigkaaDoor
open Go.RowKit

theorem and_63 (x : Nat) (h : x < 4611686018427387904) : bits .and .i64 (x : Int) 63 = ((x % 64 : Nat) : Int) := by
  have := i64_and_nat x 63 h (by decide)
  rw [show (63 : Nat) = 2 ^ 6 - 1 from rfl, Nat.and_two_pow_sub_one_eq_mod] at this; exact this

set_option maxRecDepth 100000 in
set_option maxHeartbeats 1000000 in
theorem iEnc0 (n : Nat) (w : World) (hf : HasForms w) (h0 : 0 ≤ n) (h1 : n < 128) :
    Calls Tryd.prog 6 #[.int .i64 (n : Int)] w (Made [(n : Int)] 1 w) := by
  have d0 : decide ((128 : Int) ≤ (n : Int)) = false := by simp; omega
  have c0 : w.cell? ⟨0, 0, none⟩ = some (.int .i64 128) := (hf 0 (128, 0) rfl).1
  have e0 : w.cell? ⟨0, 1, none⟩ = some (.int .i64 0) := (hf 0 (128, 0) rfl).2
  have dn0 : decide ((n : Int) < 0) = false := by simp
  have dn1 : decide ((2147483647 : Int) < (n : Int)) = false := by simp; omega
  clear hf
  go_enter Tryd.func6, Tryd.ntmps6
  go_wp2
  refine wp_loop_rounds 1 ?_
  rw [rounds_succ]
  go_wp2
  go_region
  go_wp2
  have HO0 : Hid (Owns ((w.alloc (.cells #[.int .i64 ((n : Int))] 3)).drew) w.heap.size (.slice (some ⟨w.heap.size, 0, none⟩) 1 1) 1 [(n : Int)] ∧ w.grownBy ((w.alloc (.cells #[.int .i64 ((n : Int))] 3)).drew) none) :=
    ⟨(owns_lit w [(n : Int)] (by simp)).grown (grown_drew _ _), grown_trans (grown_alloc _ _ _) (grown_drew _ _)⟩
  generalize ((w.alloc (.cells #[.int .i64 ((n : Int))] 3)).drew) = W0 at *
  refine wp_loop_rounds 1 ?_
  rw [rounds_succ]
  go_wp2
  go_ret
  exact ⟨_, rfl, HO0.out.1, HO0.out.2⟩

set_option maxRecDepth 100000 in
set_option maxHeartbeats 1000000 in
theorem iEnc1 (n : Nat) (w : World) (hf : HasForms w) (h0 : 128 ≤ n) (h1 : n < 2048) :
    Calls Tryd.prog 6 #[.int .i64 (n : Int)] w (Made [192 + (n : Int) / 64, 128 + (n : Int) % 64] 2 w) := by
  have d0 : decide ((128 : Int) ≤ (n : Int)) = true := by simp; omega
  have d1 : decide ((2048 : Int) ≤ (n : Int)) = false := by simp; omega
  have c0 : w.cell? ⟨0, 0, none⟩ = some (.int .i64 128) := (hf 0 (128, 0) rfl).1
  have c1 : w.cell? ⟨0, 2, none⟩ = some (.int .i64 2048) := (hf 1 (2048, 192) rfl).1
  have e1 : w.cell? ⟨0, 3, none⟩ = some (.int .i64 192) := (hf 1 (2048, 192) rfl).2
  have b0 : bits .and .i64 ((n : Int)) 63 = (n : Int) % 64 := by
    have := and_63 (n) (by omega)
    simpa using this
  have dn0 : decide ((n : Int) < 0) = false := by simp
  have dn1 : decide ((2147483647 : Int) < (n : Int)) = false := by simp; omega
  clear hf
  go_enter Tryd.func6, Tryd.ntmps6
  go_wp2
  refine wp_loop_rounds 2 ?_
  rw [rounds_succ]
  go_wp2
  rw [rounds_succ]
  go_wp2
  go_region
  go_wp2
  have HO0 : Hid (Owns ((w.alloc (.cells #[.int .i64 (192 + (n : Int) / 64)] 3)).drew) w.heap.size (.slice (some ⟨w.heap.size, 0, none⟩) 1 1) 1 [192 + (n : Int) / 64] ∧ w.grownBy ((w.alloc (.cells #[.int .i64 (192 + (n : Int) / 64)] 3)).drew) none) :=
    ⟨(owns_lit w [192 + (n : Int) / 64] (by simp)).grown (grown_drew _ _), grown_trans (grown_alloc _ _ _) (grown_drew _ _)⟩
  generalize ((w.alloc (.cells #[.int .i64 (192 + (n : Int) / 64)] 3)).drew) = W0 at *
  refine wp_loop_rounds 2 ?_
  rw [rounds_succ]
  have hz0 := HO0.out.2.size
  go_wp2_with (at_builtin; refine append_ints rfl _ _ rfl w.heap.size (.slice (some ⟨w.heap.size, 0, none⟩) 1 1) 1 ([192 + (n : Int) / 64]) rfl (HO0.out.1.grown (grown_alloc _ _ _)) (some ⟨W0.heap.size, 0, none⟩) 1 1 [128 + (n : Int) % 64] rfl (ints_one _ _ _) (fun e => nomatch e) ?a1 ?a2 ?_)
  case a1 => omega
  case a2 => simp; omega
  intro v1 W1 hown hgrow
  have HO1 : Hid (Owns W1 w.heap.size v1 2 ([192 + (n : Int) / 64] ++ [128 + (n : Int) % 64]) ∧ w.grownBy W1 none) := ⟨hown, grown_row (grown_trans HO0.out.2 (grown_alloc _ _ _)) hgrow (fun g e => HO0.out.1.block g e)⟩
  clear hown hgrow hz0
  go_wp2
  rw [rounds_succ]
  go_wp2
  go_ret
  exact ⟨_, rfl, HO1.out.1, HO1.out.2⟩

set_option maxRecDepth 100000 in
set_option maxHeartbeats 1000000 in
theorem iEnc2 (n : Nat) (w : World) (hf : HasForms w) (h0 : 2048 ≤ n) (h1 : n < 65536) :
    Calls Tryd.prog 6 #[.int .i64 (n : Int)] w (Made [224 + (n : Int) / 4096, 128 + (n : Int) / 64 % 64, 128 + (n : Int) % 64] 3 w) := by
  have d0 : decide ((128 : Int) ≤ (n : Int)) = true := by simp; omega
  have d1 : decide ((2048 : Int) ≤ (n : Int)) = true := by simp; omega
  have d2 : decide ((65536 : Int) ≤ (n : Int)) = false := by simp; omega
  have c0 : w.cell? ⟨0, 0, none⟩ = some (.int .i64 128) := (hf 0 (128, 0) rfl).1
  have c1 : w.cell? ⟨0, 2, none⟩ = some (.int .i64 2048) := (hf 1 (2048, 192) rfl).1
  have c2 : w.cell? ⟨0, 4, none⟩ = some (.int .i64 65536) := (hf 2 (65536, 224) rfl).1
  have e2 : w.cell? ⟨0, 5, none⟩ = some (.int .i64 224) := (hf 2 (65536, 224) rfl).2
  have b0 : bits .and .i64 ((n : Int)) 63 = (n : Int) % 64 := by
    have := and_63 (n) (by omega)
    simpa using this
  have b1 : bits .and .i64 ((n : Int) / 64) 63 = (n : Int) / 64 % 64 := by
    have := and_63 (n / 64) (by omega)
    simpa using this
  have dn0 : decide ((n : Int) < 0) = false := by simp
  have dn1 : decide ((2147483647 : Int) < (n : Int)) = false := by simp; omega
  clear hf
  go_enter Tryd.func6, Tryd.ntmps6
  go_wp2
  refine wp_loop_rounds 3 ?_
  rw [rounds_succ]
  go_wp2
  rw [rounds_succ]
  go_wp2
  rw [rounds_succ]
  go_wp2
  go_region
  go_wp2
  have HO0 : Hid (Owns ((w.alloc (.cells #[.int .i64 (224 + (n : Int) / 4096)] 3)).drew) w.heap.size (.slice (some ⟨w.heap.size, 0, none⟩) 1 1) 1 [224 + (n : Int) / 4096] ∧ w.grownBy ((w.alloc (.cells #[.int .i64 (224 + (n : Int) / 4096)] 3)).drew) none) :=
    ⟨(owns_lit w [224 + (n : Int) / 4096] (by simp)).grown (grown_drew _ _), grown_trans (grown_alloc _ _ _) (grown_drew _ _)⟩
  generalize ((w.alloc (.cells #[.int .i64 (224 + (n : Int) / 4096)] 3)).drew) = W0 at *
  refine wp_loop_rounds 3 ?_
  rw [rounds_succ]
  have hz0 := HO0.out.2.size
  go_wp2_with (at_builtin; refine append_ints rfl _ _ rfl w.heap.size (.slice (some ⟨w.heap.size, 0, none⟩) 1 1) 1 ([224 + (n : Int) / 4096]) rfl (HO0.out.1.grown (grown_alloc _ _ _)) (some ⟨W0.heap.size, 0, none⟩) 1 1 [128 + (n : Int) / 64 % 64] rfl (ints_one _ _ _) (fun e => nomatch e) ?a1 ?a2 ?_)
  case a1 => omega
  case a2 => simp; omega
  intro v1 W1 hown hgrow
  have HO1 : Hid (Owns W1 w.heap.size v1 2 ([224 + (n : Int) / 4096] ++ [128 + (n : Int) / 64 % 64]) ∧ w.grownBy W1 none) := ⟨hown, grown_row (grown_trans HO0.out.2 (grown_alloc _ _ _)) hgrow (fun g e => HO0.out.1.block g e)⟩
  clear hown hgrow hz0
  go_wp2
  rw [rounds_succ]
  have hz1 := HO1.out.2.size
  go_wp2_with (at_builtin; refine append_ints rfl _ _ rfl w.heap.size v1 2 ([224 + (n : Int) / 4096] ++ [128 + (n : Int) / 64 % 64]) rfl (HO1.out.1.grown (grown_alloc _ _ _)) (some ⟨W1.heap.size, 0, none⟩) 1 1 [128 + (n : Int) % 64] rfl (ints_one _ _ _) (fun e => nomatch e) ?a1 ?a2 ?_)
  case a1 => omega
  case a2 => simp; omega
  intro v2 W2 hown hgrow
  have HO2 : Hid (Owns W2 w.heap.size v2 3 ([224 + (n : Int) / 4096] ++ [128 + (n : Int) / 64 % 64] ++ [128 + (n : Int) % 64]) ∧ w.grownBy W2 none) := ⟨hown, grown_row (grown_trans HO1.out.2 (grown_alloc _ _ _)) hgrow (fun g e => HO1.out.1.block g e)⟩
  clear hown hgrow hz1
  go_wp2
  rw [rounds_succ]
  go_wp2
  go_ret
  exact ⟨_, rfl, HO2.out.1, HO2.out.2⟩

set_option maxRecDepth 100000 in
set_option maxHeartbeats 1000000 in
theorem iEnc3 (n : Nat) (w : World) (hf : HasForms w) (h0 : 65536 ≤ n) (h1 : n < 2097152) :
    Calls Tryd.prog 6 #[.int .i64 (n : Int)] w (Made [240 + (n : Int) / 262144, 128 + (n : Int) / 4096 % 64, 128 + (n : Int) / 64 % 64, 128 + (n : Int) % 64] 4 w) := by
  have d0 : decide ((128 : Int) ≤ (n : Int)) = true := by simp; omega
  have d1 : decide ((2048 : Int) ≤ (n : Int)) = true := by simp; omega
  have d2 : decide ((65536 : Int) ≤ (n : Int)) = true := by simp; omega
  have d3 : decide ((2097152 : Int) ≤ (n : Int)) = false := by simp; omega
  have c0 : w.cell? ⟨0, 0, none⟩ = some (.int .i64 128) := (hf 0 (128, 0) rfl).1
  have c1 : w.cell? ⟨0, 2, none⟩ = some (.int .i64 2048) := (hf 1 (2048, 192) rfl).1
  have c2 : w.cell? ⟨0, 4, none⟩ = some (.int .i64 65536) := (hf 2 (65536, 224) rfl).1
  have c3 : w.cell? ⟨0, 6, none⟩ = some (.int .i64 2097152) := (hf 3 (2097152, 240) rfl).1
  have e3 : w.cell? ⟨0, 7, none⟩ = some (.int .i64 240) := (hf 3 (2097152, 240) rfl).2
  have b0 : bits .and .i64 ((n : Int)) 63 = (n : Int) % 64 := by
    have := and_63 (n) (by omega)
    simpa using this
  have b1 : bits .and .i64 ((n : Int) / 64) 63 = (n : Int) / 64 % 64 := by
    have := and_63 (n / 64) (by omega)
    simpa using this
  have b2 : bits .and .i64 ((n : Int) / 4096) 63 = (n : Int) / 4096 % 64 := by
    have := and_63 (n / 4096) (by omega)
    simpa using this
  have dn0 : decide ((n : Int) < 0) = false := by simp
  have dn1 : decide ((2147483647 : Int) < (n : Int)) = false := by simp; omega
  clear hf
  go_enter Tryd.func6, Tryd.ntmps6
  go_wp2
  refine wp_loop_rounds 4 ?_
  rw [rounds_succ]
  go_wp2
  rw [rounds_succ]
  go_wp2
  rw [rounds_succ]
  go_wp2
  rw [rounds_succ]
  go_wp2
  go_region
  go_wp2
  have HO0 : Hid (Owns ((w.alloc (.cells #[.int .i64 (240 + (n : Int) / 262144)] 3)).drew) w.heap.size (.slice (some ⟨w.heap.size, 0, none⟩) 1 1) 1 [240 + (n : Int) / 262144] ∧ w.grownBy ((w.alloc (.cells #[.int .i64 (240 + (n : Int) / 262144)] 3)).drew) none) :=
    ⟨(owns_lit w [240 + (n : Int) / 262144] (by simp)).grown (grown_drew _ _), grown_trans (grown_alloc _ _ _) (grown_drew _ _)⟩
  generalize ((w.alloc (.cells #[.int .i64 (240 + (n : Int) / 262144)] 3)).drew) = W0 at *
  refine wp_loop_rounds 4 ?_
  rw [rounds_succ]
  have hz0 := HO0.out.2.size
  go_wp2_with (at_builtin; refine append_ints rfl _ _ rfl w.heap.size (.slice (some ⟨w.heap.size, 0, none⟩) 1 1) 1 ([240 + (n : Int) / 262144]) rfl (HO0.out.1.grown (grown_alloc _ _ _)) (some ⟨W0.heap.size, 0, none⟩) 1 1 [128 + (n : Int) / 4096 % 64] rfl (ints_one _ _ _) (fun e => nomatch e) ?a1 ?a2 ?_)
  case a1 => omega
  case a2 => simp; omega
  intro v1 W1 hown hgrow
  have HO1 : Hid (Owns W1 w.heap.size v1 2 ([240 + (n : Int) / 262144] ++ [128 + (n : Int) / 4096 % 64]) ∧ w.grownBy W1 none) := ⟨hown, grown_row (grown_trans HO0.out.2 (grown_alloc _ _ _)) hgrow (fun g e => HO0.out.1.block g e)⟩
  clear hown hgrow hz0
  go_wp2
  rw [rounds_succ]
  have hz1 := HO1.out.2.size
  go_wp2_with (at_builtin; refine append_ints rfl _ _ rfl w.heap.size v1 2 ([240 + (n : Int) / 262144] ++ [128 + (n : Int) / 4096 % 64]) rfl (HO1.out.1.grown (grown_alloc _ _ _)) (some ⟨W1.heap.size, 0, none⟩) 1 1 [128 + (n : Int) / 64 % 64] rfl (ints_one _ _ _) (fun e => nomatch e) ?a1 ?a2 ?_)
  case a1 => omega
  case a2 => simp; omega
  intro v2 W2 hown hgrow
  have HO2 : Hid (Owns W2 w.heap.size v2 3 ([240 + (n : Int) / 262144] ++ [128 + (n : Int) / 4096 % 64] ++ [128 + (n : Int) / 64 % 64]) ∧ w.grownBy W2 none) := ⟨hown, grown_row (grown_trans HO1.out.2 (grown_alloc _ _ _)) hgrow (fun g e => HO1.out.1.block g e)⟩
  clear hown hgrow hz1
  go_wp2
  rw [rounds_succ]
  have hz2 := HO2.out.2.size
  go_wp2_with (at_builtin; refine append_ints rfl _ _ rfl w.heap.size v2 3 ([240 + (n : Int) / 262144] ++ [128 + (n : Int) / 4096 % 64] ++ [128 + (n : Int) / 64 % 64]) rfl (HO2.out.1.grown (grown_alloc _ _ _)) (some ⟨W2.heap.size, 0, none⟩) 1 1 [128 + (n : Int) % 64] rfl (ints_one _ _ _) (fun e => nomatch e) ?a1 ?a2 ?_)
  case a1 => omega
  case a2 => simp; omega
  intro v3 W3 hown hgrow
  have HO3 : Hid (Owns W3 w.heap.size v3 4 ([240 + (n : Int) / 262144] ++ [128 + (n : Int) / 4096 % 64] ++ [128 + (n : Int) / 64 % 64] ++ [128 + (n : Int) % 64]) ∧ w.grownBy W3 none) := ⟨hown, grown_row (grown_trans HO2.out.2 (grown_alloc _ _ _)) hgrow (fun g e => HO2.out.1.block g e)⟩
  clear hown hgrow hz2
  go_wp2
  rw [rounds_succ]
  go_wp2
  go_ret
  exact ⟨_, rfl, HO3.out.1, HO3.out.2⟩

set_option maxRecDepth 100000 in
set_option maxHeartbeats 1000000 in
theorem iEnc4 (n : Nat) (w : World) (hf : HasForms w) (h0 : 2097152 ≤ n) (h1 : n < 67108864) :
    Calls Tryd.prog 6 #[.int .i64 (n : Int)] w (Made [248 + (n : Int) / 16777216, 128 + (n : Int) / 262144 % 64, 128 + (n : Int) / 4096 % 64, 128 + (n : Int) / 64 % 64, 128 + (n : Int) % 64] 5 w) := by
  have d0 : decide ((128 : Int) ≤ (n : Int)) = true := by simp; omega
  have d1 : decide ((2048 : Int) ≤ (n : Int)) = true := by simp; omega
  have d2 : decide ((65536 : Int) ≤ (n : Int)) = true := by simp; omega
  have d3 : decide ((2097152 : Int) ≤ (n : Int)) = true := by simp; omega
  have d4 : decide ((67108864 : Int) ≤ (n : Int)) = false := by simp; omega
  have c0 : w.cell? ⟨0, 0, none⟩ = some (.int .i64 128) := (hf 0 (128, 0) rfl).1
  have c1 : w.cell? ⟨0, 2, none⟩ = some (.int .i64 2048) := (hf 1 (2048, 192) rfl).1
  have c2 : w.cell? ⟨0, 4, none⟩ = some (.int .i64 65536) := (hf 2 (65536, 224) rfl).1
  have c3 : w.cell? ⟨0, 6, none⟩ = some (.int .i64 2097152) := (hf 3 (2097152, 240) rfl).1
  have c4 : w.cell? ⟨0, 8, none⟩ = some (.int .i64 67108864) := (hf 4 (67108864, 248) rfl).1
  have e4 : w.cell? ⟨0, 9, none⟩ = some (.int .i64 248) := (hf 4 (67108864, 248) rfl).2
  have b0 : bits .and .i64 ((n : Int)) 63 = (n : Int) % 64 := by
    have := and_63 (n) (by omega)
    simpa using this
  have b1 : bits .and .i64 ((n : Int) / 64) 63 = (n : Int) / 64 % 64 := by
    have := and_63 (n / 64) (by omega)
    simpa using this
  have b2 : bits .and .i64 ((n : Int) / 4096) 63 = (n : Int) / 4096 % 64 := by
    have := and_63 (n / 4096) (by omega)
    simpa using this
  have b3 : bits .and .i64 ((n : Int) / 262144) 63 = (n : Int) / 262144 % 64 := by
    have := and_63 (n / 262144) (by omega)
    simpa using this
  have dn0 : decide ((n : Int) < 0) = false := by simp
  have dn1 : decide ((2147483647 : Int) < (n : Int)) = false := by simp; omega
  clear hf
  go_enter Tryd.func6, Tryd.ntmps6
  go_wp2
  refine wp_loop_rounds 5 ?_
  rw [rounds_succ]
  go_wp2
  rw [rounds_succ]
  go_wp2
  rw [rounds_succ]
  go_wp2
  rw [rounds_succ]
  go_wp2
  rw [rounds_succ]
  go_wp2
  go_region
  go_wp2
  have HO0 : Hid (Owns ((w.alloc (.cells #[.int .i64 (248 + (n : Int) / 16777216)] 3)).drew) w.heap.size (.slice (some ⟨w.heap.size, 0, none⟩) 1 1) 1 [248 + (n : Int) / 16777216] ∧ w.grownBy ((w.alloc (.cells #[.int .i64 (248 + (n : Int) / 16777216)] 3)).drew) none) :=
    ⟨(owns_lit w [248 + (n : Int) / 16777216] (by simp)).grown (grown_drew _ _), grown_trans (grown_alloc _ _ _) (grown_drew _ _)⟩
  generalize ((w.alloc (.cells #[.int .i64 (248 + (n : Int) / 16777216)] 3)).drew) = W0 at *
  refine wp_loop_rounds 5 ?_
  rw [rounds_succ]
  have hz0 := HO0.out.2.size
  go_wp2_with (at_builtin; refine append_ints rfl _ _ rfl w.heap.size (.slice (some ⟨w.heap.size, 0, none⟩) 1 1) 1 ([248 + (n : Int) / 16777216]) rfl (HO0.out.1.grown (grown_alloc _ _ _)) (some ⟨W0.heap.size, 0, none⟩) 1 1 [128 + (n : Int) / 262144 % 64] rfl (ints_one _ _ _) (fun e => nomatch e) ?a1 ?a2 ?_)
  case a1 => omega
  case a2 => simp; omega
  intro v1 W1 hown hgrow
  have HO1 : Hid (Owns W1 w.heap.size v1 2 ([248 + (n : Int) / 16777216] ++ [128 + (n : Int) / 262144 % 64]) ∧ w.grownBy W1 none) := ⟨hown, grown_row (grown_trans HO0.out.2 (grown_alloc _ _ _)) hgrow (fun g e => HO0.out.1.block g e)⟩
  clear hown hgrow hz0
  go_wp2
  rw [rounds_succ]
  have hz1 := HO1.out.2.size
  go_wp2_with (at_builtin; refine append_ints rfl _ _ rfl w.heap.size v1 2 ([248 + (n : Int) / 16777216] ++ [128 + (n : Int) / 262144 % 64]) rfl (HO1.out.1.grown (grown_alloc _ _ _)) (some ⟨W1.heap.size, 0, none⟩) 1 1 [128 + (n : Int) / 4096 % 64] rfl (ints_one _ _ _) (fun e => nomatch e) ?a1 ?a2 ?_)
  case a1 => omega
  case a2 => simp; omega
  intro v2 W2 hown hgrow
  have HO2 : Hid (Owns W2 w.heap.size v2 3 ([248 + (n : Int) / 16777216] ++ [128 + (n : Int) / 262144 % 64] ++ [128 + (n : Int) / 4096 % 64]) ∧ w.grownBy W2 none) := ⟨hown, grown_row (grown_trans HO1.out.2 (grown_alloc _ _ _)) hgrow (fun g e => HO1.out.1.block g e)⟩
  clear hown hgrow hz1
  go_wp2
  rw [rounds_succ]
  have hz2 := HO2.out.2.size
  go_wp2_with (at_builtin; refine append_ints rfl _ _ rfl w.heap.size v2 3 ([248 + (n : Int) / 16777216] ++ [128 + (n : Int) / 262144 % 64] ++ [128 + (n : Int) / 4096 % 64]) rfl (HO2.out.1.grown (grown_alloc _ _ _)) (some ⟨W2.heap.size, 0, none⟩) 1 1 [128 + (n : Int) / 64 % 64] rfl (ints_one _ _ _) (fun e => nomatch e) ?a1 ?a2 ?_)
  case a1 => omega
  case a2 => simp; omega
  intro v3 W3 hown hgrow
  have HO3 : Hid (Owns W3 w.heap.size v3 4 ([248 + (n : Int) / 16777216] ++ [128 + (n : Int) / 262144 % 64] ++ [128 + (n : Int) / 4096 % 64] ++ [128 + (n : Int) / 64 % 64]) ∧ w.grownBy W3 none) := ⟨hown, grown_row (grown_trans HO2.out.2 (grown_alloc _ _ _)) hgrow (fun g e => HO2.out.1.block g e)⟩
  clear hown hgrow hz2
  go_wp2
  rw [rounds_succ]
  have hz3 := HO3.out.2.size
  go_wp2_with (at_builtin; refine append_ints rfl _ _ rfl w.heap.size v3 4 ([248 + (n : Int) / 16777216] ++ [128 + (n : Int) / 262144 % 64] ++ [128 + (n : Int) / 4096 % 64] ++ [128 + (n : Int) / 64 % 64]) rfl (HO3.out.1.grown (grown_alloc _ _ _)) (some ⟨W3.heap.size, 0, none⟩) 1 1 [128 + (n : Int) % 64] rfl (ints_one _ _ _) (fun e => nomatch e) ?a1 ?a2 ?_)
  case a1 => omega
  case a2 => simp; omega
  intro v4 W4 hown hgrow
  have HO4 : Hid (Owns W4 w.heap.size v4 5 ([248 + (n : Int) / 16777216] ++ [128 + (n : Int) / 262144 % 64] ++ [128 + (n : Int) / 4096 % 64] ++ [128 + (n : Int) / 64 % 64] ++ [128 + (n : Int) % 64]) ∧ w.grownBy W4 none) := ⟨hown, grown_row (grown_trans HO3.out.2 (grown_alloc _ _ _)) hgrow (fun g e => HO3.out.1.block g e)⟩
  clear hown hgrow hz3
  go_wp2
  rw [rounds_succ]
  go_wp2
  go_ret
  exact ⟨_, rfl, HO4.out.1, HO4.out.2⟩

set_option maxRecDepth 100000 in
set_option maxHeartbeats 1000000 in
theorem iEnc5 (n : Nat) (w : World) (hf : HasForms w) (h0 : 67108864 ≤ n) (h1 : n < 2147483648) :
    Calls Tryd.prog 6 #[.int .i64 (n : Int)] w (Made [252 + (n : Int) / 1073741824, 128 + (n : Int) / 16777216 % 64, 128 + (n : Int) / 262144 % 64, 128 + (n : Int) / 4096 % 64, 128 + (n : Int) / 64 % 64, 128 + (n : Int) % 64] 6 w) := by
  have d0 : decide ((128 : Int) ≤ (n : Int)) = true := by simp; omega
  have d1 : decide ((2048 : Int) ≤ (n : Int)) = true := by simp; omega
  have d2 : decide ((65536 : Int) ≤ (n : Int)) = true := by simp; omega
  have d3 : decide ((2097152 : Int) ≤ (n : Int)) = true := by simp; omega
  have d4 : decide ((67108864 : Int) ≤ (n : Int)) = true := by simp; omega
  have d5 : decide ((2147483648 : Int) ≤ (n : Int)) = false := by simp; omega
  have c0 : w.cell? ⟨0, 0, none⟩ = some (.int .i64 128) := (hf 0 (128, 0) rfl).1
  have c1 : w.cell? ⟨0, 2, none⟩ = some (.int .i64 2048) := (hf 1 (2048, 192) rfl).1
  have c2 : w.cell? ⟨0, 4, none⟩ = some (.int .i64 65536) := (hf 2 (65536, 224) rfl).1
  have c3 : w.cell? ⟨0, 6, none⟩ = some (.int .i64 2097152) := (hf 3 (2097152, 240) rfl).1
  have c4 : w.cell? ⟨0, 8, none⟩ = some (.int .i64 67108864) := (hf 4 (67108864, 248) rfl).1
  have c5 : w.cell? ⟨0, 10, none⟩ = some (.int .i64 2147483648) := (hf 5 (2147483648, 252) rfl).1
  have e5 : w.cell? ⟨0, 11, none⟩ = some (.int .i64 252) := (hf 5 (2147483648, 252) rfl).2
  have b0 : bits .and .i64 ((n : Int)) 63 = (n : Int) % 64 := by
    have := and_63 (n) (by omega)
    simpa using this
  have b1 : bits .and .i64 ((n : Int) / 64) 63 = (n : Int) / 64 % 64 := by
    have := and_63 (n / 64) (by omega)
    simpa using this
  have b2 : bits .and .i64 ((n : Int) / 4096) 63 = (n : Int) / 4096 % 64 := by
    have := and_63 (n / 4096) (by omega)
    simpa using this
  have b3 : bits .and .i64 ((n : Int) / 262144) 63 = (n : Int) / 262144 % 64 := by
    have := and_63 (n / 262144) (by omega)
    simpa using this
  have b4 : bits .and .i64 ((n : Int) / 16777216) 63 = (n : Int) / 16777216 % 64 := by
    have := and_63 (n / 16777216) (by omega)
    simpa using this
  have dn0 : decide ((n : Int) < 0) = false := by simp
  have dn1 : decide ((2147483647 : Int) < (n : Int)) = false := by simp; omega
  clear hf
  go_enter Tryd.func6, Tryd.ntmps6
  go_wp2
  refine wp_loop_rounds 6 ?_
  rw [rounds_succ]
  go_wp2
  rw [rounds_succ]
  go_wp2
  rw [rounds_succ]
  go_wp2
  rw [rounds_succ]
  go_wp2
  rw [rounds_succ]
  go_wp2
  rw [rounds_succ]
  go_wp2
  go_region
  go_wp2
  have HO0 : Hid (Owns ((w.alloc (.cells #[.int .i64 (252 + (n : Int) / 1073741824)] 3)).drew) w.heap.size (.slice (some ⟨w.heap.size, 0, none⟩) 1 1) 1 [252 + (n : Int) / 1073741824] ∧ w.grownBy ((w.alloc (.cells #[.int .i64 (252 + (n : Int) / 1073741824)] 3)).drew) none) :=
    ⟨(owns_lit w [252 + (n : Int) / 1073741824] (by simp)).grown (grown_drew _ _), grown_trans (grown_alloc _ _ _) (grown_drew _ _)⟩
  generalize ((w.alloc (.cells #[.int .i64 (252 + (n : Int) / 1073741824)] 3)).drew) = W0 at *
  refine wp_loop_rounds 6 ?_
  rw [rounds_succ]
  have hz0 := HO0.out.2.size
  go_wp2_with (at_builtin; refine append_ints rfl _ _ rfl w.heap.size (.slice (some ⟨w.heap.size, 0, none⟩) 1 1) 1 ([252 + (n : Int) / 1073741824]) rfl (HO0.out.1.grown (grown_alloc _ _ _)) (some ⟨W0.heap.size, 0, none⟩) 1 1 [128 + (n : Int) / 16777216 % 64] rfl (ints_one _ _ _) (fun e => nomatch e) ?a1 ?a2 ?_)
  case a1 => omega
  case a2 => simp; omega
  intro v1 W1 hown hgrow
  have HO1 : Hid (Owns W1 w.heap.size v1 2 ([252 + (n : Int) / 1073741824] ++ [128 + (n : Int) / 16777216 % 64]) ∧ w.grownBy W1 none) := ⟨hown, grown_row (grown_trans HO0.out.2 (grown_alloc _ _ _)) hgrow (fun g e => HO0.out.1.block g e)⟩
  clear hown hgrow hz0
  go_wp2
  rw [rounds_succ]
  have hz1 := HO1.out.2.size
  go_wp2_with (at_builtin; refine append_ints rfl _ _ rfl w.heap.size v1 2 ([252 + (n : Int) / 1073741824] ++ [128 + (n : Int) / 16777216 % 64]) rfl (HO1.out.1.grown (grown_alloc _ _ _)) (some ⟨W1.heap.size, 0, none⟩) 1 1 [128 + (n : Int) / 262144 % 64] rfl (ints_one _ _ _) (fun e => nomatch e) ?a1 ?a2 ?_)
  case a1 => omega
  case a2 => simp; omega
  intro v2 W2 hown hgrow
  have HO2 : Hid (Owns W2 w.heap.size v2 3 ([252 + (n : Int) / 1073741824] ++ [128 + (n : Int) / 16777216 % 64] ++ [128 + (n : Int) / 262144 % 64]) ∧ w.grownBy W2 none) := ⟨hown, grown_row (grown_trans HO1.out.2 (grown_alloc _ _ _)) hgrow (fun g e => HO1.out.1.block g e)⟩
  clear hown hgrow hz1
  go_wp2
  rw [rounds_succ]
  have hz2 := HO2.out.2.size
  go_wp2_with (at_builtin; refine append_ints rfl _ _ rfl w.heap.size v2 3 ([252 + (n : Int) / 1073741824] ++ [128 + (n : Int) / 16777216 % 64] ++ [128 + (n : Int) / 262144 % 64]) rfl (HO2.out.1.grown (grown_alloc _ _ _)) (some ⟨W2.heap.size, 0, none⟩) 1 1 [128 + (n : Int) / 4096 % 64] rfl (ints_one _ _ _) (fun e => nomatch e) ?a1 ?a2 ?_)
  case a1 => omega
  case a2 => simp; omega
  intro v3 W3 hown hgrow
  have HO3 : Hid (Owns W3 w.heap.size v3 4 ([252 + (n : Int) / 1073741824] ++ [128 + (n : Int) / 16777216 % 64] ++ [128 + (n : Int) / 262144 % 64] ++ [128 + (n : Int) / 4096 % 64]) ∧ w.grownBy W3 none) := ⟨hown, grown_row (grown_trans HO2.out.2 (grown_alloc _ _ _)) hgrow (fun g e => HO2.out.1.block g e)⟩
  clear hown hgrow hz2
  go_wp2
  rw [rounds_succ]
  have hz3 := HO3.out.2.size
  go_wp2_with (at_builtin; refine append_ints rfl _ _ rfl w.heap.size v3 4 ([252 + (n : Int) / 1073741824] ++ [128 + (n : Int) / 16777216 % 64] ++ [128 + (n : Int) / 262144 % 64] ++ [128 + (n : Int) / 4096 % 64]) rfl (HO3.out.1.grown (grown_alloc _ _ _)) (some ⟨W3.heap.size, 0, none⟩) 1 1 [128 + (n : Int) / 64 % 64] rfl (ints_one _ _ _) (fun e => nomatch e) ?a1 ?a2 ?_)
  case a1 => omega
  case a2 => simp; omega
  intro v4 W4 hown hgrow
  have HO4 : Hid (Owns W4 w.heap.size v4 5 ([252 + (n : Int) / 1073741824] ++ [128 + (n : Int) / 16777216 % 64] ++ [128 + (n : Int) / 262144 % 64] ++ [128 + (n : Int) / 4096 % 64] ++ [128 + (n : Int) / 64 % 64]) ∧ w.grownBy W4 none) := ⟨hown, grown_row (grown_trans HO3.out.2 (grown_alloc _ _ _)) hgrow (fun g e => HO3.out.1.block g e)⟩
  clear hown hgrow hz3
  go_wp2
  rw [rounds_succ]
  have hz4 := HO4.out.2.size
  go_wp2_with (at_builtin; refine append_ints rfl _ _ rfl w.heap.size v4 5 ([252 + (n : Int) / 1073741824] ++ [128 + (n : Int) / 16777216 % 64] ++ [128 + (n : Int) / 262144 % 64] ++ [128 + (n : Int) / 4096 % 64] ++ [128 + (n : Int) / 64 % 64]) rfl (HO4.out.1.grown (grown_alloc _ _ _)) (some ⟨W4.heap.size, 0, none⟩) 1 1 [128 + (n : Int) % 64] rfl (ints_one _ _ _) (fun e => nomatch e) ?a1 ?a2 ?_)
  case a1 => omega
  case a2 => simp; omega
  intro v5 W5 hown hgrow
  have HO5 : Hid (Owns W5 w.heap.size v5 6 ([252 + (n : Int) / 1073741824] ++ [128 + (n : Int) / 16777216 % 64] ++ [128 + (n : Int) / 262144 % 64] ++ [128 + (n : Int) / 4096 % 64] ++ [128 + (n : Int) / 64 % 64] ++ [128 + (n : Int) % 64]) ∧ w.grownBy W5 none) := ⟨hown, grown_row (grown_trans HO4.out.2 (grown_alloc _ _ _)) hgrow (fun g e => HO4.out.1.block g e)⟩
  clear hown hgrow hz4
  go_wp2
  rw [rounds_succ]
  go_wp2
  go_ret
  exact ⟨_, rfl, HO5.out.1, HO5.out.2⟩

end Go.Proofs.YtfncgegglpigkaaDoor
