/-
  The encoding of a number by the specification, for each of its six lengths.
-/
import Derived.Test.YtfncgegglpigkaaDoorOwn
namespace Go.Proofs.YtfncgegglpigkaaDoor
open Go.RowKit

set_option maxRecDepth 100000 in
set_option maxHeartbeats 1000000 in
theorem sEnc0 (n : Nat) (w : World) (h0 : 0 ≤ n) (h1 : n < 128) :
    Calls Tryd.prog 15 #[.int .i64 (n : Int)] w (Made [(n : Int)] 1 w) := by
  have dl : decide ((n : Int) < 128) = true := by simp; omega
  go_enter Tryd.func15, Tryd.ntmps15
  go_wp2
  go_ret
  exact ⟨_, rfl, owns_lit w [(n : Int)] (by simp), grown_alloc _ _ _⟩

set_option maxRecDepth 100000 in
set_option maxHeartbeats 1000000 in
theorem sEnc1 (n : Nat) (w : World) (h0 : 128 ≤ n) (h1 : n < 2048) :
    Calls Tryd.prog 15 #[.int .i64 (n : Int)] w (Made [192 + (n : Int) / 64, 128 + (n : Int) % 64] 2 w) := by
  have d1 : decide ((2048 : Int) ≤ (n : Int)) = false := by simp; omega
  have dl : decide ((n : Int) < 128) = false := by simp; omega
  go_enter Tryd.func15, Tryd.ntmps15
  go_wp2
  refine wp_loop_rounds 1 ?_
  rw [rounds_succ]
  go_wp2
  have HO0 : Hid (Owns (w.alloc (.cells #[] 3)) w.heap.size (.slice (some ⟨w.heap.size, 0, none⟩) 0 0) 0 [] ∧ w.grownBy (w.alloc (.cells #[] 3)) none) := ⟨owns_empty w, grown_alloc _ _ _⟩
  generalize (w.alloc (.cells #[] 3)) = W0 at *
  refine wp_loop_rounds 2 ?_
  rw [rounds_succ]
  have hz0 := HO0.out.2.size
  go_wp2_with (at_builtin; refine append_ints rfl _ _ rfl w.heap.size (.slice (some ⟨w.heap.size, 0, none⟩) 0 0) 0 ([]) rfl (HO0.out.1.grown (grown_alloc _ _ _)) (some ⟨W0.heap.size, 0, none⟩) 1 1 [128 + (n : Int) % 64] rfl (ints_one _ _ _) (fun e => nomatch e) ?a1 ?a2 ?_)
  case a1 => omega
  case a2 => simp; omega
  intro v1 W1 hown hgrow
  have HO1 : Hid (Owns W1 w.heap.size v1 1 ([] ++ [128 + (n : Int) % 64]) ∧ w.grownBy W1 none) := ⟨hown, grown_row (grown_trans HO0.out.2 (grown_alloc _ _ _)) hgrow (fun g e => HO0.out.1.block g e)⟩
  clear hown hgrow hz0
  go_wp2
  obtain ⟨ak, ck, rfl, _, hnk, hik, _⟩ := HO1.out.1.reads
  have HK : Hid (Ints W1.drew ak 1 ([] ++ [128 + (n : Int) % 64]) ∧ w.grownBy W1.drew none ∧ (ak = none → ck = 0)) := ⟨hik.grown (grown_drew _ _), grown_trans HO1.out.2 (grown_drew _ _), hnk⟩
  clear hnk hik
  rw [rounds_succ]
  go_wp2
  go_region
  generalize W1.drew = WD at *
  have hzd := HK.out.2.1.size
  go_wp2_with (at_builtin; refine append_ints rfl _ _ rfl w.heap.size (.slice (some ⟨WD.heap.size, 0, none⟩) 1 1) 1 [192 + (n : Int) / 64] rfl ((owns_lit WD [192 + (n : Int) / 64] (by simp)).base_le hzd) ak 1 ck ([] ++ [128 + (n : Int) % 64]) rfl (HK.out.1.grown (grown_alloc _ _ _)) HK.out.2.2 ?a1 ?a2 ?_)
  case a1 => omega
  case a2 => simp; omega
  intro vf Wf hown hgrow
  have HF : Hid (Owns Wf w.heap.size vf 2 [192 + (n : Int) / 64, 128 + (n : Int) % 64] ∧ w.grownBy Wf none) := ⟨hown, grown_row (grown_trans HK.out.2.1 (grown_alloc _ _ _)) hgrow (fun g e => by simp [Value.ownBlock] at e; omega)⟩
  clear hown hgrow
  go_wp2
  go_ret
  exact ⟨_, rfl, HF.out.1, HF.out.2⟩

set_option maxRecDepth 100000 in
set_option maxHeartbeats 1000000 in
theorem sEnc2 (n : Nat) (w : World) (h0 : 2048 ≤ n) (h1 : n < 65536) :
    Calls Tryd.prog 15 #[.int .i64 (n : Int)] w (Made [224 + (n : Int) / 4096, 128 + (n : Int) / 64 % 64, 128 + (n : Int) % 64] 3 w) := by
  have d1 : decide ((2048 : Int) ≤ (n : Int)) = true := by simp; omega
  have d2 : decide ((65536 : Int) ≤ (n : Int)) = false := by simp; omega
  have dl : decide ((n : Int) < 128) = false := by simp; omega
  go_enter Tryd.func15, Tryd.ntmps15
  go_wp2
  refine wp_loop_rounds 2 ?_
  rw [rounds_succ]
  go_wp2
  rw [rounds_succ]
  go_wp2
  have HO0 : Hid (Owns (w.alloc (.cells #[] 3)) w.heap.size (.slice (some ⟨w.heap.size, 0, none⟩) 0 0) 0 [] ∧ w.grownBy (w.alloc (.cells #[] 3)) none) := ⟨owns_empty w, grown_alloc _ _ _⟩
  generalize (w.alloc (.cells #[] 3)) = W0 at *
  refine wp_loop_rounds 3 ?_
  rw [rounds_succ]
  have hz0 := HO0.out.2.size
  go_wp2_with (at_builtin; refine append_ints rfl _ _ rfl w.heap.size (.slice (some ⟨w.heap.size, 0, none⟩) 0 0) 0 ([]) rfl (HO0.out.1.grown (grown_alloc _ _ _)) (some ⟨W0.heap.size, 0, none⟩) 1 1 [128 + (n : Int) / 64 % 64] rfl (ints_one _ _ _) (fun e => nomatch e) ?a1 ?a2 ?_)
  case a1 => omega
  case a2 => simp; omega
  intro v1 W1 hown hgrow
  have HO1 : Hid (Owns W1 w.heap.size v1 1 ([] ++ [128 + (n : Int) / 64 % 64]) ∧ w.grownBy W1 none) := ⟨hown, grown_row (grown_trans HO0.out.2 (grown_alloc _ _ _)) hgrow (fun g e => HO0.out.1.block g e)⟩
  clear hown hgrow hz0
  go_wp2
  rw [rounds_succ]
  have hz1 := HO1.out.2.size
  go_wp2_with (at_builtin; refine append_ints rfl _ _ rfl w.heap.size v1 1 ([] ++ [128 + (n : Int) / 64 % 64]) rfl (HO1.out.1.grown (grown_alloc _ _ _)) (some ⟨W1.heap.size, 0, none⟩) 1 1 [128 + (n : Int) % 64] rfl (ints_one _ _ _) (fun e => nomatch e) ?a1 ?a2 ?_)
  case a1 => omega
  case a2 => simp; omega
  intro v2 W2 hown hgrow
  have HO2 : Hid (Owns W2 w.heap.size v2 2 ([] ++ [128 + (n : Int) / 64 % 64] ++ [128 + (n : Int) % 64]) ∧ w.grownBy W2 none) := ⟨hown, grown_row (grown_trans HO1.out.2 (grown_alloc _ _ _)) hgrow (fun g e => HO1.out.1.block g e)⟩
  clear hown hgrow hz1
  go_wp2
  obtain ⟨ak, ck, rfl, _, hnk, hik, _⟩ := HO2.out.1.reads
  have HK : Hid (Ints W2.drew ak 2 ([] ++ [128 + (n : Int) / 64 % 64] ++ [128 + (n : Int) % 64]) ∧ w.grownBy W2.drew none ∧ (ak = none → ck = 0)) := ⟨hik.grown (grown_drew _ _), grown_trans HO2.out.2 (grown_drew _ _), hnk⟩
  clear hnk hik
  rw [rounds_succ]
  go_wp2
  go_region
  generalize W2.drew = WD at *
  have hzd := HK.out.2.1.size
  go_wp2_with (at_builtin; refine append_ints rfl _ _ rfl w.heap.size (.slice (some ⟨WD.heap.size, 0, none⟩) 1 1) 1 [224 + (n : Int) / 4096] rfl ((owns_lit WD [224 + (n : Int) / 4096] (by simp)).base_le hzd) ak 2 ck ([] ++ [128 + (n : Int) / 64 % 64] ++ [128 + (n : Int) % 64]) rfl (HK.out.1.grown (grown_alloc _ _ _)) HK.out.2.2 ?a1 ?a2 ?_)
  case a1 => omega
  case a2 => simp; omega
  intro vf Wf hown hgrow
  have HF : Hid (Owns Wf w.heap.size vf 3 [224 + (n : Int) / 4096, 128 + (n : Int) / 64 % 64, 128 + (n : Int) % 64] ∧ w.grownBy Wf none) := ⟨hown, grown_row (grown_trans HK.out.2.1 (grown_alloc _ _ _)) hgrow (fun g e => by simp [Value.ownBlock] at e; omega)⟩
  clear hown hgrow
  go_wp2
  go_ret
  exact ⟨_, rfl, HF.out.1, HF.out.2⟩

set_option maxRecDepth 100000 in
set_option maxHeartbeats 1000000 in
theorem sEnc3 (n : Nat) (w : World) (h0 : 65536 ≤ n) (h1 : n < 2097152) :
    Calls Tryd.prog 15 #[.int .i64 (n : Int)] w (Made [240 + (n : Int) / 262144, 128 + (n : Int) / 4096 % 64, 128 + (n : Int) / 64 % 64, 128 + (n : Int) % 64] 4 w) := by
  have d1 : decide ((2048 : Int) ≤ (n : Int)) = true := by simp; omega
  have d2 : decide ((65536 : Int) ≤ (n : Int)) = true := by simp; omega
  have d3 : decide ((2097152 : Int) ≤ (n : Int)) = false := by simp; omega
  have dl : decide ((n : Int) < 128) = false := by simp; omega
  go_enter Tryd.func15, Tryd.ntmps15
  go_wp2
  refine wp_loop_rounds 3 ?_
  rw [rounds_succ]
  go_wp2
  rw [rounds_succ]
  go_wp2
  rw [rounds_succ]
  go_wp2
  have HO0 : Hid (Owns (w.alloc (.cells #[] 3)) w.heap.size (.slice (some ⟨w.heap.size, 0, none⟩) 0 0) 0 [] ∧ w.grownBy (w.alloc (.cells #[] 3)) none) := ⟨owns_empty w, grown_alloc _ _ _⟩
  generalize (w.alloc (.cells #[] 3)) = W0 at *
  refine wp_loop_rounds 4 ?_
  rw [rounds_succ]
  have hz0 := HO0.out.2.size
  go_wp2_with (at_builtin; refine append_ints rfl _ _ rfl w.heap.size (.slice (some ⟨w.heap.size, 0, none⟩) 0 0) 0 ([]) rfl (HO0.out.1.grown (grown_alloc _ _ _)) (some ⟨W0.heap.size, 0, none⟩) 1 1 [128 + (n : Int) / 4096 % 64] rfl (ints_one _ _ _) (fun e => nomatch e) ?a1 ?a2 ?_)
  case a1 => omega
  case a2 => simp; omega
  intro v1 W1 hown hgrow
  have HO1 : Hid (Owns W1 w.heap.size v1 1 ([] ++ [128 + (n : Int) / 4096 % 64]) ∧ w.grownBy W1 none) := ⟨hown, grown_row (grown_trans HO0.out.2 (grown_alloc _ _ _)) hgrow (fun g e => HO0.out.1.block g e)⟩
  clear hown hgrow hz0
  go_wp2
  rw [rounds_succ]
  have hz1 := HO1.out.2.size
  go_wp2_with (at_builtin; refine append_ints rfl _ _ rfl w.heap.size v1 1 ([] ++ [128 + (n : Int) / 4096 % 64]) rfl (HO1.out.1.grown (grown_alloc _ _ _)) (some ⟨W1.heap.size, 0, none⟩) 1 1 [128 + (n : Int) / 64 % 64] rfl (ints_one _ _ _) (fun e => nomatch e) ?a1 ?a2 ?_)
  case a1 => omega
  case a2 => simp; omega
  intro v2 W2 hown hgrow
  have HO2 : Hid (Owns W2 w.heap.size v2 2 ([] ++ [128 + (n : Int) / 4096 % 64] ++ [128 + (n : Int) / 64 % 64]) ∧ w.grownBy W2 none) := ⟨hown, grown_row (grown_trans HO1.out.2 (grown_alloc _ _ _)) hgrow (fun g e => HO1.out.1.block g e)⟩
  clear hown hgrow hz1
  go_wp2
  rw [rounds_succ]
  have hz2 := HO2.out.2.size
  go_wp2_with (at_builtin; refine append_ints rfl _ _ rfl w.heap.size v2 2 ([] ++ [128 + (n : Int) / 4096 % 64] ++ [128 + (n : Int) / 64 % 64]) rfl (HO2.out.1.grown (grown_alloc _ _ _)) (some ⟨W2.heap.size, 0, none⟩) 1 1 [128 + (n : Int) % 64] rfl (ints_one _ _ _) (fun e => nomatch e) ?a1 ?a2 ?_)
  case a1 => omega
  case a2 => simp; omega
  intro v3 W3 hown hgrow
  have HO3 : Hid (Owns W3 w.heap.size v3 3 ([] ++ [128 + (n : Int) / 4096 % 64] ++ [128 + (n : Int) / 64 % 64] ++ [128 + (n : Int) % 64]) ∧ w.grownBy W3 none) := ⟨hown, grown_row (grown_trans HO2.out.2 (grown_alloc _ _ _)) hgrow (fun g e => HO2.out.1.block g e)⟩
  clear hown hgrow hz2
  go_wp2
  obtain ⟨ak, ck, rfl, _, hnk, hik, _⟩ := HO3.out.1.reads
  have HK : Hid (Ints W3.drew ak 3 ([] ++ [128 + (n : Int) / 4096 % 64] ++ [128 + (n : Int) / 64 % 64] ++ [128 + (n : Int) % 64]) ∧ w.grownBy W3.drew none ∧ (ak = none → ck = 0)) := ⟨hik.grown (grown_drew _ _), grown_trans HO3.out.2 (grown_drew _ _), hnk⟩
  clear hnk hik
  rw [rounds_succ]
  go_wp2
  go_region
  generalize W3.drew = WD at *
  have hzd := HK.out.2.1.size
  go_wp2_with (at_builtin; refine append_ints rfl _ _ rfl w.heap.size (.slice (some ⟨WD.heap.size, 0, none⟩) 1 1) 1 [240 + (n : Int) / 262144] rfl ((owns_lit WD [240 + (n : Int) / 262144] (by simp)).base_le hzd) ak 3 ck ([] ++ [128 + (n : Int) / 4096 % 64] ++ [128 + (n : Int) / 64 % 64] ++ [128 + (n : Int) % 64]) rfl (HK.out.1.grown (grown_alloc _ _ _)) HK.out.2.2 ?a1 ?a2 ?_)
  case a1 => omega
  case a2 => simp; omega
  intro vf Wf hown hgrow
  have HF : Hid (Owns Wf w.heap.size vf 4 [240 + (n : Int) / 262144, 128 + (n : Int) / 4096 % 64, 128 + (n : Int) / 64 % 64, 128 + (n : Int) % 64] ∧ w.grownBy Wf none) := ⟨hown, grown_row (grown_trans HK.out.2.1 (grown_alloc _ _ _)) hgrow (fun g e => by simp [Value.ownBlock] at e; omega)⟩
  clear hown hgrow
  go_wp2
  go_ret
  exact ⟨_, rfl, HF.out.1, HF.out.2⟩

set_option maxRecDepth 100000 in
set_option maxHeartbeats 1000000 in
theorem sEnc4 (n : Nat) (w : World) (h0 : 2097152 ≤ n) (h1 : n < 67108864) :
    Calls Tryd.prog 15 #[.int .i64 (n : Int)] w (Made [248 + (n : Int) / 16777216, 128 + (n : Int) / 262144 % 64, 128 + (n : Int) / 4096 % 64, 128 + (n : Int) / 64 % 64, 128 + (n : Int) % 64] 5 w) := by
  have d1 : decide ((2048 : Int) ≤ (n : Int)) = true := by simp; omega
  have d2 : decide ((65536 : Int) ≤ (n : Int)) = true := by simp; omega
  have d3 : decide ((2097152 : Int) ≤ (n : Int)) = true := by simp; omega
  have d4 : decide ((67108864 : Int) ≤ (n : Int)) = false := by simp; omega
  have dl : decide ((n : Int) < 128) = false := by simp; omega
  go_enter Tryd.func15, Tryd.ntmps15
  go_wp2
  refine wp_loop_rounds 4 ?_
  rw [rounds_succ]
  go_wp2
  rw [rounds_succ]
  go_wp2
  rw [rounds_succ]
  go_wp2
  rw [rounds_succ]
  go_wp2
  have HO0 : Hid (Owns (w.alloc (.cells #[] 3)) w.heap.size (.slice (some ⟨w.heap.size, 0, none⟩) 0 0) 0 [] ∧ w.grownBy (w.alloc (.cells #[] 3)) none) := ⟨owns_empty w, grown_alloc _ _ _⟩
  generalize (w.alloc (.cells #[] 3)) = W0 at *
  refine wp_loop_rounds 5 ?_
  rw [rounds_succ]
  have hz0 := HO0.out.2.size
  go_wp2_with (at_builtin; refine append_ints rfl _ _ rfl w.heap.size (.slice (some ⟨w.heap.size, 0, none⟩) 0 0) 0 ([]) rfl (HO0.out.1.grown (grown_alloc _ _ _)) (some ⟨W0.heap.size, 0, none⟩) 1 1 [128 + (n : Int) / 262144 % 64] rfl (ints_one _ _ _) (fun e => nomatch e) ?a1 ?a2 ?_)
  case a1 => omega
  case a2 => simp; omega
  intro v1 W1 hown hgrow
  have HO1 : Hid (Owns W1 w.heap.size v1 1 ([] ++ [128 + (n : Int) / 262144 % 64]) ∧ w.grownBy W1 none) := ⟨hown, grown_row (grown_trans HO0.out.2 (grown_alloc _ _ _)) hgrow (fun g e => HO0.out.1.block g e)⟩
  clear hown hgrow hz0
  go_wp2
  rw [rounds_succ]
  have hz1 := HO1.out.2.size
  go_wp2_with (at_builtin; refine append_ints rfl _ _ rfl w.heap.size v1 1 ([] ++ [128 + (n : Int) / 262144 % 64]) rfl (HO1.out.1.grown (grown_alloc _ _ _)) (some ⟨W1.heap.size, 0, none⟩) 1 1 [128 + (n : Int) / 4096 % 64] rfl (ints_one _ _ _) (fun e => nomatch e) ?a1 ?a2 ?_)
  case a1 => omega
  case a2 => simp; omega
  intro v2 W2 hown hgrow
  have HO2 : Hid (Owns W2 w.heap.size v2 2 ([] ++ [128 + (n : Int) / 262144 % 64] ++ [128 + (n : Int) / 4096 % 64]) ∧ w.grownBy W2 none) := ⟨hown, grown_row (grown_trans HO1.out.2 (grown_alloc _ _ _)) hgrow (fun g e => HO1.out.1.block g e)⟩
  clear hown hgrow hz1
  go_wp2
  rw [rounds_succ]
  have hz2 := HO2.out.2.size
  go_wp2_with (at_builtin; refine append_ints rfl _ _ rfl w.heap.size v2 2 ([] ++ [128 + (n : Int) / 262144 % 64] ++ [128 + (n : Int) / 4096 % 64]) rfl (HO2.out.1.grown (grown_alloc _ _ _)) (some ⟨W2.heap.size, 0, none⟩) 1 1 [128 + (n : Int) / 64 % 64] rfl (ints_one _ _ _) (fun e => nomatch e) ?a1 ?a2 ?_)
  case a1 => omega
  case a2 => simp; omega
  intro v3 W3 hown hgrow
  have HO3 : Hid (Owns W3 w.heap.size v3 3 ([] ++ [128 + (n : Int) / 262144 % 64] ++ [128 + (n : Int) / 4096 % 64] ++ [128 + (n : Int) / 64 % 64]) ∧ w.grownBy W3 none) := ⟨hown, grown_row (grown_trans HO2.out.2 (grown_alloc _ _ _)) hgrow (fun g e => HO2.out.1.block g e)⟩
  clear hown hgrow hz2
  go_wp2
  rw [rounds_succ]
  have hz3 := HO3.out.2.size
  go_wp2_with (at_builtin; refine append_ints rfl _ _ rfl w.heap.size v3 3 ([] ++ [128 + (n : Int) / 262144 % 64] ++ [128 + (n : Int) / 4096 % 64] ++ [128 + (n : Int) / 64 % 64]) rfl (HO3.out.1.grown (grown_alloc _ _ _)) (some ⟨W3.heap.size, 0, none⟩) 1 1 [128 + (n : Int) % 64] rfl (ints_one _ _ _) (fun e => nomatch e) ?a1 ?a2 ?_)
  case a1 => omega
  case a2 => simp; omega
  intro v4 W4 hown hgrow
  have HO4 : Hid (Owns W4 w.heap.size v4 4 ([] ++ [128 + (n : Int) / 262144 % 64] ++ [128 + (n : Int) / 4096 % 64] ++ [128 + (n : Int) / 64 % 64] ++ [128 + (n : Int) % 64]) ∧ w.grownBy W4 none) := ⟨hown, grown_row (grown_trans HO3.out.2 (grown_alloc _ _ _)) hgrow (fun g e => HO3.out.1.block g e)⟩
  clear hown hgrow hz3
  go_wp2
  obtain ⟨ak, ck, rfl, _, hnk, hik, _⟩ := HO4.out.1.reads
  have HK : Hid (Ints W4.drew ak 4 ([] ++ [128 + (n : Int) / 262144 % 64] ++ [128 + (n : Int) / 4096 % 64] ++ [128 + (n : Int) / 64 % 64] ++ [128 + (n : Int) % 64]) ∧ w.grownBy W4.drew none ∧ (ak = none → ck = 0)) := ⟨hik.grown (grown_drew _ _), grown_trans HO4.out.2 (grown_drew _ _), hnk⟩
  clear hnk hik
  rw [rounds_succ]
  go_wp2
  go_region
  generalize W4.drew = WD at *
  have hzd := HK.out.2.1.size
  go_wp2_with (at_builtin; refine append_ints rfl _ _ rfl w.heap.size (.slice (some ⟨WD.heap.size, 0, none⟩) 1 1) 1 [248 + (n : Int) / 16777216] rfl ((owns_lit WD [248 + (n : Int) / 16777216] (by simp)).base_le hzd) ak 4 ck ([] ++ [128 + (n : Int) / 262144 % 64] ++ [128 + (n : Int) / 4096 % 64] ++ [128 + (n : Int) / 64 % 64] ++ [128 + (n : Int) % 64]) rfl (HK.out.1.grown (grown_alloc _ _ _)) HK.out.2.2 ?a1 ?a2 ?_)
  case a1 => omega
  case a2 => simp; omega
  intro vf Wf hown hgrow
  have HF : Hid (Owns Wf w.heap.size vf 5 [248 + (n : Int) / 16777216, 128 + (n : Int) / 262144 % 64, 128 + (n : Int) / 4096 % 64, 128 + (n : Int) / 64 % 64, 128 + (n : Int) % 64] ∧ w.grownBy Wf none) := ⟨hown, grown_row (grown_trans HK.out.2.1 (grown_alloc _ _ _)) hgrow (fun g e => by simp [Value.ownBlock] at e; omega)⟩
  clear hown hgrow
  go_wp2
  go_ret
  exact ⟨_, rfl, HF.out.1, HF.out.2⟩

set_option maxRecDepth 100000 in
set_option maxHeartbeats 1000000 in
theorem sEnc5 (n : Nat) (w : World) (h0 : 67108864 ≤ n) (h1 : n < 2147483648) :
    Calls Tryd.prog 15 #[.int .i64 (n : Int)] w (Made [252 + (n : Int) / 1073741824, 128 + (n : Int) / 16777216 % 64, 128 + (n : Int) / 262144 % 64, 128 + (n : Int) / 4096 % 64, 128 + (n : Int) / 64 % 64, 128 + (n : Int) % 64] 6 w) := by
  have d1 : decide ((2048 : Int) ≤ (n : Int)) = true := by simp; omega
  have d2 : decide ((65536 : Int) ≤ (n : Int)) = true := by simp; omega
  have d3 : decide ((2097152 : Int) ≤ (n : Int)) = true := by simp; omega
  have d4 : decide ((67108864 : Int) ≤ (n : Int)) = true := by simp; omega
  have d5 : decide ((2147483648 : Int) ≤ (n : Int)) = false := by simp; omega
  have dl : decide ((n : Int) < 128) = false := by simp; omega
  go_enter Tryd.func15, Tryd.ntmps15
  go_wp2
  refine wp_loop_rounds 5 ?_
  rw [rounds_succ]
  go_wp2
  rw [rounds_succ]
  go_wp2
  rw [rounds_succ]
  go_wp2
  rw [rounds_succ]
  go_wp2
  rw [rounds_succ]
  go_wp2
  have HO0 : Hid (Owns (w.alloc (.cells #[] 3)) w.heap.size (.slice (some ⟨w.heap.size, 0, none⟩) 0 0) 0 [] ∧ w.grownBy (w.alloc (.cells #[] 3)) none) := ⟨owns_empty w, grown_alloc _ _ _⟩
  generalize (w.alloc (.cells #[] 3)) = W0 at *
  refine wp_loop_rounds 6 ?_
  rw [rounds_succ]
  have hz0 := HO0.out.2.size
  go_wp2_with (at_builtin; refine append_ints rfl _ _ rfl w.heap.size (.slice (some ⟨w.heap.size, 0, none⟩) 0 0) 0 ([]) rfl (HO0.out.1.grown (grown_alloc _ _ _)) (some ⟨W0.heap.size, 0, none⟩) 1 1 [128 + (n : Int) / 16777216 % 64] rfl (ints_one _ _ _) (fun e => nomatch e) ?a1 ?a2 ?_)
  case a1 => omega
  case a2 => simp; omega
  intro v1 W1 hown hgrow
  have HO1 : Hid (Owns W1 w.heap.size v1 1 ([] ++ [128 + (n : Int) / 16777216 % 64]) ∧ w.grownBy W1 none) := ⟨hown, grown_row (grown_trans HO0.out.2 (grown_alloc _ _ _)) hgrow (fun g e => HO0.out.1.block g e)⟩
  clear hown hgrow hz0
  go_wp2
  rw [rounds_succ]
  have hz1 := HO1.out.2.size
  go_wp2_with (at_builtin; refine append_ints rfl _ _ rfl w.heap.size v1 1 ([] ++ [128 + (n : Int) / 16777216 % 64]) rfl (HO1.out.1.grown (grown_alloc _ _ _)) (some ⟨W1.heap.size, 0, none⟩) 1 1 [128 + (n : Int) / 262144 % 64] rfl (ints_one _ _ _) (fun e => nomatch e) ?a1 ?a2 ?_)
  case a1 => omega
  case a2 => simp; omega
  intro v2 W2 hown hgrow
  have HO2 : Hid (Owns W2 w.heap.size v2 2 ([] ++ [128 + (n : Int) / 16777216 % 64] ++ [128 + (n : Int) / 262144 % 64]) ∧ w.grownBy W2 none) := ⟨hown, grown_row (grown_trans HO1.out.2 (grown_alloc _ _ _)) hgrow (fun g e => HO1.out.1.block g e)⟩
  clear hown hgrow hz1
  go_wp2
  rw [rounds_succ]
  have hz2 := HO2.out.2.size
  go_wp2_with (at_builtin; refine append_ints rfl _ _ rfl w.heap.size v2 2 ([] ++ [128 + (n : Int) / 16777216 % 64] ++ [128 + (n : Int) / 262144 % 64]) rfl (HO2.out.1.grown (grown_alloc _ _ _)) (some ⟨W2.heap.size, 0, none⟩) 1 1 [128 + (n : Int) / 4096 % 64] rfl (ints_one _ _ _) (fun e => nomatch e) ?a1 ?a2 ?_)
  case a1 => omega
  case a2 => simp; omega
  intro v3 W3 hown hgrow
  have HO3 : Hid (Owns W3 w.heap.size v3 3 ([] ++ [128 + (n : Int) / 16777216 % 64] ++ [128 + (n : Int) / 262144 % 64] ++ [128 + (n : Int) / 4096 % 64]) ∧ w.grownBy W3 none) := ⟨hown, grown_row (grown_trans HO2.out.2 (grown_alloc _ _ _)) hgrow (fun g e => HO2.out.1.block g e)⟩
  clear hown hgrow hz2
  go_wp2
  rw [rounds_succ]
  have hz3 := HO3.out.2.size
  go_wp2_with (at_builtin; refine append_ints rfl _ _ rfl w.heap.size v3 3 ([] ++ [128 + (n : Int) / 16777216 % 64] ++ [128 + (n : Int) / 262144 % 64] ++ [128 + (n : Int) / 4096 % 64]) rfl (HO3.out.1.grown (grown_alloc _ _ _)) (some ⟨W3.heap.size, 0, none⟩) 1 1 [128 + (n : Int) / 64 % 64] rfl (ints_one _ _ _) (fun e => nomatch e) ?a1 ?a2 ?_)
  case a1 => omega
  case a2 => simp; omega
  intro v4 W4 hown hgrow
  have HO4 : Hid (Owns W4 w.heap.size v4 4 ([] ++ [128 + (n : Int) / 16777216 % 64] ++ [128 + (n : Int) / 262144 % 64] ++ [128 + (n : Int) / 4096 % 64] ++ [128 + (n : Int) / 64 % 64]) ∧ w.grownBy W4 none) := ⟨hown, grown_row (grown_trans HO3.out.2 (grown_alloc _ _ _)) hgrow (fun g e => HO3.out.1.block g e)⟩
  clear hown hgrow hz3
  go_wp2
  rw [rounds_succ]
  have hz4 := HO4.out.2.size
  go_wp2_with (at_builtin; refine append_ints rfl _ _ rfl w.heap.size v4 4 ([] ++ [128 + (n : Int) / 16777216 % 64] ++ [128 + (n : Int) / 262144 % 64] ++ [128 + (n : Int) / 4096 % 64] ++ [128 + (n : Int) / 64 % 64]) rfl (HO4.out.1.grown (grown_alloc _ _ _)) (some ⟨W4.heap.size, 0, none⟩) 1 1 [128 + (n : Int) % 64] rfl (ints_one _ _ _) (fun e => nomatch e) ?a1 ?a2 ?_)
  case a1 => omega
  case a2 => simp; omega
  intro v5 W5 hown hgrow
  have HO5 : Hid (Owns W5 w.heap.size v5 5 ([] ++ [128 + (n : Int) / 16777216 % 64] ++ [128 + (n : Int) / 262144 % 64] ++ [128 + (n : Int) / 4096 % 64] ++ [128 + (n : Int) / 64 % 64] ++ [128 + (n : Int) % 64]) ∧ w.grownBy W5 none) := ⟨hown, grown_row (grown_trans HO4.out.2 (grown_alloc _ _ _)) hgrow (fun g e => HO4.out.1.block g e)⟩
  clear hown hgrow hz4
  go_wp2
  obtain ⟨ak, ck, rfl, _, hnk, hik, _⟩ := HO5.out.1.reads
  have HK : Hid (Ints W5.drew ak 5 ([] ++ [128 + (n : Int) / 16777216 % 64] ++ [128 + (n : Int) / 262144 % 64] ++ [128 + (n : Int) / 4096 % 64] ++ [128 + (n : Int) / 64 % 64] ++ [128 + (n : Int) % 64]) ∧ w.grownBy W5.drew none ∧ (ak = none → ck = 0)) := ⟨hik.grown (grown_drew _ _), grown_trans HO5.out.2 (grown_drew _ _), hnk⟩
  clear hnk hik
  rw [rounds_succ]
  go_wp2
  go_region
  generalize W5.drew = WD at *
  have hzd := HK.out.2.1.size
  go_wp2_with (at_builtin; refine append_ints rfl _ _ rfl w.heap.size (.slice (some ⟨WD.heap.size, 0, none⟩) 1 1) 1 [252 + (n : Int) / 1073741824] rfl ((owns_lit WD [252 + (n : Int) / 1073741824] (by simp)).base_le hzd) ak 5 ck ([] ++ [128 + (n : Int) / 16777216 % 64] ++ [128 + (n : Int) / 262144 % 64] ++ [128 + (n : Int) / 4096 % 64] ++ [128 + (n : Int) / 64 % 64] ++ [128 + (n : Int) % 64]) rfl (HK.out.1.grown (grown_alloc _ _ _)) HK.out.2.2 ?a1 ?a2 ?_)
  case a1 => omega
  case a2 => simp; omega
  intro vf Wf hown hgrow
  have HF : Hid (Owns Wf w.heap.size vf 6 [252 + (n : Int) / 1073741824, 128 + (n : Int) / 16777216 % 64, 128 + (n : Int) / 262144 % 64, 128 + (n : Int) / 4096 % 64, 128 + (n : Int) / 64 % 64, 128 + (n : Int) % 64] ∧ w.grownBy Wf none) := ⟨hown, grown_row (grown_trans HK.out.2.1 (grown_alloc _ _ _)) hgrow (fun g e => by simp [Value.ownBlock] at e; omega)⟩
  clear hown hgrow
  go_wp2
  go_ret
  exact ⟨_, rfl, HF.out.1, HF.out.2⟩

end Go.Proofs.YtfncgegglpigkaaDoor
