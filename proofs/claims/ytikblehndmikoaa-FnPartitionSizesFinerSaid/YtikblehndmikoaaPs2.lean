/-
  PartitionSizes of the program, for all arguments.
-/
import Derived.Test.YtikblehndmikoaaPs
import Derived.Deep.OwnRows
namespace Go.Proofs.Ytikblehndmikoaa
open Go.RowKit

theorem own_set {w w' : World} {base n g c k : Nat} {xs : List Int} {z : Int} (h : Owns w' base (.slice (some ⟨g, 0, none⟩) n c) n xs) (hg : w.grownBy w' none) (hb : w.heap.size ≤ base) :
    Owns (w'.setCell ⟨g, k, none⟩ (.int .i64 z)) base (.slice (some ⟨g, 0, none⟩) n c) n (xs.set k z) ∧ w.grownBy (w'.setCell ⟨g, k, none⟩ (.int .i64 z)) none := by
  have hst := World.ownsRow.stored h k (.int .i64 z)
  rw [← List.map_set] at hst
  exact ⟨hst.1, grown_row hg hst.2 (fun x e => by injection e with e; subst e; exact Nat.le_trans hb (Owns.block h _ rfl))⟩
theorem zeros_own' (w : World) (n : Nat) (hn : n ≤ 64) : Owns (w.alloc (.cells (madeCells #[.int .i64 0] n) 3)) w.heap.size (.slice (some ⟨w.heap.size, 0, none⟩) n n) n (List.replicate n 0) := by
  have e := part_zero [] n
  have e2 : (List.replicate n (0 : Int)).map (Value.int .i64) = (madeCells #[Value.int .i64 0] n).toList := by rw [e]; simp [part]
  have hl : (madeCells #[Value.int .i64 0] n).toList.length = n := by rw [← e2]; simp
  refine ⟨by simp, .inr ⟨w.heap.size, n, _, rfl, Nat.le_refl _, heap_alloc_new w _, Nat.le_refl _, by unfold maxLen; omega, by rw [← Array.length_toList, hl]; simp, ?_⟩⟩
  rw [e2]; exact List.take_of_length_le (by rw [hl]; omega)

set_option maxRecDepth 100000 in
set_option maxHeartbeats 4000000 in
theorem iPS0 (c o : Int) (w : World) : Calls Try.prog 11 #[.int .i64 c, .int .i64 o, .int .i64 0] w (Made (if psOkK 1 c o then psK 1 c o else []) (if psOkK 1 c o then 1 else 0) w) := by
  cases b0 : inB o 0 8 with
  | false =>
    have e : psOkK 1 c o = false := by unfold psOkK; rw [b0]; rfl
    rw [e]
    clear e
    go_enter Try.func11, Try.ntmps11
    go_wp2_with fail
    refine (iAllIn_any [0] 0 3 (some ⟨w.heap.size, 0, none⟩) 1 1 _ true (ints_one_at' _ _ _ _ (by simp)) (by omega) (by rw [allB_one']; exact inB_true (by omega) (by omega))).mono ?_
    rintro e w' ⟨rfl, rfl⟩
    go_wp2_with fail
    refine (iAllIn_any [o] 0 8 (some ⟨w.heap.size + 1, 0, none⟩) 1 1 _ false (ints_one_at' _ _ _ _ (by simp)) (by omega) (by rw [allB_one']; assumption)).mono ?_
    rintro e w' ⟨rfl, rfl⟩
    clear b0
    go_wp2
    go_ret
    exact ⟨_, rfl, World.ownsRow_nil _ _ _ _, grown_trans (grown_alloc _ _ _) (grown_alloc _ _ _)⟩
  | true =>
    have ho : 0 ≤ o ∧ o ≤ 8 := by simpa [inB] using b0
    have h0 := ho.1
    have h1 := ho.2
    clear ho
    cases b1 : inB c 0 (64 - o) with
    | false =>
      have e : psOkK 1 c o = false := by unfold psOkK; rw [b0, b1]; rfl
      rw [e]
      clear e b0
      go_enter Try.func11, Try.ntmps11
      go_wp2_with fail
      refine (iAllIn_any [0] 0 3 (some ⟨w.heap.size, 0, none⟩) 1 1 _ true (ints_one_at' _ _ _ _ (by simp)) (by omega) (by rw [allB_one']; exact inB_true (by omega) (by omega))).mono ?_
      rintro e w' ⟨rfl, rfl⟩
      go_wp2_with fail
      refine (iAllIn_any [o] 0 8 (some ⟨w.heap.size + 1, 0, none⟩) 1 1 _ true (ints_one_at' _ _ _ _ (by simp)) (by omega) (by rw [allB_one']; exact inB_true (by omega) (by omega))).mono ?_
      rintro e w' ⟨rfl, rfl⟩
      go_wp2_with fail
      refine (iAllIn_any [c] 0 (64 - o) (some ⟨w.heap.size + 2, 0, none⟩) 1 1 _ false (ints_one_at' _ _ _ _ (by simp)) (by omega) (by rw [allB_one']; assumption)).mono ?_
      rintro e w' ⟨rfl, rfl⟩
      clear b1
      go_wp2
      go_ret
      exact ⟨_, rfl, World.ownsRow_nil _ _ _ _, grown_trans (grown_trans (grown_alloc _ _ _) (grown_alloc _ _ _)) (grown_alloc _ _ _)⟩
    | true =>
      have hc : 0 ≤ c ∧ c ≤ 64 - o := by simpa [inB] using b1
      have h2 := hc.1
      have h3 := hc.2
      obtain ⟨s, hs⟩ : ∃ s, (c + o) / 1 = s := ⟨_, rfl⟩
      have s0 : 0 ≤ s := by omega
      have s1 : s ≤ 64 := by omega
      clear hc
      by_cases hok : (c + o) % 1 = 0 ∧ o ≤ s
      · have HE : Hid (psOkK 1 c o = true ∧ psK 1 c o = (List.replicate 1 s).set 0 (s - o)) := by
          refine ⟨?_, ?_⟩
          · unfold psOkK; rw [b0, b1, show decide ((c + o) % ((1 : Nat) : Int) = 0) = true from decide_eq_true (by have := hok.1; omega), show decide (o ≤ (c + o) / ((1 : Nat) : Int)) = true from decide_eq_true (by have := hok.2; omega)]; rfl
          · rw [← psK_set (by omega), show (c + o) / ((1 : Nat) : Int) = s from hs]
        have d0 := hok.1
        have d1 := hok.2
        have d2 : s * 1 = c + o := by omega
        have hmk : ∀ W : World, (Instr.makeSlice 25 (.int .i64 1) (.int .i64 1)).run Try.prog W = .ok (.slice (some ⟨W.heap.size, 0, none⟩) 1 1) (W.alloc (.cells (madeCells #[.int .i64 0] 1) 3)) := fun W => run_make_row' (P := Try.prog) 25 3 (.int .i64 0) 8 Try.underlying25 info_int rfl .i64 .i64 1 (by omega) (by omega) W
        rw [HE.out.1, HE.out.2]
        rw [if_pos rfl, if_pos rfl]
        clear b0 b1 hok
        obtain rfl : c + o = s := by omega
        clear hs d2
        go_enter Try.func11, Try.ntmps11
        go_wp2_with fail
        refine (iAllIn_any [0] 0 3 (some ⟨w.heap.size, 0, none⟩) 1 1 _ true (ints_one_at' _ _ _ _ (by simp)) (by omega) (by rw [allB_one']; exact inB_true (by omega) (by omega))).mono ?_
        rintro e w' ⟨rfl, rfl⟩
        go_wp2_with fail
        refine (iAllIn_any [o] 0 8 (some ⟨w.heap.size + 1, 0, none⟩) 1 1 _ true (ints_one_at' _ _ _ _ (by simp)) (by omega) (by rw [allB_one']; exact inB_true (by omega) (by omega))).mono ?_
        rintro e w' ⟨rfl, rfl⟩
        go_wp2_with fail
        refine (iAllIn_any [c] 0 (64 - o) (some ⟨w.heap.size + 2, 0, none⟩) 1 1 _ true (ints_one_at' _ _ _ _ (by simp)) (by omega) (by rw [allB_one']; exact inB_true (by omega) (by omega))).mono ?_
        rintro e w' ⟨rfl, rfl⟩
        go_wp2
        have HW : Hid (Owns ((((w.alloc (.cells #[.int .i64 0] 3)).alloc (.cells #[.int .i64 o] 3)).alloc (.cells #[.int .i64 c] 3)).alloc (.cells (madeCells #[.int .i64 0] 1) 3)) w.heap.size (.slice (some ⟨w.heap.size + 1 + 1 + 1, 0, none⟩) 1 1) 1 (mix (List.replicate 1 (c + o)) (List.replicate 1 0) 0) ∧ w.grownBy ((((w.alloc (.cells #[.int .i64 0] 3)).alloc (.cells #[.int .i64 o] 3)).alloc (.cells #[.int .i64 c] 3)).alloc (.cells (madeCells #[.int .i64 0] 1) 3)) none) := by
          have h := zeros_own' (((w.alloc (.cells #[.int .i64 0] 3)).alloc (.cells #[.int .i64 o] 3)).alloc (.cells #[.int .i64 c] 3)) 1 (by omega)
          have h2 := h.base_le (base' := w.heap.size) (by simp; omega)
          rw [mix_zero]
          refine ⟨?_, grown_trans (grown_trans (grown_trans (grown_alloc _ _ _) (grown_alloc _ _ _)) (grown_alloc _ _ _)) (grown_alloc _ _ _)⟩
          rw [show (((w.alloc (.cells #[.int .i64 0] 3)).alloc (.cells #[.int .i64 o] 3)).alloc (.cells #[.int .i64 c] 3)).heap.size = w.heap.size + 1 + 1 + 1 by simp] at h2
          exact h2
        clear hmk
        go_loopw [50] (fun i wr => ∃ k : Nat, k ≤ 1 ∧ i = .int .i64 k ∧ Hid (Owns wr w.heap.size (.slice (some ⟨w.heap.size + 1 + 1 + 1, 0, none⟩) 1 1) 1 (mix (List.replicate 1 (c + o)) (List.replicate 1 0) k) ∧ w.grownBy wr none)) (fun i _ => 1 - (intOf i).toNat)
        case atStart => exact ⟨0, Nat.zero_le _, rfl, HW⟩
        case round =>
          clear HW
          obtain ⟨k, hk, rfl, HW⟩ := hrel
          by_cases hlt : k < 1
          · obtain ⟨z, hz⟩ := mix_get (zs := List.replicate 1 (c + o)) (ys := List.replicate 1 0) (n := 1) (by simp) (by simp) hlt
            obtain ⟨q1, q2⟩ := own_cell HW.out.1 hlt hz
            have HN := own_set (k := k) (z := (c + o)) HW.out.1 HW.out.2 (Nat.le_refl _)
            rw [mix_set (n := 1) (by simp) (by simp) hlt (by rw [List.getElem?_replicate, if_pos hlt])] at HN
            have HN2 := Lib.hid HN
            clear HW HN hz
            go_wp2
            go_roundw
            case rel => exact ⟨k + 1, by omega, by go_num, HN2⟩
            case measure => simp [intOf]; omega
          · obtain rfl : k = 1 := by omega
            have HO := HW.out
            rw [mix_full (n := 1) (by simp) (by simp)] at HO
            obtain ⟨q1, q2⟩ := own_cell (k := 0) HO.1 (by omega) (by rw [List.getElem?_replicate, if_pos (by omega)])
            have HN := Lib.hid (own_set (k := 0) (z := (c + o) - o) HO.1 HO.2 (Nat.le_refl _))
            clear HW HO
            go_wp2
            go_ret
            exact ⟨_, rfl, by have h := HN.out.1; rw [show c + o - o = c by omega] at h ⊢; exact h, by have h := HN.out.2; rw [show c + o - o = c by omega] at h; exact h⟩
      · have HE : Hid (psOkK 1 c o = false) := by
          cases h : psOkK 1 c o with
          | false => rfl
          | true => exfalso; obtain ⟨_, _, _, _, a5, a6⟩ := psOkK_of h; apply hok; exact ⟨by omega, by omega⟩
        rw [HE.out]
        by_cases d0 : (c + o) % 1 = 0
        · have d1 : s < o := by omega
          exfalso; omega
        · exfalso; omega

set_option maxRecDepth 100000 in
set_option maxHeartbeats 4000000 in
theorem iPS1 (c o : Int) (w : World) : Calls Try.prog 11 #[.int .i64 c, .int .i64 o, .int .i64 1] w (Made (if psOkK 2 c o then psK 2 c o else []) (if psOkK 2 c o then 2 else 0) w) := by
  cases b0 : inB o 0 8 with
  | false =>
    have e : psOkK 2 c o = false := by unfold psOkK; rw [b0]; rfl
    rw [e]
    clear e
    go_enter Try.func11, Try.ntmps11
    go_wp2_with fail
    refine (iAllIn_any [1] 0 3 (some ⟨w.heap.size, 0, none⟩) 1 1 _ true (ints_one_at' _ _ _ _ (by simp)) (by omega) (by rw [allB_one']; exact inB_true (by omega) (by omega))).mono ?_
    rintro e w' ⟨rfl, rfl⟩
    go_wp2_with fail
    refine (iAllIn_any [o] 0 8 (some ⟨w.heap.size + 1, 0, none⟩) 1 1 _ false (ints_one_at' _ _ _ _ (by simp)) (by omega) (by rw [allB_one']; assumption)).mono ?_
    rintro e w' ⟨rfl, rfl⟩
    clear b0
    go_wp2
    go_ret
    exact ⟨_, rfl, World.ownsRow_nil _ _ _ _, grown_trans (grown_alloc _ _ _) (grown_alloc _ _ _)⟩
  | true =>
    have ho : 0 ≤ o ∧ o ≤ 8 := by simpa [inB] using b0
    have h0 := ho.1
    have h1 := ho.2
    clear ho
    cases b1 : inB c 0 (64 - o) with
    | false =>
      have e : psOkK 2 c o = false := by unfold psOkK; rw [b0, b1]; rfl
      rw [e]
      clear e b0
      go_enter Try.func11, Try.ntmps11
      go_wp2_with fail
      refine (iAllIn_any [1] 0 3 (some ⟨w.heap.size, 0, none⟩) 1 1 _ true (ints_one_at' _ _ _ _ (by simp)) (by omega) (by rw [allB_one']; exact inB_true (by omega) (by omega))).mono ?_
      rintro e w' ⟨rfl, rfl⟩
      go_wp2_with fail
      refine (iAllIn_any [o] 0 8 (some ⟨w.heap.size + 1, 0, none⟩) 1 1 _ true (ints_one_at' _ _ _ _ (by simp)) (by omega) (by rw [allB_one']; exact inB_true (by omega) (by omega))).mono ?_
      rintro e w' ⟨rfl, rfl⟩
      go_wp2_with fail
      refine (iAllIn_any [c] 0 (64 - o) (some ⟨w.heap.size + 2, 0, none⟩) 1 1 _ false (ints_one_at' _ _ _ _ (by simp)) (by omega) (by rw [allB_one']; assumption)).mono ?_
      rintro e w' ⟨rfl, rfl⟩
      clear b1
      go_wp2
      go_ret
      exact ⟨_, rfl, World.ownsRow_nil _ _ _ _, grown_trans (grown_trans (grown_alloc _ _ _) (grown_alloc _ _ _)) (grown_alloc _ _ _)⟩
    | true =>
      have hc : 0 ≤ c ∧ c ≤ 64 - o := by simpa [inB] using b1
      have h2 := hc.1
      have h3 := hc.2
      obtain ⟨s, hs⟩ : ∃ s, (c + o) / 2 = s := ⟨_, rfl⟩
      have s0 : 0 ≤ s := by omega
      have s1 : s ≤ 64 := by omega
      clear hc
      by_cases hok : (c + o) % 2 = 0 ∧ o ≤ s
      · have HE : Hid (psOkK 2 c o = true ∧ psK 2 c o = (List.replicate 2 s).set 0 (s - o)) := by
          refine ⟨?_, ?_⟩
          · unfold psOkK; rw [b0, b1, show decide ((c + o) % ((2 : Nat) : Int) = 0) = true from decide_eq_true (by have := hok.1; omega), show decide (o ≤ (c + o) / ((2 : Nat) : Int)) = true from decide_eq_true (by have := hok.2; omega)]; rfl
          · rw [← psK_set (by omega), show (c + o) / ((2 : Nat) : Int) = s from hs]
        have d0 := hok.1
        have d1 := hok.2
        have d2 : s * 2 = c + o := by omega
        have hmk : ∀ W : World, (Instr.makeSlice 25 (.int .i64 2) (.int .i64 2)).run Try.prog W = .ok (.slice (some ⟨W.heap.size, 0, none⟩) 2 2) (W.alloc (.cells (madeCells #[.int .i64 0] 2) 3)) := fun W => run_make_row' (P := Try.prog) 25 3 (.int .i64 0) 8 Try.underlying25 info_int rfl .i64 .i64 2 (by omega) (by omega) W
        rw [HE.out.1, HE.out.2]
        rw [if_pos rfl, if_pos rfl]
        clear b0 b1 hok
        
        
        go_enter Try.func11, Try.ntmps11
        go_wp2_with fail
        refine (iAllIn_any [1] 0 3 (some ⟨w.heap.size, 0, none⟩) 1 1 _ true (ints_one_at' _ _ _ _ (by simp)) (by omega) (by rw [allB_one']; exact inB_true (by omega) (by omega))).mono ?_
        rintro e w' ⟨rfl, rfl⟩
        go_wp2_with fail
        refine (iAllIn_any [o] 0 8 (some ⟨w.heap.size + 1, 0, none⟩) 1 1 _ true (ints_one_at' _ _ _ _ (by simp)) (by omega) (by rw [allB_one']; exact inB_true (by omega) (by omega))).mono ?_
        rintro e w' ⟨rfl, rfl⟩
        go_wp2_with fail
        refine (iAllIn_any [c] 0 (64 - o) (some ⟨w.heap.size + 2, 0, none⟩) 1 1 _ true (ints_one_at' _ _ _ _ (by simp)) (by omega) (by rw [allB_one']; exact inB_true (by omega) (by omega))).mono ?_
        rintro e w' ⟨rfl, rfl⟩
        go_wp2
        have HW : Hid (Owns ((((w.alloc (.cells #[.int .i64 1] 3)).alloc (.cells #[.int .i64 o] 3)).alloc (.cells #[.int .i64 c] 3)).alloc (.cells (madeCells #[.int .i64 0] 2) 3)) w.heap.size (.slice (some ⟨w.heap.size + 1 + 1 + 1, 0, none⟩) 2 2) 2 (mix (List.replicate 2 s) (List.replicate 2 0) 0) ∧ w.grownBy ((((w.alloc (.cells #[.int .i64 1] 3)).alloc (.cells #[.int .i64 o] 3)).alloc (.cells #[.int .i64 c] 3)).alloc (.cells (madeCells #[.int .i64 0] 2) 3)) none) := by
          have h := zeros_own' (((w.alloc (.cells #[.int .i64 1] 3)).alloc (.cells #[.int .i64 o] 3)).alloc (.cells #[.int .i64 c] 3)) 2 (by omega)
          have h2 := h.base_le (base' := w.heap.size) (by simp; omega)
          rw [mix_zero]
          refine ⟨?_, grown_trans (grown_trans (grown_trans (grown_alloc _ _ _) (grown_alloc _ _ _)) (grown_alloc _ _ _)) (grown_alloc _ _ _)⟩
          rw [show (((w.alloc (.cells #[.int .i64 1] 3)).alloc (.cells #[.int .i64 o] 3)).alloc (.cells #[.int .i64 c] 3)).heap.size = w.heap.size + 1 + 1 + 1 by simp] at h2
          exact h2
        clear hmk
        go_loopw [50] (fun i wr => ∃ k : Nat, k ≤ 2 ∧ i = .int .i64 k ∧ Hid (Owns wr w.heap.size (.slice (some ⟨w.heap.size + 1 + 1 + 1, 0, none⟩) 2 2) 2 (mix (List.replicate 2 s) (List.replicate 2 0) k) ∧ w.grownBy wr none)) (fun i _ => 2 - (intOf i).toNat)
        case atStart => exact ⟨0, Nat.zero_le _, rfl, HW⟩
        case round =>
          clear HW
          obtain ⟨k, hk, rfl, HW⟩ := hrel
          by_cases hlt : k < 2
          · obtain ⟨z, hz⟩ := mix_get (zs := List.replicate 2 s) (ys := List.replicate 2 0) (n := 2) (by simp) (by simp) hlt
            obtain ⟨q1, q2⟩ := own_cell HW.out.1 hlt hz
            have HN := own_set (k := k) (z := s) HW.out.1 HW.out.2 (Nat.le_refl _)
            rw [mix_set (n := 2) (by simp) (by simp) hlt (by rw [List.getElem?_replicate, if_pos hlt])] at HN
            have HN2 := Lib.hid HN
            clear HW HN hz
            go_wp2
            go_roundw
            case rel => exact ⟨k + 1, by omega, by go_num, HN2⟩
            case measure => simp [intOf]; omega
          · obtain rfl : k = 2 := by omega
            have HO := HW.out
            rw [mix_full (n := 2) (by simp) (by simp)] at HO
            obtain ⟨q1, q2⟩ := own_cell (k := 0) HO.1 (by omega) (by rw [List.getElem?_replicate, if_pos (by omega)])
            have HN := Lib.hid (own_set (k := 0) (z := s - o) HO.1 HO.2 (Nat.le_refl _))
            clear HW HO
            go_wp2
            go_ret
            exact ⟨_, rfl, HN.out.1, HN.out.2⟩
      · have HE : Hid (psOkK 2 c o = false) := by
          cases h : psOkK 2 c o with
          | false => rfl
          | true => exfalso; obtain ⟨_, _, _, _, a5, a6⟩ := psOkK_of h; apply hok; exact ⟨by omega, by omega⟩
        rw [HE.out]
        by_cases d0 : (c + o) % 2 = 0
        · have d1 : s < o := by omega
          have d2 : s * 2 = c + o := by omega
          clear b0 b1 hok
          go_enter Try.func11, Try.ntmps11
          go_wp2_with fail
          refine (iAllIn_any [1] 0 3 (some ⟨w.heap.size, 0, none⟩) 1 1 _ true (ints_one_at' _ _ _ _ (by simp)) (by omega) (by rw [allB_one']; exact inB_true (by omega) (by omega))).mono ?_
          rintro e w' ⟨rfl, rfl⟩
          go_wp2_with fail
          refine (iAllIn_any [o] 0 8 (some ⟨w.heap.size + 1, 0, none⟩) 1 1 _ true (ints_one_at' _ _ _ _ (by simp)) (by omega) (by rw [allB_one']; exact inB_true (by omega) (by omega))).mono ?_
          rintro e w' ⟨rfl, rfl⟩
          go_wp2_with fail
          refine (iAllIn_any [c] 0 (64 - o) (some ⟨w.heap.size + 2, 0, none⟩) 1 1 _ true (ints_one_at' _ _ _ _ (by simp)) (by omega) (by rw [allB_one']; exact inB_true (by omega) (by omega))).mono ?_
          rintro e w' ⟨rfl, rfl⟩
          go_wp2
          go_ret
          exact ⟨_, rfl, World.ownsRow_nil _ _ _ _, grown_trans (grown_trans (grown_alloc _ _ _) (grown_alloc _ _ _)) (grown_alloc _ _ _)⟩
        · have d2 : s * 2 ≠ c + o := by omega
          clear b0 b1 hok
          go_enter Try.func11, Try.ntmps11
          go_wp2_with fail
          refine (iAllIn_any [1] 0 3 (some ⟨w.heap.size, 0, none⟩) 1 1 _ true (ints_one_at' _ _ _ _ (by simp)) (by omega) (by rw [allB_one']; exact inB_true (by omega) (by omega))).mono ?_
          rintro e w' ⟨rfl, rfl⟩
          go_wp2_with fail
          refine (iAllIn_any [o] 0 8 (some ⟨w.heap.size + 1, 0, none⟩) 1 1 _ true (ints_one_at' _ _ _ _ (by simp)) (by omega) (by rw [allB_one']; exact inB_true (by omega) (by omega))).mono ?_
          rintro e w' ⟨rfl, rfl⟩
          go_wp2_with fail
          refine (iAllIn_any [c] 0 (64 - o) (some ⟨w.heap.size + 2, 0, none⟩) 1 1 _ true (ints_one_at' _ _ _ _ (by simp)) (by omega) (by rw [allB_one']; exact inB_true (by omega) (by omega))).mono ?_
          rintro e w' ⟨rfl, rfl⟩
          go_wp2
          go_ret
          exact ⟨_, rfl, World.ownsRow_nil _ _ _ _, grown_trans (grown_trans (grown_alloc _ _ _) (grown_alloc _ _ _)) (grown_alloc _ _ _)⟩

set_option maxRecDepth 100000 in
set_option maxHeartbeats 4000000 in
theorem iPS2 (c o : Int) (w : World) : Calls Try.prog 11 #[.int .i64 c, .int .i64 o, .int .i64 2] w (Made (if psOkK 4 c o then psK 4 c o else []) (if psOkK 4 c o then 4 else 0) w) := by
  cases b0 : inB o 0 8 with
  | false =>
    have e : psOkK 4 c o = false := by unfold psOkK; rw [b0]; rfl
    rw [e]
    clear e
    go_enter Try.func11, Try.ntmps11
    go_wp2_with fail
    refine (iAllIn_any [2] 0 3 (some ⟨w.heap.size, 0, none⟩) 1 1 _ true (ints_one_at' _ _ _ _ (by simp)) (by omega) (by rw [allB_one']; exact inB_true (by omega) (by omega))).mono ?_
    rintro e w' ⟨rfl, rfl⟩
    go_wp2_with fail
    refine (iAllIn_any [o] 0 8 (some ⟨w.heap.size + 1, 0, none⟩) 1 1 _ false (ints_one_at' _ _ _ _ (by simp)) (by omega) (by rw [allB_one']; assumption)).mono ?_
    rintro e w' ⟨rfl, rfl⟩
    clear b0
    go_wp2
    go_ret
    exact ⟨_, rfl, World.ownsRow_nil _ _ _ _, grown_trans (grown_alloc _ _ _) (grown_alloc _ _ _)⟩
  | true =>
    have ho : 0 ≤ o ∧ o ≤ 8 := by simpa [inB] using b0
    have h0 := ho.1
    have h1 := ho.2
    clear ho
    cases b1 : inB c 0 (64 - o) with
    | false =>
      have e : psOkK 4 c o = false := by unfold psOkK; rw [b0, b1]; rfl
      rw [e]
      clear e b0
      go_enter Try.func11, Try.ntmps11
      go_wp2_with fail
      refine (iAllIn_any [2] 0 3 (some ⟨w.heap.size, 0, none⟩) 1 1 _ true (ints_one_at' _ _ _ _ (by simp)) (by omega) (by rw [allB_one']; exact inB_true (by omega) (by omega))).mono ?_
      rintro e w' ⟨rfl, rfl⟩
      go_wp2_with fail
      refine (iAllIn_any [o] 0 8 (some ⟨w.heap.size + 1, 0, none⟩) 1 1 _ true (ints_one_at' _ _ _ _ (by simp)) (by omega) (by rw [allB_one']; exact inB_true (by omega) (by omega))).mono ?_
      rintro e w' ⟨rfl, rfl⟩
      go_wp2_with fail
      refine (iAllIn_any [c] 0 (64 - o) (some ⟨w.heap.size + 2, 0, none⟩) 1 1 _ false (ints_one_at' _ _ _ _ (by simp)) (by omega) (by rw [allB_one']; assumption)).mono ?_
      rintro e w' ⟨rfl, rfl⟩
      clear b1
      go_wp2
      go_ret
      exact ⟨_, rfl, World.ownsRow_nil _ _ _ _, grown_trans (grown_trans (grown_alloc _ _ _) (grown_alloc _ _ _)) (grown_alloc _ _ _)⟩
    | true =>
      have hc : 0 ≤ c ∧ c ≤ 64 - o := by simpa [inB] using b1
      have h2 := hc.1
      have h3 := hc.2
      obtain ⟨s, hs⟩ : ∃ s, (c + o) / 4 = s := ⟨_, rfl⟩
      have s0 : 0 ≤ s := by omega
      have s1 : s ≤ 64 := by omega
      clear hc
      by_cases hok : (c + o) % 4 = 0 ∧ o ≤ s
      · have HE : Hid (psOkK 4 c o = true ∧ psK 4 c o = (List.replicate 4 s).set 0 (s - o)) := by
          refine ⟨?_, ?_⟩
          · unfold psOkK; rw [b0, b1, show decide ((c + o) % ((4 : Nat) : Int) = 0) = true from decide_eq_true (by have := hok.1; omega), show decide (o ≤ (c + o) / ((4 : Nat) : Int)) = true from decide_eq_true (by have := hok.2; omega)]; rfl
          · rw [← psK_set (by omega), show (c + o) / ((4 : Nat) : Int) = s from hs]
        have d0 := hok.1
        have d1 := hok.2
        have d2 : s * 4 = c + o := by omega
        have hmk : ∀ W : World, (Instr.makeSlice 25 (.int .i64 4) (.int .i64 4)).run Try.prog W = .ok (.slice (some ⟨W.heap.size, 0, none⟩) 4 4) (W.alloc (.cells (madeCells #[.int .i64 0] 4) 3)) := fun W => run_make_row' (P := Try.prog) 25 3 (.int .i64 0) 8 Try.underlying25 info_int rfl .i64 .i64 4 (by omega) (by omega) W
        rw [HE.out.1, HE.out.2]
        rw [if_pos rfl, if_pos rfl]
        clear b0 b1 hok
        
        
        go_enter Try.func11, Try.ntmps11
        go_wp2_with fail
        refine (iAllIn_any [2] 0 3 (some ⟨w.heap.size, 0, none⟩) 1 1 _ true (ints_one_at' _ _ _ _ (by simp)) (by omega) (by rw [allB_one']; exact inB_true (by omega) (by omega))).mono ?_
        rintro e w' ⟨rfl, rfl⟩
        go_wp2_with fail
        refine (iAllIn_any [o] 0 8 (some ⟨w.heap.size + 1, 0, none⟩) 1 1 _ true (ints_one_at' _ _ _ _ (by simp)) (by omega) (by rw [allB_one']; exact inB_true (by omega) (by omega))).mono ?_
        rintro e w' ⟨rfl, rfl⟩
        go_wp2_with fail
        refine (iAllIn_any [c] 0 (64 - o) (some ⟨w.heap.size + 2, 0, none⟩) 1 1 _ true (ints_one_at' _ _ _ _ (by simp)) (by omega) (by rw [allB_one']; exact inB_true (by omega) (by omega))).mono ?_
        rintro e w' ⟨rfl, rfl⟩
        go_wp2
        have HW : Hid (Owns ((((w.alloc (.cells #[.int .i64 2] 3)).alloc (.cells #[.int .i64 o] 3)).alloc (.cells #[.int .i64 c] 3)).alloc (.cells (madeCells #[.int .i64 0] 4) 3)) w.heap.size (.slice (some ⟨w.heap.size + 1 + 1 + 1, 0, none⟩) 4 4) 4 (mix (List.replicate 4 s) (List.replicate 4 0) 0) ∧ w.grownBy ((((w.alloc (.cells #[.int .i64 2] 3)).alloc (.cells #[.int .i64 o] 3)).alloc (.cells #[.int .i64 c] 3)).alloc (.cells (madeCells #[.int .i64 0] 4) 3)) none) := by
          have h := zeros_own' (((w.alloc (.cells #[.int .i64 2] 3)).alloc (.cells #[.int .i64 o] 3)).alloc (.cells #[.int .i64 c] 3)) 4 (by omega)
          have h2 := h.base_le (base' := w.heap.size) (by simp; omega)
          rw [mix_zero]
          refine ⟨?_, grown_trans (grown_trans (grown_trans (grown_alloc _ _ _) (grown_alloc _ _ _)) (grown_alloc _ _ _)) (grown_alloc _ _ _)⟩
          rw [show (((w.alloc (.cells #[.int .i64 2] 3)).alloc (.cells #[.int .i64 o] 3)).alloc (.cells #[.int .i64 c] 3)).heap.size = w.heap.size + 1 + 1 + 1 by simp] at h2
          exact h2
        clear hmk
        go_loopw [50] (fun i wr => ∃ k : Nat, k ≤ 4 ∧ i = .int .i64 k ∧ Hid (Owns wr w.heap.size (.slice (some ⟨w.heap.size + 1 + 1 + 1, 0, none⟩) 4 4) 4 (mix (List.replicate 4 s) (List.replicate 4 0) k) ∧ w.grownBy wr none)) (fun i _ => 4 - (intOf i).toNat)
        case atStart => exact ⟨0, Nat.zero_le _, rfl, HW⟩
        case round =>
          clear HW
          obtain ⟨k, hk, rfl, HW⟩ := hrel
          by_cases hlt : k < 4
          · obtain ⟨z, hz⟩ := mix_get (zs := List.replicate 4 s) (ys := List.replicate 4 0) (n := 4) (by simp) (by simp) hlt
            obtain ⟨q1, q2⟩ := own_cell HW.out.1 hlt hz
            have HN := own_set (k := k) (z := s) HW.out.1 HW.out.2 (Nat.le_refl _)
            rw [mix_set (n := 4) (by simp) (by simp) hlt (by rw [List.getElem?_replicate, if_pos hlt])] at HN
            have HN2 := Lib.hid HN
            clear HW HN hz
            go_wp2
            go_roundw
            case rel => exact ⟨k + 1, by omega, by go_num, HN2⟩
            case measure => simp [intOf]; omega
          · obtain rfl : k = 4 := by omega
            have HO := HW.out
            rw [mix_full (n := 4) (by simp) (by simp)] at HO
            obtain ⟨q1, q2⟩ := own_cell (k := 0) HO.1 (by omega) (by rw [List.getElem?_replicate, if_pos (by omega)])
            have HN := Lib.hid (own_set (k := 0) (z := s - o) HO.1 HO.2 (Nat.le_refl _))
            clear HW HO
            go_wp2
            go_ret
            exact ⟨_, rfl, HN.out.1, HN.out.2⟩
      · have HE : Hid (psOkK 4 c o = false) := by
          cases h : psOkK 4 c o with
          | false => rfl
          | true => exfalso; obtain ⟨_, _, _, _, a5, a6⟩ := psOkK_of h; apply hok; exact ⟨by omega, by omega⟩
        rw [HE.out]
        by_cases d0 : (c + o) % 4 = 0
        · have d1 : s < o := by omega
          have d2 : s * 4 = c + o := by omega
          clear b0 b1 hok
          go_enter Try.func11, Try.ntmps11
          go_wp2_with fail
          refine (iAllIn_any [2] 0 3 (some ⟨w.heap.size, 0, none⟩) 1 1 _ true (ints_one_at' _ _ _ _ (by simp)) (by omega) (by rw [allB_one']; exact inB_true (by omega) (by omega))).mono ?_
          rintro e w' ⟨rfl, rfl⟩
          go_wp2_with fail
          refine (iAllIn_any [o] 0 8 (some ⟨w.heap.size + 1, 0, none⟩) 1 1 _ true (ints_one_at' _ _ _ _ (by simp)) (by omega) (by rw [allB_one']; exact inB_true (by omega) (by omega))).mono ?_
          rintro e w' ⟨rfl, rfl⟩
          go_wp2_with fail
          refine (iAllIn_any [c] 0 (64 - o) (some ⟨w.heap.size + 2, 0, none⟩) 1 1 _ true (ints_one_at' _ _ _ _ (by simp)) (by omega) (by rw [allB_one']; exact inB_true (by omega) (by omega))).mono ?_
          rintro e w' ⟨rfl, rfl⟩
          go_wp2
          go_ret
          exact ⟨_, rfl, World.ownsRow_nil _ _ _ _, grown_trans (grown_trans (grown_alloc _ _ _) (grown_alloc _ _ _)) (grown_alloc _ _ _)⟩
        · have d2 : s * 4 ≠ c + o := by omega
          clear b0 b1 hok
          go_enter Try.func11, Try.ntmps11
          go_wp2_with fail
          refine (iAllIn_any [2] 0 3 (some ⟨w.heap.size, 0, none⟩) 1 1 _ true (ints_one_at' _ _ _ _ (by simp)) (by omega) (by rw [allB_one']; exact inB_true (by omega) (by omega))).mono ?_
          rintro e w' ⟨rfl, rfl⟩
          go_wp2_with fail
          refine (iAllIn_any [o] 0 8 (some ⟨w.heap.size + 1, 0, none⟩) 1 1 _ true (ints_one_at' _ _ _ _ (by simp)) (by omega) (by rw [allB_one']; exact inB_true (by omega) (by omega))).mono ?_
          rintro e w' ⟨rfl, rfl⟩
          go_wp2_with fail
          refine (iAllIn_any [c] 0 (64 - o) (some ⟨w.heap.size + 2, 0, none⟩) 1 1 _ true (ints_one_at' _ _ _ _ (by simp)) (by omega) (by rw [allB_one']; exact inB_true (by omega) (by omega))).mono ?_
          rintro e w' ⟨rfl, rfl⟩
          go_wp2
          go_ret
          exact ⟨_, rfl, World.ownsRow_nil _ _ _ _, grown_trans (grown_trans (grown_alloc _ _ _) (grown_alloc _ _ _)) (grown_alloc _ _ _)⟩

set_option maxRecDepth 100000 in
set_option maxHeartbeats 4000000 in
theorem iPS3 (c o : Int) (w : World) : Calls Try.prog 11 #[.int .i64 c, .int .i64 o, .int .i64 3] w (Made (if psOkK 8 c o then psK 8 c o else []) (if psOkK 8 c o then 8 else 0) w) := by
  cases b0 : inB o 0 8 with
  | false =>
    have e : psOkK 8 c o = false := by unfold psOkK; rw [b0]; rfl
    rw [e]
    clear e
    go_enter Try.func11, Try.ntmps11
    go_wp2_with fail
    refine (iAllIn_any [3] 0 3 (some ⟨w.heap.size, 0, none⟩) 1 1 _ true (ints_one_at' _ _ _ _ (by simp)) (by omega) (by rw [allB_one']; exact inB_true (by omega) (by omega))).mono ?_
    rintro e w' ⟨rfl, rfl⟩
    go_wp2_with fail
    refine (iAllIn_any [o] 0 8 (some ⟨w.heap.size + 1, 0, none⟩) 1 1 _ false (ints_one_at' _ _ _ _ (by simp)) (by omega) (by rw [allB_one']; assumption)).mono ?_
    rintro e w' ⟨rfl, rfl⟩
    clear b0
    go_wp2
    go_ret
    exact ⟨_, rfl, World.ownsRow_nil _ _ _ _, grown_trans (grown_alloc _ _ _) (grown_alloc _ _ _)⟩
  | true =>
    have ho : 0 ≤ o ∧ o ≤ 8 := by simpa [inB] using b0
    have h0 := ho.1
    have h1 := ho.2
    clear ho
    cases b1 : inB c 0 (64 - o) with
    | false =>
      have e : psOkK 8 c o = false := by unfold psOkK; rw [b0, b1]; rfl
      rw [e]
      clear e b0
      go_enter Try.func11, Try.ntmps11
      go_wp2_with fail
      refine (iAllIn_any [3] 0 3 (some ⟨w.heap.size, 0, none⟩) 1 1 _ true (ints_one_at' _ _ _ _ (by simp)) (by omega) (by rw [allB_one']; exact inB_true (by omega) (by omega))).mono ?_
      rintro e w' ⟨rfl, rfl⟩
      go_wp2_with fail
      refine (iAllIn_any [o] 0 8 (some ⟨w.heap.size + 1, 0, none⟩) 1 1 _ true (ints_one_at' _ _ _ _ (by simp)) (by omega) (by rw [allB_one']; exact inB_true (by omega) (by omega))).mono ?_
      rintro e w' ⟨rfl, rfl⟩
      go_wp2_with fail
      refine (iAllIn_any [c] 0 (64 - o) (some ⟨w.heap.size + 2, 0, none⟩) 1 1 _ false (ints_one_at' _ _ _ _ (by simp)) (by omega) (by rw [allB_one']; assumption)).mono ?_
      rintro e w' ⟨rfl, rfl⟩
      clear b1
      go_wp2
      go_ret
      exact ⟨_, rfl, World.ownsRow_nil _ _ _ _, grown_trans (grown_trans (grown_alloc _ _ _) (grown_alloc _ _ _)) (grown_alloc _ _ _)⟩
    | true =>
      have hc : 0 ≤ c ∧ c ≤ 64 - o := by simpa [inB] using b1
      have h2 := hc.1
      have h3 := hc.2
      obtain ⟨s, hs⟩ : ∃ s, (c + o) / 8 = s := ⟨_, rfl⟩
      have s0 : 0 ≤ s := by omega
      have s1 : s ≤ 64 := by omega
      clear hc
      by_cases hok : (c + o) % 8 = 0 ∧ o ≤ s
      · have HE : Hid (psOkK 8 c o = true ∧ psK 8 c o = (List.replicate 8 s).set 0 (s - o)) := by
          refine ⟨?_, ?_⟩
          · unfold psOkK; rw [b0, b1, show decide ((c + o) % ((8 : Nat) : Int) = 0) = true from decide_eq_true (by have := hok.1; omega), show decide (o ≤ (c + o) / ((8 : Nat) : Int)) = true from decide_eq_true (by have := hok.2; omega)]; rfl
          · rw [← psK_set (by omega), show (c + o) / ((8 : Nat) : Int) = s from hs]
        have d0 := hok.1
        have d1 := hok.2
        have d2 : s * 8 = c + o := by omega
        have hmk : ∀ W : World, (Instr.makeSlice 25 (.int .i64 8) (.int .i64 8)).run Try.prog W = .ok (.slice (some ⟨W.heap.size, 0, none⟩) 8 8) (W.alloc (.cells (madeCells #[.int .i64 0] 8) 3)) := fun W => run_make_row' (P := Try.prog) 25 3 (.int .i64 0) 8 Try.underlying25 info_int rfl .i64 .i64 8 (by omega) (by omega) W
        rw [HE.out.1, HE.out.2]
        rw [if_pos rfl, if_pos rfl]
        clear b0 b1 hok
        
        
        go_enter Try.func11, Try.ntmps11
        go_wp2_with fail
        refine (iAllIn_any [3] 0 3 (some ⟨w.heap.size, 0, none⟩) 1 1 _ true (ints_one_at' _ _ _ _ (by simp)) (by omega) (by rw [allB_one']; exact inB_true (by omega) (by omega))).mono ?_
        rintro e w' ⟨rfl, rfl⟩
        go_wp2_with fail
        refine (iAllIn_any [o] 0 8 (some ⟨w.heap.size + 1, 0, none⟩) 1 1 _ true (ints_one_at' _ _ _ _ (by simp)) (by omega) (by rw [allB_one']; exact inB_true (by omega) (by omega))).mono ?_
        rintro e w' ⟨rfl, rfl⟩
        go_wp2_with fail
        refine (iAllIn_any [c] 0 (64 - o) (some ⟨w.heap.size + 2, 0, none⟩) 1 1 _ true (ints_one_at' _ _ _ _ (by simp)) (by omega) (by rw [allB_one']; exact inB_true (by omega) (by omega))).mono ?_
        rintro e w' ⟨rfl, rfl⟩
        go_wp2
        have HW : Hid (Owns ((((w.alloc (.cells #[.int .i64 3] 3)).alloc (.cells #[.int .i64 o] 3)).alloc (.cells #[.int .i64 c] 3)).alloc (.cells (madeCells #[.int .i64 0] 8) 3)) w.heap.size (.slice (some ⟨w.heap.size + 1 + 1 + 1, 0, none⟩) 8 8) 8 (mix (List.replicate 8 s) (List.replicate 8 0) 0) ∧ w.grownBy ((((w.alloc (.cells #[.int .i64 3] 3)).alloc (.cells #[.int .i64 o] 3)).alloc (.cells #[.int .i64 c] 3)).alloc (.cells (madeCells #[.int .i64 0] 8) 3)) none) := by
          have h := zeros_own' (((w.alloc (.cells #[.int .i64 3] 3)).alloc (.cells #[.int .i64 o] 3)).alloc (.cells #[.int .i64 c] 3)) 8 (by omega)
          have h2 := h.base_le (base' := w.heap.size) (by simp; omega)
          rw [mix_zero]
          refine ⟨?_, grown_trans (grown_trans (grown_trans (grown_alloc _ _ _) (grown_alloc _ _ _)) (grown_alloc _ _ _)) (grown_alloc _ _ _)⟩
          rw [show (((w.alloc (.cells #[.int .i64 3] 3)).alloc (.cells #[.int .i64 o] 3)).alloc (.cells #[.int .i64 c] 3)).heap.size = w.heap.size + 1 + 1 + 1 by simp] at h2
          exact h2
        clear hmk
        go_loopw [50] (fun i wr => ∃ k : Nat, k ≤ 8 ∧ i = .int .i64 k ∧ Hid (Owns wr w.heap.size (.slice (some ⟨w.heap.size + 1 + 1 + 1, 0, none⟩) 8 8) 8 (mix (List.replicate 8 s) (List.replicate 8 0) k) ∧ w.grownBy wr none)) (fun i _ => 8 - (intOf i).toNat)
        case atStart => exact ⟨0, Nat.zero_le _, rfl, HW⟩
        case round =>
          clear HW
          obtain ⟨k, hk, rfl, HW⟩ := hrel
          by_cases hlt : k < 8
          · obtain ⟨z, hz⟩ := mix_get (zs := List.replicate 8 s) (ys := List.replicate 8 0) (n := 8) (by simp) (by simp) hlt
            obtain ⟨q1, q2⟩ := own_cell HW.out.1 hlt hz
            have HN := own_set (k := k) (z := s) HW.out.1 HW.out.2 (Nat.le_refl _)
            rw [mix_set (n := 8) (by simp) (by simp) hlt (by rw [List.getElem?_replicate, if_pos hlt])] at HN
            have HN2 := Lib.hid HN
            clear HW HN hz
            go_wp2
            go_roundw
            case rel => exact ⟨k + 1, by omega, by go_num, HN2⟩
            case measure => simp [intOf]; omega
          · obtain rfl : k = 8 := by omega
            have HO := HW.out
            rw [mix_full (n := 8) (by simp) (by simp)] at HO
            obtain ⟨q1, q2⟩ := own_cell (k := 0) HO.1 (by omega) (by rw [List.getElem?_replicate, if_pos (by omega)])
            have HN := Lib.hid (own_set (k := 0) (z := s - o) HO.1 HO.2 (Nat.le_refl _))
            clear HW HO
            go_wp2
            go_ret
            exact ⟨_, rfl, HN.out.1, HN.out.2⟩
      · have HE : Hid (psOkK 8 c o = false) := by
          cases h : psOkK 8 c o with
          | false => rfl
          | true => exfalso; obtain ⟨_, _, _, _, a5, a6⟩ := psOkK_of h; apply hok; exact ⟨by omega, by omega⟩
        rw [HE.out]
        by_cases d0 : (c + o) % 8 = 0
        · have d1 : s < o := by omega
          have d2 : s * 8 = c + o := by omega
          clear b0 b1 hok
          go_enter Try.func11, Try.ntmps11
          go_wp2_with fail
          refine (iAllIn_any [3] 0 3 (some ⟨w.heap.size, 0, none⟩) 1 1 _ true (ints_one_at' _ _ _ _ (by simp)) (by omega) (by rw [allB_one']; exact inB_true (by omega) (by omega))).mono ?_
          rintro e w' ⟨rfl, rfl⟩
          go_wp2_with fail
          refine (iAllIn_any [o] 0 8 (some ⟨w.heap.size + 1, 0, none⟩) 1 1 _ true (ints_one_at' _ _ _ _ (by simp)) (by omega) (by rw [allB_one']; exact inB_true (by omega) (by omega))).mono ?_
          rintro e w' ⟨rfl, rfl⟩
          go_wp2_with fail
          refine (iAllIn_any [c] 0 (64 - o) (some ⟨w.heap.size + 2, 0, none⟩) 1 1 _ true (ints_one_at' _ _ _ _ (by simp)) (by omega) (by rw [allB_one']; exact inB_true (by omega) (by omega))).mono ?_
          rintro e w' ⟨rfl, rfl⟩
          go_wp2
          go_ret
          exact ⟨_, rfl, World.ownsRow_nil _ _ _ _, grown_trans (grown_trans (grown_alloc _ _ _) (grown_alloc _ _ _)) (grown_alloc _ _ _)⟩
        · have d2 : s * 8 ≠ c + o := by omega
          clear b0 b1 hok
          go_enter Try.func11, Try.ntmps11
          go_wp2_with fail
          refine (iAllIn_any [3] 0 3 (some ⟨w.heap.size, 0, none⟩) 1 1 _ true (ints_one_at' _ _ _ _ (by simp)) (by omega) (by rw [allB_one']; exact inB_true (by omega) (by omega))).mono ?_
          rintro e w' ⟨rfl, rfl⟩
          go_wp2_with fail
          refine (iAllIn_any [o] 0 8 (some ⟨w.heap.size + 1, 0, none⟩) 1 1 _ true (ints_one_at' _ _ _ _ (by simp)) (by omega) (by rw [allB_one']; exact inB_true (by omega) (by omega))).mono ?_
          rintro e w' ⟨rfl, rfl⟩
          go_wp2_with fail
          refine (iAllIn_any [c] 0 (64 - o) (some ⟨w.heap.size + 2, 0, none⟩) 1 1 _ true (ints_one_at' _ _ _ _ (by simp)) (by omega) (by rw [allB_one']; exact inB_true (by omega) (by omega))).mono ?_
          rintro e w' ⟨rfl, rfl⟩
          go_wp2
          go_ret
          exact ⟨_, rfl, World.ownsRow_nil _ _ _ _, grown_trans (grown_trans (grown_alloc _ _ _) (grown_alloc _ _ _)) (grown_alloc _ _ _)⟩

set_option maxHeartbeats 1000000 in
theorem iPS_any (c o p : Int) (w : World) : Calls Try.prog 11 #[.int .i64 c, .int .i64 o, .int .i64 p] w (Made (psL c o p) (psN c o p) w) := by
  by_cases hp : 0 ≤ p ∧ p ≤ 3
  · rcases p_four hp with rfl | rfl | rfl | rfl
    · exact iPS0 c o w
    · exact iPS1 c o w
    · exact iPS2 c o w
    · exact iPS3 c o w
  · have b0 : inB p 0 3 = false := inB_false (by omega)
    have e : psOk c o p = false := by unfold psOk; rw [b0]; rfl
    unfold psL psN
    rw [e]
    clear hp e
    go_enter Try.func11, Try.ntmps11
    go_wp2_with fail
    refine (iAllIn_any [p] 0 3 (some ⟨w.heap.size, 0, none⟩) 1 1 _ false (ints_one_at' _ _ _ _ (by simp)) (by omega) (by rw [allB_one']; assumption)).mono ?_
    rintro e w' ⟨rfl, rfl⟩
    clear b0
    go_wp2
    go_ret
    exact ⟨_, rfl, World.ownsRow_nil _ _ _ _, grown_alloc _ _ _⟩
theorem psN_le (c o p : Int) : psN c o p ≤ 8 := by
  unfold psN
  split
  · rename_i h
    obtain ⟨h1, h2, _⟩ := psOk_of h
    rcases p_four ⟨h1, h2⟩ with rfl | rfl | rfl | rfl <;> decide
  · omega

end Go.Proofs.Ytikblehndmikoaa
