/-
  PartitionSizes of both texts, for all arguments.
-/
import Derived.Test.YtikblehndmikoaaOwn
import Derived.Test.YtikblehndmikoaaILin
import Derived.Test.YtikblehndmikoaaMem2
import Derived.Test.YtikblehndmikoaaStA
import Derived.Deep.LoopGhost
import Derived.IntWalk
namespace Go.Proofs.Ytikblehndmikoaa
open Go.RowKit

/-- The sizes of K partitions. -/
def psK (K : Nat) (c o : Int) : List Int := ((c + o) / (K : Int) - o) :: List.replicate (K - 1) ((c + o) / (K : Int))
def psOkK (K : Nat) (c o : Int) : Bool := inB o 0 8 && inB c 0 (64 - o) && decide ((c + o) % (K : Int) = 0) && decide (o ≤ (c + o) / (K : Int))
def psOk (c o p : Int) : Bool := inB p 0 3 && psOkK (2 ^ p.toNat) c o
def psL (c o p : Int) : List Int := if psOk c o p then psK (2 ^ p.toNat) c o else []
def psN (c o p : Int) : Nat := if psOk c o p then 2 ^ p.toNat else 0
theorem psK_len {K : Nat} (hK : 0 < K) (c o : Int) : (psK K c o).length = K := by simp [psK]; omega
theorem psK_zero (K : Nat) (c o : Int) : (psK K c o)[0]? = some ((c + o) / (K : Int) - o) := rfl
theorem psK_pos {K k : Nat} (c o : Int) (h0 : 0 < k) (hk : k < K) : (psK K c o)[k]? = some ((c + o) / (K : Int)) := by
  obtain ⟨j, rfl⟩ : ∃ j, k = j + 1 := ⟨k - 1, by omega⟩
  unfold psK
  rw [List.getElem?_cons_succ, List.getElem?_replicate, if_pos (by omega)]
theorem psK_set {K : Nat} (hK : 0 < K) (c o : Int) : (List.replicate K ((c + o) / (K : Int))).set 0 ((c + o) / (K : Int) - o) = psK K c o := by
  obtain ⟨j, rfl⟩ : ∃ j, K = j + 1 := ⟨K - 1, by omega⟩
  rw [List.replicate_succ, List.set_cons_zero]; rfl
theorem psOkK_of {K : Nat} {c o : Int} (h : psOkK K c o = true) : 0 ≤ o ∧ o ≤ 8 ∧ 0 ≤ c ∧ c ≤ 64 - o ∧ (c + o) % (K : Int) = 0 ∧ o ≤ (c + o) / (K : Int) := by
  unfold psOkK at h
  simp only [Bool.and_eq_true, decide_eq_true_eq] at h
  have h1 : 0 ≤ o ∧ o ≤ 8 := by simpa [inB] using h.1.1.1
  have h2 : 0 ≤ c ∧ c ≤ 64 - o := by simpa [inB] using h.1.1.2
  exact ⟨h1.1, h1.2, h2.1, h2.2, h.1.2, h.2⟩
theorem ints_one_at' (w : World) (x : Int) (t : TypeId) (B : Nat) (h : w.heap.size = B) : Ints (w.alloc (.cells #[.int .i64 x] t)) (some ⟨B, 0, none⟩) 1 [x] := by
  subst h; exact ints_one w x t
theorem allB_one' (x lo hi : Int) : allB [x] lo hi = inB x lo hi := by simp [allB]

set_option maxRecDepth 100000 in
set_option maxHeartbeats 2000000 in
theorem sPSL0 (c o : Int) (w : World) (h0 : 0 ≤ o) (h1 : o ≤ 8) (h2 : 0 ≤ c) (h3 : c ≤ 64 - o) :
    Calls Try.prog 31 #[.int .i64 c, .int .i64 o, .int .i64 0] w (Made (psK 1 c o) 1 w) := by
  obtain ⟨s, hs⟩ : ∃ s, (c + o) / 1 = s := ⟨_, rfl⟩
  have s0 : 0 ≤ s := by omega
  have s1 : s ≤ 64 := by omega
  have HW : Hid (Owns (w.alloc (.cells #[] 3)) w.heap.size (.slice (some ⟨w.heap.size, 0, none⟩) 0 0) 0 ((psK 1 c o).take 0) ∧ w.grownBy (w.alloc (.cells #[] 3)) none) := ⟨by simpa using owns_empty w, grown_alloc _ _ _⟩
  have HS := Lib.hid hs
  obtain rfl : c + o = s := by omega
  clear hs
  go_enter Try.func31, Try.ntmps31
  go_wp2
  go_loopw [7, 8] (fun u i wr => ∃ (k : Nat) (v : Value), v = u ∧ k ≤ 1 ∧ i = .int .i64 k ∧ Hid (Owns wr w.heap.size v k ((psK 1 c o).take k) ∧ w.grownBy wr none)) (fun _ i _ => 1 - (intOf i).toNat)
  case atStart => exact ⟨0, _, rfl, Nat.zero_le _, rfl, HW⟩
  case round =>
    clear HW
    obtain ⟨k, v, rfl, hk, rfl, HR⟩ := hrel
    have hsz := HR.out.2.size
    by_cases hlt : k < 1
    · by_cases hz : k = 0
      · subst hz
        go_wp2_with (at_builtin; refine append_ints rfl _ _ rfl w.heap.size v 0 _ rfl (HR.out.1.grown (grown_alloc _ _ _)) (some ⟨wr.heap.size, 0, none⟩) 1 1 [c] rfl (ints_one _ _ _) (fun e => nomatch e) ?a1 ?a2 ?_)
        case a1 => omega
        case a2 => simp; omega
        intro v2 w2 hown hgrow
        have HN : Hid (Owns w2 w.heap.size v2 (0 + 1) ((psK 1 c o).take (0 + 1)) ∧ w.grownBy w2 none) := by
          refine ⟨?_, grown_row (grown_trans HR.out.2 (grown_alloc _ _ _)) hgrow (fun g e => Owns.block HR.out.1 g e)⟩
          rw [List.take_add_one, psK_zero]
          have e := HS.out
          rw [show (c + o) / ((1 : Nat) : Int) - o = c by omega]
          exact hown
        clear hown hgrow HR
        go_wp2
        go_roundw
        case rel => exact ⟨0 + 1, v2, rfl, by omega, by go_num, HN⟩
        case measure => simp [intOf]
      · exfalso; omega
    · obtain rfl : k = 1 := by omega
      have HF : Hid (Owns wr w.heap.size v 1 (psK 1 c o) ∧ w.grownBy wr none) := by
        have := HR.out
        rw [List.take_of_length_le (by rw [psK_len (by omega)]; exact Nat.le_refl _)] at this
        exact this
      clear HR
      go_wp2
      go_ret
      exact ⟨_, rfl, HF.out⟩

set_option maxRecDepth 100000 in
set_option maxHeartbeats 2000000 in
theorem sPSL1 (c o : Int) (w : World) (h0 : 0 ≤ o) (h1 : o ≤ 8) (h2 : 0 ≤ c) (h3 : c ≤ 64 - o) :
    Calls Try.prog 31 #[.int .i64 c, .int .i64 o, .int .i64 1] w (Made (psK 2 c o) 2 w) := by
  obtain ⟨s, hs⟩ : ∃ s, (c + o) / 2 = s := ⟨_, rfl⟩
  have s0 : 0 ≤ s := by omega
  have s1 : s ≤ 64 := by omega
  have HW : Hid (Owns (w.alloc (.cells #[] 3)) w.heap.size (.slice (some ⟨w.heap.size, 0, none⟩) 0 0) 0 ((psK 2 c o).take 0) ∧ w.grownBy (w.alloc (.cells #[] 3)) none) := ⟨by simpa using owns_empty w, grown_alloc _ _ _⟩
  have HS := Lib.hid hs
  
  
  go_enter Try.func31, Try.ntmps31
  go_wp2
  go_loopw [7, 8] (fun u i wr => ∃ (k : Nat) (v : Value), v = u ∧ k ≤ 2 ∧ i = .int .i64 k ∧ Hid (Owns wr w.heap.size v k ((psK 2 c o).take k) ∧ w.grownBy wr none)) (fun _ i _ => 2 - (intOf i).toNat)
  case atStart => exact ⟨0, _, rfl, Nat.zero_le _, rfl, HW⟩
  case round =>
    clear HW
    obtain ⟨k, v, rfl, hk, rfl, HR⟩ := hrel
    have hsz := HR.out.2.size
    by_cases hlt : k < 2
    · by_cases hz : k = 0
      · subst hz
        go_wp2_with (at_builtin; refine append_ints rfl _ _ rfl w.heap.size v 0 _ rfl (HR.out.1.grown (grown_alloc _ _ _)) (some ⟨wr.heap.size, 0, none⟩) 1 1 [s - o] rfl (ints_one _ _ _) (fun e => nomatch e) ?a1 ?a2 ?_)
        case a1 => omega
        case a2 => simp; omega
        intro v2 w2 hown hgrow
        have HN : Hid (Owns w2 w.heap.size v2 (0 + 1) ((psK 2 c o).take (0 + 1)) ∧ w.grownBy w2 none) := by
          refine ⟨?_, grown_row (grown_trans HR.out.2 (grown_alloc _ _ _)) hgrow (fun g e => Owns.block HR.out.1 g e)⟩
          rw [List.take_add_one, psK_zero]
          have e := HS.out
          rw [show (c + o) / ((2 : Nat) : Int) - o = s - o by rw [show (c + o) / ((2 : Nat) : Int) = s from e]]
          exact hown
        clear hown hgrow HR
        go_wp2
        go_roundw
        case rel => exact ⟨0 + 1, v2, rfl, by omega, by go_num, HN⟩
        case measure => simp [intOf]
      · have hz' : ((k : Int) == 0) = false := by simp; omega
        have hk0 : 0 < k := by omega
        go_wp2_with (at_builtin; refine append_ints rfl _ _ rfl w.heap.size v k _ rfl (HR.out.1.grown (grown_alloc _ _ _)) (some ⟨wr.heap.size, 0, none⟩) 1 1 [s] rfl (ints_one _ _ _) (fun e => nomatch e) ?a1 ?a2 ?_)
        case a1 => omega
        case a2 => simp; omega
        intro v2 w2 hown hgrow
        have HN : Hid (Owns w2 w.heap.size v2 (k + 1) ((psK 2 c o).take (k + 1)) ∧ w.grownBy w2 none) := by
          refine ⟨?_, grown_row (grown_trans HR.out.2 (grown_alloc _ _ _)) hgrow (fun g e => Owns.block HR.out.1 g e)⟩
          rw [List.take_add_one, psK_pos c o hk0 hlt]
          have e := HS.out
          rw [show (c + o) / ((2 : Nat) : Int) = s by exact e]
          exact hown
        clear hown hgrow HR
        go_wp2
        go_roundw
        case rel => exact ⟨k + 1, v2, rfl, by omega, by go_num, HN⟩
        case measure => simp [intOf]; omega
    · obtain rfl : k = 2 := by omega
      have HF : Hid (Owns wr w.heap.size v 2 (psK 2 c o) ∧ w.grownBy wr none) := by
        have := HR.out
        rw [List.take_of_length_le (by rw [psK_len (by omega)]; exact Nat.le_refl _)] at this
        exact this
      clear HR
      go_wp2
      go_ret
      exact ⟨_, rfl, HF.out⟩

set_option maxRecDepth 100000 in
set_option maxHeartbeats 2000000 in
theorem sPSL2 (c o : Int) (w : World) (h0 : 0 ≤ o) (h1 : o ≤ 8) (h2 : 0 ≤ c) (h3 : c ≤ 64 - o) :
    Calls Try.prog 31 #[.int .i64 c, .int .i64 o, .int .i64 2] w (Made (psK 4 c o) 4 w) := by
  obtain ⟨s, hs⟩ : ∃ s, (c + o) / 4 = s := ⟨_, rfl⟩
  have s0 : 0 ≤ s := by omega
  have s1 : s ≤ 64 := by omega
  have HW : Hid (Owns (w.alloc (.cells #[] 3)) w.heap.size (.slice (some ⟨w.heap.size, 0, none⟩) 0 0) 0 ((psK 4 c o).take 0) ∧ w.grownBy (w.alloc (.cells #[] 3)) none) := ⟨by simpa using owns_empty w, grown_alloc _ _ _⟩
  have HS := Lib.hid hs
  
  
  go_enter Try.func31, Try.ntmps31
  go_wp2
  go_loopw [7, 8] (fun u i wr => ∃ (k : Nat) (v : Value), v = u ∧ k ≤ 4 ∧ i = .int .i64 k ∧ Hid (Owns wr w.heap.size v k ((psK 4 c o).take k) ∧ w.grownBy wr none)) (fun _ i _ => 4 - (intOf i).toNat)
  case atStart => exact ⟨0, _, rfl, Nat.zero_le _, rfl, HW⟩
  case round =>
    clear HW
    obtain ⟨k, v, rfl, hk, rfl, HR⟩ := hrel
    have hsz := HR.out.2.size
    by_cases hlt : k < 4
    · by_cases hz : k = 0
      · subst hz
        go_wp2_with (at_builtin; refine append_ints rfl _ _ rfl w.heap.size v 0 _ rfl (HR.out.1.grown (grown_alloc _ _ _)) (some ⟨wr.heap.size, 0, none⟩) 1 1 [s - o] rfl (ints_one _ _ _) (fun e => nomatch e) ?a1 ?a2 ?_)
        case a1 => omega
        case a2 => simp; omega
        intro v2 w2 hown hgrow
        have HN : Hid (Owns w2 w.heap.size v2 (0 + 1) ((psK 4 c o).take (0 + 1)) ∧ w.grownBy w2 none) := by
          refine ⟨?_, grown_row (grown_trans HR.out.2 (grown_alloc _ _ _)) hgrow (fun g e => Owns.block HR.out.1 g e)⟩
          rw [List.take_add_one, psK_zero]
          have e := HS.out
          rw [show (c + o) / ((4 : Nat) : Int) - o = s - o by rw [show (c + o) / ((4 : Nat) : Int) = s from e]]
          exact hown
        clear hown hgrow HR
        go_wp2
        go_roundw
        case rel => exact ⟨0 + 1, v2, rfl, by omega, by go_num, HN⟩
        case measure => simp [intOf]
      · have hz' : ((k : Int) == 0) = false := by simp; omega
        have hk0 : 0 < k := by omega
        go_wp2_with (at_builtin; refine append_ints rfl _ _ rfl w.heap.size v k _ rfl (HR.out.1.grown (grown_alloc _ _ _)) (some ⟨wr.heap.size, 0, none⟩) 1 1 [s] rfl (ints_one _ _ _) (fun e => nomatch e) ?a1 ?a2 ?_)
        case a1 => omega
        case a2 => simp; omega
        intro v2 w2 hown hgrow
        have HN : Hid (Owns w2 w.heap.size v2 (k + 1) ((psK 4 c o).take (k + 1)) ∧ w.grownBy w2 none) := by
          refine ⟨?_, grown_row (grown_trans HR.out.2 (grown_alloc _ _ _)) hgrow (fun g e => Owns.block HR.out.1 g e)⟩
          rw [List.take_add_one, psK_pos c o hk0 hlt]
          have e := HS.out
          rw [show (c + o) / ((4 : Nat) : Int) = s by exact e]
          exact hown
        clear hown hgrow HR
        go_wp2
        go_roundw
        case rel => exact ⟨k + 1, v2, rfl, by omega, by go_num, HN⟩
        case measure => simp [intOf]; omega
    · obtain rfl : k = 4 := by omega
      have HF : Hid (Owns wr w.heap.size v 4 (psK 4 c o) ∧ w.grownBy wr none) := by
        have := HR.out
        rw [List.take_of_length_le (by rw [psK_len (by omega)]; exact Nat.le_refl _)] at this
        exact this
      clear HR
      go_wp2
      go_ret
      exact ⟨_, rfl, HF.out⟩

set_option maxRecDepth 100000 in
set_option maxHeartbeats 2000000 in
theorem sPSL3 (c o : Int) (w : World) (h0 : 0 ≤ o) (h1 : o ≤ 8) (h2 : 0 ≤ c) (h3 : c ≤ 64 - o) :
    Calls Try.prog 31 #[.int .i64 c, .int .i64 o, .int .i64 3] w (Made (psK 8 c o) 8 w) := by
  obtain ⟨s, hs⟩ : ∃ s, (c + o) / 8 = s := ⟨_, rfl⟩
  have s0 : 0 ≤ s := by omega
  have s1 : s ≤ 64 := by omega
  have HW : Hid (Owns (w.alloc (.cells #[] 3)) w.heap.size (.slice (some ⟨w.heap.size, 0, none⟩) 0 0) 0 ((psK 8 c o).take 0) ∧ w.grownBy (w.alloc (.cells #[] 3)) none) := ⟨by simpa using owns_empty w, grown_alloc _ _ _⟩
  have HS := Lib.hid hs
  
  
  go_enter Try.func31, Try.ntmps31
  go_wp2
  go_loopw [7, 8] (fun u i wr => ∃ (k : Nat) (v : Value), v = u ∧ k ≤ 8 ∧ i = .int .i64 k ∧ Hid (Owns wr w.heap.size v k ((psK 8 c o).take k) ∧ w.grownBy wr none)) (fun _ i _ => 8 - (intOf i).toNat)
  case atStart => exact ⟨0, _, rfl, Nat.zero_le _, rfl, HW⟩
  case round =>
    clear HW
    obtain ⟨k, v, rfl, hk, rfl, HR⟩ := hrel
    have hsz := HR.out.2.size
    by_cases hlt : k < 8
    · by_cases hz : k = 0
      · subst hz
        go_wp2_with (at_builtin; refine append_ints rfl _ _ rfl w.heap.size v 0 _ rfl (HR.out.1.grown (grown_alloc _ _ _)) (some ⟨wr.heap.size, 0, none⟩) 1 1 [s - o] rfl (ints_one _ _ _) (fun e => nomatch e) ?a1 ?a2 ?_)
        case a1 => omega
        case a2 => simp; omega
        intro v2 w2 hown hgrow
        have HN : Hid (Owns w2 w.heap.size v2 (0 + 1) ((psK 8 c o).take (0 + 1)) ∧ w.grownBy w2 none) := by
          refine ⟨?_, grown_row (grown_trans HR.out.2 (grown_alloc _ _ _)) hgrow (fun g e => Owns.block HR.out.1 g e)⟩
          rw [List.take_add_one, psK_zero]
          have e := HS.out
          rw [show (c + o) / ((8 : Nat) : Int) - o = s - o by rw [show (c + o) / ((8 : Nat) : Int) = s from e]]
          exact hown
        clear hown hgrow HR
        go_wp2
        go_roundw
        case rel => exact ⟨0 + 1, v2, rfl, by omega, by go_num, HN⟩
        case measure => simp [intOf]
      · have hz' : ((k : Int) == 0) = false := by simp; omega
        have hk0 : 0 < k := by omega
        go_wp2_with (at_builtin; refine append_ints rfl _ _ rfl w.heap.size v k _ rfl (HR.out.1.grown (grown_alloc _ _ _)) (some ⟨wr.heap.size, 0, none⟩) 1 1 [s] rfl (ints_one _ _ _) (fun e => nomatch e) ?a1 ?a2 ?_)
        case a1 => omega
        case a2 => simp; omega
        intro v2 w2 hown hgrow
        have HN : Hid (Owns w2 w.heap.size v2 (k + 1) ((psK 8 c o).take (k + 1)) ∧ w.grownBy w2 none) := by
          refine ⟨?_, grown_row (grown_trans HR.out.2 (grown_alloc _ _ _)) hgrow (fun g e => Owns.block HR.out.1 g e)⟩
          rw [List.take_add_one, psK_pos c o hk0 hlt]
          have e := HS.out
          rw [show (c + o) / ((8 : Nat) : Int) = s by exact e]
          exact hown
        clear hown hgrow HR
        go_wp2
        go_roundw
        case rel => exact ⟨k + 1, v2, rfl, by omega, by go_num, HN⟩
        case measure => simp [intOf]; omega
    · obtain rfl : k = 8 := by omega
      have HF : Hid (Owns wr w.heap.size v 8 (psK 8 c o) ∧ w.grownBy wr none) := by
        have := HR.out
        rw [List.take_of_length_le (by rw [psK_len (by omega)]; exact Nat.le_refl _)] at this
        exact this
      clear HR
      go_wp2
      go_ret
      exact ⟨_, rfl, HF.out⟩

set_option maxRecDepth 100000 in
set_option maxHeartbeats 2000000 in
theorem sShape0 (c o : Int) (w : World) (v : Bool) (hv : psOkK 1 c o = v) :
    Calls Try.prog 30 #[.int .i64 c, .int .i64 o, .int .i64 0] w fun e w' => e = .returned (.bool v) ∧ w = w' := by
  have k0 := inRange_any o 0 8 (inB o 0 8) w rfl
  have k1 := inRange_any c 0 (64 - o) (inB c 0 (64 - o)) w rfl
  have k2 := inRange_any 0 0 3 true w (inB_true (by omega) (by omega))
  cases b0 : inB o 0 8 with
  | false =>
    have hv' : v = false := by subst hv; unfold psOkK; rw [b0]; rfl
    rw [b0] at k0
    subst hv'
    clear hv b0 k1 k2
    go_enter Try.func30, Try.ntmps30
    go_wp2_with fail
    refine k0.mono ?_
    rintro e w' ⟨rfl, rfl⟩
    clear k0
    go_wp2
    go_ret
    exact ⟨rfl, rfl⟩
  | true =>
    have ho : 0 ≤ o ∧ o ≤ 8 := by simpa [inB] using b0
    have h0 := ho.1
    have h1 := ho.2
    rw [b0] at k0
    cases b1 : inB c 0 (64 - o) with
    | false =>
      have hv' : v = false := by subst hv; unfold psOkK; rw [b0, b1]; rfl
      rw [b1] at k1
      subst hv'
      clear hv b0 b1 k2 ho
      go_enter Try.func30, Try.ntmps30
      go_wp2_with fail
      refine k0.mono ?_
      rintro e w' ⟨rfl, rfl⟩
      clear k0
      go_wp2_with fail
      refine k1.mono ?_
      rintro e w' ⟨rfl, rfl⟩
      clear k1
      go_wp2
      go_ret
      exact ⟨rfl, rfl⟩
    | true =>
      have hcc : 0 ≤ c ∧ c ≤ 64 - o := by simpa [inB] using b1
      have h2 := hcc.1
      have h3 := hcc.2
      rw [b1] at k1
      have HV : Hid (v = (decide ((c + o) % ((1 : Nat) : Int) = 0) && decide (o ≤ (c + o) / ((1 : Nat) : Int)))) := by subst hv; show _ = _; unfold psOkK; rw [b0, b1]; rfl
      have ht : (c + o).tmod 1 = (c + o) % 1 := Int.tmod_eq_emod_of_nonneg (by omega)
      clear hv b0 b1 ho hcc
      go_enter Try.func30, Try.ntmps30
      go_wp2_with fail
      refine k0.mono ?_
      rintro e w' ⟨rfl, rfl⟩
      clear k0
      go_wp2_with fail
      refine k1.mono ?_
      rintro e w' ⟨rfl, rfl⟩
      clear k1
      go_wp2_with fail
      refine k2.mono ?_
      rintro e w' ⟨rfl, rfl⟩
      clear k2
      have HF : Hid (v = true) := by show _ = _; rw [HV.out, show decide ((c + o) % ((1 : Nat) : Int) = 0) = true by simp, show decide (o ≤ (c + o) / ((1 : Nat) : Int)) = true by simp; omega]; rfl
      have d1 : decide (o ≤ c + o) = true := by simp; omega
      clear HV
      go_wp2
      go_ret
      exact ⟨ret_bool (by rw [HF.out]), rfl⟩

set_option maxRecDepth 100000 in
set_option maxHeartbeats 2000000 in
theorem sShape1 (c o : Int) (w : World) (v : Bool) (hv : psOkK 2 c o = v) :
    Calls Try.prog 30 #[.int .i64 c, .int .i64 o, .int .i64 1] w fun e w' => e = .returned (.bool v) ∧ w = w' := by
  have k0 := inRange_any o 0 8 (inB o 0 8) w rfl
  have k1 := inRange_any c 0 (64 - o) (inB c 0 (64 - o)) w rfl
  have k2 := inRange_any 1 0 3 true w (inB_true (by omega) (by omega))
  cases b0 : inB o 0 8 with
  | false =>
    have hv' : v = false := by subst hv; unfold psOkK; rw [b0]; rfl
    rw [b0] at k0
    subst hv'
    clear hv b0 k1 k2
    go_enter Try.func30, Try.ntmps30
    go_wp2_with fail
    refine k0.mono ?_
    rintro e w' ⟨rfl, rfl⟩
    clear k0
    go_wp2
    go_ret
    exact ⟨rfl, rfl⟩
  | true =>
    have ho : 0 ≤ o ∧ o ≤ 8 := by simpa [inB] using b0
    have h0 := ho.1
    have h1 := ho.2
    rw [b0] at k0
    cases b1 : inB c 0 (64 - o) with
    | false =>
      have hv' : v = false := by subst hv; unfold psOkK; rw [b0, b1]; rfl
      rw [b1] at k1
      subst hv'
      clear hv b0 b1 k2 ho
      go_enter Try.func30, Try.ntmps30
      go_wp2_with fail
      refine k0.mono ?_
      rintro e w' ⟨rfl, rfl⟩
      clear k0
      go_wp2_with fail
      refine k1.mono ?_
      rintro e w' ⟨rfl, rfl⟩
      clear k1
      go_wp2
      go_ret
      exact ⟨rfl, rfl⟩
    | true =>
      have hcc : 0 ≤ c ∧ c ≤ 64 - o := by simpa [inB] using b1
      have h2 := hcc.1
      have h3 := hcc.2
      rw [b1] at k1
      have HV : Hid (v = (decide ((c + o) % ((2 : Nat) : Int) = 0) && decide (o ≤ (c + o) / ((2 : Nat) : Int)))) := by subst hv; show _ = _; unfold psOkK; rw [b0, b1]; rfl
      have ht : (c + o).tmod 2 = (c + o) % 2 := Int.tmod_eq_emod_of_nonneg (by omega)
      clear hv b0 b1 ho hcc
      go_enter Try.func30, Try.ntmps30
      go_wp2_with fail
      refine k0.mono ?_
      rintro e w' ⟨rfl, rfl⟩
      clear k0
      go_wp2_with fail
      refine k1.mono ?_
      rintro e w' ⟨rfl, rfl⟩
      clear k1
      go_wp2_with fail
      refine k2.mono ?_
      rintro e w' ⟨rfl, rfl⟩
      clear k2
      by_cases d0 : (c + o) % 2 = 0
      · have d0' : ((c + o) % 2 == 0) = true := by simpa using d0
        by_cases d1 : o ≤ (c + o) / 2
        · have HF : Hid (v = true) := by show _ = _; rw [HV.out, show decide ((c + o) % ((2 : Nat) : Int) = 0) = true by simpa using d0, show decide (o ≤ (c + o) / ((2 : Nat) : Int)) = true by simpa using d1]; rfl
          have d1' : decide (o ≤ (c + o) / 2) = true := by simpa using d1
          clear HV
          go_wp2
          go_ret
          exact ⟨ret_bool (by rw [HF.out]), rfl⟩
        · have HF : Hid (v = false) := by show _ = _; rw [HV.out, show decide (o ≤ (c + o) / ((2 : Nat) : Int)) = false by simpa using d1]; simp
          have d1' : decide (o ≤ (c + o) / 2) = false := by simpa using d1
          clear HV
          go_wp2
          go_ret
          exact ⟨ret_bool (by rw [HF.out]), rfl⟩
      · have d0' : ((c + o) % 2 == 0) = false := by simpa using d0
        have HF : Hid (v = false) := by show _ = _; rw [HV.out, show decide ((c + o) % ((2 : Nat) : Int) = 0) = false by simpa using d0]; rfl
        clear HV
        go_wp2
        go_ret
        exact ⟨ret_bool (by rw [HF.out]), rfl⟩

set_option maxRecDepth 100000 in
set_option maxHeartbeats 2000000 in
theorem sShape2 (c o : Int) (w : World) (v : Bool) (hv : psOkK 4 c o = v) :
    Calls Try.prog 30 #[.int .i64 c, .int .i64 o, .int .i64 2] w fun e w' => e = .returned (.bool v) ∧ w = w' := by
  have k0 := inRange_any o 0 8 (inB o 0 8) w rfl
  have k1 := inRange_any c 0 (64 - o) (inB c 0 (64 - o)) w rfl
  have k2 := inRange_any 2 0 3 true w (inB_true (by omega) (by omega))
  cases b0 : inB o 0 8 with
  | false =>
    have hv' : v = false := by subst hv; unfold psOkK; rw [b0]; rfl
    rw [b0] at k0
    subst hv'
    clear hv b0 k1 k2
    go_enter Try.func30, Try.ntmps30
    go_wp2_with fail
    refine k0.mono ?_
    rintro e w' ⟨rfl, rfl⟩
    clear k0
    go_wp2
    go_ret
    exact ⟨rfl, rfl⟩
  | true =>
    have ho : 0 ≤ o ∧ o ≤ 8 := by simpa [inB] using b0
    have h0 := ho.1
    have h1 := ho.2
    rw [b0] at k0
    cases b1 : inB c 0 (64 - o) with
    | false =>
      have hv' : v = false := by subst hv; unfold psOkK; rw [b0, b1]; rfl
      rw [b1] at k1
      subst hv'
      clear hv b0 b1 k2 ho
      go_enter Try.func30, Try.ntmps30
      go_wp2_with fail
      refine k0.mono ?_
      rintro e w' ⟨rfl, rfl⟩
      clear k0
      go_wp2_with fail
      refine k1.mono ?_
      rintro e w' ⟨rfl, rfl⟩
      clear k1
      go_wp2
      go_ret
      exact ⟨rfl, rfl⟩
    | true =>
      have hcc : 0 ≤ c ∧ c ≤ 64 - o := by simpa [inB] using b1
      have h2 := hcc.1
      have h3 := hcc.2
      rw [b1] at k1
      have HV : Hid (v = (decide ((c + o) % ((4 : Nat) : Int) = 0) && decide (o ≤ (c + o) / ((4 : Nat) : Int)))) := by subst hv; show _ = _; unfold psOkK; rw [b0, b1]; rfl
      have ht : (c + o).tmod 4 = (c + o) % 4 := Int.tmod_eq_emod_of_nonneg (by omega)
      clear hv b0 b1 ho hcc
      go_enter Try.func30, Try.ntmps30
      go_wp2_with fail
      refine k0.mono ?_
      rintro e w' ⟨rfl, rfl⟩
      clear k0
      go_wp2_with fail
      refine k1.mono ?_
      rintro e w' ⟨rfl, rfl⟩
      clear k1
      go_wp2_with fail
      refine k2.mono ?_
      rintro e w' ⟨rfl, rfl⟩
      clear k2
      by_cases d0 : (c + o) % 4 = 0
      · have d0' : ((c + o) % 4 == 0) = true := by simpa using d0
        by_cases d1 : o ≤ (c + o) / 4
        · have HF : Hid (v = true) := by show _ = _; rw [HV.out, show decide ((c + o) % ((4 : Nat) : Int) = 0) = true by simpa using d0, show decide (o ≤ (c + o) / ((4 : Nat) : Int)) = true by simpa using d1]; rfl
          have d1' : decide (o ≤ (c + o) / 4) = true := by simpa using d1
          clear HV
          go_wp2
          go_ret
          exact ⟨ret_bool (by rw [HF.out]), rfl⟩
        · have HF : Hid (v = false) := by show _ = _; rw [HV.out, show decide (o ≤ (c + o) / ((4 : Nat) : Int)) = false by simpa using d1]; simp
          have d1' : decide (o ≤ (c + o) / 4) = false := by simpa using d1
          clear HV
          go_wp2
          go_ret
          exact ⟨ret_bool (by rw [HF.out]), rfl⟩
      · have d0' : ((c + o) % 4 == 0) = false := by simpa using d0
        have HF : Hid (v = false) := by show _ = _; rw [HV.out, show decide ((c + o) % ((4 : Nat) : Int) = 0) = false by simpa using d0]; rfl
        clear HV
        go_wp2
        go_ret
        exact ⟨ret_bool (by rw [HF.out]), rfl⟩

set_option maxRecDepth 100000 in
set_option maxHeartbeats 2000000 in
theorem sShape3 (c o : Int) (w : World) (v : Bool) (hv : psOkK 8 c o = v) :
    Calls Try.prog 30 #[.int .i64 c, .int .i64 o, .int .i64 3] w fun e w' => e = .returned (.bool v) ∧ w = w' := by
  have k0 := inRange_any o 0 8 (inB o 0 8) w rfl
  have k1 := inRange_any c 0 (64 - o) (inB c 0 (64 - o)) w rfl
  have k2 := inRange_any 3 0 3 true w (inB_true (by omega) (by omega))
  cases b0 : inB o 0 8 with
  | false =>
    have hv' : v = false := by subst hv; unfold psOkK; rw [b0]; rfl
    rw [b0] at k0
    subst hv'
    clear hv b0 k1 k2
    go_enter Try.func30, Try.ntmps30
    go_wp2_with fail
    refine k0.mono ?_
    rintro e w' ⟨rfl, rfl⟩
    clear k0
    go_wp2
    go_ret
    exact ⟨rfl, rfl⟩
  | true =>
    have ho : 0 ≤ o ∧ o ≤ 8 := by simpa [inB] using b0
    have h0 := ho.1
    have h1 := ho.2
    rw [b0] at k0
    cases b1 : inB c 0 (64 - o) with
    | false =>
      have hv' : v = false := by subst hv; unfold psOkK; rw [b0, b1]; rfl
      rw [b1] at k1
      subst hv'
      clear hv b0 b1 k2 ho
      go_enter Try.func30, Try.ntmps30
      go_wp2_with fail
      refine k0.mono ?_
      rintro e w' ⟨rfl, rfl⟩
      clear k0
      go_wp2_with fail
      refine k1.mono ?_
      rintro e w' ⟨rfl, rfl⟩
      clear k1
      go_wp2
      go_ret
      exact ⟨rfl, rfl⟩
    | true =>
      have hcc : 0 ≤ c ∧ c ≤ 64 - o := by simpa [inB] using b1
      have h2 := hcc.1
      have h3 := hcc.2
      rw [b1] at k1
      have HV : Hid (v = (decide ((c + o) % ((8 : Nat) : Int) = 0) && decide (o ≤ (c + o) / ((8 : Nat) : Int)))) := by subst hv; show _ = _; unfold psOkK; rw [b0, b1]; rfl
      have ht : (c + o).tmod 8 = (c + o) % 8 := Int.tmod_eq_emod_of_nonneg (by omega)
      clear hv b0 b1 ho hcc
      go_enter Try.func30, Try.ntmps30
      go_wp2_with fail
      refine k0.mono ?_
      rintro e w' ⟨rfl, rfl⟩
      clear k0
      go_wp2_with fail
      refine k1.mono ?_
      rintro e w' ⟨rfl, rfl⟩
      clear k1
      go_wp2_with fail
      refine k2.mono ?_
      rintro e w' ⟨rfl, rfl⟩
      clear k2
      by_cases d0 : (c + o) % 8 = 0
      · have d0' : ((c + o) % 8 == 0) = true := by simpa using d0
        by_cases d1 : o ≤ (c + o) / 8
        · have HF : Hid (v = true) := by show _ = _; rw [HV.out, show decide ((c + o) % ((8 : Nat) : Int) = 0) = true by simpa using d0, show decide (o ≤ (c + o) / ((8 : Nat) : Int)) = true by simpa using d1]; rfl
          have d1' : decide (o ≤ (c + o) / 8) = true := by simpa using d1
          clear HV
          go_wp2
          go_ret
          exact ⟨ret_bool (by rw [HF.out]), rfl⟩
        · have HF : Hid (v = false) := by show _ = _; rw [HV.out, show decide (o ≤ (c + o) / ((8 : Nat) : Int)) = false by simpa using d1]; simp
          have d1' : decide (o ≤ (c + o) / 8) = false := by simpa using d1
          clear HV
          go_wp2
          go_ret
          exact ⟨ret_bool (by rw [HF.out]), rfl⟩
      · have d0' : ((c + o) % 8 == 0) = false := by simpa using d0
        have HF : Hid (v = false) := by show _ = _; rw [HV.out, show decide ((c + o) % ((8 : Nat) : Int) = 0) = false by simpa using d0]; rfl
        clear HV
        go_wp2
        go_ret
        exact ⟨ret_bool (by rw [HF.out]), rfl⟩

theorem p_four {p : Int} (h : 0 ≤ p ∧ p ≤ 3) : p = 0 ∨ p = 1 ∨ p = 2 ∨ p = 3 := by omega
set_option maxRecDepth 100000 in
set_option maxHeartbeats 2000000 in
theorem sShape_any (c o p : Int) (w : World) (v : Bool) (hv : psOk c o p = v) :
    Calls Try.prog 30 #[.int .i64 c, .int .i64 o, .int .i64 p] w fun e w' => e = .returned (.bool v) ∧ w = w' := by
  by_cases hp : 0 ≤ p ∧ p ≤ 3
  · rcases p_four hp with rfl | rfl | rfl | rfl
    · exact sShape0 c o w v hv
    · exact sShape1 c o w v hv
    · exact sShape2 c o w v hv
    · exact sShape3 c o w v hv
  · have b2 : inB p 0 3 = false := inB_false (by omega)
    have hv' : v = false := by subst hv; unfold psOk; rw [b2]; rfl
    subst hv'
    have k0 := inRange_any o 0 8 (inB o 0 8) w rfl
    have k1 := inRange_any c 0 (64 - o) (inB c 0 (64 - o)) w rfl
    have k2 := inRange_any p 0 3 false w b2
    clear hv b2 hp
    cases b0 : inB o 0 8 with
    | false =>
      rw [b0] at k0
      clear b0 k1 k2
      go_enter Try.func30, Try.ntmps30
      go_wp2_with fail
      refine k0.mono ?_
      rintro e w' ⟨rfl, rfl⟩
      clear k0
      go_wp2
      go_ret
      exact ⟨rfl, rfl⟩
    | true =>
      have ho : 0 ≤ o ∧ o ≤ 8 := by simpa [inB] using b0
      have h0 := ho.1
      have h1 := ho.2
      rw [b0] at k0
      cases b1 : inB c 0 (64 - o) with
      | false =>
        rw [b1] at k1
        clear b0 b1 k2 ho
        go_enter Try.func30, Try.ntmps30
        go_wp2_with fail
        refine k0.mono ?_
        rintro e w' ⟨rfl, rfl⟩
        clear k0
        go_wp2_with fail
        refine k1.mono ?_
        rintro e w' ⟨rfl, rfl⟩
        clear k1
        go_wp2
        go_ret
        exact ⟨rfl, rfl⟩
      | true =>
        rw [b1] at k1
        clear b0 b1 ho
        go_enter Try.func30, Try.ntmps30
        go_wp2_with fail
        refine k0.mono ?_
        rintro e w' ⟨rfl, rfl⟩
        clear k0
        go_wp2_with fail
        refine k1.mono ?_
        rintro e w' ⟨rfl, rfl⟩
        clear k1
        go_wp2_with fail
        refine k2.mono ?_
        rintro e w' ⟨rfl, rfl⟩
        clear k2
        go_wp2
        go_ret
        exact ⟨rfl, rfl⟩

theorem psOk_of {c o p : Int} (h : psOk c o p = true) : 0 ≤ p ∧ p ≤ 3 ∧ psOkK (2 ^ p.toNat) c o = true := by
  unfold psOk at h
  rw [Bool.and_eq_true] at h
  have : 0 ≤ p ∧ p ≤ 3 := by simpa [inB] using h.1
  exact ⟨this.1, this.2, h.2⟩
theorem sPSL_any (c o p : Int) (w : World) (h : psOk c o p = true) :
    Calls Try.prog 31 #[.int .i64 c, .int .i64 o, .int .i64 p] w (Made (psL c o p) (psN c o p) w) := by
  have e1 : psL c o p = psK (2 ^ p.toNat) c o := by unfold psL; rw [if_pos h]
  have e2 : psN c o p = 2 ^ p.toNat := by unfold psN; rw [if_pos h]
  rw [e1, e2]
  obtain ⟨h1, h2, h3⟩ := psOk_of h
  obtain ⟨a1, a2, a3, a4, _, _⟩ := psOkK_of h3
  rcases p_four ⟨h1, h2⟩ with rfl | rfl | rfl | rfl
  · exact sPSL0 c o w a1 a2 a3 a4
  · exact sPSL1 c o w a1 a2 a3 a4
  · exact sPSL2 c o w a1 a2 a3 a4
  · exact sPSL3 c o w a1 a2 a3 a4
set_option maxHeartbeats 1000000 in
theorem sPS_any (c o p : Int) (w : World) :
    Calls Try.prog 13 #[.int .i64 c, .int .i64 o, .int .i64 p] w (Made (psL c o p) (psN c o p) w) := by
  cases h : psOk c o p with
  | false =>
    have e1 : psL c o p = [] := by unfold psL; rw [h]; rfl
    have e2 : psN c o p = 0 := by unfold psN; rw [h]; rfl
    rw [e1, e2]
    have k := sShape_any c o p w false h
    clear h e1 e2
    go_enter Try.func13, Try.ntmps13
    go_wp2_with fail
    refine k.mono ?_
    rintro e w' ⟨rfl, rfl⟩
    clear k
    go_wp2
    go_ret
    exact ⟨_, rfl, World.ownsRow_nil _ _ _ _, grown_refl _ _⟩
  | true =>
    have k := sShape_any c o p w true h
    have k2 := sPSL_any c o p w h
    clear h
    go_enter Try.func13, Try.ntmps13
    go_wp2_with fail
    refine k.mono ?_
    rintro e w' ⟨rfl, rfl⟩
    clear k
    go_wp2_with fail
    refine k2.mono ?_
    rintro e w1 ⟨v, rfl, ho, hg⟩
    have HF := Lib.hid (And.intro ho hg)
    clear k2 ho hg
    go_wp2
    go_ret
    exact ⟨_, rfl, HF.out.1, HF.out.2⟩

end Go.Proofs.Ytikblehndmikoaa
