/-
  The walk of the law on zeros: it returns true and writes nothing that was there. For every code.
-/
import Derived.Test.YthgppflplcoemaaPar4
import Derived.Test.YthgppflplcoemaaDrawR
import Derived.OwnWalk
import Derived.Deep.OwnRows
namespace Go.Proofs.Ythgppflplcoemaa
open Go.RowKit

theorem zeros_ownP (w : World) (n : Nat) (hn : n ≤ 64) : Owns (w.alloc (.cells (madeCells #[.int .i64 0] n) 3)) w.heap.size (.slice (some ⟨w.heap.size, 0, none⟩) n n) n (List.replicate n 0) := by
  have e := part_zero [] n
  have e2 : (List.replicate n (0 : Int)).map (Value.int .i64) = (madeCells #[Value.int .i64 0] n).toList := by rw [e]; simp [part]
  have hl : (madeCells #[Value.int .i64 0] n).toList.length = n := by rw [← e2]; simp
  refine ⟨by simp, .inr ⟨w.heap.size, n, _, rfl, Nat.le_refl _, heap_alloc_new w _, Nat.le_refl _, by unfold maxLen; omega, by rw [← Array.length_toList, hl]; simp, ?_⟩⟩
  rw [e2]; exact List.take_of_length_le (by rw [hl]; omega)
theorem Rl0 {k : Nat} (h : k ≤ 14) : Rl 0 (k : Int) = (k : Int) + 1 ∧ Vr 0 (k : Int) = true := by
  have hz : Zz 0 = 0 := by decide
  have hno : ¬ (Zz 0 < 0 ∨ (k : Int) < 0 ∨ 14 < (k : Int) ∨ 500 < Zz 0 / 2 ^ (k : Int).toNat) := by
    rw [hz, Int.zero_ediv]; omega
  refine ⟨?_, decide_eq_true hno⟩
  rw [Rl_in hno, hz, Int.zero_ediv]; omega
theorem mxw0 : ∀ n : Nat, mxw (List.replicate n 0) = 0
  | 0 => rfl
  | n + 1 => by
    have := mxw0 n
    unfold mxw at this ⊢
    rw [List.replicate_succ, List.foldl_cons]
    exact this
theorem vr0 {k : Nat} (h : k ≤ 14) : ∀ n : Nat, vrL k (List.replicate n 0) = true
  | 0 => rfl
  | n + 1 => by
    have := vr0 h n
    unfold vrL at this ⊢
    rw [List.replicate_succ, List.all_cons, (Rl0 h).2, this]; rfl
theorem rl0 {k : Nat} (h : k ≤ 14) : ∀ n : Nat, rlS k (List.replicate n 0) = (n : Int) * ((k : Int) + 1)
  | 0 => by simp [rlS]
  | n + 1 => by
    have := rl0 h n
    unfold rlS at this ⊢
    rw [List.replicate_succ, List.map_cons, List.sum_cons, (Rl0 h).1, this]
    have e : ((n + 1 : Nat) : Int) = (n : Int) + 1 := by omega
    rw [e, Int.add_mul]; omega
theorem pc0 {k n : Nat} (h : k ≤ 14) : pc (List.replicate n 0) k = 4 + (n : Int) * ((k : Int) + 1) := by
  rw [pc_good (by omega) (vr0 h n), rl0 h n]
theorem pc0e (n : Nat) : pc (List.replicate n 0) 15 = 9 := by rw [pc_esc, mxw0]; simp
theorem vR0 {n : Nat} (h : n ≤ 64) : vR (List.replicate n 0) = true := by
  unfold vR allB
  simp only [List.length_replicate, Bool.and_eq_true, decide_eq_true_eq]
  refine ⟨h, ?_⟩
  rw [List.all_eq_true]
  intro x hx
  rw [List.eq_of_mem_replicate hx]; decide
theorem mul0 {n k : Nat} : (n : Int) * ((k : Int) + 1) ≥ (n : Int) := by
  have h : n * 1 ≤ n * (k + 1) := Nat.mul_le_mul_left n (by omega)
  have e : ((n * (k + 1) : Nat) : Int) = (n : Int) * ((k : Int) + 1) := by simp
  omega
theorem zerosMany {n : Nat} (h : 5 < n) (h2 : n ≤ 64) : BpR (List.replicate n 0) 15 9 :=
  Or.inr ⟨vR0 h2, 15, rfl, ⟨by omega, by rw [pc0e]; omega, fun q hq _ => by
    by_cases e : q = 15
    · subst e; exact Or.inr ⟨rfl, Nat.le_refl _⟩
    · left; rw [pc0e, pc0 (show q ≤ 14 by omega)]; have := @mul0 n q; omega⟩, (pc0e n).symm⟩
theorem zerosFew {n : Nat} (h : n ≤ 5) : BpR (List.replicate n 0) 0 (4 + (n : Int)) := by
  have e0 : pc (List.replicate n 0) 0 = 4 + (n : Int) := by rw [pc0 (show 0 ≤ 14 by omega)]; simp
  refine Or.inr ⟨vR0 (by omega), 0, rfl, ⟨by omega, by rw [e0]; omega, fun q hq _ => ?_⟩, e0.symm⟩
  by_cases e : q = 15
  · subst e; rw [pc0e, e0]; omega
  · rw [e0, pc0 (show q ≤ 14 by omega)]; have := @mul0 n q; omega

def DrewP (w : World) (e : Ending) (w' : World) : Prop :=
  ∃ (ao : Option Addr) (len cap : Nat) (xs : List Int), e = .returned (.slice ao len cap) ∧ len ≤ 24 ∧ Ints w' ao len xs ∧ w.grownBy w' none
theorem drawBP_any (ao : Option Addr) (len cap : Nat) (w : World) (hb : BytesAt w ao len) (hlc : len ≤ cap) (hmax : len ≤ 9223372036854775807) :
    Calls Try.prog 6 #[.slice ao len cap] w (DrewP w) := by
  have hnew := newReader_any ao len cap w hb hlc hmax
  clear hb hlc hmax
  obtain ⟨r, hr⟩ : ∃ r, w.heap.size = r := ⟨_, rfl⟩
  go_enter Try.func6, Try.ntmps6
  go_wp2_with fail
  refine hnew.mono ?_
  rintro e w0 ⟨rfl, hR, hg0⟩
  rw [hr] at hR ⊢
  have HG0 := Lib.hid hg0
  have HRR := Lib.hid hr
  have hrl : r < w0.heap.size := hR.lt
  clear hnew hg0 hr
  go_wp2_with fail
  refine (anyResidual_any r 0 _ hR (by omega)).mono ?_
  rintro e w1 ⟨v1, l1, xs, rfl, hl1, ho1, _, hR1, hg1⟩
  obtain ⟨a1, c1, rfl, _⟩ := ho1.reads
  have HF : Hid (l1 ≤ 24 ∧ Ints w1 a1 l1 xs ∧ w.grownBy w1 none) := ⟨hl1, ho1.toInts, grown_new HG0.out hg1 (by rw [HRR.out]; exact Nat.le_refl _)⟩
  clear hR hR1 ho1 hg1
  go_wp2
  go_ret
  exact ⟨a1, l1, c1, xs, rfl, HF.out⟩

set_option maxRecDepth 100000 in
set_option maxHeartbeats 4000000 in
theorem FnBestParameterZeros_walk (ao : Option Addr) (len cap : Nat) (w : World) (hb : BytesAt w ao len) (hlc : len ≤ cap) (hmax : len ≤ 9223372036854775807) :
    Calls Try.prog 4 #[.slice ao len cap] w (Holds w) := by
  by_cases hlen : 1048576 < len
  · clear hb
    go_enter Try.func4, Try.ntmps4
    go_wp2
    go_ret
    exact ⟨rfl, grown_refl _ _⟩
  have hd := drawBP_any ao len cap w hb hlc hmax
  have hm : decide (1048576 < (len : Int)) = false := by simp; omega
  clear hb hlc hmax hlen
  go_enter Try.func4, Try.ntmps4
  go_wp2_with fail
  refine hd.mono ?_
  rintro e w1 ⟨a1, l1, c1, xs, rfl, hl1, hx1, hg1⟩
  have HX := Lib.hid hx1
  have HG := Lib.hid hg1
  clear hd hx1 hg1
  obtain ⟨k, l, hbp⟩ := BpR_some xs
  have HB := Lib.hid hbp
  clear hbp
  go_wp2_with fail
  refine (iBP_any xs a1 l1 c1 k l _ HX.out (by omega) HB.out).mono ?_
  rintro e w2 ⟨rfl, hg2⟩
  have HX := Lib.hid (HX.out.grown hg2)
  have HG := Lib.hid (grown_trans HG.out hg2)
  clear hg2
  go_wp2_with fail
  refine (sBP_any xs a1 l1 c1 k l _ HX.out (by omega) HB.out).mono ?_
  rintro e w3 ⟨rfl, hg3⟩
  have HX := Lib.hid (HX.out.grown hg3)
  have HG := Lib.hid (grown_trans HG.out hg3)
  clear hg3
  by_cases h0 : k < 0
  · have d0 : decide (k < 0) = true := by simpa using h0
    go_wp2
    go_ret
    exact ⟨rfl, HG.out⟩
  have d0 : decide (k < 0) = false := by simpa using h0
  clear h0 HB
  have hmk := run_make_row' (P := Try.prog) 23 3 (.int .i64 0) 8 Try.underlying23 info_int rfl .i64 .i64 l1 (by omega) (by omega)
  have HZ : Hid (Ints (w3.alloc (.cells (madeCells #[.int .i64 0] l1) 3)) (some ⟨w3.heap.size, 0, none⟩) l1 (List.replicate l1 0) ∧ w.grownBy (w3.alloc (.cells (madeCells #[.int .i64 0] l1) 3)) none) := ⟨(zeros_ownP w3 l1 (by omega)).toInts, grown_trans HG.out (grown_alloc _ _ _)⟩
  clear HX HG
  by_cases h5 : 5 < l1
  · have d5 : decide (5 < (l1 : Int)) = true := by simp; omega
    go_wp2_with fail
    refine (iBP_any _ _ l1 l1 15 9 _ HZ.out.1 (by omega) (zerosMany h5 (by omega))).mono ?_
    rintro e w4 ⟨rfl, hg4⟩
    have HG := Lib.hid (grown_trans HZ.out.2 hg4)
    clear hg4 HZ hmk
    go_wp2
    go_ret
    exact ⟨rfl, HG.out⟩
  · have d5 : decide (5 < (l1 : Int)) = false := by simp; omega
    go_wp2_with fail
    refine (iBP_any _ _ l1 l1 0 (4 + (l1 : Int)) _ HZ.out.1 (by omega) (zerosFew (by omega))).mono ?_
    rintro e w4 ⟨rfl, hg4⟩
    have HG := Lib.hid (grown_trans HZ.out.2 hg4)
    clear hg4 HZ hmk
    go_wp2
    go_ret
    exact ⟨rfl, HG.out⟩

end Go.Proofs.Ythgppflplcoemaa
