/-
  The draw of residuals: at most 24 numbers, each at most 2^22 far from 0.
-/
import Derived.Test.YtgiiaijlahjfnaaDrawS
import Derived.Test.YtgiiaijlahjfnaaZig
namespace Go.Proofs.Ytgiiaijlahjfnaa
open Go.RowKit

def DrewRes (r P : Nat) (w : World) (e : Ending) (w' : World) : Prop :=
  ∃ (v : Value) (len : Nat) (xs : List Int), e = .returned v ∧ len ≤ 24 ∧ Owns w' w.heap.size v len xs ∧ allB xs (-4194304) 4194304 = true ∧ Rdr w' r P ∧ w.grownBy w' (some r)

set_option maxRecDepth 100000 in
set_option maxHeartbeats 2000000 in
theorem anyResidual_any (r P : Nat) (w : World) (hR : Rdr w r P) (hP : P < 800000) :
    Calls Try.prog 46 #[.pointer (some ⟨r, 0, none⟩)] w (DrewRes r (P + 80) w) := by
  have hrl := hR.lt
  go_enter Try.func46, Try.ntmps46
  go_wp2_with fail
  have hRa := hR.alloc (.cells #[] 3)
  refine (pick_any 4 r P _ hRa (by omega) (by omega)).mono ?_
  rintro e w1 ⟨m, rfl, hm0, hm1, _, hR1, hg1⟩
  have hm2 : m < 4 := hm1 (by omega)
  have HO1 := Lib.hid ((owns_empty w).read hg1 hrl)
  have HG1 := Lib.hid (grown_trans (grown_alloc w (.cells #[] 3) (some r)) hg1)
  clear hR hRa hm1 hg1
  go_wp2_with fail
  refine (anyCount_any r (P + 1) _ hR1 (by omega)).mono ?_
  rintro e w2 ⟨n, rfl, hn, hR2, hg2⟩
  have HW : Hid (Rdr w2 r (P + 2 + 3 * 0) ∧ w.grownBy w2 (some r) ∧ Owns w2 w.heap.size (.slice (some ⟨w.heap.size, 0, none⟩) 0 0) 0 [] ∧ allB [] (-4194304) 4194304 = true) := ⟨hR2, grown_trans HG1.out hg2, HO1.out.read hg2 hrl, rfl⟩
  clear hR1 hR2 hg2 HO1 HG1
  go_wp2
  go_loopw [3, 5] (fun vv iv wr => ∃ (v : Value) (j q : Nat) (xs : List Int), v = vv ∧ j + q = n ∧ iv = .int .i64 j ∧ Hid (Rdr wr r (P + 2 + 3 * q) ∧ w.grownBy wr (some r) ∧ Owns wr w.heap.size v q xs ∧ allB xs (-4194304) 4194304 = true)) (fun _ iv _ => (intOf iv).toNat)
  case atStart => exact ⟨_, n, 0, [], rfl, by omega, rfl, HW⟩
  case round =>
    clear HW
    obtain ⟨v, j, q, xs, rfl, hjq, rfl, HR⟩ := hrel
    cases j with
    | zero =>
      have HF : Hid (DrewRes r (P + 80) w (.returned v) wr) := ⟨v, q, xs, rfl, by omega, HR.out.2.2.1, HR.out.2.2.2, HR.out.1.mono (by omega), HR.out.2.1⟩
      clear HR
      go_wp2
      go_ret
      exact HF.out
    | succ j =>
      have hq24 : q < 24 := by omega
      by_cases m0 : m = 0
      · subst m0
        go_wp2_with fail
        refine (pick_any 9 r (P + 2 + 3 * q) _ HR.out.1 (by omega) (by omega)).mono ?_
        rintro e w4 ⟨z, rfl, hz0, hz1, _, hR4, hg4⟩
        have hz2 : z < 9 := hz1 (by omega)
        have HS : Hid (Rdr w4 r (P + 2 + 3 * q + 1) ∧ w.grownBy w4 (some r) ∧ Owns w4 w.heap.size v q xs ∧ allB xs (-4194304) 4194304 = true) := ⟨hR4, grown_trans HR.out.2.1 hg4, HR.out.2.2.1.read hg4 hrl, HR.out.2.2.2⟩
        clear HR hz1 hR4 hg4
        go_wp2_with (at_builtin; refine append_ints rfl _ _ rfl w.heap.size v q xs rfl (HS.out.2.2.1.grown (grown_alloc _ _ _)) (some ⟨w4.heap.size, 0, none⟩) 1 1 [z - 4] rfl (ints_one _ _ _) (fun e => nomatch e) ?a1 ?a2 ?_)
        case a1 => omega
        case a2 => have := HS.out.2.1.size; simp; omega
        intro v' w5 hown hgrow
        have HT : Hid (Rdr w5 r (P + 2 + 3 * (q + 1)) ∧ w.grownBy w5 (some r) ∧ Owns w5 w.heap.size v' (q + 1) (xs ++ [z - 4]) ∧ allB (xs ++ [z - 4]) (-4194304) 4194304 = true) := by
          refine ⟨?_, ?_, hown, allB_snoc HS.out.2.2.2 (by omega) (by omega)⟩
          · exact (Rdr.own (HS.out.1.alloc _) (HS.out.2.2.1.grown (grown_alloc _ _ _)) hgrow hrl).mono (by omega)
          · exact grown_row (grown_trans HS.out.2.1 (grown_alloc _ _ _)) hgrow (HS.out.2.2.1.block)
        clear hown hgrow HS
        go_wp2
        go_roundw
        case rel => exact ⟨v', j, q + 1, xs ++ [z - 4], rfl, by omega, by go_num, HT⟩
        case measure => simp [intOf]; try omega
      have m0' : (m == 0) = false := by simpa using m0
      by_cases m1 : m = 1
      · subst m1
        clear m0 m0'
        go_wp2_with fail
        refine (pick_any 200 r (P + 2 + 3 * q) _ HR.out.1 (by omega) (by omega)).mono ?_
        rintro e w4 ⟨z, rfl, hz0, hz1, _, hR4, hg4⟩
        have hz2 : z < 200 := hz1 (by omega)
        have HS : Hid (Rdr w4 r (P + 2 + 3 * q + 1) ∧ w.grownBy w4 (some r) ∧ Owns w4 w.heap.size v q xs ∧ allB xs (-4194304) 4194304 = true) := ⟨hR4, grown_trans HR.out.2.1 hg4, HR.out.2.2.1.read hg4 hrl, HR.out.2.2.2⟩
        clear HR hz1 hR4 hg4
        go_wp2_with (at_builtin; refine append_ints rfl _ _ rfl w.heap.size v q xs rfl (HS.out.2.2.1.grown (grown_alloc _ _ _)) (some ⟨w4.heap.size, 0, none⟩) 1 1 [z - 100] rfl (ints_one _ _ _) (fun e => nomatch e) ?a1 ?a2 ?_)
        case a1 => omega
        case a2 => have := HS.out.2.1.size; simp; omega
        intro v' w5 hown hgrow
        have HT : Hid (Rdr w5 r (P + 2 + 3 * (q + 1)) ∧ w.grownBy w5 (some r) ∧ Owns w5 w.heap.size v' (q + 1) (xs ++ [z - 100]) ∧ allB (xs ++ [z - 100]) (-4194304) 4194304 = true) := by
          refine ⟨?_, ?_, hown, allB_snoc HS.out.2.2.2 (by omega) (by omega)⟩
          · exact (Rdr.own (HS.out.1.alloc _) (HS.out.2.2.1.grown (grown_alloc _ _ _)) hgrow hrl).mono (by omega)
          · exact grown_row (grown_trans HS.out.2.1 (grown_alloc _ _ _)) hgrow (HS.out.2.2.1.block)
        clear hown hgrow HS
        go_wp2
        go_roundw
        case rel => exact ⟨v', j, q + 1, xs ++ [z - 100], rfl, by omega, by go_num, HT⟩
        case measure => simp [intOf]; try omega
      have m1' : (m == 1) = false := by simpa using m1
      by_cases m2 : m = 2
      · subst m2
        clear m0 m0' m1 m1'
        have HS := HR
        clear HR
        go_wp2_with (at_builtin; refine append_ints rfl _ _ rfl w.heap.size v q xs rfl (HS.out.2.2.1.grown (grown_alloc _ _ _)) (some ⟨wr.heap.size, 0, none⟩) 1 1 [0] rfl (ints_one _ _ _) (fun e => nomatch e) ?a1 ?a2 ?_)
        case a1 => omega
        case a2 => have := HS.out.2.1.size; simp; omega
        intro v' w5 hown hgrow
        have HT : Hid (Rdr w5 r (P + 2 + 3 * (q + 1)) ∧ w.grownBy w5 (some r) ∧ Owns w5 w.heap.size v' (q + 1) (xs ++ [0]) ∧ allB (xs ++ [0]) (-4194304) 4194304 = true) := by
          refine ⟨?_, ?_, hown, allB_snoc HS.out.2.2.2 (by omega) (by omega)⟩
          · exact (Rdr.own (HS.out.1.alloc _) (HS.out.2.2.1.grown (grown_alloc _ _ _)) hgrow hrl).mono (by omega)
          · exact grown_row (grown_trans HS.out.2.1 (grown_alloc _ _ _)) hgrow (HS.out.2.2.1.block)
        clear hown hgrow HS
        go_wp2
        go_roundw
        case rel => exact ⟨v', j, q + 1, xs ++ [0], rfl, by omega, by go_num, HT⟩
        case measure => simp [intOf]; try omega
      have m2' : (m == 2) = false := by simpa using m2
      clear m0 m1 m2
      go_wp2_with fail
      refine (anySigned_any r (P + 2 + 3 * q) _ HR.out.1 (by omega)).mono ?_
      rintro e w4 ⟨z, rfl, hz0, hz2, hR4, hg4⟩
      have HS : Hid (Rdr w4 r (P + 2 + 3 * q + 3) ∧ w.grownBy w4 (some r) ∧ Owns w4 w.heap.size v q xs ∧ allB xs (-4194304) 4194304 = true) := ⟨hR4, grown_trans HR.out.2.1 hg4, HR.out.2.2.1.read hg4 hrl, HR.out.2.2.2⟩
      clear HR hR4 hg4
      go_wp2_with (at_builtin; refine append_ints rfl _ _ rfl w.heap.size v q xs rfl (HS.out.2.2.1.grown (grown_alloc _ _ _)) (some ⟨w4.heap.size, 0, none⟩) 1 1 [z] rfl (ints_one _ _ _) (fun e => nomatch e) ?a1 ?a2 ?_)
      case a1 => omega
      case a2 => have := HS.out.2.1.size; simp; omega
      intro v' w5 hown hgrow
      have HT : Hid (Rdr w5 r (P + 2 + 3 * (q + 1)) ∧ w.grownBy w5 (some r) ∧ Owns w5 w.heap.size v' (q + 1) (xs ++ [z]) ∧ allB (xs ++ [z]) (-4194304) 4194304 = true) := by
        refine ⟨?_, ?_, hown, allB_snoc HS.out.2.2.2 (by omega) (by omega)⟩
        · exact (Rdr.own (HS.out.1.alloc _) (HS.out.2.2.1.grown (grown_alloc _ _ _)) hgrow hrl).mono (by omega)
        · exact grown_row (grown_trans HS.out.2.1 (grown_alloc _ _ _)) hgrow (HS.out.2.2.1.block)
      clear hown hgrow HS
      go_wp2
      go_roundw
      case rel => exact ⟨v', j, q + 1, xs ++ [z], rfl, by omega, by go_num, HT⟩
      case measure => simp [intOf]; try omega

end Go.Proofs.Ytgiiaijlahjfnaa
