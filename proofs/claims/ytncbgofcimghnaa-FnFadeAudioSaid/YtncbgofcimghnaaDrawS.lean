/-
  The draws of samples: what 'randomSamples', 'anyCount' and 'anySamples' give. For every code.
-/
import Derived.Test.YtncbgofcimghnaaDraw
import Derived.Test.YtncbgofcimghnaaQMath
namespace Go.Proofs.Ytncbgofcimghnaa
open Go.RowKit

theorem allB_wide {xs : List Int} {lo hi lo' hi' : Int} (h : allB xs lo hi = true) (h1 : lo' ≤ lo) (h2 : hi ≤ hi') : allB xs lo' hi' = true := by
  unfold allB at *
  rw [List.all_eq_true] at *
  intro x hx
  have := h x hx
  simp [inB] at *
  omega

/-- A drawn list of n numbers in a range, in new memory; the reader has gone on. -/
def DrewS (n : Nat) (lo hi : Int) (r P : Nat) (w : World) (e : Ending) (w' : World) : Prop :=
  ∃ (v : Value) (xs : List Int), e = .returned v ∧ Owns w' w.heap.size v n xs ∧ allB xs lo hi = true ∧ Rdr w' r P ∧ w.grownBy w' (some r)

theorem allB_snoc {xs : List Int} {x lo hi : Int} (h : allB xs lo hi = true) (h1 : lo ≤ x) (h2 : x ≤ hi) : allB (xs ++ [x]) lo hi = true := by
  unfold allB at *
  rw [List.all_append, h]; simp [inB, h1, h2]

theorem pow_le17 (k : Nat) (h : k ≤ 16) : (1 : Int) ≤ 2 ^ k ∧ (2 : Int) ^ k ≤ 65536 := by
  have : k ≤ 14 ∨ k = 15 ∨ k = 16 := by omega
  rcases this with h | h | h
  · have := pow_le k h; omega
  · subst h; decide
  · subst h; decide

set_option maxRecDepth 100000 in
set_option maxHeartbeats 4000000 in
theorem randomSamples_any (n k : Nat) (r P : Nat) (w : World) (hR : Rdr w r P) (hP : P < 900000) (hn : n ≤ 66) (hk : k ≤ 16) :
    Calls Try.prog 49 #[.pointer (some ⟨r, 0, none⟩), .int .i64 (n : Int), .int .i64 ((k : Int) + 1)] w (DrewS n (-(2 ^ k)) (2 ^ k - 1) r (P + 70) w) := by
  have hrl := hR.lt
  have hp := pow_le17 k hk
  obtain ⟨h, hh⟩ : ∃ h : Int, 2 ^ k = h := ⟨_, rfl⟩
  rw [hh] at hp ⊢
  have hp0 := hp.1
  have hp1 := hp.2
  clear hp
  go_enter Try.func49, Try.ntmps49
  go_wp2_with fail
  have hRa := hR.alloc (.cells #[] 3)
  refine (pick_any 9 r P _ hRa (by omega) (by omega)).mono ?_
  rintro e w1 ⟨a0, rfl, ha0, ha1, _, hR1, hg1⟩
  have ha2 : a0 < 9 := ha1 (by omega)
  have HO1 := Lib.hid ((owns_empty w).read hg1 hrl)
  have HG1 := Lib.hid (grown_trans (grown_alloc w (.cells #[] 3) (some r)) hg1)
  clear hR hRa ha1 hg1
  go_wp2_with fail
  refine (pick_any 5 r (P + 1) _ hR1 (by omega) (by omega)).mono ?_
  rintro e w2 ⟨s0, rfl, hs0, hs1, _, hR2, hg2⟩
  have hs2 : s0 < 5 := hs1 (by omega)
  have HO2 := Lib.hid (HO1.out.read hg2 hrl)
  have HG2 := Lib.hid (grown_trans HG1.out hg2)
  clear hR1 hs1 hg2 HO1 HG1
  go_wp2_with fail
  refine (pick_any 6 r (P + 1 + 1) _ hR2 (by omega) (by omega)).mono ?_
  rintro e w3 ⟨m, rfl, hm0, hm1, _, hR3, hg3⟩
  have HW : Hid (Rdr w3 r (P + 3 + 0) ∧ w.grownBy w3 (some r) ∧ Owns w3 w.heap.size (.slice (some ⟨w.heap.size, 0, none⟩) 0 0) 0 [] ∧ allB [] (-h) (h - 1) = true) := ⟨hR3, grown_trans HG2.out hg3, HO2.out.read hg3 hrl, rfl⟩
  clear hR2 hm1 hg3 HO2 HG2 hR3
  go_wp2_with fail
  go_loopw [7, 9, 10, 12] (fun vv av sv iv wr => ∃ (v : Value) (q : Nat) (at_ st : Int) (xs : List Int), v = vv ∧ q ≤ n ∧ iv = .int .i64 q ∧ av = .int .i64 at_ ∧ sv = .int .i64 st ∧ -33000 - 70 * (q : Int) ≤ at_ ∧ at_ ≤ 33000 + 70 * (q : Int) ∧ -3 - (q : Int) ≤ st ∧ st ≤ 3 + (q : Int) ∧ Hid (Rdr wr r (P + 3 + q) ∧ w.grownBy wr (some r) ∧ Owns wr w.heap.size v q xs ∧ allB xs (-h) (h - 1) = true)) (fun _ _ _ iv _ => n - (intOf iv).toNat)
  case atStart => exact ⟨_, 0, a0 - 4, s0 - 2, [], rfl, by omega, rfl, rfl, rfl, by omega, by omega, by omega, by omega, HW⟩
  case round =>
    obtain ⟨v, q, at_, st, xs, rfl, hq, rfl, rfl, rfl, hat0, hat1, hst0, hst1, HR⟩ := hrel
    by_cases hlt : q < n
    · by_cases m0 : m = 0
      · subst m0
        have HS : Hid (Rdr wr r (P + 3 + q + 1) ∧ w.grownBy wr (some r) ∧ Owns wr w.heap.size v q xs ∧ allB xs (-h) (h - 1) = true) := ⟨HR.out.1.mono (by omega), HR.out.2⟩
        clear HR
        by_cases k1 : -(h - 1) - 1 < at_ + st
        · by_cases k2 : at_ + st < h - 1
          · have l1 : decide (-(h - 1) - 1 < at_ + st) = true := by simpa using k1
            have l2 : decide (at_ + st < h - 1) = true := by simpa using k2
            go_wp2_with (at_builtin; refine append_ints rfl _ _ rfl w.heap.size v q xs rfl (HS.out.2.2.1.grown (grown_alloc _ _ _)) (some ⟨wr.heap.size, 0, none⟩) 1 1 [at_ + st] rfl (ints_one _ _ _) (fun e => nomatch e) ?_ ?_ ?_)
            · omega
            · have := HS.out.2.1.size; simp; omega
            intro v' w5 hown hgrow
            have HT : Hid (Rdr w5 r (P + 3 + (q + 1)) ∧ w.grownBy w5 (some r) ∧ Owns w5 w.heap.size v' (q + 1) (xs ++ [at_ + st]) ∧ allB (xs ++ [at_ + st]) (-h) (h - 1) = true) := by
              refine ⟨?_, ?_, hown, allB_snoc HS.out.2.2.2 (by omega) (by omega)⟩
              · exact (Rdr.own (HS.out.1.alloc _) (HS.out.2.2.1.grown (grown_alloc _ _ _)) hgrow hrl).mono (by omega)
              · exact grown_row (grown_trans HS.out.2.1 (grown_alloc _ _ _)) hgrow (HS.out.2.2.1.block)
            clear hown hgrow HS
            go_wp2
            go_roundw
            case rel => exact ⟨v', q + 1, at_ + st, st, xs ++ [at_ + st], rfl, by omega, by go_num, rfl, rfl, by omega, by omega, by omega, by omega, HT⟩
            case measure => simp [intOf]; omega
          · have l1 : decide (-(h - 1) - 1 < at_ + st) = true := by simpa using k1
            have l2 : decide (at_ + st < h - 1) = false := by simp; omega
            go_wp2_with (at_builtin; refine append_ints rfl _ _ rfl w.heap.size v q xs rfl (HS.out.2.2.1.grown (grown_alloc _ _ _)) (some ⟨wr.heap.size, 0, none⟩) 1 1 [h - 1] rfl (ints_one _ _ _) (fun e => nomatch e) ?_ ?_ ?_)
            · omega
            · have := HS.out.2.1.size; simp; omega
            intro v' w5 hown hgrow
            have HT : Hid (Rdr w5 r (P + 3 + (q + 1)) ∧ w.grownBy w5 (some r) ∧ Owns w5 w.heap.size v' (q + 1) (xs ++ [h - 1]) ∧ allB (xs ++ [h - 1]) (-h) (h - 1) = true) := by
              refine ⟨?_, ?_, hown, allB_snoc HS.out.2.2.2 (by omega) (by omega)⟩
              · exact (Rdr.own (HS.out.1.alloc _) (HS.out.2.2.1.grown (grown_alloc _ _ _)) hgrow hrl).mono (by omega)
              · exact grown_row (grown_trans HS.out.2.1 (grown_alloc _ _ _)) hgrow (HS.out.2.2.1.block)
            clear hown hgrow HS
            go_wp2
            go_roundw
            case rel => exact ⟨v', q + 1, at_ + st, st, xs ++ [h - 1], rfl, by omega, by go_num, rfl, rfl, by omega, by omega, by omega, by omega, HT⟩
            case measure => simp [intOf]; omega
        · have l1 : decide (-(h - 1) - 1 < at_ + st) = false := by simp; omega
          have l2 : -(h - 1) - 1 < h - 1 := by omega
          go_wp2_with (at_builtin; refine append_ints rfl _ _ rfl w.heap.size v q xs rfl (HS.out.2.2.1.grown (grown_alloc _ _ _)) (some ⟨wr.heap.size, 0, none⟩) 1 1 [-(h - 1) - 1] rfl (ints_one _ _ _) (fun e => nomatch e) ?_ ?_ ?_)
          · omega
          · have := HS.out.2.1.size; simp; omega
          intro v' w5 hown hgrow
          have HT : Hid (Rdr w5 r (P + 3 + (q + 1)) ∧ w.grownBy w5 (some r) ∧ Owns w5 w.heap.size v' (q + 1) (xs ++ [-(h - 1) - 1]) ∧ allB (xs ++ [-(h - 1) - 1]) (-h) (h - 1) = true) := by
            refine ⟨?_, ?_, hown, allB_snoc HS.out.2.2.2 (by omega) (by omega)⟩
            · exact (Rdr.own (HS.out.1.alloc _) (HS.out.2.2.1.grown (grown_alloc _ _ _)) hgrow hrl).mono (by omega)
            · exact grown_row (grown_trans HS.out.2.1 (grown_alloc _ _ _)) hgrow (HS.out.2.2.1.block)
          clear hown hgrow HS
          go_wp2
          go_roundw
          case rel => exact ⟨v', q + 1, at_ + st, st, xs ++ [-(h - 1) - 1], rfl, by omega, by go_num, rfl, rfl, by omega, by omega, by omega, by omega, HT⟩
          case measure => simp [intOf]; omega
      have n0 : (m == 0) = false := by simpa using m0
      clear m0
      by_cases m1 : m = 1
      · subst m1
        clear n0
        go_wp2_with fail
        refine (pick_any 7 r (P + 3 + q) _ HR.out.1 (by omega) (by omega)).mono ?_
        rintro e w4 ⟨x, rfl, hx0, hx1, _, hR4, hg4⟩
        have hx2 : x < 7 := hx1 (by omega)
        have HS : Hid (Rdr w4 r (P + 3 + q + 1) ∧ w.grownBy w4 (some r) ∧ Owns w4 w.heap.size v q xs ∧ allB xs (-h) (h - 1) = true) := ⟨hR4, grown_trans HR.out.2.1 hg4, HR.out.2.2.1.read hg4 hrl, HR.out.2.2.2⟩
        clear hx1 hR4 hg4 HR
        by_cases k1 : -(h - 1) - 1 < at_ + x - 3
        · by_cases k2 : at_ + x - 3 < h - 1
          · have l1 : decide (-(h - 1) - 1 < at_ + x - 3) = true := by simpa using k1
            have l2 : decide (at_ + x - 3 < h - 1) = true := by simpa using k2
            go_wp2_with (at_builtin; refine append_ints rfl _ _ rfl w.heap.size v q xs rfl (HS.out.2.2.1.grown (grown_alloc _ _ _)) (some ⟨w4.heap.size, 0, none⟩) 1 1 [at_ + x - 3] rfl (ints_one _ _ _) (fun e => nomatch e) ?_ ?_ ?_)
            · omega
            · have := HS.out.2.1.size; simp; omega
            intro v' w5 hown hgrow
            have HT : Hid (Rdr w5 r (P + 3 + (q + 1)) ∧ w.grownBy w5 (some r) ∧ Owns w5 w.heap.size v' (q + 1) (xs ++ [at_ + x - 3]) ∧ allB (xs ++ [at_ + x - 3]) (-h) (h - 1) = true) := by
              refine ⟨?_, ?_, hown, allB_snoc HS.out.2.2.2 (by omega) (by omega)⟩
              · exact (Rdr.own (HS.out.1.alloc _) (HS.out.2.2.1.grown (grown_alloc _ _ _)) hgrow hrl).mono (by omega)
              · exact grown_row (grown_trans HS.out.2.1 (grown_alloc _ _ _)) hgrow (HS.out.2.2.1.block)
            clear hown hgrow HS
            go_wp2
            go_roundw
            case rel => exact ⟨v', q + 1, at_ + x - 3, st, xs ++ [at_ + x - 3], rfl, by omega, by go_num, rfl, rfl, by omega, by omega, by omega, by omega, HT⟩
            case measure => simp [intOf]; omega
          · have l1 : decide (-(h - 1) - 1 < at_ + x - 3) = true := by simpa using k1
            have l2 : decide (at_ + x - 3 < h - 1) = false := by simp; omega
            go_wp2_with (at_builtin; refine append_ints rfl _ _ rfl w.heap.size v q xs rfl (HS.out.2.2.1.grown (grown_alloc _ _ _)) (some ⟨w4.heap.size, 0, none⟩) 1 1 [h - 1] rfl (ints_one _ _ _) (fun e => nomatch e) ?_ ?_ ?_)
            · omega
            · have := HS.out.2.1.size; simp; omega
            intro v' w5 hown hgrow
            have HT : Hid (Rdr w5 r (P + 3 + (q + 1)) ∧ w.grownBy w5 (some r) ∧ Owns w5 w.heap.size v' (q + 1) (xs ++ [h - 1]) ∧ allB (xs ++ [h - 1]) (-h) (h - 1) = true) := by
              refine ⟨?_, ?_, hown, allB_snoc HS.out.2.2.2 (by omega) (by omega)⟩
              · exact (Rdr.own (HS.out.1.alloc _) (HS.out.2.2.1.grown (grown_alloc _ _ _)) hgrow hrl).mono (by omega)
              · exact grown_row (grown_trans HS.out.2.1 (grown_alloc _ _ _)) hgrow (HS.out.2.2.1.block)
            clear hown hgrow HS
            go_wp2
            go_roundw
            case rel => exact ⟨v', q + 1, at_ + x - 3, st, xs ++ [h - 1], rfl, by omega, by go_num, rfl, rfl, by omega, by omega, by omega, by omega, HT⟩
            case measure => simp [intOf]; omega
        · have l1 : decide (-(h - 1) - 1 < at_ + x - 3) = false := by simp; omega
          have l2 : -(h - 1) - 1 < h - 1 := by omega
          go_wp2_with (at_builtin; refine append_ints rfl _ _ rfl w.heap.size v q xs rfl (HS.out.2.2.1.grown (grown_alloc _ _ _)) (some ⟨w4.heap.size, 0, none⟩) 1 1 [-(h - 1) - 1] rfl (ints_one _ _ _) (fun e => nomatch e) ?_ ?_ ?_)
          · omega
          · have := HS.out.2.1.size; simp; omega
          intro v' w5 hown hgrow
          have HT : Hid (Rdr w5 r (P + 3 + (q + 1)) ∧ w.grownBy w5 (some r) ∧ Owns w5 w.heap.size v' (q + 1) (xs ++ [-(h - 1) - 1]) ∧ allB (xs ++ [-(h - 1) - 1]) (-h) (h - 1) = true) := by
            refine ⟨?_, ?_, hown, allB_snoc HS.out.2.2.2 (by omega) (by omega)⟩
            · exact (Rdr.own (HS.out.1.alloc _) (HS.out.2.2.1.grown (grown_alloc _ _ _)) hgrow hrl).mono (by omega)
            · exact grown_row (grown_trans HS.out.2.1 (grown_alloc _ _ _)) hgrow (HS.out.2.2.1.block)
          clear hown hgrow HS
          go_wp2
          go_roundw
          case rel => exact ⟨v', q + 1, at_ + x - 3, st, xs ++ [-(h - 1) - 1], rfl, by omega, by go_num, rfl, rfl, by omega, by omega, by omega, by omega, HT⟩
          case measure => simp [intOf]; omega
      have n1 : (m == 1) = false := by simpa using m1
      clear m1
      by_cases m2 : m = 2
      · subst m2
        clear n0 n1
        go_wp2_with fail
        refine (pick_any 250 r (P + 3 + q) _ HR.out.1 (by omega) (by omega)).mono ?_
        rintro e w4 ⟨x, rfl, hx0, hx1, _, hR4, hg4⟩
        have hx2 : x < 250 := hx1 (by omega)
        have HS : Hid (Rdr w4 r (P + 3 + q + 1) ∧ w.grownBy w4 (some r) ∧ Owns w4 w.heap.size v q xs ∧ allB xs (-h) (h - 1) = true) := ⟨hR4, grown_trans HR.out.2.1 hg4, HR.out.2.2.1.read hg4 hrl, HR.out.2.2.2⟩
        clear hx1 hR4 hg4 HR
        by_cases k1 : -(h - 1) - 1 < x * 257 - 32000
        · by_cases k2 : x * 257 - 32000 < h - 1
          · have l1 : decide (-(h - 1) - 1 < x * 257 - 32000) = true := by simpa using k1
            have l2 : decide (x * 257 - 32000 < h - 1) = true := by simpa using k2
            go_wp2_with (at_builtin; refine append_ints rfl _ _ rfl w.heap.size v q xs rfl (HS.out.2.2.1.grown (grown_alloc _ _ _)) (some ⟨w4.heap.size, 0, none⟩) 1 1 [x * 257 - 32000] rfl (ints_one _ _ _) (fun e => nomatch e) ?_ ?_ ?_)
            · omega
            · have := HS.out.2.1.size; simp; omega
            intro v' w5 hown hgrow
            have HT : Hid (Rdr w5 r (P + 3 + (q + 1)) ∧ w.grownBy w5 (some r) ∧ Owns w5 w.heap.size v' (q + 1) (xs ++ [x * 257 - 32000]) ∧ allB (xs ++ [x * 257 - 32000]) (-h) (h - 1) = true) := by
              refine ⟨?_, ?_, hown, allB_snoc HS.out.2.2.2 (by omega) (by omega)⟩
              · exact (Rdr.own (HS.out.1.alloc _) (HS.out.2.2.1.grown (grown_alloc _ _ _)) hgrow hrl).mono (by omega)
              · exact grown_row (grown_trans HS.out.2.1 (grown_alloc _ _ _)) hgrow (HS.out.2.2.1.block)
            clear hown hgrow HS
            go_wp2
            go_roundw
            case rel => exact ⟨v', q + 1, x * 257 - 32000, st, xs ++ [x * 257 - 32000], rfl, by omega, by go_num, rfl, rfl, by omega, by omega, by omega, by omega, HT⟩
            case measure => simp [intOf]; omega
          · have l1 : decide (-(h - 1) - 1 < x * 257 - 32000) = true := by simpa using k1
            have l2 : decide (x * 257 - 32000 < h - 1) = false := by simp; omega
            go_wp2_with (at_builtin; refine append_ints rfl _ _ rfl w.heap.size v q xs rfl (HS.out.2.2.1.grown (grown_alloc _ _ _)) (some ⟨w4.heap.size, 0, none⟩) 1 1 [h - 1] rfl (ints_one _ _ _) (fun e => nomatch e) ?_ ?_ ?_)
            · omega
            · have := HS.out.2.1.size; simp; omega
            intro v' w5 hown hgrow
            have HT : Hid (Rdr w5 r (P + 3 + (q + 1)) ∧ w.grownBy w5 (some r) ∧ Owns w5 w.heap.size v' (q + 1) (xs ++ [h - 1]) ∧ allB (xs ++ [h - 1]) (-h) (h - 1) = true) := by
              refine ⟨?_, ?_, hown, allB_snoc HS.out.2.2.2 (by omega) (by omega)⟩
              · exact (Rdr.own (HS.out.1.alloc _) (HS.out.2.2.1.grown (grown_alloc _ _ _)) hgrow hrl).mono (by omega)
              · exact grown_row (grown_trans HS.out.2.1 (grown_alloc _ _ _)) hgrow (HS.out.2.2.1.block)
            clear hown hgrow HS
            go_wp2
            go_roundw
            case rel => exact ⟨v', q + 1, x * 257 - 32000, st, xs ++ [h - 1], rfl, by omega, by go_num, rfl, rfl, by omega, by omega, by omega, by omega, HT⟩
            case measure => simp [intOf]; omega
        · have l1 : decide (-(h - 1) - 1 < x * 257 - 32000) = false := by simp; omega
          have l2 : -(h - 1) - 1 < h - 1 := by omega
          go_wp2_with (at_builtin; refine append_ints rfl _ _ rfl w.heap.size v q xs rfl (HS.out.2.2.1.grown (grown_alloc _ _ _)) (some ⟨w4.heap.size, 0, none⟩) 1 1 [-(h - 1) - 1] rfl (ints_one _ _ _) (fun e => nomatch e) ?_ ?_ ?_)
          · omega
          · have := HS.out.2.1.size; simp; omega
          intro v' w5 hown hgrow
          have HT : Hid (Rdr w5 r (P + 3 + (q + 1)) ∧ w.grownBy w5 (some r) ∧ Owns w5 w.heap.size v' (q + 1) (xs ++ [-(h - 1) - 1]) ∧ allB (xs ++ [-(h - 1) - 1]) (-h) (h - 1) = true) := by
            refine ⟨?_, ?_, hown, allB_snoc HS.out.2.2.2 (by omega) (by omega)⟩
            · exact (Rdr.own (HS.out.1.alloc _) (HS.out.2.2.1.grown (grown_alloc _ _ _)) hgrow hrl).mono (by omega)
            · exact grown_row (grown_trans HS.out.2.1 (grown_alloc _ _ _)) hgrow (HS.out.2.2.1.block)
          clear hown hgrow HS
          go_wp2
          go_roundw
          case rel => exact ⟨v', q + 1, x * 257 - 32000, st, xs ++ [-(h - 1) - 1], rfl, by omega, by go_num, rfl, rfl, by omega, by omega, by omega, by omega, HT⟩
          case measure => simp [intOf]; omega
      have n2 : (m == 2) = false := by simpa using m2
      clear m2
      by_cases m3 : m = 3
      · subst m3
        clear n0 n1 n2
        go_wp2_with fail
        refine (pick_any 3 r (P + 3 + q) _ HR.out.1 (by omega) (by omega)).mono ?_
        rintro e w4 ⟨x, rfl, hx0, hx1, _, hR4, hg4⟩
        have hx2 : x < 3 := hx1 (by omega)
        have HS : Hid (Rdr w4 r (P + 3 + q + 1) ∧ w.grownBy w4 (some r) ∧ Owns w4 w.heap.size v q xs ∧ allB xs (-h) (h - 1) = true) := ⟨hR4, grown_trans HR.out.2.1 hg4, HR.out.2.2.1.read hg4 hrl, HR.out.2.2.2⟩
        clear hx1 hR4 hg4 HR
        by_cases k1 : -(h - 1) - 1 < at_ + (st + x - 1)
        · by_cases k2 : at_ + (st + x - 1) < h - 1
          · have l1 : decide (-(h - 1) - 1 < at_ + (st + x - 1)) = true := by simpa using k1
            have l2 : decide (at_ + (st + x - 1) < h - 1) = true := by simpa using k2
            go_wp2_with (at_builtin; refine append_ints rfl _ _ rfl w.heap.size v q xs rfl (HS.out.2.2.1.grown (grown_alloc _ _ _)) (some ⟨w4.heap.size, 0, none⟩) 1 1 [at_ + (st + x - 1)] rfl (ints_one _ _ _) (fun e => nomatch e) ?_ ?_ ?_)
            · omega
            · have := HS.out.2.1.size; simp; omega
            intro v' w5 hown hgrow
            have HT : Hid (Rdr w5 r (P + 3 + (q + 1)) ∧ w.grownBy w5 (some r) ∧ Owns w5 w.heap.size v' (q + 1) (xs ++ [at_ + (st + x - 1)]) ∧ allB (xs ++ [at_ + (st + x - 1)]) (-h) (h - 1) = true) := by
              refine ⟨?_, ?_, hown, allB_snoc HS.out.2.2.2 (by omega) (by omega)⟩
              · exact (Rdr.own (HS.out.1.alloc _) (HS.out.2.2.1.grown (grown_alloc _ _ _)) hgrow hrl).mono (by omega)
              · exact grown_row (grown_trans HS.out.2.1 (grown_alloc _ _ _)) hgrow (HS.out.2.2.1.block)
            clear hown hgrow HS
            go_wp2
            go_roundw
            case rel => exact ⟨v', q + 1, at_ + (st + x - 1), st + x - 1, xs ++ [at_ + (st + x - 1)], rfl, by omega, by go_num, rfl, rfl, by omega, by omega, by omega, by omega, HT⟩
            case measure => simp [intOf]; omega
          · have l1 : decide (-(h - 1) - 1 < at_ + (st + x - 1)) = true := by simpa using k1
            have l2 : decide (at_ + (st + x - 1) < h - 1) = false := by simp; omega
            go_wp2_with (at_builtin; refine append_ints rfl _ _ rfl w.heap.size v q xs rfl (HS.out.2.2.1.grown (grown_alloc _ _ _)) (some ⟨w4.heap.size, 0, none⟩) 1 1 [h - 1] rfl (ints_one _ _ _) (fun e => nomatch e) ?_ ?_ ?_)
            · omega
            · have := HS.out.2.1.size; simp; omega
            intro v' w5 hown hgrow
            have HT : Hid (Rdr w5 r (P + 3 + (q + 1)) ∧ w.grownBy w5 (some r) ∧ Owns w5 w.heap.size v' (q + 1) (xs ++ [h - 1]) ∧ allB (xs ++ [h - 1]) (-h) (h - 1) = true) := by
              refine ⟨?_, ?_, hown, allB_snoc HS.out.2.2.2 (by omega) (by omega)⟩
              · exact (Rdr.own (HS.out.1.alloc _) (HS.out.2.2.1.grown (grown_alloc _ _ _)) hgrow hrl).mono (by omega)
              · exact grown_row (grown_trans HS.out.2.1 (grown_alloc _ _ _)) hgrow (HS.out.2.2.1.block)
            clear hown hgrow HS
            go_wp2
            go_roundw
            case rel => exact ⟨v', q + 1, at_ + (st + x - 1), st + x - 1, xs ++ [h - 1], rfl, by omega, by go_num, rfl, rfl, by omega, by omega, by omega, by omega, HT⟩
            case measure => simp [intOf]; omega
        · have l1 : decide (-(h - 1) - 1 < at_ + (st + x - 1)) = false := by simp; omega
          have l2 : -(h - 1) - 1 < h - 1 := by omega
          go_wp2_with (at_builtin; refine append_ints rfl _ _ rfl w.heap.size v q xs rfl (HS.out.2.2.1.grown (grown_alloc _ _ _)) (some ⟨w4.heap.size, 0, none⟩) 1 1 [-(h - 1) - 1] rfl (ints_one _ _ _) (fun e => nomatch e) ?_ ?_ ?_)
          · omega
          · have := HS.out.2.1.size; simp; omega
          intro v' w5 hown hgrow
          have HT : Hid (Rdr w5 r (P + 3 + (q + 1)) ∧ w.grownBy w5 (some r) ∧ Owns w5 w.heap.size v' (q + 1) (xs ++ [-(h - 1) - 1]) ∧ allB (xs ++ [-(h - 1) - 1]) (-h) (h - 1) = true) := by
            refine ⟨?_, ?_, hown, allB_snoc HS.out.2.2.2 (by omega) (by omega)⟩
            · exact (Rdr.own (HS.out.1.alloc _) (HS.out.2.2.1.grown (grown_alloc _ _ _)) hgrow hrl).mono (by omega)
            · exact grown_row (grown_trans HS.out.2.1 (grown_alloc _ _ _)) hgrow (HS.out.2.2.1.block)
          clear hown hgrow HS
          go_wp2
          go_roundw
          case rel => exact ⟨v', q + 1, at_ + (st + x - 1), st + x - 1, xs ++ [-(h - 1) - 1], rfl, by omega, by go_num, rfl, rfl, by omega, by omega, by omega, by omega, HT⟩
          case measure => simp [intOf]; omega
      have n3 : (m == 3) = false := by simpa using m3
      clear m3
      by_cases m4 : m = 4
      · subst m4
        clear n0 n1 n2 n3
        go_wp2_with fail
        refine (pick_any 9 r (P + 3 + q) _ HR.out.1 (by omega) (by omega)).mono ?_
        rintro e w4 ⟨x, rfl, hx0, hx1, _, hR4, hg4⟩
        have hx2 : x < 9 := hx1 (by omega)
        have HS : Hid (Rdr w4 r (P + 3 + q + 1) ∧ w.grownBy w4 (some r) ∧ Owns w4 w.heap.size v q xs ∧ allB xs (-h) (h - 1) = true) := ⟨hR4, grown_trans HR.out.2.1 hg4, HR.out.2.2.1.read hg4 hrl, HR.out.2.2.2⟩
        clear hx1 hR4 hg4 HR
        by_cases k1 : -(h - 1) - 1 < 4 * (x - 4)
        · by_cases k2 : 4 * (x - 4) < h - 1
          · have l1 : decide (-(h - 1) - 1 < 4 * (x - 4)) = true := by simpa using k1
            have l2 : decide (4 * (x - 4) < h - 1) = true := by simpa using k2
            go_wp2_with (at_builtin; refine append_ints rfl _ _ rfl w.heap.size v q xs rfl (HS.out.2.2.1.grown (grown_alloc _ _ _)) (some ⟨w4.heap.size, 0, none⟩) 1 1 [4 * (x - 4)] rfl (ints_one _ _ _) (fun e => nomatch e) ?_ ?_ ?_)
            · omega
            · have := HS.out.2.1.size; simp; omega
            intro v' w5 hown hgrow
            have HT : Hid (Rdr w5 r (P + 3 + (q + 1)) ∧ w.grownBy w5 (some r) ∧ Owns w5 w.heap.size v' (q + 1) (xs ++ [4 * (x - 4)]) ∧ allB (xs ++ [4 * (x - 4)]) (-h) (h - 1) = true) := by
              refine ⟨?_, ?_, hown, allB_snoc HS.out.2.2.2 (by omega) (by omega)⟩
              · exact (Rdr.own (HS.out.1.alloc _) (HS.out.2.2.1.grown (grown_alloc _ _ _)) hgrow hrl).mono (by omega)
              · exact grown_row (grown_trans HS.out.2.1 (grown_alloc _ _ _)) hgrow (HS.out.2.2.1.block)
            clear hown hgrow HS
            go_wp2
            go_roundw
            case rel => exact ⟨v', q + 1, 4 * (x - 4), st, xs ++ [4 * (x - 4)], rfl, by omega, by go_num, rfl, rfl, by omega, by omega, by omega, by omega, HT⟩
            case measure => simp [intOf]; omega
          · have l1 : decide (-(h - 1) - 1 < 4 * (x - 4)) = true := by simpa using k1
            have l2 : decide (4 * (x - 4) < h - 1) = false := by simp; omega
            go_wp2_with (at_builtin; refine append_ints rfl _ _ rfl w.heap.size v q xs rfl (HS.out.2.2.1.grown (grown_alloc _ _ _)) (some ⟨w4.heap.size, 0, none⟩) 1 1 [h - 1] rfl (ints_one _ _ _) (fun e => nomatch e) ?_ ?_ ?_)
            · omega
            · have := HS.out.2.1.size; simp; omega
            intro v' w5 hown hgrow
            have HT : Hid (Rdr w5 r (P + 3 + (q + 1)) ∧ w.grownBy w5 (some r) ∧ Owns w5 w.heap.size v' (q + 1) (xs ++ [h - 1]) ∧ allB (xs ++ [h - 1]) (-h) (h - 1) = true) := by
              refine ⟨?_, ?_, hown, allB_snoc HS.out.2.2.2 (by omega) (by omega)⟩
              · exact (Rdr.own (HS.out.1.alloc _) (HS.out.2.2.1.grown (grown_alloc _ _ _)) hgrow hrl).mono (by omega)
              · exact grown_row (grown_trans HS.out.2.1 (grown_alloc _ _ _)) hgrow (HS.out.2.2.1.block)
            clear hown hgrow HS
            go_wp2
            go_roundw
            case rel => exact ⟨v', q + 1, 4 * (x - 4), st, xs ++ [h - 1], rfl, by omega, by go_num, rfl, rfl, by omega, by omega, by omega, by omega, HT⟩
            case measure => simp [intOf]; omega
        · have l1 : decide (-(h - 1) - 1 < 4 * (x - 4)) = false := by simp; omega
          have l2 : -(h - 1) - 1 < h - 1 := by omega
          go_wp2_with (at_builtin; refine append_ints rfl _ _ rfl w.heap.size v q xs rfl (HS.out.2.2.1.grown (grown_alloc _ _ _)) (some ⟨w4.heap.size, 0, none⟩) 1 1 [-(h - 1) - 1] rfl (ints_one _ _ _) (fun e => nomatch e) ?_ ?_ ?_)
          · omega
          · have := HS.out.2.1.size; simp; omega
          intro v' w5 hown hgrow
          have HT : Hid (Rdr w5 r (P + 3 + (q + 1)) ∧ w.grownBy w5 (some r) ∧ Owns w5 w.heap.size v' (q + 1) (xs ++ [-(h - 1) - 1]) ∧ allB (xs ++ [-(h - 1) - 1]) (-h) (h - 1) = true) := by
            refine ⟨?_, ?_, hown, allB_snoc HS.out.2.2.2 (by omega) (by omega)⟩
            · exact (Rdr.own (HS.out.1.alloc _) (HS.out.2.2.1.grown (grown_alloc _ _ _)) hgrow hrl).mono (by omega)
            · exact grown_row (grown_trans HS.out.2.1 (grown_alloc _ _ _)) hgrow (HS.out.2.2.1.block)
          clear hown hgrow HS
          go_wp2
          go_roundw
          case rel => exact ⟨v', q + 1, 4 * (x - 4), st, xs ++ [-(h - 1) - 1], rfl, by omega, by go_num, rfl, rfl, by omega, by omega, by omega, by omega, HT⟩
          case measure => simp [intOf]; omega
      have n4 : (m == 4) = false := by simpa using m4
      clear m4
      have HS : Hid (Rdr wr r (P + 3 + q + 1) ∧ w.grownBy wr (some r) ∧ Owns wr w.heap.size v q xs ∧ allB xs (-h) (h - 1) = true) := ⟨HR.out.1.mono (by omega), HR.out.2⟩
      clear HR
      by_cases k1 : -(h - 1) - 1 < at_
      · by_cases k2 : at_ < h - 1
        · have l1 : decide (-(h - 1) - 1 < at_) = true := by simpa using k1
          have l2 : decide (at_ < h - 1) = true := by simpa using k2
          go_wp2_with (at_builtin; refine append_ints rfl _ _ rfl w.heap.size v q xs rfl (HS.out.2.2.1.grown (grown_alloc _ _ _)) (some ⟨wr.heap.size, 0, none⟩) 1 1 [at_] rfl (ints_one _ _ _) (fun e => nomatch e) ?_ ?_ ?_)
          · omega
          · have := HS.out.2.1.size; simp; omega
          intro v' w5 hown hgrow
          have HT : Hid (Rdr w5 r (P + 3 + (q + 1)) ∧ w.grownBy w5 (some r) ∧ Owns w5 w.heap.size v' (q + 1) (xs ++ [at_]) ∧ allB (xs ++ [at_]) (-h) (h - 1) = true) := by
            refine ⟨?_, ?_, hown, allB_snoc HS.out.2.2.2 (by omega) (by omega)⟩
            · exact (Rdr.own (HS.out.1.alloc _) (HS.out.2.2.1.grown (grown_alloc _ _ _)) hgrow hrl).mono (by omega)
            · exact grown_row (grown_trans HS.out.2.1 (grown_alloc _ _ _)) hgrow (HS.out.2.2.1.block)
          clear hown hgrow HS
          go_wp2
          go_roundw
          case rel => exact ⟨v', q + 1, at_, st, xs ++ [at_], rfl, by omega, by go_num, rfl, rfl, by omega, by omega, by omega, by omega, HT⟩
          case measure => simp [intOf]; omega
        · have l1 : decide (-(h - 1) - 1 < at_) = true := by simpa using k1
          have l2 : decide (at_ < h - 1) = false := by simp; omega
          go_wp2_with (at_builtin; refine append_ints rfl _ _ rfl w.heap.size v q xs rfl (HS.out.2.2.1.grown (grown_alloc _ _ _)) (some ⟨wr.heap.size, 0, none⟩) 1 1 [h - 1] rfl (ints_one _ _ _) (fun e => nomatch e) ?_ ?_ ?_)
          · omega
          · have := HS.out.2.1.size; simp; omega
          intro v' w5 hown hgrow
          have HT : Hid (Rdr w5 r (P + 3 + (q + 1)) ∧ w.grownBy w5 (some r) ∧ Owns w5 w.heap.size v' (q + 1) (xs ++ [h - 1]) ∧ allB (xs ++ [h - 1]) (-h) (h - 1) = true) := by
            refine ⟨?_, ?_, hown, allB_snoc HS.out.2.2.2 (by omega) (by omega)⟩
            · exact (Rdr.own (HS.out.1.alloc _) (HS.out.2.2.1.grown (grown_alloc _ _ _)) hgrow hrl).mono (by omega)
            · exact grown_row (grown_trans HS.out.2.1 (grown_alloc _ _ _)) hgrow (HS.out.2.2.1.block)
          clear hown hgrow HS
          go_wp2
          go_roundw
          case rel => exact ⟨v', q + 1, at_, st, xs ++ [h - 1], rfl, by omega, by go_num, rfl, rfl, by omega, by omega, by omega, by omega, HT⟩
          case measure => simp [intOf]; omega
      · have l1 : decide (-(h - 1) - 1 < at_) = false := by simp; omega
        have l2 : -(h - 1) - 1 < h - 1 := by omega
        go_wp2_with (at_builtin; refine append_ints rfl _ _ rfl w.heap.size v q xs rfl (HS.out.2.2.1.grown (grown_alloc _ _ _)) (some ⟨wr.heap.size, 0, none⟩) 1 1 [-(h - 1) - 1] rfl (ints_one _ _ _) (fun e => nomatch e) ?_ ?_ ?_)
        · omega
        · have := HS.out.2.1.size; simp; omega
        intro v' w5 hown hgrow
        have HT : Hid (Rdr w5 r (P + 3 + (q + 1)) ∧ w.grownBy w5 (some r) ∧ Owns w5 w.heap.size v' (q + 1) (xs ++ [-(h - 1) - 1]) ∧ allB (xs ++ [-(h - 1) - 1]) (-h) (h - 1) = true) := by
          refine ⟨?_, ?_, hown, allB_snoc HS.out.2.2.2 (by omega) (by omega)⟩
          · exact (Rdr.own (HS.out.1.alloc _) (HS.out.2.2.1.grown (grown_alloc _ _ _)) hgrow hrl).mono (by omega)
          · exact grown_row (grown_trans HS.out.2.1 (grown_alloc _ _ _)) hgrow (HS.out.2.2.1.block)
        clear hown hgrow HS
        go_wp2
        go_roundw
        case rel => exact ⟨v', q + 1, at_, st, xs ++ [-(h - 1) - 1], rfl, by omega, by go_num, rfl, rfl, by omega, by omega, by omega, by omega, HT⟩
        case measure => simp [intOf]; omega
    · obtain rfl : q = n := by omega
      have HF : Hid (Owns wr w.heap.size v q xs ∧ allB xs (-h) (h - 1) = true ∧ Rdr wr r (P + 70) ∧ w.grownBy wr (some r)) := ⟨HR.out.2.2.1, HR.out.2.2.2, HR.out.1.mono (by omega), HR.out.2.1⟩
      clear HR
      go_wp2
      go_ret
      exact ⟨v, xs, rfl, HF.out⟩


/-- Drawn samples that may be invalid. -/
def DrewA (r P : Nat) (w : World) (e : Ending) (w' : World) : Prop :=
  ∃ (v : Value) (len : Nat) (xs : List Int), e = .returned v ∧ len ≤ 66 ∧ Owns w' w.heap.size v len xs ∧ allB xs (-65537) 65537 = true ∧ Rdr w' r P ∧ w.grownBy w' (some r)

theorem rs_at (n k : Nat) (z : Int) (lo hi : Int) (r P : Nat) (w : World) (hR : Rdr w r P) (hP : P < 900000) (hn : n ≤ 66) (hk : k ≤ 16) (hz : (k : Int) + 1 = z) (hlo : -(2 ^ k : Int) = lo) (hhi : (2 ^ k : Int) - 1 = hi) :
    Calls Try.prog 49 #[.pointer (some ⟨r, 0, none⟩), .int .i64 (n : Int), .int .i64 z] w (DrewS n lo hi r (P + 70) w) := by
  subst hz; subst hlo; subst hhi
  exact randomSamples_any n k r P w hR hP hn hk
theorem rs_wide (n : Nat) (z : Int) (r P : Nat) (w : World) (hR : Rdr w r P) (hP : P < 900000) (hn : n ≤ 66) (hz : z = 16 ∨ z = 17 ∨ z = 8) :
    Calls Try.prog 49 #[.pointer (some ⟨r, 0, none⟩), .int .i64 (n : Int), .int .i64 z] w (DrewS n (-65537) 65537 r (P + 70) w) := by
  rcases hz with rfl | rfl | rfl
  · exact (rs_at n 15 16 (-32768) 32767 r P w hR hP hn (by omega) (by decide) (by decide) (by decide)).mono fun _ _ ⟨v, xs, h1, h2, h3, h4⟩ => ⟨v, xs, h1, h2, allB_wide h3 (by omega) (by omega), h4⟩
  · exact (rs_at n 16 17 (-65536) 65535 r P w hR hP hn (by omega) (by decide) (by decide) (by decide)).mono fun _ _ ⟨v, xs, h1, h2, h3, h4⟩ => ⟨v, xs, h1, h2, allB_wide h3 (by omega) (by omega), h4⟩
  · exact (rs_at n 7 8 (-128) 127 r P w hR hP hn (by omega) (by decide) (by decide) (by decide)).mono fun _ _ ⟨v, xs, h1, h2, h3, h4⟩ => ⟨v, xs, h1, h2, allB_wide h3 (by omega) (by omega), h4⟩

end Go.Proofs.Ytncbgofcimghnaa
