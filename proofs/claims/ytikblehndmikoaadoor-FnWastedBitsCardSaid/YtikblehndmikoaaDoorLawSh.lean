/-
  The walks of two laws on shifts: each returns true and writes nothing that was there. For every code.
-/
import Derived.Test.YtikblehndmikoaaDoorSh3
import Derived.Test.YtikblehndmikoaaDoorDrawS
import Derived.OwnWalk
namespace Go.Proofs.YtikblehndmikoaaDoor
open Go.RowKit

/-- A drawn list, in new memory. -/
def DrewW (w : World) (e : Ending) (w' : World) : Prop :=
  ∃ (ao : Option Addr) (len cap : Nat) (xs : List Int), e = .returned (.slice ao len cap) ∧ len ≤ 70 ∧ Ints w' ao len xs ∧ (∀ a, ao = some a → w.heap.size ≤ a.block) ∧ w.grownBy w' none
def DrewWI (w : World) (e : Ending) (w' : World) : Prop :=
  ∃ (ao : Option Addr) (len cap : Nat) (xs : List Int) (k : Int), e = .returned (.tuple #[.slice ao len cap, .int .i64 k]) ∧ len ≤ 70 ∧ (-1 ≤ k ∧ k ≤ 15) ∧ Ints w' ao len xs ∧ w.grownBy w' none
theorem owns_blocks {w : World} {base n c : Nat} {p : Option Addr} {xs : List Int} (h : Owns w base (.slice p n c) n xs) : ∀ a, p = some a → base ≤ a.block := by
  intro a e
  subst e
  rcases h.2 with ⟨e, _⟩ | ⟨g, cap, cur, e, hg, _⟩
  · cases e
  · injection e with e; injection e with e; subst e; exact hg

theorem BytesAt.grownH {w w' : World} {ao : Option Addr} {len : Nat} (h : BytesAt w ao len) (hg : w.grownBy w' none) : BytesAt w' ao len := by
  rcases h with h | ⟨b, off, ha, hc⟩
  · exact Or.inl h
  · refine Or.inr ⟨b, off, ha, fun i hi => ?_⟩
    obtain ⟨u, hu, he⟩ := hc i hi
    exact ⟨u, hu, hg.cell he (by simp)⟩

set_option maxRecDepth 100000 in
set_option maxHeartbeats 2000000 in
theorem drawWB_any (ao : Option Addr) (len cap : Nat) (w : World) (hb : BytesAt w ao len) (hlc : len ≤ cap) (hmax : len ≤ 9223372036854775807) :
    Calls Tryd.prog 7 #[.slice ao len cap] w (DrewW w) := by
  have hnew := newReader_any ao len cap w hb hlc hmax
  clear hb hlc hmax
  obtain ⟨r, hr⟩ : ∃ r, w.heap.size = r := ⟨_, rfl⟩
  go_enter Tryd.func7, Tryd.ntmps7
  go_wp2_with fail
  refine hnew.mono ?_
  rintro e w0 ⟨rfl, hR, hg0⟩
  rw [hr] at hR ⊢
  have HG0 := Lib.hid hg0
  have HRR := Lib.hid hr
  have hrl : r < w0.heap.size := hR.lt
  have hw0 := hg0.size
  clear hnew hg0 hr
  go_wp2_with fail
  refine (anySamples_any r 0 _ hR (by omega)).mono ?_
  rintro e w1 ⟨v1, l1, xs, rfl, hl1, ho1, _, hR1, hg1⟩
  obtain ⟨a1, c1, rfl, _⟩ := ho1.reads
  have HS : Hid (Owns w1 w0.heap.size (.slice a1 l1 c1) l1 xs ∧ w0.grownBy w1 (some r)) := ⟨ho1, hg1⟩
  clear hR ho1 hg1
  go_wp2_with fail
  refine (pick_any 2 r (0 + 200) _ hR1 (by omega) (by omega)).mono ?_
  rintro e w2 ⟨m, rfl, _, _, _, hR2, hg2⟩
  have HS2 : Hid (Owns w2 w0.heap.size (.slice a1 l1 c1) l1 xs ∧ w0.grownBy w2 (some r)) := ⟨HS.out.1.read hg2 hrl, grown_trans HS.out.2 hg2⟩
  clear hR1 hg2 HS
  by_cases h0 : m = 0
  · subst h0
    go_wp2_with fail
    refine (anyCount_any r (0 + 200 + 1) _ hR2 (by omega)).mono ?_
    rintro e w3 ⟨n, rfl, hn, hR3, hg3⟩
    have HG3 := Lib.hid (grown_trans HS2.out.2 hg3)
    clear hR2 hg3
    go_wp2_with fail
    refine (rs_at n 5 6 (-32) 31 r (0 + 200 + 1 + 1) w3 hR3 (by omega) (by omega) (by omega) (by decide) (by decide) (by decide)).mono ?_
    rintro e w4 ⟨v4, ys, rfl, ho4, hb4, hR4, hg4⟩
    obtain ⟨a4, c4, rfl, _⟩ := ho4.reads
    have HS4 : Hid (Owns w4 w3.heap.size (.slice a4 n c4) n ys ∧ w0.grownBy w4 (some r) ∧ allB ys (-65536) 65536 = true) := ⟨ho4, grown_trans HG3.out hg4, allB_wide hb4 (by omega) (by omega)⟩
    have hr3 : r < w3.heap.size := hR3.lt
    clear hR3 ho4 hb4 hg4
    go_wp2_with fail
    refine (pick_any 6 r (0 + 200 + 1 + 1 + 70) _ hR4 (by omega) (by omega)).mono ?_
    rintro e w5 ⟨q, rfl, hq0, hq1, _, hR5, hg5⟩
    obtain ⟨q, rfl⟩ := Int.eq_ofNat_of_zero_le hq0
    have hq : q < 6 := by have := hq1 (by omega); omega
    have HS5 : Hid (Ints w5 a4 n ys ∧ w0.grownBy w5 (some r) ∧ allB ys (-65536) 65536 = true) := ⟨(HS4.out.1.read hg5 hr3).toInts, grown_trans HS4.out.2.1 hg5, HS4.out.2.2⟩
    clear hR4 hg5 HS4 hq0 hq1
    go_wp2_with fail
    refine (sUpL_any ys q n a4 c4 w5 HS5.out.1 (by omega) HS5.out.2.2 (by omega)).mono ?_
    rintro e w6 ⟨v6, rfl, ho6, hg6⟩
    obtain ⟨a6, c6, rfl, _⟩ := ho6.reads
    have HF : Hid (n ≤ 70 ∧ Ints w6 a6 n (upL q ys) ∧ (∀ a, a6 = some a → w.heap.size ≤ a.block) ∧ w.grownBy w6 none) := by
      have hs := HS5.out.2.1.size
      exact ⟨by omega, ho6.toInts, fun a e => by have := owns_blocks ho6 a e; omega, grown_new HG0.out (grown_trans HS5.out.2.1 (grown_any hg6 _)) (by rw [HRR.out]; exact Nat.le_refl _)⟩
    clear hR5 HS5 ho6 hg6
    go_wp2
    go_ret
    exact ⟨a6, n, c6, _, rfl, HF.out⟩
  · have h0' : (m == 0) = false := by simpa using h0
    have HF : Hid (l1 ≤ 70 ∧ Ints w2 a1 l1 xs ∧ (∀ a, a1 = some a → w.heap.size ≤ a.block) ∧ w.grownBy w2 none) :=
      ⟨by omega, HS2.out.1.toInts, fun a e => by have := owns_blocks HS2.out.1 a e; omega, grown_new HG0.out HS2.out.2 (by rw [HRR.out]; exact Nat.le_refl _)⟩
    clear hR2 HS2 h0
    go_wp2
    go_ret
    exact ⟨a1, l1, c1, xs, rfl, HF.out⟩

set_option maxRecDepth 100000 in
set_option maxHeartbeats 2000000 in
theorem drawSD_any (ao : Option Addr) (len cap : Nat) (w : World) (hb : BytesAt w ao len) (hlc : len ≤ cap) (hmax : len ≤ 9223372036854775807) :
    Calls Tryd.prog 32 #[.slice ao len cap] w (DrewWI w) := by
  have hnew := newReader_any ao len cap w hb hlc hmax
  have HBA := Lib.hid hb
  clear hb
  obtain ⟨r, hr⟩ : ∃ r, w.heap.size = r := ⟨_, rfl⟩
  go_enter Tryd.func32, Tryd.ntmps32
  go_wp2_with fail
  refine hnew.mono ?_
  rintro e w0 ⟨rfl, hR, hg0⟩
  rw [hr] at hR ⊢
  have HG0 := Lib.hid hg0
  have HRR := Lib.hid hr
  have hrl : r < w0.heap.size := hR.lt
  clear hnew hg0 hr
  go_wp2_with fail
  refine (drawWB_any ao len cap w0 (HBA.out.grownH HG0.out) hlc hmax).mono ?_
  rintro e w1 ⟨a1, l1, c1, xs, rfl, hl1, hx1, hb1, hg1⟩
  have hR1 := hR.kept hg1 (by simp)
  have HS : Hid (Ints w1 a1 l1 xs ∧ (∀ a, a1 = some a → w0.heap.size ≤ a.block) ∧ w.grownBy w1 none) := ⟨hx1, hb1, grown_trans HG0.out hg1⟩
  clear hR hx1 hb1 hg1
  go_wp2_with fail
  refine (one_at [0, 1, 2, 3, 14, 15, -1] _ r 0 _ _ w1 rfl hR1 (by omega) (by decide) (by decide)).mono ?_
  rintro e w2 ⟨k, hk, rfl, hR2, hg2⟩
  have hk2 : -1 ≤ k ∧ k ≤ 15 := by simp at hk; omega
  have HF : Hid (Ints w2 a1 l1 xs ∧ w.grownBy w2 none) :=
    ⟨HS.out.1.kept hg2 (fun a e h => by have := HS.out.2.1 a e; injection h with h; omega), grown_new HS.out.2.2 hg2 (by rw [HRR.out]; exact Nat.le_refl _)⟩
  clear hR1 hk hR2 hg2 HS
  go_wp2
  go_ret2
  exact ⟨a1, l1, c1, xs, k, rfl, hl1, hk2, HF.out⟩

set_option maxHeartbeats 1000000 in
theorem drawSU_any (ao : Option Addr) (len cap : Nat) (w : World) (hb : BytesAt w ao len) (hlc : len ≤ cap) (hmax : len ≤ 9223372036854775807) :
    Calls Tryd.prog 13 #[.slice ao len cap] w (DrewWI w) := by
  have k := drawSD_any ao len cap w hb hlc hmax
  clear hb hlc hmax
  go_enter Tryd.func13, Tryd.ntmps13
  go_wp2_with fail
  refine k.mono ?_
  rintro e w2 ⟨a1, l1, c1, xs, k, rfl, h⟩
  have HF := Lib.hid h
  clear h
  go_wp2
  go_ret2
  exact ⟨a1, l1, c1, xs, k, rfl, HF.out⟩

theorem up_down {s : Nat} {xs : List Int} (h : evenL s xs = true) : upL s (downL s xs) = xs := by
  unfold upL downL
  rw [List.map_map]
  conv => rhs; rw [← List.map_id xs]
  refine List.map_congr_left fun x hx => ?_
  have hm : ∀ y ∈ xs, y % 2 ^ s = 0 := by
    unfold evenL at h
    rw [List.all_eq_true] at h
    intro y hy
    simpa using h y hy
  exact Int.ediv_mul_cancel (Int.dvd_of_emod_eq_zero (hm x hx))
theorem up_up (s t : Nat) (xs : List Int) : upL t (upL s xs) = upL (s + t) xs := by
  unfold upL
  rw [List.map_map]
  refine List.map_congr_left fun x _ => ?_
  show x * 2 ^ s * 2 ^ t = x * 2 ^ (s + t)
  rw [Int.pow_add, Int.mul_assoc]
theorem down_valid {s : Nat} {xs : List Int} (hs : s ≤ 14) (h : vS xs = true) : vS (downL s xs) = true := by
  unfold vS
  rw [Bool.and_eq_true, decide_eq_true_eq]
  refine ⟨by unfold downL; rw [List.length_map]; exact vS_len h, ?_⟩
  unfold allB downL
  rw [List.all_eq_true]
  intro y hy
  obtain ⟨x, hx, rfl⟩ := List.mem_map.1 hy
  have hb : inB x (-65536) 65536 = true := by have := vS_all h; unfold allB at this; rw [List.all_eq_true] at this; exact this x hx
  have hb2 : -65536 ≤ x ∧ x ≤ 65536 := by simpa [inB] using hb
  have := down_range hb2.1 hb2.2 hs
  simp [inB]; omega
/-- What was shifted down comes back. -/
theorem u_of_w {k : Int} {xs : List Int} (h : wOk k xs = true) : uOk k (wL k xs) = true ∧ uL k (wL k xs) = xs ∧ uN k (wL k xs) = wN k xs := by
  obtain ⟨h1, h2, h3, h4⟩ := wOk_of h
  have e : wL k xs = downL k.toNat xs := by unfold wL; rw [if_pos h]
  have e2 : upL k.toNat (wL k xs) = xs := by rw [e]; exact up_down h4
  have ho : uOk k (wL k xs) = true := by
    unfold uOk; rw [e2, h1, e, down_valid (by omega) h1]; simp [inB]; omega
  refine ⟨ho, ?_, ?_⟩
  · unfold uL; rw [if_pos ho, e2]
  · unfold uN wN; rw [if_pos ho, if_pos h, e]; simp [downL]
/-- Shifts up add up. -/
theorem u_steps {k : Int} {xs : List Int} (h : uOk k xs = true) (hk : k ≠ 14) : uOk 1 (uL k xs) = uOk (k + 1) xs ∧ uL 1 (uL k xs) = uL (k + 1) xs ∧ uN 1 (uL k xs) = uN (k + 1) xs := by
  obtain ⟨h1, h2, h3, h4⟩ := uOk_of h
  have e : uL k xs = upL k.toNat xs := by unfold uL; rw [if_pos h]
  have e2 : upL 1 (uL k xs) = upL (k + 1).toNat xs := by rw [e, up_up, show k.toNat + 1 = (k + 1).toNat by omega]
  have eo : uOk 1 (uL k xs) = uOk (k + 1) xs := by
    unfold uOk
    rw [show (1 : Int).toNat = 1 from rfl, e2, h1, e, h4]
    have a : inB 1 0 14 = true := inB_true (by omega) (by omega)
    have b : inB (k + 1) 0 14 = true := inB_true (by omega) (by omega)
    rw [a, b]
  refine ⟨eo, ?_, ?_⟩
  · unfold uL at *
    rw [eo]
    rw [show (1 : Int).toNat = 1 from rfl, e2]
  · unfold uN
    rw [eo, e]
    simp [upL]

end Go.Proofs.YtikblehndmikoaaDoor
