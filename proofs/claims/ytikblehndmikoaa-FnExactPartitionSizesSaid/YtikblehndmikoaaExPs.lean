/-
  The walk of 'FnExactPartitionSizes': it returns true and writes nothing that was there. For all arguments.
-/
import Derived.Test.YtikblehndmikoaaPs2
import Derived.Deep.RegionHeld3
namespace Go.Proofs.Ytikblehndmikoaa
open Go.RowKit

theorem ps_both (c o p : Int) : ∃ (ys : List Int) (n : Nat), n ≤ 1000000 ∧ Hid (∀ (w : World), Calls Try.prog 13 #[.int .i64 c, .int .i64 o, .int .i64 p] w (Made ys n w)) ∧ Hid (∀ (w : World), Calls Try.prog 11 #[.int .i64 c, .int .i64 o, .int .i64 p] w (Made ys n w)) :=
  ⟨psL c o p, psN c o p, by have := psN_le c o p; omega, fun w => sPS_any c o p w, fun w => iPS_any c o p w⟩

set_option maxRecDepth 100000 in
set_option maxHeartbeats 4000000 in
theorem FnExactPartitionSizes_walk (a0 : Int) (a1 : Int) (a2 : Int) (w : World)  :
    Calls Try.prog 9 #[.int .i64 a0, .int .i64 a1, .int .i64 a2] w (Holds w) := by
  obtain ⟨ys, n, hn, HS, HI⟩ := ps_both a0 a1 a2
  go_enter Try.func9, Try.ntmps9
  have HM := Lib.hid (Mem.start w)
  go_wp2_with fail
  refine (HS.out  _ ).mono ?_
  rintro e w1 ⟨v1, rfl, ho1, hg1⟩
  obtain ⟨L1, hs1, hm1⟩ := HM.out.own hg1 (Nat.le_refl _) ho1
  obtain ⟨p1, c1, rfl, _⟩ := ho1.reads
  have HS1 := Lib.hid hs1
  have HM := Lib.hid hm1
  clear ho1 hg1 hs1 hm1
  go_wp2_with fail
  refine (HI.out  _ ).mono ?_
  rintro e w2 ⟨v2, rfl, ho2, hg2⟩
  obtain ⟨L2, hs2, hm2⟩ := HM.out.own hg2 (Nat.le_refl _) ho2
  obtain ⟨p2, c2, rfl, _⟩ := ho2.reads
  have HS2 := Lib.hid hs2
  have HM := Lib.hid hm2
  clear ho2 hg2 hs2 hm2
  go_wp2_with fail
  refine (eqIntS_any ys ys p2 p1 n c2 n c1 true _ (HS2.out.toInts HM.out (by intro p hp; simp [hp])) (HS1.out.toInts HM.out (by intro p hp; simp [hp])) (by omega) (by simp)).mono ?_
  rintro e w3 ⟨rfl, hg3⟩
  have HM := Lib.hid (HM.out.grown hg3)
  clear hg3
  go_wp2_with fail
  refine (markIntS_any ys (.slice p2 n c2) _ n 1 _ (HM.out.owns HS2.out (by intro p hp; simp [hp])) (by omega) (by omega) (by omega)).mono ?_
  rintro e w4 ⟨rfl, ho4, hg4⟩
  obtain ⟨L4, hs4, hm4⟩ := Mem.write (A := [] ++ L1) (L1 := L2) (B := []) (HM.out.cast (by simp)) HS2.out hg4 ho4
  have HM := Lib.hid hm4
  have HSm := Lib.hid hs4
  clear hm4 ho4 hg4 hs4
  go_wp2_with fail
  refine (heldIntS_any p2 n c2 1 _ (HSm.out.toInts HM.out (by intro p hp; simp [hp])) (by omega) (by omega) (by omega)).mono ?_
  rintro e w5 ⟨rfl, rfl⟩
  go_wp2_with fail
  refine (HI.out  _ ).mono ?_
  rintro e w6 ⟨v6, rfl, ho6, hg6⟩
  obtain ⟨L6, hs6, hm6⟩ := HM.out.own hg6 (Nat.le_refl _) ho6
  obtain ⟨p6, c6, rfl, _⟩ := ho6.reads
  have HS6 := Lib.hid hs6
  have HM := Lib.hid hm6
  clear ho6 hg6 hs6 hm6
  go_wp2_with fail
  refine (eqIntS_any ys ys p6 p1 n c6 n c1 true _ (HS6.out.toInts HM.out (by intro p hp; simp [hp])) (HS1.out.toInts HM.out (by intro p hp; simp [hp])) (by omega) (by simp)).mono ?_
  rintro e w7 ⟨rfl, hg7⟩
  have HM := Lib.hid (HM.out.grown hg7)
  clear hg7
  go_wp2_with fail
  refine (heldIntS_any p2 n c2 1 _ (HSm.out.toInts HM.out (by intro p hp; simp [hp])) (by omega) (by omega) (by omega)).mono ?_
  rintro e w8 ⟨rfl, rfl⟩
  go_wp2
  go_ret
  exact ⟨rfl, HM.out.g⟩

end Go.Proofs.Ytikblehndmikoaa
