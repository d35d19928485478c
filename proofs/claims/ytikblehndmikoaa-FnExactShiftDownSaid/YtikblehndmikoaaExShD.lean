/-
  The walk of 'FnExactShiftDown': it returns true and writes nothing that was there. For all arguments.
-/
import Derived.Test.YtikblehndmikoaaSh3
import Derived.Deep.RegionHeld3
namespace Go.Proofs.Ytikblehndmikoaa
open Go.RowKit

theorem sh_bothExShD (xs : List Int) (k : Int) (len : Nat) (hlen : len ≤ 1048576) : ∃ (ys : List Int) (n : Nat) (ok : Bool), n ≤ 1000000 ∧ Hid (∀ (ao : Option Addr) (cap : Nat) (w : World), Ints w ao len xs → len ≤ cap → (ao = none → cap = 0) → Calls Try.prog 17 #[.slice ao len cap, .int .i64 k] w (MadeOk ys n ok w)) ∧ Hid (∀ (ao : Option Addr) (cap : Nat) (w : World), Ints w ao len xs → len ≤ cap → (ao = none → cap = 0) → Calls Try.prog 16 #[.slice ao len cap, .int .i64 k] w (MadeOk ys n ok w)) :=
  ⟨wL k xs, wN k xs, wOk k xs, by have := wN_le k xs; omega, fun ao cap w hx _ _ => sDown_any k xs ao len cap w hx (by omega), fun ao cap w hx _ _ => iDown_any k xs ao len cap w hx (by omega)⟩

set_option maxRecDepth 100000 in
set_option maxHeartbeats 4000000 in
theorem FnExactShiftDown_walk (ao0 : Option Addr) (len0 cap0 : Nat) (a1 : Int) (w : World) (xs0 : List Int) (hx0 : Ints w ao0 len0 xs0) (_hlc0 : len0 ≤ cap0) (hmax0 : len0 ≤ 9223372036854775807) :
    Calls Try.prog 7 #[.slice ao0 len0 cap0, .int .i64 a1] w (Holds w) := by
  by_cases hlen0 : 1048576 < len0
  · clear hx0
    go_enter Try.func7, Try.ntmps7
    go_wp2
    go_ret
    exact ⟨rfl, grown_refl _ _⟩
  have hlen0' : len0 ≤ 1048576 := by omega
  have hm0 : decide (1048576 < (len0 : Int)) = false := by simp; omega
  obtain ⟨ys, n, ok, hn, HS, HI⟩ := sh_bothExShD xs0 a1 len0 (by omega)
  have HX0 := Lib.hid hx0
  clear hx0 hmax0 hlen0
  go_enter Try.func7, Try.ntmps7
  have HM := Lib.hid (Mem.start w)
  go_wp2_with fail
  refine (toIntS_any xs0 ao0 len0 cap0 _ (HX0.out.grown HM.out.g) (by omega)).mono ?_
  rintro e w1 ⟨v1, rfl, ho1, hg1⟩
  obtain ⟨p1, c1, rfl, hlc1, hn1, hx1, _⟩ := ho1.reads
  have HN1 := Lib.hid hn1
  have HY1 := Lib.hid hx1
  have HM := Lib.hid (HM.out.grown hg1)
  clear ho1 hg1 hx1 hn1
  go_wp2_with fail
  refine (HS.out p1 c1 _ HY1.out hlc1 HN1.out).mono ?_
  rintro e w2 ⟨v2, rfl, ho2, hg2⟩
  obtain ⟨L2, hs2, hm2⟩ := HM.out.own hg2 (Nat.le_refl _) ho2
  obtain ⟨p2, c2, rfl, _⟩ := ho2.reads
  have HS2 := Lib.hid hs2
  have HY1 := Lib.hid (HY1.out.grown hg2)
  have HM := Lib.hid hm2
  clear ho2 hg2 hs2 hm2
  go_wp2_with fail
  refine (toIntS_any xs0 ao0 len0 cap0 _ (HX0.out.grown HM.out.g) (by omega)).mono ?_
  rintro e w3 ⟨v3, rfl, ho3, hg3⟩
  obtain ⟨L3, hs3, hm3⟩ := HM.out.own hg3 (Nat.le_refl _) ho3
  obtain ⟨p3, c3, rfl, hlc3, hn3, hx3, _⟩ := ho3.reads
  have HN3 := Lib.hid hn3
  have HY3 := Lib.hid hx3
  have HS3 := Lib.hid hs3
  have HM := Lib.hid hm3
  clear ho3 hg3 hs3 hm3 hx3 hn3
  go_wp2_with fail
  refine (HI.out p3 c3 _ HY3.out hlc3 HN3.out).mono ?_
  rintro e w4 ⟨v4, rfl, ho4, hg4⟩
  obtain ⟨L4, hs4, hm4⟩ := HM.out.own hg4 (Nat.le_refl _) ho4
  obtain ⟨p4, c4, rfl, _⟩ := ho4.reads
  have HS4 := Lib.hid hs4
  have HY3 := Lib.hid (HY3.out.grown hg4)
  have HM := Lib.hid hm4
  clear ho4 hg4 hs4 hm4
  go_wp2_with fail
  refine (eqIntS_any ys ys p4 p2 n c4 n c2 true _ (HS4.out.toInts HM.out (by intro p hp; simp [hp])) (HS2.out.toInts HM.out (by intro p hp; simp [hp])) (by omega) (by simp)).mono ?_
  rintro e w5 ⟨rfl, hg5⟩
  have HM := Lib.hid (HM.out.grown hg5)
  clear hg5
  go_wp2_with fail
  refine (toIntS_any xs0 ao0 len0 cap0 _ (HX0.out.grown HM.out.g) (by omega)).mono ?_
  rintro e w6 ⟨v6, rfl, ho6, hg6⟩
  obtain ⟨p6, c6, rfl, _, _, hx6, _⟩ := ho6.reads
  have HM := Lib.hid (HM.out.grown hg6)
  have HY6 := Lib.hid hx6
  clear ho6 hg6 hx6
  go_wp2_with fail
  refine (eqIntS_any xs0 xs0 p3 p6 len0 c3 len0 c6 true _ (HS3.out.toInts HM.out (by intro p hp; simp [hp])) HY6.out (by omega) (by simp)).mono ?_
  rintro e w7 ⟨rfl, hg7⟩
  have HM := Lib.hid (HM.out.grown hg7)
  clear hg7
  go_wp2_with fail
  refine (markIntS_any xs0 (.slice p3 len0 c3) _ len0 (1) _ (HM.out.owns HS3.out (by intro p hp; simp [hp])) (by omega) (by omega) (by omega)).mono ?_
  rintro e w8 ⟨rfl, ho8, hg8⟩
  obtain ⟨L8, _, hm8⟩ := Mem.write (A := [] ++ L2) (L1 := L3) (B := [] ++ L4) (HM.out.cast (by simp)) HS3.out hg8 ho8
  have HM := Lib.hid hm8
  clear hm8 ho8 hg8
  go_wp2_with fail
  refine (eqIntS_any ys ys p4 p2 n c4 n c2 true _ (HS4.out.toInts HM.out (by intro p hp; simp [hp])) (HS2.out.toInts HM.out (by intro p hp; simp [hp])) (by omega) (by simp)).mono ?_
  rintro e w9 ⟨rfl, hg9⟩
  have HM := Lib.hid (HM.out.grown hg9)
  clear hg9
  go_wp2_with fail
  refine (markIntS_any ys (.slice p4 n c4) _ n 1 _ (HM.out.owns HS4.out (by intro p hp; simp [hp])) (by omega) (by omega) (by omega)).mono ?_
  rintro e w10 ⟨rfl, ho10, hg10⟩
  obtain ⟨L10, hs10, hm10⟩ := Mem.write (A := [] ++ L2 ++ L8) (L1 := L4) (B := []) (HM.out.cast (by simp)) HS4.out hg10 ho10
  have HM := Lib.hid hm10
  have HSm := Lib.hid hs10
  clear hm10 ho10 hg10 hs10
  go_wp2_with fail
  refine (heldIntS_any p4 n c4 1 _ (HSm.out.toInts HM.out (by intro p hp; simp [hp])) (by omega) (by omega) (by omega)).mono ?_
  rintro e w11 ⟨rfl, rfl⟩
  go_wp2_with fail
  refine (toIntS_any xs0 ao0 len0 cap0 _ (HX0.out.grown HM.out.g) (by omega)).mono ?_
  rintro e w12 ⟨v12, rfl, ho12, hg12⟩
  obtain ⟨p12, c12, rfl, hlc12, hn12, hx12, _⟩ := ho12.reads
  have HN12 := Lib.hid hn12
  have HY12 := Lib.hid hx12
  have HM := Lib.hid (HM.out.grown hg12)
  clear ho12 hg12 hx12 hn12
  go_wp2_with fail
  refine (HI.out p12 c12 _ HY12.out hlc12 HN12.out).mono ?_
  rintro e w13 ⟨v13, rfl, ho13, hg13⟩
  obtain ⟨L13, hs13, hm13⟩ := HM.out.own hg13 (Nat.le_refl _) ho13
  obtain ⟨p13, c13, rfl, _⟩ := ho13.reads
  have HS13 := Lib.hid hs13
  have HY12 := Lib.hid (HY12.out.grown hg13)
  have HM := Lib.hid hm13
  clear ho13 hg13 hs13 hm13
  go_wp2_with fail
  refine (eqIntS_any ys ys p13 p2 n c13 n c2 true _ (HS13.out.toInts HM.out (by intro p hp; simp [hp])) (HS2.out.toInts HM.out (by intro p hp; simp [hp])) (by omega) (by simp)).mono ?_
  rintro e w14 ⟨rfl, hg14⟩
  have HM := Lib.hid (HM.out.grown hg14)
  clear hg14
  go_wp2_with fail
  refine (heldIntS_any p4 n c4 1 _ (HSm.out.toInts HM.out (by intro p hp; simp [hp])) (by omega) (by omega) (by omega)).mono ?_
  rintro e w15 ⟨rfl, rfl⟩
  go_wp2
  go_ret
  exact ⟨rfl, HM.out.g⟩

end Go.Proofs.Ytikblehndmikoaa
