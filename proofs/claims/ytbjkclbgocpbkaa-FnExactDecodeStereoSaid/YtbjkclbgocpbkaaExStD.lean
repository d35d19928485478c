/-
  The walk of 'FnExactDecodeStereo': it returns true and writes nothing that was there. For all arguments.
-/
import Derived.Test.YtbjkclbgocpbkaaStE
import Derived.OwnWalk
import Derived.Deep.RegionHeld3
namespace Go.Proofs.Ytbjkclbgocpbkaa
open Go.RowKit

theorem st_bothExStD (m : Int) (xs ys' : List Int) (len len' : Nat) (hlen : len ≤ 1048576) (hlen' : len' ≤ 1048576) : ∃ (ys zs : List Int) (n : Nat) (ok : Bool), n ≤ 1000000 ∧
    Hid (∀ (ao : Option Addr) (cap : Nat) (bo : Option Addr) (cap' : Nat) (w : World), Ints w ao len xs → len ≤ cap → (ao = none → cap = 0) → Ints w bo len' ys' → len' ≤ cap' → (bo = none → cap' = 0) → Calls Try.prog 28 #[.int .i64 m, .slice ao len cap, .slice bo len' cap'] w (MadeTwoB ys zs n ok w)) ∧
    Hid (∀ (ao : Option Addr) (cap : Nat) (bo : Option Addr) (cap' : Nat) (w : World), Ints w ao len xs → len ≤ cap → (ao = none → cap = 0) → Ints w bo len' ys' → len' ≤ cap' → (bo = none → cap' = 0) → Calls Try.prog 26 #[.int .i64 m, .slice ao len cap, .slice bo len' cap'] w (MadeTwoB ys zs n ok w)) := by
  refine ⟨dA m xs ys', dB m xs ys', dN m xs ys', dOk m xs ys', by have := dN_le m xs ys'; omega, ?_, ?_⟩
  all_goals intro ao cap bo cap' w hx _ hn hy _ hn'
  · exact sDec_any m xs ys' ao bo len cap len' cap' w hx hy hn hn' (by omega) (by omega)
  · exact iDec_any m xs ys' ao bo len cap len' cap' w hx hy (by omega) (by omega)

set_option maxRecDepth 100000 in
set_option maxHeartbeats 4000000 in
theorem FnExactDecodeStereo_walk (a0 : Int) (ao1 : Option Addr) (len1 cap1 : Nat) (ao2 : Option Addr) (len2 cap2 : Nat) (w : World) (xs1 : List Int) (hx1 : Ints w ao1 len1 xs1) (_hlc1 : len1 ≤ cap1) (hmax1 : len1 ≤ 9223372036854775807) (xs2 : List Int) (hx2 : Ints w ao2 len2 xs2) (_hlc2 : len2 ≤ cap2) (hmax2 : len2 ≤ 9223372036854775807) :
    Calls Try.prog 13 #[.int .i64 a0, .slice ao1 len1 cap1, .slice ao2 len2 cap2] w (Holds w) := by
  by_cases hlen1 : 1048576 < len1
  · clear hx1 hx2
    go_enter Try.func13, Try.ntmps13
    go_wp2
    go_ret
    exact ⟨rfl, grown_refl _ _⟩
  have hlen1' : len1 ≤ 1048576 := by omega
  have hm1 : decide (1048576 < (len1 : Int)) = false := by simp; omega
  by_cases hlen2 : 1048576 < len2
  · clear hx1 hx2
    go_enter Try.func13, Try.ntmps13
    go_wp2
    go_ret
    exact ⟨rfl, grown_refl _ _⟩
  have hlen2' : len2 ≤ 1048576 := by omega
  have hm2 : decide (1048576 < (len2 : Int)) = false := by simp; omega
  obtain ⟨ys, zs, n, ok, hn, HS, HI⟩ := st_bothExStD a0 xs1 xs2 len1 len2 (by omega) (by omega)
  have HX1 := Lib.hid hx1
  have HX2 := Lib.hid hx2
  clear hx1 hmax1 hlen1 hx2 hmax2 hlen2
  go_enter Try.func13, Try.ntmps13
  have HM := Lib.hid (Mem.start w)
  go_wp2_with fail
  refine (toIntS_any xs1 ao1 len1 cap1 _ (HX1.out.grown HM.out.g) (by omega)).mono ?_
  rintro e w1 ⟨v1, rfl, ho1, hg1⟩
  obtain ⟨p1, c1, rfl, hlc1, hn1, hx1, _⟩ := ho1.reads
  have HN1 := Lib.hid hn1
  have HY1 := Lib.hid hx1
  have HM := Lib.hid (HM.out.grown hg1)
  clear ho1 hg1 hx1 hn1
  go_wp2_with fail
  refine (toIntS_any xs2 ao2 len2 cap2 _ (HX2.out.grown HM.out.g) (by omega)).mono ?_
  rintro e w2 ⟨v2, rfl, ho2, hg2⟩
  obtain ⟨p2, c2, rfl, hlc2, hn2, hx2, _⟩ := ho2.reads
  have HN2 := Lib.hid hn2
  have HY2 := Lib.hid hx2
  have HY1 := Lib.hid (HY1.out.grown hg2)
  have HM := Lib.hid (HM.out.grown hg2)
  clear ho2 hg2 hx2 hn2
  go_wp2_with fail
  refine (HS.out p1 c1 p2 c2 _ HY1.out hlc1 HN1.out HY2.out hlc2 HN2.out).mono ?_
  rintro e w3 ⟨v3, u3, rfl, ho3, hp3, hd3, hg3⟩
  obtain ⟨L3, M3, hs3, ht3, hm3⟩ := HM.out.own2 hg3 (Nat.le_refl _) ho3 hp3 hd3
  obtain ⟨p3, c3, rfl, _⟩ := ho3.reads
  obtain ⟨r3, d3, rfl, _⟩ := hp3.reads
  have HS3 := Lib.hid hs3
  have HT3 := Lib.hid ht3
  have HM := Lib.hid hm3
  have HY1 := Lib.hid (HY1.out.grown hg3)
  have HY2 := Lib.hid (HY2.out.grown hg3)
  clear ho3 hp3 hd3 hg3 hs3 ht3 hm3
  go_wp2_with fail
  refine (toIntS_any xs1 ao1 len1 cap1 _ (HX1.out.grown HM.out.g) (by omega)).mono ?_
  rintro e w4 ⟨v4, rfl, ho4, hg4⟩
  obtain ⟨L4, hs4, hm4⟩ := HM.out.own hg4 (Nat.le_refl _) ho4
  obtain ⟨p4, c4, rfl, hlc4, hn4, hx4, _⟩ := ho4.reads
  have HN4 := Lib.hid hn4
  have HY4 := Lib.hid hx4
  have HS4 := Lib.hid hs4
  have HM := Lib.hid hm4
  clear ho4 hg4 hs4 hm4 hx4 hn4
  go_wp2_with fail
  refine (toIntS_any xs2 ao2 len2 cap2 _ (HX2.out.grown HM.out.g) (by omega)).mono ?_
  rintro e w5 ⟨v5, rfl, ho5, hg5⟩
  obtain ⟨L5, hs5, hm5⟩ := HM.out.own hg5 (Nat.le_refl _) ho5
  obtain ⟨p5, c5, rfl, hlc5, hn5, hx5, _⟩ := ho5.reads
  have HN5 := Lib.hid hn5
  have HY5 := Lib.hid hx5
  have HY4 := Lib.hid (HY4.out.grown hg5)
  have HS5 := Lib.hid hs5
  have HM := Lib.hid hm5
  clear ho5 hg5 hs5 hm5 hx5 hn5
  go_wp2_with fail
  refine (HI.out p4 c4 p5 c5 _ HY4.out hlc4 HN4.out HY5.out hlc5 HN5.out).mono ?_
  rintro e w6 ⟨v6, u6, rfl, ho6, hp6, hd6, hg6⟩
  obtain ⟨L6, M6, hs6, ht6, hm6⟩ := HM.out.own2 hg6 (Nat.le_refl _) ho6 hp6 hd6
  obtain ⟨p6, c6, rfl, _⟩ := ho6.reads
  obtain ⟨r6, d6, rfl, _⟩ := hp6.reads
  have HS6 := Lib.hid hs6
  have HT6 := Lib.hid ht6
  have HM := Lib.hid hm6
  have HY4 := Lib.hid (HY4.out.grown hg6)
  have HY5 := Lib.hid (HY5.out.grown hg6)
  clear ho6 hp6 hd6 hg6 hs6 ht6 hm6
  go_wp2_with fail
  refine (eqIntS_any ys ys p6 p3 n c6 n c3 true _ (HS6.out.toInts HM.out (by intro p hp; simp [hp])) (HS3.out.toInts HM.out (by intro p hp; simp [hp])) (by omega) (by simp)).mono ?_
  rintro e w7 ⟨rfl, hg7⟩
  have HM := Lib.hid (HM.out.grown hg7)
  clear hg7
  go_wp2_with fail
  refine (eqIntS_any zs zs r6 r3 n d6 n d3 true _ (HT6.out.toInts HM.out (by intro p hp; simp [hp])) (HT3.out.toInts HM.out (by intro p hp; simp [hp])) (by omega) (by simp)).mono ?_
  rintro e w8 ⟨rfl, hg8⟩
  have HM := Lib.hid (HM.out.grown hg8)
  clear hg8
  go_wp2_with fail
  refine (toIntS_any xs1 ao1 len1 cap1 _ (HX1.out.grown HM.out.g) (by omega)).mono ?_
  rintro e w9 ⟨v9, rfl, ho9, hg9⟩
  obtain ⟨p9, c9, rfl, _, _, hx9, _⟩ := ho9.reads
  have HM := Lib.hid (HM.out.grown hg9)
  have HY9 := Lib.hid hx9
  clear ho9 hg9 hx9
  go_wp2_with fail
  refine (eqIntS_any xs1 xs1 p4 p9 len1 c4 len1 c9 true _ (HS4.out.toInts HM.out (by intro p hp; simp [hp])) HY9.out (by omega) (by simp)).mono ?_
  rintro e w10 ⟨rfl, hg10⟩
  have HM := Lib.hid (HM.out.grown hg10)
  clear hg10
  go_wp2_with fail
  refine (toIntS_any xs2 ao2 len2 cap2 _ (HX2.out.grown HM.out.g) (by omega)).mono ?_
  rintro e w11 ⟨v11, rfl, ho11, hg11⟩
  obtain ⟨p11, c11, rfl, _, _, hx11, _⟩ := ho11.reads
  have HM := Lib.hid (HM.out.grown hg11)
  have HY11 := Lib.hid hx11
  clear ho11 hg11 hx11
  go_wp2_with fail
  refine (eqIntS_any xs2 xs2 p5 p11 len2 c5 len2 c11 true _ (HS5.out.toInts HM.out (by intro p hp; simp [hp])) HY11.out (by omega) (by simp)).mono ?_
  rintro e w12 ⟨rfl, hg12⟩
  have HM := Lib.hid (HM.out.grown hg12)
  clear hg12
  go_wp2_with fail
  refine (markIntS_any xs1 (.slice p4 len1 c4) _ len1 (1) _ (HM.out.owns HS4.out (by intro p hp; simp [hp])) (by omega) (by omega) (by omega)).mono ?_
  rintro e w13 ⟨rfl, ho13, hg13⟩
  obtain ⟨L13, _, hm13⟩ := Mem.write (A := [] ++ L3 ++ M3) (L1 := L4) (B := [] ++ L5 ++ L6 ++ M6) (HM.out.cast (by simp)) HS4.out hg13 ho13
  have HM := Lib.hid hm13
  clear hm13 ho13 hg13
  go_wp2_with fail
  refine (markIntS_any xs2 (.slice p5 len2 c5) _ len2 (1 + (len1 : Int)) _ (HM.out.owns HS5.out (by intro p hp; simp [hp])) (by omega) (by omega) (by omega)).mono ?_
  rintro e w14 ⟨rfl, ho14, hg14⟩
  obtain ⟨L14, _, hm14⟩ := Mem.write (A := [] ++ L3 ++ M3 ++ L13) (L1 := L5) (B := [] ++ L6 ++ M6) (HM.out.cast (by simp)) HS5.out hg14 ho14
  have HM := Lib.hid hm14
  clear hm14 ho14 hg14
  go_wp2_with fail
  refine (eqIntS_any ys ys p6 p3 n c6 n c3 true _ (HS6.out.toInts HM.out (by intro p hp; simp [hp])) (HS3.out.toInts HM.out (by intro p hp; simp [hp])) (by omega) (by simp)).mono ?_
  rintro e w15 ⟨rfl, hg15⟩
  have HM := Lib.hid (HM.out.grown hg15)
  clear hg15
  go_wp2_with fail
  refine (eqIntS_any zs zs r6 r3 n d6 n d3 true _ (HT6.out.toInts HM.out (by intro p hp; simp [hp])) (HT3.out.toInts HM.out (by intro p hp; simp [hp])) (by omega) (by simp)).mono ?_
  rintro e w16 ⟨rfl, hg16⟩
  have HM := Lib.hid (HM.out.grown hg16)
  clear hg16
  go_wp2_with fail
  refine (markIntS_any ys (.slice p6 n c6) _ n 1 _ (HM.out.owns HS6.out (by intro p hp; simp [hp])) (by omega) (by omega) (by omega)).mono ?_
  rintro e w17 ⟨rfl, ho17, hg17⟩
  obtain ⟨L17, hs17, hm17⟩ := Mem.write (A := [] ++ L3 ++ M3 ++ L13 ++ L14) (L1 := L6) (B := [] ++ M6) (HM.out.cast (by simp)) HS6.out hg17 ho17
  have HM := Lib.hid hm17
  have HSm := Lib.hid hs17
  clear hm17 ho17 hg17 hs17
  go_wp2_with fail
  refine (markIntS_any zs (.slice r6 n d6) _ n (1 + (n : Int)) _ (HM.out.owns HT6.out (by intro p hp; simp [hp])) (by omega) (by omega) (by omega)).mono ?_
  rintro e w18 ⟨rfl, ho18, hg18⟩
  obtain ⟨L18, hs18, hm18⟩ := Mem.write (A := [] ++ L3 ++ M3 ++ L13 ++ L14 ++ L17) (L1 := M6) (B := []) (HM.out.cast (by simp)) HT6.out hg18 ho18
  have HM := Lib.hid hm18
  have HTm := Lib.hid hs18
  clear hm18 ho18 hg18 hs18
  go_wp2_with fail
  refine (heldIntS_any p6 n c6 1 _ (HSm.out.toInts HM.out (by intro p hp; simp [hp])) (by omega) (by omega) (by omega)).mono ?_
  rintro e w19 ⟨rfl, rfl⟩
  go_wp2_with fail
  refine (heldIntS_any r6 n d6 (1 + (n : Int)) _ (HTm.out.toInts HM.out (by intro p hp; simp [hp])) (by omega) (by omega) (by omega)).mono ?_
  rintro e w20 ⟨rfl, rfl⟩
  go_wp2_with fail
  refine (toIntS_any xs1 ao1 len1 cap1 _ (HX1.out.grown HM.out.g) (by omega)).mono ?_
  rintro e w21 ⟨v21, rfl, ho21, hg21⟩
  obtain ⟨p21, c21, rfl, hlc21, hn21, hx21, _⟩ := ho21.reads
  have HN21 := Lib.hid hn21
  have HY21 := Lib.hid hx21
  have HM := Lib.hid (HM.out.grown hg21)
  clear ho21 hg21 hx21 hn21
  go_wp2_with fail
  refine (toIntS_any xs2 ao2 len2 cap2 _ (HX2.out.grown HM.out.g) (by omega)).mono ?_
  rintro e w22 ⟨v22, rfl, ho22, hg22⟩
  obtain ⟨p22, c22, rfl, hlc22, hn22, hx22, _⟩ := ho22.reads
  have HN22 := Lib.hid hn22
  have HY22 := Lib.hid hx22
  have HY21 := Lib.hid (HY21.out.grown hg22)
  have HM := Lib.hid (HM.out.grown hg22)
  clear ho22 hg22 hx22 hn22
  go_wp2_with fail
  refine (HI.out p21 c21 p22 c22 _ HY21.out hlc21 HN21.out HY22.out hlc22 HN22.out).mono ?_
  rintro e w23 ⟨v23, u23, rfl, ho23, hp23, hd23, hg23⟩
  obtain ⟨L23, M23, hs23, ht23, hm23⟩ := HM.out.own2 hg23 (Nat.le_refl _) ho23 hp23 hd23
  obtain ⟨p23, c23, rfl, _⟩ := ho23.reads
  obtain ⟨r23, d23, rfl, _⟩ := hp23.reads
  have HS23 := Lib.hid hs23
  have HT23 := Lib.hid ht23
  have HM := Lib.hid hm23
  have HY21 := Lib.hid (HY21.out.grown hg23)
  have HY22 := Lib.hid (HY22.out.grown hg23)
  clear ho23 hp23 hd23 hg23 hs23 ht23 hm23
  go_wp2_with fail
  refine (eqIntS_any ys ys p23 p3 n c23 n c3 true _ (HS23.out.toInts HM.out (by intro p hp; simp [hp])) (HS3.out.toInts HM.out (by intro p hp; simp [hp])) (by omega) (by simp)).mono ?_
  rintro e w24 ⟨rfl, hg24⟩
  have HM := Lib.hid (HM.out.grown hg24)
  clear hg24
  go_wp2_with fail
  refine (eqIntS_any zs zs r23 r3 n d23 n d3 true _ (HT23.out.toInts HM.out (by intro p hp; simp [hp])) (HT3.out.toInts HM.out (by intro p hp; simp [hp])) (by omega) (by simp)).mono ?_
  rintro e w25 ⟨rfl, hg25⟩
  have HM := Lib.hid (HM.out.grown hg25)
  clear hg25
  go_wp2_with fail
  refine (heldIntS_any p6 n c6 1 _ (HSm.out.toInts HM.out (by intro p hp; simp [hp])) (by omega) (by omega) (by omega)).mono ?_
  rintro e w26 ⟨rfl, rfl⟩
  go_wp2_with fail
  refine (heldIntS_any r6 n d6 (1 + (n : Int)) _ (HTm.out.toInts HM.out (by intro p hp; simp [hp])) (by omega) (by omega) (by omega)).mono ?_
  rintro e w27 ⟨rfl, rfl⟩
  go_wp2
  go_ret
  exact ⟨rfl, HM.out.g⟩

end Go.Proofs.Ytbjkclbgocpbkaa
