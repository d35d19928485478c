/-
  The walk of 'FnExactLinearRestore': it returns true and writes nothing that was there. For all arguments.
-/
import Derived.Test.YtgiiaijlahjfnaaLinR4
import Derived.Test.YtgiiaijlahjfnaaLin
import Derived.Deep.RegionHeld3
namespace Go.Proofs.Ytgiiaijlahjfnaa
open Go.RowKit

theorem rs_ex (ws rs cs : List Int) (sh : Int) (lw lr n : Nat) (h1 : lw ≤ 1048576) (h2 : lr ≤ 1048576) (h3 : n ≤ 1048576) : ∃ (ys : List Int) (m : Nat) (v : Bool), m ≤ 1000000 ∧
    Hid (∀ (ao : Option Addr) (cap : Nat) (bo : Option Addr) (bcap : Nat) (yo : Option Addr) (ycap : Nat) (w : World), Ints w ao lw ws → lw ≤ cap → (ao = none → cap = 0) → Ints w bo lr rs → lr ≤ bcap → (bo = none → bcap = 0) → Ints w yo n cs → n ≤ ycap → (yo = none → ycap = 0) → Calls Try.prog 18 #[.slice ao lw cap, .slice bo lr bcap, .agg #[.slice yo n ycap, .int .i64 sh]] w (MadeRB ys m v w)) ∧
    Hid (∀ (ao : Option Addr) (cap : Nat) (bo : Option Addr) (bcap : Nat) (yo : Option Addr) (ycap : Nat) (w : World), Ints w ao lw ws → lw ≤ cap → (ao = none → cap = 0) → Ints w bo lr rs → lr ≤ bcap → (bo = none → bcap = 0) → Ints w yo n cs → n ≤ ycap → (yo = none → ycap = 0) → Calls Try.prog 16 #[.slice ao lw cap, .slice bo lr bcap, .agg #[.slice yo n ycap, .int .i64 sh]] w (MadeRB ys m v w)) := by
  obtain ⟨ys, m, ok, h, hm⟩ := RS_there ws rs cs sh
  exact ⟨ys, m, ok, by omega, fun ao cap bo bcap yo ycap w hx _ hxn hr _ _ hy _ _ => sRS_any cs ws rs n lw lr m sh ys ok yo ao bo ycap cap bcap w hx hxn hr hy (by omega) (by omega) (by omega) h, fun ao cap bo bcap yo ycap w hx _ hxn hr _ _ hy _ _ => iRS_any cs ws rs n lw lr m sh ys ok yo ao bo ycap cap bcap w hx hxn hr hy (by omega) (by omega) (by omega) h⟩

set_option maxRecDepth 100000 in
set_option maxHeartbeats 4000000 in
theorem FnExactLinearRestore_walk (ao0 : Option Addr) (len0 cap0 : Nat) (ao1 : Option Addr) (len1 cap1 : Nat) (ao2 : Option Addr) (len2 cap2 : Nat) (a2 : Int) (w : World) (xs0 : List Int) (hx0 : Ints w ao0 len0 xs0) (hmax0 : len0 ≤ 9223372036854775807) (xs1 : List Int) (hx1 : Ints w ao1 len1 xs1) (hmax1 : len1 ≤ 9223372036854775807) (xs2 : List Int) (hx2 : Ints w ao2 len2 xs2) (hmax2 : len2 ≤ 9223372036854775807) :
    Calls Try.prog 10 #[.slice ao0 len0 cap0, .slice ao1 len1 cap1, .agg #[.slice ao2 len2 cap2, .int .i64 a2]] w (Holds w) := by
  by_cases hlen0 : 1048576 < len0
  · clear hx0 hx1 hx2
    go_enter Try.func10, Try.ntmps10
    go_wp2
    go_ret
    exact ⟨rfl, grown_alloc _ _ _⟩
  have hlen0' : len0 ≤ 1048576 := by omega
  have hm0 : decide (1048576 < (len0 : Int)) = false := by simp; omega
  by_cases hlen1 : 1048576 < len1
  · clear hx0 hx1 hx2
    go_enter Try.func10, Try.ntmps10
    go_wp2
    go_ret
    exact ⟨rfl, grown_alloc _ _ _⟩
  have hlen1' : len1 ≤ 1048576 := by omega
  have hm1 : decide (1048576 < (len1 : Int)) = false := by simp; omega
  by_cases hlen2 : 1048576 < len2
  · have ksz := szLinear_any ao2 len2 cap2 a2 1048576 _ (w.alloc (.cells #[.slice ao2 len2 cap2, .int .i64 a2] 39)) (by decide) (by decide) hmax2 rfl
    rw [if_neg (by omega)] at ksz
    clear hx0 hx1 hx2
    go_enter Try.func10, Try.ntmps10
    go_wp2_with fail
    refine ksz.mono ?_
    rintro e w1 ⟨rfl, hg⟩
    have HG : Hid (w.grownBy w1 none) := grown_trans (grown_alloc _ _ _) hg
    clear ksz hg
    go_wp2
    go_ret
    exact ⟨rfl, HG.out⟩
  have hlen2' : len2 ≤ 1048576 := by omega
  have hm2 : decide (1048576 < (len2 : Int)) = false := by simp; omega
  obtain ⟨ys, n, v, hn, HS, HI⟩ := rs_ex xs0 xs1 xs2 a2 len0 len1 len2 (by omega) (by omega) (by omega)
  have HX0 := Lib.hid hx0
  have HX1 := Lib.hid hx1
  have HX2 := Lib.hid hx2
  clear hx0 hmax0 hlen0 hx1 hmax1 hlen1 hx2 hmax2 hlen2
  have ksz := szLinear_any ao2 len2 cap2 a2 1048576 _ (w.alloc (.cells #[.slice ao2 len2 cap2, .int .i64 a2] 39)) (by decide) (by decide) (by omega) rfl
  rw [if_pos (by omega)] at ksz
  go_enter Try.func10, Try.ntmps10
  go_wp2_with fail
  refine ksz.mono ?_
  rintro e w0 ⟨rfl, hg0⟩
  have HM := Lib.hid (((Mem.start w).block (.cells #[.slice ao2 len2 cap2, .int .i64 a2] 39)).grown hg0)
  clear ksz hg0
  have qp20 := (two_cells (HM.out.get (b := w.heap.size) (o := .cells #[.slice ao2 len2 cap2, .int .i64 a2] 39) (by simp))).1
  have qp21 := (two_cells (HM.out.get (b := w.heap.size) (o := .cells #[.slice ao2 len2 cap2, .int .i64 a2] 39) (by simp))).2
  have HK := Lib.hid HM.out
  have tk1 : True := trivial
  have tk2 : True := trivial
  have tk3 : True := trivial
  go_wp2_with fail
  go_region_held3 (fun w' => w'.cell? ⟨w.heap.size, 0, none⟩ = some (.slice ao2 len2 cap2) ∧ w'.cell? ⟨w.heap.size, 1, none⟩ = some (.int .i64 a2)) (first | go_keep | exact ⟨by assumption, by assumption⟩) ((first
    | (go_at_call 23; have tk1' := tk1; clear tk1 tk1'; refine (toIntS_any xs0 ao0 len0 cap0 _ (HX0.out.grown (HK.out.grown (grown_drew _ _)).g) (by omega)).mono ?_; rintro e w1 ⟨v1, rfl, ho1, hg1⟩; obtain ⟨p1, c1, rfl, hlc1, hn1, hx1, _⟩ := ho1.reads; have HN1 := Lib.hid hn1; have HY1 := Lib.hid hx1; have HM1 := Lib.hid ((HK.out.grown (grown_drew _ _)).grown hg1); have hS1_0 := hg1.cell qp20 (by simp); have hS1_1 := hg1.cell qp21 (by simp); clear ho1 hg1 hx1 hn1)
    | (go_at_call 23; have tk2' := tk2; clear tk2 tk2'; refine (toIntS_any xs1 ao1 len1 cap1 _ (HX1.out.grown HM1.out.g) (by omega)).mono ?_; rintro e w2 ⟨v2, rfl, ho2, hg2⟩; obtain ⟨p2, c2, rfl, hlc2, hn2, hx2, _⟩ := ho2.reads; have HN2 := Lib.hid hn2; have HY2 := Lib.hid hx2; have HM2 := Lib.hid (HM1.out.grown hg2); have HY1 := Lib.hid (HY1.out.grown hg2); have hS2_0 := hg2.cell hS1_0 (by simp); have hS2_1 := hg2.cell hS1_1 (by simp); clear ho2 hg2 hx2 hn2)
    | (go_at_call 24; have tk3' := tk3; clear tk3 tk3'; refine (toLinear_any xs2 ao2 len2 cap2 a2 _ (HX2.out.grown HM2.out.g) (by omega)).mono ?_; rintro e w3 ⟨v3, rfl, ho3, hg3⟩; obtain ⟨p3, c3, rfl, hlc3, hn3, hx3, _⟩ := ho3.reads; have HN3 := Lib.hid hn3; have HY3 := Lib.hid hx3; have HM3 := Lib.hid (HM2.out.grown hg3); have HY1 := Lib.hid (HY1.out.grown hg3); have HY2 := Lib.hid (HY2.out.grown hg3); have hS3_0 := hg3.cell hS2_0 (by simp); have hS3_1 := hg3.cell hS2_1 (by simp); clear ho3 hg3 hx3 hn3)
    | (go_at_call 18; refine (HS.out p1 c1 p2 c2 p3 c3 _ HY1.out hlc1 HN1.out HY2.out hlc2 HN2.out HY3.out hlc3 HN3.out).mono ?_; rintro e w4 ⟨v4, rfl, ho4, hg4⟩; obtain ⟨L4, hs4, hm4⟩ := HM3.out.own hg4 (Nat.le_refl _) ho4; obtain ⟨p4, c4, rfl, _⟩ := ho4.reads; have HS4 := Lib.hid hs4; have HMr := Lib.hid hm4; have hS4_0 := hg4.cell hS3_0 (by simp); have hS4_1 := hg4.cell hS3_1 (by simp); clear ho4 hg4 hs4 hm4)))
  have HM := Lib.hid HMr.out
  clear HMr HK hS1_0 hS1_1 hS2_0 hS2_1 hS3_0 hS3_1 hS4_0 hS4_1 qp20 qp21 HM1 HY1 HN1 hlc1 HM2 HY2 HN2 hlc2 HM3 HY3 HN3 hlc3
  go_wp2_with fail
  refine (toIntS_any xs0 ao0 len0 cap0 _ (HX0.out.grown HM.out.g) (by omega)).mono ?_
  rintro e w5 ⟨v5, rfl, ho5, hg5⟩
  obtain ⟨L5, hs5, hm5⟩ := HM.out.own hg5 (Nat.le_refl _) ho5
  obtain ⟨p5, c5, rfl, hlc5, hn5, hx5, _⟩ := ho5.reads
  have HN5 := Lib.hid hn5
  have HY5 := Lib.hid hx5
  have HS5 := Lib.hid hs5
  have HM := Lib.hid hm5
  clear ho5 hg5 hs5 hm5 hx5 hn5
  go_wp2_with fail
  refine (toIntS_any xs1 ao1 len1 cap1 _ (HX1.out.grown HM.out.g) (by omega)).mono ?_
  rintro e w6 ⟨v6, rfl, ho6, hg6⟩
  obtain ⟨L6, hs6, hm6⟩ := HM.out.own hg6 (Nat.le_refl _) ho6
  obtain ⟨p6, c6, rfl, hlc6, hn6, hx6, _⟩ := ho6.reads
  have HN6 := Lib.hid hn6
  have HY6 := Lib.hid hx6
  have HY5 := Lib.hid (HY5.out.grown hg6)
  have HS6 := Lib.hid hs6
  have HM := Lib.hid hm6
  clear ho6 hg6 hs6 hm6 hx6 hn6
  have qp20 := (two_cells (HM.out.get (b := w.heap.size) (o := .cells #[.slice ao2 len2 cap2, .int .i64 a2] 39) (by simp))).1
  have qp21 := (two_cells (HM.out.get (b := w.heap.size) (o := .cells #[.slice ao2 len2 cap2, .int .i64 a2] 39) (by simp))).2
  go_wp2_with fail
  refine (toLinear_any xs2 ao2 len2 cap2 a2 _ (HX2.out.grown HM.out.g) (by omega)).mono ?_
  rintro e w7 ⟨v7, rfl, ho7, hg7⟩
  obtain ⟨L7, hs7, hm7⟩ := HM.out.own hg7 (Nat.le_refl _) ho7
  obtain ⟨p7, c7, rfl, hlc7, hn7, hx7, _⟩ := ho7.reads
  have HN7 := Lib.hid hn7
  have HY7 := Lib.hid hx7
  have HY5 := Lib.hid (HY5.out.grown hg7)
  have HY6 := Lib.hid (HY6.out.grown hg7)
  have HS7 := Lib.hid hs7
  have HM := Lib.hid (hm7.block (.cells #[.slice p7 len2 c7, .int .i64 a2] 25))
  have HY7 := Lib.hid (HY7.out.grown (grown_alloc w7 (.cells #[.slice p7 len2 c7, .int .i64 a2] 25) none))
  have HY5 := Lib.hid (HY5.out.grown (grown_alloc w7 (.cells #[.slice p7 len2 c7, .int .i64 a2] 25) none))
  have HY6 := Lib.hid (HY6.out.grown (grown_alloc w7 (.cells #[.slice p7 len2 c7, .int .i64 a2] 25) none))
  clear ho7 hg7 hs7 hm7 hx7 hn7
  clear qp20 qp21
  have qx20 := (two_cells (HM.out.get (b := w7.heap.size) (o := .cells #[.slice p7 len2 c7, .int .i64 a2] 25) (by simp))).1
  have qx21 := (two_cells (HM.out.get (b := w7.heap.size) (o := .cells #[.slice p7 len2 c7, .int .i64 a2] 25) (by simp))).2
  go_wp2_with fail
  refine (HI.out p5 c5 p6 c6 p7 c7 _ HY5.out hlc5 HN5.out HY6.out hlc6 HN6.out HY7.out hlc7 HN7.out).mono ?_
  rintro e w8 ⟨v8, rfl, ho8, hg8⟩
  obtain ⟨L8, hs8, hm8⟩ := HM.out.own hg8 (Nat.le_refl _) ho8
  obtain ⟨p8, c8, rfl, _⟩ := ho8.reads
  have HS8 := Lib.hid hs8
  have HY5 := Lib.hid (HY5.out.grown hg8)
  have HY6 := Lib.hid (HY6.out.grown hg8)
  have HY7 := Lib.hid (HY7.out.grown hg8)
  have HM := Lib.hid hm8
  clear ho8 hg8 hs8 hm8
  clear qx20 qx21
  go_wp2_with fail
  refine (eqIntS_any ys ys p8 p4 n c8 n c4 true _ (HS8.out.toInts HM.out (by intro p hp; simp [hp])) (HS4.out.toInts HM.out (by intro p hp; simp [hp])) (by omega) (by simp)).mono ?_
  rintro e w9 ⟨rfl, hg9⟩
  have HM := Lib.hid (HM.out.grown hg9)
  clear hg9
  go_wp2_with fail
  refine (toIntS_any xs0 ao0 len0 cap0 _ (HX0.out.grown HM.out.g) (by omega)).mono ?_
  rintro e w10 ⟨v10, rfl, ho10, hg10⟩
  obtain ⟨p10, c10, rfl, _, _, hx10, _⟩ := ho10.reads
  have HM := Lib.hid (HM.out.grown hg10)
  have HY10 := Lib.hid hx10
  clear ho10 hg10 hx10
  go_wp2_with fail
  refine (eqIntS_any xs0 xs0 p5 p10 len0 c5 len0 c10 true _ (HS5.out.toInts HM.out (by intro p hp; simp [hp])) HY10.out (by omega) (by simp)).mono ?_
  rintro e w11 ⟨rfl, hg11⟩
  have HM := Lib.hid (HM.out.grown hg11)
  clear hg11
  go_wp2_with fail
  refine (toIntS_any xs1 ao1 len1 cap1 _ (HX1.out.grown HM.out.g) (by omega)).mono ?_
  rintro e w12 ⟨v12, rfl, ho12, hg12⟩
  obtain ⟨p12, c12, rfl, _, _, hx12, _⟩ := ho12.reads
  have HM := Lib.hid (HM.out.grown hg12)
  have HY12 := Lib.hid hx12
  clear ho12 hg12 hx12
  go_wp2_with fail
  refine (eqIntS_any xs1 xs1 p6 p12 len1 c6 len1 c12 true _ (HS6.out.toInts HM.out (by intro p hp; simp [hp])) HY12.out (by omega) (by simp)).mono ?_
  rintro e w13 ⟨rfl, hg13⟩
  have HM := Lib.hid (HM.out.grown hg13)
  clear hg13
  have qx0 := (two_cells (HM.out.get (b := w7.heap.size) (o := .cells #[.slice p7 len2 c7, .int .i64 a2] 25) (by simp))).1
  have qx1 := (two_cells (HM.out.get (b := w7.heap.size) (o := .cells #[.slice p7 len2 c7, .int .i64 a2] 25) (by simp))).2
  have qa0 := (two_cells (HM.out.get (b := w.heap.size) (o := .cells #[.slice ao2 len2 cap2, .int .i64 a2] 39) (by simp))).1
  have qa1 := (two_cells (HM.out.get (b := w.heap.size) (o := .cells #[.slice ao2 len2 cap2, .int .i64 a2] 39) (by simp))).2
  go_wp2_with fail
  have HK := Lib.hid HM.out
  go_region_held3 (fun w' => w'.cell? ⟨w7.heap.size, 0, none⟩ = some (.slice p7 len2 c7) ∧ w'.cell? ⟨w7.heap.size, 1, none⟩ = some (.int .i64 a2) ∧ w'.cell? ⟨w.heap.size, 0, none⟩ = some (.slice ao2 len2 cap2) ∧ w'.cell? ⟨w.heap.size, 1, none⟩ = some (.int .i64 a2)) (first | go_keep | exact ⟨by assumption, by assumption, by assumption, by assumption⟩) ((first
    | (go_at_call 24; refine (toLinear_any xs2 ao2 len2 cap2 a2 _ ((HX2.out.grown HK.out.g).grown (grown_drew _ _)) (by omega)).mono ?_; rintro e w14 ⟨v14, rfl, ho14, hg14⟩; obtain ⟨p14, c14, rfl, _, _, hx14, _⟩ := ho14.reads; have HM := Lib.hid ((HK.out.grown (grown_drew _ _)).grown hg14); have HY14 := Lib.hid hx14; have hS0 := hg14.cell qx0 (by simp); have hS1 := hg14.cell qx1 (by simp); have hS2 := hg14.cell qa0 (by simp); have hS3 := hg14.cell qa1 (by simp); clear ho14 hg14 hx14)
    | (go_at_call 26; refine (eqLinear_same xs2 p7 p14 len2 c7 c14 a2 _ (HS7.out.toInts HM.out (by intro p hp; simp [hp])) HY14.out (by omega)).mono ?_; rintro e w15 ⟨rfl, hg15⟩; have HM := Lib.hid (HM.out.grown hg15); have hT0 := hg15.cell hS0 (by simp); have hT1 := hg15.cell hS1 (by simp); have hT2 := hg15.cell hS2 (by simp); have hT3 := hg15.cell hS3 (by simp); clear hg15)))
  clear hS0 hS1 hS2 hS3 hT0 hT1 hT2 hT3 qx0 qx1 qa0 qa1 HK
  go_wp2_with fail
  refine (markIntS_any xs0 (.slice p5 len0 c5) _ len0 (1) _ (HM.out.owns HS5.out (by intro p hp; simp [hp])) (by omega) (by omega) (by omega)).mono ?_
  rintro e w16 ⟨rfl, ho16, hg16⟩
  obtain ⟨L16, _, hm16⟩ := Mem.write (A := [] ++ [(w.heap.size, Obj.cells #[.slice ao2 len2 cap2, .int .i64 a2] 39)] ++ L4) (L1 := L5) (B := [] ++ L6 ++ L7 ++ [(w7.heap.size, Obj.cells #[.slice p7 len2 c7, .int .i64 a2] 25)] ++ L8) (HM.out.cast (by simp)) HS5.out hg16 ho16
  have HM := Lib.hid hm16
  clear hm16 ho16 hg16
  go_wp2_with fail
  refine (markIntS_any xs1 (.slice p6 len1 c6) _ len1 (1 + (len0 : Int)) _ (HM.out.owns HS6.out (by intro p hp; simp [hp])) (by omega) (by omega) (by omega)).mono ?_
  rintro e w17 ⟨rfl, ho17, hg17⟩
  obtain ⟨L17, _, hm17⟩ := Mem.write (A := [] ++ [(w.heap.size, Obj.cells #[.slice ao2 len2 cap2, .int .i64 a2] 39)] ++ L4 ++ L16) (L1 := L6) (B := [] ++ L7 ++ [(w7.heap.size, Obj.cells #[.slice p7 len2 c7, .int .i64 a2] 25)] ++ L8) (HM.out.cast (by simp)) HS6.out hg17 ho17
  have HM := Lib.hid hm17
  clear hm17 ho17 hg17
  have qx0 := (two_cells (HM.out.get (b := w7.heap.size) (o := .cells #[.slice p7 len2 c7, .int .i64 a2] 25) (by simp))).1
  have qx1 := (two_cells (HM.out.get (b := w7.heap.size) (o := .cells #[.slice p7 len2 c7, .int .i64 a2] 25) (by simp))).2
  go_wp2_with fail
  refine (markLinear_any xs2 (.slice p7 len2 c7) _ len2 a2 (1 + (len0 : Int) + (len1 : Int)) _ (HM.out.owns HS7.out (by intro p hp; simp [hp])) (by omega) (by omega) (by omega)).mono ?_
  rintro e w18 ⟨rfl, ho18, hg18⟩
  obtain ⟨L18, _, hm18⟩ := Mem.write (A := [] ++ [(w.heap.size, Obj.cells #[.slice ao2 len2 cap2, .int .i64 a2] 39)] ++ L4 ++ L16 ++ L17) (L1 := L7) (B := [] ++ [(w7.heap.size, Obj.cells #[.slice p7 len2 c7, .int .i64 a2] 25)] ++ L8) (HM.out.cast (by simp)) HS7.out hg18 ho18
  have HM := Lib.hid hm18
  clear hm18 ho18 hg18
  clear qx0 qx1
  go_wp2_with fail
  refine (eqIntS_any ys ys p8 p4 n c8 n c4 true _ (HS8.out.toInts HM.out (by intro p hp; simp [hp])) (HS4.out.toInts HM.out (by intro p hp; simp [hp])) (by omega) (by simp)).mono ?_
  rintro e w19 ⟨rfl, hg19⟩
  have HM := Lib.hid (HM.out.grown hg19)
  clear hg19
  go_wp2_with fail
  refine (markIntS_any ys (.slice p8 n c8) _ n 1 _ (HM.out.owns HS8.out (by intro p hp; simp [hp])) (by omega) (by omega) (by omega)).mono ?_
  rintro e w20 ⟨rfl, ho20, hg20⟩
  obtain ⟨L20, hs20, hm20⟩ := Mem.write (A := [] ++ [(w.heap.size, Obj.cells #[.slice ao2 len2 cap2, .int .i64 a2] 39)] ++ L4 ++ L16 ++ L17 ++ L18 ++ [(w7.heap.size, Obj.cells #[.slice p7 len2 c7, .int .i64 a2] 25)]) (L1 := L8) (B := []) (HM.out.cast (by simp)) HS8.out hg20 ho20
  have HM := Lib.hid hm20
  have HSm := Lib.hid hs20
  clear hm20 ho20 hg20 hs20
  go_wp2_with fail
  refine (heldIntS_any p8 n c8 1 _ (HSm.out.toInts HM.out (by intro p hp; simp [hp])) (by omega) (by omega) (by omega)).mono ?_
  rintro e w21 ⟨rfl, rfl⟩
  have qp20 := (two_cells (HM.out.get (b := w.heap.size) (o := .cells #[.slice ao2 len2 cap2, .int .i64 a2] 39) (by simp))).1
  have qp21 := (two_cells (HM.out.get (b := w.heap.size) (o := .cells #[.slice ao2 len2 cap2, .int .i64 a2] 39) (by simp))).2
  have HK := Lib.hid HM.out
  have tk22 : True := trivial
  have tk23 : True := trivial
  have tk24 : True := trivial
  go_wp2_with fail
  go_region_held3 (fun w' => w'.cell? ⟨w.heap.size, 0, none⟩ = some (.slice ao2 len2 cap2) ∧ w'.cell? ⟨w.heap.size, 1, none⟩ = some (.int .i64 a2)) (first | go_keep | exact ⟨by assumption, by assumption⟩) ((first
    | (go_at_call 23; have tk22' := tk22; clear tk22 tk22'; refine (toIntS_any xs0 ao0 len0 cap0 _ (HX0.out.grown (HK.out.grown (grown_drew _ _)).g) (by omega)).mono ?_; rintro e w22 ⟨v22, rfl, ho22, hg22⟩; obtain ⟨p22, c22, rfl, hlc22, hn22, hx22, _⟩ := ho22.reads; have HN22 := Lib.hid hn22; have HY22 := Lib.hid hx22; have HM22 := Lib.hid ((HK.out.grown (grown_drew _ _)).grown hg22); have hS22_0 := hg22.cell qp20 (by simp); have hS22_1 := hg22.cell qp21 (by simp); clear ho22 hg22 hx22 hn22)
    | (go_at_call 23; have tk23' := tk23; clear tk23 tk23'; refine (toIntS_any xs1 ao1 len1 cap1 _ (HX1.out.grown HM22.out.g) (by omega)).mono ?_; rintro e w23 ⟨v23, rfl, ho23, hg23⟩; obtain ⟨p23, c23, rfl, hlc23, hn23, hx23, _⟩ := ho23.reads; have HN23 := Lib.hid hn23; have HY23 := Lib.hid hx23; have HM23 := Lib.hid (HM22.out.grown hg23); have HY22 := Lib.hid (HY22.out.grown hg23); have hS23_0 := hg23.cell hS22_0 (by simp); have hS23_1 := hg23.cell hS22_1 (by simp); clear ho23 hg23 hx23 hn23)
    | (go_at_call 24; have tk24' := tk24; clear tk24 tk24'; refine (toLinear_any xs2 ao2 len2 cap2 a2 _ (HX2.out.grown HM23.out.g) (by omega)).mono ?_; rintro e w24 ⟨v24, rfl, ho24, hg24⟩; obtain ⟨p24, c24, rfl, hlc24, hn24, hx24, _⟩ := ho24.reads; have HN24 := Lib.hid hn24; have HY24 := Lib.hid hx24; have HM24 := Lib.hid (HM23.out.grown hg24); have HY22 := Lib.hid (HY22.out.grown hg24); have HY23 := Lib.hid (HY23.out.grown hg24); have hS24_0 := hg24.cell hS23_0 (by simp); have hS24_1 := hg24.cell hS23_1 (by simp); clear ho24 hg24 hx24 hn24)
    | (go_at_call 16; refine (HI.out p22 c22 p23 c23 p24 c24 _ HY22.out hlc22 HN22.out HY23.out hlc23 HN23.out HY24.out hlc24 HN24.out).mono ?_; rintro e w25 ⟨v25, rfl, ho25, hg25⟩; obtain ⟨L25, hs25, hm25⟩ := HM24.out.own hg25 (Nat.le_refl _) ho25; obtain ⟨p25, c25, rfl, _⟩ := ho25.reads; have HS25 := Lib.hid hs25; have HMr := Lib.hid hm25; have hS25_0 := hg25.cell hS24_0 (by simp); have hS25_1 := hg25.cell hS24_1 (by simp); clear ho25 hg25 hs25 hm25)))
  have HM := Lib.hid HMr.out
  clear HMr HK hS22_0 hS22_1 hS23_0 hS23_1 hS24_0 hS24_1 hS25_0 hS25_1 qp20 qp21 HM22 HY22 HN22 hlc22 HM23 HY23 HN23 hlc23 HM24 HY24 HN24 hlc24
  go_wp2_with fail
  refine (eqIntS_any ys ys p25 p4 n c25 n c4 true _ (HS25.out.toInts HM.out (by intro p hp; simp [hp])) (HS4.out.toInts HM.out (by intro p hp; simp [hp])) (by omega) (by simp)).mono ?_
  rintro e w26 ⟨rfl, hg26⟩
  have HM := Lib.hid (HM.out.grown hg26)
  clear hg26
  go_wp2_with fail
  refine (heldIntS_any p8 n c8 1 _ (HSm.out.toInts HM.out (by intro p hp; simp [hp])) (by omega) (by omega) (by omega)).mono ?_
  rintro e w27 ⟨rfl, rfl⟩
  go_wp2
  go_ret
  exact ⟨rfl, HM.out.g⟩

end Go.Proofs.Ytgiiaijlahjfnaa
