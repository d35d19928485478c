/-
  The walk of 'FnExactLinearResidual': it returns true and writes nothing that was there. For all arguments.
-/
import Derived.Test.YtgiiaijlahjfnaaLinJ2
import Derived.Test.YtgiiaijlahjfnaaLin
import Derived.Deep.RegionHeld3
namespace Go.Proofs.Ytgiiaijlahjfnaa
open Go.RowKit

theorem lr_ex (xs cs : List Int) (sh : Int) (len n : Nat) (h1 : len ≤ 1048576) (h2 : n ≤ 1048576) : ∃ (ys : List Int) (m : Nat) (v : Bool), m ≤ 1000000 ∧
    Hid (∀ (ao : Option Addr) (cap : Nat) (yo : Option Addr) (ycap : Nat) (w : World), Ints w ao len xs → len ≤ cap → (ao = none → cap = 0) → Ints w yo n cs → n ≤ ycap → (yo = none → ycap = 0) → Calls Try.prog 14 #[.slice ao len cap, .agg #[.slice yo n ycap, .int .i64 sh]] w (MadeRB ys m v w)) ∧
    Hid (∀ (ao : Option Addr) (cap : Nat) (yo : Option Addr) (ycap : Nat) (w : World), Ints w ao len xs → len ≤ cap → (ao = none → cap = 0) → Ints w yo n cs → n ≤ ycap → (yo = none → ycap = 0) → Calls Try.prog 13 #[.slice ao len cap, .agg #[.slice yo n ycap, .int .i64 sh]] w (MadeRB ys m v w)) := by
  obtain ⟨ys, m, ok, h, hm⟩ := LR_there xs cs sh
  exact ⟨ys, m, ok, by omega, fun ao cap yo ycap w hx _ _ hy _ _ => sLR_any cs xs n len m sh ys ok yo ao ycap cap w hx hy (by omega) (by omega) h, fun ao cap yo ycap w hx hlc _ hy _ _ => iLR_any cs xs n len m sh ys ok yo ao ycap cap w hx hlc hy (by omega) (by omega) h⟩

set_option maxRecDepth 100000 in
set_option maxHeartbeats 4000000 in
theorem FnExactLinearResidual_walk (ao0 : Option Addr) (len0 cap0 : Nat) (ao1 : Option Addr) (len1 cap1 : Nat) (a1 : Int) (w : World) (xs0 : List Int) (hx0 : Ints w ao0 len0 xs0) (hmax0 : len0 ≤ 9223372036854775807) (xs1 : List Int) (hx1 : Ints w ao1 len1 xs1) (hmax1 : len1 ≤ 9223372036854775807) :
    Calls Try.prog 9 #[.slice ao0 len0 cap0, .agg #[.slice ao1 len1 cap1, .int .i64 a1]] w (Holds w) := by
  by_cases hlen0 : 1048576 < len0
  · clear hx0 hx1
    go_enter Try.func9, Try.ntmps9
    go_wp2
    go_ret
    exact ⟨rfl, grown_alloc _ _ _⟩
  have hlen0' : len0 ≤ 1048576 := by omega
  have hm0 : decide (1048576 < (len0 : Int)) = false := by simp; omega
  by_cases hlen1 : 1048576 < len1
  · have ksz := szLinear_any ao1 len1 cap1 a1 1048576 _ (w.alloc (.cells #[.slice ao1 len1 cap1, .int .i64 a1] 39)) (by decide) (by decide) hmax1 rfl
    rw [if_neg (by omega)] at ksz
    clear hx0 hx1
    go_enter Try.func9, Try.ntmps9
    go_wp2_with fail
    refine ksz.mono ?_
    rintro e w1 ⟨rfl, hg⟩
    have HG : Hid (w.grownBy w1 none) := grown_trans (grown_alloc _ _ _) hg
    clear ksz hg
    go_wp2
    go_ret
    exact ⟨rfl, HG.out⟩
  have hlen1' : len1 ≤ 1048576 := by omega
  have hm1 : decide (1048576 < (len1 : Int)) = false := by simp; omega
  obtain ⟨ys, n, v, hn, HS, HI⟩ := lr_ex xs0 xs1 a1 len0 len1 (by omega) (by omega)
  have HX0 := Lib.hid hx0
  have HX1 := Lib.hid hx1
  clear hx0 hmax0 hlen0 hx1 hmax1 hlen1
  have ksz := szLinear_any ao1 len1 cap1 a1 1048576 _ (w.alloc (.cells #[.slice ao1 len1 cap1, .int .i64 a1] 39)) (by decide) (by decide) (by omega) rfl
  rw [if_pos (by omega)] at ksz
  go_enter Try.func9, Try.ntmps9
  go_wp2_with fail
  refine ksz.mono ?_
  rintro e w0 ⟨rfl, hg0⟩
  have HM := Lib.hid (((Mem.start w).block (.cells #[.slice ao1 len1 cap1, .int .i64 a1] 39)).grown hg0)
  clear ksz hg0
  have qp10 := (two_cells (HM.out.get (b := w.heap.size) (o := .cells #[.slice ao1 len1 cap1, .int .i64 a1] 39) (by simp))).1
  have qp11 := (two_cells (HM.out.get (b := w.heap.size) (o := .cells #[.slice ao1 len1 cap1, .int .i64 a1] 39) (by simp))).2
  have HK := Lib.hid HM.out
  have tk1 : True := trivial
  have tk2 : True := trivial
  go_wp2_with fail
  go_region_held3 (fun w' => w'.cell? ⟨w.heap.size, 0, none⟩ = some (.slice ao1 len1 cap1) ∧ w'.cell? ⟨w.heap.size, 1, none⟩ = some (.int .i64 a1)) (first | go_keep | exact ⟨by assumption, by assumption⟩) ((first
    | (go_at_call 23; have tk1' := tk1; clear tk1 tk1'; refine (toIntS_any xs0 ao0 len0 cap0 _ (HX0.out.grown (HK.out.grown (grown_drew _ _)).g) (by omega)).mono ?_; rintro e w1 ⟨v1, rfl, ho1, hg1⟩; obtain ⟨p1, c1, rfl, hlc1, hn1, hx1, _⟩ := ho1.reads; have HN1 := Lib.hid hn1; have HY1 := Lib.hid hx1; have HM1 := Lib.hid ((HK.out.grown (grown_drew _ _)).grown hg1); have hS1_0 := hg1.cell qp10 (by simp); have hS1_1 := hg1.cell qp11 (by simp); clear ho1 hg1 hx1 hn1)
    | (go_at_call 24; have tk2' := tk2; clear tk2 tk2'; refine (toLinear_any xs1 ao1 len1 cap1 a1 _ (HX1.out.grown HM1.out.g) (by omega)).mono ?_; rintro e w2 ⟨v2, rfl, ho2, hg2⟩; obtain ⟨p2, c2, rfl, hlc2, hn2, hx2, _⟩ := ho2.reads; have HN2 := Lib.hid hn2; have HY2 := Lib.hid hx2; have HM2 := Lib.hid (HM1.out.grown hg2); have HY1 := Lib.hid (HY1.out.grown hg2); have hS2_0 := hg2.cell hS1_0 (by simp); have hS2_1 := hg2.cell hS1_1 (by simp); clear ho2 hg2 hx2 hn2)
    | (go_at_call 14; refine (HS.out p1 c1 p2 c2 _ HY1.out hlc1 HN1.out HY2.out hlc2 HN2.out).mono ?_; rintro e w3 ⟨v3, rfl, ho3, hg3⟩; obtain ⟨L3, hs3, hm3⟩ := HM2.out.own hg3 (Nat.le_refl _) ho3; obtain ⟨p3, c3, rfl, _⟩ := ho3.reads; have HS3 := Lib.hid hs3; have HMr := Lib.hid hm3; have hS3_0 := hg3.cell hS2_0 (by simp); have hS3_1 := hg3.cell hS2_1 (by simp); clear ho3 hg3 hs3 hm3)))
  have HM := Lib.hid HMr.out
  clear HMr HK hS1_0 hS1_1 hS2_0 hS2_1 hS3_0 hS3_1 qp10 qp11 HM1 HY1 HN1 hlc1 HM2 HY2 HN2 hlc2
  go_wp2_with fail
  refine (toIntS_any xs0 ao0 len0 cap0 _ (HX0.out.grown HM.out.g) (by omega)).mono ?_
  rintro e w4 ⟨v4, rfl, ho4, hg4⟩
  obtain ⟨L4, hs4, hm4⟩ := HM.out.own hg4 (Nat.le_refl _) ho4
  obtain ⟨p4, c4, rfl, hlc4, hn4, hx4, _⟩ := ho4.reads
  have HN4 := Lib.hid hn4
  have HY4 := Lib.hid hx4
  have HS4 := Lib.hid hs4
  have HM := Lib.hid hm4
  clear ho4 hg4 hs4 hm4 hx4 hn4
  have qp10 := (two_cells (HM.out.get (b := w.heap.size) (o := .cells #[.slice ao1 len1 cap1, .int .i64 a1] 39) (by simp))).1
  have qp11 := (two_cells (HM.out.get (b := w.heap.size) (o := .cells #[.slice ao1 len1 cap1, .int .i64 a1] 39) (by simp))).2
  go_wp2_with fail
  refine (toLinear_any xs1 ao1 len1 cap1 a1 _ (HX1.out.grown HM.out.g) (by omega)).mono ?_
  rintro e w5 ⟨v5, rfl, ho5, hg5⟩
  obtain ⟨L5, hs5, hm5⟩ := HM.out.own hg5 (Nat.le_refl _) ho5
  obtain ⟨p5, c5, rfl, hlc5, hn5, hx5, _⟩ := ho5.reads
  have HN5 := Lib.hid hn5
  have HY5 := Lib.hid hx5
  have HY4 := Lib.hid (HY4.out.grown hg5)
  have HS5 := Lib.hid hs5
  have HM := Lib.hid (hm5.block (.cells #[.slice p5 len1 c5, .int .i64 a1] 25))
  have HY5 := Lib.hid (HY5.out.grown (grown_alloc w5 (.cells #[.slice p5 len1 c5, .int .i64 a1] 25) none))
  have HY4 := Lib.hid (HY4.out.grown (grown_alloc w5 (.cells #[.slice p5 len1 c5, .int .i64 a1] 25) none))
  clear ho5 hg5 hs5 hm5 hx5 hn5
  clear qp10 qp11
  have qx10 := (two_cells (HM.out.get (b := w5.heap.size) (o := .cells #[.slice p5 len1 c5, .int .i64 a1] 25) (by simp))).1
  have qx11 := (two_cells (HM.out.get (b := w5.heap.size) (o := .cells #[.slice p5 len1 c5, .int .i64 a1] 25) (by simp))).2
  go_wp2_with fail
  refine (HI.out p4 c4 p5 c5 _ HY4.out hlc4 HN4.out HY5.out hlc5 HN5.out).mono ?_
  rintro e w6 ⟨v6, rfl, ho6, hg6⟩
  obtain ⟨L6, hs6, hm6⟩ := HM.out.own hg6 (Nat.le_refl _) ho6
  obtain ⟨p6, c6, rfl, _⟩ := ho6.reads
  have HS6 := Lib.hid hs6
  have HY4 := Lib.hid (HY4.out.grown hg6)
  have HY5 := Lib.hid (HY5.out.grown hg6)
  have HM := Lib.hid hm6
  clear ho6 hg6 hs6 hm6
  clear qx10 qx11
  go_wp2_with fail
  refine (eqIntS_any ys ys p6 p3 n c6 n c3 true _ (HS6.out.toInts HM.out (by intro p hp; simp [hp])) (HS3.out.toInts HM.out (by intro p hp; simp [hp])) (by omega) (by simp)).mono ?_
  rintro e w7 ⟨rfl, hg7⟩
  have HM := Lib.hid (HM.out.grown hg7)
  clear hg7
  go_wp2_with fail
  refine (toIntS_any xs0 ao0 len0 cap0 _ (HX0.out.grown HM.out.g) (by omega)).mono ?_
  rintro e w8 ⟨v8, rfl, ho8, hg8⟩
  obtain ⟨p8, c8, rfl, _, _, hx8, _⟩ := ho8.reads
  have HM := Lib.hid (HM.out.grown hg8)
  have HY8 := Lib.hid hx8
  clear ho8 hg8 hx8
  go_wp2_with fail
  refine (eqIntS_any xs0 xs0 p4 p8 len0 c4 len0 c8 true _ (HS4.out.toInts HM.out (by intro p hp; simp [hp])) HY8.out (by omega) (by simp)).mono ?_
  rintro e w9 ⟨rfl, hg9⟩
  have HM := Lib.hid (HM.out.grown hg9)
  clear hg9
  have qx0 := (two_cells (HM.out.get (b := w5.heap.size) (o := .cells #[.slice p5 len1 c5, .int .i64 a1] 25) (by simp))).1
  have qx1 := (two_cells (HM.out.get (b := w5.heap.size) (o := .cells #[.slice p5 len1 c5, .int .i64 a1] 25) (by simp))).2
  have qa0 := (two_cells (HM.out.get (b := w.heap.size) (o := .cells #[.slice ao1 len1 cap1, .int .i64 a1] 39) (by simp))).1
  have qa1 := (two_cells (HM.out.get (b := w.heap.size) (o := .cells #[.slice ao1 len1 cap1, .int .i64 a1] 39) (by simp))).2
  go_wp2_with fail
  have HK := Lib.hid HM.out
  go_region_held3 (fun w' => w'.cell? ⟨w5.heap.size, 0, none⟩ = some (.slice p5 len1 c5) ∧ w'.cell? ⟨w5.heap.size, 1, none⟩ = some (.int .i64 a1) ∧ w'.cell? ⟨w.heap.size, 0, none⟩ = some (.slice ao1 len1 cap1) ∧ w'.cell? ⟨w.heap.size, 1, none⟩ = some (.int .i64 a1)) (first | go_keep | exact ⟨by assumption, by assumption, by assumption, by assumption⟩) ((first
    | (go_at_call 24; refine (toLinear_any xs1 ao1 len1 cap1 a1 _ ((HX1.out.grown HK.out.g).grown (grown_drew _ _)) (by omega)).mono ?_; rintro e w10 ⟨v10, rfl, ho10, hg10⟩; obtain ⟨p10, c10, rfl, _, _, hx10, _⟩ := ho10.reads; have HM := Lib.hid ((HK.out.grown (grown_drew _ _)).grown hg10); have HY10 := Lib.hid hx10; have hS0 := hg10.cell qx0 (by simp); have hS1 := hg10.cell qx1 (by simp); have hS2 := hg10.cell qa0 (by simp); have hS3 := hg10.cell qa1 (by simp); clear ho10 hg10 hx10)
    | (go_at_call 26; refine (eqLinear_same xs1 p5 p10 len1 c5 c10 a1 _ (HS5.out.toInts HM.out (by intro p hp; simp [hp])) HY10.out (by omega)).mono ?_; rintro e w11 ⟨rfl, hg11⟩; have HM := Lib.hid (HM.out.grown hg11); have hT0 := hg11.cell hS0 (by simp); have hT1 := hg11.cell hS1 (by simp); have hT2 := hg11.cell hS2 (by simp); have hT3 := hg11.cell hS3 (by simp); clear hg11)))
  clear hS0 hS1 hS2 hS3 hT0 hT1 hT2 hT3 qx0 qx1 qa0 qa1 HK
  go_wp2_with fail
  refine (markIntS_any xs0 (.slice p4 len0 c4) _ len0 (1) _ (HM.out.owns HS4.out (by intro p hp; simp [hp])) (by omega) (by omega) (by omega)).mono ?_
  rintro e w12 ⟨rfl, ho12, hg12⟩
  obtain ⟨L12, _, hm12⟩ := Mem.write (A := [] ++ [(w.heap.size, Obj.cells #[.slice ao1 len1 cap1, .int .i64 a1] 39)] ++ L3) (L1 := L4) (B := [] ++ L5 ++ [(w5.heap.size, Obj.cells #[.slice p5 len1 c5, .int .i64 a1] 25)] ++ L6) (HM.out.cast (by simp)) HS4.out hg12 ho12
  have HM := Lib.hid hm12
  clear hm12 ho12 hg12
  have qx0 := (two_cells (HM.out.get (b := w5.heap.size) (o := .cells #[.slice p5 len1 c5, .int .i64 a1] 25) (by simp))).1
  have qx1 := (two_cells (HM.out.get (b := w5.heap.size) (o := .cells #[.slice p5 len1 c5, .int .i64 a1] 25) (by simp))).2
  go_wp2_with fail
  refine (markLinear_any xs1 (.slice p5 len1 c5) _ len1 a1 (1 + (len0 : Int)) _ (HM.out.owns HS5.out (by intro p hp; simp [hp])) (by omega) (by omega) (by omega)).mono ?_
  rintro e w13 ⟨rfl, ho13, hg13⟩
  obtain ⟨L13, _, hm13⟩ := Mem.write (A := [] ++ [(w.heap.size, Obj.cells #[.slice ao1 len1 cap1, .int .i64 a1] 39)] ++ L3 ++ L12) (L1 := L5) (B := [] ++ [(w5.heap.size, Obj.cells #[.slice p5 len1 c5, .int .i64 a1] 25)] ++ L6) (HM.out.cast (by simp)) HS5.out hg13 ho13
  have HM := Lib.hid hm13
  clear hm13 ho13 hg13
  clear qx0 qx1
  go_wp2_with fail
  refine (eqIntS_any ys ys p6 p3 n c6 n c3 true _ (HS6.out.toInts HM.out (by intro p hp; simp [hp])) (HS3.out.toInts HM.out (by intro p hp; simp [hp])) (by omega) (by simp)).mono ?_
  rintro e w14 ⟨rfl, hg14⟩
  have HM := Lib.hid (HM.out.grown hg14)
  clear hg14
  go_wp2_with fail
  refine (markIntS_any ys (.slice p6 n c6) _ n 1 _ (HM.out.owns HS6.out (by intro p hp; simp [hp])) (by omega) (by omega) (by omega)).mono ?_
  rintro e w15 ⟨rfl, ho15, hg15⟩
  obtain ⟨L15, hs15, hm15⟩ := Mem.write (A := [] ++ [(w.heap.size, Obj.cells #[.slice ao1 len1 cap1, .int .i64 a1] 39)] ++ L3 ++ L12 ++ L13 ++ [(w5.heap.size, Obj.cells #[.slice p5 len1 c5, .int .i64 a1] 25)]) (L1 := L6) (B := []) (HM.out.cast (by simp)) HS6.out hg15 ho15
  have HM := Lib.hid hm15
  have HSm := Lib.hid hs15
  clear hm15 ho15 hg15 hs15
  go_wp2_with fail
  refine (heldIntS_any p6 n c6 1 _ (HSm.out.toInts HM.out (by intro p hp; simp [hp])) (by omega) (by omega) (by omega)).mono ?_
  rintro e w16 ⟨rfl, rfl⟩
  have qp10 := (two_cells (HM.out.get (b := w.heap.size) (o := .cells #[.slice ao1 len1 cap1, .int .i64 a1] 39) (by simp))).1
  have qp11 := (two_cells (HM.out.get (b := w.heap.size) (o := .cells #[.slice ao1 len1 cap1, .int .i64 a1] 39) (by simp))).2
  have HK := Lib.hid HM.out
  have tk17 : True := trivial
  have tk18 : True := trivial
  go_wp2_with fail
  go_region_held3 (fun w' => w'.cell? ⟨w.heap.size, 0, none⟩ = some (.slice ao1 len1 cap1) ∧ w'.cell? ⟨w.heap.size, 1, none⟩ = some (.int .i64 a1)) (first | go_keep | exact ⟨by assumption, by assumption⟩) ((first
    | (go_at_call 23; have tk17' := tk17; clear tk17 tk17'; refine (toIntS_any xs0 ao0 len0 cap0 _ (HX0.out.grown (HK.out.grown (grown_drew _ _)).g) (by omega)).mono ?_; rintro e w17 ⟨v17, rfl, ho17, hg17⟩; obtain ⟨p17, c17, rfl, hlc17, hn17, hx17, _⟩ := ho17.reads; have HN17 := Lib.hid hn17; have HY17 := Lib.hid hx17; have HM17 := Lib.hid ((HK.out.grown (grown_drew _ _)).grown hg17); have hS17_0 := hg17.cell qp10 (by simp); have hS17_1 := hg17.cell qp11 (by simp); clear ho17 hg17 hx17 hn17)
    | (go_at_call 24; have tk18' := tk18; clear tk18 tk18'; refine (toLinear_any xs1 ao1 len1 cap1 a1 _ (HX1.out.grown HM17.out.g) (by omega)).mono ?_; rintro e w18 ⟨v18, rfl, ho18, hg18⟩; obtain ⟨p18, c18, rfl, hlc18, hn18, hx18, _⟩ := ho18.reads; have HN18 := Lib.hid hn18; have HY18 := Lib.hid hx18; have HM18 := Lib.hid (HM17.out.grown hg18); have HY17 := Lib.hid (HY17.out.grown hg18); have hS18_0 := hg18.cell hS17_0 (by simp); have hS18_1 := hg18.cell hS17_1 (by simp); clear ho18 hg18 hx18 hn18)
    | (go_at_call 13; refine (HI.out p17 c17 p18 c18 _ HY17.out hlc17 HN17.out HY18.out hlc18 HN18.out).mono ?_; rintro e w19 ⟨v19, rfl, ho19, hg19⟩; obtain ⟨L19, hs19, hm19⟩ := HM18.out.own hg19 (Nat.le_refl _) ho19; obtain ⟨p19, c19, rfl, _⟩ := ho19.reads; have HS19 := Lib.hid hs19; have HMr := Lib.hid hm19; have hS19_0 := hg19.cell hS18_0 (by simp); have hS19_1 := hg19.cell hS18_1 (by simp); clear ho19 hg19 hs19 hm19)))
  have HM := Lib.hid HMr.out
  clear HMr HK hS17_0 hS17_1 hS18_0 hS18_1 hS19_0 hS19_1 qp10 qp11 HM17 HY17 HN17 hlc17 HM18 HY18 HN18 hlc18
  go_wp2_with fail
  refine (eqIntS_any ys ys p19 p3 n c19 n c3 true _ (HS19.out.toInts HM.out (by intro p hp; simp [hp])) (HS3.out.toInts HM.out (by intro p hp; simp [hp])) (by omega) (by simp)).mono ?_
  rintro e w20 ⟨rfl, hg20⟩
  have HM := Lib.hid (HM.out.grown hg20)
  clear hg20
  go_wp2_with fail
  refine (heldIntS_any p6 n c6 1 _ (HSm.out.toInts HM.out (by intro p hp; simp [hp])) (by omega) (by omega) (by omega)).mono ?_
  rintro e w21 ⟨rfl, rfl⟩
  go_wp2
  go_ret
  exact ⟨rfl, HM.out.g⟩

end Go.Proofs.Ytgiiaijlahjfnaa
