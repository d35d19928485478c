/-
  The walk of 'FnExactPutBits': it returns true and writes nothing that was there. For all arguments.
-/
import Derived.Test.YtcgcippniicaaaaDoorSPut
import Derived.Test.YtcgcippniicaaaaDoorStruct
import Derived.Test.YtcgcippniicaaaaDoorExBits
import Derived.Deep.RegionHeld3
namespace Go.Proofs.YtcgcippniicaaaaDoor
open Go.RowKit

/-- A struct of a list and a number, and whether there is one. -/
def MadeSB (xs : List Int) (len : Nat) (c : Int) (ok : Bool) (w : World) (e : Ending) (w' : World) : Prop :=
  ∃ v, e = .returned (.tuple #[.agg #[v, .int .i64 c], .bool ok]) ∧ Owns w' w.heap.size v len xs ∧ w.grownBy w' none
theorem gave_made {o : Option (List Bool)} (h : ∀ bs, o = some bs → bs.length ≤ 16384) : ∃ (ys : List Int) (n : Nat) (c : Int) (ok : Bool), n ≤ 1000000 ∧ ∀ (w : World) (e : Ending) (w' : World), Gave o w e w' → MadeSB ys n c ok w e w' := by
  cases o with
  | none => exact ⟨[], 0, 0, false, by omega, fun w e w' ⟨he, hg⟩ => ⟨.slice none 0 0, he, World.ownsRow_nil _ _ _ _, hg⟩⟩
  | some bs => exact ⟨pk bs, (bs.length + 7) / 8, (bs.length : Int), true, by have := h bs rfl; omega, fun w e w' hh => hh⟩
theorem put_ex (xs : List Int) (c x z : Int) (len : Nat) (hlen : len ≤ 1048576) : ∃ (ys : List Int) (n : Nat) (c' : Int) (v : Bool), n ≤ 1000000 ∧
    Hid (∀ (ao : Option Addr) (cap : Nat) (w : World), Ints w ao len xs → len ≤ cap → (ao = none → cap = 0) → Calls Tryd.prog 15 #[.agg #[.slice ao len cap, .int .i64 c], .int .i64 x, .int .i64 z] w (MadeSB ys n c' v w)) ∧
    Hid (∀ (ao : Option Addr) (cap : Nat) (w : World), Ints w ao len xs → len ≤ cap → (ao = none → cap = 0) → Errs w → Calls Tryd.prog 14 #[.agg #[.slice ao len cap, .int .i64 c], .int .i64 x, .int .i64 z] w (MadeSB ys n c' v w)) := by
  obtain ⟨o, ho, hS, hI, _, _⟩ := put_both xs c x z len (by omega)
  obtain ⟨ys, n, c', v, hn, hm⟩ := gave_made ho
  exact ⟨ys, n, c', v, hn, fun ao cap w hx _ hnn => (hS.out ao cap w hx hnn).mono (fun e w' h => hm w e w' h), fun ao cap w hx _ hnn hE => (hI.out ao cap w hx hnn hE).mono (fun e w' h => hm w e w' h)⟩

set_option maxRecDepth 100000 in
set_option maxHeartbeats 4000000 in
theorem FnExactPutBits_walk (ao0 : Option Addr) (len0 cap0 : Nat) (a0 : Int) (a1 : Int) (a2 : Int) (w : World) (xs0 : List Int) (hx0 : Ints w ao0 len0 xs0) (hmax0 : len0 ≤ 9223372036854775807) (hE : Errs w) :
    Calls Tryd.prog 10 #[.agg #[.slice ao0 len0 cap0, .int .i64 a0], .int .i64 a1, .int .i64 a2] w (Holds w) := by
  by_cases hlen0 : 1048576 < len0
  · have ksz := szBits_any ao0 len0 cap0 a0 1048576 _ (w.alloc (.cells #[.slice ao0 len0 cap0, .int .i64 a0] 40)) (by decide) (by decide) hmax0 rfl
    rw [if_neg (by omega)] at ksz
    clear hx0 hE
    go_enter Tryd.func10, Tryd.ntmps10
    go_wp2_with fail
    refine ksz.mono ?_
    rintro e w1 ⟨rfl, hg⟩
    have HG : Hid (w.grownBy w1 none) := grown_trans (grown_alloc _ _ _) hg
    clear ksz hg
    go_wp2
    go_ret
    exact ⟨rfl, HG.out⟩
  have hlen0' : len0 ≤ 1048576 := by omega
  have hm0 : decide (1048576 < (len0 : Int)) = false := by simp; omega
  obtain ⟨ys, n, c, v, hn, HS, HI⟩ := put_ex xs0 a0 a1 a2 len0 (by omega)
  have HE := Lib.hid hE
  clear hE
  have HX0 := Lib.hid hx0
  clear hx0 hmax0 hlen0
  have ksz := szBits_any ao0 len0 cap0 a0 1048576 _ (w.alloc (.cells #[.slice ao0 len0 cap0, .int .i64 a0] 40)) (by decide) (by decide) (by omega) rfl
  rw [if_pos (by omega)] at ksz
  go_enter Tryd.func10, Tryd.ntmps10
  go_wp2_with fail
  refine ksz.mono ?_
  rintro e w0 ⟨rfl, hg0⟩
  have HM := Lib.hid (((Mem.start w).block (.cells #[.slice ao0 len0 cap0, .int .i64 a0] 40)).grown hg0)
  clear ksz hg0
  have qp00 := (two_cells (HM.out.get (b := w.heap.size) (o := .cells #[.slice ao0 len0 cap0, .int .i64 a0] 40) (by simp))).1
  have qp01 := (two_cells (HM.out.get (b := w.heap.size) (o := .cells #[.slice ao0 len0 cap0, .int .i64 a0] 40) (by simp))).2
  go_wp2_with fail
  refine (toBits_any xs0 ao0 len0 cap0 a0 _ (HX0.out.grown HM.out.g) (by omega)).mono ?_
  rintro e w1 ⟨v1, rfl, ho1, hg1⟩
  obtain ⟨p1, c1, rfl, hlc1, hn1, hx1, _⟩ := ho1.reads
  have HN1 := Lib.hid hn1
  have HY1 := Lib.hid hx1
  have HM := Lib.hid (HM.out.grown hg1)
  clear ho1 hg1 hx1 hn1
  clear qp00 qp01
  go_wp2_with fail
  refine (HS.out p1 c1 _ HY1.out hlc1 HN1.out).mono ?_
  rintro e w2 ⟨v2, rfl, ho2, hg2⟩
  obtain ⟨L2, hs2, hm2⟩ := HM.out.own hg2 (Nat.le_refl _) ho2
  obtain ⟨p2, c2, rfl, _⟩ := ho2.reads
  have HS2 := Lib.hid hs2
  have HY1 := Lib.hid (HY1.out.grown hg2)
  have HM := Lib.hid (hm2.block (.cells #[.slice p2 n c2, .int .i64 c] 25))
  have HY1 := Lib.hid (HY1.out.grown (grown_alloc w2 (.cells #[.slice p2 n c2, .int .i64 c] 25) none))
  clear ho2 hg2 hs2 hm2
  have qp00 := (two_cells (HM.out.get (b := w.heap.size) (o := .cells #[.slice ao0 len0 cap0, .int .i64 a0] 40) (by simp))).1
  have qp01 := (two_cells (HM.out.get (b := w.heap.size) (o := .cells #[.slice ao0 len0 cap0, .int .i64 a0] 40) (by simp))).2
  go_wp2_with fail
  refine (toBits_any xs0 ao0 len0 cap0 a0 _ (HX0.out.grown HM.out.g) (by omega)).mono ?_
  rintro e w3 ⟨v3, rfl, ho3, hg3⟩
  obtain ⟨L3, hs3, hm3⟩ := HM.out.own hg3 (Nat.le_refl _) ho3
  obtain ⟨p3, c3, rfl, hlc3, hn3, hx3, _⟩ := ho3.reads
  have HN3 := Lib.hid hn3
  have HY3 := Lib.hid hx3
  have HS3 := Lib.hid hs3
  have HM := Lib.hid (hm3.block (.cells #[.slice p3 len0 c3, .int .i64 a0] 25))
  have HY3 := Lib.hid (HY3.out.grown (grown_alloc w3 (.cells #[.slice p3 len0 c3, .int .i64 a0] 25) none))
  clear ho3 hg3 hs3 hm3 hx3 hn3
  clear qp00 qp01
  have qx00 := (two_cells (HM.out.get (b := w3.heap.size) (o := .cells #[.slice p3 len0 c3, .int .i64 a0] 25) (by simp))).1
  have qx01 := (two_cells (HM.out.get (b := w3.heap.size) (o := .cells #[.slice p3 len0 c3, .int .i64 a0] 25) (by simp))).2
  go_wp2_with fail
  refine (HI.out p3 c3 _ HY3.out hlc3 HN3.out (HE.out.grown HM.out.g)).mono ?_
  rintro e w4 ⟨v4, rfl, ho4, hg4⟩
  obtain ⟨L4, hs4, hm4⟩ := HM.out.own hg4 (Nat.le_refl _) ho4
  obtain ⟨p4, c4, rfl, _⟩ := ho4.reads
  have HS4 := Lib.hid hs4
  have HY3 := Lib.hid (HY3.out.grown hg4)
  have HM := Lib.hid (hm4.block (.cells #[.slice p4 n c4, .int .i64 c] 25))
  have HY3 := Lib.hid (HY3.out.grown (grown_alloc w4 (.cells #[.slice p4 n c4, .int .i64 c] 25) none))
  clear ho4 hg4 hs4 hm4
  clear qx00 qx01
  have qw0 := (two_cells (HM.out.get (b := w2.heap.size) (o := .cells #[.slice p2 n c2, .int .i64 c] 25) (by simp))).1
  have qw1 := (two_cells (HM.out.get (b := w2.heap.size) (o := .cells #[.slice p2 n c2, .int .i64 c] 25) (by simp))).2
  have qg0 := (two_cells (HM.out.get (b := w4.heap.size) (o := .cells #[.slice p4 n c4, .int .i64 c] 25) (by simp))).1
  have qg1 := (two_cells (HM.out.get (b := w4.heap.size) (o := .cells #[.slice p4 n c4, .int .i64 c] 25) (by simp))).2
  go_wp2_with fail
  refine (eqBits_same ys p4 p2 n c4 c2 c _ (HS4.out.toInts HM.out (by intro p hp; simp [hp])) (HS2.out.toInts HM.out (by intro p hp; simp [hp])) (by omega)).mono ?_
  rintro e w5 ⟨rfl, hg5⟩
  have HM := Lib.hid (HM.out.grown hg5)
  clear hg5
  clear qw0 qw1 qg0 qg1
  have qx0 := (two_cells (HM.out.get (b := w3.heap.size) (o := .cells #[.slice p3 len0 c3, .int .i64 a0] 25) (by simp))).1
  have qx1 := (two_cells (HM.out.get (b := w3.heap.size) (o := .cells #[.slice p3 len0 c3, .int .i64 a0] 25) (by simp))).2
  have qa0 := (two_cells (HM.out.get (b := w.heap.size) (o := .cells #[.slice ao0 len0 cap0, .int .i64 a0] 40) (by simp))).1
  have qa1 := (two_cells (HM.out.get (b := w.heap.size) (o := .cells #[.slice ao0 len0 cap0, .int .i64 a0] 40) (by simp))).2
  go_wp2_with fail
  have HK := Lib.hid HM.out
  go_region_held3 (fun w' => w'.cell? ⟨w3.heap.size, 0, none⟩ = some (.slice p3 len0 c3) ∧ w'.cell? ⟨w3.heap.size, 1, none⟩ = some (.int .i64 a0) ∧ w'.cell? ⟨w.heap.size, 0, none⟩ = some (.slice ao0 len0 cap0) ∧ w'.cell? ⟨w.heap.size, 1, none⟩ = some (.int .i64 a0)) (first | go_keep | exact ⟨by assumption, by assumption, by assumption, by assumption⟩) ((first
    | (go_at_call 27; refine (toBits_any xs0 ao0 len0 cap0 a0 _ ((HX0.out.grown HK.out.g).grown (grown_drew _ _)) (by omega)).mono ?_; rintro e w6 ⟨v6, rfl, ho6, hg6⟩; obtain ⟨p6, c6, rfl, _, _, hx6, _⟩ := ho6.reads; have HM := Lib.hid ((HK.out.grown (grown_drew _ _)).grown hg6); have HY6 := Lib.hid hx6; have hS0 := hg6.cell qx0 (by simp); have hS1 := hg6.cell qx1 (by simp); have hS2 := hg6.cell qa0 (by simp); have hS3 := hg6.cell qa1 (by simp); clear ho6 hg6 hx6)
    | (go_at_call 28; refine (eqBits_same xs0 p3 p6 len0 c3 c6 a0 _ (HS3.out.toInts HM.out (by intro p hp; simp [hp])) HY6.out (by omega)).mono ?_; rintro e w7 ⟨rfl, hg7⟩; have HM := Lib.hid (HM.out.grown hg7); have hT0 := hg7.cell hS0 (by simp); have hT1 := hg7.cell hS1 (by simp); have hT2 := hg7.cell hS2 (by simp); have hT3 := hg7.cell hS3 (by simp); clear hg7)))
  clear hS0 hS1 hS2 hS3 hT0 hT1 hT2 hT3 qx0 qx1 qa0 qa1 HK
  have qx0 := (two_cells (HM.out.get (b := w3.heap.size) (o := .cells #[.slice p3 len0 c3, .int .i64 a0] 25) (by simp))).1
  have qx1 := (two_cells (HM.out.get (b := w3.heap.size) (o := .cells #[.slice p3 len0 c3, .int .i64 a0] 25) (by simp))).2
  go_wp2_with fail
  refine (markBits_any xs0 (.slice p3 len0 c3) _ len0 a0 (1) _ (HM.out.owns HS3.out (by intro p hp; simp [hp])) (by omega) (by omega) (by omega)).mono ?_
  rintro e w8 ⟨rfl, ho8, hg8⟩
  obtain ⟨L8, _, hm8⟩ := Mem.write (A := [] ++ [(w.heap.size, Obj.cells #[.slice ao0 len0 cap0, .int .i64 a0] 40)] ++ L2 ++ [(w2.heap.size, Obj.cells #[.slice p2 n c2, .int .i64 c] 25)]) (L1 := L3) (B := [] ++ [(w3.heap.size, Obj.cells #[.slice p3 len0 c3, .int .i64 a0] 25)] ++ L4 ++ [(w4.heap.size, Obj.cells #[.slice p4 n c4, .int .i64 c] 25)]) (HM.out.cast (by simp)) HS3.out hg8 ho8
  have HM := Lib.hid hm8
  clear hm8 ho8 hg8
  clear qx0 qx1
  have qw0 := (two_cells (HM.out.get (b := w2.heap.size) (o := .cells #[.slice p2 n c2, .int .i64 c] 25) (by simp))).1
  have qw1 := (two_cells (HM.out.get (b := w2.heap.size) (o := .cells #[.slice p2 n c2, .int .i64 c] 25) (by simp))).2
  have qg0 := (two_cells (HM.out.get (b := w4.heap.size) (o := .cells #[.slice p4 n c4, .int .i64 c] 25) (by simp))).1
  have qg1 := (two_cells (HM.out.get (b := w4.heap.size) (o := .cells #[.slice p4 n c4, .int .i64 c] 25) (by simp))).2
  go_wp2_with fail
  refine (eqBits_same ys p4 p2 n c4 c2 c _ (HS4.out.toInts HM.out (by intro p hp; simp [hp])) (HS2.out.toInts HM.out (by intro p hp; simp [hp])) (by omega)).mono ?_
  rintro e w9 ⟨rfl, hg9⟩
  have HM := Lib.hid (HM.out.grown hg9)
  clear hg9
  clear qw0 qw1 qg0 qg1
  have qg0 := (two_cells (HM.out.get (b := w4.heap.size) (o := .cells #[.slice p4 n c4, .int .i64 c] 25) (by simp))).1
  have qg1 := (two_cells (HM.out.get (b := w4.heap.size) (o := .cells #[.slice p4 n c4, .int .i64 c] 25) (by simp))).2
  go_wp2_with fail
  refine (markBits_any ys (.slice p4 n c4) _ n c 1 _ (HM.out.owns HS4.out (by intro p hp; simp [hp])) (by omega) (by omega) (by omega)).mono ?_
  rintro e w10 ⟨rfl, ho10, hg10⟩
  obtain ⟨L10, hs10, hm10⟩ := Mem.write (A := [] ++ [(w.heap.size, Obj.cells #[.slice ao0 len0 cap0, .int .i64 a0] 40)] ++ L2 ++ [(w2.heap.size, Obj.cells #[.slice p2 n c2, .int .i64 c] 25)] ++ L8 ++ [(w3.heap.size, Obj.cells #[.slice p3 len0 c3, .int .i64 a0] 25)]) (L1 := L4) (B := [] ++ [(w4.heap.size, Obj.cells #[.slice p4 n c4, .int .i64 c] 25)]) (HM.out.cast (by simp)) HS4.out hg10 ho10
  have HM := Lib.hid hm10
  have HSm := Lib.hid hs10
  clear hm10 ho10 hg10 hs10
  clear qg0 qg1
  have qg0 := (two_cells (HM.out.get (b := w4.heap.size) (o := .cells #[.slice p4 n c4, .int .i64 c] 25) (by simp))).1
  have qg1 := (two_cells (HM.out.get (b := w4.heap.size) (o := .cells #[.slice p4 n c4, .int .i64 c] 25) (by simp))).2
  go_wp2_with fail
  refine (heldBits_any p4 n c4 c 1 _ (HSm.out.toInts HM.out (by intro p hp; simp [hp])) (by omega) (by omega) (by omega)).mono ?_
  rintro e w11 ⟨rfl, hg11⟩
  have HM := Lib.hid (HM.out.grown hg11)
  clear hg11
  clear qg0 qg1
  have qp00 := (two_cells (HM.out.get (b := w.heap.size) (o := .cells #[.slice ao0 len0 cap0, .int .i64 a0] 40) (by simp))).1
  have qp01 := (two_cells (HM.out.get (b := w.heap.size) (o := .cells #[.slice ao0 len0 cap0, .int .i64 a0] 40) (by simp))).2
  go_wp2_with fail
  refine (toBits_any xs0 ao0 len0 cap0 a0 _ (HX0.out.grown HM.out.g) (by omega)).mono ?_
  rintro e w12 ⟨v12, rfl, ho12, hg12⟩
  obtain ⟨p12, c12, rfl, hlc12, hn12, hx12, _⟩ := ho12.reads
  have HN12 := Lib.hid hn12
  have HY12 := Lib.hid hx12
  have HM := Lib.hid (HM.out.grown hg12)
  clear ho12 hg12 hx12 hn12
  clear qp00 qp01
  go_wp2_with fail
  refine (HI.out p12 c12 _ HY12.out hlc12 HN12.out (HE.out.grown HM.out.g)).mono ?_
  rintro e w13 ⟨v13, rfl, ho13, hg13⟩
  obtain ⟨L13, hs13, hm13⟩ := HM.out.own hg13 (Nat.le_refl _) ho13
  obtain ⟨p13, c13, rfl, _⟩ := ho13.reads
  have HS13 := Lib.hid hs13
  have HY12 := Lib.hid (HY12.out.grown hg13)
  have HM := Lib.hid (hm13.block (.cells #[.slice p13 n c13, .int .i64 c] 25))
  have HY12 := Lib.hid (HY12.out.grown (grown_alloc w13 (.cells #[.slice p13 n c13, .int .i64 c] 25) none))
  clear ho13 hg13 hs13 hm13
  have qw0 := (two_cells (HM.out.get (b := w2.heap.size) (o := .cells #[.slice p2 n c2, .int .i64 c] 25) (by simp))).1
  have qw1 := (two_cells (HM.out.get (b := w2.heap.size) (o := .cells #[.slice p2 n c2, .int .i64 c] 25) (by simp))).2
  have qg0 := (two_cells (HM.out.get (b := w13.heap.size) (o := .cells #[.slice p13 n c13, .int .i64 c] 25) (by simp))).1
  have qg1 := (two_cells (HM.out.get (b := w13.heap.size) (o := .cells #[.slice p13 n c13, .int .i64 c] 25) (by simp))).2
  go_wp2_with fail
  refine (eqBits_same ys p13 p2 n c13 c2 c _ (HS13.out.toInts HM.out (by intro p hp; simp [hp])) (HS2.out.toInts HM.out (by intro p hp; simp [hp])) (by omega)).mono ?_
  rintro e w14 ⟨rfl, hg14⟩
  have HM := Lib.hid (HM.out.grown hg14)
  clear hg14
  clear qw0 qw1 qg0 qg1
  have qg0 := (two_cells (HM.out.get (b := w4.heap.size) (o := .cells #[.slice p4 n c4, .int .i64 c] 25) (by simp))).1
  have qg1 := (two_cells (HM.out.get (b := w4.heap.size) (o := .cells #[.slice p4 n c4, .int .i64 c] 25) (by simp))).2
  go_wp2_with fail
  refine (heldBits_any p4 n c4 c 1 _ (HSm.out.toInts HM.out (by intro p hp; simp [hp])) (by omega) (by omega) (by omega)).mono ?_
  rintro e w15 ⟨rfl, hg15⟩
  have HM := Lib.hid (HM.out.grown hg15)
  clear hg15
  clear qg0 qg1
  go_wp2
  go_ret
  exact ⟨rfl, HM.out.g⟩

end Go.Proofs.YtcgcippniicaaaaDoor
