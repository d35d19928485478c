/-
  The walk of 'FnExactGainFor': it returns true and writes nothing that was there. For all arguments.
-/
import Derived.Test.YthjelbanelmekaaGnS
import Derived.Test.YthjelbanelmekaaGnI
import Derived.Test.YthjelbanelmekaaMem
import Derived.Deep.RegionHeld3
namespace Go.Proofs.Ythjelbanelmekaa
open Go.RowKit

set_option maxRecDepth 100000 in
set_option maxHeartbeats 4000000 in
theorem FnExactGainFor_walk (r d : Int) (ao : Option Addr) (len cap : Nat) (den : Int) (w : World) (xss : List (List Int)) (hx : Mat w ao len xss) (hmax : len ≤ 9223372036854775807) :
    Calls Try.prog 14 #[.agg #[.int .i64 r, .int .i64 d, .slice ao len cap], .int .i64 den] w (Holds w) := by
  by_cases hs : 1048576 < szL xss
  · have ksz := szAudio_any xss ao len cap r d _ (w.alloc (.cells #[.int .i64 r, .int .i64 d, .slice ao len cap] 39)) (hx.grown (grown_alloc _ _ _)) hmax rfl
    rw [if_neg (by omega)] at ksz
    clear hx hs
    go_enter Try.func14, Try.ntmps14
    go_wp2_with fail
    refine ksz.mono ?_
    rintro e w1 ⟨rfl, hg⟩
    have HG := Lib.hid (grown_trans (grown_alloc w (.cells #[.int .i64 r, .int .i64 d, .slice ao len cap] 39) none) hg)
    clear ksz hg
    go_wp2
    go_ret
    exact ⟨rfl, HG.out⟩
  have hs : szL xss ≤ 1048576 := by omega
  have ksz := szAudio_any xss ao len cap r d _ (w.alloc (.cells #[.int .i64 r, .int .i64 d, .slice ao len cap] 39)) (hx.grown (grown_alloc _ _ _)) hmax rfl
  rw [if_pos (by omega)] at ksz
  obtain ⟨z0, hz0⟩ : ∃ z0, 1048576 - (szL xss : Int) = z0 := ⟨_, rfl⟩
  rw [hz0] at ksz
  have hz1 : 0 ≤ z0 := by omega
  have hz2 : decide (z0 < 0) = false := by simp; omega
  obtain ⟨v0, HS, HI⟩ := (⟨_, fun ao cap W h => sGn_any xss ao len cap r d den W _ h hs rfl, fun ao cap W h => iGn_any xss ao len cap r d den W _ h hs rfl⟩ : ∃ v0 : Int, Hid (∀ ao cap W, Mat W ao len xss → Calls Try.prog 29 #[.agg #[.int .i64 r, .int .i64 d, .slice ao len cap], .int .i64 den] W fun e w' => e = .returned (.int .i64 v0) ∧ W.grownBy w' none) ∧ Hid (∀ ao cap W, Mat W ao len xss → Calls Try.prog 27 #[.agg #[.int .i64 r, .int .i64 d, .slice ao len cap], .int .i64 den] W fun e w' => e = .returned (.int .i64 v0) ∧ W.grownBy w' none))
  have HX := Lib.hid hx
  have HZ := Lib.hid hs
  clear hx hs hz0 hmax
  go_enter Try.func14, Try.ntmps14
  go_wp2_with fail
  refine ksz.mono ?_
  rintro e w0 ⟨rfl, hg0⟩
  have HM := Lib.hid (((Mem.start w).block (.cells #[.int .i64 r, .int .i64 d, .slice ao len cap] 39)).grown hg0)
  clear ksz hg0
  obtain ⟨qp0, qp1, qp2⟩ := three_cells (HM.out.get (b := w.heap.size) (o := .cells #[.int .i64 r, .int .i64 d, .slice ao len cap] 39) (by simp))
  go_wp2_with fail
  refine (toAudio_any xss ao len cap r d _ (HX.out.grown HM.out.g) HZ.out).mono ?_
  rintro e w1 ⟨u1, rfl, ho1, hg1⟩
  obtain ⟨p1, c1, rfl, _, _, hy1, _⟩ := ho1.reads
  have HM := Lib.hid (HM.out.grown hg1)
  have HY1 := Lib.hid hy1
  clear ho1 hg1 hy1 qp0 qp1 qp2
  go_wp2_with fail
  refine (HS.out p1 c1 _ HY1.out).mono ?_
  rintro e w2 ⟨rfl, hg2⟩
  have HM := Lib.hid (HM.out.grown hg2)
  clear hg2
  obtain ⟨qp0, qp1, qp2⟩ := three_cells (HM.out.get (b := w.heap.size) (o := .cells #[.int .i64 r, .int .i64 d, .slice ao len cap] 39) (by simp))
  go_wp2_with fail
  refine (toAudio_any xss ao len cap r d _ (HX.out.grown HM.out.g) HZ.out).mono ?_
  rintro e w3 ⟨u3, rfl, ho3, hg3⟩
  obtain ⟨p3, c3, rfl, _, _, hy3, _⟩ := ho3.reads
  have HM := Lib.hid ((HM.out.grown hg3).block (.cells #[.int .i64 r, .int .i64 d, .slice p3 len c3] 25))
  have HY3 := Lib.hid (hy3.grown (grown_alloc w3 (.cells #[.int .i64 r, .int .i64 d, .slice p3 len c3] 25) none))
  clear ho3 hg3 hy3 qp0 qp1 qp2
  obtain ⟨qx0, qx1, qx2⟩ := three_cells (HM.out.get (b := w3.heap.size) (o := .cells #[.int .i64 r, .int .i64 d, .slice p3 len c3] 25) (by simp))
  go_wp2_with fail
  refine (HI.out p3 c3 _ HY3.out).mono ?_
  rintro e w4 ⟨rfl, hg4⟩
  have HM := Lib.hid (HM.out.grown hg4)
  have HY3 := Lib.hid (HY3.out.grown hg4)
  clear hg4 qx0 qx1 qx2
  obtain ⟨qx0, qx1, qx2⟩ := three_cells (HM.out.get (b := w3.heap.size) (o := .cells #[.int .i64 r, .int .i64 d, .slice p3 len c3] 25) (by simp))
  obtain ⟨qa0, qa1, qa2⟩ := three_cells (HM.out.get (b := w.heap.size) (o := .cells #[.int .i64 r, .int .i64 d, .slice ao len cap] 39) (by simp))
  go_wp2_with fail
  have HK := Lib.hid HM.out
  go_region_held3 (fun w' => w'.cell? ⟨w3.heap.size, 0, none⟩ = some (.int .i64 r) ∧ w'.cell? ⟨w3.heap.size, 1, none⟩ = some (.int .i64 d) ∧ w'.cell? ⟨w3.heap.size, 2, none⟩ = some (.slice p3 len c3) ∧ w'.cell? ⟨w.heap.size, 0, none⟩ = some (.int .i64 r) ∧ w'.cell? ⟨w.heap.size, 1, none⟩ = some (.int .i64 d) ∧ w'.cell? ⟨w.heap.size, 2, none⟩ = some (.slice ao len cap)) (first | go_keep | exact ⟨by assumption, by assumption, by assumption, by assumption, by assumption, by assumption⟩) ((first
    | (go_at_call 31; refine (toAudio_any xss ao len cap r d _ ((HX.out.grown HK.out.g).grown (grown_drew _ _)) HZ.out).mono ?_; rintro e w5 ⟨u5, rfl, ho5, hg5⟩; obtain ⟨p5, c5, rfl, _, _, hy5, _⟩ := ho5.reads; have HM := Lib.hid ((HK.out.grown (grown_drew _ _)).grown hg5); have HY5 := Lib.hid hy5; have HY3 := Lib.hid ((HY3.out.grown (grown_drew _ _)).grown hg5); have hS0 := hg5.cell qx0 (by simp); have hS1 := hg5.cell qx1 (by simp); have hS2 := hg5.cell qx2 (by simp); have hS3 := hg5.cell qa0 (by simp); have hS4 := hg5.cell qa1 (by simp); have hS5 := hg5.cell qa2 (by simp); clear ho5 hg5 hy5)
    | (go_at_call 32; refine (eqAudio_same xss p3 p5 len c3 c5 r d _ HY3.out HY5.out HZ.out).mono ?_; rintro e w6 ⟨rfl, hg6⟩; have HM := Lib.hid (HM.out.grown hg6); have hT0 := hg6.cell hS0 (by simp); have hT1 := hg6.cell hS1 (by simp); have hT2 := hg6.cell hS2 (by simp); have hT3 := hg6.cell hS3 (by simp); have hT4 := hg6.cell hS4 (by simp); have hT5 := hg6.cell hS5 (by simp); clear hg6)))
  clear hS0 hS1 hS2 hS3 hS4 hS5 hT0 hT1 hT2 hT3 hT4 hT5 qx0 qx1 qx2 qa0 qa1 qa2 HK
  go_wp2
  go_ret
  exact ⟨rfl, HM.out.g⟩

end Go.Proofs.Ythjelbanelmekaa
