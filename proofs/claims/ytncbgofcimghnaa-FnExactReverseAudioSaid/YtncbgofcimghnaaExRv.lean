/-
  The walk of 'FnExactReverseAudio': it returns true and writes nothing that was there. For all arguments.
-/
import Derived.Test.YtncbgofcimghnaaEdR
import Derived.Test.YtncbgofcimghnaaEdV
import Derived.Test.YtncbgofcimghnaaEdZ
import Derived.Test.YtncbgofcimghnaaMarkA
import Derived.Test.YtncbgofcimghnaaMem
import Derived.Deep.RegionHeld3
namespace Go.Proofs.Ytncbgofcimghnaa
open Go.RowKit

set_option maxRecDepth 100000 in
set_option maxHeartbeats 4000000 in
theorem FnExactReverseAudio_walk (r d : Int) (ao : Option Addr) (len cap : Nat)  (w : World) (xss : List (List Int)) (hx : Mat w ao len xss) (hmax : len ≤ 9223372036854775807) :
    Calls Try.prog 14 #[.agg #[.int .i64 r, .int .i64 d, .slice ao len cap]] w (Holds w) := by
  by_cases hs : 1048576 < szL xss
  · have ksz := szAudio_any xss ao len cap r d _ (w.alloc (.cells #[.int .i64 r, .int .i64 d, .slice ao len cap] 43)) (hx.grown (grown_alloc _ _ _)) hmax rfl
    rw [if_neg (by omega)] at ksz
    clear hx hs
    go_enter Try.func14, Try.ntmps14
    go_wp2_with fail
    refine ksz.mono ?_
    rintro e w1 ⟨rfl, hg⟩
    have HG := Lib.hid (grown_trans (grown_alloc w (.cells #[.int .i64 r, .int .i64 d, .slice ao len cap] 43) none) hg)
    clear ksz hg
    go_wp2
    go_ret
    exact ⟨rfl, HG.out⟩
  have hs : szL xss ≤ 1048576 := by omega
  have ksz := szAudio_any xss ao len cap r d _ (w.alloc (.cells #[.int .i64 r, .int .i64 d, .slice ao len cap] 43)) (hx.grown (grown_alloc _ _ _)) hmax rfl
  rw [if_pos (by omega)] at ksz
  obtain ⟨z0, hz0⟩ : ∃ z0, 1048576 - (szL xss : Int) = z0 := ⟨_, rfl⟩
  rw [hz0] at ksz
  have hz1 : 0 ≤ z0 := by omega
  have hz2 : decide (z0 < 0) = false := by simp; omega
  obtain ⟨rr, dd, yss, ok, hS⟩ : ∃ rr dd yss ok, RvR r d xss rr dd yss ok := AuR_there _ _ _ _
  have hszy : szL yss ≤ 1048576 := rv_sz hS
  have HS := Lib.hid hS
  obtain ⟨T, hT⟩ : ∃ T, (xss.map List.length).sum = T := ⟨_, rfl⟩
  obtain ⟨U, hU⟩ : ∃ U, (yss.map List.length).sum = U := ⟨_, rfl⟩
  have HT := Lib.hid hT
  have HU := Lib.hid hU
  have hTb : decide (1 + (T : Int) < 0) = false := by simp; omega
  have hUb : decide (1 + (U : Int) < 0) = false := by simp; omega
  have kmX : Hid (∀ (q : Option Addr) (lo hi c : Nat) (W : World), MWin W lo hi (.slice q len c) len xss → Calls Try.prog 34 #[.agg #[.int .i64 r, .int .i64 d, .slice q len c], .int .i64 1] W fun e w' => e = .returned (.int .i64 (1 + (T : Int))) ∧ (MWin w' lo hi (.slice q len c) len (mrk 1 xss) ∧ Stp lo hi W w')) := fun q lo hi c W h => by
    have := markAudio_any xss r d q lo hi len c W h hs
    rwa [hT] at this
  have kmG : Hid (∀ (q : Option Addr) (lo hi c : Nat) (W : World), MWin W lo hi (.slice q yss.length c) yss.length yss → Calls Try.prog 34 #[.agg #[.int .i64 rr, .int .i64 dd, .slice q yss.length c], .int .i64 1] W fun e w' => e = .returned (.int .i64 (1 + (U : Int))) ∧ (MWin w' lo hi (.slice q yss.length c) yss.length (mrk 1 yss) ∧ Stp lo hi W w')) := fun q lo hi c W h => by
    have := markAudio_any yss rr dd q lo hi yss.length c W h hszy
    rwa [hU] at this
  have khG : Hid (∀ (q : Option Addr) (c : Nat) (W : World), Mat W q yss.length (mrk 1 yss) → Calls Try.prog 35 #[.agg #[.int .i64 rr, .int .i64 dd, .slice q yss.length c], .int .i64 1] W fun e w' => e = .returned (.int .i64 (1 + (U : Int))) ∧ W.grownBy w' none) := fun q c W h => by
    have := heldAudio_any yss rr dd q yss.length c W h hszy
    rwa [hU] at this
  have HX := Lib.hid hx
  have HZ := Lib.hid hs
  have HZY := Lib.hid hszy
  clear hx hs hz0 hmax hS hT hU hszy HT HU
  go_enter Try.func14, Try.ntmps14
  go_wp2_with fail
  refine ksz.mono ?_
  rintro e w0 ⟨rfl, hg0⟩
  have HM := Lib.hid (((Mem.start w).block (.cells #[.int .i64 r, .int .i64 d, .slice ao len cap] 43)).grown hg0)
  clear ksz hg0
  obtain ⟨qp0, qp1, qp2⟩ := three_cells (HM.out.get (b := w.heap.size) (o := .cells #[.int .i64 r, .int .i64 d, .slice ao len cap] 43) (by simp))
  go_wp2_with fail
  refine (toAudio_any xss ao len cap r d _ (HX.out.grown HM.out.g) HZ.out).mono ?_
  rintro e w1 ⟨u1, rfl, ho1, hg1⟩
  replace HM := Lib.hid (HM.out.grown hg1)
  obtain ⟨p1, c1, rfl, _, _, hy1, _⟩ := ho1.reads
  have HY1 := Lib.hid hy1
  clear ho1 hg1 hy1
  clear qp0 qp1 qp2
  obtain ⟨qp0, qp1, qp2⟩ := three_cells (HM.out.get (b := w.heap.size) (o := .cells #[.int .i64 r, .int .i64 d, .slice ao len cap] 43) (by simp))
  go_wp2_with fail
  refine (sRv_any xss p1 len c1 r d _ rr dd yss ok HY1.out HZ.out HS.out).mono ?_
  rintro e w2 ⟨v2, rfl, ho2, hg2⟩
  replace HM := Lib.hid (HM.out.grown hg2)
  obtain ⟨a2, c2, rfl, _⟩ := ho2.reads
  have HWw := Lib.hid (((ho2.base_le (Nat.zero_le _)).win).grown (grown_alloc w2 (.cells #[.int .i64 rr, .int .i64 dd, .slice a2 yss.length c2] 25) none))
  have HN2 : Hid (w.heap.size < w2.heap.size) := block_lt (HM.out.get (b := w.heap.size) (o := .cells #[.int .i64 r, .int .i64 d, .slice ao len cap] 43) (by simp))
  replace HM := Lib.hid (HM.out.block (.cells #[.int .i64 rr, .int .i64 dd, .slice a2 yss.length c2] 25))
  clear ho2 hg2 HY1
  clear qp0 qp1 qp2
  obtain ⟨qp0, qp1, qp2⟩ := three_cells (HM.out.get (b := w.heap.size) (o := .cells #[.int .i64 r, .int .i64 d, .slice ao len cap] 43) (by simp))
  obtain ⟨qw0, qw1, qw2⟩ := three_cells (HM.out.get (b := w2.heap.size) (o := .cells #[.int .i64 rr, .int .i64 dd, .slice a2 yss.length c2] 25) (by simp))
  go_wp2_with fail
  refine (toAudio_any xss ao len cap r d _ (HX.out.grown HM.out.g) HZ.out).mono ?_
  rintro e w3 ⟨u3, rfl, ho3, hg3⟩
  replace HM := Lib.hid (HM.out.grown hg3)
  replace HWw := Lib.hid (HWw.out.grown hg3)
  obtain ⟨p3, c3, rfl, _⟩ := ho3.reads
  have hn3 : w2.heap.size + 1 ≤ w3.heap.size := by have h := hg3.size; simpa using h
  have HN3 := Lib.hid hn3
  clear hn3
  have HXw := Lib.hid (((ho3.base_le (show w2.heap.size + 1 ≤ _ by simp)).win).grown (grown_alloc w3 (.cells #[.int .i64 r, .int .i64 d, .slice p3 len c3] 25) none))
  replace HM := Lib.hid (HM.out.block (.cells #[.int .i64 r, .int .i64 d, .slice p3 len c3] 25))
  replace HWw := Lib.hid (HWw.out.grown (grown_alloc w3 (.cells #[.int .i64 r, .int .i64 d, .slice p3 len c3] 25) none))
  clear ho3 hg3
  clear qp0 qp1 qp2 qw0 qw1 qw2
  obtain ⟨qp0, qp1, qp2⟩ := three_cells (HM.out.get (b := w.heap.size) (o := .cells #[.int .i64 r, .int .i64 d, .slice ao len cap] 43) (by simp))
  obtain ⟨qw0, qw1, qw2⟩ := three_cells (HM.out.get (b := w2.heap.size) (o := .cells #[.int .i64 rr, .int .i64 dd, .slice a2 yss.length c2] 25) (by simp))
  obtain ⟨qx0, qx1, qx2⟩ := three_cells (HM.out.get (b := w3.heap.size) (o := .cells #[.int .i64 r, .int .i64 d, .slice p3 len c3] 25) (by simp))
  go_wp2_with fail
  refine (iRv_any xss p3 len c3 r d _ rr dd yss ok HXw.out.mat HZ.out HS.out).mono ?_
  rintro e w4 ⟨v4, rfl, ho4, hg4⟩
  replace HM := Lib.hid (HM.out.grown hg4)
  replace HWw := Lib.hid (HWw.out.grown hg4)
  replace HXw := Lib.hid (HXw.out.grown hg4)
  obtain ⟨a4, c4, rfl, _⟩ := ho4.reads
  have hn4 : w3.heap.size + 1 ≤ w4.heap.size := by have h := hg4.size; simpa using h
  have HN4 := Lib.hid hn4
  clear hn4
  have HGw := Lib.hid (((ho4.base_le (show w3.heap.size + 1 ≤ _ by simp)).win).grown (grown_alloc w4 (.cells #[.int .i64 rr, .int .i64 dd, .slice a4 yss.length c4] 25) none))
  replace HM := Lib.hid (HM.out.block (.cells #[.int .i64 rr, .int .i64 dd, .slice a4 yss.length c4] 25))
  replace HWw := Lib.hid (HWw.out.grown (grown_alloc w4 (.cells #[.int .i64 rr, .int .i64 dd, .slice a4 yss.length c4] 25) none))
  replace HXw := Lib.hid (HXw.out.grown (grown_alloc w4 (.cells #[.int .i64 rr, .int .i64 dd, .slice a4 yss.length c4] 25) none))
  clear ho4 hg4
  clear qp0 qp1 qp2 qw0 qw1 qw2 qx0 qx1 qx2
  obtain ⟨qp0, qp1, qp2⟩ := three_cells (HM.out.get (b := w.heap.size) (o := .cells #[.int .i64 r, .int .i64 d, .slice ao len cap] 43) (by simp))
  obtain ⟨qw0, qw1, qw2⟩ := three_cells (HM.out.get (b := w2.heap.size) (o := .cells #[.int .i64 rr, .int .i64 dd, .slice a2 yss.length c2] 25) (by simp))
  obtain ⟨qx0, qx1, qx2⟩ := three_cells (HM.out.get (b := w3.heap.size) (o := .cells #[.int .i64 r, .int .i64 d, .slice p3 len c3] 25) (by simp))
  obtain ⟨qg0, qg1, qg2⟩ := three_cells (HM.out.get (b := w4.heap.size) (o := .cells #[.int .i64 rr, .int .i64 dd, .slice a4 yss.length c4] 25) (by simp))
  go_wp2_with fail
  refine (eqAudio_same yss a4 a2 yss.length c4 c2 rr dd _ HGw.out.mat HWw.out.mat HZY.out).mono ?_
  rintro e w5 ⟨rfl, hg5⟩
  replace HM := Lib.hid (HM.out.grown hg5)
  replace HWw := Lib.hid (HWw.out.grown hg5)
  replace HXw := Lib.hid (HXw.out.grown hg5)
  replace HGw := Lib.hid (HGw.out.grown hg5)
  clear hg5
  clear qp0 qp1 qp2 qw0 qw1 qw2 qx0 qx1 qx2 qg0 qg1 qg2
  obtain ⟨qp0, qp1, qp2⟩ := three_cells (HM.out.get (b := w.heap.size) (o := .cells #[.int .i64 r, .int .i64 d, .slice ao len cap] 43) (by simp))
  obtain ⟨qw0, qw1, qw2⟩ := three_cells (HM.out.get (b := w2.heap.size) (o := .cells #[.int .i64 rr, .int .i64 dd, .slice a2 yss.length c2] 25) (by simp))
  obtain ⟨qx0, qx1, qx2⟩ := three_cells (HM.out.get (b := w3.heap.size) (o := .cells #[.int .i64 r, .int .i64 d, .slice p3 len c3] 25) (by simp))
  obtain ⟨qg0, qg1, qg2⟩ := three_cells (HM.out.get (b := w4.heap.size) (o := .cells #[.int .i64 rr, .int .i64 dd, .slice a4 yss.length c4] 25) (by simp))
  clear qw0 qw1 qw2 qg0 qg1 qg2
  go_wp2_with fail
  have HK := Lib.hid HM.out
  have HXm := Lib.hid HXw.out.mat
  go_region_held3 (fun w' => w'.cell? ⟨w3.heap.size, 0, none⟩ = some (.int .i64 r) ∧ w'.cell? ⟨w3.heap.size, 1, none⟩ = some (.int .i64 d) ∧ w'.cell? ⟨w3.heap.size, 2, none⟩ = some (.slice p3 len c3) ∧ w'.cell? ⟨w.heap.size, 0, none⟩ = some (.int .i64 r) ∧ w'.cell? ⟨w.heap.size, 1, none⟩ = some (.int .i64 d) ∧ w'.cell? ⟨w.heap.size, 2, none⟩ = some (.slice ao len cap)) (first | go_keep | exact ⟨by assumption, by assumption, by assumption, by assumption, by assumption, by assumption⟩) ((first
    | (go_at_call 32; refine (toAudio_any xss ao len cap r d _ ((HX.out.grown HK.out.g).grown (grown_drew _ _)) HZ.out).mono ?_; rintro e w6 ⟨u6, rfl, ho6, hg6⟩; obtain ⟨p6, c6, rfl, _, _, hy6, _⟩ := ho6.reads; have HY6 := Lib.hid hy6; have HX6 := Lib.hid ((HXm.out.grown (grown_drew _ _)).grown hg6); have HG6 := Lib.hid (grown_trans (grown_drew w5 none) hg6); have hS0 := hg6.cell qx0 (by simp); have hS1 := hg6.cell qx1 (by simp); have hS2 := hg6.cell qx2 (by simp); have hS3 := hg6.cell qp0 (by simp); have hS4 := hg6.cell qp1 (by simp); have hS5 := hg6.cell qp2 (by simp); clear ho6 hg6 hy6)
    | (go_at_call 33; refine (eqAudio_same xss p3 p6 len c3 c6 r d _ HX6.out HY6.out HZ.out).mono ?_; rintro e w7 ⟨rfl, hg7⟩; have HG7 := Lib.hid (grown_trans HG6.out hg7); have hT0 := hg7.cell hS0 (by simp); have hT1 := hg7.cell hS1 (by simp); have hT2 := hg7.cell hS2 (by simp); have hT3 := hg7.cell hS3 (by simp); have hT4 := hg7.cell hS4 (by simp); have hT5 := hg7.cell hS5 (by simp); clear hg7)))
  clear hS0 hS1 hS2 hS3 hS4 hS5 hT0 hT1 hT2 hT3 hT4 hT5 qx0 qx1 qx2 qp0 qp1 qp2 HK HXm HX6 HY6 HG6
  replace HM := Lib.hid (HM.out.grown HG7.out)
  replace HWw := Lib.hid (HWw.out.grown HG7.out)
  replace HXw := Lib.hid (HXw.out.grown HG7.out)
  replace HGw := Lib.hid (HGw.out.grown HG7.out)
  clear HG7
  obtain ⟨qp0, qp1, qp2⟩ := three_cells (HM.out.get (b := w.heap.size) (o := .cells #[.int .i64 r, .int .i64 d, .slice ao len cap] 43) (by simp))
  obtain ⟨qw0, qw1, qw2⟩ := three_cells (HM.out.get (b := w2.heap.size) (o := .cells #[.int .i64 rr, .int .i64 dd, .slice a2 yss.length c2] 25) (by simp))
  obtain ⟨qx0, qx1, qx2⟩ := three_cells (HM.out.get (b := w3.heap.size) (o := .cells #[.int .i64 r, .int .i64 d, .slice p3 len c3] 25) (by simp))
  obtain ⟨qg0, qg1, qg2⟩ := three_cells (HM.out.get (b := w4.heap.size) (o := .cells #[.int .i64 rr, .int .i64 dd, .slice a4 yss.length c4] 25) (by simp))
  go_wp2_with fail
  refine (kmX.out p3 _ _ c3 _ HXw.out).mono ?_
  rintro e w8 ⟨rfl, _, hst⟩
  replace HM := Lib.hid (HM.out.stp hst (by have := HN2.out; omega) (by have h2 := HN2.out; have h3 := HN3.out; have h4 := HN4.out; intro q hq; simp at hq; rcases hq with rfl | rfl | rfl | rfl <;> simp <;> omega))
  replace HWw := Lib.hid (hst.win (Or.inr (by omega)) HWw.out)
  replace HGw := Lib.hid (hst.win (Or.inl (by omega)) HGw.out)
  clear hst HXw kmX
  clear qp0 qp1 qp2 qw0 qw1 qw2 qx0 qx1 qx2 qg0 qg1 qg2
  obtain ⟨qp0, qp1, qp2⟩ := three_cells (HM.out.get (b := w.heap.size) (o := .cells #[.int .i64 r, .int .i64 d, .slice ao len cap] 43) (by simp))
  obtain ⟨qw0, qw1, qw2⟩ := three_cells (HM.out.get (b := w2.heap.size) (o := .cells #[.int .i64 rr, .int .i64 dd, .slice a2 yss.length c2] 25) (by simp))
  obtain ⟨qg0, qg1, qg2⟩ := three_cells (HM.out.get (b := w4.heap.size) (o := .cells #[.int .i64 rr, .int .i64 dd, .slice a4 yss.length c4] 25) (by simp))
  go_wp2_with fail
  refine (eqAudio_same yss a4 a2 yss.length c4 c2 rr dd _ HGw.out.mat HWw.out.mat HZY.out).mono ?_
  rintro e w9 ⟨rfl, hg9⟩
  replace HM := Lib.hid (HM.out.grown hg9)
  replace HWw := Lib.hid (HWw.out.grown hg9)
  replace HGw := Lib.hid (HGw.out.grown hg9)
  clear hg9
  clear qp0 qp1 qp2 qw0 qw1 qw2 qg0 qg1 qg2
  obtain ⟨qp0, qp1, qp2⟩ := three_cells (HM.out.get (b := w.heap.size) (o := .cells #[.int .i64 r, .int .i64 d, .slice ao len cap] 43) (by simp))
  obtain ⟨qw0, qw1, qw2⟩ := three_cells (HM.out.get (b := w2.heap.size) (o := .cells #[.int .i64 rr, .int .i64 dd, .slice a2 yss.length c2] 25) (by simp))
  obtain ⟨qg0, qg1, qg2⟩ := three_cells (HM.out.get (b := w4.heap.size) (o := .cells #[.int .i64 rr, .int .i64 dd, .slice a4 yss.length c4] 25) (by simp))
  go_wp2_with fail
  refine (kmG.out a4 _ _ c4 _ HGw.out).mono ?_
  rintro e w10 ⟨rfl, hgm, hst⟩
  replace HM := Lib.hid (HM.out.stp hst (by have := HN2.out; have := HN3.out; omega) (by have h2 := HN2.out; have h3 := HN3.out; have h4 := HN4.out; intro q hq; simp at hq; rcases hq with rfl | rfl | rfl | rfl <;> simp <;> omega))
  replace HWw := Lib.hid (hst.win (Or.inr (by have := HN3.out; omega)) HWw.out)
  replace HGw := Lib.hid hgm
  clear hst hgm kmG
  clear qp0 qp1 qp2 qw0 qw1 qw2 qg0 qg1 qg2
  obtain ⟨qp0, qp1, qp2⟩ := three_cells (HM.out.get (b := w.heap.size) (o := .cells #[.int .i64 r, .int .i64 d, .slice ao len cap] 43) (by simp))
  obtain ⟨qw0, qw1, qw2⟩ := three_cells (HM.out.get (b := w2.heap.size) (o := .cells #[.int .i64 rr, .int .i64 dd, .slice a2 yss.length c2] 25) (by simp))
  obtain ⟨qg0, qg1, qg2⟩ := three_cells (HM.out.get (b := w4.heap.size) (o := .cells #[.int .i64 rr, .int .i64 dd, .slice a4 yss.length c4] 25) (by simp))
  go_wp2_with fail
  refine (khG.out a4 c4 _ HGw.out.mat).mono ?_
  rintro e w11 ⟨rfl, hg11⟩
  replace HM := Lib.hid (HM.out.grown hg11)
  replace HWw := Lib.hid (HWw.out.grown hg11)
  replace HGw := Lib.hid (HGw.out.grown hg11)
  clear hg11
  clear qp0 qp1 qp2 qw0 qw1 qw2 qg0 qg1 qg2
  obtain ⟨qp0, qp1, qp2⟩ := three_cells (HM.out.get (b := w.heap.size) (o := .cells #[.int .i64 r, .int .i64 d, .slice ao len cap] 43) (by simp))
  obtain ⟨qw0, qw1, qw2⟩ := three_cells (HM.out.get (b := w2.heap.size) (o := .cells #[.int .i64 rr, .int .i64 dd, .slice a2 yss.length c2] 25) (by simp))
  obtain ⟨qg0, qg1, qg2⟩ := three_cells (HM.out.get (b := w4.heap.size) (o := .cells #[.int .i64 rr, .int .i64 dd, .slice a4 yss.length c4] 25) (by simp))
  go_wp2_with fail
  refine (toAudio_any xss ao len cap r d _ (HX.out.grown HM.out.g) HZ.out).mono ?_
  rintro e w12 ⟨u12, rfl, ho12, hg12⟩
  replace HM := Lib.hid (HM.out.grown hg12)
  replace HWw := Lib.hid (HWw.out.grown hg12)
  replace HGw := Lib.hid (HGw.out.grown hg12)
  obtain ⟨p12, c12, rfl, _, _, hy12, _⟩ := ho12.reads
  have HY12 := Lib.hid hy12
  clear ho12 hg12 hy12
  clear qp0 qp1 qp2 qw0 qw1 qw2 qg0 qg1 qg2
  obtain ⟨qp0, qp1, qp2⟩ := three_cells (HM.out.get (b := w.heap.size) (o := .cells #[.int .i64 r, .int .i64 d, .slice ao len cap] 43) (by simp))
  obtain ⟨qw0, qw1, qw2⟩ := three_cells (HM.out.get (b := w2.heap.size) (o := .cells #[.int .i64 rr, .int .i64 dd, .slice a2 yss.length c2] 25) (by simp))
  obtain ⟨qg0, qg1, qg2⟩ := three_cells (HM.out.get (b := w4.heap.size) (o := .cells #[.int .i64 rr, .int .i64 dd, .slice a4 yss.length c4] 25) (by simp))
  go_wp2_with fail
  refine (iRv_any xss p12 len c12 r d _ rr dd yss ok HY12.out HZ.out HS.out).mono ?_
  rintro e w13 ⟨v13, rfl, ho13, hg13⟩
  replace HM := Lib.hid (HM.out.grown hg13)
  replace HWw := Lib.hid (HWw.out.grown hg13)
  replace HGw := Lib.hid (HGw.out.grown hg13)
  obtain ⟨a13, c13, rfl, _, _, hy13, _⟩ := ho13.reads
  have HH := Lib.hid (hy13.grown (grown_alloc w13 (.cells #[.int .i64 rr, .int .i64 dd, .slice a13 yss.length c13] 25) none))
  replace HM := Lib.hid (HM.out.block (.cells #[.int .i64 rr, .int .i64 dd, .slice a13 yss.length c13] 25))
  replace HWw := Lib.hid (HWw.out.grown (grown_alloc w13 (.cells #[.int .i64 rr, .int .i64 dd, .slice a13 yss.length c13] 25) none))
  replace HGw := Lib.hid (HGw.out.grown (grown_alloc w13 (.cells #[.int .i64 rr, .int .i64 dd, .slice a13 yss.length c13] 25) none))
  clear ho13 hg13 hy13 HY12
  clear qp0 qp1 qp2 qw0 qw1 qw2 qg0 qg1 qg2
  obtain ⟨qp0, qp1, qp2⟩ := three_cells (HM.out.get (b := w.heap.size) (o := .cells #[.int .i64 r, .int .i64 d, .slice ao len cap] 43) (by simp))
  obtain ⟨qw0, qw1, qw2⟩ := three_cells (HM.out.get (b := w2.heap.size) (o := .cells #[.int .i64 rr, .int .i64 dd, .slice a2 yss.length c2] 25) (by simp))
  obtain ⟨qg0, qg1, qg2⟩ := three_cells (HM.out.get (b := w4.heap.size) (o := .cells #[.int .i64 rr, .int .i64 dd, .slice a4 yss.length c4] 25) (by simp))
  obtain ⟨qh0, qh1, qh2⟩ := three_cells (HM.out.get (b := w13.heap.size) (o := .cells #[.int .i64 rr, .int .i64 dd, .slice a13 yss.length c13] 25) (by simp))
  go_wp2_with fail
  refine (eqAudio_same yss a13 a2 yss.length c13 c2 rr dd _ HH.out HWw.out.mat HZY.out).mono ?_
  rintro e w14 ⟨rfl, hg14⟩
  replace HM := Lib.hid (HM.out.grown hg14)
  replace HWw := Lib.hid (HWw.out.grown hg14)
  replace HGw := Lib.hid (HGw.out.grown hg14)
  replace HH := Lib.hid (HH.out.grown hg14)
  clear hg14
  clear qp0 qp1 qp2 qw0 qw1 qw2 qg0 qg1 qg2 qh0 qh1 qh2
  obtain ⟨qp0, qp1, qp2⟩ := three_cells (HM.out.get (b := w.heap.size) (o := .cells #[.int .i64 r, .int .i64 d, .slice ao len cap] 43) (by simp))
  obtain ⟨qw0, qw1, qw2⟩ := three_cells (HM.out.get (b := w2.heap.size) (o := .cells #[.int .i64 rr, .int .i64 dd, .slice a2 yss.length c2] 25) (by simp))
  obtain ⟨qg0, qg1, qg2⟩ := three_cells (HM.out.get (b := w4.heap.size) (o := .cells #[.int .i64 rr, .int .i64 dd, .slice a4 yss.length c4] 25) (by simp))
  obtain ⟨qh0, qh1, qh2⟩ := three_cells (HM.out.get (b := w13.heap.size) (o := .cells #[.int .i64 rr, .int .i64 dd, .slice a13 yss.length c13] 25) (by simp))
  go_wp2_with fail
  refine (khG.out a4 c4 _ HGw.out.mat).mono ?_
  rintro e w15 ⟨rfl, hg15⟩
  replace HM := Lib.hid (HM.out.grown hg15)
  replace HWw := Lib.hid (HWw.out.grown hg15)
  replace HGw := Lib.hid (HGw.out.grown hg15)
  replace HH := Lib.hid (HH.out.grown hg15)
  clear hg15
  clear qp0 qp1 qp2 qw0 qw1 qw2 qg0 qg1 qg2 qh0 qh1 qh2
  go_wp2
  go_ret
  exact ⟨rfl, HM.out.g⟩

end Go.Proofs.Ytncbgofcimghnaa
