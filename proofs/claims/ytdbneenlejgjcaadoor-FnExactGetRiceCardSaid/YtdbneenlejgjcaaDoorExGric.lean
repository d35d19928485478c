/-
  The walk of 'FnExactGetRice': it returns true and writes nothing that was there. For all arguments.
-/
import Derived.Test.YtdbneenlejgjcaaDoorGRic
import Derived.Test.YtdbneenlejgjcaaDoorStruct
import Derived.Test.YtdbneenlejgjcaaDoorExBits
import Derived.Deep.RegionHeld3
namespace Go.Proofs.YtdbneenlejgjcaaDoor
open Go.RowKit

theorem gric_ex (xs : List Int) (c a z : Int) (len : Nat) (hlen : len ≤ 1048576) : ∃ (n p : Int) (ok : Bool),
    Hid (∀ (ao : Option Addr) (cap : Nat) (w : World), Ints w ao len xs → len ≤ cap → (ao = none → cap = 0) → Calls Tryd.prog 28 #[.agg #[.slice ao len cap, .int .i64 c], .int .i64 a, .int .i64 z] w (GotNNB n p ok w)) ∧
    Hid (∀ (ao : Option Addr) (cap : Nat) (w : World), Ints w ao len xs → len ≤ cap → (ao = none → cap = 0) → ErrsG w → Calls Tryd.prog 26 #[.agg #[.slice ao len cap, .int .i64 c], .int .i64 a, .int .i64 z] w (GotNNB n p ok w)) := by
  obtain ⟨n, p, ok, hS, hI, _, _⟩ := gric_both xs c a z len (by omega)
  exact ⟨n, p, ok, fun ao cap w hx _ _ => hS.out ao cap w hx, fun ao cap w hx _ _ hE => hI.out ao cap w hx hE⟩

set_option maxRecDepth 100000 in
set_option maxHeartbeats 4000000 in
theorem FnExactGetRice_walk (ao0 : Option Addr) (len0 cap0 : Nat) (a0 : Int) (a1 : Int) (a2 : Int) (w : World) (xs0 : List Int) (hx0 : Ints w ao0 len0 xs0) (hmax0 : len0 ≤ 9223372036854775807) (hE : ErrsG w) :
    Calls Tryd.prog 11 #[.agg #[.slice ao0 len0 cap0, .int .i64 a0], .int .i64 a1, .int .i64 a2] w (Holds w) := by
  by_cases hlen0 : 1048576 < len0
  · have ksz := szBits_any ao0 len0 cap0 a0 1048576 _ (w.alloc (.cells #[.slice ao0 len0 cap0, .int .i64 a0] 43)) (by decide) (by decide) hmax0 rfl
    rw [if_neg (by omega)] at ksz
    clear hx0 hE
    go_enter Tryd.func11, Tryd.ntmps11
    go_wp2_with fail
    refine ksz.mono ?_
    rintro e w1 ⟨rfl, hg⟩
    have HG : Hid (w.grownBy w1 none) := grown_trans (grown_alloc _ _ _) hg
    clear ksz hg
    go_wp2
    go_ret
    exact ⟨rfl, HG.out⟩
  have hlen0' : len0 ≤ 1048576 := by omega
  have hm0 : decide (1048576 < (len0 : Int)) = false := by simp; omega
  obtain ⟨n1, p1, v, HS, HI⟩ := gric_ex xs0 a0 a1 a2 len0 (by omega)
  have HE := Lib.hid hE
  clear hE
  have HX0 := Lib.hid hx0
  clear hx0 hmax0 hlen0
  have ksz := szBits_any ao0 len0 cap0 a0 1048576 _ (w.alloc (.cells #[.slice ao0 len0 cap0, .int .i64 a0] 43)) (by decide) (by decide) (by omega) rfl
  rw [if_pos (by omega)] at ksz
  go_enter Tryd.func11, Tryd.ntmps11
  go_wp2_with fail
  refine ksz.mono ?_
  rintro e w0 ⟨rfl, hg0⟩
  have HM := Lib.hid (((Mem.start w).block (.cells #[.slice ao0 len0 cap0, .int .i64 a0] 43)).grown hg0)
  clear ksz hg0
  have qp00 := (two_cells (HM.out.get (b := w.heap.size) (o := .cells #[.slice ao0 len0 cap0, .int .i64 a0] 43) (by simp))).1
  have qp01 := (two_cells (HM.out.get (b := w.heap.size) (o := .cells #[.slice ao0 len0 cap0, .int .i64 a0] 43) (by simp))).2
  go_wp2_with fail
  refine (toBits_any xs0 ao0 len0 cap0 a0 _ (HX0.out.grown HM.out.g) (by omega)).mono ?_
  rintro e w1 ⟨v1, rfl, ho1, hg1⟩
  obtain ⟨p1, c1, rfl, hlc1, hn1, hx1, _⟩ := ho1.reads
  have HN1 := Lib.hid hn1
  have HY1 := Lib.hid hx1
  have HM := Lib.hid (HM.out.grown hg1)
  clear ho1 hg1 hx1 hn1
  clear qp00 qp01
  go_wp2_with fail
  refine (HS.out p1 c1 _ HY1.out hlc1 HN1.out).mono ?_
  rintro e w2 ⟨rfl, hg2⟩
  have HM := Lib.hid (HM.out.grown hg2)
  have HY1 := Lib.hid (HY1.out.grown hg2)
  clear hg2
  have qp00 := (two_cells (HM.out.get (b := w.heap.size) (o := .cells #[.slice ao0 len0 cap0, .int .i64 a0] 43) (by simp))).1
  have qp01 := (two_cells (HM.out.get (b := w.heap.size) (o := .cells #[.slice ao0 len0 cap0, .int .i64 a0] 43) (by simp))).2
  go_wp2_with fail
  refine (toBits_any xs0 ao0 len0 cap0 a0 _ (HX0.out.grown HM.out.g) (by omega)).mono ?_
  rintro e w3 ⟨v3, rfl, ho3, hg3⟩
  obtain ⟨L3, hs3, hm3⟩ := HM.out.own hg3 (Nat.le_refl _) ho3
  obtain ⟨p3, c3, rfl, hlc3, hn3, hx3, _⟩ := ho3.reads
  have HN3 := Lib.hid hn3
  have HY3 := Lib.hid hx3
  have HS3 := Lib.hid hs3
  have HM := Lib.hid (hm3.block (.cells #[.slice p3 len0 c3, .int .i64 a0] 28))
  have HY3 := Lib.hid (HY3.out.grown (grown_alloc w3 (.cells #[.slice p3 len0 c3, .int .i64 a0] 28) none))
  clear ho3 hg3 hs3 hm3 hx3 hn3
  clear qp00 qp01
  have qx00 := (two_cells (HM.out.get (b := w3.heap.size) (o := .cells #[.slice p3 len0 c3, .int .i64 a0] 28) (by simp))).1
  have qx01 := (two_cells (HM.out.get (b := w3.heap.size) (o := .cells #[.slice p3 len0 c3, .int .i64 a0] 28) (by simp))).2
  go_wp2_with fail
  refine (HI.out p3 c3 _ HY3.out hlc3 HN3.out (HE.out.grown HM.out.g)).mono ?_
  rintro e w4 ⟨rfl, hg4⟩
  have HM := Lib.hid (HM.out.grown hg4)
  have HY3 := Lib.hid (HY3.out.grown hg4)
  clear hg4
  clear qx00 qx01
  have qx0 := (two_cells (HM.out.get (b := w3.heap.size) (o := .cells #[.slice p3 len0 c3, .int .i64 a0] 28) (by simp))).1
  have qx1 := (two_cells (HM.out.get (b := w3.heap.size) (o := .cells #[.slice p3 len0 c3, .int .i64 a0] 28) (by simp))).2
  have qa0 := (two_cells (HM.out.get (b := w.heap.size) (o := .cells #[.slice ao0 len0 cap0, .int .i64 a0] 43) (by simp))).1
  have qa1 := (two_cells (HM.out.get (b := w.heap.size) (o := .cells #[.slice ao0 len0 cap0, .int .i64 a0] 43) (by simp))).2
  go_wp2_with fail
  have HK := Lib.hid HM.out
  go_region_held3 (fun w' => w'.cell? ⟨w3.heap.size, 0, none⟩ = some (.slice p3 len0 c3) ∧ w'.cell? ⟨w3.heap.size, 1, none⟩ = some (.int .i64 a0) ∧ w'.cell? ⟨w.heap.size, 0, none⟩ = some (.slice ao0 len0 cap0) ∧ w'.cell? ⟨w.heap.size, 1, none⟩ = some (.int .i64 a0)) (first | go_keep | exact ⟨by assumption, by assumption, by assumption, by assumption⟩) ((first
    | (go_at_call 30; refine (toBits_any xs0 ao0 len0 cap0 a0 _ ((HX0.out.grown HK.out.g).grown (grown_drew _ _)) (by omega)).mono ?_; rintro e w5 ⟨v5, rfl, ho5, hg5⟩; obtain ⟨p5, c5, rfl, _, _, hx5, _⟩ := ho5.reads; have HM := Lib.hid ((HK.out.grown (grown_drew _ _)).grown hg5); have HY5 := Lib.hid hx5; have hS0 := hg5.cell qx0 (by simp); have hS1 := hg5.cell qx1 (by simp); have hS2 := hg5.cell qa0 (by simp); have hS3 := hg5.cell qa1 (by simp); clear ho5 hg5 hx5)
    | (go_at_call 31; refine (eqBits_same xs0 p3 p5 len0 c3 c5 a0 _ (HS3.out.toInts HM.out (by intro p hp; simp [hp])) HY5.out (by omega)).mono ?_; rintro e w6 ⟨rfl, hg6⟩; have HM := Lib.hid (HM.out.grown hg6); have hT0 := hg6.cell hS0 (by simp); have hT1 := hg6.cell hS1 (by simp); have hT2 := hg6.cell hS2 (by simp); have hT3 := hg6.cell hS3 (by simp); clear hg6)))
  clear hS0 hS1 hS2 hS3 hT0 hT1 hT2 hT3 qx0 qx1 qa0 qa1 HK
  go_wp2
  go_ret
  exact ⟨rfl, HM.out.g⟩

end Go.Proofs.YtdbneenlejgjcaaDoor
