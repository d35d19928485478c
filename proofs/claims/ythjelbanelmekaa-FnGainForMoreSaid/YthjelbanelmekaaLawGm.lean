/-
  The walk of 'FnGainForMore': it returns true and writes nothing that was there. For every code.
-/
import Derived.Test.YthjelbanelmekaaLawGn
namespace Go.Proofs.Ythjelbanelmekaa
open Go.RowKit

theorem gn_more {r d : Int} {xss : List (List Int)} {den : Int} (h : ¬ gnV r d xss den < 0) (h64 : ¬ den = 64) : gnV r d xss den ≤ gnV r d xss (den + 1) := by
  by_cases hc : vAu r d xss = true ∧ 1 ≤ den ∧ den ≤ 64
  · obtain ⟨u, H, hV⟩ := va_of hc.1
    rw [gnV_yes hV hc.2.1 hc.2.2, gnV_yes hV (by omega) (by omega)]
    have := gS_mono (u := u) (xss := xss) hc.2.1 64
    omega
  · rw [gnV_no hc] at h; omega

set_option maxRecDepth 100000 in
set_option maxHeartbeats 4000000 in
theorem FnGainForMore_walk (ao : Option Addr) (len cap : Nat) (w : World) (hb : BytesAt w ao len) (hlc : len ≤ cap) (hmax : len ≤ 9223372036854775807) :
    Calls Try.prog 10 #[.slice ao len cap] w (Holds w) := by
  by_cases hlen : 1048576 < len
  · clear hb
    go_enter Try.func10, Try.ntmps10
    go_wp2
    go_ret
    exact ⟨rfl, grown_refl _ _⟩
  have hd := drawGn_any ao len cap w hb hlc hmax
  have hm : decide (1048576 < (len : Int)) = false := by simp; omega
  clear hb hlen
  go_enter Try.func10, Try.ntmps10
  go_wp2_with fail
  refine hd.mono ?_
  rintro e w1 ⟨p, q, a, l, c, xss, x0, rfl, hx0, hmat, hl2, hs2, hg1⟩
  have HM := Lib.hid (((Mem.start w).grown hg1).block (.cells #[.int .i64 p, .int .i64 q, .slice a l c] 25))
  have HX := Lib.hid (hmat.grown (grown_alloc w1 (.cells #[.int .i64 p, .int .i64 q, .slice a l c] 25) none))
  have hsz : szL xss ≤ 1048576 := by omega
  clear hd hmat hg1
  have hx0b : 0 ≤ x0 ∧ x0 ≤ 300 := by simp at hx0; omega
  have hx00 := hx0b.1
  have hx01 := hx0b.2
  clear hx0 hx0b
  obtain ⟨z, hz⟩ : ∃ z, gnV p q xss x0 = z := ⟨_, rfl⟩
  have HZ := Lib.hid hz
  clear hz
  obtain ⟨q00, q01, q02⟩ := three_cells (HM.out.get (b := w1.heap.size) (o := .cells #[.int .i64 p, .int .i64 q, .slice a l c] 25) (by simp))
  go_wp2_with fail
  refine (iGn_any xss a l c p q x0 _ z HX.out hsz HZ.out).mono ?_
  rintro e w2 ⟨rfl, hg2⟩
  have HM := Lib.hid (HM.out.grown hg2)
  have HX := Lib.hid (HX.out.grown hg2)
  clear q00 q01 q02 hg2
  obtain ⟨q00, q01, q02⟩ := three_cells (HM.out.get (b := w1.heap.size) (o := .cells #[.int .i64 p, .int .i64 q, .slice a l c] 25) (by simp))
  go_wp2_with fail
  refine (sGn_any xss a l c p q x0 _ z HX.out hsz HZ.out).mono ?_
  rintro e w3 ⟨rfl, hg3⟩
  have HM := Lib.hid (HM.out.grown hg3)
  have HX := Lib.hid (HX.out.grown hg3)
  clear q00 q01 q02 hg3
  by_cases hzn : z < 0
  · have hb : decide (z < 0) = true := by simpa using hzn
    obtain ⟨q00, q01, q02⟩ := three_cells (HM.out.get (b := w1.heap.size) (o := .cells #[.int .i64 p, .int .i64 q, .slice a l c] 25) (by simp))
    go_wp2_with fail
    refine (sGn_any xss a l c p q x0 _ z HX.out hsz HZ.out).mono ?_
    rintro e w4 ⟨rfl, hg4⟩
    have HM := Lib.hid (HM.out.grown hg4)
    have HX := Lib.hid (HX.out.grown hg4)
    clear q00 q01 q02 hg4
    obtain ⟨q00, q01, q02⟩ := three_cells (HM.out.get (b := w1.heap.size) (o := .cells #[.int .i64 p, .int .i64 q, .slice a l c] 25) (by simp))
    go_wp2
    go_ret
    exact ⟨rfl, HM.out.g⟩
  have hb : decide (z < 0) = false := by simpa using hzn
  by_cases h64 : x0 = 64
  · subst h64
    obtain ⟨q00, q01, q02⟩ := three_cells (HM.out.get (b := w1.heap.size) (o := .cells #[.int .i64 p, .int .i64 q, .slice a l c] 25) (by simp))
    go_wp2_with fail
    refine (sGn_any xss a l c p q 64 _ z HX.out hsz HZ.out).mono ?_
    rintro e w4 ⟨rfl, hg4⟩
    have HM := Lib.hid (HM.out.grown hg4)
    have HX := Lib.hid (HX.out.grown hg4)
    clear q00 q01 q02 hg4
    obtain ⟨q00, q01, q02⟩ := three_cells (HM.out.get (b := w1.heap.size) (o := .cells #[.int .i64 p, .int .i64 q, .slice a l c] 25) (by simp))
    go_wp2
    go_ret
    exact ⟨rfl, HM.out.g⟩
  have hb6 : (x0 == 64) = false := by simpa using h64
  obtain ⟨y, hy⟩ : ∃ y, gnV p q xss (x0 + 1) = y := ⟨_, rfl⟩
  have hle : z ≤ y := by rw [← hy, ← HZ.out]; exact gn_more (by rw [HZ.out]; exact hzn) h64
  have HY := Lib.hid hy
  have hb3 : decide (z ≤ y) = true := by simpa using hle
  clear hy hle
  obtain ⟨q00, q01, q02⟩ := three_cells (HM.out.get (b := w1.heap.size) (o := .cells #[.int .i64 p, .int .i64 q, .slice a l c] 25) (by simp))
  go_wp2_with fail
  refine (iGn_any xss a l c p q (x0 + 1) _ y HX.out hsz HY.out).mono ?_
  rintro e w4 ⟨rfl, hg4⟩
  have HM := Lib.hid (HM.out.grown hg4)
  have HX := Lib.hid (HX.out.grown hg4)
  clear q00 q01 q02 hg4
  obtain ⟨q00, q01, q02⟩ := three_cells (HM.out.get (b := w1.heap.size) (o := .cells #[.int .i64 p, .int .i64 q, .slice a l c] 25) (by simp))
  go_wp2
  go_ret
  exact ⟨rfl, HM.out.g⟩

end Go.Proofs.Ythjelbanelmekaa
