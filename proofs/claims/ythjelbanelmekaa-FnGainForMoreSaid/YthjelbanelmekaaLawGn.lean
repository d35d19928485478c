/-
  The walk of 'FnGainFor': it returns true and writes nothing that was there. For every code.
-/
import Derived.Test.YthjelbanelmekaaDrawLv
import Derived.Test.YthjelbanelmekaaGnI
import Derived.Test.YthjelbanelmekaaScP
import Derived.Test.YthjelbanelmekaaMem
namespace Go.Proofs.Ythjelbanelmekaa
open Go.RowKit

theorem gn_is {r d : Int} {xss : List (List Int)} {den : Int} (h : ¬ gnV r d xss den < 1) : ∃ u H, VA r d xss u H ∧ 1 ≤ den ∧ den ≤ 64 ∧ clM u (gnV r d xss den) den xss = 0 ∧ (gnV r d xss den + 1 ≤ 64 → ¬ clM u (gnV r d xss den + 1) den xss = 0) ∧ gnV r d xss den ≤ 64 := by
  by_cases hc : vAu r d xss = true ∧ 1 ≤ den ∧ den ≤ 64
  · obtain ⟨u, H, hV⟩ := va_of hc.1
    have e := gnV_yes hV hc.2.1 hc.2.2
    rw [e] at h ⊢
    have h1 := gS_is (u := u) (den := den) (xss := xss) 64
    have h2 := gS_le u den xss 64
    refine ⟨u, H, hV, hc.2.1, hc.2.2, h1.1.resolve_left (by omega), fun h3 => h1.2 _ (Nat.le_refl _) (by omega), by omega⟩
  · rw [gnV_no hc] at h; omega

set_option maxRecDepth 100000 in
set_option maxHeartbeats 4000000 in
theorem FnGainFor_walk (ao : Option Addr) (len cap : Nat) (w : World) (hb : BytesAt w ao len) (hlc : len ≤ cap) (hmax : len ≤ 9223372036854775807) :
    Calls Try.prog 9 #[.slice ao len cap] w (Holds w) := by
  by_cases hlen : 1048576 < len
  · clear hb
    go_enter Try.func9, Try.ntmps9
    go_wp2
    go_ret
    exact ⟨rfl, grown_refl _ _⟩
  have hd := drawGn_any ao len cap w hb hlc hmax
  have hm : decide (1048576 < (len : Int)) = false := by simp; omega
  clear hb hlen
  go_enter Try.func9, Try.ntmps9
  go_wp2_with fail
  refine hd.mono ?_
  rintro e w1 ⟨p, q, a, l, c, xss, x0, rfl, hx0, hmat, hl2, hs2, hg1⟩
  have HM := Lib.hid (((Mem.start w).grown hg1).block (.cells #[.int .i64 p, .int .i64 q, .slice a l c] 25))
  have HX := Lib.hid (hmat.grown (grown_alloc w1 (.cells #[.int .i64 p, .int .i64 q, .slice a l c] 25) none))
  have hsz : szL xss ≤ 1048576 := by omega
  clear hd hmat hg1
  have hx0b : 0 ≤ x0 ∧ x0 ≤ 300 := by simp at hx0; omega
  have hx00 := hx0b.1
  have hx01 := hx0b.2
  clear hx0 hx0b
  obtain ⟨z, hz⟩ : ∃ z, gnV p q xss x0 = z := ⟨_, rfl⟩
  have HZ := Lib.hid hz
  clear hz
  obtain ⟨q00, q01, q02⟩ := three_cells (HM.out.get (b := w1.heap.size) (o := .cells #[.int .i64 p, .int .i64 q, .slice a l c] 25) (by simp))
  go_wp2_with fail
  refine (iGn_any xss a l c p q x0 _ z HX.out hsz HZ.out).mono ?_
  rintro e w2 ⟨rfl, hg2⟩
  have HM := Lib.hid (HM.out.grown hg2)
  have HX := Lib.hid (HX.out.grown hg2)
  clear q00 q01 q02 hg2
  obtain ⟨q00, q01, q02⟩ := three_cells (HM.out.get (b := w1.heap.size) (o := .cells #[.int .i64 p, .int .i64 q, .slice a l c] 25) (by simp))
  go_wp2_with fail
  refine (sGn_any xss a l c p q x0 _ z HX.out hsz HZ.out).mono ?_
  rintro e w3 ⟨rfl, hg3⟩
  have HM := Lib.hid (HM.out.grown hg3)
  have HX := Lib.hid (HX.out.grown hg3)
  clear q00 q01 q02 hg3
  by_cases hzn : z < 1
  · have hb : decide (z < 1) = true := by simpa using hzn
    obtain ⟨q00, q01, q02⟩ := three_cells (HM.out.get (b := w1.heap.size) (o := .cells #[.int .i64 p, .int .i64 q, .slice a l c] 25) (by simp))
    go_wp2_with fail
    refine (sGn_any xss a l c p q x0 _ z HX.out hsz HZ.out).mono ?_
    rintro e w4 ⟨rfl, hg4⟩
    have HM := Lib.hid (HM.out.grown hg4)
    have HX := Lib.hid (HX.out.grown hg4)
    clear q00 q01 q02 hg4
    obtain ⟨q00, q01, q02⟩ := three_cells (HM.out.get (b := w1.heap.size) (o := .cells #[.int .i64 p, .int .i64 q, .slice a l c] 25) (by simp))
    go_wp2
    go_ret
    exact ⟨rfl, HM.out.g⟩
  have hb : decide (z < 1) = false := by simpa using hzn
  obtain ⟨u, H, hV, hx1, hx2, hc0, hcn, hz64⟩ := gn_is (by rw [HZ.out]; exact hzn)
  rw [HZ.out] at hc0 hcn hz64
  have hz1 : 1 ≤ z := by omega
  have hsc := scR_of hV hz1 hz64 hx1 hx2
  rw [hc0] at hsc
  have HSC := Lib.hid hsc
  obtain ⟨rr, dd, yss, nn, ok, hS2⟩ := ScR_there p q (z + 1) x0 xss
  have HS2 := Lib.hid hS2
  have HOK : Hid (z = 64 ∨ (ok = true ∧ 0 < nn)) := by
    rcases hS2 with ⟨h1, _, _, _, _, u', H', hV', _, h5⟩ | ⟨_, _, _, _, _, h6⟩
    · right
      obtain rfl : u' = u := by have := hV.dep; have := hV'.dep; omega
      refine ⟨h1, ?_⟩
      have := hcn (by omega)
      rw [h5]; omega
    · left
      apply Classical.byContradiction
      intro hne
      exact h6 ⟨va_back hV, ⟨by omega, by omega⟩, hx1, hx2⟩
  clear hsc hS2 hc0 hcn hV hzn
  obtain ⟨q00, q01, q02⟩ := three_cells (HM.out.get (b := w1.heap.size) (o := .cells #[.int .i64 p, .int .i64 q, .slice a l c] 25) (by simp))
  go_wp2_with fail
  refine (iSc_any xss a l c p q z x0 _ p q _ _ true HX.out hsz HSC.out).mono ?_
  rintro e w4 ⟨v4, rfl, ho4, hg4⟩
  obtain ⟨a4, c4, rfl, _, _, hm4, _⟩ := ho4.reads
  have HM := Lib.hid ((HM.out.grown hg4).block (.cells #[.int .i64 p, .int .i64 q, .slice a4 xss.length c4] 25))
  have HX := Lib.hid ((HX.out.grown hg4).grown (grown_alloc w4 (.cells #[.int .i64 p, .int .i64 q, .slice a4 xss.length c4] 25) none))
  have HY : Hid (Mat (w4.alloc (.cells #[.int .i64 p, .int .i64 q, .slice a4 xss.length c4] 25)) a4 xss.length (xss.map (scL u z x0))) := by
    have h := hm4.grown (grown_alloc w4 (.cells #[.int .i64 p, .int .i64 q, .slice a4 xss.length c4] 25) none)
    first | exact h | (simp only [List.length_map] at h; exact h)
  clear q00 q01 q02 hg4 ho4 hm4
  obtain ⟨q00, q01, q02⟩ := three_cells (HM.out.get (b := w1.heap.size) (o := .cells #[.int .i64 p, .int .i64 q, .slice a l c] 25) (by simp))
  obtain ⟨q10, q11, q12⟩ := three_cells (HM.out.get (b := w4.heap.size) (o := .cells #[.int .i64 p, .int .i64 q, .slice a4 xss.length c4] 25) (by simp))
  go_wp2_with fail
  refine (iSc_any xss a l c p q (z + 1) x0 _ rr dd nn yss ok HX.out hsz HS2.out).mono ?_
  rintro e w5 ⟨v5, rfl, ho5, hg5⟩
  obtain ⟨a5, c5, rfl, _, _, hm5, _⟩ := ho5.reads
  have HM := Lib.hid ((HM.out.grown hg5).block (.cells #[.int .i64 rr, .int .i64 dd, .slice a5 yss.length c5] 25))
  have HX := Lib.hid ((HX.out.grown hg5).grown (grown_alloc w5 (.cells #[.int .i64 rr, .int .i64 dd, .slice a5 yss.length c5] 25) none))
  have HY := Lib.hid ((HY.out.grown hg5).grown (grown_alloc w5 (.cells #[.int .i64 rr, .int .i64 dd, .slice a5 yss.length c5] 25) none))
  have HW : Hid (Mat (w5.alloc (.cells #[.int .i64 rr, .int .i64 dd, .slice a5 yss.length c5] 25)) a5 yss.length yss) := by
    have h := hm5.grown (grown_alloc w5 (.cells #[.int .i64 rr, .int .i64 dd, .slice a5 yss.length c5] 25) none)
    first | exact h | (simp only [List.length_map] at h; exact h)
  clear q00 q01 q02 q10 q11 q12 hg5 ho5 hm5
  by_cases h64 : z = 64
  · subst h64
    obtain ⟨q00, q01, q02⟩ := three_cells (HM.out.get (b := w1.heap.size) (o := .cells #[.int .i64 p, .int .i64 q, .slice a l c] 25) (by simp))
    obtain ⟨q10, q11, q12⟩ := three_cells (HM.out.get (b := w4.heap.size) (o := .cells #[.int .i64 p, .int .i64 q, .slice a4 xss.length c4] 25) (by simp))
    obtain ⟨q20, q21, q22⟩ := three_cells (HM.out.get (b := w5.heap.size) (o := .cells #[.int .i64 rr, .int .i64 dd, .slice a5 yss.length c5] 25) (by simp))
    go_wp2
    go_ret
    exact ⟨rfl, HM.out.g⟩
  have hb6 : (z == 64) = false := by simpa using h64
  obtain ⟨rfl, hnn⟩ := HOK.out.resolve_left h64
  have hb7 : decide (0 < nn) = true := by simpa using hnn
  obtain ⟨q00, q01, q02⟩ := three_cells (HM.out.get (b := w1.heap.size) (o := .cells #[.int .i64 p, .int .i64 q, .slice a l c] 25) (by simp))
  obtain ⟨q10, q11, q12⟩ := three_cells (HM.out.get (b := w4.heap.size) (o := .cells #[.int .i64 p, .int .i64 q, .slice a4 xss.length c4] 25) (by simp))
  obtain ⟨q20, q21, q22⟩ := three_cells (HM.out.get (b := w5.heap.size) (o := .cells #[.int .i64 rr, .int .i64 dd, .slice a5 yss.length c5] 25) (by simp))
  go_wp2
  go_ret
  exact ⟨rfl, HM.out.g⟩

end Go.Proofs.Ythjelbanelmekaa
