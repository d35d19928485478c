/-
  The greatest factor: mathematics, and the specification's text. For all channels that can be read.
-/
import Derived.Test.YthjelbanelmekaaScS
namespace Go.Proofs.Ythjelbanelmekaa
open Go.RowKit

/-- The greatest factor up to a number that limits no sample. -/
def gS (u : Nat) (den : Int) (xss : List (List Int)) : Nat → Nat
  | 0 => 0
  | j + 1 => if clM u ((j : Int) + 1) den xss = 0 then j + 1 else gS u den xss j
theorem gS_yes {u : Nat} {den : Int} {xss : List (List Int)} {j : Nat} (h : clM u ((j : Int) + 1) den xss = 0) : gS u den xss (j + 1) = j + 1 := if_pos h
theorem gS_no {u : Nat} {den : Int} {xss : List (List Int)} {j : Nat} (h : ¬ clM u ((j : Int) + 1) den xss = 0) : gS u den xss (j + 1) = gS u den xss j := if_neg h
theorem gS_le (u : Nat) (den : Int) (xss : List (List Int)) (j : Nat) : gS u den xss j ≤ j := by
  induction j with
  | zero => exact Nat.le_refl _
  | succ j ih =>
    by_cases h : clM u ((j : Int) + 1) den xss = 0
    · rw [gS_yes h]; exact Nat.le_refl _
    · rw [gS_no h]; omega
/-- What GainFor says. -/
def gnV (r d : Int) (xss : List (List Int)) (den : Int) : Int := if vAu r d xss = true ∧ 1 ≤ den ∧ den ≤ 64 then (gS (d - 1).toNat den xss 64 : Nat) else -1
theorem gnV_no {r d : Int} {xss : List (List Int)} {den : Int} (h : ¬ (vAu r d xss = true ∧ 1 ≤ den ∧ den ≤ 64)) : gnV r d xss den = -1 := if_neg h
theorem gnV_yes {r d : Int} {xss : List (List Int)} {den : Int} {u H : Nat} (h : VA r d xss u H) (h1 : 1 ≤ den) (h2 : den ≤ 64) : gnV r d xss den = (gS u den xss 64 : Nat) := by
  unfold gnV
  rw [if_pos ⟨va_back h, h1, h2⟩, show (d - 1).toNat = u by have := h.dep; omega]
theorem scR_of {r d num den : Int} {xss : List (List Int)} {u H : Nat} (h : VA r d xss u H) (h1 : 1 ≤ num) (h2 : num ≤ 64) (h3 : 1 ≤ den) (h4 : den ≤ 64) : ScR r d num den xss r d (xss.map (scL u num den)) (clM u num den xss : Int) true :=
  Or.inl ⟨rfl, rfl, rfl, ⟨h1, h2⟩, ⟨h3, h4⟩, u, H, h, rfl, rfl⟩

set_option maxRecDepth 100000 in
set_option maxHeartbeats 2000000 in
theorem sGn_any (xss : List (List Int)) (ao : Option Addr) (len cap : Nat) (r d den : Int) (w : World) (z : Int) (hx : Mat w ao len xss) (hs : szL xss ≤ 1048576) (hv : gnV r d xss den = z) :
    Calls Try.prog 29 #[.agg #[.int .i64 r, .int .i64 d, .slice ao len cap], .int .i64 den] w fun e w' => e = .returned (.int .i64 z) ∧ w.grownBy w' none := by
  subst hv
  have k1 := svAu_any xss ao len cap r d (w.alloc (.cells #[.int .i64 r, .int .i64 d, .slice ao len cap] 25)) _ (hx.grown (grown_alloc _ _ _)) hs rfl
  cases hva : vAu r d xss with
  | false =>
    rw [hva] at k1
    rw [gnV_no (by rw [hva]; simp)]
    clear hx hs hva
    go_enter Try.func29, Try.ntmps29
    go_wp2_with fail
    refine k1.mono ?_
    rintro e w1 ⟨rfl, hg⟩
    have HG := Lib.hid (grown_trans (grown_alloc w (.cells #[.int .i64 r, .int .i64 d, .slice ao len cap] 25) none) hg)
    have HA := Lib.hid (grown_heap hg (heap_alloc_new w (.cells #[.int .i64 r, .int .i64 d, .slice ao len cap] 25)) (by simp))
    clear k1 hg
    go_wp2
    go_ret
    exact ⟨rfl, HG.out⟩
  | true =>
  rw [hva] at k1
  by_cases hden : ¬ (1 ≤ den ∧ den ≤ 64)
  · rw [gnV_no (by intro h; exact hden ⟨h.2.1, h.2.2⟩)]
    have k2 := fun W => inRange_any den 1 64 false W (by exact inB_false hden)
    clear hx hs hva hden
    go_enter Try.func29, Try.ntmps29
    go_wp2_with fail
    refine k1.mono ?_
    rintro e w1 ⟨rfl, hg⟩
    have HG := Lib.hid (grown_trans (grown_alloc w (.cells #[.int .i64 r, .int .i64 d, .slice ao len cap] 25) none) hg)
    have HA := Lib.hid (grown_heap hg (heap_alloc_new w (.cells #[.int .i64 r, .int .i64 d, .slice ao len cap] 25)) (by simp))
    clear k1 hg
    go_wp2_with fail
    refine (k2 _).mono ?_
    rintro e w2 ⟨rfl, rfl⟩
    clear k2
    go_wp2
    go_ret
    exact ⟨rfl, HG.out⟩
  have hden := Classical.not_not.1 hden
  have k2 := fun W => inRange_any den 1 64 true W (by exact inB_true hden.1 hden.2)
  obtain ⟨u, H, hV⟩ := va_of hva
  rw [gnV_yes hV hden.1 hden.2]
  have HX := Lib.hid hx
  have HS := Lib.hid hs
  have HV := Lib.hid hV
  have hd1 := hden.1
  have hd2 := hden.2
  clear hx hs hva hV hden
  go_enter Try.func29, Try.ntmps29
  go_wp2_with fail
  refine k1.mono ?_
  rintro e w1 ⟨rfl, hg⟩
  have HG := Lib.hid (grown_trans (grown_alloc w (.cells #[.int .i64 r, .int .i64 d, .slice ao len cap] 25) none) hg)
  have HA := Lib.hid (grown_heap hg (heap_alloc_new w (.cells #[.int .i64 r, .int .i64 d, .slice ao len cap] 25)) (by simp))
  clear k1 hg
  go_wp2_with fail
  refine (k2 _).mono ?_
  rintro e w2 ⟨rfl, rfl⟩
  clear k2
  go_wp2
  go_loopw [5, 6] (fun bv iv wr => ∃ (j : Nat) (bb : Nat), j ≤ 64 ∧ iv = .int .i64 ((j : Int) + 1) ∧ bv = .int .i64 bb ∧ Hid (w1.grownBy wr none ∧ gS u den xss j = bb)) (fun _ iv _ => 70 - (intOf iv).toNat)
  case atStart => exact ⟨0, 0, by omega, rfl, rfl, grown_refl _ _, rfl⟩
  case round =>
    obtain ⟨j, bb, hj, rfl, rfl, HW⟩ := hrel
    by_cases hlt : j < 64
    · obtain ⟨q0, q1, q2⟩ := three_cells (grown_heap HW.out.1 HA.out (by simp))
      have hcall := sSc_any xss ao len cap r d ((j : Int) + 1) den wr r d _ _ true (HX.out.grown (grown_trans HG.out HW.out.1)) HS.out (scR_of HV.out (by omega) (by omega) hd1 hd2)
      obtain ⟨cz, hcz⟩ : ∃ cz, clM u ((j : Int) + 1) den xss = cz := ⟨_, rfl⟩
      rw [hcz] at hcall
      have HCZ := Lib.hid hcz
      by_cases hc0 : cz = 0
      · subst hc0
        have HT : Hid (gS u den xss (j + 1) = j + 1) := gS_yes HCZ.out
        go_wp2_with fail
        refine hcall.mono ?_
        rintro e w2 ⟨v2, rfl, ho2, hg2⟩
        obtain ⟨a2, c2, rfl, _⟩ := ho2.reads
        have HW2 := Lib.hid (grown_trans (grown_trans HW.out.1 hg2) (grown_alloc w2 (.cells #[.int .i64 r, .int .i64 d, .slice a2 xss.length c2] 25) none))
        clear hcall ho2 hg2 hcz q0 q1 q2
        go_wp2
        go_roundw
        case rel => exact ⟨j + 1, j + 1, by omega, by go_num, by go_num, HW2.out, HT.out⟩
        case measure => simp [intOf]; omega
      · have HT : Hid (gS u den xss (j + 1) = bb) := by show _ = _; rw [gS_no (by rw [HCZ.out]; exact hc0), HW.out.2]
        have hb : ((cz : Int) == 0) = false := by simp; omega
        go_wp2_with fail
        refine hcall.mono ?_
        rintro e w2 ⟨v2, rfl, ho2, hg2⟩
        obtain ⟨a2, c2, rfl, _⟩ := ho2.reads
        have HW2 := Lib.hid (grown_trans (grown_trans HW.out.1 hg2) (grown_alloc w2 (.cells #[.int .i64 r, .int .i64 d, .slice a2 xss.length c2] 25) none))
        clear hcall ho2 hg2 hcz q0 q1 q2
        go_wp2
        go_roundw
        case rel => exact ⟨j + 1, bb, by omega, by go_num, rfl, HW2.out, HT.out⟩
        case measure => simp [intOf]; omega
    · obtain rfl : j = 64 := by omega
      have HF : Hid ((gS u den xss 64 : Int) = (bb : Int) ∧ w.grownBy wr none) := ⟨by rw [HW.out.2], grown_trans HG.out HW.out.1⟩
      go_wp2
      go_ret
      exact ⟨ret_int HF.out.1.symm, HF.out.2⟩

end Go.Proofs.Ythjelbanelmekaa
