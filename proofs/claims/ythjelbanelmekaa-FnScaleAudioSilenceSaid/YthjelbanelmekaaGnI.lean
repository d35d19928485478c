/-
  The greatest factor: the program's text. For all channels that can be read.
-/
import Derived.Test.YthjelbanelmekaaGnS
import Derived.Test.YthjelbanelmekaaScI
namespace Go.Proofs.Ythjelbanelmekaa
open Go.RowKit

set_option maxRecDepth 100000 in
set_option maxHeartbeats 2000000 in
theorem iGn_any (xss : List (List Int)) (ao : Option Addr) (len cap : Nat) (r d den : Int) (w : World) (z : Int) (hx : Mat w ao len xss) (hs : szL xss ≤ 1048576) (hv : gnV r d xss den = z) :
    Calls Try.prog 27 #[.agg #[.int .i64 r, .int .i64 d, .slice ao len cap], .int .i64 den] w fun e w' => e = .returned (.int .i64 z) ∧ w.grownBy w' none := by
  subst hv
  have k1 := iVAu_any xss ao len cap r d (w.alloc (.cells #[.int .i64 r, .int .i64 d, .slice ao len cap] 25)) _ (hx.grown (grown_alloc _ _ _)) hs rfl
  cases hva : vAu r d xss with
  | false =>
    rw [hva] at k1
    rw [gnV_no (by rw [hva]; simp)]
    clear hx hs hva
    go_enter Try.func27, Try.ntmps27
    go_wp2_with fail
    refine k1.mono ?_
    rintro e w1 ⟨rfl, hg⟩
    have HG := Lib.hid (grown_trans (grown_alloc w (.cells #[.int .i64 r, .int .i64 d, .slice ao len cap] 25) none) hg)
    have HA := Lib.hid (grown_heap hg (heap_alloc_new w (.cells #[.int .i64 r, .int .i64 d, .slice ao len cap] 25)) (by simp))
    clear k1 hg
    go_wp2
    go_ret
    exact ⟨rfl, HG.out⟩
  | true =>
  rw [hva] at k1
  by_cases hden : ¬ (1 ≤ den ∧ den ≤ 64)
  · rw [gnV_no (by intro h; exact hden ⟨h.2.1, h.2.2⟩)]
    have k2 := fun W (B : Nat) (hB : W.heap.size = B) => iIn1 den 1 64 false W B hB (by exact inB_false hden)
    clear hx hs hva hden
    go_enter Try.func27, Try.ntmps27
    go_wp2_with fail
    refine k1.mono ?_
    rintro e w1 ⟨rfl, hg⟩
    have HG := Lib.hid (grown_trans (grown_alloc w (.cells #[.int .i64 r, .int .i64 d, .slice ao len cap] 25) none) hg)
    have HA := Lib.hid (grown_heap hg (heap_alloc_new w (.cells #[.int .i64 r, .int .i64 d, .slice ao len cap] 25)) (by simp))
    clear k1 hg
    go_wp2_with fail
    refine (k2 w1 _ rfl).mono ?_
    rintro e w2 ⟨rfl, rfl⟩
    clear k2
    have HG := Lib.hid (grown_trans HG.out (grown_alloc w1 (.cells #[.int .i64 den] 3) none))
    have HA := Lib.hid (grown_heap (grown_alloc w1 (.cells #[.int .i64 den] 3) none) HA.out (by simp))
    generalize w1.alloc (.cells #[.int .i64 den] 3) = w1 at *
    go_wp2
    go_ret
    exact ⟨rfl, HG.out⟩
  have hden := Classical.not_not.1 hden
  have k2 := fun W (B : Nat) (hB : W.heap.size = B) => iIn1 den 1 64 true W B hB (by exact inB_true hden.1 hden.2)
  obtain ⟨u, H, hV⟩ := va_of hva
  rw [gnV_yes hV hden.1 hden.2]
  have HX := Lib.hid hx
  have HS := Lib.hid hs
  have HV := Lib.hid hV
  have hd1 := hden.1
  have hd2 := hden.2
  clear hx hs hva hV hden
  go_enter Try.func27, Try.ntmps27
  go_wp2_with fail
  refine k1.mono ?_
  rintro e w1 ⟨rfl, hg⟩
  have HG := Lib.hid (grown_trans (grown_alloc w (.cells #[.int .i64 r, .int .i64 d, .slice ao len cap] 25) none) hg)
  have HA := Lib.hid (grown_heap hg (heap_alloc_new w (.cells #[.int .i64 r, .int .i64 d, .slice ao len cap] 25)) (by simp))
  clear k1 hg
  go_wp2_with fail
  refine (k2 w1 _ rfl).mono ?_
  rintro e w2 ⟨rfl, rfl⟩
  clear k2
  have HG := Lib.hid (grown_trans HG.out (grown_alloc w1 (.cells #[.int .i64 den] 3) none))
  have HA := Lib.hid (grown_heap (grown_alloc w1 (.cells #[.int .i64 den] 3) none) HA.out (by simp))
  generalize w1.alloc (.cells #[.int .i64 den] 3) = w1 at *
  go_wp2
  go_loopw [5] (fun iv wr => ∃ (j : Nat), j ≤ 64 ∧ iv = .int .i64 (j : Int) ∧ Hid (w1.grownBy wr none ∧ gS u den xss 64 = gS u den xss j)) (fun iv _ => (intOf iv).toNat)
  case atStart => exact ⟨64, Nat.le_refl _, rfl, grown_refl _ _, rfl⟩
  case round =>
    obtain ⟨j, hj, rfl, HW⟩ := hrel
    by_cases hlt : 0 < j
    · obtain ⟨i, rfl⟩ : ∃ i, j = i + 1 := ⟨j - 1, by omega⟩
      have hn : ((i + 1 : Nat) : Int) = (i : Int) + 1 := by omega
      obtain ⟨q0, q1, q2⟩ := three_cells (grown_heap HW.out.1 HA.out (by simp))
      have hcall := iSc_any xss ao len cap r d ((i : Int) + 1) den wr r d _ _ true (HX.out.grown (grown_trans HG.out HW.out.1)) HS.out (scR_of HV.out (by omega) (by omega) hd1 hd2)
      obtain ⟨cz, hcz⟩ : ∃ cz, clM u ((i : Int) + 1) den xss = cz := ⟨_, rfl⟩
      rw [hcz] at hcall
      have HCZ := Lib.hid hcz
      by_cases hc0 : cz = 0
      · subst hc0
        have HT : Hid (gS u den xss 64 = i + 1) := by show _ = _; rw [HW.out.2]; exact gS_yes HCZ.out
        go_wp2_with fail
        refine hcall.mono ?_
        rintro e w2 ⟨v2, rfl, ho2, hg2⟩
        obtain ⟨a2, c2, rfl, _⟩ := ho2.reads
        have HW2 := Lib.hid (grown_trans (grown_trans HW.out.1 hg2) (grown_alloc w2 (.cells #[.int .i64 r, .int .i64 d, .slice a2 xss.length c2] 25) none))
        clear hcall ho2 hg2 hcz q0 q1 q2
        have HF : Hid (((gS u den xss 64 : Nat) : Int) = (i : Int) + 1) := by show _ = _; rw [HT.out]; rfl
        have HG3 := Lib.hid (grown_trans HG.out HW2.out)
        go_wp2
        go_ret
        exact ⟨ret_int HF.out.symm, HG3.out⟩
      · have HT : Hid (gS u den xss 64 = gS u den xss i) := by show _ = _; rw [HW.out.2]; exact gS_no (by rw [HCZ.out]; exact hc0)
        have hb : ((cz : Int) == 0) = false := by simp; omega
        go_wp2_with fail
        refine hcall.mono ?_
        rintro e w2 ⟨v2, rfl, ho2, hg2⟩
        obtain ⟨a2, c2, rfl, _⟩ := ho2.reads
        have HW2 := Lib.hid (grown_trans (grown_trans HW.out.1 hg2) (grown_alloc w2 (.cells #[.int .i64 r, .int .i64 d, .slice a2 xss.length c2] 25) none))
        clear hcall ho2 hg2 hcz q0 q1 q2
        go_wp2
        go_roundw
        case rel => exact ⟨i, by omega, by go_num, HW2.out, HT.out⟩
        case measure => simp [intOf]
    · obtain rfl : j = 0 := by omega
      have HF : Hid (((gS u den xss 64 : Nat) : Int) = 0 ∧ w.grownBy wr none) := ⟨by rw [HW.out.2]; rfl, grown_trans HG.out HW.out.1⟩
      go_wp2
      go_ret
      exact ⟨ret_int HF.out.1.symm, HF.out.2⟩

end Go.Proofs.Ythjelbanelmekaa
