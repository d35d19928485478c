/-
  The walk of 'FnValidCue': it returns true and writes nothing that was there. For every code.
-/
import Derived.Test.YtnbefigmhbpcaaaCue
import Derived.Test.YtnbefigmhbpcaaaDrawCue
namespace Go.Proofs.Ytnbefigmhbpcaaa
open Go.RowKit

theorem vc_less {xs : List Int} {t : Int} (h : VC xs t) (h2 : 2 ≤ xs.length) : VC (xs.take (xs.length - 1)) t := by
  have hl : (xs.take (xs.length - 1)).length = xs.length - 1 := by simp
  refine ⟨h.1, by rw [hl]; have := h.2.1; omega, ?_, fun i x y hx hy => ?_, fun x hx => h.2.2.2.2 x (List.mem_of_mem_take hx)⟩
  · rw [List.getElem?_take, if_pos (by omega)]; exact h.2.2.1
  · have h3 := (List.getElem?_eq_some_iff.1 hy).1
    rw [hl] at h3
    rw [List.getElem?_take, if_pos (by omega)] at hx hy
    exact h.2.2.2.1 i x y hx hy
theorem ints_less {w : World} {ao : Option Addr} {n : Nat} {xs : List Int} (h : Ints w ao n xs) (m : Nat) (hm : m ≤ n) : Ints w ao m (xs.take m) := by
  refine ⟨by rw [List.length_take, h.1]; omega, ?_⟩
  rcases h.2 with h0 | ⟨b, off, e, hc⟩
  · left; rw [h0]; simp
  · refine Or.inr ⟨b, off, e, fun k x hk => hc k x ?_⟩
    have := (List.getElem?_eq_some_iff.1 hk).1
    rw [List.length_take] at this
    rw [List.getElem?_take, if_pos (by omega)] at hk
    exact hk

set_option maxRecDepth 100000 in
set_option maxHeartbeats 4000000 in
theorem FnValidCue_walk (ao : Option Addr) (len cap : Nat) (w : World) (hb : BytesAt w ao len) (hlc : len ≤ cap) (hmax : len ≤ 9223372036854775807) :
    Calls Try.prog 3 #[.slice ao len cap] w (Holds w) := by
  by_cases hlen : 1048576 < len
  · clear hb
    go_enter Try.func3, Try.ntmps3
    go_wp2
    go_ret
    exact ⟨rfl, grown_refl _ _⟩
  have hd := drawCue_any ao len cap w hb hlc hmax
  have hm : decide (1048576 < (len : Int)) = false := by simp; omega
  clear hb hlen
  go_enter Try.func3, Try.ntmps3
  go_wp2_with fail
  refine hd.mono ?_
  rintro e w1 ⟨a, n, c, xs, t, rfl, hn12, hnc, hx, ht0, ht1, hg1⟩
  obtain ⟨v, hv⟩ := vc_there xs t
  have HV := Lib.hid hv
  have HX := Lib.hid hx
  have HG := Lib.hid hg1
  clear hd hv hx hg1
  go_wp2_with fail
  refine (iVC_any xs t a n c w1 v HX.out (by omega) hnc HV.out).mono ?_
  rintro e w2 ⟨rfl, hg2⟩
  have HG2 := Lib.hid (grown_trans HG.out hg2)
  have HX2 := Lib.hid (HX.out.grown hg2)
  clear hg2 HX HG
  go_wp2_with fail
  refine (sVCV_any xs t a n c w2 v HX2.out (by omega) HV.out).mono ?_
  rintro e w3 ⟨rfl, hg3⟩
  have HG3 := Lib.hid (grown_trans HG2.out hg3)
  have HX3 := Lib.hid (HX2.out.grown hg3)
  clear hg3 HX2 HG2
  have hcase : v = false ∨ v = true ∧ n < 2 ∨ v = true ∧ 2 ≤ n := by
    cases v with
    | false => exact Or.inl rfl
    | true => right; by_cases h : n < 2
              · exact Or.inl ⟨rfl, h⟩
              · exact Or.inr ⟨rfl, by omega⟩
  rcases hcase with rfl | ⟨rfl, hn2⟩ | ⟨rfl, hn2⟩
  · go_wp2_with fail
    refine (sVCV_any xs t a n c w3 false HX3.out (by omega) (by first | exact HV.out | simpa using HV.out)).mono ?_
    rintro e w4 ⟨rfl, hg4⟩
    have HG4 := Lib.hid (grown_trans HG3.out hg4)
    clear hg4
    go_wp2
    go_ret
    exact ⟨rfl, HG4.out⟩
  · have hb : decide ((n : Int) < 2) = true := by simp; omega
    go_wp2_with fail
    refine (sVCV_any xs t a n c w3 true HX3.out (by omega) (by first | exact HV.out | simpa using HV.out)).mono ?_
    rintro e w4 ⟨rfl, hg4⟩
    have HG4 := Lib.hid (grown_trans HG3.out hg4)
    clear hg4
    go_wp2
    go_ret
    exact ⟨rfl, HG4.out⟩
  · have hb : decide ((n : Int) < 2) = false := by simp; omega
    have hVC : VC xs t := by first | exact HV.out.1 rfl | simpa using HV.out
    have hnl := HX3.out.1
    have hless := vc_less hVC (by rw [hnl]; exact hn2)
    rw [hnl] at hless
    have HL := Lib.hid hless
    have h00 := hVC.2.2.1
    obtain ⟨b, off, rfl, hc⟩ := HX3.out.2.resolve_left (by intro e; rw [e] at h00; simp at h00)
    have q1 : w3.cell? ⟨b, off, none⟩ = some (.int .i64 0) := hc 0 0 h00
    have hsub : (n : Int) - 1 = ((n - 1 : Nat) : Int) := by omega
    have HI := Lib.hid (ints_less HX3.out (n - 1) (by omega))
    have hlen0 : 0 < n := by omega
    have hnn1 : n - 1 ≤ n := by omega
    clear hVC hless h00 hc hnl
    go_wp2_with fail
    refine (iVC_any (xs.take (n - 1)) t (some ⟨b, off, none⟩) (n - 1) c w3 true HI.out (by omega) (by omega) ⟨fun _ => HL.out, fun _ => rfl⟩).mono ?_
    rintro e w4 ⟨rfl, hg4⟩
    have q2 := hg4.cell q1 (by simp)
    have HG4 := Lib.hid (grown_trans HG3.out hg4)
    clear hg4 q1
    go_wp2
    go_ret
    exact ⟨rfl, HG4.out⟩

end Go.Proofs.Ytnbefigmhbpcaaa
