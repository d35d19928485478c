/-
  Peaks in both texts. For all channels that can be read.
-/
import Derived.Test.YthjelbanelmekaaVAuI
import Derived.Test.YthjelbanelmekaaLvM
namespace Go.Proofs.Ythjelbanelmekaa
open Go.RowKit

theorem sDist_any (x : Int) (w : World) (h0 : -9000000000000000000 ≤ x) (h1 : x ≤ 9000000000000000000) :
    Calls Try.prog 42 #[.int .i64 x] w fun e w' => e = .returned (.int .i64 (ab x)) ∧ w = w' := by
  by_cases h : x < 0
  · rw [show ab x = -x by unfold ab; rw [if_pos h]]
    have hd : decide (x < 0) = true := by simpa using h
    go_enter Try.func42, Try.ntmps42
    go_wp2
    go_ret
    exact ⟨rfl, rfl⟩
  · rw [show ab x = x by unfold ab; rw [if_neg h]]
    have hd : decide (x < 0) = false := by simpa using h
    go_enter Try.func42, Try.ntmps42
    go_wp2
    go_ret
    exact ⟨rfl, rfl⟩

theorem iAbs_any (x : Int) (w : World) (h0 : -9000000000000000000 ≤ x) (h1 : x ≤ 9000000000000000000) :
    Calls Try.prog 40 #[.int .i64 x] w fun e w' => e = .returned (.int .i64 (ab x)) ∧ w = w' := by
  by_cases h : x < -x
  · rw [show ab x = -x by unfold ab; rw [if_pos (by omega)]]
    have hd : decide (x < -x) = true := by simpa using h
    go_enter Try.func40, Try.ntmps40
    go_wp2
    go_ret
    exact ⟨rfl, rfl⟩
  · rw [show ab x = x by unfold ab; split <;> omega]
    have hd : decide (x < -x) = false := by simpa using h
    go_enter Try.func40, Try.ntmps40
    go_wp2
    go_ret
    exact ⟨rfl, rfl⟩

/-- What PeakOf says. -/
def pkV (r d : Int) (xss : List (List Int)) : Int := if vAu r d xss = true then pkM 0 xss else -1

set_option maxRecDepth 100000 in
set_option maxHeartbeats 2000000 in
theorem sPk_any (xss : List (List Int)) (ao : Option Addr) (len cap : Nat) (r d : Int) (w : World) (z : Int) (hx : Mat w ao len xss) (hs : szL xss ≤ 1048576) (hv : pkV r d xss = z) :
    Calls Try.prog 17 #[.agg #[.int .i64 r, .int .i64 d, .slice ao len cap]] w fun e w' => e = .returned (.int .i64 z) ∧ w.grownBy w' none := by
  subst hv
  have k1 := svAu_any xss ao len cap r d (w.alloc (.cells #[.int .i64 r, .int .i64 d, .slice ao len cap] 25)) _ (hx.grown (grown_alloc _ _ _)) hs rfl
  cases hva : vAu r d xss with
  | false =>
    rw [hva] at k1
    rw [show pkV r d xss = -1 by unfold pkV; rw [hva]; rfl]
    clear hx hs hva
    go_enter Try.func17, Try.ntmps17
    go_wp2_with fail
    refine k1.mono ?_
    rintro e w1 ⟨rfl, hg⟩
    have HG := Lib.hid (grown_trans (grown_alloc w (.cells #[.int .i64 r, .int .i64 d, .slice ao len cap] 25) none) hg)
    clear k1 hg
    go_wp2
    go_ret
    exact ⟨rfl, HG.out⟩
  | true =>
    rw [hva] at k1
    rw [show pkV r d xss = pkM 0 xss by unfold pkV; rw [hva]; rfl]
    obtain ⟨u, H, hV⟩ := va_of hva
    have HV := Lib.hid hV
    have HX := Lib.hid hx
    have HL := Lib.hid hx.1
    have hH : H ≤ 256 := hV.hh
    have hlen : len ≤ 2 := by have := hV.ch.2; rw [hx.1] at this; exact this
    have hpu := hV.pow.2
    have HPU := Lib.hid hpu
    clear hx hs hva hV hpu
    go_enter Try.func17, Try.ntmps17
    go_wp2_with fail
    refine k1.mono ?_
    rintro e w1 ⟨rfl, hg⟩
    have HG := Lib.hid (grown_trans (grown_alloc w (.cells #[.int .i64 r, .int .i64 d, .slice ao len cap] 25) none) hg)
    obtain ⟨q0, q1, q2⟩ := three_cells (grown_heap hg (heap_alloc_new w (.cells #[.int .i64 r, .int .i64 d, .slice ao len cap] 25)) (by simp))
    clear k1 hg
    go_wp2
    go_loop [3, 4] (fun nv iv => ∃ (i : Nat) (m : Int), i ≤ len ∧ iv = .int .i64 i ∧ nv = .int .i64 m ∧ 0 ≤ m ∧ m ≤ 32768 ∧ Hid (pkM 0 (xss.take i) = m)) (fun _ iv => len - (intOf iv).toNat)
    case atStart => exact ⟨0, 0, Nat.zero_le _, rfl, rfl, by omega, by omega, rfl⟩
    case round =>
      obtain ⟨i, m, hi, rfl, rfl, hm0, hm1, HM⟩ := hrel
      by_cases hlt : i < len
      · obtain ⟨xs, hxk⟩ : ∃ xs, xss[i]? = some xs := ⟨_, List.getElem?_eq_getElem (by rw [HL.out]; exact hlt)⟩
        obtain ⟨b, off, rfl, hc⟩ := HX.out.2.resolve_left (by intro e; subst e; simp at hxk)
        obtain ⟨ux, hux, a, c, rfl, hin, hlc, hcm, _⟩ := hc i xs hxk
        have hxl := (HV.out.row i xs hxk).1
        have hcx : w1.cell? ⟨b, off + i, none⟩ = some (.slice a xs.length c) := HG.out.cell hux (by simp)
        rw [hxl] at hcx hin
        have HI := Lib.hid (hin.grown HG.out)
        have HXK := Lib.hid hxk
        clear hc hux hin hlc hcm hxk hxl
        go_wp2
        go_loop [3, 5] (fun nv kv => ∃ (k : Nat) (m2 : Int), k ≤ H ∧ kv = .int .i64 k ∧ nv = .int .i64 m2 ∧ 0 ≤ m2 ∧ m2 ≤ 32768 ∧ Hid (pkL m (xs.take k) = m2)) (fun _ kv => H - (intOf kv).toNat)
        case atStart => exact ⟨0, m, Nat.zero_le _, rfl, rfl, hm0, hm1, rfl⟩
        case round =>
          obtain ⟨k, m2, hk, rfl, rfl, hn0, hn1, HK⟩ := hrel
          by_cases hkt : k < H
          · obtain ⟨x, hxj⟩ : ∃ x, xs[k]? = some x := ⟨_, List.getElem?_eq_getElem (by rw [HI.out.1]; exact hkt)⟩
            obtain ⟨b2, off2, hab, hc2⟩ := HI.out.2.resolve_left (by intro e; subst e; simp at hxj)
            subst hab
            have hcy := hc2 k x hxj
            have hr := HV.out.num HXK.out hxj
            have hpu := HPU.out
            have hx0 : -32768 ≤ x := by omega
            have hx1 : x ≤ 32768 := by omega
            have ha := ab_range hx0 hx1
            have hcall := sDist_any x w1 (by omega) (by omega)
            have HS : Hid (pkL m (xs.take (k + 1)) = max m2 (ab x)) := by show _ = _; rw [pkL_take hxj, HK.out]
            obtain ⟨y, hy⟩ : ∃ y, ab x = y := ⟨_, rfl⟩
            rw [hy] at ha hcall HS
            have ha0 := ha.1
            have ha1 := ha.2
            clear hc2 hxj hr hpu ha hy
            by_cases hmy : m2 < y
            · have hd : decide (m2 < y) = true := by simpa using hmy
              have HT : Hid (pkL m (xs.take (k + 1)) = y) := by show _ = _; rw [HS.out]; omega
              clear HS
              go_wp2_with fail
              refine hcall.mono ?_
              rintro e w2 ⟨rfl, rfl⟩
              clear hcall
              go_wp2
              go_round
              case rel => exact ⟨k + 1, y, by omega, by go_num, rfl, by omega, by omega, HT⟩
              case measure => simp [intOf]; omega
            · have hd : decide (m2 < y) = false := by simpa using hmy
              have HT : Hid (pkL m (xs.take (k + 1)) = m2) := by show _ = _; rw [HS.out]; omega
              clear HS
              go_wp2_with fail
              refine hcall.mono ?_
              rintro e w2 ⟨rfl, rfl⟩
              clear hcall
              go_wp2
              go_round
              case rel => exact ⟨k + 1, m2, by omega, by go_num, rfl, by omega, by omega, HT⟩
              case measure => simp [intOf]; omega
          · obtain rfl : k = H := by omega
            have HT : Hid (pkM 0 (xss.take (i + 1)) = m2) := by
              show _ = _
              rw [pkM_take HXK.out, HM.out, ← HK.out, List.take_of_length_le (by rw [HI.out.1]; exact Nat.le_refl _)]
            go_wp2
            go_round
            case rel => exact ⟨i + 1, m2, by omega, by go_num, rfl, by omega, by omega, HT⟩
            case measure => simp [intOf]; omega
      · obtain rfl : i = len := by omega
        have HT : Hid (pkM 0 xss = m) := by show _ = _; rw [← HM.out, List.take_of_length_le (by rw [HL.out]; exact Nat.le_refl _)]
        go_wp2
        go_ret
        exact ⟨ret_int HT.out.symm, HG.out⟩

end Go.Proofs.Ythjelbanelmekaa
