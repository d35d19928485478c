/-
  The walk of the law on the best parameter: it returns true and writes nothing that was there. For every code.
-/
import Derived.Test.YthgppflplcoemaaLawPar
namespace Go.Proofs.Ythgppflplcoemaa
open Go.RowKit

theorem pc_top {xs : List Int} {c : Nat} (hv : vR xs = true) (hb : Bst (pc xs) 16 c) : 0 ≤ pc xs c ∧ pc xs c ≤ 9 + 31 * (xs.length : Int) := by
  refine ⟨hb.2.1, ?_⟩
  have h1 := hb.2.2 15 (by omega) (pc15 hv)
  have h2 : mxw xs ≤ 23 := mxw_le xs 0 (by omega) (vR_all hv)
  have h3 := Nat.mul_le_mul_left xs.length h2
  have e : ((xs.length * mxw xs : Nat) : Int) = (xs.length : Int) * (mxw xs : Int) := by simp
  rw [pc_esc] at h1
  omega

set_option maxRecDepth 100000 in
set_option maxHeartbeats 4000000 in
theorem FnBestParameter_walk (ao : Option Addr) (len cap : Nat) (w : World) (hb : BytesAt w ao len) (hlc : len ≤ cap) (hmax : len ≤ 9223372036854775807) :
    Calls Try.prog 3 #[.slice ao len cap] w (Holds w) := by
  by_cases hlen : 1048576 < len
  · clear hb
    go_enter Try.func3, Try.ntmps3
    go_wp2
    go_ret
    exact ⟨rfl, grown_refl _ _⟩
  have hd := drawBP_any ao len cap w hb hlc hmax
  have hm : decide (1048576 < (len : Int)) = false := by simp; omega
  clear hb hlc hmax hlen
  go_enter Try.func3, Try.ntmps3
  go_wp2_with fail
  refine hd.mono ?_
  rintro e w1 ⟨a1, l1, c1, xs, rfl, hl1, hx1, hg1⟩
  have HX := Lib.hid hx1
  have HG := Lib.hid hg1
  clear hd hx1 hg1
  obtain ⟨k, l, hbp⟩ := BpR_some xs
  have HB := Lib.hid hbp
  clear hbp
  go_wp2_with fail
  refine (iBP_any xs a1 l1 c1 k l _ HX.out (by omega) HB.out).mono ?_
  rintro e w2 ⟨rfl, hg2⟩
  have HX := Lib.hid (HX.out.grown hg2)
  have HG := Lib.hid (grown_trans HG.out hg2)
  clear hg2
  go_wp2_with fail
  refine (sBP_any xs a1 l1 c1 k l _ HX.out (by omega) HB.out).mono ?_
  rintro e w3 ⟨rfl, hg3⟩
  have HX := Lib.hid (HX.out.grown hg3)
  have HG := Lib.hid (grown_trans HG.out hg3)
  clear hg3
  by_cases h0 : k < 0
  · have d0 : decide (k < 0) = true := by simpa using h0
    go_wp2
    go_ret
    exact ⟨rfl, HG.out⟩
  obtain ⟨hv, c, hkc, hbst, hlz⟩ : vR xs = true ∧ ∃ c : Nat, k = (c : Int) ∧ Bst (pc xs) 16 c ∧ l = pc xs c := by
    rcases HB.out with ⟨_, h, _⟩ | h
    · omega
    · exact h
  have htop := pc_top hv hbst
  have hc16 := hbst.1
  obtain ⟨z, hz⟩ : ∃ z, pc xs c = z := ⟨_, rfl⟩
  rw [hz] at hlz htop
  have hz0 := htop.1
  have hz1 := htop.2
  rw [HX.out.1] at hz1
  have HC := Lib.hid (And.intro hbst hz)
  subst hkc
  have hlz2 := hlz.symm
  subst hlz2
  have d0 : decide ((c : Int) < 0) = false := by simp <;> omega
  clear h0 HB hv hbst hz htop hlz
  go_wp2
  go_loop [8] (fun i => ∃ q : Nat, q ≤ 15 ∧ i = .int .i64 q) (fun i => 15 - (intOf i).toNat)
  case atStart => exact ⟨0, by omega, rfl⟩
  case round =>
    obtain ⟨q, hq, rfl⟩ := hrel
    by_cases hlt : q < 15
    · have hq14 : (q : Int) ≤ 14 := by omega
      go_wp2
      go_loop [9, 10, 11] (fun n ok i => ∃ (j : Nat) (s : Int) (b : Bool), j ≤ l1 ∧ i = .int .i64 j ∧ n = .int .i64 s ∧ ok = .bool b ∧ Hid (vrL q (xs.take j) = b ∧ 4 + rlS q (xs.take j) = s)) (fun _ _ i => l1 - (intOf i).toNat)
      case atStart => exact ⟨0, 4, true, Nat.zero_le _, rfl, rfl, rfl, ⟨rfl, rfl⟩⟩
      case round =>
        obtain ⟨j, s, b, hj, rfl, rfl, rfl, HS⟩ := hrel
        have hsr := rlS_range q (xs.take j)
        rw [List.length_take] at hsr
        have hm := Nat.min_le_left j xs.length
        have hs2 := HS.out.2
        have hs0 : -64 ≤ s := by omega
        have hs1 : s ≤ 32964 := by omega
        clear hsr hm hs2
        by_cases hjl : j < l1
        · obtain ⟨x, hxj⟩ : ∃ x, xs[j]? = some x := ⟨_, List.getElem?_eq_getElem (by rw [HX.out.1]; exact hjl)⟩
          obtain ⟨bk, off, rfl, hcx0⟩ := HX.out.2.resolve_left (by intro e; subst e; simp at hxj)
          have hcx := hcx0 j x hxj
          obtain ⟨y, hy⟩ : ∃ y, Rl x q = y := ⟨_, rfl⟩
          have KL := Lib.hid (iRiceLength x q y w3 hy)
          have hy2 := Rl_le2 x q
          rw [hy] at hy2
          have hy0 := hy2.1
          have hy1 := hy2.2
          cases b with
          | false =>
            have HN : Hid (vrL q (xs.take (j + 1)) = false ∧ 4 + rlS q (xs.take (j + 1)) = s + y) := ⟨by rw [vrL_take hxj, HS.out.1]; rfl, by rw [rlS_take hxj, hy]; have := HS.out.2; omega⟩
            clear hxj hcx0 hy hy2 HS
            go_wp2_with fail
            refine KL.out.mono ?_
            rintro e w' ⟨rfl, rfl⟩
            clear KL
            go_wp2
            go_round
            case rel => exact ⟨j + 1, s + y, false, by omega, by go_num, rfl, rfl, HN⟩
            case measure => simp [intOf]; omega
          | true =>
            by_cases hvx : Vr x q = true
            · have hyp := Vr_Rl hvx
              rw [hy] at hyp
              have dy : decide (0 ≤ y) = true := by simp; omega
              have HN : Hid (vrL q (xs.take (j + 1)) = true ∧ 4 + rlS q (xs.take (j + 1)) = s + y) := ⟨by rw [vrL_take hxj, HS.out.1, hvx]; rfl, by rw [rlS_take hxj, hy]; have := HS.out.2; omega⟩
              clear hxj hcx0 hy hy2 HS hvx
              go_wp2_with fail
              refine KL.out.mono ?_
              rintro e w' ⟨rfl, rfl⟩
              clear KL
              go_wp2
              go_round
              case rel => exact ⟨j + 1, s + y, true, by omega, by go_num, rfl, rfl, HN⟩
              case measure => simp [intOf]; omega
            · have hvx2 : Vr x q = false := by simpa using hvx
              have hyn := Vr_no hvx2
              rw [hy] at hyn
              have dy : decide (0 ≤ y) = false := by simp; omega
              have HN : Hid (vrL q (xs.take (j + 1)) = false ∧ 4 + rlS q (xs.take (j + 1)) = s + y) := ⟨by rw [vrL_take hxj, HS.out.1, hvx2]; rfl, by rw [rlS_take hxj, hy]; have := HS.out.2; omega⟩
              have hyl : y < 0 := by omega
              clear hxj hcx0 hy hy2 HS hvx hvx2 hyn
              go_wp2_with fail
              refine KL.out.mono ?_
              rintro e w' ⟨rfl, rfl⟩
              clear KL
              go_wp2
              go_round
              case rel => exact ⟨j + 1, s + y, false, by omega, by go_num, rfl, rfl, HN⟩
              case measure => simp [intOf]; omega
        · have hS := HS.out
          rw [List.take_of_length_le (by rw [HX.out.1]; omega)] at hS
          cases b with
          | false =>
            clear HS hS
            go_wp2
            go_round
            case rel => exact ⟨q + 1, by omega, by go_num⟩
            case measure => simp [intOf]; omega
          | true =>
            have hp : pc xs q = s := by rw [pc_good (by omega) hS.1]; exact hS.2
            have hsp := rlS_pos q xs hS.1
            have h1 := HC.out.1.2.2 q (by omega) (by rw [hp]; omega)
            rw [hp, HC.out.2] at h1
            have hsz : ¬ s < z := by omega
            have d1 : decide (s < z) = false := by simpa using hsz
            have hcq : q = c → s = z := by intro e; rw [← hp, e]; exact HC.out.2
            clear HS hS hp hsp
            by_cases hqc : q = c
            · have e2 := hcq hqc
              subst hqc e2
              clear h1 hcq
              go_wp2
              go_round
              case rel => exact ⟨q + 1, by omega, by go_num⟩
              case measure => simp [intOf]; omega
            · have dq : ((q : Int) == (c : Int)) = false := by simp; omega
              by_cases hsz2 : s = z
              · have hqn : ¬ (q : Int) < (c : Int) := by omega
                have dqc : decide ((q : Int) < (c : Int)) = false := by simp; omega
                subst hsz2
                clear h1 hcq hqc
                go_wp2
                go_round
                case rel => exact ⟨q + 1, by omega, by go_num⟩
                case measure => simp [intOf]; omega
              · have ds : (s == z) = false := by simpa using hsz2
                clear h1 hcq hqc hsz2
                go_wp2
                go_round
                case rel => exact ⟨q + 1, by omega, by go_num⟩
                case measure => simp [intOf]; omega
    · obtain rfl : q = 15 := by omega
      have e1 : decide ((c : Int) ≤ 15) = true := by simp; omega
      have e3 : (c : Int) ≤ 15 := by omega
      have e2 : decide (z ≤ 9 + 31 * (l1 : Int)) = true := by simpa using hz1
      clear HC
      go_wp2
      go_ret
      exact ⟨rfl, HG.out⟩

end Go.Proofs.Ythgppflplcoemaa
