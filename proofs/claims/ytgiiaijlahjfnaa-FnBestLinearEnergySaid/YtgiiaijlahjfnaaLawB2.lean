/-
  The walk of the law on the least energy: it returns true and writes nothing that was there. For every code.
-/
import Derived.Test.YtgiiaijlahjfnaaLawB
import Derived.Test.YtgiiaijlahjfnaaLbE2
namespace Go.Proofs.Ytgiiaijlahjfnaa
open Go.RowKit

theorem cost_last {xs ys : List Int} {l : LinV} {m : Nat} (h : LR xs l.cs l.sh ys m true) : Hid (enT ys (xs.length - 8) = cost xs l ∧ allB ys (-4194303) 4194303 = true ∧ xs.length - 8 ≤ m ∧ m ≤ 64 ∧ ys.length = m) := by
  obtain ⟨h1, h2, h3, h4, h5⟩ := (cost_of h).out
  exact ⟨by rw [enT_drop ys _ (by omega), h5, h1], h2, h3, h4, h5⟩
theorem last_cell {w : World} {ao : Option Addr} {m p : Nat} {ys : List Int} (h : Ints w ao m ys) (hp : p < m) : ∃ (b off : Nat) (y : Int), ao = some ⟨b, off, none⟩ ∧ ys[p]? = some y ∧ w.cell? ⟨b, off + p, none⟩ = some (.int .i64 y) := by
  have e := h.1
  obtain ⟨y, hy⟩ : ∃ y, ys[p]? = some y := ⟨_, List.getElem?_eq_getElem (by omega)⟩
  rcases h.2 with e0 | ⟨b, off, e1, hc⟩
  · subst e0; simp at hy
  · exact ⟨b, off, y, e1, hy, hc p y hy⟩

set_option maxRecDepth 100000 in
set_option maxHeartbeats 6000000 in
theorem FnBestLinearEnergy_walk (ao : Option Addr) (len cap : Nat) (w : World) (hb : BytesAt w ao len) (hlc : len ≤ cap) (hmax : len ≤ 9223372036854775807) :
    Calls Try.prog 7 #[.slice ao len cap] w (Holds w) := by
  by_cases hlen : 1048576 < len
  · clear hb
    go_enter Try.func7, Try.ntmps7
    go_wp2
    go_ret
    exact ⟨rfl, grown_refl _ _⟩
  have hd := drawB_any ao len cap w hb hlc hmax
  have hm : decide (1048576 < (len : Int)) = false := by simp; omega
  clear hb hlen
  go_enter Try.func7, Try.ntmps7
  go_wp2_with fail
  refine hd.mono ?_
  rintro e w1 ⟨a1, n1, c1, xs, g, q, c, ls, rfl, hn1, hlc1, hx1, hq, hqc, hl1, hg1⟩
  have HX := Lib.hid hx1
  have HL := Lib.hid hl1
  have HG := Lib.hid hg1
  obtain ⟨z, hz⟩ : ∃ z, bestZ xs ls = z := ⟨_, rfl⟩
  have HZ := Lib.hid hz
  clear hd hx1 hl1 hg1 hz
  go_wp2_with fail
  refine (iBest_any xs ls n1 q z a1 _ c1 c _ HX.out hlc1 HL.out (by omega) (by omega) HZ.out).mono ?_
  rintro e w2 ⟨rfl, hg2⟩
  replace HX := Lib.hid (HX.out.grown hg2)
  replace HL := Lib.hid (HL.out.grown hg2)
  replace HG := Lib.hid (grown_trans HG.out hg2)
  clear hg2
  go_wp2_with fail
  refine (sBest_any xs ls n1 q z a1 _ c1 c _ HX.out HL.out (by omega) (by omega) HZ.out).mono ?_
  rintro e w3 ⟨rfl, hg3⟩
  replace HX := Lib.hid (HX.out.grown hg3)
  replace HL := Lib.hid (HL.out.grown hg3)
  replace HG := Lib.hid (grown_trans HG.out hg3)
  clear hg3
  by_cases hz0 : z < 0
  · have hzz : ((z : Int) != z) = false := by simp
    go_wp2_with fail
    refine (sBest_any xs ls n1 q z a1 _ c1 c _ HX.out HL.out (by omega) (by omega) HZ.out).mono ?_
    rintro e w4 ⟨rfl, hg4⟩
    replace HG := Lib.hid (grown_trans HG.out hg4)
    clear hg4
    go_wp2
    go_ret
    exact ⟨rfl, HG.out⟩
  · have hbz : (bestS xs ls ls.length).1 = z ∧ vS xs = true := by
      have h := HZ.out
      unfold bestZ at h
      split at h
      · rename_i h2; exact ⟨h, h2.1⟩
      · omega
    obtain ⟨k, rfl⟩ := Int.eq_ofNat_of_zero_le (show 0 ≤ z by omega)
    obtain ⟨l, hlk, hok, hcl⟩ := bestS_cost hbz.1
    have hkl := (List.getElem?_eq_some_iff.1 hlk).1
    have hkq : k < q := by have := HL.out.1; omega
    have hkqz : (k : Int) < (q : Int) := by omega
    have hk0 : (0 : Int) ≤ (k : Int) := by omega
    obtain ⟨_, q0, q1, hy, hln⟩ := HL.out.one hlk
    obtain ⟨bs, n, ok, hLR, hn64⟩ := LR_there xs l.cs l.sh
    have hokt : ok = true := by rw [← hLR.1]; exact hok
    subst hokt
    obtain ⟨ht1, ht2, ht3, ht4, ht5⟩ := (cost_last hLR).out
    have hx1 := HX.out.1
    have HLR := Lib.hid hLR
    have HY := Lib.hid hy
    obtain ⟨B, hB⟩ : ∃ B, cost xs l = B := ⟨_, rfl⟩
    rw [hB] at ht1 hcl
    have HBST := Lib.hid (show ∀ (i : Nat) (l : LinV), i < q → ls[i]? = some l → lrOk xs l.cs l.sh = true → (B < cost xs l ∨ (B = cost xs l ∧ (k : Int) ≤ i)) from fun i l hi hl hok => by
      have h := (bestS_least (k := ls.length) (by have := HL.out.1; omega) hl hok).2
      rw [hcl, hbz.1] at h; exact h)
    have HT := Lib.hid (And.intro ht1 (And.intro ht2 ht5))
    obtain ⟨t8, ht8⟩ : ∃ t8 : Nat, t8 = n1 - 8 := ⟨_, rfl⟩
    rw [hx1, ← ht8] at HT ht3
    have HX8 := Lib.hid (show xs.length - 8 = t8 by omega)
    obtain ⟨lao, ln, lcap', lcs, lsh⟩ := l
    simp only at q0 q1 HY HLR hln
    have hw8 : t8 ≤ 66 := by omega
    clear hlk hok hLR hy hz0 HZ hbz hcl hkl hB ht1 ht2 ht5 hx1
    by_cases h8 : 8 < n1
    · have hh8 : 8 < (n1 : Int) := by omega
      have hT8 : ((n1 : Int) - 8) = (t8 : Int) := by omega
      have HT8 := Lib.hid hT8
      clear ht8 hT8
      go_wp2_with fail
      refine (iLR_any lcs xs ln n1 n lsh bs true lao a1 lcap' c1 _ HX.out hlc1 HY.out (by omega) hln HLR.out).mono ?_
      rintro e w5 ⟨v5, rfl, ho5, hg5⟩
      obtain ⟨a5, c5, rfl, hlc5, _, hx5, _⟩ := ho5.reads
      have HX5 := Lib.hid (HX.out.grown hg5)
      have HL5 := Lib.hid (HL.out.grown hg5)
      have HG5 := Lib.hid (grown_trans HG.out hg5)
      have HBS := Lib.hid hx5
      clear hg5 ho5 hx5 q0 q1 HY HLR HL HX HG
      go_wp2
      go_loopw [9] (fun iv wr => ∃ i : Nat, iv = .int .i64 i ∧ i ≤ q ∧ Hid (w5.grownBy wr none)) (fun iv _ => 100 - (intOf iv).toNat)
      case atStart => exact ⟨0, rfl, Nat.zero_le _, grown_refl _ _⟩
      case round =>
        obtain ⟨i, rfl, hi, HW⟩ := hrel
        by_cases hiq : i < q
        · obtain ⟨l2, hl2⟩ : ∃ l, ls[i]? = some l := ⟨_, List.getElem?_eq_getElem (by have := HL5.out.1; omega)⟩
          obtain ⟨_, p0, p1, hy2, hln2⟩ := (HL5.out.grown HW.out).one hl2
          obtain ⟨ys, m, ok2, hLR2, hm64⟩ := LR_there xs l2.cs l2.sh
          have HLR2 := Lib.hid hLR2
          have HY2 := Lib.hid hy2
          have HB2 := Lib.hid (HBST.out i l2 hiq hl2)
          have hiz : (i : Int) < (q : Int) := by omega
          obtain ⟨lao2, ln2, lcap2, lcs2, lsh2⟩ := l2
          simp only at p0 p1 HY2 HLR2 hln2
          clear hl2 hLR2 hy2
          go_wp2_with fail
          refine (iLR_any lcs2 xs ln2 n1 m lsh2 ys ok2 lao2 a1 lcap2 c1 _ (HX5.out.grown HW.out) hlc1 HY2.out (by omega) hln2 HLR2.out).mono ?_
          rintro e w6 ⟨v6, rfl, ho6, hg6⟩
          obtain ⟨a6, c6, rfl, hlc6, _, hx6, _⟩ := ho6.reads
          have HW6 := Lib.hid (grown_trans HW.out hg6)
          have HYS := Lib.hid hx6
          clear ho6 hx6 hg6 p0 p1 HY2 HW
          cases ok2 with
          | false =>
            clear HB2 HYS HLR2
            go_wp2
            go_roundw
            case rel => exact ⟨i + 1, by go_num, by omega, HW6⟩
            case measure => simp [intOf]; omega
          | true =>
            have hu := (cost_last (l := ⟨lao2, ln2, lcap2, lcs2, lsh2⟩) HLR2.out).out
            rw [HX8.out] at hu
            obtain ⟨hu1, hu2, hu3, hu4, hu5⟩ := hu
            have HU := Lib.hid (And.intro hu1 (And.intro hu2 hu5))
            have HC2 := Lib.hid (HB2.out HLR2.out.1)
            clear hu1 hu2 hu5 HB2 HLR2
            go_wp2
            go_loopw [12, 13, 14] (fun av bv kv wr => ∃ (j : Nat) (s t : Int), av = .int .i64 s ∧ bv = .int .i64 t ∧ kv = .int .i64 ((j + 1 : Nat) : Int) ∧ j ≤ t8 ∧ Hid (w6.grownBy wr none ∧ enT ys j = s ∧ enT bs j = t)) (fun _ _ kv _ => 100 - (intOf kv).toNat)
            case atStart => exact ⟨0, 0, 0, rfl, rfl, rfl, Nat.zero_le _, grown_refl _ _, rfl, rfl⟩
            case round =>
              obtain ⟨j, s, t, rfl, rfl, rfl, hj, HS⟩ := hrel
              by_cases hjt : j < t8
              · have HKK0 : j + 1 ≤ t8 := by omega
                obtain ⟨kk, hkk⟩ : ∃ kk, j + 1 = kk := ⟨_, rfl⟩
                rw [hkk]
                have hT8 := HT8.out
                have hk1 : (kk : Int) ≤ ((n1 : Int) - 8) := by omega
                have hk2 : (kk : Int) ≤ (m : Int) := by omega
                have hk3 : (kk : Int) ≤ (n : Int) := by omega
                obtain ⟨p, hp⟩ : ∃ p, p = m - kk := ⟨_, rfl⟩
                obtain ⟨p2, hp2⟩ : ∃ p2, p2 = n - kk := ⟨_, rfl⟩
                have hpz : (m : Int) - (kk : Int) = (p : Int) := by omega
                have hp2z : (n : Int) - (kk : Int) = (p2 : Int) := by omega
                have hpm : p < m := by omega
                have hp2n : p2 < n := by omega
                obtain ⟨b, off, y, hab, hy, hcy⟩ := last_cell (HYS.out.grown HS.out.1) hpm
                obtain ⟨b2, off2, y2, hab2, hy2, hcy2⟩ := last_cell ((HBS.out.grown HW6.out).grown HS.out.1) hp2n
                subst hab
                subst hab2
                have hyr := allB_mem HU.out.2.1 hy
                have hyr2 := allB_mem HT.out.2.1 hy2
                have hr := sq_range hyr.1 hyr.2
                have hr2 := sq_range hyr2.1 hyr2.2
                have e1 := enT_range HU.out.2.1 j
                have e2 := enT_range HT.out.2.1 j
                rw [HS.out.2.1] at e1
                rw [HS.out.2.2] at e2
                obtain ⟨pr, hpr⟩ : ∃ pr, y * y = pr := ⟨_, rfl⟩
                obtain ⟨qr, hqr⟩ : ∃ qr, y2 * y2 = qr := ⟨_, rfl⟩
                have HS1 : Hid (enT ys (j + 1) = s + pr) := by
                  show _ = _
                  simp only [enT]
                  rw [HS.out.2.1, HU.out.2.2, hkk, ← hp, getD_of hy, hpr]
                have HS2 : Hid (enT bs (j + 1) = t + qr) := by
                  show _ = _
                  simp only [enT]
                  rw [HS.out.2.2, HT.out.2.2, hkk, ← hp2, getD_of hy2, hqr]
                rw [hpr] at hr
                rw [hqr] at hr2
                have hr0 := hr.1
                have hr1 := hr.2
                have hq0 := hr2.1
                have hq1 := hr2.2
                have hs0 : 0 ≤ s := e1.1
                have hs1 : s ≤ 1161084278883394 := by omega
                have ht0 : 0 ≤ t := e2.1
                have ht1 : t ≤ 1161084278883394 := by omega
                have hw1 : wrap64 (y * y) = pr := by rw [hpr]; unfold wrap64; omega
                have hw2 : wrap64 (s + pr) = s + pr := by unfold wrap64; omega
                have hw3 : wrap64 (y2 * y2) = qr := by rw [hqr]; unfold wrap64; omega
                have hw4 : wrap64 (t + qr) = t + qr := by unfold wrap64; omega
                have HWW := Lib.hid (And.intro hw1 (And.intro hw2 (And.intro hw3 hw4)))
                have HKK := Lib.hid hkk
                have HWS := Lib.hid HS.out.1
                clear hp hp2 hy hy2 hyr hyr2 hr hr2 e1 e2 hpr hqr hkk hT8 HKK0 HS
                go_wp2
                go_quiet (fail)
                go_wp2
                go_quiet (fail)
                go_wp2
                go_roundw
                case rel => exact ⟨j + 1, s + pr, t + qr, by first | rfl | (rw [HWW.out.1, HWW.out.2.1]), by first | rfl | (rw [HWW.out.2.2.1, HWW.out.2.2.2]), by have := HKK.out; show Value.int _ _ = _; congr 1; omega, by omega, grown_trans HWS.out (grown_drewN _ _ _), HS1.out, HS2.out⟩
                case measure => simp [intOf]; have := HKK.out; omega
              · obtain rfl : j = t8 := by omega
                have hT8 := HT8.out
                obtain ⟨kk, hkk⟩ : ∃ kk, j + 1 = kk := ⟨_, rfl⟩
                rw [hkk]
                have hk1 : ¬ (kk : Int) ≤ ((n1 : Int) - 8) := by omega
                have hsc : s = cost xs ⟨lao2, ln2, lcap2, lcs2, lsh2⟩ := by rw [← HS.out.2.1]; exact HU.out.1
                have htc : t = B := by rw [← HS.out.2.2]; exact HT.out.1
                have hcs : t < s ∨ (t = s ∧ (k : Int) ≤ i) := by rw [hsc, htc]; exact HC2.out
                have HWS := Lib.hid (grown_trans HW6.out HS.out.1)
                clear hsc htc hkk hT8 HS
                rcases hcs with hlt | ⟨rfl, hki⟩
                · have hab : ¬ s < t := by omega
                  have hae : (s == t) = false := by simp; omega
                  go_wp2
                  go_roundw
                  case rel => exact ⟨i + 1, by go_num, by omega, HWS⟩
                  case measure => simp [intOf]; omega
                · have hik : ¬ (i : Int) < (k : Int) := by omega
                  go_wp2
                  go_roundw
                  case rel => exact ⟨i + 1, by go_num, by omega, HWS⟩
                  case measure => simp [intOf]; omega
        · obtain rfl : i = q := by omega
          have HF := Lib.hid (grown_trans HG5.out HW.out)
          clear HW
          go_wp2
          go_ret
          exact ⟨rfl, HF.out⟩
    · have hh8 : ¬ 8 < (n1 : Int) := by omega
      have hT8 : 0 = (t8 : Int) := by omega
      have HT8 := Lib.hid hT8
      clear ht8 hT8
      go_wp2_with fail
      refine (iLR_any lcs xs ln n1 n lsh bs true lao a1 lcap' c1 _ HX.out hlc1 HY.out (by omega) hln HLR.out).mono ?_
      rintro e w5 ⟨v5, rfl, ho5, hg5⟩
      obtain ⟨a5, c5, rfl, hlc5, _, hx5, _⟩ := ho5.reads
      have HX5 := Lib.hid (HX.out.grown hg5)
      have HL5 := Lib.hid (HL.out.grown hg5)
      have HG5 := Lib.hid (grown_trans HG.out hg5)
      have HBS := Lib.hid hx5
      clear hg5 ho5 hx5 q0 q1 HY HLR HL HX HG
      go_wp2
      go_loopw [9] (fun iv wr => ∃ i : Nat, iv = .int .i64 i ∧ i ≤ q ∧ Hid (w5.grownBy wr none)) (fun iv _ => 100 - (intOf iv).toNat)
      case atStart => exact ⟨0, rfl, Nat.zero_le _, grown_refl _ _⟩
      case round =>
        obtain ⟨i, rfl, hi, HW⟩ := hrel
        by_cases hiq : i < q
        · obtain ⟨l2, hl2⟩ : ∃ l, ls[i]? = some l := ⟨_, List.getElem?_eq_getElem (by have := HL5.out.1; omega)⟩
          obtain ⟨_, p0, p1, hy2, hln2⟩ := (HL5.out.grown HW.out).one hl2
          obtain ⟨ys, m, ok2, hLR2, hm64⟩ := LR_there xs l2.cs l2.sh
          have HLR2 := Lib.hid hLR2
          have HY2 := Lib.hid hy2
          have HB2 := Lib.hid (HBST.out i l2 hiq hl2)
          have hiz : (i : Int) < (q : Int) := by omega
          obtain ⟨lao2, ln2, lcap2, lcs2, lsh2⟩ := l2
          simp only at p0 p1 HY2 HLR2 hln2
          clear hl2 hLR2 hy2
          go_wp2_with fail
          refine (iLR_any lcs2 xs ln2 n1 m lsh2 ys ok2 lao2 a1 lcap2 c1 _ (HX5.out.grown HW.out) hlc1 HY2.out (by omega) hln2 HLR2.out).mono ?_
          rintro e w6 ⟨v6, rfl, ho6, hg6⟩
          obtain ⟨a6, c6, rfl, hlc6, _, hx6, _⟩ := ho6.reads
          have HW6 := Lib.hid (grown_trans HW.out hg6)
          have HYS := Lib.hid hx6
          clear ho6 hx6 hg6 p0 p1 HY2 HW
          cases ok2 with
          | false =>
            clear HB2 HYS HLR2
            go_wp2
            go_roundw
            case rel => exact ⟨i + 1, by go_num, by omega, HW6⟩
            case measure => simp [intOf]; omega
          | true =>
            have hu := (cost_last (l := ⟨lao2, ln2, lcap2, lcs2, lsh2⟩) HLR2.out).out
            rw [HX8.out] at hu
            obtain ⟨hu1, hu2, hu3, hu4, hu5⟩ := hu
            have HU := Lib.hid (And.intro hu1 (And.intro hu2 hu5))
            have HC2 := Lib.hid (HB2.out HLR2.out.1)
            clear hu1 hu2 hu5 HB2 HLR2
            go_wp2
            go_loopw [12, 13, 14] (fun av bv kv wr => ∃ (j : Nat) (s t : Int), av = .int .i64 s ∧ bv = .int .i64 t ∧ kv = .int .i64 ((j + 1 : Nat) : Int) ∧ j ≤ t8 ∧ Hid (w6.grownBy wr none ∧ enT ys j = s ∧ enT bs j = t)) (fun _ _ kv _ => 100 - (intOf kv).toNat)
            case atStart => exact ⟨0, 0, 0, rfl, rfl, rfl, Nat.zero_le _, grown_refl _ _, rfl, rfl⟩
            case round =>
              obtain ⟨j, s, t, rfl, rfl, rfl, hj, HS⟩ := hrel
              by_cases hjt : j < t8
              · exfalso; have := HT8.out; omega
              · obtain rfl : j = t8 := by omega
                have hT8 := HT8.out
                obtain ⟨kk, hkk⟩ : ∃ kk, j + 1 = kk := ⟨_, rfl⟩
                rw [hkk]
                have hk1 : ¬ (kk : Int) ≤ 0 := by omega
                have hsc : s = cost xs ⟨lao2, ln2, lcap2, lcs2, lsh2⟩ := by rw [← HS.out.2.1]; exact HU.out.1
                have htc : t = B := by rw [← HS.out.2.2]; exact HT.out.1
                have hcs : t < s ∨ (t = s ∧ (k : Int) ≤ i) := by rw [hsc, htc]; exact HC2.out
                have HWS := Lib.hid (grown_trans HW6.out HS.out.1)
                clear hsc htc hkk hT8 HS
                rcases hcs with hlt | ⟨rfl, hki⟩
                · have hab : ¬ s < t := by omega
                  have hae : (s == t) = false := by simp; omega
                  go_wp2
                  go_roundw
                  case rel => exact ⟨i + 1, by go_num, by omega, HWS⟩
                  case measure => simp [intOf]; omega
                · have hik : ¬ (i : Int) < (k : Int) := by omega
                  go_wp2
                  go_roundw
                  case rel => exact ⟨i + 1, by go_num, by omega, HWS⟩
                  case measure => simp [intOf]; omega
        · obtain rfl : i = q := by omega
          have HF := Lib.hid (grown_trans HG5.out HW.out)
          clear HW
          go_wp2
          go_ret
          exact ⟨rfl, HF.out⟩

end Go.Proofs.Ytgiiaijlahjfnaa
