/-
  The walk of the law on the best linear predictor: it returns true and writes nothing that was there. For every code.
-/
import Derived.Test.YtgiiaijlahjfnaaDrawB
import Derived.Test.YtgiiaijlahjfnaaLbI
namespace Go.Proofs.Ytgiiaijlahjfnaa
open Go.RowKit

/-- The best candidate can be used. -/
theorem bestS_ok {xs : List Int} {ls : List LinV} {j k : Nat} (h : (bestS xs ls k).1 = (j : Int)) : ∃ l, ls[j]? = some l ∧ lrOk xs l.cs l.sh = true := by
  induction k with
  | zero => simp [bestS] at h
  | succ k ih =>
    simp only [bestS] at h
    split at h
    · exact ih h
    · rename_i l hl
      split at h
      · rename_i hc
        have e : (k : Int) = (j : Int) := h
        have e2 : k = j := by omega
        subst e2
        exact ⟨l, hl, hc.1⟩
      · exact ih h
theorem bestZ_in (xs : List Int) (ls : List LinV) : bestZ xs ls = -1 ∨ ∃ k : Nat, bestZ xs ls = (k : Int) ∧ k < ls.length ∧ ∃ l, ls[k]? = some l ∧ lrOk xs l.cs l.sh = true := by
  unfold bestZ
  split
  · have h := bestS_at xs ls ls.length
    by_cases h0 : (bestS xs ls ls.length).1 < 0
    · left; omega
    · right
      obtain ⟨k, hk⟩ := Int.eq_ofNat_of_zero_le (show 0 ≤ (bestS xs ls ls.length).1 by omega)
      exact ⟨k, hk, by omega, bestS_ok hk⟩
  · left; rfl
theorem bestZ_nil (xs : List Int) : bestZ xs [] = -1 := by
  unfold bestZ
  split <;> rfl
theorem bestZ_one {xs : List Int} {l : LinV} (h : lrOk xs l.cs l.sh = true) : bestZ xs [l] = 0 := by
  have hv : vS xs = true := by
    unfold lrOk at h
    simp only [Bool.and_eq_true] at h
    exact h.1.1.1
  unfold bestZ
  rw [if_pos ⟨hv, by simp⟩]
  have := bestS_take (xs := xs) (ls := [l]) (k := 0) (l := l) (a := -1) (m := 0) rfl h rfl (Or.inl (by omega))
  show (bestS xs [l] 1).1 = 0
  rw [this]; rfl
theorem Lins.one {w : World} {g len k : Nat} {ls : List LinV} {l : LinV} (h : Lins w (some ⟨g, 0, none⟩) len ls) (hl : ls[k]? = some l) : Lins w (some ⟨g, k * 2, none⟩) 1 [l] ∧ w.cell? ⟨g, k * 2, none⟩ = some (.slice l.ao l.n l.cap) ∧ w.cell? ⟨g, k * 2 + 1, none⟩ = some (.int .i64 l.sh) ∧ Ints w l.ao l.n l.cs ∧ l.n ≤ 4611686018427387904 := by
  rcases h.2 with e | ⟨b, off, e, hc⟩
  · subst e; simp at hl
  · injection e with e; injection e with e1 e2; subst e1; subst e2
    obtain ⟨h1, h2, h3, h4⟩ := hc k l hl
    rw [Nat.zero_add] at h1 h2
    refine ⟨⟨rfl, Or.inr ⟨g, k * 2, rfl, fun i x hx => ?_⟩⟩, h1, h2, h3, h4⟩
    cases i with
    | zero => simp at hx; subst hx; rw [show k * 2 + 0 * 2 = k * 2 by omega]; exact ⟨h1, h2, h3, h4⟩
    | succ i => simp at hx

set_option maxRecDepth 100000 in
set_option maxHeartbeats 4000000 in
theorem FnBestLinear_walk (ao : Option Addr) (len cap : Nat) (w : World) (hb : BytesAt w ao len) (hlc : len ≤ cap) (hmax : len ≤ 9223372036854775807) :
    Calls Try.prog 6 #[.slice ao len cap] w (Holds w) := by
  by_cases hlen : 1048576 < len
  · clear hb
    go_enter Try.func6, Try.ntmps6
    go_wp2
    go_ret
    exact ⟨rfl, grown_refl _ _⟩
  have hd := drawB_any ao len cap w hb hlc hmax
  have hm : decide (1048576 < (len : Int)) = false := by simp; omega
  clear hb hlen
  go_enter Try.func6, Try.ntmps6
  go_wp2_with fail
  refine hd.mono ?_
  rintro e w1 ⟨a1, n1, c1, xs, g, q, c, ls, rfl, hn1, hlc1, hx1, hq, hqc, hl1, hg1⟩
  have HX := Lib.hid hx1
  have HL := Lib.hid hl1
  have HG := Lib.hid hg1
  obtain ⟨z, hz⟩ : ∃ z, bestZ xs ls = z := ⟨_, rfl⟩
  have HZ := Lib.hid hz
  clear hd hx1 hl1 hg1 hz
  go_wp2_with fail
  refine (iBest_any xs ls n1 q z a1 _ c1 c _ HX.out hlc1 HL.out (by omega) (by omega) HZ.out).mono ?_
  rintro e w2 ⟨rfl, hg2⟩
  replace HX := Lib.hid (HX.out.grown hg2)
  replace HL := Lib.hid (HL.out.grown hg2)
  replace HG := Lib.hid (grown_trans HG.out hg2)
  clear hg2
  go_wp2_with fail
  refine (sBest_any xs ls n1 q z a1 _ c1 c _ HX.out HL.out (by omega) (by omega) HZ.out).mono ?_
  rintro e w3 ⟨rfl, hg3⟩
  replace HX := Lib.hid (HX.out.grown hg3)
  replace HL := Lib.hid (HL.out.grown hg3)
  replace HG := Lib.hid (grown_trans HG.out hg3)
  clear hg3
  by_cases hz0 : z < 0
  · have hzz : ((z : Int) != z) = false := by simp
    go_wp2_with fail
    refine (sBest_any xs ls n1 q z a1 _ c1 c _ HX.out HL.out (by omega) (by omega) HZ.out).mono ?_
    rintro e w4 ⟨rfl, hg4⟩
    replace HG := Lib.hid (grown_trans HG.out hg4)
    clear hg4
    go_wp2
    go_ret
    exact ⟨rfl, HG.out⟩
  · obtain ⟨k, hk⟩ : ∃ k : Nat, bestZ xs ls = (k : Int) ∧ k < ls.length ∧ ∃ l, ls[k]? = some l ∧ lrOk xs l.cs l.sh = true := by
      rcases bestZ_in xs ls with e | h
      · rw [HZ.out] at e; omega
      · exact h
    obtain ⟨hk1, hk2, l, hlk, hok⟩ := hk
    have hzk : z = (k : Int) := by rw [← HZ.out]; exact hk1
    subst hzk
    have hkq : k < q := by have := HL.out.1; omega
    have hkqz : (k : Int) < (q : Int) := by omega
    have hk0 : (0 : Int) ≤ (k : Int) := by omega
    have hone := HL.out.one hlk
    obtain ⟨hLo, q0, q1, hy, hln⟩ := hone
    obtain ⟨ys, n, ok, hLR, hn64⟩ := LR_there xs l.cs l.sh
    have hokt : ok = true := by rw [← hLR.1]; exact hok
    subst hokt
    have HLR := Lib.hid hLR
    have HO := Lib.hid hLo
    have HY := Lib.hid hy
    have HBo := Lib.hid (bestZ_one hok)
    obtain ⟨lao, ln, lcap', lcs, lsh⟩ := l
    simp only at q0 q1 HY HLR hln
    clear hk1 hk2 hlk hok hLR hLo hy hz0 HZ
    go_wp2_with fail
    refine (iLR_any lcs xs ln n1 n lsh ys true lao a1 lcap' c1 _ HX.out hlc1 HY.out (by omega) hln HLR.out).mono ?_
    rintro e w4 ⟨v4, rfl, _, hg4⟩
    replace HX := Lib.hid (HX.out.grown hg4)
    replace HO := Lib.hid (HO.out.grown hg4)
    replace HG := Lib.hid (grown_trans HG.out hg4)
    clear hg4 q0 q1 HY HLR HL
    go_wp2_with fail
    refine (iBest_any xs [] n1 0 (-1) a1 none c1 0 _ HX.out hlc1 ⟨rfl, Or.inl rfl⟩ (by omega) (by omega) (bestZ_nil xs)).mono ?_
    rintro e w5 ⟨rfl, hg5⟩
    replace HX := Lib.hid (HX.out.grown hg5)
    replace HO := Lib.hid (HO.out.grown hg5)
    replace HG := Lib.hid (grown_trans HG.out hg5)
    clear hg5
    have hkc1 : (k : Int) + 1 ≤ (c : Int) := by omega
    go_wp2_with fail
    all_goals
      first
      | (exfalso; omega)
      | (refine (iBest_any xs [⟨lao, ln, lcap', lcs, lsh⟩] n1 1 0 a1 (some ⟨g, k * 2, none⟩) c1 _ _ HX.out hlc1 HO.out (by omega) (by omega) HBo.out).mono ?_
         rintro e w6 ⟨rfl, hg6⟩
         have HG6 := Lib.hid (grown_trans HG.out hg6)
         clear hg6
         go_wp2
         go_ret
         exact ⟨rfl, HG6.out⟩)

end Go.Proofs.Ytgiiaijlahjfnaa
