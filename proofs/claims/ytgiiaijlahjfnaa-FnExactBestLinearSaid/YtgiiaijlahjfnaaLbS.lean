/-
  The best linear predictor in the specification.
-/
import Derived.Test.YtgiiaijlahjfnaaLbE
namespace Go.Proofs.Ytgiiaijlahjfnaa
open Go.RowKit

theorem bestS_at (xs : List Int) (ls : List LinV) (k : Nat) : -1 ≤ (bestS xs ls k).1 ∧ (bestS xs ls k).1 < k := by
  induction k with
  | zero => simp [bestS]
  | succ k ih =>
    simp only [bestS]
    split
    · omega
    · split
      · show -1 ≤ (k : Int) ∧ (k : Int) < _; omega
      · omega
/-- The part of a residual that counts. -/
theorem tail_of {w : World} {base m : Nat} {v : Value} {ys : List Int} (h : Owns w base v m ys) (t : Nat) (ht : t ≤ m) : ∃ (ao : Option Addr) (c : Nat), v = .slice ao m c ∧ m ≤ c ∧
    ((ao = none ∧ c = 0) ∨ ∃ b, ao = some ⟨b, 0, none⟩) ∧ (∀ b, ao = some ⟨b, 0, none⟩ → Ints w (some ⟨b, t, none⟩) (m - t) (ys.drop t)) := by
  have hl := h.len_eq
  rcases h.2 with ⟨rfl, h0⟩ | ⟨g, c, cur, rfl, _⟩
  · exact ⟨none, 0, by simp at h0 ⊢; try omega, by omega, Or.inl ⟨rfl, rfl⟩, fun b e => nomatch e⟩
  · refine ⟨some ⟨g, 0, none⟩, c, rfl, ?_, Or.inr ⟨g, rfl⟩, fun b e => ?_⟩
    · obtain ⟨ao, cap, e, h1, _⟩ := h.reads
      injection e with e1 e2 e3; omega
    · injection e with e; injection e with e1; subst e1
      refine ⟨by simp; omega, Or.inr ⟨g, t, rfl, fun k x hx => ?_⟩⟩
      rw [List.getElem?_drop] at hx
      rcases h.toInts.2 with e | ⟨b', off', e, hc⟩
      · rw [e] at hx; simp at hx
      · injection e with e; injection e with e1 e2; subst e1; subst e2
        have := hc _ x hx
        rwa [Nat.zero_add] at this

set_option maxRecDepth 100000 in
set_option maxHeartbeats 4000000 in
theorem sBest_inA (xs : List Int) (ls : List LinV) (len nl : Nat) (ao lo : Option Addr) (cap lcap : Nat) (w : World) (hx : Ints w ao len xs) (hl : Lins w lo nl ls) (hv : vS xs = true) (hnl : nl ≤ 12) (h8 : 8 < len) :
    Calls Try.prog 21 #[.slice ao len cap, .slice lo nl lcap] w fun e w' => e = .returned (.int .i64 (bestS xs ls nl).1) ∧ w.grownBy w' none := by
  have hlen := vS_len hv
  have hxl := hx.1
  have k1 := sValidSamples_any xs ao len cap w true hx (by omega) hv
  have HX := Lib.hid hx
  have HL := Lib.hid hl
  have hh8 : 8 < (len : Int) := by omega
  have hv8 := HX.out
  clear hx hl hv8
  obtain ⟨t8, ht8⟩ : ∃ t8 : Nat, t8 = xs.length - 8 := ⟨_, rfl⟩
  have hd12 : decide (12 < (nl : Int)) = false := by simp; omega
  go_enter Try.func21, Try.ntmps21
  go_wp2_with fail
  refine k1.mono ?_
  rintro e w' ⟨rfl, rfl⟩
  clear k1
  go_wp2
  go_loopw [5, 6, 8] (fun av mv iv wr => ∃ (k : Nat) (a m : Int), av = .int .i64 a ∧ mv = .int .i64 m ∧ iv = .int .i64 k ∧ k ≤ nl ∧ Hid (bestS xs ls k = (a, m) ∧ w.grownBy wr none)) (fun _ _ iv _ => 100 - (intOf iv).toNat)
  case atStart => exact ⟨0, -1, 0, rfl, rfl, rfl, Nat.zero_le _, rfl, grown_refl _ _⟩
  case round =>
    obtain ⟨k, a, m, rfl, rfl, rfl, hk, HS⟩ := hrel
    by_cases hlt : k < nl
    · obtain ⟨l, hlk⟩ : ∃ l, ls[k]? = some l := ⟨_, List.getElem?_eq_getElem (by have := HL.out.1; omega)⟩
      obtain ⟨b, off, hab, hc⟩ := HL.out.2.resolve_left (by intro e; subst e; simp at hlk)
      obtain ⟨hq0, hq1, hly, hln⟩ := hc k l hlk
      have q0 := HS.out.2.cell hq0 (by simp)
      have q1 := HS.out.2.cell hq1 (by simp)
      have HY := Lib.hid (hly.grown HS.out.2)
      subst hab
      obtain ⟨ys, n, ok, hLR, hn64⟩ := LR_there xs l.cs l.sh
      have HLR := Lib.hid hLR
      have HK := Lib.hid hlk
      obtain ⟨lao, ln, lcap', lcs, lsh⟩ := l
      simp only at q0 q1 HY HLR hln
      clear hc hq0 hq1 hly hLR hlk
      go_wp2_with fail
      refine (sLR_any lcs xs ln len n lsh ys ok lao ao lcap' cap _ (HX.out.grown HS.out.2) HY.out (by omega) hln HLR.out).mono ?_
      rintro e w2 ⟨v2, rfl, ho2, hg2⟩
      have HO := Lib.hid ho2
      have HG := Lib.hid (grown_trans HS.out.2 hg2)
      have HB := Lib.hid HS.out.1
      clear ho2 hg2 q0 q1 HY HS
      cases ok with
      | false =>
        have HR : Hid (bestS xs ls (k + 1) = (a, m) ∧ w.grownBy w2 none) := ⟨by rw [bestS_skip HK.out HLR.out.1]; exact HB.out, HG.out⟩
        clear HO HG HB
        go_wp2
        go_roundw
        case rel => exact ⟨k + 1, a, m, rfl, rfl, by go_num, by omega, HR⟩
        case measure => simp [intOf]; omega
      | true =>
        obtain ⟨hco, hya, htm, hm64, hyl⟩ := (cost_of (l := ⟨lao, ln, lcap', lcs, lsh⟩) HLR.out).out
        obtain ⟨z, hz⟩ : ∃ z, cost xs ⟨lao, ln, lcap', lcs, lsh⟩ = z := ⟨_, rfl⟩
        rw [hz] at hco
        obtain ⟨d, hd⟩ : ∃ d : Nat, d = n - t8 := ⟨_, rfl⟩
        have hdn : (n : Int) - ((len : Int) - 8) = (d : Int) := by omega
        have hd0 : (0 : Int) ≤ (d : Int) := by omega
        have hdle : (d : Int) ≤ (n : Int) := by omega
        obtain ⟨a4, c4, rfl, hmc, hsh, hti⟩ := tail_of HO.out d (by omega)
        have hdc : (d : Int) ≤ (c4 : Int) := by omega
        have hen : enS (ys.drop d) (n - d) = z := by rw [← hco, hd, ← ht8]; congr 1; omega
        have hya2 : allB (ys.drop d) (-4194303) 4194303 = true := by
          unfold allB at hya ⊢
          rw [List.all_eq_true] at hya ⊢
          exact fun y hy => hya y (List.mem_of_mem_drop hy)
        have HE := Lib.hid (And.intro hen hya2)
        have HTI := Lib.hid hti
        have HZ := Lib.hid hz
        have HTT := Lib.hid (And.intro hd ht8)
        have HYL := Lib.hid hyl
        have hn1 : 0 < n := by omega
        have hd64 : d ≤ n := by omega
        clear hco hya hen hya2 hti hz hd ht8 htm hyl hxl hv
        by_cases ha : a < 0
        · have HR : Hid (bestS xs ls (k + 1) = ((k : Int), z)) := by
            have e := bestS_take HK.out HLR.out.1 HB.out (Or.inl ha)
            rw [HZ.out] at e; exact e
          rcases hsh with ⟨rfl, rfl⟩ | ⟨g, rfl⟩
          · exfalso; omega
          · go_wp2_with fail
            all_goals
              refine (sEnergy_any (ys.drop d) (n - d) z _ _ _ (by first | exact HTI.out _ rfl | (have e := HYL.out; exact ⟨by simp; omega, Or.inl (List.eq_nil_of_length_eq_zero (by simp; omega))⟩)) HE.out.2 (by omega) HE.out.1).mono ?_
              rintro e w3 ⟨rfl, hg3⟩
              have HRR : Hid (bestS xs ls (k + 1) = ((k : Int), z) ∧ w.grownBy w3 none) := ⟨HR.out, grown_trans HG.out hg3⟩
              clear hg3 HR HG HB HO HTI HE HLR HK
              go_wp2
              go_roundw
              case rel => exact ⟨k + 1, (k : Int), z, rfl, rfl, by go_num, by omega, HRR⟩
              case measure => simp [intOf]; omega
        · by_cases hzm : z < m
          · have HR : Hid (bestS xs ls (k + 1) = ((k : Int), z)) := by
              have e := bestS_take HK.out HLR.out.1 HB.out (Or.inr (by rw [HZ.out]; exact hzm))
              rw [HZ.out] at e; exact e
            rcases hsh with ⟨rfl, rfl⟩ | ⟨g, rfl⟩
            · exfalso; omega
            · go_wp2_with fail
              all_goals
                refine (sEnergy_any (ys.drop d) (n - d) z _ _ _ (by first | exact HTI.out _ rfl | (have e := HYL.out; exact ⟨by simp; omega, Or.inl (List.eq_nil_of_length_eq_zero (by simp; omega))⟩)) HE.out.2 (by omega) HE.out.1).mono ?_
                rintro e w3 ⟨rfl, hg3⟩
                have HRR : Hid (bestS xs ls (k + 1) = ((k : Int), z) ∧ w.grownBy w3 none) := ⟨HR.out, grown_trans HG.out hg3⟩
                clear hg3 HR HG HB HO HTI HE HLR HK
                go_wp2
                go_roundw
                case rel => exact ⟨k + 1, (k : Int), z, rfl, rfl, by go_num, by omega, HRR⟩
                case measure => simp [intOf]; omega
          · have HR : Hid (bestS xs ls (k + 1) = (a, m)) := bestS_keep HK.out HB.out (by rw [HZ.out]; omega)
            rcases hsh with ⟨rfl, rfl⟩ | ⟨g, rfl⟩
            · exfalso; omega
            · go_wp2_with fail
              all_goals
                refine (sEnergy_any (ys.drop d) (n - d) z _ _ _ (by first | exact HTI.out _ rfl | (have e := HYL.out; exact ⟨by simp; omega, Or.inl (List.eq_nil_of_length_eq_zero (by simp; omega))⟩)) HE.out.2 (by omega) HE.out.1).mono ?_
                rintro e w3 ⟨rfl, hg3⟩
                have HRR : Hid (bestS xs ls (k + 1) = (a, m) ∧ w.grownBy w3 none) := ⟨HR.out, grown_trans HG.out hg3⟩
                clear hg3 HR HG HB HO HTI HE HLR HK
                go_wp2
                go_roundw
                case rel => exact ⟨k + 1, a, m, rfl, rfl, by go_num, by omega, HRR⟩
                case measure => simp [intOf]; omega
    · obtain rfl : k = nl := by omega
      have HF : Hid ((bestS xs ls k).1 = a ∧ w.grownBy wr none) := ⟨by rw [HS.out.1], HS.out.2⟩
      go_wp2
      go_ret
      exact ⟨ret_int HF.out.1.symm, HF.out.2⟩

set_option maxRecDepth 100000 in
set_option maxHeartbeats 4000000 in
theorem sBest_inB (xs : List Int) (ls : List LinV) (len nl : Nat) (ao lo : Option Addr) (cap lcap : Nat) (w : World) (hx : Ints w ao len xs) (hl : Lins w lo nl ls) (hv : vS xs = true) (hnl : nl ≤ 12) (h8 : ¬ 8 < len) :
    Calls Try.prog 21 #[.slice ao len cap, .slice lo nl lcap] w fun e w' => e = .returned (.int .i64 (bestS xs ls nl).1) ∧ w.grownBy w' none := by
  have hlen := vS_len hv
  have hxl := hx.1
  have k1 := sValidSamples_any xs ao len cap w true hx (by omega) hv
  have HX := Lib.hid hx
  have HL := Lib.hid hl
  have hh8 : ¬ 8 < (len : Int) := by omega
  have hv8 := HX.out
  clear hx hl hv8
  obtain ⟨t8, ht8⟩ : ∃ t8 : Nat, t8 = xs.length - 8 := ⟨_, rfl⟩
  have hd12 : decide (12 < (nl : Int)) = false := by simp; omega
  go_enter Try.func21, Try.ntmps21
  go_wp2_with fail
  refine k1.mono ?_
  rintro e w' ⟨rfl, rfl⟩
  clear k1
  go_wp2
  go_loopw [5, 6, 8] (fun av mv iv wr => ∃ (k : Nat) (a m : Int), av = .int .i64 a ∧ mv = .int .i64 m ∧ iv = .int .i64 k ∧ k ≤ nl ∧ Hid (bestS xs ls k = (a, m) ∧ w.grownBy wr none)) (fun _ _ iv _ => 100 - (intOf iv).toNat)
  case atStart => exact ⟨0, -1, 0, rfl, rfl, rfl, Nat.zero_le _, rfl, grown_refl _ _⟩
  case round =>
    obtain ⟨k, a, m, rfl, rfl, rfl, hk, HS⟩ := hrel
    by_cases hlt : k < nl
    · obtain ⟨l, hlk⟩ : ∃ l, ls[k]? = some l := ⟨_, List.getElem?_eq_getElem (by have := HL.out.1; omega)⟩
      obtain ⟨b, off, hab, hc⟩ := HL.out.2.resolve_left (by intro e; subst e; simp at hlk)
      obtain ⟨hq0, hq1, hly, hln⟩ := hc k l hlk
      have q0 := HS.out.2.cell hq0 (by simp)
      have q1 := HS.out.2.cell hq1 (by simp)
      have HY := Lib.hid (hly.grown HS.out.2)
      subst hab
      obtain ⟨ys, n, ok, hLR, hn64⟩ := LR_there xs l.cs l.sh
      have HLR := Lib.hid hLR
      have HK := Lib.hid hlk
      obtain ⟨lao, ln, lcap', lcs, lsh⟩ := l
      simp only at q0 q1 HY HLR hln
      clear hc hq0 hq1 hly hLR hlk
      go_wp2_with fail
      refine (sLR_any lcs xs ln len n lsh ys ok lao ao lcap' cap _ (HX.out.grown HS.out.2) HY.out (by omega) hln HLR.out).mono ?_
      rintro e w2 ⟨v2, rfl, ho2, hg2⟩
      have HO := Lib.hid ho2
      have HG := Lib.hid (grown_trans HS.out.2 hg2)
      have HB := Lib.hid HS.out.1
      clear ho2 hg2 q0 q1 HY HS
      cases ok with
      | false =>
        have HR : Hid (bestS xs ls (k + 1) = (a, m) ∧ w.grownBy w2 none) := ⟨by rw [bestS_skip HK.out HLR.out.1]; exact HB.out, HG.out⟩
        clear HO HG HB
        go_wp2
        go_roundw
        case rel => exact ⟨k + 1, a, m, rfl, rfl, by go_num, by omega, HR⟩
        case measure => simp [intOf]; omega
      | true =>
        obtain ⟨hco, hya, htm, hm64, hyl⟩ := (cost_of (l := ⟨lao, ln, lcap', lcs, lsh⟩) HLR.out).out
        obtain ⟨z, hz⟩ : ∃ z, cost xs ⟨lao, ln, lcap', lcs, lsh⟩ = z := ⟨_, rfl⟩
        rw [hz] at hco
        obtain ⟨d, hd⟩ : ∃ d : Nat, d = n - t8 := ⟨_, rfl⟩
        have hdn : (n : Int) - 0 = (d : Int) := by omega
        have hd0 : (0 : Int) ≤ (d : Int) := by omega
        have hdle : (d : Int) ≤ (n : Int) := by omega
        obtain ⟨a4, c4, rfl, hmc, hsh, hti⟩ := tail_of HO.out d (by omega)
        have hdc : (d : Int) ≤ (c4 : Int) := by omega
        have hen : enS (ys.drop d) (n - d) = z := by rw [← hco, hd, ← ht8]; congr 1; omega
        have hya2 : allB (ys.drop d) (-4194303) 4194303 = true := by
          unfold allB at hya ⊢
          rw [List.all_eq_true] at hya ⊢
          exact fun y hy => hya y (List.mem_of_mem_drop hy)
        have HE := Lib.hid (And.intro hen hya2)
        have HTI := Lib.hid hti
        have HZ := Lib.hid hz
        have HTT := Lib.hid (And.intro hd ht8)
        have HYL := Lib.hid hyl
        have hd64 : d ≤ n := by omega
        clear hco hya hen hya2 hti hz hd ht8 htm hyl hxl hv
        by_cases ha : a < 0
        · have HR : Hid (bestS xs ls (k + 1) = ((k : Int), z)) := by
            have e := bestS_take HK.out HLR.out.1 HB.out (Or.inl ha)
            rw [HZ.out] at e; exact e
          rcases hsh with ⟨rfl, rfl⟩ | ⟨g, rfl⟩
          · have e0 : d = 0 := by omega
            have e1 : n = 0 := by omega
            subst e0
            subst e1
            clear hdn hd0 hdle hdc
            go_wp2_with fail
            all_goals
              refine (sEnergy_any (ys.drop 0) 0 z _ _ _ (by have e2 : ys = [] := List.eq_nil_of_length_eq_zero HYL.out; subst e2; exact ⟨rfl, Or.inl rfl⟩) HE.out.2 (by omega) HE.out.1).mono ?_
              rintro e w3 ⟨rfl, hg3⟩
              have HRR : Hid (bestS xs ls (k + 1) = ((k : Int), z) ∧ w.grownBy w3 none) := ⟨HR.out, grown_trans HG.out hg3⟩
              clear hg3 HR HG HB HO HTI HE HLR HK
              go_wp2
              go_roundw
              case rel => exact ⟨k + 1, (k : Int), z, rfl, rfl, by go_num, by omega, HRR⟩
              case measure => simp [intOf]; omega
          · go_wp2_with fail
            all_goals
              refine (sEnergy_any (ys.drop d) (n - d) z _ _ _ (by first | exact HTI.out _ rfl | (have e := HYL.out; exact ⟨by simp; omega, Or.inl (List.eq_nil_of_length_eq_zero (by simp; omega))⟩)) HE.out.2 (by omega) HE.out.1).mono ?_
              rintro e w3 ⟨rfl, hg3⟩
              have HRR : Hid (bestS xs ls (k + 1) = ((k : Int), z) ∧ w.grownBy w3 none) := ⟨HR.out, grown_trans HG.out hg3⟩
              clear hg3 HR HG HB HO HTI HE HLR HK
              go_wp2
              go_roundw
              case rel => exact ⟨k + 1, (k : Int), z, rfl, rfl, by go_num, by omega, HRR⟩
              case measure => simp [intOf]; omega
        · by_cases hzm : z < m
          · have HR : Hid (bestS xs ls (k + 1) = ((k : Int), z)) := by
              have e := bestS_take HK.out HLR.out.1 HB.out (Or.inr (by rw [HZ.out]; exact hzm))
              rw [HZ.out] at e; exact e
            rcases hsh with ⟨rfl, rfl⟩ | ⟨g, rfl⟩
            · have e0 : d = 0 := by omega
              have e1 : n = 0 := by omega
              subst e0
              subst e1
              clear hdn hd0 hdle hdc
              go_wp2_with fail
              all_goals
                refine (sEnergy_any (ys.drop 0) 0 z _ _ _ (by have e2 : ys = [] := List.eq_nil_of_length_eq_zero HYL.out; subst e2; exact ⟨rfl, Or.inl rfl⟩) HE.out.2 (by omega) HE.out.1).mono ?_
                rintro e w3 ⟨rfl, hg3⟩
                have HRR : Hid (bestS xs ls (k + 1) = ((k : Int), z) ∧ w.grownBy w3 none) := ⟨HR.out, grown_trans HG.out hg3⟩
                clear hg3 HR HG HB HO HTI HE HLR HK
                go_wp2
                go_roundw
                case rel => exact ⟨k + 1, (k : Int), z, rfl, rfl, by go_num, by omega, HRR⟩
                case measure => simp [intOf]; omega
            · go_wp2_with fail
              all_goals
                refine (sEnergy_any (ys.drop d) (n - d) z _ _ _ (by first | exact HTI.out _ rfl | (have e := HYL.out; exact ⟨by simp; omega, Or.inl (List.eq_nil_of_length_eq_zero (by simp; omega))⟩)) HE.out.2 (by omega) HE.out.1).mono ?_
                rintro e w3 ⟨rfl, hg3⟩
                have HRR : Hid (bestS xs ls (k + 1) = ((k : Int), z) ∧ w.grownBy w3 none) := ⟨HR.out, grown_trans HG.out hg3⟩
                clear hg3 HR HG HB HO HTI HE HLR HK
                go_wp2
                go_roundw
                case rel => exact ⟨k + 1, (k : Int), z, rfl, rfl, by go_num, by omega, HRR⟩
                case measure => simp [intOf]; omega
          · have HR : Hid (bestS xs ls (k + 1) = (a, m)) := bestS_keep HK.out HB.out (by rw [HZ.out]; omega)
            rcases hsh with ⟨rfl, rfl⟩ | ⟨g, rfl⟩
            · have e0 : d = 0 := by omega
              have e1 : n = 0 := by omega
              subst e0
              subst e1
              clear hdn hd0 hdle hdc
              go_wp2_with fail
              all_goals
                refine (sEnergy_any (ys.drop 0) 0 z _ _ _ (by have e2 : ys = [] := List.eq_nil_of_length_eq_zero HYL.out; subst e2; exact ⟨rfl, Or.inl rfl⟩) HE.out.2 (by omega) HE.out.1).mono ?_
                rintro e w3 ⟨rfl, hg3⟩
                have HRR : Hid (bestS xs ls (k + 1) = (a, m) ∧ w.grownBy w3 none) := ⟨HR.out, grown_trans HG.out hg3⟩
                clear hg3 HR HG HB HO HTI HE HLR HK
                go_wp2
                go_roundw
                case rel => exact ⟨k + 1, a, m, rfl, rfl, by go_num, by omega, HRR⟩
                case measure => simp [intOf]; omega
            · go_wp2_with fail
              all_goals
                refine (sEnergy_any (ys.drop d) (n - d) z _ _ _ (by first | exact HTI.out _ rfl | (have e := HYL.out; exact ⟨by simp; omega, Or.inl (List.eq_nil_of_length_eq_zero (by simp; omega))⟩)) HE.out.2 (by omega) HE.out.1).mono ?_
                rintro e w3 ⟨rfl, hg3⟩
                have HRR : Hid (bestS xs ls (k + 1) = (a, m) ∧ w.grownBy w3 none) := ⟨HR.out, grown_trans HG.out hg3⟩
                clear hg3 HR HG HB HO HTI HE HLR HK
                go_wp2
                go_roundw
                case rel => exact ⟨k + 1, a, m, rfl, rfl, by go_num, by omega, HRR⟩
                case measure => simp [intOf]; omega
    · obtain rfl : k = nl := by omega
      have HF : Hid ((bestS xs ls k).1 = a ∧ w.grownBy wr none) := ⟨by rw [HS.out.1], HS.out.2⟩
      go_wp2
      go_ret
      exact ⟨ret_int HF.out.1.symm, HF.out.2⟩

set_option maxHeartbeats 1000000 in
theorem sBest_any (xs : List Int) (ls : List LinV) (len nl : Nat) (z : Int) (ao lo : Option Addr) (cap lcap : Nat) (w : World) (hx : Ints w ao len xs) (hl : Lins w lo nl ls) (hlen : len ≤ 4611686018427387904) (hnl : nl ≤ 4611686018427387904) (hz : bestZ xs ls = z) :
    Calls Try.prog 21 #[.slice ao len cap, .slice lo nl lcap] w fun e w' => e = .returned (.int .i64 z) ∧ w.grownBy w' none := by
  have hll := hl.1
  cases hv : vS xs with
  | false =>
    have k1 := sValidSamples_any xs ao len cap w false hx hlen hv
    unfold bestZ at hz
    rw [if_neg (fun h => by rw [hv] at h; cases h.1)] at hz
    subst hz
    clear hx hl hv
    go_enter Try.func21, Try.ntmps21
    go_wp2_with fail
    refine k1.mono ?_
    rintro e w' ⟨rfl, rfl⟩
    clear k1
    go_wp2
    go_ret
    exact ⟨rfl, grown_refl _ _⟩
  | true =>
    by_cases h12 : nl ≤ 12
    · unfold bestZ at hz
      rw [if_pos ⟨hv, by omega⟩, hll] at hz
      subst hz
      by_cases h8 : 8 < len
      · exact sBest_inA xs ls len nl ao lo cap lcap w hx hl hv h12 h8
      · exact sBest_inB xs ls len nl ao lo cap lcap w hx hl hv h12 h8
    · have k1 := sValidSamples_any xs ao len cap w true hx hlen hv
      unfold bestZ at hz
      rw [if_neg (fun h => by omega)] at hz
      subst hz
      have hd : decide (12 < (nl : Int)) = true := by simp; omega
      clear hx hl hv h12
      go_enter Try.func21, Try.ntmps21
      go_wp2_with fail
      refine k1.mono ?_
      rintro e w' ⟨rfl, rfl⟩
      clear k1
      go_wp2
      go_ret
      exact ⟨rfl, grown_refl _ _⟩

end Go.Proofs.Ytgiiaijlahjfnaa
