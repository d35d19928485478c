/-
  The best linear predictor of the program; both texts give the same, for all arguments.
-/
import Derived.Test.YtgiiaijlahjfnaaLbS
namespace Go.Proofs.Ytgiiaijlahjfnaa
open Go.RowKit

set_option maxRecDepth 100000 in
set_option maxHeartbeats 4000000 in
theorem iBest_inA (xs : List Int) (ls : List LinV) (len nl : Nat) (ao lo : Option Addr) (cap lcap : Nat) (w : World) (hx : Ints w ao len xs) (hlc : len ≤ cap) (hl : Lins w lo nl ls) (hlen : len ≤ 4611686018427387904) (hnl : nl ≤ 12) (h8 : 8 < len) :
    Calls Try.prog 49 #[.slice ao len cap, .slice lo nl lcap, .int .i64 8, .func (.func 50) #[] #[]] w fun e w' => e = .returned (.int .i64 (bestS xs ls nl).1) ∧ w.grownBy w' none := by
  have hxl := hx.1
  have HX := Lib.hid hx
  have HL := Lib.hid hl
  have hh8 : 8 < (len : Int) := by omega
  have hmf : ∀ (fn : Fn) (first cap : Array Value) (w : World), (Instr.makeFunc fn first cap).run Try.prog w = .ok (.func fn first cap) w := fun _ _ _ _ => rfl
  clear hx hl
  obtain ⟨t8, ht8⟩ : ∃ t8 : Nat, t8 = xs.length - 8 := ⟨_, rfl⟩
  go_enter Try.func49, Try.ntmps49
  go_wp2
  go_loopw [9, 10, 19] (fun av mv iv wr => ∃ (k : Nat) (a m : Int), av = .int .i64 a ∧ mv = .int .i64 m ∧ iv = .int .i64 k ∧ k ≤ nl ∧ Hid (bestS xs ls k = (a, m) ∧ w.grownBy wr none ∧ wr.cell? ⟨w.heap.size, 0, none⟩ = some (.func (.func 50) #[] #[]))) (fun _ _ iv _ => 100 - (intOf iv).toNat)
  case atStart => exact ⟨0, -1, 0, rfl, rfl, rfl, Nat.zero_le _, rfl, grown_alloc _ _ _, by rw [cell_of_row _ w.heap.size 0 _ _ _ (heap_alloc_new w _)]; rfl⟩
  case round =>
    obtain ⟨k, a, m, rfl, rfl, rfl, hk, HS⟩ := hrel
    by_cases hlt : k < nl
    · obtain ⟨l, hlk⟩ : ∃ l, ls[k]? = some l := ⟨_, List.getElem?_eq_getElem (by have := HL.out.1; omega)⟩
      obtain ⟨b, off, hab, hc⟩ := HL.out.2.resolve_left (by intro e; subst e; simp at hlk)
      obtain ⟨hq0, hq1, hly, hln⟩ := hc k l hlk
      have q0 := HS.out.2.1.cell hq0 (by simp)
      have q1 := HS.out.2.1.cell hq1 (by simp)
      have HY := Lib.hid (hly.grown HS.out.2.1)
      subst hab
      obtain ⟨ys, n, ok, hLR, hn64⟩ := LR_there xs l.cs l.sh
      have HLR := Lib.hid hLR
      have HK := Lib.hid hlk
      obtain ⟨lao, ln, lcap', lcs, lsh⟩ := l
      simp only at q0 q1 HY HLR hln
      have hA := heap_alloc_new wr (.cells #[.slice lao ln lcap', .int .i64 lsh] 25)
      have p0 := (two_cells hA).1
      have p1 := (two_cells hA).2
      clear hc hq0 hq1 hly hLR hlk hA
      go_wp2_with fail
      refine (iResOf_any lcs xs ln len n lsh ys ok lao ao lcap' cap _ ((HX.out.grown HS.out.2.1).grown (grown_alloc _ _ _)) hlc (HY.out.grown (grown_alloc _ _ _)) hlen hln HLR.out).mono ?_
      rintro e w2 ⟨v2, rfl, ho2, hg2⟩
      have HO := Lib.hid ho2
      have HG := Lib.hid (grown_trans (grown_trans HS.out.2.1 (grown_alloc wr (.cells #[.slice lao ln lcap', .int .i64 lsh] 25) none)) hg2)
      have hC := (grown_trans (grown_alloc wr (.cells #[.slice lao ln lcap', .int .i64 lsh] 25) none) hg2).cell HS.out.2.2 (by simp)
      have HC := Lib.hid hC
      have HB := Lib.hid HS.out.1
      clear ho2 hg2 q0 q1 p0 p1 HY HS hC
      cases ok with
      | false =>
        have HR : Hid (bestS xs ls (k + 1) = (a, m) ∧ w.grownBy w2 none ∧ w2.cell? ⟨w.heap.size, 0, none⟩ = some (.func (.func 50) #[] #[])) := ⟨by rw [bestS_skip HK.out HLR.out.1]; exact HB.out, HG.out, HC.out⟩
        clear HO HG HB HC
        go_wp2
        go_roundw
        case rel => exact ⟨k + 1, a, m, rfl, rfl, by go_num, by omega, HR⟩
        case measure => simp [intOf]; omega
      | true =>
        obtain ⟨hco, hya, htm, hm64, hyl⟩ := (cost_of (l := ⟨lao, ln, lcap', lcs, lsh⟩) HLR.out).out
        have hl64 : len ≤ 64 := by
          have hok := HLR.out.1
          unfold lrOk at hok
          simp only [Bool.and_eq_true, decide_eq_true_eq] at hok
          have := vS_len hok.1.1.1
          omega
        obtain ⟨z, hz⟩ : ∃ z, cost xs ⟨lao, ln, lcap', lcs, lsh⟩ = z := ⟨_, rfl⟩
        rw [hz] at hco
        obtain ⟨d, hd⟩ : ∃ d : Nat, d = n - t8 := ⟨_, rfl⟩
        have hdn : (n : Int) - ((len : Int) - 8) = (d : Int) := by omega
        have hd0 : (0 : Int) ≤ (d : Int) := by omega
        have hdle : (d : Int) ≤ (n : Int) := by omega
        obtain ⟨a4, c4, rfl, hmc, hsh, hti⟩ := tail_of HO.out d (by omega)
        have hdc : (d : Int) ≤ (c4 : Int) := by omega
        have hen : enS (ys.drop d) (n - d) = z := by rw [← hco, hd, ← ht8]; congr 1; omega
        have hya2 : allB (ys.drop d) (-4194303) 4194303 = true := by
          unfold allB at hya ⊢
          rw [List.all_eq_true] at hya ⊢
          exact fun y hy => hya y (List.mem_of_mem_drop hy)
        have HE := Lib.hid (And.intro hen hya2)
        have HTI := Lib.hid hti
        have HZ := Lib.hid hz
        have HTT := Lib.hid (And.intro hd ht8)
        have HYL := Lib.hid hyl
        have hn1 : 0 < n := by omega
        have hd64 : d ≤ n := by omega
        clear hco hya hen hya2 hti hz hd ht8 htm hyl hxl
        by_cases ha : a < 0
        · have HR : Hid (bestS xs ls (k + 1) = ((k : Int), z)) := by
            have e := bestS_take HK.out HLR.out.1 HB.out (Or.inl ha)
            rw [HZ.out] at e; exact e
          rcases hsh with ⟨rfl, rfl⟩ | ⟨g, rfl⟩
          · exfalso; omega
          · go_wp2_with fail
            all_goals
              refine (iEnergy_any (ys.drop d) (n - d) z w.heap.size _ _ _ (by first | exact HTI.out _ rfl | (have e := HYL.out; exact ⟨by simp; omega, Or.inl (List.eq_nil_of_length_eq_zero (by simp; omega))⟩)) HE.out.2 (by omega) HC.out HE.out.1).mono ?_
              rintro e w3 ⟨rfl, rfl⟩
              have HRR : Hid (bestS xs ls (k + 1) = ((k : Int), z) ∧ w.grownBy w2 none ∧ w2.cell? ⟨w.heap.size, 0, none⟩ = some (.func (.func 50) #[] #[])) := ⟨HR.out, HG.out, HC.out⟩
              clear HR HG HB HO HTI HE HLR HK HC
              go_wp2
              go_roundw
              case rel => exact ⟨k + 1, (k : Int), z, rfl, rfl, by go_num, by omega, HRR⟩
              case measure => simp [intOf]; omega
        · by_cases hzm : z < m
          · have HR : Hid (bestS xs ls (k + 1) = ((k : Int), z)) := by
              have e := bestS_take HK.out HLR.out.1 HB.out (Or.inr (by rw [HZ.out]; exact hzm))
              rw [HZ.out] at e; exact e
            rcases hsh with ⟨rfl, rfl⟩ | ⟨g, rfl⟩
            · exfalso; omega
            · go_wp2_with fail
              all_goals
                refine (iEnergy_any (ys.drop d) (n - d) z w.heap.size _ _ _ (by first | exact HTI.out _ rfl | (have e := HYL.out; exact ⟨by simp; omega, Or.inl (List.eq_nil_of_length_eq_zero (by simp; omega))⟩)) HE.out.2 (by omega) HC.out HE.out.1).mono ?_
                rintro e w3 ⟨rfl, rfl⟩
                have HRR : Hid (bestS xs ls (k + 1) = ((k : Int), z) ∧ w.grownBy w2 none ∧ w2.cell? ⟨w.heap.size, 0, none⟩ = some (.func (.func 50) #[] #[])) := ⟨HR.out, HG.out, HC.out⟩
                clear HR HG HB HO HTI HE HLR HK HC
                go_wp2
                go_roundw
                case rel => exact ⟨k + 1, (k : Int), z, rfl, rfl, by go_num, by omega, HRR⟩
                case measure => simp [intOf]; omega
          · have HR : Hid (bestS xs ls (k + 1) = (a, m)) := bestS_keep HK.out HB.out (by rw [HZ.out]; omega)
            rcases hsh with ⟨rfl, rfl⟩ | ⟨g, rfl⟩
            · exfalso; omega
            · go_wp2_with fail
              all_goals
                refine (iEnergy_any (ys.drop d) (n - d) z w.heap.size _ _ _ (by first | exact HTI.out _ rfl | (have e := HYL.out; exact ⟨by simp; omega, Or.inl (List.eq_nil_of_length_eq_zero (by simp; omega))⟩)) HE.out.2 (by omega) HC.out HE.out.1).mono ?_
                rintro e w3 ⟨rfl, rfl⟩
                have HRR : Hid (bestS xs ls (k + 1) = (a, m) ∧ w.grownBy w2 none ∧ w2.cell? ⟨w.heap.size, 0, none⟩ = some (.func (.func 50) #[] #[])) := ⟨HR.out, HG.out, HC.out⟩
                clear HR HG HB HO HTI HE HLR HK HC
                go_wp2
                go_roundw
                case rel => exact ⟨k + 1, a, m, rfl, rfl, by go_num, by omega, HRR⟩
                case measure => simp [intOf]; omega
    · obtain rfl : k = nl := by omega
      have HF : Hid ((bestS xs ls k).1 = a ∧ w.grownBy wr none) := ⟨by rw [HS.out.1], HS.out.2.1⟩
      go_wp2
      go_ret
      exact ⟨ret_int HF.out.1.symm, HF.out.2⟩

set_option maxRecDepth 100000 in
set_option maxHeartbeats 4000000 in
theorem iBest_inB (xs : List Int) (ls : List LinV) (len nl : Nat) (ao lo : Option Addr) (cap lcap : Nat) (w : World) (hx : Ints w ao len xs) (hlc : len ≤ cap) (hl : Lins w lo nl ls) (hlen : len ≤ 4611686018427387904) (hnl : nl ≤ 12) (h8 : ¬ 8 < len) :
    Calls Try.prog 49 #[.slice ao len cap, .slice lo nl lcap, .int .i64 8, .func (.func 50) #[] #[]] w fun e w' => e = .returned (.int .i64 (bestS xs ls nl).1) ∧ w.grownBy w' none := by
  have hxl := hx.1
  have HX := Lib.hid hx
  have HL := Lib.hid hl
  have hh8 : ¬ 8 < (len : Int) := by omega
  have hmf : ∀ (fn : Fn) (first cap : Array Value) (w : World), (Instr.makeFunc fn first cap).run Try.prog w = .ok (.func fn first cap) w := fun _ _ _ _ => rfl
  clear hx hl
  obtain ⟨t8, ht8⟩ : ∃ t8 : Nat, t8 = xs.length - 8 := ⟨_, rfl⟩
  go_enter Try.func49, Try.ntmps49
  go_wp2
  go_loopw [9, 10, 19] (fun av mv iv wr => ∃ (k : Nat) (a m : Int), av = .int .i64 a ∧ mv = .int .i64 m ∧ iv = .int .i64 k ∧ k ≤ nl ∧ Hid (bestS xs ls k = (a, m) ∧ w.grownBy wr none ∧ wr.cell? ⟨w.heap.size, 0, none⟩ = some (.func (.func 50) #[] #[]))) (fun _ _ iv _ => 100 - (intOf iv).toNat)
  case atStart => exact ⟨0, -1, 0, rfl, rfl, rfl, Nat.zero_le _, rfl, grown_alloc _ _ _, by rw [cell_of_row _ w.heap.size 0 _ _ _ (heap_alloc_new w _)]; rfl⟩
  case round =>
    obtain ⟨k, a, m, rfl, rfl, rfl, hk, HS⟩ := hrel
    by_cases hlt : k < nl
    · obtain ⟨l, hlk⟩ : ∃ l, ls[k]? = some l := ⟨_, List.getElem?_eq_getElem (by have := HL.out.1; omega)⟩
      obtain ⟨b, off, hab, hc⟩ := HL.out.2.resolve_left (by intro e; subst e; simp at hlk)
      obtain ⟨hq0, hq1, hly, hln⟩ := hc k l hlk
      have q0 := HS.out.2.1.cell hq0 (by simp)
      have q1 := HS.out.2.1.cell hq1 (by simp)
      have HY := Lib.hid (hly.grown HS.out.2.1)
      subst hab
      obtain ⟨ys, n, ok, hLR, hn64⟩ := LR_there xs l.cs l.sh
      have HLR := Lib.hid hLR
      have HK := Lib.hid hlk
      obtain ⟨lao, ln, lcap', lcs, lsh⟩ := l
      simp only at q0 q1 HY HLR hln
      have hA := heap_alloc_new wr (.cells #[.slice lao ln lcap', .int .i64 lsh] 25)
      have p0 := (two_cells hA).1
      have p1 := (two_cells hA).2
      clear hc hq0 hq1 hly hLR hlk hA
      go_wp2_with fail
      refine (iResOf_any lcs xs ln len n lsh ys ok lao ao lcap' cap _ ((HX.out.grown HS.out.2.1).grown (grown_alloc _ _ _)) hlc (HY.out.grown (grown_alloc _ _ _)) hlen hln HLR.out).mono ?_
      rintro e w2 ⟨v2, rfl, ho2, hg2⟩
      have HO := Lib.hid ho2
      have HG := Lib.hid (grown_trans (grown_trans HS.out.2.1 (grown_alloc wr (.cells #[.slice lao ln lcap', .int .i64 lsh] 25) none)) hg2)
      have hC := (grown_trans (grown_alloc wr (.cells #[.slice lao ln lcap', .int .i64 lsh] 25) none) hg2).cell HS.out.2.2 (by simp)
      have HC := Lib.hid hC
      have HB := Lib.hid HS.out.1
      clear ho2 hg2 q0 q1 p0 p1 HY HS hC
      cases ok with
      | false =>
        have HR : Hid (bestS xs ls (k + 1) = (a, m) ∧ w.grownBy w2 none ∧ w2.cell? ⟨w.heap.size, 0, none⟩ = some (.func (.func 50) #[] #[])) := ⟨by rw [bestS_skip HK.out HLR.out.1]; exact HB.out, HG.out, HC.out⟩
        clear HO HG HB HC
        go_wp2
        go_roundw
        case rel => exact ⟨k + 1, a, m, rfl, rfl, by go_num, by omega, HR⟩
        case measure => simp [intOf]; omega
      | true =>
        obtain ⟨hco, hya, htm, hm64, hyl⟩ := (cost_of (l := ⟨lao, ln, lcap', lcs, lsh⟩) HLR.out).out
        have hl64 : len ≤ 64 := by
          have hok := HLR.out.1
          unfold lrOk at hok
          simp only [Bool.and_eq_true, decide_eq_true_eq] at hok
          have := vS_len hok.1.1.1
          omega
        obtain ⟨z, hz⟩ : ∃ z, cost xs ⟨lao, ln, lcap', lcs, lsh⟩ = z := ⟨_, rfl⟩
        rw [hz] at hco
        obtain ⟨d, hd⟩ : ∃ d : Nat, d = n - t8 := ⟨_, rfl⟩
        have hdn : (n : Int) - 0 = (d : Int) := by omega
        have hd0 : (0 : Int) ≤ (d : Int) := by omega
        have hdle : (d : Int) ≤ (n : Int) := by omega
        obtain ⟨a4, c4, rfl, hmc, hsh, hti⟩ := tail_of HO.out d (by omega)
        have hdc : (d : Int) ≤ (c4 : Int) := by omega
        have hen : enS (ys.drop d) (n - d) = z := by rw [← hco, hd, ← ht8]; congr 1; omega
        have hya2 : allB (ys.drop d) (-4194303) 4194303 = true := by
          unfold allB at hya ⊢
          rw [List.all_eq_true] at hya ⊢
          exact fun y hy => hya y (List.mem_of_mem_drop hy)
        have HE := Lib.hid (And.intro hen hya2)
        have HTI := Lib.hid hti
        have HZ := Lib.hid hz
        have HTT := Lib.hid (And.intro hd ht8)
        have HYL := Lib.hid hyl
        have hd64 : d ≤ n := by omega
        clear hco hya hen hya2 hti hz hd ht8 htm hyl hxl
        by_cases ha : a < 0
        · have HR : Hid (bestS xs ls (k + 1) = ((k : Int), z)) := by
            have e := bestS_take HK.out HLR.out.1 HB.out (Or.inl ha)
            rw [HZ.out] at e; exact e
          rcases hsh with ⟨rfl, rfl⟩ | ⟨g, rfl⟩
          · have e0 : d = 0 := by omega
            have e1 : n = 0 := by omega
            subst e0
            subst e1
            clear hdn hd0 hdle hdc
            go_wp2_with fail
            all_goals
              refine (iEnergy_any (ys.drop 0) 0 z w.heap.size _ _ _ (by have e2 : ys = [] := List.eq_nil_of_length_eq_zero HYL.out; subst e2; exact ⟨rfl, Or.inl rfl⟩) HE.out.2 (by omega) HC.out HE.out.1).mono ?_
              rintro e w3 ⟨rfl, rfl⟩
              have HRR : Hid (bestS xs ls (k + 1) = ((k : Int), z) ∧ w.grownBy w2 none ∧ w2.cell? ⟨w.heap.size, 0, none⟩ = some (.func (.func 50) #[] #[])) := ⟨HR.out, HG.out, HC.out⟩
              clear HR HG HB HO HTI HE HLR HK HC
              go_wp2
              go_roundw
              case rel => exact ⟨k + 1, (k : Int), z, rfl, rfl, by go_num, by omega, HRR⟩
              case measure => simp [intOf]; omega
          · go_wp2_with fail
            all_goals
              refine (iEnergy_any (ys.drop d) (n - d) z w.heap.size _ _ _ (by first | exact HTI.out _ rfl | (have e := HYL.out; exact ⟨by simp; omega, Or.inl (List.eq_nil_of_length_eq_zero (by simp; omega))⟩)) HE.out.2 (by omega) HC.out HE.out.1).mono ?_
              rintro e w3 ⟨rfl, rfl⟩
              have HRR : Hid (bestS xs ls (k + 1) = ((k : Int), z) ∧ w.grownBy w2 none ∧ w2.cell? ⟨w.heap.size, 0, none⟩ = some (.func (.func 50) #[] #[])) := ⟨HR.out, HG.out, HC.out⟩
              clear HR HG HB HO HTI HE HLR HK HC
              go_wp2
              go_roundw
              case rel => exact ⟨k + 1, (k : Int), z, rfl, rfl, by go_num, by omega, HRR⟩
              case measure => simp [intOf]; omega
        · by_cases hzm : z < m
          · have HR : Hid (bestS xs ls (k + 1) = ((k : Int), z)) := by
              have e := bestS_take HK.out HLR.out.1 HB.out (Or.inr (by rw [HZ.out]; exact hzm))
              rw [HZ.out] at e; exact e
            rcases hsh with ⟨rfl, rfl⟩ | ⟨g, rfl⟩
            · have e0 : d = 0 := by omega
              have e1 : n = 0 := by omega
              subst e0
              subst e1
              clear hdn hd0 hdle hdc
              go_wp2_with fail
              all_goals
                refine (iEnergy_any (ys.drop 0) 0 z w.heap.size _ _ _ (by have e2 : ys = [] := List.eq_nil_of_length_eq_zero HYL.out; subst e2; exact ⟨rfl, Or.inl rfl⟩) HE.out.2 (by omega) HC.out HE.out.1).mono ?_
                rintro e w3 ⟨rfl, rfl⟩
                have HRR : Hid (bestS xs ls (k + 1) = ((k : Int), z) ∧ w.grownBy w2 none ∧ w2.cell? ⟨w.heap.size, 0, none⟩ = some (.func (.func 50) #[] #[])) := ⟨HR.out, HG.out, HC.out⟩
                clear HR HG HB HO HTI HE HLR HK HC
                go_wp2
                go_roundw
                case rel => exact ⟨k + 1, (k : Int), z, rfl, rfl, by go_num, by omega, HRR⟩
                case measure => simp [intOf]; omega
            · go_wp2_with fail
              all_goals
                refine (iEnergy_any (ys.drop d) (n - d) z w.heap.size _ _ _ (by first | exact HTI.out _ rfl | (have e := HYL.out; exact ⟨by simp; omega, Or.inl (List.eq_nil_of_length_eq_zero (by simp; omega))⟩)) HE.out.2 (by omega) HC.out HE.out.1).mono ?_
                rintro e w3 ⟨rfl, rfl⟩
                have HRR : Hid (bestS xs ls (k + 1) = ((k : Int), z) ∧ w.grownBy w2 none ∧ w2.cell? ⟨w.heap.size, 0, none⟩ = some (.func (.func 50) #[] #[])) := ⟨HR.out, HG.out, HC.out⟩
                clear HR HG HB HO HTI HE HLR HK HC
                go_wp2
                go_roundw
                case rel => exact ⟨k + 1, (k : Int), z, rfl, rfl, by go_num, by omega, HRR⟩
                case measure => simp [intOf]; omega
          · have HR : Hid (bestS xs ls (k + 1) = (a, m)) := bestS_keep HK.out HB.out (by rw [HZ.out]; omega)
            rcases hsh with ⟨rfl, rfl⟩ | ⟨g, rfl⟩
            · have e0 : d = 0 := by omega
              have e1 : n = 0 := by omega
              subst e0
              subst e1
              clear hdn hd0 hdle hdc
              go_wp2_with fail
              all_goals
                refine (iEnergy_any (ys.drop 0) 0 z w.heap.size _ _ _ (by have e2 : ys = [] := List.eq_nil_of_length_eq_zero HYL.out; subst e2; exact ⟨rfl, Or.inl rfl⟩) HE.out.2 (by omega) HC.out HE.out.1).mono ?_
                rintro e w3 ⟨rfl, rfl⟩
                have HRR : Hid (bestS xs ls (k + 1) = (a, m) ∧ w.grownBy w2 none ∧ w2.cell? ⟨w.heap.size, 0, none⟩ = some (.func (.func 50) #[] #[])) := ⟨HR.out, HG.out, HC.out⟩
                clear HR HG HB HO HTI HE HLR HK HC
                go_wp2
                go_roundw
                case rel => exact ⟨k + 1, a, m, rfl, rfl, by go_num, by omega, HRR⟩
                case measure => simp [intOf]; omega
            · go_wp2_with fail
              all_goals
                refine (iEnergy_any (ys.drop d) (n - d) z w.heap.size _ _ _ (by first | exact HTI.out _ rfl | (have e := HYL.out; exact ⟨by simp; omega, Or.inl (List.eq_nil_of_length_eq_zero (by simp; omega))⟩)) HE.out.2 (by omega) HC.out HE.out.1).mono ?_
                rintro e w3 ⟨rfl, rfl⟩
                have HRR : Hid (bestS xs ls (k + 1) = (a, m) ∧ w.grownBy w2 none ∧ w2.cell? ⟨w.heap.size, 0, none⟩ = some (.func (.func 50) #[] #[])) := ⟨HR.out, HG.out, HC.out⟩
                clear HR HG HB HO HTI HE HLR HK HC
                go_wp2
                go_roundw
                case rel => exact ⟨k + 1, a, m, rfl, rfl, by go_num, by omega, HRR⟩
                case measure => simp [intOf]; omega
    · obtain rfl : k = nl := by omega
      have HF : Hid ((bestS xs ls k).1 = a ∧ w.grownBy wr none) := ⟨by rw [HS.out.1], HS.out.2.1⟩
      go_wp2
      go_ret
      exact ⟨ret_int HF.out.1.symm, HF.out.2⟩

set_option maxHeartbeats 1000000 in
theorem iBest_any (xs : List Int) (ls : List LinV) (len nl : Nat) (z : Int) (ao lo : Option Addr) (cap lcap : Nat) (w : World) (hx : Ints w ao len xs) (hlc : len ≤ cap) (hl : Lins w lo nl ls) (hlen : len ≤ 4611686018427387904) (hnl : nl ≤ 4611686018427387904) (hz : bestZ xs ls = z) :
    Calls Try.prog 20 #[.slice ao len cap, .slice lo nl lcap] w fun e w' => e = .returned (.int .i64 z) ∧ w.grownBy w' none := by
  have hll := hl.1
  by_cases h12 : nl ≤ 12
  · have hzz : (bestS xs ls nl).1 = z := by
      unfold bestZ at hz
      rw [← hz]
      cases hv : vS xs with
      | false => rw [bestS_no hv, if_neg (fun h => by cases h.1)]
      | true => rw [if_pos ⟨rfl, by omega⟩, hll]
    have k1 : Calls Try.prog 49 #[.slice ao len cap, .slice lo nl lcap, .int .i64 8, .func (.func 50) #[] #[]] w fun e w' => e = .returned (.int .i64 (bestS xs ls nl).1) ∧ w.grownBy w' none := by
      by_cases h8 : 8 < len
      · exact iBest_inA xs ls len nl ao lo cap lcap w hx hlc hl hlen h12 h8
      · exact iBest_inB xs ls len nl ao lo cap lcap w hx hlc hl hlen h12 h8
    rw [hzz] at k1
    have hd : decide (12 < (nl : Int)) = false := by simp; omega
    clear hx hl hz hzz
    go_enter Try.func20, Try.ntmps20
    go_wp2_with fail
    refine k1.mono ?_
    rintro e w' ⟨rfl, hg⟩
    have HG := Lib.hid hg
    clear k1 hg
    go_wp2
    go_ret
    exact ⟨rfl, HG.out⟩
  · unfold bestZ at hz
    rw [if_neg (fun h => by omega)] at hz
    subst hz
    have hd : decide (12 < (nl : Int)) = true := by simp; omega
    clear hx hl h12
    go_enter Try.func20, Try.ntmps20
    go_wp2
    go_ret
    exact ⟨rfl, grown_refl _ _⟩

end Go.Proofs.Ytgiiaijlahjfnaa
