/-
  The mode whose lists change least, by the program. For all arguments.
-/
import Derived.Test.YtbjkclbgocpbkaaBs2
namespace Go.Proofs.Ytbjkclbgocpbkaa
open Go.RowKit

set_option maxRecDepth 100000 in
set_option maxHeartbeats 2000000 in
theorem iBM0 (xs ys : List Int) (n : Nat) (ao bo : Option Addr) (cap cap' M L R : Nat) (w : World) (hx : Ints w ao n xs) (hy : Ints w bo n ys) (hv : vP xs ys 32767 = true)
    (hM : w.cell? ⟨M, 0, none⟩ = some (.func (.func 64) #[] #[])) (hL : w.cell? ⟨L, 0, none⟩ = some (.slice ao n cap)) (hR : w.cell? ⟨R, 0, none⟩ = some (.slice bo n cap')) :
    Calls Try.prog 61 #[.int .i64 0, .pointer (some ⟨M, 0, none⟩), .pointer (some ⟨L, 0, none⟩), .pointer (some ⟨R, 0, none⟩)] w fun e w' => e = .returned (.tuple #[.int .i64 (cost xs ys 0), .bool true]) ∧ w.grownBy w' none := by
  have hn64 : n ≤ 64 := by rw [← hx.1]; exact (vP_of hv).2.1
  have HX := Lib.hid hx
  have HY := Lib.hid hy
  have HV := Lib.hid hv
  have ra := st_range (m := 0) hv
  have r1 := chg_range ra.1 (by have := (vP_of hv).2.1; simp; omega)
  have r2 := chg_range ra.2 (by have := (vP_of hv).2.1; simp; omega)
  have hl := (vP_of hv).1
  have HRA := Lib.hid ra
  have ec : cost xs ys 0 = chg (List.zipWith (stA 0) xs ys) + chg (List.zipWith (stB 0) xs ys) := rfl
  obtain ⟨u, hu⟩ : ∃ u, chg (List.zipWith (stA 0) xs ys) = u := ⟨_, rfl⟩
  obtain ⟨v, hvv⟩ : ∃ v, chg (List.zipWith (stB 0) xs ys) = v := ⟨_, rfl⟩
  rw [ec, hu, hvv]
  rw [hu] at r1
  rw [hvv] at r2
  have u0 := r1.1
  have u1 := r1.2
  have v0 := r2.1
  have v1 := r2.2
  have HU := Lib.hid (And.intro hu hvv)
  have hw : IntKind.i64.wrap (u + v) = u + v := IntWalk.i64_in _ (by omega)
  clear hx hy hv ra r1 r2 ec hu hvv hl
  go_enter Try.func61, Try.ntmps61
  go_wp2
  go_region_with ((go_at_call 46; refine (iAll1 xs ys n ao bo cap cap' _ (HX.out.grown (grown_drew _ _)) (HY.out.grown (grown_drew _ _)) (vP_wide HV.out)).mono ?_; rintro e w1 ⟨a, b, rfl, ht⟩; obtain ⟨p1, q1, rfl, hlc1, _, hx1, _⟩ := ht.o1.reads; obtain ⟨s1, t1, rfl, hlc2, _, hy1, _⟩ := ht.o2.reads; have HG := Lib.hid (grown_trans (grown_drew w none) ht.g); have HA := Lib.hid hx1; have HB := Lib.hid hy1; clear ht hx1 hy1))
  all_goals
    clear hM hL hR
    go_wp2_with fail
    have k1 := iChg_any (List.zipWith (stA 0) xs ys) p1 n q1 w1 HA.out hlc1 hn64 HRA.out.1
    rw [HU.out.1] at k1
    refine k1.mono ?_
    rintro e w2 ⟨rfl, hg2⟩
    have HG2 := Lib.hid (grown_trans HG.out hg2)
    have HB2 := Lib.hid (HB.out.grown hg2)
    clear k1 hg2 HA HB HG
    go_wp2_with fail
    have k2 := iChg_any (List.zipWith (stB 0) xs ys) s1 n t1 w2 HB2.out hlc2 hn64 HRA.out.2
    rw [HU.out.2] at k2
    refine k2.mono ?_
    rintro e w3 ⟨rfl, hg3⟩
    have HG3 := Lib.hid (grown_trans HG2.out hg3)
    clear k2 hg3 HB2 HG2
    go_wp2
    go_ret2
    exact ⟨rfl, HG3.out⟩

set_option maxRecDepth 100000 in
set_option maxHeartbeats 2000000 in
theorem iBM1 (xs ys : List Int) (n : Nat) (ao bo : Option Addr) (cap cap' M L R : Nat) (w : World) (hx : Ints w ao n xs) (hy : Ints w bo n ys) (hv : vP xs ys 32767 = true)
    (hM : w.cell? ⟨M, 2, none⟩ = some (.func (.func 65) #[] #[])) (hL : w.cell? ⟨L, 0, none⟩ = some (.slice ao n cap)) (hR : w.cell? ⟨R, 0, none⟩ = some (.slice bo n cap')) :
    Calls Try.prog 61 #[.int .i64 1, .pointer (some ⟨M, 0, none⟩), .pointer (some ⟨L, 0, none⟩), .pointer (some ⟨R, 0, none⟩)] w fun e w' => e = .returned (.tuple #[.int .i64 (cost xs ys 1), .bool true]) ∧ w.grownBy w' none := by
  have hn64 : n ≤ 64 := by rw [← hx.1]; exact (vP_of hv).2.1
  have HX := Lib.hid hx
  have HY := Lib.hid hy
  have HV := Lib.hid hv
  have ra := st_range (m := 1) hv
  have r1 := chg_range ra.1 (by have := (vP_of hv).2.1; simp; omega)
  have r2 := chg_range ra.2 (by have := (vP_of hv).2.1; simp; omega)
  have hl := (vP_of hv).1
  have HRA := Lib.hid ra
  have ec : cost xs ys 1 = chg (List.zipWith (stA 1) xs ys) + chg (List.zipWith (stB 1) xs ys) := rfl
  obtain ⟨u, hu⟩ : ∃ u, chg (List.zipWith (stA 1) xs ys) = u := ⟨_, rfl⟩
  obtain ⟨v, hvv⟩ : ∃ v, chg (List.zipWith (stB 1) xs ys) = v := ⟨_, rfl⟩
  rw [ec, hu, hvv]
  rw [hu] at r1
  rw [hvv] at r2
  have u0 := r1.1
  have u1 := r1.2
  have v0 := r2.1
  have v1 := r2.2
  have HU := Lib.hid (And.intro hu hvv)
  have hw : IntKind.i64.wrap (u + v) = u + v := IntWalk.i64_in _ (by omega)
  clear hx hy hv ra r1 r2 ec hu hvv hl
  go_enter Try.func61, Try.ntmps61
  go_wp2
  go_region_with ((go_at_call 46; refine (iAll2 xs ys n ao bo cap cap' _ (HX.out.grown (grown_drew _ _)) (HY.out.grown (grown_drew _ _)) (vP_wide HV.out)).mono ?_; rintro e w1 ⟨a, b, rfl, ht⟩; obtain ⟨p1, q1, rfl, hlc1, _, hx1, _⟩ := ht.o1.reads; obtain ⟨s1, t1, rfl, hlc2, _, hy1, _⟩ := ht.o2.reads; have HG := Lib.hid (grown_trans (grown_drew w none) ht.g); have HA := Lib.hid hx1; have HB := Lib.hid hy1; clear ht hx1 hy1))
  all_goals
    clear hM hL hR
    go_wp2_with fail
    have k1 := iChg_any (List.zipWith (stA 1) xs ys) p1 n q1 w1 HA.out hlc1 hn64 HRA.out.1
    rw [HU.out.1] at k1
    refine k1.mono ?_
    rintro e w2 ⟨rfl, hg2⟩
    have HG2 := Lib.hid (grown_trans HG.out hg2)
    have HB2 := Lib.hid (HB.out.grown hg2)
    clear k1 hg2 HA HB HG
    go_wp2_with fail
    have k2 := iChg_any (List.zipWith (stB 1) xs ys) s1 n t1 w2 HB2.out hlc2 hn64 HRA.out.2
    rw [HU.out.2] at k2
    refine k2.mono ?_
    rintro e w3 ⟨rfl, hg3⟩
    have HG3 := Lib.hid (grown_trans HG2.out hg3)
    clear k2 hg3 HB2 HG2
    go_wp2
    go_ret2
    exact ⟨rfl, HG3.out⟩

set_option maxRecDepth 100000 in
set_option maxHeartbeats 2000000 in
theorem iBM2 (xs ys : List Int) (n : Nat) (ao bo : Option Addr) (cap cap' M L R : Nat) (w : World) (hx : Ints w ao n xs) (hy : Ints w bo n ys) (hv : vP xs ys 32767 = true)
    (hM : w.cell? ⟨M, 4, none⟩ = some (.func (.func 67) #[] #[])) (hL : w.cell? ⟨L, 0, none⟩ = some (.slice ao n cap)) (hR : w.cell? ⟨R, 0, none⟩ = some (.slice bo n cap')) :
    Calls Try.prog 61 #[.int .i64 2, .pointer (some ⟨M, 0, none⟩), .pointer (some ⟨L, 0, none⟩), .pointer (some ⟨R, 0, none⟩)] w fun e w' => e = .returned (.tuple #[.int .i64 (cost xs ys 2), .bool true]) ∧ w.grownBy w' none := by
  have hn64 : n ≤ 64 := by rw [← hx.1]; exact (vP_of hv).2.1
  have HX := Lib.hid hx
  have HY := Lib.hid hy
  have HV := Lib.hid hv
  have ra := st_range (m := 2) hv
  have r1 := chg_range ra.1 (by have := (vP_of hv).2.1; simp; omega)
  have r2 := chg_range ra.2 (by have := (vP_of hv).2.1; simp; omega)
  have hl := (vP_of hv).1
  have HRA := Lib.hid ra
  have ec : cost xs ys 2 = chg (List.zipWith (stA 2) xs ys) + chg (List.zipWith (stB 2) xs ys) := rfl
  obtain ⟨u, hu⟩ : ∃ u, chg (List.zipWith (stA 2) xs ys) = u := ⟨_, rfl⟩
  obtain ⟨v, hvv⟩ : ∃ v, chg (List.zipWith (stB 2) xs ys) = v := ⟨_, rfl⟩
  rw [ec, hu, hvv]
  rw [hu] at r1
  rw [hvv] at r2
  have u0 := r1.1
  have u1 := r1.2
  have v0 := r2.1
  have v1 := r2.2
  have HU := Lib.hid (And.intro hu hvv)
  have hw : IntKind.i64.wrap (u + v) = u + v := IntWalk.i64_in _ (by omega)
  clear hx hy hv ra r1 r2 ec hu hvv hl
  go_enter Try.func61, Try.ntmps61
  go_wp2
  go_region_with ((go_at_call 46; refine (iAll4 xs ys n ao bo cap cap' _ (HX.out.grown (grown_drew _ _)) (HY.out.grown (grown_drew _ _)) (vP_wide HV.out)).mono ?_; rintro e w1 ⟨a, b, rfl, ht⟩; obtain ⟨p1, q1, rfl, hlc1, _, hx1, _⟩ := ht.o1.reads; obtain ⟨s1, t1, rfl, hlc2, _, hy1, _⟩ := ht.o2.reads; have HG := Lib.hid (grown_trans (grown_drew w none) ht.g); have HA := Lib.hid hx1; have HB := Lib.hid hy1; clear ht hx1 hy1))
  all_goals
    clear hM hL hR
    go_wp2_with fail
    have k1 := iChg_any (List.zipWith (stA 2) xs ys) p1 n q1 w1 HA.out hlc1 hn64 HRA.out.1
    rw [HU.out.1] at k1
    refine k1.mono ?_
    rintro e w2 ⟨rfl, hg2⟩
    have HG2 := Lib.hid (grown_trans HG.out hg2)
    have HB2 := Lib.hid (HB.out.grown hg2)
    clear k1 hg2 HA HB HG
    go_wp2_with fail
    have k2 := iChg_any (List.zipWith (stB 2) xs ys) s1 n t1 w2 HB2.out hlc2 hn64 HRA.out.2
    rw [HU.out.2] at k2
    refine k2.mono ?_
    rintro e w3 ⟨rfl, hg3⟩
    have HG3 := Lib.hid (grown_trans HG2.out hg3)
    clear k2 hg3 HB2 HG2
    go_wp2
    go_ret2
    exact ⟨rfl, HG3.out⟩

set_option maxRecDepth 100000 in
set_option maxHeartbeats 2000000 in
theorem iBM3 (xs ys : List Int) (n : Nat) (ao bo : Option Addr) (cap cap' M L R : Nat) (w : World) (hx : Ints w ao n xs) (hy : Ints w bo n ys) (hv : vP xs ys 32767 = true)
    (hM : w.cell? ⟨M, 6, none⟩ = some (.func (.func 69) #[] #[])) (hL : w.cell? ⟨L, 0, none⟩ = some (.slice ao n cap)) (hR : w.cell? ⟨R, 0, none⟩ = some (.slice bo n cap')) :
    Calls Try.prog 61 #[.int .i64 3, .pointer (some ⟨M, 0, none⟩), .pointer (some ⟨L, 0, none⟩), .pointer (some ⟨R, 0, none⟩)] w fun e w' => e = .returned (.tuple #[.int .i64 (cost xs ys 3), .bool true]) ∧ w.grownBy w' none := by
  have hn64 : n ≤ 64 := by rw [← hx.1]; exact (vP_of hv).2.1
  have HX := Lib.hid hx
  have HY := Lib.hid hy
  have HV := Lib.hid hv
  have ra := st_range (m := 3) hv
  have r1 := chg_range ra.1 (by have := (vP_of hv).2.1; simp; omega)
  have r2 := chg_range ra.2 (by have := (vP_of hv).2.1; simp; omega)
  have hl := (vP_of hv).1
  have HRA := Lib.hid ra
  have ec : cost xs ys 3 = chg (List.zipWith (stA 3) xs ys) + chg (List.zipWith (stB 3) xs ys) := rfl
  obtain ⟨u, hu⟩ : ∃ u, chg (List.zipWith (stA 3) xs ys) = u := ⟨_, rfl⟩
  obtain ⟨v, hvv⟩ : ∃ v, chg (List.zipWith (stB 3) xs ys) = v := ⟨_, rfl⟩
  rw [ec, hu, hvv]
  rw [hu] at r1
  rw [hvv] at r2
  have u0 := r1.1
  have u1 := r1.2
  have v0 := r2.1
  have v1 := r2.2
  have HU := Lib.hid (And.intro hu hvv)
  have hw : IntKind.i64.wrap (u + v) = u + v := IntWalk.i64_in _ (by omega)
  clear hx hy hv ra r1 r2 ec hu hvv hl
  go_enter Try.func61, Try.ntmps61
  go_wp2
  go_region_with ((go_at_call 46; refine (iAll6 xs ys n ao bo cap cap' _ (HX.out.grown (grown_drew _ _)) (HY.out.grown (grown_drew _ _)) (vP_wide HV.out)).mono ?_; rintro e w1 ⟨a, b, rfl, ht⟩; obtain ⟨p1, q1, rfl, hlc1, _, hx1, _⟩ := ht.o1.reads; obtain ⟨s1, t1, rfl, hlc2, _, hy1, _⟩ := ht.o2.reads; have HG := Lib.hid (grown_trans (grown_drew w none) ht.g); have HA := Lib.hid hx1; have HB := Lib.hid hy1; clear ht hx1 hy1))
  all_goals
    clear hM hL hR
    go_wp2_with fail
    have k1 := iChg_any (List.zipWith (stA 3) xs ys) p1 n q1 w1 HA.out hlc1 hn64 HRA.out.1
    rw [HU.out.1] at k1
    refine k1.mono ?_
    rintro e w2 ⟨rfl, hg2⟩
    have HG2 := Lib.hid (grown_trans HG.out hg2)
    have HB2 := Lib.hid (HB.out.grown hg2)
    clear k1 hg2 HA HB HG
    go_wp2_with fail
    have k2 := iChg_any (List.zipWith (stB 3) xs ys) s1 n t1 w2 HB2.out hlc2 hn64 HRA.out.2
    rw [HU.out.2] at k2
    refine k2.mono ?_
    rintro e w3 ⟨rfl, hg3⟩
    have HG3 := Lib.hid (grown_trans HG2.out hg3)
    clear k2 hg3 HB2 HG2
    go_wp2
    go_ret2
    exact ⟨rfl, HG3.out⟩

set_option maxRecDepth 100000 in
set_option maxHeartbeats 2000000 in
theorem iCheap_any (xs ys : List Int) (M L R : Nat) (w : World) (hv : vP xs ys 32767 = true)
    (KC : Hid (∀ (k : Nat) (W : World), k ≤ 3 → w.grownBy W none → Calls Try.prog 61 #[.int .i64 (k : Int), .pointer (some ⟨M, 0, none⟩), .pointer (some ⟨L, 0, none⟩), .pointer (some ⟨R, 0, none⟩)] W fun e w' => e = .returned (.tuple #[.int .i64 (cost xs ys k), .bool true]) ∧ W.grownBy w' none)) :
    Calls Try.prog 60 #[.int .i64 4, .func (.func 61) #[] #[.pointer (some ⟨M, 0, none⟩), .pointer (some ⟨L, 0, none⟩), .pointer (some ⟨R, 0, none⟩)]] w fun e w' => (∃ z, e = .returned (.tuple #[.int .i64 (bst xs ys 3 : Int), .int .i64 z])) ∧ w.grownBy w' none := by
  have HV := Lib.hid hv
  clear hv
  go_enter Try.func60, Try.ntmps60
  go_wp2
  go_loopw [6, 7, 12] (fun bv lv iv wr => ∃ (k : Nat) (b l : Int), k ≤ 4 ∧ iv = .int .i64 k ∧ bv = .int .i64 b ∧ lv = .int .i64 l ∧ Hid (w.grownBy wr none) ∧ Hid ((k = 0 ∧ b = -1 ∧ l = -1) ∨ (1 ≤ k ∧ b = (bst xs ys (k - 1) : Int) ∧ l = cost xs ys (bst xs ys (k - 1))))) (fun _ _ iv _ => 4 - (intOf iv).toNat)
  case atStart => exact ⟨0, -1, -1, by omega, rfl, rfl, rfl, grown_refl _ _, Or.inl ⟨rfl, rfl, rfl⟩⟩
  case round =>
    obtain ⟨k, b, l, hk, rfl, rfl, rfl, HG, hb⟩ := hrel
    by_cases hlt : k < 4
    · obtain ⟨z, hz⟩ : ∃ z, cost xs ys k = z := ⟨_, rfl⟩
      have K1 := Lib.hid (KC.out k wr (by omega) HG.out)
      rw [hz] at K1
      by_cases h0 : k = 0
      · subst h0
        obtain ⟨rfl, rfl⟩ : b = -1 ∧ l = -1 := by rcases hb.out with ⟨_, h1, h2⟩ | ⟨h1, _⟩; exact ⟨h1, h2⟩; omega
        have HZ : Hid ((0 + 1 = 0 ∧ (0 : Int) = -1 ∧ z = -1) ∨ (1 ≤ 0 + 1 ∧ (0 : Int) = (bst xs ys (0 + 1 - 1) : Int) ∧ z = cost xs ys (bst xs ys (0 + 1 - 1)))) := Or.inr ⟨by omega, rfl, hz.symm⟩
        clear hb hz
        go_wp2_with fail
        refine K1.out.mono ?_
        rintro e w1 ⟨rfl, hg1⟩
        have HG1 := Lib.hid (grown_trans HG.out hg1)
        clear K1 hg1 HG
        go_wp2
        go_roundw
        case rel => exact ⟨0 + 1, 0, z, by omega, by go_num, rfl, rfl, HG1, HZ⟩
        case measure => simp [intOf]
      · have hb2 : 1 ≤ k ∧ b = (bst xs ys (k - 1) : Int) ∧ l = cost xs ys (bst xs ys (k - 1)) := by rcases hb.out with ⟨h1, _⟩ | h; exact absurd h1 h0; exact h
        obtain ⟨hk1, hb3, hl3⟩ := hb2
        have hb0 : decide (b < 0) = false := by simp; omega
        obtain ⟨j, hj⟩ : ∃ j, k = j + 1 := ⟨k - 1, by omega⟩
        have hbst : bst xs ys k = if z < l then k else bst xs ys (k - 1) := by
          rw [hl3, ← hz, hj]; simp only [bst, Nat.add_sub_cancel]
        by_cases hlz : z < l
        · have hd : decide (z < l) = true := by simpa using hlz
          have HZ : Hid ((k + 1 = 0 ∧ (k : Int) = -1 ∧ z = -1) ∨ (1 ≤ k + 1 ∧ (k : Int) = (bst xs ys (k + 1 - 1) : Int) ∧ z = cost xs ys (bst xs ys (k + 1 - 1)))) := by
            refine Or.inr ⟨by omega, ?_, ?_⟩
            · rw [Nat.add_sub_cancel, hbst, if_pos hlz]
            · rw [Nat.add_sub_cancel, hbst, if_pos hlz, hz]
          clear hb hz hb3 hl3 hj hbst
          go_wp2_with fail
          refine K1.out.mono ?_
          rintro e w1 ⟨rfl, hg1⟩
          have HG1 := Lib.hid (grown_trans HG.out hg1)
          clear K1 hg1 HG
          go_wp2
          go_roundw
          case rel => exact ⟨k + 1, k, z, by omega, by go_num, rfl, rfl, HG1, HZ⟩
          case measure => simp [intOf]; omega
        · have hd : decide (z < l) = false := by simpa using hlz
          have HZ : Hid ((k + 1 = 0 ∧ b = -1 ∧ l = -1) ∨ (1 ≤ k + 1 ∧ b = (bst xs ys (k + 1 - 1) : Int) ∧ l = cost xs ys (bst xs ys (k + 1 - 1)))) := by
            refine Or.inr ⟨by omega, ?_, ?_⟩
            · rw [Nat.add_sub_cancel, hbst, if_neg hlz]; exact hb3
            · rw [Nat.add_sub_cancel, hbst, if_neg hlz]; exact hl3
          clear hb hz hb3 hl3 hj hbst
          go_wp2_with fail
          refine K1.out.mono ?_
          rintro e w1 ⟨rfl, hg1⟩
          have HG1 := Lib.hid (grown_trans HG.out hg1)
          clear K1 hg1 HG
          go_wp2
          go_roundw
          case rel => exact ⟨k + 1, b, l, by omega, by go_num, rfl, rfl, HG1, HZ⟩
          case measure => simp [intOf]; omega
    · obtain rfl : k = 4 := by omega
      have HF : Hid (b = (bst xs ys 3 : Int)) := by rcases hb.out with ⟨h, _⟩ | ⟨_, h, _⟩; cases h; exact h
      clear hb
      go_wp2
      go_ret2
      exact ⟨⟨l, by rw [← HF.out]; rfl⟩, HG.out⟩

set_option maxRecDepth 100000 in
set_option maxHeartbeats 2000000 in
theorem iBestM_any (xs ys : List Int) (n : Nat) (ao bo : Option Addr) (cap cap' : Nat) (w : World) (hx : Ints w ao n xs) (hy : Ints w bo n ys) (hv : vP xs ys 32767 = true) :
    Calls Try.prog 50 #[.slice ao n cap, .slice bo n cap'] w fun e w' => e = .returned (.int .i64 (bst xs ys 3 : Int)) ∧ w.grownBy w' none := by
  have HX := Lib.hid hx
  have HY := Lib.hid hy
  have HV := Lib.hid hv
  clear hx hy hv
  go_enter Try.func50, Try.ntmps50
  go_wp2_with fail
  refine (iModes_any _).mono ?_
  rintro e w1 ⟨rfl, hg⟩
  have hA := grown_heap hg (heap_alloc2_old w (.cells #[.slice ao n cap] 23) (.cells #[.slice bo n cap'] 23)) (by simp)
  have hB := grown_heap hg (heap_alloc2_new w (.cells #[.slice ao n cap] 23) (.cells #[.slice bo n cap'] 23)) (by simp)
  have hC := heap_alloc_new w1 (.cells #[(.func (.func 64) #[] #[]), (.func (.func 64) #[] #[]), (.func (.func 65) #[] #[]), (.func (.func 66) #[] #[]), (.func (.func 67) #[] #[]), (.func (.func 68) #[] #[]), (.func (.func 69) #[] #[]), (.func (.func 70) #[] #[])] 59)
  have hG := grown_alloc w1 (.cells #[(.func (.func 64) #[] #[]), (.func (.func 64) #[] #[]), (.func (.func 65) #[] #[]), (.func (.func 66) #[] #[]), (.func (.func 67) #[] #[]), (.func (.func 68) #[] #[]), (.func (.func 69) #[] #[]), (.func (.func 70) #[] #[])] 59) none
  have HM : Hid (∀ W, (w1.alloc (.cells #[(.func (.func 64) #[] #[]), (.func (.func 64) #[] #[]), (.func (.func 65) #[] #[]), (.func (.func 66) #[] #[]), (.func (.func 67) #[] #[]), (.func (.func 68) #[] #[]), (.func (.func 69) #[] #[]), (.func (.func 70) #[] #[])] 59)).grownBy W none → w.grownBy W none ∧ W.heap[w.heap.size]? = some (.cells #[.slice ao n cap] 23 (0, 0)) ∧ W.heap[w.heap.size + 1]? = some (.cells #[.slice bo n cap'] 23 (0, 0)) ∧ W.heap[w1.heap.size]? = some (.cells #[(.func (.func 64) #[] #[]), (.func (.func 64) #[] #[]), (.func (.func 65) #[] #[]), (.func (.func 66) #[] #[]), (.func (.func 67) #[] #[]), (.func (.func 68) #[] #[]), (.func (.func 69) #[] #[]), (.func (.func 70) #[] #[])] 59 (0, 0))) := fun W hW =>
    ⟨grown_trans (grown_trans (grown_trans (grown_alloc w (.cells #[.slice ao n cap] 23) none) (grown_alloc _ (.cells #[.slice bo n cap'] 23) none)) (grown_trans hg hG)) hW, grown_heap hW (grown_heap hG hA (by simp)) (by simp), grown_heap hW (grown_heap hG hB (by simp)) (by simp), grown_heap hW hC (by simp)⟩
  have KC : Hid (∀ (k : Nat) (W : World), k ≤ 3 → (w1.alloc (.cells #[(.func (.func 64) #[] #[]), (.func (.func 64) #[] #[]), (.func (.func 65) #[] #[]), (.func (.func 66) #[] #[]), (.func (.func 67) #[] #[]), (.func (.func 68) #[] #[]), (.func (.func 69) #[] #[]), (.func (.func 70) #[] #[])] 59)).grownBy W none → Calls Try.prog 61 #[.int .i64 (k : Int), .pointer (some ⟨w1.heap.size, 0, none⟩), .pointer (some ⟨w.heap.size, 0, none⟩), .pointer (some ⟨w.heap.size + 1, 0, none⟩)] W fun e w' => e = .returned (.tuple #[.int .i64 (cost xs ys k), .bool true]) ∧ W.grownBy w' none) := by
    intro k W hk hW
    obtain ⟨g, q1, q2, q3⟩ := HM.out W hW
    have hL : W.cell? ⟨w.heap.size, 0, none⟩ = some (.slice ao n cap) := by rw [cell_of_row _ _ 0 _ _ _ q1]; rfl
    have hR : W.cell? ⟨w.heap.size + 1, 0, none⟩ = some (.slice bo n cap') := by rw [cell_of_row _ _ 0 _ _ _ q2]; rfl
    obtain rfl | rfl | rfl | rfl := mode_four hk
    · exact iBM0 xs ys n ao bo cap cap' _ _ _ W (HX.out.grown g) (HY.out.grown g) HV.out (by rw [cell_of_row _ _ 0 _ _ _ q3]; rfl) hL hR
    · exact iBM1 xs ys n ao bo cap cap' _ _ _ W (HX.out.grown g) (HY.out.grown g) HV.out (by rw [cell_of_row _ _ 2 _ _ _ q3]; rfl) hL hR
    · exact iBM2 xs ys n ao bo cap cap' _ _ _ W (HX.out.grown g) (HY.out.grown g) HV.out (by rw [cell_of_row _ _ 4 _ _ _ q3]; rfl) hL hR
    · exact iBM3 xs ys n ao bo cap cap' _ _ _ W (HX.out.grown g) (HY.out.grown g) HV.out (by rw [cell_of_row _ _ 6 _ _ _ q3]; rfl) hL hR
  clear hA hB hC hG hg
  unfold modesV
  go_wp2_with fail
  refine (iCheap_any xs ys w1.heap.size w.heap.size (w.heap.size + 1) _ HV.out KC).mono ?_
  rintro e w2 ⟨⟨z, rfl⟩, hg2⟩
  have HG := Lib.hid (HM.out w2 hg2).1
  clear HM KC hg2
  go_wp2
  go_ret
  exact ⟨rfl, HG.out⟩

set_option maxHeartbeats 1000000 in
theorem iBS_any (xs ys : List Int) (ao bo : Option Addr) (len cap len' cap' : Nat) (w : World) (hx : Ints w ao len xs) (hy : Ints w bo len' ys) (hmax : len ≤ 4611686018427387904) (hmax' : len' ≤ 4611686018427387904) :
    Calls Try.prog 30 #[.slice ao len cap, .slice bo len' cap'] w fun e w' => e = .returned (.int .i64 (bsI xs ys)) ∧ w.grownBy w' none := by
  have k1 := iLVP_any xs ys ao bo len cap len' cap' w (vP xs ys 32767) hx hy hmax hmax' rfl
  unfold bsI
  cases h1 : vP xs ys 32767 with
  | false =>
    rw [h1] at k1
    clear h1 hx hy
    go_enter Try.func30, Try.ntmps30
    go_wp2_with fail
    refine k1.mono ?_
    rintro e w' ⟨rfl, rfl⟩
    clear k1
    go_wp2
    go_ret
    exact ⟨rfl, grown_refl _ _⟩
  | true =>
    have hle : len' = len := by rw [← hx.1, ← hy.1]; exact (vP_of h1).1.symm
    subst hle
    rw [h1] at k1
    have k2 := iBestM_any xs ys len' ao bo cap cap' w hx hy h1
    rw [if_pos rfl]
    generalize (bst xs ys 3 : Int) = z at *
    clear h1 hx hy
    go_enter Try.func30, Try.ntmps30
    go_wp2_with fail
    refine k1.mono ?_
    rintro e w' ⟨rfl, rfl⟩
    clear k1
    go_wp2_with fail
    refine k2.mono ?_
    rintro e w1 ⟨rfl, hg⟩
    have HG := Lib.hid hg
    clear k2 hg
    go_wp2
    go_ret
    exact ⟨rfl, HG.out⟩

end Go.Proofs.Ytbjkclbgocpbkaa
