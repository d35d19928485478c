/-
  The specification's DecodeStereo and FromMidSide. For all arguments.
-/
import Derived.Test.YtbjkclbgocpbkaaStV
namespace Go.Proofs.Ytbjkclbgocpbkaa
open Go.RowKit

theorem un0 {xs ys : List Int} (hl : xs.length = ys.length) : List.zipWith (unA 0) xs ys = xs ∧ List.zipWith (unB 0) xs ys = ys := ⟨zip_first hl, zip_second hl⟩
theorem un1 {xs ys : List Int} (hl : xs.length = ys.length) : List.zipWith (unA 1) xs ys = xs := zip_first hl
theorem un2 {xs ys : List Int} (hl : xs.length = ys.length) : List.zipWith (unB 2) xs ys = ys := zip_second hl

set_option maxRecDepth 100000 in
set_option maxHeartbeats 2000000 in
theorem sDecL0 (xs ys : List Int) (n : Nat) (ao bo : Option Addr) (cap cap' : Nat) (w : World) (hx : Ints w ao n xs) (hy : Ints w bo n ys) (hn : ao = none → cap = 0) (hn' : bo = none → cap' = 0) (hv : vP xs ys 65536 = true) :
    Calls Try.prog 49 #[.int .i64 0, .slice ao n cap, .slice bo n cap'] w (MadeTwo (List.zipWith (unA 0) xs ys) (List.zipWith (unB 0) xs ys) n w) := by
  obtain ⟨hl0, hl1, ha, hb⟩ := vP_of hv
  have hn64 : n ≤ 64 := by rw [← hx.1]; exact hl1
  have HX := Lib.hid hx
  have HY := Lib.hid hy
  have HA := Lib.hid ha
  have HB := Lib.hid hb
  have HN := Lib.hid hn
  have HN' := Lib.hid hn'
  have HV := Lib.hid hv
  have HL := Lib.hid hl0
  clear hx hy hv hl0 hl1 ha hb hn hn'
  go_enter Try.func49, Try.ntmps49
  go_wp2_with fail
  refine (copyInts_any xs ao n cap w HX.out HN.out (by omega)).mono ?_
  rintro e w2 ⟨v2, rfl, ho2, hg2⟩
  have HO := Lib.hid ho2
  have HG := Lib.hid hg2
  clear ho2 hg2
  go_wp2_with fail
  refine (copyInts_any ys bo n cap' w2 (HY.out.grown HG.out) HN'.out (by omega)).mono ?_
  rintro e w3 ⟨v3, rfl, ho3, hg3⟩
  have ht := two_of HO.out HG.out ho3 hg3
  obtain ⟨p2, c2, rfl, _⟩ := ht.o1.reads
  obtain ⟨p3, c3, rfl, _⟩ := ht.o2.reads
  have HT : Hid (Two xs ys n w w3 (.slice p2 n c2) (.slice p3 n c3)) := ht
  clear ho3 hg3 ht HO HG
  go_wp2
  go_loopw [10] (fun i wr => ∃ k : Nat, k ≤ n ∧ i = .int .i64 k ∧ Hid (Two xs ys n w wr (.slice p2 n c2) (.slice p3 n c3))) (fun i _ => n - (intOf i).toNat)
  case atStart => exact ⟨0, Nat.zero_le _, rfl, HT⟩
  case round =>
    clear HT
    obtain ⟨k, hk, rfl, HT⟩ := hrel
    by_cases hlt : k < n
    · go_wp2
      go_roundw
      case rel => exact ⟨k + 1, by omega, by go_num, HT⟩
      case measure => simp [intOf]; omega
    · obtain rfl : k = n := by omega
      have HF : Hid (Two (List.zipWith (unA 0) xs ys) (List.zipWith (unB 0) xs ys) k w wr (.slice p2 k c2) (.slice p3 k c3)) := by show Two _ _ _ _ _ _ _; rw [(un0 HL.out).1, (un0 HL.out).2]; exact HT.out
      clear HT
      go_wp2
      go_ret2
      exact ⟨_, _, rfl, HF.out⟩

set_option maxRecDepth 100000 in
set_option maxHeartbeats 2000000 in
theorem sDecL1 (xs ys : List Int) (n : Nat) (ao bo : Option Addr) (cap cap' : Nat) (w : World) (hx : Ints w ao n xs) (hy : Ints w bo n ys) (hn : ao = none → cap = 0) (hn' : bo = none → cap' = 0) (hv : vP xs ys 65536 = true) :
    Calls Try.prog 49 #[.int .i64 1, .slice ao n cap, .slice bo n cap'] w (MadeTwo (List.zipWith (unA 1) xs ys) (List.zipWith (unB 1) xs ys) n w) := by
  obtain ⟨hl0, hl1, ha, hb⟩ := vP_of hv
  have hn64 : n ≤ 64 := by rw [← hx.1]; exact hl1
  have HX := Lib.hid hx
  have HY := Lib.hid hy
  have HA := Lib.hid ha
  have HB := Lib.hid hb
  have HN := Lib.hid hn
  have HN' := Lib.hid hn'
  have HV := Lib.hid hv
  have HL := Lib.hid hl0
  clear hx hy hv hl0 hl1 ha hb hn hn'
  go_enter Try.func49, Try.ntmps49
  go_wp2_with fail
  refine (copyInts_any xs ao n cap w HX.out HN.out (by omega)).mono ?_
  rintro e w2 ⟨v2, rfl, ho2, hg2⟩
  have HO := Lib.hid ho2
  have HG := Lib.hid hg2
  clear ho2 hg2
  go_wp2_with fail
  refine (copyInts_any ys bo n cap' w2 (HY.out.grown HG.out) HN'.out (by omega)).mono ?_
  rintro e w3 ⟨v3, rfl, ho3, hg3⟩
  have ht := two_of HO.out HG.out ho3 hg3
  obtain ⟨p2, c2, rfl, _⟩ := ht.o1.reads
  obtain ⟨p3, c3, rfl, _⟩ := ht.o2.reads
  have HT : Hid (Two xs (mix (List.zipWith (unB 1) xs ys) ys 0) n w w3 (.slice p2 n c2) (.slice p3 n c3)) := by rw [mix_zero]; exact ht
  clear ho3 hg3 ht HO HG
  go_wp2
  go_loopw [10] (fun i wr => ∃ k : Nat, k ≤ n ∧ i = .int .i64 k ∧ Hid (Two xs (mix (List.zipWith (unB 1) xs ys) ys k) n w wr (.slice p2 n c2) (.slice p3 n c3))) (fun i _ => n - (intOf i).toNat)
  case atStart => exact ⟨0, Nat.zero_le _, rfl, HT⟩
  case round =>
    clear HT
    obtain ⟨k, hk, rfl, HT⟩ := hrel
    by_cases hlt : k < n
    · obtain ⟨x, hxk⟩ : ∃ x, xs[k]? = some x := ⟨_, List.getElem?_eq_getElem (by rw [HX.out.1]; exact hlt)⟩
      obtain ⟨y, hyk⟩ : ∃ y, ys[k]? = some y := ⟨_, List.getElem?_eq_getElem (by rw [HY.out.1]; exact hlt)⟩
      obtain ⟨b1, f1, rfl, hc1⟩ := HX.out.2.resolve_left (by intro e; subst e; simp at hxk)
      obtain ⟨b2, f2, rfl, hc2⟩ := HY.out.2.resolve_left (by intro e; subst e; simp at hyk)
      have qx : wr.cell? ⟨b1, f1 + k, none⟩ = some (.int .i64 x) := HT.out.g.cell (hc1 k x hxk) (by simp)
      have qy : wr.cell? ⟨b2, f2 + k, none⟩ = some (.int .i64 y) := HT.out.g.cell (hc2 k y hyk) (by simp)
      obtain ⟨g, cg, hg, _⟩ := World.ownsRow.form HT.out.o2 (by omega)
      injection hg with e1 e2 e3
      subst e1; subst e3
      obtain ⟨z, hz⟩ := mix_get (zs := List.zipWith (unB 1) xs ys) (ys := ys) (zip_len HX.out.1 HY.out.1) HY.out.1 hlt
      obtain ⟨q1, q2⟩ := own_cell HT.out.o2 hlt hz
      have x0 := (allB_mem HA.out hxk).1
      have x1 := (allB_mem HA.out hxk).2
      have y0 := (allB_mem HB.out hyk).1
      have y1 := (allB_mem HB.out hyk).2
      have hw : IntKind.i64.wrap (x - y) = x - y := IntWalk.i64_in _ (by omega)
      have HT2 : Hid (∀ W : World, W = (wr.setCell ⟨g, k, none⟩ (.int .i64 (x - y))).drew → Two xs (mix (List.zipWith (unB 1) xs ys) ys (k + 1)) n w W (.slice p2 n c2) (.slice (some ⟨g, 0, none⟩) n c3)) := by
        rintro W rfl
        have := (HT.out.set2 (k := k) (z := x - y))
        rw [mix_set (zip_len HX.out.1 HY.out.1) HY.out.1 hlt (by rw [zip_get hxk hyk]; simp [unB])] at this
        exact this.grown (grown_drew _ _)
      clear HT hc1 hc2 hxk hyk hz
      go_wp2
      go_region
      all_goals
        have HT3 := Lib.hid (HT2.out _ rfl)
        clear HT2 qx qy q1 q2 hw
        go_wp2
        go_roundw
        case rel => exact ⟨k + 1, by omega, by go_num, HT3⟩
        case measure => simp [intOf]; omega
    · obtain rfl : k = n := by omega
      have HF : Hid (Two (List.zipWith (unA 1) xs ys) (List.zipWith (unB 1) xs ys) k w wr (.slice p2 k c2) (.slice p3 k c3)) := by show Two _ _ _ _ _ _ _; have := HT.out; rw [mix_full (zip_len HX.out.1 HY.out.1) HY.out.1] at this; rw [un1 HL.out]; exact this
      clear HT
      go_wp2
      go_ret2
      exact ⟨_, _, rfl, HF.out⟩

set_option maxRecDepth 100000 in
set_option maxHeartbeats 2000000 in
theorem sDecL2 (xs ys : List Int) (n : Nat) (ao bo : Option Addr) (cap cap' : Nat) (w : World) (hx : Ints w ao n xs) (hy : Ints w bo n ys) (hn : ao = none → cap = 0) (hn' : bo = none → cap' = 0) (hv : vP xs ys 65536 = true) :
    Calls Try.prog 49 #[.int .i64 2, .slice ao n cap, .slice bo n cap'] w (MadeTwo (List.zipWith (unA 2) xs ys) (List.zipWith (unB 2) xs ys) n w) := by
  obtain ⟨hl0, hl1, ha, hb⟩ := vP_of hv
  have hn64 : n ≤ 64 := by rw [← hx.1]; exact hl1
  have HX := Lib.hid hx
  have HY := Lib.hid hy
  have HA := Lib.hid ha
  have HB := Lib.hid hb
  have HN := Lib.hid hn
  have HN' := Lib.hid hn'
  have HV := Lib.hid hv
  have HL := Lib.hid hl0
  clear hx hy hv hl0 hl1 ha hb hn hn'
  go_enter Try.func49, Try.ntmps49
  go_wp2_with fail
  refine (copyInts_any xs ao n cap w HX.out HN.out (by omega)).mono ?_
  rintro e w2 ⟨v2, rfl, ho2, hg2⟩
  have HO := Lib.hid ho2
  have HG := Lib.hid hg2
  clear ho2 hg2
  go_wp2_with fail
  refine (copyInts_any ys bo n cap' w2 (HY.out.grown HG.out) HN'.out (by omega)).mono ?_
  rintro e w3 ⟨v3, rfl, ho3, hg3⟩
  have ht := two_of HO.out HG.out ho3 hg3
  obtain ⟨p2, c2, rfl, _⟩ := ht.o1.reads
  obtain ⟨p3, c3, rfl, _⟩ := ht.o2.reads
  have HT : Hid (Two (mix (List.zipWith (unA 2) xs ys) xs 0) ys n w w3 (.slice p2 n c2) (.slice p3 n c3)) := by rw [mix_zero]; exact ht
  clear ho3 hg3 ht HO HG
  go_wp2
  go_loopw [10] (fun i wr => ∃ k : Nat, k ≤ n ∧ i = .int .i64 k ∧ Hid (Two (mix (List.zipWith (unA 2) xs ys) xs k) ys n w wr (.slice p2 n c2) (.slice p3 n c3))) (fun i _ => n - (intOf i).toNat)
  case atStart => exact ⟨0, Nat.zero_le _, rfl, HT⟩
  case round =>
    clear HT
    obtain ⟨k, hk, rfl, HT⟩ := hrel
    by_cases hlt : k < n
    · obtain ⟨x, hxk⟩ : ∃ x, xs[k]? = some x := ⟨_, List.getElem?_eq_getElem (by rw [HX.out.1]; exact hlt)⟩
      obtain ⟨y, hyk⟩ : ∃ y, ys[k]? = some y := ⟨_, List.getElem?_eq_getElem (by rw [HY.out.1]; exact hlt)⟩
      obtain ⟨b1, f1, rfl, hc1⟩ := HX.out.2.resolve_left (by intro e; subst e; simp at hxk)
      obtain ⟨b2, f2, rfl, hc2⟩ := HY.out.2.resolve_left (by intro e; subst e; simp at hyk)
      have qx : wr.cell? ⟨b1, f1 + k, none⟩ = some (.int .i64 x) := HT.out.g.cell (hc1 k x hxk) (by simp)
      have qy : wr.cell? ⟨b2, f2 + k, none⟩ = some (.int .i64 y) := HT.out.g.cell (hc2 k y hyk) (by simp)
      obtain ⟨g, cg, hg, _⟩ := World.ownsRow.form HT.out.o1 (by omega)
      injection hg with e1 e2 e3
      subst e1; subst e3
      obtain ⟨z, hz⟩ := mix_get (zs := List.zipWith (unA 2) xs ys) (ys := xs) (zip_len HX.out.1 HY.out.1) HX.out.1 hlt
      obtain ⟨q1, q2⟩ := own_cell HT.out.o1 hlt hz
      have x0 := (allB_mem HA.out hxk).1
      have x1 := (allB_mem HA.out hxk).2
      have y0 := (allB_mem HB.out hyk).1
      have y1 := (allB_mem HB.out hyk).2
      have hw : IntKind.i64.wrap (x + y) = x + y := IntWalk.i64_in _ (by omega)
      have HT2 : Hid (∀ W : World, W = (wr.setCell ⟨g, k, none⟩ (.int .i64 (x + y))).drew → Two (mix (List.zipWith (unA 2) xs ys) xs (k + 1)) ys n w W (.slice (some ⟨g, 0, none⟩) n c2) (.slice p3 n c3)) := by
        rintro W rfl
        have := (HT.out.set1 (k := k) (z := x + y))
        rw [mix_set (zip_len HX.out.1 HY.out.1) HX.out.1 hlt (by rw [zip_get hxk hyk]; simp [unA])] at this
        exact this.grown (grown_drew _ _)
      clear HT hc1 hc2 hxk hyk hz
      go_wp2
      go_region
      all_goals
        have HT3 := Lib.hid (HT2.out _ rfl)
        clear HT2 qx qy q1 q2 hw
        go_wp2
        go_roundw
        case rel => exact ⟨k + 1, by omega, by go_num, HT3⟩
        case measure => simp [intOf]; omega
    · obtain rfl : k = n := by omega
      have HF : Hid (Two (List.zipWith (unA 2) xs ys) (List.zipWith (unB 2) xs ys) k w wr (.slice p2 k c2) (.slice p3 k c3)) := by show Two _ _ _ _ _ _ _; have := HT.out; rw [mix_full (zip_len HX.out.1 HY.out.1) HX.out.1] at this; rw [un2 HL.out]; exact this
      clear HT
      go_wp2
      go_ret2
      exact ⟨_, _, rfl, HF.out⟩

set_option maxRecDepth 100000 in
set_option maxHeartbeats 2000000 in
theorem sDecL3 (xs ys : List Int) (n : Nat) (ao bo : Option Addr) (cap cap' : Nat) (w : World) (hx : Ints w ao n xs) (hy : Ints w bo n ys) (hn : ao = none → cap = 0) (hn' : bo = none → cap' = 0) (hv : vP xs ys 65536 = true) :
    Calls Try.prog 49 #[.int .i64 3, .slice ao n cap, .slice bo n cap'] w (MadeTwo (List.zipWith (unA 3) xs ys) (List.zipWith (unB 3) xs ys) n w) := by
  obtain ⟨hl0, hl1, ha, hb⟩ := vP_of hv
  have hn64 : n ≤ 64 := by rw [← hx.1]; exact hl1
  have HX := Lib.hid hx
  have HY := Lib.hid hy
  have HA := Lib.hid ha
  have HB := Lib.hid hb
  have HN := Lib.hid hn
  have HN' := Lib.hid hn'
  have HV := Lib.hid hv
  have HL := Lib.hid hl0
  clear hx hy hv hl0 hl1 ha hb hn hn'
  go_enter Try.func49, Try.ntmps49
  go_wp2_with fail
  refine (copyInts_any xs ao n cap w HX.out HN.out (by omega)).mono ?_
  rintro e w2 ⟨v2, rfl, ho2, hg2⟩
  have HO := Lib.hid ho2
  have HG := Lib.hid hg2
  clear ho2 hg2
  go_wp2_with fail
  refine (copyInts_any ys bo n cap' w2 (HY.out.grown HG.out) HN'.out (by omega)).mono ?_
  rintro e w3 ⟨v3, rfl, ho3, hg3⟩
  have ht := two_of HO.out HG.out ho3 hg3
  obtain ⟨p2, c2, rfl, _⟩ := ht.o1.reads
  obtain ⟨p3, c3, rfl, _⟩ := ht.o2.reads
  have HT : Hid (Two xs ys n w w3 (.slice p2 n c2) (.slice p3 n c3)) := ht
  clear ho3 hg3 ht HO HG
  go_wp2
  go_loopw [10] (fun i wr => ∃ k : Nat, k ≤ n ∧ i = .int .i64 k ∧ Hid (Two xs ys n w wr (.slice p2 n c2) (.slice p3 n c3))) (fun i _ => n - (intOf i).toNat)
  case atStart => exact ⟨0, Nat.zero_le _, rfl, HT⟩
  case round =>
    clear HT
    obtain ⟨k, hk, rfl, HT⟩ := hrel
    by_cases hlt : k < n
    · go_wp2
      go_roundw
      case rel => exact ⟨k + 1, by omega, by go_num, HT⟩
      case measure => simp [intOf]; omega
    · obtain rfl : k = n := by omega
      go_wp2_with fail
      refine (sUnMid_any xs ys k ao bo cap cap' wr (HX.out.grown HT.out.g) (HY.out.grown HT.out.g) HV.out).mono ?_
      rintro e w4 ⟨v4, u4, rfl, ht4⟩
      have HF := Lib.hid (ht4.before HT.out.g)
      clear ht4
      clear HT
      go_wp2
      go_ret2
      exact ⟨_, _, rfl, HF.out⟩

theorem sDecL_any (m : Nat) (hm : m ≤ 3) (xs ys : List Int) (n : Nat) (ao bo : Option Addr) (cap cap' : Nat) (w : World) (hx : Ints w ao n xs) (hy : Ints w bo n ys) (hn : ao = none → cap = 0) (hn' : bo = none → cap' = 0) (hv : vP xs ys 65536 = true) :
    Calls Try.prog 49 #[.int .i64 (m : Int), .slice ao n cap, .slice bo n cap'] w (MadeTwo (List.zipWith (unA m) xs ys) (List.zipWith (unB m) xs ys) n w) := by
  rcases mode_four hm with rfl | rfl | rfl | rfl
  · exact sDecL0 xs ys n ao bo cap cap' w hx hy hn hn' hv
  · exact sDecL1 xs ys n ao bo cap cap' w hx hy hn hn' hv
  · exact sDecL2 xs ys n ao bo cap cap' w hx hy hn hn' hv
  · exact sDecL3 xs ys n ao bo cap cap' w hx hy hn hn' hv

set_option maxRecDepth 100000 in
set_option maxHeartbeats 2000000 in
theorem sDec_any (m : Int) (xs ys : List Int) (ao bo : Option Addr) (len cap len' cap' : Nat) (w : World) (hx : Ints w ao len xs) (hy : Ints w bo len' ys) (hn : ao = none → cap = 0) (hn' : bo = none → cap' = 0) (hmax : len ≤ 4611686018427387904) (hmax' : len' ≤ 4611686018427387904) :
    Calls Try.prog 28 #[.int .i64 m, .slice ao len cap, .slice bo len' cap'] w (MadeTwoB (dA m xs ys) (dB m xs ys) (dN m xs ys) (dOk m xs ys) w) := by
  have k0 := inRange_any m 0 3 (inB m 0 3) w rfl
  have k1 := sSVP_any xs ys ao bo len cap len' cap' w (vP xs ys 65536) hx hy hmax hmax' rfl
  by_cases hm : ¬ (0 ≤ m ∧ m ≤ 3)
  · have h0 : inB m 0 3 = false := inB_false (by omega)
    have HF : Hid (dOk m xs ys = false) := by show _ = _; unfold dOk; rw [h0]; rfl
    rw [h0] at k0
    rw [HF.out]
    clear h0 k1 hx hy hn hn' hm
    go_enter Try.func28, Try.ntmps28
    go_wp2_with fail
    refine k0.mono ?_
    rintro e w' ⟨rfl, rfl⟩
    clear k0
    go_wp2
    go_ret3
    exact ⟨_, _, rfl, none_d HF.out (grown_refl _ _)⟩
  have hm : 0 ≤ m ∧ m ≤ 3 := Decidable.of_not_not hm
  have h0 : inB m 0 3 = true := inB_true hm.1 hm.2
  rw [h0] at k0
  cases h1 : vP xs ys 65536 with
  | false =>
    have HF : Hid (dOk m xs ys = false) := by show _ = _; unfold dOk; rw [h1]; simp
    rw [h1] at k1
    rw [HF.out]
    clear h0 h1 hx hy hn hn'
    go_enter Try.func28, Try.ntmps28
    go_wp2_with fail
    refine k0.mono ?_
    rintro e w' ⟨rfl, rfl⟩
    clear k0
    go_wp2_with fail
    refine k1.mono ?_
    rintro e w' ⟨rfl, rfl⟩
    clear k1
    go_wp2
    go_ret3
    exact ⟨_, _, rfl, none_d HF.out (grown_refl _ _)⟩
  | true =>
    have hle : len' = len := by rw [← hx.1, ← hy.1]; exact (vP_of h1).1.symm
    subst hle
    rw [h1] at k1
    obtain ⟨q, rfl⟩ := Int.eq_ofNat_of_zero_le hm.1
    have k2 := sDecL_any q (by omega) xs ys len' ao bo cap cap' w hx hy hn hn' h1
    have HL := Lib.hid hx.1
    have HD : Hid (dOk (q : Int) xs ys = vP (List.zipWith (unA q) xs ys) (List.zipWith (unB q) xs ys) 32767) := by show _ = _; unfold dOk; rw [h0, h1]; rfl
    clear h0 h1 hx hy hn hn'
    go_enter Try.func28, Try.ntmps28
    go_wp2_with fail
    refine k0.mono ?_
    rintro e w' ⟨rfl, rfl⟩
    clear k0
    go_wp2_with fail
    refine k1.mono ?_
    rintro e w' ⟨rfl, rfl⟩
    clear k1
    go_wp2_with fail
    refine k2.mono ?_
    rintro e w1 ⟨v, u, rfl, ht⟩
    obtain ⟨p1, c1, rfl, _⟩ := ht.o1.reads
    obtain ⟨p2, c2, rfl, _⟩ := ht.o2.reads
    have HT := Lib.hid ht
    clear k2 ht
    cases hd : vP (List.zipWith (unA q) xs ys) (List.zipWith (unB q) xs ys) 32767 with
    | false =>
      have HF : Hid (dOk (q : Int) xs ys = false) := by show _ = _; rw [HD.out, hd]
      go_wp2_with fail
      refine (sLVP_any _ _ p1 p2 len' c1 len' c2 w1 false HT.out.o1.toInts HT.out.o2.toInts hmax hmax' hd).mono ?_
      rintro e w' ⟨rfl, rfl⟩
      clear hd
      go_wp2
      go_ret3
      exact ⟨_, _, by rw [HF.out]; rfl, none_d HF.out HT.out.g⟩
    | true =>
      have HF : Hid (dOk (q : Int) xs ys = true) := by show _ = _; rw [HD.out, hd]
      go_wp2_with fail
      refine (sLVP_any _ _ p1 p2 len' c1 len' c2 w1 true HT.out.o1.toInts HT.out.o2.toInts hmax hmax' hd).mono ?_
      rintro e w' ⟨rfl, rfl⟩
      clear hd
      go_wp2
      go_ret3
      exact ⟨_, _, by rw [HF.out]; rfl, made_d (m := (q : Int)) HL.out HF.out HT.out⟩

set_option maxRecDepth 100000 in
set_option maxHeartbeats 2000000 in
theorem sFrom_any (xs ys : List Int) (ao bo : Option Addr) (len cap len' cap' : Nat) (w : World) (hx : Ints w ao len xs) (hy : Ints w bo len' ys) (hn : ao = none → cap = 0) (hn' : bo = none → cap' = 0) (hmax : len ≤ 4611686018427387904) (hmax' : len' ≤ 4611686018427387904) :
    Calls Try.prog 22 #[.slice ao len cap, .slice bo len' cap'] w (MadeTwoB (dA 3 xs ys) (dB 3 xs ys) (dN 3 xs ys) (dOk 3 xs ys) w) := by
  have k1 := sSVP_any xs ys ao bo len cap len' cap' w (vP xs ys 65536) hx hy hmax hmax' rfl
  have h0 : inB 3 0 3 = true := inB_true (by omega) (by omega)
  cases h1 : vP xs ys 65536 with
  | false =>
    have HF : Hid (dOk 3 xs ys = false) := by show _ = _; unfold dOk; rw [h1]; simp
    rw [h1] at k1
    rw [HF.out]
    clear h0 h1 hx hy hn hn'
    go_enter Try.func22, Try.ntmps22
    go_wp2_with fail
    refine k1.mono ?_
    rintro e w' ⟨rfl, rfl⟩
    clear k1
    go_wp2
    go_ret3
    exact ⟨_, _, rfl, none_d HF.out (grown_refl _ _)⟩
  | true =>
    have hle : len' = len := by rw [← hx.1, ← hy.1]; exact (vP_of h1).1.symm
    subst hle
    rw [h1] at k1
    have k2 := sUnMid_any xs ys len' ao bo cap cap' w hx hy h1
    have HL := Lib.hid hx.1
    have HD : Hid (dOk 3 xs ys = vP (List.zipWith (unA 3) xs ys) (List.zipWith (unB 3) xs ys) 32767) := by show _ = _; unfold dOk; rw [h0, h1]; rfl
    clear h0 h1 hx hy hn hn'
    go_enter Try.func22, Try.ntmps22
    go_wp2_with fail
    refine k1.mono ?_
    rintro e w' ⟨rfl, rfl⟩
    clear k1
    go_wp2_with fail
    refine k2.mono ?_
    rintro e w1 ⟨v, u, rfl, ht⟩
    obtain ⟨p1, c1, rfl, _⟩ := ht.o1.reads
    obtain ⟨p2, c2, rfl, _⟩ := ht.o2.reads
    have HT := Lib.hid ht
    clear k2 ht
    cases hd : vP (List.zipWith (unA 3) xs ys) (List.zipWith (unB 3) xs ys) 32767 with
    | false =>
      have HF : Hid (dOk 3 xs ys = false) := by show _ = _; rw [HD.out, hd]
      go_wp2_with fail
      refine (sLVP_any _ _ p1 p2 len' c1 len' c2 w1 false HT.out.o1.toInts HT.out.o2.toInts hmax hmax' hd).mono ?_
      rintro e w' ⟨rfl, rfl⟩
      clear hd
      go_wp2
      go_ret3
      exact ⟨_, _, by rw [HF.out]; rfl, none_d HF.out HT.out.g⟩
    | true =>
      have HF : Hid (dOk 3 xs ys = true) := by show _ = _; rw [HD.out, hd]
      go_wp2_with fail
      refine (sLVP_any _ _ p1 p2 len' c1 len' c2 w1 true HT.out.o1.toInts HT.out.o2.toInts hmax hmax' hd).mono ?_
      rintro e w' ⟨rfl, rfl⟩
      clear hd
      go_wp2
      go_ret3
      exact ⟨_, _, by rw [HF.out]; rfl, made_d (m := 3) HL.out HF.out HT.out⟩

end Go.Proofs.Ytbjkclbgocpbkaa
