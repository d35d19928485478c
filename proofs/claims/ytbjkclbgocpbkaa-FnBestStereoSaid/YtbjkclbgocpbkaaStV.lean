/-
  Pairs of channels: validPair of both texts; the specification's four functions. For all arguments.
-/
import Derived.Test.YtbjkclbgocpbkaaStS
import Derived.Test.YtbjkclbgocpbkaaStU
import Derived.Test.YtbjkclbgocpbkaaOwn
import Derived.OwnWalk
namespace Go.Proofs.Ytbjkclbgocpbkaa
open Go.RowKit

set_option maxHeartbeats 1000000 in
theorem sLVP_any (xs ys : List Int) (ao bo : Option Addr) (len cap len' cap' : Nat) (w : World) (v : Bool) (hx : Ints w ao len xs) (hy : Ints w bo len' ys) (hmax : len ≤ 4611686018427387904) (hmax' : len' ≤ 4611686018427387904) (hv : vP xs ys 32767 = v) :
    Calls Try.prog 38 #[.slice ao len cap, .slice bo len' cap', .int .i64 32767] w fun e w' => e = .returned (.bool v) ∧ w = w' := by
  have k1 := (allIn_any xs (-32767) 32767 ao len cap w hx (by omega))
  have k2 := (allIn_any ys (-32767) 32767 bo len' cap' w hy (by omega))
  have hl := hx.1
  have hl' := hy.1
  clear hx hy
  by_cases h0 : len = len'
  · subst h0
    by_cases h1 : len ≤ 64
    · have d1 : decide ((len : Int) ≤ 64) = true := by simp; omega
      have hv' : v = (allB xs (-32767) 32767 && allB ys (-32767) 32767) := by subst hv; unfold vP; rw [hl, hl', show decide (len = len) = true by simp, show decide (len ≤ 64) = true by simpa using h1]; rfl
      have HV := Lib.hid hv'
      clear hv hv' hl hl'
      cases ha : allB xs (-32767) 32767 with
      | false =>
        rw [ha] at k1
        have HF : Hid (v = false) := by show v = false; rw [HV.out, ha]; rfl
        clear ha k2 HV
        go_enter Try.func38, Try.ntmps38
        go_wp2_with fail
        refine k1.mono ?_
        rintro e w' ⟨rfl, rfl⟩
        clear k1
        go_wp2
        go_ret
        exact ⟨ret_bool HF.out.symm, rfl⟩
      | true =>
        rw [ha] at k1
        have HF : Hid (v = allB ys (-32767) 32767) := by show v = _; rw [HV.out, ha]; rfl
        clear ha HV
        generalize allB ys (-32767) 32767 = b at *
        go_enter Try.func38, Try.ntmps38
        go_wp2_with fail
        refine k1.mono ?_
        rintro e w' ⟨rfl, rfl⟩
        clear k1
        go_wp2_with fail
        refine k2.mono ?_
        rintro e w' ⟨rfl, rfl⟩
        clear k2
        go_wp2
        go_ret
        exact ⟨ret_bool HF.out.symm, rfl⟩
    · have d1 : decide ((len : Int) ≤ 64) = false := by simp; omega
      have hv' : v = false := by subst hv; unfold vP; rw [hl, hl', show decide (len ≤ 64) = false by simpa using h1]; simp
      subst hv'
      clear hv hl hl' k1 k2
      go_enter Try.func38, Try.ntmps38
      go_wp2
      go_ret
      exact ⟨rfl, rfl⟩
  · have d0 : ((len : Int) == (len' : Int)) = false := by simp; omega
    have hv' : v = false := by subst hv; unfold vP; rw [hl, hl']; simp [h0]
    subst hv'
    clear hv hl hl' k1 k2
    go_enter Try.func38, Try.ntmps38
    go_wp2
    go_ret
    exact ⟨rfl, rfl⟩

set_option maxHeartbeats 1000000 in
theorem iLVP_any (xs ys : List Int) (ao bo : Option Addr) (len cap len' cap' : Nat) (w : World) (v : Bool) (hx : Ints w ao len xs) (hy : Ints w bo len' ys) (hmax : len ≤ 4611686018427387904) (hmax' : len' ≤ 4611686018427387904) (hv : vP xs ys 32767 = v) :
    Calls Try.prog 45 #[.slice ao len cap, .slice bo len' cap', .int .i64 32767] w fun e w' => e = .returned (.bool v) ∧ w = w' := by
  have k1 := (iAllIn_any xs (-32767) 32767 ao len cap w _ hx (by omega) rfl)
  have k2 := (iAllIn_any ys (-32767) 32767 bo len' cap' w _ hy (by omega) rfl)
  have hl := hx.1
  have hl' := hy.1
  clear hx hy
  by_cases h0 : len = len'
  · subst h0
    by_cases h1 : len ≤ 64
    · have d1 : decide ((len : Int) ≤ 64) = true := by simp; omega
      have hv' : v = (allB xs (-32767) 32767 && allB ys (-32767) 32767) := by subst hv; unfold vP; rw [hl, hl', show decide (len = len) = true by simp, show decide (len ≤ 64) = true by simpa using h1]; rfl
      have HV := Lib.hid hv'
      clear hv hv' hl hl'
      cases ha : allB xs (-32767) 32767 with
      | false =>
        rw [ha] at k1
        have HF : Hid (v = false) := by show v = false; rw [HV.out, ha]; rfl
        clear ha k2 HV
        go_enter Try.func45, Try.ntmps45
        go_wp2_with fail
        refine k1.mono ?_
        rintro e w' ⟨rfl, rfl⟩
        clear k1
        go_wp2
        go_ret
        exact ⟨ret_bool HF.out.symm, rfl⟩
      | true =>
        rw [ha] at k1
        have HF : Hid (v = allB ys (-32767) 32767) := by show v = _; rw [HV.out, ha]; rfl
        clear ha HV
        generalize allB ys (-32767) 32767 = b at *
        go_enter Try.func45, Try.ntmps45
        go_wp2_with fail
        refine k1.mono ?_
        rintro e w' ⟨rfl, rfl⟩
        clear k1
        go_wp2_with fail
        refine k2.mono ?_
        rintro e w' ⟨rfl, rfl⟩
        clear k2
        go_wp2
        go_ret
        exact ⟨ret_bool HF.out.symm, rfl⟩
    · have d1 : decide ((len : Int) ≤ 64) = false := by simp; omega
      have hv' : v = false := by subst hv; unfold vP; rw [hl, hl', show decide (len ≤ 64) = false by simpa using h1]; simp
      subst hv'
      clear hv hl hl' k1 k2
      go_enter Try.func45, Try.ntmps45
      go_wp2
      go_ret
      exact ⟨rfl, rfl⟩
  · have d0 : ((len : Int) == (len' : Int)) = false := by simp; omega
    have hv' : v = false := by subst hv; unfold vP; rw [hl, hl']; simp [h0]
    subst hv'
    clear hv hl hl' k1 k2
    go_enter Try.func45, Try.ntmps45
    go_wp2
    go_ret
    exact ⟨rfl, rfl⟩

set_option maxHeartbeats 1000000 in
theorem sSVP_any (xs ys : List Int) (ao bo : Option Addr) (len cap len' cap' : Nat) (w : World) (v : Bool) (hx : Ints w ao len xs) (hy : Ints w bo len' ys) (hmax : len ≤ 4611686018427387904) (hmax' : len' ≤ 4611686018427387904) (hv : vP xs ys 65536 = v) :
    Calls Try.prog 38 #[.slice ao len cap, .slice bo len' cap', .int .i64 65536] w fun e w' => e = .returned (.bool v) ∧ w = w' := by
  have k1 := (allIn_any xs (-65536) 65536 ao len cap w hx (by omega))
  have k2 := (allIn_any ys (-65536) 65536 bo len' cap' w hy (by omega))
  have hl := hx.1
  have hl' := hy.1
  clear hx hy
  by_cases h0 : len = len'
  · subst h0
    by_cases h1 : len ≤ 64
    · have d1 : decide ((len : Int) ≤ 64) = true := by simp; omega
      have hv' : v = (allB xs (-65536) 65536 && allB ys (-65536) 65536) := by subst hv; unfold vP; rw [hl, hl', show decide (len = len) = true by simp, show decide (len ≤ 64) = true by simpa using h1]; rfl
      have HV := Lib.hid hv'
      clear hv hv' hl hl'
      cases ha : allB xs (-65536) 65536 with
      | false =>
        rw [ha] at k1
        have HF : Hid (v = false) := by show v = false; rw [HV.out, ha]; rfl
        clear ha k2 HV
        go_enter Try.func38, Try.ntmps38
        go_wp2_with fail
        refine k1.mono ?_
        rintro e w' ⟨rfl, rfl⟩
        clear k1
        go_wp2
        go_ret
        exact ⟨ret_bool HF.out.symm, rfl⟩
      | true =>
        rw [ha] at k1
        have HF : Hid (v = allB ys (-65536) 65536) := by show v = _; rw [HV.out, ha]; rfl
        clear ha HV
        generalize allB ys (-65536) 65536 = b at *
        go_enter Try.func38, Try.ntmps38
        go_wp2_with fail
        refine k1.mono ?_
        rintro e w' ⟨rfl, rfl⟩
        clear k1
        go_wp2_with fail
        refine k2.mono ?_
        rintro e w' ⟨rfl, rfl⟩
        clear k2
        go_wp2
        go_ret
        exact ⟨ret_bool HF.out.symm, rfl⟩
    · have d1 : decide ((len : Int) ≤ 64) = false := by simp; omega
      have hv' : v = false := by subst hv; unfold vP; rw [hl, hl', show decide (len ≤ 64) = false by simpa using h1]; simp
      subst hv'
      clear hv hl hl' k1 k2
      go_enter Try.func38, Try.ntmps38
      go_wp2
      go_ret
      exact ⟨rfl, rfl⟩
  · have d0 : ((len : Int) == (len' : Int)) = false := by simp; omega
    have hv' : v = false := by subst hv; unfold vP; rw [hl, hl']; simp [h0]
    subst hv'
    clear hv hl hl' k1 k2
    go_enter Try.func38, Try.ntmps38
    go_wp2
    go_ret
    exact ⟨rfl, rfl⟩

set_option maxHeartbeats 1000000 in
theorem iSVP_any (xs ys : List Int) (ao bo : Option Addr) (len cap len' cap' : Nat) (w : World) (v : Bool) (hx : Ints w ao len xs) (hy : Ints w bo len' ys) (hmax : len ≤ 4611686018427387904) (hmax' : len' ≤ 4611686018427387904) (hv : vP xs ys 65536 = v) :
    Calls Try.prog 45 #[.slice ao len cap, .slice bo len' cap', .int .i64 65536] w fun e w' => e = .returned (.bool v) ∧ w = w' := by
  have k1 := (iAllIn_any xs (-65536) 65536 ao len cap w _ hx (by omega) rfl)
  have k2 := (iAllIn_any ys (-65536) 65536 bo len' cap' w _ hy (by omega) rfl)
  have hl := hx.1
  have hl' := hy.1
  clear hx hy
  by_cases h0 : len = len'
  · subst h0
    by_cases h1 : len ≤ 64
    · have d1 : decide ((len : Int) ≤ 64) = true := by simp; omega
      have hv' : v = (allB xs (-65536) 65536 && allB ys (-65536) 65536) := by subst hv; unfold vP; rw [hl, hl', show decide (len = len) = true by simp, show decide (len ≤ 64) = true by simpa using h1]; rfl
      have HV := Lib.hid hv'
      clear hv hv' hl hl'
      cases ha : allB xs (-65536) 65536 with
      | false =>
        rw [ha] at k1
        have HF : Hid (v = false) := by show v = false; rw [HV.out, ha]; rfl
        clear ha k2 HV
        go_enter Try.func45, Try.ntmps45
        go_wp2_with fail
        refine k1.mono ?_
        rintro e w' ⟨rfl, rfl⟩
        clear k1
        go_wp2
        go_ret
        exact ⟨ret_bool HF.out.symm, rfl⟩
      | true =>
        rw [ha] at k1
        have HF : Hid (v = allB ys (-65536) 65536) := by show v = _; rw [HV.out, ha]; rfl
        clear ha HV
        generalize allB ys (-65536) 65536 = b at *
        go_enter Try.func45, Try.ntmps45
        go_wp2_with fail
        refine k1.mono ?_
        rintro e w' ⟨rfl, rfl⟩
        clear k1
        go_wp2_with fail
        refine k2.mono ?_
        rintro e w' ⟨rfl, rfl⟩
        clear k2
        go_wp2
        go_ret
        exact ⟨ret_bool HF.out.symm, rfl⟩
    · have d1 : decide ((len : Int) ≤ 64) = false := by simp; omega
      have hv' : v = false := by subst hv; unfold vP; rw [hl, hl', show decide (len ≤ 64) = false by simpa using h1]; simp
      subst hv'
      clear hv hl hl' k1 k2
      go_enter Try.func45, Try.ntmps45
      go_wp2
      go_ret
      exact ⟨rfl, rfl⟩
  · have d0 : ((len : Int) == (len' : Int)) = false := by simp; omega
    have hv' : v = false := by subst hv; unfold vP; rw [hl, hl']; simp [h0]
    subst hv'
    clear hv hl hl' k1 k2
    go_enter Try.func45, Try.ntmps45
    go_wp2
    go_ret
    exact ⟨rfl, rfl⟩

/-- How long the lists are. -/
def eN (m : Int) (xs ys : List Int) : Nat := if eOk m xs ys then xs.length else 0
def dN (m : Int) (xs ys : List Int) : Nat := if dOk m xs ys then xs.length else 0
theorem eN_le (m : Int) (xs ys : List Int) : eN m xs ys ≤ 64 := by
  unfold eN; split
  · rename_i h; exact (vP_of (eOk_of h).2.2).2.1
  · omega
theorem dN_le (m : Int) (xs ys : List Int) : dN m xs ys ≤ 64 := by
  unfold dN; split
  · rename_i h; exact (vP_of (dOk_of h).2.2.1).2.1
  · omega
theorem made_e {m : Int} {xs ys : List Int} {n : Nat} {w w' : World} {v u : Value} (hl : xs.length = n) (h : eOk m xs ys = true) (ht : Two (List.zipWith (stA m.toNat) xs ys) (List.zipWith (stB m.toNat) xs ys) n w w' v u) : Two (eA m xs ys) (eB m xs ys) (eN m xs ys) w w' v u := by
  unfold eA eB eN; rw [if_pos h, if_pos h, if_pos h, hl]; exact ht
theorem made_d {m : Int} {xs ys : List Int} {n : Nat} {w w' : World} {v u : Value} (hl : xs.length = n) (h : dOk m xs ys = true) (ht : Two (List.zipWith (unA m.toNat) xs ys) (List.zipWith (unB m.toNat) xs ys) n w w' v u) : Two (dA m xs ys) (dB m xs ys) (dN m xs ys) w w' v u := by
  unfold dA dB dN; rw [if_pos h, if_pos h, if_pos h, hl]; exact ht
theorem none_e {m : Int} {xs ys : List Int} {w w' : World} (h : eOk m xs ys = false) (hg : w.grownBy w' none) : Two (eA m xs ys) (eB m xs ys) (eN m xs ys) w w' (.slice none 0 0) (.slice none 0 0) := by
  unfold eA eB eN; rw [h]; exact two_nil hg
theorem none_d {m : Int} {xs ys : List Int} {w w' : World} (h : dOk m xs ys = false) (hg : w.grownBy w' none) : Two (dA m xs ys) (dB m xs ys) (dN m xs ys) w w' (.slice none 0 0) (.slice none 0 0) := by
  unfold dA dB dN; rw [h]; exact two_nil hg
theorem st0 {xs ys : List Int} (hl : xs.length = ys.length) : List.zipWith (stA 0) xs ys = xs ∧ List.zipWith (stB 0) xs ys = ys := ⟨zip_first hl, zip_second hl⟩
theorem st1 {xs ys : List Int} (hl : xs.length = ys.length) : List.zipWith (stA 1) xs ys = xs ∧ List.zipWith (stB 1) xs ys = List.zipWith (stB 3) xs ys := ⟨zip_first hl, rfl⟩
theorem st2 {xs ys : List Int} (hl : xs.length = ys.length) : List.zipWith (stA 2) xs ys = List.zipWith (stB 3) xs ys ∧ List.zipWith (stB 2) xs ys = ys := ⟨rfl, zip_second hl⟩

set_option maxRecDepth 100000 in
set_option maxHeartbeats 1000000 in
theorem sEncL_any (m : Nat) (hm : m ≤ 3) (xs ys : List Int) (n : Nat) (ao bo : Option Addr) (cap cap' : Nat) (w : World) (hx : Ints w ao n xs) (hy : Ints w bo n ys) (hn : ao = none → cap = 0) (hn' : bo = none → cap' = 0) (hv : vP xs ys 32767 = true) :
    Calls Try.prog 48 #[.int .i64 (m : Int), .slice ao n cap, .slice bo n cap'] w (MadeTwo (List.zipWith (stA m) xs ys) (List.zipWith (stB m) xs ys) n w) := by
  have k0 := sMid_any xs ys n ao bo cap cap' w hx hy hv
  have hl : xs.length = ys.length := by rw [hx.1, hy.1]
  have h64 : n ≤ 64 := by rw [← hx.1]; exact (vP_of hv).2.1
  have HX := Lib.hid hx
  have HY := Lib.hid hy
  have HN := Lib.hid hn
  have HN' := Lib.hid hn'
  have HL := Lib.hid hl
  clear hx hy hn hn' hv hl
  rcases mode_four hm with rfl | rfl | rfl | rfl
  · rw [(st0 HL.out).1, (st0 HL.out).2]
    go_enter Try.func48, Try.ntmps48
    go_wp2_with fail
    refine k0.mono ?_
    rintro e w1 ⟨v1, u1, rfl, ht⟩
    have HT := Lib.hid ht
    clear k0 ht
    go_wp2_with fail
    refine (copyInts_any xs ao n cap w1 (HX.out.grown HT.out.g) HN.out (by omega)).mono ?_
    rintro e w2 ⟨v2, rfl, ho2, hg2⟩
    have HO := Lib.hid ho2
    have HG := Lib.hid hg2
    clear ho2 hg2
    go_wp2_with fail
    refine (copyInts_any ys bo n cap' w2 (HY.out.grown (grown_trans HT.out.g HG.out)) HN'.out (by omega)).mono ?_
    rintro e w3 ⟨v3, rfl, ho3, hg3⟩
    have R := Lib.hid ((two_of HO.out HG.out ho3 hg3).before HT.out.g)
    clear ho3 hg3
    go_wp2
    go_ret2
    exact ⟨_, _, rfl, R.out⟩
  · rw [(st1 HL.out).1, (st1 HL.out).2]
    go_enter Try.func48, Try.ntmps48
    go_wp2_with fail
    refine k0.mono ?_
    rintro e w1 ⟨v1, u1, rfl, ht⟩
    have HT := Lib.hid ht
    clear k0 ht
    go_wp2_with fail
    refine (copyInts_any xs ao n cap w1 (HX.out.grown HT.out.g) HN.out (by omega)).mono ?_
    rintro e w2 ⟨v2, rfl, ho2, hg2⟩
    have R := Lib.hid (two_of HT.out.o2 HT.out.g ho2 hg2).swap
    clear ho2 hg2
    go_wp2
    go_ret2
    exact ⟨_, _, rfl, R.out⟩
  · rw [(st2 HL.out).1, (st2 HL.out).2]
    go_enter Try.func48, Try.ntmps48
    go_wp2_with fail
    refine k0.mono ?_
    rintro e w1 ⟨v1, u1, rfl, ht⟩
    have HT := Lib.hid ht
    clear k0 ht
    go_wp2_with fail
    refine (copyInts_any ys bo n cap' w1 (HY.out.grown HT.out.g) HN'.out (by omega)).mono ?_
    rintro e w2 ⟨v2, rfl, ho2, hg2⟩
    have R := Lib.hid (two_of HT.out.o2 HT.out.g ho2 hg2)
    clear ho2 hg2
    go_wp2
    go_ret2
    exact ⟨_, _, rfl, R.out⟩
  · go_enter Try.func48, Try.ntmps48
    go_wp2_with fail
    refine k0.mono ?_
    rintro e w1 ⟨v1, u1, rfl, ht⟩
    have HT := Lib.hid ht
    clear k0 ht
    go_wp2
    go_ret2
    exact ⟨_, _, rfl, HT.out⟩

set_option maxRecDepth 100000 in
set_option maxHeartbeats 1000000 in
theorem sEnc_any (m : Int) (xs ys : List Int) (ao bo : Option Addr) (len cap len' cap' : Nat) (w : World) (hx : Ints w ao len xs) (hy : Ints w bo len' ys) (hn : ao = none → cap = 0) (hn' : bo = none → cap' = 0) (hmax : len ≤ 4611686018427387904) (hmax' : len' ≤ 4611686018427387904) :
    Calls Try.prog 25 #[.int .i64 m, .slice ao len cap, .slice bo len' cap'] w (MadeTwoB (eA m xs ys) (eB m xs ys) (eN m xs ys) (eOk m xs ys) w) := by
  have k0 := inRange_any m 0 3 (inB m 0 3) w rfl
  have k1 := sLVP_any xs ys ao bo len cap len' cap' w (vP xs ys 32767) hx hy hmax hmax' rfl
  cases h0 : inB m 0 3 with
  | false =>
    have HF : Hid (eOk m xs ys = false) := by show _ = _; unfold eOk; rw [h0]; rfl
    rw [h0] at k0
    rw [HF.out]
    clear h0 k1 hx hy hn hn'
    go_enter Try.func25, Try.ntmps25
    go_wp2_with fail
    refine k0.mono ?_
    rintro e w' ⟨rfl, rfl⟩
    clear k0
    go_wp2
    go_ret3
    exact ⟨_, _, rfl, none_e HF.out (grown_refl _ _)⟩
  | true =>
    rw [h0] at k0
    have hm : 0 ≤ m ∧ m ≤ 3 := by simpa [inB] using h0
    cases h1 : vP xs ys 32767 with
    | false =>
      have HF : Hid (eOk m xs ys = false) := by show _ = _; unfold eOk; rw [h1]; simp
      rw [h1] at k1
      rw [HF.out]
      clear h0 h1 hx hy hn hn' hm
      go_enter Try.func25, Try.ntmps25
      go_wp2_with fail
      refine k0.mono ?_
      rintro e w' ⟨rfl, rfl⟩
      clear k0
      go_wp2_with fail
      refine k1.mono ?_
      rintro e w' ⟨rfl, rfl⟩
      clear k1
      go_wp2
      go_ret3
      exact ⟨_, _, rfl, none_e HF.out (grown_refl _ _)⟩
    | true =>
      have HF : Hid (eOk m xs ys = true) := by show _ = _; unfold eOk; rw [h0, h1]; rfl
      have hle : len' = len := by rw [← hx.1, ← hy.1]; exact (vP_of h1).1.symm
      subst hle
      rw [h1] at k1
      obtain ⟨q, rfl⟩ := Int.eq_ofNat_of_zero_le hm.1
      have k2 := sEncL_any q (by omega) xs ys len' ao bo cap cap' w hx hy hn hn' h1
      have HL := Lib.hid hx.1
      rw [HF.out]
      clear h0 h1 hx hy hn hn' hm
      go_enter Try.func25, Try.ntmps25
      go_wp2_with fail
      refine k0.mono ?_
      rintro e w' ⟨rfl, rfl⟩
      clear k0
      go_wp2_with fail
      refine k1.mono ?_
      rintro e w' ⟨rfl, rfl⟩
      clear k1
      go_wp2_with fail
      refine k2.mono ?_
      rintro e w' ⟨v, u, rfl, ht⟩
      have HT := Lib.hid (made_e (m := (q : Int)) HL.out HF.out ht)
      clear k2 ht
      go_wp2
      go_ret3
      exact ⟨_, _, rfl, HT.out⟩

theorem eOk_three (xs ys : List Int) : eOk 3 xs ys = vP xs ys 32767 := by unfold eOk; simp [inB]
set_option maxRecDepth 100000 in
set_option maxHeartbeats 1000000 in
theorem sMidSide_any (xs ys : List Int) (ao bo : Option Addr) (len cap len' cap' : Nat) (w : World) (hx : Ints w ao len xs) (hy : Ints w bo len' ys) (hmax : len ≤ 4611686018427387904) (hmax' : len' ≤ 4611686018427387904) :
    Calls Try.prog 17 #[.slice ao len cap, .slice bo len' cap'] w (MadeTwo (eA 3 xs ys) (eB 3 xs ys) (eN 3 xs ys) w) := by
  have k1 := sLVP_any xs ys ao bo len cap len' cap' w (vP xs ys 32767) hx hy hmax hmax' rfl
  cases h1 : vP xs ys 32767 with
  | false =>
    have HF : Hid (eOk 3 xs ys = false) := by show _ = _; rw [eOk_three, h1]
    rw [h1] at k1
    clear h1 hx hy
    go_enter Try.func17, Try.ntmps17
    go_wp2_with fail
    refine k1.mono ?_
    rintro e w' ⟨rfl, rfl⟩
    clear k1
    go_wp2
    go_ret2
    exact ⟨_, _, rfl, none_e HF.out (grown_refl _ _)⟩
  | true =>
    have HF : Hid (eOk 3 xs ys = true) := by show _ = _; rw [eOk_three, h1]
    have hle : len' = len := by rw [← hx.1, ← hy.1]; exact (vP_of h1).1.symm
    subst hle
    rw [h1] at k1
    have k2 := sMid_any xs ys len' ao bo cap cap' w hx hy h1
    have HL := Lib.hid hx.1
    clear h1 hx hy
    go_enter Try.func17, Try.ntmps17
    go_wp2_with fail
    refine k1.mono ?_
    rintro e w' ⟨rfl, rfl⟩
    clear k1
    go_wp2_with fail
    refine k2.mono ?_
    rintro e w' ⟨v, u, rfl, ht⟩
    have HT := Lib.hid (made_e (m := 3) HL.out HF.out ht)
    clear k2 ht
    go_wp2
    go_ret2
    exact ⟨_, _, rfl, HT.out⟩

end Go.Proofs.Ytbjkclbgocpbkaa
