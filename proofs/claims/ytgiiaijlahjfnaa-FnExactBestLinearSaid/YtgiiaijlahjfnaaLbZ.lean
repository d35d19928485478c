/-
  The walk of 'FnExactBestLinear': it returns true and writes nothing that was there. For all arguments.
-/
import Derived.Test.YtgiiaijlahjfnaaLbY
namespace Go.Proofs.Ytgiiaijlahjfnaa
open Go.RowKit

set_option maxRecDepth 100000 in
set_option maxHeartbeats 4000000 in
theorem FnExactBestLinear_walk (ao0 : Option Addr) (len0 cap0 : Nat) (ao1 : Option Addr) (len1 cap1 : Nat) (w : World) (xs0 : List Int) (hx0 : Ints w ao0 len0 xs0) (hmax0 : len0 ≤ 9223372036854775807) (ls : List LinV) (hl1 : LinsW w ao1 len1 ls) (hmax1 : len1 ≤ 9223372036854775807) :
    Calls Try.prog 11 #[.slice ao0 len0 cap0, .slice ao1 len1 cap1] w (Holds w) := by
  by_cases hlen0 : 1048576 < len0
  · clear hx0 hl1
    go_enter Try.func11, Try.ntmps11
    go_wp2
    go_ret
    exact ⟨rfl, grown_refl _ _⟩
  have hlen0' : len0 ≤ 1048576 := by omega
  have hm0 : decide (1048576 < (len0 : Int)) = false := by simp; omega
  have hll := hl1.1
  by_cases hs : szLs ls ≤ 1048576
  · have ksz := szLinearS_any ls ao1 len1 cap1 (1048576 - (szLs ls : Int)) w hl1 hmax1 (by rw [if_pos (by omega)])
    obtain ⟨s, hs2⟩ : ∃ s : Nat, 1048576 - szLs ls = s := ⟨_, rfl⟩
    rw [show (1048576 : Int) - (szLs ls : Int) = (s : Int) by omega] at ksz
    have hlen1 : len1 ≤ 1048576 := by unfold szLs at hs; omega
    have HN := Lib.hid (show ∀ l ∈ ls, l.n ≤ 1048576 from fun l h => Nat.le_trans (n_le h) hs)
    have HX := Lib.hid hx0
    have HL := Lib.hid (hl1.strong HN.out)
    clear hx0 hl1 hs hs2 hlen0 hll
    go_enter Try.func11, Try.ntmps11
    go_wp2_with fail
    refine ksz.mono ?_
    rintro e w1 ⟨rfl, hg1⟩
    have HG := Lib.hid hg1
    clear ksz hg1
    go_wp2_with fail
    refine (toIntS_any xs0 ao0 len0 cap0 _ (HX.out.grown HG.out) (by omega)).mono ?_
    rintro e w2 ⟨v2, rfl, ho2, hg2⟩
    obtain ⟨a2, c2, rfl, hlc2, _, hx2, _⟩ := ho2.reads
    replace HG := Lib.hid (grown_trans HG.out hg2)
    have HX2 := Lib.hid hx2
    clear ho2 hg2 hx2
    go_wp2_with fail
    refine (toLinearS_any ls ao1 len1 cap1 _ (HL.out.grown HG.out) hlen1 HN.out).mono ?_
    rintro e w3 ⟨g3, rfl, _, ⟨ls3, hls3, hk3⟩, hg3⟩
    replace HG := Lib.hid (grown_trans HG.out hg3)
    replace HX2 := Lib.hid (HX2.out.grown hg3)
    obtain ⟨z, hz⟩ : ∃ z, bestZ xs0 ls = z := ⟨_, rfl⟩
    have HZ3 := Lib.hid ((bestZ_key (xs := xs0) hk3).trans hz)
    have HL3 := Lib.hid hls3
    have HZ := Lib.hid hz
    clear hg3 hls3 hk3 hz
    go_wp2_with fail
    refine (sBest_any xs0 ls3 len0 len1 z a2 _ c2 len1 _ HX2.out HL3.out (by omega) (by omega) HZ3.out).mono ?_
    rintro e w4 ⟨rfl, hg4⟩
    replace HG := Lib.hid (grown_trans HG.out hg4)
    clear hg4 HX2 HL3 HZ3
    go_wp2_with fail
    refine (toIntS_any xs0 ao0 len0 cap0 _ (HX.out.grown HG.out) (by omega)).mono ?_
    rintro e w5 ⟨v5, rfl, ho5, hg5⟩
    obtain ⟨a5, c5, rfl, hlc5, _, hx5, _⟩ := ho5.reads
    replace HG := Lib.hid (grown_trans HG.out hg5)
    have HX5 := Lib.hid hx5
    clear ho5 hg5 hx5
    go_wp2_with fail
    refine (toLinearS_any ls ao1 len1 cap1 _ (HL.out.grown HG.out) hlen1 HN.out).mono ?_
    rintro e w6 ⟨g6, rfl, _, ⟨ls6, hls6, hk6⟩, hg6⟩
    replace HG := Lib.hid (grown_trans HG.out hg6)
    replace HX5 := Lib.hid (HX5.out.grown hg6)
    have HZ6 := Lib.hid ((bestZ_key (xs := xs0) hk6).trans HZ.out)
    have HL6 := Lib.hid hls6
    have HK6 := Lib.hid hk6
    clear hg6 hls6 hk6
    go_wp2_with fail
    refine (iBest_any xs0 ls6 len0 len1 z a5 _ c5 len1 _ HX5.out hlc5 HL6.out (by omega) (by omega) HZ6.out).mono ?_
    rintro e w7 ⟨rfl, hg7⟩
    replace HG := Lib.hid (grown_trans HG.out hg7)
    replace HX5 := Lib.hid (HX5.out.grown hg7)
    replace HL6 := Lib.hid (HL6.out.grown hg7)
    clear hg7 HZ6
    go_wp2_with fail
    refine (toIntS_any xs0 ao0 len0 cap0 _ (HX.out.grown HG.out) (by omega)).mono ?_
    rintro e w8 ⟨v8, rfl, ho8, hg8⟩
    obtain ⟨a8, c8, rfl, _, _, hx8, _⟩ := ho8.reads
    replace HG := Lib.hid (grown_trans HG.out hg8)
    replace HX5 := Lib.hid (HX5.out.grown hg8)
    replace HL6 := Lib.hid (HL6.out.grown hg8)
    have HX8 := Lib.hid hx8
    clear ho8 hg8 hx8
    go_wp2_with fail
    refine (eqIntS_any xs0 xs0 a5 a8 len0 c5 len0 c8 true _ HX5.out HX8.out (by omega) (by simp)).mono ?_
    rintro e w9 ⟨rfl, hg9⟩
    replace HG := Lib.hid (grown_trans HG.out hg9)
    replace HL6 := Lib.hid (HL6.out.grown hg9)
    clear hg9 HX5 HX8
    go_wp2_with fail
    refine (toLinearS_any ls ao1 len1 cap1 _ (HL.out.grown HG.out) hlen1 HN.out).mono ?_
    rintro e w10 ⟨g10, rfl, _, ⟨ls10, hls10, hk10⟩, hg10⟩
    replace HG := Lib.hid (grown_trans HG.out hg10)
    replace HL6 := Lib.hid (HL6.out.grown hg10)
    have HL10 := Lib.hid hls10
    have HK10 := Lib.hid (hk10.trans HK6.out.symm)
    have HN6 := Lib.hid (show ∀ l ∈ ls6, l.n ≤ 4194304 from fun l h => by
      obtain ⟨k, hk⟩ := List.getElem?_of_mem h
      obtain ⟨l2, h2, e, _⟩ := key_at HK6.out.symm hk
      have := HN.out l2 (List.mem_of_getElem? h2)
      omega)
    clear hg10 hls10 hk10
    go_wp2_with fail
    refine (eqLinearS_any ls6 ls10 _ _ len1 len1 len1 _ HL6.out HL10.out HK10.out (by omega) HN6.out).mono ?_
    rintro e w11 ⟨rfl, hg11⟩
    replace HG := Lib.hid (grown_trans HG.out hg11)
    clear hg11
    go_wp2
    go_ret
    exact ⟨rfl, HG.out⟩
  · have ksz := szLinearS_any ls ao1 len1 cap1 (-1) w hl1 hmax1 (by rw [if_neg (by omega)])
    clear hx0 hl1 hs hlen0 hll
    go_enter Try.func11, Try.ntmps11
    go_wp2_with fail
    refine ksz.mono ?_
    rintro e w1 ⟨rfl, hg1⟩
    have HG := Lib.hid hg1
    clear ksz hg1
    go_wp2
    go_ret
    exact ⟨rfl, HG.out⟩

end Go.Proofs.Ytgiiaijlahjfnaa
