/-
  Both encodings of a number, and the walk of the exact law on them. For worlds that hold the table of the forms.
-/
import Derived.Test.YtcngickbnaefoaaDoorEncN
import Derived.Test.YtcngickbnaefoaaDoorEncS
import Derived.Test.YtcngickbnaefoaaDoorMem
namespace Go.Proofs.YtcngickbnaefoaaDoor
open Go.RowKit

theorem Stands.asInts {w0 w : World} {L L1 : List (Nat × Obj)} {len base cap : Nat} {ao : Option Addr} {xs : List Int} (hs : Stands L1 base (.slice ao len cap) len xs) (m : Mem w0 w L) (hin : ∀ p ∈ L1, p ∈ L) : Ints w ao len xs := by
  obtain ⟨ao', cap', hv, _, _, hi, _⟩ := (m.owns hs hin).reads
  injection hv with h1 _ _; subst h1; exact hi

theorem iEnc_out (n : Int) (w : World) (h : n < 0 ∨ 2147483647 < n) : Calls Tryd.prog 9 #[.int .i64 n] w (Made [] 0 w) := by
  rcases h with h | h
  · have d0 : decide (n < 0) = true := by simpa using h
    go_enter Tryd.func9, Tryd.ntmps9
    go_wp2
    go_ret
    exact ⟨_, rfl, World.ownsRow_nil _ _ _ _, grown_refl _ _⟩
  · have d0 : decide (n < 0) = false := by simp; omega
    have d1 : decide (2147483647 < n) = true := by simpa using h
    go_enter Tryd.func9, Tryd.ntmps9
    go_wp2
    go_ret
    exact ⟨_, rfl, World.ownsRow_nil _ _ _ _, grown_refl _ _⟩
theorem sEnc_out (n : Int) (w : World) (h : n < 0 ∨ 2147483647 < n) : Calls Tryd.prog 11 #[.int .i64 n] w (Made [] 0 w) := by
  have k := inRange_any n 0 2147483647 false w (inB_false (by omega))
  go_enter Tryd.func11, Tryd.ntmps11
  go_wp2_with fail
  refine k.mono ?_
  rintro e w' ⟨rfl, rfl⟩
  clear k
  go_wp2
  go_ret
  exact ⟨_, rfl, World.ownsRow_nil _ _ _ _, grown_refl _ _⟩
theorem sEnc_in {n : Int} {L : List Int} {len : Nat} {w : World} (h0 : 0 ≤ n) (h1 : n ≤ 2147483647) (hc : Calls Tryd.prog 22 #[.int .i64 n] w (Made L len w)) : Calls Tryd.prog 11 #[.int .i64 n] w (Made L len w) := by
  have k := inRange_any n 0 2147483647 true w (inB_true h0 h1)
  clear h0 h1
  go_enter Tryd.func11, Tryd.ntmps11
  go_wp2_with fail
  refine k.mono ?_
  rintro e w' ⟨rfl, rfl⟩
  clear k
  go_wp2_with fail
  refine hc.mono ?_
  rintro e w1 ⟨v1, rfl, ho, hg⟩
  have H := Lib.hid (And.intro ho hg)
  clear hc ho hg
  go_wp2
  go_ret
  exact ⟨_, rfl, H.out.1, H.out.2⟩

/-- Both give the same list, of at most six bytes. -/
theorem enc_both (n : Int) : ∃ (L : List Int) (len : Nat), len ≤ 6 ∧ Hid (∀ w, HasForms w → Calls Tryd.prog 9 #[.int .i64 n] w (Made L len w)) ∧ Hid (∀ w, Calls Tryd.prog 11 #[.int .i64 n] w (Made L len w)) := by
  by_cases h : n < 0 ∨ 2147483647 < n
  · exact ⟨[], 0, by omega, fun w _ => iEnc_out n w h, fun w => sEnc_out n w h⟩
  · obtain ⟨m, rfl⟩ := Int.eq_ofNat_of_zero_le (show 0 ≤ n by omega)
    have hm : m ≤ 2147483647 := by omega
    by_cases h0 : m < 128
    · exact ⟨_, 1, by omega, fun w hf => iEnc0 m w hf (Nat.zero_le _) h0, fun w => sEnc_in (by omega) (by omega) (sEnc0 m w (Nat.zero_le _) h0)⟩
    by_cases h1 : m < 2048
    · exact ⟨_, 2, by omega, fun w hf => iEnc1 m w hf (by omega) h1, fun w => sEnc_in (by omega) (by omega) (sEnc1 m w (by omega) h1)⟩
    by_cases h2 : m < 65536
    · exact ⟨_, 3, by omega, fun w hf => iEnc2 m w hf (by omega) h2, fun w => sEnc_in (by omega) (by omega) (sEnc2 m w (by omega) h2)⟩
    by_cases h3 : m < 2097152
    · exact ⟨_, 4, by omega, fun w hf => iEnc3 m w hf (by omega) h3, fun w => sEnc_in (by omega) (by omega) (sEnc3 m w (by omega) h3)⟩
    by_cases h4 : m < 67108864
    · exact ⟨_, 5, by omega, fun w hf => iEnc4 m w hf (by omega) h4, fun w => sEnc_in (by omega) (by omega) (sEnc4 m w (by omega) h4)⟩
    by_cases h5 : m < 2147483648
    · exact ⟨_, 6, by omega, fun w hf => iEnc5 m w hf (by omega) h5, fun w => sEnc_in (by omega) (by omega) (sEnc5 m w (by omega) h5)⟩
    exfalso; omega

set_option maxHeartbeats 2000000 in
theorem FnExactEncodeNumber_walk (n : Int) (w : World) (hf : HasForms w) : Calls Tryd.prog 6 #[.int .i64 n] w fun e w' => e = .returned (.bool true) ∧ w.grownBy w' none := by
  obtain ⟨L, len, hlen, HI, HS⟩ := enc_both n
  have HF := Lib.hid hf
  clear hf
  go_enter Tryd.func6, Tryd.ntmps6
  go_wp2_with fail
  refine (HS.out _).mono ?_
  rintro e w1 ⟨v1, rfl, ho1, hg1⟩
  obtain ⟨L1, hs1, hm1⟩ := (Mem.start w).own hg1 (Nat.le_refl _) ho1
  obtain ⟨a1, c1, rfl, _⟩ := ho1.reads
  have HS1 := Lib.hid hs1
  have HM1 := Lib.hid hm1
  clear ho1 hg1 hs1 hm1
  go_wp2_with fail
  refine (HI.out _ (HF.out.grown HM1.out.g)).mono ?_
  rintro e w2 ⟨v2, rfl, ho2, hg2⟩
  obtain ⟨L2, hs2, hm2⟩ := HM1.out.own hg2 (Nat.le_refl _) ho2
  obtain ⟨a2, c2, rfl, _⟩ := ho2.reads
  have HS2 := Lib.hid hs2
  have HM2 := Lib.hid hm2
  clear ho2 hg2 hs2 hm2
  go_wp2_with fail
  refine (eqIntS_any L L a2 a1 len c2 len c1 true _ (HS2.out.asInts HM2.out (by intro p hp; simp [hp])) (HS1.out.asInts HM2.out (by intro p hp; simp [hp])) (by omega) (by simp)).mono ?_
  rintro e w3 ⟨rfl, hg3⟩
  have HM3 := Lib.hid (HM2.out.grown hg3)
  clear hg3
  go_wp2_with fail
  refine (markIntS_any L (.slice a2 len c2) _ len 1 _ (HM3.out.owns HS2.out (by intro p hp; simp [hp])) (by omega) (by omega) (by omega)).mono ?_
  rintro e w4 ⟨rfl, ho4, hg4⟩
  obtain ⟨L4, hs4, hm4⟩ := Mem.write (A := [] ++ L1) (L1 := L2) (B := []) (HM3.out.cast (by simp)) HS2.out hg4 ho4
  have HS4 := Lib.hid hs4
  have HM4 := Lib.hid hm4
  clear ho4 hg4 hs4 hm4
  go_wp2_with fail
  refine (heldIntS_any a2 len c2 1 _ (HS4.out.asInts HM4.out (by intro p hp; simp [hp])) (by omega) (by omega) (by omega)).mono ?_
  rintro e w5 ⟨rfl, rfl⟩
  go_wp2_with fail
  refine (HI.out _ (HF.out.grown HM4.out.g)).mono ?_
  rintro e w6 ⟨v6, rfl, ho6, hg6⟩
  obtain ⟨L6, hs6, hm6⟩ := HM4.out.own hg6 (Nat.le_refl _) ho6
  obtain ⟨a6, c6, rfl, _⟩ := ho6.reads
  have HS6 := Lib.hid hs6
  have HM6 := Lib.hid hm6
  clear ho6 hg6 hs6 hm6
  go_wp2_with fail
  refine (eqIntS_any L L a6 a1 len c6 len c1 true _ (HS6.out.asInts HM6.out (by intro p hp; simp [hp])) (HS1.out.asInts HM6.out (by intro p hp; simp [hp])) (by omega) (by simp)).mono ?_
  rintro e w7 ⟨rfl, hg7⟩
  have HM7 := Lib.hid (HM6.out.grown hg7)
  clear hg7
  go_wp2_with fail
  refine (heldIntS_any a2 len c2 1 _ (HS4.out.asInts HM7.out (by intro p hp; simp [hp])) (by omega) (by omega) (by omega)).mono ?_
  rintro e w8 ⟨rfl, rfl⟩
  go_wp2
  go_ret
  exact ⟨rfl, HM7.out.g⟩

end Go.Proofs.YtcngickbnaefoaaDoor
