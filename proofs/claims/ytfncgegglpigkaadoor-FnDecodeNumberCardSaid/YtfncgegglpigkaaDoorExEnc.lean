/-
  Both encodings of a number, and the walk of the exact law on them. For worlds that hold the table of the forms.
-/
import Derived.Test.YtfncgegglpigkaaDoorEncN
import Derived.Test.YtfncgegglpigkaaDoorEncS
import Derived.Test.YtfncgegglpigkaaDoorMem
namespace Go.Proofs.YtfncgegglpigkaaDoor
open Go.RowKit

theorem Stands.asInts {w0 w : World} {L L1 : List (Nat × Obj)} {len base cap : Nat} {ao : Option Addr} {xs : List Int} (hs : Stands L1 base (.slice ao len cap) len xs) (m : Mem w0 w L) (hin : ∀ p ∈ L1, p ∈ L) : Ints w ao len xs := by
  obtain ⟨ao', cap', hv, _, _, hi, _⟩ := (m.owns hs hin).reads
  injection hv with h1 _ _; subst h1; exact hi

theorem iEnc_out (n : Int) (w : World) (h : n < 0 ∨ 2147483647 < n) : Calls Tryd.prog 6 #[.int .i64 n] w (Made [] 0 w) := by
  rcases h with h | h
  · have d0 : decide (n < 0) = true := by simpa using h
    go_enter Tryd.func6, Tryd.ntmps6
    go_wp2
    go_ret
    exact ⟨_, rfl, World.ownsRow_nil _ _ _ _, grown_refl _ _⟩
  · have d0 : decide (n < 0) = false := by simp; omega
    have d1 : decide (2147483647 < n) = true := by simpa using h
    go_enter Tryd.func6, Tryd.ntmps6
    go_wp2
    go_ret
    exact ⟨_, rfl, World.ownsRow_nil _ _ _ _, grown_refl _ _⟩
theorem sEnc_out (n : Int) (w : World) (h : n < 0 ∨ 2147483647 < n) : Calls Tryd.prog 8 #[.int .i64 n] w (Made [] 0 w) := by
  have k := inRange_any n 0 2147483647 false w (inB_false (by omega))
  go_enter Tryd.func8, Tryd.ntmps8
  go_wp2_with fail
  refine k.mono ?_
  rintro e w' ⟨rfl, rfl⟩
  clear k
  go_wp2
  go_ret
  exact ⟨_, rfl, World.ownsRow_nil _ _ _ _, grown_refl _ _⟩
theorem sEnc_in {n : Int} {L : List Int} {len : Nat} {w : World} (h0 : 0 ≤ n) (h1 : n ≤ 2147483647) (hc : Calls Tryd.prog 15 #[.int .i64 n] w (Made L len w)) : Calls Tryd.prog 8 #[.int .i64 n] w (Made L len w) := by
  have k := inRange_any n 0 2147483647 true w (inB_true h0 h1)
  clear h0 h1
  go_enter Tryd.func8, Tryd.ntmps8
  go_wp2_with fail
  refine k.mono ?_
  rintro e w' ⟨rfl, rfl⟩
  clear k
  go_wp2_with fail
  refine hc.mono ?_
  rintro e w1 ⟨v1, rfl, ho, hg⟩
  have H := Lib.hid (And.intro ho hg)
  clear hc ho hg
  go_wp2
  go_ret
  exact ⟨_, rfl, H.out.1, H.out.2⟩

/-- Both give the same list, of at most six bytes. -/
theorem enc_both (n : Int) : ∃ (L : List Int) (len : Nat), len ≤ 6 ∧ Hid (∀ w, HasForms w → Calls Tryd.prog 6 #[.int .i64 n] w (Made L len w)) ∧ Hid (∀ w, Calls Tryd.prog 8 #[.int .i64 n] w (Made L len w)) := by
  by_cases h : n < 0 ∨ 2147483647 < n
  · exact ⟨[], 0, by omega, fun w _ => iEnc_out n w h, fun w => sEnc_out n w h⟩
  · obtain ⟨m, rfl⟩ := Int.eq_ofNat_of_zero_le (show 0 ≤ n by omega)
    have hm : m ≤ 2147483647 := by omega
    by_cases h0 : m < 128
    · exact ⟨_, 1, by omega, fun w hf => iEnc0 m w hf (Nat.zero_le _) h0, fun w => sEnc_in (by omega) (by omega) (sEnc0 m w (Nat.zero_le _) h0)⟩
    by_cases h1 : m < 2048
    · exact ⟨_, 2, by omega, fun w hf => iEnc1 m w hf (by omega) h1, fun w => sEnc_in (by omega) (by omega) (sEnc1 m w (by omega) h1)⟩
    by_cases h2 : m < 65536
    · exact ⟨_, 3, by omega, fun w hf => iEnc2 m w hf (by omega) h2, fun w => sEnc_in (by omega) (by omega) (sEnc2 m w (by omega) h2)⟩
    by_cases h3 : m < 2097152
    · exact ⟨_, 4, by omega, fun w hf => iEnc3 m w hf (by omega) h3, fun w => sEnc_in (by omega) (by omega) (sEnc3 m w (by omega) h3)⟩
    by_cases h4 : m < 67108864
    · exact ⟨_, 5, by omega, fun w hf => iEnc4 m w hf (by omega) h4, fun w => sEnc_in (by omega) (by omega) (sEnc4 m w (by omega) h4)⟩
    by_cases h5 : m < 2147483648
    · exact ⟨_, 6, by omega, fun w hf => iEnc5 m w hf (by omega) h5, fun w => sEnc_in (by omega) (by omega) (sEnc5 m w (by omega) h5)⟩
    exfalso; omega

end Go.Proofs.YtfncgegglpigkaaDoor
