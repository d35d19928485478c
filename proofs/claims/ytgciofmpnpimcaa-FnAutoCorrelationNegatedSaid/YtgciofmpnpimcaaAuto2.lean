/-
  The specification's correlations; both texts give one list. The lists are at most 4194304 numbers long.
-/
import Derived.Test.YtgciofmpnpimcaaAuto
namespace Go.Proofs.Ytgciofmpnpimcaa
open Go.RowKit

theorem own_step {w wr w2 : World} {o : Obj} {bv v2 : Value} {n m base : Nat} {ys zs : List Int} (h : Owns wr base bv n ys) (hb : w.heap.size ≤ base) (g : w.grownBy wr none) (hg : (wr.alloc o).grownBy w2 bv.ownBlock) (ho : Owns w2 base v2 m zs) : Owns w2 base v2 m zs ∧ w.grownBy w2 none :=
  ⟨ho, grown_row (grown_trans g (grown_alloc _ _ _)) hg (fun g e => Nat.le_trans hb (h.block g e))⟩

set_option maxRecDepth 100000 in
set_option maxHeartbeats 2000000 in
theorem sAuto_loop (xs : List Int) (m n : Nat) (ao : Option Addr) (len cap : Nat) (w : World) (hx : Ints w ao len xs) (hv : vS xs = true) (hm : m ≤ 8) (hn : n = m + 1) :
    Calls Try.prog 17 #[.slice ao len cap, .int .i64 (m : Int)] w (Made (acL xs n) n w) := by
  have hlen := vS_len hv
  have hxl := hx.1
  have k1 := sValidSamples_any xs ao len cap (w.alloc (.cells #[] 3)) true (hx.grown (grown_alloc _ _ _)) (by omega) hv
  have k2 := inRange_any (m : Int) 0 8 true (w.alloc (.cells #[] 3)) (inB_true (by omega) (by omega))
  have HX := Lib.hid hx
  have HV := Lib.hid hv
  have HN := Lib.hid hn
  have HW : Hid (Owns (w.alloc (.cells #[] 3)) w.heap.size (.slice (some ⟨w.heap.size, 0, none⟩) 0 0) 0 (acL xs 0) ∧ w.grownBy (w.alloc (.cells #[] 3)) none) := ⟨owns_empty w, grown_alloc _ _ _⟩
  clear hx hv hn
  go_enter Try.func17, Try.ntmps17
  go_wp2_with fail
  refine k1.mono ?_
  rintro e w' ⟨rfl, rfl⟩
  clear k1
  go_wp2_with fail
  refine k2.mono ?_
  rintro e w' ⟨rfl, rfl⟩
  clear k2
  go_wp2
  go_loopw [5, 6] (fun sv iv wr => ∃ (k : Nat) (bv : Value), bv = sv ∧ k ≤ m + 1 ∧ iv = .int .i64 k ∧ Hid (Owns wr w.heap.size bv k (acL xs k) ∧ w.grownBy wr none)) (fun _ iv _ => m + 1 - (intOf iv).toNat)
  case atStart => exact ⟨0, _, rfl, Nat.zero_le _, rfl, HW⟩
  case round =>
    obtain ⟨k, bv, rfl, hk, rfl, HR⟩ := hrel
    by_cases hlt : k < m + 1
    · obtain ⟨a1, c1, rfl, _, _, _, _⟩ := HR.out.1.reads
      have hkm : k ≤ m := by omega
      go_wp2_with fail
      refine (sCor_any xs k _ ao len cap _ (HX.out.grown HR.out.2) HV.out (by omega) rfl).mono ?_
      rintro e w1 ⟨rfl, hg1⟩
      have HR1 : Hid (Owns w1 w.heap.size (.slice a1 k c1) k (acL xs k) ∧ w.grownBy w1 none) := ⟨HR.out.1.grown hg1, grown_trans HR.out.2 hg1⟩
      clear hg1 HR
      go_wp2_with (at_builtin; refine append_ints rfl _ _ rfl w.heap.size (.slice a1 k c1) k (acL xs k) rfl (HR1.out.1.grown (grown_alloc _ _ _)) (some ⟨w1.heap.size, 0, none⟩) 1 1 [ac xs k] rfl (ints_one _ _ _) (fun e => nomatch e) ?a1 ?a2 ?_)
      case a1 => omega
      case a2 => have := HR1.out.2.size; simp; omega
      intro v2 w2 hown hgrow
      have HN2 := own_step HR1.out.1 (Nat.le_refl _) HR1.out.2 hgrow hown
      rw [← acL_succ] at HN2
      have HN3 := Lib.hid HN2
      clear hown hgrow HR1 HN2
      go_wp2
      go_roundw
      case rel => exact ⟨k + 1, v2, rfl, by omega, by go_num, HN3⟩
      case measure => simp [intOf]; omega
    · obtain rfl : k = m + 1 := by omega
      have hn := HN.out
      subst hn
      obtain ⟨a1, c1, rfl, _, _, _, _⟩ := HR.out.1.reads
      go_wp2
      go_ret
      exact ⟨_, rfl, HR.out⟩

set_option maxHeartbeats 1000000 in
theorem sAuto_bad (xs : List Int) (m : Int) (ao : Option Addr) (len cap : Nat) (w : World) (hx : Ints w ao len xs) (hmax : len ≤ 4611686018427387904) (hv : vS xs = false ∨ inB m 0 8 = false) :
    Calls Try.prog 17 #[.slice ao len cap, .int .i64 m] w (Made [] 0 w) := by
  cases hb : vS xs with
  | false =>
    have k1 := sValidSamples_any xs ao len cap (w.alloc (.cells #[] 3)) false (hx.grown (grown_alloc _ _ _)) hmax hb
    clear hx hv hb
    go_enter Try.func17, Try.ntmps17
    go_wp2_with fail
    refine k1.mono ?_
    rintro e w' ⟨rfl, rfl⟩
    clear k1
    go_wp2
    go_ret
    exact ⟨_, rfl, World.ownsRow_nil _ _ _ _, grown_alloc _ _ _⟩
  | true =>
    have hm : inB m 0 8 = false := by rcases hv with h | h; (rw [hb] at h; cases h); exact h
    have k1 := sValidSamples_any xs ao len cap (w.alloc (.cells #[] 3)) true (hx.grown (grown_alloc _ _ _)) hmax hb
    have k2 := inRange_any m 0 8 false (w.alloc (.cells #[] 3)) hm
    clear hx hv hb hm
    go_enter Try.func17, Try.ntmps17
    go_wp2_with fail
    refine k1.mono ?_
    rintro e w' ⟨rfl, rfl⟩
    clear k1
    go_wp2_with fail
    refine k2.mono ?_
    rintro e w' ⟨rfl, rfl⟩
    clear k2
    go_wp2
    go_ret
    exact ⟨_, rfl, World.ownsRow_nil _ _ _ _, grown_alloc _ _ _⟩

/-- What both texts give. -/
def acOk (xs : List Int) (m : Int) : Bool := vS xs && inB m 0 8
def acN (xs : List Int) (m : Int) : Nat := if acOk xs m then m.toNat + 1 else 0
theorem acN_le (xs : List Int) (m : Int) : acN xs m ≤ 9 := by
  unfold acN acOk
  split
  · rename_i h
    simp only [Bool.and_eq_true] at h
    have : 0 ≤ m ∧ m ≤ 8 := by simpa [inB] using h.2
    omega
  · omega
theorem auto_both (xs : List Int) (m : Int) (len : Nat) (hlen : len ≤ 1048576) : ∃ (ys : List Int) (n : Nat), n ≤ 1000000 ∧
    Hid (∀ (ao : Option Addr) (cap : Nat) (w : World), Ints w ao len xs → len ≤ cap → (ao = none → cap = 0) → Calls Try.prog 17 #[.slice ao len cap, .int .i64 m] w (Made ys n w)) ∧
    Hid (∀ (ao : Option Addr) (cap : Nat) (w : World), Ints w ao len xs → len ≤ cap → (ao = none → cap = 0) → Calls Try.prog 16 #[.slice ao len cap, .int .i64 m] w (Made ys n w)) ∧ Hid (ys = acL xs n ∧ n = acN xs m) := by
  refine ⟨acL xs (acN xs m), acN xs m, by have := acN_le xs m; omega, ?_, ?_, rfl, rfl⟩
  all_goals
    intro ao cap w hx hlc hn
    cases hok : acOk xs m with
    | false =>
      have h0 : acN xs m = 0 := by unfold acN; rw [hok]; rfl
      have hv : vS xs = false ∨ inB m 0 8 = false := by unfold acOk at hok; rwa [Bool.and_eq_false_iff] at hok
      rw [h0]
      first
        | exact sAuto_bad xs m ao len cap w hx (by omega) hv
        | exact iAuto_bad xs m ao len cap w hx (by omega) hv
    | true =>
      have hN : acN xs m = m.toNat + 1 := by unfold acN; rw [hok]; rfl
      have hv : vS xs = true ∧ inB m 0 8 = true := by unfold acOk at hok; simpa using hok
      have hm : 0 ≤ m ∧ m ≤ 8 := by simpa [inB] using hv.2
      obtain ⟨q, rfl⟩ := Int.eq_ofNat_of_zero_le hm.1
      have hN2 : acN xs (q : Int) = q + 1 := by rw [hN]; simp
      rw [hN2]
      first
        | exact sAuto_loop xs q _ ao len cap w hx hv.1 (by omega) rfl
        | exact iAuto_loop xs q _ ao len cap w hx hlc hn hv.1 (by omega) rfl

end Go.Proofs.Ytgciofmpnpimcaa
