/-
  Blocks of samples that fit into a width, both texts. For all lists that can be read.
-/
import Derived.Test.YtlibcppkhahobaaVAuI
namespace Go.Proofs.Ytlibcppkhahobaa
open Go.RowKit

def vBl (d : Int) (xs : List Int) : Bool := inB d 4 17 && inB (xs.length : Int) 1 64 && allB xs (-(2 ^ (d - 1).toNat)) (2 ^ (d - 1).toNat - 1)
theorem vBl_no1 {d : Int} {xs : List Int} (h : inB d 4 17 = false) : vBl d xs = false := by unfold vBl; rw [h]; rfl
theorem vBl_no2 {d : Int} {xs : List Int} (h : inB (xs.length : Int) 1 64 = false) : vBl d xs = false := by unfold vBl; rw [h]; simp
theorem vBl_in {d : Int} {u : Nat} {xs : List Int} (h1 : inB d 4 17 = true) (h2 : inB (xs.length : Int) 1 64 = true) (hu : d - 1 = (u : Int)) : vBl d xs = allB xs (-(2 ^ u)) (2 ^ u - 1) := by
  unfold vBl; rw [h1, h2, hu]; simp

set_option maxRecDepth 100000 in
set_option maxHeartbeats 1000000 in
theorem sVW_any (xs : List Int) (ao : Option Addr) (len cap : Nat) (d : Int) (v : Bool) (w : World) (hx : Ints w ao len xs) (hlen : len ≤ 4611686018427387904) (hv : vBl d xs = v) :
    Calls Try.prog 40 #[.slice ao len cap, .int .i64 d] w fun e w' => e = .returned (.bool v) ∧ ∃ m, w' = w.drewN m := by
  subst hv
  have hl := hx.1
  cases h1 : inB d 4 17 with
  | false =>
    have k1 := inRange_any d 4 17 false w h1
    rw [vBl_no1 h1]
    clear hx hl h1
    go_enter Try.func40, Try.ntmps40
    go_wp2_with fail
    refine k1.mono ?_
    rintro e w' ⟨rfl, rfl⟩
    go_wp2
    go_ret
    exact ⟨rfl, 0, rfl⟩
  | true =>
  have k1 := inRange_any d 4 17 true w h1
  cases h2 : inB (xs.length : Int) 1 64 with
  | false =>
    have k2 := inRange_any (len : Int) 1 64 false w (by rw [← hl]; exact h2)
    rw [vBl_no2 h2]
    clear hx hl h1 h2
    go_enter Try.func40, Try.ntmps40
    go_wp2_with fail
    refine k1.mono ?_
    rintro e w' ⟨rfl, rfl⟩
    go_wp2_with fail
    refine k2.mono ?_
    rintro e w' ⟨rfl, rfl⟩
    go_wp2
    go_ret
    exact ⟨rfl, 0, rfl⟩
  | true =>
  have k2 := inRange_any (len : Int) 1 64 true w (by rw [← hl]; exact h2)
  have hd17 : 4 ≤ d ∧ d ≤ 17 := by simpa [inB] using h1
  obtain ⟨u, hu⟩ : ∃ u : Nat, d - 1 = (u : Int) := ⟨(d - 1).toNat, by omega⟩
  rw [vBl_in h1 h2 hu]
  have ke := fun j => allIn_any xs (-(2 ^ u)) (2 ^ u - 1) ao len cap (w.drewN j) (hx.grown (grown_drewN _ _ _)) hlen
  have hp := pow_u u (by omega)
  have hp0 := hp.1
  have hp1 := hp.2
  have hw0 : IntKind.i64.wrap (2 ^ u) = 2 ^ u := IntWalk.i64_in _ (by omega)
  have hw1 : IntKind.i64.wrap (-(2 ^ u)) = -(2 ^ u) := IntWalk.i64_in _ (by omega)
  have hw2 : IntKind.i64.wrap (-1 * 2 ^ u) = -(2 ^ u) := IntWalk.i64_in _ (by omega) |>.trans (by omega)
  have hu15 : u ≤ 16 := by omega
  have hus : (u : Int).toNat = u := by simp
  have hwu : IntKind.i64.wrap (u : Int) = (u : Int) := IntWalk.i64_in _ (by omega)
  have hq2 : IntKind.i64.wrap (2 ^ u - 1) = 2 ^ u - 1 := IntWalk.i64_in _ (by omega)
  have hd4 : 4 ≤ d := by omega
  have hd5 : d ≤ 17 := by omega
  have hu00 : (0 : Int) ≤ (u : Int) := by omega
  have hu01 : (u : Int) ≤ 64 := by omega
  generalize allB xs (-(2 ^ u)) (2 ^ u - 1) = v at *
  clear hx hl h1 h2 hd17 hp
  go_enter Try.func40, Try.ntmps40
  go_wp2_with fail
  refine k1.mono ?_
  rintro e w' ⟨rfl, rfl⟩
  go_wp2_with fail
  refine k2.mono ?_
  rintro e w' ⟨rfl, rfl⟩
  clear k1 k2
  go_wp2_with fail
  go_quiet ((go_at_call 37; exact Calls.quiet_of_same ((ke _).mono (fun _ _ h => ⟨h.1, h.2.symm⟩))))
  clear ke
  go_wp2
  go_ret
  exact ⟨rfl, _, rfl⟩

set_option maxRecDepth 100000 in
set_option maxHeartbeats 1000000 in
theorem iVB_any (xs : List Int) (ao : Option Addr) (len cap : Nat) (d : Int) (v : Bool) (w : World) (hx : Ints w ao len xs) (hlen : len ≤ 4611686018427387904) (hv : vBl d xs = v) :
    Calls Try.prog 28 #[.slice ao len cap, .int .i64 d] w fun e w' => e = .returned (.bool v) ∧ w.grownBy w' none := by
  subst hv
  have hl := hx.1
  cases h2 : inB (xs.length : Int) 1 64 with
  | false =>
    have h2' : inB (len : Int) 1 64 = false := by rw [← hl]; exact h2
    rw [vBl_no2 h2]
    clear hx hl h2
    go_enter Try.func28, Try.ntmps28
    go_wp2_with fail
    refine (iIn1 (len : Int) 1 64 _ _ _ (by simp) h2').mono ?_
    rintro e w' ⟨rfl, rfl⟩
    go_wp2
    go_ret
    exact ⟨rfl, grown_alloc _ _ _⟩
  | true =>
  have h2' : inB (len : Int) 1 64 = true := by rw [← hl]; exact h2
  cases h1 : inB d 4 17 with
  | false =>
    rw [vBl_no1 h1]
    clear hx hl h2
    go_enter Try.func28, Try.ntmps28
    go_wp2_with fail
    refine (iIn1 (len : Int) 1 64 _ _ _ (by simp) h2').mono ?_
    rintro e w' ⟨rfl, rfl⟩
    go_wp2_with fail
    refine (iIn1 d 4 17 _ _ _ (by simp) h1).mono ?_
    rintro e w' ⟨rfl, rfl⟩
    go_wp2
    go_ret
    exact ⟨rfl, grown_trans (grown_alloc _ _ _) (grown_alloc _ _ _)⟩
  | true =>
  have hd17 : 4 ≤ d ∧ d ≤ 17 := by simpa [inB] using h1
  obtain ⟨u, hu⟩ : ∃ u : Nat, d - 1 = (u : Int) := ⟨(d - 1).toNat, by omega⟩
  rw [vBl_in h1 h2 hu]
  have HXX := Lib.hid hx
  have hp := pow_u u (by omega)
  have hp0 := hp.1
  have hp1 := hp.2
  have hu15 : u ≤ 16 := by omega
  have hus : (u : Int).toNat = u := by simp
  have hd4 : 4 ≤ d := by omega
  have hd5 : d ≤ 17 := by omega
  have hu00 : (0 : Int) ≤ (u : Int) := by omega
  have hu01 : (u : Int) ≤ 64 := by omega
  obtain ⟨v, hv⟩ : ∃ v, allB xs (-(2 ^ u)) (2 ^ u - 1) = v := ⟨_, rfl⟩
  rw [hv]
  have HV := Lib.hid hv
  clear hx hl h2 hd17 hp hv
  go_enter Try.func28, Try.ntmps28
  go_wp2_with fail
  refine (iIn1 (len : Int) 1 64 _ _ _ (by simp) h2').mono ?_
  rintro e w' ⟨rfl, rfl⟩
  go_wp2_with fail
  refine (iIn1 d 4 17 _ _ _ (by simp) h1).mono ?_
  rintro e w' ⟨rfl, rfl⟩
  clear h1 h2'
  go_wp2_with fail
  refine (iAllIn_any xs (-(2 ^ u)) (2 ^ u - 1) ao len cap _ v (HXX.out.grown (grown_trans (grown_alloc _ _ _) (grown_alloc _ _ _))) hlen HV.out).mono ?_
  rintro e w' ⟨rfl, rfl⟩
  go_wp2
  go_ret
  exact ⟨rfl, grown_trans (grown_alloc _ _ _) (grown_alloc _ _ _)⟩

/-- A valid frame. -/
def vFr (r d : Int) (xss : List (List Int)) : Bool :=
  inB r 0 2147483647 && inB d 4 16 && decide (1 ≤ xss.length ∧ xss.length ≤ 2) && (xss.all fun xs => vBl d xs && decide (xs.length = (xss.headD []).length))
theorem vFr_no1 {r d : Int} {xss : List (List Int)} (h : inB r 0 2147483647 = false) : vFr r d xss = false := by unfold vFr; rw [h]; rfl
theorem vFr_no2 {r d : Int} {xss : List (List Int)} (h : inB d 4 16 = false) : vFr r d xss = false := by unfold vFr; rw [h]; simp
theorem vFr_no3 {r d : Int} {xss : List (List Int)} (h : ¬ (1 ≤ xss.length ∧ xss.length ≤ 2)) : vFr r d xss = false := by unfold vFr; rw [decide_eq_false h]; simp
theorem vFr_in {r d : Int} {xss : List (List Int)} (h1 : inB r 0 2147483647 = true) (h2 : inB d 4 16 = true) (h3 : 1 ≤ xss.length ∧ xss.length ≤ 2) : vFr r d xss = (xss.all fun xs => vBl d xs && decide (xs.length = (xss.headD []).length)) := by
  unfold vFr; rw [h1, h2, decide_eq_true h3]; simp

end Go.Proofs.Ytlibcppkhahobaa
