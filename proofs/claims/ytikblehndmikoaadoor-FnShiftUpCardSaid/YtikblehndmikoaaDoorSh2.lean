/-
  ShiftUp of both texts, for all arguments.
-/
import Derived.Test.YtikblehndmikoaaDoorSh
import Derived.OwnWalk
namespace Go.Proofs.YtikblehndmikoaaDoor
open Go.RowKit

def uOk (k : Int) (xs : List Int) : Bool := vS xs && inB k 0 14 && vS (upL k.toNat xs)
def uL (k : Int) (xs : List Int) : List Int := if uOk k xs then upL k.toNat xs else []
def uN (k : Int) (xs : List Int) : Nat := if uOk k xs then xs.length else 0
theorem uOk_of {k : Int} {xs : List Int} (h : uOk k xs = true) : vS xs = true ∧ 0 ≤ k ∧ k ≤ 14 ∧ vS (upL k.toNat xs) = true := by
  unfold uOk at h
  simp only [Bool.and_eq_true] at h
  have : 0 ≤ k ∧ k ≤ 14 := by simpa [inB] using h.1.2
  exact ⟨h.1.1, this.1, this.2, h.2⟩
theorem uN_le (k : Int) (xs : List Int) : uN k xs ≤ 64 := by
  unfold uN; split
  · rename_i h; exact vS_len (uOk_of h).1
  · omega
theorem made_u {k : Int} {xs : List Int} {n : Nat} {w w' : World} {v : Value} (hl : xs.length = n) (h : uOk k xs = true) (ho : Owns w' w.heap.size v n (upL k.toNat xs)) : Owns w' w.heap.size v (uN k xs) (uL k xs) := by
  unfold uN uL; rw [if_pos h, if_pos h, hl]; exact ho
theorem none_u {k : Int} {xs : List Int} {w w' : World} (h : uOk k xs = false) : Owns w' w.heap.size (.slice none 0 0) (uN k xs) (uL k xs) := by
  unfold uN uL; rw [h]; exact World.ownsRow_nil _ _ _ _
theorem ints_one_atH (w : World) (x : Int) (t : TypeId) (B : Nat) (h : w.heap.size = B) : Ints (w.alloc (.cells #[.int .i64 x] t)) (some ⟨B, 0, none⟩) 1 [x] := by
  subst h; exact ints_one w x t

set_option maxRecDepth 100000 in
set_option maxHeartbeats 2000000 in
theorem sUp_any (k : Int) (xs : List Int) (ao : Option Addr) (len cap : Nat) (w : World) (hx : Ints w ao len xs) (hmax : len ≤ 4611686018427387904) :
    Calls Tryd.prog 14 #[.slice ao len cap, .int .i64 k] w (MadeOk (uL k xs) (uN k xs) (uOk k xs) w) := by
  have k0 := sValidSamples_any xs ao len cap w (vS xs) hx hmax rfl
  have k1 := inRange_any k 0 14 (inB k 0 14) w rfl
  cases b0 : vS xs with
  | false =>
    have HF : Hid (uOk k xs = false) := by show _ = _; unfold uOk; rw [b0]; rfl
    rw [b0] at k0
    rw [HF.out]
    clear b0 k1 hx
    go_enter Tryd.func14, Tryd.ntmps14
    go_wp2_with fail
    refine k0.mono ?_
    rintro e w' ⟨rfl, rfl⟩
    clear k0
    go_wp2
    go_ret2
    exact ⟨_, rfl, none_u HF.out, grown_refl _ _⟩
  | true =>
    rw [b0] at k0
    have hl64 : len ≤ 64 := by rw [← hx.1]; exact vS_len b0
    cases b1 : inB k 0 14 with
    | false =>
      have HF : Hid (uOk k xs = false) := by show _ = _; unfold uOk; rw [b1]; simp
      rw [b1] at k1
      rw [HF.out]
      clear b0 b1 hx
      go_enter Tryd.func14, Tryd.ntmps14
      go_wp2_with fail
      refine k0.mono ?_
      rintro e w' ⟨rfl, rfl⟩
      clear k0
      go_wp2_with fail
      refine k1.mono ?_
      rintro e w' ⟨rfl, rfl⟩
      clear k1
      go_wp2
      go_ret2
      exact ⟨_, rfl, none_u HF.out, grown_refl _ _⟩
    | true =>
      have hk : 0 ≤ k ∧ k ≤ 14 := by simpa [inB] using b1
      rw [b1] at k1
      obtain ⟨s, rfl⟩ := Int.eq_ofNat_of_zero_le hk.1
      have hs : s ≤ 14 := by omega
      have HU : Hid (uOk (s : Int) xs = vS (upL s xs)) := by show _ = _; unfold uOk; rw [b0, b1]; rfl
      have HA := Lib.hid (vS_all b0)
      have HX := Lib.hid hx
      clear b0 b1 hx hk
      go_enter Tryd.func14, Tryd.ntmps14
      go_wp2_with fail
      refine k0.mono ?_
      rintro e w' ⟨rfl, rfl⟩
      clear k0
      go_wp2_with fail
      refine k1.mono ?_
      rintro e w' ⟨rfl, rfl⟩
      clear k1
      go_wp2_with fail
      refine (sUpL_any xs s len ao cap w HX.out (by omega) HA.out hs).mono ?_
      rintro e w1 ⟨v1, rfl, ho1, hg1⟩
      obtain ⟨a1, c1, rfl, _, _, hx1, _⟩ := ho1.reads
      have HG1 := Lib.hid hg1
      cases hv : vS (upL s xs) with
      | false =>
        have HF : Hid (uOk (s : Int) xs = false) := by show _ = _; rw [HU.out, hv]
        go_wp2_with fail
        refine (sValidSamples_any _ a1 len c1 w1 false hx1 hmax hv).mono ?_
        rintro e w' ⟨rfl, rfl⟩
        clear hv ho1 hx1 hg1
        go_wp2
        go_ret2
        exact ⟨_, by rw [HF.out]; rfl, none_u HF.out, HG1.out⟩
      | true =>
        have HF : Hid (uOk (s : Int) xs = true) := by show _ = _; rw [HU.out, hv]
        go_wp2_with fail
        refine (sValidSamples_any _ a1 len c1 w1 true hx1 hmax hv).mono ?_
        rintro e w' ⟨rfl, rfl⟩
        clear hv ho1 hx1 hg1
        go_wp2_with fail
        refine (sUpL_any xs s len ao cap w1 (HX.out.grown HG1.out) (by omega) HA.out hs).mono ?_
        rintro e w2 ⟨v2, rfl, ho2, hg2⟩
        have HO := Lib.hid (made_u (k := (s : Int)) HX.out.1 HF.out (ho2.base_le HG1.out.size))
        have HG2 := Lib.hid (grown_trans HG1.out hg2)
        clear ho2 hg2
        go_wp2
        go_ret2
        exact ⟨_, by rw [HF.out]; rfl, HO.out, HG2.out⟩

set_option maxRecDepth 100000 in
set_option maxHeartbeats 2000000 in
theorem iUp_any (k : Int) (xs : List Int) (ao : Option Addr) (len cap : Nat) (w : World) (hx : Ints w ao len xs) (hmax : len ≤ 4611686018427387904) :
    Calls Tryd.prog 11 #[.slice ao len cap, .int .i64 k] w (MadeOk (uL k xs) (uN k xs) (uOk k xs) w) := by
  have k0 := iValidSamples_any xs ao len cap (w.alloc (.cells #[.int .i64 k] 3)) (vS xs) (hx.grown (grown_alloc _ _ _)) hmax rfl
  have k1 := iAllIn_any [k] 0 14 (some ⟨w.heap.size + 1, 0, none⟩) 1 1 ((w.alloc (.cells #[.int .i64 k] 3)).alloc (.cells #[.int .i64 k] 3)) (inB k 0 14) (ints_one_atH _ _ _ _ (by simp)) (by omega) (by simp [allB])
  cases b0 : vS xs with
  | false =>
    have HF : Hid (uOk k xs = false) := by show _ = _; unfold uOk; rw [b0]; rfl
    rw [b0] at k0
    rw [HF.out]
    clear b0 k1 hx
    go_enter Tryd.func11, Tryd.ntmps11
    go_wp2_with fail
    refine k0.mono ?_
    rintro e w' ⟨rfl, rfl⟩
    clear k0
    go_wp2
    go_ret2
    exact ⟨_, rfl, none_u HF.out, grown_alloc _ _ _⟩
  | true =>
    rw [b0] at k0
    have hl64 : len ≤ 64 := by rw [← hx.1]; exact vS_len b0
    cases b1 : inB k 0 14 with
    | false =>
      have HF : Hid (uOk k xs = false) := by show _ = _; unfold uOk; rw [b1]; simp
      rw [b1] at k1
      rw [HF.out]
      clear b0 b1 hx
      go_enter Tryd.func11, Tryd.ntmps11
      go_wp2_with fail
      refine k0.mono ?_
      rintro e w' ⟨rfl, rfl⟩
      clear k0
      go_wp2_with fail
      refine k1.mono ?_
      rintro e w' ⟨rfl, rfl⟩
      clear k1
      go_wp2
      go_ret2
      exact ⟨_, rfl, none_u HF.out, grown_trans (grown_alloc _ _ _) (grown_alloc _ _ _)⟩
    | true =>
      have hk : 0 ≤ k ∧ k ≤ 14 := by simpa [inB] using b1
      rw [b1] at k1
      obtain ⟨s, rfl⟩ := Int.eq_ofNat_of_zero_le hk.1
      have hs : s ≤ 14 := by omega
      have HU : Hid (uOk (s : Int) xs = vS (upL s xs)) := by show _ = _; unfold uOk; rw [b0, b1]; rfl
      have HA := Lib.hid (vS_all b0)
      have HX := Lib.hid hx
      have HGA : Hid (w.grownBy ((w.alloc (.cells #[.int .i64 (s : Int)] 3)).alloc (.cells #[.int .i64 (s : Int)] 3)) none) := grown_trans (grown_alloc _ _ _) (grown_alloc _ _ _)
      have hB : ((w.alloc (.cells #[.int .i64 (s : Int)] 3)).alloc (.cells #[.int .i64 (s : Int)] 3)).cell? ⟨w.heap.size, 0, none⟩ = some (.int .i64 (s : Int)) := by rw [cell_of_row _ _ 0 _ _ _ (heap_alloc2_old w _ _)]; rfl
      have HB := Lib.hid hB
      clear b0 b1 hx hk hB
      go_enter Tryd.func11, Tryd.ntmps11
      go_wp2_with fail
      refine k0.mono ?_
      rintro e w' ⟨rfl, rfl⟩
      clear k0
      go_wp2_with fail
      refine k1.mono ?_
      rintro e w' ⟨rfl, rfl⟩
      clear k1
      go_wp2_with fail
      refine (iUpEach xs s w.heap.size len ao cap _ (HX.out.grown HGA.out) hl64 HA.out hs HB.out).mono ?_
      rintro e w1 ⟨v1, rfl, ho1, hg1⟩
      obtain ⟨a1, c1, rfl, _, _, hx1, _⟩ := ho1.reads
      have HG1 := Lib.hid (grown_trans HGA.out hg1)
      have HO1 := Lib.hid (ho1.base_le HGA.out.size)
      cases hv : vS (upL s xs) with
      | false =>
        have HF : Hid (uOk (s : Int) xs = false) := by show _ = _; rw [HU.out, hv]
        go_wp2_with fail
        refine (iValidSamples_any _ a1 len c1 w1 false hx1 hmax hv).mono ?_
        rintro e w' ⟨rfl, rfl⟩
        clear hv ho1 hx1 hg1
        go_wp2
        go_ret2
        exact ⟨_, by rw [HF.out]; rfl, none_u HF.out, HG1.out⟩
      | true =>
        have HF : Hid (uOk (s : Int) xs = true) := by show _ = _; rw [HU.out, hv]
        go_wp2_with fail
        refine (iValidSamples_any _ a1 len c1 w1 true hx1 hmax hv).mono ?_
        rintro e w' ⟨rfl, rfl⟩
        clear hv ho1 hx1 hg1
        go_wp2
        go_ret2
        exact ⟨_, by rw [HF.out]; rfl, made_u (k := (s : Int)) HX.out.1 HF.out HO1.out, HG1.out⟩

end Go.Proofs.YtikblehndmikoaaDoor
