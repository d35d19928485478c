/-
  ShiftDown of both texts, for all arguments.
-/
import Derived.Test.YtikblehndmikoaaDoorSh2
import Derived.Test.YtikblehndmikoaaDoorOr
import Derived.Deep.RegionWith
namespace Go.Proofs.YtikblehndmikoaaDoor
open Go.RowKit

def wOk (k : Int) (xs : List Int) : Bool := vS xs && inB k 0 14 && evenL k.toNat xs
def wL (k : Int) (xs : List Int) : List Int := if wOk k xs then downL k.toNat xs else []
def wN (k : Int) (xs : List Int) : Nat := if wOk k xs then xs.length else 0
theorem wOk_of {k : Int} {xs : List Int} (h : wOk k xs = true) : vS xs = true ∧ 0 ≤ k ∧ k ≤ 14 ∧ evenL k.toNat xs = true := by
  unfold wOk at h
  simp only [Bool.and_eq_true] at h
  have : 0 ≤ k ∧ k ≤ 14 := by simpa [inB] using h.1.2
  exact ⟨h.1.1, this.1, this.2, h.2⟩
theorem wN_le (k : Int) (xs : List Int) : wN k xs ≤ 64 := by
  unfold wN; split
  · rename_i h; exact vS_len (wOk_of h).1
  · omega
theorem made_w {k : Int} {xs : List Int} {n : Nat} {w w' : World} {v : Value} (hl : xs.length = n) (h : wOk k xs = true) (ho : Owns w' w.heap.size v n (downL k.toNat xs)) : Owns w' w.heap.size v (wN k xs) (wL k xs) := by
  unfold wN wL; rw [if_pos h, if_pos h, hl]; exact ho
theorem none_w {k : Int} {xs : List Int} {w w' : World} (h : wOk k xs = false) : Owns w' w.heap.size (.slice none 0 0) (wN k xs) (wL k xs) := by
  unfold wN wL; rw [h]; exact World.ownsRow_nil _ _ _ _
theorem evenL_mem {s : Nat} {xs : List Int} {k : Nat} {x : Int} (h : evenL s xs = true) (hx : xs[k]? = some x) : x % 2 ^ s = 0 := by
  unfold evenL at h
  rw [List.all_eq_true] at h
  simpa using h x (List.mem_of_getElem? hx)
theorem evenL_false {s : Nat} {xs : List Int} {k : Nat} {x : Int} (hx : xs[k]? = some x) (h : x % 2 ^ s ≠ 0) : evenL s xs = false := by
  cases e : evenL s xs with
  | false => rfl
  | true => exact absurd (evenL_mem e hx) h
theorem evenL_snoc {s : Nat} {xs : List Int} {k : Nat} {x : Int} (hx : xs[k]? = some x) (h : x % 2 ^ s = 0) (ht : evenL s (xs.take k) = true) : evenL s (xs.take (k + 1)) = true := by
  unfold evenL at *
  rw [List.take_add_one, hx, List.all_append, ht]; simp [h]
theorem evenL_zero (xs : List Int) : evenL 0 xs = true := by
  unfold evenL; rw [List.all_eq_true]; intro x _; simp
theorem tmod_zero_iff {x : Int} {s : Nat} : x.tmod (2 ^ s) = 0 ↔ x % 2 ^ s = 0 := by
  rw [← Int.dvd_iff_tmod_eq_zero, Int.dvd_iff_emod_eq_zero]
theorem pow15 (s : Nat) (h : s ≤ 20) : (1 : Int) ≤ 2 ^ s ∧ (2 : Int) ^ s ≤ 1048576 := by
  have : s ≤ 14 ∨ s = 15 ∨ s = 16 ∨ s = 17 ∨ s = 18 ∨ s = 19 ∨ s = 20 := by omega
  rcases this with h | h | h | h | h | h | h
  · have := pow_le s h; omega
  all_goals (subst h; decide)
theorem tmod_le {x P : Int} (h0 : -65536 ≤ x) (h1 : x ≤ 65536) : -65536 ≤ x.tmod P ∧ x.tmod P ≤ 65536 := by
  have h := Int.natAbs_tmod x P
  have h2 : (x.tmod P).natAbs ≤ x.natAbs := by rw [h]; exact Nat.mod_le _ _
  omega

set_option maxRecDepth 100000 in
set_option maxHeartbeats 2000000 in
theorem sEven_any (xs : List Int) (s n : Nat) (ao : Option Addr) (cap : Nat) (w : World) (hx : Ints w ao n xs) (hn : n ≤ 64) (ha : allB xs (-65536) 65536 = true) (hs1 : 1 ≤ s) (hs : s ≤ 20) :
    Calls Tryd.prog 39 #[.slice ao n cap, .int .i64 ((s : Int) - 1)] w fun e w' => e = .returned (.bool (evenL s xs)) ∧ w.grownBy w' none := by
  have HX := Lib.hid hx
  have HA := Lib.hid ha
  have hp := pow15 s hs
  have hp0 := hp.1
  have hp1 := hp.2
  clear hx ha hp
  go_enter Tryd.func39, Tryd.ntmps39
  go_wp2
  go_loopw [5] (fun iv wr => ∃ k q : Nat, k ≤ n ∧ iv = .int .i64 k ∧ wr = w.drewN q ∧ Hid (evenL s (xs.take k) = true)) (fun iv _ => n - (intOf iv).toNat)
  case atStart => exact ⟨0, 0, Nat.zero_le _, rfl, rfl, rfl⟩
  case round =>
    obtain ⟨k, q, hk, rfl, rfl, hev⟩ := hrel
    by_cases hlt : k < n
    · obtain ⟨x, hxk⟩ : ∃ x, xs[k]? = some x := ⟨_, List.getElem?_eq_getElem (by rw [HX.out.1]; exact hlt)⟩
      obtain ⟨b, off, rfl, hc⟩ := HX.out.2.resolve_left (by intro e; subst e; simp at hxk)
      have hcx := hc k x hxk
      have hxr := allB_mem HA.out hxk
      have hw0 : IntKind.i64.wrap (2 ^ s) = 2 ^ s := IntWalk.i64_in _ (by omega)
      have ht := tmod_le (P := 2 ^ s) hxr.1 hxr.2
      have hw1 : IntKind.i64.wrap (x.tmod (2 ^ s)) = x.tmod (2 ^ s) := IntWalk.i64_in _ (by omega)
      have hne : ((2 : Int) ^ s == 0) = false := by have : (2 : Int) ^ s ≠ 0 := by omega
                                                    simpa using this
      have hne2 : (2 : Int) ^ s ≠ 0 := by omega
      have HK := Lib.hid hxk
      clear hc hxr hxk ht
      by_cases h0 : x % 2 ^ s = 0
      · have hb : (x.tmod (2 ^ s) == 0) = true := by simpa using tmod_zero_iff.2 h0
        have hb2 : x.tmod (2 ^ s) = 0 := tmod_zero_iff.2 h0
        have HE := Lib.hid (evenL_snoc HK.out h0 hev.out)
        clear h0 hw1
        go_wp2
        go_quiet (fail)
        go_wp2
        go_roundw
        case rel => exact ⟨k + 1, q + nq, by omega, by go_num, rfl, HE⟩
        case measure => simp [intOf]; omega
      · have hb : (x.tmod (2 ^ s) == 0) = false := by simpa using fun e => h0 (tmod_zero_iff.1 e)
        have hb2 : x.tmod (2 ^ s) ≠ 0 := fun e => h0 (tmod_zero_iff.1 e)
        have HE := Lib.hid (evenL_false HK.out h0)
        clear h0
        go_wp2
        go_quiet (fail)
        go_wp2
        go_ret
        exact ⟨ret_bool HE.out.symm, grown_trans (grown_drewN _ _ _) (grown_drewN _ _ _)⟩
    · have HF : Hid (evenL s xs = true) := by show _ = _; have := hev.out; rwa [List.take_of_length_le (by rw [HX.out.1]; omega)] at this
      go_wp2
      go_ret
      exact ⟨ret_bool HF.out.symm, grown_drewN _ _ _⟩

set_option maxRecDepth 100000 in
set_option maxHeartbeats 4000000 in
theorem iDown_any (k : Int) (xs : List Int) (ao : Option Addr) (len cap : Nat) (w : World) (hx : Ints w ao len xs) (hmax : len ≤ 4611686018427387904) :
    Calls Tryd.prog 10 #[.slice ao len cap, .int .i64 k] w (MadeOk (wL k xs) (wN k xs) (wOk k xs) w) := by
  have HX := Lib.hid hx
  have hlen := hx.1
  clear hx
  cases b0 : vS xs with
  | false =>
    have HF : Hid (wOk k xs = false) := by show _ = _; unfold wOk; rw [b0]; rfl
    have HV := Lib.hid b0
    rw [HF.out]
    clear b0 hlen
    go_enter Tryd.func10, Tryd.ntmps10
    go_wp2
    have KV : Hid (∀ m : Nat, Calls Tryd.prog 23 #[.slice ao len cap] ((w.alloc (.cells #[.int .i64 k] 3)).drewN m) fun e w'' => e = .returned (.bool false) ∧ ∃ m', w'' = (w.alloc (.cells #[.int .i64 k] 3)).drewN m') := fun m => Calls.quiet_of_same <| (iValidSamples_any xs ao len cap _ false (HX.out.grown (grown_trans (grown_alloc _ _ _) (grown_drewN _ _ _))) hmax HV.out).mono (fun _ _ ⟨a, b⟩ => ⟨a, b.symm⟩)
    go_quiet ((first | (go_at_call 23; (with_reducible exact KV.out _))))
    all_goals
      go_wp2
      go_ret2
      exact ⟨_, rfl, none_w HF.out, by first | exact grown_trans (grown_alloc _ _ _) (grown_drewN _ _ _) | exact grown_trans (grown_alloc _ _ _) (grown_drew _ _) | exact grown_trans (grown_trans (grown_alloc _ _ _) (grown_alloc _ _ _)) (grown_drew _ _)⟩
  | true =>
    have HV := Lib.hid b0
    have hl64 : len ≤ 64 := by rw [← hlen]; exact vS_len b0
    cases b1 : inB k 0 14 with
    | false =>
      have HF : Hid (wOk k xs = false) := by show _ = _; unfold wOk; rw [b1]; simp
      have HI : Hid (allB [k] 0 14 = false) := by show _ = _; simpa [allB] using b1
      rw [HF.out]
      clear b0 b1 hlen
      go_enter Tryd.func10, Tryd.ntmps10
      go_wp2
      first | (go_region_with ((first | (go_at_call 23; refine (iValidSamples_any xs ao len cap _ true (HX.out.grown (by first | exact grown_trans (grown_alloc _ _ _) (grown_drew _ _) | exact grown_trans (grown_trans (grown_alloc _ _ _) (grown_drew _ _)) (grown_alloc _ _ _) | exact grown_trans (grown_trans (grown_alloc _ _ _) (grown_alloc _ _ _)) (grown_drew _ _))) hmax HV.out).mono ?_; rintro e w' ⟨rfl, rfl⟩) | (go_at_call 28; refine (iAllIn_any [k] 0 14 (some ⟨w.heap.size + 1, 0, none⟩) 1 1 _ false ((ints_one_atH (w.alloc (.cells #[.int .i64 k] 3)) (k) 3 (w.heap.size + 1) (by simp)).grown (grown_drew _ _)) (by omega) HI.out).mono ?_; rintro e w' ⟨rfl, rfl⟩)))) | fail
      all_goals
        go_wp2
        go_ret2
        exact ⟨_, rfl, none_w HF.out, by first | exact grown_trans (grown_alloc _ _ _) (grown_drew _ _) | exact grown_trans (grown_trans (grown_alloc _ _ _) (grown_alloc _ _ _)) (grown_drew _ _)⟩
    | true =>
      have hk : 0 ≤ k ∧ k ≤ 14 := by simpa [inB] using b1
      obtain ⟨s, rfl⟩ := Int.eq_ofNat_of_zero_le hk.1
      have hs : s ≤ 14 := by omega
      have HI : Hid (allB [(s : Int)] 0 14 = true) := by show _ = _; simpa [allB] using b1
      have HU : Hid (wOk (s : Int) xs = evenL s xs) := by show _ = _; unfold wOk; rw [b0, b1]; rfl
      have HA := Lib.hid (vS_all b0)
      obtain ⟨u, hu⟩ : ∃ u, orL xs = u := ⟨_, rfl⟩
      have KU : Hid (∀ W : World, Ints W ao len xs → Calls Tryd.prog 24 #[.slice ao len cap] W fun e w' => e = .returned (.int .i64 u) ∧ W = w') := fun W h => by have := usedBits_any xs len ao cap W h hl64; rw [hu] at this; exact this
      have hp := pow14 s hs
      have hp0 := hp.1
      have hp1 := hp.2
      have hw0 : IntKind.i64.wrap (2 ^ s) = 2 ^ s := IntWalk.i64_in _ (by omega)
      have hw1 : IntKind.i64.wrap (2 ^ s - 1) = 2 ^ s - 1 := IntWalk.i64_in _ (by omega)
      obtain ⟨z, hz⟩ : ∃ z, u % 2 ^ s = z := ⟨_, rfl⟩
      have hand : bits .and .i64 u (2 ^ s - 1) = z := by rw [and_mask _ _ (by omega)]; exact hz
      have HZ : Hid (z = 0 ↔ evenL s xs = true) := by show _ ↔ _; rw [← hz, ← hu]; exact orL_mod xs s (by omega)
      have HGA : Hid (w.grownBy (((w.alloc (.cells #[.int .i64 (s : Int)] 3)).alloc (.cells #[.int .i64 (s : Int)] 3)).drew) none) := grown_trans (grown_trans (grown_alloc _ _ _) (grown_alloc _ _ _)) (grown_drew _ _)
      have hB : (((w.alloc (.cells #[.int .i64 (s : Int)] 3)).alloc (.cells #[.int .i64 (s : Int)] 3)).drew).cell? ⟨w.heap.size, 0, none⟩ = some (.int .i64 (s : Int)) := by
        have := grown_heap (grown_drew ((w.alloc (.cells #[.int .i64 (s : Int)] 3)).alloc (.cells #[.int .i64 (s : Int)] 3)) none) (heap_alloc2_old w (.cells #[.int .i64 (s : Int)] 3) (.cells #[.int .i64 (s : Int)] 3)) (by simp)
        rw [cell_of_row _ _ 0 _ _ _ this]; rfl
      have HB := Lib.hid hB
      clear b0 b1 hk hB hu hz hp hlen
      by_cases hz0 : z = 0
      · subst hz0
        have HF : Hid (wOk (s : Int) xs = true) := by show _ = _; rw [HU.out]; exact HZ.out.1 rfl
        go_enter Tryd.func10, Tryd.ntmps10
        go_wp2
        go_region_with ((first | (go_at_call 23; refine (iValidSamples_any xs ao len cap _ true (HX.out.grown (by first | exact grown_trans (grown_alloc _ _ _) (grown_drew _ _) | exact grown_trans (grown_trans (grown_alloc _ _ _) (grown_drew _ _)) (grown_alloc _ _ _) | exact grown_trans (grown_trans (grown_alloc _ _ _) (grown_alloc _ _ _)) (grown_drew _ _))) hmax HV.out).mono ?_; rintro e w' ⟨rfl, rfl⟩) | (go_at_call 28; refine (iAllIn_any [(s : Int)] 0 14 (some ⟨w.heap.size + 1, 0, none⟩) 1 1 _ true ((ints_one_atH (w.alloc (.cells #[.int .i64 (s : Int)] 3)) ((s : Int)) 3 (w.heap.size + 1) (by simp)).grown (grown_drew _ _)) (by omega) HI.out).mono ?_; rintro e w' ⟨rfl, rfl⟩) | (go_at_call 24; refine (KU.out _ (HX.out.grown (by first | exact grown_trans (grown_alloc _ _ _) (grown_drew _ _) | exact grown_trans (grown_trans (grown_alloc _ _ _) (grown_drew _ _)) (grown_alloc _ _ _) | exact grown_trans (grown_trans (grown_alloc _ _ _) (grown_alloc _ _ _)) (grown_drew _ _)))).mono ?_; rintro e w' ⟨rfl, rfl⟩)))
        all_goals
          clear hand hw0 hw1
          go_wp2_with fail
          refine (iDownEach xs s w.heap.size len ao cap _ (HX.out.grown HGA.out) hl64 HA.out hs HB.out).mono ?_
          rintro e w1 ⟨v1, rfl, ho1, hg1⟩
          have HG1 := Lib.hid (grown_trans HGA.out hg1)
          have HO1 := Lib.hid (made_w (k := (s : Int)) HX.out.1 HF.out (ho1.base_le HGA.out.size))
          clear ho1 hg1
          go_wp2
          go_ret2
          exact ⟨_, by rw [HF.out]; rfl, HO1.out, HG1.out⟩
      · have HF : Hid (wOk (s : Int) xs = false) := by
          show _ = _; rw [HU.out]
          cases e : evenL s xs with
          | false => rfl
          | true => exact absurd (HZ.out.2 e) hz0
        have hz1 : (z == 0) = false := by simpa using hz0
        have hz2 : (z != 0) = true := by simpa using hz0
        rw [HF.out]
        go_enter Tryd.func10, Tryd.ntmps10
        go_wp2
        go_region_with ((first | (go_at_call 23; refine (iValidSamples_any xs ao len cap _ true (HX.out.grown (by first | exact grown_trans (grown_alloc _ _ _) (grown_drew _ _) | exact grown_trans (grown_trans (grown_alloc _ _ _) (grown_drew _ _)) (grown_alloc _ _ _) | exact grown_trans (grown_trans (grown_alloc _ _ _) (grown_alloc _ _ _)) (grown_drew _ _))) hmax HV.out).mono ?_; rintro e w' ⟨rfl, rfl⟩) | (go_at_call 28; refine (iAllIn_any [(s : Int)] 0 14 (some ⟨w.heap.size + 1, 0, none⟩) 1 1 _ true ((ints_one_atH (w.alloc (.cells #[.int .i64 (s : Int)] 3)) ((s : Int)) 3 (w.heap.size + 1) (by simp)).grown (grown_drew _ _)) (by omega) HI.out).mono ?_; rintro e w' ⟨rfl, rfl⟩) | (go_at_call 24; refine (KU.out _ (HX.out.grown (by first | exact grown_trans (grown_alloc _ _ _) (grown_drew _ _) | exact grown_trans (grown_trans (grown_alloc _ _ _) (grown_drew _ _)) (grown_alloc _ _ _) | exact grown_trans (grown_trans (grown_alloc _ _ _) (grown_alloc _ _ _)) (grown_drew _ _)))).mono ?_; rintro e w' ⟨rfl, rfl⟩)))
        all_goals
          clear hand hw0 hw1
          go_wp2
          go_ret2
          exact ⟨_, rfl, none_w HF.out, HGA.out⟩

end Go.Proofs.YtikblehndmikoaaDoor
