/-
  Lists of numbers in memory, and the small functions on them: ranges, bytes, equality. No condition but the length of a list.
-/
import Derived.Test.YtncbgofcimghnaaNum
namespace Go.Proofs.Ytncbgofcimghnaa
open Go.RowKit

/-- A slice value with this address and length reads as the list. -/
def Ints (w : World) (ao : Option Addr) (len : Nat) (xs : List Int) : Prop :=
  xs.length = len ∧ (xs = [] ∨ ∃ (b off : Nat), ao = some ⟨b, off, none⟩ ∧ ∀ (k : Nat) (x : Int), xs[k]? = some x → w.cell? ⟨b, off + k, none⟩ = some (.int .i64 x))

theorem Ints.kept {w w' : World} {ao : Option Addr} {len : Nat} {xs : List Int} {row : Option Nat} (h : Ints w ao len xs) (hg : w.grownBy w' row)
    (hne : ∀ a, ao = some a → row ≠ some a.block) : Ints w' ao len xs := by
  refine ⟨h.1, ?_⟩
  rcases h.2 with h | ⟨b, off, ha, hc⟩
  · exact Or.inl h
  · exact Or.inr ⟨b, off, ha, fun k x hx => hg.cell (hc k x hx) (fun e => hne _ ha e.symm)⟩

theorem Ints.grown {w w' : World} {ao : Option Addr} {len : Nat} {xs : List Int} (h : Ints w ao len xs) (hg : w.grownBy w' none) : Ints w' ao len xs :=
  h.kept hg (fun _ _ => by simp)

/-- What is owned reads as its list. -/
theorem ints_of_owns {w : World} {base len : Nat} {e : TypeId} {v : Value} {xs : List Int} (h : w.ownsRow base e 1 v len (xs.map (Value.int .i64))) :
    ∃ ao cap, v = .slice ao len cap ∧ len ≤ cap ∧ (ao = none → cap = 0) ∧ Ints w ao len xs ∧ (∀ a, ao = some a → base ≤ a.block ∧ a.block < w.heap.size) := by
  have hl : xs.length = len := by have := h.1; simpa using this
  rcases h.2 with ⟨hv, hn⟩ | ⟨g, cap, cur, hv, hg, hh, hnc, hcm, hsz, htake⟩
  · subst hv hn
    exact ⟨none, 0, rfl, Nat.le_refl _, fun _ => rfl, ⟨hl, Or.inl (List.length_eq_zero_iff.1 hl)⟩, fun a e => by cases e⟩
  · refine ⟨some ⟨g, 0, none⟩, cap, hv, hnc, fun e => (by cases e), ⟨hl, Or.inr ⟨g, 0, rfl, fun k x hx => ?_⟩⟩, fun a e => by injection e with e; subst e; exact ⟨hg, block_lt hh⟩⟩
    rw [cell_of_row w g (0 + k) cur e (0, 0) hh, Nat.zero_add]
    have hu : (xs.map (Value.int .i64))[k]? = some (.int .i64 x) := by simp [hx]
    rw [← htake, List.getElem?_take] at hu
    split at hu
    · simpa using hu
    · cases hu


theorem allB_false {xs : List Int} {lo hi x : Int} {k : Nat} (hx : xs[k]? = some x) (h : inB x lo hi = false) : allB xs lo hi = false := by
  unfold allB
  rw [Bool.eq_false_iff]
  intro ha
  rw [List.all_eq_true] at ha
  have := ha x (List.mem_of_getElem? hx)
  rw [h] at this; cases this
theorem allB_take {xs : List Int} {lo hi x : Int} {k : Nat} (hx : xs[k]? = some x) (h : inB x lo hi = true) (ht : allB (xs.take k) lo hi = true) : allB (xs.take (k + 1)) lo hi = true := by
  unfold allB at *
  rw [List.take_add_one, hx]; simp [ht, h]
theorem allB_full {xs : List Int} {lo hi : Int} {k : Nat} (hk : xs.length ≤ k) (ht : allB (xs.take k) lo hi = true) : allB xs lo hi = true := by
  rwa [List.take_of_length_le hk] at ht

set_option maxHeartbeats 400000 in
theorem allIn_any (xs : List Int) (lo hi : Int) (ao : Option Addr) (len cap : Nat) (w : World) (hx : Ints w ao len xs) (hlen : len ≤ 4611686018427387904) :
    Calls Try.prog 68 #[.slice ao len cap, .int .i64 lo, .int .i64 hi] w fun e w' => e = .returned (.bool (allB xs lo hi)) ∧ w = w' := by
  obtain ⟨hl, hx | ⟨b, off, rfl, hc⟩⟩ := hx
  · subst hx
    obtain rfl : len = 0 := by simpa using hl.symm
    clear hl
    rw [show allB [] lo hi = true from rfl]
    go_enter Try.func68, Try.ntmps68
    go_wp2
    refine wp_loop_rounds 1 ?_
    rw [rounds_succ]
    go_wp2
    go_ret
    exact ⟨rfl, rfl⟩
  have HL := Lib.hid hl
  have HC := Lib.hid hc
  clear hl hc
  go_enter Try.func68, Try.ntmps68
  go_wp2
  go_loop [7] (fun i => ∃ k : Nat, k ≤ len ∧ i = .int .i64 k ∧ Hid (allB (xs.take k) lo hi = true)) (fun i => len - (intOf i).toNat)
  case atStart => exact ⟨0, Nat.zero_le _, rfl, rfl⟩
  case round =>
    obtain ⟨k, hk, rfl, ha⟩ := hrel
    by_cases hlt : k < len
    · obtain ⟨x, hxk⟩ : ∃ x, xs[k]? = some x := ⟨_, List.getElem?_eq_getElem (by rw [HL.out]; exact hlt)⟩
      have hcx := HC.out k x hxk
      have HX := Lib.hid hxk
      clear hxk
      cases hb : inB x lo hi with
      | true =>
        have hr := inRange_any x lo hi true w hb
        have HB := Lib.hid hb
        clear hb
        go_wp2_with (go_at_call 43; refine hr.mono ?_; rintro e w' ⟨rfl, rfl⟩)
        go_round
        case rel => exact ⟨k + 1, by omega, by go_num, allB_take HX.out HB.out ha⟩
        case measure => simp [intOf]; omega
      | false =>
        have hr := inRange_any x lo hi false w hb
        have HB := Lib.hid (allB_false HX.out hb)
        clear hb
        go_wp2_with (go_at_call 43; refine hr.mono ?_; rintro e w' ⟨rfl, rfl⟩)
        go_ret
        exact ⟨ret_bool HB.out.symm, rfl⟩
    · have HF := Lib.hid (allB_full (by rw [HL.out]; omega) ha.out)
      go_wp2
      go_ret
      exact ⟨ret_bool HF.out.symm, rfl⟩


set_option maxHeartbeats 400000 in
theorem equalInts_any (xs ys : List Int) (ao bo : Option Addr) (len cap len' cap' : Nat) (v : Bool) (w : World) (hx : Ints w ao len xs) (hy : Ints w bo len' ys) (hlen : len ≤ 4611686018427387904) (hv : (xs == ys) = v) :
    Calls Try.prog 69 #[.slice ao len cap, .slice bo len' cap'] w fun e w' => e = .returned (.bool v) ∧ w.grownBy w' none := by
  subst hv
  by_cases hll : len = len'
  · subst hll
    obtain ⟨hl, hx⟩ := hx
    obtain ⟨hl', hy⟩ := hy
    by_cases h0 : len = 0
    · obtain rfl : xs = [] := List.length_eq_zero_iff.1 (hl.trans h0)
      obtain rfl : ys = [] := List.length_eq_zero_iff.1 (hl'.trans h0)
      subst h0
      clear hl hl' hx hy
      rw [show (([] : List Int) == []) = true from rfl]
      go_enter Try.func69, Try.ntmps69
      go_wp2
      refine wp_loop_rounds 1 ?_
      rw [rounds_succ]
      go_wp2
      go_ret
      exact ⟨rfl, grown_refl _ _⟩
    obtain ⟨b, off, rfl, hc⟩ := hx.resolve_left (by intro e; subst e; simp at hl; omega)
    obtain ⟨b', off', rfl, hc'⟩ := hy.resolve_left (by intro e; subst e; simp at hl'; omega)
    have HL := Lib.hid hl
    have HL' := Lib.hid hl'
    have HC := Lib.hid hc
    have HC' := Lib.hid hc'
    clear hx hy hl hl' hc hc' h0
    go_enter Try.func69, Try.ntmps69
    go_wp2
    go_loopw [5] (fun i wr => ∃ k n : Nat, k ≤ len ∧ i = .int .i64 k ∧ wr = w.drewN n ∧ Hid (xs.take k = ys.take k)) (fun i _ => len - (intOf i).toNat)
    case atStart => exact ⟨0, 0, Nat.zero_le _, rfl, rfl, rfl⟩
    case round =>
      obtain ⟨k, n, hk, rfl, rfl, ha⟩ := hrel
      by_cases hlt : k < len
      · obtain ⟨x, hxk⟩ : ∃ x, xs[k]? = some x := ⟨_, List.getElem?_eq_getElem (by rw [HL.out]; exact hlt)⟩
        obtain ⟨y, hyk⟩ : ∃ y, ys[k]? = some y := ⟨_, List.getElem?_eq_getElem (by rw [HL'.out]; exact hlt)⟩
        have hcx := HC.out k x hxk
        have hcy := HC'.out k y hyk
        have HX := Lib.hid hxk
        have HY := Lib.hid hyk
        clear hxk hyk
        by_cases hxy : x = y
        · have HT : Hid (xs.take (k + 1) = ys.take (k + 1)) := by
            show xs.take (k + 1) = ys.take (k + 1)
            rw [List.take_add_one, List.take_add_one, HX.out, HY.out, ha.out, hxy]
          subst hxy
          go_wp2
          go_quiet (fail)
          go_wp2
          go_roundw
          case rel => exact ⟨k + 1, n + nq, by omega, by go_num, rfl, HT⟩
          case measure => simp [intOf]; omega
        · have hne : (x != y) = true := by simpa using hxy
          have HF : Hid ((xs == ys) = false) := by
            show (xs == ys) = false
            rw [beq_eq_false_iff_ne]
            intro e; subst e; exact hxy (by have := HX.out.symm.trans HY.out; injection this)
          clear hxy
          go_wp2
          go_quiet (fail)
          go_wp2
          go_ret
          exact ⟨ret_bool HF.out.symm, grown_trans (grown_drewN _ _ _) (grown_drewN _ _ _)⟩
      · have HF : Hid ((xs == ys) = true) := by
          show (xs == ys) = true
          have := ha.out
          rw [List.take_of_length_le (by rw [HL.out]; omega), List.take_of_length_le (by rw [HL'.out]; omega)] at this
          simpa using this
        go_wp2
        go_ret
        exact ⟨ret_bool HF.out.symm, grown_drewN _ _ _⟩
  · have hne : ((len : Int) != len') = true := by simpa using fun e => hll (by omega)
    have hv : (xs == ys) = false := by
      rw [beq_eq_false_iff_ne]; intro e; subst e; exact hll (hx.1.symm.trans hy.1)
    rw [hv]
    clear hx hy hv hll
    go_enter Try.func69, Try.ntmps69
    go_wp2
    go_ret
    exact ⟨rfl, grown_refl _ _⟩

set_option maxHeartbeats 400000 in
theorem eqIntS_any (xs ys : List Int) (ao bo : Option Addr) (len cap len' cap' : Nat) (v : Bool) (w : World) (hx : Ints w ao len xs) (hy : Ints w bo len' ys) (hlen : len ≤ 4611686018427387904) (hv : (xs == ys) = v) :
    Calls Try.prog 77 #[.slice ao len cap, .slice bo len' cap'] w fun e w' => e = .returned (.bool v) ∧ w.grownBy w' none := by
  subst hv
  by_cases hll : len = len'
  · subst hll
    obtain ⟨hl, hx⟩ := hx
    obtain ⟨hl', hy⟩ := hy
    by_cases h0 : len = 0
    · obtain rfl : xs = [] := List.length_eq_zero_iff.1 (hl.trans h0)
      obtain rfl : ys = [] := List.length_eq_zero_iff.1 (hl'.trans h0)
      subst h0
      clear hl hl' hx hy
      rw [show (([] : List Int) == []) = true from rfl]
      go_enter Try.func77, Try.ntmps77
      go_wp2
      refine wp_loop_rounds 1 ?_
      rw [rounds_succ]
      go_wp2
      go_ret
      exact ⟨rfl, grown_refl _ _⟩
    obtain ⟨b, off, rfl, hc⟩ := hx.resolve_left (by intro e; subst e; simp at hl; omega)
    obtain ⟨b', off', rfl, hc'⟩ := hy.resolve_left (by intro e; subst e; simp at hl'; omega)
    have HL := Lib.hid hl
    have HL' := Lib.hid hl'
    have HC := Lib.hid hc
    have HC' := Lib.hid hc'
    clear hx hy hl hl' hc hc' h0
    go_enter Try.func77, Try.ntmps77
    go_wp2
    go_loopw [5] (fun i wr => ∃ k n : Nat, k ≤ len ∧ i = .int .i64 k ∧ wr = w.drewN n ∧ Hid (xs.take k = ys.take k)) (fun i _ => len - (intOf i).toNat)
    case atStart => exact ⟨0, 0, Nat.zero_le _, rfl, rfl, rfl⟩
    case round =>
      obtain ⟨k, n, hk, rfl, rfl, ha⟩ := hrel
      by_cases hlt : k < len
      · obtain ⟨x, hxk⟩ : ∃ x, xs[k]? = some x := ⟨_, List.getElem?_eq_getElem (by rw [HL.out]; exact hlt)⟩
        obtain ⟨y, hyk⟩ : ∃ y, ys[k]? = some y := ⟨_, List.getElem?_eq_getElem (by rw [HL'.out]; exact hlt)⟩
        have hcx := HC.out k x hxk
        have hcy := HC'.out k y hyk
        have HX := Lib.hid hxk
        have HY := Lib.hid hyk
        clear hxk hyk
        by_cases hxy : x = y
        · have HT : Hid (xs.take (k + 1) = ys.take (k + 1)) := by
            show xs.take (k + 1) = ys.take (k + 1)
            rw [List.take_add_one, List.take_add_one, HX.out, HY.out, ha.out, hxy]
          subst hxy
          go_wp2
          go_quiet (fail)
          go_wp2
          go_roundw
          case rel => exact ⟨k + 1, n + nq, by omega, by go_num, rfl, HT⟩
          case measure => simp [intOf]; omega
        · have hne : (x != y) = true := by simpa using hxy
          have HF : Hid ((xs == ys) = false) := by
            show (xs == ys) = false
            rw [beq_eq_false_iff_ne]
            intro e; subst e; exact hxy (by have := HX.out.symm.trans HY.out; injection this)
          clear hxy
          go_wp2
          go_quiet (fail)
          go_wp2
          go_ret
          exact ⟨ret_bool HF.out.symm, grown_trans (grown_drewN _ _ _) (grown_drewN _ _ _)⟩
      · have HF : Hid ((xs == ys) = true) := by
          show (xs == ys) = true
          have := ha.out
          rw [List.take_of_length_le (by rw [HL.out]; omega), List.take_of_length_le (by rw [HL'.out]; omega)] at this
          simpa using this
        go_wp2
        go_ret
        exact ⟨ret_bool HF.out.symm, grown_drewN _ _ _⟩
  · have hne : ((len : Int) != len') = true := by simpa using fun e => hll (by omega)
    have hv : (xs == ys) = false := by
      rw [beq_eq_false_iff_ne]; intro e; subst e; exact hll (hx.1.symm.trans hy.1)
    rw [hv]
    clear hx hy hv hll
    go_enter Try.func77, Try.ntmps77
    go_wp2
    go_ret
    exact ⟨rfl, grown_refl _ _⟩

end Go.Proofs.Ytncbgofcimghnaa
