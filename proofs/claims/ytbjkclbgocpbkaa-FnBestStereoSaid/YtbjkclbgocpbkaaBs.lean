/-
  How much lists change: the sums as plain mathematics; both texts. The numbers are at most 70000 in size, the lists at most 64 long.
-/
import Derived.Test.YtbjkclbgocpbkaaStE
import Derived.Test.YtbjkclbgocpbkaaAuto
import Derived.Test.YtbjkclbgocpbkaaSum
namespace Go.Proofs.Ytbjkclbgocpbkaa
open Go.RowKit

def absV (x : Int) : Int := if x < 0 then -x else x
theorem absV_max (x : Int) : max x (-x) = absV x := by unfold absV; split <;> omega
theorem absV_range {x B : Int} (h0 : -B ≤ x) (h1 : x ≤ B) : 0 ≤ absV x ∧ absV x ≤ B := by unfold absV; split <;> omega
/-- The sum of the first k changes. -/
def chgS (xs : List Int) : Nat → Int
  | 0 => 0
  | k + 1 => chgS xs k + absV (xs.getD (k + 1) 0 - xs.getD k 0)
def chg (xs : List Int) : Int := chgS xs (xs.length - 1)
theorem getD_of' {xs : List Int} {k : Nat} {x : Int} (h : xs[k]? = some x) : xs.getD k 0 = x := by rw [List.getD_eq_getElem?_getD, h]; rfl
theorem getD_rng {xs : List Int} (h : allB xs (-70000) 70000 = true) (k : Nat) : -70000 ≤ xs.getD k 0 ∧ xs.getD k 0 ≤ 70000 := by
  rw [List.getD_eq_getElem?_getD]
  cases hk : xs[k]? with
  | none => simp
  | some x => exact allB_mem h hk
theorem chgS_range {xs : List Int} (h : allB xs (-70000) 70000 = true) (k : Nat) : 0 ≤ chgS xs k ∧ chgS xs k ≤ 140000 * (k : Int) := by
  induction k with
  | zero => simp [chgS]
  | succ k ih =>
    have h1 := getD_rng h (k + 1)
    have h2 := getD_rng h k
    have := absV_range (x := xs.getD (k + 1) 0 - xs.getD k 0) (B := 140000) (by omega) (by omega)
    simp only [chgS]
    omega

set_option maxHeartbeats 400000 in
theorem iAbs_any (x : Int) (w : World) (h0 : -1000000 ≤ x) (h1 : x ≤ 1000000) :
    Calls Try.prog 73 #[.int .i64 x] w fun e w' => e = .returned (.int .i64 (absV x)) ∧ w = w' := by
  have hw : IntKind.i64.wrap (-x) = -x := IntWalk.i64_in _ (by omega)
  by_cases h : x < 0
  · have d1 : decide (x < -x) = true := by simp; omega
    have d2 : decide (-x < x) = false := by simp; omega
    have e : absV x = -x := by unfold absV; rw [if_pos h]
    rw [e]
    go_enter Try.func73, Try.ntmps73
    go_wp2
    go_ret
    exact ⟨rfl, rfl⟩
  · have e : absV x = x := by unfold absV; rw [if_neg h]
    have d1 : decide (x < -x) = false := by simp; omega
    rw [e]
    go_enter Try.func73, Try.ntmps73
    go_wp2
    go_ret
    exact ⟨rfl, rfl⟩

set_option maxHeartbeats 1000000 in
theorem iChgCl (xs : List Int) (i : Nat) (n x : Int) (B : Nat) (ao : Option Addr) (len cap : Nat) (w : World) (hx : Ints w ao len xs) (hc : w.cell? ⟨B, 0, none⟩ = some (.slice ao len cap)) (hi : xs[i]? = some x)
    (hlen : len ≤ 64) (h0 : -70000 ≤ n) (h1 : n ≤ 70000) (h2 : -70000 ≤ x) (h3 : x ≤ 70000) :
    Calls Try.prog 72 #[.int .i64 (i : Int), .int .i64 n, .pointer (some ⟨B, 0, none⟩)] w fun e w' => e = .returned (.int .i64 (absV (n - x))) ∧ w = w' := by
  have hlt : i < len := by rw [← hx.1]; exact (List.getElem?_eq_some_iff.1 hi).1
  obtain ⟨b, off, rfl, hcc⟩ := hx.2.resolve_left (by intro e; subst e; simp at hi)
  have hcx := hcc i x hi
  have hw : IntKind.i64.wrap (n - x) = n - x := IntWalk.i64_in _ (by omega)
  have k := iAbs_any (n - x) w (by omega) (by omega)
  obtain ⟨y, hy⟩ : ∃ y, absV (n - x) = y := ⟨_, rfl⟩
  rw [hy] at k ⊢
  clear hx hcc hi hy
  go_enter Try.func72, Try.ntmps72
  go_wp2_with fail
  refine k.mono ?_
  rintro e w' ⟨rfl, rfl⟩
  clear k
  go_wp2
  go_ret
  exact ⟨rfl, rfl⟩

set_option maxHeartbeats 1000000 in
theorem sumChg_any (xs : List Int) (n : Nat) (z : Int) (B : Nat) (yo ao : Option Addr) (ycap len cap : Nat) (w : World) (hx : Ints w ao len xs) (hy : Ints w yo n (xs.drop 1)) (hc : w.cell? ⟨B, 0, none⟩ = some (.slice ao len cap)) (hlen : len ≤ 64) (hv : allB xs (-70000) 70000 = true) (hz : chgS xs n = z) :
    Calls Try.prog 71 #[.slice yo n ycap, .func (.func 72) #[] #[.pointer (some ⟨B, 0, none⟩)]] w fun e w' => e = .returned (.int .i64 z) ∧ w = w' := by
  subst hz
  have hn : n = xs.length - 1 := by rw [← hy.1]; simp
  have hl := hx.1
  by_cases h0 : n = 0
  · subst h0
    clear hx hy hc hv
    go_enter Try.func71, Try.ntmps71
    go_wp2
    refine wp_loop_rounds 1 ?_
    rw [rounds_succ]
    go_wp2
    go_ret
    exact ⟨rfl, rfl⟩
  obtain ⟨b, off, rfl, hcy⟩ := hy.2.resolve_left (by intro e; have := hy.1; rw [e] at this; simp at this; omega)
  have HX := Lib.hid hx
  have HY := Lib.hid hcy
  have HC := Lib.hid hc
  have HV := Lib.hid hv
  have HN := Lib.hid (And.intro hn hl)
  clear hx hy hcy hc hv hn h0 hl
  go_enter Try.func71, Try.ntmps71
  go_wp2
  go_loop [5, 10] (fun u i => ∃ (k : Nat) (s : Int), k ≤ n ∧ i = .int .i64 k ∧ u = .int .i64 s ∧ Hid (chgS xs k = s)) (fun _ i => n - (intOf i).toNat)
  case atStart => exact ⟨0, 0, Nat.zero_le _, rfl, rfl, rfl⟩
  case round =>
    obtain ⟨k, s, hk, rfl, rfl, hs⟩ := hrel
    by_cases hlt : k < n
    · obtain ⟨x, hxk⟩ : ∃ x, xs[k]? = some x := ⟨_, List.getElem?_eq_getElem (by have := HN.out; omega)⟩
      obtain ⟨y, hyk⟩ : ∃ y, xs[k + 1]? = some y := ⟨_, List.getElem?_eq_getElem (by have := HN.out; omega)⟩
      have hcy := HY.out k y (by rw [List.getElem?_drop, Nat.add_comm]; exact hyk)
      have hxr := allB_mem HV.out hxk
      have hyr := allB_mem HV.out hyk
      have hr := chgS_range HV.out k
      rw [hs.out] at hr
      have s0 := hr.1
      have hk64 : k ≤ 64 := by have := HN.out; omega
      have s1 : s ≤ 8960000 := by omega
      have KC := Lib.hid (iChgCl xs k y x B ao len cap w HX.out HC.out hxk hlen hyr.1 hyr.2 hxr.1 hxr.2)
      have hv := absV_range (x := y - x) (B := 140000) (by omega) (by omega)
      obtain ⟨v, hvv⟩ : ∃ v, absV (y - x) = v := ⟨_, rfl⟩
      have HS : Hid (chgS xs (k + 1) = s + v) := by show _ = _; simp only [chgS]; rw [hs.out, getD_of' hxk, getD_of' hyk, hvv]
      rw [hvv] at hv KC
      have v0 := hv.1
      have v1 := hv.2
      clear hxr hyr hr hv hvv hxk hyk
      go_wp2_with fail
      refine KC.out.mono ?_
      rintro e w' ⟨rfl, rfl⟩
      clear KC
      go_wp2
      go_round
      case rel => exact ⟨k + 1, s + v, by omega, by go_num, rfl, HS⟩
      case measure => simp [intOf]; omega
    · obtain rfl : k = n := by omega
      go_wp2
      go_ret
      exact ⟨ret_int hs.out.symm, rfl⟩

set_option maxHeartbeats 1000000 in
theorem iChg_any (xs : List Int) (ao : Option Addr) (len cap : Nat) (w : World) (hx : Ints w ao len xs) (hlc : len ≤ cap) (hlen : len ≤ 64) (hv : allB xs (-70000) 70000 = true) :
    Calls Try.prog 62 #[.slice ao len cap] w fun e w' => e = .returned (.int .i64 (chg xs)) ∧ w.grownBy w' none := by
  have hl := hx.1
  have e : chg xs = chgS xs (len - 1) := by unfold chg; rw [hl]
  rw [e]
  have hB : (w.alloc (.cells #[.slice ao len cap] 23)).cell? ⟨w.heap.size, 0, none⟩ = some (.slice ao len cap) := by rw [cell_of_row _ _ 0 _ _ _ (heap_alloc_new w _)]; rfl
  have HB := Lib.hid hB
  have HX := Lib.hid (hx.grown (grown_alloc w (.cells #[.slice ao len cap] 23) none))
  have HV := Lib.hid hv
  by_cases h0 : len = 0
  · subst h0
    have hnil : xs = [] := by simpa using hl
    clear hx hv hl e hB
    go_enter Try.func62, Try.ntmps62
    go_wp2_with fail
    refine (sumChg_any xs 0 _ w.heap.size ao ao _ 0 cap _ HX.out ⟨by simp [hnil], Or.inl (by simp [hnil])⟩ HB.out hlen HV.out rfl).mono ?_
    rintro e w' ⟨rfl, rfl⟩
    go_wp2
    go_ret
    exact ⟨rfl, grown_alloc _ _ _⟩
  obtain ⟨b, off, rfl, hc⟩ := hx.2.resolve_left (by intro e; rw [e] at hl; simp at hl; omega)
  have hm : min 1 (len : Int) = 1 := by omega
  have h1 : 1 ≤ len := by omega
  have i1 : 1 ≤ (len : Int) := by omega
  have i2 : decide ((len : Int) < 1) = false := by simp; omega
  by_cases hc1 : cap = 1
  · subst hc1
    obtain rfl : len = 1 := by omega
    have HY : Hid (∀ p, Ints (w.alloc (.cells #[.slice (some ⟨b, off, none⟩) 1 1] 23)) p 0 (xs.drop 1)) := fun p => ⟨by simp [hl], Or.inl (List.drop_of_length_le (by omega))⟩
    clear hx hv hl e hB hc h0
    go_enter Try.func62, Try.ntmps62
    go_wp2_with fail
    refine (sumChg_any xs 0 _ w.heap.size _ (some ⟨b, off, none⟩) _ 1 1 _ HX.out (HY.out _) HB.out hlen HV.out rfl).mono ?_
    rintro e w' ⟨rfl, rfl⟩
    go_wp2
    go_ret
    exact ⟨rfl, grown_alloc _ _ _⟩
  · have hc2 : 1 < cap := by omega
    have HY : Hid (Ints (w.alloc (.cells #[.slice (some ⟨b, off, none⟩) len cap] 23)) (some ⟨b, off + 1, none⟩) (len - 1) (xs.drop 1)) := by
      refine ⟨by simp [hl], Or.inr ⟨b, off + 1, rfl, fun i x hi => ?_⟩⟩
      rw [List.getElem?_drop] at hi
      have := (grown_alloc w (.cells #[.slice (some ⟨b, off, none⟩) len cap] 23) none).cell (hc (1 + i) x hi) (by simp)
      rw [show off + 1 + i = off + (1 + i) by omega]; exact this
    clear hx hv hl e hB hc h0
    go_enter Try.func62, Try.ntmps62
    go_wp2_with fail
    refine (sumChg_any xs (len - 1) _ w.heap.size _ (some ⟨b, off, none⟩) _ len cap _ HX.out HY.out HB.out hlen HV.out rfl).mono ?_
    rintro e w' ⟨rfl, rfl⟩
    go_wp2
    go_ret
    exact ⟨rfl, grown_alloc _ _ _⟩

/-! The specification's way. -/
def difL (xs : List Int) (k : Nat) : List Int := (List.range k).map (fun i => xs.getD (i + 1) 0 - xs.getD i 0)
theorem difL_succ (xs : List Int) (k : Nat) : difL xs (k + 1) = difL xs k ++ [xs.getD (k + 1) 0 - xs.getD k 0] := by
  unfold difL; rw [List.range_succ, List.map_append]; rfl
theorem difL_len (xs : List Int) (k : Nat) : (difL xs k).length = k := by simp [difL]
def absS (xs : List Int) : Int := (xs.map absV).sum
theorem absS_snoc (xs : List Int) (x : Int) : absS (xs ++ [x]) = absS xs + absV x := by simp [absS]
theorem absS_dif (xs : List Int) (k : Nat) : absS (difL xs k) = chgS xs k := by
  induction k with
  | zero => simp [absS, difL, chgS]
  | succ k ih => rw [difL_succ, absS_snoc, ih]; rfl
theorem difL_range {xs : List Int} (h : allB xs (-70000) 70000 = true) (k : Nat) : allB (difL xs k) (-140000) 140000 = true := by
  unfold allB difL
  rw [List.all_eq_true]
  intro y hy
  obtain ⟨i, _, rfl⟩ := List.mem_map.1 hy
  have h1 := getD_rng h (i + 1)
  have h2 := getD_rng h i
  simp only [inB, Bool.and_eq_true, decide_eq_true_eq]; omega
theorem absS_take {xs : List Int} {k : Nat} {x : Int} (h : xs[k]? = some x) : absS (xs.take (k + 1)) = absS (xs.take k) + absV x := by
  rw [List.take_add_one, h]; exact absS_snoc _ _
theorem absS_range {xs : List Int} (h : allB xs (-140000) 140000 = true) : 0 ≤ absS xs ∧ absS xs ≤ 140000 * (xs.length : Int) := by
  induction xs with
  | nil => simp [absS]
  | cons x xs ih =>
    have h1 : inB x (-140000) 140000 = true ∧ allB xs (-140000) 140000 = true := by simpa [allB] using h
    have h2 : -140000 ≤ x ∧ x ≤ 140000 := by simpa [inB] using h1.1
    have e : absS (x :: xs) = absV x + absS xs := by simp [absS]
    have h3 := absV_range h2.1 h2.2
    have := ih h1.2
    rw [e, List.length_cons, Int.natCast_succ]
    omega

set_option maxHeartbeats 400000 in
theorem sDst_any (x : Int) (w : World) (h0 : -1000000 ≤ x) (h1 : x ≤ 1000000) :
    Calls Try.prog 76 #[.int .i64 x] w fun e w' => e = .returned (.int .i64 (absV x)) ∧ w = w' := by
  by_cases h : x < 0
  · have hd : decide (x < 0) = true := by simpa using h
    have e : absV x = -x := by unfold absV; rw [if_pos h]
    rw [e]
    go_enter Try.func76, Try.ntmps76
    go_wp2
    go_ret
    exact ⟨rfl, rfl⟩
  · have hd : decide (x < 0) = false := by simpa using h
    have e : absV x = x := by unfold absV; rw [if_neg h]
    rw [e]
    go_enter Try.func76, Try.ntmps76
    go_wp2
    go_ret
    exact ⟨rfl, rfl⟩

set_option maxHeartbeats 1000000 in
theorem sWgt_any (xs : List Int) (n : Nat) (ao : Option Addr) (cap : Nat) (w : World) (hx : Ints w ao n xs) (hn : n ≤ 64) (ha : allB xs (-140000) 140000 = true) :
    Calls Try.prog 74 #[.slice ao n cap] w fun e w' => e = .returned (.int .i64 (absS xs)) ∧ w = w' := by
  have HX := Lib.hid hx
  have HA := Lib.hid ha
  clear hx ha
  go_enter Try.func74, Try.ntmps74
  go_wp2
  go_loop [3, 4] (fun u i => ∃ (k : Nat) (z : Int), k ≤ n ∧ i = .int .i64 k ∧ u = .int .i64 z ∧ Hid (absS (xs.take k) = z)) (fun _ i => n - (intOf i).toNat)
  case atStart => exact ⟨0, 0, Nat.zero_le _, rfl, rfl, rfl⟩
  case round =>
    obtain ⟨k, z, hk, rfl, rfl, hz⟩ := hrel
    by_cases hlt : k < n
    · obtain ⟨x, hxk⟩ : ∃ x, xs[k]? = some x := ⟨_, List.getElem?_eq_getElem (by rw [HX.out.1]; exact hlt)⟩
      obtain ⟨b, off, rfl, hc⟩ := HX.out.2.resolve_left (by intro e; subst e; simp at hxk)
      have hcx := hc k x hxk
      have hxr := allB_mem HA.out hxk
      have hx0 := hxr.1
      have hx1 := hxr.2
      have hzr := absS_range (allB_prefix HA.out k)
      rw [hz.out, List.length_take] at hzr
      have hz0 := hzr.1
      have hz1 : z ≤ 8960000 := by
        have := Nat.min_le_left k xs.length
        omega
      have ar := absV_range hx0 hx1
      have HZ : Hid (absS (xs.take (k + 1)) = z + absV x) := by show _ = _; rw [absS_take hxk, hz.out]
      obtain ⟨y, hy⟩ : ∃ y, absV x = y := ⟨_, rfl⟩
      have KD : Hid (∀ W : World, Calls Try.prog 76 #[.int .i64 x] W fun e w' => e = .returned (.int .i64 y) ∧ W = w') := fun W => by have := sDst_any x W (by omega) (by omega); rw [hy] at this; exact this
      rw [hy] at ar HZ
      have a0 := ar.1
      have a1 := ar.2
      clear hc hxk hxr hy ar hzr
      go_wp2_with fail
      refine (KD.out _).mono ?_
      rintro e w' ⟨rfl, rfl⟩
      clear KD
      go_wp2
      go_round
      case rel => exact ⟨k + 1, z + y, by omega, by go_num, rfl, HZ⟩
      case measure => simp [intOf]; omega
    · have HF : Hid (absS xs = z) := by show _ = _; have := hz.out; rwa [List.take_of_length_le (by rw [HX.out.1]; omega)] at this
      go_wp2
      go_ret
      exact ⟨ret_int HF.out.symm, rfl⟩

end Go.Proofs.Ytbjkclbgocpbkaa
