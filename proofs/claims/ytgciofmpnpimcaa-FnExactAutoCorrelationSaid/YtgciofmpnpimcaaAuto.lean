/-
  Correlations: the sums as plain mathematics, and both texts. The lists are at most 4194304 numbers long.
-/
import Derived.Test.YtgciofmpnpimcaaILin
import Derived.Test.YtgciofmpnpimcaaMem
import Derived.Deep.LoopGhost
import Derived.Deep.QuietTactic
import Derived.BigQuiet
import Derived.IntWalk
namespace Go.Proofs.Ytgciofmpnpimcaa
open Go.RowKit

/-- Samples are valid. -/
def vS (xs : List Int) : Bool := decide (xs.length ≤ 64) && allB xs (-65536) 65536
theorem vS_len {xs : List Int} (h : vS xs = true) : xs.length ≤ 64 := by
  unfold vS at h; simp only [Bool.and_eq_true, decide_eq_true_eq] at h; exact h.1
theorem vS_all {xs : List Int} (h : vS xs = true) : allB xs (-65536) 65536 = true := by
  unfold vS at h; simp only [Bool.and_eq_true] at h; exact h.2

set_option maxHeartbeats 400000 in
theorem iValidSamples_any (xs : List Int) (ao : Option Addr) (len cap : Nat) (w : World) (v : Bool) (hx : Ints w ao len xs) (hmax : len ≤ 4611686018427387904) (hv : vS xs = v) :
    Calls Try.prog 38 #[.slice ao len cap] w fun e w' => e = .returned (.bool v) ∧ w = w' := by
  subst hv
  have hl := hx.1
  by_cases h : len ≤ 64
  · have k := iAllIn_any xs (-65536) 65536 ao len cap w _ hx (by omega) rfl
    have hv : vS xs = allB xs (-65536) 65536 := by unfold vS; simp [hl, h]
    rw [hv]
    have hd : decide ((len : Int) ≤ 64) = true := by simp; omega
    clear hv hl hx h
    generalize allB xs (-65536) 65536 = b at *
    go_enter Try.func38, Try.ntmps38
    go_wp2_with fail
    refine k.mono ?_
    rintro e w' ⟨rfl, rfl⟩
    clear k
    go_wp2
    go_ret
    exact ⟨rfl, rfl⟩
  · have hv : vS xs = false := by unfold vS; simp [hl, h]
    rw [hv]
    have hd : decide ((len : Int) ≤ 64) = false := by simp; omega
    clear hv hl hx h
    go_enter Try.func38, Try.ntmps38
    go_wp2
    go_ret
    exact ⟨rfl, rfl⟩
set_option maxHeartbeats 400000 in
theorem sValidSamples_any (xs : List Int) (ao : Option Addr) (len cap : Nat) (w : World) (v : Bool) (hx : Ints w ao len xs) (hmax : len ≤ 4611686018427387904) (hv : vS xs = v) :
    Calls Try.prog 41 #[.slice ao len cap] w fun e w' => e = .returned (.bool v) ∧ w = w' := by
  subst hv
  have hl := hx.1
  by_cases h : len ≤ 64
  · have k := allIn_any xs (-65536) 65536 ao len cap w hx (by omega)
    have hv : vS xs = allB xs (-65536) 65536 := by unfold vS; simp [hl, h]
    rw [hv]
    have hd : decide ((len : Int) ≤ 64) = true := by simp; omega
    clear hv hl hx h
    generalize allB xs (-65536) 65536 = b at *
    go_enter Try.func41, Try.ntmps41
    go_wp2_with fail
    refine k.mono ?_
    rintro e w' ⟨rfl, rfl⟩
    clear k
    go_wp2
    go_ret
    exact ⟨rfl, rfl⟩
  · have hv : vS xs = false := by unfold vS; simp [hl, h]
    rw [hv]
    have hd : decide ((len : Int) ≤ 64) = false := by simp; omega
    clear hv hl hx h
    go_enter Try.func41, Try.ntmps41
    go_wp2
    go_ret
    exact ⟨rfl, rfl⟩

/-! The sums. -/
def acS (xs : List Int) (d : Nat) : Nat → Int
  | 0 => 0
  | k + 1 => acS xs d k + xs.getD (d + k) 0 * xs.getD k 0
def ac (xs : List Int) (d : Nat) : Int := acS xs d (xs.length - d)
theorem prod_range {a b : Int} (h0 : -65536 ≤ a) (h1 : a ≤ 65536) (h2 : -65536 ≤ b) (h3 : b ≤ 65536) : -4294967296 ≤ a * b ∧ a * b ≤ 4294967296 := by
  rcases Int.le_total 0 b with h | h
  · have := mul_range (A := 65536) (B := 65536) h0 h1 h h3 (by omega); omega
  · have := mul_range (A := 65536) (B := 65536) h0 h1 (show 0 ≤ -b by omega) (by omega) (by omega)
    rw [Int.mul_neg] at this; omega
theorem getD_range {xs : List Int} (h : allB xs (-65536) 65536 = true) (k : Nat) : -65536 ≤ xs.getD k 0 ∧ xs.getD k 0 ≤ 65536 := by
  rw [List.getD_eq_getElem?_getD]
  cases hk : xs[k]? with
  | none => simp
  | some x => exact allB_mem h hk
theorem acS_range {xs : List Int} (h : allB xs (-65536) 65536 = true) (d k : Nat) : -(4294967296 * (k : Int)) ≤ acS xs d k ∧ acS xs d k ≤ 4294967296 * (k : Int) := by
  induction k with
  | zero => simp [acS]
  | succ k ih =>
    have h1 := getD_range h (d + k)
    have h2 := getD_range h k
    have := prod_range h1.1 h1.2 h2.1 h2.2
    simp only [acS]
    omega

set_option maxHeartbeats 400000 in
theorem iTerm_any (xs : List Int) (i : Nat) (n x : Int) (B : Nat) (ao : Option Addr) (len cap : Nat) (w : World) (hx : Ints w ao len xs) (hc : w.cell? ⟨B, 0, none⟩ = some (.slice ao len cap)) (hi : xs[i]? = some x)
    (hlen : len ≤ 4611686018427387904) (h0 : -65536 ≤ n) (h1 : n ≤ 65536) (h2 : -65536 ≤ x) (h3 : x ≤ 65536) :
    Calls Try.prog 40 #[.int .i64 (i : Int), .int .i64 n, .pointer (some ⟨B, 0, none⟩)] w fun e w' => e = .returned (.int .i64 (n * x)) ∧ w = w' := by
  have hp := prod_range h0 h1 h2 h3
  have hp0 := hp.1
  have hp1 := hp.2
  have hlt : i < len := by rw [← hx.1]; exact (List.getElem?_eq_some_iff.1 hi).1
  obtain ⟨b, off, rfl, hcc⟩ := hx.2.resolve_left (by intro e; subst e; simp at hi)
  have hcx := hcc i x hi
  clear hp hx hcc hi
  go_enter Try.func40, Try.ntmps40
  go_wp2
  go_ret
  exact ⟨rfl, rfl⟩

theorem drop_get {xs : List Int} {d k : Nat} : (xs.drop d)[k]? = xs[d + k]? := List.getElem?_drop
theorem getD_of {xs : List Int} {k : Nat} {x : Int} (h : xs[k]? = some x) : xs.getD k 0 = x := by rw [List.getD_eq_getElem?_getD, h]; rfl

set_option maxHeartbeats 1000000 in
theorem sumAC_any (xs : List Int) (d n : Nat) (z : Int) (B : Nat) (yo ao : Option Addr) (ycap len cap : Nat) (w : World) (hx : Ints w ao len xs) (hy : Ints w yo n (xs.drop d)) (hc : w.cell? ⟨B, 0, none⟩ = some (.slice ao len cap)) (hv : vS xs = true) (hz : acS xs d n = z) :
    Calls Try.prog 39 #[.slice yo n ycap, .func (.func 40) #[] #[.pointer (some ⟨B, 0, none⟩)]] w fun e w' => e = .returned (.int .i64 z) ∧ w = w' := by
  subst hz
  have hlen := vS_len hv
  have hn : n = xs.length - d := by rw [← hy.1]; simp
  by_cases h0 : n = 0
  · subst h0
    clear hx hy hc hv
    go_enter Try.func39, Try.ntmps39
    go_wp2
    refine wp_loop_rounds 1 ?_
    rw [rounds_succ]
    go_wp2
    go_ret
    exact ⟨rfl, rfl⟩
  obtain ⟨b, off, rfl, hcy⟩ := hy.2.resolve_left (by intro e; have := hy.1; rw [e] at this; simp at this; omega)
  have HX := Lib.hid hx
  have HY := Lib.hid hcy
  have HC := Lib.hid hc
  have HV := Lib.hid (vS_all hv)
  have HN := Lib.hid hn
  have hn64 : n ≤ 64 := by omega
  clear hx hy hcy hc hv hn h0
  go_enter Try.func39, Try.ntmps39
  go_wp2
  go_loop [5, 10] (fun sv i => ∃ (k : Nat) (s : Int), k ≤ n ∧ i = .int .i64 k ∧ sv = .int .i64 s ∧ Hid (acS xs d k = s)) (fun _ i => n - (intOf i).toNat)
  case atStart => exact ⟨0, 0, Nat.zero_le _, rfl, rfl, rfl⟩
  case round =>
    obtain ⟨k, s, hk, rfl, rfl, hs⟩ := hrel
    by_cases hlt : k < n
    · obtain ⟨y, hyk⟩ : ∃ y, xs[d + k]? = some y := ⟨_, List.getElem?_eq_getElem (by have := HN.out; omega)⟩
      obtain ⟨x, hxk⟩ : ∃ x, xs[k]? = some x := ⟨_, List.getElem?_eq_getElem (by have := HN.out; omega)⟩
      have hcx := HY.out k y (by rw [drop_get]; exact hyk)
      have hyr := allB_mem HV.out hyk
      have hxr := allB_mem HV.out hxk
      have hpr := prod_range hyr.1 hyr.2 hxr.1 hxr.2
      have hp0 := hpr.1
      have hp1 := hpr.2
      have hsr := acS_range HV.out d k
      rw [hs.out] at hsr
      have hs0 : -300000000000 ≤ s := by omega
      have hs1 : s ≤ 300000000000 := by omega
      have hcall := iTerm_any xs k y x B ao len cap w HX.out HC.out hxk (by rw [← HX.out.1]; omega) hyr.1 hyr.2 hxr.1 hxr.2
      have HS : Hid (acS xs d (k + 1) = s + y * x) := by show _ = _; simp only [acS]; rw [hs.out, getD_of hyk, getD_of hxk]
      clear hyk hxk hyr hxr hpr hsr
      go_wp2_with fail
      refine hcall.mono ?_
      rintro e w' ⟨rfl, rfl⟩
      clear hcall
      generalize y * x = p at *
      go_wp2
      go_round
      case rel => exact ⟨k + 1, s + p, by omega, by go_num, rfl, HS⟩
      case measure => simp [intOf]; omega
    · obtain rfl : k = n := by omega
      have HF : Hid (acS xs d k = s) := hs
      go_wp2
      go_ret
      exact ⟨ret_int HF.out.symm, rfl⟩

/-- The correlations so far. -/
def acL (xs : List Int) (m : Nat) : List Int := (List.range m).map (ac xs)
theorem acL_succ (xs : List Int) (m : Nat) : acL xs (m + 1) = acL xs m ++ [ac xs m] := by unfold acL; rw [List.range_succ]; simp
theorem acL_len (xs : List Int) (m : Nat) : (acL xs m).length = m := by simp [acL]

/-- Inside the program's correlations. -/
structure AQ (w : World) (u : Value) (bv : Value) (n : Nat) (ys : List Int) (wr : World) : Prop where
  now : wr.heap[w.heap.size]? = some (.cells #[u] 23 (0, 0))
  own : Owns wr (w.heap.size + 1) bv n ys
  g : w.grownBy wr none
theorem aq_step {w wr w2 : World} {o : Obj} {u bv v2 : Value} {n : Nat} {ys zs : List Int} (h : AQ w u bv n ys wr) (hg : (wr.alloc o).grownBy w2 bv.ownBlock) (ho : Owns w2 (w.heap.size + 1) v2 (n + 1) zs) : AQ w u v2 (n + 1) zs w2 := by
  have hb : ∀ g, bv.ownBlock = some g → w.heap.size + 1 ≤ g := fun g e => h.own.block g e
  exact ⟨grown_heap hg (grown_heap (grown_alloc wr o none) h.now (by simp)) (fun e => by have := hb _ e; omega), ho, grown_row (grown_trans h.g (grown_alloc _ _ _)) hg (fun g e => by have := hb g e; omega)⟩

set_option maxRecDepth 100000 in
set_option maxHeartbeats 8000000 in
theorem iAuto_loop (xs : List Int) (m n : Nat) (ao : Option Addr) (len cap : Nat) (w : World) (hx : Ints w ao len xs) (hlc : len ≤ cap) (hn0 : ao = none → cap = 0) (hv : vS xs = true) (hm : m ≤ 8) (hn : n = m + 1) :
    Calls Try.prog 16 #[.slice ao len cap, .int .i64 (m : Int)] w (Made (acL xs n) n w) := by
  have hlen := vS_len hv
  have hxl := hx.1
  have k1 := iValidSamples_any xs ao len cap (w.alloc (.cells #[.slice ao len cap] 23)) true (hx.grown (grown_alloc _ _ _)) (by omega) hv
  have k2 := iAllIn_any [(m : Int)] 0 8 (some ⟨w.heap.size + 1, 0, none⟩) 1 1 ((w.alloc (.cells #[.slice ao len cap] 23)).alloc (.cells #[.int .i64 (m : Int)] 3)) true (by have := ints_one (w.alloc (.cells #[.slice ao len cap] 23)) (m : Int) 3; simpa using this) (by omega) (by rw [allB_one]; exact inB_true (by omega) (by omega))
  obtain ⟨i0, hi, hz0, hz1, hz2⟩ := info_parts info_int
  have hmf : ∀ (fn : Fn) (first cap : Array Value) (w : World), (Instr.makeFunc fn first cap).run Try.prog w = .ok (.func fn first cap) w := fun _ _ _ _ => rfl
  have HX := Lib.hid hx
  have HV := Lib.hid hv
  have HN := Lib.hid hn
  have HN0 := Lib.hid hn0
  clear hx hv hn hn0
  go_enter Try.func16, Try.ntmps16
  go_wp2_with fail
  refine k1.mono ?_
  rintro e w' ⟨rfl, rfl⟩
  clear k1
  go_wp2_with fail
  refine k2.mono ?_
  rintro e w' ⟨rfl, rfl⟩
  clear k2
  go_wp2_with (at_make; refine wpList_make_own _ rfl _ _ 23 rfl (w.heap.size + 1) 3 i0 (.int .i64 0) 1 Try.underlying23 hi hz0 hz1 .i64 .i64 _ (m + 1) rfl rfl (by simp) ?b1 ?b2 ?b3 ?_)
  case b1 => rw [hz2]; omega
  case b2 => unfold maxLen; omega
  case b3 => simp
  intro w1 hown hgrow
  have HW : Hid (AQ w (.slice ao len cap) (.slice (some ⟨w.heap.size + 1 + 1, 0, none⟩) 0 (m + 1)) 0 (acL xs 0) w1) := by
    refine ⟨grown_heap hgrow (heap_alloc2_old w _ _) (by simp), ?_, grown_trans (grown_trans (grown_alloc _ _ _) (grown_alloc _ _ _)) hgrow⟩
    exact hown
  clear hown hgrow
  go_wp2
  go_loopw [5, 22] (fun sv iv wr => ∃ (k : Nat) (bv : Value), bv = sv ∧ k ≤ m + 1 ∧ iv = .int .i64 k ∧ Hid (AQ w (.slice ao len cap) bv k (acL xs k) wr)) (fun _ iv _ => m + 1 - (intOf iv).toNat)
  case atStart => exact ⟨0, _, by simp, Nat.zero_le _, rfl, HW⟩
  case round =>
    obtain ⟨k, bv, rfl, hk, rfl, HR⟩ := hrel
    by_cases hlt : k < m + 1
    · have q0 : wr.cell? ⟨w.heap.size, 0, none⟩ = some (.slice ao len cap) := by rw [cell_of_row wr _ 0 _ _ _ HR.out.now]; rfl
      obtain ⟨a1, c1, rfl, _, _, _, _⟩ := HR.out.own.reads
      have HXr := Lib.hid (HX.out.grown HR.out.g)
      by_cases hd : k < len
      · obtain ⟨b, off, hab, hc⟩ := HX.out.2.resolve_left (by intro e; subst e; simp at hxl; omega)
        subst hab
        have HD : Hid (Ints wr (some ⟨b, off + k, none⟩) (len - k) (xs.drop k)) := by
          refine ⟨by simp; omega, Or.inr ⟨b, off + k, rfl, fun j y hj => ?_⟩⟩
          rw [drop_get] at hj
          rw [Nat.add_assoc]
          exact HR.out.g.cell (hc _ _ hj) (by simp)
        clear hc
        have hkc : k < cap := by omega
        have hll : (min (k : Int) (len : Int)) = (k : Int) := by omega
        go_wp2_with fail
        refine (sumAC_any xs k (len - k) (ac xs k) w.heap.size _ _ _ _ _ _ HXr.out HD.out q0 HV.out (by unfold ac; congr 1 <;> omega)).mono ?_
        rintro e w' ⟨rfl, rfl⟩
        have HO := Lib.hid HR.out.own
        go_wp2_with (at_builtin; refine append_ints rfl _ _ rfl (w.heap.size + 1) (.slice a1 k c1) k (acL xs k) rfl (HO.out.grown (grown_alloc _ _ _)) (some ⟨wr.heap.size, 0, none⟩) 1 1 [ac xs k] rfl (ints_one _ _ _) (fun e => nomatch e) ?_ ?_ ?_)
        · omega
        · have := block_lt HR.out.now; simp; omega
        intro v2 w2 hown hgrow
        have HN2 := aq_step HR.out hgrow hown
        rw [← acL_succ] at HN2
        have HN3 := Lib.hid HN2
        clear hown hgrow HO HR q0 HN2 HXr
        go_wp2
        go_roundw
        case rel => exact ⟨k + 1, v2, rfl, by omega, by go_num, HN3⟩
        case measure => simp [intOf]; omega
      · have hll : (min (k : Int) (len : Int)) = (len : Int) := by omega
        have hll2 : min k len = len := by omega
        have HE : Hid (∀ yo, Ints wr yo 0 (xs.drop k)) := fun yo => ⟨by simp; omega, Or.inl (List.drop_of_length_le (by omega))⟩
        clear hll hll2
        cases ao with
        | none =>
          obtain rfl := HN0.out rfl
          obtain rfl : len = 0 := by omega
          clear hd hlc HW
          by_cases hk0 : 0 < k
          · skip
            go_wp2_with fail
            refine (sumAC_any xs k (0) (ac xs k) w.heap.size _ _ _ _ _ _ HXr.out (HE.out _) q0 HV.out (by unfold ac; congr 1 <;> omega)).mono ?_
            rintro e w' ⟨rfl, rfl⟩
            have HO := Lib.hid HR.out.own
            go_wp2_with (at_builtin; refine append_ints rfl _ _ rfl (w.heap.size + 1) (.slice a1 k c1) k (acL xs k) rfl (HO.out.grown (grown_alloc _ _ _)) (some ⟨wr.heap.size, 0, none⟩) 1 1 [ac xs k] rfl (ints_one _ _ _) (fun e => nomatch e) ?_ ?_ ?_)
            · omega
            · have := block_lt HR.out.now; simp; omega
            intro v2 w2 hown hgrow
            have HN2 := aq_step HR.out hgrow hown
            rw [← acL_succ] at HN2
            have HN3 := Lib.hid HN2
            clear hown hgrow HO HR q0 HN2 HXr
            go_wp2
            go_roundw
            case rel => exact ⟨k + 1, v2, rfl, by omega, by go_num, HN3⟩
            case measure => simp [intOf]; omega
          · obtain rfl : k = 0 := by omega
            go_wp2_with fail
            refine (sumAC_any xs 0 (0) (ac xs 0) w.heap.size _ _ _ _ _ _ HXr.out (HE.out _) q0 HV.out (by unfold ac; congr 1 <;> omega)).mono ?_
            rintro e w' ⟨rfl, rfl⟩
            have HO := Lib.hid HR.out.own
            go_wp2_with (at_builtin; refine append_ints rfl _ _ rfl (w.heap.size + 1) (.slice a1 0 c1) 0 (acL xs 0) rfl (HO.out.grown (grown_alloc _ _ _)) (some ⟨wr.heap.size, 0, none⟩) 1 1 [ac xs 0] rfl (ints_one _ _ _) (fun e => nomatch e) ?_ ?_ ?_)
            · omega
            · have := block_lt HR.out.now; simp; omega
            intro v2 w2 hown hgrow
            have HN2 := aq_step HR.out hgrow hown
            rw [← acL_succ] at HN2
            have HN3 := Lib.hid HN2
            clear hown hgrow HO HR q0 HN2 HXr
            go_wp2
            go_roundw
            case rel => exact ⟨0 + 1, v2, rfl, by omega, by go_num, HN3⟩
            case measure => (first | (simp [intOf]; done) | (simp [intOf]; omega))
        | some ad =>
          obtain ⟨b, off, sp⟩ := ad
          by_cases hlk : len < k
          · by_cases hcl : cap = len
            · subst hcl
              go_wp2_with fail
              refine (sumAC_any xs k (0) (ac xs k) w.heap.size _ _ _ _ _ _ HXr.out (HE.out _) q0 HV.out (by unfold ac; congr 1 <;> omega)).mono ?_
              rintro e w' ⟨rfl, rfl⟩
              have HO := Lib.hid HR.out.own
              go_wp2_with (at_builtin; refine append_ints rfl _ _ rfl (w.heap.size + 1) (.slice a1 k c1) k (acL xs k) rfl (HO.out.grown (grown_alloc _ _ _)) (some ⟨wr.heap.size, 0, none⟩) 1 1 [ac xs k] rfl (ints_one _ _ _) (fun e => nomatch e) ?_ ?_ ?_)
              · omega
              · have := block_lt HR.out.now; simp; omega
              intro v2 w2 hown hgrow
              have HN2 := aq_step HR.out hgrow hown
              rw [← acL_succ] at HN2
              have HN3 := Lib.hid HN2
              clear hown hgrow HO HR q0 HN2 HXr
              go_wp2
              go_roundw
              case rel => exact ⟨k + 1, v2, rfl, by omega, by go_num, HN3⟩
              case measure => simp [intOf]; omega
            · skip
              go_wp2_with fail
              refine (sumAC_any xs k (0) (ac xs k) w.heap.size _ _ _ _ _ _ HXr.out (HE.out _) q0 HV.out (by unfold ac; congr 1 <;> omega)).mono ?_
              rintro e w' ⟨rfl, rfl⟩
              have HO := Lib.hid HR.out.own
              go_wp2_with (at_builtin; refine append_ints rfl _ _ rfl (w.heap.size + 1) (.slice a1 k c1) k (acL xs k) rfl (HO.out.grown (grown_alloc _ _ _)) (some ⟨wr.heap.size, 0, none⟩) 1 1 [ac xs k] rfl (ints_one _ _ _) (fun e => nomatch e) ?_ ?_ ?_)
              · omega
              · have := block_lt HR.out.now; simp; omega
              intro v2 w2 hown hgrow
              have HN2 := aq_step HR.out hgrow hown
              rw [← acL_succ] at HN2
              have HN3 := Lib.hid HN2
              clear hown hgrow HO HR q0 HN2 HXr
              go_wp2
              go_roundw
              case rel => exact ⟨k + 1, v2, rfl, by omega, by go_num, HN3⟩
              case measure => simp [intOf]; omega
          · obtain rfl : k = len := by omega
            by_cases hcl : cap = k
            · subst hcl
              go_wp2_with fail
              refine (sumAC_any xs cap (0) (ac xs cap) w.heap.size _ _ _ _ _ _ HXr.out (HE.out _) q0 HV.out (by unfold ac; congr 1 <;> omega)).mono ?_
              rintro e w' ⟨rfl, rfl⟩
              have HO := Lib.hid HR.out.own
              go_wp2_with (at_builtin; refine append_ints rfl _ _ rfl (w.heap.size + 1) (.slice a1 cap c1) cap (acL xs cap) rfl (HO.out.grown (grown_alloc _ _ _)) (some ⟨wr.heap.size, 0, none⟩) 1 1 [ac xs cap] rfl (ints_one _ _ _) (fun e => nomatch e) ?_ ?_ ?_)
              · omega
              · have := block_lt HR.out.now; simp; omega
              intro v2 w2 hown hgrow
              have HN2 := aq_step HR.out hgrow hown
              rw [← acL_succ] at HN2
              have HN3 := Lib.hid HN2
              clear hown hgrow HO HR q0 HN2 HXr
              go_wp2
              go_roundw
              case rel => exact ⟨cap + 1, v2, rfl, by omega, by go_num, HN3⟩
              case measure => simp [intOf]; omega
            · skip
              go_wp2_with fail
              refine (sumAC_any xs k (0) (ac xs k) w.heap.size _ _ _ _ _ _ HXr.out (HE.out _) q0 HV.out (by unfold ac; congr 1 <;> omega)).mono ?_
              rintro e w' ⟨rfl, rfl⟩
              have HO := Lib.hid HR.out.own
              go_wp2_with (at_builtin; refine append_ints rfl _ _ rfl (w.heap.size + 1) (.slice a1 k c1) k (acL xs k) rfl (HO.out.grown (grown_alloc _ _ _)) (some ⟨wr.heap.size, 0, none⟩) 1 1 [ac xs k] rfl (ints_one _ _ _) (fun e => nomatch e) ?_ ?_ ?_)
              · omega
              · have := block_lt HR.out.now; simp; omega
              intro v2 w2 hown hgrow
              have HN2 := aq_step HR.out hgrow hown
              rw [← acL_succ] at HN2
              have HN3 := Lib.hid HN2
              clear hown hgrow HO HR q0 HN2 HXr
              go_wp2
              go_roundw
              case rel => exact ⟨k + 1, v2, rfl, by omega, by go_num, HN3⟩
              case measure => simp [intOf]; omega
    · obtain rfl : k = m + 1 := by omega
      have hn := HN.out
      subst hn
      obtain ⟨a1, c1, rfl, _, _, _, _⟩ := HR.out.own.reads
      have HF : Hid (Owns wr w.heap.size (.slice a1 (m + 1) c1) (m + 1) (acL xs (m + 1)) ∧ w.grownBy wr none) := ⟨HR.out.own.base_le (by omega), HR.out.g⟩
      clear HR
      go_wp2
      go_ret
      exact ⟨_, rfl, HF.out⟩

set_option maxHeartbeats 1000000 in
theorem iAuto_bad (xs : List Int) (m : Int) (ao : Option Addr) (len cap : Nat) (w : World) (hx : Ints w ao len xs) (hmax : len ≤ 4611686018427387904) (hv : vS xs = false ∨ inB m 0 8 = false) :
    Calls Try.prog 16 #[.slice ao len cap, .int .i64 m] w (Made [] 0 w) := by
  cases hb : vS xs with
  | false =>
    have k1 := iValidSamples_any xs ao len cap (w.alloc (.cells #[.slice ao len cap] 23)) false (hx.grown (grown_alloc _ _ _)) hmax hb
    clear hx hv hb
    go_enter Try.func16, Try.ntmps16
    go_wp2_with fail
    refine k1.mono ?_
    rintro e w' ⟨rfl, rfl⟩
    clear k1
    go_wp2
    go_ret
    exact ⟨_, rfl, World.ownsRow_nil _ _ _ _, grown_alloc _ _ _⟩
  | true =>
    have hm : inB m 0 8 = false := by rcases hv with h | h; (rw [hb] at h; cases h); exact h
    have k1 := iValidSamples_any xs ao len cap (w.alloc (.cells #[.slice ao len cap] 23)) true (hx.grown (grown_alloc _ _ _)) hmax hb
    have k2 := iAllIn_any [m] 0 8 (some ⟨w.heap.size + 1, 0, none⟩) 1 1 ((w.alloc (.cells #[.slice ao len cap] 23)).alloc (.cells #[.int .i64 m] 3)) false (by have := ints_one (w.alloc (.cells #[.slice ao len cap] 23)) m 3; simpa using this) (by omega) (by rw [allB_one]; exact hm)
    clear hx hv hb hm
    go_enter Try.func16, Try.ntmps16
    go_wp2_with fail
    refine k1.mono ?_
    rintro e w' ⟨rfl, rfl⟩
    clear k1
    go_wp2_with fail
    refine k2.mono ?_
    rintro e w' ⟨rfl, rfl⟩
    clear k2
    go_wp2
    go_ret
    exact ⟨_, rfl, World.ownsRow_nil _ _ _ _, grown_trans (grown_alloc _ _ _) (grown_alloc _ _ _)⟩

set_option maxHeartbeats 2000000 in
theorem sCor_any (xs : List Int) (d : Nat) (z : Int) (ao : Option Addr) (len cap : Nat) (w : World) (hx : Ints w ao len xs) (hv : vS xs = true) (hd : d ≤ 8) (hz : ac xs d = z) :
    Calls Try.prog 42 #[.slice ao len cap, .int .i64 (d : Int)] w fun e w' => e = .returned (.int .i64 z) ∧ w.grownBy w' none := by
  subst hz
  have hlen := vS_len hv
  have hxl := hx.1
  have HX := Lib.hid hx
  have HV := Lib.hid (vS_all hv)
  clear hx hv
  go_enter Try.func42, Try.ntmps42
  go_wp2
  go_loopw [5, 6] (fun sv iv wr => ∃ (k n : Nat) (s i : Int), sv = .int .i64 s ∧ iv = .int .i64 i ∧ i = (d : Int) + (k : Int) ∧ (k = 0 ∨ d + k ≤ len) ∧ wr = w.drewN n ∧ Hid (acS xs d k = s)) (fun _ iv _ => 100 - (intOf iv).toNat)
  case atStart => exact ⟨0, 0, 0, d, rfl, rfl, by simp, Or.inl rfl, rfl, rfl⟩
  case round =>
    obtain ⟨k, n, s, i, rfl, rfl, hi, hk, rfl, hs⟩ := hrel
    by_cases hlt : d + k < len
    · obtain ⟨y, hyk⟩ : ∃ y, xs[d + k]? = some y := ⟨_, List.getElem?_eq_getElem (by omega)⟩
      obtain ⟨x, hxk⟩ : ∃ x, xs[k]? = some x := ⟨_, List.getElem?_eq_getElem (by omega)⟩
      obtain ⟨b, off, hab, hc⟩ := HX.out.2.resolve_left (by intro e; subst e; simp at hyk)
      have hcy := hc _ _ hyk
      have hcx := hc _ _ hxk
      have hyr := allB_mem HV.out hyk
      have hxr := allB_mem HV.out hxk
      have hpr := prod_range hyr.1 hyr.2 hxr.1 hxr.2
      have hp0 := hpr.1
      have hp1 := hpr.2
      have hsr := acS_range HV.out d k
      rw [hs.out] at hsr
      have hs0 : -300000000000 ≤ s := by omega
      have hs1 : s ≤ 300000000000 := by omega
      have HS : Hid (acS xs d (k + 1) = s + y * x) := by show _ = _; simp only [acS]; rw [hs.out, getD_of hyk, getD_of hxk]
      obtain ⟨j, hj⟩ : ∃ j, j = d + k := ⟨_, rfl⟩
      rw [← hj] at hcy hlt
      have hij : i = (j : Int) := by omega
      have hid : i - (d : Int) = (k : Int) := by omega
      have HJ := Lib.hid (And.intro hj hi)
      subst hab
      subst hij
      have hjd : (j : Int) - (d : Int) = (k : Int) := hid
      have hkl : k < len := by omega
      have hi1 : IntKind.i64.wrap ((j : Int) - (d : Int)) = (k : Int) := by rw [hjd]; exact IntWalk.i64_in _ (by omega)
      have hw1 : IntKind.i64.wrap (y * x) = y * x := IntWalk.i64_in _ (by omega)
      have hw2 : IntKind.i64.wrap (s + y * x) = s + y * x := IntWalk.i64_in _ (by omega)
      clear hc hyk hxk hyr hxr hpr hsr hj hi hid hk
      obtain ⟨p, hp⟩ : ∃ p, y * x = p := ⟨_, rfl⟩
      rw [hp] at hp0 hp1 hw1 hw2 HS
      have hw1 : wrap64 (y * x) = p := by rw [hp]; unfold wrap64; omega
      have hw2 : wrap64 (s + p) = s + p := by unfold wrap64; omega
      have HWW := Lib.hid (And.intro hw1 hw2)
      clear hp
      go_wp2
      go_quiet (fail)
      clear hi1 hjd
      go_wp2
      go_roundw
      case rel => exact ⟨k + 1, n + nq, s + p, (j : Int) + 1, by first | rfl | (rw [HWW.out.1, HWW.out.2]), rfl, by have := HJ.out; omega, Or.inr (by have := HJ.out; omega), rfl, HS⟩
      case measure => simp [intOf]; omega
    · have hend : k = xs.length - d := by omega
      have HF : Hid (ac xs d = s) := by show _ = _; unfold ac; rw [← hend]; exact hs.out
      have hil : ¬ i < (len : Int) := by omega
      have hil2 : decide (i < (len : Int)) = false := by simpa using hil
      clear hend hi
      go_wp2
      go_ret
      exact ⟨ret_int HF.out.symm, grown_drewN _ _ _⟩

end Go.Proofs.Ytgciofmpnpimcaa
