/-
  LinearResidual of the program, for all arguments; both texts give the same.
-/
import Derived.Test.YtgiiaijlahjfnaaLinJ
namespace Go.Proofs.Ytgiiaijlahjfnaa
open Go.RowKit

set_option maxRecDepth 100000 in
set_option maxHeartbeats 2000000 in
theorem iResOf_any (cs xs : List Int) (n len m : Nat) (sh : Int) (ys : List Int) (ok : Bool) (yo ao : Option Addr) (ycap cap : Nat) (w : World) (hx : Ints w ao len xs) (hlc : len ≤ cap) (hy : Ints w yo n cs) (hl1 : len ≤ 4611686018427387904) (hl2 : n ≤ 4611686018427387904) (h : LR xs cs sh ys m ok) :
    Calls Try.prog 36 #[.slice ao len cap, .iface 25 (.agg #[.slice yo n ycap, .int .i64 sh])] w (MadeRB ys m ok w) := by
  have hxl := hx.1
  have hyl := hy.1
  cases h1 : vS xs with
  | false =>
    obtain ⟨rfl, rfl, rfl⟩ := LR_no h (lrOk_no1 h1)
    have k1 := iValidSamples_any xs ao len cap w false hx hl1 h1
    clear hx hy h h1 hxl hyl
    go_enter Try.func36, Try.ntmps36
    go_wp2_with fail
    refine k1.mono ?_
    rintro e w' ⟨rfl, rfl⟩
    go_wp2
    go_ret2
    exact madeRB_none (grown_refl _ _)
  | true =>
  have k1 := iValidSamples_any xs ao len cap w true hx hl1 h1
  cases h2 : vLin cs sh with
  | false =>
    obtain ⟨rfl, rfl, rfl⟩ := LR_no h (lrOk_no2 h2)
    have k2 := iValid_any cs sh yo n ycap w false hy hl2 h2
    have e1 := fun w => m_valid (.slice yo n ycap) sh w
    clear hx hy h h1 h2 hxl hyl
    go_enter Try.func36, Try.ntmps36
    go_wp2_with fail
    refine k1.mono ?_
    rintro e w' ⟨rfl, rfl⟩
    go_wp2_with fail
    refine k2.mono ?_
    rintro e w2 ⟨rfl, hg⟩
    have HG := Lib.hid hg
    clear k1 k2 hg
    go_wp2
    go_ret2
    exact madeRB_none HG.out
  | true =>
  by_cases h3 : ¬ n ≤ len
  · obtain ⟨rfl, rfl, rfl⟩ := LR_no h (lrOk_no3 (by rw [hxl, hyl]; exact h3))
    have k2 := iValid_any cs sh yo n ycap w true hy hl2 h2
    have e1 := fun w => m_valid (.slice yo n ycap) sh w
    have e2 := fun w => m_order (.slice yo n ycap) sh w
    have d3 : decide (len < n) = true := by simp; omega
    have d3n : len < n := by omega
    clear hx hy h h1 h2 hxl hyl h3
    go_enter Try.func36, Try.ntmps36
    go_wp2_with fail
    refine k1.mono ?_
    rintro e w' ⟨rfl, rfl⟩
    go_wp2_with fail
    refine k2.mono ?_
    rintro e w2 ⟨rfl, hg⟩
    have HG := Lib.hid hg
    clear k1 k2 hg
    go_wp2_with fail
    refine (iOrder_any yo n ycap _ w2).mono ?_
    rintro e w3 ⟨rfl, hg3⟩
    have HG3 := Lib.hid (grown_trans HG.out hg3)
    clear hg3
    go_wp2
    go_ret2
    exact madeRB_none HG3.out
  have h3 := Classical.not_not.1 h3
  obtain ⟨_, _, _, hs0, _⟩ := vLin_in h2
  obtain ⟨s, rfl⟩ := Int.eq_ofNat_of_zero_le hs0
  have hok := lrOk_in h1 h2 (by omega) rfl
  cases h4 : vR (resL cs s xs) with
  | false =>
    rw [h4] at hok
    obtain ⟨rfl, rfl, rfl⟩ := LR_no h hok
    exact iResOf_good cs xs n (len - n) s len false yo ao ycap cap w hx hlc hy h1 h2 h3 rfl h4 [] 0 ⟨rfl, rfl⟩
  | true =>
    rw [h4] at hok
    obtain ⟨rfl, rfl, rfl⟩ := LR_yes h hok rfl
    exact iResOf_good cs xs n (len - n) s len true yo ao ycap cap w hx hlc hy h1 h2 h3 rfl h4 _ _ ⟨rfl, by rw [hxl, hyl]; rfl⟩

set_option maxHeartbeats 400000 in
theorem iLR_any (cs xs : List Int) (n len m : Nat) (sh : Int) (ys : List Int) (ok : Bool) (yo ao : Option Addr) (ycap cap : Nat) (w : World) (hx : Ints w ao len xs) (hlc : len ≤ cap) (hy : Ints w yo n cs) (hl1 : len ≤ 4611686018427387904) (hl2 : n ≤ 4611686018427387904) (h : LR xs cs sh ys m ok) :
    Calls Try.prog 13 #[.slice ao len cap, .agg #[.slice yo n ycap, .int .i64 sh]] w (MadeRB ys m ok w) := by
  have k1 := iResOf_any cs xs n len m sh ys ok yo ao ycap cap (w.alloc (.cells #[.slice yo n ycap, .int .i64 sh] 25)) (hx.grown (grown_alloc _ _ _)) hlc (hy.grown (grown_alloc _ _ _)) hl1 hl2 h
  clear hx hy h
  go_enter Try.func13, Try.ntmps13
  go_wp2_with fail
  refine k1.mono ?_
  rintro e w1 ⟨v1, rfl, ho, hg⟩
  have HO := Lib.hid (ho.base_le (base' := w.heap.size) (by simp))
  have HG := Lib.hid (grown_trans (grown_alloc w (.cells #[.slice yo n ycap, .int .i64 sh] 25) none) hg)
  obtain ⟨a1, c1, rfl, _⟩ := ho.reads
  clear k1 ho hg
  go_wp2
  go_ret2
  exact ⟨.slice a1 m c1, rfl, HO.out, HG.out⟩

/-- What LinearResidual gives, of all arguments. -/
theorem LR_there (xs cs : List Int) (sh : Int) : ∃ (ys : List Int) (m : Nat) (ok : Bool), LR xs cs sh ys m ok ∧ m ≤ 64 := by
  refine ⟨lrR xs cs sh, _, lrOk xs cs sh, ⟨rfl, rfl, rfl⟩, ?_⟩
  cases h : lrOk xs cs sh with
  | false => simp
  | true =>
    unfold lrOk at h
    simp only [Bool.and_eq_true] at h
    have := vS_len h.1.1.1
    simp; omega

end Go.Proofs.Ytgiiaijlahjfnaa
