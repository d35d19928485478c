/-
  The draw of first samples, a residual and a predictor. For every code.
-/
import Derived.Test.YtgiiaijlahjfnaaDrawLR
import Derived.Test.YtgiiaijlahjfnaaDrawR
import Derived.Test.YtgiiaijlahjfnaaLinR4
import Derived.RegionTactic
import Derived.Deep.RegionHeld3
namespace Go.Proofs.Ytgiiaijlahjfnaa
open Go.RowKit

def DrewWR (w : World) (e : Ending) (w' : World) : Prop :=
  ∃ (a1 : Option Addr) (n1 c1 : Nat) (ws : List Int) (a2 : Option Addr) (n2 c2 : Nat) (rs : List Int) (a3 : Option Addr) (n c3 : Nat) (cs : List Int) (sh : Int), e = .returned (.tuple #[.slice a1 n1 c1, .slice a2 n2 c2, .agg #[.slice a3 n c3, .int .i64 sh]]) ∧
    n1 ≤ 66 ∧ n2 ≤ 66 ∧ n ≤ 9 ∧ Ints w' a1 n1 ws ∧ (a1 = none → c1 = 0) ∧ n1 ≤ c1 ∧ Ints w' a2 n2 rs ∧ n2 ≤ c2 ∧ Ints w' a3 n cs ∧ w.grownBy w' none

theorem BytesAt.grown {w w' : World} {ao : Option Addr} {len : Nat} (hb : BytesAt w ao len) (hg : w.grownBy w' none) : BytesAt w' ao len := by
  rcases hb with h | ⟨b, off, h1, h2⟩
  · exact Or.inl h
  · exact Or.inr ⟨b, off, h1, fun i hi => by
      obtain ⟨u, hu, hc⟩ := h2 i hi
      exact ⟨u, hu, hg.cell hc (by simp)⟩⟩
theorem Ints.far {w : World} {ao : Option Addr} {len : Nat} {xs : List Int} {a : Addr} {v : Value} (h : Ints w ao len xs) (hne : ∀ b, ao = some b → b.block ≠ a.block) : Ints (w.setCell a v) ao len xs :=
  h.kept (grown_setCell w a v) (fun b e e2 => by injection e2 with e2; exact hne b e e2.symm)

set_option maxRecDepth 100000 in
set_option maxHeartbeats 4000000 in
theorem drawRS_any (ao : Option Addr) (len cap : Nat) (w : World) (hb : BytesAt w ao len) (hlc : len ≤ cap) (hmax : len ≤ 9223372036854775807) :
    Calls Try.prog 17 #[.slice ao len cap] w (DrewWR w) := by
  have kr := newReader_any ao len cap (w.alloc (.cells #[.slice none 0 0, .int .i64 0] 25)) (hb.grown (grown_alloc _ _ _)) hlc hmax
  have HA := Lib.hid (heap_alloc_new w (.cells #[.slice none 0 0, .int .i64 0] 25))
  have HG := Lib.hid (grown_alloc w (.cells #[.slice none 0 0, .int .i64 0] 25) none)
  have HB := Lib.hid hb
  clear hb
  go_enter Try.func17, Try.ntmps17
  go_wp2_with fail
  refine kr.mono ?_
  rintro e w1 ⟨rfl, hR1, hg1⟩
  obtain ⟨r, hr⟩ : ∃ r, (w.alloc (.cells #[.slice none 0 0, .int .i64 0] 25)).heap.size = r := ⟨_, rfl⟩
  rw [hr] at hR1 ⊢
  have hrw : w.heap.size < r := by rw [← hr]; simp
  have H1 := Lib.hid (grown_heap hg1 HA.out (by simp))
  have HG1 := Lib.hid (grown_trans HG.out hg1)
  have HR1 := Lib.hid hR1
  clear kr hg1 hR1 HA HG hr
  go_wp2_with fail
  refine (drawLR_any ao len cap w1 (HB.out.grown HG1.out) hlc hmax).mono ?_
  rintro e w2 ⟨v2, n2, xs, u2, n, cs, sh, rfl, hn2, hn9, ho2, hu2, ha2, hc2, hs0, hs1, hg2⟩
  obtain ⟨a2, c2, rfl, hlc2, hnn2, hx2, hb2⟩ := ho2.reads
  obtain ⟨a3, c3, rfl, hlc3, hnn3, hx3, hb3⟩ := hu2.reads
  have hs1w := HG1.out.size
  have hw1 : w.heap.size < w1.heap.size := block_lt H1.out
  have hrl1 : r < w1.heap.size := HR1.out.lt
  have H2 := Lib.hid (grown_heap (grown_trans hg2 (grown_alloc w2 (.cells #[.slice a3 n c3, .int .i64 sh] 25) none)) H1.out (by simp))
  have HP := Lib.hid (heap_alloc_new w2 (.cells #[.slice a3 n c3, .int .i64 sh] 25))
  have HX := Lib.hid (hx2.grown (grown_alloc w2 (.cells #[.slice a3 n c3, .int .i64 sh] 25) none))
  have HC := Lib.hid (hx3.grown (grown_alloc w2 (.cells #[.slice a3 n c3, .int .i64 sh] 25) none))
  have HG2 := Lib.hid (grown_trans HG1.out (grown_trans hg2 (grown_alloc w2 (.cells #[.slice a3 n c3, .int .i64 sh] 25) none)))
  have HR2 := Lib.hid ((HR1.out.kept hg2 (by simp)).kept (grown_alloc w2 (.cells #[.slice a3 n c3, .int .i64 sh] 25) none) (by simp))
  have HB2 := Lib.hid (And.intro hb2 hb3)
  have HN2 := Lib.hid (And.intro hnn2 hnn3)
  have hpw : w1.heap.size ≤ w2.heap.size := hg2.size
  obtain ⟨ys, m, ok, hLR, hm64⟩ := LR_there xs cs sh
  have HLR := Lib.hid hLR
  have qc0 := (two_cells HP.out).1
  have qc1 := (two_cells HP.out).2
  clear ho2 hu2 hx2 hx3 hb2 hb3 hnn2 hnn3 hg2 ha2 hc2 H1 HG1 HR1 hLR HB
  go_wp2_with fail
  refine (sLR_any cs xs n n2 m sh ys ok a3 a2 c3 c2 _ HX.out HC.out (by omega) (by omega) HLR.out).mono ?_
  rintro e w3 ⟨v4, rfl, ho4, hg3⟩
  obtain ⟨a4, c4, rfl, hlc4, hnn4, hx4, hb4⟩ := ho4.reads
  have hb4' : ∀ a, a4 = some a → w2.heap.size ≤ a.block := fun a e => by have := (hb4 a e).1; simp at this; omega
  have HB4 := Lib.hid hb4'
  replace H2 := Lib.hid (grown_heap hg3 H2.out (by simp))
  replace HP := Lib.hid (grown_heap hg3 HP.out (by simp))
  replace HX := Lib.hid (HX.out.grown hg3)
  replace HC := Lib.hid (HC.out.grown hg3)
  have HY := Lib.hid hx4
  replace HG2 := Lib.hid (grown_trans HG2.out hg3)
  replace HR2 := Lib.hid (HR2.out.kept hg3 (by simp))
  clear ho4 hx4 hb4 hb4' hg3 qc0 qc1 hnn4
  cases ok with
  | true =>
    go_wp2_with fail
    refine (pick_any 4 r 0 _ HR2.out (by omega) (by omega)).mono ?_
    rintro e w4 ⟨q, rfl, hq0, hq1, _, hR4, hg4⟩
    replace H2 := Lib.hid (grown_heap hg4 H2.out (fun e => by injection e with e; omega))
    replace HP := Lib.hid (grown_heap hg4 HP.out (fun e => by injection e with e; omega))
    replace HX := Lib.hid (HX.out.kept hg4 (fun a e e2 => by injection e2 with e2; have := (HB2.out.1 a e).1; omega))
    replace HC := Lib.hid (HC.out.kept hg4 (fun a e e2 => by injection e2 with e2; have := (HB2.out.2 a e).1; omega))
    replace HY := Lib.hid (HY.out.kept hg4 (fun a e e2 => by injection e2 with e2; have := HB4.out a e; omega))
    replace HG2 := Lib.hid (grown_new HG2.out hg4 (by omega))
    replace HR2 := Lib.hid hR4
    obtain ⟨q, rfl⟩ := Int.eq_ofNat_of_zero_le hq0
    clear hq1 hR4 hg4 hq0
    by_cases hq : 0 < q
    · have hqd : decide (0 < (q : Int)) = true := by simp; omega
      have hok := HLR.out.1
      unfold lrOk at hok
      simp only [Bool.and_eq_true, decide_eq_true_eq] at hok
      have hnl : n ≤ n2 := by have := HX.out.1; have := HC.out.1; omega
      clear hok
      have hnc2 : (n : Int) ≤ (c2 : Int) := by omega
      have hn0 : (0 : Int) ≤ (n : Int) := by omega
      have HW := Lib.hid (show Ints w4 a2 n (xs.take n) from by
        have e1 := HX.out.1
        refine ⟨by simp; omega, ?_⟩
        rcases HX.out.2 with e | ⟨b, off, hab, hc⟩
        · left; rw [e]; simp
        · right
          refine ⟨b, off, hab, fun k x hx => ?_⟩
          rw [List.getElem?_take] at hx
          split at hx
          · exact hc k x hx
          · cases hx)
      have q0 := (two_cells HP.out).1
      have q1 := (two_cells HP.out).2
      have r0 := (two_cells H2.out).1
      have r1 := (two_cells H2.out).2
      have f0 := frozen_of_row w4 _ 0 _ _ H2.out
      have f1 := frozen_of_row w4 _ 1 _ _ H2.out
      go_wp2_with fail
      cases a2 with
      | none =>
        exfalso
        have hok := HLR.out.1
        unfold lrOk at hok
        simp only [Bool.and_eq_true, decide_eq_true_eq] at hok
        have h1 := (vLin_in hok.1.1.2).1
        have h2 := hok.1.2
        rcases HX.out.2 with e | ⟨b, off, e, _⟩
        · rw [e] at h2
          simp at h2
          rw [h2] at h1
          simp at h1
        · cases e
      | some ad =>
      go_region_with ((go_at_call 43; refine (copyInts_any (xs.take n) (some ad) n _ _ (HW.out.grown (grown_drew _ _)) (fun e => nomatch e) (by omega)).mono ?_; rintro e w5 ⟨v5, rfl, ho5, hg5⟩; obtain ⟨a5, c5, rfl, hlc5, hnn5, hx5, hb5⟩ := ho5.reads; have HO5 := Lib.hid hx5; have HB5 := Lib.hid hb5; have HG5 := Lib.hid (grown_trans (grown_drew w4 none) hg5); have s0 := hg5.cell q0 (by simp); have s1 := hg5.cell q1 (by simp); have t0 := hg5.cell r0 (by simp); have t1 := hg5.cell r1 (by simp); have g0 := frozen_of_row w5 _ 0 _ _ (grown_heap HG5.out H2.out (by simp)); have g1 := frozen_of_row w5 _ 1 _ _ (grown_heap HG5.out H2.out (by simp)); clear ho5 hg5 hx5 hb5))
      all_goals
        have HF : Hid (DrewWR w (.returned (.tuple #[.slice a5 n c5, .slice a4 m c4, .agg #[.slice a3 n c3, .int .i64 sh]])) ((w5.setCell ⟨w.heap.size, 0, none⟩ (.slice a3 n c3)).setCell ⟨w.heap.size, 1, none⟩ (.int .i64 sh))) := by
          have hw4 := block_lt H2.out
          refine ⟨a5, n, c5, xs.take n, a4, m, c4, ys, a3, n, c3, cs, sh, rfl, by omega, by omega, hn9, (HO5.out.far (fun b e => ?_)).far (fun b e => ?_), hnn5, hlc5, ((HY.out.grown HG5.out).far (fun b e => ?_)).far (fun b e => ?_), hlc4, ((HC.out.grown HG5.out).far (fun b e => ?_)).far (fun b e => ?_), grown_set (grown_set (grown_trans HG2.out HG5.out) (by simp)) (by simp)⟩
          all_goals show b.block ≠ w.heap.size
          · have := (HB5.out b e).1; simp at this; omega
          · have := (HB5.out b e).1; simp at this; omega
          · have := HB4.out b e; omega
          · have := HB4.out b e; omega
          · have := (HB2.out.2 b e).1; omega
          · have := (HB2.out.2 b e).1; omega
        go_wp2
        exact bodyPost_ret (v := .tuple #[.slice a5 n c5, .slice a4 m c4, .agg #[.slice a3 n c3, .int .i64 sh]]) (by simp [results, Try.results17, go_sem, t0, t1]) rfl HF.out
    · have hqd : decide (0 < (q : Int)) = false := by simp; omega
      have hqn : ¬ 0 < q := hq
      have q0 := (two_cells HP.out).1
      have q1 := (two_cells HP.out).2
      have r0 := (two_cells H2.out).1
      have r1 := (two_cells H2.out).2
      have f0 := frozen_of_row w4 _ 0 _ _ H2.out
      have f1 := frozen_of_row w4 _ 1 _ _ H2.out
      clear hq
      go_wp2_with fail
      go_region_with ((first
        | (go_at_call 45; (refine (rs_wide n 8 r (0 + 1) _ (HR2.out.kept (grown_drew _ none) (by simp)) (by omega) (by omega) (by decide)).mono ?_; rintro e w6 ⟨v6, zs, rfl, ho6, hz6, hR6, hg6⟩; have s60 := hg6.cell q0 (by simp; omega); have s61 := hg6.cell q1 (by simp; omega); have t60 := hg6.cell r0 (by simp; omega); have t61 := hg6.cell r1 (by simp; omega); have g60 := (hg6.block w.heap.size (by have := block_lt H2.out; simpa using this) (by simp; omega)); have HG6 := Lib.hid (grown_trans (grown_drew w4 (some r)) hg6); obtain ⟨a6, c6, rfl, hlc6, hnn6, hx6, _⟩ := ho6.reads; have HX6 := Lib.hid hx6; have HR6 := Lib.hid hR6; have HZ6 := Lib.hid hz6; clear ho6 hg6 hx6 hR6 hz6 g60))
        | (go_at_call 44; refine (spoil_any zs 65537 a6 n c6 r _ _ HX6.out hnn6 (by omega) HR6.out (by omega)).mono ?_; rintro e w7 ⟨a7, n7, c7, us, rfl, hn7, hlc7, hnn7, hx7, hb7, hR7, hg7⟩; have s70 := hg7.cell s60 (by simp; omega); have s71 := hg7.cell s61 (by simp; omega); have t70 := hg7.cell t60 (by simp; omega); have t71 := hg7.cell t61 (by simp; omega); have HG7 := Lib.hid (grown_trans HG6.out hg7); have hsz7 := HG6.out.size; have HB7 := Lib.hid hb7; have HX7 := Lib.hid hx7; have HR7 := Lib.hid hR7; clear hx7 hb7 hR7 hg7)
        | (go_at_call 46; refine (anyResidual_any r _ _ HR7.out (by omega)).mono ?_; rintro e w8 ⟨v8, n8, rs, rfl, hn8, ho8, _, hR8, hg8⟩; obtain ⟨a8, c8, rfl, hlc8, hnn8, hx8, hb8⟩ := ho8.reads; have s80 := hg8.cell s70 (by simp; omega); have s81 := hg8.cell s71 (by simp; omega); have t80 := hg8.cell t70 (by simp; omega); have t81 := hg8.cell t71 (by simp; omega); have HG8 := Lib.hid (grown_trans HG7.out hg8); have HX8 := Lib.hid hx8; have HB8 := Lib.hid hb8; have HK7 := Lib.hid (HX7.out.kept hg8 (fun a e e2 => by injection e2 with e2; have := (HB7.out a e).1; have := block_lt HP.out; omega)); have hsz8 := HG7.out.size; have g80 := frozen_of_row w8 _ 0 _ _ (grown_heap HG8.out H2.out (fun e => by injection e with e; omega)); have g81 := frozen_of_row w8 _ 1 _ _ (grown_heap HG8.out H2.out (fun e => by injection e with e; omega)); clear hg8 ho8 hx8 hb8)))
      all_goals
        have HF : Hid (DrewWR w (.returned (.tuple #[.slice a7 n7 c7, .slice a8 n8 c8, .agg #[.slice a3 n c3, .int .i64 sh]])) ((w8.setCell ⟨w.heap.size, 0, none⟩ (.slice a3 n c3)).setCell ⟨w.heap.size, 1, none⟩ (.int .i64 sh))) := by
          have hw4 := block_lt H2.out
          have hp4 := block_lt HP.out
          refine ⟨a7, n7, c7, us, a8, n8, c8, rs, a3, n, c3, cs, sh, rfl, by omega, by omega, hn9, (HK7.out.far (fun b e => ?_)).far (fun b e => ?_), hnn7, hlc7, (HX8.out.far (fun b e => ?_)).far (fun b e => ?_), hlc8, ((HC.out.kept HG8.out (fun a e e2 => by injection e2 with e2; have := (HB2.out.2 a e).1; omega)).far (fun b e => ?_)).far (fun b e => ?_), grown_set (grown_set (grown_new HG2.out HG8.out (by omega)) (by simp)) (by simp)⟩
          all_goals show b.block ≠ w.heap.size
          · have := (HB7.out b e).1; omega
          · have := (HB7.out b e).1; omega
          · have := (HB8.out b e).1; omega
          · have := (HB8.out b e).1; omega
          · have := (HB2.out.2 b e).1; omega
          · have := (HB2.out.2 b e).1; omega
        go_wp2
        exact bodyPost_ret (v := .tuple #[.slice a7 n7 c7, .slice a8 n8 c8, .agg #[.slice a3 n c3, .int .i64 sh]]) (by simp [results, Try.results17, go_sem, t80, t81]) rfl HF.out
  | false =>
    have q0 := (two_cells HP.out).1
    have q1 := (two_cells HP.out).2
    have r0 := (two_cells H2.out).1
    have r1 := (two_cells H2.out).2
    have f0 := frozen_of_row w3 _ 0 _ _ H2.out
    have f1 := frozen_of_row w3 _ 1 _ _ H2.out
    go_wp2_with fail
    go_region_with ((first
      | (go_at_call 45; (refine (rs_wide n 8 r 0 _ (HR2.out.kept (grown_drew _ none) (by simp)) (by omega) (by omega) (by decide)).mono ?_; rintro e w6 ⟨v6, zs, rfl, ho6, hz6, hR6, hg6⟩; have s60 := hg6.cell q0 (by simp; omega); have s61 := hg6.cell q1 (by simp; omega); have t60 := hg6.cell r0 (by simp; omega); have t61 := hg6.cell r1 (by simp; omega); have g60 := (hg6.block w.heap.size (by have := block_lt H2.out; simpa using this) (by simp; omega)); have HG6 := Lib.hid (grown_trans (grown_drew w3 (some r)) hg6); obtain ⟨a6, c6, rfl, hlc6, hnn6, hx6, _⟩ := ho6.reads; have HX6 := Lib.hid hx6; have HR6 := Lib.hid hR6; have HZ6 := Lib.hid hz6; clear ho6 hg6 hx6 hR6 hz6 g60))
      | (go_at_call 44; refine (spoil_any zs 65537 a6 n c6 r _ _ HX6.out hnn6 (by omega) HR6.out (by omega)).mono ?_; rintro e w7 ⟨a7, n7, c7, us, rfl, hn7, hlc7, hnn7, hx7, hb7, hR7, hg7⟩; have s70 := hg7.cell s60 (by simp; omega); have s71 := hg7.cell s61 (by simp; omega); have t70 := hg7.cell t60 (by simp; omega); have t71 := hg7.cell t61 (by simp; omega); have HG7 := Lib.hid (grown_trans HG6.out hg7); have hsz7 := HG6.out.size; have HB7 := Lib.hid hb7; have HX7 := Lib.hid hx7; have HR7 := Lib.hid hR7; clear hx7 hb7 hR7 hg7)
      | (go_at_call 46; refine (anyResidual_any r _ _ HR7.out (by omega)).mono ?_; rintro e w8 ⟨v8, n8, rs, rfl, hn8, ho8, _, hR8, hg8⟩; obtain ⟨a8, c8, rfl, hlc8, hnn8, hx8, hb8⟩ := ho8.reads; have s80 := hg8.cell s70 (by simp; omega); have s81 := hg8.cell s71 (by simp; omega); have t80 := hg8.cell t70 (by simp; omega); have t81 := hg8.cell t71 (by simp; omega); have HG8 := Lib.hid (grown_trans HG7.out hg8); have HX8 := Lib.hid hx8; have HB8 := Lib.hid hb8; have HK7 := Lib.hid (HX7.out.kept hg8 (fun a e e2 => by injection e2 with e2; have := (HB7.out a e).1; have := block_lt HP.out; omega)); have hsz8 := HG7.out.size; have g80 := frozen_of_row w8 _ 0 _ _ (grown_heap HG8.out H2.out (fun e => by injection e with e; omega)); have g81 := frozen_of_row w8 _ 1 _ _ (grown_heap HG8.out H2.out (fun e => by injection e with e; omega)); clear hg8 ho8 hx8 hb8)))
    all_goals
      have HF : Hid (DrewWR w (.returned (.tuple #[.slice a7 n7 c7, .slice a8 n8 c8, .agg #[.slice a3 n c3, .int .i64 sh]])) ((w8.setCell ⟨w.heap.size, 0, none⟩ (.slice a3 n c3)).setCell ⟨w.heap.size, 1, none⟩ (.int .i64 sh))) := by
        have hw4 := block_lt H2.out
        have hp4 := block_lt HP.out
        refine ⟨a7, n7, c7, us, a8, n8, c8, rs, a3, n, c3, cs, sh, rfl, by omega, by omega, hn9, (HK7.out.far (fun b e => ?_)).far (fun b e => ?_), hnn7, hlc7, (HX8.out.far (fun b e => ?_)).far (fun b e => ?_), hlc8, ((HC.out.kept HG8.out (fun a e e2 => by injection e2 with e2; have := (HB2.out.2 a e).1; omega)).far (fun b e => ?_)).far (fun b e => ?_), grown_set (grown_set (grown_new HG2.out HG8.out (by omega)) (by simp)) (by simp)⟩
        all_goals show b.block ≠ w.heap.size
        · have := (HB7.out b e).1; omega
        · have := (HB7.out b e).1; omega
        · have := (HB8.out b e).1; omega
        · have := (HB8.out b e).1; omega
        · have := (HB2.out.2 b e).1; omega
        · have := (HB2.out.2 b e).1; omega
      go_wp2
      exact bodyPost_ret (v := .tuple #[.slice a7 n7 c7, .slice a8 n8 c8, .agg #[.slice a3 n c3, .int .i64 sh]]) (by simp [results, Try.results17, go_sem, t80, t81]) rfl HF.out

end Go.Proofs.Ytgiiaijlahjfnaa
