/-
  The walk of the law on AlignBits. For every code.
-/
import Derived.Test.YtdhfjaoaekdfbaaAnyBits
import Derived.Test.YtdhfjaoaekdfbaaExAlign
import Derived.Test.YtdhfjaoaekdfbaaZigLaws
namespace Go.Proofs.Ytdhfjaoaekdfbaa
open Go.RowKit

theorem BytesAt.alloc {w : World} {ao : Option Addr} {len : Nat} (h : BytesAt w ao len) (o : Obj) : BytesAt (w.alloc o) ao len := by
  rcases h with h | ⟨b, off, rfl, hc⟩
  · exact Or.inl h
  · refine Or.inr ⟨b, off, rfl, fun i hi => ?_⟩
    obtain ⟨u, hu, hcu⟩ := hc i hi
    exact ⟨u, hu, (World.cell?_of_block (heap_alloc_old _ _ (block_lt_of_cell hcu))).trans hcu⟩

/-- Bits that are drawn out of a code: new memory, and nothing old is written. -/
def DrewS (w : World) (e : Ending) (w' : World) : Prop :=
  ∃ (v : Value) (len : Nat) (c : Int) (xs : List Int), e = .returned (.agg #[v, .int .i64 c]) ∧ -1 ≤ c ∧ c ≤ 16385 ∧ len ≤ 30 ∧ Owns w' w.heap.size v len xs ∧ w.grownBy w' none

set_option maxHeartbeats 1000000 in
theorem DrawAlignBits_any (ao : Option Addr) (len cap : Nat) (w : World) (hb : BytesAt w ao len) (hlc : len ≤ cap) (hmax : len ≤ 9223372036854775807) :
    Calls Try.prog 19 #[.slice ao len cap] w (DrewS w) := by
  have hc := newReader_any ao len cap (w.alloc (.cells #[.slice none 0 0, .int .i64 0] 25)) (BytesAt.alloc hb _) hlc hmax
  rw [show (w.alloc (.cells #[.slice none 0 0, .int .i64 0] 25)).heap.size = w.heap.size + 1 by simp] at hc
  clear hb hlc hmax
  go_enter Try.func19, Try.ntmps19
  go_wp2_with fail
  refine hc.mono ?_
  rintro e w1 ⟨rfl, hR, hg⟩
  clear hc
  go_wp2_with fail
  refine (anyBits_any _ 0 _ hR (by omega)).mono ?_
  rintro e w2 ⟨v2, len2, c2, xs2, rfl, k1, k2, k3, k4, k5, k6⟩
  obtain ⟨a2, cap2, rfl, _, _, _, _⟩ := k4.reads
  have hR2 : w2.heap[w.heap.size]? = some (.cells #[.slice none 0 0, .int .i64 0] 25 (0, 0)) :=
    grown_heap k6 (grown_heap hg (heap_alloc_new w _) (by simp)) (by intro e; injection e with e; simp at e)
  have r0 : w2.cell? ⟨w.heap.size, 0, none⟩ = some (.slice none 0 0) := by rw [cell_of_row w2 _ 0 _ _ _ hR2]; rfl
  have r1 : w2.cell? ⟨w.heap.size, 1, none⟩ = some (.int .i64 0) := by rw [cell_of_row w2 _ 1 _ _ _ hR2]; rfl
  have f0 : w2.frozen? ⟨w.heap.size, 0, none⟩ = false := frozen_of_row w2 _ 0 _ _ hR2
  have f1 : w2.frozen? ⟨w.heap.size, 1, none⟩ = false := frozen_of_row w2 _ 1 _ _ hR2
  have hz := hg.size
  have HF : Hid (DrewS w (.returned (.agg #[.slice a2 len2 cap2, .int .i64 c2])) ((w2.setCell ⟨w.heap.size, 0, none⟩ (.slice a2 len2 cap2)).setCell ⟨w.heap.size, 1, none⟩ (.int .i64 c2))) := by
    have hne : (Value.slice a2 len2 cap2).ownBlock ≠ some w.heap.size := fun e => by have := k4.block _ e; simp at hz; omega
    exact ⟨_, len2, c2, xs2, rfl, k1, k2, k3, ((k4.set _ _ hne).set _ _ hne).base_le (by simp at hz; omega),
      grown_set (grown_set (grown_new (grown_trans (grown_alloc _ _ _) hg) k6 (by simp)) (by simp)) (by simp)⟩
  clear hR hg k1 k2 k3 k4 k5 k6 hR2
  go_wp2
  exact bodyPost_ret (v := .agg #[.slice a2 len2 cap2, .int .i64 c2]) (by simp [results, Try.results19, go_sem, r0, r1]) rfl HF.out

set_option maxHeartbeats 400000 in
theorem equalBits_same (xs : List Int) (ao bo : Option Addr) (len cap cap' : Nat) (c : Int) (w : World) (hx : Ints w ao len xs) (hy : Ints w bo len xs) (hlen : len ≤ 4194304) :
    Calls Try.prog 21 #[.agg #[.slice ao len cap, .int .i64 c], .agg #[.slice bo len cap', .int .i64 c]] w fun e w' => e = .returned (.bool true) ∧ w.grownBy w' none := by
  have k1 := equalInts_any xs xs ao bo len cap len cap' true ((w.alloc (.cells #[.slice ao len cap, .int .i64 c] 25)).alloc (.cells #[.slice bo len cap', .int .i64 c] 25))
    (hx.grown (grown_trans (grown_alloc _ _ _) (grown_alloc _ _ _))) (hy.grown (grown_trans (grown_alloc _ _ _) (grown_alloc _ _ _))) (by omega) (by simp)
  clear hx hy
  go_enter Try.func21, Try.ntmps21
  go_wp2_with fail
  refine k1.mono ?_
  rintro e w1 ⟨rfl, hg⟩
  have HG := Lib.hid (grown_trans (grown_trans (grown_alloc w (.cells #[.slice ao len cap, .int .i64 c] 25) none) (grown_alloc _ _ _)) hg)
  clear k1 hg
  go_wp2
  go_ret
  exact ⟨rfl, HG.out⟩

theorem VB_round {xs : List Int} {c : Int} {n : Nat} (h : VB xs c = true) (hn : xs.length = n) : VB xs (8 * (n : Int)) = true ∧ 8 * (n : Int) - c < 8 ∧ n ≤ 2048 := by
  have h' := h
  unfold VB at h
  rw [Bool.and_eq_true, Bool.and_eq_true, Bool.and_eq_true] at h
  obtain ⟨⟨⟨h1, h2⟩, h3⟩, _⟩ := h
  have hc : 0 ≤ c ∧ c ≤ 16384 := by simpa [inB] using h1
  have hl : (xs.length : Int) = (c + 7) / 8 := by simpa using h2
  rw [hn] at hl
  have hb : n ≤ 2048 := by omega
  refine ⟨?_, by omega, hb⟩
  rw [VB_in (inB_true (by omega) (by omega)) (by rw [hn]; omega) h3]
  exact tail_zero (by omega)

set_option maxRecDepth 100000 in
set_option maxHeartbeats 4000000 in
theorem FnAlignBits_walk (ao : Option Addr) (len cap : Nat) (w : World) (hb : BytesAt w ao len) (hlc : len ≤ cap) (hmax : len ≤ 9223372036854775807) :
    Calls Try.prog 3 #[.slice ao len cap] w (Holds w) := by
  have hc := DrawAlignBits_any ao len cap w hb hlc hmax
  clear hb hlc hmax
  by_cases hlen : 1048576 < len
  · clear hc
    go_enter Try.func3, Try.ntmps3
    go_wp2
    go_ret
    exact ⟨rfl, grown_refl _ _⟩
  have hlen' : len ≤ 1048576 := by omega
  clear hlen
  go_enter Try.func3, Try.ntmps3
  go_wp2_with fail
  refine hc.mono ?_
  rintro e w1 ⟨v1, l1, c, xs, rfl, hc0, hc1, hl1, ho1, hg1⟩
  obtain ⟨a1, c1, rfl, _, hn1, hx1, _⟩ := ho1.reads
  obtain ⟨ys, hys⟩ : ∃ ys, AlL xs c = ys := ⟨_, rfl⟩
  obtain ⟨n, hn⟩ : ∃ n, ys.length = n := ⟨_, rfl⟩
  have hn' : n ≤ 2048 := by rw [← hn, ← hys]; exact AlL_len xs c
  have HD : Hid (0 < n → ys = xs ∧ n = l1 ∧ 8 * (n : Int) - c < 8 ∧ AlL ys (8 * (n : Int)) = ys) := by
    intro hp
    cases hv : VB xs c with
    | false => exfalso; rw [← hn, ← hys] at hp; unfold AlL at hp; rw [hv] at hp; simp at hp
    | true =>
      have e : ys = xs := by rw [← hys]; unfold AlL; rw [hv]; rfl
      have hr := VB_round (n := n) hv (by rw [← e]; exact hn)
      refine ⟨e, by rw [← hn, e]; exact hx1.1, hr.2.1, ?_⟩
      unfold AlL; rw [e, hr.1]; rfl
  have HYS := Lib.hid hys
  have HN := Lib.hid hn
  have HX1 := Lib.hid hx1
  have HN1 := Lib.hid hn1
  have HG1 := Lib.hid hg1
  clear hc hys hn hx1 hn1 ho1 hg1
  go_wp2_with fail
  refine (iAlign_any xs ys n a1 l1 c1 c _ (HX1.out.grown (grown_alloc w1 (.cells #[.slice a1 l1 c1, .int .i64 c] 25) none)) HN1.out (by omega) HYS.out HN.out).mono ?_
  rintro e w2 ⟨v2, rfl, ho2, hg2⟩
  obtain ⟨a2, c2, rfl, _, hn2, hx2, _⟩ := ho2.reads
  have W0 : Hid ((w2.alloc (.cells #[.slice a2 n c2, .int .i64 (8 * (n : Int))] 25)).heap[w1.heap.size]? = some (.cells #[.slice a1 l1 c1, .int .i64 c] 25) ∧ (w2.alloc (.cells #[.slice a2 n c2, .int .i64 (8 * (n : Int))] 25)).heap[w2.heap.size]? = some (.cells #[.slice a2 n c2, .int .i64 (8 * (n : Int))] 25) ∧ w1.grownBy (w2.alloc (.cells #[.slice a2 n c2, .int .i64 (8 * (n : Int))] 25)) none ∧ Ints (w2.alloc (.cells #[.slice a2 n c2, .int .i64 (8 * (n : Int))] 25)) a2 n ys) :=
    ⟨grown_heap (grown_alloc _ _ none) (grown_heap hg2 (heap_alloc_new w1 _) (by simp)) (by simp), heap_alloc_new w2 _, grown_trans (grown_trans (grown_alloc w1 (.cells #[.slice a1 l1 c1, .int .i64 c] 25) none) hg2) (grown_alloc _ _ _), hx2.grown (grown_alloc _ _ _)⟩
  have HN2 := Lib.hid hn2
  clear ho2 hg2 hx2 hn2
  go_wp2_with fail
  generalize w2.alloc (.cells #[.slice a2 n c2, .int .i64 (8 * (n : Int))] 25) = W at *
  have HX2 := Lib.hid W0.out.2.2.2
  obtain ⟨q0, q1⟩ := two_cells W0.out.1
  obtain ⟨q2, q3⟩ := two_cells W0.out.2.1
  have HGW : Hid (w1.grownBy W none ∧ W.grownBy W none) := ⟨W0.out.2.2.1, grown_refl _ _⟩
  clear W0
  by_cases h0 : n = 0
  · have hd : (8 * (n : Int) == 0) = true := by simp [h0]
    have H0 := Lib.hid h0
    clear h0
    go_region_held3 (fun w' => w'.cell? ⟨w1.heap.size, 0, none⟩ = some (.slice a1 l1 c1) ∧ w'.cell? ⟨w1.heap.size, 1, none⟩ = some (.int .i64 c) ∧ w'.cell? ⟨w2.heap.size, 0, none⟩ = some (.slice a2 n c2) ∧ w'.cell? ⟨w2.heap.size, 1, none⟩ = some (.int .i64 (8 * (n : Int)))) (first | go_keep | exact ⟨by assumption, by assumption, by assumption, by assumption⟩) ((first
      | (go_at_call 22; refine (sAlign_any xs ys n a1 l1 c1 c _ ((HX1.out.grown HGW.out.1).grown (grown_drew _ _)) HN1.out (by omega) HYS.out HN.out).mono ?_; rintro e w3 ⟨vw3, rfl, how3, hgw3⟩; obtain ⟨aw3, cw3, rfl, _, _, hxw3, _⟩ := how3.reads; have HXw3 := Lib.hid hxw3; have p0 := hgw3.cell q0 (by simp); have p1 := hgw3.cell q1 (by simp); have p2 := hgw3.cell q2 (by simp); have p3 := hgw3.cell q3 (by simp); have HGw3 := Lib.hid (And.intro (grown_trans (grown_trans HGW.out.1 (grown_drew _ _)) hgw3) (grown_trans (grown_trans HGW.out.2 (grown_drew _ _)) hgw3)); clear how3 hgw3 hxw3)
      | (go_at_call 21; refine (equalBits_same ys a2 aw3 n c2 cw3 (8 * (n : Int)) _ (HX2.out.grown HGw3.out.2) HXw3.out (by omega)).mono ?_; rintro e w4 ⟨rfl, hgw4⟩; have p4 := hgw4.cell p0 (by simp); have p5 := hgw4.cell p1 (by simp); have p6 := hgw4.cell p2 (by simp); have p7 := hgw4.cell p3 (by simp); have HGw4 := Lib.hid (And.intro (grown_trans HGw3.out.1 hgw4) (grown_trans HGw3.out.2 hgw4)); clear hgw4)))
    clear q0 q1 q2 q3
    have q0 := p4
    have q1 := p5
    have q2 := p6
    have q3 := p7
    clear p0 p1 p2 p3 p4 p5 p6 p7
    go_wp2_with fail
    go_region_held3 (fun w' => w'.cell? ⟨w1.heap.size, 0, none⟩ = some (.slice a1 l1 c1) ∧ w'.cell? ⟨w1.heap.size, 1, none⟩ = some (.int .i64 c) ∧ w'.cell? ⟨w2.heap.size, 0, none⟩ = some (.slice a2 n c2) ∧ w'.cell? ⟨w2.heap.size, 1, none⟩ = some (.int .i64 (8 * (n : Int)))) (first | go_keep | exact ⟨by assumption, by assumption, by assumption, by assumption⟩) ((first
      | (go_at_call 22; refine (sAlign_any xs ys n a1 l1 c1 c _ ((HX1.out.grown HGw4.out.1).grown (grown_drew _ _)) HN1.out (by omega) HYS.out HN.out).mono ?_; rintro e w5 ⟨vw5, rfl, how5, hgw5⟩; obtain ⟨aw5, cw5, rfl, _, _, hxw5, _⟩ := how5.reads; have HXw5 := Lib.hid hxw5; have p0 := hgw5.cell q0 (by simp); have p1 := hgw5.cell q1 (by simp); have p2 := hgw5.cell q2 (by simp); have p3 := hgw5.cell q3 (by simp); have HGw5 := Lib.hid (And.intro (grown_trans (grown_trans HGw4.out.1 (grown_drew _ _)) hgw5) (grown_trans (grown_trans HGw4.out.2 (grown_drew _ _)) hgw5)); clear how5 hgw5 hxw5)
      | (go_at_call 21; refine (equalBits_same ys a2 aw5 n c2 cw5 (8 * (n : Int)) _ (HX2.out.grown HGw5.out.2) HXw5.out (by omega)).mono ?_; rintro e w6 ⟨rfl, hgw6⟩; have p4 := hgw6.cell p0 (by simp); have p5 := hgw6.cell p1 (by simp); have p6 := hgw6.cell p2 (by simp); have p7 := hgw6.cell p3 (by simp); have HGw6 := Lib.hid (And.intro (grown_trans HGw5.out.1 hgw6) (grown_trans HGw5.out.2 hgw6)); clear hgw6)))
    clear p0 p1 p2 p3 p4 p5 p6 p7 q0 q1 q2 q3
    go_wp2
    go_ret
    exact ⟨rfl, grown_trans HG1.out (by first | exact HGw6.out.1 | exact grown_trans HGw6.out.1 (grown_drew _ _))⟩
  · have hd : (8 * (n : Int) == 0) = false := by simp; omega
    have hd8 : (8 * (n : Int) % 8 == 0) = true := by simp
    obtain ⟨e1, e2, hlt0, hal⟩ := HD.out (by omega)
    have hlt : decide (8 * (n : Int) - c < 8) = true := by simpa using hlt0
    have i4 : IntKind.i64.wrap (8 * (n : Int) - c) = 8 * (n : Int) - c := by
      rw [IntWalk.i64_left]; exact IntWalk.wrap64_in _ (by omega)
    have HE1 := Lib.hid e1
    have HE2 := Lib.hid e2
    have HAL := Lib.hid hal
    clear h0 e1 e2 hal hlt0
    go_region_held3 (fun w' => w'.cell? ⟨w1.heap.size, 0, none⟩ = some (.slice a1 l1 c1) ∧ w'.cell? ⟨w1.heap.size, 1, none⟩ = some (.int .i64 c) ∧ w'.cell? ⟨w2.heap.size, 0, none⟩ = some (.slice a2 n c2) ∧ w'.cell? ⟨w2.heap.size, 1, none⟩ = some (.int .i64 (8 * (n : Int)))) (first | go_keep | exact ⟨by assumption, by assumption, by assumption, by assumption⟩) ((first
      | (go_at_call 22; refine (sAlign_any xs ys n a1 l1 c1 c _ ((HX1.out.grown HGW.out.1).grown (grown_drew _ _)) HN1.out (by omega) HYS.out HN.out).mono ?_; rintro e w3 ⟨vw3, rfl, how3, hgw3⟩; obtain ⟨aw3, cw3, rfl, _, _, hxw3, _⟩ := how3.reads; have HXw3 := Lib.hid hxw3; have p0 := hgw3.cell q0 (by simp); have p1 := hgw3.cell q1 (by simp); have p2 := hgw3.cell q2 (by simp); have p3 := hgw3.cell q3 (by simp); have HGw3 := Lib.hid (And.intro (grown_trans (grown_trans HGW.out.1 (grown_drew _ _)) hgw3) (grown_trans (grown_trans HGW.out.2 (grown_drew _ _)) hgw3)); clear how3 hgw3 hxw3)
      | (go_at_call 21; refine (equalBits_same ys a2 aw3 n c2 cw3 (8 * (n : Int)) _ (HX2.out.grown HGw3.out.2) HXw3.out (by omega)).mono ?_; rintro e w4 ⟨rfl, hgw4⟩; have p4 := hgw4.cell p0 (by simp); have p5 := hgw4.cell p1 (by simp); have p6 := hgw4.cell p2 (by simp); have p7 := hgw4.cell p3 (by simp); have HGw4 := Lib.hid (And.intro (grown_trans HGw3.out.1 hgw4) (grown_trans HGw3.out.2 hgw4)); clear hgw4)))
    clear q0 q1 q2 q3
    have q0 := p4
    have q1 := p5
    have q2 := p6
    have q3 := p7
    clear p0 p1 p2 p3 p4 p5 p6 p7
    go_wp2_with fail
    go_region_held3 (fun w' => w'.cell? ⟨w1.heap.size, 0, none⟩ = some (.slice a1 l1 c1) ∧ w'.cell? ⟨w1.heap.size, 1, none⟩ = some (.int .i64 c) ∧ w'.cell? ⟨w2.heap.size, 0, none⟩ = some (.slice a2 n c2) ∧ w'.cell? ⟨w2.heap.size, 1, none⟩ = some (.int .i64 (8 * (n : Int)))) (first | go_keep | exact ⟨by assumption, by assumption, by assumption, by assumption⟩) ((first
      | (go_at_call 23; refine (equalInts_any ys xs a2 a1 n c2 l1 c1 true _ ((HX2.out.grown HGw4.out.2).grown (grown_drew _ _)) ((HX1.out.grown HGw4.out.1).grown (grown_drew _ _)) (by omega) (by rw [HE1.out]; simp)).mono ?_; rintro e w5 ⟨rfl, hg5⟩; have r0 := hg5.cell q0 (by simp); have r1 := hg5.cell q1 (by simp); have r2 := hg5.cell q2 (by simp); have r3 := hg5.cell q3 (by simp); have HG5 := Lib.hid (And.intro (grown_trans (grown_trans HGw4.out.1 (grown_drew _ _)) hg5) (grown_trans (grown_trans HGw4.out.2 (grown_drew _ _)) hg5)); clear hg5)
      | (go_at_call 20; refine (iAlign_any ys ys n a2 n c2 (8 * (n : Int)) _ (HX2.out.grown HG5.out.2) HN2.out (by omega) HAL.out HN.out).mono ?_; rintro e w6 ⟨v6, rfl, ho6, hg6⟩; obtain ⟨a6, c6, rfl, _, _, hx6, _⟩ := ho6.reads; have HX6 := Lib.hid hx6; have s0 := hg6.cell r0 (by simp); have s1 := hg6.cell r1 (by simp); have s2 := hg6.cell r2 (by simp); have s3 := hg6.cell r3 (by simp); have HG6 := Lib.hid (And.intro (grown_trans HG5.out.1 hg6) (grown_trans HG5.out.2 hg6)); clear ho6 hg6 hx6)
      | (go_at_call 21; refine (equalBits_same ys a6 a2 n c6 c2 (8 * (n : Int)) _ HX6.out (HX2.out.grown HG6.out.2) (by omega)).mono ?_; rintro e w7 ⟨rfl, hg7⟩; have t0 := hg7.cell s0 (by simp); have t1 := hg7.cell s1 (by simp); have t2 := hg7.cell s2 (by simp); have t3 := hg7.cell s3 (by simp); have HG7 := Lib.hid (And.intro (grown_trans HG6.out.1 hg7) (grown_trans HG6.out.2 hg7)); clear hg7)))
    clear r0 r1 r2 r3 s0 s1 s2 s3 t0 t1 t2 t3 q0 q1 q2 q3
    go_wp2
    go_ret
    exact ⟨rfl, grown_trans HG1.out (by first | exact HG7.out.1 | exact grown_trans HG7.out.1 (grown_drew _ _))⟩
end Go.Proofs.Ytdhfjaoaekdfbaa
