/-
  The draw of audio. For every code.
-/
import Derived.Test.YtncbgofcimghnaaMatR
import Derived.Test.YtncbgofcimghnaaDrawS
import Derived.Test.YtncbgofcimghnaaVAu
import Derived.Deep.RegionLaw
import Derived.Deep.RegionHeld3
namespace Go.Proofs.Ytncbgofcimghnaa
open Go.RowKit

theorem three3 {w : World} {b : Nat} {x y z : Value} {t : TypeId} (h : w.heap[b]? = some (.cells #[x, y, z] t (0, 0))) : w.cell? ⟨b, 0, none⟩ = some x ∧ w.cell? ⟨b, 1, none⟩ = some y ∧ w.cell? ⟨b, 2, none⟩ = some z := three_cells h
/-- Inside the draw: the reader, the place of the result (the first new block) and the audio in block A. -/
structure AS (w : World) (r P A : Nat) (p q : Int) (v : Value) (w' : World) : Prop where
  rd : Rdr w' r P
  gr : w.grownBy w' (some r)
  a : w'.heap[A]? = some (.cells #[.int .i64 p, .int .i64 q, v] 25 (0, 0))
  z : w'.heap[w.heap.size]? = some (.cells #[.int .i64 0, .int .i64 0, .slice none 0 0] 25 (0, 0))
  hA : w.heap.size < A
  hr : r < w.heap.size
theorem AS.next {w w1 w2 : World} {r P P2 A : Nat} {p q : Int} {v : Value} (h : AS w r P A p q v w1) (hg : w1.grownBy w2 (some r)) (hR : Rdr w2 r P2) : AS w r P2 A p q v w2 :=
  ⟨hR, grown_trans h.gr hg, grown_heap hg h.a (by have := h.hA; have := h.hr; simp; omega), grown_heap hg h.z (by have := h.hr; simp; omega), h.hA, h.hr⟩
theorem AS.grown {w w1 w2 : World} {r P A : Nat} {p q : Int} {v : Value} (h : AS w r P A p q v w1) (hg : w1.grownBy w2 none) : AS w r P A p q v w2 :=
  ⟨h.rd.kept hg (by simp), grown_trans h.gr (grown_any hg _), grown_heap hg h.a (by simp), grown_heap hg h.z (by simp), h.hA, h.hr⟩
theorem AS.row {w w1 w2 : World} {r P A g : Nat} {p q : Int} {v : Value} (h : AS w r P A p q v w1) (hg : w1.grownBy w2 (some g)) (hlt : A < g) : AS w r P A p q v w2 :=
  ⟨h.rd.kept hg (fun x e => by injection e with e; have := h.hA; have := h.hr; omega), grown_row h.gr hg (fun x e => by injection e with e; have := h.hA; omega), grown_heap hg h.a (by simp; omega), grown_heap hg h.z (by have := h.hA; simp; omega), h.hA, h.hr⟩
theorem AS.set0 {w w1 : World} {r P A : Nat} {p q : Int} {v : Value} (h : AS w r P A p q v w1) (x : Int) : AS w r P A x q v (w1.setCell ⟨A, 0, none⟩ (.int .i64 x)) := by
  have hg := grown_setCell w1 ⟨A, 0, none⟩ (.int .i64 x)
  exact ⟨h.rd.kept hg (fun y e => by injection e with e; have := h.hA; have := h.hr; simp at e; omega), grown_row h.gr hg (fun y e => by injection e with e; have := h.hA; simp at e; omega), heap_setCell_same w1 A 0 _ _ _ h.a, grown_heap hg h.z (by have := h.hA; simp; omega), h.hA, h.hr⟩
theorem AS.set1 {w w1 : World} {r P A : Nat} {p q : Int} {v : Value} (h : AS w r P A p q v w1) (x : Int) : AS w r P A p x v (w1.setCell ⟨A, 1, none⟩ (.int .i64 x)) := by
  have hg := grown_setCell w1 ⟨A, 1, none⟩ (.int .i64 x)
  exact ⟨h.rd.kept hg (fun y e => by injection e with e; have := h.hA; have := h.hr; simp at e; omega), grown_row h.gr hg (fun y e => by injection e with e; have := h.hA; simp at e; omega), heap_setCell_same w1 A 1 _ _ _ h.a, grown_heap hg h.z (by have := h.hA; simp; omega), h.hA, h.hr⟩
theorem AS.set2 {w w1 : World} {r P A : Nat} {p q : Int} {v : Value} (h : AS w r P A p q v w1) (x : Value) : AS w r P A p q x (w1.setCell ⟨A, 2, none⟩ x) := by
  have hg := grown_setCell w1 ⟨A, 2, none⟩ x
  exact ⟨h.rd.kept hg (fun y e => by injection e with e; have := h.hA; have := h.hr; simp at e; omega), grown_row h.gr hg (fun y e => by injection e with e; have := h.hA; simp at e; omega), heap_setCell_same w1 A 2 _ _ _ h.a, grown_heap hg h.z (by have := h.hA; simp; omega), h.hA, h.hr⟩
theorem AS.mono {w w1 : World} {r P P2 A : Nat} {p q : Int} {v : Value} (h : AS w r P A p q v w1) (hP : P ≤ P2) : AS w r P2 A p q v w1 := ⟨h.rd.mono hP, h.gr, h.a, h.z, h.hA, h.hr⟩

/-- Rows in block M, in blocks from base on. -/
structure Rows (w : World) (base M : Nat) (us : List Value) (xss : List (List Int)) : Prop where
  h : w.heap[M]? = some (.cells us.toArray 39 (0, 0))
  lo : base ≤ M
  len : us.length = xss.length
  row : ∀ (k : Nat) (u : Value) (xs : List Int), us[k]? = some u → xss[k]? = some xs → RowB w base u xs ∧ u.ownBlock ≠ some M
theorem Rows.kept {w w' : World} {base M : Nat} {us : List Value} {xss : List (List Int)} {row : Option Nat} (h : Rows w base M us xss) (hg : w.grownBy w' row) (hr : ∀ g, row = some g → g < base) : Rows w' base M us xss :=
  ⟨grown_heap hg h.h (fun e => by have := hr _ e; have := h.lo; omega), h.lo, h.len, fun k u xs hu hx => ⟨(h.row k u xs hu hx).1.kept hg hr, (h.row k u xs hu hx).2⟩⟩
theorem Rows.far {w w' : World} {base M g : Nat} {us : List Value} {xss : List (List Int)} (h : Rows w base M us xss) (hg : w.grownBy w' (some g)) (hM : M ≠ g) (hu : ∀ u ∈ us, u.ownBlock ≠ some g) : Rows w' base M us xss :=
  ⟨grown_heap hg h.h (by simp; omega), h.lo, h.len, fun k u xs hku hx => ⟨(h.row k u xs hku hx).1.far hg (hu u (List.mem_of_getElem? hku)), (h.row k u xs hku hx).2⟩⟩
theorem Rows.mat {w : World} {base M : Nat} {us : List Value} {xss : List (List Int)} (h : Rows w base M us xss) : MatB w base (some ⟨M, 0, none⟩) us.length xss := by
  refine ⟨h.len.symm, ?_⟩
  right
  refine ⟨M, 0, rfl, h.lo, fun k xs hx => ?_⟩
  obtain ⟨u, hu⟩ : ∃ u, us[k]? = some u := ⟨_, List.getElem?_eq_getElem (by rw [h.len]; exact (List.getElem?_eq_some_iff.1 hx).1)⟩
  refine ⟨u, ?_, (h.row k u xs hu hx).1⟩
  rw [Nat.zero_add, cell_of_row w M k _ _ _ h.h]
  simpa using hu
theorem rows_one {w : World} {base M : Nat} {u : Value} {xs : List Int} (h : w.heap[M]? = some (.cells #[u] 39 (0, 0))) (hb : base ≤ M) (hr : RowB w base u xs) (hne : u.ownBlock ≠ some M) : Rows w base M [u] [xs] := by
  refine ⟨h, hb, rfl, fun k v ys hv hy => ?_⟩
  match k, hv, hy with
  | 0, hv, hy => simp at hv hy; subst hv; subst hy; exact ⟨hr, hne⟩
theorem rows_two {w : World} {base M : Nat} {u v : Value} {xs ys : List Int} (h : w.heap[M]? = some (.cells #[u, v] 39 (0, 0))) (hb : base ≤ M) (hr : RowB w base u xs) (hne : u.ownBlock ≠ some M) (hr2 : RowB w base v ys) (hne2 : v.ownBlock ≠ some M) : Rows w base M [u, v] [xs, ys] := by
  refine ⟨h, hb, rfl, fun k z zs hz hzs => ?_⟩
  match k, hz, hzs with
  | 0, hz, hzs => simp at hz hzs; subst hz; subst hzs; exact ⟨hr, hne⟩
  | 1, hz, hzs => simp at hz hzs; subst hz; subst hzs; exact ⟨hr2, hne2⟩
/-- The first row is replaced. -/
theorem Rows.first {w w' : World} {base M : Nat} {us : List Value} {xss : List (List Int)} {u : Value} {xs : List Int} (h : Rows w base M us xss) (h0 : 0 < us.length) (hr : RowB w base u xs) (hne : u.ownBlock ≠ some M) (hw : w' = w.setCell ⟨M, 0, none⟩ u) :
    Rows w' base M (us.set 0 u) (xss.set 0 xs) := by
  subst hw
  have hg := grown_setCell w ⟨M, 0, none⟩ u
  refine ⟨?_, h.lo, by simp [h.len], fun k v ys hv hy => ?_⟩
  · have := heap_setCell_same w M 0 _ _ u h.h
    rw [this]
    congr 2
    simp [List.setIfInBounds_toArray]
  · by_cases hk : k = 0
    · subst hk
      have hx0 : 0 < xss.length := by rw [← h.len]; exact h0
      rw [List.getElem?_set_self h0] at hv
      rw [List.getElem?_set_self hx0] at hy
      injection hv with hv; injection hy with hy
      subst hv; subst hy
      exact ⟨hr.far hg hne, hne⟩
    · rw [List.getElem?_set_ne (by omega)] at hv hy
      obtain ⟨h1, h2⟩ := h.row k v ys hv hy
      exact ⟨h1.far hg h2, h2⟩
theorem own_read {w w' : World} {base n r : Nat} {v : Value} {xs : List Int} (h : Owns w base v n xs) (hg : w.grownBy w' (some r)) (hr : r < base) : Owns w' base v n xs :=
  h.kept hg (by cases e : v.ownBlock with | none => exact Or.inl rfl | some k => right; intro e2; injection e2 with e2; have := h.block k e; omega)
theorem own_ne {v : Value} {g : Nat} {w : World} {base n : Nat} {xs : List Int} (h : Owns w base v n xs) (hg : w.heap.size ≤ g) : v.ownBlock ≠ some g := by
  intro e
  have := (World.ownsRow.lt h g e).2
  omega

theorem made_zero {w : World} {base g n : Nat} (h : w.ownsRow base 3 1 (.slice (some ⟨g, 0, none⟩) n n) n (madeCells #[Value.int .i64 0] n).toList) : Owns w base (.slice (some ⟨g, 0, none⟩) n n) n (List.replicate n 0) := by
  rw [part_zero []] at h
  simpa [Owns, part] using h
theorem au_end {w w1 : World} {r P P2 A len cap : Nat} {p q : Int} {ao : Option Addr} {x y z : Value} {xss : List (List Int)} (h : AS w r P A p q (.slice ao len cap) w1) (hm : MatB w1 (A + 1) ao len xss) (hl : len ≤ 2) (hs : szL xss ≤ 1000) (hP : P ≤ P2) :
    DrewAu r P2 w (.returned (.agg #[.int .i64 p, .int .i64 q, .slice ao len cap])) (((w1.setCell ⟨w.heap.size, 0, none⟩ x).setCell ⟨w.heap.size, 1, none⟩ y).setCell ⟨w.heap.size, 2, none⟩ z) := by
  have hA := h.hA
  have hr := h.hr
  have g1 := grown_setCell w1 ⟨w.heap.size, 0, none⟩ x
  have g2 := grown_setCell (w1.setCell ⟨w.heap.size, 0, none⟩ x) ⟨w.heap.size, 1, none⟩ y
  have g3 := grown_setCell ((w1.setCell ⟨w.heap.size, 0, none⟩ x).setCell ⟨w.heap.size, 1, none⟩ y) ⟨w.heap.size, 2, none⟩ z
  have g := grown_trans (grown_trans g1 g2) g3
  refine ⟨p, q, ao, len, cap, xss, rfl, (hm.kept g (fun k e => by injection e with e; simp at e; omega)).base_le (by omega), hl, hs, (h.rd.kept g (fun k e => by injection e with e; simp at e; omega)).mono hP, grown_row h.gr g (fun k e => by injection e with e; simp at e; omega)⟩

theorem sz_one (xs : List Int) : szL [xs] = 1 + xs.length := by simp [szL]
theorem sz_two (xs ys : List Int) : szL [xs, ys] = 2 + (xs.length + ys.length) := by simp [szL]

set_option maxRecDepth 100000 in
set_option maxHeartbeats 8000000 in
theorem anyAudio_any (r P : Nat) (w : World) (hR : Rdr w r P) (hP : P < 800000) :
    Calls Try.prog 37 #[.pointer (some ⟨r, 0, none⟩)] w (DrewAu r (P + 130) w) := by
  have hrl := hR.lt
  have HZ0 := Lib.hid (heap_alloc_new w (.cells #[.int .i64 0, .int .i64 0, .slice none 0 0] 25))
  have hR0 := hR.alloc (.cells #[.int .i64 0, .int .i64 0, .slice none 0 0] 25)
  have HG0 := Lib.hid (grown_alloc w (.cells #[.int .i64 0, .int .i64 0, .slice none 0 0] 25) (some r))
  go_enter Try.func37, Try.ntmps37
  go_wp2_with fail
  refine (one_at [8000, 44100, 1, 999999] _ r P _ _ _ (by simp) hR0 (by omega) (by decide) (by decide)).mono ?_
  rintro e w1 ⟨p, hp, rfl, hR1, hg1⟩
  have hp0 : 1 ≤ p ∧ p ≤ 999999 := by simp at hp; omega
  have HG1 := Lib.hid (grown_trans HG0.out hg1)
  have HZ1 := Lib.hid (grown_heap hg1 HZ0.out (by simp; omega))
  clear hR hR0 HZ0 HG0 hg1 hp
  go_wp2_with fail
  refine (one_at [16, 8, 12, 4] _ r (P + 1) _ _ w1 rfl hR1 (by omega) (by decide) (by decide)).mono ?_
  rintro e w2 ⟨d, hd, rfl, hR2, hg2⟩
  obtain ⟨u, hu, hu3, hu15⟩ : ∃ u : Nat, d = (u : Int) + 1 ∧ 3 ≤ u ∧ u ≤ 15 := by simp at hd; exact ⟨(d - 1).toNat, by omega, by omega, by omega⟩
  subst hu
  have HG2 := Lib.hid (grown_trans HG1.out hg2)
  have HZ2 := Lib.hid (grown_heap hg2 HZ1.out (by simp; omega))
  clear hR1 HZ1 HG1 hg2 hd
  have HA2 : Hid (AS w r (P + 2) w2.heap.size p ((u : Int) + 1) (.slice none 0 0) (w2.alloc (.cells #[.int .i64 p, .int .i64 ((u : Int) + 1), .slice none 0 0] 25))) :=
    ⟨hR2.alloc _, grown_trans HG2.out (grown_alloc _ _ _), heap_alloc_new _ _, grown_heap (grown_alloc _ _ none) HZ2.out (by simp), block_lt HZ2.out, hrl⟩
  have hA := block_lt HZ2.out
  clear hR2 HG2 HZ2
  go_wp2_with fail
  refine (one_at [10, 20, 7, 1, 33, 0, 16] _ r (P + 2) _ _ _ (by simp) HA2.out.rd (by omega) (by decide) (by decide)).mono ?_
  rintro e w3 ⟨n, hn, rfl, hR3, hg3⟩
  obtain ⟨n, rfl, hn33⟩ : ∃ m : Nat, n = (m : Int) ∧ m ≤ 33 := by simp at hn; exact ⟨n.toNat, by omega, by omega⟩
  have HA3 := Lib.hid (HA2.out.next hg3 hR3)
  clear HA2 hR3 hg3 hn
  obtain ⟨q0, q1, q2⟩ := three3 HA3.out.a
  generalize hAe : w2.heap.size = A at *
  clear hAe
  go_wp2_with fail
  refine (randomSamples_any n u r (P + 3) w3 HA3.out.rd (by omega) (by omega) (by omega)).mono ?_
  rintro e w4 ⟨v4, xs, rfl, ho4, hb4, hR4, hg4⟩
  obtain ⟨a4, c4, rfl, _⟩ := ho4.reads
  have HA4 := Lib.hid (HA3.out.next hg4 hR4)
  have hAw : A < w3.heap.size := block_lt HA3.out.a
  have HO4 := Lib.hid (ho4.base_le (base' := A + 1) (by omega))
  have HB4 := Lib.hid hb4
  have hsz4 := hg4.size
  clear q0 q1 q2 HA3 ho4 hb4 hR4 hg4
  have HM5 : Hid (AS w r (P + 3 + 70) A p ((u : Int) + 1) (.slice (some ⟨w4.heap.size, 0, none⟩) 1 1) ((w4.alloc (.cells #[.slice a4 n c4] 39)).setCell ⟨A, 2, none⟩ (.slice (some ⟨w4.heap.size, 0, none⟩) 1 1)) ∧
      Rows ((w4.alloc (.cells #[.slice a4 n c4] 39)).setCell ⟨A, 2, none⟩ (.slice (some ⟨w4.heap.size, 0, none⟩) 1 1)) (A + 1) w4.heap.size [.slice a4 n c4] [xs]) := by
    refine ⟨(HA4.out.grown (grown_alloc _ _ _)).set2 _, (rows_one (heap_alloc_new _ _) (by omega) (HO4.out.grown (grown_alloc _ _ _)).rowB (own_ne HO4.out (Nat.le_refl _))).kept (grown_setCell _ _ _) (fun g e => by injection e with e; simp at e; omega)⟩
  have q2 := (three3 (HA4.out.grown (grown_alloc w4 (.cells #[.slice a4 n c4] 39) none)).a).2.2
  have f2 := frozen_of_row _ A 2 _ _ (HA4.out.grown (grown_alloc w4 (.cells #[.slice a4 n c4] 39) none)).a
  go_wp2_with fail
  refine (pick_any 2 r (P + 3 + 70) _ HM5.out.1.rd (by omega) (by omega)).mono ?_
  rintro e w5 ⟨m5, rfl, hm0, hm1, _, hR5, hg5⟩
  have hm2 : m5 < 2 := hm1 (by omega)
  have HM6 : Hid (AS w r (P + 74) A p ((u : Int) + 1) (.slice (some ⟨w4.heap.size, 0, none⟩) 1 1) w5 ∧ Rows w5 (A + 1) w4.heap.size [.slice a4 n c4] [xs]) := ⟨HM5.out.1.next hg5 hR5, HM5.out.2.kept hg5 (fun g e => by injection e with e; omega)⟩
  have HO6 : Hid (Owns w5 (A + 1) (.slice a4 n c4) n xs) := by
    have hg := grown_trans (grown_any (grown_alloc w4 (.cells #[.slice a4 n c4] 39) none) none) (grown_refl _ none)
    exact ((((HO4.out.grown (grown_alloc w4 (.cells #[.slice a4 n c4] 39) none)).set _ _ (fun e => by have := HO4.out.block _ e; simp at this; omega))).kept hg5 (by
      cases h : (Value.slice a4 n c4).ownBlock with
      | none => exact Or.inl rfl
      | some k => right; intro e; injection e with e; have := HO4.out.block k h; omega))
  have HXL : Hid (xs.length = n) := HO4.out.len_eq
  have HLT : Hid (∀ g, (Value.slice a4 n c4).ownBlock = some g → g < w4.heap.size) := fun g e => (World.ownsRow.lt HO4.out g e).2
  clear q2 f2 HA4 HO4 HM5 hR5 hg5 hm1
  generalize hM : w4.heap.size = M at *
  have hAM : A < M := by omega
  by_cases hm : m5 = 0
  · subst hm
    obtain ⟨q0, q1, q2⟩ := three3 HM6.out.1.a
    have m0 : w5.cell? ⟨M, 0, none⟩ = some (.slice a4 n c4) := by rw [cell_of_row w5 M 0 _ _ _ HM6.out.2.h]; rfl
    have hn4 : a4 = none → c4 = 0 := by obtain ⟨aa, cc, e, h1, h2, h3, h4⟩ := HO6.out.reads; injection e with e1 _ e3; subst e1; subst e3; exact h2
    have hM5 := block_lt HM6.out.2.h
    go_wp2_with fail
    refine (copyInts_any xs a4 n c4 w5 HO6.out.toInts hn4 (by omega)).mono ?_
    rintro e w6 ⟨v6, rfl, ho6, hg6⟩
    obtain ⟨a6, c6, rfl, _⟩ := ho6.reads
    have HS6 : Hid (AS w r (P + 74 + 0) A p ((u : Int) + 1) (.slice (some ⟨M, 0, none⟩) 1 1) w6 ∧ Rows w6 (A + 1) M [.slice a4 n c4] [xs] ∧ Owns w6 (A + 1) (.slice a4 n c4) n xs ∧ ∃ zs, Owns w6 (M + 1) (.slice a6 n c6) n zs ∧ ∀ z ∈ zs, -33000 ≤ z ∧ z ≤ 33000) := by
      refine ⟨HM6.out.1.grown hg6, HM6.out.2.kept hg6 (by simp), HO6.out.grown hg6, xs, ho6.base_le (by omega), fun z hz => ?_⟩
      obtain ⟨kk, hkk⟩ := List.getElem?_of_mem hz
      have h1 := allB_mem HB4.out hkk
      have h2 := (pow_u u (by omega)).2
      have h3 := Nat.pow_le_pow_right (show 0 < 2 by omega) hu15
      have h4 : ((2 ^ u : Nat) : Int) = 2 ^ u := by simp
      omega
    have HX6 : Hid (xs.length = n) := HXL
    clear q0 q1 q2 m0 hn4 ho6 hg6 HM6 HO6
    go_wp2
    go_loopw [6] (fun iv wr => ∃ q : Nat, q ≤ n ∧ iv = .int .i64 q ∧ Hid (AS w r (P + 74 + q) A p ((u : Int) + 1) (.slice (some ⟨M, 0, none⟩) 1 1) wr ∧ Rows wr (A + 1) M [.slice a4 n c4] [xs] ∧ Owns wr (A + 1) (.slice a4 n c4) n xs ∧ ∃ zs, Owns wr (M + 1) (.slice a6 n c6) n zs ∧ ∀ z ∈ zs, -33000 ≤ z ∧ z ≤ 33000)) (fun iv _ => n - (intOf iv).toNat)
    case atStart => exact ⟨0, Nat.zero_le _, rfl, HS6⟩
    case round =>
      clear HS6
      obtain ⟨q, hq, rfl, HR⟩ := hrel
      by_cases hlt : q < n
      · obtain ⟨zs, hoz, hzb⟩ := HR.out.2.2.2
        obtain ⟨g6, rfl⟩ : ∃ g6, a6 = some ⟨g6, 0, none⟩ := by
          rcases hoz.2 with ⟨e, e0⟩ | ⟨g6, c7, cur, e, _⟩
          · omega
          · injection e with e _ _; exact ⟨g6, e⟩
        obtain ⟨y, hy⟩ : ∃ y, zs[q]? = some y := ⟨_, List.getElem?_eq_getElem (by rw [hoz.len_eq]; exact hlt)⟩
        have hyr := hzb y (List.mem_of_getElem? hy)
        have hy0 := hyr.1
        have hy1 := hyr.2
        have hg6M := (World.ownsRow.lt hoz g6 rfl).1
        have n0 : wr.cell? ⟨g6, q, none⟩ = some (.int .i64 y) := by rw [World.ownsRow.cellAt hoz q (by omega), List.getElem?_map, hy]; rfl
        have d1 := (three3 HR.out.1.a).2.1
        have hpk := fun W (hgW : wr.grownBy W none) => pick_any 2 r (P + 74 + q) W (HR.out.1.rd.kept hgW (by simp)) (by omega) (by omega)
        have HOZ := Lib.hid hoz
        have HZB := Lib.hid hzb
        have hp0' := (pow_u u (by omega)).1
        have hp1' := (pow_u u (by omega)).2
        have hw0 : IntKind.i64.wrap (2 ^ u) = 2 ^ u := IntWalk.i64_in _ (by omega)
        have hw01 : IntKind.i64.wrap (-(2 ^ u)) = -(2 ^ u) := IntWalk.i64_in _ (by omega)
        have hw02 : IntKind.i64.wrap (-1 * 2 ^ u) = -(2 ^ u) := IntWalk.i64_in _ (by omega) |>.trans (by omega)
        have hus : (u : Int).toNat = u := by simp
        have hwu : IntKind.i64.wrap (u : Int) = (u : Int) := IntWalk.i64_in _ (by omega)
        have hu00 : (0 : Int) ≤ (u : Int) := by omega
        have hu01 : (u : Int) ≤ 64 := by omega
        have h15 := Nat.pow_le_pow_right (show 0 < 2 by omega) hu15
        have h16 : ((2 ^ u : Nat) : Int) = 2 ^ u := by simp
        have h17 : (2 : Int) ^ u ≤ 32768 := by omega
        clear hoz hzb hy hyr h15 h16
        go_wp2_with fail
        go_region_law (go_simp; go_at_call 48; refine (hpk _ (grown_drew _ _)).mono ?_; rintro e w7 ⟨x, rfl, hx0, hx1, _, hR7, hg7⟩; have hx2 : x < 2 := hx1 (by omega); have hg7' := grown_trans (grown_drew wr (some r)) hg7; have d1b := hg7'.cell d1 (by simp; omega); have n0b := hg7'.cell n0 (by simp; omega); have hOb := own_read HOZ.out hg7' (by omega); have fzb : w7.frozen? ⟨g6, q, none⟩ = false := World.ownsRow.frozenAt hOb q; have HOB := Lib.hid hOb; have HR7 := Lib.hid hR7; have HG7 := Lib.hid hg7'; have hwy : IntKind.i64.wrap (y - x) = y - x := IntWalk.i64_in _ (by omega); clear hx1 hR7 hg7 hg7' hOb)
        all_goals
          go_simp
          obtain ⟨yy, hyy⟩ : ∃ yy, (if -2 ^ u < y - x then y - x else -2 ^ u) = yy := ⟨_, rfl⟩
          rw [hyy]
          have hyb : -33000 ≤ yy ∧ yy ≤ 33000 := by rw [← hyy]; split <;> omega
          have HN : Hid (AS w r (P + 74 + (q + 1)) A p ((u : Int) + 1) (.slice (some ⟨M, 0, none⟩) 1 1) (w7.setCell ⟨g6, q, none⟩ (.int .i64 yy)) ∧ Rows (w7.setCell ⟨g6, q, none⟩ (.int .i64 yy)) (A + 1) M [.slice a4 n c4] [xs] ∧ Owns (w7.setCell ⟨g6, q, none⟩ (.int .i64 yy)) (A + 1) (.slice a4 n c4) n xs ∧ ∃ zs, Owns (w7.setCell ⟨g6, q, none⟩ (.int .i64 yy)) (M + 1) (.slice (some ⟨g6, 0, none⟩) n c6) n zs ∧ ∀ z ∈ zs, -33000 ≤ z ∧ z ≤ 33000) := by
            have hne : (Value.slice a4 n c4).ownBlock ≠ some g6 := fun e => by have := HLT.out _ e; omega
            refine ⟨(HR.out.1.next HG7.out HR7.out).row (grown_setCell _ _ _) (by show A < g6; omega), (HR.out.2.1.kept HG7.out (fun g e => by injection e with e; omega)).far (grown_setCell _ _ _) (by show M ≠ g6; omega) (fun v hv => by simp at hv; subst hv; exact hne), (own_read HR.out.2.2.1 HG7.out (by omega)).set _ _ hne, zs.set q yy, ?_, fun z hz => ?_⟩
            · have := (World.ownsRow.stored HOB.out q (.int .i64 yy)).1
              rw [← List.map_set] at this
              exact this
            · rcases List.mem_or_eq_of_mem_set hz with h | h
              · exact HZB.out z h
              · rw [h]; exact hyb
          clear hyb hyy d1 n0 d1b n0b fzb hwy HOB HR7 HG7 HOZ HZB HR hpk
          go_wp2
          go_roundw
          case rel => exact ⟨q + 1, by omega, by go_num, HN⟩
          case measure => simp [intOf]; omega
      · obtain rfl : q = n := by omega
        obtain ⟨zs, hoz, hzb⟩ := HR.out.2.2.2
        have HZL : Hid (zs.length = q) := hoz.len_eq
        have hwr := block_lt HR.out.2.1.h
        have HM7 : Hid (AS w r (P + 74 + q) A p ((u : Int) + 1) (.slice (some ⟨wr.heap.size, 0, none⟩) 2 2) ((wr.setCell ⟨A, 2, none⟩ (.slice (some ⟨wr.heap.size, 0, none⟩) 2 2)).alloc (.cells #[.slice a4 q c4, .slice a6 q c6] 39)) ∧
            Rows ((wr.setCell ⟨A, 2, none⟩ (.slice (some ⟨wr.heap.size, 0, none⟩) 2 2)).alloc (.cells #[.slice a4 q c4, .slice a6 q c6] 39)) (A + 1) wr.heap.size [.slice a4 q c4, .slice a6 q c6] [xs, zs]) := by
          have o1 : Owns (wr.setCell ⟨A, 2, none⟩ (.slice (some ⟨wr.heap.size, 0, none⟩) 2 2)) (A + 1) (.slice a4 q c4) q xs := HR.out.2.2.1.set _ _ (fun e => by have := HR.out.2.2.1.block _ e; simp at this; omega)
          have o2 : Owns (wr.setCell ⟨A, 2, none⟩ (.slice (some ⟨wr.heap.size, 0, none⟩) 2 2)) (M + 1) (.slice a6 q c6) q zs := hoz.set _ _ (fun e => by have := hoz.block _ e; simp at this; omega)
          have hh := heap_alloc_new (wr.setCell ⟨A, 2, none⟩ (.slice (some ⟨wr.heap.size, 0, none⟩) 2 2)) (.cells #[.slice a4 q c4, .slice a6 q c6] 39)
          have hsz : (wr.setCell ⟨A, 2, none⟩ (.slice (some ⟨wr.heap.size, 0, none⟩) 2 2)).heap.size = wr.heap.size := by simp
          rw [hsz] at hh
          exact ⟨(HR.out.1.set2 _).grown (grown_alloc _ _ _), rows_two hh (by omega) (o1.grown (grown_alloc _ _ _)).rowB (own_ne o1 (by rw [hsz]; exact Nat.le_refl _)) ((o2.base_le (by omega)).grown (grown_alloc _ _ _)).rowB (own_ne o2 (by rw [hsz]; exact Nat.le_refl _))⟩
        have HO7 : Hid (Owns ((wr.setCell ⟨A, 2, none⟩ (.slice (some ⟨wr.heap.size, 0, none⟩) 2 2)).alloc (.cells #[.slice a4 q c4, .slice a6 q c6] 39)) (A + 1) (.slice a4 q c4) q xs) := (HR.out.2.2.1.set _ _ (fun e => by have := HR.out.2.2.1.block _ e; simp at this; omega)).grown (grown_alloc _ _ _)
        obtain ⟨_, _, q2a⟩ := three3 HR.out.1.a
        have m0 : wr.cell? ⟨M, 0, none⟩ = some (.slice a4 q c4) := by rw [cell_of_row wr M 0 _ _ _ HR.out.2.1.h]; rfl
        have q2 := (three3 (HR.out.1.grown (grown_alloc wr (.cells #[.slice a4 q c4, .slice a6 q c6] 39) none)).a).2.2
        have f2 := frozen_of_row _ A 2 _ _ (HR.out.1.grown (grown_alloc wr (.cells #[.slice a4 q c4, .slice a6 q c6] 39) none)).a
        have hMM : A < wr.heap.size := by omega
        generalize hM2 : wr.heap.size = M2 at *
        clear hoz hzb HR
        go_wp2_with fail
        refine (pick_any 30 r (P + 74 + q) _ HM7.out.1.rd (by omega) (by omega)).mono ?_
        rintro e w7 ⟨m7, rfl, hs0, hs1, _, hR7, hg7⟩
        have HE : Hid (AS w r (P + 74 + q + 1) A p ((u : Int) + 1) (.slice (some ⟨M2, 0, none⟩) 2 2) w7 ∧ Rows w7 (A + 1) M2 [.slice a4 q c4, .slice a6 q c6] [xs, zs]) := ⟨HM7.out.1.next hg7 hR7, HM7.out.2.kept hg7 (fun g e => by injection e with e; omega)⟩
        have HO7 : Hid (Owns w7 (A + 1) (.slice a4 q c4) q xs) := own_read HO7.out hg7 (by omega)
        clear HM7 hR7 hg7 hs1
        by_cases c0 : m7 = 0
        · subst c0
          go_wp2_with fail
          refine (one_at [0, 1000000] _ r (P + 74 + q + 1) _ _ w7 rfl HE.out.1.rd (by omega) (by decide) (by decide)).mono ?_
          rintro e w8 ⟨x, hx, rfl, hR8, hg8⟩
          have HE : Hid (AS w r (P + 74 + q + 2) A p ((u : Int) + 1) (.slice (some ⟨M2, 0, none⟩) 2 2) w8 ∧ Rows w8 (A + 1) M2 [.slice a4 q c4, .slice a6 q c6] [xs, zs]) := ⟨HE.out.1.next hg8 hR8, HE.out.2.kept hg8 (fun g e => by injection e with e; omega)⟩
          clear hR8 hg8 hx
          obtain ⟨q0, q1, q2⟩ := three3 HE.out.1.a
          obtain ⟨z0, z1, z2⟩ := three3 HE.out.1.z
          have f0 := frozen_of_row w8 _ 0 _ _ HE.out.1.a
          have f1 := frozen_of_row w8 _ 1 _ _ HE.out.1.a
          have f2 := frozen_of_row w8 _ 2 _ _ HE.out.1.a
          have y0 := frozen_of_row w8 _ 0 _ _ HE.out.1.z
          have y1 := frozen_of_row w8 _ 1 _ _ HE.out.1.z
          have y2 := frozen_of_row w8 _ 2 _ _ HE.out.1.z
          have HF : Hid (AS w r (P + 74 + q + 2) A x ((u : Int) + 1) (.slice (some ⟨M2, 0, none⟩) 2 2) (w8.setCell ⟨A, 0, none⟩ (.int .i64 x)) ∧ Rows (w8.setCell ⟨A, 0, none⟩ (.int .i64 x)) (A + 1) M2 [.slice a4 q c4, .slice a6 q c6] [xs, zs]) := ⟨HE.out.1.set0 x, HE.out.2.kept (grown_setCell _ _ _) (fun g e => by injection e with e; simp at e; omega)⟩
          clear HE
          go_wp2
          refine bodyPost_ret (v := .agg #[.int .i64 x, .int .i64 ((u : Int) + 1), .slice (some ⟨M2, 0, none⟩) 2 2]) (by simp [results, Try.results37, go_sem, z0, z1, z2]) rfl ?_
          exact au_end HF.out.1 HF.out.2.mat (by simp) (by rw [sz_two]; (first | (have := HXL.out; have := HZL.out; omega) | omega)) (by omega)
        have b0 : (m7 == 0) = false := by simpa using c0
        clear c0
        by_cases c1 : m7 = 1
        · subst c1
          clear b0
          go_wp2_with fail
          refine (one_at [3, 17] _ r (P + 74 + q + 1) _ _ w7 rfl HE.out.1.rd (by omega) (by decide) (by decide)).mono ?_
          rintro e w8 ⟨x, hx, rfl, hR8, hg8⟩
          have HE : Hid (AS w r (P + 74 + q + 2) A p ((u : Int) + 1) (.slice (some ⟨M2, 0, none⟩) 2 2) w8 ∧ Rows w8 (A + 1) M2 [.slice a4 q c4, .slice a6 q c6] [xs, zs]) := ⟨HE.out.1.next hg8 hR8, HE.out.2.kept hg8 (fun g e => by injection e with e; omega)⟩
          clear hR8 hg8 hx
          obtain ⟨q0, q1, q2⟩ := three3 HE.out.1.a
          obtain ⟨z0, z1, z2⟩ := three3 HE.out.1.z
          have f0 := frozen_of_row w8 _ 0 _ _ HE.out.1.a
          have f1 := frozen_of_row w8 _ 1 _ _ HE.out.1.a
          have f2 := frozen_of_row w8 _ 2 _ _ HE.out.1.a
          have y0 := frozen_of_row w8 _ 0 _ _ HE.out.1.z
          have y1 := frozen_of_row w8 _ 1 _ _ HE.out.1.z
          have y2 := frozen_of_row w8 _ 2 _ _ HE.out.1.z
          have HF : Hid (AS w r (P + 74 + q + 2) A p x (.slice (some ⟨M2, 0, none⟩) 2 2) (w8.setCell ⟨A, 1, none⟩ (.int .i64 x)) ∧ Rows (w8.setCell ⟨A, 1, none⟩ (.int .i64 x)) (A + 1) M2 [.slice a4 q c4, .slice a6 q c6] [xs, zs]) := ⟨HE.out.1.set1 x, HE.out.2.kept (grown_setCell _ _ _) (fun g e => by injection e with e; simp at e; omega)⟩
          clear HE
          go_wp2
          refine bodyPost_ret (v := .agg #[.int .i64 p, .int .i64 x, .slice (some ⟨M2, 0, none⟩) 2 2]) (by simp [results, Try.results37, go_sem, z0, z1, z2]) rfl ?_
          exact au_end HF.out.1 HF.out.2.mat (by simp) (by rw [sz_two]; (first | (have := HXL.out; have := HZL.out; omega) | omega)) (by omega)
        have b1 : (m7 == 1) = false := by simpa using c1
        clear c1
        by_cases c2 : m7 = 2
        · subst c2
          clear b0 b1
          have hwz : (w7.alloc (.cells #[] 39)).heap.size = (w7.alloc (.cells #[] 39)).heap.size := rfl
          have HE : Hid (AS w r (P + 74 + q + 1) A p ((u : Int) + 1) (.slice (some ⟨M2, 0, none⟩) 2 2) (w7.alloc (.cells #[] 39)) ∧ True) := ⟨HE.out.1.grown (grown_alloc w7 (.cells #[] 39) none), trivial⟩
          obtain ⟨q0, q1, q2⟩ := three3 HE.out.1.a
          obtain ⟨z0, z1, z2⟩ := three3 HE.out.1.z
          have f0 := frozen_of_row (w7.alloc (.cells #[] 39)) _ 0 _ _ HE.out.1.a
          have f1 := frozen_of_row (w7.alloc (.cells #[] 39)) _ 1 _ _ HE.out.1.a
          have f2 := frozen_of_row (w7.alloc (.cells #[] 39)) _ 2 _ _ HE.out.1.a
          have y0 := frozen_of_row (w7.alloc (.cells #[] 39)) _ 0 _ _ HE.out.1.z
          have y1 := frozen_of_row (w7.alloc (.cells #[] 39)) _ 1 _ _ HE.out.1.z
          have y2 := frozen_of_row (w7.alloc (.cells #[] 39)) _ 2 _ _ HE.out.1.z
          have HF := Lib.hid (HE.out.1.set2 (.slice (some ⟨w7.heap.size, 0, none⟩) 0 0))
          clear HE
          go_wp2
          refine bodyPost_ret (v := .agg #[.int .i64 p, .int .i64 ((u : Int) + 1), .slice (some ⟨w7.heap.size, 0, none⟩) 0 0]) (by simp [results, Try.results37, go_sem, z0, z1, z2]) rfl ?_
          exact au_end HF.out (matB_nil _ _ _) (by omega) (by decide) (by omega)
        have b2 : (m7 == 2) = false := by simpa using c2
        clear c2
        by_cases c3 : m7 = 3
        · subst c3
          clear b0 b1 b2
          have hn0 : a4 = none → c4 = 0 := by obtain ⟨aa, cc, e, h1, h2, h3, h4⟩ := HO7.out.reads; injection e with e1 _ e3; subst e1; subst e3; exact h2
          have hsp := fun W (hgW : w7.grownBy W none) => spoil_c xs 40000 a4 q c4 r (P + 74 + q + 1) W (HO7.out.toInts.grown hgW) hn0 (by omega) (HE.out.1.rd.kept hgW (by simp)) (by omega)
          obtain ⟨q0, q1, q2⟩ := three3 HE.out.1.a
          obtain ⟨z0, z1, z2⟩ := three3 HE.out.1.z
          have f0 := frozen_of_row w7 _ 0 _ _ HE.out.1.a
          have f1 := frozen_of_row w7 _ 1 _ _ HE.out.1.a
          have f2 := frozen_of_row w7 _ 2 _ _ HE.out.1.a
          have y0 := frozen_of_row w7 _ 0 _ _ HE.out.1.z
          have y1 := frozen_of_row w7 _ 1 _ _ HE.out.1.z
          have y2 := frozen_of_row w7 _ 2 _ _ HE.out.1.z
          have m0 : w7.cell? ⟨M2, 0, none⟩ = some (.slice a4 q c4) := by rw [cell_of_row w7 M2 0 _ _ _ HE.out.2.h]; rfl
          have fm0 := frozen_of_row w7 M2 0 _ _ HE.out.2.h
          clear hn0
          go_wp2_with fail
          go_region_law (go_simp; go_at_call 66; refine (hsp _ (grown_drew _ _)).mono ?_; rintro e w8 ⟨a8, n8, c8, ss, rfl, hn8, hlc8, hcm8, hnn8, hx8, hb8, hR8, hg8⟩; have hg8' := grown_trans (grown_drew w7 (some r)) hg8; have HE8 : Hid (AS w r (P + 74 + q + 1 + 3) A p ((u : Int) + 1) (.slice (some ⟨M2, 0, none⟩) 2 2) w8 ∧ Rows w8 (A + 1) M2 [.slice a4 q c4, .slice a6 q c6] [xs, zs]) := Lib.hid ⟨HE.out.1.next hg8' hR8, HE.out.2.kept hg8' (fun g e => by injection e with e; omega)⟩; have q2b := hg8'.cell q2 (by simp; omega); have m8 := hg8'.cell m0 (by simp; omega); have fm8 := frozen_of_row w8 M2 0 _ _ HE8.out.2.h; have HX8 := Lib.hid (And.intro hx8 (And.intro hlc8 (And.intro hnn8 hb8))); have HSZ8 := Lib.hid hg8'.size; clear hR8 hg8 hg8' hx8 hlc8 hnn8 hb8)
          all_goals
            go_simp
            clear q0 q1 q2 z0 z1 z2 f0 f1 f2 y0 y1 y2 m0 fm0 q2b
            obtain ⟨q0, q1, q2⟩ := three3 (HE8.out.1.row (grown_setCell w8 ⟨M2, 0, none⟩ (.slice a8 n8 c8)) (by show A < M2; omega)).a
            obtain ⟨z0, z1, z2⟩ := three3 (HE8.out.1.row (grown_setCell w8 ⟨M2, 0, none⟩ (.slice a8 n8 c8)) (by show A < M2; omega)).z
            have y0 := frozen_of_row (w8.setCell ⟨M2, 0, none⟩ (.slice a8 n8 c8)) _ 0 _ _ (HE8.out.1.row (grown_setCell w8 ⟨M2, 0, none⟩ (.slice a8 n8 c8)) (by show A < M2; omega)).z
            have y1 := frozen_of_row (w8.setCell ⟨M2, 0, none⟩ (.slice a8 n8 c8)) _ 1 _ _ (HE8.out.1.row (grown_setCell w8 ⟨M2, 0, none⟩ (.slice a8 n8 c8)) (by show A < M2; omega)).z
            have y2 := frozen_of_row (w8.setCell ⟨M2, 0, none⟩ (.slice a8 n8 c8)) _ 2 _ _ (HE8.out.1.row (grown_setCell w8 ⟨M2, 0, none⟩ (.slice a8 n8 c8)) (by show A < M2; omega)).z
            have hM7 := block_lt HE.out.2.h
            have hzl := HX8.out.1.1
            have hne8 : (Value.slice a8 n8 c8).ownBlock ≠ some M2 := by
              intro e
              cases a8 with
              | none => simp [Value.ownBlock] at e
              | some ad =>
                have := (HX8.out.2.2.2 ad rfl).1
                simp [Value.ownBlock] at e
                have := HSZ8.out
                simp at *
                omega
            have HF : Hid (AS w r (P + 74 + q + 1 + 3) A p ((u : Int) + 1) (.slice (some ⟨M2, 0, none⟩) 2 2) (w8.setCell ⟨M2, 0, none⟩ (.slice a8 n8 c8)) ∧ Rows (w8.setCell ⟨M2, 0, none⟩ (.slice a8 n8 c8)) (A + 1) M2 ([.slice a4 q c4, .slice a6 q c6].set 0 (.slice a8 n8 c8)) ([xs, zs].set 0 ss)) :=
              ⟨HE8.out.1.row (grown_setCell _ _ _) (by show A < M2; omega), HE8.out.2.first (by simp) (rowB_of HX8.out.1 HX8.out.2.1 hcm8 HX8.out.2.2.1 (fun x hx => ⟨by have := (HX8.out.2.2.2 x hx).1; simp at this; omega, (HX8.out.2.2.2 x hx).2⟩)) hne8 rfl⟩
            go_wp2
            refine bodyPost_ret (v := .agg #[.int .i64 p, .int .i64 ((u : Int) + 1), .slice (some ⟨M2, 0, none⟩) 2 2]) (by simp [results, Try.results37, go_sem, z0, z1, z2]) rfl ?_
            exact au_end HF.out.1 HF.out.2.mat (by simp) (by simp only [List.set_cons_zero]; rw [sz_two]; (first | (have := HXL.out; have := HZL.out; omega) | omega)) (by omega)
        have b3 : (m7 == 3) = false := by simpa using c3
        clear c3
        by_cases c4 : m7 = 4
        · subst c4
          clear b0 b1 b2 b3
          go_wp2_with fail
          refine (pick_any 2 r (P + 74 + q + 1) _ HE.out.1.rd (by omega) (by omega)).mono ?_
          rintro e w8 ⟨x, rfl, hx0, hx1, _, hR8, hg8⟩
          have hx2 : x < 2 := hx1 (by omega)
          have HE : Hid (AS w r (P + 74 + q + 2) A p ((u : Int) + 1) (.slice (some ⟨M2, 0, none⟩) 2 2) w8 ∧ True) := ⟨HE.out.1.next hg8 hR8, trivial⟩
          have hA8 : A < w8.heap.size := block_lt HE.out.1.a
          clear hR8 hg8 hx1
          obtain ⟨i0, hi, hz0, hz1, hz2⟩ := info_parts info_int
          have hxx : x = 0 ∨ x = 1 := by omega
          rcases hxx with rfl | rfl
          · go_wp2_with (at_make; refine wpList_make_full _ rfl _ _ 39 rfl w8.heap.size 3 i0 (.int .i64 0) 1 Try.underlying39 hi hz0 hz1 .i64 .i64 _ _ 256 rfl rfl rfl rfl ?b1 ?b2 ?b3 ?_)
            case b1 => rw [hz2]; omega
            case b2 => unfold maxLen; omega
            case b3 => exact Nat.le_refl _
            intro w9 hown hgrow
            have HO9 : Hid (Owns w9 w8.heap.size (.slice (some ⟨w8.heap.size, 0, none⟩) 256 256) 256 (List.replicate 256 0)) := made_zero hown
            have HE : Hid (AS w r (P + 74 + q + 2) A p ((u : Int) + 1) (.slice (some ⟨M2, 0, none⟩) 2 2) (w9.alloc (.cells #[.slice (some ⟨w8.heap.size, 0, none⟩) 256 256] 39)) ∧ Rows (w9.alloc (.cells #[.slice (some ⟨w8.heap.size, 0, none⟩) 256 256] 39)) (A + 1) w9.heap.size [.slice (some ⟨w8.heap.size, 0, none⟩) 256 256] [List.replicate 256 0]) := by
              refine ⟨(HE.out.1.grown hgrow).grown (grown_alloc _ _ _), rows_one (heap_alloc_new _ _) (by have := hgrow.size; omega) ((HO9.out.base_le (by omega)).grown (grown_alloc _ _ _)).rowB (own_ne HO9.out (Nat.le_refl _))⟩
            have hs9 := hgrow.size
            clear hown hgrow
            obtain ⟨q0, q1, q2⟩ := three3 HE.out.1.a
            obtain ⟨z0, z1, z2⟩ := three3 HE.out.1.z
            have f0 := frozen_of_row (w9.alloc (.cells #[.slice (some ⟨w8.heap.size, 0, none⟩) 256 256] 39)) _ 0 _ _ HE.out.1.a
            have f1 := frozen_of_row (w9.alloc (.cells #[.slice (some ⟨w8.heap.size, 0, none⟩) 256 256] 39)) _ 1 _ _ HE.out.1.a
            have f2 := frozen_of_row (w9.alloc (.cells #[.slice (some ⟨w8.heap.size, 0, none⟩) 256 256] 39)) _ 2 _ _ HE.out.1.a
            have y0 := frozen_of_row (w9.alloc (.cells #[.slice (some ⟨w8.heap.size, 0, none⟩) 256 256] 39)) _ 0 _ _ HE.out.1.z
            have y1 := frozen_of_row (w9.alloc (.cells #[.slice (some ⟨w8.heap.size, 0, none⟩) 256 256] 39)) _ 1 _ _ HE.out.1.z
            have y2 := frozen_of_row (w9.alloc (.cells #[.slice (some ⟨w8.heap.size, 0, none⟩) 256 256] 39)) _ 2 _ _ HE.out.1.z
            have HF : Hid (AS w r (P + 74 + q + 2) A p ((u : Int) + 1) (.slice (some ⟨w9.heap.size, 0, none⟩) 1 1) ((w9.alloc (.cells #[.slice (some ⟨w8.heap.size, 0, none⟩) 256 256] 39)).setCell ⟨A, 2, none⟩ (.slice (some ⟨w9.heap.size, 0, none⟩) 1 1)) ∧ Rows ((w9.alloc (.cells #[.slice (some ⟨w8.heap.size, 0, none⟩) 256 256] 39)).setCell ⟨A, 2, none⟩ (.slice (some ⟨w9.heap.size, 0, none⟩) 1 1)) (A + 1) w9.heap.size [.slice (some ⟨w8.heap.size, 0, none⟩) 256 256] [List.replicate 256 0]) := ⟨HE.out.1.set2 _, HE.out.2.kept (grown_setCell _ _ _) (fun g e => by injection e with e; simp at e; omega)⟩
            clear HE
            go_wp2
            refine bodyPost_ret (v := .agg #[.int .i64 p, .int .i64 ((u : Int) + 1), .slice (some ⟨w9.heap.size, 0, none⟩) 1 1]) (by simp [results, Try.results37, go_sem, z0, z1, z2]) rfl ?_
            exact au_end HF.out.1 HF.out.2.mat (by simp) (by rw [sz_one]; simp) (by omega)
          · go_wp2_with (at_make; refine wpList_make_full _ rfl _ _ 39 rfl w8.heap.size 3 i0 (.int .i64 0) 1 Try.underlying39 hi hz0 hz1 .i64 .i64 _ _ 257 rfl rfl rfl rfl ?b1 ?b2 ?b3 ?_)
            case b1 => rw [hz2]; omega
            case b2 => unfold maxLen; omega
            case b3 => exact Nat.le_refl _
            intro w9 hown hgrow
            have HO9 : Hid (Owns w9 w8.heap.size (.slice (some ⟨w8.heap.size, 0, none⟩) 257 257) 257 (List.replicate 257 0)) := made_zero hown
            have HE : Hid (AS w r (P + 74 + q + 2) A p ((u : Int) + 1) (.slice (some ⟨M2, 0, none⟩) 2 2) (w9.alloc (.cells #[.slice (some ⟨w8.heap.size, 0, none⟩) 257 257] 39)) ∧ Rows (w9.alloc (.cells #[.slice (some ⟨w8.heap.size, 0, none⟩) 257 257] 39)) (A + 1) w9.heap.size [.slice (some ⟨w8.heap.size, 0, none⟩) 257 257] [List.replicate 257 0]) := by
              refine ⟨(HE.out.1.grown hgrow).grown (grown_alloc _ _ _), rows_one (heap_alloc_new _ _) (by have := hgrow.size; omega) ((HO9.out.base_le (by omega)).grown (grown_alloc _ _ _)).rowB (own_ne HO9.out (Nat.le_refl _))⟩
            have hs9 := hgrow.size
            clear hown hgrow
            obtain ⟨q0, q1, q2⟩ := three3 HE.out.1.a
            obtain ⟨z0, z1, z2⟩ := three3 HE.out.1.z
            have f0 := frozen_of_row (w9.alloc (.cells #[.slice (some ⟨w8.heap.size, 0, none⟩) 257 257] 39)) _ 0 _ _ HE.out.1.a
            have f1 := frozen_of_row (w9.alloc (.cells #[.slice (some ⟨w8.heap.size, 0, none⟩) 257 257] 39)) _ 1 _ _ HE.out.1.a
            have f2 := frozen_of_row (w9.alloc (.cells #[.slice (some ⟨w8.heap.size, 0, none⟩) 257 257] 39)) _ 2 _ _ HE.out.1.a
            have y0 := frozen_of_row (w9.alloc (.cells #[.slice (some ⟨w8.heap.size, 0, none⟩) 257 257] 39)) _ 0 _ _ HE.out.1.z
            have y1 := frozen_of_row (w9.alloc (.cells #[.slice (some ⟨w8.heap.size, 0, none⟩) 257 257] 39)) _ 1 _ _ HE.out.1.z
            have y2 := frozen_of_row (w9.alloc (.cells #[.slice (some ⟨w8.heap.size, 0, none⟩) 257 257] 39)) _ 2 _ _ HE.out.1.z
            have HF : Hid (AS w r (P + 74 + q + 2) A p ((u : Int) + 1) (.slice (some ⟨w9.heap.size, 0, none⟩) 1 1) ((w9.alloc (.cells #[.slice (some ⟨w8.heap.size, 0, none⟩) 257 257] 39)).setCell ⟨A, 2, none⟩ (.slice (some ⟨w9.heap.size, 0, none⟩) 1 1)) ∧ Rows ((w9.alloc (.cells #[.slice (some ⟨w8.heap.size, 0, none⟩) 257 257] 39)).setCell ⟨A, 2, none⟩ (.slice (some ⟨w9.heap.size, 0, none⟩) 1 1)) (A + 1) w9.heap.size [.slice (some ⟨w8.heap.size, 0, none⟩) 257 257] [List.replicate 257 0]) := ⟨HE.out.1.set2 _, HE.out.2.kept (grown_setCell _ _ _) (fun g e => by injection e with e; simp at e; omega)⟩
            clear HE
            go_wp2
            refine bodyPost_ret (v := .agg #[.int .i64 p, .int .i64 ((u : Int) + 1), .slice (some ⟨w9.heap.size, 0, none⟩) 1 1]) (by simp [results, Try.results37, go_sem, z0, z1, z2]) rfl ?_
            exact au_end HF.out.1 HF.out.2.mat (by simp) (by rw [sz_one]; simp) (by omega)
        have b4 : (m7 == 4) = false := by simpa using c4
        clear c4
        obtain ⟨q0, q1, q2⟩ := three3 HE.out.1.a
        obtain ⟨z0, z1, z2⟩ := three3 HE.out.1.z
        have f0 := frozen_of_row w7 _ 0 _ _ HE.out.1.a
        have f1 := frozen_of_row w7 _ 1 _ _ HE.out.1.a
        have f2 := frozen_of_row w7 _ 2 _ _ HE.out.1.a
        have y0 := frozen_of_row w7 _ 0 _ _ HE.out.1.z
        have y1 := frozen_of_row w7 _ 1 _ _ HE.out.1.z
        have y2 := frozen_of_row w7 _ 2 _ _ HE.out.1.z
        have HF := HE
        clear HE
        go_wp2
        refine bodyPost_ret (v := .agg #[.int .i64 p, .int .i64 ((u : Int) + 1), .slice (some ⟨M2, 0, none⟩) 2 2]) (by simp [results, Try.results37, go_sem, z0, z1, z2]) rfl ?_
        exact au_end HF.out.1 HF.out.2.mat (by simp) (by rw [sz_two]; (first | (have := HXL.out; have := HZL.out; omega) | omega)) (by omega)
  · have hmb : (m5 == 0) = false := by simpa using hm
    clear hm
    go_wp2_with fail
    refine (pick_any 30 r (P + 74) _ HM6.out.1.rd (by omega) (by omega)).mono ?_
    rintro e w7 ⟨m7, rfl, hs0, hs1, _, hR7, hg7⟩
    have HE : Hid (AS w r (P + 74 + 1) A p ((u : Int) + 1) (.slice (some ⟨M, 0, none⟩) 1 1) w7 ∧ Rows w7 (A + 1) M [.slice a4 n c4] [xs]) := ⟨HM6.out.1.next hg7 hR7, HM6.out.2.kept hg7 (fun g e => by injection e with e; omega)⟩
    have HO7 : Hid (Owns w7 (A + 1) (.slice a4 n c4) n xs) := own_read HO6.out hg7 (by omega)
    clear HM6 hR7 hg7 hs1
    by_cases c0 : m7 = 0
    · subst c0
      go_wp2_with fail
      refine (one_at [0, 1000000] _ r (P + 74 + 1) _ _ w7 rfl HE.out.1.rd (by omega) (by decide) (by decide)).mono ?_
      rintro e w8 ⟨x, hx, rfl, hR8, hg8⟩
      have HE : Hid (AS w r (P + 74 + 2) A p ((u : Int) + 1) (.slice (some ⟨M, 0, none⟩) 1 1) w8 ∧ Rows w8 (A + 1) M [.slice a4 n c4] [xs]) := ⟨HE.out.1.next hg8 hR8, HE.out.2.kept hg8 (fun g e => by injection e with e; omega)⟩
      clear hR8 hg8 hx
      obtain ⟨q0, q1, q2⟩ := three3 HE.out.1.a
      obtain ⟨z0, z1, z2⟩ := three3 HE.out.1.z
      have f0 := frozen_of_row w8 _ 0 _ _ HE.out.1.a
      have f1 := frozen_of_row w8 _ 1 _ _ HE.out.1.a
      have f2 := frozen_of_row w8 _ 2 _ _ HE.out.1.a
      have y0 := frozen_of_row w8 _ 0 _ _ HE.out.1.z
      have y1 := frozen_of_row w8 _ 1 _ _ HE.out.1.z
      have y2 := frozen_of_row w8 _ 2 _ _ HE.out.1.z
      have HF : Hid (AS w r (P + 74 + 2) A x ((u : Int) + 1) (.slice (some ⟨M, 0, none⟩) 1 1) (w8.setCell ⟨A, 0, none⟩ (.int .i64 x)) ∧ Rows (w8.setCell ⟨A, 0, none⟩ (.int .i64 x)) (A + 1) M [.slice a4 n c4] [xs]) := ⟨HE.out.1.set0 x, HE.out.2.kept (grown_setCell _ _ _) (fun g e => by injection e with e; simp at e; omega)⟩
      clear HE
      go_wp2
      refine bodyPost_ret (v := .agg #[.int .i64 x, .int .i64 ((u : Int) + 1), .slice (some ⟨M, 0, none⟩) 1 1]) (by simp [results, Try.results37, go_sem, z0, z1, z2]) rfl ?_
      exact au_end HF.out.1 HF.out.2.mat (by simp) (by rw [sz_one]; (first | (have := HXL.out; omega) | omega)) (by omega)
    have b0 : (m7 == 0) = false := by simpa using c0
    clear c0
    by_cases c1 : m7 = 1
    · subst c1
      clear b0
      go_wp2_with fail
      refine (one_at [3, 17] _ r (P + 74 + 1) _ _ w7 rfl HE.out.1.rd (by omega) (by decide) (by decide)).mono ?_
      rintro e w8 ⟨x, hx, rfl, hR8, hg8⟩
      have HE : Hid (AS w r (P + 74 + 2) A p ((u : Int) + 1) (.slice (some ⟨M, 0, none⟩) 1 1) w8 ∧ Rows w8 (A + 1) M [.slice a4 n c4] [xs]) := ⟨HE.out.1.next hg8 hR8, HE.out.2.kept hg8 (fun g e => by injection e with e; omega)⟩
      clear hR8 hg8 hx
      obtain ⟨q0, q1, q2⟩ := three3 HE.out.1.a
      obtain ⟨z0, z1, z2⟩ := three3 HE.out.1.z
      have f0 := frozen_of_row w8 _ 0 _ _ HE.out.1.a
      have f1 := frozen_of_row w8 _ 1 _ _ HE.out.1.a
      have f2 := frozen_of_row w8 _ 2 _ _ HE.out.1.a
      have y0 := frozen_of_row w8 _ 0 _ _ HE.out.1.z
      have y1 := frozen_of_row w8 _ 1 _ _ HE.out.1.z
      have y2 := frozen_of_row w8 _ 2 _ _ HE.out.1.z
      have HF : Hid (AS w r (P + 74 + 2) A p x (.slice (some ⟨M, 0, none⟩) 1 1) (w8.setCell ⟨A, 1, none⟩ (.int .i64 x)) ∧ Rows (w8.setCell ⟨A, 1, none⟩ (.int .i64 x)) (A + 1) M [.slice a4 n c4] [xs]) := ⟨HE.out.1.set1 x, HE.out.2.kept (grown_setCell _ _ _) (fun g e => by injection e with e; simp at e; omega)⟩
      clear HE
      go_wp2
      refine bodyPost_ret (v := .agg #[.int .i64 p, .int .i64 x, .slice (some ⟨M, 0, none⟩) 1 1]) (by simp [results, Try.results37, go_sem, z0, z1, z2]) rfl ?_
      exact au_end HF.out.1 HF.out.2.mat (by simp) (by rw [sz_one]; (first | (have := HXL.out; omega) | omega)) (by omega)
    have b1 : (m7 == 1) = false := by simpa using c1
    clear c1
    by_cases c2 : m7 = 2
    · subst c2
      clear b0 b1
      have hwz : (w7.alloc (.cells #[] 39)).heap.size = (w7.alloc (.cells #[] 39)).heap.size := rfl
      have HE : Hid (AS w r (P + 74 + 1) A p ((u : Int) + 1) (.slice (some ⟨M, 0, none⟩) 1 1) (w7.alloc (.cells #[] 39)) ∧ True) := ⟨HE.out.1.grown (grown_alloc w7 (.cells #[] 39) none), trivial⟩
      obtain ⟨q0, q1, q2⟩ := three3 HE.out.1.a
      obtain ⟨z0, z1, z2⟩ := three3 HE.out.1.z
      have f0 := frozen_of_row (w7.alloc (.cells #[] 39)) _ 0 _ _ HE.out.1.a
      have f1 := frozen_of_row (w7.alloc (.cells #[] 39)) _ 1 _ _ HE.out.1.a
      have f2 := frozen_of_row (w7.alloc (.cells #[] 39)) _ 2 _ _ HE.out.1.a
      have y0 := frozen_of_row (w7.alloc (.cells #[] 39)) _ 0 _ _ HE.out.1.z
      have y1 := frozen_of_row (w7.alloc (.cells #[] 39)) _ 1 _ _ HE.out.1.z
      have y2 := frozen_of_row (w7.alloc (.cells #[] 39)) _ 2 _ _ HE.out.1.z
      have HF := Lib.hid (HE.out.1.set2 (.slice (some ⟨w7.heap.size, 0, none⟩) 0 0))
      clear HE
      go_wp2
      refine bodyPost_ret (v := .agg #[.int .i64 p, .int .i64 ((u : Int) + 1), .slice (some ⟨w7.heap.size, 0, none⟩) 0 0]) (by simp [results, Try.results37, go_sem, z0, z1, z2]) rfl ?_
      exact au_end HF.out (matB_nil _ _ _) (by omega) (by decide) (by omega)
    have b2 : (m7 == 2) = false := by simpa using c2
    clear c2
    by_cases c3 : m7 = 3
    · subst c3
      clear b0 b1 b2
      have hn0 : a4 = none → c4 = 0 := by obtain ⟨aa, cc, e, h1, h2, h3, h4⟩ := HO7.out.reads; injection e with e1 _ e3; subst e1; subst e3; exact h2
      have hsp := fun W (hgW : w7.grownBy W none) => spoil_c xs 40000 a4 n c4 r (P + 74 + 1) W (HO7.out.toInts.grown hgW) hn0 (by omega) (HE.out.1.rd.kept hgW (by simp)) (by omega)
      obtain ⟨q0, q1, q2⟩ := three3 HE.out.1.a
      obtain ⟨z0, z1, z2⟩ := three3 HE.out.1.z
      have f0 := frozen_of_row w7 _ 0 _ _ HE.out.1.a
      have f1 := frozen_of_row w7 _ 1 _ _ HE.out.1.a
      have f2 := frozen_of_row w7 _ 2 _ _ HE.out.1.a
      have y0 := frozen_of_row w7 _ 0 _ _ HE.out.1.z
      have y1 := frozen_of_row w7 _ 1 _ _ HE.out.1.z
      have y2 := frozen_of_row w7 _ 2 _ _ HE.out.1.z
      have m0 : w7.cell? ⟨M, 0, none⟩ = some (.slice a4 n c4) := by rw [cell_of_row w7 M 0 _ _ _ HE.out.2.h]; rfl
      have fm0 := frozen_of_row w7 M 0 _ _ HE.out.2.h
      clear hn0
      go_wp2_with fail
      go_region_law (go_simp; go_at_call 66; refine (hsp _ (grown_drew _ _)).mono ?_; rintro e w8 ⟨a8, n8, c8, ss, rfl, hn8, hlc8, hcm8, hnn8, hx8, hb8, hR8, hg8⟩; have hg8' := grown_trans (grown_drew w7 (some r)) hg8; have HE8 : Hid (AS w r (P + 74 + 1 + 3) A p ((u : Int) + 1) (.slice (some ⟨M, 0, none⟩) 1 1) w8 ∧ Rows w8 (A + 1) M [.slice a4 n c4] [xs]) := Lib.hid ⟨HE.out.1.next hg8' hR8, HE.out.2.kept hg8' (fun g e => by injection e with e; omega)⟩; have q2b := hg8'.cell q2 (by simp; omega); have m8 := hg8'.cell m0 (by simp; omega); have fm8 := frozen_of_row w8 M 0 _ _ HE8.out.2.h; have HX8 := Lib.hid (And.intro hx8 (And.intro hlc8 (And.intro hnn8 hb8))); have HSZ8 := Lib.hid hg8'.size; clear hR8 hg8 hg8' hx8 hlc8 hnn8 hb8)
      all_goals
        go_simp
        clear q0 q1 q2 z0 z1 z2 f0 f1 f2 y0 y1 y2 m0 fm0 q2b
        obtain ⟨q0, q1, q2⟩ := three3 (HE8.out.1.row (grown_setCell w8 ⟨M, 0, none⟩ (.slice a8 n8 c8)) (by show A < M; omega)).a
        obtain ⟨z0, z1, z2⟩ := three3 (HE8.out.1.row (grown_setCell w8 ⟨M, 0, none⟩ (.slice a8 n8 c8)) (by show A < M; omega)).z
        have y0 := frozen_of_row (w8.setCell ⟨M, 0, none⟩ (.slice a8 n8 c8)) _ 0 _ _ (HE8.out.1.row (grown_setCell w8 ⟨M, 0, none⟩ (.slice a8 n8 c8)) (by show A < M; omega)).z
        have y1 := frozen_of_row (w8.setCell ⟨M, 0, none⟩ (.slice a8 n8 c8)) _ 1 _ _ (HE8.out.1.row (grown_setCell w8 ⟨M, 0, none⟩ (.slice a8 n8 c8)) (by show A < M; omega)).z
        have y2 := frozen_of_row (w8.setCell ⟨M, 0, none⟩ (.slice a8 n8 c8)) _ 2 _ _ (HE8.out.1.row (grown_setCell w8 ⟨M, 0, none⟩ (.slice a8 n8 c8)) (by show A < M; omega)).z
        have hM7 := block_lt HE.out.2.h
        have hzl := HX8.out.1.1
        have hne8 : (Value.slice a8 n8 c8).ownBlock ≠ some M := by
          intro e
          cases a8 with
          | none => simp [Value.ownBlock] at e
          | some ad =>
            have := (HX8.out.2.2.2 ad rfl).1
            simp [Value.ownBlock] at e
            have := HSZ8.out
            simp at *
            omega
        have HF : Hid (AS w r (P + 74 + 1 + 3) A p ((u : Int) + 1) (.slice (some ⟨M, 0, none⟩) 1 1) (w8.setCell ⟨M, 0, none⟩ (.slice a8 n8 c8)) ∧ Rows (w8.setCell ⟨M, 0, none⟩ (.slice a8 n8 c8)) (A + 1) M ([.slice a4 n c4].set 0 (.slice a8 n8 c8)) ([xs].set 0 ss)) :=
          ⟨HE8.out.1.row (grown_setCell _ _ _) (by show A < M; omega), HE8.out.2.first (by simp) (rowB_of HX8.out.1 HX8.out.2.1 hcm8 HX8.out.2.2.1 (fun x hx => ⟨by have := (HX8.out.2.2.2 x hx).1; simp at this; omega, (HX8.out.2.2.2 x hx).2⟩)) hne8 rfl⟩
        go_wp2
        refine bodyPost_ret (v := .agg #[.int .i64 p, .int .i64 ((u : Int) + 1), .slice (some ⟨M, 0, none⟩) 1 1]) (by simp [results, Try.results37, go_sem, z0, z1, z2]) rfl ?_
        exact au_end HF.out.1 HF.out.2.mat (by simp) (by simp only [List.set_cons_zero]; rw [sz_one]; (first | (have := HXL.out; omega) | omega)) (by omega)
    have b3 : (m7 == 3) = false := by simpa using c3
    clear c3
    by_cases c4 : m7 = 4
    · subst c4
      clear b0 b1 b2 b3
      go_wp2_with fail
      refine (pick_any 2 r (P + 74 + 1) _ HE.out.1.rd (by omega) (by omega)).mono ?_
      rintro e w8 ⟨x, rfl, hx0, hx1, _, hR8, hg8⟩
      have hx2 : x < 2 := hx1 (by omega)
      have HE : Hid (AS w r (P + 74 + 2) A p ((u : Int) + 1) (.slice (some ⟨M, 0, none⟩) 1 1) w8 ∧ True) := ⟨HE.out.1.next hg8 hR8, trivial⟩
      have hA8 : A < w8.heap.size := block_lt HE.out.1.a
      clear hR8 hg8 hx1
      obtain ⟨i0, hi, hz0, hz1, hz2⟩ := info_parts info_int
      have hxx : x = 0 ∨ x = 1 := by omega
      rcases hxx with rfl | rfl
      · go_wp2_with (at_make; refine wpList_make_full _ rfl _ _ 39 rfl w8.heap.size 3 i0 (.int .i64 0) 1 Try.underlying39 hi hz0 hz1 .i64 .i64 _ _ 256 rfl rfl rfl rfl ?b1 ?b2 ?b3 ?_)
        case b1 => rw [hz2]; omega
        case b2 => unfold maxLen; omega
        case b3 => exact Nat.le_refl _
        intro w9 hown hgrow
        have HO9 : Hid (Owns w9 w8.heap.size (.slice (some ⟨w8.heap.size, 0, none⟩) 256 256) 256 (List.replicate 256 0)) := made_zero hown
        have HE : Hid (AS w r (P + 74 + 2) A p ((u : Int) + 1) (.slice (some ⟨M, 0, none⟩) 1 1) (w9.alloc (.cells #[.slice (some ⟨w8.heap.size, 0, none⟩) 256 256] 39)) ∧ Rows (w9.alloc (.cells #[.slice (some ⟨w8.heap.size, 0, none⟩) 256 256] 39)) (A + 1) w9.heap.size [.slice (some ⟨w8.heap.size, 0, none⟩) 256 256] [List.replicate 256 0]) := by
          refine ⟨(HE.out.1.grown hgrow).grown (grown_alloc _ _ _), rows_one (heap_alloc_new _ _) (by have := hgrow.size; omega) ((HO9.out.base_le (by omega)).grown (grown_alloc _ _ _)).rowB (own_ne HO9.out (Nat.le_refl _))⟩
        have hs9 := hgrow.size
        clear hown hgrow
        obtain ⟨q0, q1, q2⟩ := three3 HE.out.1.a
        obtain ⟨z0, z1, z2⟩ := three3 HE.out.1.z
        have f0 := frozen_of_row (w9.alloc (.cells #[.slice (some ⟨w8.heap.size, 0, none⟩) 256 256] 39)) _ 0 _ _ HE.out.1.a
        have f1 := frozen_of_row (w9.alloc (.cells #[.slice (some ⟨w8.heap.size, 0, none⟩) 256 256] 39)) _ 1 _ _ HE.out.1.a
        have f2 := frozen_of_row (w9.alloc (.cells #[.slice (some ⟨w8.heap.size, 0, none⟩) 256 256] 39)) _ 2 _ _ HE.out.1.a
        have y0 := frozen_of_row (w9.alloc (.cells #[.slice (some ⟨w8.heap.size, 0, none⟩) 256 256] 39)) _ 0 _ _ HE.out.1.z
        have y1 := frozen_of_row (w9.alloc (.cells #[.slice (some ⟨w8.heap.size, 0, none⟩) 256 256] 39)) _ 1 _ _ HE.out.1.z
        have y2 := frozen_of_row (w9.alloc (.cells #[.slice (some ⟨w8.heap.size, 0, none⟩) 256 256] 39)) _ 2 _ _ HE.out.1.z
        have HF : Hid (AS w r (P + 74 + 2) A p ((u : Int) + 1) (.slice (some ⟨w9.heap.size, 0, none⟩) 1 1) ((w9.alloc (.cells #[.slice (some ⟨w8.heap.size, 0, none⟩) 256 256] 39)).setCell ⟨A, 2, none⟩ (.slice (some ⟨w9.heap.size, 0, none⟩) 1 1)) ∧ Rows ((w9.alloc (.cells #[.slice (some ⟨w8.heap.size, 0, none⟩) 256 256] 39)).setCell ⟨A, 2, none⟩ (.slice (some ⟨w9.heap.size, 0, none⟩) 1 1)) (A + 1) w9.heap.size [.slice (some ⟨w8.heap.size, 0, none⟩) 256 256] [List.replicate 256 0]) := ⟨HE.out.1.set2 _, HE.out.2.kept (grown_setCell _ _ _) (fun g e => by injection e with e; simp at e; omega)⟩
        clear HE
        go_wp2
        refine bodyPost_ret (v := .agg #[.int .i64 p, .int .i64 ((u : Int) + 1), .slice (some ⟨w9.heap.size, 0, none⟩) 1 1]) (by simp [results, Try.results37, go_sem, z0, z1, z2]) rfl ?_
        exact au_end HF.out.1 HF.out.2.mat (by simp) (by rw [sz_one]; simp) (by omega)
      · go_wp2_with (at_make; refine wpList_make_full _ rfl _ _ 39 rfl w8.heap.size 3 i0 (.int .i64 0) 1 Try.underlying39 hi hz0 hz1 .i64 .i64 _ _ 257 rfl rfl rfl rfl ?b1 ?b2 ?b3 ?_)
        case b1 => rw [hz2]; omega
        case b2 => unfold maxLen; omega
        case b3 => exact Nat.le_refl _
        intro w9 hown hgrow
        have HO9 : Hid (Owns w9 w8.heap.size (.slice (some ⟨w8.heap.size, 0, none⟩) 257 257) 257 (List.replicate 257 0)) := made_zero hown
        have HE : Hid (AS w r (P + 74 + 2) A p ((u : Int) + 1) (.slice (some ⟨M, 0, none⟩) 1 1) (w9.alloc (.cells #[.slice (some ⟨w8.heap.size, 0, none⟩) 257 257] 39)) ∧ Rows (w9.alloc (.cells #[.slice (some ⟨w8.heap.size, 0, none⟩) 257 257] 39)) (A + 1) w9.heap.size [.slice (some ⟨w8.heap.size, 0, none⟩) 257 257] [List.replicate 257 0]) := by
          refine ⟨(HE.out.1.grown hgrow).grown (grown_alloc _ _ _), rows_one (heap_alloc_new _ _) (by have := hgrow.size; omega) ((HO9.out.base_le (by omega)).grown (grown_alloc _ _ _)).rowB (own_ne HO9.out (Nat.le_refl _))⟩
        have hs9 := hgrow.size
        clear hown hgrow
        obtain ⟨q0, q1, q2⟩ := three3 HE.out.1.a
        obtain ⟨z0, z1, z2⟩ := three3 HE.out.1.z
        have f0 := frozen_of_row (w9.alloc (.cells #[.slice (some ⟨w8.heap.size, 0, none⟩) 257 257] 39)) _ 0 _ _ HE.out.1.a
        have f1 := frozen_of_row (w9.alloc (.cells #[.slice (some ⟨w8.heap.size, 0, none⟩) 257 257] 39)) _ 1 _ _ HE.out.1.a
        have f2 := frozen_of_row (w9.alloc (.cells #[.slice (some ⟨w8.heap.size, 0, none⟩) 257 257] 39)) _ 2 _ _ HE.out.1.a
        have y0 := frozen_of_row (w9.alloc (.cells #[.slice (some ⟨w8.heap.size, 0, none⟩) 257 257] 39)) _ 0 _ _ HE.out.1.z
        have y1 := frozen_of_row (w9.alloc (.cells #[.slice (some ⟨w8.heap.size, 0, none⟩) 257 257] 39)) _ 1 _ _ HE.out.1.z
        have y2 := frozen_of_row (w9.alloc (.cells #[.slice (some ⟨w8.heap.size, 0, none⟩) 257 257] 39)) _ 2 _ _ HE.out.1.z
        have HF : Hid (AS w r (P + 74 + 2) A p ((u : Int) + 1) (.slice (some ⟨w9.heap.size, 0, none⟩) 1 1) ((w9.alloc (.cells #[.slice (some ⟨w8.heap.size, 0, none⟩) 257 257] 39)).setCell ⟨A, 2, none⟩ (.slice (some ⟨w9.heap.size, 0, none⟩) 1 1)) ∧ Rows ((w9.alloc (.cells #[.slice (some ⟨w8.heap.size, 0, none⟩) 257 257] 39)).setCell ⟨A, 2, none⟩ (.slice (some ⟨w9.heap.size, 0, none⟩) 1 1)) (A + 1) w9.heap.size [.slice (some ⟨w8.heap.size, 0, none⟩) 257 257] [List.replicate 257 0]) := ⟨HE.out.1.set2 _, HE.out.2.kept (grown_setCell _ _ _) (fun g e => by injection e with e; simp at e; omega)⟩
        clear HE
        go_wp2
        refine bodyPost_ret (v := .agg #[.int .i64 p, .int .i64 ((u : Int) + 1), .slice (some ⟨w9.heap.size, 0, none⟩) 1 1]) (by simp [results, Try.results37, go_sem, z0, z1, z2]) rfl ?_
        exact au_end HF.out.1 HF.out.2.mat (by simp) (by rw [sz_one]; simp) (by omega)
    have b4 : (m7 == 4) = false := by simpa using c4
    clear c4
    obtain ⟨q0, q1, q2⟩ := three3 HE.out.1.a
    obtain ⟨z0, z1, z2⟩ := three3 HE.out.1.z
    have f0 := frozen_of_row w7 _ 0 _ _ HE.out.1.a
    have f1 := frozen_of_row w7 _ 1 _ _ HE.out.1.a
    have f2 := frozen_of_row w7 _ 2 _ _ HE.out.1.a
    have y0 := frozen_of_row w7 _ 0 _ _ HE.out.1.z
    have y1 := frozen_of_row w7 _ 1 _ _ HE.out.1.z
    have y2 := frozen_of_row w7 _ 2 _ _ HE.out.1.z
    have HF := HE
    clear HE
    go_wp2
    refine bodyPost_ret (v := .agg #[.int .i64 p, .int .i64 ((u : Int) + 1), .slice (some ⟨M, 0, none⟩) 1 1]) (by simp [results, Try.results37, go_sem, z0, z1, z2]) rfl ?_
    exact au_end HF.out.1 HF.out.2.mat (by simp) (by rw [sz_one]; (first | (have := HXL.out; omega) | omega)) (by omega)

end Go.Proofs.Ytncbgofcimghnaa
