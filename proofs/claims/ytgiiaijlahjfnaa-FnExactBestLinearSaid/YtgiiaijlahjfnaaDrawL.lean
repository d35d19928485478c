/-
  The draw of predictors: at most nine coefficients, each at most 4096 far from 0, and a shift in -1..15.
-/
import Derived.Test.YtgiiaijlahjfnaaDrawS
import Derived.Test.YtgiiaijlahjfnaaFalS
namespace Go.Proofs.Ytgiiaijlahjfnaa
open Go.RowKit

def DrewLin (r P : Nat) (w : World) (e : Ending) (w' : World) : Prop :=
  ∃ (v : Value) (n : Nat) (cs : List Int) (sh : Int), e = .returned (.agg #[v, .int .i64 sh]) ∧ n ≤ 9 ∧ Owns w' w.heap.size v n cs ∧ allB cs (-4096) 4096 = true ∧ -1 ≤ sh ∧ sh ≤ 15 ∧ Rdr w' r P ∧ w.grownBy w' (some r)

/-- Inside the draw: the result's cell, the predictor's, the coefficients. -/
structure DL (w : World) (r P Bp : Nat) (u : Value) (sh : Int) (bv : Value) (n : Nat) (cs : List Int) (wr : World) : Prop where
  res : wr.heap[w.heap.size]? = some (.cells #[.slice none 0 0, .int .i64 0] 25 (0, 0))
  now : wr.heap[Bp]? = some (.cells #[u, .int .i64 sh] 25 (0, 0))
  lt : w.heap.size < Bp
  own : Owns wr w.heap.size bv n cs
  rng : allB cs (-4096) 4096 = true
  rd : Rdr wr r P
  g : w.grownBy wr (some r)

theorem own_notL {w : World} {base n B : Nat} {v : Value} {xs : List Int} {cs : Array Value} (h : Owns w base v n xs) (hB : w.heap[B]? = some (.cells cs 25 (0, 0))) : v.ownBlock ≠ some B := by
  rcases h.2 with ⟨rfl, _⟩ | ⟨g, cap, cur, rfl, _, hh, _⟩
  · simp [Value.ownBlock]
  · intro e
    simp only [Value.ownBlock, Option.some.injEq] at e
    subst e
    rw [hh] at hB
    simp at hB
theorem rdr_notL {w : World} {r P B : Nat} {cs : Array Value} (h : Rdr w r P) (hB : w.heap[B]? = some (.cells cs 25 (0, 0))) : B ≠ r := by
  rintro rfl
  obtain ⟨ao, len, cap, p, hh, _⟩ := h
  rw [hh] at hB
  simp at hB

theorem DL.read {w wr w2 : World} {r P P2 Bp n : Nat} {u bv : Value} {sh : Int} {cs : List Int} (h : DL w r P Bp u sh bv n cs wr) (hr : r < w.heap.size) (hg : wr.grownBy w2 (some r)) (hR : Rdr w2 r P2) : DL w r P2 Bp u sh bv n cs w2 :=
  ⟨grown_heap hg h.res (fun e => by injection e with e; omega), grown_heap hg h.now (fun e => by injection e with e; have := h.lt; omega), h.lt, h.own.read hg hr, h.rng, hR, grown_trans h.g hg⟩
theorem DL.snoc {w wr w2 : World} {r P Bp n : Nat} {u bv v2 : Value} {sh z : Int} {cs : List Int} {o : Obj} (h : DL w r P Bp u sh bv n cs wr) (hr : r < w.heap.size) (hg : (wr.alloc o).grownBy w2 bv.ownBlock) (ho : Owns w2 w.heap.size v2 (n + 1) (cs ++ [z])) (h0 : -4096 ≤ z) (h1 : z ≤ 4096) : DL w r P Bp u sh v2 (n + 1) (cs ++ [z]) w2 := by
  have h1' := h.own.grown (grown_alloc wr o none)
  have e1 := own_notL h.own h.res
  have e2 := own_notL h.own h.now
  refine ⟨grown_heap hg (grown_heap (grown_alloc wr o none) h.res (by simp)) e1, grown_heap hg (grown_heap (grown_alloc wr o none) h.now (by simp)) e2, h.lt, ho, allB_snoc h.rng h0 h1, Rdr.own (h.rd.alloc o) h1' hg hr, ?_⟩
  exact grown_row (grown_trans h.g (grown_alloc _ _ _)) hg (fun g e => h.own.block g e)
/-- A store into the predictor's cells. -/
theorem DL.put {w wr w2 : World} {r P Bp n : Nat} {u u2 bv : Value} {sh sh2 : Int} {cs : List Int} (h : DL w r P Bp u sh bv n cs wr) (hr : r < w.heap.size) (hg : wr.grownBy w2 (some Bp)) (hh : w2.heap[Bp]? = some (.cells #[u2, .int .i64 sh2] 25 (0, 0))) : DL w r P Bp u2 sh2 bv n cs w2 := by
  have e2 := own_notL h.own h.now
  have hlt := h.lt
  refine ⟨grown_heap hg h.res (fun e => by injection e with e; omega), hh, h.lt, h.own.kept hg (Or.inr e2), h.rng, h.rd.kept hg (fun x e => ?_), ?_⟩
  · injection e with e
    subst e
    omega
  · exact grown_row h.g hg (fun g e => by injection e with e; omega)

theorem DL.setc {w wr : World} {r P Bp n : Nat} {u bv : Value} {sh : Int} {cs : List Int} (h : DL w r P Bp u sh bv n cs wr) (hr : r < w.heap.size) (u2 : Value) : DL w r P Bp u2 sh bv n cs (wr.setCell ⟨Bp, 0, none⟩ u2) :=
  h.put hr (grown_setCell wr _ _) (by rw [heap_setCell_same wr Bp 0 _ _ _ h.now]; rfl)
theorem DL.sets {w wr : World} {r P Bp n : Nat} {u bv : Value} {sh : Int} {cs : List Int} (h : DL w r P Bp u sh bv n cs wr) (hr : r < w.heap.size) (sh2 : Int) : DL w r P Bp u sh2 bv n cs (wr.setCell ⟨Bp, 1, none⟩ (.int .i64 sh2)) :=
  h.put hr (grown_setCell wr _ _) (by rw [heap_setCell_same wr Bp 1 _ _ _ h.now]; rfl)
theorem DL.cells {w wr : World} {r P Bp n : Nat} {u bv : Value} {sh : Int} {cs : List Int} (h : DL w r P Bp u sh bv n cs wr) :
    wr.cell? ⟨Bp, 0, none⟩ = some u ∧ wr.cell? ⟨Bp, 1, none⟩ = some (.int .i64 sh) ∧ wr.cell? ⟨w.heap.size, 0, none⟩ = some (.slice none 0 0) ∧ wr.cell? ⟨w.heap.size, 1, none⟩ = some (.int .i64 0) ∧ wr.frozen? ⟨Bp, 0, none⟩ = false ∧ wr.frozen? ⟨Bp, 1, none⟩ = false ∧ wr.frozen? ⟨w.heap.size, 0, none⟩ = false ∧ wr.frozen? ⟨w.heap.size, 1, none⟩ = false :=
  ⟨(two_cells h.now).1, (two_cells h.now).2, (two_cells h.res).1, (two_cells h.res).2, frozen_of_row wr _ 0 _ _ h.now, frozen_of_row wr _ 1 _ _ h.now, frozen_of_row wr _ 0 _ _ h.res, frozen_of_row wr _ 1 _ _ h.res⟩
/-- The result, laid. -/
theorem DL.done {w wr : World} {r P Bp n : Nat} {bv : Value} {sh : Int} {cs : List Int} (h : DL w r P Bp bv sh bv n cs wr) (hr : r < w.heap.size) (hn : n ≤ 9) (h0 : -1 ≤ sh) (h1 : sh ≤ 15) :
    DrewLin r P w (.returned (.agg #[bv, .int .i64 sh])) ((wr.setCell ⟨w.heap.size, 0, none⟩ bv).setCell ⟨w.heap.size, 1, none⟩ (.int .i64 sh)) := by
  have e1 := own_notL h.own h.res
  have hb : ∀ x, some w.heap.size = some x → w.heap.size ≤ x := fun x e => by simp only [Option.some.injEq] at e; omega
  refine ⟨bv, n, cs, sh, rfl, hn, (h.own.set _ _ e1).set _ _ e1, h.rng, h0, h1, (h.rd.kept (grown_setCell wr _ _) (fun x e => by have := hb x e; omega)).kept (grown_setCell _ _ _) (fun x e => by have := hb x e; omega), ?_⟩
  exact grown_row (grown_row h.g (grown_setCell wr _ _) hb) (grown_setCell _ _ _) hb

/-- The first coefficient, changed. -/
theorem DL.mark {w wr : World} {r P Bp n g c : Nat} {u : Value} {sh z : Int} {cs : List Int} (h : DL w r P Bp u sh (.slice (some ⟨g, 0, none⟩) n c) n cs wr) (hr : r < w.heap.size) (h0 : -4096 ≤ z) (h1 : z ≤ 4096) :
    DL w r P Bp u sh (.slice (some ⟨g, 0, none⟩) n c) n (cs.set 0 z) (wr.setCell ⟨g, 0, none⟩ (.int .i64 z)) := by
  have hst := World.ownsRow.stored h.own 0 (.int .i64 z)
  rw [← List.map_set] at hst
  have e1 := own_notL h.own h.res
  have e2 := own_notL h.own h.now
  have hgb := h.own.block g rfl
  refine ⟨grown_heap hst.2 h.res e1, grown_heap hst.2 h.now e2, h.lt, hst.1, ?_, h.rd.kept hst.2 (fun x e => by injection e with e; omega), grown_row h.g hst.2 (fun x e => by injection e with e; omega)⟩
  have := h.rng
  unfold allB at this ⊢
  rw [List.all_eq_true] at this ⊢
  intro y hy
  rcases List.mem_or_eq_of_mem_set hy with hy | rfl
  · exact this y hy
  · exact inB_true h0 h1
/-- Another predictor. -/
theorem DL.other {w wr w2 : World} {r P P2 Bp n n2 : Nat} {u bv v2 : Value} {sh : Int} {cs cs2 : List Int} (h : DL w r P Bp u sh bv n cs wr) (hg : wr.grownBy w2 none) (hR : Rdr w2 r P2) (ho : Owns w2 wr.heap.size v2 n2 cs2) (ha : allB cs2 (-4096) 4096 = true) : DL w r P2 Bp u sh v2 n2 cs2 w2 :=
  ⟨grown_heap hg h.res (by simp), grown_heap hg h.now (by simp), h.lt, ho.base_le h.g.size, ha, hR, grown_trans h.g (grown_any hg _)⟩
theorem DrewLin.mono {r P Q : Nat} {w w' : World} {e : Ending} (h : DrewLin r P w e w') (hPQ : P ≤ Q) : DrewLin r Q w e w' := by
  obtain ⟨v, n, cs, sh, h1, h2, h3, h4, h5, h6, h7, h8⟩ := h
  exact ⟨v, n, cs, sh, h1, h2, h3, h4, h5, h6, h7.mono hPQ, h8⟩

set_option maxRecDepth 100000 in
set_option maxHeartbeats 4000000 in
theorem anyLinear_any (r P : Nat) (w : World) (hR : Rdr w r P) (hP : P < 700000) :
    Calls Try.prog 35 #[.pointer (some ⟨r, 0, none⟩)] w (DrewLin r (P + 20) w) := by
  have hrl := hR.lt
  go_enter Try.func35, Try.ntmps35
  go_wp2_with fail
  have hRa := hR.alloc (.cells #[.slice none 0 0, .int .i64 0] 25)
  refine (pick_any 6 r P _ hRa (by omega) (by omega)).mono ?_
  rintro e w1 ⟨m, rfl, hm0, hm1, _, hR1, hg1⟩
  have hm2 : m < 6 := hm1 (by omega)
  have HA1 := Lib.hid (grown_heap hg1 (heap_alloc_new w (.cells #[.slice none 0 0, .int .i64 0] 25)) (by intro e; injection e with e; omega))
  have HG1 := Lib.hid (grown_trans (grown_alloc w (.cells #[.slice none 0 0, .int .i64 0] 25) (some r)) hg1)
  have HR1 := Lib.hid hR1
  clear hR hRa hm1 hg1 hR1
  go_wp2_with fail
  have hone := one_at [1, 2, 3, 4, 8, 0, 9] 3 r (P + 1) (w1.heap.size + 1 + 1) 7 ((w1.alloc (.cells #[.slice none 0 0, .int .i64 m] 25)).alloc (.cells #[] 3)) (by simp) ((HR1.out.alloc _).alloc _) (by omega) (by decide) (by decide)
  refine hone.mono ?_
  rintro e w2 ⟨n, hn, rfl, hR2, hg2⟩
  have hw1 := HG1.out.size
  have hn9 : 0 ≤ n ∧ n ≤ 9 := by simp at hn; omega
  obtain ⟨nn, rfl⟩ := Int.eq_ofNat_of_zero_le hn9.1
  have hnn : nn ≤ 9 := by omega
  have HD : Hid (DL w r (P + 2 + 0) w1.heap.size (.slice none 0 0) m (.slice (some ⟨w1.heap.size + 1, 0, none⟩) 0 0) 0 [] w2) := by
    have hlt0 := block_lt HA1.out
    have hA := grown_heap (grown_trans (grown_alloc w1 (.cells #[.slice none 0 0, .int .i64 m] 25) none) (grown_alloc _ (.cells #[] 3) none)) HA1.out (by simp)
    have hB := heap_alloc2_old w1 (.cells #[.slice none 0 0, .int .i64 m] 25) (.cells #[] 3)
    have hO : Owns ((w1.alloc (.cells #[.slice none 0 0, .int .i64 m] 25)).alloc (.cells #[] 3)) w.heap.size (.slice (some ⟨w1.heap.size + 1, 0, none⟩) 0 0) 0 [] := by
      have h := owns_empty (w1.alloc (.cells #[.slice none 0 0, .int .i64 m] 25))
      have h2 := h.base_le (base' := w.heap.size) (by simp; omega)
      simpa using h2
    refine ⟨grown_heap hg2 hA (fun e => by injection e with e; omega), grown_heap hg2 hB (fun e => by injection e with e; omega), hlt0, hO.read hg2 hrl, rfl, hR2, grown_trans HG1.out (grown_trans (grown_trans (grown_alloc _ _ _) (grown_alloc _ _ _)) hg2)⟩
  clear hone hn hn9 hR2 hg2 HA1 HG1 HR1
  obtain ⟨Bp, hBp⟩ : ∃ Bp, w1.heap.size = Bp := ⟨_, rfl⟩
  rw [hBp] at HD hw1 ⊢
  clear hBp
  go_wp2
  go_loopw [4, 5] (fun vv iv wr => ∃ (v : Value) (j q : Nat) (cs : List Int), v = vv ∧ j + q = nn ∧ iv = .int .i64 j ∧ Hid (DL w r (P + 2 + q) Bp (.slice none 0 0) m v q cs wr)) (fun _ iv _ => (intOf iv).toNat)
  case atStart => exact ⟨_, nn, 0, [], rfl, by omega, rfl, HD⟩
  case round =>
    clear HD
    obtain ⟨v, j, q, cs, rfl, hjq, rfl, HR⟩ := hrel
    cases j with
    | succ j =>
      have hq9 : q < 9 := by omega
      go_wp2_with fail
      refine (pick_any 60 r (P + 2 + q) _ HR.out.rd (by omega) (by omega)).mono ?_
      rintro e w4 ⟨z, rfl, hz0, hz1, _, hR4, hg4⟩
      have hz2 : z < 60 := hz1 (by decide)
      have HS := Lib.hid (HR.out.read hrl hg4 hR4)
      clear HR hz1 hR4 hg4
      go_wp2_with (at_builtin; refine append_ints rfl _ _ rfl w.heap.size v q cs rfl (HS.out.own.grown (grown_alloc _ _ _)) (some ⟨w4.heap.size, 0, none⟩) 1 1 [z - 30] rfl (ints_one _ _ _) (fun e => nomatch e) ?a1 ?a2 ?_)
      case a1 => omega
      case a2 => have := HS.out.g.size; simp; try omega
      intro v' w5 hown hgrow
      have HT := Lib.hid (HS.out.snoc hrl hgrow hown (by omega) (by omega))
      clear hown hgrow HS
      go_wp2
      go_roundw
      case rel => exact ⟨v', j, q + 1, cs ++ [z - 30], rfl, by omega, by go_num, HT⟩
      case measure => first | (simp [intOf]; done) | (simp [intOf]; omega)
    | zero =>
      obtain rfl : q = nn := by omega
      obtain ⟨q0, q1, q2, q3, f0, f1, f2, f3⟩ := HR.out.cells
      obtain ⟨a1, c1, rfl, _⟩ := HR.out.own.reads
      have HS := Lib.hid (HR.out.setc hrl (.slice a1 q c1))
      clear HR q1 q2 q3 f1 f2 f3
      go_wp2_with fail
      clear q0 f0
      generalize wr.setCell ⟨Bp, 0, none⟩ (.slice a1 q c1) = w6 at *
      refine (pick_any 24 r (P + 2 + q) _ HS.out.rd (by omega) (by omega)).mono ?_
      rintro e w7 ⟨y, rfl, hy0, hy1, _, hR7, hg7⟩
      have hy2 : y < 24 := hy1 (by omega)
      have H7 := Lib.hid (HS.out.read hrl hg7 hR7)
      clear HS hy1 hR7 hg7
      by_cases y0 : y = 0
      · subst y0
        go_wp2_with fail
        have hone := one_at [-1, 14, 15] 3 r (P + 2 + q + 1) w7.heap.size 3 w7 rfl H7.out.rd (by omega) (by decide) (by decide)
        refine hone.mono ?_
        rintro e w8 ⟨t, ht, rfl, hR8, hg8⟩
        have ht2 : -1 ≤ t ∧ t ≤ 15 := by simp at ht; omega
        have H8 := Lib.hid ((H7.out.read hrl hg8 hR8).sets hrl t)
        obtain ⟨q0, q1, q2, q3, f0, f1, f2, f3⟩ := (H7.out.read hrl hg8 hR8).cells
        have HT := Lib.hid ((H8.out.done hrl hnn ht2.1 ht2.2).mono (show P + 2 + q + 1 + 1 ≤ P + 20 by omega))
        have hBw := H8.out.lt
        have hBw2 : ¬ w.heap.size = Bp := by omega
        have hBw3 : ¬ Bp = w.heap.size := by omega
        clear hone ht hR8 hg8 H7 H8
        go_wp2
        exact bodyPost_ret (v := .agg #[.slice a1 q c1, .int .i64 t]) (by simp [results, Try.results35, go_sem, q2, q3, hBw3]) rfl HT.out
      have y0' : (y == 0) = false := by simpa using y0
      by_cases y1 : y = 1
      · subst y1
        clear y0
        by_cases hq0 : q = 0
        · have hqd : decide (0 < (q : Int)) = false := by simp; omega
          have hqn : ¬ 0 < q := by omega
          have HT := Lib.hid ((H7.out.done hrl hnn (by omega) (by omega)).mono (show P + 2 + q + 1 ≤ P + 20 by omega))
          have hBw := H7.out.lt
          have hBw2 : ¬ w.heap.size = Bp := by omega
          have hBw3 : ¬ Bp = w.heap.size := by omega
          obtain ⟨q0, q1, q2, q3, f0, f1, f2, f3⟩ := H7.out.cells
          clear H7 hq0
          go_wp2
          exact bodyPost_ret (v := .agg #[.slice a1 q c1, .int .i64 m]) (by simp [results, Try.results35, go_sem, q2, q3, hBw3]) rfl HT.out
        have hqd : decide (0 < (q : Int)) = true := by simp; omega
        have hqn : 0 < q := by omega
        obtain ⟨g, c2, hgg⟩ : ∃ g c2, (Value.slice a1 q c1) = .slice (some ⟨g, 0, none⟩) q c2 := by
          rcases H7.out.own.2 with ⟨_, h0⟩ | ⟨g, cap, cur, hv, _⟩
          · omega
          · exact ⟨g, cap, hv⟩
        injection hgg with hg1 _ hg3
        subst hg1
        clear hg3 hq0
        go_wp2_with fail
        have hone := one_at [4095, 4096, -4095, -4096] 3 r (P + 2 + q + 1) w7.heap.size 4 w7 rfl H7.out.rd (by omega) (by decide) (by decide)
        refine hone.mono ?_
        rintro e w8 ⟨t, ht, rfl, hR8, hg8⟩
        have ht2 : -4096 ≤ t ∧ t ≤ 4096 := by simp at ht; omega
        have H8 := Lib.hid (H7.out.read hrl hg8 hR8)
        clear hone ht hR8 hg8 H7
        obtain ⟨c0, hc0⟩ : ∃ c0, cs[0]? = some c0 := ⟨_, List.getElem?_eq_getElem (by have := H8.out.own.len_eq; omega)⟩
        have hcell : w8.cell? ⟨g, 0, none⟩ = some (.int .i64 c0) := by
          rw [World.ownsRow.cellAt H8.out.own 0 (by omega), List.getElem?_map, hc0]; rfl
        have hfz : w8.frozen? ⟨g, 0, none⟩ = false := World.ownsRow.frozenAt H8.out.own 0
        have H9 := Lib.hid (H8.out.mark hrl ht2.1 ht2.2)
        obtain ⟨q0, q1, q2, q3, f0, f1, f2, f3⟩ := H9.out.cells
        have HT := Lib.hid ((H9.out.done hrl hnn (by omega) (by omega)).mono (show P + 2 + q + 1 + 1 ≤ P + 20 by omega))
        have hBw := H8.out.lt
        have hBw2 : ¬ w.heap.size = Bp := by omega
        have hBw3 : ¬ Bp = w.heap.size := by omega
        clear hc0 H8 H9
        go_wp2
        exact bodyPost_ret (v := .agg #[.slice (some ⟨g, 0, none⟩) q c1, .int .i64 m]) (by simp [results, Try.results35, go_sem, q2, q3, hBw3]) rfl HT.out
      have y1' : (y == 1) = false := by simpa using y1
      by_cases y2 : y = 2
      · subst y2
        clear y0 y1
        go_wp2_with fail
        refine (pick_any 4 r (P + 2 + q + 1) _ H7.out.rd (by omega) (by omega)).mono ?_
        rintro e w8 ⟨k, rfl, hk0, hk1, _, hR8, hg8⟩
        obtain ⟨k, rfl⟩ := Int.eq_ofNat_of_zero_le hk0
        have hk4 : k < 4 := by have := hk1 (by decide); omega
        have H8 := Lib.hid (H7.out.read hrl hg8 hR8)
        clear hk0 hk1 hR8 hg8 H7
        have kf := sFal_any (1 + k) w8 (by omega) (by omega)
        rw [show (((1 + k : Nat) : Int)) = 1 + (k : Int) by omega] at kf
        go_wp2_with fail
        refine kf.mono ?_
        rintro e w9 ⟨v9, rfl, ho9, hg9⟩
        rw [if_pos rfl, if_pos rfl] at ho9
        have hal : allB (falL (1 + k)) (-4096) 4096 = true := by
          have : k = 0 ∨ k = 1 ∨ k = 2 ∨ k = 3 := by omega
          rcases this with rfl | rfl | rfl | rfl <;> decide
        have H9 := Lib.hid (H8.out.other hg9 (H8.out.rd.kept hg9 (by simp)) ho9 hal)
        obtain ⟨a9, c9, rfl, _⟩ := ho9.reads
        obtain ⟨q0, q1, q2, q3, f0, f1, f2, f3⟩ := H9.out.cells
        have HT := Lib.hid ((((H9.out.setc hrl (.slice a9 (1 + k) c9)).sets hrl 0).done hrl (by omega) (by decide) (by decide)).mono (show P + 2 + q + 1 + 1 ≤ P + 20 by omega))
        have hBw := H8.out.lt
        have hBw2 : ¬ w.heap.size = Bp := by omega
        have hBw3 : ¬ Bp = w.heap.size := by omega
        clear kf H8 H9 ho9 hg9 hal
        go_wp2
        exact bodyPost_ret (v := .agg #[.slice a9 (1 + k) c9, .int .i64 0]) (by simp [results, Try.results35, go_sem, q2, q3, hBw3]) rfl HT.out
      have y2' : (y == 2) = false := by simpa using y2
      have HT := Lib.hid ((H7.out.done hrl hnn (by omega) (by omega)).mono (show P + 2 + q + 1 ≤ P + 20 by omega))
      have hBw := H7.out.lt
      have hBw2 : ¬ w.heap.size = Bp := by omega
      have hBw3 : ¬ Bp = w.heap.size := by omega
      obtain ⟨q0, q1, q2, q3, f0, f1, f2, f3⟩ := H7.out.cells
      clear H7 y0 y1 y2
      go_wp2
      exact bodyPost_ret (v := .agg #[.slice a1 q c1, .int .i64 m]) (by simp [results, Try.results35, go_sem, q2, q3, hBw3]) rfl HT.out

end Go.Proofs.Ytgiiaijlahjfnaa
