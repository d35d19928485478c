/-
  The draws of bits: what 'randomBits' and 'anyBits' give. For every code.
-/
import Derived.Test.YtdbneenlejgjcaaDoorPut
namespace Go.Proofs.YtdbneenlejgjcaaDoor
open Go.RowKit

/-- Inside 'randomBits': the result's cell and the bits so far. -/
structure RB (w : World) (r P : Nat) (bv : Value) (c : Nat) (ys : List Int) (M : Int) (wr : World) : Prop where
  res : wr.heap[w.heap.size]? = some (.cells #[.slice none 0 0, .int .i64 0] 28 (0, 0))
  now : wr.heap[w.heap.size + 1]? = some (.cells #[bv, .int .i64 (c : Int)] 28 (0, 0))
  own : Owns wr (w.heap.size + 2) bv ((c + 7) / 8) ys
  rdr : Rdr wr r P
  g : w.grownBy wr (some r)
  up : Upto ys M

theorem RB.read {w wr w2 : World} {r P P' c : Nat} {bv : Value} {ys : List Int} {M : Int} (h : RB w r P bv c ys M wr) (hr : r < w.heap.size) (hg : wr.grownBy w2 (some r)) (hR : Rdr w2 r P') : RB w r P' bv c ys M w2 :=
  ⟨grown_heap hg h.res (by intro e; injection e with e; omega), grown_heap hg h.now (by intro e; injection e with e; omega), h.own.read hg (by omega), hR, grown_trans h.g hg, h.up⟩
theorem RB.drew {w wr : World} {r P c : Nat} {bv : Value} {ys : List Int} {M : Int} (h : RB w r P bv c ys M wr) (hr : r < w.heap.size) : RB w r P bv c ys M wr.drew :=
  h.read hr (grown_drew _ _) (h.rdr.kept (grown_drew wr none) (by simp))
theorem RB.cells {w wr : World} {r P c : Nat} {bv : Value} {ys : List Int} {M : Int} (h : RB w r P bv c ys M wr) : wr.cell? ⟨w.heap.size + 1, 0, none⟩ = some bv ∧ wr.cell? ⟨w.heap.size + 1, 1, none⟩ = some (.int .i64 (c : Int)) :=
  ⟨by rw [cell_of_row wr _ 0 _ _ _ h.now]; rfl, by rw [cell_of_row wr _ 1 _ _ _ h.now]; rfl⟩
theorem RB.store {w w2 w3 : World} {r P c c' : Nat} {bv v3 : Value} {ys ys' : List Int} {M M' : Int} (h : RB w r P bv c ys M w2) (hr : r < w.heap.size) (hg : w2.grownBy w3 none)
    (ho : Owns w3 w2.heap.size v3 ((c' + 7) / 8) ys') (hu : Upto ys' M') : RB w r P v3 c' ys' M' ((w3.setCell ⟨w.heap.size + 1, 0, none⟩ v3).setCell ⟨w.heap.size + 1, 1, none⟩ (.int .i64 (c' : Int))) := by
  have hn := grown_heap hg h.now (by simp)
  have hlt := block_lt h.now
  have hne : v3.ownBlock ≠ some (w.heap.size + 1) := fun e => by have := ho.block _ e; omega
  have h1 := heap_setCell_same w3 (w.heap.size + 1) 0 _ _ v3 hn
  have h2 := heap_setCell_same _ (w.heap.size + 1) 1 _ _ (.int .i64 (c' : Int)) h1
  have hgg : w3.grownBy ((w3.setCell ⟨w.heap.size + 1, 0, none⟩ v3).setCell ⟨w.heap.size + 1, 1, none⟩ (.int .i64 (c' : Int))) (some (w.heap.size + 1)) := grown_trans (grown_setCell w3 ⟨w.heap.size + 1, 0, none⟩ v3) (grown_setCell _ ⟨w.heap.size + 1, 1, none⟩ _)
  refine ⟨?_, ?_, ?_, ?_, ?_, hu⟩
  · exact grown_heap hgg (grown_heap hg h.res (by simp)) (by intro e; injection e with e; omega)
  · rw [h2]; rfl
  · exact ((ho.set _ _ hne).set _ _ hne).base_le (by omega)
  · exact (h.rdr.kept hg (by simp)).kept hgg (fun x hx => by injection hx with hx; omega)
  · exact grown_row (grown_trans h.g (grown_any hg _)) hgg (fun g e => by injection e with e; omega)

theorem ints_of {w : World} {base len cap : Nat} {ao : Option Addr} {xs : List Int} (h : Owns w base (.slice ao len cap) len xs) : Ints w ao len xs := by
  obtain ⟨ao', cap', hv, _, _, hi, _⟩ := h.reads
  injection hv with h1 _ _; subst h1; exact hi

/-- Drawn bits. -/
def DrewV (C : Nat) (M : Int) (r P : Nat) (w : World) (e : Ending) (w' : World) : Prop :=
  ∃ (v : Value) (c : Nat) (xs : List Int), e = .returned (.agg #[v, .int .i64 (c : Int)]) ∧ c ≤ C ∧ Owns w' w.heap.size v ((c + 7) / 8) xs ∧ Upto xs M ∧ Rdr w' r P ∧ w.grownBy w' (some r)

set_option maxRecDepth 100000 in
set_option maxHeartbeats 2000000 in
theorem randomBits_any (r P : Nat) (w : World) (hR : Rdr w r P) (hP : P < 800000) :
    Calls Tryd.prog 70 #[.pointer (some ⟨r, 0, none⟩)] w (DrewV 132 16896 r (P + 30) w) := by
  have hrl := hR.lt
  go_enter Tryd.func70, Tryd.ntmps70
  go_wp2_with fail
  have hM0 := ((Mem.start w).block (.cells #[.slice none 0 0, .int .i64 0] 28)).block (.cells #[.slice none 0 0, .int .i64 0] 28)
  refine (one_at [3, 5, 1, 0, 8, 12] _ r P (w.heap.size + 1 + 1) _ ((w.alloc (.cells #[.slice none 0 0, .int .i64 0] 28)).alloc (.cells #[.slice none 0 0, .int .i64 0] 28)) (by simp) ((hR.alloc _).alloc _) (by omega) (by decide) (by decide)).mono ?_
  rintro e w1 ⟨n, hn, rfl, hR1, hg1⟩
  have hn0 : 0 ≤ n := by simp at hn; omega
  have hn1 : n ≤ 12 := by simp at hn; omega
  obtain ⟨n, rfl⟩ := Int.eq_ofNat_of_zero_le hn0
  have hn2 : n ≤ 12 := by omega
  have HW : Hid (RB w r (P + 1 + 2 * 0) (.slice none 0 0) 0 [] (1408 * ((0 : Nat) : Int)) w1) := by
    refine ⟨?_, ?_, ?_, hR1, grown_trans (grown_trans (grown_alloc w (.cells #[.slice none 0 0, .int .i64 0] 28) _) (grown_alloc _ (.cells #[.slice none 0 0, .int .i64 0] 28) _)) hg1, fun y hy => by simp at hy⟩
    · exact grown_heap hg1 (hM0.get (b := w.heap.size) (by simp)) (by intro e; injection e with e; omega)
    · exact grown_heap hg1 (hM0.get (b := w.heap.size + 1) (by simp)) (by intro e; injection e with e; omega)
    · exact World.ownsRow_nil _ _ _ _
  clear hR hR1 hg1 hn hn0 hn1 hM0
  go_wp2_with fail
  go_loopw [4, 5] (fun nn _ wr => ∃ (k m c : Nat) (bv : Value) (ys : List Int), k + m ≤ 12 ∧ c ≤ 11 * k ∧ nn = .int .i64 m ∧ Hid (RB w r (P + 1 + 2 * k) bv c ys (1408 * (k : Int)) wr)) (fun nn _ _ => (intOf nn).toNat)
  case atStart => exact ⟨0, n, 0, _, [], by omega, by omega, rfl, HW⟩
  case round =>
    obtain ⟨k, m, c, bv, ys, hkm, hck, rfl, HR⟩ := hrel
    by_cases hm : 0 < m
    · go_wp2_with fail
      refine (pick_any 12 r (P + 1 + 2 * k) _ HR.out.rdr (by omega) (by omega)).mono ?_
      rintro e w2 ⟨x, rfl, hx0, hx1, _, hR2, hg2⟩
      obtain ⟨x, rfl⟩ := Int.eq_ofNat_of_zero_le hx0
      have hx2 : x ≤ 11 := by have := hx1 (by decide); omega
      have HS : Hid (RB w r (P + 1 + 2 * k + 1) bv c ys (1408 * (k : Int)) w2) := HR.out.read hrl hg2 hR2
      clear hx0 hx1 hR2 hg2 HR
      obtain ⟨a1, c1, rfl, _, hnil, _, _⟩ := HS.out.own.reads
      have q0 := HS.out.cells.1
      have q1 := HS.out.cells.2
      have hnil := Lib.hid hnil
      go_wp2_with fail
      go_region_with ((first
        | (go_at_call 54; refine (pick_any 250 r (P + 1 + 2 * k + 1) _ (HS.out.drew hrl).rdr (by omega) (by omega)).mono ?_; rintro e w3 ⟨y, rfl, hy0, hy1, _, hR3, hg3⟩; have HS3 := Lib.hid ((HS.out.drew hrl).read hrl hg3 hR3); have hS0 := HS3.out.cells.1; have hS1 := HS3.out.cells.2; have HY := Lib.hid (And.intro hy0 (hy1 (by decide))); clear hR3 hg3 hy0 hy1)
        | (go_at_call 74; obtain ⟨y, rfl⟩ := Int.eq_ofNat_of_zero_le HY.out.1; refine (put_any ys a1 ((c + 7) / 8) c1 c y x (1408 * (k : Int)) _ (ints_of HS3.out.own) hnil.out HS3.out.own.len_eq (by omega) (by have := HY.out.2; omega) (by omega) HS3.out.up (by omega) (by omega)).mono ?_; rintro e w4 ⟨v4, rfl, ho4, hg4⟩; obtain ⟨a4, c4, rfl, _, _, _, _⟩ := ho4.reads; have hB := grown_heap hg4 HS3.out.now (by simp); have r0 : w4.cell? ⟨w.heap.size + 1, 0, none⟩ = some (.slice a1 ((c + 7) / 8) c1) := (by rw [cell_of_row w4 _ 0 _ _ _ hB]; rfl); have r1 : w4.cell? ⟨w.heap.size + 1, 1, none⟩ = some (.int .i64 (c : Int)) := (by rw [cell_of_row w4 _ 1 _ _ _ hB]; rfl); have f0 : w4.frozen? ⟨w.heap.size + 1, 0, none⟩ = false := frozen_of_row w4 _ 0 _ _ hB; have f1 : w4.frozen? ⟨w.heap.size + 1, 1, none⟩ = false := frozen_of_row w4 _ 1 _ _ hB; have HT := Lib.hid (HS3.out.store hrl hg4 ho4 (HS3.out.up.putN (by omega) x)); clear ho4 hg4 hB)))
      all_goals
        have HT : Hid (RB w r (P + 1 + 2 * (k + 1)) (Value.slice a4 ((c + x + 7) / 8) c4) (c + x) (putN ys c y x x) (1408 * ((k + 1 : Nat) : Int)) (((w4.setCell ⟨w.heap.size + 1, 0, none⟩ (.slice a4 ((c + x + 7) / 8) c4)).setCell ⟨w.heap.size + 1, 1, none⟩ (.int .i64 ((c : Int) + (x : Int)))))) := by
          have h := HT.out
          rw [Int.natCast_add c x] at h
          have h2 := h
          exact ⟨h2.res, h2.now, h2.own, h2.rdr.mono (by omega), h2.g, h2.up.mono (by omega)⟩
        clear HS3 hS0 hS1 r0 r1 f0 f1 q0 q1 HS HY
        go_wp2
        go_roundw
        case rel => exact ⟨k + 1, m - 1, c + x, _, _, by omega, by omega, by go_num, HT⟩
        case measure => simp [intOf]; omega
    · obtain ⟨a1, c1, rfl, _, hnil, _, _⟩ := HR.out.own.reads
      have q0 := HR.out.cells.1
      have q1 := HR.out.cells.2
      have r0 : wr.cell? ⟨w.heap.size, 0, none⟩ = some (.slice none 0 0) := by rw [cell_of_row wr _ 0 _ _ _ HR.out.res]; rfl
      have r1 : wr.cell? ⟨w.heap.size, 1, none⟩ = some (.int .i64 0) := by rw [cell_of_row wr _ 1 _ _ _ HR.out.res]; rfl
      have f0 : wr.frozen? ⟨w.heap.size, 0, none⟩ = false := frozen_of_row wr _ 0 _ _ HR.out.res
      have f1 : wr.frozen? ⟨w.heap.size, 1, none⟩ = false := frozen_of_row wr _ 1 _ _ HR.out.res
      have X : Hid (Owns ((wr.setCell ⟨w.heap.size, 0, none⟩ (.slice a1 ((c + 7) / 8) c1)).setCell ⟨w.heap.size, 1, none⟩ (.int .i64 (c : Int))) w.heap.size (.slice a1 ((c + 7) / 8) c1) ((c + 7) / 8) ys ∧ Upto ys 16896 ∧
          Rdr ((wr.setCell ⟨w.heap.size, 0, none⟩ (.slice a1 ((c + 7) / 8) c1)).setCell ⟨w.heap.size, 1, none⟩ (.int .i64 (c : Int))) r (P + 30) ∧ w.grownBy ((wr.setCell ⟨w.heap.size, 0, none⟩ (.slice a1 ((c + 7) / 8) c1)).setCell ⟨w.heap.size, 1, none⟩ (.int .i64 (c : Int))) (some r)) := by
        have hne : (Value.slice a1 ((c + 7) / 8) c1).ownBlock ≠ some w.heap.size := fun e => by have := HR.out.own.block _ e; omega
        have hgg : wr.grownBy ((wr.setCell ⟨w.heap.size, 0, none⟩ (.slice a1 ((c + 7) / 8) c1)).setCell ⟨w.heap.size, 1, none⟩ (.int .i64 (c : Int))) (some w.heap.size) := grown_trans (grown_setCell wr ⟨w.heap.size, 0, none⟩ _) (grown_setCell _ ⟨w.heap.size, 1, none⟩ _)
        exact ⟨((HR.out.own.set _ _ hne).set _ _ hne).base_le (by omega), HR.out.up.mono (by omega), (HR.out.rdr.mono (by omega)).kept hgg (fun x hx => by injection hx with hx; omega), grown_row HR.out.g hgg (fun g e => by injection e with e; omega)⟩
      clear HR hnil
      go_wp2
      exact bodyPost_ret (v := .agg #[.slice a1 ((c + 7) / 8) c1, .int .i64 (c : Int)]) (by simp [results, Tryd.results70, go_sem, r0, r1]) rfl ⟨.slice a1 ((c + 7) / 8) c1, c, ys, rfl, by omega, X.out⟩
end Go.Proofs.YtdbneenlejgjcaaDoor
