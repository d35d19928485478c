/-
  Scaled audio: the specification's text. For all channels that can be read.
-/
import Derived.Test.YtncbgofcimghnaaVAuI
import Derived.Test.YtncbgofcimghnaaSlS
import Derived.Test.YtncbgofcimghnaaScM
import Derived.Deep.RegionHeld3
import Derived.Deep.Cut
import Derived.Deep.CutRange
namespace Go.Proofs.Ytncbgofcimghnaa
open Go.RowKit

/-- What ScaleAudio gives: valid audio with scaled samples and how many were limited, or nothing. -/
def ScR (r d num den : Int) (xss : List (List Int)) (rr dd : Int) (yss : List (List Int)) (n : Int) (ok : Bool) : Prop :=
  (ok = true ∧ rr = r ∧ dd = d ∧ (1 ≤ num ∧ num ≤ 64) ∧ (1 ≤ den ∧ den ≤ 64) ∧ ∃ u H, VA r d xss u H ∧ yss = xss.map (scL u num den) ∧ n = (clM u num den xss : Int)) ∨
  (ok = false ∧ rr = 0 ∧ dd = 0 ∧ yss = [] ∧ n = 0 ∧ ¬ (vAu r d xss = true ∧ (1 ≤ num ∧ num ≤ 64) ∧ (1 ≤ den ∧ den ≤ 64)))
theorem ScR_there (r d num den : Int) (xss : List (List Int)) : ∃ rr dd yss n ok, ScR r d num den xss rr dd yss n ok := by
  by_cases h : vAu r d xss = true ∧ (1 ≤ num ∧ num ≤ 64) ∧ (1 ≤ den ∧ den ≤ 64)
  · obtain ⟨u, H, hV⟩ := va_of h.1
    exact ⟨r, d, _, _, true, Or.inl ⟨rfl, rfl, rfl, h.2.1, h.2.2, u, H, hV, rfl, rfl⟩⟩
  · exact ⟨0, 0, [], 0, false, Or.inr ⟨rfl, rfl, rfl, rfl, rfl, h⟩⟩
/-- A call gives back new audio, a number and whether it is any. -/
def MadeAN (yss : List (List Int)) (rr dd n : Int) (ok : Bool) (w : World) (e : Ending) (w' : World) : Prop :=
  ∃ v, e = .returned (.tuple #[.agg #[.int .i64 rr, .int .i64 dd, v], .int .i64 n, .bool ok]) ∧ MOwn w' w.heap.size v yss.length yss ∧ w.grownBy w' none

/-- Inside the call: the box of the argument, the place of the result, and the audio that is being made with rows of its own. -/
structure SS (w wx : World) (Bk : Nat) (r d : Int) (v : Value) (n : Nat) (yss : List (List Int)) (A Z : Obj) : Prop where
  gr : w.grownBy wx none
  box : wx.heap[w.heap.size]? = some A
  res : wx.heap[w.heap.size + 1]? = some Z
  blk : wx.heap[Bk]? = some (.cells #[.int .i64 r, .int .i64 d, v] 25 (0, 0))
  own : MOwn wx (w.heap.size + 2) v n yss
  lo : w.heap.size + 2 ≤ Bk

theorem SS.store {w wr wz : World} {Bk n g k : Nat} {r d : Int} {v y : Value} {yss zss : List (List Int)} {A Z : Obj} (h : SS w wr Bk r d v n yss A Z) (hlo : w.heap.size + 2 ≤ g) (hne : Bk ≠ g) (hown : MOwn (wr.setCell ⟨g, k, none⟩ y) (w.heap.size + 2) v n zss) (hz : (wr.setCell ⟨g, k, none⟩ y).grownBy wz none) : SS w wz Bk r d v n zss A Z := by
  have far : ∀ B, B ≠ g → ∀ o, wr.heap[B]? = some o → wz.heap[B]? = some o := fun B hB o ho => grown_heap hz (by rw [heap_setCell_other _ ⟨g, k, none⟩ _ _ hB]; exact ho) (by simp)
  exact ⟨grown_trans (grown_set h.gr (by show _ ≤ g; omega)) hz, far _ (by omega) _ h.box, far _ (by omega) _ h.res, far _ hne _ h.blk, hown.grown hz, h.lo⟩
theorem ss_drew {w wr : World} {Bk n : Nat} {r d : Int} {v : Value} {yss : List (List Int)} {A Z : Obj} (h : SS w wr Bk r d v n yss A Z) (m : Nat) : SS w (wr.drewN m) Bk r d v n yss A Z :=
  ⟨grown_trans h.gr (grown_drewN _ _ _), h.box, h.res, h.blk, h.own.grown (grown_drewN _ _ _), h.lo⟩
theorem clx_eq {u : Nat} {num den x : Int} (h : scx u num den x = qC den (x * num)) : clx u num den x = 0 := if_pos h
theorem clx_ne {u : Nat} {num den x : Int} (h : ¬ scx u num den x = qC den (x * num)) : clx u num den x = 1 := if_neg h
theorem set_same {α : Type} {l : List α} {i : Nat} {x : α} (h : l[i]? = some x) : l.set i x = l := by
  apply List.ext_getElem?
  intro j
  by_cases hj : j = i
  · subst hj
    rw [List.getElem?_set_self (List.getElem?_eq_some_iff.1 h).1, h]
  · rw [List.getElem?_set_ne (by omega)]
theorem cell_al {w : World} {a : Addr} {v : Value} {o : Obj} (h : w.cell? a = some v) : (w.alloc o).cell? a = some v := (World.cell?_of_block (heap_alloc_old _ _ (block_lt_of_cell h))).trans h
theorem cell_st1 {w : World} {a b : Addr} {v x : Value} (h : w.cell? a = some v) (h1 : a.block ≠ b.block) : (w.setCell b x).cell? a = some v := by rw [cell_far _ _ _ _ h1]; exact h
theorem cell_st3 {w : World} {a : Addr} {v x y z : Value} {B : Nat} (h : w.cell? a = some v) (h1 : a.block ≠ B) : (((w.setCell ⟨B, 0, none⟩ x).setCell ⟨B, 1, none⟩ y).setCell ⟨B, 2, none⟩ z).cell? a = some v := by
  rw [cell_far _ _ _ _ h1, cell_far _ _ _ _ h1, cell_far _ _ _ _ h1]; exact h
theorem heap_st3 {w : World} {B : Nat} {x y z x' y' z' : Value} {t : TypeId} (h : w.heap[B]? = some (.cells #[x, y, z] t (0, 0))) : (((w.setCell ⟨B, 0, none⟩ x').setCell ⟨B, 1, none⟩ y').setCell ⟨B, 2, none⟩ z').heap[B]? = some (.cells #[x', y', z'] t (0, 0)) := by
  have h1 := heap_setCell_same w B 0 _ _ x' h
  have h2 := heap_setCell_same _ B 1 _ _ y' h1
  exact heap_setCell_same _ B 2 _ _ z' h2
theorem heap_far3 {w : World} {B C : Nat} {x y z : Value} (h : C ≠ B) : (((w.setCell ⟨B, 0, none⟩ x).setCell ⟨B, 1, none⟩ y).setCell ⟨B, 2, none⟩ z).heap[C]? = w.heap[C]? := by
  rw [heap_setCell_other _ ⟨B, 2, none⟩ _ _ h, heap_setCell_other _ ⟨B, 1, none⟩ _ _ h, heap_setCell_other _ ⟨B, 0, none⟩ _ _ h]
theorem ss_new {w w1 w5 : World} {base n : Nat} {r d : Int} {v : Value} {yss : List (List Int)} {A Z : Obj} (hg : w.grownBy w1 none) (hb : w1.heap[w.heap.size]? = some A) (hz : w1.heap[w.heap.size + 1]? = some Z) (h5 : w1.grownBy w5 none) (ho : MOwn w5 base v n yss) (hbase : w1.heap.size ≤ base) :
    SS w (w5.alloc (.cells #[.int .i64 r, .int .i64 d, v] 25)) w5.heap.size r d v n yss A Z := by
  have h2 := block_lt hz
  have h6 := grown_trans h5 (grown_alloc w5 (.cells #[.int .i64 r, .int .i64 d, v] 25) none)
  exact ⟨grown_trans hg h6, grown_heap h6 hb (by simp), grown_heap h6 hz (by simp), heap_alloc_new w5 _, (ho.grown (grown_alloc _ _ _)).base_le (by omega), by have := h5.size; omega⟩
theorem ss_set {w w1 w5 : World} {Bk base n : Nat} {r d : Int} {v x y z : Value} {yss : List (List Int)} {A Z : Obj} (hg : w.grownBy w1 none) (hb : w1.heap[w.heap.size]? = some A) (hz : w1.heap[w.heap.size + 1]? = some Z) (h5 : w1.grownBy w5 none) (ho : MOwn w5 base v n yss) (hbase : Bk < base) (hB : w1.heap.size ≤ Bk)
    (hk : w5.heap[Bk]? = some (.cells #[x, y, z] 25 (0, 0))) :
    SS w (((w5.setCell ⟨Bk, 0, none⟩ (.int .i64 r)).setCell ⟨Bk, 1, none⟩ (.int .i64 d)).setCell ⟨Bk, 2, none⟩ v) Bk r d v n yss A Z := by
  have h2 := block_lt hz
  refine ⟨grown_set (grown_set (grown_set (grown_trans hg h5) (by show _ ≤ Bk; omega)) (by show _ ≤ Bk; omega)) (by show _ ≤ Bk; omega), ?_, ?_, heap_st3 hk, (((ho.set _ _ (by show Bk < _; omega)).set _ _ (by show Bk < _; omega)).set _ _ (by show Bk < _; omega)).base_le (by omega), by omega⟩
  · rw [heap_far3 (by omega)]; exact grown_heap h5 hb (by simp)
  · rw [heap_far3 (by omega)]; exact grown_heap h5 hz (by simp)

theorem own_an {w w1 : World} {B len : Nat} {v x y z : Value} {yss : List (List Int)} (h : MOwn w1 (B + 2) v len yss) (hg : w.grownBy w1 none) (hB : w.heap.size = B) :
    MOwn (((w1.setCell ⟨B + 1, 0, none⟩ x).setCell ⟨B + 1, 1, none⟩ y).setCell ⟨B + 1, 2, none⟩ z) w.heap.size v len yss ∧ w.grownBy (((w1.setCell ⟨B + 1, 0, none⟩ x).setCell ⟨B + 1, 1, none⟩ y).setCell ⟨B + 1, 2, none⟩ z) none :=
  ⟨(((h.set _ _ (by show B + 1 < _; omega)).set _ _ (by show B + 1 < _; omega)).set _ _ (by show B + 1 < _; omega)).base_le (by omega), grown_set (grown_set (grown_set hg (by show _ ≤ B + 1; omega)) (by show _ ≤ B + 1; omega)) (by show _ ≤ B + 1; omega)⟩

end Go.Proofs.Ytncbgofcimghnaa
