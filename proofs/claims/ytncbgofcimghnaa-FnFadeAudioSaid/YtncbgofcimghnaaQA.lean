/-
  A new variable that holds new audio, laid at any point among calls. No condition.
-/
import Derived.Test.YtncbgofcimghnaaMatM
import Derived.Test.YtncbgofcimghnaaMem
namespace Go.Proofs.Ytncbgofcimghnaa
open Go.RowKit

theorem heap_st3q {w : World} {B : Nat} {x y z x' y' z' : Value} {t : TypeId} (h : w.heap[B]? = some (.cells #[x, y, z] t (0, 0))) : (((w.setCell ⟨B, 0, none⟩ x').setCell ⟨B, 1, none⟩ y').setCell ⟨B, 2, none⟩ z').heap[B]? = some (.cells #[x', y', z'] t (0, 0)) := by
  have h1 := heap_setCell_same w B 0 _ _ x' h
  have h2 := heap_setCell_same _ B 1 _ _ y' h1
  exact heap_setCell_same _ B 2 _ _ z' h2
theorem cell_alq {w : World} {a : Addr} {v : Value} {o : Obj} (h : w.cell? a = some v) : (w.alloc o).cell? a = some v := (World.cell?_of_block (heap_alloc_old _ _ (block_lt_of_cell h))).trans h
theorem cell_st3q {w : World} {a : Addr} {v x y z : Value} {B : Nat} (h : w.cell? a = some v) (h1 : a.block ≠ B) : (((w.setCell ⟨B, 0, none⟩ x).setCell ⟨B, 1, none⟩ y).setCell ⟨B, 2, none⟩ z).cell? a = some v := by
  rw [cell_far _ _ _ _ h1, cell_far _ _ _ _ h1, cell_far _ _ _ _ h1]; exact h
theorem Mem.addq {w0 w wx : World} {L : List (Nat × Obj)} {b : Nat} {o : Obj} (m : Mem w0 w L) (hg : w.grownBy wx none) (hb : w.heap.size ≤ b) (h : wx.heap[b]? = some o) : Mem w0 wx (L ++ [(b, o)]) := by
  refine ⟨grown_trans m.g hg, ?_, nodup_add m.n (by simp) m.lt (by simpa using hb), ?_⟩
  · intro p hp
    rcases List.mem_append.1 hp with h2 | h2
    · exact grown_heap hg (m.h p h2) (by simp)
    · simp at h2; subst h2; exact h
  · intro p hp
    rcases List.mem_append.1 hp with h2 | h2
    · exact m.lo p h2
    · simp at h2; subst h2; exact Nat.le_trans m.g.size hb
/-- A new variable holds new audio. -/
structure QA (w wx : World) (Bk : Nat) (rr dd : Int) (a : Option Addr) (ln c : Nat) (zss : List (List Int)) : Prop where
  gr : w.grownBy wx none
  lo : w.heap.size ≤ Bk
  blk : wx.heap[Bk]? = some (.cells #[.int .i64 rr, .int .i64 dd, .slice a ln c] 25 (0, 0))
  own : MOwn wx w.heap.size (.slice a ln c) ln zss
theorem qa_1 {w w6 : World} {rr dd : Int} {a : Option Addr} {ln c base : Nat} {zss : List (List Int)} (h : w.grownBy w6 none) (ho : MOwn w6 base (.slice a ln c) ln zss) (hb : w.heap.size ≤ base) : QA w (w6.alloc (.cells #[.int .i64 rr, .int .i64 dd, .slice a ln c] 25)) w6.heap.size rr dd a ln c zss :=
  ⟨grown_trans h (grown_alloc _ _ _), h.size, heap_alloc_new _ _, (ho.base_le hb).grown (grown_alloc _ _ _)⟩
theorem qa_2 {w w6 : World} {rr dd : Int} {a : Option Addr} {ln c base Bk : Nat} {zss : List (List Int)} {x y z : Value} (h : w.grownBy w6 none) (ho : MOwn w6 base (.slice a ln c) ln zss) (hk : w6.heap[Bk]? = some (.cells #[x, y, z] 25 (0, 0))) (hlo : w.heap.size ≤ Bk) (hb : Bk < base) :
    QA w (((w6.setCell ⟨Bk, 0, none⟩ (.int .i64 rr)).setCell ⟨Bk, 1, none⟩ (.int .i64 dd)).setCell ⟨Bk, 2, none⟩ (.slice a ln c)) Bk rr dd a ln c zss :=
  ⟨grown_set (grown_set (grown_set h (by show _ ≤ Bk; omega)) (by show _ ≤ Bk; omega)) (by show _ ≤ Bk; omega), hlo, heap_st3q hk, (((ho.set ⟨Bk, 0, none⟩ (.int .i64 rr) hb).set ⟨Bk, 1, none⟩ (.int .i64 dd) hb).set ⟨Bk, 2, none⟩ (.slice a ln c) hb).base_le (by omega)⟩
theorem QA.mat {w wx : World} {Bk : Nat} {rr dd : Int} {a : Option Addr} {ln c : Nat} {zss : List (List Int)} (h : QA w wx Bk rr dd a ln c zss) : Mat wx a ln zss := by
  obtain ⟨a', c', e, _, _, hm, _⟩ := h.own.reads
  injection e with e1 _ e3
  subst e1 e3
  exact hm

end Go.Proofs.Ytncbgofcimghnaa
