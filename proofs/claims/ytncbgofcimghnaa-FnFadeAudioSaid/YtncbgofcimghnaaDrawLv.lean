/-
  The draws of audio, alone and with numbers behind it. For every code.
-/
import Derived.Test.YtncbgofcimghnaaDrawAu
namespace Go.Proofs.Ytncbgofcimghnaa
open Go.RowKit

/-- Drawn audio that can be read. -/
def AuOut (w : World) (a : Option Addr) (l : Nat) (xss : List (List Int)) (w' : World) : Prop := Mat w' a l xss ∧ l ≤ 2 ∧ szL xss ≤ 1000 ∧ w.grownBy w' none

theorem cell_ald {w : World} {a : Addr} {v : Value} {o : Obj} (h : w.cell? a = some v) : (w.alloc o).cell? a = some v := (World.cell?_of_block (heap_alloc_old _ _ (block_lt_of_cell h))).trans h
theorem bytesAt_alloc {w : World} {ao : Option Addr} {len : Nat} (h : BytesAt w ao len) (o : Obj) : BytesAt (w.alloc o) ao len := by
  rcases h with h | ⟨b, off, ha, hc⟩
  · exact Or.inl h
  · refine Or.inr ⟨b, off, ha, fun i hi => ?_⟩
    obtain ⟨u, hu, hcu⟩ := hc i hi
    exact ⟨u, hu, (World.cell?_of_block (heap_alloc_old _ _ (block_lt_of_cell hcu))).trans hcu⟩

end Go.Proofs.Ytncbgofcimghnaa
