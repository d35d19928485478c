/-
  The reader of the statements' draws: what 'newReader', 'pick' and 'one' do, for every code. No condition but the size of the place.
-/
import Derived.Test.YtlibcppkhahobaaBase
import Derived.Test.YtlibcppkhahobaaChecked
import Derived.Deep.QuietTactic
import Derived.BigQuiet
namespace Go.Proofs.Ytlibcppkhahobaa
open Go.RowKit

def PickMix (n : Int) (e : Ending) : Prop := ∃ m : Int, e = .returned (.int .i64 m) ∧ 0 ≤ m ∧ m < n
theorem mixed_of {n x : Int} (h0 : 0 ≤ x) (hn : 1 ≤ n) : PickMix n (.returned (.int .i64 (x.tmod n))) :=
  ⟨_, rfl, by rw [Int.tmod_eq_emod_of_nonneg h0]; exact Int.emod_nonneg _ (by omega), by rw [Int.tmod_eq_emod_of_nonneg h0]; exact Int.emod_lt_of_pos _ (by omega)⟩

/-- The bytes of a slice can be read. -/
def BytesAt (w : World) (ao : Option Addr) (len : Nat) : Prop :=
  len = 0 ∨ ∃ (b off : Nat), ao = some ⟨b, off, none⟩ ∧ ∀ i : Nat, i < len → ∃ u : Nat, u < 256 ∧ w.cell? ⟨b, off + i, none⟩ = some (.int .u8 u)

/-- The numbers of a list that has just been laid. -/
theorem lit_cells (w : World) (xs : List Int) (t : TypeId) (k : Nat) (hk : k < xs.length) :
    ∃ x : Int, x ∈ xs ∧ (w.alloc (.cells (xs.map (Value.int .i64)).toArray t)).cell? ⟨w.heap.size, 0 + k, none⟩ = some (.int .i64 x) := by
  refine ⟨xs[k], List.getElem_mem _, ?_⟩
  rw [cell_of_row _ w.heap.size (0 + k) _ _ _ (heap_alloc_new w _)]
  simp [List.getElem?_map, List.getElem?_eq_getElem hk]

end Go.Proofs.Ytlibcppkhahobaa
