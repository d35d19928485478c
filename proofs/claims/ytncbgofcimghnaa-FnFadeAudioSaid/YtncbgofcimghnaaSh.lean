/-
  Shifts of samples as plain mathematics; the specification's loops; the program's loop over a list. The lists are at most 64 numbers long.
-/
import Derived.Test.YtncbgofcimghnaaAuto
import Derived.Test.YtncbgofcimghnaaStA
import Derived.Deep.OwnRows
import Derived.Laws.EntriesVeiled
namespace Go.Proofs.Ytncbgofcimghnaa
open Go.RowKit

def upL (s : Nat) (xs : List Int) : List Int := xs.map (fun x => x * 2 ^ s)
def downL (s : Nat) (xs : List Int) : List Int := xs.map (fun x => x / 2 ^ s)
def evenL (s : Nat) (xs : List Int) : Bool := xs.all (fun x => decide (x % 2 ^ s = 0))
/-- A call gives back a new list, and whether there is one. -/
def MadeOk (xs : List Int) (n : Nat) (ok : Bool) (w : World) (e : Ending) (w' : World) : Prop :=
  ∃ v, e = .returned (.tuple #[v, .bool ok]) ∧ Owns w' w.heap.size v n xs ∧ w.grownBy w' none
theorem map_take {f : Int → Int} {xs : List Int} {k : Nat} {x : Int} (h : xs[k]? = some x) : (xs.take (k + 1)).map f = (xs.take k).map f ++ [f x] := by
  rw [List.take_add_one, h]; simp
theorem map_get {f : Int → Int} {xs : List Int} {k : Nat} {x : Int} (h : xs[k]? = some x) : (xs.map f)[k]? = some (f x) := by rw [List.getElem?_map, h]; rfl
theorem pow14 (s : Nat) (h : s ≤ 14) : (1 : Int) ≤ 2 ^ s ∧ (2 : Int) ^ s ≤ 16384 := pow_le s h
theorem up_range {x : Int} {s : Nat} (h0 : -65536 ≤ x) (h1 : x ≤ 65536) (hs : s ≤ 14) : -1073741824 ≤ x * 2 ^ s ∧ x * 2 ^ s ≤ 1073741824 := by
  have hp := pow14 s hs
  have := mul_range h0 h1 (show (0 : Int) ≤ 2 ^ s by omega) hp.2 (by omega)
  omega
theorem down_range {x : Int} {s : Nat} (h0 : -65536 ≤ x) (h1 : x ≤ 65536) (hs : s ≤ 14) : -65536 ≤ x / 2 ^ s ∧ x / 2 ^ s ≤ 65536 := by
  have hp := pow14 s hs
  constructor
  · rw [Int.le_ediv_iff_mul_le (by omega)]
    generalize (2 : Int) ^ s = P at *
    omega
  · exact Int.ediv_le_of_le_mul (by omega) (by generalize (2 : Int) ^ s = P at *; omega)
theorem tdiv_pow {x : Int} {s : Nat} (h : x % 2 ^ s = 0) : x.tdiv (2 ^ s) = x / 2 ^ s := Int.tdiv_eq_ediv_of_dvd (Int.dvd_of_emod_eq_zero h)

theorem own_setH {w w' : World} {base n g c k : Nat} {xs : List Int} {z : Int} (h : Owns w' base (.slice (some ⟨g, 0, none⟩) n c) n xs) (hg : w.grownBy w' none) (hb : w.heap.size ≤ base) :
    Owns (w'.setCell ⟨g, k, none⟩ (.int .i64 z)) base (.slice (some ⟨g, 0, none⟩) n c) n (xs.set k z) ∧ w.grownBy (w'.setCell ⟨g, k, none⟩ (.int .i64 z)) none := by
  have hst := World.ownsRow.stored h k (.int .i64 z)
  rw [← List.map_set] at hst
  exact ⟨hst.1, grown_row hg hst.2 (fun x e => by injection e with e; subst e; exact Nat.le_trans hb (Owns.block h _ rfl))⟩
theorem zeros_ownH (w : World) (n : Nat) (hn : n ≤ 64) : Owns (w.alloc (.cells (madeCells #[.int .i64 0] n) 3)) w.heap.size (.slice (some ⟨w.heap.size, 0, none⟩) n n) n (List.replicate n 0) := by
  have e := part_zero [] n
  have e2 : (List.replicate n (0 : Int)).map (Value.int .i64) = (madeCells #[Value.int .i64 0] n).toList := by rw [e]; simp [part]
  have hl : (madeCells #[Value.int .i64 0] n).toList.length = n := by rw [← e2]; simp
  refine ⟨by simp, .inr ⟨w.heap.size, n, _, rfl, Nat.le_refl _, heap_alloc_new w _, Nat.le_refl _, by unfold maxLen; omega, by rw [← Array.length_toList, hl]; simp, ?_⟩⟩
  rw [e2]; exact List.take_of_length_le (by rw [hl]; omega)

end Go.Proofs.Ytncbgofcimghnaa
