/-
  The table of the number forms: what its listing says of the cells. For every world that holds the listing.
-/
import Derived.Test.YtfncgegglpigkaaDoorNum
import Derived.Test.YtfncgegglpigkaaDoorRows
import Derived.Lib.LaidTab
import Derived.ChangeSame
namespace Go.Proofs.YtfncgegglpigkaaDoor
open Go.RowKit Go.ChangeShapes

/-- Pairs of integers, as a listing gives them. -/
def pairData {H : Type} (k : IntKind) (ps : List (Int × Int)) : DataW H := .agg (ps.map fun p => .agg [.lit (.int k p.1), .lit (.int k p.2)])
/-- The cells of pairs. -/
def pairCells (k : IntKind) (ps : List (Int × Int)) : List Value := ps.flatMap fun p => [.int k p.1, .int k p.2]

theorem pairCells_get {k : IntKind} {ps : List (Int × Int)} {i : Nat} {p : Int × Int} (h : ps[i]? = some p) : (pairCells k ps)[2 * i]? = some (.int k p.1) ∧ (pairCells k ps)[2 * i + 1]? = some (.int k p.2) := by
  induction ps generalizing i with
  | nil => simp at h
  | cons q qs ih =>
    cases i with
    | zero => simp at h; subst h; simp [pairCells]
    | succ i =>
      have := ih (i := i) (by simpa using h)
      simp only [pairCells, List.flatMap_cons] at this ⊢
      rw [show 2 * (i + 1) = (2 * i) + 2 by omega, show (2 * i) + 2 + 1 = (2 * i + 1) + 2 by omega]
      simpa using this

theorem cells_of_pairs {H : Type} {enc : TypeId × Value → H} {P : Program} {w : World} {base : Nat} {sp : Nat → Bool} {held : Bool} {fuel : Nat} {t e i : TypeId} {n : Nat} {k : IntKind} {f0 f1 : Field} {cs : List Value} {ps : List (Int × Int)} {p : List MemPlace}
    (ht : P.underlying t = some (.array n e)) (he : P.underlying e = some (.struct #[f0, f1])) (h0 : f0.type = i ∧ f0.offset = 0) (h1 : f1.type = i ∧ f1.offset = 1) (hi : P.underlying i = some (.int k)) (hci : P.cellsOf i = 1) (hce : P.cellsOf e = 2) (hct : P.cellsOf t = n * 2)
    (h : DataW.trod enc P w base sp held fuel t cs = some (pairData k ps, p)) : ∀ (j : Nat) (q : Int × Int), ps[j]? = some q → cs[2 * j]? = some (.int k q.1) ∧ cs[2 * j + 1]? = some (.int k q.2) := by
  cases fuel with
  | zero => simp [DataW.trod] at h
  | succ fuel =>
    simp only [DataW.trod, ht, hce, hct] at h
    split at h
    · rename_i hl
      obtain ⟨xs, hm, hx⟩ := Option.map_eq_some_iff.1 h
      have hxs : xs.map (·.1) = ps.map fun p => (DataW.agg [.lit (.int k p.1), .lit (.int k p.2)] : DataW H) := by
        have := congrArg Prod.fst hx
        simpa [pairData] using this
      have hxl : xs.length = n := by simpa using Lib.mapM_length hm
      have hpl : ps.length = n := by
        have := congrArg List.length hxs
        simp at this
        omega
      intro j q hq
      have hj : j < n := by have := (List.getElem?_eq_some_iff.1 hq).1; omega
      obtain ⟨b, hb, hf⟩ := Lib.mapM_at hm j j (by simp [hj])
      obtain ⟨y0, y1, m, hx2, hlen, hy0, hy1⟩ := trod_struct2 he hf
      rw [h0.1, h0.2, hci] at hy0
      rw [h1.1, h1.2, hci] at hy1
      obtain ⟨z0, hc0, rfl, _⟩ := DataW.trod_int hi hy0
      obtain ⟨z1, hc1, rfl, _⟩ := DataW.trod_int hi hy1
      have h2 : (xs.map (·.1))[j]? = some (DataW.agg [.lit (.int k z0), .lit (.int k z1)] : DataW H) := by simp [hb, hx2]
      rw [hxs] at h2
      simp only [List.getElem?_map, hq, Option.map_some, Option.some.injEq, DataW.agg.injEq, List.cons.injEq, DataW.lit.injEq, Lit.int.injEq, true_and, and_true] at h2
      obtain ⟨e0, e1⟩ := h2
      subst e0; subst e1
      have g0 := congrArg (·[0]?) hc0
      have g1 := congrArg (·[0]?) hc1
      simp [List.getElem?_drop] at g0 g1
      rw [Nat.mul_comm j 2] at g0 g1
      exact ⟨g0, g1⟩
    · cases h

/-- The six forms: where the next one begins, and the first byte. -/
def formsL : List (Int × Int) := [(128, 0), (2048, 192), (65536, 224), (2097152, 240), (67108864, 248), (2147483648, 252)]

theorem gForms : Tryd.prog.globalNamed "loop.example/losslessaudio/impl.numberForms" = some 0 := by kernel_rfl
theorem gFormsType : (Tryd.prog.globals[0]?).map (·.type) = some 37 := by kernel_rfl
theorem cellsForms : Tryd.prog.cellsOf 37 = 6 * 2 := by kernel_rfl
theorem cellsForm : Tryd.prog.cellsOf 36 = 2 := by kernel_rfl
theorem cellsInt : Tryd.prog.cellsOf 3 = 1 := by kernel_rfl

/-- The world holds the table. -/
def HasForms (W : World) : Prop := ∀ (j : Nat) (q : Int × Int), formsL[j]? = some q → W.cell? ⟨0, 2 * j, none⟩ = some (.int .i64 q.1) ∧ W.cell? ⟨0, 2 * j + 1, none⟩ = some (.int .i64 q.2)

theorem hasForms {W : World} (h : laidMetH Tryd.prog Rows.fnEncodeNumberRow.laid W) : HasForms W := by
  obtain ⟨ps, ⟨g', t', cs, fuel, p, q, hg', ht', hvar, hd, _, _⟩, _⟩ := h
  obtain rfl := Option.some.inj (gForms.symm.trans hg')
  obtain rfl := Option.some.inj (gFormsType.symm.trans ht')
  intro j q hq
  have := cells_of_pairs (ps := formsL) (k := .i64) Tryd.underlying37 Tryd.underlying36 ⟨rfl, rfl⟩ ⟨rfl, rfl⟩ Tryd.underlying3 cellsInt cellsForm cellsForms hd j q hq
  rw [World.var?_cell hg' hvar, World.var?_cell hg' hvar]
  simpa using this
theorem HasForms.grown {w w' : World} (h : HasForms w) (hg : w.grownBy w' none) : HasForms w' :=
  fun j q hq => ⟨hg.cell (h j q hq).1 (by simp), hg.cell (h j q hq).2 (by simp)⟩

end Go.Proofs.YtfncgegglpigkaaDoor
