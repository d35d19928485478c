/-
  Lists of lists of numbers in memory: how they read, and how they are owned. No condition.
-/
import Derived.Test.YtncbgofcimghnaaOwn
namespace Go.Proofs.Ytncbgofcimghnaa
open Go.RowKit

theorem info_slice : (Try.prog.info? 39).map (fun i => (i.zero, i.size, i.bytes)) = some (some (.slice none 0 0), 1, 24) := by kernel_rfl

/-- A slice value reads as one row of numbers. -/
def RowAt (w : World) (u : Value) (xs : List Int) : Prop :=
  ∃ (a : Option Addr) (c : Nat), u = .slice a xs.length c ∧ Ints w a xs.length xs ∧ xs.length ≤ c ∧ c ≤ 9223372036854775807 ∧ (a = none → c = 0)
theorem RowAt.grown {w w' : World} {u : Value} {xs : List Int} (h : RowAt w u xs) (hg : w.grownBy w' none) : RowAt w' u xs := by
  obtain ⟨a, c, h1, h2, h3, h4, h5⟩ := h
  exact ⟨a, c, h1, h2.grown hg, h3, h4, h5⟩

/-- A slice of slices with this address and length reads as the lists. -/
def Mat (w : World) (ao : Option Addr) (len : Nat) (xss : List (List Int)) : Prop :=
  xss.length = len ∧ (xss = [] ∨ ∃ (b off : Nat), ao = some ⟨b, off, none⟩ ∧ ∀ (k : Nat) (xs : List Int), xss[k]? = some xs → ∃ u, w.cell? ⟨b, off + k, none⟩ = some u ∧ RowAt w u xs)

theorem Mat.grown {w w' : World} {ao : Option Addr} {len : Nat} {xss : List (List Int)} (h : Mat w ao len xss) (hg : w.grownBy w' none) : Mat w' ao len xss := by
  refine ⟨h.1, ?_⟩
  rcases h.2 with h | ⟨b, off, ha, hc⟩
  · exact Or.inl h
  · refine Or.inr ⟨b, off, ha, fun k xs hx => ?_⟩
    obtain ⟨u, hu, hr⟩ := hc k xs hx
    exact ⟨u, hg.cell hu (by simp), hr.grown hg⟩

/-- Two values own nothing in common. -/
def Apart (a b : Value) : Prop := a.ownBlock = none ∨ a.ownBlock ≠ b.ownBlock

/-- A value owns rows of numbers, in blocks from base on. -/
def MOwn (w : World) (base : Nat) (v : Value) (n : Nat) (xss : List (List Int)) : Prop :=
  xss.length = n ∧ ∃ vs : List Value, w.ownsRow base 39 1 v n vs ∧ (∀ (k : Nat) (u : Value) (xs : List Int), vs[k]? = some u → xss[k]? = some xs → Owns w base u xs.length xs) ∧ vs.Pairwise Apart

/-- A call gives back new rows. -/
def MadeM (xss : List (List Int)) (len : Nat) (w : World) (e : Ending) (w' : World) : Prop :=
  ∃ v, e = .returned v ∧ MOwn w' w.heap.size v len xss ∧ w.grownBy w' none

theorem type_not {w : World} {base base' g n m c : Nat} {u : Value} {xs : List Int} {vs : List Value} (h : Owns w base u n xs) (hv : w.ownsRow base' 39 1 (.slice (some ⟨g, 0, none⟩) m c) m vs) : u.ownBlock ≠ some g := by
  rcases hv.2 with ⟨e, _⟩ | ⟨g1, c1, cur1, e, _, hh1, _⟩
  · cases e
  · injection e with e _ _
    injection e with e
    injection e with e _ _
    subst e
    rcases h.2 with ⟨rfl, _⟩ | ⟨g2, c2, cur2, rfl, _, hh2, _⟩
    · simp [Value.ownBlock]
    · intro e
      simp only [Value.ownBlock, Option.some.injEq] at e
      subst e
      rw [hh1] at hh2
      simp at hh2

theorem Owns.rowAt {w : World} {base n : Nat} {u : Value} {xs : List Int} (h : Owns w base u n xs) : RowAt w u xs := by
  have hl := h.len_eq
  subst hl
  rcases h.2 with ⟨hv, h0⟩ | ⟨g, cap, cur, hv, _, _, hnc, hcm, _⟩
  · obtain ⟨a, c, e, h1, h2, h3, _⟩ := h.reads
    rw [hv] at e
    injection e with e1 e2 e3
    refine ⟨a, c, by rw [hv, ← e1, ← e2, ← e3], h3, by omega, by omega, h2⟩
  · obtain ⟨a, c, e, h1, h2, h3, _⟩ := h.reads
    rw [hv] at e
    injection e with e1 e2 e3
    subst e3
    refine ⟨a, cap, by rw [hv, ← e1], h3, h1, by unfold maxLen at hcm; omega, h2⟩

theorem MOwn.grown {w w' : World} {base n : Nat} {v : Value} {xss : List (List Int)} (h : MOwn w base v n xss) (hg : w.grownBy w' none) : MOwn w' base v n xss := by
  obtain ⟨hl, vs, h1, h2, h3⟩ := h
  refine ⟨hl, vs, World.ownsRow.kept h1 hg (by cases v.ownBlock <;> simp), fun k u xs hu hx => (h2 k u xs hu hx).grown hg, h3⟩
theorem MOwn.base_le {w : World} {base base' n : Nat} {v : Value} {xss : List (List Int)} (h : MOwn w base v n xss) (hb : base' ≤ base) : MOwn w base' v n xss := by
  obtain ⟨hl, vs, h1, h2, h3⟩ := h
  refine ⟨hl, vs, ⟨h1.1, ?_⟩, fun k u xs hu hx => (h2 k u xs hu hx).base_le hb, h3⟩
  rcases h1.2 with h | ⟨g, cap, cur, hv, hg, r⟩
  · exact Or.inl h
  · exact Or.inr ⟨g, cap, cur, hv, by omega, r⟩
/-- What lies below the base may be written. -/
theorem MOwn.kept {w w' : World} {base n : Nat} {v : Value} {xss : List (List Int)} {row : Option Nat} (h : MOwn w base v n xss) (hg : w.grownBy w' row) (hr : ∀ r, row = some r → r < base) : MOwn w' base v n xss := by
  obtain ⟨hl, vs, h1, h2, h3⟩ := h
  have far : ∀ (o : Option Nat), (∀ k, o = some k → base ≤ k) → (o = none ∨ o ≠ row) := fun o ho => by
    cases o with
    | none => exact Or.inl rfl
    | some k => right; intro e; have := hr k e.symm; have := ho k rfl; omega
  refine ⟨hl, vs, World.ownsRow.kept h1 hg (far _ (fun k e => (World.ownsRow.lt h1 k e).1)), fun k u xs hu hx => (h2 k u xs hu hx).kept hg (far _ ((h2 k u xs hu hx).block)), h3⟩
theorem MOwn.set {w : World} {base n : Nat} {v : Value} {xss : List (List Int)} (h : MOwn w base v n xss) (a : Addr) (u : Value) (hne : a.block < base) : MOwn (w.setCell a u) base v n xss :=
  h.kept (grown_setCell w a u) (fun r e => by injection e with e; omega)

/-- What is owned reads as its rows. -/
theorem MOwn.reads {w : World} {base n : Nat} {v : Value} {xss : List (List Int)} (h : MOwn w base v n xss) :
    ∃ ao cap, v = .slice ao n cap ∧ n ≤ cap ∧ (ao = none → cap = 0) ∧ Mat w ao n xss ∧ (∀ a, ao = some a → base ≤ a.block ∧ a.block < w.heap.size) := by
  obtain ⟨hl, vs, h1, h2, h3⟩ := h
  have hvl : vs.length = n := by have := h1.1; simpa using this
  rcases h1.2 with ⟨hv, hn⟩ | ⟨g, cap, cur, hv, hg, hh, hnc, hcm, hsz, htake⟩
  · subst hv hn
    exact ⟨none, 0, rfl, Nat.le_refl _, fun _ => rfl, ⟨hl, Or.inl (List.length_eq_zero_iff.1 hl)⟩, fun a e => by cases e⟩
  · subst hv
    refine ⟨some ⟨g, 0, none⟩, cap, rfl, hnc, fun e => (by cases e), ⟨hl, Or.inr ⟨g, 0, rfl, fun k xs hx => ?_⟩⟩, fun a e => by injection e with e; subst e; exact ⟨hg, block_lt hh⟩⟩
    have hk : k < n := by have := (List.getElem?_eq_some_iff.1 hx).1; omega
    have hu : vs[k]? = some vs[k] := List.getElem?_eq_getElem (by omega)
    refine ⟨vs[k], ?_, (h2 k _ xs hu hx).rowAt⟩
    rw [Nat.zero_add, World.ownsRow.cellAt h1 k (by omega), hu]

/-- Rows that are being laid: the first k are there, the others are nil. -/
def MPart (w wr : World) (g len : Nat) (xss : List (List Int)) (k : Nat) : Prop :=
  w.grownBy wr none ∧ ∃ vs : List Value, vs.length = k ∧ wr.ownsRow w.heap.size 39 1 (.slice (some ⟨g, 0, none⟩) len len) len (vs ++ List.replicate (len - k) (.slice none 0 0)) ∧
    (∀ (j : Nat) (u : Value) (xs : List Int), vs[j]? = some u → xss[j]? = some xs → Owns wr w.heap.size u xs.length xs) ∧ vs.Pairwise Apart

theorem mpart_zero {w wr : World} {g len : Nat} {xss : List (List Int)} (hg : w.grownBy wr none) (h : wr.ownsRow w.heap.size 39 1 (.slice (some ⟨g, 0, none⟩) len len) len (madeCells #[Value.slice none 0 0] len).toList) : MPart w wr g len xss 0 := by
  refine ⟨hg, [], rfl, ?_, fun j u xs e => by simp at e, List.Pairwise.nil⟩
  have e : (madeCells #[Value.slice none 0 0] len).toList = List.replicate len (.slice none 0 0) := by
    rw [List.eq_replicate_iff]
    constructor
    · simp [madeCells]
    · intro b hb
      simp [madeCells, Nat.mod_one] at hb
      exact hb.2.symm
  rw [e] at h
  simpa using h

theorem mpart_step {w wr w2 : World} {g len k : Nat} {xss : List (List Int)} {xs : List Int} {u : Value} (h : MPart w wr g len xss k) (hk : k < len) (hx : xss[k]? = some xs) (hg : wr.grownBy w2 none) (ho : Owns w2 wr.heap.size u xs.length xs) :
    MPart w (w2.setCell ⟨g, k, none⟩ u) g len xss (k + 1) := by
  obtain ⟨h0, vs, hl, h1, h2, h3⟩ := h
  have h1' := World.ownsRow.kept h1 hg (Or.inr (by simp [Value.ownBlock]))
  have hst := World.ownsRow.stored h1' k u
  have hgb : w.heap.size ≤ g := (World.ownsRow.lt h1 g rfl).1
  have hsz := h0.size
  have ho' : Owns w2 w.heap.size u xs.length xs := ho.base_le hsz
  have hset : (vs ++ List.replicate (len - k) (Value.slice none 0 0)).set k u = (vs ++ [u]) ++ List.replicate (len - (k + 1)) (.slice none 0 0) := by
    rw [List.set_append_right _ _ (by omega), hl, Nat.sub_self, show len - k = (len - (k + 1)) + 1 by omega, List.replicate_succ, List.set_cons_zero]
    simp
  rw [hset] at hst
  refine ⟨grown_new (grown_trans h0 hg) (grown_setCell w2 _ _) hgb, vs ++ [u], by simp [hl], hst.1, ?_, ?_⟩
  · intro j v' xs' hv hxj
    by_cases hj : j < k
    · rw [List.getElem?_append_left (by omega)] at hv
      have := (h2 j v' xs' hv hxj).grown hg
      exact this.set _ _ (type_not this h1')
    · have hjk : j = k := by
        have := (List.getElem?_eq_some_iff.1 hv).1
        simp [hl] at this; omega
      subst hjk
      rw [List.getElem?_append_right (by omega), hl, Nat.sub_self] at hv
      simp only [List.getElem?_cons_zero, Option.some.injEq] at hv
      subst hv
      rw [hx] at hxj
      injection hxj with hxj
      subst hxj
      exact ho'.set _ _ (type_not ho' h1')
  · rw [List.pairwise_append]
    refine ⟨h3, List.pairwise_singleton _ _, fun a ha b hb => ?_⟩
    simp only [List.mem_singleton] at hb
    subst hb
    obtain ⟨j, hj⟩ := List.getElem?_of_mem ha
    cases e : a.ownBlock with
    | none => exact Or.inl e
    | some z =>
      right
      intro e2
      rw [e] at e2
      have hxs : j < xss.length := by
        have := (List.getElem?_eq_some_iff.1 hj).1
        have := (List.getElem?_eq_some_iff.1 hx).1
        omega
      have := (World.ownsRow.lt (h2 j a _ hj (List.getElem?_eq_getElem hxs)) z e).2
      have := ho.block z e2.symm
      omega

theorem mpart_full {w wr : World} {g len : Nat} {xss : List (List Int)} (h : MPart w wr g len xss len) (hl : xss.length = len) : MOwn wr w.heap.size (.slice (some ⟨g, 0, none⟩) len len) len xss ∧ w.grownBy wr none := by
  obtain ⟨h0, vs, hv, h1, h2, h3⟩ := h
  rw [Nat.sub_self, List.replicate_zero, List.append_nil] at h1
  exact ⟨⟨hl, vs, h1, h2, h3⟩, h0⟩

theorem three_cells {w : World} {b : Nat} {x y z : Value} {t : TypeId} (h : w.heap[b]? = some (.cells #[x, y, z] t (0, 0))) : w.cell? ⟨b, 0, none⟩ = some x ∧ w.cell? ⟨b, 1, none⟩ = some y ∧ w.cell? ⟨b, 2, none⟩ = some z :=
  ⟨by rw [cell_of_row w b 0 _ _ _ h]; rfl, by rw [cell_of_row w b 1 _ _ _ h]; rfl, by rw [cell_of_row w b 2 _ _ _ h]; rfl⟩

/-- The number of all rows and of what they hold. -/
def szL (xss : List (List Int)) : Nat := xss.length + (xss.map List.length).sum
theorem szsum_take {xss : List (List Int)} {k : Nat} {xs : List Int} (h : xss[k]? = some xs) : ((xss.take (k + 1)).map List.length).sum = ((xss.take k).map List.length).sum + xs.length := by
  rw [List.take_add_one, h]; simp
theorem szsum_le (xss : List (List Int)) (k : Nat) : ((xss.take k).map List.length).sum ≤ (xss.map List.length).sum := by
  conv => rhs; rw [← List.take_append_drop k xss]
  rw [List.map_append, List.sum_append]
  omega
theorem row_le {xss : List (List Int)} {k : Nat} {xs : List Int} (h : xss[k]? = some xs) : xs.length ≤ szL xss := by
  have := szsum_take h
  have := szsum_le xss (k + 1)
  unfold szL; omega

end Go.Proofs.Ytncbgofcimghnaa
