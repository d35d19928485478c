/-
  Rows that are owned: append of a row, and a store into a row. No condition but lengths.
-/
import Derived.Test.YtncbgofcimghnaaMatM
import Derived.Deep.AppendLies
import Derived.Deep.RegionLaw
namespace Go.Proofs.Ytncbgofcimghnaa
open Go.RowKit

theorem mown_append {wr w2 w w' : World} {base n : Nat} {v v' u : Value} {vs : List Value} {xss : List (List Int)} {xs : List Int} (hl : xss.length = n) (hv : wr.ownsRow base 39 1 v n vs)
    (hr : ∀ (k : Nat) (u : Value) (xs : List Int), vs[k]? = some u → xss[k]? = some xs → Owns wr base u xs.length xs) (hp : vs.Pairwise Apart) {row : Option Nat} (hg : wr.grownBy w2 row) (hrw : ∀ g, row = some g → g < base) (ho : Owns w2 wr.heap.size u xs.length xs) (hg2 : w2.grownBy w none)
    (hbase : base ≤ wr.heap.size) (h1 : w'.ownsRow base 39 1 v' (n + 1) (vs ++ [u])) (h2 : w.grownBy w' v.ownBlock) : MOwn w' base v' (n + 1) (xss ++ [xs]) := by
  have hvl : vs.length = n := by have := hv.1; simpa using this
  have far0 : ∀ (o : Option Nat), (∀ k, o = some k → base ≤ k) → (o = none ∨ o ≠ row) := fun o ho => by
    cases o with
    | none => exact Or.inl rfl
    | some k => right; intro e; have := hrw k e.symm; have := ho k rfl; omega
  have hvw := World.ownsRow.kept (World.ownsRow.kept hv hg (far0 _ (fun k e => (World.ownsRow.lt hv k e).1))) hg2 (by cases v.ownBlock <;> simp)
  have far : ∀ (b m : Nat) (z : Value) (zs : List Int), Owns w b z m zs → z.ownBlock = none ∨ z.ownBlock ≠ v.ownBlock := by
    intro b m z zs hz
    rcases hvw.2 with ⟨e, _⟩ | ⟨g, cap, cur, e, _⟩
    · subst e
      cases hzb : z.ownBlock with
      | none => exact Or.inl rfl
      | some k => right; simp [Value.ownBlock]
    · subst e
      right
      have := type_not hz hvw
      simpa [Value.ownBlock] using this
  refine ⟨by simp [hl], vs ++ [u], h1, ?_, ?_⟩
  · intro k z zs hz hzs
    by_cases hk : k < n
    · rw [List.getElem?_append_left (by omega)] at hz
      rw [List.getElem?_append_left (by omega)] at hzs
      have h3 := ((hr k z zs hz hzs).kept hg (far0 _ ((hr k z zs hz hzs).block))).grown hg2
      exact h3.kept h2 (far _ _ _ _ h3)
    · have hkn : k = n := by
        have := (List.getElem?_eq_some_iff.1 hz).1
        simp [hvl] at this; omega
      subst hkn
      rw [List.getElem?_append_right (by omega), hvl, Nat.sub_self] at hz
      rw [List.getElem?_append_right (by omega), hl, Nat.sub_self] at hzs
      simp only [List.getElem?_cons_zero, Option.some.injEq] at hz hzs
      subst hz; subst hzs
      have h3 := ho.grown hg2
      exact (h3.kept h2 (far _ _ _ _ h3)).base_le hbase
  · rw [List.pairwise_append]
    refine ⟨hp, List.pairwise_singleton _ _, fun a ha b hb => ?_⟩
    simp only [List.mem_singleton] at hb
    subst hb
    obtain ⟨j, hj⟩ := List.getElem?_of_mem ha
    cases e : a.ownBlock with
    | none => exact Or.inl e
    | some z =>
      right
      intro e2
      rw [e] at e2
      have hjl := (List.getElem?_eq_some_iff.1 hj).1
      have := (World.ownsRow.lt (hr j a _ hj (List.getElem?_eq_getElem (by omega))) z e).2
      have := ho.block z e2.symm
      omega

/-- APPEND of a row. -/
theorem append_row {ops : Array Oper} {rest : List Oper} {o : Oper} {a : Act} {wr w2 w : World} {Q : Exit → Act → World → Prop} (hgd : o.guard = none) (s x : Operand)
    (ho : o.op = .call { callee := .builtin .append, args := #[s, x], argTypes := #[23, 23] })
    (base : Nat) (v : Value) (n : Nat) (xss : List (List Int)) (hs : a.eval s = v) (hown : MOwn wr base v n xss) {row : Option Nat} (hg : wr.grownBy w2 row) (hrw : ∀ g, row = some g → g < base) (u : Value) (xs : List Int) (hrow : Owns w2 wr.heap.size u xs.length xs) (hg2 : w2.grownBy w none)
    (ad : Addr) (cap : Nat) (hx : a.eval x = .slice (some ad) 1 cap) (hnew : w.cell? ad = some u) (hb : n ≤ 1000) (hbase : base ≤ wr.heap.size)
    (h : ∀ v' w', MOwn w' base v' (n + 1) (xss ++ [xs]) → w.grownBy w' v.ownBlock → wpList Try.prog ops Q rest (a.put o.dst v') w') : wpList Try.prog ops Q (o :: rest) a w := by
  obtain ⟨i0, hi0, hz0, hz1, hz2⟩ := info_parts info_slice
  obtain ⟨hl, vs, h1, h2, h3⟩ := hown
  have hvw := World.ownsRow.kept (World.ownsRow.kept h1 hg (by cases e : v.ownBlock with | none => exact Or.inl rfl | some k => right; intro e2; have := hrw k e2.symm; have := (World.ownsRow.lt h1 k e).1; omega)) hg2 (by cases v.ownBlock <;> simp)
  have hu : u.oneCell' = true := by
    rcases hrow.2 with ⟨e, _⟩ | ⟨g, c, cur, e, _⟩ <;> subst e <;> rfl
  refine wpList_append_own w hgd s x 23 ho base 39 i0 (.slice none 0 0) 1 24 Try.underlying23 hi0 hz0 hz1 hz2 rfl (by decide) v n vs hs hvw ad 1 cap [u] hx rfl ?_ (by intro z hz; simp at hz; subst hz; exact hu) (by unfold maxLen; omega) (by omega) (by have := hg.size; have := hg2.size; omega) ?_
  · intro j z hj
    match j, hj with
    | 0, hj => simp at hj; subst hj; rw [show ad.add 0 = ad by simp [Addr.add]]; exact hnew
  · intro v' w' e1 e2 _
    exact h v' w' (mown_append hl h1 h2 h3 hg hrw hrow hg2 hbase e1 e2) e2

/-- APPEND of a row at a step of a region: the new value, and where it lies. -/
theorem step_append_row {ops : Array Oper} {o : Oper} {a : Act} {wr w2 w : World} {K : Act → World → Prop} {Q : Exit → Act → World → Prop} {E : Prop} (hgd : o.guard = none) (s x : Operand)
    (ho : o.op = .call { callee := .builtin .append, args := #[s, x], argTypes := #[23, 23] })
    (base : Nat) (v : Value) (n : Nat) (xss : List (List Int)) (hs : a.eval s = v) (hown : MOwn wr base v n xss) {row : Option Nat} (hg : wr.grownBy w2 row) (hrw : ∀ g, row = some g → g < base) (u : Value) (xs : List Int) (hrow : Owns w2 wr.heap.size u xs.length xs) (hg2 : w2.grownBy w none)
    (ad : Addr) (cap : Nat) (hx : a.eval x = .slice (some ad) 1 cap) (hnew : w.cell? ad = some u) (hb : n ≤ 1000) (hbase : base ≤ wr.heap.size)
    (h : ∀ g c w', MOwn w' base (.slice (some ⟨g, 0, none⟩) (n + 1) c) (n + 1) (xss ++ [xs]) → w.grownBy w' v.ownBlock → (v.ownBlock = some g ∨ g = w.heap.size) → g < w'.heap.size → K (a.put o.dst (.slice (some ⟨g, 0, none⟩) (n + 1) c)) w') :
    if Region.wanted o (yielded ops a.tmps) = true then Oper.wp Try.prog o a w K Q else E := by
  obtain ⟨i0, hi0, hz0, hz1, hz2⟩ := info_parts info_slice
  obtain ⟨hl, vs, h1, h2, h3⟩ := hown
  have hvw := World.ownsRow.kept (World.ownsRow.kept h1 hg (by cases e : v.ownBlock with | none => exact Or.inl rfl | some k => right; intro e2; have := hrw k e2.symm; have := (World.ownsRow.lt h1 k e).1; omega)) hg2 (by cases v.ownBlock <;> simp)
  have hu : u.oneCell' = true := by
    rcases hrow.2 with ⟨e, _⟩ | ⟨g, c, cur, e, _⟩ <;> subst e <;> rfl
  refine step_append_lies w hgd s x 23 ho base 39 i0 (.slice none 0 0) 1 24 Try.underlying23 hi0 hz0 hz1 hz2 rfl (by decide) v n vs hs hvw ad 1 cap [u] hx rfl ?_ (by intro z hz; simp at hz; subst hz; exact hu) (by decide) (by unfold maxLen; omega) (by omega) (by have := hg.size; have := hg2.size; omega) _ rfl ?_
  · intro j z hj
    match j, hj with
    | 0, hj => simp at hj; subst hj; rw [show ad.add 0 = ad by simp [Addr.add]]; exact hnew
  · intro g c w' e1 e2 e3 e4
    exact h g c w' (mown_append hl h1 h2 h3 hg hrw hrow hg2 hbase e1 e2) e2 e3 e4

/-- An empty list of rows, just laid; and none. -/
theorem mown_empty (w : World) : MOwn (w.alloc (.cells #[] 39)) w.heap.size (.slice (some ⟨w.heap.size, 0, none⟩) 0 0) 0 [] :=
  ⟨rfl, [], World.ownsRow_made w #[] 0 (Nat.le_refl _) (by simp [maxLen]) (by simp), fun k u xs h => by simp at h, List.Pairwise.nil⟩
theorem mown_nil (w : World) (base : Nat) : MOwn w base (.slice none 0 0) 0 [] :=
  ⟨rfl, [], World.ownsRow_nil w base _ 1, fun k u xs h => by simp at h, List.Pairwise.nil⟩

/-- Some rows lie in a block of their own. -/
theorem MOwn.form {w : World} {base n : Nat} {v : Value} {xss : List (List Int)} (h : MOwn w base v n xss) (h0 : 0 < n) : ∃ M c, v = .slice (some ⟨M, 0, none⟩) n c ∧ n ≤ c ∧ base ≤ M ∧ ∃ cur, w.heap[M]? = some (.cells cur 39 (0, 0)) := by
  obtain ⟨_, vs, h1, _, _⟩ := h
  rcases h1.2 with ⟨_, e0⟩ | ⟨M, c, cur, rfl, hM, hh, hnc, _⟩
  · omega
  · exact ⟨M, c, rfl, hnc, hM, cur, hh⟩

/-- A store into a row: where it lies, and what the rows are behind it. -/
theorem MOwn.cellset {w : World} {base n i k : Nat} {v : Value} {xss : List (List Int)} {xs : List Int} {x : Int} (h : MOwn w base v n xss) (hi : xss[i]? = some xs) (hk : xs[k]? = some x) :
    ∃ M c g c', v = .slice (some ⟨M, 0, none⟩) n c ∧ w.cell? ⟨M, i, none⟩ = some (.slice (some ⟨g, 0, none⟩) xs.length c') ∧ w.cell? ⟨g, k, none⟩ = some (.int .i64 x) ∧ w.frozen? ⟨g, k, none⟩ = false ∧ base ≤ M ∧ M < w.heap.size ∧ base ≤ g ∧ g < w.heap.size ∧ M ≠ g ∧ (∃ cur, w.heap[g]? = some (.cells cur 3 (0, 0))) ∧ (∃ cur, w.heap[M]? = some (.cells cur 39 (0, 0))) ∧
      ∀ y, MOwn (w.setCell ⟨g, k, none⟩ (.int .i64 y)) base v n (xss.set i (xs.set k y)) := by
  obtain ⟨hl, vs, h1, h2, h3⟩ := h
  have hin : i < n := by have := (List.getElem?_eq_some_iff.1 hi).1; omega
  have hkl : k < xs.length := (List.getElem?_eq_some_iff.1 hk).1
  have hvl : vs.length = n := by have := h1.1; simpa using this
  rcases h1.2 with ⟨e, e0⟩ | ⟨M, c, cur, rfl, hM, hh, hnc, hcm, hsz, htake⟩
  · omega
  have hu : vs[i]? = some vs[i] := List.getElem?_eq_getElem (by omega)
  have hrow := h2 i _ xs hu hi
  obtain ⟨u, hue⟩ : ∃ u, vs[i] = u := ⟨_, rfl⟩
  rw [hue] at hu hrow
  rcases hrow.2 with ⟨e, e0⟩ | ⟨g, c', cur', e, hg0, hh', _⟩
  · omega
  subst e
  have hne : M ≠ g := by
    have := type_not hrow h1
    intro e; subst e; simp [Value.ownBlock] at this
  refine ⟨M, c, g, c', rfl, ?_, ?_, World.ownsRow.frozenAt hrow k, hM, block_lt hh, hg0, block_lt hh', hne, ⟨_, hh'⟩, ⟨_, hh⟩, ?_⟩
  · rw [World.ownsRow.cellAt h1 i (by omega), hu]
  · rw [World.ownsRow.cellAt hrow k (by omega), List.getElem?_map, hk]; rfl
  · intro y
    have hs := World.ownsRow.stored hrow k (.int .i64 y)
    refine ⟨by simp [hl], vs, World.ownsRow.kept h1 hs.2 (Or.inr (by simp [Value.ownBlock]; omega)), ?_, h3⟩
    intro j z zs hz hzs
    by_cases hji : j = i
    · subst hji
      rw [hu] at hz
      injection hz with hz
      subst hz
      rw [List.getElem?_set_self (by omega)] at hzs
      injection hzs with hzs
      subst hzs
      rw [List.length_set]
      have := hs.1
      rw [← List.map_set] at this
      exact this
    · rw [List.getElem?_set_ne (by omega)] at hzs
      have hz2 := h2 j z zs hz hzs
      refine hz2.kept hs.2 ?_
      have hjl : j < vs.length := (List.getElem?_eq_some_iff.1 hz).1
      rw [List.getElem?_eq_getElem hjl] at hz
      injection hz with hz
      have hap : Apart z (.slice (some ⟨g, 0, none⟩) xs.length c') ∨ Apart (.slice (some ⟨g, 0, none⟩) xs.length c') z := by
        rw [List.pairwise_iff_getElem] at h3
        rcases Nat.lt_or_gt_of_ne hji with h | h
        · left; have := h3 j i hjl (by omega) h; rw [hz, hue] at this; exact this
        · right; have := h3 i j (by omega) hjl h; rw [hz, hue] at this; exact this
      rcases hap with h | h
      · rcases h with h | h
        · exact Or.inl h
        · exact Or.inr (by simpa [Value.ownBlock] using h)
      · rcases h with h | h
        · simp [Value.ownBlock] at h
        · right; intro e; exact h (by rw [e]; rfl)

theorem MOwn.cellset2 {w : World} {base n i k M c : Nat} {xss : List (List Int)} {xs : List Int} {x : Int} (h : MOwn w base (.slice (some ⟨M, 0, none⟩) n c) n xss) (hi : xss[i]? = some xs) (hk : xs[k]? = some x) :
    ∃ g c', w.cell? ⟨M, i, none⟩ = some (.slice (some ⟨g, 0, none⟩) xs.length c') ∧ w.cell? ⟨g, k, none⟩ = some (.int .i64 x) ∧ w.frozen? ⟨g, k, none⟩ = false ∧ base ≤ M ∧ M < w.heap.size ∧ base ≤ g ∧ g < w.heap.size ∧ M ≠ g ∧ (∃ cur, w.heap[g]? = some (.cells cur 3 (0, 0))) ∧
      ∀ y, MOwn (w.setCell ⟨g, k, none⟩ (.int .i64 y)) base (.slice (some ⟨M, 0, none⟩) n c) n (xss.set i (xs.set k y)) := by
  obtain ⟨M', c2, g, c', e, h1, h2, h3, h4, h5, h6, h7, h8, h9, _, h10⟩ := h.cellset hi hk
  injection e with e1 _ e3
  injection e1 with e1
  injection e1 with e1 _ _
  subst e1
  exact ⟨g, c', h1, h2, h3, h4, h5, h6, h7, h8, h9, h10⟩

end Go.Proofs.Ytncbgofcimghnaa
