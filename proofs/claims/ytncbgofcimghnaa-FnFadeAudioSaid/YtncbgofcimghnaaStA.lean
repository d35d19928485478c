/-
  Append at a step of a region that draws its order, to a row that the call owns; two rows at once. No condition.
-/
import Derived.Test.YtncbgofcimghnaaMem2
import Derived.Test.YtncbgofcimghnaaStM
import Derived.Test.YtncbgofcimghnaaILin
import Derived.Deep.AppendLies
import Derived.Deep.RegionLaw
import Derived.Deep.LoopGhost
import Derived.Deep.QuietTactic
import Derived.BigQuiet
import Derived.IntWalk
namespace Go.Proofs.Ytncbgofcimghnaa
open Go.RowKit

/-- APPEND at a step of a region: the new value, and where it lies. -/
theorem step_append_ints {ops : Array Oper} {o : Oper} {a : Act} {w : World} {K : Act → World → Prop} {Q : Exit → Act → World → Prop} {E : Prop} (hgd : o.guard = none) (s x : Operand)
    (ho : o.op = .call { callee := .builtin .append, args := #[s, x], argTypes := #[39, 39] })
    (base : Nat) (v : Value) (n : Nat) (ys : List Int) (hs : a.eval s = v) (hown : Owns w base v n ys)
    (ad : Addr) (len cap : Nat) (xs : List Int) (hx : a.eval x = .slice (some ad) len cap) (hi : Ints w (some ad) len xs)
    (hm : 0 < len) (hb : n + len ≤ 8388608) (hbase : base ≤ w.heap.size)
    (h : ∀ g c w', Owns w' base (.slice (some ⟨g, 0, none⟩) (n + len) c) (n + len) (ys ++ xs) → w.grownBy w' v.ownBlock → (v.ownBlock = some g ∨ g = w.heap.size) → g < w'.heap.size → K (a.put o.dst (.slice (some ⟨g, 0, none⟩) (n + len) c)) w') :
    if Region.wanted o (yielded ops a.tmps) = true then Oper.wp Try.prog o a w K Q else E := by
  obtain ⟨i0, hi0, hz0, hz1, hz2⟩ := info_parts info_int
  refine step_append_lies w hgd s x 39 ho base 3 i0 (.int .i64 0) 1 8 Try.underlying39 hi0 hz0 hz1 hz2 rfl (by decide) v n (ys.map (Value.int .i64)) hs hown ad len cap (xs.map (Value.int .i64)) hx (by rw [List.length_map, hi.1, Nat.mul_one]) ?_ (ints_oneCell _ _) hm (by unfold maxLen; omega) (by omega) hbase _ rfl ?_
  · intro j u hu
    rcases hi.2 with h | ⟨b, off, h, hc⟩
    · subst h; simp at hu
    · injection h with h; subst h
      rw [List.getElem?_map] at hu
      obtain ⟨y, hyj, rfl⟩ := Option.map_eq_some_iff.1 hu
      rw [show (⟨b, off, none⟩ : Addr).add j = ⟨b, off + j, none⟩ by simp [Addr.add]]
      exact hc j y hyj
  · intro g c w' h1 h2 h3 h4
    refine h g c w' ?_ h2 h3 h4
    show World.ownsRow _ _ _ _ _ _ _
    rw [List.map_append]; exact h1

/-- Inside a call: two rows of its own, apart from each other. -/
structure Rows2 (base : Nat) (xs ys : List Int) (n m : Nat) (w w' : World) (g h c d : Nat) : Prop where
  o1 : Owns w' base (.slice (some ⟨g, 0, none⟩) n c) n xs
  o2 : Owns w' base (.slice (some ⟨h, 0, none⟩) m d) m ys
  ne : g ≠ h
  g1 : g < w'.heap.size
  h1 : h < w'.heap.size
  gr : w.grownBy w' none

theorem Rows2.grown {base : Nat} {xs ys : List Int} {n m : Nat} {w w1 w2 : World} {g h c d : Nat} (r : Rows2 base xs ys n m w w1 g h c d) (hg : w1.grownBy w2 none) : Rows2 base xs ys n m w w2 g h c d :=
  ⟨r.o1.grown hg, r.o2.grown hg, r.ne, Nat.lt_of_lt_of_le r.g1 hg.size, Nat.lt_of_lt_of_le r.h1 hg.size, grown_trans r.gr hg⟩
theorem Rows2.first {base : Nat} {xs ys zs : List Int} {n m n' : Nat} {w w1 w2 : World} {g h c d g' c' : Nat} (r : Rows2 base xs ys n m w w1 g h c d) (hb : w.heap.size ≤ base)
    (ho : Owns w2 base (.slice (some ⟨g', 0, none⟩) n' c') n' zs) (hg : w1.grownBy w2 (some g)) (hn : some g = some g' ∨ g' = w1.heap.size) (hl : g' < w2.heap.size) : Rows2 base zs ys n' m w w2 g' h c' d := by
  refine ⟨ho, r.o2.kept hg (Or.inr (by simp [Value.ownBlock]; exact fun e => r.ne e.symm)), ?_, hl, Nat.lt_of_lt_of_le r.h1 hg.size, ?_⟩
  · rcases hn with e | e
    · injection e with e; subst e; exact r.ne
    · have := r.h1; omega
  · exact grown_row r.gr hg (fun x e => by injection e with e; have := Owns.block r.o1 g rfl; omega)
theorem Rows2.second {base : Nat} {xs ys zs : List Int} {n m m' : Nat} {w w1 w2 : World} {g h c d h' d' : Nat} (r : Rows2 base xs ys n m w w1 g h c d) (hb : w.heap.size ≤ base)
    (ho : Owns w2 base (.slice (some ⟨h', 0, none⟩) m' d') m' zs) (hg : w1.grownBy w2 (some h)) (hn : some h = some h' ∨ h' = w1.heap.size) (hl : h' < w2.heap.size) : Rows2 base xs zs n m' w w2 g h' c d' := by
  refine ⟨r.o1.kept hg (Or.inr (by simp [Value.ownBlock]; exact r.ne)), ho, ?_, Nat.lt_of_lt_of_le r.g1 hg.size, hl, ?_⟩
  · rcases hn with e | e
    · injection e with e; subst e; exact r.ne
    · have := r.g1; omega
  · exact grown_row r.gr hg (fun x e => by injection e with e; have := Owns.block r.o2 h rfl; omega)
theorem Rows2.two {base : Nat} {xs ys : List Int} {n : Nat} {w w' : World} {g h c d : Nat} (r : Rows2 base xs ys n n w w' g h c d) (hb : w.heap.size ≤ base) : Two xs ys n w w' (.slice (some ⟨g, 0, none⟩) n c) (.slice (some ⟨h, 0, none⟩) n d) :=
  ⟨r.o1.base_le hb, r.o2.base_le hb, fun x e f => r.ne (by simp [Value.ownBlock] at e f; omega), r.gr⟩
theorem owns_lt {w : World} {base n g c : Nat} {xs : List Int} (h : Owns w base (.slice (some ⟨g, 0, none⟩) n c) n xs) : g < w.heap.size := by
  rcases h.2 with ⟨e, _⟩ | ⟨g', cap, cur, e, _, hh, _⟩
  · cases e
  · injection e with e1 e2 e3; injection e1 with e1; injection e1 with e1; subst e1; exact block_lt hh
theorem Rows2.first' {base : Nat} {xs ys zs : List Int} {n m n' : Nat} {w w1 w2 : World} {g h c d g' c' : Nat} (r : Rows2 base xs ys n m w w1 g h c d) (hb : w.heap.size ≤ base)
    (ho : Owns w2 base (.slice (some ⟨g', 0, none⟩) n' c') n' zs) (hg : w1.grownBy w2 (some g)) (hn : g' = g ∨ w1.heap.size ≤ g') : Rows2 base zs ys n' m w w2 g' h c' d := by
  refine ⟨ho, r.o2.kept hg (Or.inr (by simp [Value.ownBlock]; exact fun e => r.ne e.symm)), ?_, owns_lt ho, Nat.lt_of_lt_of_le r.h1 hg.size, ?_⟩
  · rcases hn with e | e
    · subst e; exact r.ne
    · have := r.h1; omega
  · exact grown_row r.gr hg (fun x e => by injection e with e; have := Owns.block r.o1 g rfl; omega)
theorem Rows2.second' {base : Nat} {xs ys zs : List Int} {n m m' : Nat} {w w1 w2 : World} {g h c d h' d' : Nat} (r : Rows2 base xs ys n m w w1 g h c d) (hb : w.heap.size ≤ base)
    (ho : Owns w2 base (.slice (some ⟨h', 0, none⟩) m' d') m' zs) (hg : w1.grownBy w2 (some h)) (hn : h' = h ∨ w1.heap.size ≤ h') : Rows2 base xs zs n m' w w2 g h' c d' := by
  refine ⟨r.o1.kept hg (Or.inr (by simp [Value.ownBlock]; exact r.ne)), ho, ?_, Nat.lt_of_lt_of_le r.g1 hg.size, owns_lt ho, ?_⟩
  · rcases hn with e | e
    · subst e; exact r.ne
    · have := r.g1; omega
  · exact grown_row r.gr hg (fun x e => by injection e with e; have := Owns.block r.o2 h rfl; omega)
/-- Two empty literals. -/
theorem rows2_start (w : World) : Rows2 w.heap.size [] [] 0 0 w ((w.alloc (.cells #[] 3)).alloc (.cells #[] 3)) w.heap.size (w.heap.size + 1) 0 0 := by
  have h1 := (owns_empty w).grown (grown_alloc _ (.cells #[] 3) _)
  have h2 := owns_empty (w.alloc (.cells #[] 3))
  refine ⟨h1, ?_, by omega, by simp; omega, by simp, grown_trans (grown_alloc _ _ _) (grown_alloc _ _ _)⟩
  have := h2.base_le (base' := w.heap.size) (by simp)
  simpa using this

end Go.Proofs.Ytncbgofcimghnaa
