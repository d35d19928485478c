/-
  What a walk carries of the blocks that its call has made: one fact for all of them. No condition.
-/
import Derived.Test.YtncbgofcimghnaaOwn
namespace Go.Proofs.Ytncbgofcimghnaa
open Go.RowKit

/-- Blocks that the call has made since w0, each known whole; nothing older has turned. -/
structure Mem (w0 w : World) (L : List (Nat × Obj)) : Prop where
  g : w0.grownBy w none
  h : ∀ p ∈ L, w.heap[p.1]? = some p.2
  n : (L.map (·.1)).Nodup
  lo : ∀ p ∈ L, w0.heap.size ≤ p.1

theorem Mem.start (w : World) : Mem w w [] := ⟨grown_refl _ _, by simp, by simp, by simp⟩
theorem Mem.grown {w0 w w' : World} {L : List (Nat × Obj)} (m : Mem w0 w L) (hg : w.grownBy w' none) : Mem w0 w' L :=
  ⟨grown_trans m.g hg, fun p hp => grown_heap hg (m.h p hp) (by simp), m.n, m.lo⟩
theorem Mem.get {w0 w : World} {L : List (Nat × Obj)} (m : Mem w0 w L) {b : Nat} {o : Obj} (h : (b, o) ∈ L) : w.heap[b]? = some o := m.h _ h
theorem Mem.cast {w0 w : World} {L L' : List (Nat × Obj)} (m : Mem w0 w L) (h : L = L') : Mem w0 w L' := h ▸ m

theorem nodup_add {L L1 : List (Nat × Obj)} {s : Nat} (h : (L.map (·.1)).Nodup) (h1 : (L1.map (·.1)).Nodup) (hlt : ∀ p ∈ L, p.1 < s) (hge : ∀ p ∈ L1, s ≤ p.1) : ((L ++ L1).map (·.1)).Nodup := by
  rw [List.map_append, List.nodup_append]
  refine ⟨h, h1, fun a ha b hb e => ?_⟩
  rw [List.mem_map] at ha hb
  obtain ⟨p, hp, rfl⟩ := ha
  obtain ⟨q, hq, rfl⟩ := hb
  have := hlt p hp
  have := hge q hq
  omega

theorem Mem.lt {w0 w : World} {L : List (Nat × Obj)} (m : Mem w0 w L) : ∀ p ∈ L, p.1 < w.heap.size := fun p hp => block_lt (m.h p hp)

theorem Mem.block {w0 w : World} {L : List (Nat × Obj)} (m : Mem w0 w L) (o : Obj) : Mem w0 (w.alloc o) (L ++ [(w.heap.size, o)]) := by
  refine ⟨grown_trans m.g (grown_alloc _ _ _), ?_, nodup_add m.n (by simp) m.lt (by simp), ?_⟩
  · intro p hp
    rcases List.mem_append.1 hp with h | h
    · exact grown_heap (grown_alloc w o none) (m.h p h) (by simp)
    · simp at h; subst h; exact heap_alloc_new w o
  · intro p hp
    rcases List.mem_append.1 hp with h | h
    · exact m.lo p h
    · simp at h; subst h; exact m.g.size

/-- A list of at most one block stands for what a value owns. -/
structure Stands (L1 : List (Nat × Obj)) (base : Nat) (v : Value) (n : Nat) (xs : List Int) : Prop where
  owns : ∀ w', (∀ p ∈ L1, w'.heap[p.1]? = some p.2) → Owns w' base v n xs
  one : ∀ g, v.ownBlock = some g → ∃ o, L1 = [(g, o)]
  nil : v.ownBlock = none → L1 = []

theorem stands_of {w : World} {base n : Nat} {v : Value} {xs : List Int} (h : Owns w base v n xs) : ∃ L1, Stands L1 base v n xs ∧ (∀ p ∈ L1, w.heap[p.1]? = some p.2) ∧ (L1.map (·.1)).Nodup ∧ ∀ p ∈ L1, base ≤ p.1 := by
  rcases h.2 with ⟨rfl, h0⟩ | ⟨g, cap, cur, rfl, hg, hh, r⟩
  · exact ⟨[], ⟨fun w' _ => ⟨h.1, .inl ⟨rfl, h0⟩⟩, fun g e => by simp [Value.ownBlock] at e, fun _ => rfl⟩, by simp, by simp, by simp⟩
  · refine ⟨[(g, .cells cur 3 (0, 0))], ⟨fun w' hw => ⟨h.1, .inr ⟨g, cap, cur, rfl, hg, hw (g, .cells cur 3 (0, 0)) (by simp), r⟩⟩, fun g' e => ⟨.cells cur 3 (0, 0), ?_⟩, fun e => by simp [Value.ownBlock] at e⟩, by simpa using hh, by simp, by simpa using hg⟩
    simp [Value.ownBlock] at e; subst e; rfl

theorem Mem.own {w0 w w' : World} {L : List (Nat × Obj)} {n base : Nat} {v : Value} {xs : List Int} (m : Mem w0 w L) (hg : w.grownBy w' none) (hb : w.heap.size ≤ base) (ho : Owns w' base v n xs) :
    ∃ L1, Stands L1 base v n xs ∧ Mem w0 w' (L ++ L1) := by
  obtain ⟨L1, hs, hh, hn, hge⟩ := stands_of ho
  refine ⟨L1, hs, grown_trans m.g hg, ?_, nodup_add m.n hn m.lt (fun p hp => Nat.le_trans hb (hge p hp)), ?_⟩
  · intro p hp
    rcases List.mem_append.1 hp with h | h
    · exact grown_heap hg (m.h p h) (by simp)
    · exact hh p h
  · intro p hp
    rcases List.mem_append.1 hp with h | h
    · exact m.lo p h
    · exact Nat.le_trans m.g.size (Nat.le_trans hb (hge p h))

theorem Mem.owns {w0 w : World} {L L1 : List (Nat × Obj)} {n base : Nat} {v : Value} {xs : List Int} (m : Mem w0 w L) (hs : Stands L1 base v n xs) (hin : ∀ p ∈ L1, p ∈ L) : Owns w base v n xs :=
  hs.owns w (fun p hp => m.h p (hin p hp))

theorem Mem.write {w0 w w' : World} {A L1 B : List (Nat × Obj)} {n n' base : Nat} {v : Value} {xs xs' : List Int} (m : Mem w0 w (A ++ L1 ++ B)) (hs : Stands L1 base v n xs)
    (hg : w.grownBy w' v.ownBlock) (ho : Owns w' base v n' xs') : ∃ L2, Stands L2 base v n' xs' ∧ Mem w0 w' (A ++ L2 ++ B) := by
  obtain ⟨L2, hs2, hh2, hn2, hge2⟩ := stands_of ho
  refine ⟨L2, hs2, ?_⟩
  cases hv : v.ownBlock with
  | none =>
    rw [hv] at hg
    have e1 := hs.nil hv
    have e2 := hs2.nil hv
    subst e1; subst e2
    exact m.grown hg
  | some g =>
    rw [hv] at hg
    obtain ⟨o1, e1⟩ := hs.one g hv
    obtain ⟨o2, e2⟩ := hs2.one g hv
    subst e1; subst e2
    have hn := m.n
    simp only [List.map_append, List.map_cons, List.map_nil] at hn
    have hnd := hn
    rw [List.nodup_append, List.nodup_append] at hn
    obtain ⟨⟨_, _, hA⟩, _, hB⟩ := hn
    have hlog : w0.heap.size ≤ g := m.lo (g, o1) (by simp)
    refine ⟨grown_new m.g hg hlog, ?_, by simpa using hnd, ?_⟩
    · intro p hp
      rcases List.mem_append.1 hp with hp | hp
      · rcases List.mem_append.1 hp with hp | hp
        · refine grown_heap hg (m.h p (by simp [hp])) (fun e => ?_)
          injection e with e
          exact hA p.1 (List.mem_map.2 ⟨p, hp, rfl⟩) g (by simp) e.symm
        · exact hh2 p hp
      · refine grown_heap hg (m.h p (by simp [hp])) (fun e => ?_)
        injection e with e
        exact hB g (by simp) p.1 (List.mem_map.2 ⟨p, hp, rfl⟩) e
    · intro p hp
      rcases List.mem_append.1 hp with hp | hp
      · rcases List.mem_append.1 hp with hp | hp
        · exact m.lo p (by simp [hp])
        · simp at hp; subst hp; exact hlog
      · exact m.lo p (by simp [hp])

/-- What is owned may move to a new row: the blocks below its base stay. -/
theorem Mem.replace {w0 w w' : World} {A L1 : List (Nat × Obj)} {n n' base : Nat} {v v' : Value} {xs xs' : List Int} (m : Mem w0 w (A ++ L1)) (hs : Stands L1 base v n xs)
    (hA : ∀ p ∈ A, p.1 < base) (hb : w0.heap.size ≤ base) (hg : w.grownBy w' v.ownBlock) (ho : Owns w' base v' n' xs') : ∃ L2, Stands L2 base v' n' xs' ∧ Mem w0 w' (A ++ L2) := by
  have hrow : ∀ g, v.ownBlock = some g → base ≤ g := fun g e => by
    have h1 := hs.one g e
    obtain ⟨o, rfl⟩ := h1
    have hw : w.heap[g]? = some o := m.h (g, o) (by simp)
    exact Owns.block (hs.owns w (fun p hp => by simp at hp; subst hp; exact hw)) g e
  obtain ⟨L2, hs2, hh2, hn2, hge2⟩ := stands_of ho
  have hnA : (A.map (·.1)).Nodup := by
    have := m.n; rw [List.map_append, List.nodup_append] at this; exact this.1
  refine ⟨L2, hs2, grown_row m.g hg (fun g e => Nat.le_trans hb (hrow g e)), ?_, nodup_add hnA hn2 hA hge2, ?_⟩
  · intro p hp
    rcases List.mem_append.1 hp with h | h
    · exact grown_heap hg (m.h p (by simp [h])) (fun e => by have := hrow _ e; have := hA p h; omega)
    · exact hh2 p h
  · intro p hp
    rcases List.mem_append.1 hp with h | h
    · exact m.lo p (by simp [h])
    · exact Nat.le_trans hb (hge2 p h)

theorem Stands.toInts {w w0 : World} {L L1 : List (Nat × Obj)} {base len cap : Nat} {ao : Option Addr} {xs : List Int} (hs : Stands L1 base (.slice ao len cap) len xs) (m : Mem w0 w L) (hin : ∀ p ∈ L1, p ∈ L) : Ints w ao len xs :=
  (m.owns hs hin).toInts
theorem two_cells {w : World} {b : Nat} {x y : Value} {t : TypeId} (h : w.heap[b]? = some (.cells #[x, y] t (0, 0))) : w.cell? ⟨b, 0, none⟩ = some x ∧ w.cell? ⟨b, 1, none⟩ = some y :=
  ⟨by rw [cell_of_row w b 0 _ _ _ h]; rfl, by rw [cell_of_row w b 1 _ _ _ h]; rfl⟩

end Go.Proofs.Ytncbgofcimghnaa
