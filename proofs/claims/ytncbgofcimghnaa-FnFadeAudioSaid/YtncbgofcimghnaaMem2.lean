/-
  Two new lists at once, and what stands of them. No condition.
-/
import Derived.Test.YtncbgofcimghnaaMem
namespace Go.Proofs.Ytncbgofcimghnaa
open Go.RowKit

/-- Two new lists of the same length that share no memory. -/
structure Two (xs ys : List Int) (n : Nat) (w w' : World) (v u : Value) : Prop where
  o1 : Owns w' w.heap.size v n xs
  o2 : Owns w' w.heap.size u n ys
  d : ∀ g, v.ownBlock = some g → u.ownBlock ≠ some g
  g : w.grownBy w' none

/-- A call gives back two new lists. -/
def MadeTwo (xs ys : List Int) (n : Nat) (w : World) (e : Ending) (w' : World) : Prop :=
  ∃ v u, e = .returned (.tuple #[v, u]) ∧ Two xs ys n w w' v u
/-- A call gives back two new lists, and whether there are any. -/
def MadeTwoB (xs ys : List Int) (n : Nat) (ok : Bool) (w : World) (e : Ending) (w' : World) : Prop :=
  ∃ v u, e = .returned (.tuple #[v, u, .bool ok]) ∧ Two xs ys n w w' v u

theorem two_nil {w w' : World} (hg : w.grownBy w' none) : Two [] [] 0 w w' (.slice none 0 0) (.slice none 0 0) :=
  ⟨World.ownsRow_nil _ _ _ _, World.ownsRow_nil _ _ _ _, fun g e => by simp [Value.ownBlock] at e, hg⟩

theorem Two.grown {xs ys : List Int} {n : Nat} {w w1 w2 : World} {v u : Value} (h : Two xs ys n w w1 v u) (hg : w1.grownBy w2 none) : Two xs ys n w w2 v u :=
  ⟨h.o1.grown hg, h.o2.grown hg, h.d, grown_trans h.g hg⟩
theorem Two.swap {xs ys : List Int} {n : Nat} {w w1 : World} {v u : Value} (h : Two xs ys n w w1 v u) : Two ys xs n w w1 u v :=
  ⟨h.o2, h.o1, fun g e f => h.d g f e, h.g⟩
theorem Two.before {xs ys : List Int} {n : Nat} {w0 w w1 : World} {v u : Value} (h : Two xs ys n w w1 v u) (hg : w0.grownBy w none) : Two xs ys n w0 w1 v u :=
  ⟨h.o1.base_le hg.size, h.o2.base_le hg.size, h.d, grown_trans hg h.g⟩
theorem MadeTwo.before {xs ys : List Int} {n : Nat} {w0 w w1 : World} {e : Ending} (h : MadeTwo xs ys n w e w1) (hg : w0.grownBy w none) : MadeTwo xs ys n w0 e w1 := by
  obtain ⟨v, u, rfl, ht⟩ := h
  exact ⟨v, u, rfl, ht.before hg⟩

/-- One list was made, and then another one. -/
theorem two_of {xs ys : List Int} {n : Nat} {w w1 w2 : World} {v u : Value} (h1 : Owns w1 w.heap.size v n xs) (g1 : w.grownBy w1 none) (h2 : Owns w2 w1.heap.size u n ys) (g2 : w1.grownBy w2 none) : Two xs ys n w w2 v u :=
  ⟨h1.grown g2, h2.base_le g1.size, fun g e f => by
    have a := Owns.block h2 g f
    rcases h1.2 with ⟨rfl, _⟩ | ⟨g', cap, cur, rfl, hg, hh, r⟩
    · simp [Value.ownBlock] at e
    · simp [Value.ownBlock] at e
      subst e
      have := block_lt hh
      omega, grown_trans g1 g2⟩

theorem Mem.own2 {w0 w w' : World} {L : List (Nat × Obj)} {n n' base : Nat} {v u : Value} {xs ys : List Int} (m : Mem w0 w L) (hg : w.grownBy w' none) (hb : w.heap.size ≤ base) (ho : Owns w' base v n xs) (hp : Owns w' base u n' ys)
    (hd : ∀ g, v.ownBlock = some g → u.ownBlock ≠ some g) : ∃ L1 L2, Stands L1 base v n xs ∧ Stands L2 base u n' ys ∧ Mem w0 w' (L ++ L1 ++ L2) := by
  obtain ⟨L1, hs1, hh1, hn1, hge1⟩ := stands_of ho
  obtain ⟨L2, hs2, hh2, hn2, hge2⟩ := stands_of hp
  refine ⟨L1, L2, hs1, hs2, grown_trans m.g hg, ?_, ?_, ?_⟩
  · intro p hp
    rcases List.mem_append.1 hp with hp | hp
    · rcases List.mem_append.1 hp with hp | hp
      · exact grown_heap hg (m.h p hp) (by simp)
      · exact hh1 p hp
    · exact hh2 p hp
  · rw [List.append_assoc]
    refine nodup_add m.n ?_ m.lt (fun p hp => ?_)
    · rw [List.map_append, List.nodup_append]
      refine ⟨hn1, hn2, fun a ha b hb e => ?_⟩
      cases h1 : v.ownBlock with
      | none => have := hs1.nil h1; subst this; simp at ha
      | some g =>
        obtain ⟨o1, e1⟩ := hs1.one g h1
        cases h2 : u.ownBlock with
        | none => have := hs2.nil h2; subst this; simp at hb
        | some g' =>
          obtain ⟨o2, e2⟩ := hs2.one g' h2
          subst e1; subst e2
          simp at ha hb
          subst ha; subst hb; subst e
          exact hd _ h1 h2
    · rcases List.mem_append.1 hp with hp | hp
      · exact Nat.le_trans hb (hge1 p hp)
      · exact Nat.le_trans hb (hge2 p hp)
  · intro p hp
    rcases List.mem_append.1 hp with hp | hp
    · rcases List.mem_append.1 hp with hp | hp
      · exact m.lo p hp
      · exact Nat.le_trans m.g.size (Nat.le_trans hb (hge1 p hp))
    · exact Nat.le_trans m.g.size (Nat.le_trans hb (hge2 p hp))

/-- One number of the second list is written. -/
theorem Two.set2 {xs ys : List Int} {n c k : Nat} {g : Nat} {w w1 : World} {v : Value} {z : Int} (h : Two xs ys n w w1 v (.slice (some ⟨g, 0, none⟩) n c)) :
    Two xs (ys.set k z) n w (w1.setCell ⟨g, k, none⟩ (.int .i64 z)) v (.slice (some ⟨g, 0, none⟩) n c) := by
  have hst := World.ownsRow.stored h.o2 k (.int .i64 z)
  rw [← List.map_set] at hst
  refine ⟨h.o1.kept hst.2 ?_, hst.1, h.d, grown_row h.g hst.2 (fun x e => by injection e with e; subst e; exact Owns.block h.o2 _ rfl)⟩
  cases hv : v.ownBlock with
  | none => exact Or.inl rfl
  | some x => right; intro e; injection e with e; subst e; exact h.d _ hv rfl
theorem Two.set1 {xs ys : List Int} {n c k : Nat} {g : Nat} {w w1 : World} {u : Value} {z : Int} (h : Two xs ys n w w1 (.slice (some ⟨g, 0, none⟩) n c) u) :
    Two (xs.set k z) ys n w (w1.setCell ⟨g, k, none⟩ (.int .i64 z)) (.slice (some ⟨g, 0, none⟩) n c) u := h.swap.set2.swap
/-- The first numbers of one list, and the others of another one. -/
def mix (zs ys : List Int) (k : Nat) : List Int := zs.take k ++ ys.drop k
theorem mix_zero (zs ys : List Int) : mix zs ys 0 = ys := by simp [mix]
theorem mix_full {zs ys : List Int} {n : Nat} (h1 : zs.length = n) (h2 : ys.length = n) : mix zs ys n = zs := by
  unfold mix; rw [List.take_of_length_le (by omega), List.drop_of_length_le (by omega), List.append_nil]
theorem mix_set {zs ys : List Int} {n k : Nat} {z : Int} (h1 : zs.length = n) (h2 : ys.length = n) (hk : k < n) (hz : zs[k]? = some z) : (mix zs ys k).set k z = mix zs ys (k + 1) := by
  unfold mix
  rw [List.set_append_right _ _ (by simp; omega), List.take_add_one, hz]
  rw [show k - (zs.take k).length = 0 by simp; omega, List.drop_eq_getElem_cons (by omega : k < ys.length), List.set_cons_zero]
  simp
theorem mix_get {zs ys : List Int} {n k : Nat} (h1 : zs.length = n) (h2 : ys.length = n) (hk : k < n) : ∃ y, (mix zs ys k)[k]? = some y := by
  unfold mix
  rw [List.getElem?_append_right (by simp; omega)]
  exact ⟨_, List.getElem?_eq_getElem (by simp; omega)⟩
/-- The cell that is to be written. -/
theorem own_cell {w : World} {base n g c k : Nat} {xs : List Int} {x : Int} (h : Owns w base (.slice (some ⟨g, 0, none⟩) n c) n xs) (hk : k < n) (hx : xs[k]? = some x) :
    w.cell? ⟨g, k, none⟩ = some (.int .i64 x) ∧ w.frozen? ⟨g, k, none⟩ = false := by
  refine ⟨?_, World.ownsRow.frozenAt h k⟩
  rw [World.ownsRow.cellAt h k (by omega), List.getElem?_map, hx]; rfl

end Go.Proofs.Ytncbgofcimghnaa
