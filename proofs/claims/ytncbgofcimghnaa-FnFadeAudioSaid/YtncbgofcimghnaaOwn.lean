/-
  Copies of lists, and marks in what a call owns. The lists are at most 4194304 numbers long.
-/
import Derived.Test.YtncbgofcimghnaaList
import Derived.Laws.AppendOwnNone
namespace Go.Proofs.Ytncbgofcimghnaa
open Go.RowKit

theorem info_int : (Try.prog.info? 3).map (fun i => (i.zero, i.size, i.bytes)) = some (some (.int .i64 0), 1, 8) := by kernel_rfl

/-- A value owns the numbers of a list, in blocks from base on. -/
def Owns (w : World) (base : Nat) (v : Value) (len : Nat) (xs : List Int) : Prop := w.ownsRow base 3 1 v len (xs.map (Value.int .i64))

/-- A call gives back a new list. -/
def Made (xs : List Int) (len : Nat) (w : World) (e : Ending) (w' : World) : Prop :=
  ∃ v, e = .returned v ∧ Owns w' w.heap.size v len xs ∧ w.grownBy w' none

theorem Owns.len_eq {w : World} {base len : Nat} {v : Value} {xs : List Int} (h : Owns w base v len xs) : xs.length = len := by have := h.1; simpa using this
theorem Owns.reads {w : World} {base len : Nat} {v : Value} {xs : List Int} (h : Owns w base v len xs) :
    ∃ ao cap, v = .slice ao len cap ∧ len ≤ cap ∧ (ao = none → cap = 0) ∧ Ints w ao len xs ∧ (∀ a, ao = some a → base ≤ a.block ∧ a.block < w.heap.size) := ints_of_owns h
theorem Owns.toInts {w : World} {base len cap : Nat} {ao : Option Addr} {xs : List Int} (h : Owns w base (.slice ao len cap) len xs) : Ints w ao len xs := by
  obtain ⟨ao', cap', hv, _, _, hi, _⟩ := h.reads
  injection hv with h1 _ _; subst h1; exact hi
theorem Owns.kept {w w' : World} {base len : Nat} {v : Value} {xs : List Int} {row : Option Nat} (h : Owns w base v len xs) (hg : w.grownBy w' row) (hne : v.ownBlock = none ∨ v.ownBlock ≠ row) : Owns w' base v len xs :=
  World.ownsRow.kept h hg hne
theorem Owns.grown {w w' : World} {base len : Nat} {v : Value} {xs : List Int} (h : Owns w base v len xs) (hg : w.grownBy w' none) : Owns w' base v len xs :=
  h.kept hg (by cases hv : v.ownBlock <;> simp)
theorem Owns.block {w : World} {base len : Nat} {v : Value} {xs : List Int} (h : Owns w base v len xs) : ∀ g, v.ownBlock = some g → base ≤ g :=
  fun g hg => (World.ownsRow.lt h g hg).1
theorem Owns.base_le {w : World} {base base' len : Nat} {v : Value} {xs : List Int} (h : Owns w base v len xs) (hb : base' ≤ base) : Owns w base' v len xs := by
  refine ⟨h.1, ?_⟩
  rcases h.2 with h | ⟨g, cap, cur, hv, hg, r⟩
  · exact Or.inl h
  · exact Or.inr ⟨g, cap, cur, hv, by omega, r⟩

set_option maxHeartbeats 400000 in
theorem copyInts_any (xs : List Int) (ao : Option Addr) (len cap : Nat) (w : World) (hx : Ints w ao len xs) (hn : ao = none → cap = 0) (hlen : len ≤ 4194304) :
    Calls Try.prog 50 #[.slice ao len cap] w (Made xs len w) := by
  obtain ⟨i0, hi, hz0, hz1, hz2⟩ := info_parts info_int
  cases ao with
  | none =>
    obtain rfl := hn rfl
    have h0 : xs = [] := by rcases hx.2 with h | ⟨b, off, h, _⟩; exact h; cases h
    subst h0
    obtain rfl : len = 0 := by simpa using hx.1.symm
    clear hx
    go_enter Try.func50, Try.ntmps50
    go_wp2_with (at_builtin; refine wpList_append_own_none rfl _ _ 39 rfl w.heap.size 3 i0 1 Try.underlying39 hi (.slice (some ⟨w.heap.size, 0, none⟩) 0 0) 0 [] rfl (World.ownsRow_made w #[] 0 (Nat.le_refl _) (by simp [maxLen]) (by simp)) rfl ?_)
    go_ret
    exact ⟨_, rfl, (World.ownsRow_made w #[] 0 (Nat.le_refl _) (by simp [maxLen]) (by simp)), grown_alloc _ _ _⟩
  | some ad =>
    have hl := hx.1
    have HN : ∀ (j : Nat) (u : Value), (xs.map (Value.int .i64))[j]? = some u → w.cell? (ad.add j) = some u := by
      intro j u hu
      rcases hx.2 with h | ⟨b, off, h, hc⟩
      · subst h; simp at hu
      · injection h with h; subst h
        rw [List.getElem?_map] at hu
        obtain ⟨x, hxj, rfl⟩ := Option.map_eq_some_iff.1 hu
        rw [show (⟨b, off, none⟩ : Addr).add j = ⟨b, off + j, none⟩ by simp [Addr.add]]
        exact hc j x hxj
    have HN' := Lib.hid HN
    have HL := Lib.hid hl
    clear HN hx hl
    go_enter Try.func50, Try.ntmps50
    go_wp2_with (at_builtin; refine wpList_append_own _ rfl _ _ 39 rfl w.heap.size 3 i0 (.int .i64 0) 1 8 Try.underlying39 hi hz0 hz1 hz2 rfl (by decide) (.slice (some ⟨w.heap.size, 0, none⟩) 0 0) 0 [] rfl (World.ownsRow_made w #[] 0 (Nat.le_refl _) (by simp [maxLen]) (by simp)) ad len cap (xs.map (Value.int .i64)) rfl ?c1 ?c2 ?c3 ?c4 ?c5 ?c6 ?_)
    case c1 => rw [List.length_map, HL.out, Nat.mul_one]
    case c2 => exact fun j u hu => (World.cell?_of_block (heap_alloc_old _ _ (block_lt_of_cell (HN'.out j u hu)))).trans (HN'.out j u hu)
    case c3 => exact ints_oneCell _ _
    case c4 => unfold maxLen; omega
    case c5 => omega
    case c6 => simp
    intro v' w1 hown hgrow _
    have R : Hid (w1.ownsRow w.heap.size 3 1 v' len (xs.map (Value.int .i64)) ∧ w.grownBy w1 none) := by
      exact ⟨hown, grown_new (grown_alloc _ _ _) hgrow (by simp)⟩
    clear hown hgrow
    go_wp2
    go_ret
    exact ⟨v', rfl, R.out.1, R.out.2⟩

theorem Owns.set {w : World} {base len : Nat} {v : Value} {xs : List Int} (h : Owns w base v len xs) (a : Addr) (u : Value) (hne : v.ownBlock ≠ some a.block) : Owns (w.setCell a u) base v len xs :=
  h.kept (grown_setCell w a u) (Or.inr hne)
theorem grown_set {w0 w : World} {a : Addr} {u : Value} (h : w0.grownBy w none) (ha : w0.heap.size ≤ a.block) : w0.grownBy (w.setCell a u) none := grown_new h (grown_setCell w a u) ha

/-- The cell of a result of two parts, laid when the call began: its cells, and what a store of a result comes to. -/
theorem res_two {w w2 : World} {t : TypeId} {u0 u1 : Value} (h : w2.heap[w.heap.size]? = some (.cells #[u0, u1] t (0, 0))) (g : w.grownBy w2 none) :
    w2.cell? ⟨w.heap.size, 0, none⟩ = some u0 ∧ w2.cell? ⟨w.heap.size, 1, none⟩ = some u1 ∧ w2.frozen? ⟨w.heap.size, 0, none⟩ = false ∧ w2.frozen? ⟨w.heap.size, 1, none⟩ = false ∧ w.heap.size < w2.heap.size ∧
    ∀ (v z : Value) (n : Nat) (ys : List Int), Owns w2 (w.heap.size + 1) v n ys →
      Owns ((w2.setCell ⟨w.heap.size, 0, none⟩ v).setCell ⟨w.heap.size, 1, none⟩ z) w.heap.size v n ys ∧ w.grownBy ((w2.setCell ⟨w.heap.size, 0, none⟩ v).setCell ⟨w.heap.size, 1, none⟩ z) none := by
  refine ⟨by rw [cell_of_row w2 _ 0 _ _ _ h]; rfl, by rw [cell_of_row w2 _ 1 _ _ _ h]; rfl, frozen_of_row w2 _ 0 _ _ h, frozen_of_row w2 _ 1 _ _ h, block_lt h, ?_⟩
  intro v z n ys ho
  have hne : v.ownBlock ≠ some w.heap.size := fun e => by have := ho.block _ e; omega
  exact ⟨((ho.set _ _ hne).set _ _ hne).base_le (by omega), grown_set (grown_set g (by simp)) (by simp)⟩

/-- The first k numbers of a list, and zeros behind them. -/
def part (xs : List Int) (len k : Nat) : List Value := (xs.take k).map (Value.int .i64) ++ List.replicate (len - k) (.int .i64 0)
theorem part_zero (xs : List Int) (len : Nat) : (madeCells #[Value.int .i64 0] len).toList = part xs len 0 := by
  simp only [madeCells, part, List.take_zero, List.map_nil, List.nil_append, Nat.sub_zero]
  rw [List.eq_replicate_iff]
  constructor
  · simp
  · intro b hb
    simp [Nat.mod_one] at hb
    exact hb.2.symm
theorem part_get {xs : List Int} {len k : Nat} (hl : xs.length = len) (hk : k < len) : (part xs len k)[k]? = some (.int .i64 0) := by
  unfold part
  rw [List.getElem?_append_right (by simp; omega), List.getElem?_replicate]
  simp; omega
theorem part_set {xs : List Int} {len k : Nat} {x : Int} (hl : xs.length = len) (hx : xs[k]? = some x) : (part xs len k).set k (.int .i64 x) = part xs len (k + 1) := by
  have hk : k < xs.length := (List.getElem?_eq_some_iff.1 hx).1
  unfold part
  rw [List.set_append_right _ _ (by simp; omega)]
  rw [show k - ((xs.take k).map (Value.int .i64)).length = 0 by simp; omega, List.take_add_one, hx]
  rw [show len - k = (len - (k + 1)) + 1 by omega, List.replicate_succ, List.set_cons_zero]
  simp
theorem part_full {xs : List Int} {len : Nat} (hl : xs.length = len) : part xs len len = xs.map (Value.int .i64) := by
  unfold part
  rw [List.take_of_length_le (by omega)]; simp

set_option maxHeartbeats 400000 in
theorem toIntS_any (xs : List Int) (ao : Option Addr) (len cap : Nat) (w : World) (hx : Ints w ao len xs) (hlen : len ≤ 4194304) :
    Calls Try.prog 76 #[.slice ao len cap] w (Made xs len w) := by
  obtain ⟨i0, hi, hz0, hz1, hz2⟩ := info_parts info_int
  have HX := Lib.hid hx
  clear hx
  go_enter Try.func76, Try.ntmps76
  go_wp2_with (at_make; refine wpList_make_full _ rfl _ _ 39 rfl w.heap.size 3 i0 (.int .i64 0) 1 Try.underlying39 hi hz0 hz1 .i64 .i64 _ _ len rfl rfl rfl rfl ?b1 ?b2 ?b3 ?_)
  case b1 => rw [hz2]; omega
  case b2 => unfold maxLen; omega
  case b3 => exact Nat.le_refl _
  intro w1 hown hgrow
  have hl := HX.out.1
  have HO : Hid (w1.ownsRow w.heap.size 3 1 (.slice (some ⟨w.heap.size, 0, none⟩) len len) len (part xs len 0) ∧ w.grownBy w1 none) := by
    rw [part_zero xs] at hown; exact ⟨hown, hgrow⟩
  have HL := Lib.hid hl
  clear hown hgrow hl
  go_wp2
  go_loopw [4] (fun i wr => ∃ k : Nat, k ≤ len ∧ i = .int .i64 k ∧ Hid (wr.ownsRow w.heap.size 3 1 (.slice (some ⟨w.heap.size, 0, none⟩) len len) len (part xs len k) ∧ w.grownBy wr none)) (fun i _ => len - (intOf i).toNat)
  case atStart => exact ⟨0, Nat.zero_le _, rfl, HO⟩
  case round =>
    obtain ⟨k, hk, rfl, HW⟩ := hrel
    by_cases hlt : k < len
    · obtain ⟨x, hxk⟩ : ∃ x, xs[k]? = some x := ⟨_, List.getElem?_eq_getElem (by rw [HL.out]; exact hlt)⟩
      obtain ⟨b, off, rfl, hc⟩ := HX.out.2.resolve_left (by intro e; subst e; simp at hxk)
      have hcx : wr.cell? ⟨b, off + k, none⟩ = some (.int .i64 x) := HW.out.2.cell (hc k x hxk) (by simp)
      have hcell : wr.cell? ⟨w.heap.size, k, none⟩ = some (.int .i64 0) := by
        rw [HW.out.1.cellAt k (by omega)]; exact part_get HL.out hlt
      have hfz : wr.frozen? ⟨w.heap.size, k, none⟩ = false := HW.out.1.frozenAt k
      have R : Hid ((wr.setCell ⟨w.heap.size, k, none⟩ (.int .i64 x)).ownsRow w.heap.size 3 1 (.slice (some ⟨w.heap.size, 0, none⟩) len len) len (part xs len (k + 1)) ∧ w.grownBy (wr.setCell ⟨w.heap.size, k, none⟩ (.int .i64 x)) none) := by
        have := HW.out.1.stored k (.int .i64 x)
        rw [part_set HL.out hxk] at this
        exact ⟨this.1, grown_new HW.out.2 this.2 (Nat.le_refl _)⟩
      clear hc hxk
      go_wp2
      go_roundw
      case rel => exact ⟨k + 1, by omega, by go_num, R⟩
      case measure => simp [intOf]; omega
    · obtain rfl : k = len := by omega
      have R : Hid (Owns wr w.heap.size (.slice (some ⟨w.heap.size, 0, none⟩) k k) k xs ∧ w.grownBy wr none) := by
        have h := HW.out
        rw [part_full HL.out] at h; exact h
      go_wp2
      go_ret
      exact ⟨_, rfl, R.out.1, R.out.2⟩

/-- The marks k, k + 1 and so on. -/
def marks (k : Int) (n : Nat) : List Int := (List.range n).map fun i : Nat => k + (i : Int)
theorem marks_len (k : Int) (n : Nat) : (marks k n).length = n := by simp [marks]
theorem marks_get {k : Int} {n i : Nat} (h : i < n) : (marks k n)[i]? = some (k + (i : Int)) := by simp [marks, h]

/-- The first j marks, and the old numbers behind them. -/
def marked (k : Int) (xs : List Int) (j : Nat) : List Int := marks k j ++ xs.drop j
theorem marked_zero (k : Int) (xs : List Int) : marked k xs 0 = xs := by simp [marked, marks]
theorem marked_full {k : Int} {xs : List Int} {n : Nat} (h : xs.length = n) : marked k xs n = marks k n := by
  unfold marked; rw [List.drop_of_length_le (by omega)]; simp
theorem marked_get {k : Int} {xs : List Int} {j : Nat} {x : Int} (h : xs[j]? = some x) : (marked k xs j)[j]? = some x := by
  unfold marked
  rw [List.getElem?_append_right (by rw [marks_len]; exact Nat.le_refl _), marks_len, Nat.sub_self, List.getElem?_drop]; simpa using h
theorem marked_set {k : Int} {xs : List Int} {j : Nat} (h : j < xs.length) : (marked k xs j).set j (k + (j : Int)) = marked k xs (j + 1) := by
  unfold marked
  rw [List.set_append_right _ _ (by rw [marks_len]; exact Nat.le_refl _), marks_len, Nat.sub_self, List.drop_eq_getElem_cons h, List.set_cons_zero]
  simp [marks, List.range_succ]

set_option maxHeartbeats 400000 in
theorem markIntS_any (xs : List Int) (v : Value) (base len : Nat) (k : Int) (w : World) (hx : Owns w base v len xs) (hlen : len ≤ 4194304) (hk0 : 0 ≤ k) (hk1 : k ≤ 4194304) :
    Calls Try.prog 78 #[v, .int .i64 k] w fun e w' => e = .returned (.int .i64 (k + (len : Int))) ∧ (Owns w' base v len (marks k len) ∧ w.grownBy w' v.ownBlock) := by
  rcases hx.2 with ⟨rfl, rfl⟩ | ⟨g, cap, cur, rfl, hg, _⟩
  · have h0 : xs = [] := List.length_eq_zero_iff.1 hx.len_eq
    subst h0
    have HX := Lib.hid hx
    clear hx
    go_enter Try.func78, Try.ntmps78
    go_wp2
    refine wp_loop_rounds 1 ?_
    rw [rounds_succ]
    go_wp2
    go_ret
    exact ⟨ret_int (by simp), (by rw [show marks k 0 = [] from rfl]; exact HX.out), grown_refl _ _⟩
  · have HX := Lib.hid hx
    have HL := Lib.hid hx.len_eq
    clear hx
    go_enter Try.func78, Try.ntmps78
    go_wp2
    go_loopw [1, 5] (fun m i wr => ∃ j : Nat, j ≤ len ∧ i = .int .i64 j ∧ m = .int .i64 (k + (j : Int)) ∧ Hid (Owns wr base (.slice (some ⟨g, 0, none⟩) len cap) len (marked k xs j) ∧ w.grownBy wr (some g))) (fun _ i _ => len - (intOf i).toNat)
    case atStart => exact ⟨0, Nat.zero_le _, rfl, by simp, by rw [marked_zero]; exact HX.out, grown_refl _ _⟩
    case round =>
      obtain ⟨j, hj, rfl, rfl, HW⟩ := hrel
      by_cases hlt : j < len
      · obtain ⟨x, hxj⟩ : ∃ x, xs[j]? = some x := ⟨_, List.getElem?_eq_getElem (by rw [HL.out]; exact hlt)⟩
        have hcell : wr.cell? ⟨g, j, none⟩ = some (.int .i64 x) := by
          rw [World.ownsRow.cellAt HW.out.1 j (by omega), List.getElem?_map, marked_get hxj]; rfl
        have hfz : wr.frozen? ⟨g, j, none⟩ = false := World.ownsRow.frozenAt HW.out.1 j
        have R : Hid (Owns (wr.setCell ⟨g, j, none⟩ (.int .i64 (k + (j : Int)))) base (.slice (some ⟨g, 0, none⟩) len cap) len (marked k xs (j + 1)) ∧ w.grownBy (wr.setCell ⟨g, j, none⟩ (.int .i64 (k + (j : Int)))) (some g)) := by
          have := World.ownsRow.stored HW.out.1 j (.int .i64 (k + (j : Int)))
          rw [← List.map_set, marked_set (by rw [HL.out]; exact hlt)] at this
          exact ⟨this.1, grown_trans HW.out.2 this.2⟩
        clear hxj
        go_wp2
        go_roundw
        case rel => exact ⟨j + 1, by omega, by go_num, by go_num, R⟩
        case measure => simp [intOf]; omega
      · obtain rfl : j = len := by omega
        have R : Hid (Owns wr base (.slice (some ⟨g, 0, none⟩) j cap) j (marks k j) ∧ w.grownBy wr (some g)) := by
          have h := HW.out
          rw [marked_full HL.out] at h; exact h
        go_wp2
        go_ret
        exact ⟨rfl, R.out⟩

set_option maxHeartbeats 400000 in
theorem heldIntS_any (ao : Option Addr) (len cap : Nat) (k : Int) (w : World) (hx : Ints w ao len (marks k len)) (hlen : len ≤ 4194304) (hk0 : 0 ≤ k) (hk1 : k ≤ 4194304) :
    Calls Try.prog 79 #[.slice ao len cap, .int .i64 k] w fun e w' => e = .returned (.int .i64 (k + (len : Int))) ∧ w = w' := by
  by_cases h0 : len = 0
  · subst h0
    clear hx
    go_enter Try.func79, Try.ntmps79
    go_wp2
    refine wp_loop_rounds 1 ?_
    rw [rounds_succ]
    go_wp2
    go_ret
    exact ⟨ret_int (by simp), rfl⟩
  obtain ⟨b, off, rfl, hc⟩ := hx.2.resolve_left (by intro e; have := marks_len k len; rw [e] at this; simp at this; omega)
  have HC : Hid (∀ j, j < len → w.cell? ⟨b, off + j, none⟩ = some (.int .i64 (k + (j : Int)))) := fun j hj => hc j _ (marks_get hj)
  clear hx hc h0
  go_enter Try.func79, Try.ntmps79
  go_wp2
  go_loop [1, 5] (fun m i => ∃ j : Nat, j ≤ len ∧ i = .int .i64 j ∧ m = .int .i64 (k + (j : Int))) (fun _ i => len - (intOf i).toNat)
  case atStart => exact ⟨0, Nat.zero_le _, rfl, by simp⟩
  case round =>
    obtain ⟨j, hj, rfl, rfl⟩ := hrel
    by_cases hlt : j < len
    · have hcj := HC.out j hlt
      go_wp2
      go_round
      case rel => exact ⟨j + 1, by omega, by go_num, by go_num⟩
      case measure => simp [intOf]; omega
    · obtain rfl : j = len := by omega
      go_wp2
      go_ret
      exact ⟨rfl, rfl⟩

/-- A literal of one number, just laid. -/
theorem ints_one (w : World) (x : Int) (t : TypeId) : Ints (w.alloc (.cells #[.int .i64 x] t)) (some ⟨w.heap.size, 0, none⟩) 1 [x] := by
  refine ⟨rfl, Or.inr ⟨w.heap.size, 0, rfl, fun k y hk => ?_⟩⟩
  match k, hk with
  | 0, hk =>
    simp at hk; subst hk
    rw [cell_of_row _ w.heap.size (0 + 0) _ _ _ (heap_alloc_new w _)]; rfl

/-- APPEND of a list to a list that the call owns, whatever the source's address. -/
theorem append_ints {ops : Array Oper} {rest : List Oper} {o : Oper} {a : Act} {w : World} {Q : Exit → Act → World → Prop} (hgd : o.guard = none) (s x : Operand)
    (ho : o.op = .call { callee := .builtin .append, args := #[s, x], argTypes := #[39, 39] })
    (base : Nat) (v : Value) (n : Nat) (ys : List Int) (hs : a.eval s = v) (hown : Owns w base v n ys)
    (ao : Option Addr) (len cap : Nat) (xs : List Int) (hx : a.eval x = .slice ao len cap) (hi : Ints w ao len xs) (hn : ao = none → cap = 0)
    (hb : n + len ≤ 8388608) (hbase : base ≤ w.heap.size)
    (h : ∀ v' w', Owns w' base v' (n + len) (ys ++ xs) → w.grownBy w' v.ownBlock → wpList Try.prog ops Q rest (a.put o.dst v') w') : wpList Try.prog ops Q (o :: rest) a w := by
  obtain ⟨i0, hi0, hz0, hz1, hz2⟩ := info_parts info_int
  cases ao with
  | none =>
    obtain rfl := hn rfl
    have h0 : xs = [] := by rcases hi.2 with h | ⟨b, off, h, _⟩; exact h; cases h
    subst h0
    obtain rfl : len = 0 := by simpa using hi.1.symm
    refine wpList_append_own_none hgd s x 39 ho base 3 i0 1 Try.underlying39 hi0 v n (ys.map (Value.int .i64)) hs hown hx ?_
    refine h v w ?_ (grown_refl _ _)
    rw [List.append_nil]; exact hown
  | some ad =>
    refine wpList_append_own w hgd s x 39 ho base 3 i0 (.int .i64 0) 1 8 Try.underlying39 hi0 hz0 hz1 hz2 rfl (by decide) v n (ys.map (Value.int .i64)) hs hown ad len cap (xs.map (Value.int .i64)) hx (by rw [List.length_map, hi.1, Nat.mul_one]) ?_ (ints_oneCell _ _) (by unfold maxLen; omega) (by omega) hbase ?_
    · intro j u hu
      rcases hi.2 with h | ⟨b, off, h, hc⟩
      · subst h; simp at hu
      · injection h with h; subst h
        rw [List.getElem?_map] at hu
        obtain ⟨y, hyj, rfl⟩ := Option.map_eq_some_iff.1 hu
        rw [show (⟨b, off, none⟩ : Addr).add j = ⟨b, off + j, none⟩ by simp [Addr.add]]
        exact hc j y hyj
    · intro v' w' h1 h2 _
      refine h v' w' ?_ h2
      show World.ownsRow _ _ _ _ _ _ _
      rw [List.map_append]; exact h1

/-- An empty literal, just laid. -/
theorem owns_empty (w : World) : Owns (w.alloc (.cells #[] 3)) w.heap.size (.slice (some ⟨w.heap.size, 0, none⟩) 0 0) 0 [] :=
  World.ownsRow_made w #[] 0 (Nat.le_refl _) (by simp [maxLen]) (by simp)
/-- A literal, just laid. -/
theorem owns_lit (w : World) (xs : List Int) (hm : xs.length ≤ 1000) : Owns (w.alloc (.cells (xs.map (Value.int .i64)).toArray 3)) w.heap.size (.slice (some ⟨w.heap.size, 0, none⟩) xs.length xs.length) xs.length xs :=
  ⟨by simp, .inr ⟨w.heap.size, xs.length, _, rfl, Nat.le_refl _, heap_alloc_new w _, Nat.le_refl _, by unfold maxLen; omega, by simp, by simp; exact List.take_of_length_le (by simp)⟩⟩

/-- APPEND, and where the result lies: in its row, or in a new one. -/
theorem append_strong {ops : Array Oper} {rest : List Oper} {o : Oper} {a : Act} {w : World} {Q : Exit → Act → World → Prop} (hgd : o.guard = none) (s x : Operand)
    (ho : o.op = .call { callee := .builtin .append, args := #[s, x], argTypes := #[39, 39] })
    (base g vc : Nat) (n : Nat) (ys : List Int) (hs : a.eval s = .slice (some ⟨g, 0, none⟩) n vc) (hown : Owns w base (.slice (some ⟨g, 0, none⟩) n vc) n ys)
    (ad : Addr) (len cap : Nat) (xs : List Int) (hx : a.eval x = .slice (some ad) len cap) (hi : Ints w (some ad) len xs)
    (hb : n + len ≤ 8388608) (hbase : base ≤ w.heap.size)
    (h : ∀ g' c' w', Owns w' base (.slice (some ⟨g', 0, none⟩) (n + len) c') (n + len) (ys ++ xs) → w.grownBy w' (some g) → (g' = g ∨ w.heap.size ≤ g') → wpList Try.prog ops Q rest (a.put o.dst (.slice (some ⟨g', 0, none⟩) (n + len) c')) w') : wpList Try.prog ops Q (o :: rest) a w := by
  obtain ⟨i0, hi0, hz0, hz1, hz2⟩ := info_parts info_int
  have hnew : ∀ (j : Nat) (u : Value), (xs.map (Value.int .i64))[j]? = some u → w.cell? (ad.add j) = some u := by
    intro j u hu
    rcases hi.2 with h | ⟨b, off, h, hc⟩
    · subst h; simp at hu
    · injection h with h; subst h
      rw [List.getElem?_map] at hu
      obtain ⟨y, hyj, rfl⟩ := Option.map_eq_some_iff.1 hu
      rw [show (⟨b, off, none⟩ : Addr).add j = ⟨b, off + j, none⟩ by simp [Addr.add]]
      exact hc j y hyj
  by_cases hfull : vc < n + len
  · refine wpList_append_grows w hgd s x 39 ho 3 i0 (.int .i64 0) 1 8 Try.underlying39 hi0 hz0 hz1 hz2 rfl (by decide) (some ⟨g, 0, none⟩) n vc (ys.map (Value.int .i64)) hs (fun e => nomatch e) hown.1 ?_ ad len cap (xs.map (Value.int .i64)) hx (by rw [List.length_map, hi.1, Nat.mul_one]) hnew (ints_oneCell _ _) hfull (by unfold maxLen; omega) (by omega) ?_
    · intro b e j u hu
      injection e with e; subst e
      rw [show (⟨g, 0, none⟩ : Addr).add j = ⟨g, j, none⟩ by simp [Addr.add]; omega]
      have hj : j < n * 1 := by have := hown.len_eq; rw [List.getElem?_map] at hu; obtain ⟨y, hy, _⟩ := Option.map_eq_some_iff.1 hu; have := (List.getElem?_eq_some_iff.1 hy).1; omega
      rw [World.ownsRow.cellAt hown j hj]; exact hu
    · intro v' w' h1 h2
      have h1' : Owns w' w.heap.size v' (n + len) (ys ++ xs) := by show World.ownsRow _ _ _ _ _ _ _; rw [List.map_append]; exact h1
      rcases h1'.2 with ⟨_, h0⟩ | ⟨g', c', cur, rfl, hg', _⟩
      · omega
      · exact h g' c' w' (h1'.base_le hbase) (grown_any h2 _) (Or.inr hg')
  · refine wpList_append_fits w hgd s x 39 ho base 3 i0 1 Try.underlying39 hi0 hz1 g n vc (ys.map (Value.int .i64)) hs hown ad len cap (xs.map (Value.int .i64)) hx (by rw [List.length_map, hi.1, Nat.mul_one]) hnew (ints_oneCell _ _) (by omega) ?_
    intro w' h1 h2
    refine h g vc w' ?_ h2 (Or.inl rfl)
    show World.ownsRow _ _ _ _ _ _ _; rw [List.map_append]; exact h1

/-- What is owned behind a reader stays owned when the reader reads. -/
theorem Owns.read {w w' : World} {base len r : Nat} {v : Value} {xs : List Int} (h : Owns w base v len xs) (hg : w.grownBy w' (some r)) (hr : r < base) : Owns w' base v len xs :=
  h.kept hg (by
    cases hv : v.ownBlock with
    | none => exact Or.inl rfl
    | some g => right; intro e; have := h.block g hv; injection e with e; omega)

theorem Rdr.own {w w' : World} {r P base len : Nat} {v : Value} {xs : List Int} (h : Rdr w r P) (ho : Owns w base v len xs) (hg : w.grownBy w' v.ownBlock) (hr : r < base) : Rdr w' r P :=
  h.kept hg (fun x hx => by have := ho.block x hx; omega)

end Go.Proofs.Ytncbgofcimghnaa
