/-
  The program's writer of bits: what it holds, and what a bit, a number and all bits do to it. For bits that have room.
-/
import Derived.Test.YtcgcippniicaaaaDoorPk
import Derived.Test.YtcgcippniicaaaaDoorCopyOf
import Derived.RegionTactic
import Derived.Deep.LoopGhost
namespace Go.Proofs.YtcgcippniicaaaaDoor
open Go.RowKit
variable {K : List (Nat × Obj)}

/-- APPEND, and where the result lies: where it lay, or in a new block. -/
theorem append_str {ops : Array Oper} {rest : List Oper} {o : Oper} {a : Act} {w : World} {Q : Exit → Act → World → Prop} (hgd : o.guard = none) (s x : Operand)
    (ho : o.op = .call { callee := .builtin .append, args := #[s, x], argTypes := #[23, 23] })
    (base : Nat) (v : Value) (n : Nat) (ys : List Int) (hs : a.eval s = v) (hown : Owns w base v n ys)
    (ad : Addr) (len cap : Nat) (xs : List Int) (hx : a.eval x = .slice (some ad) len cap) (hi : Ints w (some ad) len xs) (h1 : 1 ≤ len)
    (hb : n + len ≤ 8388608) (hbase : base ≤ w.heap.size)
    (h : ∀ v' w', Owns w' base v' (n + len) (ys ++ xs) → w.grownBy w' v.ownBlock → (v'.ownBlock = v.ownBlock ∨ ∃ g, v'.ownBlock = some g ∧ w.heap.size ≤ g) → wpList Tryd.prog ops Q rest (a.put o.dst v') w') : wpList Tryd.prog ops Q (o :: rest) a w := by
  rcases hown.2 with ⟨hv, h0⟩ | ⟨g, vc, cur, hv, _⟩
  · subst hv
    subst h0
    obtain ⟨i0, hi0, hz0, hz1, hz2⟩ := info_parts info_int
    have hnil : ys = [] := List.length_eq_zero_iff.1 hown.len_eq
    subst hnil
    have hnew : ∀ (j : Nat) (u : Value), (xs.map (Value.int .i64))[j]? = some u → w.cell? (ad.add j) = some u := by
      intro j u hu
      rcases hi.2 with h | ⟨b, off, h, hc⟩
      · subst h; simp at hu
      · injection h with h; subst h
        rw [List.getElem?_map] at hu
        obtain ⟨y, hyj, rfl⟩ := Option.map_eq_some_iff.1 hu
        rw [show (⟨b, off, none⟩ : Addr).add j = ⟨b, off + j, none⟩ by simp [Addr.add]]
        exact hc j y hyj
    refine wpList_append_grows w hgd s x 23 ho 3 i0 (.int .i64 0) 1 8 Tryd.underlying23 hi0 hz0 hz1 hz2 rfl (by decide) none 0 0 [] hs (fun _ => ⟨rfl, rfl⟩) rfl (fun b e => nomatch e) ad len cap (xs.map (Value.int .i64)) hx (by rw [List.length_map, hi.1, Nat.mul_one]) hnew (ints_oneCell _ _) (by omega) (by unfold maxLen; omega) (by omega) ?_
    intro v' w' h2 h3
    have h1' : Owns w' w.heap.size v' (0 + len) ([] ++ xs) := by show World.ownsRow _ _ _ _ _ _ _; exact h2
    refine h v' w' (h1'.base_le hbase) (grown_any h3 _) (Or.inr ?_)
    rcases h1'.2 with ⟨_, h0⟩ | ⟨g', c', cur, rfl, hg', _⟩
    · omega
    · exact ⟨g', rfl, hg'⟩
  · subst hv
    refine append_strong hgd s x ho base g vc n ys hs hown ad len cap xs hx hi hb hbase ?_
    intro g' c' w' h2 h3 h4
    refine h _ w' h2 h3 ?_
    rcases h4 with rfl | h4
    · exact Or.inl rfl
    · exact Or.inr ⟨g', rfl, h4⟩

/-- A writer lies in block B and holds a list of bits; nothing older than w0 has turned. -/
structure Wtr (K : List (Nat × Obj)) (w0 w : World) (B : Nat) (bs : List Bool) : Prop where
  ex : ∃ v, w.heap[B]? = some (.cells #[v, .int .i64 (bs.length : Int)] 81 (0, 0)) ∧ Owns w w0.heap.size v ((bs.length + 7) / 8) (pk bs) ∧ v.ownBlock ≠ some B ∧ ∀ p ∈ K, w.heap[p.1]? = some p.2 ∧ p.1 ≠ B ∧ v.ownBlock ≠ some p.1
  g : w0.grownBy w none
  lo : w0.heap.size ≤ B

theorem Wtr.grown {w0 w w' : World} {B : Nat} {bs : List Bool} (h : Wtr K w0 w B bs) (hg : w.grownBy w' none) : Wtr K w0 w' B bs := by
  obtain ⟨v, h1, h2, h3, h4⟩ := h.ex
  exact ⟨⟨v, grown_heap hg h1 (by simp), h2.grown hg, h3, fun p hp => ⟨grown_heap hg (h4 p hp).1 (by simp), (h4 p hp).2⟩⟩, grown_trans h.g hg, h.lo⟩

theorem or_sum : ∀ n, n < 256 → ∀ r, r < 8 → n % 2 ^ (8 - r) = 0 → n ||| 2 ^ (7 - r) = n + 2 ^ (7 - r) := by decide +kernel
theorem byteAt_low (bs : List Bool) : byteAt bs (bs.length / 8) % 2 ^ (8 - bs.length % 8) = 0 := by
  obtain ⟨q, r, hr, hn⟩ : ∃ q r, r < 8 ∧ bs.length = 8 * q + r := ⟨bs.length / 8, bs.length % 8, Nat.mod_lt _ (by omega), by omega⟩
  rw [hn, show (8 * q + r) / 8 = q by omega, show (8 * q + r) % 8 = r by omega]
  have hp : ∀ j, r ≤ j → cb bs (8 * q + j) = 0 := fun j hj => cb_past (by omega)
  have hp0 : r = 0 → cb bs (8 * q) = 0 := fun h => by have := hp 0 (by omega); simpa using this
  have h0 := cb_range bs (8 * q); have h1 := cb_range bs (8 * q + 1); have h2 := cb_range bs (8 * q + 2); have h3 := cb_range bs (8 * q + 3)
  have h4 := cb_range bs (8 * q + 4); have h5 := cb_range bs (8 * q + 5); have h6 := cb_range bs (8 * q + 6); have h7 := cb_range bs (8 * q + 7)
  unfold byteAt
  have : r = 0 ∨ r = 1 ∨ r = 2 ∨ r = 3 ∨ r = 4 ∨ r = 5 ∨ r = 6 ∨ r = 7 := by omega
  rcases this with rfl | rfl | rfl | rfl | rfl | rfl | rfl | rfl
  · rw [hp0 rfl, hp 1 (by omega), hp 2 (by omega), hp 3 (by omega), hp 4 (by omega), hp 5 (by omega), hp 6 (by omega), hp 7 (by omega)]; rfl
  · rw [hp 1 (by omega), hp 2 (by omega), hp 3 (by omega), hp 4 (by omega), hp 5 (by omega), hp 6 (by omega), hp 7 (by omega)]; first | (simp; done) | (simp; omega)
  · rw [hp 2 (by omega), hp 3 (by omega), hp 4 (by omega), hp 5 (by omega), hp 6 (by omega), hp 7 (by omega)]; first | (simp; done) | (simp; omega)
  · rw [hp 3 (by omega), hp 4 (by omega), hp 5 (by omega), hp 6 (by omega), hp 7 (by omega)]; first | (simp; done) | (simp; omega)
  · rw [hp 4 (by omega), hp 5 (by omega), hp 6 (by omega), hp 7 (by omega)]; first | (simp; done) | (simp; omega)
  · rw [hp 5 (by omega), hp 6 (by omega), hp 7 (by omega)]; first | (simp; done) | (simp; omega)
  · rw [hp 6 (by omega), hp 7 (by omega)]; first | (simp; done) | (simp; omega)
  · rw [hp 7 (by omega)]; first | (simp; done) | (simp; omega)
theorem or_byte (bs : List Bool) (y : Int) (r : Nat) (hy : byteAt bs (bs.length / 8) = y) (hr : bs.length % 8 = r) : bits .or .i64 y (2 ^ (7 - r)) = y + 2 ^ (7 - r) ∧ bits .or .i64 y 0 = y := by
  have hb := byteAt_range bs (bs.length / 8)
  have hl := byteAt_low bs
  rw [hy] at hb hl
  rw [hr] at hl
  obtain ⟨n, rfl⟩ := Int.eq_ofNat_of_zero_le hb.1
  have hr8 : r < 8 := by omega
  have hn : n < 256 := by omega
  have hm : n % 2 ^ (8 - r) = 0 := by exact_mod_cast hl
  have h1 := or_sum n hn r hr8 hm
  have hp : (2 : Nat) ^ (7 - r) ≤ 2 ^ 7 := Nat.pow_le_pow_right (by decide) (by omega)
  constructor
  · have := i64_or_nat n (2 ^ (7 - r)) (by omega) (by omega)
    rw [h1] at this
    simpa using this
  · have := i64_or_nat n 0 (by omega) (by omega)
    simpa using this

theorem pad_pk_get (bs : List Bool) : (pad (pk bs) bs.length)[bs.length / 8]? = some (byteAt bs (bs.length / 8)) := by
  rw [pad_pk, List.getElem?_map, List.getElem?_range (by omega)]; rfl
theorem pad_pk_set (bs : List Bool) (b : Bool) : (pad (pk bs) bs.length).set (bs.length / 8) (if b then byteAt bs (bs.length / 8) + 2 ^ (7 - bs.length % 8) else byteAt bs (bs.length / 8)) = pk (bs ++ [b]) := by
  have hg := pad_pk_get bs
  have hlt := (List.getElem?_eq_some_iff.1 hg).1
  rw [pk_snoc]
  unfold stepB
  cases b with
  | false =>
    simp only [Bool.false_eq_true, if_false]
    apply List.ext_getElem?
    intro k
    rw [List.getElem?_set]
    split
    · rename_i h; subst h; (try rw [hg]); (try simp [hlt])
    · rfl
  | true =>
    simp only [if_true]
    unfold bit
    rw [List.getD_eq_getElem?_getD, hg]; rfl

theorem own_not {w : World} {base g n c B : Nat} {xs : List Int} {cs : Array Value} (h : Owns w base (.slice (some ⟨g, 0, none⟩) n c) n xs) (hB : w.heap[B]? = some (.cells cs 81 (0, 0))) : g ≠ B := by
  rcases h.2 with ⟨hv, _⟩ | ⟨g', cap, cur, hv, _, hh, _⟩
  · cases hv
  · injection hv with h1 _ _
    injection h1 with h1
    injection h1 with h1 _ _
    subst h1
    rintro rfl
    rw [hh] at hB
    simp at hB

theorem wtr_last {w0 w3 : World} {B g c2 m : Nat} {bs : List Bool} (hm : bs.length = m) (hh : w3.heap[B]? = some (.cells #[.slice (some ⟨g, 0, none⟩) (m / 8 + 1) c2, .int .i64 (m : Int)] 81 (0, 0)))
    (ho : Owns w3 w0.heap.size (.slice (some ⟨g, 0, none⟩) (m / 8 + 1) c2) (m / 8 + 1) (pad (pk bs) m)) (hne : g ≠ B) (hg : w0.grownBy w3 none) (lo : w0.heap.size ≤ B) (hk : ∀ p ∈ K, w3.heap[p.1]? = some p.2 ∧ p.1 ≠ B ∧ g ≠ p.1) :
    ∃ y : Int, 0 ≤ y ∧ y ≤ 255 ∧ bits .or .i64 y (2 ^ (7 - m % 8)) = y + 2 ^ (7 - m % 8) ∧ bits .or .i64 y 0 = y ∧ w3.cell? ⟨g, m / 8, none⟩ = some (.int .i64 y) ∧ w3.frozen? ⟨g, m / 8, none⟩ = false ∧
      ∀ (b : Bool) (y' : Int), (if b then y + 2 ^ (7 - m % 8) else y) = y' → Wtr K w0 ((w3.setCell ⟨g, m / 8, none⟩ (.int .i64 y')).setCell ⟨B, 1, none⟩ (.int .i64 ((m : Int) + 1))) B (bs ++ [b]) := by
  subst hm
  have hr := byteAt_range bs (bs.length / 8)
  have hor := or_byte bs _ _ rfl rfl
  have hgl := ho.block g rfl
  refine ⟨_, hr.1, hr.2, hor.1, hor.2, ?_, World.ownsRow.frozenAt ho _, ?_⟩
  · rw [World.ownsRow.cellAt ho _ (by omega), List.getElem?_map, pad_pk_get]; rfl
  · intro b y' hy
    have hst := World.ownsRow.stored ho (bs.length / 8) (.int .i64 y')
    rw [← List.map_set, ← hy, pad_pk_set] at hst
    have hl : (bs ++ [b]).length = bs.length + 1 := by simp
    rw [← hy]
    have hh2 := grown_heap hst.2 hh (by intro e; injection e with e; exact hne e)
    refine ⟨⟨.slice (some ⟨g, 0, none⟩) (bs.length / 8 + 1) c2, ?_, ?_, ?_, ?_⟩, ?_, lo⟩
    · have h1 := heap_setCell_same _ B 1 _ _ (.int .i64 ((bs.length : Int) + 1)) hh2
      rw [h1, hl]; rfl
    · rw [hl, show (bs.length + 1 + 7) / 8 = (bs.length / 8 + 1) by omega]
      exact Owns.set hst.1 _ _ (by simp [Value.ownBlock]; exact hne)
    · simp [Value.ownBlock]; exact hne
    · intro p hp
      obtain ⟨k1, k2, k3⟩ := hk p hp
      exact ⟨grown_heap (grown_setCell _ ⟨B, 1, none⟩ _) (grown_heap hst.2 k1 (by intro e; injection e with e; exact k3 e)) (by intro e; injection e with e; exact k2 e.symm), k2, by simp [Value.ownBlock]; exact k3⟩
    · exact grown_set (grown_row hg hst.2 (fun z e => by injection e with e; omega)) lo

set_option maxRecDepth 100000 in
set_option maxHeartbeats 4000000 in
theorem putBit_any (b : Bool) (z : Int) (w0 w : World) (B : Nat) (bs : List Bool) (hW : Wtr K w0 w B bs) (hz : (if b then 1 else 0 : Int) = z) (hn : bs.length < 16384) :
    Calls Tryd.prog 64 #[.pointer (some ⟨B, 0, none⟩), .int .i64 z] w fun e w' => e = .returned (.tuple #[]) ∧ Wtr K w0 w' B (bs ++ [b]) := by
  obtain ⟨m, hm⟩ : ∃ m, bs.length = m := ⟨_, rfl⟩
  have hW' := hW
  obtain ⟨v, hh, ho, hne, hkp⟩ := hW'.ex
  rw [hm] at hh ho hn
  obtain ⟨a1, c1, rfl, _, _, _, hab⟩ := ho.reads
  have q0 : w.cell? ⟨B, 0, none⟩ = some (.slice a1 ((m + 7) / 8) c1) := by rw [cell_of_row w _ 0 _ _ _ hh]; rfl
  have q1 : w.cell? ⟨B, 1, none⟩ = some (.int .i64 (m : Int)) := by rw [cell_of_row w _ 1 _ _ _ hh]; rfl
  have f0 : w.frozen? ⟨B, 0, none⟩ = false := frozen_of_row w _ 0 _ _ hh
  have f1 : w.frozen? ⟨B, 1, none⟩ = false := frozen_of_row w _ 1 _ _ hh
  have hBs := block_lt hh
  have HW := Lib.hid hW
  have HO := Lib.hid ho
  have HH := Lib.hid hh
  have HNE := Lib.hid hne
  have HKP := Lib.hid hkp
  have HM := Lib.hid hm
  have HZ := Lib.hid hz
  clear hW hW' ho hh hne hm hz hab hkp
  by_cases h8 : m % 8 = 0
  · have d8 : ((m : Int) % 8 == 0) = true := by simp; omega
    go_enter Tryd.func64, Tryd.ntmps64
    go_wp2_with (at_builtin; refine append_str rfl _ _ rfl w0.heap.size (.slice a1 ((m + 7) / 8) c1) ((m + 7) / 8) (pk bs) rfl (HO.out.grown (grown_alloc _ _ _)) ⟨w.heap.size, 0, none⟩ 1 1 [0] rfl (ints_one _ _ _) (by decide) ?a1 ?a2 ?_)
    case a1 => omega
    case a2 => have := HW.out.g.size; simp; omega
    intro v2 w2 hown hgrow hnew2
    rcases hown.2 with ⟨_, h0⟩ | ⟨g, c2, cur, rfl, hgb, _⟩
    · omega
    have HKW : Hid (∀ p ∈ K, w2.heap[p.1]? = some p.2 ∧ p.1 ≠ B ∧ g ≠ p.1) := fun p hp => by
      obtain ⟨k1, k2, k3⟩ := HKP.out p hp
      have hlt := block_lt k1
      refine ⟨grown_heap hgrow (grown_heap (grown_alloc w _ none) k1 (by simp)) k3, k2, ?_⟩
      rcases hnew2 with h | ⟨g', h, h2⟩
      · rintro rfl; exact k3 (h.symm.trans rfl)
      · simp only [Value.ownBlock, Option.some.injEq] at h; (try simp at h2); omega
    clear hnew2
    have hB1 : (w.alloc (.cells #[.int .i64 0] 3)).heap[B]? = some (.cells #[.slice a1 ((m + 7) / 8) c1, .int .i64 (m : Int)] 81 (0, 0)) := grown_heap (grown_alloc w _ none) HH.out (by simp)
    have hB2 := grown_heap hgrow hB1 (fun e => HNE.out e)
    have e1 : (m + 7) / 8 + 1 = (m / 8 + 1) := by omega
    rw [e1] at hown
    have hg2 : w0.grownBy w2 none := grown_row (grown_trans HW.out.g (grown_alloc _ _ _)) hgrow (fun z e => HO.out.block z e)
    have t0 : w2.cell? ⟨B, 0, none⟩ = some (.slice a1 ((m + 7) / 8) c1) := by rw [cell_of_row w2 _ 0 _ _ _ hB2]; rfl
    have s0 : w2.frozen? ⟨B, 0, none⟩ = false := frozen_of_row w2 _ 0 _ _ hB2
    have H3 : Hid ((w2.setCell ⟨B, 0, none⟩ (.slice (some ⟨g, 0, none⟩) (m / 8 + 1) c2)).heap[B]? = some (.cells #[.slice (some ⟨g, 0, none⟩) (m / 8 + 1) c2, .int .i64 (m : Int)] 81 (0, 0)) ∧ Owns (w2.setCell ⟨B, 0, none⟩ (.slice (some ⟨g, 0, none⟩) (m / 8 + 1) c2)) w0.heap.size (.slice (some ⟨g, 0, none⟩) (m / 8 + 1) c2) (m / 8 + 1) (pad (pk bs) m) ∧ w0.grownBy (w2.setCell ⟨B, 0, none⟩ (.slice (some ⟨g, 0, none⟩) (m / 8 + 1) c2)) none ∧ ∀ p ∈ K, (w2.setCell ⟨B, 0, none⟩ (.slice (some ⟨g, 0, none⟩) (m / 8 + 1) c2)).heap[p.1]? = some p.2 ∧ p.1 ≠ B ∧ g ≠ p.1) := by
      have ep : pad (pk bs) m = pk bs ++ [0] := by unfold pad; rw [if_pos h8]
      rw [e1] at *
      refine ⟨by rw [heap_setCell_same w2 B 0 _ _ _ hB2]; rfl, ?_, grown_set hg2 HW.out.lo, fun p hp => ⟨grown_heap (grown_setCell _ ⟨B, 0, none⟩ _) (HKW.out p hp).1 (by intro e; injection e with e; exact (HKW.out p hp).2.1 e.symm), (HKW.out p hp).2⟩⟩
      rw [ep]
      exact Owns.set hown _ _ (by simp [Value.ownBlock]; exact own_not hown hB2)
    rw [e1]
    clear hown hgrow hB1 hB2 e1 hg2 q0 q1 f0 f1
    go_wp2
    generalize w2.setCell ⟨B, 0, none⟩ (.slice (some ⟨g, 0, none⟩) (m / 8 + 1) c2) = w3 at *
    obtain ⟨y, hy0, hy1, hor1, hor0, hcell, hfz, HL⟩ := wtr_last HM.out H3.out.1 H3.out.2.1 (own_not H3.out.2.1 H3.out.1) H3.out.2.2.1 HW.out.lo H3.out.2.2.2
    have HL := Lib.hid HL
    have p0 : w3.cell? ⟨B, 0, none⟩ = some (.slice (some ⟨g, 0, none⟩) (m / 8 + 1) c2) := by rw [cell_of_row w3 _ 0 _ _ _ H3.out.1]; rfl
    have p1 : w3.cell? ⟨B, 1, none⟩ = some (.int .i64 (m : Int)) := by rw [cell_of_row w3 _ 1 _ _ _ H3.out.1]; rfl
    have g1 : w3.frozen? ⟨B, 1, none⟩ = false := frozen_of_row w3 _ 1 _ _ H3.out.1
    have hgB := own_not H3.out.2.1 H3.out.1
    obtain ⟨n, hn2⟩ : ∃ n, (m / 8 + 1) = n := ⟨_, rfl⟩
    obtain ⟨q, hq⟩ : ∃ q, m / 8 = q := ⟨_, rfl⟩
    obtain ⟨r, hr⟩ : ∃ r, m % 8 = r := ⟨_, rfl⟩
    rw [hn2] at p0
    rw [hq] at hcell hfz
    rw [hr] at hor1
    have iq : (m : Int) / 8 = (q : Int) := by omega
    have ir : (m : Int) % 8 = (r : Int) := by omega
    have iqn : (q : Int) < (n : Int) := by omega
    have hqn : q < n := by omega
    have hr8 : r = 0 ∨ r = 1 ∨ r = 2 ∨ r = 3 ∨ r = 4 ∨ r = 5 ∨ r = 6 ∨ r = 7 := by omega
    rw [hq, hr] at HL
    have hmb : m < 16384 := hn
    clear hn2 hq hr H3 hn
    cases b with
    | false =>
      obtain rfl : (0 : Int) = z := HZ.out
      have HL2 := Lib.hid (HL.out false y rfl)
      clear HL hor1
      rcases hr8 with rfl | rfl | rfl | rfl | rfl | rfl | rfl | rfl
      all_goals first
        | (exfalso; omega)
        | (skip
           go_region
           go_wp2
           go_end0
           first | exact ⟨rfl, HL2.out⟩ | exact ⟨rfl, HL2.out.grown (grown_drew _ _)⟩)
    | true =>
      obtain rfl : (1 : Int) = z := HZ.out
      have HL2 := Lib.hid (HL.out true (y + 2 ^ (7 - r)) rfl)
      have HOR := Lib.hid hor1
      clear HL hor0 hor1
      rcases hr8 with rfl | rfl | rfl | rfl | rfl | rfl | rfl | rfl
      all_goals first
        | (exfalso; omega)
        | (skip
           go_region
           go_wp2
           go_end0
           first | exact ⟨rfl, by rw [show bits .or .i64 y 128 = _ from HOR.out]; exact HL2.out.grown (grown_drew _ _)⟩ | exact ⟨rfl, by rw [show bits .or .i64 y 64 = _ from HOR.out]; exact HL2.out.grown (grown_drew _ _)⟩ | exact ⟨rfl, by rw [show bits .or .i64 y 32 = _ from HOR.out]; exact HL2.out.grown (grown_drew _ _)⟩ | exact ⟨rfl, by rw [show bits .or .i64 y 16 = _ from HOR.out]; exact HL2.out.grown (grown_drew _ _)⟩ | exact ⟨rfl, by rw [show bits .or .i64 y 8 = _ from HOR.out]; exact HL2.out.grown (grown_drew _ _)⟩ | exact ⟨rfl, by rw [show bits .or .i64 y 4 = _ from HOR.out]; exact HL2.out.grown (grown_drew _ _)⟩ | exact ⟨rfl, by rw [show bits .or .i64 y 2 = _ from HOR.out]; exact HL2.out.grown (grown_drew _ _)⟩ | exact ⟨rfl, by rw [show bits .or .i64 y 1 = _ from HOR.out]; exact HL2.out.grown (grown_drew _ _)⟩)
  · have d8 : ((m : Int) % 8 == 0) = false := by simp; omega
    have e1 : (m + 7) / 8 = (m / 8 + 1) := by omega
    rcases HO.out.2 with ⟨_, h0⟩ | ⟨g, c2, cur, hv, _, _⟩
    · omega
    injection hv with hv1 _ hv2
    subst hv1
    subst hv2
    obtain ⟨w3, hw3⟩ : ∃ w3, w3 = w := ⟨_, rfl⟩
    subst hw3
    have H3 : Hid (w3.heap[B]? = some (.cells #[.slice (some ⟨g, 0, none⟩) (m / 8 + 1) c1, .int .i64 (m : Int)] 81 (0, 0)) ∧ Owns w3 w0.heap.size (.slice (some ⟨g, 0, none⟩) (m / 8 + 1) c1) (m / 8 + 1) (pad (pk bs) m) ∧ w0.grownBy w3 none ∧ ∀ p ∈ K, w3.heap[p.1]? = some p.2 ∧ p.1 ≠ B ∧ g ≠ p.1) := by
      have ep : pad (pk bs) m = pk bs := by unfold pad; rw [if_neg h8]
      rw [ep, ← e1]
      exact ⟨HH.out, HO.out, HW.out.g, fun p hp => ⟨(HKP.out p hp).1, (HKP.out p hp).2.1, fun e => (HKP.out p hp).2.2 (by rw [← e]; rfl)⟩⟩
    clear q0 q1 f0 f1 e1 HO HH
    obtain ⟨y, hy0, hy1, hor1, hor0, hcell, hfz, HL⟩ := wtr_last HM.out H3.out.1 H3.out.2.1 (own_not H3.out.2.1 H3.out.1) H3.out.2.2.1 HW.out.lo H3.out.2.2.2
    have HL := Lib.hid HL
    have p0 : w3.cell? ⟨B, 0, none⟩ = some (.slice (some ⟨g, 0, none⟩) (m / 8 + 1) c1) := by rw [cell_of_row w3 _ 0 _ _ _ H3.out.1]; rfl
    have p1 : w3.cell? ⟨B, 1, none⟩ = some (.int .i64 (m : Int)) := by rw [cell_of_row w3 _ 1 _ _ _ H3.out.1]; rfl
    have g1 : w3.frozen? ⟨B, 1, none⟩ = false := frozen_of_row w3 _ 1 _ _ H3.out.1
    have hgB := own_not H3.out.2.1 H3.out.1
    obtain ⟨n, hn2⟩ : ∃ n, (m / 8 + 1) = n := ⟨_, rfl⟩
    obtain ⟨q, hq⟩ : ∃ q, m / 8 = q := ⟨_, rfl⟩
    obtain ⟨r, hr⟩ : ∃ r, m % 8 = r := ⟨_, rfl⟩
    rw [hn2] at p0
    rw [hq] at hcell hfz
    rw [hr] at hor1
    have iq : (m : Int) / 8 = (q : Int) := by omega
    have ir : (m : Int) % 8 = (r : Int) := by omega
    have iqn : (q : Int) < (n : Int) := by omega
    have hqn : q < n := by omega
    have hr8 : r = 0 ∨ r = 1 ∨ r = 2 ∨ r = 3 ∨ r = 4 ∨ r = 5 ∨ r = 6 ∨ r = 7 := by omega
    rw [hq, hr] at HL
    have hmb : m < 16384 := hn
    clear hn2 hq hr H3 hn
    cases b with
    | false =>
      obtain rfl : (0 : Int) = z := HZ.out
      have HL2 := Lib.hid (HL.out false y rfl)
      clear HL hor1
      rcases hr8 with rfl | rfl | rfl | rfl | rfl | rfl | rfl | rfl
      all_goals first
        | (exfalso; omega)
        | (skip
           go_enter Tryd.func64, Tryd.ntmps64
           go_wp2
           go_region
           go_wp2
           go_end0
           first | exact ⟨rfl, HL2.out⟩ | exact ⟨rfl, HL2.out.grown (grown_drew _ _)⟩)
    | true =>
      obtain rfl : (1 : Int) = z := HZ.out
      have HL2 := Lib.hid (HL.out true (y + 2 ^ (7 - r)) rfl)
      have HOR := Lib.hid hor1
      clear HL hor0 hor1
      rcases hr8 with rfl | rfl | rfl | rfl | rfl | rfl | rfl | rfl
      all_goals first
        | (exfalso; omega)
        | (skip
           go_enter Tryd.func64, Tryd.ntmps64
           go_wp2
           go_region
           go_wp2
           go_end0
           first | exact ⟨rfl, by rw [show bits .or .i64 y 128 = _ from HOR.out]; exact HL2.out.grown (grown_drew _ _)⟩ | exact ⟨rfl, by rw [show bits .or .i64 y 64 = _ from HOR.out]; exact HL2.out.grown (grown_drew _ _)⟩ | exact ⟨rfl, by rw [show bits .or .i64 y 32 = _ from HOR.out]; exact HL2.out.grown (grown_drew _ _)⟩ | exact ⟨rfl, by rw [show bits .or .i64 y 16 = _ from HOR.out]; exact HL2.out.grown (grown_drew _ _)⟩ | exact ⟨rfl, by rw [show bits .or .i64 y 8 = _ from HOR.out]; exact HL2.out.grown (grown_drew _ _)⟩ | exact ⟨rfl, by rw [show bits .or .i64 y 4 = _ from HOR.out]; exact HL2.out.grown (grown_drew _ _)⟩ | exact ⟨rfl, by rw [show bits .or .i64 y 2 = _ from HOR.out]; exact HL2.out.grown (grown_drew _ _)⟩ | exact ⟨rfl, by rw [show bits .or .i64 y 1 = _ from HOR.out]; exact HL2.out.grown (grown_drew _ _)⟩)

/-- A further block is kept; fewer are. -/
theorem Wtr.keep {w0 w : World} {B C : Nat} {bs : List Bool} {o : Obj} (h : Wtr K w0 w B bs) (hC : ∀ v, Owns w w0.heap.size v ((bs.length + 7) / 8) (pk bs) → v.ownBlock ≠ some C) (hB : C ≠ B) (ho : w.heap[C]? = some o) : Wtr ((C, o) :: K) w0 w B bs := by
  obtain ⟨v, h1, h2, h3, h4⟩ := h.ex
  refine ⟨⟨v, h1, h2, h3, fun p hp => ?_⟩, h.g, h.lo⟩
  rcases List.mem_cons.1 hp with rfl | hp
  · exact ⟨ho, hB, hC v h2⟩
  · exact h4 p hp
theorem Wtr.less {w0 w : World} {B : Nat} {bs : List Bool} {K' : List (Nat × Obj)} (h : Wtr K w0 w B bs) (hk : ∀ p ∈ K', p ∈ K) : Wtr K' w0 w B bs := by
  obtain ⟨v, h1, h2, h3, h4⟩ := h.ex
  exact ⟨⟨v, h1, h2, h3, fun p hp => h4 p (hk p hp)⟩, h.g, h.lo⟩
/-- A new block beside the writer is kept. -/
theorem Wtr.new {w0 w : World} {B : Nat} {bs : List Bool} (h : Wtr K w0 w B bs) (o : Obj) : Wtr ((w.heap.size, o) :: K) w0 (w.alloc o) B bs := by
  obtain ⟨v, h1, h2, h3, h4⟩ := h.ex
  have hlt := block_lt h1
  have hg := grown_alloc w o none
  refine ⟨⟨v, grown_heap hg h1 (by simp), h2.grown hg, h3, fun p hp => ?_⟩, grown_trans h.g hg, h.lo⟩
  rcases List.mem_cons.1 hp with rfl | hp
  · exact ⟨heap_alloc_new w o, by omega, fun e => by have := World.ownsRow.lt h2 _ e; omega⟩
  · exact ⟨grown_heap hg (h4 p hp).1 (by simp), (h4 p hp).2⟩
theorem Wtr.kept {w0 w : World} {B C : Nat} {bs : List Bool} {o : Obj} (h : Wtr K w0 w B bs) (hk : (C, o) ∈ K) : w.heap[C]? = some o := by
  obtain ⟨v, _, _, _, h4⟩ := h.ex
  exact (h4 _ hk).1

end Go.Proofs.YtcgcippniicaaaaDoor
