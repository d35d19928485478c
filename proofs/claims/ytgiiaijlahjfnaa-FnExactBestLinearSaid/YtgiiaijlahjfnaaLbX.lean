/-
  The exact laws' own helpers on lists of linear predictors: sizes, copies, equality.
-/
import Derived.Test.YtgiiaijlahjfnaaDrawB
import Derived.Test.YtgiiaijlahjfnaaLbI
namespace Go.Proofs.Ytgiiaijlahjfnaa
open Go.RowKit

/-- A list of predictors as it is read. -/
def LinsW (w : World) (ao : Option Addr) (len : Nat) (ls : List LinV) : Prop :=
  ls.length = len ∧ (ls = [] ∨ ∃ b off, ao = some ⟨b, off, none⟩ ∧ ∀ k l, ls[k]? = some l → w.cell? ⟨b, off + k * 2, none⟩ = some (.slice l.ao l.n l.cap) ∧ w.cell? ⟨b, off + k * 2 + 1, none⟩ = some (.int .i64 l.sh) ∧ Ints w l.ao l.n l.cs ∧ l.n ≤ 9223372036854775807)
theorem LinsW.strong {w : World} {ao : Option Addr} {len : Nat} {ls : List LinV} (h : LinsW w ao len ls) (hn : ∀ l ∈ ls, l.n ≤ 1048576) : Lins w ao len ls := by
  refine ⟨h.1, ?_⟩
  rcases h.2 with e | ⟨b, off, e, hc⟩
  · exact Or.inl e
  · exact Or.inr ⟨b, off, e, fun k l hl => by
      obtain ⟨h1, h2, h3, _⟩ := hc k l hl
      have := hn l (List.mem_of_getElem? hl)
      exact ⟨h1, h2, h3, by omega⟩⟩

/-- While the copy is made. -/
def LPart (w wr : World) (g len : Nat) (ls : List LinV) (k : Nat) : Prop :=
  w.grownBy wr none ∧ w.heap.size ≤ g ∧ ∃ L : List Value, wr.ownsRow w.heap.size 25 2 (.slice (some ⟨g, 0, none⟩) len len) len L ∧
    ∀ i l, i < k → ls[i]? = some l → ∃ a c, L[i * 2]? = some (.slice a l.n c) ∧ L[i * 2 + 1]? = some (.int .i64 l.sh) ∧ Ints wr a l.n l.cs ∧ (∀ x, a = some x → x.block ≠ g)
theorem lpart_step {w wr w2 : World} {g len k c : Nat} {ls : List LinV} {l : LinV} {a : Option Addr} (h : LPart w wr g len ls k) (hk : k < len) (hl : ls[k]? = some l) (hg : wr.grownBy w2 none) (hi : Ints w2 a l.n l.cs) (hb : ∀ x, a = some x → x.block ≠ g) :
    LPart w ((w2.setCell ⟨g, k * 2, none⟩ (.slice a l.n c)).setCell ⟨g, k * 2 + 1, none⟩ (.int .i64 l.sh)) g len ls (k + 1) := by
  obtain ⟨h0, hgb, L, h1, h2⟩ := h
  have hL := h1.1
  have h1' := World.ownsRow.kept h1 hg (Or.inr (by simp [Value.ownBlock]))
  have s1 := World.ownsRow.stored h1' (k * 2) (.slice a l.n c)
  have s2 := World.ownsRow.stored s1.1 (k * 2 + 1) (.int .i64 l.sh)
  have hkeep : ∀ (b : Option Addr) (n : Nat) (ys : List Int), Ints w2 b n ys → (∀ x, b = some x → x.block ≠ g) → Ints ((w2.setCell ⟨g, k * 2, none⟩ (.slice a l.n c)).setCell ⟨g, k * 2 + 1, none⟩ (.int .i64 l.sh)) b n ys := fun b n ys hy hne =>
    (hy.kept s1.2 (fun x e e2 => by injection e2 with e2; exact hne x e e2.symm)).kept s2.2 (fun x e e2 => by injection e2 with e2; exact hne x e e2.symm)
  refine ⟨grown_new (grown_new (grown_trans h0 hg) s1.2 hgb) s2.2 hgb, hgb, _, s2.1, fun i l' hik hl' => ?_⟩
  by_cases hik2 : i = k
  · subst hik2
    rw [hl] at hl'; injection hl' with e; subst e
    refine ⟨a, c, ?_, ?_, hkeep _ _ _ hi hb, hb⟩
    · rw [List.getElem?_set_ne (by omega), List.getElem?_set_self (by omega)]
    · rw [List.getElem?_set_self (by simp; omega)]
  · obtain ⟨a', c', e1, e2, e3, e4⟩ := h2 i l' (by omega) hl'
    refine ⟨a', c', ?_, ?_, hkeep _ _ _ (e3.grown hg) e4, e4⟩
    · rw [List.getElem?_set_ne (by omega), List.getElem?_set_ne (by omega)]; exact e1
    · rw [List.getElem?_set_ne (by omega), List.getElem?_set_ne (by omega)]; exact e2
theorem LPart.cell {w wr : World} {g len k : Nat} {ls : List LinV} (h : LPart w wr g len ls k) (hk : k < len) {w2 : World} (hg : wr.grownBy w2 none) : (∃ u, w2.cell? ⟨g, k * 2, none⟩ = some u) ∧ (∃ u, w2.cell? ⟨g, k * 2 + 1, none⟩ = some u) ∧ w2.frozen? ⟨g, k * 2, none⟩ = false ∧ w2.frozen? ⟨g, k * 2 + 1, none⟩ = false := by
  obtain ⟨h0, hgb, L, h1, h2⟩ := h
  have hL := h1.1
  have h1' := World.ownsRow.kept h1 hg (Or.inr (by simp [Value.ownBlock]))
  refine ⟨⟨L[k * 2]'(by omega), ?_⟩, ⟨L[k * 2 + 1]'(by omega), ?_⟩, World.ownsRow.frozenAt h1' _, World.ownsRow.frozenAt h1' _⟩
  · rw [World.ownsRow.cellAt h1' (k * 2) (by omega), List.getElem?_eq_getElem (by omega)]
  · rw [World.ownsRow.cellAt h1' (k * 2 + 1) (by omega), List.getElem?_eq_getElem (by omega)]
/-- The same predictors, elsewhere. -/
def LinsE (w : World) (ao : Option Addr) (len : Nat) (ls : List LinV) : Prop := ∃ ls2 : List LinV, Lins w ao len ls2 ∧ ls2.map (fun l => (l.n, l.cs, l.sh)) = ls.map (fun l => (l.n, l.cs, l.sh))
theorem list_choose {α : Type} {P : Nat → α → Prop} (n : Nat) (h : ∀ i, i < n → ∃ y, P i y) : ∃ ys : List α, ys.length = n ∧ ∀ i y, ys[i]? = some y → P i y := by
  induction n with
  | zero => exact ⟨[], rfl, fun i y h => by simp at h⟩
  | succ n ih =>
    obtain ⟨ys, hl, hp⟩ := ih (fun i hi => h i (by omega))
    obtain ⟨y, hy⟩ := h n (by omega)
    refine ⟨ys ++ [y], by simp [hl], fun i z hz => ?_⟩
    by_cases hi : i < n
    · rw [List.getElem?_append_left (by omega)] at hz; exact hp i z hz
    · have hlt := (List.getElem?_eq_some_iff.1 hz).1
      simp [hl] at hlt
      have e : i = n := by omega
      subst e
      rw [List.getElem?_append_right (by omega), hl, Nat.sub_self] at hz
      simp at hz; subst hz; exact hy
theorem lpart_full {w wr : World} {g len : Nat} {ls : List LinV} (h : LPart w wr g len ls len) (hl : ls.length = len) (hn : ∀ l ∈ ls, l.n ≤ 4611686018427387904) : LinsE wr (some ⟨g, 0, none⟩) len ls := by
  obtain ⟨h0, hgb, L, h1, h2⟩ := h
  have hL := h1.1
  obtain ⟨ls2, hl2, hp⟩ := list_choose (P := fun i (y : LinV) => ∃ l, ls[i]? = some l ∧ y.n = l.n ∧ y.cs = l.cs ∧ y.sh = l.sh ∧ L[i * 2]? = some (.slice y.ao l.n y.cap) ∧ L[i * 2 + 1]? = some (.int .i64 l.sh) ∧ Ints wr y.ao l.n l.cs) len (fun i hi => by
    obtain ⟨l, hli⟩ : ∃ l, ls[i]? = some l := ⟨_, List.getElem?_eq_getElem (by omega)⟩
    obtain ⟨a, c, e1, e2, e3, _⟩ := h2 i l hi hli
    exact ⟨⟨a, l.n, c, l.cs, l.sh⟩, l, hli, rfl, rfl, rfl, e1, e2, e3⟩)
  refine ⟨ls2, ⟨hl2, Or.inr ⟨g, 0, rfl, fun k y hy => ?_⟩⟩, ?_⟩
  · have hk := (List.getElem?_eq_some_iff.1 hy).1
    obtain ⟨l, hli, e1, e2, e3, e4, e5, e6⟩ := hp k y hy
    rw [e1, e2, e3, show 0 + k * 2 = k * 2 by omega]
    exact ⟨by rw [World.ownsRow.cellAt h1 (k * 2) (by omega)]; exact e4, by rw [World.ownsRow.cellAt h1 (k * 2 + 1) (by omega)]; exact e5, e6, hn l (List.mem_of_getElem? hli)⟩
  · apply List.ext_getElem?
    intro i
    rw [List.getElem?_map, List.getElem?_map]
    cases hi : ls2[i]? with
    | none =>
      have := List.getElem?_eq_none_iff.1 hi
      rw [List.getElem?_eq_none (by omega)]
    | some y =>
      obtain ⟨l, hli, e1, e2, e3, _⟩ := hp i y hi
      rw [hli]; simp [e1, e2, e3]

set_option maxRecDepth 100000 in
set_option maxHeartbeats 2000000 in
theorem toLinearS_any (ls : List LinV) (ao : Option Addr) (len cap : Nat) (w : World) (hx : Lins w ao len ls) (hlen : len ≤ 1048576) (hn : ∀ l ∈ ls, l.n ≤ 1048576) :
    Calls Try.prog 31 #[.slice ao len cap] w fun e w' => ∃ g, e = .returned (.slice (some ⟨g, 0, none⟩) len len) ∧ w.heap.size ≤ g ∧ LinsE w' (some ⟨g, 0, none⟩) len ls ∧ w.grownBy w' none := by
  obtain ⟨i0, hi, hz0, hz1, hz2⟩ := info_parts info_linear
  have hl := hx.1
  have HX := Lib.hid hx
  have HL := Lib.hid hl
  have HN := Lib.hid hn
  clear hx hl hn
  go_enter Try.func31, Try.ntmps31
  go_wp2_with (at_make; refine wpList_make_full _ rfl _ _ 35 rfl w.heap.size 25 i0 (.agg #[.slice none 0 0, .int .i64 0]) 2 Try.underlying35 hi hz0 hz1 .i64 .i64 _ _ len rfl rfl rfl rfl ?b1 ?b2 ?b3 ?_)
  case b1 => rw [hz2]; omega
  case b2 => unfold maxLen; omega
  case b3 => exact Nat.le_refl _
  intro w1 hown hgrow
  have HP : Hid (LPart w w1 w.heap.size len ls 0) := ⟨hgrow, Nat.le_refl _, _, hown, fun i l h => by omega⟩
  clear hown hgrow
  go_wp2
  go_loopw [4] (fun i wr => ∃ k : Nat, k ≤ len ∧ i = .int .i64 k ∧ Hid (LPart w wr w.heap.size len ls k)) (fun i _ => len - (intOf i).toNat)
  case atStart => exact ⟨0, Nat.zero_le _, rfl, HP⟩
  case round =>
    obtain ⟨k, hk, rfl, HW⟩ := hrel
    by_cases hlt : k < len
    · obtain ⟨l, hlk⟩ : ∃ l, ls[k]? = some l := ⟨_, List.getElem?_eq_getElem (by rw [HL.out]; exact hlt)⟩
      obtain ⟨b, off, hab, hc⟩ := HX.out.2.resolve_left (by intro e; subst e; simp at hlk)
      obtain ⟨hq0, hq1, hly, _⟩ := hc k l hlk
      have q0 := HW.out.1.cell hq0 (by simp)
      have q1 := HW.out.1.cell hq1 (by simp)
      have HY := Lib.hid (hly.grown HW.out.1)
      have hln := HN.out l (List.mem_of_getElem? hlk)
      have HK := Lib.hid hlk
      subst hab
      obtain ⟨lao, ln, lcap', lcs, lsh⟩ := l
      simp only at q0 q1 HY hln
      clear hc hq0 hq1 hly hlk
      go_wp2_with fail
      refine (toLinear_any lcs lao ln lcap' lsh _ HY.out (by omega)).mono ?_
      rintro e w2 ⟨v2, rfl, ho2, hg2⟩
      obtain ⟨a2, c2, rfl, _, _, hx2, hb2⟩ := ho2.reads
      have hglt : w.heap.size < wr.heap.size := by
        obtain ⟨_, _, L, h1, _⟩ := HW.out
        exact (World.ownsRow.lt h1 _ rfl).2
      have R := Lib.hid (lpart_step (c := c2) HW.out hlt HK.out hg2 hx2 (fun x e => by have := (hb2 x e).1; omega))
      obtain ⟨⟨u0, p0⟩, ⟨u1, p1⟩, f0, f1⟩ := HW.out.cell hlt hg2
      clear ho2 hx2 hb2 hg2 q0 q1 HY HW HK
      go_wp2
      go_roundw
      case rel => exact ⟨k + 1, by omega, by go_num, R⟩
      case measure => simp [intOf]; omega
    · obtain rfl : k = len := by omega
      have R : Hid (LinsE wr (some ⟨w.heap.size, 0, none⟩) k ls ∧ w.grownBy wr none) := ⟨lpart_full HW.out HL.out (fun l h => by have := HN.out l h; omega), HW.out.1⟩
      go_wp2
      go_ret
      exact ⟨_, rfl, Nat.le_refl _, R.out.1, R.out.2⟩

end Go.Proofs.Ytgiiaijlahjfnaa
