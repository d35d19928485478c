/-
  The draws of lists of bytes: what 'randomBytes', 'spoil' and 'anyBytes' give. For every code.
-/
import Derived.Test.YtncbgofcimghnaaOwn
import Derived.Deep.LoopGhost
namespace Go.Proofs.Ytncbgofcimghnaa
open Go.RowKit


/-- A drawn list of at most L numbers, in new memory; the reader has gone on. -/
def DrewL (L r P : Nat) (w : World) (e : Ending) (w' : World) : Prop :=
  ∃ (v : Value) (len : Nat) (xs : List Int), e = .returned v ∧ len ≤ L ∧ Owns w' w.heap.size v len xs ∧ Rdr w' r P ∧ w.grownBy w' (some r)

/-- A drawn list that may be a part of its array; the reader has gone on. -/
def DrewR (L r P : Nat) (w : World) (e : Ending) (w' : World) : Prop :=
  ∃ (ao : Option Addr) (len cap : Nat) (xs : List Int), e = .returned (.slice ao len cap) ∧ len ≤ L ∧ len ≤ cap ∧ (ao = none → cap = 0) ∧ Ints w' ao len xs ∧
    (∀ a, ao = some a → w.heap.size ≤ a.block ∧ a.block < w'.heap.size) ∧ Rdr w' r P ∧ w.grownBy w' (some r)

theorem drewR_of {L r P len : Nat} {v : Value} {xs : List Int} {w w' : World} (h : len ≤ L) (ho : Owns w' w.heap.size v len xs) (hR : Rdr w' r P) (hg : w.grownBy w' (some r)) : DrewR L r P w (.returned v) w' := by
  obtain ⟨ao, cap, rfl, h1, h2, h3, h4⟩ := ho.reads
  exact ⟨ao, len, cap, xs, rfl, h, h1, h2, h3, h4, hR, hg⟩

theorem owns_tail {w : World} {base len g cap : Nat} {xs : List Int} (h : Owns w base (.slice (some ⟨g, 0, none⟩) len cap) len xs) (_h0 : 0 < len) :
    Ints w (some ⟨g, 1, none⟩) (len - 1) xs.tail := by
  have hl := h.len_eq
  refine ⟨by simp; omega, Or.inr ⟨g, 1, rfl, fun k x hx => ?_⟩⟩
  have hx' : xs[k + 1]? = some x := by rw [← List.getElem?_tail]; exact hx
  have hlt := (List.getElem?_eq_some_iff.1 hx').1
  rw [World.ownsRow.cellAt h (1 + k) (by omega), List.getElem?_map, Nat.add_comm 1 k, hx']; rfl

/-- The same with a bound on the capacity. -/
def DrewC (L r P : Nat) (w : World) (e : Ending) (w' : World) : Prop :=
  ∃ (ao : Option Addr) (len cap : Nat) (xs : List Int), e = .returned (.slice ao len cap) ∧ len ≤ L ∧ len ≤ cap ∧ cap ≤ 9223372036854775807 ∧ (ao = none → cap = 0) ∧ Ints w' ao len xs ∧
    (∀ a, ao = some a → w.heap.size ≤ a.block ∧ a.block < w'.heap.size) ∧ Rdr w' r P ∧ w.grownBy w' (some r)
theorem drewC_of {L r P len : Nat} {v : Value} {xs : List Int} {w w' : World} (h : len ≤ L) (ho : Owns w' w.heap.size v len xs) (hR : Rdr w' r P) (hg : w.grownBy w' (some r)) : DrewC L r P w (.returned v) w' := by
  obtain ⟨ao, cap, rfl, h1, h2, h3, h4⟩ := ho.reads
  refine ⟨ao, len, cap, xs, rfl, h, h1, ?_, h2, h3, h4, hR, hg⟩
  rcases ho.2 with ⟨e, _⟩ | ⟨g, c, cur, e, _, _, _, hcm, _⟩
  · injection e with _ _ e; omega
  · injection e with _ _ e; unfold maxLen at hcm; omega
theorem own_cap {w : World} {base n m g c : Nat} {xs : List Int} (h : Owns w base (.slice (some ⟨g, 0, none⟩) m c) n xs) : c ≤ 9223372036854775807 := by
  rcases h.2 with ⟨e, _⟩ | ⟨g', c', cur, e, _, _, _, hcm, _⟩
  · cases e
  · injection e with _ _ e; unfold maxLen at hcm; omega

set_option maxHeartbeats 1000000 in
theorem spoil_c (xs : List Int) (n : Int) (ao : Option Addr) (len cap r P : Nat) (w : World) (hx : Ints w ao len xs) (hn : ao = none → cap = 0) (hlen : len ≤ 1000000) (hR : Rdr w r P) (hP : P < 900000) :
    Calls Try.prog 66 #[.pointer (some ⟨r, 0, none⟩), .slice ao len cap, .int .i64 n] w (DrewC (len + 1) r (P + 3) w) := by
  obtain ⟨i0, hi, hz0, hz1, hz2⟩ := info_parts info_int
  have hrl := hR.lt
  have hcopy := copyInts_any xs ao len cap w hx hn (by omega)
  clear hx hn
  go_enter Try.func66, Try.ntmps66
  go_wp2_with fail
  refine hcopy.mono ?_
  rintro e w1 ⟨v1, rfl, ho1, hg1⟩
  clear hcopy
  have hR1 := hR.kept hg1 (by simp)
  have hsz1 := hg1.size
  have HO := Lib.hid ho1
  have HG := Lib.hid (grown_any hg1 (some r))
  clear hR ho1 hg1
  rcases HO.out.2 with ⟨rfl, rfl⟩ | ⟨g, c1, cur, rfl, hg0, hh, hnc, _⟩
  · -- nothing was copied
    go_wp2_with fail
    refine (pick_any 20 r P _ hR1 (by omega) (by omega)).mono ?_
    rintro e w2 ⟨m, rfl, hm0, _, _, hR2, hg2⟩
    have HS : Hid (Rdr w2 r (P + 1) ∧ w.grownBy w2 (some r) ∧ Owns w2 w.heap.size (.slice none 0 0) 0 xs) := ⟨hR2, grown_trans HG.out hg2, HO.out.kept hg2 (Or.inl rfl)⟩
    have hsz2 := hg2.size
    clear hR1 hR2 hg2
    by_cases h0 : m = 0
    · subst h0
      go_wp2_with (at_builtin; refine wpList_append_own _ rfl _ _ 39 rfl w.heap.size 3 i0 (.int .i64 0) 1 8 Try.underlying39 hi hz0 hz1 hz2 rfl (by decide) _ _ _ rfl (World.ownsRow.alloc HS.out.2.2 _) ⟨w2.heap.size, 0, none⟩ 1 1 [.int .i64 n] rfl rfl ?c1 ?c2 ?c3 ?c4 ?c5 ?_)
      case c1 =>
        intro j u hj
        match j, hj with
        | 0, hj => simp at hj; subst hj; simp [Addr.add]
      case c2 => intro u hu; simp at hu; subst hu; rfl
      case c3 => unfold maxLen; omega
      case c4 => omega
      case c5 => simp; omega
      intro v' w3 hown hgrow _
      have HT : Hid (DrewC (0 + 1) r (P + 3) w (.returned v') w3) := by
        refine drewC_of (Nat.le_refl _) (xs := xs ++ [n]) ?_ ((Rdr.own (HS.out.1.alloc _) (World.ownsRow.alloc HS.out.2.2 _) hgrow hrl).mono (by omega)) (grown_row (grown_trans HS.out.2.1 (grown_alloc _ _ _)) hgrow (HS.out.2.2.block))
        show World.ownsRow _ _ _ _ _ _ _; rw [List.map_append];  exact hown
      clear hown hgrow
      go_wp2
      go_ret
      exact HT.out
    have h0' : (m == 0) = false := by simpa using h0
    have HT : Hid (DrewC (0 + 1) r (P + 3) w (.returned (.slice none 0 0)) w2) := drewC_of (by omega) HS.out.2.2 (HS.out.1.mono (by omega)) HS.out.2.1
    by_cases h1 : m = 1
    · subst h1
      clear h0 h0'
      go_wp2
      go_ret
      exact HT.out
    have h1' : (m == 1) = false := by simpa using h1
    by_cases h2 : m = 2
    · subst h2
      clear h0 h0' h1 h1'
      go_wp2
      go_ret
      exact HT.out
    · have h2' : (m == 2) = false := by simpa using h2
      clear h0 h1 h2
      go_wp2
      go_ret
      exact HT.out
  · clear hh
    go_wp2_with fail
    refine (pick_any 20 r P _ hR1 (by omega) (by omega)).mono ?_
    rintro e w2 ⟨m, rfl, hm0, _, _, hR2, hg2⟩
    have HS : Hid (Rdr w2 r (P + 1) ∧ w.grownBy w2 (some r) ∧ Owns w2 w.heap.size (.slice (some ⟨g, 0, none⟩) len c1) len xs) := ⟨hR2, grown_trans HG.out hg2, HO.out.read hg2 hrl⟩
    have hsz2 := hg2.size
    clear hR1 hR2 hg2
    by_cases h0 : m = 0
    · subst h0
      go_wp2_with (at_builtin; refine wpList_append_own _ rfl _ _ 39 rfl w.heap.size 3 i0 (.int .i64 0) 1 8 Try.underlying39 hi hz0 hz1 hz2 rfl (by decide) _ _ _ rfl (World.ownsRow.alloc HS.out.2.2 _) ⟨w2.heap.size, 0, none⟩ 1 1 [.int .i64 n] rfl rfl ?d1 ?d2 ?d3 ?d4 ?d5 ?_)
      case d1 =>
        intro j u hj
        match j, hj with
        | 0, hj => simp at hj; subst hj; simp [Addr.add]
      case d2 => intro u hu; simp at hu; subst hu; rfl
      case d3 => unfold maxLen; omega
      case d4 => omega
      case d5 => simp; omega
      intro v' w3 hown hgrow _
      have HT : Hid (DrewC (len + 1) r (P + 3) w (.returned v') w3) := by
        refine drewC_of (Nat.le_refl _) (xs := xs ++ [n]) ?_ ((Rdr.own (HS.out.1.alloc _) (World.ownsRow.alloc HS.out.2.2 _) hgrow hrl).mono (by omega)) (grown_row (grown_trans HS.out.2.1 (grown_alloc _ _ _)) hgrow (HS.out.2.2.block))
        show World.ownsRow _ _ _ _ _ _ _; rw [List.map_append];  exact hown
      clear hown hgrow
      go_wp2
      go_ret
      exact HT.out
    have h0' : (m == 0) = false := by simpa using h0
    have HT : Hid (DrewC (len + 1) r (P + 3) w (.returned (.slice (some ⟨g, 0, none⟩) len c1)) w2) := drewC_of (by omega) HS.out.2.2 (HS.out.1.mono (by omega)) HS.out.2.1
    by_cases h1 : m = 1
    · subst h1
      clear h0 h0'
      by_cases hl0 : len = 0
      · subst hl0
        go_wp2
        go_ret
        exact HT.out
      have hl1 : 0 < len := by omega
      have HT2 : Hid (∀ a, a = (⟨g, 1, none⟩ : Addr) ∨ len = 1 ∧ a = ⟨g, 0, none⟩ → DrewC (len + 1) r (P + 3) w (.returned (.slice (some a) (len - 1) (c1 - 1))) w2) := by
        have hb := HS.out.2.2.reads
        obtain ⟨ao', cap', hv, h1, h2, h3, h4⟩ := hb
        injection hv with hv1 hv2 hv3; subst hv1
        have hbl := h4 _ rfl
        rintro a (rfl | ⟨h1l, rfl⟩)
        · exact ⟨_, _, _, xs.tail, rfl, by omega, by omega, by have := own_cap HS.out.2.2; omega, (fun e => by cases e), owns_tail HS.out.2.2 hl1, (fun a e => by injection e with e; subst e; exact hbl), HS.out.1.mono (by omega), HS.out.2.1⟩
        · exact ⟨_, _, _, [], rfl, by omega, by omega, by have := own_cap HS.out.2.2; omega, (fun e => by cases e), ⟨(by rw [h1l]; rfl), Or.inl rfl⟩, (fun a e => by injection e with e; subst e; exact hbl), HS.out.1.mono (by omega), HS.out.2.1⟩
      clear hl0
      by_cases hc1 : c1 = 1
      · subst hc1
        obtain rfl : len = 1 := by omega
        go_wp2
        go_ret
        exact HT2.out _ (Or.inr (by simp))
      · have hc2 : 1 < c1 := by omega
        go_wp2
        go_ret
        exact HT2.out _ (Or.inl rfl)
    have h1' : (m == 1) = false := by simpa using h1
    by_cases h2 : m = 2
    · subst h2
      clear h0 h0' h1 h1'
      by_cases hl0 : len = 0
      · subst hl0
        go_wp2
        go_ret
        exact HT.out
      have hl1 : 0 < len := by omega
      clear HT hl0
      go_wp2_with fail
      refine (pick_any len r (P + 1) _ HS.out.1 (by omega) (by omega)).mono ?_
      rintro e w3 ⟨q, rfl, hq0, hq1, _, hR3, hg3⟩
      obtain ⟨q, rfl⟩ := Int.eq_ofNat_of_zero_le hq0
      have hq : q < len := by have := hq1 (by omega); omega
      have HS3 : Hid (Rdr w3 r (P + 2) ∧ w.grownBy w3 (some r) ∧ Owns w3 w.heap.size (.slice (some ⟨g, 0, none⟩) len c1) len xs) := ⟨hR3, grown_trans HS.out.2.1 hg3, HS.out.2.2.read hg3 hrl⟩
      clear hR3 hg3 hq0 hq1
      go_wp2_with fail
      refine (one_lit [-1, n, 0, 1] _ r (P + 2) _ w3 HS3.out.1 (by omega) (by simp) (by simp)).mono ?_
      rintro e w4 ⟨x, _, rfl, hR4, hg4⟩
      have HS4 : Hid (Rdr w4 r (P + 3) ∧ w.grownBy w4 (some r) ∧ Owns w4 w.heap.size (.slice (some ⟨g, 0, none⟩) len c1) len xs) := ⟨hR4, grown_trans HS3.out.2.1 hg4, HS3.out.2.2.read hg4 hrl⟩
      clear hR4 hg4
      have hl := HS4.out.2.2.len_eq
      obtain ⟨y, hy⟩ : ∃ y, xs[q]? = some y := ⟨_, List.getElem?_eq_getElem (by omega)⟩
      have hcell : w4.cell? ⟨g, q, none⟩ = some (.int .i64 y) := by
        rw [World.ownsRow.cellAt HS4.out.2.2 q (by omega), List.getElem?_map, hy]; rfl
      have hfz : w4.frozen? ⟨g, q, none⟩ = false := World.ownsRow.frozenAt HS4.out.2.2 q
      have HT : Hid (DrewC (len + 1) r (P + 3) w (.returned (.slice (some ⟨g, 0, none⟩) len c1)) (w4.setCell ⟨g, q, none⟩ (.int .i64 x))) := by
        have hst := World.ownsRow.stored HS4.out.2.2 q (.int .i64 x)
        rw [← List.map_set] at hst
        exact drewC_of (by omega) hst.1 (HS4.out.1.kept hst.2 (fun z e => by injection e with e; omega)) (grown_row HS4.out.2.1 hst.2 (fun z e => by injection e with e; omega))
      clear hl hy
      go_wp2
      go_ret
      exact HT.out
    · have h2' : (m == 2) = false := by simpa using h2
      clear h0 h1 h2
      go_wp2
      go_ret
      exact HT.out

theorem spoil_any (xs : List Int) (n : Int) (ao : Option Addr) (len cap r P : Nat) (w : World) (hx : Ints w ao len xs) (hn : ao = none → cap = 0) (hlen : len ≤ 1000000) (hR : Rdr w r P) (hP : P < 900000) :
    Calls Try.prog 66 #[.pointer (some ⟨r, 0, none⟩), .slice ao len cap, .int .i64 n] w (DrewR (len + 1) r (P + 3) w) :=
  (spoil_c xs n ao len cap r P w hx hn hlen hR hP).mono fun _ _ ⟨a, l, c, ys, h1, h2, h3, _, h4, h5, h6, h7, h8⟩ => ⟨a, l, c, ys, h1, h2, h3, h4, h5, h6, h7, h8⟩

theorem DrewR.weaken {L L' r P P' : Nat} {w w' : World} {e : Ending} (h : DrewR L r P w e w') (hL : L ≤ L') (hP : P ≤ P') : DrewR L' r P' w e w' := by
  obtain ⟨ao, len, cap, xs, h1, h2, h3, h4, h5, h6, h7, h8⟩ := h
  exact ⟨ao, len, cap, xs, h1, by omega, h3, h4, h5, h6, h7.mono hP, h8⟩

/-- A list that is drawn out of a code: new memory, and nothing old is written. -/
def Drew (L : Nat) (w : World) (e : Ending) (w' : World) : Prop :=
  ∃ (ao : Option Addr) (len cap : Nat) (xs : List Int), e = .returned (.slice ao len cap) ∧ len ≤ L ∧ len ≤ cap ∧ (ao = none → cap = 0) ∧ Ints w' ao len xs ∧
    (∀ a, ao = some a → w.heap.size ≤ a.block ∧ a.block < w'.heap.size) ∧ w.grownBy w' none

end Go.Proofs.Ytncbgofcimghnaa
