/-
  The draw of samples with a list of predictors. For every code.
-/
import Derived.Test.YtgiiaijlahjfnaaDrawLR
import Derived.Test.YtgiiaijlahjfnaaLbM
namespace Go.Proofs.Ytgiiaijlahjfnaa
open Go.RowKit

theorem info_linear : (Try.prog.info? 25).map (fun i => (i.zero, i.size, i.bytes)) = some (some (.agg #[.slice none 0 0, .int .i64 0]), 2, 32) := by kernel_rfl

/-- APPEND of a predictor, and where the result lies: in its row, or in a new one. -/
theorem append_lin {ops : Array Oper} {rest : List Oper} {o : Oper} {a : Act} {w : World} {Q : Exit → Act → World → Prop} (hgd : o.guard = none) (s x : Operand)
    (ho : o.op = .call { callee := .builtin .append, args := #[s, x], argTypes := #[35, 35] })
    (base g vc : Nat) (n : Nat) (ys : List Value) (hs : a.eval s = .slice (some ⟨g, 0, none⟩) n vc) (hown : w.ownsRow base 25 2 (.slice (some ⟨g, 0, none⟩) n vc) n ys)
    (ad : Addr) (cap : Nat) (news : List Value) (hx : a.eval x = .slice (some ad) 1 cap) (hl : news.length = 1 * 2) (hnew : ∀ (j : Nat) (u : Value), news[j]? = some u → w.cell? (ad.add j) = some u) (h1 : ∀ u ∈ news, u.oneCell' = true)
    (hb : n ≤ 1000) (hbase : base ≤ w.heap.size)
    (h : ∀ g' c' w', w'.ownsRow base 25 2 (.slice (some ⟨g', 0, none⟩) (n + 1) c') (n + 1) (ys ++ news) → w.grownBy w' (some g) → (g' = g ∨ w.heap.size ≤ g') → wpList Try.prog ops Q rest (a.put o.dst (.slice (some ⟨g', 0, none⟩) (n + 1) c')) w') : wpList Try.prog ops Q (o :: rest) a w := by
  obtain ⟨i0, hi0, hz0, hz1, hz2⟩ := info_parts info_linear
  by_cases hfull : vc < n + 1
  · refine wpList_append_grows w hgd s x 35 ho 25 i0 (.agg #[.slice none 0 0, .int .i64 0]) 2 32 Try.underlying35 hi0 hz0 hz1 hz2 rfl (by decide) (some ⟨g, 0, none⟩) n vc ys hs (fun e => nomatch e) hown.1 ?_ ad 1 cap news hx hl hnew h1 hfull (by unfold maxLen; omega) (by omega) ?_
    · intro b e j u hu
      injection e with e; subst e
      rw [show (⟨g, 0, none⟩ : Addr).add j = ⟨g, j, none⟩ by simp [Addr.add]; omega]
      have hj : j < n * 2 := by have := hown.1; have := (List.getElem?_eq_some_iff.1 hu).1; omega
      rw [World.ownsRow.cellAt hown j hj]; exact hu
    · intro v' w' h1' h2
      rcases h1'.2 with ⟨_, h0⟩ | ⟨g', c', cur, rfl, hg', hr⟩
      · omega
      · exact h g' c' w' ⟨h1'.1, Or.inr ⟨g', c', cur, rfl, by omega, hr⟩⟩ (grown_any h2 _) (Or.inr hg')
  · refine wpList_append_fits w hgd s x 35 ho base 25 i0 2 Try.underlying35 hi0 hz1 g n vc ys hs hown ad 1 cap news hx hl hnew h1 (by omega) ?_
    intro w' h1' h2
    exact h g vc w' h1' h2 (Or.inl rfl)

def vals (ls : List LinV) : List Value := ls.flatMap (fun l => [.slice l.ao l.n l.cap, .int .i64 l.sh])
theorem vals_snoc (ls : List LinV) (l : LinV) : vals (ls ++ [l]) = vals ls ++ [.slice l.ao l.n l.cap, .int .i64 l.sh] := by simp [vals]
theorem vals_get {ls : List LinV} {k : Nat} {l : LinV} (h : ls[k]? = some l) : (vals ls)[k * 2]? = some (.slice l.ao l.n l.cap) ∧ (vals ls)[k * 2 + 1]? = some (.int .i64 l.sh) := by
  induction ls generalizing k with
  | nil => simp at h
  | cons x ls ih =>
    cases k with
    | zero => simp at h; subst h; exact ⟨rfl, rfl⟩
    | succ k =>
      simp at h
      have := ih h
      show (_ :: _ :: vals ls)[(k + 1) * 2]? = _ ∧ (_ :: _ :: vals ls)[(k + 1) * 2 + 1]? = _
      rw [show (k + 1) * 2 = k * 2 + 1 + 1 by omega, show k * 2 + 1 + 1 + 1 = (k * 2 + 1) + 1 + 1 by omega]
      exact this

/-- Inside the draw. -/
structure BL (w : World) (r P g c : Nat) (ls : List LinV) (q : Nat) (w' : World) : Prop where
  rd : Rdr w' r P
  gr : w.grownBy w' (some r)
  row : w'.ownsRow w.heap.size 25 2 (.slice (some ⟨g, 0, none⟩) q c) q (vals ls)
  len : ls.length = q
  els : ∀ l ∈ ls, Ints w' l.ao l.n l.cs ∧ l.n ≤ 9 ∧ ∀ a, l.ao = some a → r < a.block ∧ a.block ≠ g ∧ a.block < w'.heap.size
  lt : g < w'.heap.size

theorem BL.read {w w1 w2 : World} {r P P2 g c q : Nat} {ls : List LinV} (h : BL w r P g c ls q w1) (hr : r < w.heap.size) (hg : w1.grownBy w2 (some r)) (hR : Rdr w2 r P2) : BL w r P2 g c ls q w2 := by
  have hgb : w.heap.size ≤ g := by
    rcases h.row.2 with ⟨e, _⟩ | ⟨g', _, _, e, hb, _⟩
    · cases e
    · injection e with e; injection e with e; injection e with e; omega
  refine ⟨hR, grown_trans h.gr hg, ?_, h.len, fun l hl => ?_, Nat.lt_of_lt_of_le h.lt hg.size⟩
  · rcases h.row.2 with ⟨e, _⟩ | ⟨g', c', cur, e, hb, hh, hr2⟩
    · cases e
    · injection e with e e1 e2
      injection e with e; injection e with e
      subst e; subst e2
      exact ⟨h.row.1, Or.inr ⟨g, c, cur, rfl, hb, grown_heap hg hh (fun e => by injection e with e; omega), hr2⟩⟩
  · obtain ⟨h1, h2, h3⟩ := h.els l hl
    exact ⟨h1.kept hg (fun a e e2 => by injection e2 with e2; have := (h3 a e).1; omega), h2, fun a e => ⟨(h3 a e).1, (h3 a e).2.1, Nat.lt_of_lt_of_le (h3 a e).2.2 hg.size⟩⟩
theorem BL.more {w w1 w2 : World} {r P g c q g' c' : Nat} {ls : List LinV} {l : LinV} (h : BL w r P g c ls q w1) (hr : r < w.heap.size) (hi : Ints w1 l.ao l.n l.cs) (hn : l.n ≤ 9) (ha : ∀ a, l.ao = some a → r < a.block ∧ a.block ≠ g ∧ a.block < w1.heap.size)
    (hg : w1.grownBy w2 (some g)) (hw : g' = g ∨ w1.heap.size ≤ g') (ho : w2.ownsRow w.heap.size 25 2 (.slice (some ⟨g', 0, none⟩) (q + 1) c') (q + 1) (vals ls ++ [.slice l.ao l.n l.cap, .int .i64 l.sh])) : BL w r P g' c' (ls ++ [l]) (q + 1) w2 := by
  have hgb : w.heap.size ≤ g := by
    rcases h.row.2 with ⟨e, _⟩ | ⟨g', _, _, e, hb, _⟩
    · cases e
    · injection e with e; injection e with e; injection e with e; omega
  have hlt : g' < w2.heap.size := by
    rcases ho.2 with ⟨e, _⟩ | ⟨g1, _, _, e, hb, hh, _⟩
    · cases e
    · injection e with e; injection e with e; injection e with e; subst e; exact block_lt hh
  have hall : ∀ x ∈ ls ++ [l], Ints w1 x.ao x.n x.cs ∧ x.n ≤ 9 ∧ ∀ a, x.ao = some a → r < a.block ∧ a.block ≠ g ∧ a.block < w1.heap.size := by
    intro x hx
    rcases List.mem_append.1 hx with hx | hx
    · exact h.els x hx
    · simp at hx; subst hx; exact ⟨hi, hn, ha⟩
  refine ⟨h.rd.kept hg (fun x e => by injection e with e; omega), grown_row h.gr hg (fun x e => by injection e with e; omega), by rw [vals_snoc]; exact ho, by simp [h.len], fun x hx => ?_, hlt⟩
  obtain ⟨h1, h2, h3⟩ := hall x hx
  exact ⟨h1.kept hg (fun a e e2 => by injection e2 with e2; exact (h3 a e).2.1 e2.symm), h2, fun a e => ⟨(h3 a e).1, by
    rcases hw with e2 | e2
    · rw [e2]; exact (h3 a e).2.1
    · have := (h3 a e).2.2; omega, Nat.lt_of_lt_of_le (h3 a e).2.2 hg.size⟩⟩
theorem BL.lins {w w1 : World} {r P g c q : Nat} {ls : List LinV} (h : BL w r P g c ls q w1) : Lins w1 (some ⟨g, 0, none⟩) q ls := by
  refine ⟨h.len, Or.inr ⟨g, 0, rfl, fun k l hl => ?_⟩⟩
  have hk := (List.getElem?_eq_some_iff.1 hl).1
  have hlen := h.len
  obtain ⟨e1, e2⟩ := vals_get hl
  obtain ⟨h1, h2, _⟩ := h.els l (List.mem_of_getElem? hl)
  refine ⟨?_, ?_, h1, by omega⟩
  · rw [show 0 + k * 2 = k * 2 by omega, World.ownsRow.cellAt h.row (k * 2) (by omega)]; exact e1
  · rw [show 0 + k * 2 + 1 = k * 2 + 1 by omega, World.ownsRow.cellAt h.row (k * 2 + 1) (by omega)]; exact e2


theorem BL.alloc {w w1 : World} {r P g c q : Nat} {ls : List LinV} (h : BL w r P g c ls q w1) (hr : r < w.heap.size) (o : Obj) : BL w r P g c ls q (w1.alloc o) := h.read hr (grown_any (grown_alloc _ _ _) _) (h.rd.alloc _)

def DrewB (w : World) (e : Ending) (w' : World) : Prop :=
  ∃ (a1 : Option Addr) (n1 c1 : Nat) (xs : List Int) (g q c : Nat) (ls : List LinV), e = .returned (.tuple #[.slice a1 n1 c1, .slice (some ⟨g, 0, none⟩) q c]) ∧ n1 ≤ 66 ∧ n1 ≤ c1 ∧ Ints w' a1 n1 xs ∧ q ≤ 13 ∧ q ≤ c ∧ Lins w' (some ⟨g, 0, none⟩) q ls ∧ w.grownBy w' none

theorem BL.cap {w w1 : World} {r P g c q : Nat} {ls : List LinV} (h : BL w r P g c ls q w1) : q ≤ c := by
  rcases h.row.2 with ⟨e, _⟩ | ⟨g1, c1, _, e, _, _, hc, _⟩
  · cases e
  · injection e with e e1 e2; omega

set_option maxRecDepth 100000 in
set_option maxHeartbeats 4000000 in
theorem drawB_any (ao : Option Addr) (len cap : Nat) (w : World) (hb : BytesAt w ao len) (hlc : len ≤ cap) (hmax : len ≤ 9223372036854775807) :
    Calls Try.prog 19 #[.slice ao len cap] w (DrewB w) := by
  have hc := newReader_any ao len cap w hb hlc hmax
  clear hb hlc hmax
  go_enter Try.func19, Try.ntmps19
  go_wp2_with fail
  refine hc.mono ?_
  rintro e w1 ⟨rfl, hR, hg⟩
  obtain ⟨r, hr⟩ : ∃ r, w.heap.size = r := ⟨_, rfl⟩
  rw [hr] at hR ⊢
  have hrw : w.heap.size ≤ r := by omega
  have hrl := hR.lt
  have HG1 := Lib.hid hg
  have HR1 := Lib.hid hR
  clear hc hR hg hr
  go_wp2_with fail
  refine (anySamples_any r 0 _ HR1.out (by omega)).mono ?_
  rintro e w2 ⟨v2, n2, xs, rfl, hn2, ho2, _, hR2, hg2⟩
  obtain ⟨a2, c2, rfl, hlc2, _, hx2, hb2⟩ := ho2.reads
  have hs2 := hg2.size
  have HB2 := Lib.hid hb2
  have H0 : Hid (BL w1 r (0 + 200) w2.heap.size 0 [] 0 (w2.alloc (.cells #[] 25))) :=
    ⟨hR2.alloc _, grown_trans hg2 (grown_alloc _ _ _), ⟨rfl, Or.inr ⟨w2.heap.size, 0, #[], rfl, hs2, heap_alloc_new w2 _, Nat.le_refl _, by simp [maxLen], rfl, rfl⟩⟩, rfl, fun l hl => (nomatch hl), by simp⟩
  have HX := Lib.hid (hx2.grown (grown_alloc w2 (.cells #[] 25) none))
  clear ho2 hR2 hg2 hx2 hb2 HR1
  go_wp2_with fail
  have hone := one_at [1, 2, 3, 4, 0, 12, 13] 3 r (0 + 200) (w2.heap.size + 1) 7 (w2.alloc (.cells #[] 25)) (by simp) H0.out.rd (by omega) (by decide) (by decide)
  refine hone.mono ?_
  rintro e w3 ⟨n, hn, rfl, hR3, hg3⟩
  have hn13 : 0 ≤ n ∧ n ≤ 13 := by simp at hn; omega
  obtain ⟨nn, rfl⟩ := Int.eq_ofNat_of_zero_le hn13.1
  have hnn : nn ≤ 13 := by omega
  have HW : Hid (BL w1 r (0 + 200 + 1 + 20 * 0) w2.heap.size 0 [] 0 w3 ∧ Ints w3 a2 n2 xs ∧ w2.heap.size ≤ w2.heap.size) :=
    ⟨H0.out.read hrl hg3 hR3, HX.out.kept hg3 (fun a e e2 => by injection e2 with e2; have := (HB2.out a e).1; omega), Nat.le_refl _⟩
  clear hone hn hn13 hR3 hg3 H0 HX
  go_wp2
  go_loopw [6, 7] (fun ov jv wr => ∃ (g c q j : Nat) (ls : List LinV), ov = .slice (some ⟨g, 0, none⟩) q c ∧ jv = .int .i64 j ∧ j + q = nn ∧ Hid (BL w1 r (0 + 200 + 1 + 20 * q) g c ls q wr ∧ Ints wr a2 n2 xs ∧ w2.heap.size ≤ g)) (fun _ jv _ => (intOf jv).toNat)
  case atStart => exact ⟨_, 0, 0, nn, [], rfl, rfl, by omega, HW⟩
  case round =>
    clear HW
    obtain ⟨g, c, q, j, ls, rfl, rfl, hjq, HS⟩ := hrel
    cases j with
    | zero =>
      have HF : Hid (DrewB w (.returned (.tuple #[.slice a2 n2 c2, .slice (some ⟨g, 0, none⟩) q c])) wr) :=
        ⟨a2, n2, c2, xs, g, q, c, ls, rfl, hn2, hlc2, HS.out.2.1, by omega, HS.out.1.cap, HS.out.1.lins, grown_new HG1.out HS.out.1.gr hrw⟩
      clear HS
      go_wp2
      go_ret2
      exact HF.out
    | succ j =>
      have hq13 : q < 13 := by omega
      have hwr := HS.out.1.gr.size
      go_wp2_with fail
      refine (anyLinear_any r (0 + 200 + 1 + 20 * q) _ HS.out.1.rd (by omega)).mono ?_
      rintro e w4 ⟨v4, n4, cs, sh, rfl, hn4, ho4, _, _, _, hR4, hg4⟩
      obtain ⟨a4, c4, rfl, _, _, hx4, hb4⟩ := ho4.reads
      have HA := Lib.hid (heap_alloc_new w4 (.cells #[.slice a4 n4 c4, .int .i64 sh] 25))
      have HT := Lib.hid ((HS.out.1.read hrl hg4 hR4).alloc hrl (.cells #[.slice a4 n4 c4, .int .i64 sh] 25))
      have HX := Lib.hid ((HS.out.2.1.kept hg4 (fun a e e2 => by injection e2 with e2; have := (HB2.out a e).1; omega)).grown (grown_alloc w4 (.cells #[.slice a4 n4 c4, .int .i64 sh] 25) none))
      have HY := Lib.hid (hx4.grown (grown_alloc w4 (.cells #[.slice a4 n4 c4, .int .i64 sh] 25) none))
      have hg2 := HS.out.2.2
      have hglt := HS.out.1.lt
      have HB4 := Lib.hid hb4
      have hsz4 := hg4.size
      clear ho4 hx4 hb4 hR4 hg4 HS
      go_wp2_with (at_builtin; refine append_lin rfl _ _ rfl w1.heap.size g c q (vals ls) rfl HT.out.row ⟨w4.heap.size, 0, none⟩ 1 [.slice a4 n4 c4, .int .i64 sh] rfl rfl ?b1 ?b2 (by omega) HT.out.gr.size ?_)
      case b1 =>
        intro i u hu
        match i, hu with
        | 0, hu => simp at hu; subst hu; simp [Addr.add]
        | 1, hu => simp at hu; subst hu; simp [Addr.add]
      case b2 => intro u hu; simp at hu; rcases hu with rfl | rfl <;> rfl
      intro g' c' w6 ho6 hg6 hw6
      have HN : Hid (BL w1 r (0 + 200 + 1 + 20 * (q + 1)) g' c' (ls ++ [⟨a4, n4, c4, cs, sh⟩]) (q + 1) w6 ∧ Ints w6 a2 n2 xs ∧ w2.heap.size ≤ g') := by
        refine ⟨?_, HX.out.kept hg6 (fun a e e2 => by injection e2 with e2; have := (HB2.out a e).2; omega), ?_⟩
        · have h := BL.more (l := ⟨a4, n4, c4, cs, sh⟩) HT.out hrl HY.out hn4 (fun a e => by have := HB4.out a e; have hs : w4.heap.size ≤ (w4.alloc (.cells #[.slice a4 n4 c4, .int .i64 sh] 25)).heap.size := by simp
                                                                                             exact ⟨by omega, by omega, by omega⟩) hg6 (by rw [World.size_alloc]; exact hw6) ho6
          exact ⟨h.rd.mono (by omega), h.gr, h.row, h.len, h.els, h.lt⟩
        · rcases hw6 with e | e
          · omega
          · omega
      clear ho6 hg6 hw6 HT HX HY HB4 HA
      go_wp2
      go_roundw
      case rel => exact ⟨g', c', q + 1, j, ls ++ [⟨a4, n4, c4, cs, sh⟩], rfl, by go_num, by omega, HN⟩
      case measure => simp [intOf]; try omega

end Go.Proofs.Ytgiiaijlahjfnaa
