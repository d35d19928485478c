/-
  Joined audio: the specification's text. For all channels that can be read.
-/
import Derived.Test.YtncbgofcimghnaaEdS
import Derived.Test.YtncbgofcimghnaaScS
import Derived.Test.YtncbgofcimghnaaStA
import Derived.Deep.RegionHeld3
import Derived.Deep.Cut
import Derived.Deep.CutRange
namespace Go.Proofs.Ytncbgofcimghnaa
open Go.RowKit

/-- APPEND at a step of a region, of whatever slice. -/
theorem step_append_all {ops : Array Oper} {o : Oper} {a : Act} {w : World} {K : Act → World → Prop} {Q : Exit → Act → World → Prop} {E : Prop} (hgd : o.guard = none) (s x : Operand)
    (ho : o.op = .call { callee := .builtin .append, args := #[s, x], argTypes := #[39, 39] })
    (base : Nat) (v : Value) (n : Nat) (ys : List Int) (hs : a.eval s = v) (hown : Owns w base v n ys)
    (ao : Option Addr) (len cap : Nat) (xs : List Int) (hx : a.eval x = .slice ao len cap) (hi : Ints w ao len xs) (hn : ao = none → cap = 0)
    (hb : n + len ≤ 8388608) (hbase : base ≤ w.heap.size)
    (h : ∀ a' c' w', Owns w' base (.slice a' (n + len) c') (n + len) (ys ++ xs) → w.grownBy w' v.ownBlock → K (a.put o.dst (.slice a' (n + len) c')) w') :
    if Region.wanted o (yielded ops a.tmps) = true then Oper.wp Try.prog o a w K Q else E := by
  obtain ⟨i0, hi0, hz0, hz1, hz2⟩ := info_parts info_int
  have hw : Region.wanted o (yielded ops a.tmps) = true := by simp [Region.wanted, hgd]
  rw [if_pos hw]
  cases ao with
  | none =>
    obtain rfl := hn rfl
    have h0 : xs = [] := by rcases hi.2 with h | ⟨b, off, h, _⟩; exact h; cases h
    subst h0
    obtain rfl : len = 0 := by simpa using hi.1.symm
    have hrun := run_append_owned_none (P := Try.prog) (w := w) base 39 o.type 3 i0 1 Try.underlying39 hi0 v n (ys.map (Value.int .i64)) hown
    obtain ⟨a', c', rfl, _⟩ := hown.reads
    have h9 := h a' c' w (by simpa using hown) (by
      have := grown_refl w (Value.slice a' n c').ownBlock
      exact this)
    unfold Oper.wp
    simp [execOp, ho, resolve, invoke, builtin, hs, hx, hrun, Result.andThen]
    exact h9
  | some ad =>
    refine wp_append_own w s x 39 ho base 3 i0 (.int .i64 0) 1 8 Try.underlying39 hi0 hz0 hz1 hz2 rfl (by decide) v n (ys.map (Value.int .i64)) hs hown ad len cap (xs.map (Value.int .i64)) hx (by rw [List.length_map, hi.1, Nat.mul_one]) ?_ (ints_oneCell _ _) (by unfold maxLen; omega) (by omega) hbase ?_
    · intro j u hu
      rcases hi.2 with h | ⟨b, off, h, hc⟩
      · subst h; simp at hu
      · injection h with h; subst h
        rw [List.getElem?_map] at hu
        obtain ⟨y, hyj, rfl⟩ := Option.map_eq_some_iff.1 hu
        rw [show (⟨b, off, none⟩ : Addr).add j = ⟨b, off + j, none⟩ by simp [Addr.add]]
        exact hc j y hyj
    · intro v' w' h1 h2 _
      have h3 : Owns w' base v' (n + len) (ys ++ xs) := by
        show World.ownsRow _ _ _ _ _ _ _
        rw [List.map_append]; exact h1
      obtain ⟨a', c', rfl, _⟩ := h3.reads
      exact h a' c' w' h3 h2

/-- A new row takes the place of another. -/
theorem MOwn.put {w w2 : World} {base n i M c : Nat} {u : Value} {xss : List (List Int)} {ys : List Int} (h : MOwn w base (.slice (some ⟨M, 0, none⟩) n c) n xss) (hi : i < n) (hg : w.grownBy w2 none) (ho : Owns w2 w.heap.size u ys.length ys) (hbase : base ≤ w.heap.size) :
    MOwn (w2.setCell ⟨M, i, none⟩ u) base (.slice (some ⟨M, 0, none⟩) n c) n (xss.set i ys) := by
  obtain ⟨hl, vs, h1, h2, h3⟩ := h
  have hvl : vs.length = n := by have := h1.1; simpa using this
  have h1' := World.ownsRow.kept h1 hg (by cases (Value.slice (some ⟨M, 0, none⟩) n c).ownBlock <;> simp)
  have hst := World.ownsRow.stored h1' i u
  refine ⟨by simp [hl], vs.set i u, hst.1, ?_, ?_⟩
  · intro j z zs hz hzs
    by_cases hji : j = i
    · subst hji
      rw [List.getElem?_set_self (by omega)] at hz hzs
      injection hz with hz
      injection hzs with hzs
      subst hz; subst hzs
      exact (ho.set _ _ (type_not ho h1')).base_le hbase
    · rw [List.getElem?_set_ne (by omega)] at hz hzs
      have := (h2 j z zs hz hzs).grown hg
      exact this.set _ _ (type_not this h1')
  · have hlt : ∀ j (hj : j < vs.length), ∀ z, (vs[j]).ownBlock = some z → z < w.heap.size := fun j hj z hz =>
      (World.ownsRow.lt (h2 j vs[j] _ (List.getElem?_eq_getElem hj) (List.getElem?_eq_getElem (by omega))) z hz).2
    rw [List.pairwise_iff_getElem] at h3 ⊢
    intro a b ha hb hab
    rw [List.length_set] at ha hb
    rw [List.getElem_set, List.getElem_set]
    by_cases h4 : i = a
    · by_cases h5 : i = b
      · omega
      · rw [if_pos h4, if_neg h5]
        cases e : u.ownBlock with
        | none => exact Or.inl e
        | some z =>
          right
          intro e2
          rw [e] at e2
          have := hlt b hb z e2.symm
          have := ho.block z e
          omega
    · by_cases h5 : i = b
      · rw [if_neg h4, if_pos h5]
        cases e : (vs[a]).ownBlock with
        | none => exact Or.inl e
        | some z =>
          right
          intro e2
          rw [e] at e2
          have := hlt a ha z e
          have := ho.block z e2.symm
          omega
      · rw [if_neg h4, if_neg h5]
        exact h3 a b ha hb hab

theorem MOwn.cellat {w : World} {base n i M c : Nat} {xss : List (List Int)} (h : MOwn w base (.slice (some ⟨M, 0, none⟩) n c) n xss) (hi : i < n) : (∃ u, w.cell? ⟨M, i, none⟩ = some u) ∧ w.frozen? ⟨M, i, none⟩ = false := by
  obtain ⟨_, vs, h1, _, _⟩ := h
  have hvl : vs.length = n := by have := h1.1; simpa using this
  exact ⟨⟨vs[i], by rw [World.ownsRow.cellAt h1 i (by omega)]; exact List.getElem?_eq_getElem (by omega)⟩, World.ownsRow.frozenAt h1 i⟩
/-- The first rows joined, the others not. -/
def mixJ (xss yss : List (List Int)) (i : Nat) : List (List Int) := (joinM xss yss).take i ++ xss.drop i
theorem mixJ_zero (xss yss : List (List Int)) : mixJ xss yss 0 = xss := by simp [mixJ]
theorem mixJ_full {xss yss : List (List Int)} {n : Nat} (h : xss.length = n) (h' : yss.length = n) : mixJ xss yss n = joinM xss yss := by
  unfold mixJ
  rw [List.take_of_length_le (by rw [joinM_len (by omega)]; omega), List.drop_of_length_le (by omega), List.append_nil]
theorem mixJ_set {xss yss : List (List Int)} {i : Nat} {xs ys : List Int} (h : xss[i]? = some xs) (h' : yss[i]? = some ys) : (mixJ xss yss i).set i (xs ++ ys) = mixJ xss yss (i + 1) := by
  have hi := (List.getElem?_eq_some_iff.1 h).1
  have hj := (List.getElem?_eq_some_iff.1 h').1
  have hl : ((joinM xss yss).take i).length = i := by unfold joinM; simp; omega
  unfold mixJ
  rw [List.set_append_right _ _ (by omega), hl, Nat.sub_self, List.drop_eq_getElem_cons hi, List.set_cons_zero, List.take_add_one, joinM_get h h']
  simp
theorem va_sz {r d : Int} {xss : List (List Int)} {u H : Nat} (h : VA r d xss u H) : szL xss ≤ 514 := by
  have h2 := h.ch.2
  have hh := h.hh
  have hr := fun k xs hx => (h.row k xs hx).1
  match xss, h2, hr with
  | [], _, _ => simp [szL]
  | [xs], _, hr => have := hr 0 xs rfl; simp [szL]; omega
  | [xs, ys], _, hr => have := hr 0 xs rfl; have := hr 1 ys rfl; simp [szL]; omega
  | _ :: _ :: _ :: _, h2, _ => simp at h2
theorem sz_rows {xss : List (List Int)} {H : Nat} (h2 : xss.length ≤ 2) (hr : ∀ (k : Nat) (xs : List Int), xss[k]? = some xs → xs.length = H) : szL xss ≤ 2 + 2 * H := by
  match xss, h2, hr with
  | [], _, _ => simp [szL]
  | [xs], _, hr => have := hr 0 xs rfl; simp [szL]; omega
  | [xs, ys], _, hr => have := hr 0 xs rfl; have := hr 1 ys rfl; simp [szL]; omega
  | _ :: _ :: _ :: _, h2, _ => simp at h2

/-- Inside the call: the boxes of the arguments, the place of the result, and the audio that is being made with rows of its own. -/
structure SJ (w wx : World) (Bk : Nat) (r d : Int) (v : Value) (n : Nat) (yss : List (List Int)) (A B Z : Obj) : Prop where
  gr : w.grownBy wx none
  ba : wx.heap[w.heap.size]? = some A
  bb : wx.heap[w.heap.size + 1]? = some B
  res : wx.heap[w.heap.size + 1 + 1]? = some Z
  blk : wx.heap[Bk]? = some (.cells #[.int .i64 r, .int .i64 d, v] 25 (0, 0))
  own : MOwn wx (w.heap.size + 1 + 1 + 1) v n yss
  lo : w.heap.size + 1 + 1 + 1 ≤ Bk
theorem sj_new {w w1 w5 : World} {base n : Nat} {r d : Int} {v : Value} {yss : List (List Int)} {A B Z : Obj} (hg : w.grownBy w1 none) (ha : w1.heap[w.heap.size]? = some A) (hb : w1.heap[w.heap.size + 1]? = some B) (hz : w1.heap[w.heap.size + 1 + 1]? = some Z) (h5 : w1.grownBy w5 none) (ho : MOwn w5 base v n yss) (hbase : w1.heap.size ≤ base) :
    SJ w (w5.alloc (.cells #[.int .i64 r, .int .i64 d, v] 25)) w5.heap.size r d v n yss A B Z := by
  have h2 := block_lt hz
  have h6 := grown_trans h5 (grown_alloc w5 (.cells #[.int .i64 r, .int .i64 d, v] 25) none)
  exact ⟨grown_trans hg h6, grown_heap h6 ha (by simp), grown_heap h6 hb (by simp), grown_heap h6 hz (by simp), heap_alloc_new w5 _, (ho.grown (grown_alloc _ _ _)).base_le (by omega), by have := h5.size; omega⟩
theorem sj_set {w w1 w5 : World} {Bk base n : Nat} {r d : Int} {v x y z : Value} {yss : List (List Int)} {A B Z : Obj} (hg : w.grownBy w1 none) (ha : w1.heap[w.heap.size]? = some A) (hb : w1.heap[w.heap.size + 1]? = some B) (hz : w1.heap[w.heap.size + 1 + 1]? = some Z) (h5 : w1.grownBy w5 none) (ho : MOwn w5 base v n yss) (hbase : Bk < base) (hB : w1.heap.size ≤ Bk)
    (hk : w5.heap[Bk]? = some (.cells #[x, y, z] 25 (0, 0))) :
    SJ w (((w5.setCell ⟨Bk, 0, none⟩ (.int .i64 r)).setCell ⟨Bk, 1, none⟩ (.int .i64 d)).setCell ⟨Bk, 2, none⟩ v) Bk r d v n yss A B Z := by
  have h2 := block_lt hz
  refine ⟨grown_set (grown_set (grown_set (grown_trans hg h5) (by show _ ≤ Bk; omega)) (by show _ ≤ Bk; omega)) (by show _ ≤ Bk; omega), ?_, ?_, ?_, heap_st3 hk, (((ho.set _ _ (by show Bk < _; omega)).set _ _ (by show Bk < _; omega)).set _ _ (by show Bk < _; omega)).base_le (by omega), by omega⟩
  · rw [heap_far3 (by omega)]; exact grown_heap h5 ha (by simp)
  · rw [heap_far3 (by omega)]; exact grown_heap h5 hb (by simp)
  · rw [heap_far3 (by omega)]; exact grown_heap h5 hz (by simp)
theorem SJ.neM {w wr : World} {Bk n M c : Nat} {r d : Int} {yss : List (List Int)} {A B Z : Obj} (h : SJ w wr Bk r d (.slice (some ⟨M, 0, none⟩) n c) n yss A B Z) : Bk ≠ M := by
  intro e; subst e
  obtain ⟨_, vs, h1, _, _⟩ := h.own
  rcases h1.2 with ⟨e, _⟩ | ⟨g, cap, cur, e, _, hh, _⟩
  · cases e
  · injection e with e _ _
    injection e with e
    injection e with e _ _
    subst e
    rw [h.blk] at hh
    simp at hh
theorem SJ.put {w wr w2 : World} {Bk n i M c : Nat} {r d : Int} {u : Value} {yss : List (List Int)} {ys : List Int} {A B Z : Obj} (h : SJ w wr Bk r d (.slice (some ⟨M, 0, none⟩) n c) n yss A B Z) (hi : i < n) (hg : wr.grownBy w2 none) (ho : Owns w2 wr.heap.size u ys.length ys) :
    SJ w (w2.setCell ⟨M, i, none⟩ u) Bk r d (.slice (some ⟨M, 0, none⟩) n c) n (yss.set i ys) A B Z := by
  have hM : w.heap.size + 1 + 1 + 1 ≤ M := h.own.block M rfl
  have hlo := h.lo
  have hne : Bk ≠ M := h.neM
  have far : ∀ X, X ≠ M → ∀ ob, wr.heap[X]? = some ob → (w2.setCell ⟨M, i, none⟩ u).heap[X]? = some ob := fun X hX ob hob => by
    rw [heap_setCell_other _ ⟨M, i, none⟩ _ _ hX]; exact grown_heap hg hob (by simp)
  exact ⟨grown_set (grown_trans h.gr hg) (by show _ ≤ M; omega), far _ (by omega) _ h.ba, far _ (by omega) _ h.bb, far _ (by omega) _ h.res, far _ hne _ h.blk, h.own.put hi hg ho (by have := block_lt h.res; omega), h.lo⟩

set_option maxRecDepth 100000 in
set_option maxHeartbeats 4000000 in
theorem sJn_any (xss yss : List (List Int)) (ao ao' : Option Addr) (len cap len' cap' : Nat) (r d r' d' : Int) (w : World) (rr dd : Int) (zss : List (List Int)) (ok : Bool) (hx : Mat w ao len xss) (hs : szL xss ≤ 1048576) (hy : Mat w ao' len' yss) (hs' : szL yss ≤ 1048576) (hv : JnR r d xss r' d' yss rr dd zss ok) :
    Calls Try.prog 22 #[.agg #[.int .i64 r, .int .i64 d, .slice ao len cap], .agg #[.int .i64 r', .int .i64 d', .slice ao' len' cap']] w (MadeAB zss rr dd ok w) := by
  have hg0 : w.grownBy (((w.alloc (.cells #[.int .i64 r, .int .i64 d, .slice ao len cap] 25)).alloc (.cells #[.int .i64 r', .int .i64 d', .slice ao' len' cap'] 25)).alloc (.cells #[.int .i64 0, .int .i64 0, .slice none 0 0] 25)) none := grown_trans (grown_trans (grown_alloc _ _ _) (grown_alloc _ _ _)) (grown_alloc _ _ _)
  have k1 := svAu_any xss ao len cap r d (((w.alloc (.cells #[.int .i64 r, .int .i64 d, .slice ao len cap] 25)).alloc (.cells #[.int .i64 r', .int .i64 d', .slice ao' len' cap'] 25)).alloc (.cells #[.int .i64 0, .int .i64 0, .slice none 0 0] 25)) _ (hx.grown hg0) hs rfl
  have k1b := fun W (hg : w.grownBy W none) => svAu_any yss ao' len' cap' r' d' W _ (hy.grown hg) hs' rfl
  have ha0 : (((w.alloc (.cells #[.int .i64 r, .int .i64 d, .slice ao len cap] 25)).alloc (.cells #[.int .i64 r', .int .i64 d', .slice ao' len' cap'] 25)).alloc (.cells #[.int .i64 0, .int .i64 0, .slice none 0 0] 25)).heap[w.heap.size]? = some (.cells #[.int .i64 r, .int .i64 d, .slice ao len cap] 25) := grown_heap (grown_trans (grown_alloc _ _ none) (grown_alloc _ _ _)) (heap_alloc_new w _) (by simp)
  have hb0 : (((w.alloc (.cells #[.int .i64 r, .int .i64 d, .slice ao len cap] 25)).alloc (.cells #[.int .i64 r', .int .i64 d', .slice ao' len' cap'] 25)).alloc (.cells #[.int .i64 0, .int .i64 0, .slice none 0 0] 25)).heap[w.heap.size + 1]? = some (.cells #[.int .i64 r', .int .i64 d', .slice ao' len' cap'] 25) := grown_heap (grown_alloc _ _ none) (by have := heap_alloc_new (w.alloc (.cells #[.int .i64 r, .int .i64 d, .slice ao len cap] 25)) (.cells #[.int .i64 r', .int .i64 d', .slice ao' len' cap'] 25); simpa using this) (by simp)
  have hz0 : (((w.alloc (.cells #[.int .i64 r, .int .i64 d, .slice ao len cap] 25)).alloc (.cells #[.int .i64 r', .int .i64 d', .slice ao' len' cap'] 25)).alloc (.cells #[.int .i64 0, .int .i64 0, .slice none 0 0] 25)).heap[w.heap.size + 1 + 1]? = some (.cells #[.int .i64 0, .int .i64 0, .slice none 0 0] 25) := by have := heap_alloc_new ((w.alloc (.cells #[.int .i64 r, .int .i64 d, .slice ao len cap] 25)).alloc (.cells #[.int .i64 r', .int .i64 d', .slice ao' len' cap'] 25)) (.cells #[.int .i64 0, .int .i64 0, .slice none 0 0] 25); simpa using this
  cases hva : vAu r d xss with
  | false =>
    rw [hva] at k1
    obtain ⟨rfl, rfl, rfl, rfl⟩ := hv.no (fun h => by rw [h.1] at hva; cases hva)
    clear hx hs hva hv hy hs' k1b
    go_enter Try.func22, Try.ntmps22
    go_wp2_with fail
    refine k1.mono ?_
    rintro e w1 ⟨rfl, hg⟩
    have HG := Lib.hid (grown_trans hg0 hg)
    have HA := Lib.hid (grown_heap hg ha0 (by simp))
    have HB := Lib.hid (grown_heap hg hb0 (by simp))
    have HZ := Lib.hid (grown_heap hg hz0 (by simp))
    clear k1 hg ha0 hb0 hz0
    obtain ⟨z0, z1, z2⟩ := three_cells HZ.out
    have f0 := frozen_of_row w1 _ 0 _ _ HZ.out
    have f1 := frozen_of_row w1 _ 1 _ _ HZ.out
    have f2 := frozen_of_row w1 _ 2 _ _ HZ.out
    go_wp2
    refine bodyPost_ret (v := .tuple #[.agg #[.int .i64 0, .int .i64 0, .slice none 0 0], .bool false]) (by simp [results, Try.results22, go_sem, z0, z1, z2]) rfl ⟨_, rfl, ?_⟩
    exact own_res (mown_nil _ _) HG.out (by omega)
  | true =>
  rw [hva] at k1
  cases hvb : vAu r' d' yss with
  | false =>
    rw [hvb] at k1b
    obtain ⟨rfl, rfl, rfl, rfl⟩ := hv.no (fun h => by rw [h.2.1] at hvb; cases hvb)
    clear hx hs hva hv hy hs' hvb
    go_enter Try.func22, Try.ntmps22
    go_wp2_with fail
    refine k1.mono ?_
    rintro e w1 ⟨rfl, hg⟩
    have HG := Lib.hid (grown_trans hg0 hg)
    have HA := Lib.hid (grown_heap hg ha0 (by simp))
    have HB := Lib.hid (grown_heap hg hb0 (by simp))
    have HZ := Lib.hid (grown_heap hg hz0 (by simp))
    clear k1 hg ha0 hb0 hz0
    obtain ⟨p0, p1, p2⟩ := three_cells HB.out
    go_wp2_with fail
    refine (k1b _ HG.out).mono ?_
    rintro e w2 ⟨rfl, hg⟩
    replace HG := Lib.hid (grown_trans HG.out hg)
    replace HA := Lib.hid (grown_heap hg HA.out (by simp))
    replace HB := Lib.hid (grown_heap hg HB.out (by simp))
    replace HZ := Lib.hid (grown_heap hg HZ.out (by simp))
    clear k1b hg p0 p1 p2
    obtain ⟨p0, p1, p2⟩ := three_cells HB.out
    obtain ⟨q0, q1, q2⟩ := three_cells HA.out
    obtain ⟨z0, z1, z2⟩ := three_cells HZ.out
    have f0 := frozen_of_row w2 _ 0 _ _ HZ.out
    have f1 := frozen_of_row w2 _ 1 _ _ HZ.out
    have f2 := frozen_of_row w2 _ 2 _ _ HZ.out
    go_wp2
    refine bodyPost_ret (v := .tuple #[.agg #[.int .i64 0, .int .i64 0, .slice none 0 0], .bool false]) (by simp [results, Try.results22, go_sem, z0, z1, z2]) rfl ⟨_, rfl, ?_⟩
    exact own_res (mown_nil _ _) HG.out (by omega)
  | true =>
  rw [hvb] at k1b
  by_cases hr : r = r'
  case neg =>
    obtain ⟨rfl, rfl, rfl, rfl⟩ := hv.no (fun h => hr h.2.2.1)
    have hn1 : (r != r') = true := by simp [hr]
    clear hx hs hva hv hy hs' hvb hr
    go_enter Try.func22, Try.ntmps22
    go_wp2_with fail
    refine k1.mono ?_
    rintro e w1 ⟨rfl, hg⟩
    have HG := Lib.hid (grown_trans hg0 hg)
    have HA := Lib.hid (grown_heap hg ha0 (by simp))
    have HB := Lib.hid (grown_heap hg hb0 (by simp))
    have HZ := Lib.hid (grown_heap hg hz0 (by simp))
    clear k1 hg ha0 hb0 hz0
    obtain ⟨p0, p1, p2⟩ := three_cells HB.out
    go_wp2_with fail
    refine (k1b _ HG.out).mono ?_
    rintro e w2 ⟨rfl, hg⟩
    replace HG := Lib.hid (grown_trans HG.out hg)
    replace HA := Lib.hid (grown_heap hg HA.out (by simp))
    replace HB := Lib.hid (grown_heap hg HB.out (by simp))
    replace HZ := Lib.hid (grown_heap hg HZ.out (by simp))
    clear k1b hg p0 p1 p2
    obtain ⟨p0, p1, p2⟩ := three_cells HB.out
    obtain ⟨q0, q1, q2⟩ := three_cells HA.out
    obtain ⟨z0, z1, z2⟩ := three_cells HZ.out
    have f0 := frozen_of_row w2 _ 0 _ _ HZ.out
    have f1 := frozen_of_row w2 _ 1 _ _ HZ.out
    have f2 := frozen_of_row w2 _ 2 _ _ HZ.out
    go_wp2
    refine bodyPost_ret (v := .tuple #[.agg #[.int .i64 0, .int .i64 0, .slice none 0 0], .bool false]) (by simp [results, Try.results22, go_sem, z0, z1, z2]) rfl ⟨_, rfl, ?_⟩
    exact own_res (mown_nil _ _) HG.out (by omega)
  by_cases hd : d = d'
  case neg =>
    obtain ⟨rfl, rfl, rfl, rfl⟩ := hv.no (fun h => hd h.2.2.2.1)
    have hn1 : (d != d') = true := by simp [hd]
    subst hr
    clear hx hs hva hv hy hs' hvb hd
    go_enter Try.func22, Try.ntmps22
    go_wp2_with fail
    refine k1.mono ?_
    rintro e w1 ⟨rfl, hg⟩
    have HG := Lib.hid (grown_trans hg0 hg)
    have HA := Lib.hid (grown_heap hg ha0 (by simp))
    have HB := Lib.hid (grown_heap hg hb0 (by simp))
    have HZ := Lib.hid (grown_heap hg hz0 (by simp))
    clear k1 hg ha0 hb0 hz0
    obtain ⟨p0, p1, p2⟩ := three_cells HB.out
    go_wp2_with fail
    refine (k1b _ HG.out).mono ?_
    rintro e w2 ⟨rfl, hg⟩
    replace HG := Lib.hid (grown_trans HG.out hg)
    replace HA := Lib.hid (grown_heap hg HA.out (by simp))
    replace HB := Lib.hid (grown_heap hg HB.out (by simp))
    replace HZ := Lib.hid (grown_heap hg HZ.out (by simp))
    clear k1b hg p0 p1 p2
    obtain ⟨p0, p1, p2⟩ := three_cells HB.out
    obtain ⟨q0, q1, q2⟩ := three_cells HA.out
    obtain ⟨z0, z1, z2⟩ := three_cells HZ.out
    have f0 := frozen_of_row w2 _ 0 _ _ HZ.out
    have f1 := frozen_of_row w2 _ 1 _ _ HZ.out
    have f2 := frozen_of_row w2 _ 2 _ _ HZ.out
    go_wp2
    refine bodyPost_ret (v := .tuple #[.agg #[.int .i64 0, .int .i64 0, .slice none 0 0], .bool false]) (by simp [results, Try.results22, go_sem, z0, z1, z2]) rfl ⟨_, rfl, ?_⟩
    exact own_res (mown_nil _ _) HG.out (by omega)
  subst hr hd
  by_cases hle : len = len'
  case neg =>
    obtain ⟨rfl, rfl, rfl, rfl⟩ := hv.no (fun h => hle (by rw [← hx.1, ← hy.1]; exact h.2.2.2.2.1))
    have hn1 : ((len : Int) != (len' : Int)) = true := by simp; omega
    clear hx hs hva hv hy hs' hvb hle
    go_enter Try.func22, Try.ntmps22
    go_wp2_with fail
    refine k1.mono ?_
    rintro e w1 ⟨rfl, hg⟩
    have HG := Lib.hid (grown_trans hg0 hg)
    have HA := Lib.hid (grown_heap hg ha0 (by simp))
    have HB := Lib.hid (grown_heap hg hb0 (by simp))
    have HZ := Lib.hid (grown_heap hg hz0 (by simp))
    clear k1 hg ha0 hb0 hz0
    obtain ⟨p0, p1, p2⟩ := three_cells HB.out
    go_wp2_with fail
    refine (k1b _ HG.out).mono ?_
    rintro e w2 ⟨rfl, hg⟩
    replace HG := Lib.hid (grown_trans HG.out hg)
    replace HA := Lib.hid (grown_heap hg HA.out (by simp))
    replace HB := Lib.hid (grown_heap hg HB.out (by simp))
    replace HZ := Lib.hid (grown_heap hg HZ.out (by simp))
    clear k1b hg p0 p1 p2
    obtain ⟨p0, p1, p2⟩ := three_cells HB.out
    obtain ⟨q0, q1, q2⟩ := three_cells HA.out
    obtain ⟨z0, z1, z2⟩ := three_cells HZ.out
    have f0 := frozen_of_row w2 _ 0 _ _ HZ.out
    have f1 := frozen_of_row w2 _ 1 _ _ HZ.out
    have f2 := frozen_of_row w2 _ 2 _ _ HZ.out
    go_wp2
    refine bodyPost_ret (v := .tuple #[.agg #[.int .i64 0, .int .i64 0, .slice none 0 0], .bool false]) (by simp [results, Try.results22, go_sem, z0, z1, z2]) rfl ⟨_, rfl, ?_⟩
    exact own_res (mown_nil _ _) HG.out (by omega)
  subst hle
  obtain ⟨u, H, hV⟩ := va_of hva
  obtain ⟨u', H', hV'⟩ := va_of hvb
  obtain rfl := va_u hV hV' rfl
  have hlen : len ≤ 2 := by have := hV.ch.2; rw [hx.1] at this; exact this
  have hlen1 : 1 ≤ len := by have := hV.ch.1; rw [hx.1] at this; exact this
  have hH : H ≤ 256 := hV.hh
  obtain ⟨b, off, rfl, hc⟩ := hx.2.resolve_left (by intro e; have := hx.1; rw [e] at this; simp at this; omega)
  obtain ⟨xs0, hxs0, hxl0⟩ := hV.first
  obtain ⟨u0, hu0, a0, c0, rfl, hin0⟩ := hc 0 xs0 hxs0
  clear hin0
  rw [hxl0, Nat.add_zero] at hu0
  obtain ⟨b', off', rfl, hc'⟩ := hy.2.resolve_left (by intro e; have := hy.1; rw [e] at this; simp at this; omega)
  have hH' : H' ≤ 256 := hV'.hh
  have kS := fun W (hgW : w.grownBy W none) => sSlice_any xss (some ⟨b, off, none⟩) len cap 0 H W (hx.grown hgW) (by omega) (by omega) (by omega) (fun k xs hk => by rw [(hV.row k xs hk).1]; exact Nat.le_refl _)
  have hsl : Hid (xss.map (cutR 0 H) = xss) := by
    show _ = _
    conv => rhs; rw [← List.map_id xss]
    exact List.map_congr_left (fun xs hm => by
      obtain ⟨k, hk⟩ := List.getElem?_of_mem hm
      exact cutR_all (hV.row k xs hk).1)
  rw [hsl.out] at kS
  have HL := Lib.hid hx.1
  have HL' := Lib.hid hy.1
  have HV := Lib.hid hV
  have HV' := Lib.hid hV'
  have HC := Lib.hid hc
  have HC' := Lib.hid hc'
  have HR := Lib.hid hv
  have HVA := Lib.hid hva
  have HVB := Lib.hid hvb
  have hbw : b < w.heap.size := block_lt_of_cell hu0
  obtain ⟨ys0, hys0, _⟩ := hV'.first
  obtain ⟨u0', hu0', _⟩ := hc' 0 ys0 hys0
  have hbw' : b' < w.heap.size := block_lt_of_cell hu0'
  clear hx hy hs hs' hva hvb hv hV hV' hc hc' hxs0 hsl hxl0 hu0' hys0
  go_enter Try.func22, Try.ntmps22
  go_wp2_with fail
  refine k1.mono ?_
  rintro e w1 ⟨rfl, hg⟩
  have HG := Lib.hid (grown_trans hg0 hg)
  have HA := Lib.hid (grown_heap hg ha0 (by simp))
  have HB := Lib.hid (grown_heap hg hb0 (by simp))
  have HZ := Lib.hid (grown_heap hg hz0 (by simp))
  clear k1 hg ha0 hb0 hz0
  obtain ⟨p0, p1, p2⟩ := three_cells HB.out
  go_wp2_with fail
  refine (k1b _ HG.out).mono ?_
  rintro e w2 ⟨rfl, hg⟩
  replace HG := Lib.hid (grown_trans HG.out hg)
  replace HA := Lib.hid (grown_heap hg HA.out (by simp))
  replace HB := Lib.hid (grown_heap hg HB.out (by simp))
  replace HZ := Lib.hid (grown_heap hg HZ.out (by simp))
  clear k1b hg p0 p1 p2
  obtain ⟨p0, p1, p2⟩ := three_cells HB.out
  obtain ⟨q0, q1, q2⟩ := three_cells HA.out
  have q3 := HG.out.cell hu0 (by simp)
  have hsz : w.heap.size + 1 + 1 + 1 ≤ w2.heap.size := by have := block_lt HZ.out; omega
  have hTn : True := trivial
  have hlen0 : 0 < len := by omega
  go_upto_region 3 with fail
  go_cut [6] from 40 to 52 (fun aa wx => ∃ (Bk : Nat) (v : Value), aa = .pointer (some ⟨Bk, 0, none⟩) ∧ Hid (SJ w wx Bk r d v len xss (.cells #[.int .i64 r, .int .i64 d, .slice (some ⟨b, off, none⟩) len cap] 25) (.cells #[.int .i64 r, .int .i64 d, .slice (some ⟨b', off', none⟩) len cap'] 25) (.cells #[.int .i64 0, .int .i64 0, .slice none 0 0] 25)))
  case first =>
    go_wp2_with fail
    go_region_held3 (fun w' => w'.cell? ⟨w.heap.size, 0, none⟩ = some (.int .i64 r) ∧ w'.cell? ⟨w.heap.size, 1, none⟩ = some (.int .i64 d) ∧ w'.cell? ⟨w.heap.size, 2, none⟩ = some (.slice (some ⟨b, off, none⟩) len cap) ∧ w'.cell? ⟨b, off, none⟩ = some (.slice a0 H c0)) (first | go_keep | exact ⟨by assumption, by assumption, by assumption, by assumption⟩ | exact ⟨cell_al (by assumption), cell_al (by assumption), cell_al (by assumption), cell_al (by assumption)⟩ | exact ⟨cell_st3 (by assumption) (by simp; omega), cell_st3 (by assumption) (by simp; omega), cell_st3 (by assumption) (by simp; omega), cell_st3 (by assumption) (by simp; omega)⟩) ((first
      | (go_at_call 44; have Tk := hTn; refine (kS _ (grown_trans HG.out (grown_drew w2 none))).mono ?_; rintro e w5 ⟨v5, rfl, ho5, hg5⟩; obtain ⟨a5, c5, rfl, _⟩ := ho5.reads; have HO5 := Lib.hid ho5; have hS0 := hg5.cell q0 (by simp); have hS1 := hg5.cell q1 (by simp); have hS2 := hg5.cell q2 (by simp); have hS3 := hg5.cell q3 (by simp); have HG5 := Lib.hid (grown_trans (grown_drew w2 none) hg5); clear hTn Tk ho5 hg5)
      | (go_at_call 44; have Tk := hTn; refine (kS _ (grown_trans HG.out (grown_trans (grown_drew w2 none) (grown_alloc _ (.cells #[.int .i64 0, .int .i64 0, .slice none 0 0] 25) _)))).mono ?_; rintro e w5 ⟨v5, rfl, ho5, hg5⟩; obtain ⟨a5, c5, rfl, _⟩ := ho5.reads; have HO5 := Lib.hid ho5; have hS0 := hg5.cell (cell_al q0) (by simp); have hS1 := hg5.cell (cell_al q1) (by simp); have hS2 := hg5.cell (cell_al q2) (by simp); have hS3 := hg5.cell (cell_al q3) (by simp); have hBk : w5.heap[w2.heap.size]? = some (.cells #[.int .i64 0, .int .i64 0, .slice none 0 0] 25) := grown_heap hg5 (heap_alloc_new w2.drew (.cells #[.int .i64 0, .int .i64 0, .slice none 0 0] 25)) (by simp); have HG5 := Lib.hid (grown_trans (grown_trans (grown_drew w2 none) (grown_alloc _ (.cells #[.int .i64 0, .int .i64 0, .slice none 0 0] 25) _)) hg5); obtain ⟨r0, r1, r2⟩ := three_cells hBk; have f0 := frozen_of_row w5 _ 0 _ _ hBk; have f1 := frozen_of_row w5 _ 1 _ _ hBk; have f2 := frozen_of_row w5 _ 2 _ _ hBk; have HBK := Lib.hid hBk; have HSZ := Lib.hid hg5.size; clear hTn Tk ho5 hg5 hBk)))
    all_goals (go_wp2_with fail; go_meet; first | exact ⟨w5.heap.size, .slice a5 len c5, rfl, sj_new HG.out HA.out HB.out HZ.out HG5.out HO5.out (by simp)⟩ | exact ⟨w2.heap.size, .slice a5 len c5, rfl, sj_set HG.out HA.out HB.out HZ.out HG5.out HO5.out (by simp) (Nat.le_refl _) HBK.out⟩)
  case rest =>
  obtain ⟨Bk, v, rfl, HS⟩ := hcut
  generalize wc = w4 at *
  obtain ⟨M, cM, rfl, hcM, hM0, _⟩ := HS.out.own.form hlen1
  clear q0 q1 q2 q3 p0 p1 p2 kS hTn hu0 HG HA HB HZ hg0
  go_wp2
  go_loopw [7] (fun iv wr => ∃ (i : Nat), i ≤ len ∧ iv = .int .i64 i ∧ Hid (SJ w wr Bk r d (.slice (some ⟨M, 0, none⟩) len cM) len (mixJ xss yss i) (.cells #[.int .i64 r, .int .i64 d, .slice (some ⟨b, off, none⟩) len cap] 25) (.cells #[.int .i64 r, .int .i64 d, .slice (some ⟨b', off', none⟩) len cap'] 25) (.cells #[.int .i64 0, .int .i64 0, .slice none 0 0] 25))) (fun iv _ => len - (intOf iv).toNat)
  case atStart => exact ⟨0, Nat.zero_le _, rfl, by rw [mixJ_zero]; exact HS.out⟩
  case round =>
    clear HS
    obtain ⟨i, hi, rfl, HW⟩ := hrel
    obtain ⟨q0, q1, q2⟩ := three_cells HW.out.ba
    obtain ⟨p0, p1, p2⟩ := three_cells HW.out.bb
    by_cases hlt : i < len
    · obtain ⟨xs, hxk⟩ : ∃ xs, xss[i]? = some xs := ⟨_, List.getElem?_eq_getElem (by rw [HL.out]; exact hlt)⟩
      obtain ⟨ys, hyk⟩ : ∃ ys, yss[i]? = some ys := ⟨_, List.getElem?_eq_getElem (by rw [HL'.out]; exact hlt)⟩
      obtain ⟨ux, hux, a, cc, rfl, hin, hlc, hcm, hnl⟩ := HC.out i xs hxk
      obtain ⟨uy, huy, a', cc', rfl, hin', hlc', hcm', hnl'⟩ := HC'.out i ys hyk
      have hxl := (HV.out.row i xs hxk).1
      have hyl := (HV'.out.row i ys hyk).1
      rw [hxl] at hux hin hlc
      rw [hyl] at huy hin' hlc'
      have q3 := HW.out.gr.cell hux (by simp)
      have p3 := HW.out.gr.cell huy (by simp)
      obtain ⟨k0, k1, k2⟩ := three_cells HW.out.blk
      have HST := Lib.hid (mixJ_set hxk hyk)
      have hMlo : w.heap.size + 1 + 1 + 1 ≤ M := HW.out.own.block M rfl
      have kC := fun W (hgW : wr.grownBy W none) => copyInts_any xs a H cc W (hin.grown (grown_trans HW.out.gr hgW)) hnl (by omega)
      have HIN' := Lib.hid hin'
      have HNL' := Lib.hid hnl'
      have HXL : Hid (xs.length = H) := hxl
      have HYL : Hid (ys.length = H') := hyl
      have hBk := HW.out.lo
      have hne1 : Bk ≠ M := HW.out.neM
      have hne2 : w.heap.size ≠ M := by omega
      have hne3 : w.heap.size + 1 ≠ M := by omega
      have hne4 : b ≠ M := by omega
      have hne5 : b' ≠ M := by omega
      clear hux huy hin hin' hlc hlc' hcm hcm' hnl hnl' hxl hyl hxk hyk
      go_wp2_with fail
      go_region_held3 (fun w' => w'.cell? ⟨Bk, 2, none⟩ = some (.slice (some ⟨M, 0, none⟩) len cM) ∧ w'.cell? ⟨w.heap.size, 2, none⟩ = some (.slice (some ⟨b, off, none⟩) len cap) ∧ w'.cell? ⟨w.heap.size + 1, 2, none⟩ = some (.slice (some ⟨b', off', none⟩) len cap') ∧ w'.cell? ⟨b, off + i, none⟩ = some (.slice a H cc) ∧ w'.cell? ⟨b', off' + i, none⟩ = some (.slice a' H' cc')) (first | go_keep | exact ⟨by assumption, by assumption, by assumption, by assumption, by assumption⟩ | trivial) ((first
        | (go_at_call 50; refine (kC _ (grown_drew wr none)).mono ?_; rintro e w5 ⟨v5, rfl, ho5, hg5⟩; obtain ⟨a5, c5, rfl, _⟩ := ho5.reads; have HO5 := Lib.hid ho5; have HG5 := Lib.hid (grown_trans (grown_drew wr none) hg5); have hS0 := hg5.cell k2 (by simp); have hS1 := hg5.cell q2 (by simp); have hS2 := hg5.cell p2 (by simp); have hS3 := hg5.cell q3 (by simp); have hS4 := hg5.cell p3 (by simp); clear ho5 hg5)
        | (refine step_append_all rfl _ _ rfl wr.heap.size (.slice a5 H c5) H xs rfl HO5.out a' H' cc' ys rfl (HIN'.out.grown (grown_trans HW.out.gr HG5.out)) HNL'.out (by omega) (HG5.out.size) ?_; intro a6 c6 w6 ho6 hg6; have HO6 := Lib.hid ho6; have HB6 := Lib.hid (HO5.out.block); have HG6 := Lib.hid (grown_row HG5.out hg6 HB6.out); have hT0 := HG6.out.cell k2 (by simp); have hT1 := HG6.out.cell q2 (by simp); have hT2 := HG6.out.cell p2 (by simp); have hT3 := HG6.out.cell q3 (by simp); have hT4 := HG6.out.cell p3 (by simp); obtain ⟨⟨u6, hT5⟩, hT6⟩ := (HW.out.own.grown HG6.out).cellat hlt; have hW0 : (w6.setCell ⟨M, i, none⟩ (.slice a6 (H + H') c6)).cell? ⟨Bk, 2, none⟩ = _ := cell_st1 hT0 hne1; have hW1 : (w6.setCell ⟨M, i, none⟩ (.slice a6 (H + H') c6)).cell? ⟨w.heap.size, 2, none⟩ = _ := cell_st1 hT1 hne2; have hW2 : (w6.setCell ⟨M, i, none⟩ (.slice a6 (H + H') c6)).cell? ⟨w.heap.size + 1, 2, none⟩ = _ := cell_st1 hT2 hne3; have hW3 : (w6.setCell ⟨M, i, none⟩ (.slice a6 (H + H') c6)).cell? ⟨b, off + i, none⟩ = _ := cell_st1 hT3 hne4; have hW4 : (w6.setCell ⟨M, i, none⟩ (.slice a6 (H + H') c6)).cell? ⟨b', off' + i, none⟩ = _ := cell_st1 hT4 hne5; clear ho6 hg6)))
      all_goals
        have HN : Hid (SJ w (w6.setCell ⟨M, i, none⟩ (.slice a6 (H + H') c6)) Bk r d (.slice (some ⟨M, 0, none⟩) len cM) len (mixJ xss yss (i + 1)) (.cells #[.int .i64 r, .int .i64 d, .slice (some ⟨b, off, none⟩) len cap] 25) (.cells #[.int .i64 r, .int .i64 d, .slice (some ⟨b', off', none⟩) len cap'] 25) (.cells #[.int .i64 0, .int .i64 0, .slice none 0 0] 25)) := by
          have h9 := HW.out.put (i := i) (ys := xs ++ ys) hlt HG6.out (by rw [List.length_append, HXL.out, HYL.out]; exact HO6.out)
          rw [HST.out] at h9
          exact h9
        clear hW0 hW1 hW2 hW3 hW4 HW HO5 HO6 HG5 HG6 HB6 hS0 hS1 hS2 hS3 hS4 hT0 hT1 hT2 hT3 hT4 hT5 hT6 q0 q1 q2 q3 p0 p1 p2 p3 k0 k1 k2
        go_wp2
        go_roundw
        case rel => exact ⟨i + 1, by omega, by go_num, HN⟩
        case measure => simp [intOf]; omega
    · obtain rfl : i = len := by omega
      have hF := HW.out
      rw [mixJ_full HL.out HL'.out] at hF
      have HF := Lib.hid hF
      clear HW hF
      obtain ⟨k0, k1, k2⟩ := three_cells HF.out.blk
      obtain ⟨_, cW, hvw, _, _, hmat, _⟩ := HF.out.own.reads
      injection hvw with hvw1 _ hvw2
      subst hvw1 hvw2
      have hszj : szL (joinM xss yss) ≤ 1048576 := by
        have := sz_rows (xss := joinM xss yss) (H := H + H') (by rw [joinM_len (by rw [HL.out, HL'.out]), HL.out]; exact hlen) (fun k zs hz => by
          obtain ⟨xs, ys, hx, hy, rfl⟩ := joinM_row hz
          rw [List.length_append, (HV.out.row k xs hx).1, (HV'.out.row k ys hy).1])
        omega
      have kv := svAu_any (joinM xss yss) (some ⟨M, 0, none⟩) i cM r d _ _ hmat hszj rfl
      have HHD : Hid ((xss.headD []).length + (yss.headD []).length = H + H') := by show _ = _; rw [HV.out.hd, HV'.out.hd]
      by_cases hsum : H + H' ≤ 256
      · have hvj : vAu r d (joinM xss yss) = true := va_back (va_join HV.out HV'.out (by rw [HL.out, HL'.out]) hsum)
        rw [hvj] at kv
        obtain ⟨rfl, rfl, rfl, rfl⟩ := HR.out.yes ⟨HVA.out, HVB.out, rfl, rfl, by rw [HL.out, HL'.out], by rw [HHD.out]; exact hsum⟩
        clear hmat hvj
        go_wp2_with fail
        refine kv.mono ?_
        rintro e w7 ⟨rfl, hg7⟩
        have HO7 := Lib.hid (HF.out.own.grown hg7)
        have HG7 := Lib.hid (grown_trans HF.out.gr hg7)
        have HK7 := Lib.hid (grown_heap hg7 HF.out.blk (by simp))
        have HZ7 := Lib.hid (grown_heap hg7 HF.out.res (by simp))
        clear kv hg7 k0 k1 k2 q0 q1 q2 p0 p1 p2
        obtain ⟨k0, k1, k2⟩ := three_cells HK7.out
        obtain ⟨z0, z1, z2⟩ := three_cells HZ7.out
        have f0 := frozen_of_row w7 _ 0 _ _ HZ7.out
        have f1 := frozen_of_row w7 _ 1 _ _ HZ7.out
        have f2 := frozen_of_row w7 _ 2 _ _ HZ7.out
        go_wp2
        refine bodyPost_ret (v := .tuple #[.agg #[.int .i64 r, .int .i64 d, .slice (some ⟨M, 0, none⟩) i cM], .bool true]) (by simp [results, Try.results22, go_sem, z0, z1, z2]) rfl ⟨_, rfl, ?_⟩
        rw [joinM_len (by rw [HL.out, HL'.out]), HL.out]
        exact own_res HO7.out HG7.out (by omega)
      · have hvj : vAu r d (joinM xss yss) = false := by
          cases e : vAu r d (joinM xss yss) with
          | false => rfl
          | true =>
            obtain ⟨u9, H9, h9⟩ := va_of e
            obtain ⟨zs, hz, hzl⟩ := h9.first
            obtain ⟨xs, ys, hx, hy, rfl⟩ := joinM_row hz
            rw [List.length_append, (HV.out.row 0 xs hx).1, (HV'.out.row 0 ys hy).1] at hzl
            have := h9.hh
            omega
        rw [hvj] at kv
        obtain ⟨rfl, rfl, rfl, rfl⟩ := HR.out.no (fun h => hsum (by have := h.2.2.2.2.2; rw [HHD.out] at this; exact this))
        clear hmat hvj
        go_wp2_with fail
        refine kv.mono ?_
        rintro e w7 ⟨rfl, hg7⟩
        have HG := Lib.hid (grown_trans HF.out.gr hg7)
        have HZ := Lib.hid (grown_heap hg7 HF.out.res (by simp))
        clear kv hg7 k0 k1 k2 q0 q1 q2 p0 p1 p2
        obtain ⟨z0, z1, z2⟩ := three_cells HZ.out
        have f0 := frozen_of_row w7 _ 0 _ _ HZ.out
        have f1 := frozen_of_row w7 _ 1 _ _ HZ.out
        have f2 := frozen_of_row w7 _ 2 _ _ HZ.out
        go_wp2
        refine bodyPost_ret (v := .tuple #[.agg #[.int .i64 0, .int .i64 0, .slice none 0 0], .bool false]) (by simp [results, Try.results22, go_sem, z0, z1, z2]) rfl ⟨_, rfl, ?_⟩
        exact own_res (mown_nil _ _) HG.out (by omega)

end Go.Proofs.Ytncbgofcimghnaa
