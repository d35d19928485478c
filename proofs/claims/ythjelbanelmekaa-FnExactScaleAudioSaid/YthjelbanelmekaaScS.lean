/-
  Scaled audio: the specification's text. For all channels that can be read.
-/
import Derived.Test.YthjelbanelmekaaVAuI
import Derived.Test.YthjelbanelmekaaSlS
import Derived.Test.YthjelbanelmekaaScM
import Derived.Deep.RegionHeld3
import Derived.Deep.Cut
import Derived.Deep.CutRange
namespace Go.Proofs.Ythjelbanelmekaa
open Go.RowKit

set_option maxHeartbeats 1000000 in
theorem sScaled_any (x num den : Int) (u : Nat) (w : World) (h0 : -32768 ≤ x) (h1 : x ≤ 32768) (h2 : 1 ≤ num) (h3 : num ≤ 64) (h4 : 1 ≤ den) (h5 : den ≤ 64) (hu : u ≤ 15) :
    Calls Try.prog 53 #[.int .i64 x, .int .i64 num, .int .i64 den, .int .i64 ((u : Int) + 1)] w fun e w' => e = .returned (.int .i64 (scx u num den x)) ∧ ∃ m, w' = w.drewN m := by
  have hm := sc_mul h0 h1 h2 h3
  have hq := qC_small (n := x * num) h4 h5 hm.1 hm.2
  obtain ⟨p, hp⟩ : ∃ p, x * num = p := ⟨_, rfl⟩
  have e1 : 2 * x * num = 2 * p := by rw [Int.mul_assoc, hp]
  rw [hp] at hm hq
  have hm0 := hm.1
  have hm1 := hm.2
  have hf := fun W => sFloor_any (2 * p + den) (2 * den) W (by omega) (by omega) (by omega)
  have hw1 : IntKind.i64.wrap (2 * x * num) = 2 * p := by rw [e1]; exact IntWalk.i64_in _ (by omega)
  have hw2 : IntKind.i64.wrap (2 * p + den) = 2 * p + den := IntWalk.i64_in _ (by omega)
  obtain ⟨q, hqq⟩ : ∃ q, (2 * p + den) / (2 * den) = q := ⟨_, rfl⟩
  rw [hqq] at hf
  have hp0 := (pow_u u (by omega)).1
  have hp1 := (pow_u u (by omega)).2
  have hw0 : IntKind.i64.wrap (2 ^ u) = 2 ^ u := IntWalk.i64_in _ (by omega)
  have hw01 : IntKind.i64.wrap (-(2 ^ u)) = -(2 ^ u) := IntWalk.i64_in _ (by omega)
  have hw02 : IntKind.i64.wrap (-1 * 2 ^ u) = -(2 ^ u) := IntWalk.i64_in _ (by omega) |>.trans (by omega)
  have hus : (u : Int).toNat = u := by simp
  have hwu : IntKind.i64.wrap (u : Int) = (u : Int) := IntWalk.i64_in _ (by omega)
  have hq2 : IntKind.i64.wrap (2 ^ u - 1) = 2 ^ u - 1 := IntWalk.i64_in _ (by omega)
  have hu00 : (0 : Int) ≤ (u : Int) := by omega
  have hu01 : (u : Int) ≤ 64 := by omega
  have hqq0 : qC den p = q := hqq
  have HSC : Hid (scx u num den x = min (2 ^ u - 1) (max (-(2 ^ u)) q)) := by show _ = _; unfold scx; rw [hp, hqq0]
  rw [hqq0] at hq
  have hq0 := hq.1
  have hq1 := hq.2
  clear hqq hqq0 hp hm hq
  by_cases k1 : -(2 ^ u) < q
  · by_cases k2 : q < 2 ^ u - 1
    · have l1 : decide (-(2 ^ u) < q) = true := by simpa using k1
      have l2 : decide (q < 2 ^ u - 1) = true := by simpa using k2
      have HRES : Hid (scx u num den x = q) := by show _ = _; rw [HSC.out]; omega
      go_enter Try.func53, Try.ntmps53
      go_wp2_with fail
      refine (hf _).mono ?_
      rintro e w' ⟨rfl, rfl⟩
      clear hf HSC
      go_wp2_with fail
      go_quiet (fail)
      go_wp2
      go_ret
      exact ⟨ret_int HRES.out.symm, nq, rfl⟩
    · have l1 : decide (-(2 ^ u) < q) = true := by simpa using k1
      have l2 : decide (q < 2 ^ u - 1) = false := by simp; omega
      have HRES : Hid (scx u num den x = 2 ^ u - 1) := by show _ = _; rw [HSC.out]; omega
      go_enter Try.func53, Try.ntmps53
      go_wp2_with fail
      refine (hf _).mono ?_
      rintro e w' ⟨rfl, rfl⟩
      clear hf HSC
      go_wp2_with fail
      go_quiet (fail)
      go_wp2
      go_ret
      exact ⟨ret_int HRES.out.symm, nq, rfl⟩
  · have l1 : decide (-(2 ^ u) < q) = false := by simp; omega
    have k3 : -(2 ^ u) < 2 ^ u - 1 := by omega
    have l2 : decide (-(2 ^ u) < 2 ^ u - 1) = true := by simpa using k3
    have HRES : Hid (scx u num den x = -(2 ^ u)) := by show _ = _; rw [HSC.out]; omega
    go_enter Try.func53, Try.ntmps53
    go_wp2_with fail
    refine (hf _).mono ?_
    rintro e w' ⟨rfl, rfl⟩
    clear hf HSC
    go_wp2_with fail
    go_quiet (fail)
    go_wp2
    go_ret
    exact ⟨ret_int HRES.out.symm, nq, rfl⟩

/-- What ScaleAudio gives: valid audio with scaled samples and how many were limited, or nothing. -/
def ScR (r d num den : Int) (xss : List (List Int)) (rr dd : Int) (yss : List (List Int)) (n : Int) (ok : Bool) : Prop :=
  (ok = true ∧ rr = r ∧ dd = d ∧ (1 ≤ num ∧ num ≤ 64) ∧ (1 ≤ den ∧ den ≤ 64) ∧ ∃ u H, VA r d xss u H ∧ yss = xss.map (scL u num den) ∧ n = (clM u num den xss : Int)) ∨
  (ok = false ∧ rr = 0 ∧ dd = 0 ∧ yss = [] ∧ n = 0 ∧ ¬ (vAu r d xss = true ∧ (1 ≤ num ∧ num ≤ 64) ∧ (1 ≤ den ∧ den ≤ 64)))
theorem ScR_there (r d num den : Int) (xss : List (List Int)) : ∃ rr dd yss n ok, ScR r d num den xss rr dd yss n ok := by
  by_cases h : vAu r d xss = true ∧ (1 ≤ num ∧ num ≤ 64) ∧ (1 ≤ den ∧ den ≤ 64)
  · obtain ⟨u, H, hV⟩ := va_of h.1
    exact ⟨r, d, _, _, true, Or.inl ⟨rfl, rfl, rfl, h.2.1, h.2.2, u, H, hV, rfl, rfl⟩⟩
  · exact ⟨0, 0, [], 0, false, Or.inr ⟨rfl, rfl, rfl, rfl, rfl, h⟩⟩
/-- A call gives back new audio, a number and whether it is any. -/
def MadeAN (yss : List (List Int)) (rr dd n : Int) (ok : Bool) (w : World) (e : Ending) (w' : World) : Prop :=
  ∃ v, e = .returned (.tuple #[.agg #[.int .i64 rr, .int .i64 dd, v], .int .i64 n, .bool ok]) ∧ MOwn w' w.heap.size v yss.length yss ∧ w.grownBy w' none

/-- Inside the call: the box of the argument, the place of the result, and the audio that is being made with rows of its own. -/
structure SS (w wx : World) (Bk : Nat) (r d : Int) (v : Value) (n : Nat) (yss : List (List Int)) (A Z : Obj) : Prop where
  gr : w.grownBy wx none
  box : wx.heap[w.heap.size]? = some A
  res : wx.heap[w.heap.size + 1]? = some Z
  blk : wx.heap[Bk]? = some (.cells #[.int .i64 r, .int .i64 d, v] 25 (0, 0))
  own : MOwn wx (w.heap.size + 2) v n yss
  lo : w.heap.size + 2 ≤ Bk

theorem SS.store {w wr wz : World} {Bk n g k : Nat} {r d : Int} {v y : Value} {yss zss : List (List Int)} {A Z : Obj} (h : SS w wr Bk r d v n yss A Z) (hlo : w.heap.size + 2 ≤ g) (hne : Bk ≠ g) (hown : MOwn (wr.setCell ⟨g, k, none⟩ y) (w.heap.size + 2) v n zss) (hz : (wr.setCell ⟨g, k, none⟩ y).grownBy wz none) : SS w wz Bk r d v n zss A Z := by
  have far : ∀ B, B ≠ g → ∀ o, wr.heap[B]? = some o → wz.heap[B]? = some o := fun B hB o ho => grown_heap hz (by rw [heap_setCell_other _ ⟨g, k, none⟩ _ _ hB]; exact ho) (by simp)
  exact ⟨grown_trans (grown_set h.gr (by show _ ≤ g; omega)) hz, far _ (by omega) _ h.box, far _ (by omega) _ h.res, far _ hne _ h.blk, hown.grown hz, h.lo⟩
theorem ss_drew {w wr : World} {Bk n : Nat} {r d : Int} {v : Value} {yss : List (List Int)} {A Z : Obj} (h : SS w wr Bk r d v n yss A Z) (m : Nat) : SS w (wr.drewN m) Bk r d v n yss A Z :=
  ⟨grown_trans h.gr (grown_drewN _ _ _), h.box, h.res, h.blk, h.own.grown (grown_drewN _ _ _), h.lo⟩
theorem clx_eq {u : Nat} {num den x : Int} (h : scx u num den x = qC den (x * num)) : clx u num den x = 0 := if_pos h
theorem clx_ne {u : Nat} {num den x : Int} (h : ¬ scx u num den x = qC den (x * num)) : clx u num den x = 1 := if_neg h
theorem set_same {α : Type} {l : List α} {i : Nat} {x : α} (h : l[i]? = some x) : l.set i x = l := by
  apply List.ext_getElem?
  intro j
  by_cases hj : j = i
  · subst hj
    rw [List.getElem?_set_self (List.getElem?_eq_some_iff.1 h).1, h]
  · rw [List.getElem?_set_ne (by omega)]
theorem cell_al {w : World} {a : Addr} {v : Value} {o : Obj} (h : w.cell? a = some v) : (w.alloc o).cell? a = some v := (World.cell?_of_block (heap_alloc_old _ _ (block_lt_of_cell h))).trans h
theorem cell_st1 {w : World} {a b : Addr} {v x : Value} (h : w.cell? a = some v) (h1 : a.block ≠ b.block) : (w.setCell b x).cell? a = some v := by rw [cell_far _ _ _ _ h1]; exact h
theorem cell_st3 {w : World} {a : Addr} {v x y z : Value} {B : Nat} (h : w.cell? a = some v) (h1 : a.block ≠ B) : (((w.setCell ⟨B, 0, none⟩ x).setCell ⟨B, 1, none⟩ y).setCell ⟨B, 2, none⟩ z).cell? a = some v := by
  rw [cell_far _ _ _ _ h1, cell_far _ _ _ _ h1, cell_far _ _ _ _ h1]; exact h
theorem heap_st3 {w : World} {B : Nat} {x y z x' y' z' : Value} {t : TypeId} (h : w.heap[B]? = some (.cells #[x, y, z] t (0, 0))) : (((w.setCell ⟨B, 0, none⟩ x').setCell ⟨B, 1, none⟩ y').setCell ⟨B, 2, none⟩ z').heap[B]? = some (.cells #[x', y', z'] t (0, 0)) := by
  have h1 := heap_setCell_same w B 0 _ _ x' h
  have h2 := heap_setCell_same _ B 1 _ _ y' h1
  exact heap_setCell_same _ B 2 _ _ z' h2
theorem heap_far3 {w : World} {B C : Nat} {x y z : Value} (h : C ≠ B) : (((w.setCell ⟨B, 0, none⟩ x).setCell ⟨B, 1, none⟩ y).setCell ⟨B, 2, none⟩ z).heap[C]? = w.heap[C]? := by
  rw [heap_setCell_other _ ⟨B, 2, none⟩ _ _ h, heap_setCell_other _ ⟨B, 1, none⟩ _ _ h, heap_setCell_other _ ⟨B, 0, none⟩ _ _ h]
theorem ss_new {w w1 w5 : World} {base n : Nat} {r d : Int} {v : Value} {yss : List (List Int)} {A Z : Obj} (hg : w.grownBy w1 none) (hb : w1.heap[w.heap.size]? = some A) (hz : w1.heap[w.heap.size + 1]? = some Z) (h5 : w1.grownBy w5 none) (ho : MOwn w5 base v n yss) (hbase : w1.heap.size ≤ base) :
    SS w (w5.alloc (.cells #[.int .i64 r, .int .i64 d, v] 25)) w5.heap.size r d v n yss A Z := by
  have h2 := block_lt hz
  have h6 := grown_trans h5 (grown_alloc w5 (.cells #[.int .i64 r, .int .i64 d, v] 25) none)
  exact ⟨grown_trans hg h6, grown_heap h6 hb (by simp), grown_heap h6 hz (by simp), heap_alloc_new w5 _, (ho.grown (grown_alloc _ _ _)).base_le (by omega), by have := h5.size; omega⟩
theorem ss_set {w w1 w5 : World} {Bk base n : Nat} {r d : Int} {v x y z : Value} {yss : List (List Int)} {A Z : Obj} (hg : w.grownBy w1 none) (hb : w1.heap[w.heap.size]? = some A) (hz : w1.heap[w.heap.size + 1]? = some Z) (h5 : w1.grownBy w5 none) (ho : MOwn w5 base v n yss) (hbase : Bk < base) (hB : w1.heap.size ≤ Bk)
    (hk : w5.heap[Bk]? = some (.cells #[x, y, z] 25 (0, 0))) :
    SS w (((w5.setCell ⟨Bk, 0, none⟩ (.int .i64 r)).setCell ⟨Bk, 1, none⟩ (.int .i64 d)).setCell ⟨Bk, 2, none⟩ v) Bk r d v n yss A Z := by
  have h2 := block_lt hz
  refine ⟨grown_set (grown_set (grown_set (grown_trans hg h5) (by show _ ≤ Bk; omega)) (by show _ ≤ Bk; omega)) (by show _ ≤ Bk; omega), ?_, ?_, heap_st3 hk, (((ho.set _ _ (by show Bk < _; omega)).set _ _ (by show Bk < _; omega)).set _ _ (by show Bk < _; omega)).base_le (by omega), by omega⟩
  · rw [heap_far3 (by omega)]; exact grown_heap h5 hb (by simp)
  · rw [heap_far3 (by omega)]; exact grown_heap h5 hz (by simp)

theorem own_an {w w1 : World} {B len : Nat} {v x y z : Value} {yss : List (List Int)} (h : MOwn w1 (B + 2) v len yss) (hg : w.grownBy w1 none) (hB : w.heap.size = B) :
    MOwn (((w1.setCell ⟨B + 1, 0, none⟩ x).setCell ⟨B + 1, 1, none⟩ y).setCell ⟨B + 1, 2, none⟩ z) w.heap.size v len yss ∧ w.grownBy (((w1.setCell ⟨B + 1, 0, none⟩ x).setCell ⟨B + 1, 1, none⟩ y).setCell ⟨B + 1, 2, none⟩ z) none :=
  ⟨(((h.set _ _ (by show B + 1 < _; omega)).set _ _ (by show B + 1 < _; omega)).set _ _ (by show B + 1 < _; omega)).base_le (by omega), grown_set (grown_set (grown_set hg (by show _ ≤ B + 1; omega)) (by show _ ≤ B + 1; omega)) (by show _ ≤ B + 1; omega)⟩

set_option maxRecDepth 100000 in
set_option maxHeartbeats 4000000 in
theorem sSc_any (xss : List (List Int)) (ao : Option Addr) (len cap : Nat) (r d num den : Int) (w : World) (rr dd n : Int) (yss : List (List Int)) (ok : Bool) (hx : Mat w ao len xss) (hs : szL xss ≤ 1048576) (hv : ScR r d num den xss rr dd yss n ok) :
    Calls Try.prog 24 #[.agg #[.int .i64 r, .int .i64 d, .slice ao len cap], .int .i64 num, .int .i64 den] w (MadeAN yss rr dd n ok w) := by
  have hg0 : w.grownBy ((w.alloc (.cells #[.int .i64 r, .int .i64 d, .slice ao len cap] 25)).alloc (.cells #[.int .i64 0, .int .i64 0, .slice none 0 0] 25)) none := grown_trans (grown_alloc _ _ _) (grown_alloc _ _ _)
  have k1 := svAu_any xss ao len cap r d ((w.alloc (.cells #[.int .i64 r, .int .i64 d, .slice ao len cap] 25)).alloc (.cells #[.int .i64 0, .int .i64 0, .slice none 0 0] 25)) _ (hx.grown hg0) hs rfl
  have hb0 : ((w.alloc (.cells #[.int .i64 r, .int .i64 d, .slice ao len cap] 25)).alloc (.cells #[.int .i64 0, .int .i64 0, .slice none 0 0] 25)).heap[w.heap.size]? = some (.cells #[.int .i64 r, .int .i64 d, .slice ao len cap] 25) := grown_heap (grown_alloc _ _ none) (heap_alloc_new w _) (by simp)
  have hz0 : ((w.alloc (.cells #[.int .i64 r, .int .i64 d, .slice ao len cap] 25)).alloc (.cells #[.int .i64 0, .int .i64 0, .slice none 0 0] 25)).heap[w.heap.size + 1]? = some (.cells #[.int .i64 0, .int .i64 0, .slice none 0 0] 25) := by have := heap_alloc_new (w.alloc (.cells #[.int .i64 r, .int .i64 d, .slice ao len cap] 25)) (.cells #[.int .i64 0, .int .i64 0, .slice none 0 0] 25); simpa using this
  have k2 := fun (x : Int) W => inRange_any x 1 64 _ W rfl
  cases hva : vAu r d xss with
  | false =>
    rw [hva] at k1
    obtain ⟨rfl, rfl, rfl, rfl, rfl⟩ : rr = 0 ∧ dd = 0 ∧ n = 0 ∧ ok = false ∧ yss = [] := by
      rcases hv with ⟨_, _, _, _, _, u, H, hV, _⟩ | ⟨h1, h2, h3, h4, h5, _⟩
      · rw [va_back hV] at hva; cases hva
      · exact ⟨h2, h3, h5, h1, h4⟩
    clear hx hs hva hv k2
    go_enter Try.func24, Try.ntmps24
    go_wp2_with fail
    refine k1.mono ?_
    rintro e w1 ⟨rfl, hg⟩
    have HG := Lib.hid (grown_trans hg0 hg)
    have HB := Lib.hid (grown_heap hg hb0 (by simp))
    have HZ := Lib.hid (grown_heap hg hz0 (by simp))
    clear k1 hg hb0 hz0
    obtain ⟨z0, z1, z2⟩ := three_cells HZ.out
    have f0 := frozen_of_row w1 _ 0 _ _ HZ.out
    have f1 := frozen_of_row w1 _ 1 _ _ HZ.out
    have f2 := frozen_of_row w1 _ 2 _ _ HZ.out
    go_wp2
    refine bodyPost_ret (v := .tuple #[.agg #[.int .i64 0, .int .i64 0, .slice none 0 0], .int .i64 0, .bool false]) (by simp [results, Try.results24, go_sem, z0, z1, z2]) rfl ⟨_, rfl, ?_⟩
    exact own_an (mown_nil _ _) HG.out rfl
  | true =>
  rw [hva] at k1
  by_cases hn : ¬ (1 ≤ num ∧ num ≤ 64)
  · obtain ⟨rfl, rfl, rfl, rfl, rfl⟩ : rr = 0 ∧ dd = 0 ∧ n = 0 ∧ ok = false ∧ yss = [] := by
      rcases hv with ⟨_, _, _, h1, _⟩ | ⟨h1, h2, h3, h4, h5, _⟩
      · exact absurd h1 hn
      · exact ⟨h2, h3, h5, h1, h4⟩
    have k3 := k2 num
    rw [inB_false hn] at k3
    clear hx hs hva hv hn k2
    go_enter Try.func24, Try.ntmps24
    go_wp2_with fail
    refine k1.mono ?_
    rintro e w1 ⟨rfl, hg⟩
    have HG := Lib.hid (grown_trans hg0 hg)
    have HB := Lib.hid (grown_heap hg hb0 (by simp))
    have HZ := Lib.hid (grown_heap hg hz0 (by simp))
    clear k1 hg hb0 hz0
    go_wp2_with fail
    refine (k3 _).mono ?_
    rintro e w2 ⟨rfl, rfl⟩
    clear k3
    obtain ⟨z0, z1, z2⟩ := three_cells HZ.out
    have f0 := frozen_of_row w1 _ 0 _ _ HZ.out
    have f1 := frozen_of_row w1 _ 1 _ _ HZ.out
    have f2 := frozen_of_row w1 _ 2 _ _ HZ.out
    go_wp2
    refine bodyPost_ret (v := .tuple #[.agg #[.int .i64 0, .int .i64 0, .slice none 0 0], .int .i64 0, .bool false]) (by simp [results, Try.results24, go_sem, z0, z1, z2]) rfl ⟨_, rfl, ?_⟩
    exact own_an (mown_nil _ _) HG.out rfl
  have hn := Classical.not_not.1 hn
  have k3 := k2 num
  rw [inB_true hn.1 hn.2] at k3
  by_cases hd : ¬ (1 ≤ den ∧ den ≤ 64)
  · obtain ⟨rfl, rfl, rfl, rfl, rfl⟩ : rr = 0 ∧ dd = 0 ∧ n = 0 ∧ ok = false ∧ yss = [] := by
      rcases hv with ⟨_, _, _, _, h1, _⟩ | ⟨h1, h2, h3, h4, h5, _⟩
      · exact absurd h1 hd
      · exact ⟨h2, h3, h5, h1, h4⟩
    have k4 := k2 den
    rw [inB_false hd] at k4
    clear hx hs hva hv hd k2
    go_enter Try.func24, Try.ntmps24
    go_wp2_with fail
    refine k1.mono ?_
    rintro e w1 ⟨rfl, hg⟩
    have HG := Lib.hid (grown_trans hg0 hg)
    have HB := Lib.hid (grown_heap hg hb0 (by simp))
    have HZ := Lib.hid (grown_heap hg hz0 (by simp))
    clear k1 hg hb0 hz0
    go_wp2_with fail
    refine (k3 _).mono ?_
    rintro e w2 ⟨rfl, rfl⟩
    clear k3
    go_wp2_with fail
    refine (k4 _).mono ?_
    rintro e w3 ⟨rfl, rfl⟩
    clear k4
    obtain ⟨z0, z1, z2⟩ := three_cells HZ.out
    have f0 := frozen_of_row w1 _ 0 _ _ HZ.out
    have f1 := frozen_of_row w1 _ 1 _ _ HZ.out
    have f2 := frozen_of_row w1 _ 2 _ _ HZ.out
    go_wp2
    refine bodyPost_ret (v := .tuple #[.agg #[.int .i64 0, .int .i64 0, .slice none 0 0], .int .i64 0, .bool false]) (by simp [results, Try.results24, go_sem, z0, z1, z2]) rfl ⟨_, rfl, ?_⟩
    exact own_an (mown_nil _ _) HG.out rfl
  have hd := Classical.not_not.1 hd
  have k4 := k2 den
  rw [inB_true hd.1 hd.2] at k4
  obtain ⟨rfl, rfl, rfl, u, H, hV, rfl, rfl⟩ : r = rr ∧ d = dd ∧ ok = true ∧ ∃ u H, VA r d xss u H ∧ yss = xss.map (scL u num den) ∧ n = (clM u num den xss : Int) := by
    rcases hv with ⟨h1, h2, h3, _, _, u, H, hV, h4, h5⟩ | ⟨_, _, _, _, _, h1⟩
    · exact ⟨h2.symm, h3.symm, h1, u, H, hV, h4, h5⟩
    · exact absurd ⟨hva, hn, hd⟩ h1
  have HX := Lib.hid hx
  have HL := Lib.hid hx.1
  have HV := Lib.hid hV
  have hlen : len ≤ 2 := by have := hV.ch.2; rw [hx.1] at this; exact this
  have hlen1 : 1 ≤ len := by have := hV.ch.1; rw [hx.1] at this; exact this
  have hH : H ≤ 256 := hV.hh
  have hn1 := hn.1
  have hn2 := hn.2
  have hd1 := hd.1
  have hd2 := hd.2
  have hu15 := hV.u15
  obtain ⟨b, off, rfl, hc⟩ := hx.2.resolve_left (by intro e; have := hx.1; rw [e] at this; simp at this; omega)
  obtain ⟨xs0, hxs0⟩ : ∃ xs, xss[0]? = some xs := ⟨_, List.getElem?_eq_getElem (by rw [hx.1]; omega)⟩
  obtain ⟨u0, hu0, a0, c0, rfl, _⟩ := hc 0 xs0 hxs0
  rw [(hV.row 0 xs0 hxs0).1, Nat.add_zero] at hu0
  have HC := Lib.hid hc
  have hbw : b < w.heap.size := block_lt_of_cell hu0
  have hsl : Hid (xss.map (cutR 0 H) = xss) := by
    show _ = _
    conv => rhs; rw [← List.map_id xss]
    exact List.map_congr_left (fun xs hm => by
      obtain ⟨k, hk⟩ := List.getElem?_of_mem hm
      exact cutR_all (hV.row k xs hk).1)
  have kS := fun W (hgW : w.grownBy W none) => sSlice_any xss (some ⟨b, off, none⟩) len cap 0 H W (hx.grown hgW) (by omega) (by omega) (by omega) (fun k xs hk => by rw [(hV.row k xs hk).1]; exact Nat.le_refl _)
  rw [hsl.out] at kS
  clear hx hs hva hv hn hd k2 hV hc hxs0 hsl
  go_enter Try.func24, Try.ntmps24
  go_wp2_with fail
  refine k1.mono ?_
  rintro e w1 ⟨rfl, hg⟩
  have HG := Lib.hid (grown_trans hg0 hg)
  have HB := Lib.hid (grown_heap hg hb0 (by simp))
  have HZ := Lib.hid (grown_heap hg hz0 (by simp))
  clear k1 hg hb0 hz0
  go_wp2_with fail
  refine (k3 _).mono ?_
  rintro e w2 ⟨rfl, rfl⟩
  clear k3
  go_wp2_with fail
  refine (k4 _).mono ?_
  rintro e w3 ⟨rfl, rfl⟩
  clear k4
  obtain ⟨q0, q1, q2⟩ := three_cells HB.out
  have q3 := HG.out.cell hu0 (by simp)
  have hsz : w.heap.size + 2 ≤ w1.heap.size := by have := block_lt HZ.out; omega
  have hlen0 : 0 < len := by omega
  have hTn : True := trivial
  go_upto_region 3 with fail
  go_cut [9] from 27 to 39 (fun aa wx => ∃ (Bk : Nat) (v : Value), aa = .pointer (some ⟨Bk, 0, none⟩) ∧ Hid (SS w wx Bk r d v len xss (.cells #[.int .i64 r, .int .i64 d, .slice (some ⟨b, off, none⟩) len cap] 25) (.cells #[.int .i64 0, .int .i64 0, .slice none 0 0] 25)))
  case first =>
    go_wp2_with fail
    go_region_held3 (fun w' => w'.cell? ⟨w.heap.size, 0, none⟩ = some (.int .i64 r) ∧ w'.cell? ⟨w.heap.size, 1, none⟩ = some (.int .i64 d) ∧ w'.cell? ⟨w.heap.size, 2, none⟩ = some (.slice (some ⟨b, off, none⟩) len cap) ∧ w'.cell? ⟨b, off, none⟩ = some (.slice a0 H c0)) (first | go_keep | exact ⟨by assumption, by assumption, by assumption, by assumption⟩ | exact ⟨cell_al (by assumption), cell_al (by assumption), cell_al (by assumption), cell_al (by assumption)⟩ | exact ⟨cell_st3 (by assumption) (by simp; omega), cell_st3 (by assumption) (by simp; omega), cell_st3 (by assumption) (by simp; omega), cell_st3 (by assumption) (by simp; omega)⟩) ((first
      | (go_at_call 52; have Tk := hTn; refine (kS _ (grown_trans HG.out (grown_drew w1 none))).mono ?_; rintro e w5 ⟨v5, rfl, ho5, hg5⟩; obtain ⟨a5, c5, rfl, _⟩ := ho5.reads; have HO5 := Lib.hid ho5; have hS0 := hg5.cell q0 (by simp); have hS1 := hg5.cell q1 (by simp); have hS2 := hg5.cell q2 (by simp); have hS3 := hg5.cell q3 (by simp); have HG5 := Lib.hid (grown_trans (grown_drew w1 none) hg5); clear hTn Tk ho5 hg5)
      | (go_at_call 52; have Tk := hTn; refine (kS _ (grown_trans HG.out (grown_trans (grown_drew w1 none) (grown_alloc _ (.cells #[.int .i64 0, .int .i64 0, .slice none 0 0] 25) _)))).mono ?_; rintro e w5 ⟨v5, rfl, ho5, hg5⟩; obtain ⟨a5, c5, rfl, _⟩ := ho5.reads; have HO5 := Lib.hid ho5; have hS0 := hg5.cell (cell_al q0) (by simp); have hS1 := hg5.cell (cell_al q1) (by simp); have hS2 := hg5.cell (cell_al q2) (by simp); have hS3 := hg5.cell (cell_al q3) (by simp); have hBk : w5.heap[w1.heap.size]? = some (.cells #[.int .i64 0, .int .i64 0, .slice none 0 0] 25) := grown_heap hg5 (heap_alloc_new w1.drew (.cells #[.int .i64 0, .int .i64 0, .slice none 0 0] 25)) (by simp); have HG5 := Lib.hid (grown_trans (grown_trans (grown_drew w1 none) (grown_alloc _ (.cells #[.int .i64 0, .int .i64 0, .slice none 0 0] 25) _)) hg5); obtain ⟨r0, r1, r2⟩ := three_cells hBk; have f0 := frozen_of_row w5 _ 0 _ _ hBk; have f1 := frozen_of_row w5 _ 1 _ _ hBk; have f2 := frozen_of_row w5 _ 2 _ _ hBk; have HBK := Lib.hid hBk; have HSZ := Lib.hid hg5.size; clear hTn Tk ho5 hg5 hBk)))
    all_goals (go_wp2_with fail; go_meet; first | exact ⟨w5.heap.size, .slice a5 len c5, rfl, ss_new HG.out HB.out HZ.out HG5.out HO5.out (by simp)⟩ | exact ⟨w1.heap.size, .slice a5 len c5, rfl, ss_set HG.out HB.out HZ.out HG5.out HO5.out (by simp) (Nat.le_refl _) HBK.out⟩)
  case rest =>
  obtain ⟨Bk, v, rfl, HS⟩ := hcut
  generalize wc = w4 at *
  obtain ⟨M, cM, rfl, hcM, hM0, _⟩ := HS.out.own.form hlen0
  clear q0 q1 q2 q3 hsz kS hTn hu0 HG HB HZ hg0
  go_wp2
  go_loopw [10, 11] (fun cv iv wr => ∃ (i c : Nat), i ≤ len ∧ iv = .int .i64 i ∧ cv = .int .i64 c ∧ c ≤ 256 * i ∧ Hid (SS w wr Bk r d (.slice (some ⟨M, 0, none⟩) len cM) len (mixM (scL u num den) xss i) (.cells #[.int .i64 r, .int .i64 d, .slice (some ⟨b, off, none⟩) len cap] 25) (.cells #[.int .i64 0, .int .i64 0, .slice none 0 0] 25) ∧ clM u num den (xss.take i) = c)) (fun _ iv _ => len - (intOf iv).toNat)
  case atStart => exact ⟨0, 0, Nat.zero_le _, rfl, rfl, Nat.zero_le _, (by rw [mixM_zero]; exact HS.out), rfl⟩
  case round =>
    obtain ⟨i, c, hi, rfl, rfl, hc6, HW⟩ := hrel
    obtain ⟨q0, q1, q2⟩ := three_cells HW.out.1.box
    by_cases hlt : i < len
    · obtain ⟨xs, hxk⟩ : ∃ xs, xss[i]? = some xs := ⟨_, List.getElem?_eq_getElem (by rw [HL.out]; exact hlt)⟩
      obtain ⟨ux, hux, a, cc, rfl, hin, hlc, hcm, _⟩ := HC.out i xs hxk
      have hxl := (HV.out.row i xs hxk).1
      rw [hxl] at hux hin hlc
      have q3 := HW.out.1.gr.cell hux (by simp)
      have HXK := Lib.hid hxk
      have HUX := Lib.hid hux
      have HIN := Lib.hid hin
      have hST : Hid (SS w wr Bk r d (.slice (some ⟨M, 0, none⟩) len cM) len ((mixM (scL u num den) xss i).set i (mixS (scx u num den) xs 0)) (.cells #[.int .i64 r, .int .i64 d, .slice (some ⟨b, off, none⟩) len cap] 25) (.cells #[.int .i64 0, .int .i64 0, .slice none 0 0] 25)) := by
        rw [mixS_zero, set_same (mixM_get hxk)]; exact HW.out.1
      clear hux hin hcm hxk
      go_wp2
      go_loopw [10, 12] (fun cv kv wx => ∃ (k c2 : Nat), k ≤ H ∧ kv = .int .i64 k ∧ cv = .int .i64 c2 ∧ c2 ≤ 256 * i + k ∧ Hid (SS w wx Bk r d (.slice (some ⟨M, 0, none⟩) len cM) len ((mixM (scL u num den) xss i).set i (mixS (scx u num den) xs k)) (.cells #[.int .i64 r, .int .i64 d, .slice (some ⟨b, off, none⟩) len cap] 25) (.cells #[.int .i64 0, .int .i64 0, .slice none 0 0] 25) ∧ c + clL u num den (xs.take k) = c2)) (fun _ kv _ => H - (intOf kv).toNat)
      case atStart => exact ⟨0, c, Nat.zero_le _, rfl, rfl, by omega, hST, rfl⟩
      case round =>
        clear q0 q1 q2 q3
        obtain ⟨k, c2, hk, rfl, rfl, hc7, HR⟩ := hrel
        obtain ⟨q0, q1, q2⟩ := three_cells HR.out.1.box
        have q3 := HR.out.1.gr.cell HUX.out (by simp)
        by_cases hkt : k < H
        · obtain ⟨x, hxj⟩ : ∃ x, xs[k]? = some x := ⟨_, List.getElem?_eq_getElem (by rw [(HV.out.row i xs HXK.out).1]; exact hkt)⟩
          obtain ⟨b2, off2, rfl, hcy⟩ := HIN.out.2.resolve_left (by intro e; subst e; simp at hxj)
          have hcx0 := hcy k x hxj
          have hb2 : b2 < w.heap.size := block_lt_of_cell hcx0
          have q4 := HR.out.1.gr.cell hcx0 (by simp)
          have hrow : ((mixM (scL u num den) xss i).set i (mixS (scx u num den) xs k))[i]? = some (mixS (scx u num den) xs k) := by rw [List.getElem?_set_self (by rw [mixM_len, HL.out]; exact hlt)]
          obtain ⟨g, c', m0, m1, m2, m3, m4, m5, m6, m7, ⟨cur, m8⟩, m9⟩ := HR.out.1.own.cellset2 hrow (mixS_get hxj)
          rw [mixS_len, (HV.out.row i xs HXK.out).1] at m0
          obtain ⟨k0, k1, k2⟩ := three_cells HR.out.1.blk
          have hgB : g ≠ Bk := by
            intro e; subst e
            rw [HR.out.1.blk] at m8
            simp at m8
          have hBk := HR.out.1.lo
          have hxr : -32768 ≤ x ∧ x ≤ 32768 := by have h1 := HV.out.num HXK.out hxj; have h2 := HV.out.pow.2; omega
          have kc := fun W => sScaled_any x num den u W hxr.1 hxr.2 hn1 hn2 hd1 hd2 hu15
          rw [← HV.out.dep] at kc
          have hne1 : Bk ≠ g := fun e => hgB e.symm
          have hne2 : w.heap.size ≠ g := by omega
          have hne3 : b ≠ g := by omega
          have hne4 : b2 ≠ g := by omega
          have HM9 := Lib.hid m9
          have hs2 := mixS_set (f := scx u num den) hxj
          have HS2 := Lib.hid hs2
          have HXJ := Lib.hid hxj
          have HC4 := Lib.hid hcx0
          obtain ⟨y, hy⟩ : ∃ y, scx u num den x = y := ⟨_, rfl⟩
          rw [hy] at kc
          have HY := Lib.hid hy
          clear hcy hcx0 m8 m9 hgB hs2 hxj hy hrow
          go_upto_region 11 with fail
          go_cut [12] from 47 to 103 (fun kk wx => kk = .int .i64 (k : Int) ∧ Hid (SS w wx Bk r d (.slice (some ⟨M, 0, none⟩) len cM) len ((mixM (scL u num den) xss i).set i (mixS (scx u num den) xs (k + 1))) (.cells #[.int .i64 r, .int .i64 d, .slice (some ⟨b, off, none⟩) len cap] 25) (.cells #[.int .i64 0, .int .i64 0, .slice none 0 0] 25) ∧ wx.cell? ⟨M, i, none⟩ = some (.slice (some ⟨g, 0, none⟩) H c') ∧ wx.cell? ⟨g, k, none⟩ = some (.int .i64 y)))
          case first =>
            go_wp2_with fail
            go_region_held3 (fun w' => w'.cell? ⟨Bk, 2, none⟩ = some (.slice (some ⟨M, 0, none⟩) len cM) ∧ w'.cell? ⟨M, i, none⟩ = some (.slice (some ⟨g, 0, none⟩) H c') ∧ w'.cell? ⟨w.heap.size, 2, none⟩ = some (.slice (some ⟨b, off, none⟩) len cap) ∧ w'.cell? ⟨b, off + i, none⟩ = some (.slice (some ⟨b2, off2, none⟩) H cc) ∧ w'.cell? ⟨b2, off2 + k, none⟩ = some (.int .i64 x) ∧ w'.cell? ⟨w.heap.size, 1, none⟩ = some (.int .i64 d)) (first | go_keep | exact ⟨by assumption, by assumption, by assumption, by assumption, by assumption, by assumption⟩ | exact ⟨cell_st1 (by assumption) (by assumption), cell_st1 (by assumption) (by assumption), cell_st1 (by assumption) (by assumption), cell_st1 (by assumption) (by assumption), cell_st1 (by assumption) (by assumption), cell_st1 (by assumption) (by assumption)⟩) ((go_at_call 53; refine (kc _).mono ?_; rintro e w5 ⟨rfl, mm, rfl⟩; have hTk : True := trivial; clear hTk))
            go_wp2_with fail
            go_meet
            have hz : ∀ q, (wr.setCell ⟨g, k, none⟩ (.int .i64 y)).grownBy ((wr.drewN q).setCell ⟨g, k, none⟩ (.int .i64 y)) none := fun q => ⟨rfl, rfl, rfl, Nat.le_refl _, fun _ _ _ => rfl⟩
            have h9 := HM9.out y
            rw [← HY.out, HS2.out] at h9
            rw [List.set_set, HY.out] at h9
            exact ⟨rfl, Lib.hid ⟨HR.out.1.store m5 hne1 h9 (hz _), (hz _).cell (cell_st1 m0 m7) (by simp), (hz _).cell (World.cell?_setCell_same' _ _ _ (by rw [m1]; rfl)) (by simp)⟩⟩
          case rest =>
          obtain ⟨rfl, HQ⟩ := hcut
          generalize wc = w6 at *
          clear q0 q1 q2 q3 q4 k0 k1 k2 m0 m1 m2
          obtain ⟨q0, q1, q2⟩ := three_cells HQ.out.1.box
          obtain ⟨k0, k1, k2⟩ := three_cells HQ.out.1.blk
          have q3 := HQ.out.1.gr.cell HUX.out (by simp)
          have q4 := HQ.out.1.gr.cell HC4.out (by simp)
          have m0 := HQ.out.2.1
          have m1 := HQ.out.2.2
          have hm := sc_mul hxr.1 hxr.2 hn1 hn2
          obtain ⟨p, hp⟩ : ∃ p, x * num = p := ⟨_, rfl⟩
          have e1 : 2 * x * num = 2 * p := by rw [Int.mul_assoc, hp]
          rw [hp] at hm
          have hm0 := hm.1
          have hm1 := hm.2
          have hf := fun W => sFloor_any (2 * p + den) (2 * den) W (by omega) (by omega) (by omega)
          have hw1 : IntKind.i64.wrap (2 * x * num) = 2 * p := by rw [e1]; exact IntWalk.i64_in _ (by omega)
          have hw2 : IntKind.i64.wrap (2 * p + den) = 2 * p + den := IntWalk.i64_in _ (by omega)
          have hw3 : IntKind.i64.wrap (2 * den) = 2 * den := IntWalk.i64_in _ (by omega)
          have hw4 : IntKind.i64.wrap (2 * x) = 2 * x := IntWalk.i64_in _ (by omega)
          obtain ⟨q, hqq⟩ : ∃ q, (2 * p + den) / (2 * den) = q := ⟨_, rfl⟩
          rw [hqq] at hf
          have HQC : Hid (qC den (x * num) = q) := by show _ = _; rw [hp]; exact hqq
          clear hm hp hqq e1
          by_cases hyq : y = q
          · have HT : Hid (SS w w6 Bk r d (.slice (some ⟨M, 0, none⟩) len cM) len ((mixM (scL u num den) xss i).set i (mixS (scx u num den) xs (k + 1))) (.cells #[.int .i64 r, .int .i64 d, .slice (some ⟨b, off, none⟩) len cap] 25) (.cells #[.int .i64 0, .int .i64 0, .slice none 0 0] 25) ∧ c + clL u num den (xs.take (k + 1)) = c2) := by
              refine ⟨HQ.out.1, ?_⟩
              rw [clL_take HXJ.out, ← Nat.add_assoc, HR.out.2, clx_eq (by rw [HY.out]; exact HQC.out.symm ▸ hyq)] <;> try rfl
            have hb : (y != q) = false := by simp [hyq]
            clear hyq
            go_wp2_with fail
            go_quiet ((go_at_call 54; exact Calls.quiet_of_same ((hf _).mono (fun _ _ h => ⟨h.1, h.2.symm⟩))))
            clear q0 q1 q2 q3 q4 k0 k1 k2 m0 m1 hf
            go_wp2
            go_roundw
            case rel => exact ⟨k + 1, c2, by omega, by go_num, by first | rfl | go_num, by omega, ss_drew HT.out.1 _, HT.out.2⟩
            case measure => simp [intOf]; omega
          · have HT : Hid (SS w w6 Bk r d (.slice (some ⟨M, 0, none⟩) len cM) len ((mixM (scL u num den) xss i).set i (mixS (scx u num den) xs (k + 1))) (.cells #[.int .i64 r, .int .i64 d, .slice (some ⟨b, off, none⟩) len cap] 25) (.cells #[.int .i64 0, .int .i64 0, .slice none 0 0] 25) ∧ c + clL u num den (xs.take (k + 1)) = (c2 + 1)) := by
              refine ⟨HQ.out.1, ?_⟩
              rw [clL_take HXJ.out, ← Nat.add_assoc, HR.out.2, clx_ne (by rw [HY.out]; exact HQC.out.symm ▸ hyq)] <;> try rfl
            have hb : (y != q) = true := by simp [hyq]
            clear hyq
            go_wp2_with fail
            go_quiet ((go_at_call 54; exact Calls.quiet_of_same ((hf _).mono (fun _ _ h => ⟨h.1, h.2.symm⟩))))
            clear q0 q1 q2 q3 q4 k0 k1 k2 m0 m1 hf
            go_wp2
            go_roundw
            case rel => exact ⟨k + 1, (c2 + 1), by omega, by go_num, by first | rfl | go_num, by omega, ss_drew HT.out.1 _, HT.out.2⟩
            case measure => simp [intOf]; omega
        · obtain rfl : k = H := by omega
          have HT : Hid (SS w ‹World› Bk r d (.slice (some ⟨M, 0, none⟩) len cM) len (mixM (scL u num den) xss (i + 1)) (.cells #[.int .i64 r, .int .i64 d, .slice (some ⟨b, off, none⟩) len cap] 25) (.cells #[.int .i64 0, .int .i64 0, .slice none 0 0] 25) ∧ clM u num den (xss.take (i + 1)) = c2) := by
            refine ⟨?_, ?_⟩
            · have := HR.out.1
              rw [mixS_full (by rw [(HV.out.row i xs HXK.out).1]; exact Nat.le_refl _)] at this
              rw [← mixM_set HXK.out]; exact this
            · rw [clM_take HXK.out, HW.out.2, ← HR.out.2, List.take_of_length_le (by rw [(HV.out.row i xs HXK.out).1]; exact Nat.le_refl _)]
          go_wp2
          go_roundw
          case rel => exact ⟨i + 1, c2, by omega, by go_num, rfl, by omega, HT⟩
          case measure => simp [intOf]; omega
    · obtain rfl : i = len := by omega
      have HF : Hid (MOwn wr (w.heap.size + 2) (.slice (some ⟨M, 0, none⟩) i cM) (xss.map (scL u num den)).length (xss.map (scL u num den)) ∧ w.grownBy wr none ∧ clM u num den xss = c) := by
        have h1 := HW.out.1.own
        have h2 := HW.out.2
        rw [mixM_full (by rw [HL.out]; exact Nat.le_refl _)] at h1
        rw [List.take_of_length_le (by rw [HL.out]; exact Nat.le_refl _)] at h2
        refine ⟨?_, HW.out.1.gr, h2⟩
        rw [List.length_map, HL.out]; exact h1
      have HCZ : Hid ((clM u num den xss : Int) = (c : Int)) := by show _ = _; rw [HF.out.2.2]
      obtain ⟨k0, k1, k2⟩ := three_cells HW.out.1.blk
      have hres := HW.out.1.res
      obtain ⟨z0, z1, z2⟩ := three_cells hres
      have f0 := frozen_of_row wr _ 0 _ _ hres
      have f1 := frozen_of_row wr _ 1 _ _ hres
      have f2 := frozen_of_row wr _ 2 _ _ hres
      clear HW hres
      go_wp2
      refine bodyPost_ret (v := .tuple #[.agg #[.int .i64 r, .int .i64 d, .slice (some ⟨M, 0, none⟩) i cM], .int .i64 (c : Int), .bool true]) (by simp [results, Try.results24, go_sem, z0, z1, z2]) rfl ⟨_, by rw [HCZ.out], ?_⟩
      exact own_an HF.out.1 HF.out.2.1 rfl
end Go.Proofs.Ythjelbanelmekaa
