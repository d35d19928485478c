/-
  The walk of 'FnScaleAudioSilence': it returns true and writes nothing that was there. For every code.
-/
import Derived.Test.YthjelbanelmekaaDrawLv
import Derived.Test.YthjelbanelmekaaEqA
import Derived.Test.YthjelbanelmekaaScI
import Derived.Test.YthjelbanelmekaaScP
import Derived.Test.YthjelbanelmekaaGnI
import Derived.Test.YthjelbanelmekaaMem
import Derived.Test.YthjelbanelmekaaCnt
import Derived.Deep.CutRange
import Derived.Deep.OwnRows
namespace Go.Proofs.Ythjelbanelmekaa
open Go.RowKit

theorem quiet_va {r d : Int} {xss : List (List Int)} {u H : Nat} (h : VA r d xss u H) : VA r d [List.replicate H 0] u H := by
  have hp := h.pow
  refine ⟨h.rate, h.dep, h.u3, h.u15, by simp, by simp, h.hh, fun k xs hk => ?_⟩
  match k, hk with
  | 0, hk =>
    simp at hk
    subst hk
    refine ⟨by simp, ?_⟩
    unfold allB
    rw [List.all_eq_true]
    intro x hx
    have := (List.mem_replicate.1 hx).2
    subst this
    exact inB_true (by omega) (by omega)
theorem quiet_sc {u H : Nat} {num den : Int} (hd : 1 ≤ den) : [List.replicate H (0 : Int)].map (scL u num den) = [List.replicate H 0] ∧ clM u num den [List.replicate H 0] = 0 := by
  refine ⟨?_, clM_zero (fun xs hx x hy => ?_)⟩
  · simp [scL, (sc_zero (u := u) (num := num) hd).2]
  · simp at hx
    subst hx
    rw [(List.mem_replicate.1 hy).2]
    exact (sc_zero hd).1
/-- The silence of one channel in three new blocks. -/
structure QS (w wx : World) (Bk M Zb H : Nat) (p q : Int) : Prop where
  gr : w.grownBy wx none
  lo : w.heap.size ≤ Bk
  blk : wx.heap[Bk]? = some (.cells #[.int .i64 p, .int .i64 q, .slice (some ⟨M, 0, none⟩) 1 1] 25 (0, 0))
  row : wx.heap[M]? = some (.cells #[.slice (some ⟨Zb, 0, none⟩) H H] 28 (0, 0))
  zer : wx.heap[Zb]? = some (.cells (madeCells #[.int .i64 0] H) 3 (0, 0))

theorem al_size {w : World} {o : Obj} : (w.alloc o).heap.size = w.heap.size + 1 := by simp
theorem al_old {w : World} {b : Nat} {o o' : Obj} (h : w.heap[b]? = some o) : (w.alloc o').heap[b]? = some o := (heap_alloc_old _ _ (block_lt h)).trans h
theorem al_new1 {w : World} {o o' : Obj} : ((w.alloc o).alloc o').heap[w.heap.size + 1]? = some o' := by
  have h := heap_alloc_new (w.alloc o) o'
  rw [al_size] at h; exact h
theorem al_new2 {w : World} {o o' o'' : Obj} : (((w.alloc o).alloc o').alloc o'').heap[w.heap.size + 1 + 1]? = some o'' := by
  have h := heap_alloc_new ((w.alloc o).alloc o') o''
  rw [al_size, al_size] at h; exact h
theorem grown_al3 {w w5 : World} {o o' o'' : Obj} (h : w.grownBy w5 none) : w.grownBy (((w5.alloc o).alloc o').alloc o'') none :=
  grown_trans (grown_trans (grown_trans h (grown_alloc _ _ _)) (grown_alloc _ _ _)) (grown_alloc _ _ _)
theorem qs_1 {w w5 : World} {H : Nat} {p q : Int} (h : w.grownBy w5 none) :
    QS w (((w5.alloc (.cells (madeCells #[.int .i64 0] H) 3)).alloc (.cells #[.slice (some ⟨w5.heap.size, 0, none⟩) H H] 28)).alloc (.cells #[.int .i64 p, .int .i64 q, .slice (some ⟨w5.heap.size + 1, 0, none⟩) 1 1] 25)) (w5.heap.size + 1 + 1) (w5.heap.size + 1) w5.heap.size H p q :=
  ⟨grown_al3 h, by have := h.size; omega, al_new2, al_old al_new1, al_old (al_old (heap_alloc_new _ _))⟩
theorem qs_2 {w w5 : World} {H : Nat} {p q : Int} (h : w.grownBy w5 none) :
    QS w (((w5.alloc (.cells (madeCells #[.int .i64 0] H) 3)).alloc (.cells #[.int .i64 p, .int .i64 q, .slice (some ⟨w5.heap.size + 1 + 1, 0, none⟩) 1 1] 25)).alloc (.cells #[.slice (some ⟨w5.heap.size, 0, none⟩) H H] 28)) (w5.heap.size + 1) (w5.heap.size + 1 + 1) w5.heap.size H p q :=
  ⟨grown_al3 h, by have := h.size; omega, al_old al_new1, al_new2, al_old (al_old (heap_alloc_new _ _))⟩
theorem qs_3 {w w5 : World} {H : Nat} {p q : Int} (h : w.grownBy w5 none) :
    QS w (((w5.alloc (.cells #[.int .i64 p, .int .i64 q, .slice (some ⟨w5.heap.size + 1 + 1, 0, none⟩) 1 1] 25)).alloc (.cells (madeCells #[.int .i64 0] H) 3)).alloc (.cells #[.slice (some ⟨w5.heap.size + 1, 0, none⟩) H H] 28)) w5.heap.size (w5.heap.size + 1 + 1) (w5.heap.size + 1) H p q :=
  ⟨grown_al3 h, h.size, al_old (al_old (heap_alloc_new _ _)), al_new2, al_old al_new1⟩
theorem qs_4 {w w5 : World} {H : Nat} {p q : Int} {x y z : Value} (h : w.grownBy w5 none) (hk : w5.heap[w.heap.size]? = some (.cells #[x, y, z] 25 (0, 0))) :
    QS w (((((w5.alloc (.cells (madeCells #[.int .i64 0] H) 3)).alloc (.cells #[.slice (some ⟨w5.heap.size, 0, none⟩) H H] 28)).setCell ⟨w.heap.size, 0, none⟩ (.int .i64 p)).setCell ⟨w.heap.size, 1, none⟩ (.int .i64 q)).setCell ⟨w.heap.size, 2, none⟩ (.slice (some ⟨w5.heap.size + 1, 0, none⟩) 1 1)) w.heap.size (w5.heap.size + 1) w5.heap.size H p q := by
  have hlt := block_lt hk
  refine ⟨grown_set (grown_set (grown_set (grown_trans (grown_trans h (grown_alloc _ _ _)) (grown_alloc _ _ _)) (Nat.le_refl _)) (Nat.le_refl _)) (Nat.le_refl _), Nat.le_refl _, heap_st3 (al_old (al_old hk)), ?_, ?_⟩
  · rw [heap_far3 (by omega)]; exact al_new1
  · rw [heap_far3 (by omega)]; exact al_old (heap_alloc_new _ _)
theorem qs_mat {w wx : World} {Bk M Zb H : Nat} {p q : Int} (h : QS w wx Bk M Zb H p q) (hH : H ≤ 256) : Mat wx (some ⟨M, 0, none⟩) 1 [List.replicate H 0] := by
  refine ⟨rfl, Or.inr ⟨M, 0, rfl, fun k xs hk => ?_⟩⟩
  match k, hk with
  | 0, hk =>
    simp at hk
    subst hk
    refine ⟨_, (by show wx.cell? ⟨M, 0, none⟩ = _; rw [cell_of_row wx M 0 _ _ _ h.row]; rfl), some ⟨Zb, 0, none⟩, H, by simp, ⟨rfl, Or.inr ⟨Zb, 0, rfl, fun j x hj => ?_⟩⟩, by simp, by omega, by simp⟩
    have hj2 := (List.getElem?_eq_some_iff.1 hj).1
    rw [List.length_replicate] at hj2
    rw [List.getElem?_replicate, if_pos hj2] at hj
    injection hj with hj
    subst hj
    rw [Nat.zero_add, cell_of_row wx Zb j _ _ _ h.zer, ← Array.getElem?_toList, part_zero (List.replicate H 0) H]
    unfold part
    rw [List.take_zero, List.map_nil, List.nil_append, Nat.sub_zero, List.getElem?_replicate, if_pos hj2]
  | k + 1, hk => cases hk
theorem Mem.add {w0 w wx : World} {L : List (Nat × Obj)} {b : Nat} {o : Obj} (m : Mem w0 w L) (hg : w.grownBy wx none) (hb : w.heap.size ≤ b) (h : wx.heap[b]? = some o) : Mem w0 wx (L ++ [(b, o)]) := by
  refine ⟨grown_trans m.g hg, ?_, nodup_add m.n (by simp) m.lt (by simpa using hb), ?_⟩
  · intro p hp
    rcases List.mem_append.1 hp with h2 | h2
    · exact grown_heap hg (m.h p h2) (by simp)
    · simp at h2; subst h2; exact h
  · intro p hp
    rcases List.mem_append.1 hp with h2 | h2
    · exact m.lo p h2
    · simp at h2; subst h2; exact Nat.le_trans m.g.size hb
theorem sc_quiet {M H : Nat} {p q x0 x1 : Int} (W : World) (hx : Mat W (some ⟨M, 0, none⟩) 1 [List.replicate H 0]) (hs : szL [List.replicate H 0] ≤ 1048576) (hv : ScR p q x0 x1 [List.replicate H 0] p q [List.replicate H 0] 0 true) :
    Calls Try.prog 23 #[.agg #[.int .i64 p, .int .i64 q, .slice (some ⟨M, 0, none⟩) 1 1], .int .i64 x0, .int .i64 x1] W fun e w' => ∃ (a : Option Addr) (c : Nat), e = .returned (.tuple #[.agg #[.int .i64 p, .int .i64 q, .slice a 1 c], .int .i64 0, .bool true]) ∧ Mat w' a 1 [List.replicate H 0] ∧ W.grownBy w' none := by
  refine (iSc_any [List.replicate H 0] (some ⟨M, 0, none⟩) 1 1 p q x0 x1 W p q 0 [List.replicate H 0] true hx hs hv).mono ?_
  rintro e w' ⟨v, rfl, ho, hg⟩
  have ho2 : MOwn w' W.heap.size v 1 [List.replicate H 0] := ho
  obtain ⟨a, c, rfl, _, _, hm, _⟩ := ho2.reads
  exact ⟨a, c, rfl, hm, hg⟩
set_option maxRecDepth 100000 in
set_option maxHeartbeats 4000000 in
theorem FnScaleAudioSilence_walk (ao : Option Addr) (len cap : Nat) (w : World) (hb : BytesAt w ao len) (hlc : len ≤ cap) (hmax : len ≤ 9223372036854775807) :
    Calls Try.prog 8 #[.slice ao len cap] w (Holds w) := by
  by_cases hlen : 1048576 < len
  · clear hb
    go_enter Try.func8, Try.ntmps8
    go_wp2
    go_ret
    exact ⟨rfl, grown_refl _ _⟩
  have hd := drawSc_any ao len cap w hb hlc hmax
  have hm : decide (1048576 < (len : Int)) = false := by simp; omega
  clear hb hlen
  go_enter Try.func8, Try.ntmps8
  go_wp2_with fail
  refine hd.mono ?_
  rintro e w1 ⟨p, q, a, l, c, xss, x0, x1, rfl, hx0, hx1, hmat, hl2, hs2, hg1⟩
  obtain rfl := hmat.1
  have HM := Lib.hid (((Mem.start w).grown hg1).block (.cells #[.int .i64 p, .int .i64 q, .slice a xss.length c] 25))
  have HX := Lib.hid (hmat.grown (grown_alloc w1 (.cells #[.int .i64 p, .int .i64 q, .slice a xss.length c] 25) none))
  have hsz : szL xss ≤ 1048576 := by omega
  clear hd hmat hg1
  have hx0b : 0 ≤ x0 ∧ x0 ≤ 300 := by simp at hx0; omega
  have hx00 := hx0b.1
  have hx01 := hx0b.2
  clear hx0 hx0b
  have hx1b : 0 ≤ x1 ∧ x1 ≤ 300 := by simp at hx1; omega
  have hx10 := hx1b.1
  have hx11 := hx1b.2
  clear hx1 hx1b
  obtain ⟨rr, dd, yss, nn, ok, hS⟩ := ScR_there p q x0 x1 xss
  have hszy : szL yss ≤ 1048576 := Nat.le_trans (ScR_sz hS) hsz
  have HS := Lib.hid hS
  clear hS
  obtain ⟨q00, q01, q02⟩ := three_cells (HM.out.get (b := w1.heap.size) (o := .cells #[.int .i64 p, .int .i64 q, .slice a xss.length c] 25) (by simp))
  go_wp2_with fail
  refine (iSc_any xss a xss.length c p q x0 x1 _ rr dd nn yss ok HX.out hsz HS.out).mono ?_
  rintro e w2 ⟨v2, rfl, ho2, hg2⟩
  obtain ⟨a2, c2, rfl, _, _, hm2, _⟩ := ho2.reads
  replace HM := Lib.hid ((HM.out.grown hg2).block (.cells #[.int .i64 rr, .int .i64 dd, .slice a2 yss.length c2] 25))
  replace HX := Lib.hid ((HX.out.grown hg2).grown (grown_alloc w2 (.cells #[.int .i64 rr, .int .i64 dd, .slice a2 yss.length c2] 25) none))
  have HY : Hid (Mat (w2.alloc (.cells #[.int .i64 rr, .int .i64 dd, .slice a2 yss.length c2] 25)) a2 yss.length yss) := by
    have h := hm2.grown (grown_alloc w2 (.cells #[.int .i64 rr, .int .i64 dd, .slice a2 yss.length c2] 25) none)
    first | exact h | (simp only [List.length_map] at h; exact h)
  clear q00 q01 q02 hg2 ho2 hm2
  obtain ⟨q00, q01, q02⟩ := three_cells (HM.out.get (b := w1.heap.size) (o := .cells #[.int .i64 p, .int .i64 q, .slice a xss.length c] 25) (by simp))
  obtain ⟨q10, q11, q12⟩ := three_cells (HM.out.get (b := w2.heap.size) (o := .cells #[.int .i64 rr, .int .i64 dd, .slice a2 yss.length c2] 25) (by simp))
  go_wp2_with fail
  refine (sSc_any xss a xss.length c p q x0 x1 _ rr dd nn yss ok HX.out hsz HS.out).mono ?_
  rintro e w3 ⟨v3, rfl, ho3, hg3⟩
  obtain ⟨a3, c3, rfl, _, _, hm3, _⟩ := ho3.reads
  replace HM := Lib.hid ((HM.out.grown hg3).block (.cells #[.int .i64 rr, .int .i64 dd, .slice a3 yss.length c3] 25))
  replace HX := Lib.hid ((HX.out.grown hg3).grown (grown_alloc w3 (.cells #[.int .i64 rr, .int .i64 dd, .slice a3 yss.length c3] 25) none))
  replace HY := Lib.hid ((HY.out.grown hg3).grown (grown_alloc w3 (.cells #[.int .i64 rr, .int .i64 dd, .slice a3 yss.length c3] 25) none))
  have HW : Hid (Mat (w3.alloc (.cells #[.int .i64 rr, .int .i64 dd, .slice a3 yss.length c3] 25)) a3 yss.length yss) := by
    have h := hm3.grown (grown_alloc w3 (.cells #[.int .i64 rr, .int .i64 dd, .slice a3 yss.length c3] 25) none)
    first | exact h | (simp only [List.length_map] at h; exact h)
  clear q00 q01 q02 q10 q11 q12 hg3 ho3 hm3
  obtain ⟨q00, q01, q02⟩ := three_cells (HM.out.get (b := w1.heap.size) (o := .cells #[.int .i64 p, .int .i64 q, .slice a xss.length c] 25) (by simp))
  obtain ⟨q10, q11, q12⟩ := three_cells (HM.out.get (b := w2.heap.size) (o := .cells #[.int .i64 rr, .int .i64 dd, .slice a2 yss.length c2] 25) (by simp))
  obtain ⟨q20, q21, q22⟩ := three_cells (HM.out.get (b := w3.heap.size) (o := .cells #[.int .i64 rr, .int .i64 dd, .slice a3 yss.length c3] 25) (by simp))
  go_wp2_with fail
  refine (equalAudio_same yss a2 a3 _ c2 c3 rr dd _ HY.out HW.out hszy).mono ?_
  rintro e w4 ⟨rfl, hg4⟩
  replace HM := Lib.hid (HM.out.grown hg4)
  replace HX := Lib.hid (HX.out.grown hg4)
  replace HY := Lib.hid (HY.out.grown hg4)
  replace HW := Lib.hid (HW.out.grown hg4)
  clear q00 q01 q02 q10 q11 q12 q20 q21 q22 hg4
  cases ok with
  | false =>
    obtain ⟨q00, q01, q02⟩ := three_cells (HM.out.get (b := w1.heap.size) (o := .cells #[.int .i64 p, .int .i64 q, .slice a xss.length c] 25) (by simp))
    obtain ⟨q10, q11, q12⟩ := three_cells (HM.out.get (b := w2.heap.size) (o := .cells #[.int .i64 rr, .int .i64 dd, .slice a2 yss.length c2] 25) (by simp))
    obtain ⟨q20, q21, q22⟩ := three_cells (HM.out.get (b := w3.heap.size) (o := .cells #[.int .i64 rr, .int .i64 dd, .slice a3 yss.length c3] 25) (by simp))
    go_wp2_with fail
    refine (equalAudio_same yss a2 a3 _ c2 c3 rr dd _ HY.out HW.out hszy).mono ?_
    rintro e w5 ⟨rfl, hg5⟩
    replace HM := Lib.hid (HM.out.grown hg5)
    replace HX := Lib.hid (HX.out.grown hg5)
    replace HY := Lib.hid (HY.out.grown hg5)
    replace HW := Lib.hid (HW.out.grown hg5)
    clear q00 q01 q02 q10 q11 q12 q20 q21 q22 hg5
    obtain ⟨q00, q01, q02⟩ := three_cells (HM.out.get (b := w1.heap.size) (o := .cells #[.int .i64 p, .int .i64 q, .slice a xss.length c] 25) (by simp))
    obtain ⟨q10, q11, q12⟩ := three_cells (HM.out.get (b := w2.heap.size) (o := .cells #[.int .i64 rr, .int .i64 dd, .slice a2 yss.length c2] 25) (by simp))
    obtain ⟨q20, q21, q22⟩ := three_cells (HM.out.get (b := w3.heap.size) (o := .cells #[.int .i64 rr, .int .i64 dd, .slice a3 yss.length c3] 25) (by simp))
    go_wp2
    go_ret
    exact ⟨rfl, HM.out.g⟩
  | true =>
  obtain ⟨rfl, rfl, hn1, hn2, hd1, hd2, u, H, hV, rfl, rfl⟩ : p = rr ∧ q = dd ∧ 1 ≤ x0 ∧ x0 ≤ 64 ∧ 1 ≤ x1 ∧ x1 ≤ 64 ∧ ∃ u H, VA p q xss u H ∧ yss = xss.map (scL u x0 x1) ∧ nn = (clM u x0 x1 xss : Int) := by
    rcases HS.out with ⟨_, h2, h3, h4, h5, u, H, hV, h6, h7⟩ | ⟨h1, _⟩
    · exact ⟨h2.symm, h3.symm, h4.1, h4.2, h5.1, h5.2, u, H, hV, h6, h7⟩
    · cases h1
  have HV := Lib.hid hV
  clear hV
  rw [show (xss.map (scL u x0 x1)).length = xss.length from List.length_map _] at HM HY HW
  have hHH := HV.out.hh
  have HHD : Hid ((xss.headD []).length = H) := HV.out.hd
  have hqv := quiet_va HV.out
  have HQV := Lib.hid hqv
  have hS2 := scR_of hqv hn1 hn2 hd1 hd2
  rw [(quiet_sc (u := u) (H := H) hd1).1, (quiet_sc (u := u) (H := H) hd1).2] at hS2
  have HS2 : Hid (ScR p q x0 x1 [List.replicate H 0] p q [List.replicate H 0] 0 true) := hS2
  have hszq : szL [List.replicate H 0] ≤ 1048576 := by rw [show szL [List.replicate H (0 : Int)] = 1 + H by simp [szL]]; omega
  have HGQ : Hid (gnV p q [List.replicate H 0] x1 = 64) := by
    show _ = _
    rw [gnV_yes hqv hd1 hd2, gS_zero u x1 _ (fun j _ => (quiet_sc (u := u) (H := H) hd1).2)]; rfl
  clear hqv hS2
  obtain ⟨q00, q01, q02⟩ := three_cells (HM.out.get (b := w1.heap.size) (o := .cells #[.int .i64 p, .int .i64 q, .slice a xss.length c] 25) (by simp))
  obtain ⟨q10, q11, q12⟩ := three_cells (HM.out.get (b := w2.heap.size) (o := .cells #[.int .i64 p, .int .i64 q, .slice a2 xss.length c2] 25) (by simp))
  obtain ⟨q20, q21, q22⟩ := three_cells (HM.out.get (b := w3.heap.size) (o := .cells #[.int .i64 p, .int .i64 q, .slice a3 xss.length c3] 25) (by simp))
  have hmk := run_make_row' (P := Try.prog) 28 3 (.int .i64 0) 8 Try.underlying28 info_int rfl .i64 .i64 H (by omega) (by omega)
  have kC := fun W (hgW : w4.grownBy W none) => lCount_any xss a xss.length c H p q W (HX.out.grown hgW) HHD.out
  have hb1 := block_lt (HM.out.get (b := w1.heap.size) (o := .cells #[.int .i64 p, .int .i64 q, .slice a xss.length c] 25) (by simp))
  have hTn : True := trivial
  go_upto_region 8 with fail
  go_cut [12] from 72 to 80 (fun aa wx => ∃ (Bk M Zb : Nat), aa = .pointer (some ⟨Bk, 0, none⟩) ∧ Hid (QS w4 wx Bk M Zb H p q))
  case first =>
    go_wp2_with fail
    go_region_held3 (fun w' => w'.cell? ⟨w1.heap.size, 0, none⟩ = some (.int .i64 p) ∧ w'.cell? ⟨w1.heap.size, 1, none⟩ = some (.int .i64 q) ∧ w'.cell? ⟨w1.heap.size, 2, none⟩ = some (.slice a xss.length c)) (first | (refine ⟨?_, ?_, ?_⟩ <;> ((repeat (first | with_reducible assumption | with_reducible refine cell_al ?_ | with_reducible refine cell_st3 ?_ (by simp; omega))); done)) | go_keep) ((first
      | (go_at_call 18; have Tk := hTn; refine (kC _ (grown_drew w4 none)).mono ?_; rintro e w5 ⟨rfl, hg5⟩; have hz5 := hg5.size; have hS0 := hg5.cell q00 (by simp); have hS1 := hg5.cell q01 (by simp); have hS2 := hg5.cell q02 (by simp); have HG5 := Lib.hid (grown_trans (grown_drew w4 none) hg5); clear hTn Tk hg5)
      | (go_at_call 18; have Tk := hTn; refine (kC _ (grown_trans (grown_drew w4 none) (grown_alloc _ (.cells #[.int .i64 0, .int .i64 0, .slice none 0 0] 25) none))).mono ?_; rintro e w5 ⟨rfl, hg5⟩; have hz5 := hg5.size; have hS0 := hg5.cell (cell_al q00) (by simp); have hS1 := hg5.cell (cell_al q01) (by simp); have hS2 := hg5.cell (cell_al q02) (by simp); have hBk : w5.heap[w4.heap.size]? = some (.cells #[.int .i64 0, .int .i64 0, .slice none 0 0] 25) := grown_heap hg5 (heap_alloc_new w4.drew (.cells #[.int .i64 0, .int .i64 0, .slice none 0 0] 25)) (by simp); have HG5 := Lib.hid (grown_trans (grown_trans (grown_drew w4 none) (grown_alloc _ (.cells #[.int .i64 0, .int .i64 0, .slice none 0 0] 25) _)) hg5); have hBl : (((w5.alloc (.cells (madeCells #[.int .i64 0] H) 3)).alloc (.cells #[.slice (some ⟨w5.heap.size, 0, none⟩) H H] 28)).heap[w4.heap.size]? = some (.cells #[.int .i64 0, .int .i64 0, .slice none 0 0] 25)) := (heap_alloc_old _ _ (block_lt ((heap_alloc_old _ _ (block_lt hBk)).trans hBk))).trans ((heap_alloc_old _ _ (block_lt hBk)).trans hBk); obtain ⟨r0, r1, r2⟩ := three_cells hBl; have f0 := frozen_of_row _ _ 0 _ _ hBl; have f1 := frozen_of_row _ _ 1 _ _ hBl; have f2 := frozen_of_row _ _ 2 _ _ hBl; have HBK := Lib.hid hBk; clear hTn Tk hg5 hBk hBl)))
    all_goals (go_wp2_with fail; go_meet; first | exact ⟨_, _, _, rfl, qs_1 HG5.out⟩ | exact ⟨_, _, _, rfl, qs_2 HG5.out⟩ | exact ⟨_, _, _, rfl, qs_3 HG5.out⟩ | exact ⟨_, _, _, rfl, qs_4 HG5.out HBK.out⟩)
  case rest =>
  obtain ⟨Bk, M, Zb, rfl, HQ⟩ := hcut
  generalize wc = w5 at *
  clear q00 q01 q02 q10 q11 q12 q20 q21 q22 hmk kC hb1 hTn
  have HQM := Lib.hid (qs_mat HQ.out hHH)
  replace HM := Lib.hid (HM.out.add HQ.out.gr HQ.out.lo HQ.out.blk)
  replace HX := Lib.hid (HX.out.grown HQ.out.gr)
  obtain ⟨q00, q01, q02⟩ := three_cells (HM.out.get (b := w1.heap.size) (o := .cells #[.int .i64 p, .int .i64 q, .slice a xss.length c] 25) (by simp))
  obtain ⟨q10, q11, q12⟩ := three_cells (HM.out.get (b := w2.heap.size) (o := .cells #[.int .i64 p, .int .i64 q, .slice a2 xss.length c2] 25) (by simp))
  obtain ⟨q20, q21, q22⟩ := three_cells (HM.out.get (b := w3.heap.size) (o := .cells #[.int .i64 p, .int .i64 q, .slice a3 xss.length c3] 25) (by simp))
  obtain ⟨q30, q31, q32⟩ := three_cells (HM.out.get (b := Bk) (o := .cells #[.int .i64 p, .int .i64 q, .slice (some ⟨M, 0, none⟩) 1 1] 25) (by simp))
  go_wp2_with fail
  refine (sc_quiet _ HQM.out hszq HS2.out).mono ?_
  rintro e w6 ⟨a6, c6, rfl, hm6, hg6⟩
  replace HM := Lib.hid ((HM.out.grown hg6).block (.cells #[.int .i64 p, .int .i64 q, .slice a6 1 c6] 25))
  replace HX := Lib.hid ((HX.out.grown hg6).grown (grown_alloc w6 (.cells #[.int .i64 p, .int .i64 q, .slice a6 1 c6] 25) none))
  replace HQM := Lib.hid ((HQM.out.grown hg6).grown (grown_alloc w6 (.cells #[.int .i64 p, .int .i64 q, .slice a6 1 c6] 25) none))
  have HU := Lib.hid (hm6.grown (grown_alloc w6 (.cells #[.int .i64 p, .int .i64 q, .slice a6 1 c6] 25) none))
  clear hg6 hm6 HQ q00 q01 q02 q10 q11 q12 q20 q21 q22 q30 q31 q32
  obtain ⟨q00, q01, q02⟩ := three_cells (HM.out.get (b := w1.heap.size) (o := .cells #[.int .i64 p, .int .i64 q, .slice a xss.length c] 25) (by simp))
  obtain ⟨q10, q11, q12⟩ := three_cells (HM.out.get (b := w2.heap.size) (o := .cells #[.int .i64 p, .int .i64 q, .slice a2 xss.length c2] 25) (by simp))
  obtain ⟨q20, q21, q22⟩ := three_cells (HM.out.get (b := w3.heap.size) (o := .cells #[.int .i64 p, .int .i64 q, .slice a3 xss.length c3] 25) (by simp))
  obtain ⟨q30, q31, q32⟩ := three_cells (HM.out.get (b := Bk) (o := .cells #[.int .i64 p, .int .i64 q, .slice (some ⟨M, 0, none⟩) 1 1] 25) (by simp))
  obtain ⟨q40, q41, q42⟩ := three_cells (HM.out.get (b := w6.heap.size) (o := .cells #[.int .i64 p, .int .i64 q, .slice a6 1 c6] 25) (by simp))
  go_wp2_with fail
  refine (equalAudio_same [List.replicate H 0] a6 (some ⟨M, 0, none⟩) _ c6 1 p q _ HU.out HQM.out hszq).mono ?_
  rintro e w7 ⟨rfl, hg7⟩
  replace HM := Lib.hid (HM.out.grown hg7)
  replace HX := Lib.hid (HX.out.grown hg7)
  replace HQM := Lib.hid (HQM.out.grown hg7)
  replace HU := Lib.hid (HU.out.grown hg7)
  clear q00 q01 q02 q10 q11 q12 q20 q21 q22 q30 q31 q32 q40 q41 q42 hg7
  obtain ⟨q00, q01, q02⟩ := three_cells (HM.out.get (b := w1.heap.size) (o := .cells #[.int .i64 p, .int .i64 q, .slice a xss.length c] 25) (by simp))
  obtain ⟨q10, q11, q12⟩ := three_cells (HM.out.get (b := w2.heap.size) (o := .cells #[.int .i64 p, .int .i64 q, .slice a2 xss.length c2] 25) (by simp))
  obtain ⟨q20, q21, q22⟩ := three_cells (HM.out.get (b := w3.heap.size) (o := .cells #[.int .i64 p, .int .i64 q, .slice a3 xss.length c3] 25) (by simp))
  obtain ⟨q30, q31, q32⟩ := three_cells (HM.out.get (b := Bk) (o := .cells #[.int .i64 p, .int .i64 q, .slice (some ⟨M, 0, none⟩) 1 1] 25) (by simp))
  obtain ⟨q40, q41, q42⟩ := three_cells (HM.out.get (b := w6.heap.size) (o := .cells #[.int .i64 p, .int .i64 q, .slice a6 1 c6] 25) (by simp))
  go_wp2_with fail
  refine (iGn_any [List.replicate H 0] (some ⟨M, 0, none⟩) 1 1 p q x1 _ 64 HQM.out hszq HGQ.out).mono ?_
  rintro e w8 ⟨rfl, hg8⟩
  replace HM := Lib.hid (HM.out.grown hg8)
  replace HX := Lib.hid (HX.out.grown hg8)
  replace HQM := Lib.hid (HQM.out.grown hg8)
  replace HU := Lib.hid (HU.out.grown hg8)
  clear q00 q01 q02 q10 q11 q12 q20 q21 q22 q30 q31 q32 q40 q41 q42 hg8
  obtain ⟨q00, q01, q02⟩ := three_cells (HM.out.get (b := w1.heap.size) (o := .cells #[.int .i64 p, .int .i64 q, .slice a xss.length c] 25) (by simp))
  obtain ⟨q10, q11, q12⟩ := three_cells (HM.out.get (b := w2.heap.size) (o := .cells #[.int .i64 p, .int .i64 q, .slice a2 xss.length c2] 25) (by simp))
  obtain ⟨q20, q21, q22⟩ := three_cells (HM.out.get (b := w3.heap.size) (o := .cells #[.int .i64 p, .int .i64 q, .slice a3 xss.length c3] 25) (by simp))
  obtain ⟨q30, q31, q32⟩ := three_cells (HM.out.get (b := Bk) (o := .cells #[.int .i64 p, .int .i64 q, .slice (some ⟨M, 0, none⟩) 1 1] 25) (by simp))
  obtain ⟨q40, q41, q42⟩ := three_cells (HM.out.get (b := w6.heap.size) (o := .cells #[.int .i64 p, .int .i64 q, .slice a6 1 c6] 25) (by simp))
  go_wp2
  go_ret
  exact ⟨rfl, HM.out.g⟩

end Go.Proofs.Ythjelbanelmekaa
