/-
  The walk of 'FnExactJoinBits': it returns true and writes nothing that was there. For all arguments.
-/
import Derived.Test.YtcgcippniicaaaaDoorSJoin2
import Derived.Test.YtcgcippniicaaaaDoorExPut
import Derived.Deep.RegionHeld3
import Derived.Deep.RegionWith
import Derived.Deep.CutRange
namespace Go.Proofs.YtcgcippniicaaaaDoor
open Go.RowKit

theorem cell_al {w : World} {a : Addr} {v : Value} {o : Obj} (h : w.cell? a = some v) : (w.alloc o).cell? a = some v := (World.cell?_of_block (heap_alloc_old _ _ (block_lt_of_cell h))).trans h
theorem cell_st {w : World} {a b c : Addr} {v x y : Value} (h : w.cell? a = some v) (h1 : a.block ≠ b.block) (h2 : a.block ≠ c.block) : ((w.setCell b x).setCell c y).cell? a = some v := by rw [cell_far _ _ _ _ h2, cell_far _ _ _ _ h1]; exact h
theorem Mem.perm {w0 w : World} {L L' : List (Nat × Obj)} (m : Mem w0 w L) (h : L'.Perm L) : Mem w0 w L' :=
  ⟨m.g, fun q hq => m.h q (h.mem_iff.1 hq), ((h.map (·.1)).nodup_iff).2 m.n, fun q hq => m.lo q (h.mem_iff.1 hq)⟩
theorem perm_mid {α : Type} (A C : List α) (x : α) : (A ++ [x] ++ C).Perm (A ++ C ++ [x]) := by
  rw [List.append_assoc, List.append_assoc]; exact List.Perm.append_left _ List.perm_append_comm
theorem Mem.set2 {w0 w : World} {A C : List (Nat × Obj)} {b : Nat} {x y : Value} {t : TypeId} (m : Mem w0 w (A ++ [(b, .cells #[x, y] t)] ++ C)) (x' y' : Value) : Mem w0 ((w.setCell ⟨b, 0, none⟩ x').setCell ⟨b, 1, none⟩ y') (A ++ [(b, .cells #[x', y'] t)] ++ C) := by
  have hb : w.heap[b]? = some (.cells #[x, y] t) := m.h (b, _) (by simp)
  have hlo : w0.heap.size ≤ b := m.lo (b, .cells #[x, y] t) (by simp)
  have h1 := heap_setCell_same w b 0 _ _ x' hb
  have h2 := heap_setCell_same _ b 1 _ _ y' h1
  have hgg : w.grownBy ((w.setCell ⟨b, 0, none⟩ x').setCell ⟨b, 1, none⟩ y') (some b) := grown_trans (grown_setCell w ⟨b, 0, none⟩ _) (grown_setCell _ ⟨b, 1, none⟩ _)
  have hn := m.n
  simp only [List.map_append, List.map_cons, List.map_nil] at hn
  have hnd := hn
  rw [List.nodup_append, List.nodup_append] at hn
  obtain ⟨⟨_, _, hA⟩, _, hB⟩ := hn
  refine ⟨grown_new m.g hgg hlo, ?_, by simpa using hnd, ?_⟩
  · intro q hq
    rcases List.mem_append.1 hq with hq | hq
    · rcases List.mem_append.1 hq with hq | hq
      · refine grown_heap hgg (m.h q (by simp [hq])) (fun e => ?_)
        injection e with e
        exact hA q.1 (List.mem_map.2 ⟨q, hq, rfl⟩) b (by simp) e.symm
      · simp at hq; subst hq; rw [h2]; rfl
    · refine grown_heap hgg (m.h q (by simp [hq])) (fun e => ?_)
      injection e with e
      exact hB b (by simp) q.1 (List.mem_map.2 ⟨q, hq, rfl⟩) e
  · intro q hq
    rcases List.mem_append.1 hq with hq | hq
    · rcases List.mem_append.1 hq with hq | hq
      · exact m.lo q (by simp [hq])
      · simp at hq; subst hq; exact hlo
    · exact m.lo q (by simp [hq])

theorem joinE (xs0 xs1 : List Int) (a0 a1 : Int) (len0 len1 : Nat) (h0 : len0 ≤ 1048576) (h1 : len1 ≤ 1048576) : ∃ (ys : List Int) (n : Nat) (c : Int) (v : Bool), n ≤ 1000000 ∧
    Hid (∀ (ao bo : Option Addr) (ca cb_ : Nat) (w : World), Ints w ao len0 xs0 → len0 ≤ ca → (ao = none → ca = 0) → Ints w bo len1 xs1 → len1 ≤ cb_ → (bo = none → cb_ = 0) → Calls Tryd.prog 22 #[.agg #[.slice ao len0 ca, .int .i64 a0], .agg #[.slice bo len1 cb_, .int .i64 a1]] w (MadeSB ys n c v w)) ∧
    Hid (∀ (ao bo : Option Addr) (ca cb_ : Nat) (w : World), Ints w ao len0 xs0 → len0 ≤ ca → (ao = none → ca = 0) → Ints w bo len1 xs1 → len1 ≤ cb_ → (bo = none → cb_ = 0) → ErrsJ w → Calls Tryd.prog 21 #[.agg #[.slice ao len0 ca, .int .i64 a0], .agg #[.slice bo len1 cb_, .int .i64 a1]] w (MadeSB ys n c v w)) := by
  obtain ⟨o, ho, hS, hI, _, _⟩ := join_both xs0 xs1 a0 a1 len0 len1 (by omega) (by omega)
  obtain ⟨ys, n, c', v, hn, hm⟩ := gave_made ho
  exact ⟨ys, n, c', v, hn, fun ao bo ca cb_ w hx _ hnn hy _ _ => (hS.out ao bo ca cb_ w hx hnn hy).mono (fun e w' h => hm w e w' h), fun ao bo ca cb_ w hx _ hnn hy _ _ hE => (hI.out ao bo ca cb_ w hx hnn hy hE).mono (fun e w' h => hm w e w' h)⟩

set_option maxRecDepth 100000 in
set_option maxHeartbeats 4000000 in
theorem FnExactJoinBits_walk (ao0 : Option Addr) (len0 cap0 : Nat) (a0 : Int) (ao1 : Option Addr) (len1 cap1 : Nat) (a1 : Int) (w : World) (xs0 : List Int) (hx0 : Ints w ao0 len0 xs0) (hmax0 : len0 ≤ 9223372036854775807) (xs1 : List Int) (hx1 : Ints w ao1 len1 xs1) (hmax1 : len1 ≤ 9223372036854775807) (hE : ErrsJ w) :
    Calls Tryd.prog 12 #[.agg #[.slice ao0 len0 cap0, .int .i64 a0], .agg #[.slice ao1 len1 cap1, .int .i64 a1]] w (Holds w) := by
  have HM := Lib.hid (((Mem.start w).block (.cells #[.slice ao0 len0 cap0, .int .i64 a0] 40)).block (.cells #[.slice ao1 len1 cap1, .int .i64 a1] 40))
  by_cases hlen0 : 1048576 < len0
  · have ksz := szBits_any ao0 len0 cap0 a0 1048576 _ ((w.alloc (.cells #[.slice ao0 len0 cap0, .int .i64 a0] 40)).alloc (.cells #[.slice ao1 len1 cap1, .int .i64 a1] 40)) (by decide) (by decide) hmax0 rfl
    rw [if_neg (by omega)] at ksz
    clear hx0 hx1 hE
    go_enter Tryd.func12, Tryd.ntmps12
    go_wp2_with fail
    refine ksz.mono ?_
    rintro e w1 ⟨rfl, hg⟩
    have HM := Lib.hid (HM.out.grown hg)
    clear ksz hg
    go_wp2
    go_ret
    exact ⟨rfl, HM.out.g⟩
  have ksz := szBits_any ao0 len0 cap0 a0 1048576 _ ((w.alloc (.cells #[.slice ao0 len0 cap0, .int .i64 a0] 40)).alloc (.cells #[.slice ao1 len1 cap1, .int .i64 a1] 40)) (by decide) (by decide) hmax0 rfl
  rw [if_pos (by omega)] at ksz
  have hlen0' : len0 ≤ 1048576 := by omega
  by_cases hlen1 : 1048576 - (len0 : Int) < (len1 : Int)
  · have kz2 := Lib.hid (fun W => szBits_any ao1 len1 cap1 a1 (1048576 - (len0 : Int)) _ W (by omega) (by omega) hmax1 rfl)
    rw [if_neg (by omega)] at kz2
    clear hx0 hx1 hE
    go_enter Tryd.func12, Tryd.ntmps12
    go_wp2_with fail
    refine ksz.mono ?_
    rintro e w1 ⟨rfl, hg⟩
    have HM := Lib.hid (HM.out.grown hg)
    clear ksz hg
    have qz0 := (two_cells (HM.out.get (b := w.heap.size + 1) (o := .cells #[.slice ao1 len1 cap1, .int .i64 a1] 40) (by simp))).1
    have qz1 := (two_cells (HM.out.get (b := w.heap.size + 1) (o := .cells #[.slice ao1 len1 cap1, .int .i64 a1] 40) (by simp))).2
    go_wp2_with fail
    refine (kz2.out _).mono ?_
    rintro e w2 ⟨rfl, hg⟩
    have HM := Lib.hid (HM.out.grown hg)
    clear kz2 hg qz0 qz1
    go_wp2
    go_ret
    exact ⟨rfl, HM.out.g⟩
  have hlen1' : len1 ≤ 1048576 := by omega
  have hlen2' : (len0 : Int) + (len1 : Int) ≤ 1048576 := by omega
  have kz2 := Lib.hid (fun W => szBits_any ao1 len1 cap1 a1 (1048576 - (len0 : Int)) _ W (by omega) (by omega) hmax1 rfl)
  rw [if_pos (by omega)] at kz2
  obtain ⟨ys, n, c, v, hn, HS, HI⟩ := joinE xs0 xs1 a0 a1 len0 len1 hlen0' hlen1'
  have HE := Lib.hid hE
  have HX0 := Lib.hid hx0
  have HX1 := Lib.hid hx1
  clear hE hx0 hx1 hmax0 hmax1 hlen0 hlen1
  go_enter Tryd.func12, Tryd.ntmps12
  go_wp2_with fail
  refine ksz.mono ?_
  rintro e w01 ⟨rfl, hg⟩
  have HM := Lib.hid (HM.out.grown hg)
  clear ksz hg
  have qz0 := (two_cells (HM.out.get (b := w.heap.size + 1) (o := .cells #[.slice ao1 len1 cap1, .int .i64 a1] 40) (by simp))).1
  have qz1 := (two_cells (HM.out.get (b := w.heap.size + 1) (o := .cells #[.slice ao1 len1 cap1, .int .i64 a1] 40) (by simp))).2
  go_wp2_with fail
  refine (kz2.out _).mono ?_
  rintro e w02 ⟨rfl, hg⟩
  have HM := Lib.hid ((HM.out.grown hg).cast (L' := [] ++ [(w.heap.size, Obj.cells #[.slice ao0 len0 cap0, .int .i64 a0] 40)] ++ [(w.heap.size + 1, Obj.cells #[.slice ao1 len1 cap1, .int .i64 a1] 40)]) (by simp))
  clear kz2 hg qz0 qz1
  have q00 := (two_cells (HM.out.get (b := w.heap.size) (o := .cells #[.slice ao0 len0 cap0, .int .i64 a0] 40) (by simp))).1
  have q01 := (two_cells (HM.out.get (b := w.heap.size) (o := .cells #[.slice ao0 len0 cap0, .int .i64 a0] 40) (by simp))).2
  have q10 := (two_cells (HM.out.get (b := w.heap.size + 1) (o := .cells #[.slice ao1 len1 cap1, .int .i64 a1] 40) (by simp))).1
  have q11 := (two_cells (HM.out.get (b := w.heap.size + 1) (o := .cells #[.slice ao1 len1 cap1, .int .i64 a1] 40) (by simp))).2
  have hz0 := block_lt (HM.out.get (b := w.heap.size + 1) (o := .cells #[.slice ao1 len1 cap1, .int .i64 a1] 40) (by simp))
  go_upto_region 8 with fail
  go_cut [6, 7] from 27 to 34 (fun aa bb wx => ∃ (Bk : Nat) (pp : Option Addr) (cc : Nat) (Ln : List (Nat × Obj)) (base : Nat), aa = .pointer (some ⟨Bk, 0, none⟩) ∧ bb = .bool v ∧ Hid (Stands Ln base (.slice pp n cc) n ys) ∧ Hid (Mem w wx ([] ++ [(w.heap.size, Obj.cells #[.slice ao0 len0 cap0, .int .i64 a0] 40)] ++ [(w.heap.size + 1, Obj.cells #[.slice ao1 len1 cap1, .int .i64 a1] 40)] ++ [(Bk, Obj.cells #[.slice pp n cc, .int .i64 c] 25)] ++ Ln)))
  case first =>
    have Mn0 := HM
    clear HM
    go_wp2_with fail
    (go_region_held3 (fun w' => w'.cell? ⟨w.heap.size, 0, none⟩ = some (.slice ao0 len0 cap0) ∧ w'.cell? ⟨w.heap.size, 1, none⟩ = some (.int .i64 a0) ∧ w'.cell? ⟨w.heap.size + 1, 0, none⟩ = some (.slice ao1 len1 cap1) ∧ w'.cell? ⟨w.heap.size + 1, 1, none⟩ = some (.int .i64 a1)) (first | go_keep | exact ⟨by assumption, by assumption, by assumption, by assumption⟩ | exact ⟨cell_al (by assumption), cell_al (by assumption), cell_al (by assumption), cell_al (by assumption)⟩ | exact ⟨cell_st (by assumption) (by simp; try omega) (by simp; try omega), cell_st (by assumption) (by simp; try omega) (by simp; try omega), cell_st (by assumption) (by simp; try omega) (by simp; try omega), cell_st (by assumption) (by simp; try omega) (by simp; try omega)⟩) ((first
      | (go_at_call 27; have Tk := Mn0; refine (toBits_any xs0 ao0 len0 cap0 a0 _ ((HX0.out.grown Mn0.out.g).grown (grown_drew _ _)) (by omega)).mono ?_; rintro e wx11 ⟨vx11, rfl, hox, hgx⟩; obtain ⟨px11, cx11, rfl, hlcx11, hnx, hxx, _⟩ := hox.reads; have HNx11 := Lib.hid hnx; have HYx11 := Lib.hid hxx; have Mn1 := Lib.hid ((Mn0.out.grown (grown_drew _ none)).grown hgx); clear Mn0 Tk hox hgx hnx hxx; have hz1 := block_lt (Mn1.out.get (b := w.heap.size + 1) (o := .cells #[.slice ao1 len1 cap1, .int .i64 a1] 40) (by simp)); have s100 := (two_cells (Mn1.out.get (b := w.heap.size) (o := .cells #[.slice ao0 len0 cap0, .int .i64 a0] 40) (by simp))).1; have s101 := (two_cells (Mn1.out.get (b := w.heap.size) (o := .cells #[.slice ao0 len0 cap0, .int .i64 a0] 40) (by simp))).2; have s110 := (two_cells (Mn1.out.get (b := w.heap.size + 1) (o := .cells #[.slice ao1 len1 cap1, .int .i64 a1] 40) (by simp))).1; have s111 := (two_cells (Mn1.out.get (b := w.heap.size + 1) (o := .cells #[.slice ao1 len1 cap1, .int .i64 a1] 40) (by simp))).2)
      | (go_at_call 27; have Tk := Mn0; refine (toBits_any xs0 ao0 len0 cap0 a0 _ ((HX0.out.grown (grown_trans Mn0.out.g (grown_alloc _ (.cells #[.slice none 0 0, .int .i64 0] 25) none))).grown (grown_drew _ _)) (by omega)).mono ?_; rintro e wx11 ⟨vx11, rfl, hox, hgx⟩; obtain ⟨px11, cx11, rfl, hlcx11, hnx, hxx, _⟩ := hox.reads; have HNx11 := Lib.hid hnx; have HYx11 := Lib.hid hxx; have Mz1p1 := Lib.hid (((Mn0.out.block (.cells #[.slice none 0 0, .int .i64 0] 25)).grown (grown_drew _ none)).grown hgx); clear Mn0 Tk hox hgx hnx hxx; have hz1 := block_lt (Mz1p1.out.get (b := w.heap.size + 1) (o := .cells #[.slice ao1 len1 cap1, .int .i64 a1] 40) (by simp)); have s100 := (two_cells (Mz1p1.out.get (b := w.heap.size) (o := .cells #[.slice ao0 len0 cap0, .int .i64 a0] 40) (by simp))).1; have s101 := (two_cells (Mz1p1.out.get (b := w.heap.size) (o := .cells #[.slice ao0 len0 cap0, .int .i64 a0] 40) (by simp))).2; have s110 := (two_cells (Mz1p1.out.get (b := w.heap.size + 1) (o := .cells #[.slice ao1 len1 cap1, .int .i64 a1] 40) (by simp))).1; have s111 := (two_cells (Mz1p1.out.get (b := w.heap.size + 1) (o := .cells #[.slice ao1 len1 cap1, .int .i64 a1] 40) (by simp))).2)
      | (go_at_call 27; have Tk := Mn1; refine (toBits_any xs1 ao1 len1 cap1 a1 _ (HX1.out.grown Mn1.out.g) (by omega)).mono ?_; rintro e wx12 ⟨vx12, rfl, hox, hgx⟩; obtain ⟨px12, cx12, rfl, hlcx12, hnx, hxx, _⟩ := hox.reads; have HNx12 := Lib.hid hnx; have HYx12 := Lib.hid hxx; have HYx11 := Lib.hid ((HYx11.out).grown hgx); have Mn2 := Lib.hid (Mn1.out.grown hgx); clear Mn1 Tk hox hgx hnx hxx; have hz2 := block_lt (Mn2.out.get (b := w.heap.size + 1) (o := .cells #[.slice ao1 len1 cap1, .int .i64 a1] 40) (by simp)); have s200 := (two_cells (Mn2.out.get (b := w.heap.size) (o := .cells #[.slice ao0 len0 cap0, .int .i64 a0] 40) (by simp))).1; have s201 := (two_cells (Mn2.out.get (b := w.heap.size) (o := .cells #[.slice ao0 len0 cap0, .int .i64 a0] 40) (by simp))).2; have s210 := (two_cells (Mn2.out.get (b := w.heap.size + 1) (o := .cells #[.slice ao1 len1 cap1, .int .i64 a1] 40) (by simp))).1; have s211 := (two_cells (Mn2.out.get (b := w.heap.size + 1) (o := .cells #[.slice ao1 len1 cap1, .int .i64 a1] 40) (by simp))).2)
      | (go_at_call 27; have Tk := Mn1; refine (toBits_any xs1 ao1 len1 cap1 a1 _ (HX1.out.grown (grown_trans Mn1.out.g (grown_alloc _ (.cells #[.slice none 0 0, .int .i64 0] 25) none))) (by omega)).mono ?_; rintro e wx12 ⟨vx12, rfl, hox, hgx⟩; obtain ⟨px12, cx12, rfl, hlcx12, hnx, hxx, _⟩ := hox.reads; have HNx12 := Lib.hid hnx; have HYx12 := Lib.hid hxx; have HYx11 := Lib.hid ((HYx11.out.grown (grown_alloc _ (.cells #[.slice none 0 0, .int .i64 0] 25) none)).grown hgx); have Mz2p2 := Lib.hid ((Mn1.out.block (.cells #[.slice none 0 0, .int .i64 0] 25)).grown hgx); clear Mn1 Tk hox hgx hnx hxx; have hz2 := block_lt (Mz2p2.out.get (b := w.heap.size + 1) (o := .cells #[.slice ao1 len1 cap1, .int .i64 a1] 40) (by simp)); have s200 := (two_cells (Mz2p2.out.get (b := w.heap.size) (o := .cells #[.slice ao0 len0 cap0, .int .i64 a0] 40) (by simp))).1; have s201 := (two_cells (Mz2p2.out.get (b := w.heap.size) (o := .cells #[.slice ao0 len0 cap0, .int .i64 a0] 40) (by simp))).2; have s210 := (two_cells (Mz2p2.out.get (b := w.heap.size + 1) (o := .cells #[.slice ao1 len1 cap1, .int .i64 a1] 40) (by simp))).1; have s211 := (two_cells (Mz2p2.out.get (b := w.heap.size + 1) (o := .cells #[.slice ao1 len1 cap1, .int .i64 a1] 40) (by simp))).2)
      | (go_at_call 27; have Tk := Mz1p1; refine (toBits_any xs1 ao1 len1 cap1 a1 _ (HX1.out.grown Mz1p1.out.g) (by omega)).mono ?_; rintro e wx12 ⟨vx12, rfl, hox, hgx⟩; obtain ⟨px12, cx12, rfl, hlcx12, hnx, hxx, _⟩ := hox.reads; have HNx12 := Lib.hid hnx; have HYx12 := Lib.hid hxx; have HYx11 := Lib.hid ((HYx11.out).grown hgx); have Mz2p1 := Lib.hid (Mz1p1.out.grown hgx); clear Mz1p1 Tk hox hgx hnx hxx; have hz2 := block_lt (Mz2p1.out.get (b := w.heap.size + 1) (o := .cells #[.slice ao1 len1 cap1, .int .i64 a1] 40) (by simp)); have s200 := (two_cells (Mz2p1.out.get (b := w.heap.size) (o := .cells #[.slice ao0 len0 cap0, .int .i64 a0] 40) (by simp))).1; have s201 := (two_cells (Mz2p1.out.get (b := w.heap.size) (o := .cells #[.slice ao0 len0 cap0, .int .i64 a0] 40) (by simp))).2; have s210 := (two_cells (Mz2p1.out.get (b := w.heap.size + 1) (o := .cells #[.slice ao1 len1 cap1, .int .i64 a1] 40) (by simp))).1; have s211 := (two_cells (Mz2p1.out.get (b := w.heap.size + 1) (o := .cells #[.slice ao1 len1 cap1, .int .i64 a1] 40) (by simp))).2)
      | (go_at_call 22; have Tk := Mn2; refine (HS.out px11 px12 cx11 cx12 _ (HYx11.out) hlcx11 HNx11.out (HYx12.out) hlcx12 HNx12.out).mono ?_; rintro e wx13 ⟨vx13, rfl, hox, hgx⟩; obtain ⟨Lx1, hsx, hmx⟩ := Mn2.out.own hgx (Nat.le_refl _) hox; obtain ⟨px13, cx13, rfl, _⟩ := hox.reads; have HSx1 := Lib.hid hsx; have Mn3 := Lib.hid hmx; clear Mn2 Tk hox hgx hsx hmx; have hz3 := block_lt (Mn3.out.get (b := w.heap.size + 1) (o := .cells #[.slice ao1 len1 cap1, .int .i64 a1] 40) (by simp)); have t300 := (two_cells (Mn3.out.get (b := w.heap.size) (o := .cells #[.slice ao0 len0 cap0, .int .i64 a0] 40) (by simp))).1; have t301 := (two_cells (Mn3.out.get (b := w.heap.size) (o := .cells #[.slice ao0 len0 cap0, .int .i64 a0] 40) (by simp))).2; have t310 := (two_cells (Mn3.out.get (b := w.heap.size + 1) (o := .cells #[.slice ao1 len1 cap1, .int .i64 a1] 40) (by simp))).1; have t311 := (two_cells (Mn3.out.get (b := w.heap.size + 1) (o := .cells #[.slice ao1 len1 cap1, .int .i64 a1] 40) (by simp))).2)
      | (go_at_call 22; have Tk := Mn2; refine (HS.out px11 px12 cx11 cx12 _ (HYx11.out.grown (grown_alloc _ (.cells #[.slice none 0 0, .int .i64 0] 25) none)) hlcx11 HNx11.out (HYx12.out.grown (grown_alloc _ (.cells #[.slice none 0 0, .int .i64 0] 25) none)) hlcx12 HNx12.out).mono ?_; rintro e wx13 ⟨vx13, rfl, hox, hgx⟩; obtain ⟨Lx1, hsx, hmx⟩ := (Mn2.out.block (.cells #[.slice none 0 0, .int .i64 0] 25)).own hgx (Nat.le_refl _) hox; obtain ⟨px13, cx13, rfl, _⟩ := hox.reads; have HSx1 := Lib.hid hsx; have Mz3p3 := Lib.hid hmx; clear Mn2 Tk hox hgx hsx hmx; have hz3 := block_lt (Mz3p3.out.get (b := w.heap.size + 1) (o := .cells #[.slice ao1 len1 cap1, .int .i64 a1] 40) (by simp)); have t300 := (two_cells (Mz3p3.out.get (b := w.heap.size) (o := .cells #[.slice ao0 len0 cap0, .int .i64 a0] 40) (by simp))).1; have t301 := (two_cells (Mz3p3.out.get (b := w.heap.size) (o := .cells #[.slice ao0 len0 cap0, .int .i64 a0] 40) (by simp))).2; have t310 := (two_cells (Mz3p3.out.get (b := w.heap.size + 1) (o := .cells #[.slice ao1 len1 cap1, .int .i64 a1] 40) (by simp))).1; have t311 := (two_cells (Mz3p3.out.get (b := w.heap.size + 1) (o := .cells #[.slice ao1 len1 cap1, .int .i64 a1] 40) (by simp))).2; have r0 := (two_cells (Mz3p3.out.get (b := wx12.heap.size) (o := .cells #[.slice none 0 0, .int .i64 0] 25) (by simp))).1; have r1 := (two_cells (Mz3p3.out.get (b := wx12.heap.size) (o := .cells #[.slice none 0 0, .int .i64 0] 25) (by simp))).2; have f0 := frozen_of_row wx13 (wx12.heap.size) 0 _ _ (Mz3p3.out.get (b := wx12.heap.size) (o := .cells #[.slice none 0 0, .int .i64 0] 25) (by simp)); have f1 := frozen_of_row wx13 (wx12.heap.size) 1 _ _ (Mz3p3.out.get (b := wx12.heap.size) (o := .cells #[.slice none 0 0, .int .i64 0] 25) (by simp)))
      | (go_at_call 22; have Tk := Mz2p1; refine (HS.out px11 px12 cx11 cx12 _ (HYx11.out) hlcx11 HNx11.out (HYx12.out) hlcx12 HNx12.out).mono ?_; rintro e wx13 ⟨vx13, rfl, hox, hgx⟩; obtain ⟨Lx1, hsx, hmx⟩ := Mz2p1.out.own hgx (Nat.le_refl _) hox; obtain ⟨px13, cx13, rfl, _⟩ := hox.reads; have HSx1 := Lib.hid hsx; have Mz3p1 := Lib.hid hmx; clear Mz2p1 Tk hox hgx hsx hmx; have hz3 := block_lt (Mz3p1.out.get (b := w.heap.size + 1) (o := .cells #[.slice ao1 len1 cap1, .int .i64 a1] 40) (by simp)); have t300 := (two_cells (Mz3p1.out.get (b := w.heap.size) (o := .cells #[.slice ao0 len0 cap0, .int .i64 a0] 40) (by simp))).1; have t301 := (two_cells (Mz3p1.out.get (b := w.heap.size) (o := .cells #[.slice ao0 len0 cap0, .int .i64 a0] 40) (by simp))).2; have t310 := (two_cells (Mz3p1.out.get (b := w.heap.size + 1) (o := .cells #[.slice ao1 len1 cap1, .int .i64 a1] 40) (by simp))).1; have t311 := (two_cells (Mz3p1.out.get (b := w.heap.size + 1) (o := .cells #[.slice ao1 len1 cap1, .int .i64 a1] 40) (by simp))).2; have r0 := (two_cells (Mz3p1.out.get (b := w02.heap.size) (o := .cells #[.slice none 0 0, .int .i64 0] 25) (by simp))).1; have r1 := (two_cells (Mz3p1.out.get (b := w02.heap.size) (o := .cells #[.slice none 0 0, .int .i64 0] 25) (by simp))).2; have f0 := frozen_of_row wx13 (w02.heap.size) 0 _ _ (Mz3p1.out.get (b := w02.heap.size) (o := .cells #[.slice none 0 0, .int .i64 0] 25) (by simp)); have f1 := frozen_of_row wx13 (w02.heap.size) 1 _ _ (Mz3p1.out.get (b := w02.heap.size) (o := .cells #[.slice none 0 0, .int .i64 0] 25) (by simp)))
      | (go_at_call 22; have Tk := Mz2p2; refine (HS.out px11 px12 cx11 cx12 _ (HYx11.out) hlcx11 HNx11.out (HYx12.out) hlcx12 HNx12.out).mono ?_; rintro e wx13 ⟨vx13, rfl, hox, hgx⟩; obtain ⟨Lx1, hsx, hmx⟩ := Mz2p2.out.own hgx (Nat.le_refl _) hox; obtain ⟨px13, cx13, rfl, _⟩ := hox.reads; have HSx1 := Lib.hid hsx; have Mz3p2 := Lib.hid hmx; clear Mz2p2 Tk hox hgx hsx hmx; have hz3 := block_lt (Mz3p2.out.get (b := w.heap.size + 1) (o := .cells #[.slice ao1 len1 cap1, .int .i64 a1] 40) (by simp)); have t300 := (two_cells (Mz3p2.out.get (b := w.heap.size) (o := .cells #[.slice ao0 len0 cap0, .int .i64 a0] 40) (by simp))).1; have t301 := (two_cells (Mz3p2.out.get (b := w.heap.size) (o := .cells #[.slice ao0 len0 cap0, .int .i64 a0] 40) (by simp))).2; have t310 := (two_cells (Mz3p2.out.get (b := w.heap.size + 1) (o := .cells #[.slice ao1 len1 cap1, .int .i64 a1] 40) (by simp))).1; have t311 := (two_cells (Mz3p2.out.get (b := w.heap.size + 1) (o := .cells #[.slice ao1 len1 cap1, .int .i64 a1] 40) (by simp))).2; have r0 := (two_cells (Mz3p2.out.get (b := wx11.heap.size) (o := .cells #[.slice none 0 0, .int .i64 0] 25) (by simp))).1; have r1 := (two_cells (Mz3p2.out.get (b := wx11.heap.size) (o := .cells #[.slice none 0 0, .int .i64 0] 25) (by simp))).2; have f0 := frozen_of_row wx13 (wx11.heap.size) 0 _ _ (Mz3p2.out.get (b := wx11.heap.size) (o := .cells #[.slice none 0 0, .int .i64 0] 25) (by simp)); have f1 := frozen_of_row wx13 (wx11.heap.size) 1 _ _ (Mz3p2.out.get (b := wx11.heap.size) (o := .cells #[.slice none 0 0, .int .i64 0] 25) (by simp))))))
    all_goals (go_wp2_with fail; go_meet; first | (exact ⟨wx13.heap.size, px13, cx13, Lx1, _, rfl, rfl, HSx1, Lib.hid ((Mn3.out.block (.cells #[.slice px13 n cx13, .int .i64 c] 25)).perm (perm_mid _ _ _))⟩) | (exact ⟨w02.heap.size, px13, cx13, Lx1, _, rfl, rfl, HSx1, Lib.hid (Mz3p1.out.set2 _ _)⟩) | (exact ⟨wx11.heap.size, px13, cx13, Lx1, _, rfl, rfl, HSx1, Lib.hid (Mz3p2.out.set2 _ _)⟩) | (exact ⟨wx12.heap.size, px13, cx13, Lx1, _, rfl, rfl, HSx1, Lib.hid (Mz3p3.out.set2 _ _)⟩))
  case rest =>
  obtain ⟨B1, p1, c1, L1, base1, rfl, rfl, HS1, HM⟩ := hcut
  clear hz0 q00 q01 q10 q11
  generalize wc = w1 at *
  have qp0 := (two_cells (HM.out.get (b := w.heap.size) (o := .cells #[.slice ao0 len0 cap0, .int .i64 a0] 40) (by simp))).1
  have qp1 := (two_cells (HM.out.get (b := w.heap.size) (o := .cells #[.slice ao0 len0 cap0, .int .i64 a0] 40) (by simp))).2
  go_wp2_with fail
  refine (toBits_any xs0 ao0 len0 cap0 a0 _ (HX0.out.grown HM.out.g) (by omega)).mono ?_
  rintro e w2 ⟨v2, rfl, ho2, hg2⟩
  obtain ⟨L2, hs2, hm2⟩ := HM.out.own hg2 (Nat.le_refl _) ho2
  obtain ⟨p2, c2, rfl, hlc2, hn2, hx2, _⟩ := ho2.reads
  have HN2 := Lib.hid hn2
  have HS2 := Lib.hid hs2
  have HM := Lib.hid (hm2.block (.cells #[.slice p2 len0 c2, .int .i64 a0] 25))
  have HY2 := Lib.hid (hx2.grown (grown_alloc w2 (.cells #[.slice p2 len0 c2, .int .i64 a0] 25) none))
  clear ho2 hg2 hs2 hm2 hx2 hn2 qp0 qp1
  have qp0 := (two_cells (HM.out.get (b := w.heap.size + 1) (o := .cells #[.slice ao1 len1 cap1, .int .i64 a1] 40) (by simp))).1
  have qp1 := (two_cells (HM.out.get (b := w.heap.size + 1) (o := .cells #[.slice ao1 len1 cap1, .int .i64 a1] 40) (by simp))).2
  go_wp2_with fail
  refine (toBits_any xs1 ao1 len1 cap1 a1 _ (HX1.out.grown HM.out.g) (by omega)).mono ?_
  rintro e w3 ⟨v3, rfl, ho3, hg3⟩
  obtain ⟨L3, hs3, hm3⟩ := HM.out.own hg3 (Nat.le_refl _) ho3
  obtain ⟨p3, c3, rfl, hlc3, hn3, hx3, _⟩ := ho3.reads
  have HN3 := Lib.hid hn3
  have HS3 := Lib.hid hs3
  have HM := Lib.hid (hm3.block (.cells #[.slice p3 len1 c3, .int .i64 a1] 25))
  have HY3 := Lib.hid (hx3.grown (grown_alloc w3 (.cells #[.slice p3 len1 c3, .int .i64 a1] 25) none))
  have HY2 := Lib.hid ((HY2.out.grown hg3).grown (grown_alloc w3 (.cells #[.slice p3 len1 c3, .int .i64 a1] 25) none))
  clear ho3 hg3 hs3 hm3 hx3 hn3 qp0 qp1
  have qx0 := (two_cells (HM.out.get (b := w2.heap.size) (o := .cells #[.slice p2 len0 c2, .int .i64 a0] 25) (by simp))).1
  have qx1 := (two_cells (HM.out.get (b := w2.heap.size) (o := .cells #[.slice p2 len0 c2, .int .i64 a0] 25) (by simp))).2
  have qy0 := (two_cells (HM.out.get (b := w3.heap.size) (o := .cells #[.slice p3 len1 c3, .int .i64 a1] 25) (by simp))).1
  have qy1 := (two_cells (HM.out.get (b := w3.heap.size) (o := .cells #[.slice p3 len1 c3, .int .i64 a1] 25) (by simp))).2
  go_wp2_with fail
  refine (HI.out p2 p3 c2 c3 _ HY2.out hlc2 HN2.out HY3.out hlc3 HN3.out (HE.out.grown HM.out.g)).mono ?_
  rintro e w4 ⟨v4, rfl, ho4, hg4⟩
  obtain ⟨L4, hs4, hm4⟩ := HM.out.own hg4 (Nat.le_refl _) ho4
  obtain ⟨p4, c4, rfl, _⟩ := ho4.reads
  have HS4 := Lib.hid hs4
  have HM := Lib.hid (hm4.block (.cells #[.slice p4 n c4, .int .i64 c] 25))
  clear ho4 hg4 hs4 hm4 qx0 qx1 qy0 qy1
  have qg0 := (two_cells (HM.out.get (b := w4.heap.size) (o := .cells #[.slice p4 n c4, .int .i64 c] 25) (by simp))).1
  have qg1 := (two_cells (HM.out.get (b := w4.heap.size) (o := .cells #[.slice p4 n c4, .int .i64 c] 25) (by simp))).2
  have qw0 := (two_cells (HM.out.get (b := B1) (o := .cells #[.slice p1 n c1, .int .i64 c] 25) (by simp))).1
  have qw1 := (two_cells (HM.out.get (b := B1) (o := .cells #[.slice p1 n c1, .int .i64 c] 25) (by simp))).2
  go_wp2_with fail
  refine (eqBits_same ys p4 p1 n c4 c1 c _ (HS4.out.toInts HM.out (by intro p hp; simp [hp])) (HS1.out.toInts HM.out (by intro p hp; simp [hp])) (by omega)).mono ?_
  rintro e w5 ⟨rfl, hg5⟩
  have HM := Lib.hid (HM.out.grown hg5)
  clear hg5 qg0 qg1 qw0 qw1
  have qx0 := (two_cells (HM.out.get (b := w2.heap.size) (o := .cells #[.slice p2 len0 c2, .int .i64 a0] 25) (by simp))).1
  have qx1 := (two_cells (HM.out.get (b := w2.heap.size) (o := .cells #[.slice p2 len0 c2, .int .i64 a0] 25) (by simp))).2
  have qa0 := (two_cells (HM.out.get (b := w.heap.size) (o := .cells #[.slice ao0 len0 cap0, .int .i64 a0] 40) (by simp))).1
  have qa1 := (two_cells (HM.out.get (b := w.heap.size) (o := .cells #[.slice ao0 len0 cap0, .int .i64 a0] 40) (by simp))).2
  go_wp2_with fail
  have HK := Lib.hid HM.out
  go_region_held3 (fun w' => w'.cell? ⟨w2.heap.size, 0, none⟩ = some (.slice p2 len0 c2) ∧ w'.cell? ⟨w2.heap.size, 1, none⟩ = some (.int .i64 a0) ∧ w'.cell? ⟨w.heap.size, 0, none⟩ = some (.slice ao0 len0 cap0) ∧ w'.cell? ⟨w.heap.size, 1, none⟩ = some (.int .i64 a0)) (first | go_keep | exact ⟨by assumption, by assumption, by assumption, by assumption⟩) ((first
    | (go_at_call 27; refine (toBits_any xs0 ao0 len0 cap0 a0 _ ((HX0.out.grown HK.out.g).grown (grown_drew _ _)) (by omega)).mono ?_; rintro e w6 ⟨v6, rfl, ho6, hg6⟩; obtain ⟨p6, c6, rfl, _, _, hx6, _⟩ := ho6.reads; have HM := Lib.hid ((HK.out.grown (grown_drew _ _)).grown hg6); have HY6 := Lib.hid hx6; have hS0 := hg6.cell qx0 (by simp); have hS1 := hg6.cell qx1 (by simp); have hS2 := hg6.cell qa0 (by simp); have hS3 := hg6.cell qa1 (by simp); clear ho6 hg6 hx6)
    | (go_at_call 28; refine (eqBits_same xs0 p2 p6 len0 c2 c6 a0 _ (HS2.out.toInts HM.out (by intro p hp; simp [hp])) HY6.out (by omega)).mono ?_; rintro e w7 ⟨rfl, hg7⟩; have HM := Lib.hid (HM.out.grown hg7); have hT0 := hg7.cell hS0 (by simp); have hT1 := hg7.cell hS1 (by simp); have hT2 := hg7.cell hS2 (by simp); have hT3 := hg7.cell hS3 (by simp); clear hg7)))
  clear hS0 hS1 hS2 hS3 hT0 hT1 hT2 hT3 qx0 qx1 qa0 qa1 HK
  have qx0 := (two_cells (HM.out.get (b := w3.heap.size) (o := .cells #[.slice p3 len1 c3, .int .i64 a1] 25) (by simp))).1
  have qx1 := (two_cells (HM.out.get (b := w3.heap.size) (o := .cells #[.slice p3 len1 c3, .int .i64 a1] 25) (by simp))).2
  have qa0 := (two_cells (HM.out.get (b := w.heap.size + 1) (o := .cells #[.slice ao1 len1 cap1, .int .i64 a1] 40) (by simp))).1
  have qa1 := (two_cells (HM.out.get (b := w.heap.size + 1) (o := .cells #[.slice ao1 len1 cap1, .int .i64 a1] 40) (by simp))).2
  go_wp2_with fail
  have HK := Lib.hid HM.out
  go_region_held3 (fun w' => w'.cell? ⟨w3.heap.size, 0, none⟩ = some (.slice p3 len1 c3) ∧ w'.cell? ⟨w3.heap.size, 1, none⟩ = some (.int .i64 a1) ∧ w'.cell? ⟨w.heap.size + 1, 0, none⟩ = some (.slice ao1 len1 cap1) ∧ w'.cell? ⟨w.heap.size + 1, 1, none⟩ = some (.int .i64 a1)) (first | go_keep | exact ⟨by assumption, by assumption, by assumption, by assumption⟩) ((first
    | (go_at_call 27; refine (toBits_any xs1 ao1 len1 cap1 a1 _ ((HX1.out.grown HK.out.g).grown (grown_drew _ _)) (by omega)).mono ?_; rintro e w8 ⟨v8, rfl, ho8, hg8⟩; obtain ⟨p8, c8, rfl, _, _, hx8, _⟩ := ho8.reads; have HM := Lib.hid ((HK.out.grown (grown_drew _ _)).grown hg8); have HY8 := Lib.hid hx8; have hS0 := hg8.cell qx0 (by simp); have hS1 := hg8.cell qx1 (by simp); have hS2 := hg8.cell qa0 (by simp); have hS3 := hg8.cell qa1 (by simp); clear ho8 hg8 hx8)
    | (go_at_call 28; refine (eqBits_same xs1 p3 p8 len1 c3 c8 a1 _ (HS3.out.toInts HM.out (by intro p hp; simp [hp])) HY8.out (by omega)).mono ?_; rintro e w9 ⟨rfl, hg9⟩; have HM := Lib.hid (HM.out.grown hg9); have hT0 := hg9.cell hS0 (by simp); have hT1 := hg9.cell hS1 (by simp); have hT2 := hg9.cell hS2 (by simp); have hT3 := hg9.cell hS3 (by simp); clear hg9)))
  clear hS0 hS1 hS2 hS3 hT0 hT1 hT2 hT3 qx0 qx1 qa0 qa1 HK
  have qx0 := (two_cells (HM.out.get (b := w2.heap.size) (o := .cells #[.slice p2 len0 c2, .int .i64 a0] 25) (by simp))).1
  have qx1 := (two_cells (HM.out.get (b := w2.heap.size) (o := .cells #[.slice p2 len0 c2, .int .i64 a0] 25) (by simp))).2
  go_wp2_with fail
  refine (markBits_any xs0 (.slice p2 len0 c2) _ len0 a0 (1) _ (HM.out.owns HS2.out (by intro p hp; simp [hp])) (by omega) (by omega) (by omega)).mono ?_
  rintro e w10 ⟨rfl, ho10, hg10⟩
  obtain ⟨L10, hs10, hm10⟩ := Mem.write (A := [] ++ [(w.heap.size, Obj.cells #[.slice ao0 len0 cap0, .int .i64 a0] 40)] ++ [(w.heap.size + 1, Obj.cells #[.slice ao1 len1 cap1, .int .i64 a1] 40)] ++ [(B1, Obj.cells #[.slice p1 n c1, .int .i64 c] 25)] ++ L1) (L1 := L2) (B := [] ++ [(w2.heap.size, Obj.cells #[.slice p2 len0 c2, .int .i64 a0] 25)] ++ L3 ++ [(w3.heap.size, Obj.cells #[.slice p3 len1 c3, .int .i64 a1] 25)] ++ L4 ++ [(w4.heap.size, Obj.cells #[.slice p4 n c4, .int .i64 c] 25)]) (HM.out.cast (by simp)) HS2.out hg10 ho10
  have HM := Lib.hid hm10
  have HSm := Lib.hid hs10
  clear hm10 ho10 hg10 hs10 qx0 qx1
  have qx0 := (two_cells (HM.out.get (b := w3.heap.size) (o := .cells #[.slice p3 len1 c3, .int .i64 a1] 25) (by simp))).1
  have qx1 := (two_cells (HM.out.get (b := w3.heap.size) (o := .cells #[.slice p3 len1 c3, .int .i64 a1] 25) (by simp))).2
  go_wp2_with fail
  refine (markBits_any xs1 (.slice p3 len1 c3) _ len1 a1 (1 + (len0 : Int)) _ (HM.out.owns HS3.out (by intro p hp; simp [hp])) (by omega) (by omega) (by omega)).mono ?_
  rintro e w11 ⟨rfl, ho11, hg11⟩
  obtain ⟨L11, hs11, hm11⟩ := Mem.write (A := [] ++ [(w.heap.size, Obj.cells #[.slice ao0 len0 cap0, .int .i64 a0] 40)] ++ [(w.heap.size + 1, Obj.cells #[.slice ao1 len1 cap1, .int .i64 a1] 40)] ++ [(B1, Obj.cells #[.slice p1 n c1, .int .i64 c] 25)] ++ L1 ++ L10 ++ [(w2.heap.size, Obj.cells #[.slice p2 len0 c2, .int .i64 a0] 25)]) (L1 := L3) (B := [] ++ [(w3.heap.size, Obj.cells #[.slice p3 len1 c3, .int .i64 a1] 25)] ++ L4 ++ [(w4.heap.size, Obj.cells #[.slice p4 n c4, .int .i64 c] 25)]) (HM.out.cast (by simp)) HS3.out hg11 ho11
  have HM := Lib.hid hm11
  have HSm := Lib.hid hs11
  clear hm11 ho11 hg11 hs11 qx0 qx1
  clear HSm
  have qg0 := (two_cells (HM.out.get (b := w4.heap.size) (o := .cells #[.slice p4 n c4, .int .i64 c] 25) (by simp))).1
  have qg1 := (two_cells (HM.out.get (b := w4.heap.size) (o := .cells #[.slice p4 n c4, .int .i64 c] 25) (by simp))).2
  have qw0 := (two_cells (HM.out.get (b := B1) (o := .cells #[.slice p1 n c1, .int .i64 c] 25) (by simp))).1
  have qw1 := (two_cells (HM.out.get (b := B1) (o := .cells #[.slice p1 n c1, .int .i64 c] 25) (by simp))).2
  go_wp2_with fail
  refine (eqBits_same ys p4 p1 n c4 c1 c _ (HS4.out.toInts HM.out (by intro p hp; simp [hp])) (HS1.out.toInts HM.out (by intro p hp; simp [hp])) (by omega)).mono ?_
  rintro e w12 ⟨rfl, hg12⟩
  have HM := Lib.hid (HM.out.grown hg12)
  clear hg12 qg0 qg1 qw0 qw1
  have qx0 := (two_cells (HM.out.get (b := w4.heap.size) (o := .cells #[.slice p4 n c4, .int .i64 c] 25) (by simp))).1
  have qx1 := (two_cells (HM.out.get (b := w4.heap.size) (o := .cells #[.slice p4 n c4, .int .i64 c] 25) (by simp))).2
  go_wp2_with fail
  refine (markBits_any ys (.slice p4 n c4) _ n c (1) _ (HM.out.owns HS4.out (by intro p hp; simp [hp])) (by omega) (by omega) (by omega)).mono ?_
  rintro e w13 ⟨rfl, ho13, hg13⟩
  obtain ⟨L13, hs13, hm13⟩ := Mem.write (A := [] ++ [(w.heap.size, Obj.cells #[.slice ao0 len0 cap0, .int .i64 a0] 40)] ++ [(w.heap.size + 1, Obj.cells #[.slice ao1 len1 cap1, .int .i64 a1] 40)] ++ [(B1, Obj.cells #[.slice p1 n c1, .int .i64 c] 25)] ++ L1 ++ L10 ++ [(w2.heap.size, Obj.cells #[.slice p2 len0 c2, .int .i64 a0] 25)] ++ L11 ++ [(w3.heap.size, Obj.cells #[.slice p3 len1 c3, .int .i64 a1] 25)]) (L1 := L4) (B := [] ++ [(w4.heap.size, Obj.cells #[.slice p4 n c4, .int .i64 c] 25)]) (HM.out.cast (by simp)) HS4.out hg13 ho13
  have HM := Lib.hid hm13
  have HSm := Lib.hid hs13
  clear hm13 ho13 hg13 hs13 qx0 qx1
  have qg0 := (two_cells (HM.out.get (b := w4.heap.size) (o := .cells #[.slice p4 n c4, .int .i64 c] 25) (by simp))).1
  have qg1 := (two_cells (HM.out.get (b := w4.heap.size) (o := .cells #[.slice p4 n c4, .int .i64 c] 25) (by simp))).2
  go_wp2_with fail
  refine (heldBits_any p4 n c4 c 1 _ (HSm.out.toInts HM.out (by intro p hp; simp [hp])) (by omega) (by omega) (by omega)).mono ?_
  rintro e w14 ⟨rfl, hg14⟩
  have HM := Lib.hid (HM.out.grown hg14)
  clear hg14 qg0 qg1
  have HM := Lib.hid (HM.out.cast (L' := [] ++ [(w.heap.size, Obj.cells #[.slice ao0 len0 cap0, .int .i64 a0] 40)] ++ [(w.heap.size + 1, Obj.cells #[.slice ao1 len1 cap1, .int .i64 a1] 40)] ++ [(B1, Obj.cells #[.slice p1 n c1, .int .i64 c] 25)] ++ L1 ++ L10 ++ [(w2.heap.size, Obj.cells #[.slice p2 len0 c2, .int .i64 a0] 25)] ++ L11 ++ [(w3.heap.size, Obj.cells #[.slice p3 len1 c3, .int .i64 a1] 25)] ++ L13 ++ [(w4.heap.size, Obj.cells #[.slice p4 n c4, .int .i64 c] 25)]) (by simp))
  have q00 := (two_cells (HM.out.get (b := w.heap.size) (o := .cells #[.slice ao0 len0 cap0, .int .i64 a0] 40) (by simp))).1
  have q01 := (two_cells (HM.out.get (b := w.heap.size) (o := .cells #[.slice ao0 len0 cap0, .int .i64 a0] 40) (by simp))).2
  have q10 := (two_cells (HM.out.get (b := w.heap.size + 1) (o := .cells #[.slice ao1 len1 cap1, .int .i64 a1] 40) (by simp))).1
  have q11 := (two_cells (HM.out.get (b := w.heap.size + 1) (o := .cells #[.slice ao1 len1 cap1, .int .i64 a1] 40) (by simp))).2
  have hz0 := block_lt (HM.out.get (b := w.heap.size + 1) (o := .cells #[.slice ao1 len1 cap1, .int .i64 a1] 40) (by simp))
  go_upto_region 31 with fail
  go_cut [15, 16] from 94 to 101 (fun aa bb wx => ∃ (Bk : Nat) (pp : Option Addr) (cc : Nat) (Ln : List (Nat × Obj)) (base : Nat), aa = .pointer (some ⟨Bk, 0, none⟩) ∧ bb = .bool v ∧ Hid (Stands Ln base (.slice pp n cc) n ys) ∧ Hid (Mem w wx ([] ++ [(w.heap.size, Obj.cells #[.slice ao0 len0 cap0, .int .i64 a0] 40)] ++ [(w.heap.size + 1, Obj.cells #[.slice ao1 len1 cap1, .int .i64 a1] 40)] ++ [(B1, Obj.cells #[.slice p1 n c1, .int .i64 c] 25)] ++ L1 ++ L10 ++ [(w2.heap.size, Obj.cells #[.slice p2 len0 c2, .int .i64 a0] 25)] ++ L11 ++ [(w3.heap.size, Obj.cells #[.slice p3 len1 c3, .int .i64 a1] 25)] ++ L13 ++ [(w4.heap.size, Obj.cells #[.slice p4 n c4, .int .i64 c] 25)] ++ [(Bk, Obj.cells #[.slice pp n cc, .int .i64 c] 25)] ++ Ln)))
  case first =>
    have Mn0 := HM
    clear HM
    go_wp2_with fail
    (go_region_held3 (fun w' => w'.cell? ⟨w.heap.size, 0, none⟩ = some (.slice ao0 len0 cap0) ∧ w'.cell? ⟨w.heap.size, 1, none⟩ = some (.int .i64 a0) ∧ w'.cell? ⟨w.heap.size + 1, 0, none⟩ = some (.slice ao1 len1 cap1) ∧ w'.cell? ⟨w.heap.size + 1, 1, none⟩ = some (.int .i64 a1)) (first | go_keep | exact ⟨by assumption, by assumption, by assumption, by assumption⟩ | exact ⟨cell_al (by assumption), cell_al (by assumption), cell_al (by assumption), cell_al (by assumption)⟩ | exact ⟨cell_st (by assumption) (by simp; try omega) (by simp; try omega), cell_st (by assumption) (by simp; try omega) (by simp; try omega), cell_st (by assumption) (by simp; try omega) (by simp; try omega), cell_st (by assumption) (by simp; try omega) (by simp; try omega)⟩) ((first
      | (go_at_call 27; have Tk := Mn0; refine (toBits_any xs0 ao0 len0 cap0 a0 _ ((HX0.out.grown Mn0.out.g).grown (grown_drew _ _)) (by omega)).mono ?_; rintro e wx151 ⟨vx151, rfl, hox, hgx⟩; obtain ⟨px151, cx151, rfl, hlcx151, hnx, hxx, _⟩ := hox.reads; have HNx151 := Lib.hid hnx; have HYx151 := Lib.hid hxx; have Mn1 := Lib.hid ((Mn0.out.grown (grown_drew _ none)).grown hgx); clear Mn0 Tk hox hgx hnx hxx; have hz1 := block_lt (Mn1.out.get (b := w.heap.size + 1) (o := .cells #[.slice ao1 len1 cap1, .int .i64 a1] 40) (by simp)); have s100 := (two_cells (Mn1.out.get (b := w.heap.size) (o := .cells #[.slice ao0 len0 cap0, .int .i64 a0] 40) (by simp))).1; have s101 := (two_cells (Mn1.out.get (b := w.heap.size) (o := .cells #[.slice ao0 len0 cap0, .int .i64 a0] 40) (by simp))).2; have s110 := (two_cells (Mn1.out.get (b := w.heap.size + 1) (o := .cells #[.slice ao1 len1 cap1, .int .i64 a1] 40) (by simp))).1; have s111 := (two_cells (Mn1.out.get (b := w.heap.size + 1) (o := .cells #[.slice ao1 len1 cap1, .int .i64 a1] 40) (by simp))).2)
      | (go_at_call 27; have Tk := Mn0; refine (toBits_any xs0 ao0 len0 cap0 a0 _ ((HX0.out.grown (grown_trans Mn0.out.g (grown_alloc _ (.cells #[.slice none 0 0, .int .i64 0] 25) none))).grown (grown_drew _ _)) (by omega)).mono ?_; rintro e wx151 ⟨vx151, rfl, hox, hgx⟩; obtain ⟨px151, cx151, rfl, hlcx151, hnx, hxx, _⟩ := hox.reads; have HNx151 := Lib.hid hnx; have HYx151 := Lib.hid hxx; have Mz1p1 := Lib.hid (((Mn0.out.block (.cells #[.slice none 0 0, .int .i64 0] 25)).grown (grown_drew _ none)).grown hgx); clear Mn0 Tk hox hgx hnx hxx; have hz1 := block_lt (Mz1p1.out.get (b := w.heap.size + 1) (o := .cells #[.slice ao1 len1 cap1, .int .i64 a1] 40) (by simp)); have s100 := (two_cells (Mz1p1.out.get (b := w.heap.size) (o := .cells #[.slice ao0 len0 cap0, .int .i64 a0] 40) (by simp))).1; have s101 := (two_cells (Mz1p1.out.get (b := w.heap.size) (o := .cells #[.slice ao0 len0 cap0, .int .i64 a0] 40) (by simp))).2; have s110 := (two_cells (Mz1p1.out.get (b := w.heap.size + 1) (o := .cells #[.slice ao1 len1 cap1, .int .i64 a1] 40) (by simp))).1; have s111 := (two_cells (Mz1p1.out.get (b := w.heap.size + 1) (o := .cells #[.slice ao1 len1 cap1, .int .i64 a1] 40) (by simp))).2)
      | (go_at_call 27; have Tk := Mn1; refine (toBits_any xs1 ao1 len1 cap1 a1 _ (HX1.out.grown Mn1.out.g) (by omega)).mono ?_; rintro e wx152 ⟨vx152, rfl, hox, hgx⟩; obtain ⟨px152, cx152, rfl, hlcx152, hnx, hxx, _⟩ := hox.reads; have HNx152 := Lib.hid hnx; have HYx152 := Lib.hid hxx; have HYx151 := Lib.hid ((HYx151.out).grown hgx); have Mn2 := Lib.hid (Mn1.out.grown hgx); clear Mn1 Tk hox hgx hnx hxx; have hz2 := block_lt (Mn2.out.get (b := w.heap.size + 1) (o := .cells #[.slice ao1 len1 cap1, .int .i64 a1] 40) (by simp)); have s200 := (two_cells (Mn2.out.get (b := w.heap.size) (o := .cells #[.slice ao0 len0 cap0, .int .i64 a0] 40) (by simp))).1; have s201 := (two_cells (Mn2.out.get (b := w.heap.size) (o := .cells #[.slice ao0 len0 cap0, .int .i64 a0] 40) (by simp))).2; have s210 := (two_cells (Mn2.out.get (b := w.heap.size + 1) (o := .cells #[.slice ao1 len1 cap1, .int .i64 a1] 40) (by simp))).1; have s211 := (two_cells (Mn2.out.get (b := w.heap.size + 1) (o := .cells #[.slice ao1 len1 cap1, .int .i64 a1] 40) (by simp))).2)
      | (go_at_call 27; have Tk := Mn1; refine (toBits_any xs1 ao1 len1 cap1 a1 _ (HX1.out.grown (grown_trans Mn1.out.g (grown_alloc _ (.cells #[.slice none 0 0, .int .i64 0] 25) none))) (by omega)).mono ?_; rintro e wx152 ⟨vx152, rfl, hox, hgx⟩; obtain ⟨px152, cx152, rfl, hlcx152, hnx, hxx, _⟩ := hox.reads; have HNx152 := Lib.hid hnx; have HYx152 := Lib.hid hxx; have HYx151 := Lib.hid ((HYx151.out.grown (grown_alloc _ (.cells #[.slice none 0 0, .int .i64 0] 25) none)).grown hgx); have Mz2p2 := Lib.hid ((Mn1.out.block (.cells #[.slice none 0 0, .int .i64 0] 25)).grown hgx); clear Mn1 Tk hox hgx hnx hxx; have hz2 := block_lt (Mz2p2.out.get (b := w.heap.size + 1) (o := .cells #[.slice ao1 len1 cap1, .int .i64 a1] 40) (by simp)); have s200 := (two_cells (Mz2p2.out.get (b := w.heap.size) (o := .cells #[.slice ao0 len0 cap0, .int .i64 a0] 40) (by simp))).1; have s201 := (two_cells (Mz2p2.out.get (b := w.heap.size) (o := .cells #[.slice ao0 len0 cap0, .int .i64 a0] 40) (by simp))).2; have s210 := (two_cells (Mz2p2.out.get (b := w.heap.size + 1) (o := .cells #[.slice ao1 len1 cap1, .int .i64 a1] 40) (by simp))).1; have s211 := (two_cells (Mz2p2.out.get (b := w.heap.size + 1) (o := .cells #[.slice ao1 len1 cap1, .int .i64 a1] 40) (by simp))).2)
      | (go_at_call 27; have Tk := Mz1p1; refine (toBits_any xs1 ao1 len1 cap1 a1 _ (HX1.out.grown Mz1p1.out.g) (by omega)).mono ?_; rintro e wx152 ⟨vx152, rfl, hox, hgx⟩; obtain ⟨px152, cx152, rfl, hlcx152, hnx, hxx, _⟩ := hox.reads; have HNx152 := Lib.hid hnx; have HYx152 := Lib.hid hxx; have HYx151 := Lib.hid ((HYx151.out).grown hgx); have Mz2p1 := Lib.hid (Mz1p1.out.grown hgx); clear Mz1p1 Tk hox hgx hnx hxx; have hz2 := block_lt (Mz2p1.out.get (b := w.heap.size + 1) (o := .cells #[.slice ao1 len1 cap1, .int .i64 a1] 40) (by simp)); have s200 := (two_cells (Mz2p1.out.get (b := w.heap.size) (o := .cells #[.slice ao0 len0 cap0, .int .i64 a0] 40) (by simp))).1; have s201 := (two_cells (Mz2p1.out.get (b := w.heap.size) (o := .cells #[.slice ao0 len0 cap0, .int .i64 a0] 40) (by simp))).2; have s210 := (two_cells (Mz2p1.out.get (b := w.heap.size + 1) (o := .cells #[.slice ao1 len1 cap1, .int .i64 a1] 40) (by simp))).1; have s211 := (two_cells (Mz2p1.out.get (b := w.heap.size + 1) (o := .cells #[.slice ao1 len1 cap1, .int .i64 a1] 40) (by simp))).2)
      | (go_at_call 21; have Tk := Mn2; refine (HI.out px151 px152 cx151 cx152 _ (HYx151.out) hlcx151 HNx151.out (HYx152.out) hlcx152 HNx152.out (HE.out.grown Mn2.out.g)).mono ?_; rintro e wx153 ⟨vx153, rfl, hox, hgx⟩; obtain ⟨Lx15, hsx, hmx⟩ := Mn2.out.own hgx (Nat.le_refl _) hox; obtain ⟨px153, cx153, rfl, _⟩ := hox.reads; have HSx15 := Lib.hid hsx; have Mn3 := Lib.hid hmx; clear Mn2 Tk hox hgx hsx hmx; have hz3 := block_lt (Mn3.out.get (b := w.heap.size + 1) (o := .cells #[.slice ao1 len1 cap1, .int .i64 a1] 40) (by simp)); have t300 := (two_cells (Mn3.out.get (b := w.heap.size) (o := .cells #[.slice ao0 len0 cap0, .int .i64 a0] 40) (by simp))).1; have t301 := (two_cells (Mn3.out.get (b := w.heap.size) (o := .cells #[.slice ao0 len0 cap0, .int .i64 a0] 40) (by simp))).2; have t310 := (two_cells (Mn3.out.get (b := w.heap.size + 1) (o := .cells #[.slice ao1 len1 cap1, .int .i64 a1] 40) (by simp))).1; have t311 := (two_cells (Mn3.out.get (b := w.heap.size + 1) (o := .cells #[.slice ao1 len1 cap1, .int .i64 a1] 40) (by simp))).2)
      | (go_at_call 21; have Tk := Mn2; refine (HI.out px151 px152 cx151 cx152 _ (HYx151.out.grown (grown_alloc _ (.cells #[.slice none 0 0, .int .i64 0] 25) none)) hlcx151 HNx151.out (HYx152.out.grown (grown_alloc _ (.cells #[.slice none 0 0, .int .i64 0] 25) none)) hlcx152 HNx152.out (HE.out.grown (Mn2.out.block (.cells #[.slice none 0 0, .int .i64 0] 25)).g)).mono ?_; rintro e wx153 ⟨vx153, rfl, hox, hgx⟩; obtain ⟨Lx15, hsx, hmx⟩ := (Mn2.out.block (.cells #[.slice none 0 0, .int .i64 0] 25)).own hgx (Nat.le_refl _) hox; obtain ⟨px153, cx153, rfl, _⟩ := hox.reads; have HSx15 := Lib.hid hsx; have Mz3p3 := Lib.hid hmx; clear Mn2 Tk hox hgx hsx hmx; have hz3 := block_lt (Mz3p3.out.get (b := w.heap.size + 1) (o := .cells #[.slice ao1 len1 cap1, .int .i64 a1] 40) (by simp)); have t300 := (two_cells (Mz3p3.out.get (b := w.heap.size) (o := .cells #[.slice ao0 len0 cap0, .int .i64 a0] 40) (by simp))).1; have t301 := (two_cells (Mz3p3.out.get (b := w.heap.size) (o := .cells #[.slice ao0 len0 cap0, .int .i64 a0] 40) (by simp))).2; have t310 := (two_cells (Mz3p3.out.get (b := w.heap.size + 1) (o := .cells #[.slice ao1 len1 cap1, .int .i64 a1] 40) (by simp))).1; have t311 := (two_cells (Mz3p3.out.get (b := w.heap.size + 1) (o := .cells #[.slice ao1 len1 cap1, .int .i64 a1] 40) (by simp))).2; have r0 := (two_cells (Mz3p3.out.get (b := wx152.heap.size) (o := .cells #[.slice none 0 0, .int .i64 0] 25) (by simp))).1; have r1 := (two_cells (Mz3p3.out.get (b := wx152.heap.size) (o := .cells #[.slice none 0 0, .int .i64 0] 25) (by simp))).2; have f0 := frozen_of_row wx153 (wx152.heap.size) 0 _ _ (Mz3p3.out.get (b := wx152.heap.size) (o := .cells #[.slice none 0 0, .int .i64 0] 25) (by simp)); have f1 := frozen_of_row wx153 (wx152.heap.size) 1 _ _ (Mz3p3.out.get (b := wx152.heap.size) (o := .cells #[.slice none 0 0, .int .i64 0] 25) (by simp)))
      | (go_at_call 21; have Tk := Mz2p1; refine (HI.out px151 px152 cx151 cx152 _ (HYx151.out) hlcx151 HNx151.out (HYx152.out) hlcx152 HNx152.out (HE.out.grown Mz2p1.out.g)).mono ?_; rintro e wx153 ⟨vx153, rfl, hox, hgx⟩; obtain ⟨Lx15, hsx, hmx⟩ := Mz2p1.out.own hgx (Nat.le_refl _) hox; obtain ⟨px153, cx153, rfl, _⟩ := hox.reads; have HSx15 := Lib.hid hsx; have Mz3p1 := Lib.hid hmx; clear Mz2p1 Tk hox hgx hsx hmx; have hz3 := block_lt (Mz3p1.out.get (b := w.heap.size + 1) (o := .cells #[.slice ao1 len1 cap1, .int .i64 a1] 40) (by simp)); have t300 := (two_cells (Mz3p1.out.get (b := w.heap.size) (o := .cells #[.slice ao0 len0 cap0, .int .i64 a0] 40) (by simp))).1; have t301 := (two_cells (Mz3p1.out.get (b := w.heap.size) (o := .cells #[.slice ao0 len0 cap0, .int .i64 a0] 40) (by simp))).2; have t310 := (two_cells (Mz3p1.out.get (b := w.heap.size + 1) (o := .cells #[.slice ao1 len1 cap1, .int .i64 a1] 40) (by simp))).1; have t311 := (two_cells (Mz3p1.out.get (b := w.heap.size + 1) (o := .cells #[.slice ao1 len1 cap1, .int .i64 a1] 40) (by simp))).2; have r0 := (two_cells (Mz3p1.out.get (b := w14.heap.size) (o := .cells #[.slice none 0 0, .int .i64 0] 25) (by simp))).1; have r1 := (two_cells (Mz3p1.out.get (b := w14.heap.size) (o := .cells #[.slice none 0 0, .int .i64 0] 25) (by simp))).2; have f0 := frozen_of_row wx153 (w14.heap.size) 0 _ _ (Mz3p1.out.get (b := w14.heap.size) (o := .cells #[.slice none 0 0, .int .i64 0] 25) (by simp)); have f1 := frozen_of_row wx153 (w14.heap.size) 1 _ _ (Mz3p1.out.get (b := w14.heap.size) (o := .cells #[.slice none 0 0, .int .i64 0] 25) (by simp)))
      | (go_at_call 21; have Tk := Mz2p2; refine (HI.out px151 px152 cx151 cx152 _ (HYx151.out) hlcx151 HNx151.out (HYx152.out) hlcx152 HNx152.out (HE.out.grown Mz2p2.out.g)).mono ?_; rintro e wx153 ⟨vx153, rfl, hox, hgx⟩; obtain ⟨Lx15, hsx, hmx⟩ := Mz2p2.out.own hgx (Nat.le_refl _) hox; obtain ⟨px153, cx153, rfl, _⟩ := hox.reads; have HSx15 := Lib.hid hsx; have Mz3p2 := Lib.hid hmx; clear Mz2p2 Tk hox hgx hsx hmx; have hz3 := block_lt (Mz3p2.out.get (b := w.heap.size + 1) (o := .cells #[.slice ao1 len1 cap1, .int .i64 a1] 40) (by simp)); have t300 := (two_cells (Mz3p2.out.get (b := w.heap.size) (o := .cells #[.slice ao0 len0 cap0, .int .i64 a0] 40) (by simp))).1; have t301 := (two_cells (Mz3p2.out.get (b := w.heap.size) (o := .cells #[.slice ao0 len0 cap0, .int .i64 a0] 40) (by simp))).2; have t310 := (two_cells (Mz3p2.out.get (b := w.heap.size + 1) (o := .cells #[.slice ao1 len1 cap1, .int .i64 a1] 40) (by simp))).1; have t311 := (two_cells (Mz3p2.out.get (b := w.heap.size + 1) (o := .cells #[.slice ao1 len1 cap1, .int .i64 a1] 40) (by simp))).2; have r0 := (two_cells (Mz3p2.out.get (b := wx151.heap.size) (o := .cells #[.slice none 0 0, .int .i64 0] 25) (by simp))).1; have r1 := (two_cells (Mz3p2.out.get (b := wx151.heap.size) (o := .cells #[.slice none 0 0, .int .i64 0] 25) (by simp))).2; have f0 := frozen_of_row wx153 (wx151.heap.size) 0 _ _ (Mz3p2.out.get (b := wx151.heap.size) (o := .cells #[.slice none 0 0, .int .i64 0] 25) (by simp)); have f1 := frozen_of_row wx153 (wx151.heap.size) 1 _ _ (Mz3p2.out.get (b := wx151.heap.size) (o := .cells #[.slice none 0 0, .int .i64 0] 25) (by simp))))))
    all_goals (go_wp2_with fail; go_meet; first | (exact ⟨wx153.heap.size, px153, cx153, Lx15, _, rfl, rfl, HSx15, Lib.hid ((Mn3.out.block (.cells #[.slice px153 n cx153, .int .i64 c] 25)).perm (perm_mid _ _ _))⟩) | (exact ⟨w14.heap.size, px153, cx153, Lx15, _, rfl, rfl, HSx15, Lib.hid (Mz3p1.out.set2 _ _)⟩) | (exact ⟨wx151.heap.size, px153, cx153, Lx15, _, rfl, rfl, HSx15, Lib.hid (Mz3p2.out.set2 _ _)⟩) | (exact ⟨wx152.heap.size, px153, cx153, Lx15, _, rfl, rfl, HSx15, Lib.hid (Mz3p3.out.set2 _ _)⟩))
  case rest =>
  obtain ⟨B15, p15, c15, L15, base15, rfl, rfl, HS15, HM⟩ := hcut
  clear hz0 q00 q01 q10 q11
  generalize wc = w15 at *
  have qg0 := (two_cells (HM.out.get (b := B15) (o := .cells #[.slice p15 n c15, .int .i64 c] 25) (by simp))).1
  have qg1 := (two_cells (HM.out.get (b := B15) (o := .cells #[.slice p15 n c15, .int .i64 c] 25) (by simp))).2
  have qw0 := (two_cells (HM.out.get (b := B1) (o := .cells #[.slice p1 n c1, .int .i64 c] 25) (by simp))).1
  have qw1 := (two_cells (HM.out.get (b := B1) (o := .cells #[.slice p1 n c1, .int .i64 c] 25) (by simp))).2
  go_wp2_with fail
  refine (eqBits_same ys p15 p1 n c15 c1 c _ (HS15.out.toInts HM.out (by intro p hp; simp [hp])) (HS1.out.toInts HM.out (by intro p hp; simp [hp])) (by omega)).mono ?_
  rintro e w16 ⟨rfl, hg16⟩
  have HM := Lib.hid (HM.out.grown hg16)
  clear hg16 qg0 qg1 qw0 qw1
  have qg0 := (two_cells (HM.out.get (b := w4.heap.size) (o := .cells #[.slice p4 n c4, .int .i64 c] 25) (by simp))).1
  have qg1 := (two_cells (HM.out.get (b := w4.heap.size) (o := .cells #[.slice p4 n c4, .int .i64 c] 25) (by simp))).2
  go_wp2_with fail
  refine (heldBits_any p4 n c4 c 1 _ (HSm.out.toInts HM.out (by intro p hp; simp [hp])) (by omega) (by omega) (by omega)).mono ?_
  rintro e w17 ⟨rfl, hg17⟩
  have HM := Lib.hid (HM.out.grown hg17)
  clear hg17 qg0 qg1
  go_wp2
  go_ret
  exact ⟨rfl, HM.out.g⟩
end Go.Proofs.YtcgcippniicaaaaDoor
