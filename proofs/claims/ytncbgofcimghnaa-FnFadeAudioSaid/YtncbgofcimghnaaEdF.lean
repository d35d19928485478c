/-
  Faded audio: the specification's text. For all channels that can be read.
-/
import Derived.Test.YtncbgofcimghnaaEdS
import Derived.Test.YtncbgofcimghnaaScS
import Derived.Deep.RegionHeld3
import Derived.Deep.Cut
import Derived.Deep.CutRange
namespace Go.Proofs.Ytncbgofcimghnaa
open Go.RowKit

theorem cell_st1d {w : World} {a b : Addr} {v x : Value} (h : w.cell? a = some v) (h1 : a.block ≠ b.block) : (w.setCell b x).drew.cell? a = some v := cell_st1 h h1
/-- The first k numbers faded, the others not. -/
def fmx (s : Nat) (xs : List Int) (k : Nat) : List Int := fdP s (xs.take k) ++ xs.drop k
theorem fmx_zero (s : Nat) (xs : List Int) : fmx s xs 0 = xs := by simp [fmx, fdP]
theorem fmx_full (s : Nat) (xs : List Int) : fmx s xs s = fdL s xs := rfl
theorem fmx_len (s : Nat) (xs : List Int) (k : Nat) : (fmx s xs k).length = xs.length := by unfold fmx; rw [List.length_append, fdP_len]; simp; omega
theorem fmx_get {s : Nat} {xs : List Int} {k : Nat} {x : Int} (h : xs[k]? = some x) : (fmx s xs k)[k]? = some x := by
  have hk := (List.getElem?_eq_some_iff.1 h).1
  unfold fmx
  rw [List.getElem?_append_right (by rw [fdP_len]; simp; omega), List.getElem?_drop, fdP_len]
  simp [Nat.min_eq_left (Nat.le_of_lt hk), h]
theorem fmx_set {s : Nat} {xs : List Int} {k : Nat} {x : Int} (h : xs[k]? = some x) : (fmx s xs k).set k (fdf s k x) = fmx s xs (k + 1) := by
  have hk := (List.getElem?_eq_some_iff.1 h).1
  unfold fmx
  have hl : (fdP s (xs.take k)).length = k := by rw [fdP_len]; simp; omega
  rw [List.set_append_right _ _ (by omega), hl, Nat.sub_self, fdP_take h, List.drop_eq_getElem_cons hk, List.set_cons_zero]
  simp

set_option maxRecDepth 100000 in
set_option maxHeartbeats 4000000 in
theorem sFd_any (xss : List (List Int)) (ao : Option Addr) (len cap : Nat) (r d t : Int) (w : World) (rr dd : Int) (yss : List (List Int)) (ok : Bool) (hx : Mat w ao len xss) (hs : szL xss ≤ 1048576) (hv : FdR r d t xss rr dd yss ok) :
    Calls Try.prog 25 #[.agg #[.int .i64 r, .int .i64 d, .slice ao len cap], .int .i64 t] w (MadeAB yss rr dd ok w) := by
  have hg0 : w.grownBy ((w.alloc (.cells #[.int .i64 r, .int .i64 d, .slice ao len cap] 25)).alloc (.cells #[.int .i64 0, .int .i64 0, .slice none 0 0] 25)) none := grown_trans (grown_alloc _ _ _) (grown_alloc _ _ _)
  have k1 := svAu_any xss ao len cap r d ((w.alloc (.cells #[.int .i64 r, .int .i64 d, .slice ao len cap] 25)).alloc (.cells #[.int .i64 0, .int .i64 0, .slice none 0 0] 25)) _ (hx.grown hg0) hs rfl
  have hb0 : ((w.alloc (.cells #[.int .i64 r, .int .i64 d, .slice ao len cap] 25)).alloc (.cells #[.int .i64 0, .int .i64 0, .slice none 0 0] 25)).heap[w.heap.size]? = some (.cells #[.int .i64 r, .int .i64 d, .slice ao len cap] 25) := grown_heap (grown_alloc _ _ none) (heap_alloc_new w _) (by simp)
  have hz0 : ((w.alloc (.cells #[.int .i64 r, .int .i64 d, .slice ao len cap] 25)).alloc (.cells #[.int .i64 0, .int .i64 0, .slice none 0 0] 25)).heap[w.heap.size + 1]? = some (.cells #[.int .i64 0, .int .i64 0, .slice none 0 0] 25) := by have := heap_alloc_new (w.alloc (.cells #[.int .i64 r, .int .i64 d, .slice ao len cap] 25)) (.cells #[.int .i64 0, .int .i64 0, .slice none 0 0] 25); simpa using this
  cases hva : vAu r d xss with
  | false =>
    rw [hva] at k1
    obtain ⟨rfl, rfl, rfl, rfl⟩ := hv.no (fun h => by rw [h.1] at hva; cases hva)
    clear hx hs hva hv
    go_enter Try.func25, Try.ntmps25
    go_wp2_with fail
    refine k1.mono ?_
    rintro e w1 ⟨rfl, hg⟩
    have HG := Lib.hid (grown_trans hg0 hg)
    have HB := Lib.hid (grown_heap hg hb0 (by simp))
    have HZ := Lib.hid (grown_heap hg hz0 (by simp))
    clear k1 hg hb0 hz0
    obtain ⟨z0, z1, z2⟩ := three_cells HZ.out
    have f0 := frozen_of_row w1 _ 0 _ _ HZ.out
    have f1 := frozen_of_row w1 _ 1 _ _ HZ.out
    have f2 := frozen_of_row w1 _ 2 _ _ HZ.out
    go_wp2
    refine bodyPost_ret (v := .tuple #[.agg #[.int .i64 0, .int .i64 0, .slice none 0 0], .bool false]) (by simp [results, Try.results25, go_sem, z0, z1, z2]) rfl ⟨_, rfl, ?_⟩
    exact own_res (mown_nil _ _) HG.out (by omega)
  | true =>
  rw [hva] at k1
  obtain ⟨u, H, hV⟩ := va_of hva
  have hHd := hV.hd
  have hlen : len ≤ 2 := by have := hV.ch.2; rw [hx.1] at this; exact this
  have hlen1 : 1 ≤ len := by have := hV.ch.1; rw [hx.1] at this; exact this
  have hH : H ≤ 256 := hV.hh
  obtain ⟨b, off, rfl, hc⟩ := hx.2.resolve_left (by intro e; have := hx.1; rw [e] at this; simp at this; omega)
  obtain ⟨xs0, hxs0, hxl0⟩ := hV.first
  obtain ⟨u0, hu0, a0, c0, rfl, hin0⟩ := hc 0 xs0 hxs0
  clear hin0
  rw [hxl0, Nat.add_zero] at hu0
  have k2 := fun (x lo hi : Int) W v (h : inB x lo hi = v) => inRange_any x lo hi v W h
  by_cases ht : ¬ (0 ≤ t ∧ t ≤ (H : Int))
  · obtain ⟨rfl, rfl, rfl, rfl⟩ := hv.no (fun h => ht ⟨h.2.1, by have := h.2.2; omega⟩)
    have k3 := fun W => k2 t 0 (H : Int) W false (inB_false ht)
    clear hs hva hv ht k2 hV hc hxs0
    go_enter Try.func25, Try.ntmps25
    go_wp2_with fail
    refine k1.mono ?_
    rintro e w1 ⟨rfl, hg⟩
    have HG := Lib.hid (grown_trans hg0 hg)
    have HB := Lib.hid (grown_heap hg hb0 (by simp))
    have HZ := Lib.hid (grown_heap hg hz0 (by simp))
    clear k1 hg hb0 hz0
    obtain ⟨q0, q1, q2⟩ := three_cells HB.out
    have q3 := HG.out.cell hu0 (by simp)
    go_wp2_with fail
    refine (k3 _).mono ?_
    rintro e w2 ⟨rfl, rfl⟩
    clear k3
    obtain ⟨z0, z1, z2⟩ := three_cells HZ.out
    have f0 := frozen_of_row w1 _ 0 _ _ HZ.out
    have f1 := frozen_of_row w1 _ 1 _ _ HZ.out
    have f2 := frozen_of_row w1 _ 2 _ _ HZ.out
    go_wp2
    refine bodyPost_ret (v := .tuple #[.agg #[.int .i64 0, .int .i64 0, .slice none 0 0], .bool false]) (by simp [results, Try.results25, go_sem, z0, z1, z2]) rfl ⟨_, rfl, ?_⟩
    exact own_res (mown_nil _ _) HG.out (by omega)
  replace ht := Classical.not_not.1 ht
  have k3 := fun W => k2 t 0 (H : Int) W true (inB_true ht.1 ht.2)
  obtain ⟨rfl, rfl, rfl, rfl⟩ := hv.yes ⟨hva, ht.1, by rw [hHd]; exact ht.2⟩
  obtain ⟨s, rfl⟩ := Int.eq_ofNat_of_zero_le ht.1
  have hsH : s ≤ H := by omega
  simp only [Int.toNat_natCast] at *
  have kS := fun W (hgW : w.grownBy W none) => sSlice_any xss (some ⟨b, off, none⟩) len cap 0 H W (hx.grown hgW) (by omega) (by omega) (by omega) (fun k xs hk => by rw [(hV.row k xs hk).1]; exact Nat.le_refl _)
  have hsl : Hid (xss.map (cutR 0 H) = xss) := by
    show _ = _
    conv => rhs; rw [← List.map_id xss]
    exact List.map_congr_left (fun xs hm => by
      obtain ⟨k, hk⟩ := List.getElem?_of_mem hm
      exact cutR_all (hV.row k xs hk).1)
  rw [hsl.out] at kS
  have HX := Lib.hid hx
  have HL := Lib.hid hx.1
  have HV := Lib.hid hV
  have HC := Lib.hid hc
  have hbw : b < w.heap.size := block_lt_of_cell hu0
  clear hx hs hva hv ht k2 hV hc hxs0 hsl hHd hxl0
  go_enter Try.func25, Try.ntmps25
  go_wp2_with fail
  refine k1.mono ?_
  rintro e w1 ⟨rfl, hg⟩
  have HG := Lib.hid (grown_trans hg0 hg)
  have HB := Lib.hid (grown_heap hg hb0 (by simp))
  have HZ := Lib.hid (grown_heap hg hz0 (by simp))
  clear k1 hg hb0 hz0
  obtain ⟨q0, q1, q2⟩ := three_cells HB.out
  have q3 := HG.out.cell hu0 (by simp)
  have hsz : w.heap.size + 2 ≤ w1.heap.size := by have := block_lt HZ.out; omega
  have hTn : True := trivial
  have hlen0 : 0 < len := by omega
  go_wp2_with fail
  refine (k3 _).mono ?_
  rintro e w2 ⟨rfl, rfl⟩
  clear k3
  go_upto_region 3 with fail
  go_cut [6] from 23 to 35 (fun aa wx => ∃ (Bk : Nat) (v : Value), aa = .pointer (some ⟨Bk, 0, none⟩) ∧ Hid (SS w wx Bk r d v len xss (.cells #[.int .i64 r, .int .i64 d, .slice (some ⟨b, off, none⟩) len cap] 25) (.cells #[.int .i64 0, .int .i64 0, .slice none 0 0] 25)))
  case first =>
    go_wp2_with fail
    go_region_held3 (fun w' => w'.cell? ⟨w.heap.size, 0, none⟩ = some (.int .i64 r) ∧ w'.cell? ⟨w.heap.size, 1, none⟩ = some (.int .i64 d) ∧ w'.cell? ⟨w.heap.size, 2, none⟩ = some (.slice (some ⟨b, off, none⟩) len cap) ∧ w'.cell? ⟨b, off, none⟩ = some (.slice a0 H c0)) (first | go_keep | exact ⟨by assumption, by assumption, by assumption, by assumption⟩ | exact ⟨cell_al (by assumption), cell_al (by assumption), cell_al (by assumption), cell_al (by assumption)⟩ | exact ⟨cell_st3 (by assumption) (by simp; omega), cell_st3 (by assumption) (by simp; omega), cell_st3 (by assumption) (by simp; omega), cell_st3 (by assumption) (by simp; omega)⟩) ((first
      | (go_at_call 44; have Tk := hTn; refine (kS _ (grown_trans HG.out (grown_drew w1 none))).mono ?_; rintro e w5 ⟨v5, rfl, ho5, hg5⟩; obtain ⟨a5, c5, rfl, _⟩ := ho5.reads; have HO5 := Lib.hid ho5; have hS0 := hg5.cell q0 (by simp); have hS1 := hg5.cell q1 (by simp); have hS2 := hg5.cell q2 (by simp); have hS3 := hg5.cell q3 (by simp); have HG5 := Lib.hid (grown_trans (grown_drew w1 none) hg5); clear hTn Tk ho5 hg5)
      | (go_at_call 44; have Tk := hTn; refine (kS _ (grown_trans HG.out (grown_trans (grown_drew w1 none) (grown_alloc _ (.cells #[.int .i64 0, .int .i64 0, .slice none 0 0] 25) _)))).mono ?_; rintro e w5 ⟨v5, rfl, ho5, hg5⟩; obtain ⟨a5, c5, rfl, _⟩ := ho5.reads; have HO5 := Lib.hid ho5; have hS0 := hg5.cell (cell_al q0) (by simp); have hS1 := hg5.cell (cell_al q1) (by simp); have hS2 := hg5.cell (cell_al q2) (by simp); have hS3 := hg5.cell (cell_al q3) (by simp); have hBk : w5.heap[w1.heap.size]? = some (.cells #[.int .i64 0, .int .i64 0, .slice none 0 0] 25) := grown_heap hg5 (heap_alloc_new w1.drew (.cells #[.int .i64 0, .int .i64 0, .slice none 0 0] 25)) (by simp); have HG5 := Lib.hid (grown_trans (grown_trans (grown_drew w1 none) (grown_alloc _ (.cells #[.int .i64 0, .int .i64 0, .slice none 0 0] 25) _)) hg5); obtain ⟨r0, r1, r2⟩ := three_cells hBk; have f0 := frozen_of_row w5 _ 0 _ _ hBk; have f1 := frozen_of_row w5 _ 1 _ _ hBk; have f2 := frozen_of_row w5 _ 2 _ _ hBk; have HBK := Lib.hid hBk; have HSZ := Lib.hid hg5.size; clear hTn Tk ho5 hg5 hBk)))
    all_goals (go_wp2_with fail; go_meet; first | exact ⟨w5.heap.size, .slice a5 len c5, rfl, ss_new HG.out HB.out HZ.out HG5.out HO5.out (by simp)⟩ | exact ⟨w1.heap.size, .slice a5 len c5, rfl, ss_set HG.out HB.out HZ.out HG5.out HO5.out (by simp) (Nat.le_refl _) HBK.out⟩)
  case rest =>
  obtain ⟨Bk, v, rfl, HS⟩ := hcut
  generalize wc = w4 at *
  obtain ⟨M, cM, rfl, hcM, hM0, _⟩ := HS.out.own.form hlen1
  clear q0 q1 q2 q3 kS hTn hu0 HG HB HZ hg0
  go_wp2
  go_loopw [7] (fun iv wr => ∃ (i : Nat), i ≤ len ∧ iv = .int .i64 i ∧ Hid (SS w wr Bk r d (.slice (some ⟨M, 0, none⟩) len cM) len (mixM (fdL s) xss i) (.cells #[.int .i64 r, .int .i64 d, .slice (some ⟨b, off, none⟩) len cap] 25) (.cells #[.int .i64 0, .int .i64 0, .slice none 0 0] 25))) (fun iv _ => len - (intOf iv).toNat)
  case atStart => exact ⟨0, Nat.zero_le _, rfl, by rw [mixM_zero]; exact HS.out⟩
  case round =>
    obtain ⟨i, hi, rfl, HW⟩ := hrel
    obtain ⟨q0, q1, q2⟩ := three_cells HW.out.box
    by_cases hlt : i < len
    · obtain ⟨xs, hxk⟩ : ∃ xs, xss[i]? = some xs := ⟨_, List.getElem?_eq_getElem (by rw [HL.out]; exact hlt)⟩
      obtain ⟨ux, hux, a, cc, rfl, hin, hlc, hcm, _⟩ := HC.out i xs hxk
      have hxl := (HV.out.row i xs hxk).1
      rw [hxl] at hux hin hlc
      have q3 := HW.out.gr.cell hux (by simp)
      have HXK := Lib.hid hxk
      have HUX := Lib.hid hux
      have HIN := Lib.hid hin
      have hST : Hid (SS w wr Bk r d (.slice (some ⟨M, 0, none⟩) len cM) len ((mixM (fdL s) xss i).set i (fmx s xs 0)) (.cells #[.int .i64 r, .int .i64 d, .slice (some ⟨b, off, none⟩) len cap] 25) (.cells #[.int .i64 0, .int .i64 0, .slice none 0 0] 25)) := by
        rw [fmx_zero, set_same (mixM_get hxk)]; exact HW.out
      clear hux hin hcm hxk hxl hlc
      go_wp2
      go_loopw [8] (fun kv wx => ∃ (k : Nat), k ≤ s ∧ kv = .int .i64 k ∧ Hid (SS w wx Bk r d (.slice (some ⟨M, 0, none⟩) len cM) len ((mixM (fdL s) xss i).set i (fmx s xs k)) (.cells #[.int .i64 r, .int .i64 d, .slice (some ⟨b, off, none⟩) len cap] 25) (.cells #[.int .i64 0, .int .i64 0, .slice none 0 0] 25))) (fun kv _ => s - (intOf kv).toNat)
      case atStart => exact ⟨0, Nat.zero_le _, rfl, hST⟩
      case round =>
        clear q0 q1 q2 q3 hST
        obtain ⟨k, hk, rfl, HR⟩ := hrel
        obtain ⟨q0, q1, q2⟩ := three_cells HR.out.box
        have q3 := HR.out.gr.cell HUX.out (by simp)
        by_cases hkt : k < s
        · obtain ⟨x, hxj⟩ : ∃ x, xs[k]? = some x := ⟨_, List.getElem?_eq_getElem (by rw [(HV.out.row i xs HXK.out).1]; omega)⟩
          obtain ⟨b2, off2, rfl, hcy⟩ := HIN.out.2.resolve_left (by intro e; subst e; simp at hxj)
          have hcx0 := hcy k x hxj
          have hb2 : b2 < w.heap.size := block_lt_of_cell hcx0
          have q4 := HR.out.gr.cell hcx0 (by simp)
          have hrow : (((mixM (fdL s) xss i).set i (fmx s xs k)))[i]? = some (fmx s xs k) := by rw [List.getElem?_set_self (by rw [mixM_len, HL.out]; exact hlt)]
          obtain ⟨g, c', m0, m1, m2, m3, m4, m5, m6, m7, ⟨cur, m8⟩, m9⟩ := HR.out.own.cellset2 hrow (fmx_get hxj)
          rw [fmx_len, (HV.out.row i xs HXK.out).1] at m0
          obtain ⟨k0, k1, k2⟩ := three_cells HR.out.blk
          have hgB : g ≠ Bk := by
            intro e; subst e
            rw [HR.out.blk] at m8
            simp at m8
          have hBk := HR.out.lo
          have hxr : -32768 ≤ x ∧ x ≤ 32768 := by have h1 := HV.out.num HXK.out hxj; have h2 := HV.out.pow.2; omega
          have hm := mul_range (a := x) (b := (k : Int)) (A := 32768) (B := 256) hxr.1 hxr.2 (by omega) (by omega) (by omega)
          obtain ⟨p, hp⟩ : ∃ p, x * (k : Int) = p := ⟨_, rfl⟩
          have e1 : 2 * x * (k : Int) = 2 * p := by rw [Int.mul_assoc, hp]
          rw [hp] at hm
          have hm0 : -8388608 ≤ p := by omega
          have hm1 : p ≤ 8388608 := by omega
          have hx0 := hxr.1
          have hx1 := hxr.2
          have hf := fun W => sFloor_any (2 * p + (s : Int)) (2 * (s : Int)) W (by omega) (by omega) (by omega)
          have hw1 : IntKind.i64.wrap (2 * x * (k : Int)) = 2 * p := by rw [e1]; exact IntWalk.i64_in _ (by omega)
          have hw2 : IntKind.i64.wrap (2 * p + (s : Int)) = 2 * p + (s : Int) := IntWalk.i64_in _ (by omega)
          have hw3 : IntKind.i64.wrap (2 * (s : Int)) = 2 * (s : Int) := IntWalk.i64_in _ (by omega)
          have hw4 : IntKind.i64.wrap (2 * x) = 2 * x := IntWalk.i64_in _ (by omega)
          obtain ⟨y, hy⟩ : ∃ y, (2 * p + (s : Int)) / (2 * (s : Int)) = y := ⟨_, rfl⟩
          rw [hy] at hf
          have HY : Hid (fdf s k x = y) := by show _ = _; unfold fdf qC; rw [hp]; exact hy
          have hkH : k < H := by omega
          have hne1 : Bk ≠ g := fun e => hgB e.symm
          have hne2 : w.heap.size ≠ g := by omega
          have hne3 : b ≠ g := by omega
          have hne4 : b2 ≠ g := by omega
          have HM9 := Lib.hid m9
          have HS2 := Lib.hid (fmx_set (s := s) hxj)
          clear hcy hcx0 m8 m9 hgB hxj hy hrow hp e1 hm hxr
          have e0 : (wr.setCell ⟨g, k, none⟩ (.int .i64 y)).drew.cell? ⟨Bk, 2, none⟩ = some (.slice (some ⟨M, 0, none⟩) len cM) := cell_st1d k2 hne1
          have e1 : (wr.setCell ⟨g, k, none⟩ (.int .i64 y)).drew.cell? ⟨M, i, none⟩ = some (.slice (some ⟨g, 0, none⟩) H c') := cell_st1d m0 m7
          have e2 : (wr.setCell ⟨g, k, none⟩ (.int .i64 y)).drew.cell? ⟨w.heap.size, 2, none⟩ = some (.slice (some ⟨b, off, none⟩) len cap) := cell_st1d q2 hne2
          have e3 : (wr.setCell ⟨g, k, none⟩ (.int .i64 y)).drew.cell? ⟨b, off + i, none⟩ = some (.slice (some ⟨b2, off2, none⟩) H cc) := cell_st1d q3 hne3
          have e4 : (wr.setCell ⟨g, k, none⟩ (.int .i64 y)).drew.cell? ⟨b2, off2 + k, none⟩ = some (.int .i64 x) := cell_st1d q4 hne4
          go_wp2_with fail
          go_region_held3 (fun w' => w'.cell? ⟨Bk, 2, none⟩ = some (.slice (some ⟨M, 0, none⟩) len cM) ∧ w'.cell? ⟨M, i, none⟩ = some (.slice (some ⟨g, 0, none⟩) H c') ∧ w'.cell? ⟨w.heap.size, 2, none⟩ = some (.slice (some ⟨b, off, none⟩) len cap) ∧ w'.cell? ⟨b, off + i, none⟩ = some (.slice (some ⟨b2, off2, none⟩) H cc) ∧ w'.cell? ⟨b2, off2 + k, none⟩ = some (.int .i64 x)) (first | go_keep | exact ⟨by assumption, by assumption, by assumption, by assumption, by assumption⟩ | exact ⟨e0, e1, e2, e3, e4⟩) ((first | (go_at_call 53; refine (hf _).mono ?_; rintro e w5 ⟨rfl, rfl⟩; have hTk : True := trivial; clear hTk)))
          all_goals
            have hz : (wr.setCell ⟨g, k, none⟩ (.int .i64 y)).grownBy (wr.drew.setCell ⟨g, k, none⟩ (.int .i64 y)) none := ⟨rfl, rfl, rfl, Nat.le_refl _, fun _ _ _ => rfl⟩
            have HN : Hid (SS w (wr.drew.setCell ⟨g, k, none⟩ (.int .i64 y)) Bk r d (.slice (some ⟨M, 0, none⟩) len cM) len ((mixM (fdL s) xss i).set i (fmx s xs (k + 1))) (.cells #[.int .i64 r, .int .i64 d, .slice (some ⟨b, off, none⟩) len cap] 25) (.cells #[.int .i64 0, .int .i64 0, .slice none 0 0] 25)) := by
              have h9 := HM9.out y
              rw [← HY.out, HS2.out] at h9
              rw [List.set_set, HY.out] at h9
              exact HR.out.store m5 hne1 h9 hz
            clear e0 e1 e2 e3 e4 HR HM9 hz m0 m1 m2 q0 q1 q2 q3 q4 k0 k1 k2 hf
            go_wp2
            go_roundw
            case rel => exact ⟨k + 1, by omega, by go_num, HN⟩
            case measure => simp [intOf]; omega
        · obtain rfl : k = s := by omega
          have HT : Hid (True) := trivial
          have HT2 := HR.out
          rw [fmx_full, mixM_set HXK.out] at HT2
          replace HR := Lib.hid HT2
          clear HT HT2
          go_wp2
          go_roundw
          case rel => exact ⟨i + 1, by omega, by go_num, HR⟩
          case measure => simp [intOf]; omega
    · obtain rfl : i = len := by omega
      have hF := HW.out
      rw [mixM_full (by rw [HL.out]; exact Nat.le_refl _)] at hF
      have HF := Lib.hid hF
      clear HW hF
      obtain ⟨k0, k1, k2⟩ := three_cells HF.out.blk
      obtain ⟨z0, z1, z2⟩ := three_cells HF.out.res
      have f0 := frozen_of_row _ _ 0 _ _ HF.out.res
      have f1 := frozen_of_row _ _ 1 _ _ HF.out.res
      have f2 := frozen_of_row _ _ 2 _ _ HF.out.res
      go_wp2
      refine bodyPost_ret (v := .tuple #[.agg #[.int .i64 r, .int .i64 d, .slice (some ⟨M, 0, none⟩) i cM], .bool true]) (by simp [results, Try.results25, go_sem, z0, z1, z2]) rfl ⟨_, rfl, ?_⟩
      rw [List.length_map, HL.out]
      exact own_res HF.out.own HF.out.gr (by omega)

end Go.Proofs.Ytncbgofcimghnaa
