/-
  Reversed audio: the specification's text. For all channels that can be read.
-/
import Derived.Test.YtncbgofcimghnaaEdS
import Derived.Deep.RegionHeld3
import Derived.Deep.Cut
import Derived.Deep.CutRange
namespace Go.Proofs.Ytncbgofcimghnaa
open Go.RowKit

theorem rev_get {xs : List Int} {n m k : Nat} (hl : xs.length = n) (h : m + 1 + k = n) : xs.reverse[k]? = xs[m]? := by
  rw [List.getElem?_reverse (by omega)]
  congr 1
  omega

set_option maxHeartbeats 1000000 in
theorem sRevd_any (xs : List Int) (ao : Option Addr) (n cap : Nat) (w : World) (hx : Ints w ao n xs) (hn : n ≤ 8000000) :
    Calls Try.prog 56 #[.slice ao n cap] w (Made xs.reverse n w) := by
  have HX := Lib.hid hx
  have HW : Hid (Owns (w.alloc (.cells #[] 3)) w.heap.size (.slice (some ⟨w.heap.size, 0, none⟩) 0 0) 0 (xs.reverse.take 0) ∧ w.grownBy (w.alloc (.cells #[] 3)) none) := ⟨World.ownsRow_made w #[] 0 (Nat.le_refl _) (by simp [maxLen]) (by simp), grown_alloc _ _ _⟩
  clear hx
  go_enter Try.func56, Try.ntmps56
  go_wp2
  go_loopw [3, 4] (fun sv iv wr => ∃ (k : Nat) (i : Int) (bv : Value), bv = sv ∧ k ≤ n ∧ iv = .int .i64 i ∧ Hid (i = (n : Int) - 1 - (k : Int)) ∧ Hid (Owns wr w.heap.size bv k (xs.reverse.take k) ∧ w.grownBy wr none)) (fun _ iv _ => (intOf iv + 1).toNat)
  case atStart => exact ⟨0, _, _, rfl, Nat.zero_le _, rfl, by show _ = _; omega, HW⟩
  case round =>
    clear HW
    obtain ⟨k, i, bv, rfl, hk, rfl, HI, HR⟩ := hrel
    by_cases hlt : k < n
    · obtain ⟨m, rfl⟩ : ∃ m : Nat, i = (m : Int) := ⟨i.toNat, by have := HI.out; omega⟩
      have hmk : m + 1 + k = n := by have := HI.out; omega
      obtain ⟨x, hxk⟩ : ∃ x, xs[m]? = some x := ⟨_, List.getElem?_eq_getElem (by rw [HX.out.1]; omega)⟩
      obtain ⟨b, off, rfl, hc⟩ := HX.out.2.resolve_left (by intro e; subst e; simp at hxk)
      have hcx : wr.cell? ⟨b, off + m, none⟩ = some (.int .i64 x) := HR.out.2.cell (hc m x hxk) (by simp)
      have HT : Hid (xs.reverse.take (k + 1) = xs.reverse.take k ++ [x]) := by show _ = _; rw [List.take_add_one, rev_get HX.out.1 hmk, hxk]; rfl
      have hmn : m < n := by omega
      have HMK := Lib.hid hmk
      have hb9 : k + 1 ≤ 8388608 := by omega
      clear hc hxk hmk HI
      have HO := Lib.hid (HR.out.1.grown (grown_alloc wr (.cells #[.int .i64 x] 3) none))
      have HG := Lib.hid HR.out.2.size
      go_wp2_with (at_builtin; refine append_ints rfl _ _ rfl w.heap.size bv k _ rfl HO.out (some ⟨wr.heap.size, 0, none⟩) 1 1 [x] rfl (ints_one _ _ _) (fun e => nomatch e) hb9 (by have := HG.out; simp; omega) ?_)
      intro v' w2 ho2 hg2
      have HN : Hid (Owns w2 w.heap.size v' (k + 1) (xs.reverse.take (k + 1)) ∧ w.grownBy w2 none) := ⟨by rw [HT.out]; exact ho2, grown_row (grown_trans HR.out.2 (grown_alloc _ (.cells #[.int .i64 x] 3) _)) hg2 (fun g e => Owns.block HR.out.1 g e)⟩
      clear HR HG ho2 hg2 hcx HO
      go_wp2
      go_roundw
      case rel => exact ⟨k + 1, (m : Int) - 1, v', rfl, by omega, by go_num, by show _ = _; have := HMK.out; omega, HN⟩
      case measure => simp [intOf]
    · obtain rfl : k = n := by omega
      obtain rfl : i = -1 := by have := HI.out; omega
      have HF : Hid (Owns wr w.heap.size bv k xs.reverse ∧ w.grownBy wr none) := by
        have := HR.out
        rw [List.take_of_length_le (by rw [List.length_reverse, HX.out.1]; exact Nat.le_refl _)] at this
        exact this
      clear HR
      go_wp2
      go_ret
      exact ⟨_, rfl, HF.out⟩

set_option maxRecDepth 100000 in
set_option maxHeartbeats 4000000 in
theorem sRv_any (xss : List (List Int)) (ao : Option Addr) (len cap : Nat) (r d : Int) (w : World) (rr dd : Int) (yss : List (List Int)) (ok : Bool) (hx : Mat w ao len xss) (hs : szL xss ≤ 1048576) (hv : RvR r d xss rr dd yss ok) :
    Calls Try.prog 29 #[.agg #[.int .i64 r, .int .i64 d, .slice ao len cap]] w (MadeA yss rr dd w) := by
  have hg0 : w.grownBy ((w.alloc (.cells #[.int .i64 r, .int .i64 d, .slice ao len cap] 25)).alloc (.cells #[.int .i64 0, .int .i64 0, .slice none 0 0] 25)) none := grown_trans (grown_alloc _ _ _) (grown_alloc _ _ _)
  have k1 := svAu_any xss ao len cap r d ((w.alloc (.cells #[.int .i64 r, .int .i64 d, .slice ao len cap] 25)).alloc (.cells #[.int .i64 0, .int .i64 0, .slice none 0 0] 25)) _ (hx.grown hg0) hs rfl
  have hb0 : ((w.alloc (.cells #[.int .i64 r, .int .i64 d, .slice ao len cap] 25)).alloc (.cells #[.int .i64 0, .int .i64 0, .slice none 0 0] 25)).heap[w.heap.size]? = some (.cells #[.int .i64 r, .int .i64 d, .slice ao len cap] 25) := grown_heap (grown_alloc _ _ none) (heap_alloc_new w _) (by simp)
  have hz0 : ((w.alloc (.cells #[.int .i64 r, .int .i64 d, .slice ao len cap] 25)).alloc (.cells #[.int .i64 0, .int .i64 0, .slice none 0 0] 25)).heap[w.heap.size + 1]? = some (.cells #[.int .i64 0, .int .i64 0, .slice none 0 0] 25) := by have := heap_alloc_new (w.alloc (.cells #[.int .i64 r, .int .i64 d, .slice ao len cap] 25)) (.cells #[.int .i64 0, .int .i64 0, .slice none 0 0] 25); simpa using this
  cases hva : vAu r d xss with
  | false =>
    rw [hva] at k1
    obtain ⟨rfl, rfl, rfl, rfl⟩ := hv.no (fun h => by rw [h] at hva; cases hva)
    clear hx hs hva hv
    go_enter Try.func29, Try.ntmps29
    go_wp2_with fail
    refine k1.mono ?_
    rintro e w1 ⟨rfl, hg⟩
    have HG := Lib.hid (grown_trans hg0 hg)
    have HB := Lib.hid (grown_heap hg hb0 (by simp))
    have HZ := Lib.hid (grown_heap hg hz0 (by simp))
    clear k1 hg hb0 hz0
    obtain ⟨z0, z1, z2⟩ := three_cells HZ.out
    have f0 := frozen_of_row w1 _ 0 _ _ HZ.out
    have f1 := frozen_of_row w1 _ 1 _ _ HZ.out
    have f2 := frozen_of_row w1 _ 2 _ _ HZ.out
    go_wp2
    refine bodyPost_ret (v := .agg #[.int .i64 0, .int .i64 0, .slice none 0 0]) (by simp [results, Try.results29, go_sem, z0, z1, z2]) rfl ⟨_, rfl, ?_⟩
    exact own_res (mown_nil _ _) HG.out (by omega)
  | true =>
  rw [hva] at k1
  obtain ⟨u, H, hV⟩ := va_of hva
  have hlen : len ≤ 2 := by have := hV.ch.2; rw [hx.1] at this; exact this
  have hH : H ≤ 256 := hV.hh
  obtain ⟨rfl, rfl, rfl, rfl⟩ := hv.yes hva
  have HL := Lib.hid hx.1
  have HX := Lib.hid hx
  have HV := Lib.hid hV
  clear hs hva hv hV hx
  go_enter Try.func29, Try.ntmps29
  go_wp2_with fail
  refine k1.mono ?_
  rintro e w1 ⟨rfl, hg⟩
  have HG := Lib.hid (grown_trans hg0 hg)
  have HB := Lib.hid (grown_heap hg hb0 (by simp))
  have HZ := Lib.hid (grown_heap hg hz0 (by simp))
  clear k1 hg hb0 hz0
  have hZl := block_lt HZ.out
  have HG1 := Lib.hid (grown_trans HG.out (grown_alloc w1 (.cells #[] 39) none))
  have HB1 := Lib.hid (grown_heap (grown_alloc w1 (.cells #[] 39) none) HB.out (by simp))
  have HZ1 := Lib.hid (grown_heap (grown_alloc w1 (.cells #[] 39) none) HZ.out (by simp))
  have HP0 : Hid (MOwn (w1.alloc (.cells #[] 39)) w1.heap.size (.slice (some ⟨w1.heap.size, 0, none⟩) 0 0) 0 ((xss.map List.reverse).take 0)) := mown_empty w1
  go_wp2
  go_loopw [3, 4] (fun vv iv wr => ∃ (k : Nat) (v : Value), v = vv ∧ iv = .int .i64 k ∧ k ≤ len ∧ Hid (MOwn wr w1.heap.size v k ((xss.map List.reverse).take k)) ∧ Hid (w1.grownBy wr none)) (fun _ iv _ => len - (intOf iv).toNat)
  case atStart => exact ⟨0, _, rfl, rfl, Nat.zero_le _, HP0, grown_alloc _ _ _⟩
  case round =>
    clear HP0 HG1 HB1 HZ1
    obtain ⟨k, v, rfl, rfl, hk, HP, HR⟩ := hrel
    have HBr := Lib.hid (grown_heap HR.out HB.out (by simp))
    obtain ⟨q0, q1, q2⟩ := three_cells HBr.out
    by_cases hlt : k < len
    · obtain ⟨xs, hxk⟩ : ∃ xs, xss[k]? = some xs := ⟨_, List.getElem?_eq_getElem (by rw [HL.out]; exact hlt)⟩
      obtain ⟨b, off, rfl, hc⟩ := HX.out.2.resolve_left (by intro e; subst e; simp at hxk)
      obtain ⟨ux, hux, a, c, rfl, hin, hlc, hcm, hnil⟩ := hc k xs hxk
      have hcx : wr.cell? ⟨b, off + k, none⟩ = some (.slice a xs.length c) := HR.out.cell (HG.out.cell hux (by simp)) (by simp)
      have hI := (hin.grown HG.out).grown HR.out
      have HY : Hid ((xss.map List.reverse).take (k + 1) = (xss.map List.reverse).take k ++ [xs.reverse]) := by
        show _ = _
        rw [List.take_add_one, List.getElem?_map, hxk]; rfl
      have hxl := (HV.out.row k xs hxk).1
      have hcall := sRevd_any xs a xs.length c wr hI (by omega)
      generalize hnx : xs.length = nx at *
      clear hc hux hin hlc hcm hnil hI hxk hxl hnx
      go_wp2_with fail
      refine hcall.mono ?_
      rintro e w2 ⟨u1, rfl, ho1, hg1⟩
      obtain ⟨a1, c1, rfl, _⟩ := ho1.reads
      have HO1 := Lib.hid ho1
      have HG1 := Lib.hid hg1
      have hcu : (w2.alloc (.cells #[.slice a1 nx c1] 39)).cell? ⟨w2.heap.size, 0, none⟩ = some (.slice a1 nx c1) := by rw [cell_of_row _ w2.heap.size 0 _ _ _ (heap_alloc_new w2 _)]; rfl
      have HU := Lib.hid hcu
      have hrow : Hid (Owns w2 wr.heap.size (.slice a1 nx c1) xs.reverse.length xs.reverse) := by show Owns _ _ _ _ _; rw [HO1.out.len_eq]; exact HO1.out
      clear hcall ho1 hg1 hcu
      go_wp2_with (at_builtin; refine append_row rfl _ _ rfl w1.heap.size v k _ rfl HP.out HG1.out (fun _ e => nomatch e) (.slice a1 nx c1) _ hrow.out (grown_alloc _ _ _) ⟨w2.heap.size, 0, none⟩ 1 rfl HU.out (by omega) (HR.out.size) ?_)
      intro v' w3 hown hgrow
      have HP2 : Hid (MOwn w3 w1.heap.size v' (k + 1) ((xss.map List.reverse).take (k + 1))) := by show MOwn _ _ _ _ _; rw [HY.out]; exact hown
      have HR2 := Lib.hid (grown_row (grown_trans (grown_trans HR.out HG1.out) (grown_alloc _ _ _)) hgrow (HP.out.block))
      clear hown hgrow
      go_wp2
      go_roundw
      case rel => exact ⟨k + 1, v', rfl, by go_num, by omega, HP2, HR2⟩
      case measure => simp [intOf]; omega
    · obtain rfl : k = len := by omega
      have HF : Hid (MOwn wr w1.heap.size v (xss.map List.reverse).length (xss.map List.reverse)) := by
        have := HP.out
        rw [List.take_of_length_le (by rw [List.length_map, HL.out]; exact Nat.le_refl _)] at this
        show MOwn _ _ _ _ _
        rw [List.length_map, HL.out]; exact this
      obtain ⟨aw, cw, hvw, _⟩ := HF.out.reads
      have HZr := Lib.hid (grown_heap HR.out HZ.out (by simp))
      obtain ⟨z0, z1, z2⟩ := three_cells HZr.out
      have f0 := frozen_of_row wr _ 0 _ _ HZr.out
      have f1 := frozen_of_row wr _ 1 _ _ HZr.out
      have f2 := frozen_of_row wr _ 2 _ _ HZr.out
      subst hvw
      go_wp2
      refine bodyPost_ret (v := .agg #[.int .i64 r, .int .i64 d, .slice aw (xss.map List.reverse).length cw]) (by simp [results, Try.results29, go_sem, z0, z1, z2]) rfl ⟨_, rfl, ?_⟩
      exact own_res (HF.out.base_le (by omega)) (grown_trans HG.out HR.out) (by omega)

end Go.Proofs.Ytncbgofcimghnaa
