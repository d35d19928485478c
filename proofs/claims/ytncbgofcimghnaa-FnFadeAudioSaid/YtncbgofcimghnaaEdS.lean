/-
  Cut and reversed audio: the specification's text. For all channels that can be read.
-/
import Derived.Test.YtncbgofcimghnaaEdM
import Derived.Deep.RegionHeld3
import Derived.Deep.Cut
import Derived.Deep.CutRange
namespace Go.Proofs.Ytncbgofcimghnaa
open Go.RowKit

/-- The result's place has been filled. -/
theorem own_res {w w1 : World} {Z len : Nat} {v x y z : Value} {yss : List (List Int)} (h : MOwn w1 (Z + 1) v len yss) (hg : w.grownBy w1 none) (hZ : w.heap.size ≤ Z) :
    MOwn (((w1.setCell ⟨Z, 0, none⟩ x).setCell ⟨Z, 1, none⟩ y).setCell ⟨Z, 2, none⟩ z) w.heap.size v len yss ∧ w.grownBy (((w1.setCell ⟨Z, 0, none⟩ x).setCell ⟨Z, 1, none⟩ y).setCell ⟨Z, 2, none⟩ z) none :=
  ⟨(((h.set _ _ (by show Z < _; omega)).set _ _ (by show Z < _; omega)).set _ _ (by show Z < _; omega)).base_le (by omega), grown_set (grown_set (grown_set hg (by show _ ≤ Z; omega)) (by show _ ≤ Z; omega)) (by show _ ≤ Z; omega)⟩

set_option maxRecDepth 100000 in
set_option maxHeartbeats 4000000 in
theorem sCut_any (xss : List (List Int)) (ao : Option Addr) (len cap : Nat) (r d f t : Int) (w : World) (rr dd : Int) (yss : List (List Int)) (ok : Bool) (hx : Mat w ao len xss) (hs : szL xss ≤ 1048576) (hv : CuR r d f t xss rr dd yss ok) :
    Calls Try.prog 17 #[.agg #[.int .i64 r, .int .i64 d, .slice ao len cap], .int .i64 f, .int .i64 t] w (MadeAB yss rr dd ok w) := by
  have hg0 : w.grownBy ((w.alloc (.cells #[.int .i64 r, .int .i64 d, .slice ao len cap] 25)).alloc (.cells #[.int .i64 0, .int .i64 0, .slice none 0 0] 25)) none := grown_trans (grown_alloc _ _ _) (grown_alloc _ _ _)
  have k1 := svAu_any xss ao len cap r d ((w.alloc (.cells #[.int .i64 r, .int .i64 d, .slice ao len cap] 25)).alloc (.cells #[.int .i64 0, .int .i64 0, .slice none 0 0] 25)) _ (hx.grown hg0) hs rfl
  have hb0 : ((w.alloc (.cells #[.int .i64 r, .int .i64 d, .slice ao len cap] 25)).alloc (.cells #[.int .i64 0, .int .i64 0, .slice none 0 0] 25)).heap[w.heap.size]? = some (.cells #[.int .i64 r, .int .i64 d, .slice ao len cap] 25) := grown_heap (grown_alloc _ _ none) (heap_alloc_new w _) (by simp)
  have hz0 : ((w.alloc (.cells #[.int .i64 r, .int .i64 d, .slice ao len cap] 25)).alloc (.cells #[.int .i64 0, .int .i64 0, .slice none 0 0] 25)).heap[w.heap.size + 1]? = some (.cells #[.int .i64 0, .int .i64 0, .slice none 0 0] 25) := by have := heap_alloc_new (w.alloc (.cells #[.int .i64 r, .int .i64 d, .slice ao len cap] 25)) (.cells #[.int .i64 0, .int .i64 0, .slice none 0 0] 25); simpa using this
  cases hva : vAu r d xss with
  | false =>
    rw [hva] at k1
    obtain ⟨rfl, rfl, rfl, rfl⟩ := hv.no (fun h => by rw [h.1] at hva; cases hva)
    clear hx hs hva hv
    go_enter Try.func17, Try.ntmps17
    go_wp2_with fail
    refine k1.mono ?_
    rintro e w1 ⟨rfl, hg⟩
    have HG := Lib.hid (grown_trans hg0 hg)
    have HB := Lib.hid (grown_heap hg hb0 (by simp))
    have HZ := Lib.hid (grown_heap hg hz0 (by simp))
    clear k1 hg hb0 hz0
    obtain ⟨z0, z1, z2⟩ := three_cells HZ.out
    have f0 := frozen_of_row w1 _ 0 _ _ HZ.out
    have f1 := frozen_of_row w1 _ 1 _ _ HZ.out
    have f2 := frozen_of_row w1 _ 2 _ _ HZ.out
    go_wp2
    refine bodyPost_ret (v := .tuple #[.agg #[.int .i64 0, .int .i64 0, .slice none 0 0], .bool false]) (by simp [results, Try.results17, go_sem, z0, z1, z2]) rfl ⟨_, rfl, ?_⟩
    exact own_res (mown_nil _ _) HG.out (by omega)
  | true =>
  rw [hva] at k1
  obtain ⟨u, H, hV⟩ := va_of hva
  have hHd := hV.hd
  have hlen : len ≤ 2 := by have := hV.ch.2; rw [hx.1] at this; exact this
  have hlen1 : 1 ≤ len := by have := hV.ch.1; rw [hx.1] at this; exact this
  have hH : H ≤ 256 := hV.hh
  obtain ⟨b, off, rfl, hc⟩ := hx.2.resolve_left (by intro e; have := hx.1; rw [e] at this; simp at this; omega)
  obtain ⟨xs0, hxs0, hxl0⟩ := hV.first
  obtain ⟨u0, hu0, a0, c0, rfl, _⟩ := hc 0 xs0 hxs0
  rw [hxl0, Nat.add_zero] at hu0
  have k2 := fun (x lo hi : Int) W v (h : inB x lo hi = v) => inRange_any x lo hi v W h
  by_cases ht : ¬ (0 ≤ t ∧ t ≤ (H : Int))
  · obtain ⟨rfl, rfl, rfl, rfl⟩ := hv.no (fun h => ht ⟨by have := h.2.1; have := h.2.2.1; omega, by have := h.2.2.2; omega⟩)
    have k3 := fun W => k2 t 0 (H : Int) W false (inB_false ht)
    clear hs hva hv ht k2 hV hc hxs0
    go_enter Try.func17, Try.ntmps17
    go_wp2_with fail
    refine k1.mono ?_
    rintro e w1 ⟨rfl, hg⟩
    have HG := Lib.hid (grown_trans hg0 hg)
    have HB := Lib.hid (grown_heap hg hb0 (by simp))
    have HZ := Lib.hid (grown_heap hg hz0 (by simp))
    clear k1 hg hb0 hz0
    obtain ⟨q0, q1, q2⟩ := three_cells HB.out
    have q3 := HG.out.cell hu0 (by simp)
    go_wp2_with fail
    refine (k3 _).mono ?_
    rintro e w2 ⟨rfl, rfl⟩
    clear k3
    obtain ⟨z0, z1, z2⟩ := three_cells HZ.out
    have f0 := frozen_of_row w1 _ 0 _ _ HZ.out
    have f1 := frozen_of_row w1 _ 1 _ _ HZ.out
    have f2 := frozen_of_row w1 _ 2 _ _ HZ.out
    go_wp2
    refine bodyPost_ret (v := .tuple #[.agg #[.int .i64 0, .int .i64 0, .slice none 0 0], .bool false]) (by simp [results, Try.results17, go_sem, z0, z1, z2]) rfl ⟨_, rfl, ?_⟩
    exact own_res (mown_nil _ _) HG.out (by omega)
  have ht := Classical.not_not.1 ht
  have k3 := fun W => k2 t 0 (H : Int) W true (inB_true ht.1 ht.2)
  by_cases hf : ¬ (0 ≤ f ∧ f ≤ t)
  · obtain ⟨rfl, rfl, rfl, rfl⟩ := hv.no (fun h => hf ⟨h.2.1, h.2.2.1⟩)
    have k4 := fun W => k2 f 0 t W false (inB_false hf)
    clear hs hva hv ht k2 hV hc hxs0 hf
    go_enter Try.func17, Try.ntmps17
    go_wp2_with fail
    refine k1.mono ?_
    rintro e w1 ⟨rfl, hg⟩
    have HG := Lib.hid (grown_trans hg0 hg)
    have HB := Lib.hid (grown_heap hg hb0 (by simp))
    have HZ := Lib.hid (grown_heap hg hz0 (by simp))
    clear k1 hg hb0 hz0
    obtain ⟨q0, q1, q2⟩ := three_cells HB.out
    have q3 := HG.out.cell hu0 (by simp)
    go_wp2_with fail
    refine (k3 _).mono ?_
    rintro e w2 ⟨rfl, rfl⟩
    clear k3
    go_wp2_with fail
    refine (k4 _).mono ?_
    rintro e w3 ⟨rfl, rfl⟩
    clear k4
    obtain ⟨z0, z1, z2⟩ := three_cells HZ.out
    have f0 := frozen_of_row w1 _ 0 _ _ HZ.out
    have f1 := frozen_of_row w1 _ 1 _ _ HZ.out
    have f2 := frozen_of_row w1 _ 2 _ _ HZ.out
    go_wp2
    refine bodyPost_ret (v := .tuple #[.agg #[.int .i64 0, .int .i64 0, .slice none 0 0], .bool false]) (by simp [results, Try.results17, go_sem, z0, z1, z2]) rfl ⟨_, rfl, ?_⟩
    exact own_res (mown_nil _ _) HG.out (by omega)
  have hf := Classical.not_not.1 hf
  have k4 := fun W => k2 f 0 t W true (inB_true hf.1 hf.2)
  obtain ⟨rfl, rfl, rfl, rfl⟩ := hv.yes ⟨hva, hf.1, hf.2, by rw [hHd]; exact ht.2⟩
  obtain ⟨t, rfl⟩ := Int.eq_ofNat_of_zero_le ht.1
  obtain ⟨f, rfl⟩ := Int.eq_ofNat_of_zero_le hf.1
  have kS := fun W (hgW : w.grownBy W none) => sSlice_any xss (some ⟨b, off, none⟩) len cap f t W (hx.grown hgW) (by omega) (by omega) (by omega) (fun k xs hk => by rw [(hV.row k xs hk).1]; omega)
  have HL := Lib.hid hx.1
  simp only [Int.toNat_natCast] at *
  clear hs hva hv ht k2 hV hc hxs0 hf hx
  go_enter Try.func17, Try.ntmps17
  go_wp2_with fail
  refine k1.mono ?_
  rintro e w1 ⟨rfl, hg⟩
  have HG := Lib.hid (grown_trans hg0 hg)
  have HB := Lib.hid (grown_heap hg hb0 (by simp))
  have HZ := Lib.hid (grown_heap hg hz0 (by simp))
  clear k1 hg hb0 hz0
  obtain ⟨q0, q1, q2⟩ := three_cells HB.out
  have q3 := HG.out.cell hu0 (by simp)
  go_wp2_with fail
  refine (k3 _).mono ?_
  rintro e w2 ⟨rfl, rfl⟩
  clear k3
  go_wp2_with fail
  refine (k4 _).mono ?_
  rintro e w3 ⟨rfl, rfl⟩
  clear k4
  have hZl := block_lt HZ.out
  go_wp2_with fail
  go_region_held3 (fun w' => w'.cell? ⟨w.heap.size, 0, none⟩ = some (.int .i64 r) ∧ w'.cell? ⟨w.heap.size, 1, none⟩ = some (.int .i64 d) ∧ w'.cell? ⟨w.heap.size, 2, none⟩ = some (.slice (some ⟨b, off, none⟩) len cap)) (first | go_keep | exact ⟨by assumption, by assumption, by assumption⟩) ((first | (go_at_call 44; refine (kS _ (grown_trans HG.out (grown_drew w1 none))).mono ?_; rintro e w5 ⟨v5, rfl, ho5, hg5⟩; obtain ⟨a5, c5, rfl, _⟩ := ho5.reads; have HO5 := Lib.hid ho5; have hS0 := hg5.cell q0 (by simp); have hS1 := hg5.cell q1 (by simp); have hS2 := hg5.cell q2 (by simp); have HG5 := Lib.hid (grown_trans HG.out (grown_trans (grown_drew w1 none) hg5)); have HZ5 := Lib.hid (grown_heap (grown_trans (grown_drew w1 none) hg5) HZ.out (by simp)); obtain ⟨z0, z1, z2⟩ := three_cells HZ5.out; have f0 := frozen_of_row w5 _ 0 _ _ HZ5.out; have f1 := frozen_of_row w5 _ 1 _ _ HZ5.out; have f2 := frozen_of_row w5 _ 2 _ _ HZ5.out; clear ho5 hg5)))
  all_goals
    go_wp2
    refine bodyPost_ret (v := .tuple #[.agg #[.int .i64 r, .int .i64 d, .slice a5 len c5], .bool true]) (by simp [results, Try.results17, go_sem, z0, z1, z2]) rfl ⟨_, rfl, ?_⟩
    rw [List.length_map, HL.out]
    exact own_res (HO5.out.base_le (by simp; omega)) HG5.out (by omega)

end Go.Proofs.Ytncbgofcimghnaa
