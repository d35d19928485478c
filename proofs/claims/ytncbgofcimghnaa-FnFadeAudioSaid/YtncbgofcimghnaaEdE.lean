/-
  What the program's edits make of all channels, at each of its closures. For all channels that can be read.
-/
import Derived.Test.YtncbgofcimghnaaEdD
namespace Go.Proofs.Ytncbgofcimghnaa
open Go.RowKit

/-- Inside the call: the box of the argument, the place of the result, and the audio with the rows that are there. -/
structure ED (w wx : World) (r d : Int) (u v : Value) (k : Nat) (zss : List (List Int)) : Prop where
  gr : w.grownBy wx none
  box : wx.heap[w.heap.size]? = some (.cells #[.int .i64 r, .int .i64 d, u] 25 (0, 0))
  res : wx.heap[w.heap.size + 1]? = some (.cells #[.int .i64 0, .int .i64 0, .slice none 0 0] 25 (0, 0))
  blk : wx.heap[w.heap.size + 1 + 1]? = some (.cells #[.int .i64 r, .int .i64 d, v] 25 (0, 0))
  own : MOwn wx (w.heap.size + 1 + 1 + 1) v k (zss.take k)
theorem ed_start (w : World) (r d : Int) (u : Value) (zss : List (List Int)) :
    ED w (((w.alloc (.cells #[.int .i64 r, .int .i64 d, u] 25)).alloc (.cells #[.int .i64 0, .int .i64 0, .slice none 0 0] 25)).alloc (.cells #[.int .i64 r, .int .i64 d, .slice none 0 0] 25)) r d u (.slice none 0 0) 0 zss := by
  have a1 := heap_alloc_new w (.cells #[.int .i64 r, .int .i64 d, u] 25)
  have a2 := heap_alloc_new (w.alloc (.cells #[.int .i64 r, .int .i64 d, u] 25)) (.cells #[.int .i64 0, .int .i64 0, .slice none 0 0] 25)
  have a3 := heap_alloc_new ((w.alloc (.cells #[.int .i64 r, .int .i64 d, u] 25)).alloc (.cells #[.int .i64 0, .int .i64 0, .slice none 0 0] 25)) (.cells #[.int .i64 r, .int .i64 d, .slice none 0 0] 25)
  simp only [World.size_alloc] at a2 a3
  exact ⟨grown_trans (grown_trans (grown_alloc _ _ _) (grown_alloc _ _ _)) (grown_alloc _ _ _), grown_heap (grown_trans (grown_alloc _ _ none) (grown_alloc _ _ _)) a1 (by simp), grown_heap (grown_alloc _ _ none) a2 (by simp), a3, mown_nil _ _⟩
theorem ED.next {w wr w5 w6 : World} {r d : Int} {u v v' : Value} {k : Nat} {zss : List (List Int)} (h : ED w wr r d u v k zss) (hg : wr.grownBy w5 none) (hg6 : w5.grownBy w6 v.ownBlock) (ho : MOwn w6 (w.heap.size + 1 + 1 + 1) v' (k + 1) (zss.take (k + 1))) :
    ED w (w6.setCell ⟨w.heap.size + 1 + 1, 2, none⟩ v') r d u v' (k + 1) zss := by
  have hb := h.own.block
  have far : ∀ X, X ≠ w.heap.size + 1 + 1 → X < w.heap.size + 1 + 1 + 1 → ∀ ob, wr.heap[X]? = some ob → (w6.setCell ⟨w.heap.size + 1 + 1, 2, none⟩ v').heap[X]? = some ob := fun X hX hl ob hob => by
    rw [heap_setCell_other _ ⟨w.heap.size + 1 + 1, 2, none⟩ _ _ hX]
    exact grown_heap hg6 (grown_heap hg hob (by simp)) (fun e => by have := hb X e; omega)
  have hk : w6.heap[w.heap.size + 1 + 1]? = some (.cells #[.int .i64 r, .int .i64 d, v] 25 (0, 0)) := grown_heap hg6 (grown_heap hg h.blk (by simp)) (fun e => by have := hb _ e; omega)
  refine ⟨grown_set (grown_row (grown_trans h.gr hg) hg6 (fun g e => by have := hb g e; omega)) (by show _ ≤ w.heap.size + 1 + 1; omega), far _ (by omega) (by omega) _ h.box, far _ (by omega) (by omega) _ h.res, ?_, ho.set _ _ (by show w.heap.size + 1 + 1 < _; omega)⟩
  exact heap_setCell_same w6 (w.heap.size + 1 + 1) 2 _ _ v' hk
theorem ED.cell {w wr w5 w6 : World} {r d : Int} {u v : Value} {k : Nat} {zss : List (List Int)} (h : ED w wr r d u v k zss) (hg : wr.grownBy w5 none) (hg6 : w5.grownBy w6 v.ownBlock) : w6.cell? ⟨w.heap.size + 1 + 1, 2, none⟩ = some v ∧ w6.frozen? ⟨w.heap.size + 1 + 1, 2, none⟩ = false := by
  have hb := h.own.block
  have hk : w6.heap[w.heap.size + 1 + 1]? = some (.cells #[.int .i64 r, .int .i64 d, v] 25 (0, 0)) := grown_heap hg6 (grown_heap hg h.blk (by simp)) (fun e => by have := hb _ e; omega)
  exact ⟨(three_cells hk).2.2, frozen_of_row w6 _ 2 _ _ hk⟩
theorem own_ed {w w1 : World} {len Z : Nat} {v x y z : Value} {yss : List (List Int)} (h : MOwn w1 (Z + 1 + 1) v len yss) (hg : w.grownBy w1 none) (hZ : w.heap.size ≤ Z) :
    MOwn (((w1.setCell ⟨Z, 0, none⟩ x).setCell ⟨Z, 1, none⟩ y).setCell ⟨Z, 2, none⟩ z) w.heap.size v len yss ∧ w.grownBy (((w1.setCell ⟨Z, 0, none⟩ x).setCell ⟨Z, 1, none⟩ y).setCell ⟨Z, 2, none⟩ z) none :=
  ⟨(((h.set _ _ (by show Z < _; omega)).set _ _ (by show Z < _; omega)).set _ _ (by show Z < _; omega)).base_le (by omega), grown_set (grown_set (grown_set hg (by show _ ≤ Z; omega)) (by show _ ≤ Z; omega)) (by show _ ≤ Z; omega)⟩

theorem cell_ald9 {w : World} {a : Addr} {v : Value} {o : Obj} (h : w.cell? a = some v) : (w.alloc o).cell? a = some v := (World.cell?_of_block (heap_alloc_old _ _ (block_lt_of_cell h))).trans h
theorem one_cell9 {w : World} {b : Nat} {x : Value} {t : TypeId} (h : w.heap[b]? = some (.cells #[x] t (0, 0))) : w.cell? ⟨b, 0, none⟩ = some x := by rw [cell_of_row w b 0 _ _ _ h]; rfl
set_option maxRecDepth 100000 in
set_option maxHeartbeats 4000000 in
theorem iEdRv_any (xss zss : List (List Int)) (ao : Option Addr) (len cap : Nat) (r d : Int) (w : World) (hx : Mat w ao len xss) (hlen : len ≤ 2) (hlen1 : 1 ≤ len) (hz : zss.length = len) (hzl : ∀ (k : Nat) (zs : List Int), zss[k]? = some zs → zs.length ≤ 1000000)
    (kE : ∀ (k : Nat) (xs zs : List Int) (a : Option Addr) (c : Nat) (W : World), xss[k]? = some xs → zss[k]? = some zs → RowAt w (.slice a xs.length c) xs → w.grownBy W none → Calls Try.prog 54 #[.int .i64 k, .slice a xs.length c] W (RopeOut zs W)) :
    Calls Try.prog 40 #[.agg #[.int .i64 r, .int .i64 d, .slice ao len cap], (.func (.func 54) #[] #[])] w (MadeA zss r d w) := by
  have HX := Lib.hid hx
  have HL := Lib.hid hx.1
  have HZ := Lib.hid hz
  have HE := Lib.hid kE
  have HZL := Lib.hid hzl
  have HS0 := Lib.hid (ed_start w r d (.slice ao len cap) zss)
  obtain ⟨b, off, rfl, hc⟩ := hx.2.resolve_left (by intro e; have := hx.1; rw [e] at this; simp at this; omega)
  have HC := Lib.hid hc
  clear hx hz kE hzl hc
  go_enter Try.func40, Try.ntmps40
  go_wp2
  go_loopw [16] (fun iv wr => ∃ (k : Nat) (v : Value), k ≤ len ∧ iv = .int .i64 k ∧ Hid (ED w wr r d (.slice (some ⟨b, off, none⟩) len cap) v k zss)) (fun iv _ => len - (intOf iv).toNat)
  case atStart => exact ⟨0, _, Nat.zero_le _, rfl, HS0⟩
  case round =>
    clear HS0
    obtain ⟨k, v, hk, rfl, HW⟩ := hrel
    by_cases hlt : k < len
    · obtain ⟨xs, hxk⟩ : ∃ xs, xss[k]? = some xs := ⟨_, List.getElem?_eq_getElem (by rw [HL.out]; exact hlt)⟩
      obtain ⟨zs, hzk⟩ : ∃ zs, zss[k]? = some zs := ⟨_, List.getElem?_eq_getElem (by rw [HZ.out]; exact hlt)⟩
      obtain ⟨ux, hux, hrow⟩ := HC.out k xs hxk
      obtain ⟨a, cc, rfl, hin, hlc, hcm, hnl⟩ := hrow
      have q3 := HW.out.gr.cell hux (by simp)
      have hcl := fun W (hgW : wr.grownBy W none) => HE.out k xs zs a cc W hxk hzk ⟨a, cc, rfl, hin, hlc, hcm, hnl⟩ (grown_trans HW.out.gr hgW)
      have hzn := HZL.out k zs hzk
      have HYS : Hid (zss.take (k + 1) = zss.take k ++ [zs]) := by show _ = _; rw [List.take_add_one, hzk]; rfl
      obtain ⟨k0, k1, k2⟩ := three_cells HW.out.blk
      have hBs := block_lt HW.out.blk
      have kL := fun (pss : List (List Int)) (M n : Nat) W (hm : Mat W (some ⟨M, 0, none⟩) n pss) (hn : n ≤ 2) (hf : pss.flatten = zs) => iRope_any pss (some ⟨M, 0, none⟩) n n zs.length W hm (by omega) (by rw [← hf, flat_len]) (by omega)
      generalize xs.length = nx at *
      obtain ⟨nz, hnz⟩ : ∃ nz, zs.length = nz := ⟨_, rfl⟩
      rw [hnz] at kL
      have HNZ := Lib.hid hnz
      clear hux hin hlc hcm hnl hxk hzk hzn hnz
      go_wp2_with fail
      go_region_law (first
        | (refine step_append_row rfl _ _ rfl (w.heap.size + 1 + 1 + 1) v k _ rfl HW.out.own HGX.out (fun _ e => nomatch e) (.slice a6 nz c6) _ HROW.out (grown_alloc _ _ _) ⟨w6.heap.size, 0, none⟩ 1 rfl HU6.out (by omega) (by omega) ?_; intro g7 c7 w7 ho7 hg7 hn7 hl7; obtain ⟨r2, f2⟩ := HW.out.cell (grown_trans HGX.out (grown_alloc w6 (.cells #[.slice a6 nz c6] 39) none)) hg7; have HO7 := Lib.hid ho7; have HG7 := Lib.hid hg7; clear ho7 hg7 hn7 hl7)
        | (go_simp; go_at_call 54; refine (hcl _ (grown_drew wr none)).mono ?_; rintro e w5 ⟨pss, M, np, rfl, hm5, hn5, hf5, hg5⟩; have HM5 := Lib.hid hm5; have HF5 := Lib.hid hf5; have HG5 := Lib.hid (grown_trans (grown_drew wr none) hg5); have k2b := hg5.cell k2 (by simp); clear hm5 hf5 hg5)
        | (go_simp; go_at_call 67; refine (kL pss M np w5 HM5.out hn5 HF5.out).mono ?_; rintro e w6 ⟨v6, rfl, ho6, hg6⟩; obtain ⟨a6, c6, rfl, _⟩ := ho6.reads; have HGX := Lib.hid (grown_trans HG5.out hg6); have k2c := hg6.cell k2b (by simp); have k2d := cell_ald9 (o := .cells #[.slice a6 nz c6] 39) k2c; have HROW : Hid (Owns w6 wr.heap.size (.slice a6 nz c6) zs.length zs) := (by show Owns _ _ _ _ _; rw [HNZ.out]; have := ho6.base_le HG5.out.size; rwa [HF5.out] at this); have HU6 := Lib.hid (one_cell9 (heap_alloc_new w6 (.cells #[.slice a6 nz c6] 39))); clear ho6 hg6))
      all_goals
        go_simp
        have HN : Hid (ED w (w7.setCell ⟨w.heap.size + 1 + 1, 2, none⟩ (.slice (some ⟨g7, 0, none⟩) (k + 1) c7)) r d (.slice (some ⟨b, off, none⟩) len cap) (.slice (some ⟨g7, 0, none⟩) (k + 1) c7) (k + 1) zss) := HW.out.next (grown_trans HGX.out (grown_alloc w6 (.cells #[.slice a6 nz c6] 39) none)) HG7.out (by rw [HYS.out]; exact HO7.out)
        clear k0 k1 k2 k2b k2c k2d r2 f2 HO7 HG7 HROW HU6 HGX HW hcl kL HM5 HF5 HG5 q3
        go_wp2
        go_roundw
        case rel => exact ⟨k + 1, _, by omega, by go_num, HN⟩
        case measure => simp [intOf]; omega
    · obtain rfl : k = len := by omega
      have hF := HW.out.own
      rw [List.take_of_length_le (by rw [HZ.out]; exact Nat.le_refl _)] at hF
      have HF := Lib.hid hF
      obtain ⟨M, cM, rfl, _⟩ := hF.form hlen1
      clear hF
      obtain ⟨k0, k1, k2⟩ := three_cells HW.out.blk
      obtain ⟨z0, z1, z2⟩ := three_cells HW.out.res
      have f0 := frozen_of_row _ _ 0 _ _ HW.out.res
      have f1 := frozen_of_row _ _ 1 _ _ HW.out.res
      have f2 := frozen_of_row _ _ 2 _ _ HW.out.res
      go_wp2
      refine bodyPost_ret (v := .agg #[.int .i64 r, .int .i64 d, .slice (some ⟨M, 0, none⟩) k cM]) (by simp [results, Try.results40, go_sem, z0, z1, z2]) rfl ⟨_, rfl, ?_⟩
      rw [HZ.out]
      exact own_ed HF.out HW.out.gr (by omega)

set_option maxRecDepth 100000 in
set_option maxHeartbeats 4000000 in
theorem iEdFd_any (xss zss : List (List Int)) (ao : Option Addr) (len cap : Nat) (r d : Int) (B : Nat) (w : World) (hx : Mat w ao len xss) (hlen : len ≤ 2) (hlen1 : 1 ≤ len) (hz : zss.length = len) (hzl : ∀ (k : Nat) (zs : List Int), zss[k]? = some zs → zs.length ≤ 1000000)
    (kE : ∀ (k : Nat) (xs zs : List Int) (a : Option Addr) (c : Nat) (W : World), xss[k]? = some xs → zss[k]? = some zs → RowAt w (.slice a xs.length c) xs → w.grownBy W none → Calls Try.prog 51 #[.int .i64 k, .slice a xs.length c, .pointer (some ⟨B, 0, none⟩)] W (RopeOut zs W)) :
    Calls Try.prog 40 #[.agg #[.int .i64 r, .int .i64 d, .slice ao len cap], (.func (.func 51) #[] #[.pointer (some ⟨B, 0, none⟩)])] w (MadeA zss r d w) := by
  have HX := Lib.hid hx
  have HL := Lib.hid hx.1
  have HZ := Lib.hid hz
  have HE := Lib.hid kE
  have HZL := Lib.hid hzl
  have HS0 := Lib.hid (ed_start w r d (.slice ao len cap) zss)
  obtain ⟨b, off, rfl, hc⟩ := hx.2.resolve_left (by intro e; have := hx.1; rw [e] at this; simp at this; omega)
  have HC := Lib.hid hc
  clear hx hz kE hzl hc
  go_enter Try.func40, Try.ntmps40
  go_wp2
  go_loopw [16] (fun iv wr => ∃ (k : Nat) (v : Value), k ≤ len ∧ iv = .int .i64 k ∧ Hid (ED w wr r d (.slice (some ⟨b, off, none⟩) len cap) v k zss)) (fun iv _ => len - (intOf iv).toNat)
  case atStart => exact ⟨0, _, Nat.zero_le _, rfl, HS0⟩
  case round =>
    clear HS0
    obtain ⟨k, v, hk, rfl, HW⟩ := hrel
    by_cases hlt : k < len
    · obtain ⟨xs, hxk⟩ : ∃ xs, xss[k]? = some xs := ⟨_, List.getElem?_eq_getElem (by rw [HL.out]; exact hlt)⟩
      obtain ⟨zs, hzk⟩ : ∃ zs, zss[k]? = some zs := ⟨_, List.getElem?_eq_getElem (by rw [HZ.out]; exact hlt)⟩
      obtain ⟨ux, hux, hrow⟩ := HC.out k xs hxk
      obtain ⟨a, cc, rfl, hin, hlc, hcm, hnl⟩ := hrow
      have q3 := HW.out.gr.cell hux (by simp)
      have hcl := fun W (hgW : wr.grownBy W none) => HE.out k xs zs a cc W hxk hzk ⟨a, cc, rfl, hin, hlc, hcm, hnl⟩ (grown_trans HW.out.gr hgW)
      have hzn := HZL.out k zs hzk
      have HYS : Hid (zss.take (k + 1) = zss.take k ++ [zs]) := by show _ = _; rw [List.take_add_one, hzk]; rfl
      obtain ⟨k0, k1, k2⟩ := three_cells HW.out.blk
      have hBs := block_lt HW.out.blk
      have kL := fun (pss : List (List Int)) (M n : Nat) W (hm : Mat W (some ⟨M, 0, none⟩) n pss) (hn : n ≤ 2) (hf : pss.flatten = zs) => iRope_any pss (some ⟨M, 0, none⟩) n n zs.length W hm (by omega) (by rw [← hf, flat_len]) (by omega)
      generalize xs.length = nx at *
      obtain ⟨nz, hnz⟩ : ∃ nz, zs.length = nz := ⟨_, rfl⟩
      rw [hnz] at kL
      have HNZ := Lib.hid hnz
      clear hux hin hlc hcm hnl hxk hzk hzn hnz
      go_wp2_with fail
      go_region_law (first
        | (refine step_append_row rfl _ _ rfl (w.heap.size + 1 + 1 + 1) v k _ rfl HW.out.own HGX.out (fun _ e => nomatch e) (.slice a6 nz c6) _ HROW.out (grown_alloc _ _ _) ⟨w6.heap.size, 0, none⟩ 1 rfl HU6.out (by omega) (by omega) ?_; intro g7 c7 w7 ho7 hg7 hn7 hl7; obtain ⟨r2, f2⟩ := HW.out.cell (grown_trans HGX.out (grown_alloc w6 (.cells #[.slice a6 nz c6] 39) none)) hg7; have HO7 := Lib.hid ho7; have HG7 := Lib.hid hg7; clear ho7 hg7 hn7 hl7)
        | (go_simp; go_at_call 51; refine (hcl _ (grown_drew wr none)).mono ?_; rintro e w5 ⟨pss, M, np, rfl, hm5, hn5, hf5, hg5⟩; have HM5 := Lib.hid hm5; have HF5 := Lib.hid hf5; have HG5 := Lib.hid (grown_trans (grown_drew wr none) hg5); have k2b := hg5.cell k2 (by simp); clear hm5 hf5 hg5)
        | (go_simp; go_at_call 67; refine (kL pss M np w5 HM5.out hn5 HF5.out).mono ?_; rintro e w6 ⟨v6, rfl, ho6, hg6⟩; obtain ⟨a6, c6, rfl, _⟩ := ho6.reads; have HGX := Lib.hid (grown_trans HG5.out hg6); have k2c := hg6.cell k2b (by simp); have k2d := cell_ald9 (o := .cells #[.slice a6 nz c6] 39) k2c; have HROW : Hid (Owns w6 wr.heap.size (.slice a6 nz c6) zs.length zs) := (by show Owns _ _ _ _ _; rw [HNZ.out]; have := ho6.base_le HG5.out.size; rwa [HF5.out] at this); have HU6 := Lib.hid (one_cell9 (heap_alloc_new w6 (.cells #[.slice a6 nz c6] 39))); clear ho6 hg6))
      all_goals
        go_simp
        have HN : Hid (ED w (w7.setCell ⟨w.heap.size + 1 + 1, 2, none⟩ (.slice (some ⟨g7, 0, none⟩) (k + 1) c7)) r d (.slice (some ⟨b, off, none⟩) len cap) (.slice (some ⟨g7, 0, none⟩) (k + 1) c7) (k + 1) zss) := HW.out.next (grown_trans HGX.out (grown_alloc w6 (.cells #[.slice a6 nz c6] 39) none)) HG7.out (by rw [HYS.out]; exact HO7.out)
        clear k0 k1 k2 k2b k2c k2d r2 f2 HO7 HG7 HROW HU6 HGX HW hcl kL HM5 HF5 HG5 q3
        go_wp2
        go_roundw
        case rel => exact ⟨k + 1, _, by omega, by go_num, HN⟩
        case measure => simp [intOf]; omega
    · obtain rfl : k = len := by omega
      have hF := HW.out.own
      rw [List.take_of_length_le (by rw [HZ.out]; exact Nat.le_refl _)] at hF
      have HF := Lib.hid hF
      obtain ⟨M, cM, rfl, _⟩ := hF.form hlen1
      clear hF
      obtain ⟨k0, k1, k2⟩ := three_cells HW.out.blk
      obtain ⟨z0, z1, z2⟩ := three_cells HW.out.res
      have f0 := frozen_of_row _ _ 0 _ _ HW.out.res
      have f1 := frozen_of_row _ _ 1 _ _ HW.out.res
      have f2 := frozen_of_row _ _ 2 _ _ HW.out.res
      go_wp2
      refine bodyPost_ret (v := .agg #[.int .i64 r, .int .i64 d, .slice (some ⟨M, 0, none⟩) k cM]) (by simp [results, Try.results40, go_sem, z0, z1, z2]) rfl ⟨_, rfl, ?_⟩
      rw [HZ.out]
      exact own_ed HF.out HW.out.gr (by omega)

set_option maxRecDepth 100000 in
set_option maxHeartbeats 4000000 in
theorem iEdJn_any (xss zss : List (List Int)) (ao : Option Addr) (len cap : Nat) (r d : Int) (B : Nat) (w : World) (hx : Mat w ao len xss) (hlen : len ≤ 2) (hlen1 : 1 ≤ len) (hz : zss.length = len) (hzl : ∀ (k : Nat) (zs : List Int), zss[k]? = some zs → zs.length ≤ 1000000)
    (kE : ∀ (k : Nat) (xs zs : List Int) (a : Option Addr) (c : Nat) (W : World), xss[k]? = some xs → zss[k]? = some zs → RowAt w (.slice a xs.length c) xs → w.grownBy W none → Calls Try.prog 47 #[.int .i64 k, .slice a xs.length c, .pointer (some ⟨B, 0, none⟩)] W (RopeOut zs W)) :
    Calls Try.prog 40 #[.agg #[.int .i64 r, .int .i64 d, .slice ao len cap], (.func (.func 47) #[] #[.pointer (some ⟨B, 0, none⟩)])] w (MadeA zss r d w) := by
  have HX := Lib.hid hx
  have HL := Lib.hid hx.1
  have HZ := Lib.hid hz
  have HE := Lib.hid kE
  have HZL := Lib.hid hzl
  have HS0 := Lib.hid (ed_start w r d (.slice ao len cap) zss)
  obtain ⟨b, off, rfl, hc⟩ := hx.2.resolve_left (by intro e; have := hx.1; rw [e] at this; simp at this; omega)
  have HC := Lib.hid hc
  clear hx hz kE hzl hc
  go_enter Try.func40, Try.ntmps40
  go_wp2
  go_loopw [16] (fun iv wr => ∃ (k : Nat) (v : Value), k ≤ len ∧ iv = .int .i64 k ∧ Hid (ED w wr r d (.slice (some ⟨b, off, none⟩) len cap) v k zss)) (fun iv _ => len - (intOf iv).toNat)
  case atStart => exact ⟨0, _, Nat.zero_le _, rfl, HS0⟩
  case round =>
    clear HS0
    obtain ⟨k, v, hk, rfl, HW⟩ := hrel
    by_cases hlt : k < len
    · obtain ⟨xs, hxk⟩ : ∃ xs, xss[k]? = some xs := ⟨_, List.getElem?_eq_getElem (by rw [HL.out]; exact hlt)⟩
      obtain ⟨zs, hzk⟩ : ∃ zs, zss[k]? = some zs := ⟨_, List.getElem?_eq_getElem (by rw [HZ.out]; exact hlt)⟩
      obtain ⟨ux, hux, hrow⟩ := HC.out k xs hxk
      obtain ⟨a, cc, rfl, hin, hlc, hcm, hnl⟩ := hrow
      have q3 := HW.out.gr.cell hux (by simp)
      have hcl := fun W (hgW : wr.grownBy W none) => HE.out k xs zs a cc W hxk hzk ⟨a, cc, rfl, hin, hlc, hcm, hnl⟩ (grown_trans HW.out.gr hgW)
      have hzn := HZL.out k zs hzk
      have HYS : Hid (zss.take (k + 1) = zss.take k ++ [zs]) := by show _ = _; rw [List.take_add_one, hzk]; rfl
      obtain ⟨k0, k1, k2⟩ := three_cells HW.out.blk
      have hBs := block_lt HW.out.blk
      have kL := fun (pss : List (List Int)) (M n : Nat) W (hm : Mat W (some ⟨M, 0, none⟩) n pss) (hn : n ≤ 2) (hf : pss.flatten = zs) => iRope_any pss (some ⟨M, 0, none⟩) n n zs.length W hm (by omega) (by rw [← hf, flat_len]) (by omega)
      generalize xs.length = nx at *
      obtain ⟨nz, hnz⟩ : ∃ nz, zs.length = nz := ⟨_, rfl⟩
      rw [hnz] at kL
      have HNZ := Lib.hid hnz
      clear hux hin hlc hcm hnl hxk hzk hzn hnz
      go_wp2_with fail
      go_region_law (first
        | (refine step_append_row rfl _ _ rfl (w.heap.size + 1 + 1 + 1) v k _ rfl HW.out.own HGX.out (fun _ e => nomatch e) (.slice a6 nz c6) _ HROW.out (grown_alloc _ _ _) ⟨w6.heap.size, 0, none⟩ 1 rfl HU6.out (by omega) (by omega) ?_; intro g7 c7 w7 ho7 hg7 hn7 hl7; obtain ⟨r2, f2⟩ := HW.out.cell (grown_trans HGX.out (grown_alloc w6 (.cells #[.slice a6 nz c6] 39) none)) hg7; have HO7 := Lib.hid ho7; have HG7 := Lib.hid hg7; clear ho7 hg7 hn7 hl7)
        | (go_simp; go_at_call 47; refine (hcl _ (grown_drew wr none)).mono ?_; rintro e w5 ⟨pss, M, np, rfl, hm5, hn5, hf5, hg5⟩; have HM5 := Lib.hid hm5; have HF5 := Lib.hid hf5; have HG5 := Lib.hid (grown_trans (grown_drew wr none) hg5); have k2b := hg5.cell k2 (by simp); clear hm5 hf5 hg5)
        | (go_simp; go_at_call 67; refine (kL pss M np w5 HM5.out hn5 HF5.out).mono ?_; rintro e w6 ⟨v6, rfl, ho6, hg6⟩; obtain ⟨a6, c6, rfl, _⟩ := ho6.reads; have HGX := Lib.hid (grown_trans HG5.out hg6); have k2c := hg6.cell k2b (by simp); have k2d := cell_ald9 (o := .cells #[.slice a6 nz c6] 39) k2c; have HROW : Hid (Owns w6 wr.heap.size (.slice a6 nz c6) zs.length zs) := (by show Owns _ _ _ _ _; rw [HNZ.out]; have := ho6.base_le HG5.out.size; rwa [HF5.out] at this); have HU6 := Lib.hid (one_cell9 (heap_alloc_new w6 (.cells #[.slice a6 nz c6] 39))); clear ho6 hg6))
      all_goals
        go_simp
        have HN : Hid (ED w (w7.setCell ⟨w.heap.size + 1 + 1, 2, none⟩ (.slice (some ⟨g7, 0, none⟩) (k + 1) c7)) r d (.slice (some ⟨b, off, none⟩) len cap) (.slice (some ⟨g7, 0, none⟩) (k + 1) c7) (k + 1) zss) := HW.out.next (grown_trans HGX.out (grown_alloc w6 (.cells #[.slice a6 nz c6] 39) none)) HG7.out (by rw [HYS.out]; exact HO7.out)
        clear k0 k1 k2 k2b k2c k2d r2 f2 HO7 HG7 HROW HU6 HGX HW hcl kL HM5 HF5 HG5 q3
        go_wp2
        go_roundw
        case rel => exact ⟨k + 1, _, by omega, by go_num, HN⟩
        case measure => simp [intOf]; omega
    · obtain rfl : k = len := by omega
      have hF := HW.out.own
      rw [List.take_of_length_le (by rw [HZ.out]; exact Nat.le_refl _)] at hF
      have HF := Lib.hid hF
      obtain ⟨M, cM, rfl, _⟩ := hF.form hlen1
      clear hF
      obtain ⟨k0, k1, k2⟩ := three_cells HW.out.blk
      obtain ⟨z0, z1, z2⟩ := three_cells HW.out.res
      have f0 := frozen_of_row _ _ 0 _ _ HW.out.res
      have f1 := frozen_of_row _ _ 1 _ _ HW.out.res
      have f2 := frozen_of_row _ _ 2 _ _ HW.out.res
      go_wp2
      refine bodyPost_ret (v := .agg #[.int .i64 r, .int .i64 d, .slice (some ⟨M, 0, none⟩) k cM]) (by simp [results, Try.results40, go_sem, z0, z1, z2]) rfl ⟨_, rfl, ?_⟩
      rw [HZ.out]
      exact own_ed HF.out HW.out.gr (by omega)

set_option maxRecDepth 100000 in
set_option maxHeartbeats 4000000 in
theorem iEdCu_any (xss zss : List (List Int)) (ao : Option Addr) (len cap : Nat) (r d : Int) (B B' : Nat) (w : World) (hx : Mat w ao len xss) (hlen : len ≤ 2) (hlen1 : 1 ≤ len) (hz : zss.length = len) (hzl : ∀ (k : Nat) (zs : List Int), zss[k]? = some zs → zs.length ≤ 1000000)
    (kE : ∀ (k : Nat) (xs zs : List Int) (a : Option Addr) (c : Nat) (W : World), xss[k]? = some xs → zss[k]? = some zs → RowAt w (.slice a xs.length c) xs → w.grownBy W none → Calls Try.prog 41 #[.int .i64 k, .slice a xs.length c, .pointer (some ⟨B, 0, none⟩), .pointer (some ⟨B', 0, none⟩)] W (RopeOut zs W)) :
    Calls Try.prog 40 #[.agg #[.int .i64 r, .int .i64 d, .slice ao len cap], (.func (.func 41) #[] #[.pointer (some ⟨B, 0, none⟩), .pointer (some ⟨B', 0, none⟩)])] w (MadeA zss r d w) := by
  have HX := Lib.hid hx
  have HL := Lib.hid hx.1
  have HZ := Lib.hid hz
  have HE := Lib.hid kE
  have HZL := Lib.hid hzl
  have HS0 := Lib.hid (ed_start w r d (.slice ao len cap) zss)
  obtain ⟨b, off, rfl, hc⟩ := hx.2.resolve_left (by intro e; have := hx.1; rw [e] at this; simp at this; omega)
  have HC := Lib.hid hc
  clear hx hz kE hzl hc
  go_enter Try.func40, Try.ntmps40
  go_wp2
  go_loopw [16] (fun iv wr => ∃ (k : Nat) (v : Value), k ≤ len ∧ iv = .int .i64 k ∧ Hid (ED w wr r d (.slice (some ⟨b, off, none⟩) len cap) v k zss)) (fun iv _ => len - (intOf iv).toNat)
  case atStart => exact ⟨0, _, Nat.zero_le _, rfl, HS0⟩
  case round =>
    clear HS0
    obtain ⟨k, v, hk, rfl, HW⟩ := hrel
    by_cases hlt : k < len
    · obtain ⟨xs, hxk⟩ : ∃ xs, xss[k]? = some xs := ⟨_, List.getElem?_eq_getElem (by rw [HL.out]; exact hlt)⟩
      obtain ⟨zs, hzk⟩ : ∃ zs, zss[k]? = some zs := ⟨_, List.getElem?_eq_getElem (by rw [HZ.out]; exact hlt)⟩
      obtain ⟨ux, hux, hrow⟩ := HC.out k xs hxk
      obtain ⟨a, cc, rfl, hin, hlc, hcm, hnl⟩ := hrow
      have q3 := HW.out.gr.cell hux (by simp)
      have hcl := fun W (hgW : wr.grownBy W none) => HE.out k xs zs a cc W hxk hzk ⟨a, cc, rfl, hin, hlc, hcm, hnl⟩ (grown_trans HW.out.gr hgW)
      have hzn := HZL.out k zs hzk
      have HYS : Hid (zss.take (k + 1) = zss.take k ++ [zs]) := by show _ = _; rw [List.take_add_one, hzk]; rfl
      obtain ⟨k0, k1, k2⟩ := three_cells HW.out.blk
      have hBs := block_lt HW.out.blk
      have kL := fun (pss : List (List Int)) (M n : Nat) W (hm : Mat W (some ⟨M, 0, none⟩) n pss) (hn : n ≤ 2) (hf : pss.flatten = zs) => iRope_any pss (some ⟨M, 0, none⟩) n n zs.length W hm (by omega) (by rw [← hf, flat_len]) (by omega)
      generalize xs.length = nx at *
      obtain ⟨nz, hnz⟩ : ∃ nz, zs.length = nz := ⟨_, rfl⟩
      rw [hnz] at kL
      have HNZ := Lib.hid hnz
      clear hux hin hlc hcm hnl hxk hzk hzn hnz
      go_wp2_with fail
      go_region_law (first
        | (refine step_append_row rfl _ _ rfl (w.heap.size + 1 + 1 + 1) v k _ rfl HW.out.own HGX.out (fun _ e => nomatch e) (.slice a6 nz c6) _ HROW.out (grown_alloc _ _ _) ⟨w6.heap.size, 0, none⟩ 1 rfl HU6.out (by omega) (by omega) ?_; intro g7 c7 w7 ho7 hg7 hn7 hl7; obtain ⟨r2, f2⟩ := HW.out.cell (grown_trans HGX.out (grown_alloc w6 (.cells #[.slice a6 nz c6] 39) none)) hg7; have HO7 := Lib.hid ho7; have HG7 := Lib.hid hg7; clear ho7 hg7 hn7 hl7)
        | (go_simp; go_at_call 41; refine (hcl _ (grown_drew wr none)).mono ?_; rintro e w5 ⟨pss, M, np, rfl, hm5, hn5, hf5, hg5⟩; have HM5 := Lib.hid hm5; have HF5 := Lib.hid hf5; have HG5 := Lib.hid (grown_trans (grown_drew wr none) hg5); have k2b := hg5.cell k2 (by simp); clear hm5 hf5 hg5)
        | (go_simp; go_at_call 67; refine (kL pss M np w5 HM5.out hn5 HF5.out).mono ?_; rintro e w6 ⟨v6, rfl, ho6, hg6⟩; obtain ⟨a6, c6, rfl, _⟩ := ho6.reads; have HGX := Lib.hid (grown_trans HG5.out hg6); have k2c := hg6.cell k2b (by simp); have k2d := cell_ald9 (o := .cells #[.slice a6 nz c6] 39) k2c; have HROW : Hid (Owns w6 wr.heap.size (.slice a6 nz c6) zs.length zs) := (by show Owns _ _ _ _ _; rw [HNZ.out]; have := ho6.base_le HG5.out.size; rwa [HF5.out] at this); have HU6 := Lib.hid (one_cell9 (heap_alloc_new w6 (.cells #[.slice a6 nz c6] 39))); clear ho6 hg6))
      all_goals
        go_simp
        have HN : Hid (ED w (w7.setCell ⟨w.heap.size + 1 + 1, 2, none⟩ (.slice (some ⟨g7, 0, none⟩) (k + 1) c7)) r d (.slice (some ⟨b, off, none⟩) len cap) (.slice (some ⟨g7, 0, none⟩) (k + 1) c7) (k + 1) zss) := HW.out.next (grown_trans HGX.out (grown_alloc w6 (.cells #[.slice a6 nz c6] 39) none)) HG7.out (by rw [HYS.out]; exact HO7.out)
        clear k0 k1 k2 k2b k2c k2d r2 f2 HO7 HG7 HROW HU6 HGX HW hcl kL HM5 HF5 HG5 q3
        go_wp2
        go_roundw
        case rel => exact ⟨k + 1, _, by omega, by go_num, HN⟩
        case measure => simp [intOf]; omega
    · obtain rfl : k = len := by omega
      have hF := HW.out.own
      rw [List.take_of_length_le (by rw [HZ.out]; exact Nat.le_refl _)] at hF
      have HF := Lib.hid hF
      obtain ⟨M, cM, rfl, _⟩ := hF.form hlen1
      clear hF
      obtain ⟨k0, k1, k2⟩ := three_cells HW.out.blk
      obtain ⟨z0, z1, z2⟩ := three_cells HW.out.res
      have f0 := frozen_of_row _ _ 0 _ _ HW.out.res
      have f1 := frozen_of_row _ _ 1 _ _ HW.out.res
      have f2 := frozen_of_row _ _ 2 _ _ HW.out.res
      go_wp2
      refine bodyPost_ret (v := .agg #[.int .i64 r, .int .i64 d, .slice (some ⟨M, 0, none⟩) k cM]) (by simp [results, Try.results40, go_sem, z0, z1, z2]) rfl ⟨_, rfl, ?_⟩
      rw [HZ.out]
      exact own_ed HF.out HW.out.gr (by omega)

end Go.Proofs.Ytncbgofcimghnaa
