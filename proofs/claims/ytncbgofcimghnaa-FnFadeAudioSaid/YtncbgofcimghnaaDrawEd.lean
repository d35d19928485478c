/-
  The draws of audio for the edits. For every code.
-/
import Derived.Test.YtncbgofcimghnaaDrawLv
namespace Go.Proofs.Ytncbgofcimghnaa
open Go.RowKit

set_option maxRecDepth 100000 in
set_option maxHeartbeats 4000000 in
theorem drawCu_any (ao : Option Addr) (len cap : Nat) (w : World) (hb : BytesAt w ao len) (hlc : len ≤ cap) (hmax : len ≤ 9223372036854775807) :
    Calls Try.prog 15 #[.slice ao len cap] w fun e w' => ∃ (p q : Int) (a : Option Addr) (l c : Nat) (xss : List (List Int)) (x0 x1 : Int), e = .returned (.tuple #[.agg #[.int .i64 p, .int .i64 q, .slice a l c], .int .i64 x0, .int .i64 x1]) ∧ x0 ∈ ([0, 1, 4, 7, -1, 20] : List Int) ∧ x1 ∈ ([x0, x0 + 2, x0 + 6, 10, x0 - 1, 300] : List Int) ∧ AuOut w a l xss w' := by
  have HZ0 := Lib.hid (heap_alloc_new w (.cells #[.int .i64 0, .int .i64 0, .slice none 0 0] 25))
  have HG0 := Lib.hid (grown_alloc w (.cells #[.int .i64 0, .int .i64 0, .slice none 0 0] 25) none)
  have hb0 : BytesAt (w.alloc (.cells #[.int .i64 0, .int .i64 0, .slice none 0 0] 25)) ao len := bytesAt_alloc hb _
  clear hb
  go_enter Try.func15, Try.ntmps15
  go_wp2_with fail
  refine (newReader_any ao len cap _ hb0 hlc hmax).mono ?_
  rintro e w1 ⟨rfl, hR1, hg1⟩
  have HZ1 := Lib.hid (grown_heap hg1 HZ0.out (by simp))
  have HG1 := Lib.hid (grown_trans HG0.out hg1)
  have hw1 : (w.alloc (.cells #[.int .i64 0, .int .i64 0, .slice none 0 0] 25)).heap.size = w.heap.size + 1 := by simp
  rw [hw1] at hR1
  have hzl := block_lt HZ1.out
  clear hb0 HZ0 HG0 hg1
  go_wp2_with fail
  refine (anyAudio_any (w.heap.size + 1) 0 w1 (by simpa using hR1) (by omega)).mono ?_
  rintro e w2 ⟨p, q, a, l, c, xss, rfl, hm2, hl2, hs2, hR2, hg2⟩
  have HZ2 := Lib.hid (grown_heap hg2 HZ1.out (by simp))
  have HG2 := Lib.hid (grown_row HG1.out hg2 (fun g e => by injection e with e; omega))
  have hRl := hR1.lt
  have HM2 := Lib.hid hm2
  clear hR1 HG1 HZ1 hm2 hg2
  have HB2 := Lib.hid (heap_alloc_new w2 (.cells #[.int .i64 p, .int .i64 q, .slice a l c] 25))
  have HZ3 := Lib.hid (grown_heap (grown_alloc w2 (.cells #[.int .i64 p, .int .i64 q, .slice a l c] 25) none) HZ2.out (by simp))
  have HG3 := Lib.hid (grown_trans HG2.out (grown_alloc w2 (.cells #[.int .i64 p, .int .i64 q, .slice a l c] 25) none))
  have HM3 := Lib.hid (HM2.out.kept (grown_alloc w2 (.cells #[.int .i64 p, .int .i64 q, .slice a l c] 25) none) (by simp))
  have hR3 := hR2.alloc (.cells #[.int .i64 p, .int .i64 q, .slice a l c] 25)
  have hw2 := hR2.lt
  clear HG2 HZ2 HM2 hR2
  go_wp2_with fail
  refine (one_at [0, 1, 4, 7, -1, 20] _ (w.heap.size + 1) (0 + 130) _ _ _ (by simp) (by simpa using hR3) (by omega) (by simp) (by simp)).mono ?_
  rintro e w3 ⟨x0, hx0, rfl, hR4, hg⟩
  have HB2 := Lib.hid (grown_heap hg HB2.out (by simp; omega))
  have HZ3 := Lib.hid (grown_heap hg HZ3.out (by simp))
  have HM3 := Lib.hid (HM3.out.kept hg (fun k e => by injection e with e; omega))
  have HG3 := Lib.hid (grown_row HG3.out hg (fun k e => by injection e with e; omega))
  clear hR3 hg
  have hx0b : -1 ≤ x0 ∧ x0 ≤ 20 := by simp at hx0; omega
  have hx0c := hx0b.1
  have hx0d := hx0b.2
  have hwa : IntKind.i64.wrap (x0 + 2) = x0 + 2 := IntWalk.i64_in _ (by omega)
  have hwb : IntKind.i64.wrap (x0 + 6) = x0 + 6 := IntWalk.i64_in _ (by omega)
  have hwc : IntKind.i64.wrap (x0 - 1) = x0 - 1 := IntWalk.i64_in _ (by omega)
  go_wp2_with fail
  have HR := Lib.hid hR4
  clear hR4
  have hAz : w.heap.size + 1 < w2.heap.size := by have := hw2; omega
  generalize hAe : w2.heap.size = A at *
  obtain ⟨z0, z1, z2⟩ := three_cells HZ3.out
  obtain ⟨q0, q1, q2⟩ := three_cells HB2.out
  have s0 := cell_ald (o := .cells #[.int .i64 x0, .int .i64 (x0 + 2), .int .i64 (x0 + 6), .int .i64 10, .int .i64 (x0 - 1), .int .i64 300] 3) q0
  have s1 := cell_ald (o := .cells #[.int .i64 x0, .int .i64 (x0 + 2), .int .i64 (x0 + 6), .int .i64 10, .int .i64 (x0 - 1), .int .i64 300] 3) q1
  have s2 := cell_ald (o := .cells #[.int .i64 x0, .int .i64 (x0 + 2), .int .i64 (x0 + 6), .int .i64 10, .int .i64 (x0 - 1), .int .i64 300] 3) q2
  have hone := one_at [x0, x0 + 2, x0 + 6, 10, x0 - 1, 300] 3 (w.heap.size + 1) (0 + 130 + 1) w3.heap.size 6 w3.drew rfl (by simpa using HR.out.kept (grown_drew w3 none) (by simp)) (by omega) (by simp) (by simp)
  go_region_law (go_simp; go_at_call 38; refine hone.mono ?_; rintro e w8 ⟨x1, hx1, rfl, hR8, hg⟩; have hg' := grown_trans (grown_drew w3 _) hg; have HB8 := Lib.hid (grown_heap hg' HB2.out (by simp; omega)); have HZ8 := Lib.hid (grown_heap hg' HZ3.out (by simp)); have HM8 := Lib.hid (HM3.out.kept hg' (fun k e => by injection e with e; omega)); have HG8 := Lib.hid (grown_row HG3.out hg' (fun k e => by injection e with e; omega)); obtain ⟨c0, c1, c2⟩ := three_cells HB8.out; obtain ⟨d0, d1, d2⟩ := three_cells HZ8.out; have y0 := frozen_of_row w8 _ 0 _ _ HZ8.out; have y1 := frozen_of_row w8 _ 1 _ _ HZ8.out; have y2 := frozen_of_row w8 _ 2 _ _ HZ8.out; clear hR8 hg hg')
  all_goals
    go_simp
    go_wp2
    refine bodyPost_ret (v := .tuple #[.agg #[.int .i64 p, .int .i64 q, .slice a l c], .int .i64 x0, .int .i64 x1]) (by simp [results, Try.results15, go_sem, d0, d1, d2]) rfl ⟨p, q, a, l, c, xss, x0, x1, rfl, hx0, hx1, ?_⟩
    have g := grown_trans (grown_trans (grown_setCell w8 ⟨w.heap.size, 0, none⟩ (.int .i64 p)) (grown_setCell _ ⟨w.heap.size, 1, none⟩ (.int .i64 q))) (grown_setCell _ ⟨w.heap.size, 2, none⟩ (.slice a l c))
    exact ⟨(HM8.out.kept g (fun k e => by injection e with e; simp at e; omega)).mat, hl2, hs2, grown_row HG8.out g (fun k e => by injection e with e; simp at e; omega)⟩

set_option maxRecDepth 100000 in
set_option maxHeartbeats 4000000 in
theorem drawFd_any (ao : Option Addr) (len cap : Nat) (w : World) (hb : BytesAt w ao len) (hlc : len ≤ cap) (hmax : len ≤ 9223372036854775807) :
    Calls Try.prog 23 #[.slice ao len cap] w fun e w' => ∃ (p q : Int) (a : Option Addr) (l c : Nat) (xss : List (List Int)) (x0 : Int), e = .returned (.tuple #[.agg #[.int .i64 p, .int .i64 q, .slice a l c], .int .i64 x0]) ∧ x0 ∈ ([0, 1, 3, 7, 10, -1, 300] : List Int) ∧ AuOut w a l xss w' := by
  have HZ0 := Lib.hid (heap_alloc_new w (.cells #[.int .i64 0, .int .i64 0, .slice none 0 0] 25))
  have HG0 := Lib.hid (grown_alloc w (.cells #[.int .i64 0, .int .i64 0, .slice none 0 0] 25) none)
  have hb0 : BytesAt (w.alloc (.cells #[.int .i64 0, .int .i64 0, .slice none 0 0] 25)) ao len := bytesAt_alloc hb _
  clear hb
  go_enter Try.func23, Try.ntmps23
  go_wp2_with fail
  refine (newReader_any ao len cap _ hb0 hlc hmax).mono ?_
  rintro e w1 ⟨rfl, hR1, hg1⟩
  have HZ1 := Lib.hid (grown_heap hg1 HZ0.out (by simp))
  have HG1 := Lib.hid (grown_trans HG0.out hg1)
  have hw1 : (w.alloc (.cells #[.int .i64 0, .int .i64 0, .slice none 0 0] 25)).heap.size = w.heap.size + 1 := by simp
  rw [hw1] at hR1
  have hzl := block_lt HZ1.out
  clear hb0 HZ0 HG0 hg1
  go_wp2_with fail
  refine (anyAudio_any (w.heap.size + 1) 0 w1 (by simpa using hR1) (by omega)).mono ?_
  rintro e w2 ⟨p, q, a, l, c, xss, rfl, hm2, hl2, hs2, hR2, hg2⟩
  have HZ2 := Lib.hid (grown_heap hg2 HZ1.out (by simp))
  have HG2 := Lib.hid (grown_row HG1.out hg2 (fun g e => by injection e with e; omega))
  have hRl := hR1.lt
  have HM2 := Lib.hid hm2
  clear hR1 HG1 HZ1 hm2 hg2
  have HB2 := Lib.hid (heap_alloc_new w2 (.cells #[.int .i64 p, .int .i64 q, .slice a l c] 25))
  have HZ3 := Lib.hid (grown_heap (grown_alloc w2 (.cells #[.int .i64 p, .int .i64 q, .slice a l c] 25) none) HZ2.out (by simp))
  have HG3 := Lib.hid (grown_trans HG2.out (grown_alloc w2 (.cells #[.int .i64 p, .int .i64 q, .slice a l c] 25) none))
  have HM3 := Lib.hid (HM2.out.kept (grown_alloc w2 (.cells #[.int .i64 p, .int .i64 q, .slice a l c] 25) none) (by simp))
  have hR3 := hR2.alloc (.cells #[.int .i64 p, .int .i64 q, .slice a l c] 25)
  have hw2 := hR2.lt
  clear HG2 HZ2 HM2 hR2
  go_wp2_with fail
  generalize w2.alloc (.cells #[.int .i64 p, .int .i64 q, .slice a l c] 25) = w4 at *
  have HR := Lib.hid hR3
  clear hR3
  have hAz : w.heap.size + 1 < w2.heap.size := by have := hw2; omega
  generalize hAe : w2.heap.size = A at *
  obtain ⟨z0, z1, z2⟩ := three_cells HZ3.out
  obtain ⟨q0, q1, q2⟩ := three_cells HB2.out
  have s0 := cell_ald (o := .cells #[.int .i64 0, .int .i64 1, .int .i64 3, .int .i64 7, .int .i64 10, .int .i64 (-1), .int .i64 300] 3) q0
  have s1 := cell_ald (o := .cells #[.int .i64 0, .int .i64 1, .int .i64 3, .int .i64 7, .int .i64 10, .int .i64 (-1), .int .i64 300] 3) q1
  have s2 := cell_ald (o := .cells #[.int .i64 0, .int .i64 1, .int .i64 3, .int .i64 7, .int .i64 10, .int .i64 (-1), .int .i64 300] 3) q2
  have hone := one_at [0, 1, 3, 7, 10, -1, 300] 3 (w.heap.size + 1) (0 + 130) w4.heap.size 7 w4.drew rfl (by simpa using HR.out.kept (grown_drew w4 none) (by simp)) (by omega) (by simp) (by simp)
  go_region_law (go_simp; go_at_call 38; refine hone.mono ?_; rintro e w8 ⟨x0, hx0, rfl, hR8, hg⟩; have hg' := grown_trans (grown_drew w4 _) hg; have HB8 := Lib.hid (grown_heap hg' HB2.out (by simp; omega)); have HZ8 := Lib.hid (grown_heap hg' HZ3.out (by simp)); have HM8 := Lib.hid (HM3.out.kept hg' (fun k e => by injection e with e; omega)); have HG8 := Lib.hid (grown_row HG3.out hg' (fun k e => by injection e with e; omega)); obtain ⟨c0, c1, c2⟩ := three_cells HB8.out; obtain ⟨d0, d1, d2⟩ := three_cells HZ8.out; have y0 := frozen_of_row w8 _ 0 _ _ HZ8.out; have y1 := frozen_of_row w8 _ 1 _ _ HZ8.out; have y2 := frozen_of_row w8 _ 2 _ _ HZ8.out; clear hR8 hg hg')
  all_goals
    go_simp
    go_wp2
    refine bodyPost_ret (v := .tuple #[.agg #[.int .i64 p, .int .i64 q, .slice a l c], .int .i64 x0]) (by simp [results, Try.results23, go_sem, d0, d1, d2]) rfl ⟨p, q, a, l, c, xss, x0, rfl, hx0, ?_⟩
    have g := grown_trans (grown_trans (grown_setCell w8 ⟨w.heap.size, 0, none⟩ (.int .i64 p)) (grown_setCell _ ⟨w.heap.size, 1, none⟩ (.int .i64 q))) (grown_setCell _ ⟨w.heap.size, 2, none⟩ (.slice a l c))
    exact ⟨(HM8.out.kept g (fun k e => by injection e with e; simp at e; omega)).mat, hl2, hs2, grown_row HG8.out g (fun k e => by injection e with e; simp at e; omega)⟩

set_option maxRecDepth 100000 in
set_option maxHeartbeats 4000000 in
theorem drawRv_any (ao : Option Addr) (len cap : Nat) (w : World) (hb : BytesAt w ao len) (hlc : len ≤ cap) (hmax : len ≤ 9223372036854775807) :
    Calls Try.prog 27 #[.slice ao len cap] w fun e w' => ∃ (p q : Int) (a : Option Addr) (l c : Nat) (xss : List (List Int)), e = .returned (.agg #[.int .i64 p, .int .i64 q, .slice a l c]) ∧ AuOut w a l xss w' := by
  have HZ0 := Lib.hid (heap_alloc_new w (.cells #[.int .i64 0, .int .i64 0, .slice none 0 0] 25))
  have HG0 := Lib.hid (grown_alloc w (.cells #[.int .i64 0, .int .i64 0, .slice none 0 0] 25) none)
  have hb0 : BytesAt (w.alloc (.cells #[.int .i64 0, .int .i64 0, .slice none 0 0] 25)) ao len := bytesAt_alloc hb _
  clear hb
  go_enter Try.func27, Try.ntmps27
  go_wp2_with fail
  refine (newReader_any ao len cap _ hb0 hlc hmax).mono ?_
  rintro e w1 ⟨rfl, hR1, hg1⟩
  have HZ1 := Lib.hid (grown_heap hg1 HZ0.out (by simp))
  have HG1 := Lib.hid (grown_trans HG0.out hg1)
  have hw1 : (w.alloc (.cells #[.int .i64 0, .int .i64 0, .slice none 0 0] 25)).heap.size = w.heap.size + 1 := by simp
  rw [hw1] at hR1
  have hzl := block_lt HZ1.out
  clear hb0 HZ0 HG0 hg1
  go_wp2_with fail
  refine (anyAudio_any (w.heap.size + 1) 0 w1 (by simpa using hR1) (by omega)).mono ?_
  rintro e w2 ⟨p, q, a, l, c, xss, rfl, hm2, hl2, hs2, hR2, hg2⟩
  have HZ2 := Lib.hid (grown_heap hg2 HZ1.out (by simp))
  have HG2 := Lib.hid (grown_row HG1.out hg2 (fun g e => by injection e with e; omega))
  have hRl := hR1.lt
  have HM2 := Lib.hid hm2
  clear hR1 HG1 HZ1 hm2 hg2
  obtain ⟨z0, z1, z2⟩ := three_cells HZ2.out
  have y0 := frozen_of_row w2 _ 0 _ _ HZ2.out
  have y1 := frozen_of_row w2 _ 1 _ _ HZ2.out
  have y2 := frozen_of_row w2 _ 2 _ _ HZ2.out
  go_wp2
  refine bodyPost_ret (v := .agg #[.int .i64 p, .int .i64 q, .slice a l c]) (by simp [results, Try.results27, go_sem, z0, z1, z2]) rfl ⟨p, q, a, l, c, xss, rfl, ?_⟩
  have g := grown_trans (grown_trans (grown_setCell w2 ⟨w.heap.size, 0, none⟩ (.int .i64 p)) (grown_setCell _ ⟨w.heap.size, 1, none⟩ (.int .i64 q))) (grown_setCell _ ⟨w.heap.size, 2, none⟩ (.slice a l c))
  exact ⟨(HM2.out.kept g (fun k e => by injection e with e; simp at e; omega)).mat, hl2, hs2, grown_row HG2.out g (fun k e => by injection e with e; simp at e; omega)⟩

end Go.Proofs.Ytncbgofcimghnaa
