/-
  Valid frames: what the specification says, for all channels that can be read.
-/
import Derived.Test.YtlibcppkhahobaaVBl
import Derived.Test.YtlibcppkhahobaaMatFrame
namespace Go.Proofs.Ytlibcppkhahobaa
open Go.RowKit

set_option maxRecDepth 100000 in
set_option maxHeartbeats 2000000 in
theorem svFr_any (xss : List (List Int)) (ao : Option Addr) (len cap : Nat) (r d : Int) (w : World) (v : Bool) (hx : Mat w ao len xss) (hs : szL xss ≤ 1048576) (hv : vFr r d xss = v) :
    Calls Try.prog 27 #[.agg #[.int .i64 r, .int .i64 d, .slice ao len cap]] w fun e w' => e = .returned (.bool v) ∧ w.grownBy w' none := by
  subst hv
  have hl := hx.1
  have hlen : len ≤ 1048576 := by unfold szL at hs; omega
  have hir := fun (n lo hi : Int) (b : Bool) (hb : inB n lo hi = b) => inRange_any n lo hi b (w.alloc (.cells #[.int .i64 r, .int .i64 d, .slice ao len cap] 35)) hb
  cases h1 : inB r 0 2147483647 with
  | false =>
    have k1 := hir r 0 2147483647 false h1
    rw [vFr_no1 h1]
    clear hx hs hl hir h1
    go_enter Try.func27, Try.ntmps27
    go_wp2_with fail
    refine k1.mono ?_
    rintro e w' ⟨rfl, rfl⟩
    go_wp2
    go_ret
    exact ⟨rfl, grown_alloc _ _ _⟩
  | true =>
  cases h2 : inB d 4 16 with
  | false =>
    have k1 := hir r 0 2147483647 true h1
    have k2 := hir d 4 16 false h2
    rw [vFr_no2 h2]
    clear hx hs hl hir h1 h2
    go_enter Try.func27, Try.ntmps27
    go_wp2_with fail
    refine k1.mono ?_
    rintro e w' ⟨rfl, rfl⟩
    go_wp2_with fail
    refine k2.mono ?_
    rintro e w' ⟨rfl, rfl⟩
    go_wp2
    go_ret
    exact ⟨rfl, grown_alloc _ _ _⟩
  | true =>
  have k1 := hir r 0 2147483647 true h1
  have k2 := hir d 4 16 true h2
  by_cases h3 : ¬ (1 ≤ len ∧ len ≤ 2)
  · have k3 := hir (len : Int) 1 2 false (inB_false (by omega))
    rw [vFr_no3 (by rw [hl]; exact h3)]
    clear hx hs hl hir h1 h2 h3
    go_enter Try.func27, Try.ntmps27
    go_wp2_with fail
    refine k1.mono ?_
    rintro e w' ⟨rfl, rfl⟩
    go_wp2_with fail
    refine k2.mono ?_
    rintro e w' ⟨rfl, rfl⟩
    go_wp2_with fail
    refine k3.mono ?_
    rintro e w' ⟨rfl, rfl⟩
    go_wp2
    go_ret
    exact ⟨rfl, grown_alloc _ _ _⟩
  have h3 := Classical.not_not.1 h3
  have k3 := hir (len : Int) 1 2 true (inB_true (by omega) (by omega))
  have hd16 : 4 ≤ d ∧ d ≤ 16 := by simpa [inB] using h2
  obtain ⟨u, hu⟩ : ∃ u : Nat, d - 1 = (u : Int) := ⟨(d - 1).toNat, by omega⟩
  have hV := vFr_in h1 h2 (by rw [hl]; exact h3)
  obtain ⟨b, off, rfl, hc⟩ := hx.2.resolve_left (by intro e; subst e; simp at hl; omega)
  have hh0 := head_row (xss := xss) (by omega)
  obtain ⟨u0, hu0, a0, c0, rfl, hi0, hlc0, hcm0, _⟩ := hc 0 _ hh0
  obtain ⟨H, hH⟩ : ∃ H, (xss.headD []).length = H := ⟨_, rfl⟩
  rw [hH] at hu0 hV
  have hHl : H ≤ 1048576 := by have := row_le hh0; omega
  rw [hV]
  have HL := Lib.hid hl
  have HC := Lib.hid hc
  have HS := Lib.hid hs
  have hp := pow_u u (by omega)
  have hp0 := hp.1
  have hp1 := hp.2
  have hw0 : IntKind.i64.wrap (2 ^ u) = 2 ^ u := IntWalk.i64_in _ (by omega)
  have hw1 : IntKind.i64.wrap (-(2 ^ u)) = -(2 ^ u) := IntWalk.i64_in _ (by omega)
  have hw2 : IntKind.i64.wrap (-1 * 2 ^ u) = -(2 ^ u) := IntWalk.i64_in _ (by omega) |>.trans (by omega)
  have hu15 : u ≤ 15 := by omega
  have hus : (u : Int).toNat = u := by simp
  have hwu : IntKind.i64.wrap (u : Int) = (u : Int) := IntWalk.i64_in _ (by omega)
  have hq2 : IntKind.i64.wrap (2 ^ u - 1) = 2 ^ u - 1 := IntWalk.i64_in _ (by omega)
  have hd4 : 4 ≤ d := by omega
  have hd5 : d ≤ 16 := by omega
  have h31 : 1 ≤ len := h3.1
  have h32 : len ≤ 2 := h3.2
  have hu00 : (0 : Int) ≤ (u : Int) := by omega
  have hu01 : (u : Int) ≤ 64 := by omega
  clear hx hs hl hir h1 h2 h3 hV hc hi0 hlc0 hcm0 hh0 hH hp hd16
  go_enter Try.func27, Try.ntmps27
  go_wp2_with fail
  refine k1.mono ?_
  rintro e w' ⟨rfl, rfl⟩
  go_wp2_with fail
  refine k2.mono ?_
  rintro e w' ⟨rfl, rfl⟩
  go_wp2_with fail
  refine k3.mono ?_
  rintro e w' ⟨rfl, rfl⟩
  clear k1 k2 k3
  have HA := Lib.hid (heap_alloc_new w (.cells #[.int .i64 r, .int .i64 d, .slice (some ⟨b, off, none⟩) len cap] 35))
  have HW := Lib.hid (grown_alloc w (.cells #[.int .i64 r, .int .i64 d, .slice (some ⟨b, off, none⟩) len cap] 35) none)
  have hs0 := (World.cell?_of_block (a := ⟨b, off, none⟩) (heap_alloc_old w (.cells #[.int .i64 r, .int .i64 d, .slice (some ⟨b, off, none⟩) len cap] 35) (block_lt_of_cell hu0))).trans hu0
  generalize hwb : w.alloc (.cells #[.int .i64 r, .int .i64 d, .slice (some ⟨b, off, none⟩) len cap] 35) = wb at *
  clear hwb
  go_wp2
  go_loopw [4] (fun i wr => ∃ k : Nat, k ≤ len ∧ i = .int .i64 k ∧ Hid (∃ n, wr = wb.drewN n) ∧ Hid ((xss.take k).all (fun xs => vBl d xs && decide (xs.length = H)) = true)) (fun i _ => len - (intOf i).toNat)
  case atStart => exact ⟨0, Nat.zero_le _, rfl, ⟨0, rfl⟩, rfl⟩
  case round =>
    obtain ⟨k, hk, rfl, HD, HT⟩ := hrel
    have hgd : wb.grownBy wr none := by obtain ⟨n, e⟩ := HD.out; rw [e]; exact grown_drewN _ _ _
    have hB := grown_heap hgd HA.out (by simp)
    have q0 : wr.cell? ⟨w.heap.size, 0, none⟩ = some (.int .i64 r) := by rw [cell_of_row wr _ 0 _ _ _ hB]; rfl
    have q1 : wr.cell? ⟨w.heap.size, 1, none⟩ = some (.int .i64 d) := by rw [cell_of_row wr _ 1 _ _ _ hB]; rfl
    have q2 : wr.cell? ⟨w.heap.size, 2, none⟩ = some (.slice (some ⟨b, off, none⟩) len cap) := by rw [cell_of_row wr _ 2 _ _ _ hB]; rfl
    have t0 : wr.cell? ⟨b, off, none⟩ = some (.slice a0 H c0) := hgd.cell hs0 (by simp)
    by_cases hlt : k < len
    · obtain ⟨xs, hxk⟩ : ∃ xs, xss[k]? = some xs := ⟨_, List.getElem?_eq_getElem (by rw [HL.out]; exact hlt)⟩
      obtain ⟨ux, hux, a, c, rfl, hi, hlc, hcm, _⟩ := HC.out k xs hxk
      have hrl : xs.length ≤ 1048576 := Nat.le_trans (row_le hxk) HS.out
      have hcx : wr.cell? ⟨b, off + k, none⟩ = some (.slice a xs.length c) := (grown_trans HW.out hgd).cell hux (by simp)
      obtain ⟨n, hn⟩ : ∃ n, xs.length = n := ⟨_, rfl⟩
      rw [hn] at hcx hrl
      have HX := Lib.hid hxk
      have HN := Lib.hid hn
      have hin := hi.grown (grown_trans HW.out hgd)
      rw [hn] at hin
      cases h5 : vBl d xs with
      | false =>
        have ke := fun j => sVW_any xs a n c d false (wr.drewN j) (hin.grown (grown_drewN _ _ _)) (by omega) h5
        have HF : Hid ((xss.all fun xs => vBl d xs && decide (xs.length = H)) = false) := all_false (p := fun xs => vBl d xs && decide (xs.length = H)) HX.out (by simp [h5])
        clear hi hlc hcm hxk hn hin h5 hgd hB hux
        go_wp2_with fail
        go_quiet ((go_at_call 40; exact Calls.quiet_of (ke _)))
        clear ke
        go_wp2
        go_ret
        exact ⟨ret_bool HF.out.symm, by obtain ⟨m, e⟩ := HD.out; rw [e]; exact grown_trans HW.out (grown_trans (grown_drewN _ _ _) (grown_drewN _ _ _))⟩
      | true =>
        have ke := fun j => sVW_any xs a n c d true (wr.drewN j) (hin.grown (grown_drewN _ _ _)) (by omega) h5
        by_cases h4 : n = H
        · have d4 : ((n : Int) != (H : Int)) = false := by simp; omega
          have HT2 := Lib.hid (all_take (p := fun xs => vBl d xs && decide (xs.length = H)) HX.out HT.out (by simp [h5, HN.out, h4]))
          clear hi hlc hcm hxk hn hin h4 h5 hgd hB hux
          go_wp2_with fail
          go_quiet ((go_at_call 40; exact Calls.quiet_of (ke _)))
          clear ke
          have HD2 : Hid (∃ n, wr.drewN nq = wb.drewN n) := by obtain ⟨m, e⟩ := HD.out; exact ⟨m + nq, by rw [e, World.drewN_drewN]⟩
          go_wp2
          go_roundw
          case rel => exact ⟨k + 1, by omega, by go_num, HD2, HT2⟩
          case measure => simp [intOf]; omega
        · have d4 : ((n : Int) != (H : Int)) = true := by simp; omega
          have HF : Hid ((xss.all fun xs => vBl d xs && decide (xs.length = H)) = false) := all_false (p := fun xs => vBl d xs && decide (xs.length = H)) HX.out (by simp [HN.out, h4])
          clear hi hlc hcm hxk hn hin h4 h5 hgd hB hux
          go_wp2_with fail
          go_quiet ((go_at_call 40; exact Calls.quiet_of (ke _)))
          clear ke
          go_wp2
          go_ret
          exact ⟨ret_bool HF.out.symm, by obtain ⟨m, e⟩ := HD.out; rw [e]; exact grown_trans HW.out (grown_trans (grown_drewN _ _ _) (grown_drewN _ _ _))⟩
    · obtain rfl : k = len := by omega
      have HF : Hid ((xss.all fun xs => vBl d xs && decide (xs.length = H)) = true) := by
        have h := HT.out
        rw [List.take_of_length_le (by rw [HL.out]; exact Nat.le_refl _)] at h
        exact h
      have HG := Lib.hid hgd
      clear hgd hB
      go_wp2
      go_ret
      exact ⟨ret_bool HF.out.symm, grown_trans HW.out HG.out⟩

set_option maxHeartbeats 400000 in
theorem sVFr_any (xss : List (List Int)) (ao : Option Addr) (len cap : Nat) (r d : Int) (w : World) (v : Bool) (hx : Mat w ao len xss) (hs : szL xss ≤ 1048576) (hv : vFr r d xss = v) :
    Calls Try.prog 12 #[.agg #[.int .i64 r, .int .i64 d, .slice ao len cap]] w fun e w' => e = .returned (.bool v) ∧ w.grownBy w' none := by
  have k1 := svFr_any xss ao len cap r d (w.alloc (.cells #[.int .i64 r, .int .i64 d, .slice ao len cap] 35)) v (hx.grown (grown_alloc _ _ _)) hs hv
  clear hx hs hv
  go_enter Try.func12, Try.ntmps12
  go_wp2_with fail
  refine k1.mono ?_
  rintro e w1 ⟨rfl, hg⟩
  have HG := Lib.hid (grown_trans (grown_alloc w (.cells #[.int .i64 r, .int .i64 d, .slice ao len cap] 35) none) hg)
  clear k1 hg
  go_wp2
  go_ret
  exact ⟨rfl, HG.out⟩

end Go.Proofs.Ytlibcppkhahobaa
