/-
  Valid audio: what both texts say, for all channels that can be read.
-/
import Derived.Test.YtncbgofcimghnaaMatAudio
import Derived.Test.YtncbgofcimghnaaILin
import Derived.Deep.QuietTactic
import Derived.BigQuiet
namespace Go.Proofs.Ytncbgofcimghnaa
open Go.RowKit

/-- A channel with as many samples as the first one, all in the range of a depth. -/
def vCh (u h : Nat) (xs : List Int) : Bool := decide (xs.length = h) && allB xs (-(2 ^ u)) (2 ^ u - 1)
/-- Valid audio. -/
def vAu (r d : Int) (xss : List (List Int)) : Bool :=
  inB r 1 999999 && inB d 4 16 && decide (1 ≤ xss.length ∧ xss.length ≤ 2) && (xss.all fun xs => vCh (d - 1).toNat (xss.headD []).length xs) && decide ((xss.headD []).length ≤ 256)

theorem all_take {p : List Int → Bool} {xss : List (List Int)} {k : Nat} {xs : List Int} (h : xss[k]? = some xs) (ht : (xss.take k).all p = true) (hp : p xs = true) : (xss.take (k + 1)).all p = true := by
  rw [List.take_add_one, h]; simp [ht, hp]
theorem all_false {p : List Int → Bool} {xss : List (List Int)} {k : Nat} {xs : List Int} (h : xss[k]? = some xs) (hp : p xs = false) : xss.all p = false := by
  rw [Bool.eq_false_iff]
  intro ha
  rw [List.all_eq_true] at ha
  have := ha xs (List.mem_of_getElem? h)
  rw [hp] at this; cases this
theorem head_row {xss : List (List Int)} (h : 0 < xss.length) : xss[0]? = some (xss.headD []) := by
  cases xss with
  | nil => simp at h
  | cons x xs => rfl
theorem pow_u (u : Nat) (h : u ≤ 17) : (1 : Int) ≤ 2 ^ u ∧ (2 : Int) ^ u ≤ 131072 := by
  have h1 := Nat.pow_le_pow_right (show 0 < 2 by omega) h
  have h2 := Nat.two_pow_pos u
  have e : ((2 ^ u : Nat) : Int) = 2 ^ u := by simp
  omega
theorem vAu_no1 {r d : Int} {xss : List (List Int)} (h : inB r 1 999999 = false) : vAu r d xss = false := by unfold vAu; rw [h]; rfl
theorem vAu_no2 {r d : Int} {xss : List (List Int)} (h : inB d 4 16 = false) : vAu r d xss = false := by unfold vAu; rw [h]; simp
theorem vAu_no3 {r d : Int} {xss : List (List Int)} (h : ¬ (1 ≤ xss.length ∧ xss.length ≤ 2)) : vAu r d xss = false := by unfold vAu; rw [decide_eq_false h]; simp
theorem vAu_in {r d : Int} {u : Nat} {xss : List (List Int)} (h1 : inB r 1 999999 = true) (h2 : inB d 4 16 = true) (h3 : 1 ≤ xss.length ∧ xss.length ≤ 2) (hu : d - 1 = (u : Int)) : vAu r d xss = ((xss.all fun xs => vCh u (xss.headD []).length xs) && decide ((xss.headD []).length ≤ 256)) := by
  unfold vAu; rw [h1, h2, decide_eq_true h3, hu]; simp

set_option maxRecDepth 100000 in
set_option maxHeartbeats 2000000 in
theorem svAu_any (xss : List (List Int)) (ao : Option Addr) (len cap : Nat) (r d : Int) (w : World) (v : Bool) (hx : Mat w ao len xss) (hs : szL xss ≤ 1048576) (hv : vAu r d xss = v) :
    Calls Try.prog 42 #[.agg #[.int .i64 r, .int .i64 d, .slice ao len cap]] w fun e w' => e = .returned (.bool v) ∧ w.grownBy w' none := by
  subst hv
  have hl := hx.1
  have hlen : len ≤ 1048576 := by unfold szL at hs; omega
  have hir := fun (n lo hi : Int) (b : Bool) (hb : inB n lo hi = b) => inRange_any n lo hi b (w.alloc (.cells #[.int .i64 r, .int .i64 d, .slice ao len cap] 25)) hb
  cases h1 : inB r 1 999999 with
  | false =>
    have k1 := hir r 1 999999 false h1
    rw [vAu_no1 h1]
    clear hx hs hl hir h1
    go_enter Try.func42, Try.ntmps42
    go_wp2_with fail
    refine k1.mono ?_
    rintro e w' ⟨rfl, rfl⟩
    go_wp2
    go_ret
    exact ⟨rfl, grown_alloc _ _ _⟩
  | true =>
  cases h2 : inB d 4 16 with
  | false =>
    have k1 := hir r 1 999999 true h1
    have k2 := hir d 4 16 false h2
    rw [vAu_no2 h2]
    clear hx hs hl hir h1 h2
    go_enter Try.func42, Try.ntmps42
    go_wp2_with fail
    refine k1.mono ?_
    rintro e w' ⟨rfl, rfl⟩
    go_wp2_with fail
    refine k2.mono ?_
    rintro e w' ⟨rfl, rfl⟩
    go_wp2
    go_ret
    exact ⟨rfl, grown_alloc _ _ _⟩
  | true =>
  have k1 := hir r 1 999999 true h1
  have k2 := hir d 4 16 true h2
  by_cases h3 : ¬ (1 ≤ len ∧ len ≤ 2)
  · have k3 := hir (len : Int) 1 2 false (inB_false (by omega))
    rw [vAu_no3 (by rw [hl]; exact h3)]
    clear hx hs hl hir h1 h2 h3
    go_enter Try.func42, Try.ntmps42
    go_wp2_with fail
    refine k1.mono ?_
    rintro e w' ⟨rfl, rfl⟩
    go_wp2_with fail
    refine k2.mono ?_
    rintro e w' ⟨rfl, rfl⟩
    go_wp2_with fail
    refine k3.mono ?_
    rintro e w' ⟨rfl, rfl⟩
    go_wp2
    go_ret
    exact ⟨rfl, grown_alloc _ _ _⟩
  have h3 := Classical.not_not.1 h3
  have k3 := hir (len : Int) 1 2 true (inB_true (by omega) (by omega))
  have hd16 : 4 ≤ d ∧ d ≤ 16 := by simpa [inB] using h2
  obtain ⟨u, hu⟩ : ∃ u : Nat, d - 1 = (u : Int) := ⟨(d - 1).toNat, by omega⟩
  have hV := vAu_in h1 h2 (by rw [hl]; exact h3) hu
  obtain ⟨b, off, rfl, hc⟩ := hx.2.resolve_left (by intro e; subst e; simp at hl; omega)
  have hh0 := head_row (xss := xss) (by omega)
  obtain ⟨u0, hu0, a0, c0, rfl, hi0, hlc0, hcm0, _⟩ := hc 0 _ hh0
  obtain ⟨H, hH⟩ : ∃ H, (xss.headD []).length = H := ⟨_, rfl⟩
  rw [hH] at hu0 hV
  have hHl : H ≤ 1048576 := by have := row_le hh0; omega
  rw [hV]
  have HL := Lib.hid hl
  have HC := Lib.hid hc
  have HS := Lib.hid hs
  have hp := pow_u u (by omega)
  have hp0 := hp.1
  have hp1 := hp.2
  have hw0 : IntKind.i64.wrap (2 ^ u) = 2 ^ u := IntWalk.i64_in _ (by omega)
  have hw1 : IntKind.i64.wrap (-(2 ^ u)) = -(2 ^ u) := IntWalk.i64_in _ (by omega)
  have hw2 : IntKind.i64.wrap (-1 * 2 ^ u) = -(2 ^ u) := IntWalk.i64_in _ (by omega) |>.trans (by omega)
  have hu15 : u ≤ 15 := by omega
  have hus : (u : Int).toNat = u := by simp
  have hwu : IntKind.i64.wrap (u : Int) = (u : Int) := IntWalk.i64_in _ (by omega)
  have hq2 : IntKind.i64.wrap (2 ^ u - 1) = 2 ^ u - 1 := IntWalk.i64_in _ (by omega)
  have hd4 : 4 ≤ d := by omega
  have hd5 : d ≤ 16 := by omega
  have h31 : 1 ≤ len := h3.1
  have h32 : len ≤ 2 := h3.2
  have hu00 : (0 : Int) ≤ (u : Int) := by omega
  have hu01 : (u : Int) ≤ 64 := by omega
  clear hx hs hl hir h1 h2 h3 hV hc hi0 hlc0 hcm0 hh0 hH hp hd16
  go_enter Try.func42, Try.ntmps42
  go_wp2_with fail
  refine k1.mono ?_
  rintro e w' ⟨rfl, rfl⟩
  go_wp2_with fail
  refine k2.mono ?_
  rintro e w' ⟨rfl, rfl⟩
  go_wp2_with fail
  refine k3.mono ?_
  rintro e w' ⟨rfl, rfl⟩
  clear k1 k2 k3
  have HA := Lib.hid (heap_alloc_new w (.cells #[.int .i64 r, .int .i64 d, .slice (some ⟨b, off, none⟩) len cap] 25))
  have HW := Lib.hid (grown_alloc w (.cells #[.int .i64 r, .int .i64 d, .slice (some ⟨b, off, none⟩) len cap] 25) none)
  have hs0 := (World.cell?_of_block (a := ⟨b, off, none⟩) (heap_alloc_old w (.cells #[.int .i64 r, .int .i64 d, .slice (some ⟨b, off, none⟩) len cap] 25) (block_lt_of_cell hu0))).trans hu0
  generalize hwb : w.alloc (.cells #[.int .i64 r, .int .i64 d, .slice (some ⟨b, off, none⟩) len cap] 25) = wb at *
  clear hwb
  go_wp2
  go_loopw [4] (fun i wr => ∃ k : Nat, k ≤ len ∧ i = .int .i64 k ∧ Hid (∃ n, wr = wb.drewN n) ∧ Hid ((xss.take k).all (fun xs => vCh u H xs) = true)) (fun i _ => len - (intOf i).toNat)
  case atStart => exact ⟨0, Nat.zero_le _, rfl, ⟨0, rfl⟩, rfl⟩
  case round =>
    obtain ⟨k, hk, rfl, HD, HT⟩ := hrel
    have hgd : wb.grownBy wr none := by obtain ⟨n, e⟩ := HD.out; rw [e]; exact grown_drewN _ _ _
    have hB := grown_heap hgd HA.out (by simp)
    have q0 : wr.cell? ⟨w.heap.size, 0, none⟩ = some (.int .i64 r) := by rw [cell_of_row wr _ 0 _ _ _ hB]; rfl
    have q1 : wr.cell? ⟨w.heap.size, 1, none⟩ = some (.int .i64 d) := by rw [cell_of_row wr _ 1 _ _ _ hB]; rfl
    have q2 : wr.cell? ⟨w.heap.size, 2, none⟩ = some (.slice (some ⟨b, off, none⟩) len cap) := by rw [cell_of_row wr _ 2 _ _ _ hB]; rfl
    have t0 : wr.cell? ⟨b, off, none⟩ = some (.slice a0 H c0) := hgd.cell hs0 (by simp)
    by_cases hlt : k < len
    · obtain ⟨xs, hxk⟩ : ∃ xs, xss[k]? = some xs := ⟨_, List.getElem?_eq_getElem (by rw [HL.out]; exact hlt)⟩
      obtain ⟨ux, hux, a, c, rfl, hi, hlc, hcm, _⟩ := HC.out k xs hxk
      have hrl : xs.length ≤ 1048576 := Nat.le_trans (row_le hxk) HS.out
      have hcx : wr.cell? ⟨b, off + k, none⟩ = some (.slice a xs.length c) := (grown_trans HW.out hgd).cell hux (by simp)
      obtain ⟨n, hn⟩ : ∃ n, xs.length = n := ⟨_, rfl⟩
      rw [hn] at hcx hrl
      have HX := Lib.hid hxk
      have HN := Lib.hid hn
      have hin := hi.grown (grown_trans HW.out hgd)
      rw [hn] at hin
      by_cases h4 : n = H
      · have d4 : ((n : Int) != (H : Int)) = false := by simp; omega
        cases h5 : allB xs (-(2 ^ u)) (2 ^ u - 1) with
        | false =>
          have ke := fun j => allIn_any xs (-(2 ^ u)) (2 ^ u - 1) a n c (wr.drewN j) (hin.grown (grown_drewN _ _ _)) (by omega)
          rw [h5] at ke
          have HF : Hid (((xss.all fun xs => vCh u H xs) && decide (H ≤ 256)) = false) := by
            have := all_false (p := fun xs => vCh u H xs) HX.out (by unfold vCh; simp [h5])
            show _ = _; rw [this]; rfl
          clear hi hlc hcm hxk hn hin h4 h5 hgd hB hux
          go_wp2_with fail
          go_quiet ((go_at_call 68; exact Calls.quiet_of_same ((ke _).mono (fun _ _ h => ⟨h.1, h.2.symm⟩))))
          clear ke
          go_wp2
          go_ret
          exact ⟨ret_bool HF.out.symm, by obtain ⟨m, e⟩ := HD.out; rw [e]; exact grown_trans HW.out (grown_trans (grown_drewN _ _ _) (grown_drewN _ _ _))⟩
        | true =>
          have ke := fun j => allIn_any xs (-(2 ^ u)) (2 ^ u - 1) a n c (wr.drewN j) (hin.grown (grown_drewN _ _ _)) (by omega)
          rw [h5] at ke
          have HT2 := Lib.hid (all_take (p := fun xs => vCh u H xs) HX.out HT.out (by unfold vCh; simp [h5, HN.out, h4]))
          clear hi hlc hcm hxk hn hin h4 h5 hgd hB hux
          go_wp2_with fail
          go_quiet ((go_at_call 68; exact Calls.quiet_of_same ((ke _).mono (fun _ _ h => ⟨h.1, h.2.symm⟩))))
          clear ke
          have HD2 : Hid (∃ n, wr.drewN nq = wb.drewN n) := by obtain ⟨m, e⟩ := HD.out; exact ⟨m + nq, by rw [e, World.drewN_drewN]⟩
          go_wp2
          go_roundw
          case rel => exact ⟨k + 1, by omega, by go_num, HD2, HT2⟩
          case measure => simp [intOf]; omega
      · have d4 : ((n : Int) != (H : Int)) = true := by simp; omega
        have HF : Hid (((xss.all fun xs => vCh u H xs) && decide (H ≤ 256)) = false) := by
          have := all_false (p := fun xs => vCh u H xs) HX.out (by unfold vCh; simp [HN.out, h4])
          show _ = _; rw [this]; rfl
        clear hi hlc hcm hxk hn hin h4 hgd hB hux
        go_wp2_with fail
        go_quiet (fail)
        go_wp2
        go_ret
        exact ⟨ret_bool HF.out.symm, by obtain ⟨m, e⟩ := HD.out; rw [e]; exact grown_trans HW.out (grown_trans (grown_drewN _ _ _) (grown_drewN _ _ _))⟩
    · obtain rfl : k = len := by omega
      have HF : Hid (((xss.all fun xs => vCh u H xs) && decide (H ≤ 256)) = decide ((H : Int) ≤ 256)) := by
        have h := HT.out
        rw [List.take_of_length_le (by rw [HL.out]; exact Nat.le_refl _)] at h
        show _ = _
        rw [h, Bool.true_and, decide_eq_decide]; omega
      have HG := Lib.hid hgd
      clear hgd hB
      go_wp2
      go_ret
      exact ⟨ret_bool HF.out.symm, grown_trans HW.out HG.out⟩

end Go.Proofs.Ytncbgofcimghnaa
