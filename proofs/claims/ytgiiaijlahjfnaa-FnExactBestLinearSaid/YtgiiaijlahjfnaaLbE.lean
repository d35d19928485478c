/-
  The energy of a list in both texts.
-/
import Derived.Test.YtgiiaijlahjfnaaLbM
namespace Go.Proofs.Ytgiiaijlahjfnaa
open Go.RowKit

set_option maxHeartbeats 2000000 in
theorem sEnergy_any (ys : List Int) (n : Nat) (z : Int) (ao : Option Addr) (cap : Nat) (w : World) (hx : Ints w ao n ys) (hv : allB ys (-4194303) 4194303 = true) (hn : n ≤ 64) (hz : enS ys n = z) :
    Calls Try.prog 51 #[.slice ao n cap] w fun e w' => e = .returned (.int .i64 z) ∧ w.grownBy w' none := by
  subst hz
  have hxl := hx.1
  have HX := Lib.hid hx
  have HV := Lib.hid hv
  clear hx hv
  go_enter Try.func51, Try.ntmps51
  go_wp2
  go_loopw [3, 4] (fun sv iv wr => ∃ (k q : Nat) (s : Int), sv = .int .i64 s ∧ iv = .int .i64 k ∧ k ≤ n ∧ wr = w.drewN q ∧ Hid (enS ys k = s)) (fun _ iv _ => 100 - (intOf iv).toNat)
  case atStart => exact ⟨0, 0, 0, rfl, rfl, Nat.zero_le _, rfl, rfl⟩
  case round =>
    obtain ⟨k, q, s, rfl, rfl, hk, rfl, hs⟩ := hrel
    by_cases hlt : k < n
    · obtain ⟨y, hyk⟩ : ∃ y, ys[k]? = some y := ⟨_, List.getElem?_eq_getElem (by omega)⟩
      obtain ⟨b, off, hab, hc⟩ := HX.out.2.resolve_left (by intro e; subst e; simp at hyk)
      have hcy := hc _ _ hyk
      have hyr := allB_mem HV.out hyk
      have hpr := sq_range hyr.1 hyr.2
      have hp0 := hpr.1
      have hp1 := hpr.2
      have hsr := enS_range HV.out k
      rw [hs.out] at hsr
      have hs0 : 0 ≤ s := hsr.1
      have hs1 : s ≤ 1125899371384832 := by omega
      have HS : Hid (enS ys (k + 1) = s + y * y) := by show _ = _; simp only [enS]; rw [hs.out, getD_of hyk]
      subst hab
      clear hc hyk hyr hpr hsr
      obtain ⟨p, hp⟩ : ∃ p, y * y = p := ⟨_, rfl⟩
      rw [hp] at hp0 hp1 HS
      have hw1 : wrap64 (y * y) = p := by rw [hp]; unfold wrap64; omega
      have hw2 : wrap64 (s + p) = s + p := by unfold wrap64; omega
      have HWW := Lib.hid (And.intro hw1 hw2)
      clear hp
      go_wp2
      go_quiet (fail)
      go_wp2
      go_roundw
      case rel => exact ⟨k + 1, q + nq, s + p, by first | rfl | (rw [HWW.out.1, HWW.out.2]), by go_num, by omega, rfl, HS⟩
      case measure => simp [intOf]; omega
    · obtain rfl : k = n := by omega
      have HF : Hid (enS ys k = s) := hs
      go_wp2
      go_ret
      exact ⟨ret_int HF.out.symm, grown_drewN _ _ _⟩

theorem iSquare_any (x p : Int) (w : World) (hp : x * x = p) (h0 : 0 ≤ p) (h1 : p ≤ 17592177655809) :
    Calls Try.prog 50 #[.int .i64 x] w fun e w' => e = .returned (.int .i64 p) ∧ w = w' := by
  subst hp
  go_enter Try.func50, Try.ntmps50
  go_wp2
  go_ret
  exact ⟨rfl, rfl⟩

theorem iTermE_any (i x p : Int) (B : Nat) (w : World) (hc : w.cell? ⟨B, 0, none⟩ = some (.func (.func 50) #[] #[])) (hp : x * x = p) (h0 : 0 ≤ p) (h1 : p ≤ 17592177655809) :
    Calls Try.prog 65 #[.int .i64 i, .int .i64 x, .pointer (some ⟨B, 0, none⟩)] w fun e w' => e = .returned (.int .i64 p) ∧ w = w' := by
  have k1 := iSquare_any x p w hp h0 h1
  go_enter Try.func65, Try.ntmps65
  go_wp2_with fail
  refine k1.mono ?_
  rintro e w' ⟨rfl, rfl⟩
  go_wp2
  go_ret
  exact ⟨rfl, rfl⟩

set_option maxHeartbeats 2000000 in
theorem iEnergy_any (ys : List Int) (n : Nat) (z : Int) (B : Nat) (ao : Option Addr) (cap : Nat) (w : World) (hx : Ints w ao n ys) (hv : allB ys (-4194303) 4194303 = true) (hn : n ≤ 64) (hc : w.cell? ⟨B, 0, none⟩ = some (.func (.func 50) #[] #[])) (hz : enS ys n = z) :
    Calls Try.prog 64 #[.slice ao n cap, .func (.func 65) #[] #[.pointer (some ⟨B, 0, none⟩)]] w fun e w' => e = .returned (.int .i64 z) ∧ w = w' := by
  subst hz
  by_cases h0 : n = 0
  · subst h0
    clear hx hv hc
    go_enter Try.func64, Try.ntmps64
    go_wp2
    refine wp_loop_rounds 1 ?_
    rw [rounds_succ]
    go_wp2
    go_ret
    exact ⟨rfl, rfl⟩
  obtain ⟨b, off, rfl, hcy⟩ := hx.2.resolve_left (by intro e; have := hx.1; rw [e] at this; simp at this; omega)
  have HY := Lib.hid hcy
  have HC := Lib.hid hc
  have HV := Lib.hid hv
  have HN := Lib.hid hx.1
  clear hx hcy hc hv h0
  go_enter Try.func64, Try.ntmps64
  go_wp2
  go_loop [5, 10] (fun sv i => ∃ (k : Nat) (s : Int), k ≤ n ∧ i = .int .i64 k ∧ sv = .int .i64 s ∧ Hid (enS ys k = s)) (fun _ i => n - (intOf i).toNat)
  case atStart => exact ⟨0, 0, Nat.zero_le _, rfl, rfl, rfl⟩
  case round =>
    obtain ⟨k, s, hk, rfl, rfl, hs⟩ := hrel
    by_cases hlt : k < n
    · obtain ⟨y, hyk⟩ : ∃ y, ys[k]? = some y := ⟨_, List.getElem?_eq_getElem (by have := HN.out; omega)⟩
      have hcx := HY.out k y hyk
      have hyr := allB_mem HV.out hyk
      have hpr := sq_range hyr.1 hyr.2
      have hsr := enS_range HV.out k
      rw [hs.out] at hsr
      have hs0 : 0 ≤ s := hsr.1
      have hs1 : s ≤ 1125899371384832 := by omega
      have HS : Hid (enS ys (k + 1) = s + y * y) := by show _ = _; simp only [enS]; rw [hs.out, getD_of hyk]
      have hcall := iTermE_any k y (y * y) B w HC.out rfl hpr.1 hpr.2
      have hp0 := hpr.1
      have hp1 := hpr.2
      clear hyk hyr hpr hsr
      go_wp2_with fail
      refine hcall.mono ?_
      rintro e w' ⟨rfl, rfl⟩
      clear hcall
      generalize y * y = p at *
      go_wp2
      go_round
      case rel => exact ⟨k + 1, s + p, by omega, by go_num, rfl, HS⟩
      case measure => simp [intOf]; omega
    · obtain rfl : k = n := by omega
      have HF : Hid (enS ys k = s) := hs
      go_wp2
      go_ret
      exact ⟨ret_int HF.out.symm, rfl⟩

end Go.Proofs.Ytgiiaijlahjfnaa
