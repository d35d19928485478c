/-
  The size of audio against what is left. No condition but sizes.
-/
import Derived.Test.YtncbgofcimghnaaMarkA
import Derived.Deep.LoopGhost
namespace Go.Proofs.Ytncbgofcimghnaa
open Go.RowKit

set_option maxHeartbeats 1000000 in
theorem szIntSS_L (Z : Nat) (hZ : Z ≤ 1048576) (xss : List (List Int)) (ao : Option Addr) (len cap : Nat) (r : Int) (w : World) (hm : Mat w ao len xss) (hmax : len ≤ 9223372036854775807) (hr : r = if (szL xss : Int) ≤ (Z : Int) then (Z : Int) - (szL xss : Int) else -1) :
    Calls Try.prog 61 #[.slice ao len cap, .int .i64 (Z : Int)] w fun e w' => e = .returned (.int .i64 r) ∧ w = w' := by
  have hl := hm.1
  by_cases h0 : Z < len
  · have hr' : r = -1 := by rw [hr, if_neg (by unfold szL; omega)]
    subst hr'
    have hd : decide ((Z : Int) - (len : Int) < 0) = true := by simp; omega
    clear hm hr hl
    go_enter Try.func61, Try.ntmps61
    go_wp2
    go_ret
    exact ⟨rfl, rfl⟩
  have hd : decide ((Z : Int) - (len : Int) < 0) = false := by simp; omega
  have hlen : len ≤ Z := by omega
  have HM := Lib.hid hm
  have HL := Lib.hid hl
  have HR := Lib.hid hr
  clear hm hl hr h0
  go_enter Try.func61, Try.ntmps61
  go_wp2
  go_loop [1, 5] (fun l i => ∃ (k : Nat) (L : Int), k ≤ len ∧ i = .int .i64 k ∧ l = .int .i64 L ∧ 0 ≤ L ∧ L ≤ 1048576 ∧ Hid (L = (Z : Int) - (len : Int) - (((xss.take k).map List.length).sum : Nat))) (fun _ i => len - (intOf i).toNat)
  case atStart => exact ⟨0, _, Nat.zero_le _, rfl, rfl, by omega, by omega, by show _ = _; simp⟩
  case round =>
    obtain ⟨k, L, hk, rfl, rfl, hL0, hL1, HS⟩ := hrel
    by_cases hlt : k < len
    · obtain ⟨xs, hxk⟩ : ∃ xs, xss[k]? = some xs := ⟨_, List.getElem?_eq_getElem (by rw [HL.out]; exact hlt)⟩
      obtain ⟨b, off, rfl, hc⟩ := HM.out.2.resolve_left (by intro e; subst e; simp at hxk)
      obtain ⟨u, hu, a, c, rfl, hi, hlc, hcm, _⟩ := hc k xs hxk
      have HX := Lib.hid hxk
      obtain ⟨n, hn⟩ : ∃ n, xs.length = n := ⟨_, rfl⟩
      rw [hn] at hu hlc
      have HN := Lib.hid hn
      clear hc hi hxk hn
      by_cases h1 : (n : Int) ≤ L
      · have ks := szIntS_any a n c L (L - (n : Int)) w (by omega) (by omega) (by omega) (by rw [if_pos h1])
        have hd2 : decide (L - (n : Int) < 0) = false := by simp; omega
        go_wp2_with fail
        refine ks.mono ?_
        rintro e w1 ⟨rfl, rfl⟩
        clear ks
        go_wp2
        go_round
        case rel => exact ⟨k + 1, _, by omega, by go_num, rfl, by omega, by omega, by show _ = _; rw [HS.out, szsum_take HX.out, HN.out]; omega⟩
        case measure => simp [intOf]; omega
      · have ks := szIntS_any a n c L (-1) w (by omega) (by omega) (by omega) (by rw [if_neg h1])
        go_wp2_with fail
        refine ks.mono ?_
        rintro e w1 ⟨rfl, rfl⟩
        clear ks
        go_wp2
        go_ret
        refine ⟨ret_int ?_, rfl⟩
        have h2 := szsum_take HX.out
        have h3 := szsum_le xss (k + 1)
        rw [HR.out, if_neg]
        have := HS.out
        have := HN.out
        have := HL.out
        unfold szL
        omega
    · obtain rfl : k = len := by omega
      go_wp2
      go_ret
      refine ⟨ret_int ?_, rfl⟩
      have h1 := HS.out
      rw [List.take_of_length_le (by rw [HL.out]; exact Nat.le_refl _)] at h1
      have := HL.out
      rw [HR.out, if_pos (by unfold szL; omega)]
      unfold szL
      omega

set_option maxHeartbeats 400000 in
theorem szAudio_L (Z : Nat) (hZ : Z ≤ 1048576) (xss : List (List Int)) (ao : Option Addr) (len cap : Nat) (p q r : Int) (w : World) (hm : Mat w ao len xss) (hmax : len ≤ 9223372036854775807) (hr : r = if (szL xss : Int) ≤ (Z : Int) then (Z : Int) - (szL xss : Int) else -1) :
    Calls Try.prog 31 #[.agg #[.int .i64 p, .int .i64 q, .slice ao len cap], .int .i64 (Z : Int)] w fun e w' => e = .returned (.int .i64 r) ∧ w.grownBy w' none := by
  have k1 := szIntSS_L Z hZ xss ao len cap r (w.alloc (.cells #[.int .i64 p, .int .i64 q, .slice ao len cap] 43)) (hm.grown (grown_alloc _ _ _)) hmax hr
  clear hm
  by_cases h : (szL xss : Int) ≤ (Z : Int)
  · rw [if_pos h] at hr
    have hr0 : decide (r < 0) = false := by simp; omega
    clear hr h
    go_enter Try.func31, Try.ntmps31
    go_wp2_with fail
    refine k1.mono ?_
    rintro e w' ⟨rfl, rfl⟩
    clear k1
    go_wp2
    go_ret
    exact ⟨rfl, grown_alloc _ _ _⟩
  · rw [if_neg h] at hr
    subst hr
    clear h
    go_enter Try.func31, Try.ntmps31
    go_wp2_with fail
    refine k1.mono ?_
    rintro e w' ⟨rfl, rfl⟩
    clear k1
    go_wp2
    go_ret
    exact ⟨rfl, grown_alloc _ _ _⟩

set_option maxRecDepth 100000 in
theorem markAudio_K (K : Int) (hK0 : 0 ≤ K) (hK1 : K ≤ 1048576) (xss : List (List Int)) (r d : Int) (ao : Option Addr) (lo hi n cap : Nat) (w : World) (hx : MWin w lo hi (.slice ao n cap) n xss) (hs : szL xss ≤ 1048576) :
    Calls Try.prog 34 #[.agg #[.int .i64 r, .int .i64 d, .slice ao n cap], .int .i64 K] w fun e w' => e = .returned (.int .i64 (K + ((xss.map List.length).sum : Nat))) ∧ (MWin w' lo hi (.slice ao n cap) n (mrk K xss) ∧ Stp lo hi w w') := by
  have k1 := markIntSS_any xss (.slice ao n cap) lo hi n K (w.alloc (.cells #[.int .i64 r, .int .i64 d, .slice ao n cap] 25)) (hx.grown (grown_alloc _ _ _)) hs hK0 hK1
  clear hx hs
  go_enter Try.func34, Try.ntmps34
  go_wp2_with fail
  refine k1.mono ?_
  rintro e w2 ⟨rfl, hm, hst⟩
  have R := Lib.hid (And.intro hm ((Stp.of_grown (lo := lo) (hi := hi) (grown_alloc w (.cells #[.int .i64 r, .int .i64 d, .slice ao n cap] 25) none)).trans hst))
  clear k1 hm hst
  go_wp2
  go_ret
  exact ⟨rfl, R.out⟩

end Go.Proofs.Ytncbgofcimghnaa
