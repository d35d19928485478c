/-
  slices.Concat over rows that can be read, with slices.Grow from nothing; the program's rope. For at most 8000000 numbers.
-/
import Derived.Test.YtncbgofcimghnaaMatM
import Derived.Lib.AppendZerosOnto
import Derived.Deep.LoopGhost
namespace Go.Proofs.Ytncbgofcimghnaa
open Go.RowKit

set_option maxHeartbeats 1000000 in
theorem iGrow_any (n : Nat) (w : World) (hn : n ≤ 8388608) :
    Calls Try.prog 82 #[.slice none 0 0, .int .i64 n] w fun e w' => ∃ v, e = .returned v ∧ Owns w' w.heap.size v 0 [] ∧ w.grownBy w' none := by
  obtain ⟨i0, hi, hz0, hz1, hz2⟩ := info_parts info_int
  have h1 : decide ((n : Int) < 0) = false := by simp
  by_cases h0 : n = 0
  · subst h0
    go_enter Try.func82, Try.ntmps82
    go_wp2
    go_ret
    exact ⟨_, rfl, World.ownsRow_nil w _ _ _, grown_refl _ _⟩
  · have h4 : decide ((n : Int) > 0) = true := by simp; omega
    have hrz := fun ty => Lib.run_append_nil_zeros (P := Try.prog) w 39 3 ty 3 i0 (.int .i64 0) .i64 .i64 Try.underlying39 Try.underlying3 hi hz0 n (by omega) (by omega) (by omega) (by rw [hz2]; omega)
    have hG1 := grownCap_ge w n 0 3
    have hG2 := grownCap_le_maxLen w n 0 3 (by unfold maxLen; omega)
    generalize hG : grownCap w n 0 3 = G at *
    have hG3 : G ≤ 9223372036854775807 := by unfold maxLen at hG2; omega
    have hO : Hid (Owns (w.drew.alloc (.cells (Builtin.zeroCells (Value.int .i64 0).cells n ++ Builtin.zeroCells (Value.int .i64 0).cells (G - n)) 3)) w.heap.size (.slice (some ⟨w.heap.size, 0, none⟩) 0 G) 0 []) :=
      World.ownsRow_made w.drew _ G (Nat.le_refl _) hG2 (by simp [Builtin.zeroCells, show (Value.int .i64 0).cells.size = 1 from rfl]; omega)
    have hgr : w.grownBy (w.drew.alloc (.cells (Builtin.zeroCells (Value.int .i64 0).cells n ++ Builtin.zeroCells (Value.int .i64 0).cells (G - n)) 3)) none := grown_trans (grown_drew _ _) (grown_alloc _ _ _)
    have HGR := Lib.hid hgr
    clear hG hG2 hgr hi hz0 hz1 hz2
    go_enter Try.func82, Try.ntmps82
    go_wp2_with (at_builtin; refine Lib.wpList_append_run _ rfl _ _ _ _ rfl _ _ rfl rfl _ _ (hrz _) ?_)
    all_goals
      go_ret
      exact ⟨_, rfl, hO.out, HGR.out⟩

theorem flat_take {pss : List (List Int)} {k : Nat} {xs : List Int} (h : pss[k]? = some xs) : (pss.take (k + 1)).flatten = (pss.take k).flatten ++ xs := by rw [List.take_add_one, h]; simp
theorem flat_len (pss : List (List Int)) : pss.flatten.length = (pss.map List.length).sum := by simp [List.length_flatten]

set_option maxHeartbeats 1000000 in
theorem iCat_any (pss : List (List Int)) (ao : Option Addr) (len cap n : Nat) (w : World) (hx : Mat w ao len pss) (hlen : len ≤ 1000) (hn : (pss.map List.length).sum = n) (hm : n ≤ 8000000) :
    Calls Try.prog 80 #[.slice ao len cap] w (Made pss.flatten n w) := by
  have HX := Lib.hid hx
  have HL := Lib.hid hx.1
  have HN := Lib.hid hn
  clear hx hn
  have hg := iGrow_any n w (by omega)
  go_enter Try.func80, Try.ntmps80
  go_wp2_with fail
  go_loop [3, 11] (fun sv iv => ∃ (k s : Nat), k ≤ len ∧ iv = .int .i64 k ∧ sv = .int .i64 s ∧ s ≤ 8000000 ∧ Hid (s = ((pss.take k).map List.length).sum)) (fun _ iv => len - (intOf iv).toNat)
  case atStart => exact ⟨0, 0, Nat.zero_le _, rfl, rfl, by omega, by show _ = _; simp⟩
  case round =>
    obtain ⟨k, s, hk, rfl, rfl, hs, HS⟩ := hrel
    by_cases hlt : k < len
    · obtain ⟨xs, hxk⟩ : ∃ xs, pss[k]? = some xs := ⟨_, List.getElem?_eq_getElem (by rw [HL.out]; exact hlt)⟩
      obtain ⟨b, off, rfl, hc⟩ := HX.out.2.resolve_left (by intro e; subst e; simp at hxk)
      obtain ⟨u, hu, a, c, rfl, _, hlc, hcm, _⟩ := hc k xs hxk
      have h1 := szsum_take hxk
      have h2 := szsum_le pss (k + 1)
      have h3 : s + xs.length ≤ 8000000 := by rw [h1, ← HS.out, HN.out] at h2; omega
      have HS2 : Hid (s + xs.length = ((pss.take (k + 1)).map List.length).sum) := by show _ = _; rw [h1, ← HS.out]
      generalize xs.length = nx at *
      have hd : decide ((s : Int) + (nx : Int) < 0) = false := by simp; omega
      clear hc hxk h1 h2 HS
      go_wp2_with fail
      go_round
      case rel => exact ⟨k + 1, s + nx, by omega, by go_num, by go_num, h3, HS2⟩
      case measure => simp [intOf]; omega
    · obtain rfl : k = len := by omega
      have he : s = n := by rw [HS.out, List.take_of_length_le (by rw [HL.out]; exact Nat.le_refl _), HN.out]
      subst he
      go_wp2_with fail
      refine hg.mono ?_
      rintro e w1 ⟨v, rfl, ho, hg1⟩
      have HW0 : Hid (Owns w1 w.heap.size v 0 (pss.take 0).flatten ∧ w.grownBy w1 none) := ⟨by simpa using ho, hg1⟩
      clear hg ho hg1 HS
      go_wp2_with fail
      go_loopw [6, 27] (fun vv iv wr => ∃ (j m : Nat) (z : Value), z = vv ∧ iv = .int .i64 j ∧ j ≤ k ∧ m ≤ s ∧ Hid (Owns wr w.heap.size z m (pss.take j).flatten ∧ w.grownBy wr none)) (fun _ iv _ => k - (intOf iv).toNat)
      case atStart => exact ⟨0, 0, v, rfl, rfl, Nat.zero_le _, Nat.zero_le _, HW0⟩
      case round =>
        clear HW0
        obtain ⟨j, m, z, rfl, rfl, hj, hms, HW⟩ := hrel
        by_cases hlt2 : j < k
        · obtain ⟨xs, hxk⟩ : ∃ xs, pss[j]? = some xs := ⟨_, List.getElem?_eq_getElem (by rw [HL.out]; exact hlt2)⟩
          obtain ⟨b, off, rfl, hc⟩ := HX.out.2.resolve_left (by intro e; subst e; simp at hxk)
          obtain ⟨u, hu, a, c, rfl, hi, hlc, hcm, hnil⟩ := hc j xs hxk
          have q := HW.out.2.cell hu (by simp)
          have HI := Lib.hid (hi.grown HW.out.2)
          have HF := Lib.hid (flat_take hxk)
          have h1 := szsum_take hxk
          have h2 := szsum_le pss (j + 1)
          have hml : m = ((pss.take j).map List.length).sum := by rw [← flat_len]; exact HW.out.1.len_eq.symm
          have h3 : m + xs.length ≤ s := by rw [h1, ← hml, HN.out] at h2; exact h2
          generalize hnx : xs.length = nx at *
          clear hc hxk h1 h2 hml hi hu hnx
          have HNIL := Lib.hid hnil
          clear hnil
          have hb9 : m + nx ≤ 8388608 := by omega
          go_wp2_with (at_builtin; refine append_ints rfl _ _ rfl w.heap.size z m _ rfl HW.out.1 a nx c xs rfl HI.out HNIL.out hb9 HW.out.2.size ?_)
          intro v' w2 ho hgr
          have HW2 : Hid (Owns w2 w.heap.size v' (m + nx) (pss.take (j + 1)).flatten ∧ w.grownBy w2 none) := ⟨by rw [HF.out]; exact ho, grown_row HW.out.2 hgr (HW.out.1.block)⟩
          clear ho hgr
          go_wp2
          go_roundw
          case rel => exact ⟨j + 1, m + nx, v', rfl, by go_num, by omega, h3, HW2⟩
          case measure => simp [intOf]; omega
        · obtain rfl : j = k := by omega
          have HF : Hid (Owns wr w.heap.size z s pss.flatten ∧ w.grownBy wr none) := by
            have h := HW.out.1
            rw [List.take_of_length_le (by rw [HL.out]; exact Nat.le_refl _)] at h
            have hl := h.len_eq
            rw [flat_len, HN.out] at hl
            subst hl
            exact ⟨h, HW.out.2⟩
          go_wp2
          go_ret
          exact ⟨z, rfl, HF.out.1, HF.out.2⟩

theorem iRope_any (pss : List (List Int)) (ao : Option Addr) (len cap n : Nat) (w : World) (hx : Mat w ao len pss) (hlen : len ≤ 1000) (hn : (pss.map List.length).sum = n) (hm : n ≤ 8000000) :
    Calls Try.prog 67 #[.slice ao len cap] w (Made pss.flatten n w) := by
  have k := iCat_any pss ao len cap n w hx hlen hn hm
  clear hx
  go_enter Try.func67, Try.ntmps67
  go_wp2_with fail
  refine k.mono ?_
  rintro e w1 ⟨v, rfl, ho, hg⟩
  have HO := Lib.hid ho
  have HG := Lib.hid hg
  clear k ho hg
  go_wp2
  go_ret
  exact ⟨v, rfl, HO.out, HG.out⟩

end Go.Proofs.Ytncbgofcimghnaa
