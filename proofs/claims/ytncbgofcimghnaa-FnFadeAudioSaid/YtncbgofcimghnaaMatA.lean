/-
  The exact laws' own helpers on lists of lists and on structs with two numbers and such a list: sizes, copies, equality. No condition but sizes.
-/
import Derived.Test.YtncbgofcimghnaaMatM
import Derived.Test.YtncbgofcimghnaaSzI
import Derived.Deep.LoopGhost
namespace Go.Proofs.Ytncbgofcimghnaa
open Go.RowKit

set_option maxHeartbeats 1000000 in
theorem szIntSS_any (xss : List (List Int)) (ao : Option Addr) (len cap : Nat) (r : Int) (w : World) (hm : Mat w ao len xss) (hmax : len ≤ 9223372036854775807) (hr : r = if (szL xss : Int) ≤ 1048576 then 1048576 - (szL xss : Int) else -1) :
    Calls Try.prog 61 #[.slice ao len cap, .int .i64 1048576] w fun e w' => e = .returned (.int .i64 r) ∧ w = w' := by
  have hl := hm.1
  by_cases h0 : 1048576 < len
  · have hr' : r = -1 := by rw [hr, if_neg (by unfold szL; omega)]
    subst hr'
    have hd : decide (1048576 - (len : Int) < 0) = true := by simp; omega
    clear hm hr hl
    go_enter Try.func61, Try.ntmps61
    go_wp2
    go_ret
    exact ⟨rfl, rfl⟩
  have hd : decide (1048576 - (len : Int) < 0) = false := by simp; omega
  have hlen : len ≤ 1048576 := by omega
  have HM := Lib.hid hm
  have HL := Lib.hid hl
  have HR := Lib.hid hr
  clear hm hl hr h0
  go_enter Try.func61, Try.ntmps61
  go_wp2
  go_loop [1, 5] (fun l i => ∃ (k : Nat) (L : Int), k ≤ len ∧ i = .int .i64 k ∧ l = .int .i64 L ∧ 0 ≤ L ∧ L ≤ 1048576 ∧ Hid (L = 1048576 - (len : Int) - (((xss.take k).map List.length).sum : Nat))) (fun _ i => len - (intOf i).toNat)
  case atStart => exact ⟨0, _, Nat.zero_le _, rfl, rfl, by omega, by omega, by show _ = _; simp⟩
  case round =>
    obtain ⟨k, L, hk, rfl, rfl, hL0, hL1, HS⟩ := hrel
    by_cases hlt : k < len
    · obtain ⟨xs, hxk⟩ : ∃ xs, xss[k]? = some xs := ⟨_, List.getElem?_eq_getElem (by rw [HL.out]; exact hlt)⟩
      obtain ⟨b, off, rfl, hc⟩ := HM.out.2.resolve_left (by intro e; subst e; simp at hxk)
      obtain ⟨u, hu, a, c, rfl, hi, hlc, hcm, _⟩ := hc k xs hxk
      have HX := Lib.hid hxk
      obtain ⟨n, hn⟩ : ∃ n, xs.length = n := ⟨_, rfl⟩
      rw [hn] at hu hlc
      have HN := Lib.hid hn
      clear hc hi hxk hn
      by_cases h1 : (n : Int) ≤ L
      · have ks := szIntS_any a n c L (L - (n : Int)) w (by omega) (by omega) (by omega) (by rw [if_pos h1])
        have hd2 : decide (L - (n : Int) < 0) = false := by simp; omega
        go_wp2_with fail
        refine ks.mono ?_
        rintro e w1 ⟨rfl, rfl⟩
        clear ks
        go_wp2
        go_round
        case rel => exact ⟨k + 1, _, by omega, by go_num, rfl, by omega, by omega, by show _ = _; rw [HS.out, szsum_take HX.out, HN.out]; omega⟩
        case measure => simp [intOf]; omega
      · have ks := szIntS_any a n c L (-1) w (by omega) (by omega) (by omega) (by rw [if_neg h1])
        go_wp2_with fail
        refine ks.mono ?_
        rintro e w1 ⟨rfl, rfl⟩
        clear ks
        go_wp2
        go_ret
        refine ⟨ret_int ?_, rfl⟩
        have h2 := szsum_take HX.out
        have h3 := szsum_le xss (k + 1)
        rw [HR.out, if_neg]
        have := HS.out
        have := HN.out
        have := HL.out
        unfold szL
        omega
    · obtain rfl : k = len := by omega
      go_wp2
      go_ret
      refine ⟨ret_int ?_, rfl⟩
      have h1 := HS.out
      rw [List.take_of_length_le (by rw [HL.out]; exact Nat.le_refl _)] at h1
      have := HL.out
      rw [HR.out, if_pos (by unfold szL; omega)]
      unfold szL
      omega

set_option maxHeartbeats 2000000 in
theorem toIntSS_any (xss : List (List Int)) (ao : Option Addr) (len cap : Nat) (w : World) (hx : Mat w ao len xss) (hs : szL xss ≤ 1048576) :
    Calls Try.prog 62 #[.slice ao len cap] w (MadeM xss len w) := by
  obtain ⟨i0, hi, hz0, hz1, hz2⟩ := info_parts info_slice
  have hl := hx.1
  have hlen : len ≤ 1048576 := by unfold szL at hs; omega
  have HX := Lib.hid hx
  have HL := Lib.hid hl
  have HZ := Lib.hid hs
  clear hx hl hs
  go_enter Try.func62, Try.ntmps62
  go_wp2_with (at_make; refine wpList_make_full _ rfl _ _ 23 rfl w.heap.size 39 i0 (.slice none 0 0) 1 Try.underlying23 hi hz0 hz1 .i64 .i64 _ _ len rfl rfl rfl rfl ?b1 ?b2 ?b3 ?_)
  case b1 => rw [hz2]; omega
  case b2 => unfold maxLen; omega
  case b3 => exact Nat.le_refl _
  intro w1 hown hgrow
  have HP : Hid (MPart w w1 w.heap.size len xss 0) := mpart_zero hgrow hown
  clear hown hgrow
  go_wp2
  go_loopw [4] (fun i wr => ∃ k : Nat, k ≤ len ∧ i = .int .i64 k ∧ Hid (MPart w wr w.heap.size len xss k)) (fun i _ => len - (intOf i).toNat)
  case atStart => exact ⟨0, Nat.zero_le _, rfl, HP⟩
  case round =>
    obtain ⟨k, hk, rfl, HW⟩ := hrel
    by_cases hlt : k < len
    · obtain ⟨xs, hxk⟩ : ∃ xs, xss[k]? = some xs := ⟨_, List.getElem?_eq_getElem (by rw [HL.out]; exact hlt)⟩
      obtain ⟨b, off, rfl, hc⟩ := HX.out.2.resolve_left (by intro e; subst e; simp at hxk)
      obtain ⟨u, hu, a, c, rfl, hi2, hlc, hcm, hnil⟩ := hc k xs hxk
      have hcx : wr.cell? ⟨b, off + k, none⟩ = some (.slice a xs.length c) := HW.out.1.cell hu (by simp)
      have HI := Lib.hid (hi2.grown HW.out.1)
      have hrl : xs.length ≤ 1048576 := Nat.le_trans (row_le hxk) HZ.out
      have HK := Lib.hid hxk
      clear hc hxk hu hi2 hnil hcm
      go_wp2_with fail
      refine (toIntS_any xs a xs.length c wr HI.out (by omega)).mono ?_
      rintro e w2 ⟨u2, rfl, ho2, hg2⟩
      obtain ⟨a2, c2, rfl, _⟩ := ho2.reads
      have R0 := mpart_step HW.out hlt HK.out hg2 ho2
      have hown := HW.out.2
      have hfz : w2.frozen? ⟨w.heap.size, k, none⟩ = false := by
        obtain ⟨vs, _, h1, _⟩ := hown
        exact World.ownsRow.frozenAt (World.ownsRow.kept h1 hg2 (Or.inr (by simp [Value.ownBlock]))) k
      have hcell : w2.cell? ⟨w.heap.size, k, none⟩ = some (.slice none 0 0) := by
        obtain ⟨vs, hvl, h1, _⟩ := hown
        rw [World.ownsRow.cellAt (World.ownsRow.kept h1 hg2 (Or.inr (by simp [Value.ownBlock]))) k (by omega), List.getElem?_append_right (by omega), List.getElem?_replicate]
        simp; omega
      have R := Lib.hid R0
      clear R0 hown ho2 hg2
      go_wp2
      go_roundw
      case rel => exact ⟨k + 1, by omega, by go_num, R⟩
      case measure => simp [intOf]; omega
    · obtain rfl : k = len := by omega
      have R := Lib.hid (mpart_full HW.out HL.out)
      go_wp2
      go_ret
      exact ⟨_, rfl, R.out.1, R.out.2⟩

set_option maxHeartbeats 400000 in
theorem eqIntS_q (xs : List Int) (ao bo : Option Addr) (len cap cap' : Nat) (w : World) (hx : Ints w ao len xs) (hy : Ints w bo len xs) (hlen : len ≤ 4611686018427387904) :
    Calls Try.prog 77 #[.slice ao len cap, .slice bo len cap'] w fun e w' => e = .returned (.bool true) ∧ ∃ m, w' = w.drewN m := by
  obtain ⟨hl, hx⟩ := hx
  obtain ⟨_, hy⟩ := hy
  by_cases h0 : len = 0
  · subst h0
    clear hl hx hy
    go_enter Try.func77, Try.ntmps77
    go_wp2
    refine wp_loop_rounds 1 ?_
    rw [rounds_succ]
    go_wp2
    go_ret
    exact ⟨rfl, 0, rfl⟩
  obtain ⟨b, off, rfl, hc⟩ := hx.resolve_left (by intro e; subst e; simp at hl; omega)
  obtain ⟨b', off', rfl, hc'⟩ := hy.resolve_left (by intro e; subst e; simp at hl; omega)
  have HL := Lib.hid hl
  have HC := Lib.hid hc
  have HC' := Lib.hid hc'
  clear hx hy hl hc hc' h0
  go_enter Try.func77, Try.ntmps77
  go_wp2
  go_loopw [5] (fun i wr => ∃ k n : Nat, k ≤ len ∧ i = .int .i64 k ∧ wr = w.drewN n) (fun i _ => len - (intOf i).toNat)
  case atStart => exact ⟨0, 0, Nat.zero_le _, rfl, rfl⟩
  case round =>
    obtain ⟨k, n, hk, rfl, rfl⟩ := hrel
    by_cases hlt : k < len
    · obtain ⟨x, hxk⟩ : ∃ x, xs[k]? = some x := ⟨_, List.getElem?_eq_getElem (by rw [HL.out]; exact hlt)⟩
      have hcx := HC.out k x hxk
      have hcy := HC'.out k x hxk
      clear hxk
      go_wp2
      go_quiet (fail)
      go_wp2
      go_roundw
      case rel => exact ⟨k + 1, n + nq, by omega, by go_num, rfl⟩
      case measure => simp [intOf]; omega
    · go_wp2
      go_ret
      exact ⟨rfl, n, rfl⟩

set_option maxHeartbeats 1000000 in
theorem eqIntSS_same (xss : List (List Int)) (ao bo : Option Addr) (len cap cap' : Nat) (w : World) (hx : Mat w ao len xss) (hy : Mat w bo len xss) (hs : szL xss ≤ 1048576) :
    Calls Try.prog 63 #[.slice ao len cap, .slice bo len cap'] w fun e w' => e = .returned (.bool true) ∧ ∃ m, w' = w.drewN m := by
  have hl := hx.1
  have hlen : len ≤ 1048576 := by unfold szL at hs; omega
  have HX := Lib.hid hx
  have HY := Lib.hid hy
  have HL := Lib.hid hl
  have HZ := Lib.hid hs
  clear hx hy hl hs
  go_enter Try.func63, Try.ntmps63
  go_wp2
  go_loopw [5] (fun i wr => ∃ k : Nat, k ≤ len ∧ i = .int .i64 k ∧ Hid (∃ n, wr = w.drewN n)) (fun i _ => len - (intOf i).toNat)
  case atStart => exact ⟨0, Nat.zero_le _, rfl, 0, rfl⟩
  case round =>
    obtain ⟨k, hk, rfl, HD⟩ := hrel
    have hgd : w.grownBy wr none := by obtain ⟨n, e⟩ := HD.out; rw [e]; exact grown_drewN _ _ _
    by_cases hlt : k < len
    · obtain ⟨xs, hxk⟩ : ∃ xs, xss[k]? = some xs := ⟨_, List.getElem?_eq_getElem (by rw [HL.out]; exact hlt)⟩
      obtain ⟨b, off, rfl, hc⟩ := HX.out.2.resolve_left (by intro e; subst e; simp at hxk)
      obtain ⟨b', off', rfl, hc'⟩ := HY.out.2.resolve_left (by intro e; subst e; simp at hxk)
      obtain ⟨u, hu, a, c, rfl, hi, hlc, hcm, _⟩ := hc k xs hxk
      obtain ⟨u', hu', a', c', rfl, hi', hlc', hcm', _⟩ := hc' k xs hxk
      have hrl : xs.length ≤ 1048576 := Nat.le_trans (row_le hxk) HZ.out
      obtain ⟨n, hn⟩ : ∃ n, xs.length = n := ⟨_, rfl⟩
      rw [hn] at hu hu' hi hi' hrl
      have hu1 := hgd.cell hu (by simp)
      have hu1' := hgd.cell hu' (by simp)
      have ke := fun j => eqIntS_q xs a a' n c c' (wr.drewN j) (hi.grown (grown_trans hgd (grown_drewN _ _ _))) (hi'.grown (grown_trans hgd (grown_drewN _ _ _))) (by omega)
      clear hc hc' hxk hn hi hi' hlc hlc' hcm hcm' hgd hu hu'
      go_wp2_with fail
      go_quiet ((go_at_call 77; exact Calls.quiet_of (ke _)))
      clear ke
      have HD2 : Hid (∃ n, wr.drewN nq = w.drewN n) := by obtain ⟨m, e⟩ := HD.out; exact ⟨m + nq, by rw [e, World.drewN_drewN]⟩
      go_wp2
      go_roundw
      case rel => exact ⟨k + 1, by omega, by go_num, HD2⟩
      case measure => simp [intOf]; omega
    · obtain rfl : k = len := by omega
      go_wp2
      go_ret
      exact ⟨rfl, HD.out⟩

/-- The cells of a copy of a struct, where its two numbers have been laid. -/
theorem to3 (w : World) (A : Obj) (t t2 : TypeId) (p q : Int) :
    (((w.alloc A).alloc (.cells #[.int .i64 0, .int .i64 0, .slice none 0 0] t)).alloc (.cells #[.int .i64 p, .int .i64 q, .slice none 0 0] t2)).heap[w.heap.size + 1]? = some (.cells #[.int .i64 0, .int .i64 0, .slice none 0 0] t (0, 0)) ∧
    (((w.alloc A).alloc (.cells #[.int .i64 0, .int .i64 0, .slice none 0 0] t)).alloc (.cells #[.int .i64 p, .int .i64 q, .slice none 0 0] t2)).heap[w.heap.size + 2]? = some (.cells #[.int .i64 p, .int .i64 q, .slice none 0 0] t2 (0, 0)) ∧
    w.grownBy (((w.alloc A).alloc (.cells #[.int .i64 0, .int .i64 0, .slice none 0 0] t)).alloc (.cells #[.int .i64 p, .int .i64 q, .slice none 0 0] t2)) none ∧ (((w.alloc A).alloc (.cells #[.int .i64 0, .int .i64 0, .slice none 0 0] t)).alloc (.cells #[.int .i64 p, .int .i64 q, .slice none 0 0] t2)).heap.size = w.heap.size + 3 := by
  refine ⟨grown_heap (grown_alloc _ _ none) (heap_alloc2_new w A _) (by simp), ?_, grown_trans (grown_trans (grown_alloc _ _ _) (grown_alloc _ _ _)) (grown_alloc _ _ _), by simp⟩
  have := heap_alloc_new ((w.alloc A).alloc (.cells #[.int .i64 0, .int .i64 0, .slice none 0 0] t)) (.cells #[.int .i64 p, .int .i64 q, .slice none 0 0] t2)
  rwa [show ((w.alloc A).alloc (.cells #[.int .i64 0, .int .i64 0, .slice none 0 0] t)).heap.size = w.heap.size + 2 by simp] at this

end Go.Proofs.Ytncbgofcimghnaa
