/-
  The draw of starts of tracks and a number of samples. For every code.
-/
import Derived.Test.YtnbefigmhbpcaaaDraw
namespace Go.Proofs.Ytnbefigmhbpcaaa
open Go.RowKit

set_option maxRecDepth 100000 in
set_option maxHeartbeats 4000000 in
theorem anyCue_any (total : Int) (r P : Nat) (w : World) (hR : Rdr w r P) (hP : P < 800000) :
    Calls Try.prog 22 #[.pointer (some ⟨r, 0, none⟩), .int .i64 total] w (DrewR 12 r (P + 20) w) := by
  have hrl := hR.lt
  have HO0 : Hid (Owns (w.alloc (.cells #[.int .i64 0] 3)) w.heap.size (.slice (some ⟨w.heap.size, 0, none⟩) 1 1) 1 [0]) :=
    ⟨rfl, Or.inr ⟨w.heap.size, 1, #[.int .i64 0], rfl, Nat.le_refl _, heap_alloc_new w _, Nat.le_refl _, by decide, rfl, rfl⟩⟩
  have hR0 := hR.alloc (.cells #[.int .i64 0] 3)
  have HG0 := Lib.hid (grown_alloc w (.cells #[.int .i64 0] 3) (some r))
  go_enter Try.func22, Try.ntmps22
  go_wp2_with fail
  refine (one_at [1, 2, 0, 3, 9] _ r P _ _ _ (by simp) hR0 (by omega) (by decide) (by decide)).mono ?_
  rintro e w1 ⟨N, hN, rfl, hR1, hg1⟩
  obtain ⟨N, rfl, hN9⟩ : ∃ m : Nat, N = (m : Int) ∧ m ≤ 9 := by simp at hN; exact ⟨N.toNat, by omega, by omega⟩
  have HS : Hid (Rdr w1 r (P + 1 + 0) ∧ w.grownBy w1 (some r) ∧ Owns w1 w.heap.size (.slice (some ⟨w.heap.size, 0, none⟩) 1 1) 1 [0]) := ⟨hR1, grown_trans HG0.out hg1, HO0.out.read hg1 hrl⟩
  clear hR hR0 HO0 HG0 hR1 hg1 hN
  go_wp2
  go_loopw [5, 6, 7] (fun vv av nv wr => ∃ (v : Value) (k n : Nat) (at_ : Int) (xs : List Int), v = vv ∧ av = .int .i64 at_ ∧ nv = .int .i64 (n : Int) ∧ n ≤ N ∧ k ≤ 1 + (N - n) ∧ 0 ≤ at_ ∧ at_ ≤ 7 * ((N - n : Nat) : Int) ∧ Hid (Rdr wr r (P + 1 + (N - n)) ∧ w.grownBy wr (some r) ∧ Owns wr w.heap.size v k xs)) (fun _ _ nv _ => (intOf nv).toNat)
  case atStart => exact ⟨_, 1, N, 0, [0], rfl, rfl, rfl, Nat.le_refl _, by omega, by omega, by omega, by rw [Nat.sub_self]; exact HS.out⟩
  case round =>
    clear HS
    obtain ⟨v, k, n, at_, xs, rfl, rfl, rfl, hn, hk, ha0, ha1, HR⟩ := hrel
    by_cases hlt : 0 < n
    · obtain ⟨m, rfl⟩ : ∃ m, n = m + 1 := ⟨n - 1, by omega⟩
      have hsub : N - m = N - (m + 1) + 1 := by omega
      have hm1 : ((m + 1 : Nat) : Int) - 1 = (m : Int) := by omega
      go_wp2_with fail
      refine (pick_any 6 r (P + 1 + (N - (m + 1))) _ HR.out.1 (by omega) (by omega)).mono ?_
      rintro e w4 ⟨x, rfl, hx0, hx1, _, hR4, hg4⟩
      have hx2 : x < 6 := hx1 (by omega)
      have HS : Hid (Rdr w4 r (P + 1 + (N - m)) ∧ w.grownBy w4 (some r) ∧ Owns w4 w.heap.size v k xs) := ⟨by rw [hsub]; exact hR4, grown_trans HR.out.2.1 hg4, HR.out.2.2.read hg4 hrl⟩
      clear hx1 hR4 hg4 HR
      have hbd : at_ + 1 + x ≤ 7 * ((N - m : Nat) : Int) := by omega
      by_cases ht : at_ + 1 + x < total
      · have l1 : decide (at_ + 1 + x < total) = true := by simpa using ht
        go_wp2_with (at_builtin; refine append_ints rfl _ _ rfl w.heap.size v k xs rfl (HS.out.2.2.grown (grown_alloc _ _ _)) (some ⟨w4.heap.size, 0, none⟩) 1 1 [at_ + 1 + x] rfl (ints_one _ _ _) (fun e => nomatch e) ?_ ?_ ?_)
        · omega
        · have := HS.out.2.1.size; simp; omega
        intro v' w5 hown hgrow
        have HT : Hid (Rdr w5 r (P + 1 + (N - m)) ∧ w.grownBy w5 (some r) ∧ Owns w5 w.heap.size v' (k + 1) (xs ++ [at_ + 1 + x])) :=
          ⟨Rdr.own (HS.out.1.alloc _) (HS.out.2.2.grown (grown_alloc _ _ _)) hgrow hrl, grown_row (grown_trans HS.out.2.1 (grown_alloc _ _ _)) hgrow (HS.out.2.2.block), hown⟩
        clear hown hgrow HS
        go_wp2
        go_roundw
        case rel => exact ⟨v', k + 1, m, at_ + 1 + x, _, rfl, rfl, by go_num, by omega, by omega, by omega, hbd, HT⟩
        case measure => simp [intOf]; try omega
      · have l1 : decide (at_ + 1 + x < total) = false := by simp; omega
        go_wp2
        go_roundw
        case rel => exact ⟨v, k, m, at_ + 1 + x, _, rfl, rfl, by go_num, by omega, by omega, by omega, hbd, HS⟩
        case measure => simp [intOf]; try omega
    · obtain rfl : n = 0 := by omega
      obtain ⟨a, c, rfl, hlc, hnn, hx, _⟩ := HR.out.2.2.reads
      have hsp := spoil_any xs total a k c r (P + 1 + (N - 0)) wr hx hnn (by omega) HR.out.1 (by omega)
      have HG := Lib.hid HR.out.2.1
      clear hx hnn HR
      go_wp2_with fail
      refine hsp.mono ?_
      rintro e w5 ⟨a5, n5, c5, ys, rfl, hn5, hlc5, hnn5, hx5, hb5, hR5, hg5⟩
      have HF : Hid (DrewR 12 r (P + 20) w (.returned (.slice a5 n5 c5)) w5) := ⟨a5, n5, c5, ys, rfl, by omega, hlc5, hnn5, hx5, fun x hx => ⟨by have := (hb5 x hx).1; have := HG.out.size; omega, (hb5 x hx).2⟩, hR5.mono (by omega), grown_trans HG.out hg5⟩
      clear hx5 hb5 hR5 hg5 hnn5 hsp
      go_wp2
      go_ret
      exact HF.out

set_option maxRecDepth 100000 in
set_option maxHeartbeats 2000000 in
theorem drawCue_any (ao : Option Addr) (len cap : Nat) (w : World) (hb : BytesAt w ao len) (hlc : len ≤ cap) (hmax : len ≤ 9223372036854775807) :
    Calls Try.prog 9 #[.slice ao len cap] w fun e w' => ∃ (a : Option Addr) (n c : Nat) (xs : List Int) (t : Int), e = .returned (.tuple #[.slice a n c, .int .i64 t]) ∧ n ≤ 12 ∧ n ≤ c ∧ Ints w' a n xs ∧ 0 ≤ t ∧ t ≤ 257 ∧ w.grownBy w' none := by
  have hnew := newReader_any ao len cap w hb hlc hmax
  clear hb hlc hmax
  go_enter Try.func9, Try.ntmps9
  go_wp2_with fail
  refine hnew.mono ?_
  rintro e w1 ⟨rfl, hR1, hg1⟩
  have HG1 := Lib.hid hg1
  clear hnew hg1
  go_wp2_with fail
  refine (one_at [10, 20, 40, 1, 256, 257, 0] _ w.heap.size 0 _ _ w1 rfl hR1 (by omega) (by decide) (by decide)).mono ?_
  rintro e w2 ⟨t, ht, rfl, hR2, hg2⟩
  have htb : 0 ≤ t ∧ t ≤ 257 := by simp at ht; omega
  have HG2 := Lib.hid (grown_row HG1.out hg2 (fun g e => by injection e with e; omega))
  have hs1 := HG1.out.size
  clear hR1 hg2 ht HG1
  go_wp2_with fail
  refine (anyCue_any t w.heap.size (0 + 1) w2 hR2 (by omega)).mono ?_
  rintro e w3 ⟨a3, n3, c3, ys, rfl, hn3, hlc3, hnn3, hx3, hb3, hR3, hg3⟩
  have HF : Hid (Ints w3 a3 n3 ys ∧ w.grownBy w3 none) := ⟨hx3, grown_row HG2.out hg3 (fun g e => by injection e with e; omega)⟩
  clear hx3 hb3 hR3 hg3 hnn3 hR2 HG2
  go_wp2
  go_ret2
  exact ⟨a3, n3, c3, ys, t, rfl, hn3, hlc3, HF.out.1, htb.1, htb.2, HF.out.2⟩

end Go.Proofs.Ytnbefigmhbpcaaa
