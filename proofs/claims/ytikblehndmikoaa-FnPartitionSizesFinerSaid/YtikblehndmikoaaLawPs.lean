/-
  The walks of the laws on sizes of partitions: each returns true and writes nothing that was there. For every code.
-/
import Derived.Test.YtikblehndmikoaaPs2
import Derived.Test.YtikblehndmikoaaDraw
import Derived.Test.YtikblehndmikoaaSum
import Derived.Deep.QuietTactic
import Derived.BigQuiet
import Derived.OwnWalk
namespace Go.Proofs.Ytikblehndmikoaa
open Go.RowKit

/-- Three drawn numbers. -/
def DrewIII (w : World) (e : Ending) (w' : World) : Prop := ∃ c o p : Int, e = .returned (.tuple #[.int .i64 c, .int .i64 o, .int .i64 p]) ∧ (-10 ≤ p ∧ p ≤ 10) ∧ w.grownBy w' none

set_option maxHeartbeats 400000 in
theorem anyOrder_any (r P : Nat) (w : World) (hR : Rdr w r P) (hP : P < 900000) :
    Calls Try.prog 27 #[.pointer (some ⟨r, 0, none⟩)] w fun e w' => ∃ m : Int, e = .returned (.int .i64 m) ∧ (-10 ≤ m ∧ m ≤ 10) ∧ Rdr w' r (P + 1) ∧ w.grownBy w' (some r) := by
  go_enter Try.func27, Try.ntmps27
  go_wp2_with fail
  refine (one_at [0, 1, 2, 4, 8, 3, 9, -1] _ r P _ _ w rfl hR (by omega) (by decide) (by decide)).mono ?_
  rintro e w1 ⟨x, hx, rfl, hR1, hg1⟩
  have hm : -10 ≤ x ∧ x ≤ 10 := by simp at hx; omega
  have HF : Hid (Rdr w1 r (P + 1) ∧ w.grownBy w1 (some r)) := ⟨hR1, hg1⟩
  clear hx hR1 hg1 hR
  go_wp2
  go_ret
  exact ⟨x, rfl, hm, HF.out⟩

set_option maxHeartbeats 400000 in
theorem anyParts_any (r P : Nat) (w : World) (hR : Rdr w r P) (hP : P < 900000) :
    Calls Try.prog 28 #[.pointer (some ⟨r, 0, none⟩)] w fun e w' => ∃ m : Int, e = .returned (.int .i64 m) ∧ (-10 ≤ m ∧ m ≤ 10) ∧ Rdr w' r (P + 1) ∧ w.grownBy w' (some r) := by
  go_enter Try.func28, Try.ntmps28
  go_wp2_with fail
  refine (one_at [0, 1, 2, 3, 0, 4, -1] _ r P _ _ w rfl hR (by omega) (by decide) (by decide)).mono ?_
  rintro e w1 ⟨x, hx, rfl, hR1, hg1⟩
  have hm : -10 ≤ x ∧ x ≤ 10 := by simp at hx; omega
  have HF : Hid (Rdr w1 r (P + 1) ∧ w.grownBy w1 (some r)) := ⟨hR1, hg1⟩
  clear hx hR1 hg1 hR
  go_wp2
  go_ret
  exact ⟨x, rfl, hm, HF.out⟩

set_option maxRecDepth 100000 in
set_option maxHeartbeats 1000000 in
theorem drawPS_any (ao : Option Addr) (len cap : Nat) (w : World) (hb : BytesAt w ao len) (hlc : len ≤ cap) (hmax : len ≤ 9223372036854775807) :
    Calls Try.prog 10 #[.slice ao len cap] w (DrewIII w) := by
  have hnew := newReader_any ao len cap w hb hlc hmax
  clear hb hlc hmax
  obtain ⟨r, hr⟩ : ∃ r, w.heap.size = r := ⟨_, rfl⟩
  go_enter Try.func10, Try.ntmps10
  go_wp2_with fail
  refine hnew.mono ?_
  rintro e w0 ⟨rfl, hR, hg0⟩
  rw [hr] at hR ⊢
  have HG0 := Lib.hid hg0
  have HRR := Lib.hid hr
  have hrl : r < w0.heap.size := hR.lt
  clear hnew hg0 hr
  go_wp2_with fail
  refine (one_at [8, 16, 6, 14, 7, 0, 64, 65, -1, 60] _ r 0 _ _ w0 rfl hR (by omega) (by decide) (by decide)).mono ?_
  rintro e w1 ⟨c, _, rfl, hR1, hg1⟩
  have HG1 := Lib.hid hg1
  clear hR hg1
  go_wp2_with fail
  refine (anyOrder_any r (0 + 1) _ hR1 (by omega)).mono ?_
  rintro e w2 ⟨od, rfl, _, hR2, hg2⟩
  have HG2 := Lib.hid (grown_trans HG1.out hg2)
  clear hR1 hg2
  go_wp2_with fail
  refine (anyParts_any r (0 + 1 + 1) _ hR2 (by omega)).mono ?_
  rintro e w3 ⟨p, rfl, hp, hR3, hg3⟩
  have HF : Hid (w.grownBy w3 none) := grown_new HG0.out (grown_trans HG2.out hg3) (by rw [HRR.out]; exact Nat.le_refl _)
  clear hR2 hg3 hR3
  go_wp2
  go_ret3
  exact ⟨c, od, p, rfl, hp, HF.out⟩

theorem psK_sum {K : Nat} (hK : 0 < K) (c o : Int) : (psK K c o).sum = (K : Int) * ((c + o) / (K : Int)) - o := by
  obtain ⟨j, rfl⟩ : ∃ j, K = j + 1 := ⟨K - 1, by omega⟩
  unfold psK
  rw [List.sum_cons, show j + 1 - 1 = j by omega]
  have : ∀ (n : Nat) (x : Int), (List.replicate n x).sum = (n : Int) * x := by
    intro n x
    induction n with
    | zero => simp
    | succ n ih => rw [List.replicate_succ, List.sum_cons, ih, Int.natCast_succ, Int.add_mul]; omega
  rw [this, Int.natCast_succ, Int.add_mul]; omega
theorem psK_range {K : Nat} {c o : Int} (hK : 0 < K) (h : psOkK K c o = true) : allB (psK K c o) (-100000) 100000 = true ∧ 0 ≤ (c + o) / (K : Int) ∧ (c + o) / (K : Int) ≤ 64 ∧ (psK K c o).sum = c := by
  obtain ⟨a1, a2, a3, a4, a5, a6⟩ := psOkK_of h
  have b0 : 0 ≤ (c + o) / (K : Int) := by omega
  have b1 : (c + o) / (K : Int) ≤ 64 := Int.le_trans (Int.ediv_le_self _ (by omega)) (by omega)
  refine ⟨?_, b0, b1, ?_⟩
  · unfold allB
    rw [List.all_eq_true]
    intro x hx
    unfold psK at hx
    rcases List.mem_cons.1 hx with rfl | hx
    · simp [inB]; omega
    · have := List.eq_of_mem_replicate hx; subst this; simp [inB]; omega
  · rw [psK_sum hK]
    have := Int.mul_ediv_add_emod (c + o) (K : Int)
    omega
theorem psL_of {c o p : Int} (h : psN c o p ≠ 0) : psOk c o p = true := by
  cases e : psOk c o p with
  | true => rfl
  | false => exfalso; apply h; unfold psN; rw [e]; rfl
theorem psL_true {c o p : Int} (h : psOk c o p = true) : psL c o p = psK (2 ^ p.toNat) c o ∧ psN c o p = 2 ^ p.toNat := by
  unfold psL psN; rw [h]; exact ⟨rfl, rfl⟩
theorem sum_psL (c o p : Int) (ao : Option Addr) (cap : Nat) (w : World) (hx : Ints w ao (psN c o p) (psL c o p)) (h : psOk c o p = true) :
    Calls Try.prog 14 #[.slice ao (psN c o p) cap] w fun e w' => e = .returned (.int .i64 c) ∧ w = w' := by
  have hn := psN_le c o p
  obtain ⟨e1, e2⟩ := psL_true h
  obtain ⟨b1, _, _, b4⟩ := psK_range (K := 2 ^ p.toNat) (Nat.pow_pos (by omega)) (psOk_of h).2.2
  exact sum_any _ ao _ cap c w hx (by omega) (by rw [e1]; exact b1) (by rw [e1]; exact b4)

set_option maxRecDepth 100000 in
set_option maxHeartbeats 4000000 in
theorem FnPartitionSizes_walk (ao : Option Addr) (len cap : Nat) (w : World) (hb : BytesAt w ao len) (hlc : len ≤ cap) (hmax : len ≤ 9223372036854775807) :
    Calls Try.prog 3 #[.slice ao len cap] w (Holds w) := by
  by_cases hlen : 1048576 < len
  · clear hb
    go_enter Try.func3, Try.ntmps3
    go_wp2
    go_ret
    exact ⟨rfl, grown_refl _ _⟩
  have hd := drawPS_any ao len cap w hb hlc hmax
  have hm : decide (1048576 < (len : Int)) = false := by simp; omega
  clear hb hlc hmax hlen
  go_enter Try.func3, Try.ntmps3
  go_wp2_with fail
  refine hd.mono ?_
  rintro e w1 ⟨c, od, p, rfl, hp, hg1⟩
  have HG1 := Lib.hid hg1
  have hp0 := hp.1
  have hp1 := hp.2
  clear hd hg1 hp
  obtain ⟨X, hX⟩ : ∃ X, psL c od p = X := ⟨_, rfl⟩
  obtain ⟨n, hn⟩ : ∃ n, psN c od p = n := ⟨_, rfl⟩
  have hn8 : n ≤ 8 := by rw [← hn]; exact psN_le _ _ _
  have HX := Lib.hid (And.intro hX hn)
  have KI := Lib.hid (fun W => iPS_any c od p W)
  have KS := Lib.hid (fun W => sPS_any c od p W)
  rw [hX, hn] at KI KS
  clear hX hn
  go_wp2_with fail
  refine (KI.out _).mono ?_
  rintro e w2 ⟨v2, rfl, ho2, hg2⟩
  obtain ⟨a2, c2, rfl, _, _, hx2, _⟩ := ho2.reads
  have HA := Lib.hid hx2
  have HG2 := Lib.hid (grown_trans HG1.out hg2)
  clear ho2 hx2 hg2 HG1
  go_wp2_with fail
  refine (KS.out _).mono ?_
  rintro e w3 ⟨v3, rfl, ho3, hg3⟩
  obtain ⟨a3, c3, rfl, _, _, hx3, _⟩ := ho3.reads
  have HB := Lib.hid hx3
  have HA3 := Lib.hid (HA.out.grown hg3)
  have HG3 := Lib.hid (grown_trans HG2.out hg3)
  clear ho3 hx3 hg3 HG2 HA
  go_wp2_with fail
  refine (equalInts_any X X a2 a3 n c2 n c3 true _ HA3.out HB.out (by omega) (by simp)).mono ?_
  rintro e w4 ⟨rfl, hg4⟩
  have HA4 := Lib.hid (HA3.out.grown hg4)
  have HG4 := Lib.hid (grown_trans HG3.out hg4)
  clear hg4 HA3 HG3 HB
  by_cases hz : n = 0
  · subst hz
    go_wp2_with fail
    refine (KS.out _).mono ?_
    rintro e w5 ⟨v5, rfl, ho5, hg5⟩
    obtain ⟨a5, c5, rfl, _, _, hx5, _⟩ := ho5.reads
    have HB := Lib.hid hx5
    have HA5 := Lib.hid (HA4.out.grown hg5)
    have HG5 := Lib.hid (grown_trans HG4.out hg5)
    clear ho5 hx5 hg5
    go_wp2_with fail
    refine (equalInts_any X X a2 a5 0 c2 0 c5 true _ HA5.out HB.out (by omega) (by simp)).mono ?_
    rintro e w6 ⟨rfl, hg6⟩
    have HG6 := Lib.hid (grown_trans HG5.out hg6)
    clear hg6
    go_wp2
    go_ret
    exact ⟨rfl, HG6.out⟩
  have hz' : ((n : Int) == 0) = false := by simp; omega
  have hok : psOk c od p = true := psL_of (by rw [HX.out.2]; exact hz)
  obtain ⟨hp2, hp3, hok3⟩ := psOk_of hok
  obtain ⟨e1, e2⟩ := psL_true hok
  rw [HX.out.1] at e1
  rw [HX.out.2] at e2
  obtain ⟨s, hs⟩ : ∃ s, (c + od) / ((2 ^ p.toNat : Nat) : Int) = s := ⟨_, rfl⟩
  obtain ⟨a1, a2', a3, a4, _, _⟩ := psOkK_of hok3
  obtain ⟨_, b1, b2, _⟩ := psK_range (K := 2 ^ p.toNat) (Nat.pow_pos (by omega)) hok3
  rw [hs] at b1 b2
  have hpos : 0 < n := by omega
  obtain ⟨b, off, rfl, hc⟩ := HA4.out.2.resolve_left (by intro e; have := HA4.out.1; rw [e] at this; simp at this; omega)
  have q0 : w4.cell? ⟨b, off + 0, none⟩ = some (.int .i64 (s - od)) := hc 0 _ (by rw [e1, psK_zero, hs])
  rw [Nat.add_zero] at q0
  have HC : Hid (∀ i, 0 < i → i < n → w4.cell? ⟨b, off + i, none⟩ = some (.int .i64 s)) := fun i h0 h1 => hc i _ (by rw [e1, psK_pos c od h0 (by omega), hs])
  have HE := Lib.hid (And.intro e2 hok)
  have hwv : IntKind.i64.wrap (s - od + od) = s := by rw [show s - od + od = s by omega]; exact IntWalk.i64_in _ (by omega)
  clear hz hc e1 e2 hok hok3 hs
  go_wp2
  go_loopw [7] (fun iv wr => ∃ k q : Nat, 1 ≤ k ∧ k ≤ n ∧ iv = .int .i64 k ∧ wr = w4.drewN q) (fun iv _ => n - (intOf iv).toNat)
  case atStart => exact ⟨1, 0, by omega, by omega, rfl, rfl⟩
  case round =>
    obtain ⟨k, q, hk1, hk, rfl, rfl⟩ := hrel
    by_cases hlt : k < n
    · have qk := HC.out k (by omega) hlt
      go_wp2
      go_quiet (fail)
      go_wp2
      go_roundw
      case rel => exact ⟨k + 1, q + nq, by omega, by omega, by go_num, rfl⟩
      case measure => simp [intOf]; omega
    · obtain rfl : k = n := by omega
      clear hwv q0
      go_wp2_with fail
      have hsum := sum_psL c od p (some ⟨b, off, none⟩) c2 (w4.drewN q) (by rw [HX.out.1, HX.out.2]; exact HA4.out.grown (grown_drewN _ _ _)) HE.out.2
      rw [HX.out.2] at hsum
      refine hsum.mono ?_
      rintro e w5 ⟨rfl, rfl⟩
      clear hsum
      have HK := Lib.hid HE.out.1
      obtain rfl | rfl | rfl | rfl := p_four ⟨hp2, hp3⟩
      all_goals
        have hk := HK.out
        simp at hk
        subst hk
        go_wp2
        go_ret
        exact ⟨rfl, grown_trans HG4.out (grown_drewN _ _ _)⟩

theorem ps_finer {c o p : Int} (h : psOk c o p = true) (h2 : psOk c o (p + 1) = true) : (c + o) / ((2 ^ p.toNat : Nat) : Int) = 2 * ((c + o) / ((2 ^ (p + 1).toNat : Nat) : Int)) ∧ psN c o (p + 1) = 2 * psN c o p := by
  obtain ⟨a1, a2, a3⟩ := psOk_of h
  obtain ⟨b1, b2, b3⟩ := psOk_of h2
  obtain ⟨_, _, _, _, a5, _⟩ := psOkK_of a3
  obtain ⟨_, _, _, _, b5, _⟩ := psOkK_of b3
  rw [(psL_true h).2, (psL_true h2).2]
  obtain rfl | rfl | rfl | rfl := p_four ⟨a1, a2⟩
  · simp at *; omega
  · simp at *; omega
  · simp at *; omega
  · omega

set_option maxRecDepth 100000 in
set_option maxHeartbeats 4000000 in
theorem FnPartitionSizesFiner_walk (ao : Option Addr) (len cap : Nat) (w : World) (hb : BytesAt w ao len) (hlc : len ≤ cap) (hmax : len ≤ 9223372036854775807) :
    Calls Try.prog 5 #[.slice ao len cap] w (Holds w) := by
  by_cases hlen : 1048576 < len
  · clear hb
    go_enter Try.func5, Try.ntmps5
    go_wp2
    go_ret
    exact ⟨rfl, grown_refl _ _⟩
  have hd := drawPS_any ao len cap w hb hlc hmax
  have hm : decide (1048576 < (len : Int)) = false := by simp; omega
  clear hb hlc hmax hlen
  go_enter Try.func5, Try.ntmps5
  go_wp2_with fail
  refine hd.mono ?_
  rintro e w1 ⟨c, od, p, rfl, hp, hg1⟩
  have HG1 := Lib.hid hg1
  have hp0 := hp.1
  have hp1 := hp.2
  clear hd hg1 hp
  obtain ⟨X, hX⟩ : ∃ X, psL c od p = X := ⟨_, rfl⟩
  obtain ⟨n, hn⟩ : ∃ n, psN c od p = n := ⟨_, rfl⟩
  have hn8 : n ≤ 8 := by rw [← hn]; exact psN_le _ _ _
  have HX := Lib.hid (And.intro hX hn)
  have KI := Lib.hid (fun W => iPS_any c od p W)
  have KS := Lib.hid (fun W => sPS_any c od p W)
  rw [hX, hn] at KI KS
  clear hX hn
  go_wp2_with fail
  refine (KI.out _).mono ?_
  rintro e w2 ⟨v2, rfl, ho2, hg2⟩
  obtain ⟨a2, c2, rfl, _, _, hx2, _⟩ := ho2.reads
  have HA := Lib.hid hx2
  have HG2 := Lib.hid (grown_trans HG1.out hg2)
  clear ho2 hx2 hg2 HG1
  go_wp2_with fail
  refine (KS.out _).mono ?_
  rintro e w3 ⟨v3, rfl, ho3, hg3⟩
  obtain ⟨a3, c3, rfl, _, _, hx3, _⟩ := ho3.reads
  have HB := Lib.hid hx3
  have HA3 := Lib.hid (HA.out.grown hg3)
  have HG3 := Lib.hid (grown_trans HG2.out hg3)
  clear ho3 hx3 hg3 HG2 HA
  go_wp2_with fail
  refine (equalInts_any X X a2 a3 n c2 n c3 true _ HA3.out HB.out (by omega) (by simp)).mono ?_
  rintro e w4 ⟨rfl, hg4⟩
  have HA4 := Lib.hid (HA3.out.grown hg4)
  have HG4 := Lib.hid (grown_trans HG3.out hg4)
  clear hg4 HA3 HG3 HB
  by_cases hz : n = 0
  · subst hz
    go_wp2_with fail
    refine (KS.out _).mono ?_
    rintro e w5 ⟨v5, rfl, ho5, hg5⟩
    obtain ⟨a5, c5, rfl, _, _, hx5, _⟩ := ho5.reads
    have HB := Lib.hid hx5
    have HA5 := Lib.hid (HA4.out.grown hg5)
    have HG5 := Lib.hid (grown_trans HG4.out hg5)
    clear ho5 hx5 hg5
    go_wp2_with fail
    refine (equalInts_any X X a2 a5 0 c2 0 c5 true _ HA5.out HB.out (by omega) (by simp)).mono ?_
    rintro e w6 ⟨rfl, hg6⟩
    have HG6 := Lib.hid (grown_trans HG5.out hg6)
    clear hg6
    go_wp2
    go_ret
    exact ⟨rfl, HG6.out⟩
  have hz' : ((n : Int) == 0) = false := by simp; omega
  have hok : psOk c od p = true := psL_of (by rw [HX.out.2]; exact hz)
  have hwp : IntKind.i64.wrap (p + 1) = p + 1 := IntWalk.i64_in _ (by omega)
  obtain ⟨Y, hY⟩ : ∃ Y, psL c od (p + 1) = Y := ⟨_, rfl⟩
  obtain ⟨m, hm2⟩ : ∃ m, psN c od (p + 1) = m := ⟨_, rfl⟩
  have hm8 : m ≤ 8 := by rw [← hm2]; exact psN_le _ _ _
  have HY := Lib.hid (And.intro hY hm2)
  have KF := Lib.hid (fun W => iPS_any c od (p + 1) W)
  rw [hY, hm2] at KF
  clear hY hm2
  have HOK := Lib.hid hok
  clear hok
  go_wp2_with fail
  refine (KF.out _).mono ?_
  rintro e w5 ⟨v5, rfl, ho5, hg5⟩
  obtain ⟨a5, c5, rfl, _, _, hx5, _⟩ := ho5.reads
  have HB := Lib.hid hx5
  have HA5 := Lib.hid (HA4.out.grown hg5)
  have HG5 := Lib.hid (grown_trans HG4.out hg5)
  clear ho5 hx5 hg5 HA4 HG4 hwp
  by_cases hm0 : m = 0
  · subst hm0
    go_wp2
    go_loopw [8] (fun iv wr => iv = .int .i64 0 ∧ wr = w5) (fun iv _ => 0)
    case atStart => exact ⟨rfl, rfl⟩
    case round =>
      obtain ⟨rfl, rfl⟩ := hrel
      go_wp2
      go_ret
      exact ⟨rfl, HG5.out⟩
  have hok2 : psOk c od (p + 1) = true := psL_of (by rw [HY.out.2]; exact hm0)
  obtain ⟨f1, f2⟩ := ps_finer HOK.out hok2
  obtain ⟨e1, e2⟩ := psL_true HOK.out
  obtain ⟨d1, d2⟩ := psL_true hok2
  rw [HX.out.2, HY.out.2] at f2
  rw [HX.out.1] at e1
  rw [HX.out.2] at e2
  rw [HY.out.1] at d1
  rw [HY.out.2] at d2
  obtain ⟨s, hs⟩ : ∃ s, (c + od) / ((2 ^ p.toNat : Nat) : Int) = s := ⟨_, rfl⟩
  obtain ⟨t, ht⟩ : ∃ t, (c + od) / ((2 ^ (p + 1).toNat : Nat) : Int) = t := ⟨_, rfl⟩
  obtain ⟨a1, a2', a3, a4, _, _⟩ := psOkK_of (psOk_of HOK.out).2.2
  obtain ⟨_, b1, b2, _⟩ := psK_range (K := 2 ^ p.toNat) (Nat.pow_pos (by omega)) (psOk_of HOK.out).2.2
  rw [hs, ht] at f1
  rw [hs] at b1 b2
  obtain ⟨b, off, rfl, hc⟩ := HA5.out.2.resolve_left (by intro e; have := HA5.out.1; rw [e] at this; simp at this; omega)
  obtain ⟨b', off', rfl, hc'⟩ := HB.out.2.resolve_left (by intro e; have := HB.out.1; rw [e] at this; simp at this; omega)
  have HC : Hid (∀ i, i < n → w5.cell? ⟨b, off + i, none⟩ = some (.int .i64 (if i = 0 then s - od else s))) := fun i h1 => by
    by_cases h0 : i = 0
    · subst h0; rw [if_pos rfl]; exact hc 0 _ (by rw [e1, psK_zero, hs])
    · rw [if_neg h0]; exact hc i _ (by rw [e1, psK_pos c od (by omega) (by omega), hs])
  have HD : Hid (∀ i, i < m → w5.cell? ⟨b', off' + i, none⟩ = some (.int .i64 (if i = 0 then t - od else t))) := fun i h1 => by
    by_cases h0 : i = 0
    · subst h0; rw [if_pos rfl]; exact hc' 0 _ (by rw [d1, psK_zero, ht])
    · rw [if_neg h0]; exact hc' i _ (by rw [d1, psK_pos c od (by omega) (by omega), ht])
  have HM := Lib.hid f2
  have HT := Lib.hid f1
  have t0 : 0 ≤ t := by omega
  have t1 : t ≤ 64 := by omega
  have hmz : ((m : Int) == 0) = false := by simp; omega
  have hmn : ((m : Int) == 2 * (n : Int)) = true := by simp; omega
  clear hz hc hc' e1 e2 d1 d2 hok2 hs ht f1 f2
  go_wp2
  go_loopw [8] (fun iv wr => ∃ k q : Nat, k ≤ n ∧ iv = .int .i64 k ∧ wr = w5.drewN q) (fun iv _ => n - (intOf iv).toNat)
  case atStart => exact ⟨0, 0, by omega, rfl, rfl⟩
  case round =>
    obtain ⟨k, q, hk, rfl, rfl⟩ := hrel
    by_cases hlt : k < n
    · have hm2 := HM.out
      have qk := HC.out k hlt
      have qa := HD.out (2 * k) (by omega)
      have qb := HD.out (2 * k + 1) (by omega)
      rw [if_neg (by omega)] at qb
      have hfx : (if 2 * k = 0 then t - od else t) + t = (if k = 0 then s - od else s) := by
        have := HT.out
        by_cases h0 : k = 0
        · subst h0; simp; omega
        · rw [if_neg h0, if_neg (by omega)]; omega
      obtain ⟨u, hu⟩ : ∃ u, (if 2 * k = 0 then t - od else t) = u := ⟨_, rfl⟩
      obtain ⟨v, hv⟩ : ∃ v, (if k = 0 then s - od else s) = v := ⟨_, rfl⟩
      rw [hu] at qa hfx
      rw [hv] at qk hfx
      have u0 : -8 ≤ u := by rw [← hu]; split <;> omega
      have u1 : u ≤ 64 := by rw [← hu]; split <;> omega
      have hwv : IntKind.i64.wrap (u + t) = v := by rw [← hfx]; exact IntWalk.i64_in _ (by omega)
      have i1 : (2 * (k : Int)).toNat = 2 * k := by omega
      have i2 : (2 * (k : Int) + 1).toNat = 2 * k + 1 := by omega
      have i3 : 2 * (k : Int) + 1 < (m : Int) := by omega
      have i4 : 2 * (k : Int) < (m : Int) := by omega
      have i5 : decide ((n : Int) ≤ (k : Int)) = false := by simp; omega
      have i6 : (k : Int) < (n : Int) := by omega
      have i7 : 0 ≤ 2 * (k : Int) := by omega
      have i8 : 0 ≤ 2 * (k : Int) + 1 := by omega
      have i9 : ¬ 2 * (k : Int) < 0 := by omega
      have i10 : ¬ 2 * (k : Int) + 1 < 0 := by omega
      have i11 : ¬ (m : Int) ≤ 2 * (k : Int) := by omega
      have i12 : ¬ (m : Int) ≤ 2 * (k : Int) + 1 := by omega
      have hw1 : IntKind.i64.wrap (2 * (k : Int)) = 2 * (k : Int) := IntWalk.i64_in _ (by omega)
      have hw2 : IntKind.i64.wrap (2 * (k : Int) + 1) = 2 * (k : Int) + 1 := IntWalk.i64_in _ (by omega)
      clear hm2 hu hv hfx hmz hmn
      go_wp2_with fail
      go_quiet (fail)
      go_wp2
      go_roundw
      case rel => exact ⟨k + 1, q + nq, by omega, by go_num, rfl⟩
      case measure => simp [intOf]; omega
    · obtain rfl : k = n := by omega
      have hm2 := HM.out
      have i3 : decide (2 * (k : Int) + 1 < (m : Int)) = false := by simp; omega
      clear hm2
      go_wp2
      go_ret
      exact ⟨rfl, grown_trans HG5.out (grown_drewN _ _ _)⟩

end Go.Proofs.Ytikblehndmikoaa
