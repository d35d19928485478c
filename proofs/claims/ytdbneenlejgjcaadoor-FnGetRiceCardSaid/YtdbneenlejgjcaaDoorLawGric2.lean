/-
  The walk of the law on Rice codes that are read: it returns true and writes nothing that was there. For every code.
-/
import Derived.Test.YtdbneenlejgjcaaDoorLawGric
namespace Go.Proofs.YtdbneenlejgjcaaDoor
open Go.RowKit

/-- What is read as a Rice code is one. -/
theorem ric_same (bs : List Bool) (at_ k q : Nat) (hk : k ≤ 14) (hq : OneAt bs at_ q) (hl : at_ + q + 1 + k ≤ bs.length) : ∃ z : Nat, (q : Int) * 2 ^ k + numV bs (at_ + q + 1) k = (z : Int) ∧ z ≤ 8388606 ∧ z / 2 ^ k = q ∧ ∀ i, i < q + 1 + k → cb (ric z k) i = cb bs (at_ + i) := by
  obtain ⟨v, hv, hlt, hB⟩ := numV_numB bs (at_ + q + 1) k (by omega)
  have hq5 := hq.1
  obtain ⟨h, p, hh, _, _, hqp, hp, _⟩ := gr_num q k (v : Int) hq5 hk (by omega) (by exact_mod_cast hlt)
  have hp2 : (2 : Nat) ^ k ≤ 2 ^ 14 := Nat.pow_le_pow_right (by decide) hk
  have e1 : (q * 2 ^ k + v) / 2 ^ k = q := by
    rw [Nat.mul_comm, Nat.mul_add_div (Nat.two_pow_pos k), Nat.div_eq_of_lt hlt, Nat.add_zero]
  have e2 : (q * 2 ^ k + v) % 2 ^ k = v := by rw [Nat.mul_comm, Nat.mul_add_mod, Nat.mod_eq_of_lt hlt]
  have e3 : q * 2 ^ k ≤ 500 * 2 ^ 14 := Nat.mul_le_mul hq5 hp2
  have e4 : (500 : Nat) * 2 ^ 14 = 8192000 := by decide
  have e5 : (2 : Nat) ^ 14 = 16384 := by decide
  refine ⟨q * 2 ^ k + v, ?_, by omega, e1, ?_⟩
  · rw [hv, Int.natCast_add, Int.natCast_mul]; simp
  intro i hi
  have hr : ric (q * 2 ^ k + v) k = una q ++ numB v k := by unfold ric; rw [e1, ← numB_mod, e2]
  rw [hr]
  have hu := una_one [] q hq5
  rw [List.nil_append, List.length_nil] at hu
  by_cases h1 : i < q
  · rw [hq.2.2.2 i h1]
    have h2 : cb (una q ++ numB v k) i = cb (una q) i := by
      unfold cb; rw [List.getD_eq_getElem?_getD, List.getD_eq_getElem?_getD, List.getElem?_append_left (by rw [una_len]; omega)]
    rw [h2]
    have := hu.2.2.2 i h1
    rwa [Nat.zero_add] at this
  · by_cases h2 : i = q
    · subst h2
      rw [hq.2.2.1]
      have h3 : cb (una i ++ numB v k) i = cb (una i) i := by
        unfold cb; rw [List.getD_eq_getElem?_getD, List.getD_eq_getElem?_getD, List.getElem?_append_left (by rw [una_len]; omega)]
      rw [h3]
      have := hu.2.2.1
      rwa [Nat.zero_add] at this
    · obtain ⟨j, rfl⟩ : ∃ j, i = q + 1 + j := ⟨i - (q + 1), by omega⟩
      unfold cb
      rw [List.getD_eq_getElem?_getD, List.getD_eq_getElem?_getD, List.getElem?_append_right (by rw [una_len]; omega), una_len, show q + 1 + j - (q + 1) = j by omega, hB, List.getElem?_take_of_lt (by omega), List.getElem?_drop, show at_ + q + 1 + j = at_ + (q + 1 + j) by omega]

theorem iRicPut_eq (x c : Int) (z k : Nat) (w : World) (hc : c = (k : Int)) (hz : Zz x = (z : Int)) (hk : k ≤ 14) (hq : z / 2 ^ k ≤ 500) (hE : ErrsU w) :
    Calls Tryd.prog 15 #[.agg #[.slice none 0 0, .int .i64 0], .int .i64 x, .int .i64 c] w (GaveBits (ric z k) w) := by
  subst hc
  obtain ⟨o, ho, hS, hI, hC, hN⟩ := ric_both [] 0 x (k : Int) 0 (by omega)
  have hv : Vr x (k : Int) = true := by
    unfold Vr
    apply decide_eq_true
    have e : (z : Int) / 2 ^ (k : Int).toNat = ((z / 2 ^ k : Nat) : Int) := by simp
    rw [hz, e]
    generalize z / 2 ^ k = q at *
    omega
  cases o with
  | none =>
    exfalso
    refine hN.out [] rfl rfl hv ?_ rfl
    rw [Rl_good hz rfl hk hq]
    generalize z / 2 ^ k = q at *
    simp only [List.length_nil]; omega
  | some rs =>
    obtain ⟨bs, n, k', h1, h2, h3, _, h5, _, _, rfl⟩ := hC.out rs rfl
    have hb : bs = [] := by apply List.length_eq_zero_iff.1; omega
    have e1 : k' = k := by omega
    have e2 : n = z := by omega
    subst hb
    subst e1
    subst e2
    exact hI.out none 0 w ⟨rfl, Or.inl rfl⟩ (fun _ => rfl) hE

set_option maxRecDepth 100000 in
set_option maxHeartbeats 4000000 in
theorem FnGetRice_walk (ao : Option Addr) (len cap : Nat) (w : World) (hb : BytesAt w ao len) (hlc : len ≤ cap) (hmax : len ≤ 9223372036854775807) (hE : ErrsUG w) :
    Calls Tryd.prog 7 #[.slice ao len cap] w (Holds w) := by
  by_cases hlen : 1048576 < len
  · clear hb hE
    go_enter Tryd.func7, Tryd.ntmps7
    go_wp2
    go_ret
    exact ⟨rfl, grown_refl _ _⟩
  have hd := drawGR_any ao len cap w hb hlc hmax
  have hm : decide (1048576 < (len : Int)) = false := by simp; omega
  have HE0 := Lib.hid hE
  clear hb hlc hmax hlen hE
  go_enter Tryd.func7, Tryd.ntmps7
  go_wp2_with fail
  refine hd.mono ?_
  rintro e w1 ⟨a1, l1, k1, c, xs, a, z, rfl, hl1, hlc1, hn1, hx1, hg1⟩
  have HN := Lib.hid hn1
  have HG1 := Lib.hid hg1
  have HE := Lib.hid (HE0.out.grown hg1)
  have HM := Lib.hid ((Mem.start w1).block (.cells #[.slice a1 l1 k1, .int .i64 c] 28))
  have HX := Lib.hid (hx1.grown HM.out.g)
  clear hd hn1 hx1 hg1
  obtain ⟨n, p, ok, hS, hI, hC, hA⟩ := gric_both xs c a z l1 (by omega)
  cases ok with
  | false =>
    have q0a := (two_cells (HM.out.get (b := w1.heap.size) (o := .cells #[.slice a1 l1 k1, .int .i64 c] 28) (by simp))).1
    have q0b := (two_cells (HM.out.get (b := w1.heap.size) (o := .cells #[.slice a1 l1 k1, .int .i64 c] 28) (by simp))).2
    go_wp2_with fail
    refine (hI.out a1 k1 _ HX.out (HE.out.q.grown HM.out.g)).mono ?_
    rintro e w2 ⟨rfl, hg2⟩
    have HM := Lib.hid (HM.out.grown hg2)
    have HX := Lib.hid ((HX.out.grown hg2))
    clear q0a q0b hg2
    have q0a := (two_cells (HM.out.get (b := w1.heap.size) (o := .cells #[.slice a1 l1 k1, .int .i64 c] 28) (by simp))).1
    have q0b := (two_cells (HM.out.get (b := w1.heap.size) (o := .cells #[.slice a1 l1 k1, .int .i64 c] 28) (by simp))).2
    go_wp2_with fail
    refine (hS.out a1 k1 _ HX.out).mono ?_
    rintro e w3 ⟨rfl, hg3⟩
    have HM := Lib.hid (HM.out.grown hg3)
    have HX := Lib.hid ((HX.out.grown hg3))
    clear q0a q0b hg3
    have hnn : (n == n) = true := by simp
    have hpp : (p == p) = true := by simp
    have q0a := (two_cells (HM.out.get (b := w1.heap.size) (o := .cells #[.slice a1 l1 k1, .int .i64 c] 28) (by simp))).1
    have q0b := (two_cells (HM.out.get (b := w1.heap.size) (o := .cells #[.slice a1 l1 k1, .int .i64 c] 28) (by simp))).2
    go_wp2
    go_ret
    exact ⟨rfl, grown_trans HG1.out HM.out.g⟩
  | true =>
    obtain ⟨bs, at_, k, q, hxs, hcc, haa, hzz, hb16, hk14, hq, hl, hnn, hpp⟩ := hC.out rfl
    obtain ⟨z0, hz1, hz2, hz3, hz4⟩ := ric_same bs at_ k q hk14 hq hl
    rw [hz1] at hnn
    obtain ⟨mb, hmb⟩ : ∃ mb, bs.length = mb := ⟨_, rfl⟩
    rw [hmb] at hcc hb16 hl
    subst hcc
    subst haa
    subst hzz
    subst hxs
    obtain ⟨m, hm⟩ : ∃ m, q + 1 + k = m := ⟨_, rfl⟩
    obtain ⟨nb, hnb⟩ : ∃ nb, (m + 7) / 8 = nb := ⟨_, rfl⟩
    obtain ⟨nx, hnx⟩ : ∃ nx, at_ + q + 1 + k = nx := ⟨_, rfl⟩
    rw [hnx] at hpp hl
    subst hpp
    have HMB := Lib.hid hmb
    have HZ : Hid (Zz n = (z0 : Int)) := by show _ = _; rw [hnn]; exact Zz_uz (by omega) (by omega)
    have HL : Hid ((ric z0 k).length = m ∧ (m + 7) / 8 = nb) := ⟨by rw [ric_len, hz3, hm], hnb⟩
    have HC4 : Hid (∀ i, i < m → cb (ric z0 k) i = cb bs (at_ + i)) := by rw [← hm]; exact hz4
    have HNX : Hid (nx = at_ + m) := by show _ = _; omega
    have hq5 : z0 / 2 ^ k ≤ 500 := by rw [hz3]; exact hq.1
    have hm5 : m ≤ 515 := by have := hq.1; omega
    have hnb2 : nb ≤ 65 := by omega
    have hatm : at_ + m ≤ mb := by omega
    clear hz1 hz2 hz3 hz4 hnn hmb hm hnb hnx hl hC hA hq
    have q0a := (two_cells (HM.out.get (b := w1.heap.size) (o := .cells #[.slice a1 l1 k1, .int .i64 (mb : Int)] 28) (by simp))).1
    have q0b := (two_cells (HM.out.get (b := w1.heap.size) (o := .cells #[.slice a1 l1 k1, .int .i64 (mb : Int)] 28) (by simp))).2
    go_wp2_with fail
    refine (hI.out a1 k1 _ HX.out (HE.out.q.grown HM.out.g)).mono ?_
    rintro e w2 ⟨rfl, hg2⟩
    have HM := Lib.hid (HM.out.grown hg2)
    have HX := Lib.hid ((HX.out.grown hg2))
    clear q0a q0b hg2
    have q0a := (two_cells (HM.out.get (b := w1.heap.size) (o := .cells #[.slice a1 l1 k1, .int .i64 (mb : Int)] 28) (by simp))).1
    have q0b := (two_cells (HM.out.get (b := w1.heap.size) (o := .cells #[.slice a1 l1 k1, .int .i64 (mb : Int)] 28) (by simp))).2
    go_wp2_with fail
    refine (hS.out a1 k1 _ HX.out).mono ?_
    rintro e w3 ⟨rfl, hg3⟩
    have HM := Lib.hid (HM.out.grown hg3)
    have HX := Lib.hid ((HX.out.grown hg3))
    clear q0a q0b hg3
    have hnn : (n == n) = true := by simp
    have hpp : ((nx : Int) == (nx : Int)) = true := by simp
    have q0a := (two_cells (HM.out.get (b := w1.heap.size) (o := .cells #[.slice a1 l1 k1, .int .i64 (mb : Int)] 28) (by simp))).1
    have q0b := (two_cells (HM.out.get (b := w1.heap.size) (o := .cells #[.slice a1 l1 k1, .int .i64 (mb : Int)] 28) (by simp))).2
    go_wp2_with fail
    refine (iRicPut_eq n (k : Int) z0 k _ rfl HZ.out hk14 hq5 (HE.out.p.grown HM.out.g)).mono ?_
    rintro e w4 ⟨v4, rfl, ho4, hg4⟩
    rw [HL.out.1]
    rw [HL.out.1, HL.out.2] at ho4
    obtain ⟨p4, c4, rfl, _, hn4, hx4, _⟩ := ho4.reads
    have HM := Lib.hid ((HM.out.grown hg4).block (.cells #[.slice p4 nb c4, .int .i64 (m : Int)] 28))
    have H2 := Lib.hid (hx4.grown (grown_alloc w4 (.cells #[.slice p4 nb c4, .int .i64 (m : Int)] 28) none))
    have H2n := Lib.hid hn4
    have HX := Lib.hid ((HX.out.grown hg4).grown (grown_alloc w4 (.cells #[.slice p4 nb c4, .int .i64 (m : Int)] 28) none))
    clear q0a q0b hg4 ho4 hx4 hn4
    have hq : ((nx : Int) == (at_ : Int) + (m : Int)) = true := by have := HNX.out; simp; omega
    have HQ := Lib.hid hq
    clear hq hS hI
    go_wp2_with fail
    go_loopw [14] (fun iv wr => ∃ i : Nat, i ≤ m ∧ iv = .int .i64 (i : Int) ∧ Hid (Mem w1 wr ([] ++ [(w1.heap.size, Obj.cells #[.slice a1 l1 k1, .int .i64 (mb : Int)] 28)] ++ [(w4.heap.size, Obj.cells #[.slice p4 nb c4, .int .i64 (m : Int)] 28)])) ∧ Hid (Ints wr a1 l1 (pk bs)) ∧ Hid (Ints wr p4 nb (pk (ric z0 k)))) (fun iv _ => m - (intOf iv).toNat)
    case atStart => exact ⟨0, Nat.zero_le _, rfl, Lib.hid (HM.out.cast (by simp)), HX, H2⟩
    case round =>
      obtain ⟨i, hi, rfl, HMk, HXk, H2k⟩ := hrel
      by_cases hlt : i < m
      · have hd : decide ((i : Int) < (m : Int)) = true := by simp; omega
        obtain ⟨y, hy⟩ : ∃ y, cb bs (at_ + i) = y := ⟨_, rfl⟩
        have HY1 : Hid (numV (ric z0 k) i 1 = y ∧ numV bs (at_ + i) 1 = y) := by
          constructor
          · rw [numV_one, HC4.out i hlt]; exact hy
          · rw [numV_one]; exact hy
        have hyy : (y == y) = true := by simp
        clear hy
        have q0a := (two_cells (HMk.out.get (b := w1.heap.size) (o := .cells #[.slice a1 l1 k1, .int .i64 (mb : Int)] 28) (by simp))).1
        have q0b := (two_cells (HMk.out.get (b := w1.heap.size) (o := .cells #[.slice a1 l1 k1, .int .i64 (mb : Int)] 28) (by simp))).2
        have q1a := (two_cells (HMk.out.get (b := w4.heap.size) (o := .cells #[.slice p4 nb c4, .int .i64 (m : Int)] 28) (by simp))).1
        have q1b := (two_cells (HMk.out.get (b := w4.heap.size) (o := .cells #[.slice p4 nb c4, .int .i64 (m : Int)] 28) (by simp))).2
        go_wp2_with fail
        refine (iGetU_eq (ric z0 k) (pk (ric z0 k)) (m : Int) (i : Int) 1 i 1 p4 nb c4 _ H2k.out rfl (by rw [HL.out.1]) rfl rfl (by rw [HL.out.1]; omega) (by omega) (by rw [HL.out.1]; omega) (HE.out.q.grown HMk.out.g)).mono ?_
        rintro e w5 ⟨rfl, hg5⟩
        rw [HY1.out.1]
        have HMk := Lib.hid (HMk.out.grown hg5)
        have HXk := Lib.hid ((HXk.out.grown hg5))
        have H2k := Lib.hid ((H2k.out.grown hg5))
        clear q0a q0b q1a q1b hg5
        have q0a := (two_cells (HMk.out.get (b := w1.heap.size) (o := .cells #[.slice a1 l1 k1, .int .i64 (mb : Int)] 28) (by simp))).1
        have q0b := (two_cells (HMk.out.get (b := w1.heap.size) (o := .cells #[.slice a1 l1 k1, .int .i64 (mb : Int)] 28) (by simp))).2
        have q1a := (two_cells (HMk.out.get (b := w4.heap.size) (o := .cells #[.slice p4 nb c4, .int .i64 (m : Int)] 28) (by simp))).1
        have q1b := (two_cells (HMk.out.get (b := w4.heap.size) (o := .cells #[.slice p4 nb c4, .int .i64 (m : Int)] 28) (by simp))).2
        go_wp2_with fail
        refine (iGetU_eq bs (pk bs) (mb : Int) ((at_ : Int) + (i : Int)) 1 (at_ + i) 1 a1 l1 k1 _ HXk.out rfl (by rw [HMB.out]) (by omega) rfl (by rw [HMB.out]; exact hb16) (by omega) (by rw [HMB.out]; omega) (HE.out.q.grown HMk.out.g)).mono ?_
        rintro e w6 ⟨rfl, hg6⟩
        rw [HY1.out.2]
        have HMk := Lib.hid (HMk.out.grown hg6)
        have HXk := Lib.hid ((HXk.out.grown hg6))
        have H2k := Lib.hid ((H2k.out.grown hg6))
        clear q0a q0b q1a q1b hg6
        have q0a := (two_cells (HMk.out.get (b := w1.heap.size) (o := .cells #[.slice a1 l1 k1, .int .i64 (mb : Int)] 28) (by simp))).1
        have q0b := (two_cells (HMk.out.get (b := w1.heap.size) (o := .cells #[.slice a1 l1 k1, .int .i64 (mb : Int)] 28) (by simp))).2
        have q1a := (two_cells (HMk.out.get (b := w4.heap.size) (o := .cells #[.slice p4 nb c4, .int .i64 (m : Int)] 28) (by simp))).1
        have q1b := (two_cells (HMk.out.get (b := w4.heap.size) (o := .cells #[.slice p4 nb c4, .int .i64 (m : Int)] 28) (by simp))).2
        go_wp2
        go_roundw
        case rel => exact ⟨i + 1, by omega, by go_num, HMk, HXk, H2k⟩
        case measure => simp [intOf]; omega
      · obtain rfl : i = m := by omega
        have hd : decide ((i : Int) < (i : Int)) = false := by simp
        have hq := HQ.out
        have q0a := (two_cells (HMk.out.get (b := w1.heap.size) (o := .cells #[.slice a1 l1 k1, .int .i64 (mb : Int)] 28) (by simp))).1
        have q0b := (two_cells (HMk.out.get (b := w1.heap.size) (o := .cells #[.slice a1 l1 k1, .int .i64 (mb : Int)] 28) (by simp))).2
        have q1a := (two_cells (HMk.out.get (b := w4.heap.size) (o := .cells #[.slice p4 nb c4, .int .i64 (i : Int)] 28) (by simp))).1
        have q1b := (two_cells (HMk.out.get (b := w4.heap.size) (o := .cells #[.slice p4 nb c4, .int .i64 (i : Int)] 28) (by simp))).2
        go_wp2
        go_ret
        exact ⟨rfl, grown_trans HG1.out HMk.out.g⟩

end Go.Proofs.YtdbneenlejgjcaaDoor
