/-
  The walks of the laws on joined bits: they return true and write nothing that was there. For every code.
-/
import Derived.Test.YtcgcippniicaaaaDoorLawJoin
import Derived.Test.YtcgcippniicaaaaDoorDrawJB
namespace Go.Proofs.YtcgcippniicaaaaDoor
open Go.RowKit

structure ErrsJG (w : World) : Prop where
  num : ErrAt w 0
  bits : ErrAt w 3
  room : ErrAt w 1
  fin : ErrAt w 2
theorem ErrsJG.grown {w w' : World} (h : ErrsJG w) (hg : w.grownBy w' none) : ErrsJG w' := ⟨h.num.grown hg, h.bits.grown hg, h.room.grown hg, h.fin.grown hg⟩
theorem ErrsJG.j {w : World} (h : ErrsJG w) : ErrsJ w := ⟨h.bits, h.room⟩
theorem ErrsJG.q {w : World} (h : ErrsJG w) : ErrsG w := ⟨h.num, h.bits, h.fin⟩
theorem ErrsJ.j {w : World} (h : ErrsJ w) : ErrsJ w := h
theorem cb_app_front {us bs : List Bool} {i : Nat} (h : i < us.length) : cb (us ++ bs) i = cb us i := by
  unfold cb; rw [List.getD_eq_getElem?_getD, List.getD_eq_getElem?_getD, List.getElem?_append_left h]
theorem cb_app_back {us bs : List Bool} {i : Nat} (h : us.length ≤ i) : cb (us ++ bs) i = cb bs (i - us.length) := by
  unfold cb; rw [List.getD_eq_getElem?_getD, List.getD_eq_getElem?_getD, List.getElem?_append_right h]
theorem numV_cb (bs : List Bool) (i : Nat) : numV bs i 1 = cb bs i := by simp [numV]

set_option maxRecDepth 100000 in
set_option maxHeartbeats 4000000 in
theorem FnJoinBitsThree_walk (ao : Option Addr) (len cap : Nat) (w : World) (hb : BytesAt w ao len) (hlc : len ≤ cap) (hmax : len ≤ 9223372036854775807) (hE : ErrsJ w) :
    Calls Tryd.prog 9 #[.slice ao len cap] w (Holds w) := by
  by_cases hlen : 1048576 < len
  · clear hb hE
    go_enter Tryd.func9, Tryd.ntmps9
    go_wp2
    go_ret
    exact ⟨rfl, grown_refl _ _⟩
  have hd := drawJB_any ao len cap w hb hlc hmax
  have hm : decide (1048576 < (len : Int)) = false := by simp; omega
  have HE0 := Lib.hid hE
  clear hb hlc hmax hlen hE
  go_enter Tryd.func9, Tryd.ntmps9
  go_wp2_with fail
  refine hd.mono ?_
  rintro e w1 ⟨a1, b1, l1, k1, l2, k2, c, d, xs, ys, rfl, hl1, hl2, hn1, hn2, hx1, hy1, hg1⟩
  have HN := Lib.hid hn1
  have HN2 := Lib.hid hn2
  have HG1 := Lib.hid hg1
  have HE := Lib.hid (HE0.out.grown hg1)
  have HM := Lib.hid (((Mem.start w1).block (.cells #[.slice a1 l1 k1, .int .i64 c] 25)).block (.cells #[.slice b1 l2 k2, .int .i64 d] 25))
  have HX := Lib.hid (hx1.grown HM.out.g)
  have HY := Lib.hid (hy1.grown HM.out.g)
  clear hd hn1 hn2 hx1 hy1 hg1
  obtain ⟨o, ho, hS, hI, hA, hC⟩ := join_both xs ys c d l1 l2 (by omega) (by omega)
  have HO := Lib.hid ho
  clear ho
  cases o with
  | none =>
    have q0a := (two_cells (HM.out.get (b := w1.heap.size) (o := .cells #[.slice a1 l1 k1, .int .i64 c] 25) (by simp))).1
    have q0b := (two_cells (HM.out.get (b := w1.heap.size) (o := .cells #[.slice a1 l1 k1, .int .i64 c] 25) (by simp))).2
    have q1a := (two_cells (HM.out.get (b := w1.heap.size + 1) (o := .cells #[.slice b1 l2 k2, .int .i64 d] 25) (by simp))).1
    have q1b := (two_cells (HM.out.get (b := w1.heap.size + 1) (o := .cells #[.slice b1 l2 k2, .int .i64 d] 25) (by simp))).2
    go_wp2_with fail
    refine (hI.out a1 b1 k1 k2 _ HX.out HN.out HY.out (HE.out.j.grown HM.out.g)).mono ?_
    rintro e w2 ⟨rfl, hg2⟩
    have HM := Lib.hid ((HM.out.grown hg2).block (.cells #[.slice none 0 0, .int .i64 0] 25))
    have HX := Lib.hid ((HX.out.grown hg2).grown (grown_alloc w2 (.cells #[.slice none 0 0, .int .i64 0] 25) none))
    have HY := Lib.hid ((HY.out.grown hg2).grown (grown_alloc w2 (.cells #[.slice none 0 0, .int .i64 0] 25) none))
    clear q0a q0b q1a q1b hg2
    have q0a := (two_cells (HM.out.get (b := w1.heap.size) (o := .cells #[.slice a1 l1 k1, .int .i64 c] 25) (by simp))).1
    have q0b := (two_cells (HM.out.get (b := w1.heap.size) (o := .cells #[.slice a1 l1 k1, .int .i64 c] 25) (by simp))).2
    have q1a := (two_cells (HM.out.get (b := w1.heap.size + 1) (o := .cells #[.slice b1 l2 k2, .int .i64 d] 25) (by simp))).1
    have q1b := (two_cells (HM.out.get (b := w1.heap.size + 1) (o := .cells #[.slice b1 l2 k2, .int .i64 d] 25) (by simp))).2
    have q2a := (two_cells (HM.out.get (b := w2.heap.size) (o := .cells #[.slice none 0 0, .int .i64 0] 25) (by simp))).1
    have q2b := (two_cells (HM.out.get (b := w2.heap.size) (o := .cells #[.slice none 0 0, .int .i64 0] 25) (by simp))).2
    go_wp2_with fail
    refine (hS.out a1 b1 k1 k2 _ HX.out HN.out HY.out).mono ?_
    rintro e w3 ⟨rfl, hg3⟩
    have HM := Lib.hid ((HM.out.grown hg3).block (.cells #[.slice none 0 0, .int .i64 0] 25))
    have HX := Lib.hid ((HX.out.grown hg3).grown (grown_alloc w3 (.cells #[.slice none 0 0, .int .i64 0] 25) none))
    have HY := Lib.hid ((HY.out.grown hg3).grown (grown_alloc w3 (.cells #[.slice none 0 0, .int .i64 0] 25) none))
    clear q0a q0b q1a q1b q2a q2b hg3
    have q0a := (two_cells (HM.out.get (b := w1.heap.size) (o := .cells #[.slice a1 l1 k1, .int .i64 c] 25) (by simp))).1
    have q0b := (two_cells (HM.out.get (b := w1.heap.size) (o := .cells #[.slice a1 l1 k1, .int .i64 c] 25) (by simp))).2
    have q1a := (two_cells (HM.out.get (b := w1.heap.size + 1) (o := .cells #[.slice b1 l2 k2, .int .i64 d] 25) (by simp))).1
    have q1b := (two_cells (HM.out.get (b := w1.heap.size + 1) (o := .cells #[.slice b1 l2 k2, .int .i64 d] 25) (by simp))).2
    have q2a := (two_cells (HM.out.get (b := w2.heap.size) (o := .cells #[.slice none 0 0, .int .i64 0] 25) (by simp))).1
    have q2b := (two_cells (HM.out.get (b := w2.heap.size) (o := .cells #[.slice none 0 0, .int .i64 0] 25) (by simp))).2
    have q3a := (two_cells (HM.out.get (b := w3.heap.size) (o := .cells #[.slice none 0 0, .int .i64 0] 25) (by simp))).1
    have q3b := (two_cells (HM.out.get (b := w3.heap.size) (o := .cells #[.slice none 0 0, .int .i64 0] 25) (by simp))).2
    go_wp2_with fail
    refine (equalBits_same [] none none 0 0 0 0 _ ⟨rfl, Or.inl rfl⟩ ⟨rfl, Or.inl rfl⟩ (by omega)).mono ?_
    rintro e w4 ⟨rfl, hg4⟩
    have HM := Lib.hid (HM.out.grown hg4)
    have HX := Lib.hid ((HX.out.grown hg4))
    have HY := Lib.hid ((HY.out.grown hg4))
    clear q0a q0b q1a q1b q2a q2b q3a q3b hg4
    have q0a := (two_cells (HM.out.get (b := w1.heap.size) (o := .cells #[.slice a1 l1 k1, .int .i64 c] 25) (by simp))).1
    have q0b := (two_cells (HM.out.get (b := w1.heap.size) (o := .cells #[.slice a1 l1 k1, .int .i64 c] 25) (by simp))).2
    have q1a := (two_cells (HM.out.get (b := w1.heap.size + 1) (o := .cells #[.slice b1 l2 k2, .int .i64 d] 25) (by simp))).1
    have q1b := (two_cells (HM.out.get (b := w1.heap.size + 1) (o := .cells #[.slice b1 l2 k2, .int .i64 d] 25) (by simp))).2
    have q2a := (two_cells (HM.out.get (b := w2.heap.size) (o := .cells #[.slice none 0 0, .int .i64 0] 25) (by simp))).1
    have q2b := (two_cells (HM.out.get (b := w2.heap.size) (o := .cells #[.slice none 0 0, .int .i64 0] 25) (by simp))).2
    have q3a := (two_cells (HM.out.get (b := w3.heap.size) (o := .cells #[.slice none 0 0, .int .i64 0] 25) (by simp))).1
    have q3b := (two_cells (HM.out.get (b := w3.heap.size) (o := .cells #[.slice none 0 0, .int .i64 0] 25) (by simp))).2
    go_wp2_with fail
    refine (equalBits_same [] none none 0 0 0 0 _ ⟨rfl, Or.inl rfl⟩ ⟨rfl, Or.inl rfl⟩ (by omega)).mono ?_
    rintro e w5 ⟨rfl, hg5⟩
    have HM := Lib.hid (HM.out.grown hg5)
    have HX := Lib.hid ((HX.out.grown hg5))
    have HY := Lib.hid ((HY.out.grown hg5))
    clear q0a q0b q1a q1b q2a q2b q3a q3b hg5
    go_wp2
    go_ret
    exact ⟨rfl, grown_trans HG1.out HM.out.g⟩
  | some rs =>
    obtain ⟨us, bs, hxs, hcc, hys, hdd, hroom, hrs⟩ := hC.out rs rfl
    obtain ⟨mu, hmu⟩ : ∃ mu, us.length = mu := ⟨_, rfl⟩
    obtain ⟨mb, hmb⟩ : ∃ mb, bs.length = mb := ⟨_, rfl⟩
    rw [hmu] at hcc hroom
    rw [hmb] at hdd hroom
    subst hcc
    subst hdd
    subst hxs
    subst hys
    obtain ⟨m, hm⟩ : ∃ m, rs.length = m := ⟨_, rfl⟩
    obtain ⟨n, hn⟩ : ∃ n, (m + 7) / 8 = n := ⟨_, rfl⟩
    have hml : m = mu + mb := by rw [← hm, hrs, List.length_append, hmb, hmu]
    have hl1e : (mu + 7) / 8 = l1 := by have := HX.out.1; rw [pk_len, hmu] at this; exact this
    have hl2e : (mb + 7) / 8 = l2 := by have := HY.out.1; rw [pk_len, hmb] at this; exact this
    have HL := Lib.hid (And.intro hm hn)
    have HU := Lib.hid (And.intro hmu hl1e)
    have HB := Lib.hid (And.intro hmb hl2e)
    have HML := Lib.hid hml
    have HRS := Lib.hid hrs
    have hn2 : n ≤ 2048 := by omega
    have hmb2 : mu + mb ≤ 16384 := hroom
    have hm16 : m ≤ 16384 := by omega
    clear hrs hm hn hml hl1e hl2e hmu hmb hroom HO
    have q0a := (two_cells (HM.out.get (b := w1.heap.size) (o := .cells #[.slice a1 l1 k1, .int .i64 (mu : Int)] 25) (by simp))).1
    have q0b := (two_cells (HM.out.get (b := w1.heap.size) (o := .cells #[.slice a1 l1 k1, .int .i64 (mu : Int)] 25) (by simp))).2
    have q1a := (two_cells (HM.out.get (b := w1.heap.size + 1) (o := .cells #[.slice b1 l2 k2, .int .i64 (mb : Int)] 25) (by simp))).1
    have q1b := (two_cells (HM.out.get (b := w1.heap.size + 1) (o := .cells #[.slice b1 l2 k2, .int .i64 (mb : Int)] 25) (by simp))).2
    go_wp2_with fail
    refine (hI.out a1 b1 k1 k2 _ HX.out HN.out HY.out (HE.out.j.grown HM.out.g)).mono ?_
    rintro e w2 ⟨v2, rfl, ho2, hg2⟩
    rw [HL.out.1]
    rw [HL.out.1, HL.out.2] at ho2
    obtain ⟨p2, c2, rfl, _, hn2, hx2, _⟩ := ho2.reads
    have HM := Lib.hid ((HM.out.grown hg2).block (.cells #[.slice p2 n c2, .int .i64 (m : Int)] 25))
    have H2 := Lib.hid (hx2.grown (grown_alloc w2 (.cells #[.slice p2 n c2, .int .i64 (m : Int)] 25) none))
    have H2n := Lib.hid hn2
    have HX := Lib.hid ((HX.out.grown hg2).grown (grown_alloc w2 (.cells #[.slice p2 n c2, .int .i64 (m : Int)] 25) none))
    have HY := Lib.hid ((HY.out.grown hg2).grown (grown_alloc w2 (.cells #[.slice p2 n c2, .int .i64 (m : Int)] 25) none))
    clear q0a q0b q1a q1b hg2 ho2 hx2 hn2
    have q0a := (two_cells (HM.out.get (b := w1.heap.size) (o := .cells #[.slice a1 l1 k1, .int .i64 (mu : Int)] 25) (by simp))).1
    have q0b := (two_cells (HM.out.get (b := w1.heap.size) (o := .cells #[.slice a1 l1 k1, .int .i64 (mu : Int)] 25) (by simp))).2
    have q1a := (two_cells (HM.out.get (b := w1.heap.size + 1) (o := .cells #[.slice b1 l2 k2, .int .i64 (mb : Int)] 25) (by simp))).1
    have q1b := (two_cells (HM.out.get (b := w1.heap.size + 1) (o := .cells #[.slice b1 l2 k2, .int .i64 (mb : Int)] 25) (by simp))).2
    have q2a := (two_cells (HM.out.get (b := w2.heap.size) (o := .cells #[.slice p2 n c2, .int .i64 (m : Int)] 25) (by simp))).1
    have q2b := (two_cells (HM.out.get (b := w2.heap.size) (o := .cells #[.slice p2 n c2, .int .i64 (m : Int)] 25) (by simp))).2
    go_wp2_with fail
    refine (hS.out a1 b1 k1 k2 _ HX.out HN.out HY.out).mono ?_
    rintro e w3 ⟨v3, rfl, ho3, hg3⟩
    rw [HL.out.1]
    rw [HL.out.1, HL.out.2] at ho3
    obtain ⟨p3, c3, rfl, _, hn3, hx3, _⟩ := ho3.reads
    have HM := Lib.hid ((HM.out.grown hg3).block (.cells #[.slice p3 n c3, .int .i64 (m : Int)] 25))
    have H3 := Lib.hid (hx3.grown (grown_alloc w3 (.cells #[.slice p3 n c3, .int .i64 (m : Int)] 25) none))
    have H3n := Lib.hid hn3
    have HX := Lib.hid ((HX.out.grown hg3).grown (grown_alloc w3 (.cells #[.slice p3 n c3, .int .i64 (m : Int)] 25) none))
    have HY := Lib.hid ((HY.out.grown hg3).grown (grown_alloc w3 (.cells #[.slice p3 n c3, .int .i64 (m : Int)] 25) none))
    have H2 := Lib.hid ((H2.out.grown hg3).grown (grown_alloc w3 (.cells #[.slice p3 n c3, .int .i64 (m : Int)] 25) none))
    clear q0a q0b q1a q1b q2a q2b hg3 ho3 hx3 hn3
    have q0a := (two_cells (HM.out.get (b := w1.heap.size) (o := .cells #[.slice a1 l1 k1, .int .i64 (mu : Int)] 25) (by simp))).1
    have q0b := (two_cells (HM.out.get (b := w1.heap.size) (o := .cells #[.slice a1 l1 k1, .int .i64 (mu : Int)] 25) (by simp))).2
    have q1a := (two_cells (HM.out.get (b := w1.heap.size + 1) (o := .cells #[.slice b1 l2 k2, .int .i64 (mb : Int)] 25) (by simp))).1
    have q1b := (two_cells (HM.out.get (b := w1.heap.size + 1) (o := .cells #[.slice b1 l2 k2, .int .i64 (mb : Int)] 25) (by simp))).2
    have q2a := (two_cells (HM.out.get (b := w2.heap.size) (o := .cells #[.slice p2 n c2, .int .i64 (m : Int)] 25) (by simp))).1
    have q2b := (two_cells (HM.out.get (b := w2.heap.size) (o := .cells #[.slice p2 n c2, .int .i64 (m : Int)] 25) (by simp))).2
    have q3a := (two_cells (HM.out.get (b := w3.heap.size) (o := .cells #[.slice p3 n c3, .int .i64 (m : Int)] 25) (by simp))).1
    have q3b := (two_cells (HM.out.get (b := w3.heap.size) (o := .cells #[.slice p3 n c3, .int .i64 (m : Int)] 25) (by simp))).2
    go_wp2_with fail
    refine (equalBits_same (pk rs) p2 p3 n c2 c3 (m : Int) _ H2.out H3.out (by omega)).mono ?_
    rintro e w4 ⟨rfl, hg4⟩
    have HM := Lib.hid (HM.out.grown hg4)
    have HX := Lib.hid ((HX.out.grown hg4))
    have HY := Lib.hid ((HY.out.grown hg4))
    have H2 := Lib.hid ((H2.out.grown hg4))
    have H3 := Lib.hid ((H3.out.grown hg4))
    clear q0a q0b q1a q1b q2a q2b q3a q3b hg4
    have hroom2 : m + mu ≤ 16384 := by have := HU.out.2; have := HB.out.2; have := HML.out; omega
    obtain ⟨m4, hm4⟩ : ∃ m4, m + mu = m4 := ⟨_, rfl⟩
    obtain ⟨n4, hn4⟩ : ∃ n4, (m4 + 7) / 8 = n4 := ⟨_, rfl⟩
    obtain ⟨m5, hm5⟩ : ∃ m5, mb + mu = m5 := ⟨_, rfl⟩
    obtain ⟨n5, hn5⟩ : ∃ n5, (m5 + 7) / 8 = n5 := ⟨_, rfl⟩
    have H4 : Hid ((rs ++ us).length = m4 ∧ (m4 + 7) / 8 = n4) := ⟨by rw [List.length_append, HL.out.1, HU.out.1, hm4], hn4⟩
    have H5 : Hid ((bs ++ us).length = m5 ∧ (m5 + 7) / 8 = n5) := ⟨by rw [List.length_append, HB.out.1, HU.out.1, hm5], hn5⟩
    have H6 : Hid (us ++ (bs ++ us) = rs ++ us) := by show _ = _; rw [HRS.out, List.append_assoc]
    have hn42 : n4 ≤ 2048 := by omega
    have hn52 : n5 ≤ 2048 := by omega
    have hm42 : m4 ≤ 16384 := by omega
    have hm5x : Hid (mb + mu = m5 ∧ m + mu = m4 ∧ m = mu + mb) := ⟨hm5, hm4, HML.out⟩
    clear hm4 hn4 hm5 hn5
    have q0a := (two_cells (HM.out.get (b := w1.heap.size) (o := .cells #[.slice a1 l1 k1, .int .i64 (mu : Int)] 25) (by simp))).1
    have q0b := (two_cells (HM.out.get (b := w1.heap.size) (o := .cells #[.slice a1 l1 k1, .int .i64 (mu : Int)] 25) (by simp))).2
    have q1a := (two_cells (HM.out.get (b := w1.heap.size + 1) (o := .cells #[.slice b1 l2 k2, .int .i64 (mb : Int)] 25) (by simp))).1
    have q1b := (two_cells (HM.out.get (b := w1.heap.size + 1) (o := .cells #[.slice b1 l2 k2, .int .i64 (mb : Int)] 25) (by simp))).2
    have q2a := (two_cells (HM.out.get (b := w2.heap.size) (o := .cells #[.slice p2 n c2, .int .i64 (m : Int)] 25) (by simp))).1
    have q2b := (two_cells (HM.out.get (b := w2.heap.size) (o := .cells #[.slice p2 n c2, .int .i64 (m : Int)] 25) (by simp))).2
    have q3a := (two_cells (HM.out.get (b := w3.heap.size) (o := .cells #[.slice p3 n c3, .int .i64 (m : Int)] 25) (by simp))).1
    have q3b := (two_cells (HM.out.get (b := w3.heap.size) (o := .cells #[.slice p3 n c3, .int .i64 (m : Int)] 25) (by simp))).2
    go_wp2_with fail
    refine (iJoin_eq rs us (rs ++ us) (pk rs) (pk us) (m : Int) (mu : Int) p2 a1 n c2 l1 k1 _ H2.out H2n.out HX.out (by omega) (by omega) rfl (by rw [HL.out.1]) rfl (by rw [HU.out.1]) (by have := hm5x.out; rw [HL.out.1, HU.out.1]; omega) rfl (HE.out.j.grown HM.out.g)).mono ?_
    rintro e w5 ⟨v5, rfl, ho5, hg5⟩
    rw [H4.out.1]
    rw [H4.out.1, H4.out.2] at ho5
    obtain ⟨p5, c5, rfl, _, hn5, hx5, _⟩ := ho5.reads
    have HM := Lib.hid ((HM.out.grown hg5).block (.cells #[.slice p5 n4 c5, .int .i64 (m4 : Int)] 25))
    have R4 := Lib.hid (hx5.grown (grown_alloc w5 (.cells #[.slice p5 n4 c5, .int .i64 (m4 : Int)] 25) none))
    have R4n := Lib.hid hn5
    have HX := Lib.hid ((HX.out.grown hg5).grown (grown_alloc w5 (.cells #[.slice p5 n4 c5, .int .i64 (m4 : Int)] 25) none))
    have HY := Lib.hid ((HY.out.grown hg5).grown (grown_alloc w5 (.cells #[.slice p5 n4 c5, .int .i64 (m4 : Int)] 25) none))
    have H2 := Lib.hid ((H2.out.grown hg5).grown (grown_alloc w5 (.cells #[.slice p5 n4 c5, .int .i64 (m4 : Int)] 25) none))
    have H3 := Lib.hid ((H3.out.grown hg5).grown (grown_alloc w5 (.cells #[.slice p5 n4 c5, .int .i64 (m4 : Int)] 25) none))
    clear q0a q0b q1a q1b q2a q2b q3a q3b hg5 ho5 hx5 hn5
    have q0a := (two_cells (HM.out.get (b := w1.heap.size) (o := .cells #[.slice a1 l1 k1, .int .i64 (mu : Int)] 25) (by simp))).1
    have q0b := (two_cells (HM.out.get (b := w1.heap.size) (o := .cells #[.slice a1 l1 k1, .int .i64 (mu : Int)] 25) (by simp))).2
    have q1a := (two_cells (HM.out.get (b := w1.heap.size + 1) (o := .cells #[.slice b1 l2 k2, .int .i64 (mb : Int)] 25) (by simp))).1
    have q1b := (two_cells (HM.out.get (b := w1.heap.size + 1) (o := .cells #[.slice b1 l2 k2, .int .i64 (mb : Int)] 25) (by simp))).2
    have q2a := (two_cells (HM.out.get (b := w2.heap.size) (o := .cells #[.slice p2 n c2, .int .i64 (m : Int)] 25) (by simp))).1
    have q2b := (two_cells (HM.out.get (b := w2.heap.size) (o := .cells #[.slice p2 n c2, .int .i64 (m : Int)] 25) (by simp))).2
    have q3a := (two_cells (HM.out.get (b := w3.heap.size) (o := .cells #[.slice p3 n c3, .int .i64 (m : Int)] 25) (by simp))).1
    have q3b := (two_cells (HM.out.get (b := w3.heap.size) (o := .cells #[.slice p3 n c3, .int .i64 (m : Int)] 25) (by simp))).2
    have q4a := (two_cells (HM.out.get (b := w5.heap.size) (o := .cells #[.slice p5 n4 c5, .int .i64 (m4 : Int)] 25) (by simp))).1
    have q4b := (two_cells (HM.out.get (b := w5.heap.size) (o := .cells #[.slice p5 n4 c5, .int .i64 (m4 : Int)] 25) (by simp))).2
    go_wp2_with fail
    refine (iJoin_eq bs us (bs ++ us) (pk bs) (pk us) (mb : Int) (mu : Int) b1 a1 l2 k2 l1 k1 _ HY.out HN2.out HX.out (by omega) (by omega) rfl (by rw [HB.out.1]) rfl (by rw [HU.out.1]) (by have := hm5x.out; rw [HB.out.1, HU.out.1]; omega) rfl (HE.out.j.grown HM.out.g)).mono ?_
    rintro e w6 ⟨v6, rfl, ho6, hg6⟩
    rw [H5.out.1]
    rw [H5.out.1, H5.out.2] at ho6
    obtain ⟨p6, c6, rfl, _, hn6, hx6, _⟩ := ho6.reads
    have HM := Lib.hid ((HM.out.grown hg6).block (.cells #[.slice p6 n5 c6, .int .i64 (m5 : Int)] 25))
    have R5 := Lib.hid (hx6.grown (grown_alloc w6 (.cells #[.slice p6 n5 c6, .int .i64 (m5 : Int)] 25) none))
    have R5n := Lib.hid hn6
    have HX := Lib.hid ((HX.out.grown hg6).grown (grown_alloc w6 (.cells #[.slice p6 n5 c6, .int .i64 (m5 : Int)] 25) none))
    have HY := Lib.hid ((HY.out.grown hg6).grown (grown_alloc w6 (.cells #[.slice p6 n5 c6, .int .i64 (m5 : Int)] 25) none))
    have H2 := Lib.hid ((H2.out.grown hg6).grown (grown_alloc w6 (.cells #[.slice p6 n5 c6, .int .i64 (m5 : Int)] 25) none))
    have H3 := Lib.hid ((H3.out.grown hg6).grown (grown_alloc w6 (.cells #[.slice p6 n5 c6, .int .i64 (m5 : Int)] 25) none))
    have R4 := Lib.hid ((R4.out.grown hg6).grown (grown_alloc w6 (.cells #[.slice p6 n5 c6, .int .i64 (m5 : Int)] 25) none))
    clear q0a q0b q1a q1b q2a q2b q3a q3b q4a q4b hg6 ho6 hx6 hn6
    have q0a := (two_cells (HM.out.get (b := w1.heap.size) (o := .cells #[.slice a1 l1 k1, .int .i64 (mu : Int)] 25) (by simp))).1
    have q0b := (two_cells (HM.out.get (b := w1.heap.size) (o := .cells #[.slice a1 l1 k1, .int .i64 (mu : Int)] 25) (by simp))).2
    have q1a := (two_cells (HM.out.get (b := w1.heap.size + 1) (o := .cells #[.slice b1 l2 k2, .int .i64 (mb : Int)] 25) (by simp))).1
    have q1b := (two_cells (HM.out.get (b := w1.heap.size + 1) (o := .cells #[.slice b1 l2 k2, .int .i64 (mb : Int)] 25) (by simp))).2
    have q2a := (two_cells (HM.out.get (b := w2.heap.size) (o := .cells #[.slice p2 n c2, .int .i64 (m : Int)] 25) (by simp))).1
    have q2b := (two_cells (HM.out.get (b := w2.heap.size) (o := .cells #[.slice p2 n c2, .int .i64 (m : Int)] 25) (by simp))).2
    have q3a := (two_cells (HM.out.get (b := w3.heap.size) (o := .cells #[.slice p3 n c3, .int .i64 (m : Int)] 25) (by simp))).1
    have q3b := (two_cells (HM.out.get (b := w3.heap.size) (o := .cells #[.slice p3 n c3, .int .i64 (m : Int)] 25) (by simp))).2
    have q4a := (two_cells (HM.out.get (b := w5.heap.size) (o := .cells #[.slice p5 n4 c5, .int .i64 (m4 : Int)] 25) (by simp))).1
    have q4b := (two_cells (HM.out.get (b := w5.heap.size) (o := .cells #[.slice p5 n4 c5, .int .i64 (m4 : Int)] 25) (by simp))).2
    have q5a := (two_cells (HM.out.get (b := w6.heap.size) (o := .cells #[.slice p6 n5 c6, .int .i64 (m5 : Int)] 25) (by simp))).1
    have q5b := (two_cells (HM.out.get (b := w6.heap.size) (o := .cells #[.slice p6 n5 c6, .int .i64 (m5 : Int)] 25) (by simp))).2
    go_wp2_with fail
    refine (iJoin_eq us (bs ++ us) (rs ++ us) (pk us) (pk (bs ++ us)) (mu : Int) (m5 : Int) a1 p6 l1 k1 n5 c6 _ HX.out HN.out R5.out (by omega) (by omega) rfl (by rw [HU.out.1]) rfl (by rw [H5.out.1]) (by have := hm5x.out; rw [HU.out.1, H5.out.1]; omega) H6.out (HE.out.j.grown HM.out.g)).mono ?_
    rintro e w7 ⟨v7, rfl, ho7, hg7⟩
    rw [H4.out.1]
    rw [H4.out.1, H4.out.2] at ho7
    obtain ⟨p7, c7, rfl, _, hn7, hx7, _⟩ := ho7.reads
    have HM := Lib.hid ((HM.out.grown hg7).block (.cells #[.slice p7 n4 c7, .int .i64 (m4 : Int)] 25))
    have R6 := Lib.hid (hx7.grown (grown_alloc w7 (.cells #[.slice p7 n4 c7, .int .i64 (m4 : Int)] 25) none))
    have R6n := Lib.hid hn7
    have HX := Lib.hid ((HX.out.grown hg7).grown (grown_alloc w7 (.cells #[.slice p7 n4 c7, .int .i64 (m4 : Int)] 25) none))
    have HY := Lib.hid ((HY.out.grown hg7).grown (grown_alloc w7 (.cells #[.slice p7 n4 c7, .int .i64 (m4 : Int)] 25) none))
    have H2 := Lib.hid ((H2.out.grown hg7).grown (grown_alloc w7 (.cells #[.slice p7 n4 c7, .int .i64 (m4 : Int)] 25) none))
    have H3 := Lib.hid ((H3.out.grown hg7).grown (grown_alloc w7 (.cells #[.slice p7 n4 c7, .int .i64 (m4 : Int)] 25) none))
    have R4 := Lib.hid ((R4.out.grown hg7).grown (grown_alloc w7 (.cells #[.slice p7 n4 c7, .int .i64 (m4 : Int)] 25) none))
    have R5 := Lib.hid ((R5.out.grown hg7).grown (grown_alloc w7 (.cells #[.slice p7 n4 c7, .int .i64 (m4 : Int)] 25) none))
    clear q0a q0b q1a q1b q2a q2b q3a q3b q4a q4b q5a q5b hg7 ho7 hx7 hn7
    have q0a := (two_cells (HM.out.get (b := w1.heap.size) (o := .cells #[.slice a1 l1 k1, .int .i64 (mu : Int)] 25) (by simp))).1
    have q0b := (two_cells (HM.out.get (b := w1.heap.size) (o := .cells #[.slice a1 l1 k1, .int .i64 (mu : Int)] 25) (by simp))).2
    have q1a := (two_cells (HM.out.get (b := w1.heap.size + 1) (o := .cells #[.slice b1 l2 k2, .int .i64 (mb : Int)] 25) (by simp))).1
    have q1b := (two_cells (HM.out.get (b := w1.heap.size + 1) (o := .cells #[.slice b1 l2 k2, .int .i64 (mb : Int)] 25) (by simp))).2
    have q2a := (two_cells (HM.out.get (b := w2.heap.size) (o := .cells #[.slice p2 n c2, .int .i64 (m : Int)] 25) (by simp))).1
    have q2b := (two_cells (HM.out.get (b := w2.heap.size) (o := .cells #[.slice p2 n c2, .int .i64 (m : Int)] 25) (by simp))).2
    have q3a := (two_cells (HM.out.get (b := w3.heap.size) (o := .cells #[.slice p3 n c3, .int .i64 (m : Int)] 25) (by simp))).1
    have q3b := (two_cells (HM.out.get (b := w3.heap.size) (o := .cells #[.slice p3 n c3, .int .i64 (m : Int)] 25) (by simp))).2
    have q4a := (two_cells (HM.out.get (b := w5.heap.size) (o := .cells #[.slice p5 n4 c5, .int .i64 (m4 : Int)] 25) (by simp))).1
    have q4b := (two_cells (HM.out.get (b := w5.heap.size) (o := .cells #[.slice p5 n4 c5, .int .i64 (m4 : Int)] 25) (by simp))).2
    have q5a := (two_cells (HM.out.get (b := w6.heap.size) (o := .cells #[.slice p6 n5 c6, .int .i64 (m5 : Int)] 25) (by simp))).1
    have q5b := (two_cells (HM.out.get (b := w6.heap.size) (o := .cells #[.slice p6 n5 c6, .int .i64 (m5 : Int)] 25) (by simp))).2
    have q6a := (two_cells (HM.out.get (b := w7.heap.size) (o := .cells #[.slice p7 n4 c7, .int .i64 (m4 : Int)] 25) (by simp))).1
    have q6b := (two_cells (HM.out.get (b := w7.heap.size) (o := .cells #[.slice p7 n4 c7, .int .i64 (m4 : Int)] 25) (by simp))).2
    go_wp2_with fail
    refine (equalBits_same (pk (rs ++ us)) p5 p7 n4 c5 c7 (m4 : Int) _ R4.out R6.out (by omega)).mono ?_
    rintro e w8 ⟨rfl, hg8⟩
    have HM := Lib.hid (HM.out.grown hg8)
    have HX := Lib.hid ((HX.out.grown hg8))
    have HY := Lib.hid ((HY.out.grown hg8))
    have H2 := Lib.hid ((H2.out.grown hg8))
    have H3 := Lib.hid ((H3.out.grown hg8))
    have R4 := Lib.hid ((R4.out.grown hg8))
    have R5 := Lib.hid ((R5.out.grown hg8))
    have R6 := Lib.hid ((R6.out.grown hg8))
    clear q0a q0b q1a q1b q2a q2b q3a q3b q4a q4b q5a q5b q6a q6b hg8
    go_wp2
    go_ret
    exact ⟨rfl, grown_trans HG1.out HM.out.g⟩

set_option maxRecDepth 100000 in
set_option maxHeartbeats 4000000 in
theorem FnJoinBits_walk (ao : Option Addr) (len cap : Nat) (w : World) (hb : BytesAt w ao len) (hlc : len ≤ cap) (hmax : len ≤ 9223372036854775807) (hE : ErrsJG w) :
    Calls Tryd.prog 6 #[.slice ao len cap] w (Holds w) := by
  by_cases hlen : 1048576 < len
  · clear hb hE
    go_enter Tryd.func6, Tryd.ntmps6
    go_wp2
    go_ret
    exact ⟨rfl, grown_refl _ _⟩
  have hd := drawJB_any ao len cap w hb hlc hmax
  have hm : decide (1048576 < (len : Int)) = false := by simp; omega
  have HE0 := Lib.hid hE
  clear hb hlc hmax hlen hE
  go_enter Tryd.func6, Tryd.ntmps6
  go_wp2_with fail
  refine hd.mono ?_
  rintro e w1 ⟨a1, b1, l1, k1, l2, k2, c, d, xs, ys, rfl, hl1, hl2, hn1, hn2, hx1, hy1, hg1⟩
  have HN := Lib.hid hn1
  have HN2 := Lib.hid hn2
  have HG1 := Lib.hid hg1
  have HE := Lib.hid (HE0.out.grown hg1)
  have HM := Lib.hid (((Mem.start w1).block (.cells #[.slice a1 l1 k1, .int .i64 c] 25)).block (.cells #[.slice b1 l2 k2, .int .i64 d] 25))
  have HX := Lib.hid (hx1.grown HM.out.g)
  have HY := Lib.hid (hy1.grown HM.out.g)
  clear hd hn1 hn2 hx1 hy1 hg1
  obtain ⟨o, ho, hS, hI, hA, hC⟩ := join_both xs ys c d l1 l2 (by omega) (by omega)
  have HO := Lib.hid ho
  clear ho
  cases o with
  | none =>
    have q0a := (two_cells (HM.out.get (b := w1.heap.size) (o := .cells #[.slice a1 l1 k1, .int .i64 c] 25) (by simp))).1
    have q0b := (two_cells (HM.out.get (b := w1.heap.size) (o := .cells #[.slice a1 l1 k1, .int .i64 c] 25) (by simp))).2
    have q1a := (two_cells (HM.out.get (b := w1.heap.size + 1) (o := .cells #[.slice b1 l2 k2, .int .i64 d] 25) (by simp))).1
    have q1b := (two_cells (HM.out.get (b := w1.heap.size + 1) (o := .cells #[.slice b1 l2 k2, .int .i64 d] 25) (by simp))).2
    go_wp2_with fail
    refine (hI.out a1 b1 k1 k2 _ HX.out HN.out HY.out (HE.out.j.grown HM.out.g)).mono ?_
    rintro e w2 ⟨rfl, hg2⟩
    have HM := Lib.hid ((HM.out.grown hg2).block (.cells #[.slice none 0 0, .int .i64 0] 25))
    have HX := Lib.hid ((HX.out.grown hg2).grown (grown_alloc w2 (.cells #[.slice none 0 0, .int .i64 0] 25) none))
    have HY := Lib.hid ((HY.out.grown hg2).grown (grown_alloc w2 (.cells #[.slice none 0 0, .int .i64 0] 25) none))
    clear q0a q0b q1a q1b hg2
    have q0a := (two_cells (HM.out.get (b := w1.heap.size) (o := .cells #[.slice a1 l1 k1, .int .i64 c] 25) (by simp))).1
    have q0b := (two_cells (HM.out.get (b := w1.heap.size) (o := .cells #[.slice a1 l1 k1, .int .i64 c] 25) (by simp))).2
    have q1a := (two_cells (HM.out.get (b := w1.heap.size + 1) (o := .cells #[.slice b1 l2 k2, .int .i64 d] 25) (by simp))).1
    have q1b := (two_cells (HM.out.get (b := w1.heap.size + 1) (o := .cells #[.slice b1 l2 k2, .int .i64 d] 25) (by simp))).2
    have q2a := (two_cells (HM.out.get (b := w2.heap.size) (o := .cells #[.slice none 0 0, .int .i64 0] 25) (by simp))).1
    have q2b := (two_cells (HM.out.get (b := w2.heap.size) (o := .cells #[.slice none 0 0, .int .i64 0] 25) (by simp))).2
    go_wp2_with fail
    refine (hS.out a1 b1 k1 k2 _ HX.out HN.out HY.out).mono ?_
    rintro e w3 ⟨rfl, hg3⟩
    have HM := Lib.hid ((HM.out.grown hg3).block (.cells #[.slice none 0 0, .int .i64 0] 25))
    have HX := Lib.hid ((HX.out.grown hg3).grown (grown_alloc w3 (.cells #[.slice none 0 0, .int .i64 0] 25) none))
    have HY := Lib.hid ((HY.out.grown hg3).grown (grown_alloc w3 (.cells #[.slice none 0 0, .int .i64 0] 25) none))
    clear q0a q0b q1a q1b q2a q2b hg3
    have q0a := (two_cells (HM.out.get (b := w1.heap.size) (o := .cells #[.slice a1 l1 k1, .int .i64 c] 25) (by simp))).1
    have q0b := (two_cells (HM.out.get (b := w1.heap.size) (o := .cells #[.slice a1 l1 k1, .int .i64 c] 25) (by simp))).2
    have q1a := (two_cells (HM.out.get (b := w1.heap.size + 1) (o := .cells #[.slice b1 l2 k2, .int .i64 d] 25) (by simp))).1
    have q1b := (two_cells (HM.out.get (b := w1.heap.size + 1) (o := .cells #[.slice b1 l2 k2, .int .i64 d] 25) (by simp))).2
    have q2a := (two_cells (HM.out.get (b := w2.heap.size) (o := .cells #[.slice none 0 0, .int .i64 0] 25) (by simp))).1
    have q2b := (two_cells (HM.out.get (b := w2.heap.size) (o := .cells #[.slice none 0 0, .int .i64 0] 25) (by simp))).2
    have q3a := (two_cells (HM.out.get (b := w3.heap.size) (o := .cells #[.slice none 0 0, .int .i64 0] 25) (by simp))).1
    have q3b := (two_cells (HM.out.get (b := w3.heap.size) (o := .cells #[.slice none 0 0, .int .i64 0] 25) (by simp))).2
    go_wp2_with fail
    refine (equalBits_same [] none none 0 0 0 0 _ ⟨rfl, Or.inl rfl⟩ ⟨rfl, Or.inl rfl⟩ (by omega)).mono ?_
    rintro e w4 ⟨rfl, hg4⟩
    have HM := Lib.hid (HM.out.grown hg4)
    have HX := Lib.hid ((HX.out.grown hg4))
    have HY := Lib.hid ((HY.out.grown hg4))
    clear q0a q0b q1a q1b q2a q2b q3a q3b hg4
    have q0a := (two_cells (HM.out.get (b := w1.heap.size) (o := .cells #[.slice a1 l1 k1, .int .i64 c] 25) (by simp))).1
    have q0b := (two_cells (HM.out.get (b := w1.heap.size) (o := .cells #[.slice a1 l1 k1, .int .i64 c] 25) (by simp))).2
    have q1a := (two_cells (HM.out.get (b := w1.heap.size + 1) (o := .cells #[.slice b1 l2 k2, .int .i64 d] 25) (by simp))).1
    have q1b := (two_cells (HM.out.get (b := w1.heap.size + 1) (o := .cells #[.slice b1 l2 k2, .int .i64 d] 25) (by simp))).2
    have q2a := (two_cells (HM.out.get (b := w2.heap.size) (o := .cells #[.slice none 0 0, .int .i64 0] 25) (by simp))).1
    have q2b := (two_cells (HM.out.get (b := w2.heap.size) (o := .cells #[.slice none 0 0, .int .i64 0] 25) (by simp))).2
    have q3a := (two_cells (HM.out.get (b := w3.heap.size) (o := .cells #[.slice none 0 0, .int .i64 0] 25) (by simp))).1
    have q3b := (two_cells (HM.out.get (b := w3.heap.size) (o := .cells #[.slice none 0 0, .int .i64 0] 25) (by simp))).2
    go_wp2_with fail
    refine (equalBits_same [] none none 0 0 0 0 _ ⟨rfl, Or.inl rfl⟩ ⟨rfl, Or.inl rfl⟩ (by omega)).mono ?_
    rintro e w5 ⟨rfl, hg5⟩
    have HM := Lib.hid (HM.out.grown hg5)
    have HX := Lib.hid ((HX.out.grown hg5))
    have HY := Lib.hid ((HY.out.grown hg5))
    clear q0a q0b q1a q1b q2a q2b q3a q3b hg5
    go_wp2
    go_ret
    exact ⟨rfl, grown_trans HG1.out HM.out.g⟩
  | some rs =>
    obtain ⟨us, bs, hxs, hcc, hys, hdd, hroom, hrs⟩ := hC.out rs rfl
    obtain ⟨mu, hmu⟩ : ∃ mu, us.length = mu := ⟨_, rfl⟩
    obtain ⟨mb, hmb⟩ : ∃ mb, bs.length = mb := ⟨_, rfl⟩
    rw [hmu] at hcc hroom
    rw [hmb] at hdd hroom
    subst hcc
    subst hdd
    subst hxs
    subst hys
    obtain ⟨m, hm⟩ : ∃ m, rs.length = m := ⟨_, rfl⟩
    obtain ⟨n, hn⟩ : ∃ n, (m + 7) / 8 = n := ⟨_, rfl⟩
    have hml : m = mu + mb := by rw [← hm, hrs, List.length_append, hmb, hmu]
    have hl1e : (mu + 7) / 8 = l1 := by have := HX.out.1; rw [pk_len, hmu] at this; exact this
    have hl2e : (mb + 7) / 8 = l2 := by have := HY.out.1; rw [pk_len, hmb] at this; exact this
    have HL := Lib.hid (And.intro hm hn)
    have HU := Lib.hid (And.intro hmu hl1e)
    have HB := Lib.hid (And.intro hmb hl2e)
    have HML := Lib.hid hml
    have HRS := Lib.hid hrs
    have hn2 : n ≤ 2048 := by omega
    have hmb2 : mu + mb ≤ 16384 := hroom
    have hm16 : m ≤ 16384 := by omega
    clear hrs hm hn hml hl1e hl2e hmu hmb hroom HO
    have q0a := (two_cells (HM.out.get (b := w1.heap.size) (o := .cells #[.slice a1 l1 k1, .int .i64 (mu : Int)] 25) (by simp))).1
    have q0b := (two_cells (HM.out.get (b := w1.heap.size) (o := .cells #[.slice a1 l1 k1, .int .i64 (mu : Int)] 25) (by simp))).2
    have q1a := (two_cells (HM.out.get (b := w1.heap.size + 1) (o := .cells #[.slice b1 l2 k2, .int .i64 (mb : Int)] 25) (by simp))).1
    have q1b := (two_cells (HM.out.get (b := w1.heap.size + 1) (o := .cells #[.slice b1 l2 k2, .int .i64 (mb : Int)] 25) (by simp))).2
    go_wp2_with fail
    refine (hI.out a1 b1 k1 k2 _ HX.out HN.out HY.out (HE.out.j.grown HM.out.g)).mono ?_
    rintro e w2 ⟨v2, rfl, ho2, hg2⟩
    rw [HL.out.1]
    rw [HL.out.1, HL.out.2] at ho2
    obtain ⟨p2, c2, rfl, _, hn2, hx2, _⟩ := ho2.reads
    have HM := Lib.hid ((HM.out.grown hg2).block (.cells #[.slice p2 n c2, .int .i64 (m : Int)] 25))
    have H2 := Lib.hid (hx2.grown (grown_alloc w2 (.cells #[.slice p2 n c2, .int .i64 (m : Int)] 25) none))
    have H2n := Lib.hid hn2
    have HX := Lib.hid ((HX.out.grown hg2).grown (grown_alloc w2 (.cells #[.slice p2 n c2, .int .i64 (m : Int)] 25) none))
    have HY := Lib.hid ((HY.out.grown hg2).grown (grown_alloc w2 (.cells #[.slice p2 n c2, .int .i64 (m : Int)] 25) none))
    clear q0a q0b q1a q1b hg2 ho2 hx2 hn2
    have q0a := (two_cells (HM.out.get (b := w1.heap.size) (o := .cells #[.slice a1 l1 k1, .int .i64 (mu : Int)] 25) (by simp))).1
    have q0b := (two_cells (HM.out.get (b := w1.heap.size) (o := .cells #[.slice a1 l1 k1, .int .i64 (mu : Int)] 25) (by simp))).2
    have q1a := (two_cells (HM.out.get (b := w1.heap.size + 1) (o := .cells #[.slice b1 l2 k2, .int .i64 (mb : Int)] 25) (by simp))).1
    have q1b := (two_cells (HM.out.get (b := w1.heap.size + 1) (o := .cells #[.slice b1 l2 k2, .int .i64 (mb : Int)] 25) (by simp))).2
    have q2a := (two_cells (HM.out.get (b := w2.heap.size) (o := .cells #[.slice p2 n c2, .int .i64 (m : Int)] 25) (by simp))).1
    have q2b := (two_cells (HM.out.get (b := w2.heap.size) (o := .cells #[.slice p2 n c2, .int .i64 (m : Int)] 25) (by simp))).2
    go_wp2_with fail
    refine (hS.out a1 b1 k1 k2 _ HX.out HN.out HY.out).mono ?_
    rintro e w3 ⟨v3, rfl, ho3, hg3⟩
    rw [HL.out.1]
    rw [HL.out.1, HL.out.2] at ho3
    obtain ⟨p3, c3, rfl, _, hn3, hx3, _⟩ := ho3.reads
    have HM := Lib.hid ((HM.out.grown hg3).block (.cells #[.slice p3 n c3, .int .i64 (m : Int)] 25))
    have H3 := Lib.hid (hx3.grown (grown_alloc w3 (.cells #[.slice p3 n c3, .int .i64 (m : Int)] 25) none))
    have H3n := Lib.hid hn3
    have HX := Lib.hid ((HX.out.grown hg3).grown (grown_alloc w3 (.cells #[.slice p3 n c3, .int .i64 (m : Int)] 25) none))
    have HY := Lib.hid ((HY.out.grown hg3).grown (grown_alloc w3 (.cells #[.slice p3 n c3, .int .i64 (m : Int)] 25) none))
    have H2 := Lib.hid ((H2.out.grown hg3).grown (grown_alloc w3 (.cells #[.slice p3 n c3, .int .i64 (m : Int)] 25) none))
    clear q0a q0b q1a q1b q2a q2b hg3 ho3 hx3 hn3
    have q0a := (two_cells (HM.out.get (b := w1.heap.size) (o := .cells #[.slice a1 l1 k1, .int .i64 (mu : Int)] 25) (by simp))).1
    have q0b := (two_cells (HM.out.get (b := w1.heap.size) (o := .cells #[.slice a1 l1 k1, .int .i64 (mu : Int)] 25) (by simp))).2
    have q1a := (two_cells (HM.out.get (b := w1.heap.size + 1) (o := .cells #[.slice b1 l2 k2, .int .i64 (mb : Int)] 25) (by simp))).1
    have q1b := (two_cells (HM.out.get (b := w1.heap.size + 1) (o := .cells #[.slice b1 l2 k2, .int .i64 (mb : Int)] 25) (by simp))).2
    have q2a := (two_cells (HM.out.get (b := w2.heap.size) (o := .cells #[.slice p2 n c2, .int .i64 (m : Int)] 25) (by simp))).1
    have q2b := (two_cells (HM.out.get (b := w2.heap.size) (o := .cells #[.slice p2 n c2, .int .i64 (m : Int)] 25) (by simp))).2
    have q3a := (two_cells (HM.out.get (b := w3.heap.size) (o := .cells #[.slice p3 n c3, .int .i64 (m : Int)] 25) (by simp))).1
    have q3b := (two_cells (HM.out.get (b := w3.heap.size) (o := .cells #[.slice p3 n c3, .int .i64 (m : Int)] 25) (by simp))).2
    go_wp2_with fail
    refine (equalBits_same (pk rs) p2 p3 n c2 c3 (m : Int) _ H2.out H3.out (by omega)).mono ?_
    rintro e w4 ⟨rfl, hg4⟩
    have HM := Lib.hid (HM.out.grown hg4)
    have HX := Lib.hid ((HX.out.grown hg4))
    have HY := Lib.hid ((HY.out.grown hg4))
    have H2 := Lib.hid ((H2.out.grown hg4))
    have H3 := Lib.hid ((H3.out.grown hg4))
    clear q0a q0b q1a q1b q2a q2b q3a q3b hg4
    have hq : ((m : Int) == (mu : Int) + (mb : Int)) = true := by have := HML.out; simp; omega
    have HQ := Lib.hid hq
    clear hq hS hI hA hC
    go_wp2_with fail
    go_loopw [9] (fun iv wr => ∃ k : Nat, k ≤ m ∧ iv = .int .i64 (k : Int) ∧ Hid (Mem w1 wr ([] ++ [(w1.heap.size, Obj.cells #[.slice a1 l1 k1, .int .i64 (mu : Int)] 25)] ++ [(w1.heap.size + 1, Obj.cells #[.slice b1 l2 k2, .int .i64 (mb : Int)] 25)] ++ [(w2.heap.size, Obj.cells #[.slice p2 n c2, .int .i64 (m : Int)] 25)] ++ [(w3.heap.size, Obj.cells #[.slice p3 n c3, .int .i64 (m : Int)] 25)])) ∧ Hid (Ints wr a1 l1 (pk us)) ∧ Hid (Ints wr b1 l2 (pk bs)) ∧ Hid (Ints wr p2 n (pk rs))) (fun iv _ => m - (intOf iv).toNat)
    case atStart => exact ⟨0, Nat.zero_le _, rfl, Lib.hid (HM.out.cast (by simp)), HX, HY, H2⟩
    case round =>
      obtain ⟨k, hk, rfl, HMk, HXk, HYk, H2k⟩ := hrel
      by_cases hlt : k < m
      · have hd : decide ((k : Int) < (m : Int)) = true := by simp; omega
        obtain ⟨y, hy⟩ : ∃ y, cb rs k = y := ⟨_, rfl⟩
        have HY1 : Hid (numV rs k 1 = y) := by show _ = _; rw [numV_cb]; exact hy
        have HYc := Lib.hid hy
        clear hy
        have q0a := (two_cells (HMk.out.get (b := w1.heap.size) (o := .cells #[.slice a1 l1 k1, .int .i64 (mu : Int)] 25) (by simp))).1
        have q0b := (two_cells (HMk.out.get (b := w1.heap.size) (o := .cells #[.slice a1 l1 k1, .int .i64 (mu : Int)] 25) (by simp))).2
        have q1a := (two_cells (HMk.out.get (b := w1.heap.size + 1) (o := .cells #[.slice b1 l2 k2, .int .i64 (mb : Int)] 25) (by simp))).1
        have q1b := (two_cells (HMk.out.get (b := w1.heap.size + 1) (o := .cells #[.slice b1 l2 k2, .int .i64 (mb : Int)] 25) (by simp))).2
        have q2a := (two_cells (HMk.out.get (b := w2.heap.size) (o := .cells #[.slice p2 n c2, .int .i64 (m : Int)] 25) (by simp))).1
        have q2b := (two_cells (HMk.out.get (b := w2.heap.size) (o := .cells #[.slice p2 n c2, .int .i64 (m : Int)] 25) (by simp))).2
        have q3a := (two_cells (HMk.out.get (b := w3.heap.size) (o := .cells #[.slice p3 n c3, .int .i64 (m : Int)] 25) (by simp))).1
        have q3b := (two_cells (HMk.out.get (b := w3.heap.size) (o := .cells #[.slice p3 n c3, .int .i64 (m : Int)] 25) (by simp))).2
        go_wp2_with fail
        refine (iGet_eq rs (pk rs) (m : Int) (k : Int) 1 k 1 p2 n c2 _ H2k.out rfl (by rw [HL.out.1]) rfl rfl (by rw [HL.out.1]; have := HML.out; omega) (by omega) (by rw [HL.out.1]; omega) (HE.out.q.grown HMk.out.g)).mono ?_
        rintro e w5 ⟨rfl, hg5⟩
        rw [HY1.out]
        have HMk := Lib.hid (HMk.out.grown hg5)
        have HXk := Lib.hid ((HXk.out.grown hg5))
        have HYk := Lib.hid ((HYk.out.grown hg5))
        have H2k := Lib.hid ((H2k.out.grown hg5))
        clear q0a q0b q1a q1b q2a q2b q3a q3b hg5
        by_cases hu : k < mu
        · have HY2 : Hid (numV us k 1 = y) := by show _ = _; rw [numV_cb, ← HYc.out, HRS.out]; exact (cb_app_front (by rw [HU.out.1]; exact hu)).symm
          have hd2 : decide ((mu : Int) ≤ (k : Int)) = false := by simp; omega
          have q0a := (two_cells (HMk.out.get (b := w1.heap.size) (o := .cells #[.slice a1 l1 k1, .int .i64 (mu : Int)] 25) (by simp))).1
          have q0b := (two_cells (HMk.out.get (b := w1.heap.size) (o := .cells #[.slice a1 l1 k1, .int .i64 (mu : Int)] 25) (by simp))).2
          have q1a := (two_cells (HMk.out.get (b := w1.heap.size + 1) (o := .cells #[.slice b1 l2 k2, .int .i64 (mb : Int)] 25) (by simp))).1
          have q1b := (two_cells (HMk.out.get (b := w1.heap.size + 1) (o := .cells #[.slice b1 l2 k2, .int .i64 (mb : Int)] 25) (by simp))).2
          have q2a := (two_cells (HMk.out.get (b := w2.heap.size) (o := .cells #[.slice p2 n c2, .int .i64 (m : Int)] 25) (by simp))).1
          have q2b := (two_cells (HMk.out.get (b := w2.heap.size) (o := .cells #[.slice p2 n c2, .int .i64 (m : Int)] 25) (by simp))).2
          have q3a := (two_cells (HMk.out.get (b := w3.heap.size) (o := .cells #[.slice p3 n c3, .int .i64 (m : Int)] 25) (by simp))).1
          have q3b := (two_cells (HMk.out.get (b := w3.heap.size) (o := .cells #[.slice p3 n c3, .int .i64 (m : Int)] 25) (by simp))).2
          go_wp2_with fail
          refine (iGet_eq us (pk us) (mu : Int) (k : Int) 1 k 1 a1 l1 k1 _ HXk.out rfl (by rw [HU.out.1]) rfl rfl (by rw [HU.out.1]; omega) (by omega) (by rw [HU.out.1]; omega) (HE.out.q.grown HMk.out.g)).mono ?_
          rintro e w6 ⟨rfl, hg6⟩
          rw [HY2.out]
          have HMk := Lib.hid (HMk.out.grown hg6)
          have HXk := Lib.hid ((HXk.out.grown hg6))
          have HYk := Lib.hid ((HYk.out.grown hg6))
          have H2k := Lib.hid ((H2k.out.grown hg6))
          clear q0a q0b q1a q1b q2a q2b q3a q3b hg6
          have q0a := (two_cells (HMk.out.get (b := w1.heap.size) (o := .cells #[.slice a1 l1 k1, .int .i64 (mu : Int)] 25) (by simp))).1
          have q0b := (two_cells (HMk.out.get (b := w1.heap.size) (o := .cells #[.slice a1 l1 k1, .int .i64 (mu : Int)] 25) (by simp))).2
          have q1a := (two_cells (HMk.out.get (b := w1.heap.size + 1) (o := .cells #[.slice b1 l2 k2, .int .i64 (mb : Int)] 25) (by simp))).1
          have q1b := (two_cells (HMk.out.get (b := w1.heap.size + 1) (o := .cells #[.slice b1 l2 k2, .int .i64 (mb : Int)] 25) (by simp))).2
          have q2a := (two_cells (HMk.out.get (b := w2.heap.size) (o := .cells #[.slice p2 n c2, .int .i64 (m : Int)] 25) (by simp))).1
          have q2b := (two_cells (HMk.out.get (b := w2.heap.size) (o := .cells #[.slice p2 n c2, .int .i64 (m : Int)] 25) (by simp))).2
          have q3a := (two_cells (HMk.out.get (b := w3.heap.size) (o := .cells #[.slice p3 n c3, .int .i64 (m : Int)] 25) (by simp))).1
          have q3b := (two_cells (HMk.out.get (b := w3.heap.size) (o := .cells #[.slice p3 n c3, .int .i64 (m : Int)] 25) (by simp))).2
          go_wp2
          go_roundw
          case rel => exact ⟨k + 1, by omega, by go_num, HMk, HXk, HYk, H2k⟩
          case measure => simp [intOf]; omega
        · have HY2 : Hid (numV bs (k - mu) 1 = y) := by show _ = _; rw [numV_cb, ← HYc.out, HRS.out]; have h := cb_app_back (us := us) (bs := bs) (i := k) (by rw [HU.out.1]; omega); rw [HU.out.1] at h; exact h.symm
          have hd2 : decide ((mu : Int) ≤ (k : Int)) = true := by simp; omega
          obtain ⟨g0, gok, _, hG⟩ := get_both (pk us) (mu : Int) (k : Int) 1 l1 (by omega)
          have q0a := (two_cells (HMk.out.get (b := w1.heap.size) (o := .cells #[.slice a1 l1 k1, .int .i64 (mu : Int)] 25) (by simp))).1
          have q0b := (two_cells (HMk.out.get (b := w1.heap.size) (o := .cells #[.slice a1 l1 k1, .int .i64 (mu : Int)] 25) (by simp))).2
          have q1a := (two_cells (HMk.out.get (b := w1.heap.size + 1) (o := .cells #[.slice b1 l2 k2, .int .i64 (mb : Int)] 25) (by simp))).1
          have q1b := (two_cells (HMk.out.get (b := w1.heap.size + 1) (o := .cells #[.slice b1 l2 k2, .int .i64 (mb : Int)] 25) (by simp))).2
          have q2a := (two_cells (HMk.out.get (b := w2.heap.size) (o := .cells #[.slice p2 n c2, .int .i64 (m : Int)] 25) (by simp))).1
          have q2b := (two_cells (HMk.out.get (b := w2.heap.size) (o := .cells #[.slice p2 n c2, .int .i64 (m : Int)] 25) (by simp))).2
          have q3a := (two_cells (HMk.out.get (b := w3.heap.size) (o := .cells #[.slice p3 n c3, .int .i64 (m : Int)] 25) (by simp))).1
          have q3b := (two_cells (HMk.out.get (b := w3.heap.size) (o := .cells #[.slice p3 n c3, .int .i64 (m : Int)] 25) (by simp))).2
          go_wp2_with fail
          refine (hG.out a1 k1 _ HXk.out (HE.out.q.grown HMk.out.g)).mono ?_
          rintro e w6 ⟨rfl, hg6⟩
          have HMk := Lib.hid (HMk.out.grown hg6)
          have HXk := Lib.hid ((HXk.out.grown hg6))
          have HYk := Lib.hid ((HYk.out.grown hg6))
          have H2k := Lib.hid ((H2k.out.grown hg6))
          clear q0a q0b q1a q1b q2a q2b q3a q3b hg6
          have q0a := (two_cells (HMk.out.get (b := w1.heap.size) (o := .cells #[.slice a1 l1 k1, .int .i64 (mu : Int)] 25) (by simp))).1
          have q0b := (two_cells (HMk.out.get (b := w1.heap.size) (o := .cells #[.slice a1 l1 k1, .int .i64 (mu : Int)] 25) (by simp))).2
          have q1a := (two_cells (HMk.out.get (b := w1.heap.size + 1) (o := .cells #[.slice b1 l2 k2, .int .i64 (mb : Int)] 25) (by simp))).1
          have q1b := (two_cells (HMk.out.get (b := w1.heap.size + 1) (o := .cells #[.slice b1 l2 k2, .int .i64 (mb : Int)] 25) (by simp))).2
          have q2a := (two_cells (HMk.out.get (b := w2.heap.size) (o := .cells #[.slice p2 n c2, .int .i64 (m : Int)] 25) (by simp))).1
          have q2b := (two_cells (HMk.out.get (b := w2.heap.size) (o := .cells #[.slice p2 n c2, .int .i64 (m : Int)] 25) (by simp))).2
          have q3a := (two_cells (HMk.out.get (b := w3.heap.size) (o := .cells #[.slice p3 n c3, .int .i64 (m : Int)] 25) (by simp))).1
          have q3b := (two_cells (HMk.out.get (b := w3.heap.size) (o := .cells #[.slice p3 n c3, .int .i64 (m : Int)] 25) (by simp))).2
          go_wp2_with fail
          refine (iGet_eq bs (pk bs) (mb : Int) ((k : Int) - (mu : Int)) 1 (k - mu) 1 b1 l2 k2 _ HYk.out rfl (by rw [HB.out.1]) (by omega) rfl (by rw [HB.out.1]; omega) (by omega) (by rw [HB.out.1]; have := HML.out; omega) (HE.out.q.grown HMk.out.g)).mono ?_
          rintro e w7 ⟨rfl, hg7⟩
          rw [HY2.out]
          have HMk := Lib.hid (HMk.out.grown hg7)
          have HXk := Lib.hid ((HXk.out.grown hg7))
          have HYk := Lib.hid ((HYk.out.grown hg7))
          have H2k := Lib.hid ((H2k.out.grown hg7))
          clear q0a q0b q1a q1b q2a q2b q3a q3b hg7
          have q0a := (two_cells (HMk.out.get (b := w1.heap.size) (o := .cells #[.slice a1 l1 k1, .int .i64 (mu : Int)] 25) (by simp))).1
          have q0b := (two_cells (HMk.out.get (b := w1.heap.size) (o := .cells #[.slice a1 l1 k1, .int .i64 (mu : Int)] 25) (by simp))).2
          have q1a := (two_cells (HMk.out.get (b := w1.heap.size + 1) (o := .cells #[.slice b1 l2 k2, .int .i64 (mb : Int)] 25) (by simp))).1
          have q1b := (two_cells (HMk.out.get (b := w1.heap.size + 1) (o := .cells #[.slice b1 l2 k2, .int .i64 (mb : Int)] 25) (by simp))).2
          have q2a := (two_cells (HMk.out.get (b := w2.heap.size) (o := .cells #[.slice p2 n c2, .int .i64 (m : Int)] 25) (by simp))).1
          have q2b := (two_cells (HMk.out.get (b := w2.heap.size) (o := .cells #[.slice p2 n c2, .int .i64 (m : Int)] 25) (by simp))).2
          have q3a := (two_cells (HMk.out.get (b := w3.heap.size) (o := .cells #[.slice p3 n c3, .int .i64 (m : Int)] 25) (by simp))).1
          have q3b := (two_cells (HMk.out.get (b := w3.heap.size) (o := .cells #[.slice p3 n c3, .int .i64 (m : Int)] 25) (by simp))).2
          go_wp2
          go_roundw
          case rel => exact ⟨k + 1, by omega, by go_num, HMk, HXk, HYk, H2k⟩
          case measure => simp [intOf]; omega
      · obtain rfl : k = m := by omega
        have hd : decide ((k : Int) < (k : Int)) = false := by simp
        have hq := HQ.out
        have q0a := (two_cells (HMk.out.get (b := w1.heap.size) (o := .cells #[.slice a1 l1 k1, .int .i64 (mu : Int)] 25) (by simp))).1
        have q0b := (two_cells (HMk.out.get (b := w1.heap.size) (o := .cells #[.slice a1 l1 k1, .int .i64 (mu : Int)] 25) (by simp))).2
        have q1a := (two_cells (HMk.out.get (b := w1.heap.size + 1) (o := .cells #[.slice b1 l2 k2, .int .i64 (mb : Int)] 25) (by simp))).1
        have q1b := (two_cells (HMk.out.get (b := w1.heap.size + 1) (o := .cells #[.slice b1 l2 k2, .int .i64 (mb : Int)] 25) (by simp))).2
        have q2a := (two_cells (HMk.out.get (b := w2.heap.size) (o := .cells #[.slice p2 n c2, .int .i64 (k : Int)] 25) (by simp))).1
        have q2b := (two_cells (HMk.out.get (b := w2.heap.size) (o := .cells #[.slice p2 n c2, .int .i64 (k : Int)] 25) (by simp))).2
        have q3a := (two_cells (HMk.out.get (b := w3.heap.size) (o := .cells #[.slice p3 n c3, .int .i64 (k : Int)] 25) (by simp))).1
        have q3b := (two_cells (HMk.out.get (b := w3.heap.size) (o := .cells #[.slice p3 n c3, .int .i64 (k : Int)] 25) (by simp))).2
        go_wp2
        go_ret
        exact ⟨rfl, grown_trans HG1.out HMk.out.g⟩

end Go.Proofs.YtcgcippniicaaaaDoor
