/-
  JoinBits of the specification; both texts give one result.
-/
import Derived.Test.YtcgcippniicaaaaDoorSJoin
import Derived.IntWalk
namespace Go.Proofs.YtcgcippniicaaaaDoor
open Go.RowKit

theorem pk_inj {a b : List Bool} (h : pk a = pk b) (hl : a.length = b.length) : a = b := by
  apply List.ext_getElem?
  intro i
  by_cases hi : i < a.length
  · have e1 := byte_bit a i
    have e2 := byte_bit b i
    have g1 := pk_getD (bs := a) (k := i / 8) (by omega)
    have g2 := pk_getD (bs := b) (k := i / 8) (by omega)
    rw [h] at g1
    rw [g2] at g1
    rw [← g1, e2] at e1
    unfold cb at e1
    rw [List.getD_eq_getElem?_getD, List.getD_eq_getElem?_getD, List.getElem?_eq_getElem hi, List.getElem?_eq_getElem (by omega)] at e1
    rw [List.getElem?_eq_getElem hi, List.getElem?_eq_getElem (by omega)]
    simp only [Option.getD_some] at e1
    cases ha : a[i] <;> cases hb : b[i] <;> simp_all
  · rw [List.getElem?_eq_none (by omega), List.getElem?_eq_none (by omega)]

set_option maxRecDepth 100000 in
set_option maxHeartbeats 4000000 in
theorem sJoin_inv1 (xs ys : List Int) (c d : Int) (ao bo : Option Addr) (la ca lb cb_ : Nat) (w : World) (hx : Ints w ao la xs) (hy : Ints w bo lb ys) (hla : la ≤ 4194304) (hlb : lb ≤ 4194304) (hva : VB xs c = false) :
    Calls Tryd.prog 22 #[.agg #[.slice ao la ca, .int .i64 c], .agg #[.slice bo lb cb_, .int .i64 d]] w (GaveNone w) := by
  have HX := Lib.hid hx
  have HY := Lib.hid hy
  have HVa := Lib.hid hva
  clear hx hy hva
  have HMb := Lib.hid ((((Mem.start w).block (.cells #[.slice ao la ca, .int .i64 c] 25)).block (.cells #[.slice bo lb cb_, .int .i64 d] 25)).block (.cells #[.slice none 0 0, .int .i64 0] 25))
  have q0 := (two_cells (HMb.out.get (b := w.heap.size) (o := (.cells #[.slice ao la ca, .int .i64 c] 25)) (by simp))).1
  have q1 := (two_cells (HMb.out.get (b := w.heap.size) (o := (.cells #[.slice ao la ca, .int .i64 c] 25)) (by simp))).2
  have q2 := (two_cells (HMb.out.get (b := w.heap.size + 1) (o := (.cells #[.slice bo lb cb_, .int .i64 d] 25)) (by simp))).1
  have q3 := (two_cells (HMb.out.get (b := w.heap.size + 1) (o := (.cells #[.slice bo lb cb_, .int .i64 d] 25)) (by simp))).2
  go_enter Tryd.func22, Tryd.ntmps22
  go_wp2_with fail
  refine (sValidBits xs ao la ca c false _ (HX.out.grown HMb.out.g) (by omega) HVa.out).mono ?_
  rintro e w2 ⟨rfl, hg2⟩
  have HM2 := Lib.hid (HMb.out.grown hg2)
  have hS0 := hg2.cell q0 (by simp)
  have hS1 := hg2.cell q1 (by simp)
  have hS2 := hg2.cell q2 (by simp)
  have hS3 := hg2.cell q3 (by simp)
  clear hg2
  clear q0 q1 q2 q3
  have hA := HM2.out.get (b := w.heap.size + 2) (o := (.cells #[.slice none 0 0, .int .i64 0] 25)) (by simp)
  have r0 := (two_cells hA).1
  have r1 := (two_cells hA).2
  have f0 : w2.frozen? ⟨w.heap.size + 2, 0, none⟩ = false := frozen_of_row w2 _ 0 _ _ hA
  have f1 : w2.frozen? ⟨w.heap.size + 2, 1, none⟩ = false := frozen_of_row w2 _ 1 _ _ hA
  have R : Hid (w.grownBy ((w2.setCell ⟨w.heap.size + 2, 0, none⟩ (.slice none 0 0)).setCell ⟨w.heap.size + 2, 1, none⟩ (.int .i64 0)) none) := grown_set (grown_set HM2.out.g (by simp)) (by simp)
  have hz := block_lt hA
  clear hA hS0 hS1 hS2 hS3 HM2 HMb
  go_wp2
  exact bodyPost_ret (v := .tuple #[.agg #[.slice none 0 0, .int .i64 0], .bool false]) (by simp [results, Tryd.results22, go_sem, r0, r1]) rfl ⟨rfl, R.out⟩

set_option maxRecDepth 100000 in
set_option maxHeartbeats 4000000 in
theorem sJoin_inv2 (xs ys : List Int) (c d : Int) (ao bo : Option Addr) (la ca lb cb_ : Nat) (w : World) (hx : Ints w ao la xs) (hy : Ints w bo lb ys) (hla : la ≤ 4194304) (hlb : lb ≤ 4194304) (hva : VB xs c = true) (hvb : VB ys d = false) :
    Calls Tryd.prog 22 #[.agg #[.slice ao la ca, .int .i64 c], .agg #[.slice bo lb cb_, .int .i64 d]] w (GaveNone w) := by
  have HX := Lib.hid hx
  have HY := Lib.hid hy
  have HVa := Lib.hid hva
  have HVb := Lib.hid hvb
  clear hx hy hva hvb
  have HMb := Lib.hid ((((Mem.start w).block (.cells #[.slice ao la ca, .int .i64 c] 25)).block (.cells #[.slice bo lb cb_, .int .i64 d] 25)).block (.cells #[.slice none 0 0, .int .i64 0] 25))
  have q0 := (two_cells (HMb.out.get (b := w.heap.size) (o := (.cells #[.slice ao la ca, .int .i64 c] 25)) (by simp))).1
  have q1 := (two_cells (HMb.out.get (b := w.heap.size) (o := (.cells #[.slice ao la ca, .int .i64 c] 25)) (by simp))).2
  have q2 := (two_cells (HMb.out.get (b := w.heap.size + 1) (o := (.cells #[.slice bo lb cb_, .int .i64 d] 25)) (by simp))).1
  have q3 := (two_cells (HMb.out.get (b := w.heap.size + 1) (o := (.cells #[.slice bo lb cb_, .int .i64 d] 25)) (by simp))).2
  go_enter Tryd.func22, Tryd.ntmps22
  go_wp2_with fail
  refine (sValidBits xs ao la ca c true _ (HX.out.grown HMb.out.g) (by omega) HVa.out).mono ?_
  rintro e w2 ⟨rfl, hg2⟩
  have HM2 := Lib.hid (HMb.out.grown hg2)
  have hS0 := hg2.cell q0 (by simp)
  have hS1 := hg2.cell q1 (by simp)
  have hS2 := hg2.cell q2 (by simp)
  have hS3 := hg2.cell q3 (by simp)
  clear hg2
  clear q0 q1 q2 q3
  go_wp2_with fail
  refine (sValidBits ys bo lb cb_ d false _ (HY.out.grown HM2.out.g) (by omega) HVb.out).mono ?_
  rintro e w3 ⟨rfl, hg3⟩
  have HM3 := Lib.hid (HM2.out.grown hg3)
  have hT0 := hg3.cell hS0 (by simp)
  have hT1 := hg3.cell hS1 (by simp)
  have hT2 := hg3.cell hS2 (by simp)
  have hT3 := hg3.cell hS3 (by simp)
  clear hg3
  clear hS0 hS1 hS2 hS3
  have hA := HM3.out.get (b := w.heap.size + 2) (o := (.cells #[.slice none 0 0, .int .i64 0] 25)) (by simp)
  have r0 := (two_cells hA).1
  have r1 := (two_cells hA).2
  have f0 : w3.frozen? ⟨w.heap.size + 2, 0, none⟩ = false := frozen_of_row w3 _ 0 _ _ hA
  have f1 : w3.frozen? ⟨w.heap.size + 2, 1, none⟩ = false := frozen_of_row w3 _ 1 _ _ hA
  have R : Hid (w.grownBy ((w3.setCell ⟨w.heap.size + 2, 0, none⟩ (.slice none 0 0)).setCell ⟨w.heap.size + 2, 1, none⟩ (.int .i64 0)) none) := grown_set (grown_set HM3.out.g (by simp)) (by simp)
  have hz := block_lt hA
  clear hA hT0 hT1 hT2 hT3 HM3 HM2 HMb
  go_wp2
  exact bodyPost_ret (v := .tuple #[.agg #[.slice none 0 0, .int .i64 0], .bool false]) (by simp [results, Tryd.results22, go_sem, r0, r1]) rfl ⟨rfl, R.out⟩

set_option maxRecDepth 100000 in
set_option maxHeartbeats 4000000 in
theorem sJoin_room (xs ys : List Int) (m n : Nat) (ao bo : Option Addr) (la ca lb cb_ : Nat) (w : World) (hx : Ints w ao la xs) (hy : Ints w bo lb ys) (hla : la ≤ 4194304) (hlb : lb ≤ 4194304) (hva : VB xs (m : Int) = true) (hvb : VB ys (n : Int) = true) (hmb : m ≤ 16384) (hnb : n ≤ 16384) (hr : 16384 < m + n) :
    Calls Tryd.prog 22 #[.agg #[.slice ao la ca, .int .i64 (m : Int)], .agg #[.slice bo lb cb_, .int .i64 (n : Int)]] w (GaveNone w) := by
  have HX := Lib.hid hx
  have HY := Lib.hid hy
  have HVa := Lib.hid hva
  have HVb := Lib.hid hvb
  have hd : decide (16384 < (m : Int) + (n : Int)) = true := by simp; omega
  have hw0 : IntKind.i64.wrap ((m : Int) + (n : Int)) = (m : Int) + (n : Int) := IntWalk.i64_in _ (by omega)
  clear hx hy hva hvb
  have HMb := Lib.hid ((((Mem.start w).block (.cells #[.slice ao la ca, .int .i64 (m : Int)] 25)).block (.cells #[.slice bo lb cb_, .int .i64 (n : Int)] 25)).block (.cells #[.slice none 0 0, .int .i64 0] 25))
  have q0 := (two_cells (HMb.out.get (b := w.heap.size) (o := (.cells #[.slice ao la ca, .int .i64 (m : Int)] 25)) (by simp))).1
  have q1 := (two_cells (HMb.out.get (b := w.heap.size) (o := (.cells #[.slice ao la ca, .int .i64 (m : Int)] 25)) (by simp))).2
  have q2 := (two_cells (HMb.out.get (b := w.heap.size + 1) (o := (.cells #[.slice bo lb cb_, .int .i64 (n : Int)] 25)) (by simp))).1
  have q3 := (two_cells (HMb.out.get (b := w.heap.size + 1) (o := (.cells #[.slice bo lb cb_, .int .i64 (n : Int)] 25)) (by simp))).2
  go_enter Tryd.func22, Tryd.ntmps22
  go_wp2_with fail
  refine (sValidBits xs ao la ca (m : Int) true _ (HX.out.grown HMb.out.g) (by omega) HVa.out).mono ?_
  rintro e w2 ⟨rfl, hg2⟩
  have HM2 := Lib.hid (HMb.out.grown hg2)
  have hS0 := hg2.cell q0 (by simp)
  have hS1 := hg2.cell q1 (by simp)
  have hS2 := hg2.cell q2 (by simp)
  have hS3 := hg2.cell q3 (by simp)
  clear hg2
  clear q0 q1 q2 q3
  go_wp2_with fail
  refine (sValidBits ys bo lb cb_ (n : Int) true _ (HY.out.grown HM2.out.g) (by omega) HVb.out).mono ?_
  rintro e w3 ⟨rfl, hg3⟩
  have HM3 := Lib.hid (HM2.out.grown hg3)
  have hT0 := hg3.cell hS0 (by simp)
  have hT1 := hg3.cell hS1 (by simp)
  have hT2 := hg3.cell hS2 (by simp)
  have hT3 := hg3.cell hS3 (by simp)
  clear hg3
  clear hS0 hS1 hS2 hS3
  have hA := HM3.out.get (b := w.heap.size + 2) (o := (.cells #[.slice none 0 0, .int .i64 0] 25)) (by simp)
  have r0 := (two_cells hA).1
  have r1 := (two_cells hA).2
  have f0 : w3.frozen? ⟨w.heap.size + 2, 0, none⟩ = false := frozen_of_row w3 _ 0 _ _ hA
  have f1 : w3.frozen? ⟨w.heap.size + 2, 1, none⟩ = false := frozen_of_row w3 _ 1 _ _ hA
  have R : Hid (w.grownBy ((w3.setCell ⟨w.heap.size + 2, 0, none⟩ (.slice none 0 0)).setCell ⟨w.heap.size + 2, 1, none⟩ (.int .i64 0)) none) := grown_set (grown_set HM3.out.g (by simp)) (by simp)
  have hz := block_lt hA
  clear hA HM3 HM2 HMb
  go_wp2
  exact bodyPost_ret (v := .tuple #[.agg #[.slice none 0 0, .int .i64 0], .bool false]) (by simp [results, Tryd.results22, go_sem, r0, r1]) rfl ⟨rfl, R.out⟩

set_option maxRecDepth 100000 in
set_option maxHeartbeats 4000000 in
theorem sJoin_good (us bs : List Bool) (xs ys : List Int) (m n : Nat) (ao bo : Option Addr) (la ca lb cb_ : Nat) (w : World) (hm : us.length = m) (hn : bs.length = n) (hxp : xs = pk us) (hyp : ys = pk bs) (hx : Ints w ao la xs) (hxn : ao = none → ca = 0) (hy : Ints w bo lb ys) (hla : la ≤ 4194304) (hlb : lb ≤ 4194304) (hr : m + n ≤ 16384) :
    Calls Tryd.prog 22 #[.agg #[.slice ao la ca, .int .i64 (m : Int)], .agg #[.slice bo lb cb_, .int .i64 (n : Int)]] w (GaveBits (us ++ bs) w) := by
  have HX := Lib.hid hx
  have HY := Lib.hid hy
  have HN := Lib.hid hxn
  have HVa : Hid (VB xs (m : Int) = true) := by show _ = _; rw [hxp, ← hm]; exact pk_VB (by omega)
  have HVb : Hid (VB ys (n : Int) = true) := by show _ = _; rw [hyp, ← hn]; exact pk_VB (by omega)
  have H := Lib.hid (And.intro hm hn)
  have HXp := Lib.hid hxp
  have HYp := Lib.hid hyp
  have hd : decide (16384 < (m : Int) + (n : Int)) = false := by simp; omega
  have hw0 : IntKind.i64.wrap ((m : Int) + (n : Int)) = (m : Int) + (n : Int) := IntWalk.i64_in _ (by omega)
  clear hx hy hxn hm hn hxp hyp
  have HMb := Lib.hid ((((Mem.start w).block (.cells #[.slice ao la ca, .int .i64 (m : Int)] 25)).block (.cells #[.slice bo lb cb_, .int .i64 (n : Int)] 25)).block (.cells #[.slice none 0 0, .int .i64 0] 25))
  have q0 := (two_cells (HMb.out.get (b := w.heap.size) (o := (.cells #[.slice ao la ca, .int .i64 (m : Int)] 25)) (by simp))).1
  have q1 := (two_cells (HMb.out.get (b := w.heap.size) (o := (.cells #[.slice ao la ca, .int .i64 (m : Int)] 25)) (by simp))).2
  have q2 := (two_cells (HMb.out.get (b := w.heap.size + 1) (o := (.cells #[.slice bo lb cb_, .int .i64 (n : Int)] 25)) (by simp))).1
  have q3 := (two_cells (HMb.out.get (b := w.heap.size + 1) (o := (.cells #[.slice bo lb cb_, .int .i64 (n : Int)] 25)) (by simp))).2
  go_enter Tryd.func22, Tryd.ntmps22
  go_wp2_with fail
  refine (sValidBits xs ao la ca (m : Int) true _ (HX.out.grown HMb.out.g) (by omega) HVa.out).mono ?_
  rintro e w2 ⟨rfl, hg2⟩
  have HM2 := Lib.hid (HMb.out.grown hg2)
  have hS0 := hg2.cell q0 (by simp)
  have hS1 := hg2.cell q1 (by simp)
  have hS2 := hg2.cell q2 (by simp)
  have hS3 := hg2.cell q3 (by simp)
  clear hg2
  clear q0 q1 q2 q3
  go_wp2_with fail
  refine (sValidBits ys bo lb cb_ (n : Int) true _ (HY.out.grown HM2.out.g) (by omega) HVb.out).mono ?_
  rintro e w3 ⟨rfl, hg3⟩
  have HM3 := Lib.hid (HM2.out.grown hg3)
  have hT0 := hg3.cell hS0 (by simp)
  have hT1 := hg3.cell hS1 (by simp)
  have hT2 := hg3.cell hS2 (by simp)
  have hT3 := hg3.cell hS3 (by simp)
  clear hg3
  clear hS0 hS1 hS2 hS3
  clear hw0
  clear hT0 hT1 hT2 hT3
  have q0 := (two_cells (HM3.out.get (b := w.heap.size) (o := (.cells #[.slice ao la ca, .int .i64 (m : Int)] 25)) (by simp))).1
  have q1 := (two_cells (HM3.out.get (b := w.heap.size) (o := (.cells #[.slice ao la ca, .int .i64 (m : Int)] 25)) (by simp))).2
  have q2 := (two_cells (HM3.out.get (b := w.heap.size + 1) (o := (.cells #[.slice bo lb cb_, .int .i64 (n : Int)] 25)) (by simp))).1
  have q3 := (two_cells (HM3.out.get (b := w.heap.size + 1) (o := (.cells #[.slice bo lb cb_, .int .i64 (n : Int)] 25)) (by simp))).2
  go_wp2_with fail
  refine (sjoin_any us bs m n H.out.1 H.out.2 ao bo la ca lb cb_ _ ((HXp.out ▸ HX.out).grown HM3.out.g) HN.out ((HYp.out ▸ HY.out).grown HM3.out.g) (by omega)).mono ?_
  rintro e w4 ⟨v4, rfl, ho4, hg4⟩
  obtain ⟨a4, c4, rfl, _⟩ := ho4.reads
  obtain ⟨n4, hn4⟩ : ∃ n4, (m + n + 7) / 8 = n4 := ⟨_, rfl⟩
  obtain ⟨m4, hm4⟩ : ∃ m4, m + n = m4 := ⟨_, rfl⟩
  rw [hn4] at ho4
  have hA := grown_heap hg4 (HM3.out.get (b := w.heap.size + 2) (o := (.cells #[.slice none 0 0, .int .i64 0] 25)) (by simp)) (by simp)
  have hlt := block_lt (HM3.out.get (b := w.heap.size + 2) (o := (.cells #[.slice none 0 0, .int .i64 0] 25)) (by simp))
  have r0 := (two_cells hA).1
  have r1 := (two_cells hA).2
  have f0 : w4.frozen? ⟨w.heap.size + 2, 0, none⟩ = false := frozen_of_row w4 _ 0 _ _ hA
  have f1 : w4.frozen? ⟨w.heap.size + 2, 1, none⟩ = false := frozen_of_row w4 _ 1 _ _ hA
  have hl4 : (us ++ bs).length = m4 := by rw [List.length_append, H.out.1, H.out.2, hm4]
  have R : Hid (Owns ((w4.setCell ⟨w.heap.size + 2, 0, none⟩ (.slice a4 n4 c4)).setCell ⟨w.heap.size + 2, 1, none⟩ (.int .i64 (m4 : Int))) w.heap.size (.slice a4 n4 c4) n4 (pk (us ++ bs)) ∧ w.grownBy ((w4.setCell ⟨w.heap.size + 2, 0, none⟩ (.slice a4 n4 c4)).setCell ⟨w.heap.size + 2, 1, none⟩ (.int .i64 (m4 : Int))) none ∧ (us ++ bs).length = m4 ∧ ((us ++ bs).length + 7) / 8 = n4) := by
    have hne : (Value.slice a4 n4 c4).ownBlock ≠ some (w.heap.size + 2) := fun e => by have := ho4.block _ e; omega
    have hsz := HM3.out.g.size
    exact ⟨((ho4.set _ _ hne).set _ _ hne).base_le (by omega), grown_set (grown_set (grown_trans HM3.out.g hg4) (by simp)) (by simp), hl4, by rw [hl4, ← hm4]; exact hn4⟩
  have hz := block_lt hA
  rw [hn4, hm4]
  clear ho4 hg4 hA hm4 hn4 hl4 HM3 HM2 HMb q0 q1 q2 q3
  go_wp2
  refine bodyPost_ret (v := .tuple #[.agg #[.slice a4 n4 c4, .int .i64 (m4 : Int)], .bool true]) (by simp [results, Tryd.results22, go_sem, r0, r1]) rfl ⟨.slice a4 n4 c4, ?_, ?_, R.out.2.1⟩
  · rw [R.out.2.2.1]
  · rw [R.out.2.2.2]; exact R.out.1

structure ErrsJ (w : World) : Prop where
  bits : ErrAt w 3
  room : ErrAt w 1
theorem ErrsJ.grown {w w' : World} (h : ErrsJ w) (hg : w.grownBy w' none) : ErrsJ w' := ⟨h.bits.grown hg, h.room.grown hg⟩

theorem join_both (xs ys : List Int) (c d : Int) (la lb : Nat) (hla : la ≤ 4194304) (hlb : lb ≤ 4194304) : ∃ o : Option (List Bool), (∀ bs, o = some bs → bs.length ≤ 16384) ∧
    Hid (∀ (ao bo : Option Addr) (ca cb_ : Nat) (w : World), Ints w ao la xs → (ao = none → ca = 0) → Ints w bo lb ys → Calls Tryd.prog 22 #[.agg #[.slice ao la ca, .int .i64 c], .agg #[.slice bo lb cb_, .int .i64 d]] w (Gave o w)) ∧
    Hid (∀ (ao bo : Option Addr) (ca cb_ : Nat) (w : World), Ints w ao la xs → (ao = none → ca = 0) → Ints w bo lb ys → ErrsJ w → Calls Tryd.prog 21 #[.agg #[.slice ao la ca, .int .i64 c], .agg #[.slice bo lb cb_, .int .i64 d]] w (Gave o w)) ∧
    Hid (∀ us bs, xs = pk us → c = (us.length : Int) → ys = pk bs → d = (bs.length : Int) → us.length + bs.length ≤ 16384 → o = some (us ++ bs)) ∧
    Hid (∀ rs, o = some rs → ∃ us bs, xs = pk us ∧ c = (us.length : Int) ∧ ys = pk bs ∧ d = (bs.length : Int) ∧ us.length + bs.length ≤ 16384 ∧ rs = us ++ bs) := by
  cases hvb : VB ys d with
  | false =>
    refine ⟨none, by simp, fun ao bo ca cb_ w hx hn hy => ?_, fun ao bo ca cb_ w hx hn hy hE => iJoin_inv c d ys ao bo la ca lb cb_ w hy hlb hvb, ?_, by intro rs h; cases h⟩
    · cases hva : VB xs c with
      | false => exact sJoin_inv1 xs ys c d ao bo la ca lb cb_ w hx hy hla hlb hva
      | true => exact sJoin_inv2 xs ys c d ao bo la ca lb cb_ w hx hy hla hlb hva hvb
    · intro us bs _ _ h3 h4 h5
      rw [h3, h4, pk_VB (by omega)] at hvb; cases hvb
  | true =>
  cases hva : VB xs c with
  | false =>
    refine ⟨none, by simp, fun ao bo ca cb_ w hx hn hy => sJoin_inv1 xs ys c d ao bo la ca lb cb_ w hx hy hla hlb hva, fun ao bo ca cb_ w hx hn hy hE => iJoin_none c d ys ao bo la ca lb cb_ w hy hlb hvb (fun w1 hg _ => app_inv_join _ xs c ao la ca w1 (hx.grown hg) hla hva (hE.bits.grown hg)), ?_, by intro rs h; cases h⟩
    intro us bs h1 h2 _ _ h5
    rw [h1, h2, pk_VB (by omega)] at hva; cases hva
  | true =>
  obtain ⟨us, rfl, rfl, hub⟩ := VB_pk hva
  obtain ⟨bs, rfl, rfl, hbb⟩ := VB_pk hvb
  by_cases hr : us.length + bs.length ≤ 16384
  · refine ⟨some (us ++ bs), ?_, fun ao bo ca cb_ w hx hn hy => sJoin_good us bs _ _ us.length bs.length ao bo la ca lb cb_ w rfl rfl rfl rfl hx hn hy hla hlb hr, fun ao bo ca cb_ w hx hn hy hE => iJoin_good _ _ (us ++ bs) _ ao bo la ca lb cb_ w hy hlb hvb (fun w1 hg hP => app_good_join _ us (us ++ bs) us.length rfl ao la ca w1 (hx.grown hg) hn hub (fun w2 w3 B hg2 hW => clo_join bo lb cb_ bs.length B _ w3 (hP w3 (grown_trans hg2 hW.g)) _ ((putAll_any us bs bs.length rfl w2 w3 B bo lb cb_ hW (hy.grown (grown_trans hg hg2)) (hE.room.grown (grown_trans hg hg2)) hub hbb).mono fun e w' h => by
      rcases h with ⟨_, h1, h2⟩ | ⟨h0, _⟩
      · exact ⟨Or.inl h1, h1, h2⟩
      · omega))), ?_, ?_⟩
    · intro rs h; injection h with h; subst h; rw [List.length_append]; omega
    · intro us' bs' h1 h2 h3 h4 _
      rw [pk_inj h1 (by omega), pk_inj h3 (by omega)]
    · intro rs h; injection h with h; exact ⟨us, bs, rfl, rfl, rfl, rfl, hr, h.symm⟩
  · refine ⟨none, by simp, fun ao bo ca cb_ w hx hn hy => sJoin_room _ _ us.length bs.length ao bo la ca lb cb_ w hx hy hla hlb hva hvb hub hbb (by omega), fun ao bo ca cb_ w hx hn hy hE => iJoin_none _ _ _ ao bo la ca lb cb_ w hy hlb hvb (fun w1 hg hP => app_bad_join _ us us.length rfl ao la ca w1 (hx.grown hg) hn hub (fun w2 w3 B hg2 hW => clo_join bo lb cb_ bs.length B _ w3 (hP w3 (grown_trans hg2 hW.g)) _ ((putAll_any us bs bs.length rfl w2 w3 B bo lb cb_ hW (hy.grown (grown_trans hg hg2)) (hE.room.grown (grown_trans hg hg2)) hub hbb).mono fun e w' h => by
      rcases h with ⟨h0, _⟩ | ⟨_, h1, h2⟩
      · omega
      · exact ⟨Or.inr h1, h1, h2⟩))), ?_, by intro rs h; cases h⟩
    intro us' bs' _ h2 _ h4 h5
    omega

end Go.Proofs.YtcgcippniicaaaaDoor
