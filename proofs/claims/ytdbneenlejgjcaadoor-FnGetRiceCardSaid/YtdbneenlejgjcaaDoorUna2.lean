/-
  PutUnary of the specification; both texts give one result.
-/
import Derived.Test.YtdbneenlejgjcaaDoorUna
namespace Go.Proofs.YtdbneenlejgjcaaDoor
open Go.RowKit

set_option maxRecDepth 100000 in
set_option maxHeartbeats 2000000 in
theorem sUna_inv (xs : List Int) (c x : Int) (ao : Option Addr) (len cap : Nat) (w : World) (hx : Ints w ao len xs) (hlen : len ≤ 4194304) (hv : VB xs c = false) :
    Calls Tryd.prog 18 #[.agg #[.slice ao len cap, .int .i64 c], .int .i64 x] w (GaveNone w) := by
  have HMM := Lib.hid (((Mem.start w).block (.cells #[.slice ao len cap, .int .i64 c] 28)).block (.cells #[.slice none 0 0, .int .i64 0] 28))
  have k := sValidBits xs ao len cap c false ((w.alloc (.cells #[.slice ao len cap, .int .i64 c] 28)).alloc (.cells #[.slice none 0 0, .int .i64 0] 28)) (hx.grown HMM.out.g) hlen hv
  clear hx hv
  go_enter Tryd.func18, Tryd.ntmps18
  go_wp2_with fail
  refine k.mono ?_
  rintro e w1 ⟨rfl, hg1⟩
  have HM1 := Lib.hid (HMM.out.grown hg1)
  have p0 := (two_cells (HM1.out.get (b := w.heap.size) (o := (.cells #[.slice ao len cap, .int .i64 c] 28)) (by simp))).1
  have p1 := (two_cells (HM1.out.get (b := w.heap.size) (o := (.cells #[.slice ao len cap, .int .i64 c] 28)) (by simp))).2
  have r0 := (two_cells (HM1.out.get (b := w.heap.size + 1) (o := (.cells #[.slice none 0 0, .int .i64 0] 28)) (by simp))).1
  have r1 := (two_cells (HM1.out.get (b := w.heap.size + 1) (o := (.cells #[.slice none 0 0, .int .i64 0] 28)) (by simp))).2
  have f0 : w1.frozen? ⟨w.heap.size + 1, 0, none⟩ = false := frozen_of_row w1 _ 0 _ _ (HM1.out.get (b := w.heap.size + 1) (o := (.cells #[.slice none 0 0, .int .i64 0] 28)) (by simp))
  have f1 : w1.frozen? ⟨w.heap.size + 1, 1, none⟩ = false := frozen_of_row w1 _ 1 _ _ (HM1.out.get (b := w.heap.size + 1) (o := (.cells #[.slice none 0 0, .int .i64 0] 28)) (by simp))
  have hz : w.heap.size + 2 ≤ w1.heap.size := by have := hg1.size; simpa using this
  clear hg1 HMM k
  have R : Hid (w.grownBy ((w1.setCell ⟨w.heap.size + 1, 0, none⟩ (.slice none 0 0)).setCell ⟨w.heap.size + 1, 1, none⟩ (.int .i64 0)) none) := grown_set (grown_set HM1.out.g (by simp)) (by simp)
  go_wp2
  exact bodyPost_ret (v := .tuple #[.agg #[.slice none 0 0, .int .i64 0], .bool false]) (by simp [results, Tryd.results18, go_sem, r0, r1]) rfl ⟨rfl, R.out⟩

set_option maxRecDepth 100000 in
set_option maxHeartbeats 2000000 in
theorem sUna_number (xs : List Int) (c x : Int) (ao : Option Addr) (len cap : Nat) (w : World) (hx : Ints w ao len xs) (hlen : len ≤ 4194304) (hv : VB xs c = true) (hr : inB x 0 500 = false) :
    Calls Tryd.prog 18 #[.agg #[.slice ao len cap, .int .i64 c], .int .i64 x] w (GaveNone w) := by
  have HMM := Lib.hid (((Mem.start w).block (.cells #[.slice ao len cap, .int .i64 c] 28)).block (.cells #[.slice none 0 0, .int .i64 0] 28))
  have k := sValidBits xs ao len cap c true ((w.alloc (.cells #[.slice ao len cap, .int .i64 c] 28)).alloc (.cells #[.slice none 0 0, .int .i64 0] 28)) (hx.grown HMM.out.g) hlen hv
  have HZ := Lib.hid hr
  clear hx hv hr
  go_enter Tryd.func18, Tryd.ntmps18
  go_wp2_with fail
  refine k.mono ?_
  rintro e w1 ⟨rfl, hg1⟩
  have HM1 := Lib.hid (HMM.out.grown hg1)
  have p0 := (two_cells (HM1.out.get (b := w.heap.size) (o := (.cells #[.slice ao len cap, .int .i64 c] 28)) (by simp))).1
  have p1 := (two_cells (HM1.out.get (b := w.heap.size) (o := (.cells #[.slice ao len cap, .int .i64 c] 28)) (by simp))).2
  have r0 := (two_cells (HM1.out.get (b := w.heap.size + 1) (o := (.cells #[.slice none 0 0, .int .i64 0] 28)) (by simp))).1
  have r1 := (two_cells (HM1.out.get (b := w.heap.size + 1) (o := (.cells #[.slice none 0 0, .int .i64 0] 28)) (by simp))).2
  have f0 : w1.frozen? ⟨w.heap.size + 1, 0, none⟩ = false := frozen_of_row w1 _ 0 _ _ (HM1.out.get (b := w.heap.size + 1) (o := (.cells #[.slice none 0 0, .int .i64 0] 28)) (by simp))
  have f1 : w1.frozen? ⟨w.heap.size + 1, 1, none⟩ = false := frozen_of_row w1 _ 1 _ _ (HM1.out.get (b := w.heap.size + 1) (o := (.cells #[.slice none 0 0, .int .i64 0] 28)) (by simp))
  have hz : w.heap.size + 2 ≤ w1.heap.size := by have := hg1.size; simpa using this
  clear hg1 HMM k
  go_wp2_with fail
  refine (inRange_any _ 0 500 false _ HZ.out).mono ?_
  rintro e w' ⟨rfl, rfl⟩
  have R : Hid (w.grownBy ((w1.setCell ⟨w.heap.size + 1, 0, none⟩ (.slice none 0 0)).setCell ⟨w.heap.size + 1, 1, none⟩ (.int .i64 0)) none) := grown_set (grown_set HM1.out.g (by simp)) (by simp)
  go_wp2
  exact bodyPost_ret (v := .tuple #[.agg #[.slice none 0 0, .int .i64 0], .bool false]) (by simp [results, Tryd.results18, go_sem, r0, r1]) rfl ⟨rfl, R.out⟩

set_option maxRecDepth 100000 in
set_option maxHeartbeats 2000000 in
theorem sUna_room (bs : List Bool) (m n : Nat) (hm : bs.length = m) (ao : Option Addr) (len cap : Nat) (w : World) (hx : Ints w ao len (pk bs)) (hlen : len ≤ 4194304) (hb : bs.length ≤ 16384) (hn5 : n ≤ 500) (hr : 16384 < m + n + 1) :
    Calls Tryd.prog 18 #[.agg #[.slice ao len cap, .int .i64 (m : Int)], .int .i64 (n : Int)] w (GaveNone w) := by
  have HMM := Lib.hid (((Mem.start w).block (.cells #[.slice ao len cap, .int .i64 (m : Int)] 28)).block (.cells #[.slice none 0 0, .int .i64 0] 28))
  have k := sValidBits (pk bs) ao len cap (m : Int) true ((w.alloc (.cells #[.slice ao len cap, .int .i64 (m : Int)] 28)).alloc (.cells #[.slice none 0 0, .int .i64 0] 28)) (hx.grown HMM.out.g) hlen (by rw [← hm]; exact pk_VB hb)
  have hm2 : m ≤ 16384 := by omega
  have hd : decide (16384 < (m : Int) + (n : Int) + 1) = true := by simp; omega
  clear hx hm hb
  go_enter Tryd.func18, Tryd.ntmps18
  go_wp2_with fail
  refine k.mono ?_
  rintro e w1 ⟨rfl, hg1⟩
  have HM1 := Lib.hid (HMM.out.grown hg1)
  have p0 := (two_cells (HM1.out.get (b := w.heap.size) (o := (.cells #[.slice ao len cap, .int .i64 (m : Int)] 28)) (by simp))).1
  have p1 := (two_cells (HM1.out.get (b := w.heap.size) (o := (.cells #[.slice ao len cap, .int .i64 (m : Int)] 28)) (by simp))).2
  have r0 := (two_cells (HM1.out.get (b := w.heap.size + 1) (o := (.cells #[.slice none 0 0, .int .i64 0] 28)) (by simp))).1
  have r1 := (two_cells (HM1.out.get (b := w.heap.size + 1) (o := (.cells #[.slice none 0 0, .int .i64 0] 28)) (by simp))).2
  have f0 : w1.frozen? ⟨w.heap.size + 1, 0, none⟩ = false := frozen_of_row w1 _ 0 _ _ (HM1.out.get (b := w.heap.size + 1) (o := (.cells #[.slice none 0 0, .int .i64 0] 28)) (by simp))
  have f1 : w1.frozen? ⟨w.heap.size + 1, 1, none⟩ = false := frozen_of_row w1 _ 1 _ _ (HM1.out.get (b := w.heap.size + 1) (o := (.cells #[.slice none 0 0, .int .i64 0] 28)) (by simp))
  have hz : w.heap.size + 2 ≤ w1.heap.size := by have := hg1.size; simpa using this
  clear hg1 HMM k
  go_wp2_with fail
  refine (inRange_any _ 0 500 true _ (inB_true (by omega) (by omega))).mono ?_
  rintro e w' ⟨rfl, rfl⟩
  have R : Hid (w.grownBy ((w1.setCell ⟨w.heap.size + 1, 0, none⟩ (.slice none 0 0)).setCell ⟨w.heap.size + 1, 1, none⟩ (.int .i64 0)) none) := grown_set (grown_set HM1.out.g (by simp)) (by simp)
  go_wp2
  exact bodyPost_ret (v := .tuple #[.agg #[.slice none 0 0, .int .i64 0], .bool false]) (by simp [results, Tryd.results18, go_sem, r0, r1]) rfl ⟨rfl, R.out⟩

set_option maxRecDepth 100000 in
set_option maxHeartbeats 2000000 in
theorem sputU_any (bs : List Bool) (m n m2 n2 : Nat) (hm : bs.length = m) (hm2 : m + n + 1 = m2) (hn2 : (m2 + 7) / 8 = n2) (ao : Option Addr) (len cap : Nat) (w : World) (hx : Ints w ao len (pk bs)) (hn : ao = none → cap = 0) (hn5 : n ≤ 500) (hb : bs.length + n + 1 ≤ 16384) :
    Calls Tryd.prog 49 #[.agg #[.slice ao len cap, .int .i64 (m : Int)], .int .i64 (n : Int)] w (MadeBits (pk (bs ++ una n)) n2 (m2 : Int) w) := by
  have hl := hx.1
  rw [pk_len] at hl
  have HMM := Lib.hid (((Mem.start w).block (.cells #[.slice ao len cap, .int .i64 (m : Int)] 28)).block (.cells #[.slice none 0 0, .int .i64 0] 28))
  have HX := Lib.hid hx
  have HN := Lib.hid hn
  have HB := Lib.hid hm
  have H2 := Lib.hid (And.intro hm2 hn2)
  obtain ⟨n1, hn1⟩ : ∃ n1, (m + n + 7) / 8 = n1 := ⟨_, rfl⟩
  have H1 := Lib.hid hn1
  have hmb : m + n + 1 ≤ 16384 := by omega
  clear hx hn hm hl hm2 hn2 hn1 hb
  go_enter Tryd.func49, Tryd.ntmps49
  go_wp2_with fail
  refine (put_any (pk bs) ao len cap m 0 n 255 _ (HX.out.grown HMM.out.g) HN.out (by rw [pk_len, HB.out]) (by omega) (by omega) (by omega) (pk_upto bs) (by omega) (by omega)).mono ?_
  rintro e w1 ⟨v1, rfl, ho1, hg1⟩
  rw [show putN (pk bs) m 0 n n = pk (bs ++ numB 0 n) by rw [← HB.out]; exact putN_all bs 0 n, H1.out] at ho1
  obtain ⟨a1, c1, rfl, _, hnn1, hx1, _⟩ := ho1.reads
  have HX1 := Lib.hid hx1
  have HN1 := Lib.hid hnn1
  have HM1 := Lib.hid (HMM.out.grown hg1)
  have HL1 : Hid ((bs ++ numB 0 n).length = m + n) := by show _ = _; simp [numB_len, HB.out]
  clear ho1 hg1 hx1 hnn1
  rw [show (m : Int) + (n : Int) = ((m + n : Nat) : Int) by omega]
  go_wp2_with fail
  refine (put_any (pk (bs ++ numB 0 n)) a1 n1 c1 (m + n) 1 1 255 _ HX1.out HN1.out (by rw [pk_len, HL1.out]) (by omega) (by omega) (by omega) (pk_upto _) (by omega) (by omega)).mono ?_
  rintro e w2 ⟨v2, rfl, ho2, hg2⟩
  rw [show putN (pk (bs ++ numB 0 n)) (m + n) 1 1 1 = pk (bs ++ una n) by rw [← HL1.out, putN_all, List.append_assoc]; rfl, show (m + n + 1 + 7) / 8 = n2 by have := H2.out; omega] at ho2
  rw [show ((m + n : Nat) : Int) + ((1 : Nat) : Int) = (m2 : Int) by have := H2.out; omega]
  obtain ⟨a2, c2, rfl, _⟩ := ho2.reads
  have HM2 := Lib.hid (HM1.out.grown hg2)
  have r0 := (two_cells (HM2.out.get (b := w.heap.size + 1) (o := (.cells #[.slice none 0 0, .int .i64 0] 28)) (by simp))).1
  have r1 := (two_cells (HM2.out.get (b := w.heap.size + 1) (o := (.cells #[.slice none 0 0, .int .i64 0] 28)) (by simp))).2
  have f0 : w2.frozen? ⟨w.heap.size + 1, 0, none⟩ = false := frozen_of_row w2 _ 0 _ _ (HM2.out.get (b := w.heap.size + 1) (o := (.cells #[.slice none 0 0, .int .i64 0] 28)) (by simp))
  have f1 : w2.frozen? ⟨w.heap.size + 1, 1, none⟩ = false := frozen_of_row w2 _ 1 _ _ (HM2.out.get (b := w.heap.size + 1) (o := (.cells #[.slice none 0 0, .int .i64 0] 28)) (by simp))
  have hlt := block_lt (HM1.out.get (b := w.heap.size + 1) (o := (.cells #[.slice none 0 0, .int .i64 0] 28)) (by simp))
  have R : Hid (Owns ((w2.setCell ⟨w.heap.size + 1, 0, none⟩ (.slice a2 n2 c2)).setCell ⟨w.heap.size + 1, 1, none⟩ (.int .i64 (m2 : Int))) w.heap.size (.slice a2 n2 c2) n2 (pk (bs ++ una n)) ∧ w.grownBy ((w2.setCell ⟨w.heap.size + 1, 0, none⟩ (.slice a2 n2 c2)).setCell ⟨w.heap.size + 1, 1, none⟩ (.int .i64 (m2 : Int))) none ∧ w.heap.size + 2 ≤ w2.heap.size) := by
    have hne : (Value.slice a2 n2 c2).ownBlock ≠ some (w.heap.size + 1) := fun e => by have := ho2.block _ e; omega
    have hsz := hg2.size
    exact ⟨((ho2.set _ _ hne).set _ _ hne).base_le (by omega), grown_set (grown_set HM2.out.g (by simp)) (by simp), by omega⟩
  have hz := R.out.2.2
  clear ho2 hg2 hlt HM1 HM2 HMM
  go_wp2
  exact bodyPost_ret (v := .agg #[.slice a2 n2 c2, .int .i64 (m2 : Int)]) (by simp [results, Tryd.results49, go_sem, r0, r1]) rfl ⟨.slice a2 n2 c2, rfl, R.out.1, R.out.2.1⟩

set_option maxRecDepth 100000 in
set_option maxHeartbeats 2000000 in
theorem sUna_good (bs : List Bool) (m n : Nat) (hm : bs.length = m) (ao : Option Addr) (len cap : Nat) (w : World) (hx : Ints w ao len (pk bs)) (hn : ao = none → cap = 0) (hn5 : n ≤ 500) (hb : bs.length + n + 1 ≤ 16384) :
    Calls Tryd.prog 18 #[.agg #[.slice ao len cap, .int .i64 (m : Int)], .int .i64 (n : Int)] w (GaveBits (bs ++ una n) w) := by
  have HMM := Lib.hid (((Mem.start w).block (.cells #[.slice ao len cap, .int .i64 (m : Int)] 28)).block (.cells #[.slice none 0 0, .int .i64 0] 28))
  have hl := hx.1
  rw [pk_len] at hl
  have k := sValidBits (pk bs) ao len cap (m : Int) true ((w.alloc (.cells #[.slice ao len cap, .int .i64 (m : Int)] 28)).alloc (.cells #[.slice none 0 0, .int .i64 0] 28)) (hx.grown HMM.out.g) (by omega) (by rw [← hm]; exact pk_VB (by omega))
  obtain ⟨m2, hm2⟩ : ∃ m2, m + n + 1 = m2 := ⟨_, rfl⟩
  obtain ⟨n2, hn2⟩ : ∃ n2, (m2 + 7) / 8 = n2 := ⟨_, rfl⟩
  have hmb : m + n + 1 ≤ 16384 := by omega
  have hd : decide (16384 < (m : Int) + (n : Int) + 1) = false := by simp; omega
  have HX := Lib.hid hx
  have HN := Lib.hid hn
  have HB := Lib.hid hm
  have H2 := Lib.hid (And.intro hm2 hn2)
  clear hx hn hm hl hb hm2 hn2
  go_enter Tryd.func18, Tryd.ntmps18
  go_wp2_with fail
  refine k.mono ?_
  rintro e w1 ⟨rfl, hg1⟩
  have HM1 := Lib.hid (HMM.out.grown hg1)
  have p0 := (two_cells (HM1.out.get (b := w.heap.size) (o := (.cells #[.slice ao len cap, .int .i64 (m : Int)] 28)) (by simp))).1
  have p1 := (two_cells (HM1.out.get (b := w.heap.size) (o := (.cells #[.slice ao len cap, .int .i64 (m : Int)] 28)) (by simp))).2
  have r0 := (two_cells (HM1.out.get (b := w.heap.size + 1) (o := (.cells #[.slice none 0 0, .int .i64 0] 28)) (by simp))).1
  have r1 := (two_cells (HM1.out.get (b := w.heap.size + 1) (o := (.cells #[.slice none 0 0, .int .i64 0] 28)) (by simp))).2
  have f0 : w1.frozen? ⟨w.heap.size + 1, 0, none⟩ = false := frozen_of_row w1 _ 0 _ _ (HM1.out.get (b := w.heap.size + 1) (o := (.cells #[.slice none 0 0, .int .i64 0] 28)) (by simp))
  have f1 : w1.frozen? ⟨w.heap.size + 1, 1, none⟩ = false := frozen_of_row w1 _ 1 _ _ (HM1.out.get (b := w.heap.size + 1) (o := (.cells #[.slice none 0 0, .int .i64 0] 28)) (by simp))
  have hz : w.heap.size + 2 ≤ w1.heap.size := by have := hg1.size; simpa using this
  clear hg1 HMM k
  go_wp2_with fail
  refine (inRange_any _ 0 500 true _ (inB_true (by omega) (by omega))).mono ?_
  rintro e w' ⟨rfl, rfl⟩
  go_wp2_with fail
  refine (sputU_any bs m n m2 n2 HB.out H2.out.1 H2.out.2 ao len cap _ (HX.out.grown HM1.out.g) HN.out hn5 (by have := HB.out; omega)).mono ?_
  rintro e w3 ⟨v3, rfl, ho3, hg3⟩
  obtain ⟨a3, c3, rfl, _⟩ := ho3.reads
  clear r0 r1 f0 f1 p0 p1
  have hA := grown_heap hg3 (HM1.out.get (b := w.heap.size + 1) (o := (.cells #[.slice none 0 0, .int .i64 0] 28)) (by simp)) (by simp)
  have r0 := (two_cells hA).1
  have r1 := (two_cells hA).2
  have f0 : w3.frozen? ⟨w.heap.size + 1, 0, none⟩ = false := frozen_of_row w3 _ 0 _ _ hA
  have f1 : w3.frozen? ⟨w.heap.size + 1, 1, none⟩ = false := frozen_of_row w3 _ 1 _ _ hA
  have hl3 : (bs ++ una n).length = m2 := by rw [List.length_append, una_len]; have := HB.out; have := H2.out; omega
  have R : Hid (Owns ((w3.setCell ⟨w.heap.size + 1, 0, none⟩ (.slice a3 n2 c3)).setCell ⟨w.heap.size + 1, 1, none⟩ (.int .i64 (m2 : Int))) w.heap.size (.slice a3 n2 c3) n2 (pk (bs ++ una n)) ∧ w.grownBy ((w3.setCell ⟨w.heap.size + 1, 0, none⟩ (.slice a3 n2 c3)).setCell ⟨w.heap.size + 1, 1, none⟩ (.int .i64 (m2 : Int))) none ∧ w1.heap.size ≤ w3.heap.size ∧ (bs ++ una n).length = m2 ∧ ((bs ++ una n).length + 7) / 8 = n2) := by
    have hne : (Value.slice a3 n2 c3).ownBlock ≠ some (w.heap.size + 1) := fun e => by have := ho3.block _ e; omega
    have hsz := hg3.size
    exact ⟨((ho3.set _ _ hne).set _ _ hne).base_le (by omega), grown_set (grown_set (grown_trans HM1.out.g hg3) (by simp)) (by simp), hsz, hl3, by rw [hl3]; exact H2.out.2⟩
  have hz3 := R.out.2.2.1
  clear ho3 hg3 hA hl3
  go_wp2
  refine bodyPost_ret (v := .tuple #[.agg #[.slice a3 n2 c3, .int .i64 (m2 : Int)], .bool true]) (by simp [results, Tryd.results18, go_sem, r0, r1]) rfl ⟨.slice a3 n2 c3, ?_, ?_, R.out.2.1⟩
  · rw [R.out.2.2.2.1]
  · rw [R.out.2.2.2.2]; exact R.out.1

/-- Bits, or none. -/
def GaveU (o : Option (List Bool)) (w : World) (e : Ending) (w' : World) : Prop := match o with
  | some bs => GaveBits bs w e w'
  | none => GaveNone w e w'

theorem una_both (xs : List Int) (c x : Int) (len : Nat) (hlen : len ≤ 4194304) : ∃ o : Option (List Bool), (∀ bs, o = some bs → bs.length ≤ 16384) ∧
    Hid (∀ (ao : Option Addr) (cap : Nat) (w : World), Ints w ao len xs → (ao = none → cap = 0) → Calls Tryd.prog 18 #[.agg #[.slice ao len cap, .int .i64 c], .int .i64 x] w (GaveU o w)) ∧
    Hid (∀ (ao : Option Addr) (cap : Nat) (w : World), Ints w ao len xs → (ao = none → cap = 0) → ErrsU w → Calls Tryd.prog 17 #[.agg #[.slice ao len cap, .int .i64 c], .int .i64 x] w (GaveU o w)) := by
  cases hv : VB xs c with
  | false =>
    exact ⟨none, by simp, fun ao cap w hx hn => sUna_inv xs c x ao len cap w hx hlen hv, fun ao cap w hx hn hE => iUna_none c x ao len cap w (fun w1 hg _ => app_inv_unary _ xs c ao len cap w1 (hx.grown hg) hlen hv (hE.bits.grown hg))⟩
  | true =>
  obtain ⟨bs, rfl, rfl, hb⟩ := VB_pk hv
  cases hz : inB x 0 500 with
  | false =>
    have hz' : x < 0 ∨ 500 < x := by simp [inB] at hz; omega
    exact ⟨none, by simp, fun ao cap w hx hn => sUna_number _ _ x ao len cap w hx hlen hv hz, fun ao cap w hx hn hE => iUna_none _ x ao len cap w (fun w1 hg hP => app_bad_unary _ bs bs.length rfl ao len cap w1 (hx.grown hg) hn hb (fun w2 w3 B hg2 hW => clo_unary x B _ w3 (hP w3 (grown_trans hg2 hW.g)) _ ((putUnary_number x w3 _ (hE.num.grown (grown_trans hg (grown_trans hg2 hW.g))) hz').mono fun e w' ⟨h1, h2⟩ => ⟨Or.inr h1, h1, h2 ▸ hW.g⟩)))⟩
  | true =>
  have hz' : 0 ≤ x ∧ x ≤ 500 := by simpa [inB] using hz
  obtain ⟨n, rfl⟩ := Int.eq_ofNat_of_zero_le hz'.1
  have hn5 : n ≤ 500 := by omega
  by_cases hr : bs.length + n + 1 ≤ 16384
  · exact ⟨some (bs ++ una n), by intro rs h; injection h with h; subst h; rw [List.length_append, una_len]; omega, fun ao cap w hx hn => sUna_good bs bs.length n rfl ao len cap w hx hn hn5 hr, fun ao cap w hx hn hE => iUna_good _ n (bs ++ una n) ao len cap w (fun w1 hg hP => app_good_unary _ bs (bs ++ una n) bs.length rfl ao len cap w1 (hx.grown hg) hn hb (fun w2 w3 B hg2 hW => clo_unary n B _ w3 (hP w3 (grown_trans hg2 hW.g)) _ ((putUnary_good n w2 w3 B bs hW hn5 hr).mono fun e w' ⟨h1, h2⟩ => ⟨Or.inl h1, h1, h2⟩)))⟩
  · exact ⟨none, by simp, fun ao cap w hx hn => sUna_room bs bs.length n rfl ao len cap w hx hlen hb hn5 (by omega), fun ao cap w hx hn hE => iUna_none _ n ao len cap w (fun w1 hg hP => app_bad_unary _ bs bs.length rfl ao len cap w1 (hx.grown hg) hn hb (fun w2 w3 B hg2 hW => clo_unary n B _ w3 (hP w3 (grown_trans hg2 hW.g)) _ ((putUnary_room n w2 w3 B bs hW (hE.room.grown (grown_trans hg (grown_trans hg2 hW.g))) hn5 hb (by omega)).mono fun e w' ⟨h1, h2⟩ => ⟨Or.inr h1, h1, h2 ▸ hW.g⟩)))⟩

end Go.Proofs.YtdbneenlejgjcaaDoor
