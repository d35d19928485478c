/-
  PutUnary of both texts: what they give for all arguments.
-/
import Derived.Test.YtdbneenlejgjcaaDoorApp
namespace Go.Proofs.YtdbneenlejgjcaaDoor
open Go.RowKit
variable {K : List (Nat × Obj)}

structure ErrsU (w : World) : Prop where
  num : ErrAt w 0
  bits : ErrAt w 3
  room : ErrAt w 1
theorem ErrsU.grown {w w' : World} (h : ErrsU w) (hg : w.grownBy w' none) : ErrsU w' := ⟨h.num.grown hg, h.bits.grown hg, h.room.grown hg⟩

/-- A number in unary form. -/
def una (n : Nat) : List Bool := numB 0 n ++ numB 1 1
theorem una_len (n : Nat) : (una n).length = n + 1 := by simp [una, numB_len]

set_option maxRecDepth 100000 in
set_option maxHeartbeats 2000000 in
theorem putUnary_good (n : Nat) (w0 w : World) (B : Nat) (bs : List Bool) (hW : Wtr K w0 w B bs) (hn : n ≤ 500) (hb : bs.length + n + 1 ≤ 16384) :
    Calls Tryd.prog 46 #[.pointer (some ⟨B, 0, none⟩), .int .i64 (n : Int)] w fun e w' => e = .returned .nilIface ∧ Wtr K w0 w' B (bs ++ una n) := by
  obtain ⟨v0, hh, _, _, _⟩ := hW.ex
  obtain ⟨m, hm⟩ : ∃ m, bs.length = m := ⟨_, rfl⟩
  rw [hm] at hh hb
  have q1 : w.cell? ⟨B, 1, none⟩ = some (.int .i64 (m : Int)) := by rw [cell_of_row w _ 1 _ _ _ hh]; rfl
  have d1 : decide ((n : Int) < 0) = false := by simp
  have d2 : decide (500 < (n : Int)) = false := by simp; omega
  have d3 : decide (16384 - (m : Int) < (n : Int) + 1) = false := by simp; omega
  have HW := Lib.hid hW
  have HM := Lib.hid hm
  clear hW hh hm
  go_enter Tryd.func46, Tryd.ntmps46
  go_wp2_with fail
  go_loopw [22] (fun iv wr => ∃ j : Nat, j ≤ n ∧ iv = .int .i64 (j : Int) ∧ Hid (Wtr K w0 wr B (bs ++ (numB 0 n).take j))) (fun iv _ => n - (intOf iv).toNat)
  case atStart => exact ⟨0, Nat.zero_le _, rfl, by simpa using HW⟩
  case round =>
    obtain ⟨j, hj, rfl, HR⟩ := hrel
    by_cases hlt : j < n
    · have hd : decide ((j : Int) < (n : Int)) = true := by simp; omega
      have hl : (bs ++ (numB 0 n).take j).length < 16384 := by have := HM.out; simp [numB_len]; omega
      have HT : Hid (bs ++ (numB 0 n).take (j + 1) = (bs ++ (numB 0 n).take j) ++ [false]) := by
        show _ = _
        rw [numB_take hlt, List.append_assoc]; simp
      go_wp2_with fail
      refine (putBit_any false 0 w0 _ B _ HR.out rfl hl).mono ?_
      rintro e w2 ⟨rfl, hw2⟩
      rw [← HT.out] at hw2
      have HR2 := Lib.hid hw2
      clear hw2 HR hl
      go_wp2
      go_roundw
      case rel => exact ⟨j + 1, by omega, by go_num, HR2⟩
      case measure => simp [intOf]; omega
    · obtain rfl : j = n := by omega
      have hd : decide ((j : Int) < (j : Int)) = false := by simp
      have HF : Hid (Wtr K w0 wr B (bs ++ numB 0 j)) := by
        have := HR.out
        rwa [List.take_of_length_le (by rw [numB_len]; omega)] at this
      have hl : (bs ++ numB 0 j).length < 16384 := by have := HM.out; simp [numB_len]; omega
      go_wp2_with fail
      refine (putBit_any true 1 w0 _ B _ HF.out rfl hl).mono ?_
      rintro e w2 ⟨rfl, hw2⟩
      have HR2 : Hid (Wtr K w0 w2 B (bs ++ una j)) := by
        have h := hw2
        rw [List.append_assoc, show [true] = numB 1 1 by decide] at h
        exact h
      clear hw2 HR HF hl
      go_wp2
      go_ret
      exact ⟨rfl, HR2.out⟩

set_option maxHeartbeats 1000000 in
theorem putUnary_number (x : Int) (w : World) (p : Value) (hE : ErrAt w 0) (hx : x < 0 ∨ 500 < x) :
    Calls Tryd.prog 46 #[p, .int .i64 x] w fun e w' => (∃ t v, e = .returned (.iface t v)) ∧ w = w' := by
  obtain ⟨t, v, hc⟩ := hE
  by_cases h1 : x < 0
  · have d1 : decide (x < 0) = true := by simpa using h1
    clear hx
    go_enter Tryd.func46, Tryd.ntmps46
    go_wp2
    go_ret
    exact ⟨⟨t, v, rfl⟩, rfl⟩
  have d1 : decide (x < 0) = false := by simpa using h1
  have d2 : decide (500 < x) = true := by simp; omega
  clear hx
  go_enter Tryd.func46, Tryd.ntmps46
  go_wp2
  go_ret
  exact ⟨⟨t, v, rfl⟩, rfl⟩

set_option maxHeartbeats 1000000 in
theorem putUnary_room (n : Nat) (w0 w : World) (B : Nat) (bs : List Bool) (hW : Wtr K w0 w B bs) (hE : ErrAt w 1) (hn : n ≤ 500) (hl : bs.length ≤ 16384) (hr : 16384 < bs.length + n + 1) :
    Calls Tryd.prog 46 #[.pointer (some ⟨B, 0, none⟩), .int .i64 (n : Int)] w fun e w' => (∃ t v, e = .returned (.iface t v)) ∧ w = w' := by
  obtain ⟨t, u, hc⟩ := hE
  obtain ⟨v0, hh, _, _, _⟩ := hW.ex
  obtain ⟨m, hm⟩ : ∃ m, bs.length = m := ⟨_, rfl⟩
  rw [hm] at hh hr hl
  have q1 : w.cell? ⟨B, 1, none⟩ = some (.int .i64 (m : Int)) := by rw [cell_of_row w _ 1 _ _ _ hh]; rfl
  have d1 : decide ((n : Int) < 0) = false := by simp
  have d2 : decide (500 < (n : Int)) = false := by simp; omega
  have d3 : decide (16384 - (m : Int) < (n : Int) + 1) = true := by simp; omega
  clear hW hh hm
  go_enter Tryd.func46, Tryd.ntmps46
  go_wp2
  go_ret
  exact ⟨⟨t, u, rfl⟩, rfl⟩

set_option maxHeartbeats 400000 in
theorem clo_unary (x : Int) (B P0 : Nat) (w : World) (h0 : w.cell? ⟨P0, 0, none⟩ = some (.int .i64 x)) (Q : Ending → World → Prop)
    (hc : Calls Tryd.prog 46 #[.pointer (some ⟨B, 0, none⟩), .int .i64 x] w fun e w' => (e = .returned .nilIface ∨ ∃ t v, e = .returned (.iface t v)) ∧ Q e w') :
    Calls Tryd.prog 45 #[.pointer (some ⟨B, 0, none⟩), .pointer (some ⟨P0, 0, none⟩)] w Q := by
  have HC := Lib.hid hc
  clear hc
  go_enter Tryd.func45, Tryd.ntmps45
  go_wp2_with fail
  refine HC.out.mono ?_
  rintro e w' ⟨he, hq⟩
  have HQ := Lib.hid hq
  clear hq h0
  rcases he with rfl | ⟨t, v, rfl⟩
  · go_wp2
    exact HQ.out
  · go_wp2
    exact HQ.out

set_option maxRecDepth 100000 in
set_option maxHeartbeats 2000000 in
theorem iUna_good (c x : Int) (bs : List Bool) (ao : Option Addr) (len cap : Nat) (w : World)
    (HC : Hid (∀ (w1 : World), w.grownBy w1 none → (∀ w2, w1.grownBy w2 none → w2.cell? ⟨w.heap.size + 1, 0, none⟩ = some (.int .i64 x)) → Calls Tryd.prog 40 #[.agg #[.slice ao len cap, .int .i64 c], .func (.func 45) #[] #[.pointer (some ⟨w.heap.size + 1, 0, none⟩)]] w1 (GaveBits bs w1))) :
    Calls Tryd.prog 17 #[.agg #[.slice ao len cap, .int .i64 c], .int .i64 x] w (GaveBits bs w) := by
  have HMM := Lib.hid ((((Mem.start w).block (.cells #[.slice ao len cap, .int .i64 c] 28)).block (.cells #[.int .i64 x] 3)).block (.cells #[.slice none 0 0, .int .i64 0] 28))
  have b1 := HMM.out.get (b := w.heap.size + 1) (o := (.cells #[.int .i64 x] 3)) (by simp)
  have HK := Lib.hid (HC.out (((w.alloc (.cells #[.slice ao len cap, .int .i64 c] 28)).alloc (.cells #[.int .i64 x] 3)).alloc (.cells #[.slice none 0 0, .int .i64 0] 28)) HMM.out.g (fun w2 hg => by rw [cell_of_row w2 _ 0 _ _ _ (grown_heap hg b1 (by simp))]; rfl))
  clear b1 HC
  go_enter Tryd.func17, Tryd.ntmps17
  go_wp2_with fail
  refine HK.out.mono ?_
  rintro e w3 ⟨v3, rfl, ho3, hg3⟩
  obtain ⟨a3, c3, rfl, _⟩ := ho3.reads
  obtain ⟨m', hm'⟩ : ∃ m', bs.length = m' := ⟨_, rfl⟩
  obtain ⟨n', hn'⟩ : ∃ n', (m' + 7) / 8 = n' := ⟨_, rfl⟩
  rw [hm', hn'] at ho3
  have hA := grown_heap hg3 (HMM.out.get (b := w.heap.size + 2) (o := (.cells #[.slice none 0 0, .int .i64 0] 28)) (by simp)) (by simp)
  have r0 : w3.cell? ⟨w.heap.size + 1 + 1, 0, none⟩ = some (.slice none 0 0) := by rw [cell_of_row w3 (w.heap.size + 2) 0 _ _ _ hA]; rfl
  have r1 : w3.cell? ⟨w.heap.size + 1 + 1, 1, none⟩ = some (.int .i64 0) := by rw [cell_of_row w3 (w.heap.size + 2) 1 _ _ _ hA]; rfl
  have f0 : w3.frozen? ⟨w.heap.size + 1 + 1, 0, none⟩ = false := frozen_of_row w3 (w.heap.size + 2) 0 _ _ hA
  have f1 : w3.frozen? ⟨w.heap.size + 1 + 1, 1, none⟩ = false := frozen_of_row w3 (w.heap.size + 2) 1 _ _ hA
  have R : Hid (Owns ((w3.setCell ⟨w.heap.size + 1 + 1, 0, none⟩ (.slice a3 n' c3)).setCell ⟨w.heap.size + 1 + 1, 1, none⟩ (.int .i64 (m' : Int))) w.heap.size (.slice a3 n' c3) n' (pk bs) ∧ w.grownBy ((w3.setCell ⟨w.heap.size + 1 + 1, 0, none⟩ (.slice a3 n' c3)).setCell ⟨w.heap.size + 1 + 1, 1, none⟩ (.int .i64 (m' : Int))) none ∧ w.heap.size + 3 ≤ w3.heap.size ∧ bs.length = m' ∧ (bs.length + 7) / 8 = n') := by
    have hne : (Value.slice a3 n' c3).ownBlock ≠ some (w.heap.size + 1 + 1) := fun e => by have := ho3.block _ e; simp at this; omega
    have hsz := hg3.size
    exact ⟨((ho3.set _ _ hne).set _ _ hne).base_le (by simp; omega), grown_set (grown_set (grown_trans HMM.out.g hg3) (by simp; omega)) (by simp; omega), by simpa using hsz, hm', by rw [hm', hn']⟩
  have hz := R.out.2.2.1
  rw [hm', hn']
  clear ho3 hg3 hA hm' hn' HMM HK
  go_wp2
  refine bodyPost_ret (v := .tuple #[.agg #[.slice a3 n' c3, .int .i64 (m' : Int)], .bool true]) (by simp [results, Tryd.results17, go_sem, r0, r1]) rfl ⟨.slice a3 n' c3, ?_, ?_, R.out.2.1⟩
  · rw [R.out.2.2.2.1]
  · rw [R.out.2.2.2.2]; exact R.out.1

set_option maxRecDepth 100000 in
set_option maxHeartbeats 2000000 in
theorem iUna_none (c x : Int) (ao : Option Addr) (len cap : Nat) (w : World)
    (HC : Hid (∀ (w1 : World), w.grownBy w1 none → (∀ w2, w1.grownBy w2 none → w2.cell? ⟨w.heap.size + 1, 0, none⟩ = some (.int .i64 x)) → Calls Tryd.prog 40 #[.agg #[.slice ao len cap, .int .i64 c], .func (.func 45) #[] #[.pointer (some ⟨w.heap.size + 1, 0, none⟩)]] w1 (GaveNone w1))) :
    Calls Tryd.prog 17 #[.agg #[.slice ao len cap, .int .i64 c], .int .i64 x] w (GaveNone w) := by
  have HMM := Lib.hid ((((Mem.start w).block (.cells #[.slice ao len cap, .int .i64 c] 28)).block (.cells #[.int .i64 x] 3)).block (.cells #[.slice none 0 0, .int .i64 0] 28))
  have b1 := HMM.out.get (b := w.heap.size + 1) (o := (.cells #[.int .i64 x] 3)) (by simp)
  have HK := Lib.hid (HC.out (((w.alloc (.cells #[.slice ao len cap, .int .i64 c] 28)).alloc (.cells #[.int .i64 x] 3)).alloc (.cells #[.slice none 0 0, .int .i64 0] 28)) HMM.out.g (fun w2 hg => by rw [cell_of_row w2 _ 0 _ _ _ (grown_heap hg b1 (by simp))]; rfl))
  clear b1 HC
  go_enter Tryd.func17, Tryd.ntmps17
  go_wp2_with fail
  refine HK.out.mono ?_
  rintro e w3 ⟨rfl, hg3⟩
  have hA := grown_heap hg3 (HMM.out.get (b := w.heap.size + 2) (o := (.cells #[.slice none 0 0, .int .i64 0] 28)) (by simp)) (by simp)
  have r0 : w3.cell? ⟨w.heap.size + 1 + 1, 0, none⟩ = some (.slice none 0 0) := by rw [cell_of_row w3 (w.heap.size + 2) 0 _ _ _ hA]; rfl
  have r1 : w3.cell? ⟨w.heap.size + 1 + 1, 1, none⟩ = some (.int .i64 0) := by rw [cell_of_row w3 (w.heap.size + 2) 1 _ _ _ hA]; rfl
  have f0 : w3.frozen? ⟨w.heap.size + 1 + 1, 0, none⟩ = false := frozen_of_row w3 (w.heap.size + 2) 0 _ _ hA
  have f1 : w3.frozen? ⟨w.heap.size + 1 + 1, 1, none⟩ = false := frozen_of_row w3 (w.heap.size + 2) 1 _ _ hA
  have R : Hid (w.grownBy ((w3.setCell ⟨w.heap.size + 1 + 1, 0, none⟩ (.slice none 0 0)).setCell ⟨w.heap.size + 1 + 1, 1, none⟩ (.int .i64 0)) none ∧ w.heap.size + 3 ≤ w3.heap.size) := by
    have hsz := hg3.size
    exact ⟨grown_set (grown_set (grown_trans HMM.out.g hg3) (by simp; omega)) (by simp; omega), by simpa using hsz⟩
  have hz := R.out.2
  clear hg3 hA HMM HK
  go_wp2
  exact bodyPost_ret (v := .tuple #[.agg #[.slice none 0 0, .int .i64 0], .bool false]) (by simp [results, Tryd.results17, go_sem, r0, r1]) rfl ⟨rfl, R.out.1⟩

end Go.Proofs.YtdbneenlejgjcaaDoor
