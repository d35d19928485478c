/-
  putRice of the program: what it says otherwise; the function of PutRice.
-/
import Derived.Test.YtdbneenlejgjcaaDoorRic
namespace Go.Proofs.YtdbneenlejgjcaaDoor
open Go.RowKit
variable {K : List (Nat × Obj)}

set_option maxHeartbeats 1000000 in
theorem putRice_number (n k : Int) (w : World) (p : Value) (hE : ErrAt w 0) (hr : Rl n k = -1) :
    Calls Tryd.prog 42 #[p, .int .i64 n, .int .i64 k] w fun e w' => (∃ t v, e = .returned (.iface t v)) ∧ w = w' := by
  obtain ⟨t, v, hc⟩ := hE
  have HR := Lib.hid hr
  clear hr
  go_enter Tryd.func42, Tryd.ntmps42
  go_wp2_with fail
  refine (iRiceLength n k _ _ HR.out).mono ?_
  rintro e w' ⟨rfl, rfl⟩
  go_wp2
  go_ret
  exact ⟨⟨t, v, rfl⟩, rfl⟩

set_option maxRecDepth 100000 in
set_option maxHeartbeats 2000000 in
theorem putRice_room (n : Int) (z k : Nat) (w0 w : World) (B : Nat) (bs : List Bool) (hz : Zz n = (z : Int)) (hk : k ≤ 14) (hq : z / 2 ^ k ≤ 500) (hW : Wtr K w0 w B bs) (hE : ErrAt w0 1) (hl : bs.length ≤ 16384) (hb : 16384 < bs.length + (z / 2 ^ k + 1 + k)) :
    Calls Tryd.prog 42 #[.pointer (some ⟨B, 0, none⟩), .int .i64 n, .int .i64 (k : Int)] w fun e w' => (∃ t v, e = .returned (.iface t v)) ∧ w0.grownBy w' none := by
  obtain ⟨q, hqq⟩ : ∃ q, z / 2 ^ k = q := ⟨_, rfl⟩
  have hRl := Rl_good hz (rfl : (k : Int) = (k : Int)) hk hq
  have hz8 := Zz_le n
  rw [hz] at hz8
  have hz9 : z ≤ 8388606 := by omega
  have hz10 : (z : Int) ≤ 8388606 := by omega
  rw [hqq] at hRl hq hb
  obtain ⟨h, hh⟩ : ∃ h : Int, 2 ^ k = h := ⟨_, rfl⟩
  have hp2 : (2 : Nat) ^ k ≤ 2 ^ 14 := Nat.pow_le_pow_right (by decide) hk
  have hp3 : 1 ≤ (2 : Nat) ^ k := Nat.one_le_two_pow
  have hpe : h = ((2 ^ k : Nat) : Int) := by rw [← hh]; simp
  have hp0 : 1 ≤ h := by omega
  have hp1 : h ≤ 16384 := by rw [hpe]; exact_mod_cast hp2
  have HDV : Hid ((z : Int) / h = (q : Int)) := by show _ = _; rw [hpe, ← hqq]; simp
  have HAN : Hid (bits .and .i64 (z : Int) (h - 1) = ((z % 2 ^ k : Nat) : Int)) := by
    show _ = _
    rw [hpe, show ((2 ^ k : Nat) : Int) - 1 = ((2 ^ k - 1 : Nat) : Int) by omega, i64_and_nat z (2 ^ k - 1) (by omega) (by omega), Nat.and_two_pow_sub_one_eq_mod]
  have d1 : decide ((q : Int) + 1 + (k : Int) < 0) = false := by simp; omega
  have HZ := Lib.hid hz
  have HRL := Lib.hid hRl
  have HW := Lib.hid hW
  have HQ := Lib.hid hqq
  have HB := Lib.hid hb
  have HE := Lib.hid hE
  clear hz hRl hW hqq hb hE hz8 hp2 hp3 hpe
  go_enter Tryd.func42, Tryd.ntmps42
  go_wp2_with fail
  refine (iRiceLength n (k : Int) _ _ HRL.out).mono ?_
  rintro e w' ⟨rfl, rfl⟩
  go_wp2_with fail
  refine (iZigzag n _ _ HZ.out).mono ?_
  rintro e w' ⟨rfl, rfl⟩
  go_wp2_with fail
  first | rw [HDV.out] | (trace_state; fail)
  by_cases hu : 16384 < bs.length + q + 1
  · refine (putUnary_room q w0 _ B bs HW.out (HE.out.grown HW.out.g) hq hl hu).mono ?_
    rintro e w2 ⟨⟨t, v, rfl⟩, rfl⟩
    go_wp2
    go_ret
    exact ⟨⟨t, v, rfl⟩, HW.out.g⟩
  refine (putUnary_good q w0 _ B bs HW.out hq (by omega)).mono ?_
  rintro e w2 ⟨rfl, hW2⟩
  have HW2 := Lib.hid hW2
  clear hW2
  go_wp2_with fail
  rw [HAN.out]
  refine (put_room (z % 2 ^ k) k w0 _ B _ HW2.out (HE.out.grown HW2.out.g) (by omega) (Nat.mod_lt _ (Nat.two_pow_pos k)) (by rw [List.length_append, una_len]; omega) (by rw [List.length_append, una_len]; have := HB.out; omega)).mono ?_
  rintro e w3 ⟨⟨t, v, rfl⟩, rfl⟩
  go_wp2
  go_ret
  exact ⟨⟨t, v, rfl⟩, HW2.out.g⟩

set_option maxHeartbeats 400000 in
theorem clo_rice (x z : Int) (B P0 P1 : Nat) (w : World) (h0 : w.cell? ⟨P0, 0, none⟩ = some (.int .i64 x)) (h1 : w.cell? ⟨P1, 0, none⟩ = some (.int .i64 z)) (Q : Ending → World → Prop)
    (hc : Calls Tryd.prog 42 #[.pointer (some ⟨B, 0, none⟩), .int .i64 x, .int .i64 z] w fun e w' => (e = .returned .nilIface ∨ ∃ t v, e = .returned (.iface t v)) ∧ Q e w') :
    Calls Tryd.prog 41 #[.pointer (some ⟨B, 0, none⟩), .pointer (some ⟨P0, 0, none⟩), .pointer (some ⟨P1, 0, none⟩)] w Q := by
  have HC := Lib.hid hc
  clear hc
  go_enter Tryd.func41, Tryd.ntmps41
  go_wp2_with fail
  refine HC.out.mono ?_
  rintro e w' ⟨he, hq⟩
  have HQ := Lib.hid hq
  clear hq h0 h1
  rcases he with rfl | ⟨t, v, rfl⟩
  · go_wp2
    exact HQ.out
  · go_wp2
    exact HQ.out

set_option maxRecDepth 100000 in
set_option maxHeartbeats 2000000 in
theorem iRic_good (c x z : Int) (bs : List Bool) (ao : Option Addr) (len cap : Nat) (w : World)
    (HC : Hid (∀ (w1 : World), w.grownBy w1 none → (∀ w2, w1.grownBy w2 none → w2.cell? ⟨w.heap.size + 1, 0, none⟩ = some (.int .i64 x) ∧ w2.cell? ⟨w.heap.size + 2, 0, none⟩ = some (.int .i64 z)) → Calls Tryd.prog 40 #[.agg #[.slice ao len cap, .int .i64 c], .func (.func 41) #[] #[.pointer (some ⟨w.heap.size + 1, 0, none⟩), .pointer (some ⟨w.heap.size + 2, 0, none⟩)]] w1 (GaveBits bs w1))) :
    Calls Tryd.prog 15 #[.agg #[.slice ao len cap, .int .i64 c], .int .i64 x, .int .i64 z] w (GaveBits bs w) := by
  have HMM := Lib.hid (((((Mem.start w).block (.cells #[.slice ao len cap, .int .i64 c] 28)).block (.cells #[.int .i64 x] 3)).block (.cells #[.int .i64 z] 3)).block (.cells #[.slice none 0 0, .int .i64 0] 28))
  have b1 := HMM.out.get (b := w.heap.size + 1) (o := (.cells #[.int .i64 x] 3)) (by simp)
  have b2 := HMM.out.get (b := w.heap.size + 2) (o := (.cells #[.int .i64 z] 3)) (by simp)
  have HK := Lib.hid (HC.out ((((w.alloc (.cells #[.slice ao len cap, .int .i64 c] 28)).alloc (.cells #[.int .i64 x] 3)).alloc (.cells #[.int .i64 z] 3)).alloc (.cells #[.slice none 0 0, .int .i64 0] 28)) HMM.out.g (fun w2 hg => ⟨by rw [cell_of_row w2 _ 0 _ _ _ (grown_heap hg b1 (by simp))]; rfl, by rw [cell_of_row w2 _ 0 _ _ _ (grown_heap hg b2 (by simp))]; rfl⟩))
  clear b1 b2 HC
  go_enter Tryd.func15, Tryd.ntmps15
  go_wp2_with fail
  refine HK.out.mono ?_
  rintro e w3 ⟨v3, rfl, ho3, hg3⟩
  obtain ⟨a3, c3, rfl, _⟩ := ho3.reads
  obtain ⟨m', hm'⟩ : ∃ m', bs.length = m' := ⟨_, rfl⟩
  obtain ⟨n', hn'⟩ : ∃ n', (m' + 7) / 8 = n' := ⟨_, rfl⟩
  rw [hm', hn'] at ho3
  have hA := grown_heap hg3 (HMM.out.get (b := w.heap.size + 3) (o := (.cells #[.slice none 0 0, .int .i64 0] 28)) (by simp)) (by simp)
  have r0 : w3.cell? ⟨w.heap.size + 1 + 1 + 1, 0, none⟩ = some (.slice none 0 0) := by rw [cell_of_row w3 (w.heap.size + 3) 0 _ _ _ hA]; rfl
  have r1 : w3.cell? ⟨w.heap.size + 1 + 1 + 1, 1, none⟩ = some (.int .i64 0) := by rw [cell_of_row w3 (w.heap.size + 3) 1 _ _ _ hA]; rfl
  have f0 : w3.frozen? ⟨w.heap.size + 1 + 1 + 1, 0, none⟩ = false := frozen_of_row w3 (w.heap.size + 3) 0 _ _ hA
  have f1 : w3.frozen? ⟨w.heap.size + 1 + 1 + 1, 1, none⟩ = false := frozen_of_row w3 (w.heap.size + 3) 1 _ _ hA
  have R : Hid (Owns ((w3.setCell ⟨w.heap.size + 1 + 1 + 1, 0, none⟩ (.slice a3 n' c3)).setCell ⟨w.heap.size + 1 + 1 + 1, 1, none⟩ (.int .i64 (m' : Int))) w.heap.size (.slice a3 n' c3) n' (pk bs) ∧ w.grownBy ((w3.setCell ⟨w.heap.size + 1 + 1 + 1, 0, none⟩ (.slice a3 n' c3)).setCell ⟨w.heap.size + 1 + 1 + 1, 1, none⟩ (.int .i64 (m' : Int))) none ∧ w.heap.size + 4 ≤ w3.heap.size ∧ bs.length = m' ∧ (bs.length + 7) / 8 = n') := by
    have hne : (Value.slice a3 n' c3).ownBlock ≠ some (w.heap.size + 1 + 1 + 1) := fun e => by have := ho3.block _ e; simp at this; omega
    have hsz := hg3.size
    exact ⟨((ho3.set _ _ hne).set _ _ hne).base_le (by simp; omega), grown_set (grown_set (grown_trans HMM.out.g hg3) (by simp; omega)) (by simp; omega), by simpa using hsz, hm', by rw [hm', hn']⟩
  have hz := R.out.2.2.1
  rw [hm', hn']
  clear ho3 hg3 hA hm' hn' HMM HK
  go_wp2
  refine bodyPost_ret (v := .tuple #[.agg #[.slice a3 n' c3, .int .i64 (m' : Int)], .bool true]) (by simp [results, Tryd.results15, go_sem, r0, r1]) rfl ⟨.slice a3 n' c3, ?_, ?_, R.out.2.1⟩
  · rw [R.out.2.2.2.1]
  · rw [R.out.2.2.2.2]; exact R.out.1

set_option maxRecDepth 100000 in
set_option maxHeartbeats 2000000 in
theorem iRic_none (c x z : Int) (ao : Option Addr) (len cap : Nat) (w : World)
    (HC : Hid (∀ (w1 : World), w.grownBy w1 none → (∀ w2, w1.grownBy w2 none → w2.cell? ⟨w.heap.size + 1, 0, none⟩ = some (.int .i64 x) ∧ w2.cell? ⟨w.heap.size + 2, 0, none⟩ = some (.int .i64 z)) → Calls Tryd.prog 40 #[.agg #[.slice ao len cap, .int .i64 c], .func (.func 41) #[] #[.pointer (some ⟨w.heap.size + 1, 0, none⟩), .pointer (some ⟨w.heap.size + 2, 0, none⟩)]] w1 (GaveNone w1))) :
    Calls Tryd.prog 15 #[.agg #[.slice ao len cap, .int .i64 c], .int .i64 x, .int .i64 z] w (GaveNone w) := by
  have HMM := Lib.hid (((((Mem.start w).block (.cells #[.slice ao len cap, .int .i64 c] 28)).block (.cells #[.int .i64 x] 3)).block (.cells #[.int .i64 z] 3)).block (.cells #[.slice none 0 0, .int .i64 0] 28))
  have b1 := HMM.out.get (b := w.heap.size + 1) (o := (.cells #[.int .i64 x] 3)) (by simp)
  have b2 := HMM.out.get (b := w.heap.size + 2) (o := (.cells #[.int .i64 z] 3)) (by simp)
  have HK := Lib.hid (HC.out ((((w.alloc (.cells #[.slice ao len cap, .int .i64 c] 28)).alloc (.cells #[.int .i64 x] 3)).alloc (.cells #[.int .i64 z] 3)).alloc (.cells #[.slice none 0 0, .int .i64 0] 28)) HMM.out.g (fun w2 hg => ⟨by rw [cell_of_row w2 _ 0 _ _ _ (grown_heap hg b1 (by simp))]; rfl, by rw [cell_of_row w2 _ 0 _ _ _ (grown_heap hg b2 (by simp))]; rfl⟩))
  clear b1 b2 HC
  go_enter Tryd.func15, Tryd.ntmps15
  go_wp2_with fail
  refine HK.out.mono ?_
  rintro e w3 ⟨rfl, hg3⟩
  have hA := grown_heap hg3 (HMM.out.get (b := w.heap.size + 3) (o := (.cells #[.slice none 0 0, .int .i64 0] 28)) (by simp)) (by simp)
  have r0 : w3.cell? ⟨w.heap.size + 1 + 1 + 1, 0, none⟩ = some (.slice none 0 0) := by rw [cell_of_row w3 (w.heap.size + 3) 0 _ _ _ hA]; rfl
  have r1 : w3.cell? ⟨w.heap.size + 1 + 1 + 1, 1, none⟩ = some (.int .i64 0) := by rw [cell_of_row w3 (w.heap.size + 3) 1 _ _ _ hA]; rfl
  have f0 : w3.frozen? ⟨w.heap.size + 1 + 1 + 1, 0, none⟩ = false := frozen_of_row w3 (w.heap.size + 3) 0 _ _ hA
  have f1 : w3.frozen? ⟨w.heap.size + 1 + 1 + 1, 1, none⟩ = false := frozen_of_row w3 (w.heap.size + 3) 1 _ _ hA
  have R : Hid (w.grownBy ((w3.setCell ⟨w.heap.size + 1 + 1 + 1, 0, none⟩ (.slice none 0 0)).setCell ⟨w.heap.size + 1 + 1 + 1, 1, none⟩ (.int .i64 0)) none ∧ w.heap.size + 4 ≤ w3.heap.size) := by
    have hsz := hg3.size
    exact ⟨grown_set (grown_set (grown_trans HMM.out.g hg3) (by simp; omega)) (by simp; omega), by simpa using hsz⟩
  have hz := R.out.2
  clear hg3 hA HMM HK
  go_wp2
  exact bodyPost_ret (v := .tuple #[.agg #[.slice none 0 0, .int .i64 0], .bool false]) (by simp [results, Tryd.results15, go_sem, r0, r1]) rfl ⟨rfl, R.out.1⟩

end Go.Proofs.YtdbneenlejgjcaaDoor
