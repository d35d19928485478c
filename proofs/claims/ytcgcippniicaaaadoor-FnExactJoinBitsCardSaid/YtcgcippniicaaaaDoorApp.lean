/-
  A code appended: a new writer, what a function puts, its bits; or nothing and false. One text for each function that is handed over.
-/
import Derived.Test.YtcgcippniicaaaaDoorWtr2
namespace Go.Proofs.YtcgcippniicaaaaDoor
open Go.RowKit

/-- Bits and whether there are any. -/
def GaveBits (bs : List Bool) (w : World) (e : Ending) (w' : World) : Prop :=
  ∃ v, e = .returned (.tuple #[.agg #[v, .int .i64 (bs.length : Int)], .bool true]) ∧ Owns w' w.heap.size v ((bs.length + 7) / 8) (pk bs) ∧ w.grownBy w' none
def GaveNone (w : World) (e : Ending) (w' : World) : Prop :=
  e = .returned (.tuple #[.agg #[.slice none 0 0, .int .i64 0], .bool false]) ∧ w.grownBy w' none

set_option maxRecDepth 100000 in
set_option maxHeartbeats 2000000 in
theorem app_good_put (P0 P1 : Nat) (bs bs' : List Bool) (m : Nat) (hm : bs.length = m) (ao : Option Addr) (len cap : Nat) (w : World) (hx : Ints w ao len (pk bs)) (hn : ao = none → cap = 0) (hb : bs.length ≤ 16384)
    (HC : Hid (∀ (w1 w2 : World) (B : Nat), w.grownBy w1 none → Wtr [] w1 w2 B bs → Calls Tryd.prog 35 #[.pointer (some ⟨B, 0, none⟩), .pointer (some ⟨P0, 0, none⟩), .pointer (some ⟨P1, 0, none⟩)] w2 fun e w' => e = .returned .nilIface ∧ Wtr [] w1 w' B bs')) :
    Calls Tryd.prog 34 #[.agg #[.slice ao len cap, .int .i64 (m : Int)], .func (.func 35) #[] #[.pointer (some ⟨P0, 0, none⟩), .pointer (some ⟨P1, 0, none⟩)]] w (GaveBits bs' w) := by
  have HX := Lib.hid hx
  have HN := Lib.hid hn
  have HM := Lib.hid hm
  have HB := Lib.hid hb
  clear hx hn hm hb
  go_enter Tryd.func34, Tryd.ntmps34
  go_wp2_with fail
  refine (newWriter_at bs m HM.out ao len cap _ ((HX.out.grown (grown_alloc _ _ _)).grown (grown_alloc _ _ _)) HN.out HB.out).mono ?_
  rintro e w1 ⟨B, rfl, hW⟩
  have HW := Lib.hid hW
  clear hW
  go_wp2_with fail
  refine (HC.out _ _ B (grown_trans (grown_alloc w (.cells #[.slice ao len cap, .int .i64 (m : Int)] 25) none) (grown_alloc _ (.cells #[.slice none 0 0, .int .i64 0] 25) _)) HW.out).mono ?_
  rintro e w2 ⟨rfl, hW2⟩
  have HW2 := Lib.hid hW2
  clear hW2
  go_wp2_with fail
  refine (bits_any _ _ B bs' HW2.out).mono ?_
  rintro e w3 ⟨v3, rfl, ho3, hg3⟩
  obtain ⟨a3, c3, rfl, _⟩ := ho3.reads
  have hA0 := heap_alloc2_new w (.cells #[.slice ao len cap, .int .i64 (m : Int)] 25) (.cells #[.slice none 0 0, .int .i64 0] 25)
  have hgg := grown_trans HW2.out.g hg3
  have hA := grown_heap hgg hA0 (by simp)
  obtain ⟨m', hm'⟩ : ∃ m', bs'.length = m' := ⟨_, rfl⟩
  obtain ⟨n', hn'⟩ : ∃ n', (m' + 7) / 8 = n' := ⟨_, rfl⟩
  have r0 : w3.cell? ⟨w.heap.size + 1, 0, none⟩ = some (.slice none 0 0) := by rw [cell_of_row w3 _ 0 _ _ _ hA]; rfl
  have r1 : w3.cell? ⟨w.heap.size + 1, 1, none⟩ = some (.int .i64 0) := by rw [cell_of_row w3 _ 1 _ _ _ hA]; rfl
  have f0 : w3.frozen? ⟨w.heap.size + 1, 0, none⟩ = false := frozen_of_row w3 _ 0 _ _ hA
  have f1 : w3.frozen? ⟨w.heap.size + 1, 1, none⟩ = false := frozen_of_row w3 _ 1 _ _ hA
  have R : Hid (Owns ((w3.setCell ⟨w.heap.size + 1, 0, none⟩ (.slice a3 n' c3)).setCell ⟨w.heap.size + 1, 1, none⟩ (.int .i64 (m' : Int))) w.heap.size (.slice a3 n' c3) n' (pk bs') ∧ w.grownBy ((w3.setCell ⟨w.heap.size + 1, 0, none⟩ (.slice a3 n' c3)).setCell ⟨w.heap.size + 1, 1, none⟩ (.int .i64 (m' : Int))) none ∧ w.heap.size + 2 ≤ w3.heap.size ∧ bs'.length = m' ∧ (bs'.length + 7) / 8 = n') := by
    rw [hm', hn'] at ho3
    have hne : (Value.slice a3 n' c3).ownBlock ≠ some (w.heap.size + 1) := fun e => by have := ho3.block _ e; simp at this; omega
    have hsz := hgg.size
    exact ⟨((ho3.set _ _ hne).set _ _ hne).base_le (by simp; omega), grown_set (grown_set (grown_trans (grown_trans (grown_alloc w (.cells #[.slice ao len cap, .int .i64 (m : Int)] 25) none) (grown_alloc _ (.cells #[.slice none 0 0, .int .i64 0] 25) _)) hgg) (by simp)) (by simp), by simpa using hsz, hm', by rw [hm', hn']⟩
  have hz := R.out.2.2.1
  rw [hm', hn']
  clear ho3 hg3 hA0 hgg hA HW2 HW hm' hn' HX
  go_wp2
  refine bodyPost_ret (v := .tuple #[.agg #[.slice a3 n' c3, .int .i64 (m' : Int)], .bool true]) (by simp [results, Tryd.results34, go_sem, r0, r1]) rfl ⟨.slice a3 n' c3, ?_, ?_, R.out.2.1⟩
  · rw [R.out.2.2.2.1]
  · rw [R.out.2.2.2.2]; exact R.out.1

set_option maxRecDepth 100000 in
set_option maxHeartbeats 2000000 in
theorem app_bad_put (P0 P1 : Nat) (bs : List Bool) (m : Nat) (hm : bs.length = m) (ao : Option Addr) (len cap : Nat) (w : World) (hx : Ints w ao len (pk bs)) (hn : ao = none → cap = 0) (hb : bs.length ≤ 16384)
    (HC : Hid (∀ (w1 w2 : World) (B : Nat), w.grownBy w1 none → Wtr [] w1 w2 B bs → Calls Tryd.prog 35 #[.pointer (some ⟨B, 0, none⟩), .pointer (some ⟨P0, 0, none⟩), .pointer (some ⟨P1, 0, none⟩)] w2 fun e w' => (∃ t v, e = .returned (.iface t v)) ∧ w1.grownBy w' none)) :
    Calls Tryd.prog 34 #[.agg #[.slice ao len cap, .int .i64 (m : Int)], .func (.func 35) #[] #[.pointer (some ⟨P0, 0, none⟩), .pointer (some ⟨P1, 0, none⟩)]] w (GaveNone w) := by
  have HX := Lib.hid hx
  have HN := Lib.hid hn
  have HM := Lib.hid hm
  have HB := Lib.hid hb
  clear hx hn hm hb
  go_enter Tryd.func34, Tryd.ntmps34
  go_wp2_with fail
  refine (newWriter_at bs m HM.out ao len cap _ ((HX.out.grown (grown_alloc _ _ _)).grown (grown_alloc _ _ _)) HN.out HB.out).mono ?_
  rintro e w1 ⟨B, rfl, hW⟩
  have HW := Lib.hid hW
  clear hW
  go_wp2_with fail
  refine (HC.out _ _ B (grown_trans (grown_alloc w (.cells #[.slice ao len cap, .int .i64 (m : Int)] 25) none) (grown_alloc _ (.cells #[.slice none 0 0, .int .i64 0] 25) _)) HW.out).mono ?_
  rintro e w3 ⟨⟨t, v, rfl⟩, hg3⟩
  have hA0 := heap_alloc2_new w (.cells #[.slice ao len cap, .int .i64 (m : Int)] 25) (.cells #[.slice none 0 0, .int .i64 0] 25)
  have hA := grown_heap hg3 hA0 (by simp)
  have r0 : w3.cell? ⟨w.heap.size + 1, 0, none⟩ = some (.slice none 0 0) := by rw [cell_of_row w3 _ 0 _ _ _ hA]; rfl
  have r1 : w3.cell? ⟨w.heap.size + 1, 1, none⟩ = some (.int .i64 0) := by rw [cell_of_row w3 _ 1 _ _ _ hA]; rfl
  have f0 : w3.frozen? ⟨w.heap.size + 1, 0, none⟩ = false := frozen_of_row w3 _ 0 _ _ hA
  have f1 : w3.frozen? ⟨w.heap.size + 1, 1, none⟩ = false := frozen_of_row w3 _ 1 _ _ hA
  have R : Hid (w.grownBy ((w3.setCell ⟨w.heap.size + 1, 0, none⟩ (.slice none 0 0)).setCell ⟨w.heap.size + 1, 1, none⟩ (.int .i64 0)) none ∧ w.heap.size + 2 ≤ w3.heap.size) := by
    have hsz := hg3.size
    exact ⟨grown_set (grown_set (grown_trans (grown_trans (grown_alloc w (.cells #[.slice ao len cap, .int .i64 (m : Int)] 25) none) (grown_alloc _ (.cells #[.slice none 0 0, .int .i64 0] 25) _)) hg3) (by simp)) (by simp), by simpa using hsz⟩
  have hz := R.out.2
  clear hg3 hA0 hA HW HX
  go_wp2
  exact bodyPost_ret (v := .tuple #[.agg #[.slice none 0 0, .int .i64 0], .bool false]) (by simp [results, Tryd.results34, go_sem, r0, r1]) rfl ⟨rfl, R.out.1⟩

set_option maxRecDepth 100000 in
set_option maxHeartbeats 2000000 in
theorem app_inv_put (P0 P1 : Nat) (xs : List Int) (c : Int) (ao : Option Addr) (len cap : Nat) (w : World) (hx : Ints w ao len xs) (hlen : len ≤ 4194304) (hv : VB xs c = false) (hE : ErrAt w 3) :
    Calls Tryd.prog 34 #[.agg #[.slice ao len cap, .int .i64 c], .func (.func 35) #[] #[.pointer (some ⟨P0, 0, none⟩), .pointer (some ⟨P1, 0, none⟩)]] w (GaveNone w) := by
  have HX := Lib.hid hx
  have HV := Lib.hid hv
  have HE := Lib.hid hE
  clear hx hv hE
  go_enter Tryd.func34, Tryd.ntmps34
  go_wp2_with fail
  refine (newWriter_bad xs ao len cap c _ ((HX.out.grown (grown_alloc _ _ _)).grown (grown_alloc _ _ _)) hlen HV.out ((HE.out.grown (grown_alloc _ _ _)).grown (grown_alloc _ _ _))).mono ?_
  rintro e w3 ⟨⟨t, v, rfl⟩, hg3⟩
  have hA0 := heap_alloc2_new w (.cells #[.slice ao len cap, .int .i64 c] 25) (.cells #[.slice none 0 0, .int .i64 0] 25)
  have hA := grown_heap hg3 hA0 (by simp)
  have r0 : w3.cell? ⟨w.heap.size + 1, 0, none⟩ = some (.slice none 0 0) := by rw [cell_of_row w3 _ 0 _ _ _ hA]; rfl
  have r1 : w3.cell? ⟨w.heap.size + 1, 1, none⟩ = some (.int .i64 0) := by rw [cell_of_row w3 _ 1 _ _ _ hA]; rfl
  have f0 : w3.frozen? ⟨w.heap.size + 1, 0, none⟩ = false := frozen_of_row w3 _ 0 _ _ hA
  have f1 : w3.frozen? ⟨w.heap.size + 1, 1, none⟩ = false := frozen_of_row w3 _ 1 _ _ hA
  have R : Hid (w.grownBy ((w3.setCell ⟨w.heap.size + 1, 0, none⟩ (.slice none 0 0)).setCell ⟨w.heap.size + 1, 1, none⟩ (.int .i64 0)) none ∧ w.heap.size + 2 ≤ w3.heap.size) := by
    have hsz := hg3.size
    exact ⟨grown_set (grown_set (grown_trans (grown_trans (grown_alloc w (.cells #[.slice ao len cap, .int .i64 c] 25) none) (grown_alloc _ (.cells #[.slice none 0 0, .int .i64 0] 25) _)) hg3) (by simp)) (by simp), by simpa using hsz⟩
  have hz := R.out.2
  clear hg3 hA0 hA HX
  go_wp2
  exact bodyPost_ret (v := .tuple #[.agg #[.slice none 0 0, .int .i64 0], .bool false]) (by simp [results, Tryd.results34, go_sem, r0, r1]) rfl ⟨rfl, R.out.1⟩

set_option maxRecDepth 100000 in
set_option maxHeartbeats 2000000 in
theorem app_good_join (P0 : Nat) (bs bs' : List Bool) (m : Nat) (hm : bs.length = m) (ao : Option Addr) (len cap : Nat) (w : World) (hx : Ints w ao len (pk bs)) (hn : ao = none → cap = 0) (hb : bs.length ≤ 16384)
    (HC : Hid (∀ (w1 w2 : World) (B : Nat), w.grownBy w1 none → Wtr [] w1 w2 B bs → Calls Tryd.prog 48 #[.pointer (some ⟨B, 0, none⟩), .pointer (some ⟨P0, 0, none⟩)] w2 fun e w' => e = .returned .nilIface ∧ Wtr [] w1 w' B bs')) :
    Calls Tryd.prog 34 #[.agg #[.slice ao len cap, .int .i64 (m : Int)], .func (.func 48) #[] #[.pointer (some ⟨P0, 0, none⟩)]] w (GaveBits bs' w) := by
  have HX := Lib.hid hx
  have HN := Lib.hid hn
  have HM := Lib.hid hm
  have HB := Lib.hid hb
  clear hx hn hm hb
  go_enter Tryd.func34, Tryd.ntmps34
  go_wp2_with fail
  refine (newWriter_at bs m HM.out ao len cap _ ((HX.out.grown (grown_alloc _ _ _)).grown (grown_alloc _ _ _)) HN.out HB.out).mono ?_
  rintro e w1 ⟨B, rfl, hW⟩
  have HW := Lib.hid hW
  clear hW
  go_wp2_with fail
  refine (HC.out _ _ B (grown_trans (grown_alloc w (.cells #[.slice ao len cap, .int .i64 (m : Int)] 25) none) (grown_alloc _ (.cells #[.slice none 0 0, .int .i64 0] 25) _)) HW.out).mono ?_
  rintro e w2 ⟨rfl, hW2⟩
  have HW2 := Lib.hid hW2
  clear hW2
  go_wp2_with fail
  refine (bits_any _ _ B bs' HW2.out).mono ?_
  rintro e w3 ⟨v3, rfl, ho3, hg3⟩
  obtain ⟨a3, c3, rfl, _⟩ := ho3.reads
  have hA0 := heap_alloc2_new w (.cells #[.slice ao len cap, .int .i64 (m : Int)] 25) (.cells #[.slice none 0 0, .int .i64 0] 25)
  have hgg := grown_trans HW2.out.g hg3
  have hA := grown_heap hgg hA0 (by simp)
  obtain ⟨m', hm'⟩ : ∃ m', bs'.length = m' := ⟨_, rfl⟩
  obtain ⟨n', hn'⟩ : ∃ n', (m' + 7) / 8 = n' := ⟨_, rfl⟩
  have r0 : w3.cell? ⟨w.heap.size + 1, 0, none⟩ = some (.slice none 0 0) := by rw [cell_of_row w3 _ 0 _ _ _ hA]; rfl
  have r1 : w3.cell? ⟨w.heap.size + 1, 1, none⟩ = some (.int .i64 0) := by rw [cell_of_row w3 _ 1 _ _ _ hA]; rfl
  have f0 : w3.frozen? ⟨w.heap.size + 1, 0, none⟩ = false := frozen_of_row w3 _ 0 _ _ hA
  have f1 : w3.frozen? ⟨w.heap.size + 1, 1, none⟩ = false := frozen_of_row w3 _ 1 _ _ hA
  have R : Hid (Owns ((w3.setCell ⟨w.heap.size + 1, 0, none⟩ (.slice a3 n' c3)).setCell ⟨w.heap.size + 1, 1, none⟩ (.int .i64 (m' : Int))) w.heap.size (.slice a3 n' c3) n' (pk bs') ∧ w.grownBy ((w3.setCell ⟨w.heap.size + 1, 0, none⟩ (.slice a3 n' c3)).setCell ⟨w.heap.size + 1, 1, none⟩ (.int .i64 (m' : Int))) none ∧ w.heap.size + 2 ≤ w3.heap.size ∧ bs'.length = m' ∧ (bs'.length + 7) / 8 = n') := by
    rw [hm', hn'] at ho3
    have hne : (Value.slice a3 n' c3).ownBlock ≠ some (w.heap.size + 1) := fun e => by have := ho3.block _ e; simp at this; omega
    have hsz := hgg.size
    exact ⟨((ho3.set _ _ hne).set _ _ hne).base_le (by simp; omega), grown_set (grown_set (grown_trans (grown_trans (grown_alloc w (.cells #[.slice ao len cap, .int .i64 (m : Int)] 25) none) (grown_alloc _ (.cells #[.slice none 0 0, .int .i64 0] 25) _)) hgg) (by simp)) (by simp), by simpa using hsz, hm', by rw [hm', hn']⟩
  have hz := R.out.2.2.1
  rw [hm', hn']
  clear ho3 hg3 hA0 hgg hA HW2 HW hm' hn' HX
  go_wp2
  refine bodyPost_ret (v := .tuple #[.agg #[.slice a3 n' c3, .int .i64 (m' : Int)], .bool true]) (by simp [results, Tryd.results34, go_sem, r0, r1]) rfl ⟨.slice a3 n' c3, ?_, ?_, R.out.2.1⟩
  · rw [R.out.2.2.2.1]
  · rw [R.out.2.2.2.2]; exact R.out.1

set_option maxRecDepth 100000 in
set_option maxHeartbeats 2000000 in
theorem app_bad_join (P0 : Nat) (bs : List Bool) (m : Nat) (hm : bs.length = m) (ao : Option Addr) (len cap : Nat) (w : World) (hx : Ints w ao len (pk bs)) (hn : ao = none → cap = 0) (hb : bs.length ≤ 16384)
    (HC : Hid (∀ (w1 w2 : World) (B : Nat), w.grownBy w1 none → Wtr [] w1 w2 B bs → Calls Tryd.prog 48 #[.pointer (some ⟨B, 0, none⟩), .pointer (some ⟨P0, 0, none⟩)] w2 fun e w' => (∃ t v, e = .returned (.iface t v)) ∧ w1.grownBy w' none)) :
    Calls Tryd.prog 34 #[.agg #[.slice ao len cap, .int .i64 (m : Int)], .func (.func 48) #[] #[.pointer (some ⟨P0, 0, none⟩)]] w (GaveNone w) := by
  have HX := Lib.hid hx
  have HN := Lib.hid hn
  have HM := Lib.hid hm
  have HB := Lib.hid hb
  clear hx hn hm hb
  go_enter Tryd.func34, Tryd.ntmps34
  go_wp2_with fail
  refine (newWriter_at bs m HM.out ao len cap _ ((HX.out.grown (grown_alloc _ _ _)).grown (grown_alloc _ _ _)) HN.out HB.out).mono ?_
  rintro e w1 ⟨B, rfl, hW⟩
  have HW := Lib.hid hW
  clear hW
  go_wp2_with fail
  refine (HC.out _ _ B (grown_trans (grown_alloc w (.cells #[.slice ao len cap, .int .i64 (m : Int)] 25) none) (grown_alloc _ (.cells #[.slice none 0 0, .int .i64 0] 25) _)) HW.out).mono ?_
  rintro e w3 ⟨⟨t, v, rfl⟩, hg3⟩
  have hA0 := heap_alloc2_new w (.cells #[.slice ao len cap, .int .i64 (m : Int)] 25) (.cells #[.slice none 0 0, .int .i64 0] 25)
  have hA := grown_heap hg3 hA0 (by simp)
  have r0 : w3.cell? ⟨w.heap.size + 1, 0, none⟩ = some (.slice none 0 0) := by rw [cell_of_row w3 _ 0 _ _ _ hA]; rfl
  have r1 : w3.cell? ⟨w.heap.size + 1, 1, none⟩ = some (.int .i64 0) := by rw [cell_of_row w3 _ 1 _ _ _ hA]; rfl
  have f0 : w3.frozen? ⟨w.heap.size + 1, 0, none⟩ = false := frozen_of_row w3 _ 0 _ _ hA
  have f1 : w3.frozen? ⟨w.heap.size + 1, 1, none⟩ = false := frozen_of_row w3 _ 1 _ _ hA
  have R : Hid (w.grownBy ((w3.setCell ⟨w.heap.size + 1, 0, none⟩ (.slice none 0 0)).setCell ⟨w.heap.size + 1, 1, none⟩ (.int .i64 0)) none ∧ w.heap.size + 2 ≤ w3.heap.size) := by
    have hsz := hg3.size
    exact ⟨grown_set (grown_set (grown_trans (grown_trans (grown_alloc w (.cells #[.slice ao len cap, .int .i64 (m : Int)] 25) none) (grown_alloc _ (.cells #[.slice none 0 0, .int .i64 0] 25) _)) hg3) (by simp)) (by simp), by simpa using hsz⟩
  have hz := R.out.2
  clear hg3 hA0 hA HW HX
  go_wp2
  exact bodyPost_ret (v := .tuple #[.agg #[.slice none 0 0, .int .i64 0], .bool false]) (by simp [results, Tryd.results34, go_sem, r0, r1]) rfl ⟨rfl, R.out.1⟩

set_option maxRecDepth 100000 in
set_option maxHeartbeats 2000000 in
theorem app_inv_join (P0 : Nat) (xs : List Int) (c : Int) (ao : Option Addr) (len cap : Nat) (w : World) (hx : Ints w ao len xs) (hlen : len ≤ 4194304) (hv : VB xs c = false) (hE : ErrAt w 3) :
    Calls Tryd.prog 34 #[.agg #[.slice ao len cap, .int .i64 c], .func (.func 48) #[] #[.pointer (some ⟨P0, 0, none⟩)]] w (GaveNone w) := by
  have HX := Lib.hid hx
  have HV := Lib.hid hv
  have HE := Lib.hid hE
  clear hx hv hE
  go_enter Tryd.func34, Tryd.ntmps34
  go_wp2_with fail
  refine (newWriter_bad xs ao len cap c _ ((HX.out.grown (grown_alloc _ _ _)).grown (grown_alloc _ _ _)) hlen HV.out ((HE.out.grown (grown_alloc _ _ _)).grown (grown_alloc _ _ _))).mono ?_
  rintro e w3 ⟨⟨t, v, rfl⟩, hg3⟩
  have hA0 := heap_alloc2_new w (.cells #[.slice ao len cap, .int .i64 c] 25) (.cells #[.slice none 0 0, .int .i64 0] 25)
  have hA := grown_heap hg3 hA0 (by simp)
  have r0 : w3.cell? ⟨w.heap.size + 1, 0, none⟩ = some (.slice none 0 0) := by rw [cell_of_row w3 _ 0 _ _ _ hA]; rfl
  have r1 : w3.cell? ⟨w.heap.size + 1, 1, none⟩ = some (.int .i64 0) := by rw [cell_of_row w3 _ 1 _ _ _ hA]; rfl
  have f0 : w3.frozen? ⟨w.heap.size + 1, 0, none⟩ = false := frozen_of_row w3 _ 0 _ _ hA
  have f1 : w3.frozen? ⟨w.heap.size + 1, 1, none⟩ = false := frozen_of_row w3 _ 1 _ _ hA
  have R : Hid (w.grownBy ((w3.setCell ⟨w.heap.size + 1, 0, none⟩ (.slice none 0 0)).setCell ⟨w.heap.size + 1, 1, none⟩ (.int .i64 0)) none ∧ w.heap.size + 2 ≤ w3.heap.size) := by
    have hsz := hg3.size
    exact ⟨grown_set (grown_set (grown_trans (grown_trans (grown_alloc w (.cells #[.slice ao len cap, .int .i64 c] 25) none) (grown_alloc _ (.cells #[.slice none 0 0, .int .i64 0] 25) _)) hg3) (by simp)) (by simp), by simpa using hsz⟩
  have hz := R.out.2
  clear hg3 hA0 hA HX
  go_wp2
  exact bodyPost_ret (v := .tuple #[.agg #[.slice none 0 0, .int .i64 0], .bool false]) (by simp [results, Tryd.results34, go_sem, r0, r1]) rfl ⟨rfl, R.out.1⟩

end Go.Proofs.YtcgcippniicaaaaDoor
