/-
  PutBits of the specification: what it gives for all arguments; both texts give one result.
-/
import Derived.Test.YtcgcippniicaaaaDoorIPut
namespace Go.Proofs.YtcgcippniicaaaaDoor
open Go.RowKit


set_option maxRecDepth 100000 in
set_option maxHeartbeats 2000000 in
theorem sPut_inv (xs : List Int) (c x z : Int) (ao : Option Addr) (len cap : Nat) (w : World) (hx : Ints w ao len xs) (hlen : len ≤ 4194304) (hv : VB xs c = false) :
    Calls Tryd.prog 15 #[.agg #[.slice ao len cap, .int .i64 c], .int .i64 x, .int .i64 z] w (GaveNone w) := by
  have HMM := Lib.hid (((Mem.start w).block (.cells #[.slice ao len cap, .int .i64 c] 25)).block (.cells #[.slice none 0 0, .int .i64 0] 25))
  have k := sValidBits xs ao len cap c false ((w.alloc (.cells #[.slice ao len cap, .int .i64 c] 25)).alloc (.cells #[.slice none 0 0, .int .i64 0] 25)) (hx.grown HMM.out.g) hlen hv
  clear hx hv
  go_enter Tryd.func15, Tryd.ntmps15
  go_wp2_with fail
  refine k.mono ?_
  rintro e w1 ⟨rfl, hg1⟩
  have HM1 := Lib.hid (HMM.out.grown hg1)
  have hA := HM1.out.get (b := w.heap.size) (o := (.cells #[.slice ao len cap, .int .i64 c] 25)) (by simp)
  have hR := HM1.out.get (b := w.heap.size + 1) (o := (.cells #[.slice none 0 0, .int .i64 0] 25)) (by simp)
  have p0 : w1.cell? ⟨w.heap.size, 0, none⟩ = some (.slice ao len cap) := by rw [cell_of_row w1 _ 0 _ _ _ hA]; rfl
  have p1 : w1.cell? ⟨w.heap.size, 1, none⟩ = some (.int .i64 c) := by rw [cell_of_row w1 _ 1 _ _ _ hA]; rfl
  have r0 : w1.cell? ⟨w.heap.size + 1, 0, none⟩ = some (.slice none 0 0) := by rw [cell_of_row w1 _ 0 _ _ _ hR]; rfl
  have r1 : w1.cell? ⟨w.heap.size + 1, 1, none⟩ = some (.int .i64 0) := by rw [cell_of_row w1 _ 1 _ _ _ hR]; rfl
  have f0 : w1.frozen? ⟨w.heap.size + 1, 0, none⟩ = false := frozen_of_row w1 _ 0 _ _ hR
  have f1 : w1.frozen? ⟨w.heap.size + 1, 1, none⟩ = false := frozen_of_row w1 _ 1 _ _ hR
  have hz : w.heap.size + 2 ≤ w1.heap.size := by have := hg1.size; simpa using this
  clear hg1 hA hR HMM
  clear k
  have R : Hid (w.grownBy ((w1.setCell ⟨w.heap.size + 1, 0, none⟩ (.slice none 0 0)).setCell ⟨w.heap.size + 1, 1, none⟩ (.int .i64 0)) none) := grown_set (grown_set HM1.out.g (by simp)) (by simp)
  go_wp2
  exact bodyPost_ret (v := .tuple #[.agg #[.slice none 0 0, .int .i64 0], .bool false]) (by simp [results, Tryd.results15, go_sem, r0, r1]) rfl ⟨rfl, R.out⟩

set_option maxRecDepth 100000 in
set_option maxHeartbeats 2000000 in
theorem sPut_width (xs : List Int) (c x z : Int) (ao : Option Addr) (len cap : Nat) (w : World) (hx : Ints w ao len xs) (hlen : len ≤ 4194304) (hv : VB xs c = true) (hzz : inB z 0 32 = false) :
    Calls Tryd.prog 15 #[.agg #[.slice ao len cap, .int .i64 c], .int .i64 x, .int .i64 z] w (GaveNone w) := by
  have HMM := Lib.hid (((Mem.start w).block (.cells #[.slice ao len cap, .int .i64 c] 25)).block (.cells #[.slice none 0 0, .int .i64 0] 25))
  have k := sValidBits xs ao len cap c true ((w.alloc (.cells #[.slice ao len cap, .int .i64 c] 25)).alloc (.cells #[.slice none 0 0, .int .i64 0] 25)) (hx.grown HMM.out.g) hlen hv
  have HZ := Lib.hid hzz
  clear hx hv hzz
  go_enter Tryd.func15, Tryd.ntmps15
  go_wp2_with fail
  refine k.mono ?_
  rintro e w1 ⟨rfl, hg1⟩
  have HM1 := Lib.hid (HMM.out.grown hg1)
  have hA := HM1.out.get (b := w.heap.size) (o := (.cells #[.slice ao len cap, .int .i64 c] 25)) (by simp)
  have hR := HM1.out.get (b := w.heap.size + 1) (o := (.cells #[.slice none 0 0, .int .i64 0] 25)) (by simp)
  have p0 : w1.cell? ⟨w.heap.size, 0, none⟩ = some (.slice ao len cap) := by rw [cell_of_row w1 _ 0 _ _ _ hA]; rfl
  have p1 : w1.cell? ⟨w.heap.size, 1, none⟩ = some (.int .i64 c) := by rw [cell_of_row w1 _ 1 _ _ _ hA]; rfl
  have r0 : w1.cell? ⟨w.heap.size + 1, 0, none⟩ = some (.slice none 0 0) := by rw [cell_of_row w1 _ 0 _ _ _ hR]; rfl
  have r1 : w1.cell? ⟨w.heap.size + 1, 1, none⟩ = some (.int .i64 0) := by rw [cell_of_row w1 _ 1 _ _ _ hR]; rfl
  have f0 : w1.frozen? ⟨w.heap.size + 1, 0, none⟩ = false := frozen_of_row w1 _ 0 _ _ hR
  have f1 : w1.frozen? ⟨w.heap.size + 1, 1, none⟩ = false := frozen_of_row w1 _ 1 _ _ hR
  have hz : w.heap.size + 2 ≤ w1.heap.size := by have := hg1.size; simpa using this
  clear hg1 hA hR HMM
  clear k
  go_wp2_with fail
  refine (inRange_any z 0 32 false _ HZ.out).mono ?_
  rintro e w' ⟨rfl, rfl⟩
  have R : Hid (w.grownBy ((w1.setCell ⟨w.heap.size + 1, 0, none⟩ (.slice none 0 0)).setCell ⟨w.heap.size + 1, 1, none⟩ (.int .i64 0)) none) := grown_set (grown_set HM1.out.g (by simp)) (by simp)
  go_wp2
  exact bodyPost_ret (v := .tuple #[.agg #[.slice none 0 0, .int .i64 0], .bool false]) (by simp [results, Tryd.results15, go_sem, r0, r1]) rfl ⟨rfl, R.out⟩

theorem pow32 (n : Nat) (h : n ≤ 32) : (1 : Int) ≤ 2 ^ n ∧ (2 : Int) ^ n ≤ 4294967296 := by
  have h1 : (2 : Nat) ^ n ≤ 4294967296 := Nat.le_trans (Nat.pow_le_pow_right (by decide) h) (by decide)
  have h2 : 1 ≤ (2 : Nat) ^ n := Nat.one_le_two_pow
  have e : (2 : Int) ^ n = ((2 ^ n : Nat) : Int) := by simp
  rw [e]
  omega
set_option maxRecDepth 100000 in
set_option maxHeartbeats 2000000 in
theorem sPut_value (xs : List Int) (c x : Int) (wd : Nat) (ao : Option Addr) (len cap : Nat) (w : World) (hx : Ints w ao len xs) (hlen : len ≤ 4194304) (hv : VB xs c = true) (hwd : wd ≤ 32) (hxx : inB x 0 (2 ^ wd - 1) = false) :
    Calls Tryd.prog 15 #[.agg #[.slice ao len cap, .int .i64 c], .int .i64 x, .int .i64 (wd : Int)] w (GaveNone w) := by
  have HMM := Lib.hid (((Mem.start w).block (.cells #[.slice ao len cap, .int .i64 c] 25)).block (.cells #[.slice none 0 0, .int .i64 0] 25))
  have k := sValidBits xs ao len cap c true ((w.alloc (.cells #[.slice ao len cap, .int .i64 c] 25)).alloc (.cells #[.slice none 0 0, .int .i64 0] 25)) (hx.grown HMM.out.g) hlen hv
  obtain ⟨h, hh⟩ : ∃ h : Int, 2 ^ wd = h := ⟨_, rfl⟩
  have hp := pow32 wd hwd
  rw [hh] at hp hxx
  have hp0 := hp.1
  have hp1 := hp.2
  have HZ := Lib.hid hxx
  clear hx hv hxx hp
  go_enter Tryd.func15, Tryd.ntmps15
  go_wp2_with fail
  refine k.mono ?_
  rintro e w1 ⟨rfl, hg1⟩
  have HM1 := Lib.hid (HMM.out.grown hg1)
  have hA := HM1.out.get (b := w.heap.size) (o := (.cells #[.slice ao len cap, .int .i64 c] 25)) (by simp)
  have hR := HM1.out.get (b := w.heap.size + 1) (o := (.cells #[.slice none 0 0, .int .i64 0] 25)) (by simp)
  have p0 : w1.cell? ⟨w.heap.size, 0, none⟩ = some (.slice ao len cap) := by rw [cell_of_row w1 _ 0 _ _ _ hA]; rfl
  have p1 : w1.cell? ⟨w.heap.size, 1, none⟩ = some (.int .i64 c) := by rw [cell_of_row w1 _ 1 _ _ _ hA]; rfl
  have r0 : w1.cell? ⟨w.heap.size + 1, 0, none⟩ = some (.slice none 0 0) := by rw [cell_of_row w1 _ 0 _ _ _ hR]; rfl
  have r1 : w1.cell? ⟨w.heap.size + 1, 1, none⟩ = some (.int .i64 0) := by rw [cell_of_row w1 _ 1 _ _ _ hR]; rfl
  have f0 : w1.frozen? ⟨w.heap.size + 1, 0, none⟩ = false := frozen_of_row w1 _ 0 _ _ hR
  have f1 : w1.frozen? ⟨w.heap.size + 1, 1, none⟩ = false := frozen_of_row w1 _ 1 _ _ hR
  have hz : w.heap.size + 2 ≤ w1.heap.size := by have := hg1.size; simpa using this
  clear hg1 hA hR HMM
  clear k
  go_wp2_with fail
  refine (inRange_any (wd : Int) 0 32 true _ (inB_true (by omega) (by omega))).mono ?_
  rintro e w' ⟨rfl, rfl⟩
  go_wp2_with fail
  refine (inRange_any x 0 (h - 1) false _ HZ.out).mono ?_
  rintro e w' ⟨rfl, rfl⟩
  have R : Hid (w.grownBy ((w1.setCell ⟨w.heap.size + 1, 0, none⟩ (.slice none 0 0)).setCell ⟨w.heap.size + 1, 1, none⟩ (.int .i64 0)) none) := grown_set (grown_set HM1.out.g (by simp)) (by simp)
  go_wp2
  exact bodyPost_ret (v := .tuple #[.agg #[.slice none 0 0, .int .i64 0], .bool false]) (by simp [results, Tryd.results15, go_sem, r0, r1]) rfl ⟨rfl, R.out⟩

set_option maxRecDepth 100000 in
set_option maxHeartbeats 2000000 in
theorem sPut_room (bs : List Bool) (m v wd : Nat) (hm : bs.length = m) (ao : Option Addr) (len cap : Nat) (w : World) (hx : Ints w ao len (pk bs)) (hlen : len ≤ 4194304) (hb : bs.length ≤ 16384) (hwd : wd ≤ 32) (hvv : v < 2 ^ wd) (hroom : 16384 < m + wd) :
    Calls Tryd.prog 15 #[.agg #[.slice ao len cap, .int .i64 (m : Int)], .int .i64 (v : Int), .int .i64 (wd : Int)] w (GaveNone w) := by
  have HMM := Lib.hid (((Mem.start w).block (.cells #[.slice ao len cap, .int .i64 (m : Int)] 25)).block (.cells #[.slice none 0 0, .int .i64 0] 25))
  have k := sValidBits (pk bs) ao len cap (m : Int) true ((w.alloc (.cells #[.slice ao len cap, .int .i64 (m : Int)] 25)).alloc (.cells #[.slice none 0 0, .int .i64 0] 25)) (hx.grown HMM.out.g) hlen (by rw [← hm]; exact pk_VB hb)
  obtain ⟨h, hh⟩ : ∃ h : Int, 2 ^ wd = h := ⟨_, rfl⟩
  have hp := pow32 wd hwd
  have hvi : (v : Int) < 2 ^ wd := by exact_mod_cast hvv
  rw [hh] at hp hvi
  have hp0 := hp.1
  have hp1 := hp.2
  have hm2 : m ≤ 16384 := by omega
  have hd : decide (16384 < (m : Int) + (wd : Int)) = true := by simp; omega
  have HZ := Lib.hid (inB_true (show (0 : Int) ≤ v by omega) (show (v : Int) ≤ h - 1 by omega))
  clear hx hp hm hb hvi
  go_enter Tryd.func15, Tryd.ntmps15
  go_wp2_with fail
  refine k.mono ?_
  rintro e w1 ⟨rfl, hg1⟩
  have HM1 := Lib.hid (HMM.out.grown hg1)
  have hA := HM1.out.get (b := w.heap.size) (o := (.cells #[.slice ao len cap, .int .i64 (m : Int)] 25)) (by simp)
  have hR := HM1.out.get (b := w.heap.size + 1) (o := (.cells #[.slice none 0 0, .int .i64 0] 25)) (by simp)
  have p0 : w1.cell? ⟨w.heap.size, 0, none⟩ = some (.slice ao len cap) := by rw [cell_of_row w1 _ 0 _ _ _ hA]; rfl
  have p1 : w1.cell? ⟨w.heap.size, 1, none⟩ = some (.int .i64 (m : Int)) := by rw [cell_of_row w1 _ 1 _ _ _ hA]; rfl
  have r0 : w1.cell? ⟨w.heap.size + 1, 0, none⟩ = some (.slice none 0 0) := by rw [cell_of_row w1 _ 0 _ _ _ hR]; rfl
  have r1 : w1.cell? ⟨w.heap.size + 1, 1, none⟩ = some (.int .i64 0) := by rw [cell_of_row w1 _ 1 _ _ _ hR]; rfl
  have f0 : w1.frozen? ⟨w.heap.size + 1, 0, none⟩ = false := frozen_of_row w1 _ 0 _ _ hR
  have f1 : w1.frozen? ⟨w.heap.size + 1, 1, none⟩ = false := frozen_of_row w1 _ 1 _ _ hR
  have hz : w.heap.size + 2 ≤ w1.heap.size := by have := hg1.size; simpa using this
  clear hg1 hA hR HMM
  clear k
  go_wp2_with fail
  refine (inRange_any (wd : Int) 0 32 true _ (inB_true (by omega) (by omega))).mono ?_
  rintro e w' ⟨rfl, rfl⟩
  go_wp2_with fail
  refine (inRange_any (v : Int) 0 (h - 1) true _ HZ.out).mono ?_
  rintro e w' ⟨rfl, rfl⟩
  have R : Hid (w.grownBy ((w1.setCell ⟨w.heap.size + 1, 0, none⟩ (.slice none 0 0)).setCell ⟨w.heap.size + 1, 1, none⟩ (.int .i64 0)) none) := grown_set (grown_set HM1.out.g (by simp)) (by simp)
  go_wp2
  exact bodyPost_ret (v := .tuple #[.agg #[.slice none 0 0, .int .i64 0], .bool false]) (by simp [results, Tryd.results15, go_sem, r0, r1]) rfl ⟨rfl, R.out⟩

set_option maxRecDepth 100000 in
set_option maxHeartbeats 2000000 in
theorem sPut_good (bs : List Bool) (m v wd : Nat) (hm : bs.length = m) (ao : Option Addr) (len cap : Nat) (w : World) (hx : Ints w ao len (pk bs)) (hn : ao = none → cap = 0) (hwd : wd ≤ 32) (hvv : v < 2 ^ wd) (hroom : bs.length + wd ≤ 16384) :
    Calls Tryd.prog 15 #[.agg #[.slice ao len cap, .int .i64 (m : Int)], .int .i64 (v : Int), .int .i64 (wd : Int)] w (GaveBits (bs ++ numB v wd) w) := by
  have hl := hx.1
  rw [pk_len] at hl
  have HMM := Lib.hid (((Mem.start w).block (.cells #[.slice ao len cap, .int .i64 (m : Int)] 25)).block (.cells #[.slice none 0 0, .int .i64 0] 25))
  have k := sValidBits (pk bs) ao len cap (m : Int) true ((w.alloc (.cells #[.slice ao len cap, .int .i64 (m : Int)] 25)).alloc (.cells #[.slice none 0 0, .int .i64 0] 25)) (hx.grown HMM.out.g) (by omega) (by rw [← hm]; exact pk_VB (by omega))
  obtain ⟨h, hh⟩ : ∃ h : Int, 2 ^ wd = h := ⟨_, rfl⟩
  have hp := pow32 wd hwd
  have hvi : (v : Int) < 2 ^ wd := by exact_mod_cast hvv
  rw [hh] at hp hvi
  have hp0 := hp.1
  have hp1 := hp.2
  have hm2 : m + wd ≤ 16384 := by omega
  have hd : decide (16384 < (m : Int) + (wd : Int)) = false := by simp; omega
  have HZ := Lib.hid (inB_true (show (0 : Int) ≤ v by omega) (show (v : Int) ≤ h - 1 by omega))
  have HX := Lib.hid hx
  have HN := Lib.hid hn
  have HB := Lib.hid hm
  have HV := Lib.hid (show v < 4294967296 from Nat.lt_of_lt_of_le hvv (Nat.pow_le_pow_right (by decide) hwd))
  clear hx hp hm hvi hn hl hvv
  go_enter Tryd.func15, Tryd.ntmps15
  go_wp2_with fail
  refine k.mono ?_
  rintro e w1 ⟨rfl, hg1⟩
  have HM1 := Lib.hid (HMM.out.grown hg1)
  have hA := HM1.out.get (b := w.heap.size) (o := (.cells #[.slice ao len cap, .int .i64 (m : Int)] 25)) (by simp)
  have hR := HM1.out.get (b := w.heap.size + 1) (o := (.cells #[.slice none 0 0, .int .i64 0] 25)) (by simp)
  have p0 : w1.cell? ⟨w.heap.size, 0, none⟩ = some (.slice ao len cap) := by rw [cell_of_row w1 _ 0 _ _ _ hA]; rfl
  have p1 : w1.cell? ⟨w.heap.size, 1, none⟩ = some (.int .i64 (m : Int)) := by rw [cell_of_row w1 _ 1 _ _ _ hA]; rfl
  have r0 : w1.cell? ⟨w.heap.size + 1, 0, none⟩ = some (.slice none 0 0) := by rw [cell_of_row w1 _ 0 _ _ _ hR]; rfl
  have r1 : w1.cell? ⟨w.heap.size + 1, 1, none⟩ = some (.int .i64 0) := by rw [cell_of_row w1 _ 1 _ _ _ hR]; rfl
  have f0 : w1.frozen? ⟨w.heap.size + 1, 0, none⟩ = false := frozen_of_row w1 _ 0 _ _ hR
  have f1 : w1.frozen? ⟨w.heap.size + 1, 1, none⟩ = false := frozen_of_row w1 _ 1 _ _ hR
  have hz : w.heap.size + 2 ≤ w1.heap.size := by have := hg1.size; simpa using this
  clear hg1 hA hR HMM
  clear k
  go_wp2_with fail
  refine (inRange_any (wd : Int) 0 32 true _ (inB_true (by omega) (by omega))).mono ?_
  rintro e w' ⟨rfl, rfl⟩
  go_wp2_with fail
  refine (inRange_any (v : Int) 0 (h - 1) true _ HZ.out).mono ?_
  rintro e w' ⟨rfl, rfl⟩
  go_wp2_with fail
  refine (put_any (pk bs) ao len cap m v wd 255 _ (HX.out.grown HM1.out.g) HN.out (by rw [pk_len, HB.out]) (by omega) HV.out (by omega) (pk_upto bs) (by omega) (by omega)).mono ?_
  rintro e w3 ⟨v3, rfl, ho3, hg3⟩
  have hpk : putN (pk bs) m v wd wd = pk (bs ++ numB v wd) := by rw [← HB.out]; exact putN_all bs v wd
  rw [hpk] at ho3
  obtain ⟨a3, c3, rfl, _⟩ := ho3.reads
  obtain ⟨n', hn'⟩ : ∃ n', (m + wd + 7) / 8 = n' := ⟨_, rfl⟩
  rw [hn'] at ho3
  have hA := grown_heap hg3 (HM1.out.get (b := w.heap.size + 1) (o := (.cells #[.slice none 0 0, .int .i64 0] 25)) (by simp)) (by simp)
  clear r0 r1 f0 f1 p0 p1
  have r0 : w3.cell? ⟨w.heap.size + 1, 0, none⟩ = some (.slice none 0 0) := by rw [cell_of_row w3 _ 0 _ _ _ hA]; rfl
  have r1 : w3.cell? ⟨w.heap.size + 1, 1, none⟩ = some (.int .i64 0) := by rw [cell_of_row w3 _ 1 _ _ _ hA]; rfl
  have f0 : w3.frozen? ⟨w.heap.size + 1, 0, none⟩ = false := frozen_of_row w3 _ 0 _ _ hA
  have f1 : w3.frozen? ⟨w.heap.size + 1, 1, none⟩ = false := frozen_of_row w3 _ 1 _ _ hA
  have hl3 : (bs ++ numB v wd).length = m + wd := by simp [numB_len, HB.out]
  have R : Hid (Owns ((w3.setCell ⟨w.heap.size + 1, 0, none⟩ (.slice a3 n' c3)).setCell ⟨w.heap.size + 1, 1, none⟩ (.int .i64 ((m : Int) + (wd : Int)))) w.heap.size (.slice a3 n' c3) n' (pk (bs ++ numB v wd)) ∧ w.grownBy ((w3.setCell ⟨w.heap.size + 1, 0, none⟩ (.slice a3 n' c3)).setCell ⟨w.heap.size + 1, 1, none⟩ (.int .i64 ((m : Int) + (wd : Int)))) none ∧ w1.heap.size ≤ w3.heap.size ∧ (bs ++ numB v wd).length = m + wd ∧ ((bs ++ numB v wd).length + 7) / 8 = n') := by
    have hne : (Value.slice a3 n' c3).ownBlock ≠ some (w.heap.size + 1) := fun e => by have := ho3.block _ e; omega
    have hsz := hg3.size
    exact ⟨((ho3.set _ _ hne).set _ _ hne).base_le (by omega), grown_set (grown_set (grown_trans HM1.out.g hg3) (by simp)) (by simp), hsz, hl3, by rw [hl3]; exact hn'⟩
  have hz3 := R.out.2.2.1
  rw [hn']
  clear ho3 hg3 hA hn' hpk hl3
  go_wp2
  refine bodyPost_ret (v := .tuple #[.agg #[.slice a3 n' c3, .int .i64 ((m : Int) + (wd : Int))], .bool true]) (by simp [results, Tryd.results15, go_sem, r0, r1]) rfl ⟨.slice a3 n' c3, ?_, ?_, R.out.2.1⟩
  · rw [R.out.2.2.2.1]; simp
  · rw [R.out.2.2.2.2]; exact R.out.1

/-! Both texts. -/
structure Errs (w : World) : Prop where
  num : ErrAt w 0
  bits : ErrAt w 3
  room : ErrAt w 1
theorem Errs.grown {w w' : World} (h : Errs w) (hg : w.grownBy w' none) : Errs w' := ⟨h.num.grown hg, h.bits.grown hg, h.room.grown hg⟩

/-- Bits, or none. -/
def Gave (o : Option (List Bool)) (w : World) (e : Ending) (w' : World) : Prop := match o with
  | some bs => GaveBits bs w e w'
  | none => GaveNone w e w'

theorem put_both (xs : List Int) (c x z : Int) (len : Nat) (hlen : len ≤ 4194304) : ∃ o : Option (List Bool), (∀ bs, o = some bs → bs.length ≤ 16384) ∧
    Hid (∀ (ao : Option Addr) (cap : Nat) (w : World), Ints w ao len xs → (ao = none → cap = 0) → Calls Tryd.prog 15 #[.agg #[.slice ao len cap, .int .i64 c], .int .i64 x, .int .i64 z] w (Gave o w)) ∧
    Hid (∀ (ao : Option Addr) (cap : Nat) (w : World), Ints w ao len xs → (ao = none → cap = 0) → Errs w → Calls Tryd.prog 14 #[.agg #[.slice ao len cap, .int .i64 c], .int .i64 x, .int .i64 z] w (Gave o w)) ∧
    Hid (∀ bs v wd, xs = pk bs → c = (bs.length : Int) → x = ((v : Nat) : Int) → z = ((wd : Nat) : Int) → bs.length + wd ≤ 16384 → wd ≤ 32 → v < 2 ^ wd → o = some (bs ++ numB v wd)) ∧
    Hid (∀ rs, o = some rs → ∃ bs v wd, xs = pk bs ∧ c = (bs.length : Int) ∧ x = ((v : Nat) : Int) ∧ z = ((wd : Nat) : Int) ∧ bs.length + wd ≤ 16384 ∧ wd ≤ 32 ∧ v < 2 ^ wd ∧ rs = bs ++ numB v wd) := by
  have inj : ∀ {a b : List Bool}, pk a = pk b → a.length = b.length → a = b := by
    intro a b h hl
    apply List.ext_getElem?
    intro i
    by_cases hi : i < a.length
    · have e1 := byte_bit a i
      have e2 := byte_bit b i
      have g1 := pk_getD (bs := a) (k := i / 8) (by omega)
      have g2 := pk_getD (bs := b) (k := i / 8) (by omega)
      rw [h] at g1
      rw [g2] at g1
      rw [← g1, e2] at e1
      unfold cb at e1
      rw [List.getD_eq_getElem?_getD, List.getD_eq_getElem?_getD, List.getElem?_eq_getElem hi, List.getElem?_eq_getElem (by omega)] at e1
      rw [List.getElem?_eq_getElem hi, List.getElem?_eq_getElem (by omega)]
      simp only [Option.getD_some] at e1
      cases ha : a[i] <;> cases hb : b[i] <;> simp_all
    · rw [List.getElem?_eq_none (by omega), List.getElem?_eq_none (by omega)]
  cases hv : VB xs c with
  | false =>
    refine ⟨none, by simp, fun ao cap w hx hn => sPut_inv xs c x z ao len cap w hx hlen hv, fun ao cap w hx hn hE => iPut_inv xs c x z ao len cap w hx hlen hv hE.bits, ?_, by intro rs h; cases h⟩
    intro bs v wd h1 h2 _ _ h5 _ _
    rw [h1, h2, pk_VB (by omega)] at hv
    cases hv
  | true =>
  obtain ⟨bs, rfl, rfl, hb⟩ := VB_pk hv
  cases hz : inB z 0 32 with
  | false =>
    have hz' : z < 0 ∨ 32 < z := by simp [inB] at hz; omega
    refine ⟨none, by simp, fun ao cap w hx hn => sPut_width _ _ x z ao len cap w hx hlen hv hz, fun ao cap w hx hn hE => iPut_bad1 bs bs.length x z rfl ao len cap w hx hn hb hE.num (by omega), ?_, by intro rs h; cases h⟩
    intro bs' v wd _ _ _ h4 _ h6 _
    omega
  | true =>
  have hz' : 0 ≤ z ∧ z ≤ 32 := by simpa [inB] using hz
  obtain ⟨wd, rfl⟩ := Int.eq_ofNat_of_zero_le hz'.1
  have hwd : wd ≤ 32 := by omega
  cases hxr : inB x 0 (2 ^ wd - 1) with
  | false =>
    refine ⟨none, by simp, fun ao cap w hx hn => sPut_value _ _ x wd ao len cap w hx hlen hv hwd hxr, fun ao cap w hx hn hE => iPut_bad1 bs bs.length x wd rfl ao len cap w hx hn hb hE.num ?_, ?_, by intro rs h; cases h⟩
    · by_cases h0 : x < 0
      · omega
      · right; right; right
        refine ⟨by omega, by omega, by omega, ?_⟩
        obtain ⟨n, rfl⟩ := Int.eq_ofNat_of_zero_le (show 0 ≤ x by omega)
        simp only [inB, decide_eq_false_iff_not] at hxr
        have h2 : ¬ ((n : Int) < 2 ^ wd) := by omega
        have h3 : ¬ (n < 2 ^ wd) := fun h => h2 (by exact_mod_cast h)
        have h4 : 0 < n / 2 ^ wd := Nat.div_pos (by omega) (Nat.two_pow_pos wd)
        simp only [Int.toNat_natCast]
        intro h5
        have : ((n / 2 ^ wd : Nat) : Int) = 0 := by exact_mod_cast h5
        omega
    · intro bs' v wd' _ _ h3 h4 _ _ h7
      have e : wd' = wd := by omega
      subst e
      subst h3
      simp only [inB, decide_eq_false_iff_not] at hxr
      have : (v : Int) < 2 ^ wd' := by exact_mod_cast h7
      omega
  | true =>
  have hx' : 0 ≤ x ∧ x ≤ 2 ^ wd - 1 := by simpa [inB] using hxr
  obtain ⟨v, rfl⟩ := Int.eq_ofNat_of_zero_le hx'.1
  have hvv : v < 2 ^ wd := by have : (v : Int) < 2 ^ wd := by omega
                              exact_mod_cast this
  by_cases hr : bs.length + wd ≤ 16384
  · refine ⟨some (bs ++ numB v wd), ?_, fun ao cap w hx hn => sPut_good bs bs.length v wd rfl ao len cap w hx hn hwd hvv hr, fun ao cap w hx hn hE => iPut_good bs bs.length v wd rfl ao len cap w hx hn hwd hvv hr, ?_, ?_⟩
    · intro rs h; injection h with h; subst h; simp [numB_len]; omega
    · intro bs' v' wd' h1 h2 h3 h4 _ _ _
      have e1 : bs = bs' := inj h1 (by omega)
      have e2 : v = v' := by omega
      have e3 : wd = wd' := by omega
      rw [e1, e2, e3]
    · intro rs h; injection h with h; exact ⟨bs, v, wd, rfl, rfl, rfl, rfl, hr, hwd, hvv, h.symm⟩
  · refine ⟨none, by simp, fun ao cap w hx hn => sPut_room bs bs.length v wd rfl ao len cap w hx hlen hb hwd hvv (by omega), fun ao cap w hx hn hE => iPut_bad2 bs bs.length v wd rfl ao len cap w hx hn hb hE.room hwd hvv (by omega), ?_, by intro rs h; cases h⟩
    intro bs' v' wd' h1 h2 _ h4 h5 _ _
    have : bs.length = bs'.length := by omega
    omega

end Go.Proofs.YtcgcippniicaaaaDoor
