/-
  PutBits of the program: what it gives for all arguments.
-/
import Derived.Test.YtcgcippniicaaaaDoorApp
namespace Go.Proofs.YtcgcippniicaaaaDoor
open Go.RowKit


set_option maxHeartbeats 400000 in
theorem clo_put (x z : Int) (B P0 P1 : Nat) (w : World) (h0 : w.cell? ⟨P0, 0, none⟩ = some (.int .i64 x)) (h1 : w.cell? ⟨P1, 0, none⟩ = some (.int .i64 z)) (Q : Ending → World → Prop)
    (hc : Calls Tryd.prog 36 #[.pointer (some ⟨B, 0, none⟩), .int .i64 x, .int .i64 z] w fun e w' => (e = .returned .nilIface ∨ ∃ t v, e = .returned (.iface t v)) ∧ Q e w') :
    Calls Tryd.prog 35 #[.pointer (some ⟨B, 0, none⟩), .pointer (some ⟨P0, 0, none⟩), .pointer (some ⟨P1, 0, none⟩)] w Q := by
  have HC := Lib.hid hc
  clear hc
  go_enter Tryd.func35, Tryd.ntmps35
  go_wp2_with fail
  refine HC.out.mono ?_
  rintro e w' ⟨he, hq⟩
  have HQ := Lib.hid hq
  clear hq h0 h1
  rcases he with rfl | ⟨t, v, rfl⟩
  · go_wp2
    exact HQ.out
  · go_wp2
    exact HQ.out

set_option maxRecDepth 100000 in
set_option maxHeartbeats 2000000 in
theorem iPut_good (bs : List Bool) (m v wd : Nat) (hm : bs.length = m) (ao : Option Addr) (len cap : Nat) (w : World) (hx : Ints w ao len (pk bs)) (hn : ao = none → cap = 0) (hwd : wd ≤ 32) (hv : v < 2 ^ wd) (hb : bs.length + wd ≤ 16384) :
    Calls Tryd.prog 14 #[.agg #[.slice ao len cap, .int .i64 (m : Int)], .int .i64 (v : Int), .int .i64 (wd : Int)] w (GaveBits (bs ++ numB v wd) w) := by
  have HMM := Lib.hid (((((Mem.start w).block (.cells #[.slice ao len cap, .int .i64 (m : Int)] 25)).block (.cells #[.int .i64 (v : Int)] 3)).block (.cells #[.int .i64 (wd : Int)] 3)).block (.cells #[.slice none 0 0, .int .i64 0] 25))
  have b1 := HMM.out.get (b := w.heap.size + 1) (o := (.cells #[.int .i64 (v : Int)] 3)) (by simp)
  have b2 := HMM.out.get (b := w.heap.size + 2) (o := (.cells #[.int .i64 (wd : Int)] 3)) (by simp)
  have HP0 : Hid (∀ w2, ((((w.alloc (.cells #[.slice ao len cap, .int .i64 (m : Int)] 25)).alloc (.cells #[.int .i64 (v : Int)] 3)).alloc (.cells #[.int .i64 (wd : Int)] 3)).alloc (.cells #[.slice none 0 0, .int .i64 0] 25)).grownBy w2 none → w2.cell? ⟨w.heap.size + 1, 0, none⟩ = some (.int .i64 (v : Int))) := fun w2 hg => by rw [cell_of_row w2 _ 0 _ _ _ (grown_heap hg b1 (by simp))]; rfl
  have HP1 : Hid (∀ w2, ((((w.alloc (.cells #[.slice ao len cap, .int .i64 (m : Int)] 25)).alloc (.cells #[.int .i64 (v : Int)] 3)).alloc (.cells #[.int .i64 (wd : Int)] 3)).alloc (.cells #[.slice none 0 0, .int .i64 0] 25)).grownBy w2 none → w2.cell? ⟨w.heap.size + 2, 0, none⟩ = some (.int .i64 (wd : Int))) := fun w2 hg => by rw [cell_of_row w2 _ 0 _ _ _ (grown_heap hg b2 (by simp))]; rfl
  have HC := Lib.hid (app_good_put (w.heap.size + 1) (w.heap.size + 2) bs (bs ++ numB v wd) m hm ao len cap ((((w.alloc (.cells #[.slice ao len cap, .int .i64 (m : Int)] 25)).alloc (.cells #[.int .i64 (v : Int)] 3)).alloc (.cells #[.int .i64 (wd : Int)] 3)).alloc (.cells #[.slice none 0 0, .int .i64 0] 25)) (hx.grown HMM.out.g) hn (by omega) (fun w1 w2 B hg hW => clo_put _ _ B _ _ w2 (HP0.out w2 (grown_trans hg hW.g)) (HP1.out w2 (grown_trans hg hW.g)) _ ((put_good v wd w1 w2 B bs hW hwd hv hb).mono fun e w' ⟨h1, h2⟩ => ⟨Or.inl h1, h1, h2⟩)))
  clear hx hn b1 b2 HP0 HP1 hm hwd hv hb
  go_enter Tryd.func14, Tryd.ntmps14
  go_wp2_with fail
  refine HC.out.mono ?_
  rintro e w3 ⟨v3, rfl, ho3, hg3⟩
  obtain ⟨a3, c3, rfl, _⟩ := ho3.reads
  obtain ⟨m', hm'⟩ : ∃ m', (bs ++ numB v wd).length = m' := ⟨_, rfl⟩
  obtain ⟨n', hn'⟩ : ∃ n', (m' + 7) / 8 = n' := ⟨_, rfl⟩
  rw [hm', hn'] at ho3
  have hA := grown_heap hg3 (HMM.out.get (b := w.heap.size + 3) (o := (.cells #[.slice none 0 0, .int .i64 0] 25)) (by simp)) (by simp)
  have r0 : w3.cell? ⟨w.heap.size + 1 + 1 + 1, 0, none⟩ = some (.slice none 0 0) := by rw [cell_of_row w3 (w.heap.size + 3) 0 _ _ _ hA]; rfl
  have r1 : w3.cell? ⟨w.heap.size + 1 + 1 + 1, 1, none⟩ = some (.int .i64 0) := by rw [cell_of_row w3 (w.heap.size + 3) 1 _ _ _ hA]; rfl
  have f0 : w3.frozen? ⟨w.heap.size + 1 + 1 + 1, 0, none⟩ = false := frozen_of_row w3 (w.heap.size + 3) 0 _ _ hA
  have f1 : w3.frozen? ⟨w.heap.size + 1 + 1 + 1, 1, none⟩ = false := frozen_of_row w3 (w.heap.size + 3) 1 _ _ hA
  have R : Hid (Owns ((w3.setCell ⟨w.heap.size + 1 + 1 + 1, 0, none⟩ (.slice a3 n' c3)).setCell ⟨w.heap.size + 1 + 1 + 1, 1, none⟩ (.int .i64 (m' : Int))) w.heap.size (.slice a3 n' c3) n' (pk (bs ++ numB v wd)) ∧ w.grownBy ((w3.setCell ⟨w.heap.size + 1 + 1 + 1, 0, none⟩ (.slice a3 n' c3)).setCell ⟨w.heap.size + 1 + 1 + 1, 1, none⟩ (.int .i64 (m' : Int))) none ∧ w.heap.size + 4 ≤ w3.heap.size ∧ (bs ++ numB v wd).length = m' ∧ ((bs ++ numB v wd).length + 7) / 8 = n') := by
    have hne : (Value.slice a3 n' c3).ownBlock ≠ some (w.heap.size + 1 + 1 + 1) := fun e => by have := ho3.block _ e; simp at this; omega
    have hsz := hg3.size
    exact ⟨((ho3.set _ _ hne).set _ _ hne).base_le (by simp; omega), grown_set (grown_set (grown_trans HMM.out.g hg3) (by simp; omega)) (by simp; omega), by simpa using hsz, hm', by rw [hm', hn']⟩
  have hz := R.out.2.2.1
  rw [hm', hn']
  clear ho3 hg3 hA hm' hn' HMM
  go_wp2
  refine bodyPost_ret (v := .tuple #[.agg #[.slice a3 n' c3, .int .i64 (m' : Int)], .bool true]) (by simp [results, Tryd.results14, go_sem, r0, r1]) rfl ⟨.slice a3 n' c3, ?_, ?_, R.out.2.1⟩
  · rw [R.out.2.2.2.1]
  · rw [R.out.2.2.2.2]; exact R.out.1

set_option maxRecDepth 100000 in
set_option maxHeartbeats 2000000 in
theorem iPut_bad1 (bs : List Bool) (m : Nat) (x z : Int) (hm : bs.length = m) (ao : Option Addr) (len cap : Nat) (w : World) (hx : Ints w ao len (pk bs)) (hn : ao = none → cap = 0) (hb : bs.length ≤ 16384) (hE : ErrAt w 0) (hbad : z < 0 ∨ 32 < z ∨ x < 0 ∨ (0 ≤ z ∧ z ≤ 32 ∧ 0 ≤ x ∧ x / 2 ^ z.toNat ≠ 0)) :
    Calls Tryd.prog 14 #[.agg #[.slice ao len cap, .int .i64 (m : Int)], .int .i64 x, .int .i64 z] w (GaveNone w) := by
  have HMM := Lib.hid (((((Mem.start w).block (.cells #[.slice ao len cap, .int .i64 (m : Int)] 25)).block (.cells #[.int .i64 x] 3)).block (.cells #[.int .i64 z] 3)).block (.cells #[.slice none 0 0, .int .i64 0] 25))
  have b1 := HMM.out.get (b := w.heap.size + 1) (o := (.cells #[.int .i64 x] 3)) (by simp)
  have b2 := HMM.out.get (b := w.heap.size + 2) (o := (.cells #[.int .i64 z] 3)) (by simp)
  have HP0 : Hid (∀ w2, ((((w.alloc (.cells #[.slice ao len cap, .int .i64 (m : Int)] 25)).alloc (.cells #[.int .i64 x] 3)).alloc (.cells #[.int .i64 z] 3)).alloc (.cells #[.slice none 0 0, .int .i64 0] 25)).grownBy w2 none → w2.cell? ⟨w.heap.size + 1, 0, none⟩ = some (.int .i64 x)) := fun w2 hg => by rw [cell_of_row w2 _ 0 _ _ _ (grown_heap hg b1 (by simp))]; rfl
  have HP1 : Hid (∀ w2, ((((w.alloc (.cells #[.slice ao len cap, .int .i64 (m : Int)] 25)).alloc (.cells #[.int .i64 x] 3)).alloc (.cells #[.int .i64 z] 3)).alloc (.cells #[.slice none 0 0, .int .i64 0] 25)).grownBy w2 none → w2.cell? ⟨w.heap.size + 2, 0, none⟩ = some (.int .i64 z)) := fun w2 hg => by rw [cell_of_row w2 _ 0 _ _ _ (grown_heap hg b2 (by simp))]; rfl
  have HC := Lib.hid (app_bad_put (w.heap.size + 1) (w.heap.size + 2) bs m hm ao len cap ((((w.alloc (.cells #[.slice ao len cap, .int .i64 (m : Int)] 25)).alloc (.cells #[.int .i64 x] 3)).alloc (.cells #[.int .i64 z] 3)).alloc (.cells #[.slice none 0 0, .int .i64 0] 25)) (hx.grown HMM.out.g) hn hb (fun w1 w2 B hg hW => clo_put _ _ B _ _ w2 (HP0.out w2 (grown_trans hg hW.g)) (HP1.out w2 (grown_trans hg hW.g)) _ ((put_number x z w2 B ((hE.grown HMM.out.g).grown (grown_trans hg hW.g)) hbad).mono fun e w' ⟨h1, h2⟩ => ⟨Or.inr h1, h1, h2 ▸ hW.g⟩)))
  clear hx hn b1 b2 HP0 HP1 hm hb hE hbad
  go_enter Tryd.func14, Tryd.ntmps14
  go_wp2_with fail
  refine HC.out.mono ?_
  rintro e w3 ⟨rfl, hg3⟩
  have hA := grown_heap hg3 (HMM.out.get (b := w.heap.size + 3) (o := (.cells #[.slice none 0 0, .int .i64 0] 25)) (by simp)) (by simp)
  have r0 : w3.cell? ⟨w.heap.size + 1 + 1 + 1, 0, none⟩ = some (.slice none 0 0) := by rw [cell_of_row w3 (w.heap.size + 3) 0 _ _ _ hA]; rfl
  have r1 : w3.cell? ⟨w.heap.size + 1 + 1 + 1, 1, none⟩ = some (.int .i64 0) := by rw [cell_of_row w3 (w.heap.size + 3) 1 _ _ _ hA]; rfl
  have f0 : w3.frozen? ⟨w.heap.size + 1 + 1 + 1, 0, none⟩ = false := frozen_of_row w3 (w.heap.size + 3) 0 _ _ hA
  have f1 : w3.frozen? ⟨w.heap.size + 1 + 1 + 1, 1, none⟩ = false := frozen_of_row w3 (w.heap.size + 3) 1 _ _ hA
  have R : Hid (w.grownBy ((w3.setCell ⟨w.heap.size + 1 + 1 + 1, 0, none⟩ (.slice none 0 0)).setCell ⟨w.heap.size + 1 + 1 + 1, 1, none⟩ (.int .i64 0)) none ∧ w.heap.size + 4 ≤ w3.heap.size) := by
    have hsz := hg3.size
    exact ⟨grown_set (grown_set (grown_trans HMM.out.g hg3) (by simp; omega)) (by simp; omega), by simpa using hsz⟩
  have hz := R.out.2
  clear hg3 hA HMM
  go_wp2
  exact bodyPost_ret (v := .tuple #[.agg #[.slice none 0 0, .int .i64 0], .bool false]) (by simp [results, Tryd.results14, go_sem, r0, r1]) rfl ⟨rfl, R.out.1⟩

set_option maxRecDepth 100000 in
set_option maxHeartbeats 2000000 in
theorem iPut_bad2 (bs : List Bool) (m v wd : Nat) (hm : bs.length = m) (ao : Option Addr) (len cap : Nat) (w : World) (hx : Ints w ao len (pk bs)) (hn : ao = none → cap = 0) (hb : bs.length ≤ 16384) (hE : ErrAt w 1) (hwd : wd ≤ 32) (hv : v < 2 ^ wd) (hroom : 16384 < bs.length + wd) :
    Calls Tryd.prog 14 #[.agg #[.slice ao len cap, .int .i64 (m : Int)], .int .i64 (v : Int), .int .i64 (wd : Int)] w (GaveNone w) := by
  have HMM := Lib.hid (((((Mem.start w).block (.cells #[.slice ao len cap, .int .i64 (m : Int)] 25)).block (.cells #[.int .i64 (v : Int)] 3)).block (.cells #[.int .i64 (wd : Int)] 3)).block (.cells #[.slice none 0 0, .int .i64 0] 25))
  have b1 := HMM.out.get (b := w.heap.size + 1) (o := (.cells #[.int .i64 (v : Int)] 3)) (by simp)
  have b2 := HMM.out.get (b := w.heap.size + 2) (o := (.cells #[.int .i64 (wd : Int)] 3)) (by simp)
  have HP0 : Hid (∀ w2, ((((w.alloc (.cells #[.slice ao len cap, .int .i64 (m : Int)] 25)).alloc (.cells #[.int .i64 (v : Int)] 3)).alloc (.cells #[.int .i64 (wd : Int)] 3)).alloc (.cells #[.slice none 0 0, .int .i64 0] 25)).grownBy w2 none → w2.cell? ⟨w.heap.size + 1, 0, none⟩ = some (.int .i64 (v : Int))) := fun w2 hg => by rw [cell_of_row w2 _ 0 _ _ _ (grown_heap hg b1 (by simp))]; rfl
  have HP1 : Hid (∀ w2, ((((w.alloc (.cells #[.slice ao len cap, .int .i64 (m : Int)] 25)).alloc (.cells #[.int .i64 (v : Int)] 3)).alloc (.cells #[.int .i64 (wd : Int)] 3)).alloc (.cells #[.slice none 0 0, .int .i64 0] 25)).grownBy w2 none → w2.cell? ⟨w.heap.size + 2, 0, none⟩ = some (.int .i64 (wd : Int))) := fun w2 hg => by rw [cell_of_row w2 _ 0 _ _ _ (grown_heap hg b2 (by simp))]; rfl
  have HC := Lib.hid (app_bad_put (w.heap.size + 1) (w.heap.size + 2) bs m hm ao len cap ((((w.alloc (.cells #[.slice ao len cap, .int .i64 (m : Int)] 25)).alloc (.cells #[.int .i64 (v : Int)] 3)).alloc (.cells #[.int .i64 (wd : Int)] 3)).alloc (.cells #[.slice none 0 0, .int .i64 0] 25)) (hx.grown HMM.out.g) hn hb (fun w1 w2 B hg hW => clo_put _ _ B _ _ w2 (HP0.out w2 (grown_trans hg hW.g)) (HP1.out w2 (grown_trans hg hW.g)) _ ((put_room v wd w1 w2 B bs hW ((hE.grown HMM.out.g).grown (grown_trans hg hW.g)) hwd hv hb hroom).mono fun e w' ⟨h1, h2⟩ => ⟨Or.inr h1, h1, h2 ▸ hW.g⟩)))
  clear hx hn b1 b2 HP0 HP1 hm hb hE hwd hv hroom
  go_enter Tryd.func14, Tryd.ntmps14
  go_wp2_with fail
  refine HC.out.mono ?_
  rintro e w3 ⟨rfl, hg3⟩
  have hA := grown_heap hg3 (HMM.out.get (b := w.heap.size + 3) (o := (.cells #[.slice none 0 0, .int .i64 0] 25)) (by simp)) (by simp)
  have r0 : w3.cell? ⟨w.heap.size + 1 + 1 + 1, 0, none⟩ = some (.slice none 0 0) := by rw [cell_of_row w3 (w.heap.size + 3) 0 _ _ _ hA]; rfl
  have r1 : w3.cell? ⟨w.heap.size + 1 + 1 + 1, 1, none⟩ = some (.int .i64 0) := by rw [cell_of_row w3 (w.heap.size + 3) 1 _ _ _ hA]; rfl
  have f0 : w3.frozen? ⟨w.heap.size + 1 + 1 + 1, 0, none⟩ = false := frozen_of_row w3 (w.heap.size + 3) 0 _ _ hA
  have f1 : w3.frozen? ⟨w.heap.size + 1 + 1 + 1, 1, none⟩ = false := frozen_of_row w3 (w.heap.size + 3) 1 _ _ hA
  have R : Hid (w.grownBy ((w3.setCell ⟨w.heap.size + 1 + 1 + 1, 0, none⟩ (.slice none 0 0)).setCell ⟨w.heap.size + 1 + 1 + 1, 1, none⟩ (.int .i64 0)) none ∧ w.heap.size + 4 ≤ w3.heap.size) := by
    have hsz := hg3.size
    exact ⟨grown_set (grown_set (grown_trans HMM.out.g hg3) (by simp; omega)) (by simp; omega), by simpa using hsz⟩
  have hz := R.out.2
  clear hg3 hA HMM
  go_wp2
  exact bodyPost_ret (v := .tuple #[.agg #[.slice none 0 0, .int .i64 0], .bool false]) (by simp [results, Tryd.results14, go_sem, r0, r1]) rfl ⟨rfl, R.out.1⟩

set_option maxRecDepth 100000 in
set_option maxHeartbeats 2000000 in
theorem iPut_inv (xs : List Int) (c x z : Int) (ao : Option Addr) (len cap : Nat) (w : World) (hx : Ints w ao len xs) (hlen : len ≤ 4194304) (hv : VB xs c = false) (hE : ErrAt w 3) :
    Calls Tryd.prog 14 #[.agg #[.slice ao len cap, .int .i64 c], .int .i64 x, .int .i64 z] w (GaveNone w) := by
  have HMM := Lib.hid (((((Mem.start w).block (.cells #[.slice ao len cap, .int .i64 c] 25)).block (.cells #[.int .i64 x] 3)).block (.cells #[.int .i64 z] 3)).block (.cells #[.slice none 0 0, .int .i64 0] 25))
  have HC := Lib.hid (app_inv_put (w.heap.size + 1) (w.heap.size + 2) xs c ao len cap ((((w.alloc (.cells #[.slice ao len cap, .int .i64 c] 25)).alloc (.cells #[.int .i64 x] 3)).alloc (.cells #[.int .i64 z] 3)).alloc (.cells #[.slice none 0 0, .int .i64 0] 25)) (hx.grown HMM.out.g) hlen hv (hE.grown HMM.out.g))
  clear hx hv hE
  go_enter Tryd.func14, Tryd.ntmps14
  go_wp2_with fail
  refine HC.out.mono ?_
  rintro e w3 ⟨rfl, hg3⟩
  have hA := grown_heap hg3 (HMM.out.get (b := w.heap.size + 3) (o := (.cells #[.slice none 0 0, .int .i64 0] 25)) (by simp)) (by simp)
  have r0 : w3.cell? ⟨w.heap.size + 1 + 1 + 1, 0, none⟩ = some (.slice none 0 0) := by rw [cell_of_row w3 (w.heap.size + 3) 0 _ _ _ hA]; rfl
  have r1 : w3.cell? ⟨w.heap.size + 1 + 1 + 1, 1, none⟩ = some (.int .i64 0) := by rw [cell_of_row w3 (w.heap.size + 3) 1 _ _ _ hA]; rfl
  have f0 : w3.frozen? ⟨w.heap.size + 1 + 1 + 1, 0, none⟩ = false := frozen_of_row w3 (w.heap.size + 3) 0 _ _ hA
  have f1 : w3.frozen? ⟨w.heap.size + 1 + 1 + 1, 1, none⟩ = false := frozen_of_row w3 (w.heap.size + 3) 1 _ _ hA
  have R : Hid (w.grownBy ((w3.setCell ⟨w.heap.size + 1 + 1 + 1, 0, none⟩ (.slice none 0 0)).setCell ⟨w.heap.size + 1 + 1 + 1, 1, none⟩ (.int .i64 0)) none ∧ w.heap.size + 4 ≤ w3.heap.size) := by
    have hsz := hg3.size
    exact ⟨grown_set (grown_set (grown_trans HMM.out.g hg3) (by simp; omega)) (by simp; omega), by simpa using hsz⟩
  have hz := R.out.2
  clear hg3 hA HMM
  go_wp2
  exact bodyPost_ret (v := .tuple #[.agg #[.slice none 0 0, .int .i64 0], .bool false]) (by simp [results, Tryd.results14, go_sem, r0, r1]) rfl ⟨rfl, R.out.1⟩

end Go.Proofs.YtcgcippniicaaaaDoor
