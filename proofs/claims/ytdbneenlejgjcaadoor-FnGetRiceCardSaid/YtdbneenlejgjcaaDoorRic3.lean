/-
  putRice of the specification.
-/
import Derived.Test.YtdbneenlejgjcaaDoorRic2
import Derived.Deep.RegionHeld3
namespace Go.Proofs.YtdbneenlejgjcaaDoor
open Go.RowKit

set_option maxRecDepth 100000 in
set_option maxHeartbeats 4000000 in
theorem sputR_any (bs : List Bool) (m z k q m2 n2 m3 n3 : Nat) (x : Int) (hm : bs.length = m) (hq : z / 2 ^ k = q) (hm2 : m + q + 1 = m2) (hn2 : (m2 + 7) / 8 = n2) (hm3 : m2 + k = m3) (hn3 : (m3 + 7) / 8 = n3) (ao : Option Addr) (len cap : Nat) (w : World) (hx : Ints w ao len (pk bs)) (hn : ao = none → cap = 0) (h1 : -4194303 ≤ x) (h2 : x ≤ 4194303) (hz : zz x = (z : Int)) (hk : k ≤ 14) (hq5 : q ≤ 500) (hb : m3 ≤ 16384) :
    Calls Tryd.prog 58 #[.agg #[.slice ao len cap, .int .i64 (m : Int)], .int .i64 x, .int .i64 (k : Int)] w (MadeBits (pk (bs ++ ric z k)) n3 (m3 : Int) w) := by
  have HMM := Lib.hid (((Mem.start w).block (.cells #[.slice ao len cap, .int .i64 (m : Int)] 28)).block (.cells #[.slice none 0 0, .int .i64 0] 28))
  have hz9 : z ≤ 8388608 := by
    have : (z : Int) ≤ 8388608 := by rw [← hz]; unfold zz; split <;> omega
    omega
  have hz10 : (z : Int) ≤ 8388608 := by omega
  obtain ⟨h, hh⟩ : ∃ h : Int, 2 ^ k = h := ⟨_, rfl⟩
  have hp2 : (2 : Nat) ^ k ≤ 2 ^ 14 := Nat.pow_le_pow_right (by decide) hk
  have hp3 : 1 ≤ (2 : Nat) ^ k := Nat.one_le_two_pow
  have hpe : h = ((2 ^ k : Nat) : Int) := by rw [← hh]; simp
  have hp0 : 1 ≤ h := by omega
  have hp1 : h ≤ 16384 := by rw [hpe]; exact_mod_cast hp2
  have hdv : (z : Int) / h = (q : Int) := by rw [hpe, ← hq]; simp
  have HX := Lib.hid hx
  have HN := Lib.hid hn
  have H := Lib.hid (And.intro hm (And.intro hq (And.intro hm2 (And.intro hn2 (And.intro hm3 hn3)))))
  have HZ := Lib.hid hz
  have hl2 : (bs ++ una q).length = m2 := by rw [List.length_append, una_len]; omega
  have HL2 := Lib.hid hl2
  clear hx hn hm hq hm2 hn2 hm3 hn3 hz hl2 hp2 hp3 hpe
  go_enter Tryd.func58, Tryd.ntmps58
  go_wp2_with fail
  refine (szigzag x (z : Int) _ (by omega) (by omega) HZ.out).mono ?_
  rintro e w' ⟨rfl, rfl⟩
  have hW := HMM.out
  generalize hWW : (w.alloc (.cells #[.slice ao len cap, .int .i64 (m : Int)] 28)).alloc (.cells #[.slice none 0 0, .int .i64 0] 28) = W at *
  have HMW := Lib.hid hW
  have q0 := (two_cells (hW.get (b := w.heap.size) (o := .cells #[.slice ao len cap, .int .i64 (m : Int)] 28) (by simp))).1
  have q1 := (two_cells (hW.get (b := w.heap.size) (o := .cells #[.slice ao len cap, .int .i64 (m : Int)] 28) (by simp))).2
  clear hW hWW HMM
  go_wp2_with fail
  go_region_held3 (fun w' => w'.cell? ⟨w.heap.size, 0, none⟩ = some (.slice ao len cap) ∧ w'.cell? ⟨w.heap.size, 1, none⟩ = some (.int .i64 (m : Int))) (first | go_keep | exact ⟨by assumption, by assumption⟩) ((first
    | (go_at_call 49; refine (sputU_any bs m q m2 n2 H.out.1 H.out.2.2.1 H.out.2.2.2.1 ao len cap _ ((HX.out.grown HMW.out.g).grown (grown_drew _ _)) HN.out hq5 (by have := H.out; omega)).mono ?_; rintro e w2 ⟨v2, rfl, ho2, hg2⟩; obtain ⟨a2, c2, rfl, _, hnn2, hx2, _⟩ := ho2.reads; have HX2 := Lib.hid hx2; have HN2 := Lib.hid hnn2; have HM2 := Lib.hid (HMW.out.grown (grown_trans (grown_drew _ _) hg2)); have hS0 := hg2.cell q0 (by simp); have hS1 := hg2.cell q1 (by simp); clear ho2 hg2 hx2 hnn2)
    | (go_at_call 74; refine (put_any (pk (bs ++ una q)) a2 n2 c2 m2 z k 255 _ HX2.out HN2.out (by rw [pk_len, HL2.out]) (by have := H.out; omega) (by omega) (by omega) (pk_upto _) (by omega) (by omega)).mono ?_; rintro e w3 ⟨v3, rfl, ho3, hg3⟩; rw [show putN (pk (bs ++ una q)) m2 z k k = pk (bs ++ ric z k) by (rw [← HL2.out, putN_all, List.append_assoc]; unfold ric; rw [H.out.2.1]), show (m2 + k + 7) / 8 = n3 by (have := H.out; omega)] at ho3; rw [show (m2 : Int) + (k : Int) = (m3 : Int) by (have := H.out; omega)]; obtain ⟨a3, c3, rfl, _⟩ := ho3.reads; have HO3 := Lib.hid ho3; have HM3 := Lib.hid (HM2.out.grown hg3); have hT0 := hg3.cell hS0 (by simp); have hT1 := hg3.cell hS1 (by simp); have r0 := (two_cells (HM3.out.get (b := w.heap.size + 1) (o := .cells #[.slice none 0 0, .int .i64 0] 28) (by simp))).1; have r1 := (two_cells (HM3.out.get (b := w.heap.size + 1) (o := .cells #[.slice none 0 0, .int .i64 0] 28) (by simp))).2; have f0 : w3.frozen? ⟨w.heap.size + 1, 0, none⟩ = false := frozen_of_row w3 _ 0 _ _ (HM3.out.get (b := w.heap.size + 1) (o := .cells #[.slice none 0 0, .int .i64 0] 28) (by simp)); have f1 : w3.frozen? ⟨w.heap.size + 1, 1, none⟩ = false := frozen_of_row w3 _ 1 _ _ (HM3.out.get (b := w.heap.size + 1) (o := .cells #[.slice none 0 0, .int .i64 0] 28) (by simp)); have hlt3 := block_lt (HM3.out.get (b := w.heap.size + 1) (o := .cells #[.slice none 0 0, .int .i64 0] 28) (by simp)); clear ho3 hg3)))
  have R : Hid (Owns ((w3.setCell ⟨w.heap.size + 1, 0, none⟩ (.slice a3 n3 c3)).setCell ⟨w.heap.size + 1, 1, none⟩ (.int .i64 (m3 : Int))) w.heap.size (.slice a3 n3 c3) n3 (pk (bs ++ ric z k)) ∧ w.grownBy ((w3.setCell ⟨w.heap.size + 1, 0, none⟩ (.slice a3 n3 c3)).setCell ⟨w.heap.size + 1, 1, none⟩ (.int .i64 (m3 : Int))) none) := by
    have hlt2 := block_lt (HM2.out.get (b := w.heap.size + 1) (o := .cells #[.slice none 0 0, .int .i64 0] 28) (by simp))
    have ho3 := HO3.out
    have hne : (Value.slice a3 n3 c3).ownBlock ≠ some (w.heap.size + 1) := fun e => by have := ho3.block _ e; omega
    exact ⟨((ho3.set _ _ hne).set _ _ hne).base_le (by omega), grown_set (grown_set HM3.out.g (by simp)) (by simp)⟩
  clear HO3 HM3 HM2 HX2 hS0 hS1 hT0 hT1 q0 q1
  go_wp2
  exact bodyPost_ret (v := .agg #[.slice a3 n3 c3, .int .i64 (m3 : Int)]) (by simp [results, Tryd.results58, go_sem, r0, r1]) rfl ⟨.slice a3 n3 c3, rfl, R.out.1, R.out.2⟩

end Go.Proofs.YtdbneenlejgjcaaDoor
