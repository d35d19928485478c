/-
  PutRice of the specification; both texts give one result.
-/
import Derived.Test.YtdbneenlejgjcaaDoorRic3
import Derived.Deep.QuietTactic
import Derived.BigQuiet
import Derived.Deep.RegionHeld3
import Derived.Deep.RegionWith
import Derived.Deep.CutRange
namespace Go.Proofs.YtdbneenlejgjcaaDoor
open Go.RowKit

set_option maxRecDepth 100000 in
set_option maxHeartbeats 2000000 in
theorem sRic_inv (xs : List Int) (c x z : Int) (ao : Option Addr) (len cap : Nat) (w : World) (hx : Ints w ao len xs) (hlen : len ≤ 4194304) (hv : VB xs c = false) :
    Calls Tryd.prog 25 #[.agg #[.slice ao len cap, .int .i64 c], .int .i64 x, .int .i64 z] w (GaveNone w) := by
  have HMM := Lib.hid (((Mem.start w).block (.cells #[.slice ao len cap, .int .i64 c] 28)).block (.cells #[.slice none 0 0, .int .i64 0] 28))
  have HX := Lib.hid hx
  have HV := Lib.hid hv
  clear hx hv
  have q0 := (two_cells (HMM.out.get (b := w.heap.size) (o := (.cells #[.slice ao len cap, .int .i64 c] 28)) (by simp))).1
  have q1 := (two_cells (HMM.out.get (b := w.heap.size) (o := (.cells #[.slice ao len cap, .int .i64 c] 28)) (by simp))).2
  go_enter Tryd.func25, Tryd.ntmps25
  go_upto_region 1 with fail
  go_cut [25] from 8 to 25 (fun cc wx => cc = .bool true ∧ Hid (Mem w wx ([] ++ [(w.heap.size, Obj.cells #[.slice ao len cap, .int .i64 c] 28)] ++ [(w.heap.size + 1, Obj.cells #[.slice none 0 0, .int .i64 0] 28)])))
  case first =>
    first | (go_region_with ((first
    | (go_at_call 47; refine (sValidBits xs ao len cap c false _ ((HX.out.grown HMM.out.g).grown (grown_drew _ _)) (by omega) HV.out).mono ?_; rintro e w1 ⟨rfl, hg1⟩; have HM1 := Lib.hid ((HMM.out.grown (grown_drew _ _)).grown hg1); have hS0 := hg1.cell q0 (by simp); have hS1 := hg1.cell q1 (by simp); clear hg1)))) | fail
    all_goals (go_wp2_with fail; go_meet; exact ⟨rfl, Lib.hid (HM1.out.cast (by simp))⟩)
  case rest =>
  obtain ⟨rfl, HM1⟩ := hcut
  generalize wc = w1 at *
  have r0 := (two_cells (HM1.out.get (b := w.heap.size + 1) (o := (.cells #[.slice none 0 0, .int .i64 0] 28)) (by simp))).1
  have r1 := (two_cells (HM1.out.get (b := w.heap.size + 1) (o := (.cells #[.slice none 0 0, .int .i64 0] 28)) (by simp))).2
  have f0 : w1.frozen? ⟨w.heap.size + 1, 0, none⟩ = false := frozen_of_row w1 _ 0 _ _ (HM1.out.get (b := w.heap.size + 1) (o := (.cells #[.slice none 0 0, .int .i64 0] 28)) (by simp))
  have f1 : w1.frozen? ⟨w.heap.size + 1, 1, none⟩ = false := frozen_of_row w1 _ 1 _ _ (HM1.out.get (b := w.heap.size + 1) (o := (.cells #[.slice none 0 0, .int .i64 0] 28)) (by simp))
  have hz := block_lt (HM1.out.get (b := w.heap.size + 1) (o := (.cells #[.slice none 0 0, .int .i64 0] 28)) (by simp))
  clear HMM q0 q1
  have R : Hid (w.grownBy ((w1.setCell ⟨w.heap.size + 1, 0, none⟩ (.slice none 0 0)).setCell ⟨w.heap.size + 1, 1, none⟩ (.int .i64 0)) none) := grown_set (grown_set HM1.out.g (by simp)) (by simp)
  clear HM1
  go_wp2
  exact bodyPost_ret (v := .tuple #[.agg #[.slice none 0 0, .int .i64 0], .bool false]) (by simp [results, Tryd.results25, go_sem, r0, r1]) rfl ⟨rfl, R.out⟩

set_option maxRecDepth 100000 in
set_option maxHeartbeats 2000000 in
theorem sRic_number (xs : List Int) (c x z : Int) (ao : Option Addr) (len cap : Nat) (w : World) (hx : Ints w ao len xs) (hlen : len ≤ 4194304) (hv : VB xs c = true) (hr : Vr x z = false) :
    Calls Tryd.prog 25 #[.agg #[.slice ao len cap, .int .i64 c], .int .i64 x, .int .i64 z] w (GaveNone w) := by
  have HMM := Lib.hid (((Mem.start w).block (.cells #[.slice ao len cap, .int .i64 c] 28)).block (.cells #[.slice none 0 0, .int .i64 0] 28))
  have HX := Lib.hid hx
  have HV := Lib.hid hv
  have HZ := Lib.hid hr
  clear hx hv hr
  have q0 := (two_cells (HMM.out.get (b := w.heap.size) (o := (.cells #[.slice ao len cap, .int .i64 c] 28)) (by simp))).1
  have q1 := (two_cells (HMM.out.get (b := w.heap.size) (o := (.cells #[.slice ao len cap, .int .i64 c] 28)) (by simp))).2
  go_enter Tryd.func25, Tryd.ntmps25
  go_upto_region 1 with fail
  go_cut [25] from 8 to 25 (fun cc wx => cc = .bool true ∧ Hid (Mem w wx ([] ++ [(w.heap.size, Obj.cells #[.slice ao len cap, .int .i64 c] 28)] ++ [(w.heap.size + 1, Obj.cells #[.slice none 0 0, .int .i64 0] 28)])))
  case first =>
    first | (go_region_with ((first
    | (go_at_call 47; refine (sValidBits xs ao len cap c true _ ((HX.out.grown HMM.out.g).grown (grown_drew _ _)) (by omega) HV.out).mono ?_; rintro e w1 ⟨rfl, hg1⟩; have HM1 := Lib.hid ((HMM.out.grown (grown_drew _ _)).grown hg1); have hS0 := hg1.cell q0 (by simp); have hS1 := hg1.cell q1 (by simp); clear hg1)
    | (go_at_call 38; refine (validRice_any x z false _ HZ.out).mono ?_; rintro e w' ⟨rfl, rfl⟩)))) | fail
    all_goals (go_wp2_with fail; go_meet; exact ⟨rfl, Lib.hid (HM1.out.cast (by simp))⟩)
  case rest =>
  obtain ⟨rfl, HM1⟩ := hcut
  generalize wc = w1 at *
  have r0 := (two_cells (HM1.out.get (b := w.heap.size + 1) (o := (.cells #[.slice none 0 0, .int .i64 0] 28)) (by simp))).1
  have r1 := (two_cells (HM1.out.get (b := w.heap.size + 1) (o := (.cells #[.slice none 0 0, .int .i64 0] 28)) (by simp))).2
  have f0 : w1.frozen? ⟨w.heap.size + 1, 0, none⟩ = false := frozen_of_row w1 _ 0 _ _ (HM1.out.get (b := w.heap.size + 1) (o := (.cells #[.slice none 0 0, .int .i64 0] 28)) (by simp))
  have f1 : w1.frozen? ⟨w.heap.size + 1, 1, none⟩ = false := frozen_of_row w1 _ 1 _ _ (HM1.out.get (b := w.heap.size + 1) (o := (.cells #[.slice none 0 0, .int .i64 0] 28)) (by simp))
  have hz := block_lt (HM1.out.get (b := w.heap.size + 1) (o := (.cells #[.slice none 0 0, .int .i64 0] 28)) (by simp))
  clear HMM q0 q1
  have R : Hid (w.grownBy ((w1.setCell ⟨w.heap.size + 1, 0, none⟩ (.slice none 0 0)).setCell ⟨w.heap.size + 1, 1, none⟩ (.int .i64 0)) none) := grown_set (grown_set HM1.out.g (by simp)) (by simp)
  clear HM1
  go_wp2
  exact bodyPost_ret (v := .tuple #[.agg #[.slice none 0 0, .int .i64 0], .bool false]) (by simp [results, Tryd.results25, go_sem, r0, r1]) rfl ⟨rfl, R.out⟩

set_option maxRecDepth 100000 in
set_option maxHeartbeats 2000000 in
theorem sRic_room (bs : List Bool) (m k0 l0 : Nat) (x : Int) (hm : bs.length = m) (ao : Option Addr) (len cap : Nat) (w : World) (hx : Ints w ao len (pk bs)) (hlen : len ≤ 4194304) (hb : bs.length ≤ 16384) (hr : Vr x (k0 : Int) = true) (hl0 : Rl x (k0 : Int) = (l0 : Int)) (hl1 : l0 ≤ 515) (hroom : 16384 < m + l0) :
    Calls Tryd.prog 25 #[.agg #[.slice ao len cap, .int .i64 (m : Int)], .int .i64 x, .int .i64 (k0 : Int)] w (GaveNone w) := by
  have HMM := Lib.hid (((Mem.start w).block (.cells #[.slice ao len cap, .int .i64 (m : Int)] 28)).block (.cells #[.slice none 0 0, .int .i64 0] 28))
  have HX := Lib.hid hx
  have HV : Hid (VB (pk bs) (m : Int) = true) := by show _ = _; rw [← hm]; exact pk_VB hb
  have HZ := Lib.hid hr
  have HL := Lib.hid hl0
  have hm2 : m ≤ 16384 := by omega
  have hd : decide (16384 < (m : Int) + (l0 : Int)) = true := by simp; omega
  have hw0 : IntKind.i64.wrap ((m : Int) + (l0 : Int)) = (m : Int) + (l0 : Int) := IntWalk.i64_in _ (by omega)
  clear hx hm hb hr hl0
  have q0 := (two_cells (HMM.out.get (b := w.heap.size) (o := (.cells #[.slice ao len cap, .int .i64 (m : Int)] 28)) (by simp))).1
  have q1 := (two_cells (HMM.out.get (b := w.heap.size) (o := (.cells #[.slice ao len cap, .int .i64 (m : Int)] 28)) (by simp))).2
  go_enter Tryd.func25, Tryd.ntmps25
  go_wp2_with fail
  first | (go_region_held3 (fun w' => w'.cell? ⟨w.heap.size, 0, none⟩ = some (.slice ao len cap) ∧ w'.cell? ⟨w.heap.size, 1, none⟩ = some (.int .i64 (m : Int))) (first | go_keep | exact ⟨by assumption, by assumption⟩) ((first
    | (go_at_call 47; refine (sValidBits (pk bs) ao len cap (m : Int) true _ ((HX.out.grown HMM.out.g).grown (grown_drew _ _)) (by omega) HV.out).mono ?_; rintro e w1 ⟨rfl, hg1⟩; have HM1 := Lib.hid ((HMM.out.grown (grown_drew _ _)).grown hg1); have hS0 := hg1.cell q0 (by simp); have hS1 := hg1.cell q1 (by simp); clear hg1)
    | (go_at_call 38; refine (validRice_any x (k0 : Int) true _ HZ.out).mono ?_; rintro e w' ⟨rfl, rfl⟩)
    | (go_at_call 14; refine (sRiceLength x (k0 : Int) (l0 : Int) _ HL.out).mono ?_; rintro e w' ⟨rfl, rfl⟩)))) | fail
  have r0 := (two_cells (HM1.out.get (b := w.heap.size + 1) (o := (.cells #[.slice none 0 0, .int .i64 0] 28)) (by simp))).1
  have r1 := (two_cells (HM1.out.get (b := w.heap.size + 1) (o := (.cells #[.slice none 0 0, .int .i64 0] 28)) (by simp))).2
  have f0 : w1.frozen? ⟨w.heap.size + 1, 0, none⟩ = false := frozen_of_row w1 _ 0 _ _ (HM1.out.get (b := w.heap.size + 1) (o := (.cells #[.slice none 0 0, .int .i64 0] 28)) (by simp))
  have f1 : w1.frozen? ⟨w.heap.size + 1, 1, none⟩ = false := frozen_of_row w1 _ 1 _ _ (HM1.out.get (b := w.heap.size + 1) (o := (.cells #[.slice none 0 0, .int .i64 0] 28)) (by simp))
  have hz := block_lt (HM1.out.get (b := w.heap.size + 1) (o := (.cells #[.slice none 0 0, .int .i64 0] 28)) (by simp))
  clear HMM q0 q1
  have R : Hid (w.grownBy ((w1.setCell ⟨w.heap.size + 1, 0, none⟩ (.slice none 0 0)).setCell ⟨w.heap.size + 1, 1, none⟩ (.int .i64 0)) none) := grown_set (grown_set HM1.out.g (by simp)) (by simp)
  clear HM1
  go_wp2
  exact bodyPost_ret (v := .tuple #[.agg #[.slice none 0 0, .int .i64 0], .bool false]) (by simp [results, Tryd.results25, go_sem, r0, r1]) rfl ⟨rfl, R.out⟩

set_option maxRecDepth 100000 in
set_option maxHeartbeats 2000000 in
theorem sRic_good (bs : List Bool) (m z k0 q m2 n2 m3 n3 : Nat) (x : Int) (hm : bs.length = m) (hq : z / 2 ^ k0 = q) (hm2 : m + q + 1 = m2) (hn2 : (m2 + 7) / 8 = n2) (hm3 : m2 + k0 = m3) (hn3 : (m3 + 7) / 8 = n3) (ao : Option Addr) (len cap : Nat) (w : World) (hx : Ints w ao len (pk bs)) (hn : ao = none → cap = 0) (h1 : -4194303 ≤ x) (h2 : x ≤ 4194303) (hz : zz x = (z : Int)) (hk : k0 ≤ 14) (hq5 : q ≤ 500) (hb : m3 ≤ 16384) (hr : Vr x (k0 : Int) = true) (hl0 : Rl x (k0 : Int) = ((q + 1 + k0 : Nat) : Int)) :
    Calls Tryd.prog 25 #[.agg #[.slice ao len cap, .int .i64 (m : Int)], .int .i64 x, .int .i64 (k0 : Int)] w (GaveBits (bs ++ ric z k0) w) := by
  have hll := hx.1
  rw [pk_len] at hll
  have HMM := Lib.hid (((Mem.start w).block (.cells #[.slice ao len cap, .int .i64 (m : Int)] 28)).block (.cells #[.slice none 0 0, .int .i64 0] 28))
  have HV : Hid (VB (pk bs) (m : Int) = true) := by show _ = _; rw [← hm]; exact pk_VB (by omega)
  obtain ⟨l0, hl⟩ : ∃ l0, q + 1 + k0 = l0 := ⟨_, rfl⟩
  rw [hl] at hl0
  have hl3 : (bs ++ ric z k0).length = m3 := by rw [List.length_append, ric_len, hq]; omega
  have HZ := Lib.hid hr
  have HL := Lib.hid hl0
  have HX := Lib.hid hx
  have HN := Lib.hid hn
  have HB := Lib.hid hl3
  have HS := Lib.hid (fun W (h : Ints W ao len (pk bs)) => sputR_any bs m z k0 q m2 n2 m3 n3 x hm hq hm2 hn2 hm3 hn3 ao len cap W h hn h1 h2 hz hk hq5 hb)
  have hmm2 : m ≤ 16384 := by omega
  have hlenb : len ≤ 4194304 := by omega
  have hl1 : l0 ≤ 515 := by omega
  have hd : decide (16384 < (m : Int) + (l0 : Int)) = false := by simp; omega
  have hw0 : IntKind.i64.wrap ((m : Int) + (l0 : Int)) = (m : Int) + (l0 : Int) := IntWalk.i64_in _ (by omega)
  have HN3 := Lib.hid hn3
  clear hx hm hr hl0 hn hl3 hll hl hq hm2 hn2 hm3 hn3 h1 h2 hz
  have q0 := (two_cells (HMM.out.get (b := w.heap.size) (o := (.cells #[.slice ao len cap, .int .i64 (m : Int)] 28)) (by simp))).1
  have q1 := (two_cells (HMM.out.get (b := w.heap.size) (o := (.cells #[.slice ao len cap, .int .i64 (m : Int)] 28)) (by simp))).2
  go_enter Tryd.func25, Tryd.ntmps25
  go_wp2_with fail
  first | (go_region_held3 (fun w' => w'.cell? ⟨w.heap.size, 0, none⟩ = some (.slice ao len cap) ∧ w'.cell? ⟨w.heap.size, 1, none⟩ = some (.int .i64 (m : Int))) (first | go_keep | exact ⟨by assumption, by assumption⟩) ((first
    | (go_at_call 47; refine (sValidBits (pk bs) ao len cap (m : Int) true _ ((HX.out.grown HMM.out.g).grown (grown_drew _ _)) (by omega) HV.out).mono ?_; rintro e w1 ⟨rfl, hg1⟩; have HM1 := Lib.hid ((HMM.out.grown (grown_drew _ _)).grown hg1); have hS0 := hg1.cell q0 (by simp); have hS1 := hg1.cell q1 (by simp); clear hg1)
    | (go_at_call 38; refine (validRice_any x (k0 : Int) true _ HZ.out).mono ?_; rintro e w' ⟨rfl, rfl⟩)
    | (go_at_call 14; refine (sRiceLength x (k0 : Int) (l0 : Int) _ HL.out).mono ?_; rintro e w' ⟨rfl, rfl⟩)))) | fail
  have r0 := (two_cells (HM1.out.get (b := w.heap.size + 1) (o := (.cells #[.slice none 0 0, .int .i64 0] 28)) (by simp))).1
  have r1 := (two_cells (HM1.out.get (b := w.heap.size + 1) (o := (.cells #[.slice none 0 0, .int .i64 0] 28)) (by simp))).2
  have f0 : w1.frozen? ⟨w.heap.size + 1, 0, none⟩ = false := frozen_of_row w1 _ 0 _ _ (HM1.out.get (b := w.heap.size + 1) (o := (.cells #[.slice none 0 0, .int .i64 0] 28)) (by simp))
  have f1 : w1.frozen? ⟨w.heap.size + 1, 1, none⟩ = false := frozen_of_row w1 _ 1 _ _ (HM1.out.get (b := w.heap.size + 1) (o := (.cells #[.slice none 0 0, .int .i64 0] 28)) (by simp))
  have hz := block_lt (HM1.out.get (b := w.heap.size + 1) (o := (.cells #[.slice none 0 0, .int .i64 0] 28)) (by simp))
  clear HMM q0 q1
  go_wp2_with fail
  refine (HS.out _ (HX.out.grown HM1.out.g)).mono ?_
  rintro e w3 ⟨v3, rfl, ho3, hg3⟩
  obtain ⟨a3, c3, rfl, _⟩ := ho3.reads
  have hA := grown_heap hg3 (HM1.out.get (b := w.heap.size + 1) (o := (.cells #[.slice none 0 0, .int .i64 0] 28)) (by simp)) (by simp)
  clear r0 r1 f0 f1 hS0 hS1
  have r0 := (two_cells hA).1
  have r1 := (two_cells hA).2
  have f0 : w3.frozen? ⟨w.heap.size + 1, 0, none⟩ = false := frozen_of_row w3 _ 0 _ _ hA
  have f1 : w3.frozen? ⟨w.heap.size + 1, 1, none⟩ = false := frozen_of_row w3 _ 1 _ _ hA
  have R : Hid (Owns ((w3.setCell ⟨w.heap.size + 1, 0, none⟩ (.slice a3 n3 c3)).setCell ⟨w.heap.size + 1, 1, none⟩ (.int .i64 (m3 : Int))) w.heap.size (.slice a3 n3 c3) n3 (pk (bs ++ ric z k0)) ∧ w.grownBy ((w3.setCell ⟨w.heap.size + 1, 0, none⟩ (.slice a3 n3 c3)).setCell ⟨w.heap.size + 1, 1, none⟩ (.int .i64 (m3 : Int))) none ∧ w1.heap.size ≤ w3.heap.size ∧ (bs ++ ric z k0).length = m3 ∧ ((bs ++ ric z k0).length + 7) / 8 = n3) := by
    have hne : (Value.slice a3 n3 c3).ownBlock ≠ some (w.heap.size + 1) := fun e => by have := ho3.block _ e; (try simp at this); omega
    have hsz := hg3.size
    exact ⟨((ho3.set _ _ hne).set _ _ hne).base_le (by first | omega | (simp; omega)), grown_set (grown_set (grown_trans HM1.out.g hg3) (by simp)) (by simp), hsz, HB.out, by rw [HB.out]; exact HN3.out⟩
  have hz3 := R.out.2.2.1
  clear ho3 hg3 hA
  go_wp2
  refine bodyPost_ret (v := .tuple #[.agg #[.slice a3 n3 c3, .int .i64 (m3 : Int)], .bool true]) (by simp [results, Tryd.results25, go_sem, r0, r1]) rfl ⟨.slice a3 n3 c3, ?_, ?_, R.out.2.1⟩
  · rw [R.out.2.2.2.1]
  · rw [R.out.2.2.2.2]; exact R.out.1

/-- A number with a Rice code: its code in parts. -/
theorem Vr_in {x z : Int} (h : Vr x z = true) : ∃ k n : Nat, z = (k : Int) ∧ k ≤ 14 ∧ Zz x = (n : Int) ∧ n / 2 ^ k ≤ 500 := by
  have h := of_decide_eq_true h
  have h1 : ¬ Zz x < 0 := fun e => h (Or.inl e)
  have h2 : ¬ z < 0 := fun e => h (Or.inr (Or.inl e))
  have h3 : ¬ 14 < z := fun e => h (Or.inr (Or.inr (Or.inl e)))
  have h4 : ¬ 500 < Zz x / 2 ^ z.toNat := fun e => h (Or.inr (Or.inr (Or.inr e)))
  obtain ⟨k, rfl⟩ := Int.eq_ofNat_of_zero_le (show 0 ≤ z by omega)
  obtain ⟨n, hn⟩ := Int.eq_ofNat_of_zero_le (show 0 ≤ Zz x by omega)
  refine ⟨k, n, rfl, by omega, hn, ?_⟩
  rw [hn] at h4
  have e : (n : Int) / 2 ^ (k : Int).toNat = ((n / 2 ^ k : Nat) : Int) := by simp
  rw [e] at h4
  omega
theorem Vr_no1 {x z : Int} (h : Vr x z = false) : Rl x z = -1 := by
  exact Rl_out (Classical.not_not.1 (of_decide_eq_false h))

theorem Vr_Rl1 {x z : Int} (h : Vr x z = true) : 1 ≤ Rl x z := by
  obtain ⟨k, n, rfl, hk, hn, hq⟩ := Vr_in h
  rw [Rl_good hn rfl hk hq]
  have h9 := Int.natCast_nonneg (n / 2 ^ k)
  generalize ((n / 2 ^ k : Nat) : Int) = y at *
  omega

theorem ric_both (xs : List Int) (c x z : Int) (len : Nat) (hlen : len ≤ 4194304) : ∃ o : Option (List Bool), (∀ bs, o = some bs → bs.length ≤ 16384) ∧
    Hid (∀ (ao : Option Addr) (cap : Nat) (w : World), Ints w ao len xs → (ao = none → cap = 0) → Calls Tryd.prog 25 #[.agg #[.slice ao len cap, .int .i64 c], .int .i64 x, .int .i64 z] w (GaveU o w)) ∧
    Hid (∀ (ao : Option Addr) (cap : Nat) (w : World), Ints w ao len xs → (ao = none → cap = 0) → ErrsU w → Calls Tryd.prog 15 #[.agg #[.slice ao len cap, .int .i64 c], .int .i64 x, .int .i64 z] w (GaveU o w)) ∧
    Hid (∀ rs, o = some rs → ∃ (bs : List Bool) (n k : Nat), xs = pk bs ∧ c = (bs.length : Int) ∧ z = (k : Int) ∧ k ≤ 14 ∧ Zz x = (n : Int) ∧ n / 2 ^ k ≤ 500 ∧ bs.length + (n / 2 ^ k + 1 + k) ≤ 16384 ∧ rs = bs ++ ric n k) ∧
    Hid (∀ bs, xs = pk bs → c = (bs.length : Int) → Vr x z = true → (bs.length : Int) + Rl x z ≤ 16384 → o ≠ none) := by
  cases hv : VB xs c with
  | false =>
    exact ⟨none, by simp, fun ao cap w hx hn => sRic_inv xs c x z ao len cap w hx hlen hv, fun ao cap w hx hn hE => iRic_none c x z ao len cap w (fun w1 hg _ => app_inv_rice _ _ xs c ao len cap w1 (hx.grown hg) hlen hv (hE.bits.grown hg)), by (intro rs h; cases h), by
      intro bs h1 h2 h3 h4
      subst h1; subst h2
      rw [pk_VB (by have := Vr_Rl1 h3; omega)] at hv; cases hv⟩
  | true =>
  obtain ⟨bs, rfl, rfl, hb⟩ := VB_pk hv
  cases hz : Vr x z with
  | false =>
    exact ⟨none, by simp, fun ao cap w hx hn => sRic_number _ _ x z ao len cap w hx hlen hv hz, fun ao cap w hx hn hE => iRic_none _ x z ao len cap w (fun w1 hg hP => app_bad_rice _ _ bs bs.length rfl ao len cap w1 (hx.grown hg) hn hb (fun w2 w3 B hg2 hW => clo_rice x z B _ _ w3 (hP w3 (grown_trans hg2 hW.g)).1 (hP w3 (grown_trans hg2 hW.g)).2 _ ((putRice_number x z w3 _ (hE.num.grown (grown_trans hg (grown_trans hg2 hW.g))) (Vr_no1 hz)).mono fun e w' ⟨h1, h2⟩ => ⟨Or.inr h1, h1, h2 ▸ hW.g⟩))), by (intro rs h; cases h), by (intro _ _ _ h; cases h)⟩
  | true =>
  obtain ⟨k, n, rfl, hk, hn9, hq⟩ := Vr_in hz
  have hzr := Zz_neg_iff x
  have hx1 : -4194303 ≤ x ∧ x ≤ 4194303 := by omega
  have hzz : zz x = (n : Int) := by rw [← hn9]; unfold Zz; rw [if_neg (by omega)]
  have hRl := Rl_good hn9 (rfl : (k : Int) = (k : Int)) hk hq
  have hRl2 : Rl x (k : Int) = ((n / 2 ^ k + 1 + k : Nat) : Int) := by rw [hRl]; omega
  by_cases hr : bs.length + (n / 2 ^ k + 1 + k) ≤ 16384
  · exact ⟨some (bs ++ ric n k), by (intro rs h; injection h with h; subst h; rw [List.length_append, ric_len]; omega), fun ao cap w hx hn => sRic_good bs bs.length n k (n / 2 ^ k) _ _ _ _ x rfl rfl rfl rfl rfl rfl ao len cap w hx hn hx1.1 hx1.2 hzz hk hq (by omega) hz hRl2, fun ao cap w hx hn hE => iRic_good _ x k (bs ++ ric n k) ao len cap w (fun w1 hg hP => app_good_rice _ _ bs (bs ++ ric n k) bs.length rfl ao len cap w1 (hx.grown hg) hn hb (fun w2 w3 B hg2 hW => clo_rice x k B _ _ w3 (hP w3 (grown_trans hg2 hW.g)).1 (hP w3 (grown_trans hg2 hW.g)).2 _ ((putRice_good x n k w2 w3 B bs hn9 hk hq hW hr).mono fun e w' ⟨h1, h2⟩ => ⟨Or.inl h1, h1, h2⟩))), by (intro rs h; injection h with h; exact ⟨bs, n, k, rfl, rfl, rfl, hk, hn9, hq, hr, h.symm⟩), by (intro _ _ _ _ _ h; cases h)⟩
  · exact ⟨none, by simp, fun ao cap w hx hn => sRic_room bs bs.length k _ x rfl ao len cap w hx hlen hb hz hRl2 (by omega) (by omega), fun ao cap w hx hn hE => iRic_none _ x k ao len cap w (fun w1 hg hP => app_bad_rice _ _ bs bs.length rfl ao len cap w1 (hx.grown hg) hn hb (fun w2 w3 B hg2 hW => clo_rice x k B _ _ w3 (hP w3 (grown_trans hg2 hW.g)).1 (hP w3 (grown_trans hg2 hW.g)).2 _ ((putRice_room x n k w2 w3 B bs hn9 hk hq hW (hE.room.grown (grown_trans hg hg2)) hb (by omega)).mono fun e w' ⟨h1, h2⟩ => ⟨Or.inr h1, h1, h2⟩))), by (intro rs h; cases h), by
      intro bs' h1 h2 h3 h4
      have : bs.length = bs'.length := by omega
      rw [hRl2] at h4; omega⟩

end Go.Proofs.YtdbneenlejgjcaaDoor
