/-
  GetUnary of both texts: what they give for all arguments.
-/
import Derived.Test.YtdbneenlejgjcaaDoorIGet
namespace Go.Proofs.YtdbneenlejgjcaaDoor
open Go.RowKit

/-- The first one from a place on. -/
def OneAt (bs : List Bool) (at_ k : Nat) : Prop := k ≤ 500 ∧ at_ + k < bs.length ∧ cb bs (at_ + k) = 1 ∧ ∀ j, j < k → cb bs (at_ + j) = 0
def NoOne (bs : List Bool) (at_ : Nat) : Prop := ∀ k, k ≤ 500 → at_ + k < bs.length → cb bs (at_ + k) = 0
theorem one_or (bs : List Bool) (at_ : Nat) : (∃ k, OneAt bs at_ k) ∨ NoOne bs at_ := by
  by_cases h : NoOne bs at_
  · exact Or.inr h
  · left
    have key : ∀ n, (∀ j, j < n → j ≤ 500 → at_ + j < bs.length → cb bs (at_ + j) = 0) ∨ ∃ k, OneAt bs at_ k := by
      intro n
      induction n with
      | zero => left; intro j hj; omega
      | succ n ih =>
        rcases ih with ih | ih
        · by_cases h1 : n ≤ 500 ∧ at_ + n < bs.length ∧ cb bs (at_ + n) = 1
          · exact Or.inr ⟨n, h1.1, h1.2.1, h1.2.2, fun j hj => ih j hj (by omega) (by omega)⟩
          · left
            intro j hj h5 hl
            by_cases hjn : j = n
            · subst hjn
              have := cb_range bs (at_ + j)
              by_cases hc : cb bs (at_ + j) = 1
              · exact absurd ⟨h5, hl, hc⟩ h1
              · omega
            · exact ih j (by omega) h5 hl
        · exact Or.inr ih
    rcases key 501 with h2 | h2
    · exact absurd (fun k hk hl => h2 k (by omega) hk hl) h
    · exact h2
theorem numV_one (bs : List Bool) (i : Nat) : numV bs i 1 = cb bs i := by simp [numV]

set_option maxRecDepth 100000 in
set_option maxHeartbeats 2000000 in
theorem getUnary_good (bs : List Bool) (at_ k : Nat) (w0 w : World) (B : Nat) (ao : Option Addr) (len cap m : Nat) (hm : bs.length = m) (hx : Ints w0 ao len (pk bs)) (hR : Rdb w0 w B ao len cap m at_) (hb : m ≤ 16384) (hk : OneAt bs at_ k) :
    Calls Tryd.prog 52 #[.pointer (some ⟨B, 0, none⟩)] w fun e w' => e = .returned (.tuple #[.int .i64 (k : Int), .nilIface]) ∧ Rdb w0 w' B ao len cap m (at_ + k + 1) := by
  have HX := Lib.hid hx
  have HM := Lib.hid hm
  have HR0 := Lib.hid hR
  have HK := Lib.hid hk
  have hk5 := hk.1
  clear hx hm hR hk
  go_enter Tryd.func52, Tryd.ntmps52
  go_wp2
  go_loopw [7] (fun iv wr => ∃ j : Nat, j ≤ k ∧ iv = .int .i64 (j : Int) ∧ Hid (Rdb w0 wr B ao len cap m (at_ + j))) (fun iv _ => k + 1 - (intOf iv).toNat)
  case atStart => exact ⟨0, Nat.zero_le _, rfl, HR0⟩
  case round =>
    obtain ⟨j, hj, rfl, HR⟩ := hrel
    have hd : decide ((j : Int) < 501) = true := by simp; omega
    obtain ⟨y, hy⟩ : ∃ y, numV bs (at_ + j) 1 = y := ⟨_, rfl⟩
    have HY := Lib.hid hy
    go_wp2_with fail
    refine (get_good bs 1 w0 _ B ao len cap (at_ + j) HX.out (by rw [HM.out]; exact HR.out) (by have := HM.out; omega) (by omega) (by have := HK.out.2.1; omega)).mono ?_
    rintro e w2 ⟨rfl, hR2⟩
    rw [HY.out]
    rw [HM.out] at hR2
    have HR2 : Hid (Rdb w0 w2 B ao len cap m (at_ + j + 1)) := hR2
    clear hR2 hy
    by_cases hlt : j < k
    · have hy0 : y = 0 := by rw [← HY.out, numV_one]; exact HK.out.2.2.2 j hlt
      subst hy0
      go_wp2
      go_roundw
      case rel => exact ⟨j + 1, by omega, by go_num, HR2⟩
      case measure => simp [intOf]; omega
    · obtain rfl : j = k := by omega
      have hy1 : y = 1 := by rw [← HY.out, numV_one]; exact HK.out.2.2.1
      subst hy1
      go_wp2
      go_ret2
      exact ⟨rfl, HR2.out⟩

set_option maxRecDepth 100000 in
set_option maxHeartbeats 2000000 in
theorem getUnary_bad (bs : List Bool) (at_ : Nat) (w0 w : World) (B : Nat) (ao : Option Addr) (len cap m : Nat) (hm : bs.length = m) (hx : Ints w0 ao len (pk bs)) (hR : Rdb w0 w B ao len cap m at_) (hb : m ≤ 16384) (hat : at_ ≤ m) (hE : ErrAt w0 2) (hE2 : ErrAt w0 0) (hk : NoOne bs at_) :
    Calls Tryd.prog 52 #[.pointer (some ⟨B, 0, none⟩)] w fun e w' => (∃ t v, e = .returned (.tuple #[.int .i64 0, .iface t v])) ∧ w0.grownBy w' none := by
  have HX := Lib.hid hx
  have HM := Lib.hid hm
  have HR0 := Lib.hid hR
  have HK := Lib.hid hk
  have HE := Lib.hid hE
  have HE2 := Lib.hid hE2
  clear hx hm hR hk hE hE2
  go_enter Tryd.func52, Tryd.ntmps52
  go_wp2
  go_loopw [7] (fun iv wr => ∃ j : Nat, j ≤ 501 ∧ at_ + j ≤ m ∧ iv = .int .i64 (j : Int) ∧ Hid (Rdb w0 wr B ao len cap m (at_ + j))) (fun iv _ => 501 - (intOf iv).toNat)
  case atStart => exact ⟨0, Nat.zero_le _, by omega, rfl, HR0⟩
  case round =>
    obtain ⟨j, hj, hjm, rfl, HR⟩ := hrel
    by_cases h5 : j < 501
    · have hd : decide ((j : Int) < 501) = true := by simp; omega
      by_cases hend : at_ + j < m
      · have HY : Hid (numV bs (at_ + j) 1 = 0) := by show _ = _; rw [numV_one]; exact HK.out j (by omega) (by have := HM.out; omega)
        go_wp2_with fail
        refine (get_good bs 1 w0 _ B ao len cap (at_ + j) HX.out (by rw [HM.out]; exact HR.out) (by have := HM.out; omega) (by omega) (by have := HM.out; omega)).mono ?_
        rintro e w2 ⟨rfl, hR2⟩
        rw [HY.out]
        rw [HM.out] at hR2
        have HR2 : Hid (Rdb w0 w2 B ao len cap m (at_ + j + 1)) := hR2
        clear hR2
        go_wp2
        go_roundw
        case rel => exact ⟨j + 1, by omega, by omega, by go_num, HR2⟩
        case measure => simp [intOf]; omega
      · go_wp2_with fail
        refine (get_end bs m (at_ + j) 1 w0 _ B ao len cap HR.out (HE.out.grown HR.out.g) hb (by omega) (by omega) (by omega)).mono ?_
        rintro e w2 ⟨⟨t, v, rfl⟩, hg2⟩
        have HG := Lib.hid (grown_trans HR.out.g hg2)
        clear hg2
        go_wp2
        go_ret2
        exact ⟨⟨t, v, rfl⟩, HG.out⟩
    · have hd : decide ((j : Int) < 501) = false := by simp; omega
      obtain ⟨t, v, hc⟩ := HE2.out.grown HR.out.g
      go_wp2
      go_quiet (fail)
      go_wp2
      go_ret2
      exact ⟨⟨t, v, rfl⟩, grown_trans HR.out.g (grown_drewN _ _ _)⟩

set_option maxRecDepth 100000 in
set_option maxHeartbeats 2000000 in
theorem read_good_guna (bs : List Bool) (m at_ at2 : Nat) (n : Int) (hm : bs.length = m) (ao : Option Addr) (len cap : Nat) (w : World) (hx : Ints w ao len (pk bs)) (hb : bs.length ≤ 16384) (hat : at_ ≤ m)
    (HC : Hid (∀ (w1 w2 : World) (B : Nat), w.grownBy w1 none → Rdb w1 w2 B ao len cap m at_ → Calls Tryd.prog 52 #[.pointer (some ⟨B, 0, none⟩)] w2 fun e w' => e = .returned (.tuple #[.int .i64 n, .nilIface]) ∧ Rdb w1 w' B ao len cap m at2)) :
    Calls Tryd.prog 51 #[.agg #[.slice ao len cap, .int .i64 (m : Int)], .int .i64 (at_ : Int), .func (.func 52) #[] #[]] w fun e w' => e = .returned (.tuple #[.int .i64 n, .int .i64 (at2 : Int), .bool true]) ∧ w.grownBy w' none := by
  have HX := Lib.hid hx
  have HM := Lib.hid hm
  have HB := Lib.hid hb
  clear hx hm hb
  go_enter Tryd.func51, Tryd.ntmps51
  go_wp2_with fail
  refine (newReader_good bs m at_ HM.out ao len cap _ (HX.out.grown (grown_alloc _ _ _)) HB.out hat).mono ?_
  rintro e w1 ⟨B, rfl, hR⟩
  have HR := Lib.hid hR
  clear hR
  go_wp2_with fail
  refine (HC.out _ _ B (grown_alloc w (.cells #[.slice ao len cap, .int .i64 (m : Int)] 28) none) HR.out).mono ?_
  rintro e w2 ⟨rfl, hR2⟩
  have q2 := hR2.cells.2.2.1
  have HG := Lib.hid (grown_trans (grown_alloc w (.cells #[.slice ao len cap, .int .i64 (m : Int)] 28) none) hR2.g)
  clear hR2 HR
  go_wp2
  go_quiet (fail)
  go_wp2
  exact bodyPost_ret (v := .tuple #[.int .i64 n, .int .i64 (at2 : Int), .bool true]) (by simp [results, Tryd.results51, go_sem]) rfl ⟨rfl, grown_trans HG.out (grown_drewN _ _ _)⟩

set_option maxRecDepth 100000 in
set_option maxHeartbeats 2000000 in
theorem read_bad_guna (bs : List Bool) (m at_ : Nat) (hm : bs.length = m) (ao : Option Addr) (len cap : Nat) (w : World) (hx : Ints w ao len (pk bs)) (hb : bs.length ≤ 16384) (hat : at_ ≤ m)
    (HC : Hid (∀ (w1 w2 : World) (B : Nat), w.grownBy w1 none → Rdb w1 w2 B ao len cap m at_ → Calls Tryd.prog 52 #[.pointer (some ⟨B, 0, none⟩)] w2 fun e w' => (∃ t v, e = .returned (.tuple #[.int .i64 0, .iface t v])) ∧ w1.grownBy w' none)) :
    Calls Tryd.prog 51 #[.agg #[.slice ao len cap, .int .i64 (m : Int)], .int .i64 (at_ : Int), .func (.func 52) #[] #[]] w fun e w' => e = .returned (.tuple #[.int .i64 0, .int .i64 0, .bool false]) ∧ w.grownBy w' none := by
  have HX := Lib.hid hx
  have HM := Lib.hid hm
  have HB := Lib.hid hb
  clear hx hm hb
  go_enter Tryd.func51, Tryd.ntmps51
  go_wp2_with fail
  refine (newReader_good bs m at_ HM.out ao len cap _ (HX.out.grown (grown_alloc _ _ _)) HB.out hat).mono ?_
  rintro e w1 ⟨B, rfl, hR⟩
  have HR := Lib.hid hR
  clear hR
  go_wp2_with fail
  refine (HC.out _ _ B (grown_alloc w (.cells #[.slice ao len cap, .int .i64 (m : Int)] 28) none) HR.out).mono ?_
  rintro e w2 ⟨⟨t, v, rfl⟩, hg2⟩
  have HG := Lib.hid (grown_trans (grown_alloc w (.cells #[.slice ao len cap, .int .i64 (m : Int)] 28) none) hg2)
  clear hg2 HR
  go_wp2
  exact bodyPost_ret (v := .tuple #[.int .i64 0, .int .i64 0, .bool false]) (by simp [results, Tryd.results51, go_sem]) rfl ⟨rfl, HG.out⟩

set_option maxRecDepth 100000 in
set_option maxHeartbeats 2000000 in
theorem read_none_guna (c a : Int) (ao : Option Addr) (len cap : Nat) (w : World)
    (HC : Hid (∀ (w1 : World), w.grownBy w1 none → Calls Tryd.prog 75 #[.agg #[.slice ao len cap, .int .i64 c], .int .i64 a] w1 fun e w' => (∃ t v, e = .returned (.tuple #[.pointer none, .iface t v])) ∧ w1.grownBy w' none)) :
    Calls Tryd.prog 51 #[.agg #[.slice ao len cap, .int .i64 c], .int .i64 a, .func (.func 52) #[] #[]] w fun e w' => e = .returned (.tuple #[.int .i64 0, .int .i64 0, .bool false]) ∧ w.grownBy w' none := by
  go_enter Tryd.func51, Tryd.ntmps51
  go_wp2_with fail
  refine (HC.out _ (grown_alloc w (.cells #[.slice ao len cap, .int .i64 c] 28) none)).mono ?_
  rintro e w1 ⟨⟨t, v, rfl⟩, hg1⟩
  have HG := Lib.hid (grown_trans (grown_alloc w (.cells #[.slice ao len cap, .int .i64 c] 28) none) hg1)
  clear hg1
  go_wp2
  exact bodyPost_ret (v := .tuple #[.int .i64 0, .int .i64 0, .bool false]) (by simp [results, Tryd.results51, go_sem]) rfl ⟨rfl, HG.out⟩


def GotNNB (n p : Int) (ok : Bool) (w : World) (e : Ending) (w' : World) : Prop := e = .returned (.tuple #[.int .i64 n, .int .i64 p, .bool ok]) ∧ w.grownBy w' none

theorem iGuna_by (c a n p : Int) (ok : Bool) (ao : Option Addr) (len cap : Nat) (w : World)
    (HC : Hid (∀ (w1 : World), w.grownBy w1 none → Calls Tryd.prog 51 #[.agg #[.slice ao len cap, .int .i64 c], .int .i64 a, .func (.func 52) #[] #[]] w1 fun e w' => e = .returned (.tuple #[.int .i64 n, .int .i64 p, .bool ok]) ∧ w1.grownBy w' none)) :
    Calls Tryd.prog 20 #[.agg #[.slice ao len cap, .int .i64 c], .int .i64 a] w (GotNNB n p ok w) := by
  go_enter Tryd.func20, Tryd.ntmps20
  go_wp2_with fail
  refine (HC.out _ (grown_alloc w (.cells #[.slice ao len cap, .int .i64 c] 28) none)).mono ?_
  rintro e w3 ⟨rfl, hg3⟩
  have HG := Lib.hid (grown_trans (grown_alloc w (.cells #[.slice ao len cap, .int .i64 c] 28) none) hg3)
  clear hg3
  go_wp2
  exact bodyPost_ret (v := .tuple #[.int .i64 n, .int .i64 p, .bool ok]) (by simp [results, Tryd.results20, go_sem]) rfl ⟨rfl, HG.out⟩

/-! The specification. -/
set_option maxRecDepth 100000 in
set_option maxHeartbeats 2000000 in
theorem sgetU_good (bs : List Bool) (m at_ k : Nat) (hm : bs.length = m) (ao : Option Addr) (len cap : Nat) (w : World) (hx : Ints w ao len (pk bs)) (hb : m ≤ 16384) (hk : OneAt bs at_ k) :
    Calls Tryd.prog 55 #[.agg #[.slice ao len cap, .int .i64 (m : Int)], .int .i64 (at_ : Int)] w fun e w' => e = .returned (.tuple #[.int .i64 (k : Int), .int .i64 ((at_ : Int) + (k : Int) + 1)]) ∧ w.grownBy w' none := by
  have HMM := Lib.hid ((Mem.start w).block (.cells #[.slice ao len cap, .int .i64 (m : Int)] 28))
  have HX := Lib.hid hx
  have HM := Lib.hid hm
  have HK := Lib.hid hk
  have hk5 := hk.1
  have hk6 : at_ + k < m := by have := hk.2.1; omega
  clear hx hm hk
  go_enter Tryd.func55, Tryd.ntmps55
  go_wp2
  go_loopw [6] (fun iv wr => ∃ j : Nat, j ≤ k ∧ iv = .int .i64 (j : Int) ∧ Hid (Mem w wr ([] ++ [(w.heap.size, Obj.cells #[.slice ao len cap, .int .i64 (m : Int)] 28)]))) (fun iv _ => k + 1 - (intOf iv).toNat)
  case atStart => exact ⟨0, Nat.zero_le _, rfl, HMM⟩
  case round =>
    obtain ⟨j, hj, rfl, HMk⟩ := hrel
    have hd : decide ((j : Int) ≤ 500) = true := by simp; omega
    obtain ⟨y, hy⟩ : ∃ y, numV bs (at_ + j) 1 = y := ⟨_, rfl⟩
    have HY := Lib.hid hy
    clear hy
    have q0 := (two_cells (HMk.out.get (b := w.heap.size) (o := .cells #[.slice ao len cap, .int .i64 (m : Int)] 28) (by simp))).1
    have q1 := (two_cells (HMk.out.get (b := w.heap.size) (o := .cells #[.slice ao len cap, .int .i64 (m : Int)] 28) (by simp))).2
    go_wp2_with fail
    refine (has_any ao len cap m _ 1 true _ hb (by omega) (by rw [inB_true (by omega) (by omega)]; simp; omega)).mono ?_
    rintro e w2 ⟨rfl, hg2⟩
    have HM2 := Lib.hid (HMk.out.grown hg2)
    clear hg2 q0 q1
    have q0 := (two_cells (HM2.out.get (b := w.heap.size) (o := .cells #[.slice ao len cap, .int .i64 (m : Int)] 28) (by simp))).1
    have q1 := (two_cells (HM2.out.get (b := w.heap.size) (o := .cells #[.slice ao len cap, .int .i64 (m : Int)] 28) (by simp))).2
    go_wp2_with fail
    rw [show (at_ : Int) + (j : Int) = ((at_ + j : Nat) : Int) by omega]
    refine (sget_any bs m (at_ + j) 1 HM.out ao len cap _ (HX.out.grown HM2.out.g) (by have := HM.out; omega) (by omega) (by omega)).mono ?_
    rintro e w3 ⟨rfl, hg3⟩
    rw [HY.out]
    have HM3 := Lib.hid (HM2.out.grown hg3)
    clear hg3 q0 q1
    by_cases hlt : j < k
    · have hy0 : y = 0 := by rw [← HY.out, numV_one]; exact HK.out.2.2.2 j hlt
      subst hy0
      go_wp2
      go_roundw
      case rel => exact ⟨j + 1, by omega, by go_num, HM3⟩
      case measure => simp [intOf]; omega
    · obtain rfl : j = k := by omega
      have hy1 : y = 1 := by rw [← HY.out, numV_one]; exact HK.out.2.2.1
      subst hy1
      go_wp2
      go_ret2
      exact ⟨rfl, HM3.out.g⟩

set_option maxRecDepth 100000 in
set_option maxHeartbeats 2000000 in
theorem sgetU_bad (bs : List Bool) (m at_ : Nat) (hm : bs.length = m) (ao : Option Addr) (len cap : Nat) (w : World) (hx : Ints w ao len (pk bs)) (hb : m ≤ 16384) (hat : at_ ≤ m) (hk : NoOne bs at_) :
    Calls Tryd.prog 55 #[.agg #[.slice ao len cap, .int .i64 (m : Int)], .int .i64 (at_ : Int)] w fun e w' => e = .returned (.tuple #[.int .i64 (-1), .int .i64 (-1)]) ∧ w.grownBy w' none := by
  have HMM := Lib.hid ((Mem.start w).block (.cells #[.slice ao len cap, .int .i64 (m : Int)] 28))
  have HX := Lib.hid hx
  have HM := Lib.hid hm
  have HK := Lib.hid hk
  clear hx hm hk
  go_enter Tryd.func55, Tryd.ntmps55
  go_wp2
  go_loopw [6] (fun iv wr => ∃ j : Nat, j ≤ 501 ∧ at_ + j ≤ m ∧ iv = .int .i64 (j : Int) ∧ Hid (Mem w wr ([] ++ [(w.heap.size, Obj.cells #[.slice ao len cap, .int .i64 (m : Int)] 28)]))) (fun iv _ => 501 - (intOf iv).toNat)
  case atStart => exact ⟨0, Nat.zero_le _, by omega, rfl, HMM⟩
  case round =>
    obtain ⟨j, hj, hjm, rfl, HMk⟩ := hrel
    by_cases h5 : j < 501
    · have hd : decide ((j : Int) ≤ 500) = true := by simp; omega
      have q0 := (two_cells (HMk.out.get (b := w.heap.size) (o := .cells #[.slice ao len cap, .int .i64 (m : Int)] 28) (by simp))).1
      have q1 := (two_cells (HMk.out.get (b := w.heap.size) (o := .cells #[.slice ao len cap, .int .i64 (m : Int)] 28) (by simp))).2
      by_cases hend : at_ + j < m
      · have HY : Hid (numV bs (at_ + j) 1 = 0) := by show _ = _; rw [numV_one]; exact HK.out j (by omega) (by have := HM.out; omega)
        go_wp2_with fail
        refine (has_any ao len cap m _ 1 true _ hb (by omega) (by rw [inB_true (by omega) (by omega)]; simp; omega)).mono ?_
        rintro e w2 ⟨rfl, hg2⟩
        have HM2 := Lib.hid (HMk.out.grown hg2)
        clear hg2 q0 q1
        have q0 := (two_cells (HM2.out.get (b := w.heap.size) (o := .cells #[.slice ao len cap, .int .i64 (m : Int)] 28) (by simp))).1
        have q1 := (two_cells (HM2.out.get (b := w.heap.size) (o := .cells #[.slice ao len cap, .int .i64 (m : Int)] 28) (by simp))).2
        go_wp2_with fail
        rw [show (at_ : Int) + (j : Int) = ((at_ + j : Nat) : Int) by omega]
        refine (sget_any bs m (at_ + j) 1 HM.out ao len cap _ (HX.out.grown HM2.out.g) (by have := HM.out; omega) (by omega) (by omega)).mono ?_
        rintro e w3 ⟨rfl, hg3⟩
        rw [HY.out]
        have HM3 := Lib.hid (HM2.out.grown hg3)
        clear hg3 q0 q1
        go_wp2
        go_roundw
        case rel => exact ⟨j + 1, by omega, by omega, by go_num, HM3⟩
        case measure => simp [intOf]; omega
      · go_wp2_with fail
        refine (has_any ao len cap m _ 1 false _ hb (by omega) (by rw [inB_true (by omega) (by omega)]; simp; omega)).mono ?_
        rintro e w2 ⟨rfl, hg2⟩
        have HM2 := Lib.hid (HMk.out.grown hg2)
        clear hg2 q0 q1
        go_wp2
        go_ret2
        exact ⟨rfl, HM2.out.g⟩
    · have hd : decide ((j : Int) ≤ 500) = false := by simp; omega
      go_wp2
      go_ret2
      exact ⟨rfl, HMk.out.g⟩

set_option maxRecDepth 100000 in
set_option maxHeartbeats 2000000 in
theorem sGuna_inv (xs : List Int) (c a : Int) (ao : Option Addr) (len cap : Nat) (w : World) (hx : Ints w ao len xs) (hlen : len ≤ 4194304) (hv : VB xs c = false) :
    Calls Tryd.prog 22 #[.agg #[.slice ao len cap, .int .i64 c], .int .i64 a] w (GotNNB 0 0 false w) := by
  have HMM := Lib.hid ((Mem.start w).block (.cells #[.slice ao len cap, .int .i64 c] 28))
  have k1 := sValidBits xs ao len cap c false (w.alloc (.cells #[.slice ao len cap, .int .i64 c] 28)) (hx.grown HMM.out.g) hlen hv
  clear hx hv
  go_enter Tryd.func22, Tryd.ntmps22
  go_wp2_with fail
  refine k1.mono ?_
  rintro e w1 ⟨rfl, hg1⟩
  have HM1 := Lib.hid (HMM.out.grown hg1)
  have p0 := (two_cells (HM1.out.get (b := w.heap.size) (o := .cells #[.slice ao len cap, .int .i64 c] 28) (by simp))).1
  have p1 := (two_cells (HM1.out.get (b := w.heap.size) (o := .cells #[.slice ao len cap, .int .i64 c] 28) (by simp))).2
  clear hg1 k1
  go_wp2
  exact bodyPost_ret (v := .tuple #[.int .i64 0, .int .i64 0, .bool false]) (by simp [results, Tryd.results22, go_sem]) rfl ⟨rfl, HM1.out.g⟩

set_option maxRecDepth 100000 in
set_option maxHeartbeats 2000000 in
theorem sGuna_at (xs : List Int) (m : Nat) (a : Int) (ao : Option Addr) (len cap : Nat) (w : World) (hx : Ints w ao len xs) (hlen : len ≤ 4194304) (hv : VB xs (m : Int) = true) (ha : inB a 0 (m : Int) = false) :
    Calls Tryd.prog 22 #[.agg #[.slice ao len cap, .int .i64 (m : Int)], .int .i64 a] w (GotNNB 0 0 false w) := by
  have HMM := Lib.hid ((Mem.start w).block (.cells #[.slice ao len cap, .int .i64 (m : Int)] 28))
  have k1 := sValidBits xs ao len cap (m : Int) true (w.alloc (.cells #[.slice ao len cap, .int .i64 (m : Int)] 28)) (hx.grown HMM.out.g) hlen hv
  have HA := Lib.hid ha
  clear hx hv ha
  go_enter Tryd.func22, Tryd.ntmps22
  go_wp2_with fail
  refine k1.mono ?_
  rintro e w1 ⟨rfl, hg1⟩
  have HM1 := Lib.hid (HMM.out.grown hg1)
  have p0 := (two_cells (HM1.out.get (b := w.heap.size) (o := .cells #[.slice ao len cap, .int .i64 (m : Int)] 28) (by simp))).1
  have p1 := (two_cells (HM1.out.get (b := w.heap.size) (o := .cells #[.slice ao len cap, .int .i64 (m : Int)] 28) (by simp))).2
  clear hg1 k1
  go_wp2_with fail
  refine (inRange_any a 0 (m : Int) false _ HA.out).mono ?_
  rintro e w' ⟨rfl, rfl⟩
  go_wp2
  exact bodyPost_ret (v := .tuple #[.int .i64 0, .int .i64 0, .bool false]) (by simp [results, Tryd.results22, go_sem]) rfl ⟨rfl, HM1.out.g⟩

set_option maxRecDepth 100000 in
set_option maxHeartbeats 2000000 in
theorem sGuna_good (bs : List Bool) (m at_ : Nat) (k : Nat) (hk : OneAt bs at_ k) (hm : bs.length = m) (ao : Option Addr) (len cap : Nat) (w : World) (hx : Ints w ao len (pk bs)) (hb : bs.length ≤ 16384) (hat : at_ ≤ m) :
    Calls Tryd.prog 22 #[.agg #[.slice ao len cap, .int .i64 (m : Int)], .int .i64 (at_ : Int)] w (GotNNB (k : Int) ((at_ : Int) + (k : Int) + 1) true w) := by
  have HMM := Lib.hid ((Mem.start w).block (.cells #[.slice ao len cap, .int .i64 (m : Int)] 28))
  have hl := hx.1
  rw [pk_len] at hl
  have k1 := sValidBits (pk bs) ao len cap (m : Int) true (w.alloc (.cells #[.slice ao len cap, .int .i64 (m : Int)] 28)) (hx.grown HMM.out.g) (by omega) (by rw [← hm]; exact pk_VB hb)
  have hb2 : m ≤ 16384 := by omega
  have HX := Lib.hid hx
  have HM := Lib.hid hm
  have HK := Lib.hid hk
  clear hx hm hk hl hb
  go_enter Tryd.func22, Tryd.ntmps22
  go_wp2_with fail
  refine k1.mono ?_
  rintro e w1 ⟨rfl, hg1⟩
  have HM1 := Lib.hid (HMM.out.grown hg1)
  have p0 := (two_cells (HM1.out.get (b := w.heap.size) (o := .cells #[.slice ao len cap, .int .i64 (m : Int)] 28) (by simp))).1
  have p1 := (two_cells (HM1.out.get (b := w.heap.size) (o := .cells #[.slice ao len cap, .int .i64 (m : Int)] 28) (by simp))).2
  clear hg1 k1
  go_wp2_with fail
  refine (inRange_any (at_ : Int) 0 (m : Int) true _ (inB_true (by omega) (by omega))).mono ?_
  rintro e w' ⟨rfl, rfl⟩
  go_wp2_with fail
  refine (sgetU_good bs m at_ k HM.out ao len cap _ (HX.out.grown HM1.out.g) hb2 HK.out).mono ?_
  rintro e w2 ⟨rfl, hg2⟩
  have HM2 := Lib.hid (HM1.out.grown hg2)
  clear hg2 p0 p1
  go_wp2
  exact bodyPost_ret (v := .tuple #[.int .i64 (k : Int), .int .i64 ((at_ : Int) + (k : Int) + 1), .bool true]) (by simp [results, Tryd.results22, go_sem]) rfl ⟨rfl, HM2.out.g⟩

set_option maxRecDepth 100000 in
set_option maxHeartbeats 2000000 in
theorem sGuna_bad (bs : List Bool) (m at_ : Nat) (hk : NoOne bs at_) (hm : bs.length = m) (ao : Option Addr) (len cap : Nat) (w : World) (hx : Ints w ao len (pk bs)) (hb : bs.length ≤ 16384) (hat : at_ ≤ m) :
    Calls Tryd.prog 22 #[.agg #[.slice ao len cap, .int .i64 (m : Int)], .int .i64 (at_ : Int)] w (GotNNB 0 0 false w) := by
  have HMM := Lib.hid ((Mem.start w).block (.cells #[.slice ao len cap, .int .i64 (m : Int)] 28))
  have hl := hx.1
  rw [pk_len] at hl
  have k1 := sValidBits (pk bs) ao len cap (m : Int) true (w.alloc (.cells #[.slice ao len cap, .int .i64 (m : Int)] 28)) (hx.grown HMM.out.g) (by omega) (by rw [← hm]; exact pk_VB hb)
  have hb2 : m ≤ 16384 := by omega
  have HX := Lib.hid hx
  have HM := Lib.hid hm
  have HK := Lib.hid hk
  clear hx hm hk hl hb
  go_enter Tryd.func22, Tryd.ntmps22
  go_wp2_with fail
  refine k1.mono ?_
  rintro e w1 ⟨rfl, hg1⟩
  have HM1 := Lib.hid (HMM.out.grown hg1)
  have p0 := (two_cells (HM1.out.get (b := w.heap.size) (o := .cells #[.slice ao len cap, .int .i64 (m : Int)] 28) (by simp))).1
  have p1 := (two_cells (HM1.out.get (b := w.heap.size) (o := .cells #[.slice ao len cap, .int .i64 (m : Int)] 28) (by simp))).2
  clear hg1 k1
  go_wp2_with fail
  refine (inRange_any (at_ : Int) 0 (m : Int) true _ (inB_true (by omega) (by omega))).mono ?_
  rintro e w' ⟨rfl, rfl⟩
  go_wp2_with fail
  refine (sgetU_bad bs m at_ HM.out ao len cap _ (HX.out.grown HM1.out.g) hb2 hat HK.out).mono ?_
  rintro e w2 ⟨rfl, hg2⟩
  have HM2 := Lib.hid (HM1.out.grown hg2)
  clear hg2 p0 p1
  go_wp2
  exact bodyPost_ret (v := .tuple #[.int .i64 0, .int .i64 0, .bool false]) (by simp [results, Tryd.results22, go_sem]) rfl ⟨rfl, HM2.out.g⟩

theorem guna_both (xs : List Int) (c a : Int) (len : Nat) (hlen : len ≤ 4194304) : ∃ (n p : Int) (ok : Bool),
    Hid (∀ (ao : Option Addr) (cap : Nat) (w : World), Ints w ao len xs → Calls Tryd.prog 22 #[.agg #[.slice ao len cap, .int .i64 c], .int .i64 a] w (GotNNB n p ok w)) ∧
    Hid (∀ (ao : Option Addr) (cap : Nat) (w : World), Ints w ao len xs → ErrsG w → Calls Tryd.prog 20 #[.agg #[.slice ao len cap, .int .i64 c], .int .i64 a] w (GotNNB n p ok w)) := by
  cases hv : VB xs c with
  | false =>
    exact ⟨0, 0, false, fun ao cap w hx => sGuna_inv xs c a ao len cap w hx hlen hv, fun ao cap w hx hE => iGuna_by c a 0 0 false ao len cap w (fun w1 hg => read_none_guna c a ao len cap w1 (fun w2 hg2 => newReader_inv xs c a ao len cap w2 ((hx.grown hg).grown hg2) hlen hv ((hE.bits.grown hg).grown hg2)))⟩
  | true =>
  obtain ⟨bs, rfl, rfl, hb⟩ := VB_pk hv
  cases hz : inB a 0 (bs.length : Int) with
  | false =>
    have ha : a < 0 ∨ (bs.length : Int) < a := by simp [inB] at hz; omega
    exact ⟨0, 0, false, fun ao cap w hx => sGuna_at _ _ a ao len cap w hx hlen hv hz, fun ao cap w hx hE => iGuna_by _ a 0 0 false ao len cap w (fun w1 hg => read_none_guna _ a ao len cap w1 (fun w2 hg2 => newReader_at _ _ a ao len cap w2 ((hx.grown hg).grown hg2) hlen hv ha ((hE.bits.grown hg).grown hg2)))⟩
  | true =>
  have h2 : 0 ≤ a ∧ a ≤ (bs.length : Int) := by simpa [inB] using hz
  obtain ⟨at_, rfl⟩ := Int.eq_ofNat_of_zero_le h2.1
  have hat : at_ ≤ bs.length := by omega
  rcases one_or bs at_ with ⟨k, hk⟩ | hk
  · refine ⟨(k : Int), (at_ : Int) + (k : Int) + 1, true, fun ao cap w hx => sGuna_good bs bs.length at_ k hk rfl ao len cap w hx hb hat, fun ao cap w hx hE => iGuna_by _ _ _ _ true ao len cap w (fun w1 hg => ?_)⟩
    have h := read_good_guna bs bs.length at_ (at_ + k + 1) (k : Int) rfl ao len cap w1 (hx.grown hg) hb hat (fun w2 w3 B hg2 hR => getUnary_good bs at_ k w2 w3 B ao len cap _ rfl (hx.grown (grown_trans hg hg2)) hR hb hk)
    rw [show ((at_ + k + 1 : Nat) : Int) = (at_ : Int) + (k : Int) + 1 by omega] at h
    exact h
  · exact ⟨0, 0, false, fun ao cap w hx => sGuna_bad bs bs.length at_ hk rfl ao len cap w hx hb hat, fun ao cap w hx hE => iGuna_by _ _ 0 0 false ao len cap w (fun w1 hg => read_bad_guna bs bs.length at_ rfl ao len cap w1 (hx.grown hg) hb hat (fun w2 w3 B hg2 hR => (getUnary_bad bs at_ w2 w3 B ao len cap _ rfl (hx.grown (grown_trans hg hg2)) hR hb hat (hE.fin.grown (grown_trans hg hg2)) (hE.num.grown (grown_trans hg hg2)) hk).mono fun e w' ⟨h1, h3⟩ => ⟨h1, h3⟩))⟩

end Go.Proofs.YtdbneenlejgjcaaDoor
