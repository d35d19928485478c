/-
  GetBits of the program: what it gives for all arguments; both texts give one result.
-/
import Derived.Test.YtdbneenlejgjcaaDoorGet2
namespace Go.Proofs.YtdbneenlejgjcaaDoor
open Go.RowKit

set_option maxHeartbeats 1000000 in
theorem get_end (bs : List Bool) (m at_ wd : Nat) (w0 w : World) (B : Nat) (ao : Option Addr) (len cap : Nat) (hR : Rdb w0 w B ao len cap m at_) (hE : ErrAt w 2) (hb : m ≤ 16384) (hwd : wd ≤ 32) (hat : at_ ≤ m) (hend : m < at_ + wd) :
    Calls Tryd.prog 57 #[.pointer (some ⟨B, 0, none⟩), .int .i64 (wd : Int)] w fun e w' => (∃ t v, e = .returned (.tuple #[.int .i64 0, .iface t v])) ∧ w.grownBy w' none := by
  obtain ⟨t, v, hc⟩ := hE
  obtain ⟨q0, q1, q2, q3⟩ := hR.cells
  have d1 : decide ((wd : Int) < 0) = false := by simp
  have d2 : decide (32 < (wd : Int)) = false := by simp; omega
  have d3 : decide ((m : Int) - (at_ : Int) < (wd : Int)) = true := by simp; omega
  have hw0 : IntKind.i64.wrap ((m : Int) - (at_ : Int)) = (m : Int) - (at_ : Int) := IntWalk.i64_in _ (by omega)
  clear hR
  go_enter Tryd.func57, Tryd.ntmps57
  go_wp2
  go_quiet (fail)
  clear hw0
  go_wp2
  try go_quiet (fail)
  go_wp2
  go_ret2
  exact ⟨⟨t, v, rfl⟩, by first | exact grown_drewN _ _ _ | exact grown_trans (grown_drewN _ _ _) (grown_drewN _ _ _)⟩

set_option maxRecDepth 100000 in
set_option maxHeartbeats 2000000 in
theorem newReader_inv (xs : List Int) (c a : Int) (ao : Option Addr) (len cap : Nat) (w : World) (hx : Ints w ao len xs) (hlen : len ≤ 4194304) (hv : VB xs c = false) (hE : ErrAt w 3) :
    Calls Tryd.prog 75 #[.agg #[.slice ao len cap, .int .i64 c], .int .i64 a] w fun e w' => (∃ t v, e = .returned (.tuple #[.pointer none, .iface t v])) ∧ w.grownBy w' none := by
  have k1 := iValidBits xs ao len cap c false (w.alloc (.cells #[.slice ao len cap, .int .i64 c] 28)) (hx.grown (grown_alloc _ _ _)) hlen hv
  have HE := Lib.hid hE
  clear hx hv hE
  go_enter Tryd.func75, Tryd.ntmps75
  go_wp2_with fail
  refine k1.mono ?_
  rintro e w1 ⟨rfl, hg⟩
  have HG := Lib.hid (grown_trans (grown_alloc w (.cells #[.slice ao len cap, .int .i64 c] 28) none) hg)
  obtain ⟨t, v, hc⟩ := HE.out.grown HG.out
  clear k1 hg
  go_wp2
  go_quiet (fail)
  go_wp2
  go_ret2
  exact ⟨⟨t, v, rfl⟩, grown_trans HG.out (grown_drewN _ _ _)⟩

set_option maxRecDepth 100000 in
set_option maxHeartbeats 2000000 in
theorem newReader_at (xs : List Int) (m : Nat) (a : Int) (ao : Option Addr) (len cap : Nat) (w : World) (hx : Ints w ao len xs) (hlen : len ≤ 4194304) (hv : VB xs (m : Int) = true) (ha : a < 0 ∨ (m : Int) < a) (hE : ErrAt w 3) :
    Calls Tryd.prog 75 #[.agg #[.slice ao len cap, .int .i64 (m : Int)], .int .i64 a] w fun e w' => (∃ t v, e = .returned (.tuple #[.pointer none, .iface t v])) ∧ w.grownBy w' none := by
  have k1 := iValidBits xs ao len cap (m : Int) true (w.alloc (.cells #[.slice ao len cap, .int .i64 (m : Int)] 28)) (hx.grown (grown_alloc _ _ _)) hlen hv
  have HE := Lib.hid hE
  clear hx hv hE
  have HA := Lib.hid (heap_alloc_new w (.cells #[.slice ao len cap, .int .i64 (m : Int)] 28))
  by_cases h1 : a < 0
  · have d1 : decide (a < 0) = true := by simpa using h1
    clear ha
    go_enter Tryd.func75, Tryd.ntmps75
    go_wp2_with fail
    refine k1.mono ?_
    rintro e w1 ⟨rfl, hg⟩
    have q0 := (two_cells (grown_heap hg HA.out (by simp))).1
    have q1 := (two_cells (grown_heap hg HA.out (by simp))).2
    have HG := Lib.hid (grown_trans (grown_alloc w (.cells #[.slice ao len cap, .int .i64 (m : Int)] 28) none) hg)
    obtain ⟨t, v, hc⟩ := HE.out.grown HG.out
    clear k1 hg
    go_wp2
    go_quiet (fail)
    go_wp2
    go_ret2
    exact ⟨⟨t, v, rfl⟩, grown_trans HG.out (grown_drewN _ _ _)⟩
  have d1 : decide (a < 0) = false := by simpa using h1
  have d2 : decide ((m : Int) < a) = true := by simp; omega
  clear ha
  go_enter Tryd.func75, Tryd.ntmps75
  go_wp2_with fail
  refine k1.mono ?_
  rintro e w1 ⟨rfl, hg⟩
  have q0 := (two_cells (grown_heap hg HA.out (by simp))).1
  have q1 := (two_cells (grown_heap hg HA.out (by simp))).2
  have HG := Lib.hid (grown_trans (grown_alloc w (.cells #[.slice ao len cap, .int .i64 (m : Int)] 28) none) hg)
  obtain ⟨t, v, hc⟩ := HE.out.grown HG.out
  clear k1 hg
  go_wp2
  go_quiet (fail)
  go_wp2
  go_ret2
  exact ⟨⟨t, v, rfl⟩, grown_trans HG.out (grown_drewN _ _ _)⟩

set_option maxRecDepth 100000 in
set_option maxHeartbeats 2000000 in
theorem newReader_good (bs : List Bool) (m at_ : Nat) (hm : bs.length = m) (ao : Option Addr) (len cap : Nat) (w : World) (hx : Ints w ao len (pk bs)) (hb : bs.length ≤ 16384) (hat : at_ ≤ m) :
    Calls Tryd.prog 75 #[.agg #[.slice ao len cap, .int .i64 (m : Int)], .int .i64 (at_ : Int)] w fun e w' => ∃ B, e = .returned (.tuple #[.pointer (some ⟨B, 0, none⟩), .nilIface]) ∧ Rdb w w' B ao len cap m at_ := by
  have hl := hx.1
  rw [pk_len] at hl
  have k1 := iValidBits (pk bs) ao len cap (m : Int) true (w.alloc (.cells #[.slice ao len cap, .int .i64 (m : Int)] 28)) (hx.grown (grown_alloc _ _ _)) (by omega) (by rw [← hm]; exact pk_VB hb)
  have HA := Lib.hid (heap_alloc_new w (.cells #[.slice ao len cap, .int .i64 (m : Int)] 28))
  have d1 : decide ((at_ : Int) < 0) = false := by simp
  have d2 : decide ((m : Int) < (at_ : Int)) = false := by simp; omega
  clear hx hm hb hl
  go_enter Tryd.func75, Tryd.ntmps75
  go_wp2_with fail
  refine k1.mono ?_
  rintro e w1 ⟨rfl, hg⟩
  have q0 := (two_cells (grown_heap hg HA.out (by simp))).1
  have q1 := (two_cells (grown_heap hg HA.out (by simp))).2
  have HG := Lib.hid (grown_trans (grown_alloc w (.cells #[.slice ao len cap, .int .i64 (m : Int)] 28) none) hg)
  have HR : Hid (Rdb w (w1.alloc (.cells #[.slice ao len cap, .int .i64 (m : Int), .int .i64 (at_ : Int)] 90)) w1.heap.size ao len cap m at_) :=
    ⟨heap_alloc_new w1 _, grown_trans HG.out (grown_alloc _ _ _), HG.out.size⟩
  clear k1 hg
  go_wp2
  go_ret2
  exact ⟨_, rfl, HR.out⟩

/-! A number read by a function at a place. For the function of GetBits. -/
set_option maxRecDepth 100000 in
set_option maxHeartbeats 2000000 in
theorem read_good_get (P0 : Nat) (bs : List Bool) (m at_ at2 : Nat) (n : Int) (hm : bs.length = m) (ao : Option Addr) (len cap : Nat) (w : World) (hx : Ints w ao len (pk bs)) (hb : bs.length ≤ 16384) (hat : at_ ≤ m)
    (HC : Hid (∀ (w1 w2 : World) (B : Nat), w.grownBy w1 none → Rdb w1 w2 B ao len cap m at_ → Calls Tryd.prog 56 #[.pointer (some ⟨B, 0, none⟩), .pointer (some ⟨P0, 0, none⟩)] w2 fun e w' => e = .returned (.tuple #[.int .i64 n, .nilIface]) ∧ Rdb w1 w' B ao len cap m at2)) :
    Calls Tryd.prog 51 #[.agg #[.slice ao len cap, .int .i64 (m : Int)], .int .i64 (at_ : Int), .func (.func 56) #[] #[.pointer (some ⟨P0, 0, none⟩)]] w fun e w' => e = .returned (.tuple #[.int .i64 n, .int .i64 (at2 : Int), .bool true]) ∧ w.grownBy w' none := by
  have HX := Lib.hid hx
  have HM := Lib.hid hm
  have HB := Lib.hid hb
  clear hx hm hb
  go_enter Tryd.func51, Tryd.ntmps51
  go_wp2_with fail
  refine (newReader_good bs m at_ HM.out ao len cap _ (HX.out.grown (grown_alloc _ _ _)) HB.out hat).mono ?_
  rintro e w1 ⟨B, rfl, hR⟩
  have HR := Lib.hid hR
  clear hR
  go_wp2_with fail
  refine (HC.out _ _ B (grown_alloc w (.cells #[.slice ao len cap, .int .i64 (m : Int)] 28) none) HR.out).mono ?_
  rintro e w2 ⟨rfl, hR2⟩
  have q2 := hR2.cells.2.2.1
  have HG := Lib.hid (grown_trans (grown_alloc w (.cells #[.slice ao len cap, .int .i64 (m : Int)] 28) none) hR2.g)
  clear hR2 HR
  go_wp2
  go_quiet (fail)
  go_wp2
  exact bodyPost_ret (v := .tuple #[.int .i64 n, .int .i64 (at2 : Int), .bool true]) (by simp [results, Tryd.results51, go_sem]) rfl ⟨rfl, grown_trans HG.out (grown_drewN _ _ _)⟩

set_option maxRecDepth 100000 in
set_option maxHeartbeats 2000000 in
theorem read_bad_get (P0 : Nat) (bs : List Bool) (m at_ : Nat) (hm : bs.length = m) (ao : Option Addr) (len cap : Nat) (w : World) (hx : Ints w ao len (pk bs)) (hb : bs.length ≤ 16384) (hat : at_ ≤ m)
    (HC : Hid (∀ (w1 w2 : World) (B : Nat), w.grownBy w1 none → Rdb w1 w2 B ao len cap m at_ → Calls Tryd.prog 56 #[.pointer (some ⟨B, 0, none⟩), .pointer (some ⟨P0, 0, none⟩)] w2 fun e w' => (∃ t v, e = .returned (.tuple #[.int .i64 0, .iface t v])) ∧ w2.grownBy w' none)) :
    Calls Tryd.prog 51 #[.agg #[.slice ao len cap, .int .i64 (m : Int)], .int .i64 (at_ : Int), .func (.func 56) #[] #[.pointer (some ⟨P0, 0, none⟩)]] w fun e w' => e = .returned (.tuple #[.int .i64 0, .int .i64 0, .bool false]) ∧ w.grownBy w' none := by
  have HX := Lib.hid hx
  have HM := Lib.hid hm
  have HB := Lib.hid hb
  clear hx hm hb
  go_enter Tryd.func51, Tryd.ntmps51
  go_wp2_with fail
  refine (newReader_good bs m at_ HM.out ao len cap _ (HX.out.grown (grown_alloc _ _ _)) HB.out hat).mono ?_
  rintro e w1 ⟨B, rfl, hR⟩
  have HR := Lib.hid hR
  clear hR
  go_wp2_with fail
  refine (HC.out _ _ B (grown_alloc w (.cells #[.slice ao len cap, .int .i64 (m : Int)] 28) none) HR.out).mono ?_
  rintro e w2 ⟨⟨t, v, rfl⟩, hg2⟩
  have HG := Lib.hid (grown_trans (grown_trans (grown_alloc w (.cells #[.slice ao len cap, .int .i64 (m : Int)] 28) none) HR.out.g) hg2)
  clear hg2 HR
  go_wp2
  exact bodyPost_ret (v := .tuple #[.int .i64 0, .int .i64 0, .bool false]) (by simp [results, Tryd.results51, go_sem]) rfl ⟨rfl, HG.out⟩

set_option maxRecDepth 100000 in
set_option maxHeartbeats 2000000 in
theorem read_none_get (P0 : Nat) (c a : Int) (ao : Option Addr) (len cap : Nat) (w : World)
    (HC : Hid (∀ (w1 : World), w.grownBy w1 none → Calls Tryd.prog 75 #[.agg #[.slice ao len cap, .int .i64 c], .int .i64 a] w1 fun e w' => (∃ t v, e = .returned (.tuple #[.pointer none, .iface t v])) ∧ w1.grownBy w' none)) :
    Calls Tryd.prog 51 #[.agg #[.slice ao len cap, .int .i64 c], .int .i64 a, .func (.func 56) #[] #[.pointer (some ⟨P0, 0, none⟩)]] w fun e w' => e = .returned (.tuple #[.int .i64 0, .int .i64 0, .bool false]) ∧ w.grownBy w' none := by
  go_enter Tryd.func51, Tryd.ntmps51
  go_wp2_with fail
  refine (HC.out _ (grown_alloc w (.cells #[.slice ao len cap, .int .i64 c] 28) none)).mono ?_
  rintro e w1 ⟨⟨t, v, rfl⟩, hg1⟩
  have HG := Lib.hid (grown_trans (grown_alloc w (.cells #[.slice ao len cap, .int .i64 c] 28) none) hg1)
  clear hg1
  go_wp2
  exact bodyPost_ret (v := .tuple #[.int .i64 0, .int .i64 0, .bool false]) (by simp [results, Tryd.results51, go_sem]) rfl ⟨rfl, HG.out⟩

set_option maxHeartbeats 400000 in
theorem clo_get (z : Int) (B P0 : Nat) (w : World) (h0 : w.cell? ⟨P0, 0, none⟩ = some (.int .i64 z)) (Q : Ending → World → Prop)
    (hc : Calls Tryd.prog 57 #[.pointer (some ⟨B, 0, none⟩), .int .i64 z] w fun e w' => ((∃ n, e = .returned (.tuple #[.int .i64 n, .nilIface])) ∨ ∃ t v, e = .returned (.tuple #[.int .i64 0, .iface t v])) ∧ Q e w') :
    Calls Tryd.prog 56 #[.pointer (some ⟨B, 0, none⟩), .pointer (some ⟨P0, 0, none⟩)] w Q := by
  have HC := Lib.hid hc
  clear hc
  go_enter Tryd.func56, Tryd.ntmps56
  go_wp2_with fail
  refine HC.out.mono ?_
  rintro e w' ⟨he, hq⟩
  have HQ := Lib.hid hq
  clear hq h0
  rcases he with ⟨n, rfl⟩ | ⟨t, v, rfl⟩
  · go_wp2
    exact HQ.out
  · go_wp2
    exact HQ.out

/-- GetBits by what readCode gives. -/
theorem iGet_by (c a z n p : Int) (ok : Bool) (ao : Option Addr) (len cap : Nat) (w : World)
    (HC : Hid (∀ (w1 : World), w.grownBy w1 none → (∀ w2, w1.grownBy w2 none → w2.cell? ⟨w.heap.size + 1, 0, none⟩ = some (.int .i64 z)) → Calls Tryd.prog 51 #[.agg #[.slice ao len cap, .int .i64 c], .int .i64 a, .func (.func 56) #[] #[.pointer (some ⟨w.heap.size + 1, 0, none⟩)]] w1 fun e w' => e = .returned (.tuple #[.int .i64 n, .int .i64 p, .bool ok]) ∧ w1.grownBy w' none)) :
    Calls Tryd.prog 23 #[.agg #[.slice ao len cap, .int .i64 c], .int .i64 a, .int .i64 z] w (GotNB n ok w) := by
  have HMM := Lib.hid (((Mem.start w).block (.cells #[.slice ao len cap, .int .i64 c] 28)).block (.cells #[.int .i64 z] 3))
  have b1 := HMM.out.get (b := w.heap.size + 1) (o := (.cells #[.int .i64 z] 3)) (by simp)
  have HK := Lib.hid (HC.out ((w.alloc (.cells #[.slice ao len cap, .int .i64 c] 28)).alloc (.cells #[.int .i64 z] 3)) HMM.out.g (fun w2 hg => by rw [cell_of_row w2 _ 0 _ _ _ (grown_heap hg b1 (by simp))]; rfl))
  clear b1 HC
  go_enter Tryd.func23, Tryd.ntmps23
  go_wp2_with fail
  refine HK.out.mono ?_
  rintro e w3 ⟨rfl, hg3⟩
  have HG := Lib.hid (grown_trans HMM.out.g hg3)
  clear hg3 HK HMM
  go_wp2
  go_ret2
  exact ⟨rfl, HG.out⟩

structure ErrsG (w : World) : Prop where
  num : ErrAt w 0
  bits : ErrAt w 3
  fin : ErrAt w 2
theorem ErrsG.grown {w w' : World} (h : ErrsG w) (hg : w.grownBy w' none) : ErrsG w' := ⟨h.num.grown hg, h.bits.grown hg, h.fin.grown hg⟩

theorem iGet_at (xs : List Int) (m : Nat) (a z : Int) (ao : Option Addr) (len cap : Nat) (w : World) (hx : Ints w ao len xs) (hlen : len ≤ 4194304) (hv : VB xs (m : Int) = true) (ha : a < 0 ∨ (m : Int) < a) (hE : ErrAt w 3) :
    Calls Tryd.prog 23 #[.agg #[.slice ao len cap, .int .i64 (m : Int)], .int .i64 a, .int .i64 z] w (GotNB 0 false w) :=
  iGet_by (m : Int) a z 0 0 false ao len cap w (fun w1 hg _ => read_none_get _ (m : Int) a ao len cap w1 (fun w2 hg2 => newReader_at xs m a ao len cap w2 ((hx.grown hg).grown hg2) hlen hv ha ((hE.grown hg).grown hg2)))

end Go.Proofs.YtdbneenlejgjcaaDoor
