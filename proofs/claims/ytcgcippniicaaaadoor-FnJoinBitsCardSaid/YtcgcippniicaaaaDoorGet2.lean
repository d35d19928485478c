/-
  GetBits of the specification, and what the reader says of a bad width.
-/
import Derived.Test.YtcgcippniicaaaaDoorGet
namespace Go.Proofs.YtcgcippniicaaaaDoor
open Go.RowKit

/-! The specification. -/
def GotNB (n : Int) (ok : Bool) (w : World) (e : Ending) (w' : World) : Prop := e = .returned (.tuple #[.int .i64 n, .bool ok]) ∧ w.grownBy w' none

set_option maxRecDepth 100000 in
set_option maxHeartbeats 1000000 in
theorem has_any (ao : Option Addr) (len cap m : Nat) (a : Int) (wd : Nat) (b : Bool) (w : World) (hb : m ≤ 16384) (hwd : wd ≤ 32) (hv : (inB a 0 (m : Int) && decide ((wd : Int) ≤ (m : Int) - a)) = b) :
    Calls Tryd.prog 45 #[.agg #[.slice ao len cap, .int .i64 (m : Int)], .int .i64 a, .int .i64 (wd : Int)] w fun e w' => e = .returned (.bool b) ∧ w.grownBy w' none := by
  have HG := Lib.hid (grown_alloc w (.cells #[.slice ao len cap, .int .i64 (m : Int)] 25) none)
  cases h1 : inB a 0 (m : Int) with
  | false =>
    rw [h1] at hv
    simp only [Bool.false_and] at hv
    subst hv
    have HH := Lib.hid h1
    clear h1
    go_enter Tryd.func45, Tryd.ntmps45
    go_wp2_with fail
    refine (inRange_any a 0 (m : Int) false _ HH.out).mono ?_
    rintro e w' ⟨rfl, rfl⟩
    go_wp2
    go_ret
    exact ⟨rfl, HG.out⟩
  | true =>
    rw [h1] at hv
    simp only [Bool.true_and] at hv
    have h2 : 0 ≤ a ∧ a ≤ (m : Int) := by simpa [inB] using h1
    have h3 := h2.1
    have h4 := h2.2
    have HH := Lib.hid h1
    clear h1 h2
    go_enter Tryd.func45, Tryd.ntmps45
    go_wp2_with fail
    refine (inRange_any a 0 (m : Int) true _ HH.out).mono ?_
    rintro e w' ⟨rfl, rfl⟩
    go_wp2
    go_ret
    exact ⟨rfl, HG.out⟩

set_option maxRecDepth 100000 in
set_option maxHeartbeats 2000000 in
theorem sGet_inv (xs : List Int) (c a z : Int) (ao : Option Addr) (len cap : Nat) (w : World) (hx : Ints w ao len xs) (hlen : len ≤ 4194304) (hv : VB xs c = false) :
    Calls Tryd.prog 19 #[.agg #[.slice ao len cap, .int .i64 c], .int .i64 a, .int .i64 z] w (GotNB 0 false w) := by
  have HMM := Lib.hid ((Mem.start w).block (.cells #[.slice ao len cap, .int .i64 c] 25))
  have k := sValidBits xs ao len cap c false (w.alloc (.cells #[.slice ao len cap, .int .i64 c] 25)) (hx.grown HMM.out.g) hlen hv
  clear hx hv
  go_enter Tryd.func19, Tryd.ntmps19
  go_wp2_with fail
  refine k.mono ?_
  rintro e w1 ⟨rfl, hg1⟩
  have HM1 := Lib.hid (HMM.out.grown hg1)
  have p0 := (two_cells (HM1.out.get (b := w.heap.size) (o := (.cells #[.slice ao len cap, .int .i64 c] 25)) (by simp))).1
  have p1 := (two_cells (HM1.out.get (b := w.heap.size) (o := (.cells #[.slice ao len cap, .int .i64 c] 25)) (by simp))).2
  clear hg1 k
  go_wp2
  go_ret2
  exact ⟨rfl, HM1.out.g⟩

set_option maxRecDepth 100000 in
set_option maxHeartbeats 2000000 in
theorem sGet_width (xs : List Int) (c a z : Int) (ao : Option Addr) (len cap : Nat) (w : World) (hx : Ints w ao len xs) (hlen : len ≤ 4194304) (hv : VB xs c = true) (hzz : inB z 0 32 = false) :
    Calls Tryd.prog 19 #[.agg #[.slice ao len cap, .int .i64 c], .int .i64 a, .int .i64 z] w (GotNB 0 false w) := by
  have HMM := Lib.hid ((Mem.start w).block (.cells #[.slice ao len cap, .int .i64 c] 25))
  have k := sValidBits xs ao len cap c true (w.alloc (.cells #[.slice ao len cap, .int .i64 c] 25)) (hx.grown HMM.out.g) hlen hv
  have HZ := Lib.hid hzz
  clear hx hv hzz
  go_enter Tryd.func19, Tryd.ntmps19
  go_wp2_with fail
  refine k.mono ?_
  rintro e w1 ⟨rfl, hg1⟩
  have HM1 := Lib.hid (HMM.out.grown hg1)
  have p0 := (two_cells (HM1.out.get (b := w.heap.size) (o := (.cells #[.slice ao len cap, .int .i64 c] 25)) (by simp))).1
  have p1 := (two_cells (HM1.out.get (b := w.heap.size) (o := (.cells #[.slice ao len cap, .int .i64 c] 25)) (by simp))).2
  clear hg1 k
  go_wp2_with fail
  refine (inRange_any z 0 32 false _ HZ.out).mono ?_
  rintro e w' ⟨rfl, rfl⟩
  go_wp2
  go_ret2
  exact ⟨rfl, HM1.out.g⟩

set_option maxRecDepth 100000 in
set_option maxHeartbeats 2000000 in
theorem sGet_has (xs : List Int) (m wd : Nat) (a : Int) (ao : Option Addr) (len cap : Nat) (w : World) (hx : Ints w ao len xs) (hlen : len ≤ 4194304) (hv : VB xs (m : Int) = true) (hb : m ≤ 16384) (hwd : wd ≤ 32) (hh : (inB a 0 (m : Int) && decide ((wd : Int) ≤ (m : Int) - a)) = false) :
    Calls Tryd.prog 19 #[.agg #[.slice ao len cap, .int .i64 (m : Int)], .int .i64 a, .int .i64 (wd : Int)] w (GotNB 0 false w) := by
  have HMM := Lib.hid ((Mem.start w).block (.cells #[.slice ao len cap, .int .i64 (m : Int)] 25))
  have k := sValidBits xs ao len cap (m : Int) true (w.alloc (.cells #[.slice ao len cap, .int .i64 (m : Int)] 25)) (hx.grown HMM.out.g) hlen hv
  have HH := Lib.hid hh
  clear hx hv hh
  go_enter Tryd.func19, Tryd.ntmps19
  go_wp2_with fail
  refine k.mono ?_
  rintro e w1 ⟨rfl, hg1⟩
  have HM1 := Lib.hid (HMM.out.grown hg1)
  have p0 := (two_cells (HM1.out.get (b := w.heap.size) (o := (.cells #[.slice ao len cap, .int .i64 (m : Int)] 25)) (by simp))).1
  have p1 := (two_cells (HM1.out.get (b := w.heap.size) (o := (.cells #[.slice ao len cap, .int .i64 (m : Int)] 25)) (by simp))).2
  clear hg1 k
  go_wp2_with fail
  refine (inRange_any (wd : Int) 0 32 true _ (inB_true (by omega) (by omega))).mono ?_
  rintro e w' ⟨rfl, rfl⟩
  go_wp2_with fail
  refine (has_any ao len cap m a wd false _ hb hwd HH.out).mono ?_
  rintro e w2 ⟨rfl, hg2⟩
  have HM2 := Lib.hid (HM1.out.grown hg2)
  clear hg2 p0 p1
  go_wp2
  go_ret2
  exact ⟨rfl, HM2.out.g⟩

set_option maxRecDepth 100000 in
set_option maxHeartbeats 2000000 in
theorem sGet_good (bs : List Bool) (m at_ wd : Nat) (hm : bs.length = m) (ao : Option Addr) (len cap : Nat) (w : World) (hx : Ints w ao len (pk bs)) (hb : bs.length ≤ 16384) (hwd : wd ≤ 32) (hat : at_ + wd ≤ m) :
    Calls Tryd.prog 19 #[.agg #[.slice ao len cap, .int .i64 (m : Int)], .int .i64 (at_ : Int), .int .i64 (wd : Int)] w (GotNB (numV bs at_ wd) true w) := by
  have HMM := Lib.hid ((Mem.start w).block (.cells #[.slice ao len cap, .int .i64 (m : Int)] 25))
  have hl := hx.1
  rw [pk_len] at hl
  have k := sValidBits (pk bs) ao len cap (m : Int) true (w.alloc (.cells #[.slice ao len cap, .int .i64 (m : Int)] 25)) (hx.grown HMM.out.g) (by omega) (by rw [← hm]; exact pk_VB hb)
  have HX := Lib.hid hx
  have HM := Lib.hid hm
  have HB := Lib.hid hb
  have HH : Hid ((inB (at_ : Int) 0 (m : Int) && decide ((wd : Int) ≤ (m : Int) - (at_ : Int))) = true) := by show _ = _; rw [inB_true (by omega) (by omega)]; simp; omega
  obtain ⟨n, hn⟩ : ∃ n, numV bs at_ wd = n := ⟨_, rfl⟩
  have HN := Lib.hid hn
  rw [hn]
  have hmb : m ≤ 16384 := by omega
  clear hx hm hb hl hn
  go_enter Tryd.func19, Tryd.ntmps19
  go_wp2_with fail
  refine k.mono ?_
  rintro e w1 ⟨rfl, hg1⟩
  have HM1 := Lib.hid (HMM.out.grown hg1)
  have p0 := (two_cells (HM1.out.get (b := w.heap.size) (o := (.cells #[.slice ao len cap, .int .i64 (m : Int)] 25)) (by simp))).1
  have p1 := (two_cells (HM1.out.get (b := w.heap.size) (o := (.cells #[.slice ao len cap, .int .i64 (m : Int)] 25)) (by simp))).2
  clear hg1 k
  go_wp2_with fail
  refine (inRange_any (wd : Int) 0 32 true _ (inB_true (by omega) (by omega))).mono ?_
  rintro e w' ⟨rfl, rfl⟩
  go_wp2_with fail
  refine (has_any ao len cap m (at_ : Int) wd true _ hmb hwd HH.out).mono ?_
  rintro e w2 ⟨rfl, hg2⟩
  have HM2 := Lib.hid (HM1.out.grown hg2)
  clear hg2 p0 p1
  have p0 := (two_cells (HM2.out.get (b := w.heap.size) (o := (.cells #[.slice ao len cap, .int .i64 (m : Int)] 25)) (by simp))).1
  have p1 := (two_cells (HM2.out.get (b := w.heap.size) (o := (.cells #[.slice ao len cap, .int .i64 (m : Int)] 25)) (by simp))).2
  go_wp2_with fail
  refine (sget_any bs m at_ wd HM.out ao len cap _ (HX.out.grown HM2.out.g) HB.out hwd hat).mono ?_
  rintro e w3 ⟨rfl, hg3⟩
  rw [HN.out]
  have HM3 := Lib.hid (HM2.out.grown hg3)
  clear hg3 p0 p1
  go_wp2
  go_ret2
  exact ⟨rfl, HM3.out.g⟩

/-! The program. -/
theorem get_width (z : Int) (w : World) (p : Value) (hE : ErrAt w 0) (hz : z < 0 ∨ 32 < z) :
    Calls Tryd.prog 43 #[p, .int .i64 z] w fun e w' => (∃ t v, e = .returned (.tuple #[.int .i64 0, .iface t v])) ∧ w.grownBy w' none := by
  obtain ⟨t, v, hc⟩ := hE
  by_cases h1 : z < 0
  · have d1 : decide (z < 0) = true := by simpa using h1
    clear hz
    go_enter Tryd.func43, Tryd.ntmps43
    go_wp2
    try go_quiet (fail)
    go_wp2
    go_ret2
    exact ⟨⟨t, v, rfl⟩, by first | exact grown_refl _ _ | exact grown_drewN _ _ _⟩
  have d1 : decide (z < 0) = false := by simpa using h1
  have d2 : decide (32 < z) = true := by simp; omega
  clear hz
  go_enter Tryd.func43, Tryd.ntmps43
  go_wp2
  try go_quiet (fail)
  go_wp2
  go_ret2
  exact ⟨⟨t, v, rfl⟩, by first | exact grown_refl _ _ | exact grown_drewN _ _ _⟩

end Go.Proofs.YtcgcippniicaaaaDoor
