/-
  The walk of the law on numbers that are read: it returns true and writes nothing that was there. For every code.
-/
import Derived.Test.YtcgcippniicaaaaDoorDrawGB
import Derived.Test.YtcgcippniicaaaaDoorIGet
namespace Go.Proofs.YtcgcippniicaaaaDoor
open Go.RowKit

theorem iGet_good (bs : List Bool) (at_ wd : Nat) (ao : Option Addr) (len cap : Nat) (w : World) (hx : Ints w ao len (pk bs)) (hb : bs.length ≤ 16384) (hwd : wd ≤ 32) (hat : at_ + wd ≤ bs.length) (hE : ErrsG w) :
    Calls Tryd.prog 17 #[.agg #[.slice ao len cap, .int .i64 (bs.length : Int)], .int .i64 (at_ : Int), .int .i64 (wd : Int)] w (GotNB (numV bs at_ wd) true w) := by
  exact iGet_by (bs.length : Int) (at_ : Int) (wd : Int) (numV bs at_ wd) ((at_ + wd : Nat) : Int) true ao len cap w (fun w1 hg hP => read_good_get _ bs bs.length at_ (at_ + wd) (numV bs at_ wd) rfl ao len cap w1 (hx.grown hg) hb (by omega) (fun w2 w3 B hg2 hR => clo_get _ B _ w3 (hP w3 (grown_trans hg2 hR.g)) _ ((get_good bs wd w2 w3 B ao len cap at_ (hx.grown (grown_trans hg hg2)) hR hb hwd hat).mono fun e w' ⟨h1, h2⟩ => ⟨Or.inl ⟨_, h1⟩, h1, h2⟩)))


theorem iGet_eq (bs : List Bool) (xs : List Int) (c a z : Int) (at_ wd : Nat) (ao : Option Addr) (len cap : Nat) (w : World) (hx : Ints w ao len xs) (hxs : xs = pk bs) (hc : c = (bs.length : Int)) (ha : a = (at_ : Int)) (hz : z = (wd : Int)) (hb : bs.length ≤ 16384) (hwd : wd ≤ 32) (hat : at_ + wd ≤ bs.length) (hE : ErrsG w) :
    Calls Tryd.prog 17 #[.agg #[.slice ao len cap, .int .i64 c], .int .i64 a, .int .i64 z] w (GotNB (numV bs at_ wd) true w) := by
  subst hxs hc ha hz
  exact iGet_good bs at_ wd ao len cap w hx hb hwd hat hE

theorem get_both3 (xs : List Int) (c a z : Int) (len : Nat) (hlen : len ≤ 4194304) : ∃ (n : Int) (ok : Bool),
    Hid (∀ (ao : Option Addr) (cap : Nat) (w : World), Ints w ao len xs → Calls Tryd.prog 19 #[.agg #[.slice ao len cap, .int .i64 c], .int .i64 a, .int .i64 z] w (GotNB n ok w)) ∧
    Hid (∀ (ao : Option Addr) (cap : Nat) (w : World), Ints w ao len xs → ErrsG w → Calls Tryd.prog 17 #[.agg #[.slice ao len cap, .int .i64 c], .int .i64 a, .int .i64 z] w (GotNB n ok w))  ∧
    Hid (ok = true → ∃ bs at_ wd, xs = pk bs ∧ c = (bs.length : Int) ∧ a = ((at_ : Nat) : Int) ∧ z = ((wd : Nat) : Int) ∧ bs.length ≤ 16384 ∧ at_ + wd ≤ bs.length ∧ wd ≤ 32 ∧ n = numV bs at_ wd) := by
  cases hv : VB xs c with
  | false =>
    exact ⟨0, false, fun ao cap w hx => sGet_inv xs c a z ao len cap w hx hlen hv, fun ao cap w hx hE => iGet_by c a z 0 0 false ao len cap w (fun w1 hg _ => read_none_get _ c a ao len cap w1 (fun w2 hg2 => newReader_inv xs c a ao len cap w2 ((hx.grown hg).grown hg2) hlen hv ((hE.bits.grown hg).grown hg2))), fun h => by cases h⟩
  | true =>
  obtain ⟨bs, rfl, rfl, hb⟩ := VB_pk hv
  cases hz : inB z 0 32 with
  | false =>
    have hz' : z < 0 ∨ 32 < z := by simp [inB] at hz; omega
    refine ⟨0, false, fun ao cap w hx => sGet_width _ _ a z ao len cap w hx hlen hv hz, fun ao cap w hx hE => ?_, fun h => by cases h⟩
    by_cases ha : a < 0 ∨ (bs.length : Int) < a
    · exact iGet_at _ _ a z ao len cap w hx hlen hv ha hE.bits
    · obtain ⟨at_, rfl⟩ := Int.eq_ofNat_of_zero_le (show 0 ≤ a by omega)
      exact iGet_by _ _ z 0 0 false ao len cap w (fun w1 hg hP => read_bad_get _ bs bs.length at_ rfl ao len cap w1 (hx.grown hg) hb (by omega) (fun w2 w3 B hg2 hR => clo_get z B _ w3 (hP w3 (grown_trans hg2 hR.g)) _ ((get_width z w3 _ (hE.num.grown (grown_trans hg (grown_trans hg2 hR.g))) hz').mono fun e w' ⟨h1, h2⟩ => ⟨Or.inr h1, h1, h2⟩)))
  | true =>
  have hz' : 0 ≤ z ∧ z ≤ 32 := by simpa [inB] using hz
  obtain ⟨wd, rfl⟩ := Int.eq_ofNat_of_zero_le hz'.1
  have hwd : wd ≤ 32 := by omega
  cases hh : (inB a 0 (bs.length : Int) && decide ((wd : Int) ≤ (bs.length : Int) - a)) with
  | false =>
    refine ⟨0, false, fun ao cap w hx => sGet_has _ _ wd a ao len cap w hx hlen hv hb hwd hh, fun ao cap w hx hE => ?_, fun h => by cases h⟩
    by_cases ha : a < 0 ∨ (bs.length : Int) < a
    · exact iGet_at _ _ a _ ao len cap w hx hlen hv ha hE.bits
    · obtain ⟨at_, rfl⟩ := Int.eq_ofNat_of_zero_le (show 0 ≤ a by omega)
      have h2 : bs.length < at_ + wd := by
        rw [inB_true (by omega) (by omega)] at hh
        simp at hh
        omega
      exact iGet_by _ _ (wd : Int) 0 0 false ao len cap w (fun w1 hg hP => read_bad_get _ bs bs.length at_ rfl ao len cap w1 (hx.grown hg) hb (by omega) (fun w2 w3 B hg2 hR => clo_get _ B _ w3 (hP w3 (grown_trans hg2 hR.g)) _ ((get_end bs bs.length at_ wd w2 w3 B ao len cap hR (hE.fin.grown (grown_trans hg (grown_trans hg2 hR.g))) hb hwd (by omega) h2).mono fun e w' ⟨h1, h2⟩ => ⟨Or.inr h1, h1, h2⟩)))
  | true =>
    have h3 : (0 ≤ a ∧ a ≤ (bs.length : Int)) ∧ (wd : Int) ≤ (bs.length : Int) - a := by simpa [inB] using hh
    obtain ⟨at_, rfl⟩ := Int.eq_ofNat_of_zero_le h3.1.1
    have hat : at_ + wd ≤ bs.length := by omega
    refine ⟨numV bs at_ wd, true, fun ao cap w hx => sGet_good bs bs.length at_ wd rfl ao len cap w hx hb hwd hat, fun ao cap w hx hE => iGet_good bs at_ wd ao len cap w hx hb hwd hat hE, fun _ => ⟨bs, at_, wd, rfl, rfl, rfl, rfl, hb, hat, hwd, rfl⟩⟩

set_option maxRecDepth 100000 in
set_option maxHeartbeats 4000000 in
theorem FnGetBits_walk (ao : Option Addr) (len cap : Nat) (w : World) (hb : BytesAt w ao len) (hlc : len ≤ cap) (hmax : len ≤ 9223372036854775807) (hE : ErrsG w) :
    Calls Tryd.prog 5 #[.slice ao len cap] w (Holds w) := by
  by_cases hlen : 1048576 < len
  · clear hb hE
    go_enter Tryd.func5, Tryd.ntmps5
    go_wp2
    go_ret
    exact ⟨rfl, grown_refl _ _⟩
  have hd := drawGB_any ao len cap w hb hlc hmax
  have hm : decide (1048576 < (len : Int)) = false := by simp; omega
  have HE0 := Lib.hid hE
  clear hb hlc hmax hlen hE
  go_enter Tryd.func5, Tryd.ntmps5
  go_wp2_with fail
  refine hd.mono ?_
  rintro e w1 ⟨a1, l1, k1, c, xs, a, z, rfl, hl1, _, _, hx1, hg1⟩
  have HG1 := Lib.hid hg1
  have HE := Lib.hid (HE0.out.grown hg1)
  have HM := Lib.hid ((Mem.start w1).block (.cells #[.slice a1 l1 k1, .int .i64 c] 25))
  have HX := Lib.hid (hx1.grown HM.out.g)
  clear hd hx1 hg1
  obtain ⟨n, ok, hS, hI, hC⟩ := get_both3 xs c a z l1 (by omega)
  have q0 := (two_cells (HM.out.get (b := w1.heap.size) (o := .cells #[.slice a1 l1 k1, .int .i64 c] 25) (by simp))).1
  have q1 := (two_cells (HM.out.get (b := w1.heap.size) (o := .cells #[.slice a1 l1 k1, .int .i64 c] 25) (by simp))).2
  go_wp2_with fail
  refine (hI.out a1 k1 _ HX.out (HE.out.grown HM.out.g)).mono ?_
  rintro e w2 ⟨rfl, hg2⟩
  have HM2 := Lib.hid (HM.out.grown hg2)
  have HX2 := Lib.hid (HX.out.grown hg2)
  clear q0 q1 hg2
  have q0 := (two_cells (HM2.out.get (b := w1.heap.size) (o := .cells #[.slice a1 l1 k1, .int .i64 c] 25) (by simp))).1
  have q1 := (two_cells (HM2.out.get (b := w1.heap.size) (o := .cells #[.slice a1 l1 k1, .int .i64 c] 25) (by simp))).2
  go_wp2_with fail
  refine (hS.out a1 k1 _ HX2.out).mono ?_
  rintro e w3 ⟨rfl, hg3⟩
  have HM3 := Lib.hid (HM2.out.grown hg3)
  have HX3 := Lib.hid (HX2.out.grown hg3)
  clear q0 q1 hg3
  cases ok with
  | false =>
    go_wp2
    go_ret
    exact ⟨rfl, grown_trans HG1.out HM3.out.g⟩
  | true =>
    obtain ⟨bs, at_, wd, hxs, hcc, ha, hz, hbl, hat, hwd, hn⟩ := hC.out rfl
    cases wd with
    | zero =>
      have hz0 : (z == 0) = true := by simp [hz]
      clear hxs hcc ha hz hbl hat hwd hn
      go_wp2
      go_ret
      exact ⟨rfl, grown_trans HG1.out HM3.out.g⟩
    | succ j =>
      have hz0 : (z == 0) = false := by simp; omega
      have z1 : 1 ≤ z := by omega
      have z2 : z ≤ 32 := by omega
      have z3 : 0 ≤ a := by omega
      have z4 : a ≤ 16384 := by omega
      obtain ⟨x, hx⟩ : ∃ x, numV bs at_ j = x := ⟨_, rfl⟩
      obtain ⟨y, hy⟩ : ∃ y, cb bs (at_ + j) = y := ⟨_, rfl⟩
      have hxr := numV_range bs at_ j
      have hyr := cb_range bs (at_ + j)
      rw [hx] at hxr
      rw [hy] at hyr
      have x0 := hxr.1
      have x1 : x < 4294967296 := Int.lt_of_lt_of_le hxr.2 (pow32' j (by omega))
      have y0 := hyr.1
      have y1 := hyr.2
      have hq : (n == 2 * x + y) = true := by rw [hn]; simp only [numV]; rw [hx, hy]; simp
      have H := Lib.hid (And.intro hxs (And.intro hcc (And.intro ha (And.intro hz (And.intro hbl (And.intro hat (And.intro hwd (And.intro hx hy))))))))
      clear hxs hcc ha hz hbl hat hwd hn hx hy hxr hyr hC
      have q0 := (two_cells (HM3.out.get (b := w1.heap.size) (o := .cells #[.slice a1 l1 k1, .int .i64 c] 25) (by simp))).1
      have q1 := (two_cells (HM3.out.get (b := w1.heap.size) (o := .cells #[.slice a1 l1 k1, .int .i64 c] 25) (by simp))).2
      go_wp2_with fail
      refine (iGet_eq bs xs c _ _ at_ j a1 l1 k1 _ HX3.out H.out.1 H.out.2.1 (by have := H.out.2.2.1; omega) (by have := H.out.2.2.2.1; omega) H.out.2.2.2.2.1 (by have := H.out.2.2.2.2.2.2.1; omega) (by have := H.out.2.2.2.2.2.1; omega) (HE.out.grown HM3.out.g)).mono ?_
      rintro e w4 ⟨rfl, hg4⟩
      rw [H.out.2.2.2.2.2.2.2.1]
      have HM4 := Lib.hid (HM3.out.grown hg4)
      have HX4 := Lib.hid (HX3.out.grown hg4)
      clear q0 q1 hg4
      have q0 := (two_cells (HM4.out.get (b := w1.heap.size) (o := .cells #[.slice a1 l1 k1, .int .i64 c] 25) (by simp))).1
      have q1 := (two_cells (HM4.out.get (b := w1.heap.size) (o := .cells #[.slice a1 l1 k1, .int .i64 c] 25) (by simp))).2
      go_wp2_with fail
      refine (iGet_eq bs xs c _ _ (at_ + j) 1 a1 l1 k1 _ HX4.out H.out.1 H.out.2.1 (by have := H.out.2.2.1; have := H.out.2.2.2.1; omega) (by omega) H.out.2.2.2.2.1 (by omega) (by have := H.out.2.2.2.2.2.1; omega) (HE.out.grown HM4.out.g)).mono ?_
      rintro e w5 ⟨rfl, hg5⟩
      rw [show numV bs (at_ + j) 1 = y by simp only [numV]; rw [← H.out.2.2.2.2.2.2.2.2]; simp]
      have HM5 := Lib.hid (HM4.out.grown hg5)
      clear q0 q1 hg5
      go_wp2
      go_ret
      exact ⟨rfl, grown_trans HG1.out HM5.out.g⟩

end Go.Proofs.YtcgcippniicaaaaDoor
