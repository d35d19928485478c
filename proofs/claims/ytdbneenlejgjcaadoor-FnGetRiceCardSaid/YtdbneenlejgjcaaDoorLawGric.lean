/-
  The walks of the laws on unary and Rice codes that are read: they return true and write nothing that was there. For every code.
-/
import Derived.Test.YtdbneenlejgjcaaDoorLawRice
import Derived.Test.YtdbneenlejgjcaaDoorDrawGU
import Derived.Test.YtdbneenlejgjcaaDoorJoinM
import Derived.Test.YtdbneenlejgjcaaDoorZigLaws
namespace Go.Proofs.YtdbneenlejgjcaaDoor
open Go.RowKit

theorem iGetU_good (bs : List Bool) (at_ wd : Nat) (ao : Option Addr) (len cap : Nat) (w : World) (hx : Ints w ao len (pk bs)) (hb : bs.length ≤ 16384) (hwd : wd ≤ 32) (hat : at_ + wd ≤ bs.length) (hE : ErrsG w) :
    Calls Tryd.prog 23 #[.agg #[.slice ao len cap, .int .i64 (bs.length : Int)], .int .i64 (at_ : Int), .int .i64 (wd : Int)] w (GotNB (numV bs at_ wd) true w) := by
  exact iGet_by (bs.length : Int) (at_ : Int) (wd : Int) (numV bs at_ wd) ((at_ + wd : Nat) : Int) true ao len cap w (fun w1 hg hP => read_good_get _ bs bs.length at_ (at_ + wd) (numV bs at_ wd) rfl ao len cap w1 (hx.grown hg) hb (by omega) (fun w2 w3 B hg2 hR => clo_get _ B _ w3 (hP w3 (grown_trans hg2 hR.g)) _ ((get_good bs wd w2 w3 B ao len cap at_ (hx.grown (grown_trans hg hg2)) hR hb hwd hat).mono fun e w' ⟨h1, h2⟩ => ⟨Or.inl ⟨_, h1⟩, h1, h2⟩)))


theorem iGetU_eq (bs : List Bool) (xs : List Int) (c a z : Int) (at_ wd : Nat) (ao : Option Addr) (len cap : Nat) (w : World) (hx : Ints w ao len xs) (hxs : xs = pk bs) (hc : c = (bs.length : Int)) (ha : a = (at_ : Int)) (hz : z = (wd : Int)) (hb : bs.length ≤ 16384) (hwd : wd ≤ 32) (hat : at_ + wd ≤ bs.length) (hE : ErrsG w) :
    Calls Tryd.prog 23 #[.agg #[.slice ao len cap, .int .i64 c], .int .i64 a, .int .i64 z] w (GotNB (numV bs at_ wd) true w) := by
  subst hxs hc ha hz
  exact iGetU_good bs at_ wd ao len cap w hx hb hwd hat hE

theorem guna_both3 (xs : List Int) (c a : Int) (len : Nat) (hlen : len ≤ 4194304) : ∃ (n p : Int) (ok : Bool),
    Hid (∀ (ao : Option Addr) (cap : Nat) (w : World), Ints w ao len xs → Calls Tryd.prog 22 #[.agg #[.slice ao len cap, .int .i64 c], .int .i64 a] w (GotNNB n p ok w)) ∧
    Hid (∀ (ao : Option Addr) (cap : Nat) (w : World), Ints w ao len xs → ErrsG w → Calls Tryd.prog 20 #[.agg #[.slice ao len cap, .int .i64 c], .int .i64 a] w (GotNNB n p ok w)) ∧
    Hid (ok = true → ∃ (bs : List Bool) (at_ k : Nat), xs = pk bs ∧ c = (bs.length : Int) ∧ a = (at_ : Int) ∧ bs.length ≤ 16384 ∧ OneAt bs at_ k ∧ n = (k : Int) ∧ p = (at_ : Int) + (k : Int) + 1) := by
  cases hv : VB xs c with
  | false =>
    exact ⟨0, 0, false, fun ao cap w hx => sGuna_inv xs c a ao len cap w hx hlen hv, fun ao cap w hx hE => iGuna_by c a 0 0 false ao len cap w (fun w1 hg => read_none_guna c a ao len cap w1 (fun w2 hg2 => newReader_inv xs c a ao len cap w2 ((hx.grown hg).grown hg2) hlen hv ((hE.bits.grown hg).grown hg2))), Lib.hid (fun h => Bool.noConfusion h)⟩
  | true =>
  obtain ⟨bs, rfl, rfl, hb⟩ := VB_pk hv
  cases hz : inB a 0 (bs.length : Int) with
  | false =>
    have ha : a < 0 ∨ (bs.length : Int) < a := by simp [inB] at hz; omega
    exact ⟨0, 0, false, fun ao cap w hx => sGuna_at _ _ a ao len cap w hx hlen hv hz, fun ao cap w hx hE => iGuna_by _ a 0 0 false ao len cap w (fun w1 hg => read_none_guna _ a ao len cap w1 (fun w2 hg2 => newReader_at _ _ a ao len cap w2 ((hx.grown hg).grown hg2) hlen hv ha ((hE.bits.grown hg).grown hg2))), Lib.hid (fun h => Bool.noConfusion h)⟩
  | true =>
  have h2 : 0 ≤ a ∧ a ≤ (bs.length : Int) := by simpa [inB] using hz
  obtain ⟨at_, rfl⟩ := Int.eq_ofNat_of_zero_le h2.1
  have hat : at_ ≤ bs.length := by omega
  rcases one_or bs at_ with ⟨k, hk⟩ | hk
  · refine ⟨(k : Int), (at_ : Int) + (k : Int) + 1, true, fun ao cap w hx => sGuna_good bs bs.length at_ k hk rfl ao len cap w hx hb hat, fun ao cap w hx hE => iGuna_by _ _ _ _ true ao len cap w (fun w1 hg => ?_), Lib.hid (fun _ => ⟨bs, at_, k, rfl, rfl, rfl, hb, hk, rfl, rfl⟩)⟩
    have h := read_good_guna bs bs.length at_ (at_ + k + 1) (k : Int) rfl ao len cap w1 (hx.grown hg) hb hat (fun w2 w3 B hg2 hR => getUnary_good bs at_ k w2 w3 B ao len cap _ rfl (hx.grown (grown_trans hg hg2)) hR hb hk)
    rw [show ((at_ + k + 1 : Nat) : Int) = (at_ : Int) + (k : Int) + 1 by omega] at h
    exact h
  · exact ⟨0, 0, false, fun ao cap w hx => sGuna_bad bs bs.length at_ hk rfl ao len cap w hx hb hat, fun ao cap w hx hE => iGuna_by _ _ 0 0 false ao len cap w (fun w1 hg => read_bad_guna bs bs.length at_ rfl ao len cap w1 (hx.grown hg) hb hat (fun w2 w3 B hg2 hR => (getUnary_bad bs at_ w2 w3 B ao len cap _ rfl (hx.grown (grown_trans hg hg2)) hR hb hat (hE.fin.grown (grown_trans hg hg2)) (hE.num.grown (grown_trans hg hg2)) hk).mono fun e w' ⟨h1, h3⟩ => ⟨h1, h3⟩)), Lib.hid (fun h => Bool.noConfusion h)⟩


theorem ErrsUG.g {w : World} (h : ErrsUG w) : ErrsG w := ⟨h.num, h.bits, h.fin⟩
set_option maxRecDepth 100000 in
set_option maxHeartbeats 4000000 in
theorem FnGetUnary_walk (ao : Option Addr) (len cap : Nat) (w : World) (hb : BytesAt w ao len) (hlc : len ≤ cap) (hmax : len ≤ 9223372036854775807) (hE : ErrsG w) :
    Calls Tryd.prog 5 #[.slice ao len cap] w (Holds w) := by
  by_cases hlen : 1048576 < len
  · clear hb hE
    go_enter Tryd.func5, Tryd.ntmps5
    go_wp2
    go_ret
    exact ⟨rfl, grown_refl _ _⟩
  have hd := drawGU_any ao len cap w hb hlc hmax
  have hm : decide (1048576 < (len : Int)) = false := by simp; omega
  have HE0 := Lib.hid hE
  clear hb hlc hmax hlen hE
  go_enter Tryd.func5, Tryd.ntmps5
  go_wp2_with fail
  refine hd.mono ?_
  rintro e w1 ⟨a1, l1, k1, c, xs, a, rfl, hl1, hlc1, hn1, hx1, hg1, _⟩
  have HN := Lib.hid hn1
  have HG1 := Lib.hid hg1
  have HE := Lib.hid (HE0.out.grown hg1)
  have HM := Lib.hid ((Mem.start w1).block (.cells #[.slice a1 l1 k1, .int .i64 c] 28))
  have HX := Lib.hid (hx1.grown HM.out.g)
  clear hd hn1 hx1 hg1
  obtain ⟨n, p, ok, hS, hI, hC⟩ := guna_both3 xs c a l1 (by omega)
  cases ok with
  | false =>
    have q0a := (two_cells (HM.out.get (b := w1.heap.size) (o := .cells #[.slice a1 l1 k1, .int .i64 c] 28) (by simp))).1
    have q0b := (two_cells (HM.out.get (b := w1.heap.size) (o := .cells #[.slice a1 l1 k1, .int .i64 c] 28) (by simp))).2
    go_wp2_with fail
    refine (hI.out a1 k1 _ HX.out (HE.out.grown HM.out.g)).mono ?_
    rintro e w2 ⟨rfl, hg2⟩
    have HM := Lib.hid (HM.out.grown hg2)
    have HX := Lib.hid ((HX.out.grown hg2))
    clear q0a q0b hg2
    have q0a := (two_cells (HM.out.get (b := w1.heap.size) (o := .cells #[.slice a1 l1 k1, .int .i64 c] 28) (by simp))).1
    have q0b := (two_cells (HM.out.get (b := w1.heap.size) (o := .cells #[.slice a1 l1 k1, .int .i64 c] 28) (by simp))).2
    go_wp2_with fail
    refine (hS.out a1 k1 _ HX.out).mono ?_
    rintro e w3 ⟨rfl, hg3⟩
    have HM := Lib.hid (HM.out.grown hg3)
    have HX := Lib.hid ((HX.out.grown hg3))
    clear q0a q0b hg3
    have hnn : (n == n) = true := by simp
    have hpp : (p == p) = true := by simp
    have q0a := (two_cells (HM.out.get (b := w1.heap.size) (o := .cells #[.slice a1 l1 k1, .int .i64 c] 28) (by simp))).1
    have q0b := (two_cells (HM.out.get (b := w1.heap.size) (o := .cells #[.slice a1 l1 k1, .int .i64 c] 28) (by simp))).2
    go_wp2
    go_ret
    exact ⟨rfl, grown_trans HG1.out HM.out.g⟩
  | true =>
    obtain ⟨bs, at_, k, hxs, hcc, haa, hb16, hk, hnn, hpp⟩ := hC.out rfl
    obtain ⟨mb, hmb⟩ : ∃ mb, bs.length = mb := ⟨_, rfl⟩
    rw [hmb] at hcc hb16
    subst hcc
    subst haa
    subst hxs
    subst hnn
    obtain ⟨nx, hnx⟩ : ∃ nx, at_ + k + 1 = nx := ⟨_, rfl⟩
    have hpp2 : p = (nx : Int) := by rw [hpp]; omega
    subst hpp2
    have HMB := Lib.hid hmb
    have HK := Lib.hid hk
    have HNX := Lib.hid hnx
    have hnm : nx ≤ mb := by have := hk.2.1; omega
    have hk5 := hk.1
    clear hpp hmb hk hnx hC
    have q0a := (two_cells (HM.out.get (b := w1.heap.size) (o := .cells #[.slice a1 l1 k1, .int .i64 (mb : Int)] 28) (by simp))).1
    have q0b := (two_cells (HM.out.get (b := w1.heap.size) (o := .cells #[.slice a1 l1 k1, .int .i64 (mb : Int)] 28) (by simp))).2
    go_wp2_with fail
    refine (hI.out a1 k1 _ HX.out (HE.out.grown HM.out.g)).mono ?_
    rintro e w2 ⟨rfl, hg2⟩
    have HM := Lib.hid (HM.out.grown hg2)
    have HX := Lib.hid ((HX.out.grown hg2))
    clear q0a q0b hg2
    have q0a := (two_cells (HM.out.get (b := w1.heap.size) (o := .cells #[.slice a1 l1 k1, .int .i64 (mb : Int)] 28) (by simp))).1
    have q0b := (two_cells (HM.out.get (b := w1.heap.size) (o := .cells #[.slice a1 l1 k1, .int .i64 (mb : Int)] 28) (by simp))).2
    go_wp2_with fail
    refine (hS.out a1 k1 _ HX.out).mono ?_
    rintro e w3 ⟨rfl, hg3⟩
    have HM := Lib.hid (HM.out.grown hg3)
    have HX := Lib.hid ((HX.out.grown hg3))
    clear q0a q0b hg3
    have hq : ((nx : Int) == (at_ : Int) + (k : Int) + 1) = true := by have := HNX.out; simp; omega
    have HQ := Lib.hid hq
    have hkk : ((k : Int) == (k : Int)) = true := by simp
    have hxx : ((nx : Int) == (nx : Int)) = true := by simp
    clear hq hS hI
    go_wp2_with fail
    go_loopw [11] (fun iv wr => ∃ j i : Nat, j ≤ k + 1 ∧ iv = .int .i64 (i : Int) ∧ Hid (at_ + j = i) ∧ Hid (Mem w1 wr ([] ++ [(w1.heap.size, Obj.cells #[.slice a1 l1 k1, .int .i64 (mb : Int)] 28)])) ∧ Hid (Ints wr a1 l1 (pk bs))) (fun iv _ => nx - (intOf iv).toNat)
    case atStart => exact ⟨0, at_, Nat.zero_le _, rfl, rfl, Lib.hid (HM.out.cast (by simp)), HX⟩
    case round =>
      obtain ⟨j, i, hj, rfl, hi, HMk, HXk⟩ := hrel
      have hin : i ≤ nx := by have := HNX.out; have := hi.out; omega
      by_cases hlt : i < nx
      · have hd : decide ((i : Int) < (nx : Int)) = true := by simp; omega
        have hw1 : IntKind.i64.wrap ((nx : Int) - 1) = (nx : Int) - 1 := IntWalk.i64_in _ (by omega)
        obtain ⟨y, hy⟩ : ∃ y, cb bs i = y := ⟨_, rfl⟩
        have HY1 : Hid (numV bs i 1 = y) := by show _ = _; rw [numV_one]; exact hy
        have hyr : (y = 0 ∧ i ≠ nx - 1) ∨ (y = 1 ∧ i = nx - 1) := by
          have h1 := HNX.out
          have h2 := hi.out
          by_cases hjk : j < k
          · left; refine ⟨?_, by omega⟩; rw [← hy, ← h2]; exact HK.out.2.2.2 j hjk
          · right
            have h3 : j = k := by omega
            subst h3
            exact ⟨by rw [← hy, ← h2]; exact HK.out.2.2.1, by omega⟩
        clear hy
        have q0a := (two_cells (HMk.out.get (b := w1.heap.size) (o := .cells #[.slice a1 l1 k1, .int .i64 (mb : Int)] 28) (by simp))).1
        have q0b := (two_cells (HMk.out.get (b := w1.heap.size) (o := .cells #[.slice a1 l1 k1, .int .i64 (mb : Int)] 28) (by simp))).2
        go_wp2_with fail
        refine (iGetU_eq bs (pk bs) (mb : Int) (i : Int) 1 i 1 a1 l1 k1 _ HXk.out rfl (by rw [HMB.out]) rfl rfl (by rw [HMB.out]; exact hb16) (by omega) (by rw [HMB.out]; omega) (HE.out.grown HMk.out.g)).mono ?_
        rintro e w4 ⟨rfl, hg4⟩
        rw [HY1.out]
        have HMk := Lib.hid (HMk.out.grown hg4)
        have HXk := Lib.hid ((HXk.out.grown hg4))
        clear q0a q0b hg4
        have HI2 : Hid (at_ + (j + 1) = i + 1) := by show _ = _; have := hi.out; omega
        have hjk2 : j + 1 ≤ k + 1 := by have := HNX.out; have := hi.out; omega
        rcases hyr with ⟨rfl, hne⟩ | ⟨rfl, hne⟩
        · have he : ((i : Int) == (nx : Int) - 1) = false := by simp; omega
          have q0a := (two_cells (HMk.out.get (b := w1.heap.size) (o := .cells #[.slice a1 l1 k1, .int .i64 (mb : Int)] 28) (by simp))).1
          have q0b := (two_cells (HMk.out.get (b := w1.heap.size) (o := .cells #[.slice a1 l1 k1, .int .i64 (mb : Int)] 28) (by simp))).2
          go_wp2
          go_roundw
          case rel => exact ⟨j + 1, i + 1, hjk2, by go_num, HI2, HMk, HXk⟩
          case measure => simp [intOf]; omega
        · have he : ((i : Int) == (nx : Int) - 1) = true := by simp; omega
          clear hne
          have q0a := (two_cells (HMk.out.get (b := w1.heap.size) (o := .cells #[.slice a1 l1 k1, .int .i64 (mb : Int)] 28) (by simp))).1
          have q0b := (two_cells (HMk.out.get (b := w1.heap.size) (o := .cells #[.slice a1 l1 k1, .int .i64 (mb : Int)] 28) (by simp))).2
          go_wp2
          go_roundw
          case rel => exact ⟨j + 1, i + 1, hjk2, by go_num, HI2, HMk, HXk⟩
          case measure => simp [intOf]; omega
      · have hd : decide ((i : Int) < (nx : Int)) = false := by simp; omega
        have hq := HQ.out
        have hwk : IntKind.i64.wrap ((at_ : Int) + (k : Int)) = (at_ : Int) + (k : Int) := IntWalk.i64_in _ (by have := HNX.out; omega)
        have hak : at_ + k ≤ 16384 := by have := HNX.out; omega
        have q0a := (two_cells (HMk.out.get (b := w1.heap.size) (o := .cells #[.slice a1 l1 k1, .int .i64 (mb : Int)] 28) (by simp))).1
        have q0b := (two_cells (HMk.out.get (b := w1.heap.size) (o := .cells #[.slice a1 l1 k1, .int .i64 (mb : Int)] 28) (by simp))).2
        go_wp2
        go_ret
        exact ⟨rfl, grown_trans HG1.out HMk.out.g⟩

end Go.Proofs.YtdbneenlejgjcaaDoor
