/-
  The walk of the law on no bits: it returns true and writes nothing that was there. For every code.
-/
import Derived.Test.YtcgcippniicaaaaDoorSJoin2
import Derived.Test.YtcgcippniicaaaaDoorLawPut
namespace Go.Proofs.YtcgcippniicaaaaDoor
open Go.RowKit

theorem Errs.j {w : World} (h : Errs w) : ErrsJ w := ⟨h.bits, h.room⟩
theorem iPut_eq (bs rs : List Bool) (xs : List Int) (c x z : Int) (v wd : Nat) (ao : Option Addr) (len cap : Nat) (w : World) (hx : Ints w ao len xs) (hn : ao = none → cap = 0) (hxs : xs = pk bs) (hc : c = (bs.length : Int)) (hxv : x = (v : Int)) (hz : z = (wd : Int)) (hwd : wd ≤ 32) (hv : v < 2 ^ wd) (hr : bs.length + wd ≤ 16384) (hrs : bs ++ numB v wd = rs) :
    Calls Tryd.prog 14 #[.agg #[.slice ao len cap, .int .i64 c], .int .i64 x, .int .i64 z] w (GaveBits rs w) := by
  subst hxs hc hxv hz hrs
  exact iPut_good bs bs.length v wd rfl ao len cap w hx hn hwd hv hr
theorem iJoin_eq (us bs rs : List Bool) (xs ys : List Int) (c d : Int) (ao bo : Option Addr) (la ca lb cb_ : Nat) (w : World) (hx : Ints w ao la xs) (hn : ao = none → ca = 0) (hy : Ints w bo lb ys) (hla : la ≤ 4194304) (hlb : lb ≤ 4194304) (hxs : xs = pk us) (hc : c = (us.length : Int)) (hys : ys = pk bs) (hd : d = (bs.length : Int)) (hr : us.length + bs.length ≤ 16384) (hrs : us ++ bs = rs) (hE : ErrsJ w) :
    Calls Tryd.prog 21 #[.agg #[.slice ao la ca, .int .i64 c], .agg #[.slice bo lb cb_, .int .i64 d]] w (GaveBits rs w) := by
  obtain ⟨o, ho, hS, hI, hA, hC⟩ := join_both xs ys c d la lb hla hlb
  have e := hA.out us bs hxs hc hys hd hr
  subst e
  subst hrs
  exact hI.out ao bo ca cb_ w hx hn hy hE

set_option maxRecDepth 100000 in
set_option maxHeartbeats 4000000 in
theorem FnPutBitsNothing_walk (ao : Option Addr) (len cap : Nat) (w : World) (hb : BytesAt w ao len) (hlc : len ≤ cap) (hmax : len ≤ 9223372036854775807) (hE : Errs w) :
    Calls Tryd.prog 8 #[.slice ao len cap] w (Holds w) := by
  by_cases hlen : 1048576 < len
  · clear hb hE
    go_enter Tryd.func8, Tryd.ntmps8
    go_wp2
    go_ret
    exact ⟨rfl, grown_refl _ _⟩
  have hd := drawPB_any ao len cap w hb hlc hmax
  have hm : decide (1048576 < (len : Int)) = false := by simp; omega
  have HE0 := Lib.hid hE
  clear hb hlc hmax hlen hE
  go_enter Tryd.func8, Tryd.ntmps8
  go_wp2_with fail
  refine hd.mono ?_
  rintro e w1 ⟨a1, l1, k1, c, xs, x, z, rfl, hl1, hlc1, hn1, hx1, hg1⟩
  have HN := Lib.hid hn1
  have HG1 := Lib.hid hg1
  have HE := Lib.hid (HE0.out.grown hg1)
  have HM := Lib.hid ((Mem.start w1).block (.cells #[.slice a1 l1 k1, .int .i64 c] 25))
  have HX := Lib.hid (hx1.grown HM.out.g)
  clear hd hn1 hx1 hg1
  obtain ⟨o, ho, hS, hI, hA, hC⟩ := put_both xs c x z l1 (by omega)
  have HO := Lib.hid ho
  clear ho
  cases o with
  | none =>
    have q0 := (two_cells (HM.out.get (b := w1.heap.size) (o := .cells #[.slice a1 l1 k1, .int .i64 c] 25) (by simp))).1
    have q1 := (two_cells (HM.out.get (b := w1.heap.size) (o := .cells #[.slice a1 l1 k1, .int .i64 c] 25) (by simp))).2
    go_wp2_with fail
    refine (hI.out a1 k1 _ HX.out HN.out (HE.out.grown HM.out.g)).mono ?_
    rintro e w2 ⟨rfl, hg2⟩
    have HX2 := Lib.hid ((HX.out.grown hg2).grown (grown_alloc w2 (.cells #[.slice none 0 0, .int .i64 0] 25) none))
    have HM2 := Lib.hid ((HM.out.grown hg2).block (.cells #[.slice none 0 0, .int .i64 0] 25))
    clear q0 q1 hg2
    have q0 := (two_cells (HM2.out.get (b := w1.heap.size) (o := .cells #[.slice a1 l1 k1, .int .i64 c] 25) (by simp))).1
    have q1 := (two_cells (HM2.out.get (b := w1.heap.size) (o := .cells #[.slice a1 l1 k1, .int .i64 c] 25) (by simp))).2
    go_wp2_with fail
    refine (hS.out a1 k1 _ HX2.out HN.out).mono ?_
    rintro e w3 ⟨rfl, hg3⟩
    have HM3 := Lib.hid ((HM2.out.grown hg3).block (.cells #[.slice none 0 0, .int .i64 0] 25))
    clear q0 q1 hg3
    have s0 := (two_cells (HM3.out.get (b := w2.heap.size) (o := .cells #[.slice none 0 0, .int .i64 0] 25) (by simp))).1
    have s1 := (two_cells (HM3.out.get (b := w2.heap.size) (o := .cells #[.slice none 0 0, .int .i64 0] 25) (by simp))).2
    have t0 := (two_cells (HM3.out.get (b := w3.heap.size) (o := .cells #[.slice none 0 0, .int .i64 0] 25) (by simp))).1
    have t1 := (two_cells (HM3.out.get (b := w3.heap.size) (o := .cells #[.slice none 0 0, .int .i64 0] 25) (by simp))).2
    go_wp2_with fail
    refine (equalBits_same [] none none 0 0 0 0 _ ⟨rfl, Or.inl rfl⟩ ⟨rfl, Or.inl rfl⟩ (by omega)).mono ?_
    rintro e w4 ⟨rfl, hg4⟩
    have HM4 := Lib.hid (HM3.out.grown hg4)
    clear s0 s1 t0 t1 hg4
    have s0 := (two_cells (HM4.out.get (b := w2.heap.size) (o := .cells #[.slice none 0 0, .int .i64 0] 25) (by simp))).1
    have s1 := (two_cells (HM4.out.get (b := w2.heap.size) (o := .cells #[.slice none 0 0, .int .i64 0] 25) (by simp))).2
    have t0 := (two_cells (HM4.out.get (b := w3.heap.size) (o := .cells #[.slice none 0 0, .int .i64 0] 25) (by simp))).1
    have t1 := (two_cells (HM4.out.get (b := w3.heap.size) (o := .cells #[.slice none 0 0, .int .i64 0] 25) (by simp))).2
    go_wp2_with fail
    refine (equalBits_same [] none none 0 0 0 0 _ ⟨rfl, Or.inl rfl⟩ ⟨rfl, Or.inl rfl⟩ (by omega)).mono ?_
    rintro e w5 ⟨rfl, hg5⟩
    have HM5 := Lib.hid (HM4.out.grown hg5)
    clear s0 s1 t0 t1 hg5
    go_wp2
    go_ret
    exact ⟨rfl, grown_trans HG1.out HM5.out.g⟩
  | some rs =>
    obtain ⟨bs, v, wd, hxs, hcc, hxx, hzz, hroom, hwd, hv, hrs⟩ := hC.out rs rfl
    obtain ⟨mb, hmb⟩ : ∃ mb, bs.length = mb := ⟨_, rfl⟩
    rw [hmb] at hcc hroom
    subst hcc
    subst hxx
    subst hzz
    subst hxs
    obtain ⟨m, hm⟩ : ∃ m, rs.length = m := ⟨_, rfl⟩
    obtain ⟨n, hn⟩ : ∃ n, (m + 7) / 8 = n := ⟨_, rfl⟩
    obtain ⟨nw, hnw⟩ : ∃ nw, (wd + 7) / 8 = nw := ⟨_, rfl⟩
    have hml : m = mb + wd := by rw [← hm, hrs, List.length_append, numB_len, hmb]
    have hl1e : (mb + 7) / 8 = l1 := by have := HX.out.1; rw [pk_len, hmb] at this; exact this
    have HL := Lib.hid (And.intro hm hn)
    have HB := Lib.hid (And.intro hmb hl1e)
    have HW := Lib.hid hnw
    have HRS := Lib.hid hrs
    have HV := Lib.hid hv
    have hn2 : n ≤ 2048 := by omega
    have hnw2 : nw ≤ 4 := by omega
    have hmb2 : mb + wd ≤ 16384 := hroom
    clear hrs hv hm hn hnw hml hl1e hmb hroom HO
    have q0a := (two_cells (HM.out.get (b := w1.heap.size) (o := .cells #[.slice a1 l1 k1, .int .i64 (mb : Int)] 25) (by simp))).1
    have q0b := (two_cells (HM.out.get (b := w1.heap.size) (o := .cells #[.slice a1 l1 k1, .int .i64 (mb : Int)] 25) (by simp))).2
    go_wp2_with fail
    refine (hI.out a1 k1 _ HX.out HN.out (HE.out.grown HM.out.g)).mono ?_
    rintro e w2 ⟨v2, rfl, ho2, hg2⟩
    rw [HL.out.1]
    rw [HL.out.1, HL.out.2] at ho2
    obtain ⟨p2, c2, rfl, _, hn2, hx2, _⟩ := ho2.reads
    have HM := Lib.hid ((HM.out.grown hg2).block (.cells #[.slice p2 n c2, .int .i64 (m : Int)] 25))
    have HY2 := Lib.hid (hx2.grown (grown_alloc w2 (.cells #[.slice p2 n c2, .int .i64 (m : Int)] 25) none))
    have HY2n := Lib.hid hn2
    have HX := Lib.hid ((HX.out.grown hg2).grown (grown_alloc w2 (.cells #[.slice p2 n c2, .int .i64 (m : Int)] 25) none))
    clear q0a q0b hg2 ho2 hx2 hn2
    have q0a := (two_cells (HM.out.get (b := w1.heap.size) (o := .cells #[.slice a1 l1 k1, .int .i64 (mb : Int)] 25) (by simp))).1
    have q0b := (two_cells (HM.out.get (b := w1.heap.size) (o := .cells #[.slice a1 l1 k1, .int .i64 (mb : Int)] 25) (by simp))).2
    have q1a := (two_cells (HM.out.get (b := w2.heap.size) (o := .cells #[.slice p2 n c2, .int .i64 (m : Int)] 25) (by simp))).1
    have q1b := (two_cells (HM.out.get (b := w2.heap.size) (o := .cells #[.slice p2 n c2, .int .i64 (m : Int)] 25) (by simp))).2
    go_wp2_with fail
    refine (hS.out a1 k1 _ HX.out HN.out).mono ?_
    rintro e w3 ⟨v3, rfl, ho3, hg3⟩
    rw [HL.out.1]
    rw [HL.out.1, HL.out.2] at ho3
    obtain ⟨p3, c3, rfl, _, hn3, hx3, _⟩ := ho3.reads
    have HM := Lib.hid ((HM.out.grown hg3).block (.cells #[.slice p3 n c3, .int .i64 (m : Int)] 25))
    have HY3 := Lib.hid (hx3.grown (grown_alloc w3 (.cells #[.slice p3 n c3, .int .i64 (m : Int)] 25) none))
    have HY3n := Lib.hid hn3
    have HX := Lib.hid ((HX.out.grown hg3).grown (grown_alloc w3 (.cells #[.slice p3 n c3, .int .i64 (m : Int)] 25) none))
    have HY2 := Lib.hid ((HY2.out.grown hg3).grown (grown_alloc w3 (.cells #[.slice p3 n c3, .int .i64 (m : Int)] 25) none))
    clear q0a q0b q1a q1b hg3 ho3 hx3 hn3
    have q0a := (two_cells (HM.out.get (b := w1.heap.size) (o := .cells #[.slice a1 l1 k1, .int .i64 (mb : Int)] 25) (by simp))).1
    have q0b := (two_cells (HM.out.get (b := w1.heap.size) (o := .cells #[.slice a1 l1 k1, .int .i64 (mb : Int)] 25) (by simp))).2
    have q1a := (two_cells (HM.out.get (b := w2.heap.size) (o := .cells #[.slice p2 n c2, .int .i64 (m : Int)] 25) (by simp))).1
    have q1b := (two_cells (HM.out.get (b := w2.heap.size) (o := .cells #[.slice p2 n c2, .int .i64 (m : Int)] 25) (by simp))).2
    have q2a := (two_cells (HM.out.get (b := w3.heap.size) (o := .cells #[.slice p3 n c3, .int .i64 (m : Int)] 25) (by simp))).1
    have q2b := (two_cells (HM.out.get (b := w3.heap.size) (o := .cells #[.slice p3 n c3, .int .i64 (m : Int)] 25) (by simp))).2
    go_wp2_with fail
    refine (equalBits_same (pk rs) p2 p3 n c2 c3 (m : Int) _ HY2.out HY3.out (by omega)).mono ?_
    rintro e w4 ⟨rfl, hg4⟩
    have HM := Lib.hid (HM.out.grown hg4)
    have HX := Lib.hid ((HX.out.grown hg4))
    have HY2 := Lib.hid ((HY2.out.grown hg4))
    have HY3 := Lib.hid ((HY3.out.grown hg4))
    clear q0a q0b q1a q1b q2a q2b hg4
    have q0a := (two_cells (HM.out.get (b := w1.heap.size) (o := .cells #[.slice a1 l1 k1, .int .i64 (mb : Int)] 25) (by simp))).1
    have q0b := (two_cells (HM.out.get (b := w1.heap.size) (o := .cells #[.slice a1 l1 k1, .int .i64 (mb : Int)] 25) (by simp))).2
    have q1a := (two_cells (HM.out.get (b := w2.heap.size) (o := .cells #[.slice p2 n c2, .int .i64 (m : Int)] 25) (by simp))).1
    have q1b := (two_cells (HM.out.get (b := w2.heap.size) (o := .cells #[.slice p2 n c2, .int .i64 (m : Int)] 25) (by simp))).2
    have q2a := (two_cells (HM.out.get (b := w3.heap.size) (o := .cells #[.slice p3 n c3, .int .i64 (m : Int)] 25) (by simp))).1
    have q2b := (two_cells (HM.out.get (b := w3.heap.size) (o := .cells #[.slice p3 n c3, .int .i64 (m : Int)] 25) (by simp))).2
    go_wp2_with fail
    refine (iPut_eq bs bs (pk bs) (mb : Int) 0 0 0 0 a1 l1 k1 _ HX.out HN.out rfl (by rw [HB.out.1]) rfl rfl (by decide) (by decide) (by rw [HB.out.1]; omega) (by simp [numB])).mono ?_
    rintro e w5 ⟨v5, rfl, ho5, hg5⟩
    rw [HB.out.1]
    rw [HB.out.1, HB.out.2] at ho5
    obtain ⟨p5, c5, rfl, _, hn5, hx5, _⟩ := ho5.reads
    have HM := Lib.hid ((HM.out.grown hg5).block (.cells #[.slice p5 l1 c5, .int .i64 (mb : Int)] 25))
    have HY5 := Lib.hid (hx5.grown (grown_alloc w5 (.cells #[.slice p5 l1 c5, .int .i64 (mb : Int)] 25) none))
    have HY5n := Lib.hid hn5
    have HX := Lib.hid ((HX.out.grown hg5).grown (grown_alloc w5 (.cells #[.slice p5 l1 c5, .int .i64 (mb : Int)] 25) none))
    have HY2 := Lib.hid ((HY2.out.grown hg5).grown (grown_alloc w5 (.cells #[.slice p5 l1 c5, .int .i64 (mb : Int)] 25) none))
    have HY3 := Lib.hid ((HY3.out.grown hg5).grown (grown_alloc w5 (.cells #[.slice p5 l1 c5, .int .i64 (mb : Int)] 25) none))
    clear q0a q0b q1a q1b q2a q2b hg5 ho5 hx5 hn5
    have q0a := (two_cells (HM.out.get (b := w1.heap.size) (o := .cells #[.slice a1 l1 k1, .int .i64 (mb : Int)] 25) (by simp))).1
    have q0b := (two_cells (HM.out.get (b := w1.heap.size) (o := .cells #[.slice a1 l1 k1, .int .i64 (mb : Int)] 25) (by simp))).2
    have q1a := (two_cells (HM.out.get (b := w2.heap.size) (o := .cells #[.slice p2 n c2, .int .i64 (m : Int)] 25) (by simp))).1
    have q1b := (two_cells (HM.out.get (b := w2.heap.size) (o := .cells #[.slice p2 n c2, .int .i64 (m : Int)] 25) (by simp))).2
    have q2a := (two_cells (HM.out.get (b := w3.heap.size) (o := .cells #[.slice p3 n c3, .int .i64 (m : Int)] 25) (by simp))).1
    have q2b := (two_cells (HM.out.get (b := w3.heap.size) (o := .cells #[.slice p3 n c3, .int .i64 (m : Int)] 25) (by simp))).2
    have q3a := (two_cells (HM.out.get (b := w5.heap.size) (o := .cells #[.slice p5 l1 c5, .int .i64 (mb : Int)] 25) (by simp))).1
    have q3b := (two_cells (HM.out.get (b := w5.heap.size) (o := .cells #[.slice p5 l1 c5, .int .i64 (mb : Int)] 25) (by simp))).2
    go_wp2_with fail
    refine (iPut_eq [] (numB v wd) [] 0 (v : Int) (wd : Int) v wd none 0 0 _ ⟨rfl, Or.inl rfl⟩ (fun _ => rfl) rfl rfl rfl rfl hwd HV.out (by simp; omega) rfl).mono ?_
    rintro e w6 ⟨v6, rfl, ho6, hg6⟩
    rw [numB_len]
    rw [numB_len, HW.out] at ho6
    obtain ⟨p6, c6, rfl, _, hn6, hx6, _⟩ := ho6.reads
    have HM := Lib.hid ((HM.out.grown hg6).block (.cells #[.slice p6 nw c6, .int .i64 (wd : Int)] 25))
    have HY6 := Lib.hid (hx6.grown (grown_alloc w6 (.cells #[.slice p6 nw c6, .int .i64 (wd : Int)] 25) none))
    have HY6n := Lib.hid hn6
    have HX := Lib.hid ((HX.out.grown hg6).grown (grown_alloc w6 (.cells #[.slice p6 nw c6, .int .i64 (wd : Int)] 25) none))
    have HY2 := Lib.hid ((HY2.out.grown hg6).grown (grown_alloc w6 (.cells #[.slice p6 nw c6, .int .i64 (wd : Int)] 25) none))
    have HY3 := Lib.hid ((HY3.out.grown hg6).grown (grown_alloc w6 (.cells #[.slice p6 nw c6, .int .i64 (wd : Int)] 25) none))
    have HY5 := Lib.hid ((HY5.out.grown hg6).grown (grown_alloc w6 (.cells #[.slice p6 nw c6, .int .i64 (wd : Int)] 25) none))
    clear q0a q0b q1a q1b q2a q2b q3a q3b hg6 ho6 hx6 hn6
    have q0a := (two_cells (HM.out.get (b := w1.heap.size) (o := .cells #[.slice a1 l1 k1, .int .i64 (mb : Int)] 25) (by simp))).1
    have q0b := (two_cells (HM.out.get (b := w1.heap.size) (o := .cells #[.slice a1 l1 k1, .int .i64 (mb : Int)] 25) (by simp))).2
    have q1a := (two_cells (HM.out.get (b := w2.heap.size) (o := .cells #[.slice p2 n c2, .int .i64 (m : Int)] 25) (by simp))).1
    have q1b := (two_cells (HM.out.get (b := w2.heap.size) (o := .cells #[.slice p2 n c2, .int .i64 (m : Int)] 25) (by simp))).2
    have q2a := (two_cells (HM.out.get (b := w3.heap.size) (o := .cells #[.slice p3 n c3, .int .i64 (m : Int)] 25) (by simp))).1
    have q2b := (two_cells (HM.out.get (b := w3.heap.size) (o := .cells #[.slice p3 n c3, .int .i64 (m : Int)] 25) (by simp))).2
    have q3a := (two_cells (HM.out.get (b := w5.heap.size) (o := .cells #[.slice p5 l1 c5, .int .i64 (mb : Int)] 25) (by simp))).1
    have q3b := (two_cells (HM.out.get (b := w5.heap.size) (o := .cells #[.slice p5 l1 c5, .int .i64 (mb : Int)] 25) (by simp))).2
    have q4a := (two_cells (HM.out.get (b := w6.heap.size) (o := .cells #[.slice p6 nw c6, .int .i64 (wd : Int)] 25) (by simp))).1
    have q4b := (two_cells (HM.out.get (b := w6.heap.size) (o := .cells #[.slice p6 nw c6, .int .i64 (wd : Int)] 25) (by simp))).2
    go_wp2_with fail
    refine (iJoin_eq bs (numB v wd) rs (pk bs) (pk (numB v wd)) (mb : Int) (wd : Int) a1 p6 l1 k1 nw c6 _ HX.out HN.out HY6.out (by omega) (by omega) rfl (by rw [HB.out.1]) rfl (by rw [numB_len]) (by rw [HB.out.1, numB_len]; omega) HRS.out.symm (HE.out.j.grown HM.out.g)).mono ?_
    rintro e w7 ⟨v7, rfl, ho7, hg7⟩
    rw [HL.out.1]
    rw [HL.out.1, HL.out.2] at ho7
    obtain ⟨p7, c7, rfl, _, hn7, hx7, _⟩ := ho7.reads
    have HM := Lib.hid ((HM.out.grown hg7).block (.cells #[.slice p7 n c7, .int .i64 (m : Int)] 25))
    have HY7 := Lib.hid (hx7.grown (grown_alloc w7 (.cells #[.slice p7 n c7, .int .i64 (m : Int)] 25) none))
    have HY7n := Lib.hid hn7
    have HX := Lib.hid ((HX.out.grown hg7).grown (grown_alloc w7 (.cells #[.slice p7 n c7, .int .i64 (m : Int)] 25) none))
    have HY2 := Lib.hid ((HY2.out.grown hg7).grown (grown_alloc w7 (.cells #[.slice p7 n c7, .int .i64 (m : Int)] 25) none))
    have HY3 := Lib.hid ((HY3.out.grown hg7).grown (grown_alloc w7 (.cells #[.slice p7 n c7, .int .i64 (m : Int)] 25) none))
    have HY5 := Lib.hid ((HY5.out.grown hg7).grown (grown_alloc w7 (.cells #[.slice p7 n c7, .int .i64 (m : Int)] 25) none))
    have HY6 := Lib.hid ((HY6.out.grown hg7).grown (grown_alloc w7 (.cells #[.slice p7 n c7, .int .i64 (m : Int)] 25) none))
    clear q0a q0b q1a q1b q2a q2b q3a q3b q4a q4b hg7 ho7 hx7 hn7
    have q0a := (two_cells (HM.out.get (b := w1.heap.size) (o := .cells #[.slice a1 l1 k1, .int .i64 (mb : Int)] 25) (by simp))).1
    have q0b := (two_cells (HM.out.get (b := w1.heap.size) (o := .cells #[.slice a1 l1 k1, .int .i64 (mb : Int)] 25) (by simp))).2
    have q1a := (two_cells (HM.out.get (b := w2.heap.size) (o := .cells #[.slice p2 n c2, .int .i64 (m : Int)] 25) (by simp))).1
    have q1b := (two_cells (HM.out.get (b := w2.heap.size) (o := .cells #[.slice p2 n c2, .int .i64 (m : Int)] 25) (by simp))).2
    have q2a := (two_cells (HM.out.get (b := w3.heap.size) (o := .cells #[.slice p3 n c3, .int .i64 (m : Int)] 25) (by simp))).1
    have q2b := (two_cells (HM.out.get (b := w3.heap.size) (o := .cells #[.slice p3 n c3, .int .i64 (m : Int)] 25) (by simp))).2
    have q3a := (two_cells (HM.out.get (b := w5.heap.size) (o := .cells #[.slice p5 l1 c5, .int .i64 (mb : Int)] 25) (by simp))).1
    have q3b := (two_cells (HM.out.get (b := w5.heap.size) (o := .cells #[.slice p5 l1 c5, .int .i64 (mb : Int)] 25) (by simp))).2
    have q4a := (two_cells (HM.out.get (b := w6.heap.size) (o := .cells #[.slice p6 nw c6, .int .i64 (wd : Int)] 25) (by simp))).1
    have q4b := (two_cells (HM.out.get (b := w6.heap.size) (o := .cells #[.slice p6 nw c6, .int .i64 (wd : Int)] 25) (by simp))).2
    have q5a := (two_cells (HM.out.get (b := w7.heap.size) (o := .cells #[.slice p7 n c7, .int .i64 (m : Int)] 25) (by simp))).1
    have q5b := (two_cells (HM.out.get (b := w7.heap.size) (o := .cells #[.slice p7 n c7, .int .i64 (m : Int)] 25) (by simp))).2
    go_wp2_with fail
    refine (equalBits_same (pk bs) p5 a1 l1 c5 k1 (mb : Int) _ HY5.out HX.out (by omega)).mono ?_
    rintro e w8 ⟨rfl, hg8⟩
    have HM := Lib.hid (HM.out.grown hg8)
    have HX := Lib.hid ((HX.out.grown hg8))
    have HY2 := Lib.hid ((HY2.out.grown hg8))
    have HY3 := Lib.hid ((HY3.out.grown hg8))
    have HY5 := Lib.hid ((HY5.out.grown hg8))
    have HY6 := Lib.hid ((HY6.out.grown hg8))
    have HY7 := Lib.hid ((HY7.out.grown hg8))
    clear q0a q0b q1a q1b q2a q2b q3a q3b q4a q4b q5a q5b hg8
    have q0a := (two_cells (HM.out.get (b := w1.heap.size) (o := .cells #[.slice a1 l1 k1, .int .i64 (mb : Int)] 25) (by simp))).1
    have q0b := (two_cells (HM.out.get (b := w1.heap.size) (o := .cells #[.slice a1 l1 k1, .int .i64 (mb : Int)] 25) (by simp))).2
    have q1a := (two_cells (HM.out.get (b := w2.heap.size) (o := .cells #[.slice p2 n c2, .int .i64 (m : Int)] 25) (by simp))).1
    have q1b := (two_cells (HM.out.get (b := w2.heap.size) (o := .cells #[.slice p2 n c2, .int .i64 (m : Int)] 25) (by simp))).2
    have q2a := (two_cells (HM.out.get (b := w3.heap.size) (o := .cells #[.slice p3 n c3, .int .i64 (m : Int)] 25) (by simp))).1
    have q2b := (two_cells (HM.out.get (b := w3.heap.size) (o := .cells #[.slice p3 n c3, .int .i64 (m : Int)] 25) (by simp))).2
    have q3a := (two_cells (HM.out.get (b := w5.heap.size) (o := .cells #[.slice p5 l1 c5, .int .i64 (mb : Int)] 25) (by simp))).1
    have q3b := (two_cells (HM.out.get (b := w5.heap.size) (o := .cells #[.slice p5 l1 c5, .int .i64 (mb : Int)] 25) (by simp))).2
    have q4a := (two_cells (HM.out.get (b := w6.heap.size) (o := .cells #[.slice p6 nw c6, .int .i64 (wd : Int)] 25) (by simp))).1
    have q4b := (two_cells (HM.out.get (b := w6.heap.size) (o := .cells #[.slice p6 nw c6, .int .i64 (wd : Int)] 25) (by simp))).2
    have q5a := (two_cells (HM.out.get (b := w7.heap.size) (o := .cells #[.slice p7 n c7, .int .i64 (m : Int)] 25) (by simp))).1
    have q5b := (two_cells (HM.out.get (b := w7.heap.size) (o := .cells #[.slice p7 n c7, .int .i64 (m : Int)] 25) (by simp))).2
    go_wp2_with fail
    refine (equalBits_same (pk rs) p7 p2 n c7 c2 (m : Int) _ HY7.out HY2.out (by omega)).mono ?_
    rintro e w9 ⟨rfl, hg9⟩
    have HM := Lib.hid (HM.out.grown hg9)
    have HX := Lib.hid ((HX.out.grown hg9))
    have HY2 := Lib.hid ((HY2.out.grown hg9))
    have HY3 := Lib.hid ((HY3.out.grown hg9))
    have HY5 := Lib.hid ((HY5.out.grown hg9))
    have HY6 := Lib.hid ((HY6.out.grown hg9))
    have HY7 := Lib.hid ((HY7.out.grown hg9))
    clear q0a q0b q1a q1b q2a q2b q3a q3b q4a q4b q5a q5b hg9
    go_wp2
    go_ret
    exact ⟨rfl, grown_trans HG1.out HM.out.g⟩

end Go.Proofs.YtcgcippniicaaaaDoor
