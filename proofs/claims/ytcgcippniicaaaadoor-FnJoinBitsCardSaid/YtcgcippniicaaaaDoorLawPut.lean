/-
  The walk of the law on numbers put: it returns true and writes nothing that was there. For every code.
-/
import Derived.Test.YtcgcippniicaaaaDoorLawParts2
import Derived.Test.YtcgcippniicaaaaDoorLawGet
namespace Go.Proofs.YtcgcippniicaaaaDoor
open Go.RowKit

structure ErrsPG (w : World) : Prop where
  num : ErrAt w 0
  bits : ErrAt w 3
  room : ErrAt w 1
  fin : ErrAt w 2
theorem ErrsPG.grown {w w' : World} (h : ErrsPG w) (hg : w.grownBy w' none) : ErrsPG w' := ⟨h.num.grown hg, h.bits.grown hg, h.room.grown hg, h.fin.grown hg⟩
theorem ErrsPG.p {w : World} (h : ErrsPG w) : Errs w := ⟨h.num, h.bits, h.room⟩
theorem ErrsPG.q {w : World} (h : ErrsPG w) : ErrsG w := ⟨h.num, h.bits, h.fin⟩

theorem cb_front {bs t : List Bool} {i : Nat} (h : i < bs.length) : cb (bs ++ t) i = cb bs i := by
  unfold cb; rw [List.getD_eq_getElem?_getD, List.getD_eq_getElem?_getD, List.getElem?_append_left h]
theorem cb_back (bs : List Bool) {v wd k : Nat} (h : k < wd) : cb (bs ++ numB v wd) (bs.length + k) = ((v / 2 ^ (wd - 1 - k) % 2 : Nat) : Int) := by
  unfold cb
  rw [List.getD_eq_getElem?_getD, List.getElem?_append_right (by omega), show bs.length + k - bs.length = k by omega, numB_get h]
  simp only [Option.getD_some, decide_eq_true_eq]
  split <;> omega
/-- A number that was put is read again. -/
theorem numV_back' (bs : List Bool) (v wd : Nat) (hv : v < 2 ^ wd) : ∀ k, k ≤ wd → numV (bs ++ numB v wd) bs.length k = ((v / 2 ^ (wd - k) : Nat) : Int) := by
  intro k
  induction k with
  | zero => intro _; rw [Nat.sub_zero, Nat.div_eq_of_lt hv]; rfl
  | succ k ih =>
    intro hk
    simp only [numV]
    rw [ih (by omega), cb_back bs (by omega), show wd - k = (wd - 1 - k) + 1 by omega, show wd - (k + 1) = wd - 1 - k by omega, Nat.pow_succ, ← Nat.div_div_eq_div_mul]
    omega
theorem numV_back (bs : List Bool) (v wd : Nat) (hv : v < 2 ^ wd) : numV (bs ++ numB v wd) bs.length wd = (v : Int) := by
  have h := numV_back' bs v wd hv wd (Nat.le_refl _)
  rw [h, Nat.sub_self, Nat.pow_zero, Nat.div_one]

set_option maxRecDepth 100000 in
set_option maxHeartbeats 4000000 in
theorem FnPutBits_walk (ao : Option Addr) (len cap : Nat) (w : World) (hb : BytesAt w ao len) (hlc : len ≤ cap) (hmax : len ≤ 9223372036854775807) (hE : ErrsPG w) :
    Calls Tryd.prog 3 #[.slice ao len cap] w (Holds w) := by
  by_cases hlen : 1048576 < len
  · clear hb hE
    go_enter Tryd.func3, Tryd.ntmps3
    go_wp2
    go_ret
    exact ⟨rfl, grown_refl _ _⟩
  have hd := drawPB_any ao len cap w hb hlc hmax
  have hm : decide (1048576 < (len : Int)) = false := by simp; omega
  have HE0 := Lib.hid hE
  clear hb hlc hmax hlen hE
  go_enter Tryd.func3, Tryd.ntmps3
  go_wp2_with fail
  refine hd.mono ?_
  rintro e w1 ⟨a1, l1, k1, c, xs, x, z, rfl, hl1, hlc1, hn1, hx1, hg1⟩
  have HN := Lib.hid hn1
  have HG1 := Lib.hid hg1
  have HE := Lib.hid (HE0.out.grown hg1)
  have HM := Lib.hid ((Mem.start w1).block (.cells #[.slice a1 l1 k1, .int .i64 c] 25))
  have HX := Lib.hid (hx1.grown HM.out.g)
  clear hd hn1 hx1 hg1
  obtain ⟨o, ho, hS, hI, hA, hC⟩ := put_both xs c x z l1 (by omega)
  have HO := Lib.hid ho
  clear ho
  cases o with
  | none =>
    have q0 := (two_cells (HM.out.get (b := w1.heap.size) (o := .cells #[.slice a1 l1 k1, .int .i64 c] 25) (by simp))).1
    have q1 := (two_cells (HM.out.get (b := w1.heap.size) (o := .cells #[.slice a1 l1 k1, .int .i64 c] 25) (by simp))).2
    go_wp2_with fail
    refine (hI.out a1 k1 _ HX.out HN.out (HE.out.p.grown HM.out.g)).mono ?_
    rintro e w2 ⟨rfl, hg2⟩
    have HX2 := Lib.hid ((HX.out.grown hg2).grown (grown_alloc w2 (.cells #[.slice none 0 0, .int .i64 0] 25) none))
    have HM2 := Lib.hid ((HM.out.grown hg2).block (.cells #[.slice none 0 0, .int .i64 0] 25))
    clear q0 q1 hg2
    have q0 := (two_cells (HM2.out.get (b := w1.heap.size) (o := .cells #[.slice a1 l1 k1, .int .i64 c] 25) (by simp))).1
    have q1 := (two_cells (HM2.out.get (b := w1.heap.size) (o := .cells #[.slice a1 l1 k1, .int .i64 c] 25) (by simp))).2
    go_wp2_with fail
    refine (hS.out a1 k1 _ HX2.out HN.out).mono ?_
    rintro e w3 ⟨rfl, hg3⟩
    have HM3 := Lib.hid ((HM2.out.grown hg3).block (.cells #[.slice none 0 0, .int .i64 0] 25))
    clear q0 q1 hg3
    have s0 := (two_cells (HM3.out.get (b := w2.heap.size) (o := .cells #[.slice none 0 0, .int .i64 0] 25) (by simp))).1
    have s1 := (two_cells (HM3.out.get (b := w2.heap.size) (o := .cells #[.slice none 0 0, .int .i64 0] 25) (by simp))).2
    have t0 := (two_cells (HM3.out.get (b := w3.heap.size) (o := .cells #[.slice none 0 0, .int .i64 0] 25) (by simp))).1
    have t1 := (two_cells (HM3.out.get (b := w3.heap.size) (o := .cells #[.slice none 0 0, .int .i64 0] 25) (by simp))).2
    go_wp2_with fail
    refine (equalBits_same [] none none 0 0 0 0 _ ⟨rfl, Or.inl rfl⟩ ⟨rfl, Or.inl rfl⟩ (by omega)).mono ?_
    rintro e w4 ⟨rfl, hg4⟩
    have HM4 := Lib.hid (HM3.out.grown hg4)
    clear s0 s1 t0 t1 hg4
    have s0 := (two_cells (HM4.out.get (b := w2.heap.size) (o := .cells #[.slice none 0 0, .int .i64 0] 25) (by simp))).1
    have s1 := (two_cells (HM4.out.get (b := w2.heap.size) (o := .cells #[.slice none 0 0, .int .i64 0] 25) (by simp))).2
    have t0 := (two_cells (HM4.out.get (b := w3.heap.size) (o := .cells #[.slice none 0 0, .int .i64 0] 25) (by simp))).1
    have t1 := (two_cells (HM4.out.get (b := w3.heap.size) (o := .cells #[.slice none 0 0, .int .i64 0] 25) (by simp))).2
    go_wp2_with fail
    refine (equalBits_same [] none none 0 0 0 0 _ ⟨rfl, Or.inl rfl⟩ ⟨rfl, Or.inl rfl⟩ (by omega)).mono ?_
    rintro e w5 ⟨rfl, hg5⟩
    have HM5 := Lib.hid (HM4.out.grown hg5)
    clear s0 s1 t0 t1 hg5
    go_wp2
    go_ret
    exact ⟨rfl, grown_trans HG1.out HM5.out.g⟩
  | some rs =>
    obtain ⟨bs, v, wd, hxs, hcc, hxx, hzz, hroom, hwd, hv, hrs⟩ := hC.out rs rfl
    have hrl : rs.length ≤ 16384 := HO.out rs rfl
    obtain ⟨m, hm⟩ : ∃ m, rs.length = m := ⟨_, rfl⟩
    obtain ⟨n, hn⟩ : ∃ n, (rs.length + 7) / 8 = n := ⟨_, rfl⟩
    have hn2 : n ≤ 2048 := by omega
    have HRS := Lib.hid (And.intro hrs (And.intro hm hn))
    have HD := Lib.hid (And.intro hxs (And.intro hcc (And.intro hroom hv)))
    subst hxx
    subst hzz
    clear hrs HO hxs hcc hroom hv hrl hm hn
    have q0 := (two_cells (HM.out.get (b := w1.heap.size) (o := .cells #[.slice a1 l1 k1, .int .i64 c] 25) (by simp))).1
    have q1 := (two_cells (HM.out.get (b := w1.heap.size) (o := .cells #[.slice a1 l1 k1, .int .i64 c] 25) (by simp))).2
    go_wp2_with fail
    refine (hI.out a1 k1 _ HX.out HN.out (HE.out.p.grown HM.out.g)).mono ?_
    rintro e w2 ⟨v2, rfl, ho2, hg2⟩
    rw [HRS.out.2.1]
    rw [HRS.out.2.2] at ho2
    obtain ⟨p2, c2, rfl, _, _, hx2, _⟩ := ho2.reads
    have HM2 := Lib.hid ((HM.out.grown hg2).block (.cells #[.slice p2 n c2, .int .i64 (m : Int)] 25))
    have HY2 := Lib.hid (hx2.grown (grown_alloc w2 (.cells #[.slice p2 n c2, .int .i64 (m : Int)] 25) none))
    have HX2 := Lib.hid ((HX.out.grown hg2).grown (grown_alloc w2 (.cells #[.slice p2 n c2, .int .i64 (m : Int)] 25) none))
    clear q0 q1 ho2 hg2 hx2
    have q0 := (two_cells (HM2.out.get (b := w1.heap.size) (o := .cells #[.slice a1 l1 k1, .int .i64 c] 25) (by simp))).1
    have q1 := (two_cells (HM2.out.get (b := w1.heap.size) (o := .cells #[.slice a1 l1 k1, .int .i64 c] 25) (by simp))).2
    go_wp2_with fail
    refine (hS.out a1 k1 _ HX2.out HN.out).mono ?_
    rintro e w3 ⟨v3, rfl, ho3, hg3⟩
    rw [HRS.out.2.1]
    rw [HRS.out.2.2] at ho3
    obtain ⟨p3, c3, rfl, _, _, hx3, _⟩ := ho3.reads
    have HM3 := Lib.hid ((HM2.out.grown hg3).block (.cells #[.slice p3 n c3, .int .i64 (m : Int)] 25))
    have HY3 := Lib.hid (hx3.grown (grown_alloc w3 (.cells #[.slice p3 n c3, .int .i64 (m : Int)] 25) none))
    have HX3 := Lib.hid ((HX2.out.grown hg3).grown (grown_alloc w3 (.cells #[.slice p3 n c3, .int .i64 (m : Int)] 25) none))
    have HY2b := Lib.hid ((HY2.out.grown hg3).grown (grown_alloc w3 (.cells #[.slice p3 n c3, .int .i64 (m : Int)] 25) none))
    clear q0 q1 ho3 hg3 hx3
    have s0 := (two_cells (HM3.out.get (b := w2.heap.size) (o := .cells #[.slice p2 n c2, .int .i64 (m : Int)] 25) (by simp))).1
    have s1 := (two_cells (HM3.out.get (b := w2.heap.size) (o := .cells #[.slice p2 n c2, .int .i64 (m : Int)] 25) (by simp))).2
    have t0 := (two_cells (HM3.out.get (b := w3.heap.size) (o := .cells #[.slice p3 n c3, .int .i64 (m : Int)] 25) (by simp))).1
    have t1 := (two_cells (HM3.out.get (b := w3.heap.size) (o := .cells #[.slice p3 n c3, .int .i64 (m : Int)] 25) (by simp))).2
    go_wp2_with fail
    refine (equalBits_same (pk rs) p2 p3 n c2 c3 (m : Int) _ HY2b.out HY3.out (by omega)).mono ?_
    rintro e w4 ⟨rfl, hg4⟩
    have HM4 := Lib.hid (HM3.out.grown hg4)
    have HX4 := Lib.hid (HX3.out.grown hg4)
    have HY24 := Lib.hid (HY2b.out.grown hg4)
    have HY34 := Lib.hid (HY3.out.grown hg4)
    clear s0 s1 t0 t1 hg4
    obtain ⟨mb, hmb⟩ : ∃ mb, bs.length = mb := ⟨_, rfl⟩
    have hcm : c = (mb : Int) := by rw [← hmb]; exact HD.out.2.1
    subst hcm
    have hmb16 : mb ≤ 16384 := by have := HD.out.2.2.1; omega
    have hlr : rs.length = bs.length + wd := by rw [HRS.out.1]; simp [numB_len]
    have hmm : m = mb + wd := by have := HRS.out.2.1; omega
    have HQ : Hid (((m : Int) == (mb : Int) + (wd : Int)) = true) := by show _ = _; simp; omega
    have HMM := Lib.hid hmm
    have HLR : Hid (rs.length ≤ 16384 ∧ rs.length = mb + wd) := by have := HD.out.2.2.1; exact ⟨by omega, by omega⟩
    have HNV : Hid (numV rs mb wd = (v : Int)) := by show _ = _; rw [HRS.out.1, ← hmb]; exact numV_back bs v wd HD.out.2.2.2
    have HMB := Lib.hid hmb
    clear hmb hmm hlr
    have q0 := (two_cells (HM4.out.get (b := w1.heap.size) (o := .cells #[.slice a1 l1 k1, .int .i64 (mb : Int)] 25) (by simp))).1
    have q1 := (two_cells (HM4.out.get (b := w1.heap.size) (o := .cells #[.slice a1 l1 k1, .int .i64 (mb : Int)] 25) (by simp))).2
    have s0 := (two_cells (HM4.out.get (b := w2.heap.size) (o := .cells #[.slice p2 n c2, .int .i64 (m : Int)] 25) (by simp))).1
    have s1 := (two_cells (HM4.out.get (b := w2.heap.size) (o := .cells #[.slice p2 n c2, .int .i64 (m : Int)] 25) (by simp))).2
    go_wp2_with fail
    refine (iGet_eq rs (pk rs) (m : Int) (mb : Int) (wd : Int) mb wd p2 n c2 _ HY24.out rfl (by have := HRS.out.2.1; omega) rfl rfl HLR.out.1 hwd (by have := HLR.out.2; omega) (HE.out.q.grown HM4.out.g)).mono ?_
    rintro e w5 ⟨rfl, hg5⟩
    rw [HNV.out]
    have HM5 := Lib.hid (HM4.out.grown hg5)
    have HX5 := Lib.hid (HX4.out.grown hg5)
    have HY5 := Lib.hid (HY24.out.grown hg5)
    clear q0 q1 s0 s1 hg5 HM2 HM3 HM4 HX2 HX3 HX4 HY2 HY3 HY2b HY24 HY34 hS hI hA hC HM HX
    go_wp2
    go_loopw [12] (fun iv wr => ∃ k : Nat, k ≤ mb ∧ iv = .int .i64 (k : Int) ∧ Hid (Mem w1 wr ([] ++ [(w1.heap.size, Obj.cells #[.slice a1 l1 k1, .int .i64 (mb : Int)] 25)] ++ [(w2.heap.size, Obj.cells #[.slice p2 n c2, .int .i64 (m : Int)] 25)] ++ [(w3.heap.size, Obj.cells #[.slice p3 n c3, .int .i64 (m : Int)] 25)])) ∧ Hid (Ints wr a1 l1 xs) ∧ Hid (Ints wr p2 n (pk rs))) (fun iv _ => mb - (intOf iv).toNat)
    case atStart => exact ⟨0, Nat.zero_le _, rfl, HM5, HX5, HY5⟩
    case round =>
      obtain ⟨k, hk, rfl, HMk, HXk, HYk⟩ := hrel
      by_cases hlt : k < mb
      · have hd : decide ((k : Int) < (mb : Int)) = true := by simp; omega
        obtain ⟨y, hy⟩ : ∃ y, cb bs k = y := ⟨_, rfl⟩
        have hy2 : cb rs k = y := by rw [HRS.out.1, cb_front (by have := HMB.out; omega)]; exact hy
        have HY1 : Hid (numV bs k 1 = y ∧ numV rs k 1 = y) := by constructor <;> simp only [numV] <;> simp [hy, hy2]
        clear hy hy2
        have q0 := (two_cells (HMk.out.get (b := w1.heap.size) (o := .cells #[.slice a1 l1 k1, .int .i64 (mb : Int)] 25) (by simp))).1
        have q1 := (two_cells (HMk.out.get (b := w1.heap.size) (o := .cells #[.slice a1 l1 k1, .int .i64 (mb : Int)] 25) (by simp))).2
        go_wp2_with fail
        refine (iGet_eq bs xs (mb : Int) (k : Int) 1 k 1 a1 l1 k1 _ HXk.out HD.out.1 (by have := HMB.out; omega) rfl rfl (by have := HMB.out; omega) (by omega) (by have := HMB.out; omega) (HE.out.q.grown HMk.out.g)).mono ?_
        rintro e w6 ⟨rfl, hg6⟩
        rw [HY1.out.1]
        have HM6 := Lib.hid (HMk.out.grown hg6)
        have HX6 := Lib.hid (HXk.out.grown hg6)
        have HY6 := Lib.hid (HYk.out.grown hg6)
        clear q0 q1 hg6
        have s0 := (two_cells (HM6.out.get (b := w2.heap.size) (o := .cells #[.slice p2 n c2, .int .i64 (m : Int)] 25) (by simp))).1
        have s1 := (two_cells (HM6.out.get (b := w2.heap.size) (o := .cells #[.slice p2 n c2, .int .i64 (m : Int)] 25) (by simp))).2
        go_wp2_with fail
        refine (iGet_eq rs (pk rs) (m : Int) (k : Int) 1 k 1 p2 n c2 _ HY6.out rfl (by have := HRS.out.2.1; omega) rfl rfl HLR.out.1 (by omega) (by have := HLR.out.2; omega) (HE.out.q.grown HM6.out.g)).mono ?_
        rintro e w7 ⟨rfl, hg7⟩
        rw [HY1.out.2]
        have HM7 := Lib.hid (HM6.out.grown hg7)
        have HX7 := Lib.hid (HX6.out.grown hg7)
        have HY7 := Lib.hid (HY6.out.grown hg7)
        clear s0 s1 hg7
        go_wp2
        go_roundw
        case rel => exact ⟨k + 1, by omega, by go_num, HM7, HX7, HY7⟩
        case measure => simp [intOf]; omega
      · obtain rfl : k = mb := by omega
        have hd : decide ((k : Int) < (k : Int)) = false := by simp
        have hq := HQ.out
        have q0 := (two_cells (HMk.out.get (b := w1.heap.size) (o := .cells #[.slice a1 l1 k1, .int .i64 (k : Int)] 25) (by simp))).1
        have q1 := (two_cells (HMk.out.get (b := w1.heap.size) (o := .cells #[.slice a1 l1 k1, .int .i64 (k : Int)] 25) (by simp))).2
        have s0 := (two_cells (HMk.out.get (b := w2.heap.size) (o := .cells #[.slice p2 n c2, .int .i64 (m : Int)] 25) (by simp))).1
        have s1 := (two_cells (HMk.out.get (b := w2.heap.size) (o := .cells #[.slice p2 n c2, .int .i64 (m : Int)] 25) (by simp))).2
        go_wp2
        go_ret
        exact ⟨rfl, grown_trans HG1.out HMk.out.g⟩

end Go.Proofs.YtcgcippniicaaaaDoor
