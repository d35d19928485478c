/-
  The walks of the laws on middles, differences and modes: each returns true and writes nothing that was there. For every code.
-/
import Derived.Test.YtbjkclbgocpbkaaStE
import Derived.Test.YtbjkclbgocpbkaaDrawSt
import Derived.Test.YtbjkclbgocpbkaaSum
import Derived.IntWalk
import Derived.OwnWalk
namespace Go.Proofs.Ytbjkclbgocpbkaa
open Go.RowKit

/-- Two drawn lists, in new memory. -/
def DrewT0 (w : World) (e : Ending) (w' : World) : Prop :=
  ∃ (ao : Option Addr) (len cap : Nat) (xs : List Int) (bo : Option Addr) (len' cap' : Nat) (ys : List Int), e = .returned (.tuple #[.slice ao len cap, .slice bo len' cap']) ∧ len ≤ 40 ∧ len' ≤ 40 ∧ (ao = none → cap = 0) ∧ (bo = none → cap' = 0) ∧ Ints w' ao len xs ∧ Ints w' bo len' ys ∧ w.grownBy w' none
/-- A drawn number and two lists. -/
def DrewIT (w : World) (e : Ending) (w' : World) : Prop :=
  ∃ (m : Int) (ao : Option Addr) (len cap : Nat) (xs : List Int) (bo : Option Addr) (len' cap' : Nat) (ys : List Int), e = .returned (.tuple #[.int .i64 m, .slice ao len cap, .slice bo len' cap']) ∧ len ≤ 40 ∧ len' ≤ 40 ∧ (ao = none → cap = 0) ∧ (bo = none → cap' = 0) ∧ Ints w' ao len xs ∧ Ints w' bo len' ys ∧ w.grownBy w' none

set_option maxRecDepth 100000 in
set_option maxHeartbeats 1000000 in
theorem drawMid_any (ao : Option Addr) (len cap : Nat) (w : World) (hb : BytesAt w ao len) (hlc : len ≤ cap) (hmax : len ≤ 9223372036854775807) :
    Calls Try.prog 15 #[.slice ao len cap] w (DrewT0 w) := by
  have hnew := newReader_any ao len cap w hb hlc hmax
  clear hb hlc hmax
  obtain ⟨r, hr⟩ : ∃ r, w.heap.size = r := ⟨_, rfl⟩
  go_enter Try.func15, Try.ntmps15
  go_wp2_with fail
  refine hnew.mono ?_
  rintro e w0 ⟨rfl, hR, hg0⟩
  rw [hr] at hR ⊢
  have HG0 := Lib.hid hg0
  have HRR := Lib.hid hr
  have hrl : r < w0.heap.size := hR.lt
  clear hnew hg0 hr
  go_wp2_with fail
  refine (anyChannels_any r 0 _ hR (by omega)).mono ?_
  rintro e w2 ⟨a1, l1, c1, xs, a2, l2, c2, ys, rfl, hl1, hl2, hn1, hn2, hx1, hx2, hb1, hb2, hR2, hg2⟩
  have HF : Hid (l1 ≤ 40 ∧ l2 ≤ 40 ∧ (a1 = none → c1 = 0) ∧ (a2 = none → c2 = 0) ∧ Ints w2 a1 l1 xs ∧ Ints w2 a2 l2 ys ∧ w.grownBy w2 none) := ⟨by omega, by omega, hn1, hn2, hx1, hx2, grown_new HG0.out hg2 (by rw [HRR.out]; exact Nat.le_refl _)⟩
  clear hR hl1 hl2 hn1 hn2 hx1 hx2 hb1 hb2 hR2 hg2
  go_wp2
  go_ret2
  exact ⟨a1, l1, c1, xs, a2, l2, c2, ys, rfl, HF.out⟩

set_option maxRecDepth 100000 in
set_option maxHeartbeats 1000000 in
theorem drawFrom_any (ao : Option Addr) (len cap : Nat) (w : World) (hb : BytesAt w ao len) (hlc : len ≤ cap) (hmax : len ≤ 9223372036854775807) :
    Calls Try.prog 21 #[.slice ao len cap] w (DrewT0 w) := by
  have hnew := newReader_any ao len cap w hb hlc hmax
  clear hb hlc hmax
  obtain ⟨r, hr⟩ : ∃ r, w.heap.size = r := ⟨_, rfl⟩
  go_enter Try.func21, Try.ntmps21
  go_wp2_with fail
  refine hnew.mono ?_
  rintro e w0 ⟨rfl, hR, hg0⟩
  rw [hr] at hR ⊢
  have HG0 := Lib.hid hg0
  have HRR := Lib.hid hr
  have hrl : r < w0.heap.size := hR.lt
  clear hnew hg0 hr
  go_wp2_with fail
  refine (anyChannels_any r 0 _ hR (by omega)).mono ?_
  rintro e w2 ⟨a1, l1, c1, xs, a2, l2, c2, ys, rfl, hl1, hl2, hn1, hn2, hx1, hx2, hb1, hb2, hR2, hg2⟩
  have HS : Hid (l1 ≤ 30 ∧ l2 ≤ 30 ∧ (a1 = none → c1 = 0) ∧ (a2 = none → c2 = 0) ∧ Ints w2 a1 l1 xs ∧ Ints w2 a2 l2 ys ∧ (∀ a, a1 = some a → w0.heap.size ≤ a.block) ∧ (∀ a, a2 = some a → w0.heap.size ≤ a.block) ∧ w0.grownBy w2 (some r)) := ⟨hl1, hl2, hn1, hn2, hx1, hx2, hb1, hb2, hg2⟩
  clear hR hl1 hl2 hn1 hn2 hx1 hx2 hb1 hb2 hg2
  go_wp2_with fail
  refine (pick_any 20 r (0 + 300) _ hR2 (by omega) (by omega)).mono ?_
  rintro e w3 ⟨m, rfl, hm0, _, _, hR3, hg3⟩
  have HS3 : Hid (Ints w3 a1 l1 xs ∧ Ints w3 a2 l2 ys ∧ w0.grownBy w3 (some r)) := by
    obtain ⟨h1, h2, h3, h4, h5, h6, h7, h8, h9⟩ := HS.out
    exact ⟨h5.kept hg3 (fun a e h => by have := h7 a e; injection h with h; omega), h6.kept hg3 (fun a e h => by have := h8 a e; injection h with h; omega), grown_trans h9 hg3⟩
  have hl2 := HS.out.2.1
  clear hR2 hg3
  by_cases h0 : m = 0
  · subst h0
    go_wp2_with fail
    refine (spoil_any ys 65537 a2 l2 c2 r (0 + 300 + 1) w3 HS3.out.2.1 HS.out.2.2.2.1 (by omega) hR3 (by omega)).mono ?_
    rintro e w4 ⟨a6, l6, c6, us, rfl, hl6, hc6, hn6, hx6, hb6, hR6, hg6⟩
    have HF : Hid (l1 ≤ 40 ∧ l6 ≤ 40 ∧ (a1 = none → c1 = 0) ∧ (a6 = none → c6 = 0) ∧ Ints w4 a1 l1 xs ∧ Ints w4 a6 l6 us ∧ w.grownBy w4 none) := by
      obtain ⟨h1, h2, h3, h4, h5, h6, h7, h8, h9⟩ := HS.out
      exact ⟨by omega, by omega, h3, hn6, HS3.out.1.kept hg6 (fun a e h => by have := h7 a e; injection h with h; omega), hx6, grown_new HG0.out (grown_trans HS3.out.2.2 hg6) (by rw [HRR.out]; exact Nat.le_refl _)⟩
    clear HS HS3 hl6 hc6 hn6 hx6 hb6 hR6 hg6 hR3 hl2
    go_wp2
    go_ret2
    exact ⟨a1, l1, c1, xs, a6, l6, c6, us, rfl, HF.out⟩
  · have h0' : (m == 0) = false := by simpa using h0
    have HF : Hid (l1 ≤ 40 ∧ l2 ≤ 40 ∧ (a1 = none → c1 = 0) ∧ (a2 = none → c2 = 0) ∧ Ints w3 a1 l1 xs ∧ Ints w3 a2 l2 ys ∧ w.grownBy w3 none) := by
      obtain ⟨h1, h2, h3, h4, h5, h6, h7, h8, h9⟩ := HS.out
      exact ⟨by omega, by omega, h3, h4, HS3.out.1, HS3.out.2.1, grown_new HG0.out HS3.out.2.2 (by rw [HRR.out]; exact Nat.le_refl _)⟩
    clear HS HS3 hR3 hl2 h0
    go_wp2
    go_ret2
    exact ⟨a1, l1, c1, xs, a2, l2, c2, ys, rfl, HF.out⟩

set_option maxHeartbeats 400000 in
theorem anyMode_any (r P : Nat) (w : World) (hR : Rdr w r P) (hP : P < 900000) :
    Calls Try.prog 43 #[.pointer (some ⟨r, 0, none⟩)] w fun e w' => ∃ m : Int, e = .returned (.int .i64 m) ∧ Rdr w' r (P + 1) ∧ w.grownBy w' (some r) := by
  go_enter Try.func43, Try.ntmps43
  go_wp2_with fail
  refine (one_at [0, 1, 2, 3, 1, 3, 4, -1] _ r P _ _ w rfl hR (by omega) (by decide) (by decide)).mono ?_
  rintro e w1 ⟨x, hx, rfl, hR1, hg1⟩
  have HF : Hid (Rdr w1 r (P + 1) ∧ w.grownBy w1 (some r)) := ⟨hR1, hg1⟩
  clear hx hR1 hg1 hR
  go_wp2
  go_ret
  exact ⟨x, rfl, HF.out⟩

set_option maxRecDepth 100000 in
set_option maxHeartbeats 1000000 in
theorem drawEnc_any (ao : Option Addr) (len cap : Nat) (w : World) (hb : BytesAt w ao len) (hlc : len ≤ cap) (hmax : len ≤ 9223372036854775807) :
    Calls Try.prog 23 #[.slice ao len cap] w (DrewIT w) := by
  have hnew := newReader_any ao len cap w hb hlc hmax
  clear hb hlc hmax
  obtain ⟨r, hr⟩ : ∃ r, w.heap.size = r := ⟨_, rfl⟩
  go_enter Try.func23, Try.ntmps23
  go_wp2_with fail
  refine hnew.mono ?_
  rintro e w0 ⟨rfl, hR, hg0⟩
  rw [hr] at hR ⊢
  have HG0 := Lib.hid hg0
  have HRR := Lib.hid hr
  have hrl : r < w0.heap.size := hR.lt
  clear hnew hg0 hr
  go_wp2_with fail
  refine (anyMode_any r 0 _ hR (by omega)).mono ?_
  rintro e w1 ⟨m, rfl, hR1, hg1⟩
  have HG1 := Lib.hid hg1
  clear hR hg1
  go_wp2_with fail
  refine (anyChannels_any r (0 + 1) _ hR1 (by omega)).mono ?_
  rintro e w2 ⟨a1, l1, c1, xs, a2, l2, c2, ys, rfl, hl1, hl2, hn1, hn2, hx1, hx2, hb1, hb2, hR2, hg2⟩
  have HF : Hid (l1 ≤ 40 ∧ l2 ≤ 40 ∧ (a1 = none → c1 = 0) ∧ (a2 = none → c2 = 0) ∧ Ints w2 a1 l1 xs ∧ Ints w2 a2 l2 ys ∧ w.grownBy w2 none) := ⟨by omega, by omega, hn1, hn2, hx1, hx2, grown_new HG0.out (grown_trans HG1.out hg2) (by rw [HRR.out]; exact Nat.le_refl _)⟩
  clear hR1 hl1 hl2 hn1 hn2 hx1 hx2 hb1 hb2 hR2 hg2
  go_wp2
  go_ret3
  exact ⟨m, a1, l1, c1, xs, a2, l2, c2, ys, rfl, HF.out⟩

set_option maxHeartbeats 1000000 in
theorem drawDec_any (ao : Option Addr) (len cap : Nat) (w : World) (hb : BytesAt w ao len) (hlc : len ≤ cap) (hmax : len ≤ 9223372036854775807) :
    Calls Try.prog 27 #[.slice ao len cap] w (DrewIT w) := by
  have k := drawEnc_any ao len cap w hb hlc hmax
  clear hb hlc hmax
  go_enter Try.func27, Try.ntmps27
  go_wp2_with fail
  refine k.mono ?_
  rintro e w2 ⟨m, a1, l1, c1, xs, a2, l2, c2, ys, rfl, h⟩
  have HF := Lib.hid h
  clear k h
  go_wp2
  go_ret3
  exact ⟨m, a1, l1, c1, xs, a2, l2, c2, ys, rfl, HF.out⟩

set_option maxRecDepth 100000 in
set_option maxHeartbeats 4000000 in
theorem FnEncodeStereo_walk (ao : Option Addr) (len cap : Nat) (w : World) (hb : BytesAt w ao len) (hlc : len ≤ cap) (hmax : len ≤ 9223372036854775807) :
    Calls Try.prog 6 #[.slice ao len cap] w (Holds w) := by
  by_cases hlen : 1048576 < len
  · clear hb
    go_enter Try.func6, Try.ntmps6
    go_wp2
    go_ret
    exact ⟨rfl, grown_refl _ _⟩
  have hd := drawEnc_any ao len cap w hb hlc hmax
  have hm : decide (1048576 < (len : Int)) = false := by simp; omega
  clear hb hlc hmax hlen
  go_enter Try.func6, Try.ntmps6
  go_wp2_with fail
  refine hd.mono ?_
  rintro e w1 ⟨m, a1, l1, c1, xs, a2, l2, c2, ys, rfl, hl1, hl2, hn1, hn2, hx1, hx2, hg1⟩
  have HN1 := Lib.hid hn1
  have HN2 := Lib.hid hn2
  have H_x := Lib.hid hx1
  have H_y := Lib.hid hx2
  have HG := Lib.hid hg1
  clear hd hn1 hn2 hx1 hx2 hg1
  obtain ⟨A, hA⟩ : ∃ A, eA m xs ys = A := ⟨_, rfl⟩
  obtain ⟨B, hB⟩ : ∃ B, eB m xs ys = B := ⟨_, rfl⟩
  obtain ⟨n, hn⟩ : ∃ n, eN m xs ys = n := ⟨_, rfl⟩
  obtain ⟨ok, hok⟩ : ∃ ok, eOk m xs ys = ok := ⟨_, rfl⟩
  have hn64 : n ≤ 64 := by rw [← hn]; exact eN_le _ _ _
  have KI : Hid (∀ (W : World), Ints W a1 l1 xs → Ints W a2 l2 ys → Calls Try.prog 24 #[.int .i64 m, .slice a1 l1 c1, .slice a2 l2 c2] W (MadeTwoB A B n ok W)) := fun W h1 h2 => by
    have := iEnc_any m xs ys a1 a2 l1 c1 l2 c2 W h1 h2 (by omega) (by omega)
    rw [hA, hB, hn, hok] at this; exact this
  have KS : Hid (∀ (W : World), Ints W a1 l1 xs → Ints W a2 l2 ys → Calls Try.prog 25 #[.int .i64 m, .slice a1 l1 c1, .slice a2 l2 c2] W (MadeTwoB A B n ok W)) := fun W h1 h2 => by
    have := sEnc_any m xs ys a1 a2 l1 c1 l2 c2 W h1 h2 HN1.out HN2.out (by omega) (by omega)
    rw [hA, hB, hn, hok] at this; exact this
  have HE := Lib.hid (And.intro hA (And.intro hB (And.intro hn hok)))
  clear hA hB hn hok
  cases ok with
  | false =>
    go_wp2_with fail
    refine (KI.out _ H_x.out H_y.out).mono ?_
    rintro e w2 ⟨v2, u2, rfl, ht2⟩
    obtain ⟨p2, q2, rfl, _, hnp2, hx2, _⟩ := ht2.o1.reads
    obtain ⟨s2, t2, rfl, _, hns2, hy2, _⟩ := ht2.o2.reads
    have hg2 := ht2.g
    have HNp2 := Lib.hid hnp2
    have HNs2 := Lib.hid hns2
    have H_x := Lib.hid (H_x.out.grown hg2)
    have H_y := Lib.hid (H_y.out.grown hg2)
    have HG := Lib.hid (grown_trans HG.out hg2)
    clear hg2
    have H_a := Lib.hid hx2
    have H_b := Lib.hid hy2
    clear hx2 hy2 ht2 hnp2 hns2
    go_wp2_with fail
    refine (KS.out _ H_x.out H_y.out).mono ?_
    rintro e w3 ⟨v3, u3, rfl, ht3⟩
    obtain ⟨p3, q3, rfl, _, hnp3, hx3, _⟩ := ht3.o1.reads
    obtain ⟨s3, t3, rfl, _, hns3, hy3, _⟩ := ht3.o2.reads
    have hg3 := ht3.g
    have HNp3 := Lib.hid hnp3
    have HNs3 := Lib.hid hns3
    have H_x := Lib.hid (H_x.out.grown hg3)
    have H_y := Lib.hid (H_y.out.grown hg3)
    have H_a := Lib.hid (H_a.out.grown hg3)
    have H_b := Lib.hid (H_b.out.grown hg3)
    have HG := Lib.hid (grown_trans HG.out hg3)
    clear hg3
    have H_c := Lib.hid hx3
    have H_d := Lib.hid hy3
    clear hx3 hy3 ht3 hnp3 hns3
    go_wp2_with fail
    refine (equalInts_any A A p2 p3 n q2 n q3 true _ H_a.out H_c.out (by omega) (by simp)).mono ?_
    rintro e w4 ⟨rfl, hg4⟩
    have H_x := Lib.hid (H_x.out.grown hg4)
    have H_y := Lib.hid (H_y.out.grown hg4)
    have H_a := Lib.hid (H_a.out.grown hg4)
    have H_b := Lib.hid (H_b.out.grown hg4)
    have H_c := Lib.hid (H_c.out.grown hg4)
    have H_d := Lib.hid (H_d.out.grown hg4)
    have HG := Lib.hid (grown_trans HG.out hg4)
    clear hg4
    go_wp2_with fail
    refine (equalInts_any B B s2 s3 n t2 n t3 true _ H_b.out H_d.out (by omega) (by simp)).mono ?_
    rintro e w5 ⟨rfl, hg5⟩
    have H_x := Lib.hid (H_x.out.grown hg5)
    have H_y := Lib.hid (H_y.out.grown hg5)
    have H_a := Lib.hid (H_a.out.grown hg5)
    have H_b := Lib.hid (H_b.out.grown hg5)
    have H_c := Lib.hid (H_c.out.grown hg5)
    have H_d := Lib.hid (H_d.out.grown hg5)
    have HG := Lib.hid (grown_trans HG.out hg5)
    clear hg5
    go_wp2_with fail
    refine (equalInts_any A A p2 p3 n q2 n q3 true _ H_a.out H_c.out (by omega) (by simp)).mono ?_
    rintro e w6 ⟨rfl, hg6⟩
    have H_x := Lib.hid (H_x.out.grown hg6)
    have H_y := Lib.hid (H_y.out.grown hg6)
    have H_a := Lib.hid (H_a.out.grown hg6)
    have H_b := Lib.hid (H_b.out.grown hg6)
    have H_c := Lib.hid (H_c.out.grown hg6)
    have H_d := Lib.hid (H_d.out.grown hg6)
    have HG := Lib.hid (grown_trans HG.out hg6)
    clear hg6
    go_wp2_with fail
    refine (equalInts_any B B s2 s3 n t2 n t3 true _ H_b.out H_d.out (by omega) (by simp)).mono ?_
    rintro e w7 ⟨rfl, hg7⟩
    have H_x := Lib.hid (H_x.out.grown hg7)
    have H_y := Lib.hid (H_y.out.grown hg7)
    have H_a := Lib.hid (H_a.out.grown hg7)
    have H_b := Lib.hid (H_b.out.grown hg7)
    have H_c := Lib.hid (H_c.out.grown hg7)
    have H_d := Lib.hid (H_d.out.grown hg7)
    have HG := Lib.hid (grown_trans HG.out hg7)
    clear hg7
    go_wp2
    go_ret
    exact ⟨rfl, HG.out⟩
  | true =>
    go_wp2_with fail
    refine (KI.out _ H_x.out H_y.out).mono ?_
    rintro e w2 ⟨v2, u2, rfl, ht2⟩
    obtain ⟨p2, q2, rfl, _, hnp2, hx2, _⟩ := ht2.o1.reads
    obtain ⟨s2, t2, rfl, _, hns2, hy2, _⟩ := ht2.o2.reads
    have hg2 := ht2.g
    have HNp2 := Lib.hid hnp2
    have HNs2 := Lib.hid hns2
    have H_x := Lib.hid (H_x.out.grown hg2)
    have H_y := Lib.hid (H_y.out.grown hg2)
    have HG := Lib.hid (grown_trans HG.out hg2)
    clear hg2
    have H_a := Lib.hid hx2
    have H_b := Lib.hid hy2
    clear hx2 hy2 ht2 hnp2 hns2
    go_wp2_with fail
    refine (KS.out _ H_x.out H_y.out).mono ?_
    rintro e w3 ⟨v3, u3, rfl, ht3⟩
    obtain ⟨p3, q3, rfl, _, hnp3, hx3, _⟩ := ht3.o1.reads
    obtain ⟨s3, t3, rfl, _, hns3, hy3, _⟩ := ht3.o2.reads
    have hg3 := ht3.g
    have HNp3 := Lib.hid hnp3
    have HNs3 := Lib.hid hns3
    have H_x := Lib.hid (H_x.out.grown hg3)
    have H_y := Lib.hid (H_y.out.grown hg3)
    have H_a := Lib.hid (H_a.out.grown hg3)
    have H_b := Lib.hid (H_b.out.grown hg3)
    have HG := Lib.hid (grown_trans HG.out hg3)
    clear hg3
    have H_c := Lib.hid hx3
    have H_d := Lib.hid hy3
    clear hx3 hy3 ht3 hnp3 hns3
    go_wp2_with fail
    refine (equalInts_any A A p2 p3 n q2 n q3 true _ H_a.out H_c.out (by omega) (by simp)).mono ?_
    rintro e w4 ⟨rfl, hg4⟩
    have H_x := Lib.hid (H_x.out.grown hg4)
    have H_y := Lib.hid (H_y.out.grown hg4)
    have H_a := Lib.hid (H_a.out.grown hg4)
    have H_b := Lib.hid (H_b.out.grown hg4)
    have H_c := Lib.hid (H_c.out.grown hg4)
    have H_d := Lib.hid (H_d.out.grown hg4)
    have HG := Lib.hid (grown_trans HG.out hg4)
    clear hg4
    go_wp2_with fail
    refine (equalInts_any B B s2 s3 n t2 n t3 true _ H_b.out H_d.out (by omega) (by simp)).mono ?_
    rintro e w5 ⟨rfl, hg5⟩
    have H_x := Lib.hid (H_x.out.grown hg5)
    have H_y := Lib.hid (H_y.out.grown hg5)
    have H_a := Lib.hid (H_a.out.grown hg5)
    have H_b := Lib.hid (H_b.out.grown hg5)
    have H_c := Lib.hid (H_c.out.grown hg5)
    have H_d := Lib.hid (H_d.out.grown hg5)
    have HG := Lib.hid (grown_trans HG.out hg5)
    clear hg5
    have hok := HE.out.2.2.2
    obtain ⟨b1, b2, b3⟩ := dOk_e hok
    have hN : dN m A B = n := by
      have e1 := HE.out.1
      have e2 := HE.out.2.1
      unfold dN
      rw [e1, e2] at b1
      rw [b1]
      exact H_a.out.1
    rw [HE.out.1, HE.out.2.1] at b1 b2 b3
    have HB := Lib.hid (And.intro b1 (And.intro b2 (And.intro b3 hN)))
    clear b1 b2 b3 hN hok
    have KB : Hid (∀ (W : World), Ints W p2 n A → Ints W s2 n B → Calls Try.prog 26 #[.int .i64 m, .slice p2 n q2, .slice s2 n t2] W (MadeTwoB xs ys n true W)) := fun W h1 h2 => by
      have := iDec_any m A B p2 s2 n q2 n t2 W h1 h2 (by omega) (by omega)
      rw [HB.out.2.1, HB.out.2.2.1, HB.out.2.2.2, HB.out.1] at this; exact this
    go_wp2_with fail
    refine (KB.out _ H_a.out H_b.out).mono ?_
    rintro e w6 ⟨v6, u6, rfl, ht6⟩
    obtain ⟨p6, q6, rfl, _, hnp6, hx6, _⟩ := ht6.o1.reads
    obtain ⟨s6, t6, rfl, _, hns6, hy6, _⟩ := ht6.o2.reads
    have hg6 := ht6.g
    have HNp6 := Lib.hid hnp6
    have HNs6 := Lib.hid hns6
    have H_x := Lib.hid (H_x.out.grown hg6)
    have H_y := Lib.hid (H_y.out.grown hg6)
    have H_a := Lib.hid (H_a.out.grown hg6)
    have H_b := Lib.hid (H_b.out.grown hg6)
    have H_c := Lib.hid (H_c.out.grown hg6)
    have H_d := Lib.hid (H_d.out.grown hg6)
    have HG := Lib.hid (grown_trans HG.out hg6)
    clear hg6
    have H_f := Lib.hid hx6
    have H_g := Lib.hid hy6
    clear hx6 hy6 ht6 hnp6 hns6
    go_wp2_with fail
    refine (equalInts_any xs xs p6 a1 n q6 l1 c1 true _ H_f.out H_x.out (by omega) (by simp)).mono ?_
    rintro e w7 ⟨rfl, hg7⟩
    have H_x := Lib.hid (H_x.out.grown hg7)
    have H_y := Lib.hid (H_y.out.grown hg7)
    have H_a := Lib.hid (H_a.out.grown hg7)
    have H_b := Lib.hid (H_b.out.grown hg7)
    have H_c := Lib.hid (H_c.out.grown hg7)
    have H_d := Lib.hid (H_d.out.grown hg7)
    have H_f := Lib.hid (H_f.out.grown hg7)
    have H_g := Lib.hid (H_g.out.grown hg7)
    have HG := Lib.hid (grown_trans HG.out hg7)
    clear hg7
    go_wp2_with fail
    refine (equalInts_any ys ys s6 a2 n t6 l2 c2 true _ H_g.out H_y.out (by omega) (by simp)).mono ?_
    rintro e w8 ⟨rfl, hg8⟩
    have H_x := Lib.hid (H_x.out.grown hg8)
    have H_y := Lib.hid (H_y.out.grown hg8)
    have H_a := Lib.hid (H_a.out.grown hg8)
    have H_b := Lib.hid (H_b.out.grown hg8)
    have H_c := Lib.hid (H_c.out.grown hg8)
    have H_d := Lib.hid (H_d.out.grown hg8)
    have H_f := Lib.hid (H_f.out.grown hg8)
    have H_g := Lib.hid (H_g.out.grown hg8)
    have HG := Lib.hid (grown_trans HG.out hg8)
    clear hg8
    go_wp2
    go_ret
    exact ⟨rfl, HG.out⟩

set_option maxRecDepth 100000 in
set_option maxHeartbeats 4000000 in
theorem FnDecodeStereo_walk (ao : Option Addr) (len cap : Nat) (w : World) (hb : BytesAt w ao len) (hlc : len ≤ cap) (hmax : len ≤ 9223372036854775807) :
    Calls Try.prog 7 #[.slice ao len cap] w (Holds w) := by
  by_cases hlen : 1048576 < len
  · clear hb
    go_enter Try.func7, Try.ntmps7
    go_wp2
    go_ret
    exact ⟨rfl, grown_refl _ _⟩
  have hd := drawDec_any ao len cap w hb hlc hmax
  have hm : decide (1048576 < (len : Int)) = false := by simp; omega
  clear hb hlc hmax hlen
  go_enter Try.func7, Try.ntmps7
  go_wp2_with fail
  refine hd.mono ?_
  rintro e w1 ⟨m, a1, l1, c1, xs, a2, l2, c2, ys, rfl, hl1, hl2, hn1, hn2, hx1, hx2, hg1⟩
  have HN1 := Lib.hid hn1
  have HN2 := Lib.hid hn2
  have H_x := Lib.hid hx1
  have H_y := Lib.hid hx2
  have HG := Lib.hid hg1
  clear hd hn1 hn2 hx1 hx2 hg1
  obtain ⟨A, hA⟩ : ∃ A, dA m xs ys = A := ⟨_, rfl⟩
  obtain ⟨B, hB⟩ : ∃ B, dB m xs ys = B := ⟨_, rfl⟩
  obtain ⟨n, hn⟩ : ∃ n, dN m xs ys = n := ⟨_, rfl⟩
  obtain ⟨ok, hok⟩ : ∃ ok, dOk m xs ys = ok := ⟨_, rfl⟩
  have hn64 : n ≤ 64 := by rw [← hn]; exact dN_le _ _ _
  have KI : Hid (∀ (W : World), Ints W a1 l1 xs → Ints W a2 l2 ys → Calls Try.prog 26 #[.int .i64 m, .slice a1 l1 c1, .slice a2 l2 c2] W (MadeTwoB A B n ok W)) := fun W h1 h2 => by
    have := iDec_any m xs ys a1 a2 l1 c1 l2 c2 W h1 h2 (by omega) (by omega)
    rw [hA, hB, hn, hok] at this; exact this
  have KS : Hid (∀ (W : World), Ints W a1 l1 xs → Ints W a2 l2 ys → Calls Try.prog 28 #[.int .i64 m, .slice a1 l1 c1, .slice a2 l2 c2] W (MadeTwoB A B n ok W)) := fun W h1 h2 => by
    have := sDec_any m xs ys a1 a2 l1 c1 l2 c2 W h1 h2 HN1.out HN2.out (by omega) (by omega)
    rw [hA, hB, hn, hok] at this; exact this
  have HE := Lib.hid (And.intro hA (And.intro hB (And.intro hn hok)))
  clear hA hB hn hok
  cases ok with
  | false =>
    go_wp2_with fail
    refine (KI.out _ H_x.out H_y.out).mono ?_
    rintro e w2 ⟨v2, u2, rfl, ht2⟩
    obtain ⟨p2, q2, rfl, _, hnp2, hx2, _⟩ := ht2.o1.reads
    obtain ⟨s2, t2, rfl, _, hns2, hy2, _⟩ := ht2.o2.reads
    have hg2 := ht2.g
    have HNp2 := Lib.hid hnp2
    have HNs2 := Lib.hid hns2
    have H_x := Lib.hid (H_x.out.grown hg2)
    have H_y := Lib.hid (H_y.out.grown hg2)
    have HG := Lib.hid (grown_trans HG.out hg2)
    clear hg2
    have H_a := Lib.hid hx2
    have H_b := Lib.hid hy2
    clear hx2 hy2 ht2 hnp2 hns2
    go_wp2_with fail
    refine (KS.out _ H_x.out H_y.out).mono ?_
    rintro e w3 ⟨v3, u3, rfl, ht3⟩
    obtain ⟨p3, q3, rfl, _, hnp3, hx3, _⟩ := ht3.o1.reads
    obtain ⟨s3, t3, rfl, _, hns3, hy3, _⟩ := ht3.o2.reads
    have hg3 := ht3.g
    have HNp3 := Lib.hid hnp3
    have HNs3 := Lib.hid hns3
    have H_x := Lib.hid (H_x.out.grown hg3)
    have H_y := Lib.hid (H_y.out.grown hg3)
    have H_a := Lib.hid (H_a.out.grown hg3)
    have H_b := Lib.hid (H_b.out.grown hg3)
    have HG := Lib.hid (grown_trans HG.out hg3)
    clear hg3
    have H_c := Lib.hid hx3
    have H_d := Lib.hid hy3
    clear hx3 hy3 ht3 hnp3 hns3
    go_wp2_with fail
    refine (equalInts_any A A p2 p3 n q2 n q3 true _ H_a.out H_c.out (by omega) (by simp)).mono ?_
    rintro e w4 ⟨rfl, hg4⟩
    have H_x := Lib.hid (H_x.out.grown hg4)
    have H_y := Lib.hid (H_y.out.grown hg4)
    have H_a := Lib.hid (H_a.out.grown hg4)
    have H_b := Lib.hid (H_b.out.grown hg4)
    have H_c := Lib.hid (H_c.out.grown hg4)
    have H_d := Lib.hid (H_d.out.grown hg4)
    have HG := Lib.hid (grown_trans HG.out hg4)
    clear hg4
    go_wp2_with fail
    refine (equalInts_any B B s2 s3 n t2 n t3 true _ H_b.out H_d.out (by omega) (by simp)).mono ?_
    rintro e w5 ⟨rfl, hg5⟩
    have H_x := Lib.hid (H_x.out.grown hg5)
    have H_y := Lib.hid (H_y.out.grown hg5)
    have H_a := Lib.hid (H_a.out.grown hg5)
    have H_b := Lib.hid (H_b.out.grown hg5)
    have H_c := Lib.hid (H_c.out.grown hg5)
    have H_d := Lib.hid (H_d.out.grown hg5)
    have HG := Lib.hid (grown_trans HG.out hg5)
    clear hg5
    go_wp2_with fail
    refine (equalInts_any A A p2 p3 n q2 n q3 true _ H_a.out H_c.out (by omega) (by simp)).mono ?_
    rintro e w6 ⟨rfl, hg6⟩
    have H_x := Lib.hid (H_x.out.grown hg6)
    have H_y := Lib.hid (H_y.out.grown hg6)
    have H_a := Lib.hid (H_a.out.grown hg6)
    have H_b := Lib.hid (H_b.out.grown hg6)
    have H_c := Lib.hid (H_c.out.grown hg6)
    have H_d := Lib.hid (H_d.out.grown hg6)
    have HG := Lib.hid (grown_trans HG.out hg6)
    clear hg6
    go_wp2_with fail
    refine (equalInts_any B B s2 s3 n t2 n t3 true _ H_b.out H_d.out (by omega) (by simp)).mono ?_
    rintro e w7 ⟨rfl, hg7⟩
    have H_x := Lib.hid (H_x.out.grown hg7)
    have H_y := Lib.hid (H_y.out.grown hg7)
    have H_a := Lib.hid (H_a.out.grown hg7)
    have H_b := Lib.hid (H_b.out.grown hg7)
    have H_c := Lib.hid (H_c.out.grown hg7)
    have H_d := Lib.hid (H_d.out.grown hg7)
    have HG := Lib.hid (grown_trans HG.out hg7)
    clear hg7
    go_wp2
    go_ret
    exact ⟨rfl, HG.out⟩
  | true =>
    go_wp2_with fail
    refine (KI.out _ H_x.out H_y.out).mono ?_
    rintro e w2 ⟨v2, u2, rfl, ht2⟩
    obtain ⟨p2, q2, rfl, _, hnp2, hx2, _⟩ := ht2.o1.reads
    obtain ⟨s2, t2, rfl, _, hns2, hy2, _⟩ := ht2.o2.reads
    have hg2 := ht2.g
    have HNp2 := Lib.hid hnp2
    have HNs2 := Lib.hid hns2
    have H_x := Lib.hid (H_x.out.grown hg2)
    have H_y := Lib.hid (H_y.out.grown hg2)
    have HG := Lib.hid (grown_trans HG.out hg2)
    clear hg2
    have H_a := Lib.hid hx2
    have H_b := Lib.hid hy2
    clear hx2 hy2 ht2 hnp2 hns2
    go_wp2_with fail
    refine (KS.out _ H_x.out H_y.out).mono ?_
    rintro e w3 ⟨v3, u3, rfl, ht3⟩
    obtain ⟨p3, q3, rfl, _, hnp3, hx3, _⟩ := ht3.o1.reads
    obtain ⟨s3, t3, rfl, _, hns3, hy3, _⟩ := ht3.o2.reads
    have hg3 := ht3.g
    have HNp3 := Lib.hid hnp3
    have HNs3 := Lib.hid hns3
    have H_x := Lib.hid (H_x.out.grown hg3)
    have H_y := Lib.hid (H_y.out.grown hg3)
    have H_a := Lib.hid (H_a.out.grown hg3)
    have H_b := Lib.hid (H_b.out.grown hg3)
    have HG := Lib.hid (grown_trans HG.out hg3)
    clear hg3
    have H_c := Lib.hid hx3
    have H_d := Lib.hid hy3
    clear hx3 hy3 ht3 hnp3 hns3
    go_wp2_with fail
    refine (equalInts_any A A p2 p3 n q2 n q3 true _ H_a.out H_c.out (by omega) (by simp)).mono ?_
    rintro e w4 ⟨rfl, hg4⟩
    have H_x := Lib.hid (H_x.out.grown hg4)
    have H_y := Lib.hid (H_y.out.grown hg4)
    have H_a := Lib.hid (H_a.out.grown hg4)
    have H_b := Lib.hid (H_b.out.grown hg4)
    have H_c := Lib.hid (H_c.out.grown hg4)
    have H_d := Lib.hid (H_d.out.grown hg4)
    have HG := Lib.hid (grown_trans HG.out hg4)
    clear hg4
    go_wp2_with fail
    refine (equalInts_any B B s2 s3 n t2 n t3 true _ H_b.out H_d.out (by omega) (by simp)).mono ?_
    rintro e w5 ⟨rfl, hg5⟩
    have H_x := Lib.hid (H_x.out.grown hg5)
    have H_y := Lib.hid (H_y.out.grown hg5)
    have H_a := Lib.hid (H_a.out.grown hg5)
    have H_b := Lib.hid (H_b.out.grown hg5)
    have H_c := Lib.hid (H_c.out.grown hg5)
    have H_d := Lib.hid (H_d.out.grown hg5)
    have HG := Lib.hid (grown_trans HG.out hg5)
    clear hg5
    have hok := HE.out.2.2.2
    obtain ⟨b1, b2, b3⟩ := eOk_d hok
    have hN : eN m A B = n := by
      have e1 := HE.out.1
      have e2 := HE.out.2.1
      unfold eN
      rw [e1, e2] at b1
      rw [b1]
      exact H_a.out.1
    rw [HE.out.1, HE.out.2.1] at b1 b2 b3
    have HB := Lib.hid (And.intro b1 (And.intro b2 (And.intro b3 hN)))
    clear b1 b2 b3 hN hok
    have KB : Hid (∀ (W : World), Ints W p2 n A → Ints W s2 n B → Calls Try.prog 24 #[.int .i64 m, .slice p2 n q2, .slice s2 n t2] W (MadeTwoB xs ys n true W)) := fun W h1 h2 => by
      have := iEnc_any m A B p2 s2 n q2 n t2 W h1 h2 (by omega) (by omega)
      rw [HB.out.2.1, HB.out.2.2.1, HB.out.2.2.2, HB.out.1] at this; exact this
    go_wp2_with fail
    refine (KB.out _ H_a.out H_b.out).mono ?_
    rintro e w6 ⟨v6, u6, rfl, ht6⟩
    obtain ⟨p6, q6, rfl, _, hnp6, hx6, _⟩ := ht6.o1.reads
    obtain ⟨s6, t6, rfl, _, hns6, hy6, _⟩ := ht6.o2.reads
    have hg6 := ht6.g
    have HNp6 := Lib.hid hnp6
    have HNs6 := Lib.hid hns6
    have H_x := Lib.hid (H_x.out.grown hg6)
    have H_y := Lib.hid (H_y.out.grown hg6)
    have H_a := Lib.hid (H_a.out.grown hg6)
    have H_b := Lib.hid (H_b.out.grown hg6)
    have H_c := Lib.hid (H_c.out.grown hg6)
    have H_d := Lib.hid (H_d.out.grown hg6)
    have HG := Lib.hid (grown_trans HG.out hg6)
    clear hg6
    have H_f := Lib.hid hx6
    have H_g := Lib.hid hy6
    clear hx6 hy6 ht6 hnp6 hns6
    go_wp2_with fail
    refine (equalInts_any xs xs p6 a1 n q6 l1 c1 true _ H_f.out H_x.out (by omega) (by simp)).mono ?_
    rintro e w7 ⟨rfl, hg7⟩
    have H_x := Lib.hid (H_x.out.grown hg7)
    have H_y := Lib.hid (H_y.out.grown hg7)
    have H_a := Lib.hid (H_a.out.grown hg7)
    have H_b := Lib.hid (H_b.out.grown hg7)
    have H_c := Lib.hid (H_c.out.grown hg7)
    have H_d := Lib.hid (H_d.out.grown hg7)
    have H_f := Lib.hid (H_f.out.grown hg7)
    have H_g := Lib.hid (H_g.out.grown hg7)
    have HG := Lib.hid (grown_trans HG.out hg7)
    clear hg7
    go_wp2_with fail
    refine (equalInts_any ys ys s6 a2 n t6 l2 c2 true _ H_g.out H_y.out (by omega) (by simp)).mono ?_
    rintro e w8 ⟨rfl, hg8⟩
    have H_x := Lib.hid (H_x.out.grown hg8)
    have H_y := Lib.hid (H_y.out.grown hg8)
    have H_a := Lib.hid (H_a.out.grown hg8)
    have H_b := Lib.hid (H_b.out.grown hg8)
    have H_c := Lib.hid (H_c.out.grown hg8)
    have H_d := Lib.hid (H_d.out.grown hg8)
    have H_f := Lib.hid (H_f.out.grown hg8)
    have H_g := Lib.hid (H_g.out.grown hg8)
    have HG := Lib.hid (grown_trans HG.out hg8)
    clear hg8
    go_wp2
    go_ret
    exact ⟨rfl, HG.out⟩

set_option maxRecDepth 100000 in
set_option maxHeartbeats 4000000 in
theorem FnMidSide_walk (ao : Option Addr) (len cap : Nat) (w : World) (hb : BytesAt w ao len) (hlc : len ≤ cap) (hmax : len ≤ 9223372036854775807) :
    Calls Try.prog 3 #[.slice ao len cap] w (Holds w) := by
  by_cases hlen : 1048576 < len
  · clear hb
    go_enter Try.func3, Try.ntmps3
    go_wp2
    go_ret
    exact ⟨rfl, grown_refl _ _⟩
  have hd := drawMid_any ao len cap w hb hlc hmax
  have hm : decide (1048576 < (len : Int)) = false := by simp; omega
  clear hb hlc hmax hlen
  go_enter Try.func3, Try.ntmps3
  go_wp2_with fail
  refine hd.mono ?_
  rintro e w1 ⟨a1, l1, c1, xs, a2, l2, c2, ys, rfl, hl1, hl2, hn1, hn2, hx1, hx2, hg1⟩
  have HN1 := Lib.hid hn1
  have HN2 := Lib.hid hn2
  have H_x := Lib.hid hx1
  have H_y := Lib.hid hx2
  have HG := Lib.hid hg1
  clear hd hn1 hn2 hx1 hx2 hg1
  obtain ⟨A, hA⟩ : ∃ A, eA 3 xs ys = A := ⟨_, rfl⟩
  obtain ⟨B, hB⟩ : ∃ B, eB 3 xs ys = B := ⟨_, rfl⟩
  obtain ⟨n, hn⟩ : ∃ n, eN 3 xs ys = n := ⟨_, rfl⟩
  obtain ⟨ok, hok⟩ : ∃ ok, eOk 3 xs ys = ok := ⟨_, rfl⟩
  have hn64 : n ≤ 64 := by rw [← hn]; exact eN_le _ _ _
  have KI : Hid (∀ (W : World), Ints W a1 l1 xs → Ints W a2 l2 ys → Calls Try.prog 16 #[.slice a1 l1 c1, .slice a2 l2 c2] W (MadeTwo A B n W)) := fun W h1 h2 => by
    have := iMidSide_any xs ys a1 a2 l1 c1 l2 c2 W h1 h2 (by omega) (by omega)
    rw [hA, hB, hn] at this; exact this
  have KS : Hid (∀ (W : World), Ints W a1 l1 xs → Ints W a2 l2 ys → Calls Try.prog 17 #[.slice a1 l1 c1, .slice a2 l2 c2] W (MadeTwo A B n W)) := fun W h1 h2 => by
    have := sMidSide_any xs ys a1 a2 l1 c1 l2 c2 W h1 h2 (by omega) (by omega)
    rw [hA, hB, hn] at this; exact this
  have HE := Lib.hid (And.intro hA (And.intro hB (And.intro hn hok)))
  clear hA hB hn hok
  go_wp2_with fail
  refine (KI.out _ H_x.out H_y.out).mono ?_
  rintro e w2 ⟨v2, u2, rfl, ht2⟩
  obtain ⟨p2, q2, rfl, _, hnp2, hx2, _⟩ := ht2.o1.reads
  obtain ⟨s2, t2, rfl, _, hns2, hy2, _⟩ := ht2.o2.reads
  have hg2 := ht2.g
  have HNp2 := Lib.hid hnp2
  have HNs2 := Lib.hid hns2
  have H_x := Lib.hid (H_x.out.grown hg2)
  have H_y := Lib.hid (H_y.out.grown hg2)
  have HG := Lib.hid (grown_trans HG.out hg2)
  clear hg2
  have H_a := Lib.hid hx2
  have H_b := Lib.hid hy2
  clear hx2 hy2 ht2 hnp2 hns2
  go_wp2_with fail
  refine (KS.out _ H_x.out H_y.out).mono ?_
  rintro e w3 ⟨v3, u3, rfl, ht3⟩
  obtain ⟨p3, q3, rfl, _, hnp3, hx3, _⟩ := ht3.o1.reads
  obtain ⟨s3, t3, rfl, _, hns3, hy3, _⟩ := ht3.o2.reads
  have hg3 := ht3.g
  have HNp3 := Lib.hid hnp3
  have HNs3 := Lib.hid hns3
  have H_x := Lib.hid (H_x.out.grown hg3)
  have H_y := Lib.hid (H_y.out.grown hg3)
  have H_a := Lib.hid (H_a.out.grown hg3)
  have H_b := Lib.hid (H_b.out.grown hg3)
  have HG := Lib.hid (grown_trans HG.out hg3)
  clear hg3
  have H_c := Lib.hid hx3
  have H_d := Lib.hid hy3
  clear hx3 hy3 ht3 hnp3 hns3
  go_wp2_with fail
  refine (equalInts_any A A p2 p3 n q2 n q3 true _ H_a.out H_c.out (by omega) (by simp)).mono ?_
  rintro e w4 ⟨rfl, hg4⟩
  have H_x := Lib.hid (H_x.out.grown hg4)
  have H_y := Lib.hid (H_y.out.grown hg4)
  have H_a := Lib.hid (H_a.out.grown hg4)
  have H_b := Lib.hid (H_b.out.grown hg4)
  have H_c := Lib.hid (H_c.out.grown hg4)
  have H_d := Lib.hid (H_d.out.grown hg4)
  have HG := Lib.hid (grown_trans HG.out hg4)
  clear hg4
  go_wp2_with fail
  refine (equalInts_any B B s2 s3 n t2 n t3 true _ H_b.out H_d.out (by omega) (by simp)).mono ?_
  rintro e w5 ⟨rfl, hg5⟩
  have H_x := Lib.hid (H_x.out.grown hg5)
  have H_y := Lib.hid (H_y.out.grown hg5)
  have H_a := Lib.hid (H_a.out.grown hg5)
  have H_b := Lib.hid (H_b.out.grown hg5)
  have H_c := Lib.hid (H_c.out.grown hg5)
  have H_d := Lib.hid (H_d.out.grown hg5)
  have HG := Lib.hid (grown_trans HG.out hg5)
  clear hg5
  by_cases hz : n = 0
  · subst hz
    go_wp2_with fail
    refine (equalInts_any A A p2 p3 0 q2 0 q3 true _ H_a.out H_c.out (by omega) (by simp)).mono ?_
    rintro e w6 ⟨rfl, hg6⟩
    have H_x := Lib.hid (H_x.out.grown hg6)
    have H_y := Lib.hid (H_y.out.grown hg6)
    have H_a := Lib.hid (H_a.out.grown hg6)
    have H_b := Lib.hid (H_b.out.grown hg6)
    have H_c := Lib.hid (H_c.out.grown hg6)
    have H_d := Lib.hid (H_d.out.grown hg6)
    have HG := Lib.hid (grown_trans HG.out hg6)
    clear hg6
    go_wp2_with fail
    refine (equalInts_any B B s2 s3 0 t2 0 t3 true _ H_b.out H_d.out (by omega) (by simp)).mono ?_
    rintro e w7 ⟨rfl, hg7⟩
    have H_x := Lib.hid (H_x.out.grown hg7)
    have H_y := Lib.hid (H_y.out.grown hg7)
    have H_a := Lib.hid (H_a.out.grown hg7)
    have H_b := Lib.hid (H_b.out.grown hg7)
    have H_c := Lib.hid (H_c.out.grown hg7)
    have H_d := Lib.hid (H_d.out.grown hg7)
    have HG := Lib.hid (grown_trans HG.out hg7)
    clear hg7
    go_wp2
    go_ret
    exact ⟨rfl, HG.out⟩
  · have hz' : ((n : Int) == 0) = false := by simp; omega
    have hok : eOk 3 xs ys = true := by
      cases h : eOk 3 xs ys with
      | true => rfl
      | false => exfalso; apply hz; have := HE.out.2.2.1; rw [← this]; unfold eN; rw [h]; rfl
    clear hz
    obtain ⟨b1, b2, b3⟩ := dOk_e hok
    have hN : dN 3 A B = n := by
      have e1 := HE.out.1
      have e2 := HE.out.2.1
      unfold dN
      rw [e1, e2] at b1
      rw [b1]
      exact H_a.out.1
    rw [HE.out.1, HE.out.2.1] at b1 b2 b3
    have HB := Lib.hid (And.intro b1 (And.intro b2 (And.intro b3 hN)))
    clear b1 b2 b3 hN hok
    have KB : Hid (∀ (W : World), Ints W p2 n A → Ints W s2 n B → Calls Try.prog 19 #[.slice p2 n q2, .slice s2 n t2] W (MadeTwoB xs ys n true W)) := fun W h1 h2 => by
      have := iFrom_any A B p2 s2 n q2 n t2 W h1 h2 (by omega) (by omega)
      rw [HB.out.2.1, HB.out.2.2.1, HB.out.2.2.2, HB.out.1] at this; exact this
    go_wp2_with fail
    refine (KB.out _ H_a.out H_b.out).mono ?_
    rintro e w6 ⟨v6, u6, rfl, ht6⟩
    obtain ⟨p6, q6, rfl, _, hnp6, hx6, _⟩ := ht6.o1.reads
    obtain ⟨s6, t6, rfl, _, hns6, hy6, _⟩ := ht6.o2.reads
    have hg6 := ht6.g
    have HNp6 := Lib.hid hnp6
    have HNs6 := Lib.hid hns6
    have H_x := Lib.hid (H_x.out.grown hg6)
    have H_y := Lib.hid (H_y.out.grown hg6)
    have H_a := Lib.hid (H_a.out.grown hg6)
    have H_b := Lib.hid (H_b.out.grown hg6)
    have H_c := Lib.hid (H_c.out.grown hg6)
    have H_d := Lib.hid (H_d.out.grown hg6)
    have HG := Lib.hid (grown_trans HG.out hg6)
    clear hg6
    have H_f := Lib.hid hx6
    have H_g := Lib.hid hy6
    clear hx6 hy6 ht6 hnp6 hns6
    go_wp2_with fail
    refine (equalInts_any xs xs p6 a1 n q6 l1 c1 true _ H_f.out H_x.out (by omega) (by simp)).mono ?_
    rintro e w7 ⟨rfl, hg7⟩
    have H_x := Lib.hid (H_x.out.grown hg7)
    have H_y := Lib.hid (H_y.out.grown hg7)
    have H_a := Lib.hid (H_a.out.grown hg7)
    have H_b := Lib.hid (H_b.out.grown hg7)
    have H_c := Lib.hid (H_c.out.grown hg7)
    have H_d := Lib.hid (H_d.out.grown hg7)
    have H_f := Lib.hid (H_f.out.grown hg7)
    have H_g := Lib.hid (H_g.out.grown hg7)
    have HG := Lib.hid (grown_trans HG.out hg7)
    clear hg7
    go_wp2_with fail
    refine (equalInts_any ys ys s6 a2 n t6 l2 c2 true _ H_g.out H_y.out (by omega) (by simp)).mono ?_
    rintro e w8 ⟨rfl, hg8⟩
    have H_x := Lib.hid (H_x.out.grown hg8)
    have H_y := Lib.hid (H_y.out.grown hg8)
    have H_a := Lib.hid (H_a.out.grown hg8)
    have H_b := Lib.hid (H_b.out.grown hg8)
    have H_c := Lib.hid (H_c.out.grown hg8)
    have H_d := Lib.hid (H_d.out.grown hg8)
    have H_f := Lib.hid (H_f.out.grown hg8)
    have H_g := Lib.hid (H_g.out.grown hg8)
    have HG := Lib.hid (grown_trans HG.out hg8)
    clear hg8
    go_wp2
    go_ret
    exact ⟨rfl, HG.out⟩

set_option maxRecDepth 100000 in
set_option maxHeartbeats 4000000 in
theorem FnFromMidSide_walk (ao : Option Addr) (len cap : Nat) (w : World) (hb : BytesAt w ao len) (hlc : len ≤ cap) (hmax : len ≤ 9223372036854775807) :
    Calls Try.prog 5 #[.slice ao len cap] w (Holds w) := by
  by_cases hlen : 1048576 < len
  · clear hb
    go_enter Try.func5, Try.ntmps5
    go_wp2
    go_ret
    exact ⟨rfl, grown_refl _ _⟩
  have hd := drawFrom_any ao len cap w hb hlc hmax
  have hm : decide (1048576 < (len : Int)) = false := by simp; omega
  clear hb hlc hmax hlen
  go_enter Try.func5, Try.ntmps5
  go_wp2_with fail
  refine hd.mono ?_
  rintro e w1 ⟨a1, l1, c1, xs, a2, l2, c2, ys, rfl, hl1, hl2, hn1, hn2, hx1, hx2, hg1⟩
  have HN1 := Lib.hid hn1
  have HN2 := Lib.hid hn2
  have H_x := Lib.hid hx1
  have H_y := Lib.hid hx2
  have HG := Lib.hid hg1
  clear hd hn1 hn2 hx1 hx2 hg1
  obtain ⟨A, hA⟩ : ∃ A, dA 3 xs ys = A := ⟨_, rfl⟩
  obtain ⟨B, hB⟩ : ∃ B, dB 3 xs ys = B := ⟨_, rfl⟩
  obtain ⟨n, hn⟩ : ∃ n, dN 3 xs ys = n := ⟨_, rfl⟩
  obtain ⟨ok, hok⟩ : ∃ ok, dOk 3 xs ys = ok := ⟨_, rfl⟩
  have hn64 : n ≤ 64 := by rw [← hn]; exact dN_le _ _ _
  have KI : Hid (∀ (W : World), Ints W a1 l1 xs → Ints W a2 l2 ys → Calls Try.prog 19 #[.slice a1 l1 c1, .slice a2 l2 c2] W (MadeTwoB A B n ok W)) := fun W h1 h2 => by
    have := iFrom_any xs ys a1 a2 l1 c1 l2 c2 W h1 h2 (by omega) (by omega)
    rw [hA, hB, hn, hok] at this; exact this
  have KS : Hid (∀ (W : World), Ints W a1 l1 xs → Ints W a2 l2 ys → Calls Try.prog 22 #[.slice a1 l1 c1, .slice a2 l2 c2] W (MadeTwoB A B n ok W)) := fun W h1 h2 => by
    have := sFrom_any xs ys a1 a2 l1 c1 l2 c2 W h1 h2 HN1.out HN2.out (by omega) (by omega)
    rw [hA, hB, hn, hok] at this; exact this
  have HE := Lib.hid (And.intro hA (And.intro hB (And.intro hn hok)))
  clear hA hB hn hok
  cases ok with
  | false =>
    go_wp2_with fail
    refine (KI.out _ H_x.out H_y.out).mono ?_
    rintro e w2 ⟨v2, u2, rfl, ht2⟩
    obtain ⟨p2, q2, rfl, _, hnp2, hx2, _⟩ := ht2.o1.reads
    obtain ⟨s2, t2, rfl, _, hns2, hy2, _⟩ := ht2.o2.reads
    have hg2 := ht2.g
    have HNp2 := Lib.hid hnp2
    have HNs2 := Lib.hid hns2
    have H_x := Lib.hid (H_x.out.grown hg2)
    have H_y := Lib.hid (H_y.out.grown hg2)
    have HG := Lib.hid (grown_trans HG.out hg2)
    clear hg2
    have H_a := Lib.hid hx2
    have H_b := Lib.hid hy2
    clear hx2 hy2 ht2 hnp2 hns2
    go_wp2_with fail
    refine (KS.out _ H_x.out H_y.out).mono ?_
    rintro e w3 ⟨v3, u3, rfl, ht3⟩
    obtain ⟨p3, q3, rfl, _, hnp3, hx3, _⟩ := ht3.o1.reads
    obtain ⟨s3, t3, rfl, _, hns3, hy3, _⟩ := ht3.o2.reads
    have hg3 := ht3.g
    have HNp3 := Lib.hid hnp3
    have HNs3 := Lib.hid hns3
    have H_x := Lib.hid (H_x.out.grown hg3)
    have H_y := Lib.hid (H_y.out.grown hg3)
    have H_a := Lib.hid (H_a.out.grown hg3)
    have H_b := Lib.hid (H_b.out.grown hg3)
    have HG := Lib.hid (grown_trans HG.out hg3)
    clear hg3
    have H_c := Lib.hid hx3
    have H_d := Lib.hid hy3
    clear hx3 hy3 ht3 hnp3 hns3
    go_wp2_with fail
    refine (equalInts_any A A p2 p3 n q2 n q3 true _ H_a.out H_c.out (by omega) (by simp)).mono ?_
    rintro e w4 ⟨rfl, hg4⟩
    have H_x := Lib.hid (H_x.out.grown hg4)
    have H_y := Lib.hid (H_y.out.grown hg4)
    have H_a := Lib.hid (H_a.out.grown hg4)
    have H_b := Lib.hid (H_b.out.grown hg4)
    have H_c := Lib.hid (H_c.out.grown hg4)
    have H_d := Lib.hid (H_d.out.grown hg4)
    have HG := Lib.hid (grown_trans HG.out hg4)
    clear hg4
    go_wp2_with fail
    refine (equalInts_any B B s2 s3 n t2 n t3 true _ H_b.out H_d.out (by omega) (by simp)).mono ?_
    rintro e w5 ⟨rfl, hg5⟩
    have H_x := Lib.hid (H_x.out.grown hg5)
    have H_y := Lib.hid (H_y.out.grown hg5)
    have H_a := Lib.hid (H_a.out.grown hg5)
    have H_b := Lib.hid (H_b.out.grown hg5)
    have H_c := Lib.hid (H_c.out.grown hg5)
    have H_d := Lib.hid (H_d.out.grown hg5)
    have HG := Lib.hid (grown_trans HG.out hg5)
    clear hg5
    go_wp2_with fail
    refine (equalInts_any A A p2 p3 n q2 n q3 true _ H_a.out H_c.out (by omega) (by simp)).mono ?_
    rintro e w6 ⟨rfl, hg6⟩
    have H_x := Lib.hid (H_x.out.grown hg6)
    have H_y := Lib.hid (H_y.out.grown hg6)
    have H_a := Lib.hid (H_a.out.grown hg6)
    have H_b := Lib.hid (H_b.out.grown hg6)
    have H_c := Lib.hid (H_c.out.grown hg6)
    have H_d := Lib.hid (H_d.out.grown hg6)
    have HG := Lib.hid (grown_trans HG.out hg6)
    clear hg6
    go_wp2_with fail
    refine (equalInts_any B B s2 s3 n t2 n t3 true _ H_b.out H_d.out (by omega) (by simp)).mono ?_
    rintro e w7 ⟨rfl, hg7⟩
    have H_x := Lib.hid (H_x.out.grown hg7)
    have H_y := Lib.hid (H_y.out.grown hg7)
    have H_a := Lib.hid (H_a.out.grown hg7)
    have H_b := Lib.hid (H_b.out.grown hg7)
    have H_c := Lib.hid (H_c.out.grown hg7)
    have H_d := Lib.hid (H_d.out.grown hg7)
    have HG := Lib.hid (grown_trans HG.out hg7)
    clear hg7
    go_wp2
    go_ret
    exact ⟨rfl, HG.out⟩
  | true =>
    go_wp2_with fail
    refine (KI.out _ H_x.out H_y.out).mono ?_
    rintro e w2 ⟨v2, u2, rfl, ht2⟩
    obtain ⟨p2, q2, rfl, _, hnp2, hx2, _⟩ := ht2.o1.reads
    obtain ⟨s2, t2, rfl, _, hns2, hy2, _⟩ := ht2.o2.reads
    have hg2 := ht2.g
    have HNp2 := Lib.hid hnp2
    have HNs2 := Lib.hid hns2
    have H_x := Lib.hid (H_x.out.grown hg2)
    have H_y := Lib.hid (H_y.out.grown hg2)
    have HG := Lib.hid (grown_trans HG.out hg2)
    clear hg2
    have H_a := Lib.hid hx2
    have H_b := Lib.hid hy2
    clear hx2 hy2 ht2 hnp2 hns2
    go_wp2_with fail
    refine (KS.out _ H_x.out H_y.out).mono ?_
    rintro e w3 ⟨v3, u3, rfl, ht3⟩
    obtain ⟨p3, q3, rfl, _, hnp3, hx3, _⟩ := ht3.o1.reads
    obtain ⟨s3, t3, rfl, _, hns3, hy3, _⟩ := ht3.o2.reads
    have hg3 := ht3.g
    have HNp3 := Lib.hid hnp3
    have HNs3 := Lib.hid hns3
    have H_x := Lib.hid (H_x.out.grown hg3)
    have H_y := Lib.hid (H_y.out.grown hg3)
    have H_a := Lib.hid (H_a.out.grown hg3)
    have H_b := Lib.hid (H_b.out.grown hg3)
    have HG := Lib.hid (grown_trans HG.out hg3)
    clear hg3
    have H_c := Lib.hid hx3
    have H_d := Lib.hid hy3
    clear hx3 hy3 ht3 hnp3 hns3
    go_wp2_with fail
    refine (equalInts_any A A p2 p3 n q2 n q3 true _ H_a.out H_c.out (by omega) (by simp)).mono ?_
    rintro e w4 ⟨rfl, hg4⟩
    have H_x := Lib.hid (H_x.out.grown hg4)
    have H_y := Lib.hid (H_y.out.grown hg4)
    have H_a := Lib.hid (H_a.out.grown hg4)
    have H_b := Lib.hid (H_b.out.grown hg4)
    have H_c := Lib.hid (H_c.out.grown hg4)
    have H_d := Lib.hid (H_d.out.grown hg4)
    have HG := Lib.hid (grown_trans HG.out hg4)
    clear hg4
    go_wp2_with fail
    refine (equalInts_any B B s2 s3 n t2 n t3 true _ H_b.out H_d.out (by omega) (by simp)).mono ?_
    rintro e w5 ⟨rfl, hg5⟩
    have H_x := Lib.hid (H_x.out.grown hg5)
    have H_y := Lib.hid (H_y.out.grown hg5)
    have H_a := Lib.hid (H_a.out.grown hg5)
    have H_b := Lib.hid (H_b.out.grown hg5)
    have H_c := Lib.hid (H_c.out.grown hg5)
    have H_d := Lib.hid (H_d.out.grown hg5)
    have HG := Lib.hid (grown_trans HG.out hg5)
    clear hg5
    have hok := HE.out.2.2.2
    obtain ⟨b1, b2, b3⟩ := eOk_d hok
    have hN : eN 3 A B = n := by
      have e1 := HE.out.1
      have e2 := HE.out.2.1
      unfold eN
      rw [e1, e2] at b1
      rw [b1]
      exact H_a.out.1
    rw [HE.out.1, HE.out.2.1] at b1 b2 b3
    have HB := Lib.hid (And.intro b1 (And.intro b2 (And.intro b3 hN)))
    clear b1 b2 b3 hN hok
    have KB : Hid (∀ (W : World), Ints W p2 n A → Ints W s2 n B → Calls Try.prog 16 #[.slice p2 n q2, .slice s2 n t2] W (MadeTwo xs ys n W)) := fun W h1 h2 => by
      have := iMidSide_any A B p2 s2 n q2 n t2 W h1 h2 (by omega) (by omega)
      rw [HB.out.2.1, HB.out.2.2.1, HB.out.2.2.2] at this; exact this
    go_wp2_with fail
    refine (KB.out _ H_a.out H_b.out).mono ?_
    rintro e w6 ⟨v6, u6, rfl, ht6⟩
    obtain ⟨p6, q6, rfl, _, hnp6, hx6, _⟩ := ht6.o1.reads
    obtain ⟨s6, t6, rfl, _, hns6, hy6, _⟩ := ht6.o2.reads
    have hg6 := ht6.g
    have HNp6 := Lib.hid hnp6
    have HNs6 := Lib.hid hns6
    have H_x := Lib.hid (H_x.out.grown hg6)
    have H_y := Lib.hid (H_y.out.grown hg6)
    have H_a := Lib.hid (H_a.out.grown hg6)
    have H_b := Lib.hid (H_b.out.grown hg6)
    have H_c := Lib.hid (H_c.out.grown hg6)
    have H_d := Lib.hid (H_d.out.grown hg6)
    have HG := Lib.hid (grown_trans HG.out hg6)
    clear hg6
    have H_f := Lib.hid hx6
    have H_g := Lib.hid hy6
    clear hx6 hy6 ht6 hnp6 hns6
    go_wp2_with fail
    refine (equalInts_any xs xs p6 a1 n q6 l1 c1 true _ H_f.out H_x.out (by omega) (by simp)).mono ?_
    rintro e w7 ⟨rfl, hg7⟩
    have H_x := Lib.hid (H_x.out.grown hg7)
    have H_y := Lib.hid (H_y.out.grown hg7)
    have H_a := Lib.hid (H_a.out.grown hg7)
    have H_b := Lib.hid (H_b.out.grown hg7)
    have H_c := Lib.hid (H_c.out.grown hg7)
    have H_d := Lib.hid (H_d.out.grown hg7)
    have H_f := Lib.hid (H_f.out.grown hg7)
    have H_g := Lib.hid (H_g.out.grown hg7)
    have HG := Lib.hid (grown_trans HG.out hg7)
    clear hg7
    go_wp2_with fail
    refine (equalInts_any ys ys s6 a2 n t6 l2 c2 true _ H_g.out H_y.out (by omega) (by simp)).mono ?_
    rintro e w8 ⟨rfl, hg8⟩
    have H_x := Lib.hid (H_x.out.grown hg8)
    have H_y := Lib.hid (H_y.out.grown hg8)
    have H_a := Lib.hid (H_a.out.grown hg8)
    have H_b := Lib.hid (H_b.out.grown hg8)
    have H_c := Lib.hid (H_c.out.grown hg8)
    have H_d := Lib.hid (H_d.out.grown hg8)
    have H_f := Lib.hid (H_f.out.grown hg8)
    have H_g := Lib.hid (H_g.out.grown hg8)
    have HG := Lib.hid (grown_trans HG.out hg8)
    clear hg8
    go_wp2
    go_ret
    exact ⟨rfl, HG.out⟩

end Go.Proofs.Ytbjkclbgocpbkaa
