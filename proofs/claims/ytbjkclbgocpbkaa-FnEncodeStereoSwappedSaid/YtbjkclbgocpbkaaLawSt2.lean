/-
  The walks of the laws on exchanged channels: each returns true and writes nothing that was there. For every code.
-/
import Derived.Test.YtbjkclbgocpbkaaLawSt
import Derived.Test.YtbjkclbgocpbkaaNeg
import Derived.Deep.OwnRows
import Derived.IntWalk
namespace Go.Proofs.Ytbjkclbgocpbkaa
open Go.RowKit


theorem e_range (m : Int) (xs ys : List Int) : allB (eB m xs ys) (-65537) 65537 = true ∧ allB (eA m xs ys) (-65537) 65537 = true := by
  unfold eA eB
  cases h : eOk m xs ys with
  | false => exact ⟨rfl, rfl⟩
  | true =>
    obtain ⟨a1, a2, a3, a4⟩ := vP_of (vP_st (m := m.toNat) (eOk_of h).2.2)
    exact ⟨allB_mono a4 (by omega) (by omega), allB_mono a3 (by omega) (by omega)⟩
theorem zip_neg {f g : Int → Int → Int} {xs ys : List Int} (hf : ∀ a b, f b a = -g a b) : List.zipWith f ys xs = negL (List.zipWith g xs ys) := by
  unfold negL
  induction xs generalizing ys with
  | nil => cases ys <;> simp
  | cons x xs ih =>
    cases ys with
    | nil => simp
    | cons y ys => simp [hf, ih]
theorem zip_self {f g : Int → Int → Int} {xs : List Int} (hf : ∀ a, f a a = a) (hg : ∀ a, g a a = 0) : List.zipWith f xs xs = xs ∧ List.zipWith g xs xs = List.replicate xs.length 0 := by
  induction xs with
  | nil => simp
  | cons x xs ih => exact ⟨by rw [List.zipWith_cons_cons, hf, ih.1], by rw [List.zipWith_cons_cons, hg, ih.2, List.length_cons, List.replicate_succ]⟩
theorem e_of {m : Int} {xs ys : List Int} (h : eOk m xs ys = true) : eA m xs ys = List.zipWith (stA m.toNat) xs ys ∧ eB m xs ys = List.zipWith (stB m.toNat) xs ys ∧ eN m xs ys = xs.length := by
  unfold eA eB eN; rw [h]; exact ⟨rfl, rfl, rfl⟩
theorem mid_swap {xs ys : List Int} (h : eOk 3 xs ys = true) : eA 3 ys xs = eA 3 xs ys ∧ eB 3 ys xs = negL (eB 3 xs ys) ∧ eN 3 ys xs = eN 3 xs ys ∧ eA 3 xs xs = xs ∧ eB 3 xs xs = List.replicate xs.length 0 ∧ eN 3 xs xs = xs.length := by
  have h2 := (eOk_swap h (m' := 3) (by omega)).1
  have hl := (vP_of (eOk_of h).2.2).1
  have h3 : eOk 3 xs xs = true := by
    obtain ⟨a1, a2, a3, a4⟩ := vP_of (eOk_of h).2.2
    unfold eOk; rw [vP_intro rfl a2 a3 a3]; rfl
  rw [(e_of h).1, (e_of h).2.1, (e_of h).2.2, (e_of h2).1, (e_of h2).2.1, (e_of h2).2.2, (e_of h3).1, (e_of h3).2.1, (e_of h3).2.2]
  have e := zip_self (f := stA 3) (g := stB 3) (xs := xs) (fun a => by simp [stA]; omega) (fun a => by simp [stB])
  refine ⟨zip_swap (fun a b => by simp [stA]; omega), zip_neg (fun a b => by simp [stB]; omega), hl.symm, e.1, e.2, rfl⟩
theorem enc_swap {m : Int} {xs ys : List Int} (h : eOk m xs ys = true) : eOk 1 xs ys = true ∧ eOk 2 ys xs = true ∧ eA 1 xs ys = xs ∧ eB 1 xs ys = negL (eA 2 ys xs) ∧ eB 2 ys xs = xs ∧ eN 1 xs ys = xs.length ∧ eN 2 ys xs = xs.length := by
  have h1 := (eOk_swap h (m' := 1) (by omega)).2
  have h2 := (eOk_swap h (m' := 2) (by omega)).1
  have hl := (vP_of (eOk_of h).2.2).1
  refine ⟨h1, h2, ?_⟩
  rw [(e_of h1).1, (e_of h1).2.1, (e_of h1).2.2, (e_of h2).1, (e_of h2).2.1, (e_of h2).2.2]
  exact ⟨zip_first hl, zip_neg (fun a b => by simp [stA, stB]; omega), zip_second hl.symm, rfl, hl.symm⟩

set_option maxRecDepth 100000 in
set_option maxHeartbeats 4000000 in
theorem FnMidSideSwapped_walk (ao : Option Addr) (len cap : Nat) (w : World) (hb : BytesAt w ao len) (hlc : len ≤ cap) (hmax : len ≤ 9223372036854775807) :
    Calls Try.prog 4 #[.slice ao len cap] w (Holds w) := by
  by_cases hlen : 1048576 < len
  · clear hb
    go_enter Try.func4, Try.ntmps4
    go_wp2
    go_ret
    exact ⟨rfl, grown_refl _ _⟩
  have hd := drawMid_any ao len cap w hb hlc hmax
  have hm : decide (1048576 < (len : Int)) = false := by simp; omega
  clear hb hlc hmax hlen
  go_enter Try.func4, Try.ntmps4
  go_wp2_with fail
  refine hd.mono ?_
  rintro e w1 ⟨a1, l1, c1, xs, a2, l2, c2, ys, rfl, hl1, hl2, hn1, hn2, hx1, hx2, hg1⟩
  have HN1 := Lib.hid hn1
  have HN2 := Lib.hid hn2
  have H_x := Lib.hid hx1
  have H_y := Lib.hid hx2
  have HG := Lib.hid hg1
  clear hd hn1 hn2 hx1 hx2 hg1
  obtain ⟨A, hA⟩ : ∃ A, eA 3 xs ys = A := ⟨_, rfl⟩
  obtain ⟨B, hB⟩ : ∃ B, eB 3 xs ys = B := ⟨_, rfl⟩
  obtain ⟨n, hn⟩ : ∃ n, eN 3 xs ys = n := ⟨_, rfl⟩
  obtain ⟨ok, hok⟩ : ∃ ok, eOk 3 xs ys = ok := ⟨_, rfl⟩
  have hn64 : n ≤ 64 := by rw [← hn]; exact eN_le _ _ _
  have KI : Hid (∀ (W : World), Ints W a1 l1 xs → Ints W a2 l2 ys → Calls Try.prog 16 #[.slice a1 l1 c1, .slice a2 l2 c2] W (MadeTwo A B n W)) := fun W h1 h2 => by
    have := iMidSide_any xs ys a1 a2 l1 c1 l2 c2 W h1 h2 (by omega) (by omega)
    rw [hA, hB, hn] at this; exact this
  have KS : Hid (∀ (W : World), Ints W a1 l1 xs → Ints W a2 l2 ys → Calls Try.prog 17 #[.slice a1 l1 c1, .slice a2 l2 c2] W (MadeTwo A B n W)) := fun W h1 h2 => by
    have := sMidSide_any xs ys a1 a2 l1 c1 l2 c2 W h1 h2 (by omega) (by omega)
    rw [hA, hB, hn] at this; exact this
  have HE := Lib.hid (And.intro hA (And.intro hB (And.intro hn hok)))
  clear hA hB hn hok
  go_wp2_with fail
  refine (KI.out _ H_x.out H_y.out).mono ?_
  rintro e w2 ⟨v2, u2, rfl, ht2⟩
  obtain ⟨p2, q2, rfl, _, hnp2, hx2, _⟩ := ht2.o1.reads
  obtain ⟨s2, t2, rfl, _, hns2, hy2, _⟩ := ht2.o2.reads
  have hg2 := ht2.g
  have HNp2 := Lib.hid hnp2
  have HNs2 := Lib.hid hns2
  have H_x := Lib.hid (H_x.out.grown hg2)
  have H_y := Lib.hid (H_y.out.grown hg2)
  have HG := Lib.hid (grown_trans HG.out hg2)
  clear hg2
  have H_a := Lib.hid hx2
  have H_b := Lib.hid hy2
  clear hx2 hy2 ht2 hnp2 hns2
  go_wp2_with fail
  refine (KS.out _ H_x.out H_y.out).mono ?_
  rintro e w3 ⟨v3, u3, rfl, ht3⟩
  obtain ⟨p3, q3, rfl, _, hnp3, hx3, _⟩ := ht3.o1.reads
  obtain ⟨s3, t3, rfl, _, hns3, hy3, _⟩ := ht3.o2.reads
  have hg3 := ht3.g
  have HNp3 := Lib.hid hnp3
  have HNs3 := Lib.hid hns3
  have H_x := Lib.hid (H_x.out.grown hg3)
  have H_y := Lib.hid (H_y.out.grown hg3)
  have H_a := Lib.hid (H_a.out.grown hg3)
  have H_b := Lib.hid (H_b.out.grown hg3)
  have HG := Lib.hid (grown_trans HG.out hg3)
  clear hg3
  have H_c := Lib.hid hx3
  have H_d := Lib.hid hy3
  clear hx3 hy3 ht3 hnp3 hns3
  go_wp2_with fail
  refine (equalInts_any A A p2 p3 n q2 n q3 true _ H_a.out H_c.out (by omega) (by simp)).mono ?_
  rintro e w4 ⟨rfl, hg4⟩
  have H_x := Lib.hid (H_x.out.grown hg4)
  have H_y := Lib.hid (H_y.out.grown hg4)
  have H_a := Lib.hid (H_a.out.grown hg4)
  have H_b := Lib.hid (H_b.out.grown hg4)
  have H_c := Lib.hid (H_c.out.grown hg4)
  have H_d := Lib.hid (H_d.out.grown hg4)
  have HG := Lib.hid (grown_trans HG.out hg4)
  clear hg4
  go_wp2_with fail
  refine (equalInts_any B B s2 s3 n t2 n t3 true _ H_b.out H_d.out (by omega) (by simp)).mono ?_
  rintro e w5 ⟨rfl, hg5⟩
  have H_x := Lib.hid (H_x.out.grown hg5)
  have H_y := Lib.hid (H_y.out.grown hg5)
  have H_a := Lib.hid (H_a.out.grown hg5)
  have H_b := Lib.hid (H_b.out.grown hg5)
  have H_c := Lib.hid (H_c.out.grown hg5)
  have H_d := Lib.hid (H_d.out.grown hg5)
  have HG := Lib.hid (grown_trans HG.out hg5)
  clear hg5
  by_cases hz : n = 0
  · subst hz
    go_wp2_with fail
    refine (equalInts_any A A p2 p3 0 q2 0 q3 true _ H_a.out H_c.out (by omega) (by simp)).mono ?_
    rintro e w6 ⟨rfl, hg6⟩
    have H_x := Lib.hid (H_x.out.grown hg6)
    have H_y := Lib.hid (H_y.out.grown hg6)
    have H_a := Lib.hid (H_a.out.grown hg6)
    have H_b := Lib.hid (H_b.out.grown hg6)
    have H_c := Lib.hid (H_c.out.grown hg6)
    have H_d := Lib.hid (H_d.out.grown hg6)
    have HG := Lib.hid (grown_trans HG.out hg6)
    clear hg6
    go_wp2_with fail
    refine (equalInts_any B B s2 s3 0 t2 0 t3 true _ H_b.out H_d.out (by omega) (by simp)).mono ?_
    rintro e w7 ⟨rfl, hg7⟩
    have H_x := Lib.hid (H_x.out.grown hg7)
    have H_y := Lib.hid (H_y.out.grown hg7)
    have H_a := Lib.hid (H_a.out.grown hg7)
    have H_b := Lib.hid (H_b.out.grown hg7)
    have H_c := Lib.hid (H_c.out.grown hg7)
    have H_d := Lib.hid (H_d.out.grown hg7)
    have HG := Lib.hid (grown_trans HG.out hg7)
    clear hg7
    go_wp2
    go_ret
    exact ⟨rfl, HG.out⟩
  · have hz' : ((n : Int) == 0) = false := by simp; omega
    have hok : eOk 3 xs ys = true := by
      cases h : eOk 3 xs ys with
      | true => rfl
      | false => exfalso; apply hz; have := HE.out.2.2.1; rw [← this]; unfold eN; rw [h]; rfl
    clear hz
    obtain ⟨b1, b2, b3, b4, b5, b6⟩ := mid_swap hok
    have hl := H_x.out.1
    have hBr := (e_range 3 xs ys).1
    rw [HE.out.1] at b1
    rw [HE.out.2.1] at b2 hBr
    rw [HE.out.2.2.1] at b3
    rw [hl] at b5 b6
    have HB := Lib.hid (And.intro b1 (And.intro b2 (And.intro b3 (And.intro b4 (And.intro b5 (And.intro b6 hBr))))))
    have hmk := run_make_row' (P := Try.prog) 23 3 (.int .i64 0) 8 Try.underlying23 info_int rfl .i64 .i64 l1 (by omega) (by omega)
    clear b1 b2 b3 b4 b5 b6 hok hBr hl
    have K1 : Hid (∀ (W : World), Ints W a2 l2 ys → Ints W a1 l1 xs → Calls Try.prog 16 #[.slice a2 l2 c2, .slice a1 l1 c1] W (MadeTwo A (negL B) n W)) := fun W h1 h2 => by
      have := iMidSide_any ys xs a2 a1 l2 c2 l1 c1 W h1 h2 (by omega) (by omega)
      rw [HB.out.1, HB.out.2.1, HB.out.2.2.1] at this; exact this
    have K2 : Hid (∀ (W : World), Ints W a1 l1 xs → Calls Try.prog 16 #[.slice a1 l1 c1, .slice a1 l1 c1] W (MadeTwo xs (List.replicate l1 0) l1 W)) := fun W h1 => by
      have := iMidSide_any xs xs a1 a1 l1 c1 l1 c1 W h1 h1 (by omega) (by omega)
      rw [HB.out.2.2.2.1, HB.out.2.2.2.2.1, HB.out.2.2.2.2.2.1] at this; exact this
    go_wp2_with fail
    refine (K1.out _ H_y.out H_x.out).mono ?_
    rintro e w6 ⟨v6, u6, rfl, ht6⟩
    obtain ⟨p6, q6, rfl, _, hnp6, hx6, _⟩ := ht6.o1.reads
    obtain ⟨s6, t6, rfl, _, hns6, hy6, _⟩ := ht6.o2.reads
    have hg6 := ht6.g
    have HNp6 := Lib.hid hnp6
    have HNs6 := Lib.hid hns6
    have H_x := Lib.hid (H_x.out.grown hg6)
    have H_y := Lib.hid (H_y.out.grown hg6)
    have H_a := Lib.hid (H_a.out.grown hg6)
    have H_b := Lib.hid (H_b.out.grown hg6)
    have H_c := Lib.hid (H_c.out.grown hg6)
    have H_d := Lib.hid (H_d.out.grown hg6)
    have HG := Lib.hid (grown_trans HG.out hg6)
    clear hg6
    have H_f := Lib.hid hx6
    have H_g := Lib.hid hy6
    clear hx6 hy6 ht6 hnp6 hns6
    go_wp2_with fail
    refine (K2.out _ H_x.out).mono ?_
    rintro e w7 ⟨v7, u7, rfl, ht7⟩
    obtain ⟨p7, q7, rfl, _, hnp7, hx7, _⟩ := ht7.o1.reads
    obtain ⟨s7, t7, rfl, _, hns7, hy7, _⟩ := ht7.o2.reads
    have hg7 := ht7.g
    have HNp7 := Lib.hid hnp7
    have HNs7 := Lib.hid hns7
    have H_x := Lib.hid (H_x.out.grown hg7)
    have H_y := Lib.hid (H_y.out.grown hg7)
    have H_a := Lib.hid (H_a.out.grown hg7)
    have H_b := Lib.hid (H_b.out.grown hg7)
    have H_c := Lib.hid (H_c.out.grown hg7)
    have H_d := Lib.hid (H_d.out.grown hg7)
    have H_f := Lib.hid (H_f.out.grown hg7)
    have H_g := Lib.hid (H_g.out.grown hg7)
    have HG := Lib.hid (grown_trans HG.out hg7)
    clear hg7
    have H_h := Lib.hid hx7
    have H_i := Lib.hid hy7
    clear hx7 hy7 ht7 hnp7 hns7
    go_wp2_with fail
    refine (equalInts_any A A p6 p2 n q6 n q2 true _ H_f.out H_a.out (by omega) (by simp)).mono ?_
    rintro e w8 ⟨rfl, hg8⟩
    have H_x := Lib.hid (H_x.out.grown hg8)
    have H_y := Lib.hid (H_y.out.grown hg8)
    have H_a := Lib.hid (H_a.out.grown hg8)
    have H_b := Lib.hid (H_b.out.grown hg8)
    have H_c := Lib.hid (H_c.out.grown hg8)
    have H_d := Lib.hid (H_d.out.grown hg8)
    have H_f := Lib.hid (H_f.out.grown hg8)
    have H_g := Lib.hid (H_g.out.grown hg8)
    have H_h := Lib.hid (H_h.out.grown hg8)
    have H_i := Lib.hid (H_i.out.grown hg8)
    have HG := Lib.hid (grown_trans HG.out hg8)
    clear hg8
    go_wp2_with fail
    refine (negated_any B s2 n t2 _ H_b.out (by omega) HB.out.2.2.2.2.2.2).mono ?_
    rintro e w9 ⟨v9, rfl, ho9, hg9⟩
    obtain ⟨p9, q9, rfl, _, _, hx9, _⟩ := ho9.reads
    have H_x := Lib.hid (H_x.out.grown hg9)
    have H_y := Lib.hid (H_y.out.grown hg9)
    have H_a := Lib.hid (H_a.out.grown hg9)
    have H_b := Lib.hid (H_b.out.grown hg9)
    have H_c := Lib.hid (H_c.out.grown hg9)
    have H_d := Lib.hid (H_d.out.grown hg9)
    have H_f := Lib.hid (H_f.out.grown hg9)
    have H_g := Lib.hid (H_g.out.grown hg9)
    have H_h := Lib.hid (H_h.out.grown hg9)
    have H_i := Lib.hid (H_i.out.grown hg9)
    have HG := Lib.hid (grown_trans HG.out hg9)
    clear hg9
    have H_j := Lib.hid hx9
    clear hx9 ho9
    go_wp2_with fail
    refine (equalInts_any (negL B) (negL B) s6 p9 n t6 n q9 true _ H_g.out H_j.out (by omega) (by simp)).mono ?_
    rintro e w10 ⟨rfl, hg10⟩
    have H_x := Lib.hid (H_x.out.grown hg10)
    have H_y := Lib.hid (H_y.out.grown hg10)
    have H_a := Lib.hid (H_a.out.grown hg10)
    have H_b := Lib.hid (H_b.out.grown hg10)
    have H_c := Lib.hid (H_c.out.grown hg10)
    have H_d := Lib.hid (H_d.out.grown hg10)
    have H_f := Lib.hid (H_f.out.grown hg10)
    have H_g := Lib.hid (H_g.out.grown hg10)
    have H_h := Lib.hid (H_h.out.grown hg10)
    have H_i := Lib.hid (H_i.out.grown hg10)
    have H_j := Lib.hid (H_j.out.grown hg10)
    have HG := Lib.hid (grown_trans HG.out hg10)
    clear hg10
    go_wp2_with fail
    refine (equalInts_any xs xs p7 a1 l1 q7 l1 c1 true _ H_h.out H_x.out (by omega) (by simp)).mono ?_
    rintro e w11 ⟨rfl, hg11⟩
    have H_x := Lib.hid (H_x.out.grown hg11)
    have H_y := Lib.hid (H_y.out.grown hg11)
    have H_a := Lib.hid (H_a.out.grown hg11)
    have H_b := Lib.hid (H_b.out.grown hg11)
    have H_c := Lib.hid (H_c.out.grown hg11)
    have H_d := Lib.hid (H_d.out.grown hg11)
    have H_f := Lib.hid (H_f.out.grown hg11)
    have H_g := Lib.hid (H_g.out.grown hg11)
    have H_h := Lib.hid (H_h.out.grown hg11)
    have H_i := Lib.hid (H_i.out.grown hg11)
    have H_j := Lib.hid (H_j.out.grown hg11)
    have HG := Lib.hid (grown_trans HG.out hg11)
    clear hg11
    go_wp2_with fail
    refine (equalInts_any (List.replicate l1 0) (List.replicate l1 0) s7 _ l1 t7 l1 l1 true _ (H_i.out.grown (grown_alloc _ _ _)) (zeros_own _ l1 (by omega)).toInts (by omega) (by simp)).mono ?_
    rintro e wz ⟨rfl, hgz⟩
    have HGz := Lib.hid (grown_trans (grown_trans HG.out (grown_alloc _ _ _)) hgz)
    clear hgz hmk
    go_wp2
    go_ret
    exact ⟨rfl, HGz.out⟩

set_option maxRecDepth 100000 in
set_option maxHeartbeats 4000000 in
theorem FnEncodeStereoSwapped_walk (ao : Option Addr) (len cap : Nat) (w : World) (hb : BytesAt w ao len) (hlc : len ≤ cap) (hmax : len ≤ 9223372036854775807) :
    Calls Try.prog 9 #[.slice ao len cap] w (Holds w) := by
  by_cases hlen : 1048576 < len
  · clear hb
    go_enter Try.func9, Try.ntmps9
    go_wp2
    go_ret
    exact ⟨rfl, grown_refl _ _⟩
  have hd := drawEnc_any ao len cap w hb hlc hmax
  have hm : decide (1048576 < (len : Int)) = false := by simp; omega
  clear hb hlc hmax hlen
  go_enter Try.func9, Try.ntmps9
  go_wp2_with fail
  refine hd.mono ?_
  rintro e w1 ⟨m, a1, l1, c1, xs, a2, l2, c2, ys, rfl, hl1, hl2, hn1, hn2, hx1, hx2, hg1⟩
  have HN1 := Lib.hid hn1
  have HN2 := Lib.hid hn2
  have H_x := Lib.hid hx1
  have H_y := Lib.hid hx2
  have HG := Lib.hid hg1
  clear hd hn1 hn2 hx1 hx2 hg1
  obtain ⟨A, hA⟩ : ∃ A, eA m xs ys = A := ⟨_, rfl⟩
  obtain ⟨B, hB⟩ : ∃ B, eB m xs ys = B := ⟨_, rfl⟩
  obtain ⟨n, hn⟩ : ∃ n, eN m xs ys = n := ⟨_, rfl⟩
  obtain ⟨ok, hok⟩ : ∃ ok, eOk m xs ys = ok := ⟨_, rfl⟩
  have hn64 : n ≤ 64 := by rw [← hn]; exact eN_le _ _ _
  have KI : Hid (∀ (W : World), Ints W a1 l1 xs → Ints W a2 l2 ys → Calls Try.prog 24 #[.int .i64 m, .slice a1 l1 c1, .slice a2 l2 c2] W (MadeTwoB A B n ok W)) := fun W h1 h2 => by
    have := iEnc_any m xs ys a1 a2 l1 c1 l2 c2 W h1 h2 (by omega) (by omega)
    rw [hA, hB, hn, hok] at this; exact this
  have KS : Hid (∀ (W : World), Ints W a1 l1 xs → Ints W a2 l2 ys → Calls Try.prog 25 #[.int .i64 m, .slice a1 l1 c1, .slice a2 l2 c2] W (MadeTwoB A B n ok W)) := fun W h1 h2 => by
    have := sEnc_any m xs ys a1 a2 l1 c1 l2 c2 W h1 h2 HN1.out HN2.out (by omega) (by omega)
    rw [hA, hB, hn, hok] at this; exact this
  have HE := Lib.hid (And.intro hA (And.intro hB (And.intro hn hok)))
  clear hA hB hn hok
  cases ok with
  | false =>
    go_wp2_with fail
    refine (KI.out _ H_x.out H_y.out).mono ?_
    rintro e w2 ⟨v2, u2, rfl, ht2⟩
    obtain ⟨p2, q2, rfl, _, hnp2, hx2, _⟩ := ht2.o1.reads
    obtain ⟨s2, t2, rfl, _, hns2, hy2, _⟩ := ht2.o2.reads
    have hg2 := ht2.g
    have HNp2 := Lib.hid hnp2
    have HNs2 := Lib.hid hns2
    have H_x := Lib.hid (H_x.out.grown hg2)
    have H_y := Lib.hid (H_y.out.grown hg2)
    have HG := Lib.hid (grown_trans HG.out hg2)
    clear hg2
    have H_a := Lib.hid hx2
    have H_b := Lib.hid hy2
    clear hx2 hy2 ht2 hnp2 hns2
    go_wp2_with fail
    refine (KS.out _ H_x.out H_y.out).mono ?_
    rintro e w3 ⟨v3, u3, rfl, ht3⟩
    obtain ⟨p3, q3, rfl, _, hnp3, hx3, _⟩ := ht3.o1.reads
    obtain ⟨s3, t3, rfl, _, hns3, hy3, _⟩ := ht3.o2.reads
    have hg3 := ht3.g
    have HNp3 := Lib.hid hnp3
    have HNs3 := Lib.hid hns3
    have H_x := Lib.hid (H_x.out.grown hg3)
    have H_y := Lib.hid (H_y.out.grown hg3)
    have H_a := Lib.hid (H_a.out.grown hg3)
    have H_b := Lib.hid (H_b.out.grown hg3)
    have HG := Lib.hid (grown_trans HG.out hg3)
    clear hg3
    have H_c := Lib.hid hx3
    have H_d := Lib.hid hy3
    clear hx3 hy3 ht3 hnp3 hns3
    go_wp2_with fail
    refine (equalInts_any A A p2 p3 n q2 n q3 true _ H_a.out H_c.out (by omega) (by simp)).mono ?_
    rintro e w4 ⟨rfl, hg4⟩
    have H_x := Lib.hid (H_x.out.grown hg4)
    have H_y := Lib.hid (H_y.out.grown hg4)
    have H_a := Lib.hid (H_a.out.grown hg4)
    have H_b := Lib.hid (H_b.out.grown hg4)
    have H_c := Lib.hid (H_c.out.grown hg4)
    have H_d := Lib.hid (H_d.out.grown hg4)
    have HG := Lib.hid (grown_trans HG.out hg4)
    clear hg4
    go_wp2_with fail
    refine (equalInts_any B B s2 s3 n t2 n t3 true _ H_b.out H_d.out (by omega) (by simp)).mono ?_
    rintro e w5 ⟨rfl, hg5⟩
    have H_x := Lib.hid (H_x.out.grown hg5)
    have H_y := Lib.hid (H_y.out.grown hg5)
    have H_a := Lib.hid (H_a.out.grown hg5)
    have H_b := Lib.hid (H_b.out.grown hg5)
    have H_c := Lib.hid (H_c.out.grown hg5)
    have H_d := Lib.hid (H_d.out.grown hg5)
    have HG := Lib.hid (grown_trans HG.out hg5)
    clear hg5
    go_wp2_with fail
    refine (equalInts_any A A p2 p3 n q2 n q3 true _ H_a.out H_c.out (by omega) (by simp)).mono ?_
    rintro e w6 ⟨rfl, hg6⟩
    have H_x := Lib.hid (H_x.out.grown hg6)
    have H_y := Lib.hid (H_y.out.grown hg6)
    have H_a := Lib.hid (H_a.out.grown hg6)
    have H_b := Lib.hid (H_b.out.grown hg6)
    have H_c := Lib.hid (H_c.out.grown hg6)
    have H_d := Lib.hid (H_d.out.grown hg6)
    have HG := Lib.hid (grown_trans HG.out hg6)
    clear hg6
    go_wp2_with fail
    refine (equalInts_any B B s2 s3 n t2 n t3 true _ H_b.out H_d.out (by omega) (by simp)).mono ?_
    rintro e w7 ⟨rfl, hg7⟩
    have H_x := Lib.hid (H_x.out.grown hg7)
    have H_y := Lib.hid (H_y.out.grown hg7)
    have H_a := Lib.hid (H_a.out.grown hg7)
    have H_b := Lib.hid (H_b.out.grown hg7)
    have H_c := Lib.hid (H_c.out.grown hg7)
    have H_d := Lib.hid (H_d.out.grown hg7)
    have HG := Lib.hid (grown_trans HG.out hg7)
    clear hg7
    go_wp2
    go_ret
    exact ⟨rfl, HG.out⟩
  | true =>
    go_wp2_with fail
    refine (KI.out _ H_x.out H_y.out).mono ?_
    rintro e w2 ⟨v2, u2, rfl, ht2⟩
    obtain ⟨p2, q2, rfl, _, hnp2, hx2, _⟩ := ht2.o1.reads
    obtain ⟨s2, t2, rfl, _, hns2, hy2, _⟩ := ht2.o2.reads
    have hg2 := ht2.g
    have HNp2 := Lib.hid hnp2
    have HNs2 := Lib.hid hns2
    have H_x := Lib.hid (H_x.out.grown hg2)
    have H_y := Lib.hid (H_y.out.grown hg2)
    have HG := Lib.hid (grown_trans HG.out hg2)
    clear hg2
    have H_a := Lib.hid hx2
    have H_b := Lib.hid hy2
    clear hx2 hy2 ht2 hnp2 hns2
    go_wp2_with fail
    refine (KS.out _ H_x.out H_y.out).mono ?_
    rintro e w3 ⟨v3, u3, rfl, ht3⟩
    obtain ⟨p3, q3, rfl, _, hnp3, hx3, _⟩ := ht3.o1.reads
    obtain ⟨s3, t3, rfl, _, hns3, hy3, _⟩ := ht3.o2.reads
    have hg3 := ht3.g
    have HNp3 := Lib.hid hnp3
    have HNs3 := Lib.hid hns3
    have H_x := Lib.hid (H_x.out.grown hg3)
    have H_y := Lib.hid (H_y.out.grown hg3)
    have H_a := Lib.hid (H_a.out.grown hg3)
    have H_b := Lib.hid (H_b.out.grown hg3)
    have HG := Lib.hid (grown_trans HG.out hg3)
    clear hg3
    have H_c := Lib.hid hx3
    have H_d := Lib.hid hy3
    clear hx3 hy3 ht3 hnp3 hns3
    go_wp2_with fail
    refine (equalInts_any A A p2 p3 n q2 n q3 true _ H_a.out H_c.out (by omega) (by simp)).mono ?_
    rintro e w4 ⟨rfl, hg4⟩
    have H_x := Lib.hid (H_x.out.grown hg4)
    have H_y := Lib.hid (H_y.out.grown hg4)
    have H_a := Lib.hid (H_a.out.grown hg4)
    have H_b := Lib.hid (H_b.out.grown hg4)
    have H_c := Lib.hid (H_c.out.grown hg4)
    have H_d := Lib.hid (H_d.out.grown hg4)
    have HG := Lib.hid (grown_trans HG.out hg4)
    clear hg4
    go_wp2_with fail
    refine (equalInts_any B B s2 s3 n t2 n t3 true _ H_b.out H_d.out (by omega) (by simp)).mono ?_
    rintro e w5 ⟨rfl, hg5⟩
    have H_x := Lib.hid (H_x.out.grown hg5)
    have H_y := Lib.hid (H_y.out.grown hg5)
    have H_a := Lib.hid (H_a.out.grown hg5)
    have H_b := Lib.hid (H_b.out.grown hg5)
    have H_c := Lib.hid (H_c.out.grown hg5)
    have H_d := Lib.hid (H_d.out.grown hg5)
    have HG := Lib.hid (grown_trans HG.out hg5)
    clear hg5
    have hok := HE.out.2.2.2
    obtain ⟨_, _, b3, b4, b5, b6, b7⟩ := enc_swap hok
    have b1 := (enc_swap hok).1
    have b2 := (enc_swap hok).2.1
    have hl := H_x.out.1
    have hBr := (e_range 2 ys xs).2
    rw [hl] at b6 b7
    obtain ⟨T, hT⟩ : ∃ T, eA 2 ys xs = T := ⟨_, rfl⟩
    rw [hT] at b4 hBr
    have HB := Lib.hid (And.intro b1 (And.intro b2 (And.intro b3 (And.intro b4 (And.intro b5 (And.intro b6 (And.intro b7 (And.intro hT hBr))))))))
    clear b1 b2 b3 b4 b5 b6 b7 hok hBr hl hT
    have K1 : Hid (∀ (W : World), Ints W a1 l1 xs → Ints W a2 l2 ys → Calls Try.prog 24 #[.int .i64 1, .slice a1 l1 c1, .slice a2 l2 c2] W (MadeTwoB xs (negL T) l1 true W)) := fun W h1 h2 => by
      have := iEnc_any 1 xs ys a1 a2 l1 c1 l2 c2 W h1 h2 (by omega) (by omega)
      rw [HB.out.2.2.1, HB.out.2.2.2.1, HB.out.2.2.2.2.2.1, HB.out.1] at this; exact this
    have K2 : Hid (∀ (W : World), Ints W a2 l2 ys → Ints W a1 l1 xs → Calls Try.prog 24 #[.int .i64 2, .slice a2 l2 c2, .slice a1 l1 c1] W (MadeTwoB T xs l1 true W)) := fun W h1 h2 => by
      have := iEnc_any 2 ys xs a2 a1 l2 c2 l1 c1 W h1 h2 (by omega) (by omega)
      rw [HB.out.2.2.2.2.1, HB.out.2.2.2.2.2.2.1, HB.out.2.1, HB.out.2.2.2.2.2.2.2.1] at this; exact this
    go_wp2_with fail
    refine (K1.out _ H_x.out H_y.out).mono ?_
    rintro e w6 ⟨v6, u6, rfl, ht6⟩
    obtain ⟨p6, q6, rfl, _, hnp6, hx6, _⟩ := ht6.o1.reads
    obtain ⟨s6, t6, rfl, _, hns6, hy6, _⟩ := ht6.o2.reads
    have hg6 := ht6.g
    have HNp6 := Lib.hid hnp6
    have HNs6 := Lib.hid hns6
    have H_x := Lib.hid (H_x.out.grown hg6)
    have H_y := Lib.hid (H_y.out.grown hg6)
    have H_a := Lib.hid (H_a.out.grown hg6)
    have H_b := Lib.hid (H_b.out.grown hg6)
    have H_c := Lib.hid (H_c.out.grown hg6)
    have H_d := Lib.hid (H_d.out.grown hg6)
    have HG := Lib.hid (grown_trans HG.out hg6)
    clear hg6
    have H_f := Lib.hid hx6
    have H_g := Lib.hid hy6
    clear hx6 hy6 ht6 hnp6 hns6
    go_wp2_with fail
    refine (K2.out _ H_y.out H_x.out).mono ?_
    rintro e w7 ⟨v7, u7, rfl, ht7⟩
    obtain ⟨p7, q7, rfl, _, hnp7, hx7, _⟩ := ht7.o1.reads
    obtain ⟨s7, t7, rfl, _, hns7, hy7, _⟩ := ht7.o2.reads
    have hg7 := ht7.g
    have HNp7 := Lib.hid hnp7
    have HNs7 := Lib.hid hns7
    have H_x := Lib.hid (H_x.out.grown hg7)
    have H_y := Lib.hid (H_y.out.grown hg7)
    have H_a := Lib.hid (H_a.out.grown hg7)
    have H_b := Lib.hid (H_b.out.grown hg7)
    have H_c := Lib.hid (H_c.out.grown hg7)
    have H_d := Lib.hid (H_d.out.grown hg7)
    have H_f := Lib.hid (H_f.out.grown hg7)
    have H_g := Lib.hid (H_g.out.grown hg7)
    have HG := Lib.hid (grown_trans HG.out hg7)
    clear hg7
    have H_h := Lib.hid hx7
    have H_i := Lib.hid hy7
    clear hx7 hy7 ht7 hnp7 hns7
    go_wp2_with fail
    refine (equalInts_any xs xs p6 s7 l1 q6 l1 t7 true _ H_f.out H_i.out (by omega) (by simp)).mono ?_
    rintro e w8 ⟨rfl, hg8⟩
    have H_x := Lib.hid (H_x.out.grown hg8)
    have H_y := Lib.hid (H_y.out.grown hg8)
    have H_a := Lib.hid (H_a.out.grown hg8)
    have H_b := Lib.hid (H_b.out.grown hg8)
    have H_c := Lib.hid (H_c.out.grown hg8)
    have H_d := Lib.hid (H_d.out.grown hg8)
    have H_f := Lib.hid (H_f.out.grown hg8)
    have H_g := Lib.hid (H_g.out.grown hg8)
    have H_h := Lib.hid (H_h.out.grown hg8)
    have H_i := Lib.hid (H_i.out.grown hg8)
    have HG := Lib.hid (grown_trans HG.out hg8)
    clear hg8
    go_wp2_with fail
    refine (negated_any T p7 l1 q7 _ H_h.out (by omega) HB.out.2.2.2.2.2.2.2.2).mono ?_
    rintro e w9 ⟨v9, rfl, ho9, hg9⟩
    obtain ⟨p9, q9, rfl, _, _, hx9, _⟩ := ho9.reads
    have H_x := Lib.hid (H_x.out.grown hg9)
    have H_y := Lib.hid (H_y.out.grown hg9)
    have H_a := Lib.hid (H_a.out.grown hg9)
    have H_b := Lib.hid (H_b.out.grown hg9)
    have H_c := Lib.hid (H_c.out.grown hg9)
    have H_d := Lib.hid (H_d.out.grown hg9)
    have H_f := Lib.hid (H_f.out.grown hg9)
    have H_g := Lib.hid (H_g.out.grown hg9)
    have H_h := Lib.hid (H_h.out.grown hg9)
    have H_i := Lib.hid (H_i.out.grown hg9)
    have HG := Lib.hid (grown_trans HG.out hg9)
    clear hg9
    have H_j := Lib.hid hx9
    clear hx9 ho9
    go_wp2_with fail
    refine (equalInts_any (negL T) (negL T) s6 p9 l1 t6 l1 q9 true _ H_g.out H_j.out (by omega) (by simp)).mono ?_
    rintro e w10 ⟨rfl, hg10⟩
    have H_x := Lib.hid (H_x.out.grown hg10)
    have H_y := Lib.hid (H_y.out.grown hg10)
    have H_a := Lib.hid (H_a.out.grown hg10)
    have H_b := Lib.hid (H_b.out.grown hg10)
    have H_c := Lib.hid (H_c.out.grown hg10)
    have H_d := Lib.hid (H_d.out.grown hg10)
    have H_f := Lib.hid (H_f.out.grown hg10)
    have H_g := Lib.hid (H_g.out.grown hg10)
    have H_h := Lib.hid (H_h.out.grown hg10)
    have H_i := Lib.hid (H_i.out.grown hg10)
    have H_j := Lib.hid (H_j.out.grown hg10)
    have HG := Lib.hid (grown_trans HG.out hg10)
    clear hg10
    go_wp2
    go_ret
    exact ⟨rfl, HG.out⟩

end Go.Proofs.Ytbjkclbgocpbkaa
