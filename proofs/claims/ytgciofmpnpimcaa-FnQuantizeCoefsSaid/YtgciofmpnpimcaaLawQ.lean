/-
  The walks of the laws on quantized coefficients: each returns true and writes nothing that was there. For every code.
-/
import Derived.Test.YtgciofmpnpimcaaExQuant
import Derived.Test.YtgciofmpnpimcaaDrawQ
import Derived.Test.YtgciofmpnpimcaaSum
import Derived.IntWalk
namespace Go.Proofs.Ytgciofmpnpimcaa
open Go.RowKit

theorem qRes_pre {xs : List Int} {den sh : Int} (h : qRes xs den sh = true) : xs.length ≤ 8 ∧ allB xs (-99999) 99999 = true ∧ 1 ≤ den ∧ den ≤ 99999 ∧ 0 ≤ sh ∧ sh ≤ 14 ∧ vLin (qAll den sh.toNat xs).2 sh = true := by
  unfold qRes qPre at h
  simp only [Bool.and_eq_true, decide_eq_true_eq] at h
  obtain ⟨⟨⟨⟨h1, h2⟩, h3⟩, h4⟩, h5⟩ := h
  have h3 : 1 ≤ den ∧ den ≤ 99999 := by simpa [inB] using h3
  have h4 : 0 ≤ sh ∧ sh ≤ 14 := by simpa [inB] using h4
  exact ⟨h1, h2, h3.1, h3.2, h4.1, h4.2, h5⟩
theorem vLin_all {xs : List Int} {sh : Int} (h : vLin xs sh = true) : allB xs (-4095) 4095 = true := by
  unfold vLin at h
  simp only [Bool.and_eq_true] at h
  exact h.1.2

set_option maxRecDepth 100000 in
set_option maxHeartbeats 4000000 in
theorem FnQuantizeCoefs_walk (ao : Option Addr) (len cap : Nat) (w : World) (hb : BytesAt w ao len) (hlc : len ≤ cap) (hmax : len ≤ 9223372036854775807) :
    Calls Try.prog 3 #[.slice ao len cap] w (Holds w) := by
  by_cases hlen : 1048576 < len
  · clear hb
    go_enter Try.func3, Try.ntmps3
    go_wp2
    go_ret
    exact ⟨rfl, grown_refl _ _⟩
  have hd := drawQuant_any ao len cap w hb hlc hmax
  have hm : decide (1048576 < (len : Int)) = false := by simp; omega
  clear hb hlc hmax hlen
  go_enter Try.func3, Try.ntmps3
  go_wp2_with fail
  refine hd.mono ?_
  rintro e w1 ⟨a1, l1, c1, xs, den, sh, rfl, hl1, _, hn1, hx1, hg1⟩
  have HX := Lib.hid hx1
  have HN := Lib.hid hn1
  have HG1 := Lib.hid hg1
  clear hd hn1 hx1 hg1
  obtain ⟨v, hv⟩ : ∃ v, qRes xs den sh = v := ⟨_, rfl⟩
  obtain ⟨ys, hys⟩ : ∃ ys, (if v then (qAll den sh.toNat xs).2 else []) = ys := ⟨_, rfl⟩
  obtain ⟨n, hn⟩ : ∃ n, (if v then l1 else 0) = n := ⟨_, rfl⟩
  obtain ⟨c, hc⟩ : ∃ c, (if v then sh else 0) = c := ⟨_, rfl⟩
  have HY : Hid ((if v then (qAll den sh.toNat xs).2 else []) = ys ∧ (if v then l1 else 0) = n ∧ (if v then sh else 0) = c) := ⟨hys, hn, hc⟩
  have HV := Lib.hid hv
  have hn10 : n ≤ 10 := by rw [← hn]; split <;> omega
  clear hys hn hc hv
  go_wp2_with fail
  refine (iQuant_any xs den sh a1 l1 c1 _ HX.out (by omega) v HV.out ys n c HY).mono ?_
  rintro e w2 ⟨v2, rfl, ho2, hg2⟩
  obtain ⟨a2, c2, rfl, _, _, hx2, _⟩ := ho2.reads
  have HM := Lib.hid (((Mem.start w1).grown hg2).block (.cells #[.slice a2 n c2, .int .i64 c] 27))
  have HX2 := Lib.hid (hx2.grown (grown_alloc w2 (.cells #[.slice a2 n c2, .int .i64 c] 27) none))
  have HXa := Lib.hid (HX.out.grown HM.out.g)
  clear ho2 hg2 hx2
  go_wp2_with fail
  refine (sQuant_any xs den sh a1 l1 c1 _ HXa.out (by omega) v HV.out ys n c HY).mono ?_
  rintro e w3 ⟨v3, rfl, ho3, hg3⟩
  obtain ⟨a3, c3, rfl, _, _, hx3, _⟩ := ho3.reads
  have HM := Lib.hid ((HM.out.grown hg3).block (.cells #[.slice a3 n c3, .int .i64 c] 27))
  have hgg := grown_trans hg3 (grown_alloc w3 (.cells #[.slice a3 n c3, .int .i64 c] 27) none)
  have HX3 := Lib.hid (hx3.grown (grown_alloc w3 (.cells #[.slice a3 n c3, .int .i64 c] 27) none))
  have HX2b := Lib.hid (HX2.out.grown hgg)
  clear ho3 hg3 hx3 hgg HXa HX2
  have p0 := (two_cells (HM.out.get (b := w2.heap.size) (o := .cells #[.slice a2 n c2, .int .i64 c] 27) (by simp))).1
  have p1 := (two_cells (HM.out.get (b := w2.heap.size) (o := .cells #[.slice a2 n c2, .int .i64 c] 27) (by simp))).2
  have q0 := (two_cells (HM.out.get (b := w3.heap.size) (o := .cells #[.slice a3 n c3, .int .i64 c] 27) (by simp))).1
  have q1 := (two_cells (HM.out.get (b := w3.heap.size) (o := .cells #[.slice a3 n c3, .int .i64 c] 27) (by simp))).2
  go_wp2_with fail
  refine (equalLinear_same ys a2 a3 n c2 c3 c _ HX2b.out HX3.out (by omega)).mono ?_
  rintro e w4 ⟨rfl, hg4⟩
  have HM4 := Lib.hid (HM.out.grown hg4)
  have HX2 := Lib.hid (HX2b.out.grown hg4)
  have HX3b := Lib.hid (HX3.out.grown hg4)
  clear p0 p1 q0 q1 hg4 HM HX2b HX3
  have p0 := (two_cells (HM4.out.get (b := w2.heap.size) (o := .cells #[.slice a2 n c2, .int .i64 c] 27) (by simp))).1
  have p1 := (two_cells (HM4.out.get (b := w2.heap.size) (o := .cells #[.slice a2 n c2, .int .i64 c] 27) (by simp))).2
  have q0 := (two_cells (HM4.out.get (b := w3.heap.size) (o := .cells #[.slice a3 n c3, .int .i64 c] 27) (by simp))).1
  have q1 := (two_cells (HM4.out.get (b := w3.heap.size) (o := .cells #[.slice a3 n c3, .int .i64 c] 27) (by simp))).2
  cases v with
  | false =>
    go_wp2_with fail
    refine (equalLinear_same ys a2 a3 n c2 c3 c _ HX2.out HX3b.out (by omega)).mono ?_
    rintro e w5 ⟨rfl, hg5⟩
    have HM5 := Lib.hid (HM4.out.grown hg5)
    clear hg5
    go_wp2
    go_ret
    exact ⟨rfl, grown_trans HG1.out HM5.out.g⟩
  | true =>
    obtain ⟨hy1, hy2, hy3⟩ := HY.out
    simp only [if_true] at hy1 hy2 hy3
    subst hy2; subst hy3
    obtain ⟨b1, b2, b3, b4, b5, b6, b7⟩ := qRes_pre HV.out
    obtain ⟨s, hs⟩ : ∃ s : Nat, sh.toNat = s := ⟨_, rfl⟩
    obtain rfl : sh = (s : Int) := by omega
    have hb2 : allB xs (-100000) 100000 = true := allB_mono b2 (by omega) (by omega)
    have hb7 : allB ys (-100000) 100000 = true := by rw [← hy1]; exact allB_mono (vLin_all b7) (by omega) (by omega)
    obtain ⟨X, hX⟩ : ∃ X, xs.sum = X := ⟨_, rfl⟩
    obtain ⟨Y, hY⟩ : ∃ Y, ys.sum = Y := ⟨_, rfl⟩
    have hXr := sum_range (by omega) xs hb2
    have hYr := sum_range (by omega) ys hb7
    rw [hX, HX.out.1] at hXr
    rw [hY, HX2.out.1] at hYr
    have hX0 : -1000000 ≤ X := by omega
    have hX1 : X ≤ 1000000 := by omega
    have hs14 : s ≤ 14 := by omega
    have hp := pow_le s hs14
    have hXp := mul_range hX0 hX1 (show (0 : Int) ≤ 2 ^ s by omega) hp.2 (by omega)
    have hXp0 := hXp.1
    have hXp1 := hXp.2
    have hR := qSum (den := den) (s := s) xs
    have hRb := qRest_bound (s := s) b3 xs
    have hy1' : (qAll den s xs).2 = ys := by rw [← hs]; exact hy1
    rw [hy1', hX, hY] at hR
    rw [← hR] at hRb
    have hRb0 := hRb.1
    have hRb1 := hRb.2
    have hD0 : -20000000000 ≤ den * Y := by omega
    have hD1 : den * Y ≤ 20000000000 := by omega
    have HXs := Lib.hid (And.intro hb2 hX)
    have HYs := Lib.hid (And.intro hb7 hY)
    obtain ⟨U, hU⟩ : ∃ U, X * 2 ^ s = U := ⟨_, rfl⟩
    obtain ⟨V, hV⟩ : ∃ V, den * Y = V := ⟨_, rfl⟩
    rw [hU] at hXp0 hXp1 hRb0 hRb1
    rw [hV] at hD0 hD1 hRb0 hRb1
    have hd1 : decide (-den ≤ 2 * (U - V)) = true := by simp; omega
    have hd2 : decide (2 * (U - V) ≤ den) = true := by simp; omega
    have hw1 : IntKind.i64.wrap (X * 2 ^ s) = U := by rw [hU]; exact IntWalk.i64_in _ (by omega)
    have hw2 : IntKind.i64.wrap (den * Y) = V := by rw [hV]; exact IntWalk.i64_in _ (by omega)
    have hw3 : IntKind.i64.wrap (U - V) = U - V := IntWalk.i64_in _ (by omega)
    have hw4 : IntKind.i64.wrap (2 * (U - V)) = 2 * (U - V) := IntWalk.i64_in _ (by omega)
    have HX1b := Lib.hid (HX.out.grown HM4.out.g)
    clear hU hV hRb0 hRb1 hXp0 hXp1 hD0 hD1 hy1 hs b2 b6 b7 hb2 hb7 hX hY hXr hYr hp hXp hR hRb hy1' HY HV
    go_wp2_with fail
    have KX : Hid (∀ n : Nat, Calls Try.prog 13 #[.slice a1 l1 c1] (w4.drewN n) fun e w'' => e = .returned (.int .i64 X) ∧ ∃ m, w'' = w4.drewN m) := fun n => Calls.quiet_of_same <| (sum_any xs a1 l1 c1 X _ (HX1b.out.grown (grown_drewN _ _ _)) (by omega) HXs.out.1 HXs.out.2).mono (fun _ _ ⟨a, b⟩ => ⟨a, b.symm⟩)
    have KY : Hid (∀ n : Nat, Calls Try.prog 13 #[.slice a2 l1 c2] (w4.drewN n) fun e w'' => e = .returned (.int .i64 Y) ∧ ∃ m, w'' = w4.drewN m) := fun n => Calls.quiet_of_same <| (sum_any ys a2 l1 c2 Y _ (HX2.out.grown (grown_drewN _ _ _)) (by omega) HYs.out.1 HYs.out.2).mono (fun _ _ ⟨a, b⟩ => ⟨a, b.symm⟩)
    go_quiet ((first | (go_at_call 13; (with_reducible exact KX.out _)) | (go_at_call 13; (with_reducible exact KY.out _))))
    clear hw1 hw2 hw3 hw4
    have hz0 : -9223372036854775808 ≤ -den := by omega
    go_wp2
    go_ret
    exact ⟨rfl, grown_trans HG1.out (grown_trans HM4.out.g (grown_drewN _ _ _))⟩

/-! The second law. -/
theorem tmod_100 (x : Int) : -99 ≤ x.tmod 100 ∧ x.tmod 100 ≤ 99 := by
  have h1 := Int.lt_tmod_of_pos x (show (0 : Int) < 100 by decide)
  have h2 := Int.tmod_lt_of_pos x (show (0 : Int) < 100 by decide)
  omega
def smL (xs : List Int) : List Int := xs.map (fun x => x.tmod 100)
def exL (xs : List Int) (den : Int) : List Int := (smL xs).map (· * den)
theorem smL_take {xs : List Int} {k : Nat} {x : Int} (h : xs[k]? = some x) : smL (xs.take (k + 1)) = smL (xs.take k) ++ [x.tmod 100] := by
  unfold smL; rw [List.take_add_one, h]; simp
theorem exL_take {xs : List Int} {den : Int} {k : Nat} {x : Int} (h : xs[k]? = some x) : exL (xs.take (k + 1)) den = exL (xs.take k) den ++ [x.tmod 100 * den] := by
  unfold exL; rw [smL_take h]; simp
theorem qRes_exact {xs : List Int} {den : Int} (h1 : 1 ≤ xs.length) (h8 : xs.length ≤ 8) (hd : 1 ≤ den) (hd9 : den ≤ 900) : qRes (exL xs den) den 0 = true ∧ (qAll den (0 : Int).toNat (exL xs den)).2 = smL xs := by
  have e : qAll den (0 : Int).toNat (exL xs den) = (0, smL xs) := qExact hd (smL xs)
  refine ⟨?_, by rw [e]⟩
  unfold qRes
  rw [e]
  have a1 : allB (exL xs den) (-99999) 99999 = true := by
    unfold allB; rw [List.all_eq_true]
    intro y hy
    unfold exL smL at hy
    simp only [List.map_map, List.mem_map, Function.comp] at hy
    obtain ⟨x, _, rfl⟩ := hy
    have := tmod_100 x
    have := mul_range (A := 99) (B := 900) (by omega) (this.2) (show 0 ≤ den by omega) hd9 (by omega)
    simp only [inB, decide_eq_true_eq]; omega
  have a2 : allB (smL xs) (-4095) 4095 = true := by
    unfold allB; rw [List.all_eq_true]
    intro y hy
    unfold smL at hy
    simp only [List.mem_map] at hy
    obtain ⟨x, _, rfl⟩ := hy
    have := tmod_100 x
    simp only [inB, decide_eq_true_eq]; omega
  have l1 : (exL xs den).length = xs.length := by simp [exL, smL]
  have l2 : (smL xs).length = xs.length := by simp [smL]
  unfold qPre vLin
  rw [a1, a2, l1, l2, inB_true hd (by omega), show inB 0 0 14 = true by decide, show decide (xs.length ≤ 8) = true by simpa using h8, show decide (1 ≤ xs.length ∧ xs.length ≤ 8) = true by simp; omega]
  rfl

/-- Two lists that the call owns, in rows of their own. -/
structure TwoL (w0 : World) (base g h : Nat) (n c d : Nat) (xs ys : List Int) (w : World) : Prop where
  a : Owns w base (.slice (some ⟨g, 0, none⟩) n c) n xs
  b : Owns w base (.slice (some ⟨h, 0, none⟩) n d) n ys
  ne : g ≠ h
  g0 : w0.grownBy w none
  lo : w0.heap.size ≤ base
theorem Owns.lt {w : World} {base g n c : Nat} {xs : List Int} (h : Owns w base (.slice (some ⟨g, 0, none⟩) n c) n xs) : base ≤ g ∧ g < w.heap.size := by
  obtain ⟨ao, cap, hv, _, _, _, hb⟩ := h.reads
  injection hv with h1 _ _; subst h1
  exact hb _ rfl

set_option maxRecDepth 100000 in
set_option maxHeartbeats 4000000 in
theorem FnQuantizeExact_walk (ao : Option Addr) (len cap : Nat) (w : World) (hb : BytesAt w ao len) (hlc : len ≤ cap) (hmax : len ≤ 9223372036854775807) :
    Calls Try.prog 4 #[.slice ao len cap] w (Holds w) := by
  by_cases hlen : 1048576 < len
  · clear hb
    go_enter Try.func4, Try.ntmps4
    go_wp2
    go_ret
    exact ⟨rfl, grown_refl _ _⟩
  have hd := drawQuant_any ao len cap w hb hlc hmax
  have hm : decide (1048576 < (len : Int)) = false := by simp; omega
  clear hb hlc hmax hlen
  go_enter Try.func4, Try.ntmps4
  go_wp2_with fail
  refine hd.mono ?_
  rintro e w1 ⟨a1, l1, c1, xs, den, sh, rfl, hl1, _, hn1, hx1, hg1⟩
  have HX := Lib.hid hx1
  have HN := Lib.hid hn1
  have HG1 := Lib.hid hg1
  clear hd hn1 hx1 hg1
  obtain ⟨v, hv⟩ : ∃ v, qRes xs den sh = v := ⟨_, rfl⟩
  obtain ⟨ys, hys⟩ : ∃ ys, (if v then (qAll den sh.toNat xs).2 else []) = ys := ⟨_, rfl⟩
  obtain ⟨n, hn⟩ : ∃ n, (if v then l1 else 0) = n := ⟨_, rfl⟩
  obtain ⟨c, hc⟩ : ∃ c, (if v then sh else 0) = c := ⟨_, rfl⟩
  have HY : Hid ((if v then (qAll den sh.toNat xs).2 else []) = ys ∧ (if v then l1 else 0) = n ∧ (if v then sh else 0) = c) := ⟨hys, hn, hc⟩
  have HV := Lib.hid hv
  have hn10 : n ≤ 10 := by rw [← hn]; split <;> omega
  clear hys hn hc hv
  go_wp2_with fail
  refine (iQuant_any xs den sh a1 l1 c1 _ HX.out (by omega) v HV.out ys n c HY).mono ?_
  rintro e w2 ⟨v2, rfl, ho2, hg2⟩
  obtain ⟨a2, c2, rfl, _, _, hx2, _⟩ := ho2.reads
  have HM := Lib.hid (((Mem.start w1).grown hg2).block (.cells #[.slice a2 n c2, .int .i64 c] 27))
  have HX2 := Lib.hid (hx2.grown (grown_alloc w2 (.cells #[.slice a2 n c2, .int .i64 c] 27) none))
  have HXa := Lib.hid (HX.out.grown HM.out.g)
  clear ho2 hg2 hx2
  go_wp2_with fail
  refine (sQuant_any xs den sh a1 l1 c1 _ HXa.out (by omega) v HV.out ys n c HY).mono ?_
  rintro e w3 ⟨v3, rfl, ho3, hg3⟩
  obtain ⟨a3, c3, rfl, _, _, hx3, _⟩ := ho3.reads
  have HM := Lib.hid ((HM.out.grown hg3).block (.cells #[.slice a3 n c3, .int .i64 c] 27))
  have hgg := grown_trans hg3 (grown_alloc w3 (.cells #[.slice a3 n c3, .int .i64 c] 27) none)
  have HX3 := Lib.hid (hx3.grown (grown_alloc w3 (.cells #[.slice a3 n c3, .int .i64 c] 27) none))
  have HX2b := Lib.hid (HX2.out.grown hgg)
  clear ho3 hg3 hx3 hgg HXa HX2
  have p0 := (two_cells (HM.out.get (b := w2.heap.size) (o := .cells #[.slice a2 n c2, .int .i64 c] 27) (by simp))).1
  have p1 := (two_cells (HM.out.get (b := w2.heap.size) (o := .cells #[.slice a2 n c2, .int .i64 c] 27) (by simp))).2
  have q0 := (two_cells (HM.out.get (b := w3.heap.size) (o := .cells #[.slice a3 n c3, .int .i64 c] 27) (by simp))).1
  have q1 := (two_cells (HM.out.get (b := w3.heap.size) (o := .cells #[.slice a3 n c3, .int .i64 c] 27) (by simp))).2
  go_wp2_with fail
  refine (equalLinear_same ys a2 a3 n c2 c3 c _ HX2b.out HX3.out (by omega)).mono ?_
  rintro e w4 ⟨rfl, hg4⟩
  have HM4 := Lib.hid (HM.out.grown hg4)
  have HX2 := Lib.hid (HX2b.out.grown hg4)
  have HX3b := Lib.hid (HX3.out.grown hg4)
  clear p0 p1 q0 q1 hg4 HM HX2b HX3
  have p0 := (two_cells (HM4.out.get (b := w2.heap.size) (o := .cells #[.slice a2 n c2, .int .i64 c] 27) (by simp))).1
  have p1 := (two_cells (HM4.out.get (b := w2.heap.size) (o := .cells #[.slice a2 n c2, .int .i64 c] 27) (by simp))).2
  have q0 := (two_cells (HM4.out.get (b := w3.heap.size) (o := .cells #[.slice a3 n c3, .int .i64 c] 27) (by simp))).1
  have q1 := (two_cells (HM4.out.get (b := w3.heap.size) (o := .cells #[.slice a3 n c3, .int .i64 c] 27) (by simp))).2
  by_cases hd9 : v = false ∨ 900 < den
  · have hd9' : (!v) = true ∨ v = true ∧ decide (900 < den) = true := by cases v <;> simp_all
    cases v with
    | false =>
      go_wp2_with fail
      refine (equalLinear_same ys a2 a3 n c2 c3 c _ HX2.out HX3b.out (by omega)).mono ?_
      rintro e w5 ⟨rfl, hg5⟩
      have HM5 := Lib.hid (HM4.out.grown hg5)
      clear hg5
      go_wp2
      go_ret
      exact ⟨rfl, grown_trans HG1.out HM5.out.g⟩
    | true =>
      have hd : decide (900 < den) = true := by simpa using hd9'
      clear hd9 hd9'
      go_wp2_with fail
      refine (equalLinear_same ys a2 a3 n c2 c3 c _ HX2.out HX3b.out (by omega)).mono ?_
      rintro e w5 ⟨rfl, hg5⟩
      have HM5 := Lib.hid (HM4.out.grown hg5)
      clear hg5
      go_wp2
      go_ret
      exact ⟨rfl, grown_trans HG1.out HM5.out.g⟩
  · have hv1 : v = true := by cases v <;> simp_all
    have hd900 : den ≤ 900 := by simp [hv1] at hd9; omega
    subst hv1
    have hdd : decide (900 < den) = false := by simp; omega
    clear hd9
    obtain ⟨hy1, hy2, hy3⟩ := HY.out
    simp only [if_true] at hy1 hy2 hy3
    subst hy2; subst hy3
    obtain ⟨b1, b2, b3, b4, b5, b6, b7⟩ := qRes_pre HV.out
    have hlen1 : 1 ≤ xs.length := by
      unfold vLin at b7
      simp only [Bool.and_eq_true, decide_eq_true_eq, qLen] at b7
      exact b7.1.1.1
    have HE := Lib.hid (qRes_exact hlen1 b1 b3 hd900)
    have hx10 := HX.out.1
    have HX1b := Lib.hid (HX.out.grown HM4.out.g)
    have HG4 := Lib.hid (grown_trans HG1.out HM4.out.g)
    clear hy1 b1 b2 b4 b5 b6 b7 HY HV HX HX2 HX3b HM4 p0 p1 q0 q1
    have HW : Hid (TwoL w4 w4.heap.size w4.heap.size (w4.heap.size + 1) 0 0 0 (exL (xs.take 0) den) (smL (xs.take 0)) ((w4.alloc (.cells #[] 3)).alloc (.cells #[] 3))) := by
      refine ⟨(owns_empty w4).grown (grown_alloc _ _ _), ?_, by omega, grown_trans (grown_alloc _ _ _) (grown_alloc _ _ _), Nat.le_refl _⟩
      have := owns_empty (w4.alloc (.cells #[] 3))
      have h2 : (w4.alloc (.cells #[] 3)).heap.size = w4.heap.size + 1 := by simp
      rw [h2] at this
      exact this.base_le (by omega)
    go_wp2
    go_loopw [10, 11, 12] (fun ev sv iv wr => ∃ (k g h c d : Nat), k ≤ l1 ∧ iv = .int .i64 k ∧ ev = .slice (some ⟨g, 0, none⟩) k c ∧ sv = .slice (some ⟨h, 0, none⟩) k d ∧ Hid (TwoL w4 w4.heap.size g h k c d (exL (xs.take k) den) (smL (xs.take k)) wr)) (fun _ _ iv _ => l1 - (intOf iv).toNat)
    case atStart => exact ⟨0, w4.heap.size, w4.heap.size + 1, 0, 0, Nat.zero_le _, rfl, rfl, by simp, HW⟩
    case round =>
      obtain ⟨k, g, h, c, d, hk, rfl, rfl, rfl, HR⟩ := hrel
      by_cases hlt : k < l1
      · obtain ⟨x, hxk⟩ : ∃ x, xs[k]? = some x := ⟨_, List.getElem?_eq_getElem (by rw [hx10]; exact hlt)⟩
        obtain ⟨b, off, hab, hc⟩ := HX1b.out.2.resolve_left (by intro e; subst e; simp at hxk)
        subst hab
        have hcx : wr.cell? ⟨b, off + k, none⟩ = some (.int .i64 x) := HR.out.g0.cell (hc k x hxk) (by simp)
        have hbl := block_lt_of_cell (hc k x hxk)
        have HT1 := Lib.hid (smL_take hxk)
        have HT2 := Lib.hid (exL_take (den := den) hxk)
        have ht := tmod_100 x
        have ht0 := ht.1
        have ht1 := ht.2
        have hm0 := mul_range (A := 99) (B := 900) ht0 ht1 (show 0 ≤ den by omega) hd900 (by omega)
        have hm1 := hm0.1
        have hm2 := hm0.2
        clear hc hxk ht hm0
        have hgl := HR.out.a.lt
        have hhl := HR.out.b.lt
        go_wp2_with (at_builtin; refine append_strong rfl _ _ rfl w4.heap.size h d k (smL (xs.take k)) rfl (HR.out.b.grown (grown_alloc _ _ _)) ⟨wr.heap.size, 0, none⟩ 1 1 [x.tmod 100] rfl (ints_one _ _ _) ?a1 ?a2 ?_)
        case a1 => omega
        case a2 => have := HR.out.g0.size; simp; omega
        intro h' d' w5 ho5 hg5 hh'
        have HN : Hid (Owns w5 w4.heap.size (.slice (some ⟨g, 0, none⟩) k c) k (exL (xs.take k) den) ∧ Owns w5 w4.heap.size (.slice (some ⟨h', 0, none⟩) (k + 1) d') (k + 1) (smL (xs.take (k + 1))) ∧ g ≠ h' ∧ w4.grownBy w5 none) := by
          refine ⟨(HR.out.a.grown (grown_alloc _ _ _)).kept hg5 (Or.inr (by have := HR.out.ne; simp [Value.ownBlock]; omega)), by rw [HT1.out]; exact ho5, ?_, grown_row (grown_trans HR.out.g0 (grown_alloc _ _ _)) hg5 (fun z e => by injection e with e; omega)⟩
          have := HR.out.ne

          omega
        have hcx5 : w5.cell? ⟨b, off + k, none⟩ = some (.int .i64 x) := hg5.cell ((World.cell?_of_block (heap_alloc_old _ _ (block_lt_of_cell hcx))).trans hcx) (by simp; omega)
        have hsz5 := HN.out.2.2.2.size
        clear ho5 hg5 hh' hgl hhl HR hcx
        have hgl := (HN.out.1).lt
        have hhl := (HN.out.2.1).lt
        go_wp2_with (at_builtin; refine append_strong rfl _ _ rfl w4.heap.size g c k (exL (xs.take k) den) rfl (HN.out.1.grown (grown_alloc _ _ _)) ⟨w5.heap.size, 0, none⟩ 1 1 [x.tmod 100 * den] rfl (ints_one _ _ _) ?b1 ?b2 ?_)
        case b1 => omega
        case b2 => simp; omega
        intro g' c' w6 ho6 hg6 hgg'
        have HN2 : Hid (TwoL w4 w4.heap.size g' h' (k + 1) c' d' (exL (xs.take (k + 1)) den) (smL (xs.take (k + 1))) w6) := by
          refine ⟨by rw [HT2.out]; exact ho6, (HN.out.2.1.grown (grown_alloc _ _ _)).kept hg6 (Or.inr (by have := HN.out.2.2.1; simp [Value.ownBlock]; omega)), ?_, grown_row (grown_trans HN.out.2.2.2 (grown_alloc _ _ _)) hg6 (fun z e => by injection e with e; omega), Nat.le_refl _⟩
          have := HN.out.2.2.1

          omega
        clear ho6 hg6 hgg' hgl hhl HN hcx5
        go_wp2
        go_roundw
        case rel => exact ⟨k + 1, g', h', c', d', by omega, by go_num, rfl, rfl, HN2⟩
        case measure => simp [intOf]; omega
      · obtain rfl : k = l1 := by omega
        have HL : Hid (xs.take k = xs) := List.take_of_length_le (by omega)
        have hex := HR.out.a.toInts
        have hle := HR.out.a.len_eq
        have hsm := HR.out.b.toInts
        rw [HL.out] at hex hsm hle
        have HE1 := Lib.hid hex
        have HS1 := Lib.hid hsm
        clear hex hsm hle
        go_wp2_with fail
        refine (iQuant_any (exL xs den) den 0 _ k c _ HE1.out (by omega) true HE.out.1 (smL xs) k 0 ⟨by rw [if_pos rfl]; exact HE.out.2, rfl, rfl⟩).mono ?_
        rintro e w5 ⟨v5, rfl, ho5, hg5⟩
        obtain ⟨a5, c5, rfl, _, _, hx5, _⟩ := ho5.reads
        have HG5 := Lib.hid (grown_trans HG4.out (grown_trans (grown_trans HR.out.g0 hg5) (grown_alloc w5 (.cells #[.slice a5 k c5, .int .i64 0] 27) none)))
        have HX5 := Lib.hid (hx5.grown (grown_alloc w5 (.cells #[.slice a5 k c5, .int .i64 0] 27) none))
        have HS5 := Lib.hid ((HS1.out.grown hg5).grown (grown_alloc w5 (.cells #[.slice a5 k c5, .int .i64 0] 27) none))
        clear ho5 hg5 hx5 HR
        go_wp2_with fail
        refine (equalInts_any (smL xs) (smL xs) a5 _ k c5 k d true _ HX5.out HS5.out (by omega) (by simp)).mono ?_
        rintro e w6 ⟨rfl, hg6⟩
        have HG6 := Lib.hid (grown_trans HG5.out hg6)
        clear hg6
        go_wp2
        go_ret
        exact ⟨rfl, HG6.out⟩

end Go.Proofs.Ytgciofmpnpimcaa
