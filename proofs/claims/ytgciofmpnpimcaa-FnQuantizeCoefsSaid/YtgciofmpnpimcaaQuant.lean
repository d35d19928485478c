/-
  Both quantizations of coefficients: the same predictor, or none. The lists are at most 4194304 numbers long.
-/
import Derived.Test.YtgciofmpnpimcaaILin
import Derived.Test.YtgciofmpnpimcaaMem
import Derived.Deep.LoopGhost
import Derived.StillTailTactics
namespace Go.Proofs.Ytgciofmpnpimcaa
open Go.RowKit

/-- A call gives back a new predictor, and whether there is one. -/
def MadeLin (xs : List Int) (len : Nat) (c : Int) (ok : Bool) (w : World) (e : Ending) (w' : World) : Prop :=
  ∃ v, e = .returned (.tuple #[.agg #[v, .int .i64 c], .bool ok]) ∧ Owns w' w.heap.size v len xs ∧ w.grownBy w' none

def qPre (xs : List Int) (den sh : Int) : Bool := decide (xs.length ≤ 8) && allB xs (-99999) 99999 && inB den 1 99999 && inB sh 0 14

theorem ints_one_at (w : World) (x : Int) (t : TypeId) (B : Nat) (h : w.heap.size = B) : Ints (w.alloc (.cells #[.int .i64 x] t)) (some ⟨B, 0, none⟩) 1 [x] := by
  subst h; exact ints_one w x t

/-- Inside the program's quantization: the result's cell and the coefficients so far. -/
structure RQ (w : World) (bv : Value) (n : Nat) (ys : List Int) (sh : Int) (wr : World) : Prop where
  res : wr.heap[w.heap.size]? = some (.cells #[.slice none 0 0, .int .i64 0] 27 (0, 0))
  now : wr.heap[w.heap.size + 3]? = some (.cells #[bv, .int .i64 sh] 27 (0, 0))
  own : Owns wr (w.heap.size + 4) bv n ys
  g : w.grownBy wr none

theorem rq_step {w wr w2 : World} {o : Obj} {bv v2 : Value} {n : Nat} {ys zs : List Int} {sh : Int} (h : RQ w bv n ys sh wr) (hb : ∀ g, bv.ownBlock = some g → w.heap.size + 4 ≤ g) (hg : (wr.alloc o).grownBy w2 bv.ownBlock) (ho : Owns w2 (w.heap.size + 4) v2 (n + 1) zs) :
    w2.cell? ⟨w.heap.size + 1 + 1 + 1, 0, none⟩ = some bv ∧ w2.frozen? ⟨w.heap.size + 1 + 1 + 1, 0, none⟩ = false ∧ RQ w v2 (n + 1) zs sh (w2.setCell ⟨w.heap.size + 1 + 1 + 1, 0, none⟩ v2) := by
  have hn0 := grown_heap (grown_alloc wr o none) h.now (by simp)
  have hr0 := grown_heap (grown_alloc wr o none) h.res (by simp)
  have hn := grown_heap hg hn0 (fun e => by have := hb _ e; omega)
  have hr := grown_heap hg hr0 (fun e => by have := hb _ e; omega)
  refine ⟨by rw [cell_of_row w2 (w.heap.size + 3) 0 _ _ _ hn]; rfl, frozen_of_row w2 (w.heap.size + 3) 0 _ _ hn, ?_, ?_, ?_, ?_⟩
  · exact grown_heap (grown_setCell w2 ⟨w.heap.size + 3, 0, none⟩ v2) hr (by simp)
  · have := heap_setCell_same w2 (w.heap.size + 3) 0 _ _ v2 hn
    exact this
  · exact Owns.set ho _ _ (fun e => by have := Owns.block ho _ e; simp at this; omega)
  · exact grown_set (grown_row (grown_trans h.g (grown_alloc _ _ _)) hg (fun g e => by have := hb g e; omega)) (by simp; omega)

set_option maxRecDepth 100000 in
set_option maxHeartbeats 2000000 in
theorem iQuant_loop (xs : List Int) (den sh : Int) (s : Nat) (ao : Option Addr) (len cap : Nat) (w : World) (hx : Ints w ao len xs) (hs : sh = (s : Int)) (hlen : len ≤ 8) (h1 : allB xs (-99999) 99999 = true) (h2 : inB den 1 99999 = true) (h3 : inB sh 0 14 = true) (v : Bool) (hv : vLin (qAll den s xs).2 sh = v) (ys : List Int) (n : Nat) (c : Int) (HY : Hid ((if v then (qAll den s xs).2 else []) = ys ∧ (if v then len else 0) = n ∧ (if v then sh else 0) = c)) :
    Calls Try.prog 10 #[.slice ao len cap, .int .i64 den, .int .i64 sh] w (MadeLin ys n c v w) := by
  have k1 := iAllIn_any xs (-99999) 99999 ao len cap (w.alloc (.cells #[.slice none 0 0, .int .i64 0] 27)) true (hx.grown (grown_alloc _ _ _)) (by omega) h1
  have k2 := iAllIn_any [den] 1 99999 (some ⟨w.heap.size + 1, 0, none⟩) 1 1 ((w.alloc (.cells #[.slice none 0 0, .int .i64 0] 27)).alloc (.cells #[.int .i64 den] 3)) true (ints_one_at _ _ _ _ (by simp)) (by omega) (by rw [allB_one, h2])
  have k3 := iAllIn_any [sh] 0 14 (some ⟨w.heap.size + 2, 0, none⟩) 1 1 (((w.alloc (.cells #[.slice none 0 0, .int .i64 0] 27)).alloc (.cells #[.int .i64 den] 3)).alloc (.cells #[.int .i64 sh] 3)) true (ints_one_at _ _ _ _ (by simp)) (by omega) (by rw [allB_one, h3])
  have d1 : decide (8 < (len : Int)) = false := by simp; omega
  have hden : 1 ≤ den ∧ den ≤ 99999 := by simpa [inB] using h2
  have hsh : s ≤ 14 := by have : 0 ≤ sh ∧ sh ≤ 14 := by simpa [inB] using h3
                          omega
  have HX := Lib.hid hx
  have HA := Lib.hid h1
  have HV := Lib.hid hv
  have hd1 := hden.1
  have hd2 := hden.2
  subst hs
  clear hx h1 h2 h3 hv hden
  go_enter Try.func10, Try.ntmps10
  go_wp2_with fail
  refine k1.mono ?_
  rintro e w' ⟨rfl, rfl⟩
  clear k1
  go_wp2_with fail
  refine k2.mono ?_
  rintro e w' ⟨rfl, rfl⟩
  clear k2
  go_wp2_with fail
  refine k3.mono ?_
  rintro e w' ⟨rfl, rfl⟩
  clear k3
  go_wp2
  have HW : Hid (RQ w (.slice none 0 0) 0 (qAll den s (xs.take 0)).2 (s : Int) ((((w.alloc (.cells #[.slice none 0 0, .int .i64 0] 27)).alloc (.cells #[.int .i64 den] 3)).alloc (.cells #[.int .i64 (s : Int)] 3)).alloc (.cells #[.slice none 0 0, .int .i64 (s : Int)] 27))) := by
    have hm := ((((Mem.start w).block (.cells #[.slice none 0 0, .int .i64 0] 27)).block (.cells #[.int .i64 den] 3)).block (.cells #[.int .i64 (s : Int)] 3)).block (.cells #[.slice none 0 0, .int .i64 (s : Int)] 27)
    exact ⟨hm.get (by simp), hm.get (by simp), World.ownsRow_nil _ _ _ _, hm.g⟩
  go_loopw [9, 39] (fun rv iv wr => ∃ (k : Nat) (r : Int) (bv : Value), k ≤ len ∧ iv = .int .i64 k ∧ rv = .int .i64 r ∧ Hid (r = (qAll den s (xs.take k)).1) ∧ Hid (RQ w bv k (qAll den s (xs.take k)).2 (s : Int) wr)) (fun _ iv _ => len - (intOf iv).toNat)
  case atStart => exact ⟨0, 0, _, Nat.zero_le _, rfl, rfl, rfl, HW⟩
  case round =>
    obtain ⟨k, r, bv, hk, rfl, rfl, hr, HR⟩ := hrel
    by_cases hlt : k < len
    · obtain ⟨x, hxk⟩ : ∃ x, xs[k]? = some x := ⟨_, List.getElem?_eq_getElem (by rw [HX.out.1]; exact hlt)⟩
      obtain ⟨b, off, rfl, hc⟩ := HX.out.2.resolve_left (by intro e; subst e; simp at hxk)
      have hcx : wr.cell? ⟨b, off + k, none⟩ = some (.int .i64 x) := HR.out.g.cell (hc k x hxk) (by simp)
      have hxr := allB_mem HA.out hxk
      have hx0 := hxr.1
      have hx1 := hxr.2
      have hrb := qRest_bound (s := s) hd1 (xs.take k)
      rw [← hr.out] at hrb
      have hr0 : -99999 ≤ r := by omega
      have hr1 : r ≤ 99999 := by omega
      have HQ := Lib.hid (qAll_take (den := den) (s := s) hxk)
      have hp := pow_le s hsh
      have hp0 := mul_range hx0 hx1 (show (0 : Int) ≤ 2 ^ s by omega) hp.2 (by omega)
      have hp1 := hp0.1
      have hp2 := hp0.2
      clear hc hxk hxr hrb hp hp0
      go_wp2_with fail
      refine (iRound_any (x * 2 ^ s + r) den _ (by omega) (by omega) (by omega) (by omega)).mono ?_
      rintro e w' ⟨rfl, rfl⟩
      have hN := qN_bound (s := s) hsh hr0 hr1 hx0 hx1
      have hN0 : -2000000000 ≤ x * 2 ^ s + r := hN.1
      have hN1 : x * 2 ^ s + r ≤ 2000000000 := hN.2
      have hD0 : -2000100000 ≤ den * ((2 * (x * 2 ^ s + r) + den) / (2 * den)) := (qD_range hd1 hN0 hN1 hd2).1
      have hD1 : den * ((2 * (x * 2 ^ s + r) + den) / (2 * den)) ≤ 2000100000 := (qD_range hd1 hN0 hN1 hd2).2
      have HQ2 : Hid (qAll den s (xs.take (k + 1)) = (x * 2 ^ s + r - den * ((2 * (x * 2 ^ s + r) + den) / (2 * den)), (qAll den s (xs.take k)).2 ++ [(2 * (x * 2 ^ s + r) + den) / (2 * den)])) := by
        have := HQ.out
        unfold qStep qC qN at this
        rw [← hr.out] at this
        exact this
      clear hN HQ
      generalize (2 * (x * 2 ^ s + r) + den) / (2 * den) = q at *
      obtain ⟨a1, c1, rfl, _, _, _, _⟩ := HR.out.own.reads
      have q0 : wr.cell? ⟨w.heap.size + 1 + 1 + 1, 0, none⟩ = some (.slice a1 k c1) := by rw [cell_of_row wr (w.heap.size + 3) 0 _ _ _ HR.out.now]; rfl
      have HO := Lib.hid HR.out.own
      go_wp2_with (at_builtin; refine append_ints rfl _ _ rfl (w.heap.size + 4) (.slice a1 k c1) k (qAll den s (xs.take k)).2 rfl (HO.out.grown (grown_alloc _ _ _)) (some ⟨wr.heap.size, 0, none⟩) 1 1 [q] rfl (ints_one _ _ _) (fun e => nomatch e) ?a1 ?a2 ?_)
      case a1 => omega
      case a2 => have := block_lt HR.out.now; simp; omega
      intro v2 w2 hown hgrow
      obtain ⟨a2, c2, rfl, _, _, _, _⟩ := hown.reads
      have HN := rq_step HR.out (fun g e => HR.out.own.block g e) hgrow hown
      rw [show (qAll den s (xs.take k)).2 ++ [q] = (qAll den s (xs.take (k + 1))).2 by rw [HQ2.out]] at HN
      obtain ⟨q1, f1, HN⟩ := HN
      have HN := Lib.hid HN
      have HQ3 : Hid (x * 2 ^ s + r - den * q = (qAll den s (xs.take (k + 1))).1) := by show _ = _; rw [HQ2.out]
      clear hown hgrow HO HR q0 HQ2
      go_wp2
      go_roundw
      case rel => exact ⟨k + 1, x * 2 ^ s + r - den * q, _, by omega, by go_num, rfl, HQ3, HN⟩
      case measure => simp [intOf]; omega
    · obtain rfl : k = len := by omega
      have HL : Hid (qAll den s (xs.take k) = qAll den s xs) := by show _ = _; rw [List.take_of_length_le (by rw [HX.out.1]; exact Nat.le_refl _)]
      obtain ⟨a1, c1, rfl, _, _, _, _⟩ := HR.out.own.reads
      have q0 : wr.cell? ⟨w.heap.size + 1 + 1 + 1, 0, none⟩ = some (.slice a1 k c1) := by rw [cell_of_row wr (w.heap.size + 3) 0 _ _ _ HR.out.now]; rfl
      have q1 : wr.cell? ⟨w.heap.size + 1 + 1 + 1, 1, none⟩ = some (.int .i64 (s : Int)) := by rw [cell_of_row wr (w.heap.size + 3) 1 _ _ _ HR.out.now]; rfl
      go_wp2_with fail
      refine (iValid_any _ _ a1 k c1 _ v (HR.out.own.toInts) (by omega) (by rw [HL.out]; exact HV.out)).mono ?_
      rintro e w2 ⟨rfl, hg2⟩
      have hres := grown_heap hg2 HR.out.res (by simp)
      have hnow := grown_heap hg2 HR.out.now (by simp)
      have q2 : w2.cell? ⟨w.heap.size + 1 + 1 + 1, 0, none⟩ = some (.slice a1 k c1) := by rw [cell_of_row w2 (w.heap.size + 3) 0 _ _ _ hnow]; rfl
      have q3 : w2.cell? ⟨w.heap.size + 1 + 1 + 1, 1, none⟩ = some (.int .i64 (s : Int)) := by rw [cell_of_row w2 (w.heap.size + 3) 1 _ _ _ hnow]; rfl
      obtain ⟨r0, r1, f0, f1, hsz, R⟩ := res_two hres (grown_trans HR.out.g hg2)
      cases v with
      | true =>
        have hy1 : (qAll den s xs).2 = ys := by simpa using HY.out.1
        have hy2 : k = n := by simpa using HY.out.2.1
        have hy3 : (s : Int) = c := by simpa using HY.out.2.2
        have R := Lib.hid (R (.slice a1 k c1) (.int .i64 (s : Int)) k ys (by have := (HR.out.own.grown hg2).base_le (base' := w.heap.size + 1) (by omega); rw [HL.out, hy1] at this; exact this))
        have HY' := Lib.hid (And.intro hy2 hy3)
        clear HY hy1 hy2 hy3 hg2 HR q0 q1 hres hnow hr HL HV
        go_wp2
        refine bodyPost_ret (v := .tuple #[.agg #[.slice a1 k c1, .int .i64 (s : Int)], .bool true]) (by simp [results, Try.results10, go_sem, r0, r1]) rfl ⟨.slice a1 k c1, by rw [HY'.out.2], ?_, R.out.2⟩
        rw [← HY'.out.1]; exact R.out.1
      | false =>
        have hy1 : [] = ys := by simpa using HY.out.1
        have hy2 : 0 = n := by simpa using HY.out.2.1
        have hy3 : (0 : Int) = c := by simpa using HY.out.2.2
        have R := Lib.hid (R (.slice none 0 0) (.int .i64 0) 0 [] (World.ownsRow_nil _ _ _ _))
        clear HY hg2 HR q0 q1 hres hnow hr HL HV
        subst hy1; subst hy2; subst hy3
        go_wp2
        exact bodyPost_ret (v := .tuple #[.agg #[.slice none 0 0, .int .i64 0], .bool false]) (by simp [results, Try.results10, go_sem, r0, r1]) rfl ⟨.slice none 0 0, rfl, R.out⟩

set_option maxRecDepth 100000 in
set_option maxHeartbeats 1000000 in
theorem iQuant_bad0 (xs : List Int) (den sh : Int) (ao : Option Addr) (len cap : Nat) (w : World) (hx : Ints w ao len xs) (hlen : 8 < len) (hmax : len ≤ 9223372036854775807)  :
    Calls Try.prog 10 #[.slice ao len cap, .int .i64 den, .int .i64 sh] w (MadeLin [] 0 0 false w) := by
  have d1 : decide (8 < (len : Int)) = true := by simp; omega
  clear hx 
  go_enter Try.func10, Try.ntmps10
  go_wp2
  exact bodyPost_ret (v := .tuple #[.agg #[.slice none 0 0, .int .i64 0], .bool false]) (by simp [results, Try.results10, go_sem]) rfl ⟨_, rfl, World.ownsRow_nil _ _ _ _, by repeat (first | exact grown_refl _ _ | refine grown_set ?_ (by simp) | refine grown_trans ?_ (grown_alloc _ _ _))⟩

set_option maxRecDepth 100000 in
set_option maxHeartbeats 1000000 in
theorem iQuant_bad1 (xs : List Int) (den sh : Int) (ao : Option Addr) (len cap : Nat) (w : World) (hx : Ints w ao len xs) (hlen : len ≤ 8) (h1 : allB xs (-99999) 99999 = false) :
    Calls Try.prog 10 #[.slice ao len cap, .int .i64 den, .int .i64 sh] w (MadeLin [] 0 0 false w) := by
  have k0 := iAllIn_any xs (-99999) 99999 ao len cap (w.alloc (.cells #[.slice none 0 0, .int .i64 0] 27)) false (hx.grown (grown_alloc _ _ _)) (by omega) h1
  have d1 : decide (8 < (len : Int)) = false := by simp; omega
  clear hx h1
  go_enter Try.func10, Try.ntmps10
  go_wp2_with fail
  refine k0.mono ?_
  rintro e w' ⟨rfl, rfl⟩
  clear k0
  go_wp2
  exact bodyPost_ret (v := .tuple #[.agg #[.slice none 0 0, .int .i64 0], .bool false]) (by simp [results, Try.results10, go_sem]) rfl ⟨_, rfl, World.ownsRow_nil _ _ _ _, by repeat (first | exact grown_refl _ _ | refine grown_set ?_ (by simp) | refine grown_trans ?_ (grown_alloc _ _ _))⟩

set_option maxRecDepth 100000 in
set_option maxHeartbeats 1000000 in
theorem iQuant_bad2 (xs : List Int) (den sh : Int) (ao : Option Addr) (len cap : Nat) (w : World) (hx : Ints w ao len xs) (hlen : len ≤ 8) (h1 : allB xs (-99999) 99999 = true) (h2 : inB den 1 99999 = false) :
    Calls Try.prog 10 #[.slice ao len cap, .int .i64 den, .int .i64 sh] w (MadeLin [] 0 0 false w) := by
  have k0 := iAllIn_any xs (-99999) 99999 ao len cap (w.alloc (.cells #[.slice none 0 0, .int .i64 0] 27)) true (hx.grown (grown_alloc _ _ _)) (by omega) h1
  have k1 := iAllIn_any [den] 1 99999 (some ⟨w.heap.size + 1, 0, none⟩) 1 1 ((w.alloc (.cells #[.slice none 0 0, .int .i64 0] 27)).alloc (.cells #[.int .i64 den] 3)) false (ints_one_at _ _ _ _ (by simp)) (by omega) (by rw [allB_one]; exact h2)
  have d1 : decide (8 < (len : Int)) = false := by simp; omega
  clear hx h1 h2
  go_enter Try.func10, Try.ntmps10
  go_wp2_with fail
  refine k0.mono ?_
  rintro e w' ⟨rfl, rfl⟩
  clear k0
  go_wp2_with fail
  refine k1.mono ?_
  rintro e w' ⟨rfl, rfl⟩
  clear k1
  go_wp2
  exact bodyPost_ret (v := .tuple #[.agg #[.slice none 0 0, .int .i64 0], .bool false]) (by simp [results, Try.results10, go_sem]) rfl ⟨_, rfl, World.ownsRow_nil _ _ _ _, by repeat (first | exact grown_refl _ _ | refine grown_set ?_ (by simp) | refine grown_trans ?_ (grown_alloc _ _ _))⟩

set_option maxRecDepth 100000 in
set_option maxHeartbeats 1000000 in
theorem iQuant_bad3 (xs : List Int) (den sh : Int) (ao : Option Addr) (len cap : Nat) (w : World) (hx : Ints w ao len xs) (hlen : len ≤ 8) (h1 : allB xs (-99999) 99999 = true) (h2 : inB den 1 99999 = true) (h3 : inB sh 0 14 = false) :
    Calls Try.prog 10 #[.slice ao len cap, .int .i64 den, .int .i64 sh] w (MadeLin [] 0 0 false w) := by
  have k0 := iAllIn_any xs (-99999) 99999 ao len cap (w.alloc (.cells #[.slice none 0 0, .int .i64 0] 27)) true (hx.grown (grown_alloc _ _ _)) (by omega) h1
  have k1 := iAllIn_any [den] 1 99999 (some ⟨w.heap.size + 1, 0, none⟩) 1 1 ((w.alloc (.cells #[.slice none 0 0, .int .i64 0] 27)).alloc (.cells #[.int .i64 den] 3)) true (ints_one_at _ _ _ _ (by simp)) (by omega) (by rw [allB_one]; exact h2)
  have k2 := iAllIn_any [sh] 0 14 (some ⟨w.heap.size + 2, 0, none⟩) 1 1 (((w.alloc (.cells #[.slice none 0 0, .int .i64 0] 27)).alloc (.cells #[.int .i64 den] 3)).alloc (.cells #[.int .i64 sh] 3)) false (ints_one_at _ _ _ _ (by simp)) (by omega) (by rw [allB_one]; exact h3)
  have d1 : decide (8 < (len : Int)) = false := by simp; omega
  clear hx h1 h2 h3
  go_enter Try.func10, Try.ntmps10
  go_wp2_with fail
  refine k0.mono ?_
  rintro e w' ⟨rfl, rfl⟩
  clear k0
  go_wp2_with fail
  refine k1.mono ?_
  rintro e w' ⟨rfl, rfl⟩
  clear k1
  go_wp2_with fail
  refine k2.mono ?_
  rintro e w' ⟨rfl, rfl⟩
  clear k2
  go_wp2
  exact bodyPost_ret (v := .tuple #[.agg #[.slice none 0 0, .int .i64 0], .bool false]) (by simp [results, Try.results10, go_sem]) rfl ⟨_, rfl, World.ownsRow_nil _ _ _ _, by repeat (first | exact grown_refl _ _ | refine grown_set ?_ (by simp) | refine grown_trans ?_ (grown_alloc _ _ _))⟩

/-- THE PROGRAM'S QUANTIZATION, for all arguments. -/
def qRes (xs : List Int) (den sh : Int) : Bool := qPre xs den sh && vLin (qAll den sh.toNat xs).2 sh
theorem iQuant_any (xs : List Int) (den sh : Int) (ao : Option Addr) (len cap : Nat) (w : World) (hx : Ints w ao len xs) (hmax : len ≤ 9223372036854775807) (v : Bool) (hv : qRes xs den sh = v) (ys : List Int) (n : Nat) (c : Int) (HY : Hid ((if v then (qAll den sh.toNat xs).2 else []) = ys ∧ (if v then len else 0) = n ∧ (if v then sh else 0) = c)) :
    Calls Try.prog 10 #[.slice ao len cap, .int .i64 den, .int .i64 sh] w (MadeLin ys n c v w) := by
  have hl := hx.1
  have bad : qPre xs den sh = false → v = false ∧ [] = ys ∧ 0 = n ∧ 0 = c := by
    intro h
    have e : v = false := by rw [← hv]; unfold qRes; rw [h]; rfl
    have := HY.out
    rw [e] at this
    simpa [e] using this
  by_cases h0 : 8 < len
  · obtain ⟨rfl, rfl, rfl, rfl⟩ := bad (by unfold qPre; rw [hl, show decide (len ≤ 8) = false by simp; omega]; rfl)
    exact iQuant_bad0 xs den sh ao len cap w hx h0 hmax
  have h0' : len ≤ 8 := by omega
  cases h1 : allB xs (-99999) 99999 with
  | false =>
    obtain ⟨rfl, rfl, rfl, rfl⟩ := bad (by unfold qPre; rw [h1]; simp)
    exact iQuant_bad1 xs den sh ao len cap w hx h0' h1
  | true =>
  cases h2 : inB den 1 99999 with
  | false =>
    obtain ⟨rfl, rfl, rfl, rfl⟩ := bad (by unfold qPre; rw [h2]; simp)
    exact iQuant_bad2 xs den sh ao len cap w hx h0' h1 h2
  | true =>
  cases h3 : inB sh 0 14 with
  | false =>
    obtain ⟨rfl, rfl, rfl, rfl⟩ := bad (by unfold qPre; rw [h3]; simp)
    exact iQuant_bad3 xs den sh ao len cap w hx h0' h1 h2 h3
  | true =>
    have hs : sh = (sh.toNat : Int) := by have : 0 ≤ sh ∧ sh ≤ 14 := by simpa [inB] using h3
                                          omega
    exact iQuant_loop xs den sh sh.toNat ao len cap w hx hs h0' h1 h2 h3 v (by rw [← hv]; unfold qRes qPre; rw [hl, h1, h2, h3, show decide (len ≤ 8) = true by simp; omega]; rfl) ys n c HY

set_option maxRecDepth 100000 in
set_option maxHeartbeats 1000000 in
theorem sQuant_bad0 (xs : List Int) (den sh : Int) (ao : Option Addr) (len cap : Nat) (w : World) (hx : Ints w ao len xs) (hlen : ¬ (1 ≤ len ∧ len ≤ 8))  :
    Calls Try.prog 11 #[.slice ao len cap, .int .i64 den, .int .i64 sh] w (MadeLin [] 0 0 false w) := by
  have k0 := inRange_any (len : Int) 1 8 false ((w.alloc (.cells #[.slice none 0 0, .int .i64 0] 27)).alloc (.cells #[] 3)) (inB_false (by omega))
  clear hx hlen 
  go_enter Try.func11, Try.ntmps11
  go_wp2_with fail
  refine k0.mono ?_
  rintro e w' ⟨rfl, rfl⟩
  clear k0
  go_wp2
  exact bodyPost_ret (v := .tuple #[.agg #[.slice none 0 0, .int .i64 0], .bool false]) (by simp [results, Try.results11, go_sem]) rfl ⟨_, rfl, World.ownsRow_nil _ _ _ _, by repeat (first | exact grown_refl _ _ | refine grown_set ?_ (by simp) | refine grown_trans ?_ (grown_alloc _ _ _))⟩

set_option maxRecDepth 100000 in
set_option maxHeartbeats 1000000 in
theorem sQuant_bad1 (xs : List Int) (den sh : Int) (ao : Option Addr) (len cap : Nat) (w : World) (hx : Ints w ao len xs) (hlen : 1 ≤ len ∧ len ≤ 8) (h1 : allB xs (-99999) 99999 = false) :
    Calls Try.prog 11 #[.slice ao len cap, .int .i64 den, .int .i64 sh] w (MadeLin [] 0 0 false w) := by
  have k0 := inRange_any (len : Int) 1 8 true ((w.alloc (.cells #[.slice none 0 0, .int .i64 0] 27)).alloc (.cells #[] 3)) (inB_true (by omega) (by omega))
  have k1 := allIn_any xs (-99999) 99999 ao len cap ((w.alloc (.cells #[.slice none 0 0, .int .i64 0] 27)).alloc (.cells #[] 3)) (hx.grown (grown_trans (grown_alloc _ _ _) (grown_alloc _ _ _))) (by omega)
  rw [h1] at k1
  clear hx hlen h1
  go_enter Try.func11, Try.ntmps11
  go_wp2_with fail
  refine k0.mono ?_
  rintro e w' ⟨rfl, rfl⟩
  clear k0
  go_wp2_with fail
  refine k1.mono ?_
  rintro e w' ⟨rfl, rfl⟩
  clear k1
  go_wp2
  exact bodyPost_ret (v := .tuple #[.agg #[.slice none 0 0, .int .i64 0], .bool false]) (by simp [results, Try.results11, go_sem]) rfl ⟨_, rfl, World.ownsRow_nil _ _ _ _, by repeat (first | exact grown_refl _ _ | refine grown_set ?_ (by simp) | refine grown_trans ?_ (grown_alloc _ _ _))⟩

set_option maxRecDepth 100000 in
set_option maxHeartbeats 1000000 in
theorem sQuant_bad2 (xs : List Int) (den sh : Int) (ao : Option Addr) (len cap : Nat) (w : World) (hx : Ints w ao len xs) (hlen : 1 ≤ len ∧ len ≤ 8) (h1 : allB xs (-99999) 99999 = true) (h2 : inB den 1 99999 = false) :
    Calls Try.prog 11 #[.slice ao len cap, .int .i64 den, .int .i64 sh] w (MadeLin [] 0 0 false w) := by
  have k0 := inRange_any (len : Int) 1 8 true ((w.alloc (.cells #[.slice none 0 0, .int .i64 0] 27)).alloc (.cells #[] 3)) (inB_true (by omega) (by omega))
  have k1 := allIn_any xs (-99999) 99999 ao len cap ((w.alloc (.cells #[.slice none 0 0, .int .i64 0] 27)).alloc (.cells #[] 3)) (hx.grown (grown_trans (grown_alloc _ _ _) (grown_alloc _ _ _))) (by omega)
  rw [h1] at k1
  have k2 := inRange_any den 1 99999 false ((w.alloc (.cells #[.slice none 0 0, .int .i64 0] 27)).alloc (.cells #[] 3)) h2
  clear hx hlen h1 h2
  go_enter Try.func11, Try.ntmps11
  go_wp2_with fail
  refine k0.mono ?_
  rintro e w' ⟨rfl, rfl⟩
  clear k0
  go_wp2_with fail
  refine k1.mono ?_
  rintro e w' ⟨rfl, rfl⟩
  clear k1
  go_wp2_with fail
  refine k2.mono ?_
  rintro e w' ⟨rfl, rfl⟩
  clear k2
  go_wp2
  exact bodyPost_ret (v := .tuple #[.agg #[.slice none 0 0, .int .i64 0], .bool false]) (by simp [results, Try.results11, go_sem]) rfl ⟨_, rfl, World.ownsRow_nil _ _ _ _, by repeat (first | exact grown_refl _ _ | refine grown_set ?_ (by simp) | refine grown_trans ?_ (grown_alloc _ _ _))⟩

set_option maxRecDepth 100000 in
set_option maxHeartbeats 1000000 in
theorem sQuant_bad3 (xs : List Int) (den sh : Int) (ao : Option Addr) (len cap : Nat) (w : World) (hx : Ints w ao len xs) (hlen : 1 ≤ len ∧ len ≤ 8) (h1 : allB xs (-99999) 99999 = true) (h2 : inB den 1 99999 = true) (h3 : inB sh 0 14 = false) :
    Calls Try.prog 11 #[.slice ao len cap, .int .i64 den, .int .i64 sh] w (MadeLin [] 0 0 false w) := by
  have k0 := inRange_any (len : Int) 1 8 true ((w.alloc (.cells #[.slice none 0 0, .int .i64 0] 27)).alloc (.cells #[] 3)) (inB_true (by omega) (by omega))
  have k1 := allIn_any xs (-99999) 99999 ao len cap ((w.alloc (.cells #[.slice none 0 0, .int .i64 0] 27)).alloc (.cells #[] 3)) (hx.grown (grown_trans (grown_alloc _ _ _) (grown_alloc _ _ _))) (by omega)
  rw [h1] at k1
  have k2 := inRange_any den 1 99999 true ((w.alloc (.cells #[.slice none 0 0, .int .i64 0] 27)).alloc (.cells #[] 3)) h2
  have k3 := inRange_any sh 0 14 false ((w.alloc (.cells #[.slice none 0 0, .int .i64 0] 27)).alloc (.cells #[] 3)) h3
  clear hx hlen h1 h2 h3
  go_enter Try.func11, Try.ntmps11
  go_wp2_with fail
  refine k0.mono ?_
  rintro e w' ⟨rfl, rfl⟩
  clear k0
  go_wp2_with fail
  refine k1.mono ?_
  rintro e w' ⟨rfl, rfl⟩
  clear k1
  go_wp2_with fail
  refine k2.mono ?_
  rintro e w' ⟨rfl, rfl⟩
  clear k2
  go_wp2_with fail
  refine k3.mono ?_
  rintro e w' ⟨rfl, rfl⟩
  clear k3
  go_wp2
  exact bodyPost_ret (v := .tuple #[.agg #[.slice none 0 0, .int .i64 0], .bool false]) (by simp [results, Try.results11, go_sem]) rfl ⟨_, rfl, World.ownsRow_nil _ _ _ _, by repeat (first | exact grown_refl _ _ | refine grown_set ?_ (by simp) | refine grown_trans ?_ (grown_alloc _ _ _))⟩


/-- Inside the specification's quantization. -/
structure SQ (w : World) (bv : Value) (n : Nat) (ys : List Int) (wr : World) : Prop where
  res : wr.heap[w.heap.size]? = some (.cells #[.slice none 0 0, .int .i64 0] 27 (0, 0))
  own : Owns wr (w.heap.size + 1) bv n ys
  g : w.grownBy wr none

theorem sq_step {w wr w2 : World} {o : Obj} {bv v2 : Value} {n : Nat} {ys zs : List Int} (h : SQ w bv n ys wr) (hg : (wr.alloc o).grownBy w2 bv.ownBlock) (ho : Owns w2 (w.heap.size + 1) v2 (n + 1) zs) : SQ w v2 (n + 1) zs w2 := by
  have hb : ∀ g, bv.ownBlock = some g → w.heap.size + 1 ≤ g := fun g e => h.own.block g e
  exact ⟨grown_heap hg (grown_heap (grown_alloc wr o none) h.res (by simp)) (fun e => by have := hb _ e; omega), ho, grown_row (grown_trans h.g (grown_alloc _ _ _)) hg (fun g e => by have := hb g e; omega)⟩

set_option maxRecDepth 100000 in
set_option maxHeartbeats 2000000 in
theorem sQuant_loop (xs : List Int) (den sh : Int) (s : Nat) (ao : Option Addr) (len cap : Nat) (w : World) (hx : Ints w ao len xs) (hs : sh = (s : Int)) (hlen : 1 ≤ len ∧ len ≤ 8) (h1 : allB xs (-99999) 99999 = true) (h2 : inB den 1 99999 = true) (h3 : inB sh 0 14 = true) (v : Bool) (hv : vLin (qAll den s xs).2 sh = v) (ys : List Int) (n : Nat) (c : Int) (HY : Hid ((if v then (qAll den s xs).2 else []) = ys ∧ (if v then len else 0) = n ∧ (if v then sh else 0) = c)) :
    Calls Try.prog 11 #[.slice ao len cap, .int .i64 den, .int .i64 sh] w (MadeLin ys n c v w) := by
  have k0 := inRange_any (len : Int) 1 8 true ((w.alloc (.cells #[.slice none 0 0, .int .i64 0] 27)).alloc (.cells #[] 3)) (inB_true (by omega) (by omega))
  have k1 := allIn_any xs (-99999) 99999 ao len cap ((w.alloc (.cells #[.slice none 0 0, .int .i64 0] 27)).alloc (.cells #[] 3)) (hx.grown (grown_trans (grown_alloc _ _ _) (grown_alloc _ _ _))) (by omega)
  rw [h1] at k1
  have k2 := inRange_any den 1 99999 true ((w.alloc (.cells #[.slice none 0 0, .int .i64 0] 27)).alloc (.cells #[] 3)) h2
  have k3 := inRange_any sh 0 14 true ((w.alloc (.cells #[.slice none 0 0, .int .i64 0] 27)).alloc (.cells #[] 3)) h3
  have hden : 1 ≤ den ∧ den ≤ 99999 := by simpa [inB] using h2
  have hsh : s ≤ 14 := by have : 0 ≤ sh ∧ sh ≤ 14 := by simpa [inB] using h3
                          omega
  have HX := Lib.hid hx
  have HA := Lib.hid h1
  have HV := Lib.hid hv
  have hd1 := hden.1
  have hd2 := hden.2
  have hl8 := hlen.2
  subst hs
  have HW : Hid (SQ w (.slice (some ⟨w.heap.size + 1, 0, none⟩) 0 0) 0 (qAll den s (xs.take 0)).2 ((w.alloc (.cells #[.slice none 0 0, .int .i64 0] 27)).alloc (.cells #[] 3))) :=
    ⟨heap_alloc2_old w _ _, by have := owns_empty (w.alloc (.cells #[.slice none 0 0, .int .i64 0] 27)); simpa [qAll] using this, grown_trans (grown_alloc _ _ _) (grown_alloc _ _ _)⟩
  clear hx h1 h2 h3 hv hden hlen
  go_enter Try.func11, Try.ntmps11
  go_wp2_with fail
  refine k0.mono ?_
  rintro e w' ⟨rfl, rfl⟩
  clear k0
  go_wp2_with fail
  refine k1.mono ?_
  rintro e w' ⟨rfl, rfl⟩
  clear k1
  go_wp2_with fail
  refine k2.mono ?_
  rintro e w' ⟨rfl, rfl⟩
  clear k2
  go_wp2_with fail
  refine k3.mono ?_
  rintro e w' ⟨rfl, rfl⟩
  clear k3
  go_wp2
  go_loopw [8, 9, 10] (fun bv0 rv iv wr => ∃ (k : Nat) (r : Int) (bv : Value), k ≤ len ∧ iv = .int .i64 k ∧ rv = .int .i64 r ∧ bv = bv0 ∧ Hid (r = (qAll den s (xs.take k)).1) ∧ Hid (SQ w bv k (qAll den s (xs.take k)).2 wr)) (fun _ _ iv _ => len - (intOf iv).toNat)
  case atStart => exact ⟨0, 0, _, Nat.zero_le _, rfl, rfl, rfl, rfl, HW⟩
  case round =>
    obtain ⟨k, r, bv, hk, rfl, rfl, rfl, hr, HR⟩ := hrel
    by_cases hlt : k < len
    · obtain ⟨x, hxk⟩ : ∃ x, xs[k]? = some x := ⟨_, List.getElem?_eq_getElem (by rw [HX.out.1]; exact hlt)⟩
      obtain ⟨b, off, rfl, hc⟩ := HX.out.2.resolve_left (by intro e; subst e; simp at hxk)
      have hcx : wr.cell? ⟨b, off + k, none⟩ = some (.int .i64 x) := HR.out.g.cell (hc k x hxk) (by simp)
      have hxr := allB_mem HA.out hxk
      have hx0 := hxr.1
      have hx1 := hxr.2
      have hrb := qRest_bound (s := s) hd1 (xs.take k)
      rw [← hr.out] at hrb
      have hr0 : -99999 ≤ r := by omega
      have hr1 : r ≤ 99999 := by omega
      have HQ := Lib.hid (qAll_take (den := den) (s := s) hxk)
      have hp := pow_le s hsh
      have hp0 := mul_range hx0 hx1 (show (0 : Int) ≤ 2 ^ s by omega) hp.2 (by omega)
      have hp1 := hp0.1
      have hp2 := hp0.2
      clear hc hxk hxr hrb hp hp0
      go_wp2_with fail
      refine (sFloor_any (2 * (x * 2 ^ s + r) + den) (2 * den) _ (by omega) (by omega) (by omega)).mono ?_
      rintro e w' ⟨rfl, rfl⟩
      have hN := qN_bound (s := s) hsh hr0 hr1 hx0 hx1
      have hN0 : -2000000000 ≤ x * 2 ^ s + r := hN.1
      have hN1 : x * 2 ^ s + r ≤ 2000000000 := hN.2
      have hD0 : -2000100000 ≤ den * ((2 * (x * 2 ^ s + r) + den) / (2 * den)) := (qD_range hd1 hN0 hN1 hd2).1
      have hD1 : den * ((2 * (x * 2 ^ s + r) + den) / (2 * den)) ≤ 2000100000 := (qD_range hd1 hN0 hN1 hd2).2
      have HQ2 : Hid (qAll den s (xs.take (k + 1)) = (x * 2 ^ s + r - den * ((2 * (x * 2 ^ s + r) + den) / (2 * den)), (qAll den s (xs.take k)).2 ++ [(2 * (x * 2 ^ s + r) + den) / (2 * den)])) := by
        have := HQ.out
        unfold qStep qC qN at this
        rw [← hr.out] at this
        exact this
      clear hN HQ
      generalize (2 * (x * 2 ^ s + r) + den) / (2 * den) = q at *
      obtain ⟨a1, c1, rfl, _, _, _, _⟩ := HR.out.own.reads
      have HO := Lib.hid HR.out.own
      go_wp2_with (at_builtin; refine append_ints rfl _ _ rfl (w.heap.size + 1) (.slice a1 k c1) k (qAll den s (xs.take k)).2 rfl (HO.out.grown (grown_alloc _ _ _)) (some ⟨wr.heap.size, 0, none⟩) 1 1 [q] rfl (ints_one _ _ _) (fun e => nomatch e) ?a1 ?a2 ?_)
      case a1 => omega
      case a2 => have := block_lt HR.out.res; simp; omega
      intro v2 w2 hown hgrow
      obtain ⟨a2, c2, rfl, _, _, _, _⟩ := hown.reads
      have HN := sq_step HR.out hgrow hown
      rw [show (qAll den s (xs.take k)).2 ++ [q] = (qAll den s (xs.take (k + 1))).2 by rw [HQ2.out]] at HN
      have HN := Lib.hid HN
      have HQ3 : Hid (x * 2 ^ s + r - den * q = (qAll den s (xs.take (k + 1))).1) := by show _ = _; rw [HQ2.out]
      clear hown hgrow HO HR HQ2
      go_wp2
      go_roundw
      case rel => exact ⟨k + 1, x * 2 ^ s + r - den * q, _, by omega, by go_num, rfl, rfl, HQ3, HN⟩
      case measure => simp [intOf]; omega
    · obtain rfl : k = len := by omega
      have HL : Hid (qAll den s (xs.take k) = qAll den s xs) := by show _ = _; rw [List.take_of_length_le (by rw [HX.out.1]; exact Nat.le_refl _)]
      obtain ⟨a1, c1, rfl, _, _, _, _⟩ := HR.out.own.reads
      go_wp2_with fail
      have hlt2 := block_lt HR.out.res
      refine (sValid_any _ _ a1 k c1 _ v (HR.out.own.toInts.grown (grown_alloc _ _ _)) (by omega) (by rw [HL.out]; exact HV.out)).mono ?_
      rintro e w2 ⟨rfl, hg2⟩
      have hg3 := grown_trans (grown_alloc wr (.cells #[.slice a1 k c1, .int .i64 (s : Int)] 27) none) hg2
      have hres := grown_heap hg3 HR.out.res (by simp)
      have hnow := grown_heap hg2 (heap_alloc_new wr (.cells #[.slice a1 k c1, .int .i64 (s : Int)] 27)) (by simp)
      have q2 : w2.cell? ⟨wr.heap.size, 0, none⟩ = some (.slice a1 k c1) := by rw [cell_of_row w2 _ 0 _ _ _ hnow]; rfl
      have q3 : w2.cell? ⟨wr.heap.size, 1, none⟩ = some (.int .i64 (s : Int)) := by rw [cell_of_row w2 _ 1 _ _ _ hnow]; rfl
      obtain ⟨r0, r1, f0, f1, hsz, R⟩ := res_two hres (grown_trans HR.out.g hg3)
      cases v with
      | true =>
        have hy1 : (qAll den s xs).2 = ys := by simpa using HY.out.1
        have hy2 : k = n := by simpa using HY.out.2.1
        have hy3 : (s : Int) = c := by simpa using HY.out.2.2
        have R := Lib.hid (R (.slice a1 k c1) (.int .i64 (s : Int)) k ys (by have := (HR.out.own.grown hg3); rw [HL.out, hy1] at this; exact this))
        have HY' := Lib.hid (And.intro hy2 hy3)
        clear HY hy1 hy2 hy3 hg2 hg3 HR hres hnow hr HL HV
        go_wp2
        refine bodyPost_ret (v := .tuple #[.agg #[.slice a1 k c1, .int .i64 (s : Int)], .bool true]) (by simp [results, Try.results11, go_sem, r0, r1]) rfl ⟨.slice a1 k c1, by rw [HY'.out.2], ?_, R.out.2⟩
        rw [← HY'.out.1]; exact R.out.1
      | false =>
        have hy1 : [] = ys := by simpa using HY.out.1
        have hy2 : 0 = n := by simpa using HY.out.2.1
        have hy3 : (0 : Int) = c := by simpa using HY.out.2.2
        have R := Lib.hid (R (.slice none 0 0) (.int .i64 0) 0 [] (World.ownsRow_nil _ _ _ _))
        clear HY hg2 hg3 HR hres hnow hr HL HV
        subst hy1; subst hy2; subst hy3
        go_wp2
        exact bodyPost_ret (v := .tuple #[.agg #[.slice none 0 0, .int .i64 0], .bool false]) (by simp [results, Try.results11, go_sem, r0, r1]) rfl ⟨.slice none 0 0, rfl, R.out⟩

theorem sQuant_any (xs : List Int) (den sh : Int) (ao : Option Addr) (len cap : Nat) (w : World) (hx : Ints w ao len xs) (hmax : len ≤ 9223372036854775807) (v : Bool) (hv : qRes xs den sh = v) (ys : List Int) (n : Nat) (c : Int) (HY : Hid ((if v then (qAll den sh.toNat xs).2 else []) = ys ∧ (if v then len else 0) = n ∧ (if v then sh else 0) = c)) :
    Calls Try.prog 11 #[.slice ao len cap, .int .i64 den, .int .i64 sh] w (MadeLin ys n c v w) := by
  have hl := hx.1
  have bad : (qPre xs den sh = false ∨ len = 0) → v = false ∧ [] = ys ∧ 0 = n ∧ 0 = c := by
    intro h
    have e : v = false := by
      rw [← hv]; unfold qRes
      rcases h with h | h
      · rw [h]; rfl
      · have hx0 : xs = [] := List.length_eq_zero_iff.1 (by omega)
        subst hx0; simp [qAll, vLin]
    have := HY.out
    rw [e] at this
    simpa [e] using this
  by_cases h0 : ¬ (1 ≤ len ∧ len ≤ 8)
  · obtain ⟨rfl, rfl, rfl, rfl⟩ := bad (by
      by_cases hz : len = 0
      · exact Or.inr hz
      · left; unfold qPre; rw [hl, show decide (len ≤ 8) = false by simp; omega]; rfl)
    exact sQuant_bad0 xs den sh ao len cap w hx h0
  have h0' : 1 ≤ len ∧ len ≤ 8 := by omega
  cases h1 : allB xs (-99999) 99999 with
  | false =>
    obtain ⟨rfl, rfl, rfl, rfl⟩ := bad (by left; unfold qPre; rw [h1]; simp)
    exact sQuant_bad1 xs den sh ao len cap w hx h0' h1
  | true =>
  cases h2 : inB den 1 99999 with
  | false =>
    obtain ⟨rfl, rfl, rfl, rfl⟩ := bad (by left; unfold qPre; rw [h2]; simp)
    exact sQuant_bad2 xs den sh ao len cap w hx h0' h1 h2
  | true =>
  cases h3 : inB sh 0 14 with
  | false =>
    obtain ⟨rfl, rfl, rfl, rfl⟩ := bad (by left; unfold qPre; rw [h3]; simp)
    exact sQuant_bad3 xs den sh ao len cap w hx h0' h1 h2 h3
  | true =>
    have hs : sh = (sh.toNat : Int) := by have : 0 ≤ sh ∧ sh ≤ 14 := by simpa [inB] using h3
                                          omega
    exact sQuant_loop xs den sh sh.toNat ao len cap w hx hs h0' h1 h2 h3 v (by rw [← hv]; unfold qRes qPre; rw [hl, h1, h2, h3, show decide (len ≤ 8) = true by simp; omega]; rfl) ys n c HY

end Go.Proofs.Ytgciofmpnpimcaa
