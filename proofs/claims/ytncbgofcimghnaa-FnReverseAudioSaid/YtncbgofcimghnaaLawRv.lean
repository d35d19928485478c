/-
  The walk of 'FnReverseAudio': it returns true and writes nothing that was there. For every code.
-/
import Derived.Test.YtncbgofcimghnaaDrawEd
import Derived.Test.YtncbgofcimghnaaEqA
import Derived.Test.YtncbgofcimghnaaEdR
import Derived.Test.YtncbgofcimghnaaEdZ
import Derived.Test.YtncbgofcimghnaaMem
import Derived.Test.YtncbgofcimghnaaQA
import Derived.Test.YtncbgofcimghnaaCnt
import Derived.Test.YtncbgofcimghnaaEdW
import Derived.Test.YtncbgofcimghnaaPkI
import Derived.Deep.RegionHeld3
import Derived.Deep.Cut
import Derived.Deep.CutRange
namespace Go.Proofs.Ytncbgofcimghnaa
open Go.RowKit

theorem cu_of {r d : Int} {xss : List (List Int)} {u H f t : Nat} {a b : Int} (h : VA r d xss u H) (hf : f ≤ t) (ht : t ≤ H) (ha : a = (f : Int)) (hb : b = (t : Int)) : CuR r d a b xss r d (xss.map (cutR f t)) true := by
  subst ha hb
  refine Or.inl ⟨⟨va_back h, by omega, by omega, by rw [h.hd]; omega⟩, rfl, rfl, rfl, by simp⟩
theorem cut_cut {r d : Int} {xss : List (List Int)} {u H f t a b : Nat} (_h : VA r d xss u H) (hft : f ≤ t) (ha : a ≤ b) (hb : b ≤ t - f) : (xss.map (cutR f t)).map (cutR a b) = xss.map (cutR (f + a) (f + b)) := by
  rw [List.map_map]
  exact List.map_congr_left (fun xs _ => cutR_twice hft ha hb)
theorem jn_of {r d : Int} {xss yss : List (List Int)} {u u' H H' : Nat} (h : VA r d xss u H) (h' : VA r d yss u' H') (hl : xss.length = yss.length) (hs : H + H' ≤ 256) : JnR r d xss r d yss r d (joinM xss yss) true :=
  Or.inl ⟨⟨va_back h, va_back h', rfl, rfl, hl, by rw [h.hd, h'.hd]; exact hs⟩, rfl, rfl, rfl, rfl⟩
theorem join_cuts {r d : Int} {xss : List (List Int)} {u H f t : Nat} (h : VA r d xss u H) (hft : f ≤ t) (ht : t ≤ H) : joinM (joinM (xss.map (cutR 0 f)) (xss.map (cutR f t))) (xss.map (cutR t H)) = xss := by
  apply List.ext_getElem?
  intro k
  cases hx : xss[k]? with
  | none =>
    have hk : xss.length ≤ k := List.getElem?_eq_none_iff.1 hx
    exact List.getElem?_eq_none (by unfold joinM; simp; omega)
  | some xs =>
    have hl := (h.row k xs hx).1
    have e : ∀ a b, (xss.map (cutR a b))[k]? = some (cutR a b xs) := fun a b => by rw [List.getElem?_map, hx]; rfl
    rw [joinM_get (joinM_get (e 0 f) (e f t)) (e t H), ← hl, cutR_split hft (by omega)]
/-- The same with the number of rows under another name. -/
def MadeABn (yss : List (List Int)) (ln : Nat) (rr dd : Int) (ok : Bool) (w : World) (e : Ending) (w' : World) : Prop :=
  ∃ v, e = .returned (.tuple #[.agg #[.int .i64 rr, .int .i64 dd, v], .bool ok]) ∧ MOwn w' w.heap.size v ln yss ∧ w.grownBy w' none
theorem made_ln {yss : List (List Int)} {ln : Nat} {rr dd : Int} {ok : Bool} {w w' : World} {e : Ending} (h : MadeAB yss rr dd ok w e w') (hl : yss.length = ln) : MadeABn yss ln rr dd ok w e w' := by subst hl; exact h
theorem join_left {r d : Int} {xss yss : List (List Int)} {u H : Nat} (h : VA r d xss u H) (hl : xss.length = yss.length) : (joinM xss yss).map (cutR 0 H) = xss := by
  apply List.ext_getElem?
  intro k
  rw [List.getElem?_map]
  cases hx : xss[k]? with
  | none =>
    have hk : xss.length ≤ k := List.getElem?_eq_none_iff.1 hx
    rw [List.getElem?_eq_none (by rw [joinM_len hl]; exact hk)]; rfl
  | some xs =>
    have hk : k < yss.length := by have := (List.getElem?_eq_some_iff.1 hx).1; omega
    rw [joinM_get hx (List.getElem?_eq_getElem hk), ← (h.row k xs hx).1]
    show some (cutR 0 xs.length (xs ++ yss[k])) = some xs
    rw [cutR_left]
theorem join_right {r d : Int} {xss yss : List (List Int)} {u u' H H' : Nat} (h : VA r d xss u H) (h' : VA r d yss u' H') (hl : xss.length = yss.length) : (joinM xss yss).map (cutR H (H + H')) = yss := by
  apply List.ext_getElem?
  intro k
  rw [List.getElem?_map]
  cases hy : yss[k]? with
  | none =>
    have hk : yss.length ≤ k := List.getElem?_eq_none_iff.1 hy
    rw [List.getElem?_eq_none (by rw [joinM_len hl]; omega)]; rfl
  | some ys =>
    have hk : k < xss.length := by have := (List.getElem?_eq_some_iff.1 hy).1; omega
    have hx : xss[k]? = some xss[k] := List.getElem?_eq_getElem hk
    rw [joinM_get hx hy, ← (h.row k _ hx).1, ← (h'.row k ys hy).1]
    show some (cutR xss[k].length (xss[k].length + ys.length) (xss[k] ++ ys)) = some ys
    rw [cutR_right]
theorem join_rev {xss yss : List (List Int)} : joinM (yss.map List.reverse) (xss.map List.reverse) = (joinM xss yss).map List.reverse := by
  induction xss generalizing yss with
  | nil => cases yss <;> simp [joinM]
  | cons xs xss ih =>
    cases yss with
    | nil => simp [joinM]
    | cons ys yss =>
      have := ih (yss := yss)
      simp [joinM] at this ⊢
      exact this
theorem rv_of {r d : Int} {xss : List (List Int)} {u H : Nat} (h : VA r d xss u H) : RvR r d xss r d (xss.map List.reverse) true := Or.inl ⟨va_back h, rfl, rfl, rfl, rfl⟩
theorem pk_va {r d : Int} {xss : List (List Int)} {u H : Nat} (h : VA r d xss u H) : pkV r d xss = pkM 0 xss := by unfold pkV; rw [if_pos (va_back h)]
/-- The same with the number of rows under another name. -/
def MadeAn (yss : List (List Int)) (ln : Nat) (rr dd : Int) (w : World) (e : Ending) (w' : World) : Prop :=
  ∃ v, e = .returned (.agg #[.int .i64 rr, .int .i64 dd, v]) ∧ MOwn w' w.heap.size v ln yss ∧ w.grownBy w' none
theorem made_lnA {yss : List (List Int)} {ln : Nat} {rr dd : Int} {w w' : World} {e : Ending} (h : MadeA yss rr dd w e w') (hl : yss.length = ln) : MadeAn yss ln rr dd w e w' := by subst hl; exact h
set_option maxRecDepth 100000 in
set_option maxHeartbeats 4000000 in
theorem FnReverseAudio_walk (ao : Option Addr) (len cap : Nat) (w : World) (hb : BytesAt w ao len) (hlc : len ≤ cap) (hmax : len ≤ 9223372036854775807) :
    Calls Try.prog 6 #[.slice ao len cap] w (Holds w) := by
  by_cases hlen : 1048576 < len
  · clear hb
    go_enter Try.func6, Try.ntmps6
    go_wp2
    go_ret
    exact ⟨rfl, grown_refl _ _⟩
  have hd := drawRv_any ao len cap w hb hlc hmax
  have hm : decide (1048576 < (len : Int)) = false := by simp; omega
  clear hb hlen
  go_enter Try.func6, Try.ntmps6
  go_wp2_with fail
  refine hd.mono ?_
  rintro e w1 ⟨p, q, a, l, c, xss, rfl, hmat, hl2, hs2, hg1⟩
  obtain rfl := hmat.1
  have HM := Lib.hid (((Mem.start w).grown hg1).block (.cells #[.int .i64 p, .int .i64 q, .slice a xss.length c] 25))
  have HX := Lib.hid (hmat.grown (grown_alloc w1 (.cells #[.int .i64 p, .int .i64 q, .slice a xss.length c] 25) none))
  have hsz : szL xss ≤ 1048576 := by omega
  clear hd hmat hg1
  obtain ⟨rr, dd, yss, ok, hS⟩ : ∃ rr dd yss ok, RvR p q xss rr dd yss ok := AuR_there _ _ _ _
  have hszy : szL yss ≤ 1048576 := rv_sz hS
  have HS := Lib.hid hS
  clear hS
  obtain ⟨ln, hln⟩ : ∃ ln, yss.length = ln := ⟨_, rfl⟩
  have HLN := Lib.hid hln
  clear hln
  obtain ⟨q00, q01, q02⟩ := three_cells (HM.out.get (b := w1.heap.size) (o := .cells #[.int .i64 p, .int .i64 q, .slice a xss.length c] 25) (by simp))
  go_wp2_with fail
  refine (((iRv_any xss a xss.length c p q _ rr dd yss ok HX.out hsz HS.out).mono (fun _ _ h => made_lnA h HLN.out))).mono ?_
  rintro e w2 ⟨v2, rfl, ho2, hg2⟩
  obtain ⟨a2, c2, rfl, _, _, hm2, _⟩ := ho2.reads
  replace HM := Lib.hid ((HM.out.grown hg2).block (.cells #[.int .i64 rr, .int .i64 dd, .slice a2 ln c2] 25))
  replace HX := Lib.hid ((HX.out.grown hg2).grown (grown_alloc w2 (.cells #[.int .i64 rr, .int .i64 dd, .slice a2 ln c2] 25) none))
  have HY : Hid (Mat (w2.alloc (.cells #[.int .i64 rr, .int .i64 dd, .slice a2 ln c2] 25)) a2 ln yss) := by
    have h := hm2.grown (grown_alloc w2 (.cells #[.int .i64 rr, .int .i64 dd, .slice a2 ln c2] 25) none)
    first | exact h | (simp only [List.length_map] at h; exact h)
  clear q00 q01 q02 hg2 ho2 hm2
  generalize hwz : (w2.alloc (.cells #[.int .i64 rr, .int .i64 dd, .slice a2 ln c2] 25)) = wz at *
  cases ok with
  | false =>
    have hyn : yss = [] := by
      rcases HS.out with ⟨_, h1, _⟩ | ⟨_, _, _, _, h5⟩
      · cases h1
      · exact h5
    have hb : ((ln : Int) == 0) = true := by rw [← HLN.out, hyn]; rfl
    clear hyn
    obtain ⟨q00, q01, q02⟩ := three_cells (HM.out.get (b := w1.heap.size) (o := .cells #[.int .i64 p, .int .i64 q, .slice a xss.length c] 25) (by simp))
    obtain ⟨q10, q11, q12⟩ := three_cells (HM.out.get (b := w2.heap.size) (o := .cells #[.int .i64 rr, .int .i64 dd, .slice a2 ln c2] 25) (by simp))
    have HXm := Lib.hid HX.out
    have HYm := Lib.hid HY.out
    go_wp2_with fail
    first | (go_region_held3 (fun w' => w'.cell? ⟨w2.heap.size, 0, none⟩ = some (.int .i64 rr) ∧ w'.cell? ⟨w2.heap.size, 1, none⟩ = some (.int .i64 dd) ∧ w'.cell? ⟨w2.heap.size, 2, none⟩ = some (.slice a2 ln c2) ∧ w'.cell? ⟨w1.heap.size, 0, none⟩ = some (.int .i64 p) ∧ w'.cell? ⟨w1.heap.size, 1, none⟩ = some (.int .i64 q) ∧ w'.cell? ⟨w1.heap.size, 2, none⟩ = some (.slice a xss.length c)) (first | go_keep | exact ⟨by assumption, by assumption, by assumption, by assumption, by assumption, by assumption⟩) ((first
      | (go_at_call 29; refine (((sRv_any xss a xss.length c p q _ rr dd yss false (HXm.out.grown (grown_drew wz none)) hsz HS.out).mono (fun _ _ h => made_lnA h HLN.out))).mono ?_; rintro e k1 ⟨u1, rfl, ho, hg⟩; obtain ⟨b5, d5, rfl, _, _, hy, _⟩ := ho.reads; have HY5 := Lib.hid hy; clear ho hy; have HGk1 := Lib.hid (grown_trans (grown_drew wz none) hg); have k1q10 := hg.cell q10 (by simp); have k1q11 := hg.cell q11 (by simp); have k1q12 := hg.cell q12 (by simp); have k1q00 := hg.cell q00 (by simp); have k1q01 := hg.cell q01 (by simp); have k1q02 := hg.cell q02 (by simp); clear hg)
      | (go_at_call 18; refine (equalAudio_same yss a2 b5 ln c2 d5 rr dd _ (HYm.out.grown HGk1.out) HY5.out hszy).mono ?_; rintro e k2 ⟨rfl, hg⟩; skip; have HGk2 := Lib.hid (grown_trans HGk1.out hg); have k2q10 := hg.cell k1q10 (by simp); have k2q11 := hg.cell k1q11 (by simp); have k2q12 := hg.cell k1q12 (by simp); have k2q00 := hg.cell k1q00 (by simp); have k2q01 := hg.cell k1q01 (by simp); have k2q02 := hg.cell k1q02 (by simp); clear hg)))) | fail
    all_goals
      replace HM := Lib.hid (HM.out.grown HGk2.out)
      replace HX := Lib.hid (HX.out.grown HGk2.out)
      replace HY := Lib.hid (HY.out.grown HGk2.out)
      clear q00 q01 q02 q10 q11 q12 k1q10 k1q11 k1q12 k1q00 k1q01 k1q02 k2q10 k2q11 k2q12 k2q00 k2q01 k2q02 HGk1 HGk2
      clear HXm HYm HY5
      generalize k2 = wy at *
      obtain ⟨q00, q01, q02⟩ := three_cells (HM.out.get (b := w1.heap.size) (o := .cells #[.int .i64 p, .int .i64 q, .slice a xss.length c] 25) (by simp))
      obtain ⟨q10, q11, q12⟩ := three_cells (HM.out.get (b := w2.heap.size) (o := .cells #[.int .i64 rr, .int .i64 dd, .slice a2 ln c2] 25) (by simp))
      have HXm := Lib.hid HX.out
      have HYm := Lib.hid HY.out
      go_wp2_with fail
      first | (go_region_held3 (fun w' => w'.cell? ⟨w2.heap.size, 0, none⟩ = some (.int .i64 rr) ∧ w'.cell? ⟨w2.heap.size, 1, none⟩ = some (.int .i64 dd) ∧ w'.cell? ⟨w2.heap.size, 2, none⟩ = some (.slice a2 ln c2) ∧ w'.cell? ⟨w1.heap.size, 0, none⟩ = some (.int .i64 p) ∧ w'.cell? ⟨w1.heap.size, 1, none⟩ = some (.int .i64 q) ∧ w'.cell? ⟨w1.heap.size, 2, none⟩ = some (.slice a xss.length c)) (first | go_keep | exact ⟨by assumption, by assumption, by assumption, by assumption, by assumption, by assumption⟩) ((first
        | (go_at_call 29; refine (((sRv_any xss a xss.length c p q _ rr dd yss false (HXm.out.grown (grown_drew wy none)) hsz HS.out).mono (fun _ _ h => made_lnA h HLN.out))).mono ?_; rintro e l1 ⟨u1, rfl, ho, hg⟩; obtain ⟨b5, d5, rfl, _, _, hy, _⟩ := ho.reads; have HY5 := Lib.hid hy; clear ho hy; have HGl1 := Lib.hid (grown_trans (grown_drew wy none) hg); have l1q10 := hg.cell q10 (by simp); have l1q11 := hg.cell q11 (by simp); have l1q12 := hg.cell q12 (by simp); have l1q00 := hg.cell q00 (by simp); have l1q01 := hg.cell q01 (by simp); have l1q02 := hg.cell q02 (by simp); clear hg)
        | (go_at_call 18; refine (equalAudio_same yss a2 b5 ln c2 d5 rr dd _ (HYm.out.grown HGl1.out) HY5.out hszy).mono ?_; rintro e l2 ⟨rfl, hg⟩; skip; have HGl2 := Lib.hid (grown_trans HGl1.out hg); have l2q10 := hg.cell l1q10 (by simp); have l2q11 := hg.cell l1q11 (by simp); have l2q12 := hg.cell l1q12 (by simp); have l2q00 := hg.cell l1q00 (by simp); have l2q01 := hg.cell l1q01 (by simp); have l2q02 := hg.cell l1q02 (by simp); clear hg)))) | fail
      all_goals
        replace HM := Lib.hid (HM.out.grown HGl2.out)
        replace HX := Lib.hid (HX.out.grown HGl2.out)
        replace HY := Lib.hid (HY.out.grown HGl2.out)
        clear q00 q01 q02 q10 q11 q12 l1q10 l1q11 l1q12 l1q00 l1q01 l1q02 l2q10 l2q11 l2q12 l2q00 l2q01 l2q02 HGl1 HGl2
        clear HXm HYm HY5
        go_wp2
        go_ret
        exact ⟨rfl, HM.out.g⟩
  | true =>
    obtain ⟨hva, rfl, rfl, hyss⟩ : vAu p q xss = true ∧ p = rr ∧ q = dd ∧ yss = xss.map List.reverse := by
      rcases HS.out with ⟨h1, _, h3, h4, h5⟩ | ⟨_, h1, _⟩
      · exact ⟨h1, h3.symm, h4.symm, h5⟩
      · cases h1
    obtain ⟨u, H, hV⟩ := va_of hva
    have hb : ((ln : Int) == 0) = false := by have h1 := hV.ch.1; rw [← HLN.out, hyss, List.length_map]; simp; intro h2; rw [h2] at h1; simp at h1
    have hrr : (xss.map List.reverse).map List.reverse = xss := by
      rw [List.map_map]
      conv => rhs; rw [← List.map_id xss]
      exact List.map_congr_left (fun xs _ => by simp)
    have hR2 := rv_of (va_rev hV)
    rw [hrr, ← hyss] at hR2
    have HR2 := Lib.hid hR2
    obtain ⟨za, hza⟩ : ∃ z, pkV p q xss = z := ⟨_, rfl⟩
    have HA := Lib.hid hza
    have HB : Hid (pkV p q yss = za) := by show _ = _; rw [← hza, hyss, pk_va (va_rev hV), pk_va hV, pkM_rev _ 0 (Int.le_refl _)]
    have hT1 : True := trivial
    have hT2 : True := trivial
    clear hV hva hrr hR2 hza hyss
    obtain ⟨q00, q01, q02⟩ := three_cells (HM.out.get (b := w1.heap.size) (o := .cells #[.int .i64 p, .int .i64 q, .slice a xss.length c] 25) (by simp))
    obtain ⟨q10, q11, q12⟩ := three_cells (HM.out.get (b := w2.heap.size) (o := .cells #[.int .i64 p, .int .i64 q, .slice a2 ln c2] 25) (by simp))
    have HXm := Lib.hid HX.out
    have HYm := Lib.hid HY.out
    go_wp2_with fail
    first | (go_region_held3 (fun w' => w'.cell? ⟨w2.heap.size, 0, none⟩ = some (.int .i64 p) ∧ w'.cell? ⟨w2.heap.size, 1, none⟩ = some (.int .i64 q) ∧ w'.cell? ⟨w2.heap.size, 2, none⟩ = some (.slice a2 ln c2) ∧ w'.cell? ⟨w1.heap.size, 0, none⟩ = some (.int .i64 p) ∧ w'.cell? ⟨w1.heap.size, 1, none⟩ = some (.int .i64 q) ∧ w'.cell? ⟨w1.heap.size, 2, none⟩ = some (.slice a xss.length c)) (first | go_keep | exact ⟨by assumption, by assumption, by assumption, by assumption, by assumption, by assumption⟩) ((first
      | (go_at_call 29; refine (((sRv_any xss a xss.length c p q _ p q yss true (HXm.out.grown (grown_drew wz none)) hsz HS.out).mono (fun _ _ h => made_lnA h HLN.out))).mono ?_; rintro e k1 ⟨u1, rfl, ho, hg⟩; obtain ⟨b5, d5, rfl, _, _, hy, _⟩ := ho.reads; have HY5 := Lib.hid hy; clear ho hy; have HGk1 := Lib.hid (grown_trans (grown_drew wz none) hg); have k1q10 := hg.cell q10 (by simp); have k1q11 := hg.cell q11 (by simp); have k1q12 := hg.cell q12 (by simp); have k1q00 := hg.cell q00 (by simp); have k1q01 := hg.cell q01 (by simp); have k1q02 := hg.cell q02 (by simp); clear hg)
      | (go_at_call 18; refine (equalAudio_same yss a2 b5 ln c2 d5 p q _ (HYm.out.grown HGk1.out) HY5.out hszy).mono ?_; rintro e k2 ⟨rfl, hg⟩; skip; have HGk2 := Lib.hid (grown_trans HGk1.out hg); have k2q10 := hg.cell k1q10 (by simp); have k2q11 := hg.cell k1q11 (by simp); have k2q12 := hg.cell k1q12 (by simp); have k2q00 := hg.cell k1q00 (by simp); have k2q01 := hg.cell k1q01 (by simp); have k2q02 := hg.cell k1q02 (by simp); clear hg)))) | fail
    all_goals
      replace HM := Lib.hid (HM.out.grown HGk2.out)
      replace HX := Lib.hid (HX.out.grown HGk2.out)
      replace HY := Lib.hid (HY.out.grown HGk2.out)
      clear q00 q01 q02 q10 q11 q12 k1q10 k1q11 k1q12 k1q00 k1q01 k1q02 k2q10 k2q11 k2q12 k2q00 k2q01 k2q02 HGk1 HGk2
      clear HXm HYm HY5
      generalize k2 = wy at *
      obtain ⟨q00, q01, q02⟩ := three_cells (HM.out.get (b := w1.heap.size) (o := .cells #[.int .i64 p, .int .i64 q, .slice a xss.length c] 25) (by simp))
      obtain ⟨q10, q11, q12⟩ := three_cells (HM.out.get (b := w2.heap.size) (o := .cells #[.int .i64 p, .int .i64 q, .slice a2 ln c2] 25) (by simp))
      have HXm := Lib.hid HX.out
      have HYm := Lib.hid HY.out
      go_wp2_with fail
      first | (go_region_held3 (fun w' => w'.cell? ⟨w2.heap.size, 0, none⟩ = some (.int .i64 p) ∧ w'.cell? ⟨w2.heap.size, 1, none⟩ = some (.int .i64 q) ∧ w'.cell? ⟨w2.heap.size, 2, none⟩ = some (.slice a2 ln c2) ∧ w'.cell? ⟨w1.heap.size, 0, none⟩ = some (.int .i64 p) ∧ w'.cell? ⟨w1.heap.size, 1, none⟩ = some (.int .i64 q) ∧ w'.cell? ⟨w1.heap.size, 2, none⟩ = some (.slice a xss.length c)) (first | go_keep | exact ⟨by assumption, by assumption, by assumption, by assumption, by assumption, by assumption⟩) ((first
        | (go_at_call 28; refine (iRv_any yss a2 ln c2 p q _ p q xss true (HYm.out.grown (grown_drew wy none)) hszy HR2.out).mono ?_; rintro e l1 ⟨u1, rfl, ho, hg⟩; obtain ⟨b5, d5, rfl, _, _, hy, _⟩ := ho.reads; have HY5 := Lib.hid hy; clear ho hy; have HGl1 := Lib.hid (grown_trans (grown_drew wy none) hg); have l1q10 := hg.cell q10 (by simp); have l1q11 := hg.cell q11 (by simp); have l1q12 := hg.cell q12 (by simp); have l1q00 := hg.cell q00 (by simp); have l1q01 := hg.cell q01 (by simp); have l1q02 := hg.cell q02 (by simp); clear hg)
        | (go_at_call 18; refine (equalAudio_same xss b5 a xss.length d5 c p q _ HY5.out (HXm.out.grown HGl1.out) hsz).mono ?_; rintro e l2 ⟨rfl, hg⟩; skip; have HGl2 := Lib.hid (grown_trans HGl1.out hg); have l2q10 := hg.cell l1q10 (by simp); have l2q11 := hg.cell l1q11 (by simp); have l2q12 := hg.cell l1q12 (by simp); have l2q00 := hg.cell l1q00 (by simp); have l2q01 := hg.cell l1q01 (by simp); have l2q02 := hg.cell l1q02 (by simp); clear hg)
        | (go_at_call 30; have Tk := hT1; refine (iPk_any yss a2 ln c2 p q _ za (HYm.out.grown HGl2.out) hszy HB.out).mono ?_; rintro e l3 ⟨rfl, hg⟩; skip; have HGl3 := Lib.hid (grown_trans HGl2.out hg); have l3q10 := hg.cell l2q10 (by simp); have l3q11 := hg.cell l2q11 (by simp); have l3q12 := hg.cell l2q12 (by simp); have l3q00 := hg.cell l2q00 (by simp); have l3q01 := hg.cell l2q01 (by simp); have l3q02 := hg.cell l2q02 (by simp); clear Tk hT1; clear hg)
        | (go_at_call 30; have Tk := hT2; refine (iPk_any xss a xss.length c p q _ za (HXm.out.grown HGl3.out) hsz HA.out).mono ?_; rintro e l4 ⟨rfl, hg⟩; skip; have HGl4 := Lib.hid (grown_trans HGl3.out hg); have l4q10 := hg.cell l3q10 (by simp); have l4q11 := hg.cell l3q11 (by simp); have l4q12 := hg.cell l3q12 (by simp); have l4q00 := hg.cell l3q00 (by simp); have l4q01 := hg.cell l3q01 (by simp); have l4q02 := hg.cell l3q02 (by simp); clear Tk hT2; clear hg)))) | fail
      all_goals
        replace HM := Lib.hid (HM.out.grown HGl4.out)
        replace HX := Lib.hid (HX.out.grown HGl4.out)
        replace HY := Lib.hid (HY.out.grown HGl4.out)
        clear q00 q01 q02 q10 q11 q12 l1q10 l1q11 l1q12 l1q00 l1q01 l1q02 l2q10 l2q11 l2q12 l2q00 l2q01 l2q02 l3q10 l3q11 l3q12 l3q00 l3q01 l3q02 l4q10 l4q11 l4q12 l4q00 l4q01 l4q02 HGl1 HGl2 HGl3 HGl4
        go_wp2
        go_ret
        exact ⟨by simp, HM.out.g⟩

end Go.Proofs.Ytncbgofcimghnaa
