/-
  The walk of 'FnPeakOfJoin': it returns true and writes nothing that was there. For every code.
-/
import Derived.Test.YtncbgofcimghnaaDrawJn
import Derived.Test.YtncbgofcimghnaaEqA
import Derived.Test.YtncbgofcimghnaaEdS
import Derived.Test.YtncbgofcimghnaaEdQ
import Derived.Test.YtncbgofcimghnaaEdZ
import Derived.Test.YtncbgofcimghnaaMem
import Derived.Test.YtncbgofcimghnaaQA
import Derived.Test.YtncbgofcimghnaaCnt
import Derived.Test.YtncbgofcimghnaaPkI
import Derived.Deep.RegionHeld3
import Derived.Deep.Cut
import Derived.Deep.CutRange
namespace Go.Proofs.Ytncbgofcimghnaa
open Go.RowKit

theorem cu_of {r d : Int} {xss : List (List Int)} {u H f t : Nat} {a b : Int} (h : VA r d xss u H) (hf : f ≤ t) (ht : t ≤ H) (ha : a = (f : Int)) (hb : b = (t : Int)) : CuR r d a b xss r d (xss.map (cutR f t)) true := by
  subst ha hb
  refine Or.inl ⟨⟨va_back h, by omega, by omega, by rw [h.hd]; omega⟩, rfl, rfl, rfl, by simp⟩
theorem cut_cut {r d : Int} {xss : List (List Int)} {u H f t a b : Nat} (_h : VA r d xss u H) (hft : f ≤ t) (ha : a ≤ b) (hb : b ≤ t - f) : (xss.map (cutR f t)).map (cutR a b) = xss.map (cutR (f + a) (f + b)) := by
  rw [List.map_map]
  exact List.map_congr_left (fun xs _ => cutR_twice hft ha hb)
theorem jn_of {r d : Int} {xss yss : List (List Int)} {u u' H H' : Nat} (h : VA r d xss u H) (h' : VA r d yss u' H') (hl : xss.length = yss.length) (hs : H + H' ≤ 256) : JnR r d xss r d yss r d (joinM xss yss) true :=
  Or.inl ⟨⟨va_back h, va_back h', rfl, rfl, hl, by rw [h.hd, h'.hd]; exact hs⟩, rfl, rfl, rfl, rfl⟩
theorem join_cuts {r d : Int} {xss : List (List Int)} {u H f t : Nat} (h : VA r d xss u H) (hft : f ≤ t) (ht : t ≤ H) : joinM (joinM (xss.map (cutR 0 f)) (xss.map (cutR f t))) (xss.map (cutR t H)) = xss := by
  apply List.ext_getElem?
  intro k
  cases hx : xss[k]? with
  | none =>
    have hk : xss.length ≤ k := List.getElem?_eq_none_iff.1 hx
    exact List.getElem?_eq_none (by unfold joinM; simp; omega)
  | some xs =>
    have hl := (h.row k xs hx).1
    have e : ∀ a b, (xss.map (cutR a b))[k]? = some (cutR a b xs) := fun a b => by rw [List.getElem?_map, hx]; rfl
    rw [joinM_get (joinM_get (e 0 f) (e f t)) (e t H), ← hl, cutR_split hft (by omega)]
/-- The same with the number of rows under another name. -/
def MadeABn (yss : List (List Int)) (ln : Nat) (rr dd : Int) (ok : Bool) (w : World) (e : Ending) (w' : World) : Prop :=
  ∃ v, e = .returned (.tuple #[.agg #[.int .i64 rr, .int .i64 dd, v], .bool ok]) ∧ MOwn w' w.heap.size v ln yss ∧ w.grownBy w' none
theorem made_ln {yss : List (List Int)} {ln : Nat} {rr dd : Int} {ok : Bool} {w w' : World} {e : Ending} (h : MadeAB yss rr dd ok w e w') (hl : yss.length = ln) : MadeABn yss ln rr dd ok w e w' := by subst hl; exact h
theorem join_left {r d : Int} {xss yss : List (List Int)} {u H : Nat} (h : VA r d xss u H) (hl : xss.length = yss.length) : (joinM xss yss).map (cutR 0 H) = xss := by
  apply List.ext_getElem?
  intro k
  rw [List.getElem?_map]
  cases hx : xss[k]? with
  | none =>
    have hk : xss.length ≤ k := List.getElem?_eq_none_iff.1 hx
    rw [List.getElem?_eq_none (by rw [joinM_len hl]; exact hk)]; rfl
  | some xs =>
    have hk : k < yss.length := by have := (List.getElem?_eq_some_iff.1 hx).1; omega
    rw [joinM_get hx (List.getElem?_eq_getElem hk), ← (h.row k xs hx).1]
    show some (cutR 0 xs.length (xs ++ yss[k])) = some xs
    rw [cutR_left]
theorem join_right {r d : Int} {xss yss : List (List Int)} {u u' H H' : Nat} (h : VA r d xss u H) (h' : VA r d yss u' H') (hl : xss.length = yss.length) : (joinM xss yss).map (cutR H (H + H')) = yss := by
  apply List.ext_getElem?
  intro k
  rw [List.getElem?_map]
  cases hy : yss[k]? with
  | none =>
    have hk : yss.length ≤ k := List.getElem?_eq_none_iff.1 hy
    rw [List.getElem?_eq_none (by rw [joinM_len hl]; omega)]; rfl
  | some ys =>
    have hk : k < xss.length := by have := (List.getElem?_eq_some_iff.1 hy).1; omega
    have hx : xss[k]? = some xss[k] := List.getElem?_eq_getElem hk
    rw [joinM_get hx hy, ← (h.row k _ hx).1, ← (h'.row k ys hy).1]
    show some (cutR xss[k].length (xss[k].length + ys.length) (xss[k] ++ ys)) = some ys
    rw [cutR_right]
theorem join_rev {xss yss : List (List Int)} : joinM (yss.map List.reverse) (xss.map List.reverse) = (joinM xss yss).map List.reverse := by
  induction xss generalizing yss with
  | nil => cases yss <;> simp [joinM]
  | cons xs xss ih =>
    cases yss with
    | nil => simp [joinM]
    | cons ys yss =>
      have := ih (yss := yss)
      simp [joinM] at this ⊢
      exact this
theorem rv_of {r d : Int} {xss : List (List Int)} {u H : Nat} (h : VA r d xss u H) : RvR r d xss r d (xss.map List.reverse) true := Or.inl ⟨va_back h, rfl, rfl, rfl, rfl⟩
theorem pk_va {r d : Int} {xss : List (List Int)} {u H : Nat} (h : VA r d xss u H) : pkV r d xss = pkM 0 xss := by unfold pkV; rw [if_pos (va_back h)]
/-- The same with the number of rows under another name. -/
def MadeAn (yss : List (List Int)) (ln : Nat) (rr dd : Int) (w : World) (e : Ending) (w' : World) : Prop :=
  ∃ v, e = .returned (.agg #[.int .i64 rr, .int .i64 dd, v]) ∧ MOwn w' w.heap.size v ln yss ∧ w.grownBy w' none
theorem made_lnA {yss : List (List Int)} {ln : Nat} {rr dd : Int} {w w' : World} {e : Ending} (h : MadeA yss rr dd w e w') (hl : yss.length = ln) : MadeAn yss ln rr dd w e w' := by subst hl; exact h
set_option maxRecDepth 100000 in
set_option maxHeartbeats 4000000 in
theorem FnPeakOfJoin_walk (ao : Option Addr) (len cap : Nat) (w : World) (hb : BytesAt w ao len) (hlc : len ≤ cap) (hmax : len ≤ 9223372036854775807) :
    Calls Try.prog 10 #[.slice ao len cap] w (Holds w) := by
  by_cases hlen : 1048576 < len
  · clear hb
    go_enter Try.func10, Try.ntmps10
    go_wp2
    go_ret
    exact ⟨rfl, grown_refl _ _⟩
  have hd := drawJn_any ao len cap w hb hlc hmax
  have hm : decide (1048576 < (len : Int)) = false := by simp; omega
  clear hb hlen
  go_enter Try.func10, Try.ntmps10
  go_wp2_with fail
  refine hd.mono ?_
  rintro e w1 ⟨p, q, a, l, c, xss, p', q', a', l', c', yss, rfl, ⟨hmat, hl2, hs2, hg1⟩, hmay, hl2', hs2'⟩
  obtain rfl := hmat.1
  obtain rfl := hmay.1
  have hm0 : Mem w ((w1.alloc (.cells #[.int .i64 p, .int .i64 q, .slice a xss.length c] 25)).alloc (.cells #[.int .i64 p', .int .i64 q', .slice a' yss.length c'] 25)) [(w1.heap.size, .cells #[.int .i64 p, .int .i64 q, .slice a xss.length c] 25), (w1.heap.size + 1, .cells #[.int .i64 p', .int .i64 q', .slice a' yss.length c'] 25)] := by have := (((Mem.start w).grown hg1).block (.cells #[.int .i64 p, .int .i64 q, .slice a xss.length c] 25)).block (.cells #[.int .i64 p', .int .i64 q', .slice a' yss.length c'] 25); simpa using this
  have HM := Lib.hid hm0
  have HX := Lib.hid ((hmat.grown (grown_alloc w1 (.cells #[.int .i64 p, .int .i64 q, .slice a xss.length c] 25) none)).grown (grown_alloc _ (.cells #[.int .i64 p', .int .i64 q', .slice a' yss.length c'] 25) none))
  have HY := Lib.hid ((hmay.grown (grown_alloc w1 (.cells #[.int .i64 p, .int .i64 q, .slice a xss.length c] 25) none)).grown (grown_alloc _ (.cells #[.int .i64 p', .int .i64 q', .slice a' yss.length c'] 25) none))
  have hsz : szL xss ≤ 1048576 := by omega
  have hszy : szL yss ≤ 1048576 := by omega
  obtain ⟨rr, dd, zss, ok, hS⟩ : ∃ rr dd zss ok, JnR p q xss p' q' yss rr dd zss ok := AuR_there _ _ _ _
  have hszz : szL zss ≤ 1048576 := jn_sz hS
  have HS := Lib.hid hS
  clear hd hmat hmay hg1 hm0 hS
  obtain ⟨q00, q01, q02⟩ := three_cells (HM.out.get (b := w1.heap.size) (o := .cells #[.int .i64 p, .int .i64 q, .slice a xss.length c] 25) (by simp))
  obtain ⟨q10, q11, q12⟩ := three_cells (HM.out.get (b := w1.heap.size + 1) (o := .cells #[.int .i64 p', .int .i64 q', .slice a' yss.length c'] 25) (by simp))
  go_wp2_with fail
  refine (iJn_any xss yss a a' xss.length c yss.length c' p q p' q' _ rr dd zss ok HX.out hsz HY.out hszy HS.out).mono ?_
  rintro e w2 ⟨v2, rfl, ho2, hg2⟩
  obtain ⟨a2, c2, rfl, _, _, hm2, _⟩ := ho2.reads
  replace HM := Lib.hid ((HM.out.grown hg2).block (.cells #[.int .i64 rr, .int .i64 dd, .slice a2 zss.length c2] 25))
  replace HX := Lib.hid ((HX.out.grown hg2).grown (grown_alloc w2 (.cells #[.int .i64 rr, .int .i64 dd, .slice a2 zss.length c2] 25) none))
  replace HY := Lib.hid ((HY.out.grown hg2).grown (grown_alloc w2 (.cells #[.int .i64 rr, .int .i64 dd, .slice a2 zss.length c2] 25) none))
  have HC : Hid (Mat (w2.alloc (.cells #[.int .i64 rr, .int .i64 dd, .slice a2 zss.length c2] 25)) a2 zss.length zss) := by
    have h := hm2.grown (grown_alloc w2 (.cells #[.int .i64 rr, .int .i64 dd, .slice a2 zss.length c2] 25) none)
    first | exact h | (simp only [List.length_map] at h; exact h)
  clear q00 q01 q02 q10 q11 q12 hg2 ho2 hm2
  obtain ⟨q00, q01, q02⟩ := three_cells (HM.out.get (b := w1.heap.size) (o := .cells #[.int .i64 p, .int .i64 q, .slice a xss.length c] 25) (by simp))
  obtain ⟨q10, q11, q12⟩ := three_cells (HM.out.get (b := w1.heap.size + 1) (o := .cells #[.int .i64 p', .int .i64 q', .slice a' yss.length c'] 25) (by simp))
  obtain ⟨q20, q21, q22⟩ := three_cells (HM.out.get (b := w2.heap.size) (o := .cells #[.int .i64 rr, .int .i64 dd, .slice a2 zss.length c2] 25) (by simp))
  go_wp2_with fail
  refine (sJn_any xss yss a a' xss.length c yss.length c' p q p' q' _ rr dd zss ok HX.out hsz HY.out hszy HS.out).mono ?_
  rintro e w3 ⟨v3, rfl, ho3, hg3⟩
  obtain ⟨a3, c3, rfl, _, _, hm3, _⟩ := ho3.reads
  replace HM := Lib.hid ((HM.out.grown hg3).block (.cells #[.int .i64 rr, .int .i64 dd, .slice a3 zss.length c3] 25))
  replace HX := Lib.hid ((HX.out.grown hg3).grown (grown_alloc w3 (.cells #[.int .i64 rr, .int .i64 dd, .slice a3 zss.length c3] 25) none))
  replace HY := Lib.hid ((HY.out.grown hg3).grown (grown_alloc w3 (.cells #[.int .i64 rr, .int .i64 dd, .slice a3 zss.length c3] 25) none))
  replace HC := Lib.hid ((HC.out.grown hg3).grown (grown_alloc w3 (.cells #[.int .i64 rr, .int .i64 dd, .slice a3 zss.length c3] 25) none))
  have HW : Hid (Mat (w3.alloc (.cells #[.int .i64 rr, .int .i64 dd, .slice a3 zss.length c3] 25)) a3 zss.length zss) := by
    have h := hm3.grown (grown_alloc w3 (.cells #[.int .i64 rr, .int .i64 dd, .slice a3 zss.length c3] 25) none)
    first | exact h | (simp only [List.length_map] at h; exact h)
  clear q00 q01 q02 q10 q11 q12 q20 q21 q22 hg3 ho3 hm3
  obtain ⟨q00, q01, q02⟩ := three_cells (HM.out.get (b := w1.heap.size) (o := .cells #[.int .i64 p, .int .i64 q, .slice a xss.length c] 25) (by simp))
  obtain ⟨q10, q11, q12⟩ := three_cells (HM.out.get (b := w1.heap.size + 1) (o := .cells #[.int .i64 p', .int .i64 q', .slice a' yss.length c'] 25) (by simp))
  obtain ⟨q20, q21, q22⟩ := three_cells (HM.out.get (b := w2.heap.size) (o := .cells #[.int .i64 rr, .int .i64 dd, .slice a2 zss.length c2] 25) (by simp))
  obtain ⟨q30, q31, q32⟩ := three_cells (HM.out.get (b := w3.heap.size) (o := .cells #[.int .i64 rr, .int .i64 dd, .slice a3 zss.length c3] 25) (by simp))
  go_wp2_with fail
  refine (equalAudio_same zss a2 a3 _ c2 c3 rr dd _ HC.out HW.out hszz).mono ?_
  rintro e w4 ⟨rfl, hg4⟩
  replace HM := Lib.hid (HM.out.grown hg4)
  replace HX := Lib.hid (HX.out.grown hg4)
  replace HY := Lib.hid (HY.out.grown hg4)
  replace HC := Lib.hid (HC.out.grown hg4)
  replace HW := Lib.hid (HW.out.grown hg4)
  clear q00 q01 q02 q10 q11 q12 q20 q21 q22 q30 q31 q32 hg4
  cases ok with
  | false =>
    obtain ⟨q00, q01, q02⟩ := three_cells (HM.out.get (b := w1.heap.size) (o := .cells #[.int .i64 p, .int .i64 q, .slice a xss.length c] 25) (by simp))
    obtain ⟨q10, q11, q12⟩ := three_cells (HM.out.get (b := w1.heap.size + 1) (o := .cells #[.int .i64 p', .int .i64 q', .slice a' yss.length c'] 25) (by simp))
    obtain ⟨q20, q21, q22⟩ := three_cells (HM.out.get (b := w2.heap.size) (o := .cells #[.int .i64 rr, .int .i64 dd, .slice a2 zss.length c2] 25) (by simp))
    obtain ⟨q30, q31, q32⟩ := three_cells (HM.out.get (b := w3.heap.size) (o := .cells #[.int .i64 rr, .int .i64 dd, .slice a3 zss.length c3] 25) (by simp))
    go_wp2_with fail
    refine (equalAudio_same zss a2 a3 _ c2 c3 rr dd _ HC.out HW.out hszz).mono ?_
    rintro e w5 ⟨rfl, hg5⟩
    replace HM := Lib.hid (HM.out.grown hg5)
    replace HX := Lib.hid (HX.out.grown hg5)
    replace HY := Lib.hid (HY.out.grown hg5)
    replace HC := Lib.hid (HC.out.grown hg5)
    replace HW := Lib.hid (HW.out.grown hg5)
    clear q00 q01 q02 q10 q11 q12 q20 q21 q22 q30 q31 q32 hg5
    obtain ⟨q00, q01, q02⟩ := three_cells (HM.out.get (b := w1.heap.size) (o := .cells #[.int .i64 p, .int .i64 q, .slice a xss.length c] 25) (by simp))
    obtain ⟨q10, q11, q12⟩ := three_cells (HM.out.get (b := w1.heap.size + 1) (o := .cells #[.int .i64 p', .int .i64 q', .slice a' yss.length c'] 25) (by simp))
    obtain ⟨q20, q21, q22⟩ := three_cells (HM.out.get (b := w2.heap.size) (o := .cells #[.int .i64 rr, .int .i64 dd, .slice a2 zss.length c2] 25) (by simp))
    obtain ⟨q30, q31, q32⟩ := three_cells (HM.out.get (b := w3.heap.size) (o := .cells #[.int .i64 rr, .int .i64 dd, .slice a3 zss.length c3] 25) (by simp))
    go_wp2
    go_ret
    exact ⟨rfl, HM.out.g⟩
  | true =>
  obtain ⟨⟨hva, hvb, e1, e2, hle, hsum⟩, rfl, rfl, rfl⟩ : joinC p q xss p' q' yss ∧ p = rr ∧ q = dd ∧ zss = joinM xss yss := by
    rcases HS.out with ⟨h1, _, h3, h4, h5⟩ | ⟨_, h1, _⟩
    · exact ⟨h1, h3.symm, h4.symm, h5⟩
    · cases h1
  subst e1 e2
  obtain ⟨u, H, hV⟩ := va_of hva
  obtain ⟨u', H', hV'⟩ := va_of hvb
  obtain rfl := va_u hV hV' rfl
  rw [hV.hd, hV'.hd] at hsum
  have HV := Lib.hid hV
  have HV' := Lib.hid hV'
  have HLE := Lib.hid hle
  rw [show (joinM xss yss).length = xss.length from joinM_len hle] at HM HC HW
  clear hV hV' hva hvb hle HS
  have hVj := va_join HV.out HV'.out HLE.out hsum
  obtain ⟨za, hza⟩ : ∃ z, pkM 0 xss = z := ⟨_, rfl⟩
  obtain ⟨zb, hzb⟩ : ∃ z, pkM 0 yss = z := ⟨_, rfl⟩
  have HA := Lib.hid ((pk_va HV.out).trans hza)
  have HB := Lib.hid ((pk_va HV'.out).trans hzb)
  have HJ0 : Hid (pkV p q (joinM xss yss) = max za zb) := by show _ = _; rw [pk_va hVj, pkM_join _ _ HLE.out 0 (Int.le_refl _), hza, hzb]
  have hT1 : True := trivial
  have hT2 : True := trivial
  have hT3 : True := trivial
  clear hVj hza hzb
  obtain ⟨q00, q01, q02⟩ := three_cells (HM.out.get (b := w1.heap.size) (o := .cells #[.int .i64 p, .int .i64 q, .slice a xss.length c] 25) (by simp))
  obtain ⟨q10, q11, q12⟩ := three_cells (HM.out.get (b := w1.heap.size + 1) (o := .cells #[.int .i64 p, .int .i64 q, .slice a' yss.length c'] 25) (by simp))
  obtain ⟨q20, q21, q22⟩ := three_cells (HM.out.get (b := w2.heap.size) (o := .cells #[.int .i64 p, .int .i64 q, .slice a2 xss.length c2] 25) (by simp))
  obtain ⟨q30, q31, q32⟩ := three_cells (HM.out.get (b := w3.heap.size) (o := .cells #[.int .i64 p, .int .i64 q, .slice a3 xss.length c3] 25) (by simp))
  by_cases hlt : za < zb
  · have l1 : decide (za < zb) = true := by simpa using hlt
    have HJ1 : Hid (pkV p q (joinM xss yss) = zb) := by show _ = _; rw [HJ0.out]; omega
    go_wp2_with fail
    go_region_held3 (fun w' => w'.cell? ⟨w2.heap.size, 0, none⟩ = some (.int .i64 p) ∧ w'.cell? ⟨w2.heap.size, 1, none⟩ = some (.int .i64 q) ∧ w'.cell? ⟨w2.heap.size, 2, none⟩ = some (.slice a2 xss.length c2) ∧ w'.cell? ⟨w1.heap.size, 0, none⟩ = some (.int .i64 p) ∧ w'.cell? ⟨w1.heap.size, 1, none⟩ = some (.int .i64 q) ∧ w'.cell? ⟨w1.heap.size, 2, none⟩ = some (.slice a xss.length c) ∧ w'.cell? ⟨w1.heap.size + 1, 0, none⟩ = some (.int .i64 p) ∧ w'.cell? ⟨w1.heap.size + 1, 1, none⟩ = some (.int .i64 q) ∧ w'.cell? ⟨w1.heap.size + 1, 2, none⟩ = some (.slice a' yss.length c')) (first | go_keep | exact ⟨by assumption, by assumption, by assumption, by assumption, by assumption, by assumption, by assumption, by assumption, by assumption⟩) ((first
      | (go_at_call 30; have Tk := hT1; refine (iPk_any (joinM xss yss) a2 xss.length c2 p q _ zb (HC.out.grown (grown_drew w4 none)) hszz HJ1.out).mono ?_; rintro e n1 ⟨rfl, hg⟩; have HG1 := Lib.hid (grown_trans (grown_drew w4 none) hg); have s1q20 := hg.cell q20 (by simp); have s1q21 := hg.cell q21 (by simp); have s1q22 := hg.cell q22 (by simp); have s1q00 := hg.cell q00 (by simp); have s1q01 := hg.cell q01 (by simp); have s1q02 := hg.cell q02 (by simp); have s1q10 := hg.cell q10 (by simp); have s1q11 := hg.cell q11 (by simp); have s1q12 := hg.cell q12 (by simp); clear hT1 Tk hg)
      | (go_at_call 30; have Tk := hT2; refine (iPk_any xss a xss.length c p q _ za (HX.out.grown HG1.out) hsz HA.out).mono ?_; rintro e n2 ⟨rfl, hg⟩; have HG2 := Lib.hid (grown_trans HG1.out hg); have s2q20 := hg.cell s1q20 (by simp); have s2q21 := hg.cell s1q21 (by simp); have s2q22 := hg.cell s1q22 (by simp); have s2q00 := hg.cell s1q00 (by simp); have s2q01 := hg.cell s1q01 (by simp); have s2q02 := hg.cell s1q02 (by simp); have s2q10 := hg.cell s1q10 (by simp); have s2q11 := hg.cell s1q11 (by simp); have s2q12 := hg.cell s1q12 (by simp); clear hT2 Tk hg)
      | (go_at_call 30; have Tk := hT3; refine (iPk_any yss a' yss.length c' p q _ zb (HY.out.grown HG2.out) hszy HB.out).mono ?_; rintro e n3 ⟨rfl, hg⟩; have HG3 := Lib.hid (grown_trans HG2.out hg); have s3q20 := hg.cell s2q20 (by simp); have s3q21 := hg.cell s2q21 (by simp); have s3q22 := hg.cell s2q22 (by simp); have s3q00 := hg.cell s2q00 (by simp); have s3q01 := hg.cell s2q01 (by simp); have s3q02 := hg.cell s2q02 (by simp); have s3q10 := hg.cell s2q10 (by simp); have s3q11 := hg.cell s2q11 (by simp); have s3q12 := hg.cell s2q12 (by simp); clear hT3 Tk hg)))
    all_goals
      replace HM := Lib.hid (HM.out.grown HG3.out)
      clear q20 q21 q22 q00 q01 q02 q10 q11 q12 s1q20 s1q21 s1q22 s1q00 s1q01 s1q02 s1q10 s1q11 s1q12 s2q20 s2q21 s2q22 s2q00 s2q01 s2q02 s2q10 s2q11 s2q12 s3q20 s3q21 s3q22 s3q00 s3q01 s3q02 s3q10 s3q11 s3q12 q30 q31 q32 HG1 HG2 HG3
      go_wp2
      go_ret
      exact ⟨by simp, HM.out.g⟩
  have l1 : decide (za < zb) = false := by simpa using hlt
  have HJ1 : Hid (pkV p q (joinM xss yss) = za) := by show _ = _; rw [HJ0.out]; omega
  go_wp2_with fail
  go_region_held3 (fun w' => w'.cell? ⟨w2.heap.size, 0, none⟩ = some (.int .i64 p) ∧ w'.cell? ⟨w2.heap.size, 1, none⟩ = some (.int .i64 q) ∧ w'.cell? ⟨w2.heap.size, 2, none⟩ = some (.slice a2 xss.length c2) ∧ w'.cell? ⟨w1.heap.size, 0, none⟩ = some (.int .i64 p) ∧ w'.cell? ⟨w1.heap.size, 1, none⟩ = some (.int .i64 q) ∧ w'.cell? ⟨w1.heap.size, 2, none⟩ = some (.slice a xss.length c) ∧ w'.cell? ⟨w1.heap.size + 1, 0, none⟩ = some (.int .i64 p) ∧ w'.cell? ⟨w1.heap.size + 1, 1, none⟩ = some (.int .i64 q) ∧ w'.cell? ⟨w1.heap.size + 1, 2, none⟩ = some (.slice a' yss.length c')) (first | go_keep | exact ⟨by assumption, by assumption, by assumption, by assumption, by assumption, by assumption, by assumption, by assumption, by assumption⟩) ((first
    | (go_at_call 30; have Tk := hT1; refine (iPk_any (joinM xss yss) a2 xss.length c2 p q _ za (HC.out.grown (grown_drew w4 none)) hszz HJ1.out).mono ?_; rintro e n1 ⟨rfl, hg⟩; have HG1 := Lib.hid (grown_trans (grown_drew w4 none) hg); have s1q20 := hg.cell q20 (by simp); have s1q21 := hg.cell q21 (by simp); have s1q22 := hg.cell q22 (by simp); have s1q00 := hg.cell q00 (by simp); have s1q01 := hg.cell q01 (by simp); have s1q02 := hg.cell q02 (by simp); have s1q10 := hg.cell q10 (by simp); have s1q11 := hg.cell q11 (by simp); have s1q12 := hg.cell q12 (by simp); clear hT1 Tk hg)
    | (go_at_call 30; have Tk := hT2; refine (iPk_any xss a xss.length c p q _ za (HX.out.grown HG1.out) hsz HA.out).mono ?_; rintro e n2 ⟨rfl, hg⟩; have HG2 := Lib.hid (grown_trans HG1.out hg); have s2q20 := hg.cell s1q20 (by simp); have s2q21 := hg.cell s1q21 (by simp); have s2q22 := hg.cell s1q22 (by simp); have s2q00 := hg.cell s1q00 (by simp); have s2q01 := hg.cell s1q01 (by simp); have s2q02 := hg.cell s1q02 (by simp); have s2q10 := hg.cell s1q10 (by simp); have s2q11 := hg.cell s1q11 (by simp); have s2q12 := hg.cell s1q12 (by simp); clear hT2 Tk hg)
    | (go_at_call 30; have Tk := hT3; refine (iPk_any yss a' yss.length c' p q _ zb (HY.out.grown HG2.out) hszy HB.out).mono ?_; rintro e n3 ⟨rfl, hg⟩; have HG3 := Lib.hid (grown_trans HG2.out hg); have s3q20 := hg.cell s2q20 (by simp); have s3q21 := hg.cell s2q21 (by simp); have s3q22 := hg.cell s2q22 (by simp); have s3q00 := hg.cell s2q00 (by simp); have s3q01 := hg.cell s2q01 (by simp); have s3q02 := hg.cell s2q02 (by simp); have s3q10 := hg.cell s2q10 (by simp); have s3q11 := hg.cell s2q11 (by simp); have s3q12 := hg.cell s2q12 (by simp); clear hT3 Tk hg)))
  all_goals
    replace HM := Lib.hid (HM.out.grown HG3.out)
    clear q20 q21 q22 q00 q01 q02 q10 q11 q12 s1q20 s1q21 s1q22 s1q00 s1q01 s1q02 s1q10 s1q11 s1q12 s2q20 s2q21 s2q22 s2q00 s2q01 s2q02 s2q10 s2q11 s2q12 s3q20 s3q21 s3q22 s3q00 s3q01 s3q02 s3q10 s3q11 s3q12 q30 q31 q32 HG1 HG2 HG3
    go_wp2
    go_ret
    exact ⟨by simp, HM.out.g⟩

end Go.Proofs.Ytncbgofcimghnaa
