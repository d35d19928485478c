/-
  The walk of 'FnReverseJoin': it returns true and writes nothing that was there. For every code.
-/
import Derived.Test.YtncbgofcimghnaaDrawJn
import Derived.Test.YtncbgofcimghnaaEqA
import Derived.Test.YtncbgofcimghnaaEdS
import Derived.Test.YtncbgofcimghnaaEdQ
import Derived.Test.YtncbgofcimghnaaEdZ
import Derived.Test.YtncbgofcimghnaaMem
import Derived.Test.YtncbgofcimghnaaQA
import Derived.Test.YtncbgofcimghnaaCnt
import Derived.Test.YtncbgofcimghnaaEdW
import Derived.Test.YtncbgofcimghnaaPkI
import Derived.Deep.RegionHeld3
import Derived.Deep.Cut
import Derived.Deep.CutRange
namespace Go.Proofs.Ytncbgofcimghnaa
open Go.RowKit

theorem cu_of {r d : Int} {xss : List (List Int)} {u H f t : Nat} {a b : Int} (h : VA r d xss u H) (hf : f ≤ t) (ht : t ≤ H) (ha : a = (f : Int)) (hb : b = (t : Int)) : CuR r d a b xss r d (xss.map (cutR f t)) true := by
  subst ha hb
  refine Or.inl ⟨⟨va_back h, by omega, by omega, by rw [h.hd]; omega⟩, rfl, rfl, rfl, by simp⟩
theorem cut_cut {r d : Int} {xss : List (List Int)} {u H f t a b : Nat} (_h : VA r d xss u H) (hft : f ≤ t) (ha : a ≤ b) (hb : b ≤ t - f) : (xss.map (cutR f t)).map (cutR a b) = xss.map (cutR (f + a) (f + b)) := by
  rw [List.map_map]
  exact List.map_congr_left (fun xs _ => cutR_twice hft ha hb)
theorem jn_of {r d : Int} {xss yss : List (List Int)} {u u' H H' : Nat} (h : VA r d xss u H) (h' : VA r d yss u' H') (hl : xss.length = yss.length) (hs : H + H' ≤ 256) : JnR r d xss r d yss r d (joinM xss yss) true :=
  Or.inl ⟨⟨va_back h, va_back h', rfl, rfl, hl, by rw [h.hd, h'.hd]; exact hs⟩, rfl, rfl, rfl, rfl⟩
theorem join_cuts {r d : Int} {xss : List (List Int)} {u H f t : Nat} (h : VA r d xss u H) (hft : f ≤ t) (ht : t ≤ H) : joinM (joinM (xss.map (cutR 0 f)) (xss.map (cutR f t))) (xss.map (cutR t H)) = xss := by
  apply List.ext_getElem?
  intro k
  cases hx : xss[k]? with
  | none =>
    have hk : xss.length ≤ k := List.getElem?_eq_none_iff.1 hx
    exact List.getElem?_eq_none (by unfold joinM; simp; omega)
  | some xs =>
    have hl := (h.row k xs hx).1
    have e : ∀ a b, (xss.map (cutR a b))[k]? = some (cutR a b xs) := fun a b => by rw [List.getElem?_map, hx]; rfl
    rw [joinM_get (joinM_get (e 0 f) (e f t)) (e t H), ← hl, cutR_split hft (by omega)]
/-- The same with the number of rows under another name. -/
def MadeABn (yss : List (List Int)) (ln : Nat) (rr dd : Int) (ok : Bool) (w : World) (e : Ending) (w' : World) : Prop :=
  ∃ v, e = .returned (.tuple #[.agg #[.int .i64 rr, .int .i64 dd, v], .bool ok]) ∧ MOwn w' w.heap.size v ln yss ∧ w.grownBy w' none
theorem made_ln {yss : List (List Int)} {ln : Nat} {rr dd : Int} {ok : Bool} {w w' : World} {e : Ending} (h : MadeAB yss rr dd ok w e w') (hl : yss.length = ln) : MadeABn yss ln rr dd ok w e w' := by subst hl; exact h
theorem join_left {r d : Int} {xss yss : List (List Int)} {u H : Nat} (h : VA r d xss u H) (hl : xss.length = yss.length) : (joinM xss yss).map (cutR 0 H) = xss := by
  apply List.ext_getElem?
  intro k
  rw [List.getElem?_map]
  cases hx : xss[k]? with
  | none =>
    have hk : xss.length ≤ k := List.getElem?_eq_none_iff.1 hx
    rw [List.getElem?_eq_none (by rw [joinM_len hl]; exact hk)]; rfl
  | some xs =>
    have hk : k < yss.length := by have := (List.getElem?_eq_some_iff.1 hx).1; omega
    rw [joinM_get hx (List.getElem?_eq_getElem hk), ← (h.row k xs hx).1]
    show some (cutR 0 xs.length (xs ++ yss[k])) = some xs
    rw [cutR_left]
theorem join_right {r d : Int} {xss yss : List (List Int)} {u u' H H' : Nat} (h : VA r d xss u H) (h' : VA r d yss u' H') (hl : xss.length = yss.length) : (joinM xss yss).map (cutR H (H + H')) = yss := by
  apply List.ext_getElem?
  intro k
  rw [List.getElem?_map]
  cases hy : yss[k]? with
  | none =>
    have hk : yss.length ≤ k := List.getElem?_eq_none_iff.1 hy
    rw [List.getElem?_eq_none (by rw [joinM_len hl]; omega)]; rfl
  | some ys =>
    have hk : k < xss.length := by have := (List.getElem?_eq_some_iff.1 hy).1; omega
    have hx : xss[k]? = some xss[k] := List.getElem?_eq_getElem hk
    rw [joinM_get hx hy, ← (h.row k _ hx).1, ← (h'.row k ys hy).1]
    show some (cutR xss[k].length (xss[k].length + ys.length) (xss[k] ++ ys)) = some ys
    rw [cutR_right]
theorem join_rev {xss yss : List (List Int)} : joinM (yss.map List.reverse) (xss.map List.reverse) = (joinM xss yss).map List.reverse := by
  induction xss generalizing yss with
  | nil => cases yss <;> simp [joinM]
  | cons xs xss ih =>
    cases yss with
    | nil => simp [joinM]
    | cons ys yss =>
      have := ih (yss := yss)
      simp [joinM] at this ⊢
      exact this
theorem rv_of {r d : Int} {xss : List (List Int)} {u H : Nat} (h : VA r d xss u H) : RvR r d xss r d (xss.map List.reverse) true := Or.inl ⟨va_back h, rfl, rfl, rfl, rfl⟩
theorem pk_va {r d : Int} {xss : List (List Int)} {u H : Nat} (h : VA r d xss u H) : pkV r d xss = pkM 0 xss := by unfold pkV; rw [if_pos (va_back h)]
/-- The same with the number of rows under another name. -/
def MadeAn (yss : List (List Int)) (ln : Nat) (rr dd : Int) (w : World) (e : Ending) (w' : World) : Prop :=
  ∃ v, e = .returned (.agg #[.int .i64 rr, .int .i64 dd, v]) ∧ MOwn w' w.heap.size v ln yss ∧ w.grownBy w' none
theorem made_lnA {yss : List (List Int)} {ln : Nat} {rr dd : Int} {w w' : World} {e : Ending} (h : MadeA yss rr dd w e w') (hl : yss.length = ln) : MadeAn yss ln rr dd w e w' := by subst hl; exact h
set_option maxRecDepth 100000 in
set_option maxHeartbeats 4000000 in
theorem FnReverseJoin_walk (ao : Option Addr) (len cap : Nat) (w : World) (hb : BytesAt w ao len) (hlc : len ≤ cap) (hmax : len ≤ 9223372036854775807) :
    Calls Try.prog 7 #[.slice ao len cap] w (Holds w) := by
  by_cases hlen : 1048576 < len
  · clear hb
    go_enter Try.func7, Try.ntmps7
    go_wp2
    go_ret
    exact ⟨rfl, grown_refl _ _⟩
  have hd := drawJn_any ao len cap w hb hlc hmax
  have hm : decide (1048576 < (len : Int)) = false := by simp; omega
  clear hb hlen
  go_enter Try.func7, Try.ntmps7
  go_wp2_with fail
  refine hd.mono ?_
  rintro e w1 ⟨p, q, a, l, c, xss, p', q', a', l', c', yss, rfl, ⟨hmat, hl2, hs2, hg1⟩, hmay, hl2', hs2'⟩
  obtain rfl := hmat.1
  obtain rfl := hmay.1
  have hm0 : Mem w ((w1.alloc (.cells #[.int .i64 p, .int .i64 q, .slice a xss.length c] 25)).alloc (.cells #[.int .i64 p', .int .i64 q', .slice a' yss.length c'] 25)) [(w1.heap.size, .cells #[.int .i64 p, .int .i64 q, .slice a xss.length c] 25), (w1.heap.size + 1, .cells #[.int .i64 p', .int .i64 q', .slice a' yss.length c'] 25)] := by have := (((Mem.start w).grown hg1).block (.cells #[.int .i64 p, .int .i64 q, .slice a xss.length c] 25)).block (.cells #[.int .i64 p', .int .i64 q', .slice a' yss.length c'] 25); simpa using this
  have HM := Lib.hid hm0
  have HX := Lib.hid ((hmat.grown (grown_alloc w1 (.cells #[.int .i64 p, .int .i64 q, .slice a xss.length c] 25) none)).grown (grown_alloc _ (.cells #[.int .i64 p', .int .i64 q', .slice a' yss.length c'] 25) none))
  have HY := Lib.hid ((hmay.grown (grown_alloc w1 (.cells #[.int .i64 p, .int .i64 q, .slice a xss.length c] 25) none)).grown (grown_alloc _ (.cells #[.int .i64 p', .int .i64 q', .slice a' yss.length c'] 25) none))
  have hsz : szL xss ≤ 1048576 := by omega
  have hszy : szL yss ≤ 1048576 := by omega
  obtain ⟨rr, dd, zss, ok, hS⟩ : ∃ rr dd zss ok, JnR p q xss p' q' yss rr dd zss ok := AuR_there _ _ _ _
  have hszz : szL zss ≤ 1048576 := jn_sz hS
  have HS := Lib.hid hS
  clear hd hmat hmay hg1 hm0 hS
  obtain ⟨q00, q01, q02⟩ := three_cells (HM.out.get (b := w1.heap.size) (o := .cells #[.int .i64 p, .int .i64 q, .slice a xss.length c] 25) (by simp))
  obtain ⟨q10, q11, q12⟩ := three_cells (HM.out.get (b := w1.heap.size + 1) (o := .cells #[.int .i64 p', .int .i64 q', .slice a' yss.length c'] 25) (by simp))
  go_wp2_with fail
  refine (iJn_any xss yss a a' xss.length c yss.length c' p q p' q' _ rr dd zss ok HX.out hsz HY.out hszy HS.out).mono ?_
  rintro e w2 ⟨v2, rfl, ho2, hg2⟩
  obtain ⟨a2, c2, rfl, _, _, hm2, _⟩ := ho2.reads
  replace HM := Lib.hid ((HM.out.grown hg2).block (.cells #[.int .i64 rr, .int .i64 dd, .slice a2 zss.length c2] 25))
  replace HX := Lib.hid ((HX.out.grown hg2).grown (grown_alloc w2 (.cells #[.int .i64 rr, .int .i64 dd, .slice a2 zss.length c2] 25) none))
  replace HY := Lib.hid ((HY.out.grown hg2).grown (grown_alloc w2 (.cells #[.int .i64 rr, .int .i64 dd, .slice a2 zss.length c2] 25) none))
  have HC : Hid (Mat (w2.alloc (.cells #[.int .i64 rr, .int .i64 dd, .slice a2 zss.length c2] 25)) a2 zss.length zss) := by
    have h := hm2.grown (grown_alloc w2 (.cells #[.int .i64 rr, .int .i64 dd, .slice a2 zss.length c2] 25) none)
    first | exact h | (simp only [List.length_map] at h; exact h)
  clear q00 q01 q02 q10 q11 q12 hg2 ho2 hm2
  obtain ⟨q00, q01, q02⟩ := three_cells (HM.out.get (b := w1.heap.size) (o := .cells #[.int .i64 p, .int .i64 q, .slice a xss.length c] 25) (by simp))
  obtain ⟨q10, q11, q12⟩ := three_cells (HM.out.get (b := w1.heap.size + 1) (o := .cells #[.int .i64 p', .int .i64 q', .slice a' yss.length c'] 25) (by simp))
  obtain ⟨q20, q21, q22⟩ := three_cells (HM.out.get (b := w2.heap.size) (o := .cells #[.int .i64 rr, .int .i64 dd, .slice a2 zss.length c2] 25) (by simp))
  go_wp2_with fail
  refine (sJn_any xss yss a a' xss.length c yss.length c' p q p' q' _ rr dd zss ok HX.out hsz HY.out hszy HS.out).mono ?_
  rintro e w3 ⟨v3, rfl, ho3, hg3⟩
  obtain ⟨a3, c3, rfl, _, _, hm3, _⟩ := ho3.reads
  replace HM := Lib.hid ((HM.out.grown hg3).block (.cells #[.int .i64 rr, .int .i64 dd, .slice a3 zss.length c3] 25))
  replace HX := Lib.hid ((HX.out.grown hg3).grown (grown_alloc w3 (.cells #[.int .i64 rr, .int .i64 dd, .slice a3 zss.length c3] 25) none))
  replace HY := Lib.hid ((HY.out.grown hg3).grown (grown_alloc w3 (.cells #[.int .i64 rr, .int .i64 dd, .slice a3 zss.length c3] 25) none))
  replace HC := Lib.hid ((HC.out.grown hg3).grown (grown_alloc w3 (.cells #[.int .i64 rr, .int .i64 dd, .slice a3 zss.length c3] 25) none))
  have HW : Hid (Mat (w3.alloc (.cells #[.int .i64 rr, .int .i64 dd, .slice a3 zss.length c3] 25)) a3 zss.length zss) := by
    have h := hm3.grown (grown_alloc w3 (.cells #[.int .i64 rr, .int .i64 dd, .slice a3 zss.length c3] 25) none)
    first | exact h | (simp only [List.length_map] at h; exact h)
  clear q00 q01 q02 q10 q11 q12 q20 q21 q22 hg3 ho3 hm3
  obtain ⟨q00, q01, q02⟩ := three_cells (HM.out.get (b := w1.heap.size) (o := .cells #[.int .i64 p, .int .i64 q, .slice a xss.length c] 25) (by simp))
  obtain ⟨q10, q11, q12⟩ := three_cells (HM.out.get (b := w1.heap.size + 1) (o := .cells #[.int .i64 p', .int .i64 q', .slice a' yss.length c'] 25) (by simp))
  obtain ⟨q20, q21, q22⟩ := three_cells (HM.out.get (b := w2.heap.size) (o := .cells #[.int .i64 rr, .int .i64 dd, .slice a2 zss.length c2] 25) (by simp))
  obtain ⟨q30, q31, q32⟩ := three_cells (HM.out.get (b := w3.heap.size) (o := .cells #[.int .i64 rr, .int .i64 dd, .slice a3 zss.length c3] 25) (by simp))
  go_wp2_with fail
  refine (equalAudio_same zss a2 a3 _ c2 c3 rr dd _ HC.out HW.out hszz).mono ?_
  rintro e w4 ⟨rfl, hg4⟩
  replace HM := Lib.hid (HM.out.grown hg4)
  replace HX := Lib.hid (HX.out.grown hg4)
  replace HY := Lib.hid (HY.out.grown hg4)
  replace HC := Lib.hid (HC.out.grown hg4)
  replace HW := Lib.hid (HW.out.grown hg4)
  clear q00 q01 q02 q10 q11 q12 q20 q21 q22 q30 q31 q32 hg4
  cases ok with
  | false =>
    obtain ⟨q00, q01, q02⟩ := three_cells (HM.out.get (b := w1.heap.size) (o := .cells #[.int .i64 p, .int .i64 q, .slice a xss.length c] 25) (by simp))
    obtain ⟨q10, q11, q12⟩ := three_cells (HM.out.get (b := w1.heap.size + 1) (o := .cells #[.int .i64 p', .int .i64 q', .slice a' yss.length c'] 25) (by simp))
    obtain ⟨q20, q21, q22⟩ := three_cells (HM.out.get (b := w2.heap.size) (o := .cells #[.int .i64 rr, .int .i64 dd, .slice a2 zss.length c2] 25) (by simp))
    obtain ⟨q30, q31, q32⟩ := three_cells (HM.out.get (b := w3.heap.size) (o := .cells #[.int .i64 rr, .int .i64 dd, .slice a3 zss.length c3] 25) (by simp))
    go_wp2_with fail
    refine (equalAudio_same zss a2 a3 _ c2 c3 rr dd _ HC.out HW.out hszz).mono ?_
    rintro e w5 ⟨rfl, hg5⟩
    replace HM := Lib.hid (HM.out.grown hg5)
    replace HX := Lib.hid (HX.out.grown hg5)
    replace HY := Lib.hid (HY.out.grown hg5)
    replace HC := Lib.hid (HC.out.grown hg5)
    replace HW := Lib.hid (HW.out.grown hg5)
    clear q00 q01 q02 q10 q11 q12 q20 q21 q22 q30 q31 q32 hg5
    obtain ⟨q00, q01, q02⟩ := three_cells (HM.out.get (b := w1.heap.size) (o := .cells #[.int .i64 p, .int .i64 q, .slice a xss.length c] 25) (by simp))
    obtain ⟨q10, q11, q12⟩ := three_cells (HM.out.get (b := w1.heap.size + 1) (o := .cells #[.int .i64 p', .int .i64 q', .slice a' yss.length c'] 25) (by simp))
    obtain ⟨q20, q21, q22⟩ := three_cells (HM.out.get (b := w2.heap.size) (o := .cells #[.int .i64 rr, .int .i64 dd, .slice a2 zss.length c2] 25) (by simp))
    obtain ⟨q30, q31, q32⟩ := three_cells (HM.out.get (b := w3.heap.size) (o := .cells #[.int .i64 rr, .int .i64 dd, .slice a3 zss.length c3] 25) (by simp))
    go_wp2
    go_ret
    exact ⟨rfl, HM.out.g⟩
  | true =>
  obtain ⟨⟨hva, hvb, e1, e2, hle, hsum⟩, rfl, rfl, rfl⟩ : joinC p q xss p' q' yss ∧ p = rr ∧ q = dd ∧ zss = joinM xss yss := by
    rcases HS.out with ⟨h1, _, h3, h4, h5⟩ | ⟨_, h1, _⟩
    · exact ⟨h1, h3.symm, h4.symm, h5⟩
    · cases h1
  subst e1 e2
  obtain ⟨u, H, hV⟩ := va_of hva
  obtain ⟨u', H', hV'⟩ := va_of hvb
  obtain rfl := va_u hV hV' rfl
  rw [hV.hd, hV'.hd] at hsum
  have HV := Lib.hid hV
  have HV' := Lib.hid hV'
  have HLE := Lib.hid hle
  rw [show (joinM xss yss).length = xss.length from joinM_len hle] at HM HC HW
  clear hV hV' hva hvb hle HS
  have hR1 := rv_of HV.out
  have hR2 := rv_of HV'.out
  have hVj := va_join HV.out HV'.out HLE.out hsum
  have hR3 := rv_of hVj
  have hJ := jn_of (va_rev HV'.out) (va_rev HV.out) (by simp [HLE.out]) (by omega)
  rw [join_rev] at hJ
  have HR1 := Lib.hid hR1
  have HR2 := Lib.hid hR2
  have HR3 := Lib.hid hR3
  have HJ := Lib.hid hJ
  have hszr : szL (xss.map List.reverse) ≤ 1048576 := rv_sz hR1
  have hszs : szL (yss.map List.reverse) ≤ 1048576 := rv_sz hR2
  have hszt : szL ((joinM xss yss).map List.reverse) ≤ 1048576 := rv_sz hR3
  have hlt : ((joinM xss yss).map List.reverse).length = xss.length := by rw [List.length_map, joinM_len HLE.out]
  have HLT := Lib.hid hlt
  clear hR1 hR2 hR3 hVj hJ hlt
  obtain ⟨q00, q01, q02⟩ := three_cells (HM.out.get (b := w1.heap.size) (o := .cells #[.int .i64 p, .int .i64 q, .slice a xss.length c] 25) (by simp))
  obtain ⟨q10, q11, q12⟩ := three_cells (HM.out.get (b := w1.heap.size + 1) (o := .cells #[.int .i64 p, .int .i64 q, .slice a' yss.length c'] 25) (by simp))
  obtain ⟨q20, q21, q22⟩ := three_cells (HM.out.get (b := w2.heap.size) (o := .cells #[.int .i64 p, .int .i64 q, .slice a2 xss.length c2] 25) (by simp))
  obtain ⟨q30, q31, q32⟩ := three_cells (HM.out.get (b := w3.heap.size) (o := .cells #[.int .i64 p, .int .i64 q, .slice a3 xss.length c3] 25) (by simp))
  have hT1 : True := trivial
  have hT2 : True := trivial
  have hbq1 := block_lt (HM.out.get (b := w1.heap.size + 1) (o := .cells #[.int .i64 p, .int .i64 q, .slice a' yss.length c'] 25) (by simp))
  have hbq0 := block_lt (HM.out.get (b := w1.heap.size) (o := .cells #[.int .i64 p, .int .i64 q, .slice a xss.length c] 25) (by simp))
  go_upto_region 8 with fail
  go_cut [9, 10] from 52 to 59 (fun pv bv wx => ∃ (Bk : Nat) (a : Option Addr) (c : Nat), pv = .pointer (some ⟨Bk, 0, none⟩) ∧ bv = .bool true ∧ Hid (QA w4 wx Bk p q a xss.length c ((joinM xss yss).map List.reverse)))
  case first =>
    go_wp2_with fail
    go_region_held3 (fun w' => w'.cell? ⟨w1.heap.size + 1, 0, none⟩ = some (.int .i64 p) ∧ w'.cell? ⟨w1.heap.size + 1, 1, none⟩ = some (.int .i64 q) ∧ w'.cell? ⟨w1.heap.size + 1, 2, none⟩ = some (.slice a' yss.length c') ∧ w'.cell? ⟨w1.heap.size, 0, none⟩ = some (.int .i64 p) ∧ w'.cell? ⟨w1.heap.size, 1, none⟩ = some (.int .i64 q) ∧ w'.cell? ⟨w1.heap.size, 2, none⟩ = some (.slice a xss.length c)) (first | (refine ⟨?_, ?_, ?_, ?_, ?_, ?_⟩ <;> ((repeat (first | with_reducible assumption | with_reducible refine cell_alq ?_ | with_reducible refine cell_st3q ?_ (by simp; omega))); done)) | go_keep) ((first
      | (go_at_call 28; have Tk := hT1; refine (((iRv_any yss a' yss.length c' p q _ p q (yss.map List.reverse) true (HY.out.grown (grown_drew w4 none)) hszy HR2.out).mono (fun _ _ h => made_lnA h (List.length_map _)))).mono ?_; rintro e k1 ⟨u1, rfl, ho, hg⟩; obtain ⟨b1, d1, rfl, _, _, hy, _⟩ := ho.reads; have HY1 := Lib.hid hy; clear ho hy; have s1q10 := hg.cell q10 (by simp); have s1q11 := hg.cell q11 (by simp); have s1q12 := hg.cell q12 (by simp); have s1q00 := hg.cell q00 (by simp); have s1q01 := hg.cell q01 (by simp); have s1q02 := hg.cell q02 (by simp); have HG1 := Lib.hid (grown_trans (grown_drew w4 none) hg); have hsz1 := HG1.out.size; clear Tk hT1; clear hg)
      | (go_at_call 28; have Tk := hT1; refine (((iRv_any yss a' yss.length c' p q _ p q (yss.map List.reverse) true (HY.out.grown (grown_trans (grown_drew w4 none) (grown_alloc _ (.cells #[.int .i64 0, .int .i64 0, .slice none 0 0] 25) none))) hszy HR2.out).mono (fun _ _ h => made_lnA h (List.length_map _)))).mono ?_; rintro e k1 ⟨u1, rfl, ho, hg⟩; obtain ⟨b1, d1, rfl, _, _, hy, _⟩ := ho.reads; have HY1 := Lib.hid hy; clear ho hy; have s1q10 := hg.cell (cell_alq (o := .cells #[.int .i64 0, .int .i64 0, .slice none 0 0] 25) q10) (by simp); have s1q11 := hg.cell (cell_alq (o := .cells #[.int .i64 0, .int .i64 0, .slice none 0 0] 25) q11) (by simp); have s1q12 := hg.cell (cell_alq (o := .cells #[.int .i64 0, .int .i64 0, .slice none 0 0] 25) q12) (by simp); have s1q00 := hg.cell (cell_alq (o := .cells #[.int .i64 0, .int .i64 0, .slice none 0 0] 25) q00) (by simp); have s1q01 := hg.cell (cell_alq (o := .cells #[.int .i64 0, .int .i64 0, .slice none 0 0] 25) q01) (by simp); have s1q02 := hg.cell (cell_alq (o := .cells #[.int .i64 0, .int .i64 0, .slice none 0 0] 25) q02) (by simp); have HG1 := Lib.hid (grown_trans (grown_trans (grown_drew w4 none) (grown_alloc _ (.cells #[.int .i64 0, .int .i64 0, .slice none 0 0] 25) none)) hg); have hsz1 := HG1.out.size; have hBk : k1.heap[w4.heap.size]? = some (.cells #[.int .i64 0, .int .i64 0, .slice none 0 0] 25) := grown_heap hg (heap_alloc_new w4.drew (.cells #[.int .i64 0, .int .i64 0, .slice none 0 0] 25)) (by simp); have HBK1 := Lib.hid hBk; have HLT1 := Lib.hid (block_lt (heap_alloc_new w4.drew (.cells #[.int .i64 0, .int .i64 0, .slice none 0 0] 25))); clear hBk; clear Tk hT1; clear hg)
      | (go_at_call 28; have Tk := hT2; have Tz := HBK1; refine (((iRv_any xss a xss.length c p q _ p q (xss.map List.reverse) true (HX.out.grown HG1.out) hsz HR1.out).mono (fun _ _ h => made_lnA h (List.length_map _)))).mono ?_; rintro e k2 ⟨u1, rfl, ho, hg⟩; obtain ⟨b2, d2, rfl, _, _, hy, _⟩ := ho.reads; have HY2 := Lib.hid hy; clear ho hy; have s2q10 := hg.cell s1q10 (by simp); have s2q11 := hg.cell s1q11 (by simp); have s2q12 := hg.cell s1q12 (by simp); have s2q00 := hg.cell s1q00 (by simp); have s2q01 := hg.cell s1q01 (by simp); have s2q02 := hg.cell s1q02 (by simp); have HG2 := Lib.hid (grown_trans HG1.out hg); have hsz2 := HG2.out.size; have hBk := grown_heap hg HBK1.out (by simp); have HLT1 := Lib.hid (block_lt HBK1.out); replace HBK1 := Lib.hid hBk; clear Tz; clear hBk; replace HY1 := Lib.hid (HY1.out.grown hg); clear Tk hT2; clear hg)
      | (go_at_call 28; have Tk := hT2; refine (((iRv_any xss a xss.length c p q _ p q (xss.map List.reverse) true (HX.out.grown HG1.out) hsz HR1.out).mono (fun _ _ h => made_lnA h (List.length_map _)))).mono ?_; rintro e k2 ⟨u1, rfl, ho, hg⟩; obtain ⟨b2, d2, rfl, _, _, hy, _⟩ := ho.reads; have HY2 := Lib.hid hy; clear ho hy; have s2q10 := hg.cell s1q10 (by simp); have s2q11 := hg.cell s1q11 (by simp); have s2q12 := hg.cell s1q12 (by simp); have s2q00 := hg.cell s1q00 (by simp); have s2q01 := hg.cell s1q01 (by simp); have s2q02 := hg.cell s1q02 (by simp); have HG2 := Lib.hid (grown_trans HG1.out hg); have hsz2 := HG2.out.size; replace HY1 := Lib.hid (HY1.out.grown hg); clear Tk hT2; clear hg)
      | (go_at_call 28; have Tk := hT2; refine (((iRv_any xss a xss.length c p q _ p q (xss.map List.reverse) true (HX.out.grown (grown_trans HG1.out (grown_alloc _ (.cells #[.int .i64 0, .int .i64 0, .slice none 0 0] 25) none))) hsz HR1.out).mono (fun _ _ h => made_lnA h (List.length_map _)))).mono ?_; rintro e k2 ⟨u1, rfl, ho, hg⟩; obtain ⟨b2, d2, rfl, _, _, hy, _⟩ := ho.reads; have HY2 := Lib.hid hy; clear ho hy; have s2q10 := hg.cell (cell_alq (o := .cells #[.int .i64 0, .int .i64 0, .slice none 0 0] 25) s1q10) (by simp); have s2q11 := hg.cell (cell_alq (o := .cells #[.int .i64 0, .int .i64 0, .slice none 0 0] 25) s1q11) (by simp); have s2q12 := hg.cell (cell_alq (o := .cells #[.int .i64 0, .int .i64 0, .slice none 0 0] 25) s1q12) (by simp); have s2q00 := hg.cell (cell_alq (o := .cells #[.int .i64 0, .int .i64 0, .slice none 0 0] 25) s1q00) (by simp); have s2q01 := hg.cell (cell_alq (o := .cells #[.int .i64 0, .int .i64 0, .slice none 0 0] 25) s1q01) (by simp); have s2q02 := hg.cell (cell_alq (o := .cells #[.int .i64 0, .int .i64 0, .slice none 0 0] 25) s1q02) (by simp); have HG2 := Lib.hid (grown_trans (grown_trans HG1.out (grown_alloc _ (.cells #[.int .i64 0, .int .i64 0, .slice none 0 0] 25) none)) hg); have hsz2 := HG2.out.size; have hBk : k2.heap[k1.heap.size]? = some (.cells #[.int .i64 0, .int .i64 0, .slice none 0 0] 25) := grown_heap hg (heap_alloc_new k1 (.cells #[.int .i64 0, .int .i64 0, .slice none 0 0] 25)) (by simp); have HBK2 := Lib.hid hBk; have HLT2 := Lib.hid (block_lt (heap_alloc_new k1 (.cells #[.int .i64 0, .int .i64 0, .slice none 0 0] 25))); clear hBk; replace HY1 := Lib.hid ((HY1.out.grown (grown_alloc _ (.cells #[.int .i64 0, .int .i64 0, .slice none 0 0] 25) none)).grown hg); clear Tk hT2; clear hg)
      | (go_at_call 20; have Tz := HBK1; refine (((iJn_any (yss.map List.reverse) (xss.map List.reverse) b1 b2 yss.length d1 xss.length d2 p q p q _ p q _ true HY1.out hszs HY2.out hszr HJ.out).mono (fun _ _ h => made_ln h HLT.out))).mono ?_; rintro e k3 ⟨v3, rfl, ho, hg⟩; obtain ⟨a3, g3, rfl, _⟩ := ho.reads; have HO3 := Lib.hid ho; clear ho; have s3q10 := hg.cell s2q10 (by simp); have s3q11 := hg.cell s2q11 (by simp); have s3q12 := hg.cell s2q12 (by simp); have s3q00 := hg.cell s2q00 (by simp); have s3q01 := hg.cell s2q01 (by simp); have s3q02 := hg.cell s2q02 (by simp); have HG3 := Lib.hid (grown_trans HG2.out hg); have hsz3 := HG3.out.size; have hBk := grown_heap hg HBK1.out (by simp); have HLT1 := Lib.hid (block_lt HBK1.out); replace HBK1 := Lib.hid hBk; clear Tz; obtain ⟨r0, r1, r2⟩ := three_cells hBk; have f0 := frozen_of_row k3 _ 0 _ _ hBk; have f1 := frozen_of_row k3 _ 1 _ _ hBk; have f2 := frozen_of_row k3 _ 2 _ _ hBk; clear hBk; clear hg)
      | (go_at_call 20; have Tz := HBK2; refine (((iJn_any (yss.map List.reverse) (xss.map List.reverse) b1 b2 yss.length d1 xss.length d2 p q p q _ p q _ true HY1.out hszs HY2.out hszr HJ.out).mono (fun _ _ h => made_ln h HLT.out))).mono ?_; rintro e k3 ⟨v3, rfl, ho, hg⟩; obtain ⟨a3, g3, rfl, _⟩ := ho.reads; have HO3 := Lib.hid ho; clear ho; have s3q10 := hg.cell s2q10 (by simp); have s3q11 := hg.cell s2q11 (by simp); have s3q12 := hg.cell s2q12 (by simp); have s3q00 := hg.cell s2q00 (by simp); have s3q01 := hg.cell s2q01 (by simp); have s3q02 := hg.cell s2q02 (by simp); have HG3 := Lib.hid (grown_trans HG2.out hg); have hsz3 := HG3.out.size; have hBk := grown_heap hg HBK2.out (by simp); have HLT2 := Lib.hid (block_lt HBK2.out); replace HBK2 := Lib.hid hBk; clear Tz; obtain ⟨r0, r1, r2⟩ := three_cells hBk; have f0 := frozen_of_row k3 _ 0 _ _ hBk; have f1 := frozen_of_row k3 _ 1 _ _ hBk; have f2 := frozen_of_row k3 _ 2 _ _ hBk; clear hBk; clear hg)
      | (go_at_call 20; refine (((iJn_any (yss.map List.reverse) (xss.map List.reverse) b1 b2 yss.length d1 xss.length d2 p q p q _ p q _ true HY1.out hszs HY2.out hszr HJ.out).mono (fun _ _ h => made_ln h HLT.out))).mono ?_; rintro e k3 ⟨v3, rfl, ho, hg⟩; obtain ⟨a3, g3, rfl, _⟩ := ho.reads; have HO3 := Lib.hid ho; clear ho; have s3q10 := hg.cell s2q10 (by simp); have s3q11 := hg.cell s2q11 (by simp); have s3q12 := hg.cell s2q12 (by simp); have s3q00 := hg.cell s2q00 (by simp); have s3q01 := hg.cell s2q01 (by simp); have s3q02 := hg.cell s2q02 (by simp); have HG3 := Lib.hid (grown_trans HG2.out hg); have hsz3 := HG3.out.size; clear hg)
      | (go_at_call 20; refine (((iJn_any (yss.map List.reverse) (xss.map List.reverse) b1 b2 yss.length d1 xss.length d2 p q p q _ p q _ true (HY1.out.grown (grown_alloc _ (.cells #[.int .i64 0, .int .i64 0, .slice none 0 0] 25) none)) hszs (HY2.out.grown (grown_alloc _ (.cells #[.int .i64 0, .int .i64 0, .slice none 0 0] 25) none)) hszr HJ.out).mono (fun _ _ h => made_ln h HLT.out))).mono ?_; rintro e k3 ⟨v3, rfl, ho, hg⟩; obtain ⟨a3, g3, rfl, _⟩ := ho.reads; have HO3 := Lib.hid ho; clear ho; have s3q10 := hg.cell (cell_alq (o := .cells #[.int .i64 0, .int .i64 0, .slice none 0 0] 25) s2q10) (by simp); have s3q11 := hg.cell (cell_alq (o := .cells #[.int .i64 0, .int .i64 0, .slice none 0 0] 25) s2q11) (by simp); have s3q12 := hg.cell (cell_alq (o := .cells #[.int .i64 0, .int .i64 0, .slice none 0 0] 25) s2q12) (by simp); have s3q00 := hg.cell (cell_alq (o := .cells #[.int .i64 0, .int .i64 0, .slice none 0 0] 25) s2q00) (by simp); have s3q01 := hg.cell (cell_alq (o := .cells #[.int .i64 0, .int .i64 0, .slice none 0 0] 25) s2q01) (by simp); have s3q02 := hg.cell (cell_alq (o := .cells #[.int .i64 0, .int .i64 0, .slice none 0 0] 25) s2q02) (by simp); have HG3 := Lib.hid (grown_trans (grown_trans HG2.out (grown_alloc _ (.cells #[.int .i64 0, .int .i64 0, .slice none 0 0] 25) none)) hg); have hsz3 := HG3.out.size; have hBk : k3.heap[k2.heap.size]? = some (.cells #[.int .i64 0, .int .i64 0, .slice none 0 0] 25) := grown_heap hg (heap_alloc_new k2 (.cells #[.int .i64 0, .int .i64 0, .slice none 0 0] 25)) (by simp); have HBK3 := Lib.hid hBk; have HLT3 := Lib.hid (block_lt (heap_alloc_new k2 (.cells #[.int .i64 0, .int .i64 0, .slice none 0 0] 25))); obtain ⟨r0, r1, r2⟩ := three_cells hBk; have f0 := frozen_of_row k3 _ 0 _ _ hBk; have f1 := frozen_of_row k3 _ 1 _ _ hBk; have f2 := frozen_of_row k3 _ 2 _ _ hBk; clear hBk; clear hg)))
    all_goals (go_wp2_with fail; go_meet; first
      | exact ⟨_, _, _, rfl, rfl, qa_1 HG3.out HO3.out (by first | exact Nat.le_refl _ | exact HG2.out.size)⟩
      | exact ⟨_, _, _, rfl, rfl, qa_2 HG3.out HO3.out HBK1.out (by exact Nat.le_refl _) (by have := HLT1.out; first | exact this | (have := HG2.out.size; simp at *; omega) | omega)⟩
      | exact ⟨_, _, _, rfl, rfl, qa_2 HG3.out HO3.out HBK2.out (by exact HG1.out.size) (by have := HLT2.out; first | exact this | (have := HG2.out.size; simp at *; omega) | omega)⟩
      | exact ⟨_, _, _, rfl, rfl, qa_2 HG3.out HO3.out HBK3.out (by exact HG2.out.size) (by have := HLT3.out; first | exact this | (have := HG2.out.size; simp at *; omega) | omega)⟩)
  case rest =>

  obtain ⟨Bk5, a5, c5, rfl, rfl, HQ5⟩ := hcut
  generalize wc = w5 at *
  clear q00 q01 q02 q10 q11 q12 q20 q21 q22 q30 q31 q32 hbq1 hbq0 hT1 hT2
  replace HM := Lib.hid (HM.out.addq HQ5.out.gr HQ5.out.lo HQ5.out.blk)
  replace HX := Lib.hid (HX.out.grown HQ5.out.gr)
  replace HY := Lib.hid (HY.out.grown HQ5.out.gr)
  replace HC := Lib.hid (HC.out.grown HQ5.out.gr)
  replace HW := Lib.hid (HW.out.grown HQ5.out.gr)
  have HP := Lib.hid HQ5.out.mat
  clear HQ5
  obtain ⟨q00, q01, q02⟩ := three_cells (HM.out.get (b := w1.heap.size) (o := .cells #[.int .i64 p, .int .i64 q, .slice a xss.length c] 25) (by simp))
  obtain ⟨q10, q11, q12⟩ := three_cells (HM.out.get (b := w1.heap.size + 1) (o := .cells #[.int .i64 p, .int .i64 q, .slice a' yss.length c'] 25) (by simp))
  obtain ⟨q20, q21, q22⟩ := three_cells (HM.out.get (b := w2.heap.size) (o := .cells #[.int .i64 p, .int .i64 q, .slice a2 xss.length c2] 25) (by simp))
  obtain ⟨q30, q31, q32⟩ := three_cells (HM.out.get (b := w3.heap.size) (o := .cells #[.int .i64 p, .int .i64 q, .slice a3 xss.length c3] 25) (by simp))
  obtain ⟨q40, q41, q42⟩ := three_cells (HM.out.get (b := Bk5) (o := .cells #[.int .i64 p, .int .i64 q, .slice a5 xss.length c5] 25) (by simp))
  go_wp2_with fail
  have HCm := Lib.hid HC.out
  have HPm := Lib.hid HP.out
  first | (go_region_held3 (fun w' => w'.cell? ⟨w2.heap.size, 0, none⟩ = some (.int .i64 p) ∧ w'.cell? ⟨w2.heap.size, 1, none⟩ = some (.int .i64 q) ∧ w'.cell? ⟨w2.heap.size, 2, none⟩ = some (.slice a2 xss.length c2) ∧ w'.cell? ⟨Bk5, 0, none⟩ = some (.int .i64 p) ∧ w'.cell? ⟨Bk5, 1, none⟩ = some (.int .i64 q) ∧ w'.cell? ⟨Bk5, 2, none⟩ = some (.slice a5 xss.length c5)) (first | go_keep | exact ⟨by assumption, by assumption, by assumption, by assumption, by assumption, by assumption⟩) ((first
    | (go_at_call 28; refine ((iRv_any (joinM xss yss) a2 xss.length c2 p q _ p q ((joinM xss yss).map List.reverse) true (HCm.out.grown (grown_drew _ none)) hszz HR3.out).mono (fun _ _ h => made_lnA h HLT.out)).mono ?_; rintro e m1 ⟨u1, rfl, ho, hg⟩; obtain ⟨b5, d5, rfl, _, _, hy, _⟩ := ho.reads; have HY5 := Lib.hid hy; have HG5 := Lib.hid (grown_trans (grown_drew w5 none) hg); have hS0 := hg.cell q20 (by simp); have hS1 := hg.cell q21 (by simp); have hS2 := hg.cell q22 (by simp); have hS3 := hg.cell q40 (by simp); have hS4 := hg.cell q41 (by simp); have hS5 := hg.cell q42 (by simp); clear ho hy hg)
    | (go_at_call 18; refine (equalAudio_same ((joinM xss yss).map List.reverse) b5 a5 xss.length d5 c5 p q _ HY5.out (HPm.out.grown HG5.out) hszt).mono ?_; rintro e m2 ⟨rfl, hg⟩; have HG6 := Lib.hid (grown_trans HG5.out hg); have hT0 := hg.cell hS0 (by simp); have hT1 := hg.cell hS1 (by simp); have hT2 := hg.cell hS2 (by simp); have hT3 := hg.cell hS3 (by simp); have hT4 := hg.cell hS4 (by simp); have hT5 := hg.cell hS5 (by simp); clear hg)))) | fail
  all_goals
    replace HM := Lib.hid (HM.out.grown HG6.out)
    clear hS0 hS1 hS2 hS3 hS4 hS5 hT0 hT1 hT2 hT3 hT4 hT5 q00 q01 q02 q10 q11 q12 q20 q21 q22 q30 q31 q32 q40 q41 q42 HG5 HG6 HCm HPm HY5
    go_wp2
    go_ret
    exact ⟨rfl, HM.out.g⟩

end Go.Proofs.Ytncbgofcimghnaa
