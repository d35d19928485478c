/-
  The walk of 'FnFadeAudioNone': it returns true and writes nothing that was there. For every code.
-/
import Derived.Test.YtncbgofcimghnaaDrawEd
import Derived.Test.YtncbgofcimghnaaEqA
import Derived.Test.YtncbgofcimghnaaEdF
import Derived.Test.YtncbgofcimghnaaEdS
import Derived.Test.YtncbgofcimghnaaEdQ
import Derived.Test.YtncbgofcimghnaaEdZ
import Derived.Test.YtncbgofcimghnaaMem
import Derived.Test.YtncbgofcimghnaaQA
import Derived.Test.YtncbgofcimghnaaCnt
import Derived.Deep.RegionHeld3
import Derived.Deep.Cut
import Derived.Deep.CutRange
namespace Go.Proofs.Ytncbgofcimghnaa
open Go.RowKit

theorem cu_of {r d : Int} {xss : List (List Int)} {u H f t : Nat} {a b : Int} (h : VA r d xss u H) (hf : f ≤ t) (ht : t ≤ H) (ha : a = (f : Int)) (hb : b = (t : Int)) : CuR r d a b xss r d (xss.map (cutR f t)) true := by
  subst ha hb
  refine Or.inl ⟨⟨va_back h, by omega, by omega, by rw [h.hd]; omega⟩, rfl, rfl, rfl, by simp⟩
theorem cut_cut {r d : Int} {xss : List (List Int)} {u H f t a b : Nat} (_h : VA r d xss u H) (hft : f ≤ t) (ha : a ≤ b) (hb : b ≤ t - f) : (xss.map (cutR f t)).map (cutR a b) = xss.map (cutR (f + a) (f + b)) := by
  rw [List.map_map]
  exact List.map_congr_left (fun xs _ => cutR_twice hft ha hb)
theorem jn_of {r d : Int} {xss yss : List (List Int)} {u u' H H' : Nat} (h : VA r d xss u H) (h' : VA r d yss u' H') (hl : xss.length = yss.length) (hs : H + H' ≤ 256) : JnR r d xss r d yss r d (joinM xss yss) true :=
  Or.inl ⟨⟨va_back h, va_back h', rfl, rfl, hl, by rw [h.hd, h'.hd]; exact hs⟩, rfl, rfl, rfl, rfl⟩
theorem join_cuts {r d : Int} {xss : List (List Int)} {u H f t : Nat} (h : VA r d xss u H) (hft : f ≤ t) (ht : t ≤ H) : joinM (joinM (xss.map (cutR 0 f)) (xss.map (cutR f t))) (xss.map (cutR t H)) = xss := by
  apply List.ext_getElem?
  intro k
  cases hx : xss[k]? with
  | none =>
    have hk : xss.length ≤ k := List.getElem?_eq_none_iff.1 hx
    exact List.getElem?_eq_none (by unfold joinM; simp; omega)
  | some xs =>
    have hl := (h.row k xs hx).1
    have e : ∀ a b, (xss.map (cutR a b))[k]? = some (cutR a b xs) := fun a b => by rw [List.getElem?_map, hx]; rfl
    rw [joinM_get (joinM_get (e 0 f) (e f t)) (e t H), ← hl, cutR_split hft (by omega)]
/-- The same with the number of rows under another name. -/
def MadeABn (yss : List (List Int)) (ln : Nat) (rr dd : Int) (ok : Bool) (w : World) (e : Ending) (w' : World) : Prop :=
  ∃ v, e = .returned (.tuple #[.agg #[.int .i64 rr, .int .i64 dd, v], .bool ok]) ∧ MOwn w' w.heap.size v ln yss ∧ w.grownBy w' none
theorem made_ln {yss : List (List Int)} {ln : Nat} {rr dd : Int} {ok : Bool} {w w' : World} {e : Ending} (h : MadeAB yss rr dd ok w e w') (hl : yss.length = ln) : MadeABn yss ln rr dd ok w e w' := by subst hl; exact h
theorem fd_of {r d : Int} {xss : List (List Int)} {u H s : Nat} {a : Int} (h : VA r d xss u H) (hs : s ≤ H) (ha : a = (s : Int)) : FdR r d a xss r d (xss.map (fdL s)) true := by
  subst ha
  exact Or.inl ⟨⟨va_back h, by omega, by rw [h.hd]; omega⟩, rfl, rfl, rfl, by simp⟩
theorem fd_none (xss : List (List Int)) : xss.map (fdL 0) = xss := by
  conv => rhs; rw [← List.map_id xss]
  exact List.map_congr_left (fun xs _ => fdL_zero xs)
theorem fd_one {r d : Int} {xss : List (List Int)} {u H : Nat} (h : VA r d xss u H) (h1 : 1 ≤ H) : (xss.map (fdL 1)).map (cutR 1 H) = xss.map (cutR 1 H) := by
  rw [List.map_map]
  exact List.map_congr_left (fun xs hm => by
    obtain ⟨k, hk⟩ := List.getElem?_of_mem hm
    exact fdL_one (by rw [(h.row k xs hk).1]; exact h1))
set_option maxRecDepth 100000 in
set_option maxHeartbeats 4000000 in
theorem FnFadeAudioNone_walk (ao : Option Addr) (len cap : Nat) (w : World) (hb : BytesAt w ao len) (hlc : len ≤ cap) (hmax : len ≤ 9223372036854775807) :
    Calls Try.prog 9 #[.slice ao len cap] w (Holds w) := by
  by_cases hlen : 1048576 < len
  · clear hb
    go_enter Try.func9, Try.ntmps9
    go_wp2
    go_ret
    exact ⟨rfl, grown_refl _ _⟩
  have hd := drawFd_any ao len cap w hb hlc hmax
  have hm : decide (1048576 < (len : Int)) = false := by simp; omega
  clear hb hlen
  go_enter Try.func9, Try.ntmps9
  go_wp2_with fail
  refine hd.mono ?_
  rintro e w1 ⟨p, q, a, l, c, xss, x0, rfl, hx0, hmat, hl2, hs2, hg1⟩
  obtain rfl := hmat.1
  have HM := Lib.hid (((Mem.start w).grown hg1).block (.cells #[.int .i64 p, .int .i64 q, .slice a xss.length c] 25))
  have HX := Lib.hid (hmat.grown (grown_alloc w1 (.cells #[.int .i64 p, .int .i64 q, .slice a xss.length c] 25) none))
  have hsz : szL xss ≤ 1048576 := by omega
  clear hd hmat hg1
  have hx0b : -1 ≤ x0 ∧ x0 ≤ 300 := by simp only [List.mem_cons, List.not_mem_nil, or_false] at hx0; omega
  have hx00 := hx0b.1
  have hx01 := hx0b.2
  clear hx0 hx0b
  obtain ⟨rr, dd, yss, ok, hS⟩ : ∃ rr dd yss ok, FdR p q x0 xss rr dd yss ok := AuR_there _ _ _ _
  have hszy : szL yss ≤ 1048576 := fd_sz hS
  have HS := Lib.hid hS
  clear hS
  obtain ⟨q00, q01, q02⟩ := three_cells (HM.out.get (b := w1.heap.size) (o := .cells #[.int .i64 p, .int .i64 q, .slice a xss.length c] 25) (by simp))
  go_wp2_with fail
  refine (iFd_any xss a xss.length c p q x0 _ rr dd yss ok HX.out hsz HS.out).mono ?_
  rintro e w2 ⟨v2, rfl, ho2, hg2⟩
  obtain ⟨a2, c2, rfl, _, _, hm2, _⟩ := ho2.reads
  replace HM := Lib.hid ((HM.out.grown hg2).block (.cells #[.int .i64 rr, .int .i64 dd, .slice a2 yss.length c2] 25))
  replace HX := Lib.hid ((HX.out.grown hg2).grown (grown_alloc w2 (.cells #[.int .i64 rr, .int .i64 dd, .slice a2 yss.length c2] 25) none))
  have HY : Hid (Mat (w2.alloc (.cells #[.int .i64 rr, .int .i64 dd, .slice a2 yss.length c2] 25)) a2 yss.length yss) := by
    have h := hm2.grown (grown_alloc w2 (.cells #[.int .i64 rr, .int .i64 dd, .slice a2 yss.length c2] 25) none)
    first | exact h | (simp only [List.length_map] at h; exact h)
  clear q00 q01 q02 hg2 ho2 hm2
  obtain ⟨q00, q01, q02⟩ := three_cells (HM.out.get (b := w1.heap.size) (o := .cells #[.int .i64 p, .int .i64 q, .slice a xss.length c] 25) (by simp))
  obtain ⟨q10, q11, q12⟩ := three_cells (HM.out.get (b := w2.heap.size) (o := .cells #[.int .i64 rr, .int .i64 dd, .slice a2 yss.length c2] 25) (by simp))
  go_wp2_with fail
  refine (sFd_any xss a xss.length c p q x0 _ rr dd yss ok HX.out hsz HS.out).mono ?_
  rintro e w3 ⟨v3, rfl, ho3, hg3⟩
  obtain ⟨a3, c3, rfl, _, _, hm3, _⟩ := ho3.reads
  replace HM := Lib.hid ((HM.out.grown hg3).block (.cells #[.int .i64 rr, .int .i64 dd, .slice a3 yss.length c3] 25))
  replace HX := Lib.hid ((HX.out.grown hg3).grown (grown_alloc w3 (.cells #[.int .i64 rr, .int .i64 dd, .slice a3 yss.length c3] 25) none))
  replace HY := Lib.hid ((HY.out.grown hg3).grown (grown_alloc w3 (.cells #[.int .i64 rr, .int .i64 dd, .slice a3 yss.length c3] 25) none))
  have HW : Hid (Mat (w3.alloc (.cells #[.int .i64 rr, .int .i64 dd, .slice a3 yss.length c3] 25)) a3 yss.length yss) := by
    have h := hm3.grown (grown_alloc w3 (.cells #[.int .i64 rr, .int .i64 dd, .slice a3 yss.length c3] 25) none)
    first | exact h | (simp only [List.length_map] at h; exact h)
  clear q00 q01 q02 q10 q11 q12 hg3 ho3 hm3
  obtain ⟨q00, q01, q02⟩ := three_cells (HM.out.get (b := w1.heap.size) (o := .cells #[.int .i64 p, .int .i64 q, .slice a xss.length c] 25) (by simp))
  obtain ⟨q10, q11, q12⟩ := three_cells (HM.out.get (b := w2.heap.size) (o := .cells #[.int .i64 rr, .int .i64 dd, .slice a2 yss.length c2] 25) (by simp))
  obtain ⟨q20, q21, q22⟩ := three_cells (HM.out.get (b := w3.heap.size) (o := .cells #[.int .i64 rr, .int .i64 dd, .slice a3 yss.length c3] 25) (by simp))
  go_wp2_with fail
  refine (equalAudio_same yss a2 a3 _ c2 c3 rr dd _ HY.out HW.out hszy).mono ?_
  rintro e w4 ⟨rfl, hg4⟩
  replace HM := Lib.hid (HM.out.grown hg4)
  replace HX := Lib.hid (HX.out.grown hg4)
  replace HY := Lib.hid (HY.out.grown hg4)
  replace HW := Lib.hid (HW.out.grown hg4)
  clear q00 q01 q02 q10 q11 q12 q20 q21 q22 hg4
  cases ok with
  | false =>
    obtain ⟨q00, q01, q02⟩ := three_cells (HM.out.get (b := w1.heap.size) (o := .cells #[.int .i64 p, .int .i64 q, .slice a xss.length c] 25) (by simp))
    obtain ⟨q10, q11, q12⟩ := three_cells (HM.out.get (b := w2.heap.size) (o := .cells #[.int .i64 rr, .int .i64 dd, .slice a2 yss.length c2] 25) (by simp))
    obtain ⟨q20, q21, q22⟩ := three_cells (HM.out.get (b := w3.heap.size) (o := .cells #[.int .i64 rr, .int .i64 dd, .slice a3 yss.length c3] 25) (by simp))
    go_wp2_with fail
    refine (equalAudio_same yss a2 a3 _ c2 c3 rr dd _ HY.out HW.out hszy).mono ?_
    rintro e w5 ⟨rfl, hg5⟩
    replace HM := Lib.hid (HM.out.grown hg5)
    replace HX := Lib.hid (HX.out.grown hg5)
    replace HY := Lib.hid (HY.out.grown hg5)
    replace HW := Lib.hid (HW.out.grown hg5)
    clear q00 q01 q02 q10 q11 q12 q20 q21 q22 hg5
    obtain ⟨q00, q01, q02⟩ := three_cells (HM.out.get (b := w1.heap.size) (o := .cells #[.int .i64 p, .int .i64 q, .slice a xss.length c] 25) (by simp))
    obtain ⟨q10, q11, q12⟩ := three_cells (HM.out.get (b := w2.heap.size) (o := .cells #[.int .i64 rr, .int .i64 dd, .slice a2 yss.length c2] 25) (by simp))
    obtain ⟨q20, q21, q22⟩ := three_cells (HM.out.get (b := w3.heap.size) (o := .cells #[.int .i64 rr, .int .i64 dd, .slice a3 yss.length c3] 25) (by simp))
    go_wp2
    go_ret
    exact ⟨rfl, HM.out.g⟩
  | true =>
  obtain ⟨⟨hva, h0, h2⟩, rfl, rfl, rfl⟩ : fadeC p q x0 xss ∧ p = rr ∧ q = dd ∧ yss = xss.map (fdL x0.toNat) := by
    rcases HS.out with ⟨h1, _, h3, h4, h5⟩ | ⟨_, h1, _⟩
    · exact ⟨h1, h3.symm, h4.symm, h5⟩
    · cases h1
  obtain ⟨u, H, hV⟩ := va_of hva
  rw [hV.hd] at h2
  obtain ⟨s, hs⟩ := Int.eq_ofNat_of_zero_le h0
  subst hs
  have hsH : s ≤ H := by omega
  have HV := Lib.hid hV
  simp only [Int.toNat_natCast] at *
  rw [show (xss.map (fdL s)).length = xss.length from List.length_map _] at HM HY HW
  clear hV hva h0 h2 HS
  have hF := fd_of (a := 0) (s := 0) HV.out (Nat.zero_le _) rfl
  rw [fd_none] at hF
  have HF := Lib.hid hF
  clear hF
  obtain ⟨q00, q01, q02⟩ := three_cells (HM.out.get (b := w1.heap.size) (o := .cells #[.int .i64 p, .int .i64 q, .slice a xss.length c] 25) (by simp))
  obtain ⟨q10, q11, q12⟩ := three_cells (HM.out.get (b := w2.heap.size) (o := .cells #[.int .i64 p, .int .i64 q, .slice a2 xss.length c2] 25) (by simp))
  obtain ⟨q20, q21, q22⟩ := three_cells (HM.out.get (b := w3.heap.size) (o := .cells #[.int .i64 p, .int .i64 q, .slice a3 xss.length c3] 25) (by simp))
  go_wp2_with fail
  refine (iFd_any xss a xss.length c p q 0 _ p q xss true HX.out hsz HF.out).mono ?_
  rintro e w5 ⟨v5, rfl, ho5, hg5⟩
  obtain ⟨a5, c5, rfl, _, _, hm5, _⟩ := ho5.reads
  replace HM := Lib.hid ((HM.out.grown hg5).block (.cells #[.int .i64 p, .int .i64 q, .slice a5 xss.length c5] 25))
  replace HX := Lib.hid ((HX.out.grown hg5).grown (grown_alloc w5 (.cells #[.int .i64 p, .int .i64 q, .slice a5 xss.length c5] 25) none))
  replace HY := Lib.hid ((HY.out.grown hg5).grown (grown_alloc w5 (.cells #[.int .i64 p, .int .i64 q, .slice a5 xss.length c5] 25) none))
  replace HW := Lib.hid ((HW.out.grown hg5).grown (grown_alloc w5 (.cells #[.int .i64 p, .int .i64 q, .slice a5 xss.length c5] 25) none))
  have HU : Hid (Mat (w5.alloc (.cells #[.int .i64 p, .int .i64 q, .slice a5 xss.length c5] 25)) a5 xss.length xss) := by
    have h := hm5.grown (grown_alloc w5 (.cells #[.int .i64 p, .int .i64 q, .slice a5 xss.length c5] 25) none)
    first | exact h | (simp only [List.length_map] at h; exact h)
  clear q00 q01 q02 q10 q11 q12 q20 q21 q22 hg5 ho5 hm5
  by_cases hs1 : s = 1
  · subst hs1
    generalize hwz : (w5.alloc (.cells #[.int .i64 p, .int .i64 q, .slice a5 xss.length c5] 25)) = wz at *
    have hHd := HV.out.hd
    have hVf := va_fade HV.out hsH
    have hHf := hVf.hd
    have hC := cu_of (a := 1) (b := (H : Int)) (f := 1) (t := H) HV.out hsH (Nat.le_refl _) rfl rfl
    have hCf := cu_of (a := 1) (b := (H : Int)) (f := 1) (t := H) hVf hsH (Nat.le_refl _) rfl rfl
    rw [fd_one HV.out hsH] at hCf
    have HC := Lib.hid hC
    have HCF := Lib.hid hCf
    have hszc : szL (xss.map (cutR 1 H)) ≤ 1048576 := cu_sz hC
    have HHD := Lib.hid hHd
    have HHF := Lib.hid hHf
    clear hC hCf hVf hHd hHf
    obtain ⟨q00, q01, q02⟩ := three_cells (HM.out.get (b := w1.heap.size) (o := .cells #[.int .i64 p, .int .i64 q, .slice a xss.length c] 25) (by simp))
    obtain ⟨q10, q11, q12⟩ := three_cells (HM.out.get (b := w2.heap.size) (o := .cells #[.int .i64 p, .int .i64 q, .slice a2 xss.length c2] 25) (by simp))
    obtain ⟨q20, q21, q22⟩ := three_cells (HM.out.get (b := w3.heap.size) (o := .cells #[.int .i64 p, .int .i64 q, .slice a3 xss.length c3] 25) (by simp))
    obtain ⟨q30, q31, q32⟩ := three_cells (HM.out.get (b := w5.heap.size) (o := .cells #[.int .i64 p, .int .i64 q, .slice a5 xss.length c5] 25) (by simp))
    have hbq0 := block_lt (HM.out.get (b := w1.heap.size) (o := .cells #[.int .i64 p, .int .i64 q, .slice a xss.length c] 25) (by simp))
    go_upto_region 10 with fail
    go_cut [11, 12] from 63 to 69 (fun pv bv wx => ∃ (Bk : Nat) (a : Option Addr) (c : Nat), pv = .pointer (some ⟨Bk, 0, none⟩) ∧ bv = .bool true ∧ Hid (QA wz wx Bk p q a xss.length c (xss.map (cutR 1 H))))
    case first =>
      go_wp2_with fail
      go_region_held3 (fun w' => w'.cell? ⟨w1.heap.size, 0, none⟩ = some (.int .i64 p) ∧ w'.cell? ⟨w1.heap.size, 1, none⟩ = some (.int .i64 q) ∧ w'.cell? ⟨w1.heap.size, 2, none⟩ = some (.slice a xss.length c)) (first | (refine ⟨?_, ?_, ?_⟩ <;> ((repeat (first | with_reducible assumption | with_reducible refine cell_alq ?_ | with_reducible refine cell_st3q ?_ (by simp; omega))); done)) | go_keep) ((first
        | (go_at_call 19; refine (lCount_any xss a xss.length c H p q _ (HX.out.grown (grown_drew wz none)) HHD.out).mono ?_; rintro e k1 ⟨rfl, hg⟩; skip; have s1q00 := hg.cell q00 (by simp); have s1q01 := hg.cell q01 (by simp); have s1q02 := hg.cell q02 (by simp); have HG1 := Lib.hid (grown_trans (grown_drew wz none) hg); have hsz1 := HG1.out.size; clear hg)
        | (go_at_call 19; refine (lCount_any xss a xss.length c H p q _ (HX.out.grown (grown_trans (grown_drew wz none) (grown_alloc _ (.cells #[.int .i64 0, .int .i64 0, .slice none 0 0] 25) none))) HHD.out).mono ?_; rintro e k1 ⟨rfl, hg⟩; skip; have s1q00 := hg.cell (cell_alq (o := .cells #[.int .i64 0, .int .i64 0, .slice none 0 0] 25) q00) (by simp); have s1q01 := hg.cell (cell_alq (o := .cells #[.int .i64 0, .int .i64 0, .slice none 0 0] 25) q01) (by simp); have s1q02 := hg.cell (cell_alq (o := .cells #[.int .i64 0, .int .i64 0, .slice none 0 0] 25) q02) (by simp); have HG1 := Lib.hid (grown_trans (grown_trans (grown_drew wz none) (grown_alloc _ (.cells #[.int .i64 0, .int .i64 0, .slice none 0 0] 25) none)) hg); have hsz1 := HG1.out.size; have hBk : k1.heap[wz.heap.size]? = some (.cells #[.int .i64 0, .int .i64 0, .slice none 0 0] 25) := grown_heap hg (heap_alloc_new wz.drew (.cells #[.int .i64 0, .int .i64 0, .slice none 0 0] 25)) (by simp); have HBK1 := Lib.hid hBk; have HLT1 := Lib.hid (block_lt (heap_alloc_new wz.drew (.cells #[.int .i64 0, .int .i64 0, .slice none 0 0] 25))); clear hBk; clear hg)
        | (go_at_call 16; have Tz := HBK1; refine (((iCut_any xss a xss.length c p q 1 (H : Int) _ p q (xss.map (cutR 1 H)) true (HX.out.grown HG1.out) hsz HC.out).mono (fun _ _ h => made_ln h (List.length_map _)))).mono ?_; rintro e k2 ⟨v3, rfl, ho, hg⟩; obtain ⟨a3, g3, rfl, _⟩ := ho.reads; have HO3 := Lib.hid ho; clear ho; have s2q00 := hg.cell s1q00 (by simp); have s2q01 := hg.cell s1q01 (by simp); have s2q02 := hg.cell s1q02 (by simp); have HG2 := Lib.hid (grown_trans HG1.out hg); have hsz2 := HG2.out.size; have hBk := grown_heap hg HBK1.out (by simp); have HLT1 := Lib.hid (block_lt HBK1.out); replace HBK1 := Lib.hid hBk; clear Tz; obtain ⟨r0, r1, r2⟩ := three_cells hBk; have f0 := frozen_of_row k2 _ 0 _ _ hBk; have f1 := frozen_of_row k2 _ 1 _ _ hBk; have f2 := frozen_of_row k2 _ 2 _ _ hBk; clear hBk; clear hg)
        | (go_at_call 16; refine (((iCut_any xss a xss.length c p q 1 (H : Int) _ p q (xss.map (cutR 1 H)) true (HX.out.grown HG1.out) hsz HC.out).mono (fun _ _ h => made_ln h (List.length_map _)))).mono ?_; rintro e k2 ⟨v3, rfl, ho, hg⟩; obtain ⟨a3, g3, rfl, _⟩ := ho.reads; have HO3 := Lib.hid ho; clear ho; have s2q00 := hg.cell s1q00 (by simp); have s2q01 := hg.cell s1q01 (by simp); have s2q02 := hg.cell s1q02 (by simp); have HG2 := Lib.hid (grown_trans HG1.out hg); have hsz2 := HG2.out.size; clear hg)
        | (go_at_call 16; refine (((iCut_any xss a xss.length c p q 1 (H : Int) _ p q (xss.map (cutR 1 H)) true (HX.out.grown (grown_trans HG1.out (grown_alloc _ (.cells #[.int .i64 0, .int .i64 0, .slice none 0 0] 25) none))) hsz HC.out).mono (fun _ _ h => made_ln h (List.length_map _)))).mono ?_; rintro e k2 ⟨v3, rfl, ho, hg⟩; obtain ⟨a3, g3, rfl, _⟩ := ho.reads; have HO3 := Lib.hid ho; clear ho; have s2q00 := hg.cell (cell_alq (o := .cells #[.int .i64 0, .int .i64 0, .slice none 0 0] 25) s1q00) (by simp); have s2q01 := hg.cell (cell_alq (o := .cells #[.int .i64 0, .int .i64 0, .slice none 0 0] 25) s1q01) (by simp); have s2q02 := hg.cell (cell_alq (o := .cells #[.int .i64 0, .int .i64 0, .slice none 0 0] 25) s1q02) (by simp); have HG2 := Lib.hid (grown_trans (grown_trans HG1.out (grown_alloc _ (.cells #[.int .i64 0, .int .i64 0, .slice none 0 0] 25) none)) hg); have hsz2 := HG2.out.size; have hBk : k2.heap[k1.heap.size]? = some (.cells #[.int .i64 0, .int .i64 0, .slice none 0 0] 25) := grown_heap hg (heap_alloc_new k1 (.cells #[.int .i64 0, .int .i64 0, .slice none 0 0] 25)) (by simp); have HBK2 := Lib.hid hBk; have HLT2 := Lib.hid (block_lt (heap_alloc_new k1 (.cells #[.int .i64 0, .int .i64 0, .slice none 0 0] 25))); obtain ⟨r0, r1, r2⟩ := three_cells hBk; have f0 := frozen_of_row k2 _ 0 _ _ hBk; have f1 := frozen_of_row k2 _ 1 _ _ hBk; have f2 := frozen_of_row k2 _ 2 _ _ hBk; clear hBk; clear hg)))
      all_goals (go_wp2_with fail; go_meet; first
        | exact ⟨_, _, _, rfl, rfl, qa_1 HG2.out HO3.out (by first | exact Nat.le_refl _ | exact HG1.out.size)⟩
        | exact ⟨_, _, _, rfl, rfl, qa_2 HG2.out HO3.out HBK1.out (by exact Nat.le_refl _) (by have := HLT1.out; first | exact this | (have := HG1.out.size; simp at *; omega) | omega)⟩
        | exact ⟨_, _, _, rfl, rfl, qa_2 HG2.out HO3.out HBK2.out (by exact HG1.out.size) (by have := HLT2.out; first | exact this | (have := HG1.out.size; simp at *; omega) | omega)⟩)
    case rest =>

    obtain ⟨Bk6, a6, c6, rfl, rfl, HQ6⟩ := hcut
    generalize wc = w6 at *
    clear q00 q01 q02 q10 q11 q12 q20 q21 q22 q30 q31 q32 hbq0
    replace HM := Lib.hid (HM.out.addq HQ6.out.gr HQ6.out.lo HQ6.out.blk)
    replace HX := Lib.hid (HX.out.grown HQ6.out.gr)
    replace HY := Lib.hid (HY.out.grown HQ6.out.gr)
    replace HW := Lib.hid (HW.out.grown HQ6.out.gr)
    replace HU := Lib.hid (HU.out.grown HQ6.out.gr)
    have HP := Lib.hid HQ6.out.mat
    clear HQ6
    obtain ⟨q00, q01, q02⟩ := three_cells (HM.out.get (b := w1.heap.size) (o := .cells #[.int .i64 p, .int .i64 q, .slice a xss.length c] 25) (by simp))
    obtain ⟨q10, q11, q12⟩ := three_cells (HM.out.get (b := w2.heap.size) (o := .cells #[.int .i64 p, .int .i64 q, .slice a2 xss.length c2] 25) (by simp))
    obtain ⟨q20, q21, q22⟩ := three_cells (HM.out.get (b := w3.heap.size) (o := .cells #[.int .i64 p, .int .i64 q, .slice a3 xss.length c3] 25) (by simp))
    obtain ⟨q30, q31, q32⟩ := three_cells (HM.out.get (b := w5.heap.size) (o := .cells #[.int .i64 p, .int .i64 q, .slice a5 xss.length c5] 25) (by simp))
    obtain ⟨q40, q41, q42⟩ := three_cells (HM.out.get (b := Bk6) (o := .cells #[.int .i64 p, .int .i64 q, .slice a6 xss.length c6] 25) (by simp))
    have hbq1 := block_lt (HM.out.get (b := w2.heap.size) (o := .cells #[.int .i64 p, .int .i64 q, .slice a2 xss.length c2] 25) (by simp))
    go_upto_region 11 with fail
    go_cut [13, 14] from 70 to 76 (fun pv bv wx => ∃ (Bk : Nat) (a : Option Addr) (c : Nat), pv = .pointer (some ⟨Bk, 0, none⟩) ∧ bv = .bool true ∧ Hid (QA w6 wx Bk p q a xss.length c (xss.map (cutR 1 H))))
    case first =>
      go_wp2_with fail
      go_region_held3 (fun w' => w'.cell? ⟨w2.heap.size, 0, none⟩ = some (.int .i64 p) ∧ w'.cell? ⟨w2.heap.size, 1, none⟩ = some (.int .i64 q) ∧ w'.cell? ⟨w2.heap.size, 2, none⟩ = some (.slice a2 xss.length c2)) (first | (refine ⟨?_, ?_, ?_⟩ <;> ((repeat (first | with_reducible assumption | with_reducible refine cell_alq ?_ | with_reducible refine cell_st3q ?_ (by simp; omega))); done)) | go_keep) ((first
        | (go_at_call 19; refine (lCount_any (xss.map (fdL 1)) a2 xss.length c2 H p q _ (HY.out.grown (grown_drew w6 none)) HHF.out).mono ?_; rintro e l1 ⟨rfl, hg⟩; skip; have s1q10 := hg.cell q10 (by simp); have s1q11 := hg.cell q11 (by simp); have s1q12 := hg.cell q12 (by simp); have HG1 := Lib.hid (grown_trans (grown_drew w6 none) hg); have hsz1 := HG1.out.size; clear hg)
        | (go_at_call 19; refine (lCount_any (xss.map (fdL 1)) a2 xss.length c2 H p q _ (HY.out.grown (grown_trans (grown_drew w6 none) (grown_alloc _ (.cells #[.int .i64 0, .int .i64 0, .slice none 0 0] 25) none))) HHF.out).mono ?_; rintro e l1 ⟨rfl, hg⟩; skip; have s1q10 := hg.cell (cell_alq (o := .cells #[.int .i64 0, .int .i64 0, .slice none 0 0] 25) q10) (by simp); have s1q11 := hg.cell (cell_alq (o := .cells #[.int .i64 0, .int .i64 0, .slice none 0 0] 25) q11) (by simp); have s1q12 := hg.cell (cell_alq (o := .cells #[.int .i64 0, .int .i64 0, .slice none 0 0] 25) q12) (by simp); have HG1 := Lib.hid (grown_trans (grown_trans (grown_drew w6 none) (grown_alloc _ (.cells #[.int .i64 0, .int .i64 0, .slice none 0 0] 25) none)) hg); have hsz1 := HG1.out.size; have hBk : l1.heap[w6.heap.size]? = some (.cells #[.int .i64 0, .int .i64 0, .slice none 0 0] 25) := grown_heap hg (heap_alloc_new w6.drew (.cells #[.int .i64 0, .int .i64 0, .slice none 0 0] 25)) (by simp); have HBK1 := Lib.hid hBk; have HLT1 := Lib.hid (block_lt (heap_alloc_new w6.drew (.cells #[.int .i64 0, .int .i64 0, .slice none 0 0] 25))); clear hBk; clear hg)
        | (go_at_call 16; have Tz := HBK1; refine (((iCut_any (xss.map (fdL 1)) a2 xss.length c2 p q 1 (H : Int) _ p q (xss.map (cutR 1 H)) true (HY.out.grown HG1.out) hszy HCF.out).mono (fun _ _ h => made_ln h (List.length_map _)))).mono ?_; rintro e l2 ⟨v3, rfl, ho, hg⟩; obtain ⟨a3, g3, rfl, _⟩ := ho.reads; have HO3 := Lib.hid ho; clear ho; have s2q10 := hg.cell s1q10 (by simp); have s2q11 := hg.cell s1q11 (by simp); have s2q12 := hg.cell s1q12 (by simp); have HG2 := Lib.hid (grown_trans HG1.out hg); have hsz2 := HG2.out.size; have hBk := grown_heap hg HBK1.out (by simp); have HLT1 := Lib.hid (block_lt HBK1.out); replace HBK1 := Lib.hid hBk; clear Tz; obtain ⟨r0, r1, r2⟩ := three_cells hBk; have f0 := frozen_of_row l2 _ 0 _ _ hBk; have f1 := frozen_of_row l2 _ 1 _ _ hBk; have f2 := frozen_of_row l2 _ 2 _ _ hBk; clear hBk; clear hg)
        | (go_at_call 16; refine (((iCut_any (xss.map (fdL 1)) a2 xss.length c2 p q 1 (H : Int) _ p q (xss.map (cutR 1 H)) true (HY.out.grown HG1.out) hszy HCF.out).mono (fun _ _ h => made_ln h (List.length_map _)))).mono ?_; rintro e l2 ⟨v3, rfl, ho, hg⟩; obtain ⟨a3, g3, rfl, _⟩ := ho.reads; have HO3 := Lib.hid ho; clear ho; have s2q10 := hg.cell s1q10 (by simp); have s2q11 := hg.cell s1q11 (by simp); have s2q12 := hg.cell s1q12 (by simp); have HG2 := Lib.hid (grown_trans HG1.out hg); have hsz2 := HG2.out.size; clear hg)
        | (go_at_call 16; refine (((iCut_any (xss.map (fdL 1)) a2 xss.length c2 p q 1 (H : Int) _ p q (xss.map (cutR 1 H)) true (HY.out.grown (grown_trans HG1.out (grown_alloc _ (.cells #[.int .i64 0, .int .i64 0, .slice none 0 0] 25) none))) hszy HCF.out).mono (fun _ _ h => made_ln h (List.length_map _)))).mono ?_; rintro e l2 ⟨v3, rfl, ho, hg⟩; obtain ⟨a3, g3, rfl, _⟩ := ho.reads; have HO3 := Lib.hid ho; clear ho; have s2q10 := hg.cell (cell_alq (o := .cells #[.int .i64 0, .int .i64 0, .slice none 0 0] 25) s1q10) (by simp); have s2q11 := hg.cell (cell_alq (o := .cells #[.int .i64 0, .int .i64 0, .slice none 0 0] 25) s1q11) (by simp); have s2q12 := hg.cell (cell_alq (o := .cells #[.int .i64 0, .int .i64 0, .slice none 0 0] 25) s1q12) (by simp); have HG2 := Lib.hid (grown_trans (grown_trans HG1.out (grown_alloc _ (.cells #[.int .i64 0, .int .i64 0, .slice none 0 0] 25) none)) hg); have hsz2 := HG2.out.size; have hBk : l2.heap[l1.heap.size]? = some (.cells #[.int .i64 0, .int .i64 0, .slice none 0 0] 25) := grown_heap hg (heap_alloc_new l1 (.cells #[.int .i64 0, .int .i64 0, .slice none 0 0] 25)) (by simp); have HBK2 := Lib.hid hBk; have HLT2 := Lib.hid (block_lt (heap_alloc_new l1 (.cells #[.int .i64 0, .int .i64 0, .slice none 0 0] 25))); obtain ⟨r0, r1, r2⟩ := three_cells hBk; have f0 := frozen_of_row l2 _ 0 _ _ hBk; have f1 := frozen_of_row l2 _ 1 _ _ hBk; have f2 := frozen_of_row l2 _ 2 _ _ hBk; clear hBk; clear hg)))
      all_goals (go_wp2_with fail; go_meet; first
        | exact ⟨_, _, _, rfl, rfl, qa_1 HG2.out HO3.out (by first | exact Nat.le_refl _ | exact HG1.out.size)⟩
        | exact ⟨_, _, _, rfl, rfl, qa_2 HG2.out HO3.out HBK1.out (by exact Nat.le_refl _) (by have := HLT1.out; first | exact this | (have := HG1.out.size; simp at *; omega) | omega)⟩
        | exact ⟨_, _, _, rfl, rfl, qa_2 HG2.out HO3.out HBK2.out (by exact HG1.out.size) (by have := HLT2.out; first | exact this | (have := HG1.out.size; simp at *; omega) | omega)⟩)
    case rest =>

    obtain ⟨Bk7, a7, c7, rfl, rfl, HQ7⟩ := hcut
    generalize wc = w7 at *
    clear q00 q01 q02 q10 q11 q12 q20 q21 q22 q30 q31 q32 q40 q41 q42 hbq1
    replace HM := Lib.hid (HM.out.addq HQ7.out.gr HQ7.out.lo HQ7.out.blk)
    replace HX := Lib.hid (HX.out.grown HQ7.out.gr)
    replace HY := Lib.hid (HY.out.grown HQ7.out.gr)
    replace HW := Lib.hid (HW.out.grown HQ7.out.gr)
    replace HU := Lib.hid (HU.out.grown HQ7.out.gr)
    replace HP := Lib.hid (HP.out.grown HQ7.out.gr)
    have HQ := Lib.hid HQ7.out.mat
    clear HQ7
    obtain ⟨q00, q01, q02⟩ := three_cells (HM.out.get (b := w1.heap.size) (o := .cells #[.int .i64 p, .int .i64 q, .slice a xss.length c] 25) (by simp))
    obtain ⟨q10, q11, q12⟩ := three_cells (HM.out.get (b := w2.heap.size) (o := .cells #[.int .i64 p, .int .i64 q, .slice a2 xss.length c2] 25) (by simp))
    obtain ⟨q20, q21, q22⟩ := three_cells (HM.out.get (b := w3.heap.size) (o := .cells #[.int .i64 p, .int .i64 q, .slice a3 xss.length c3] 25) (by simp))
    obtain ⟨q30, q31, q32⟩ := three_cells (HM.out.get (b := w5.heap.size) (o := .cells #[.int .i64 p, .int .i64 q, .slice a5 xss.length c5] 25) (by simp))
    obtain ⟨q40, q41, q42⟩ := three_cells (HM.out.get (b := Bk6) (o := .cells #[.int .i64 p, .int .i64 q, .slice a6 xss.length c6] 25) (by simp))
    obtain ⟨q50, q51, q52⟩ := three_cells (HM.out.get (b := Bk7) (o := .cells #[.int .i64 p, .int .i64 q, .slice a7 xss.length c7] 25) (by simp))
    go_wp2_with fail
    refine (equalAudio_same xss a5 a _ c5 c p q _ HU.out HX.out hsz).mono ?_
    rintro e w8 ⟨rfl, hg8⟩
    replace HM := Lib.hid (HM.out.grown hg8)
    replace HX := Lib.hid (HX.out.grown hg8)
    replace HY := Lib.hid (HY.out.grown hg8)
    replace HW := Lib.hid (HW.out.grown hg8)
    replace HU := Lib.hid (HU.out.grown hg8)
    replace HP := Lib.hid (HP.out.grown hg8)
    replace HQ := Lib.hid (HQ.out.grown hg8)
    clear q00 q01 q02 q10 q11 q12 q20 q21 q22 q30 q31 q32 q40 q41 q42 q50 q51 q52 hg8
    obtain ⟨q00, q01, q02⟩ := three_cells (HM.out.get (b := w1.heap.size) (o := .cells #[.int .i64 p, .int .i64 q, .slice a xss.length c] 25) (by simp))
    obtain ⟨q10, q11, q12⟩ := three_cells (HM.out.get (b := w2.heap.size) (o := .cells #[.int .i64 p, .int .i64 q, .slice a2 xss.length c2] 25) (by simp))
    obtain ⟨q20, q21, q22⟩ := three_cells (HM.out.get (b := w3.heap.size) (o := .cells #[.int .i64 p, .int .i64 q, .slice a3 xss.length c3] 25) (by simp))
    obtain ⟨q30, q31, q32⟩ := three_cells (HM.out.get (b := w5.heap.size) (o := .cells #[.int .i64 p, .int .i64 q, .slice a5 xss.length c5] 25) (by simp))
    obtain ⟨q40, q41, q42⟩ := three_cells (HM.out.get (b := Bk6) (o := .cells #[.int .i64 p, .int .i64 q, .slice a6 xss.length c6] 25) (by simp))
    obtain ⟨q50, q51, q52⟩ := three_cells (HM.out.get (b := Bk7) (o := .cells #[.int .i64 p, .int .i64 q, .slice a7 xss.length c7] 25) (by simp))
    go_wp2_with fail
    refine (equalAudio_same (xss.map (cutR 1 H)) a6 a7 _ c6 c7 p q _ HP.out HQ.out hszc).mono ?_
    rintro e w9 ⟨rfl, hg9⟩
    replace HM := Lib.hid (HM.out.grown hg9)
    replace HX := Lib.hid (HX.out.grown hg9)
    replace HY := Lib.hid (HY.out.grown hg9)
    replace HW := Lib.hid (HW.out.grown hg9)
    replace HU := Lib.hid (HU.out.grown hg9)
    replace HP := Lib.hid (HP.out.grown hg9)
    replace HQ := Lib.hid (HQ.out.grown hg9)
    clear q00 q01 q02 q10 q11 q12 q20 q21 q22 q30 q31 q32 q40 q41 q42 q50 q51 q52 hg9
    obtain ⟨q00, q01, q02⟩ := three_cells (HM.out.get (b := w1.heap.size) (o := .cells #[.int .i64 p, .int .i64 q, .slice a xss.length c] 25) (by simp))
    obtain ⟨q10, q11, q12⟩ := three_cells (HM.out.get (b := w2.heap.size) (o := .cells #[.int .i64 p, .int .i64 q, .slice a2 xss.length c2] 25) (by simp))
    obtain ⟨q20, q21, q22⟩ := three_cells (HM.out.get (b := w3.heap.size) (o := .cells #[.int .i64 p, .int .i64 q, .slice a3 xss.length c3] 25) (by simp))
    obtain ⟨q30, q31, q32⟩ := three_cells (HM.out.get (b := w5.heap.size) (o := .cells #[.int .i64 p, .int .i64 q, .slice a5 xss.length c5] 25) (by simp))
    obtain ⟨q40, q41, q42⟩ := three_cells (HM.out.get (b := Bk6) (o := .cells #[.int .i64 p, .int .i64 q, .slice a6 xss.length c6] 25) (by simp))
    obtain ⟨q50, q51, q52⟩ := three_cells (HM.out.get (b := Bk7) (o := .cells #[.int .i64 p, .int .i64 q, .slice a7 xss.length c7] 25) (by simp))
    go_wp2
    go_ret
    exact ⟨rfl, HM.out.g⟩
  have hb : ((s : Int) == 1) = false := by simp; omega
  obtain ⟨q00, q01, q02⟩ := three_cells (HM.out.get (b := w1.heap.size) (o := .cells #[.int .i64 p, .int .i64 q, .slice a xss.length c] 25) (by simp))
  obtain ⟨q10, q11, q12⟩ := three_cells (HM.out.get (b := w2.heap.size) (o := .cells #[.int .i64 p, .int .i64 q, .slice a2 xss.length c2] 25) (by simp))
  obtain ⟨q20, q21, q22⟩ := three_cells (HM.out.get (b := w3.heap.size) (o := .cells #[.int .i64 p, .int .i64 q, .slice a3 xss.length c3] 25) (by simp))
  obtain ⟨q30, q31, q32⟩ := three_cells (HM.out.get (b := w5.heap.size) (o := .cells #[.int .i64 p, .int .i64 q, .slice a5 xss.length c5] 25) (by simp))
  go_wp2_with fail
  refine (equalAudio_same xss a5 a _ c5 c p q _ HU.out HX.out hsz).mono ?_
  rintro e w6 ⟨rfl, hg6⟩
  replace HM := Lib.hid (HM.out.grown hg6)
  replace HX := Lib.hid (HX.out.grown hg6)
  replace HY := Lib.hid (HY.out.grown hg6)
  replace HW := Lib.hid (HW.out.grown hg6)
  replace HU := Lib.hid (HU.out.grown hg6)
  clear q00 q01 q02 q10 q11 q12 q20 q21 q22 q30 q31 q32 hg6
  obtain ⟨q00, q01, q02⟩ := three_cells (HM.out.get (b := w1.heap.size) (o := .cells #[.int .i64 p, .int .i64 q, .slice a xss.length c] 25) (by simp))
  obtain ⟨q10, q11, q12⟩ := three_cells (HM.out.get (b := w2.heap.size) (o := .cells #[.int .i64 p, .int .i64 q, .slice a2 xss.length c2] 25) (by simp))
  obtain ⟨q20, q21, q22⟩ := three_cells (HM.out.get (b := w3.heap.size) (o := .cells #[.int .i64 p, .int .i64 q, .slice a3 xss.length c3] 25) (by simp))
  obtain ⟨q30, q31, q32⟩ := three_cells (HM.out.get (b := w5.heap.size) (o := .cells #[.int .i64 p, .int .i64 q, .slice a5 xss.length c5] 25) (by simp))
  go_wp2
  go_ret
  exact ⟨rfl, HM.out.g⟩

end Go.Proofs.Ytncbgofcimghnaa
