/-
  The walk of 'FnFadeAudio': it returns true and writes nothing that was there. For every code.
-/
import Derived.Test.YtncbgofcimghnaaDrawEd
import Derived.Test.YtncbgofcimghnaaEqA
import Derived.Test.YtncbgofcimghnaaEdF
import Derived.Test.YtncbgofcimghnaaEdZ
import Derived.Test.YtncbgofcimghnaaMem
import Derived.Test.YtncbgofcimghnaaQA
import Derived.Test.YtncbgofcimghnaaEdQ
import Derived.Deep.RegionHeld3
import Derived.Deep.Cut
import Derived.Deep.CutRange
namespace Go.Proofs.Ytncbgofcimghnaa
open Go.RowKit

theorem cu_of {r d : Int} {xss : List (List Int)} {u H f t : Nat} {a b : Int} (h : VA r d xss u H) (hf : f ≤ t) (ht : t ≤ H) (ha : a = (f : Int)) (hb : b = (t : Int)) : CuR r d a b xss r d (xss.map (cutR f t)) true := by
  subst ha hb
  refine Or.inl ⟨⟨va_back h, by omega, by omega, by rw [h.hd]; omega⟩, rfl, rfl, rfl, by simp⟩
theorem cut_cut {r d : Int} {xss : List (List Int)} {u H f t a b : Nat} (_h : VA r d xss u H) (hft : f ≤ t) (ha : a ≤ b) (hb : b ≤ t - f) : (xss.map (cutR f t)).map (cutR a b) = xss.map (cutR (f + a) (f + b)) := by
  rw [List.map_map]
  exact List.map_congr_left (fun xs _ => cutR_twice hft ha hb)
theorem jn_of {r d : Int} {xss yss : List (List Int)} {u u' H H' : Nat} (h : VA r d xss u H) (h' : VA r d yss u' H') (hl : xss.length = yss.length) (hs : H + H' ≤ 256) : JnR r d xss r d yss r d (joinM xss yss) true :=
  Or.inl ⟨⟨va_back h, va_back h', rfl, rfl, hl, by rw [h.hd, h'.hd]; exact hs⟩, rfl, rfl, rfl, rfl⟩
theorem join_cuts {r d : Int} {xss : List (List Int)} {u H f t : Nat} (h : VA r d xss u H) (hft : f ≤ t) (ht : t ≤ H) : joinM (joinM (xss.map (cutR 0 f)) (xss.map (cutR f t))) (xss.map (cutR t H)) = xss := by
  apply List.ext_getElem?
  intro k
  cases hx : xss[k]? with
  | none =>
    have hk : xss.length ≤ k := List.getElem?_eq_none_iff.1 hx
    exact List.getElem?_eq_none (by unfold joinM; simp; omega)
  | some xs =>
    have hl := (h.row k xs hx).1
    have e : ∀ a b, (xss.map (cutR a b))[k]? = some (cutR a b xs) := fun a b => by rw [List.getElem?_map, hx]; rfl
    rw [joinM_get (joinM_get (e 0 f) (e f t)) (e t H), ← hl, cutR_split hft (by omega)]
/-- The same with the number of rows under another name. -/
def MadeABn (yss : List (List Int)) (ln : Nat) (rr dd : Int) (ok : Bool) (w : World) (e : Ending) (w' : World) : Prop :=
  ∃ v, e = .returned (.tuple #[.agg #[.int .i64 rr, .int .i64 dd, v], .bool ok]) ∧ MOwn w' w.heap.size v ln yss ∧ w.grownBy w' none
theorem made_ln {yss : List (List Int)} {ln : Nat} {rr dd : Int} {ok : Bool} {w w' : World} {e : Ending} (h : MadeAB yss rr dd ok w e w') (hl : yss.length = ln) : MadeABn yss ln rr dd ok w e w' := by subst hl; exact h
theorem fd_at {s k : Nat} {xs : List Int} {x y : Int} (hs : s ≤ xs.length) (hx : xs[k]? = some x) (hy : (fdL s xs)[k]? = some y) : (k < s → (0 ≤ x → 0 ≤ y ∧ y ≤ x) ∧ (x ≤ 0 → x ≤ y ∧ y ≤ 0)) ∧ (k = 0 → k < s → 0 = y) ∧ (¬ k < s → y = x) := by
  have hl : (fdP s (xs.take s)).length = s := by rw [fdP_len]; simp; omega
  by_cases hk : k < s
  · have h1 : (xs.take s)[k]? = some x := by rw [List.getElem?_take, if_pos hk]; exact hx
    have h2 := fdP_get (s := s) h1
    unfold fdL at hy
    rw [List.getElem?_append_left (by omega), h2] at hy
    injection hy with hy
    subst hy
    refine ⟨fun _ => fdf_le (by omega) (by omega), fun h0 _ => ?_, fun h => absurd hk h⟩
    subst h0
    unfold fdf qC
    have : (2 * (x * ((0 : Nat) : Int)) + (s : Int)) / (2 * (s : Int)) = 0 := by
      rw [show 2 * (x * ((0 : Nat) : Int)) + (s : Int) = (s : Int) by simp]
      exact Int.ediv_eq_zero_of_lt (by omega) (by omega)
    exact this.symm
  · unfold fdL at hy
    rw [List.getElem?_append_right (by omega), hl, List.getElem?_drop, show s + (k - s) = k by omega, hx] at hy
    injection hy with hy
    exact ⟨fun h => absurd h hk, fun _ h => absurd h hk, fun _ => hy.symm⟩
set_option maxRecDepth 100000 in
set_option maxHeartbeats 4000000 in
theorem FnFadeAudio_walk (ao : Option Addr) (len cap : Nat) (w : World) (hb : BytesAt w ao len) (hlc : len ≤ cap) (hmax : len ≤ 9223372036854775807) :
    Calls Try.prog 5 #[.slice ao len cap] w (Holds w) := by
  by_cases hlen : 1048576 < len
  · clear hb
    go_enter Try.func5, Try.ntmps5
    go_wp2
    go_ret
    exact ⟨rfl, grown_refl _ _⟩
  have hd := drawFd_any ao len cap w hb hlc hmax
  have hm : decide (1048576 < (len : Int)) = false := by simp; omega
  clear hb hlen
  go_enter Try.func5, Try.ntmps5
  go_wp2_with fail
  refine hd.mono ?_
  rintro e w1 ⟨p, q, a, l, c, xss, x0, rfl, hx0, hmat, hl2, hs2, hg1⟩
  obtain rfl := hmat.1
  have HM := Lib.hid (((Mem.start w).grown hg1).block (.cells #[.int .i64 p, .int .i64 q, .slice a xss.length c] 25))
  have HX := Lib.hid (hmat.grown (grown_alloc w1 (.cells #[.int .i64 p, .int .i64 q, .slice a xss.length c] 25) none))
  have hsz : szL xss ≤ 1048576 := by omega
  clear hd hmat hg1
  have hx0b : -1 ≤ x0 ∧ x0 ≤ 300 := by simp only [List.mem_cons, List.not_mem_nil, or_false] at hx0; omega
  have hx00 := hx0b.1
  have hx01 := hx0b.2
  clear hx0 hx0b
  obtain ⟨rr, dd, yss, ok, hS⟩ : ∃ rr dd yss ok, FdR p q x0 xss rr dd yss ok := AuR_there _ _ _ _
  have hszy : szL yss ≤ 1048576 := fd_sz hS
  have HS := Lib.hid hS
  clear hS
  obtain ⟨q00, q01, q02⟩ := three_cells (HM.out.get (b := w1.heap.size) (o := .cells #[.int .i64 p, .int .i64 q, .slice a xss.length c] 25) (by simp))
  go_wp2_with fail
  refine (iFd_any xss a xss.length c p q x0 _ rr dd yss ok HX.out hsz HS.out).mono ?_
  rintro e w2 ⟨v2, rfl, ho2, hg2⟩
  obtain ⟨a2, c2, rfl, _, _, hm2, _⟩ := ho2.reads
  replace HM := Lib.hid ((HM.out.grown hg2).block (.cells #[.int .i64 rr, .int .i64 dd, .slice a2 yss.length c2] 25))
  replace HX := Lib.hid ((HX.out.grown hg2).grown (grown_alloc w2 (.cells #[.int .i64 rr, .int .i64 dd, .slice a2 yss.length c2] 25) none))
  have HY : Hid (Mat (w2.alloc (.cells #[.int .i64 rr, .int .i64 dd, .slice a2 yss.length c2] 25)) a2 yss.length yss) := by
    have h := hm2.grown (grown_alloc w2 (.cells #[.int .i64 rr, .int .i64 dd, .slice a2 yss.length c2] 25) none)
    first | exact h | (simp only [List.length_map] at h; exact h)
  clear q00 q01 q02 hg2 ho2 hm2
  obtain ⟨q00, q01, q02⟩ := three_cells (HM.out.get (b := w1.heap.size) (o := .cells #[.int .i64 p, .int .i64 q, .slice a xss.length c] 25) (by simp))
  obtain ⟨q10, q11, q12⟩ := three_cells (HM.out.get (b := w2.heap.size) (o := .cells #[.int .i64 rr, .int .i64 dd, .slice a2 yss.length c2] 25) (by simp))
  go_wp2_with fail
  refine (sFd_any xss a xss.length c p q x0 _ rr dd yss ok HX.out hsz HS.out).mono ?_
  rintro e w3 ⟨v3, rfl, ho3, hg3⟩
  obtain ⟨a3, c3, rfl, _, _, hm3, _⟩ := ho3.reads
  replace HM := Lib.hid ((HM.out.grown hg3).block (.cells #[.int .i64 rr, .int .i64 dd, .slice a3 yss.length c3] 25))
  replace HX := Lib.hid ((HX.out.grown hg3).grown (grown_alloc w3 (.cells #[.int .i64 rr, .int .i64 dd, .slice a3 yss.length c3] 25) none))
  replace HY := Lib.hid ((HY.out.grown hg3).grown (grown_alloc w3 (.cells #[.int .i64 rr, .int .i64 dd, .slice a3 yss.length c3] 25) none))
  have HW : Hid (Mat (w3.alloc (.cells #[.int .i64 rr, .int .i64 dd, .slice a3 yss.length c3] 25)) a3 yss.length yss) := by
    have h := hm3.grown (grown_alloc w3 (.cells #[.int .i64 rr, .int .i64 dd, .slice a3 yss.length c3] 25) none)
    first | exact h | (simp only [List.length_map] at h; exact h)
  clear q00 q01 q02 q10 q11 q12 hg3 ho3 hm3
  obtain ⟨q00, q01, q02⟩ := three_cells (HM.out.get (b := w1.heap.size) (o := .cells #[.int .i64 p, .int .i64 q, .slice a xss.length c] 25) (by simp))
  obtain ⟨q10, q11, q12⟩ := three_cells (HM.out.get (b := w2.heap.size) (o := .cells #[.int .i64 rr, .int .i64 dd, .slice a2 yss.length c2] 25) (by simp))
  obtain ⟨q20, q21, q22⟩ := three_cells (HM.out.get (b := w3.heap.size) (o := .cells #[.int .i64 rr, .int .i64 dd, .slice a3 yss.length c3] 25) (by simp))
  go_wp2_with fail
  refine (equalAudio_same yss a2 a3 _ c2 c3 rr dd _ HY.out HW.out hszy).mono ?_
  rintro e w4 ⟨rfl, hg4⟩
  replace HM := Lib.hid (HM.out.grown hg4)
  replace HX := Lib.hid (HX.out.grown hg4)
  replace HY := Lib.hid (HY.out.grown hg4)
  replace HW := Lib.hid (HW.out.grown hg4)
  clear q00 q01 q02 q10 q11 q12 q20 q21 q22 hg4
  cases ok with
  | false =>
    obtain ⟨q00, q01, q02⟩ := three_cells (HM.out.get (b := w1.heap.size) (o := .cells #[.int .i64 p, .int .i64 q, .slice a xss.length c] 25) (by simp))
    obtain ⟨q10, q11, q12⟩ := three_cells (HM.out.get (b := w2.heap.size) (o := .cells #[.int .i64 rr, .int .i64 dd, .slice a2 yss.length c2] 25) (by simp))
    obtain ⟨q20, q21, q22⟩ := three_cells (HM.out.get (b := w3.heap.size) (o := .cells #[.int .i64 rr, .int .i64 dd, .slice a3 yss.length c3] 25) (by simp))
    go_wp2_with fail
    refine (equalAudio_same yss a2 a3 _ c2 c3 rr dd _ HY.out HW.out hszy).mono ?_
    rintro e w5 ⟨rfl, hg5⟩
    replace HM := Lib.hid (HM.out.grown hg5)
    replace HX := Lib.hid (HX.out.grown hg5)
    replace HY := Lib.hid (HY.out.grown hg5)
    replace HW := Lib.hid (HW.out.grown hg5)
    clear q00 q01 q02 q10 q11 q12 q20 q21 q22 hg5
    obtain ⟨q00, q01, q02⟩ := three_cells (HM.out.get (b := w1.heap.size) (o := .cells #[.int .i64 p, .int .i64 q, .slice a xss.length c] 25) (by simp))
    obtain ⟨q10, q11, q12⟩ := three_cells (HM.out.get (b := w2.heap.size) (o := .cells #[.int .i64 rr, .int .i64 dd, .slice a2 yss.length c2] 25) (by simp))
    obtain ⟨q20, q21, q22⟩ := three_cells (HM.out.get (b := w3.heap.size) (o := .cells #[.int .i64 rr, .int .i64 dd, .slice a3 yss.length c3] 25) (by simp))
    go_wp2
    go_ret
    exact ⟨rfl, HM.out.g⟩
  | true =>
  obtain ⟨⟨hva, h0, h2⟩, rfl, rfl, rfl⟩ : fadeC p q x0 xss ∧ p = rr ∧ q = dd ∧ yss = xss.map (fdL x0.toNat) := by
    rcases HS.out with ⟨h1, _, h3, h4, h5⟩ | ⟨_, h1, _⟩
    · exact ⟨h1, h3.symm, h4.symm, h5⟩
    · cases h1
  obtain ⟨u, H, hV⟩ := va_of hva
  rw [hV.hd] at h2
  obtain ⟨s, hs⟩ := Int.eq_ofNat_of_zero_le h0
  subst hs
  have hsH : s ≤ H := by omega
  have HV := Lib.hid hV
  simp only [Int.toNat_natCast] at *
  rw [show (xss.map (fdL s)).length = xss.length from List.length_map _] at HM HY HW
  clear hV hva h0 h2 HS
  have hvf := va_back (va_fade HV.out hsH)
  have HVF := Lib.hid hvf
  have hlen2 := HV.out.ch.2
  have hHH := HV.out.hh
  clear hvf
  have hlen0 := HV.out.ch.1
  obtain ⟨bx, ox, hax, hcx⟩ := HX.out.2.resolve_left (by intro e; rw [e] at hlen0; simp at hlen0)
  obtain ⟨by_, oy, hay, hcy⟩ := HY.out.2.resolve_left (by intro e; have h9 := congrArg List.length e; rw [List.length_map] at h9; simp at h9; rw [h9] at hlen0; simp at hlen0)
  subst hax hay
  have HCX := Lib.hid hcx
  have HCY := Lib.hid hcy
  clear hcx hcy
  obtain ⟨q00, q01, q02⟩ := three_cells ((HM.out).get (b := w1.heap.size) (o := .cells #[.int .i64 p, .int .i64 q, .slice (some ⟨bx, ox, none⟩) xss.length c] 25) (by simp))
  obtain ⟨q10, q11, q12⟩ := three_cells ((HM.out).get (b := w2.heap.size) (o := .cells #[.int .i64 p, .int .i64 q, .slice (some ⟨by_, oy, none⟩) xss.length c2] 25) (by simp))
  go_wp2
  simp only [List.length_map]
  go_loopw [9] (fun iv wr => ∃ i : Nat, i ≤ xss.length ∧ iv = .int .i64 i ∧ Hid (w4.grownBy wr none)) (fun iv _ => 10 - (intOf iv).toNat)
  case atStart => exact ⟨0, Nat.zero_le _, rfl, grown_refl _ _⟩
  case round =>
    clear q00 q01 q02 q10 q11 q12
    obtain ⟨i, hi, rfl, HW2⟩ := hrel
    have HM2 := Lib.hid (HM.out.grown HW2.out)
    obtain ⟨q00, q01, q02⟩ := three_cells ((HM2.out).get (b := w1.heap.size) (o := .cells #[.int .i64 p, .int .i64 q, .slice (some ⟨bx, ox, none⟩) xss.length c] 25) (by simp))
    obtain ⟨q10, q11, q12⟩ := three_cells ((HM2.out).get (b := w2.heap.size) (o := .cells #[.int .i64 p, .int .i64 q, .slice (some ⟨by_, oy, none⟩) xss.length c2] 25) (by simp))
    by_cases hlt : i < xss.length
    · obtain ⟨xs, hxk⟩ : ∃ xs, xss[i]? = some xs := ⟨_, List.getElem?_eq_getElem hlt⟩
      obtain ⟨ux, hux, ax, cx, rfl, hinx, _⟩ := HCX.out i xs hxk
      obtain ⟨uy, huy, ay, cy, rfl, hiny, _⟩ := HCY.out i (fdL s xs) (by rw [List.getElem?_map, hxk]; rfl)
      have hxl := (HV.out.row i xs hxk).1
      have hyl : (fdL s xs).length = H := by rw [fdL_len (by omega)]; exact hxl
      rw [hxl] at hux hinx
      rw [hyl] at huy hiny
      have HUX := Lib.hid hux
      have HUY := Lib.hid huy
      have HINX := Lib.hid hinx
      have HINY := Lib.hid hiny
      have HXK := Lib.hid hxk
      have HXL := Lib.hid hxl
      have q3 := HW2.out.cell hux (by simp)
      clear hux huy hinx hiny hxk hxl hyl
      go_wp2
      go_loopw [10] (fun kv wx => ∃ (k : Nat), k ≤ H ∧ kv = .int .i64 k ∧ Hid (w4.grownBy wx none)) (fun kv _ => 300 - (intOf kv).toNat)
      case atStart => exact ⟨0, Nat.zero_le _, rfl, HW2⟩
      case round =>
        clear q00 q01 q02 q10 q11 q12 q3
        obtain ⟨k, hk, rfl, HR⟩ := hrel
        have HM3 := Lib.hid (HM.out.grown HR.out)
        obtain ⟨q00, q01, q02⟩ := three_cells ((HM3.out).get (b := w1.heap.size) (o := .cells #[.int .i64 p, .int .i64 q, .slice (some ⟨bx, ox, none⟩) xss.length c] 25) (by simp))
        obtain ⟨q10, q11, q12⟩ := three_cells ((HM3.out).get (b := w2.heap.size) (o := .cells #[.int .i64 p, .int .i64 q, .slice (some ⟨by_, oy, none⟩) xss.length c2] 25) (by simp))
        have q3 := HR.out.cell HUX.out (by simp)
        have q4 := HR.out.cell HUY.out (by simp)
        by_cases hkt : k < H
        · obtain ⟨x, hxj⟩ : ∃ x, xs[k]? = some x := ⟨_, List.getElem?_eq_getElem (by rw [HXL.out]; exact hkt)⟩
          obtain ⟨b2, off2, rfl, hc2⟩ := HINX.out.2.resolve_left (by intro e; rw [e] at hxj; simp at hxj)
          have q5 := HR.out.cell (hc2 k x hxj) (by simp)
          obtain ⟨y, hyj⟩ : ∃ y, (fdL s xs)[k]? = some y := ⟨_, List.getElem?_eq_getElem (by rw [fdL_len (by rw [HXL.out]; exact hsH), HXL.out]; exact hkt)⟩
          obtain ⟨b3, off3, rfl, hc3⟩ := HINY.out.2.resolve_left (by intro e; rw [e] at hyj; simp at hyj)
          have q6 := HR.out.cell (hc3 k y hyj) (by simp)
          have hr := HV.out.num HXK.out hxj
          have hp := HV.out.pow
          have hx0 : -32768 ≤ x := by omega
          have hx1 : x ≤ 32768 := by omega
          have hyv := fd_at (s := s) (by rw [HXL.out]; exact hsH) hxj hyj
          have hwx : IntKind.i64.wrap (-x) = -x := IntWalk.i64_in _ (by omega)
          clear hc2 hc3 hr hp hxj hyj
          have hkz : (k : Int) < (H : Int) := by omega
          by_cases hks : k < s
          · have hyle := hyv.1 hks
            have b3' : decide ((s : Int) ≤ (k : Int)) = false := by simp; omega
            have hwy : IntKind.i64.wrap (-y) = -y := IntWalk.i64_in _ (by omega)
            by_cases hk0 : k = 0
            · subst hk0
              simp only [Nat.add_zero] at q5 q6
              obtain rfl := hyv.2.1 rfl hks
              have b1' : decide ((0 : Int) < (s : Int)) = true := by simp; omega
              have b1n : decide (0 < s) = true := by simp; omega
              clear hyv hyle
              by_cases hxn : x < 0
              · have l2 : decide (x < -x) = true := by simp; omega
                have l3 : decide (-x < (0 : Int)) = false := by simp; omega
                go_wp2
                go_roundw
                case rel => first | exact ⟨1, by omega, by omega⟩ | exact ⟨1, by omega, by go_num, HR⟩
                case measure => simp [intOf]
              · have l2 : decide (x < -x) = false := by simp; omega
                have l3 : decide (x < (0 : Int)) = false := by simp; omega
                go_wp2
                go_roundw
                case rel => first | exact ⟨1, by omega, by omega⟩ | exact ⟨1, by omega, by go_num, HR⟩
                case measure => simp [intOf]
            · have b0' : ((k : Int) == 0) = false := by simp; omega
              clear hyv
              by_cases hxn : x < 0
              · by_cases hyn : y < 0
                · have l1 : decide (y < -y) = true := by simp; omega
                  have l2 : decide (x < -x) = true := by simp; omega
                  have l3 : decide (-x < -y) = false := by simp; omega
                  go_wp2
                  go_roundw
                  case rel => first | exact ⟨k + 1, by omega, by omega⟩ | exact ⟨k + 1, by omega, by go_num, HR⟩
                  case measure => simp [intOf]; omega
                · have l1 : decide (y < -y) = false := by simp; omega
                  have l2 : decide (x < -x) = true := by simp; omega
                  have l3 : decide (-x < y) = false := by simp; omega
                  go_wp2
                  go_roundw
                  case rel => first | exact ⟨k + 1, by omega, by omega⟩ | exact ⟨k + 1, by omega, by go_num, HR⟩
                  case measure => simp [intOf]; omega
              · have l1 : decide (y < -y) = false := by simp; omega
                have l2 : decide (x < -x) = false := by simp; omega
                have l3 : decide (x < y) = false := by simp; omega
                go_wp2
                go_roundw
                case rel => first | exact ⟨k + 1, by omega, by omega⟩ | exact ⟨k + 1, by omega, by go_num, HR⟩
                case measure => simp [intOf]; omega
          · obtain rfl := hyv.2.2 (by omega)
            have b3' : decide ((s : Int) ≤ (k : Int)) = true := by simp; omega
            clear hyv
            by_cases hk0 : k = 0
            · subst hk0
              simp only [Nat.add_zero] at q5 q6
              obtain rfl : s = 0 := by omega
              by_cases hxn : y < 0
              · have l1 : decide (y < -y) = true := by simp; omega
                have l3 : decide (-y < -y) = false := by simp
                go_wp2
                go_roundw
                case rel => first | exact ⟨1, by omega, by omega⟩ | exact ⟨1, by omega, by go_num, HR⟩
                case measure => simp [intOf]
              · have l1 : decide (y < -y) = false := by simp; omega
                have l3 : decide (y < y) = false := by simp
                go_wp2
                go_roundw
                case rel => first | exact ⟨1, by omega, by omega⟩ | exact ⟨1, by omega, by go_num, HR⟩
                case measure => simp [intOf]
            · have b0' : ((k : Int) == 0) = false := by simp; omega
              by_cases hxn : y < 0
              · have l1 : decide (y < -y) = true := by simp; omega
                have l3 : decide (-y < -y) = false := by simp
                go_wp2
                go_roundw
                case rel => first | exact ⟨k + 1, by omega, by omega⟩ | exact ⟨k + 1, by omega, by go_num, HR⟩
                case measure => simp [intOf]; omega
              · have l1 : decide (y < -y) = false := by simp; omega
                have l3 : decide (y < y) = false := by simp
                go_wp2
                go_roundw
                case rel => first | exact ⟨k + 1, by omega, by omega⟩ | exact ⟨k + 1, by omega, by go_num, HR⟩
                case measure => simp [intOf]; omega
        · have hkz : ¬ (k : Int) < (H : Int) := by omega
          go_wp2
          go_roundw
          case rel => exact ⟨i + 1, by omega, by go_num, HR⟩
          case measure => simp [intOf]; omega
    · have hlz : ¬ (i : Int) < (xss.length : Int) := by omega
      have HY2 := Lib.hid (HY.out.grown HW2.out)
      go_wp2_with fail
      refine (iVAu_any (xss.map (fdL s)) (some ⟨by_, oy, none⟩) xss.length c2 p q _ true HY2.out hszy HVF.out).mono ?_
      rintro e w9 ⟨rfl, hg9⟩
      have HG := Lib.hid (HM2.out.grown hg9).g
      clear q00 q01 q02 q10 q11 q12 hg9
      go_wp2
      go_ret
      exact ⟨rfl, HG.out⟩

end Go.Proofs.Ytncbgofcimghnaa
