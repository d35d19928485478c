/-
  Restored samples, the specification's. For valid coefficients and samples.
-/
import Derived.Test.YtgiiaijlahjfnaaLinJ2
import Derived.Test.YtgiiaijlahjfnaaCopyOf
namespace Go.Proofs.Ytgiiaijlahjfnaa
open Go.RowKit

set_option maxHeartbeats 400000 in
theorem sDist_any (n : Int) (w : World) (h0 : -10000000000 ≤ n) (h1 : n ≤ 10000000000) :
    Calls Try.prog 63 #[.int .i64 n] w fun e w' => e = .returned (.int .i64 (n.natAbs : Int)) ∧ w = w' := by
  by_cases h : n < 0
  · have e : (n.natAbs : Int) = -n := by omega
    rw [e]
    clear e
    go_enter Try.func63, Try.ntmps63
    go_wp2
    go_ret
    exact ⟨rfl, rfl⟩
  · have e : (n.natAbs : Int) = n := by omega
    have d : decide (n < 0) = false := by simpa using h
    rw [e]
    clear e h
    go_enter Try.func63, Try.ntmps63
    go_wp2
    go_ret
    exact ⟨rfl, rfl⟩

theorem rsT_next {cs : List Int} {sh : Nat} {warm rs acc : List Int} {k : Nat} {r z : Int} (h : rsT cs sh warm rs k = some acc) (hr : rs[k]? = some r) (hz : pred cs sh acc acc.length = z) :
    rsT cs sh warm rs (k + 1) = if -65536 ≤ r + z ∧ r + z ≤ 65536 then some (acc ++ [r + z]) else none := by
  simp only [rsT, h, hz, getD_of hr]
theorem rsT_stop {cs : List Int} {sh : Nat} {warm rs : List Int} {k : Nat} (h : rsT cs sh warm rs k = none) : ∀ j, k ≤ j → rsT cs sh warm rs j = none := by
  intro j hj
  obtain ⟨d, rfl⟩ : ∃ d, j = k + d := ⟨j - k, by omega⟩
  induction d with
  | zero => exact h
  | succ d ih =>
    show (match rsT cs sh warm rs (k + d) with | none => none | some acc => _) = none
    rw [ih (by omega)]

set_option maxRecDepth 100000 in
set_option maxHeartbeats 4000000 in
theorem sRest_any (cs ws rs : List Int) (n lw lr s m : Nat) (oc : Option (List Int)) (ys : List Int) (ok : Bool) (yo ao bo : Option Addr) (ycap cap bcap : Nat) (w : World) (hx : Ints w ao lw ws) (hxn : ao = none → cap = 0) (hr : Ints w bo lr rs) (hy : Ints w yo n cs) (hnl : n ≤ lw) (hm : lw + lr ≤ 64) (hn8 : n ≤ 8) (hs : s ≤ 14)
    (hcs : allB cs (-4095) 4095 = true) (hws : allB ws (-65536) 65536 = true) (hrs : allB rs (-4194303) 4194303 = true) (hoc : rsT cs s ws rs lr = oc) (HR2 : Hid (oc.getD [] = ys ∧ oc.isSome = ok ∧ (if ok then lw + lr else 0) = m)) :
    Calls Try.prog 47 #[.slice ao lw cap, .slice bo lr bcap, .agg #[.slice yo n ycap, .int .i64 (s : Int)]] w (MadeRB ys m ok w) := by
  have HWL := Lib.hid hx.1
  have HRL := Lib.hid hr.1
  have HY := Lib.hid hy
  have HR := Lib.hid hr
  have HCS := Lib.hid hcs
  have HWS := Lib.hid hws
  have HRS := Lib.hid hrs
  have HOC := Lib.hid hoc
  have HCL := Lib.hid hy.1
  have HX := Lib.hid hx
  have HXN := Lib.hid hxn
  clear hx hr hy hcs hws hrs hoc hxn
  go_enter Try.func47, Try.ntmps47
  go_wp2_with fail
  refine (copyInts_any ws ao lw cap _ (HX.out.grown (grown_alloc _ _ _)) HXN.out (by omega)).mono ?_
  rintro e w1 ⟨v1, rfl, ho1, hg1⟩
  have HQ : Hid (LQ w (.cells #[.slice yo n ycap, .int .i64 (s : Int)] 25 (0, 0)) v1 lw ws w1) := by
    refine ⟨grown_heap hg1 (heap_alloc_new w _) (by simp), ho1.base_le (by simp), grown_trans (grown_alloc _ _ _) hg1⟩
  obtain ⟨a1, c1, rfl, _⟩ := ho1.reads
  clear ho1 hg1
  go_wp2
  go_loopw [8, 9] (fun sv iv wr => ∃ (k : Nat) (bv : Value), bv = sv ∧ k ≤ lr ∧ iv = .int .i64 (k : Int) ∧ Hid (∃ acc, rsT cs s ws rs k = some acc ∧ LQ w (.cells #[.slice yo n ycap, .int .i64 (s : Int)] 25 (0, 0)) bv (lw + k) acc wr)) (fun _ iv _ => lr - (intOf iv).toNat)
  case atStart => exact ⟨0, _, by simp, by omega, by simp, ws, rfl, HQ.out⟩
  case round =>
    obtain ⟨k, bv, rfl, hk, rfl, HE⟩ := hrel
    obtain ⟨acc, hac, hq⟩ := HE.out
    have hall := rsT_all HWS.out hac
    obtain ⟨la, hla⟩ : ∃ la, lw + k = la := ⟨_, rfl⟩
    rw [hla] at hq
    obtain ⟨a2, c2, rfl, _, _, hxa, _⟩ := hq.own.reads
    have q0 : wr.cell? ⟨w.heap.size, 0, none⟩ = some (.slice yo n ycap) := by rw [cell_of_row wr _ 0 _ _ _ hq.now]; rfl
    have q1 : wr.cell? ⟨w.heap.size, 1, none⟩ = some (.int .i64 (s : Int)) := by rw [cell_of_row wr _ 1 _ _ _ hq.now]; rfl
    have hal := hxa.1
    have HAC := Lib.hid hac
    have HQK := Lib.hid hq
    by_cases hlt : k < lr
    · obtain ⟨r, hrk⟩ : ∃ r, rs[k]? = some r := ⟨_, List.getElem?_eq_getElem (by have := HRL.out; omega)⟩
      obtain ⟨b, off, rfl, hc⟩ := HR.out.2.resolve_left (by intro e; subst e; simp at hrk)
      have q2 : wr.cell? ⟨b, off + k, none⟩ = some (.int .i64 r) := hq.g.cell (hc k r hrk) (by simp)
      have hrr := allB_mem HRS.out hrk
      obtain ⟨z, hz⟩ : ∃ z, prS cs acc la n / 2 ^ s = z := ⟨_, rfl⟩
      have hzr := pred_range HCS.out (by have := HCL.out; omega) hall s la
      have hpz : pred cs s acc acc.length = z := by unfold pred; rw [HCL.out, hal]; exact hz
      rw [← hal, hpz] at hzr
      have hr0 := hrr.1
      have hr1 := hrr.2
      have hz0 := hzr.1
      have hz1 := hzr.2
      have hnext := rsT_next hac hrk hpz
      have HNEXT := Lib.hid hnext
      have HZ := Lib.hid hz
      have HALL := Lib.hid hall
      have HXA := Lib.hid hxa
      have hk0' : (0 : Int) ≤ (k : Int) := by omega
      have hk1' : (k : Int) < (lr : Int) := by omega
      have hk64 : la ≤ 64 := by omega
      obtain ⟨u, hu⟩ : ∃ u, r + z = u := ⟨_, rfl⟩
      have hu0 : -10000000000 ≤ u := by omega
      have hu1 : u ≤ 10000000000 := by omega
      have HU := Lib.hid hu
      have hwz : IntKind.i64.wrap u = u := IntWalk.i64_in _ (by omega)
      clear hc hrk hrr hzr hpz hnext hz hall hxa hac hq HE hal
      go_wp2_with fail
      go_region_held3 (fun w' => w'.cell? ⟨w.heap.size, 0, none⟩ = some (.slice yo n ycap) ∧ w'.cell? ⟨w.heap.size, 1, none⟩ = some (.int .i64 (s : Int)) ∧ w'.cell? ⟨b, off + k, none⟩ = some (.int .i64 r)) (first | go_keep | exact ⟨by assumption, by assumption, by assumption⟩) ((go_at_call 59; refine (sPredict_any cs acc n la s la z yo a2 ycap c2 _ (HXA.out.grown (grown_drew _ _)) ((HY.out.grown HQK.out.g).grown (grown_drew _ _)) (by omega) (Nat.le_refl _) (by omega) hn8 hs HCS.out HALL.out HZ.out).mono ?_; rintro e w2 ⟨rfl, hg2⟩; have HG2 := Lib.hid (grown_trans (grown_drew wr none) hg2); have hS0 := hg2.cell q0 (by simp); have hS1 := hg2.cell q1 (by simp); have hS2 := hg2.cell q2 (by simp); clear hg2))
      clear hS0 hS1 hS2 q0 q1 q2 hwz hu
      have HLA := Lib.hid hla
      clear hla
      go_wp2_with fail
      refine (sDist_any u _ hu0 hu1).mono ?_
      rintro e w' ⟨rfl, rfl⟩
      by_cases hb : -65536 ≤ u ∧ u ≤ 65536
      · have hd : decide (65536 < (u.natAbs : Int)) = false := by simp; omega
        have hnx := HNEXT.out
        rw [HU.out, if_pos hb] at hnx
        have HNX := Lib.hid hnx
        clear hb hnx
        go_wp2_with (at_builtin; refine append_ints rfl _ _ rfl (w.heap.size + 1) (.slice a2 la c2) la acc rfl ((HQK.out.own.grown HG2.out).grown (grown_alloc _ _ _)) (some ⟨w2.heap.size, 0, none⟩) 1 1 [u] rfl (ints_one _ _ _) (fun e => nomatch e) ?_ ?_ ?_)
        · omega
        · have h1 := HG2.out.size; have h2 := block_lt HQK.out.now; simp; omega
        intro v3 w3 hown3 hgrow3
        have HQ3 := Lib.hid (HQK.out.step (grown_trans HG2.out (grown_alloc _ _ _)) hgrow3 hown3)
        have hla := HLA.out
        clear hown3 hgrow3 hd
        go_wp2
        go_roundw
        case rel => exact ⟨k + 1, v3, rfl, by omega, by go_num, _, HNX.out, by rw [show lw + (k + 1) = la + 1 by omega]; exact HQ3.out⟩
        case measure => simp [intOf]; omega
      · have hd : decide (65536 < (u.natAbs : Int)) = true := by simp; omega
        have hnx := HNEXT.out
        rw [HU.out, if_neg hb] at hnx
        have hst := rsT_stop hnx lr (by omega)
        rw [HOC.out] at hst
        obtain ⟨e1, e2, e3⟩ := HR2.out
        subst hst
        have e1 : ([] : List Int) = ys := e1
        have e2 : false = ok := e2
        subst e2
        have e3 : (0 : Nat) = m := e3
        subst e1
        subst e3
        have HGG := Lib.hid (grown_trans HQK.out.g HG2.out)
        clear hb hnx HNEXT
        go_wp2
        go_ret2
        exact madeRB_none HGG.out
    · obtain rfl : k = lr := by omega
      rw [HOC.out] at hac
      obtain ⟨e1, e2, e3⟩ := HR2.out
      subst hac
      have e1 : acc = ys := e1
      have e2 : true = ok := e2
      subst e2
      have e3 : lw + k = m := e3
      rw [hla] at e3
      subst e1
      have HO := Lib.hid hq.own
      have HG := Lib.hid hq.g
      have HE3 := Lib.hid e3
      clear hq hall hxa hal HAC HQK HE q0 q1 e3 hla
      go_wp2
      go_ret2
      refine ⟨.slice a2 la c2, rfl, ?_, HG.out⟩
      have e3 := HE3.out
      subst e3
      exact HO.out.base_le (by omega)

end Go.Proofs.Ytgiiaijlahjfnaa
