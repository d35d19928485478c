/-
  LinearRestore of the program, for all arguments.
-/
import Derived.Test.YtgiiaijlahjfnaaLinR2
namespace Go.Proofs.Ytgiiaijlahjfnaa
open Go.RowKit

theorem drop_pred {cs acc : List Int} {n k la : Nat} (hla : n + k = la) : ∀ q, q ≤ n → prS cs (acc.drop k) n q = prS cs acc la q := by
  intro q
  induction q with
  | zero => intro _; rfl
  | succ q ih =>
    intro hq
    simp only [prS]
    rw [ih (by omega)]
    congr 2
    rw [List.getD_eq_getElem?_getD, List.getD_eq_getElem?_getD, drop_get]
    congr 2
    omega

set_option maxRecDepth 100000 in
set_option maxHeartbeats 8000000 in
theorem iRestOf_good (cs ws rs : List Int) (lw lr s m : Nat) (oc : Option (List Int)) (ys : List Int) (ok : Bool) (yo ao bo : Option Addr) (ycap cap bcap : Nat) (w : World) (hx : Ints w ao lw ws) (hxn : ao = none → cap = 0) (hr : Ints w bo lr rs) (hy : Ints w yo lw cs) (hm : lw + lr ≤ 64)
    (h1 : vLin cs (s : Int) = true) (h2 : vS ws = true) (h3 : vR rs = true) (hoc : rsT cs s ws rs lr = oc) (HR2 : Hid (oc.getD [] = ys ∧ oc.isSome = ok ∧ (if ok then lw + lr else 0) = m)) :
    Calls Try.prog 41 #[.slice ao lw cap, .slice bo lr bcap, .iface 25 (.agg #[.slice yo lw ycap, .int .i64 (s : Int)])] w (MadeRB ys m ok w) := by
  have k1 := iValidSamples_any ws ao lw cap w true hx (by omega) h2
  have k2 := iVR_any rs bo lr bcap w true hr (by omega) h3
  have k3 := iValid_any cs (s : Int) yo lw ycap w true hy (by omega) h1
  obtain ⟨hv1, hv8, hca, hs0, hs14⟩ := vLin_in h1
  have e1 := fun w => m_valid (.slice yo lw ycap) (s : Int) w
  have e2 := fun w => m_order (.slice yo lw ycap) (s : Int) w
  have e3 := fun w => m_predict (.slice yo lw ycap) (s : Int) w
  have e4 := fun w => n_predict (.slice yo lw ycap) (s : Int) w
  have hmf : ∀ (fn : Fn) (first cap : Array Value) (w : World), (Instr.makeFunc fn first cap).run Try.prog w = .ok (.func fn first cap) w := fun _ _ _ _ => rfl
  have HWL := Lib.hid hx.1
  have HRL := Lib.hid hr.1
  have HCL := Lib.hid hy.1
  have HX := Lib.hid hx
  have HXN := Lib.hid hxn
  have HY := Lib.hid hy
  have HR := Lib.hid hr
  have HCS := Lib.hid hca
  have HWS := Lib.hid (vS_all h2)
  have HRS := Lib.hid (vR_all h3)
  have HOC := Lib.hid hoc
  have hw1 : 1 ≤ lw := by have := hy.1; omega
  have hw8 : lw ≤ 8 := by have := hy.1; omega
  have hs14n : s ≤ 14 := by omega
  have d6 : decide (64 < (lw : Int) + (lr : Int)) = false := by simp; omega
  have d7 : ((lw : Int) != (lw : Int)) = false := by simp
  clear hx hr hy hxn hca hoc h1 h2 h3 hv1 hv8 hs0 hs14
  go_enter Try.func41, Try.ntmps41
  go_wp2_with fail
  refine k1.mono ?_
  rintro e w' ⟨rfl, rfl⟩
  go_wp2_with fail
  refine k2.mono ?_
  rintro e w' ⟨rfl, rfl⟩
  clear k1 k2
  go_wp2_with fail
  refine k3.mono ?_
  rintro e w2 ⟨rfl, hg2⟩
  have HG2 := Lib.hid hg2
  clear k3 hg2
  go_wp2_with fail
  refine (iOrder_any yo lw ycap _ w2).mono ?_
  rintro e w3 ⟨rfl, hg3⟩
  have HG3 := Lib.hid (grown_trans HG2.out hg3)
  clear hg3
  go_wp2_with fail
  refine (copyOf_any ws ao lw cap _ (HX.out.grown HG3.out) HXN.out (by omega)).mono ?_
  rintro e w4 ⟨v4, rfl, ho4, hg4⟩
  have HQ : Hid (LO w v4 (lw + 0) ws w4) := ⟨ho4.base_le HG3.out.size, grown_trans HG3.out hg4⟩
  obtain ⟨a4, c4, rfl, _⟩ := ho4.reads
  clear ho4 hg4
  go_wp2
  go_loopw [8, 42] (fun sv iv wr => ∃ (k : Nat) (bv : Value), bv = sv ∧ k ≤ lr ∧ iv = .int .i64 (k : Int) ∧ Hid (∃ acc, rsT cs s ws rs k = some acc ∧ LO w bv (lw + k) acc wr)) (fun _ iv _ => lr - (intOf iv).toNat)
  case atStart => exact ⟨0, _, by simp, by omega, by simp, ws, rfl, HQ.out⟩
  case round =>
    obtain ⟨k, bv, rfl, hk, rfl, HE⟩ := hrel
    obtain ⟨acc, hac, hq⟩ := HE.out
    have hall := rsT_all HWS.out hac
    obtain ⟨la, hla⟩ : ∃ la, lw + k = la := ⟨_, rfl⟩
    rw [hla] at hq
    obtain ⟨g2, c2, rfl, hlc2⟩ : ∃ g2 c2, bv = .slice (some ⟨g2, 0, none⟩) la c2 ∧ la ≤ c2 := by
      rcases hq.own.2 with ⟨_, h0⟩ | ⟨g, cap, cur, hv, _, _, hnc, _⟩
      · omega
      · exact ⟨g, cap, hv, hnc⟩
    have hxa := hq.own.toInts
    have hal := hxa.1
    have HAC := Lib.hid hac
    have HQK := Lib.hid hq
    by_cases hlt : k < lr
    · obtain ⟨r, hrk⟩ : ∃ r, rs[k]? = some r := ⟨_, List.getElem?_eq_getElem (by have := HRL.out; omega)⟩
      obtain ⟨b, off, rfl, hc⟩ := HR.out.2.resolve_left (by intro e; subst e; simp at hrk)
      have q2 : wr.cell? ⟨b, off + k, none⟩ = some (.int .i64 r) := hq.g.cell (hc k r hrk) (by simp)
      have hrr := allB_mem HRS.out hrk
      obtain ⟨z, hz⟩ : ∃ z, prS cs (acc.drop k) lw lw / 2 ^ s = z := ⟨_, rfl⟩
      have hzr := pred_range HCS.out (by have := HCL.out; omega) hall s la
      have hpz : pred cs s acc acc.length = z := by unfold pred; rw [HCL.out, hal, ← drop_pred hla lw (Nat.le_refl _)]; exact hz
      rw [← hal, hpz] at hzr
      have hr0 := hrr.1
      have hr1 := hrr.2
      have hz0 := hzr.1
      have hz1 := hzr.2
      have hnext := rsT_next hac hrk hpz
      have HNEXT := Lib.hid hnext
      have HZ := Lib.hid hz
      have hall2 : allB (acc.drop k) (-65536) 65536 = true := by
        unfold allB at hall ⊢
        rw [List.all_eq_true] at hall ⊢
        exact fun y hy => hall y (List.mem_of_mem_drop hy)
      have HALL := Lib.hid hall2
      have hsub : Ints wr (some ⟨g2, k, none⟩) lw (acc.drop k) := by
        refine ⟨by rw [List.length_drop]; omega, Or.inr ⟨g2, k, rfl, fun y v hv => ?_⟩⟩
        rw [drop_get] at hv
        rcases hxa.2 with e | ⟨b', off', e, hcc⟩
        · subst e; simp at hv
        · injection e with e
          injection e with e1 e2
          subst e1
          subst e2
          have := hcc _ _ hv
          rwa [Nat.zero_add] at this
      have HSUB := Lib.hid hsub
      have hk0' : (0 : Int) ≤ (k : Int) := by omega
      have hk1' : (k : Int) < (lr : Int) := by omega
      have hk2' : (k : Int) ≤ (la : Int) := by omega
      have hk3' : (la : Int) ≤ (c2 : Int) := by omega
      have hck : ¬ c2 = k := by omega
      have hlak : la - k = lw := by omega
      have hk64 : la ≤ 64 := by omega
      obtain ⟨u, hu⟩ : ∃ u, r + z = u := ⟨_, rfl⟩
      have hu0 : -10000000000 ≤ u := by omega
      have hu1 : u ≤ 10000000000 := by omega
      have HU := Lib.hid hu
      have hwz : IntKind.i64.wrap u = u := IntWalk.i64_in _ (by omega)
      clear hc hrk hrr hzr hpz hnext hz hall hall2 hxa hac hq HE hal hsub
      go_wp2_with fail
      go_region_held3 (fun w' => w'.cell? ⟨b, off + k, none⟩ = some (.int .i64 r)) (first | go_keep | assumption) ((go_at_call 84; refine (iPredict_any cs (acc.drop k) lw lw s z yo _ ycap _ _ (HSUB.out.grown (grown_drew _ _)) ((HY.out.grown HQK.out.g).grown (grown_drew _ _)) (Nat.le_refl _) (by omega) hs14n HCS.out HALL.out HZ.out).mono ?_; rintro e w5 ⟨rfl, hg5⟩; have HG5 := Lib.hid (grown_trans (grown_drew wr none) hg5); have hS2 := hg5.cell q2 (by simp); clear hg5))
      clear hS2 q2 hwz hu hlak
      have HLA := Lib.hid hla
      clear hla
      by_cases hb : -65536 ≤ u ∧ u ≤ 65536
      · have hnx := HNEXT.out
        rw [HU.out, if_pos hb] at hnx
        have HNX := Lib.hid hnx
        have hin : inB u (-65536) 65536 = true := inB_true hb.1 hb.2
        clear hb hnx
        go_wp2_with fail
        refine (iAllIn_any [u] (-65536) 65536 (some ⟨w5.heap.size, 0, none⟩) 1 1 _ true (ints_one _ _ _) (by omega) (by rw [← hin]; simp [allB])).mono ?_
        rintro e w' ⟨rfl, rfl⟩
        go_wp2_with (at_builtin; refine append_ints rfl _ _ rfl w.heap.size (.slice (some ⟨g2, 0, none⟩) la c2) la acc rfl ((HQK.out.own.grown HG5.out).grown (grown_trans (grown_alloc _ _ _) (grown_alloc _ _ _))) (some ⟨w5.heap.size + 1, 0, none⟩) 1 1 [u] rfl ?_ (fun e => nomatch e) ?_ ?_ ?_)
        · have := ints_one (w5.alloc (.cells #[.int .i64 u] 3)) u 3
          simpa using this
        · omega
        · have h1 := HG5.out.size; have h2 := HQK.out.g.size; simp; omega
        intro v6 w6 hown6 hgrow6
        have HQ6 := Lib.hid (HQK.out.step (grown_trans HG5.out (grown_trans (grown_alloc _ _ _) (grown_alloc _ _ _))) hgrow6 hown6)
        have hla := HLA.out
        clear hown6 hgrow6 hin
        go_wp2
        go_roundw
        case rel => exact ⟨k + 1, v6, rfl, by omega, by go_num, _, HNX.out, by rw [show lw + (k + 1) = la + 1 by omega]; exact HQ6.out⟩
        case measure => simp [intOf]; omega
      · have hnx := HNEXT.out
        rw [HU.out, if_neg hb] at hnx
        have hin : inB u (-65536) 65536 = false := inB_false hb
        have hst := rsT_stop hnx lr (by omega)
        rw [HOC.out] at hst
        obtain ⟨e1', e2', e3'⟩ := HR2.out
        subst hst
        have e1' : ([] : List Int) = ys := e1'
        have e2' : false = ok := e2'
        subst e2'
        have e3' : (0 : Nat) = m := e3'
        subst e1'
        subst e3'
        have HGG := Lib.hid (grown_trans HQK.out.g HG5.out)
        clear hb hnx HNEXT
        go_wp2_with fail
        refine (iAllIn_any [u] (-65536) 65536 (some ⟨w5.heap.size, 0, none⟩) 1 1 _ false (ints_one _ _ _) (by omega) (by rw [← hin]; simp [allB])).mono ?_
        rintro e w' ⟨rfl, rfl⟩
        go_wp2
        go_ret2
        exact madeRB_none (grown_trans HGG.out (grown_alloc _ _ _))
    · obtain rfl : k = lr := by omega
      rw [HOC.out] at hac
      obtain ⟨e1', e2', e3'⟩ := HR2.out
      subst hac
      have e1' : acc = ys := e1'
      have e2' : true = ok := e2'
      subst e2'
      have e3' : lw + k = m := e3'
      rw [hla] at e3'
      subst e1'
      have HO := Lib.hid hq.own
      have HG := Lib.hid hq.g
      have HE3 := Lib.hid e3'
      clear hq hall hxa hal HAC HQK HE e3' hla
      go_wp2
      go_ret2
      refine ⟨.slice (some ⟨g2, 0, none⟩) la c2, rfl, ?_, HG.out⟩
      have e3 := HE3.out
      subst e3
      exact HO.out

end Go.Proofs.Ytgiiaijlahjfnaa
