/-
  Linear predictors of the specification: predictions, residuals. For valid coefficients and samples.
-/
import Derived.Test.YtgiiaijlahjfnaaLinI
import Derived.Test.YtgiiaijlahjfnaaStA
namespace Go.Proofs.Ytgiiaijlahjfnaa
open Go.RowKit

set_option maxRecDepth 100000 in
set_option maxHeartbeats 1000000 in
theorem sPredict_any (cs xs : List Int) (n i s len : Nat) (z : Int) (yo ao : Option Addr) (ycap cap : Nat) (w : World) (hx : Ints w ao len xs) (hy : Ints w yo n cs) (hi0 : n ≤ i) (hi1 : i ≤ len) (hm : len ≤ 64) (hn8 : n ≤ 8) (hs : s ≤ 14)
    (hcs : allB cs (-4095) 4095 = true) (hxs : allB xs (-65536) 65536 = true) (hz : prS cs xs i n / 2 ^ s = z) :
    Calls Try.prog 59 #[.slice ao len cap, .int .i64 (i : Int), .agg #[.slice yo n ycap, .int .i64 (s : Int)]] w fun e w' => e = .returned (.int .i64 z) ∧ w.grownBy w' none := by
  subst hz
  have HX := Lib.hid hx
  have HY := Lib.hid hy
  have HCS := Lib.hid hcs
  have HXS := Lib.hid hxs
  have HA := Lib.hid (heap_alloc_new w (.cells #[.slice yo n ycap, .int .i64 (s : Int)] 25))
  have HG := Lib.hid (grown_alloc w (.cells #[.slice yo n ycap, .int .i64 (s : Int)] 25) none)
  have hsn : (s : Int).toNat = s := by simp
  have hs0 : (0 : Int) ≤ (s : Int) := by omega
  have hp := pow30 s (by omega)
  have hp0 := hp.1
  have hp1 := hp.2
  clear hx hy hcs hxs hp
  go_enter Try.func59, Try.ntmps59
  go_wp2
  generalize w.alloc (.cells #[.slice yo n ycap, .int .i64 (s : Int)] 25) = wb at *
  go_loopw [7, 8] (fun sv iv wr => ∃ (k : Nat) (t : Int), k ≤ n ∧ iv = .int .i64 k ∧ sv = .int .i64 t ∧ Hid (prS cs xs i k = t) ∧ Hid (∃ m, wr = wb.drewN m)) (fun _ iv _ => n - (intOf iv).toNat)
  case atStart => exact ⟨0, 0, Nat.zero_le _, rfl, rfl, rfl, 0, rfl⟩
  case round =>
    obtain ⟨k, t, hk, rfl, rfl, HT, HD⟩ := hrel
    have hgd : wb.grownBy wr none := by obtain ⟨m, e⟩ := HD.out; rw [e]; exact grown_drewN _ _ _
    have hB := grown_heap hgd HA.out (by simp)
    have q0 : wr.cell? ⟨w.heap.size, 0, none⟩ = some (.slice yo n ycap) := by rw [cell_of_row wr _ 0 _ _ _ hB]; rfl
    have q1 : wr.cell? ⟨w.heap.size, 1, none⟩ = some (.int .i64 (s : Int)) := by rw [cell_of_row wr _ 1 _ _ _ hB]; rfl
    have hsr := prS_range HCS.out HXS.out i k
    rw [HT.out] at hsr
    have hk8 : k ≤ 8 := by omega
    have hs0' : -300000000000 ≤ t := by omega
    have hs1' : t ≤ 300000000000 := by omega
    have HGD := Lib.hid hgd
    by_cases hlt : k < n
    · obtain ⟨c, hck⟩ : ∃ c, cs[k]? = some c := ⟨_, List.getElem?_eq_getElem (by have := HY.out.1; omega)⟩
      obtain ⟨j, hj⟩ : ∃ j, i - 1 - k = j := ⟨_, rfl⟩
      obtain ⟨x, hxk⟩ : ∃ x, xs[j]? = some x := ⟨_, List.getElem?_eq_getElem (by have := HX.out.1; omega)⟩
      obtain ⟨b, off, rfl, hc⟩ := HX.out.2.resolve_left (by intro e; subst e; simp at hxk)
      obtain ⟨b', off', rfl, hc'⟩ := HY.out.2.resolve_left (by intro e; subst e; simp at hck)
      have hcx := (grown_trans HG.out hgd).cell (hc j x hxk) (by simp)
      have hcy := (grown_trans HG.out hgd).cell (hc' k c hck) (by simp)
      have hcr := allB_mem HCS.out hck
      have hxr := allB_mem HXS.out hxk
      have hpr := prod_range4 hcr.1 hcr.2 hxr.1 hxr.2
      have hp0' := hpr.1
      have hp1' := hpr.2
      have HS : Hid (prS cs xs i (k + 1) = t + c * x) := by show _ = _; simp only [prS]; rw [HT.out, getD_of hck, hj, getD_of hxk]
      have hji : (i : Int) - 1 - (k : Int) = (j : Int) := by omega
      have hjl : j < len := by omega
      have hw1 : IntKind.i64.wrap ((i : Int) - 1) = (i : Int) - 1 := IntWalk.i64_in _ (by omega)
      have hw2 : IntKind.i64.wrap ((i : Int) - 1 - (k : Int)) = (j : Int) := (IntWalk.i64_in _ (by omega)).trans hji
      have hw3 : IntKind.i64.wrap (c * x) = c * x := IntWalk.i64_in _ (by omega)
      have hw4 : IntKind.i64.wrap (t + c * x) = t + c * x := IntWalk.i64_in _ (by omega)
      clear hc hc' hck hxk hcr hxr hpr hsr hB hgd hj q1
      go_wp2_with fail
      go_quiet (fail)
      have HD2 : Hid (∃ m, wr.drewN nq = wb.drewN m) := by obtain ⟨m, e⟩ := HD.out; exact ⟨m + nq, by rw [e, World.drewN_drewN]⟩
      clear hw1 hw2 hw3 hw4 hji
      generalize c * x = p at *
      go_wp2
      go_roundw
      case rel => exact ⟨k + 1, t + p, by omega, by go_num, rfl, HS, HD2⟩
      case measure => simp [intOf]; omega
    · obtain rfl : k = n := by omega
      have hf := sFloor_any t (2 ^ s) wr (by omega) (by omega) (by omega)
      have HF := Lib.hid (grown_trans HG.out hgd)
      have hw : IntKind.i64.wrap (2 ^ s) = 2 ^ s := IntWalk.i64_in _ (by omega)
      clear hsr hB hgd
      go_wp2_with fail
      refine hf.mono ?_
      rintro e w' ⟨rfl, rfl⟩
      clear hf
      go_wp2
      go_ret
      exact ⟨ret_int (by rw [HT.out]), HF.out⟩

/-- A box of the call, and a list that it makes behind it. -/
structure LQ (w : World) (o : Obj) (bv : Value) (n : Nat) (ys : List Int) (wr : World) : Prop where
  now : wr.heap[w.heap.size]? = some o
  own : Owns wr (w.heap.size + 1) bv n ys
  g : w.grownBy wr none
theorem LQ.step {w wr w1 w2 : World} {o : Obj} {bv v2 : Value} {n : Nat} {ys zs : List Int} (h : LQ w o bv n ys wr) (h1 : wr.grownBy w1 none) (hg : w1.grownBy w2 bv.ownBlock) (ho : Owns w2 (w.heap.size + 1) v2 (n + 1) zs) : LQ w o v2 (n + 1) zs w2 := by
  have hb : ∀ g, bv.ownBlock = some g → w.heap.size + 1 ≤ g := fun g e => h.own.block g e
  exact ⟨grown_heap hg (grown_heap h1 h.now (by simp)) (fun e => by have := hb _ e; omega), ho, grown_row (grown_trans h.g h1) hg (fun g e => by have := hb g e; omega)⟩

set_option maxRecDepth 100000 in
set_option maxHeartbeats 4000000 in
theorem sLinRes_any (cs xs : List Int) (n m s len : Nat) (yo ao : Option Addr) (ycap cap : Nat) (w : World) (hx : Ints w ao len xs) (hy : Ints w yo n cs) (hnl : n ≤ len) (hm : len ≤ 64) (hn8 : n ≤ 8) (hs : s ≤ 14)
    (hcs : allB cs (-4095) 4095 = true) (hxs : allB xs (-65536) 65536 = true) (hml : len - n = m) :
    Calls Try.prog 39 #[.slice ao len cap, .agg #[.slice yo n ycap, .int .i64 (s : Int)]] w (Made (resL cs s xs) m w) := by
  have HX := Lib.hid hx
  have HY := Lib.hid hy
  have HCS := Lib.hid hcs
  have HXS := Lib.hid hxs
  have HML := Lib.hid hml
  have HCL := Lib.hid hy.1
  clear hx hy hcs hxs hml
  go_enter Try.func39, Try.ntmps39
  go_wp2
  have HQ : Hid (LQ w (.cells #[.slice yo n ycap, .int .i64 (s : Int)] 25 (0, 0)) (.slice (some ⟨w.heap.size + 1, 0, none⟩) 0 0) 0 (resN cs s xs 0) ((w.alloc (.cells #[.slice yo n ycap, .int .i64 (s : Int)] 25)).alloc (.cells #[] 3))) := by
    refine ⟨heap_alloc2_old w _ _, ?_, grown_trans (grown_alloc _ _ _) (grown_alloc _ _ _)⟩
    have := owns_empty (w.alloc (.cells #[.slice yo n ycap, .int .i64 (s : Int)] 25))
    rw [show resN cs s xs 0 = [] from rfl]
    simpa using this
  go_loopw [5, 6] (fun sv iv wr => ∃ (k : Nat) (bv : Value), bv = sv ∧ n + k ≤ len ∧ iv = .int .i64 ((n + k : Nat) : Int) ∧ Hid (LQ w (.cells #[.slice yo n ycap, .int .i64 (s : Int)] 25 (0, 0)) bv k (resN cs s xs k) wr)) (fun _ iv _ => len - (intOf iv).toNat)
  case atStart => exact ⟨0, _, by simp, by omega, by simp, HQ⟩
  case round =>
    obtain ⟨k, bv, rfl, hk, rfl, HR⟩ := hrel
    obtain ⟨i, hi⟩ : ∃ i, n + k = i := ⟨_, rfl⟩
    rw [hi]
    by_cases hlt : i < len
    · obtain ⟨x, hxk⟩ : ∃ x, xs[i]? = some x := ⟨_, List.getElem?_eq_getElem (by have := HX.out.1; omega)⟩
      obtain ⟨b, off, rfl, hc⟩ := HX.out.2.resolve_left (by intro e; subst e; simp at hxk)
      obtain ⟨a1, c1, rfl, _, _, _, _⟩ := HR.out.own.reads
      obtain ⟨z, hz⟩ : ∃ z, prS cs xs i n / 2 ^ s = z := ⟨_, rfl⟩
      have hzr := pred_range HCS.out (by have := HCL.out; omega) HXS.out s i
      have hxr := allB_mem HXS.out hxk
      have hpz : pred cs s xs i = z := by unfold pred; rw [HCL.out]; exact hz
      rw [hpz] at hzr
      have hx0 := hxr.1
      have hx1 := hxr.2
      have hz0 := hzr.1
      have hz1 := hzr.2
      have q0 : wr.cell? ⟨w.heap.size, 0, none⟩ = some (.slice yo n ycap) := by rw [cell_of_row wr _ 0 _ _ _ HR.out.now]; rfl
      have q1 : wr.cell? ⟨w.heap.size, 1, none⟩ = some (.int .i64 (s : Int)) := by rw [cell_of_row wr _ 1 _ _ _ HR.out.now]; rfl
      have hbw : b < w.heap.size := block_lt_of_cell (hc i x hxk)
      have q2 : wr.cell? ⟨b, off + i, none⟩ = some (.int .i64 x) := HR.out.g.cell (hc i x hxk) (by simp)
      have hNEW : resN cs s xs k ++ [x - z] = resN cs s xs (k + 1) := by rw [resN_succ, HCL.out, hi, getD_of hxk, hpz]
      have HNEW := Lib.hid hNEW
      have HZ := Lib.hid hz
      have HI := Lib.hid hi
      have hwz : IntKind.i64.wrap (x - z) = x - z := IntWalk.i64_in _ (by omega)
      have hi0' : (0 : Int) ≤ (i : Int) := by omega
      have hi1' : (i : Int) < (len : Int) := by omega
      have hk64 : k ≤ 64 := by omega
      have hni : n ≤ i := by omega
      have hb1 : ∀ g, (Value.slice a1 k c1).ownBlock = some g → w.heap.size + 1 ≤ g := fun g e => HR.out.own.block g e
      have HB1 := Lib.hid hb1
      have hws : w.heap.size < wr.heap.size := block_lt HR.out.now
      have HWS := Lib.hid hws
      have HBW := Lib.hid hbw
      clear hc hxk hxr hzr hpz hNEW hz hi hk hb1 hws hbw
      go_wp2_with fail
      go_region_held3 (fun w' => w'.cell? ⟨w.heap.size, 0, none⟩ = some (.slice yo n ycap) ∧ w'.cell? ⟨w.heap.size, 1, none⟩ = some (.int .i64 (s : Int)) ∧ w'.cell? ⟨b, off + i, none⟩ = some (.int .i64 x)) (first | go_keep | exact ⟨by assumption, by assumption, by assumption⟩) ((first
        | (go_at_call 59; refine (sPredict_any cs xs n i s len z yo _ ycap cap _ ((HX.out.grown HR.out.g).grown (grown_drew _ _)) ((HY.out.grown HR.out.g).grown (grown_drew _ _)) hni (by omega) hm hn8 hs HCS.out HXS.out HZ.out).mono ?_; rintro e w2 ⟨rfl, hg2⟩; have HG2 := Lib.hid (grown_trans (grown_drew wr none) hg2); have hS0 := hg2.cell q0 (by simp); have hS1 := hg2.cell q1 (by simp); have hS2 := hg2.cell q2 (by simp); clear hg2)
        | (refine step_append_ints rfl _ _ rfl (w.heap.size + 1) (.slice a1 k c1) k (resN cs s xs k) rfl ((HR.out.own.grown HG2.out).grown (grown_alloc _ _ _)) ⟨w2.heap.size, 0, none⟩ 1 1 [x - z] rfl (ints_one _ _ _) (by decide) (by omega) (by have h1 := HG2.out.size; have h2 := HWS.out; simp; omega) ?_; intro g3 c3 w3 hown3 hgrow3 hat3 hlt3; have HQ3 := Lib.hid (HR.out.step (grown_trans HG2.out (grown_alloc _ _ _)) hgrow3 hown3); have hT0 : w3.cell? ⟨w.heap.size, 0, none⟩ = some (.slice yo n ycap) := (by rw [cell_of_row w3 _ 0 _ _ _ HQ3.out.now]; rfl); have hT1 : w3.cell? ⟨w.heap.size, 1, none⟩ = some (.int .i64 (s : Int)) := (by rw [cell_of_row w3 _ 1 _ _ _ HQ3.out.now]; rfl); have hT2 : w3.cell? ⟨b, off + i, none⟩ = some (.int .i64 x) := hgrow3.cell ((grown_alloc w2 _ none).cell hS2 (by simp)) (fun e => by have h1 := HB1.out _ e.symm; have h2 := HBW.out; (try simp only at h1); omega); clear hown3 hgrow3 hat3 hlt3)))
      all_goals
        rw [HNEW.out] at HQ3
        have hi2 := HI.out
        clear hS0 hS1 hS2 hT0 hT1 hT2 q0 q1 q2 hwz HR
        go_wp2
        go_roundw
        case rel => exact ⟨k + 1, _, rfl, by omega, by rw [← hi2]; go_num, HQ3⟩
        case measure => simp [intOf]; omega
    · obtain ⟨a1, c1, rfl, _, _, _, _⟩ := HR.out.own.reads
      have hkm : k = m := by have := HML.out; omega
      subst hkm
      have HF : Hid (Owns wr w.heap.size (.slice a1 k c1) k (resL cs s xs) ∧ w.grownBy wr none) := by
        have h := HR.out.own.base_le (base' := w.heap.size) (by omega)
        have e : xs.length - cs.length = k := by have h1 := HX.out.1; have h2 := HCL.out; have h3 := HML.out; omega
        refine ⟨?_, HR.out.g⟩
        unfold resL
        rw [e]
        exact h
      clear HR
      go_wp2
      go_ret
      exact ⟨_, rfl, HF.out⟩

end Go.Proofs.Ytgiiaijlahjfnaa
