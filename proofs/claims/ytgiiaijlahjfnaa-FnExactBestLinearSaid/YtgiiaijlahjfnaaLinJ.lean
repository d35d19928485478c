/-
  The residual of a linear predictor, the program's. For all arguments.
-/
import Derived.Test.YtgiiaijlahjfnaaLinS2
namespace Go.Proofs.Ytgiiaijlahjfnaa
open Go.RowKit

theorem m_valid (v : Value) (sh : Int) (w : World) : (method 200 25 (.agg #[v, .int .i64 sh]) "loop.example/losslessaudio/impl.valid").run Try.prog w = .ok (85, .agg #[v, .int .i64 sh]) w := by kernel_rfl
theorem m_order (v : Value) (sh : Int) (w : World) : (method 200 25 (.agg #[v, .int .i64 sh]) "loop.example/losslessaudio/impl.order").run Try.prog w = .ok (83, .agg #[v, .int .i64 sh]) w := by kernel_rfl
theorem m_predict (v : Value) (sh : Int) (w : World) : (method 200 25 (.agg #[v, .int .i64 sh]) "loop.example/losslessaudio/impl.predict").run Try.prog w = .ok (84, .agg #[v, .int .i64 sh]) w := by kernel_rfl
theorem n_predict (v : Value) (sh : Int) (w : World) : (nilAhead 200 25 (.agg #[v, .int .i64 sh]) "loop.example/losslessaudio/impl.predict").run Try.prog w = .ok (some false) w := by kernel_rfl

set_option maxHeartbeats 400000 in
theorem iOrder_any (yo : Option Addr) (n ycap : Nat) (sh : Int) (w : World) :
    Calls Try.prog 83 #[.agg #[.slice yo n ycap, .int .i64 sh]] w fun e w' => e = .returned (.int .i64 (n : Int)) ∧ w.grownBy w' none := by
  go_enter Try.func83, Try.ntmps83
  go_wp2
  go_ret
  exact ⟨rfl, grown_alloc _ _ _⟩

/-- A list that the call makes, whatever else there is. -/
structure LO (w : World) (bv : Value) (n : Nat) (ys : List Int) (wr : World) : Prop where
  own : Owns wr w.heap.size bv n ys
  g : w.grownBy wr none
theorem LO.step {w wr w1 w2 : World} {bv v2 : Value} {n : Nat} {ys zs : List Int} (h : LO w bv n ys wr) (h1 : wr.grownBy w1 none) (hg : w1.grownBy w2 bv.ownBlock) (ho : Owns w2 w.heap.size v2 (n + 1) zs) : LO w v2 (n + 1) zs w2 :=
  ⟨ho, grown_row (grown_trans h.g h1) hg (fun g e => h.own.block g e)⟩

set_option maxRecDepth 100000 in
set_option maxHeartbeats 4000000 in
theorem iResOf_good (cs xs : List Int) (n m s len : Nat) (v4 : Bool) (yo ao : Option Addr) (ycap cap : Nat) (w : World) (hx : Ints w ao len xs) (hlc : len ≤ cap) (hy : Ints w yo n cs) (h1 : vS xs = true) (h2 : vLin cs (s : Int) = true) (h3 : n ≤ len) (hml : len - n = m) (h4 : vR (resL cs s xs) = v4) (ys2 : List Int) (m2 : Nat) (HR2 : Hid ((if v4 then resL cs s xs else []) = ys2 ∧ (if v4 then m else 0) = m2)) :
    Calls Try.prog 36 #[.slice ao len cap, .iface 25 (.agg #[.slice yo n ycap, .int .i64 (s : Int)])] w (MadeRB ys2 m2 v4 w) := by
  have hxl := hx.1
  have hyl := hy.1
  have hlen := vS_len h1
  obtain ⟨hv1, hv8, hca, hs0, hs14⟩ := vLin_in h2
  have HX := Lib.hid hx
  have HY := Lib.hid hy
  have k1 := iValidSamples_any xs ao len cap w true hx (by omega) h1
  have k2 := iValid_any cs (s : Int) yo n ycap w true hy (by omega) h2
  have e1 := fun w => m_valid (.slice yo n ycap) (s : Int) w
  have e2 := fun w => m_order (.slice yo n ycap) (s : Int) w
  have e3 := fun w => m_predict (.slice yo n ycap) (s : Int) w
  have e4 := fun w => n_predict (.slice yo n ycap) (s : Int) w
  obtain ⟨i0, hi, hz0, hz1, hz2⟩ := info_parts info_int
  have hmf : ∀ (fn : Fn) (first cap : Array Value) (w : World), (Instr.makeFunc fn first cap).run Try.prog w = .ok (.func fn first cap) w := fun _ _ _ _ => rfl
  have HCS := Lib.hid hca
  have HXS := Lib.hid (vS_all h1)
  have HML := Lib.hid hml
  have HCL := Lib.hid hyl
  have HXL := Lib.hid hxl
  have HV4 := Lib.hid h4
  have hn8 : n ≤ 8 := by omega
  have hl64 : len ≤ 64 := by omega
  have hs14n : s ≤ 14 := by omega
  have d3 : decide (len < n) = false := by simp; omega
  have hnle : (n : Int) ≤ (len : Int) := by omega
  have hsz : (len : Int) - (n : Int) = (m : Int) := by omega
  clear hx hy h1 h2 hca hxl hyl hv1 hv8 hml h4 hlen hs0 hs14
  go_enter Try.func36, Try.ntmps36
  go_wp2_with fail
  refine k1.mono ?_
  rintro e w' ⟨rfl, rfl⟩
  go_wp2_with fail
  refine k2.mono ?_
  rintro e w2 ⟨rfl, hg2⟩
  have HG2 := Lib.hid hg2
  clear k1 k2 hg2
  go_wp2_with fail
  refine (iOrder_any yo n ycap _ w2).mono ?_
  rintro e w3 ⟨rfl, hg3⟩
  have HG3 := Lib.hid (grown_trans HG2.out hg3)
  clear hg3
  go_wp2_with fail
  refine (iOrder_any yo n ycap _ w3).mono ?_
  rintro e w4 ⟨rfl, hg4⟩
  have HG4 := Lib.hid (grown_trans HG3.out hg4)
  clear hg4
  go_wp2_with (at_make; refine wpList_make_own _ rfl _ _ 23 rfl w.heap.size 3 i0 (.int .i64 0) 1 Try.underlying23 hi hz0 hz1 .i64 .i64 _ m rfl rfl (by simp) ?b1 ?b2 ?b3 ?_)
  case b1 => rw [hz2]; omega
  case b2 => unfold maxLen; omega
  case b3 => exact HG4.out.size
  intro w5 hown5 hgrow5
  have HG5 := Lib.hid (grown_trans HG4.out hgrow5)
  have HO5 : Hid (Owns w5 w.heap.size (.slice (some ⟨w4.heap.size, 0, none⟩) 0 m) 0 (resN cs s xs 0)) := hown5
  clear hown5 hgrow5
  go_wp2_with fail
  refine (iOrder_any yo n ycap _ w5).mono ?_
  rintro e w6 ⟨rfl, hg6⟩
  have HQ : Hid (LO w (.slice (some ⟨w4.heap.size, 0, none⟩) 0 m) 0 (resN cs s xs 0) w6) := ⟨HO5.out.grown hg6, grown_trans HG5.out hg6⟩
  clear hg6 HO5 HG5
  go_wp2
  go_loopw [6, 7] (fun sv iv wr => ∃ (k : Nat) (bv : Value), bv = sv ∧ n + k ≤ len ∧ iv = .int .i64 ((n + k : Nat) : Int) ∧ Hid (LO w bv k (resN cs s xs k) wr)) (fun _ iv _ => len - (intOf iv).toNat)
  case atStart => exact ⟨0, _, by simp, by omega, by simp, HQ⟩
  case round =>
    obtain ⟨k, bv, rfl, hk, rfl, HR⟩ := hrel
    obtain ⟨i, hi⟩ : ∃ i, n + k = i := ⟨_, rfl⟩
    rw [hi]
    by_cases hlt : i < len
    · obtain ⟨x, hxk⟩ : ∃ x, xs[i]? = some x := ⟨_, List.getElem?_eq_getElem (by have := HX.out.1; omega)⟩
      obtain ⟨b, off, rfl, hc⟩ := HX.out.2.resolve_left (by intro e; subst e; simp at hxk)
      obtain ⟨a1, c1, rfl, _, _, _, _⟩ := HR.out.own.reads
      obtain ⟨z, hz⟩ : ∃ z, prS cs xs i n / 2 ^ s = z := ⟨_, rfl⟩
      have hzr := pred_range HCS.out (by have := HCL.out; omega) HXS.out s i
      have hxr := allB_mem HXS.out hxk
      have hpz : pred cs s xs i = z := by unfold pred; rw [HCL.out]; exact hz
      rw [hpz] at hzr
      have hx0 := hxr.1
      have hx1 := hxr.2
      have hz0' := hzr.1
      have hz1' := hzr.2
      obtain ⟨j, hj⟩ : ∃ j, i - n = j := ⟨_, rfl⟩
      have hbw : b < w.heap.size := block_lt_of_cell (hc i x hxk)
      have q2 : wr.cell? ⟨b, off + i, none⟩ = some (.int .i64 x) := HR.out.g.cell (hc i x hxk) (by simp)
      have hsub : Ints wr (some ⟨b, off + j, none⟩) n ((xs.drop j).take n) := by
        refine ⟨by simp; have := HXL.out; omega, Or.inr ⟨b, off + j, rfl, fun y v hv => ?_⟩⟩
        rw [List.getElem?_take] at hv
        split at hv
        · rw [drop_get] at hv
          rw [Nat.add_assoc]
          exact HR.out.g.cell (hc _ _ hv) (by simp)
        · cases hv
      have HSUB := Lib.hid hsub
      have hzz : prS cs ((xs.drop j).take n) n n / 2 ^ s = z := by
        rw [← hz]
        congr 1
        have : ∀ q, q ≤ n → prS cs ((xs.drop j).take n) n q = prS cs xs i q := by
          intro q
          induction q with
          | zero => intro _; rfl
          | succ q ih =>
            intro hq
            simp only [prS]
            rw [ih (by omega)]
            congr 2
            rw [List.getD_eq_getElem?_getD, List.getD_eq_getElem?_getD, List.getElem?_take, if_pos (by omega), drop_get]
            congr 2
            omega
        exact this n (Nat.le_refl _)
      have hall : allB ((xs.drop j).take n) (-65536) 65536 = true := by
        have := HXS.out
        unfold allB at this ⊢
        rw [List.all_eq_true] at this ⊢
        exact fun y hy => this y (List.mem_of_mem_drop (List.mem_of_mem_take hy))
      have HZZ := Lib.hid hzz
      have HALL := Lib.hid hall
      have hNEW : resN cs s xs k ++ [x - z] = resN cs s xs (k + 1) := by rw [resN_succ, HCL.out, hi, getD_of hxk, hpz]
      have HNEW := Lib.hid hNEW
      have HI := Lib.hid hi
      have hwz : IntKind.i64.wrap (x - z) = x - z := IntWalk.i64_in _ (by omega)
      have hwj : IntKind.i64.wrap ((i : Int) - (n : Int)) = (j : Int) := (IntWalk.i64_in _ (by omega)).trans (by omega)
      have hi0' : (0 : Int) ≤ (i : Int) := by omega
      have hi1' : (i : Int) < (len : Int) := by omega
      have hj0 : (0 : Int) ≤ (j : Int) := by omega
      have hj1 : (j : Int) ≤ (i : Int) := by omega
      have hi2' : (i : Int) ≤ (cap : Int) := by omega
      have hij : i - j = n := by omega
      have hcj : ¬ cap = j := by omega
      have hk64 : k ≤ 64 := by omega
      have hb1 : ∀ g, (Value.slice a1 k c1).ownBlock = some g → w.heap.size ≤ g := fun g e => HR.out.own.block g e
      have HB1 := Lib.hid hb1
      have HBW := Lib.hid hbw
      have HIJ := Lib.hid hij
      clear hc hxk hxr hzr hpz hNEW hz hi hk hb1 hbw hsub hzz hall hj
      go_wp2_with fail
      go_region_held3 (fun w' => w'.cell? ⟨b, off + i, none⟩ = some (.int .i64 x)) (first | go_keep | assumption) ((first
        | (go_at_call 83; refine (iOrder_any yo n ycap _ _).mono ?_; rintro e w7 ⟨rfl, hg7⟩; have HG7 := Lib.hid (grown_trans (grown_drew wr none) hg7); have hS2 := hg7.cell q2 (by simp); clear hg7)
        | (go_at_call 84; refine (iPredict_any cs ((xs.drop j).take n) n n s z yo _ ycap _ _ (HSUB.out.grown HG7.out) (HY.out.grown (grown_trans HR.out.g HG7.out)) (Nat.le_refl _) (by omega) hs14n HCS.out HALL.out HZZ.out).mono ?_; rintro e w8 ⟨rfl, hg8⟩; have HG8 := Lib.hid (grown_trans HG7.out hg8); have hS3 := hg8.cell hS2 (by simp); clear hg8)
        | (refine step_append_ints rfl _ _ rfl w.heap.size (.slice a1 k c1) k (resN cs s xs k) rfl ((HR.out.own.grown HG8.out).grown (grown_alloc _ _ _)) ⟨w8.heap.size, 0, none⟩ 1 1 [x - z] rfl (ints_one _ _ _) (by decide) (by omega) (by have h1 := HG8.out.size; have h2 := HR.out.g.size; simp; omega) ?_; intro g3 c3 w9 hown3 hgrow3 hat3 hlt3; have HQ3 := Lib.hid (HR.out.step (grown_trans HG8.out (grown_alloc _ _ _)) hgrow3 hown3); have hT2 : w9.cell? ⟨b, off + i, none⟩ = some (.int .i64 x) := hgrow3.cell ((grown_alloc w8 _ none).cell hS3 (by simp)) (fun e => by have h1 := HB1.out _ e.symm; have h2 := HBW.out; (try simp only at h1); omega); clear hown3 hgrow3 hat3 hlt3)))
      all_goals
        rw [HNEW.out] at HQ3
        have hi2 := HI.out
        clear hS2 hS3 hT2 q2 hwz hwj HR
        go_wp2
        go_roundw
        case rel => exact ⟨k + 1, _, rfl, by omega, by rw [← hi2]; go_num, HQ3⟩
        case measure => simp [intOf]; omega
    · obtain ⟨a1, c1, rfl, _, _, hx8, _⟩ := HR.out.own.reads
      have hkm : k = m := by have := HML.out; omega
      subst hkm
      have e : resN cs s xs k = resL cs s xs := by
        unfold resL
        congr 1
        have h1 := HXL.out; have h2 := HCL.out; have h3 := HML.out; omega
      have HO := HR.out
      rw [e] at HO hx8
      have HO := Lib.hid HO
      have k9 := iVR_any (resL cs s xs) a1 k c1 wr v4 hx8 (by omega) HV4.out
      clear HR hx8 e
      go_wp2_with fail
      refine k9.mono ?_
      rintro e w' ⟨rfl, rfl⟩
      clear k9
      cases v4 with
      | false =>
        obtain ⟨e1, e2⟩ := HR2.out
        have e1 : ([] : List Int) = ys2 := e1
        have e2 : (0 : Nat) = m2 := e2
        subst e1
        subst e2
        go_wp2
        go_ret2
        exact madeRB_none HO.out.g
      | true =>
        obtain ⟨e1, e2⟩ := HR2.out
        have e1 : resL cs s xs = ys2 := e1
        have e2 : k = m2 := e2
        subst e1
        subst e2
        go_wp2
        go_ret2
        exact ⟨.slice a1 k c1, rfl, HO.out.own, HO.out.g⟩

end Go.Proofs.Ytgiiaijlahjfnaa
