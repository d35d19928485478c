/-
  The walk of the law on the best mode: it returns true and writes nothing that was there. For every code.
-/
import Derived.Test.YtbjkclbgocpbkaaBs3
import Derived.Test.YtbjkclbgocpbkaaLawSt
import Derived.Deep.QuietTactic
import Derived.BigQuiet
namespace Go.Proofs.Ytbjkclbgocpbkaa
open Go.RowKit

theorem bst_min (xs ys : List Int) (M : Nat) : ∀ m, m ≤ M → cost xs ys (bst xs ys M) ≤ cost xs ys m ∧ (cost xs ys m = cost xs ys (bst xs ys M) → bst xs ys M ≤ m) := by
  induction M with
  | zero => intro m hm; obtain rfl : m = 0 := by omega
            exact ⟨Int.le_refl _, fun _ => Nat.le_refl _⟩
  | succ M ih =>
    intro m hm
    simp only [bst]
    have hb := bst_le xs ys M
    split
    · rename_i hlt
      by_cases h : m = M + 1
      · subst h; exact ⟨Int.le_refl _, fun _ => Nat.le_refl _⟩
      · have := (ih m (by omega)).1
        exact ⟨by omega, fun e => by omega⟩
    · rename_i hge
      by_cases h : m = M + 1
      · subst h; exact ⟨by omega, fun _ => by omega⟩
      · exact ih m (by omega)
theorem chg_zeros (n : Nat) : chg (List.replicate n 0) = 0 := by
  unfold chg
  generalize (List.replicate n (0 : Int)).length - 1 = k
  induction k with
  | zero => rfl
  | succ k ih =>
    simp only [chgS]
    rw [ih]
    have h : ∀ i, (List.replicate n (0 : Int)).getD i 0 = 0 := by
      intro i
      rw [List.getD_eq_getElem?_getD, List.getElem?_replicate]
      split <;> rfl
    rw [h, h]; rfl
theorem zip_const {f g : Int → Int → Int} {xs : List Int} (hf : ∀ a, f a a = a) (hg : ∀ a, g a a = 0) : List.zipWith f xs xs = xs ∧ List.zipWith g xs xs = List.replicate xs.length 0 := by
  induction xs with
  | nil => simp
  | cons x xs ih => exact ⟨by rw [List.zipWith_cons_cons, hf, ih.1], by rw [List.zipWith_cons_cons, hg, ih.2, List.length_cons, List.replicate_succ]⟩
theorem bst_self {xs : List Int} (hv : vP xs xs 32767 = true) : bst xs xs 3 ≤ 1 := by
  have h0 : cost xs xs 0 = chg xs + chg xs := by unfold cost; rw [(zip_const (f := stA 0) (g := fun _ _ => 0) (fun a => rfl) (fun _ => rfl)).1, (zip_const (f := stB 0) (g := fun _ _ => 0) (fun a => rfl) (fun _ => rfl)).1]
  have h1 : cost xs xs 1 = chg xs := by
    unfold cost
    obtain ⟨e1, e2⟩ := zip_const (f := stA 1) (g := stB 1) (xs := xs) (fun a => by simp [stA]) (fun a => by simp [stB])
    rw [e1, e2, chg_zeros]; omega
  have h2 : cost xs xs 2 = chg xs := by
    unfold cost
    obtain ⟨e1, e2⟩ := zip_const (f := stB 2) (g := stA 2) (xs := xs) (fun a => by simp [stB]) (fun a => by simp [stA])
    rw [e1, e2, chg_zeros]; omega
  have h3 : cost xs xs 3 = chg xs := by
    unfold cost
    obtain ⟨e1, e2⟩ := zip_const (f := stA 3) (g := stB 3) (xs := xs) (fun a => by simp [stA]; omega) (fun a => by simp [stB])
    rw [e1, e2, chg_zeros]; omega
  have hm := bst_min xs xs 3 1 (by omega)
  have hb := bst_le xs xs 3
  generalize bst xs xs 3 = b at *
  obtain rfl | rfl | rfl | rfl := mode_four hb
  · omega
  · omega
  · exact hm.2 (by rw [h1, h2])
  · exact hm.2 (by rw [h1, h3])

set_option maxRecDepth 100000 in
set_option maxHeartbeats 1000000 in
theorem drawBS_any (ao : Option Addr) (len cap : Nat) (w : World) (hb : BytesAt w ao len) (hlc : len ≤ cap) (hmax : len ≤ 9223372036854775807) :
    Calls Try.prog 29 #[.slice ao len cap] w (DrewT0 w) := by
  have hnew := newReader_any ao len cap w hb hlc hmax
  clear hb hlc hmax
  obtain ⟨r, hr⟩ : ∃ r, w.heap.size = r := ⟨_, rfl⟩
  go_enter Try.func29, Try.ntmps29
  go_wp2_with fail
  refine hnew.mono ?_
  rintro e w0 ⟨rfl, hR, hg0⟩
  rw [hr] at hR ⊢
  have HG0 := Lib.hid hg0
  have HRR := Lib.hid hr
  have hrl : r < w0.heap.size := hR.lt
  clear hnew hg0 hr
  go_wp2_with fail
  refine (anyChannels_any r 0 _ hR (by omega)).mono ?_
  rintro e w2 ⟨a1, l1, c1, xs, a2, l2, c2, ys, rfl, hl1, hl2, hn1, hn2, hx1, hx2, hb1, hb2, hR2, hg2⟩
  have HF : Hid (l1 ≤ 40 ∧ l2 ≤ 40 ∧ (a1 = none → c1 = 0) ∧ (a2 = none → c2 = 0) ∧ Ints w2 a1 l1 xs ∧ Ints w2 a2 l2 ys ∧ w.grownBy w2 none) := ⟨by omega, by omega, hn1, hn2, hx1, hx2, grown_new HG0.out hg2 (by rw [HRR.out]; exact Nat.le_refl _)⟩
  clear hR hl1 hl2 hn1 hn2 hx1 hx2 hb1 hb2 hR2 hg2
  go_wp2
  go_ret2
  exact ⟨a1, l1, c1, xs, a2, l2, c2, ys, rfl, HF.out⟩


/-- The costs so far. -/
def costL (xs ys : List Int) (k : Nat) : List Int := (List.range k).map (fun m => cost xs ys m)
theorem costL_succ (xs ys : List Int) (k : Nat) : costL xs ys (k + 1) = costL xs ys k ++ [cost xs ys k] := by
  unfold costL; rw [List.range_succ, List.map_append]; rfl
theorem costL_get (xs ys : List Int) {k m : Nat} (h : m < k) : (costL xs ys k)[m]? = some (cost xs ys m) := by
  unfold costL; rw [List.getElem?_map, List.getElem?_range h]; rfl

set_option maxRecDepth 100000 in
set_option maxHeartbeats 8000000 in
theorem FnBestStereo_walk (ao : Option Addr) (len cap : Nat) (w : World) (hb : BytesAt w ao len) (hlc : len ≤ cap) (hmax : len ≤ 9223372036854775807) :
    Calls Try.prog 8 #[.slice ao len cap] w (Holds w) := by
  by_cases hlen : 1048576 < len
  · clear hb
    go_enter Try.func8, Try.ntmps8
    go_wp2
    go_ret
    exact ⟨rfl, grown_refl _ _⟩
  have hd := drawBS_any ao len cap w hb hlc hmax
  have hm : decide (1048576 < (len : Int)) = false := by simp; omega
  clear hb hlc hmax hlen
  go_enter Try.func8, Try.ntmps8
  go_wp2_with fail
  refine hd.mono ?_
  rintro e w1 ⟨a1, l1, c1, xs, a2, l2, c2, ys, rfl, hl1, hl2, hn1, hn2, hx1, hx2, hg1⟩
  have HN1 := Lib.hid hn1
  have HN2 := Lib.hid hn2
  have HX := Lib.hid hx1
  have HY := Lib.hid hx2
  have HG := Lib.hid hg1
  clear hd hn1 hn2 hx1 hx2 hg1
  obtain ⟨z, hz⟩ : ∃ z, bsI xs ys = z := ⟨_, rfl⟩
  have KI : Hid (∀ (W : World), Ints W a1 l1 xs → Ints W a2 l2 ys → Calls Try.prog 30 #[.slice a1 l1 c1, .slice a2 l2 c2] W fun e w' => e = .returned (.int .i64 z) ∧ W.grownBy w' none) := fun W h1 h2 => by
    have := iBS_any xs ys a1 a2 l1 c1 l2 c2 W h1 h2 (by omega) (by omega)
    rw [hz] at this; exact this
  have KS : Hid (∀ (W : World), Ints W a1 l1 xs → Ints W a2 l2 ys → Calls Try.prog 31 #[.slice a1 l1 c1, .slice a2 l2 c2] W fun e w' => e = .returned (.int .i64 z) ∧ W.grownBy w' none) := fun W h1 h2 => by
    have := sBS_any xs ys a1 a2 l1 c1 l2 c2 W h1 h2 HN1.out HN2.out (by omega) (by omega)
    rw [hz] at this; exact this
  go_wp2_with fail
  refine (KI.out _ HX.out HY.out).mono ?_
  rintro e w2 ⟨rfl, hg2⟩
  have HX2 := Lib.hid (HX.out.grown hg2)
  have HY2 := Lib.hid (HY.out.grown hg2)
  have HG2 := Lib.hid (grown_trans HG.out hg2)
  clear hg2
  go_wp2_with fail
  refine (KS.out _ HX2.out HY2.out).mono ?_
  rintro e w3 ⟨rfl, hg3⟩
  have HX3 := Lib.hid (HX2.out.grown hg3)
  have HY3 := Lib.hid (HY2.out.grown hg3)
  have HG3 := Lib.hid (grown_trans HG2.out hg3)
  clear hg3 HX2 HY2 HG2 HX HY HG
  by_cases h0 : z < 0
  · have d0 : decide (z < 0) = true := by simpa using h0
    go_wp2_with fail
    refine (KS.out _ HX3.out HY3.out).mono ?_
    rintro e w4 ⟨rfl, hg4⟩
    have HG4 := Lib.hid (grown_trans HG3.out hg4)
    clear hg4
    go_wp2
    go_ret
    exact ⟨rfl, HG4.out⟩
  have d0 : decide (z < 0) = false := by simpa using h0
  have hv : vP xs ys 32767 = true := by
    cases h : vP xs ys 32767 with
    | true => rfl
    | false => exfalso; unfold bsI at hz; rw [h] at hz; simp at hz; omega
  obtain ⟨b, hb⟩ : ∃ b, bst xs ys 3 = b := ⟨_, rfl⟩
  have hzb : z = (b : Int) := by unfold bsI at hz; rw [if_pos hv, hb] at hz; exact hz.symm
  have hb3 : b ≤ 3 := by rw [← hb]; exact bst_le _ _ _
  subst hzb
  have HBm := Lib.hid (fun m (h : m ≤ 3) => bst_min xs ys 3 m h)
  rw [hb] at HBm
  have HV := Lib.hid hv
  have hll : l2 = l1 := by rw [← HX3.out.1, ← HY3.out.1]; exact (vP_of hv).1.symm
  subst hll
  clear hz hb hv h0 KI KS
  have HW : Hid (Owns (w3.alloc (.cells #[] 3)) w3.heap.size (.slice (some ⟨w3.heap.size, 0, none⟩) 0 0) 0 (costL xs ys 0) ∧ w3.grownBy (w3.alloc (.cells #[] 3)) none) := ⟨owns_empty w3, grown_alloc _ _ _⟩
  go_wp2
  go_loopw [6, 7] (fun cv mv wr => ∃ (m : Nat) (v : Value), v = cv ∧ m ≤ 4 ∧ mv = .int .i64 m ∧ Hid (Owns wr w3.heap.size v m (costL xs ys m) ∧ w3.grownBy wr none)) (fun _ mv _ => 5 - (intOf mv).toNat)
  case atStart => exact ⟨0, _, rfl, by omega, rfl, HW⟩
  case round =>
    clear HW
    obtain ⟨m, v, rfl, hm4, rfl, HR⟩ := hrel
    by_cases hlt : m < 4
    · have hdm : decide ((m : Int) ≤ 3) = true := by simp; omega
      have hE : eOk (m : Int) xs ys = true := by unfold eOk; rw [HV.out, show inB (m : Int) 0 3 = true from inB_true (by omega) (by omega)]; rfl
      have eA1 : eA (m : Int) xs ys = List.zipWith (stA m) xs ys := by unfold eA; rw [if_pos hE]; rfl
      have eB1 : eB (m : Int) xs ys = List.zipWith (stB m) xs ys := by unfold eB; rw [if_pos hE]; rfl
      have eN1 : eN (m : Int) xs ys = l2 := by unfold eN; rw [if_pos hE]; exact HX3.out.1
      have ra := st_range (m := m) HV.out
      obtain ⟨A, hA⟩ : ∃ A, List.zipWith (stA m) xs ys = A := ⟨_, rfl⟩
      obtain ⟨B, hB⟩ : ∃ B, List.zipWith (stB m) xs ys = B := ⟨_, rfl⟩
      have hcost : cost xs ys m = chg A + chg B := by unfold cost; rw [hA, hB]
      rw [hA] at eA1 ra
      rw [hB] at eB1 ra
      have KE := Lib.hid (iEnc_any (m : Int) xs ys a1 a2 l2 c1 l2 c2 wr (HX3.out.grown HR.out.2) (HY3.out.grown HR.out.2) (by omega) (by omega))
      rw [eA1, eB1, eN1, hE] at KE
      have HRA := Lib.hid ra
      have HCO := Lib.hid hcost
      clear hE eA1 eB1 eN1 ra hA hB hcost
      go_wp2_with fail
      refine KE.out.mono ?_
      rintro e w4 ⟨v4, u4, rfl, ht4⟩
      obtain ⟨p4, q4, rfl, _, _, hx4, _⟩ := ht4.o1.reads
      obtain ⟨s4, t4, rfl, _, _, hy4, _⟩ := ht4.o2.reads
      have HA := Lib.hid hx4
      have HB := Lib.hid hy4
      have HR4 : Hid (Owns w4 w3.heap.size v m (costL xs ys m) ∧ w3.grownBy w4 none) := ⟨HR.out.1.grown ht4.g, grown_trans HR.out.2 ht4.g⟩
      clear ht4 hx4 hy4 HR KE
      go_wp2
      go_loopw [11, 12] (fun nv iv wq => ∃ (k q : Nat) (s : Int), (k + 1 ≤ l2 ∨ k = 0) ∧ iv = .int .i64 ((k : Int) + 1) ∧ nv = .int .i64 s ∧ wq = w4.drewN q ∧ Hid (chgS A k + chgS B k = s)) (fun _ iv _ => l2 + 1 - (intOf iv).toNat)
      case atStart => exact ⟨0, 0, 0, Or.inr rfl, rfl, rfl, rfl, rfl⟩
      case round =>
        obtain ⟨k, q, s, hk, rfl, rfl, rfl, hs⟩ := hrel
        by_cases hkl : k + 1 < l2
        · obtain ⟨x, hx⟩ : ∃ x, A[k]? = some x := ⟨_, List.getElem?_eq_getElem (by rw [HA.out.1]; omega)⟩
          obtain ⟨y, hy⟩ : ∃ y, A[k + 1]? = some y := ⟨_, List.getElem?_eq_getElem (by rw [HA.out.1]; omega)⟩
          obtain ⟨x', hx'⟩ : ∃ x, B[k]? = some x := ⟨_, List.getElem?_eq_getElem (by rw [HB.out.1]; omega)⟩
          obtain ⟨y', hy'⟩ : ∃ y, B[k + 1]? = some y := ⟨_, List.getElem?_eq_getElem (by rw [HB.out.1]; omega)⟩
          obtain ⟨ba, fa, rfl, hca⟩ := HA.out.2.resolve_left (by intro e; rw [e] at hx; simp at hx)
          obtain ⟨bb, fb, rfl, hcb⟩ := HB.out.2.resolve_left (by intro e; rw [e] at hx'; simp at hx')
          have g1 := hca k x hx
          have g2 := hca (k + 1) y hy
          have g3 := hcb k x' hx'
          have g4 := hcb (k + 1) y' hy'
          have r1 := allB_mem HRA.out.1 hx
          have r2 := allB_mem HRA.out.1 hy
          have r3 := allB_mem HRA.out.2 hx'
          have r4 := allB_mem HRA.out.2 hy'
          have rs1 := chgS_range HRA.out.1 k
          have rs2 := chgS_range HRA.out.2 k
          have s0 : 0 ≤ s := by have := hs.out; omega
          have s1 : s ≤ 20000000 := by have := hs.out; omega
          have HS2 : Hid (chgS A (k + 1) + chgS B (k + 1) = s + absV (y - x) + absV (y' - x')) := by
            show _ = _; simp only [chgS]; rw [getD_of' hx, getD_of' hy, getD_of' hx', getD_of' hy']; have := hs.out; omega
          have i1 : ((k : Int) + 1).toNat = k + 1 := by omega
          have i2 : (k : Int) + 1 < (l2 : Int) := by omega
          have i3 : (k : Int) < (l2 : Int) := by omega
          have i4 : 0 ≤ (k : Int) + 1 := by omega
          have j1 : decide ((k : Int) + 1 < (l2 : Int)) = true := by simpa using i2
          have hw0 : IntKind.i64.wrap ((k : Int) + 1 - 1) = (k : Int) := by rw [show (k : Int) + 1 - 1 = k by omega]; exact IntWalk.i64_in _ (by omega)
          have hw1 : IntKind.i64.wrap (k : Int) = (k : Int) := IntWalk.i64_in _ (by omega)
          have ww1 : IntKind.i64.wrap (y - x) = y - x := IntWalk.i64_in _ (by omega)
          have ww2 : IntKind.i64.wrap (x - y) = x - y := IntWalk.i64_in _ (by omega)
          have ww3 : IntKind.i64.wrap (y' - x') = y' - x' := IntWalk.i64_in _ (by omega)
          have ww4 : IntKind.i64.wrap (x' - y') = x' - y' := IntWalk.i64_in _ (by omega)
          have hk62 : k ≤ 62 := by omega
          clear hca hcb hx hy hx' hy' rs1 rs2
          have m1 : (if y - x < x - y then x - y else y - x) = absV (y - x) := by unfold absV; split <;> split <;> omega
          have m2 : (if y' - x' < x' - y' then x' - y' else y' - x') = absV (y' - x') := by unfold absV; split <;> split <;> omega
          have b1 := absV_range (x := y - x) (B := 140000) (by omega) (by omega)
          have b2 := absV_range (x := y' - x') (B := 140000) (by omega) (by omega)
          have HM := Lib.hid (And.intro m1 (And.intro m2 (And.intro b1 b2)))
          clear r1 r2 r3 r4 hs hk m1 m2 b1 b2
          go_wp2
          go_quiet (fail)
          clear ww1 ww2 ww3 ww4 hw0
          go_wp2
          go_roundw
          case rel =>
            refine ⟨k + 1, q + nq, s + absV (y - x) + absV (y' - x'), Or.inl (by omega), by go_num, ?_, rfl, HS2⟩
            obtain ⟨m1, m2, b1, b2⟩ := HM.out
            rw [m1, m2, IntWalk.wrap64_in (s + absV (y - x)) (by omega), IntWalk.wrap64_in _ (by omega)]
          case measure => simp [intOf]; omega
        · have hkn : k = l2 - 1 := by omega
          have HS : Hid (cost xs ys m = s) := by show _ = _; rw [HCO.out]; unfold chg; rw [HA.out.1, HB.out.1, ← hkn]; exact hs.out
          have j1 : decide ((k : Int) + 1 < (l2 : Int)) = false := by simp; omega
          have HR5 : Hid (Owns (w4.drewN q) w3.heap.size v m (costL xs ys m) ∧ w3.grownBy (w4.drewN q) none) := ⟨HR4.out.1.grown (grown_drewN _ _ _), grown_trans HR4.out.2 (grown_drewN _ _ _)⟩
          have hsz := HR5.out.2.size
          clear hkn hs hk HR4 HA HB
          go_wp2_with (at_builtin; refine append_ints rfl _ _ rfl w3.heap.size v m _ rfl (HR5.out.1.grown (grown_alloc _ _ _)) (some ⟨(w4.drewN q).heap.size, 0, none⟩) 1 1 [s] rfl (ints_one _ _ _) (fun e => nomatch e) ?a1 ?a2 ?_)
          case a1 => omega
          case a2 => simp at hsz ⊢; omega
          intro v2 w5 hown hgrow
          have HN : Hid (Owns w5 w3.heap.size v2 (m + 1) (costL xs ys (m + 1)) ∧ w3.grownBy w5 none) := by
            refine ⟨?_, grown_row (grown_trans HR5.out.2 (grown_alloc _ _ _)) hgrow (fun g e => Owns.block HR5.out.1 g e)⟩
            rw [costL_succ, HS.out]; exact hown
          clear hown hgrow HR5
          go_wp2
          go_roundw
          case rel => exact ⟨m + 1, v2, rfl, by omega, by go_num, HN⟩
          case measure => simp [intOf]; omega
    · obtain rfl : m = 4 := by omega
      obtain ⟨p, q, rfl, _, _, hx, _⟩ := HR.out.1.reads
      obtain ⟨bc, fc, rfl, hcc⟩ := hx.2.resolve_left (by intro e; have := hx.1; rw [e] at this; simp at this)
      have HC : Hid (∀ i, i < 4 → ∃ c : Int, wr.cell? ⟨bc, fc + i, none⟩ = some (.int .i64 c) ∧ c = cost xs ys i) := fun i hi => ⟨_, hcc i _ (costL_get xs ys hi), rfl⟩
      obtain ⟨cb, hcb, hcb2⟩ := HC.out b (by omega)
      have HGr := Lib.hid HR.out.2
      have HCB := Lib.hid hcb2
      have hdm : decide ((4 : Int) ≤ 3) = false := by decide
      have KB : Hid (∀ (W : World), w3.grownBy W none → Calls Try.prog 30 #[.slice a1 l2 c1, .slice a1 l2 c1] W fun e w' => (∃ z : Int, e = .returned (.int .i64 z) ∧ z ≤ 1) ∧ W.grownBy w' none) := fun W hW => by
        have := iBS_any xs xs a1 a1 l2 c1 l2 c1 W (HX3.out.grown hW) (HX3.out.grown hW) (by omega) (by omega)
        refine this.mono ?_
        rintro e w' ⟨rfl, hg⟩
        refine ⟨⟨_, rfl, ?_⟩, hg⟩
        have hvx : vP xs xs 32767 = true := by obtain ⟨h1, h2, h3, h4⟩ := vP_of HV.out; exact vP_intro rfl h2 h3 h3
        unfold bsI; rw [if_pos hvx]; have := bst_self hvx; omega
      clear hx hcc HR hcb2
      go_wp2
      go_loopw [13] (fun iv wq => ∃ k q : Nat, k ≤ 4 ∧ iv = .int .i64 k ∧ wq = wr.drewN q) (fun iv _ => 4 - (intOf iv).toNat)
      case atStart => exact ⟨0, 0, by omega, rfl, rfl⟩
      case round =>
        obtain ⟨k, q, hk, rfl, rfl⟩ := hrel
        by_cases hkl : k < 4
        · obtain ⟨ck, hck, hck2⟩ := HC.out k hkl
          have hmin := HBm.out k (by omega)
          rw [← hck2, ← HCB.out] at hmin
          have j0 : decide ((4 : Int) ≤ (b : Int)) = false := by simp; omega
          have j1 : decide (ck < cb) = false := by simp; exact hmin.1
          have i1 : (b : Int) < 4 := by omega
          have i2 : (k : Int) < 4 := by omega
          by_cases he : ck = cb
          · have j3 : decide ((k : Int) < (b : Int)) = false := by have := hmin.2 he; simp; omega
            have j4 : (ck == cb) = true := by simpa using he
            have j5 : (b : Int) ≤ (k : Int) := by have := hmin.2 he; omega
            clear he
            clear hmin hck2
            go_wp2_with fail
            go_quiet (fail)
            go_wp2
            go_roundw
            case rel => exact ⟨k + 1, q + nq, by omega, by go_num, rfl⟩
            case measure => simp [intOf]; omega
          · have j2 : (ck == cb) = false := by simpa using he
            clear hmin hck2
            go_wp2_with fail
            go_quiet (fail)
            go_wp2
            go_roundw
            case rel => exact ⟨k + 1, q + nq, by omega, by go_num, rfl⟩
            case measure => simp [intOf]; omega
        · obtain rfl : k = 4 := by omega
          have hgq : Hid (w3.grownBy (wr.drewN q) none) := grown_trans HGr.out (grown_drewN _ _ _)
          go_wp2_with fail
          refine (KB.out _ hgq.out).mono ?_
          rintro e w6 ⟨⟨z6, rfl, hz6⟩, hg6⟩
          have HG6 := Lib.hid (grown_trans HG3.out (grown_trans hgq.out hg6))
          have hd6 : decide (z6 ≤ 1) = true := by simpa using hz6
          clear hg6 KB
          go_wp2
          go_ret
          exact ⟨rfl, HG6.out⟩

end Go.Proofs.Ytbjkclbgocpbkaa
