/-
  The mode whose lists change least, by both texts. For all arguments.
-/
import Derived.Test.YtbjkclbgocpbkaaBs
namespace Go.Proofs.Ytbjkclbgocpbkaa
open Go.RowKit

def cost (xs ys : List Int) (m : Nat) : Int := chg (List.zipWith (stA m) xs ys) + chg (List.zipWith (stB m) xs ys)
/-- The first mode up to m with the lowest cost. -/
def bst (xs ys : List Int) : Nat → Nat
  | 0 => 0
  | m + 1 => if cost xs ys (m + 1) < cost xs ys (bst xs ys m) then m + 1 else bst xs ys m
theorem bst_le (xs ys : List Int) (m : Nat) : bst xs ys m ≤ m := by
  induction m with
  | zero => simp [bst]
  | succ m ih => simp only [bst]; split <;> omega
def bsI (xs ys : List Int) : Int := if vP xs ys 32767 then (bst xs ys 3 : Int) else -1
theorem st_range {m : Nat} {xs ys : List Int} (h : vP xs ys 32767 = true) : allB (List.zipWith (stA m) xs ys) (-70000) 70000 = true ∧ allB (List.zipWith (stB m) xs ys) (-70000) 70000 = true := by
  obtain ⟨h1, h2, h3, h4⟩ := vP_of h
  exact ⟨allB_mono (zip_range h3 h4 (fun a b ha hb => stA_range ha hb)) (by omega) (by omega), allB_mono (zip_range h3 h4 (fun a b ha hb => stB_range ha hb)) (by omega) (by omega)⟩
theorem chg_range {xs : List Int} (h : allB xs (-70000) 70000 = true) (hl : xs.length ≤ 64) : 0 ≤ chg xs ∧ chg xs ≤ 8960000 := by
  have := chgS_range h (xs.length - 1)
  unfold chg; omega
theorem cost_range {m : Nat} {xs ys : List Int} (h : vP xs ys 32767 = true) : 0 ≤ cost xs ys m ∧ cost xs ys m ≤ 17920000 := by
  obtain ⟨h1, h2, h3, h4⟩ := vP_of h
  have a := st_range (m := m) h
  have b1 := chg_range a.1 (by simp; omega)
  have b2 := chg_range a.2 (by simp; omega)
  unfold cost; omega

set_option maxRecDepth 100000 in
set_option maxHeartbeats 2000000 in
theorem sDif_any (xs : List Int) (n : Nat) (ao : Option Addr) (cap : Nat) (w : World) (hx : Ints w ao n xs) (hn : n ≤ 64) (ha : allB xs (-70000) 70000 = true) :
    Calls Try.prog 75 #[.slice ao n cap] w (Made (difL xs (n - 1)) (n - 1) w) := by
  have HX := Lib.hid hx
  have HA := Lib.hid ha
  have HW : Hid (Owns (w.alloc (.cells #[] 3)) w.heap.size (.slice (some ⟨w.heap.size, 0, none⟩) 0 0) 0 (difL xs 0) ∧ w.grownBy (w.alloc (.cells #[] 3)) none) := ⟨owns_empty w, grown_alloc _ _ _⟩
  clear hx ha
  go_enter Try.func75, Try.ntmps75
  go_wp2
  go_loopw [3, 4] (fun sv iv wr => ∃ (k : Nat) (bv : Value), bv = sv ∧ (k + 1 ≤ n ∨ k = 0) ∧ iv = .int .i64 ((k : Int) + 1) ∧ Hid (Owns wr w.heap.size bv k (difL xs k) ∧ w.grownBy wr none)) (fun _ iv _ => n + 1 - (intOf iv).toNat)
  case atStart => exact ⟨0, _, rfl, Or.inr rfl, rfl, HW⟩
  case round =>
    clear HW
    obtain ⟨k, bv, rfl, hk, rfl, HR⟩ := hrel
    by_cases hlt : k + 1 < n
    · obtain ⟨x, hxk⟩ : ∃ x, xs[k]? = some x := ⟨_, List.getElem?_eq_getElem (by rw [HX.out.1]; omega)⟩
      obtain ⟨y, hyk⟩ : ∃ y, xs[k + 1]? = some y := ⟨_, List.getElem?_eq_getElem (by rw [HX.out.1]; omega)⟩
      obtain ⟨b, off, rfl, hc⟩ := HX.out.2.resolve_left (by intro e; subst e; simp at hxk)
      have hcx : wr.cell? ⟨b, off + k, none⟩ = some (.int .i64 x) := HR.out.2.cell (hc k x hxk) (by simp)
      have hcy : wr.cell? ⟨b, off + (k + 1), none⟩ = some (.int .i64 y) := HR.out.2.cell (hc (k + 1) y hyk) (by simp)
      have hxr := allB_mem HA.out hxk
      have hyr := allB_mem HA.out hyk
      have i1 : ((k : Int) + 1).toNat = k + 1 := by omega
      have i2 : (k : Int) + 1 < (n : Int) := by omega
      have i3 : (k : Int) < (n : Int) := by omega
      have i4 : 0 ≤ (k : Int) + 1 := by omega
      have hw0 : IntKind.i64.wrap ((k : Int) + 1 - 1) = (k : Int) := by rw [show (k : Int) + 1 - 1 = k by omega]; exact IntWalk.i64_in _ (by omega)
      have hw1 : IntKind.i64.wrap (k : Int) = (k : Int) := IntWalk.i64_in _ (by omega)
      have hw : IntKind.i64.wrap (y - x) = y - x := IntWalk.i64_in _ (by omega)
      have HT : Hid (difL xs (k + 1) = difL xs k ++ [y - x]) := by show _ = _; rw [difL_succ, getD_of' hxk, getD_of' hyk]
      have HG := Lib.hid HR.out.2.size
      clear hc hxk hyk hxr hyr
      go_wp2
      go_region_law (first | (refine step_append_ints rfl _ _ rfl w.heap.size bv k _ rfl ((HR.out.1.grown (grown_drew wr none)).grown (grown_alloc _ _ _)) ⟨wr.heap.size, 0, none⟩ 1 1 [y - x] rfl (ints_one _ _ _) (by omega) (by omega) (by have := HG.out; simp; omega) ?_; intro g' c' w2 ho2 hg2 hn2 hl2))
      all_goals
        go_simp
        have HN : Hid (Owns w2 w.heap.size (.slice (some ⟨g', 0, none⟩) (k + 1) c') (k + 1) (difL xs (k + 1)) ∧ w.grownBy w2 none) := by
          refine ⟨?_, grown_row (grown_trans HR.out.2 (grown_trans (grown_drew wr none) (grown_alloc _ (.cells #[.int .i64 (y - x)] 3) _))) hg2 (fun g e => Owns.block HR.out.1 g e)⟩
          rw [HT.out]; exact ho2
        clear HR HG ho2 hg2 hn2 hl2 hw hcx hcy hw0 hw1 i1
        go_wp2
        go_roundw
        case rel => exact ⟨k + 1, _, rfl, Or.inl (by omega), by go_num, HN⟩
        case measure => simp [intOf]; omega
    · have hkn : k = n - 1 := by omega
      have HF : Hid (Owns wr w.heap.size bv (n - 1) (difL xs (n - 1)) ∧ w.grownBy wr none) := by have := HR.out; rw [hkn] at this; exact this
      have i2 : decide ((k : Int) + 1 < (n : Int)) = false := by simp; omega
      clear HR hkn
      go_wp2
      go_ret
      exact ⟨_, rfl, HF.out⟩

set_option maxHeartbeats 1000000 in
theorem sSW_any (xs ys : List Int) (n : Nat) (ao bo : Option Addr) (cap cap' : Nat) (w : World) (hx : Ints w ao n xs) (hy : Ints w bo n ys) (hn : n ≤ 64) (ha : allB xs (-70000) 70000 = true) (hb : allB ys (-70000) 70000 = true) (z : Int) (hz : chg xs + chg ys = z) :
    Calls Try.prog 63 #[.slice ao n cap, .slice bo n cap'] w fun e w' => e = .returned (.int .i64 z) ∧ w.grownBy w' none := by
  have r1 := chg_range ha (by rw [hx.1]; exact hn)
  have r2 := chg_range hb (by rw [hy.1]; exact hn)
  have e1 : chg xs = absS (difL xs (n - 1)) := by rw [absS_dif]; unfold chg; rw [hx.1]
  have e2 : chg ys = absS (difL ys (n - 1)) := by rw [absS_dif]; unfold chg; rw [hy.1]
  have HX := Lib.hid hx
  have HY := Lib.hid hy
  have HA := Lib.hid ha
  have HB := Lib.hid hb
  obtain ⟨u, hu⟩ : ∃ u, absS (difL xs (n - 1)) = u := ⟨_, rfl⟩
  obtain ⟨v, hv⟩ : ∃ v, absS (difL ys (n - 1)) = v := ⟨_, rfl⟩
  rw [e1, hu] at r1 hz
  rw [e2, hv] at r2 hz
  have u0 := r1.1
  have u1 := r1.2
  have v0 := r2.1
  have v1 := r2.2
  have HU := Lib.hid (And.intro hu hv)
  have hw : IntKind.i64.wrap (u + v) = z := by rw [hz]; exact IntWalk.i64_in _ (by omega)
  clear hx hy ha hb e1 e2 r1 r2 hu hv hz
  go_enter Try.func63, Try.ntmps63
  go_wp2_with fail
  refine (sDif_any xs n ao cap w HX.out hn HA.out).mono ?_
  rintro e w1 ⟨p1, rfl, ho1, hg1⟩
  obtain ⟨a1, c1, rfl, _, _, hx1, _⟩ := ho1.reads
  have HG := Lib.hid hg1
  have HD := Lib.hid hx1
  clear ho1 hx1 hg1
  go_wp2_with fail
  have k1 := sWgt_any (difL xs (n - 1)) (n - 1) a1 c1 w1 HD.out (by omega) (difL_range HA.out _)
  rw [HU.out.1] at k1
  refine k1.mono ?_
  rintro e w' ⟨rfl, rfl⟩
  clear k1
  go_wp2_with fail
  refine (sDif_any ys n bo cap' w1 (HY.out.grown HG.out) hn HB.out).mono ?_
  rintro e w2 ⟨p2, rfl, ho2, hg2⟩
  obtain ⟨a2, c2, rfl, _, _, hx2, _⟩ := ho2.reads
  have HG2 := Lib.hid (grown_trans HG.out hg2)
  have HD2 := Lib.hid hx2
  clear ho2 hx2 hg2
  go_wp2_with fail
  have k2 := sWgt_any (difL ys (n - 1)) (n - 1) a2 c2 w2 HD2.out (by omega) (difL_range HB.out _)
  rw [HU.out.2] at k2
  refine k2.mono ?_
  rintro e w' ⟨rfl, rfl⟩
  clear k2
  go_wp2
  go_ret
  exact ⟨rfl, HG2.out⟩

set_option maxRecDepth 100000 in
set_option maxHeartbeats 2000000 in
theorem sBestL_any (xs ys : List Int) (n : Nat) (ao bo : Option Addr) (cap cap' : Nat) (w : World) (hx : Ints w ao n xs) (hy : Ints w bo n ys) (hn : ao = none → cap = 0) (hn' : bo = none → cap' = 0) (hv : vP xs ys 32767 = true) :
    Calls Try.prog 51 #[.slice ao n cap, .slice bo n cap'] w fun e w' => e = .returned (.int .i64 (bst xs ys 3 : Int)) ∧ w.grownBy w' none := by
  have hn64 : n ≤ 64 := by rw [← hx.1]; exact (vP_of hv).2.1
  have HX := Lib.hid hx
  have HY := Lib.hid hy
  have HN := Lib.hid hn
  have HN' := Lib.hid hn'
  have HV := Lib.hid hv
  clear hx hy hn hn' hv
  go_enter Try.func51, Try.ntmps51
  go_wp2
  go_loopw [5, 6] (fun bv mv wr => ∃ m b : Nat, m ≤ 3 ∧ b ≤ 3 ∧ mv = .int .i64 ((m : Int) + 1) ∧ bv = .int .i64 b ∧ Hid (bst xs ys m = b) ∧ Hid (w.grownBy wr none)) (fun _ mv _ => 5 - (intOf mv).toNat)
  case atStart => exact ⟨0, 0, by omega, by omega, rfl, rfl, rfl, grown_refl _ _⟩
  case round =>
    obtain ⟨m, b, hm, hb3, rfl, rfl, hb, HG⟩ := hrel
    by_cases hlt : m < 3
    · have hd : decide ((m : Int) + 1 ≤ 3) = true := by simp; omega
      have S1 : Hid (∀ W : World, Ints W ao n xs → Ints W bo n ys → Calls Try.prog 48 #[.int .i64 ((m : Int) + 1), .slice ao n cap, .slice bo n cap'] W (MadeTwo (List.zipWith (stA (m + 1)) xs ys) (List.zipWith (stB (m + 1)) xs ys) n W)) := fun W h1 h2 => by
        have := sEncL_any (m + 1) (by omega) xs ys n ao bo cap cap' W h1 h2 HN.out HN'.out HV.out
        rwa [Int.natCast_succ] at this
      have r1 := cost_range (m := m + 1) HV.out
      have r2 := cost_range (m := b) HV.out
      obtain ⟨u, hu⟩ : ∃ u, cost xs ys (m + 1) = u := ⟨_, rfl⟩
      obtain ⟨v, hvv⟩ : ∃ v, cost xs ys b = v := ⟨_, rfl⟩
      have HU := Lib.hid (And.intro hu hvv)
      clear r1 r2 hu hvv
      go_wp2_with fail
      refine (S1.out wr (HX.out.grown HG.out) (HY.out.grown HG.out)).mono ?_
      rintro e w1 ⟨v1, u1, rfl, ht1⟩
      obtain ⟨p1, q1, rfl, _, _, hx1, _⟩ := ht1.o1.reads
      obtain ⟨s1, t1, rfl, _, _, hy1, _⟩ := ht1.o2.reads
      have HG1 := Lib.hid (grown_trans HG.out ht1.g)
      have HA := Lib.hid hx1
      have HB := Lib.hid hy1
      clear ht1 hx1 hy1 S1
      go_wp2_with fail
      refine (sEncL_any b hb3 xs ys n ao bo cap cap' w1 (HX.out.grown HG1.out) (HY.out.grown HG1.out) HN.out HN'.out HV.out).mono ?_
      rintro e w2 ⟨v2, u2, rfl, ht2⟩
      obtain ⟨p2, q2, rfl, _, _, hx2, _⟩ := ht2.o1.reads
      obtain ⟨s2, t2, rfl, _, _, hy2, _⟩ := ht2.o2.reads
      have HG2 := Lib.hid (grown_trans HG1.out ht2.g)
      have HA1 := Lib.hid (HA.out.grown ht2.g)
      have HB1 := Lib.hid (HB.out.grown ht2.g)
      have HA2 := Lib.hid hx2
      have HB2 := Lib.hid hy2
      clear ht2 hx2 hy2 HA HB HG1
      go_wp2_with fail
      refine (sSW_any _ _ n p1 s1 q1 t1 w2 HA1.out HB1.out hn64 (st_range HV.out).1 (st_range HV.out).2 u HU.out.1).mono ?_
      rintro e w3 ⟨rfl, hg3⟩
      have HG3 := Lib.hid (grown_trans HG2.out hg3)
      have HA3 := Lib.hid (HA2.out.grown hg3)
      have HB3 := Lib.hid (HB2.out.grown hg3)
      clear hg3 HA1 HB1 HA2 HB2 HG2
      go_wp2_with fail
      refine (sSW_any _ _ n p2 s2 q2 t2 w3 HA3.out HB3.out hn64 (st_range HV.out).1 (st_range HV.out).2 v HU.out.2).mono ?_
      rintro e w4 ⟨rfl, hg4⟩
      have HG4 := Lib.hid (grown_trans HG3.out hg4)
      clear hg4 HA3 HB3 HG3
      by_cases hlv : u < v
      · have hd2 : decide (u < v) = true := by simpa using hlv
        have HB4 : Hid (bst xs ys (m + 1) = m + 1) := by show _ = _; simp only [bst]; rw [hb.out, HU.out.1, HU.out.2, if_pos hlv]
        clear hb HU
        go_wp2
        go_roundw
        case rel => exact ⟨m + 1, m + 1, by omega, by omega, by go_num, by go_num, HB4, HG4⟩
        case measure => simp [intOf]; omega
      · have hd2 : decide (u < v) = false := by simpa using hlv
        have HB4 : Hid (bst xs ys (m + 1) = b) := by show _ = _; simp only [bst]; rw [hb.out, HU.out.1, HU.out.2, if_neg hlv]
        clear hb HU
        go_wp2
        go_roundw
        case rel => exact ⟨m + 1, b, by omega, hb3, by go_num, rfl, HB4, HG4⟩
        case measure => simp [intOf]; omega
    · obtain rfl : m = 3 := by omega
      have HF : Hid (bst xs ys 3 = b) := hb.out
      clear hb
      go_wp2
      go_ret
      exact ⟨by rw [HF.out]; rfl, HG.out⟩

set_option maxHeartbeats 1000000 in
theorem sBS_any (xs ys : List Int) (ao bo : Option Addr) (len cap len' cap' : Nat) (w : World) (hx : Ints w ao len xs) (hy : Ints w bo len' ys) (hn : ao = none → cap = 0) (hn' : bo = none → cap' = 0) (hmax : len ≤ 4611686018427387904) (hmax' : len' ≤ 4611686018427387904) :
    Calls Try.prog 31 #[.slice ao len cap, .slice bo len' cap'] w fun e w' => e = .returned (.int .i64 (bsI xs ys)) ∧ w.grownBy w' none := by
  have k1 := sLVP_any xs ys ao bo len cap len' cap' w (vP xs ys 32767) hx hy hmax hmax' rfl
  unfold bsI
  cases h1 : vP xs ys 32767 with
  | false =>
    rw [h1] at k1
    clear h1 hx hy hn hn'
    go_enter Try.func31, Try.ntmps31
    go_wp2_with fail
    refine k1.mono ?_
    rintro e w' ⟨rfl, rfl⟩
    clear k1
    go_wp2
    go_ret
    exact ⟨rfl, grown_refl _ _⟩
  | true =>
    have hle : len' = len := by rw [← hx.1, ← hy.1]; exact (vP_of h1).1.symm
    subst hle
    rw [h1] at k1
    have k2 := sBestL_any xs ys len' ao bo cap cap' w hx hy hn hn' h1
    rw [if_pos rfl]
    generalize (bst xs ys 3 : Int) = z at *
    clear h1 hx hy hn hn'
    go_enter Try.func31, Try.ntmps31
    go_wp2_with fail
    refine k1.mono ?_
    rintro e w' ⟨rfl, rfl⟩
    clear k1
    go_wp2_with fail
    refine k2.mono ?_
    rintro e w1 ⟨rfl, hg⟩
    have HG := Lib.hid hg
    clear k2 hg
    go_wp2
    go_ret
    exact ⟨rfl, HG.out⟩

end Go.Proofs.Ytbjkclbgocpbkaa
