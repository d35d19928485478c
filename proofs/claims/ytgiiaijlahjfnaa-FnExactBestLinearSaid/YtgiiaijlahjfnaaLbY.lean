/-
  The exact law on the best linear predictor: sizes, equality, the walk.
-/
import Derived.Test.YtgiiaijlahjfnaaLbX
import Derived.Test.YtgiiaijlahjfnaaExLR
import Derived.Deep.RegionHeld3
namespace Go.Proofs.Ytgiiaijlahjfnaa
open Go.RowKit

/-- The number of all predictors and of their coefficients. -/
def szLs (ls : List LinV) : Nat := ls.length + (ls.map (·.n)).sum
theorem szn_take {ls : List LinV} {k : Nat} {l : LinV} (h : ls[k]? = some l) : ((ls.take (k + 1)).map (·.n)).sum = ((ls.take k).map (·.n)).sum + l.n := by
  rw [List.take_add_one, h]; simp
theorem szn_le (ls : List LinV) (k : Nat) : ((ls.take k).map (·.n)).sum ≤ (ls.map (·.n)).sum := by
  conv => rhs; rw [← List.take_append_drop k ls]
  rw [List.map_append, List.sum_append]
  omega
theorem n_le {ls : List LinV} {l : LinV} (h : l ∈ ls) : l.n ≤ szLs ls := by
  obtain ⟨k, hk⟩ := List.getElem?_of_mem h
  have := szn_take hk
  have := szn_le ls (k + 1)
  unfold szLs; omega

set_option maxHeartbeats 1000000 in
theorem szLinearS_any (ls : List LinV) (ao : Option Addr) (len cap : Nat) (r : Int) (w : World) (hm : LinsW w ao len ls) (hmax : len ≤ 9223372036854775807) (hr : r = if (szLs ls : Int) ≤ 1048576 then 1048576 - (szLs ls : Int) else -1) :
    Calls Try.prog 30 #[.slice ao len cap, .int .i64 1048576] w fun e w' => e = .returned (.int .i64 r) ∧ w.grownBy w' none := by
  have hl := hm.1
  by_cases h0 : 1048576 < len
  · have hr' : r = -1 := by rw [hr, if_neg (by unfold szLs; omega)]
    subst hr'
    have hd : decide (1048576 - (len : Int) < 0) = true := by simp; omega
    clear hm hr hl
    go_enter Try.func30, Try.ntmps30
    go_wp2
    go_ret
    exact ⟨rfl, grown_refl _ _⟩
  have hd : decide (1048576 - (len : Int) < 0) = false := by simp; omega
  have hlen : len ≤ 1048576 := by omega
  have HM := Lib.hid hm
  have HL := Lib.hid hl
  have HR := Lib.hid hr
  clear hm hl hr h0
  go_enter Try.func30, Try.ntmps30
  go_wp2
  go_loopw [1, 5] (fun l i wr => ∃ (k : Nat) (L : Int), k ≤ len ∧ i = .int .i64 k ∧ l = .int .i64 L ∧ 0 ≤ L ∧ L ≤ 1048576 ∧ Hid (L = 1048576 - (len : Int) - (((ls.take k).map (·.n)).sum : Nat) ∧ w.grownBy wr none)) (fun _ i _ => len - (intOf i).toNat)
  case atStart => exact ⟨0, _, Nat.zero_le _, rfl, rfl, by omega, by omega, by simp, grown_refl _ _⟩
  case round =>
    obtain ⟨k, L, hk, rfl, rfl, hL0, hL1, HS⟩ := hrel
    by_cases hlt : k < len
    · obtain ⟨l, hxk⟩ : ∃ l, ls[k]? = some l := ⟨_, List.getElem?_eq_getElem (by rw [HL.out]; exact hlt)⟩
      obtain ⟨b, off, hab, hc⟩ := HM.out.2.resolve_left (by intro e; subst e; simp at hxk)
      obtain ⟨hq0, hq1, _, hn62⟩ := hc k l hxk
      have q0 := HS.out.2.cell hq0 (by simp)
      have q1 := HS.out.2.cell hq1 (by simp)
      have HX := Lib.hid hxk
      subst hab
      obtain ⟨n, hn⟩ : ∃ n, l.n = n := ⟨_, rfl⟩
      rw [hn] at q0 hn62
      have HN := Lib.hid hn
      obtain ⟨lao, hlao⟩ : ∃ lao, l.ao = lao := ⟨_, rfl⟩
      obtain ⟨lc, hlc⟩ : ∃ lc, l.cap = lc := ⟨_, rfl⟩
      obtain ⟨lsh, hlsh⟩ : ∃ lsh, l.sh = lsh := ⟨_, rfl⟩
      rw [hlao, hlc] at q0
      rw [hlsh] at q1
      clear hc hxk hn hlao hlc hlsh hq0 hq1
      by_cases h1 : (n : Int) ≤ L
      · have ks := szLinear_any lao n lc lsh L (L - (n : Int)) wr (by omega) (by omega) (by omega) (by rw [if_pos h1])
        have hd2 : decide (L - (n : Int) < 0) = false := by simp; omega
        go_wp2_with fail
        refine ks.mono ?_
        rintro e w1 ⟨rfl, hg1⟩
        have HF : Hid (L - (n : Int) = 1048576 - (len : Int) - (((ls.take (k + 1)).map (·.n)).sum : Nat) ∧ w.grownBy w1 none) := ⟨by have := HS.out.1; have := szn_take HX.out; have := HN.out; omega, grown_trans HS.out.2 hg1⟩
        clear ks hg1 q0 q1 HS
        go_wp2
        go_roundw
        case rel => exact ⟨k + 1, _, by omega, by go_num, rfl, by omega, by omega, HF⟩
        case measure => simp [intOf]; omega
      · have ks := szLinear_any lao n lc lsh L (-1) wr (by omega) (by omega) (by omega) (by rw [if_neg h1])
        go_wp2_with fail
        refine ks.mono ?_
        rintro e w1 ⟨rfl, hg1⟩
        have HF := Lib.hid (grown_trans HS.out.2 hg1)
        clear ks hg1 q0 q1
        go_wp2
        go_ret
        refine ⟨ret_int ?_, HF.out⟩
        have h2 := szn_take HX.out
        have h3 := szn_le ls (k + 1)
        rw [HR.out, if_neg]
        have := HS.out.1
        have := HN.out
        have := HL.out
        unfold szLs
        omega
    · obtain rfl : k = len := by omega
      have HF := Lib.hid HS.out.2
      have h1 := HS.out.1
      rw [List.take_of_length_le (by rw [HL.out]; exact Nat.le_refl _)] at h1
      have H1 := Lib.hid h1
      clear h1 HS
      go_wp2
      go_ret
      refine ⟨ret_int ?_, HF.out⟩
      have := HL.out
      have := H1.out
      rw [HR.out, if_pos (by unfold szLs; omega)]
      unfold szLs
      omega

def keyL (l : LinV) : Nat × List Int × Int := (l.n, l.cs, l.sh)
theorem key_at {ls ls2 : List LinV} (h : ls2.map (fun l => (l.n, l.cs, l.sh)) = ls.map (fun l => (l.n, l.cs, l.sh))) {k : Nat} {l : LinV} (hl : ls[k]? = some l) : ∃ l2, ls2[k]? = some l2 ∧ l2.n = l.n ∧ l2.cs = l.cs ∧ l2.sh = l.sh := by
  have e := congrArg (fun x => x[k]?) h
  simp only [List.getElem?_map, hl, Option.map_some] at e
  cases h2 : ls2[k]? with
  | none => rw [h2] at e; simp at e
  | some l2 =>
    rw [h2] at e
    simp at e
    exact ⟨l2, rfl, e.1, e.2.1, e.2.2⟩
theorem bestS_key {xs : List Int} {ls ls2 : List LinV} (h : ls2.map (fun l => (l.n, l.cs, l.sh)) = ls.map (fun l => (l.n, l.cs, l.sh))) (k : Nat) : bestS xs ls2 k = bestS xs ls k := by
  have hlen : ls2.length = ls.length := by have := congrArg List.length h; simpa using this
  induction k with
  | zero => rfl
  | succ k ih =>
    cases hl : ls[k]? with
    | none =>
      have h2 : ls2[k]? = none := by rw [List.getElem?_eq_none_iff] at hl ⊢; omega
      simp [bestS, hl, h2, ih]
    | some l =>
      obtain ⟨l2, h2, _, e2, e3⟩ := key_at h hl
      have hc : cost xs l2 = cost xs l := by unfold cost; rw [e2, e3]
      simp only [bestS, hl, h2, ih, e2, e3, hc]
theorem bestZ_key {xs : List Int} {ls ls2 : List LinV} (h : ls2.map (fun l => (l.n, l.cs, l.sh)) = ls.map (fun l => (l.n, l.cs, l.sh))) : bestZ xs ls2 = bestZ xs ls := by
  have hlen : ls2.length = ls.length := by have := congrArg List.length h; simpa using this
  unfold bestZ
  rw [hlen, bestS_key h]

set_option maxRecDepth 100000 in
set_option maxHeartbeats 2000000 in
theorem eqLinearS_any (ls ls2 : List LinV) (ao bo : Option Addr) (len cap cap' : Nat) (w : World) (hx : Lins w ao len ls) (hy : Lins w bo len ls2) (hk : ls2.map (fun l => (l.n, l.cs, l.sh)) = ls.map (fun l => (l.n, l.cs, l.sh))) (hlen : len ≤ 4194304) (hn : ∀ l ∈ ls, l.n ≤ 4194304) :
    Calls Try.prog 32 #[.slice ao len cap, .slice bo len cap'] w fun e w' => e = .returned (.bool true) ∧ w.grownBy w' none := by
  have HX := Lib.hid hx
  have HY := Lib.hid hy
  have HK := Lib.hid hk
  have HN := Lib.hid hn
  clear hx hy hk hn
  go_enter Try.func32, Try.ntmps32
  go_wp2
  go_loopw [5] (fun i wr => ∃ k : Nat, k ≤ len ∧ i = .int .i64 k ∧ Hid (w.grownBy wr none)) (fun i _ => len - (intOf i).toNat)
  case atStart => exact ⟨0, Nat.zero_le _, rfl, grown_refl _ _⟩
  case round =>
    obtain ⟨k, hk, rfl, HW⟩ := hrel
    by_cases hlt : k < len
    · obtain ⟨l, hlk⟩ : ∃ l, ls[k]? = some l := ⟨_, List.getElem?_eq_getElem (by have := HX.out.1; omega)⟩
      obtain ⟨l2, hlk2, e1, e2, e3⟩ := key_at HK.out hlk
      obtain ⟨b, off, hab, hc⟩ := HX.out.2.resolve_left (by intro e; subst e; simp at hlk)
      obtain ⟨b2, off2, hab2, hc2⟩ := HY.out.2.resolve_left (by intro e; subst e; simp at hlk2)
      obtain ⟨hq0, hq1, hly, _⟩ := hc k l hlk
      obtain ⟨hr0, hr1, hry, _⟩ := hc2 k l2 hlk2
      have hln := HN.out l (List.mem_of_getElem? hlk)
      rw [e1] at hr0 hry
      rw [e2] at hry
      rw [e3] at hr1
      have q0 := HW.out.cell hq0 (by simp)
      have q1 := HW.out.cell hq1 (by simp)
      have r0 := HW.out.cell hr0 (by simp)
      have r1 := HW.out.cell hr1 (by simp)
      have HI := Lib.hid (hly.grown HW.out)
      have HJ := Lib.hid (hry.grown HW.out)
      subst hab
      subst hab2
      obtain ⟨lao, ln, lcap, lcs, lsh⟩ := l
      obtain ⟨lao2, ln2, lcap2, lcs2, lsh2⟩ := l2
      simp only at q0 q1 r0 r1 HI HJ hln
      clear hc hc2 hq0 hq1 hr0 hr1 hly hry hlk hlk2 e1 e2 e3
      go_wp2_with fail
      go_region_held3 (fun w' => w'.cell? ⟨b, off + k * 2, none⟩ = some (.slice lao ln lcap) ∧ w'.cell? ⟨b, off + k * 2 + 1, none⟩ = some (.int .i64 lsh) ∧ w'.cell? ⟨b2, off2 + k * 2, none⟩ = some (.slice lao2 ln lcap2) ∧ w'.cell? ⟨b2, off2 + k * 2 + 1, none⟩ = some (.int .i64 lsh)) (first | go_keep | exact ⟨by assumption, by assumption, by assumption, by assumption⟩) ((go_at_call 26; refine (eqLinear_any lcs lcs lao lao2 ln lcap ln lcap2 lsh lsh _ (HI.out.grown (grown_drew _ _)) (HJ.out.grown (grown_drew _ _)) hln).mono ?_; rintro e w2 ⟨he, hg2⟩; rw [show (lcs == lcs && lsh == lsh) = true by simp] at he; subst he; have HG2 := Lib.hid (grown_trans (grown_trans HW.out (grown_drew _ _)) hg2); have s0 := hg2.cell q0 (by simp); have s1 := hg2.cell q1 (by simp); have s2 := hg2.cell r0 (by simp); have s3 := hg2.cell r1 (by simp); clear hg2))
      all_goals
        clear s0 s1 s2 s3 q0 q1 r0 r1
        go_wp2
        go_roundw
        case rel => exact ⟨k + 1, by omega, by go_num, HG2⟩
        case measure => simp [intOf]; omega
    · obtain rfl : k = len := by omega
      go_wp2
      go_ret
      exact ⟨rfl, HW.out⟩

end Go.Proofs.Ytgiiaijlahjfnaa
