/-
  The walk of the law on what is decoded: it returns true and writes nothing that was there. For every code, in a world that holds the table of the forms.
-/
import Derived.Test.YtfncgegglpigkaaDoorDecN
import Derived.Test.YtfncgegglpigkaaDoorDrawDec
import Derived.Deep.RegionHeld3
namespace Go.Proofs.YtfncgegglpigkaaDoor
open Go.RowKit

set_option maxRecDepth 100000 in
set_option maxHeartbeats 1500000 in
theorem FnDecodeNumber_walk (ao : Option Addr) (len cap : Nat) (w : World) (hb : BytesAt w ao len) (hlc : len ≤ cap) (hmax : len ≤ 9223372036854775807) (hf : HasForms w) :
    Calls Tryd.prog 4 #[.slice ao len cap] w (Holds w) := by
  by_cases hlen : 1048576 < len
  · clear hb hf
    go_enter Tryd.func4, Tryd.ntmps4
    go_wp2
    go_ret
    exact ⟨rfl, grown_refl _ _⟩
  have hd := drawDN_any ao len cap w hb hlc hmax
  have hm : decide (1048576 < (len : Int)) = false := by simp; omega
  have HF := Lib.hid hf
  clear hb hf hlen
  go_enter Tryd.func4, Tryd.ntmps4
  go_wp2_with fail
  refine hd.mono ?_
  rintro e w1 ⟨a1, n1, c1, xs, t, rfl, hn1, hlc1, hnn1, hx1, hg1⟩
  have HX := Lib.hid hx1
  have HG := Lib.hid hg1
  obtain ⟨o, HI, HS, HB⟩ := dec_back xs n1 hx1.1 (by omega) t
  clear hd hx1 hg1
  go_wp2_with fail
  refine (HI.out a1 c1 _ (HF.out.grown HG.out) HX.out hlc1).mono ?_
  rintro e w2 ⟨rfl, hg2⟩
  replace HX := Lib.hid (HX.out.grown hg2)
  replace HG := Lib.hid (grown_trans HG.out hg2)
  clear hg2 HI
  cases o with
  | none =>
    clear HB
    go_wp2_with fail
    refine (HS.out a1 c1 _ HX.out hlc1).mono ?_
    rintro e w3 ⟨rfl, hg3⟩
    replace HG := Lib.hid (grown_trans HG.out hg3)
    clear hg3 HS
    go_wp2
    go_ret
    exact ⟨rfl, HG.out⟩
  | some q =>
    obtain ⟨a, rfl, k, hq2, hkl, hk1, hk6, HE⟩ := HB.out q rfl
    obtain ⟨n, p⟩ := q
    simp only at hq2 HE
    subst hq2
    have e1 := HX.out.1
    have hal : a + k ≤ n1 := by omega
    clear HB e1 hkl
    go_wp2_with fail
    refine (HS.out a1 c1 _ HX.out hlc1).mono ?_
    rintro e w3 ⟨rfl, hg3⟩
    replace HX := Lib.hid (HX.out.grown hg3)
    replace HG := Lib.hid (grown_trans HG.out hg3)
    clear hg3 HS
    obtain ⟨b, off, rfl⟩ : ∃ b off, a1 = some ⟨b, off, none⟩ := by
      rcases HX.out.2 with e | ⟨b, off, e, _⟩
      · have := HX.out.1; rw [e] at this; simp at this; omega
      · exact ⟨b, off, e⟩
    have HP := Lib.hid (HX.out.part a k hal)
    obtain ⟨p, hp⟩ : ∃ p, a + k = p := ⟨_, rfl⟩
    rw [hp]
    have hpl : decide ((p : Int) ≤ (n1 : Int)) = true := by simp; omega
    have hpl2 : decide (p ≤ n1) = true := by simp; omega
    have ha0 : (0 : Int) ≤ (a : Int) := by omega
    have hap : (a : Int) ≤ (p : Int) := by omega
    have hpc : (p : Int) ≤ (c1 : Int) := by omega
    have hpk : p - a = k := by omega
    go_wp2_with fail
    go_region_held3 (fun _ => True) (first | go_keep | trivial) ((first
      | (go_at_call 6; refine (HE.out _ ((HF.out.grown HG.out).grown (grown_drew _ _))).mono ?_; rintro e w4 ⟨v4, rfl, ho4, hg4⟩; obtain ⟨a4, c4, rfl, _, _, hx4, _⟩ := ho4.reads; have HX4 := Lib.hid hx4; have HP4 := Lib.hid ((HP.out.grown (grown_drew _ _)).grown hg4); have HG4 := Lib.hid (grown_trans (grown_trans HG.out (grown_drew _ _)) hg4); clear ho4 hg4 hx4)
      | (go_at_call 7; go_loud (refine (equalInts_any _ _ a4 (some ⟨b, off + a, none⟩) k c4 k (c1 - a) true _ HX4.out HP4.out (by omega) (by simp)).mono ?_; rintro e w5 ⟨rfl, hg5⟩; have HG5 := Lib.hid (grown_trans HG4.out hg5); clear hg5))))
    all_goals
      go_wp2
      go_ret
      exact ⟨rfl, HG5.out⟩

end Go.Proofs.YtfncgegglpigkaaDoor
