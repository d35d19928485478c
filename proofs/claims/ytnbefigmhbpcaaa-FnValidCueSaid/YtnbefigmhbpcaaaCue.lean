/-
  Valid starts of tracks: both texts. For all lists that can be read.
-/
import Derived.Test.YtnbefigmhbpcaaaILin
import Derived.Deep.QuietTactic
import Derived.BigQuiet
namespace Go.Proofs.Ytnbefigmhbpcaaa
open Go.RowKit

/-- The starts are valid for a number of samples. -/
def VC (xs : List Int) (t : Int) : Prop :=
  (1 ≤ t ∧ t ≤ 256) ∧ (1 ≤ xs.length ∧ xs.length ≤ 9) ∧ xs[0]? = some 0 ∧ (∀ (i : Nat) (x y : Int), xs[i]? = some x → xs[i + 1]? = some y → x < y) ∧ ∀ x ∈ xs, 0 ≤ x ∧ x ≤ t - 1
theorem vc_there (xs : List Int) (t : Int) : ∃ v : Bool, v = true ↔ VC xs t := by
  by_cases h : VC xs t
  · exact ⟨true, by simp [h]⟩
  · exact ⟨false, by simp [h]⟩
theorem vc_false {xs : List Int} {t : Int} {v : Bool} (hv : v = true ↔ VC xs t) (h : ¬ VC xs t) : v = false := by
  cases v with
  | false => rfl
  | true => exact absurd (hv.1 rfl) h
theorem vc_ints1 (w : World) (x : Int) (t : TypeId) (B : Nat) (h : w.heap.size = B) : Ints (w.alloc (.cells #[.int .i64 x] t)) (some ⟨B, 0, none⟩) 1 [x] := by
  subst h; exact ints_one w x t
theorem vcIn1 (x lo hi : Int) (b : Bool) (w : World) (B : Nat) (hB : w.heap.size = B) (hv : inB x lo hi = b) :
    Calls Try.prog 23 #[.int .i64 lo, .int .i64 hi, .slice (some ⟨B, 0, none⟩) 1 1] (w.alloc (.cells #[.int .i64 x] 3)) fun e w' => e = .returned (.bool b) ∧ w.alloc (.cells #[.int .i64 x] 3) = w' :=
  iAllIn_any [x] lo hi (some ⟨B, 0, none⟩) 1 1 _ b (vc_ints1 w x _ B hB) (by omega) (by rw [← hv]; simp [allB])

set_option maxRecDepth 100000 in
set_option maxHeartbeats 2000000 in
theorem sVC_any (xs : List Int) (t : Int) (ao : Option Addr) (len cap : Nat) (w : World) (v : Bool) (hx : Ints w ao len xs) (hlen : len ≤ 4611686018427387904) (hv : v = true ↔ VC xs t) :
    Calls Try.prog 24 #[.slice ao len cap, .int .i64 t] w fun e w' => e = .returned (.bool v) ∧ w.grownBy w' none := by
  have HX := Lib.hid hx
  have HL := Lib.hid hx.1
  have HV := Lib.hid hv
  clear hx hv
  go_enter Try.func24, Try.ntmps24
  go_wp2
  go_loopw [5] (fun iv wr => ∃ k : Nat, iv = .int .i64 ((k : Int) + 1) ∧ (k = 0 ∨ k + 1 ≤ len) ∧ Hid ((∃ m, wr = w.drewN m) ∧ ∀ (i : Nat) (x y : Int), i < k → xs[i]? = some x → xs[i + 1]? = some y → x < y)) (fun iv _ => len + 1 - (intOf iv).toNat)
  case atStart => exact ⟨0, rfl, Or.inl rfl, ⟨0, rfl⟩, fun i _ _ h => by omega⟩
  case round =>
    obtain ⟨k, rfl, hk, HW⟩ := hrel
    have hgd : w.grownBy wr none := by obtain ⟨m, e⟩ := HW.out.1; rw [e]; exact grown_drewN _ _ _
    by_cases hlt : k + 1 < len
    · obtain ⟨x, hx⟩ : ∃ x, xs[k]? = some x := ⟨_, List.getElem?_eq_getElem (by rw [HL.out]; omega)⟩
      obtain ⟨y, hy⟩ : ∃ y, xs[k + 1]? = some y := ⟨_, List.getElem?_eq_getElem (by rw [HL.out]; omega)⟩
      obtain ⟨b, off, rfl, hc⟩ := HX.out.2.resolve_left (by intro e; subst e; simp at hx)
      have q1 := hgd.cell (hc k x hx) (by simp)
      have q2 : wr.cell? ⟨b, off + (k + 1), none⟩ = some (.int .i64 y) := hgd.cell (hc (k + 1) y hy) (by simp)
      have HXY := Lib.hid (And.intro hx hy)
      have hkz : (k : Int) + 1 < (len : Int) := by omega
      have HGD := Lib.hid hgd
      clear hc hx hy hgd
      by_cases hxy : x < y
      · have hb : decide (y ≤ x) = false := by simp; omega
        have HS : ∀ n : Nat, Hid ((∃ m, wr.drewN n = w.drewN m) ∧ ∀ (i : Nat) (x y : Int), i < k + 1 → xs[i]? = some x → xs[i + 1]? = some y → x < y) := fun n => ⟨by obtain ⟨m, e⟩ := HW.out.1; exact ⟨m + n, by rw [e, World.drewN_drewN]⟩, fun i a c hi ha hc => by
          by_cases hik : i = k
          · subst hik; rw [HXY.out.1] at ha; rw [HXY.out.2] at hc; injection ha with ha; injection hc with hc; omega
          · exact HW.out.2 i a c (by omega) ha hc⟩
        have HS2 := Lib.hid HS
        clear hxy HS
        go_wp2_with fail
        go_quiet (fail)
        go_wp2
        go_roundw
        case rel => exact ⟨k + 1, by go_num, by omega, HS2.out _⟩
        case measure => simp [intOf]; omega
      · have hb : decide (y ≤ x) = true := by simp; omega
        have HF : Hid (v = false) := vc_false HV.out (fun h => hxy (h.2.2.2.1 k x y HXY.out.1 HXY.out.2))
        clear hxy
        go_wp2_with fail
        go_quiet (fail)
        go_wp2
        go_ret
        exact ⟨ret_bool HF.out.symm, grown_trans HGD.out (grown_drewN _ _ _)⟩
    · have hkz : ¬ (k : Int) + 1 < (len : Int) := by omega
      have HG := Lib.hid hgd
      have HAS : Hid (∀ (i : Nat) (x y : Int), xs[i]? = some x → xs[i + 1]? = some y → x < y) := fun i x y hx hy => HW.out.2 i x y (by have := (List.getElem?_eq_some_iff.1 hy).1; have := HL.out; omega) hx hy
      clear hgd HW
      by_cases h1 : 1 ≤ len ∧ len ≤ 9
      · have k1 := fun W => inRange_any (len : Int) 1 9 true W (inB_true (by omega) (by omega))
        by_cases h2 : 1 ≤ t ∧ t ≤ 256
        · have k2 := fun W => inRange_any t 1 256 true W (inB_true h2.1 h2.2)
          have h2a := h2.1
          have h2b := h2.2
          cases h3 : allB xs 0 (t - 1) with
          | true =>
            have k3 := fun W (hgW : wr.grownBy W none) => allIn_any xs 0 (t - 1) ao len cap W ((HX.out.grown HG.out).grown hgW) hlen
            rw [h3] at k3
            obtain ⟨x, hx⟩ : ∃ x, xs[0]? = some x := ⟨_, List.getElem?_eq_getElem (by rw [HL.out]; omega)⟩
            obtain ⟨b, off, rfl, hc⟩ := HX.out.2.resolve_left (by intro e; subst e; simp at hx)
            have q1 : wr.cell? ⟨b, off, none⟩ = some (.int .i64 x) := HG.out.cell (hc 0 x hx) (by simp)
            have hlen0 : 0 < len := by omega
            have HF : Hid (v = (x == 0)) := by
              show _ = _
              by_cases h0 : x = 0
              · subst h0
                exact HV.out.2 ⟨h2, by rw [HL.out]; exact h1, hx, HAS.out, fun y hy => by unfold allB at h3; rw [List.all_eq_true] at h3; have := h3 y hy; simpa [inB] using this⟩
              · rw [vc_false HV.out (fun h => h0 (by have := h.2.2.1; rw [hx] at this; injection this))]; simp [h0]
            clear hc hx h1 h2 h3
            go_wp2_with fail
            refine (k1 _).mono ?_
            rintro e w1 ⟨rfl, rfl⟩
            go_wp2_with fail
            refine (k2 _).mono ?_
            rintro e w1 ⟨rfl, rfl⟩
            go_wp2_with fail
            refine (k3 _ (grown_refl _ _)).mono ?_
            rintro e w1 ⟨rfl, rfl⟩
            clear k1 k2 k3
            go_wp2
            go_ret
            exact ⟨ret_bool HF.out.symm, HG.out⟩
          | false =>
            have k3 := fun W (hgW : wr.grownBy W none) => allIn_any xs 0 (t - 1) ao len cap W ((HX.out.grown HG.out).grown hgW) hlen
            rw [h3] at k3
            have HF : Hid (v = false) := vc_false HV.out (fun h => by
              have : allB xs 0 (t - 1) = true := by unfold allB; rw [List.all_eq_true]; intro y hy; have := h.2.2.2.2 y hy; exact inB_true this.1 this.2
              rw [h3] at this; cases this)
            clear h1 h2 h3
            go_wp2_with fail
            refine (k1 _).mono ?_
            rintro e w1 ⟨rfl, rfl⟩
            go_wp2_with fail
            refine (k2 _).mono ?_
            rintro e w1 ⟨rfl, rfl⟩
            go_wp2_with fail
            refine (k3 _ (grown_refl _ _)).mono ?_
            rintro e w1 ⟨rfl, rfl⟩
            clear k1 k2 k3
            go_wp2
            go_ret
            exact ⟨ret_bool HF.out.symm, HG.out⟩
        · have k2 := fun W => inRange_any t 1 256 false W (inB_false h2)
          have HF : Hid (v = false) := vc_false HV.out (fun h => h2 h.1)
          clear h1 h2
          go_wp2_with fail
          refine (k1 _).mono ?_
          rintro e w1 ⟨rfl, rfl⟩
          go_wp2_with fail
          refine (k2 _).mono ?_
          rintro e w1 ⟨rfl, rfl⟩
          clear k1 k2
          go_wp2
          go_ret
          exact ⟨ret_bool HF.out.symm, HG.out⟩
      · have k1 := fun W => inRange_any (len : Int) 1 9 false W (inB_false (by omega))
        have HF : Hid (v = false) := vc_false HV.out (fun h => h1 (by have := h.2.1; rw [HL.out] at this; exact this))
        clear h1
        go_wp2_with fail
        refine (k1 _).mono ?_
        rintro e w1 ⟨rfl, rfl⟩
        clear k1
        go_wp2
        go_ret
        exact ⟨ret_bool HF.out.symm, HG.out⟩

theorem sVCV_any (xs : List Int) (t : Int) (ao : Option Addr) (len cap : Nat) (w : World) (v : Bool) (hx : Ints w ao len xs) (hlen : len ≤ 4611686018427387904) (hv : v = true ↔ VC xs t) :
    Calls Try.prog 11 #[.slice ao len cap, .int .i64 t] w fun e w' => e = .returned (.bool v) ∧ w.grownBy w' none := by
  have k1 := sVC_any xs t ao len cap w v hx hlen hv
  clear hx hv
  go_enter Try.func11, Try.ntmps11
  go_wp2_with fail
  refine k1.mono ?_
  rintro e w1 ⟨rfl, hg⟩
  have HG := Lib.hid hg
  clear k1 hg
  go_wp2
  go_ret
  exact ⟨rfl, HG.out⟩

set_option maxRecDepth 100000 in
set_option maxHeartbeats 2000000 in
theorem iVC_any (xs : List Int) (t : Int) (ao : Option Addr) (len cap : Nat) (w : World) (v : Bool) (hx : Ints w ao len xs) (hlen : len ≤ 4611686018427387904) (hlc : len ≤ cap) (hv : v = true ↔ VC xs t) :
    Calls Try.prog 10 #[.slice ao len cap, .int .i64 t] w fun e w' => e = .returned (.bool v) ∧ w.grownBy w' none := by
  have HL := Lib.hid hx.1
  have HV := Lib.hid hv
  by_cases h1 : ¬ (1 ≤ t ∧ t ≤ 256)
  · have HF : Hid (v = false) := vc_false hv (fun h => h1 h.1)
    have k1 := fun W (B : Nat) (hB : W.heap.size = B) => vcIn1 t 1 256 false W B hB (inB_false h1)
    clear hx hv h1
    go_enter Try.func10, Try.ntmps10
    go_wp2_with fail
    refine (k1 w _ rfl).mono ?_
    rintro e w1 ⟨rfl, rfl⟩
    go_wp2
    go_ret
    exact ⟨ret_bool HF.out.symm, grown_alloc _ _ _⟩
  have h1 := Classical.not_not.1 h1
  have k1 := fun W (B : Nat) (hB : W.heap.size = B) => vcIn1 t 1 256 true W B hB (inB_true h1.1 h1.2)
  by_cases h2 : ¬ (1 ≤ len ∧ len ≤ 9)
  · have HF : Hid (v = false) := vc_false hv (fun h => h2 (by have := h.2.1; rw [HL.out] at this; exact this))
    have k2 := fun W (B : Nat) (hB : W.heap.size = B) => vcIn1 (len : Int) 1 9 false W B hB (inB_false (by omega))
    clear hx hv h1 h2
    go_enter Try.func10, Try.ntmps10
    go_wp2_with fail
    refine (k1 w _ rfl).mono ?_
    rintro e w1 ⟨rfl, rfl⟩
    go_wp2_with fail
    refine (k2 _ _ (by simp)).mono ?_
    rintro e w1 ⟨rfl, rfl⟩
    go_wp2
    go_ret
    exact ⟨ret_bool HF.out.symm, grown_trans (grown_alloc _ _ _) (grown_alloc _ _ _)⟩
  have h2 := Classical.not_not.1 h2
  have k2 := fun W (B : Nat) (hB : W.heap.size = B) => vcIn1 (len : Int) 1 9 true W B hB (inB_true (by omega) (by omega))
  obtain ⟨x, hx0⟩ : ∃ x, xs[0]? = some x := ⟨_, List.getElem?_eq_getElem (by rw [HL.out]; omega)⟩
  obtain ⟨b, off, rfl, hc⟩ := hx.2.resolve_left (by intro e; subst e; simp at hx0)
  have q1 : w.cell? ⟨b, off, none⟩ = some (.int .i64 x) := hc 0 x hx0
  have hlen0 : 0 < len := by omega
  have h1a := h1.1
  have h1b := h1.2
  have h2a := h2.1
  have h2b := h2.2
  have HC := Lib.hid hc
  have HX0 := Lib.hid hx0
  have g1 := grown_trans (grown_alloc w (.cells #[.int .i64 t] 3) none) (grown_alloc _ (.cells #[.int .i64 (len : Int)] 3) none)
  have q2 := g1.cell q1 (by simp)
  by_cases h3 : ¬ x = 0
  · have HF : Hid (v = false) := vc_false hv (fun h => h3 (by have := h.2.2.1; rw [hx0] at this; injection this))
    have hb : (x != 0) = true := by simpa using h3
    clear hx hv h1 h2 h3 hc hx0 g1
    go_enter Try.func10, Try.ntmps10
    go_wp2_with fail
    refine (k1 w _ rfl).mono ?_
    rintro e w1 ⟨rfl, rfl⟩
    go_wp2_with fail
    refine (k2 _ _ (by simp)).mono ?_
    rintro e w1 ⟨rfl, rfl⟩
    go_wp2
    go_ret
    exact ⟨ret_bool HF.out.symm, grown_trans (grown_alloc _ _ _) (grown_alloc _ _ _)⟩
  obtain rfl := Classical.not_not.1 h3
  have HG := Lib.hid g1
  clear hx hv h1 h2 h3 hc hx0 g1
  have hcap : len = 1 ∧ cap = 1 ∨ 1 < cap := by omega
  rcases hcap with ⟨rfl, rfl⟩ | hcap
  · have HF : Hid (v = true) := HV.out.2 ⟨⟨h1a, h1b⟩, by rw [HL.out]; omega, HX0.out, fun i x y hx hy => by have := (List.getElem?_eq_some_iff.1 hy).1; have := HL.out; omega, fun y hy => by
      obtain ⟨i, hi⟩ := List.getElem?_of_mem hy
      have := (List.getElem?_eq_some_iff.1 hi).1
      have := HL.out
      obtain rfl : i = 0 := by omega
      rw [HX0.out] at hi; injection hi with hi; omega⟩
    have q3 : ((w.alloc (.cells #[.int .i64 t] 3)).alloc (.cells #[.int .i64 1] 3)).cell? ⟨b, off, none⟩ = some (.int .i64 0) := q2
    have HG3 : Hid (w.grownBy ((w.alloc (.cells #[.int .i64 t] 3)).alloc (.cells #[.int .i64 1] 3)) none) := HG
    go_enter Try.func10, Try.ntmps10
    go_wp2_with fail
    refine (k1 w _ rfl).mono ?_
    rintro e w1 ⟨rfl, rfl⟩
    go_wp2_with fail
    refine (k2 _ _ (by simp)).mono ?_
    rintro e w1 ⟨rfl, rfl⟩
    go_wp2
    refine wp_loop_rounds 1 ?_
    rw [rounds_succ]
    go_wp2
    go_ret
    exact ⟨ret_bool HF.out.symm, HG3.out⟩
  · go_enter Try.func10, Try.ntmps10
    go_wp2_with fail
    refine (k1 w _ rfl).mono ?_
    rintro e w1 ⟨rfl, rfl⟩
    go_wp2_with fail
    refine (k2 _ _ (by simp)).mono ?_
    rintro e w1 ⟨rfl, rfl⟩
    clear k1 k2
    generalize (w.alloc (.cells #[.int .i64 t] 3)).alloc (.cells #[.int .i64 (len : Int)] 3) = wb at *
    have hsub : ((len : Int) - 1) = ((len - 1 : Nat) : Int) := by omega
    have HR0 : Hid (∀ (i : Nat) (x : Int), i ≤ 0 → xs[i]? = some x → 0 ≤ x ∧ x ≤ t - 1) := fun i x h hx => by
      obtain rfl : i = 0 := by omega
      rw [HX0.out] at hx
      injection hx with hx
      omega
    go_wp2
    go_loopw [27] (fun iv wr => ∃ k : Nat, iv = .int .i64 (k : Int) ∧ k + 1 ≤ len ∧ Hid (w.grownBy wr none ∧ (∀ (i : Nat) (x y : Int), i < k → xs[i]? = some x → xs[i + 1]? = some y → x < y) ∧ ∀ (i : Nat) (x : Int), i ≤ k → xs[i]? = some x → 0 ≤ x ∧ x ≤ t - 1)) (fun iv _ => len - (intOf iv).toNat)
    case atStart => exact ⟨0, rfl, by omega, HG.out, fun i _ _ h => by omega, HR0.out⟩
    case round =>
      clear q1 q2
      obtain ⟨k, rfl, hk, HW⟩ := hrel
      by_cases hlt : k + 1 < len
      · obtain ⟨x, hx⟩ : ∃ x, xs[k]? = some x := ⟨_, List.getElem?_eq_getElem (by rw [HL.out]; omega)⟩
        obtain ⟨y, hy⟩ : ∃ y, xs[k + 1]? = some y := ⟨_, List.getElem?_eq_getElem (by rw [HL.out]; omega)⟩
        have q1 := HW.out.1.cell (HC.out k x hx) (by simp)
        have q2 : wr.cell? ⟨b, off + 1 + k, none⟩ = some (.int .i64 y) := by
          have := HW.out.1.cell (HC.out (k + 1) y hy) (by simp)
          rwa [show off + (k + 1) = off + 1 + k by omega] at this
        have hr := HW.out.2.2 k x (Nat.le_refl _) hx
        have hr0 := hr.1
        have hr1 := hr.2
        have hkz : k < len - 1 := by omega
        have HXY := Lib.hid (And.intro hx hy)
        by_cases hin : x + 1 ≤ y ∧ y ≤ t - 1
        · have k3 := fun W (B : Nat) (hB : W.heap.size = B) => vcIn1 y (x + 1) (t - 1) true W B hB (inB_true hin.1 hin.2)
          have HN : Hid (w.grownBy (wr.alloc (.cells #[.int .i64 y] 3)) none ∧ (∀ (i : Nat) (x y : Int), i < k + 1 → xs[i]? = some x → xs[i + 1]? = some y → x < y) ∧ ∀ (i : Nat) (x : Int), i ≤ k + 1 → xs[i]? = some x → 0 ≤ x ∧ x ≤ t - 1) := by
            refine ⟨grown_trans HW.out.1 (grown_alloc _ _ _), fun i a c hi ha hc => ?_, fun i a hi ha => ?_⟩
            · by_cases hik : i = k
              · subst hik; rw [hx] at ha; rw [hy] at hc; injection ha with ha; injection hc with hc; omega
              · exact HW.out.2.1 i a c (by omega) ha hc
            · by_cases hik : i = k + 1
              · subst hik; rw [hy] at ha; injection ha with ha; omega
              · exact HW.out.2.2 i a (by omega) ha
          clear hx hy hr hin
          go_wp2_with fail
          refine (k3 wr _ rfl).mono ?_
          rintro e w1 ⟨rfl, rfl⟩
          clear k3 q1 q2
          go_wp2
          go_roundw
          case rel => exact ⟨k + 1, by go_num, by omega, HN⟩
          case measure => simp [intOf]; omega
        · have k3 := fun W (B : Nat) (hB : W.heap.size = B) => vcIn1 y (x + 1) (t - 1) false W B hB (inB_false hin)
          have HF : Hid (v = false) := vc_false HV.out (fun h => hin ⟨by have := h.2.2.2.1 k x y hx hy; omega, (h.2.2.2.2 y (List.mem_of_getElem? hy)).2⟩)
          clear hx hy hr hin
          go_wp2_with fail
          refine (k3 wr _ rfl).mono ?_
          rintro e w1 ⟨rfl, rfl⟩
          clear k3 q1 q2
          go_wp2
          go_ret
          exact ⟨ret_bool HF.out.symm, grown_trans HW.out.1 (grown_alloc _ _ _)⟩
      · have hkz : ¬ k < len - 1 := by omega
        have HF : Hid (v = true) := HV.out.2 ⟨⟨h1a, h1b⟩, by rw [HL.out]; omega, HX0.out, fun i x y hx hy => HW.out.2.1 i x y (by have := (List.getElem?_eq_some_iff.1 hy).1; have := HL.out; omega) hx hy, fun y hy => by
          obtain ⟨i, hi⟩ := List.getElem?_of_mem hy
          exact HW.out.2.2 i y (by have := (List.getElem?_eq_some_iff.1 hi).1; have := HL.out; omega) hi⟩
        have HG2 := Lib.hid HW.out.1
        go_wp2
        go_ret
        exact ⟨ret_bool HF.out.symm, HG2.out⟩

end Go.Proofs.Ytnbefigmhbpcaaa
