/-
  The walk of 'FnPeakOf': it returns true and writes nothing that was there. For every code.
-/
import Derived.Test.YthjelbanelmekaaDrawLv
import Derived.Test.YthjelbanelmekaaPkI
import Derived.Test.YthjelbanelmekaaMem
import Derived.Test.YthjelbanelmekaaCnt
namespace Go.Proofs.Ythjelbanelmekaa
open Go.RowKit

theorem pkM_le {m : Int} {xss : List (List Int)} : m ≤ pkM m xss := by
  induction xss generalizing m with
  | nil => exact Int.le_refl _
  | cons xs xss ih => exact Int.le_trans pkL_le (ih (m := pkL m xs))
theorem pkM_ge {m : Int} {xss : List (List Int)} {xs : List Int} {x : Int} (h : xs ∈ xss) (hx : x ∈ xs) : ab x ≤ pkM m xss := by
  induction xss generalizing m with
  | nil => simp at h
  | cons y ys ih =>
    rcases List.mem_cons.1 h with rfl | h
    · exact Int.le_trans (pkL_ge hx) (pkM_le (m := pkL m xs))
    · exact ih h
theorem pkM_at' (xss : List (List Int)) : ∀ m, pkM m xss = m ∨ ∃ xs ∈ xss, ∃ x ∈ xs, ab x = pkM m xss := by
  induction xss with
  | nil => intro m; exact Or.inl rfl
  | cons ys xss ih =>
    intro m
    rcases ih (pkL m ys) with h | ⟨xs, hxs, x, hx, he⟩
    · rcases pkL_at (m := m) (xs := ys) with h2 | ⟨x, hx, he⟩
      · left; show pkM (pkL m ys) xss = m; rw [h, h2]
      · right; refine ⟨ys, by simp, x, hx, ?_⟩; show ab x = pkM (pkL m ys) xss; rw [h]; exact he
    · exact Or.inr ⟨xs, by simp [hxs], x, hx, he⟩
theorem pkM_at (xss : List (List Int)) : pkM 0 xss = 0 ∨ ∃ xs ∈ xss, ∃ x ∈ xs, ab x = pkM 0 xss := pkM_at' xss 0
theorem pk_is {r d : Int} {xss : List (List Int)} (h : ¬ pkV r d xss < 0) : ∃ u H, VA r d xss u H ∧ pkV r d xss = pkM 0 xss := by
  cases hva : vAu r d xss with
  | false => exfalso; have e : pkV r d xss = -1 := (by unfold pkV; rw [hva]; rfl); omega
  | true =>
    obtain ⟨u, H, hV⟩ := va_of hva
    exact ⟨u, H, hV, by unfold pkV; rw [hva]; rfl⟩

set_option maxRecDepth 100000 in
set_option maxHeartbeats 4000000 in
theorem FnPeakOf_walk (ao : Option Addr) (len cap : Nat) (w : World) (hb : BytesAt w ao len) (hlc : len ≤ cap) (hmax : len ≤ 9223372036854775807) :
    Calls Try.prog 3 #[.slice ao len cap] w (Holds w) := by
  by_cases hlen : 1048576 < len
  · clear hb
    go_enter Try.func3, Try.ntmps3
    go_wp2
    go_ret
    exact ⟨rfl, grown_refl _ _⟩
  have hd := drawPk_any ao len cap w hb hlc hmax
  have hm : decide (1048576 < (len : Int)) = false := by simp; omega
  clear hb hlen
  go_enter Try.func3, Try.ntmps3
  go_wp2_with fail
  refine hd.mono ?_
  rintro e w1 ⟨p, q, a, l, c, xss, rfl, hmat, hl2, hs2, hg1⟩
  obtain rfl := hmat.1
  have HM := Lib.hid (((Mem.start w).grown hg1).block (.cells #[.int .i64 p, .int .i64 q, .slice a xss.length c] 25))
  have HX := Lib.hid (hmat.grown (grown_alloc w1 (.cells #[.int .i64 p, .int .i64 q, .slice a xss.length c] 25) none))
  have hsz : szL xss ≤ 1048576 := by omega
  clear hd hmat hg1
  obtain ⟨z, hz⟩ : ∃ z, pkV p q xss = z := ⟨_, rfl⟩
  have HZ := Lib.hid hz
  clear hz
  obtain ⟨q00, q01, q02⟩ := three_cells (HM.out.get (b := w1.heap.size) (o := .cells #[.int .i64 p, .int .i64 q, .slice a xss.length c] 25) (by simp))
  go_wp2_with fail
  refine (iPk_any xss a xss.length c p q _ z HX.out hsz HZ.out).mono ?_
  rintro e w2 ⟨rfl, hg2⟩
  replace HM := Lib.hid (HM.out.grown hg2)
  replace HX := Lib.hid (HX.out.grown hg2)
  clear q00 q01 q02 hg2
  obtain ⟨q00, q01, q02⟩ := three_cells (HM.out.get (b := w1.heap.size) (o := .cells #[.int .i64 p, .int .i64 q, .slice a xss.length c] 25) (by simp))
  go_wp2_with fail
  refine (sPk_any xss a xss.length c p q _ z HX.out hsz HZ.out).mono ?_
  rintro e w3 ⟨rfl, hg3⟩
  replace HM := Lib.hid (HM.out.grown hg3)
  replace HX := Lib.hid (HX.out.grown hg3)
  clear q00 q01 q02 hg3
  by_cases hzn : z < 0
  · have hb : decide (z < 0) = true := by simpa using hzn
    obtain ⟨q00, q01, q02⟩ := three_cells (HM.out.get (b := w1.heap.size) (o := .cells #[.int .i64 p, .int .i64 q, .slice a xss.length c] 25) (by simp))
    go_wp2_with fail
    refine (sPk_any xss a xss.length c p q _ z HX.out hsz HZ.out).mono ?_
    rintro e w4 ⟨rfl, hg4⟩
    replace HM := Lib.hid (HM.out.grown hg4)
    replace HX := Lib.hid (HX.out.grown hg4)
    clear q00 q01 q02 hg4
    obtain ⟨q00, q01, q02⟩ := three_cells (HM.out.get (b := w1.heap.size) (o := .cells #[.int .i64 p, .int .i64 q, .slice a xss.length c] 25) (by simp))
    go_wp2
    go_ret
    exact ⟨rfl, HM.out.g⟩
  have hb : decide (z < 0) = false := by simpa using hzn
  obtain ⟨u, H, hV, hzM⟩ := pk_is (by rw [HZ.out]; exact hzn)
  rw [HZ.out] at hzM
  have HV := Lib.hid hV
  have HZM := Lib.hid hzM
  have hlen1 := hV.ch.1
  have hlen2 := hV.ch.2
  have hHH := hV.hh
  have hxh := hV.hd
  have hpu := hV.pow.2
  have HPU := Lib.hid hpu
  clear hV hzM hpu
  obtain ⟨q00, q01, q02⟩ := three_cells (HM.out.get (b := w1.heap.size) (o := .cells #[.int .i64 p, .int .i64 q, .slice a xss.length c] 25) (by simp))
  go_wp2_with fail
  refine (lCount_any xss a xss.length c H p q _ HX.out hxh).mono ?_
  rintro e w4 ⟨rfl, hg4⟩
  replace HM := Lib.hid (HM.out.grown hg4)
  replace HX := Lib.hid (HX.out.grown hg4)
  clear q00 q01 q02 hg4
  obtain ⟨s0, hs0⟩ : ∃ s0, ((H : Int) == 0 && z == 0) = s0 := ⟨_, rfl⟩
  have HS0 : Hid (H = 0 → z = 0 → s0 = true) := fun h1 h2 => by rw [← hs0, h1, h2]; rfl
  have hcase : ((H : Int) == 0) = true ∧ (z == 0) = s0 ∨ ((H : Int) == 0) = false ∧ s0 = false := by
    by_cases h : H = 0
    · left; refine ⟨by simp [h], ?_⟩; rw [← hs0, h]; rfl
    · right; refine ⟨by simp; omega, ?_⟩; rw [← hs0]; simp; intro h2; omega
  clear hs0
  obtain ⟨q00, q01, q02⟩ := three_cells (HM.out.get (b := w1.heap.size) (o := .cells #[.int .i64 p, .int .i64 q, .slice a xss.length c] 25) (by simp))
  rcases hcase with ⟨hc1, hc2⟩ | ⟨hc1, hc2⟩
  · go_wp2
    go_loopw [5, 6] (fun sv iv wr => ∃ (i : Nat) (sb : Bool), i ≤ xss.length ∧ iv = .int .i64 i ∧ sv = .bool sb ∧ Hid (w4.grownBy wr none ∧ (sb = false → s0 = false ∧ ∀ xs ∈ xss.take i, ∀ x ∈ xs, ab x ≠ z))) (fun _ iv _ => 10 - (intOf iv).toNat)
    case atStart => exact ⟨0, s0, Nat.zero_le _, rfl, rfl, grown_refl _ _, fun h => ⟨h, by simp⟩⟩
    case round =>
      clear q00 q01 q02
      obtain ⟨i, sb, hi, rfl, rfl, HW2⟩ := hrel
      have HM2 := Lib.hid (HM.out.grown HW2.out.1)
      obtain ⟨q00, q01, q02⟩ := three_cells (HM2.out.get (b := w1.heap.size) (o := .cells #[.int .i64 p, .int .i64 q, .slice a xss.length c] 25) (by simp))
      by_cases hlt : i < xss.length
      · obtain ⟨xs, hxk⟩ : ∃ xs, xss[i]? = some xs := ⟨_, List.getElem?_eq_getElem hlt⟩
        obtain ⟨b, off, rfl, hc⟩ := HX.out.2.resolve_left (by intro e; rw [e] at hxk; simp at hxk)
        obtain ⟨ux, hux, a0, c0, rfl, hin, _⟩ := hc i xs hxk
        have hxl := (HV.out.row i xs hxk).1
        rw [hxl] at hux hin
        have q3 := HW2.out.1.cell hux (by simp)
        have HUX := Lib.hid hux
        have HIN := Lib.hid hin
        have HXK := Lib.hid hxk
        clear hc hux hin hxk
        go_wp2
        go_loopw [5, 7] (fun sv kv wx => ∃ (k : Nat) (s2 : Bool), k ≤ H ∧ kv = .int .i64 k ∧ sv = .bool s2 ∧ Hid (w4.grownBy wx none ∧ (s2 = false → (s0 = false ∧ ∀ xs ∈ xss.take i, ∀ x ∈ xs, ab x ≠ z) ∧ ∀ x ∈ xs.take k, ab x ≠ z))) (fun _ kv _ => 300 - (intOf kv).toNat)
        case atStart => exact ⟨0, sb, Nat.zero_le _, rfl, rfl, HW2.out.1, fun h => ⟨HW2.out.2 h, by simp⟩⟩
        case round =>
          clear q00 q01 q02 q3
          obtain ⟨k, s2, hk, rfl, rfl, HR⟩ := hrel
          have HM3 := Lib.hid (HM.out.grown HR.out.1)
          obtain ⟨q00, q01, q02⟩ := three_cells (HM3.out.get (b := w1.heap.size) (o := .cells #[.int .i64 p, .int .i64 q, .slice (some ⟨b, off, none⟩) xss.length c] 25) (by simp))
          have q3 := HR.out.1.cell HUX.out (by simp)
          by_cases hkt : k < H
          · obtain ⟨x, hxj⟩ : ∃ x, xs[k]? = some x := ⟨_, List.getElem?_eq_getElem (by rw [HIN.out.1]; exact hkt)⟩
            obtain ⟨b2, off2, rfl, hc2⟩ := HIN.out.2.resolve_left (by intro e; rw [e] at hxj; simp at hxj)
            have q4 := HR.out.1.cell (hc2 k x hxj) (by simp)
            have hr := HV.out.num HXK.out hxj
            have hpu := HPU.out
            have hx0 : -32768 ≤ x := by omega
            have hx1 : x ≤ 32768 := by omega
            have hle : ab x ≤ z := by rw [HZM.out]; exact pkM_ge (List.mem_of_getElem? HXK.out) (List.mem_of_getElem? hxj)
            have hwx : IntKind.i64.wrap (-x) = -x := IntWalk.i64_in _ (by omega)
            have HT : Hid (xs.take (k + 1) = xs.take k ++ [x]) := by show _ = _; rw [List.take_add_one, hxj]; rfl
            clear hc2 hxj hr hpu
            by_cases hsx : x < -x
            · have hab : ab x = -x := by unfold ab; rw [if_pos (by omega)]
              rw [hab] at hle
              have l1 : decide (x < -x) = true := by simpa using hsx
              have hb1 : decide (z < (-x)) = false := by simp; omega
              by_cases heq : (-x) = z
              · have hb2 : ((-x) == z) = true := by simpa using heq
                have HN : Hid (∀ W, wr.grownBy W none → (w4.grownBy W none ∧ (true = false → (s0 = false ∧ ∀ xs ∈ xss.take i, ∀ x ∈ xs, ab x ≠ z) ∧ ∀ x ∈ xs.take (k + 1), ab x ≠ z))) := fun W hW => ⟨grown_trans HR.out.1 hW, fun h => by cases h⟩
                clear heq hle
                cases s2 with
                | true =>
                  go_wp2_with fail
                  go_quiet (fail)
                  go_wp2
                  go_roundw
                  case rel => exact ⟨k + 1, true, by omega, by go_num, rfl, ⟨(HN.out _ (grown_drewN _ _ _)).1, fun h => (HN.out wr (grown_refl wr none)).2 (by first | exact h | trivial)⟩⟩
                  case measure => simp [intOf]; omega
                | false =>
                  go_wp2_with fail
                  go_quiet (fail)
                  go_wp2
                  go_roundw
                  case rel => exact ⟨k + 1, true, by omega, by go_num, rfl, ⟨(HN.out _ (grown_drewN _ _ _)).1, fun h => (HN.out wr (grown_refl wr none)).2 (by first | exact h | trivial)⟩⟩
                  case measure => simp [intOf]; omega
              · have hb2 : ((-x) == z) = false := by simpa using heq
                have HN : Hid (∀ W, wr.grownBy W none → (w4.grownBy W none ∧ (s2 = false → (s0 = false ∧ ∀ xs ∈ xss.take i, ∀ x ∈ xs, ab x ≠ z) ∧ ∀ x ∈ xs.take (k + 1), ab x ≠ z))) := fun W hW => ⟨grown_trans HR.out.1 hW, fun h => ⟨(HR.out.2 h).1, fun y hy => by
                  rw [HT.out] at hy
                  rcases List.mem_append.1 hy with hy | hy
                  · exact (HR.out.2 h).2 y hy
                  · simp at hy; subst hy; rw [hab]; exact heq⟩⟩
                clear heq hle
                cases s2 with
                | true =>
                  go_wp2_with fail
                  go_quiet (fail)
                  go_wp2
                  go_roundw
                  case rel => exact ⟨k + 1, true, by omega, by go_num, rfl, ⟨(HN.out _ (grown_drewN _ _ _)).1, fun h => (HN.out wr (grown_refl wr none)).2 (by first | exact h | trivial)⟩⟩
                  case measure => simp [intOf]; omega
                | false =>
                  go_wp2_with fail
                  go_quiet (fail)
                  go_wp2
                  go_roundw
                  case rel => exact ⟨k + 1, false, by omega, by go_num, rfl, ⟨(HN.out _ (grown_drewN _ _ _)).1, fun h => (HN.out wr (grown_refl wr none)).2 (by first | exact h | trivial)⟩⟩
                  case measure => simp [intOf]; omega
            · have hab : ab x = x := by unfold ab; split <;> omega
              rw [hab] at hle
              have l1 : decide (x < -x) = false := by simpa using hsx
              have hb1 : decide (z < x) = false := by simp; omega
              by_cases heq : x = z
              · have hb2 : (x == z) = true := by simpa using heq
                have HN : Hid (∀ W, wr.grownBy W none → (w4.grownBy W none ∧ (true = false → (s0 = false ∧ ∀ xs ∈ xss.take i, ∀ x ∈ xs, ab x ≠ z) ∧ ∀ x ∈ xs.take (k + 1), ab x ≠ z))) := fun W hW => ⟨grown_trans HR.out.1 hW, fun h => by cases h⟩
                clear heq hle
                cases s2 with
                | true =>
                  go_wp2_with fail
                  go_quiet (fail)
                  go_wp2
                  go_roundw
                  case rel => exact ⟨k + 1, true, by omega, by go_num, rfl, ⟨(HN.out _ (grown_drewN _ _ _)).1, fun h => (HN.out wr (grown_refl wr none)).2 (by first | exact h | trivial)⟩⟩
                  case measure => simp [intOf]; omega
                | false =>
                  go_wp2_with fail
                  go_quiet (fail)
                  go_wp2
                  go_roundw
                  case rel => exact ⟨k + 1, true, by omega, by go_num, rfl, ⟨(HN.out _ (grown_drewN _ _ _)).1, fun h => (HN.out wr (grown_refl wr none)).2 (by first | exact h | trivial)⟩⟩
                  case measure => simp [intOf]; omega
              · have hb2 : (x == z) = false := by simpa using heq
                have HN : Hid (∀ W, wr.grownBy W none → (w4.grownBy W none ∧ (s2 = false → (s0 = false ∧ ∀ xs ∈ xss.take i, ∀ x ∈ xs, ab x ≠ z) ∧ ∀ x ∈ xs.take (k + 1), ab x ≠ z))) := fun W hW => ⟨grown_trans HR.out.1 hW, fun h => ⟨(HR.out.2 h).1, fun y hy => by
                  rw [HT.out] at hy
                  rcases List.mem_append.1 hy with hy | hy
                  · exact (HR.out.2 h).2 y hy
                  · simp at hy; subst hy; rw [hab]; exact heq⟩⟩
                clear heq hle
                cases s2 with
                | true =>
                  go_wp2_with fail
                  go_quiet (fail)
                  go_wp2
                  go_roundw
                  case rel => exact ⟨k + 1, true, by omega, by go_num, rfl, ⟨(HN.out _ (grown_drewN _ _ _)).1, fun h => (HN.out wr (grown_refl wr none)).2 (by first | exact h | trivial)⟩⟩
                  case measure => simp [intOf]; omega
                | false =>
                  go_wp2_with fail
                  go_quiet (fail)
                  go_wp2
                  go_roundw
                  case rel => exact ⟨k + 1, false, by omega, by go_num, rfl, ⟨(HN.out _ (grown_drewN _ _ _)).1, fun h => (HN.out wr (grown_refl wr none)).2 (by first | exact h | trivial)⟩⟩
                  case measure => simp [intOf]; omega
          · obtain rfl : k = H := by omega
            have HN : Hid (w4.grownBy wr none ∧ (s2 = false → s0 = false ∧ ∀ xs ∈ xss.take (i + 1), ∀ x ∈ xs, ab x ≠ z)) := by
              refine ⟨HR.out.1, fun h => ?_⟩
              obtain ⟨⟨h1, h2⟩, h3⟩ := HR.out.2 h
              rw [List.take_of_length_le (by rw [HIN.out.1]; exact Nat.le_refl _)] at h3
              refine ⟨h1, fun ys hy x hx => ?_⟩
              rw [List.take_add_one, HXK.out] at hy
              rcases List.mem_append.1 hy with hy | hy
              · exact h2 ys hy x hx
              · simp at hy; subst hy; exact h3 x hx
            go_wp2
            go_roundw
            case rel => exact ⟨i + 1, s2, by omega, by go_num, rfl, HN⟩
            case measure => simp [intOf]; omega
      · obtain rfl : i = xss.length := by omega
        have HF : Hid (sb = true) := by
          show _ = _
          cases sb with
          | true => rfl
          | false =>
            exfalso
            obtain ⟨h1, h2⟩ := HW2.out.2 rfl
            rw [List.take_length] at h2
            have h3 := HZM.out
            by_cases h0 : z = 0
            · by_cases hH0 : H = 0
              · have := HS0.out hH0 h0; rw [h1] at this; cases this
              · obtain ⟨xs, hx⟩ : ∃ xs, xss[0]? = some xs := ⟨_, List.getElem?_eq_getElem hlen1⟩
                have hl := (HV.out.row 0 xs hx).1
                obtain ⟨x, hxx⟩ : ∃ x, xs[0]? = some x := ⟨_, List.getElem?_eq_getElem (by omega)⟩
                have h4 := pkM_ge (m := 0) (List.mem_of_getElem? hx) (List.mem_of_getElem? hxx)
                rw [← h3, h0] at h4
                have h5 : 0 ≤ ab x := by unfold ab; split <;> omega
                exact h2 xs (List.mem_of_getElem? hx) x (List.mem_of_getElem? hxx) (by omega)
            · obtain ⟨xs, hx, x, hxx, he⟩ := (pkM_at xss).resolve_left (by rw [← h3]; exact h0)
              exact h2 xs hx x hxx (by rw [he, h3])
        have HG := Lib.hid HM2.out.g
        obtain rfl : sb = true := HF.out
        clear HW2 HF
        go_wp2
        go_ret
        exact ⟨rfl, HG.out⟩
  · have HC2 := Lib.hid hc2
    clear hc2
    go_wp2
    go_loopw [5, 6] (fun sv iv wr => ∃ (i : Nat) (sb : Bool), i ≤ xss.length ∧ iv = .int .i64 i ∧ sv = .bool sb ∧ Hid (w4.grownBy wr none ∧ (sb = false → s0 = false ∧ ∀ xs ∈ xss.take i, ∀ x ∈ xs, ab x ≠ z))) (fun _ iv _ => 10 - (intOf iv).toNat)
    case atStart => exact ⟨0, s0, Nat.zero_le _, rfl, by rw [HC2.out], grown_refl _ _, fun h => ⟨h, by simp⟩⟩
    case round =>
      clear q00 q01 q02
      obtain ⟨i, sb, hi, rfl, rfl, HW2⟩ := hrel
      have HM2 := Lib.hid (HM.out.grown HW2.out.1)
      obtain ⟨q00, q01, q02⟩ := three_cells (HM2.out.get (b := w1.heap.size) (o := .cells #[.int .i64 p, .int .i64 q, .slice a xss.length c] 25) (by simp))
      by_cases hlt : i < xss.length
      · obtain ⟨xs, hxk⟩ : ∃ xs, xss[i]? = some xs := ⟨_, List.getElem?_eq_getElem hlt⟩
        obtain ⟨b, off, rfl, hc⟩ := HX.out.2.resolve_left (by intro e; rw [e] at hxk; simp at hxk)
        obtain ⟨ux, hux, a0, c0, rfl, hin, _⟩ := hc i xs hxk
        have hxl := (HV.out.row i xs hxk).1
        rw [hxl] at hux hin
        have q3 := HW2.out.1.cell hux (by simp)
        have HUX := Lib.hid hux
        have HIN := Lib.hid hin
        have HXK := Lib.hid hxk
        clear hc hux hin hxk
        go_wp2
        go_loopw [5, 7] (fun sv kv wx => ∃ (k : Nat) (s2 : Bool), k ≤ H ∧ kv = .int .i64 k ∧ sv = .bool s2 ∧ Hid (w4.grownBy wx none ∧ (s2 = false → (s0 = false ∧ ∀ xs ∈ xss.take i, ∀ x ∈ xs, ab x ≠ z) ∧ ∀ x ∈ xs.take k, ab x ≠ z))) (fun _ kv _ => 300 - (intOf kv).toNat)
        case atStart => exact ⟨0, sb, Nat.zero_le _, rfl, rfl, HW2.out.1, fun h => ⟨HW2.out.2 h, by simp⟩⟩
        case round =>
          clear q00 q01 q02 q3
          obtain ⟨k, s2, hk, rfl, rfl, HR⟩ := hrel
          have HM3 := Lib.hid (HM.out.grown HR.out.1)
          obtain ⟨q00, q01, q02⟩ := three_cells (HM3.out.get (b := w1.heap.size) (o := .cells #[.int .i64 p, .int .i64 q, .slice (some ⟨b, off, none⟩) xss.length c] 25) (by simp))
          have q3 := HR.out.1.cell HUX.out (by simp)
          by_cases hkt : k < H
          · obtain ⟨x, hxj⟩ : ∃ x, xs[k]? = some x := ⟨_, List.getElem?_eq_getElem (by rw [HIN.out.1]; exact hkt)⟩
            obtain ⟨b2, off2, rfl, hc2⟩ := HIN.out.2.resolve_left (by intro e; rw [e] at hxj; simp at hxj)
            have q4 := HR.out.1.cell (hc2 k x hxj) (by simp)
            have hr := HV.out.num HXK.out hxj
            have hpu := HPU.out
            have hx0 : -32768 ≤ x := by omega
            have hx1 : x ≤ 32768 := by omega
            have hle : ab x ≤ z := by rw [HZM.out]; exact pkM_ge (List.mem_of_getElem? HXK.out) (List.mem_of_getElem? hxj)
            have hwx : IntKind.i64.wrap (-x) = -x := IntWalk.i64_in _ (by omega)
            have HT : Hid (xs.take (k + 1) = xs.take k ++ [x]) := by show _ = _; rw [List.take_add_one, hxj]; rfl
            clear hc2 hxj hr hpu
            by_cases hsx : x < -x
            · have hab : ab x = -x := by unfold ab; rw [if_pos (by omega)]
              rw [hab] at hle
              have l1 : decide (x < -x) = true := by simpa using hsx
              have hb1 : decide (z < (-x)) = false := by simp; omega
              by_cases heq : (-x) = z
              · have hb2 : ((-x) == z) = true := by simpa using heq
                have HN : Hid (∀ W, wr.grownBy W none → (w4.grownBy W none ∧ (true = false → (s0 = false ∧ ∀ xs ∈ xss.take i, ∀ x ∈ xs, ab x ≠ z) ∧ ∀ x ∈ xs.take (k + 1), ab x ≠ z))) := fun W hW => ⟨grown_trans HR.out.1 hW, fun h => by cases h⟩
                clear heq hle
                cases s2 with
                | true =>
                  go_wp2_with fail
                  go_quiet (fail)
                  go_wp2
                  go_roundw
                  case rel => exact ⟨k + 1, true, by omega, by go_num, rfl, ⟨(HN.out _ (grown_drewN _ _ _)).1, fun h => (HN.out wr (grown_refl wr none)).2 (by first | exact h | trivial)⟩⟩
                  case measure => simp [intOf]; omega
                | false =>
                  go_wp2_with fail
                  go_quiet (fail)
                  go_wp2
                  go_roundw
                  case rel => exact ⟨k + 1, true, by omega, by go_num, rfl, ⟨(HN.out _ (grown_drewN _ _ _)).1, fun h => (HN.out wr (grown_refl wr none)).2 (by first | exact h | trivial)⟩⟩
                  case measure => simp [intOf]; omega
              · have hb2 : ((-x) == z) = false := by simpa using heq
                have HN : Hid (∀ W, wr.grownBy W none → (w4.grownBy W none ∧ (s2 = false → (s0 = false ∧ ∀ xs ∈ xss.take i, ∀ x ∈ xs, ab x ≠ z) ∧ ∀ x ∈ xs.take (k + 1), ab x ≠ z))) := fun W hW => ⟨grown_trans HR.out.1 hW, fun h => ⟨(HR.out.2 h).1, fun y hy => by
                  rw [HT.out] at hy
                  rcases List.mem_append.1 hy with hy | hy
                  · exact (HR.out.2 h).2 y hy
                  · simp at hy; subst hy; rw [hab]; exact heq⟩⟩
                clear heq hle
                cases s2 with
                | true =>
                  go_wp2_with fail
                  go_quiet (fail)
                  go_wp2
                  go_roundw
                  case rel => exact ⟨k + 1, true, by omega, by go_num, rfl, ⟨(HN.out _ (grown_drewN _ _ _)).1, fun h => (HN.out wr (grown_refl wr none)).2 (by first | exact h | trivial)⟩⟩
                  case measure => simp [intOf]; omega
                | false =>
                  go_wp2_with fail
                  go_quiet (fail)
                  go_wp2
                  go_roundw
                  case rel => exact ⟨k + 1, false, by omega, by go_num, rfl, ⟨(HN.out _ (grown_drewN _ _ _)).1, fun h => (HN.out wr (grown_refl wr none)).2 (by first | exact h | trivial)⟩⟩
                  case measure => simp [intOf]; omega
            · have hab : ab x = x := by unfold ab; split <;> omega
              rw [hab] at hle
              have l1 : decide (x < -x) = false := by simpa using hsx
              have hb1 : decide (z < x) = false := by simp; omega
              by_cases heq : x = z
              · have hb2 : (x == z) = true := by simpa using heq
                have HN : Hid (∀ W, wr.grownBy W none → (w4.grownBy W none ∧ (true = false → (s0 = false ∧ ∀ xs ∈ xss.take i, ∀ x ∈ xs, ab x ≠ z) ∧ ∀ x ∈ xs.take (k + 1), ab x ≠ z))) := fun W hW => ⟨grown_trans HR.out.1 hW, fun h => by cases h⟩
                clear heq hle
                cases s2 with
                | true =>
                  go_wp2_with fail
                  go_quiet (fail)
                  go_wp2
                  go_roundw
                  case rel => exact ⟨k + 1, true, by omega, by go_num, rfl, ⟨(HN.out _ (grown_drewN _ _ _)).1, fun h => (HN.out wr (grown_refl wr none)).2 (by first | exact h | trivial)⟩⟩
                  case measure => simp [intOf]; omega
                | false =>
                  go_wp2_with fail
                  go_quiet (fail)
                  go_wp2
                  go_roundw
                  case rel => exact ⟨k + 1, true, by omega, by go_num, rfl, ⟨(HN.out _ (grown_drewN _ _ _)).1, fun h => (HN.out wr (grown_refl wr none)).2 (by first | exact h | trivial)⟩⟩
                  case measure => simp [intOf]; omega
              · have hb2 : (x == z) = false := by simpa using heq
                have HN : Hid (∀ W, wr.grownBy W none → (w4.grownBy W none ∧ (s2 = false → (s0 = false ∧ ∀ xs ∈ xss.take i, ∀ x ∈ xs, ab x ≠ z) ∧ ∀ x ∈ xs.take (k + 1), ab x ≠ z))) := fun W hW => ⟨grown_trans HR.out.1 hW, fun h => ⟨(HR.out.2 h).1, fun y hy => by
                  rw [HT.out] at hy
                  rcases List.mem_append.1 hy with hy | hy
                  · exact (HR.out.2 h).2 y hy
                  · simp at hy; subst hy; rw [hab]; exact heq⟩⟩
                clear heq hle
                cases s2 with
                | true =>
                  go_wp2_with fail
                  go_quiet (fail)
                  go_wp2
                  go_roundw
                  case rel => exact ⟨k + 1, true, by omega, by go_num, rfl, ⟨(HN.out _ (grown_drewN _ _ _)).1, fun h => (HN.out wr (grown_refl wr none)).2 (by first | exact h | trivial)⟩⟩
                  case measure => simp [intOf]; omega
                | false =>
                  go_wp2_with fail
                  go_quiet (fail)
                  go_wp2
                  go_roundw
                  case rel => exact ⟨k + 1, false, by omega, by go_num, rfl, ⟨(HN.out _ (grown_drewN _ _ _)).1, fun h => (HN.out wr (grown_refl wr none)).2 (by first | exact h | trivial)⟩⟩
                  case measure => simp [intOf]; omega
          · obtain rfl : k = H := by omega
            have HN : Hid (w4.grownBy wr none ∧ (s2 = false → s0 = false ∧ ∀ xs ∈ xss.take (i + 1), ∀ x ∈ xs, ab x ≠ z)) := by
              refine ⟨HR.out.1, fun h => ?_⟩
              obtain ⟨⟨h1, h2⟩, h3⟩ := HR.out.2 h
              rw [List.take_of_length_le (by rw [HIN.out.1]; exact Nat.le_refl _)] at h3
              refine ⟨h1, fun ys hy x hx => ?_⟩
              rw [List.take_add_one, HXK.out] at hy
              rcases List.mem_append.1 hy with hy | hy
              · exact h2 ys hy x hx
              · simp at hy; subst hy; exact h3 x hx
            go_wp2
            go_roundw
            case rel => exact ⟨i + 1, s2, by omega, by go_num, rfl, HN⟩
            case measure => simp [intOf]; omega
      · obtain rfl : i = xss.length := by omega
        have HF : Hid (sb = true) := by
          show _ = _
          cases sb with
          | true => rfl
          | false =>
            exfalso
            obtain ⟨h1, h2⟩ := HW2.out.2 rfl
            rw [List.take_length] at h2
            have h3 := HZM.out
            by_cases h0 : z = 0
            · by_cases hH0 : H = 0
              · have := HS0.out hH0 h0; rw [h1] at this; cases this
              · obtain ⟨xs, hx⟩ : ∃ xs, xss[0]? = some xs := ⟨_, List.getElem?_eq_getElem hlen1⟩
                have hl := (HV.out.row 0 xs hx).1
                obtain ⟨x, hxx⟩ : ∃ x, xs[0]? = some x := ⟨_, List.getElem?_eq_getElem (by omega)⟩
                have h4 := pkM_ge (m := 0) (List.mem_of_getElem? hx) (List.mem_of_getElem? hxx)
                rw [← h3, h0] at h4
                have h5 : 0 ≤ ab x := by unfold ab; split <;> omega
                exact h2 xs (List.mem_of_getElem? hx) x (List.mem_of_getElem? hxx) (by omega)
            · obtain ⟨xs, hx, x, hxx, he⟩ := (pkM_at xss).resolve_left (by rw [← h3]; exact h0)
              exact h2 xs hx x hxx (by rw [he, h3])
        have HG := Lib.hid HM2.out.g
        obtain rfl : sb = true := HF.out
        clear HW2 HF
        go_wp2
        go_ret
        exact ⟨rfl, HG.out⟩

end Go.Proofs.Ythjelbanelmekaa
