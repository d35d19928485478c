/-
  Reversed audio: the program's text. For all channels that can be read.
-/
import Derived.Test.YtncbgofcimghnaaEdQ
import Derived.Test.YtncbgofcimghnaaMarkA
import Derived.BigRegion
namespace Go.Proofs.Ytncbgofcimghnaa
open Go.RowKit

/-- The first and the last k numbers have changed places. -/
def rvK (xs : List Int) (k : Nat) : List Int := (List.range xs.length).map (fun j => if j < k ∨ xs.length ≤ j + k then xs.getD (xs.length - 1 - j) 0 else xs.getD j 0)
theorem rvK_len (xs : List Int) (k : Nat) : (rvK xs k).length = xs.length := by simp [rvK]
theorem rvK_get (xs : List Int) (k j : Nat) (h : j < xs.length) : (rvK xs k)[j]? = some (if j < k ∨ xs.length ≤ j + k then xs.getD (xs.length - 1 - j) 0 else xs.getD j 0) := by
  simp [rvK, h]
theorem rvK_zero (xs : List Int) : rvK xs 0 = xs := by
  apply List.ext_getElem?
  intro j
  by_cases h : j < xs.length
  · rw [rvK_get xs 0 j h, if_neg (by omega)]
    simp [List.getD, h]
  · rw [List.getElem?_eq_none (by rw [rvK_len]; omega), List.getElem?_eq_none (by omega)]
theorem rvK_full (xs : List Int) (k : Nat) (hk : xs.length ≤ 2 * k + 1) : rvK xs k = xs.reverse := by
  apply List.ext_getElem?
  intro j
  by_cases h : j < xs.length
  · rw [rvK_get xs k j h, List.getElem?_reverse h]
    by_cases h2 : j < k ∨ xs.length ≤ j + k
    · rw [if_pos h2]
      have h3 : xs.length - 1 - j < xs.length := by omega
      simp [List.getD, h3]
    · rw [if_neg h2]
      have h3 : xs.length - 1 - j = j := by omega
      rw [h3]
      simp [List.getD, h]
  · rw [List.getElem?_eq_none (by rw [rvK_len]; omega), List.getElem?_eq_none (by simp; omega)]
theorem rvK_step (xs : List Int) (k m : Nat) (x y : Int) (hm : m + 1 + k = xs.length) (hk : k < m) (hx : xs[k]? = some x) (hy : xs[m]? = some y) : ((rvK xs k).set k y).set m x = rvK xs (k + 1) := by
  apply List.ext_getElem?
  intro j
  by_cases h : j < xs.length
  · rw [rvK_get xs (k + 1) j h]
    by_cases h1 : j = m
    · subst h1
      rw [List.getElem?_set_self (by simp [rvK_len]; omega), if_pos (by omega)]
      have h3 : xs.length - 1 - j = k := by omega
      rw [h3]
      simp [List.getD, hx]
    · rw [List.getElem?_set_ne (by omega)]
      by_cases h2 : j = k
      · subst h2
        rw [List.getElem?_set_self (by rw [rvK_len]; omega), if_pos (by omega)]
        have h3 : xs.length - 1 - j = m := by omega
        rw [h3]
        simp [List.getD, hy]
      · rw [List.getElem?_set_ne (by omega), rvK_get xs k j h]
        by_cases h4 : j < k ∨ xs.length ≤ j + k
        · rw [if_pos h4, if_pos (by omega)]
        · rw [if_neg h4, if_neg (by omega)]
  · rw [List.getElem?_eq_none (by simp [rvK_len]; omega), List.getElem?_eq_none (by rw [rvK_len]; omega)]

theorem own_swap {w : World} {base g n c k m : Nat} {xs : List Int} {x y : Int} (h : Owns w base (.slice (some ⟨g, 0, none⟩) n c) n xs) :
    Owns ((w.setCell ⟨g, k, none⟩ (.int .i64 y)).setCell ⟨g, m, none⟩ (.int .i64 x)) base (.slice (some ⟨g, 0, none⟩) n c) n ((xs.set k y).set m x) ∧ w.grownBy ((w.setCell ⟨g, k, none⟩ (.int .i64 y)).setCell ⟨g, m, none⟩ (.int .i64 x)) (some g) := by
  have h1 := World.ownsRow.stored h k (.int .i64 y)
  have e1 : Owns (w.setCell ⟨g, k, none⟩ (.int .i64 y)) base (.slice (some ⟨g, 0, none⟩) n c) n (xs.set k y) := by
    have := h1.1; rw [← List.map_set] at this; exact this
  have h2 := World.ownsRow.stored e1 m (.int .i64 x)
  refine ⟨?_, grown_trans h1.2 h2.2⟩
  have := h2.1; rw [← List.map_set] at this; exact this

set_option maxRecDepth 100000 in
set_option maxHeartbeats 2000000 in
theorem iRevS_any (xs : List Int) (v : Value) (n base : Nat) (w : World) (ho : Owns w base v n xs) (hn : n ≤ 1000000) :
    Calls Try.prog 55 #[v] w fun e w' => e = .returned (.tuple #[]) ∧ Owns w' base v n xs.reverse ∧ w.grownBy w' v.ownBlock := by
  rcases ho.2 with ⟨rfl, rfl⟩ | ⟨g, c, cur, rfl, _⟩
  · have h0 : xs = [] := List.length_eq_zero_iff.1 ho.len_eq
    subst h0
    have HO := Lib.hid ho
    clear ho
    go_enter Try.func55, Try.ntmps55
    go_wp2
    refine wp_loop_rounds 1 ?_
    rw [rounds_succ]
    go_wp2
    go_end0
    exact ⟨rfl, HO.out, grown_refl _ _⟩
  · have HL := Lib.hid ho.len_eq
    have H0 : Hid (Owns w base (.slice (some ⟨g, 0, none⟩) n c) n (rvK xs 0) ∧ w.grownBy w (some g)) := by
      refine ⟨?_, grown_refl _ _⟩
      rw [rvK_zero]; exact ho
    clear ho
    go_enter Try.func55, Try.ntmps55
    go_wp2
    go_loopw [2, 3] (fun iv jv wr => ∃ (k : Nat) (j : Int), iv = .int .i64 k ∧ jv = .int .i64 j ∧ k ≤ n ∧ Hid (j = (n : Int) - 1 - (k : Int)) ∧ Hid (Owns wr base (.slice (some ⟨g, 0, none⟩) n c) n (rvK xs k) ∧ w.grownBy wr (some g))) (fun iv _ _ => n - (intOf iv).toNat)
    case atStart => exact ⟨0, _, rfl, rfl, Nat.zero_le _, by show _ = _; omega, H0⟩
    case round =>
      clear H0
      obtain ⟨k, j, rfl, rfl, hk, HJ, HW⟩ := hrel
      by_cases hlt : (k : Int) < j
      · obtain ⟨m, rfl⟩ : ∃ m : Nat, j = (m : Int) := ⟨j.toNat, by omega⟩
        have hmk : m + 1 + k = n := by have := HJ.out; omega
        have hkm : k < m := by omega
        obtain ⟨x, hx⟩ : ∃ x, xs[k]? = some x := ⟨_, List.getElem?_eq_getElem (by rw [HL.out]; omega)⟩
        obtain ⟨y, hy⟩ : ∃ y, xs[m]? = some y := ⟨_, List.getElem?_eq_getElem (by rw [HL.out]; omega)⟩
        have hkx : (rvK xs k)[k]? = some x := by rw [rvK_get xs k k (by rw [HL.out]; omega), if_neg (by rw [HL.out]; omega)]; simp [List.getD, hx]
        have hmy : (rvK xs k)[m]? = some y := by rw [rvK_get xs k m (by rw [HL.out]; omega), if_neg (by rw [HL.out]; omega)]; simp [List.getD, hy]
        have HN : Hid (Owns ((wr.drew.setCell ⟨g, k, none⟩ (.int .i64 y)).setCell ⟨g, m, none⟩ (.int .i64 x)) base (.slice (some ⟨g, 0, none⟩) n c) n (rvK xs (k + 1)) ∧ w.grownBy ((wr.drew.setCell ⟨g, k, none⟩ (.int .i64 y)).setCell ⟨g, m, none⟩ (.int .i64 x)) (some g)) := by
          have h9 := own_swap (w := wr.drew) (k := k) (m := m) (x := x) (y := y) (HW.out.1.grown (grown_drew _ _))
          rw [rvK_step xs k m x y (by rw [HL.out]; exact hmk) hkm hx hy] at h9
          exact ⟨h9.1, grown_trans HW.out.2 (grown_trans (grown_drew _ _) h9.2)⟩
        obtain ⟨q1, q2⟩ := own_cell HW.out.1 (show k < n by omega) hkx
        obtain ⟨q3, q4⟩ := own_cell HW.out.1 (show m < n by omega) hmy
        have hkn : k < n := by omega
        have hmn : m < n := by omega
        have HMK := Lib.hid hmk
        clear hx hy hkx hmy hmk HJ HW hlt
        have hltz : (k : Int) < (m : Int) := by omega
        go_wp2_with fail
        first | go_region | fail
        all_goals
          clear q1 q2 q3 q4
          go_wp2
          go_roundw
          case rel => exact ⟨k + 1, (m : Int) - 1, by go_num, rfl, by omega, by show _ = _; have := HMK.out; omega, HN⟩
          case measure => simp [intOf]; omega
      · have HF : Hid (Owns wr base (.slice (some ⟨g, 0, none⟩) n c) n xs.reverse ∧ w.grownBy wr (some g)) := by
          have h9 := HW.out
          rw [rvK_full xs k (by have := HJ.out; rw [HL.out]; omega)] at h9
          exact h9
        clear HJ HW
        go_wp2
        go_end0
        exact ⟨rfl, HF.out⟩

set_option maxRecDepth 100000 in
set_option maxHeartbeats 4000000 in
theorem iRv_any (xss : List (List Int)) (ao : Option Addr) (len cap : Nat) (r d : Int) (w : World) (rr dd : Int) (yss : List (List Int)) (ok : Bool) (hx : Mat w ao len xss) (hs : szL xss ≤ 1048576) (hv : RvR r d xss rr dd yss ok) :
    Calls Try.prog 28 #[.agg #[.int .i64 r, .int .i64 d, .slice ao len cap]] w (MadeA yss rr dd w) := by
  have hm0 : Mem w ((w.alloc (.cells #[.int .i64 r, .int .i64 d, .slice ao len cap] 25)).alloc (.cells #[.int .i64 0, .int .i64 0, .slice none 0 0] 25)) [(w.heap.size, .cells #[.int .i64 r, .int .i64 d, .slice ao len cap] 25), (w.heap.size + 1, .cells #[.int .i64 0, .int .i64 0, .slice none 0 0] 25)] := by have := (((Mem.start w).block (.cells #[.int .i64 r, .int .i64 d, .slice ao len cap] 25)).block (.cells #[.int .i64 0, .int .i64 0, .slice none 0 0] 25)); simpa using this
  have HM0 := Lib.hid hm0
  clear hm0
  have k1 := iVAu_any xss ao len cap r d ((w.alloc (.cells #[.int .i64 r, .int .i64 d, .slice ao len cap] 25)).alloc (.cells #[.int .i64 0, .int .i64 0, .slice none 0 0] 25)) _ (hx.grown HM0.out.g) hs rfl
  cases hva : vAu r d xss with
  | false =>
    rw [hva] at k1
    obtain ⟨rfl, rfl, rfl, rfl⟩ := hv.no (fun h => by rw [h] at hva; cases hva)
    clear hx hs hva hv
    obtain ⟨q00, q01, q02⟩ := three_cells (HM0.out.get (b := w.heap.size) (o := .cells #[.int .i64 r, .int .i64 d, .slice ao len cap] 25) (by simp))
    go_enter Try.func28, Try.ntmps28
    go_wp2_with fail
    refine k1.mono ?_
    rintro e w1 ⟨rfl, hg⟩
    have HM1 := Lib.hid (HM0.out.grown hg)
    clear k1 hg q00 q01 q02
    obtain ⟨z0, z1, z2⟩ := three_cells (HM1.out.get (b := w.heap.size + 1) (o := .cells #[.int .i64 0, .int .i64 0, .slice none 0 0] 25) (by simp))
    have f0 := frozen_of_row w1 _ 0 _ _ (HM1.out.get (b := w.heap.size + 1) (o := .cells #[.int .i64 0, .int .i64 0, .slice none 0 0] 25) (by simp))
    have f1 := frozen_of_row w1 _ 1 _ _ (HM1.out.get (b := w.heap.size + 1) (o := .cells #[.int .i64 0, .int .i64 0, .slice none 0 0] 25) (by simp))
    have f2 := frozen_of_row w1 _ 2 _ _ (HM1.out.get (b := w.heap.size + 1) (o := .cells #[.int .i64 0, .int .i64 0, .slice none 0 0] 25) (by simp))
    go_wp2
    refine bodyPost_ret (v := .agg #[.int .i64 0, .int .i64 0, .slice none 0 0]) (by simp [results, Try.results28, go_sem, z0, z1, z2]) rfl ⟨_, rfl, ?_⟩
    exact own_res (mown_nil _ _) HM1.out.g (by omega)
  | true =>
  rw [hva] at k1
  obtain ⟨u, H, hV⟩ := va_of hva
  have hlen : len ≤ 2 := by have := hV.ch.2; rw [hx.1] at this; exact this
  have hlen1 : 1 ≤ len := by have := hV.ch.1; rw [hx.1] at this; exact this
  have hH : H ≤ 256 := hV.hh
  obtain ⟨rfl, rfl, rfl, rfl⟩ := hv.yes hva
  have kE := fun W (hgW : w.grownBy W none) => iEdRv_any xss xss ao len cap r d W (hx.grown hgW) hlen hlen1 hx.1 (fun k zs hz => by rw [(hV.row k zs hz).1]; omega) (fun k xs zs a c W2 hxk hzk hrow hg2 => by
    rw [hxk] at hzk
    injection hzk with hzk
    subst hzk
    exact iRvCl xs k a xs.length c W2 (hrow.grown hg2))
  have HL := Lib.hid hx.1
  have HV := Lib.hid hV
  clear hs hva hv hV hx
  obtain ⟨q00, q01, q02⟩ := three_cells (HM0.out.get (b := w.heap.size) (o := .cells #[.int .i64 r, .int .i64 d, .slice ao len cap] 25) (by simp))
  go_enter Try.func28, Try.ntmps28
  go_wp2_with fail
  refine k1.mono ?_
  rintro e w1 ⟨rfl, hg⟩
  have HM1 := Lib.hid (HM0.out.grown hg)
  clear k1 hg q00 q01 q02
  obtain ⟨q00, q01, q02⟩ := three_cells (HM1.out.get (b := w.heap.size) (o := .cells #[.int .i64 r, .int .i64 d, .slice ao len cap] 25) (by simp))
  go_wp2_with fail
  refine (kE _ HM1.out.g).mono ?_
  rintro e w2 ⟨v2, rfl, ho2, hg2⟩
  have hln : xss.length = len := HL.out
  rw [hln] at ho2
  obtain ⟨M, cM, rfl, _⟩ := ho2.form hlen1
  have hZ := block_lt (HM1.out.get (b := w.heap.size + 1) (o := .cells #[.int .i64 0, .int .i64 0, .slice none 0 0] 25) (by simp))
  have HM2 := Lib.hid (HM1.out.grown hg2)
  have HW0 : Hid (MWin (w2.alloc (.cells #[.int .i64 r, .int .i64 d, .slice (some ⟨M, 0, none⟩) len cM] 25)) w1.heap.size w2.heap.size (.slice (some ⟨M, 0, none⟩) len cM) len (mixM List.reverse xss 0)) := by
    show MWin _ _ _ _ _ _
    rw [mixM_zero]; exact ho2.win.grown (grown_alloc _ _ _)
  have HM3 := Lib.hid (HM2.out.block (.cells #[.int .i64 r, .int .i64 d, .slice (some ⟨M, 0, none⟩) len cM] 25))
  clear kE ho2 hg2 hln q00 q01 q02
  have HX0 : Hid (Stp w1.heap.size w2.heap.size (w2.alloc (.cells #[.int .i64 r, .int .i64 d, .slice (some ⟨M, 0, none⟩) len cM] 25)) (w2.alloc (.cells #[.int .i64 r, .int .i64 d, .slice (some ⟨M, 0, none⟩) len cM] 25))) := Stp.refl
  obtain ⟨q00, q01, q02⟩ := three_cells (HM3.out.get (b := w2.heap.size) (o := .cells #[.int .i64 r, .int .i64 d, .slice (some ⟨M, 0, none⟩) len cM] 25) (by simp))
  go_wp2
  go_loopw [15] (fun iv wr => ∃ (k : Nat), k ≤ len ∧ iv = .int .i64 k ∧ Hid (MWin wr w1.heap.size w2.heap.size (.slice (some ⟨M, 0, none⟩) len cM) len (mixM List.reverse xss k)) ∧ Hid (Stp w1.heap.size w2.heap.size (w2.alloc (.cells #[.int .i64 r, .int .i64 d, .slice (some ⟨M, 0, none⟩) len cM] 25)) wr)) (fun iv _ => len - (intOf iv).toNat)
  case atStart => exact ⟨0, Nat.zero_le _, rfl, HW0, HX0⟩
  case round =>
    clear HW0 HX0 q00 q01 q02
    obtain ⟨k, hk, rfl, HW, HX⟩ := hrel
    by_cases hlt : k < len
    · obtain ⟨xs, hxk⟩ : ∃ xs, xss[k]? = some xs := ⟨_, List.getElem?_eq_getElem (by rw [HL.out]; exact hlt)⟩
      obtain ⟨M', c', u', e9, hcu, hou, hub, hset⟩ := HW.out.row (mixM_get (f := List.reverse) hxk)
      injection e9 with e1 _ e3
      injection e1 with e1
      injection e1 with e1 _ _
      subst e1 e3
      have kR := iRevS_any xs u' xs.length _ wr hou (by rw [(HV.out.row k xs hxk).1]; omega)
      have HS := Lib.hid hset
      have HB := Lib.hid hub
      have HR2 := Lib.hid (mixM_set (f := List.reverse) hxk)
      obtain ⟨a9, c9, rfl, _⟩ := hou.reads
      clear hset hub hou hxk
      go_wp2_with fail
      refine kR.mono ?_
      rintro e w4 ⟨rfl, ho4, hg4⟩
      have HW4 : Hid (MWin w4 w1.heap.size w2.heap.size (.slice (some ⟨M, 0, none⟩) len cM) len (mixM List.reverse xss (k + 1))) := by
        have := HS.out w4 _ ho4 hg4
        rwa [HR2.out] at this
      have HX4 := Lib.hid (HX.out.step hg4 HB.out)
      clear kR ho4 hg4 hcu HW HX HS HB
      go_wp2
      go_roundw
      case rel => exact ⟨k + 1, by omega, by go_num, HW4, HX4⟩
      case measure => simp [intOf]; omega
    · obtain rfl : k = len := by omega
      have hF := HW.out.own
      rw [mixM_full (by rw [HL.out]; exact Nat.le_refl _)] at hF
      have HF := Lib.hid hF
      have HM4 := Lib.hid (HM3.out.stp HX.out (by omega) (by have := hZ; intro q hq; simp at hq; rcases hq with rfl | rfl | rfl <;> simp <;> omega))
      clear HW HX hF
      obtain ⟨q00, q01, q02⟩ := three_cells (HM4.out.get (b := w2.heap.size) (o := .cells #[.int .i64 r, .int .i64 d, .slice (some ⟨M, 0, none⟩) k cM] 25) (by simp))
      obtain ⟨z0, z1, z2⟩ := three_cells (HM4.out.get (b := w.heap.size + 1) (o := .cells #[.int .i64 0, .int .i64 0, .slice none 0 0] 25) (by simp))
      have f0 := frozen_of_row _ _ 0 _ _ (HM4.out.get (b := w.heap.size + 1) (o := .cells #[.int .i64 0, .int .i64 0, .slice none 0 0] 25) (by simp))
      have f1 := frozen_of_row _ _ 1 _ _ (HM4.out.get (b := w.heap.size + 1) (o := .cells #[.int .i64 0, .int .i64 0, .slice none 0 0] 25) (by simp))
      have f2 := frozen_of_row _ _ 2 _ _ (HM4.out.get (b := w.heap.size + 1) (o := .cells #[.int .i64 0, .int .i64 0, .slice none 0 0] 25) (by simp))
      go_wp2
      refine bodyPost_ret (v := .agg #[.int .i64 r, .int .i64 d, .slice (some ⟨M, 0, none⟩) k cM]) (by simp [results, Try.results28, go_sem, z0, z1, z2]) rfl ⟨_, rfl, ?_⟩
      rw [List.length_map, HL.out]
      exact own_res (HF.out.base_le hZ) HM4.out.g (by omega)

end Go.Proofs.Ytncbgofcimghnaa
