/-
  Loudness: the specification's text. For all channels that can be read.
-/
import Derived.Test.YthjelbanelmekaaVAuI
import Derived.Test.YthjelbanelmekaaLoM
namespace Go.Proofs.Ythjelbanelmekaa
open Go.RowKit

set_option maxHeartbeats 2000000 in
theorem sEn_any (ys : List Int) (n : Nat) (z : Int) (ao : Option Addr) (cap : Nat) (w : World) (hx : Ints w ao n ys) (hv : ∀ x ∈ ys, -32768 ≤ x ∧ x ≤ 32768) (hn : n ≤ 256) (hz : sq ys n = z) :
    Calls Try.prog 71 #[.slice ao n cap] w fun e w' => e = .returned (.int .i64 z) ∧ w.grownBy w' none := by
  subst hz
  have hxl := hx.1
  have HX := Lib.hid hx
  have HV := Lib.hid hv
  clear hx hv
  go_enter Try.func71, Try.ntmps71
  go_wp2
  go_loopw [3, 4] (fun sv iv wr => ∃ (k q : Nat) (s : Int), sv = .int .i64 s ∧ iv = .int .i64 k ∧ k ≤ n ∧ wr = w.drewN q ∧ Hid (sq ys k = s)) (fun _ iv _ => 300 - (intOf iv).toNat)
  case atStart => exact ⟨0, 0, 0, rfl, rfl, Nat.zero_le _, rfl, rfl⟩
  case round =>
    obtain ⟨k, q, s, rfl, rfl, hk, rfl, hs⟩ := hrel
    by_cases hlt : k < n
    · obtain ⟨y, hyk⟩ : ∃ y, ys[k]? = some y := ⟨_, List.getElem?_eq_getElem (by omega)⟩
      obtain ⟨b, off, hab, hc⟩ := HX.out.2.resolve_left (by intro e; subst e; simp at hyk)
      have hcy := hc _ _ hyk
      have hyr := HV.out y (List.mem_of_getElem? hyk)
      have hpr := sqr_range hyr.1 hyr.2
      have hp0 := hpr.1
      have hp1 := hpr.2
      have hsr := sq_range HV.out k (by omega)
      rw [hs.out] at hsr
      have hs0 : 0 ≤ s := hsr.1
      have hs1 : s ≤ 274877906944 := hsr.2
      have HS : Hid (sq ys (k + 1) = s + y * y) := by show _ = _; simp only [sq]; rw [hs.out, getD_is hyk]
      subst hab
      clear hc hyk hyr hpr hsr
      obtain ⟨p, hp⟩ : ∃ p, y * y = p := ⟨_, rfl⟩
      rw [hp] at hp0 hp1 HS
      have hw1 : wrap64 (y * y) = p := by rw [hp]; unfold wrap64; omega
      have hw2 : wrap64 (s + p) = s + p := by unfold wrap64; omega
      have HWW := Lib.hid (And.intro hw1 hw2)
      clear hp
      go_wp2
      go_quiet (fail)
      go_wp2
      go_roundw
      case rel => exact ⟨k + 1, q + nq, s + p, by first | rfl | (rw [HWW.out.1, HWW.out.2]), by go_num, by omega, rfl, HS⟩
      case measure => simp [intOf]; omega
    · obtain rfl : k = n := by omega
      have HF : Hid (sq ys k = s) := hs
      go_wp2
      go_ret
      exact ⟨ret_int HF.out.symm, grown_drewN _ _ _⟩

set_option maxHeartbeats 2000000 in
theorem sLou_any (xs : List Int) (n win : Nat) (z : Int) (ao : Option Addr) (cap : Nat) (w : World) (hx : Ints w ao n xs) (hv : ∀ x ∈ xs, -32768 ≤ x ∧ x ≤ 32768) (hn : n ≤ 256) (hcap : n ≤ cap) (hw0 : 1 ≤ win) (hw1 : win ≤ 256) (hz : louL win xs / (win : Int) = z) :
    Calls Try.prog 48 #[.slice ao n cap, .int .i64 (win : Int)] w fun e w' => e = .returned (.int .i64 z) ∧ w.grownBy w' none := by
  have hxl := hx.1
  have HZ : Hid (mxD xs win (n + 1 - win) = z) := by show _ = _; rw [mxD_eq xs (by omega), ← hz]; unfold louL; rw [hxl]
  have HX := Lib.hid hx
  have HV := Lib.hid hv
  clear hx hv hz
  go_enter Try.func48, Try.ntmps48
  go_wp2
  go_loopw [5, 6] (fun mv iv wr => ∃ (k : Nat) (m : Int), mv = .int .i64 m ∧ iv = .int .i64 k ∧ k ≤ n + 1 - win ∧ 0 ≤ m ∧ m ≤ 274877906944 ∧ Hid (w.grownBy wr none ∧ mxD xs win k = m)) (fun _ iv _ => 300 - (intOf iv).toNat)
  case atStart => exact ⟨0, 0, rfl, rfl, Nat.zero_le _, by omega, by omega, grown_refl _ _, rfl⟩
  case round =>
    obtain ⟨k, m, rfl, rfl, hk, hm0, hm1, HW⟩ := hrel
    by_cases hlt : k + win ≤ n
    · obtain ⟨b, off, hab, _⟩ := HX.out.2.resolve_left (by intro e; have := HX.out.1; rw [e] at this; simp at this; omega)
      subst hab
      have hi := (ints_sub HX.out k win hlt).grown HW.out.1
      have hsq : sq ((xs.drop k).take win) win = sq xs (k + win) - sq xs k := by rw [sq_take _ _ _ (Nat.le_refl _), sq_drop]
      have hcall := sEn_any _ win _ _ (cap - k) wr hi (fun x hx => HV.out x (List.mem_of_mem_drop (List.mem_of_mem_take hx))) (by omega) hsq
      have HS : Hid (mxD xs win (k + 1) = max m ((sq xs (k + win) - sq xs k) / (win : Int))) := by show _ = _; rw [← HW.out.2]; rfl
      have e1 := sq_range HV.out (k + win) (by omega)
      have e2 := sq_range HV.out k (by omega)
      have e3 := sq_le (xs := xs) (show k ≤ k + win by omega)
      have e4 : 0 ≤ sq xs (k + win) - sq xs k := by omega
      have e5 : sq xs (k + win) - sq xs k ≤ 274877906944 := by omega
      generalize sq xs (k + win) - sq xs k = p at *
      have e6 : p.tdiv (win : Int) = p / (win : Int) := Int.tdiv_eq_ediv_of_nonneg e4
      have e7 : 0 ≤ p / (win : Int) := Int.ediv_nonneg e4 (by omega)
      have e8 : p / (win : Int) ≤ 274877906944 := Int.le_trans (Int.ediv_le_self _ e4) e5
      obtain ⟨y, hy⟩ : ∃ y, p / (win : Int) = y := ⟨_, rfl⟩
      rw [hy] at e7 e8 HS
      rw [hy] at e6
      have hwz : ((win : Int) == 0) = false := by simp; omega
      have hlc : k + win ≤ cap := by omega
      have hkc : k < cap := by omega
      clear hi hsq e1 e2 e3 hy
      by_cases hmy : m < y
      · have hd : decide (m < y) = true := by simpa using hmy
        have HT : Hid (mxD xs win (k + 1) = y) := by show _ = _; rw [HS.out]; omega
        clear HS
        go_wp2_with fail
        refine hcall.mono ?_
        rintro e w2 ⟨rfl, hg2⟩
        have HW2 : Hid (w.grownBy w2 none ∧ mxD xs win (k + 1) = y) := ⟨grown_trans HW.out.1 hg2, HT.out⟩
        clear hcall hg2 HW HT
        go_wp2
        go_roundw
        case rel => exact ⟨k + 1, y, by first | rfl | (rw [e6]), by go_num, by omega, by omega, by omega, HW2⟩
        case measure => simp [intOf]; omega
      · have hd : decide (m < y) = false := by simpa using hmy
        have HT : Hid (mxD xs win (k + 1) = m) := by show _ = _; rw [HS.out]; omega
        clear HS
        go_wp2_with fail
        refine hcall.mono ?_
        rintro e w2 ⟨rfl, hg2⟩
        have HW2 : Hid (w.grownBy w2 none ∧ mxD xs win (k + 1) = m) := ⟨grown_trans HW.out.1 hg2, HT.out⟩
        clear hcall hg2 HW HT
        go_wp2
        go_roundw
        case rel => exact ⟨k + 1, m, by first | rfl | (rw [e6]), by go_num, by omega, by omega, by omega, HW2⟩
        case measure => simp [intOf]; omega
    · obtain rfl : k = n + 1 - win := by omega
      have HF : Hid (z = m ∧ w.grownBy wr none) := ⟨by rw [← HZ.out, HW.out.2], HW.out.1⟩
      go_wp2
      go_ret
      exact ⟨ret_int HF.out.1.symm, HF.out.2⟩

set_option maxRecDepth 100000 in
set_option maxHeartbeats 2000000 in
theorem sLo_any (xss : List (List Int)) (ao : Option Addr) (len cap : Nat) (r d win : Int) (w : World) (z : Int) (hx : Mat w ao len xss) (hs : szL xss ≤ 1048576) (hv : louV r d xss win = z) :
    Calls Try.prog 21 #[.agg #[.int .i64 r, .int .i64 d, .slice ao len cap], .int .i64 win] w fun e w' => e = .returned (.int .i64 z) ∧ w.grownBy w' none := by
  subst hv
  have k1 := svAu_any xss ao len cap r d (w.alloc (.cells #[.int .i64 r, .int .i64 d, .slice ao len cap] 25)) _ (hx.grown (grown_alloc _ _ _)) hs rfl
  cases hva : vAu r d xss with
  | false =>
    rw [hva] at k1
    rw [louV_no (by rw [hva]; simp)]
    clear hx hs hva
    go_enter Try.func21, Try.ntmps21
    go_wp2_with fail
    refine k1.mono ?_
    rintro e w1 ⟨rfl, hg⟩
    have HG := Lib.hid (grown_trans (grown_alloc w (.cells #[.int .i64 r, .int .i64 d, .slice ao len cap] 25) none) hg)
    clear k1 hg
    go_wp2
    go_ret
    exact ⟨rfl, HG.out⟩
  | true =>
  rw [hva] at k1
  have k2 := fun W => inRange_any win 1 256 _ W rfl
  by_cases hwin : ¬ (1 ≤ win ∧ win ≤ 256)
  · rw [louV_no (by intro h; exact hwin ⟨h.2.1, h.2.2⟩)]
    have hB : inB win 1 256 = false := inB_false hwin
    rw [hB] at k2
    clear hx hs hva hwin hB
    go_enter Try.func21, Try.ntmps21
    go_wp2_with fail
    refine k1.mono ?_
    rintro e w1 ⟨rfl, hg⟩
    have HG := Lib.hid (grown_trans (grown_alloc w (.cells #[.int .i64 r, .int .i64 d, .slice ao len cap] 25) none) hg)
    clear k1 hg
    go_wp2_with fail
    refine (k2 _).mono ?_
    rintro e w2 ⟨rfl, rfl⟩
    go_wp2
    go_ret
    exact ⟨rfl, HG.out⟩
  have hwin := Classical.not_not.1 hwin
  have hB : inB win 1 256 = true := inB_true hwin.1 hwin.2
  rw [hB] at k2
  obtain ⟨wn, rfl⟩ := Int.eq_ofNat_of_zero_le (show 0 ≤ win by omega)
  have hw0 : 1 ≤ wn := by omega
  have hw1 : wn ≤ 256 := by omega
  rw [louV_yes hva hw0 hw1]
  obtain ⟨u, H, hV⟩ := va_of hva
  have HX := Lib.hid hx
  have HL := Lib.hid hx.1
  have hlen : len ≤ 2 := by have := hV.ch.2; rw [hx.1] at this; exact this
  have HXS : Hid (∀ (k : Nat) (xs : List Int), xss[k]? = some xs → xs.length ≤ 256 ∧ ∀ x ∈ xs, -32768 ≤ x ∧ x ≤ 32768) := va_rows hV
  clear hx hs hva hV hB hwin
  go_enter Try.func21, Try.ntmps21
  go_wp2_with fail
  refine k1.mono ?_
  rintro e w1 ⟨rfl, hg⟩
  have HG := Lib.hid (grown_trans (grown_alloc w (.cells #[.int .i64 r, .int .i64 d, .slice ao len cap] 25) none) hg)
  have HA := Lib.hid (grown_heap hg (heap_alloc_new w (.cells #[.int .i64 r, .int .i64 d, .slice ao len cap] 25)) (by simp))
  clear k1 hg
  go_wp2_with fail
  refine (k2 _).mono ?_
  rintro e w2 ⟨rfl, rfl⟩
  clear k2
  go_wp2
  go_loopw [5, 6] (fun mv iv wr => ∃ (k : Nat) (m : Int), k ≤ len ∧ iv = .int .i64 k ∧ mv = .int .i64 m ∧ 0 ≤ m ∧ m ≤ 274877906944 ∧ Hid (w1.grownBy wr none ∧ louS wn 0 (xss.take k) = m)) (fun _ iv _ => len - (intOf iv).toNat)
  case atStart => exact ⟨0, 0, Nat.zero_le _, rfl, rfl, by omega, by omega, grown_refl _ _, rfl⟩
  case round =>
    obtain ⟨k, m, hk, rfl, rfl, hm0, hm1, HW⟩ := hrel
    obtain ⟨q0, q1, q2⟩ := three_cells (grown_heap HW.out.1 HA.out (by simp))
    by_cases hlt : k < len
    · obtain ⟨xs, hxk⟩ : ∃ xs, xss[k]? = some xs := ⟨_, List.getElem?_eq_getElem (by rw [HL.out]; exact hlt)⟩
      obtain ⟨b, off, rfl, hc⟩ := HX.out.2.resolve_left (by intro e; subst e; simp at hxk)
      obtain ⟨ux, hux, a, c, rfl, hin, hlc, hcm, _⟩ := hc k xs hxk
      have hcx : wr.cell? ⟨b, off + k, none⟩ = some (.slice a xs.length c) := (grown_trans HG.out HW.out.1).cell hux (by simp)
      have hrow := HXS.out k xs hxk
      have hcall := sLou_any xs xs.length wn _ a c wr (hin.grown (grown_trans HG.out HW.out.1)) hrow.2 hrow.1 hlc hw0 hw1 rfl
      have hy : 0 ≤ louL wn xs / (wn : Int) ∧ louL wn xs / (wn : Int) ≤ 274877906944 := lou_range hrow.2 hrow.1 hw0 hw1
      have HS : Hid (louS wn 0 (xss.take (k + 1)) = max m (louL wn xs / (wn : Int))) := by show _ = _; rw [louS_take hxk, HW.out.2]
      generalize louL wn xs / (wn : Int) = y at *
      have hy0 := hy.1
      have hy1 := hy.2
      generalize xs.length = nx at *
      clear hc hux hin hlc hcm hxk hrow hy
      by_cases hmy : m < y
      · have hd : decide (m < y) = true := by simpa using hmy
        have HT : Hid (louS wn 0 (xss.take (k + 1)) = y) := by show _ = _; rw [HS.out]; omega
        clear HS
        go_wp2_with fail
        refine hcall.mono ?_
        rintro e w2 ⟨rfl, hg2⟩
        have HW2 : Hid (w1.grownBy w2 none ∧ louS wn 0 (xss.take (k + 1)) = y) := ⟨grown_trans HW.out.1 hg2, HT.out⟩
        clear hcall hg2 HW HT q0 q1 q2
        go_wp2
        go_roundw
        case rel => exact ⟨k + 1, y, by omega, by go_num, rfl, hy0, hy1, HW2⟩
        case measure => simp [intOf]; omega
      · have hd : decide (m < y) = false := by simpa using hmy
        have HT : Hid (louS wn 0 (xss.take (k + 1)) = m) := by show _ = _; rw [HS.out]; omega
        clear HS
        go_wp2_with fail
        refine hcall.mono ?_
        rintro e w2 ⟨rfl, hg2⟩
        have HW2 : Hid (w1.grownBy w2 none ∧ louS wn 0 (xss.take (k + 1)) = m) := ⟨grown_trans HW.out.1 hg2, HT.out⟩
        clear hcall hg2 HW HT q0 q1 q2
        go_wp2
        go_roundw
        case rel => exact ⟨k + 1, m, by omega, by go_num, rfl, hm0, hm1, HW2⟩
        case measure => simp [intOf]; omega
    · obtain rfl : k = len := by omega
      have HF : Hid (louS wn 0 xss = m ∧ w.grownBy wr none) := ⟨by rw [← HW.out.2, List.take_of_length_le (by rw [HL.out]; exact Nat.le_refl _)], grown_trans HG.out HW.out.1⟩
      go_wp2
      go_ret
      exact ⟨ret_int HF.out.1.symm, HF.out.2⟩

end Go.Proofs.Ythjelbanelmekaa
