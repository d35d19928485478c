/-
  Loudness: the program's text. For all channels that can be read.
-/
import Derived.Test.YthjelbanelmekaaPkI
import Derived.Test.YthjelbanelmekaaLoM
import Derived.Deep.RegionHeld3
namespace Go.Proofs.Ythjelbanelmekaa
open Go.RowKit

theorem iSqr_any (x p : Int) (w : World) (hp : x * x = p) (h0 : 0 ≤ p) (h1 : p ≤ 17592177655809) :
    Calls Try.prog 70 #[.int .i64 x] w fun e w' => e = .returned (.int .i64 p) ∧ w = w' := by
  subst hp
  go_enter Try.func70, Try.ntmps70
  go_wp2
  go_ret
  exact ⟨rfl, rfl⟩

/-- The sum of the squares of the last window behind k numbers. -/
def lastW (xs : List Int) (w k : Nat) : Int := sq xs k - sq xs (k - w)

set_option maxHeartbeats 2000000 in
theorem iLou_any (xs : List Int) (n win : Nat) (z : Int) (ao : Option Addr) (cap : Nat) (w : World) (hx : Ints w ao n xs) (hv : ∀ x ∈ xs, -32768 ≤ x ∧ x ≤ 32768) (hn : n ≤ 256) (hw0 : 1 ≤ win) (hw1 : win ≤ 256) (hz : louL win xs = z) :
    Calls Try.prog 46 #[.slice ao n cap, .int .i64 (win : Int)] w fun e w' => e = .returned (.int .i64 z) ∧ w = w' := by
  have hxl := hx.1
  have HZ : Hid (mxW xs win (n + 1 - win) = z) := by show _ = _; rw [← hz]; unfold louL; rw [hxl]
  have HX := Lib.hid hx
  have HV := Lib.hid hv
  clear hx hv hz
  go_enter Try.func46, Try.ntmps46
  go_wp2
  go_loop [5, 6, 11] (fun sv mv iv => ∃ (k : Nat) (s m : Int), sv = .int .i64 s ∧ mv = .int .i64 m ∧ iv = .int .i64 k ∧ k ≤ n ∧ 0 ≤ s ∧ s ≤ 274877906944 ∧ 0 ≤ m ∧ m ≤ 274877906944 ∧ Hid (lastW xs win k = s ∧ mxW xs win (k + 1 - win) = m)) (fun _ _ iv => 300 - (intOf iv).toNat)
  case atStart => exact ⟨0, 0, 0, rfl, rfl, rfl, Nat.zero_le _, by omega, by omega, by omega, by omega, by simp [lastW], by rw [show 0 + 1 - win = 0 by omega]; rfl⟩
  case round =>
    obtain ⟨k, s, m, rfl, rfl, rfl, hk, hs0, hs1, hm0, hm1, HS⟩ := hrel
    by_cases hlt : k < n
    · obtain ⟨x, hxk⟩ : ∃ x, xs[k]? = some x := ⟨_, List.getElem?_eq_getElem (by omega)⟩
      obtain ⟨b, off, hab, hc⟩ := HX.out.2.resolve_left (by intro e; subst e; simp at hxk)
      subst hab
      have hcx := hc _ _ hxk
      have hxr := HV.out x (List.mem_of_getElem? hxk)
      have hpr := sqr_range hxr.1 hxr.2
      have hp0 := hpr.1
      have hp1 := hpr.2
      have e1 : sq xs (k + 1) = sq xs k + x * x := by simp only [sq]; rw [getD_is hxk]
      obtain ⟨p, hp⟩ : ∃ p, x * x = p := ⟨_, rfl⟩
      have kp := fun W => iSqr_any x p W hp (by omega) (by omega)
      rw [hp] at hp0 hp1 e1
      have r1 := sq_range HV.out (k + 1) (by omega)
      have r0 := sq_range HV.out k (by omega)
      have hL := HS.out.1
      have hM := HS.out.2
      by_cases hA : k < win
      · have e2 : lastW xs win k = sq xs k := by unfold lastW; rw [show k - win = 0 by omega]; simp [sq]
        have e3 : lastW xs win (k + 1) = s + p := by unfold lastW; rw [show k + 1 - win = 0 by omega, e1, ← hL, e2]; simp [sq]
        have hsp0 : 0 ≤ s + p := by rw [← hL, e2, ← e1]; exact r1.1
        have hsp1 : s + p ≤ 274877906944 := by rw [← hL, e2, ← e1]; exact r1.2
        have d1 : decide ((win : Int) ≤ k) = false := by simp; omega
        by_cases hB : k + 1 < win
        · have d2 : decide ((win : Int) - 1 ≤ k) = false := by simp; omega
          have HT : Hid (lastW xs win (k + 1) = s + p ∧ mxW xs win (k + 1 + 1 - win) = m) := ⟨e3, by rw [show k + 1 + 1 - win = k + 1 - win by omega]; exact hM⟩
          clear e1 e2 e3 r0 r1 hL hM hp hpr hxr hc hxk HS
          go_wp2_with fail
          refine (kp _).mono ?_
          rintro e w2 ⟨rfl, rfl⟩
          clear kp
          go_wp2
          go_round
          case rel => exact ⟨k + 1, s + p, m, rfl, rfl, by go_num, by omega, hsp0, hsp1, hm0, hm1, HT⟩
          case measure => simp [intOf]; omega
        · have d2 : decide ((win : Int) - 1 ≤ k) = true := by simp; omega
          have e4 : mxW xs win (k + 1 + 1 - win) = max m (s + p) := by
            rw [show k + 1 + 1 - win = (k + 1 - win) + 1 by omega]
            show max (mxW xs win (k + 1 - win)) (sq xs (k + 1 - win + win) - sq xs (k + 1 - win)) = _
            rw [hM, ← e3, show k + 1 - win + win = k + 1 by omega]; rfl
          by_cases hmy : m < (s + p)
          · have hd : decide (m < (s + p)) = true := by simpa using hmy
            have HT : Hid (lastW xs win (k + 1) = (s + p) ∧ mxW xs win (k + 1 + 1 - win) = (s + p)) := ⟨e3, by rw [e4]; omega⟩
            clear e1 e2 e3 e4 r0 r1 hL hM hp hpr hxr hc hxk HS
            go_wp2_with fail
            refine (kp _).mono ?_
            rintro e w2 ⟨rfl, rfl⟩
            clear kp
            go_wp2
            go_round
            case rel => exact ⟨k + 1, (s + p), (s + p), rfl, rfl, by go_num, by omega, hsp0, hsp1, hsp0, hsp1, HT⟩
            case measure => simp [intOf]; omega
          · have hd : decide (m < (s + p)) = false := by simpa using hmy
            have HT : Hid (lastW xs win (k + 1) = (s + p) ∧ mxW xs win (k + 1 + 1 - win) = m) := ⟨e3, by rw [e4]; omega⟩
            clear e1 e2 e3 e4 r0 r1 hL hM hp hpr hxr hc hxk HS
            go_wp2_with fail
            refine (kp _).mono ?_
            rintro e w2 ⟨rfl, rfl⟩
            clear kp
            go_wp2
            go_round
            case rel => exact ⟨k + 1, (s + p), m, rfl, rfl, by go_num, by omega, hsp0, hsp1, hm0, hm1, HT⟩
            case measure => simp [intOf]; omega
      · have d1 : decide ((win : Int) ≤ k) = true := by simp; omega
        have d2 : decide ((win : Int) - 1 ≤ k) = true := by simp; omega
        obtain ⟨j, hj⟩ : ∃ j : Nat, k = j + win := ⟨k - win, by omega⟩
        obtain ⟨y, hyk⟩ : ∃ y, xs[j]? = some y := ⟨_, List.getElem?_eq_getElem (by omega)⟩
        have hcy := hc _ _ hyk
        have hyr := HV.out y (List.mem_of_getElem? hyk)
        have hqr := sqr_range hyr.1 hyr.2
        have hq0 := hqr.1
        have hq1 := hqr.2
        have f1 : sq xs (j + 1) = sq xs j + y * y := by simp only [sq]; rw [getD_is hyk]
        obtain ⟨q, hq⟩ : ∃ q, y * y = q := ⟨_, rfl⟩
        have kq := fun W => iSqr_any y q W hq (by omega) (by omega)
        rw [hq] at hq0 hq1 f1
        have e2 : lastW xs win k = sq xs k - sq xs j := by unfold lastW; rw [show k - win = j by omega]
        have e3 : lastW xs win (k + 1) = s + p - q := by unfold lastW; rw [show k + 1 - win = j + 1 by omega, e1, f1, ← hL, e2]; omega
        have rj := sq_range HV.out (j + 1) (by omega)
        have rm := sq_le (xs := xs) (show j + 1 ≤ k + 1 by omega)
        have rj0 := sq_range HV.out j (by omega)
        have hsp0 : 0 ≤ s + p - q := by rw [← e3]; unfold lastW; rw [show k + 1 - win = j + 1 by omega]; omega
        have hsp1 : s + p - q ≤ 274877906944 := by rw [← e3]; unfold lastW; rw [show k + 1 - win = j + 1 by omega]; omega
        have hidx : (k : Int) - (win : Int) = (j : Int) := by omega
        have e4 : mxW xs win (k + 1 + 1 - win) = max m (s + p - q) := by
          rw [show k + 1 + 1 - win = (k + 1 - win) + 1 by omega]
          show max (mxW xs win (k + 1 - win)) (sq xs (k + 1 - win + win) - sq xs (k + 1 - win)) = _
          rw [hM, ← e3, show k + 1 - win + win = k + 1 by omega]; rfl
        have hjn : j < n := by omega
        have HJ := Lib.hid hj
        clear f1 hq hqr hyr hyk rj rm rj0 hj
        by_cases hmy : m < (s + p - q)
        · have hd : decide (m < (s + p - q)) = true := by simpa using hmy
          have HT : Hid (lastW xs win (k + 1) = (s + p - q) ∧ mxW xs win (k + 1 + 1 - win) = (s + p - q)) := ⟨e3, by rw [e4]; omega⟩
          clear e1 e2 e3 e4 r0 r1 hL hM hp hpr hxr hc hxk HS
          go_wp2_with fail
          refine (kp _).mono ?_
          rintro e w2 ⟨rfl, rfl⟩
          clear kp
          go_wp2_with fail
          refine (kq _).mono ?_
          rintro e w3 ⟨rfl, rfl⟩
          clear kq
          go_wp2
          go_round
          case rel => exact ⟨k + 1, (s + p - q), (s + p - q), rfl, rfl, by go_num, by omega, hsp0, hsp1, hsp0, hsp1, HT⟩
          case measure => simp [intOf]; omega
        · have hd : decide (m < (s + p - q)) = false := by simpa using hmy
          have HT : Hid (lastW xs win (k + 1) = (s + p - q) ∧ mxW xs win (k + 1 + 1 - win) = m) := ⟨e3, by rw [e4]; omega⟩
          clear e1 e2 e3 e4 r0 r1 hL hM hp hpr hxr hc hxk HS
          go_wp2_with fail
          refine (kp _).mono ?_
          rintro e w2 ⟨rfl, rfl⟩
          clear kp
          go_wp2_with fail
          refine (kq _).mono ?_
          rintro e w3 ⟨rfl, rfl⟩
          clear kq
          go_wp2
          go_round
          case rel => exact ⟨k + 1, (s + p - q), m, rfl, rfl, by go_num, by omega, hsp0, hsp1, hm0, hm1, HT⟩
          case measure => simp [intOf]; omega
    · obtain rfl : k = n := by omega
      have HF : Hid (z = m) := by show _ = _; rw [← HZ.out, HS.out.2]
      go_wp2
      go_ret
      exact ⟨ret_int HF.out.symm, rfl⟩

theorem iLo1_any (xs : List Int) (n win : Nat) (z : Int) (B : Nat) (ao : Option Addr) (cap : Nat) (w : World) (hx : Ints w ao n xs) (hv : ∀ x ∈ xs, -32768 ≤ x ∧ x ≤ 32768) (hn : n ≤ 256) (hw0 : 1 ≤ win) (hw1 : win ≤ 256) (hc : w.cell? ⟨B, 0, none⟩ = some (.int .i64 (win : Int))) (hz : louL win xs = z) :
    Calls Try.prog 45 #[.slice ao n cap, .pointer (some ⟨B, 0, none⟩)] w fun e w' => e = .returned (.int .i64 z) ∧ w = w' := by
  have k1 := iLou_any xs n win z ao cap w hx hv hn hw0 hw1 hz
  clear hx hv hz
  go_enter Try.func45, Try.ntmps45
  go_wp2_with fail
  refine k1.mono ?_
  rintro e w' ⟨rfl, rfl⟩
  go_wp2
  go_ret
  exact ⟨rfl, rfl⟩

theorem iGrL_any (xs : List Int) (n win : Nat) (m z : Int) (B C : Nat) (ao : Option Addr) (cap : Nat) (w : World) (hx : Ints w ao n xs) (hv : ∀ x ∈ xs, -32768 ≤ x ∧ x ≤ 32768) (hn : n ≤ 256) (hw0 : 1 ≤ win) (hw1 : win ≤ 256) (hz : max m (louL win xs) = z)
    (hc : w.cell? ⟨B, 0, none⟩ = some (.func (.func 45) #[] #[.pointer (some ⟨C, 0, none⟩)])) (hcw : w.cell? ⟨C, 0, none⟩ = some (.int .i64 (win : Int))) :
    Calls Try.prog 66 #[.int .i64 m, .slice ao n cap, .pointer (some ⟨B, 0, none⟩)] w fun e w' => e = .returned (.int .i64 z) ∧ w.grownBy w' none := by
  have k1 := iLo1_any xs n win _ C ao cap w hx hv hn hw0 hw1 hcw rfl
  generalize louL win xs = y at *
  subst hz
  clear hx hv hcw
  by_cases hmy : m < y
  · have hd : decide (m < y) = true := by simpa using hmy
    rw [show max m y = y by omega]
    go_enter Try.func66, Try.ntmps66
    go_wp2_with fail
    refine k1.mono ?_
    rintro e w' ⟨rfl, rfl⟩
    clear k1
    go_wp2
    go_ret
    exact ⟨rfl, grown_refl _ _⟩
  · have hd : decide (m < y) = false := by simpa using hmy
    rw [show max m y = m by omega]
    go_enter Try.func66, Try.ntmps66
    go_wp2_with fail
    refine k1.mono ?_
    rintro e w' ⟨rfl, rfl⟩
    clear k1
    go_wp2
    go_ret
    exact ⟨rfl, grown_refl _ _⟩

theorem iGrLR_any (xss : List (List Int)) (n win : Nat) (z : Int) (C : Nat) (ao : Option Addr) (cap : Nat) (w : World) (hx : Mat w ao n xss) (hn : n ≤ 4611686018427387904) (hw0 : 1 ≤ win) (hw1 : win ≤ 256)
    (hv : ∀ (k : Nat) (xs : List Int), xss[k]? = some xs → xs.length ≤ 256 ∧ ∀ x ∈ xs, -32768 ≤ x ∧ x ≤ 32768) (hcw : w.cell? ⟨C, 0, none⟩ = some (.int .i64 (win : Int))) (hz : fmx (louL win) 0 xss = z) :
    Calls Try.prog 37 #[.slice ao n cap, .func (.func 45) #[] #[.pointer (some ⟨C, 0, none⟩)]] w fun e w' => e = .returned (.int .i64 z) ∧ w.grownBy w' none := by
  have hcell : (w.alloc (.cells #[.func (.func 45) #[] #[.pointer (some ⟨C, 0, none⟩)]] 51)).cell? ⟨w.heap.size, 0, none⟩ = some (.func (.func 45) #[] #[.pointer (some ⟨C, 0, none⟩)]) := by rw [cell_of_row _ w.heap.size 0 _ _ _ (heap_alloc_new w _)]; rfl
  have hcw2 := (grown_alloc w (.cells #[.func (.func 45) #[] #[.pointer (some ⟨C, 0, none⟩)]] 51) none).cell hcw (by simp)
  have k1 := iFoldR_any (louL win) 274877906944 xss n z w.heap.size ao cap (w.alloc (.cells #[.func (.func 45) #[] #[.pointer (some ⟨C, 0, none⟩)]] 51)) (hx.grown (grown_alloc _ _ _)) hn (by omega)
    (fun k xs hk => (lou_range' (hv k xs hk).2 (hv k xs hk).1).2)
    (fun k xs a c m W hk hi _ hgW _ _ => iGrL_any xs xs.length win m _ w.heap.size C a c W hi (hv k xs hk).2 (hv k xs hk).1 hw0 hw1 rfl (hgW.cell hcell (by simp)) (hgW.cell hcw2 (by simp))) hz
  clear hx hv hz hcell hcw hcw2
  go_enter Try.func37, Try.ntmps37
  go_wp2_with fail
  refine k1.mono ?_
  rintro e w' ⟨rfl, hg⟩
  have HG := Lib.hid (grown_trans (grown_alloc w (.cells #[.func (.func 45) #[] #[.pointer (some ⟨C, 0, none⟩)]] 51) none) hg)
  clear hg k1
  go_wp2
  go_ret
  exact ⟨rfl, HG.out⟩

theorem one_cell {w : World} {b : Nat} {x : Value} {t : TypeId} (h : w.heap[b]? = some (.cells #[x] t (0, 0))) : w.cell? ⟨b, 0, none⟩ = some x := by rw [cell_of_row w b 0 _ _ _ h]; rfl

set_option maxRecDepth 100000 in
set_option maxHeartbeats 2000000 in
theorem iLo_any (xss : List (List Int)) (ao : Option Addr) (len cap : Nat) (r d win : Int) (w : World) (z : Int) (hx : Mat w ao len xss) (hs : szL xss ≤ 1048576) (hv : louV r d xss win = z) :
    Calls Try.prog 20 #[.agg #[.int .i64 r, .int .i64 d, .slice ao len cap], .int .i64 win] w fun e w' => e = .returned (.int .i64 z) ∧ w.grownBy w' none := by
  subst hv
  have hg0 : w.grownBy ((w.alloc (.cells #[.int .i64 r, .int .i64 d, .slice ao len cap] 25)).alloc (.cells #[.int .i64 win] 3)) none := grown_trans (grown_alloc _ _ _) (grown_alloc _ _ _)
  have k1 := iVAu_any xss ao len cap r d ((w.alloc (.cells #[.int .i64 r, .int .i64 d, .slice ao len cap] 25)).alloc (.cells #[.int .i64 win] 3)) _ (hx.grown hg0) hs rfl
  cases hva : vAu r d xss with
  | false =>
    rw [hva] at k1
    rw [louV_no (by rw [hva]; simp)]
    clear hx hs hva
    go_enter Try.func20, Try.ntmps20
    go_wp2_with fail
    refine k1.mono ?_
    rintro e w1 ⟨rfl, hg⟩
    have HG := Lib.hid (grown_trans hg0 hg)
    clear k1 hg hg0
    go_wp2
    go_ret
    exact ⟨rfl, HG.out⟩
  | true =>
  rw [hva] at k1
  by_cases hwin : ¬ (1 ≤ win ∧ win ≤ 256)
  · rw [louV_no (by intro h; exact hwin ⟨h.2.1, h.2.2⟩)]
    have hB : inB win 1 256 = false := inB_false hwin
    have hc1 : ((w.alloc (.cells #[.int .i64 r, .int .i64 d, .slice ao len cap] 25)).alloc (.cells #[.int .i64 win] 3)).cell? ⟨w.heap.size + 1, 0, none⟩ = some (.int .i64 win) := one_cell (by have := heap_alloc_new (w.alloc (.cells #[.int .i64 r, .int .i64 d, .slice ao len cap] 25)) (.cells #[.int .i64 win] 3); simpa using this)
    clear hx hs hva hwin
    go_enter Try.func20, Try.ntmps20
    go_wp2_with fail
    refine k1.mono ?_
    rintro e w1 ⟨rfl, hg⟩
    have HG := Lib.hid (grown_trans hg0 hg)
    have q0 := hg.cell hc1 (by simp)
    clear k1 hg hg0 hc1
    go_wp2_with fail
    refine (iIn1 win 1 256 _ w1 _ (by simp) hB).mono ?_
    rintro e w2 ⟨rfl, rfl⟩
    go_wp2
    go_ret
    exact ⟨rfl, grown_trans HG.out (grown_alloc _ _ _)⟩
  have hwin := Classical.not_not.1 hwin
  have hB : inB win 1 256 = true := inB_true hwin.1 hwin.2
  obtain ⟨wn, rfl⟩ := Int.eq_ofNat_of_zero_le (show 0 ≤ win by omega)
  have hw0 : 1 ≤ wn := by omega
  have hw1 : wn ≤ 256 := by omega
  rw [louV_yes hva hw0 hw1]
  obtain ⟨u, H, hV⟩ := va_of hva
  have HX := Lib.hid hx
  have hlen : len ≤ 2 := by have := hV.ch.2; rw [hx.1] at this; exact this
  have HXS : Hid (∀ (k : Nat) (xs : List Int), xss[k]? = some xs → xs.length ≤ 256 ∧ ∀ x ∈ xs, -32768 ≤ x ∧ x ≤ 32768) := va_rows hV
  obtain ⟨y, hy⟩ : ∃ y, fmx (louL wn) 0 xss = y := ⟨_, rfl⟩
  have HY : Hid (louS wn 0 xss = y / (wn : Int)) := by show _ = _; rw [← hy]; have := louS_div (w := wn) (by omega) xss 0; rw [Int.zero_ediv] at this; exact this
  have hy0 : 0 ≤ y := by rw [← hy]; exact fmx_nonneg xss
  have hc1 : ((w.alloc (.cells #[.int .i64 r, .int .i64 d, .slice ao len cap] 25)).alloc (.cells #[.int .i64 (wn : Int)] 3)).cell? ⟨w.heap.size + 1, 0, none⟩ = some (.int .i64 (wn : Int)) := one_cell (by have := heap_alloc_new (w.alloc (.cells #[.int .i64 r, .int .i64 d, .slice ao len cap] 25)) (.cells #[.int .i64 (wn : Int)] 3); simpa using this)
  have hc2 := (three_cells (grown_heap (grown_alloc (w.alloc (.cells #[.int .i64 r, .int .i64 d, .slice ao len cap] 25)) (.cells #[.int .i64 (wn : Int)] 3) none) (heap_alloc_new w (.cells #[.int .i64 r, .int .i64 d, .slice ao len cap] 25)) (by simp))).2.2
  clear hx hs hva hV hwin
  go_enter Try.func20, Try.ntmps20
  go_wp2_with fail
  refine k1.mono ?_
  rintro e w1 ⟨rfl, hg⟩
  have HG := Lib.hid (grown_trans hg0 hg)
  have q0 := hg.cell hc1 (by simp)
  have q2 := hg.cell hc2 (by simp)
  clear k1 hg hg0 hc1 hc2
  go_wp2_with fail
  refine (iIn1 (wn : Int) 1 256 _ w1 _ (by simp) hB).mono ?_
  rintro e w2 ⟨rfl, rfl⟩
  have HG2 := Lib.hid (grown_trans HG.out (grown_alloc w1 (.cells #[.int .i64 (wn : Int)] 3) none))
  have q3 := (grown_alloc w1 (.cells #[.int .i64 (wn : Int)] 3) none).cell q0 (by simp)
  have q4 := (grown_alloc w1 (.cells #[.int .i64 (wn : Int)] 3) none).cell q2 (by simp)
  generalize hwb : w1.alloc (.cells #[.int .i64 (wn : Int)] 3) = wb at *
  have hwz : ((wn : Int) == 0) = false := by simp; omega
  have e6 : y.tdiv (wn : Int) = y / (wn : Int) := Int.tdiv_eq_ediv_of_nonneg hy0
  have hy1 : y ≤ 274877906944 := by rw [← hy]; exact fmx_le (M := 274877906944) xss (fun k xs hk => (lou_range' (HXS.out k xs hk).2 (HXS.out k xs hk).1).2) 0 (by omega)
  have e7 : 0 ≤ y / (wn : Int) := Int.ediv_nonneg hy0 (by omega)
  have e8 : y / (wn : Int) ≤ y := Int.ediv_le_self _ hy0
  obtain ⟨q, hqq⟩ : ∃ q, y / (wn : Int) = q := ⟨_, rfl⟩
  rw [hqq] at e6 e7 e8
  have hq0 : IntKind.i64.wrap q = q := IntWalk.i64_in _ (by omega)
  have hq9 : q ≤ 274877906944 := by omega
  have HY7 : Hid (louS wn 0 xss = q) := by show _ = _; rw [HY.out, hqq]
  have hnz : ¬ wn = 0 := by omega
  have hq7 : IntKind.i64.wrap (y.tdiv (wn : Int)) = q := by rw [e6]; exact hq0
  clear hqq
  have kk := fun W (hgW : wb.grownBy W none) => iGrLR_any xss len wn y (w.heap.size + 1) ao cap W (HX.out.grown (grown_trans HG2.out hgW)) (by omega) hw0 hw1 HXS.out (hgW.cell q3 (by simp)) hy
  clear hwb q0 q2 hB hy e8
  go_wp2_with fail
  go_region_held3 (fun w' => w'.cell? ⟨w.heap.size + 1, 0, none⟩ = some (.int .i64 (wn : Int)) ∧ w'.cell? ⟨w.heap.size, 2, none⟩ = some (.slice ao len cap)) (first | go_keep | exact ⟨by assumption, by assumption⟩) ((go_at_call 37; refine (kk _ (grown_drew _ _)).mono ?_; rintro e w5 ⟨rfl, hg5⟩; have hS0 := hg5.cell q3 (by simp); have hS1 := hg5.cell q4 (by simp); have HG5 := Lib.hid (grown_trans (grown_trans HG2.out (grown_drew _ _)) hg5); clear hg5))
  clear kk q3 q4 hS0 hS1
  go_wp2
  go_ret
  exact ⟨ret_int HY7.out.symm, HG5.out⟩

end Go.Proofs.Ythjelbanelmekaa
