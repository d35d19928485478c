/-
  Peaks: the program's text, and its folds over lists and over channels. For all channels that can be read.
-/
import Derived.Test.YtncbgofcimghnaaPkS
namespace Go.Proofs.Ytncbgofcimghnaa
open Go.RowKit

theorem iGr1_any (m x : Int) (B : Nat) (w : World) (hc : w.cell? ⟨B, 0, none⟩ = some (.func (.func 60) #[] #[])) (h0 : -9000000000000000000 ≤ x) (h1 : x ≤ 9000000000000000000) :
    Calls Try.prog 74 #[.int .i64 m, .int .i64 x, .pointer (some ⟨B, 0, none⟩)] w fun e w' => e = .returned (.int .i64 (max m (ab x))) ∧ w = w' := by
  have k1 := iAbs_any x w h0 h1
  generalize ab x = y at *
  by_cases hmy : m < y
  · have hd : decide (m < y) = true := by simpa using hmy
    rw [show max m y = y by omega]
    go_enter Try.func74, Try.ntmps74
    go_wp2_with fail
    refine k1.mono ?_
    rintro e w' ⟨rfl, rfl⟩
    go_wp2
    go_ret
    exact ⟨rfl, rfl⟩
  · have hd : decide (m < y) = false := by simpa using hmy
    rw [show max m y = m by omega]
    go_enter Try.func74, Try.ntmps74
    go_wp2_with fail
    refine k1.mono ?_
    rintro e w' ⟨rfl, rfl⟩
    go_wp2
    go_ret
    exact ⟨rfl, rfl⟩

set_option maxHeartbeats 1000000 in
theorem iFoldI_any (xs : List Int) (n : Nat) (z : Int) (B : Nat) (ao : Option Addr) (cap : Nat) (w : World) (hx : Ints w ao n xs) (hv : ∀ x ∈ xs, -32768 ≤ x ∧ x ≤ 32768) (hn : n ≤ 4611686018427387904)
    (hc : w.cell? ⟨B, 0, none⟩ = some (.func (.func 60) #[] #[])) (hz : pkL 0 xs = z) :
    Calls Try.prog 73 #[.slice ao n cap, .int .i64 0, .func (.func 74) #[] #[.pointer (some ⟨B, 0, none⟩)]] w fun e w' => e = .returned (.int .i64 z) ∧ w = w' := by
  subst hz
  have HX := Lib.hid hx
  have HC := Lib.hid hc
  have HV := Lib.hid hv
  clear hx hc hv
  go_enter Try.func73, Try.ntmps73
  go_wp2
  go_loop [7, 13] (fun sv i => ∃ (k : Nat) (m : Int), k ≤ n ∧ i = .int .i64 k ∧ sv = .int .i64 m ∧ Hid (pkL 0 (xs.take k) = m)) (fun _ i => n - (intOf i).toNat)
  case atStart => exact ⟨0, 0, Nat.zero_le _, rfl, rfl, rfl⟩
  case round =>
    obtain ⟨k, m, hk, rfl, rfl, hs⟩ := hrel
    by_cases hlt : k < n
    · obtain ⟨x, hxk⟩ : ∃ x, xs[k]? = some x := ⟨_, List.getElem?_eq_getElem (by rw [HX.out.1]; exact hlt)⟩
      obtain ⟨b, off, hab, hcy⟩ := HX.out.2.resolve_left (by intro e; subst e; simp at hxk)
      subst hab
      have hcx := hcy k x hxk
      have hr := HV.out x (List.mem_of_getElem? hxk)
      have hcall := iGr1_any m x B w HC.out (by omega) (by omega)
      have HS : Hid (pkL 0 (xs.take (k + 1)) = max m (ab x)) := by show _ = _; rw [pkL_take hxk, hs.out]
      generalize max m (ab x) = y at *
      clear hcy hxk hr
      go_wp2_with fail
      refine hcall.mono ?_
      rintro e w' ⟨rfl, rfl⟩
      clear hcall
      go_wp2
      go_round
      case rel => exact ⟨k + 1, y, by omega, by go_num, rfl, HS⟩
      case measure => simp [intOf]; omega
    · obtain rfl : k = n := by omega
      have HF : Hid (pkL 0 xs = m) := by show _ = _; rw [← hs.out, List.take_of_length_le (by rw [HX.out.1]; exact Nat.le_refl _)]
      go_wp2
      go_ret
      exact ⟨ret_int HF.out.symm, rfl⟩

theorem iGrI_any (xs : List Int) (n : Nat) (z : Int) (ao : Option Addr) (cap : Nat) (w : World) (hx : Ints w ao n xs) (hv : ∀ x ∈ xs, -32768 ≤ x ∧ x ≤ 32768) (hn : n ≤ 4611686018427387904) (hz : pkL 0 xs = z) :
    Calls Try.prog 59 #[.slice ao n cap, .func (.func 60) #[] #[]] w fun e w' => e = .returned (.int .i64 z) ∧ w.grownBy w' none := by
  have k1 := iFoldI_any xs n z w.heap.size ao cap (w.alloc (.cells #[.func (.func 60) #[] #[]] 62)) (hx.grown (grown_alloc _ _ _)) hv hn (by rw [cell_of_row _ w.heap.size 0 _ _ _ (heap_alloc_new w _)]; rfl) hz
  clear hx hv hz
  go_enter Try.func59, Try.ntmps59
  go_wp2_with fail
  refine k1.mono ?_
  rintro e w' ⟨rfl, rfl⟩
  go_wp2
  go_ret
  exact ⟨rfl, grown_alloc _ _ _⟩

/-- The program's fold over channels, for a measure. -/
def fmx (g : List Int → Int) (m : Int) (xss : List (List Int)) : Int := xss.foldl (fun m xs => max m (g xs)) m
theorem fmx_take {g : List Int → Int} {m : Int} {xss : List (List Int)} {k : Nat} {xs : List Int} (h : xss[k]? = some xs) : fmx g m (xss.take (k + 1)) = max (fmx g m (xss.take k)) (g xs) := by
  unfold fmx; rw [List.take_add_one, h, List.foldl_append]; rfl

set_option maxHeartbeats 1000000 in
theorem iFoldR_any (g : List Int → Int) (M : Int) (xss : List (List Int)) (n : Nat) (z : Int) (B : Nat) (ao : Option Addr) (cap : Nat) (w : World) (hx : Mat w ao n xss) (hn : n ≤ 4611686018427387904) (hM : 0 ≤ M)
    (hg : ∀ (k : Nat) (xs : List Int), xss[k]? = some xs → g xs ≤ M)
    (hstep : ∀ (k : Nat) (xs : List Int) (a : Option Addr) (c : Nat) (m : Int) (W : World), xss[k]? = some xs → Ints W a xs.length xs → xs.length ≤ c → w.grownBy W none → 0 ≤ m → m ≤ M →
      Calls Try.prog 72 #[.int .i64 m, .slice a xs.length c, .pointer (some ⟨B, 0, none⟩)] W fun e W' => e = .returned (.int .i64 (max m (g xs))) ∧ W.grownBy W' none)
    (hz : fmx g 0 xss = z) :
    Calls Try.prog 71 #[.slice ao n cap, .int .i64 0, .func (.func 72) #[] #[.pointer (some ⟨B, 0, none⟩)]] w fun e w' => e = .returned (.int .i64 z) ∧ w.grownBy w' none := by
  subst hz
  have HX := Lib.hid hx
  have HL := Lib.hid hx.1
  have HG := Lib.hid hg
  have HS := Lib.hid hstep
  clear hx hg hstep
  go_enter Try.func71, Try.ntmps71
  go_wp2
  go_loopw [7, 13] (fun sv i wr => ∃ (k : Nat) (m : Int), k ≤ n ∧ i = .int .i64 k ∧ sv = .int .i64 m ∧ 0 ≤ m ∧ m ≤ M ∧ Hid (w.grownBy wr none ∧ fmx g 0 (xss.take k) = m)) (fun _ i _ => n - (intOf i).toNat)
  case atStart => exact ⟨0, 0, Nat.zero_le _, rfl, rfl, by omega, hM, grown_refl _ _, rfl⟩
  case round =>
    obtain ⟨k, m, hk, rfl, rfl, hm0, hm1, HW⟩ := hrel
    by_cases hlt : k < n
    · obtain ⟨xs, hxk⟩ : ∃ xs, xss[k]? = some xs := ⟨_, List.getElem?_eq_getElem (by rw [HL.out]; exact hlt)⟩
      obtain ⟨b, off, rfl, hc⟩ := HX.out.2.resolve_left (by intro e; subst e; simp at hxk)
      obtain ⟨ux, hux, a, c, rfl, hin, hlc, hcm, _⟩ := hc k xs hxk
      have hcx : wr.cell? ⟨b, off + k, none⟩ = some (.slice a xs.length c) := HW.out.1.cell hux (by simp)
      have hcall := HS.out k xs a c m wr hxk (hin.grown HW.out.1) hlc HW.out.1 hm0 hm1
      have hgm := HG.out k xs hxk
      have HT : Hid (fmx g 0 (xss.take (k + 1)) = max m (g xs)) := by show _ = _; rw [fmx_take hxk, HW.out.2]
      have hy0 : 0 ≤ max m (g xs) := by omega
      have hy1 : max m (g xs) ≤ M := by omega
      generalize max m (g xs) = y at *
      generalize xs.length = nx at *
      clear hc hux hin hlc hcm hxk hgm
      go_wp2_with fail
      refine hcall.mono ?_
      rintro e w' ⟨rfl, hg'⟩
      clear hcall
      have HW2 : Hid (w.grownBy w' none ∧ fmx g 0 (xss.take (k + 1)) = y) := ⟨grown_trans HW.out.1 hg', HT.out⟩
      clear hg' HW HT
      go_wp2
      go_roundw
      case rel => exact ⟨k + 1, y, by omega, by go_num, rfl, hy0, hy1, HW2⟩
      case measure => simp [intOf]; omega
    · obtain rfl : k = n := by omega
      have HF : Hid (fmx g 0 xss = m ∧ w.grownBy wr none) := by
        refine ⟨?_, HW.out.1⟩
        rw [← HW.out.2, List.take_of_length_le (by rw [HL.out]; exact Nat.le_refl _)]
      go_wp2
      go_ret
      exact ⟨ret_int HF.out.1.symm, HF.out.2⟩

theorem iPk1_any (xs : List Int) (n : Nat) (z : Int) (ao : Option Addr) (cap : Nat) (w : World) (hx : Ints w ao n xs) (hv : ∀ x ∈ xs, -32768 ≤ x ∧ x ≤ 32768) (hn : n ≤ 4611686018427387904) (hz : pkL 0 xs = z) :
    Calls Try.prog 58 #[.slice ao n cap] w fun e w' => e = .returned (.int .i64 z) ∧ w.grownBy w' none := by
  have k1 := iGrI_any xs n z ao cap w hx hv hn hz
  clear hx hv hz
  go_enter Try.func58, Try.ntmps58
  go_wp2_with fail
  refine k1.mono ?_
  rintro e w' ⟨rfl, hg⟩
  have HG := Lib.hid hg
  clear hg k1
  go_wp2
  go_ret
  exact ⟨rfl, HG.out⟩

theorem iGrP_any (xs : List Int) (n : Nat) (m z : Int) (B : Nat) (ao : Option Addr) (cap : Nat) (w : World) (hx : Ints w ao n xs) (hv : ∀ x ∈ xs, -32768 ≤ x ∧ x ≤ 32768) (hn : n ≤ 4611686018427387904) (hz : max m (pkL 0 xs) = z)
    (hc : w.cell? ⟨B, 0, none⟩ = some (.func (.func 58) #[] #[])) :
    Calls Try.prog 72 #[.int .i64 m, .slice ao n cap, .pointer (some ⟨B, 0, none⟩)] w fun e w' => e = .returned (.int .i64 z) ∧ w.grownBy w' none := by
  have k1 := iPk1_any xs n _ ao cap w hx hv hn rfl
  generalize pkL 0 xs = y at *
  subst hz
  clear hx hv
  by_cases hmy : m < y
  · have hd : decide (m < y) = true := by simpa using hmy
    rw [show max m y = y by omega]
    go_enter Try.func72, Try.ntmps72
    go_wp2_with fail
    refine k1.mono ?_
    rintro e w' ⟨rfl, hg⟩
    have HG := Lib.hid hg
    clear hg k1
    go_wp2
    go_ret
    exact ⟨rfl, HG.out⟩
  · have hd : decide (m < y) = false := by simpa using hmy
    rw [show max m y = m by omega]
    go_enter Try.func72, Try.ntmps72
    go_wp2_with fail
    refine k1.mono ?_
    rintro e w' ⟨rfl, hg⟩
    have HG := Lib.hid hg
    clear hg k1
    go_wp2
    go_ret
    exact ⟨rfl, HG.out⟩

theorem iGrR_any (xss : List (List Int)) (n : Nat) (z : Int) (ao : Option Addr) (cap : Nat) (w : World) (hx : Mat w ao n xss) (hn : n ≤ 4611686018427387904)
    (hv : ∀ (k : Nat) (xs : List Int), xss[k]? = some xs → xs.length ≤ 256 ∧ ∀ x ∈ xs, -32768 ≤ x ∧ x ≤ 32768) (hz : fmx (pkL 0) 0 xss = z) :
    Calls Try.prog 57 #[.slice ao n cap, .func (.func 58) #[] #[]] w fun e w' => e = .returned (.int .i64 z) ∧ w.grownBy w' none := by
  have hcell : (w.alloc (.cells #[.func (.func 58) #[] #[]] 54)).cell? ⟨w.heap.size, 0, none⟩ = some (.func (.func 58) #[] #[]) := by rw [cell_of_row _ w.heap.size 0 _ _ _ (heap_alloc_new w _)]; rfl
  have k1 := iFoldR_any (pkL 0) 32768 xss n z w.heap.size ao cap (w.alloc (.cells #[.func (.func 58) #[] #[]] 54)) (hx.grown (grown_alloc _ _ _)) hn (by omega)
    (fun k xs hk => (pkL_range (hv k xs hk).2 0 (by omega) (by omega)).2)
    (fun k xs a c m W hk hi _ hgW _ _ => iGrP_any xs xs.length m _ w.heap.size a c W hi (hv k xs hk).2 (by have := (hv k xs hk).1; omega) rfl (hgW.cell hcell (by simp))) hz
  clear hx hv hz hcell
  go_enter Try.func57, Try.ntmps57
  go_wp2_with fail
  refine k1.mono ?_
  rintro e w' ⟨rfl, hg⟩
  have HG := Lib.hid (grown_trans (grown_alloc w (.cells #[.func (.func 58) #[] #[]] 54) none) hg)
  clear hg k1
  go_wp2
  go_ret
  exact ⟨rfl, HG.out⟩

theorem fmx_ge (g : List Int → Int) (xss : List (List Int)) : ∀ m, m ≤ fmx g m xss := by
  induction xss with
  | nil => intro m; exact Int.le_refl _
  | cons xs xss ih => intro m; exact Int.le_trans (by omega) (ih (max m (g xs)))
theorem fmx_le {g : List Int → Int} {M : Int} (xss : List (List Int)) (h : ∀ (k : Nat) (xs : List Int), xss[k]? = some xs → g xs ≤ M) : ∀ m, m ≤ M → fmx g m xss ≤ M := by
  induction xss with
  | nil => intro m hm; exact hm
  | cons xs xss ih => intro m hm; exact ih (fun k ys hk => h (k + 1) ys (by simpa using hk)) (max m (g xs)) (by have := h 0 xs rfl; omega)
theorem fmx_nonneg {g : List Int → Int} (xss : List (List Int)) : 0 ≤ fmx g 0 xss := fmx_ge g xss 0

theorem fmx_pk (xss : List (List Int)) : ∀ m, 0 ≤ m → fmx (pkL 0) m xss = pkM m xss := by
  induction xss with
  | nil => intro m _; rfl
  | cons xs xss ih =>
    intro m hm
    show fmx (pkL 0) (max m (pkL 0 xs)) xss = pkM (pkL m xs) xss
    rw [← pkL_split hm]
    exact ih _ (Int.le_trans hm pkL_le)

set_option maxRecDepth 100000 in
set_option maxHeartbeats 2000000 in
theorem iPk_any (xss : List (List Int)) (ao : Option Addr) (len cap : Nat) (r d : Int) (w : World) (z : Int) (hx : Mat w ao len xss) (hs : szL xss ≤ 1048576) (hv : pkV r d xss = z) :
    Calls Try.prog 30 #[.agg #[.int .i64 r, .int .i64 d, .slice ao len cap]] w fun e w' => e = .returned (.int .i64 z) ∧ w.grownBy w' none := by
  subst hv
  have k1 := iVAu_any xss ao len cap r d (w.alloc (.cells #[.int .i64 r, .int .i64 d, .slice ao len cap] 25)) _ (hx.grown (grown_alloc _ _ _)) hs rfl
  cases hva : vAu r d xss with
  | false =>
    rw [hva] at k1
    rw [show pkV r d xss = -1 by unfold pkV; rw [hva]; rfl]
    clear hx hs hva
    go_enter Try.func30, Try.ntmps30
    go_wp2_with fail
    refine k1.mono ?_
    rintro e w1 ⟨rfl, hg⟩
    have HG := Lib.hid (grown_trans (grown_alloc w (.cells #[.int .i64 r, .int .i64 d, .slice ao len cap] 25) none) hg)
    clear k1 hg
    go_wp2
    go_ret
    exact ⟨rfl, HG.out⟩
  | true =>
    rw [hva] at k1
    rw [show pkV r d xss = pkM 0 xss by unfold pkV; rw [hva]; rfl]
    obtain ⟨u, H, hV⟩ := va_of hva
    have HV := Lib.hid hV
    have HX := Lib.hid hx
    have HL := Lib.hid hx.1
    have HPU := Lib.hid hV.pow.2
    have hlen : len ≤ 2 := by have := hV.ch.2; rw [hx.1] at this; exact this
    clear hx hs hva hV
    go_enter Try.func30, Try.ntmps30
    go_wp2_with fail
    refine k1.mono ?_
    rintro e w1 ⟨rfl, hg⟩
    have HG := Lib.hid (grown_trans (grown_alloc w (.cells #[.int .i64 r, .int .i64 d, .slice ao len cap] 25) none) hg)
    obtain ⟨q0, q1, q2⟩ := three_cells (grown_heap hg (heap_alloc_new w (.cells #[.int .i64 r, .int .i64 d, .slice ao len cap] 25)) (by simp))
    clear k1 hg
    have HXS : Hid (∀ (k : Nat) (xs : List Int), xss[k]? = some xs → xs.length ≤ 256 ∧ ∀ x ∈ xs, -32768 ≤ x ∧ x ≤ 32768) := by
      intro k xs hk
      have h1 := HV.out.row k xs hk
      have h2 := allB_abs h1.2 xs.length
      rw [List.take_length] at h2
      have h3 := HPU.out
      exact ⟨by rw [h1.1]; exact HV.out.hh, fun x hx => by have := h2 x hx; omega⟩
    have k2 := iGrR_any xss len (pkM 0 xss) ao cap w1 (HX.out.grown HG.out) (by omega) HXS.out (fmx_pk xss 0 (Int.le_refl _)) 
    go_wp2_with fail
    refine k2.mono ?_
    rintro e w2 ⟨rfl, hg2⟩
    have HG2 := Lib.hid (grown_trans HG.out hg2)
    clear k2 hg2 q0 q1 q2
    go_wp2
    go_ret
    exact ⟨rfl, HG2.out⟩

end Go.Proofs.Ytncbgofcimghnaa
