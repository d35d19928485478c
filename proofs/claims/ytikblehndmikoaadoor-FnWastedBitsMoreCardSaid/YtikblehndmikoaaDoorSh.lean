/-
  Shifts of samples as plain mathematics; the specification's loops; the program's loop over a list. The lists are at most 64 numbers long.
-/
import Derived.Test.YtikblehndmikoaaDoorAuto
import Derived.Test.YtikblehndmikoaaDoorStA
import Derived.Deep.OwnRows
import Derived.Laws.EntriesVeiled
namespace Go.Proofs.YtikblehndmikoaaDoor
open Go.RowKit

def upL (s : Nat) (xs : List Int) : List Int := xs.map (fun x => x * 2 ^ s)
def downL (s : Nat) (xs : List Int) : List Int := xs.map (fun x => x / 2 ^ s)
def evenL (s : Nat) (xs : List Int) : Bool := xs.all (fun x => decide (x % 2 ^ s = 0))
/-- A call gives back a new list, and whether there is one. -/
def MadeOk (xs : List Int) (n : Nat) (ok : Bool) (w : World) (e : Ending) (w' : World) : Prop :=
  ∃ v, e = .returned (.tuple #[v, .bool ok]) ∧ Owns w' w.heap.size v n xs ∧ w.grownBy w' none
theorem map_take {f : Int → Int} {xs : List Int} {k : Nat} {x : Int} (h : xs[k]? = some x) : (xs.take (k + 1)).map f = (xs.take k).map f ++ [f x] := by
  rw [List.take_add_one, h]; simp
theorem map_get {f : Int → Int} {xs : List Int} {k : Nat} {x : Int} (h : xs[k]? = some x) : (xs.map f)[k]? = some (f x) := by rw [List.getElem?_map, h]; rfl
theorem pow14 (s : Nat) (h : s ≤ 14) : (1 : Int) ≤ 2 ^ s ∧ (2 : Int) ^ s ≤ 16384 := pow_le s h
theorem up_range {x : Int} {s : Nat} (h0 : -65536 ≤ x) (h1 : x ≤ 65536) (hs : s ≤ 14) : -1073741824 ≤ x * 2 ^ s ∧ x * 2 ^ s ≤ 1073741824 := by
  have hp := pow14 s hs
  have := mul_range h0 h1 (show (0 : Int) ≤ 2 ^ s by omega) hp.2 (by omega)
  omega
theorem down_range {x : Int} {s : Nat} (h0 : -65536 ≤ x) (h1 : x ≤ 65536) (hs : s ≤ 14) : -65536 ≤ x / 2 ^ s ∧ x / 2 ^ s ≤ 65536 := by
  have hp := pow14 s hs
  constructor
  · rw [Int.le_ediv_iff_mul_le (by omega)]
    generalize (2 : Int) ^ s = P at *
    omega
  · exact Int.ediv_le_of_le_mul (by omega) (by generalize (2 : Int) ^ s = P at *; omega)
theorem tdiv_pow {x : Int} {s : Nat} (h : x % 2 ^ s = 0) : x.tdiv (2 ^ s) = x / 2 ^ s := Int.tdiv_eq_ediv_of_dvd (Int.dvd_of_emod_eq_zero h)

set_option maxRecDepth 100000 in
set_option maxHeartbeats 2000000 in
theorem sUpL_any (xs : List Int) (s n : Nat) (ao : Option Addr) (cap : Nat) (w : World) (hx : Ints w ao n xs) (hn : n ≤ 100) (ha : allB xs (-65536) 65536 = true) (hs : s ≤ 14) :
    Calls Tryd.prog 20 #[.slice ao n cap, .int .i64 (s : Int)] w (Made (upL s xs) n w) := by
  have HX := Lib.hid hx
  have HA := Lib.hid ha
  have hp := pow14 s hs
  have hp0 := hp.1
  have hp1 := hp.2
  have HW : Hid (Owns (w.alloc (.cells #[] 3)) w.heap.size (.slice (some ⟨w.heap.size, 0, none⟩) 0 0) 0 (upL s (xs.take 0)) ∧ w.grownBy (w.alloc (.cells #[] 3)) none) := ⟨by simpa [upL] using owns_empty w, grown_alloc _ _ _⟩
  clear hx ha hp
  go_enter Tryd.func20, Tryd.ntmps20
  go_wp2
  go_loopw [5, 6] (fun sv iv wr => ∃ (k : Nat) (bv : Value), bv = sv ∧ k ≤ n ∧ iv = .int .i64 k ∧ Hid (Owns wr w.heap.size bv k (upL s (xs.take k)) ∧ w.grownBy wr none)) (fun _ iv _ => n - (intOf iv).toNat)
  case atStart => exact ⟨0, _, rfl, Nat.zero_le _, rfl, HW⟩
  case round =>
    clear HW
    obtain ⟨k, bv, rfl, hk, rfl, HR⟩ := hrel
    by_cases hlt : k < n
    · obtain ⟨x, hxk⟩ : ∃ x, xs[k]? = some x := ⟨_, List.getElem?_eq_getElem (by rw [HX.out.1]; exact hlt)⟩
      obtain ⟨b, off, rfl, hc⟩ := HX.out.2.resolve_left (by intro e; subst e; simp at hxk)
      have hcx : wr.cell? ⟨b, off + k, none⟩ = some (.int .i64 x) := HR.out.2.cell (hc k x hxk) (by simp)
      have hxr := allB_mem HA.out hxk
      have hu := up_range hxr.1 hxr.2 hs
      have hu0 := hu.1
      have hu1 := hu.2
      have hw : IntKind.i64.wrap (x * 2 ^ s) = x * 2 ^ s := IntWalk.i64_in _ (by omega)
      have hw0 : IntKind.i64.wrap (2 ^ s) = 2 ^ s := IntWalk.i64_in _ (by omega)
      have HT : Hid (upL s (xs.take (k + 1)) = upL s (xs.take k) ++ [x * 2 ^ s]) := map_take hxk
      have HG := Lib.hid HR.out.2.size
      clear hc hxk hxr hu
      go_wp2
      go_region_law (first | (refine step_append_ints rfl _ _ rfl w.heap.size bv k _ rfl ((HR.out.1.grown (grown_drew wr none)).grown (grown_alloc _ _ _)) ⟨wr.heap.size, 0, none⟩ 1 1 [x * 2 ^ s] rfl (ints_one _ _ _) (by omega) (by omega) (by have := HG.out; simp; omega) ?_; intro g' c' w2 ho2 hg2 hn2 hl2))
      all_goals
        go_simp
        have HN : Hid (Owns w2 w.heap.size (.slice (some ⟨g', 0, none⟩) (k + 1) c') (k + 1) (upL s (xs.take (k + 1))) ∧ w.grownBy w2 none) := by
          refine ⟨?_, grown_row (grown_trans HR.out.2 (grown_trans (grown_drew wr none) (grown_alloc _ (.cells #[.int .i64 (x * 2 ^ s)] 3) _))) hg2 (fun g e => Owns.block HR.out.1 g e)⟩
          rw [HT.out]; exact ho2
        clear HR HG ho2 hg2 hn2 hl2 hw hw0 hcx
        go_wp2
        go_roundw
        case rel => exact ⟨k + 1, _, rfl, by omega, by go_num, HN⟩
        case measure => simp [intOf]; omega
    · obtain rfl : k = n := by omega
      have HF : Hid (Owns wr w.heap.size bv k (upL s xs) ∧ w.grownBy wr none) := by
        have := HR.out
        rw [List.take_of_length_le (by rw [HX.out.1]; exact Nat.le_refl _)] at this
        exact this
      clear HR
      go_wp2
      go_ret
      exact ⟨_, rfl, HF.out⟩

theorem own_setH {w w' : World} {base n g c k : Nat} {xs : List Int} {z : Int} (h : Owns w' base (.slice (some ⟨g, 0, none⟩) n c) n xs) (hg : w.grownBy w' none) (hb : w.heap.size ≤ base) :
    Owns (w'.setCell ⟨g, k, none⟩ (.int .i64 z)) base (.slice (some ⟨g, 0, none⟩) n c) n (xs.set k z) ∧ w.grownBy (w'.setCell ⟨g, k, none⟩ (.int .i64 z)) none := by
  have hst := World.ownsRow.stored h k (.int .i64 z)
  rw [← List.map_set] at hst
  exact ⟨hst.1, grown_row hg hst.2 (fun x e => by injection e with e; subst e; exact Nat.le_trans hb (Owns.block h _ rfl))⟩
theorem zeros_ownH (w : World) (n : Nat) (hn : n ≤ 64) : Owns (w.alloc (.cells (madeCells #[.int .i64 0] n) 3)) w.heap.size (.slice (some ⟨w.heap.size, 0, none⟩) n n) n (List.replicate n 0) := by
  have e := part_zero [] n
  have e2 : (List.replicate n (0 : Int)).map (Value.int .i64) = (madeCells #[Value.int .i64 0] n).toList := by rw [e]; simp [part]
  have hl : (madeCells #[Value.int .i64 0] n).toList.length = n := by rw [← e2]; simp
  refine ⟨by simp, .inr ⟨w.heap.size, n, _, rfl, Nat.le_refl _, heap_alloc_new w _, Nat.le_refl _, by unfold maxLen; omega, by rw [← Array.length_toList, hl]; simp, ?_⟩⟩
  rw [e2]; exact List.take_of_length_le (by rw [hl]; omega)

set_option maxHeartbeats 400000 in
theorem iUpCl (x : Int) (s B : Nat) (w : World) (hc : w.cell? ⟨B, 0, none⟩ = some (.int .i64 (s : Int))) (hs : s ≤ 14) (h0 : -65536 ≤ x) (h1 : x ≤ 65536) :
    Calls Tryd.prog 31 #[.int .i64 x, .pointer (some ⟨B, 0, none⟩)] w fun e w' => e = .returned (.int .i64 (x * 2 ^ s)) ∧ w = w' := by
  have hp := pow14 s hs
  have hp0 := hp.1
  have hp1 := hp.2
  have hu := up_range h0 h1 hs
  have hu0 := hu.1
  have hu1 := hu.2
  have hw : IntKind.i64.wrap (x * 2 ^ s) = x * 2 ^ s := IntWalk.i64_in _ (by omega)
  clear hp hu
  go_enter Tryd.func31, Tryd.ntmps31
  go_wp2
  go_ret
  exact ⟨rfl, rfl⟩
set_option maxRecDepth 100000 in
set_option maxHeartbeats 2000000 in
theorem iUpEach (xs : List Int) (s B n : Nat) (ao : Option Addr) (cap : Nat) (w : World) (hx : Ints w ao n xs) (hn : n ≤ 64) (ha : allB xs (-65536) 65536 = true) (hs : s ≤ 14) (hB : w.cell? ⟨B, 0, none⟩ = some (.int .i64 (s : Int))) :
    Calls Tryd.prog 29 #[.slice ao n cap, .func (.func 31) #[] #[.pointer (some ⟨B, 0, none⟩)]] w (Made (upL s xs) n w) := by
  have HX := Lib.hid hx
  have HA := Lib.hid ha
  have HB := Lib.hid hB
  have hmk := run_make_row' (P := Tryd.prog) 23 3 (.int .i64 0) 8 Tryd.underlying23 info_int rfl .i64 .i64 n (by omega) (by omega)
  have HW : Hid (Owns (w.alloc (.cells (madeCells #[.int .i64 0] n) 3)) w.heap.size (.slice (some ⟨w.heap.size, 0, none⟩) n n) n (mix (upL s xs) (List.replicate n 0) 0) ∧ w.grownBy (w.alloc (.cells (madeCells #[.int .i64 0] n) 3)) none) := by
    rw [mix_zero]; exact ⟨zeros_ownH w n hn, grown_alloc _ _ _⟩
  clear hx ha hB
  go_enter Tryd.func29, Tryd.ntmps29
  go_wp2
  clear hmk
  go_loopw [13] (fun i wr => ∃ k : Nat, k ≤ n ∧ i = .int .i64 k ∧ Hid (Owns wr w.heap.size (.slice (some ⟨w.heap.size, 0, none⟩) n n) n (mix (upL s xs) (List.replicate n 0) k) ∧ w.grownBy wr none)) (fun i _ => n - (intOf i).toNat)
  case atStart => exact ⟨0, Nat.zero_le _, rfl, HW⟩
  case round =>
    clear HW
    obtain ⟨k, hk, rfl, HW⟩ := hrel
    by_cases hlt : k < n
    · obtain ⟨x, hxk⟩ : ∃ x, xs[k]? = some x := ⟨_, List.getElem?_eq_getElem (by rw [HX.out.1]; exact hlt)⟩
      obtain ⟨b, off, rfl, hc⟩ := HX.out.2.resolve_left (by intro e; subst e; simp at hxk)
      have hcx : wr.cell? ⟨b, off + k, none⟩ = some (.int .i64 x) := HW.out.2.cell (hc k x hxk) (by simp)
      have hxr := allB_mem HA.out hxk
      have hl : (upL s xs).length = n := by unfold upL; rw [List.length_map]; exact HX.out.1
      obtain ⟨z, hz⟩ := mix_get (zs := upL s xs) (ys := List.replicate n 0) hl (by simp) hlt
      obtain ⟨q1, q2⟩ := own_cell HW.out.1 hlt hz
      have HN := own_setH (k := k) (z := x * 2 ^ s) HW.out.1 HW.out.2 (Nat.le_refl _)
      rw [mix_set hl (by simp) hlt (map_get hxk)] at HN
      have HN2 := Lib.hid HN
      have hBr := HW.out.2.cell HB.out (by simp)
      clear HW HN hz hc hxk hl
      go_wp2_with fail
      refine (iUpCl x s B wr hBr hs hxr.1 hxr.2).mono ?_
      rintro e w' ⟨rfl, rfl⟩
      clear hxr hBr
      go_wp2
      go_roundw
      case rel => exact ⟨k + 1, by omega, by go_num, HN2⟩
      case measure => simp [intOf]; omega
    · obtain rfl : k = n := by omega
      have HF : Hid (Owns wr w.heap.size (.slice (some ⟨w.heap.size, 0, none⟩) k k) k (upL s xs) ∧ w.grownBy wr none) := by
        have := HW.out
        rw [mix_full (by unfold upL; rw [List.length_map]; exact HX.out.1) (by simp)] at this
        exact this
      clear HW
      go_wp2
      go_ret
      exact ⟨_, rfl, HF.out⟩

set_option maxHeartbeats 400000 in
theorem iDownCl (x : Int) (s B : Nat) (w : World) (hc : w.cell? ⟨B, 0, none⟩ = some (.int .i64 (s : Int))) (hs : s ≤ 14) (h0 : -65536 ≤ x) (h1 : x ≤ 65536) :
    Calls Tryd.prog 30 #[.int .i64 x, .pointer (some ⟨B, 0, none⟩)] w fun e w' => e = .returned (.int .i64 (x / 2 ^ s)) ∧ w = w' := by
  have hp := pow14 s hs
  have hp0 := hp.1
  have hp1 := hp.2
  have hu := down_range h0 h1 hs
  have hu0 := hu.1
  have hu1 := hu.2
  have hw : IntKind.i64.wrap (x / 2 ^ s) = x / 2 ^ s := IntWalk.i64_in _ (by omega)
  clear hp hu
  go_enter Tryd.func30, Tryd.ntmps30
  go_wp2
  go_ret
  exact ⟨rfl, rfl⟩
set_option maxRecDepth 100000 in
set_option maxHeartbeats 2000000 in
theorem iDownEach (xs : List Int) (s B n : Nat) (ao : Option Addr) (cap : Nat) (w : World) (hx : Ints w ao n xs) (hn : n ≤ 64) (ha : allB xs (-65536) 65536 = true) (hs : s ≤ 14) (hB : w.cell? ⟨B, 0, none⟩ = some (.int .i64 (s : Int))) :
    Calls Tryd.prog 29 #[.slice ao n cap, .func (.func 30) #[] #[.pointer (some ⟨B, 0, none⟩)]] w (Made (downL s xs) n w) := by
  have HX := Lib.hid hx
  have HA := Lib.hid ha
  have HB := Lib.hid hB
  have hmk := run_make_row' (P := Tryd.prog) 23 3 (.int .i64 0) 8 Tryd.underlying23 info_int rfl .i64 .i64 n (by omega) (by omega)
  have HW : Hid (Owns (w.alloc (.cells (madeCells #[.int .i64 0] n) 3)) w.heap.size (.slice (some ⟨w.heap.size, 0, none⟩) n n) n (mix (downL s xs) (List.replicate n 0) 0) ∧ w.grownBy (w.alloc (.cells (madeCells #[.int .i64 0] n) 3)) none) := by
    rw [mix_zero]; exact ⟨zeros_ownH w n hn, grown_alloc _ _ _⟩
  clear hx ha hB
  go_enter Tryd.func29, Tryd.ntmps29
  go_wp2
  clear hmk
  go_loopw [13] (fun i wr => ∃ k : Nat, k ≤ n ∧ i = .int .i64 k ∧ Hid (Owns wr w.heap.size (.slice (some ⟨w.heap.size, 0, none⟩) n n) n (mix (downL s xs) (List.replicate n 0) k) ∧ w.grownBy wr none)) (fun i _ => n - (intOf i).toNat)
  case atStart => exact ⟨0, Nat.zero_le _, rfl, HW⟩
  case round =>
    clear HW
    obtain ⟨k, hk, rfl, HW⟩ := hrel
    by_cases hlt : k < n
    · obtain ⟨x, hxk⟩ : ∃ x, xs[k]? = some x := ⟨_, List.getElem?_eq_getElem (by rw [HX.out.1]; exact hlt)⟩
      obtain ⟨b, off, rfl, hc⟩ := HX.out.2.resolve_left (by intro e; subst e; simp at hxk)
      have hcx : wr.cell? ⟨b, off + k, none⟩ = some (.int .i64 x) := HW.out.2.cell (hc k x hxk) (by simp)
      have hxr := allB_mem HA.out hxk
      have hl : (downL s xs).length = n := by unfold downL; rw [List.length_map]; exact HX.out.1
      obtain ⟨z, hz⟩ := mix_get (zs := downL s xs) (ys := List.replicate n 0) hl (by simp) hlt
      obtain ⟨q1, q2⟩ := own_cell HW.out.1 hlt hz
      have HN := own_setH (k := k) (z := x / 2 ^ s) HW.out.1 HW.out.2 (Nat.le_refl _)
      rw [mix_set hl (by simp) hlt (map_get hxk)] at HN
      have HN2 := Lib.hid HN
      have hBr := HW.out.2.cell HB.out (by simp)
      clear HW HN hz hc hxk hl
      go_wp2_with fail
      refine (iDownCl x s B wr hBr hs hxr.1 hxr.2).mono ?_
      rintro e w' ⟨rfl, rfl⟩
      clear hxr hBr
      go_wp2
      go_roundw
      case rel => exact ⟨k + 1, by omega, by go_num, HN2⟩
      case measure => simp [intOf]; omega
    · obtain rfl : k = n := by omega
      have HF : Hid (Owns wr w.heap.size (.slice (some ⟨w.heap.size, 0, none⟩) k k) k (downL s xs) ∧ w.grownBy wr none) := by
        have := HW.out
        rw [mix_full (by unfold downL; rw [List.length_map]; exact HX.out.1) (by simp)] at this
        exact this
      clear HW
      go_wp2
      go_ret
      exact ⟨_, rfl, HF.out⟩

end Go.Proofs.YtikblehndmikoaaDoor
