/-
  The program's fade of a row, and what it makes of all channels at each of its closures. For all channels that can be read.
-/
import Derived.Test.YtncbgofcimghnaaEdC
import Derived.Test.YtncbgofcimghnaaMatAp
namespace Go.Proofs.Ytncbgofcimghnaa
open Go.RowKit

theorem zeros_big (w : World) (n : Nat) (hn : n ≤ 1000000) : Owns (w.alloc (.cells (madeCells #[.int .i64 0] n) 3)) w.heap.size (.slice (some ⟨w.heap.size, 0, none⟩) n n) n (List.replicate n 0) := by
  have hz : madeCells #[.int .i64 0] n = ((List.replicate n (0 : Int)).map (Value.int .i64)).toArray := by
    apply Array.toList_inj.1
    rw [part_zero (List.replicate n 0) n]
    simp [part]
  exact ⟨by simp, Or.inr ⟨w.heap.size, n, madeCells #[.int .i64 0] n, rfl, Nat.le_refl _, heap_alloc_new w _, Nat.le_refl _, by unfold maxLen; omega, by simp [madeCells], by rw [hz]; simp⟩⟩

set_option maxRecDepth 100000 in
set_option maxHeartbeats 2000000 in
theorem iFdd_any (xs : List Int) (n : Nat) (ao : Option Addr) (cap : Nat) (w : World) (hx : Ints w ao n xs) (hn : n ≤ 256) (ha : allB xs (-65536) 65536 = true) :
    Calls Try.prog 52 #[.slice ao n cap] w (Made (fdP n xs) n w) := by
  have HX := Lib.hid hx
  have HA := Lib.hid ha
  have hmk := run_make_row' (P := Try.prog) 39 3 (.int .i64 0) 8 Try.underlying39 info_int rfl .i64 .i64 n (by omega) (by omega)
  have HW : Hid (Owns (w.alloc (.cells (madeCells #[.int .i64 0] n) 3)) w.heap.size (.slice (some ⟨w.heap.size, 0, none⟩) n n) n (mix (fdP n xs) (List.replicate n 0) 0) ∧ w.grownBy (w.alloc (.cells (madeCells #[.int .i64 0] n) 3)) none) := by
    rw [mix_zero]; exact ⟨zeros_big w n (by omega), grown_alloc _ _ _⟩
  clear hx ha
  go_enter Try.func52, Try.ntmps52
  go_wp2
  clear hmk
  go_loopw [11] (fun i wr => ∃ k : Nat, k ≤ n ∧ i = .int .i64 k ∧ Hid (Owns wr w.heap.size (.slice (some ⟨w.heap.size, 0, none⟩) n n) n (mix (fdP n xs) (List.replicate n 0) k) ∧ w.grownBy wr none)) (fun i _ => n - (intOf i).toNat)
  case atStart => exact ⟨0, Nat.zero_le _, rfl, HW⟩
  case round =>
    clear HW
    obtain ⟨k, hk, rfl, HW⟩ := hrel
    by_cases hlt : k < n
    · obtain ⟨x, hxk⟩ : ∃ x, xs[k]? = some x := ⟨_, List.getElem?_eq_getElem (by rw [HX.out.1]; exact hlt)⟩
      obtain ⟨b, off, rfl, hc⟩ := HX.out.2.resolve_left (by intro e; subst e; simp at hxk)
      have hcx : wr.cell? ⟨b, off + k, none⟩ = some (.int .i64 x) := HW.out.2.cell (hc k x hxk) (by simp)
      have hxr := allB_mem HA.out hxk
      have hl : (fdP n xs).length = n := by rw [fdP_len]; exact HX.out.1
      obtain ⟨z, hz⟩ := mix_get (zs := fdP n xs) (ys := List.replicate n 0) hl (by simp) hlt
      obtain ⟨q1, q2⟩ := own_cell HW.out.1 hlt hz
      have hm := mul_range (a := x) (b := (k : Int)) (A := 65536) (B := 256) hxr.1 hxr.2 (by omega) (by omega) (by omega)
      obtain ⟨p, hp⟩ : ∃ p, x * (k : Int) = p := ⟨_, rfl⟩
      rw [hp] at hm
      have hm0 : -16777216 ≤ p := by omega
      have hm1 : p ≤ 16777216 := by omega
      have hw1 : IntKind.i64.wrap (x * (k : Int)) = p := by rw [hp]; exact IntWalk.i64_in _ (by omega)
      have kd := fun W => iRound_any p (n : Int) W (by omega) (by omega) (by omega) (by omega)
      obtain ⟨y, hy⟩ : ∃ y, (2 * p + (n : Int)) / (2 * (n : Int)) = y := ⟨_, rfl⟩
      rw [hy] at kd
      have hyf : fdf n k x = y := by unfold fdf qC; rw [hp]; exact hy
      have HN := own_setH (k := k) (z := y) HW.out.1 HW.out.2 (Nat.le_refl _)
      rw [mix_set hl (by simp) hlt (by rw [fdP_get hxk, hyf])] at HN
      have HN2 := Lib.hid HN
      clear HW HN hz hc hxk hl hm hp hy hyf hxr
      go_wp2_with fail
      refine (kd wr).mono ?_
      rintro e w' ⟨rfl, rfl⟩
      clear kd
      go_wp2
      go_roundw
      case rel => exact ⟨k + 1, by omega, by go_num, HN2⟩
      case measure => simp [intOf]; omega
    · obtain rfl : k = n := by omega
      have HF : Hid (Owns wr w.heap.size (.slice (some ⟨w.heap.size, 0, none⟩) k k) k (fdP k xs) ∧ w.grownBy wr none) := by
        have := HW.out
        rw [mix_full (by rw [fdP_len]; exact HX.out.1) (by simp)] at this
        exact this
      clear HW
      go_wp2
      go_ret
      exact ⟨_, rfl, HF.out⟩

theorem ints_head {w : World} {a : Option Addr} {n s : Nat} {xs : List Int} (h : Ints w a n xs) (hs : s ≤ n) : Ints w a s (xs.take s) := by
  have hl := h.1
  refine ⟨by simp; omega, ?_⟩
  rcases h.2 with e | ⟨b, off, e, hc⟩
  · subst e; exact Or.inl (by simp)
  · refine Or.inr ⟨b, off, e, fun k x hk => hc k x ?_⟩
    rw [List.getElem?_take] at hk
    split at hk
    · exact hk
    · cases hk

set_option maxHeartbeats 2000000 in
theorem iFdCl (xs : List Int) (j B s n : Nat) (a : Option Addr) (c : Nat) (w : World) (hi : Ints w a n xs) (hlc : n ≤ c) (hcm : c ≤ 9223372036854775807) (hnil : a = none → c = 0) (hs : s ≤ n) (hn : n ≤ 256) (ha : allB xs (-65536) 65536 = true)
    (hB : w.cell? ⟨B, 0, none⟩ = some (.int .i64 (s : Int))) :
    Calls Try.prog 51 #[.int .i64 j, .slice a n c, .pointer (some ⟨B, 0, none⟩)] w (RopeOut (fdL s xs) w) := by
  have hl := hi.1
  have hsc : s ≤ c := by omega
  have kF := fun W (hg : w.grownBy W none) => iFdd_any (xs.take s) s a c W ((ints_head hi hs).grown hg) (by omega) (allB_sub ha (fun y hy => List.mem_of_mem_take hy))
  -- the rest of the row as a slice
  have hrest : ∀ (a2 : Option Addr) (n2 c2 : Nat), n2 ≤ c2 → c2 ≤ 9223372036854775807 → (a2 = none → c2 = 0) → Ints w a2 n2 (xs.drop s) → ∀ W, w.grownBy W none → RowAt W (.slice a2 n2 c2) (xs.drop s) := fun a2 n2 c2 h1 h2 h3 h4 W hg => row_of (h4.grown hg) h1 h2 h3
  have hempty : s = n → ∀ a2 : Option Addr, Ints w a2 0 (xs.drop s) := fun e a2 => by
    have : xs.drop s = [] := List.drop_eq_nil_of_le (by omega)
    rw [this]; exact ⟨rfl, Or.inl rfl⟩
  have hfd : fdL s xs = fdP s (xs.take s) ++ xs.drop s := rfl
  have HF := Lib.hid hfd
  have REG : True := trivial
  cases a with
  | none =>
    obtain rfl := hnil rfl
    obtain rfl : s = 0 := by omega
    obtain rfl : n = 0 := by omega
    have HR := Lib.hid (hrest none 0 0 (by omega) (by omega) (fun _ => rfl) (hempty rfl none))
    clear hrest hempty hi hnil hl hfd
    go_enter Try.func51, Try.ntmps51
    go_wp2_with fail
    go_region_held3 (fun w' => w'.cell? ⟨B, 0, none⟩ = some (.int .i64 0)) (first | go_keep | assumption) ((first | (go_at_call 52; refine (kF _ (grown_drew w none)).mono ?_; rintro e w2 ⟨v2, rfl, ho2, hg2⟩; obtain ⟨a2, c2, rfl, hlc2, hnn2, hin2, _⟩ := ho2.reads; have HI2 := Lib.hid hin2; have HG2 := Lib.hid (grown_trans (grown_drew w none) hg2); have hS := hg2.cell hB (by simp); have HROW : Hid (RowAt w2 (.slice a2 0 c2) (fdP 0 (xs.take 0))) := Lib.hid (ho2.rowAt); clear ho2 hg2 hin2)))
    all_goals
      go_wp2
      go_ret
      rw [HF.out]
      exact rope2 HROW.out (HR.out _ HG2.out) HG2.out
  | some x =>
    by_cases hcs : c = s
    · obtain rfl : s = n := by omega
      obtain rfl : s = c := by omega
      have HR := Lib.hid (hrest (some x) 0 0 (by omega) (by omega) (fun e => nomatch e) (hempty rfl _))
      have hz : s - s = 0 := by omega
      clear hrest hempty hi hnil hl hfd
      go_enter Try.func51, Try.ntmps51
      go_wp2_with fail
      go_region_held3 (fun w' => w'.cell? ⟨B, 0, none⟩ = some (.int .i64 (s : Int))) (first | go_keep | assumption) ((first | (go_at_call 52; refine (kF _ (grown_drew w none)).mono ?_; rintro e w2 ⟨v2, rfl, ho2, hg2⟩; obtain ⟨a2, c2, rfl, hlc2, hnn2, hin2, _⟩ := ho2.reads; have HI2 := Lib.hid hin2; have HG2 := Lib.hid (grown_trans (grown_drew w none) hg2); have hS := hg2.cell hB (by simp); have HROW : Hid (RowAt w2 (.slice a2 s c2) (fdP s (xs.take s))) := Lib.hid (ho2.rowAt); clear ho2 hg2 hin2)))
      all_goals
        go_wp2
        go_ret
        rw [HF.out]
        exact rope2 HROW.out (HR.out _ HG2.out) HG2.out
    · have hcs2 : ¬ (c : Int) = (s : Int) := by omega
      obtain ⟨m, hm⟩ : ∃ m, n - s = m := ⟨_, rfl⟩
      have hir : Ints w (some (x.add s)) m (xs.drop s) := by
        rcases hi.2 with e | ⟨b, off, e, hc⟩
        · subst e; simp at hl; exact ⟨by simp; omega, Or.inl (by simp)⟩
        · injection e with e
          subst e
          refine ⟨by simp; omega, Or.inr ⟨b, off + s, by simp [Addr.add], fun k y hk => ?_⟩⟩
          rw [List.getElem?_drop] at hk
          rw [Nat.add_assoc]
          exact hc (s + k) y hk
      have HR := Lib.hid (hrest (some (x.add s)) m (c - s) (by omega) (by omega) (fun e => nomatch e) hir)
      have hsub : ((n : Int) - (s : Int)) = (m : Int) := by omega
      have hsub2 : (n : Int) - (s : Int) = ((n - s : Nat) : Int) := by omega
      clear hrest hempty hi hnil hl hfd hir
      go_enter Try.func51, Try.ntmps51
      go_wp2_with fail
      go_region_held3 (fun w' => w'.cell? ⟨B, 0, none⟩ = some (.int .i64 (s : Int))) (first | go_keep | assumption) ((first | (go_at_call 52; refine (kF _ (grown_drew w none)).mono ?_; rintro e w2 ⟨v2, rfl, ho2, hg2⟩; obtain ⟨a2, c2, rfl, hlc2, hnn2, hin2, _⟩ := ho2.reads; have HI2 := Lib.hid hin2; have HG2 := Lib.hid (grown_trans (grown_drew w none) hg2); have hS := hg2.cell hB (by simp); have HROW : Hid (RowAt w2 (.slice a2 s c2) (fdP s (xs.take s))) := Lib.hid (ho2.rowAt); clear ho2 hg2 hin2)))
      all_goals
        go_wp2
        go_ret
        rw [HF.out]
        exact rope2 HROW.out (HR.out _ HG2.out) HG2.out


end Go.Proofs.Ytncbgofcimghnaa
