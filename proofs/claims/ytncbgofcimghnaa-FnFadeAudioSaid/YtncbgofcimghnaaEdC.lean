/-
  What the program's edits make of a row: the closures. For rows that can be read.
-/
import Derived.Test.YtncbgofcimghnaaEdM
import Derived.Test.YtncbgofcimghnaaCat
import Derived.Test.YtncbgofcimghnaaStA
import Derived.Test.YtncbgofcimghnaaSh
import Derived.Deep.RegionHeld3
namespace Go.Proofs.Ytncbgofcimghnaa
open Go.RowKit

/-- A call gives back a rope with these numbers. -/
def RopeOut (xs : List Int) (w : World) (e : Ending) (w' : World) : Prop :=
  ∃ (pss : List (List Int)) (M n : Nat), e = .returned (.slice (some ⟨M, 0, none⟩) n n) ∧ Mat w' (some ⟨M, 0, none⟩) n pss ∧ n ≤ 2 ∧ pss.flatten = xs ∧ w.grownBy w' none
theorem row_of {w : World} {a : Option Addr} {n c : Nat} {xs : List Int} (h : Ints w a n xs) (h1 : n ≤ c) (h2 : c ≤ 9223372036854775807) (h3 : a = none → c = 0) : RowAt w (.slice a n c) xs := by
  have hl := h.1
  subst hl
  exact ⟨a, c, rfl, h, h1, h2, h3⟩
theorem rope1 {w w1 : World} {u : Value} {xs : List Int} (h : RowAt w1 u xs) (hg : w.grownBy w1 none) : RopeOut xs w (.returned (.slice (some ⟨w1.heap.size, 0, none⟩) 1 1)) (w1.alloc (.cells #[u] 39)) := by
  refine ⟨[xs], w1.heap.size, 1, rfl, ⟨rfl, Or.inr ⟨w1.heap.size, 0, rfl, fun k ys hk => ?_⟩⟩, by omega, by simp, grown_trans hg (grown_alloc _ _ _)⟩
  match k, hk with
  | 0, hk =>
    simp at hk
    subst hk
    exact ⟨u, by rw [cell_of_row _ w1.heap.size 0 _ _ _ (heap_alloc_new w1 _)]; rfl, h.grown (grown_alloc _ _ _)⟩
theorem rope2 {w w1 : World} {u v : Value} {xs ys : List Int} (h : RowAt w1 u xs) (h' : RowAt w1 v ys) (hg : w.grownBy w1 none) : RopeOut (xs ++ ys) w (.returned (.slice (some ⟨w1.heap.size, 0, none⟩) 2 2)) (w1.alloc (.cells #[u, v] 39)) := by
  refine ⟨[xs, ys], w1.heap.size, 2, rfl, ⟨rfl, Or.inr ⟨w1.heap.size, 0, rfl, fun k zs hk => ?_⟩⟩, by omega, by simp, grown_trans hg (grown_alloc _ _ _)⟩
  match k, hk with
  | 0, hk =>
    simp at hk
    subst hk
    exact ⟨u, by rw [cell_of_row _ w1.heap.size 0 _ _ _ (heap_alloc_new w1 _)]; rfl, h.grown (grown_alloc _ _ _)⟩
  | 1, hk =>
    simp at hk
    subst hk
    exact ⟨v, by rw [cell_of_row _ w1.heap.size 1 _ _ _ (heap_alloc_new w1 _)]; rfl, h'.grown (grown_alloc _ _ _)⟩

theorem iRvCl (xs : List Int) (j : Nat) (a : Option Addr) (n c : Nat) (w : World) (h : RowAt w (.slice a n c) xs) :
    Calls Try.prog 54 #[.int .i64 j, .slice a n c] w (RopeOut xs w) := by
  have H := Lib.hid h
  clear h
  go_enter Try.func54, Try.ntmps54
  go_wp2
  go_ret
  exact rope1 H.out (grown_refl _ _)
theorem iJnCl (xs ys : List Int) (j B b off len cap n' c' : Nat) (a a' : Option Addr) (n c : Nat) (w : World) (h : RowAt w (.slice a n c) xs) (h' : RowAt w (.slice a' n' c') ys)
    (hB : w.cell? ⟨B, 2, none⟩ = some (.slice (some ⟨b, off, none⟩) len cap)) (hj : j < len) (hc : w.cell? ⟨b, off + j, none⟩ = some (.slice a' n' c')) :
    Calls Try.prog 47 #[.int .i64 j, .slice a n c, .pointer (some ⟨B, 0, none⟩)] w (RopeOut (xs ++ ys) w) := by
  have H := Lib.hid h
  have H' := Lib.hid h'
  clear h h'
  go_enter Try.func47, Try.ntmps47
  go_wp2
  go_ret
  exact rope2 H.out H'.out (grown_refl _ _)
set_option maxHeartbeats 1000000 in
theorem iCuCl (xs : List Int) (j B B' f t : Nat) (a : Option Addr) (c : Nat) (w : World) (h : RowAt w (.slice a xs.length c) xs) (hft : f ≤ t) (ht : t ≤ xs.length)
    (hB : w.cell? ⟨B, 0, none⟩ = some (.int .i64 (f : Int))) (hB' : w.cell? ⟨B', 0, none⟩ = some (.int .i64 (t : Int))) :
    Calls Try.prog 41 #[.int .i64 j, .slice a xs.length c, .pointer (some ⟨B, 0, none⟩), .pointer (some ⟨B', 0, none⟩)] w (RopeOut (cutR f t xs) w) := by
  obtain ⟨a2, c2, e, hi, hlc, hcm, hnil⟩ := h
  injection e with e1 _ e3
  subst e1 e3
  have htc : t ≤ c := by omega
  by_cases h2 : f < t
  · obtain ⟨b2, off2, rfl, hI2⟩ := ints_cut hi hft ht h2
    have hfc : f < c := by omega
    have hsub : ((t : Int) - (f : Int)) = ((t - f : Nat) : Int) := by omega
    have HR : Hid (RowAt w (.slice (some ⟨b2, off2 + f, none⟩) (t - f) (c - f)) (cutR f t xs)) := row_of hI2 (by omega) (by omega) (fun e => nomatch e)
    generalize xs.length = nx at *
    clear hi hI2 hnil
    go_enter Try.func41, Try.ntmps41
    go_wp2
    go_ret
    exact rope1 HR.out (grown_refl _ _)
  · obtain rfl : f = t := by omega
    have hce : cutR f f xs = [] := by unfold cutR; simp
    rw [hce]
    have hI0 : ∀ ao : Option Addr, Ints w ao 0 [] := fun ao => ⟨rfl, Or.inl rfl⟩
    cases a with
    | none =>
      obtain rfl := hnil rfl
      obtain rfl : f = 0 := by omega
      have HR : Hid (RowAt w (.slice none 0 0) []) := row_of (hI0 _) (by omega) (by omega) (fun _ => rfl)
      have hn0 : xs.length = 0 := by omega
      rw [hn0]
      clear hi hnil hI0 hce hn0 hlc ht
      go_enter Try.func41, Try.ntmps41
      go_wp2
      go_ret
      exact rope1 HR.out (grown_refl _ _)
    | some x =>
      by_cases hcf : c = f
      · have hcf2 : (c : Int) = (f : Int) := by omega
        have HR : Hid (RowAt w (.slice (some x) 0 0) []) := row_of (hI0 _) (by omega) (by omega) (fun e => nomatch e)
        generalize xs.length = nx at *
        clear hi hnil hI0 hce hlc
        go_enter Try.func41, Try.ntmps41
        go_wp2
        go_ret
        exact rope1 HR.out (grown_refl _ _)
      · have hcf2 : ¬ (c : Int) = (f : Int) := by omega
        have HR : Hid (RowAt w (.slice (some (x.add f)) 0 (c - f)) []) := row_of (hI0 _) (by omega) (by omega) (fun e => nomatch e)
        generalize xs.length = nx at *
        clear hi hnil hI0 hce hlc
        go_enter Try.func41, Try.ntmps41
        go_wp2
        go_ret
        exact rope1 HR.out (grown_refl _ _)

end Go.Proofs.Ytncbgofcimghnaa
