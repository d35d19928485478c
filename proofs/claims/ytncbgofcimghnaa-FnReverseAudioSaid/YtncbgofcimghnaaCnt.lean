/-
  The laws' own count of samples, and the first row. For all channels that can be read.
-/
import Derived.Test.YtncbgofcimghnaaMatAudio
namespace Go.Proofs.Ytncbgofcimghnaa
open Go.RowKit

theorem mat_first {w : World} {ao : Option Addr} {len : Nat} {xss : List (List Int)} (h : Mat w ao len xss) (h0 : 0 < len) :
    ∃ (b off : Nat) (a : Option Addr) (c : Nat) (xs : List Int), ao = some ⟨b, off, none⟩ ∧ xss[0]? = some xs ∧ xss.headD [] = xs ∧ w.cell? ⟨b, off, none⟩ = some (.slice a xs.length c) ∧ Ints w a xs.length xs := by
  have hl := h.1
  obtain ⟨xs, hx⟩ : ∃ xs, xss[0]? = some xs := ⟨_, List.getElem?_eq_getElem (by omega)⟩
  obtain ⟨b, off, rfl, hc⟩ := h.2.resolve_left (by intro e; subst e; simp at hx)
  obtain ⟨u, hu, a, c, rfl, hi, _⟩ := hc 0 xs hx
  refine ⟨b, off, a, c, xs, rfl, hx, ?_, by simpa using hu, hi⟩
  cases xss with
  | nil => simp at hx
  | cons y ys => simpa using hx

set_option maxHeartbeats 400000 in
theorem lCount_any (xss : List (List Int)) (ao : Option Addr) (len cap n : Nat) (p q : Int) (w : World) (hx : Mat w ao len xss) (hn : (xss.headD []).length = n) :
    Calls Try.prog 19 #[.agg #[.int .i64 p, .int .i64 q, .slice ao len cap]] w fun e w' => e = .returned (.int .i64 (n : Int)) ∧ w.grownBy w' none := by
  by_cases h0 : len = 0
  · subst h0
    have h1 : xss = [] := List.length_eq_zero_iff.1 hx.1
    subst h1
    obtain rfl : n = 0 := by simpa using hn.symm
    clear hx hn
    go_enter Try.func19, Try.ntmps19
    go_wp2
    go_ret
    exact ⟨rfl, grown_alloc _ _ _⟩
  · have hb : ((len : Int) == 0) = false := by simp; omega
    have hlen0 : 0 < len := by omega
    obtain ⟨b, off, a, c, xs, rfl, _, he, hc, _⟩ := mat_first hx hlen0
    rw [he] at hn
    rw [hn] at hc
    have hc2 := (grown_alloc w (.cells #[.int .i64 p, .int .i64 q, .slice (some ⟨b, off, none⟩) len cap] 25) none).cell hc (by simp)
    clear hx hn hc h0 he
    go_enter Try.func19, Try.ntmps19
    go_wp2
    go_ret
    exact ⟨rfl, grown_alloc _ _ _⟩

end Go.Proofs.Ytncbgofcimghnaa
