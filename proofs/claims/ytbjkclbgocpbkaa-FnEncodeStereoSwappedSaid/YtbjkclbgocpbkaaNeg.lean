/-
  The laws' negated numbers. At most 1000 numbers, at most 65537 in size.
-/
import Derived.Test.YtbjkclbgocpbkaaOwn
import Derived.Test.YtbjkclbgocpbkaaQMath
import Derived.Deep.LoopGhost
import Derived.IntWalk
namespace Go.Proofs.Ytbjkclbgocpbkaa
open Go.RowKit

theorem own_stepN {w wr w2 : World} {o : Obj} {bv v2 : Value} {n m base : Nat} {ys zs : List Int} (h : Owns wr base bv n ys) (hb : w.heap.size ≤ base) (g : w.grownBy wr none) (hg : (wr.alloc o).grownBy w2 bv.ownBlock) (ho : Owns w2 base v2 m zs) : Owns w2 base v2 m zs ∧ w.grownBy w2 none :=
  ⟨ho, grown_row (grown_trans g (grown_alloc _ _ _)) hg (fun g e => Nat.le_trans hb (h.block g e))⟩

/-- The numbers times -1. -/
def negL (xs : List Int) : List Int := xs.map (fun x => -x)

set_option maxHeartbeats 1000000 in
theorem negated_any (xs : List Int) (ao : Option Addr) (len cap : Nat) (w : World) (hx : Ints w ao len xs) (hlen : len ≤ 1000) (hb : allB xs (-65537) 65537 = true) :
    Calls Try.prog 20 #[.slice ao len cap] w (Made (negL xs) len w) := by
  have HX := Lib.hid hx
  have HB := Lib.hid hb
  have HW : Hid (Owns (w.alloc (.cells #[] 3)) w.heap.size (.slice (some ⟨w.heap.size, 0, none⟩) 0 0) 0 (negL (xs.take 0)) ∧ w.grownBy (w.alloc (.cells #[] 3)) none) := ⟨by simpa [negL] using owns_empty w, grown_alloc _ _ _⟩
  clear hx hb
  go_enter Try.func20, Try.ntmps20
  go_wp2
  go_loopw [3, 4] (fun sv iv wr => ∃ (k : Nat) (bv : Value), bv = sv ∧ k ≤ len ∧ iv = .int .i64 k ∧ Hid (Owns wr w.heap.size bv k (negL (xs.take k)) ∧ w.grownBy wr none)) (fun _ iv _ => len - (intOf iv).toNat)
  case atStart => exact ⟨0, _, rfl, Nat.zero_le _, rfl, HW⟩
  case round =>
    obtain ⟨k, bv, rfl, hk, rfl, HR⟩ := hrel
    by_cases hlt : k < len
    · obtain ⟨x, hxk⟩ : ∃ x, xs[k]? = some x := ⟨_, List.getElem?_eq_getElem (by rw [HX.out.1]; exact hlt)⟩
      obtain ⟨b, off, rfl, hc⟩ := HX.out.2.resolve_left (by intro e; subst e; simp at hxk)
      have hcx : wr.cell? ⟨b, off + k, none⟩ = some (.int .i64 x) := HR.out.2.cell (hc k x hxk) (by simp)
      have hxr := allB_mem HB.out hxk
      have hx0 := hxr.1
      have hx1 := hxr.2
      obtain ⟨a1, c1, rfl, _, _, _, _⟩ := HR.out.1.reads
      have HT : Hid (negL (xs.take (k + 1)) = negL (xs.take k) ++ [-x]) := by show _ = _; unfold negL; rw [List.take_add_one, hxk]; simp
      clear hc hxk hxr
      go_wp2_with (at_builtin; refine append_ints rfl _ _ rfl w.heap.size (.slice a1 k c1) k (negL (xs.take k)) rfl (HR.out.1.grown (grown_alloc _ _ _)) (some ⟨wr.heap.size, 0, none⟩) 1 1 [-x] rfl (ints_one _ _ _) (fun e => nomatch e) ?a1 ?a2 ?_)
      case a1 => omega
      case a2 => have := HR.out.2.size; simp; omega
      intro v2 w2 hown hgrow
      have HN2 := own_stepN HR.out.1 (Nat.le_refl _) HR.out.2 hgrow hown
      rw [← HT.out] at HN2
      have HN3 := Lib.hid HN2
      clear hown hgrow HR HN2
      go_wp2
      go_roundw
      case rel => exact ⟨k + 1, v2, rfl, by omega, by go_num, HN3⟩
      case measure => simp [intOf]; omega
    · obtain rfl : k = len := by omega
      obtain ⟨a1, c1, rfl, _, _, _, _⟩ := HR.out.1.reads
      have HF : Hid (Owns wr w.heap.size (.slice a1 k c1) k (negL xs) ∧ w.grownBy wr none) := by
        have := HR.out
        rw [List.take_of_length_le (by rw [HX.out.1]; exact Nat.le_refl _)] at this
        exact this
      go_wp2
      go_ret
      exact ⟨_, rfl, HF.out⟩

end Go.Proofs.Ytbjkclbgocpbkaa
