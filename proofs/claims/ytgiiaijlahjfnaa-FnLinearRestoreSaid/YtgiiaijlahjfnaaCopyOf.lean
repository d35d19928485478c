/-
  A copy of a list by the program's own function. The list is at most 4194304 numbers long.
-/
import Derived.Test.YtgiiaijlahjfnaaOwn
namespace Go.Proofs.Ytgiiaijlahjfnaa
open Go.RowKit

set_option maxHeartbeats 400000 in
theorem copyOf_any (xs : List Int) (ao : Option Addr) (len cap : Nat) (w : World) (hx : Ints w ao len xs) (hn : ao = none → cap = 0) (hlen : len ≤ 4194304) :
    Calls Try.prog 60 #[.slice ao len cap] w (Made xs len w) := by
  obtain ⟨i0, hi, hz0, hz1, hz2⟩ := info_parts info_int
  cases ao with
  | none =>
    obtain rfl := hn rfl
    have h0 : xs = [] := by rcases hx.2 with h | ⟨b, off, h, _⟩; exact h; cases h
    subst h0
    obtain rfl : len = 0 := by simpa using hx.1.symm
    clear hx
    go_enter Try.func60, Try.ntmps60
    go_wp2_with (at_builtin; refine wpList_append_own_none rfl _ _ 23 rfl w.heap.size 3 i0 1 Try.underlying23 hi (.slice none 0 0) 0 [] rfl (World.ownsRow_nil _ _ _ _) rfl ?_)
    go_ret
    exact ⟨_, rfl, (World.ownsRow_nil _ _ _ _), grown_refl _ _⟩
  | some ad =>
    have hl := hx.1
    have HN : ∀ (j : Nat) (u : Value), (xs.map (Value.int .i64))[j]? = some u → w.cell? (ad.add j) = some u := by
      intro j u hu
      rcases hx.2 with h | ⟨b, off, h, hc⟩
      · subst h; simp at hu
      · injection h with h; subst h
        rw [List.getElem?_map] at hu
        obtain ⟨x, hxj, rfl⟩ := Option.map_eq_some_iff.1 hu
        rw [show (⟨b, off, none⟩ : Addr).add j = ⟨b, off + j, none⟩ by simp [Addr.add]]
        exact hc j x hxj
    have HN' := Lib.hid HN
    have HL := Lib.hid hl
    clear HN hx hl
    go_enter Try.func60, Try.ntmps60
    go_wp2_with (at_builtin; refine wpList_append_own _ rfl _ _ 23 rfl w.heap.size 3 i0 (.int .i64 0) 1 8 Try.underlying23 hi hz0 hz1 hz2 rfl (by decide) (.slice none 0 0) 0 [] rfl (World.ownsRow_nil _ _ _ _) ad len cap (xs.map (Value.int .i64)) rfl ?c1 ?c2 ?c3 ?c4 ?c5 ?c6 ?_)
    case c1 => rw [List.length_map, HL.out, Nat.mul_one]
    case c2 => exact HN'.out
    case c3 => exact ints_oneCell _ _
    case c4 => unfold maxLen; omega
    case c5 => omega
    case c6 => simp
    intro v' w1 hown hgrow _
    have R : Hid (w1.ownsRow w.heap.size 3 1 v' len (xs.map (Value.int .i64)) ∧ w.grownBy w1 none) := by
      exact ⟨hown, hgrow⟩
    clear hown hgrow
    go_wp2
    go_ret
    exact ⟨v', rfl, R.out.1, R.out.2⟩

end Go.Proofs.Ytgiiaijlahjfnaa
