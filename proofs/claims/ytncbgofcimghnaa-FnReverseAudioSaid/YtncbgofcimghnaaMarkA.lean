/-
  Marks laid in the rows of audio, and read again: markAudio and heldAudio. No condition.
-/
import Derived.Test.YtncbgofcimghnaaMark
import Derived.Test.YtncbgofcimghnaaMatAudio
import Derived.Test.YtncbgofcimghnaaMem
namespace Go.Proofs.Ytncbgofcimghnaa
open Go.RowKit

theorem Stp.trans {lo hi : Nat} {w w1 w2 : World} (h : Stp lo hi w w1) (k : Stp lo hi w1 w2) : Stp lo hi w w2 := by
  induction k with
  | refl => exact h
  | step _ hg hr ih => exact ih.step hg hr
theorem Stp.of_grown {lo hi : Nat} {w w1 : World} (h : w.grownBy w1 none) : Stp lo hi w w1 := Stp.refl.step h (fun r e => by cases e)
theorem Mem.stp {w0 w w' : World} {lo hi : Nat} {L : List (Nat × Obj)} (m : Mem w0 w L) (h : Stp lo hi w w') (h0 : w0.heap.size ≤ lo) (hd : ∀ p ∈ L, p.1 < lo ∨ hi ≤ p.1) : Mem w0 w' L := by
  refine ⟨?_, fun p hp => h.heap (hd p hp) (m.h p hp), m.n, m.lo⟩
  refine h.keep (fun x => w0.grownBy x none) ?_ m.g
  intro w1 w2 row hp hg hr
  cases row with
  | none => exact grown_trans hp hg
  | some b => exact grown_new hp hg (by have := hr b rfl; omega)
theorem MWin.mat {w : World} {lo hi n cap : Nat} {ao : Option Addr} {xss : List (List Int)} (h : MWin w lo hi (.slice ao n cap) n xss) : Mat w ao n xss := by
  obtain ⟨ao2, c2, hv, _, _, hm, _⟩ := h.own.reads
  injection hv with h1 _ _
  subst h1
  exact hm

set_option maxRecDepth 100000 in
theorem markAudio_any (xss : List (List Int)) (r d : Int) (ao : Option Addr) (lo hi n cap : Nat) (w : World) (hx : MWin w lo hi (.slice ao n cap) n xss) (hs : szL xss ≤ 1048576) :
    Calls Try.prog 34 #[.agg #[.int .i64 r, .int .i64 d, .slice ao n cap], .int .i64 1] w fun e w' => e = .returned (.int .i64 (1 + ((xss.map List.length).sum : Nat))) ∧ (MWin w' lo hi (.slice ao n cap) n (mrk 1 xss) ∧ Stp lo hi w w') := by
  have k1 := markIntSS_any xss (.slice ao n cap) lo hi n 1 (w.alloc (.cells #[.int .i64 r, .int .i64 d, .slice ao n cap] 25)) (hx.grown (grown_alloc _ _ _)) hs (by omega) (by omega)
  clear hx hs
  go_enter Try.func34, Try.ntmps34
  go_wp2_with fail
  refine k1.mono ?_
  rintro e w2 ⟨rfl, hm, hst⟩
  have R := Lib.hid (And.intro hm ((Stp.of_grown (lo := lo) (hi := hi) (grown_alloc w (.cells #[.int .i64 r, .int .i64 d, .slice ao n cap] 25) none)).trans hst))
  clear k1 hm hst
  go_wp2
  go_ret
  exact ⟨rfl, R.out⟩
set_option maxRecDepth 100000 in
theorem heldAudio_any (xss : List (List Int)) (r d : Int) (ao : Option Addr) (n cap : Nat) (w : World) (hx : Mat w ao n (mrk 1 xss)) (hs : szL xss ≤ 1048576) :
    Calls Try.prog 35 #[.agg #[.int .i64 r, .int .i64 d, .slice ao n cap], .int .i64 1] w fun e w' => e = .returned (.int .i64 (1 + ((xss.map List.length).sum : Nat))) ∧ w.grownBy w' none := by
  have k1 := heldIntSS_any xss ao n cap 1 (w.alloc (.cells #[.int .i64 r, .int .i64 d, .slice ao n cap] 25)) (hx.grown (grown_alloc _ _ _)) hs (by omega) (by omega)
  obtain ⟨s, hs2⟩ : ∃ s, (xss.map List.length).sum = s := ⟨_, rfl⟩
  rw [hs2] at k1
  have hk2 : decide (1 + (s : Int) < 0) = false := by simp; omega
  rw [hs2]
  clear hx hs hs2
  go_enter Try.func35, Try.ntmps35
  go_wp2_with fail
  refine k1.mono ?_
  rintro e w2 ⟨rfl, rfl⟩
  clear k1
  go_wp2
  go_ret
  exact ⟨rfl, grown_alloc _ _ _⟩

end Go.Proofs.Ytncbgofcimghnaa
