/-
  From what a shell of a proof knows of its arguments to what the walks ask, and from what the walks give to what the shell asks. No condition.
-/
import Derived.Test.YtncbgofcimghnaaList
import Derived.Test.YtncbgofcimghnaaNum
namespace Go.Proofs.Ytncbgofcimghnaa.Frame
open Go.RowKit

/-- A slice of integers that came in: nil, or a row of cells. -/
def IsRow (k : IntKind) (w : World) (a : Option Addr) (len cap : Nat) (zs : List Int) : Prop :=
  (a = none ∧ len = 0 ∧ cap = 0 ∧ zs = []) ∨
  ∃ x, a = some x ∧ len ≤ cap ∧ cap ≤ maxLen ∧ zs.length = cap ∧ (∀ i, i < zs.length → w.cell? (x.add i) = some (.int k (zs.getD i 0))) ∧ ∀ n ∈ zs, (Lit.int k n).wf = true

theorem spot_none {w : World} {x : Addr} {v : Value} (h : w.cell? x = some v) : x.spot = none := by
  unfold World.cell? at h
  split at h
  · split at h
    · cases h
    · rename_i hs; simpa using hs
  · cases h
theorem add_none {x : Addr} (h : x.spot = none) (i : Nat) : x.add i = ⟨x.block, x.off + i, none⟩ := by
  obtain ⟨b, o, s⟩ := x
  simp at h; subst h
  simp [Addr.add]

theorem row_at {k : IntKind} {w : World} {a : Option Addr} {len cap : Nat} {zs : List Int} (h : IsRow k w a len cap zs) :
    len ≤ cap ∧ len ≤ 9223372036854775807 ∧ (len = 0 ∨ ∃ b off, a = some ⟨b, off, none⟩ ∧ zs.length = cap ∧ ∀ i, i < len → w.cell? ⟨b, off + i, none⟩ = some (.int k (zs.getD i 0)) ∧ (Lit.int k (zs.getD i 0)).wf = true) := by
  rcases h with ⟨rfl, rfl, rfl, rfl⟩ | ⟨x, rfl, h1, h2, h3, h4, h5⟩
  · exact ⟨Nat.le_refl _, by omega, Or.inl rfl⟩
  · refine ⟨h1, by unfold maxLen at h2; omega, ?_⟩
    by_cases h0 : len = 0
    · exact Or.inl h0
    have hs : x.spot = none := by
      have := spot_none (h4 0 (by omega))
      obtain ⟨b, o, s⟩ := x
      cases s
      · rfl
      · simp [Addr.add] at this
    refine Or.inr ⟨x.block, x.off, ?_, h3, fun i hi => ⟨?_, ?_⟩⟩
    · obtain ⟨b, o, s⟩ := x; simp at hs; subst hs; rfl
    · rw [← add_none hs]; exact h4 i (by omega)
    · exact h5 _ (by rw [List.getD_eq_getElem?_getD, List.getElem?_eq_getElem (by omega)]; exact List.getElem_mem _)

theorem wf_u8 {n : Int} (h : (Lit.int .u8 n).wf = true) : 0 ≤ n ∧ n < 256 := by
  simp [Lit.wf, IntKind.min, IntKind.max, IntKind.bits, IntKind.signed] at h; omega

structure Bytes (w : World) (ao : Option Addr) (len cap : Nat) : Prop where
  at_ : BytesAt w ao len
  cap_ : len ≤ cap
  max_ : len ≤ 9223372036854775807

theorem bytes_row {w : World} {a : Option Addr} {len cap : Nat} {zs : List Int} (h : IsRow .u8 w a len cap zs) : Bytes w a len cap := by
  obtain ⟨h1, h2, h3⟩ := row_at h
  refine ⟨?_, h1, h2⟩
  rcases h3 with h3 | ⟨b, off, ha, _, hc⟩
  · exact Or.inl h3
  · refine Or.inr ⟨b, off, ha, fun i hi => ?_⟩
    have hw := wf_u8 (hc i hi).2
    exact ⟨(zs.getD i 0).toNat, by omega, by rw [(hc i hi).1]; congr 2; omega⟩

theorem holds_below {w : World} {f : FuncId} {P : Program} {args : Array Value} (h : Calls P f args w (Holds w)) :
    Calls P f args w fun e w' => e = .returned (.bool true) ∧ Below w.heap.size w w' :=
  h.mono fun _ _ ⟨he, hg⟩ => ⟨he, grown_below hg⟩
theorem same_grown {w : World} {f : FuncId} {P : Program} {args : Array Value} (h : Calls P f args w (Same w)) :
    Calls P f args w fun e w' => e = .returned (.bool true) ∧ Grown w w' :=
  h.mono fun _ _ ⟨he, hw⟩ => by subst hw; exact ⟨he, Grown.refl _⟩

theorem ints_row {w : World} {a : Option Addr} {len cap : Nat} {zs : List Int} (h : IsRow .i64 w a len cap zs) : Ints w a len (zs.take len) ∧ len ≤ cap ∧ len ≤ 9223372036854775807 := by
  obtain ⟨h1, h2, h3⟩ := row_at h
  refine ⟨?_, h1, h2⟩
  rcases h3 with h3 | ⟨b, off, ha, hz, hc⟩
  · subst h3; exact ⟨by simp, Or.inl (by simp)⟩
  · refine ⟨by simp; omega, Or.inr ⟨b, off, ha, fun k x hx => ?_⟩⟩
    rw [List.getElem?_take] at hx
    split at hx
    · rename_i hk
      rw [(hc k hk).1, List.getD_eq_getElem?_getD, hx]; rfl
    · cases hx

end Go.Proofs.Ytncbgofcimghnaa.Frame
