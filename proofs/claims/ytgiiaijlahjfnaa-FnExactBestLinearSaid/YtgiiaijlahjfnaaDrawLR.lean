/-
  The draw of samples with a predictor. For every code.
-/
import Derived.Test.YtgiiaijlahjfnaaDrawL
namespace Go.Proofs.Ytgiiaijlahjfnaa
open Go.RowKit

def DrewLL (w : World) (e : Ending) (w' : World) : Prop :=
  ∃ (v : Value) (len : Nat) (xs : List Int) (u : Value) (n : Nat) (cs : List Int) (sh : Int), e = .returned (.tuple #[v, .agg #[u, .int .i64 sh]]) ∧ len ≤ 66 ∧ n ≤ 9 ∧ Owns w' w.heap.size v len xs ∧ Owns w' w.heap.size u n cs ∧
    allB xs (-65537) 65537 = true ∧ allB cs (-4096) 4096 = true ∧ -1 ≤ sh ∧ sh ≤ 15 ∧ w.grownBy w' none

set_option maxRecDepth 100000 in
set_option maxHeartbeats 2000000 in
theorem drawLR_any (ao : Option Addr) (len cap : Nat) (w : World) (hb : BytesAt w ao len) (hlc : len ≤ cap) (hmax : len ≤ 9223372036854775807) :
    Calls Try.prog 12 #[.slice ao len cap] w (DrewLL w) := by
  have kr := newReader_any ao len cap (w.alloc (.cells #[.slice none 0 0, .int .i64 0] 25)) (by
    rcases hb with h | ⟨b, off, h1, h2⟩
    · exact Or.inl h
    · exact Or.inr ⟨b, off, h1, fun i hi => by
        obtain ⟨u, hu, hc⟩ := h2 i hi
        exact ⟨u, hu, (grown_alloc w _ none).cell hc (by simp)⟩⟩) hlc hmax
  have HA := Lib.hid (heap_alloc_new w (.cells #[.slice none 0 0, .int .i64 0] 25))
  have HG := Lib.hid (grown_alloc w (.cells #[.slice none 0 0, .int .i64 0] 25) none)
  clear hb
  go_enter Try.func12, Try.ntmps12
  go_wp2_with fail
  refine kr.mono ?_
  rintro e w1 ⟨rfl, hR1, hg1⟩
  obtain ⟨r, hr⟩ : ∃ r, (w.alloc (.cells #[.slice none 0 0, .int .i64 0] 25)).heap.size = r := ⟨_, rfl⟩
  rw [hr] at hR1 ⊢
  have hrw : w.heap.size < r := by rw [← hr]; simp
  have H1 := Lib.hid (grown_heap hg1 HA.out (by simp))
  have HG1 := Lib.hid (grown_trans HG.out hg1)
  have HR1 := Lib.hid hR1
  clear kr hg1 hR1 HA HG hr
  go_wp2_with fail
  refine (anySamples_any r 0 w1 HR1.out (by omega)).mono ?_
  rintro e w2 ⟨v2, n2, xs, rfl, hn2, ho2, ha2, hR2, hg2⟩
  have hrl := HR1.out.lt
  have H2 := Lib.hid (grown_heap hg2 H1.out (fun e => by injection e with e; omega))
  have HO2 := Lib.hid ho2
  have HR2 := Lib.hid hR2
  have HA2 := Lib.hid ha2
  have HG2 := Lib.hid (grown_new HG1.out hg2 (by omega))
  have hs1 := HG1.out.size
  clear ho2 hR2 ha2 hg2 HR1
  go_wp2_with fail
  refine (anyLinear_any r _ w2 HR2.out (by omega)).mono ?_
  rintro e w3 ⟨v3, n3, cs, sh, rfl, hn3, ho3, ha3, hs0, hs15, hR3, hg3⟩
  have H3 := Lib.hid (grown_heap hg3 H2.out (fun e => by injection e with e; omega))
  have HO2 := Lib.hid (HO2.out.read hg3 (by omega))
  have HO3 := Lib.hid ho3
  have HA3 := Lib.hid ha3
  have HG3 := Lib.hid (grown_new HG2.out hg3 (by omega))
  obtain ⟨a3, c3, rfl, _⟩ := ho3.reads
  obtain ⟨a2, c2, rfl, _⟩ := HO2.out.reads
  clear hR3 hg3 ho3 ha3 H2 H1
  have q0 := (two_cells H3.out).1
  have q1 := (two_cells H3.out).2
  have f0 := frozen_of_row w3 _ 0 _ _ H3.out
  have f1 := frozen_of_row w3 _ 1 _ _ H3.out
  go_wp2
  refine bodyPost_ret (v := .tuple #[.slice a2 n2 c2, .agg #[.slice a3 n3 c3, .int .i64 sh]]) (by simp [results, Try.results12, go_sem, q0, q1]) rfl ⟨_, _, xs, _, _, cs, sh, rfl, hn2, hn3, ?_, ?_, HA2.out, HA3.out, hs0, hs15, ?_⟩
  · have e1 : ∀ k, (Value.slice a2 n2 c2).ownBlock = some k → w1.heap.size ≤ k := fun k e => HO2.out.block k e
    have hb0 : w.heap.size < w1.heap.size := by omega
    have hne : (Value.slice a2 n2 c2).ownBlock ≠ some w.heap.size := fun e => by have := e1 _ e; omega
    exact ((HO2.out.set _ _ hne).set _ _ hne).base_le (by omega)
  · have e1 : ∀ k, (Value.slice a3 n3 c3).ownBlock = some k → w2.heap.size ≤ k := fun k e => HO3.out.block k e
    have hs2 := HG2.out.size
    have hr2 := HR2.out.lt
    have hne : (Value.slice a3 n3 c3).ownBlock ≠ some w.heap.size := fun e => by have := e1 _ e; omega
    exact ((HO3.out.set _ _ hne).set _ _ hne).base_le (by omega)
  · exact grown_set (grown_set HG3.out (by simp)) (by simp)

end Go.Proofs.Ytgiiaijlahjfnaa
