/-
  AlignBits: both texts give the same new bits. For every list and count.
-/
import Derived.Test.YtdhfjaoaekdfbaaValid
import Derived.Test.YtdhfjaoaekdfbaaBits
import Derived.Deep.RegionHeld3
namespace Go.Proofs.Ytdhfjaoaekdfbaa
open Go.RowKit

theorem VB_val {xs : List Int} {c : Int} (h : VB xs c = true) : valB xs = true := by
  unfold VB at h
  simp only [Bool.and_eq_true, inB, decide_eq_true_eq] at h
  unfold valB
  rw [Bool.and_eq_true, decide_eq_true_eq]
  exact ⟨by omega, h.1.2⟩

set_option maxHeartbeats 1000000 in
theorem sAlign_bad (xs : List Int) (ao : Option Addr) (len cap : Nat) (c : Int) (w : World) (hx : Ints w ao len xs) (hlen : len ≤ 4194304) (hv : VB xs c = false) :
    Calls Try.prog 22 #[.agg #[.slice ao len cap, .int .i64 c]] w (MadeBits [] 0 0 w) := by
  have k1 := sValidBits xs ao len cap c false ((w.alloc (.cells #[.slice ao len cap, .int .i64 c] 25)).alloc (.cells #[.slice none 0 0, .int .i64 0] 25)) (hx.grown (grown_trans (grown_alloc _ _ _) (grown_alloc _ _ _))) hlen hv
  have HX := Lib.hid hx
  clear hx hv
  go_enter Try.func22, Try.ntmps22
  go_wp2_with fail
  refine k1.mono ?_
  rintro e w1 ⟨rfl, hg1⟩
  have hA := grown_heap hg1 (heap_alloc2_old w (.cells #[.slice ao len cap, .int .i64 c] 25) (.cells #[.slice none 0 0, .int .i64 0] 25)) (by simp)
  have hB := grown_heap hg1 (heap_alloc2_new w (.cells #[.slice ao len cap, .int .i64 c] 25) (.cells #[.slice none 0 0, .int .i64 0] 25)) (by simp)
  have HG := Lib.hid hg1
  have q0 : w1.cell? ⟨w.heap.size, 0, none⟩ = some (.slice ao len cap) := by rw [cell_of_row w1 _ 0 _ _ _ hA]; rfl
  have r0 : w1.cell? ⟨w.heap.size + 1, 0, none⟩ = some (.slice none 0 0) := by rw [cell_of_row w1 _ 0 _ _ _ hB]; rfl
  have r1 : w1.cell? ⟨w.heap.size + 1, 1, none⟩ = some (.int .i64 0) := by rw [cell_of_row w1 _ 1 _ _ _ hB]; rfl
  have f0 : w1.frozen? ⟨w.heap.size + 1, 0, none⟩ = false := frozen_of_row w1 _ 0 _ _ hB
  have f1 : w1.frozen? ⟨w.heap.size + 1, 1, none⟩ = false := frozen_of_row w1 _ 1 _ _ hB
  have hz := hg1.size
  have R : Hid (w.grownBy ((w1.setCell ⟨w.heap.size + 1, 0, none⟩ (.slice none 0 0)).setCell ⟨w.heap.size + 1, 1, none⟩ (.int .i64 0)) none) :=
    grown_new (grown_new (grown_trans (grown_trans (grown_alloc w (.cells #[.slice ao len cap, .int .i64 c] 25) none) (grown_alloc _ (.cells #[.slice none 0 0, .int .i64 0] 25) none)) hg1) (grown_setCell w1 ⟨w.heap.size + 1, 0, none⟩ _) (by simp)) (grown_setCell _ ⟨w.heap.size + 1, 1, none⟩ _) (by simp)
  clear k1 hg1 hA hB HX
  go_wp2
  exact bodyPost_ret (v := .agg #[.slice none 0 0, .int .i64 0]) (by simp [results, Try.results22, go_sem, r0, r1]) rfl ⟨_, rfl, World.ownsRow_nil _ _ _ _, R.out⟩

set_option maxHeartbeats 1000000 in
theorem iAlign_bad (xs : List Int) (ao : Option Addr) (len cap : Nat) (c : Int) (w : World) (hx : Ints w ao len xs) (hlen : len ≤ 4194304) (hv : VB xs c = false) :
    Calls Try.prog 20 #[.agg #[.slice ao len cap, .int .i64 c]] w (MadeBits [] 0 0 w) := by
  have k1 := iValidBits xs ao len cap c false ((w.alloc (.cells #[.slice ao len cap, .int .i64 c] 25)).alloc (.cells #[.slice none 0 0, .int .i64 0] 25)) (hx.grown (grown_trans (grown_alloc _ _ _) (grown_alloc _ _ _))) hlen hv
  have HX := Lib.hid hx
  clear hx hv
  go_enter Try.func20, Try.ntmps20
  go_wp2_with fail
  refine k1.mono ?_
  rintro e w1 ⟨rfl, hg1⟩
  have hA := grown_heap hg1 (heap_alloc2_old w (.cells #[.slice ao len cap, .int .i64 c] 25) (.cells #[.slice none 0 0, .int .i64 0] 25)) (by simp)
  have hB := grown_heap hg1 (heap_alloc2_new w (.cells #[.slice ao len cap, .int .i64 c] 25) (.cells #[.slice none 0 0, .int .i64 0] 25)) (by simp)
  have HG := Lib.hid hg1
  have q0 : w1.cell? ⟨w.heap.size, 0, none⟩ = some (.slice ao len cap) := by rw [cell_of_row w1 _ 0 _ _ _ hA]; rfl
  have r0 : w1.cell? ⟨w.heap.size + 1, 0, none⟩ = some (.slice none 0 0) := by rw [cell_of_row w1 _ 0 _ _ _ hB]; rfl
  have r1 : w1.cell? ⟨w.heap.size + 1, 1, none⟩ = some (.int .i64 0) := by rw [cell_of_row w1 _ 1 _ _ _ hB]; rfl
  have f0 : w1.frozen? ⟨w.heap.size + 1, 0, none⟩ = false := frozen_of_row w1 _ 0 _ _ hB
  have f1 : w1.frozen? ⟨w.heap.size + 1, 1, none⟩ = false := frozen_of_row w1 _ 1 _ _ hB
  have hz := hg1.size
  have R : Hid (w.grownBy ((w1.setCell ⟨w.heap.size + 1, 0, none⟩ (.slice none 0 0)).setCell ⟨w.heap.size + 1, 1, none⟩ (.int .i64 0)) none) :=
    grown_new (grown_new (grown_trans (grown_trans (grown_alloc w (.cells #[.slice ao len cap, .int .i64 c] 25) none) (grown_alloc _ (.cells #[.slice none 0 0, .int .i64 0] 25) none)) hg1) (grown_setCell w1 ⟨w.heap.size + 1, 0, none⟩ _) (by simp)) (grown_setCell _ ⟨w.heap.size + 1, 1, none⟩ _) (by simp)
  clear k1 hg1 hA hB HX
  go_wp2
  exact bodyPost_ret (v := .agg #[.slice none 0 0, .int .i64 0]) (by simp [results, Try.results20, go_sem, r0, r1]) rfl ⟨_, rfl, World.ownsRow_nil _ _ _ _, R.out⟩

set_option maxRecDepth 100000 in
set_option maxHeartbeats 2000000 in
theorem sAlign_good (xs : List Int) (ao : Option Addr) (len cap : Nat) (c : Int) (w : World) (hx : Ints w ao len xs) (hn : ao = none → cap = 0) (hlen : len ≤ 4194304) (hv : VB xs c = true) :
    Calls Try.prog 22 #[.agg #[.slice ao len cap, .int .i64 c]] w (MadeBits xs len (8 * (len : Int)) w) := by
  have k1 := sValidBits xs ao len cap c true ((w.alloc (.cells #[.slice ao len cap, .int .i64 c] 25)).alloc (.cells #[.slice none 0 0, .int .i64 0] 25)) (hx.grown (grown_trans (grown_alloc _ _ _) (grown_alloc _ _ _))) hlen hv
  have HX := Lib.hid hx
  have HN := Lib.hid hn
  have hw8 : IntKind.i64.wrap (8 * (len : Int)) = 8 * (len : Int) := IntWalk.i64_in _ (by omega)
  clear hx hn hv
  go_enter Try.func22, Try.ntmps22
  go_wp2_with fail
  refine k1.mono ?_
  rintro e w1 ⟨rfl, hg1⟩
  have hA := grown_heap hg1 (heap_alloc2_old w (.cells #[.slice ao len cap, .int .i64 c] 25) (.cells #[.slice none 0 0, .int .i64 0] 25)) (by simp)
  have hB := grown_heap hg1 (heap_alloc2_new w (.cells #[.slice ao len cap, .int .i64 c] 25) (.cells #[.slice none 0 0, .int .i64 0] 25)) (by simp)
  have HG := Lib.hid hg1
  have q0 : w1.cell? ⟨w.heap.size, 0, none⟩ = some (.slice ao len cap) := by rw [cell_of_row w1 _ 0 _ _ _ hA]; rfl
  have HB := Lib.hid hB
  clear k1 hg1 hA hB
  go_wp2_with fail
  go_region_held3 (fun w' => w'.cell? ⟨w.heap.size, 0, none⟩ = some (.slice ao len cap)) (first | go_keep | assumption) ((go_at_call 53; refine (copyInts_any xs ao len cap _ (((HX.out.grown (grown_trans (grown_alloc _ _ _) (grown_alloc _ _ _))).grown HG.out).grown (grown_drew _ _)) HN.out (by omega)).mono ?_; rintro e w2 ⟨v2, rfl, ho2, hg2⟩; obtain ⟨a2, c2, rfl, _, _, _, _⟩ := ho2.reads; have hS := hg2.cell q0 (by simp); have hB2 := grown_heap hg2 HB.out (by simp); have r0 : w2.cell? ⟨w.heap.size + 1, 0, none⟩ = some (.slice none 0 0) := (by rw [cell_of_row w2 _ 0 _ _ _ hB2]; rfl); have r1 : w2.cell? ⟨w.heap.size + 1, 1, none⟩ = some (.int .i64 0) := (by rw [cell_of_row w2 _ 1 _ _ _ hB2]; rfl); have f0 : w2.frozen? ⟨w.heap.size + 1, 0, none⟩ = false := frozen_of_row w2 _ 0 _ _ hB2; have f1 : w2.frozen? ⟨w.heap.size + 1, 1, none⟩ = false := frozen_of_row w2 _ 1 _ _ hB2; have HO2 := Lib.hid ho2; have HG2 := Lib.hid (grown_trans (grown_drew w1 none) hg2); have hz := hg2.size; clear ho2 hg2 hB2))
  have R : Hid (Owns ((w2.setCell ⟨w.heap.size + 1, 0, none⟩ (.slice a2 len c2)).setCell ⟨w.heap.size + 1, 1, none⟩ (.int .i64 (8 * (len : Int)))) w.heap.size (.slice a2 len c2) len xs ∧
      w.grownBy ((w2.setCell ⟨w.heap.size + 1, 0, none⟩ (.slice a2 len c2)).setCell ⟨w.heap.size + 1, 1, none⟩ (.int .i64 (8 * (len : Int)))) none) := by
    have hb : ∀ g, (Value.slice a2 len c2).ownBlock = some g → w1.heap.size ≤ g := fun g e => Owns.block HO2.out g e
    have hs1 : w.heap.size + 2 ≤ w1.heap.size := by have := HG.out.size; simp at this; simpa using this
    have hne : ∀ x, (Value.slice a2 len c2).ownBlock = some x → x ≠ w.heap.size + 1 := fun x e => by have := hb x e; omega
    have hok : (Value.slice a2 len c2).ownBlock = none ∨ (Value.slice a2 len c2).ownBlock ≠ some (w.heap.size + 1) := by
      cases hv : (Value.slice a2 len c2).ownBlock with
      | none => exact Or.inl rfl
      | some x => right; intro e; injection e with e; exact hne x hv e
    exact ⟨(((HO2.out.kept (grown_setCell w2 ⟨w.heap.size + 1, 0, none⟩ (.slice a2 len c2)) hok).kept (grown_setCell _ ⟨w.heap.size + 1, 1, none⟩ (.int .i64 (8 * (len : Int)))) hok)).base_le (by show _ ≤ w1.heap.size; omega),
      grown_new (grown_new (grown_trans (grown_trans (grown_trans (grown_alloc w (.cells #[.slice ao len cap, .int .i64 c] 25) none) (grown_alloc _ (.cells #[.slice none 0 0, .int .i64 0] 25) none)) HG.out) HG2.out) (grown_setCell w2 ⟨w.heap.size + 1, 0, none⟩ _) (by simp)) (grown_setCell _ ⟨w.heap.size + 1, 1, none⟩ _) (by simp)⟩
  go_wp2
  exact bodyPost_ret (v := .agg #[.slice a2 len c2, .int .i64 (8 * (len : Int))]) (by simp [results, Try.results22, go_sem, r0, r1]) rfl ⟨_, rfl, R.out.1, R.out.2⟩

set_option maxHeartbeats 2000000 in
theorem iAlign_good (xs : List Int) (ao : Option Addr) (len cap : Nat) (c : Int) (w : World) (hx : Ints w ao len xs) (hn : ao = none → cap = 0) (hlen : len ≤ 4194304) (hv : VB xs c = true) :
    Calls Try.prog 20 #[.agg #[.slice ao len cap, .int .i64 c]] w (MadeBits xs len (8 * (len : Int)) w) := by
  have hval : valB xs = true := VB_val hv
  have k1 := iValidBits xs ao len cap c true ((w.alloc (.cells #[.slice ao len cap, .int .i64 c] 25)).alloc (.cells #[.slice none 0 0, .int .i64 0] 25)) (hx.grown (grown_trans (grown_alloc _ _ _) (grown_alloc _ _ _))) hlen hv
  have HX := Lib.hid hx
  have HN := Lib.hid hn
  clear hx hn hv
  go_enter Try.func20, Try.ntmps20
  go_wp2_with fail
  refine k1.mono ?_
  rintro e w1 ⟨rfl, hg1⟩
  have hA := grown_heap hg1 (heap_alloc2_old w (.cells #[.slice ao len cap, .int .i64 c] 25) (.cells #[.slice none 0 0, .int .i64 0] 25)) (by simp)
  have hB := grown_heap hg1 (heap_alloc2_new w (.cells #[.slice ao len cap, .int .i64 c] 25) (.cells #[.slice none 0 0, .int .i64 0] 25)) (by simp)
  have HG := Lib.hid hg1
  have q0 : w1.cell? ⟨w.heap.size, 0, none⟩ = some (.slice ao len cap) := by rw [cell_of_row w1 _ 0 _ _ _ hA]; rfl
  have HB := Lib.hid hB
  have k2 := iBitsOf_good xs ao len cap w1 ((HX.out.grown (grown_trans (grown_alloc _ (.cells #[.slice ao len cap, .int .i64 c] 25) _) (grown_alloc _ (.cells #[.slice none 0 0, .int .i64 0] 25) _))).grown HG.out) HN.out hlen hval
  clear k1 hg1 hA hB hval
  go_wp2_with fail
  refine k2.mono ?_
  rintro e w2 ⟨v2, rfl, ho2, hg2⟩
  obtain ⟨a2, c2, rfl, _, _, _, _⟩ := ho2.reads
  have hB2 := grown_heap hg2 HB.out (by simp)
  have r0 : w2.cell? ⟨w.heap.size + 1, 0, none⟩ = some (.slice none 0 0) := by rw [cell_of_row w2 _ 0 _ _ _ hB2]; rfl
  have r1 : w2.cell? ⟨w.heap.size + 1, 1, none⟩ = some (.int .i64 0) := by rw [cell_of_row w2 _ 1 _ _ _ hB2]; rfl
  have f0 : w2.frozen? ⟨w.heap.size + 1, 0, none⟩ = false := frozen_of_row w2 _ 0 _ _ hB2
  have f1 : w2.frozen? ⟨w.heap.size + 1, 1, none⟩ = false := frozen_of_row w2 _ 1 _ _ hB2
  have HO2 := Lib.hid ho2
  have HG2 := Lib.hid hg2
  have hz := hg2.size
  clear k2 ho2 hg2 hB2
  have R : Hid (Owns ((w2.setCell ⟨w.heap.size + 1, 0, none⟩ (.slice a2 len c2)).setCell ⟨w.heap.size + 1, 1, none⟩ (.int .i64 (8 * (len : Int)))) w.heap.size (.slice a2 len c2) len xs ∧
      w.grownBy ((w2.setCell ⟨w.heap.size + 1, 0, none⟩ (.slice a2 len c2)).setCell ⟨w.heap.size + 1, 1, none⟩ (.int .i64 (8 * (len : Int)))) none) := by
    have hb := fun g e => Owns.block HO2.out g e
    have hs1 : w.heap.size + 2 ≤ w1.heap.size := by have := HG.out.size; simp at this; simpa using this
    have hne : ∀ x, (Value.slice a2 len c2).ownBlock = some x → x ≠ w.heap.size + 1 := fun x e => by have := hb x e; omega
    have hok : (Value.slice a2 len c2).ownBlock = none ∨ (Value.slice a2 len c2).ownBlock ≠ some (w.heap.size + 1) := by
      cases hv : (Value.slice a2 len c2).ownBlock with
      | none => exact Or.inl rfl
      | some x => right; intro e; injection e with e; exact hne x hv e
    exact ⟨(((HO2.out.kept (grown_setCell w2 ⟨w.heap.size + 1, 0, none⟩ (.slice a2 len c2)) hok).kept (grown_setCell _ ⟨w.heap.size + 1, 1, none⟩ (.int .i64 (8 * (len : Int)))) hok)).base_le (by omega),
      grown_new (grown_new (grown_trans (grown_trans (grown_trans (grown_alloc w (.cells #[.slice ao len cap, .int .i64 c] 25) none) (grown_alloc _ (.cells #[.slice none 0 0, .int .i64 0] 25) none)) HG.out) HG2.out) (grown_setCell w2 ⟨w.heap.size + 1, 0, none⟩ _) (by simp)) (grown_setCell _ ⟨w.heap.size + 1, 1, none⟩ _) (by simp)⟩
  go_wp2
  exact bodyPost_ret (v := .agg #[.slice a2 len c2, .int .i64 (8 * (len : Int))]) (by simp [results, Try.results20, go_sem, r0, r1]) rfl ⟨_, rfl, R.out.1, R.out.2⟩

end Go.Proofs.Ytdhfjaoaekdfbaa
