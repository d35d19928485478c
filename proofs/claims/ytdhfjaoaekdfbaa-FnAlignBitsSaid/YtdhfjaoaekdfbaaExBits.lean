/-
  The walk of the exact law on BitsOf: it returns true and writes nothing that was there. For every list.
-/
import Derived.Test.YtdhfjaoaekdfbaaBits
import Derived.Test.YtdhfjaoaekdfbaaMem
import Derived.Test.YtdhfjaoaekdfbaaZigLaws
namespace Go.Proofs.Ytdhfjaoaekdfbaa
open Go.RowKit

def BoL (xs : List Int) : List Int := if valB xs then xs else []
theorem BoL_len (xs : List Int) : (BoL xs).length ≤ 2048 := by
  unfold BoL
  split
  · rename_i h; unfold valB at h; rw [Bool.and_eq_true] at h; simpa using h.1
  · simp
theorem sBitsOf_any (xs ys : List Int) (n : Nat) (ao : Option Addr) (len cap : Nat) (w : World) (hx : Ints w ao len xs) (hn : ao = none → cap = 0) (hlen : len ≤ 4194304) (hy : BoL xs = ys) (hyn : ys.length = n) :
    Calls Try.prog 44 #[.slice ao len cap] w (MadeBits ys n (8 * (n : Int)) w) := by
  subst hyn hy
  unfold BoL
  cases hv : valB xs with
  | true => simp only [if_true]; rw [hx.1]; exact sBitsOf_good xs ao len cap w hx hn hlen hv
  | false => exact sBitsOf_bad xs ao len cap w hx hlen hv
theorem iBitsOf_any (xs ys : List Int) (n : Nat) (ao : Option Addr) (len cap : Nat) (w : World) (hx : Ints w ao len xs) (hn : ao = none → cap = 0) (hlen : len ≤ 4194304) (hy : BoL xs = ys) (hyn : ys.length = n) :
    Calls Try.prog 46 #[.slice ao len cap] w (MadeBits ys n (8 * (n : Int)) w) := by
  subst hyn hy
  unfold BoL
  cases hv : valB xs with
  | true => simp only [if_true]; rw [hx.1]; exact iBitsOf_good xs ao len cap w hx hn hlen hv
  | false => exact iBitsOf_bad xs ao len cap w hx hlen hv

theorem Owns.toInts {w : World} {base len cap : Nat} {ao : Option Addr} {xs : List Int} (h : Owns w base (.slice ao len cap) len xs) : Ints w ao len xs := by
  obtain ⟨ao', cap', hv, _, _, hx, _⟩ := h.reads
  injection hv with h1 h2 h3; subst h1; exact hx
theorem Stands.toInts {w w0 : World} {L L1 : List (Nat × Obj)} {base len cap : Nat} {ao : Option Addr} {xs : List Int} (hs : Stands L1 base (.slice ao len cap) len xs) (m : Mem w0 w L) (hin : ∀ p ∈ L1, p ∈ L) : Ints w ao len xs :=
  (m.owns hs hin).toInts
theorem eqBits_same (xs : List Int) (ao bo : Option Addr) (len cap cap' : Nat) (c : Int) (w : World) (hx : Ints w ao len xs) (hy : Ints w bo len xs) (hlen : len ≤ 4194304) :
    Calls Try.prog 41 #[.agg #[.slice ao len cap, .int .i64 c], .agg #[.slice bo len cap', .int .i64 c]] w fun e w' => e = .returned (.bool true) ∧ w.grownBy w' none :=
  (eqBits_any xs xs ao bo len cap len cap' c c w hx hy hlen).mono fun e w' ⟨he, hg⟩ => ⟨by rw [he]; simp, hg⟩
theorem two_cells {w : World} {b : Nat} {x y : Value} {t : TypeId} (h : w.heap[b]? = some (.cells #[x, y] t (0, 0))) : w.cell? ⟨b, 0, none⟩ = some x ∧ w.cell? ⟨b, 1, none⟩ = some y :=
  ⟨by rw [cell_of_row w b 0 _ _ _ h]; rfl, by rw [cell_of_row w b 1 _ _ _ h]; rfl⟩

set_option maxHeartbeats 2000000 in
theorem FnExactBitsOf_walk (ao : Option Addr) (len cap : Nat) (w : World) (xs : List Int) (hx : Ints w ao len xs) (_hlc : len ≤ cap) (hmax : len ≤ 9223372036854775807) :
    Calls Try.prog 13 #[.slice ao len cap] w (Holds w) := by
  by_cases hlen : 1048576 < len
  · clear hx
    go_enter Try.func13, Try.ntmps13
    go_wp2
    go_ret
    exact ⟨rfl, grown_refl _ _⟩
  have hlen' : len ≤ 1048576 := by omega
  have HX := Lib.hid hx
  clear hx hmax hlen
  obtain ⟨ys, hys⟩ : ∃ ys, BoL xs = ys := ⟨_, rfl⟩
  obtain ⟨n, hn⟩ : ∃ n, ys.length = n := ⟨_, rfl⟩
  have hn' : n ≤ 2048 := by rw [← hn, ← hys]; exact BoL_len xs
  have HYS := Lib.hid hys
  have HN := Lib.hid hn
  clear hys hn
  go_enter Try.func13, Try.ntmps13
  go_wp2_with fail
  refine (toIntS_any xs ao len cap _ HX.out (by omega)).mono ?_
  rintro e w1 ⟨v1, rfl, ho1, hg1⟩
  obtain ⟨a1, c1, rfl, _, hn1, hx1, _⟩ := ho1.reads
  have HM1 := Lib.hid ((Mem.start w).grown hg1)
  have HX1 := Lib.hid hx1
  have HN1 := Lib.hid hn1
  clear ho1 hg1 hx1 hn1
  go_wp2_with fail
  refine (sBitsOf_any xs ys n a1 len c1 _ HX1.out HN1.out (by omega) HYS.out HN.out).mono ?_
  rintro e w2 ⟨v2, rfl, ho2, hg2⟩
  obtain ⟨L2, hs2, hm2⟩ := HM1.out.own hg2 (Nat.le_refl _) ho2
  obtain ⟨a2, c2, rfl, _⟩ := ho2.reads
  have HS2 := Lib.hid hs2
  have HM2 := Lib.hid (hm2.block (.cells #[.slice a2 n c2, .int .i64 (8 * (n : Int))] 25))
  clear ho2 hg2 hs2 hm2
  go_wp2_with fail
  refine (toIntS_any xs ao len cap _ (HX.out.grown HM2.out.g) (by omega)).mono ?_
  rintro e w3 ⟨v3, rfl, ho3, hg3⟩
  obtain ⟨L3, hs3, hm3⟩ := HM2.out.own hg3 (Nat.le_refl _) ho3
  obtain ⟨a3, c3, rfl, _, hn3, hx3, _⟩ := ho3.reads
  have HS3 := Lib.hid hs3
  have HM3 := Lib.hid hm3
  have HX3 := Lib.hid hx3
  have HN3 := Lib.hid hn3
  clear ho3 hg3 hs3 hm3 hx3 hn3
  go_wp2_with fail
  refine (iBitsOf_any xs ys n a3 len c3 _ HX3.out HN3.out (by omega) HYS.out HN.out).mono ?_
  rintro e w4 ⟨v4, rfl, ho4, hg4⟩
  obtain ⟨L4, hs4, hm4⟩ := HM3.out.own hg4 (Nat.le_refl _) ho4
  obtain ⟨a4, c4, rfl, _⟩ := ho4.reads
  have HS4 := Lib.hid hs4
  have HM4 := Lib.hid (hm4.block (.cells #[.slice a4 n c4, .int .i64 (8 * (n : Int))] 25))
  clear ho4 hg4 hs4 hm4
  have q00 := (two_cells (HM4.out.get (b := w2.heap.size) (o := .cells #[.slice a2 n c2, .int .i64 (8 * (n : Int))] 25) (by simp))).1
  have q01 := (two_cells (HM4.out.get (b := w2.heap.size) (o := .cells #[.slice a2 n c2, .int .i64 (8 * (n : Int))] 25) (by simp))).2
  have q10 := (two_cells (HM4.out.get (b := w4.heap.size) (o := .cells #[.slice a4 n c4, .int .i64 (8 * (n : Int))] 25) (by simp))).1
  have q11 := (two_cells (HM4.out.get (b := w4.heap.size) (o := .cells #[.slice a4 n c4, .int .i64 (8 * (n : Int))] 25) (by simp))).2
  go_wp2_with fail
  refine (eqBits_same ys a4 a2 n c4 c2 (8 * (n : Int)) _ (HS4.out.toInts HM4.out (by intro p hp; simp [hp])) (HS2.out.toInts HM4.out (by intro p hp; simp [hp])) (by omega)).mono ?_
  rintro e w5 ⟨rfl, hg⟩
  have HM5 := Lib.hid (HM4.out.grown hg)
  clear hg q00 q01 q10 q11
  go_wp2_with fail
  refine (toIntS_any xs ao len cap _ (HX.out.grown HM5.out.g) (by omega)).mono ?_
  rintro e w6 ⟨v6, rfl, ho6, hg6⟩
  obtain ⟨a6, c6, rfl, _, _, hx6, _⟩ := ho6.reads
  have HM6 := Lib.hid (HM5.out.grown hg6)
  have HX6 := Lib.hid hx6
  clear ho6 hg6 hx6
  go_wp2_with fail
  refine (eqIntS_any xs xs a3 a6 len c3 len c6 true _ (HS3.out.toInts HM6.out (by intro p hp; simp [hp])) HX6.out (by omega) (by simp)).mono ?_
  rintro e w7 ⟨rfl, hg7⟩
  have HM7 := Lib.hid (HM6.out.grown hg7)
  clear hg7
  go_wp2_with fail
  refine (markIntS_any xs (.slice a3 len c3) _ len 1 _ (HM7.out.owns HS3.out (by intro p hp; simp [hp])) (by omega) (by omega) (by omega)).mono ?_
  rintro e w8 ⟨rfl, ho8, hg8⟩
  obtain ⟨L8, _, hm8⟩ := Mem.write (A := [] ++ L2 ++ [(w2.heap.size, Obj.cells #[.slice a2 n c2, .int .i64 (8 * (n : Int))] 25)]) (L1 := L3) (B := L4 ++ [(w4.heap.size, Obj.cells #[.slice a4 n c4, .int .i64 (8 * (n : Int))] 25)]) (HM7.out.cast (by simp)) HS3.out hg8 ho8
  have HM8 := Lib.hid hm8
  clear hm8 ho8 hg8
  have q00 := (two_cells (HM8.out.get (b := w2.heap.size) (o := .cells #[.slice a2 n c2, .int .i64 (8 * (n : Int))] 25) (by simp))).1
  have q01 := (two_cells (HM8.out.get (b := w2.heap.size) (o := .cells #[.slice a2 n c2, .int .i64 (8 * (n : Int))] 25) (by simp))).2
  have q10 := (two_cells (HM8.out.get (b := w4.heap.size) (o := .cells #[.slice a4 n c4, .int .i64 (8 * (n : Int))] 25) (by simp))).1
  have q11 := (two_cells (HM8.out.get (b := w4.heap.size) (o := .cells #[.slice a4 n c4, .int .i64 (8 * (n : Int))] 25) (by simp))).2
  go_wp2_with fail
  refine (eqBits_same ys a4 a2 n c4 c2 (8 * (n : Int)) _ (HS4.out.toInts HM8.out (by intro p hp; simp [hp])) (HS2.out.toInts HM8.out (by intro p hp; simp [hp])) (by omega)).mono ?_
  rintro e w9 ⟨rfl, hg⟩
  have HM9 := Lib.hid (HM8.out.grown hg)
  clear hg q00 q01 q10 q11
  have q00 := (two_cells (HM9.out.get (b := w2.heap.size) (o := .cells #[.slice a2 n c2, .int .i64 (8 * (n : Int))] 25) (by simp))).1
  have q01 := (two_cells (HM9.out.get (b := w2.heap.size) (o := .cells #[.slice a2 n c2, .int .i64 (8 * (n : Int))] 25) (by simp))).2
  have q10 := (two_cells (HM9.out.get (b := w4.heap.size) (o := .cells #[.slice a4 n c4, .int .i64 (8 * (n : Int))] 25) (by simp))).1
  have q11 := (two_cells (HM9.out.get (b := w4.heap.size) (o := .cells #[.slice a4 n c4, .int .i64 (8 * (n : Int))] 25) (by simp))).2
  go_wp2_with fail
  refine (markBits_any ys (.slice a4 n c4) _ n (8 * (n : Int)) 1 _ (HM9.out.owns HS4.out (by intro p hp; simp [hp])) (by omega) (by omega) (by omega)).mono ?_
  rintro e w10 ⟨rfl, ho10, hg10⟩
  obtain ⟨L10, hs10, hm10⟩ := Mem.write (A := [] ++ L2 ++ [(w2.heap.size, Obj.cells #[.slice a2 n c2, .int .i64 (8 * (n : Int))] 25)] ++ L8) (L1 := L4) (B := [(w4.heap.size, Obj.cells #[.slice a4 n c4, .int .i64 (8 * (n : Int))] 25)]) (HM9.out.cast (by simp)) HS4.out hg10 ho10
  have HM10 := Lib.hid hm10
  have HS10 := Lib.hid hs10
  clear hm10 ho10 hg10 hs10 q00 q01 q10 q11
  have q00 := (two_cells (HM10.out.get (b := w2.heap.size) (o := .cells #[.slice a2 n c2, .int .i64 (8 * (n : Int))] 25) (by simp))).1
  have q01 := (two_cells (HM10.out.get (b := w2.heap.size) (o := .cells #[.slice a2 n c2, .int .i64 (8 * (n : Int))] 25) (by simp))).2
  have q10 := (two_cells (HM10.out.get (b := w4.heap.size) (o := .cells #[.slice a4 n c4, .int .i64 (8 * (n : Int))] 25) (by simp))).1
  have q11 := (two_cells (HM10.out.get (b := w4.heap.size) (o := .cells #[.slice a4 n c4, .int .i64 (8 * (n : Int))] 25) (by simp))).2
  go_wp2_with fail
  refine (heldBits_any a4 n c4 (8 * (n : Int)) 1 _ (HS10.out.toInts HM10.out (by intro p hp; simp [hp])) (by omega) (by omega) (by omega)).mono ?_
  rintro e w11 ⟨rfl, hg11⟩
  have HM11 := Lib.hid (HM10.out.grown hg11)
  clear hg11 q00 q01 q10 q11
  go_wp2_with fail
  refine (toIntS_any xs ao len cap _ (HX.out.grown HM11.out.g) (by omega)).mono ?_
  rintro e w12 ⟨v12, rfl, ho12, hg12⟩
  obtain ⟨a12, c12, rfl, _, hn12, hx12, _⟩ := ho12.reads
  have HM12 := Lib.hid (HM11.out.grown hg12)
  have HX12 := Lib.hid hx12
  have HN12 := Lib.hid hn12
  clear ho12 hg12 hx12 hn12
  go_wp2_with fail
  refine (iBitsOf_any xs ys n a12 len c12 _ HX12.out HN12.out (by omega) HYS.out HN.out).mono ?_
  rintro e w13 ⟨v13, rfl, ho13, hg13⟩
  obtain ⟨L13, hs13, hm13⟩ := HM12.out.own hg13 (Nat.le_refl _) ho13
  obtain ⟨a13, c13, rfl, _⟩ := ho13.reads
  have HS13 := Lib.hid hs13
  have HM13 := Lib.hid (hm13.block (.cells #[.slice a13 n c13, .int .i64 (8 * (n : Int))] 25))
  clear ho13 hg13 hs13 hm13
  have q00 := (two_cells (HM13.out.get (b := w2.heap.size) (o := .cells #[.slice a2 n c2, .int .i64 (8 * (n : Int))] 25) (by simp))).1
  have q01 := (two_cells (HM13.out.get (b := w2.heap.size) (o := .cells #[.slice a2 n c2, .int .i64 (8 * (n : Int))] 25) (by simp))).2
  have q10 := (two_cells (HM13.out.get (b := w4.heap.size) (o := .cells #[.slice a4 n c4, .int .i64 (8 * (n : Int))] 25) (by simp))).1
  have q11 := (two_cells (HM13.out.get (b := w4.heap.size) (o := .cells #[.slice a4 n c4, .int .i64 (8 * (n : Int))] 25) (by simp))).2
  go_wp2_with fail
  refine (eqBits_same ys a13 a2 n c13 c2 (8 * (n : Int)) _ (HS13.out.toInts HM13.out (by intro p hp; simp [hp])) (HS2.out.toInts HM13.out (by intro p hp; simp [hp])) (by omega)).mono ?_
  rintro e w14 ⟨rfl, hg⟩
  have HM14 := Lib.hid (HM13.out.grown hg)
  clear hg q00 q01 q10 q11
  have q00 := (two_cells (HM14.out.get (b := w2.heap.size) (o := .cells #[.slice a2 n c2, .int .i64 (8 * (n : Int))] 25) (by simp))).1
  have q01 := (two_cells (HM14.out.get (b := w2.heap.size) (o := .cells #[.slice a2 n c2, .int .i64 (8 * (n : Int))] 25) (by simp))).2
  have q10 := (two_cells (HM14.out.get (b := w4.heap.size) (o := .cells #[.slice a4 n c4, .int .i64 (8 * (n : Int))] 25) (by simp))).1
  have q11 := (two_cells (HM14.out.get (b := w4.heap.size) (o := .cells #[.slice a4 n c4, .int .i64 (8 * (n : Int))] 25) (by simp))).2
  go_wp2_with fail
  refine (heldBits_any a4 n c4 (8 * (n : Int)) 1 _ (HS10.out.toInts HM14.out (by intro p hp; simp [hp])) (by omega) (by omega) (by omega)).mono ?_
  rintro e w15 ⟨rfl, hg15⟩
  have HM15 := Lib.hid (HM14.out.grown hg15)
  clear hg15 q00 q01 q10 q11
  go_wp2
  go_ret
  exact ⟨rfl, HM15.out.g⟩

end Go.Proofs.Ytdhfjaoaekdfbaa
