/-
  The walk of the exact law on AlignBits: it returns true and writes nothing that was there. For every list and count.
-/
import Derived.Test.YtdhfjaoaekdfbaaExBits
import Derived.Test.YtdhfjaoaekdfbaaAlign
import Derived.Test.YtdhfjaoaekdfbaaStruct
namespace Go.Proofs.Ytdhfjaoaekdfbaa
open Go.RowKit

def AlL (xs : List Int) (c : Int) : List Int := if VB xs c then xs else []
theorem AlL_len (xs : List Int) (c : Int) : (AlL xs c).length ≤ 2048 := by
  unfold AlL
  split
  · rename_i h; have := VB_val h; unfold valB at this; rw [Bool.and_eq_true] at this; simpa using this.1
  · simp
theorem sAlign_any (xs ys : List Int) (n : Nat) (ao : Option Addr) (len cap : Nat) (c : Int) (w : World) (hx : Ints w ao len xs) (hn : ao = none → cap = 0) (hlen : len ≤ 4194304) (hy : AlL xs c = ys) (hyn : ys.length = n) :
    Calls Try.prog 22 #[.agg #[.slice ao len cap, .int .i64 c]] w (MadeBits ys n (8 * (n : Int)) w) := by
  subst hyn hy
  unfold AlL
  cases hv : VB xs c with
  | true => simp only [if_true]; rw [hx.1]; exact sAlign_good xs ao len cap c w hx hn hlen hv
  | false => exact sAlign_bad xs ao len cap c w hx hlen hv
theorem iAlign_any (xs ys : List Int) (n : Nat) (ao : Option Addr) (len cap : Nat) (c : Int) (w : World) (hx : Ints w ao len xs) (hn : ao = none → cap = 0) (hlen : len ≤ 4194304) (hy : AlL xs c = ys) (hyn : ys.length = n) :
    Calls Try.prog 20 #[.agg #[.slice ao len cap, .int .i64 c]] w (MadeBits ys n (8 * (n : Int)) w) := by
  subst hyn hy
  unfold AlL
  cases hv : VB xs c with
  | true => simp only [if_true]; rw [hx.1]; exact iAlign_good xs ao len cap c w hx hn hlen hv
  | false => exact iAlign_bad xs ao len cap c w hx hlen hv

set_option maxRecDepth 100000 in
set_option maxHeartbeats 4000000 in
theorem FnExactAlignBits_walk (ao : Option Addr) (len cap : Nat) (c : Int) (w : World) (xs : List Int) (hx : Ints w ao len xs) (hmax : len ≤ 9223372036854775807) :
    Calls Try.prog 12 #[.agg #[.slice ao len cap, .int .i64 c]] w (Holds w) := by
  have ksz := szBits_any ao len cap c 1048576 _ (w.alloc (.cells #[.slice ao len cap, .int .i64 c] 40)) (by decide) (by decide) hmax rfl
  by_cases hlen : 1048576 < len
  · rw [if_neg (by omega)] at ksz
    clear hx
    go_enter Try.func12, Try.ntmps12
    go_wp2_with fail
    refine ksz.mono ?_
    rintro e w1 ⟨rfl, hg⟩
    have HG := Lib.hid (grown_trans (grown_alloc w (.cells #[.slice ao len cap, .int .i64 c] 40) none) hg)
    clear ksz hg
    go_wp2
    go_ret
    exact ⟨rfl, HG.out⟩
  rw [if_pos (by omega)] at ksz
  have hlen' : len ≤ 1048576 := by omega
  have HX := Lib.hid hx
  clear hx hmax hlen
  obtain ⟨ys, hys⟩ : ∃ ys, AlL xs c = ys := ⟨_, rfl⟩
  obtain ⟨n, hn⟩ : ∃ n, ys.length = n := ⟨_, rfl⟩
  have hn' : n ≤ 2048 := by rw [← hn, ← hys]; exact AlL_len xs c
  have HYS := Lib.hid hys
  have HN := Lib.hid hn
  clear hys hn
  go_enter Try.func12, Try.ntmps12
  go_wp2_with fail
  refine ksz.mono ?_
  rintro e w0 ⟨rfl, hg0⟩
  have HM0 := Lib.hid (((Mem.start w).block (.cells #[.slice ao len cap, .int .i64 c] 40)).grown hg0)
  clear ksz hg0
  have qa0 := (two_cells (HM0.out.get (b := w.heap.size) (o := .cells #[.slice ao len cap, .int .i64 c] 40) (by simp))).1
  have qa1 := (two_cells (HM0.out.get (b := w.heap.size) (o := .cells #[.slice ao len cap, .int .i64 c] 40) (by simp))).2
  go_wp2_with fail
  refine (toBits_any xs ao len cap c _ (HX.out.grown HM0.out.g) (by omega)).mono ?_
  rintro e w1 ⟨v1, rfl, ho1, hg1⟩
  obtain ⟨a1, c1, rfl, _, hn1, hx1, _⟩ := ho1.reads
  have HM1 := Lib.hid (HM0.out.grown hg1)
  have HX1 := Lib.hid hx1
  have HN1 := Lib.hid hn1
  clear ho1 hg1 hx1 hn1
  clear qa0 qa1
  go_wp2_with fail
  refine (sAlign_any xs ys n a1 len c1 c _ HX1.out HN1.out (by omega) HYS.out HN.out).mono ?_
  rintro e w2 ⟨v2, rfl, ho2, hg2⟩
  obtain ⟨L2, hs2, hm2⟩ := HM1.out.own hg2 (Nat.le_refl _) ho2
  obtain ⟨a2, c2, rfl, _⟩ := ho2.reads
  have HS2 := Lib.hid hs2
  have HM2 := Lib.hid (hm2.block (.cells #[.slice a2 n c2, .int .i64 (8 * (n : Int))] 25))
  clear ho2 hg2 hs2 hm2
  have qa0 := (two_cells (HM2.out.get (b := w.heap.size) (o := .cells #[.slice ao len cap, .int .i64 c] 40) (by simp))).1
  have qa1 := (two_cells (HM2.out.get (b := w.heap.size) (o := .cells #[.slice ao len cap, .int .i64 c] 40) (by simp))).2
  go_wp2_with fail
  refine (toBits_any xs ao len cap c _ (HX.out.grown HM2.out.g) (by omega)).mono ?_
  rintro e w3 ⟨v3, rfl, ho3, hg3⟩
  obtain ⟨L3, hs3, hm3⟩ := HM2.out.own hg3 (Nat.le_refl _) ho3
  obtain ⟨a3, c3, rfl, _, hn3, hx3, _⟩ := ho3.reads
  have HS3 := Lib.hid hs3
  have HM3 := Lib.hid (hm3.block (.cells #[.slice a3 len c3, .int .i64 c] 25))
  have HN3 := Lib.hid hn3
  clear ho3 hg3 hs3 hm3 hx3 hn3
  clear qa0 qa1
  have qx00 := (two_cells (HM3.out.get (b := w3.heap.size) (o := .cells #[.slice a3 len c3, .int .i64 c] 25) (by simp))).1
  have qx01 := (two_cells (HM3.out.get (b := w3.heap.size) (o := .cells #[.slice a3 len c3, .int .i64 c] 25) (by simp))).2
  go_wp2_with fail
  refine (iAlign_any xs ys n a3 len c3 c _ (HS3.out.toInts HM3.out (by intro p hp; simp [hp])) HN3.out (by omega) HYS.out HN.out).mono ?_
  rintro e w4 ⟨v4, rfl, ho4, hg4⟩
  obtain ⟨L4, hs4, hm4⟩ := HM3.out.own hg4 (Nat.le_refl _) ho4
  obtain ⟨a4, c4, rfl, _⟩ := ho4.reads
  have HS4 := Lib.hid hs4
  have HM4 := Lib.hid (hm4.block (.cells #[.slice a4 n c4, .int .i64 (8 * (n : Int))] 25))
  clear ho4 hg4 hs4 hm4
  clear qx00 qx01
  have qw00 := (two_cells (HM4.out.get (b := w2.heap.size) (o := .cells #[.slice a2 n c2, .int .i64 (8 * (n : Int))] 25) (by simp))).1
  have qw01 := (two_cells (HM4.out.get (b := w2.heap.size) (o := .cells #[.slice a2 n c2, .int .i64 (8 * (n : Int))] 25) (by simp))).2
  have qg00 := (two_cells (HM4.out.get (b := w4.heap.size) (o := .cells #[.slice a4 n c4, .int .i64 (8 * (n : Int))] 25) (by simp))).1
  have qg01 := (two_cells (HM4.out.get (b := w4.heap.size) (o := .cells #[.slice a4 n c4, .int .i64 (8 * (n : Int))] 25) (by simp))).2
  go_wp2_with fail
  refine (eqBits_same ys a4 a2 n c4 c2 (8 * (n : Int)) _ (HS4.out.toInts HM4.out (by intro p hp; simp [hp])) (HS2.out.toInts HM4.out (by intro p hp; simp [hp])) (by omega)).mono ?_
  rintro e w5 ⟨rfl, hg⟩
  have HM5 := Lib.hid (HM4.out.grown hg)
  clear hg
  clear qw00 qw01 qg00 qg01
  have qx00 := (two_cells (HM5.out.get (b := w3.heap.size) (o := .cells #[.slice a3 len c3, .int .i64 c] 25) (by simp))).1
  have qx01 := (two_cells (HM5.out.get (b := w3.heap.size) (o := .cells #[.slice a3 len c3, .int .i64 c] 25) (by simp))).2
  have qa0 := (two_cells (HM5.out.get (b := w.heap.size) (o := .cells #[.slice ao len cap, .int .i64 c] 40) (by simp))).1
  have qa1 := (two_cells (HM5.out.get (b := w.heap.size) (o := .cells #[.slice ao len cap, .int .i64 c] 40) (by simp))).2
  go_wp2_with fail
  go_region_held3 (fun w' => w'.cell? ⟨w3.heap.size, 0, none⟩ = some (.slice a3 len c3) ∧ w'.cell? ⟨w3.heap.size, 1, none⟩ = some (.int .i64 c) ∧ w'.cell? ⟨w.heap.size, 0, none⟩ = some (.slice ao len cap) ∧ w'.cell? ⟨w.heap.size, 1, none⟩ = some (.int .i64 c)) (first | go_keep | exact ⟨by assumption, by assumption, by assumption, by assumption⟩) ((first
    | (go_at_call 40; refine (toBits_any xs ao len cap c _ ((HX.out.grown HM5.out.g).grown (grown_drew _ _)) (by omega)).mono ?_; rintro e w6 ⟨v6, rfl, ho6, hg6⟩; obtain ⟨a6, c6, rfl, _, _, hx6, _⟩ := ho6.reads; have HM6 := Lib.hid ((HM5.out.grown (grown_drew _ _)).grown hg6); have HX6 := Lib.hid hx6; have hS0 := hg6.cell qx00 (by simp); have hS1 := hg6.cell qx01 (by simp); have hS2 := hg6.cell qa0 (by simp); have hS3 := hg6.cell qa1 (by simp); clear ho6 hg6 hx6)
    | (go_at_call 41; refine (eqBits_same xs a3 a6 len c3 c6 c _ (HS3.out.toInts HM6.out (by intro p hp; simp [hp])) HX6.out (by omega)).mono ?_; rintro e w7 ⟨rfl, hg7⟩; have HM7 := Lib.hid (HM6.out.grown hg7); have hT0 := hg7.cell hS0 (by simp); have hT1 := hg7.cell hS1 (by simp); have hT2 := hg7.cell hS2 (by simp); have hT3 := hg7.cell hS3 (by simp); clear hg7)))
  clear hS0 hS1 hS2 hS3 hT0 hT1 hT2 hT3 qx00 qx01 qa0 qa1
  have qx00 := (two_cells (HM7.out.get (b := w3.heap.size) (o := .cells #[.slice a3 len c3, .int .i64 c] 25) (by simp))).1
  have qx01 := (two_cells (HM7.out.get (b := w3.heap.size) (o := .cells #[.slice a3 len c3, .int .i64 c] 25) (by simp))).2
  go_wp2_with fail
  refine (markBits_any xs (.slice a3 len c3) _ len c 1 _ (HM7.out.owns HS3.out (by intro p hp; simp [hp])) (by omega) (by omega) (by omega)).mono ?_
  rintro e w8 ⟨rfl, ho8, hg8⟩
  obtain ⟨L8, _, hm8⟩ := Mem.write (A := [] ++ [(w.heap.size, Obj.cells #[.slice ao len cap, .int .i64 c] 40)] ++ L2 ++ [(w2.heap.size, Obj.cells #[.slice a2 n c2, .int .i64 (8 * (n : Int))] 25)]) (L1 := L3) (B := [(w3.heap.size, Obj.cells #[.slice a3 len c3, .int .i64 c] 25)] ++ L4 ++ [(w4.heap.size, Obj.cells #[.slice a4 n c4, .int .i64 (8 * (n : Int))] 25)]) (HM7.out.cast (by simp)) HS3.out hg8 ho8
  have HM8 := Lib.hid hm8
  clear hm8 ho8 hg8
  clear qx00 qx01
  have qw00 := (two_cells (HM8.out.get (b := w2.heap.size) (o := .cells #[.slice a2 n c2, .int .i64 (8 * (n : Int))] 25) (by simp))).1
  have qw01 := (two_cells (HM8.out.get (b := w2.heap.size) (o := .cells #[.slice a2 n c2, .int .i64 (8 * (n : Int))] 25) (by simp))).2
  have qg00 := (two_cells (HM8.out.get (b := w4.heap.size) (o := .cells #[.slice a4 n c4, .int .i64 (8 * (n : Int))] 25) (by simp))).1
  have qg01 := (two_cells (HM8.out.get (b := w4.heap.size) (o := .cells #[.slice a4 n c4, .int .i64 (8 * (n : Int))] 25) (by simp))).2
  go_wp2_with fail
  refine (eqBits_same ys a4 a2 n c4 c2 (8 * (n : Int)) _ (HS4.out.toInts HM8.out (by intro p hp; simp [hp])) (HS2.out.toInts HM8.out (by intro p hp; simp [hp])) (by omega)).mono ?_
  rintro e w9 ⟨rfl, hg⟩
  have HM9 := Lib.hid (HM8.out.grown hg)
  clear hg
  clear qw00 qw01 qg00 qg01
  have qg00 := (two_cells (HM9.out.get (b := w4.heap.size) (o := .cells #[.slice a4 n c4, .int .i64 (8 * (n : Int))] 25) (by simp))).1
  have qg01 := (two_cells (HM9.out.get (b := w4.heap.size) (o := .cells #[.slice a4 n c4, .int .i64 (8 * (n : Int))] 25) (by simp))).2
  go_wp2_with fail
  refine (markBits_any ys (.slice a4 n c4) _ n (8 * (n : Int)) 1 _ (HM9.out.owns HS4.out (by intro p hp; simp [hp])) (by omega) (by omega) (by omega)).mono ?_
  rintro e w10 ⟨rfl, ho10, hg10⟩
  obtain ⟨L10, hs10, hm10⟩ := Mem.write (A := [] ++ [(w.heap.size, Obj.cells #[.slice ao len cap, .int .i64 c] 40)] ++ L2 ++ [(w2.heap.size, Obj.cells #[.slice a2 n c2, .int .i64 (8 * (n : Int))] 25)] ++ L8 ++ [(w3.heap.size, Obj.cells #[.slice a3 len c3, .int .i64 c] 25)]) (L1 := L4) (B := [(w4.heap.size, Obj.cells #[.slice a4 n c4, .int .i64 (8 * (n : Int))] 25)]) (HM9.out.cast (by simp)) HS4.out hg10 ho10
  have HM10 := Lib.hid hm10
  have HS10 := Lib.hid hs10
  clear hm10 ho10 hg10 hs10
  clear qg00 qg01
  have qg00 := (two_cells (HM10.out.get (b := w4.heap.size) (o := .cells #[.slice a4 n c4, .int .i64 (8 * (n : Int))] 25) (by simp))).1
  have qg01 := (two_cells (HM10.out.get (b := w4.heap.size) (o := .cells #[.slice a4 n c4, .int .i64 (8 * (n : Int))] 25) (by simp))).2
  go_wp2_with fail
  refine (heldBits_any a4 n c4 (8 * (n : Int)) 1 _ (HS10.out.toInts HM10.out (by intro p hp; simp [hp])) (by omega) (by omega) (by omega)).mono ?_
  rintro e w11 ⟨rfl, hg11⟩
  have HM11 := Lib.hid (HM10.out.grown hg11)
  clear hg11
  clear qg00 qg01
  have qa0 := (two_cells (HM11.out.get (b := w.heap.size) (o := .cells #[.slice ao len cap, .int .i64 c] 40) (by simp))).1
  have qa1 := (two_cells (HM11.out.get (b := w.heap.size) (o := .cells #[.slice ao len cap, .int .i64 c] 40) (by simp))).2
  go_wp2_with fail
  refine (toBits_any xs ao len cap c _ (HX.out.grown HM11.out.g) (by omega)).mono ?_
  rintro e w12 ⟨v12, rfl, ho12, hg12⟩
  obtain ⟨a12, c12, rfl, _, hn12, hx12, _⟩ := ho12.reads
  have HM12 := Lib.hid (HM11.out.grown hg12)
  have HX12 := Lib.hid hx12
  have HN12 := Lib.hid hn12
  clear ho12 hg12 hx12 hn12
  clear qa0 qa1
  go_wp2_with fail
  refine (iAlign_any xs ys n a12 len c12 c _ HX12.out HN12.out (by omega) HYS.out HN.out).mono ?_
  rintro e w13 ⟨v13, rfl, ho13, hg13⟩
  obtain ⟨L13, hs13, hm13⟩ := HM12.out.own hg13 (Nat.le_refl _) ho13
  obtain ⟨a13, c13, rfl, _⟩ := ho13.reads
  have HS13 := Lib.hid hs13
  have HM13 := Lib.hid (hm13.block (.cells #[.slice a13 n c13, .int .i64 (8 * (n : Int))] 25))
  clear ho13 hg13 hs13 hm13
  have qw00 := (two_cells (HM13.out.get (b := w2.heap.size) (o := .cells #[.slice a2 n c2, .int .i64 (8 * (n : Int))] 25) (by simp))).1
  have qw01 := (two_cells (HM13.out.get (b := w2.heap.size) (o := .cells #[.slice a2 n c2, .int .i64 (8 * (n : Int))] 25) (by simp))).2
  go_wp2_with fail
  refine (eqBits_same ys a13 a2 n c13 c2 (8 * (n : Int)) _ (HS13.out.toInts HM13.out (by intro p hp; simp [hp])) (HS2.out.toInts HM13.out (by intro p hp; simp [hp])) (by omega)).mono ?_
  rintro e w14 ⟨rfl, hg⟩
  have HM14 := Lib.hid (HM13.out.grown hg)
  clear hg
  clear qw00 qw01
  have qg00 := (two_cells (HM14.out.get (b := w4.heap.size) (o := .cells #[.slice a4 n c4, .int .i64 (8 * (n : Int))] 25) (by simp))).1
  have qg01 := (two_cells (HM14.out.get (b := w4.heap.size) (o := .cells #[.slice a4 n c4, .int .i64 (8 * (n : Int))] 25) (by simp))).2
  go_wp2_with fail
  refine (heldBits_any a4 n c4 (8 * (n : Int)) 1 _ (HS10.out.toInts HM14.out (by intro p hp; simp [hp])) (by omega) (by omega) (by omega)).mono ?_
  rintro e w15 ⟨rfl, hg15⟩
  have HM15 := Lib.hid (HM14.out.grown hg15)
  clear hg15
  clear qg00 qg01
  go_wp2
  go_ret
  exact ⟨rfl, HM15.out.g⟩

end Go.Proofs.Ytdhfjaoaekdfbaa
