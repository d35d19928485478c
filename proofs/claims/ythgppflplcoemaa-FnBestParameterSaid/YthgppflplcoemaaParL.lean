/-
  The library's count of bits, below 2^23.
-/
import Derived.Test.YthgppflplcoemaaPar1
import Derived.Lib.Walk
namespace Go.Proofs.Ythgppflplcoemaa
open Go.RowKit

theorem tabL (y : Int) (h : y.toNat < Lib.len8tab.size) : ((Lib.len8tab[y.toNat]'h).toNat : Int) = Lib.len8 y := by
  unfold Lib.len8
  rw [getElem?_pos Lib.len8tab y.toNat h]
  rfl
set_option maxHeartbeats 4000000 in
set_option maxRecDepth 100000 in
/-- The library's count of bits, below 2^23. -/
theorem iLen64z (x : Int) (w : World) (h0 : 0 ≤ x) (h1 : x ≤ 8388607) :
    Calls Try.prog 34 #[.int .u64 x] w fun e w' => e = .returned (.int .i64 (Lib.bitLen x.toNat)) ∧ w = w' := by
  by_cases h2 : x < 256
  · go_enter Try.func34, Try.ntmps34
    go_wp2
    go_ret
    refine ⟨congrArg Ending.returned (congrArg (Value.int IntKind.i64) ?_), rfl⟩
    rw [tabL]
    have l := Lib.bitLen_le8' (x) (by omega) (by omega)
    rw [Lib.len8_of (x) (by omega) (by omega)]
    unfold wrap64
    omega
  by_cases h3 : x < 65536
  · go_enter Try.func34, Try.ntmps34
    go_wp2
    case isFalse => exfalso; have hs : Lib.len8tab.size = 256 := by decide
                    omega
    go_ret
    refine ⟨congrArg Ending.returned (congrArg (Value.int IntKind.i64) ?_), rfl⟩
    rw [tabL]
    have e : (x / 256).toNat = x.toNat / 256 := by omega
    have l := Lib.bitLen_le8' (x / 256) (by omega) (by omega)
    rw [Lib.len8_of (x / 256) (by omega) (by omega)]
    have s := Lib.bitLen_shift8 x.toNat (by omega) (by omega)
    rw [e] at l ⊢
    unfold wrap64
    omega
  · go_enter Try.func34, Try.ntmps34
    go_wp2
    case isFalse => exfalso; have hs : Lib.len8tab.size = 256 := by decide
                    omega
    go_ret
    refine ⟨congrArg Ending.returned (congrArg (Value.int IntKind.i64) ?_), rfl⟩
    rw [tabL]
    have e : (x / 65536).toNat = x.toNat / 65536 := by omega
    have l := Lib.bitLen_le8' (x / 65536) (by omega) (by omega)
    rw [Lib.len8_of (x / 65536) (by omega) (by omega)]
    have s := Lib.bitLen_shift16 x.toNat (by omega) (by omega)
    rw [e] at l ⊢
    unfold wrap64
    omega
theorem iLen64 (x y : Nat) (w : World) (hx : x < 8388608) (hy : Lib.bitLen x = y) :
    Calls Try.prog 34 #[.int .u64 (x : Int)] w fun e w' => e = .returned (.int .i64 (y : Int)) ∧ w = w' := by
  have := iLen64z (x : Int) w (by omega) (by omega)
  rw [Int.toNat_natCast, hy] at this
  exact this
set_option maxHeartbeats 1000000 in
theorem iLen (x y : Nat) (w : World) (hx : x < 8388608) (hy : Lib.bitLen x = y) :
    Calls Try.prog 29 #[.int .u64 (x : Int)] w fun e w' => e = .returned (.int .i64 (y : Int)) ∧ w = w' := by
  have k := iLen64 x y w hx hy
  have hw : IntKind.u64.wrap (x : Int) = (x : Int) := by rw [IntKind.wrap_u64]; omega
  clear hy
  go_enter Try.func29, Try.ntmps29
  go_wp2_with fail
  refine k.mono ?_
  rintro e w' ⟨rfl, rfl⟩
  clear k
  go_wp2
  go_ret
  exact ⟨rfl, rfl⟩

end Go.Proofs.Ythgppflplcoemaa
