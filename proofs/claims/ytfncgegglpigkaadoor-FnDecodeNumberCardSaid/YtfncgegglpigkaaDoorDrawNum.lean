/-
  The draw of a number to encode. For every code.
-/
import Derived.Test.YtfncgegglpigkaaDoorExEnc
import Derived.Test.YtfncgegglpigkaaDoorDraw
namespace Go.Proofs.YtfncgegglpigkaaDoor
open Go.RowKit

set_option maxHeartbeats 1000000 in
theorem anyNumber_any (r P : Nat) (w : World) (hR : Rdr w r P) (hP : P < 900000) :
    Calls Tryd.prog 12 #[.pointer (some ⟨r, 0, none⟩)] w (Drawn (-1) 2147483648 r (P + 4) w) := by
  go_enter Tryd.func12, Tryd.ntmps12
  go_wp2_with fail
  refine (pick_any 200 r P _ hR (by omega) (by omega)).mono ?_
  rintro e w1 ⟨x, rfl, hx0, hx1, _, hR1, hg1⟩
  have hx2 : x < 200 := hx1 (by decide)
  go_wp2_with fail
  refine (pick_any 250 r (P + 1) _ hR1 (by omega) (by omega)).mono ?_
  rintro e w2 ⟨y, rfl, hy0, hy1, _, hR2, hg2⟩
  have hy2 : y < 250 := hy1 (by decide)
  go_wp2_with fail
  refine (pick_any 250 r (P + 2) _ hR2 (by omega) (by omega)).mono ?_
  rintro e w3 ⟨z, rfl, hz0, hz1, _, hR3, hg3⟩
  have hz2 : z < 250 := hz1 (by decide)
  have hm0 : 0 ≤ y * z := Int.mul_nonneg hy0 hz0
  have hm1 : y * z ≤ 62500 := by
    have h1 : y * z ≤ 250 * z := Int.mul_le_mul_of_nonneg_right (by omega) hz0
    omega
  have HR := Lib.hid hR3
  have HG := Lib.hid (grown_trans (grown_trans hg1 hg2) hg3)
  clear hx1 hy1 hz1 hR hR1 hR2 hR3 hg1 hg2 hg3
  go_wp2_with fail
  refine (one_lit [0, 1, 100, 127, 128, 2047, 2048, 65535, 65536, 2097151, 2097152, 67108863, 67108864, 2147483647, 2147483648, -1, x, y * z] _ r (P + 3) _ w3 HR.out (by omega) (by simp) (by simp)).mono ?_
  rintro e w4 ⟨n, hn, rfl, hR4, hg4⟩
  have hn0 : -1 ≤ n ∧ n ≤ 2147483648 := by
    simp only [List.mem_cons, List.not_mem_nil, or_false] at hn
    rcases hn with h | h | h | h | h | h | h | h | h | h | h | h | h | h | h | h | h | h <;> omega
  have HF : Hid (Drawn (-1) 2147483648 r (P + 4) w (.returned (.int .i64 n)) w4) := ⟨n, rfl, hn0.1, hn0.2, hR4, grown_trans HG.out hg4⟩
  clear hn hn0 hR4 hg4
  go_wp2
  go_ret
  exact HF.out

theorem DrawEncodeNumber_any (ao : Option Addr) (len cap : Nat) (w : World) (hb : BytesAt w ao len) (hlc : len ≤ cap) (hmax : len ≤ 9223372036854775807) :
    Calls Tryd.prog 5 #[.slice ao len cap] w (Num (-1) 2147483648 w) := by
  have hc := newReader_any ao len cap w hb hlc hmax
  clear hb hlc hmax
  go_enter Tryd.func5, Tryd.ntmps5
  go_wp2_with fail
  refine hc.mono ?_
  rintro e w1 ⟨rfl, hR, hg⟩
  clear hc
  go_wp2_with fail
  refine (anyNumber_any _ 0 _ hR (by omega)).mono ?_
  rintro e w2 ⟨n, rfl, h0, h1, _, hg2⟩
  have HF : Hid (Num (-1) 2147483648 w (.returned (.int .i64 n)) w2) := ⟨n, rfl, h0, h1, grown_new hg hg2 (Nat.le_refl _)⟩
  clear hR hg h0 h1 hg2
  go_wp2
  go_ret
  exact HF.out

end Go.Proofs.YtfncgegglpigkaaDoor
