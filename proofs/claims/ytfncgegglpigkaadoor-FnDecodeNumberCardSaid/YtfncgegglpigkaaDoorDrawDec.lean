/-
  The draw of a list of bytes that may hold a number, and a place in it. For every code.
-/
import Derived.Test.YtfncgegglpigkaaDoorDrawNum
namespace Go.Proofs.YtfncgegglpigkaaDoor
open Go.RowKit

def DrewDN (w : World) (e : Ending) (w' : World) : Prop :=
  ∃ (ao : Option Addr) (len cap : Nat) (xs : List Int) (at' : Int), e = .returned (.tuple #[.slice ao len cap, .int .i64 at']) ∧ len ≤ 30 ∧ len ≤ cap ∧ (ao = none → cap = 0) ∧ Ints w' ao len xs ∧ w.grownBy w' none

set_option maxRecDepth 100000 in
set_option maxHeartbeats 4000000 in
theorem drawDN_any (ao : Option Addr) (len cap : Nat) (w : World) (hb : BytesAt w ao len) (hlc : len ≤ cap) (hmax : len ≤ 9223372036854775807) :
    Calls Tryd.prog 10 #[.slice ao len cap] w (DrewDN w) := by
  have hc := newReader_any ao len cap w hb hlc hmax
  clear hb hlc hmax
  go_enter Tryd.func10, Tryd.ntmps10
  go_wp2_with fail
  refine hc.mono ?_
  rintro e w1 ⟨rfl, hR, hg⟩
  obtain ⟨r, hr⟩ : ∃ r, w.heap.size = r := ⟨_, rfl⟩
  rw [hr] at hR ⊢
  have hrw : w.heap.size ≤ r := by omega
  have hrl := hR.lt
  have HG1 := Lib.hid hg
  have HR1 := Lib.hid hR
  clear hc hR hg hr
  go_wp2_with fail
  refine (randomBytes_any r 0 _ HR1.out (by omega)).mono ?_
  rintro e w2 ⟨v2, n2, xs, rfl, hn2, ho2, hR2, hg2⟩
  have HO2 := Lib.hid ho2
  have HR2 := Lib.hid hR2
  have HG2 := Lib.hid hg2
  clear ho2 hR2 hg2 HR1
  go_wp2_with fail
  refine (anyNumber_any r (0 + 20) _ HR2.out (by omega)).mono ?_
  rintro e w3 ⟨n, rfl, _, _, hR3, hg3⟩
  have HO3 := Lib.hid (HO2.out.read hg3 hrl)
  have HR3 := Lib.hid hR3
  have HG3 := Lib.hid (grown_trans HG2.out hg3)
  clear hR3 hg3 HO2 HR2 HG2
  obtain ⟨L, k, hk6, _, HS⟩ := enc_both n
  go_wp2_with fail
  refine (HS.out _).mono ?_
  rintro e w4 ⟨v4, rfl, ho4, hg4⟩
  obtain ⟨a4, c4, rfl, hlc4, hnn4, hx4, _⟩ := ho4.reads
  have HO4 := Lib.hid (HO3.out.grown hg4)
  have HR4 := Lib.hid (HR3.out.kept hg4 (by simp))
  have HG4 := Lib.hid (grown_trans HG3.out (grown_any hg4 (some r)))
  have HX4 := Lib.hid hx4
  have HN4 := Lib.hid hnn4
  clear ho4 hg4 hx4 hnn4 HO3 HR3 HG3 HS
  go_wp2_with (at_builtin; refine append_ints rfl _ _ rfl w1.heap.size v2 n2 xs rfl HO4.out a4 k c4 L rfl HX4.out HN4.out (by omega) HG4.out.size ?_)
  intro v5 w5 ho5 hg5
  have HR5 := Lib.hid (Rdr.own HR4.out HO4.out hg5 hrl)
  have HG5 := Lib.hid (grown_row HG4.out hg5 (HO4.out.block))
  obtain ⟨a5, c5, rfl, hlc5, hnn5, hx5, hb5⟩ := ho5.reads
  have HB5 := Lib.hid hb5
  clear hb5
  have HX5 := Lib.hid hx5
  have HN5 := Lib.hid hnn5
  obtain ⟨n5, hn5⟩ : ∃ n5, n2 + k = n5 := ⟨_, rfl⟩
  obtain ⟨zs, hzs⟩ : ∃ zs, xs ++ L = zs := ⟨_, rfl⟩
  rw [hn5] at HX5 hlc5 ⊢
  rw [hzs] at HX5
  have h522 : n5 ≤ 22 := by omega
  have hW5 : w1.heap.size ≤ w5.heap.size := HG5.out.size
  replace HG5 := Lib.hid (grown_new HG1.out HG5.out hrw)
  clear ho5 hg5 hx5 hnn5 hn5 hzs HR4 HO4 HG4 HX4 HN4 hlc4 hk6 hn2 HG1
  go_wp2_with fail
  refine (pick_any ((n5 : Int) + 2) r (0 + 20 + 4) _ HR5.out (by omega) (by omega)).mono ?_
  rintro e w6 ⟨t, rfl, ht0, ht1, _, hR6, hg6⟩
  have HR6 := Lib.hid hR6
  have HG6 := Lib.hid (grown_new HG5.out hg6 hrw)
  have HX6 := Lib.hid (HX5.out.kept hg6 (fun a e e2 => by injection e2 with e2; have := (HB5.out a e).1; omega))
  clear hR6 hg6 HR5 HG5 HX5 ht1
  go_wp2_with fail
  refine (pick_any 3 r (0 + 20 + 4 + 1) _ HR6.out (by omega) (by omega)).mono ?_
  rintro e w7 ⟨q, rfl, hq0, hq1, _, hR7, hg7⟩
  have HR7 := Lib.hid hR7
  have HG7 := Lib.hid (grown_new HG6.out hg7 hrw)
  have HX7 := Lib.hid (HX6.out.kept hg7 (fun a e e2 => by injection e2 with e2; have := (HB5.out a e).1; omega))
  clear hR7 hg7 HR6 HG6 HX6 hq1
  by_cases hq : q = 0
  · subst hq
    go_wp2_with fail
    refine (anyNumber_any r (0 + 20 + 4 + 1 + 1) _ HR7.out (by omega)).mono ?_
    rintro e w8 ⟨n', rfl, _, _, hR8, hg8⟩
    have HR8 := Lib.hid hR8
    have HG8 := Lib.hid (grown_new HG7.out hg8 hrw)
    clear hR8 hg8 HR7 HG7 HX7 HB5 HN5
    obtain ⟨L', k', hk6', _, HS⟩ := enc_both n'
    go_wp2_with fail
    refine (HS.out _).mono ?_
    rintro e w9 ⟨v9, rfl, ho9, hg9⟩
    obtain ⟨a9, c9, rfl, hlc9, hnn9, hx9, hb9⟩ := ho9.reads
    have hr8 := HR8.out.lt
    have HB := Lib.hid (show ∀ a : Addr, a9 = some a → r < a.block from fun a e => by have := (hb9 a e).1; omega)
    have HX9 := Lib.hid hx9
    have HN9 := Lib.hid hnn9
    have HR9 := Lib.hid (HR8.out.kept hg9 (by simp))
    have HG9 := Lib.hid (grown_trans HG8.out hg9)
    clear ho9 hg9 hx9 hnn9 hb9 HR8 HG8 HS
    go_wp2_with fail
    refine (one_lit [128, 191, 192, 255, 256] _ r (0 + 20 + 4 + 1 + 1 + 4) _ w9 HR9.out (by omega) (by simp) (by simp)).mono ?_
    rintro e w20 ⟨z, hz, rfl, hR20, hg20⟩
    have HR20 := Lib.hid hR20
    have HG20 := Lib.hid (grown_new HG9.out hg20 (by omega))
    have HX20 := Lib.hid (HX9.out.kept hg20 (fun a e e2 => by injection e2 with e2; have := (HB.out a e); omega))
    clear hR20 hg20 hz HR9 HG9 HX9
    go_wp2_with fail
    refine (spoil_any L' z a9 k' c9 r (0 + 20 + 4 + 1 + 1 + 4 + 1) _ HX20.out HN9.out (by omega) HR20.out (by omega)).mono ?_
    rintro e w21 ⟨a21, n21, c21, us, rfl, hn21, hlc21, hnn21, hx21, hb21, hR21, hg21⟩
    have HG21 := Lib.hid (grown_new HG20.out hg21 hrw)
    have HX21 := Lib.hid hx21
    have HR21 := Lib.hid hR21
    have hsz21 := HG20.out.size
    have HB21 := Lib.hid hb21
    have hr21 : r < w20.heap.size := HR20.out.lt
    clear hx21 hR21 hg21 hb21 HR20 HG20 HX20
    go_wp2_with fail
    refine (pick_any 20 r (0 + 20 + 4 + 1 + 1 + 4 + 1 + 3) _ HR21.out (by omega) (by omega)).mono ?_
    rintro e w22 ⟨y, rfl, hy0, hy1, _, _, hg22⟩
    have HG22 := Lib.hid (grown_new HG21.out hg22 hrw)
    have HX22 := Lib.hid (HX21.out.kept hg22 (fun a e e2 => by injection e2 with e2; have := (HB21.out a e).1; omega))
    clear hg22 HR21 HG21 HX21 hy1
    by_cases hy : y = 0
    · subst hy
      have HF : Hid (DrewDN w (.returned (.tuple #[.slice a21 n21 c21, .int .i64 (-1)])) w22) := ⟨a21, n21, c21, us, -1, rfl, by omega, hlc21, hnn21, HX22.out, HG22.out⟩
      clear HX22 HG22
      go_wp2
      go_ret2
      exact HF.out
    · have hyb : (y == 0) = false := by simpa using hy
      have HF : Hid (DrewDN w (.returned (.tuple #[.slice a21 n21 c21, .int .i64 0])) w22) := ⟨a21, n21, c21, us, 0, rfl, by omega, hlc21, hnn21, HX22.out, HG22.out⟩
      clear HX22 HG22 hy
      go_wp2
      go_ret2
      exact HF.out
  · have hqb : (q == 0) = false := by simpa using hq
    have HB := Lib.hid (show ∀ a : Addr, a5 = some a → r < a.block from fun a e => by have := (HB5.out a e).1; omega)
    clear HB5 hq
    go_wp2_with fail
    refine (one_lit [128, 191, 192, 255, 256] _ r (0 + 20 + 4 + 1 + 1) _ w7 HR7.out (by omega) (by simp) (by simp)).mono ?_
    rintro e w20 ⟨z, hz, rfl, hR20, hg20⟩
    have HR20 := Lib.hid hR20
    have HG20 := Lib.hid (grown_new HG7.out hg20 (by omega))
    have HX20 := Lib.hid (HX7.out.kept hg20 (fun a e e2 => by injection e2 with e2; have := (HB.out a e); omega))
    clear hR20 hg20 hz HR7 HG7 HX7
    go_wp2_with fail
    refine (spoil_any zs z a5 n5 c5 r (0 + 20 + 4 + 1 + 1 + 1) _ HX20.out HN5.out (by omega) HR20.out (by omega)).mono ?_
    rintro e w21 ⟨a21, n21, c21, us, rfl, hn21, hlc21, hnn21, hx21, hb21, hR21, hg21⟩
    have HG21 := Lib.hid (grown_new HG20.out hg21 hrw)
    have HX21 := Lib.hid hx21
    have HR21 := Lib.hid hR21
    have hsz21 := HG20.out.size
    have HB21 := Lib.hid hb21
    have hr21 : r < w20.heap.size := HR20.out.lt
    clear hx21 hR21 hg21 hb21 HR20 HG20 HX20
    go_wp2_with fail
    refine (pick_any 20 r (0 + 20 + 4 + 1 + 1 + 1 + 3) _ HR21.out (by omega) (by omega)).mono ?_
    rintro e w22 ⟨y, rfl, hy0, hy1, _, _, hg22⟩
    have HG22 := Lib.hid (grown_new HG21.out hg22 hrw)
    have HX22 := Lib.hid (HX21.out.kept hg22 (fun a e e2 => by injection e2 with e2; have := (HB21.out a e).1; omega))
    clear hg22 HR21 HG21 HX21 hy1
    by_cases hy : y = 0
    · subst hy
      have HF : Hid (DrewDN w (.returned (.tuple #[.slice a21 n21 c21, .int .i64 (-1)])) w22) := ⟨a21, n21, c21, us, -1, rfl, by omega, hlc21, hnn21, HX22.out, HG22.out⟩
      clear HX22 HG22
      go_wp2
      go_ret2
      exact HF.out
    · have hyb : (y == 0) = false := by simpa using hy
      have HF : Hid (DrewDN w (.returned (.tuple #[.slice a21 n21 c21, .int .i64 t])) w22) := ⟨a21, n21, c21, us, t, rfl, by omega, hlc21, hnn21, HX22.out, HG22.out⟩
      clear HX22 HG22 hy
      go_wp2
      go_ret2
      exact HF.out

end Go.Proofs.YtfncgegglpigkaaDoor
