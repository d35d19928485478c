/-
  The draw of what is quantized. For every code.
-/
import Derived.Test.YtgciofmpnpimcaaDraw
import Derived.Deep.RegionHeld3
namespace Go.Proofs.Ytgciofmpnpimcaa
open Go.RowKit

/-- A drawn list and two numbers: new memory, and nothing old is written. -/
def DrewLII (L : Nat) (w : World) (e : Ending) (w' : World) : Prop :=
  ∃ (ao : Option Addr) (len cap : Nat) (xs : List Int) (d s : Int), e = .returned (.tuple #[.slice ao len cap, .int .i64 d, .int .i64 s]) ∧ len ≤ L ∧ len ≤ cap ∧ (ao = none → cap = 0) ∧ Ints w' ao len xs ∧ w.grownBy w' none

set_option maxRecDepth 100000 in
set_option maxHeartbeats 2000000 in
theorem drawQuant_any (ao : Option Addr) (len cap : Nat) (w : World) (hb : BytesAt w ao len) (hlc : len ≤ cap) (hmax : len ≤ 9223372036854775807) :
    Calls Try.prog 9 #[.slice ao len cap] w (DrewLII 10 w) := by
  obtain ⟨i0, hi, hz0, hz1, hz2⟩ := info_parts info_int
  have hnew := newReader_any ao len cap w hb hlc hmax
  clear hb hlc hmax
  obtain ⟨r, hr⟩ : ∃ r, w.heap.size = r := ⟨_, rfl⟩
  go_enter Try.func9, Try.ntmps9
  go_wp2_with fail
  refine hnew.mono ?_
  rintro e w0 ⟨rfl, hR, hg0⟩
  rw [hr] at hR ⊢
  have HG0 := Lib.hid hg0
  have HRR := Lib.hid hr
  have hrl : r < w0.heap.size := hR.lt
  clear hnew hg0 hr
  go_wp2_with fail
  refine (one_at [1, 2, 3, 8, 0, 9] _ r 0 _ _ (w0.alloc (.cells #[] 3)) (by simp) (hR.alloc _) (by omega) (by decide) (by decide)).mono ?_
  rintro e w1 ⟨n, hn, rfl, hR1, hg1⟩
  have hn0 : 0 ≤ n := by simp at hn; omega
  have hn1 : n ≤ 9 := by simp at hn; omega
  have hO : Owns w1 w0.heap.size (.slice (some ⟨w0.heap.size, 0, none⟩) 0 0) 0 [] := Owns.read (owns_empty w0) hg1 hrl
  obtain ⟨n, rfl⟩ := Int.eq_ofNat_of_zero_le hn0
  have hn2 : n ≤ 9 := by omega
  have HW : Hid (Rdr w1 r (0 + 1) ∧ w0.grownBy w1 (some r) ∧ Owns w1 w0.heap.size (.slice (some ⟨w0.heap.size, 0, none⟩) 0 0) 0 []) := ⟨hR1, grown_trans (grown_alloc _ _ _) hg1, hO⟩
  clear hR hR1 hg1 hO hn hn0 hn1
  go_wp2_with fail
  go_loopw [6, 7] (fun v c wr => ∃ (v0 : Value) (k m : Nat) (xs : List Int), v0 = v ∧ k + m ≤ 9 ∧ c = .int .i64 m ∧ Hid (Rdr wr r (0 + 1 + k) ∧ w0.grownBy wr (some r) ∧ Owns wr w0.heap.size v0 k xs)) (fun _ c _ => (intOf c).toNat)
  case atStart => exact ⟨_, 0, n, [], rfl, by omega, rfl, HW⟩
  case round =>
    obtain ⟨v, k, m, xs, rfl, hkm, rfl, HR⟩ := hrel
    by_cases hm : 0 < m
    · go_wp2_with fail
      refine (pick_any 200 r (0 + 1 + k) _ HR.out.1 (by omega) (by omega)).mono ?_
      rintro e w2 ⟨x, rfl, hx0, hx1, _, hR2, hg2⟩
      have hx2 : x < 200 := hx1 (by omega)
      have HS : Hid (Rdr w2 r (0 + 1 + k + 1) ∧ w0.grownBy w2 (some r) ∧ Owns w2 w0.heap.size v k xs) :=
        ⟨hR2, grown_trans HR.out.2.1 hg2, HR.out.2.2.read hg2 hrl⟩
      have hsz := HS.out.2.1.size
      clear hx1 hR2 hg2
      go_wp2_with (at_builtin; refine append_ints rfl _ _ rfl w0.heap.size v k xs rfl (HS.out.2.2.grown (grown_alloc _ _ _)) (some ⟨w2.heap.size, 0, none⟩) 1 1 [x - 100] rfl (ints_one _ _ _) (fun e => nomatch e) ?c1 ?c2 ?_)
      case c1 => omega
      case c2 => simp; omega
      intro v' w3 hown hgrow
      have HT : Hid (Rdr w3 r (0 + 1 + (k + 1)) ∧ w0.grownBy w3 (some r) ∧ Owns w3 w0.heap.size v' (k + 1) (xs ++ [x - 100])) := by
        refine ⟨?_, ?_, hown⟩
        · exact (Rdr.own (HS.out.1.alloc _) (HS.out.2.2.grown (grown_alloc _ _ _)) hgrow hrl).mono (by omega)
        · exact grown_row (grown_trans HS.out.2.1 (grown_alloc _ _ _)) hgrow (HS.out.2.2.block)
      clear hown hgrow
      go_wp2
      go_roundw
      case rel => exact ⟨v', k + 1, m - 1, xs ++ [x - 100], rfl, by omega, by go_num, HT⟩
      case measure => simp [intOf]; omega
    · obtain ⟨a1, c1, rfl, _, hn1, hx1, _⟩ := HR.out.2.2.reads
      have HX1 := Lib.hid hx1
      have HN1 := Lib.hid hn1
      clear hx1 hn1
      go_wp2_with fail
      refine (one_at [100, 7, 1, 13, 99999, 100000, 0] _ r (0 + 1 + k) _ _ wr rfl HR.out.1 (by omega) (by decide) (by decide)).mono ?_
      rintro e w2 ⟨d, _, rfl, hR2, hg2⟩
      have HS : Hid (Rdr w2 r (0 + 1 + k + 1) ∧ w0.grownBy w2 (some r) ∧ Ints w2 a1 k xs) := ⟨hR2, grown_trans HR.out.2.1 hg2, (HR.out.2.2.read hg2 hrl).toInts⟩
      clear hR2 hg2 HX1 HR
      go_wp2_with fail
      refine (spoil_any xs 100000 a1 k c1 r (0 + 1 + k + 1) _ HS.out.2.2 HN1.out (by omega) HS.out.1 (by omega)).mono ?_
      rintro e w3 ⟨a3, l3, c3, zs, rfl, hl3, hc3, hn3, hx3, hb3, hR3, hg3⟩
      have HS3 : Hid (Rdr w3 r (0 + 1 + k + 1 + 3) ∧ w0.grownBy w3 (some r) ∧ Ints w3 a3 l3 zs ∧ (a3 = none → c3 = 0) ∧ l3 ≤ c3 ∧ ∀ a, a3 = some a → r < a.block) :=
        ⟨hR3, grown_trans HS.out.2.1 hg3, hx3, hn3, hc3, fun a e => by have := (hb3 a e).1; have := HS.out.2.1.size; omega⟩
      clear hR3 hg3 hx3 hn3 hc3 hb3 HS
      go_wp2_with fail
      refine (one_at [0, 3, 8, 10, 14, 15, -1] _ r (0 + 1 + k + 1 + 3) _ _ w3 rfl HS3.out.1 (by omega) (by decide) (by decide)).mono ?_
      rintro e w4 ⟨s, _, rfl, hR4, hg4⟩
      have HF : Hid (l3 ≤ 10 ∧ l3 ≤ c3 ∧ (a3 = none → c3 = 0) ∧ Ints w4 a3 l3 zs ∧ w.grownBy w4 none) := by
        obtain ⟨h1, h2, h3, h4, h5, h6⟩ := HS3.out
        refine ⟨by omega, h5, h4, h3.kept hg4 (fun a e h => by have := h6 a e; injection h with h; omega), ?_⟩
        exact grown_new HG0.out (grown_trans h2 hg4) (by rw [HRR.out]; exact Nat.le_refl _)
      clear HS3 hR4 hg4
      go_wp2
      go_ret3
      exact ⟨a3, l3, c3, zs, d, s, rfl, HF.out⟩

end Go.Proofs.Ytgciofmpnpimcaa
