/-
  The walk of the law that checks are linear. For every code.
-/
import Derived.Test.YtdhfjaoaekdfbaaCrcLaws
namespace Go.Proofs.Ytdhfjaoaekdfbaa
open Go.RowKit

/-- The other list of the law of linearity. -/
def oth (len k : Nat) : List Int := (List.range k).map fun i : Nat => (7 * (i : Int) + (len : Int)) % 256
theorem oth_len (len k : Nat) : (oth len k).length = k := by simp [oth]
theorem oth_succ (len k : Nat) : oth len (k + 1) = oth len k ++ [(7 * (k : Int) + (len : Int)) % 256] := by simp [oth, List.range_succ]
theorem oth_all (len k : Nat) : allB (oth len k) 0 255 = true := by
  unfold allB
  rw [List.all_eq_true]
  intro x hx
  simp only [oth, List.mem_map] at hx
  obtain ⟨i, _, rfl⟩ := hx
  exact inB_true (by omega) (by omega)
theorem xor_succ {xs : List Int} {k len : Nat} {x : Int} (hx : xs[k]? = some x) :
    Crc.xorL (xs.take (k + 1)) (oth len (k + 1)) = Crc.xorL (xs.take k) (oth len k) ++ [((x.toNat ^^^ ((7 * (k : Int) + (len : Int)) % 256).toNat : Nat) : Int)] := by
  have hk := (List.getElem?_eq_some_iff.1 hx).1
  unfold Crc.xorL
  rw [List.take_add_one, hx, oth_succ, List.zipWith_append (by rw [oth_len]; simp; omega)]
  rfl
theorem xor_all {xs ys : List Int} (h1 : allB xs 0 255 = true) (h2 : allB ys 0 255 = true) : allB (Crc.xorL xs ys) 0 255 = true := by
  induction xs generalizing ys with
  | nil => rfl
  | cons x xs ih => cases ys with
    | nil => rfl
    | cons y ys =>
      simp only [allB, List.all_cons, Bool.and_eq_true, inB, decide_eq_true_eq] at h1 h2
      have := ih (ys := ys) h1.2 h2.2
      have hlt : x.toNat ^^^ y.toNat < 2 ^ 8 := Nat.xor_lt_two_pow (by omega) (by omega)
      show (inB ((x.toNat ^^^ y.toNat : Nat) : Int) 0 255 && allB (Crc.xorL xs ys) 0 255) = true
      rw [this, Bool.and_true]
      exact inB_true (by omega) (by omega)

set_option maxHeartbeats 2000000 in
theorem FnCrcLinear_walk (ao : Option Addr) (len cap : Nat) (w : World) (hb : BytesAt w ao len) (hlc : len ≤ cap) (hmax : len ≤ 9223372036854775807) :
    Calls Try.prog 11 #[.slice ao len cap] w (Holds w) := by
  have hc := DrawCrc16_any ao len cap w hb hlc hmax
  clear hb hlc hmax
  by_cases hlen : 1048576 < len
  · clear hc
    go_enter Try.func11, Try.ntmps11
    go_wp2
    go_ret
    exact ⟨rfl, grown_refl _ _⟩
  have hlen' : len ≤ 1048576 := by omega
  clear hlen
  go_enter Try.func11, Try.ntmps11
  go_wp2_with fail
  refine hc.mono ?_
  rintro e w1 ⟨a1, l1, c1, xs, rfl, hl1, hlc1, hn1, hx1, _, hg1⟩
  clear hc
  have k1 := iCrc16 xs a1 l1 c1 _ w1 hx1 (by omega) rfl
  have HG1 := Lib.hid hg1
  have HX1 := Lib.hid hx1
  have hl := hx1.1
  cases hv : valB xs with
  | false =>
    rw [Ck_false hv] at k1
    clear hl hx1 hg1
    go_wp2_with fail
    refine k1.mono ?_
    rintro e w2 ⟨rfl, hg2⟩
    have k2 := sCrc16 xs a1 l1 c1 (-1) w2 (HX1.out.grown hg2) (by omega) (Ck_false hv)
    have HG2 := Lib.hid (grown_trans HG1.out hg2)
    clear hg2 k1 hv
    go_wp2_with fail
    refine k2.mono ?_
    rintro e w' ⟨rfl, rfl⟩
    go_wp2_with fail
    refine k2.mono ?_
    rintro e w' ⟨rfl, rfl⟩
    clear k2
    go_wp2
    go_ret
    exact ⟨rfl, HG2.out⟩
  | true =>
    rw [Ck_true hv] at k1
    have HV := Lib.hid hv
    have hall := valB_all hv
    have hcr := Crc.crc_lt Crc.fits16 xs 0 (by decide) hall
    have HALL := Lib.hid hall
    clear hx1 hg1 hall
    obtain ⟨z, hz⟩ : ∃ z, z = Crc.crc 16 98309 xs 0 := ⟨_, rfl⟩
    rw [← hz] at k1 hcr
    have HZ := Lib.hid hz
    have hz2 : z < 65536 := hcr
    clear hz hcr
    go_wp2_with fail
    refine k1.mono ?_
    rintro e w2 ⟨rfl, hg2⟩
    have k2 := sCrc16 xs a1 l1 c1 (z : Int) w2 (HX1.out.grown hg2) (by omega) (by rw [Ck_true hv, HZ.out])
    have HG2 := Lib.hid (grown_trans HG1.out hg2)
    have HX2 := Lib.hid (HX1.out.grown hg2)
    clear hg2 k1 hv
    go_wp2_with fail
    refine k2.mono ?_
    rintro e w' ⟨rfl, rfl⟩
    clear k2
    have HN1 := Lib.hid hn1
    clear hn1
    go_wp2_with fail
    go_loopw [5, 6, 7] (fun vo vb i wr => ∃ k go co gb cb : Nat, k ≤ l1 ∧ i = .int .i64 k ∧ vo = .slice (some ⟨go, 0, none⟩) k co ∧ vb = .slice (some ⟨gb, 0, none⟩) k cb ∧ go ≠ gb ∧
        Hid (w2.grownBy wr none ∧ Owns wr w2.heap.size (.slice (some ⟨go, 0, none⟩) k co) k (oth len k) ∧ Owns wr w2.heap.size (.slice (some ⟨gb, 0, none⟩) k cb) k (Crc.xorL (xs.take k) (oth len k)))) (fun _ _ i _ => l1 - (intOf i).toNat)
    case atStart =>
      refine ⟨0, w2.heap.size, 0, w2.heap.size + 1, 0, Nat.zero_le _, rfl, rfl, rfl, by omega, grown_trans (grown_alloc _ _ _) (grown_alloc _ _ _), (owns_empty w2).grown (grown_alloc _ _ _), ?_⟩
      have := owns_empty (w2.alloc (.cells #[] 3))
      rw [show (w2.alloc (.cells #[] 3)).heap.size = w2.heap.size + 1 by simp] at this
      exact this.base_le (by omega)
    case round =>
      obtain ⟨k, go, co, gb, cb, hk, rfl, rfl, rfl, hne, HW⟩ := hrel
      by_cases hlt : k < l1
      · obtain ⟨x, hxk⟩ : ∃ x, xs[k]? = some x := ⟨_, List.getElem?_eq_getElem (by omega)⟩
        have HX := Lib.hid hxk
        have hxr := allB_at HALL.out hxk
        have hx0 := hxr.1
        have hx9 := hxr.2
        obtain ⟨b1, off1, rfl, hcl⟩ := (HX2.out.grown HW.out.1).2.resolve_left (by intro e; subst e; simp at hxk)
        have hcx1 := hcl k x hxk
        clear hxk hxr hcl
        have hgb := (World.ownsRow.lt HW.out.2.2 gb rfl).2
        go_wp2_with (at_builtin; refine append_strong rfl _ (.tmp 42) rfl w2.heap.size go co k (oth len k) rfl (HW.out.2.1.grown (grown_alloc _ _ _)) ⟨wr.heap.size, 0, none⟩ 1 1 [(7 * (k : Int) + (len : Int)) % 256] rfl (ints_one wr _ _) ?b1 ?b2 ?_)
        case b1 => omega
        case b2 => have := HW.out.1.size; simp; omega
        intro g' c' w3 ho3 hg3 hwh
        have HO3 : Hid (Owns w3 w2.heap.size (.slice (some ⟨g', 0, none⟩) (k + 1) c') (k + 1) (oth len (k + 1))) := by rw [oth_succ]; exact ho3
        have HB3 : Hid (Owns w3 w2.heap.size (.slice (some ⟨gb, 0, none⟩) k cb) k (Crc.xorL (xs.take k) (oth len k))) :=
          (HW.out.2.2.grown (grown_alloc _ _ _)).kept hg3 (Or.inr (by intro e; injection e with e; exact hne e.symm))
        have HG3 : Hid (w2.grownBy w3 none) := grown_new (grown_trans HW.out.1 (grown_alloc _ _ _)) hg3 (World.ownsRow.lt HW.out.2.1 go rfl).1
        have hne3 : g' ≠ gb := by
          rcases hwh with h | h
          · rw [h]; exact hne
          · omega
        have hg'lt := (World.ownsRow.lt HO3.out g' rfl).2
        have hgb1 := (World.ownsRow.lt HW.out.2.2 gb rfl).1
        have hcx : w3.cell? ⟨b1, off1 + k, none⟩ = some (.int .i64 x) := by
          have := (HX2.out.grown HG3.out).2
          rcases this with h | ⟨b, off, h, hc⟩
          · rw [h] at HX; have := HX.out; simp at this
          · injection h with h; injection h with h1 h2; subst h1; subst h2; exact hc k x HX.out
        obtain ⟨X, rfl⟩ := Int.eq_ofNat_of_zero_le hx0
        have hxo : bits .xor .i64 (X : Int) ((7 * (k : Int) + (len : Int)) % 256) = ((X ^^^ ((7 * (k : Int) + (len : Int)) % 256).toNat : Nat) : Int) := by
          have := i64_xor_nat X ((7 * (k : Int) + (len : Int)) % 256).toNat (by omega) (by omega)
          rw [← this]; congr 1; try omega
        generalize hq : X ^^^ ((7 * (k : Int) + (len : Int)) % 256).toNat = q at *
        have HQ := Lib.hid hq
        clear ho3 hg3 hwh hq
        go_wp2_with (at_builtin; refine append_strong rfl _ (.tmp 56) rfl w2.heap.size gb cb k (Crc.xorL (xs.take k) (oth len k)) rfl (HB3.out.grown (grown_alloc _ _ _)) ⟨w3.heap.size, 0, none⟩ 1 1 [(q : Int)] rfl (ints_one w3 _ _) ?b3 ?b4 ?_)
        case b3 => omega
        case b4 => have := HG3.out.size; simp; omega
        intro g4 c4 w4 ho4 hg4 hwh4
        have HB4 : Hid (Owns w4 w2.heap.size (.slice (some ⟨g4, 0, none⟩) (k + 1) c4) (k + 1) (Crc.xorL (xs.take (k + 1)) (oth len (k + 1)))) := by
          show Owns _ _ _ _ _
          rw [xor_succ HX.out, Int.toNat_natCast, HQ.out]; exact ho4
        have HO4 : Hid (Owns w4 w2.heap.size (.slice (some ⟨g', 0, none⟩) (k + 1) c') (k + 1) (oth len (k + 1))) :=
          (HO3.out.grown (grown_alloc _ _ _)).kept hg4 (Or.inr (by intro e; injection e with e; exact hne3 e))
        have HG4 : Hid (w2.grownBy w4 none) := grown_new (grown_trans HG3.out (grown_alloc _ _ _)) hg4 hgb1
        have hne4 : g' ≠ g4 := by
          rcases hwh4 with h | h
          · rw [h]; exact hne3
          · omega
        clear ho4 hg4 hwh4 hxo hcx hcx1
        go_wp2
        go_roundw
        case rel => exact ⟨k + 1, g', c', g4, c4, by omega, by go_num, rfl, rfl, hne4, HG4.out, HO4.out, HB4.out⟩
        case measure => simp [intOf]; omega
      · obtain rfl : k = l1 := by omega
        have HXF : Hid (xs.take k = xs) := List.take_of_length_le (by omega)
        have HB : Hid (Owns wr w2.heap.size (.slice (some ⟨gb, 0, none⟩) k cb) k (Crc.xorL xs (oth len k))) := by
          have := HW.out.2.2; rw [HXF.out] at this; exact this
        have HVO : Hid (valB (oth len k) = true) := by
          show valB _ = true; unfold valB; rw [oth_all, oth_len]; simp; omega
        have HVB : Hid (valB (Crc.xorL xs (oth len k)) = true) := by
          show valB _ = true; unfold valB; rw [xor_all HALL.out (oth_all len k)]
          have : (Crc.xorL xs (oth len k)).length = k := by unfold Crc.xorL; rw [List.length_zipWith, oth_len]; omega
          rw [this]; simp; omega
        obtain ⟨zo, hzo⟩ : ∃ zo, zo = Crc.crc 16 98309 (oth len k) 0 := ⟨_, rfl⟩
        obtain ⟨yo, hyo⟩ : ∃ yo, yo = Crc.crc 8 263 (oth len k) 0 := ⟨_, rfl⟩
        obtain ⟨y, hy⟩ : ∃ y, y = Crc.crc 8 263 xs 0 := ⟨_, rfl⟩
        have hzo2 : zo < 65536 := by rw [hzo]; exact Crc.crc_lt Crc.fits16 _ 0 (by decide) (oth_all len k)
        have hyo2 : yo < 256 := by rw [hyo]; exact Crc.crc_lt Crc.fits8 _ 0 (by decide) (oth_all len k)
        have hy2 : y < 256 := by rw [hy]; exact Crc.crc_lt Crc.fits8 _ 0 (by decide) HALL.out
        have HE16 : Hid (Ck 16 98309 (Crc.xorL xs (oth len k)) = ((z ^^^ zo : Nat) : Int)) := by
          show Ck _ _ _ = _
          rw [Ck_true HVB.out, HZ.out, hzo]
          have := Crc.linear (w := 16) (d := 98309) xs (oth len k) 0 0 (by rw [oth_len]; omega)
          rw [Nat.xor_self] at this; rw [this]
        have HE8 : Hid (Ck 8 263 (Crc.xorL xs (oth len k)) = ((y ^^^ yo : Nat) : Int)) := by
          show Ck _ _ _ = _
          rw [Ck_true HVB.out, hy, hyo]
          have := Crc.linear (w := 8) (d := 263) xs (oth len k) 0 0 (by rw [oth_len]; omega)
          rw [Nat.xor_self] at this; rw [this]
        have HZO : Hid (Ck 16 98309 (oth len k) = (zo : Int)) := by show Ck _ _ _ = _; rw [Ck_true HVO.out, hzo]
        have HYO : Hid (Ck 8 263 (oth len k) = (yo : Int)) := by show Ck _ _ _ = _; rw [Ck_true HVO.out, hyo]
        have HY : Hid (Ck 8 263 xs = (y : Int)) := by show Ck _ _ _ = _; rw [Ck_true HV.out, hy]
        have x16 : bits .xor .i64 (z : Int) (zo : Int) = ((z ^^^ zo : Nat) : Int) := i64_xor_nat z zo (by omega) (by omega)
        have x8 : bits .xor .i64 (y : Int) (yo : Int) = ((y ^^^ yo : Nat) : Int) := i64_xor_nat y yo (by omega) (by omega)
        clear hzo hyo hy hlt
        generalize z ^^^ zo = p16 at *
        generalize y ^^^ yo = p8 at *
        go_wp2_with fail
        refine (iCrc16 _ _ _ _ (p16 : Int) _ (Owns.ints HB.out) (by omega) HE16.out).mono ?_
        rintro e w5 ⟨rfl, hg5⟩
        have HO5 := Lib.hid ((Owns.ints HW.out.2.1).grown hg5)
        have HB5 := Lib.hid ((Owns.ints HB.out).grown hg5)
        have HG5 := Lib.hid (grown_trans HW.out.1 hg5)
        clear hg5
        go_wp2_with fail
        refine (iCrc16 _ _ _ _ (zo : Int) _ HO5.out (by omega) HZO.out).mono ?_
        rintro e w6 ⟨rfl, hg6⟩
        have HO6 := Lib.hid (HO5.out.grown hg6)
        have HB6 := Lib.hid (HB5.out.grown hg6)
        have HG6 := Lib.hid (grown_trans HG5.out hg6)
        clear hg6
        go_wp2_with fail
        refine (iCrc8 _ _ _ _ (p8 : Int) _ HB6.out (by omega) HE8.out).mono ?_
        rintro e w7 ⟨rfl, hg7⟩
        have HO7 := Lib.hid (HO6.out.grown hg7)
        have HG7 := Lib.hid (grown_trans HG6.out hg7)
        clear hg7
        go_wp2_with fail
        refine (iCrc8 xs _ _ _ (y : Int) _ (HX2.out.grown HG7.out) (by omega) HY.out).mono ?_
        rintro e w8 ⟨rfl, hg8⟩
        have HO8 := Lib.hid (HO7.out.grown hg8)
        have HG8 := Lib.hid (grown_trans HG7.out hg8)
        clear hg8
        go_wp2_with fail
        refine (iCrc8 _ _ _ _ (yo : Int) _ HO8.out (by omega) HYO.out).mono ?_
        rintro e w9 ⟨rfl, hg9⟩
        have HG9 := Lib.hid (grown_trans HG2.out (grown_trans HG8.out hg9))
        clear hg9
        go_wp2
        go_ret
        exact ⟨rfl, HG9.out⟩

end Go.Proofs.Ytdhfjaoaekdfbaa
