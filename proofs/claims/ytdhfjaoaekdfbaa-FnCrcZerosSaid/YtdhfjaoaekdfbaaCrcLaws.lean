/-
  The walks of the laws on checks. For every code.
-/
import Derived.Test.YtdhfjaoaekdfbaaDraw
import Derived.Test.YtdhfjaoaekdfbaaCrc
import Derived.Test.YtdhfjaoaekdfbaaZigLaws
import Derived.Deep.LoopGhost
namespace Go.Proofs.Ytdhfjaoaekdfbaa
open Go.RowKit

theorem Owns.ints {w : World} {base len g cap : Nat} {xs : List Int} (h : Owns w base (.slice (some ⟨g, 0, none⟩) len cap) len xs) : Ints w (some ⟨g, 0, none⟩) len xs := by
  obtain ⟨ao, cap', hv, _, _, hx, _⟩ := h.reads
  injection hv with h1 h2 h3; subst h1; exact hx
theorem ints_two (w : World) (x y : Int) (t : TypeId) : Ints (w.alloc (.cells #[.int .i64 x, .int .i64 y] t)) (some ⟨w.heap.size, 0, none⟩) 2 [x, y] := by
  refine ⟨rfl, Or.inr ⟨w.heap.size, 0, rfl, fun k q hk => ?_⟩⟩
  match k, hk with
  | 0, hk => simp at hk; subst hk; rw [cell_of_row _ w.heap.size (0 + 0) _ _ _ (heap_alloc_new w _)]; rfl
  | 1, hk => simp at hk; subst hk; rw [cell_of_row _ w.heap.size (0 + 1) _ _ _ (heap_alloc_new w _)]; rfl

set_option maxHeartbeats 2000000 in
theorem FnCrcZeros_walk (ao : Option Addr) (len cap : Nat) (w : World) (hb : BytesAt w ao len) (hlc : len ≤ cap) (hmax : len ≤ 9223372036854775807) :
    Calls Try.prog 9 #[.slice ao len cap] w (Holds w) := by
  have hc := DrawCrc16_any ao len cap w hb hlc hmax
  clear hb hlc hmax
  by_cases hlen : 1048576 < len
  · clear hc
    go_enter Try.func9, Try.ntmps9
    go_wp2
    go_ret
    exact ⟨rfl, grown_refl _ _⟩
  have hlen' : len ≤ 1048576 := by omega
  clear hlen
  go_enter Try.func9, Try.ntmps9
  go_wp2_with fail
  refine hc.mono ?_
  rintro e w1 ⟨a1, l1, c1, xs, rfl, hl1, hlc1, hn1, hx1, _, hg1⟩
  clear hc
  have k1 := iCrc16 xs a1 l1 c1 _ w1 hx1 (by omega) rfl
  have HG1 := Lib.hid hg1
  have HX1 := Lib.hid hx1
  have hl := hx1.1
  cases hv : valB xs with
  | false =>
    rw [Ck_false hv] at k1
    clear hl hx1 hg1
    go_wp2_with fail
    refine k1.mono ?_
    rintro e w2 ⟨rfl, hg2⟩
    have k2 := sCrc16 xs a1 l1 c1 (-1) w2 (HX1.out.grown hg2) (by omega) (Ck_false hv)
    have HG2 := Lib.hid (grown_trans HG1.out hg2)
    clear hg2 k1 hv
    go_wp2_with fail
    refine k2.mono ?_
    rintro e w' ⟨rfl, rfl⟩
    go_wp2_with fail
    refine k2.mono ?_
    rintro e w' ⟨rfl, rfl⟩
    clear k2
    go_wp2
    go_ret
    exact ⟨rfl, HG2.out⟩
  | true =>
    rw [Ck_true hv] at k1
    have HV := Lib.hid hv
    have hall := valB_all hv
    have hcr := Crc.crc_lt Crc.fits16 xs 0 (by decide) hall
    have HALL := Lib.hid hall
    clear hx1 hg1 hall
    obtain ⟨z, hz⟩ : ∃ z, z = Crc.crc 16 98309 xs 0 := ⟨_, rfl⟩
    rw [← hz] at k1 hcr
    have HZ := Lib.hid hz
    have hz2 : z < 65536 := hcr
    clear hz hcr
    go_wp2_with fail
    refine k1.mono ?_
    rintro e w2 ⟨rfl, hg2⟩
    have k2 := sCrc16 xs a1 l1 c1 (z : Int) w2 (HX1.out.grown hg2) (by omega) (by rw [Ck_true hv, HZ.out])
    have HG2 := Lib.hid (grown_trans HG1.out hg2)
    have HX2 := Lib.hid (HX1.out.grown hg2)
    clear hg2 k1 hv
    go_wp2_with fail
    refine k2.mono ?_
    rintro e w' ⟨rfl, rfl⟩
    clear k2
    go_wp2_with (at_builtin; refine append_ints rfl _ _ rfl w2.heap.size _ 3 [0, 0, 0] rfl (owns_lit w2 [0, 0, 0] (by decide)) a1 l1 c1 xs rfl (HX2.out.grown (grown_alloc _ _ _)) hn1 ?b1 ?b2 ?_)
    case b1 => omega
    case b2 => simp
    intro v3 w3 ho3 hg3
    obtain ⟨a3, c3, rfl, _, _, hx3, _⟩ := ho3.reads
    have hg23 : w2.grownBy w3 none := grown_new (grown_alloc _ _ _) hg3 (by simp)
    have HG3 := Lib.hid (grown_trans HG2.out hg23)
    have HX3 := Lib.hid hx3
    have HX1' := Lib.hid (HX2.out.grown hg23)
    have HV3 : Hid (valB ([0, 0, 0] ++ xs) = true) := by
      show valB _ = true
      have := HALL.out
      unfold valB
      rw [Crc.all_append, this]
      simp
      refine ⟨by omega, by decide⟩
    have HE16 : Hid (Ck 16 98309 ([0, 0, 0] ++ xs) = (z : Int)) := by
      show Ck _ _ _ = _
      rw [Ck_true HV3.out, HZ.out]
      exact congrArg _ (Crc.zeros xs)
    have HE8 : Hid (Ck 8 263 ([0, 0, 0] ++ xs) = Ck 8 263 xs) := by
      show Ck _ _ _ = _
      rw [Ck_true HV3.out, Ck_true HV.out]
      exact congrArg _ (Crc.zeros xs)
    clear ho3 hg3 hg23 hx3 hl
    go_wp2_with fail
    refine (iCrc16 ([0, 0, 0] ++ xs) a3 (3 + l1) c3 (z : Int) _ HX3.out (by omega) HE16.out).mono ?_
    rintro e w4 ⟨rfl, hg4⟩
    have HG4 := Lib.hid (grown_trans HG3.out hg4)
    have HX4 := Lib.hid (HX3.out.grown hg4)
    have HX4' := Lib.hid (HX1'.out.grown hg4)
    clear hg4
    obtain ⟨y, hy⟩ : ∃ y, y = Ck 8 263 xs := ⟨_, rfl⟩
    have HY := Lib.hid hy
    clear hy
    go_wp2_with fail
    refine (iCrc8 ([0, 0, 0] ++ xs) a3 (3 + l1) c3 y _ HX4.out (by omega) (HE8.out.trans HY.out.symm)).mono ?_
    rintro e w5 ⟨rfl, hg5⟩
    have HG5 := Lib.hid (grown_trans HG4.out hg5)
    have HX5 := Lib.hid (HX4'.out.grown hg5)
    clear hg5
    go_wp2_with fail
    refine (iCrc8 xs a1 l1 c1 y _ HX5.out (by omega) HY.out.symm).mono ?_
    rintro e w6 ⟨rfl, hg6⟩
    have HG6 := Lib.hid (grown_trans HG5.out hg6)
    clear hg6
    go_wp2
    go_ret
    exact ⟨rfl, HG6.out⟩

set_option maxHeartbeats 2000000 in
theorem FnCrc8_walk (ao : Option Addr) (len cap : Nat) (w : World) (hb : BytesAt w ao len) (hlc : len ≤ cap) (hmax : len ≤ 9223372036854775807) :
    Calls Try.prog 7 #[.slice ao len cap] w (Holds w) := by
  have hc := DrawCrc8_any ao len cap w hb hlc hmax
  clear hb hlc hmax
  by_cases hlen : 1048576 < len
  · clear hc
    go_enter Try.func7, Try.ntmps7
    go_wp2
    go_ret
    exact ⟨rfl, grown_refl _ _⟩
  have hlen' : len ≤ 1048576 := by omega
  clear hlen
  go_enter Try.func7, Try.ntmps7
  go_wp2_with fail
  refine hc.mono ?_
  rintro e w1 ⟨a1, l1, c1, xs, rfl, hl1, hlc1, hn1, hx1, _, hg1⟩
  clear hc
  have k1 := iCrc8 xs a1 l1 c1 _ w1 hx1 (by omega) rfl
  have HG1 := Lib.hid hg1
  have HX1 := Lib.hid hx1
  have hl := hx1.1
  cases hv : valB xs with
  | false =>
    rw [Ck_false hv] at k1
    clear hl hx1 hg1
    go_wp2_with fail
    refine k1.mono ?_
    rintro e w2 ⟨rfl, hg2⟩
    have k2 := sCrc8 xs a1 l1 c1 (-1) w2 (HX1.out.grown hg2) (by omega) (Ck_false hv)
    have HG2 := Lib.hid (grown_trans HG1.out hg2)
    clear hg2 k1 hv
    go_wp2_with fail
    refine k2.mono ?_
    rintro e w' ⟨rfl, rfl⟩
    go_wp2_with fail
    refine k2.mono ?_
    rintro e w' ⟨rfl, rfl⟩
    clear k2
    go_wp2
    go_ret
    exact ⟨rfl, HG2.out⟩
  | true =>
    rw [Ck_true hv] at k1
    have HV := Lib.hid hv
    have hall := valB_all hv
    have hcr := Crc.crc_lt Crc.fits8 xs 0 (by decide) hall
    have HALL := Lib.hid hall
    clear hx1 hg1 hall
    obtain ⟨z, hz⟩ : ∃ z, z = Crc.crc 8 263 xs 0 := ⟨_, rfl⟩
    rw [← hz] at k1 hcr
    have HZ := Lib.hid hz
    have hz2 : z < 256 := hcr
    clear hz hcr
    go_wp2_with fail
    refine k1.mono ?_
    rintro e w2 ⟨rfl, hg2⟩
    have k2 := sCrc8 xs a1 l1 c1 (z : Int) w2 (HX1.out.grown hg2) (by omega) (by rw [Ck_true hv, HZ.out])
    have HG2 := Lib.hid (grown_trans HG1.out hg2)
    have HX2 := Lib.hid (HX1.out.grown hg2)
    clear hg2 k1 hv
    go_wp2_with fail
    refine k2.mono ?_
    rintro e w' ⟨rfl, rfl⟩
    clear k2
    have HN1 := Lib.hid hn1
    clear hn1
    go_wp2_with fail
    go_loopw [5] (fun i wr => ∃ k : Nat, k ≤ l1 ∧ i = .int .i64 k ∧ Hid (w2.grownBy wr none)) (fun i _ => l1 - (intOf i).toNat)
    case atStart => exact ⟨0, Nat.zero_le _, rfl, grown_refl _ _⟩
    case round =>
      obtain ⟨k, hk, rfl, HW⟩ := hrel
      by_cases hlt : k < l1
      · obtain ⟨x, hxk⟩ : ∃ x, xs[k]? = some x := ⟨_, List.getElem?_eq_getElem (by omega)⟩
        have HX := Lib.hid hxk
        have hxr := allB_at HALL.out hxk
        have hx0 := hxr.1
        have hx9 := hxr.2
        clear hxk hxr
        go_wp2_with (at_builtin; refine append_ints rfl _ _ rfl wr.heap.size _ 0 [] rfl (owns_empty wr) a1 l1 c1 xs rfl ((HX2.out.grown HW.out).grown (grown_alloc _ _ _)) HN1.out ?b1 ?b2 ?_)
        case b1 => omega
        case b2 => simp
        intro v3 w3 ho3 hg3
        rcases ho3.2 with ⟨rfl, hz0⟩ | ⟨g, c3, cur, rfl, hgb, _⟩
        · exact absurd hz0 (by omega)
        have HO : Hid (Owns w3 wr.heap.size (.slice (some ⟨g, 0, none⟩) l1 c3) l1 xs) := ho3
        have HG3 : Hid (w2.grownBy w3 none) := grown_trans HW.out (grown_new (grown_alloc _ _ _) hg3 (by simp))
        clear ho3 hg3
        have hcell : w3.cell? ⟨g, k, none⟩ = some (.int .i64 x) := by
          rw [World.ownsRow.cellAt HO.out k (by omega), List.getElem?_map, HX.out]; rfl
        have hfz : w3.frozen? ⟨g, k, none⟩ = false := World.ownsRow.frozenAt HO.out k
        have q1 : 0 ≤ (len : Int) % 255 := by omega
        have q2 : (len : Int) % 255 < 255 := by omega
        have hyr : 0 ≤ (x + 1 + (len : Int) % 255) % 256 ∧ (x + 1 + (len : Int) % 255) % 256 ≤ 255 ∧ (x + 1 + (len : Int) % 255) % 256 ≠ x := by omega
        go_wp2_with fail
        generalize hy : (x + 1 + (len : Int) % 255) % 256 = y at *
        clear hy
        have hst := World.ownsRow.stored HO.out k (.int .i64 y)
        rw [← List.map_set] at hst
        have HO4 : Hid (Owns (w3.setCell ⟨g, k, none⟩ (.int .i64 y)) wr.heap.size (.slice (some ⟨g, 0, none⟩) l1 c3) l1 (xs.set k y)) := hst.1
        have HG4 : Hid (w2.grownBy (w3.setCell ⟨g, k, none⟩ (.int .i64 y)) none) := grown_new HG3.out hst.2 (Nat.le_trans HW.out.size hgb)
        clear hst
        have HV4 : Hid (valB (xs.set k y) = true) := by
          show valB _ = true
          unfold valB
          rw [Crc.all_set HALL.out ⟨hyr.1, hyr.2.1⟩]
          simp; omega
        obtain ⟨z', hz'⟩ : ∃ z', z' = Crc.crc 8 263 (xs.set k y) 0 := ⟨_, rfl⟩
        have hne : ((z' : Int) == (z : Int)) = false := by
          have := Crc.crc_set Crc.fits8 HALL.out HX.out ⟨hyr.1, hyr.2.1⟩ hyr.2.2
          rw [← hz', ← HZ.out] at this
          simp; omega
        have hcall := iCrc8 (xs.set k y) (some ⟨g, 0, none⟩) l1 c3 (z' : Int) _ (Owns.ints HO4.out) (by omega) (by rw [Ck_true HV4.out, hz'])
        clear hz' hyr hcell hfz
        refine hcall.mono ?_
        rintro e w5 ⟨rfl, hg5⟩
        have HG5 : Hid (w2.grownBy w5 none) := grown_trans HG4.out hg5
        clear hg5 hcall
        go_wp2
        go_roundw
        case rel => exact ⟨k + 1, by omega, by go_num, HG5⟩
        case measure => simp [intOf]; omega
      · obtain rfl : k = l1 := by omega
        go_wp2_with (at_builtin; refine append_ints rfl _ (.tmp 53) rfl wr.heap.size _ 0 [] rfl (owns_empty wr) a1 k c1 xs rfl ((HX2.out.grown HW.out).grown (grown_alloc _ _ _)) HN1.out ?b3 ?b4 ?_)
        case b3 => omega
        case b4 => simp
        intro v4 w4 ho4 hg4
        have HG4 : Hid (w2.grownBy w4 none) := grown_trans HW.out (grown_new (grown_alloc _ _ _) hg4 (by simp))
        have HO4 := Lib.hid ho4
        have hsz := hg4.size
        have hsz' : wr.heap.size ≤ w4.heap.size := by simp at hsz; omega
        clear ho4 hg4 hsz
        go_wp2_with (at_builtin; go_loud (refine append_ints rfl _ (.tmp 56) rfl wr.heap.size v4 k xs rfl (HO4.out.grown (grown_alloc _ _ _)) (some ⟨w4.heap.size, 0, none⟩) 1 1 [(z : Int)] rfl (ints_one w4 (z : Int) 3) (fun e => nomatch e) ?b5 ?b6 ?_))
        case b5 => omega
        case b6 => simp; omega
        intro v5 w5 ho5 hg5
        obtain ⟨a5, c5, rfl, _, _, hx5, _⟩ := ho5.reads
        have HX5 := Lib.hid hx5
        have HG5 : Hid (w2.grownBy w5 none) := grown_row (grown_trans HG4.out (grown_alloc _ _ _)) hg5 (fun g e => Nat.le_trans HW.out.size (HO4.out.block g e))
        clear ho5 hg5 hx5
        have HV5 : Hid (valB (xs ++ [(z : Int)]) = true) := by
          show valB _ = true
          have := HALL.out
          unfold valB
          rw [Crc.all_append, this]
          simp
          refine ⟨by omega, by simp [allB, inB]; omega⟩
        have HE : Hid (Ck 8 263 (xs ++ [(z : Int)]) = 0) := by
          show Ck _ _ _ = _
          rw [Ck_true HV5.out]
          have e : Crc.crc 8 263 (xs ++ [(z : Int)]) 0 = Crc.byt 8 263 z (z : Int).toNat := by rw [Crc.crc_append, ← HZ.out]; rfl
          rw [e, Int.toNat_natCast, Crc.self8]; rfl
        go_wp2_with fail
        refine (iCrc8 _ a5 _ c5 0 _ HX5.out (by omega) HE.out).mono ?_
        rintro e w6 ⟨rfl, hg6⟩
        have HG6 := Lib.hid (grown_trans HG2.out (grown_trans HG5.out hg6))
        have d0 : decide ((z : Int) ≤ 255) = true := by simp; omega
        clear hg6
        go_wp2
        go_ret
        exact ⟨rfl, HG6.out⟩

set_option maxHeartbeats 2000000 in
theorem FnCrc16_walk (ao : Option Addr) (len cap : Nat) (w : World) (hb : BytesAt w ao len) (hlc : len ≤ cap) (hmax : len ≤ 9223372036854775807) :
    Calls Try.prog 8 #[.slice ao len cap] w (Holds w) := by
  have hc := DrawCrc16_any ao len cap w hb hlc hmax
  clear hb hlc hmax
  by_cases hlen : 1048576 < len
  · clear hc
    go_enter Try.func8, Try.ntmps8
    go_wp2
    go_ret
    exact ⟨rfl, grown_refl _ _⟩
  have hlen' : len ≤ 1048576 := by omega
  clear hlen
  go_enter Try.func8, Try.ntmps8
  go_wp2_with fail
  refine hc.mono ?_
  rintro e w1 ⟨a1, l1, c1, xs, rfl, hl1, hlc1, hn1, hx1, _, hg1⟩
  clear hc
  have k1 := iCrc16 xs a1 l1 c1 _ w1 hx1 (by omega) rfl
  have HG1 := Lib.hid hg1
  have HX1 := Lib.hid hx1
  have hl := hx1.1
  cases hv : valB xs with
  | false =>
    rw [Ck_false hv] at k1
    clear hl hx1 hg1
    go_wp2_with fail
    refine k1.mono ?_
    rintro e w2 ⟨rfl, hg2⟩
    have k2 := sCrc16 xs a1 l1 c1 (-1) w2 (HX1.out.grown hg2) (by omega) (Ck_false hv)
    have HG2 := Lib.hid (grown_trans HG1.out hg2)
    clear hg2 k1 hv
    go_wp2_with fail
    refine k2.mono ?_
    rintro e w' ⟨rfl, rfl⟩
    go_wp2_with fail
    refine k2.mono ?_
    rintro e w' ⟨rfl, rfl⟩
    clear k2
    go_wp2
    go_ret
    exact ⟨rfl, HG2.out⟩
  | true =>
    rw [Ck_true hv] at k1
    have HV := Lib.hid hv
    have hall := valB_all hv
    have hcr := Crc.crc_lt Crc.fits16 xs 0 (by decide) hall
    have HALL := Lib.hid hall
    clear hx1 hg1 hall
    obtain ⟨z, hz⟩ : ∃ z, z = Crc.crc 16 98309 xs 0 := ⟨_, rfl⟩
    rw [← hz] at k1 hcr
    have HZ := Lib.hid hz
    have hz2 : z < 65536 := hcr
    clear hz hcr
    go_wp2_with fail
    refine k1.mono ?_
    rintro e w2 ⟨rfl, hg2⟩
    have k2 := sCrc16 xs a1 l1 c1 (z : Int) w2 (HX1.out.grown hg2) (by omega) (by rw [Ck_true hv, HZ.out])
    have HG2 := Lib.hid (grown_trans HG1.out hg2)
    have HX2 := Lib.hid (HX1.out.grown hg2)
    clear hg2 k1 hv
    go_wp2_with fail
    refine k2.mono ?_
    rintro e w' ⟨rfl, rfl⟩
    clear k2
    have HN1 := Lib.hid hn1
    clear hn1
    go_wp2_with fail
    go_loopw [5] (fun i wr => ∃ k : Nat, k ≤ l1 ∧ i = .int .i64 k ∧ Hid (w2.grownBy wr none)) (fun i _ => l1 - (intOf i).toNat)
    case atStart => exact ⟨0, Nat.zero_le _, rfl, grown_refl _ _⟩
    case round =>
      obtain ⟨k, hk, rfl, HW⟩ := hrel
      by_cases hlt : k < l1
      · obtain ⟨x, hxk⟩ : ∃ x, xs[k]? = some x := ⟨_, List.getElem?_eq_getElem (by omega)⟩
        have HX := Lib.hid hxk
        have hxr := allB_at HALL.out hxk
        have hx0 := hxr.1
        have hx9 := hxr.2
        clear hxk hxr
        go_wp2_with (at_builtin; refine append_ints rfl _ _ rfl wr.heap.size _ 0 [] rfl (owns_empty wr) a1 l1 c1 xs rfl ((HX2.out.grown HW.out).grown (grown_alloc _ _ _)) HN1.out ?b1 ?b2 ?_)
        case b1 => omega
        case b2 => simp
        intro v3 w3 ho3 hg3
        rcases ho3.2 with ⟨rfl, hz0⟩ | ⟨g, c3, cur, rfl, hgb, _⟩
        · exact absurd hz0 (by omega)
        have HO : Hid (Owns w3 wr.heap.size (.slice (some ⟨g, 0, none⟩) l1 c3) l1 xs) := ho3
        have HG3 : Hid (w2.grownBy w3 none) := grown_trans HW.out (grown_new (grown_alloc _ _ _) hg3 (by simp))
        clear ho3 hg3
        have hcell : w3.cell? ⟨g, k, none⟩ = some (.int .i64 x) := by
          rw [World.ownsRow.cellAt HO.out k (by omega), List.getElem?_map, HX.out]; rfl
        have hfz : w3.frozen? ⟨g, k, none⟩ = false := World.ownsRow.frozenAt HO.out k
        have q1 : 0 ≤ (len : Int) % 255 := by omega
        have q2 : (len : Int) % 255 < 255 := by omega
        have hyr : 0 ≤ (x + 1 + (len : Int) % 255) % 256 ∧ (x + 1 + (len : Int) % 255) % 256 ≤ 255 ∧ (x + 1 + (len : Int) % 255) % 256 ≠ x := by omega
        go_wp2_with fail
        generalize hy : (x + 1 + (len : Int) % 255) % 256 = y at *
        clear hy
        have hst := World.ownsRow.stored HO.out k (.int .i64 y)
        rw [← List.map_set] at hst
        have HO4 : Hid (Owns (w3.setCell ⟨g, k, none⟩ (.int .i64 y)) wr.heap.size (.slice (some ⟨g, 0, none⟩) l1 c3) l1 (xs.set k y)) := hst.1
        have HG4 : Hid (w2.grownBy (w3.setCell ⟨g, k, none⟩ (.int .i64 y)) none) := grown_new HG3.out hst.2 (Nat.le_trans HW.out.size hgb)
        clear hst
        have HV4 : Hid (valB (xs.set k y) = true) := by
          show valB _ = true
          unfold valB
          rw [Crc.all_set HALL.out ⟨hyr.1, hyr.2.1⟩]
          simp; omega
        obtain ⟨z', hz'⟩ : ∃ z', z' = Crc.crc 16 98309 (xs.set k y) 0 := ⟨_, rfl⟩
        have hne : ((z' : Int) == (z : Int)) = false := by
          have := Crc.crc_set Crc.fits16 HALL.out HX.out ⟨hyr.1, hyr.2.1⟩ hyr.2.2
          rw [← hz', ← HZ.out] at this
          simp; omega
        have hcall := iCrc16 (xs.set k y) (some ⟨g, 0, none⟩) l1 c3 (z' : Int) _ (Owns.ints HO4.out) (by omega) (by rw [Ck_true HV4.out, hz'])
        clear hz' hyr hcell hfz
        refine hcall.mono ?_
        rintro e w5 ⟨rfl, hg5⟩
        have HG5 : Hid (w2.grownBy w5 none) := grown_trans HG4.out hg5
        clear hg5 hcall
        go_wp2
        go_roundw
        case rel => exact ⟨k + 1, by omega, by go_num, HG5⟩
        case measure => simp [intOf]; omega
      · obtain rfl : k = l1 := by omega
        go_wp2_with (at_builtin; refine append_ints rfl _ (.tmp 53) rfl wr.heap.size _ 0 [] rfl (owns_empty wr) a1 k c1 xs rfl ((HX2.out.grown HW.out).grown (grown_alloc _ _ _)) HN1.out ?b3 ?b4 ?_)
        case b3 => omega
        case b4 => simp
        intro v4 w4 ho4 hg4
        have HG4 : Hid (w2.grownBy w4 none) := grown_trans HW.out (grown_new (grown_alloc _ _ _) hg4 (by simp))
        have HO4 := Lib.hid ho4
        have hsz := hg4.size
        have hsz' : wr.heap.size ≤ w4.heap.size := by simp at hsz; omega
        clear ho4 hg4 hsz
        go_wp2_with (at_builtin; go_loud (refine append_ints rfl _ (.tmp 59) rfl wr.heap.size v4 k xs rfl (HO4.out.grown (grown_alloc _ _ _)) (some ⟨w4.heap.size, 0, none⟩) 2 2 [(z : Int) / 256, (z : Int) % 256] rfl (ints_two w4 ((z : Int) / 256) ((z : Int) % 256) 3) (fun e => nomatch e) ?b5 ?b6 ?_))
        case b5 => omega
        case b6 => simp; omega
        intro v5 w5 ho5 hg5
        obtain ⟨a5, c5, rfl, _, _, hx5, _⟩ := ho5.reads
        have HX5 := Lib.hid hx5
        have HG5 : Hid (w2.grownBy w5 none) := grown_row (grown_trans HG4.out (grown_alloc _ _ _)) hg5 (fun g e => Nat.le_trans HW.out.size (HO4.out.block g e))
        clear ho5 hg5 hx5
        have HV5 : Hid (valB (xs ++ [(z : Int) / 256, (z : Int) % 256]) = true) := by
          show valB _ = true
          have := HALL.out
          unfold valB
          rw [Crc.all_append, this]
          simp
          refine ⟨by omega, by simp [allB, inB]; omega⟩
        have HE : Hid (Ck 16 98309 (xs ++ [(z : Int) / 256, (z : Int) % 256]) = 0) := by
          show Ck _ _ _ = _
          rw [Ck_true HV5.out]
          have e : Crc.crc 16 98309 (xs ++ [(z : Int) / 256, (z : Int) % 256]) 0 = Crc.byt 16 98309 (Crc.byt 16 98309 z ((z : Int) / 256).toNat) ((z : Int) % 256).toNat := by rw [Crc.crc_append, ← HZ.out]; rfl
          rw [e, show ((z : Int) / 256).toNat = z / 256 by omega, show ((z : Int) % 256).toNat = z % 256 by omega, Crc.self16]; rfl
        go_wp2_with fail
        refine (iCrc16 _ a5 _ c5 0 _ HX5.out (by omega) HE.out).mono ?_
        rintro e w6 ⟨rfl, hg6⟩
        have HG6 := Lib.hid (grown_trans HG2.out (grown_trans HG5.out hg6))
        have d0 : decide ((z : Int) ≤ 65535) = true := by simp; omega
        clear hg6
        go_wp2
        go_ret
        exact ⟨rfl, HG6.out⟩

end Go.Proofs.Ytdhfjaoaekdfbaa
