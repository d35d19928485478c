/-
  The draw of bits that hold codes. For every code.
-/
import Derived.Test.YtdbneenlejgjcaaDoorAnyBits
import Derived.Test.YtdbneenlejgjcaaDoorSRic
import Derived.Deep.RegionWith
namespace Go.Proofs.YtdbneenlejgjcaaDoor
open Go.RowKit

/-- The code of a small number. -/
theorem coded_one (x : Int) (k c : Nat) (h0 : -20 ≤ x) (h1 : x ≤ 19) (hk : k ≤ 3) : ∃ z q : Nat, zz x = (z : Int) ∧ z / 2 ^ k = q ∧ q ≤ 500 ∧ q + 1 + k ≤ 44 := by
  have hz : 0 ≤ zz x ∧ zz x ≤ 39 := by unfold zz; split <;> omega
  obtain ⟨z, hz2⟩ := Int.eq_ofNat_of_zero_le hz.1
  have hz3 : z ≤ 39 := by omega
  have hq : z / 2 ^ k ≤ z := Nat.div_le_self _ _
  have _ := c
  exact ⟨z, z / 2 ^ k, hz2, rfl, by omega, by omega⟩

set_option maxRecDepth 100000 in
set_option maxHeartbeats 4000000 in
theorem codedBits_any (r P : Nat) (w : World) (hR : Rdr w r P) (hP : P < 600000) :
    Calls Tryd.prog 53 #[.pointer (some ⟨r, 0, none⟩)] w (DrewW r (P + 60) w) := by
  have hrl := hR.lt
  have hM0 := ((Mem.start w).block (.cells #[.slice none 0 0, .int .i64 0] 28)).block (.cells #[.slice none 0 0, .int .i64 0] 28)
  go_enter Tryd.func53, Tryd.ntmps53
  go_wp2_with fail
  refine (pick_any 5 r P _ ((hR.alloc _).alloc _) (by omega) (by omega)).mono ?_
  rintro e w1 ⟨n, rfl, hn0, hn1, _, hR1, hg1⟩
  obtain ⟨n, rfl⟩ := Int.eq_ofNat_of_zero_le hn0
  have hn2 : n ≤ 4 := by have := hn1 (by decide); omega
  have HW : Hid (RB w r (P + 1 + 2 * 0) (.slice none 0 0) 0 (pk []) 255 w1) := by
    refine ⟨?_, ?_, ?_, hR1, grown_trans (grown_trans (grown_alloc w (.cells #[.slice none 0 0, .int .i64 0] 28) _) (grown_alloc _ (.cells #[.slice none 0 0, .int .i64 0] 28) _)) hg1, pk_upto _⟩
    · exact grown_heap hg1 (hM0.get (b := w.heap.size) (by simp)) (by intro e; injection e with e; omega)
    · exact grown_heap hg1 (hM0.get (b := w.heap.size + 1) (by simp)) (by intro e; injection e with e; omega)
    · exact World.ownsRow_nil _ _ _ _
  obtain ⟨n1, hn3⟩ : ∃ n1, n + 1 = n1 := ⟨_, rfl⟩
  have hn4 : (1 : Int) + (n : Int) = (n1 : Int) := by omega
  have hn5 : n1 ≤ 5 := by omega
  clear hR hR1 hg1 hn0 hn1 hM0 hn3
  go_wp2_with fail
  clear hn4
  go_loopw [4] (fun nn wr => ∃ (k m c : Nat) (bv : Value) (cs : List Bool), k + m ≤ 5 ∧ c ≤ 44 * k ∧ nn = .int .i64 m ∧ Hid (cs.length = c) ∧ Hid (RB w r (P + 1 + 2 * k) bv c (pk cs) 255 wr)) (fun nn _ => (intOf nn).toNat)
  case atStart => exact ⟨0, n1, 0, _, [], by omega, by omega, rfl, rfl, HW⟩
  case round =>
    obtain ⟨k, m, c, bv, cs, hkm, hck, rfl, hcs, HR⟩ := hrel
    by_cases hm : 0 < m
    · have hmi : decide ((0 : Int) < (m : Int)) = true := by simp; omega
      obtain ⟨a1, c1, rfl, _, hnil, _, _⟩ := HR.out.own.reads
      have q0 := HR.out.cells.1
      have q1 := HR.out.cells.2
      have hnil := Lib.hid hnil
      have HS := HR
      clear HR
      go_wp2_with fail
      first | (go_region_with ((first
        | (go_at_call 54; refine (pick_any 40 r (P + 1 + 2 * k) _ (HS.out.drew hrl).rdr (by omega) (by omega)).mono ?_; rintro e w2 ⟨y, rfl, hy0, hy1, _, hR2, hg2⟩; have HS2 := Lib.hid ((HS.out.drew hrl).read hrl hg2 hR2); have hS0 := HS2.out.cells.1; have hS1 := HS2.out.cells.2; have hy2 : y ≤ 39 := (by have := hy1 (by decide); omega); have hwy : IntKind.i64.wrap (y - 20) = y - 20 := IntWalk.i64_in _ (by omega); clear hR2 hg2 hy1 HS)
        | (go_at_call 54; refine (pick_any 4 r (P + 1 + 2 * k + 1) _ HS2.out.rdr (by omega) (by omega)).mono ?_; rintro e w3 ⟨kk, rfl, hk0, hk1, _, hR3, hg3⟩; have HS3 := Lib.hid (HS2.out.read hrl hg3 hR3); have hT0 := HS3.out.cells.1; have hT1 := HS3.out.cells.2; have hk2 : kk ≤ 3 := (by have := hk1 (by decide); omega); clear hR3 hg3 hk1 HS2)
        | (go_at_call 58; obtain ⟨kk, rfl⟩ := Int.eq_ofNat_of_zero_le hk0; have HE := Lib.hid (coded_one (y - 20) kk c (by omega) (by omega) (by omega)); obtain ⟨z, q, hz, hq, hq5, hlen⟩ := HE.out; refine (sputR_any cs c z kk q (c + q + 1) ((c + q + 1 + 7) / 8) (c + q + 1 + kk) ((c + q + 1 + kk + 7) / 8) (y - 20) hcs.out hq rfl rfl rfl rfl a1 ((c + 7) / 8) c1 _ (ints_of HS3.out.own) hnil.out (by omega) (by omega) hz (by omega) (by omega) (by omega)).mono ?_; rintro e w4 ⟨v4, rfl, ho4, hg4⟩; obtain ⟨a4, c4, rfl, _, _, _, _⟩ := ho4.reads; have hB := grown_heap hg4 HS3.out.now (by simp); have r0 := (two_cells hB).1; have r1 := (two_cells hB).2; have f0 := frozen_of_row w4 (w.heap.size + 1) 0 _ _ hB; have f1 := frozen_of_row w4 (w.heap.size + 1) 1 _ _ hB; have HCL : Hid ((cs ++ ric z kk).length = c + q + 1 + kk) := (by show _ = _; rw [List.length_append, hcs.out, ric_len, hq]; omega); have HT := Lib.hid (HS3.out.store hrl hg4 ho4 (pk_upto (cs ++ ric z kk))); have hb44 : q + 1 + kk ≤ 44 := hlen; clear ho4 hg4 hB HS3)))) | fail
      all_goals
        have hc3 : c + q + 1 + kk ≤ 44 * (k + 1) := by omega
        have HT : Hid (RB w r (P + 1 + 2 * (k + 1)) (Value.slice a4 ((c + q + 1 + kk + 7) / 8) c4) (c + q + 1 + kk) (pk (cs ++ ric z kk)) 255 ((w4.setCell ⟨w.heap.size + 1, 0, none⟩ (.slice a4 ((c + q + 1 + kk + 7) / 8) c4)).setCell ⟨w.heap.size + 1, 1, none⟩ (.int .i64 ((c : Int) + (q : Int) + 1 + (kk : Int))))) := by
          have h := HT.out
          rw [show ((c + q + 1 + kk : Nat) : Int) = (c : Int) + (q : Int) + 1 + (kk : Int) by omega] at h
          exact ⟨h.res, h.now, h.own, h.rdr.mono (by omega), h.g, h.up⟩
        clear hS0 hS1 hT0 hT1 r0 r1 f0 f1 q0 q1 hwy
        go_wp2
        go_roundw
        case rel => exact ⟨k + 1, m - 1, c + q + 1 + kk, _, _, by omega, hc3, by go_num, HCL, HT⟩
        case measure => simp [intOf]; omega
    · have hmi : decide ((0 : Int) < (m : Int)) = false := by simp; omega
      have hc5 : c ≤ 220 := by omega
      go_wp2_with fail
      refine (pick_any 12 r (P + 1 + 2 * k) _ HR.out.rdr (by omega) (by omega)).mono ?_
      rintro e w2 ⟨y, rfl, hy0, _, _, hR2, hg2⟩
      have HS := Lib.hid (HR.out.read hrl hg2 hR2)
      clear hR2 hg2 HR
      by_cases hy : y = 0
      · subst hy
        go_wp2_with fail
        refine (anyBits_any r (P + 1 + 2 * k + 1) _ HS.out.rdr (by omega)).mono ?_
        rintro e w4 ⟨v4, l4, c4, xs, rfl, hc0, hc1, hl4, ho4, hR4, hg4⟩
        obtain ⟨a4, k4, rfl, _⟩ := ho4.reads
        have hres := grown_heap hg4 HS.out.res (by intro e; injection e with e; omega)
        have r0 := (two_cells hres).1
        have r1 := (two_cells hres).2
        have f0 := frozen_of_row w4 w.heap.size 0 _ _ hres
        have f1 := frozen_of_row w4 w.heap.size 1 _ _ hres
        have hlt2 := block_lt HS.out.res
        have X : Hid (Owns (((w4.setCell ⟨w.heap.size, 0, none⟩ (.slice a4 l4 k4)).setCell ⟨w.heap.size, 1, none⟩ (.int .i64 c4))) w.heap.size (.slice a4 l4 k4) l4 xs ∧ Rdr (((w4.setCell ⟨w.heap.size, 0, none⟩ (.slice a4 l4 k4)).setCell ⟨w.heap.size, 1, none⟩ (.int .i64 c4))) r (P + 60) ∧ w.grownBy (((w4.setCell ⟨w.heap.size, 0, none⟩ (.slice a4 l4 k4)).setCell ⟨w.heap.size, 1, none⟩ (.int .i64 c4))) (some r)) := by
          have hne : (Value.slice a4 l4 k4).ownBlock ≠ some w.heap.size := fun e => by have := ho4.block _ e; omega
          have hgg : w4.grownBy (((w4.setCell ⟨w.heap.size, 0, none⟩ (.slice a4 l4 k4)).setCell ⟨w.heap.size, 1, none⟩ (.int .i64 c4))) (some w.heap.size) := grown_trans (grown_setCell w4 ⟨w.heap.size, 0, none⟩ _) (grown_setCell _ ⟨w.heap.size, 1, none⟩ _)
          exact ⟨((ho4.set _ _ hne).set _ _ hne).base_le (by omega), (hR4.mono (by omega)).kept hgg (fun x hx => by injection hx with hx; omega), grown_row (grown_trans HS.out.g hg4) hgg (fun g e => by injection e with e; omega)⟩
        clear ho4 hR4 hg4 hres HS
        go_wp2
        exact bodyPost_ret (v := .agg #[.slice a4 l4 k4, .int .i64 c4]) (by simp [results, Tryd.results53, go_sem, r0, r1]) rfl ⟨.slice a4 l4 k4, l4, c4, xs, rfl, hc0, hc1, hl4, X.out⟩
      · have hy2 : (y == 0) = false := by simpa using hy
        obtain ⟨a1, c1, rfl, _, _, _, _⟩ := HS.out.own.reads
        have q0 := HS.out.cells.1
        have q1 := HS.out.cells.2
        have r0 := (two_cells HS.out.res).1
        have r1 := (two_cells HS.out.res).2
        have f0 := frozen_of_row w2 w.heap.size 0 _ _ HS.out.res
        have f1 := frozen_of_row w2 w.heap.size 1 _ _ HS.out.res
        have X : Hid (Owns (((w2.setCell ⟨w.heap.size, 0, none⟩ (.slice a1 ((c + 7) / 8) c1)).setCell ⟨w.heap.size, 1, none⟩ (.int .i64 (c : Int)))) w.heap.size (.slice a1 ((c + 7) / 8) c1) ((c + 7) / 8) (pk cs) ∧ Rdr (((w2.setCell ⟨w.heap.size, 0, none⟩ (.slice a1 ((c + 7) / 8) c1)).setCell ⟨w.heap.size, 1, none⟩ (.int .i64 (c : Int)))) r (P + 60) ∧ w.grownBy (((w2.setCell ⟨w.heap.size, 0, none⟩ (.slice a1 ((c + 7) / 8) c1)).setCell ⟨w.heap.size, 1, none⟩ (.int .i64 (c : Int)))) (some r)) := by
          have hne : (Value.slice a1 ((c + 7) / 8) c1).ownBlock ≠ some w.heap.size := fun e => by have := HS.out.own.block _ e; omega
          have hgg : w2.grownBy (((w2.setCell ⟨w.heap.size, 0, none⟩ (.slice a1 ((c + 7) / 8) c1)).setCell ⟨w.heap.size, 1, none⟩ (.int .i64 (c : Int)))) (some w.heap.size) := grown_trans (grown_setCell w2 ⟨w.heap.size, 0, none⟩ _) (grown_setCell _ ⟨w.heap.size, 1, none⟩ _)
          exact ⟨((HS.out.own.set _ _ hne).set _ _ hne).base_le (by omega), (HS.out.rdr.mono (by omega)).kept hgg (fun x hx => by injection hx with hx; omega), grown_row HS.out.g hgg (fun g e => by injection e with e; omega)⟩
        clear HS
        go_wp2
        exact bodyPost_ret (v := .agg #[.slice a1 ((c + 7) / 8) c1, .int .i64 (c : Int)]) (by simp [results, Tryd.results53, go_sem, r0, r1]) rfl ⟨.slice a1 ((c + 7) / 8) c1, (c + 7) / 8, (c : Int), pk cs, rfl, by omega, by omega, by omega, X.out⟩

end Go.Proofs.YtdbneenlejgjcaaDoor
