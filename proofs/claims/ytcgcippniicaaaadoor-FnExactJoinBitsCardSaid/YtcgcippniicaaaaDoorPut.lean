/-
  'put' of the specification: the bits of a number, one behind the other. For bits whose bytes are as many as their count needs.
-/
import Derived.Test.YtcgcippniicaaaaDoorMem
import Derived.Test.YtcgcippniicaaaaDoorStruct
import Derived.Deep.RegionHeld3
import Derived.Deep.LoopGhost
namespace Go.Proofs.YtcgcippniicaaaaDoor
open Go.RowKit

/-- A new byte where one is wanted; a bit in the last one. -/
def pad (ys : List Int) (n : Nat) : List Int := if n % 8 = 0 then ys ++ [0] else ys
def bit (ys : List Int) (n : Nat) : List Int := ys.set (n / 8) (ys.getD (n / 8) 0 + 2 ^ (7 - n % 8))
def putN (ys : List Int) (c v width : Nat) : Nat → List Int
  | 0 => ys
  | j + 1 => if v / 2 ^ (width - 1 - j) % 2 = 1 then bit (pad (putN ys c v width j) (c + j)) (c + j) else pad (putN ys c v width j) (c + j)

theorem pad_len {ys : List Int} {n : Nat} (h : ys.length = (n + 7) / 8) : (pad ys n).length = (n + 1 + 7) / 8 := by
  unfold pad; split
  · simp; omega
  · omega
theorem bit_len {ys : List Int} {n : Nat} : (bit ys n).length = ys.length := by simp [bit]
theorem put_len {ys : List Int} {c v width : Nat} (h : ys.length = (c + 7) / 8) (j : Nat) : (putN ys c v width j).length = (c + j + 7) / 8 := by
  induction j with
  | zero => exact h
  | succ j ih =>
    simp only [putN]
    split
    · rw [bit_len, pad_len ih]; congr 1
    · rw [pad_len ih]; congr 1

/-- Every number of a list is in 0 .. M. -/
def Upto (ys : List Int) (M : Int) : Prop := ∀ y ∈ ys, 0 ≤ y ∧ y ≤ M
theorem Upto.mono {ys : List Int} {M N : Int} (h : Upto ys M) (hmn : M ≤ N) : Upto ys N := fun y hy => ⟨(h y hy).1, Int.le_trans (h y hy).2 hmn⟩
theorem Upto.pad {ys : List Int} {M : Int} {n : Nat} (h : Upto ys M) (hM : 0 ≤ M) : Upto (pad ys n) M := by
  unfold Proofs.YtcgcippniicaaaaDoor.pad; split
  · intro y hy
    rcases List.mem_append.1 hy with h1 | h1
    · exact h y h1
    · simp at h1; subst h1; exact ⟨Int.le_refl _, hM⟩
  · exact h
theorem pow7 (n : Nat) : (0 : Int) ≤ 2 ^ (7 - n % 8) ∧ (2 : Int) ^ (7 - n % 8) ≤ 128 := by
  have : n % 8 = 0 ∨ n % 8 = 1 ∨ n % 8 = 2 ∨ n % 8 = 3 ∨ n % 8 = 4 ∨ n % 8 = 5 ∨ n % 8 = 6 ∨ n % 8 = 7 := by omega
  rcases this with h | h | h | h | h | h | h | h <;> rw [h] <;> decide
theorem Upto.getD {ys : List Int} {M : Int} (h : Upto ys M) (hM : 0 ≤ M) (i : Nat) : 0 ≤ ys.getD i 0 ∧ ys.getD i 0 ≤ M := by
  rw [List.getD_eq_getElem?_getD]
  cases hi : ys[i]? with
  | none => exact ⟨Int.le_refl _, hM⟩
  | some y => exact h y (List.mem_of_getElem? hi)
theorem Upto.bit {ys : List Int} {M : Int} {n : Nat} (h : Upto ys M) (hM : 0 ≤ M) : Upto (bit ys n) (M + 128) := by
  unfold Proofs.YtcgcippniicaaaaDoor.bit
  intro y hy
  have h7 := pow7 n
  have hg := h.getD hM (n / 8)
  rcases List.mem_or_eq_of_mem_set hy with h1 | h1
  · have := h y h1; omega
  · omega
theorem Upto.putN {ys : List Int} {M : Int} {c v width : Nat} (h : Upto ys M) (hM : 0 ≤ M) (j : Nat) : Upto (putN ys c v width j) (M + 128 * (j : Int)) := by
  induction j with
  | zero => exact h.mono (by omega)
  | succ j ih =>
    simp only [Proofs.YtcgcippniicaaaaDoor.putN]
    split
    · exact ((ih.pad (by omega)).bit (by omega)).mono (by omega)
    · exact (ih.pad (by omega)).mono (by omega)

theorem and_one (x : Nat) (h : x < 4611686018427387904) : bits .and .i64 (x : Int) 1 = ((x % 2 : Nat) : Int) := by
  have := i64_and_nat x 1 h (by decide)
  rw [Nat.and_one_is_mod] at this; exact this

theorem sbit {v s : Nat} (hv : v < 4294967296) : bits .and .i64 ((v : Int) / 2 ^ min s 64) 1 = ((v / 2 ^ s % 2 : Nat) : Int) := by
  have e : (v : Int) / 2 ^ min s 64 = ((v / 2 ^ s : Nat) : Int) := by
    have h1 : v / 2 ^ min s 64 = v / 2 ^ s := by
      by_cases h : s ≤ 64
      · rw [Nat.min_eq_left h]
      · rw [Nat.min_eq_right (by omega), Nat.div_eq_of_lt (by omega), Nat.div_eq_of_lt]
        exact Nat.lt_of_lt_of_le (by omega : v < 2 ^ 64) (Nat.pow_le_pow_right (by decide) (by omega))
    rw [← h1]; simp
  rw [e]
  exact and_one _ (Nat.lt_of_le_of_lt (Nat.div_le_self _ _) (by omega))
theorem sbit_true {v s : Nat} (hv : v < 4294967296) (h : v / 2 ^ s % 2 = 1) : (bits .and .i64 ((v : Int) / 2 ^ min s 64) 1 == 1) = true := by rw [sbit hv, h]; rfl
theorem sbit_false {v s : Nat} (hv : v < 4294967296) (h : ¬ v / 2 ^ s % 2 = 1) : (bits .and .i64 ((v : Int) / 2 ^ min s 64) 1 == 1) = false := by
  rw [sbit hv, show v / 2 ^ s % 2 = 0 by omega]; rfl

set_option maxRecDepth 100000 in
set_option maxHeartbeats 4000000 in
theorem put_any (xs : List Int) (ao : Option Addr) (len cap c v width : Nat) (M : Int) (w : World) (hx : Ints w ao len xs) (hn : ao = none → cap = 0) (hlen : xs.length = (c + 7) / 8) (hc : c ≤ 100000) (hv : v < 4294967296) (hwd : width ≤ 1000) (hu : Upto xs M) (hM0 : 0 ≤ M) (hM : M ≤ 1000000000) :
    Calls Tryd.prog 39 #[.agg #[.slice ao len cap, .int .i64 (c : Int)], .int .i64 (v : Int), .int .i64 (width : Int)] w (MadeBits (putN xs c v width width) ((c + width + 7) / 8) ((c : Int) + (width : Int)) w) := by
  have hl := hx.1
  have k1 := copyInts_any xs ao len cap ((w.alloc (.cells #[.slice ao len cap, .int .i64 (c : Int)] 25)).alloc (.cells #[.slice none 0 0, .int .i64 0] 25)) (hx.grown (grown_trans (grown_alloc _ _ _) (grown_alloc _ _ _))) hn (by omega)
  have HLEN := Lib.hid hlen
  have HU := Lib.hid hu
  have hl2 : len ≤ 20000 := by omega
  clear hx hn hlen hl hu
  go_enter Tryd.func39, Tryd.ntmps39
  go_wp2_with fail
  refine k1.mono ?_
  rintro e w1 ⟨v1, rfl, ho1, hg1⟩
  have HM1 : Hid (∃ L1, Stands L1 (w.heap.size + 2) v1 ((c + 0 + 7) / 8) (putN xs c v width 0) ∧ Mem w w1 ([(w.heap.size, Obj.cells #[.slice ao len cap, .int .i64 (c : Int)] 25), (w.heap.size + 1, Obj.cells #[.slice none 0 0, .int .i64 0] 25)] ++ L1)) := by
    have hm := ((Mem.start w).block (.cells #[.slice ao len cap, .int .i64 (c : Int)] 25)).block (.cells #[.slice none 0 0, .int .i64 0] 25)
    have ho1' : Owns w1 (w.heap.size + 2) v1 ((c + 0 + 7) / 8) (putN xs c v width 0) := by
      have e := ho1.len_eq
      rw [HLEN.out] at e
      rw [show (c + 0 + 7) / 8 = len by omega]
      have := ho1
      rw [show ((w.alloc (.cells #[.slice ao len cap, .int .i64 (c : Int)] 25)).alloc (.cells #[.slice none 0 0, .int .i64 0] 25)).heap.size = w.heap.size + 2 by simp] at this
      exact this
    obtain ⟨L1, hs, hm1⟩ := hm.own hg1 (by simp) ho1'
    refine ⟨L1, hs, hm1.cast (by simp)⟩
  have q1 : w1.cell? ⟨w.heap.size, 1, none⟩ = some (.int .i64 (c : Int)) := by
    obtain ⟨L1, _, hm⟩ := HM1.out
    rw [cell_of_row w1 _ 1 _ _ _ (hm.get (b := w.heap.size) (o := Obj.cells #[.slice ao len cap, .int .i64 (c : Int)] 25) (by simp))]; rfl
  clear k1 ho1 hg1
  go_wp2
  go_loopw [7, 8, 9] (fun bv nn ii wr => ∃ (bv0 : Value) (j m s : Nat), bv0 = bv ∧ Hid (m = c + j) ∧ Hid (j + s = width) ∧ nn = .int .i64 (m : Int) ∧ ii = .int .i64 ((s : Int) - 1) ∧
      Hid (∃ L1, Stands L1 (w.heap.size + 2) bv0 ((m + 7) / 8) (putN xs c v width j) ∧ Mem w wr ([(w.heap.size, Obj.cells #[.slice ao len cap, .int .i64 (c : Int)] 25), (w.heap.size + 1, Obj.cells #[.slice none 0 0, .int .i64 0] 25)] ++ L1))) (fun _ nn _ _ => c + width - (intOf nn).toNat)
  case atStart => exact ⟨_, 0, c, width, rfl, Lib.hid rfl, Lib.hid (by omega), by simp, by simp, HM1⟩
  case round =>
    obtain ⟨bv, j, m, s, rfl, hm, hjs, rfl, rfl, HR⟩ := hrel
    cases s with
    | succ s =>
      rw [show ((s + 1 : Nat) : Int) - 1 = (s : Int) by omega] at *
      have hmB : m ≤ 102000 := by have := hm.out; have := hjs.out; omega
      have hsB : s ≤ 1000 := by have := hjs.out; omega
      by_cases h8 : m % 8 = 0
      · have d8 : ((m : Int) % 8 == 0) = true := by simp; omega
        obtain ⟨L1, hs, hmem⟩ := HR.out
        have HO := hmem.owns hs (fun p hp => List.mem_append_right _ hp)
        go_wp2_with (at_builtin; refine append_ints rfl _ _ rfl (w.heap.size + 2) bv ((m + 7) / 8) (putN xs c v width j) rfl (HO.grown (grown_alloc _ _ _)) (some ⟨wr.heap.size, 0, none⟩) 1 1 [0] rfl (ints_one _ _ _) (fun e => nomatch e) ?a1 ?a2 ?_)
        case a1 => have := hm.out; have := hjs.out; omega
        case a2 => have := hmem.g.size; have := hmem.lt (w.heap.size + 1, Obj.cells #[.slice none 0 0, .int .i64 0] 25) (by simp); simp at *; omega
        intro v2 w2 hown hgrow
        have HM2 : Hid (∃ L1, Stands L1 (w.heap.size + 2) v2 ((m + 1 + 7) / 8) (pad (putN xs c v width j) m) ∧ Mem w w2 ([(w.heap.size, Obj.cells #[.slice ao len cap, .int .i64 (c : Int)] 25), (w.heap.size + 1, Obj.cells #[.slice none 0 0, .int .i64 0] 25)] ++ L1)) := by
          have e1 : pad (putN xs c v width j) m = putN xs c v width j ++ [0] := by unfold pad; rw [if_pos h8]
          rw [e1, show (m + 1 + 7) / 8 = (m + 7) / 8 + 1 by omega]
          exact (hmem.grown (grown_alloc wr _ none)).replace hs (by simp) (by omega) hgrow hown
        clear hown hgrow HO hs hmem HR
        by_cases hb : v / 2 ^ s % 2 = 1
        · have db := sbit_true hv hb
          have HX : Hid (∃ g vc y q r, v2 = .slice (some ⟨g, 0, none⟩) ((m + 1 + 7) / 8) vc ∧ m / 8 = q ∧ m % 8 = r ∧ q < (m + 1 + 7) / 8 ∧ (pad (putN xs c v width j) m).getD (m / 8) 0 = y ∧ 0 ≤ y ∧ y ≤ 2000000000 ∧ w2.cell? ⟨g, q, none⟩ = some (.int .i64 y) ∧ w2.frozen? ⟨g, q, none⟩ = false ∧
              (∃ L1, Stands L1 (w.heap.size + 2) v2 ((m + 1 + 7) / 8) (putN xs c v width (j + 1)) ∧ Mem w (w2.setCell ⟨g, q, none⟩ (.int .i64 (y + 2 ^ (7 - r)))) ([(w.heap.size, Obj.cells #[.slice ao len cap, .int .i64 (c : Int)] 25), (w.heap.size + 1, Obj.cells #[.slice none 0 0, .int .i64 0] 25)] ++ L1))) := by
            obtain ⟨L2, hs2, hm2⟩ := HM2.out
            have HO2 := hm2.owns hs2 (fun p hp => List.mem_append_right _ hp)
            rcases HO2.2 with ⟨_, h0⟩ | ⟨g, vc, cur, rfl, hg, _⟩
            · omega
            have hup := ((HU.out.putN (c := c) (v := v) (width := width) hM0 j).pad (n := m) (by omega)).getD (by omega) (m / 8)
            have hlt : m / 8 < (pad (putN xs c v width j) m).length := by rw [HO2.len_eq]; omega
            have hget : (pad (putN xs c v width j) m)[m / 8]? = some ((pad (putN xs c v width j) m).getD (m / 8) 0) := by
              rw [List.getD_eq_getElem?_getD, List.getElem?_eq_getElem hlt]; rfl
            have hw : width - 1 - j = s := by have := hjs.out; omega
            have hj1 : j ≤ 1000 := by have := hjs.out; omega
            have e2 : putN xs c v width (j + 1) = (pad (putN xs c v width j) m).set (m / 8) ((pad (putN xs c v width j) m).getD (m / 8) 0 + 2 ^ (7 - m % 8)) := by
              simp only [putN]
              rw [hw, if_pos hb, ← hm.out]; rfl
            refine ⟨g, vc, _, _, _, rfl, rfl, rfl, by omega, rfl, hup.1, by omega, ?_, World.ownsRow.frozenAt HO2 (m / 8), ?_⟩
            · rw [World.ownsRow.cellAt HO2 (m / 8) (by omega), List.getElem?_map, hget]; rfl
            · have hst := World.ownsRow.stored HO2 (m / 8) (.int .i64 ((pad (putN xs c v width j) m).getD (m / 8) 0 + 2 ^ (7 - m % 8)))
              rw [← List.map_set, ← e2] at hst
              obtain ⟨L3, hs3, hm3⟩ := hm2.replace hs2 (by simp) (by omega) (by simpa [Value.ownBlock] using hst.2) hst.1
              exact ⟨L3, hs3, hm3⟩
          clear HM2
          obtain ⟨g, vc, y, q, r, rfl, hq, hr, hq2, hy, hy0, hy1, hcell, hfz, R⟩ := HX.out
          have R := Lib.hid R
          generalize hn1 : (m + 1 + 7) / 8 = n at *
          have hn1 := Lib.hid hn1
          have iq : (m : Int) / 8 = (q : Int) := by omega
          have iq2 : (q : Int) < (n : Int) := by omega
          have ir : (m : Int) % 8 = (r : Int) := by omega
          clear HX hq hy
          have hr8 : r = 0 ∨ r = 1 ∨ r = 2 ∨ r = 3 ∨ r = 4 ∨ r = 5 ∨ r = 6 ∨ r = 7 := by omega
          clear hr
          rcases hr8 with rfl | rfl | rfl | rfl | rfl | rfl | rfl | rfl
          all_goals first
            | (exfalso; omega)
            | (skip
               go_wp2
               go_region
               go_wp2
               go_roundw
               case rel => exact ⟨_, j + 1, m + 1, s, rfl, Lib.hid (by have := hm.out; omega), Lib.hid (by have := hjs.out; omega), by go_num, by go_num, Lib.hid (by obtain ⟨L3, a3, b3⟩ := R.out; exact ⟨L3, hn1.out.symm ▸ a3, b3.grown (grown_drew _ _)⟩)⟩
               case measure => have := hm.out; have := hjs.out; simp [intOf]; omega)
        · have db := sbit_false hv hb
          have R : Hid (∃ L1, Stands L1 (w.heap.size + 2) v2 ((m + 1 + 7) / 8) (putN xs c v width (j + 1)) ∧ Mem w w2 ([(w.heap.size, Obj.cells #[.slice ao len cap, .int .i64 (c : Int)] 25), (w.heap.size + 1, Obj.cells #[.slice none 0 0, .int .i64 0] 25)] ++ L1)) := by
            have hw : width - 1 - j = s := by have := hjs.out; omega
            have e2 : putN xs c v width (j + 1) = pad (putN xs c v width j) m := by
              simp only [putN]
              rw [hw, if_neg hb, ← hm.out]
            rw [e2]; exact HM2.out
          clear HM2 hb
          go_wp2
          go_roundw
          case rel => exact ⟨_, j + 1, m + 1, s, rfl, Lib.hid (by have := hm.out; omega), Lib.hid (by have := hjs.out; omega), by go_num, by go_num, R⟩
          case measure => have := hm.out; have := hjs.out; simp [intOf]; omega
      · have d8 : ((m : Int) % 8 == 0) = false := by simp; omega
        have HM2 : Hid (∃ L1, Stands L1 (w.heap.size + 2) bv ((m + 1 + 7) / 8) (pad (putN xs c v width j) m) ∧ Mem w wr ([(w.heap.size, Obj.cells #[.slice ao len cap, .int .i64 (c : Int)] 25), (w.heap.size + 1, Obj.cells #[.slice none 0 0, .int .i64 0] 25)] ++ L1)) := by
          have e1 : pad (putN xs c v width j) m = putN xs c v width j := by unfold pad; rw [if_neg h8]
          rw [e1, show (m + 1 + 7) / 8 = (m + 7) / 8 by omega]
          exact HR.out
        clear HR
        by_cases hb : v / 2 ^ s % 2 = 1
        · have db := sbit_true hv hb
          have HX : Hid (∃ g vc y q r, bv = .slice (some ⟨g, 0, none⟩) ((m + 1 + 7) / 8) vc ∧ m / 8 = q ∧ m % 8 = r ∧ q < (m + 1 + 7) / 8 ∧ (pad (putN xs c v width j) m).getD (m / 8) 0 = y ∧ 0 ≤ y ∧ y ≤ 2000000000 ∧ wr.cell? ⟨g, q, none⟩ = some (.int .i64 y) ∧ wr.frozen? ⟨g, q, none⟩ = false ∧
              (∃ L1, Stands L1 (w.heap.size + 2) bv ((m + 1 + 7) / 8) (putN xs c v width (j + 1)) ∧ Mem w (wr.setCell ⟨g, q, none⟩ (.int .i64 (y + 2 ^ (7 - r)))) ([(w.heap.size, Obj.cells #[.slice ao len cap, .int .i64 (c : Int)] 25), (w.heap.size + 1, Obj.cells #[.slice none 0 0, .int .i64 0] 25)] ++ L1))) := by
            obtain ⟨L2, hs2, hm2⟩ := HM2.out
            have HO2 := hm2.owns hs2 (fun p hp => List.mem_append_right _ hp)
            rcases HO2.2 with ⟨_, h0⟩ | ⟨g, vc, cur, rfl, hg, _⟩
            · omega
            have hup := ((HU.out.putN (c := c) (v := v) (width := width) hM0 j).pad (n := m) (by omega)).getD (by omega) (m / 8)
            have hlt : m / 8 < (pad (putN xs c v width j) m).length := by rw [HO2.len_eq]; omega
            have hget : (pad (putN xs c v width j) m)[m / 8]? = some ((pad (putN xs c v width j) m).getD (m / 8) 0) := by
              rw [List.getD_eq_getElem?_getD, List.getElem?_eq_getElem hlt]; rfl
            have hw : width - 1 - j = s := by have := hjs.out; omega
            have hj1 : j ≤ 1000 := by have := hjs.out; omega
            have e2 : putN xs c v width (j + 1) = (pad (putN xs c v width j) m).set (m / 8) ((pad (putN xs c v width j) m).getD (m / 8) 0 + 2 ^ (7 - m % 8)) := by
              simp only [putN]
              rw [hw, if_pos hb, ← hm.out]; rfl
            refine ⟨g, vc, _, _, _, rfl, rfl, rfl, by omega, rfl, hup.1, by omega, ?_, World.ownsRow.frozenAt HO2 (m / 8), ?_⟩
            · rw [World.ownsRow.cellAt HO2 (m / 8) (by omega), List.getElem?_map, hget]; rfl
            · have hst := World.ownsRow.stored HO2 (m / 8) (.int .i64 ((pad (putN xs c v width j) m).getD (m / 8) 0 + 2 ^ (7 - m % 8)))
              rw [← List.map_set, ← e2] at hst
              obtain ⟨L3, hs3, hm3⟩ := hm2.replace hs2 (by simp) (by omega) (by simpa [Value.ownBlock] using hst.2) hst.1
              exact ⟨L3, hs3, hm3⟩
          clear HM2
          obtain ⟨g, vc, y, q, r, rfl, hq, hr, hq2, hy, hy0, hy1, hcell, hfz, R⟩ := HX.out
          have R := Lib.hid R
          generalize hn1 : (m + 1 + 7) / 8 = n at *
          have hn1 := Lib.hid hn1
          have iq : (m : Int) / 8 = (q : Int) := by omega
          have iq2 : (q : Int) < (n : Int) := by omega
          have ir : (m : Int) % 8 = (r : Int) := by omega
          clear HX hq hy
          have hr8 : r = 0 ∨ r = 1 ∨ r = 2 ∨ r = 3 ∨ r = 4 ∨ r = 5 ∨ r = 6 ∨ r = 7 := by omega
          clear hr
          rcases hr8 with rfl | rfl | rfl | rfl | rfl | rfl | rfl | rfl
          all_goals first
            | (exfalso; omega)
            | (skip
               go_wp2
               go_region
               go_wp2
               go_roundw
               case rel => exact ⟨_, j + 1, m + 1, s, rfl, Lib.hid (by have := hm.out; omega), Lib.hid (by have := hjs.out; omega), by go_num, by go_num, Lib.hid (by obtain ⟨L3, a3, b3⟩ := R.out; exact ⟨L3, hn1.out.symm ▸ a3, b3.grown (grown_drew _ _)⟩)⟩
               case measure => have := hm.out; have := hjs.out; simp [intOf]; omega)
        · have db := sbit_false hv hb
          have R : Hid (∃ L1, Stands L1 (w.heap.size + 2) bv ((m + 1 + 7) / 8) (putN xs c v width (j + 1)) ∧ Mem w wr ([(w.heap.size, Obj.cells #[.slice ao len cap, .int .i64 (c : Int)] 25), (w.heap.size + 1, Obj.cells #[.slice none 0 0, .int .i64 0] 25)] ++ L1)) := by
            have hw : width - 1 - j = s := by have := hjs.out; omega
            have e2 : putN xs c v width (j + 1) = pad (putN xs c v width j) m := by
              simp only [putN]
              rw [hw, if_neg hb, ← hm.out]
            rw [e2]; exact HM2.out
          clear HM2 hb
          go_wp2
          go_roundw
          case rel => exact ⟨_, j + 1, m + 1, s, rfl, Lib.hid (by have := hm.out; omega), Lib.hid (by have := hjs.out; omega), by go_num, by go_num, R⟩
          case measure => have := hm.out; have := hjs.out; simp [intOf]; omega
    | zero =>
      rw [show ((0 : Nat) : Int) - 1 = -1 by rfl] at *
      have hj0 : j = width := by have := hjs.out; omega
      have hm0 := hm.out
      subst hj0
      have X : Hid (∃ a1 c1, bv = .slice a1 ((m + 7) / 8) c1 ∧ wr.frozen? ⟨w.heap.size + 1, 0, none⟩ = false ∧ wr.frozen? ⟨w.heap.size + 1, 1, none⟩ = false ∧
          wr.cell? ⟨w.heap.size + 1, 0, none⟩ = some (.slice none 0 0) ∧ wr.cell? ⟨w.heap.size + 1, 1, none⟩ = some (.int .i64 0) ∧
          Owns ((wr.setCell ⟨w.heap.size + 1, 0, none⟩ bv).setCell ⟨w.heap.size + 1, 1, none⟩ (.int .i64 (m : Int))) w.heap.size bv ((m + 7) / 8) (putN xs c v j j) ∧
          w.grownBy ((wr.setCell ⟨w.heap.size + 1, 0, none⟩ bv).setCell ⟨w.heap.size + 1, 1, none⟩ (.int .i64 (m : Int))) none ∧ w.heap.size + 2 ≤ wr.heap.size) := by
        obtain ⟨L1, hs, hmem⟩ := HR.out
        have HO := hmem.owns hs (fun p hp => List.mem_append_right _ hp)
        obtain ⟨a1, c1, rfl, _⟩ := HO.reads
        have hB := hmem.get (b := w.heap.size + 1) (o := Obj.cells #[.slice none 0 0, .int .i64 0] 25) (by simp)
        have hne : (Value.slice a1 ((m + 7) / 8) c1).ownBlock ≠ some (w.heap.size + 1) := fun e => by have := Owns.block HO _ e; omega
        have hlt := block_lt hB
        exact ⟨a1, c1, rfl, frozen_of_row wr _ 0 _ _ hB, frozen_of_row wr _ 1 _ _ hB, by rw [cell_of_row wr _ 0 _ _ _ hB]; rfl, by rw [cell_of_row wr _ 1 _ _ _ hB]; rfl,
          Owns.base_le (Owns.set (Owns.set HO _ _ hne) _ _ hne) (by omega), grown_set (grown_set hmem.g (by simp)) (by simp), by omega⟩
      obtain ⟨a1, c1, hbv, f0, f1, q2, q3, X2⟩ := X.out
      have hz := X2.2.2
      have X3 := Lib.hid X2
      have HM0 := Lib.hid hm0
      clear HR hjs hm X X2 HM1 hm0
      subst hbv
      go_wp2
      refine bodyPost_ret (v := .agg #[.slice a1 ((m + 7) / 8) c1, .int .i64 (m : Int)]) (by simp [results, Tryd.results39, go_sem, q2, q3]) rfl ⟨.slice a1 ((m + 7) / 8) c1, ?_, ?_, ?_⟩
      · rw [HM0.out]; simp
      · rw [← HM0.out]; exact X3.out.1
      · exact X3.out.2.1
end Go.Proofs.YtcgcippniicaaaaDoor
