/-
  The program's writer: a number put, or nothing and an error; a new writer; its bits.
-/
import Derived.Test.YtcgcippniicaaaaDoorWtr
import Derived.Deep.RegionHeld3
import Derived.Deep.QuietTactic
import Derived.BigQuiet
namespace Go.Proofs.YtcgcippniicaaaaDoor
open Go.RowKit
variable {K : List (Nat × Obj)}

/-- A package-level error lies in block g: an interface value that is not nil. -/
def ErrAt (w : World) (g : Nat) : Prop := ∃ (t : TypeId) (v : Value), w.cell? ⟨g, 0, none⟩ = some (.iface t v)
theorem ErrAt.grown {w w' : World} {g : Nat} (h : ErrAt w g) (hg : w.grownBy w' none) : ErrAt w' g := by
  obtain ⟨t, v, hc⟩ := h; exact ⟨t, v, hg.cell hc (by simp)⟩

theorem and_bit {v s : Nat} (hv : v < 4294967296) : bits .and .i64 ((v : Int) / 2 ^ s) 1 = if decide (v / 2 ^ s % 2 = 1) then 1 else 0 := by
  have e : (v : Int) / 2 ^ s = ((v / 2 ^ s : Nat) : Int) := by simp
  rw [e, and_one _ (Nat.lt_of_le_of_lt (Nat.div_le_self _ _) (by omega))]
  have := Nat.mod_two_eq_zero_or_one (v / 2 ^ s)
  rcases this with h | h <;> simp [h]

set_option maxRecDepth 100000 in
set_option maxHeartbeats 2000000 in
theorem put_good (v wd : Nat) (w0 w : World) (B : Nat) (bs : List Bool) (hW : Wtr K w0 w B bs) (hwd : wd ≤ 32) (hv : v < 2 ^ wd) (hn : bs.length + wd ≤ 16384) :
    Calls Tryd.prog 36 #[.pointer (some ⟨B, 0, none⟩), .int .i64 (v : Int), .int .i64 (wd : Int)] w fun e w' => e = .returned .nilIface ∧ Wtr K w0 w' B (bs ++ numB v wd) := by
  have hv32 : v < 4294967296 := Nat.lt_of_lt_of_le hv (Nat.pow_le_pow_right (by decide) hwd)
  obtain ⟨v0, hh, _, _, _⟩ := hW.ex
  obtain ⟨m, hm⟩ : ∃ m, bs.length = m := ⟨_, rfl⟩
  rw [hm] at hh hn
  have q1 : w.cell? ⟨B, 1, none⟩ = some (.int .i64 (m : Int)) := by rw [cell_of_row w _ 1 _ _ _ hh]; rfl
  have hz : v / 2 ^ wd = 0 := Nat.div_eq_of_lt hv
  have hsh : ((v : Int) / 2 ^ wd != 0) = false := by
    simp only [bne_eq_false_iff_eq]
    exact_mod_cast hz
  have d1 : decide ((wd : Int) < 0) = false := by simp
  have d2 : decide (32 < (wd : Int)) = false := by simp; omega
  have d3 : decide ((v : Int) < 0) = false := by simp
  have d4 : decide (16384 - (m : Int) < (wd : Int)) = false := by simp; omega
  have HW := Lib.hid hW
  have HM := Lib.hid hm
  have hwd32 := hwd
  clear hW hh hm hz hv
  go_enter Tryd.func36, Tryd.ntmps36
  go_wp2_with fail
  go_loopw [7] (fun iv wr => ∃ (j s : Nat), Hid (j + s = wd) ∧ iv = .int .i64 ((s : Int) - 1) ∧ Hid (Wtr K w0 wr B (bs ++ (numB v wd).take j))) (fun iv _ => (intOf iv + 1).toNat)
  case atStart => exact ⟨0, wd, by show _ = _; omega, rfl, by simpa using HW⟩
  case round =>
    obtain ⟨j, s, hjs, rfl, HR⟩ := hrel
    cases s with
    | succ s =>
      rw [show ((s + 1 : Nat) : Int) - 1 = (s : Int) by omega] at *
      have hs32 : s ≤ 31 := by have := hjs.out; omega
      have HB := Lib.hid (and_bit (v := v) (s := s) hv32)
      have hl : (bs ++ (numB v wd).take j).length < 16384 := by have := hjs.out; have := HM.out; simp [numB_len]; omega
      have HT : Hid (bs ++ (numB v wd).take (j + 1) = (bs ++ (numB v wd).take j) ++ [decide (v / 2 ^ s % 2 = 1)]) := by
        show _ = _
        have h := hjs.out
        rw [numB_take (by omega), show wd - 1 - j = s by omega, List.append_assoc]
      go_wp2_with fail
      refine (putBit_any (decide (v / 2 ^ s % 2 = 1)) _ w0 _ B _ HR.out HB.out.symm hl).mono ?_
      rintro e w2 ⟨rfl, hw2⟩
      rw [← HT.out] at hw2
      have HR2 := Lib.hid hw2
      clear hw2 HR hl
      go_wp2
      go_roundw
      case rel => exact ⟨j + 1, s, by show _ = _; have := hjs.out; omega, rfl, HR2⟩
      case measure => simp [intOf]
    | zero =>
      rw [show ((0 : Nat) : Int) - 1 = -1 by rfl] at *
      have HF : Hid (Wtr K w0 wr B (bs ++ numB v wd)) := by
        have h := hjs.out
        have := HR.out
        rwa [List.take_of_length_le (by rw [numB_len]; omega)] at this
      go_wp2
      go_ret
      exact ⟨rfl, HF.out⟩

set_option maxHeartbeats 1000000 in
theorem put_number (x z : Int) (w : World) (B : Nat) (hE : ErrAt w 0) (hbad : z < 0 ∨ 32 < z ∨ x < 0 ∨ (0 ≤ z ∧ z ≤ 32 ∧ 0 ≤ x ∧ x / 2 ^ z.toNat ≠ 0)) :
    Calls Tryd.prog 36 #[.pointer (some ⟨B, 0, none⟩), .int .i64 x, .int .i64 z] w fun e w' => (∃ t v, e = .returned (.iface t v)) ∧ w = w' := by
  obtain ⟨t, v, hc⟩ := hE
  by_cases h1 : z < 0
  · have d1 : decide (z < 0) = true := by simpa using h1
    clear hbad
    go_enter Tryd.func36, Tryd.ntmps36
    go_wp2
    go_ret
    exact ⟨⟨t, v, rfl⟩, rfl⟩
  have d1 : decide (z < 0) = false := by simpa using h1
  by_cases h2 : 32 < z
  · have d2 : decide (32 < z) = true := by simpa using h2
    clear hbad
    go_enter Tryd.func36, Tryd.ntmps36
    go_wp2
    go_ret
    exact ⟨⟨t, v, rfl⟩, rfl⟩
  have d2 : decide (32 < z) = false := by simpa using h2
  by_cases h3 : x < 0
  · have d3 : decide (x < 0) = true := by simpa using h3
    clear hbad
    go_enter Tryd.func36, Tryd.ntmps36
    go_wp2
    go_ret
    exact ⟨⟨t, v, rfl⟩, rfl⟩
  have d3 : decide (x < 0) = false := by simpa using h3
  obtain ⟨n, rfl⟩ := Int.eq_ofNat_of_zero_le (show 0 ≤ z by omega)
  have h4 : x / 2 ^ n ≠ 0 := by
    rcases hbad with h | h | h | h
    · omega
    · omega
    · omega
    · simpa using h.2.2.2
  have d4 : (x / 2 ^ n != 0) = true := by simpa using h4
  have hn : n ≤ 32 := by omega
  clear hbad h4 h1 h2 h3
  go_enter Tryd.func36, Tryd.ntmps36
  go_wp2
  go_ret
  exact ⟨⟨t, v, rfl⟩, rfl⟩

set_option maxHeartbeats 1000000 in
theorem put_room (v wd : Nat) (w0 w : World) (B : Nat) (bs : List Bool) (hW : Wtr K w0 w B bs) (hE : ErrAt w 1) (hwd : wd ≤ 32) (hv : v < 2 ^ wd) (hl : bs.length ≤ 16384) (hn : 16384 < bs.length + wd) :
    Calls Tryd.prog 36 #[.pointer (some ⟨B, 0, none⟩), .int .i64 (v : Int), .int .i64 (wd : Int)] w fun e w' => (∃ t v, e = .returned (.iface t v)) ∧ w = w' := by
  obtain ⟨t, u, hc⟩ := hE
  obtain ⟨v0, hh, _, _, _⟩ := hW.ex
  obtain ⟨m, hm⟩ : ∃ m, bs.length = m := ⟨_, rfl⟩
  rw [hm] at hh hn hl
  have q1 : w.cell? ⟨B, 1, none⟩ = some (.int .i64 (m : Int)) := by rw [cell_of_row w _ 1 _ _ _ hh]; rfl
  have hz : v / 2 ^ wd = 0 := Nat.div_eq_of_lt hv
  have hsh : ((v : Int) / 2 ^ wd != 0) = false := by
    simp only [bne_eq_false_iff_eq]
    exact_mod_cast hz
  have d1 : decide ((wd : Int) < 0) = false := by simp
  have d2 : decide (32 < (wd : Int)) = false := by simp; omega
  have d3 : decide ((v : Int) < 0) = false := by simp
  have d4 : decide (16384 - (m : Int) < (wd : Int)) = true := by simp; omega
  clear hW hh hm hz hv
  go_enter Tryd.func36, Tryd.ntmps36
  go_wp2
  go_ret
  exact ⟨⟨t, u, rfl⟩, rfl⟩


set_option maxRecDepth 100000 in
set_option maxHeartbeats 2000000 in
theorem newWriter_bad (xs : List Int) (ao : Option Addr) (len cap : Nat) (c : Int) (w : World) (hx : Ints w ao len xs) (hlen : len ≤ 4194304) (hv : VB xs c = false) (hE : ErrAt w 3) :
    Calls Tryd.prog 62 #[.agg #[.slice ao len cap, .int .i64 c]] w fun e w' => (∃ t v, e = .returned (.tuple #[.pointer none, .iface t v])) ∧ w.grownBy w' none := by
  have k1 := iValidBits xs ao len cap c false (w.alloc (.cells #[.slice ao len cap, .int .i64 c] 25)) (hx.grown (grown_alloc _ _ _)) hlen hv
  have HE := Lib.hid hE
  clear hx hv hE
  go_enter Tryd.func62, Tryd.ntmps62
  go_wp2_with fail
  refine k1.mono ?_
  rintro e w1 ⟨rfl, hg⟩
  have HG := Lib.hid (grown_trans (grown_alloc w (.cells #[.slice ao len cap, .int .i64 c] 25) none) hg)
  obtain ⟨t, v, hc⟩ := HE.out.grown HG.out
  clear k1 hg
  go_wp2
  go_quiet (fail)
  go_wp2
  go_ret2
  exact ⟨⟨t, v, rfl⟩, grown_trans HG.out (grown_drewN _ _ _)⟩

set_option maxRecDepth 100000 in
set_option maxHeartbeats 2000000 in
theorem newWriter_good (bs : List Bool) (ao : Option Addr) (len cap : Nat) (w : World) (hx : Ints w ao len (pk bs)) (hn : ao = none → cap = 0) (hb : bs.length ≤ 16384) :
    Calls Tryd.prog 62 #[.agg #[.slice ao len cap, .int .i64 (bs.length : Int)]] w fun e w' => ∃ B, e = .returned (.tuple #[.pointer (some ⟨B, 0, none⟩), .nilIface]) ∧ Wtr [] w w' B bs := by
  have hl := hx.1
  rw [pk_len] at hl
  have k1 := iValidBits (pk bs) ao len cap (bs.length : Int) true (w.alloc (.cells #[.slice ao len cap, .int .i64 (bs.length : Int)] 25)) (hx.grown (grown_alloc _ _ _)) (by omega) (pk_VB hb)
  have HX := Lib.hid hx
  have HN := Lib.hid hn
  obtain ⟨m, hm⟩ : ∃ m, bs.length = m := ⟨_, rfl⟩
  rw [hm] at k1 hl hb ⊢
  have HM := Lib.hid hm
  have HL := Lib.hid hl
  have hlb : len ≤ 2048 := by omega
  clear hx hn hm hl
  go_enter Tryd.func62, Tryd.ntmps62
  go_wp2_with fail
  refine k1.mono ?_
  rintro e w1 ⟨rfl, hg⟩
  have hA := grown_heap hg (heap_alloc_new w (.cells #[.slice ao len cap, .int .i64 (m : Int)] 25)) (by simp)
  have q0 : w1.cell? ⟨w.heap.size, 0, none⟩ = some (.slice ao len cap) := by rw [cell_of_row w1 _ 0 _ _ _ hA]; rfl
  have q1 : w1.cell? ⟨w.heap.size, 1, none⟩ = some (.int .i64 (m : Int)) := by rw [cell_of_row w1 _ 1 _ _ _ hA]; rfl
  have HG := Lib.hid (grown_trans (grown_alloc w (.cells #[.slice ao len cap, .int .i64 (m : Int)] 25) none) hg)
  clear k1 hg hA
  go_wp2_with fail
  go_region_held3 (fun w' => w'.cell? ⟨w.heap.size, 0, none⟩ = some (.slice ao len cap) ∧ w'.cell? ⟨w.heap.size, 1, none⟩ = some (.int .i64 (m : Int))) (first | go_keep | exact ⟨by assumption, by assumption⟩) ((go_at_call 53; refine (copyOf_any (pk bs) ao len cap _ ((HX.out.grown HG.out).grown (grown_drew _ _)) HN.out (by omega)).mono ?_; rintro e w2 ⟨v2, rfl, ho2, hg2⟩; obtain ⟨a2, c2, rfl, _⟩ := ho2.reads; have HO2 := Lib.hid ho2; have HG2 := Lib.hid (grown_trans (grown_trans HG.out (grown_drew _ _)) hg2); have hS0 := hg2.cell q0 (by simp); have hS1 := hg2.cell q1 (by simp); clear ho2 hg2))
  have HW : Hid (Wtr [] w (w2.alloc (.cells #[.slice a2 len c2, .int .i64 (m : Int)] 81)) w2.heap.size bs) := by
    have hm := HM.out
    have hl := HL.out
    have hsz := HG.out.size
    refine ⟨⟨.slice a2 len c2, by rw [hm]; exact heap_alloc_new w2 _, ?_, ?_, by simp⟩, grown_trans HG2.out (grown_alloc _ _ _), HG2.out.size⟩
    · rw [hm, hl]
      exact (HO2.out.grown (grown_alloc _ _ _)).base_le (by simpa using hsz)
    · intro e
      obtain ⟨ao', cap', hv, _, _, _, hb'⟩ := HO2.out.reads
      injection hv with h1 _ _
      subst h1
      cases a2 with
      | none => simp [Value.ownBlock] at e
      | some ad =>
        have := (hb' ad rfl).2
        have h2 : ad.block = w2.heap.size := by
          have := HO2.out.2
          rcases this with ⟨hv, _⟩ | ⟨g, cap', cur, hv, _⟩
          · cases hv
          · injection hv with h1 _ _
            injection h1 with h1
            subst h1
            simpa [Value.ownBlock] using e
        omega
  clear q0 q1 hS0 hS1
  go_wp2
  go_ret2
  exact ⟨_, rfl, HW.out⟩

theorem newWriter_at (bs : List Bool) (m : Nat) (hm : bs.length = m) (ao : Option Addr) (len cap : Nat) (w : World) (hx : Ints w ao len (pk bs)) (hn : ao = none → cap = 0) (hb : bs.length ≤ 16384) :
    Calls Tryd.prog 62 #[.agg #[.slice ao len cap, .int .i64 (m : Int)]] w fun e w' => ∃ B, e = .returned (.tuple #[.pointer (some ⟨B, 0, none⟩), .nilIface]) ∧ Wtr [] w w' B bs := by
  subst hm
  exact newWriter_good bs ao len cap w hx hn hb

set_option maxRecDepth 100000 in
set_option maxHeartbeats 2000000 in
theorem bits_any (w0 w : World) (B : Nat) (bs : List Bool) (hW : Wtr K w0 w B bs) :
    Calls Tryd.prog 63 #[.pointer (some ⟨B, 0, none⟩)] w fun e w' => ∃ v, e = .returned (.agg #[v, .int .i64 (bs.length : Int)]) ∧ Owns w' w0.heap.size v ((bs.length + 7) / 8) (pk bs) ∧ w.grownBy w' none := by
  obtain ⟨v, hh, ho, hne, _⟩ := hW.ex
  obtain ⟨a1, c1, rfl, _, _, _, _⟩ := ho.reads
  obtain ⟨m, hm⟩ : ∃ m, bs.length = m := ⟨_, rfl⟩
  rw [hm] at hh ho ⊢
  have q0 : w.cell? ⟨B, 0, none⟩ = some (.slice a1 ((m + 7) / 8) c1) := by rw [cell_of_row w _ 0 _ _ _ hh]; rfl
  have q1 : w.cell? ⟨B, 1, none⟩ = some (.int .i64 (m : Int)) := by rw [cell_of_row w _ 1 _ _ _ hh]; rfl
  have hlt := block_lt hh
  obtain ⟨n, hn⟩ : ∃ n, (m + 7) / 8 = n := ⟨_, rfl⟩
  rw [hn] at q0 ho ⊢
  have r0 := (World.cell?_of_block (a := ⟨B, 0, none⟩) (heap_alloc_old w (.cells #[.slice none 0 0, .int .i64 0] 25) hlt)).trans q0
  have r1 := (World.cell?_of_block (a := ⟨B, 1, none⟩) (heap_alloc_old w (.cells #[.slice none 0 0, .int .i64 0] 25) hlt)).trans q1
  have HR : Hid (Owns (w.alloc (.cells #[.slice a1 n c1, .int .i64 (m : Int)] 25)) w0.heap.size (.slice a1 n c1) n (pk bs) ∧ w.grownBy (w.alloc (.cells #[.slice a1 n c1, .int .i64 (m : Int)] 25)) none) := ⟨ho.grown (grown_alloc _ _ _), grown_alloc _ _ _⟩
  clear hh ho hne hW
  go_enter Tryd.func63, Tryd.ntmps63
  go_wp2
  go_region
  go_wp2
  exact bodyPost_ret (v := .agg #[.slice a1 n c1, .int .i64 (m : Int)]) (by simp [results, Tryd.results63, go_sem]) rfl ⟨_, rfl, HR.out.1.grown (grown_drew _ _), grown_trans HR.out.2 (grown_drew _ _)⟩

end Go.Proofs.YtcgcippniicaaaaDoor
