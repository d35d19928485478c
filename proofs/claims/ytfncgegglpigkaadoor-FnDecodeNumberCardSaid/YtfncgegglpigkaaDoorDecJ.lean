/-
  DecodeNumber of the program, for each form of the first byte.
-/
import Derived.Test.YtfncgegglpigkaaDoorDecI
import Derived.Test.YtfncgegglpigkaaDoorDecM
namespace Go.Proofs.YtfncgegglpigkaaDoor
open Go.RowKit

set_option maxRecDepth 100000 in
set_option maxHeartbeats 2000000 in
theorem iDec0 (xs : List Int) (b off len cap a x : Nat) (w : World) (hf : HasForms w) (hi : Ints w (some ⟨b, off, none⟩) len xs) (hlc : len ≤ cap) (hv : valB xs = true) (ha : a < len) (hx : xs[a]? = some (x : Int)) (h0 : 0 ≤ x) (h1 : x < 128) (o : Option (Int × Nat)) (ho : decR xs a (x : Int) 0 0 0 = o) :
    Calls Tryd.prog 9 #[.slice (some ⟨b, off, none⟩) len cap, .int .i64 (a : Int)] w (Got o w) := by
  have hl := hi.1
  have hll : len ≤ 2048 := by have := val_len hv; omega
  have kv := iValidBytes xs (some ⟨b, off, none⟩) len cap true w hi (by omega) hv
  have kb := behind0 (x : Int) w hf (by omega) (by omega)
  have hcx := hi.cell hx
  have da : decide ((len : Int) ≤ (a : Int)) = false := by simp; omega
  have da0 : decide ((a : Int) < 0) = false := by simp
  have HI := Lib.hid hi
  have HF := Lib.hid hf
  have HX := Lib.hid hx
  have HO := Lib.hid ho
  have HL := Lib.hid hl
  clear hf hi hx ho hl hv
  go_enter Tryd.func9, Tryd.ntmps9
  go_wp2_with fail
  refine kv.mono ?_
  rintro e w1 ⟨rfl, rfl⟩
  go_wp2_with fail
  refine kb.mono ?_
  rintro e w2 ⟨rfl, hg⟩
  have HG := Lib.hid hg
  have hcx := HG.out.cell hcx (by simp)
  clear kv kb
  have ds : decide ((len : Int) - (a : Int) ≤ 0) = false := by simp; omega
  have ef : w2.cell? ⟨0, 1, none⟩ = some (.int .i64 0) := ((HF.out.grown HG.out) 0 (128, 0) rfl).2
  go_wp2
  go_quiet (fail)
  go_wp2

  all_goals
    refine wp_loop_rounds 1 ?_
    rw [rounds_succ]
    obtain rfl : o = some ((x : Int) - 0, a + 1 + 0) := by
      rw [← HO.out]; unfold decR; simp only [tailR]
      rw [if_neg (fun h => absurd h.1 (by omega))]
    go_wp2
    go_ret3
    exact ⟨by simp, grown_trans HG.out (grown_drewN _ _ _)⟩

set_option maxRecDepth 100000 in
set_option maxHeartbeats 2000000 in
theorem iDec1 (xs : List Int) (b off len cap a x : Nat) (w : World) (hf : HasForms w) (hi : Ints w (some ⟨b, off, none⟩) len xs) (hlc : len ≤ cap) (hv : valB xs = true) (ha : a < len) (hx : xs[a]? = some (x : Int)) (h0 : 192 ≤ x) (h1 : x < 224) (o : Option (Int × Nat)) (ho : decR xs a (x : Int) 192 128 1 = o) :
    Calls Tryd.prog 9 #[.slice (some ⟨b, off, none⟩) len cap, .int .i64 (a : Int)] w (Got o w) := by
  have hl := hi.1
  have hll : len ≤ 2048 := by have := val_len hv; omega
  have kv := iValidBytes xs (some ⟨b, off, none⟩) len cap true w hi (by omega) hv
  have kb := behind1 (x : Int) w hf (by omega) (by omega)
  have hcx := hi.cell hx
  have da : decide ((len : Int) ≤ (a : Int)) = false := by simp; omega
  have da0 : decide ((a : Int) < 0) = false := by simp
  have HI := Lib.hid hi
  have HF := Lib.hid hf
  have HX := Lib.hid hx
  have HO := Lib.hid ho
  have HL := Lib.hid hl
  clear hf hi hx ho hl hv
  go_enter Tryd.func9, Tryd.ntmps9
  go_wp2_with fail
  refine kv.mono ?_
  rintro e w1 ⟨rfl, rfl⟩
  go_wp2_with fail
  refine kb.mono ?_
  rintro e w2 ⟨rfl, hg⟩
  have HG := Lib.hid hg
  have hcx := HG.out.cell hcx (by simp)
  clear kv kb
  by_cases hs : len - a ≤ 1
  · have ds : decide ((len : Int) - (a : Int) ≤ 1) = true := by simp; omega
    obtain rfl : o = none := by rw [← HO.out]; exact decR_short (by have := HL.out; omega) (by have := HL.out; omega)
    go_wp2
    go_ret3
    exact ⟨rfl, HG.out⟩
  have ds : decide ((len : Int) - (a : Int) ≤ 1) = false := by simp; omega
  have ef : w2.cell? ⟨0, 3, none⟩ = some (.int .i64 192) := ((HF.out.grown HG.out) 1 (2048, 192) rfl).2
  have cl : w2.cell? ⟨0, 0, none⟩ = some (.int .i64 128) := ((HF.out.grown HG.out) 0 (128, 0) rfl).1
  go_wp2
  go_quiet (fail)
  go_wp2

  refine wp_loop_rounds 2 ?_
  rw [rounds_succ]
  obtain ⟨c1, hc1⟩ : ∃ c, xs[a + 1]? = some c := ⟨_, List.getElem?_eq_getElem (by have := HL.out; omega)⟩
  have q1 := (HI.out.grown HG.out).cell hc1
  have p1 : w2.cell? ⟨b, off + (a + 1) + 0, none⟩ = some (.int .i64 c1) := by rw [show off + (a + 1) + 0 = off + (a + 1) by omega]; exact q1
  have u1 : w2.cell? ⟨b, off + (a + 1 + 0), none⟩ = some (.int .i64 c1) := by rw [show off + (a + 1 + 0) = off + (a + 1) by omega]; exact q1
  have HC1 := Lib.hid hc1
  clear hc1
  by_cases hb1 : c1 < 128
  · have dl : decide (c1 < 128) = true := by simpa using hb1
    obtain rfl : o = none := by rw [← HO.out]; exact decR_none (by exact tailR_bad HC1.out (Or.inl hb1))
    go_wp2
    go_ret3
    exact ⟨rfl, grown_trans HG.out (grown_drewN _ _ _)⟩
  have dl1 : decide (c1 < 128) = false := by simpa using hb1
  by_cases hg1 : 191 < c1
  · have dg : decide (191 < c1) = true := by simpa using hg1
    obtain rfl : o = none := by rw [← HO.out]; exact decR_none (by exact tailR_bad HC1.out (Or.inr hg1))
    go_wp2
    go_ret3
    exact ⟨rfl, grown_trans HG.out (grown_drewN _ _ _)⟩
  have dg1 : decide (191 < c1) = false := by simpa using hg1
  have HT1 : Hid (tailR xs 1 (a + 1) ((x : Int) - 192) = tailR xs 0 (a + 2) (((x : Int) - 192) * 64 + c1 - 128)) := by
    show _ = _
    rw [tailR_good HC1.out (by omega) (by omega)]
  go_wp2
  rw [rounds_succ]
  by_cases hn : (((x : Int) - 192) * 64 + c1 - 128) < 128
  · have dn : decide ((((x : Int) - 192) * 64 + c1 - 128) < 128) = true := by simpa using hn
    obtain rfl : o = none := by
      rw [← HO.out]; unfold decR; rw [HT1.out]; simp only [tailR]
      rw [if_pos ⟨by omega, hn⟩]
    go_wp2
    go_ret3
    exact ⟨rfl, grown_trans HG.out (grown_drewN _ _ _)⟩
  have dn : decide ((((x : Int) - 192) * 64 + c1 - 128) < 128) = false := by simpa using hn
  obtain rfl : o = some ((((x : Int) - 192) * 64 + c1 - 128), a + 1 + 1) := by
    rw [← HO.out]; unfold decR; rw [HT1.out]; simp only [tailR]
    rw [if_neg (fun h => hn h.2)]
  go_wp2
  go_ret3
  exact ⟨rfl, grown_trans HG.out (grown_drewN _ _ _)⟩

set_option maxRecDepth 100000 in
set_option maxHeartbeats 2000000 in
theorem iDec2 (xs : List Int) (b off len cap a x : Nat) (w : World) (hf : HasForms w) (hi : Ints w (some ⟨b, off, none⟩) len xs) (hlc : len ≤ cap) (hv : valB xs = true) (ha : a < len) (hx : xs[a]? = some (x : Int)) (h0 : 224 ≤ x) (h1 : x < 240) (o : Option (Int × Nat)) (ho : decR xs a (x : Int) 224 2048 2 = o) :
    Calls Tryd.prog 9 #[.slice (some ⟨b, off, none⟩) len cap, .int .i64 (a : Int)] w (Got o w) := by
  have hl := hi.1
  have hll : len ≤ 2048 := by have := val_len hv; omega
  have kv := iValidBytes xs (some ⟨b, off, none⟩) len cap true w hi (by omega) hv
  have kb := behind2 (x : Int) w hf (by omega) (by omega)
  have hcx := hi.cell hx
  have da : decide ((len : Int) ≤ (a : Int)) = false := by simp; omega
  have da0 : decide ((a : Int) < 0) = false := by simp
  have HI := Lib.hid hi
  have HF := Lib.hid hf
  have HX := Lib.hid hx
  have HO := Lib.hid ho
  have HL := Lib.hid hl
  clear hf hi hx ho hl hv
  go_enter Tryd.func9, Tryd.ntmps9
  go_wp2_with fail
  refine kv.mono ?_
  rintro e w1 ⟨rfl, rfl⟩
  go_wp2_with fail
  refine kb.mono ?_
  rintro e w2 ⟨rfl, hg⟩
  have HG := Lib.hid hg
  have hcx := HG.out.cell hcx (by simp)
  clear kv kb
  by_cases hs : len - a ≤ 2
  · have ds : decide ((len : Int) - (a : Int) ≤ 2) = true := by simp; omega
    obtain rfl : o = none := by rw [← HO.out]; exact decR_short (by have := HL.out; omega) (by have := HL.out; omega)
    go_wp2
    go_ret3
    exact ⟨rfl, HG.out⟩
  have ds : decide ((len : Int) - (a : Int) ≤ 2) = false := by simp; omega
  have ef : w2.cell? ⟨0, 5, none⟩ = some (.int .i64 224) := ((HF.out.grown HG.out) 2 (65536, 224) rfl).2
  have cl : w2.cell? ⟨0, 2, none⟩ = some (.int .i64 2048) := ((HF.out.grown HG.out) 1 (2048, 192) rfl).1
  go_wp2
  go_quiet (fail)
  go_wp2

  refine wp_loop_rounds 3 ?_
  rw [rounds_succ]
  obtain ⟨c1, hc1⟩ : ∃ c, xs[a + 1]? = some c := ⟨_, List.getElem?_eq_getElem (by have := HL.out; omega)⟩
  have q1 := (HI.out.grown HG.out).cell hc1
  have p1 : w2.cell? ⟨b, off + (a + 1) + 0, none⟩ = some (.int .i64 c1) := by rw [show off + (a + 1) + 0 = off + (a + 1) by omega]; exact q1
  have u1 : w2.cell? ⟨b, off + (a + 1 + 0), none⟩ = some (.int .i64 c1) := by rw [show off + (a + 1 + 0) = off + (a + 1) by omega]; exact q1
  have HC1 := Lib.hid hc1
  clear hc1
  by_cases hb1 : c1 < 128
  · have dl : decide (c1 < 128) = true := by simpa using hb1
    obtain rfl : o = none := by rw [← HO.out]; exact decR_none (by exact tailR_bad HC1.out (Or.inl hb1))
    go_wp2
    go_ret3
    exact ⟨rfl, grown_trans HG.out (grown_drewN _ _ _)⟩
  have dl1 : decide (c1 < 128) = false := by simpa using hb1
  by_cases hg1 : 191 < c1
  · have dg : decide (191 < c1) = true := by simpa using hg1
    obtain rfl : o = none := by rw [← HO.out]; exact decR_none (by exact tailR_bad HC1.out (Or.inr hg1))
    go_wp2
    go_ret3
    exact ⟨rfl, grown_trans HG.out (grown_drewN _ _ _)⟩
  have dg1 : decide (191 < c1) = false := by simpa using hg1
  have HT1 : Hid (tailR xs 2 (a + 1) ((x : Int) - 224) = tailR xs 1 (a + 2) (((x : Int) - 224) * 64 + c1 - 128)) := by
    show _ = _
    rw [tailR_good HC1.out (by omega) (by omega)]
  go_wp2
  rw [rounds_succ]
  obtain ⟨c2, hc2⟩ : ∃ c, xs[a + 2]? = some c := ⟨_, List.getElem?_eq_getElem (by have := HL.out; omega)⟩
  have q2 := (HI.out.grown HG.out).cell hc2
  have p2 : w2.cell? ⟨b, off + (a + 1) + 1, none⟩ = some (.int .i64 c2) := by rw [show off + (a + 1) + 1 = off + (a + 2) by omega]; exact q2
  have u2 : w2.cell? ⟨b, off + (a + 1 + 1), none⟩ = some (.int .i64 c2) := by rw [show off + (a + 1 + 1) = off + (a + 2) by omega]; exact q2
  have HC2 := Lib.hid hc2
  clear hc2
  by_cases hb2 : c2 < 128
  · have dl : decide (c2 < 128) = true := by simpa using hb2
    obtain rfl : o = none := by rw [← HO.out]; exact decR_none (by rw [HT1.out]; exact tailR_bad HC2.out (Or.inl hb2))
    go_wp2
    go_ret3
    exact ⟨rfl, grown_trans HG.out (grown_drewN _ _ _)⟩
  have dl2 : decide (c2 < 128) = false := by simpa using hb2
  by_cases hg2 : 191 < c2
  · have dg : decide (191 < c2) = true := by simpa using hg2
    obtain rfl : o = none := by rw [← HO.out]; exact decR_none (by rw [HT1.out]; exact tailR_bad HC2.out (Or.inr hg2))
    go_wp2
    go_ret3
    exact ⟨rfl, grown_trans HG.out (grown_drewN _ _ _)⟩
  have dg2 : decide (191 < c2) = false := by simpa using hg2
  have HT2 : Hid (tailR xs 2 (a + 1) ((x : Int) - 224) = tailR xs 0 (a + 3) ((((x : Int) - 224) * 64 + c1 - 128) * 64 + c2 - 128)) := by
    show _ = _
    rw [HT1.out]; rw [tailR_good HC2.out (by omega) (by omega)]
  go_wp2
  rw [rounds_succ]
  by_cases hn : ((((x : Int) - 224) * 64 + c1 - 128) * 64 + c2 - 128) < 2048
  · have dn : decide (((((x : Int) - 224) * 64 + c1 - 128) * 64 + c2 - 128) < 2048) = true := by simpa using hn
    obtain rfl : o = none := by
      rw [← HO.out]; unfold decR; rw [HT2.out]; simp only [tailR]
      rw [if_pos ⟨by omega, hn⟩]
    go_wp2
    go_ret3
    exact ⟨rfl, grown_trans HG.out (grown_drewN _ _ _)⟩
  have dn : decide (((((x : Int) - 224) * 64 + c1 - 128) * 64 + c2 - 128) < 2048) = false := by simpa using hn
  obtain rfl : o = some (((((x : Int) - 224) * 64 + c1 - 128) * 64 + c2 - 128), a + 1 + 2) := by
    rw [← HO.out]; unfold decR; rw [HT2.out]; simp only [tailR]
    rw [if_neg (fun h => hn h.2)]
  go_wp2
  go_ret3
  exact ⟨rfl, grown_trans HG.out (grown_drewN _ _ _)⟩

set_option maxRecDepth 100000 in
set_option maxHeartbeats 2000000 in
theorem iDec3 (xs : List Int) (b off len cap a x : Nat) (w : World) (hf : HasForms w) (hi : Ints w (some ⟨b, off, none⟩) len xs) (hlc : len ≤ cap) (hv : valB xs = true) (ha : a < len) (hx : xs[a]? = some (x : Int)) (h0 : 240 ≤ x) (h1 : x < 248) (o : Option (Int × Nat)) (ho : decR xs a (x : Int) 240 65536 3 = o) :
    Calls Tryd.prog 9 #[.slice (some ⟨b, off, none⟩) len cap, .int .i64 (a : Int)] w (Got o w) := by
  have hl := hi.1
  have hll : len ≤ 2048 := by have := val_len hv; omega
  have kv := iValidBytes xs (some ⟨b, off, none⟩) len cap true w hi (by omega) hv
  have kb := behind3 (x : Int) w hf (by omega) (by omega)
  have hcx := hi.cell hx
  have da : decide ((len : Int) ≤ (a : Int)) = false := by simp; omega
  have da0 : decide ((a : Int) < 0) = false := by simp
  have HI := Lib.hid hi
  have HF := Lib.hid hf
  have HX := Lib.hid hx
  have HO := Lib.hid ho
  have HL := Lib.hid hl
  clear hf hi hx ho hl hv
  go_enter Tryd.func9, Tryd.ntmps9
  go_wp2_with fail
  refine kv.mono ?_
  rintro e w1 ⟨rfl, rfl⟩
  go_wp2_with fail
  refine kb.mono ?_
  rintro e w2 ⟨rfl, hg⟩
  have HG := Lib.hid hg
  have hcx := HG.out.cell hcx (by simp)
  clear kv kb
  by_cases hs : len - a ≤ 3
  · have ds : decide ((len : Int) - (a : Int) ≤ 3) = true := by simp; omega
    obtain rfl : o = none := by rw [← HO.out]; exact decR_short (by have := HL.out; omega) (by have := HL.out; omega)
    go_wp2
    go_ret3
    exact ⟨rfl, HG.out⟩
  have ds : decide ((len : Int) - (a : Int) ≤ 3) = false := by simp; omega
  have ef : w2.cell? ⟨0, 7, none⟩ = some (.int .i64 240) := ((HF.out.grown HG.out) 3 (2097152, 240) rfl).2
  have cl : w2.cell? ⟨0, 4, none⟩ = some (.int .i64 65536) := ((HF.out.grown HG.out) 2 (65536, 224) rfl).1
  go_wp2
  go_quiet (fail)
  go_wp2

  refine wp_loop_rounds 4 ?_
  rw [rounds_succ]
  obtain ⟨c1, hc1⟩ : ∃ c, xs[a + 1]? = some c := ⟨_, List.getElem?_eq_getElem (by have := HL.out; omega)⟩
  have q1 := (HI.out.grown HG.out).cell hc1
  have p1 : w2.cell? ⟨b, off + (a + 1) + 0, none⟩ = some (.int .i64 c1) := by rw [show off + (a + 1) + 0 = off + (a + 1) by omega]; exact q1
  have u1 : w2.cell? ⟨b, off + (a + 1 + 0), none⟩ = some (.int .i64 c1) := by rw [show off + (a + 1 + 0) = off + (a + 1) by omega]; exact q1
  have HC1 := Lib.hid hc1
  clear hc1
  by_cases hb1 : c1 < 128
  · have dl : decide (c1 < 128) = true := by simpa using hb1
    obtain rfl : o = none := by rw [← HO.out]; exact decR_none (by exact tailR_bad HC1.out (Or.inl hb1))
    go_wp2
    go_ret3
    exact ⟨rfl, grown_trans HG.out (grown_drewN _ _ _)⟩
  have dl1 : decide (c1 < 128) = false := by simpa using hb1
  by_cases hg1 : 191 < c1
  · have dg : decide (191 < c1) = true := by simpa using hg1
    obtain rfl : o = none := by rw [← HO.out]; exact decR_none (by exact tailR_bad HC1.out (Or.inr hg1))
    go_wp2
    go_ret3
    exact ⟨rfl, grown_trans HG.out (grown_drewN _ _ _)⟩
  have dg1 : decide (191 < c1) = false := by simpa using hg1
  have HT1 : Hid (tailR xs 3 (a + 1) ((x : Int) - 240) = tailR xs 2 (a + 2) (((x : Int) - 240) * 64 + c1 - 128)) := by
    show _ = _
    rw [tailR_good HC1.out (by omega) (by omega)]
  go_wp2
  rw [rounds_succ]
  obtain ⟨c2, hc2⟩ : ∃ c, xs[a + 2]? = some c := ⟨_, List.getElem?_eq_getElem (by have := HL.out; omega)⟩
  have q2 := (HI.out.grown HG.out).cell hc2
  have p2 : w2.cell? ⟨b, off + (a + 1) + 1, none⟩ = some (.int .i64 c2) := by rw [show off + (a + 1) + 1 = off + (a + 2) by omega]; exact q2
  have u2 : w2.cell? ⟨b, off + (a + 1 + 1), none⟩ = some (.int .i64 c2) := by rw [show off + (a + 1 + 1) = off + (a + 2) by omega]; exact q2
  have HC2 := Lib.hid hc2
  clear hc2
  by_cases hb2 : c2 < 128
  · have dl : decide (c2 < 128) = true := by simpa using hb2
    obtain rfl : o = none := by rw [← HO.out]; exact decR_none (by rw [HT1.out]; exact tailR_bad HC2.out (Or.inl hb2))
    go_wp2
    go_ret3
    exact ⟨rfl, grown_trans HG.out (grown_drewN _ _ _)⟩
  have dl2 : decide (c2 < 128) = false := by simpa using hb2
  by_cases hg2 : 191 < c2
  · have dg : decide (191 < c2) = true := by simpa using hg2
    obtain rfl : o = none := by rw [← HO.out]; exact decR_none (by rw [HT1.out]; exact tailR_bad HC2.out (Or.inr hg2))
    go_wp2
    go_ret3
    exact ⟨rfl, grown_trans HG.out (grown_drewN _ _ _)⟩
  have dg2 : decide (191 < c2) = false := by simpa using hg2
  have HT2 : Hid (tailR xs 3 (a + 1) ((x : Int) - 240) = tailR xs 1 (a + 3) ((((x : Int) - 240) * 64 + c1 - 128) * 64 + c2 - 128)) := by
    show _ = _
    rw [HT1.out]; rw [tailR_good HC2.out (by omega) (by omega)]
  go_wp2
  rw [rounds_succ]
  obtain ⟨c3, hc3⟩ : ∃ c, xs[a + 3]? = some c := ⟨_, List.getElem?_eq_getElem (by have := HL.out; omega)⟩
  have q3 := (HI.out.grown HG.out).cell hc3
  have p3 : w2.cell? ⟨b, off + (a + 1) + 2, none⟩ = some (.int .i64 c3) := by rw [show off + (a + 1) + 2 = off + (a + 3) by omega]; exact q3
  have u3 : w2.cell? ⟨b, off + (a + 1 + 2), none⟩ = some (.int .i64 c3) := by rw [show off + (a + 1 + 2) = off + (a + 3) by omega]; exact q3
  have HC3 := Lib.hid hc3
  clear hc3
  by_cases hb3 : c3 < 128
  · have dl : decide (c3 < 128) = true := by simpa using hb3
    obtain rfl : o = none := by rw [← HO.out]; exact decR_none (by rw [HT2.out]; exact tailR_bad HC3.out (Or.inl hb3))
    go_wp2
    go_ret3
    exact ⟨rfl, grown_trans HG.out (grown_drewN _ _ _)⟩
  have dl3 : decide (c3 < 128) = false := by simpa using hb3
  by_cases hg3 : 191 < c3
  · have dg : decide (191 < c3) = true := by simpa using hg3
    obtain rfl : o = none := by rw [← HO.out]; exact decR_none (by rw [HT2.out]; exact tailR_bad HC3.out (Or.inr hg3))
    go_wp2
    go_ret3
    exact ⟨rfl, grown_trans HG.out (grown_drewN _ _ _)⟩
  have dg3 : decide (191 < c3) = false := by simpa using hg3
  have HT3 : Hid (tailR xs 3 (a + 1) ((x : Int) - 240) = tailR xs 0 (a + 4) (((((x : Int) - 240) * 64 + c1 - 128) * 64 + c2 - 128) * 64 + c3 - 128)) := by
    show _ = _
    rw [HT2.out]; rw [tailR_good HC3.out (by omega) (by omega)]
  go_wp2
  rw [rounds_succ]
  by_cases hn : (((((x : Int) - 240) * 64 + c1 - 128) * 64 + c2 - 128) * 64 + c3 - 128) < 65536
  · have dn : decide ((((((x : Int) - 240) * 64 + c1 - 128) * 64 + c2 - 128) * 64 + c3 - 128) < 65536) = true := by simpa using hn
    obtain rfl : o = none := by
      rw [← HO.out]; unfold decR; rw [HT3.out]; simp only [tailR]
      rw [if_pos ⟨by omega, hn⟩]
    go_wp2
    go_ret3
    exact ⟨rfl, grown_trans HG.out (grown_drewN _ _ _)⟩
  have dn : decide ((((((x : Int) - 240) * 64 + c1 - 128) * 64 + c2 - 128) * 64 + c3 - 128) < 65536) = false := by simpa using hn
  obtain rfl : o = some ((((((x : Int) - 240) * 64 + c1 - 128) * 64 + c2 - 128) * 64 + c3 - 128), a + 1 + 3) := by
    rw [← HO.out]; unfold decR; rw [HT3.out]; simp only [tailR]
    rw [if_neg (fun h => hn h.2)]
  go_wp2
  go_ret3
  exact ⟨rfl, grown_trans HG.out (grown_drewN _ _ _)⟩

set_option maxRecDepth 100000 in
set_option maxHeartbeats 2000000 in
theorem iDec4 (xs : List Int) (b off len cap a x : Nat) (w : World) (hf : HasForms w) (hi : Ints w (some ⟨b, off, none⟩) len xs) (hlc : len ≤ cap) (hv : valB xs = true) (ha : a < len) (hx : xs[a]? = some (x : Int)) (h0 : 248 ≤ x) (h1 : x < 252) (o : Option (Int × Nat)) (ho : decR xs a (x : Int) 248 2097152 4 = o) :
    Calls Tryd.prog 9 #[.slice (some ⟨b, off, none⟩) len cap, .int .i64 (a : Int)] w (Got o w) := by
  have hl := hi.1
  have hll : len ≤ 2048 := by have := val_len hv; omega
  have kv := iValidBytes xs (some ⟨b, off, none⟩) len cap true w hi (by omega) hv
  have kb := behind4 (x : Int) w hf (by omega) (by omega)
  have hcx := hi.cell hx
  have da : decide ((len : Int) ≤ (a : Int)) = false := by simp; omega
  have da0 : decide ((a : Int) < 0) = false := by simp
  have HI := Lib.hid hi
  have HF := Lib.hid hf
  have HX := Lib.hid hx
  have HO := Lib.hid ho
  have HL := Lib.hid hl
  clear hf hi hx ho hl hv
  go_enter Tryd.func9, Tryd.ntmps9
  go_wp2_with fail
  refine kv.mono ?_
  rintro e w1 ⟨rfl, rfl⟩
  go_wp2_with fail
  refine kb.mono ?_
  rintro e w2 ⟨rfl, hg⟩
  have HG := Lib.hid hg
  have hcx := HG.out.cell hcx (by simp)
  clear kv kb
  by_cases hs : len - a ≤ 4
  · have ds : decide ((len : Int) - (a : Int) ≤ 4) = true := by simp; omega
    obtain rfl : o = none := by rw [← HO.out]; exact decR_short (by have := HL.out; omega) (by have := HL.out; omega)
    go_wp2
    go_ret3
    exact ⟨rfl, HG.out⟩
  have ds : decide ((len : Int) - (a : Int) ≤ 4) = false := by simp; omega
  have ef : w2.cell? ⟨0, 9, none⟩ = some (.int .i64 248) := ((HF.out.grown HG.out) 4 (67108864, 248) rfl).2
  have cl : w2.cell? ⟨0, 6, none⟩ = some (.int .i64 2097152) := ((HF.out.grown HG.out) 3 (2097152, 240) rfl).1
  go_wp2
  go_quiet (fail)
  go_wp2

  refine wp_loop_rounds 5 ?_
  rw [rounds_succ]
  obtain ⟨c1, hc1⟩ : ∃ c, xs[a + 1]? = some c := ⟨_, List.getElem?_eq_getElem (by have := HL.out; omega)⟩
  have q1 := (HI.out.grown HG.out).cell hc1
  have p1 : w2.cell? ⟨b, off + (a + 1) + 0, none⟩ = some (.int .i64 c1) := by rw [show off + (a + 1) + 0 = off + (a + 1) by omega]; exact q1
  have u1 : w2.cell? ⟨b, off + (a + 1 + 0), none⟩ = some (.int .i64 c1) := by rw [show off + (a + 1 + 0) = off + (a + 1) by omega]; exact q1
  have HC1 := Lib.hid hc1
  clear hc1
  by_cases hb1 : c1 < 128
  · have dl : decide (c1 < 128) = true := by simpa using hb1
    obtain rfl : o = none := by rw [← HO.out]; exact decR_none (by exact tailR_bad HC1.out (Or.inl hb1))
    go_wp2
    go_ret3
    exact ⟨rfl, grown_trans HG.out (grown_drewN _ _ _)⟩
  have dl1 : decide (c1 < 128) = false := by simpa using hb1
  by_cases hg1 : 191 < c1
  · have dg : decide (191 < c1) = true := by simpa using hg1
    obtain rfl : o = none := by rw [← HO.out]; exact decR_none (by exact tailR_bad HC1.out (Or.inr hg1))
    go_wp2
    go_ret3
    exact ⟨rfl, grown_trans HG.out (grown_drewN _ _ _)⟩
  have dg1 : decide (191 < c1) = false := by simpa using hg1
  have HT1 : Hid (tailR xs 4 (a + 1) ((x : Int) - 248) = tailR xs 3 (a + 2) (((x : Int) - 248) * 64 + c1 - 128)) := by
    show _ = _
    rw [tailR_good HC1.out (by omega) (by omega)]
  go_wp2
  rw [rounds_succ]
  obtain ⟨c2, hc2⟩ : ∃ c, xs[a + 2]? = some c := ⟨_, List.getElem?_eq_getElem (by have := HL.out; omega)⟩
  have q2 := (HI.out.grown HG.out).cell hc2
  have p2 : w2.cell? ⟨b, off + (a + 1) + 1, none⟩ = some (.int .i64 c2) := by rw [show off + (a + 1) + 1 = off + (a + 2) by omega]; exact q2
  have u2 : w2.cell? ⟨b, off + (a + 1 + 1), none⟩ = some (.int .i64 c2) := by rw [show off + (a + 1 + 1) = off + (a + 2) by omega]; exact q2
  have HC2 := Lib.hid hc2
  clear hc2
  by_cases hb2 : c2 < 128
  · have dl : decide (c2 < 128) = true := by simpa using hb2
    obtain rfl : o = none := by rw [← HO.out]; exact decR_none (by rw [HT1.out]; exact tailR_bad HC2.out (Or.inl hb2))
    go_wp2
    go_ret3
    exact ⟨rfl, grown_trans HG.out (grown_drewN _ _ _)⟩
  have dl2 : decide (c2 < 128) = false := by simpa using hb2
  by_cases hg2 : 191 < c2
  · have dg : decide (191 < c2) = true := by simpa using hg2
    obtain rfl : o = none := by rw [← HO.out]; exact decR_none (by rw [HT1.out]; exact tailR_bad HC2.out (Or.inr hg2))
    go_wp2
    go_ret3
    exact ⟨rfl, grown_trans HG.out (grown_drewN _ _ _)⟩
  have dg2 : decide (191 < c2) = false := by simpa using hg2
  have HT2 : Hid (tailR xs 4 (a + 1) ((x : Int) - 248) = tailR xs 2 (a + 3) ((((x : Int) - 248) * 64 + c1 - 128) * 64 + c2 - 128)) := by
    show _ = _
    rw [HT1.out]; rw [tailR_good HC2.out (by omega) (by omega)]
  go_wp2
  rw [rounds_succ]
  obtain ⟨c3, hc3⟩ : ∃ c, xs[a + 3]? = some c := ⟨_, List.getElem?_eq_getElem (by have := HL.out; omega)⟩
  have q3 := (HI.out.grown HG.out).cell hc3
  have p3 : w2.cell? ⟨b, off + (a + 1) + 2, none⟩ = some (.int .i64 c3) := by rw [show off + (a + 1) + 2 = off + (a + 3) by omega]; exact q3
  have u3 : w2.cell? ⟨b, off + (a + 1 + 2), none⟩ = some (.int .i64 c3) := by rw [show off + (a + 1 + 2) = off + (a + 3) by omega]; exact q3
  have HC3 := Lib.hid hc3
  clear hc3
  by_cases hb3 : c3 < 128
  · have dl : decide (c3 < 128) = true := by simpa using hb3
    obtain rfl : o = none := by rw [← HO.out]; exact decR_none (by rw [HT2.out]; exact tailR_bad HC3.out (Or.inl hb3))
    go_wp2
    go_ret3
    exact ⟨rfl, grown_trans HG.out (grown_drewN _ _ _)⟩
  have dl3 : decide (c3 < 128) = false := by simpa using hb3
  by_cases hg3 : 191 < c3
  · have dg : decide (191 < c3) = true := by simpa using hg3
    obtain rfl : o = none := by rw [← HO.out]; exact decR_none (by rw [HT2.out]; exact tailR_bad HC3.out (Or.inr hg3))
    go_wp2
    go_ret3
    exact ⟨rfl, grown_trans HG.out (grown_drewN _ _ _)⟩
  have dg3 : decide (191 < c3) = false := by simpa using hg3
  have HT3 : Hid (tailR xs 4 (a + 1) ((x : Int) - 248) = tailR xs 1 (a + 4) (((((x : Int) - 248) * 64 + c1 - 128) * 64 + c2 - 128) * 64 + c3 - 128)) := by
    show _ = _
    rw [HT2.out]; rw [tailR_good HC3.out (by omega) (by omega)]
  go_wp2
  rw [rounds_succ]
  obtain ⟨c4, hc4⟩ : ∃ c, xs[a + 4]? = some c := ⟨_, List.getElem?_eq_getElem (by have := HL.out; omega)⟩
  have q4 := (HI.out.grown HG.out).cell hc4
  have p4 : w2.cell? ⟨b, off + (a + 1) + 3, none⟩ = some (.int .i64 c4) := by rw [show off + (a + 1) + 3 = off + (a + 4) by omega]; exact q4
  have u4 : w2.cell? ⟨b, off + (a + 1 + 3), none⟩ = some (.int .i64 c4) := by rw [show off + (a + 1 + 3) = off + (a + 4) by omega]; exact q4
  have HC4 := Lib.hid hc4
  clear hc4
  by_cases hb4 : c4 < 128
  · have dl : decide (c4 < 128) = true := by simpa using hb4
    obtain rfl : o = none := by rw [← HO.out]; exact decR_none (by rw [HT3.out]; exact tailR_bad HC4.out (Or.inl hb4))
    go_wp2
    go_ret3
    exact ⟨rfl, grown_trans HG.out (grown_drewN _ _ _)⟩
  have dl4 : decide (c4 < 128) = false := by simpa using hb4
  by_cases hg4 : 191 < c4
  · have dg : decide (191 < c4) = true := by simpa using hg4
    obtain rfl : o = none := by rw [← HO.out]; exact decR_none (by rw [HT3.out]; exact tailR_bad HC4.out (Or.inr hg4))
    go_wp2
    go_ret3
    exact ⟨rfl, grown_trans HG.out (grown_drewN _ _ _)⟩
  have dg4 : decide (191 < c4) = false := by simpa using hg4
  have HT4 : Hid (tailR xs 4 (a + 1) ((x : Int) - 248) = tailR xs 0 (a + 5) ((((((x : Int) - 248) * 64 + c1 - 128) * 64 + c2 - 128) * 64 + c3 - 128) * 64 + c4 - 128)) := by
    show _ = _
    rw [HT3.out]; rw [tailR_good HC4.out (by omega) (by omega)]
  go_wp2
  rw [rounds_succ]
  by_cases hn : ((((((x : Int) - 248) * 64 + c1 - 128) * 64 + c2 - 128) * 64 + c3 - 128) * 64 + c4 - 128) < 2097152
  · have dn : decide (((((((x : Int) - 248) * 64 + c1 - 128) * 64 + c2 - 128) * 64 + c3 - 128) * 64 + c4 - 128) < 2097152) = true := by simpa using hn
    obtain rfl : o = none := by
      rw [← HO.out]; unfold decR; rw [HT4.out]; simp only [tailR]
      rw [if_pos ⟨by omega, hn⟩]
    go_wp2
    go_ret3
    exact ⟨rfl, grown_trans HG.out (grown_drewN _ _ _)⟩
  have dn : decide (((((((x : Int) - 248) * 64 + c1 - 128) * 64 + c2 - 128) * 64 + c3 - 128) * 64 + c4 - 128) < 2097152) = false := by simpa using hn
  obtain rfl : o = some (((((((x : Int) - 248) * 64 + c1 - 128) * 64 + c2 - 128) * 64 + c3 - 128) * 64 + c4 - 128), a + 1 + 4) := by
    rw [← HO.out]; unfold decR; rw [HT4.out]; simp only [tailR]
    rw [if_neg (fun h => hn h.2)]
  go_wp2
  go_ret3
  exact ⟨rfl, grown_trans HG.out (grown_drewN _ _ _)⟩

set_option maxRecDepth 100000 in
set_option maxHeartbeats 2000000 in
theorem iDec5 (xs : List Int) (b off len cap a x : Nat) (w : World) (hf : HasForms w) (hi : Ints w (some ⟨b, off, none⟩) len xs) (hlc : len ≤ cap) (hv : valB xs = true) (ha : a < len) (hx : xs[a]? = some (x : Int)) (h0 : 252 ≤ x) (h1 : x < 254) (o : Option (Int × Nat)) (ho : decR xs a (x : Int) 252 67108864 5 = o) :
    Calls Tryd.prog 9 #[.slice (some ⟨b, off, none⟩) len cap, .int .i64 (a : Int)] w (Got o w) := by
  have hl := hi.1
  have hll : len ≤ 2048 := by have := val_len hv; omega
  have kv := iValidBytes xs (some ⟨b, off, none⟩) len cap true w hi (by omega) hv
  have kb := behind5 (x : Int) w hf (by omega) (by omega)
  have hcx := hi.cell hx
  have da : decide ((len : Int) ≤ (a : Int)) = false := by simp; omega
  have da0 : decide ((a : Int) < 0) = false := by simp
  have HI := Lib.hid hi
  have HF := Lib.hid hf
  have HX := Lib.hid hx
  have HO := Lib.hid ho
  have HL := Lib.hid hl
  clear hf hi hx ho hl hv
  go_enter Tryd.func9, Tryd.ntmps9
  go_wp2_with fail
  refine kv.mono ?_
  rintro e w1 ⟨rfl, rfl⟩
  go_wp2_with fail
  refine kb.mono ?_
  rintro e w2 ⟨rfl, hg⟩
  have HG := Lib.hid hg
  have hcx := HG.out.cell hcx (by simp)
  clear kv kb
  by_cases hs : len - a ≤ 5
  · have ds : decide ((len : Int) - (a : Int) ≤ 5) = true := by simp; omega
    obtain rfl : o = none := by rw [← HO.out]; exact decR_short (by have := HL.out; omega) (by have := HL.out; omega)
    go_wp2
    go_ret3
    exact ⟨rfl, HG.out⟩
  have ds : decide ((len : Int) - (a : Int) ≤ 5) = false := by simp; omega
  have ef : w2.cell? ⟨0, 11, none⟩ = some (.int .i64 252) := ((HF.out.grown HG.out) 5 (2147483648, 252) rfl).2
  have cl : w2.cell? ⟨0, 8, none⟩ = some (.int .i64 67108864) := ((HF.out.grown HG.out) 4 (67108864, 248) rfl).1
  go_wp2
  go_quiet (fail)
  go_wp2

  refine wp_loop_rounds 6 ?_
  rw [rounds_succ]
  obtain ⟨c1, hc1⟩ : ∃ c, xs[a + 1]? = some c := ⟨_, List.getElem?_eq_getElem (by have := HL.out; omega)⟩
  have q1 := (HI.out.grown HG.out).cell hc1
  have p1 : w2.cell? ⟨b, off + (a + 1) + 0, none⟩ = some (.int .i64 c1) := by rw [show off + (a + 1) + 0 = off + (a + 1) by omega]; exact q1
  have u1 : w2.cell? ⟨b, off + (a + 1 + 0), none⟩ = some (.int .i64 c1) := by rw [show off + (a + 1 + 0) = off + (a + 1) by omega]; exact q1
  have HC1 := Lib.hid hc1
  clear hc1
  by_cases hb1 : c1 < 128
  · have dl : decide (c1 < 128) = true := by simpa using hb1
    obtain rfl : o = none := by rw [← HO.out]; exact decR_none (by exact tailR_bad HC1.out (Or.inl hb1))
    go_wp2
    go_ret3
    exact ⟨rfl, grown_trans HG.out (grown_drewN _ _ _)⟩
  have dl1 : decide (c1 < 128) = false := by simpa using hb1
  by_cases hg1 : 191 < c1
  · have dg : decide (191 < c1) = true := by simpa using hg1
    obtain rfl : o = none := by rw [← HO.out]; exact decR_none (by exact tailR_bad HC1.out (Or.inr hg1))
    go_wp2
    go_ret3
    exact ⟨rfl, grown_trans HG.out (grown_drewN _ _ _)⟩
  have dg1 : decide (191 < c1) = false := by simpa using hg1
  have HT1 : Hid (tailR xs 5 (a + 1) ((x : Int) - 252) = tailR xs 4 (a + 2) (((x : Int) - 252) * 64 + c1 - 128)) := by
    show _ = _
    rw [tailR_good HC1.out (by omega) (by omega)]
  go_wp2
  rw [rounds_succ]
  obtain ⟨c2, hc2⟩ : ∃ c, xs[a + 2]? = some c := ⟨_, List.getElem?_eq_getElem (by have := HL.out; omega)⟩
  have q2 := (HI.out.grown HG.out).cell hc2
  have p2 : w2.cell? ⟨b, off + (a + 1) + 1, none⟩ = some (.int .i64 c2) := by rw [show off + (a + 1) + 1 = off + (a + 2) by omega]; exact q2
  have u2 : w2.cell? ⟨b, off + (a + 1 + 1), none⟩ = some (.int .i64 c2) := by rw [show off + (a + 1 + 1) = off + (a + 2) by omega]; exact q2
  have HC2 := Lib.hid hc2
  clear hc2
  by_cases hb2 : c2 < 128
  · have dl : decide (c2 < 128) = true := by simpa using hb2
    obtain rfl : o = none := by rw [← HO.out]; exact decR_none (by rw [HT1.out]; exact tailR_bad HC2.out (Or.inl hb2))
    go_wp2
    go_ret3
    exact ⟨rfl, grown_trans HG.out (grown_drewN _ _ _)⟩
  have dl2 : decide (c2 < 128) = false := by simpa using hb2
  by_cases hg2 : 191 < c2
  · have dg : decide (191 < c2) = true := by simpa using hg2
    obtain rfl : o = none := by rw [← HO.out]; exact decR_none (by rw [HT1.out]; exact tailR_bad HC2.out (Or.inr hg2))
    go_wp2
    go_ret3
    exact ⟨rfl, grown_trans HG.out (grown_drewN _ _ _)⟩
  have dg2 : decide (191 < c2) = false := by simpa using hg2
  have HT2 : Hid (tailR xs 5 (a + 1) ((x : Int) - 252) = tailR xs 3 (a + 3) ((((x : Int) - 252) * 64 + c1 - 128) * 64 + c2 - 128)) := by
    show _ = _
    rw [HT1.out]; rw [tailR_good HC2.out (by omega) (by omega)]
  go_wp2
  rw [rounds_succ]
  obtain ⟨c3, hc3⟩ : ∃ c, xs[a + 3]? = some c := ⟨_, List.getElem?_eq_getElem (by have := HL.out; omega)⟩
  have q3 := (HI.out.grown HG.out).cell hc3
  have p3 : w2.cell? ⟨b, off + (a + 1) + 2, none⟩ = some (.int .i64 c3) := by rw [show off + (a + 1) + 2 = off + (a + 3) by omega]; exact q3
  have u3 : w2.cell? ⟨b, off + (a + 1 + 2), none⟩ = some (.int .i64 c3) := by rw [show off + (a + 1 + 2) = off + (a + 3) by omega]; exact q3
  have HC3 := Lib.hid hc3
  clear hc3
  by_cases hb3 : c3 < 128
  · have dl : decide (c3 < 128) = true := by simpa using hb3
    obtain rfl : o = none := by rw [← HO.out]; exact decR_none (by rw [HT2.out]; exact tailR_bad HC3.out (Or.inl hb3))
    go_wp2
    go_ret3
    exact ⟨rfl, grown_trans HG.out (grown_drewN _ _ _)⟩
  have dl3 : decide (c3 < 128) = false := by simpa using hb3
  by_cases hg3 : 191 < c3
  · have dg : decide (191 < c3) = true := by simpa using hg3
    obtain rfl : o = none := by rw [← HO.out]; exact decR_none (by rw [HT2.out]; exact tailR_bad HC3.out (Or.inr hg3))
    go_wp2
    go_ret3
    exact ⟨rfl, grown_trans HG.out (grown_drewN _ _ _)⟩
  have dg3 : decide (191 < c3) = false := by simpa using hg3
  have HT3 : Hid (tailR xs 5 (a + 1) ((x : Int) - 252) = tailR xs 2 (a + 4) (((((x : Int) - 252) * 64 + c1 - 128) * 64 + c2 - 128) * 64 + c3 - 128)) := by
    show _ = _
    rw [HT2.out]; rw [tailR_good HC3.out (by omega) (by omega)]
  go_wp2
  rw [rounds_succ]
  obtain ⟨c4, hc4⟩ : ∃ c, xs[a + 4]? = some c := ⟨_, List.getElem?_eq_getElem (by have := HL.out; omega)⟩
  have q4 := (HI.out.grown HG.out).cell hc4
  have p4 : w2.cell? ⟨b, off + (a + 1) + 3, none⟩ = some (.int .i64 c4) := by rw [show off + (a + 1) + 3 = off + (a + 4) by omega]; exact q4
  have u4 : w2.cell? ⟨b, off + (a + 1 + 3), none⟩ = some (.int .i64 c4) := by rw [show off + (a + 1 + 3) = off + (a + 4) by omega]; exact q4
  have HC4 := Lib.hid hc4
  clear hc4
  by_cases hb4 : c4 < 128
  · have dl : decide (c4 < 128) = true := by simpa using hb4
    obtain rfl : o = none := by rw [← HO.out]; exact decR_none (by rw [HT3.out]; exact tailR_bad HC4.out (Or.inl hb4))
    go_wp2
    go_ret3
    exact ⟨rfl, grown_trans HG.out (grown_drewN _ _ _)⟩
  have dl4 : decide (c4 < 128) = false := by simpa using hb4
  by_cases hg4 : 191 < c4
  · have dg : decide (191 < c4) = true := by simpa using hg4
    obtain rfl : o = none := by rw [← HO.out]; exact decR_none (by rw [HT3.out]; exact tailR_bad HC4.out (Or.inr hg4))
    go_wp2
    go_ret3
    exact ⟨rfl, grown_trans HG.out (grown_drewN _ _ _)⟩
  have dg4 : decide (191 < c4) = false := by simpa using hg4
  have HT4 : Hid (tailR xs 5 (a + 1) ((x : Int) - 252) = tailR xs 1 (a + 5) ((((((x : Int) - 252) * 64 + c1 - 128) * 64 + c2 - 128) * 64 + c3 - 128) * 64 + c4 - 128)) := by
    show _ = _
    rw [HT3.out]; rw [tailR_good HC4.out (by omega) (by omega)]
  go_wp2
  rw [rounds_succ]
  obtain ⟨c5, hc5⟩ : ∃ c, xs[a + 5]? = some c := ⟨_, List.getElem?_eq_getElem (by have := HL.out; omega)⟩
  have q5 := (HI.out.grown HG.out).cell hc5
  have p5 : w2.cell? ⟨b, off + (a + 1) + 4, none⟩ = some (.int .i64 c5) := by rw [show off + (a + 1) + 4 = off + (a + 5) by omega]; exact q5
  have u5 : w2.cell? ⟨b, off + (a + 1 + 4), none⟩ = some (.int .i64 c5) := by rw [show off + (a + 1 + 4) = off + (a + 5) by omega]; exact q5
  have HC5 := Lib.hid hc5
  clear hc5
  by_cases hb5 : c5 < 128
  · have dl : decide (c5 < 128) = true := by simpa using hb5
    obtain rfl : o = none := by rw [← HO.out]; exact decR_none (by rw [HT4.out]; exact tailR_bad HC5.out (Or.inl hb5))
    go_wp2
    go_ret3
    exact ⟨rfl, grown_trans HG.out (grown_drewN _ _ _)⟩
  have dl5 : decide (c5 < 128) = false := by simpa using hb5
  by_cases hg5 : 191 < c5
  · have dg : decide (191 < c5) = true := by simpa using hg5
    obtain rfl : o = none := by rw [← HO.out]; exact decR_none (by rw [HT4.out]; exact tailR_bad HC5.out (Or.inr hg5))
    go_wp2
    go_ret3
    exact ⟨rfl, grown_trans HG.out (grown_drewN _ _ _)⟩
  have dg5 : decide (191 < c5) = false := by simpa using hg5
  have HT5 : Hid (tailR xs 5 (a + 1) ((x : Int) - 252) = tailR xs 0 (a + 6) (((((((x : Int) - 252) * 64 + c1 - 128) * 64 + c2 - 128) * 64 + c3 - 128) * 64 + c4 - 128) * 64 + c5 - 128)) := by
    show _ = _
    rw [HT4.out]; rw [tailR_good HC5.out (by omega) (by omega)]
  go_wp2
  rw [rounds_succ]
  by_cases hn : (((((((x : Int) - 252) * 64 + c1 - 128) * 64 + c2 - 128) * 64 + c3 - 128) * 64 + c4 - 128) * 64 + c5 - 128) < 67108864
  · have dn : decide ((((((((x : Int) - 252) * 64 + c1 - 128) * 64 + c2 - 128) * 64 + c3 - 128) * 64 + c4 - 128) * 64 + c5 - 128) < 67108864) = true := by simpa using hn
    obtain rfl : o = none := by
      rw [← HO.out]; unfold decR; rw [HT5.out]; simp only [tailR]
      rw [if_pos ⟨by omega, hn⟩]
    go_wp2
    go_ret3
    exact ⟨rfl, grown_trans HG.out (grown_drewN _ _ _)⟩
  have dn : decide ((((((((x : Int) - 252) * 64 + c1 - 128) * 64 + c2 - 128) * 64 + c3 - 128) * 64 + c4 - 128) * 64 + c5 - 128) < 67108864) = false := by simpa using hn
  obtain rfl : o = some ((((((((x : Int) - 252) * 64 + c1 - 128) * 64 + c2 - 128) * 64 + c3 - 128) * 64 + c4 - 128) * 64 + c5 - 128), a + 1 + 5) := by
    rw [← HO.out]; unfold decR; rw [HT5.out]; simp only [tailR]
    rw [if_neg (fun h => hn h.2)]
  go_wp2
  go_ret3
  exact ⟨rfl, grown_trans HG.out (grown_drewN _ _ _)⟩

end Go.Proofs.YtfncgegglpigkaaDoor
