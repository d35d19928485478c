/-
  decodeNumber of the specification, some forms of the first byte.
-/
import Derived.Test.YtfncgegglpigkaaDoorDecS
namespace Go.Proofs.YtfncgegglpigkaaDoor
open Go.RowKit

set_option maxRecDepth 100000 in
set_option maxHeartbeats 2000000 in
theorem sDec2 (xs : List Int) (b off len cap a x : Nat) (w : World) (hi : Ints w (some ⟨b, off, none⟩) len xs) (hlc : len ≤ cap) (hll : len ≤ 2048) (ha : a < len) (hx : xs[a]? = some (x : Int)) (h0 : 224 ≤ x) (h1 : x < 240) (o : Option (Int × Nat)) (ho : decR xs a (x : Int) 224 2048 2 = o) :
    Calls Tryd.prog 23 #[.slice (some ⟨b, off, none⟩) len cap, .int .i64 (a : Int)] w (GotS o w) := by
  have hl := hi.1
  have hcx := hi.cell hx
  have ki := inRange_any (a : Int) 0 ((len : Int) - 1) true w (inB_true (by omega) (by omega))
  have dx : decide ((128 : Int) ≤ (x : Int)) = true := by simp; omega
  have k1 : ∀ w, Calls Tryd.prog 14 #[.int .i64 (x : Int), .int .i64 192, .int .i64 223] w fun e w' => e = .returned (.bool false) ∧ w = w' := fun w => inRange_any (x : Int) 192 223 false w (inB_false (by omega))
  have k2 : ∀ w, Calls Tryd.prog 14 #[.int .i64 (x : Int), .int .i64 224, .int .i64 239] w fun e w' => e = .returned (.bool true) ∧ w = w' := fun w => inRange_any (x : Int) 224 239 true w (inB_true (by omega) (by omega))
  have hw0 : IntKind.i64.wrap 0 = 0 := by decide
  have hw1 : IntKind.i64.wrap 1 = 1 := by decide
  have hw2 : IntKind.i64.wrap 2 = 2 := by decide
  have hw3 : IntKind.i64.wrap 3 = 3 := by decide
  have hw4 : IntKind.i64.wrap 4 = 4 := by decide
  have hw5 : IntKind.i64.wrap 5 = 5 := by decide
  have hw6 : IntKind.i64.wrap 6 = 6 := by decide
  have hw7 : IntKind.i64.wrap 7 = 7 := by decide
  have hw8 : IntKind.i64.wrap 8 = 8 := by decide
  have hw16 : IntKind.i64.wrap 16 = 16 := by decide
  have hw32 : IntKind.i64.wrap 32 = 32 := by decide
  have hw64 : IntKind.i64.wrap 64 = 64 := by decide
  have hw127 : IntKind.i64.wrap 127 = 127 := by decide
  have hw128 : IntKind.i64.wrap 128 = 128 := by decide
  have hw191 : IntKind.i64.wrap 191 = 191 := by decide
  have hw192 : IntKind.i64.wrap 192 = 192 := by decide
  have hw223 : IntKind.i64.wrap 223 = 223 := by decide
  have hw224 : IntKind.i64.wrap 224 = 224 := by decide
  have hw239 : IntKind.i64.wrap 239 = 239 := by decide
  have hw240 : IntKind.i64.wrap 240 = 240 := by decide
  have hw247 : IntKind.i64.wrap 247 = 247 := by decide
  have hw248 : IntKind.i64.wrap 248 = 248 := by decide
  have hw251 : IntKind.i64.wrap 251 = 251 := by decide
  have hw252 : IntKind.i64.wrap 252 = 252 := by decide
  have hw253 : IntKind.i64.wrap 253 = 253 := by decide
  have hw254 : IntKind.i64.wrap 254 = 254 := by decide
  have hw255 : IntKind.i64.wrap 255 = 255 := by decide
  have HI := Lib.hid hi
  have HX := Lib.hid hx
  have HO := Lib.hid ho
  have HL := Lib.hid hl
  clear hi hx ho hl
  go_enter Tryd.func23, Tryd.ntmps23
  go_wp2_with fail
  refine ki.mono ?_
  rintro e w1 ⟨rfl, rfl⟩
  clear ki
  go_wp2
  refine wp_loop_rounds 2 ?_
  rw [rounds_succ]
  go_wp2_with fail
  go_quiet ((go_at_call 14; exact (k1 _).mono (fun _ _ h => ⟨h.1, _, h.2.symm⟩)))
  go_wp2_with fail
  rw [rounds_succ]
  go_wp2_with fail
  go_quiet ((go_at_call 14; exact (k2 _).mono (fun _ _ h => ⟨h.1, _, h.2.symm⟩)))
  by_cases hs : len < a + 3
  · have ds : decide ((len : Int) < (a : Int) + 3) = true := by simp; omega
    obtain rfl : o = none := by rw [← HO.out]; exact decR_short (by have := HL.out; omega) (by have := HL.out; omega)
    go_wp2
    go_ret2
    exact ⟨rfl, grown_drewN _ _ _⟩
  have ds : decide ((len : Int) < (a : Int) + 3) = false := by simp; omega
  go_wp2
  go_quiet (fail)
  go_wp2
  refine wp_loop_rounds 3 ?_
  rw [rounds_succ]
  obtain ⟨c1, hc1⟩ : ∃ c, xs[a + 1]? = some c := ⟨_, List.getElem?_eq_getElem (by have := HL.out; omega)⟩
  have q1 := HI.out.cell hc1
  have HC1 := Lib.hid hc1
  clear hc1
  by_cases hb1 : c1 < 128 ∨ 191 < c1
  · have kc : ∀ w, Calls Tryd.prog 14 #[.int .i64 c1, .int .i64 128, .int .i64 191] w fun e w' => e = .returned (.bool false) ∧ w = w' := fun w => inRange_any c1 128 191 false w (inB_false (by omega))
    obtain rfl : o = none := by rw [← HO.out]; exact decR_none (by exact tailR_bad HC1.out hb1)
    go_wp2_with fail
    refine (kc _).mono ?_
    rintro e w1 ⟨rfl, rfl⟩
    go_wp2
    go_ret2
    exact ⟨rfl, grown_drewN _ _ _⟩
  have hbl1 : 128 ≤ c1 := by omega
  have hbh1 : c1 ≤ 191 := by omega
  have kc1 : ∀ w, Calls Tryd.prog 14 #[.int .i64 c1, .int .i64 128, .int .i64 191] w fun e w' => e = .returned (.bool true) ∧ w = w' := fun w => inRange_any c1 128 191 true w (inB_true hbl1 hbh1)
  clear hb1
  have HT1 : Hid (tailR xs 2 (a + 1) ((x : Int) - 224) = tailR xs 1 (a + 2) (((x : Int) - 224) * 64 + c1 - 128)) := by
    show _ = _
    rw [tailR_good HC1.out hbl1 hbh1]
  go_wp2_with fail
  refine (kc1 _).mono ?_
  rintro e w1 ⟨rfl, rfl⟩
  go_wp2_with fail
  rw [rounds_succ]
  obtain ⟨c2, hc2⟩ : ∃ c, xs[a + 2]? = some c := ⟨_, List.getElem?_eq_getElem (by have := HL.out; omega)⟩
  have q2 := HI.out.cell hc2
  have HC2 := Lib.hid hc2
  clear hc2
  by_cases hb2 : c2 < 128 ∨ 191 < c2
  · have kc : ∀ w, Calls Tryd.prog 14 #[.int .i64 c2, .int .i64 128, .int .i64 191] w fun e w' => e = .returned (.bool false) ∧ w = w' := fun w => inRange_any c2 128 191 false w (inB_false (by omega))
    obtain rfl : o = none := by rw [← HO.out]; exact decR_none (by rw [HT1.out]; exact tailR_bad HC2.out hb2)
    go_wp2_with fail
    refine (kc _).mono ?_
    rintro e w1 ⟨rfl, rfl⟩
    go_wp2
    go_ret2
    exact ⟨rfl, grown_drewN _ _ _⟩
  have hbl2 : 128 ≤ c2 := by omega
  have hbh2 : c2 ≤ 191 := by omega
  have kc2 : ∀ w, Calls Tryd.prog 14 #[.int .i64 c2, .int .i64 128, .int .i64 191] w fun e w' => e = .returned (.bool true) ∧ w = w' := fun w => inRange_any c2 128 191 true w (inB_true hbl2 hbh2)
  clear hb2
  have HT2 : Hid (tailR xs 2 (a + 1) ((x : Int) - 224) = tailR xs 0 (a + 3) ((((x : Int) - 224) * 64 + c1 - 128) * 64 + c2 - 128)) := by
    show _ = _
    rw [HT1.out]; rw [tailR_good HC2.out hbl2 hbh2]
  go_wp2_with fail
  refine (kc2 _).mono ?_
  rintro e w1 ⟨rfl, rfl⟩
  go_wp2_with fail
  rw [rounds_succ]
  have hy : (xs.drop a).take 3 = [(x : Int), c1, c2] := by
    rw [take_drop_cons HX.out, take_drop_cons HC1.out, take_drop_cons HC2.out]; simp
  have HY : Hid (Ints w (some ⟨b, off + a, none⟩) 3 [(x : Int), c1, c2]) := by
    have := HI.out.slice (a := a) (m := 3) (by omega)
    rw [hy] at this; exact this
  clear hy
  obtain ⟨L, le, hLl, hle6, g0, g1, g2, g3, g4, e0, e1, e2, e3, e4, e5, HE⟩ := encAll ((((x : Int) - 224) * 64 + c1 - 128) * 64 + c2 - 128) (by omega) (by omega)
  have dm : decide ((2147483647 : Int) < ((((x : Int) - 224) * 64 + c1 - 128) * 64 + c2 - 128)) = false := by simp; omega
  by_cases hn : ((((x : Int) - 224) * 64 + c1 - 128) * 64 + c2 - 128) < 2048
  · obtain rfl : o = none := by
      rw [← HO.out]; unfold decR; rw [HT2.out]; simp only [tailR]
      rw [if_pos ⟨by omega, hn⟩]
    have HEV : Hid ((L == [(x : Int), c1, c2]) = false) := by
      show _ = _
      rw [beq_eq_false_iff_ne]
      intro e
      have h5 := congrArg List.length e
      have h6 := g1 hn
      simp at h5
      omega
    clear g0 g1 g2 g3 g4 e0 e1 e2 e3 e4 e5 k1 k2 kc1 kc2 hw0 hw1 hw2 hw3 hw4 hw5 hw6 hw7 hw8 hw16 hw32 hw64 hw127 hw128 hw191 hw192 hw223 hw224 hw239 hw240 hw247 hw248 hw251 hw252 hw253 hw254 hw255
    go_wp2_with fail
    generalize hWW : w.drewN _ = W
    have HW : Hid (w.grownBy W none) := by rw [← hWW]; exact grown_drewN _ _ _
    have hcxW := HW.out.cell hcx (by simp)
    clear hWW
    have s1 : (0 : Int) ≤ (a : Int) := by omega
    have s2 : (a : Int) ≤ (a : Int) + 3 := by omega
    have s3 : (a : Int) + 3 ≤ (cap : Int) := by omega
    have s4 : ¬ cap = a := by omega
    have s6 : IntKind.i64.wrap ((a : Int) + 3) = (a : Int) + 3 := IntWalk.i64_in _ (by omega)
    have s7 : a + 3 ≤ cap := by omega
    have s8 : ((a : Int) + 3).toNat - a = 3 := by omega
    (go_region_held3 (fun w' => w'.cell? ⟨b, off + a, none⟩ = some (.int .i64 (x : Int))) (first | go_keep | assumption) ((first
      | (go_at_call 15; refine (HE.out _).mono ?_; rintro e w8 ⟨v8, rfl, ho8, hg8⟩; obtain ⟨ae, ce, rfl, _, _, hie, _⟩ := ho8.reads; have hg8w : w.grownBy w8 none := grown_trans (grown_trans HW.out (grown_drew _ _)) hg8; have hcx8 := hg8w.cell hcx (by simp); have HQ := Lib.hid (And.intro hie hg8w); clear ho8 hg8 hie hg8w)
      | (go_at_call 26; refine (sEqualInts_any L [(x : Int), c1, c2] ae (some ⟨b, off + a, none⟩) le ce 3 _ false _ HQ.out.1 (HY.out.grown HQ.out.2) (by omega) HEV.out).mono ?_; rintro e w9 ⟨rfl, hg9⟩; have HG9 := Lib.hid (grown_trans HQ.out.2 hg9); have hcx9 := HG9.out.cell hcx (by simp); clear hg9))))
    all_goals
      go_wp2
      go_ret2
      exact ⟨rfl, HG9.out⟩
  obtain rfl : o = some (((((x : Int) - 224) * 64 + c1 - 128) * 64 + c2 - 128), a + 1 + 2) := by
    rw [← HO.out]; unfold decR; rw [HT2.out]; simp only [tailR]
    rw [if_neg (fun h => hn h.2)]
  have HEV : Hid ((L == [(x : Int), c1, c2]) = true) := by
    show _ = _
    have h5 := e2 (by omega) (by omega)
    have t0 : 224 + ((((x : Int) - 224) * 64 + c1 - 128) * 64 + c2 - 128) / 4096 = (x : Int) := by omega
    have t1 : 128 + ((((x : Int) - 224) * 64 + c1 - 128) * 64 + c2 - 128) / 64 % 64 = c1 := by omega
    have t2 : 128 + ((((x : Int) - 224) * 64 + c1 - 128) * 64 + c2 - 128) % 64 = c2 := by omega
    rw [t0, t1, t2] at h5
    rw [h5]; simp
  clear g0 g1 g2 g3 g4 e0 e1 e2 e3 e4 e5 k1 k2 kc1 kc2 hw0 hw1 hw2 hw3 hw4 hw5 hw6 hw7 hw8 hw16 hw32 hw64 hw127 hw128 hw191 hw192 hw223 hw224 hw239 hw240 hw247 hw248 hw251 hw252 hw253 hw254 hw255
  go_wp2_with fail
  generalize hWW : w.drewN _ = W
  have HW : Hid (w.grownBy W none) := by rw [← hWW]; exact grown_drewN _ _ _
  have hcxW := HW.out.cell hcx (by simp)
  clear hWW
  have s1 : (0 : Int) ≤ (a : Int) := by omega
  have s2 : (a : Int) ≤ (a : Int) + 3 := by omega
  have s3 : (a : Int) + 3 ≤ (cap : Int) := by omega
  have s4 : ¬ cap = a := by omega
  have s6 : IntKind.i64.wrap ((a : Int) + 3) = (a : Int) + 3 := IntWalk.i64_in _ (by omega)
  have s7 : a + 3 ≤ cap := by omega
  have s8 : ((a : Int) + 3).toNat - a = 3 := by omega
  (go_region_held3 (fun w' => w'.cell? ⟨b, off + a, none⟩ = some (.int .i64 (x : Int))) (first | go_keep | assumption) ((first
    | (go_at_call 15; refine (HE.out _).mono ?_; rintro e w8 ⟨v8, rfl, ho8, hg8⟩; obtain ⟨ae, ce, rfl, _, _, hie, _⟩ := ho8.reads; have hg8w : w.grownBy w8 none := grown_trans (grown_trans HW.out (grown_drew _ _)) hg8; have hcx8 := hg8w.cell hcx (by simp); have HQ := Lib.hid (And.intro hie hg8w); clear ho8 hg8 hie hg8w)
    | (go_at_call 26; refine (sEqualInts_any L [(x : Int), c1, c2] ae (some ⟨b, off + a, none⟩) le ce 3 _ true _ HQ.out.1 (HY.out.grown HQ.out.2) (by omega) HEV.out).mono ?_; rintro e w9 ⟨rfl, hg9⟩; have HG9 := Lib.hid (grown_trans HQ.out.2 hg9); have hcx9 := HG9.out.cell hcx (by simp); clear hg9))))
  all_goals
    go_wp2
    go_ret2
    exact ⟨rfl, HG9.out⟩

end Go.Proofs.YtfncgegglpigkaaDoor
