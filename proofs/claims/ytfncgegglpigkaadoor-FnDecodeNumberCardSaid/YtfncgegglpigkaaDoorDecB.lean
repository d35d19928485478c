/-
  DecodeNumber of both texts: what they give, for all arguments.
-/
import Derived.Test.YtfncgegglpigkaaDoorDecJ
import Derived.Test.YtfncgegglpigkaaDoorDecS1
import Derived.Test.YtfncgegglpigkaaDoorDecS2
import Derived.Test.YtfncgegglpigkaaDoorDecS3
import Derived.Test.YtfncgegglpigkaaDoorDecS4
import Derived.Test.YtfncgegglpigkaaDoorDecS5
namespace Go.Proofs.YtfncgegglpigkaaDoor
open Go.RowKit

theorem iDec_out (xs : List Int) (ao : Option Addr) (len cap : Nat) (n : Int) (w : World) (hi : Ints w ao len xs) (hlc : len ≤ 4611686018427387904) (h : valB xs = false ∨ n < 0 ∨ (len : Int) ≤ n) :
    Calls Tryd.prog 9 #[.slice ao len cap, .int .i64 n] w (Got none w) := by
  cases hv : valB xs with
  | false =>
    have kv := iValidBytes xs ao len cap false w hi hlc hv
    clear hi hv h
    go_enter Tryd.func9, Tryd.ntmps9
    go_wp2_with fail
    refine kv.mono ?_
    rintro e w1 ⟨rfl, rfl⟩
    clear kv
    go_wp2
    go_ret3
    exact ⟨rfl, grown_refl _ _⟩
  | true =>
    have kv := iValidBytes xs ao len cap true w hi hlc hv
    by_cases h0 : n < 0
    · have d0 : decide (n < 0) = true := by simpa using h0
      clear hi hv h
      go_enter Tryd.func9, Tryd.ntmps9
      go_wp2_with fail
      refine kv.mono ?_
      rintro e w1 ⟨rfl, rfl⟩
      clear kv
      go_wp2
      go_ret3
      exact ⟨rfl, grown_refl _ _⟩
    · have d0 : decide (n < 0) = false := by simpa using h0
      have h1 : (len : Int) ≤ n := by rcases h with h | h | h <;> first | (rw [hv] at h; cases h) | omega
      have d1 : decide ((len : Int) ≤ n) = true := by simpa using h1
      clear hi hv h
      go_enter Tryd.func9, Tryd.ntmps9
      go_wp2_with fail
      refine kv.mono ?_
      rintro e w1 ⟨rfl, rfl⟩
      clear kv
      go_wp2
      go_ret3
      exact ⟨rfl, grown_refl _ _⟩

theorem behindN (x : Int) (w : World) (hf : HasForms w) (h : (128 ≤ x ∧ x < 192) ∨ (254 ≤ x ∧ x < 256)) :
    Calls Tryd.prog 17 #[.int .i64 x] w (NumOk 0 false w) := by
  rcases h with h | h
  · exact behindA x w hf h.1 h.2
  · exact behindB x w hf h.1 h.2

set_option maxRecDepth 100000 in
set_option maxHeartbeats 1000000 in
theorem iDecN (xs : List Int) (b off len cap a x : Nat) (w : World) (hf : HasForms w) (hi : Ints w (some ⟨b, off, none⟩) len xs) (hlc : len ≤ cap) (hv : valB xs = true) (ha : a < len) (hx : xs[a]? = some (x : Int)) (h : (128 ≤ x ∧ x < 192) ∨ (254 ≤ x ∧ x < 256)) :
    Calls Tryd.prog 9 #[.slice (some ⟨b, off, none⟩) len cap, .int .i64 (a : Int)] w (Got none w) := by
  have hll : len ≤ 2048 := by have := val_len hv; have := hi.1; omega
  have kv := iValidBytes xs (some ⟨b, off, none⟩) len cap true w hi (by omega) hv
  have kb := behindN (x : Int) w hf (by omega)
  have hcx := hi.cell hx
  have da : decide ((len : Int) ≤ (a : Int)) = false := by simp; omega
  have da0 : decide ((a : Int) < 0) = false := by simp
  clear hf hi hx hv h
  go_enter Tryd.func9, Tryd.ntmps9
  go_wp2_with fail
  refine kv.mono ?_
  rintro e w1 ⟨rfl, rfl⟩
  go_wp2_with fail
  refine kb.mono ?_
  rintro e w2 ⟨rfl, hg⟩
  have HG := Lib.hid hg
  clear kv kb
  go_wp2
  go_ret3
  exact ⟨rfl, HG.out⟩

theorem sDec_out (xs : List Int) (ao : Option Addr) (len cap : Nat) (n : Int) (w : World) (hll : len ≤ 2048) (h : n < 0 ∨ (len : Int) ≤ n) :
    Calls Tryd.prog 23 #[.slice ao len cap, .int .i64 n] w (GotS none w) := by
  have ki := inRange_any n 0 ((len : Int) - 1) false w (inB_false (by omega))
  clear h
  go_enter Tryd.func23, Tryd.ntmps23
  go_wp2_with fail
  refine ki.mono ?_
  rintro e w1 ⟨rfl, rfl⟩
  clear ki
  go_wp2
  go_ret2
  exact ⟨rfl, grown_refl _ _⟩

set_option maxRecDepth 100000 in
set_option maxHeartbeats 1000000 in
theorem sDecN (xs : List Int) (b off len cap a x : Nat) (w : World) (hi : Ints w (some ⟨b, off, none⟩) len xs) (hlc : len ≤ cap) (hll : len ≤ 2048) (ha : a < len) (hx : xs[a]? = some (x : Int)) (h : (128 ≤ x ∧ x < 192) ∨ (254 ≤ x ∧ x < 256)) :
    Calls Tryd.prog 23 #[.slice (some ⟨b, off, none⟩) len cap, .int .i64 (a : Int)] w (GotS none w) := by
  have hcx := hi.cell hx
  have ki := inRange_any (a : Int) 0 ((len : Int) - 1) true w (inB_true (by omega) (by omega))
  have dx : decide ((128 : Int) ≤ (x : Int)) = true := by simp; omega
  have k1 : ∀ w, Calls Tryd.prog 14 #[.int .i64 (x : Int), .int .i64 192, .int .i64 223] w fun e w' => e = .returned (.bool false) ∧ w = w' := fun w => inRange_any (x : Int) 192 223 false w (inB_false (by omega))
  have k2 : ∀ w, Calls Tryd.prog 14 #[.int .i64 (x : Int), .int .i64 224, .int .i64 239] w fun e w' => e = .returned (.bool false) ∧ w = w' := fun w => inRange_any (x : Int) 224 239 false w (inB_false (by omega))
  have k3 : ∀ w, Calls Tryd.prog 14 #[.int .i64 (x : Int), .int .i64 240, .int .i64 247] w fun e w' => e = .returned (.bool false) ∧ w = w' := fun w => inRange_any (x : Int) 240 247 false w (inB_false (by omega))
  have k4 : ∀ w, Calls Tryd.prog 14 #[.int .i64 (x : Int), .int .i64 248, .int .i64 251] w fun e w' => e = .returned (.bool false) ∧ w = w' := fun w => inRange_any (x : Int) 248 251 false w (inB_false (by omega))
  have k5 : ∀ w, Calls Tryd.prog 14 #[.int .i64 (x : Int), .int .i64 252, .int .i64 253] w fun e w' => e = .returned (.bool false) ∧ w = w' := fun w => inRange_any (x : Int) 252 253 false w (inB_false (by omega))
  have hw0 : IntKind.i64.wrap 0 = 0 := by decide
  have hw1 : IntKind.i64.wrap 1 = 1 := by decide
  have hw2 : IntKind.i64.wrap 2 = 2 := by decide
  have hw3 : IntKind.i64.wrap 3 = 3 := by decide
  have hw4 : IntKind.i64.wrap 4 = 4 := by decide
  have hw5 : IntKind.i64.wrap 5 = 5 := by decide
  have hw6 : IntKind.i64.wrap 6 = 6 := by decide
  have hw7 : IntKind.i64.wrap 7 = 7 := by decide
  have hw8 : IntKind.i64.wrap 8 = 8 := by decide
  have hw16 : IntKind.i64.wrap 16 = 16 := by decide
  have hw32 : IntKind.i64.wrap 32 = 32 := by decide
  have hw64 : IntKind.i64.wrap 64 = 64 := by decide
  have hw127 : IntKind.i64.wrap 127 = 127 := by decide
  have hw128 : IntKind.i64.wrap 128 = 128 := by decide
  have hw191 : IntKind.i64.wrap 191 = 191 := by decide
  have hw192 : IntKind.i64.wrap 192 = 192 := by decide
  have hw223 : IntKind.i64.wrap 223 = 223 := by decide
  have hw224 : IntKind.i64.wrap 224 = 224 := by decide
  have hw239 : IntKind.i64.wrap 239 = 239 := by decide
  have hw240 : IntKind.i64.wrap 240 = 240 := by decide
  have hw247 : IntKind.i64.wrap 247 = 247 := by decide
  have hw248 : IntKind.i64.wrap 248 = 248 := by decide
  have hw251 : IntKind.i64.wrap 251 = 251 := by decide
  have hw252 : IntKind.i64.wrap 252 = 252 := by decide
  have hw253 : IntKind.i64.wrap 253 = 253 := by decide
  have hw254 : IntKind.i64.wrap 254 = 254 := by decide
  have hw255 : IntKind.i64.wrap 255 = 255 := by decide
  clear hi hx h
  go_enter Tryd.func23, Tryd.ntmps23
  go_wp2_with fail
  refine ki.mono ?_
  rintro e w1 ⟨rfl, rfl⟩
  clear ki
  go_wp2
  refine wp_loop_rounds 6 ?_
  rw [rounds_succ]
  go_wp2_with fail
  go_quiet ((go_at_call 14; exact (k1 _).mono (fun _ _ h => ⟨h.1, _, h.2.symm⟩)))
  go_wp2_with fail
  rw [rounds_succ]
  go_wp2_with fail
  go_quiet ((go_at_call 14; exact (k2 _).mono (fun _ _ h => ⟨h.1, _, h.2.symm⟩)))
  go_wp2_with fail
  rw [rounds_succ]
  go_wp2_with fail
  go_quiet ((go_at_call 14; exact (k3 _).mono (fun _ _ h => ⟨h.1, _, h.2.symm⟩)))
  go_wp2_with fail
  rw [rounds_succ]
  go_wp2_with fail
  go_quiet ((go_at_call 14; exact (k4 _).mono (fun _ _ h => ⟨h.1, _, h.2.symm⟩)))
  go_wp2_with fail
  rw [rounds_succ]
  go_wp2_with fail
  go_quiet ((go_at_call 14; exact (k5 _).mono (fun _ _ h => ⟨h.1, _, h.2.symm⟩)))
  go_wp2_with fail
  rw [rounds_succ]
  go_wp2_with fail
  go_quiet (fail)
  go_wp2
  go_ret2
  exact ⟨rfl, grown_drewN _ _ _⟩

/-- From decodeNumber to DecodeNumber. -/
theorem sDec_up (xs : List Int) (ao : Option Addr) (len cap : Nat) (n : Int) (w : World) (o : Option (Int × Nat)) (hi : Ints w ao len xs) (hlc : len ≤ 4611686018427387904) (hv : valB xs = true) (hc : Calls Tryd.prog 23 #[.slice ao len cap, .int .i64 n] w (GotS o w)) :
    Calls Tryd.prog 11 #[.slice ao len cap, .int .i64 n] w (Got o w) := by
  have kv := sValidBytes xs ao len cap true w hi hlc hv
  clear hi hv
  cases o with
  | none =>
    go_enter Tryd.func11, Tryd.ntmps11
    go_wp2_with fail
    refine kv.mono ?_
    rintro e w1 ⟨rfl, rfl⟩
    go_wp2_with fail
    refine hc.mono ?_
    rintro e w2 ⟨rfl, hg⟩
    have HG := Lib.hid hg
    clear hc kv hg
    go_wp2
    go_ret3
    exact ⟨rfl, HG.out⟩
  | some p =>
    obtain ⟨z, q⟩ := p
    have dq : decide ((q : Int) < 0) = false := by simp
    go_enter Tryd.func11, Tryd.ntmps11
    go_wp2_with fail
    refine kv.mono ?_
    rintro e w1 ⟨rfl, rfl⟩
    go_wp2_with fail
    refine hc.mono ?_
    rintro e w2 ⟨rfl, hg⟩
    have HG := Lib.hid hg
    clear hc kv hg
    go_wp2
    go_ret3
    exact ⟨rfl, HG.out⟩
theorem sDec_inv (xs : List Int) (ao : Option Addr) (len cap : Nat) (n : Int) (w : World) (hi : Ints w ao len xs) (hlc : len ≤ 4611686018427387904) (hv : valB xs = false) :
    Calls Tryd.prog 11 #[.slice ao len cap, .int .i64 n] w (Got none w) := by
  have kv := sValidBytes xs ao len cap false w hi hlc hv
  clear hi hv
  go_enter Tryd.func11, Tryd.ntmps11
  go_wp2_with fail
  refine kv.mono ?_
  rintro e w1 ⟨rfl, rfl⟩
  clear kv
  go_wp2
  go_ret3
  exact ⟨rfl, grown_refl _ _⟩

theorem val_byte {xs : List Int} (h : valB xs = true) {k : Nat} {x : Int} (hx : xs[k]? = some x) : ∃ u : Nat, x = (u : Int) ∧ u < 256 := by
  unfold valB allB inB at h
  simp at h
  have := h.2 x (List.mem_of_getElem? hx)
  obtain ⟨u, rfl⟩ := Int.eq_ofNat_of_zero_le this.1
  exact ⟨u, rfl, by omega⟩

/-- Both give the same. -/
theorem dec_both (xs : List Int) (len : Nat) (hl : xs.length = len) (hlc : len ≤ 4611686018427387904) (n : Int) : ∃ o : Option (Int × Nat),
    Hid (∀ (ao : Option Addr) (cap : Nat) (w : World), HasForms w → Ints w ao len xs → len ≤ cap → Calls Tryd.prog 9 #[.slice ao len cap, .int .i64 n] w (Got o w)) ∧
    Hid (∀ (ao : Option Addr) (cap : Nat) (w : World), Ints w ao len xs → len ≤ cap → Calls Tryd.prog 11 #[.slice ao len cap, .int .i64 n] w (Got o w)) := by
  cases hv : valB xs with
  | false => exact ⟨none, fun ao cap w _ hi _ => iDec_out xs ao len cap n w hi hlc (Or.inl hv), fun ao cap w hi _ => sDec_inv xs ao len cap n w hi hlc hv⟩
  | true =>
    have hll : len ≤ 2048 := by have := val_len hv; omega
    by_cases h : n < 0 ∨ (len : Int) ≤ n
    · exact ⟨none, fun ao cap w _ hi _ => iDec_out xs ao len cap n w hi hlc (Or.inr h), fun ao cap w hi _ => sDec_up xs ao len cap n w none hi hlc hv (sDec_out xs ao len cap n w hll h)⟩
    · obtain ⟨a, rfl⟩ := Int.eq_ofNat_of_zero_le (show 0 ≤ n by omega)
      have ha : a < len := by omega
      obtain ⟨x, hx⟩ : ∃ x, xs[a]? = some x := ⟨_, List.getElem?_eq_getElem (by omega)⟩
      obtain ⟨u, rfl, hu⟩ := val_byte hv hx
      have hb : ∀ (w : World) (ao : Option Addr), Ints w ao len xs → ∃ (b off : Nat), ao = some ⟨b, off, none⟩ := by
        intro w ao hi
        rcases hi.2 with h | ⟨b, off, e, _⟩
        · subst h; simp at hx
        · exact ⟨b, off, e⟩
      by_cases c0 : u < 128
      · exact ⟨_, fun ao cap w hf hi hcap => (by obtain ⟨b, off, rfl⟩ := hb w ao hi; exact iDec0 xs b off len cap a u w hf hi hcap hv ha hx (by omega) (by omega) _ rfl), fun ao cap w hi hcap => (by obtain ⟨b, off, rfl⟩ := hb w ao hi; exact sDec_up xs _ len cap _ w _ hi hlc hv (sDec0 xs b off len cap a u w hi hcap hll ha hx (by omega) (by omega) _ rfl))⟩
      by_cases c1 : 192 ≤ u ∧ u < 224
      · exact ⟨_, fun ao cap w hf hi hcap => (by obtain ⟨b, off, rfl⟩ := hb w ao hi; exact iDec1 xs b off len cap a u w hf hi hcap hv ha hx (by omega) (by omega) _ rfl), fun ao cap w hi hcap => (by obtain ⟨b, off, rfl⟩ := hb w ao hi; exact sDec_up xs _ len cap _ w _ hi hlc hv (sDec1 xs b off len cap a u w hi hcap hll ha hx (by omega) (by omega) _ rfl))⟩
      by_cases c2 : 224 ≤ u ∧ u < 240
      · exact ⟨_, fun ao cap w hf hi hcap => (by obtain ⟨b, off, rfl⟩ := hb w ao hi; exact iDec2 xs b off len cap a u w hf hi hcap hv ha hx (by omega) (by omega) _ rfl), fun ao cap w hi hcap => (by obtain ⟨b, off, rfl⟩ := hb w ao hi; exact sDec_up xs _ len cap _ w _ hi hlc hv (sDec2 xs b off len cap a u w hi hcap hll ha hx (by omega) (by omega) _ rfl))⟩
      by_cases c3 : 240 ≤ u ∧ u < 248
      · exact ⟨_, fun ao cap w hf hi hcap => (by obtain ⟨b, off, rfl⟩ := hb w ao hi; exact iDec3 xs b off len cap a u w hf hi hcap hv ha hx (by omega) (by omega) _ rfl), fun ao cap w hi hcap => (by obtain ⟨b, off, rfl⟩ := hb w ao hi; exact sDec_up xs _ len cap _ w _ hi hlc hv (sDec3 xs b off len cap a u w hi hcap hll ha hx (by omega) (by omega) _ rfl))⟩
      by_cases c4 : 248 ≤ u ∧ u < 252
      · exact ⟨_, fun ao cap w hf hi hcap => (by obtain ⟨b, off, rfl⟩ := hb w ao hi; exact iDec4 xs b off len cap a u w hf hi hcap hv ha hx (by omega) (by omega) _ rfl), fun ao cap w hi hcap => (by obtain ⟨b, off, rfl⟩ := hb w ao hi; exact sDec_up xs _ len cap _ w _ hi hlc hv (sDec4 xs b off len cap a u w hi hcap hll ha hx (by omega) (by omega) _ rfl))⟩
      by_cases c5 : 252 ≤ u ∧ u < 254
      · exact ⟨_, fun ao cap w hf hi hcap => (by obtain ⟨b, off, rfl⟩ := hb w ao hi; exact iDec5 xs b off len cap a u w hf hi hcap hv ha hx (by omega) (by omega) _ rfl), fun ao cap w hi hcap => (by obtain ⟨b, off, rfl⟩ := hb w ao hi; exact sDec_up xs _ len cap _ w _ hi hlc hv (sDec5 xs b off len cap a u w hi hcap hll ha hx (by omega) (by omega) _ rfl))⟩
      exact ⟨none, fun ao cap w hf hi hcap => (by obtain ⟨b, off, rfl⟩ := hb w ao hi; exact iDecN xs b off len cap a u w hf hi hcap hv ha hx (by omega)), fun ao cap w hi hcap => (by obtain ⟨b, off, rfl⟩ := hb w ao hi; exact sDec_up xs _ len cap _ w _ hi hlc hv (sDecN xs b off len cap a u w hi hcap hll ha hx (by omega)))⟩

end Go.Proofs.YtfncgegglpigkaaDoor
