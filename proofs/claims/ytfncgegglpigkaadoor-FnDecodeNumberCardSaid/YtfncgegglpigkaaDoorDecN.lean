/-
  What is decoded has these bytes as its code: for every list and every place.
-/
import Derived.Test.YtfncgegglpigkaaDoorDecB
import Derived.Test.YtfncgegglpigkaaDoorExEnc
namespace Go.Proofs.YtfncgegglpigkaaDoor
open Go.RowKit

theorem drop_at {xs : List Int} {a : Nat} {x : Int} (h : xs[a]? = some x) : xs.drop a = x :: xs.drop (a + 1) := by
  obtain ⟨hl, he⟩ := List.getElem?_eq_some_iff.1 h
  rw [List.drop_eq_getElem_cons hl, he]
theorem tailR_inv {xs : List Int} {k p : Nat} {n m : Int} (h : tailR xs (k + 1) p n = some m) : ∃ c, xs[p]? = some c ∧ 128 ≤ c ∧ c ≤ 191 ∧ tailR xs k (p + 1) (n * 64 + c - 128) = some m := by
  simp only [tailR] at h
  split at h
  · cases h
  · rename_i c hc
    split at h
    · rename_i hr
      exact ⟨c, hc, hr.1, hr.2, h⟩
    · cases h
theorem decR_inv {xs : List Int} {a r : Nat} {x f lim : Int} {q : Int × Nat} (h : decR xs a x f lim r = some q) : tailR xs r (a + 1) (x - f) = some q.1 ∧ (0 < r → lim ≤ q.1) ∧ q.2 = a + 1 + r := by
  unfold decR at h
  split at h
  · cases h
  · rename_i n hn
    split at h
    · cases h
    · rename_i hr
      injection h with h
      subst h
      exact ⟨hn, fun h0 => by have : ¬ n < lim := fun h1 => hr ⟨h0, h1⟩
                              show lim ≤ n
                              omega, rfl⟩

theorem list2_ext {a0 a1 b0 b1 : Int} (h0 : a0 = b0) (h1 : a1 = b1) : [a0, a1] = [b0, b1] := by
  subst h0; subst h1; rfl
theorem list3_ext {a0 a1 a2 b0 b1 b2 : Int} (h0 : a0 = b0) (h1 : a1 = b1) (h2 : a2 = b2) : [a0, a1, a2] = [b0, b1, b2] := by
  subst h0; subst h1; subst h2; rfl
theorem list4_ext {a0 a1 a2 a3 b0 b1 b2 b3 : Int} (h0 : a0 = b0) (h1 : a1 = b1) (h2 : a2 = b2) (h3 : a3 = b3) : [a0, a1, a2, a3] = [b0, b1, b2, b3] := by
  subst h0; subst h1; subst h2; subst h3; rfl
theorem list5_ext {a0 a1 a2 a3 a4 b0 b1 b2 b3 b4 : Int} (h0 : a0 = b0) (h1 : a1 = b1) (h2 : a2 = b2) (h3 : a3 = b3) (h4 : a4 = b4) : [a0, a1, a2, a3, a4] = [b0, b1, b2, b3, b4] := by
  subst h0; subst h1; subst h2; subst h3; subst h4; rfl
theorem list6_ext {a0 a1 a2 a3 a4 a5 b0 b1 b2 b3 b4 b5 : Int} (h0 : a0 = b0) (h1 : a1 = b1) (h2 : a2 = b2) (h3 : a3 = b3) (h4 : a4 = b4) (h5 : a5 = b5) : [a0, a1, a2, a3, a4, a5] = [b0, b1, b2, b3, b4, b5] := by
  subst h0; subst h1; subst h2; subst h3; subst h4; subst h5; rfl

def Back (xs : List Int) (a : Nat) (q : Int × Nat) : Prop :=
  ∃ k, q.2 = a + k ∧ a + k ≤ xs.length ∧ 1 ≤ k ∧ k ≤ 6 ∧ Hid (∀ w, HasForms w → Calls Tryd.prog 6 #[.int .i64 q.1] w (Made ((xs.drop a).take k) k w))

theorem back0 (xs : List Int) (a x : Nat) (hx : xs[a]? = some (x : Int)) (h0 : 0 ≤ x) (h1 : x < 128) (q : Int × Nat) (h : decR xs a (x : Int) 0 0 0 = some q) : Back xs a q := by
  obtain ⟨ht, hlim, hq⟩ := decR_inv h
  have hal := (List.getElem?_eq_some_iff.1 hx).1
  clear hlim
  simp only [tailR, Option.some.injEq] at ht
  obtain ⟨n, p⟩ := q
  simp only at ht hq
  obtain ⟨m, rfl⟩ := Int.eq_ofNat_of_zero_le (show 0 ≤ n by omega)
  refine ⟨1, by omega, by omega, by omega, by omega, fun w hf => ?_⟩
  have hlist : (xs.drop a).take 1 = [(m : Int)] := by
    rw [drop_at hx]
    have e0 : (x : Int) = (m : Int) := by omega
    show [(x : Int)] = [(m : Int)]
    rw [e0]
  rw [hlist]
  exact iEnc0 m w hf (by omega) (by omega)

theorem back1 (xs : List Int) (a x : Nat) (hx : xs[a]? = some (x : Int)) (h0 : 192 ≤ x) (h1 : x < 224) (q : Int × Nat) (h : decR xs a (x : Int) 192 128 1 = some q) : Back xs a q := by
  obtain ⟨ht, hlim, hq⟩ := decR_inv h
  have hal := (List.getElem?_eq_some_iff.1 hx).1
  replace hlim := hlim (by omega)
  obtain ⟨c0, hc0, hl0, hh0, ht⟩ := tailR_inv ht
  simp only [tailR, Option.some.injEq] at ht
  have hal2 := (List.getElem?_eq_some_iff.1 hc0).1
  obtain ⟨n, p⟩ := q
  simp only at ht hq hlim
  obtain ⟨m, rfl⟩ := Int.eq_ofNat_of_zero_le (show 0 ≤ n by omega)
  refine ⟨2, by omega, by omega, by omega, by omega, fun w hf => ?_⟩
  have hlist : (xs.drop a).take 2 = [192 + (m : Int) / 64, 128 + (m : Int) % 64] := by
    rw [drop_at hx, drop_at hc0]
    show [(x : Int), c0] = [192 + (m : Int) / 64, 128 + (m : Int) % 64]
    have e0 : (x : Int) = 192 + (m : Int) / 64 := by clear hx hc0 h; omega
    have e1 : c0 = 128 + (m : Int) % 64 := by clear hx hc0 h; omega
    exact list2_ext e0 e1
  rw [hlist]
  exact iEnc1 m w hf (by omega) (by omega)

theorem back2 (xs : List Int) (a x : Nat) (hx : xs[a]? = some (x : Int)) (h0 : 224 ≤ x) (h1 : x < 240) (q : Int × Nat) (h : decR xs a (x : Int) 224 2048 2 = some q) : Back xs a q := by
  obtain ⟨ht, hlim, hq⟩ := decR_inv h
  have hal := (List.getElem?_eq_some_iff.1 hx).1
  replace hlim := hlim (by omega)
  obtain ⟨c0, hc0, hl0, hh0, ht⟩ := tailR_inv ht
  obtain ⟨c1, hc1, hl1, hh1, ht⟩ := tailR_inv ht
  simp only [tailR, Option.some.injEq] at ht
  have hal2 := (List.getElem?_eq_some_iff.1 hc1).1
  obtain ⟨n, p⟩ := q
  simp only at ht hq hlim
  obtain ⟨m, rfl⟩ := Int.eq_ofNat_of_zero_le (show 0 ≤ n by omega)
  refine ⟨3, by omega, by omega, by omega, by omega, fun w hf => ?_⟩
  have hlist : (xs.drop a).take 3 = [224 + (m : Int) / 4096, 128 + (m : Int) / 64 % 64, 128 + (m : Int) % 64] := by
    rw [drop_at hx, drop_at hc0, drop_at hc1]
    show [(x : Int), c0, c1] = [224 + (m : Int) / 4096, 128 + (m : Int) / 64 % 64, 128 + (m : Int) % 64]
    have e0 : (x : Int) = 224 + (m : Int) / 4096 := by clear hx hc0 hc1 h; omega
    have e1 : c0 = 128 + (m : Int) / 64 % 64 := by clear hx hc0 hc1 h; omega
    have e2 : c1 = 128 + (m : Int) % 64 := by clear hx hc0 hc1 h; omega
    exact list3_ext e0 e1 e2
  rw [hlist]
  exact iEnc2 m w hf (by omega) (by omega)

theorem back3 (xs : List Int) (a x : Nat) (hx : xs[a]? = some (x : Int)) (h0 : 240 ≤ x) (h1 : x < 248) (q : Int × Nat) (h : decR xs a (x : Int) 240 65536 3 = some q) : Back xs a q := by
  obtain ⟨ht, hlim, hq⟩ := decR_inv h
  have hal := (List.getElem?_eq_some_iff.1 hx).1
  replace hlim := hlim (by omega)
  obtain ⟨c0, hc0, hl0, hh0, ht⟩ := tailR_inv ht
  obtain ⟨c1, hc1, hl1, hh1, ht⟩ := tailR_inv ht
  obtain ⟨c2, hc2, hl2, hh2, ht⟩ := tailR_inv ht
  simp only [tailR, Option.some.injEq] at ht
  have hal2 := (List.getElem?_eq_some_iff.1 hc2).1
  obtain ⟨n, p⟩ := q
  simp only at ht hq hlim
  obtain ⟨m, rfl⟩ := Int.eq_ofNat_of_zero_le (show 0 ≤ n by omega)
  refine ⟨4, by omega, by omega, by omega, by omega, fun w hf => ?_⟩
  have hlist : (xs.drop a).take 4 = [240 + (m : Int) / 262144, 128 + (m : Int) / 4096 % 64, 128 + (m : Int) / 64 % 64, 128 + (m : Int) % 64] := by
    rw [drop_at hx, drop_at hc0, drop_at hc1, drop_at hc2]
    show [(x : Int), c0, c1, c2] = [240 + (m : Int) / 262144, 128 + (m : Int) / 4096 % 64, 128 + (m : Int) / 64 % 64, 128 + (m : Int) % 64]
    have e0 : (x : Int) = 240 + (m : Int) / 262144 := by clear hx hc0 hc1 hc2 h; omega
    have e1 : c0 = 128 + (m : Int) / 4096 % 64 := by clear hx hc0 hc1 hc2 h; omega
    have e2 : c1 = 128 + (m : Int) / 64 % 64 := by clear hx hc0 hc1 hc2 h; omega
    have e3 : c2 = 128 + (m : Int) % 64 := by clear hx hc0 hc1 hc2 h; omega
    exact list4_ext e0 e1 e2 e3
  rw [hlist]
  exact iEnc3 m w hf (by omega) (by omega)

theorem back4 (xs : List Int) (a x : Nat) (hx : xs[a]? = some (x : Int)) (h0 : 248 ≤ x) (h1 : x < 252) (q : Int × Nat) (h : decR xs a (x : Int) 248 2097152 4 = some q) : Back xs a q := by
  obtain ⟨ht, hlim, hq⟩ := decR_inv h
  have hal := (List.getElem?_eq_some_iff.1 hx).1
  replace hlim := hlim (by omega)
  obtain ⟨c0, hc0, hl0, hh0, ht⟩ := tailR_inv ht
  obtain ⟨c1, hc1, hl1, hh1, ht⟩ := tailR_inv ht
  obtain ⟨c2, hc2, hl2, hh2, ht⟩ := tailR_inv ht
  obtain ⟨c3, hc3, hl3, hh3, ht⟩ := tailR_inv ht
  simp only [tailR, Option.some.injEq] at ht
  have hal2 := (List.getElem?_eq_some_iff.1 hc3).1
  obtain ⟨n, p⟩ := q
  simp only at ht hq hlim
  obtain ⟨m, rfl⟩ := Int.eq_ofNat_of_zero_le (show 0 ≤ n by omega)
  refine ⟨5, by omega, by omega, by omega, by omega, fun w hf => ?_⟩
  have hlist : (xs.drop a).take 5 = [248 + (m : Int) / 16777216, 128 + (m : Int) / 262144 % 64, 128 + (m : Int) / 4096 % 64, 128 + (m : Int) / 64 % 64, 128 + (m : Int) % 64] := by
    rw [drop_at hx, drop_at hc0, drop_at hc1, drop_at hc2, drop_at hc3]
    show [(x : Int), c0, c1, c2, c3] = [248 + (m : Int) / 16777216, 128 + (m : Int) / 262144 % 64, 128 + (m : Int) / 4096 % 64, 128 + (m : Int) / 64 % 64, 128 + (m : Int) % 64]
    have e0 : (x : Int) = 248 + (m : Int) / 16777216 := by clear hx hc0 hc1 hc2 hc3 h; omega
    have e1 : c0 = 128 + (m : Int) / 262144 % 64 := by clear hx hc0 hc1 hc2 hc3 h; omega
    have e2 : c1 = 128 + (m : Int) / 4096 % 64 := by clear hx hc0 hc1 hc2 hc3 h; omega
    have e3 : c2 = 128 + (m : Int) / 64 % 64 := by clear hx hc0 hc1 hc2 hc3 h; omega
    have e4 : c3 = 128 + (m : Int) % 64 := by clear hx hc0 hc1 hc2 hc3 h; omega
    exact list5_ext e0 e1 e2 e3 e4
  rw [hlist]
  exact iEnc4 m w hf (by omega) (by omega)

theorem back5 (xs : List Int) (a x : Nat) (hx : xs[a]? = some (x : Int)) (h0 : 252 ≤ x) (h1 : x < 254) (q : Int × Nat) (h : decR xs a (x : Int) 252 67108864 5 = some q) : Back xs a q := by
  obtain ⟨ht, hlim, hq⟩ := decR_inv h
  have hal := (List.getElem?_eq_some_iff.1 hx).1
  replace hlim := hlim (by omega)
  obtain ⟨c0, hc0, hl0, hh0, ht⟩ := tailR_inv ht
  obtain ⟨c1, hc1, hl1, hh1, ht⟩ := tailR_inv ht
  obtain ⟨c2, hc2, hl2, hh2, ht⟩ := tailR_inv ht
  obtain ⟨c3, hc3, hl3, hh3, ht⟩ := tailR_inv ht
  obtain ⟨c4, hc4, hl4, hh4, ht⟩ := tailR_inv ht
  simp only [tailR, Option.some.injEq] at ht
  have hal2 := (List.getElem?_eq_some_iff.1 hc4).1
  obtain ⟨n, p⟩ := q
  simp only at ht hq hlim
  obtain ⟨m, rfl⟩ := Int.eq_ofNat_of_zero_le (show 0 ≤ n by omega)
  refine ⟨6, by omega, by omega, by omega, by omega, fun w hf => ?_⟩
  have hlist : (xs.drop a).take 6 = [252 + (m : Int) / 1073741824, 128 + (m : Int) / 16777216 % 64, 128 + (m : Int) / 262144 % 64, 128 + (m : Int) / 4096 % 64, 128 + (m : Int) / 64 % 64, 128 + (m : Int) % 64] := by
    rw [drop_at hx, drop_at hc0, drop_at hc1, drop_at hc2, drop_at hc3, drop_at hc4]
    show [(x : Int), c0, c1, c2, c3, c4] = [252 + (m : Int) / 1073741824, 128 + (m : Int) / 16777216 % 64, 128 + (m : Int) / 262144 % 64, 128 + (m : Int) / 4096 % 64, 128 + (m : Int) / 64 % 64, 128 + (m : Int) % 64]
    have e0 : (x : Int) = 252 + (m : Int) / 1073741824 := by clear hx hc0 hc1 hc2 hc3 hc4 h; omega
    have e1 : c0 = 128 + (m : Int) / 16777216 % 64 := by clear hx hc0 hc1 hc2 hc3 hc4 h; omega
    have e2 : c1 = 128 + (m : Int) / 262144 % 64 := by clear hx hc0 hc1 hc2 hc3 hc4 h; omega
    have e3 : c2 = 128 + (m : Int) / 4096 % 64 := by clear hx hc0 hc1 hc2 hc3 hc4 h; omega
    have e4 : c3 = 128 + (m : Int) / 64 % 64 := by clear hx hc0 hc1 hc2 hc3 hc4 h; omega
    have e5 : c4 = 128 + (m : Int) % 64 := by clear hx hc0 hc1 hc2 hc3 hc4 h; omega
    exact list6_ext e0 e1 e2 e3 e4 e5
  rw [hlist]
  exact iEnc5 m w hf (by omega) (by omega)

theorem dec_back (xs : List Int) (len : Nat) (hl : xs.length = len) (hlc : len ≤ 4611686018427387904) (n : Int) : ∃ o : Option (Int × Nat),
    Hid (∀ (ao : Option Addr) (cap : Nat) (w : World), HasForms w → Ints w ao len xs → len ≤ cap → Calls Tryd.prog 9 #[.slice ao len cap, .int .i64 n] w (Got o w)) ∧
    Hid (∀ (ao : Option Addr) (cap : Nat) (w : World), Ints w ao len xs → len ≤ cap → Calls Tryd.prog 11 #[.slice ao len cap, .int .i64 n] w (Got o w)) ∧
    Hid (∀ q, o = some q → ∃ a : Nat, n = (a : Int) ∧ Back xs a q) := by
  cases hv : valB xs with
  | false => exact ⟨none, fun ao cap w _ hi _ => iDec_out xs ao len cap n w hi hlc (Or.inl hv), fun ao cap w hi _ => sDec_inv xs ao len cap n w hi hlc hv, fun q h => nomatch h⟩
  | true =>
    have hll : len ≤ 2048 := by have := val_len hv; omega
    by_cases h : n < 0 ∨ (len : Int) ≤ n
    · exact ⟨none, fun ao cap w _ hi _ => iDec_out xs ao len cap n w hi hlc (Or.inr h), fun ao cap w hi _ => sDec_up xs ao len cap n w none hi hlc hv (sDec_out xs ao len cap n w hll h), fun q h => nomatch h⟩
    · obtain ⟨a, rfl⟩ := Int.eq_ofNat_of_zero_le (show 0 ≤ n by omega)
      have ha : a < len := by omega
      obtain ⟨x, hx⟩ : ∃ x, xs[a]? = some x := ⟨_, List.getElem?_eq_getElem (by omega)⟩
      obtain ⟨u, rfl, hu⟩ := val_byte hv hx
      have hb : ∀ (w : World) (ao : Option Addr), Ints w ao len xs → ∃ (b off : Nat), ao = some ⟨b, off, none⟩ := by
        intro w ao hi
        rcases hi.2 with h | ⟨b, off, e, _⟩
        · subst h; simp at hx
        · exact ⟨b, off, e⟩
      by_cases c0 : u < 128
      · exact ⟨decR xs a (u : Int) 0 0 0, fun ao cap w hf hi hcap => (by obtain ⟨b, off, rfl⟩ := hb w ao hi; exact iDec0 xs b off len cap a u w hf hi hcap hv ha hx (by omega) (by omega) _ rfl), fun ao cap w hi hcap => (by obtain ⟨b, off, rfl⟩ := hb w ao hi; exact sDec_up xs _ len cap _ w _ hi hlc hv (sDec0 xs b off len cap a u w hi hcap hll ha hx (by omega) (by omega) _ rfl)), fun q hq => ⟨a, rfl, back0 xs a u hx (by omega) (by omega) q hq⟩⟩
      by_cases c1 : 192 ≤ u ∧ u < 224
      · exact ⟨decR xs a (u : Int) 192 128 1, fun ao cap w hf hi hcap => (by obtain ⟨b, off, rfl⟩ := hb w ao hi; exact iDec1 xs b off len cap a u w hf hi hcap hv ha hx (by omega) (by omega) _ rfl), fun ao cap w hi hcap => (by obtain ⟨b, off, rfl⟩ := hb w ao hi; exact sDec_up xs _ len cap _ w _ hi hlc hv (sDec1 xs b off len cap a u w hi hcap hll ha hx (by omega) (by omega) _ rfl)), fun q hq => ⟨a, rfl, back1 xs a u hx (by omega) (by omega) q hq⟩⟩
      by_cases c2 : 224 ≤ u ∧ u < 240
      · exact ⟨decR xs a (u : Int) 224 2048 2, fun ao cap w hf hi hcap => (by obtain ⟨b, off, rfl⟩ := hb w ao hi; exact iDec2 xs b off len cap a u w hf hi hcap hv ha hx (by omega) (by omega) _ rfl), fun ao cap w hi hcap => (by obtain ⟨b, off, rfl⟩ := hb w ao hi; exact sDec_up xs _ len cap _ w _ hi hlc hv (sDec2 xs b off len cap a u w hi hcap hll ha hx (by omega) (by omega) _ rfl)), fun q hq => ⟨a, rfl, back2 xs a u hx (by omega) (by omega) q hq⟩⟩
      by_cases c3 : 240 ≤ u ∧ u < 248
      · exact ⟨decR xs a (u : Int) 240 65536 3, fun ao cap w hf hi hcap => (by obtain ⟨b, off, rfl⟩ := hb w ao hi; exact iDec3 xs b off len cap a u w hf hi hcap hv ha hx (by omega) (by omega) _ rfl), fun ao cap w hi hcap => (by obtain ⟨b, off, rfl⟩ := hb w ao hi; exact sDec_up xs _ len cap _ w _ hi hlc hv (sDec3 xs b off len cap a u w hi hcap hll ha hx (by omega) (by omega) _ rfl)), fun q hq => ⟨a, rfl, back3 xs a u hx (by omega) (by omega) q hq⟩⟩
      by_cases c4 : 248 ≤ u ∧ u < 252
      · exact ⟨decR xs a (u : Int) 248 2097152 4, fun ao cap w hf hi hcap => (by obtain ⟨b, off, rfl⟩ := hb w ao hi; exact iDec4 xs b off len cap a u w hf hi hcap hv ha hx (by omega) (by omega) _ rfl), fun ao cap w hi hcap => (by obtain ⟨b, off, rfl⟩ := hb w ao hi; exact sDec_up xs _ len cap _ w _ hi hlc hv (sDec4 xs b off len cap a u w hi hcap hll ha hx (by omega) (by omega) _ rfl)), fun q hq => ⟨a, rfl, back4 xs a u hx (by omega) (by omega) q hq⟩⟩
      by_cases c5 : 252 ≤ u ∧ u < 254
      · exact ⟨decR xs a (u : Int) 252 67108864 5, fun ao cap w hf hi hcap => (by obtain ⟨b, off, rfl⟩ := hb w ao hi; exact iDec5 xs b off len cap a u w hf hi hcap hv ha hx (by omega) (by omega) _ rfl), fun ao cap w hi hcap => (by obtain ⟨b, off, rfl⟩ := hb w ao hi; exact sDec_up xs _ len cap _ w _ hi hlc hv (sDec5 xs b off len cap a u w hi hcap hll ha hx (by omega) (by omega) _ rfl)), fun q hq => ⟨a, rfl, back5 xs a u hx (by omega) (by omega) q hq⟩⟩
      exact ⟨none, fun ao cap w hf hi hcap => (by obtain ⟨b, off, rfl⟩ := hb w ao hi; exact iDecN xs b off len cap a u w hf hi hcap hv ha hx (by omega)), fun ao cap w hi hcap => (by obtain ⟨b, off, rfl⟩ := hb w ao hi; exact sDec_up xs _ len cap _ w _ hi hlc hv (sDecN xs b off len cap a u w hi hcap hll ha hx (by omega))), fun q h => nomatch h⟩

theorem Ints.part {w : World} {b off len : Nat} {xs : List Int} (h : Ints w (some ⟨b, off, none⟩) len xs) (a k : Nat) (hk : a + k ≤ len) : Ints w (some ⟨b, off + a, none⟩) k ((xs.drop a).take k) := by
  have e := h.1
  refine ⟨by simp; omega, Or.inr ⟨b, off + a, rfl, fun i x hx => ?_⟩⟩
  rw [List.getElem?_take] at hx
  split at hx
  · rw [List.getElem?_drop] at hx
    rw [Nat.add_assoc]
    exact h.cell hx
  · cases hx

end Go.Proofs.YtfncgegglpigkaaDoor
