/-
  The walk of the law on the parts of an encoding. For every code, in a world that holds the table of the forms.
-/
import Derived.Test.YtlcmgoocjammdaaDoorDrawNum
namespace Go.Proofs.YtlcmgoocjammdaaDoor
open Go.RowKit

/-- Behind the first byte all bytes are in 128 .. 191, and the first one is not. -/
def PartsL (L : List Int) : Prop := ∀ (i : Nat) (x : Int), L[i]? = some x → ((128 ≤ x ∧ x ≤ 191) ↔ 0 < i)
theorem parts_nil : PartsL [] := fun i x h => by simp at h
theorem parts0 (n : Nat) (h0 : 0 ≤ n) (h1 : n < 128) : PartsL [(n : Int)] := by
  intro i x hx
  rcases i with _ | i
  · simp at hx; omega
  · simp at hx
theorem parts1 (n : Nat) (h0 : 128 ≤ n) (h1 : n < 2048) : PartsL [192 + (n : Int) / 64, 128 + (n : Int) % 64] := by
  intro i x hx
  rcases i with _ | _ | i
  · simp at hx; omega
  · simp at hx; omega
  · simp at hx
theorem parts2 (n : Nat) (h0 : 2048 ≤ n) (h1 : n < 65536) : PartsL [224 + (n : Int) / 4096, 128 + (n : Int) / 64 % 64, 128 + (n : Int) % 64] := by
  intro i x hx
  rcases i with _ | _ | _ | i
  · simp at hx; omega
  · simp at hx; omega
  · simp at hx; omega
  · simp at hx
theorem parts3 (n : Nat) (h0 : 65536 ≤ n) (h1 : n < 2097152) : PartsL [240 + (n : Int) / 262144, 128 + (n : Int) / 4096 % 64, 128 + (n : Int) / 64 % 64, 128 + (n : Int) % 64] := by
  intro i x hx
  rcases i with _ | _ | _ | _ | i
  · simp at hx; omega
  · simp at hx; omega
  · simp at hx; omega
  · simp at hx; omega
  · simp at hx
theorem parts4 (n : Nat) (h0 : 2097152 ≤ n) (h1 : n < 67108864) : PartsL [248 + (n : Int) / 16777216, 128 + (n : Int) / 262144 % 64, 128 + (n : Int) / 4096 % 64, 128 + (n : Int) / 64 % 64, 128 + (n : Int) % 64] := by
  intro i x hx
  rcases i with _ | _ | _ | _ | _ | i
  · simp at hx; omega
  · simp at hx; omega
  · simp at hx; omega
  · simp at hx; omega
  · simp at hx; omega
  · simp at hx
theorem parts5 (n : Nat) (h0 : 67108864 ≤ n) (h1 : n < 2147483648) : PartsL [252 + (n : Int) / 1073741824, 128 + (n : Int) / 16777216 % 64, 128 + (n : Int) / 262144 % 64, 128 + (n : Int) / 4096 % 64, 128 + (n : Int) / 64 % 64, 128 + (n : Int) % 64] := by
  intro i x hx
  rcases i with _ | _ | _ | _ | _ | _ | i
  · simp at hx; omega
  · simp at hx; omega
  · simp at hx; omega
  · simp at hx; omega
  · simp at hx; omega
  · simp at hx; omega
  · simp at hx
theorem enc_all (n : Int) : ∃ (L : List Int) (len : Nat), len ≤ 6 ∧ PartsL L ∧ Hid (∀ w, HasForms w → Calls Tryd.prog 9 #[.int .i64 n] w (Made L len w)) ∧ Hid (∀ w, Calls Tryd.prog 11 #[.int .i64 n] w (Made L len w)) := by
  by_cases h : n < 0 ∨ 2147483647 < n
  · exact ⟨[], 0, by omega, parts_nil, fun w _ => iEnc_out n w h, fun w => sEnc_out n w h⟩
  · obtain ⟨m, rfl⟩ := Int.eq_ofNat_of_zero_le (show 0 ≤ n by omega)
    have hm : m ≤ 2147483647 := by omega
    by_cases h0 : m < 128
    · exact ⟨_, 1, by omega, parts0 m (Nat.zero_le _) h0, fun w hf => iEnc0 m w hf (Nat.zero_le _) h0, fun w => sEnc_in (by omega) (by omega) (sEnc0 m w (Nat.zero_le _) h0)⟩
    by_cases h1 : m < 2048
    · exact ⟨_, 2, by omega, parts1 m (by omega) h1, fun w hf => iEnc1 m w hf (by omega) h1, fun w => sEnc_in (by omega) (by omega) (sEnc1 m w (by omega) h1)⟩
    by_cases h2 : m < 65536
    · exact ⟨_, 3, by omega, parts2 m (by omega) h2, fun w hf => iEnc2 m w hf (by omega) h2, fun w => sEnc_in (by omega) (by omega) (sEnc2 m w (by omega) h2)⟩
    by_cases h3 : m < 2097152
    · exact ⟨_, 4, by omega, parts3 m (by omega) h3, fun w hf => iEnc3 m w hf (by omega) h3, fun w => sEnc_in (by omega) (by omega) (sEnc3 m w (by omega) h3)⟩
    by_cases h4 : m < 67108864
    · exact ⟨_, 5, by omega, parts4 m (by omega) h4, fun w hf => iEnc4 m w hf (by omega) h4, fun w => sEnc_in (by omega) (by omega) (sEnc4 m w (by omega) h4)⟩
    by_cases h5 : m < 2147483648
    · exact ⟨_, 6, by omega, parts5 m (by omega) h5, fun w hf => iEnc5 m w hf (by omega) h5, fun w => sEnc_in (by omega) (by omega) (sEnc5 m w (by omega) h5)⟩
    exfalso; omega

set_option maxHeartbeats 2000000 in
theorem FnEncodeNumberParts_walk (ao : Option Addr) (len cap : Nat) (w : World) (hb : BytesAt w ao len) (hlc : len ≤ cap) (hmax : len ≤ 9223372036854775807) (hf : HasForms w) :
    Calls Tryd.prog 4 #[.slice ao len cap] w (Holds w) := by
  have hc := DrawEncodeNumber_any ao len cap w hb hlc hmax
  clear hb hlc hmax
  by_cases hlen : 1048576 < len
  · clear hc
    go_enter Tryd.func4, Tryd.ntmps4
    go_wp2
    go_ret
    exact ⟨rfl, grown_refl _ _⟩
  have hlen' : len ≤ 1048576 := by omega
  have HF := Lib.hid hf
  clear hlen hf
  go_enter Tryd.func4, Tryd.ntmps4
  go_wp2_with fail
  refine hc.mono ?_
  rintro e w1 ⟨n, rfl, hn0, hn1, hg1⟩
  clear hc
  obtain ⟨L, k, hk, hp, HI, HS⟩ := enc_all n
  have HP := Lib.hid hp
  have HG1 := Lib.hid hg1
  clear hp hg1
  go_wp2_with fail
  refine (HI.out _ (HF.out.grown HG1.out)).mono ?_
  rintro e w2 ⟨v2, rfl, ho2, hg2⟩
  obtain ⟨a2, c2, rfl, _, _, hx2, _⟩ := ho2.reads
  have HX2 := Lib.hid hx2
  have HG2 := Lib.hid (grown_trans HG1.out hg2)
  clear ho2 hg2 hx2
  go_wp2_with fail
  refine (HS.out _).mono ?_
  rintro e w3 ⟨v3, rfl, ho3, hg3⟩
  obtain ⟨a3, c3, rfl, _, _, hx3, _⟩ := ho3.reads
  have HX3 := Lib.hid hx3
  have HX23 := Lib.hid (HX2.out.grown hg3)
  have HG3 := Lib.hid (grown_trans HG2.out hg3)
  clear ho3 hg3 hx3
  go_wp2_with fail
  refine (equalInts_any L L a2 a3 k c2 k c3 true _ HX23.out HX3.out (by omega) (by simp)).mono ?_
  rintro e w4 ⟨rfl, hg4⟩
  have HX4 := Lib.hid (HX23.out.grown hg4)
  have HG4 := Lib.hid (grown_trans HG3.out hg4)
  clear hg4
  by_cases h0 : k = 0
  · have hd : ((k : Int) == 0) = true := by simp [h0]
    clear h0
    go_wp2_with fail
    refine (HS.out _).mono ?_
    rintro e w5 ⟨v5, rfl, ho5, hg5⟩
    obtain ⟨a5, c5, rfl, _, _, hx5, _⟩ := ho5.reads
    have HX5 := Lib.hid hx5
    have HX25 := Lib.hid (HX4.out.grown hg5)
    have HG5 := Lib.hid (grown_trans HG4.out hg5)
    clear ho5 hg5 hx5
    go_wp2_with fail
    refine (equalInts_any L L a2 a5 k c2 k c5 true _ HX25.out HX5.out (by omega) (by simp)).mono ?_
    rintro e w6 ⟨rfl, hg6⟩
    have HG6 := Lib.hid (grown_trans HG5.out hg6)
    clear hg6
    go_wp2
    go_ret
    exact ⟨rfl, HG6.out⟩
  · have hd : ((k : Int) == 0) = false := by simpa using h0
    have hl := HX4.out.1
    obtain ⟨b, off, hab, hcl⟩ := HX4.out.2.resolve_left (by intro e; rw [e] at hl; simp at hl; omega)
    subst hab
    have HC : Hid (∀ j, j < k → ∃ x, L[j]? = some x ∧ w4.cell? ⟨b, off + j, none⟩ = some (.int .i64 x)) := by
      intro j hj
      exact ⟨L[j]'(by omega), List.getElem?_eq_getElem _, hcl j _ (List.getElem?_eq_getElem _)⟩
    clear hcl hl h0
    go_wp2
    go_loop [5] (fun i => ∃ j : Nat, j ≤ k ∧ i = .int .i64 j) (fun i => k - (intOf i).toNat)
    case atStart => exact ⟨0, Nat.zero_le _, rfl⟩
    case round =>
      obtain ⟨j, hj, rfl⟩ := hrel
      by_cases hlt : j < k
      · obtain ⟨x, hx, hcell⟩ := HC.out j hlt
        have hpp := HP.out j x hx
        clear hx
        by_cases hj0 : j = 0
        · subst hj0
          rw [Nat.add_zero] at hcell
          by_cases hx1 : 128 ≤ x
          · have hx2 : decide (x ≤ 191) = false := by simp; omega
            clear hpp
            go_wp2
            go_round
            case rel => exact ⟨1, by omega, by go_num⟩
            case measure => simp [intOf]; omega
          · have hx2 : decide (128 ≤ x) = false := by simp; omega
            clear hpp hx1
            go_wp2
            go_round
            case rel => exact ⟨1, by omega, by go_num⟩
            case measure => simp [intOf]; omega
        · have hx1 : 128 ≤ x := by omega
          have hx2 : x ≤ 191 := by omega
          have hj1 : 0 < j := by omega
          clear hpp hj0
          go_wp2
          go_round
          case rel => exact ⟨j + 1, by omega, by go_num⟩
          case measure => simp [intOf]; omega
      · obtain rfl : j = k := by omega
        go_wp2
        go_ret
        exact ⟨rfl, HG4.out⟩

end Go.Proofs.YtlcmgoocjammdaaDoor
