/-
  What is encoded is decoded, for every number; the walk of the law on it. For every code, in a world that holds the table of the forms.
-/
import Derived.Test.YtfncgegglpigkaaDoorDrawNum
import Derived.Test.YtfncgegglpigkaaDoorDecJ
import Derived.Test.YtfncgegglpigkaaDoorExEnc
namespace Go.Proofs.YtfncgegglpigkaaDoor
open Go.RowKit

theorem dec_of0 (n : Nat) (h0 : 0 ≤ n) (h1 : n < 128) : decR [(n : Int)] 0 ((n : Nat) : Int) 0 0 0 = some ((n : Int), 1) := by
    simp [decR, tailR]

theorem val_of0 (n : Nat) (h0 : 0 ≤ n) (h1 : n < 128) : valB [(n : Int)] = true := by
  unfold valB allB
  simp only [List.length_cons, List.length_nil, List.all_cons, List.all_nil, Bool.and_true, Bool.and_eq_true, decide_eq_true_eq]
  refine ⟨by omega, inB_true (by omega) (by omega)⟩

theorem iBack0 (n : Nat) (h0 : 0 ≤ n) (h1 : n < 128) (ao : Option Addr) (cap : Nat) (w : World) (hf : HasForms w) (hi : Ints w ao 1 [(n : Int)]) (hlc : 1 ≤ cap) :
    Calls Tryd.prog 9 #[.slice ao 1 cap, .int .i64 0] w (Got (some ((n : Int), 1)) w) := by
  obtain ⟨b, off, rfl, _⟩ := hi.2.resolve_left (by simp)
  exact iDec0 [(n : Int)] b off 1 cap 0 n w hf hi hlc (val_of0 n h0 h1) (by omega) (by simp) (by omega) (by omega) _ (dec_of0 n h0 h1)

theorem dec_of1 (n : Nat) (h0 : 128 ≤ n) (h1 : n < 2048) : decR [192 + (n : Int) / 64, 128 + (n : Int) % 64] 0 (((192 + n / 64) : Nat) : Int) 192 128 1 = some ((n : Int), 2) := by
    unfold decR
    rw [tailR_good (c := 128 + (n : Int) % 64) rfl (by omega) (by omega)]
    simp only [tailR]
    rw [if_neg (by omega)]
    refine congrArg some (Prod.ext ?_ rfl)
    show (_ : Int) = (n : Int)
    omega

theorem val_of1 (n : Nat) (h0 : 128 ≤ n) (h1 : n < 2048) : valB [192 + (n : Int) / 64, 128 + (n : Int) % 64] = true := by
  unfold valB allB
  simp only [List.length_cons, List.length_nil, List.all_cons, List.all_nil, Bool.and_true, Bool.and_eq_true, decide_eq_true_eq]
  refine ⟨by omega, inB_true (by omega) (by omega), inB_true (by omega) (by omega)⟩

theorem iBack1 (n : Nat) (h0 : 128 ≤ n) (h1 : n < 2048) (ao : Option Addr) (cap : Nat) (w : World) (hf : HasForms w) (hi : Ints w ao 2 [192 + (n : Int) / 64, 128 + (n : Int) % 64]) (hlc : 2 ≤ cap) :
    Calls Tryd.prog 9 #[.slice ao 2 cap, .int .i64 0] w (Got (some ((n : Int), 2)) w) := by
  obtain ⟨b, off, rfl, _⟩ := hi.2.resolve_left (by simp)
  exact iDec1 [192 + (n : Int) / 64, 128 + (n : Int) % 64] b off 2 cap 0 (192 + n / 64) w hf hi hlc (val_of1 n h0 h1) (by omega) (by simp) (by omega) (by omega) _ (dec_of1 n h0 h1)

theorem dec_of2 (n : Nat) (h0 : 2048 ≤ n) (h1 : n < 65536) : decR [224 + (n : Int) / 4096, 128 + (n : Int) / 64 % 64, 128 + (n : Int) % 64] 0 (((224 + n / 4096) : Nat) : Int) 224 2048 2 = some ((n : Int), 3) := by
    unfold decR
    rw [tailR_good (c := 128 + (n : Int) / 64 % 64) rfl (by omega) (by omega)]
    rw [tailR_good (c := 128 + (n : Int) % 64) rfl (by omega) (by omega)]
    simp only [tailR]
    rw [if_neg (by omega)]
    refine congrArg some (Prod.ext ?_ rfl)
    show (_ : Int) = (n : Int)
    omega

theorem val_of2 (n : Nat) (h0 : 2048 ≤ n) (h1 : n < 65536) : valB [224 + (n : Int) / 4096, 128 + (n : Int) / 64 % 64, 128 + (n : Int) % 64] = true := by
  unfold valB allB
  simp only [List.length_cons, List.length_nil, List.all_cons, List.all_nil, Bool.and_true, Bool.and_eq_true, decide_eq_true_eq]
  refine ⟨by omega, inB_true (by omega) (by omega), inB_true (by omega) (by omega), inB_true (by omega) (by omega)⟩

theorem iBack2 (n : Nat) (h0 : 2048 ≤ n) (h1 : n < 65536) (ao : Option Addr) (cap : Nat) (w : World) (hf : HasForms w) (hi : Ints w ao 3 [224 + (n : Int) / 4096, 128 + (n : Int) / 64 % 64, 128 + (n : Int) % 64]) (hlc : 3 ≤ cap) :
    Calls Tryd.prog 9 #[.slice ao 3 cap, .int .i64 0] w (Got (some ((n : Int), 3)) w) := by
  obtain ⟨b, off, rfl, _⟩ := hi.2.resolve_left (by simp)
  exact iDec2 [224 + (n : Int) / 4096, 128 + (n : Int) / 64 % 64, 128 + (n : Int) % 64] b off 3 cap 0 (224 + n / 4096) w hf hi hlc (val_of2 n h0 h1) (by omega) (by simp) (by omega) (by omega) _ (dec_of2 n h0 h1)

theorem dec_of3 (n : Nat) (h0 : 65536 ≤ n) (h1 : n < 2097152) : decR [240 + (n : Int) / 262144, 128 + (n : Int) / 4096 % 64, 128 + (n : Int) / 64 % 64, 128 + (n : Int) % 64] 0 (((240 + n / 262144) : Nat) : Int) 240 65536 3 = some ((n : Int), 4) := by
    unfold decR
    rw [tailR_good (c := 128 + (n : Int) / 4096 % 64) rfl (by omega) (by omega)]
    rw [tailR_good (c := 128 + (n : Int) / 64 % 64) rfl (by omega) (by omega)]
    rw [tailR_good (c := 128 + (n : Int) % 64) rfl (by omega) (by omega)]
    simp only [tailR]
    rw [if_neg (by omega)]
    refine congrArg some (Prod.ext ?_ rfl)
    show (_ : Int) = (n : Int)
    omega

theorem val_of3 (n : Nat) (h0 : 65536 ≤ n) (h1 : n < 2097152) : valB [240 + (n : Int) / 262144, 128 + (n : Int) / 4096 % 64, 128 + (n : Int) / 64 % 64, 128 + (n : Int) % 64] = true := by
  unfold valB allB
  simp only [List.length_cons, List.length_nil, List.all_cons, List.all_nil, Bool.and_true, Bool.and_eq_true, decide_eq_true_eq]
  refine ⟨by omega, inB_true (by omega) (by omega), inB_true (by omega) (by omega), inB_true (by omega) (by omega), inB_true (by omega) (by omega)⟩

theorem iBack3 (n : Nat) (h0 : 65536 ≤ n) (h1 : n < 2097152) (ao : Option Addr) (cap : Nat) (w : World) (hf : HasForms w) (hi : Ints w ao 4 [240 + (n : Int) / 262144, 128 + (n : Int) / 4096 % 64, 128 + (n : Int) / 64 % 64, 128 + (n : Int) % 64]) (hlc : 4 ≤ cap) :
    Calls Tryd.prog 9 #[.slice ao 4 cap, .int .i64 0] w (Got (some ((n : Int), 4)) w) := by
  obtain ⟨b, off, rfl, _⟩ := hi.2.resolve_left (by simp)
  exact iDec3 [240 + (n : Int) / 262144, 128 + (n : Int) / 4096 % 64, 128 + (n : Int) / 64 % 64, 128 + (n : Int) % 64] b off 4 cap 0 (240 + n / 262144) w hf hi hlc (val_of3 n h0 h1) (by omega) (by simp) (by omega) (by omega) _ (dec_of3 n h0 h1)

theorem dec_of4 (n : Nat) (h0 : 2097152 ≤ n) (h1 : n < 67108864) : decR [248 + (n : Int) / 16777216, 128 + (n : Int) / 262144 % 64, 128 + (n : Int) / 4096 % 64, 128 + (n : Int) / 64 % 64, 128 + (n : Int) % 64] 0 (((248 + n / 16777216) : Nat) : Int) 248 2097152 4 = some ((n : Int), 5) := by
    unfold decR
    rw [tailR_good (c := 128 + (n : Int) / 262144 % 64) rfl (by omega) (by omega)]
    rw [tailR_good (c := 128 + (n : Int) / 4096 % 64) rfl (by omega) (by omega)]
    rw [tailR_good (c := 128 + (n : Int) / 64 % 64) rfl (by omega) (by omega)]
    rw [tailR_good (c := 128 + (n : Int) % 64) rfl (by omega) (by omega)]
    simp only [tailR]
    rw [if_neg (by omega)]
    refine congrArg some (Prod.ext ?_ rfl)
    show (_ : Int) = (n : Int)
    omega

theorem val_of4 (n : Nat) (h0 : 2097152 ≤ n) (h1 : n < 67108864) : valB [248 + (n : Int) / 16777216, 128 + (n : Int) / 262144 % 64, 128 + (n : Int) / 4096 % 64, 128 + (n : Int) / 64 % 64, 128 + (n : Int) % 64] = true := by
  unfold valB allB
  simp only [List.length_cons, List.length_nil, List.all_cons, List.all_nil, Bool.and_true, Bool.and_eq_true, decide_eq_true_eq]
  refine ⟨by omega, inB_true (by omega) (by omega), inB_true (by omega) (by omega), inB_true (by omega) (by omega), inB_true (by omega) (by omega), inB_true (by omega) (by omega)⟩

theorem iBack4 (n : Nat) (h0 : 2097152 ≤ n) (h1 : n < 67108864) (ao : Option Addr) (cap : Nat) (w : World) (hf : HasForms w) (hi : Ints w ao 5 [248 + (n : Int) / 16777216, 128 + (n : Int) / 262144 % 64, 128 + (n : Int) / 4096 % 64, 128 + (n : Int) / 64 % 64, 128 + (n : Int) % 64]) (hlc : 5 ≤ cap) :
    Calls Tryd.prog 9 #[.slice ao 5 cap, .int .i64 0] w (Got (some ((n : Int), 5)) w) := by
  obtain ⟨b, off, rfl, _⟩ := hi.2.resolve_left (by simp)
  exact iDec4 [248 + (n : Int) / 16777216, 128 + (n : Int) / 262144 % 64, 128 + (n : Int) / 4096 % 64, 128 + (n : Int) / 64 % 64, 128 + (n : Int) % 64] b off 5 cap 0 (248 + n / 16777216) w hf hi hlc (val_of4 n h0 h1) (by omega) (by simp) (by omega) (by omega) _ (dec_of4 n h0 h1)

theorem dec_of5 (n : Nat) (h0 : 67108864 ≤ n) (h1 : n < 2147483648) : decR [252 + (n : Int) / 1073741824, 128 + (n : Int) / 16777216 % 64, 128 + (n : Int) / 262144 % 64, 128 + (n : Int) / 4096 % 64, 128 + (n : Int) / 64 % 64, 128 + (n : Int) % 64] 0 (((252 + n / 1073741824) : Nat) : Int) 252 67108864 5 = some ((n : Int), 6) := by
    unfold decR
    rw [tailR_good (c := 128 + (n : Int) / 16777216 % 64) rfl (by omega) (by omega)]
    rw [tailR_good (c := 128 + (n : Int) / 262144 % 64) rfl (by omega) (by omega)]
    rw [tailR_good (c := 128 + (n : Int) / 4096 % 64) rfl (by omega) (by omega)]
    rw [tailR_good (c := 128 + (n : Int) / 64 % 64) rfl (by omega) (by omega)]
    rw [tailR_good (c := 128 + (n : Int) % 64) rfl (by omega) (by omega)]
    simp only [tailR]
    rw [if_neg (by omega)]
    refine congrArg some (Prod.ext ?_ rfl)
    show (_ : Int) = (n : Int)
    omega

theorem val_of5 (n : Nat) (h0 : 67108864 ≤ n) (h1 : n < 2147483648) : valB [252 + (n : Int) / 1073741824, 128 + (n : Int) / 16777216 % 64, 128 + (n : Int) / 262144 % 64, 128 + (n : Int) / 4096 % 64, 128 + (n : Int) / 64 % 64, 128 + (n : Int) % 64] = true := by
  unfold valB allB
  simp only [List.length_cons, List.length_nil, List.all_cons, List.all_nil, Bool.and_true, Bool.and_eq_true, decide_eq_true_eq]
  refine ⟨by omega, inB_true (by omega) (by omega), inB_true (by omega) (by omega), inB_true (by omega) (by omega), inB_true (by omega) (by omega), inB_true (by omega) (by omega), inB_true (by omega) (by omega)⟩

theorem iBack5 (n : Nat) (h0 : 67108864 ≤ n) (h1 : n < 2147483648) (ao : Option Addr) (cap : Nat) (w : World) (hf : HasForms w) (hi : Ints w ao 6 [252 + (n : Int) / 1073741824, 128 + (n : Int) / 16777216 % 64, 128 + (n : Int) / 262144 % 64, 128 + (n : Int) / 4096 % 64, 128 + (n : Int) / 64 % 64, 128 + (n : Int) % 64]) (hlc : 6 ≤ cap) :
    Calls Tryd.prog 9 #[.slice ao 6 cap, .int .i64 0] w (Got (some ((n : Int), 6)) w) := by
  obtain ⟨b, off, rfl, _⟩ := hi.2.resolve_left (by simp)
  exact iDec5 [252 + (n : Int) / 1073741824, 128 + (n : Int) / 16777216 % 64, 128 + (n : Int) / 262144 % 64, 128 + (n : Int) / 4096 % 64, 128 + (n : Int) / 64 % 64, 128 + (n : Int) % 64] b off 6 cap 0 (252 + n / 1073741824) w hf hi hlc (val_of5 n h0 h1) (by omega) (by simp) (by omega) (by omega) _ (dec_of5 n h0 h1)

/-- The number of bytes of a number. -/
def lenN (n : Int) : Nat := if n < 128 then 1 else if n < 2048 then 2 else if n < 65536 then 3 else if n < 2097152 then 4 else if n < 67108864 then 5 else 6
theorem lenN_le (n : Int) : 1 ≤ lenN n ∧ lenN n ≤ 6 := by unfold lenN; repeat' split
                                                          all_goals omega
theorem lenN_mono {n m : Int} (h : n ≤ m) : lenN n ≤ lenN m := by
  unfold lenN
  repeat' split
  all_goals omega
theorem enc_back (n : Int) (h0 : 0 ≤ n) (h1 : n ≤ 2147483647) : ∃ L : List Int, Hid (∀ w, HasForms w → Calls Tryd.prog 6 #[.int .i64 n] w (Made L (lenN n) w)) ∧ Hid (∀ w, Calls Tryd.prog 8 #[.int .i64 n] w (Made L (lenN n) w)) ∧
    Hid (∀ ao cap w, HasForms w → Ints w ao (lenN n) L → lenN n ≤ cap → Calls Tryd.prog 9 #[.slice ao (lenN n) cap, .int .i64 0] w (Got (some (n, lenN n)) w)) := by
  obtain ⟨m, rfl⟩ := Int.eq_ofNat_of_zero_le h0
  by_cases h0 : m < 128
  · have e : lenN (m : Int) = 1 := by unfold lenN; rw [if_pos (by omega)]
    rw [e]
    exact ⟨_, fun w hf => iEnc0 m w hf (by omega) h0, fun w => sEnc_in (by omega) (by omega) (sEnc0 m w (by omega) h0), fun ao cap w hf hi hlc => iBack0 m (by omega) h0 ao cap w hf hi hlc⟩
  by_cases h1 : m < 2048
  · have e : lenN (m : Int) = 2 := by unfold lenN; rw [if_neg (by omega)]; rw [if_pos (by omega)]
    rw [e]
    exact ⟨_, fun w hf => iEnc1 m w hf (by omega) h1, fun w => sEnc_in (by omega) (by omega) (sEnc1 m w (by omega) h1), fun ao cap w hf hi hlc => iBack1 m (by omega) h1 ao cap w hf hi hlc⟩
  by_cases h2 : m < 65536
  · have e : lenN (m : Int) = 3 := by unfold lenN; rw [if_neg (by omega)]; rw [if_neg (by omega)]; rw [if_pos (by omega)]
    rw [e]
    exact ⟨_, fun w hf => iEnc2 m w hf (by omega) h2, fun w => sEnc_in (by omega) (by omega) (sEnc2 m w (by omega) h2), fun ao cap w hf hi hlc => iBack2 m (by omega) h2 ao cap w hf hi hlc⟩
  by_cases h3 : m < 2097152
  · have e : lenN (m : Int) = 4 := by unfold lenN; rw [if_neg (by omega)]; rw [if_neg (by omega)]; rw [if_neg (by omega)]; rw [if_pos (by omega)]
    rw [e]
    exact ⟨_, fun w hf => iEnc3 m w hf (by omega) h3, fun w => sEnc_in (by omega) (by omega) (sEnc3 m w (by omega) h3), fun ao cap w hf hi hlc => iBack3 m (by omega) h3 ao cap w hf hi hlc⟩
  by_cases h4 : m < 67108864
  · have e : lenN (m : Int) = 5 := by unfold lenN; rw [if_neg (by omega)]; rw [if_neg (by omega)]; rw [if_neg (by omega)]; rw [if_neg (by omega)]; rw [if_pos (by omega)]
    rw [e]
    exact ⟨_, fun w hf => iEnc4 m w hf (by omega) h4, fun w => sEnc_in (by omega) (by omega) (sEnc4 m w (by omega) h4), fun ao cap w hf hi hlc => iBack4 m (by omega) h4 ao cap w hf hi hlc⟩
  by_cases h5 : m < 2147483648
  · have e : lenN (m : Int) = 6 := by unfold lenN; rw [if_neg (by omega)]; rw [if_neg (by omega)]; rw [if_neg (by omega)]; rw [if_neg (by omega)]; rw [if_neg (by omega)]
    rw [e]
    exact ⟨_, fun w hf => iEnc5 m w hf (by omega) h5, fun w => sEnc_in (by omega) (by omega) (sEnc5 m w (by omega) h5), fun ao cap w hf hi hlc => iBack5 m (by omega) h5 ao cap w hf hi hlc⟩
  exfalso; omega

set_option maxRecDepth 100000 in
set_option maxHeartbeats 2000000 in
theorem FnEncodeNumber_walk (ao : Option Addr) (len cap : Nat) (w : World) (hb : BytesAt w ao len) (hlc : len ≤ cap) (hmax : len ≤ 9223372036854775807) (hf : HasForms w) :
    Calls Tryd.prog 3 #[.slice ao len cap] w (Holds w) := by
  have hc := DrawEncodeNumber_any ao len cap w hb hlc hmax
  clear hb hlc hmax
  by_cases hlen : 1048576 < len
  · clear hc
    go_enter Tryd.func3, Tryd.ntmps3
    go_wp2
    go_ret
    exact ⟨rfl, grown_refl _ _⟩
  have hlen' : len ≤ 1048576 := by omega
  have HF := Lib.hid hf
  clear hlen hf
  go_enter Tryd.func3, Tryd.ntmps3
  go_wp2_with fail
  refine hc.mono ?_
  rintro e w1 ⟨n, rfl, hn0, hn1, hg1⟩
  clear hc
  have HG1 := Lib.hid hg1
  clear hg1
  by_cases hr : n < 0 ∨ 2147483647 < n
  · have HR := Lib.hid hr
    clear hr
    go_wp2_with fail
    refine (iEnc_out n _ HR.out).mono ?_
    rintro e w2 ⟨v2, rfl, ho2, hg2⟩
    obtain ⟨a2, c2, rfl, _, _, hx2, _⟩ := ho2.reads
    have HX2 := Lib.hid hx2
    have HG2 := Lib.hid (grown_trans HG1.out hg2)
    clear ho2 hg2 hx2
    go_wp2_with fail
    refine (sEnc_out n _ HR.out).mono ?_
    rintro e w3 ⟨v3, rfl, ho3, hg3⟩
    obtain ⟨a3, c3, rfl, _, _, hx3, _⟩ := ho3.reads
    have HX3 := Lib.hid hx3
    have HX23 := Lib.hid (HX2.out.grown hg3)
    have HG3 := Lib.hid (grown_trans HG2.out hg3)
    clear ho3 hg3 hx3
    go_wp2_with fail
    refine (equalInts_any [] [] a2 a3 0 c2 0 c3 true _ HX23.out HX3.out (by omega) (by simp)).mono ?_
    rintro e w4 ⟨rfl, hg4⟩
    have HX4 := Lib.hid (HX23.out.grown hg4)
    have HG4 := Lib.hid (grown_trans HG3.out hg4)
    clear hg4
    go_wp2_with fail
    refine (sEnc_out n _ HR.out).mono ?_
    rintro e w5 ⟨v5, rfl, ho5, hg5⟩
    obtain ⟨a5, c5, rfl, _, _, hx5, _⟩ := ho5.reads
    have HX5 := Lib.hid hx5
    have HX25 := Lib.hid (HX4.out.grown hg5)
    have HG5 := Lib.hid (grown_trans HG4.out hg5)
    clear ho5 hg5 hx5
    go_wp2_with fail
    refine (equalInts_any [] [] a2 a5 0 c2 0 c5 true _ HX25.out HX5.out (by omega) (by simp)).mono ?_
    rintro e w6 ⟨rfl, hg6⟩
    have HG6 := Lib.hid (grown_trans HG5.out hg6)
    clear hg6
    go_wp2
    go_ret
    exact ⟨rfl, HG6.out⟩
  have hn0' : 0 ≤ n := by omega
  have hn1' : n ≤ 2147483647 := by omega
  obtain ⟨L, HI, HS, HD⟩ := enc_back n hn0' hn1'
  obtain ⟨k, hk⟩ : ∃ k, lenN n = k := ⟨_, rfl⟩
  have hk1 : 1 ≤ k := by have := (lenN_le n).1; omega
  have hk6 : k ≤ 6 := by have := (lenN_le n).2; omega
  obtain ⟨m, hm⟩ : ∃ m, min (2 * n + 1) 2147483647 = m := ⟨_, rfl⟩
  have hm0 : 0 ≤ m := by omega
  have hm1 : m ≤ 2147483647 := by omega
  obtain ⟨k2, hk2⟩ : ∃ k2, lenN m = k2 := ⟨_, rfl⟩
  have hkk : k ≤ k2 := by have := lenN_mono (show n ≤ m by omega); omega
  have hk26 : k2 ≤ 6 := by have := (lenN_le m).2; omega
  obtain ⟨L2, HI2, _, _⟩ := enc_back m hm0 hm1
  rw [hk] at HI HS HD
  rw [hk2] at HI2
  have HMN := Lib.hid hm
  clear hr hn0 hn1 hk hk2 hm
  go_wp2_with fail
  refine (HI.out _ (HF.out.grown HG1.out)).mono ?_
  rintro e w2 ⟨v2, rfl, ho2, hg2⟩
  obtain ⟨a2, c2, rfl, hlc2, _, hx2, _⟩ := ho2.reads
  have HX2 := Lib.hid hx2
  have HG2 := Lib.hid (grown_trans HG1.out hg2)
  clear ho2 hg2 hx2
  go_wp2_with fail
  refine (HS.out _).mono ?_
  rintro e w3 ⟨v3, rfl, ho3, hg3⟩
  obtain ⟨a3, c3, rfl, _, _, hx3, _⟩ := ho3.reads
  have HX3 := Lib.hid hx3
  have HX23 := Lib.hid (HX2.out.grown hg3)
  have HG3 := Lib.hid (grown_trans HG2.out hg3)
  clear ho3 hg3 hx3
  go_wp2_with fail
  refine (equalInts_any L L a2 a3 k c2 k c3 true _ HX23.out HX3.out (by omega) (by simp)).mono ?_
  rintro e w4 ⟨rfl, hg4⟩
  have HX4 := Lib.hid (HX23.out.grown hg4)
  have HG4 := Lib.hid (grown_trans HG3.out hg4)
  clear hg4
  have hd : ((k : Int) == 0) = false := by simp; omega
  go_wp2_with fail
  refine (HD.out a2 c2 _ (HF.out.grown HG4.out) HX4.out hlc2).mono ?_
  rintro e w5 ⟨rfl, hg5⟩
  have HG5 := Lib.hid (grown_trans HG4.out hg5)
  clear hg5
  by_cases hq : 2 * n + 1 ≤ 2147483647
  all_goals
    first
    | (have hmm : m = 2 * n + 1 := by have := HMN.out; omega)
    | (have hmm : m = 2147483647 := by have := HMN.out; omega)
    subst hmm
    have hq' : 2 * n + 1 ≤ 2147483647 ∨ 2147483647 < 2 * n + 1 := by omega
    have HQ := Lib.hid hq'
    clear HMN hq'
    go_wp2_with fail
    refine (HI2.out _ (HF.out.grown HG5.out)).mono ?_
    rintro e w6 ⟨v6, rfl, ho6, hg6⟩
    obtain ⟨a6, c6, rfl, _⟩ := ho6.reads
    have HG6 := Lib.hid (grown_trans HG5.out hg6)
    clear ho6 hg6
    have hkz : decide ((k : Int) ≤ (k2 : Int)) = true := by simp; omega
    have hkz2 : decide (k ≤ k2) = true := by simp; omega
    have hk6z : decide ((k : Int) ≤ 6) = true := by simp; omega
    go_wp2
    go_ret
    exact ⟨rfl, HG6.out⟩

end Go.Proofs.YtfncgegglpigkaaDoor
