/-
  The walks of the laws on the length of Rice codes and on Rice codes put: they return true and write nothing that was there. For every code.
-/
import Derived.Test.YtdbneenlejgjcaaDoorLawUna
import Derived.Test.YtdbneenlejgjcaaDoorSRic
import Derived.Test.YtdbneenlejgjcaaDoorGRic
namespace Go.Proofs.YtdbneenlejgjcaaDoor
open Go.RowKit

theorem uz_Zz {x : Int} (h : 0 ≤ Zz x) : uz (Zz x) = x := by
  have h2 := Zz_neg_iff x
  have h3 : -4194303 ≤ x ∧ x ≤ 4194303 := by omega
  by_cases hx : x < 0
  · rw [Zz_neg h3.1 hx, uz_odd (by omega)]; omega
  · rw [Zz_pos (by omega) h3.2, uz_even (by omega)]; omega
theorem OneAt_app {us t : List Bool} {i k : Nat} (h : OneAt us i k) : OneAt (us ++ t) i k := by
  have hc : ∀ j, j < us.length → cb (us ++ t) j = cb us j := fun j hj => by
    unfold cb; rw [List.getD_eq_getElem?_getD, List.getD_eq_getElem?_getD, List.getElem?_append_left hj]
  have h2 := h.2.1
  exact ⟨h.1, by rw [List.length_append]; omega, by rw [hc _ h2]; exact h.2.2.1, fun j hj => by rw [hc _ (by omega)]; exact h.2.2.2 j hj⟩
theorem cb_back2 (bs : List Bool) {v wd k : Nat} (h : k < wd) : cb (bs ++ numB v wd) (bs.length + k) = ((v / 2 ^ (wd - 1 - k) % 2 : Nat) : Int) := by
  unfold cb
  rw [List.getD_eq_getElem?_getD, List.getElem?_append_right (by omega), show bs.length + k - bs.length = k by omega, numB_get h]
  simp only [Option.getD_some, decide_eq_true_eq]
  split <;> omega
theorem numV_back3 (bs : List Bool) (v wd : Nat) (hv : v < 2 ^ wd) : ∀ k, k ≤ wd → numV (bs ++ numB v wd) bs.length k = ((v / 2 ^ (wd - k) : Nat) : Int) := by
  intro k
  induction k with
  | zero => intro _; rw [Nat.sub_zero, Nat.div_eq_of_lt hv]; rfl
  | succ k ih =>
    intro hk
    simp only [numV]
    rw [ih (by omega), cb_back2 bs (by omega), show wd - k = (wd - 1 - k) + 1 by omega, show wd - (k + 1) = wd - 1 - k by omega, Nat.pow_succ, ← Nat.div_div_eq_div_mul]
    omega
/-- What a Rice code gives when it is read. -/
theorem ric_back (bs : List Bool) (n k : Nat) (hq : n / 2 ^ k ≤ 500) : OneAt (bs ++ ric n k) bs.length (n / 2 ^ k) ∧ ((n / 2 ^ k : Nat) : Int) * 2 ^ k + numV (bs ++ ric n k) (bs.length + n / 2 ^ k + 1) k = (n : Int) := by
  have e : bs ++ ric n k = (bs ++ una (n / 2 ^ k)) ++ numB n k := by unfold ric; rw [List.append_assoc]
  refine ⟨by rw [e]; exact OneAt_app (una_one bs _ hq), ?_⟩
  have h := numV_back3 (bs ++ una (n / 2 ^ k)) (n % 2 ^ k) k (Nat.mod_lt _ (Nat.two_pow_pos k)) k (Nat.le_refl _)
  rw [numB_mod, Nat.sub_self, Nat.pow_zero, Nat.div_one, ← e, List.length_append, una_len, ← Nat.add_assoc] at h
  rw [h]
  have h2 := Nat.div_add_mod n (2 ^ k)
  have h3 : ((n / 2 ^ k : Nat) : Int) * 2 ^ k + ((n % 2 ^ k : Nat) : Int) = ((2 ^ k * (n / 2 ^ k) + n % 2 ^ k : Nat) : Int) := by
    rw [Int.natCast_add, Int.natCast_mul, Int.mul_comm]; simp
  rw [h3, h2]

theorem iGric_eq (bs : List Bool) (xs : List Int) (c a z : Int) (at_ k q : Nat) (x p : Int) (ao : Option Addr) (len cap : Nat) (w : World) (hx : Ints w ao len xs) (hlen : len ≤ 4194304) (hxs : xs = pk bs) (hc : c = (bs.length : Int)) (ha : a = (at_ : Int)) (hz : z = (k : Int)) (hb : bs.length ≤ 16384) (hk : k ≤ 14) (hq : OneAt bs at_ q) (hl : at_ + q + 1 + k ≤ bs.length) (hE : ErrsG w) (hxe : uz ((q : Int) * 2 ^ k + numV bs (at_ + q + 1) k) = x) (hp : ((at_ + q + 1 + k : Nat) : Int) = p) :
    Calls Tryd.prog 26 #[.agg #[.slice ao len cap, .int .i64 c], .int .i64 a, .int .i64 z] w (GotNNB x p true w) := by
  obtain ⟨n, p', ok, hS, hI, _, hA⟩ := gric_both xs c a z len hlen
  obtain ⟨h1, h2, h3⟩ := hA.out bs at_ k q hxs hc ha hz hb hk hq hl
  subst h1 h2 h3 hxe hp
  exact hI.out ao cap w hx hE

theorem Rl_le2' (x z : Int) : -1 ≤ Rl x z ∧ Rl x z ≤ 515 := by
  cases hv : Vr x z with
  | false => rw [Vr_no1 hv]; omega
  | true =>
    obtain ⟨k, n, rfl, hk, hn, hq⟩ := Vr_in hv
    rw [Rl_good hn rfl hk hq]
    generalize n / 2 ^ k = q at *
    omega
/-- All of nothing put: a code of a length, or none and -1. -/
theorem ric_len_both (x z : Int) : ∃ o : Option (List Bool),
    Hid (∀ (w : World), ErrsU w → Calls Tryd.prog 15 #[.agg #[.slice none 0 0, .int .i64 0], .int .i64 x, .int .i64 z] w (GaveU o w)) ∧
    Hid ((o = none → Rl x z = -1) ∧ ∀ rs, o = some rs → Rl x z = (rs.length : Int) ∧ rs.length ≤ 16384) := by
  obtain ⟨o, ho, hS, hI, hC, hN⟩ := ric_both [] 0 x z 0 (by omega)
  refine ⟨o, fun w hE => hI.out none 0 w ⟨rfl, Or.inl rfl⟩ (fun _ => rfl) hE, ?_, ?_⟩
  · intro hno
    cases hv : Vr x z with
    | false => exact Vr_no1 hv
    | true =>
      exfalso
      obtain ⟨k, n, rfl, hk, hn, hq⟩ := Vr_in hv
      refine hN.out [] rfl rfl hv ?_ hno
      rw [Rl_good hn rfl hk hq]
      obtain ⟨q, hqe⟩ : ∃ q, n / 2 ^ k = q := ⟨_, rfl⟩
      rw [hqe] at hq ⊢
      simp only [List.length_nil]; omega
  · intro rs hrs
    refine ⟨?_, ho rs hrs⟩
    obtain ⟨bs, n, k, h1, h2, rfl, hk, hn, hq, hr, rfl⟩ := hC.out rs hrs
    have hb : bs = [] := by
      apply List.length_eq_zero_iff.1; omega
    subst hb
    rw [Rl_good hn rfl hk hq, List.nil_append, ric_len]
    generalize n / 2 ^ k = q
    omega

set_option maxRecDepth 100000 in
set_option maxHeartbeats 4000000 in
theorem FnRiceLength_walk (ao : Option Addr) (len cap : Nat) (w : World) (hb : BytesAt w ao len) (hlc : len ≤ cap) (hmax : len ≤ 9223372036854775807) (hE : ErrsU w) :
    Calls Tryd.prog 3 #[.slice ao len cap] w (Holds w) := by
  have hc := DrawRiceLength_any ao len cap w hb hlc hmax
  clear hb hlc
  by_cases hlen : 1048576 < len
  · clear hc hE
    go_enter Tryd.func3, Tryd.ntmps3
    go_wp2
    go_ret
    exact ⟨rfl, grown_refl _ _⟩
  have HE := Lib.hid hE
  clear hE
  go_enter Tryd.func3, Tryd.ntmps3
  go_wp2_with fail
  refine hc.mono ?_
  rintro e w1 ⟨n, k, rfl, _, _, _, _, hg⟩
  clear hc hlen hmax
  have HG := Lib.hid hg
  clear hg
  have c1 := iRiceLength n k (Rl n k) w1 rfl
  have c2 := sRiceLength n k (Rl n k) w1 rfl
  have hy := Rl_le2' n k
  obtain ⟨o, hI, hO⟩ := ric_len_both n k
  have HO := Lib.hid (And.intro hO.out trivial)
  clear hO
  obtain ⟨y, hye⟩ : ∃ y, Rl n k = y := ⟨_, rfl⟩
  rw [hye] at c1 c2 hy
  have hy0 := hy.1
  have hy1 := hy.2
  have HY := Lib.hid hye
  clear hye hy
  go_wp2_with fail
  refine c1.mono ?_
  rintro e w' ⟨rfl, rfl⟩
  clear c1
  go_wp2_with fail
  refine c2.mono ?_
  rintro e w' ⟨rfl, rfl⟩
  clear c2
  go_wp2_with fail
  refine (hI.out _ (HE.out.grown HG.out)).mono ?_
  cases o with
  | none =>
    rintro e w2 ⟨rfl, hg2⟩
    have HM := Lib.hid (((Mem.start w1).grown hg2).block (.cells #[.slice none 0 0, .int .i64 0] 28))
    have hy2 : y = -1 := by have := HO.out.1.1 rfl; have := HY.out; omega
    subst hy2
    have q0 := (two_cells (HM.out.get (b := w2.heap.size) (o := .cells #[.slice none 0 0, .int .i64 0] 28) (by simp))).1
    have q1 := (two_cells (HM.out.get (b := w2.heap.size) (o := .cells #[.slice none 0 0, .int .i64 0] 28) (by simp))).2
    clear hg2
    go_wp2
    go_ret
    exact ⟨rfl, grown_trans HG.out HM.out.g⟩
  | some rs =>
    rintro e w2 ⟨v2, rfl, ho2, hg2⟩
    obtain ⟨m, hm⟩ : ∃ m, rs.length = m := ⟨_, rfl⟩
    obtain ⟨nb, hn⟩ : ∃ nb, (m + 7) / 8 = nb := ⟨_, rfl⟩
    rw [hm]
    rw [hm, hn] at ho2
    obtain ⟨p2, c2, rfl, _, _, _, _⟩ := ho2.reads
    have hy2 : y = (m : Int) := by have := (HO.out.1.2 rs rfl).1; have := HY.out; omega
    subst hy2
    have HM := Lib.hid (((Mem.start w1).grown hg2).block (.cells #[.slice p2 nb c2, .int .i64 (m : Int)] 28))
    have q0 := (two_cells (HM.out.get (b := w2.heap.size) (o := .cells #[.slice p2 nb c2, .int .i64 (m : Int)] 28) (by simp))).1
    have q1 := (two_cells (HM.out.get (b := w2.heap.size) (o := .cells #[.slice p2 nb c2, .int .i64 (m : Int)] 28) (by simp))).2
    have hd : decide ((0 : Int) ≤ (m : Int)) = true := by simp
    have hmm : ((m : Int) == (m : Int)) = true := by simp
    clear hg2 ho2 hm hn
    go_wp2
    go_ret
    exact ⟨rfl, grown_trans HG.out HM.out.g⟩

end Go.Proofs.YtdbneenlejgjcaaDoor
