/-
  Marks laid in all rows of a list of lists, and read again: the contracts of markIntSS and heldIntSS. No condition.
-/
import Derived.Test.YtncbgofcimghnaaMatA
import Derived.Test.YtncbgofcimghnaaMatAp
namespace Go.Proofs.Ytncbgofcimghnaa
open Go.RowKit

/-- The marks that lie in all rows, from k on. -/
def mrk (k : Int) : List (List Int) → List (List Int)
  | [] => []
  | xs :: r => marks k xs.length :: mrk (k + (xs.length : Int)) r
theorem mrk_len (k : Int) (xss : List (List Int)) : (mrk k xss).length = xss.length := by
  induction xss generalizing k with
  | nil => rfl
  | cons xs r ih => simp [mrk, ih]
theorem mrk_app (k : Int) (a b : List (List Int)) : mrk k (a ++ b) = mrk k a ++ mrk (k + ((a.map List.length).sum : Nat)) b := by
  induction a generalizing k with
  | nil => simp [mrk]
  | cons y r ih =>
    simp only [List.cons_append, mrk, ih, List.map_cons, List.sum_cons]
    rw [show k + (y.length : Int) + ((r.map List.length).sum : Nat) = k + ((y.length + (r.map List.length).sum : Nat) : Int) by omega]
theorem mrk_add (k : Int) (a : List (List Int)) (xs : List Int) : mrk k (a ++ [xs]) = mrk k a ++ [marks (k + ((a.map List.length).sum : Nat)) xs.length] := mrk_app k a [xs]
/-- The first i rows are marked. -/
def mkd (k : Int) (xss : List (List Int)) (i : Nat) : List (List Int) := mrk k (xss.take i) ++ xss.drop i
theorem mkd_zero (k : Int) (xss : List (List Int)) : mkd k xss 0 = xss := by simp [mkd, mrk]
theorem mkd_full {k : Int} {xss : List (List Int)} {n : Nat} (h : xss.length = n) : mkd k xss n = mrk k xss := by
  unfold mkd
  rw [List.take_of_length_le (by omega), List.drop_of_length_le (by omega), List.append_nil]
theorem take_one {xss : List (List Int)} {i : Nat} {xs : List Int} (h : xss[i]? = some xs) : xss.take (i + 1) = xss.take i ++ [xs] := by
  rw [List.take_add_one, h]; rfl
theorem drop_one {xss : List (List Int)} {i : Nat} {xs : List Int} (h : xss[i]? = some xs) : xss.drop i = xs :: xss.drop (i + 1) := by
  obtain ⟨hl, e⟩ := List.getElem?_eq_some_iff.1 h
  rw [List.drop_eq_getElem_cons hl, e]
theorem mkd_get {k : Int} {xss : List (List Int)} {i : Nat} {xs : List Int} (h : xss[i]? = some xs) : (mkd k xss i)[i]? = some xs := by
  have hl := (List.getElem?_eq_some_iff.1 h).1
  have e : (mrk k (xss.take i)).length = i := by rw [mrk_len, List.length_take]; omega
  unfold mkd
  rw [List.getElem?_append_right (by omega), e, Nat.sub_self, drop_one h]; rfl
theorem mkd_set {k : Int} {xss : List (List Int)} {i : Nat} {xs : List Int} (h : xss[i]? = some xs) : (mkd k xss i).set i (marks (k + (((xss.take i).map List.length).sum : Nat)) xs.length) = mkd k xss (i + 1) := by
  have hl := (List.getElem?_eq_some_iff.1 h).1
  have e : (mrk k (xss.take i)).length = i := by rw [mrk_len, List.length_take]; omega
  unfold mkd
  rw [List.set_append_right _ _ (by omega), e, Nat.sub_self, drop_one h, List.set_cons_zero, take_one h, mrk_add, List.append_assoc]; rfl

/-- As MOwn, and every block lies below hi. -/
def MWin (w : World) (lo hi : Nat) (v : Value) (n : Nat) (xss : List (List Int)) : Prop :=
  xss.length = n ∧ ∃ vs : List Value, w.ownsRow lo 39 1 v n vs ∧ (∀ (k : Nat) (u : Value) (xs : List Int), vs[k]? = some u → xss[k]? = some xs → Owns w lo u xs.length xs ∧ ∀ g, u.ownBlock = some g → g < hi) ∧ vs.Pairwise Apart ∧ ∀ g, v.ownBlock = some g → g < hi
theorem MOwn.win {w : World} {base n : Nat} {v : Value} {xss : List (List Int)} (h : MOwn w base v n xss) : MWin w base w.heap.size v n xss := by
  obtain ⟨hl, vs, h1, h2, h3⟩ := h
  exact ⟨hl, vs, h1, fun k u xs hu hx => ⟨h2 k u xs hu hx, fun g hg => (World.ownsRow.lt (h2 k u xs hu hx) g hg).2⟩, h3, fun g hg => (World.ownsRow.lt h1 g hg).2⟩
theorem MWin.own {w : World} {lo hi n : Nat} {v : Value} {xss : List (List Int)} (h : MWin w lo hi v n xss) : MOwn w lo v n xss := by
  obtain ⟨hl, vs, h1, h2, h3, _⟩ := h
  exact ⟨hl, vs, h1, fun k u xs hu hx => (h2 k u xs hu hx).1, h3⟩
theorem MWin.kept {w w' : World} {lo hi n : Nat} {v : Value} {xss : List (List Int)} {row : Option Nat} (h : MWin w lo hi v n xss) (hg : w.grownBy w' row) (hr : ∀ r, row = some r → r < lo ∨ hi ≤ r) : MWin w' lo hi v n xss := by
  obtain ⟨hl, vs, h1, h2, h3, h4⟩ := h
  have far : ∀ (o : Option Nat), (∀ k, o = some k → lo ≤ k ∧ k < hi) → (o = none ∨ o ≠ row) := fun o ho => by
    cases o with
    | none => exact Or.inl rfl
    | some k =>
      right
      intro e
      have h5 := ho k rfl
      rcases hr k e.symm with h | h <;> omega
  exact ⟨hl, vs, World.ownsRow.kept h1 hg (far _ (fun k e => ⟨(World.ownsRow.lt h1 k e).1, h4 k e⟩)), fun k u xs hu hx => ⟨(h2 k u xs hu hx).1.kept hg (far _ (fun g e => ⟨(h2 k u xs hu hx).1.block g e, (h2 k u xs hu hx).2 g e⟩)), (h2 k u xs hu hx).2⟩, h3, h4⟩
theorem MWin.grown {w w' : World} {lo hi n : Nat} {v : Value} {xss : List (List Int)} (h : MWin w lo hi v n xss) (hg : w.grownBy w' none) : MWin w' lo hi v n xss := h.kept hg (fun r e => by cases e)
theorem MWin.row {w : World} {lo hi n i : Nat} {v : Value} {xss : List (List Int)} {xs : List Int} (h : MWin w lo hi v n xss) (hx : xss[i]? = some xs) :
    ∃ M c u, v = .slice (some ⟨M, 0, none⟩) n c ∧ w.cell? ⟨M, i, none⟩ = some u ∧ Owns w lo u xs.length xs ∧ (∀ g, u.ownBlock = some g → lo ≤ g ∧ g < hi) ∧
      ∀ (w' : World) (ys : List Int), Owns w' lo u xs.length ys → w.grownBy w' u.ownBlock → MWin w' lo hi v n (xss.set i ys) := by
  obtain ⟨hl, vs, h1, h2, h3, h4⟩ := h
  have hin : i < n := by have := (List.getElem?_eq_some_iff.1 hx).1; omega
  have hvl : vs.length = n := by have := h1.1; simpa using this
  rcases h1.2 with ⟨e, e0⟩ | ⟨M, c, cur, rfl, hM, hh, hnc, hcm, hsz, htake⟩
  · omega
  have hu : vs[i]? = some vs[i] := List.getElem?_eq_getElem (by omega)
  obtain ⟨hrow, hrh⟩ := h2 i _ xs hu hx
  obtain ⟨u, hue⟩ : ∃ u, vs[i] = u := ⟨_, rfl⟩
  rw [hue] at hu hrow hrh
  have hmu := type_not hrow h1
  refine ⟨M, c, u, rfl, by rw [World.ownsRow.cellAt h1 i (by omega), hu], hrow, fun g hg => ⟨hrow.block g hg, hrh g hg⟩, ?_⟩
  intro w' ys ho hg
  refine ⟨by simp [hl], vs, World.ownsRow.kept h1 hg ?_, ?_, h3, h4⟩
  · right
    intro e
    exact hmu e.symm
  · intro j z zs hz hzs
    by_cases hji : j = i
    · subst hji
      rw [hu] at hz
      injection hz with hz
      subst hz
      rw [List.getElem?_set_self (by omega)] at hzs
      injection hzs with hzs
      subst hzs
      exact ⟨by rw [ho.len_eq]; exact ho, hrh⟩
    · rw [List.getElem?_set_ne (by omega)] at hzs
      have hz2 := h2 j z zs hz hzs
      refine ⟨hz2.1.kept hg ?_, hz2.2⟩
      have hjl : j < vs.length := (List.getElem?_eq_some_iff.1 hz).1
      rw [List.getElem?_eq_getElem hjl] at hz
      injection hz with hz
      have hap : Apart z u ∨ Apart u z := by
        rw [List.pairwise_iff_getElem] at h3
        rcases Nat.lt_or_gt_of_ne hji with h | h
        · left; have := h3 j i hjl (by omega) h; rw [hz, hue] at this; exact this
        · right; have := h3 i j (by omega) hjl h; rw [hz, hue] at this; exact this
      rcases hap with h | h
      · exact h
      · rcases h with h | h
        · rw [h]
          cases hzo : z.ownBlock with
          | none => exact Or.inl rfl
          | some g => exact Or.inr (by simp)
        · exact Or.inr (fun e => h e.symm)

/-- Steps that write blocks from lo to hi alone. -/
inductive Stp (lo hi : Nat) (w : World) : World → Prop
  | refl : Stp lo hi w w
  | step {w1 w2 : World} {row : Option Nat} : Stp lo hi w w1 → w1.grownBy w2 row → (∀ r, row = some r → lo ≤ r ∧ r < hi) → Stp lo hi w w2
theorem Stp.keep {lo hi : Nat} {w w' : World} (h : Stp lo hi w w') (P : World → Prop) (hP : ∀ (w1 w2 : World) (row : Option Nat), P w1 → w1.grownBy w2 row → (∀ r, row = some r → lo ≤ r ∧ r < hi) → P w2) (h0 : P w) : P w' := by
  induction h with
  | refl => exact h0
  | step _ hg hr ih => exact hP _ _ _ ih hg hr
theorem Stp.win {lo hi lo' hi' n : Nat} {w w' : World} {v : Value} {xss : List (List Int)} (h : Stp lo hi w w') (hd : hi ≤ lo' ∨ hi' ≤ lo) (hm : MWin w lo' hi' v n xss) : MWin w' lo' hi' v n xss :=
  h.keep (fun x => MWin x lo' hi' v n xss) (fun w1 w2 row hp hg hr => hp.kept hg (fun r e => by have := hr r e; omega)) hm
theorem Stp.heap {lo hi b : Nat} {w w' : World} {o : Obj} (h : Stp lo hi w w') (hd : b < lo ∨ hi ≤ b) (hb : w.heap[b]? = some o) : w'.heap[b]? = some o :=
  h.keep (fun x => x.heap[b]? = some o) (fun w1 w2 row hp hg hr => grown_heap hg hp (fun e => by have := hr b e; omega)) hb
theorem mrk_get {k : Int} {xss : List (List Int)} {i : Nat} {xs : List Int} (h : xss[i]? = some xs) : (mrk k xss)[i]? = some (marks (k + (((xss.take i).map List.length).sum : Nat)) xs.length) := by
  have hl := (List.getElem?_eq_some_iff.1 h).1
  have e : (mrk k (xss.take i)).length = i := by rw [mrk_len, List.length_take]; omega
  have e2 : mrk k xss = mrk k (xss.take i ++ xss.drop i) := by rw [List.take_append_drop]
  rw [e2, mrk_app, List.getElem?_append_right (by omega), e, Nat.sub_self, drop_one h]; rfl

set_option maxRecDepth 100000 in
set_option maxHeartbeats 1000000 in
theorem markIntSS_any (xss : List (List Int)) (v : Value) (lo hi n : Nat) (k : Int) (w : World) (hx : MWin w lo hi v n xss) (hs : szL xss ≤ 1048576) (hk0 : 0 ≤ k) (hk1 : k ≤ 1048576) :
    Calls Try.prog 64 #[v, .int .i64 k] w fun e w' => e = .returned (.int .i64 (k + ((xss.map List.length).sum : Nat))) ∧ (MWin w' lo hi v n (mrk k xss) ∧ Stp lo hi w w') := by
  obtain ⟨ao, cap, rfl, hnc, hnil, hmat, hbl⟩ := hx.own.reads
  have hlen : n ≤ 1048576 := by have := hmat.1; unfold szL at hs; omega
  have HX := Lib.hid hx
  have HL := Lib.hid hmat.1
  have HZ := Lib.hid hs
  clear hx hs hnc hnil hmat hbl
  go_enter Try.func64, Try.ntmps64
  go_wp2
  go_loopw [1, 5] (fun m i wr => ∃ j s : Nat, j ≤ n ∧ i = .int .i64 j ∧ m = .int .i64 (k + (s : Int)) ∧ Hid (s = ((xss.take j).map List.length).sum) ∧ Hid (MWin wr lo hi (.slice ao n cap) n (mkd k xss j) ∧ Stp lo hi w wr)) (fun _ i _ => n - (intOf i).toNat)
  case atStart => exact ⟨0, 0, Nat.zero_le _, rfl, by simp, by show _ = _; simp, by rw [mkd_zero]; exact HX.out, Stp.refl⟩
  case round =>
    obtain ⟨j, s, hj, rfl, rfl, HS, HW⟩ := hrel
    by_cases hlt : j < n
    · obtain ⟨xs, hxj⟩ : ∃ xs, xss[j]? = some xs := ⟨_, List.getElem?_eq_getElem (by rw [HL.out]; exact hlt)⟩
      obtain ⟨M, c, u, hv, hcell, ho, hub, hnext⟩ := HW.out.1.row (mkd_get hxj)
      obtain ⟨a, c2, rfl, _⟩ := ho.reads
      injection hv with hv1 hv2 hv3
      subst hv1 hv3
      have hsum := szsum_take hxj
      have hsl : s + xs.length ≤ 1048576 := by
        have h1 := szsum_le xss (j + 1)
        have h2 := HZ.out
        have h3 := HS.out
        unfold szL at h2; omega
      have HK := Lib.hid hxj
      have HSM := Lib.hid hsum
      have HN := Lib.hid hnext
      have HUB := Lib.hid hub
      have HO := Lib.hid ho
      clear hxj hsum hnext hub ho
      go_wp2_with fail
      refine (markIntS_any xs (.slice a xs.length c2) lo xs.length (k + (s : Int)) wr HO.out (by omega) (by omega) (by omega)).mono ?_
      rintro e w2 ⟨rfl, ho2, hg2⟩
      have R : Hid (MWin w2 lo hi (.slice (some ⟨M, 0, none⟩) n cap) n (mkd k xss (j + 1)) ∧ Stp lo hi w w2) := by
        refine ⟨?_, HW.out.2.step hg2 HUB.out⟩
        have h := HN.out w2 _ ho2 hg2
        rw [HS.out, mkd_set HK.out] at h
        exact h
      have HS2 : Hid (s + xs.length = ((xss.take (j + 1)).map List.length).sum) := by show _ = _; rw [HSM.out, ← HS.out]
      clear ho2 hg2 hcell
      go_wp2
      go_roundw
      case rel => exact ⟨j + 1, s + xs.length, by omega, by go_num, by go_num, HS2, R⟩
      case measure => simp [intOf]; omega
    · obtain rfl : j = n := by omega
      have R : Hid ((s = (xss.map List.length).sum) ∧ MWin wr lo hi (.slice ao j cap) j (mrk k xss) ∧ Stp lo hi w wr) := by
        refine ⟨?_, ?_, HW.out.2⟩
        · have := HS.out
          rwa [List.take_of_length_le (by rw [HL.out]; exact Nat.le_refl _)] at this
        · have := HW.out.1
          rwa [mkd_full HL.out] at this
      go_wp2
      go_ret
      exact ⟨ret_int (by rw [R.out.1]), R.out.2⟩

set_option maxRecDepth 100000 in
set_option maxHeartbeats 1000000 in
theorem heldIntSS_any (xss : List (List Int)) (ao : Option Addr) (len cap : Nat) (k : Int) (w : World) (hx : Mat w ao len (mrk k xss)) (hs : szL xss ≤ 1048576) (hk0 : 0 ≤ k) (hk1 : k ≤ 1048576) :
    Calls Try.prog 65 #[.slice ao len cap, .int .i64 k] w fun e w' => e = .returned (.int .i64 (k + ((xss.map List.length).sum : Nat))) ∧ w = w' := by
  have hl : xss.length = len := by rw [← mrk_len k]; exact hx.1
  have hlen : len ≤ 1048576 := by unfold szL at hs; omega
  have HX := Lib.hid hx
  have HL := Lib.hid hl
  have HZ := Lib.hid hs
  clear hx hs hl
  go_enter Try.func65, Try.ntmps65
  go_wp2
  go_loopw [1, 5] (fun m i wr => ∃ j s : Nat, j ≤ len ∧ i = .int .i64 j ∧ m = .int .i64 (k + (s : Int)) ∧ Hid (s = ((xss.take j).map List.length).sum) ∧ Hid (w = wr)) (fun _ i _ => len - (intOf i).toNat)
  case atStart => exact ⟨0, 0, Nat.zero_le _, rfl, by simp, by show _ = _; simp, rfl⟩
  case round =>
    obtain ⟨j, s, hj, rfl, rfl, HS, HW⟩ := hrel
    obtain rfl := HW.out
    by_cases hlt : j < len
    · obtain ⟨xs, hxj⟩ : ∃ xs, xss[j]? = some xs := ⟨_, List.getElem?_eq_getElem (by rw [HL.out]; exact hlt)⟩
      have hg := mrk_get (k := k) hxj
      rw [← HS.out] at hg
      obtain ⟨b, off, rfl, hc⟩ := HX.out.2.resolve_left (by intro e; rw [e] at hg; simp at hg)
      obtain ⟨u, hu, a, c, rfl, hi2, hlc, hcm, hnil⟩ := hc j _ hg
      rw [marks_len] at hu hi2
      have hsum := szsum_take hxj
      have hsl : s + xs.length ≤ 1048576 := by
        have h1 := szsum_le xss (j + 1)
        have h2 := HZ.out
        have h3 := HS.out
        unfold szL at h2; omega
      have HSM := Lib.hid hsum
      have HI := Lib.hid hi2
      clear hc hxj hi2 hnil hcm hlc hg hsum
      go_wp2_with fail
      refine (heldIntS_any a xs.length c (k + (s : Int)) w HI.out (by omega) (by omega) (by omega)).mono ?_
      rintro e w2 ⟨rfl, rfl⟩
      have HS2 : Hid (s + xs.length = ((xss.take (j + 1)).map List.length).sum) := by show _ = _; rw [HSM.out, ← HS.out]
      have hk2 : decide (k + (s : Int) + (xs.length : Int) < 0) = false := by simp; omega
      go_wp2
      go_roundw
      case rel => exact ⟨j + 1, s + xs.length, by omega, by go_num, by go_num, HS2, HW⟩
      case measure => simp [intOf]; omega
    · obtain rfl : j = len := by omega
      have R : Hid (s = (xss.map List.length).sum) := by
        have := HS.out
        rwa [List.take_of_length_le (by rw [HL.out]; exact Nat.le_refl _)] at this
      go_wp2
      go_ret
      exact ⟨ret_int (by rw [R.out]), rfl⟩

end Go.Proofs.Ytncbgofcimghnaa
