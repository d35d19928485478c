/-
  Edited audio as plain mathematics: cut, joined, faded and reversed rows. No condition but the ranges that are named.
-/
import Derived.Test.YtncbgofcimghnaaLvM
import Derived.Test.YtncbgofcimghnaaQMath
import Derived.Test.YtncbgofcimghnaaSlS
namespace Go.Proofs.Ytncbgofcimghnaa
open Go.RowKit

/-- One row behind the other. -/
def joinM (xss yss : List (List Int)) : List (List Int) := List.zipWith (fun xs ys => xs ++ ys) xss yss
/-- A row that begins softly. -/
def fdf (s : Nat) (i : Nat) (x : Int) : Int := qC (s : Int) (x * (i : Int))
def fdP (s : Nat) (xs : List Int) : List Int := xs.mapIdx (fdf s)
def fdL (s : Nat) (xs : List Int) : List Int := fdP s (xs.take s) ++ xs.drop s

theorem joinM_get {xss yss : List (List Int)} {k : Nat} {xs ys : List Int} (h : xss[k]? = some xs) (h' : yss[k]? = some ys) : (joinM xss yss)[k]? = some (xs ++ ys) := by
  unfold joinM; rw [List.getElem?_zipWith, h, h']
theorem joinM_len {xss yss : List (List Int)} (h : xss.length = yss.length) : (joinM xss yss).length = xss.length := by
  unfold joinM; rw [List.length_zipWith, h]; omega
theorem joinM_row {xss yss : List (List Int)} {k : Nat} {zs : List Int} (h : (joinM xss yss)[k]? = some zs) : ∃ xs ys, xss[k]? = some xs ∧ yss[k]? = some ys ∧ zs = xs ++ ys := by
  unfold joinM at h
  rw [List.getElem?_zipWith] at h
  cases hx : xss[k]? with
  | none => rw [hx] at h; cases h
  | some xs =>
    cases hy : yss[k]? with
    | none => rw [hx, hy] at h; cases h
    | some ys => rw [hx, hy] at h; injection h with h; exact ⟨xs, ys, rfl, rfl, h.symm⟩
theorem fdP_len (s : Nat) (xs : List Int) : (fdP s xs).length = xs.length := by unfold fdP; simp
theorem fdP_get {s k : Nat} {xs : List Int} {x : Int} (h : xs[k]? = some x) : (fdP s xs)[k]? = some (fdf s k x) := by unfold fdP; rw [List.getElem?_mapIdx, h]; rfl
theorem fdP_take {s k : Nat} {xs : List Int} {x : Int} (h : xs[k]? = some x) : fdP s (xs.take (k + 1)) = fdP s (xs.take k) ++ [fdf s k x] := by
  have hk := (List.getElem?_eq_some_iff.1 h).1
  unfold fdP
  rw [List.take_add_one, h]
  simp [List.mapIdx_append, Nat.min_eq_left (Nat.le_of_lt hk)]
theorem fdL_len {s : Nat} {xs : List Int} (h : s ≤ xs.length) : (fdL s xs).length = xs.length := by unfold fdL; rw [List.length_append, fdP_len]; simp; omega

/-- What valid audio has when its first row is known by its index. -/
theorem headD_of {xss : List (List Int)} {xs : List Int} (h : xss[0]? = some xs) : xss.headD [] = xs := by
  cases xss with
  | nil => simp at h
  | cons y ys => simp at h; simp [h]
theorem VA.first {r d : Int} {xss : List (List Int)} {u H : Nat} (h : VA r d xss u H) : ∃ xs, xss[0]? = some xs ∧ xs.length = H := by
  have := h.ch.1
  exact ⟨_, head_row (by omega), h.hd⟩
theorem va_rows_of {r d : Int} {xss yss : List (List Int)} {u H H' : Nat} (h : VA r d xss u H) (hl : yss.length = xss.length) (hh : H' ≤ 256)
    (hr : ∀ (k : Nat) (ys : List Int), yss[k]? = some ys → ys.length = H' ∧ allB ys (-(2 ^ u)) (2 ^ u - 1) = true) : VA r d yss u H' := by
  have hc := h.ch
  refine ⟨h.rate, h.dep, h.u3, h.u15, by omega, ?_, hh, hr⟩
  exact (hr 0 _ (head_row (by omega))).1
theorem va_map {r d : Int} {xss : List (List Int)} {u H H' : Nat} (g : List Int → List Int) (h : VA r d xss u H) (hh : H' ≤ 256)
    (hr : ∀ (k : Nat) (xs : List Int), xss[k]? = some xs → (g xs).length = H' ∧ allB (g xs) (-(2 ^ u)) (2 ^ u - 1) = true) : VA r d (xss.map g) u H' := by
  refine va_rows_of h (by simp) hh (fun k ys hy => ?_)
  rw [List.getElem?_map] at hy
  obtain ⟨xs, hx, rfl⟩ := Option.map_eq_some_iff.1 hy
  exact hr k xs hx
theorem allB_sub {xs ys : List Int} {lo hi : Int} (h : allB xs lo hi = true) (hs : ∀ y ∈ ys, y ∈ xs) : allB ys lo hi = true := by
  unfold allB at *
  rw [List.all_eq_true] at *
  exact fun y hy => h y (hs y hy)
theorem cutR_mem {f t : Nat} {xs : List Int} : ∀ y ∈ cutR f t xs, y ∈ xs := fun _ hy => List.mem_of_mem_drop (List.mem_of_mem_take hy)
theorem va_cut {r d : Int} {xss : List (List Int)} {u H f t : Nat} (h : VA r d xss u H) (hf : f ≤ t) (ht : t ≤ H) : VA r d (xss.map (cutR f t)) u (t - f) :=
  va_map _ h (by have := h.hh; omega) (fun k xs hx => ⟨cutR_len (by rw [(h.row k xs hx).1]; exact ht) hf, allB_sub (h.row k xs hx).2 cutR_mem⟩)
theorem va_rev {r d : Int} {xss : List (List Int)} {u H : Nat} (h : VA r d xss u H) : VA r d (xss.map List.reverse) u H :=
  va_map _ h h.hh (fun k xs hx => ⟨by rw [List.length_reverse]; exact (h.row k xs hx).1, allB_sub (h.row k xs hx).2 (fun y hy => by simpa using hy)⟩)
theorem va_join {r d : Int} {xss yss : List (List Int)} {u H H' : Nat} (h : VA r d xss u H) (h' : VA r d yss u H') (hl : xss.length = yss.length) (hs : H + H' ≤ 256) : VA r d (joinM xss yss) u (H + H') := by
  refine va_rows_of h (joinM_len hl) hs (fun k zs hz => ?_)
  obtain ⟨xs, ys, hx, hy, rfl⟩ := joinM_row hz
  refine ⟨by rw [List.length_append, (h.row k xs hx).1, (h'.row k ys hy).1], ?_⟩
  have h1 := (h.row k xs hx).2
  have h2 := (h'.row k ys hy).2
  unfold allB at *
  rw [List.all_append, h1, h2]; rfl
theorem va_u {r d r' d' : Int} {xss yss : List (List Int)} {u u' H H' : Nat} (h : VA r d xss u H) (h' : VA r' d' yss u' H') (hd : d = d') : u = u' := by have := h.dep; have := h'.dep; omega

/-- A faded number is not greater than it was. -/
theorem fdf_le {s i : Nat} {x : Int} (h : i ≤ s) (hs : 0 < s) : (0 ≤ x → 0 ≤ fdf s i x ∧ fdf s i x ≤ x) ∧ (x ≤ 0 → x ≤ fdf s i x ∧ fdf s i x ≤ 0) := by
  unfold fdf qC
  have k1 := Int.emod_add_mul_ediv (2 * (x * (i : Int)) + (s : Int)) (2 * (s : Int))
  have k2 := Int.emod_nonneg (2 * (x * (i : Int)) + (s : Int)) (show 2 * (s : Int) ≠ 0 by omega)
  have k3 := Int.emod_lt_of_pos (2 * (x * (i : Int)) + (s : Int)) (show 0 < 2 * (s : Int) by omega)
  generalize (2 * (x * (i : Int)) + (s : Int)) / (2 * (s : Int)) = q at *
  generalize (2 * (x * (i : Int)) + (s : Int)) % (2 * (s : Int)) = m at *
  have e : 2 * (s : Int) * q = 2 * ((s : Int) * q) := by rw [Int.mul_assoc]
  rw [e] at k1
  have hs1 : (1 : Int) ≤ (s : Int) := by omega
  constructor
  · intro hx
    have h0 : 0 ≤ x * (i : Int) := Int.mul_nonneg hx (by omega)
    have h1 : x * (i : Int) ≤ x * (s : Int) := Int.mul_le_mul_of_nonneg_left (by omega) hx
    have e2 : x * (s : Int) = (s : Int) * x := Int.mul_comm _ _
    constructor
    · apply Int.not_lt.1; intro hq
      have : (s : Int) * q ≤ (s : Int) * (-1) := Int.mul_le_mul_of_nonneg_left (by omega) (by omega)
      omega
    · apply Int.not_lt.1; intro hq
      have : (s : Int) * (x + 1) ≤ (s : Int) * q := Int.mul_le_mul_of_nonneg_left (by omega) (by omega)
      rw [Int.mul_add] at this
      omega
  · intro hx
    have h0 : 0 ≤ -x * (i : Int) := Int.mul_nonneg (by omega) (by omega)
    have h1 : -x * (i : Int) ≤ -x * (s : Int) := Int.mul_le_mul_of_nonneg_left (by omega) (by omega)
    rw [Int.neg_mul] at h0 h1
    rw [Int.neg_mul] at h1
    have e2 : x * (s : Int) = (s : Int) * x := Int.mul_comm _ _
    constructor
    · apply Int.not_lt.1; intro hq
      have : (s : Int) * q ≤ (s : Int) * (x - 1) := Int.mul_le_mul_of_nonneg_left (by omega) (by omega)
      rw [Int.mul_sub] at this
      omega
    · apply Int.not_lt.1; intro hq
      have : (s : Int) * 1 ≤ (s : Int) * q := Int.mul_le_mul_of_nonneg_left (by omega) (by omega)
      omega
theorem fdf_in {s i u : Nat} {x : Int} (h : i ≤ s) (hs : 0 < s) (h0 : -(2 ^ u) ≤ x) (h1 : x ≤ 2 ^ u - 1) : -(2 ^ u) ≤ fdf s i x ∧ fdf s i x ≤ 2 ^ u - 1 := by
  have := @fdf_le s i x h hs
  have hp : (1 : Int) ≤ 2 ^ u := by
    have := Nat.two_pow_pos u
    have e : ((2 ^ u : Nat) : Int) = 2 ^ u := by simp
    omega
  by_cases hx : 0 ≤ x
  · have := this.1 hx; omega
  · have := this.2 (by omega); omega
theorem va_fade {r d : Int} {xss : List (List Int)} {u H s : Nat} (h : VA r d xss u H) (hs : s ≤ H) : VA r d (xss.map (fdL s)) u H := by
  refine va_map _ h h.hh (fun k xs hx => ⟨by rw [fdL_len (by rw [(h.row k xs hx).1]; exact hs)]; exact (h.row k xs hx).1, ?_⟩)
  have h1 := (h.row k xs hx).2
  unfold allB at *
  rw [List.all_eq_true] at *
  intro y hy
  unfold fdL at hy
  rcases List.mem_append.1 hy with hy | hy
  · obtain ⟨j, hj⟩ := List.getElem?_of_mem hy
    unfold fdP at hj
    rw [List.getElem?_mapIdx] at hj
    obtain ⟨x, hx2, rfl⟩ := Option.map_eq_some_iff.1 hj
    have hjs : j < s := by have := (List.getElem?_eq_some_iff.1 hx2).1; simp at this; omega
    have hm := h1 x (List.mem_of_mem_take (List.mem_of_getElem? hx2))
    simp only [inB, decide_eq_true_eq] at hm ⊢
    have := @fdf_in s j u x (by omega) (by omega) (by omega) (by omega)
    omega
  · exact h1 y (List.mem_of_mem_drop hy)

/-- What a function that gives audio says: this audio, or nothing. -/
def AuR (c : Prop) (r d : Int) (zss : List (List Int)) (rr dd : Int) (yss : List (List Int)) (ok : Bool) : Prop :=
  (c ∧ ok = true ∧ rr = r ∧ dd = d ∧ yss = zss) ∨ (¬ c ∧ ok = false ∧ rr = 0 ∧ dd = 0 ∧ yss = [])
theorem AuR_there (c : Prop) (r d : Int) (zss : List (List Int)) : ∃ rr dd yss ok, AuR c r d zss rr dd yss ok := by
  by_cases h : c
  · exact ⟨r, d, zss, true, Or.inl ⟨h, rfl, rfl, rfl, rfl⟩⟩
  · exact ⟨0, 0, [], false, Or.inr ⟨h, rfl, rfl, rfl, rfl⟩⟩
theorem AuR.no {c : Prop} {r d rr dd : Int} {zss yss : List (List Int)} {ok : Bool} (h : AuR c r d zss rr dd yss ok) (hc : ¬ c) : rr = 0 ∧ dd = 0 ∧ ok = false ∧ yss = [] := by
  rcases h with ⟨h1, _⟩ | ⟨_, h2, h3, h4, h5⟩
  · exact absurd h1 hc
  · exact ⟨h3, h4, h2, h5⟩
theorem AuR.yes {c : Prop} {r d rr dd : Int} {zss yss : List (List Int)} {ok : Bool} (h : AuR c r d zss rr dd yss ok) (hc : c) : r = rr ∧ d = dd ∧ ok = true ∧ yss = zss := by
  rcases h with ⟨_, h2, h3, h4, h5⟩ | ⟨h1, _⟩
  · exact ⟨h3.symm, h4.symm, h2, h5⟩
  · exact absurd hc h1

/-- When each function gives audio. -/
def cutC (r d f t : Int) (xss : List (List Int)) : Prop := vAu r d xss = true ∧ 0 ≤ f ∧ f ≤ t ∧ t ≤ ((xss.headD []).length : Int)
def fadeC (r d s : Int) (xss : List (List Int)) : Prop := vAu r d xss = true ∧ 0 ≤ s ∧ s ≤ ((xss.headD []).length : Int)
def joinC (r d : Int) (xss : List (List Int)) (r' d' : Int) (yss : List (List Int)) : Prop :=
  vAu r d xss = true ∧ vAu r' d' yss = true ∧ r = r' ∧ d = d' ∧ xss.length = yss.length ∧ (xss.headD []).length + (yss.headD []).length ≤ 256
def CuR (r d f t : Int) (xss : List (List Int)) := AuR (cutC r d f t xss) r d (xss.map (cutR f.toNat t.toNat))
def FdR (r d s : Int) (xss : List (List Int)) := AuR (fadeC r d s xss) r d (xss.map (fdL s.toNat))
def JnR (r d : Int) (xss : List (List Int)) (r' d' : Int) (yss : List (List Int)) := AuR (joinC r d xss r' d' yss) r d (joinM xss yss)
def RvR (r d : Int) (xss : List (List Int)) := AuR (vAu r d xss = true) r d (xss.map List.reverse)

/-- A call gives back new audio and whether it is any. -/
def MadeAB (yss : List (List Int)) (rr dd : Int) (ok : Bool) (w : World) (e : Ending) (w' : World) : Prop :=
  ∃ v, e = .returned (.tuple #[.agg #[.int .i64 rr, .int .i64 dd, v], .bool ok]) ∧ MOwn w' w.heap.size v yss.length yss ∧ w.grownBy w' none
/-- A call gives back new audio. -/
def MadeA (yss : List (List Int)) (rr dd : Int) (w : World) (e : Ending) (w' : World) : Prop :=
  ∃ v, e = .returned (.agg #[.int .i64 rr, .int .i64 dd, v]) ∧ MOwn w' w.heap.size v yss.length yss ∧ w.grownBy w' none

theorem cutR_split {xs : List Int} {f t : Nat} (h : f ≤ t) (_ht : t ≤ xs.length) : cutR 0 f xs ++ cutR f t xs ++ cutR t xs.length xs = xs := by
  unfold cutR
  simp only [List.drop_zero, Nat.sub_zero]
  have h1 : xs.take f ++ (xs.drop f).take (t - f) = xs.take t := by
    rw [show t = f + (t - f) by omega, List.take_add, show f + (t - f) - f = t - f by omega]
  rw [h1, List.take_of_length_le (l := xs.drop t) (by simp), List.take_append_drop]
theorem cutR_left {xs ys : List Int} : cutR 0 xs.length (xs ++ ys) = xs := by unfold cutR; simp
theorem cutR_right {xs ys : List Int} : cutR xs.length (xs.length + ys.length) (xs ++ ys) = ys := by
  unfold cutR
  rw [List.drop_left, show xs.length + ys.length - xs.length = ys.length by omega, List.take_of_length_le (Nat.le_refl _)]
theorem cutR_twice {xs : List Int} {f t a b : Nat} (_h : f ≤ t) (_ha : a ≤ b) (hb : b ≤ t - f) : cutR a b (cutR f t xs) = cutR (f + a) (f + b) xs := by
  unfold cutR
  rw [List.drop_take, List.drop_drop, List.take_take]
  congr 1
  omega
theorem fdL_zero (xs : List Int) : fdL 0 xs = xs := by unfold fdL fdP; simp
theorem fdL_one {xs : List Int} {n : Nat} (h : 1 ≤ xs.length) : cutR 1 n (fdL 1 xs) = cutR 1 n xs := by
  cases xs with
  | nil => simp at h
  | cons x xs => unfold fdL fdP cutR; simp

theorem pkL_reverse (xs : List Int) : pkL 0 xs.reverse = pkL 0 xs := by
  have a : ∀ m (l : List Int) x, pkL m (l ++ [x]) = max (pkL m l) (ab x) := fun m l x => by unfold pkL; rw [List.foldl_append]; rfl
  induction xs with
  | nil => rfl
  | cons x xs ih =>
    rw [List.reverse_cons, a, ih]
    show _ = pkL (max 0 (ab x)) xs
    have h1 : (0 : Int) ≤ ab x := by unfold ab; split <;> omega
    rw [show max 0 (ab x) = max (ab x) 0 from Int.max_comm _ _, pkL_max, Int.max_comm (pkL 0 xs)]
theorem pkL_rev (m : Int) (h : 0 ≤ m) (xs : List Int) : pkL m xs.reverse = pkL m xs := by rw [pkL_split h, pkL_reverse, ← pkL_split h]
theorem pkM_rev (xss : List (List Int)) : ∀ m, 0 ≤ m → pkM m (xss.map List.reverse) = pkM m xss := by
  induction xss with
  | nil => intro m _; rfl
  | cons xs xss ih =>
    intro m h
    show pkM (pkL m xs.reverse) (xss.map List.reverse) = pkM (pkL m xs) xss
    rw [pkL_rev m h]
    exact ih _ (Int.le_trans h pkL_le)
theorem pkL_append (m : Int) (xs ys : List Int) : pkL m (xs ++ ys) = pkL (pkL m xs) ys := by unfold pkL; rw [List.foldl_append]
theorem pkM_max (xss : List (List Int)) : ∀ a b, pkM (max a b) xss = max a (pkM b xss) := by
  induction xss with
  | nil => intro a b; rfl
  | cons xs xss ih => intro a b; show pkM (pkL (max a b) xs) xss = max a (pkM (pkL b xs) xss); rw [pkL_max, ih]
theorem pkM_join : ∀ (xss yss : List (List Int)), xss.length = yss.length → ∀ m, 0 ≤ m → pkM m (joinM xss yss) = max (pkM m xss) (pkM m yss) := by
  intro xss
  induction xss with
  | nil => intro yss h m _; cases yss with | nil => show m = max m m; omega | cons _ _ => simp at h
  | cons xs xss ih =>
    intro yss h m hm
    cases yss with
    | nil => simp at h
    | cons ys yss =>
      show pkM (pkL m (xs ++ ys)) (joinM xss yss) = max (pkM (pkL m xs) xss) (pkM (pkL m ys) yss)
      have h1 : 0 ≤ pkL m xs := Int.le_trans hm pkL_le
      have h2 : 0 ≤ pkL m ys := Int.le_trans hm pkL_le
      rw [pkL_append, pkL_split h1, ih yss (by simpa using h) _ (by omega)]
      rw [pkL_split hm ys]
      have e1 : max (pkL m xs) (pkL 0 ys) = max (pkL m xs) (max m (pkL 0 ys)) := by
        have := @pkL_le m xs; omega
      have e3 : ∀ a b, pkM (max a b) xss = max b (pkM a xss) := fun a b => by rw [Int.max_comm, pkM_max]
      have e4 := pkM_max yss (pkL m xs) (max m (pkL 0 ys))
      rw [e1, e4, e3]
      have l1 : pkL m xs ≤ pkM (pkL m xs) xss := by
        have : ∀ (l : List (List Int)) a, a ≤ pkM a l := fun l => by
          induction l with
          | nil => intro a; exact Int.le_refl _
          | cons z l ih2 => intro a; exact Int.le_trans pkL_le (ih2 _)
        exact this _ _
      have l2 : max m (pkL 0 ys) ≤ pkM (max m (pkL 0 ys)) yss := by
        have : ∀ (l : List (List Int)) a, a ≤ pkM a l := fun l => by
          induction l with
          | nil => intro a; exact Int.le_refl _
          | cons z l ih2 => intro a; exact Int.le_trans pkL_le (ih2 _)
        exact this _ _
      omega

end Go.Proofs.Ytncbgofcimghnaa
