/-
  The reader of the statements' draws: what 'newReader', 'pick' and 'one' do, for every code. No condition but the size of the place.
-/
import Derived.Test.YtncbgofcimghnaaBase
import Derived.Test.YtncbgofcimghnaaChecked
import Derived.Deep.QuietTactic
import Derived.BigQuiet
namespace Go.Proofs.Ytncbgofcimghnaa
open Go.RowKit

/-- A reader lies in block r, its place is at most P, and its bytes can be read. -/
def Rdr (w : World) (r P : Nat) : Prop :=
  ∃ (ao : Option Addr) (len cap p : Nat), w.heap[r]? = some (.cells #[.slice ao len cap, .int .i64 p] 72 (0, 0)) ∧ p ≤ P ∧ len ≤ 2000 ∧
    (len = 0 ∨ ∃ (b off : Nat), ao = some ⟨b, off, none⟩ ∧ b < r ∧ ∀ i : Nat, i < len → ∃ u : Nat, u < 256 ∧ w.cell? ⟨b, off + i, none⟩ = some (.int .u8 u))

theorem Rdr.kept {w w' : World} {r P : Nat} {row : Option Nat} (h : Rdr w r P) (hg : w.grownBy w' row) (hr : ∀ x, row = some x → r < x) : Rdr w' r P := by
  obtain ⟨ao, len, cap, p, hh, hp, hl, hb⟩ := h
  refine ⟨ao, len, cap, p, grown_heap hg hh (fun e => by have := hr _ e; omega), hp, hl, ?_⟩
  rcases hb with hb | ⟨b, off, ha, hne, hc⟩
  · exact Or.inl hb
  · refine Or.inr ⟨b, off, ha, hne, fun i hi => ?_⟩
    obtain ⟨u, hu, hcu⟩ := hc i hi
    exact ⟨u, hu, hg.cell hcu (fun e => by have := hr b e.symm; omega)⟩

def Picked (n : Int) (r P : Nat) (w : World) (e : Ending) (w' : World) : Prop :=
  ∃ m : Int, e = .returned (.int .i64 m) ∧ 0 ≤ m ∧ (0 < n → m < n) ∧ (n ≤ 0 → m = 0) ∧ Rdr w' r (P + 1) ∧ w.grownBy w' (some r)

theorem rdr_step {w : World} {r P : Nat} {ao : Option Addr} {len cap p : Nat} (hh : w.heap[r]? = some (.cells #[.slice ao len cap, .int .i64 p] 72 (0, 0)))
    (hp : p ≤ P) (hl : len ≤ 2000) (hb : len = 0 ∨ ∃ (b off : Nat), ao = some ⟨b, off, none⟩ ∧ b < r ∧ ∀ i : Nat, i < len → ∃ u : Nat, u < 256 ∧ w.cell? ⟨b, off + i, none⟩ = some (.int .u8 u)) :
    Rdr (w.setCell ⟨r, 1, none⟩ (.int .i64 ((p : Int) + 1))) r (P + 1) ∧ w.grownBy (w.setCell ⟨r, 1, none⟩ (.int .i64 ((p : Int) + 1))) (some r) := by
  refine ⟨⟨ao, len, cap, p + 1, ?_, by omega, hl, ?_⟩, grown_setCell _ _ _⟩
  · rw [heap_setCell_same w r 1 _ _ _ hh]; rfl
  · rcases hb with hb | ⟨b, off, ha, hne, hc⟩
    · exact Or.inl hb
    · refine Or.inr ⟨b, off, ha, hne, fun i hi => ?_⟩
      obtain ⟨u, hu, hcu⟩ := hc i hi
      exact ⟨u, hu, by rw [cell_far _ _ _ _ (Nat.ne_of_lt hne)]; exact hcu⟩

theorem rdr_drew {w : World} {r P n : Nat} (h : Rdr w r P) : Rdr (w.drewN n) r P := h.kept (grown_drewN w n none) (by simp)

/-- What a pick comes to, out of what the walk leaves. -/
theorem picked_of {n m : Int} {r P : Nat} {w w' : World} {e : Ending} (he : e = .returned (.int .i64 m)) (h0 : 0 ≤ m) (h1 : 0 < n → m < n) (h2 : n ≤ 0 → m = 0)
    (hs : Rdr w' r (P + 1) ∧ w.grownBy w' (some r)) : Picked n r P w e w' := ⟨m, he, h0, h1, h2, hs.1, hs.2⟩

set_option maxHeartbeats 400000 in
theorem pick_small (n : Int) (r P : Nat) (w : World) (hR : Rdr w r P) (hP : P < 1000000) (hn : n < 1) :
    Calls Try.prog 48 #[.pointer (some ⟨r, 0, none⟩), .int .i64 n] w (Picked n r P w) := by
  obtain ⟨ao, len, cap, p, hh, hp, hl, hb⟩ := hR
  have c0 : w.cell? ⟨r, 0, none⟩ = some (.slice ao len cap) := by rw [cell_of_row w r 0 _ _ _ hh]; rfl
  have c1 : w.cell? ⟨r, 1, none⟩ = some (.int .i64 p) := by rw [cell_of_row w r 1 _ _ _ hh]; rfl
  have f1 : w.frozen? ⟨r, 1, none⟩ = false := frozen_of_row w r 1 _ _ hh
  have hs := rdr_step hh hp hl hb
  have HS := Lib.hid hs
  clear hs hb hh
  go_enter Try.func48, Try.ntmps48
  go_wp2
  go_ret
  exact picked_of rfl (by omega) (by omega) (by omega) HS.out

set_option maxHeartbeats 400000 in
theorem pick_empty (n : Int) (r p cap : Nat) (ao : Option Addr) (w : World) (hh : w.heap[r]? = some (.cells #[.slice ao 0 cap, .int .i64 p] 72 (0, 0))) (hp : p < 1000000) (hn : 1 ≤ n) :
    Calls Try.prog 48 #[.pointer (some ⟨r, 0, none⟩), .int .i64 n] w fun e w' => e = .returned (.int .i64 0) ∧ w' = w.setCell ⟨r, 1, none⟩ (.int .i64 ((p : Int) + 1)) := by
  have c0 : w.cell? ⟨r, 0, none⟩ = some (.slice ao 0 cap) := by rw [cell_of_row w r 0 _ _ _ hh]; rfl
  have c1 : w.cell? ⟨r, 1, none⟩ = some (.int .i64 p) := by rw [cell_of_row w r 1 _ _ _ hh]; rfl
  have f1 : w.frozen? ⟨r, 1, none⟩ = false := frozen_of_row w r 1 _ _ hh
  clear hh
  have hd : decide (n < 1) = false := by simp; omega
  go_enter Try.func48, Try.ntmps48
  go_wp2
  go_ret
  exact ⟨rfl, rfl⟩

set_option maxHeartbeats 400000 in
theorem pick_byte (n : Int) (r b off len p cap u : Nat) (w : World) (hh : w.heap[r]? = some (.cells #[.slice (some ⟨b, off, none⟩) len cap, .int .i64 p] 72 (0, 0))) (hlen : len ≤ 2000) (hp : p < len)
    (hu : u < 256) (hc : w.cell? ⟨b, off + p, none⟩ = some (.int .u8 u)) (hbr : b ≠ r) (hn : 1 ≤ n) (hn2 : n ≤ 1000000) :
    Calls Try.prog 48 #[.pointer (some ⟨r, 0, none⟩), .int .i64 n] w fun e w' => e = .returned (.int .i64 ((u : Int) % n)) ∧ w' = w.setCell ⟨r, 1, none⟩ (.int .i64 ((p : Int) + 1)) := by
  have c0 : w.cell? ⟨r, 0, none⟩ = some (.slice (some ⟨b, off, none⟩) len cap) := by rw [cell_of_row w r 0 _ _ _ hh]; rfl
  have c1 : w.cell? ⟨r, 1, none⟩ = some (.int .i64 p) := by rw [cell_of_row w r 1 _ _ _ hh]; rfl
  have f1 : w.frozen? ⟨r, 1, none⟩ = false := frozen_of_row w r 1 _ _ hh
  clear hh
  have hd : decide (n < 1) = false := by simp; omega
  have hl0 : ((len : Int) == 0) = false := by simp; omega
  have hcx : (w.setCell ⟨r, 1, none⟩ (.int .i64 ((p : Int) + 1))).cell? ⟨b, off + p, none⟩ = some (.int .u8 u) := by
    rw [cell_far _ _ _ _ hbr]; exact hc
  go_enter Try.func48, Try.ntmps48
  go_wp2
  go_ret
  exact ⟨rfl, rfl⟩

def PickMix (n : Int) (e : Ending) : Prop := ∃ m : Int, e = .returned (.int .i64 m) ∧ 0 ≤ m ∧ m < n
theorem mixed_of {n x : Int} (h0 : 0 ≤ x) (hn : 1 ≤ n) : PickMix n (.returned (.int .i64 (x.tmod n))) :=
  ⟨_, rfl, by rw [Int.tmod_eq_emod_of_nonneg h0]; exact Int.emod_nonneg _ (by omega), by rw [Int.tmod_eq_emod_of_nonneg h0]; exact Int.emod_lt_of_pos _ (by omega)⟩

set_option maxHeartbeats 400000 in
theorem pick_mix (n : Int) (r b off len p cap u v : Nat) (w : World) (hh : w.heap[r]? = some (.cells #[.slice (some ⟨b, off, none⟩) len cap, .int .i64 p] 72 (0, 0))) (hlen : len ≤ 2000) (hp : len ≤ p) (hp2 : p < 1000000)
    (hl1 : 1 ≤ len) (hu : u < 256) (hc : w.cell? ⟨b, off + p % len, none⟩ = some (.int .u8 u)) (hv : v < 256) (hcv : w.cell? ⟨b, off + (p * 7 + 3) % len, none⟩ = some (.int .u8 v)) (hbr : b ≠ r) (hn : 1 ≤ n) (hn2 : n ≤ 1000000) :
    Calls Try.prog 48 #[.pointer (some ⟨r, 0, none⟩), .int .i64 n] w fun e w' => PickMix n e ∧ ∃ k, w' = (w.setCell ⟨r, 1, none⟩ (.int .i64 ((p : Int) + 1))).drewN k := by
  have c0 : w.cell? ⟨r, 0, none⟩ = some (.slice (some ⟨b, off, none⟩) len cap) := by rw [cell_of_row w r 0 _ _ _ hh]; rfl
  have c1 : w.cell? ⟨r, 1, none⟩ = some (.int .i64 p) := by rw [cell_of_row w r 1 _ _ _ hh]; rfl
  have f1 : w.frozen? ⟨r, 1, none⟩ = false := frozen_of_row w r 1 _ _ hh
  clear hh
  have hd : decide (n < 1) = false := by simp; omega
  have hl0 : ((len : Int) == 0) = false := by simp; omega
  have hcx : (w.setCell ⟨r, 1, none⟩ (.int .i64 ((p : Int) + 1))).cell? ⟨b, off + p % len, none⟩ = some (.int .u8 u) := by
    rw [cell_far _ _ _ _ hbr]; exact hc
  have hcy : (w.setCell ⟨r, 1, none⟩ (.int .i64 ((p : Int) + 1))).cell? ⟨b, off + (p * 7 + 3) % len, none⟩ = some (.int .u8 v) := by
    rw [cell_far _ _ _ _ hbr]; exact hcv
  clear hc hcv
  have i1 : 0 ≤ (p : Int) % len := Int.emod_nonneg _ (by omega)
  have i2 : (p : Int) % len < len := Int.emod_lt_of_pos _ (by omega)
  have j1 : 0 ≤ ((p : Int) * 7 + 3) % len := Int.emod_nonneg _ (by omega)
  have j2 : ((p : Int) * 7 + 3) % len < len := Int.emod_lt_of_pos _ (by omega)
  have q1 : 0 ≤ (p : Int) / len := Int.ediv_nonneg (by omega) (by omega)
  have q2 : (p : Int) / len ≤ 1000000 := by have := Int.ediv_le_self (a := (p : Int)) len (by omega); omega
  go_enter Try.func48, Try.ntmps48
  go_wp2
  go_quiet (fail)
  go_wp2
  go_ret
  refine ⟨mixed_of ?_ hn, nq, rfl⟩
  exact i64_xor_nonneg _ _ (by omega) (by omega) (by omega) (by omega)

/-- PICK, for every number and every reader. -/
theorem pick_any (n : Int) (r P : Nat) (w : World) (hR : Rdr w r P) (hP : P < 1000000) (hn2 : n ≤ 1000000) :
    Calls Try.prog 48 #[.pointer (some ⟨r, 0, none⟩), .int .i64 n] w (Picked n r P w) := by
  by_cases hn' : n < 1
  · exact pick_small n r P w hR hP hn'
  have hn : 1 ≤ n := by omega
  obtain ⟨ao, len, cap, p, hh, hp, hl, hb⟩ := hR
  have hs := rdr_step hh hp hl hb
  by_cases h0 : len = 0
  · subst h0
    exact (pick_empty n r p cap ao w hh (by omega) hn).mono fun e w' ⟨he, hw⟩ => by
      subst he hw; exact picked_of rfl (by omega) (by omega) (by omega) hs
  · rcases hb with hb | ⟨b, off, rfl, hne, hc⟩
    · exact absurd hb h0
    by_cases hpl : p < len
    · obtain ⟨u, hu, hcu⟩ := hc p hpl
      exact (pick_byte n r b off len p cap u w hh hl hpl hu hcu (Nat.ne_of_lt hne) hn hn2).mono fun e w' ⟨he, hw⟩ => by
        subst he hw
        exact picked_of rfl (Int.emod_nonneg _ (by omega)) (fun _ => Int.emod_lt_of_pos _ (by omega)) (by omega) hs
    · obtain ⟨u, hu, hcu⟩ := hc (p % len) (Nat.mod_lt _ (by omega))
      obtain ⟨v, hv, hcv⟩ := hc ((p * 7 + 3) % len) (Nat.mod_lt _ (by omega))
      exact (pick_mix n r b off len p cap u v w hh hl (by omega) (by omega) (by omega) hu hcu hv hcv (Nat.ne_of_lt hne) hn hn2).mono fun e w' ⟨⟨m, he, h0, h1⟩, k, hw⟩ => by
        subst he hw
        exact picked_of rfl h0 (fun _ => h1) (by omega) ⟨rdr_drew hs.1, grown_trans hs.2 (grown_drewN _ _ _)⟩


def Oned (M : Int → Prop) (r P : Nat) (w : World) (e : Ending) (w' : World) : Prop :=
  ∃ x : Int, M x ∧ e = .returned (.int .i64 x) ∧ Rdr w' r (P + 1) ∧ w.grownBy w' (some r)

/-- ONE, for every list that is not empty. -/
theorem one_any (M : Int → Prop) (len r P b off cap : Nat) (w : World) (hR : Rdr w r P) (hP : P < 1000000) (h0 : 0 < len) (hl : len ≤ 1000000) (hb : b ≠ r)
    (hc : ∀ k : Nat, k < len → ∃ x : Int, M x ∧ w.cell? ⟨b, off + k, none⟩ = some (.int .i64 x)) :
    Calls Try.prog 38 #[.pointer (some ⟨r, 0, none⟩), .slice (some ⟨b, off, none⟩) len cap] w (Oned M r P w) := by
  have hcall := pick_any len r P w hR hP (by omega)
  have HC := Lib.hid hc
  clear hc
  go_enter Try.func38, Try.ntmps38
  go_wp2_with fail
  refine hcall.mono ?_
  rintro e w1 ⟨m, rfl, hm0, hm1, _, hR1, hg⟩
  obtain ⟨k, rfl⟩ := Int.eq_ofNat_of_zero_le hm0
  have hk : k < len := by have := hm1 (by omega); omega
  obtain ⟨x, hx, hcw⟩ := HC.out k hk
  have hcx : w1.cell? ⟨b, off + k, none⟩ = some (.int .i64 x) := hg.cell hcw (by simpa using hb)
  have HF := Lib.hid (show M x ∧ Rdr w1 r (P + 1) ∧ w.grownBy w1 (some r) from ⟨hx, hR1, hg⟩)
  clear hm1 hcall hR hR1 hg hcw hx
  go_wp2
  go_ret
  exact ⟨x, HF.out.1, rfl, HF.out.2⟩

/-- The bytes of a slice can be read. -/
def BytesAt (w : World) (ao : Option Addr) (len : Nat) : Prop :=
  len = 0 ∨ ∃ (b off : Nat), ao = some ⟨b, off, none⟩ ∧ ∀ i : Nat, i < len → ∃ u : Nat, u < 256 ∧ w.cell? ⟨b, off + i, none⟩ = some (.int .u8 u)

theorem rdr_new {w : World} {ao : Option Addr} {len cap : Nat} (hb : BytesAt w ao len) (hl : len ≤ 2000) :
    Rdr (w.alloc (.cells #[.slice ao len cap, .int .i64 0] 72)) w.heap.size 0 := by
  refine ⟨ao, len, cap, 0, heap_alloc_new w _, Nat.le_refl _, hl, ?_⟩
  rcases hb with hb | ⟨b, off, ha, hc⟩
  · exact Or.inl hb
  by_cases h0 : len = 0
  · exact Or.inl h0
  refine Or.inr ⟨b, off, ha, ?_, fun i hi => ?_⟩
  · obtain ⟨u, _, hcu⟩ := hc 0 (by omega)
    exact block_lt_of_cell hcu
  · obtain ⟨u, hu, hcu⟩ := hc i hi
    exact ⟨u, hu, (World.cell?_of_block (heap_alloc_old _ _ (block_lt_of_cell hcu))).trans hcu⟩

set_option maxHeartbeats 400000 in
theorem newReader_any (ao : Option Addr) (len cap : Nat) (w : World) (hb : BytesAt w ao len) (hlc : len ≤ cap) (hmax : len ≤ 9223372036854775807) :
    Calls Try.prog 36 #[.slice ao len cap] w fun e w' =>
      e = .returned (.pointer (some ⟨w.heap.size, 0, none⟩)) ∧ (Rdr w' w.heap.size 0 ∧ w.grownBy w' none) := by
  by_cases h : len ≤ 2000
  · have HR := Lib.hid (rdr_new (cap := cap) hb h)
    clear hb
    go_enter Try.func36, Try.ntmps36
    go_wp2
    go_ret
    exact ⟨rfl, HR.out, grown_alloc _ _ _⟩
  · rcases hb with hb | ⟨b, off, rfl, hc⟩
    · omega
    have hb' : BytesAt w (some ⟨b, off, none⟩) 2000 := Or.inr ⟨b, off, rfl, fun i hi => hc i (by omega)⟩
    have HR := Lib.hid (rdr_new (cap := cap) hb' (Nat.le_refl _))
    clear hb' hc
    have h' : 2000 < len := by omega
    have hcap : 2000 ≤ cap := by omega
    go_enter Try.func36, Try.ntmps36
    go_wp2
    go_ret
    exact ⟨rfl, HR.out, grown_alloc _ _ _⟩

theorem Rdr.mono {w : World} {r P Q : Nat} (h : Rdr w r P) (hPQ : P ≤ Q) : Rdr w r Q := by
  obtain ⟨ao, len, cap, p, hh, hp, rest⟩ := h
  exact ⟨ao, len, cap, p, hh, by omega, rest⟩
theorem Rdr.alloc {w : World} {r P : Nat} (h : Rdr w r P) (o : Obj) : Rdr (w.alloc o) r P := h.kept (grown_alloc w o none) (by simp)
theorem Rdr.lt {w : World} {r P : Nat} (h : Rdr w r P) : r < w.heap.size := by
  obtain ⟨ao, len, cap, p, hh, _⟩ := h
  exact block_lt hh
theorem Rdr.ne {w : World} {r P : Nat} (h : Rdr w r P) : w.heap.size ≠ r := by have := h.lt; omega

/-- The numbers of a list that has just been laid. -/
theorem lit_cells (w : World) (xs : List Int) (t : TypeId) (k : Nat) (hk : k < xs.length) :
    ∃ x : Int, x ∈ xs ∧ (w.alloc (.cells (xs.map (Value.int .i64)).toArray t)).cell? ⟨w.heap.size, 0 + k, none⟩ = some (.int .i64 x) := by
  refine ⟨xs[k], List.getElem_mem _, ?_⟩
  rw [cell_of_row _ w.heap.size (0 + k) _ _ _ (heap_alloc_new w _)]
  simp [List.getElem?_map, List.getElem?_eq_getElem hk]

/-- ONE at a list that has just been laid. -/
theorem one_lit (xs : List Int) (t : TypeId) (r P cap : Nat) (w : World) (hR : Rdr w r P) (hP : P < 1000000) (h0 : 0 < xs.length) (hl : xs.length ≤ 1000000) :
    Calls Try.prog 38 #[.pointer (some ⟨r, 0, none⟩), .slice (some ⟨w.heap.size, 0, none⟩) xs.length cap] (w.alloc (.cells (xs.map (Value.int .i64)).toArray t))
      fun e w' => ∃ x : Int, x ∈ xs ∧ e = .returned (.int .i64 x) ∧ Rdr w' r (P + 1) ∧ w.grownBy w' (some r) :=
  (one_any (· ∈ xs) xs.length r P w.heap.size 0 cap _ (hR.alloc _) hP h0 hl hR.ne (fun k hk => lit_cells w xs t k hk)).mono
    fun _ _ ⟨x, hx, he, hR', hg⟩ => ⟨x, hx, he, hR', grown_trans (grown_alloc _ _ _) hg⟩

theorem one_at (xs : List Int) (t : TypeId) (r P B cap : Nat) (w : World) (hB : w.heap.size = B) (hR : Rdr w r P) (hP : P < 1000000) (h0 : 0 < xs.length) (hl : xs.length ≤ 1000000) :
    Calls Try.prog 38 #[.pointer (some ⟨r, 0, none⟩), .slice (some ⟨B, 0, none⟩) xs.length cap] (w.alloc (.cells (xs.map (Value.int .i64)).toArray t))
      fun e w' => ∃ x : Int, x ∈ xs ∧ e = .returned (.int .i64 x) ∧ Rdr w' r (P + 1) ∧ w.grownBy w' (some r) := by
  subst hB
  exact one_lit xs t r P cap w hR hP h0 hl

end Go.Proofs.Ytncbgofcimghnaa
