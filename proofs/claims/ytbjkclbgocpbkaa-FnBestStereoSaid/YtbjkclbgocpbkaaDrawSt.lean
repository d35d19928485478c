/-
  The draws of channels. For every code.
-/
import Derived.Test.YtbjkclbgocpbkaaDrawS
import Derived.Test.YtbjkclbgocpbkaaMem2
import Derived.Deep.RegionWith
import Derived.Deep.AppendLies
namespace Go.Proofs.Ytbjkclbgocpbkaa
open Go.RowKit

/-- Two drawn lists; the reader has gone on. -/
def DrewT (r P : Nat) (w : World) (e : Ending) (w' : World) : Prop :=
  ∃ (ao : Option Addr) (len cap : Nat) (xs : List Int) (bo : Option Addr) (len' cap' : Nat) (ys : List Int), e = .returned (.tuple #[.slice ao len cap, .slice bo len' cap']) ∧ len ≤ 30 ∧ len' ≤ 30 ∧ (ao = none → cap = 0) ∧ (bo = none → cap' = 0) ∧
    Ints w' ao len xs ∧ Ints w' bo len' ys ∧ (∀ a, ao = some a → w.heap.size ≤ a.block) ∧ (∀ a, bo = some a → w.heap.size ≤ a.block) ∧ Rdr w' r P ∧ w.grownBy w' (some r)

/-- What stands while channels are drawn. -/
structure ChS (w : World) (r Q n c k : Nat) (v : Value) (p : Option Addr) (xs zs : List Int) (wr : World) : Prop where
  rdr : Rdr wr r Q
  g : w.grownBy wr (some r)
  o1 : Owns wr w.heap.size v n xs
  o2 : Owns wr w.heap.size (.slice p n c) n zs
  b : allB zs (-(3000 + (k : Int))) (3000 + (k : Int)) = true
  d : ∀ g, v.ownBlock = some g → (Value.slice p n c).ownBlock ≠ some g

theorem allB_setL {xs : List Int} {lo hi x : Int} (k : Nat) (h : allB xs lo hi = true) (h1 : lo ≤ x) (h2 : x ≤ hi) : allB (xs.set k x) lo hi = true := by
  unfold allB at *
  rw [List.all_eq_true] at *
  intro y hy
  rcases List.mem_or_eq_of_mem_set hy with hy | rfl
  · exact h y hy
  · simp [inB, h1, h2]

theorem ChS.pick {w wr w2 : World} {r Q Q' n c k : Nat} {v : Value} {p : Option Addr} {xs zs : List Int} (h : ChS w r Q n c k v p xs zs wr) (hr : r < w.heap.size) (hR : Rdr w2 r Q') (hg : wr.grownBy w2 (some r)) : ChS w r Q' n c k v p xs zs w2 :=
  ⟨hR, grown_trans h.g hg, h.o1.read hg hr, h.o2.read hg hr, h.b, h.d⟩
theorem ChS.set {w wr : World} {r Q n c k g : Nat} {v : Value} {xs zs : List Int} {x : Int} (h : ChS w r Q n c k v (some ⟨g, 0, none⟩) xs zs wr) (hr : r < w.heap.size) (h1 : -(3000 + ((k + 1 : Nat) : Int)) ≤ x) (h2 : x ≤ 3000 + ((k + 1 : Nat) : Int)) :
    ChS w r Q n c (k + 1) v (some ⟨g, 0, none⟩) xs (zs.set k x) (wr.setCell ⟨g, k, none⟩ (.int .i64 x)) := by
  have hst := World.ownsRow.stored h.o2 k (.int .i64 x)
  rw [← List.map_set] at hst
  have hgb : w.heap.size ≤ g := Owns.block h.o2 g rfl
  refine ⟨h.rdr.kept hst.2 (fun y e => by injection e with e; omega), grown_row h.g hst.2 (fun y e => by injection e with e; omega), h.o1.kept hst.2 ?_, hst.1, allB_setL k (allB_wide h.b (by omega) (by omega)) h1 h2, h.d⟩
  cases hv : v.ownBlock with
  | none => exact Or.inl rfl
  | some y => right; intro e; injection e with e; subst e; exact h.d _ hv rfl
theorem ChS.drew {w wr : World} {r Q n c k : Nat} {v : Value} {p : Option Addr} {xs zs : List Int} (h : ChS w r Q n c k v p xs zs wr) : ChS w r Q n c k v p xs zs wr.drew :=
  ⟨h.rdr.kept (grown_drew _ none) (by simp), grown_trans h.g (grown_drew _ _), h.o1.grown (grown_drew _ _), h.o2.grown (grown_drew _ _), h.b, h.d⟩

set_option maxRecDepth 100000 in
set_option maxHeartbeats 2000000 in
theorem anyChannels_any (r P : Nat) (w : World) (hR : Rdr w r P) (hP : P < 700000) :
    Calls Try.prog 36 #[.pointer (some ⟨r, 0, none⟩)] w (DrewT r (P + 300) w) := by
  have hrl := hR.lt
  go_enter Try.func36, Try.ntmps36
  go_wp2_with fail
  refine (anyCount_any r P _ hR (by omega)).mono ?_
  rintro e w1 ⟨n, rfl, hn, hR1, hg1⟩
  have HG1 := Lib.hid hg1
  clear hR hg1
  go_wp2_with fail
  refine (rs_at n 11 12 (-2048) 2047 r (P + 1) w1 hR1 (by omega) (by omega) (by omega) (by decide) (by decide) (by decide)).mono ?_
  rintro e w2 ⟨v2, xs, rfl, ho2, hb2, hR2, hg2⟩
  obtain ⟨a2, c2, rfl, _, hn2, hx2, _⟩ := ho2.reads
  have HO2 := Lib.hid (ho2.base_le HG1.out.size)
  have HX2 := Lib.hid hx2
  have HN2 := Lib.hid hn2
  have HB2 := Lib.hid hb2
  have HG2 := Lib.hid (grown_trans HG1.out hg2)
  clear hR1 ho2 hb2 hg2 hx2 hn2 HG1
  go_wp2_with fail
  refine (copyInts_any xs a2 n c2 w2 HX2.out HN2.out (by omega)).mono ?_
  rintro e w3 ⟨v3, rfl, ho3, hg3⟩
  have hd : ∀ g, (Value.slice a2 n c2).ownBlock = some g → v3.ownBlock ≠ some g := fun g e f => by
    have h1 := Owns.block ho3 g f
    have h2 := (World.ownsRow.lt HO2.out g e).2
    omega
  obtain ⟨p3, c3, rfl, _⟩ := ho3.reads
  have HS : Hid (ChS w r (P + 1 + 70 + 0) n c3 0 (.slice a2 n c2) p3 xs xs w3) := ⟨hR2.kept hg3 (by simp), grown_trans HG2.out (grown_any hg3 _), HO2.out.grown hg3, ho3.base_le HG2.out.size, allB_wide HB2.out (by omega) (by omega), hd⟩
  clear hR2 ho3 hg3 hd HO2 HX2 HB2 HG2
  go_wp2
  go_loopw [7] (fun i wr => ∃ (k : Nat) (zs : List Int), k ≤ n ∧ i = .int .i64 k ∧ Hid (ChS w r (P + 1 + 70 + k) n c3 k (.slice a2 n c2) p3 xs zs wr)) (fun i _ => n - (intOf i).toNat)
  case atStart => exact ⟨0, xs, Nat.zero_le _, rfl, HS⟩
  case round =>
    clear HS
    obtain ⟨k, zs, hk, rfl, HS⟩ := hrel
    by_cases hlt : k < n
    · obtain ⟨g, cg, hg, hgb, _⟩ := World.ownsRow.form HS.out.o2 (by omega)
      injection hg with e1 e2 e3
      subst e1; subst e3
      obtain ⟨x, hxk⟩ : ∃ x, zs[k]? = some x := ⟨_, List.getElem?_eq_getElem (by rw [HS.out.o2.len_eq]; exact hlt)⟩
      have hb := allB_mem HS.out.b hxk
      have x0 := hb.1
      have x1 := hb.2
      have q0 : wr.cell? ⟨g, k, none⟩ = some (.int .i64 x) := by rw [World.ownsRow.cellAt HS.out.o2 k (by omega), List.getElem?_map, hxk]; rfl
      have HXK := Lib.hid hxk
      clear hb hxk
      go_wp2
      go_region_with ((go_at_call 40; refine (pick_any 3 r (P + 1 + 70 + k) wr.drew HS.out.drew.rdr (by omega) (by omega)).mono ?_; rintro e w4 ⟨m, rfl, hm0, hm1, _, hR4, hg4⟩; have HS4 := Lib.hid (HS.out.drew.pick hrl hR4 hg4); have q1 : w4.cell? ⟨g, k, none⟩ = some (.int .i64 x) := by { rw [World.ownsRow.cellAt HS4.out.o2 k (by omega), List.getElem?_map, HXK.out]; rfl }; have q2 : w4.frozen? ⟨g, k, none⟩ = false := World.ownsRow.frozenAt HS4.out.o2 k; have hm2 : m < 3 := hm1 (by omega); clear hm1 hR4 hg4))
      all_goals
        have HS5 := Lib.hid (HS4.out.set (k := k) (x := x + m - 1) hrl (by omega) (by omega))
        clear HS4 HS q0 q1 q2
        go_wp2
        go_roundw
        case rel => exact ⟨k + 1, _, by omega, by go_num, HS5⟩
        case measure => simp [intOf]; omega
    · obtain rfl : k = n := by omega
      go_wp2_with fail
      refine (pick_any 3 r (P + 1 + 70 + k) wr HS.out.rdr (by omega) (by omega)).mono ?_
      rintro e w4 ⟨m, rfl, hm0, hm1, _, hR4, hg4⟩
      have HS4 := Lib.hid (HS.out.pick hrl hR4 hg4)
      clear HS hm1 hR4 hg4
      by_cases h0 : m = 0
      · subst h0
        go_wp2_with fail
        refine (rs_at k 15 16 (-32768) 32767 r (P + 1 + 70 + k + 1) w4 HS4.out.rdr (by omega) (by omega) (by omega) (by decide) (by decide) (by decide)).mono ?_
        rintro e w5 ⟨v5, ys, rfl, ho5, _, hR5, hg5⟩
        obtain ⟨a5, c5, rfl, _, hn5, hx5, hk5⟩ := ho5.reads
        have HS5 : Hid (Rdr w5 r (P + 1 + 70 + k + 1 + 70) ∧ w.grownBy w5 (some r) ∧ Owns w5 w.heap.size (.slice a2 k c2) k xs ∧ Owns w5 w.heap.size (.slice a5 k c5) k ys ∧ (a5 = none → c5 = 0)) := ⟨hR5, grown_trans HS4.out.g hg5, HS4.out.o1.read hg5 hrl, ho5.base_le HS4.out.g.size, hn5⟩
        clear HS4 ho5 hR5 hg5 hn5 hx5 hk5
        go_wp2_with fail
        refine (spoil_any xs 32768 a2 k c2 r (P + 1 + 70 + k + 1 + 70) w5 HS5.out.2.2.1.toInts HN2.out (by omega) HS5.out.1 (by omega)).mono ?_
        rintro e w6 ⟨a6, l6, c6, us, rfl, hl6, hc6, hn6, hx6, hb6, hR6, hg6⟩
        have HF : Hid (l6 ≤ 30 ∧ k ≤ 30 ∧ (a6 = none → c6 = 0) ∧ (a5 = none → c5 = 0) ∧ Ints w6 a6 l6 us ∧ Ints w6 a5 k ys ∧ (∀ a, a6 = some a → w.heap.size ≤ a.block) ∧ (∀ a, a5 = some a → w.heap.size ≤ a.block) ∧ Rdr w6 r (P + 300) ∧ w.grownBy w6 (some r)) := by
          have hO := HS5.out.2.2.2.1.read hg6 hrl
          refine ⟨by omega, by omega, hn6, HS5.out.2.2.2.2, hx6, hO.toInts, fun a e => Nat.le_trans HS5.out.2.1.size (hb6 a e).1, fun a e => ?_, hR6.mono (by omega), grown_trans HS5.out.2.1 hg6⟩
          subst e
          rcases hO.2 with ⟨e, _⟩ | ⟨g, cap, cur, e, hg, _⟩
          · cases e
          · injection e with e; injection e with e; subst e; exact hg
        clear HS5 hn6 hx6 hb6 hR6 hg6 hc6 hl6
        go_wp2
        go_ret2
        exact ⟨a6, l6, c6, us, a5, k, c5, ys, rfl, HF.out⟩
      · have h0' : (m == 0) = false := by simpa using h0
        clear h0
        obtain ⟨_, _, he, _, hn5, _, _⟩ := HS4.out.o2.reads
        injection he with e1 e2 e3
        subst e1; subst e3
        have HN5 := Lib.hid hn5
        clear hn5
        go_wp2_with fail
        refine (spoil_any xs 32768 a2 k c2 r (P + 1 + 70 + k + 1) w4 HS4.out.o1.toInts HN2.out (by omega) HS4.out.rdr (by omega)).mono ?_
        rintro e w6 ⟨a6, l6, c6, us, rfl, hl6, hc6, hn6, hx6, hb6, hR6, hg6⟩
        have HF : Hid (l6 ≤ 30 ∧ k ≤ 30 ∧ (a6 = none → c6 = 0) ∧ (p3 = none → c3 = 0) ∧ Ints w6 a6 l6 us ∧ Ints w6 p3 k zs ∧ (∀ a, a6 = some a → w.heap.size ≤ a.block) ∧ (∀ a, p3 = some a → w.heap.size ≤ a.block) ∧ Rdr w6 r (P + 300) ∧ w.grownBy w6 (some r)) := by
          have hO := HS4.out.o2.read hg6 hrl
          refine ⟨by omega, by omega, hn6, HN5.out, hx6, hO.toInts, fun a e => Nat.le_trans HS4.out.g.size (hb6 a e).1, fun a e => ?_, hR6.mono (by omega), grown_trans HS4.out.g hg6⟩
          subst e
          rcases hO.2 with ⟨e, _⟩ | ⟨g, cap, cur, e, hg, _⟩
          · cases e
          · injection e with e; injection e with e; subst e; exact hg
        clear HS4 hn6 hx6 hb6 hR6 hg6 hc6 hl6
        go_wp2
        go_ret2
        exact ⟨a6, l6, c6, us, p3, k, c3, zs, rfl, HF.out⟩

end Go.Proofs.Ytbjkclbgocpbkaa
