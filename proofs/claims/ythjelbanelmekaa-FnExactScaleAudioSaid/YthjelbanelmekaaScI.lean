/-
  Scaled audio: the program's text. For all channels that can be read.
-/
import Derived.Test.YthjelbanelmekaaScS
import Derived.Test.YthjelbanelmekaaLoI
import Derived.Deep.RegionWith
import Derived.Deep.RegionLaw
namespace Go.Proofs.Ythjelbanelmekaa
open Go.RowKit

/-- The four blocks that the closure has captured: factor, divisor, half the range, and how many were limited. -/
structure Cap4 (w : World) (B1 B2 B3 B4 : Nat) (num den h lim : Int) : Prop where
  c1 : w.cell? ⟨B1, 0, none⟩ = some (.int .i64 num)
  c2 : w.cell? ⟨B2, 0, none⟩ = some (.int .i64 den)
  c3 : w.cell? ⟨B3, 0, none⟩ = some (.int .i64 h)
  c4 : w.heap[B4]? = some (.cells #[.int .i64 lim] 3 (0, 0))
  n1 : B1 ≠ B4
  n2 : B2 ≠ B4
  n3 : B3 ≠ B4
theorem Cap4.grown {w w' : World} {B1 B2 B3 B4 : Nat} {num den h lim : Int} (c : Cap4 w B1 B2 B3 B4 num den h lim) (hg : w.grownBy w' none) : Cap4 w' B1 B2 B3 B4 num den h lim :=
  ⟨hg.cell c.c1 (by simp), hg.cell c.c2 (by simp), hg.cell c.c3 (by simp), grown_heap hg c.c4 (by simp), c.n1, c.n2, c.n3⟩
theorem Cap4.far {w w' : World} {B1 B2 B3 B4 g : Nat} {num den h lim : Int} (c : Cap4 w B1 B2 B3 B4 num den h lim) (hg : w.grownBy w' (some g)) (h1 : B1 ≠ g) (h2 : B2 ≠ g) (h3 : B3 ≠ g) (h4 : B4 ≠ g) : Cap4 w' B1 B2 B3 B4 num den h lim :=
  ⟨hg.cell c.c1 (by simpa using h1), hg.cell c.c2 (by simpa using h2), hg.cell c.c3 (by simpa using h3), grown_heap hg c.c4 (by simp; omega), c.n1, c.n2, c.n3⟩
theorem Cap4.more {w w' : World} {B1 B2 B3 B4 : Nat} {num den h lim lim' : Int} (c : Cap4 w B1 B2 B3 B4 num den h lim) (hg : w.grownBy w' (some B4)) (h4 : w'.heap[B4]? = some (.cells #[.int .i64 lim'] 3 (0, 0))) : Cap4 w' B1 B2 B3 B4 num den h lim' :=
  ⟨hg.cell c.c1 (by simpa using c.n1), hg.cell c.c2 (by simpa using c.n2), hg.cell c.c3 (by simpa using c.n3), h4, c.n1, c.n2, c.n3⟩

set_option maxHeartbeats 2000000 in
theorem iSc1_any (x num den lim : Int) (u B1 B2 B3 B4 : Nat) (w : World) (h0 : -32768 ≤ x) (h1 : x ≤ 32768) (h2 : 1 ≤ num) (h3 : num ≤ 64) (h4 : 1 ≤ den) (h5 : den ≤ 64) (hu : u ≤ 15) (hl0 : 0 ≤ lim) (hl1 : lim ≤ 1000000) (hc : Cap4 w B1 B2 B3 B4 num den (2 ^ u) lim) :
    Calls Try.prog 50 #[.int .i64 x, .pointer (some ⟨B1, 0, none⟩), .pointer (some ⟨B2, 0, none⟩), .pointer (some ⟨B3, 0, none⟩), .pointer (some ⟨B4, 0, none⟩)] w fun e w' => e = .returned (.int .i64 (scx u num den x)) ∧ w.grownBy w' (some B4) ∧ w'.heap[B4]? = some (.cells #[.int .i64 (lim + (clx u num den x : Int))] 3 (0, 0)) := by
  have hm := sc_mul h0 h1 h2 h3
  have hq := qC_small (n := x * num) h4 h5 hm.1 hm.2
  obtain ⟨p, hp⟩ : ∃ p, x * num = p := ⟨_, rfl⟩
  rw [hp] at hm hq
  have hm0 := hm.1
  have hm1 := hm.2
  have hw1 : IntKind.i64.wrap (x * num) = p := by rw [hp]; exact IntWalk.i64_in _ (by omega)
  have hf := fun W => iRound_any p den W (by omega) (by omega) (by omega) (by omega)
  obtain ⟨q, hqq⟩ : ∃ q, (2 * p + den) / (2 * den) = q := ⟨_, rfl⟩
  rw [hqq] at hf
  have hp0 := (pow_u u (by omega)).1
  have hp1 := (pow_u u (by omega)).2
  have hqq0 : qC den p = q := hqq
  have HSC : Hid (scx u num den x = min (2 ^ u - 1) (max (-(2 ^ u)) q)) := by show _ = _; unfold scx; rw [hp, hqq0]
  have HCL : Hid (clx u num den x = if scx u num den x = q then 0 else 1) := by show _ = _; unfold clx; rw [hp, hqq0]
  rw [hqq0] at hq
  have hq0 := hq.1
  have hq1 := hq.2
  have c1 := hc.c1
  have c2 := hc.c2
  have c3 := hc.c3
  have c4 := one_cell hc.c4
  have f4 := frozen_of_row w B4 0 _ _ hc.c4
  have HH := Lib.hid hc.c4
  generalize scx u num den x = y at *
  generalize clx u num den x = z at *
  generalize (2 : Int) ^ u = hh at *
  clear hqq hqq0 hp hm hq hc
  by_cases k1 : q < -hh
  · have l1 : decide (q < -hh) = true := by simpa using k1
    have k2 : -hh < hh - 1 := by omega
    have l2 : decide (-hh < hh - 1) = true := by simpa using k2
    have HY : Hid (y = -hh) := by show _ = _; rw [HSC.out]; omega
    have HZ : Hid (z = 1) := by show _ = _; rw [HCL.out, if_neg (by rw [HY.out]; omega)]
    have hne : (-hh != q) = true := by simp; omega
    clear HSC HCL
    go_enter Try.func50, Try.ntmps50
    go_wp2_with fail
    refine (hf _).mono ?_
    rintro e w' ⟨rfl, rfl⟩
    clear hf
    go_wp2
    go_ret
    exact ⟨ret_int HY.out.symm, grown_setCell _ _ _, by rw [HZ.out]; exact heap_setCell_same w B4 0 _ _ _ HH.out⟩
  · have l1 : decide (q < -hh) = false := by simp; omega
    by_cases k2 : q < hh - 1
    · have l2 : decide (q < hh - 1) = true := by simpa using k2
      have HY : Hid (y = q) := by show _ = _; rw [HSC.out]; omega
      have HZ : Hid (z = 0) := by show _ = _; rw [HCL.out, if_pos HY.out]
      clear HSC HCL
      go_enter Try.func50, Try.ntmps50
      go_wp2_with fail
      refine (hf _).mono ?_
      rintro e w' ⟨rfl, rfl⟩
      clear hf
      go_wp2
      go_ret
      exact ⟨ret_int (by have := HY.out; omega), grown_refl _ _, by rw [HZ.out]; simpa using HH.out⟩
    · have l2 : decide (q < hh - 1) = false := by simp; omega
      have HY : Hid (y = hh - 1) := by show _ = _; rw [HSC.out]; omega
      by_cases k3 : hh - 1 = q
      · have HZ : Hid (z = 0) := by show _ = _; rw [HCL.out, if_pos (by rw [HY.out]; exact k3)]
        have hne : (hh - 1 != q) = false := by simp; omega
        clear HSC HCL
        go_enter Try.func50, Try.ntmps50
        go_wp2_with fail
        refine (hf _).mono ?_
        rintro e w' ⟨rfl, rfl⟩
        clear hf
        go_wp2
        go_ret
        exact ⟨ret_int (by have := HY.out; omega), grown_refl _ _, by rw [HZ.out]; simpa using HH.out⟩
      · have HZ : Hid (z = 1) := by show _ = _; rw [HCL.out, if_neg (by rw [HY.out]; exact k3)]
        have hne : (hh - 1 != q) = true := by simp; omega
        clear HSC HCL
        go_enter Try.func50, Try.ntmps50
        go_wp2_with fail
        refine (hf _).mono ?_
        rintro e w' ⟨rfl, rfl⟩
        clear hf
        go_wp2
        go_ret
        exact ⟨ret_int HY.out.symm, grown_setCell _ _ _, by rw [HZ.out]; exact heap_setCell_same w B4 0 _ _ _ HH.out⟩


set_option maxRecDepth 100000 in
set_option maxHeartbeats 2000000 in
theorem iEachSc_any (xs : List Int) (n u B1 B2 B3 B4 : Nat) (num den lim : Int) (ao : Option Addr) (cap : Nat) (w0 w : World) (hx0 : Ints w0 ao n xs) (hgw : w0.grownBy w none) (hB0 : w0.heap.size ≤ B4) (hn : n ≤ 256) (hv : ∀ x ∈ xs, -32768 ≤ x ∧ x ≤ 32768) (h2 : 1 ≤ num) (h3 : num ≤ 64) (h4 : 1 ≤ den) (h5 : den ≤ 64) (hu : u ≤ 15) (hl0 : 0 ≤ lim) (hl1 : lim ≤ 10000) (hc : Cap4 w B1 B2 B3 B4 num den (2 ^ u) lim) :
    Calls Try.prog 49 #[.slice ao n cap, .func (.func 50) #[] #[.pointer (some ⟨B1, 0, none⟩), .pointer (some ⟨B2, 0, none⟩), .pointer (some ⟨B3, 0, none⟩), .pointer (some ⟨B4, 0, none⟩)]] w
      fun e w' => ∃ v, e = .returned v ∧ Owns w' w.heap.size v n (scL u num den xs) ∧ w.grownBy w' (some B4) ∧ w'.heap[B4]? = some (.cells #[.int .i64 (lim + (clL u num den xs : Int))] 3 (0, 0)) := by
  obtain ⟨i0, hi, hz0, hz1, hz2⟩ := info_parts info_int
  have HX := Lib.hid hx0
  have HL := Lib.hid hx0.1
  have HV := Lib.hid hv
  have HC := Lib.hid hc
  have HF := Lib.hid hgw
  have hB4 : B4 < w.heap.size := block_lt hc.c4
  have HSL : Hid ((scL u num den xs).length = n) := by show _ = _; rw [scL_len]; exact hx0.1
  clear hx0 hv hc hgw
  go_enter Try.func49, Try.ntmps49
  go_wp2_with (at_make; refine wpList_make_full _ rfl _ _ 28 rfl w.heap.size 3 i0 (.int .i64 0) 1 Try.underlying28 hi hz0 hz1 .i64 .i64 _ _ n rfl rfl rfl rfl ?b1 ?b2 ?b3 ?_)
  case b1 => rw [hz2]; omega
  case b2 => unfold maxLen; omega
  case b3 => exact Nat.le_refl _
  intro w1 hown hgrow
  have HO : Hid (w1.ownsRow w.heap.size 3 1 (.slice (some ⟨w.heap.size, 0, none⟩) n n) n (part (scL u num den xs) n 0) ∧ w.grownBy w1 (some B4) ∧ Cap4 w1 B1 B2 B3 B4 num den (2 ^ u) (lim + (clL u num den (xs.take 0) : Int))) := by
    rw [part_zero (scL u num den xs)] at hown
    exact ⟨hown, grown_any hgrow _, by simpa [clL] using HC.out.grown hgrow⟩
  clear hown hgrow
  go_wp2
  go_loopw [13] (fun i wr => ∃ k : Nat, k ≤ n ∧ i = .int .i64 k ∧ Hid (wr.ownsRow w.heap.size 3 1 (.slice (some ⟨w.heap.size, 0, none⟩) n n) n (part (scL u num den xs) n k) ∧ w.grownBy wr (some B4) ∧ Cap4 wr B1 B2 B3 B4 num den (2 ^ u) (lim + (clL u num den (xs.take k) : Int)))) (fun i _ => n - (intOf i).toNat)
  case atStart => exact ⟨0, Nat.zero_le _, rfl, HO⟩
  case round =>
    clear HO
    obtain ⟨k, hk, rfl, HW⟩ := hrel
    by_cases hlt : k < n
    · obtain ⟨x, hxk⟩ : ∃ x, xs[k]? = some x := ⟨_, List.getElem?_eq_getElem (by rw [HL.out]; exact hlt)⟩
      obtain ⟨b, off, rfl, hc⟩ := HX.out.2.resolve_left (by intro e; subst e; simp at hxk)
      have hbl : b < w0.heap.size := block_lt_of_cell (hc k x hxk)
      have hcx : wr.cell? ⟨b, off + k, none⟩ = some (.int .i64 x) := HW.out.2.1.cell (HF.out.cell (hc k x hxk) (by simp)) (by simp; omega)
      have hxr := HV.out x (List.mem_of_getElem? hxk)
      have hcl := clL_le u num den (xs.take k)
      have hlk : (xs.take k).length ≤ 256 := by rw [List.length_take]; omega
      obtain ⟨lm, hlm⟩ : ∃ lm, lim + (clL u num den (xs.take k) : Int) = lm := ⟨_, rfl⟩
      have hcall := iSc1_any x num den lm u B1 B2 B3 B4 wr hxr.1 hxr.2 h2 h3 h4 h5 hu (by omega) (by omega) (by rw [← hlm]; exact HW.out.2.2)
      have hsk : (scL u num den xs)[k]? = some (scx u num den x) := by unfold scL; rw [List.getElem?_map, hxk]; rfl
      have HT : Hid (lm + (clx u num den x : Int) = lim + (clL u num den (xs.take (k + 1)) : Int)) := by show _ = _; rw [clL_take hxk]; omega
      have HSK := Lib.hid hsk
      generalize scx u num den x = y at *
      clear hc hxk hxr hcl hlk hsk hlm
      go_wp2_with fail
      refine hcall.mono ?_
      rintro e w2 ⟨rfl, hg2, hh2⟩
      rw [HT.out] at hh2
      have hcap := HW.out.2.2.more hg2 hh2
      have hown := World.ownsRow.kept HW.out.1 hg2 (Or.inr (by simp [Value.ownBlock]; omega))
      have hcell : w2.cell? ⟨w.heap.size, k, none⟩ = some (.int .i64 0) := by
        rw [World.ownsRow.cellAt hown k (by omega)]; exact part_get HSL.out hlt
      have hfz : w2.frozen? ⟨w.heap.size, k, none⟩ = false := World.ownsRow.frozenAt hown k
      have R : Hid ((w2.setCell ⟨w.heap.size, k, none⟩ (.int .i64 y)).ownsRow w.heap.size 3 1 (.slice (some ⟨w.heap.size, 0, none⟩) n n) n (part (scL u num den xs) n (k + 1)) ∧ w.grownBy (w2.setCell ⟨w.heap.size, k, none⟩ (.int .i64 y)) (some B4) ∧ Cap4 (w2.setCell ⟨w.heap.size, k, none⟩ (.int .i64 y)) B1 B2 B3 B4 num den (2 ^ u) (lim + (clL u num den (xs.take (k + 1)) : Int))) := by
        have hst := World.ownsRow.stored hown k (.int .i64 y)
        rw [part_set HSL.out HSK.out] at hst
        have l1 : B1 < w.heap.size := block_lt_of_cell HC.out.c1
        have l2 : B2 < w.heap.size := block_lt_of_cell HC.out.c2
        have l3 : B3 < w.heap.size := block_lt_of_cell HC.out.c3
        exact ⟨hst.1, grown_row (grown_trans HW.out.2.1 hg2) hst.2 (fun g e => by injection e with e; omega), hcap.far hst.2 (by omega) (by omega) (by omega) (by omega)⟩
      clear hcall hg2 hh2 hcap hown HW
      go_wp2
      go_roundw
      case rel => exact ⟨k + 1, by omega, by go_num, R⟩
      case measure => simp [intOf]; omega
    · obtain rfl : k = n := by omega
      have R : Hid (Owns wr w.heap.size (.slice (some ⟨w.heap.size, 0, none⟩) k k) k (scL u num den xs) ∧ w.grownBy wr (some B4) ∧ wr.heap[B4]? = some (.cells #[.int .i64 (lim + (clL u num den xs : Int))] 3 (0, 0))) := by
        have h := HW.out
        rw [part_full HSL.out, List.take_of_length_le (by rw [HL.out]; exact Nat.le_refl _)] at h
        exact ⟨h.1, h.2.1, h.2.2.c4⟩
      clear HW
      go_wp2
      go_ret
      exact ⟨_, rfl, R.out⟩

theorem iIn2 (x y lo hi : Int) (b : Bool) (w : World) (B : Nat) (hB : w.heap.size = B) (hv : (inB x lo hi && inB y lo hi) = b) :
    Calls Try.prog 44 #[.int .i64 lo, .int .i64 hi, .slice (some ⟨B, 0, none⟩) 2 2] (w.alloc (.cells #[.int .i64 x, .int .i64 y] 3)) fun e w' => e = .returned (.bool b) ∧ w.alloc (.cells #[.int .i64 x, .int .i64 y] 3) = w' := by
  subst hB
  refine iAllIn_any [x, y] lo hi _ 2 2 _ b ⟨rfl, Or.inr ⟨w.heap.size, 0, rfl, fun k z hk => ?_⟩⟩ (by omega) (by rw [← hv]; simp [allB])
  have h := heap_alloc_new w (.cells #[.int .i64 x, .int .i64 y] 3)
  match k, hk with
  | 0, hk => simp at hk; subst hk; rw [cell_of_row _ _ _ _ _ _ h]; rfl
  | 1, hk => simp at hk; subst hk; rw [cell_of_row _ _ _ _ _ _ h]; rfl

/-- The blocks that the call lays first: the argument, the factor, the divisor, the place of the result. -/
structure Pre4 (w0 w : World) (r d num den : Int) (A : Value) (B : Nat) : Prop where
  box : w.heap[B]? = some (.cells #[.int .i64 r, .int .i64 d, A] 25 (0, 0))
  bn : w.heap[B + 1]? = some (.cells #[.int .i64 num] 3 (0, 0))
  bd : w.heap[B + 2]? = some (.cells #[.int .i64 den] 3 (0, 0))
  res : w.heap[B + 3]? = some (.cells #[.int .i64 0, .int .i64 0, .slice none 0 0] 25)
theorem pre4 {w0 w w' : World} {r d num den : Int} {A : Value} {B : Nat} (hg : w.grownBy w' none) (h : Pre4 w0 w r d num den A B) : Pre4 w0 w' r d num den A B :=
  ⟨grown_heap hg h.box (by simp), grown_heap hg h.bn (by simp), grown_heap hg h.bd (by simp), grown_heap hg h.res (by simp)⟩
theorem own_an3 {w w1 : World} {B len base : Nat} {v x y z : Value} {yss : List (List Int)} (h : MOwn w1 base v len yss) (hg : w.grownBy w1 none) (hB : w.heap.size ≤ B) (hb : B < base) :
    MOwn (((w1.setCell ⟨B, 0, none⟩ x).setCell ⟨B, 1, none⟩ y).setCell ⟨B, 2, none⟩ z) w.heap.size v len yss ∧ w.grownBy (((w1.setCell ⟨B, 0, none⟩ x).setCell ⟨B, 1, none⟩ y).setCell ⟨B, 2, none⟩ z) none :=
  ⟨(((h.set _ _ (by show B < _; omega)).set _ _ (by show B < _; omega)).set _ _ (by show B < _; omega)).base_le (by omega), grown_set (grown_set (grown_set hg (by show _ ≤ B; omega)) (by show _ ≤ B; omega)) (by show _ ≤ B; omega)⟩

/-- Inside the call: the four blocks; half the range, how many were limited, and the audio that is being made, in the blocks B, B + 1 and B + 2; its rows so far. -/
structure II (w wr : World) (B : Nat) (r d num den h : Int) (A : Value) (yss : List (List Int)) (c k : Nat) (v : Value) : Prop where
  gr : w.grownBy wr none
  pre : Pre4 w wr r d num den A w.heap.size
  cap : Cap4 wr (w.heap.size + 1) (w.heap.size + 2) B (B + 1) num den h (c : Int)
  blk : wr.heap[B + 2]? = some (.cells #[.int .i64 r, .int .i64 d, v] 25 (0, 0))
  own : MOwn wr (B + 3) v k (yss.take k)
  lo : w.heap.size + 4 ≤ B
theorem ii_start {w w2 : World} {r d num den h : Int} {A : Value} {yss : List (List Int)} (hp : Pre4 w w2 r d num den A w.heap.size) (hg : w.grownBy w2 none) :
    II w (((w2.alloc (.cells #[.int .i64 h] 3)).alloc (.cells #[.int .i64 0] 3)).alloc (.cells #[.int .i64 r, .int .i64 d, .slice none 0 0] 25)) w2.heap.size r d num den h A yss 0 0 (.slice none 0 0) := by
  have g1 := grown_alloc w2 (.cells #[.int .i64 h] 3) none
  have g2 := grown_alloc (w2.alloc (.cells #[.int .i64 h] 3)) (.cells #[.int .i64 0] 3) none
  have g3 := grown_alloc ((w2.alloc (.cells #[.int .i64 h] 3)).alloc (.cells #[.int .i64 0] 3)) (.cells #[.int .i64 r, .int .i64 d, .slice none 0 0] 25) none
  have hz := block_lt hp.res
  have a1 := heap_alloc_new w2 (.cells #[.int .i64 h] 3)
  have a2 := heap_alloc_new (w2.alloc (.cells #[.int .i64 h] 3)) (.cells #[.int .i64 0] 3)
  have a3 := heap_alloc_new ((w2.alloc (.cells #[.int .i64 h] 3)).alloc (.cells #[.int .i64 0] 3)) (.cells #[.int .i64 r, .int .i64 d, .slice none 0 0] 25)
  simp only [World.size_alloc] at a2 a3
  have gg := grown_trans (grown_trans g1 g2) g3
  have hp' := pre4 gg hp
  exact ⟨grown_trans hg gg, hp', ⟨one_cell hp'.bn, one_cell hp'.bd, one_cell (grown_heap (grown_trans g2 g3) a1 (by simp)), grown_heap g3 a2 (by simp), by omega, by omega, by omega⟩, a3, mown_nil _ _, by omega⟩

theorem cell_drew {w : World} {a : Addr} {v : Value} (h : w.cell? a = some v) : w.drew.cell? a = some v := h
theorem ii_cell {w wr w5 w6 : World} {B : Nat} {r d num den h : Int} {A u v : Value} {yss : List (List Int)} {c k : Nat} (i : II w wr B r d num den h A yss c k v) (h5 : wr.grownBy w5 (some (B + 1))) (h6 : (w5.alloc (.cells #[u] 28)).grownBy w6 v.ownBlock) :
    w6.cell? ⟨B + 2, 2, none⟩ = some v ∧ w6.frozen? ⟨B + 2, 2, none⟩ = false := by
  have hb : w6.heap[B + 2]? = some (.cells #[.int .i64 r, .int .i64 d, v] 25 (0, 0)) :=
    grown_heap h6 (grown_heap (grown_trans h5 (grown_alloc _ _ _)) i.blk (by simp)) (fun e => by have := i.own.block _ e; omega)
  exact ⟨(three_cells hb).2.2, frozen_of_row w6 _ 2 _ _ hb⟩
theorem II.next {w wr w5 w6 : World} {B : Nat} {r d num den h : Int} {A u v v6 : Value} {yss : List (List Int)} {c k cl : Nat} (i : II w wr B r d num den h A yss c k v) (h5 : wr.grownBy w5 (some (B + 1))) (hh : w5.heap[B + 1]? = some (.cells #[.int .i64 ((c : Int) + (cl : Int))] 3 (0, 0))) (h6 : (w5.alloc (.cells #[u] 28)).grownBy w6 v.ownBlock)
    (ho : MOwn w6 (B + 3) v6 (k + 1) (yss.take (k + 1))) : II w (w6.setCell ⟨B + 2, 2, none⟩ v6) B r d num den h A yss (c + cl) (k + 1) v6 := by
  have hlo := i.lo
  have hv : ∀ g, v.ownBlock = some g → B + 3 ≤ g := i.own.block
  have g5 := grown_trans h5 (grown_alloc w5 (.cells #[u] 28) (some (B + 1)))
  have gs := grown_setCell w6 ⟨B + 2, 2, none⟩ v6
  have far : ∀ C, C < B + 1 → ∀ o, wr.heap[C]? = some o → (w6.setCell ⟨B + 2, 2, none⟩ v6).heap[C]? = some o := fun C hC o ho => grown_heap gs (grown_heap h6 (grown_heap g5 ho (by simp; omega)) (fun e => by have := hv _ e; omega)) (by simp; omega)
  have b1 : w6.heap[B + 1]? = some (.cells #[.int .i64 ((c : Int) + (cl : Int))] 3 (0, 0)) := grown_heap h6 (grown_heap (grown_alloc w5 _ none) hh (by simp)) (fun e => by have := hv _ e; omega)
  have b2 : w6.heap[B + 2]? = some (.cells #[.int .i64 r, .int .i64 d, v] 25 (0, 0)) := grown_heap h6 (grown_heap g5 i.blk (by simp)) (fun e => by have := hv _ e; omega)
  have h3 := heap_setCell_same w6 (B + 2) 2 _ _ v6 b2
  refine ⟨grown_set (grown_row (grown_new i.gr g5 (by omega)) h6 (fun g e => by have := hv g e; omega)) (by show _ ≤ B + 2; omega), ⟨far _ (by omega) _ i.pre.box, far _ (by omega) _ i.pre.bn, far _ (by omega) _ i.pre.bd, far _ (by omega) _ i.pre.res⟩, ⟨one_cell (far _ (by omega) _ i.pre.bn), one_cell (far _ (by omega) _ i.pre.bd), ?_, ?_, by omega, by omega, by omega⟩, h3, ho.set _ _ (by show B + 2 < _; omega), hlo⟩
  · have := cell_st1 (a := ⟨B, 0, none⟩) (b := ⟨B + 2, 2, none⟩) (x := v6) ((h6.cell ((g5.cell i.cap.c3 (by simp))) (fun e => by have := hv B (by simpa using e.symm); omega))) (by simp)
    exact this
  · rw [heap_setCell_other _ ⟨B + 2, 2, none⟩ _ _ (by simp), b1]
    simp

set_option maxRecDepth 100000 in
set_option maxHeartbeats 4000000 in
theorem iSc_any (xss : List (List Int)) (ao : Option Addr) (len cap : Nat) (r d num den : Int) (w : World) (rr dd n : Int) (yss : List (List Int)) (ok : Bool) (hx : Mat w ao len xss) (hs : szL xss ≤ 1048576) (hv : ScR r d num den xss rr dd yss n ok) :
    Calls Try.prog 23 #[.agg #[.int .i64 r, .int .i64 d, .slice ao len cap], .int .i64 num, .int .i64 den] w (MadeAN yss rr dd n ok w) := by
  have hg0 : w.grownBy ((((w.alloc (.cells #[.int .i64 r, .int .i64 d, .slice ao len cap] 25)).alloc (.cells #[.int .i64 num] 3)).alloc (.cells #[.int .i64 den] 3)).alloc (.cells #[.int .i64 0, .int .i64 0, .slice none 0 0] 25)) none := grown_trans (grown_trans (grown_trans (grown_alloc _ _ _) (grown_alloc _ _ _)) (grown_alloc _ _ _)) (grown_alloc _ _ _)
  have k1 := iVAu_any xss ao len cap r d ((((w.alloc (.cells #[.int .i64 r, .int .i64 d, .slice ao len cap] 25)).alloc (.cells #[.int .i64 num] 3)).alloc (.cells #[.int .i64 den] 3)).alloc (.cells #[.int .i64 0, .int .i64 0, .slice none 0 0] 25)) _ (hx.grown hg0) hs rfl
  have hp0 : Pre4 w ((((w.alloc (.cells #[.int .i64 r, .int .i64 d, .slice ao len cap] 25)).alloc (.cells #[.int .i64 num] 3)).alloc (.cells #[.int .i64 den] 3)).alloc (.cells #[.int .i64 0, .int .i64 0, .slice none 0 0] 25)) r d num den (.slice ao len cap) w.heap.size := by
    have a1 := heap_alloc_new w (.cells #[.int .i64 r, .int .i64 d, .slice ao len cap] 25)
    have a2 := heap_alloc_new (w.alloc (.cells #[.int .i64 r, .int .i64 d, .slice ao len cap] 25)) (.cells #[.int .i64 num] 3)
    have a3 := heap_alloc_new ((w.alloc (.cells #[.int .i64 r, .int .i64 d, .slice ao len cap] 25)).alloc (.cells #[.int .i64 num] 3)) (.cells #[.int .i64 den] 3)
    have a4 := heap_alloc_new (((w.alloc (.cells #[.int .i64 r, .int .i64 d, .slice ao len cap] 25)).alloc (.cells #[.int .i64 num] 3)).alloc (.cells #[.int .i64 den] 3)) (.cells #[.int .i64 0, .int .i64 0, .slice none 0 0] 25)
    simp only [World.size_alloc] at a2 a3 a4
    exact ⟨grown_heap (grown_trans (grown_trans (grown_alloc _ _ none) (grown_alloc _ _ _)) (grown_alloc _ _ _)) a1 (by simp), grown_heap (grown_trans (grown_alloc _ _ none) (grown_alloc _ _ _)) a2 (by simp), grown_heap (grown_alloc _ _ none) a3 (by simp), a4⟩
  cases hva : vAu r d xss with
  | false =>
    rw [hva] at k1
    obtain ⟨rfl, rfl, rfl, rfl, rfl⟩ : rr = 0 ∧ dd = 0 ∧ n = 0 ∧ ok = false ∧ yss = [] := by
      rcases hv with ⟨_, _, _, _, _, u, H, hV, _⟩ | ⟨h1, h2, h3, h4, h5, _⟩
      · rw [va_back hV] at hva; cases hva
      · exact ⟨h2, h3, h5, h1, h4⟩
    clear hx hs hva hv
    go_enter Try.func23, Try.ntmps23
    go_wp2_with fail
    refine k1.mono ?_
    rintro e w1 ⟨rfl, hg⟩
    have HG := Lib.hid (grown_trans hg0 hg)
    have HP := Lib.hid (pre4 hg hp0)
    clear k1 hg hp0
    obtain ⟨z0, z1, z2⟩ := three_cells HP.out.res
    have f0 := frozen_of_row w1 _ 0 _ _ HP.out.res
    have f1 := frozen_of_row w1 _ 1 _ _ HP.out.res
    have f2 := frozen_of_row w1 _ 2 _ _ HP.out.res
    go_wp2
    refine bodyPost_ret (v := .tuple #[.agg #[.int .i64 0, .int .i64 0, .slice none 0 0], .int .i64 0, .bool false]) (by simp [results, Try.results23, go_sem, z0, z1, z2]) rfl ⟨_, rfl, ?_⟩
    exact own_an3 (mown_nil _ (w.heap.size + 4)) HG.out (by omega) (by omega)
  | true =>
  rw [hva] at k1
  by_cases hnd : ¬ ((1 ≤ num ∧ num ≤ 64) ∧ (1 ≤ den ∧ den ≤ 64))
  · obtain ⟨rfl, rfl, rfl, rfl, rfl⟩ : rr = 0 ∧ dd = 0 ∧ n = 0 ∧ ok = false ∧ yss = [] := by
      rcases hv with ⟨_, _, _, h1, h2, _⟩ | ⟨h1, h2, h3, h4, h5, _⟩
      · exact absurd ⟨h1, h2⟩ hnd
      · exact ⟨h2, h3, h5, h1, h4⟩
    have k2 := fun W (B : Nat) (hB : W.heap.size = B) => iIn2 num den 1 64 false W B hB (by rw [Bool.and_eq_false_iff]; exact (Classical.em (1 ≤ num ∧ num ≤ 64)).elim (fun h => Or.inr (inB_false (fun g => hnd ⟨h, g⟩))) (fun h => Or.inl (inB_false h)))
    clear hx hs hva hv hnd
    go_enter Try.func23, Try.ntmps23
    go_wp2_with fail
    refine k1.mono ?_
    rintro e w1 ⟨rfl, hg⟩
    have HG := Lib.hid (grown_trans hg0 hg)
    have HP := Lib.hid (pre4 hg hp0)
    clear k1 hg hp0
    have q1 := one_cell HP.out.bn
    have q2 := one_cell HP.out.bd
    go_wp2_with fail
    refine (k2 w1 _ rfl).mono ?_
    rintro e w2 ⟨rfl, rfl⟩
    have HP2 := Lib.hid (pre4 (grown_alloc w1 (.cells #[.int .i64 num, .int .i64 den] 3) none) HP.out)
    have HG2 := Lib.hid (grown_trans HG.out (grown_alloc w1 (.cells #[.int .i64 num, .int .i64 den] 3) none))
    generalize w1.alloc (.cells #[.int .i64 num, .int .i64 den] 3) = w2 at *
    obtain ⟨z0, z1, z2⟩ := three_cells HP2.out.res
    have f0 := frozen_of_row w2 _ 0 _ _ HP2.out.res
    have f1 := frozen_of_row w2 _ 1 _ _ HP2.out.res
    have f2 := frozen_of_row w2 _ 2 _ _ HP2.out.res
    clear q1 q2 k2
    go_wp2
    refine bodyPost_ret (v := .tuple #[.agg #[.int .i64 0, .int .i64 0, .slice none 0 0], .int .i64 0, .bool false]) (by simp [results, Try.results23, go_sem, z0, z1, z2]) rfl ⟨_, rfl, ?_⟩
    exact own_an3 (mown_nil _ (w.heap.size + 4)) HG2.out (by omega) (by omega)
  have hnd := Classical.not_not.1 hnd
  obtain ⟨rfl, rfl, rfl, u, H, hV, rfl, rfl⟩ : r = rr ∧ d = dd ∧ ok = true ∧ ∃ u H, VA r d xss u H ∧ yss = xss.map (scL u num den) ∧ n = (clM u num den xss : Int) := by
    rcases hv with ⟨h1, h2, h3, _, _, u, H, hV, h4, h5⟩ | ⟨_, _, _, _, _, h1⟩
    · exact ⟨h2.symm, h3.symm, h1, u, H, hV, h4, h5⟩
    · exact absurd ⟨hva, hnd.1, hnd.2⟩ h1
  have HX := Lib.hid hx
  have HL := Lib.hid hx.1
  have HV := Lib.hid hV
  have hlen : len ≤ 2 := by have := hV.ch.2; rw [hx.1] at this; exact this
  have hlen1 : 1 ≤ len := by have := hV.ch.1; rw [hx.1] at this; exact this
  have hH : H ≤ 256 := hV.hh
  have hn1 := hnd.1.1
  have hn2 := hnd.1.2
  have hd1 := hnd.2.1
  have hd2 := hnd.2.2
  have hu15 := hV.u15
  have hHD := hV.dep
  have HXS : Hid (∀ (k : Nat) (xs : List Int), xss[k]? = some xs → xs.length ≤ 256 ∧ ∀ x ∈ xs, -32768 ≤ x ∧ x ≤ 32768) := va_rows hV
  have k2 := fun W (B : Nat) (hB : W.heap.size = B) => iIn2 num den 1 64 true W B hB (by rw [inB_true hn1 hn2, inB_true hd1 hd2]; rfl)
  obtain ⟨b, off, rfl, hc⟩ := hx.2.resolve_left (by intro e; have := hx.1; rw [e] at this; simp at this; omega)
  have HC := Lib.hid hc
  have HPD := Lib.hid hHD
  have hwu : IntKind.i64.wrap (u : Int) = (u : Int) := IntWalk.i64_in _ (by omega)
  have hp0' := (pow_u u (by omega)).1
  have hp1' := (pow_u u (by omega)).2
  have hw0 : IntKind.i64.wrap (2 ^ u) = 2 ^ u := IntWalk.i64_in _ (by omega)
  have hus : (u : Int).toNat = u := by simp
  have hu00 : (0 : Int) ≤ (u : Int) := by omega
  have hu01 : (u : Int) ≤ 64 := by omega
  subst hHD
  clear hx hs hva hv hnd hV hc
  go_enter Try.func23, Try.ntmps23
  go_wp2_with fail
  refine k1.mono ?_
  rintro e w1 ⟨rfl, hg⟩
  have HG := Lib.hid (grown_trans hg0 hg)
  have HP := Lib.hid (pre4 hg hp0)
  clear k1 hg hp0
  have q1 := one_cell HP.out.bn
  have q2 := one_cell HP.out.bd
  go_wp2_with fail
  refine (k2 w1 _ rfl).mono ?_
  rintro e w2 ⟨rfl, rfl⟩
  have HP2 := Lib.hid (pre4 (grown_alloc w1 (.cells #[.int .i64 num, .int .i64 den] 3) none) HP.out)
  have HG2 := Lib.hid (grown_trans HG.out (grown_alloc w1 (.cells #[.int .i64 num, .int .i64 den] 3) none))
  generalize w1.alloc (.cells #[.int .i64 num, .int .i64 den] 3) = w2 at *
  clear q1 q2 k2 HP HG
  obtain ⟨q0, q1, q2⟩ := three_cells HP2.out.box
  have hz := block_lt HP2.out.res
  have x0 := cell_al (o := .cells #[.int .i64 0] 3) (cell_al (o := .cells #[.int .i64 (2 ^ u)] 3) q0)
  have x1 := cell_al (o := .cells #[.int .i64 0] 3) (cell_al (o := .cells #[.int .i64 (2 ^ u)] 3) q1)
  have x2 := cell_al (o := .cells #[.int .i64 r, .int .i64 ((u : Int) + 1), .slice none 0 0] 25) (cell_al (o := .cells #[.int .i64 0] 3) (cell_al (o := .cells #[.int .i64 (2 ^ u)] 3) q2))
  have HI : Hid (II w (((w2.alloc (.cells #[.int .i64 (2 ^ u)] 3)).alloc (.cells #[.int .i64 0] 3)).alloc (.cells #[.int .i64 r, .int .i64 ((u : Int) + 1), .slice none 0 0] 25)) w2.heap.size r ((u : Int) + 1) num den (2 ^ u) (.slice (some ⟨b, off, none⟩) len cap) (xss.map (scL u num den)) 0 0 (.slice none 0 0)) := ii_start HP2.out HG2.out
  go_wp2
  go_loopw [37] (fun iv wr => ∃ (k c : Nat) (v : Value), k ≤ len ∧ iv = .int .i64 k ∧ c ≤ 256 * k ∧ Hid (II w wr w2.heap.size r ((u : Int) + 1) num den (2 ^ u) (.slice (some ⟨b, off, none⟩) len cap) (xss.map (scL u num den)) c k v ∧ clM u num den (xss.take k) = c)) (fun iv _ => len - (intOf iv).toNat)
  case atStart => exact ⟨0, 0, _, Nat.zero_le _, rfl, Nat.zero_le _, HI, rfl⟩
  case round =>
    clear HI x0 x1 x2 q0 q1 q2
    obtain ⟨k, c, v, hk, rfl, hc6, HW⟩ := hrel
    by_cases hlt : k < len
    · obtain ⟨xs, hxk⟩ : ∃ xs, xss[k]? = some xs := ⟨_, List.getElem?_eq_getElem (by rw [HL.out]; exact hlt)⟩
      obtain ⟨ux, hux, a, cc, rfl, hin, hlc, hcm, _⟩ := HC.out k xs hxk
      have q3 := HW.out.1.gr.cell hux (by simp)
      have hrow := HXS.out k xs hxk
      have hcl := clM_le HV.out num den k
      have HCE : Hid (clM u num den (xss.take (k + 1)) = c + clL u num den xs) := by show _ = _; rw [clM_take hxk, HW.out.2]
      have hcl2 := clL_le u num den xs
      have HYS : Hid ((xss.map (scL u num den)).take (k + 1) = (xss.map (scL u num den)).take k ++ [scL u num den xs]) := by
        show _ = _
        rw [List.take_add_one, List.getElem?_map, hxk]; rfl
      have kE := fun W (hgW : wr.grownBy W none) => iEachSc_any xs xs.length u (w.heap.size + 1) (w.heap.size + 2) w2.heap.size (w2.heap.size + 1) num den (c : Int) a cc w W hin (grown_trans HW.out.1.gr hgW) (by have := HW.out.1.lo; omega) hrow.1 hrow.2 hn1 hn2 hd1 hd2 hu15 (by omega) (by omega) (HW.out.1.cap.grown hgW)
      have hxl : (scL u num den xs).length = xs.length := scL_len _ _ _ _
      have HXL := Lib.hid hxl
      have hnx := hrow.1
      obtain ⟨k0, k1, k2a⟩ := three_cells HW.out.1.blk
      have k2 : wr.cell? ⟨w2.heap.size + 1 + 1, 2, none⟩ = some v := k2a
      have hBs := block_lt HW.out.1.blk
      have hlo := HW.out.1.lo
      have hck : c + clL u num den xs ≤ 256 * (k + 1) := by omega
      generalize xs.length = nx at *
      clear hux hin hlc hcm hxk hrow hcl hcl2 hxl
      go_wp2_with fail
      go_region_law (first
          | (refine step_append_row rfl _ _ rfl (w2.heap.size + 3) v k _ rfl HW.out.1.own HGX.out (fun g e => by injection e with e; omega) (.slice a5 nx c5) _ HROW.out (grown_alloc _ _ _) ⟨w5.heap.size, 0, none⟩ 1 rfl HU5.out (by omega) (by omega) ?_; intro g6 c6 w6 ho6 hg6 hn6 hl6; obtain ⟨r2, f2⟩ : w6.cell? ⟨w2.heap.size + 1 + 1, 2, none⟩ = some v ∧ w6.frozen? ⟨w2.heap.size + 1 + 1, 2, none⟩ = false := ii_cell HW.out.1 HGX.out hg6; have HO6 := Lib.hid ho6; have HG6 := Lib.hid hg6; clear ho6 hg6 hn6 hl6)
          | (go_simp; go_at_call 49; refine (kE _ (grown_drew _ _)).mono ?_; rintro e w5 ⟨v5, rfl, ho5, hg5, hh5⟩; obtain ⟨a5, c5, rfl, _⟩ := ho5.reads; have k2' := hg5.cell k2 (by simp); have k3' := cell_al (o := .cells #[.slice a5 nx c5] 28) k2'; have HGX : Hid (wr.grownBy w5 (some (w2.heap.size + 1))) := Lib.hid (grown_trans (grown_drew wr _) hg5); have HROW : Hid (Owns w5 wr.heap.size (.slice a5 nx c5) (scL u num den xs).length (scL u num den xs)) := (by show Owns _ _ _ _ _; rw [HXL.out]; exact ho5); have HH5 := Lib.hid hh5; have HU5 := Lib.hid (one_cell (heap_alloc_new w5 (.cells #[.slice a5 nx c5] 28))); clear ho5 hg5 hh5))
      all_goals
        go_simp
        have HN : Hid (II w (w6.setCell ⟨w2.heap.size + 2, 2, none⟩ (.slice (some ⟨g6, 0, none⟩) (k + 1) c6)) w2.heap.size r ((u : Int) + 1) num den (2 ^ u) (.slice (some ⟨b, off, none⟩) len cap) (xss.map (scL u num den)) (c + clL u num den xs) (k + 1) (.slice (some ⟨g6, 0, none⟩) (k + 1) c6)) := HW.out.1.next HGX.out HH5.out HG6.out (by rw [HYS.out]; exact HO6.out)
        clear k0 k1 k2 k2a k2' k3' r2 f2 HO6 HG6 HROW HU5 HGX HW
        go_wp2
        go_roundw
        case rel => exact ⟨k + 1, _, _, by omega, by go_num, hck, HN, HCE.out⟩
        case measure => simp [intOf]; omega
    · obtain rfl : k = len := by omega
      have HF : Hid (MOwn wr (w2.heap.size + 3) v (xss.map (scL u num den)).length (xss.map (scL u num den)) ∧ w.grownBy wr none ∧ clM u num den xss = c) := by
        have h1 := HW.out.1.own
        have h2 := HW.out.2
        rw [List.take_of_length_le (by rw [List.length_map, HL.out]; exact Nat.le_refl _)] at h1
        rw [List.take_of_length_le (by rw [HL.out]; exact Nat.le_refl _)] at h2
        refine ⟨?_, HW.out.1.gr, h2⟩
        rw [List.length_map, HL.out]; exact h1
      obtain ⟨M, cM, rfl, _⟩ := HW.out.1.own.form hlen1
      have HCZ : Hid ((clM u num den xss : Int) = (c : Int)) := by show _ = _; rw [HF.out.2.2]
      obtain ⟨k0a, k1a, k2a⟩ := three_cells HW.out.1.blk
      have k0 : wr.cell? ⟨w2.heap.size + 1 + 1, 0, none⟩ = _ := k0a
      have k1 : wr.cell? ⟨w2.heap.size + 1 + 1, 1, none⟩ = _ := k1a
      have k2 : wr.cell? ⟨w2.heap.size + 1 + 1, 2, none⟩ = _ := k2a
      have hlo := HW.out.1.lo
      have hres : wr.heap[w.heap.size + 1 + 1 + 1]? = _ := HW.out.1.pre.res
      have k9 := one_cell HW.out.1.cap.c4
      obtain ⟨z0, z1, z2⟩ := three_cells hres
      have f0 := frozen_of_row wr _ 0 _ _ hres
      have f1 := frozen_of_row wr _ 1 _ _ hres
      have f2 := frozen_of_row wr _ 2 _ _ hres
      have hne1 : w2.heap.size + 1 ≠ w.heap.size + 1 + 1 + 1 := by omega
      have HQ0 : Hid ((((wr.setCell ⟨w.heap.size + 1 + 1 + 1, 0, none⟩ (.int .i64 r)).setCell ⟨w.heap.size + 1 + 1 + 1, 1, none⟩ (.int .i64 ((u : Int) + 1))).setCell ⟨w.heap.size + 1 + 1 + 1, 2, none⟩ (.slice (some ⟨M, 0, none⟩) k cM)).cell? ⟨w2.heap.size + 1, 0, none⟩ = some (.int .i64 c)) := cell_st3 k9 hne1
      have hne2 : w2.heap.size + 1 + 1 ≠ w.heap.size + 1 + 1 + 1 := by omega
      clear HW hres k0a k1a k2a HQ0
      go_wp2_with fail
      have hq9 : ((((wr.drew).setCell ⟨w.heap.size + 1 + 1 + 1, 0, none⟩ (.int .i64 r)).setCell ⟨w.heap.size + 1 + 1 + 1, 1, none⟩ (.int .i64 ((u : Int) + 1))).setCell ⟨w.heap.size + 1 + 1 + 1, 2, none⟩ (.slice (some ⟨M, 0, none⟩) k cM)).cell? ⟨w2.heap.size + 1, 0, none⟩ = some (.int .i64 c) := cell_st3 (w := wr.drew) k9 hne1
      go_region_law (fail)
      all_goals
        go_simp
        go_wp2
        refine bodyPost_ret (v := .tuple #[.agg #[.int .i64 r, .int .i64 ((u : Int) + 1), .slice (some ⟨M, 0, none⟩) k cM], .int .i64 (c : Int), .bool true]) (by simp [results, Try.results23, go_sem, z0, z1, z2]) rfl ⟨_, by rw [HCZ.out], ?_⟩
        exact own_an3 (w1 := wr.drew) (HF.out.1.grown (grown_drew _ _)) (grown_trans HF.out.2.1 (grown_drew _ _)) (by omega) (by omega)

end Go.Proofs.Ythjelbanelmekaa
