/-
  Predictions of the program: the weighted sum and what a linear predictor guesses. For valid coefficients and samples.
-/
import Derived.Test.YtgiiaijlahjfnaaLinM
import Derived.Test.YtgiiaijlahjfnaaVR
namespace Go.Proofs.Ytgiiaijlahjfnaa
open Go.RowKit

set_option maxHeartbeats 400000 in
theorem iWTerm_any (ys : List Int) (i m : Nat) (c x : Int) (B : Nat) (ao : Option Addr) (cap : Nat) (w : World) (hx : Ints w ao m ys) (hc : w.cell? ⟨B, 0, none⟩ = some (.slice ao m cap)) (hi : i < m) (hx2 : ys[m - 1 - i]? = some x)
    (hm : m ≤ 64) (h0 : -4095 ≤ c) (h1 : c ≤ 4095) (h2 : -65536 ≤ x) (h3 : x ≤ 65536) :
    Calls Try.prog 87 #[.int .i64 (i : Int), .int .i64 c, .pointer (some ⟨B, 0, none⟩)] w fun e w' => e = .returned (.int .i64 (c * x)) ∧ w = w' := by
  have hp := prod_range4 h0 h1 h2 h3
  have hp0 := hp.1
  have hp1 := hp.2
  obtain ⟨b, off, rfl, hcc⟩ := hx.2.resolve_left (by intro e; subst e; simp at hx2)
  obtain ⟨j, hj⟩ : ∃ j, m - 1 - i = j := ⟨_, rfl⟩
  rw [hj] at hx2
  have hcx := hcc j x hx2
  have hji : (m : Int) - 1 - (i : Int) = (j : Int) := by omega
  have hjm : j < m := by omega
  clear hp hx hcc hx2 hj
  go_enter Try.func87, Try.ntmps87
  go_wp2
  go_ret
  exact ⟨rfl, rfl⟩

set_option maxHeartbeats 1000000 in
theorem sumW_any (cs ys : List Int) (n m : Nat) (z : Int) (B : Nat) (yo ao : Option Addr) (ycap cap : Nat) (w : World) (hx : Ints w ao m ys) (hy : Ints w yo n cs) (hc : w.cell? ⟨B, 0, none⟩ = some (.slice ao m cap)) (hn : n ≤ m) (hm : m ≤ 64)
    (hcs : allB cs (-4095) 4095 = true) (hys : allB ys (-65536) 65536 = true) (hz : prS cs ys m n = z) :
    Calls Try.prog 64 #[.slice yo n ycap, .func (.func 87) #[] #[.pointer (some ⟨B, 0, none⟩)]] w fun e w' => e = .returned (.int .i64 z) ∧ w = w' := by
  subst hz
  by_cases h0 : n = 0
  · subst h0
    clear hx hy hc hcs hys
    go_enter Try.func64, Try.ntmps64
    go_wp2
    refine wp_loop_rounds 1 ?_
    rw [rounds_succ]
    go_wp2
    go_ret
    exact ⟨rfl, rfl⟩
  obtain ⟨b, off, rfl, hcy⟩ := hy.2.resolve_left (by intro e; have := hy.1; rw [e] at this; simp at this; omega)
  have HX := Lib.hid hx
  have HY := Lib.hid hcy
  have HC := Lib.hid hc
  have HCS := Lib.hid hcs
  have HYS := Lib.hid hys
  have HN := Lib.hid hy.1
  have HM := Lib.hid hx.1
  clear hx hy hcy hc hcs hys h0
  go_enter Try.func64, Try.ntmps64
  go_wp2
  go_loop [5, 10] (fun sv i => ∃ (k : Nat) (s : Int), k ≤ n ∧ i = .int .i64 k ∧ sv = .int .i64 s ∧ Hid (prS cs ys m k = s)) (fun _ i => n - (intOf i).toNat)
  case atStart => exact ⟨0, 0, Nat.zero_le _, rfl, rfl, rfl⟩
  case round =>
    obtain ⟨k, s, hk, rfl, rfl, hs⟩ := hrel
    by_cases hlt : k < n
    · obtain ⟨c, hck⟩ : ∃ c, cs[k]? = some c := ⟨_, List.getElem?_eq_getElem (by have := HN.out; omega)⟩
      obtain ⟨x, hxk⟩ : ∃ x, ys[m - 1 - k]? = some x := ⟨_, List.getElem?_eq_getElem (by have := HM.out; omega)⟩
      have hcx := HY.out k c hck
      have hcr := allB_mem HCS.out hck
      have hxr := allB_mem HYS.out hxk
      have hpr := prod_range4 hcr.1 hcr.2 hxr.1 hxr.2
      have hp0 := hpr.1
      have hp1 := hpr.2
      have hsr := prS_range HCS.out HYS.out m k
      rw [hs.out] at hsr
      have hs0 : -300000000000 ≤ s := by omega
      have hs1 : s ≤ 300000000000 := by omega
      have hcall := iWTerm_any ys k m c x B ao cap w HX.out HC.out (by omega) hxk hm hcr.1 hcr.2 hxr.1 hxr.2
      have HS : Hid (prS cs ys m (k + 1) = s + c * x) := by show _ = _; simp only [prS]; rw [hs.out, getD_of hck, getD_of hxk]
      clear hck hxk hcr hxr hpr hsr
      go_wp2_with fail
      refine hcall.mono ?_
      rintro e w' ⟨rfl, rfl⟩
      clear hcall
      generalize c * x = p at *
      go_wp2
      go_round
      case rel => exact ⟨k + 1, s + p, by omega, by go_num, rfl, HS⟩
      case measure => simp [intOf]; omega
    · obtain rfl : k = n := by omega
      have HF : Hid (prS cs ys m k = s) := hs
      go_wp2
      go_ret
      exact ⟨ret_int HF.out.symm, rfl⟩

set_option maxHeartbeats 1000000 in
theorem iWeigh_any (cs ys : List Int) (n m : Nat) (z : Int) (yo ao : Option Addr) (ycap cap : Nat) (w : World) (hx : Ints w ao m ys) (hy : Ints w yo n cs) (hn : n ≤ m) (hm : m ≤ 64)
    (hcs : allB cs (-4095) 4095 = true) (hys : allB ys (-65536) 65536 = true) (hz : prS cs ys m n = z) :
    Calls Try.prog 86 #[.slice yo n ycap, .slice ao m cap] w fun e w' => e = .returned (.int .i64 z) ∧ w.grownBy w' none := by
  have k1 := sumW_any cs ys n m z w.heap.size yo ao ycap cap (w.alloc (.cells #[.slice ao m cap] 23)) (hx.grown (grown_alloc _ _ _)) (hy.grown (grown_alloc _ _ _)) (by rw [cell_of_row _ w.heap.size 0 _ _ _ (heap_alloc_new w _)]; rfl) hn hm hcs hys hz
  have hmf : ∀ (fn : Fn) (first cap : Array Value) (w : World), (Instr.makeFunc fn first cap).run Try.prog w = .ok (.func fn first cap) w := fun _ _ _ _ => rfl
  clear hx hy hcs hys hz
  go_enter Try.func86, Try.ntmps86
  go_wp2_with fail
  refine k1.mono ?_
  rintro e w' ⟨rfl, rfl⟩
  clear k1
  go_wp2
  go_ret
  exact ⟨rfl, grown_alloc _ _ _⟩

set_option maxRecDepth 100000 in
set_option maxHeartbeats 1000000 in
theorem iPredict_any (cs ys : List Int) (n m s : Nat) (z : Int) (yo ao : Option Addr) (ycap cap : Nat) (w : World) (hx : Ints w ao m ys) (hy : Ints w yo n cs) (hn : n ≤ m) (hm : m ≤ 64) (hs : s ≤ 14)
    (hcs : allB cs (-4095) 4095 = true) (hys : allB ys (-65536) 65536 = true) (hz : prS cs ys m n / 2 ^ s = z) :
    Calls Try.prog 84 #[.agg #[.slice yo n ycap, .int .i64 (s : Int)], .slice ao m cap] w fun e w' => e = .returned (.int .i64 z) ∧ w.grownBy w' none := by
  subst hz
  obtain ⟨t, ht⟩ : ∃ t, prS cs ys m n = t := ⟨_, rfl⟩
  rw [ht]
  have HX := Lib.hid hx
  have HY := Lib.hid hy
  have HCS := Lib.hid hcs
  have HYS := Lib.hid hys
  have HT := Lib.hid ht
  have hA := heap_alloc_new w (.cells #[.slice yo n ycap, .int .i64 (s : Int)] 25)
  have q0 : (w.alloc (.cells #[.slice yo n ycap, .int .i64 (s : Int)] 25)).cell? ⟨w.heap.size, 0, none⟩ = some (.slice yo n ycap) := by rw [cell_of_row _ _ 0 _ _ _ hA]; rfl
  have q1 : (w.alloc (.cells #[.slice yo n ycap, .int .i64 (s : Int)] 25)).cell? ⟨w.heap.size, 1, none⟩ = some (.int .i64 (s : Int)) := by rw [cell_of_row _ _ 1 _ _ _ hA]; rfl
  have HG := Lib.hid (grown_alloc w (.cells #[.slice yo n ycap, .int .i64 (s : Int)] 25) none)
  have hsn : (s : Int).toNat = s := by simp
  have hs0 : (0 : Int) ≤ (s : Int) := by omega
  clear hx hy hcs hys ht hA
  go_enter Try.func84, Try.ntmps84
  go_wp2_with fail
  generalize w.alloc (.cells #[.slice yo n ycap, .int .i64 (s : Int)] 25) = wb at *
  go_region_held3 (fun w' => w'.cell? ⟨w.heap.size, 0, none⟩ = some (.slice yo n ycap) ∧ w'.cell? ⟨w.heap.size, 1, none⟩ = some (.int .i64 (s : Int))) (first | go_keep | exact ⟨by assumption, by assumption⟩) ((go_at_call 86; refine (iWeigh_any cs ys n m t yo ao ycap cap _ ((HX.out.grown HG.out).grown (grown_drew _ _)) ((HY.out.grown HG.out).grown (grown_drew _ _)) hn hm HCS.out HYS.out HT.out).mono ?_; rintro e w2 ⟨rfl, hg2⟩; have HG2 := Lib.hid (grown_trans (grown_trans HG.out (grown_drew _ _)) hg2); have hS0 := hg2.cell q0 (by simp); have hS1 := hg2.cell q1 (by simp); clear hg2))
  all_goals
    clear hS0 hS1
    go_wp2
    go_ret
    exact ⟨rfl, HG2.out⟩

end Go.Proofs.Ytgiiaijlahjfnaa
