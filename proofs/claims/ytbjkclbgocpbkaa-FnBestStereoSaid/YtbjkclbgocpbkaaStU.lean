/-
  The specification's middle and difference, undone. The channels are valid.
-/
import Derived.Test.YtbjkclbgocpbkaaStA
import Derived.StillTailTactics
namespace Go.Proofs.Ytbjkclbgocpbkaa
open Go.RowKit

set_option maxRecDepth 100000 in
set_option maxHeartbeats 2000000 in
theorem sUnMid_any (xs ys : List Int) (n : Nat) (ao bo : Option Addr) (cap cap' : Nat) (w : World) (hx : Ints w ao n xs) (hy : Ints w bo n ys) (hv : vP xs ys 65536 = true) :
    Calls Try.prog 42 #[.slice ao n cap, .slice bo n cap'] w (MadeTwo (List.zipWith (unA 3) xs ys) (List.zipWith (unB 3) xs ys) n w) := by
  obtain ⟨hl0, hl1, ha, hb⟩ := vP_of hv
  have hn : n ≤ 64 := by rw [← hx.1]; exact hl1
  have HX := Lib.hid hx
  have HY := Lib.hid hy
  have HA := Lib.hid ha
  have HB := Lib.hid hb
  clear hx hy hv hl0 hl1 ha hb
  go_enter Try.func42, Try.ntmps42
  go_wp2
  have HR0 := Lib.hid (rows2_start w)
  go_loopw [6, 7, 8] (fun u v i wr => ∃ (k g h c d : Nat), k ≤ n ∧ i = .int .i64 k ∧ u = .slice (some ⟨g, 0, none⟩) k c ∧ v = .slice (some ⟨h, 0, none⟩) k d ∧ Hid (Rows2 w.heap.size (List.zipWith (unA 3) (xs.take k) (ys.take k)) (List.zipWith (unB 3) (xs.take k) (ys.take k)) k k w wr g h c d)) (fun _ _ i _ => n - (intOf i).toNat)
  case atStart => exact ⟨0, _, _, 0, 0, Nat.zero_le _, rfl, rfl, rfl, HR0⟩
  case round =>
    obtain ⟨k, g, h, c, d, hk, rfl, rfl, rfl, HR⟩ := hrel
    by_cases hlt : k < n
    · obtain ⟨x, hxk⟩ : ∃ x, xs[k]? = some x := ⟨_, List.getElem?_eq_getElem (by rw [HX.out.1]; exact hlt)⟩
      obtain ⟨y, hyk⟩ : ∃ y, ys[k]? = some y := ⟨_, List.getElem?_eq_getElem (by rw [HY.out.1]; exact hlt)⟩
      obtain ⟨b1, f1, rfl, hc1⟩ := HX.out.2.resolve_left (by intro e; subst e; simp at hxk)
      obtain ⟨b2, f2, rfl, hc2⟩ := HY.out.2.resolve_left (by intro e; subst e; simp at hyk)
      have qx : wr.cell? ⟨b1, f1 + k, none⟩ = some (.int .i64 x) := HR.out.gr.cell (hc1 k x hxk) (by simp)
      have qy : wr.cell? ⟨b2, f2 + k, none⟩ = some (.int .i64 y) := HR.out.gr.cell (hc2 k y hyk) (by simp)
      have x0 := (allB_mem HA.out hxk).1
      have x1 := (allB_mem HA.out hxk).2
      have y0 := (allB_mem HB.out hyk).1
      have y1 := (allB_mem HB.out hyk).2
      have HZ1 := Lib.hid (zip_take (f := unA 3) hxk hyk)
      have HZ2 := Lib.hid (zip_take (f := unB 3) hxk hyk)
      have KF : Hid (∀ m : Nat, Calls Try.prog 56 #[.int .i64 y, .int .i64 2] (wr.drewN m) fun e w'' => e = .returned (.int .i64 (y / 2)) ∧ ∃ m', w'' = wr.drewN m') := fun m => Calls.quiet_of_same <| (sFloor_any y 2 _ (by omega) (by omega) (by omega)).mono (fun _ _ ⟨a, b⟩ => ⟨a, b.symm⟩)
      obtain ⟨N, hN⟩ : ∃ N, 2 * x + y - 2 * (y / 2) = N := ⟨_, rfl⟩
      have hw1 : IntKind.i64.wrap (2 * x) = 2 * x := IntWalk.i64_in _ (by omega)
      have hw2 : IntKind.i64.wrap (2 * x + y) = 2 * x + y := IntWalk.i64_in _ (by omega)
      have hw3 : IntKind.i64.wrap (2 * (y / 2)) = 2 * (y / 2) := IntWalk.i64_in _ (by omega)
      have hw4 : IntKind.i64.wrap (2 * x + y - 2 * (y / 2)) = N := by rw [← hN]; exact IntWalk.i64_in _ (by omega)
      have N0 : -131073 ≤ N := by omega
      have N1 : N ≤ 131073 := by omega
      have HN := Lib.hid hN
      clear hN
      go_wp2
      go_quiet ((first | (go_at_call 56; (with_reducible exact KF.out _))))
      have HR1 := Lib.hid (HR.out.grown (grown_drewN wr nq none))
      have qx1 := HR1.out.gr.cell (hc1 k x hxk) (by simp)
      have qy1 := HR1.out.gr.cell (hc2 k y hyk) (by simp)
      generalize wr.drewN nq = w1 at *
      clear HR qx qy KF hw1 hw2 hw3 hw4
      have HG1 := Lib.hid HR1.out.gr.size
      have t1 := (tdiv_range (a := N + y) (b := 2) (by omega) (by omega)).1
      have t2 := (tdiv_range (a := N + y) (b := 2) (by omega) (by omega)).2
      have t3 := (tdiv_range (a := N - y) (b := 2) (by omega) (by omega)).1
      have t4 := (tdiv_range (a := N - y) (b := 2) (by omega) (by omega)).2
      go_wp2_with (at_builtin; refine append_strong rfl _ _ rfl w.heap.size g c k _ rfl (HR1.out.o1.grown (grown_alloc _ _ _)) ⟨w1.heap.size, 0, none⟩ 1 1 [(N + y).tdiv 2] rfl (ints_one _ _ _) (by omega) (by have := HG1.out; simp; omega) ?_)
      intro g' c' w2 ho2 hg2 hn2
      have HR2 := Lib.hid ((HR1.out.grown (grown_alloc _ (.cells #[.int .i64 ((N + y).tdiv 2)] 3) _)).first' (Nat.le_refl _) ho2 hg2 (by rcases hn2 with e | e; exact Or.inl e; right; simpa using e))
      have qx2 := HR2.out.gr.cell (hc1 k x hxk) (by simp)
      have qy2 := HR2.out.gr.cell (hc2 k y hyk) (by simp)
      have HG2 := Lib.hid HR2.out.gr.size
      clear HR1 HG1 qx1 qy1 ho2 hg2 hn2 hc1 hc2 hxk hyk
      go_wp2_with (at_builtin; refine append_strong rfl _ _ rfl w.heap.size h d k _ rfl (HR2.out.o2.grown (grown_alloc _ _ _)) ⟨w2.heap.size, 0, none⟩ 1 1 [(N - y).tdiv 2] rfl (ints_one _ _ _) (by omega) (by have := HG2.out; simp; omega) ?_)
      intro h' d' w3 ho3 hg3 hn3
      have HR3 : Hid (Rows2 w.heap.size (List.zipWith (unA 3) (xs.take (k + 1)) (ys.take (k + 1))) (List.zipWith (unB 3) (xs.take (k + 1)) (ys.take (k + 1))) (k + 1) (k + 1) w w3 g' h' c' d') := by
        have := ((HR2.out.grown (grown_alloc _ (.cells #[.int .i64 ((N - y).tdiv 2)] 3) _)).second' (Nat.le_refl _) ho3 hg3 (by rcases hn3 with e | e; exact Or.inl e; right; simpa using e))
        have e1 := HZ1.out
        have e2 := HZ2.out
        have hN := HN.out
        rw [show unA 3 x y = (N + y).tdiv 2 by rw [tdiv_even (by omega)]; simp [unA]; omega] at e1
        rw [show unB 3 x y = (N - y).tdiv 2 by rw [tdiv_even (by omega)]; simp [unB]; omega] at e2
        show Rows2 _ _ _ _ _ _ _ _ _ _ _
        rw [e1, e2]; exact this
      clear HR2 HG2 qx2 qy2 ho3 hg3 hn3
      go_wp2
      go_roundw
      case rel => exact ⟨k + 1, g', h', c', d', by omega, by go_num, rfl, rfl, HR3⟩
      case measure => simp [intOf]; omega
    · obtain rfl : k = n := by omega
      have HT : Hid (Two (List.zipWith (unA 3) xs ys) (List.zipWith (unB 3) xs ys) k w wr (.slice (some ⟨g, 0, none⟩) k c) (.slice (some ⟨h, 0, none⟩) k d)) := by
        have := HR.out.two (Nat.le_refl _)
        rw [zip_full HX.out.1 HY.out.1, zip_full HX.out.1 HY.out.1] at this
        exact this
      clear HR
      go_wp2
      go_ret2
      exact ⟨_, _, rfl, HT.out⟩

end Go.Proofs.Ytbjkclbgocpbkaa
