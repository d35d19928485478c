/-
  The specification's middle and difference, and back. The channels are valid.
-/
import Derived.Test.YtbjkclbgocpbkaaStA
import Derived.StillTailTactics
namespace Go.Proofs.Ytbjkclbgocpbkaa
open Go.RowKit

set_option maxRecDepth 100000 in
set_option maxHeartbeats 2000000 in
theorem sMid_any (xs ys : List Int) (n : Nat) (ao bo : Option Addr) (cap cap' : Nat) (w : World) (hx : Ints w ao n xs) (hy : Ints w bo n ys) (hv : vP xs ys 32767 = true) :
    Calls Try.prog 39 #[.slice ao n cap, .slice bo n cap'] w (MadeTwo (List.zipWith (stA 3) xs ys) (List.zipWith (stB 3) xs ys) n w) := by
  obtain ⟨hl0, hl1, ha, hb⟩ := vP_of hv
  have hn : n ≤ 64 := by rw [← hx.1]; exact hl1
  have HX := Lib.hid hx
  have HY := Lib.hid hy
  have HA := Lib.hid ha
  have HB := Lib.hid hb
  clear hx hy hv hl0 hl1 ha hb
  go_enter Try.func39, Try.ntmps39
  go_wp2
  have HR0 := Lib.hid (rows2_start w)
  go_loopw [6, 7, 8] (fun u v i wr => ∃ (k g h c d : Nat), k ≤ n ∧ i = .int .i64 k ∧ u = .slice (some ⟨g, 0, none⟩) k c ∧ v = .slice (some ⟨h, 0, none⟩) k d ∧ Hid (Rows2 w.heap.size (List.zipWith (stA 3) (xs.take k) (ys.take k)) (List.zipWith (stB 3) (xs.take k) (ys.take k)) k k w wr g h c d)) (fun _ _ i _ => n - (intOf i).toNat)
  case atStart => exact ⟨0, _, _, 0, 0, Nat.zero_le _, rfl, rfl, rfl, HR0⟩
  case round =>
    obtain ⟨k, g, h, c, d, hk, rfl, rfl, rfl, HR⟩ := hrel
    by_cases hlt : k < n
    · obtain ⟨x, hxk⟩ : ∃ x, xs[k]? = some x := ⟨_, List.getElem?_eq_getElem (by rw [HX.out.1]; exact hlt)⟩
      obtain ⟨y, hyk⟩ : ∃ y, ys[k]? = some y := ⟨_, List.getElem?_eq_getElem (by rw [HY.out.1]; exact hlt)⟩
      obtain ⟨b1, f1, rfl, hc1⟩ := HX.out.2.resolve_left (by intro e; subst e; simp at hxk)
      obtain ⟨b2, f2, rfl, hc2⟩ := HY.out.2.resolve_left (by intro e; subst e; simp at hyk)
      have qx : wr.cell? ⟨b1, f1 + k, none⟩ = some (.int .i64 x) := HR.out.gr.cell (hc1 k x hxk) (by simp)
      have qy : wr.cell? ⟨b2, f2 + k, none⟩ = some (.int .i64 y) := HR.out.gr.cell (hc2 k y hyk) (by simp)
      have x0 := (allB_mem HA.out hxk).1
      have x1 := (allB_mem HA.out hxk).2
      have y0 := (allB_mem HB.out hyk).1
      have y1 := (allB_mem HB.out hyk).2
      have HZ1 := Lib.hid (zip_take (f := stA 3) hxk hyk)
      have HZ2 := Lib.hid (zip_take (f := stB 3) hxk hyk)
      have KF : Hid (∀ W, Calls Try.prog 56 #[.int .i64 (x + y), .int .i64 2] W (fun e w'' => e = .returned (.int .i64 ((x + y) / 2)) ∧ w'' = W)) := fun W => (sFloor_any (x + y) 2 W (by omega) (by omega) (by omega)).mono fun _ _ h => ⟨h.1, h.2.symm⟩
      go_wp2
      have hw : IntKind.i64.wrap (x + y) = x + y := IntWalk.i64_in _ (by omega)
      have hw2 : IntKind.i64.wrap (x - y) = x - y := IntWalk.i64_in _ (by omega)
      have HG := Lib.hid HR.out.gr.size
      go_region_law (first | (refine step_append_ints rfl _ _ rfl w.heap.size (.slice (some ⟨g, 0, none⟩) k c) k _ rfl ((HR.out.o1.grown (grown_drew wr none)).grown (grown_alloc _ _ _)) ⟨wr.heap.size, 0, none⟩ 1 1 [(x + y) / 2] rfl (ints_one _ _ _) (by omega) (by omega) (by have := HG.out; simp; omega) ?_; intro g' c' w2 ho2 hg2 hn2 hl2) | (go_simp; go_at_call 56; refine (KF.out _).mono ?_; rintro e w' ⟨rfl, rfl⟩))
      all_goals
        go_simp
        have HR1 := Lib.hid ((HR.out.grown (grown_trans (grown_drew wr none) (grown_alloc _ (.cells #[.int .i64 ((x + y) / 2)] 3) _))).first (Nat.le_refl _) ho2 hg2 hn2 hl2)
        have qx1 := HR1.out.gr.cell (hc1 k x hxk) (by simp)
        have qy1 := HR1.out.gr.cell (hc2 k y hyk) (by simp)
        have HG1 := Lib.hid HR1.out.gr.size
        clear HR HG qx qy ho2 hg2 hn2 hl2 hc1 hc2 hxk hyk
        go_wp2
        go_region_law (first | (refine step_append_ints rfl _ _ rfl w.heap.size (.slice (some ⟨h, 0, none⟩) k d) k _ rfl ((HR1.out.o2.grown (grown_drew w2 none)).grown (grown_alloc _ _ _)) ⟨w2.heap.size, 0, none⟩ 1 1 [x - y] rfl (ints_one _ _ _) (by omega) (by omega) (by have := HG1.out; simp; omega) ?_; intro h' d' w3 ho3 hg3 hn3 hl3))
        all_goals
          go_simp
          have HR2 := Lib.hid ((HR1.out.grown (grown_trans (grown_drew w2 none) (grown_alloc _ (.cells #[.int .i64 (x - y)] 3) _))).second (Nat.le_refl _) ho3 hg3 hn3 hl3)
          have HR3 : Hid (Rows2 w.heap.size (List.zipWith (stA 3) (xs.take (k + 1)) (ys.take (k + 1))) (List.zipWith (stB 3) (xs.take (k + 1)) (ys.take (k + 1))) (k + 1) (k + 1) w w3 g' h' c' d') := by
            have e1 := HZ1.out
            have e2 := HZ2.out
            rw [show stA 3 x y = (x + y) / 2 by simp [stA]] at e1
            rw [show stB 3 x y = x - y by simp [stB]] at e2
            show Rows2 _ _ _ _ _ _ _ _ _ _ _
            rw [e1, e2]; exact HR2.out
          clear HR1 HG1 qx1 qy1 ho3 hg3 hn3 hl3 HR2
          go_wp2
          go_roundw
          case rel => exact ⟨k + 1, g', h', c', d', by omega, by go_num, rfl, rfl, HR3⟩
          case measure => simp [intOf]; omega
    · obtain rfl : k = n := by omega
      have HT : Hid (Two (List.zipWith (stA 3) xs ys) (List.zipWith (stB 3) xs ys) k w wr (.slice (some ⟨g, 0, none⟩) k c) (.slice (some ⟨h, 0, none⟩) k d)) := by
        have := HR.out.two (Nat.le_refl _)
        rw [zip_full HX.out.1 HY.out.1, zip_full HX.out.1 HY.out.1] at this
        exact this
      clear HR
      go_wp2
      go_ret2
      exact ⟨_, _, rfl, HT.out⟩
end Go.Proofs.Ytbjkclbgocpbkaa
