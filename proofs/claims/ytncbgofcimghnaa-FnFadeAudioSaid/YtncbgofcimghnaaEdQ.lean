/-
  Cut, faded, joined and reversed audio: the program's text. For all channels that can be read.
-/
import Derived.Test.YtncbgofcimghnaaEdE
import Derived.Test.YtncbgofcimghnaaEdS
import Derived.Test.YtncbgofcimghnaaEdJ
import Derived.Test.YtncbgofcimghnaaVAuI
import Derived.Test.YtncbgofcimghnaaMem
import Derived.Deep.RegionHeld3
namespace Go.Proofs.Ytncbgofcimghnaa
open Go.RowKit

theorem in2 (x y lo hi : Int) (b : Bool) (w : World) (B : Nat) (hB : w.heap.size = B) (hv : (inB x lo hi && inB y lo hi) = b) :
    Calls Try.prog 39 #[.int .i64 lo, .int .i64 hi, .slice (some ⟨B, 0, none⟩) 2 2] (w.alloc (.cells #[.int .i64 x, .int .i64 y] 3)) fun e w' => e = .returned (.bool b) ∧ w.alloc (.cells #[.int .i64 x, .int .i64 y] 3) = w' := by
  subst hB
  refine iAllIn_any [x, y] lo hi _ 2 2 _ b ⟨rfl, Or.inr ⟨w.heap.size, 0, rfl, fun k z hk => ?_⟩⟩ (by omega) (by rw [← hv]; simp [allB])
  have h := heap_alloc_new w (.cells #[.int .i64 x, .int .i64 y] 3)
  match k, hk with
  | 0, hk => simp at hk; subst hk; rw [cell_of_row _ _ _ _ _ _ h]; rfl
  | 1, hk => simp at hk; subst hk; rw [cell_of_row _ _ _ _ _ _ h]; rfl

theorem allB_wide9 {xs : List Int} {lo hi lo' hi' : Int} (h : allB xs lo hi = true) (h1 : lo' ≤ lo) (h2 : hi ≤ hi') : allB xs lo' hi' = true := by
  unfold allB at *
  rw [List.all_eq_true] at *
  intro x hx
  have := h x hx
  simp [inB] at this ⊢
  omega
set_option maxRecDepth 100000 in
set_option maxHeartbeats 4000000 in
theorem iCut_any (xss : List (List Int)) (ao : Option Addr) (len cap : Nat) (r d f t : Int) (w : World) (rr dd : Int) (yss : List (List Int)) (ok : Bool) (hx : Mat w ao len xss) (hs : szL xss ≤ 1048576) (hv : CuR r d f t xss rr dd yss ok) :
    Calls Try.prog 16 #[.agg #[.int .i64 r, .int .i64 d, .slice ao len cap], .int .i64 f, .int .i64 t] w (MadeAB yss rr dd ok w) := by
  have hm0 : Mem w ((((w.alloc (.cells #[.int .i64 r, .int .i64 d, .slice ao len cap] 25)).alloc (.cells #[.int .i64 f] 3)).alloc (.cells #[.int .i64 t] 3)).alloc (.cells #[.int .i64 0, .int .i64 0, .slice none 0 0] 25)) [(w.heap.size, .cells #[.int .i64 r, .int .i64 d, .slice ao len cap] 25), (w.heap.size + 1, .cells #[.int .i64 f] 3), (w.heap.size + 1 + 1, .cells #[.int .i64 t] 3), (w.heap.size + 1 + 1 + 1, .cells #[.int .i64 0, .int .i64 0, .slice none 0 0] 25)] := by have := (((((Mem.start w).block (.cells #[.int .i64 r, .int .i64 d, .slice ao len cap] 25)).block (.cells #[.int .i64 f] 3)).block (.cells #[.int .i64 t] 3)).block (.cells #[.int .i64 0, .int .i64 0, .slice none 0 0] 25)); simpa using this
  have HM0 := Lib.hid hm0
  clear hm0
  have k1 := fun W (hg : ((((w.alloc (.cells #[.int .i64 r, .int .i64 d, .slice ao len cap] 25)).alloc (.cells #[.int .i64 f] 3)).alloc (.cells #[.int .i64 t] 3)).alloc (.cells #[.int .i64 0, .int .i64 0, .slice none 0 0] 25)).grownBy W none) => iVAu_any xss ao len cap r d W _ (hx.grown (grown_trans HM0.out.g hg)) hs rfl
  cases hva : vAu r d xss with
  | false =>
    rw [hva] at k1
    obtain ⟨rfl, rfl, rfl, rfl⟩ := hv.no (fun h => by rw [h.1] at hva; cases hva)
    clear hx hs hva hv
    obtain ⟨q00, q01, q02⟩ := three_cells (HM0.out.get (b := w.heap.size) (o := .cells #[.int .i64 r, .int .i64 d, .slice ao len cap] 25) (by simp))
    have q10 := one_cell9 (HM0.out.get (b := w.heap.size + 1) (o := .cells #[.int .i64 f] 3) (by simp))
    have q20 := one_cell9 (HM0.out.get (b := w.heap.size + 1 + 1) (o := .cells #[.int .i64 t] 3) (by simp))
    go_enter Try.func16, Try.ntmps16
    go_wp2_with fail
    refine wp_region_held_drew (S := fun _ => True) (by kernel_rfl) trivial (fun hHeld => ?_)
    refine wpAnyH_ready (rs := [0]) (by kernel_rfl) (by simp) ?_
    refine AllReadyH.cons rfl (fun K hK => ?_) AllReadyH.nil
    go_simp
    refine hK.out _ _ trivial (fun hHeld => ?_)
    clear hK K
    try simp only [Act.put, List.setIfInBounds_toArray, List.set_cons_zero, List.set_cons_succ]
    refine wpAnyH_ready (rs := [1]) (by kernel_rfl) (by simp) ?_
    refine AllReadyH.cons rfl (fun K hK => ?_) AllReadyH.nil
    go_simp
    go_at_call 26
    refine (k1 _ (grown_drew _ none)).mono ?_
    rintro e w1 ⟨rfl, hg⟩
    have HM1 := Lib.hid (HM0.out.grown (grown_trans (grown_drew _ none) hg))
    have sq00 := hg.cell q00 (by simp)
    have sq01 := hg.cell q01 (by simp)
    have sq02 := hg.cell q02 (by simp)
    have sq10 := hg.cell q10 (by simp)
    have sq20 := hg.cell q20 (by simp)
    clear hg
    go_wp2_with fail
    refine hK.out _ _ trivial (fun hHeld => ?_)
    clear hK K
    try simp only [Act.put, List.setIfInBounds_toArray, List.set_cons_zero, List.set_cons_succ]
    refine wpAnyH_take (i := 2) (v := (.bool true)) rfl (by kernel_rfl) (by kernel_rfl) (by kernel_rfl) (fun _ _ _ h => h) (Or.inl ⟨by kernel_rfl, by (intro w hSw; (try dsimp only at hSw); go_simp)⟩) trivial ?_
    refine wpAnyH_take (i := 3) (v := (.bool true)) rfl (by kernel_rfl) (by kernel_rfl) (by kernel_rfl) (fun _ _ _ h => h) (Or.inl ⟨by kernel_rfl, by (intro w hSw; (try dsimp only at hSw); go_simp)⟩) trivial ?_
    refine wpAnyH_take (i := 4) (v := undef) rfl (by kernel_rfl) (by kernel_rfl) (by kernel_rfl) (fun _ _ _ h => h) (Or.inr ⟨by kernel_rfl, rfl⟩) trivial ?_
    refine wpAnyH_take (i := 5) (v := undef) rfl (by kernel_rfl) (by kernel_rfl) (by kernel_rfl) (fun _ _ _ h => h) (Or.inr ⟨by kernel_rfl, rfl⟩) trivial ?_
    refine wpAnyH_take (i := 6) (v := undef) rfl (by kernel_rfl) (by kernel_rfl) (by kernel_rfl) (fun _ _ _ h => h) (Or.inr ⟨by kernel_rfl, rfl⟩) trivial ?_
    refine wpAnyH_take (i := 7) (v := undef) rfl (by kernel_rfl) (by kernel_rfl) (by kernel_rfl) (fun _ _ _ h => h) (Or.inr ⟨by kernel_rfl, rfl⟩) trivial ?_
    refine wpAnyH_take (i := 8) (v := undef) rfl (by kernel_rfl) (by kernel_rfl) (by kernel_rfl) (fun _ _ _ h => h) (Or.inr ⟨by kernel_rfl, rfl⟩) trivial ?_
    refine wpAnyH_take (i := 9) (v := undef) rfl (by kernel_rfl) (by kernel_rfl) (by kernel_rfl) (fun _ _ _ h => h) (Or.inr ⟨by kernel_rfl, rfl⟩) trivial ?_
    refine wpAnyH_take (i := 10) (v := undef) rfl (by kernel_rfl) (by kernel_rfl) (by kernel_rfl) (fun _ _ _ h => h) (Or.inr ⟨by kernel_rfl, rfl⟩) trivial ?_
    refine wpAnyH_take (i := 11) (v := undef) rfl (by kernel_rfl) (by kernel_rfl) (by kernel_rfl) (fun _ _ _ h => h) (Or.inr ⟨by kernel_rfl, rfl⟩) trivial ?_
    refine wpAnyH_take (i := 12) (v := undef) rfl (by kernel_rfl) (by kernel_rfl) (by kernel_rfl) (fun _ _ _ h => h) (Or.inr ⟨by kernel_rfl, rfl⟩) trivial ?_
    refine wpAnyH_take (i := 13) (v := undef) rfl (by kernel_rfl) (by kernel_rfl) (by kernel_rfl) (fun _ _ _ h => h) (Or.inr ⟨by kernel_rfl, rfl⟩) trivial ?_
    refine wpAnyH_take (i := 14) (v := (.bool true)) rfl (by kernel_rfl) (by kernel_rfl) (by kernel_rfl) (fun _ _ _ h => h) (Or.inl ⟨by kernel_rfl, by (intro w hSw; (try dsimp only at hSw); go_simp)⟩) trivial ?_
    refine wpAnyH_take (i := 15) (v := (.bool true)) rfl (by kernel_rfl) (by kernel_rfl) (by kernel_rfl) (fun _ _ _ h => h) (Or.inl ⟨by kernel_rfl, by (intro w hSw; (try dsimp only at hSw); go_simp)⟩) trivial ?_
    refine wpAnyH_take (i := 16) (v := undef) rfl (by kernel_rfl) (by kernel_rfl) (by kernel_rfl) (fun _ _ _ h => h) (Or.inr ⟨by kernel_rfl, rfl⟩) trivial ?_
    refine wpAnyH_take (i := 17) (v := undef) rfl (by kernel_rfl) (by kernel_rfl) (by kernel_rfl) (fun _ _ _ h => h) (Or.inr ⟨by kernel_rfl, rfl⟩) trivial ?_
    refine wpAnyH_take (i := 18) (v := undef) rfl (by kernel_rfl) (by kernel_rfl) (by kernel_rfl) (fun _ _ _ h => h) (Or.inr ⟨by kernel_rfl, rfl⟩) trivial ?_
    refine wpAnyH_take (i := 19) (v := (.bool true)) rfl (by kernel_rfl) (by kernel_rfl) (by kernel_rfl) (fun _ _ _ h => h) (Or.inl ⟨by kernel_rfl, by (intro w hSw; (try dsimp only at hSw); go_simp)⟩) trivial ?_
    refine wpAnyH_done (by kernel_rfl) ?_ _
    simp only [Act.put, List.getElem_toArray, List.getElem_cons_zero, List.getElem_cons_succ, List.setIfInBounds_toArray, List.set_cons_zero, List.set_cons_succ]
    clear q00 q01 q02 q10 q20 hHeld
    obtain ⟨z0, z1, z2⟩ := three_cells (HM1.out.get (b := w.heap.size + 1 + 1 + 1) (o := .cells #[.int .i64 0, .int .i64 0, .slice none 0 0] 25) (by simp))
    have f0 := frozen_of_row w1 _ 0 _ _ (HM1.out.get (b := w.heap.size + 1 + 1 + 1) (o := .cells #[.int .i64 0, .int .i64 0, .slice none 0 0] 25) (by simp))
    have f1 := frozen_of_row w1 _ 1 _ _ (HM1.out.get (b := w.heap.size + 1 + 1 + 1) (o := .cells #[.int .i64 0, .int .i64 0, .slice none 0 0] 25) (by simp))
    have f2 := frozen_of_row w1 _ 2 _ _ (HM1.out.get (b := w.heap.size + 1 + 1 + 1) (o := .cells #[.int .i64 0, .int .i64 0, .slice none 0 0] 25) (by simp))
    go_wp2
    refine bodyPost_ret (v := .tuple #[.agg #[.int .i64 0, .int .i64 0, .slice none 0 0], .bool false]) (by simp [results, Try.results16, go_sem, z0, z1, z2]) rfl ⟨_, rfl, ?_⟩
    exact own_res (mown_nil _ _) HM1.out.g (by omega)
  | true =>
  rw [hva] at k1
  obtain ⟨u, H, hV⟩ := va_of hva
  have hHd := hV.hd
  have hlen : len ≤ 2 := by have := hV.ch.2; rw [hx.1] at this; exact this
  have hlen1 : 1 ≤ len := by have := hV.ch.1; rw [hx.1] at this; exact this
  have hlen0 : 0 < len := hlen1
  have hH : H ≤ 256 := hV.hh
  obtain ⟨b, off, rfl, hc⟩ := hx.2.resolve_left (by intro e; have := hx.1; rw [e] at this; simp at this; omega)
  obtain ⟨xs0, hxs0, hxl0⟩ := hV.first
  obtain ⟨u0, hu0, a0, c0, rfl, hin0⟩ := hc 0 xs0 hxs0
  rw [hxl0, Nat.add_zero] at hu0
  clear hin0
  by_cases hc1 : ¬ ((0 ≤ f ∧ f ≤ (H : Int)) ∧ (0 ≤ t ∧ t ≤ (H : Int)))
  · obtain ⟨rfl, rfl, rfl, rfl⟩ := hv.no (fun h => hc1 ⟨⟨h.2.1, by have := h.2.2.1; have h9 := h.2.2.2; rw [hHd] at h9; omega⟩, ⟨by have := h.2.1; have := h.2.2.1; omega, by have h9 := h.2.2.2; rw [hHd] at h9; exact h9⟩⟩)
    have k2 := fun W (B : Nat) (hB : W.heap.size = B) => in2 f t 0 (H : Int) false W B hB (by rw [Bool.and_eq_false_iff]; exact (Classical.em (0 ≤ f ∧ f ≤ (H : Int))).elim (fun h => Or.inr (inB_false (fun g => hc1 ⟨h, g⟩))) (fun h => Or.inl (inB_false h)))
    have q9 := HM0.out.g.cell hu0 (by simp)
    obtain ⟨q00, q01, q02⟩ := three_cells (HM0.out.get (b := w.heap.size) (o := .cells #[.int .i64 r, .int .i64 d, .slice (some ⟨b, off, none⟩) len cap] 25) (by simp))
    have q10 := one_cell9 (HM0.out.get (b := w.heap.size + 1) (o := .cells #[.int .i64 f] 3) (by simp))
    have q20 := one_cell9 (HM0.out.get (b := w.heap.size + 1 + 1) (o := .cells #[.int .i64 t] 3) (by simp))
    clear hs hva hv hc1 hV hc hxs0 hx hu0 hHd hxl0
    go_enter Try.func16, Try.ntmps16
    go_wp2_with fail
    refine wp_region_held_drew (S := (fun w' => w'.cell? ⟨w.heap.size, 0, none⟩ = some (.int .i64 r) ∧ w'.cell? ⟨w.heap.size, 1, none⟩ = some (.int .i64 d) ∧ w'.cell? ⟨w.heap.size, 2, none⟩ = some (.slice (some ⟨b, off, none⟩) len cap) ∧ w'.cell? ⟨w.heap.size + 1, 0, none⟩ = some (.int .i64 f) ∧ w'.cell? ⟨w.heap.size + 1 + 1, 0, none⟩ = some (.int .i64 t) ∧ w'.cell? ⟨b, off, none⟩ = some (.slice a0 H c0))) (by kernel_rfl) ⟨q00, q01, q02, q10, q20, q9⟩ (fun hHeld => ?_)
    refine wpAnyH_ready (rs := [0]) (by kernel_rfl) (by simp) ?_
    refine AllReadyH.cons rfl (fun K hK => ?_) AllReadyH.nil
    go_simp
    refine hK.out _ _ hHeld (fun hHeld => ?_)
    clear hK K
    try simp only [Act.put, List.setIfInBounds_toArray, List.set_cons_zero, List.set_cons_succ]
    refine wpAnyH_ready (rs := [1]) (by kernel_rfl) (by simp) ?_
    refine AllReadyH.cons rfl (fun K hK => ?_) AllReadyH.nil
    go_simp
    go_at_call 26
    refine (k1 _ (grown_drew _ none)).mono ?_
    rintro e w1 ⟨rfl, hg⟩
    have HM1 := Lib.hid (HM0.out.grown (grown_trans (grown_drew _ none) hg))
    have sq00 := hg.cell q00 (by simp)
    have sq01 := hg.cell q01 (by simp)
    have sq02 := hg.cell q02 (by simp)
    have sq10 := hg.cell q10 (by simp)
    have sq20 := hg.cell q20 (by simp)
    have sq9 := hg.cell q9 (by simp)
    clear hg
    go_wp2_with fail
    refine hK.out _ _ ⟨sq00, sq01, sq02, sq10, sq20, sq9⟩ (fun hHeld => ?_)
    clear hK K
    try simp only [Act.put, List.setIfInBounds_toArray, List.set_cons_zero, List.set_cons_succ]
    refine wpAnyH_take (i := 2) (v := (.bool false)) rfl (by kernel_rfl) (by kernel_rfl) (by kernel_rfl) (fun _ _ _ h => h) (Or.inl ⟨by kernel_rfl, by (intro w hSw; (try dsimp only at hSw); go_simp)⟩) hHeld ?_
    refine wpAnyH_take (i := 3) (v := (.bool false)) rfl (by kernel_rfl) (by kernel_rfl) (by kernel_rfl) (fun _ _ _ h => h) (Or.inl ⟨by kernel_rfl, by (intro w hSw; (try dsimp only at hSw); go_simp)⟩) hHeld ?_
    refine wpAnyH_take (i := 4) (v := (.pointer (some ⟨w.heap.size, 2, none⟩))) rfl (by kernel_rfl) (by kernel_rfl) (by kernel_rfl) (fun _ _ _ h => h) (Or.inl ⟨by kernel_rfl, by (intro w hSw; (try dsimp only at hSw); go_simp)⟩) hHeld ?_
    refine wpAnyH_take (i := 5) (v := (.slice (some ⟨b, off, none⟩) len cap)) rfl (by kernel_rfl) (by kernel_rfl) (by kernel_rfl) (fun _ _ _ h => h) (Or.inl ⟨by kernel_rfl, by (intro w hSw; (try dsimp only at hSw); go_simp)⟩) hHeld ?_
    refine wpAnyH_take (i := 6) (v := (.pointer (some ⟨b, off, none⟩))) rfl (by kernel_rfl) (by kernel_rfl) (by kernel_rfl) (fun _ _ _ h => h) (Or.inl ⟨by kernel_rfl, by (intro w hSw; (try dsimp only at hSw); go_simp)⟩) hHeld ?_
    refine wpAnyH_take (i := 7) (v := (.slice a0 H c0)) rfl (by kernel_rfl) (by kernel_rfl) (by kernel_rfl) (fun _ _ _ h => h) (Or.inl ⟨by kernel_rfl, by (intro w hSw; (try dsimp only at hSw); go_simp)⟩) hHeld ?_
    refine wpAnyH_take (i := 8) (v := (.int .i64 (H : Int))) rfl (by kernel_rfl) (by kernel_rfl) (by kernel_rfl) (fun _ _ _ h => h) (Or.inl ⟨by kernel_rfl, by (intro w hSw; (try dsimp only at hSw); go_simp)⟩) hHeld ?_
    refine wpAnyH_take (i := 9) (v := (.int .i64 f)) rfl (by kernel_rfl) (by kernel_rfl) (by kernel_rfl) (fun _ _ _ h => h) (Or.inl ⟨by kernel_rfl, by (intro w hSw; (try dsimp only at hSw); go_simp)⟩) hHeld ?_
    refine wpAnyH_take (i := 10) (v := (.int .i64 t)) rfl (by kernel_rfl) (by kernel_rfl) (by kernel_rfl) (fun _ _ _ h => h) (Or.inl ⟨by kernel_rfl, by (intro w hSw; (try dsimp only at hSw); go_simp)⟩) hHeld ?_
    refine wpAnyH_ready (rs := [11]) (by kernel_rfl) (by simp) ?_
    refine AllReadyH.cons rfl (fun K hK => ?_) AllReadyH.nil
    go_simp
    refine hK.out _ _ ⟨cell_al sq00, cell_al sq01, cell_al sq02, cell_al sq10, cell_al sq20, cell_al sq9⟩ (fun hHeld => ?_)
    clear hK K
    try simp only [Act.put, List.setIfInBounds_toArray, List.set_cons_zero, List.set_cons_succ]
    refine wpAnyH_ready (rs := [12]) (by kernel_rfl) (by simp) ?_
    refine AllReadyH.cons rfl (fun K hK => ?_) AllReadyH.nil
    go_simp
    go_at_call 39
    refine (k2 _ _ rfl).mono ?_
    rintro e w2 ⟨rfl, rfl⟩
    have HM2 := Lib.hid (HM1.out.grown (grown_alloc w1 (.cells #[.int .i64 f, .int .i64 t] 3) none))
    have tq00 := cell_al (o := .cells #[.int .i64 f, .int .i64 t] 3) sq00
    have tq01 := cell_al (o := .cells #[.int .i64 f, .int .i64 t] 3) sq01
    have tq02 := cell_al (o := .cells #[.int .i64 f, .int .i64 t] 3) sq02
    have tq10 := cell_al (o := .cells #[.int .i64 f, .int .i64 t] 3) sq10
    have tq20 := cell_al (o := .cells #[.int .i64 f, .int .i64 t] 3) sq20
    have tq9 := cell_al (o := .cells #[.int .i64 f, .int .i64 t] 3) sq9
    go_wp2_with fail
    refine hK.out _ _ hHeld (fun hHeld => ?_)
    clear hK K
    try simp only [Act.put, List.setIfInBounds_toArray, List.set_cons_zero, List.set_cons_succ]
    refine wpAnyH_take (i := 13) (v := (.bool true)) rfl (by kernel_rfl) (by kernel_rfl) (by kernel_rfl) (fun _ _ _ h => h) (Or.inl ⟨by kernel_rfl, by (intro w hSw; (try dsimp only at hSw); go_simp)⟩) hHeld ?_
    refine wpAnyH_take (i := 14) (v := (.bool true)) rfl (by kernel_rfl) (by kernel_rfl) (by kernel_rfl) (fun _ _ _ h => h) (Or.inl ⟨by kernel_rfl, by (intro w hSw; (try dsimp only at hSw); go_simp)⟩) hHeld ?_
    refine wpAnyH_take (i := 15) (v := (.bool true)) rfl (by kernel_rfl) (by kernel_rfl) (by kernel_rfl) (fun _ _ _ h => h) (Or.inl ⟨by kernel_rfl, by (intro w hSw; (try dsimp only at hSw); go_simp)⟩) hHeld ?_
    refine wpAnyH_take (i := 16) (v := undef) rfl (by kernel_rfl) (by kernel_rfl) (by kernel_rfl) (fun _ _ _ h => h) (Or.inr ⟨by kernel_rfl, rfl⟩) hHeld ?_
    refine wpAnyH_take (i := 17) (v := undef) rfl (by kernel_rfl) (by kernel_rfl) (by kernel_rfl) (fun _ _ _ h => h) (Or.inr ⟨by kernel_rfl, rfl⟩) hHeld ?_
    refine wpAnyH_take (i := 18) (v := undef) rfl (by kernel_rfl) (by kernel_rfl) (by kernel_rfl) (fun _ _ _ h => h) (Or.inr ⟨by kernel_rfl, rfl⟩) hHeld ?_
    refine wpAnyH_take (i := 19) (v := (.bool true)) rfl (by kernel_rfl) (by kernel_rfl) (by kernel_rfl) (fun _ _ _ h => h) (Or.inl ⟨by kernel_rfl, by (intro w hSw; (try dsimp only at hSw); go_simp)⟩) hHeld ?_
    refine wpAnyH_done (by kernel_rfl) ?_ _
    simp only [Act.put, List.getElem_toArray, List.getElem_cons_zero, List.getElem_cons_succ, List.setIfInBounds_toArray, List.set_cons_zero, List.set_cons_succ]
    clear q00 q01 q02 q10 q20 q9 sq00 sq01 sq02 sq10 sq20 sq9 tq00 tq01 tq02 tq10 tq20 tq9 hHeld
    generalize w1.alloc (.cells #[.int .i64 f, .int .i64 t] 3) = w2 at *
    obtain ⟨z0, z1, z2⟩ := three_cells (HM2.out.get (b := w.heap.size + 1 + 1 + 1) (o := .cells #[.int .i64 0, .int .i64 0, .slice none 0 0] 25) (by simp))
    have f0 := frozen_of_row w2 _ 0 _ _ (HM2.out.get (b := w.heap.size + 1 + 1 + 1) (o := .cells #[.int .i64 0, .int .i64 0, .slice none 0 0] 25) (by simp))
    have f1 := frozen_of_row w2 _ 1 _ _ (HM2.out.get (b := w.heap.size + 1 + 1 + 1) (o := .cells #[.int .i64 0, .int .i64 0, .slice none 0 0] 25) (by simp))
    have f2 := frozen_of_row w2 _ 2 _ _ (HM2.out.get (b := w.heap.size + 1 + 1 + 1) (o := .cells #[.int .i64 0, .int .i64 0, .slice none 0 0] 25) (by simp))
    go_wp2
    refine bodyPost_ret (v := .tuple #[.agg #[.int .i64 0, .int .i64 0, .slice none 0 0], .bool false]) (by simp [results, Try.results16, go_sem, z0, z1, z2]) rfl ⟨_, rfl, ?_⟩
    exact own_res (mown_nil _ _) HM2.out.g (by omega)
  replace hc1 := Classical.not_not.1 hc1
  have k2 := fun W (B : Nat) (hB : W.heap.size = B) => in2 f t 0 (H : Int) true W B hB (by rw [inB_true hc1.1.1 hc1.1.2, inB_true hc1.2.1 hc1.2.2]; rfl)
  by_cases hft : t < f
  · obtain ⟨rfl, rfl, rfl, rfl⟩ := hv.no (fun h => by have := h.2.2.1; omega)
    have hgt : decide (f > t) = true := by simpa using hft
    have q9 := HM0.out.g.cell hu0 (by simp)
    obtain ⟨q00, q01, q02⟩ := three_cells (HM0.out.get (b := w.heap.size) (o := .cells #[.int .i64 r, .int .i64 d, .slice (some ⟨b, off, none⟩) len cap] 25) (by simp))
    have q10 := one_cell9 (HM0.out.get (b := w.heap.size + 1) (o := .cells #[.int .i64 f] 3) (by simp))
    have q20 := one_cell9 (HM0.out.get (b := w.heap.size + 1 + 1) (o := .cells #[.int .i64 t] 3) (by simp))
    clear hs hva hv hc1 hV hc hxs0 hx hu0 hHd hxl0
    go_enter Try.func16, Try.ntmps16
    go_wp2_with fail
    go_region_held3 (fun w' => w'.cell? ⟨w.heap.size, 0, none⟩ = some (.int .i64 r) ∧ w'.cell? ⟨w.heap.size, 1, none⟩ = some (.int .i64 d) ∧ w'.cell? ⟨w.heap.size, 2, none⟩ = some (.slice (some ⟨b, off, none⟩) len cap) ∧ w'.cell? ⟨w.heap.size + 1, 0, none⟩ = some (.int .i64 f) ∧ w'.cell? ⟨w.heap.size + 1 + 1, 0, none⟩ = some (.int .i64 t) ∧ w'.cell? ⟨b, off, none⟩ = some (.slice a0 H c0)) (first | go_keep | exact ⟨by assumption, by assumption, by assumption, by assumption, by assumption, by assumption⟩ | exact ⟨cell_al (by assumption), cell_al (by assumption), cell_al (by assumption), cell_al (by assumption), cell_al (by assumption), cell_al (by assumption)⟩) ((first | (go_at_call 26; refine (k1 _ (grown_drew _ none)).mono ?_; rintro e w1 ⟨rfl, hg⟩; have HM1 := Lib.hid (HM0.out.grown (grown_trans (grown_drew _ none) hg)); have sq00 := hg.cell q00 (by simp); have sq01 := hg.cell q01 (by simp); have sq02 := hg.cell q02 (by simp); have sq10 := hg.cell q10 (by simp); have sq20 := hg.cell q20 (by simp); have sq9 := hg.cell q9 (by simp); clear hg) | (go_at_call 39; refine (k2 _ _ rfl).mono ?_; rintro e w2 ⟨rfl, rfl⟩; have HM2 := Lib.hid (HM1.out.grown (grown_alloc w1 (.cells #[.int .i64 f, .int .i64 t] 3) none)); have tq00 := cell_al (o := .cells #[.int .i64 f, .int .i64 t] 3) sq00; have tq01 := cell_al (o := .cells #[.int .i64 f, .int .i64 t] 3) sq01; have tq02 := cell_al (o := .cells #[.int .i64 f, .int .i64 t] 3) sq02; have tq10 := cell_al (o := .cells #[.int .i64 f, .int .i64 t] 3) sq10; have tq20 := cell_al (o := .cells #[.int .i64 f, .int .i64 t] 3) sq20; have tq9 := cell_al (o := .cells #[.int .i64 f, .int .i64 t] 3) sq9)))
    all_goals
      generalize w1.alloc (.cells #[.int .i64 f, .int .i64 t] 3) = w2 at *
      obtain ⟨z0, z1, z2⟩ := three_cells (HM2.out.get (b := w.heap.size + 1 + 1 + 1) (o := .cells #[.int .i64 0, .int .i64 0, .slice none 0 0] 25) (by simp))
      have f0 := frozen_of_row w2 _ 0 _ _ (HM2.out.get (b := w.heap.size + 1 + 1 + 1) (o := .cells #[.int .i64 0, .int .i64 0, .slice none 0 0] 25) (by simp))
      have f1 := frozen_of_row w2 _ 1 _ _ (HM2.out.get (b := w.heap.size + 1 + 1 + 1) (o := .cells #[.int .i64 0, .int .i64 0, .slice none 0 0] 25) (by simp))
      have f2 := frozen_of_row w2 _ 2 _ _ (HM2.out.get (b := w.heap.size + 1 + 1 + 1) (o := .cells #[.int .i64 0, .int .i64 0, .slice none 0 0] 25) (by simp))
      go_wp2
      refine bodyPost_ret (v := .tuple #[.agg #[.int .i64 0, .int .i64 0, .slice none 0 0], .bool false]) (by simp [results, Try.results16, go_sem, z0, z1, z2]) rfl ⟨_, rfl, ?_⟩
      exact own_res (mown_nil _ _) HM2.out.g (by omega)
  have hgt : decide (f > t) = false := by simp; omega
  obtain ⟨rfl, rfl, rfl, rfl⟩ := hv.yes ⟨hva, hc1.1.1, by omega, by rw [hHd]; exact hc1.2.2⟩
  obtain ⟨t, rfl⟩ := Int.eq_ofNat_of_zero_le hc1.2.1
  obtain ⟨f, rfl⟩ := Int.eq_ofNat_of_zero_le hc1.1.1
  simp only [Int.toNat_natCast] at *
  have kE := fun W (hgW : w.grownBy W none) (c1 : W.cell? ⟨w.heap.size + 1, 0, none⟩ = some (.int .i64 (f : Int))) (c2 : W.cell? ⟨w.heap.size + 1 + 1, 0, none⟩ = some (.int .i64 (t : Int))) => iEdCu_any xss (xss.map (cutR f t)) (some ⟨b, off, none⟩) len cap r d (w.heap.size + 1) (w.heap.size + 1 + 1) W (hx.grown hgW) hlen hlen1 (by rw [List.length_map]; exact hx.1) (fun k zs hz => by
    rw [List.getElem?_map] at hz
    obtain ⟨xs, hxx, rfl⟩ := Option.map_eq_some_iff.1 hz
    rw [cutR_len (by rw [(hV.row k xs hxx).1]; omega) (by omega)]; omega) (fun k xs zs a c W2 hxk hzk hrow hg2 => by
    rw [List.getElem?_map, hxk] at hzk
    injection hzk with hzk
    subst hzk
    exact iCuCl xs k _ _ f t a c W2 (hrow.grown hg2) (by omega) (by rw [(hV.row k xs hxk).1]; omega) (hg2.cell c1 (by simp)) (hg2.cell c2 (by simp)))
  have HL := Lib.hid hx.1
  have q9 := HM0.out.g.cell hu0 (by simp)
  obtain ⟨q00, q01, q02⟩ := three_cells (HM0.out.get (b := w.heap.size) (o := .cells #[.int .i64 r, .int .i64 d, .slice (some ⟨b, off, none⟩) len cap] 25) (by simp))
  have q10 := one_cell9 (HM0.out.get (b := w.heap.size + 1) (o := .cells #[.int .i64 (f : Int)] 3) (by simp))
  have q20 := one_cell9 (HM0.out.get (b := w.heap.size + 1 + 1) (o := .cells #[.int .i64 (t : Int)] 3) (by simp))
  clear hs hva hv hc1 hV hc hxs0 hx hu0 hHd hxl0
  go_enter Try.func16, Try.ntmps16
  go_wp2_with fail
  go_region_held3 (fun w' => w'.cell? ⟨w.heap.size, 0, none⟩ = some (.int .i64 r) ∧ w'.cell? ⟨w.heap.size, 1, none⟩ = some (.int .i64 d) ∧ w'.cell? ⟨w.heap.size, 2, none⟩ = some (.slice (some ⟨b, off, none⟩) len cap) ∧ w'.cell? ⟨w.heap.size + 1, 0, none⟩ = some (.int .i64 (f : Int)) ∧ w'.cell? ⟨w.heap.size + 1 + 1, 0, none⟩ = some (.int .i64 (t : Int)) ∧ w'.cell? ⟨b, off, none⟩ = some (.slice a0 H c0)) (first | go_keep | exact ⟨by assumption, by assumption, by assumption, by assumption, by assumption, by assumption⟩ | exact ⟨cell_al (by assumption), cell_al (by assumption), cell_al (by assumption), cell_al (by assumption), cell_al (by assumption), cell_al (by assumption)⟩) ((first | (go_at_call 26; refine (k1 _ (grown_drew _ none)).mono ?_; rintro e w1 ⟨rfl, hg⟩; have HM1 := Lib.hid (HM0.out.grown (grown_trans (grown_drew _ none) hg)); have sq00 := hg.cell q00 (by simp); have sq01 := hg.cell q01 (by simp); have sq02 := hg.cell q02 (by simp); have sq10 := hg.cell q10 (by simp); have sq20 := hg.cell q20 (by simp); have sq9 := hg.cell q9 (by simp); clear hg) | (go_at_call 39; refine (k2 _ _ rfl).mono ?_; rintro e w2 ⟨rfl, rfl⟩; have HM2 := Lib.hid (HM1.out.grown (grown_alloc w1 (.cells #[.int .i64 (f : Int), .int .i64 (t : Int)] 3) none)); have tq00 := cell_al (o := .cells #[.int .i64 (f : Int), .int .i64 (t : Int)] 3) sq00; have tq01 := cell_al (o := .cells #[.int .i64 (f : Int), .int .i64 (t : Int)] 3) sq01; have tq02 := cell_al (o := .cells #[.int .i64 (f : Int), .int .i64 (t : Int)] 3) sq02; have tq10 := cell_al (o := .cells #[.int .i64 (f : Int), .int .i64 (t : Int)] 3) sq10; have tq20 := cell_al (o := .cells #[.int .i64 (f : Int), .int .i64 (t : Int)] 3) sq20; have tq9 := cell_al (o := .cells #[.int .i64 (f : Int), .int .i64 (t : Int)] 3) sq9)))
  all_goals
    generalize w1.alloc (.cells #[.int .i64 (f : Int), .int .i64 (t : Int)] 3) = w2 at *
    have kE2 := kE w2 HM2.out.g tq10 tq20
    go_wp2_with fail
    refine kE2.mono ?_
    rintro e w3 ⟨v3, rfl, ho3, hg3⟩
    obtain ⟨a3, c3, rfl, _⟩ := ho3.reads
    have HO3 := Lib.hid ho3
    have HM3 := Lib.hid (HM2.out.grown hg3)
    have HS2 := Lib.hid (block_lt (HM2.out.get (b := w.heap.size + 1 + 1 + 1) (o := .cells #[.int .i64 0, .int .i64 0, .slice none 0 0] 25) (by simp)))
    clear ho3 hg3 kE kE2
    obtain ⟨z0, z1, z2⟩ := three_cells (HM3.out.get (b := w.heap.size + 1 + 1 + 1) (o := .cells #[.int .i64 0, .int .i64 0, .slice none 0 0] 25) (by simp))
    have f0 := frozen_of_row w3 _ 0 _ _ (HM3.out.get (b := w.heap.size + 1 + 1 + 1) (o := .cells #[.int .i64 0, .int .i64 0, .slice none 0 0] 25) (by simp))
    have f1 := frozen_of_row w3 _ 1 _ _ (HM3.out.get (b := w.heap.size + 1 + 1 + 1) (o := .cells #[.int .i64 0, .int .i64 0, .slice none 0 0] 25) (by simp))
    have f2 := frozen_of_row w3 _ 2 _ _ (HM3.out.get (b := w.heap.size + 1 + 1 + 1) (o := .cells #[.int .i64 0, .int .i64 0, .slice none 0 0] 25) (by simp))
    have hll := HL.out
    rw [List.length_map, hll] at HO3
    go_wp2
    refine bodyPost_ret (v := .tuple #[.agg #[.int .i64 r, .int .i64 d, .slice a3 len c3], .bool true]) (by simp [results, Try.results16, go_sem, z0, z1, z2]) rfl ⟨_, rfl, ?_⟩
    rw [List.length_map, hll]
    exact own_res (HO3.out.base_le HS2.out) HM3.out.g (by omega)

set_option maxRecDepth 100000 in
set_option maxHeartbeats 4000000 in
theorem iFd_any (xss : List (List Int)) (ao : Option Addr) (len cap : Nat) (r d t : Int) (w : World) (rr dd : Int) (yss : List (List Int)) (ok : Bool) (hx : Mat w ao len xss) (hs : szL xss ≤ 1048576) (hv : FdR r d t xss rr dd yss ok) :
    Calls Try.prog 24 #[.agg #[.int .i64 r, .int .i64 d, .slice ao len cap], .int .i64 t] w (MadeAB yss rr dd ok w) := by
  have hm0 : Mem w (((w.alloc (.cells #[.int .i64 r, .int .i64 d, .slice ao len cap] 25)).alloc (.cells #[.int .i64 t] 3)).alloc (.cells #[.int .i64 0, .int .i64 0, .slice none 0 0] 25)) [(w.heap.size, .cells #[.int .i64 r, .int .i64 d, .slice ao len cap] 25), (w.heap.size + 1, .cells #[.int .i64 t] 3), (w.heap.size + 1 + 1, .cells #[.int .i64 0, .int .i64 0, .slice none 0 0] 25)] := by have := ((((Mem.start w).block (.cells #[.int .i64 r, .int .i64 d, .slice ao len cap] 25)).block (.cells #[.int .i64 t] 3)).block (.cells #[.int .i64 0, .int .i64 0, .slice none 0 0] 25)); simpa using this
  have HM0 := Lib.hid hm0
  clear hm0
  have k1 := fun W (hg : (((w.alloc (.cells #[.int .i64 r, .int .i64 d, .slice ao len cap] 25)).alloc (.cells #[.int .i64 t] 3)).alloc (.cells #[.int .i64 0, .int .i64 0, .slice none 0 0] 25)).grownBy W none) => iVAu_any xss ao len cap r d W _ (hx.grown (grown_trans HM0.out.g hg)) hs rfl
  cases hva : vAu r d xss with
  | false =>
    rw [hva] at k1
    obtain ⟨rfl, rfl, rfl, rfl⟩ := hv.no (fun h => by rw [h.1] at hva; cases hva)
    clear hx hs hva hv
    obtain ⟨q00, q01, q02⟩ := three_cells (HM0.out.get (b := w.heap.size) (o := .cells #[.int .i64 r, .int .i64 d, .slice ao len cap] 25) (by simp))
    have q10 := one_cell9 (HM0.out.get (b := w.heap.size + 1) (o := .cells #[.int .i64 t] 3) (by simp))
    go_enter Try.func24, Try.ntmps24
    go_wp2_with fail
    refine wp_region_held_drew (S := fun _ => True) (by kernel_rfl) trivial (fun hHeld => ?_)
    refine wpAnyH_ready (rs := [0]) (by kernel_rfl) (by simp) ?_
    refine AllReadyH.cons rfl (fun K hK => ?_) AllReadyH.nil
    go_simp
    refine hK.out _ _ trivial (fun hHeld => ?_)
    clear hK K
    try simp only [Act.put, List.setIfInBounds_toArray, List.set_cons_zero, List.set_cons_succ]
    refine wpAnyH_ready (rs := [1]) (by kernel_rfl) (by simp) ?_
    refine AllReadyH.cons rfl (fun K hK => ?_) AllReadyH.nil
    go_simp
    go_at_call 26
    refine (k1 _ (grown_drew _ none)).mono ?_
    rintro e w1 ⟨rfl, hg⟩
    have HM1 := Lib.hid (HM0.out.grown (grown_trans (grown_drew _ none) hg))
    have sq00 := hg.cell q00 (by simp)
    have sq01 := hg.cell q01 (by simp)
    have sq02 := hg.cell q02 (by simp)
    have sq10 := hg.cell q10 (by simp)
    clear hg
    go_wp2_with fail
    refine hK.out _ _ trivial (fun hHeld => ?_)
    clear hK K
    try simp only [Act.put, List.setIfInBounds_toArray, List.set_cons_zero, List.set_cons_succ]
    refine wpAnyH_take (i := 2) (v := (.bool true)) rfl (by kernel_rfl) (by kernel_rfl) (by kernel_rfl) (fun _ _ _ h => h) (Or.inl ⟨by kernel_rfl, by (intro w hSw; (try dsimp only at hSw); go_simp)⟩) trivial ?_
    refine wpAnyH_take (i := 3) (v := (.bool true)) rfl (by kernel_rfl) (by kernel_rfl) (by kernel_rfl) (fun _ _ _ h => h) (Or.inl ⟨by kernel_rfl, by (intro w hSw; (try dsimp only at hSw); go_simp)⟩) trivial ?_
    refine wpAnyH_take (i := 4) (v := undef) rfl (by kernel_rfl) (by kernel_rfl) (by kernel_rfl) (fun _ _ _ h => h) (Or.inr ⟨by kernel_rfl, rfl⟩) trivial ?_
    refine wpAnyH_take (i := 5) (v := undef) rfl (by kernel_rfl) (by kernel_rfl) (by kernel_rfl) (fun _ _ _ h => h) (Or.inr ⟨by kernel_rfl, rfl⟩) trivial ?_
    refine wpAnyH_take (i := 6) (v := undef) rfl (by kernel_rfl) (by kernel_rfl) (by kernel_rfl) (fun _ _ _ h => h) (Or.inr ⟨by kernel_rfl, rfl⟩) trivial ?_
    refine wpAnyH_take (i := 7) (v := undef) rfl (by kernel_rfl) (by kernel_rfl) (by kernel_rfl) (fun _ _ _ h => h) (Or.inr ⟨by kernel_rfl, rfl⟩) trivial ?_
    refine wpAnyH_take (i := 8) (v := undef) rfl (by kernel_rfl) (by kernel_rfl) (by kernel_rfl) (fun _ _ _ h => h) (Or.inr ⟨by kernel_rfl, rfl⟩) trivial ?_
    refine wpAnyH_take (i := 9) (v := undef) rfl (by kernel_rfl) (by kernel_rfl) (by kernel_rfl) (fun _ _ _ h => h) (Or.inr ⟨by kernel_rfl, rfl⟩) trivial ?_
    refine wpAnyH_take (i := 10) (v := undef) rfl (by kernel_rfl) (by kernel_rfl) (by kernel_rfl) (fun _ _ _ h => h) (Or.inr ⟨by kernel_rfl, rfl⟩) trivial ?_
    refine wpAnyH_take (i := 11) (v := undef) rfl (by kernel_rfl) (by kernel_rfl) (by kernel_rfl) (fun _ _ _ h => h) (Or.inr ⟨by kernel_rfl, rfl⟩) trivial ?_
    refine wpAnyH_take (i := 12) (v := undef) rfl (by kernel_rfl) (by kernel_rfl) (by kernel_rfl) (fun _ _ _ h => h) (Or.inr ⟨by kernel_rfl, rfl⟩) trivial ?_
    refine wpAnyH_take (i := 13) (v := (.bool true)) rfl (by kernel_rfl) (by kernel_rfl) (by kernel_rfl) (fun _ _ _ h => h) (Or.inl ⟨by kernel_rfl, by (intro w hSw; (try dsimp only at hSw); go_simp)⟩) trivial ?_
    refine wpAnyH_done (by kernel_rfl) ?_ _
    simp only [Act.put, List.getElem_toArray, List.getElem_cons_zero, List.getElem_cons_succ, List.setIfInBounds_toArray, List.set_cons_zero, List.set_cons_succ]
    clear q00 q01 q02 q10 hHeld
    obtain ⟨z0, z1, z2⟩ := three_cells (HM1.out.get (b := w.heap.size + 1 + 1) (o := .cells #[.int .i64 0, .int .i64 0, .slice none 0 0] 25) (by simp))
    have f0 := frozen_of_row w1 _ 0 _ _ (HM1.out.get (b := w.heap.size + 1 + 1) (o := .cells #[.int .i64 0, .int .i64 0, .slice none 0 0] 25) (by simp))
    have f1 := frozen_of_row w1 _ 1 _ _ (HM1.out.get (b := w.heap.size + 1 + 1) (o := .cells #[.int .i64 0, .int .i64 0, .slice none 0 0] 25) (by simp))
    have f2 := frozen_of_row w1 _ 2 _ _ (HM1.out.get (b := w.heap.size + 1 + 1) (o := .cells #[.int .i64 0, .int .i64 0, .slice none 0 0] 25) (by simp))
    go_wp2
    refine bodyPost_ret (v := .tuple #[.agg #[.int .i64 0, .int .i64 0, .slice none 0 0], .bool false]) (by simp [results, Try.results24, go_sem, z0, z1, z2]) rfl ⟨_, rfl, ?_⟩
    exact own_res (mown_nil _ _) HM1.out.g (by omega)
  | true =>
  rw [hva] at k1
  obtain ⟨u, H, hV⟩ := va_of hva
  have hHd := hV.hd
  have hlen : len ≤ 2 := by have := hV.ch.2; rw [hx.1] at this; exact this
  have hlen1 : 1 ≤ len := by have := hV.ch.1; rw [hx.1] at this; exact this
  have hlen0 : 0 < len := hlen1
  have hH : H ≤ 256 := hV.hh
  obtain ⟨b, off, rfl, hc⟩ := hx.2.resolve_left (by intro e; have := hx.1; rw [e] at this; simp at this; omega)
  obtain ⟨xs0, hxs0, hxl0⟩ := hV.first
  obtain ⟨u0, hu0, a0, c0, rfl, hin0⟩ := hc 0 xs0 hxs0
  rw [hxl0, Nat.add_zero] at hu0
  clear hin0
  by_cases hc1 : ¬ (0 ≤ t ∧ t ≤ (H : Int))
  · obtain ⟨rfl, rfl, rfl, rfl⟩ := hv.no (fun h => hc1 ⟨h.2.1, by have := h.2.2; omega⟩)
    have k2 := fun W (B : Nat) (hB : W.heap.size = B) => iIn1 t 0 (H : Int) false W B hB (by exact inB_false hc1)
    have q9 := HM0.out.g.cell hu0 (by simp)
    obtain ⟨q00, q01, q02⟩ := three_cells (HM0.out.get (b := w.heap.size) (o := .cells #[.int .i64 r, .int .i64 d, .slice (some ⟨b, off, none⟩) len cap] 25) (by simp))
    have q10 := one_cell9 (HM0.out.get (b := w.heap.size + 1) (o := .cells #[.int .i64 t] 3) (by simp))
    clear hs hva hv hc1 hV hc hxs0 hx hu0 hHd hxl0
    go_enter Try.func24, Try.ntmps24
    go_wp2_with fail
    first | (go_region_held3 (fun w' => w'.cell? ⟨w.heap.size, 0, none⟩ = some (.int .i64 r) ∧ w'.cell? ⟨w.heap.size, 1, none⟩ = some (.int .i64 d) ∧ w'.cell? ⟨w.heap.size, 2, none⟩ = some (.slice (some ⟨b, off, none⟩) len cap) ∧ w'.cell? ⟨w.heap.size + 1, 0, none⟩ = some (.int .i64 t) ∧ w'.cell? ⟨b, off, none⟩ = some (.slice a0 H c0)) (first | go_keep | exact ⟨by assumption, by assumption, by assumption, by assumption, by assumption⟩ | exact ⟨cell_al (by assumption), cell_al (by assumption), cell_al (by assumption), cell_al (by assumption), cell_al (by assumption)⟩) ((first | (go_at_call 26; refine (k1 _ (grown_drew _ none)).mono ?_; rintro e w1 ⟨rfl, hg⟩; have HM1 := Lib.hid (HM0.out.grown (grown_trans (grown_drew _ none) hg)); have sq00 := hg.cell q00 (by simp); have sq01 := hg.cell q01 (by simp); have sq02 := hg.cell q02 (by simp); have sq10 := hg.cell q10 (by simp); have sq9 := hg.cell q9 (by simp); clear hg) | (go_at_call 39; refine (k2 _ _ rfl).mono ?_; rintro e w2 ⟨rfl, rfl⟩; have HM2 := Lib.hid (HM1.out.grown (grown_alloc w1 (.cells #[.int .i64 t] 3) none)); have tq00 := cell_al (o := .cells #[.int .i64 t] 3) sq00; have tq01 := cell_al (o := .cells #[.int .i64 t] 3) sq01; have tq02 := cell_al (o := .cells #[.int .i64 t] 3) sq02; have tq10 := cell_al (o := .cells #[.int .i64 t] 3) sq10; have tq9 := cell_al (o := .cells #[.int .i64 t] 3) sq9)))) | fail
    all_goals
      generalize w1.alloc (.cells #[.int .i64 t] 3) = w2 at *
      obtain ⟨z0, z1, z2⟩ := three_cells (HM2.out.get (b := w.heap.size + 1 + 1) (o := .cells #[.int .i64 0, .int .i64 0, .slice none 0 0] 25) (by simp))
      have f0 := frozen_of_row w2 _ 0 _ _ (HM2.out.get (b := w.heap.size + 1 + 1) (o := .cells #[.int .i64 0, .int .i64 0, .slice none 0 0] 25) (by simp))
      have f1 := frozen_of_row w2 _ 1 _ _ (HM2.out.get (b := w.heap.size + 1 + 1) (o := .cells #[.int .i64 0, .int .i64 0, .slice none 0 0] 25) (by simp))
      have f2 := frozen_of_row w2 _ 2 _ _ (HM2.out.get (b := w.heap.size + 1 + 1) (o := .cells #[.int .i64 0, .int .i64 0, .slice none 0 0] 25) (by simp))
      go_wp2
      refine bodyPost_ret (v := .tuple #[.agg #[.int .i64 0, .int .i64 0, .slice none 0 0], .bool false]) (by simp [results, Try.results24, go_sem, z0, z1, z2]) rfl ⟨_, rfl, ?_⟩
      exact own_res (mown_nil _ _) HM2.out.g (by omega)
  replace hc1 := Classical.not_not.1 hc1
  have k2 := fun W (B : Nat) (hB : W.heap.size = B) => iIn1 t 0 (H : Int) true W B hB (by exact inB_true hc1.1 hc1.2)
  obtain ⟨rfl, rfl, rfl, rfl⟩ := hv.yes ⟨hva, hc1.1, by rw [hHd]; exact hc1.2⟩
  obtain ⟨t, rfl⟩ := Int.eq_ofNat_of_zero_le hc1.1
  simp only [Int.toNat_natCast] at *
  have kE := fun W (hgW : w.grownBy W none) (c1 : W.cell? ⟨w.heap.size + 1, 0, none⟩ = some (.int .i64 (t : Int))) => iEdFd_any xss (xss.map (fdL t)) (some ⟨b, off, none⟩) len cap r d (w.heap.size + 1) W (hx.grown hgW) hlen hlen1 (by rw [List.length_map]; exact hx.1) (fun k zs hz => by
    rw [List.getElem?_map] at hz
    obtain ⟨xs, hxx, rfl⟩ := Option.map_eq_some_iff.1 hz
    rw [fdL_len (by rw [(hV.row k xs hxx).1]; omega), (hV.row k xs hxx).1]; omega) (fun k xs zs a c W2 hxk hzk hrow hg2 => by
    rw [List.getElem?_map, hxk] at hzk
    injection hzk with hzk
    subst hzk
    obtain ⟨a2, c2, e, hi2, hlc2, hcm2, hnl2⟩ := hrow.grown hg2
    injection e with e1 _ e3
    subst e1 e3
    exact iFdCl xs k _ t xs.length a c W2 hi2 hlc2 hcm2 hnl2 (by rw [(hV.row k xs hxk).1]; omega) (by rw [(hV.row k xs hxk).1]; omega) (allB_wide9 (hV.row k xs hxk).2 (by have := hV.pow; omega) (by have := hV.pow; omega)) (hg2.cell c1 (by simp)))
  have HL := Lib.hid hx.1
  have q9 := HM0.out.g.cell hu0 (by simp)
  obtain ⟨q00, q01, q02⟩ := three_cells (HM0.out.get (b := w.heap.size) (o := .cells #[.int .i64 r, .int .i64 d, .slice (some ⟨b, off, none⟩) len cap] 25) (by simp))
  have q10 := one_cell9 (HM0.out.get (b := w.heap.size + 1) (o := .cells #[.int .i64 (t : Int)] 3) (by simp))
  clear hs hva hv hc1 hV hc hxs0 hx hu0 hHd hxl0
  go_enter Try.func24, Try.ntmps24
  go_wp2_with fail
  go_region_held3 (fun w' => w'.cell? ⟨w.heap.size, 0, none⟩ = some (.int .i64 r) ∧ w'.cell? ⟨w.heap.size, 1, none⟩ = some (.int .i64 d) ∧ w'.cell? ⟨w.heap.size, 2, none⟩ = some (.slice (some ⟨b, off, none⟩) len cap) ∧ w'.cell? ⟨w.heap.size + 1, 0, none⟩ = some (.int .i64 (t : Int)) ∧ w'.cell? ⟨b, off, none⟩ = some (.slice a0 H c0)) (first | go_keep | exact ⟨by assumption, by assumption, by assumption, by assumption, by assumption⟩ | exact ⟨cell_al (by assumption), cell_al (by assumption), cell_al (by assumption), cell_al (by assumption), cell_al (by assumption)⟩) ((first | (go_at_call 26; refine (k1 _ (grown_drew _ none)).mono ?_; rintro e w1 ⟨rfl, hg⟩; have HM1 := Lib.hid (HM0.out.grown (grown_trans (grown_drew _ none) hg)); have sq00 := hg.cell q00 (by simp); have sq01 := hg.cell q01 (by simp); have sq02 := hg.cell q02 (by simp); have sq10 := hg.cell q10 (by simp); have sq9 := hg.cell q9 (by simp); clear hg) | (go_at_call 39; refine (k2 _ _ rfl).mono ?_; rintro e w2 ⟨rfl, rfl⟩; have HM2 := Lib.hid (HM1.out.grown (grown_alloc w1 (.cells #[.int .i64 (t : Int)] 3) none)); have tq00 := cell_al (o := .cells #[.int .i64 (t : Int)] 3) sq00; have tq01 := cell_al (o := .cells #[.int .i64 (t : Int)] 3) sq01; have tq02 := cell_al (o := .cells #[.int .i64 (t : Int)] 3) sq02; have tq10 := cell_al (o := .cells #[.int .i64 (t : Int)] 3) sq10; have tq9 := cell_al (o := .cells #[.int .i64 (t : Int)] 3) sq9)))
  all_goals
    generalize w1.alloc (.cells #[.int .i64 (t : Int)] 3) = w2 at *
    have kE2 := kE w2 HM2.out.g tq10
    go_wp2_with fail
    refine kE2.mono ?_
    rintro e w3 ⟨v3, rfl, ho3, hg3⟩
    obtain ⟨a3, c3, rfl, _⟩ := ho3.reads
    have HO3 := Lib.hid ho3
    have HM3 := Lib.hid (HM2.out.grown hg3)
    have HS2 := Lib.hid (block_lt (HM2.out.get (b := w.heap.size + 1 + 1) (o := .cells #[.int .i64 0, .int .i64 0, .slice none 0 0] 25) (by simp)))
    clear ho3 hg3 kE kE2
    obtain ⟨z0, z1, z2⟩ := three_cells (HM3.out.get (b := w.heap.size + 1 + 1) (o := .cells #[.int .i64 0, .int .i64 0, .slice none 0 0] 25) (by simp))
    have f0 := frozen_of_row w3 _ 0 _ _ (HM3.out.get (b := w.heap.size + 1 + 1) (o := .cells #[.int .i64 0, .int .i64 0, .slice none 0 0] 25) (by simp))
    have f1 := frozen_of_row w3 _ 1 _ _ (HM3.out.get (b := w.heap.size + 1 + 1) (o := .cells #[.int .i64 0, .int .i64 0, .slice none 0 0] 25) (by simp))
    have f2 := frozen_of_row w3 _ 2 _ _ (HM3.out.get (b := w.heap.size + 1 + 1) (o := .cells #[.int .i64 0, .int .i64 0, .slice none 0 0] 25) (by simp))
    have hll := HL.out
    rw [List.length_map, hll] at HO3
    go_wp2
    refine bodyPost_ret (v := .tuple #[.agg #[.int .i64 r, .int .i64 d, .slice a3 len c3], .bool true]) (by simp [results, Try.results24, go_sem, z0, z1, z2]) rfl ⟨_, rfl, ?_⟩
    rw [List.length_map, hll]
    exact own_res (HO3.out.base_le HS2.out) HM3.out.g (by omega)

theorem iSame_any (xss yss : Option Addr) (len cap len' cap' : Nat) (r d r' d' : Int) (w : World) (v : Bool) (hv : (decide (r = r') && (decide (d = d') && decide (len = len'))) = v) :
    Calls Try.prog 46 #[.agg #[.int .i64 r, .int .i64 d, .slice xss len cap], .agg #[.int .i64 r', .int .i64 d', .slice yss len' cap']] w fun e w' => e = .returned (.bool v) ∧ w.grownBy w' none := by
  have HG := Lib.hid (grown_trans (grown_alloc w (.cells #[.int .i64 r, .int .i64 d, .slice xss len cap] 25) none) (grown_alloc _ (.cells #[.int .i64 r', .int .i64 d', .slice yss len' cap'] 25) none))
  subst hv
  by_cases h1 : r = r'
  · subst h1
    by_cases h2 : d = d'
    · subst h2
      by_cases h3 : len = len'
      · subst h3
        go_enter Try.func46, Try.ntmps46
        go_wp2
        go_ret
        exact ⟨by simp, HG.out⟩
      · have hb : ((len : Int) == (len' : Int)) = false := by simp; omega
        have e3 : decide (len = len') = false := by simpa using h3
        rw [e3]
        clear h3
        go_enter Try.func46, Try.ntmps46
        go_wp2
        go_ret
        exact ⟨by simp, HG.out⟩
    · have hb : (d == d') = false := by simpa using h2
      have e2 : decide (d = d') = false := by simpa using h2
      rw [e2]
      clear h2
      go_enter Try.func46, Try.ntmps46
      go_wp2
      go_ret
      exact ⟨by simp, HG.out⟩
  · have hb : (r == r') = false := by simpa using h1
    have e1 : decide (r = r') = false := by simpa using h1
    rw [e1]
    clear h1
    go_enter Try.func46, Try.ntmps46
    go_wp2
    go_ret
    exact ⟨by simp, HG.out⟩

set_option maxRecDepth 100000 in
set_option maxHeartbeats 4000000 in
theorem iJn_any (xss yss : List (List Int)) (ao ao' : Option Addr) (len cap len' cap' : Nat) (r d r' d' : Int) (w : World) (rr dd : Int) (zss : List (List Int)) (ok : Bool) (hx : Mat w ao len xss) (hs : szL xss ≤ 1048576) (hy : Mat w ao' len' yss) (hs' : szL yss ≤ 1048576) (hv : JnR r d xss r' d' yss rr dd zss ok) :
    Calls Try.prog 20 #[.agg #[.int .i64 r, .int .i64 d, .slice ao len cap], .agg #[.int .i64 r', .int .i64 d', .slice ao' len' cap']] w (MadeAB zss rr dd ok w) := by
  have hm0 : Mem w (((w.alloc (.cells #[.int .i64 r, .int .i64 d, .slice ao len cap] 25)).alloc (.cells #[.int .i64 r', .int .i64 d', .slice ao' len' cap'] 25)).alloc (.cells #[.int .i64 0, .int .i64 0, .slice none 0 0] 25)) [(w.heap.size, .cells #[.int .i64 r, .int .i64 d, .slice ao len cap] 25), (w.heap.size + 1, .cells #[.int .i64 r', .int .i64 d', .slice ao' len' cap'] 25), (w.heap.size + 1 + 1, .cells #[.int .i64 0, .int .i64 0, .slice none 0 0] 25)] := by have := ((((Mem.start w).block (.cells #[.int .i64 r, .int .i64 d, .slice ao len cap] 25)).block (.cells #[.int .i64 r', .int .i64 d', .slice ao' len' cap'] 25)).block (.cells #[.int .i64 0, .int .i64 0, .slice none 0 0] 25)); simpa using this
  have HM0 := Lib.hid hm0
  clear hm0
  have k1 := fun W (hg : (((w.alloc (.cells #[.int .i64 r, .int .i64 d, .slice ao len cap] 25)).alloc (.cells #[.int .i64 r', .int .i64 d', .slice ao' len' cap'] 25)).alloc (.cells #[.int .i64 0, .int .i64 0, .slice none 0 0] 25)).grownBy W none) => iVAu_any xss ao len cap r d W _ (hx.grown (grown_trans HM0.out.g hg)) hs rfl
  have k2 := fun W (hg : w.grownBy W none) => iVAu_any yss ao' len' cap' r' d' W _ (hy.grown hg) hs' rfl
  cases hva : vAu r d xss with
  | false =>
    rw [hva] at k1
    obtain ⟨rfl, rfl, rfl, rfl⟩ := hv.no (fun h => by rw [h.1] at hva; cases hva)
    clear hx hs hva hv hy hs' k2
    obtain ⟨q00, q01, q02⟩ := three_cells (HM0.out.get (b := w.heap.size) (o := .cells #[.int .i64 r, .int .i64 d, .slice ao len cap] 25) (by simp))
    obtain ⟨q10, q11, q12⟩ := three_cells (HM0.out.get (b := w.heap.size + 1) (o := .cells #[.int .i64 r', .int .i64 d', .slice ao' len' cap'] 25) (by simp))
    go_enter Try.func20, Try.ntmps20
    go_wp2_with fail
    refine wp_region_held_drew (S := fun _ => True) (by kernel_rfl) trivial (fun hHeld => ?_)
    refine wpAnyH_ready (rs := [0]) (by kernel_rfl) (by simp) ?_
    refine AllReadyH.cons rfl (fun K hK => ?_) AllReadyH.nil
    go_simp
    refine hK.out _ _ trivial (fun hHeld => ?_)
    clear hK K
    try simp only [Act.put, List.setIfInBounds_toArray, List.set_cons_zero, List.set_cons_succ]
    refine wpAnyH_ready (rs := [1]) (by kernel_rfl) (by simp) ?_
    refine AllReadyH.cons rfl (fun K hK => ?_) AllReadyH.nil
    go_simp
    go_at_call 26
    refine (k1 _ (grown_drew _ none)).mono ?_
    rintro e w1 ⟨rfl, hg⟩
    have HM1 := Lib.hid (HM0.out.grown (grown_trans (grown_drew _ none) hg))
    have sq00 := hg.cell q00 (by simp)
    have sq01 := hg.cell q01 (by simp)
    have sq02 := hg.cell q02 (by simp)
    have sq10 := hg.cell q10 (by simp)
    have sq11 := hg.cell q11 (by simp)
    have sq12 := hg.cell q12 (by simp)
    clear hg
    go_wp2_with fail
    refine hK.out _ _ trivial (fun hHeld => ?_)
    clear hK K
    try simp only [Act.put, List.setIfInBounds_toArray, List.set_cons_zero, List.set_cons_succ]
    refine wpAnyH_take (i := 2) (v := (.bool true)) rfl (by kernel_rfl) (by kernel_rfl) (by kernel_rfl) (fun _ _ _ h => h) (Or.inl ⟨by kernel_rfl, by (intro w hSw; (try dsimp only at hSw); go_simp)⟩) trivial ?_
    refine wpAnyH_take (i := 3) (v := (.bool true)) rfl (by kernel_rfl) (by kernel_rfl) (by kernel_rfl) (fun _ _ _ h => h) (Or.inl ⟨by kernel_rfl, by (intro w hSw; (try dsimp only at hSw); go_simp)⟩) trivial ?_
    refine wpAnyH_take (i := 4) (v := undef) rfl (by kernel_rfl) (by kernel_rfl) (by kernel_rfl) (fun _ _ _ h => h) (Or.inr ⟨by kernel_rfl, rfl⟩) trivial ?_
    refine wpAnyH_take (i := 5) (v := undef) rfl (by kernel_rfl) (by kernel_rfl) (by kernel_rfl) (fun _ _ _ h => h) (Or.inr ⟨by kernel_rfl, rfl⟩) trivial ?_
    refine wpAnyH_take (i := 6) (v := undef) rfl (by kernel_rfl) (by kernel_rfl) (by kernel_rfl) (fun _ _ _ h => h) (Or.inr ⟨by kernel_rfl, rfl⟩) trivial ?_
    refine wpAnyH_take (i := 7) (v := (.bool true)) rfl (by kernel_rfl) (by kernel_rfl) (by kernel_rfl) (fun _ _ _ h => h) (Or.inl ⟨by kernel_rfl, by (intro w hSw; (try dsimp only at hSw); go_simp)⟩) trivial ?_
    refine wpAnyH_take (i := 8) (v := (.bool true)) rfl (by kernel_rfl) (by kernel_rfl) (by kernel_rfl) (fun _ _ _ h => h) (Or.inl ⟨by kernel_rfl, by (intro w hSw; (try dsimp only at hSw); go_simp)⟩) trivial ?_
    refine wpAnyH_take (i := 9) (v := undef) rfl (by kernel_rfl) (by kernel_rfl) (by kernel_rfl) (fun _ _ _ h => h) (Or.inr ⟨by kernel_rfl, rfl⟩) trivial ?_
    refine wpAnyH_take (i := 10) (v := undef) rfl (by kernel_rfl) (by kernel_rfl) (by kernel_rfl) (fun _ _ _ h => h) (Or.inr ⟨by kernel_rfl, rfl⟩) trivial ?_
    refine wpAnyH_take (i := 11) (v := undef) rfl (by kernel_rfl) (by kernel_rfl) (by kernel_rfl) (fun _ _ _ h => h) (Or.inr ⟨by kernel_rfl, rfl⟩) trivial ?_
    refine wpAnyH_take (i := 12) (v := undef) rfl (by kernel_rfl) (by kernel_rfl) (by kernel_rfl) (fun _ _ _ h => h) (Or.inr ⟨by kernel_rfl, rfl⟩) trivial ?_
    refine wpAnyH_take (i := 13) (v := (.bool true)) rfl (by kernel_rfl) (by kernel_rfl) (by kernel_rfl) (fun _ _ _ h => h) (Or.inl ⟨by kernel_rfl, by (intro w hSw; (try dsimp only at hSw); go_simp)⟩) trivial ?_
    refine wpAnyH_take (i := 14) (v := (.bool true)) rfl (by kernel_rfl) (by kernel_rfl) (by kernel_rfl) (fun _ _ _ h => h) (Or.inl ⟨by kernel_rfl, by (intro w hSw; (try dsimp only at hSw); go_simp)⟩) trivial ?_
    refine wpAnyH_take (i := 15) (v := undef) rfl (by kernel_rfl) (by kernel_rfl) (by kernel_rfl) (fun _ _ _ h => h) (Or.inr ⟨by kernel_rfl, rfl⟩) trivial ?_
    refine wpAnyH_take (i := 16) (v := undef) rfl (by kernel_rfl) (by kernel_rfl) (by kernel_rfl) (fun _ _ _ h => h) (Or.inr ⟨by kernel_rfl, rfl⟩) trivial ?_
    refine wpAnyH_take (i := 17) (v := undef) rfl (by kernel_rfl) (by kernel_rfl) (by kernel_rfl) (fun _ _ _ h => h) (Or.inr ⟨by kernel_rfl, rfl⟩) trivial ?_
    refine wpAnyH_take (i := 18) (v := undef) rfl (by kernel_rfl) (by kernel_rfl) (by kernel_rfl) (fun _ _ _ h => h) (Or.inr ⟨by kernel_rfl, rfl⟩) trivial ?_
    refine wpAnyH_take (i := 19) (v := undef) rfl (by kernel_rfl) (by kernel_rfl) (by kernel_rfl) (fun _ _ _ h => h) (Or.inr ⟨by kernel_rfl, rfl⟩) trivial ?_
    refine wpAnyH_take (i := 20) (v := undef) rfl (by kernel_rfl) (by kernel_rfl) (by kernel_rfl) (fun _ _ _ h => h) (Or.inr ⟨by kernel_rfl, rfl⟩) trivial ?_
    refine wpAnyH_take (i := 21) (v := undef) rfl (by kernel_rfl) (by kernel_rfl) (by kernel_rfl) (fun _ _ _ h => h) (Or.inr ⟨by kernel_rfl, rfl⟩) trivial ?_
    refine wpAnyH_take (i := 22) (v := undef) rfl (by kernel_rfl) (by kernel_rfl) (by kernel_rfl) (fun _ _ _ h => h) (Or.inr ⟨by kernel_rfl, rfl⟩) trivial ?_
    refine wpAnyH_take (i := 23) (v := undef) rfl (by kernel_rfl) (by kernel_rfl) (by kernel_rfl) (fun _ _ _ h => h) (Or.inr ⟨by kernel_rfl, rfl⟩) trivial ?_
    refine wpAnyH_take (i := 24) (v := undef) rfl (by kernel_rfl) (by kernel_rfl) (by kernel_rfl) (fun _ _ _ h => h) (Or.inr ⟨by kernel_rfl, rfl⟩) trivial ?_
    refine wpAnyH_take (i := 25) (v := undef) rfl (by kernel_rfl) (by kernel_rfl) (by kernel_rfl) (fun _ _ _ h => h) (Or.inr ⟨by kernel_rfl, rfl⟩) trivial ?_
    refine wpAnyH_take (i := 26) (v := undef) rfl (by kernel_rfl) (by kernel_rfl) (by kernel_rfl) (fun _ _ _ h => h) (Or.inr ⟨by kernel_rfl, rfl⟩) trivial ?_
    refine wpAnyH_take (i := 27) (v := (.bool true)) rfl (by kernel_rfl) (by kernel_rfl) (by kernel_rfl) (fun _ _ _ h => h) (Or.inl ⟨by kernel_rfl, by (intro w hSw; (try dsimp only at hSw); go_simp)⟩) trivial ?_
    refine wpAnyH_done (by kernel_rfl) ?_ _
    simp only [Act.put, List.getElem_toArray, List.getElem_cons_zero, List.getElem_cons_succ, List.setIfInBounds_toArray, List.set_cons_zero, List.set_cons_succ]
    clear q00 q01 q02 q10 q11 q12 sq00 sq01 sq02 sq10 sq11 sq12 hHeld
    obtain ⟨z0, z1, z2⟩ := three_cells (HM1.out.get (b := w.heap.size + 1 + 1) (o := .cells #[.int .i64 0, .int .i64 0, .slice none 0 0] 25) (by simp))
    have f0 := frozen_of_row w1 _ 0 _ _ (HM1.out.get (b := w.heap.size + 1 + 1) (o := .cells #[.int .i64 0, .int .i64 0, .slice none 0 0] 25) (by simp))
    have f1 := frozen_of_row w1 _ 1 _ _ (HM1.out.get (b := w.heap.size + 1 + 1) (o := .cells #[.int .i64 0, .int .i64 0, .slice none 0 0] 25) (by simp))
    have f2 := frozen_of_row w1 _ 2 _ _ (HM1.out.get (b := w.heap.size + 1 + 1) (o := .cells #[.int .i64 0, .int .i64 0, .slice none 0 0] 25) (by simp))
    go_wp2
    refine bodyPost_ret (v := .tuple #[.agg #[.int .i64 0, .int .i64 0, .slice none 0 0], .bool false]) (by simp [results, Try.results20, go_sem, z0, z1, z2]) rfl ⟨_, rfl, ?_⟩
    exact own_res (mown_nil _ _) HM1.out.g (by omega)
  | true =>
  rw [hva] at k1
  cases hvb : vAu r' d' yss with
  | false =>
    rw [hvb] at k2
    obtain ⟨rfl, rfl, rfl, rfl⟩ := hv.no (fun h => by rw [h.2.1] at hvb; cases hvb)
    clear hx hs hva hv hy hs' hvb
    obtain ⟨q00, q01, q02⟩ := three_cells (HM0.out.get (b := w.heap.size) (o := .cells #[.int .i64 r, .int .i64 d, .slice ao len cap] 25) (by simp))
    obtain ⟨q10, q11, q12⟩ := three_cells (HM0.out.get (b := w.heap.size + 1) (o := .cells #[.int .i64 r', .int .i64 d', .slice ao' len' cap'] 25) (by simp))
    go_enter Try.func20, Try.ntmps20
    go_wp2_with fail
    refine wp_region_held_drew (S := fun _ => True) (by kernel_rfl) trivial (fun hHeld => ?_)
    refine wpAnyH_ready (rs := [0]) (by kernel_rfl) (by simp) ?_
    refine AllReadyH.cons rfl (fun K hK => ?_) AllReadyH.nil
    go_simp
    refine hK.out _ _ trivial (fun hHeld => ?_)
    clear hK K
    try simp only [Act.put, List.setIfInBounds_toArray, List.set_cons_zero, List.set_cons_succ]
    refine wpAnyH_ready (rs := [1]) (by kernel_rfl) (by simp) ?_
    refine AllReadyH.cons rfl (fun K hK => ?_) AllReadyH.nil
    go_simp
    go_at_call 26
    refine (k1 _ (grown_drew _ none)).mono ?_
    rintro e w1 ⟨rfl, hg⟩
    have HM1 := Lib.hid (HM0.out.grown (grown_trans (grown_drew _ none) hg))
    have sq00 := hg.cell q00 (by simp)
    have sq01 := hg.cell q01 (by simp)
    have sq02 := hg.cell q02 (by simp)
    have sq10 := hg.cell q10 (by simp)
    have sq11 := hg.cell q11 (by simp)
    have sq12 := hg.cell q12 (by simp)
    clear hg
    go_wp2_with fail
    refine hK.out _ _ trivial (fun hHeld => ?_)
    clear hK K
    try simp only [Act.put, List.setIfInBounds_toArray, List.set_cons_zero, List.set_cons_succ]
    refine wpAnyH_take (i := 2) (v := (.bool false)) rfl (by kernel_rfl) (by kernel_rfl) (by kernel_rfl) (fun _ _ _ h => h) (Or.inl ⟨by kernel_rfl, by (intro w hSw; (try dsimp only at hSw); go_simp)⟩) trivial ?_
    refine wpAnyH_take (i := 3) (v := (.bool false)) rfl (by kernel_rfl) (by kernel_rfl) (by kernel_rfl) (fun _ _ _ h => h) (Or.inl ⟨by kernel_rfl, by (intro w hSw; (try dsimp only at hSw); go_simp)⟩) trivial ?_
    refine wpAnyH_ready (rs := [4]) (by kernel_rfl) (by simp) ?_
    refine AllReadyH.cons rfl (fun K hK => ?_) AllReadyH.nil
    go_simp
    refine hK.out _ _ trivial (fun hHeld => ?_)
    clear hK K
    try simp only [Act.put, List.setIfInBounds_toArray, List.set_cons_zero, List.set_cons_succ]
    refine wpAnyH_ready (rs := [5]) (by kernel_rfl) (by simp) ?_
    refine AllReadyH.cons rfl (fun K hK => ?_) AllReadyH.nil
    go_simp
    go_at_call 26
    refine (k2 w1 HM1.out.g).mono ?_
    rintro e w2 ⟨rfl, hg⟩
    have HM2 := Lib.hid (HM1.out.grown hg)
    have tq00 := hg.cell sq00 (by simp)
    have tq01 := hg.cell sq01 (by simp)
    have tq02 := hg.cell sq02 (by simp)
    have tq10 := hg.cell sq10 (by simp)
    have tq11 := hg.cell sq11 (by simp)
    have tq12 := hg.cell sq12 (by simp)
    clear hg
    go_wp2_with fail
    refine hK.out _ _ trivial (fun hHeld => ?_)
    clear hK K
    try simp only [Act.put, List.setIfInBounds_toArray, List.set_cons_zero, List.set_cons_succ]
    refine wpAnyH_take (i := 6) (v := (.bool true)) rfl (by kernel_rfl) (by kernel_rfl) (by kernel_rfl) (fun _ _ _ h => h) (Or.inl ⟨by kernel_rfl, by (intro w hSw; (try dsimp only at hSw); go_simp)⟩) trivial ?_
    refine wpAnyH_take (i := 7) (v := (.bool true)) rfl (by kernel_rfl) (by kernel_rfl) (by kernel_rfl) (fun _ _ _ h => h) (Or.inl ⟨by kernel_rfl, by (intro w hSw; (try dsimp only at hSw); go_simp)⟩) trivial ?_
    refine wpAnyH_take (i := 8) (v := (.bool true)) rfl (by kernel_rfl) (by kernel_rfl) (by kernel_rfl) (fun _ _ _ h => h) (Or.inl ⟨by kernel_rfl, by (intro w hSw; (try dsimp only at hSw); go_simp)⟩) trivial ?_
    refine wpAnyH_take (i := 9) (v := undef) rfl (by kernel_rfl) (by kernel_rfl) (by kernel_rfl) (fun _ _ _ h => h) (Or.inr ⟨by kernel_rfl, rfl⟩) trivial ?_
    refine wpAnyH_take (i := 10) (v := undef) rfl (by kernel_rfl) (by kernel_rfl) (by kernel_rfl) (fun _ _ _ h => h) (Or.inr ⟨by kernel_rfl, rfl⟩) trivial ?_
    refine wpAnyH_take (i := 11) (v := undef) rfl (by kernel_rfl) (by kernel_rfl) (by kernel_rfl) (fun _ _ _ h => h) (Or.inr ⟨by kernel_rfl, rfl⟩) trivial ?_
    refine wpAnyH_take (i := 12) (v := undef) rfl (by kernel_rfl) (by kernel_rfl) (by kernel_rfl) (fun _ _ _ h => h) (Or.inr ⟨by kernel_rfl, rfl⟩) trivial ?_
    refine wpAnyH_take (i := 13) (v := (.bool true)) rfl (by kernel_rfl) (by kernel_rfl) (by kernel_rfl) (fun _ _ _ h => h) (Or.inl ⟨by kernel_rfl, by (intro w hSw; (try dsimp only at hSw); go_simp)⟩) trivial ?_
    refine wpAnyH_take (i := 14) (v := (.bool true)) rfl (by kernel_rfl) (by kernel_rfl) (by kernel_rfl) (fun _ _ _ h => h) (Or.inl ⟨by kernel_rfl, by (intro w hSw; (try dsimp only at hSw); go_simp)⟩) trivial ?_
    refine wpAnyH_take (i := 15) (v := undef) rfl (by kernel_rfl) (by kernel_rfl) (by kernel_rfl) (fun _ _ _ h => h) (Or.inr ⟨by kernel_rfl, rfl⟩) trivial ?_
    refine wpAnyH_take (i := 16) (v := undef) rfl (by kernel_rfl) (by kernel_rfl) (by kernel_rfl) (fun _ _ _ h => h) (Or.inr ⟨by kernel_rfl, rfl⟩) trivial ?_
    refine wpAnyH_take (i := 17) (v := undef) rfl (by kernel_rfl) (by kernel_rfl) (by kernel_rfl) (fun _ _ _ h => h) (Or.inr ⟨by kernel_rfl, rfl⟩) trivial ?_
    refine wpAnyH_take (i := 18) (v := undef) rfl (by kernel_rfl) (by kernel_rfl) (by kernel_rfl) (fun _ _ _ h => h) (Or.inr ⟨by kernel_rfl, rfl⟩) trivial ?_
    refine wpAnyH_take (i := 19) (v := undef) rfl (by kernel_rfl) (by kernel_rfl) (by kernel_rfl) (fun _ _ _ h => h) (Or.inr ⟨by kernel_rfl, rfl⟩) trivial ?_
    refine wpAnyH_take (i := 20) (v := undef) rfl (by kernel_rfl) (by kernel_rfl) (by kernel_rfl) (fun _ _ _ h => h) (Or.inr ⟨by kernel_rfl, rfl⟩) trivial ?_
    refine wpAnyH_take (i := 21) (v := undef) rfl (by kernel_rfl) (by kernel_rfl) (by kernel_rfl) (fun _ _ _ h => h) (Or.inr ⟨by kernel_rfl, rfl⟩) trivial ?_
    refine wpAnyH_take (i := 22) (v := undef) rfl (by kernel_rfl) (by kernel_rfl) (by kernel_rfl) (fun _ _ _ h => h) (Or.inr ⟨by kernel_rfl, rfl⟩) trivial ?_
    refine wpAnyH_take (i := 23) (v := undef) rfl (by kernel_rfl) (by kernel_rfl) (by kernel_rfl) (fun _ _ _ h => h) (Or.inr ⟨by kernel_rfl, rfl⟩) trivial ?_
    refine wpAnyH_take (i := 24) (v := undef) rfl (by kernel_rfl) (by kernel_rfl) (by kernel_rfl) (fun _ _ _ h => h) (Or.inr ⟨by kernel_rfl, rfl⟩) trivial ?_
    refine wpAnyH_take (i := 25) (v := undef) rfl (by kernel_rfl) (by kernel_rfl) (by kernel_rfl) (fun _ _ _ h => h) (Or.inr ⟨by kernel_rfl, rfl⟩) trivial ?_
    refine wpAnyH_take (i := 26) (v := undef) rfl (by kernel_rfl) (by kernel_rfl) (by kernel_rfl) (fun _ _ _ h => h) (Or.inr ⟨by kernel_rfl, rfl⟩) trivial ?_
    refine wpAnyH_take (i := 27) (v := (.bool true)) rfl (by kernel_rfl) (by kernel_rfl) (by kernel_rfl) (fun _ _ _ h => h) (Or.inl ⟨by kernel_rfl, by (intro w hSw; (try dsimp only at hSw); go_simp)⟩) trivial ?_
    refine wpAnyH_done (by kernel_rfl) ?_ _
    simp only [Act.put, List.getElem_toArray, List.getElem_cons_zero, List.getElem_cons_succ, List.setIfInBounds_toArray, List.set_cons_zero, List.set_cons_succ]
    clear q00 q01 q02 q10 q11 q12 sq00 sq01 sq02 sq10 sq11 sq12 tq00 tq01 tq02 tq10 tq11 tq12 hHeld
    obtain ⟨z0, z1, z2⟩ := three_cells (HM2.out.get (b := w.heap.size + 1 + 1) (o := .cells #[.int .i64 0, .int .i64 0, .slice none 0 0] 25) (by simp))
    have f0 := frozen_of_row w2 _ 0 _ _ (HM2.out.get (b := w.heap.size + 1 + 1) (o := .cells #[.int .i64 0, .int .i64 0, .slice none 0 0] 25) (by simp))
    have f1 := frozen_of_row w2 _ 1 _ _ (HM2.out.get (b := w.heap.size + 1 + 1) (o := .cells #[.int .i64 0, .int .i64 0, .slice none 0 0] 25) (by simp))
    have f2 := frozen_of_row w2 _ 2 _ _ (HM2.out.get (b := w.heap.size + 1 + 1) (o := .cells #[.int .i64 0, .int .i64 0, .slice none 0 0] 25) (by simp))
    go_wp2
    refine bodyPost_ret (v := .tuple #[.agg #[.int .i64 0, .int .i64 0, .slice none 0 0], .bool false]) (by simp [results, Try.results20, go_sem, z0, z1, z2]) rfl ⟨_, rfl, ?_⟩
    exact own_res (mown_nil _ _) HM2.out.g (by omega)
  | true =>
  rw [hvb] at k2
  by_cases hsf : ¬ (r = r' ∧ d = d' ∧ len = len')
  · obtain ⟨rfl, rfl, rfl, rfl⟩ := hv.no (fun h => hsf ⟨h.2.2.1, h.2.2.2.1, by rw [← hx.1, ← hy.1]; exact h.2.2.2.2.1⟩)
    have k3 := fun W => iSame_any ao ao' len cap len' cap' r d r' d' W false (by
      cases e : (decide (r = r') && (decide (d = d') && decide (len = len'))) with
      | false => rfl
      | true => exact absurd (by simpa using e) hsf)
    clear hx hs hva hv hy hs' hvb hsf
    obtain ⟨q00, q01, q02⟩ := three_cells (HM0.out.get (b := w.heap.size) (o := .cells #[.int .i64 r, .int .i64 d, .slice ao len cap] 25) (by simp))
    obtain ⟨q10, q11, q12⟩ := three_cells (HM0.out.get (b := w.heap.size + 1) (o := .cells #[.int .i64 r', .int .i64 d', .slice ao' len' cap'] 25) (by simp))
    go_enter Try.func20, Try.ntmps20
    go_wp2_with fail
    refine wp_region_held_drew (S := (fun W => W.cell? ⟨w.heap.size, 0, none⟩ = some (.int .i64 r) ∧ W.cell? ⟨w.heap.size, 1, none⟩ = some (.int .i64 d) ∧ W.cell? ⟨w.heap.size, 2, none⟩ = some (.slice ao len cap) ∧ W.cell? ⟨w.heap.size + 1, 0, none⟩ = some (.int .i64 r') ∧ W.cell? ⟨w.heap.size + 1, 1, none⟩ = some (.int .i64 d') ∧ W.cell? ⟨w.heap.size + 1, 2, none⟩ = some (.slice ao' len' cap'))) (by kernel_rfl) ⟨q00, q01, q02, q10, q11, q12⟩ (fun hHeld => ?_)
    refine wpAnyH_ready (rs := [0]) (by kernel_rfl) (by simp) ?_
    refine AllReadyH.cons rfl (fun K hK => ?_) AllReadyH.nil
    go_simp
    refine hK.out _ _ hHeld (fun hHeld => ?_)
    clear hK K
    try simp only [Act.put, List.setIfInBounds_toArray, List.set_cons_zero, List.set_cons_succ]
    refine wpAnyH_ready (rs := [1]) (by kernel_rfl) (by simp) ?_
    refine AllReadyH.cons rfl (fun K hK => ?_) AllReadyH.nil
    go_simp
    go_at_call 26
    refine (k1 _ (grown_drew _ none)).mono ?_
    rintro e w1 ⟨rfl, hg⟩
    have HM1 := Lib.hid (HM0.out.grown (grown_trans (grown_drew _ none) hg))
    have sq00 := hg.cell q00 (by simp)
    have sq01 := hg.cell q01 (by simp)
    have sq02 := hg.cell q02 (by simp)
    have sq10 := hg.cell q10 (by simp)
    have sq11 := hg.cell q11 (by simp)
    have sq12 := hg.cell q12 (by simp)
    clear hg
    go_wp2_with fail
    refine hK.out _ _ ⟨sq00, sq01, sq02, sq10, sq11, sq12⟩ (fun hHeld => ?_)
    clear hK K
    try simp only [Act.put, List.setIfInBounds_toArray, List.set_cons_zero, List.set_cons_succ]
    refine wpAnyH_take (i := 2) (v := (.bool false)) rfl (by kernel_rfl) (by kernel_rfl) (by kernel_rfl) (fun _ _ _ h => h) (Or.inl ⟨by kernel_rfl, by (intro w hSw; (try dsimp only at hSw); go_simp)⟩) hHeld ?_
    refine wpAnyH_take (i := 3) (v := (.bool false)) rfl (by kernel_rfl) (by kernel_rfl) (by kernel_rfl) (fun _ _ _ h => h) (Or.inl ⟨by kernel_rfl, by (intro w hSw; (try dsimp only at hSw); go_simp)⟩) hHeld ?_
    refine wpAnyH_ready (rs := [4]) (by kernel_rfl) (by simp) ?_
    refine AllReadyH.cons rfl (fun K hK => ?_) AllReadyH.nil
    go_simp
    refine hK.out _ _ hHeld (fun hHeld => ?_)
    clear hK K
    try simp only [Act.put, List.setIfInBounds_toArray, List.set_cons_zero, List.set_cons_succ]
    refine wpAnyH_ready (rs := [5]) (by kernel_rfl) (by simp) ?_
    refine AllReadyH.cons rfl (fun K hK => ?_) AllReadyH.nil
    go_simp
    go_at_call 26
    refine (k2 w1 HM1.out.g).mono ?_
    rintro e w2 ⟨rfl, hg⟩
    have HM2 := Lib.hid (HM1.out.grown hg)
    have tq00 := hg.cell sq00 (by simp)
    have tq01 := hg.cell sq01 (by simp)
    have tq02 := hg.cell sq02 (by simp)
    have tq10 := hg.cell sq10 (by simp)
    have tq11 := hg.cell sq11 (by simp)
    have tq12 := hg.cell sq12 (by simp)
    clear hg
    go_wp2_with fail
    refine hK.out _ _ ⟨tq00, tq01, tq02, tq10, tq11, tq12⟩ (fun hHeld => ?_)
    clear hK K
    try simp only [Act.put, List.setIfInBounds_toArray, List.set_cons_zero, List.set_cons_succ]
    refine wpAnyH_take (i := 6) (v := (.bool false)) rfl (by kernel_rfl) (by kernel_rfl) (by kernel_rfl) (fun _ _ _ h => h) (Or.inl ⟨by kernel_rfl, by (intro w hSw; (try dsimp only at hSw); go_simp)⟩) hHeld ?_
    refine wpAnyH_take (i := 7) (v := (.bool false)) rfl (by kernel_rfl) (by kernel_rfl) (by kernel_rfl) (fun _ _ _ h => h) (Or.inl ⟨by kernel_rfl, by (intro w hSw; (try dsimp only at hSw); go_simp)⟩) hHeld ?_
    refine wpAnyH_take (i := 8) (v := (.bool false)) rfl (by kernel_rfl) (by kernel_rfl) (by kernel_rfl) (fun _ _ _ h => h) (Or.inl ⟨by kernel_rfl, by (intro w hSw; (try dsimp only at hSw); go_simp)⟩) hHeld ?_
    refine wpAnyH_take (i := 9) (v := (.agg #[.int .i64 r, .int .i64 d, .slice ao len cap])) rfl (by kernel_rfl) (by kernel_rfl) (by kernel_rfl) (fun _ _ _ h => h) (Or.inl ⟨by kernel_rfl, by (intro w hSw; (try dsimp only at hSw); go_simp)⟩) hHeld ?_
    refine wpAnyH_take (i := 10) (v := (.agg #[.int .i64 r', .int .i64 d', .slice ao' len' cap'])) rfl (by kernel_rfl) (by kernel_rfl) (by kernel_rfl) (fun _ _ _ h => h) (Or.inl ⟨by kernel_rfl, by (intro w hSw; (try dsimp only at hSw); go_simp)⟩) hHeld ?_
    refine wpAnyH_ready (rs := [11]) (by kernel_rfl) (by simp) ?_
    refine AllReadyH.cons rfl (fun K hK => ?_) AllReadyH.nil
    go_simp
    go_at_call 46
    refine (k3 w2).mono ?_
    rintro e w3 ⟨rfl, hg⟩
    have HM3 := Lib.hid (HM2.out.grown hg)
    have uq00 := hg.cell tq00 (by simp)
    have uq01 := hg.cell tq01 (by simp)
    have uq02 := hg.cell tq02 (by simp)
    have uq10 := hg.cell tq10 (by simp)
    have uq11 := hg.cell tq11 (by simp)
    have uq12 := hg.cell tq12 (by simp)
    clear hg
    go_wp2_with fail
    refine hK.out _ _ ⟨uq00, uq01, uq02, uq10, uq11, uq12⟩ (fun hHeld => ?_)
    clear hK K
    try simp only [Act.put, List.setIfInBounds_toArray, List.set_cons_zero, List.set_cons_succ]
    refine wpAnyH_take (i := 12) (v := (.bool true)) rfl (by kernel_rfl) (by kernel_rfl) (by kernel_rfl) (fun _ _ _ h => h) (Or.inl ⟨by kernel_rfl, by (intro w hSw; (try dsimp only at hSw); go_simp)⟩) hHeld ?_
    refine wpAnyH_take (i := 13) (v := (.bool true)) rfl (by kernel_rfl) (by kernel_rfl) (by kernel_rfl) (fun _ _ _ h => h) (Or.inl ⟨by kernel_rfl, by (intro w hSw; (try dsimp only at hSw); go_simp)⟩) hHeld ?_
    refine wpAnyH_take (i := 14) (v := (.bool true)) rfl (by kernel_rfl) (by kernel_rfl) (by kernel_rfl) (fun _ _ _ h => h) (Or.inl ⟨by kernel_rfl, by (intro w hSw; (try dsimp only at hSw); go_simp)⟩) hHeld ?_
    refine wpAnyH_take (i := 15) (v := undef) rfl (by kernel_rfl) (by kernel_rfl) (by kernel_rfl) (fun _ _ _ h => h) (Or.inr ⟨by kernel_rfl, rfl⟩) hHeld ?_
    refine wpAnyH_take (i := 16) (v := undef) rfl (by kernel_rfl) (by kernel_rfl) (by kernel_rfl) (fun _ _ _ h => h) (Or.inr ⟨by kernel_rfl, rfl⟩) hHeld ?_
    refine wpAnyH_take (i := 17) (v := undef) rfl (by kernel_rfl) (by kernel_rfl) (by kernel_rfl) (fun _ _ _ h => h) (Or.inr ⟨by kernel_rfl, rfl⟩) hHeld ?_
    refine wpAnyH_take (i := 18) (v := undef) rfl (by kernel_rfl) (by kernel_rfl) (by kernel_rfl) (fun _ _ _ h => h) (Or.inr ⟨by kernel_rfl, rfl⟩) hHeld ?_
    refine wpAnyH_take (i := 19) (v := undef) rfl (by kernel_rfl) (by kernel_rfl) (by kernel_rfl) (fun _ _ _ h => h) (Or.inr ⟨by kernel_rfl, rfl⟩) hHeld ?_
    refine wpAnyH_take (i := 20) (v := undef) rfl (by kernel_rfl) (by kernel_rfl) (by kernel_rfl) (fun _ _ _ h => h) (Or.inr ⟨by kernel_rfl, rfl⟩) hHeld ?_
    refine wpAnyH_take (i := 21) (v := undef) rfl (by kernel_rfl) (by kernel_rfl) (by kernel_rfl) (fun _ _ _ h => h) (Or.inr ⟨by kernel_rfl, rfl⟩) hHeld ?_
    refine wpAnyH_take (i := 22) (v := undef) rfl (by kernel_rfl) (by kernel_rfl) (by kernel_rfl) (fun _ _ _ h => h) (Or.inr ⟨by kernel_rfl, rfl⟩) hHeld ?_
    refine wpAnyH_take (i := 23) (v := undef) rfl (by kernel_rfl) (by kernel_rfl) (by kernel_rfl) (fun _ _ _ h => h) (Or.inr ⟨by kernel_rfl, rfl⟩) hHeld ?_
    refine wpAnyH_take (i := 24) (v := undef) rfl (by kernel_rfl) (by kernel_rfl) (by kernel_rfl) (fun _ _ _ h => h) (Or.inr ⟨by kernel_rfl, rfl⟩) hHeld ?_
    refine wpAnyH_take (i := 25) (v := undef) rfl (by kernel_rfl) (by kernel_rfl) (by kernel_rfl) (fun _ _ _ h => h) (Or.inr ⟨by kernel_rfl, rfl⟩) hHeld ?_
    refine wpAnyH_take (i := 26) (v := undef) rfl (by kernel_rfl) (by kernel_rfl) (by kernel_rfl) (fun _ _ _ h => h) (Or.inr ⟨by kernel_rfl, rfl⟩) hHeld ?_
    refine wpAnyH_take (i := 27) (v := (.bool true)) rfl (by kernel_rfl) (by kernel_rfl) (by kernel_rfl) (fun _ _ _ h => h) (Or.inl ⟨by kernel_rfl, by (intro w hSw; (try dsimp only at hSw); go_simp)⟩) hHeld ?_
    refine wpAnyH_done (by kernel_rfl) ?_ _
    simp only [Act.put, List.getElem_toArray, List.getElem_cons_zero, List.getElem_cons_succ, List.setIfInBounds_toArray, List.set_cons_zero, List.set_cons_succ]
    clear q00 q01 q02 q10 q11 q12 sq00 sq01 sq02 sq10 sq11 sq12 tq00 tq01 tq02 tq10 tq11 tq12 uq00 uq01 uq02 uq10 uq11 uq12 hHeld
    obtain ⟨z0, z1, z2⟩ := three_cells (HM3.out.get (b := w.heap.size + 1 + 1) (o := .cells #[.int .i64 0, .int .i64 0, .slice none 0 0] 25) (by simp))
    have f0 := frozen_of_row w3 _ 0 _ _ (HM3.out.get (b := w.heap.size + 1 + 1) (o := .cells #[.int .i64 0, .int .i64 0, .slice none 0 0] 25) (by simp))
    have f1 := frozen_of_row w3 _ 1 _ _ (HM3.out.get (b := w.heap.size + 1 + 1) (o := .cells #[.int .i64 0, .int .i64 0, .slice none 0 0] 25) (by simp))
    have f2 := frozen_of_row w3 _ 2 _ _ (HM3.out.get (b := w.heap.size + 1 + 1) (o := .cells #[.int .i64 0, .int .i64 0, .slice none 0 0] 25) (by simp))
    go_wp2
    refine bodyPost_ret (v := .tuple #[.agg #[.int .i64 0, .int .i64 0, .slice none 0 0], .bool false]) (by simp [results, Try.results20, go_sem, z0, z1, z2]) rfl ⟨_, rfl, ?_⟩
    exact own_res (mown_nil _ _) HM3.out.g (by omega)
  obtain ⟨rfl, rfl, rfl⟩ := Classical.not_not.1 hsf
  have k3 := fun W ao ao' => iSame_any ao ao' len cap len cap' r d r d W true (by simp)
  clear hsf
  obtain ⟨u, H, hV⟩ := va_of hva
  obtain ⟨u', H', hV'⟩ := va_of hvb
  obtain rfl := va_u hV hV' rfl
  have hHd := hV.hd
  have hHd' := hV'.hd
  have hlen : len ≤ 2 := by have := hV.ch.2; rw [hx.1] at this; exact this
  have hlen1 : 1 ≤ len := by have := hV.ch.1; rw [hx.1] at this; exact this
  have hlen0 : 0 < len := hlen1
  have hH : H ≤ 256 := hV.hh
  have hH' : H' ≤ 256 := hV'.hh
  obtain ⟨b, off, rfl, hc⟩ := hx.2.resolve_left (by intro e; have := hx.1; rw [e] at this; simp at this; omega)
  obtain ⟨b', off', rfl, hc'⟩ := hy.2.resolve_left (by intro e; have := hy.1; rw [e] at this; simp at this; omega)
  obtain ⟨xs0, hxs0, hxl0⟩ := hV.first
  obtain ⟨ys0, hys0, hyl0⟩ := hV'.first
  obtain ⟨u0, hu0, a0, c0, rfl, hin0⟩ := hc 0 xs0 hxs0
  obtain ⟨u0', hu0', a0', c0', rfl, hin0'⟩ := hc' 0 ys0 hys0
  rw [hxl0, Nat.add_zero] at hu0
  rw [hyl0, Nat.add_zero] at hu0'
  clear hin0 hin0' hxs0 hys0 hxl0 hyl0
  replace k3 := fun W => k3 W (some ⟨b, off, none⟩) (some ⟨b', off', none⟩)
  have hT1 : True := trivial
  have hT2 : True := trivial
  have hwr : IntKind.i64.wrap ((H : Int) + (H' : Int)) = (H : Int) + (H' : Int) := IntWalk.i64_in _ (by omega)
  by_cases hsum : H + H' ≤ 256
  case neg =>
    obtain ⟨rfl, rfl, rfl, rfl⟩ := hv.no (fun h => hsum (by have := h.2.2.2.2.2; rw [hHd, hHd'] at this; exact this))
    have hgt : decide (256 < (H : Int) + (H' : Int)) = true := by simp; omega
    have hgu : (256 : Int) < (H : Int) + (H' : Int) := by omega
    have qa := HM0.out.g.cell hu0 (by simp)
    have qb := HM0.out.g.cell hu0' (by simp)
    clear hx hs hva hv hy hs' hvb hsum hV hV' hHd hHd' hc hc' hu0 hu0'
    obtain ⟨q00, q01, q02⟩ := three_cells (HM0.out.get (b := w.heap.size) (o := .cells #[.int .i64 r, .int .i64 d, .slice (some ⟨b, off, none⟩) len cap] 25) (by simp))
    obtain ⟨q10, q11, q12⟩ := three_cells (HM0.out.get (b := w.heap.size + 1) (o := .cells #[.int .i64 r, .int .i64 d, .slice (some ⟨b', off', none⟩) len cap'] 25) (by simp))
    go_enter Try.func20, Try.ntmps20
    go_wp2_with fail
    first | (go_region_held3 (fun w' => w'.cell? ⟨w.heap.size, 0, none⟩ = some (.int .i64 r) ∧ w'.cell? ⟨w.heap.size, 1, none⟩ = some (.int .i64 d) ∧ w'.cell? ⟨w.heap.size, 2, none⟩ = some (.slice (some ⟨b, off, none⟩) len cap) ∧ w'.cell? ⟨w.heap.size + 1, 0, none⟩ = some (.int .i64 r) ∧ w'.cell? ⟨w.heap.size + 1, 1, none⟩ = some (.int .i64 d) ∧ w'.cell? ⟨w.heap.size + 1, 2, none⟩ = some (.slice (some ⟨b', off', none⟩) len cap') ∧ w'.cell? ⟨b, off, none⟩ = some (.slice a0 H c0) ∧ w'.cell? ⟨b', off', none⟩ = some (.slice a0' H' c0')) (first | go_keep | exact ⟨by assumption, by assumption, by assumption, by assumption, by assumption, by assumption, by assumption, by assumption⟩ | exact ⟨cell_al (by assumption), cell_al (by assumption), cell_al (by assumption), cell_al (by assumption), cell_al (by assumption), cell_al (by assumption), cell_al (by assumption), cell_al (by assumption)⟩) ((first
      | (go_at_call 26; have Tk := hT1; refine (k1 _ (grown_drew _ none)).mono ?_; rintro e w1 ⟨rfl, hg⟩; have HM1 := Lib.hid (HM0.out.grown (grown_trans (grown_drew _ none) hg)); have sq00 := hg.cell q00 (by simp); have sq01 := hg.cell q01 (by simp); have sq02 := hg.cell q02 (by simp); have sq10 := hg.cell q10 (by simp); have sq11 := hg.cell q11 (by simp); have sq12 := hg.cell q12 (by simp); have sqa := hg.cell qa (by simp); have sqb := hg.cell qb (by simp); clear hT1 Tk hg)
      | (go_at_call 26; have Tk := hT2; refine (k2 w1 HM1.out.g).mono ?_; rintro e w2 ⟨rfl, hg⟩; have HM2 := Lib.hid (HM1.out.grown hg); have tq00 := hg.cell sq00 (by simp); have tq01 := hg.cell sq01 (by simp); have tq02 := hg.cell sq02 (by simp); have tq10 := hg.cell sq10 (by simp); have tq11 := hg.cell sq11 (by simp); have tq12 := hg.cell sq12 (by simp); have tqa := hg.cell sqa (by simp); have tqb := hg.cell sqb (by simp); clear hT2 Tk hg)
      | (go_at_call 46; refine (k3 w2).mono ?_; rintro e w3 ⟨rfl, hg⟩; have HM3 := Lib.hid (HM2.out.grown hg); have uq00 := hg.cell tq00 (by simp); have uq01 := hg.cell tq01 (by simp); have uq02 := hg.cell tq02 (by simp); have uq10 := hg.cell tq10 (by simp); have uq11 := hg.cell tq11 (by simp); have uq12 := hg.cell tq12 (by simp); have uqa := hg.cell tqa (by simp); have uqb := hg.cell tqb (by simp); clear hg)))) | fail
    all_goals
      clear q00 q01 q02 q10 q11 q12 qa qb sq00 sq01 sq02 sq10 sq11 sq12 sqa sqb tq00 tq01 tq02 tq10 tq11 tq12 tqa tqb uq00 uq01 uq02 uq10 uq11 uq12 uqa uqb
      obtain ⟨z0, z1, z2⟩ := three_cells (HM3.out.get (b := w.heap.size + 1 + 1) (o := .cells #[.int .i64 0, .int .i64 0, .slice none 0 0] 25) (by simp))
      have f0 := frozen_of_row w3 _ 0 _ _ (HM3.out.get (b := w.heap.size + 1 + 1) (o := .cells #[.int .i64 0, .int .i64 0, .slice none 0 0] 25) (by simp))
      have f1 := frozen_of_row w3 _ 1 _ _ (HM3.out.get (b := w.heap.size + 1 + 1) (o := .cells #[.int .i64 0, .int .i64 0, .slice none 0 0] 25) (by simp))
      have f2 := frozen_of_row w3 _ 2 _ _ (HM3.out.get (b := w.heap.size + 1 + 1) (o := .cells #[.int .i64 0, .int .i64 0, .slice none 0 0] 25) (by simp))
      go_wp2
      refine bodyPost_ret (v := .tuple #[.agg #[.int .i64 0, .int .i64 0, .slice none 0 0], .bool false]) (by simp [results, Try.results20, go_sem, z0, z1, z2]) rfl ⟨_, rfl, ?_⟩
      exact own_res (mown_nil _ _) HM3.out.g (by omega)
  have hgt : decide (256 < (H : Int) + (H' : Int)) = false := by simp; omega
  have hgu : ¬ (256 : Int) < (H : Int) + (H' : Int) := by omega
  obtain ⟨rfl, rfl, rfl, rfl⟩ := hv.yes ⟨hva, hvb, rfl, rfl, by rw [hx.1, hy.1], by rw [hHd, hHd']; exact hsum⟩
  have kE := fun W (hgW : w.grownBy W none) (c1 : W.cell? ⟨w.heap.size + 1, 2, none⟩ = some (.slice (some ⟨b', off', none⟩) len cap')) => iEdJn_any xss (joinM xss yss) (some ⟨b, off, none⟩) len cap r d (w.heap.size + 1) W (hx.grown hgW) hlen hlen1 (by rw [joinM_len (by rw [hx.1, hy.1])]; exact hx.1) (fun k zs hz => by
    obtain ⟨xs, ys, h1, h2, rfl⟩ := joinM_row hz
    rw [List.length_append, (hV.row k xs h1).1, (hV'.row k ys h2).1]; omega) (fun k xs zs a c W2 hxk hzk hrow hg2 => by
    obtain ⟨xs', ys, h1, h2, rfl⟩ := joinM_row hzk
    obtain rfl : xs = xs' := by rw [hxk] at h1; injection h1
    have hkl : k < len := by have := (List.getElem?_eq_some_iff.1 hxk).1; rw [hx.1] at this; exact this
    obtain ⟨uy, huy, a', c', rfl, hin', hlc', hcm', hnl'⟩ := hc' k ys h2
    exact iJnCl xs ys k _ b' off' len cap' ys.length c' a a' xs.length c W2 (hrow.grown hg2) ⟨a', c', rfl, (hin'.grown hgW).grown hg2, hlc', hcm', hnl'⟩ (hg2.cell c1 (by simp)) hkl (hg2.cell (hgW.cell huy (by simp)) (by simp)))
  have HLJ : Hid ((joinM xss yss).length = len) := by show _ = _; rw [joinM_len (by rw [hx.1, hy.1])]; exact hx.1
  have qa := HM0.out.g.cell hu0 (by simp)
  have qb := HM0.out.g.cell hu0' (by simp)
  clear hx hs hva hv hy hs' hvb hsum hV hV' hHd hHd' hc hc' hu0 hu0'
  obtain ⟨q00, q01, q02⟩ := three_cells (HM0.out.get (b := w.heap.size) (o := .cells #[.int .i64 r, .int .i64 d, .slice (some ⟨b, off, none⟩) len cap] 25) (by simp))
  obtain ⟨q10, q11, q12⟩ := three_cells (HM0.out.get (b := w.heap.size + 1) (o := .cells #[.int .i64 r, .int .i64 d, .slice (some ⟨b', off', none⟩) len cap'] 25) (by simp))
  go_enter Try.func20, Try.ntmps20
  go_wp2_with fail
  first | (go_region_held3 (fun w' => w'.cell? ⟨w.heap.size, 0, none⟩ = some (.int .i64 r) ∧ w'.cell? ⟨w.heap.size, 1, none⟩ = some (.int .i64 d) ∧ w'.cell? ⟨w.heap.size, 2, none⟩ = some (.slice (some ⟨b, off, none⟩) len cap) ∧ w'.cell? ⟨w.heap.size + 1, 0, none⟩ = some (.int .i64 r) ∧ w'.cell? ⟨w.heap.size + 1, 1, none⟩ = some (.int .i64 d) ∧ w'.cell? ⟨w.heap.size + 1, 2, none⟩ = some (.slice (some ⟨b', off', none⟩) len cap') ∧ w'.cell? ⟨b, off, none⟩ = some (.slice a0 H c0) ∧ w'.cell? ⟨b', off', none⟩ = some (.slice a0' H' c0')) (first | go_keep | exact ⟨by assumption, by assumption, by assumption, by assumption, by assumption, by assumption, by assumption, by assumption⟩ | exact ⟨cell_al (by assumption), cell_al (by assumption), cell_al (by assumption), cell_al (by assumption), cell_al (by assumption), cell_al (by assumption), cell_al (by assumption), cell_al (by assumption)⟩) ((first
    | (go_at_call 26; have Tk := hT1; refine (k1 _ (grown_drew _ none)).mono ?_; rintro e w1 ⟨rfl, hg⟩; have HM1 := Lib.hid (HM0.out.grown (grown_trans (grown_drew _ none) hg)); have sq00 := hg.cell q00 (by simp); have sq01 := hg.cell q01 (by simp); have sq02 := hg.cell q02 (by simp); have sq10 := hg.cell q10 (by simp); have sq11 := hg.cell q11 (by simp); have sq12 := hg.cell q12 (by simp); have sqa := hg.cell qa (by simp); have sqb := hg.cell qb (by simp); clear hT1 Tk hg)
    | (go_at_call 26; have Tk := hT2; refine (k2 w1 HM1.out.g).mono ?_; rintro e w2 ⟨rfl, hg⟩; have HM2 := Lib.hid (HM1.out.grown hg); have tq00 := hg.cell sq00 (by simp); have tq01 := hg.cell sq01 (by simp); have tq02 := hg.cell sq02 (by simp); have tq10 := hg.cell sq10 (by simp); have tq11 := hg.cell sq11 (by simp); have tq12 := hg.cell sq12 (by simp); have tqa := hg.cell sqa (by simp); have tqb := hg.cell sqb (by simp); clear hT2 Tk hg)
    | (go_at_call 46; refine (k3 w2).mono ?_; rintro e w3 ⟨rfl, hg⟩; have HM3 := Lib.hid (HM2.out.grown hg); have uq00 := hg.cell tq00 (by simp); have uq01 := hg.cell tq01 (by simp); have uq02 := hg.cell tq02 (by simp); have uq10 := hg.cell tq10 (by simp); have uq11 := hg.cell tq11 (by simp); have uq12 := hg.cell tq12 (by simp); have uqa := hg.cell tqa (by simp); have uqb := hg.cell tqb (by simp); clear hg)))) | fail
  all_goals
    have kE2 := kE w3 HM3.out.g uq12
    go_wp2_with fail
    refine kE2.mono ?_
    rintro e w4 ⟨v4, rfl, ho4, hg4⟩
    obtain ⟨a4, c4, rfl, _⟩ := ho4.reads
    have HO4 := Lib.hid ho4
    have HM4 := Lib.hid (HM3.out.grown hg4)
    have HS3 := Lib.hid (block_lt (HM3.out.get (b := w.heap.size + 1 + 1) (o := .cells #[.int .i64 0, .int .i64 0, .slice none 0 0] 25) (by simp)))
    clear ho4 hg4 kE kE2
    obtain ⟨z0, z1, z2⟩ := three_cells (HM4.out.get (b := w.heap.size + 1 + 1) (o := .cells #[.int .i64 0, .int .i64 0, .slice none 0 0] 25) (by simp))
    have f0 := frozen_of_row w4 _ 0 _ _ (HM4.out.get (b := w.heap.size + 1 + 1) (o := .cells #[.int .i64 0, .int .i64 0, .slice none 0 0] 25) (by simp))
    have f1 := frozen_of_row w4 _ 1 _ _ (HM4.out.get (b := w.heap.size + 1 + 1) (o := .cells #[.int .i64 0, .int .i64 0, .slice none 0 0] 25) (by simp))
    have f2 := frozen_of_row w4 _ 2 _ _ (HM4.out.get (b := w.heap.size + 1 + 1) (o := .cells #[.int .i64 0, .int .i64 0, .slice none 0 0] 25) (by simp))
    have hll := HLJ.out
    rw [hll] at HO4
    go_wp2
    refine bodyPost_ret (v := .tuple #[.agg #[.int .i64 r, .int .i64 d, .slice a4 len c4], .bool true]) (by simp [results, Try.results20, go_sem, z0, z1, z2]) rfl ⟨_, rfl, ?_⟩
    rw [hll]
    exact own_res (HO4.out.base_le HS3.out) HM4.out.g (by omega)

end Go.Proofs.Ytncbgofcimghnaa
