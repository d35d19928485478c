/-
  The walk of 'FnExactJoinAudio': it returns true and writes nothing that was there. For all arguments.
-/
import Derived.Test.YtncbgofcimghnaaEdJ
import Derived.Test.YtncbgofcimghnaaEdPj
import Derived.Test.YtncbgofcimghnaaEdZ
import Derived.Test.YtncbgofcimghnaaSz2
import Derived.Test.YtncbgofcimghnaaQA
import Derived.Test.YtncbgofcimghnaaMem
import Derived.Deep.RegionHeld3
import Derived.Deep.Cut
import Derived.Deep.CutRange
namespace Go.Proofs.Ytncbgofcimghnaa
open Go.RowKit

set_option maxRecDepth 100000 in
set_option maxHeartbeats 4000000 in
theorem FnExactJoinAudio_walk (r d : Int) (ao : Option Addr) (len cap : Nat) (r' d' : Int) (bo : Option Addr) (len' cap' : Nat) (w : World) (xss : List (List Int)) (hx : Mat w ao len xss) (hmax : len ≤ 9223372036854775807) (yss : List (List Int)) (hy : Mat w bo len' yss) (hmay : len' ≤ 9223372036854775807) :
    Calls Try.prog 12 #[.agg #[.int .i64 r, .int .i64 d, .slice ao len cap], .agg #[.int .i64 r', .int .i64 d', .slice bo len' cap']] w (Holds w) := by
  have hm0 : Mem w ((w.alloc (.cells #[.int .i64 r, .int .i64 d, .slice ao len cap] 43)).alloc (.cells #[.int .i64 r', .int .i64 d', .slice bo len' cap'] 43)) [(w.heap.size, .cells #[.int .i64 r, .int .i64 d, .slice ao len cap] 43), (w.heap.size + 1, .cells #[.int .i64 r', .int .i64 d', .slice bo len' cap'] 43)] := by have := ((Mem.start w).block (.cells #[.int .i64 r, .int .i64 d, .slice ao len cap] 43)).block (.cells #[.int .i64 r', .int .i64 d', .slice bo len' cap'] 43); simpa using this
  have HM := Lib.hid hm0
  clear hm0
  have ksz := fun W (hg : w.grownBy W none) z hz => szAudio_L 1048576 (Nat.le_refl _) xss ao len cap r d z W (hx.grown hg) hmax hz
  by_cases hs : 1048576 < szL xss
  · replace ksz := fun W (hg : w.grownBy W none) => ksz W hg (-1) (by rw [if_neg (by omega)])
    clear hx hs hy hmax hmay
    obtain ⟨qp0, qp1, qp2⟩ := three_cells (HM.out.get (b := w.heap.size) (o := .cells #[.int .i64 r, .int .i64 d, .slice ao len cap] 43) (by simp))
    go_enter Try.func12, Try.ntmps12
    go_wp2_with fail
    refine (ksz _ HM.out.g).mono ?_
    rintro e w1 ⟨rfl, hg⟩
    have HG := Lib.hid (grown_trans HM.out.g hg)
    clear ksz hg qp0 qp1 qp2
    go_wp2
    go_ret
    exact ⟨rfl, HG.out⟩
  have hs : szL xss ≤ 1048576 := by omega
  obtain ⟨Z, hZ⟩ : ∃ Z, 1048576 - szL xss = Z := ⟨_, rfl⟩
  have hZ1 : Z ≤ 1048576 := by omega
  replace ksz := fun W (hg : w.grownBy W none) => ksz W hg (Z : Int) (by rw [if_pos (by omega)]; omega)
  have hz2 : decide ((Z : Int) < 0) = false := by simp
  have ksy := fun W (hg : w.grownBy W none) z hz => szAudio_L Z hZ1 yss bo len' cap' r' d' z W (hy.grown hg) hmay hz
  by_cases hsy : Z < szL yss
  · replace ksy := fun W (hg : w.grownBy W none) => ksy W hg (-1) (by rw [if_neg (by omega)])
    clear hx hs hy hmax hmay hsy hZ hZ1
    obtain ⟨qp0, qp1, qp2⟩ := three_cells (HM.out.get (b := w.heap.size) (o := .cells #[.int .i64 r, .int .i64 d, .slice ao len cap] 43) (by simp))
    go_enter Try.func12, Try.ntmps12
    go_wp2_with fail
    refine (ksz _ HM.out.g).mono ?_
    rintro e w1 ⟨rfl, hg⟩
    replace HM := Lib.hid (HM.out.grown hg)
    clear ksz hg qp0 qp1 qp2
    obtain ⟨qr0, qr1, qr2⟩ := three_cells (HM.out.get (b := w.heap.size + 1) (o := .cells #[.int .i64 r', .int .i64 d', .slice bo len' cap'] 43) (by simp))
    go_wp2_with fail
    refine (ksy _ HM.out.g).mono ?_
    rintro e w2 ⟨rfl, hg⟩
    have HG := Lib.hid (grown_trans HM.out.g hg)
    clear ksy hg qr0 qr1 qr2
    go_wp2
    go_ret
    exact ⟨rfl, HG.out⟩
  have hsy1 : szL yss ≤ 1048576 := by omega
  obtain ⟨z1, hz1⟩ : ∃ z1 : Int, (Z : Int) - (szL yss : Int) = z1 := ⟨_, rfl⟩
  have hz3 : decide (z1 < 0) = false := by simp; omega
  replace ksy := fun W (hg : w.grownBy W none) => ksy W hg z1 (by rw [if_pos (by omega)]; exact hz1.symm)
  obtain ⟨rr, dd, zss, ok, hS⟩ : ∃ rr dd zss ok, JnR r d xss r' d' yss rr dd zss ok := AuR_there _ _ _ _
  have hszz : szL zss ≤ 1048576 := jn_sz hS
  have HS := Lib.hid hS
  obtain ⟨T, hT⟩ : ∃ T, (xss.map List.length).sum = T := ⟨_, rfl⟩
  obtain ⟨T', hT'⟩ : ∃ T', (yss.map List.length).sum = T' := ⟨_, rfl⟩
  obtain ⟨U, hU⟩ : ∃ U, (zss.map List.length).sum = U := ⟨_, rfl⟩
  have hTz : T ≤ 1048575 ∨ T ≤ 1048576 := by unfold szL at hs; omega
  have hT48 : 1 + T ≤ 1048577 := by unfold szL at hs; omega
  have hK1 : (1 : Int) + (T : Int) ≤ 1048576 ∨ (xss = [] ∧ T = 0) ∨ T ≤ 1048575 := by
    unfold szL at hs
    by_cases h0 : xss.length = 0
    · exact Or.inr (Or.inl ⟨List.length_eq_zero_iff.1 h0, by rw [← hT, List.length_eq_zero_iff.1 h0]; rfl⟩)
    · exact Or.inl (by omega)
  have hK2 : (1 : Int) + (T : Int) ≤ 1048576 := by omega
  have hT2 : T' ≤ 1048576 := by unfold szL at hsy1; omega
  have hTb : decide (1 + (T : Int) + (T' : Int) < 0) = false := by simp; omega
  have hUb : decide (1 + (U : Int) < 0) = false := by simp; omega
  have kmX : Hid (∀ (q : Option Addr) (lo hi c : Nat) (W : World), MWin W lo hi (.slice q len c) len xss → Calls Try.prog 34 #[.agg #[.int .i64 r, .int .i64 d, .slice q len c], .int .i64 1] W fun e w' => e = .returned (.int .i64 (1 + (T : Int))) ∧ (MWin w' lo hi (.slice q len c) len (mrk 1 xss) ∧ Stp lo hi W w')) := fun q lo hi c W h => by
    have := markAudio_any xss r d q lo hi len c W h hs
    rwa [hT] at this
  have kmY : Hid (∀ (q : Option Addr) (lo hi c : Nat) (W : World), MWin W lo hi (.slice q len' c) len' yss → Calls Try.prog 34 #[.agg #[.int .i64 r', .int .i64 d', .slice q len' c], .int .i64 (1 + (T : Int))] W fun e w' => e = .returned (.int .i64 (1 + (T : Int) + (T' : Int))) ∧ (MWin w' lo hi (.slice q len' c) len' (mrk (1 + (T : Int)) yss) ∧ Stp lo hi W w')) := fun q lo hi c W h => by
    have := markAudio_K (1 + (T : Int)) (by omega) hK2 yss r' d' q lo hi len' c W h hsy1
    rwa [hT'] at this
  have kmG : Hid (∀ (q : Option Addr) (lo hi c : Nat) (W : World), MWin W lo hi (.slice q zss.length c) zss.length zss → Calls Try.prog 34 #[.agg #[.int .i64 rr, .int .i64 dd, .slice q zss.length c], .int .i64 1] W fun e w' => e = .returned (.int .i64 (1 + (U : Int))) ∧ (MWin w' lo hi (.slice q zss.length c) zss.length (mrk 1 zss) ∧ Stp lo hi W w')) := fun q lo hi c W h => by
    have := markAudio_any zss rr dd q lo hi zss.length c W h hszz
    rwa [hU] at this
  have khG : Hid (∀ (q : Option Addr) (c : Nat) (W : World), Mat W q zss.length (mrk 1 zss) → Calls Try.prog 35 #[.agg #[.int .i64 rr, .int .i64 dd, .slice q zss.length c], .int .i64 1] W fun e w' => e = .returned (.int .i64 (1 + (U : Int))) ∧ W.grownBy w' none) := fun q c W h => by
    have := heldAudio_any zss rr dd q zss.length c W h hszz
    rwa [hU] at this
  have HX := Lib.hid hx
  have HY := Lib.hid hy
  have HZ := Lib.hid hs
  have HZ2 := Lib.hid hsy1
  have HZY := Lib.hid hszz
  clear hx hs hmax hS hT hU hszz hy hmay hsy hsy1 hZ hZ1 hT' hTz hT48 hK1 hK2 hT2 hz1
  obtain ⟨qp0, qp1, qp2⟩ := three_cells (HM.out.get (b := w.heap.size) (o := .cells #[.int .i64 r, .int .i64 d, .slice ao len cap] 43) (by simp))
  go_enter Try.func12, Try.ntmps12
  go_wp2_with fail
  refine (ksz _ HM.out.g).mono ?_
  rintro e w0 ⟨rfl, hgw0⟩
  replace HM := Lib.hid (HM.out.grown hgw0)
  clear ksz hgw0 qp0 qp1 qp2
  obtain ⟨qp0, qp1, qp2⟩ := three_cells (HM.out.get (b := w.heap.size) (o := .cells #[.int .i64 r, .int .i64 d, .slice ao len cap] 43) (by simp))
  obtain ⟨qr0, qr1, qr2⟩ := three_cells (HM.out.get (b := w.heap.size + 1) (o := .cells #[.int .i64 r', .int .i64 d', .slice bo len' cap'] 43) (by simp))
  go_wp2_with fail
  refine (ksy _ HM.out.g).mono ?_
  rintro e v0 ⟨rfl, hgv0⟩
  replace HM := Lib.hid (HM.out.grown hgv0)
  clear ksy hgv0
  clear qp0 qp1 qp2 qr0 qr1 qr2
  obtain ⟨qp0, qp1, qp2⟩ := three_cells (HM.out.get (b := w.heap.size) (o := .cells #[.int .i64 r, .int .i64 d, .slice ao len cap] 43) (by simp))
  obtain ⟨qr0, qr1, qr2⟩ := three_cells (HM.out.get (b := w.heap.size + 1) (o := .cells #[.int .i64 r', .int .i64 d', .slice bo len' cap'] 43) (by simp))
  have hT1 : True := trivial
  have hT2 : True := trivial
  have hbq := block_lt (HM.out.get (b := w.heap.size + 1) (o := .cells #[.int .i64 r', .int .i64 d', .slice bo len' cap'] 43) (by simp))
  go_upto_region 8 with fail
  go_cut [6, 7] from 27 to 34 (fun pv bv wx => ∃ (Bk : Nat) (a : Option Addr) (c : Nat), pv = .pointer (some ⟨Bk, 0, none⟩) ∧ bv = .bool ok ∧ Hid (QA v0 wx Bk rr dd a zss.length c zss))
  case first =>
    go_wp2_with fail
    go_region_held3 (fun w' => w'.cell? ⟨w.heap.size, 0, none⟩ = some (.int .i64 r) ∧ w'.cell? ⟨w.heap.size, 1, none⟩ = some (.int .i64 d) ∧ w'.cell? ⟨w.heap.size, 2, none⟩ = some (.slice ao len cap) ∧ w'.cell? ⟨w.heap.size + 1, 0, none⟩ = some (.int .i64 r') ∧ w'.cell? ⟨w.heap.size + 1, 1, none⟩ = some (.int .i64 d') ∧ w'.cell? ⟨w.heap.size + 1, 2, none⟩ = some (.slice bo len' cap')) (first | (refine ⟨?_, ?_, ?_, ?_, ?_, ?_⟩ <;> ((repeat (first | with_reducible assumption | with_reducible refine cell_alq ?_ | with_reducible refine cell_st3q ?_ (by simp; omega))); done)) | go_keep) ((first
      | (go_at_call 32; have Tk := hT1; refine (toAudio_any xss ao len cap r d _ ((HX.out.grown HM.out.g).grown (grown_drew v0 none)) HZ.out).mono ?_; rintro e k1 ⟨u1, rfl, ho, hg⟩; obtain ⟨p1, f1, rfl, _, _, hy, _⟩ := ho.reads; have HY1 := Lib.hid hy; clear ho hy; have s1qp0 := hg.cell qp0 (by simp); have s1qp1 := hg.cell qp1 (by simp); have s1qp2 := hg.cell qp2 (by simp); have s1qr0 := hg.cell qr0 (by simp); have s1qr1 := hg.cell qr1 (by simp); have s1qr2 := hg.cell qr2 (by simp); have HG1 := Lib.hid (grown_trans (grown_drew v0 none) hg); have hsz1 := HG1.out.size; clear Tk hT1; clear hg)
      | (go_at_call 32; have Tk := hT1; refine (toAudio_any xss ao len cap r d _ ((HX.out.grown HM.out.g).grown (grown_trans (grown_drew v0 none) (grown_alloc _ (.cells #[.int .i64 0, .int .i64 0, .slice none 0 0] 25) none))) HZ.out).mono ?_; rintro e k1 ⟨u1, rfl, ho, hg⟩; obtain ⟨p1, f1, rfl, _, _, hy, _⟩ := ho.reads; have HY1 := Lib.hid hy; clear ho hy; have s1qp0 := hg.cell (cell_alq (o := .cells #[.int .i64 0, .int .i64 0, .slice none 0 0] 25) qp0) (by simp); have s1qp1 := hg.cell (cell_alq (o := .cells #[.int .i64 0, .int .i64 0, .slice none 0 0] 25) qp1) (by simp); have s1qp2 := hg.cell (cell_alq (o := .cells #[.int .i64 0, .int .i64 0, .slice none 0 0] 25) qp2) (by simp); have s1qr0 := hg.cell (cell_alq (o := .cells #[.int .i64 0, .int .i64 0, .slice none 0 0] 25) qr0) (by simp); have s1qr1 := hg.cell (cell_alq (o := .cells #[.int .i64 0, .int .i64 0, .slice none 0 0] 25) qr1) (by simp); have s1qr2 := hg.cell (cell_alq (o := .cells #[.int .i64 0, .int .i64 0, .slice none 0 0] 25) qr2) (by simp); have HG1 := Lib.hid (grown_trans (grown_trans (grown_drew v0 none) (grown_alloc _ (.cells #[.int .i64 0, .int .i64 0, .slice none 0 0] 25) none)) hg); have hsz1 := HG1.out.size; have hBk : k1.heap[v0.heap.size]? = some (.cells #[.int .i64 0, .int .i64 0, .slice none 0 0] 25) := grown_heap hg (heap_alloc_new v0.drew (.cells #[.int .i64 0, .int .i64 0, .slice none 0 0] 25)) (by simp); have HBK1 := Lib.hid hBk; have HLT1 := Lib.hid (block_lt (heap_alloc_new v0.drew (.cells #[.int .i64 0, .int .i64 0, .slice none 0 0] 25))); clear hBk; clear Tk hT1; clear hg)
      | (go_at_call 32; have Tk := hT2; have Tz := HBK1; refine (toAudio_any yss bo len' cap' r' d' _ ((HY.out.grown HM.out.g).grown HG1.out) HZ2.out).mono ?_; rintro e k2 ⟨u2, rfl, ho, hg⟩; obtain ⟨s1, e1, rfl, _, _, hy, _⟩ := ho.reads; have HY2 := Lib.hid hy; clear ho hy; have s2qp0 := hg.cell s1qp0 (by simp); have s2qp1 := hg.cell s1qp1 (by simp); have s2qp2 := hg.cell s1qp2 (by simp); have s2qr0 := hg.cell s1qr0 (by simp); have s2qr1 := hg.cell s1qr1 (by simp); have s2qr2 := hg.cell s1qr2 (by simp); have HG2 := Lib.hid (grown_trans HG1.out hg); have hsz2 := HG2.out.size; have hBk := grown_heap hg HBK1.out (by simp); have HLT1 := Lib.hid (block_lt HBK1.out); replace HBK1 := Lib.hid hBk; clear Tz; clear hBk; replace HY1 := Lib.hid (HY1.out.grown hg); clear Tk hT2; clear hg)
      | (go_at_call 32; have Tk := hT2; refine (toAudio_any yss bo len' cap' r' d' _ ((HY.out.grown HM.out.g).grown HG1.out) HZ2.out).mono ?_; rintro e k2 ⟨u2, rfl, ho, hg⟩; obtain ⟨s1, e1, rfl, _, _, hy, _⟩ := ho.reads; have HY2 := Lib.hid hy; clear ho hy; have s2qp0 := hg.cell s1qp0 (by simp); have s2qp1 := hg.cell s1qp1 (by simp); have s2qp2 := hg.cell s1qp2 (by simp); have s2qr0 := hg.cell s1qr0 (by simp); have s2qr1 := hg.cell s1qr1 (by simp); have s2qr2 := hg.cell s1qr2 (by simp); have HG2 := Lib.hid (grown_trans HG1.out hg); have hsz2 := HG2.out.size; replace HY1 := Lib.hid (HY1.out.grown hg); clear Tk hT2; clear hg)
      | (go_at_call 32; have Tk := hT2; refine (toAudio_any yss bo len' cap' r' d' _ ((HY.out.grown HM.out.g).grown (grown_trans HG1.out (grown_alloc _ (.cells #[.int .i64 0, .int .i64 0, .slice none 0 0] 25) none))) HZ2.out).mono ?_; rintro e k2 ⟨u2, rfl, ho, hg⟩; obtain ⟨s1, e1, rfl, _, _, hy, _⟩ := ho.reads; have HY2 := Lib.hid hy; clear ho hy; have s2qp0 := hg.cell (cell_alq (o := .cells #[.int .i64 0, .int .i64 0, .slice none 0 0] 25) s1qp0) (by simp); have s2qp1 := hg.cell (cell_alq (o := .cells #[.int .i64 0, .int .i64 0, .slice none 0 0] 25) s1qp1) (by simp); have s2qp2 := hg.cell (cell_alq (o := .cells #[.int .i64 0, .int .i64 0, .slice none 0 0] 25) s1qp2) (by simp); have s2qr0 := hg.cell (cell_alq (o := .cells #[.int .i64 0, .int .i64 0, .slice none 0 0] 25) s1qr0) (by simp); have s2qr1 := hg.cell (cell_alq (o := .cells #[.int .i64 0, .int .i64 0, .slice none 0 0] 25) s1qr1) (by simp); have s2qr2 := hg.cell (cell_alq (o := .cells #[.int .i64 0, .int .i64 0, .slice none 0 0] 25) s1qr2) (by simp); have HG2 := Lib.hid (grown_trans (grown_trans HG1.out (grown_alloc _ (.cells #[.int .i64 0, .int .i64 0, .slice none 0 0] 25) none)) hg); have hsz2 := HG2.out.size; have hBk : k2.heap[k1.heap.size]? = some (.cells #[.int .i64 0, .int .i64 0, .slice none 0 0] 25) := grown_heap hg (heap_alloc_new k1 (.cells #[.int .i64 0, .int .i64 0, .slice none 0 0] 25)) (by simp); have HBK2 := Lib.hid hBk; have HLT2 := Lib.hid (block_lt (heap_alloc_new k1 (.cells #[.int .i64 0, .int .i64 0, .slice none 0 0] 25))); clear hBk; replace HY1 := Lib.hid ((HY1.out.grown (grown_alloc _ (.cells #[.int .i64 0, .int .i64 0, .slice none 0 0] 25) none)).grown hg); clear Tk hT2; clear hg)
      | (go_at_call 22; have Tz := HBK1; refine (sJn_any xss yss p1 s1 len f1 len' e1 r d r' d' _ rr dd zss ok HY1.out HZ.out HY2.out HZ2.out HS.out).mono ?_; rintro e k3 ⟨v3, rfl, ho, hg⟩; obtain ⟨a3, g3, rfl, _⟩ := ho.reads; have HO3 := Lib.hid ho; clear ho; have s3qp0 := hg.cell s2qp0 (by simp); have s3qp1 := hg.cell s2qp1 (by simp); have s3qp2 := hg.cell s2qp2 (by simp); have s3qr0 := hg.cell s2qr0 (by simp); have s3qr1 := hg.cell s2qr1 (by simp); have s3qr2 := hg.cell s2qr2 (by simp); have HG3 := Lib.hid (grown_trans HG2.out hg); have hsz3 := HG3.out.size; have hBk := grown_heap hg HBK1.out (by simp); have HLT1 := Lib.hid (block_lt HBK1.out); replace HBK1 := Lib.hid hBk; clear Tz; obtain ⟨r0, r1, r2⟩ := three_cells hBk; have f0 := frozen_of_row k3 _ 0 _ _ hBk; have f1 := frozen_of_row k3 _ 1 _ _ hBk; have f2 := frozen_of_row k3 _ 2 _ _ hBk; clear hBk; clear hg)
      | (go_at_call 22; have Tz := HBK2; refine (sJn_any xss yss p1 s1 len f1 len' e1 r d r' d' _ rr dd zss ok HY1.out HZ.out HY2.out HZ2.out HS.out).mono ?_; rintro e k3 ⟨v3, rfl, ho, hg⟩; obtain ⟨a3, g3, rfl, _⟩ := ho.reads; have HO3 := Lib.hid ho; clear ho; have s3qp0 := hg.cell s2qp0 (by simp); have s3qp1 := hg.cell s2qp1 (by simp); have s3qp2 := hg.cell s2qp2 (by simp); have s3qr0 := hg.cell s2qr0 (by simp); have s3qr1 := hg.cell s2qr1 (by simp); have s3qr2 := hg.cell s2qr2 (by simp); have HG3 := Lib.hid (grown_trans HG2.out hg); have hsz3 := HG3.out.size; have hBk := grown_heap hg HBK2.out (by simp); have HLT2 := Lib.hid (block_lt HBK2.out); replace HBK2 := Lib.hid hBk; clear Tz; obtain ⟨r0, r1, r2⟩ := three_cells hBk; have f0 := frozen_of_row k3 _ 0 _ _ hBk; have f1 := frozen_of_row k3 _ 1 _ _ hBk; have f2 := frozen_of_row k3 _ 2 _ _ hBk; clear hBk; clear hg)
      | (go_at_call 22; refine (sJn_any xss yss p1 s1 len f1 len' e1 r d r' d' _ rr dd zss ok HY1.out HZ.out HY2.out HZ2.out HS.out).mono ?_; rintro e k3 ⟨v3, rfl, ho, hg⟩; obtain ⟨a3, g3, rfl, _⟩ := ho.reads; have HO3 := Lib.hid ho; clear ho; have s3qp0 := hg.cell s2qp0 (by simp); have s3qp1 := hg.cell s2qp1 (by simp); have s3qp2 := hg.cell s2qp2 (by simp); have s3qr0 := hg.cell s2qr0 (by simp); have s3qr1 := hg.cell s2qr1 (by simp); have s3qr2 := hg.cell s2qr2 (by simp); have HG3 := Lib.hid (grown_trans HG2.out hg); have hsz3 := HG3.out.size; clear hg)
      | (go_at_call 22; refine (sJn_any xss yss p1 s1 len f1 len' e1 r d r' d' _ rr dd zss ok (HY1.out.grown (grown_alloc _ (.cells #[.int .i64 0, .int .i64 0, .slice none 0 0] 25) none)) HZ.out (HY2.out.grown (grown_alloc _ (.cells #[.int .i64 0, .int .i64 0, .slice none 0 0] 25) none)) HZ2.out HS.out).mono ?_; rintro e k3 ⟨v3, rfl, ho, hg⟩; obtain ⟨a3, g3, rfl, _⟩ := ho.reads; have HO3 := Lib.hid ho; clear ho; have s3qp0 := hg.cell (cell_alq (o := .cells #[.int .i64 0, .int .i64 0, .slice none 0 0] 25) s2qp0) (by simp); have s3qp1 := hg.cell (cell_alq (o := .cells #[.int .i64 0, .int .i64 0, .slice none 0 0] 25) s2qp1) (by simp); have s3qp2 := hg.cell (cell_alq (o := .cells #[.int .i64 0, .int .i64 0, .slice none 0 0] 25) s2qp2) (by simp); have s3qr0 := hg.cell (cell_alq (o := .cells #[.int .i64 0, .int .i64 0, .slice none 0 0] 25) s2qr0) (by simp); have s3qr1 := hg.cell (cell_alq (o := .cells #[.int .i64 0, .int .i64 0, .slice none 0 0] 25) s2qr1) (by simp); have s3qr2 := hg.cell (cell_alq (o := .cells #[.int .i64 0, .int .i64 0, .slice none 0 0] 25) s2qr2) (by simp); have HG3 := Lib.hid (grown_trans (grown_trans HG2.out (grown_alloc _ (.cells #[.int .i64 0, .int .i64 0, .slice none 0 0] 25) none)) hg); have hsz3 := HG3.out.size; have hBk : k3.heap[k2.heap.size]? = some (.cells #[.int .i64 0, .int .i64 0, .slice none 0 0] 25) := grown_heap hg (heap_alloc_new k2 (.cells #[.int .i64 0, .int .i64 0, .slice none 0 0] 25)) (by simp); have HBK3 := Lib.hid hBk; have HLT3 := Lib.hid (block_lt (heap_alloc_new k2 (.cells #[.int .i64 0, .int .i64 0, .slice none 0 0] 25))); obtain ⟨r0, r1, r2⟩ := three_cells hBk; have f0 := frozen_of_row k3 _ 0 _ _ hBk; have f1 := frozen_of_row k3 _ 1 _ _ hBk; have f2 := frozen_of_row k3 _ 2 _ _ hBk; clear hBk; clear hg)))
    all_goals (go_wp2_with fail; go_meet; first
      | exact ⟨_, _, _, rfl, rfl, qa_1 HG3.out HO3.out (by first | exact Nat.le_refl _ | exact HG2.out.size)⟩
      | exact ⟨_, _, _, rfl, rfl, qa_2 HG3.out HO3.out HBK1.out (by exact Nat.le_refl _) (by have := HLT1.out; first | exact this | (have := HG2.out.size; simp at *; omega) | omega)⟩
      | exact ⟨_, _, _, rfl, rfl, qa_2 HG3.out HO3.out HBK2.out (by exact HG1.out.size) (by have := HLT2.out; first | exact this | (have := HG2.out.size; simp at *; omega) | omega)⟩
      | exact ⟨_, _, _, rfl, rfl, qa_2 HG3.out HO3.out HBK3.out (by exact HG2.out.size) (by have := HLT3.out; first | exact this | (have := HG2.out.size; simp at *; omega) | omega)⟩)
  case rest =>

  obtain ⟨Bw, a2, c2, rfl, rfl, HQ2⟩ := hcut
  generalize wc = w2 at *
  clear qp0 qp1 qp2 qr0 qr1 qr2
  clear hT1 hT2 hbq
  replace HM := Lib.hid (HM.out.addq HQ2.out.gr HQ2.out.lo HQ2.out.blk)
  have HWw := Lib.hid HQ2.out.own.win
  have HN2 : Hid (w.heap.size + 1 < w2.heap.size) := block_lt (HM.out.get (b := w.heap.size + 1) (o := .cells #[.int .i64 r', .int .i64 d', .slice bo len' cap'] 43) (by simp))
  have HNB : Hid (Bw < w2.heap.size) := block_lt HQ2.out.blk
  clear HQ2
  obtain ⟨qp0, qp1, qp2⟩ := three_cells (HM.out.get (b := w.heap.size) (o := .cells #[.int .i64 r, .int .i64 d, .slice ao len cap] 43) (by simp))
  obtain ⟨qr0, qr1, qr2⟩ := three_cells (HM.out.get (b := w.heap.size + 1) (o := .cells #[.int .i64 r', .int .i64 d', .slice bo len' cap'] 43) (by simp))
  obtain ⟨qw0, qw1, qw2⟩ := three_cells (HM.out.get (b := Bw) (o := .cells #[.int .i64 rr, .int .i64 dd, .slice a2 zss.length c2] 25) (by simp))
  go_wp2_with fail
  refine (toAudio_any xss ao len cap r d _ (HX.out.grown HM.out.g) HZ.out).mono ?_
  rintro e w3 ⟨u3, rfl, ho3, hgw3⟩
  replace HM := Lib.hid (HM.out.grown hgw3)
  replace HWw := Lib.hid (HWw.out.grown hgw3)
  obtain ⟨p3, c3, rfl, _⟩ := ho3.reads
  have hn3 : w2.heap.size ≤ w3.heap.size := hgw3.size
  have HN3 := Lib.hid hn3
  clear hn3
  have HXw := Lib.hid ((ho3.win).grown (grown_alloc w3 (.cells #[.int .i64 r, .int .i64 d, .slice p3 len c3] 25) none))
  replace HM := Lib.hid (HM.out.block (.cells #[.int .i64 r, .int .i64 d, .slice p3 len c3] 25))
  replace HWw := Lib.hid (HWw.out.grown (grown_alloc w3 (.cells #[.int .i64 r, .int .i64 d, .slice p3 len c3] 25) none))
  clear ho3 hgw3
  clear qp0 qp1 qp2 qr0 qr1 qr2 qw0 qw1 qw2
  obtain ⟨qp0, qp1, qp2⟩ := three_cells (HM.out.get (b := w.heap.size) (o := .cells #[.int .i64 r, .int .i64 d, .slice ao len cap] 43) (by simp))
  obtain ⟨qr0, qr1, qr2⟩ := three_cells (HM.out.get (b := w.heap.size + 1) (o := .cells #[.int .i64 r', .int .i64 d', .slice bo len' cap'] 43) (by simp))
  obtain ⟨qw0, qw1, qw2⟩ := three_cells (HM.out.get (b := Bw) (o := .cells #[.int .i64 rr, .int .i64 dd, .slice a2 zss.length c2] 25) (by simp))
  obtain ⟨qx0, qx1, qx2⟩ := three_cells (HM.out.get (b := w3.heap.size) (o := .cells #[.int .i64 r, .int .i64 d, .slice p3 len c3] 25) (by simp))
  go_wp2_with fail
  refine (toAudio_any yss bo len' cap' r' d' _ (HY.out.grown HM.out.g) HZ2.out).mono ?_
  rintro e y3 ⟨u3, rfl, ho3, hgy3⟩
  replace HM := Lib.hid (HM.out.grown hgy3)
  replace HWw := Lib.hid (HWw.out.grown hgy3)
  replace HXw := Lib.hid (HXw.out.grown hgy3)
  obtain ⟨s3, e3, rfl, _⟩ := ho3.reads
  have hn5 : w3.heap.size + 1 ≤ y3.heap.size := by have h := hgy3.size; simpa using h
  have HN5 := Lib.hid hn5
  clear hn5
  have HYw := Lib.hid (((ho3.base_le (show w3.heap.size + 1 ≤ _ by simp)).win).grown (grown_alloc y3 (.cells #[.int .i64 r', .int .i64 d', .slice s3 len' e3] 25) none))
  replace HM := Lib.hid (HM.out.block (.cells #[.int .i64 r', .int .i64 d', .slice s3 len' e3] 25))
  replace HWw := Lib.hid (HWw.out.grown (grown_alloc y3 (.cells #[.int .i64 r', .int .i64 d', .slice s3 len' e3] 25) none))
  replace HXw := Lib.hid (HXw.out.grown (grown_alloc y3 (.cells #[.int .i64 r', .int .i64 d', .slice s3 len' e3] 25) none))
  clear ho3 hgy3
  clear qp0 qp1 qp2 qr0 qr1 qr2 qw0 qw1 qw2 qx0 qx1 qx2
  obtain ⟨qp0, qp1, qp2⟩ := three_cells (HM.out.get (b := w.heap.size) (o := .cells #[.int .i64 r, .int .i64 d, .slice ao len cap] 43) (by simp))
  obtain ⟨qr0, qr1, qr2⟩ := three_cells (HM.out.get (b := w.heap.size + 1) (o := .cells #[.int .i64 r', .int .i64 d', .slice bo len' cap'] 43) (by simp))
  obtain ⟨qw0, qw1, qw2⟩ := three_cells (HM.out.get (b := Bw) (o := .cells #[.int .i64 rr, .int .i64 dd, .slice a2 zss.length c2] 25) (by simp))
  obtain ⟨qx0, qx1, qx2⟩ := three_cells (HM.out.get (b := w3.heap.size) (o := .cells #[.int .i64 r, .int .i64 d, .slice p3 len c3] 25) (by simp))
  obtain ⟨qy0, qy1, qy2⟩ := three_cells (HM.out.get (b := y3.heap.size) (o := .cells #[.int .i64 r', .int .i64 d', .slice s3 len' e3] 25) (by simp))
  go_wp2_with fail
  refine (iJn_any xss yss p3 s3 len c3 len' e3 r d r' d' _ rr dd zss ok HXw.out.mat HZ.out HYw.out.mat HZ2.out HS.out).mono ?_
  rintro e w4 ⟨v4, rfl, ho4, hgw4⟩
  replace HM := Lib.hid (HM.out.grown hgw4)
  replace HWw := Lib.hid (HWw.out.grown hgw4)
  replace HXw := Lib.hid (HXw.out.grown hgw4)
  replace HYw := Lib.hid (HYw.out.grown hgw4)
  obtain ⟨a4, c4, rfl, _⟩ := ho4.reads
  have hn4 : y3.heap.size + 1 ≤ w4.heap.size := by have h := hgw4.size; simpa using h
  have HN4 := Lib.hid hn4
  clear hn4
  have HGw := Lib.hid (((ho4.base_le (show y3.heap.size + 1 ≤ _ by simp)).win).grown (grown_alloc w4 (.cells #[.int .i64 rr, .int .i64 dd, .slice a4 zss.length c4] 25) none))
  replace HM := Lib.hid (HM.out.block (.cells #[.int .i64 rr, .int .i64 dd, .slice a4 zss.length c4] 25))
  replace HWw := Lib.hid (HWw.out.grown (grown_alloc w4 (.cells #[.int .i64 rr, .int .i64 dd, .slice a4 zss.length c4] 25) none))
  replace HXw := Lib.hid (HXw.out.grown (grown_alloc w4 (.cells #[.int .i64 rr, .int .i64 dd, .slice a4 zss.length c4] 25) none))
  replace HYw := Lib.hid (HYw.out.grown (grown_alloc w4 (.cells #[.int .i64 rr, .int .i64 dd, .slice a4 zss.length c4] 25) none))
  clear ho4 hgw4
  clear qp0 qp1 qp2 qr0 qr1 qr2 qw0 qw1 qw2 qx0 qx1 qx2 qy0 qy1 qy2
  obtain ⟨qp0, qp1, qp2⟩ := three_cells (HM.out.get (b := w.heap.size) (o := .cells #[.int .i64 r, .int .i64 d, .slice ao len cap] 43) (by simp))
  obtain ⟨qr0, qr1, qr2⟩ := three_cells (HM.out.get (b := w.heap.size + 1) (o := .cells #[.int .i64 r', .int .i64 d', .slice bo len' cap'] 43) (by simp))
  obtain ⟨qw0, qw1, qw2⟩ := three_cells (HM.out.get (b := Bw) (o := .cells #[.int .i64 rr, .int .i64 dd, .slice a2 zss.length c2] 25) (by simp))
  obtain ⟨qx0, qx1, qx2⟩ := three_cells (HM.out.get (b := w3.heap.size) (o := .cells #[.int .i64 r, .int .i64 d, .slice p3 len c3] 25) (by simp))
  obtain ⟨qy0, qy1, qy2⟩ := three_cells (HM.out.get (b := y3.heap.size) (o := .cells #[.int .i64 r', .int .i64 d', .slice s3 len' e3] 25) (by simp))
  obtain ⟨qg0, qg1, qg2⟩ := three_cells (HM.out.get (b := w4.heap.size) (o := .cells #[.int .i64 rr, .int .i64 dd, .slice a4 zss.length c4] 25) (by simp))
  go_wp2_with fail
  refine (eqAudio_same zss a4 a2 zss.length c4 c2 rr dd _ HGw.out.mat HWw.out.mat HZY.out).mono ?_
  rintro e w5 ⟨rfl, hgw5⟩
  replace HM := Lib.hid (HM.out.grown hgw5)
  replace HWw := Lib.hid (HWw.out.grown hgw5)
  replace HXw := Lib.hid (HXw.out.grown hgw5)
  replace HYw := Lib.hid (HYw.out.grown hgw5)
  replace HGw := Lib.hid (HGw.out.grown hgw5)
  clear hgw5
  clear qp0 qp1 qp2 qr0 qr1 qr2 qw0 qw1 qw2 qx0 qx1 qx2 qy0 qy1 qy2 qg0 qg1 qg2
  obtain ⟨qx0, qx1, qx2⟩ := three_cells (HM.out.get (b := w3.heap.size) (o := .cells #[.int .i64 r, .int .i64 d, .slice p3 len c3] 25) (by simp))
  obtain ⟨qp0, qp1, qp2⟩ := three_cells (HM.out.get (b := w.heap.size) (o := .cells #[.int .i64 r, .int .i64 d, .slice ao len cap] 43) (by simp))
  go_wp2_with fail
  have HK := Lib.hid HM.out
  have HXm := Lib.hid HXw.out.mat
  go_region_held3 (fun w' => w'.cell? ⟨w3.heap.size, 0, none⟩ = some (.int .i64 r) ∧ w'.cell? ⟨w3.heap.size, 1, none⟩ = some (.int .i64 d) ∧ w'.cell? ⟨w3.heap.size, 2, none⟩ = some (.slice p3 len c3) ∧ w'.cell? ⟨w.heap.size, 0, none⟩ = some (.int .i64 r) ∧ w'.cell? ⟨w.heap.size, 1, none⟩ = some (.int .i64 d) ∧ w'.cell? ⟨w.heap.size, 2, none⟩ = some (.slice ao len cap)) (first | go_keep | exact ⟨by assumption, by assumption, by assumption, by assumption, by assumption, by assumption⟩) ((first
    | (go_at_call 32; refine (toAudio_any xss ao len cap r d _ ((HX.out.grown HK.out.g).grown (grown_drew _ _)) HZ.out).mono ?_; rintro e w6 ⟨u6, rfl, ho6, hg6⟩; obtain ⟨p6, c6, rfl, _, _, hy6, _⟩ := ho6.reads; have HY6 := Lib.hid hy6; have HX6 := Lib.hid ((HXm.out.grown (grown_drew _ _)).grown hg6); have HG6 := Lib.hid (grown_trans (grown_drew w5 none) hg6); have hS0 := hg6.cell qx0 (by simp); have hS1 := hg6.cell qx1 (by simp); have hS2 := hg6.cell qx2 (by simp); have hS3 := hg6.cell qp0 (by simp); have hS4 := hg6.cell qp1 (by simp); have hS5 := hg6.cell qp2 (by simp); clear ho6 hg6 hy6)
    | (go_at_call 33; refine (eqAudio_same xss p3 p6 len c3 c6 r d _ HX6.out HY6.out HZ.out).mono ?_; rintro e w7 ⟨rfl, hg7⟩; have HG7 := Lib.hid (grown_trans HG6.out hg7); have hT0 := hg7.cell hS0 (by simp); have hT1 := hg7.cell hS1 (by simp); have hT2 := hg7.cell hS2 (by simp); have hT3 := hg7.cell hS3 (by simp); have hT4 := hg7.cell hS4 (by simp); have hT5 := hg7.cell hS5 (by simp); clear hg7)))
  clear hS0 hS1 hS2 hS3 hS4 hS5 hT0 hT1 hT2 hT3 hT4 hT5 qx0 qx1 qx2 qp0 qp1 qp2 HK HXm HX6 HY6 HG6
  replace HM := Lib.hid (HM.out.grown HG7.out)
  replace HWw := Lib.hid (HWw.out.grown HG7.out)
  replace HXw := Lib.hid (HXw.out.grown HG7.out)
  replace HYw := Lib.hid (HYw.out.grown HG7.out)
  replace HGw := Lib.hid (HGw.out.grown HG7.out)
  clear HG7
  obtain ⟨qy0, qy1, qy2⟩ := three_cells (HM.out.get (b := y3.heap.size) (o := .cells #[.int .i64 r', .int .i64 d', .slice s3 len' e3] 25) (by simp))
  obtain ⟨qr0, qr1, qr2⟩ := three_cells (HM.out.get (b := w.heap.size + 1) (o := .cells #[.int .i64 r', .int .i64 d', .slice bo len' cap'] 43) (by simp))
  go_wp2_with fail
  have HK := Lib.hid HM.out
  have HXm := Lib.hid HYw.out.mat
  go_region_held3 (fun w' => w'.cell? ⟨y3.heap.size, 0, none⟩ = some (.int .i64 r') ∧ w'.cell? ⟨y3.heap.size, 1, none⟩ = some (.int .i64 d') ∧ w'.cell? ⟨y3.heap.size, 2, none⟩ = some (.slice s3 len' e3) ∧ w'.cell? ⟨w.heap.size + 1, 0, none⟩ = some (.int .i64 r') ∧ w'.cell? ⟨w.heap.size + 1, 1, none⟩ = some (.int .i64 d') ∧ w'.cell? ⟨w.heap.size + 1, 2, none⟩ = some (.slice bo len' cap')) (first | go_keep | exact ⟨by assumption, by assumption, by assumption, by assumption, by assumption, by assumption⟩) ((first
    | (go_at_call 32; refine (toAudio_any yss bo len' cap' r' d' _ ((HY.out.grown HK.out.g).grown (grown_drew _ _)) HZ2.out).mono ?_; rintro e y6 ⟨u6, rfl, ho6, hg6⟩; obtain ⟨p6, c6, rfl, _, _, hy6, _⟩ := ho6.reads; have HY6 := Lib.hid hy6; have HX6 := Lib.hid ((HXm.out.grown (grown_drew _ _)).grown hg6); have HG6 := Lib.hid (grown_trans (grown_drew w7 none) hg6); have hS0 := hg6.cell qy0 (by simp); have hS1 := hg6.cell qy1 (by simp); have hS2 := hg6.cell qy2 (by simp); have hS3 := hg6.cell qr0 (by simp); have hS4 := hg6.cell qr1 (by simp); have hS5 := hg6.cell qr2 (by simp); clear ho6 hg6 hy6)
    | (go_at_call 33; refine (eqAudio_same yss s3 p6 len' e3 c6 r' d' _ HX6.out HY6.out HZ2.out).mono ?_; rintro e y7 ⟨rfl, hg7⟩; have HG7 := Lib.hid (grown_trans HG6.out hg7); have hT0 := hg7.cell hS0 (by simp); have hT1 := hg7.cell hS1 (by simp); have hT2 := hg7.cell hS2 (by simp); have hT3 := hg7.cell hS3 (by simp); have hT4 := hg7.cell hS4 (by simp); have hT5 := hg7.cell hS5 (by simp); clear hg7)))
  clear hS0 hS1 hS2 hS3 hS4 hS5 hT0 hT1 hT2 hT3 hT4 hT5 qy0 qy1 qy2 qr0 qr1 qr2 HK HXm HX6 HY6 HG6
  replace HM := Lib.hid (HM.out.grown HG7.out)
  replace HWw := Lib.hid (HWw.out.grown HG7.out)
  replace HXw := Lib.hid (HXw.out.grown HG7.out)
  replace HYw := Lib.hid (HYw.out.grown HG7.out)
  replace HGw := Lib.hid (HGw.out.grown HG7.out)
  clear HG7
  obtain ⟨qp0, qp1, qp2⟩ := three_cells (HM.out.get (b := w.heap.size) (o := .cells #[.int .i64 r, .int .i64 d, .slice ao len cap] 43) (by simp))
  obtain ⟨qr0, qr1, qr2⟩ := three_cells (HM.out.get (b := w.heap.size + 1) (o := .cells #[.int .i64 r', .int .i64 d', .slice bo len' cap'] 43) (by simp))
  obtain ⟨qw0, qw1, qw2⟩ := three_cells (HM.out.get (b := Bw) (o := .cells #[.int .i64 rr, .int .i64 dd, .slice a2 zss.length c2] 25) (by simp))
  obtain ⟨qx0, qx1, qx2⟩ := three_cells (HM.out.get (b := w3.heap.size) (o := .cells #[.int .i64 r, .int .i64 d, .slice p3 len c3] 25) (by simp))
  obtain ⟨qy0, qy1, qy2⟩ := three_cells (HM.out.get (b := y3.heap.size) (o := .cells #[.int .i64 r', .int .i64 d', .slice s3 len' e3] 25) (by simp))
  obtain ⟨qg0, qg1, qg2⟩ := three_cells (HM.out.get (b := w4.heap.size) (o := .cells #[.int .i64 rr, .int .i64 dd, .slice a4 zss.length c4] 25) (by simp))
  go_wp2_with fail
  refine (kmX.out p3 _ _ c3 _ HXw.out).mono ?_
  rintro e w8 ⟨rfl, _, hst⟩
  replace HM := Lib.hid (HM.out.stp hst (by have := HN2.out; have := HN3.out; have := HN4.out; have := HN5.out; omega) (by have h2 := HN2.out; have h9 := HNB.out; have h3 := HN3.out; have h4 := HN4.out; have h5 := HN5.out; intro q hq; simp at hq; rcases hq with rfl | rfl | rfl | rfl | rfl | rfl <;> simp <;> omega))
  replace HWw := Lib.hid (hst.win (Or.inr (by omega)) HWw.out)
  replace HYw := Lib.hid (hst.win (Or.inl (by omega)) HYw.out)
  replace HGw := Lib.hid (hst.win (Or.inl (by have := HN5.out; omega)) HGw.out)
  clear hst HXw kmX
  clear qp0 qp1 qp2 qr0 qr1 qr2 qw0 qw1 qw2 qx0 qx1 qx2 qy0 qy1 qy2 qg0 qg1 qg2
  obtain ⟨qp0, qp1, qp2⟩ := three_cells (HM.out.get (b := w.heap.size) (o := .cells #[.int .i64 r, .int .i64 d, .slice ao len cap] 43) (by simp))
  obtain ⟨qr0, qr1, qr2⟩ := three_cells (HM.out.get (b := w.heap.size + 1) (o := .cells #[.int .i64 r', .int .i64 d', .slice bo len' cap'] 43) (by simp))
  obtain ⟨qw0, qw1, qw2⟩ := three_cells (HM.out.get (b := Bw) (o := .cells #[.int .i64 rr, .int .i64 dd, .slice a2 zss.length c2] 25) (by simp))
  obtain ⟨qy0, qy1, qy2⟩ := three_cells (HM.out.get (b := y3.heap.size) (o := .cells #[.int .i64 r', .int .i64 d', .slice s3 len' e3] 25) (by simp))
  obtain ⟨qg0, qg1, qg2⟩ := three_cells (HM.out.get (b := w4.heap.size) (o := .cells #[.int .i64 rr, .int .i64 dd, .slice a4 zss.length c4] 25) (by simp))
  go_wp2_with fail
  refine (kmY.out s3 _ _ e3 _ HYw.out).mono ?_
  rintro e y8 ⟨rfl, _, hst⟩
  replace HM := Lib.hid (HM.out.stp hst (by have := HN2.out; have := HN3.out; have := HN4.out; have := HN5.out; omega) (by have h2 := HN2.out; have h9 := HNB.out; have h3 := HN3.out; have h4 := HN4.out; have h5 := HN5.out; intro q hq; simp at hq; rcases hq with rfl | rfl | rfl | rfl | rfl | rfl <;> simp <;> omega))
  replace HWw := Lib.hid (hst.win (Or.inr (by have := HN3.out; omega)) HWw.out)
  replace HGw := Lib.hid (hst.win (Or.inl (by omega)) HGw.out)
  clear hst HYw kmY
  clear qp0 qp1 qp2 qr0 qr1 qr2 qw0 qw1 qw2 qy0 qy1 qy2 qg0 qg1 qg2
  obtain ⟨qp0, qp1, qp2⟩ := three_cells (HM.out.get (b := w.heap.size) (o := .cells #[.int .i64 r, .int .i64 d, .slice ao len cap] 43) (by simp))
  obtain ⟨qr0, qr1, qr2⟩ := three_cells (HM.out.get (b := w.heap.size + 1) (o := .cells #[.int .i64 r', .int .i64 d', .slice bo len' cap'] 43) (by simp))
  obtain ⟨qw0, qw1, qw2⟩ := three_cells (HM.out.get (b := Bw) (o := .cells #[.int .i64 rr, .int .i64 dd, .slice a2 zss.length c2] 25) (by simp))
  obtain ⟨qg0, qg1, qg2⟩ := three_cells (HM.out.get (b := w4.heap.size) (o := .cells #[.int .i64 rr, .int .i64 dd, .slice a4 zss.length c4] 25) (by simp))
  go_wp2_with fail
  refine (eqAudio_same zss a4 a2 zss.length c4 c2 rr dd _ HGw.out.mat HWw.out.mat HZY.out).mono ?_
  rintro e w9 ⟨rfl, hgw9⟩
  replace HM := Lib.hid (HM.out.grown hgw9)
  replace HWw := Lib.hid (HWw.out.grown hgw9)
  replace HGw := Lib.hid (HGw.out.grown hgw9)
  clear hgw9
  clear qp0 qp1 qp2 qr0 qr1 qr2 qw0 qw1 qw2 qg0 qg1 qg2
  obtain ⟨qp0, qp1, qp2⟩ := three_cells (HM.out.get (b := w.heap.size) (o := .cells #[.int .i64 r, .int .i64 d, .slice ao len cap] 43) (by simp))
  obtain ⟨qr0, qr1, qr2⟩ := three_cells (HM.out.get (b := w.heap.size + 1) (o := .cells #[.int .i64 r', .int .i64 d', .slice bo len' cap'] 43) (by simp))
  obtain ⟨qw0, qw1, qw2⟩ := three_cells (HM.out.get (b := Bw) (o := .cells #[.int .i64 rr, .int .i64 dd, .slice a2 zss.length c2] 25) (by simp))
  obtain ⟨qg0, qg1, qg2⟩ := three_cells (HM.out.get (b := w4.heap.size) (o := .cells #[.int .i64 rr, .int .i64 dd, .slice a4 zss.length c4] 25) (by simp))
  go_wp2_with fail
  refine (kmG.out a4 _ _ c4 _ HGw.out).mono ?_
  rintro e w10 ⟨rfl, hgm, hst⟩
  replace HM := Lib.hid (HM.out.stp hst (by have := HN2.out; have := HN3.out; have := HN4.out; have := HN5.out; omega) (by have h2 := HN2.out; have h9 := HNB.out; have h3 := HN3.out; have h4 := HN4.out; have h5 := HN5.out; intro q hq; simp at hq; rcases hq with rfl | rfl | rfl | rfl | rfl | rfl <;> simp <;> omega))
  replace HWw := Lib.hid (hst.win (Or.inr (by have := HN3.out; have := HN5.out; omega)) HWw.out)
  replace HGw := Lib.hid hgm
  clear hst hgm kmG
  clear qp0 qp1 qp2 qr0 qr1 qr2 qw0 qw1 qw2 qg0 qg1 qg2
  obtain ⟨qp0, qp1, qp2⟩ := three_cells (HM.out.get (b := w.heap.size) (o := .cells #[.int .i64 r, .int .i64 d, .slice ao len cap] 43) (by simp))
  obtain ⟨qr0, qr1, qr2⟩ := three_cells (HM.out.get (b := w.heap.size + 1) (o := .cells #[.int .i64 r', .int .i64 d', .slice bo len' cap'] 43) (by simp))
  obtain ⟨qw0, qw1, qw2⟩ := three_cells (HM.out.get (b := Bw) (o := .cells #[.int .i64 rr, .int .i64 dd, .slice a2 zss.length c2] 25) (by simp))
  obtain ⟨qg0, qg1, qg2⟩ := three_cells (HM.out.get (b := w4.heap.size) (o := .cells #[.int .i64 rr, .int .i64 dd, .slice a4 zss.length c4] 25) (by simp))
  go_wp2_with fail
  refine (khG.out a4 c4 _ HGw.out.mat).mono ?_
  rintro e w11 ⟨rfl, hgw11⟩
  replace HM := Lib.hid (HM.out.grown hgw11)
  replace HWw := Lib.hid (HWw.out.grown hgw11)
  replace HGw := Lib.hid (HGw.out.grown hgw11)
  clear hgw11
  clear qp0 qp1 qp2 qr0 qr1 qr2 qw0 qw1 qw2 qg0 qg1 qg2
  obtain ⟨qp0, qp1, qp2⟩ := three_cells (HM.out.get (b := w.heap.size) (o := .cells #[.int .i64 r, .int .i64 d, .slice ao len cap] 43) (by simp))
  obtain ⟨qr0, qr1, qr2⟩ := three_cells (HM.out.get (b := w.heap.size + 1) (o := .cells #[.int .i64 r', .int .i64 d', .slice bo len' cap'] 43) (by simp))
  obtain ⟨qw0, qw1, qw2⟩ := three_cells (HM.out.get (b := Bw) (o := .cells #[.int .i64 rr, .int .i64 dd, .slice a2 zss.length c2] 25) (by simp))
  obtain ⟨qg0, qg1, qg2⟩ := three_cells (HM.out.get (b := w4.heap.size) (o := .cells #[.int .i64 rr, .int .i64 dd, .slice a4 zss.length c4] 25) (by simp))
  have hT1 : True := trivial
  have hT2 : True := trivial
  have hbq := block_lt (HM.out.get (b := w.heap.size + 1) (o := .cells #[.int .i64 r', .int .i64 d', .slice bo len' cap'] 43) (by simp))
  go_upto_region 31 with fail
  go_cut [15, 16] from 94 to 101 (fun pv bv wx => ∃ (Bk : Nat) (a : Option Addr) (c : Nat), pv = .pointer (some ⟨Bk, 0, none⟩) ∧ bv = .bool ok ∧ Hid (QA w11 wx Bk rr dd a zss.length c zss))
  case first =>
    go_wp2_with fail
    go_region_held3 (fun w' => w'.cell? ⟨w.heap.size, 0, none⟩ = some (.int .i64 r) ∧ w'.cell? ⟨w.heap.size, 1, none⟩ = some (.int .i64 d) ∧ w'.cell? ⟨w.heap.size, 2, none⟩ = some (.slice ao len cap) ∧ w'.cell? ⟨w.heap.size + 1, 0, none⟩ = some (.int .i64 r') ∧ w'.cell? ⟨w.heap.size + 1, 1, none⟩ = some (.int .i64 d') ∧ w'.cell? ⟨w.heap.size + 1, 2, none⟩ = some (.slice bo len' cap')) (first | (refine ⟨?_, ?_, ?_, ?_, ?_, ?_⟩ <;> ((repeat (first | with_reducible assumption | with_reducible refine cell_alq ?_ | with_reducible refine cell_st3q ?_ (by simp; omega))); done)) | go_keep) ((first
      | (go_at_call 32; have Tk := hT1; refine (toAudio_any xss ao len cap r d _ ((HX.out.grown HM.out.g).grown (grown_drew w11 none)) HZ.out).mono ?_; rintro e m1 ⟨u1, rfl, ho, hg⟩; obtain ⟨p1, f1, rfl, _, _, hy, _⟩ := ho.reads; have HY1 := Lib.hid hy; clear ho hy; have s1qp0 := hg.cell qp0 (by simp); have s1qp1 := hg.cell qp1 (by simp); have s1qp2 := hg.cell qp2 (by simp); have s1qr0 := hg.cell qr0 (by simp); have s1qr1 := hg.cell qr1 (by simp); have s1qr2 := hg.cell qr2 (by simp); have HG1 := Lib.hid (grown_trans (grown_drew w11 none) hg); have hsz1 := HG1.out.size; clear Tk hT1; clear hg)
      | (go_at_call 32; have Tk := hT1; refine (toAudio_any xss ao len cap r d _ ((HX.out.grown HM.out.g).grown (grown_trans (grown_drew w11 none) (grown_alloc _ (.cells #[.int .i64 0, .int .i64 0, .slice none 0 0] 25) none))) HZ.out).mono ?_; rintro e m1 ⟨u1, rfl, ho, hg⟩; obtain ⟨p1, f1, rfl, _, _, hy, _⟩ := ho.reads; have HY1 := Lib.hid hy; clear ho hy; have s1qp0 := hg.cell (cell_alq (o := .cells #[.int .i64 0, .int .i64 0, .slice none 0 0] 25) qp0) (by simp); have s1qp1 := hg.cell (cell_alq (o := .cells #[.int .i64 0, .int .i64 0, .slice none 0 0] 25) qp1) (by simp); have s1qp2 := hg.cell (cell_alq (o := .cells #[.int .i64 0, .int .i64 0, .slice none 0 0] 25) qp2) (by simp); have s1qr0 := hg.cell (cell_alq (o := .cells #[.int .i64 0, .int .i64 0, .slice none 0 0] 25) qr0) (by simp); have s1qr1 := hg.cell (cell_alq (o := .cells #[.int .i64 0, .int .i64 0, .slice none 0 0] 25) qr1) (by simp); have s1qr2 := hg.cell (cell_alq (o := .cells #[.int .i64 0, .int .i64 0, .slice none 0 0] 25) qr2) (by simp); have HG1 := Lib.hid (grown_trans (grown_trans (grown_drew w11 none) (grown_alloc _ (.cells #[.int .i64 0, .int .i64 0, .slice none 0 0] 25) none)) hg); have hsz1 := HG1.out.size; have hBk : m1.heap[w11.heap.size]? = some (.cells #[.int .i64 0, .int .i64 0, .slice none 0 0] 25) := grown_heap hg (heap_alloc_new w11.drew (.cells #[.int .i64 0, .int .i64 0, .slice none 0 0] 25)) (by simp); have HBK1 := Lib.hid hBk; have HLT1 := Lib.hid (block_lt (heap_alloc_new w11.drew (.cells #[.int .i64 0, .int .i64 0, .slice none 0 0] 25))); clear hBk; clear Tk hT1; clear hg)
      | (go_at_call 32; have Tk := hT2; have Tz := HBK1; refine (toAudio_any yss bo len' cap' r' d' _ ((HY.out.grown HM.out.g).grown HG1.out) HZ2.out).mono ?_; rintro e m2 ⟨u2, rfl, ho, hg⟩; obtain ⟨s1, e1, rfl, _, _, hy, _⟩ := ho.reads; have HY2 := Lib.hid hy; clear ho hy; have s2qp0 := hg.cell s1qp0 (by simp); have s2qp1 := hg.cell s1qp1 (by simp); have s2qp2 := hg.cell s1qp2 (by simp); have s2qr0 := hg.cell s1qr0 (by simp); have s2qr1 := hg.cell s1qr1 (by simp); have s2qr2 := hg.cell s1qr2 (by simp); have HG2 := Lib.hid (grown_trans HG1.out hg); have hsz2 := HG2.out.size; have hBk := grown_heap hg HBK1.out (by simp); have HLT1 := Lib.hid (block_lt HBK1.out); replace HBK1 := Lib.hid hBk; clear Tz; clear hBk; replace HY1 := Lib.hid (HY1.out.grown hg); clear Tk hT2; clear hg)
      | (go_at_call 32; have Tk := hT2; refine (toAudio_any yss bo len' cap' r' d' _ ((HY.out.grown HM.out.g).grown HG1.out) HZ2.out).mono ?_; rintro e m2 ⟨u2, rfl, ho, hg⟩; obtain ⟨s1, e1, rfl, _, _, hy, _⟩ := ho.reads; have HY2 := Lib.hid hy; clear ho hy; have s2qp0 := hg.cell s1qp0 (by simp); have s2qp1 := hg.cell s1qp1 (by simp); have s2qp2 := hg.cell s1qp2 (by simp); have s2qr0 := hg.cell s1qr0 (by simp); have s2qr1 := hg.cell s1qr1 (by simp); have s2qr2 := hg.cell s1qr2 (by simp); have HG2 := Lib.hid (grown_trans HG1.out hg); have hsz2 := HG2.out.size; replace HY1 := Lib.hid (HY1.out.grown hg); clear Tk hT2; clear hg)
      | (go_at_call 32; have Tk := hT2; refine (toAudio_any yss bo len' cap' r' d' _ ((HY.out.grown HM.out.g).grown (grown_trans HG1.out (grown_alloc _ (.cells #[.int .i64 0, .int .i64 0, .slice none 0 0] 25) none))) HZ2.out).mono ?_; rintro e m2 ⟨u2, rfl, ho, hg⟩; obtain ⟨s1, e1, rfl, _, _, hy, _⟩ := ho.reads; have HY2 := Lib.hid hy; clear ho hy; have s2qp0 := hg.cell (cell_alq (o := .cells #[.int .i64 0, .int .i64 0, .slice none 0 0] 25) s1qp0) (by simp); have s2qp1 := hg.cell (cell_alq (o := .cells #[.int .i64 0, .int .i64 0, .slice none 0 0] 25) s1qp1) (by simp); have s2qp2 := hg.cell (cell_alq (o := .cells #[.int .i64 0, .int .i64 0, .slice none 0 0] 25) s1qp2) (by simp); have s2qr0 := hg.cell (cell_alq (o := .cells #[.int .i64 0, .int .i64 0, .slice none 0 0] 25) s1qr0) (by simp); have s2qr1 := hg.cell (cell_alq (o := .cells #[.int .i64 0, .int .i64 0, .slice none 0 0] 25) s1qr1) (by simp); have s2qr2 := hg.cell (cell_alq (o := .cells #[.int .i64 0, .int .i64 0, .slice none 0 0] 25) s1qr2) (by simp); have HG2 := Lib.hid (grown_trans (grown_trans HG1.out (grown_alloc _ (.cells #[.int .i64 0, .int .i64 0, .slice none 0 0] 25) none)) hg); have hsz2 := HG2.out.size; have hBk : m2.heap[m1.heap.size]? = some (.cells #[.int .i64 0, .int .i64 0, .slice none 0 0] 25) := grown_heap hg (heap_alloc_new m1 (.cells #[.int .i64 0, .int .i64 0, .slice none 0 0] 25)) (by simp); have HBK2 := Lib.hid hBk; have HLT2 := Lib.hid (block_lt (heap_alloc_new m1 (.cells #[.int .i64 0, .int .i64 0, .slice none 0 0] 25))); clear hBk; replace HY1 := Lib.hid ((HY1.out.grown (grown_alloc _ (.cells #[.int .i64 0, .int .i64 0, .slice none 0 0] 25) none)).grown hg); clear Tk hT2; clear hg)
      | (go_at_call 20; have Tz := HBK1; refine (iJn_any xss yss p1 s1 len f1 len' e1 r d r' d' _ rr dd zss ok HY1.out HZ.out HY2.out HZ2.out HS.out).mono ?_; rintro e m3 ⟨v3, rfl, ho, hg⟩; obtain ⟨a3, g3, rfl, _⟩ := ho.reads; have HO3 := Lib.hid ho; clear ho; have s3qp0 := hg.cell s2qp0 (by simp); have s3qp1 := hg.cell s2qp1 (by simp); have s3qp2 := hg.cell s2qp2 (by simp); have s3qr0 := hg.cell s2qr0 (by simp); have s3qr1 := hg.cell s2qr1 (by simp); have s3qr2 := hg.cell s2qr2 (by simp); have HG3 := Lib.hid (grown_trans HG2.out hg); have hsz3 := HG3.out.size; have hBk := grown_heap hg HBK1.out (by simp); have HLT1 := Lib.hid (block_lt HBK1.out); replace HBK1 := Lib.hid hBk; clear Tz; obtain ⟨r0, r1, r2⟩ := three_cells hBk; have f0 := frozen_of_row m3 _ 0 _ _ hBk; have f1 := frozen_of_row m3 _ 1 _ _ hBk; have f2 := frozen_of_row m3 _ 2 _ _ hBk; clear hBk; clear hg)
      | (go_at_call 20; have Tz := HBK2; refine (iJn_any xss yss p1 s1 len f1 len' e1 r d r' d' _ rr dd zss ok HY1.out HZ.out HY2.out HZ2.out HS.out).mono ?_; rintro e m3 ⟨v3, rfl, ho, hg⟩; obtain ⟨a3, g3, rfl, _⟩ := ho.reads; have HO3 := Lib.hid ho; clear ho; have s3qp0 := hg.cell s2qp0 (by simp); have s3qp1 := hg.cell s2qp1 (by simp); have s3qp2 := hg.cell s2qp2 (by simp); have s3qr0 := hg.cell s2qr0 (by simp); have s3qr1 := hg.cell s2qr1 (by simp); have s3qr2 := hg.cell s2qr2 (by simp); have HG3 := Lib.hid (grown_trans HG2.out hg); have hsz3 := HG3.out.size; have hBk := grown_heap hg HBK2.out (by simp); have HLT2 := Lib.hid (block_lt HBK2.out); replace HBK2 := Lib.hid hBk; clear Tz; obtain ⟨r0, r1, r2⟩ := three_cells hBk; have f0 := frozen_of_row m3 _ 0 _ _ hBk; have f1 := frozen_of_row m3 _ 1 _ _ hBk; have f2 := frozen_of_row m3 _ 2 _ _ hBk; clear hBk; clear hg)
      | (go_at_call 20; refine (iJn_any xss yss p1 s1 len f1 len' e1 r d r' d' _ rr dd zss ok HY1.out HZ.out HY2.out HZ2.out HS.out).mono ?_; rintro e m3 ⟨v3, rfl, ho, hg⟩; obtain ⟨a3, g3, rfl, _⟩ := ho.reads; have HO3 := Lib.hid ho; clear ho; have s3qp0 := hg.cell s2qp0 (by simp); have s3qp1 := hg.cell s2qp1 (by simp); have s3qp2 := hg.cell s2qp2 (by simp); have s3qr0 := hg.cell s2qr0 (by simp); have s3qr1 := hg.cell s2qr1 (by simp); have s3qr2 := hg.cell s2qr2 (by simp); have HG3 := Lib.hid (grown_trans HG2.out hg); have hsz3 := HG3.out.size; clear hg)
      | (go_at_call 20; refine (iJn_any xss yss p1 s1 len f1 len' e1 r d r' d' _ rr dd zss ok (HY1.out.grown (grown_alloc _ (.cells #[.int .i64 0, .int .i64 0, .slice none 0 0] 25) none)) HZ.out (HY2.out.grown (grown_alloc _ (.cells #[.int .i64 0, .int .i64 0, .slice none 0 0] 25) none)) HZ2.out HS.out).mono ?_; rintro e m3 ⟨v3, rfl, ho, hg⟩; obtain ⟨a3, g3, rfl, _⟩ := ho.reads; have HO3 := Lib.hid ho; clear ho; have s3qp0 := hg.cell (cell_alq (o := .cells #[.int .i64 0, .int .i64 0, .slice none 0 0] 25) s2qp0) (by simp); have s3qp1 := hg.cell (cell_alq (o := .cells #[.int .i64 0, .int .i64 0, .slice none 0 0] 25) s2qp1) (by simp); have s3qp2 := hg.cell (cell_alq (o := .cells #[.int .i64 0, .int .i64 0, .slice none 0 0] 25) s2qp2) (by simp); have s3qr0 := hg.cell (cell_alq (o := .cells #[.int .i64 0, .int .i64 0, .slice none 0 0] 25) s2qr0) (by simp); have s3qr1 := hg.cell (cell_alq (o := .cells #[.int .i64 0, .int .i64 0, .slice none 0 0] 25) s2qr1) (by simp); have s3qr2 := hg.cell (cell_alq (o := .cells #[.int .i64 0, .int .i64 0, .slice none 0 0] 25) s2qr2) (by simp); have HG3 := Lib.hid (grown_trans (grown_trans HG2.out (grown_alloc _ (.cells #[.int .i64 0, .int .i64 0, .slice none 0 0] 25) none)) hg); have hsz3 := HG3.out.size; have hBk : m3.heap[m2.heap.size]? = some (.cells #[.int .i64 0, .int .i64 0, .slice none 0 0] 25) := grown_heap hg (heap_alloc_new m2 (.cells #[.int .i64 0, .int .i64 0, .slice none 0 0] 25)) (by simp); have HBK3 := Lib.hid hBk; have HLT3 := Lib.hid (block_lt (heap_alloc_new m2 (.cells #[.int .i64 0, .int .i64 0, .slice none 0 0] 25))); obtain ⟨r0, r1, r2⟩ := three_cells hBk; have f0 := frozen_of_row m3 _ 0 _ _ hBk; have f1 := frozen_of_row m3 _ 1 _ _ hBk; have f2 := frozen_of_row m3 _ 2 _ _ hBk; clear hBk; clear hg)))
    all_goals (go_wp2_with fail; go_meet; first
      | exact ⟨_, _, _, rfl, rfl, qa_1 HG3.out HO3.out (by first | exact Nat.le_refl _ | exact HG2.out.size)⟩
      | exact ⟨_, _, _, rfl, rfl, qa_2 HG3.out HO3.out HBK1.out (by exact Nat.le_refl _) (by have := HLT1.out; first | exact this | (have := HG2.out.size; simp at *; omega) | omega)⟩
      | exact ⟨_, _, _, rfl, rfl, qa_2 HG3.out HO3.out HBK2.out (by exact HG1.out.size) (by have := HLT2.out; first | exact this | (have := HG2.out.size; simp at *; omega) | omega)⟩
      | exact ⟨_, _, _, rfl, rfl, qa_2 HG3.out HO3.out HBK3.out (by exact HG2.out.size) (by have := HLT3.out; first | exact this | (have := HG2.out.size; simp at *; omega) | omega)⟩)
  case rest =>

  obtain ⟨Bh, a13, c13, rfl, rfl, HQ13⟩ := hcut
  generalize wc = w13 at *
  clear qp0 qp1 qp2 qr0 qr1 qr2 qw0 qw1 qw2 qg0 qg1 qg2
  clear hT1 hT2 hbq
  replace HM := Lib.hid (HM.out.addq HQ13.out.gr HQ13.out.lo HQ13.out.blk)
  replace HWw := Lib.hid (HWw.out.grown HQ13.out.gr)
  replace HGw := Lib.hid (HGw.out.grown HQ13.out.gr)
  have HH := Lib.hid HQ13.out.mat
  clear HQ13
  obtain ⟨qp0, qp1, qp2⟩ := three_cells (HM.out.get (b := w.heap.size) (o := .cells #[.int .i64 r, .int .i64 d, .slice ao len cap] 43) (by simp))
  obtain ⟨qr0, qr1, qr2⟩ := three_cells (HM.out.get (b := w.heap.size + 1) (o := .cells #[.int .i64 r', .int .i64 d', .slice bo len' cap'] 43) (by simp))
  obtain ⟨qw0, qw1, qw2⟩ := three_cells (HM.out.get (b := Bw) (o := .cells #[.int .i64 rr, .int .i64 dd, .slice a2 zss.length c2] 25) (by simp))
  obtain ⟨qg0, qg1, qg2⟩ := three_cells (HM.out.get (b := w4.heap.size) (o := .cells #[.int .i64 rr, .int .i64 dd, .slice a4 zss.length c4] 25) (by simp))
  obtain ⟨qh0, qh1, qh2⟩ := three_cells (HM.out.get (b := Bh) (o := .cells #[.int .i64 rr, .int .i64 dd, .slice a13 zss.length c13] 25) (by simp))
  go_wp2_with fail
  refine (eqAudio_same zss a13 a2 zss.length c13 c2 rr dd _ HH.out HWw.out.mat HZY.out).mono ?_
  rintro e w14 ⟨rfl, hgw14⟩
  replace HM := Lib.hid (HM.out.grown hgw14)
  replace HWw := Lib.hid (HWw.out.grown hgw14)
  replace HGw := Lib.hid (HGw.out.grown hgw14)
  replace HH := Lib.hid (HH.out.grown hgw14)
  clear hgw14
  clear qp0 qp1 qp2 qr0 qr1 qr2 qw0 qw1 qw2 qg0 qg1 qg2 qh0 qh1 qh2
  obtain ⟨qp0, qp1, qp2⟩ := three_cells (HM.out.get (b := w.heap.size) (o := .cells #[.int .i64 r, .int .i64 d, .slice ao len cap] 43) (by simp))
  obtain ⟨qr0, qr1, qr2⟩ := three_cells (HM.out.get (b := w.heap.size + 1) (o := .cells #[.int .i64 r', .int .i64 d', .slice bo len' cap'] 43) (by simp))
  obtain ⟨qw0, qw1, qw2⟩ := three_cells (HM.out.get (b := Bw) (o := .cells #[.int .i64 rr, .int .i64 dd, .slice a2 zss.length c2] 25) (by simp))
  obtain ⟨qg0, qg1, qg2⟩ := three_cells (HM.out.get (b := w4.heap.size) (o := .cells #[.int .i64 rr, .int .i64 dd, .slice a4 zss.length c4] 25) (by simp))
  obtain ⟨qh0, qh1, qh2⟩ := three_cells (HM.out.get (b := Bh) (o := .cells #[.int .i64 rr, .int .i64 dd, .slice a13 zss.length c13] 25) (by simp))
  go_wp2_with fail
  refine (khG.out a4 c4 _ HGw.out.mat).mono ?_
  rintro e w15 ⟨rfl, hgw15⟩
  replace HM := Lib.hid (HM.out.grown hgw15)
  replace HWw := Lib.hid (HWw.out.grown hgw15)
  replace HGw := Lib.hid (HGw.out.grown hgw15)
  replace HH := Lib.hid (HH.out.grown hgw15)
  clear hgw15
  clear qp0 qp1 qp2 qr0 qr1 qr2 qw0 qw1 qw2 qg0 qg1 qg2 qh0 qh1 qh2
  go_wp2
  go_ret
  exact ⟨rfl, HM.out.g⟩

end Go.Proofs.Ytncbgofcimghnaa
