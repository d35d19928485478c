/-
  JoinBits of the specification.
-/
import Derived.Test.YtcgcippniicaaaaDoorJoin
import Derived.Test.YtcgcippniicaaaaDoorSPut
import Derived.Test.YtcgcippniicaaaaDoorGet
import Derived.Deep.RegionWith
import Derived.Deep.RegionHeld3
namespace Go.Proofs.YtcgcippniicaaaaDoor
open Go.RowKit

/-- Inside joinBits: the second parameter's block, the result's and the bits so far. -/
structure JBS (w w' : World) (R1 : Nat) (bo : Option Addr) (lb cb_ n : Nat) (us : List Bool) : Prop where
  g : w.grownBy w' none
  pb : w'.heap[w.heap.size + 1]? = some (.cells #[.slice bo lb cb_, .int .i64 (n : Int)] 25 (0, 0))
  res : w'.heap[w.heap.size + 2]? = some (.cells #[.slice none 0 0, .int .i64 0] 25 (0, 0))
  ex : ∃ v, w'.heap[R1]? = some (.cells #[v, .int .i64 (us.length : Int)] 25 (0, 0)) ∧ Owns w' w.heap.size v ((us.length + 7) / 8) (pk us) ∧ v.ownBlock ≠ some R1 ∧ v.ownBlock ≠ some (w.heap.size + 2)
  lo : w.heap.size + 3 ≤ R1
theorem JBS.grown {w wr w2 : World} {R1 : Nat} {bo : Option Addr} {lb cb_ n : Nat} {us : List Bool} (h : JBS w wr R1 bo lb cb_ n us) (hg : wr.grownBy w2 none) : JBS w w2 R1 bo lb cb_ n us := by
  obtain ⟨v, h1, h2, h3, h4⟩ := h.ex
  exact ⟨grown_trans h.g hg, grown_heap hg h.pb (by simp), grown_heap hg h.res (by simp), ⟨v, grown_heap hg h1 (by simp), h2.grown hg, h3, h4⟩, h.lo⟩
theorem JBS.store {w w2 w3 : World} {R1 : Nat} {bo : Option Addr} {lb cb_ n c' : Nat} {us us' : List Bool} {v3 : Value} (h : JBS w w2 R1 bo lb cb_ n us) (hg : w2.grownBy w3 none) (hc : us'.length = c') (ho : Owns w3 w2.heap.size v3 ((c' + 7) / 8) (pk us')) :
    JBS w ((w3.setCell ⟨R1, 0, none⟩ v3).setCell ⟨R1, 1, none⟩ (.int .i64 (c' : Int))) R1 bo lb cb_ n us' := by
  obtain ⟨v, k1, _⟩ := h.ex
  have hn := grown_heap hg k1 (by simp)
  have hlt := block_lt k1
  have hlr := block_lt h.res
  have hsz := h.g.size
  have hlo := h.lo
  have hne : v3.ownBlock ≠ some R1 := fun e => by have := ho.block _ e; omega
  have hne2 : v3.ownBlock ≠ some (w.heap.size + 2) := fun e => by have := ho.block _ e; omega
  have h1 := heap_setCell_same w3 R1 0 _ _ v3 hn
  have h2 := heap_setCell_same _ R1 1 _ _ (.int .i64 (c' : Int)) h1
  have hgg : w3.grownBy ((w3.setCell ⟨R1, 0, none⟩ v3).setCell ⟨R1, 1, none⟩ (.int .i64 (c' : Int))) (some R1) := grown_trans (grown_setCell w3 ⟨R1, 0, none⟩ v3) (grown_setCell _ ⟨R1, 1, none⟩ _)
  refine ⟨grown_row (grown_trans h.g hg) hgg (fun g e => by injection e with e; omega), grown_heap hgg (grown_heap hg h.pb (by simp)) (by intro e; injection e with e; omega), grown_heap hgg (grown_heap hg h.res (by simp)) (by intro e; injection e with e; omega), ⟨v3, ?_, ?_, hne, hne2⟩, h.lo⟩
  · rw [h2, hc]; rfl
  · rw [hc]; exact ((ho.set _ _ hne).set _ _ hne).base_le (by omega)

/-- One bit list more, us far us the loop has come. -/
theorem join_spec (bs : List Bool) (k n : Nat) (hn : bs.length = n) (hk : 8 * k < n) : ∃ (r wd v : Nat), n = 8 * k + r ∧ (min 8 (r : Int) = (wd : Int)) ∧ 1 ≤ wd ∧ wd ≤ 8 ∧ numV bs (8 * k) wd = (v : Int) ∧ v < 2 ^ wd ∧ 8 * k + wd ≤ n ∧ numB v wd = (bs.drop (8 * k)).take wd ∧ (wd = 8 ∨ 8 * k + wd = bs.length) := by
  obtain ⟨r, wd, s, v, h1, _, h2, _, _, h3, h4, _, h5, h6, h7, h8, h9⟩ := join_round bs k _ rfl (by omega)
  exact ⟨r, wd, v, by omega, h2, h3, h4, h5, h6, by omega, h8, h9⟩

set_option maxRecDepth 100000 in
set_option maxHeartbeats 4000000 in
theorem sjoin_any (us bs : List Bool) (m n : Nat) (hm : us.length = m) (hn : bs.length = n) (ao bo : Option Addr) (la ca lb cb_ : Nat) (w : World) (hx : Ints w ao la (pk us)) (hxn : ao = none → ca = 0) (hy : Ints w bo lb (pk bs)) (hb : m + n ≤ 16384) :
    Calls Tryd.prog 50 #[.agg #[.slice ao la ca, .int .i64 (m : Int)], .agg #[.slice bo lb cb_, .int .i64 (n : Int)]] w (MadeBits (pk (us ++ bs)) ((m + n + 7) / 8) (((m + n : Nat)) : Int) w) := by
  have HMM := Lib.hid ((((Mem.start w).block (.cells #[.slice ao la ca, .int .i64 (m : Int)] 25)).block (.cells #[.slice bo lb cb_, .int .i64 (n : Int)] 25)).block (.cells #[.slice none 0 0, .int .i64 0] 25))
  have hla := hx.1
  rw [pk_len, hm] at hla
  have hp0 := (two_cells (HMM.out.get (b := w.heap.size) (o := (.cells #[.slice ao la ca, .int .i64 (m : Int)] 25)) (by simp))).1
  have hp1 := (two_cells (HMM.out.get (b := w.heap.size) (o := (.cells #[.slice ao la ca, .int .i64 (m : Int)] 25)) (by simp))).2
  have HX := Lib.hid hx
  have HN := Lib.hid hxn
  have HY := Lib.hid hy
  have H := Lib.hid (And.intro hm (And.intro hn hla))
  have hnb : n ≤ 16384 := by omega
  have hmb : m ≤ 16384 := by omega
  clear hx hxn hy hm hn hla
  go_enter Tryd.func50, Tryd.ntmps50
  go_wp2_with fail
  have pa : ∀ o, ((((w.alloc (.cells #[.slice ao la ca, .int .i64 (m : Int)] 25)).alloc (.cells #[.slice bo lb cb_, .int .i64 (n : Int)] 25)).alloc (.cells #[.slice none 0 0, .int .i64 0] 25)).alloc o).cell? ⟨w.heap.size, 0, none⟩ = some (.slice ao la ca) := fun o => (World.cell?_of_block (heap_alloc_old _ _ (block_lt_of_cell hp0))).trans hp0
  have pb : ∀ o, ((((w.alloc (.cells #[.slice ao la ca, .int .i64 (m : Int)] 25)).alloc (.cells #[.slice bo lb cb_, .int .i64 (n : Int)] 25)).alloc (.cells #[.slice none 0 0, .int .i64 0] 25)).alloc o).cell? ⟨w.heap.size, 1, none⟩ = some (.int .i64 (m : Int)) := fun o => (World.cell?_of_block (heap_alloc_old _ _ (block_lt_of_cell hp1))).trans hp1
  go_region_held3 (fun w' => w'.cell? ⟨w.heap.size, 0, none⟩ = some (.slice ao la ca) ∧ w'.cell? ⟨w.heap.size, 1, none⟩ = some (.int .i64 (m : Int))) (first | go_keep | exact ⟨by assumption, by assumption⟩ | exact ⟨pa _, pb _⟩ | exact ⟨(by rw [cell_far _ _ _ _ (by simp; try omega), cell_far _ _ _ _ (by simp; try omega)]; exact hS0), (by rw [cell_far _ _ _ _ (by simp; try omega), cell_far _ _ _ _ (by simp; try omega)]; exact hS1)⟩) ((first
    | (go_at_call 55; refine (copyInts_any (pk us) ao la ca _ ((HX.out.grown HMM.out.g).grown (grown_drew _ _)) HN.out (by have := H.out; omega)).mono ?_; rintro e w2 ⟨v2, rfl, ho2, hg2⟩; obtain ⟨a2, c2, rfl, _⟩ := ho2.reads; have HO2 := Lib.hid ho2; have HM2 := Lib.hid ((HMM.out.grown (grown_drew _ _)).grown hg2); have hS0 := hg2.cell hp0 (by simp); have hS1 := hg2.cell hp1 (by simp); clear ho2 hg2)
    | (go_at_call 55; refine (copyInts_any (pk us) ao la ca _ (((HX.out.grown HMM.out.g).grown (grown_alloc _ (.cells #[.slice none 0 0, .int .i64 0] 25) _)).grown (grown_drew _ _)) HN.out (by have := H.out; omega)).mono ?_; rintro e w2 ⟨v2, rfl, ho2, hg2⟩; obtain ⟨a2, c2, rfl, _⟩ := ho2.reads; have HO2 := Lib.hid ho2; have HM2 := Lib.hid (((HMM.out.block (.cells #[.slice none 0 0, .int .i64 0] 25)).grown (grown_drew _ _)).grown hg2); have hS0 := hg2.cell (pa (.cells #[.slice none 0 0, .int .i64 0] 25)) (by simp); have hS1 := hg2.cell (pb (.cells #[.slice none 0 0, .int .i64 0] 25)) (by simp); have r0 := (two_cells (HM2.out.get (b := w.heap.size + 3) (o := (.cells #[.slice none 0 0, .int .i64 0] 25)) (by simp))).1; have r1 := (two_cells (HM2.out.get (b := w.heap.size + 3) (o := (.cells #[.slice none 0 0, .int .i64 0] 25)) (by simp))).2; have f0 : w2.frozen? ⟨w.heap.size + 3, 0, none⟩ = false := frozen_of_row w2 _ 0 _ _ (HM2.out.get (b := w.heap.size + 3) (o := (.cells #[.slice none 0 0, .int .i64 0] 25)) (by simp)); have f1 : w2.frozen? ⟨w.heap.size + 3, 1, none⟩ = false := frozen_of_row w2 _ 1 _ _ (HM2.out.get (b := w.heap.size + 3) (o := (.cells #[.slice none 0 0, .int .i64 0] 25)) (by simp)); clear ho2 hg2)))
  · have HJ : Hid (JBS w (w2.alloc (.cells #[.slice a2 la c2, .int .i64 (m : Int)] 25)) w2.heap.size bo lb cb_ n (us ++ bs.take (8 * 0))) := by
      have h := H.out
      have hb2 := HM2.out.get (b := w.heap.size + 2) (o := (.cells #[.slice none 0 0, .int .i64 0] 25)) (by simp)
      have hlt := block_lt hb2
      refine ⟨grown_trans HM2.out.g (grown_alloc _ _ _), grown_heap (grown_alloc w2 _ none) (HM2.out.get (b := w.heap.size + 1) (o := (.cells #[.slice bo lb cb_, .int .i64 (n : Int)] 25)) (by simp)) (by simp), grown_heap (grown_alloc w2 _ none) hb2 (by simp), ⟨.slice a2 la c2, ?_, ?_, ?_, ?_⟩, by omega⟩
      · simp only [Nat.mul_zero, List.take_zero, List.append_nil, h.1]; exact heap_alloc_new w2 _
      · simp only [Nat.mul_zero, List.take_zero, List.append_nil, h.1]
        rw [h.2.2]
        exact (HO2.out.grown (grown_alloc _ _ _)).base_le (by simp; omega)
      · intro e; have := World.ownsRow.lt HO2.out _ e; omega
      · intro e; have := HO2.out.block _ e; simp at this; omega
    clear hp0 hp1 hS0 hS1 HO2 HM2 HMM pa pb
    go_wp2_with fail
    go_loopw [6] (fun iv wr => ∃ k a : Nat, a = 8 * k ∧ a ≤ n + 7 ∧ iv = .int .i64 (a : Int) ∧ Hid (JBS w wr (w2.heap.size) bo lb cb_ n (us ++ bs.take a))) (fun iv _ => n + 8 - (intOf iv).toNat)
    case atStart => exact ⟨0, 0, rfl, by omega, rfl, HJ⟩
    case round =>
      obtain ⟨k, a, hak, hk, rfl, HR⟩ := hrel
      have q1 := (two_cells HR.out.pb).2
      generalize (w2.heap.size) = R1 at *
      by_cases hlt : a < n
      · obtain ⟨r, wd, v, hr, hmn, hw1, hw8, hnv, hv, hkw, hnb, h8⟩ := join_spec bs k n H.out.2.1 (by omega)
        rw [← hak] at hr hnv hkw hnb h8
        have q0 := (two_cells HR.out.pb).1
        have e1 : (n : Int) - (a : Int) = (r : Int) := by omega
        have HNV := Lib.hid hnv
        have HV := Lib.hid hv
        have HT8 : Hid ((us ++ bs.take a) ++ numB v wd = us ++ bs.take (a + 8)) := by
          show _ = _
          have h := take_next us bs k wd v (by rw [← hak]; exact hnb) (by rw [← hak]; exact h8) hw8
          rw [show 8 * (k + 1) = a + 8 by omega, ← hak] at h
          exact h
        obtain ⟨cnt, hcnt⟩ : ∃ cnt, (us ++ bs.take a).length = cnt := ⟨_, rfl⟩
        have hcm : cnt = m + a := by rw [← hcnt, List.length_append, List.length_take]; have := H.out; omega
        have HCN := Lib.hid hcnt
        obtain ⟨v5, k1, k2, k3, k4⟩ := HR.out.ex
        rw [hcnt] at k1 k2
        obtain ⟨n5, hn5e⟩ : ∃ n5, (cnt + 7) / 8 = n5 := ⟨_, rfl⟩
        rw [hn5e] at k2
        obtain ⟨a5, c5, rfl, _, hnn5, hx5, _⟩ := k2.reads
        have HN5 := Lib.hid hnn5
        have HX5 := Lib.hid hx5
        have HK1 := Lib.hid k1
        have s0 := (two_cells k1).1
        have s1 := (two_cells k1).2
        have HN5e := Lib.hid hn5e
        have hcb : cnt + wd ≤ 16384 := by omega
        have hcb2 : cnt + wd ≤ m + n := by omega
        have hvb : v < 256 := Nat.lt_of_lt_of_le hv (Nat.le_trans (Nat.pow_le_pow_right (by decide) hw8) (by decide))
        have hab : a ≤ 16384 := by omega
        have HCM := Lib.hid hcm
        have HAK := Lib.hid hak
        have HKW := Lib.hid hkw
        clear hnv hv hnb h8 hcnt k1 k2 k3 k4 hnn5 hx5 hn5e hr hcm hak hkw
        by_cases h8r : 8 ≤ r
        · have h8i : (8 : Int) ≤ (r : Int) := by omega
          obtain rfl : wd = 8 := by omega
          clear hmn
          go_wp2_with fail
          go_region_with ((first
            | (go_at_call 46; refine (sget_any bs n a 8 H.out.2.1 bo lb cb_ _ ((HY.out.grown HR.out.g).grown (grown_drew _ _)) (by have := H.out; omega) (by omega) (by have := HKW.out; omega)).mono ?_; rintro e w5 ⟨rfl, hg5⟩; rw [HNV.out]; have HR5 := Lib.hid ((HR.out.grown (grown_drew _ _)).grown hg5); have HK5 := Lib.hid (grown_heap hg5 (grown_heap (grown_drew _ none) HK1.out (by simp)) (by simp)); have q0b := (two_cells HR5.out.pb).1; have q1b := (two_cells HR5.out.pb).2; have s0b := (two_cells HK5.out).1; have s1b := (two_cells HK5.out).2; have HXb := Lib.hid ((HX5.out.grown (grown_drew _ _)).grown hg5); clear hg5)
            | (go_at_call 39; refine (put_any (pk (us ++ bs.take a)) a5 n5 c5 cnt v 8 255 _ HXb.out HN5.out (by rw [pk_len, HCN.out]) (by omega) (by omega) (by omega) (pk_upto _) (by omega) (by omega)).mono ?_; rintro e w6 ⟨v6, rfl, ho6, hg6⟩; rw [show putN (pk (us ++ bs.take a)) cnt v 8 8 = pk (us ++ bs.take (a + 8)) by (rw [← HCN.out, putN_all, HT8.out])] at ho6; obtain ⟨a6, c6, rfl, _⟩ := ho6.reads; have hB := grown_heap hg6 HK5.out (by simp); have r0 := (two_cells hB).1; have r1 := (two_cells hB).2; have f0 := frozen_of_row w6 R1 0 _ _ hB; have f1 := frozen_of_row w6 R1 1 _ _ hB; have HT := Lib.hid (HR5.out.store hg6 (show (us ++ bs.take (a + 8)).length = cnt + 8 by (rw [← HT8.out, List.length_append, HCN.out, numB_len])) ho6); clear ho6 hg6 hB)))
          all_goals
            have HT : Hid (JBS w ((w6.setCell ⟨R1, 0, none⟩ (.slice a6 ((cnt + 8 + 7) / 8) c6)).setCell ⟨R1, 1, none⟩ (.int .i64 ((cnt : Int) + 8))) R1 bo lb cb_ n (us ++ bs.take (a + 8))) := by
              have h := HT.out
              rw [Int.natCast_add cnt 8] at h
              exact h
            clear HR5 HK5 q0b q1b s0b s1b HXb r0 r1 f0 f1 q0 q1 s0 s1
            go_wp2
            go_roundw
            case rel => exact ⟨k + 1, a + 8, by have := HAK.out; omega, by omega, by go_num, HT⟩
            case measure => simp [intOf]; omega
        · have h8i : ¬ (8 : Int) ≤ (r : Int) := by omega
          obtain rfl : wd = r := by omega
          clear hmn
          go_wp2_with fail
          go_region_with ((first
            | (go_at_call 46; refine (sget_any bs n a wd H.out.2.1 bo lb cb_ _ ((HY.out.grown HR.out.g).grown (grown_drew _ _)) (by have := H.out; omega) (by omega) (by have := HKW.out; omega)).mono ?_; rintro e w5 ⟨rfl, hg5⟩; rw [HNV.out]; have HR5 := Lib.hid ((HR.out.grown (grown_drew _ _)).grown hg5); have HK5 := Lib.hid (grown_heap hg5 (grown_heap (grown_drew _ none) HK1.out (by simp)) (by simp)); have q0b := (two_cells HR5.out.pb).1; have q1b := (two_cells HR5.out.pb).2; have s0b := (two_cells HK5.out).1; have s1b := (two_cells HK5.out).2; have HXb := Lib.hid ((HX5.out.grown (grown_drew _ _)).grown hg5); clear hg5)
            | (go_at_call 39; refine (put_any (pk (us ++ bs.take a)) a5 n5 c5 cnt v wd 255 _ HXb.out HN5.out (by rw [pk_len, HCN.out]) (by omega) (by omega) (by omega) (pk_upto _) (by omega) (by omega)).mono ?_; rintro e w6 ⟨v6, rfl, ho6, hg6⟩; rw [show putN (pk (us ++ bs.take a)) cnt v wd wd = pk (us ++ bs.take (a + 8)) by (rw [← HCN.out, putN_all, HT8.out])] at ho6; obtain ⟨a6, c6, rfl, _⟩ := ho6.reads; have hB := grown_heap hg6 HK5.out (by simp); have r0 := (two_cells hB).1; have r1 := (two_cells hB).2; have f0 := frozen_of_row w6 R1 0 _ _ hB; have f1 := frozen_of_row w6 R1 1 _ _ hB; have HT := Lib.hid (HR5.out.store hg6 (show (us ++ bs.take (a + 8)).length = cnt + wd by (rw [← HT8.out, List.length_append, HCN.out, numB_len])) ho6); clear ho6 hg6 hB)))
          all_goals
            have HT : Hid (JBS w ((w6.setCell ⟨R1, 0, none⟩ (.slice a6 ((cnt + wd + 7) / 8) c6)).setCell ⟨R1, 1, none⟩ (.int .i64 ((cnt : Int) + (wd : Int)))) R1 bo lb cb_ n (us ++ bs.take (a + 8))) := by
              have h := HT.out
              rw [Int.natCast_add cnt wd] at h
              exact h
            clear HR5 HK5 q0b q1b s0b s1b HXb r0 r1 f0 f1 q0 q1 s0 s1
            go_wp2
            go_roundw
            case rel => exact ⟨k + 1, a + 8, by have := HAK.out; omega, by omega, by go_num, HT⟩
            case measure => simp [intOf]; omega
      · have hd : decide ((a : Int) < (n : Int)) = false := by simp; omega
        obtain ⟨v5, k1, k2, k3, k4⟩ := HR.out.ex
        have hl5 : us ++ bs.take a = us ++ bs := by rw [List.take_of_length_le (by have := H.out; omega)]
        rw [hl5] at k1 k2
        have hmn2 : (us ++ bs).length = m + n := by rw [List.length_append]; have := H.out; omega
        rw [hmn2] at k1 k2
        obtain ⟨n5, hn5e⟩ : ∃ n5, (m + n + 7) / 8 = n5 := ⟨_, rfl⟩
        rw [hn5e] at k2
        obtain ⟨c9, hc9⟩ : ∃ c9, m + n = c9 := ⟨_, rfl⟩
        have HC9 : Hid (m + n = c9 ∧ (m + n + 7) / 8 = n5) := ⟨hc9, hn5e⟩
        rw [hc9] at k1 hmn2
        obtain ⟨a5, c5, rfl, _, _, _, _⟩ := k2.reads
        have s0 := (two_cells k1).1
        have s1 := (two_cells k1).2
        have r0 := (two_cells HR.out.res).1
        have r1 := (two_cells HR.out.res).2
        have f0 : wr.frozen? ⟨w.heap.size + 2, 0, none⟩ = false := frozen_of_row wr _ 0 _ _ HR.out.res
        have f1 : wr.frozen? ⟨w.heap.size + 2, 1, none⟩ = false := frozen_of_row wr _ 1 _ _ HR.out.res
        have hne : w.heap.size + 2 ≠ R1 := by have := HR.out.lo; omega
        have X : Hid (Owns ((wr.setCell ⟨w.heap.size + 2, 0, none⟩ (.slice a5 n5 c5)).setCell ⟨w.heap.size + 2, 1, none⟩ (.int .i64 (c9 : Int))) w.heap.size (.slice a5 n5 c5) n5 (pk (us ++ bs)) ∧ w.grownBy ((wr.setCell ⟨w.heap.size + 2, 0, none⟩ (.slice a5 n5 c5)).setCell ⟨w.heap.size + 2, 1, none⟩ (.int .i64 (c9 : Int))) none) :=
          ⟨(k2.set _ _ k4).set _ _ k4, grown_set (grown_set HR.out.g (by simp)) (by simp)⟩
        clear k1 k2 k3 k4 HR HJ hmn2 hc9 hl5 hn5e
        go_wp2
        exact bodyPost_ret (v := .agg #[.slice a5 n5 c5, .int .i64 (c9 : Int)]) (by simp [results, Tryd.results50, go_sem, r0, r1]) rfl ⟨.slice a5 n5 c5, by rw [HC9.out.1], by rw [HC9.out.2]; exact X.out.1, X.out.2⟩
  · have HJ : Hid (JBS w ((w2.setCell ⟨w.heap.size + 1 + 1 + 1, 0, none⟩ (.slice a2 la c2)).setCell ⟨w.heap.size + 1 + 1 + 1, 1, none⟩ (.int .i64 (m : Int))) (w.heap.size + 1 + 1 + 1) bo lb cb_ n (us ++ bs.take (8 * 0))) := by
      have h := H.out
      have k1 := HM2.out.get (b := w.heap.size + 3) (o := (.cells #[.slice none 0 0, .int .i64 0] 25)) (by simp)
      have hb2 := HM2.out.get (b := w.heap.size + 2) (o := (.cells #[.slice none 0 0, .int .i64 0] 25)) (by simp)
      have h1 := heap_setCell_same w2 (w.heap.size + 3) 0 _ _ (.slice a2 la c2) k1
      have h2 := heap_setCell_same _ (w.heap.size + 3) 1 _ _ (.int .i64 (m : Int)) h1
      have hgg : w2.grownBy ((w2.setCell ⟨w.heap.size + 3, 0, none⟩ (.slice a2 la c2)).setCell ⟨w.heap.size + 3, 1, none⟩ (.int .i64 (m : Int))) (some (w.heap.size + 3)) := grown_trans (grown_setCell w2 ⟨w.heap.size + 3, 0, none⟩ _) (grown_setCell _ ⟨w.heap.size + 3, 1, none⟩ _)
      have hne : (Value.slice a2 la c2).ownBlock ≠ some (w.heap.size + 3) := fun e => by have := HO2.out.block _ e; simp at this; omega
      refine ⟨grown_row HM2.out.g hgg (fun g e => by injection e with e; omega), grown_heap hgg (HM2.out.get (b := w.heap.size + 1) (o := (.cells #[.slice bo lb cb_, .int .i64 (n : Int)] 25)) (by simp)) (by intro e; injection e with e; omega), grown_heap hgg hb2 (by intro e; injection e with e; omega), ⟨.slice a2 la c2, ?_, ?_, hne, ?_⟩, by omega⟩
      · simp only [Nat.mul_zero, List.take_zero, List.append_nil, h.1]
        rw [h2]; rfl
      · simp only [Nat.mul_zero, List.take_zero, List.append_nil, h.1]
        rw [h.2.2]
        exact ((HO2.out.set _ _ hne).set _ _ hne).base_le (by simp; omega)
      · intro e; have := HO2.out.block _ e; simp at this; omega
    clear hp0 hp1 hS0 hS1 HO2 HM2 HMM pa pb r0 r1 f0 f1
    go_wp2_with fail
    go_loopw [6] (fun iv wr => ∃ k a : Nat, a = 8 * k ∧ a ≤ n + 7 ∧ iv = .int .i64 (a : Int) ∧ Hid (JBS w wr (w.heap.size + 1 + 1 + 1) bo lb cb_ n (us ++ bs.take a))) (fun iv _ => n + 8 - (intOf iv).toNat)
    case atStart => exact ⟨0, 0, rfl, by omega, rfl, HJ⟩
    case round =>
      obtain ⟨k, a, hak, hk, rfl, HR⟩ := hrel
      have q1 := (two_cells HR.out.pb).2
      generalize (w.heap.size + 1 + 1 + 1) = R1 at *
      by_cases hlt : a < n
      · obtain ⟨r, wd, v, hr, hmn, hw1, hw8, hnv, hv, hkw, hnb, h8⟩ := join_spec bs k n H.out.2.1 (by omega)
        rw [← hak] at hr hnv hkw hnb h8
        have q0 := (two_cells HR.out.pb).1
        have e1 : (n : Int) - (a : Int) = (r : Int) := by omega
        have HNV := Lib.hid hnv
        have HV := Lib.hid hv
        have HT8 : Hid ((us ++ bs.take a) ++ numB v wd = us ++ bs.take (a + 8)) := by
          show _ = _
          have h := take_next us bs k wd v (by rw [← hak]; exact hnb) (by rw [← hak]; exact h8) hw8
          rw [show 8 * (k + 1) = a + 8 by omega, ← hak] at h
          exact h
        obtain ⟨cnt, hcnt⟩ : ∃ cnt, (us ++ bs.take a).length = cnt := ⟨_, rfl⟩
        have hcm : cnt = m + a := by rw [← hcnt, List.length_append, List.length_take]; have := H.out; omega
        have HCN := Lib.hid hcnt
        obtain ⟨v5, k1, k2, k3, k4⟩ := HR.out.ex
        rw [hcnt] at k1 k2
        obtain ⟨n5, hn5e⟩ : ∃ n5, (cnt + 7) / 8 = n5 := ⟨_, rfl⟩
        rw [hn5e] at k2
        obtain ⟨a5, c5, rfl, _, hnn5, hx5, _⟩ := k2.reads
        have HN5 := Lib.hid hnn5
        have HX5 := Lib.hid hx5
        have HK1 := Lib.hid k1
        have s0 := (two_cells k1).1
        have s1 := (two_cells k1).2
        have HN5e := Lib.hid hn5e
        have hcb : cnt + wd ≤ 16384 := by omega
        have hcb2 : cnt + wd ≤ m + n := by omega
        have hvb : v < 256 := Nat.lt_of_lt_of_le hv (Nat.le_trans (Nat.pow_le_pow_right (by decide) hw8) (by decide))
        have hab : a ≤ 16384 := by omega
        have HCM := Lib.hid hcm
        have HAK := Lib.hid hak
        have HKW := Lib.hid hkw
        clear hnv hv hnb h8 hcnt k1 k2 k3 k4 hnn5 hx5 hn5e hr hcm hak hkw
        by_cases h8r : 8 ≤ r
        · have h8i : (8 : Int) ≤ (r : Int) := by omega
          obtain rfl : wd = 8 := by omega
          clear hmn
          go_wp2_with fail
          go_region_with ((first
            | (go_at_call 46; refine (sget_any bs n a 8 H.out.2.1 bo lb cb_ _ ((HY.out.grown HR.out.g).grown (grown_drew _ _)) (by have := H.out; omega) (by omega) (by have := HKW.out; omega)).mono ?_; rintro e w5 ⟨rfl, hg5⟩; rw [HNV.out]; have HR5 := Lib.hid ((HR.out.grown (grown_drew _ _)).grown hg5); have HK5 := Lib.hid (grown_heap hg5 (grown_heap (grown_drew _ none) HK1.out (by simp)) (by simp)); have q0b := (two_cells HR5.out.pb).1; have q1b := (two_cells HR5.out.pb).2; have s0b := (two_cells HK5.out).1; have s1b := (two_cells HK5.out).2; have HXb := Lib.hid ((HX5.out.grown (grown_drew _ _)).grown hg5); clear hg5)
            | (go_at_call 39; refine (put_any (pk (us ++ bs.take a)) a5 n5 c5 cnt v 8 255 _ HXb.out HN5.out (by rw [pk_len, HCN.out]) (by omega) (by omega) (by omega) (pk_upto _) (by omega) (by omega)).mono ?_; rintro e w6 ⟨v6, rfl, ho6, hg6⟩; rw [show putN (pk (us ++ bs.take a)) cnt v 8 8 = pk (us ++ bs.take (a + 8)) by (rw [← HCN.out, putN_all, HT8.out])] at ho6; obtain ⟨a6, c6, rfl, _⟩ := ho6.reads; have hB := grown_heap hg6 HK5.out (by simp); have r0 := (two_cells hB).1; have r1 := (two_cells hB).2; have f0 := frozen_of_row w6 R1 0 _ _ hB; have f1 := frozen_of_row w6 R1 1 _ _ hB; have HT := Lib.hid (HR5.out.store hg6 (show (us ++ bs.take (a + 8)).length = cnt + 8 by (rw [← HT8.out, List.length_append, HCN.out, numB_len])) ho6); clear ho6 hg6 hB)))
          all_goals
            have HT : Hid (JBS w ((w6.setCell ⟨R1, 0, none⟩ (.slice a6 ((cnt + 8 + 7) / 8) c6)).setCell ⟨R1, 1, none⟩ (.int .i64 ((cnt : Int) + 8))) R1 bo lb cb_ n (us ++ bs.take (a + 8))) := by
              have h := HT.out
              rw [Int.natCast_add cnt 8] at h
              exact h
            clear HR5 HK5 q0b q1b s0b s1b HXb r0 r1 f0 f1 q0 q1 s0 s1
            go_wp2
            go_roundw
            case rel => exact ⟨k + 1, a + 8, by have := HAK.out; omega, by omega, by go_num, HT⟩
            case measure => simp [intOf]; omega
        · have h8i : ¬ (8 : Int) ≤ (r : Int) := by omega
          obtain rfl : wd = r := by omega
          clear hmn
          go_wp2_with fail
          go_region_with ((first
            | (go_at_call 46; refine (sget_any bs n a wd H.out.2.1 bo lb cb_ _ ((HY.out.grown HR.out.g).grown (grown_drew _ _)) (by have := H.out; omega) (by omega) (by have := HKW.out; omega)).mono ?_; rintro e w5 ⟨rfl, hg5⟩; rw [HNV.out]; have HR5 := Lib.hid ((HR.out.grown (grown_drew _ _)).grown hg5); have HK5 := Lib.hid (grown_heap hg5 (grown_heap (grown_drew _ none) HK1.out (by simp)) (by simp)); have q0b := (two_cells HR5.out.pb).1; have q1b := (two_cells HR5.out.pb).2; have s0b := (two_cells HK5.out).1; have s1b := (two_cells HK5.out).2; have HXb := Lib.hid ((HX5.out.grown (grown_drew _ _)).grown hg5); clear hg5)
            | (go_at_call 39; refine (put_any (pk (us ++ bs.take a)) a5 n5 c5 cnt v wd 255 _ HXb.out HN5.out (by rw [pk_len, HCN.out]) (by omega) (by omega) (by omega) (pk_upto _) (by omega) (by omega)).mono ?_; rintro e w6 ⟨v6, rfl, ho6, hg6⟩; rw [show putN (pk (us ++ bs.take a)) cnt v wd wd = pk (us ++ bs.take (a + 8)) by (rw [← HCN.out, putN_all, HT8.out])] at ho6; obtain ⟨a6, c6, rfl, _⟩ := ho6.reads; have hB := grown_heap hg6 HK5.out (by simp); have r0 := (two_cells hB).1; have r1 := (two_cells hB).2; have f0 := frozen_of_row w6 R1 0 _ _ hB; have f1 := frozen_of_row w6 R1 1 _ _ hB; have HT := Lib.hid (HR5.out.store hg6 (show (us ++ bs.take (a + 8)).length = cnt + wd by (rw [← HT8.out, List.length_append, HCN.out, numB_len])) ho6); clear ho6 hg6 hB)))
          all_goals
            have HT : Hid (JBS w ((w6.setCell ⟨R1, 0, none⟩ (.slice a6 ((cnt + wd + 7) / 8) c6)).setCell ⟨R1, 1, none⟩ (.int .i64 ((cnt : Int) + (wd : Int)))) R1 bo lb cb_ n (us ++ bs.take (a + 8))) := by
              have h := HT.out
              rw [Int.natCast_add cnt wd] at h
              exact h
            clear HR5 HK5 q0b q1b s0b s1b HXb r0 r1 f0 f1 q0 q1 s0 s1
            go_wp2
            go_roundw
            case rel => exact ⟨k + 1, a + 8, by have := HAK.out; omega, by omega, by go_num, HT⟩
            case measure => simp [intOf]; omega
      · have hd : decide ((a : Int) < (n : Int)) = false := by simp; omega
        obtain ⟨v5, k1, k2, k3, k4⟩ := HR.out.ex
        have hl5 : us ++ bs.take a = us ++ bs := by rw [List.take_of_length_le (by have := H.out; omega)]
        rw [hl5] at k1 k2
        have hmn2 : (us ++ bs).length = m + n := by rw [List.length_append]; have := H.out; omega
        rw [hmn2] at k1 k2
        obtain ⟨n5, hn5e⟩ : ∃ n5, (m + n + 7) / 8 = n5 := ⟨_, rfl⟩
        rw [hn5e] at k2
        obtain ⟨c9, hc9⟩ : ∃ c9, m + n = c9 := ⟨_, rfl⟩
        have HC9 : Hid (m + n = c9 ∧ (m + n + 7) / 8 = n5) := ⟨hc9, hn5e⟩
        rw [hc9] at k1 hmn2
        obtain ⟨a5, c5, rfl, _, _, _, _⟩ := k2.reads
        have s0 := (two_cells k1).1
        have s1 := (two_cells k1).2
        have r0 := (two_cells HR.out.res).1
        have r1 := (two_cells HR.out.res).2
        have f0 : wr.frozen? ⟨w.heap.size + 2, 0, none⟩ = false := frozen_of_row wr _ 0 _ _ HR.out.res
        have f1 : wr.frozen? ⟨w.heap.size + 2, 1, none⟩ = false := frozen_of_row wr _ 1 _ _ HR.out.res
        have hne : w.heap.size + 2 ≠ R1 := by have := HR.out.lo; omega
        have X : Hid (Owns ((wr.setCell ⟨w.heap.size + 2, 0, none⟩ (.slice a5 n5 c5)).setCell ⟨w.heap.size + 2, 1, none⟩ (.int .i64 (c9 : Int))) w.heap.size (.slice a5 n5 c5) n5 (pk (us ++ bs)) ∧ w.grownBy ((wr.setCell ⟨w.heap.size + 2, 0, none⟩ (.slice a5 n5 c5)).setCell ⟨w.heap.size + 2, 1, none⟩ (.int .i64 (c9 : Int))) none) :=
          ⟨(k2.set _ _ k4).set _ _ k4, grown_set (grown_set HR.out.g (by simp)) (by simp)⟩
        clear k1 k2 k3 k4 HR HJ hmn2 hc9 hl5 hn5e
        go_wp2
        exact bodyPost_ret (v := .agg #[.slice a5 n5 c5, .int .i64 (c9 : Int)]) (by simp [results, Tryd.results50, go_sem, r0, r1]) rfl ⟨.slice a5 n5 c5, by rw [HC9.out.1], by rw [HC9.out.2]; exact X.out.1, X.out.2⟩

end Go.Proofs.YtcgcippniicaaaaDoor
