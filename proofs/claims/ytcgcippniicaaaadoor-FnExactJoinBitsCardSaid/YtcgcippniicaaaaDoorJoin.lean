/-
  JoinBits of the program: what it gives for all arguments.
-/
import Derived.Test.YtcgcippniicaaaaDoorJoinM
import Derived.Test.YtcgcippniicaaaaDoorApp
namespace Go.Proofs.YtcgcippniicaaaaDoor
open Go.RowKit
variable {K : List (Nat × Obj)}

/-- The next bits, eight at most. -/
theorem join_round (bs : List Bool) (k len : Nat) (hl : (bs.length + 7) / 8 = len) (hk : k < len) : ∃ (r wd s v : Nat), bs.length = 8 * k + r ∧ 1 ≤ r ∧ (min 8 (r : Int) = (wd : Int)) ∧ (8 - (wd : Int) = (s : Int)) ∧ s ≤ 7 ∧ 1 ≤ wd ∧ wd ≤ 8 ∧ byteAt bs k / 2 ^ s = (v : Int) ∧ numV bs (8 * k) wd = (v : Int) ∧ v < 2 ^ wd ∧ 8 * k + wd ≤ bs.length ∧ numB v wd = (bs.drop (8 * k)).take wd ∧ (wd = 8 ∨ 8 * k + wd = bs.length) := by
  obtain ⟨r, hr⟩ : ∃ r, bs.length = 8 * k + r := ⟨bs.length - 8 * k, by omega⟩
  by_cases h8 : 8 ≤ r
  · obtain ⟨v, h1, h2, h3⟩ := numV_numB bs (8 * k) 8 (by omega)
    exact ⟨r, 8, 0, v, hr, by omega, by omega, by omega, by omega, by omega, by omega, by rw [← h1, ← numV_byte bs k 8 (by omega)], h1, h2, by omega, h3, Or.inl rfl⟩
  · obtain ⟨v, h1, h2, h3⟩ := numV_numB bs (8 * k) r (by omega)
    exact ⟨r, r, 8 - r, v, hr, by omega, by omega, by omega, by omega, by omega, by omega, by rw [← h1, ← numV_byte bs k r (by omega)], h1, h2, by omega, h3, by omega⟩

theorem take_next (us bs : List Bool) (k wd v : Nat) (h : numB v wd = (bs.drop (8 * k)).take wd) (h8 : wd = 8 ∨ 8 * k + wd = bs.length) (h9 : wd ≤ 8) : (us ++ bs.take (8 * k)) ++ numB v wd = us ++ bs.take (8 * (k + 1)) := by
  rw [List.append_assoc, h, take_step]
  congr 1
  rcases h8 with rfl | h8
  · rfl
  · rw [h8, List.take_of_length_le (Nat.le_refl _), List.take_of_length_le (by omega)]

set_option maxRecDepth 100000 in
set_option maxHeartbeats 2000000 in
theorem putAll_any (us bs : List Bool) (n : Nat) (hn : bs.length = n) (w0 w : World) (B : Nat) (ao : Option Addr) (len cap : Nat) (hW : Wtr K w0 w B us) (hx : Ints w0 ao len (pk bs)) (hE : ErrAt w0 1) (ha : us.length ≤ 16384) (hb : bs.length ≤ 16384) :
    Calls Tryd.prog 49 #[.pointer (some ⟨B, 0, none⟩), .agg #[.slice ao len cap, .int .i64 (n : Int)]] w fun e w' => (us.length + n ≤ 16384 ∧ e = .returned .nilIface ∧ Wtr K w0 w' B (us ++ bs)) ∨ (16384 < us.length + n ∧ (∃ t v, e = .returned (.iface t v)) ∧ w0.grownBy w' none) := by
  have hl := hx.1
  rw [pk_len] at hl
  obtain ⟨m, hm⟩ : ∃ m, us.length = m := ⟨_, rfl⟩
  rw [hm] at ha ⊢
  have hA := heap_alloc_new w (.cells #[.slice ao len cap, .int .i64 (n : Int)] 25)
  have HW1 : Hid (Wtr ((w.heap.size, Obj.cells #[.slice ao len cap, .int .i64 (n : Int)] 25) :: K) w0 (w.alloc (.cells #[.slice ao len cap, .int .i64 (n : Int)] 25)) B (us ++ bs.take (8 * 0))) := by
    have := hW.new (.cells #[.slice ao len cap, .int .i64 (n : Int)] 25)
    rw [Nat.mul_zero, List.take_zero, List.append_nil]; exact this
  have HA := Lib.hid (two_cells hA)
  have HX := Lib.hid hx
  have HE := Lib.hid hE
  have H := Lib.hid (And.intro hn (And.intro hl hm))
  have hn16 : n ≤ 16384 := by omega
  have hlen : len ≤ 2048 := by omega
  clear hW hx hE hn hl hm hA hb
  go_enter Tryd.func49, Tryd.ntmps49
  go_wp2_with fail
  go_loopw [12] (fun iv wr => ∃ k : Nat, k ≤ len ∧ iv = .int .i64 (k : Int) ∧ Hid (Wtr ((w.heap.size, Obj.cells #[.slice ao len cap, .int .i64 (n : Int)] 25) :: K) w0 wr B (us ++ bs.take (8 * k))) ∧ Hid (m + min (8 * k) n ≤ 16384)) (fun iv _ => len - (intOf iv).toNat)
  case atStart => exact ⟨0, Nat.zero_le _, rfl, HW1, by show _ ≤ _; omega⟩
  case round =>
    obtain ⟨k, hk, rfl, HR, HZ⟩ := hrel
    by_cases hlt : k < len
    · obtain ⟨r, wd, s, v, hr, hr1, hmn, hs, hs7, hw1, hw8, hdv, hnv, hv, hkw, hnb, h8⟩ := join_round bs k len H.out.2.1 hlt
      have HV := Lib.hid (And.intro trivial (And.intro hv (take_next us bs k wd v hnb h8 hw8)))
      have HN : Hid (8 * k + wd ≤ n ∧ min (8 * (k + 1)) n = 8 * k + wd ∧ (us ++ bs.take (8 * k)).length = m + 8 * k) := by
        have := H.out
        refine ⟨by omega, by omega, ?_⟩
        rw [List.length_append, List.length_take]; omega
      have e1 : (n : Int) - 8 * (k : Int) = (r : Int) := by have := H.out; omega
      have hwk : IntKind.i64.wrap (8 * (k : Int)) = 8 * (k : Int) := IntWalk.i64_in _ (by omega)
      have hr64 : r ≤ 16384 := by have := H.out; omega
      obtain ⟨y, hy⟩ : ∃ y, byteAt bs k = y := ⟨_, rfl⟩
      have hyr := byteAt_range bs k
      rw [hy] at hyr hdv
      have hy0 := hyr.1
      have hy1 := hyr.2
      have hget : (pk bs)[k]? = some y := by rw [← hy]; exact pk_get (by have := H.out; omega)
      obtain ⟨b, off, rfl, hc⟩ := HX.out.2.resolve_left (by intro e; rw [e] at hget; simp at hget)
      have hcy : wr.cell? ⟨b, off + k, none⟩ = some (.int .i64 y) := HR.out.g.cell (hc _ _ hget) (by simp)
      have q1 := (two_cells (HR.out.kept (List.mem_cons_self ..))).2
      clear hr hnv hkw hnb h8 hy hyr hget hc hwk
      by_cases h8r : 8 ≤ r
      · have h8i : (8 : Int) ≤ (r : Int) := by omega
        obtain rfl : wd = 8 := by omega
        obtain rfl : s = 0 := by omega
        obtain rfl : y = (v : Int) := by simpa using hdv
        clear hdv hv hmn hs
        go_wp2_with fail
        by_cases hroom : m + (8 * k + 8) ≤ 16384
        · refine (put_good v 8 w0 _ B _ HR.out (by omega) HV.out.2.1 (by have := HN.out.2.2; omega)).mono ?_
          rintro e w2 ⟨rfl, hW2⟩
          rw [HV.out.2.2] at hW2
          have HR2 := Lib.hid hW2
          have HZ2 : Hid (m + min (8 * (k + 1)) n ≤ 16384) := by show _ ≤ _; have := HN.out; omega
          clear hW2
          go_wp2
          go_roundw
          case rel => exact ⟨k + 1, by omega, by go_num, HR2, HZ2⟩
          case measure => simp [intOf]; omega
        · refine (put_room v 8 w0 _ B _ HR.out (HE.out.grown HR.out.g) (by omega) HV.out.2.1 (by have := HN.out; have := HZ.out; omega) (by have := HN.out; omega)).mono ?_
          rintro e w2 ⟨⟨t, u, rfl⟩, rfl⟩
          have HF : Hid (16384 < m + n) := by show _ < _; have := HN.out; omega
          go_wp2
          go_ret
          exact Or.inr ⟨HF.out, ⟨t, u, rfl⟩, HR.out.g⟩
      · have h8i : ¬ (8 : Int) ≤ (r : Int) := by omega
        obtain rfl : wd = r := by omega
        have HDV := Lib.hid hdv
        clear hdv hv hmn
        go_wp2_with fail
        first | rw [HDV.out] | (trace_state; fail)
        by_cases hroom : m + (8 * k + wd) ≤ 16384
        · refine (put_good v wd w0 _ B _ HR.out (by omega) HV.out.2.1 (by have := HN.out.2.2; omega)).mono ?_
          rintro e w2 ⟨rfl, hW2⟩
          rw [HV.out.2.2] at hW2
          have HR2 := Lib.hid hW2
          have HZ2 : Hid (m + min (8 * (k + 1)) n ≤ 16384) := by show _ ≤ _; have := HN.out; omega
          clear hW2
          go_wp2
          go_roundw
          case rel => exact ⟨k + 1, by omega, by go_num, HR2, HZ2⟩
          case measure => simp [intOf]; omega
        · refine (put_room v wd w0 _ B _ HR.out (HE.out.grown HR.out.g) (by omega) HV.out.2.1 (by have := HN.out; have := HZ.out; omega) (by have := HN.out; omega)).mono ?_
          rintro e w2 ⟨⟨t, u, rfl⟩, rfl⟩
          have HF : Hid (16384 < m + n) := by show _ < _; have := HN.out; omega
          go_wp2
          go_ret
          exact Or.inr ⟨HF.out, ⟨t, u, rfl⟩, HR.out.g⟩
    · obtain rfl : k = len := by omega
      have hd : ¬ ((k : Int) < (k : Int)) := by omega
      have HF : Hid (m + n ≤ 16384 ∧ Wtr K w0 wr B (us ++ bs)) := by
        have h := H.out
        have := HZ.out
        refine ⟨by omega, ?_⟩
        have hr := HR.out.less (K' := K) (fun p hp => List.mem_cons_of_mem _ hp)
        rwa [List.take_of_length_le (by omega)] at hr
      go_wp2
      go_ret
      exact Or.inl ⟨HF.out.1, rfl, HF.out.2⟩


set_option maxRecDepth 100000 in
set_option maxHeartbeats 2000000 in
theorem clo_join (ao : Option Addr) (len cap n B P0 : Nat) (w : World) (h0 : w.heap[P0]? = some (.cells #[.slice ao len cap, .int .i64 (n : Int)] 25 (0, 0))) (Q : Ending → World → Prop)
    (hc : Calls Tryd.prog 49 #[.pointer (some ⟨B, 0, none⟩), .agg #[.slice ao len cap, .int .i64 (n : Int)]] w fun e w' => (e = .returned .nilIface ∨ ∃ t v, e = .returned (.iface t v)) ∧ Q e w') :
    Calls Tryd.prog 48 #[.pointer (some ⟨B, 0, none⟩), .pointer (some ⟨P0, 0, none⟩)] w Q := by
  have HC := Lib.hid hc
  have q0 := (two_cells h0).1
  have q1 := (two_cells h0).2
  clear hc h0
  go_enter Tryd.func48, Tryd.ntmps48
  go_wp2_with fail
  refine HC.out.mono ?_
  rintro e w' ⟨he, hq⟩
  have HQ := Lib.hid hq
  clear hq q0 q1
  rcases he with rfl | ⟨t, v, rfl⟩
  · go_wp2
    exact HQ.out
  · go_wp2
    exact HQ.out

set_option maxRecDepth 100000 in
set_option maxHeartbeats 2000000 in
theorem iJoin_inv (c d : Int) (ys : List Int) (ao bo : Option Addr) (len cap lb cb_ : Nat) (w : World) (hy : Ints w bo lb ys) (hlb : lb ≤ 4194304) (hv : VB ys d = false) :
    Calls Tryd.prog 21 #[.agg #[.slice ao len cap, .int .i64 c], .agg #[.slice bo lb cb_, .int .i64 d]] w (GaveNone w) := by
  have HMM := Lib.hid ((((Mem.start w).block (.cells #[.slice ao len cap, .int .i64 c] 25)).block (.cells #[.slice bo lb cb_, .int .i64 d] 25)).block (.cells #[.slice none 0 0, .int .i64 0] 25))
  have k := iValidBits ys bo lb cb_ d false (((w.alloc (.cells #[.slice ao len cap, .int .i64 c] 25)).alloc (.cells #[.slice bo lb cb_, .int .i64 d] 25)).alloc (.cells #[.slice none 0 0, .int .i64 0] 25)) (hy.grown HMM.out.g) hlb hv
  clear hy hv
  have p0 := (two_cells (HMM.out.get (b := w.heap.size + 1) (o := (.cells #[.slice bo lb cb_, .int .i64 d] 25)) (by simp))).1
  have p1 := (two_cells (HMM.out.get (b := w.heap.size + 1) (o := (.cells #[.slice bo lb cb_, .int .i64 d] 25)) (by simp))).2
  go_enter Tryd.func21, Tryd.ntmps21
  go_wp2_with fail
  refine k.mono ?_
  rintro e w3 ⟨rfl, hg3⟩
  clear p0 p1
  have HM1 := Lib.hid (HMM.out.grown hg3)
  have hA := HM1.out.get (b := w.heap.size + 2) (o := (.cells #[.slice none 0 0, .int .i64 0] 25)) (by simp)
  have r0 := (two_cells hA).1
  have r1 := (two_cells hA).2
  have f0 : w3.frozen? ⟨w.heap.size + 2, 0, none⟩ = false := frozen_of_row w3 (w.heap.size + 2) 0 _ _ hA
  have f1 : w3.frozen? ⟨w.heap.size + 2, 1, none⟩ = false := frozen_of_row w3 (w.heap.size + 2) 1 _ _ hA
  have R : Hid (w.grownBy ((w3.setCell ⟨w.heap.size + 2, 0, none⟩ (.slice none 0 0)).setCell ⟨w.heap.size + 2, 1, none⟩ (.int .i64 0)) none) := grown_set (grown_set HM1.out.g (by simp)) (by simp)
  have hz := block_lt hA
  clear hg3 hA HM1 k HMM
  go_wp2
  exact bodyPost_ret (v := .tuple #[.agg #[.slice none 0 0, .int .i64 0], .bool false]) (by simp [results, Tryd.results21, go_sem, r0, r1]) rfl ⟨rfl, R.out⟩

set_option maxRecDepth 100000 in
set_option maxHeartbeats 2000000 in
theorem iJoin_good (c d : Int) (bs : List Bool) (ys : List Int) (ao bo : Option Addr) (len cap lb cb_ : Nat) (w : World) (hy : Ints w bo lb ys) (hlb : lb ≤ 4194304) (hv : VB ys d = true)
    (HC : Hid (∀ (w1 : World), w.grownBy w1 none → (∀ w2, w1.grownBy w2 none → w2.heap[w.heap.size + 1]? = some (.cells #[.slice bo lb cb_, .int .i64 d] 25 (0, 0))) → Calls Tryd.prog 34 #[.agg #[.slice ao len cap, .int .i64 c], .func (.func 48) #[] #[.pointer (some ⟨w.heap.size + 1, 0, none⟩)]] w1 (GaveBits bs w1))) :
    Calls Tryd.prog 21 #[.agg #[.slice ao len cap, .int .i64 c], .agg #[.slice bo lb cb_, .int .i64 d]] w (GaveBits bs w) := by
  have HMM := Lib.hid ((((Mem.start w).block (.cells #[.slice ao len cap, .int .i64 c] 25)).block (.cells #[.slice bo lb cb_, .int .i64 d] 25)).block (.cells #[.slice none 0 0, .int .i64 0] 25))
  have k := iValidBits ys bo lb cb_ d true (((w.alloc (.cells #[.slice ao len cap, .int .i64 c] 25)).alloc (.cells #[.slice bo lb cb_, .int .i64 d] 25)).alloc (.cells #[.slice none 0 0, .int .i64 0] 25)) (hy.grown HMM.out.g) hlb hv
  clear hy hv
  have p0 := (two_cells (HMM.out.get (b := w.heap.size + 1) (o := (.cells #[.slice bo lb cb_, .int .i64 d] 25)) (by simp))).1
  have p1 := (two_cells (HMM.out.get (b := w.heap.size + 1) (o := (.cells #[.slice bo lb cb_, .int .i64 d] 25)) (by simp))).2
  go_enter Tryd.func21, Tryd.ntmps21
  go_wp2_with fail
  refine k.mono ?_
  rintro e w1 ⟨rfl, hg1⟩
  clear p0 p1
  have HM1 := Lib.hid (HMM.out.grown hg1)
  have b1 := HM1.out.get (b := w.heap.size + 1) (o := (.cells #[.slice bo lb cb_, .int .i64 d] 25)) (by simp)
  have HK := Lib.hid (HC.out _ HM1.out.g (fun w2 hg => grown_heap hg b1 (by simp)))
  have p0 := (two_cells (HM1.out.get (b := w.heap.size) (o := (.cells #[.slice ao len cap, .int .i64 c] 25)) (by simp))).1
  have p1 := (two_cells (HM1.out.get (b := w.heap.size) (o := (.cells #[.slice ao len cap, .int .i64 c] 25)) (by simp))).2
  clear hg1 k b1 HC HMM
  go_wp2_with fail
  refine HK.out.mono ?_
  rintro e w3 ⟨v3, rfl, ho3, hg3⟩
  obtain ⟨a3, c3, rfl, _⟩ := ho3.reads
  obtain ⟨m', hm'⟩ : ∃ m', bs.length = m' := ⟨_, rfl⟩
  obtain ⟨n', hn'⟩ : ∃ n', (m' + 7) / 8 = n' := ⟨_, rfl⟩
  rw [hm', hn'] at ho3
  have hA := grown_heap hg3 (HM1.out.get (b := w.heap.size + 2) (o := (.cells #[.slice none 0 0, .int .i64 0] 25)) (by simp)) (by simp)
  clear p0 p1
  have r0 := (two_cells hA).1
  have r1 := (two_cells hA).2
  have f0 : w3.frozen? ⟨w.heap.size + 2, 0, none⟩ = false := frozen_of_row w3 (w.heap.size + 2) 0 _ _ hA
  have f1 : w3.frozen? ⟨w.heap.size + 2, 1, none⟩ = false := frozen_of_row w3 (w.heap.size + 2) 1 _ _ hA
  have hlt := block_lt (HM1.out.get (b := w.heap.size + 2) (o := (.cells #[.slice none 0 0, .int .i64 0] 25)) (by simp))
  have R : Hid (Owns ((w3.setCell ⟨w.heap.size + 2, 0, none⟩ (.slice a3 n' c3)).setCell ⟨w.heap.size + 2, 1, none⟩ (.int .i64 (m' : Int))) w.heap.size (.slice a3 n' c3) n' (pk bs) ∧ w.grownBy ((w3.setCell ⟨w.heap.size + 2, 0, none⟩ (.slice a3 n' c3)).setCell ⟨w.heap.size + 2, 1, none⟩ (.int .i64 (m' : Int))) none ∧ w.heap.size + 3 ≤ w3.heap.size ∧ bs.length = m' ∧ (bs.length + 7) / 8 = n') := by
    have hne : (Value.slice a3 n' c3).ownBlock ≠ some (w.heap.size + 2) := fun e => by have := ho3.block _ e; omega
    have hsz := hg3.size
    exact ⟨((ho3.set _ _ hne).set _ _ hne).base_le (by omega), grown_set (grown_set (grown_trans HM1.out.g hg3) (by simp)) (by simp), by omega, hm', by rw [hm', hn']⟩
  have hz := R.out.2.2.1
  rw [hm', hn']
  clear ho3 hg3 hA hm' hn' HM1 HK hlt
  go_wp2
  refine bodyPost_ret (v := .tuple #[.agg #[.slice a3 n' c3, .int .i64 (m' : Int)], .bool true]) (by simp [results, Tryd.results21, go_sem, r0, r1]) rfl ⟨.slice a3 n' c3, ?_, ?_, R.out.2.1⟩
  · rw [R.out.2.2.2.1]
  · rw [R.out.2.2.2.2]; exact R.out.1

set_option maxRecDepth 100000 in
set_option maxHeartbeats 2000000 in
theorem iJoin_none (c d : Int) (ys : List Int) (ao bo : Option Addr) (len cap lb cb_ : Nat) (w : World) (hy : Ints w bo lb ys) (hlb : lb ≤ 4194304) (hv : VB ys d = true)
    (HC : Hid (∀ (w1 : World), w.grownBy w1 none → (∀ w2, w1.grownBy w2 none → w2.heap[w.heap.size + 1]? = some (.cells #[.slice bo lb cb_, .int .i64 d] 25 (0, 0))) → Calls Tryd.prog 34 #[.agg #[.slice ao len cap, .int .i64 c], .func (.func 48) #[] #[.pointer (some ⟨w.heap.size + 1, 0, none⟩)]] w1 (GaveNone w1))) :
    Calls Tryd.prog 21 #[.agg #[.slice ao len cap, .int .i64 c], .agg #[.slice bo lb cb_, .int .i64 d]] w (GaveNone w) := by
  have HMM := Lib.hid ((((Mem.start w).block (.cells #[.slice ao len cap, .int .i64 c] 25)).block (.cells #[.slice bo lb cb_, .int .i64 d] 25)).block (.cells #[.slice none 0 0, .int .i64 0] 25))
  have k := iValidBits ys bo lb cb_ d true (((w.alloc (.cells #[.slice ao len cap, .int .i64 c] 25)).alloc (.cells #[.slice bo lb cb_, .int .i64 d] 25)).alloc (.cells #[.slice none 0 0, .int .i64 0] 25)) (hy.grown HMM.out.g) hlb hv
  clear hy hv
  have p0 := (two_cells (HMM.out.get (b := w.heap.size + 1) (o := (.cells #[.slice bo lb cb_, .int .i64 d] 25)) (by simp))).1
  have p1 := (two_cells (HMM.out.get (b := w.heap.size + 1) (o := (.cells #[.slice bo lb cb_, .int .i64 d] 25)) (by simp))).2
  go_enter Tryd.func21, Tryd.ntmps21
  go_wp2_with fail
  refine k.mono ?_
  rintro e w1 ⟨rfl, hg1⟩
  clear p0 p1
  have HM1 := Lib.hid (HMM.out.grown hg1)
  have b1 := HM1.out.get (b := w.heap.size + 1) (o := (.cells #[.slice bo lb cb_, .int .i64 d] 25)) (by simp)
  have HK := Lib.hid (HC.out _ HM1.out.g (fun w2 hg => grown_heap hg b1 (by simp)))
  have p0 := (two_cells (HM1.out.get (b := w.heap.size) (o := (.cells #[.slice ao len cap, .int .i64 c] 25)) (by simp))).1
  have p1 := (two_cells (HM1.out.get (b := w.heap.size) (o := (.cells #[.slice ao len cap, .int .i64 c] 25)) (by simp))).2
  clear hg1 k b1 HC HMM
  go_wp2_with fail
  refine HK.out.mono ?_
  rintro e w3 ⟨rfl, hg3⟩
  have hA := grown_heap hg3 (HM1.out.get (b := w.heap.size + 2) (o := (.cells #[.slice none 0 0, .int .i64 0] 25)) (by simp)) (by simp)
  clear p0 p1
  have r0 := (two_cells hA).1
  have r1 := (two_cells hA).2
  have f0 : w3.frozen? ⟨w.heap.size + 2, 0, none⟩ = false := frozen_of_row w3 (w.heap.size + 2) 0 _ _ hA
  have f1 : w3.frozen? ⟨w.heap.size + 2, 1, none⟩ = false := frozen_of_row w3 (w.heap.size + 2) 1 _ _ hA
  have hlt := block_lt (HM1.out.get (b := w.heap.size + 2) (o := (.cells #[.slice none 0 0, .int .i64 0] 25)) (by simp))
  have R : Hid (w.grownBy ((w3.setCell ⟨w.heap.size + 2, 0, none⟩ (.slice none 0 0)).setCell ⟨w.heap.size + 2, 1, none⟩ (.int .i64 0)) none ∧ w.heap.size + 3 ≤ w3.heap.size) := by
    have hsz := hg3.size
    exact ⟨grown_set (grown_set (grown_trans HM1.out.g hg3) (by simp)) (by simp), by omega⟩
  have hz := R.out.2
  clear hg3 hA HM1 HK hlt
  go_wp2
  exact bodyPost_ret (v := .tuple #[.agg #[.slice none 0 0, .int .i64 0], .bool false]) (by simp [results, Tryd.results21, go_sem, r0, r1]) rfl ⟨rfl, R.out.1⟩

end Go.Proofs.YtcgcippniicaaaaDoor
