/-
  The walk of the law on the bits of bytes: it returns true and writes nothing that was there. For every code.
-/
import Derived.Test.YtcgcippniicaaaaDoorDrawCrc
import Derived.Test.YtcgcippniicaaaaDoorLawGet
import Derived.Test.YtcgcippniicaaaaDoorExBits
import Derived.Deep.RegionHeld3
namespace Go.Proofs.YtcgcippniicaaaaDoor
open Go.RowKit

theorem DrawBitsOf_any (ao : Option Addr) (len cap : Nat) (w : World) (hb : BytesAt w ao len) (hlc : len ≤ cap) (hmax : len ≤ 9223372036854775807) :
    Calls Tryd.prog 23 #[.slice ao len cap] w (Drew 17 w) := by
  have hc := newReader_any ao len cap w hb hlc hmax
  clear hb hlc hmax
  go_enter Tryd.func23, Tryd.ntmps23
  go_wp2_with fail
  refine hc.mono ?_
  rintro e w1 ⟨rfl, hR, hg⟩
  clear hc
  go_wp2_with fail
  refine (anyBytes_any _ 0 _ hR (by omega)).mono ?_
  rintro e w2 ⟨ao2, len2, cap2, xs2, rfl, k1, k2, k3, k4, k5, k6, k7⟩
  have HF : Hid (Drew 17 w (.returned (.slice ao2 len2 cap2)) w2) :=
    ⟨ao2, len2, cap2, xs2, rfl, k1, k2, k3, k4, (fun a e => ⟨Nat.le_trans hg.size (k5 a e).1, (k5 a e).2⟩), grown_new hg k7 (Nat.le_refl _)⟩
  clear hR hg k1 k2 k3 k4 k5 k6 k7
  go_wp2
  go_ret
  exact HF.out

theorem numV_byte (bs : List Bool) (k : Nat) : numV bs (8 * k) 8 = byteAt bs k := by
  simp only [numV, byteAt, Nat.add_zero]
  omega

set_option maxRecDepth 100000 in
set_option maxHeartbeats 4000000 in
theorem FnBitsOf_walk (ao : Option Addr) (len cap : Nat) (w : World) (hb : BytesAt w ao len) (hlc : len ≤ cap) (hmax : len ≤ 9223372036854775807) (hE : ErrsG w) :
    Calls Tryd.prog 7 #[.slice ao len cap] w (Holds w) := by
  have hc := DrawBitsOf_any ao len cap w hb hlc hmax
  clear hb hlc hmax
  by_cases hlen : 1048576 < len
  · clear hc hE
    go_enter Tryd.func7, Tryd.ntmps7
    go_wp2
    go_ret
    exact ⟨rfl, grown_refl _ _⟩
  have hlen' : len ≤ 1048576 := by omega
  have HE0 := Lib.hid hE
  clear hlen hE
  go_enter Tryd.func7, Tryd.ntmps7
  go_wp2_with fail
  refine hc.mono ?_
  rintro e w1 ⟨a1, l1, c1, xs, rfl, hl1, hlc1, hn1, hx1, _, hg1⟩
  have HE := Lib.hid (HE0.out.grown hg1)
  obtain ⟨ys, hys⟩ : ∃ ys, BoL xs = ys := ⟨_, rfl⟩
  obtain ⟨n, hn⟩ : ∃ n, ys.length = n := ⟨_, rfl⟩
  have hn' : n ≤ 2048 := by rw [← hn, ← hys]; exact BoL_len xs
  have HD : Hid (0 < n → ys = xs ∧ n = l1 ∧ ∃ bs : List Bool, xs = pk bs ∧ 8 * (n : Int) = (bs.length : Int) ∧ bs.length ≤ 16384) := by
    intro hp
    cases hv : valB xs with
    | false => exfalso; rw [← hn, ← hys] at hp; unfold BoL at hp; rw [hv] at hp; simp at hp
    | true =>
      have e : ys = xs := by rw [← hys]; unfold BoL; rw [hv]; rfl
      have e2 : n = l1 := by rw [← hn, e]; exact hx1.1
      have hal : allB xs 0 255 = true := by unfold valB at hv; rw [Bool.and_eq_true] at hv; exact hv.2
      have hVB : VB xs (8 * (n : Int)) = true := by
        rw [VB_in (inB_true (by omega) (by omega)) (by rw [hx1.1]; omega) hal]
        exact tail_zero (by omega)
      obtain ⟨bs, h1, h2, h3⟩ := VB_pk hVB
      exact ⟨e, e2, bs, h1, h2, h3⟩
  have HYS := Lib.hid hys
  have HN := Lib.hid hn
  have HX1 := Lib.hid hx1
  have HN1 := Lib.hid hn1
  have HG1 := Lib.hid hg1
  clear hc hys hn hx1 hn1 hg1
  go_wp2_with fail
  refine (iBitsOf_any xs ys n a1 l1 c1 _ HX1.out HN1.out (by omega) HYS.out HN.out).mono ?_
  rintro e w2 ⟨v2, rfl, ho2, hg2⟩
  obtain ⟨a2, c2, rfl, _, hn2, hx2, _⟩ := ho2.reads
  have W0 : Hid ((w2.alloc (.cells #[.slice a2 n c2, .int .i64 (8 * (n : Int))] 25)).heap[w2.heap.size]? = some (.cells #[.slice a2 n c2, .int .i64 (8 * (n : Int))] 25) ∧ w1.grownBy (w2.alloc (.cells #[.slice a2 n c2, .int .i64 (8 * (n : Int))] 25)) none ∧ Ints (w2.alloc (.cells #[.slice a2 n c2, .int .i64 (8 * (n : Int))] 25)) a2 n ys) :=
    ⟨heap_alloc_new w2 _, grown_trans hg2 (grown_alloc _ _ _), hx2.grown (grown_alloc _ _ _)⟩
  clear ho2 hg2 hx2 hn2
  go_wp2_with fail
  generalize w2.alloc (.cells #[.slice a2 n c2, .int .i64 (8 * (n : Int))] 25) = W at *
  have HX2 := Lib.hid W0.out.2.2
  obtain ⟨q2, q3⟩ := two_cells W0.out.1
  have Q2 := Lib.hid q2
  have Q3 := Lib.hid q3
  have HGW : Hid (w1.grownBy W none ∧ W.grownBy W none) := ⟨W0.out.2.1, grown_refl _ _⟩
  clear W0
  by_cases h0 : n = 0
  · have hd : (8 * (n : Int) == 0) = true := by simp [h0]
    clear h0
    go_region_held3 (fun w' => w'.cell? ⟨w2.heap.size, 0, none⟩ = some (.slice a2 n c2) ∧ w'.cell? ⟨w2.heap.size, 1, none⟩ = some (.int .i64 (8 * (n : Int)))) (first | go_keep | exact ⟨by assumption, by assumption⟩) ((first
      | (go_at_call 25; refine (sBitsOf_any xs ys n a1 l1 c1 _ ((HX1.out.grown HGW.out.1).grown (grown_drew _ _)) HN1.out (by omega) HYS.out HN.out).mono ?_; rintro e w3 ⟨vw3, rfl, how3, hgw3⟩; obtain ⟨aw3, cw3, rfl, _, _, hxw3, _⟩ := how3.reads; have HXw3 := Lib.hid hxw3; have p2 := hgw3.cell q2 (by simp); have p3 := hgw3.cell q3 (by simp); have HGw3 := Lib.hid (And.intro (grown_trans (grown_trans HGW.out.1 (grown_drew _ _)) hgw3) (grown_trans (grown_trans HGW.out.2 (grown_drew _ _)) hgw3)); clear how3 hgw3 hxw3)
      | (go_at_call 16; refine (equalBits_same ys a2 aw3 n c2 cw3 (8 * (n : Int)) _ (HX2.out.grown HGw3.out.2) HXw3.out (by omega)).mono ?_; rintro e w4 ⟨rfl, hgw4⟩; have p6 := hgw4.cell p2 (by simp); have p7 := hgw4.cell p3 (by simp); have HGw4 := Lib.hid (And.intro (grown_trans HGw3.out.1 hgw4) (grown_trans HGw3.out.2 hgw4)); clear hgw4)))
    clear q2 q3
    have q2 := p6
    have q3 := p7
    clear p2 p3 p6 p7
    go_wp2_with fail
    go_region_held3 (fun w' => w'.cell? ⟨w2.heap.size, 0, none⟩ = some (.slice a2 n c2) ∧ w'.cell? ⟨w2.heap.size, 1, none⟩ = some (.int .i64 (8 * (n : Int)))) (first | go_keep | exact ⟨by assumption, by assumption⟩) ((first
      | (go_at_call 25; refine (sBitsOf_any xs ys n a1 l1 c1 _ ((HX1.out.grown HGw4.out.1).grown (grown_drew _ _)) HN1.out (by omega) HYS.out HN.out).mono ?_; rintro e w5 ⟨vw5, rfl, how5, hgw5⟩; obtain ⟨aw5, cw5, rfl, _, _, hxw5, _⟩ := how5.reads; have HXw5 := Lib.hid hxw5; have p2 := hgw5.cell q2 (by simp); have p3 := hgw5.cell q3 (by simp); have HGw5 := Lib.hid (And.intro (grown_trans (grown_trans HGw4.out.1 (grown_drew _ _)) hgw5) (grown_trans (grown_trans HGw4.out.2 (grown_drew _ _)) hgw5)); clear how5 hgw5 hxw5)
      | (go_at_call 16; refine (equalBits_same ys a2 aw5 n c2 cw5 (8 * (n : Int)) _ (HX2.out.grown HGw5.out.2) HXw5.out (by omega)).mono ?_; rintro e w6 ⟨rfl, hgw6⟩; have p6 := hgw6.cell p2 (by simp); have p7 := hgw6.cell p3 (by simp); have HGw6 := Lib.hid (And.intro (grown_trans HGw5.out.1 hgw6) (grown_trans HGw5.out.2 hgw6)); clear hgw6)))
    clear p2 p3 p6 p7 q2 q3
    go_wp2
    go_ret
    exact ⟨rfl, grown_trans HG1.out (by first | exact HGw6.out.1 | exact grown_trans HGw6.out.1 (grown_drew _ _))⟩
  · have hd : (8 * (n : Int) == 0) = false := by simp; omega
    obtain ⟨e1, e2, bs, e3, e4, e5⟩ := HD.out (by omega)
    have HB := Lib.hid (And.intro e1 (And.intro e2 (And.intro e3 (And.intro e4 e5))))
    have hnl : n ≤ 17 := by omega
    have hdl : (8 * (n : Int) == 8 * (l1 : Int)) = true := by simp; omega
    clear h0 e1 e2 e3 e4 e5 HD
    go_region_held3 (fun w' => w'.cell? ⟨w2.heap.size, 0, none⟩ = some (.slice a2 n c2) ∧ w'.cell? ⟨w2.heap.size, 1, none⟩ = some (.int .i64 (8 * (n : Int)))) (first | go_keep | exact ⟨by assumption, by assumption⟩) ((first
      | (go_at_call 25; refine (sBitsOf_any xs ys n a1 l1 c1 _ ((HX1.out.grown HGW.out.1).grown (grown_drew _ _)) HN1.out (by omega) HYS.out HN.out).mono ?_; rintro e w3 ⟨vw3, rfl, how3, hgw3⟩; obtain ⟨aw3, cw3, rfl, _, _, hxw3, _⟩ := how3.reads; have HXw3 := Lib.hid hxw3; have p2 := hgw3.cell q2 (by simp); have p3 := hgw3.cell q3 (by simp); have HGw3 := Lib.hid (And.intro (grown_trans (grown_trans HGW.out.1 (grown_drew _ _)) hgw3) (grown_trans (grown_trans HGW.out.2 (grown_drew _ _)) hgw3)); clear how3 hgw3 hxw3)
      | (go_at_call 16; refine (equalBits_same ys a2 aw3 n c2 cw3 (8 * (n : Int)) _ (HX2.out.grown HGw3.out.2) HXw3.out (by omega)).mono ?_; rintro e w4 ⟨rfl, hgw4⟩; have p6 := hgw4.cell p2 (by simp); have p7 := hgw4.cell p3 (by simp); have HGw4 := Lib.hid (And.intro (grown_trans HGw3.out.1 hgw4) (grown_trans HGw3.out.2 hgw4)); clear hgw4)))
    clear q2 q3 p2 p3 p6 p7
    go_wp2
    go_loopw [5] (fun iv wr => ∃ k : Nat, k ≤ l1 ∧ iv = .int .i64 (k : Int) ∧ Hid (W.grownBy wr none)) (fun iv _ => l1 - (intOf iv).toNat)
    case atStart => exact ⟨0, Nat.zero_le _, rfl, by first | exact HGw4.out.2 | exact grown_trans HGw4.out.2 (grown_drew _ _)⟩
    case round =>
      obtain ⟨k, hk, rfl, HG⟩ := hrel
      by_cases hlt : k < l1
      · have hdd : decide ((k : Int) < (l1 : Int)) = true := by simp; omega
        obtain ⟨y, hy⟩ : ∃ y, byteAt bs k = y := ⟨_, rfl⟩
        have hget : xs[k]? = some y := by
          rw [HB.out.2.2.1, ← hy]; exact pk_get (by have := HB.out.2.2.2.1; have := HB.out.2.1; omega)
        have HNV : Hid (numV bs (8 * k) 8 = y) := by show _ = _; rw [numV_byte]; exact hy
        obtain ⟨b, off, hab, hcc⟩ := HX1.out.2.resolve_left (by intro e; rw [e] at hget; simp at hget)
        have HC := Lib.hid (hcc _ _ hget)
        clear hy hget hcc
        subst hab
        have q2 := HG.out.cell Q2.out (by simp)
        have q3 := HG.out.cell Q3.out (by simp)
        go_wp2_with fail
        refine (iGet_eq bs ys (8 * (n : Int)) _ _ (8 * k) 8 a2 n c2 _ (HX2.out.grown HG.out) (by rw [HB.out.1]; exact HB.out.2.2.1) HB.out.2.2.2.1 (by omega) (by omega) HB.out.2.2.2.2 (by omega) (by have := HB.out.2.2.2.1; have := HB.out.2.1; omega) (HE.out.grown (grown_trans HGW.out.1 HG.out))).mono ?_
        rintro e w5 ⟨rfl, hg5⟩
        rw [HNV.out]
        have HG5 := Lib.hid (grown_trans HG.out hg5)
        have hcy := (grown_trans HGW.out.1 HG5.out).cell HC.out (by simp)
        clear q2 q3 hg5
        go_wp2
        go_roundw
        case rel => exact ⟨k + 1, by omega, by go_num, HG5⟩
        case measure => simp [intOf]; omega
      · obtain rfl : k = l1 := by omega
        have hdd : decide ((k : Int) < (k : Int)) = false := by simp
        have q2 := HG.out.cell Q2.out (by simp)
        have q3 := HG.out.cell Q3.out (by simp)
        go_wp2
        go_ret
        exact ⟨rfl, grown_trans HG1.out (grown_trans HGW.out.1 HG.out)⟩

end Go.Proofs.YtcgcippniicaaaaDoor
