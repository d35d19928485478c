/-
  BestParameter of the program: the closure over the list, the search of the cheapest choice.
-/
import Derived.Test.YthgppflplcoemaaPar3
import Derived.Laws.EntriesVeiled
namespace Go.Proofs.Ythgppflplcoemaa
open Go.RowKit

set_option maxHeartbeats 400000 in
theorem iBPcl_good (xs : List Int) (k n : Nat) (z : Int) (B : Nat) (ao : Option Addr) (cap : Nat) (w : World) (hx : Ints w ao n xs) (hv : vR xs = true) (hk : k ≤ 15) (h0 : 0 ≤ z) (hz : pc xs k = z) (hB : w.cell? ⟨B, 0, none⟩ = some (.slice ao n cap)) :
    Calls Try.prog 16 #[.int .i64 (k : Int), .pointer (some ⟨B, 0, none⟩)] w fun e w' => e = .returned (.tuple #[.int .i64 z, .bool true]) ∧ w = w' := by
  have hn : n ≤ 64 := by have := vR_len hv; have := hx.1; omega
  have K : Calls Try.prog 17 #[.slice ao n cap, .int .i64 (k : Int)] w fun e w' => e = .returned (.tuple #[.int .i64 z, .bool true]) ∧ w = w' := by
    by_cases h15 : k = 15
    · subst h15; exact iPB_esc xs n z ao cap w hx hv hz
    · cases hr : vrL k xs with
      | true => exact iPB_good xs k n z ao cap w hx hn (by omega) hr (by rw [← hz, pc_good h15 hr])
      | false => rw [pc_bad h15 hr] at hz; omega
  clear hx hv hz h0
  go_enter Try.func16, Try.ntmps16
  go_wp2_with fail
  refine K.mono ?_
  rintro e w' ⟨rfl, rfl⟩
  clear K
  go_wp2
  go_ret2
  exact ⟨rfl, rfl⟩
set_option maxHeartbeats 400000 in
theorem iBPcl_bad (xs : List Int) (k n : Nat) (B : Nat) (ao : Option Addr) (cap : Nat) (w : World) (hx : Ints w ao n xs) (hv : vR xs = true) (hk : k ≤ 15) (h0 : pc xs k < 0) (hB : w.cell? ⟨B, 0, none⟩ = some (.slice ao n cap)) :
    Calls Try.prog 16 #[.int .i64 (k : Int), .pointer (some ⟨B, 0, none⟩)] w fun e w' => e = .returned (.tuple #[.int .i64 0, .bool false]) ∧ w = w' := by
  have hn : n ≤ 64 := by have := vR_len hv; have := hx.1; omega
  have K : Calls Try.prog 17 #[.slice ao n cap, .int .i64 (k : Int)] w fun e w' => e = .returned (.tuple #[.int .i64 0, .bool false]) ∧ w = w' := by
    by_cases h15 : k = 15
    · subst h15; have := pc15 hv; omega
    · cases hr : vrL k xs with
      | true => rw [pc_good h15 hr] at h0; have := rlS_pos k xs hr; omega
      | false => exact iPB_bad xs k n ao cap w hx hn (by omega) hr
  clear hx hv h0
  go_enter Try.func16, Try.ntmps16
  go_wp2_with fail
  refine K.mono ?_
  rintro e w' ⟨rfl, rfl⟩
  clear K
  go_wp2
  go_ret2
  exact ⟨rfl, rfl⟩

set_option maxRecDepth 100000 in
set_option maxHeartbeats 2000000 in
theorem iCheapP_any (c : Nat → Int) (B b : Nat) (w : World) (hb : Bst c 16 b)
    (KG : Hid (∀ (k : Nat) (z : Int), k ≤ 15 → 0 ≤ z → c k = z → Calls Try.prog 16 #[.int .i64 (k : Int), .pointer (some ⟨B, 0, none⟩)] w fun e w' => e = .returned (.tuple #[.int .i64 z, .bool true]) ∧ w = w'))
    (KB : Hid (∀ (k : Nat), k ≤ 15 → c k < 0 → Calls Try.prog 16 #[.int .i64 (k : Int), .pointer (some ⟨B, 0, none⟩)] w fun e w' => e = .returned (.tuple #[.int .i64 0, .bool false]) ∧ w = w')) :
    Calls Try.prog 15 #[.int .i64 16, .func (.func 16) #[] #[.pointer (some ⟨B, 0, none⟩)]] w fun e w' => e = .returned (.tuple #[.int .i64 (b : Int), .int .i64 (c b)]) ∧ w = w' := by
  have HB := Lib.hid hb
  clear hb
  go_enter Try.func15, Try.ntmps15
  go_wp2
  go_loop [6, 7, 12] (fun bv lv iv => ∃ (k : Nat) (u l : Int), k ≤ 16 ∧ iv = .int .i64 k ∧ bv = .int .i64 u ∧ lv = .int .i64 l ∧ Hid ((Non c k ∧ u = -1 ∧ l = -1) ∨ ∃ q : Nat, u = (q : Int) ∧ l = c q ∧ Bst c k q)) (fun _ _ iv => 16 - (intOf iv).toNat)
  case atStart => exact ⟨0, -1, -1, by omega, rfl, rfl, rfl, Or.inl ⟨fun q hq => by omega, rfl, rfl⟩⟩
  case round =>
    obtain ⟨k, u, l, hk, rfl, rfl, rfl, HS⟩ := hrel
    by_cases hlt : k < 16
    · obtain ⟨z, hz⟩ : ∃ z, c k = z := ⟨_, rfl⟩
      by_cases h0 : 0 ≤ z
      · have K1 := Lib.hid (KG.out k z (by omega) h0 hz)
        rcases HS.out with ⟨hN, hu, hl⟩ | ⟨q, hu, hl, hQ⟩
        · have HN : Hid ((Non c (k + 1) ∧ (k : Int) = -1 ∧ z = -1) ∨ ∃ q : Nat, (k : Int) = (q : Int) ∧ z = c q ∧ Bst c (k + 1) q) := Or.inr ⟨k, rfl, hz.symm, bst_first hN (by omega)⟩
          subst hu hl
          clear HS hN hz
          go_wp2_with fail
          refine K1.out.mono ?_
          rintro e w' ⟨rfl, rfl⟩
          clear K1
          go_wp2
          go_round
          case rel => exact ⟨k + 1, k, z, by omega, by go_num, rfl, rfl, HN⟩
          case measure => simp [intOf]; omega
        · have hu0 : decide (u < 0) = false := by simp; omega
          have hu1 : 0 ≤ u := by omega
          by_cases hlz : z < l
          · have hd : decide (z < l) = true := by simpa using hlz
            have HN : Hid ((Non c (k + 1) ∧ (k : Int) = -1 ∧ z = -1) ∨ ∃ q : Nat, (k : Int) = (q : Int) ∧ z = c q ∧ Bst c (k + 1) q) := Or.inr ⟨k, rfl, hz.symm, bst_new hQ (by omega) (by omega)⟩
            clear HS hQ hz hu hl
            go_wp2_with fail
            refine K1.out.mono ?_
            rintro e w' ⟨rfl, rfl⟩
            clear K1
            go_wp2
            go_round
            case rel => exact ⟨k + 1, k, z, by omega, by go_num, rfl, rfl, HN⟩
            case measure => simp [intOf]; omega
          · have hd : decide (z < l) = false := by simpa using hlz
            have HN : Hid ((Non c (k + 1) ∧ u = -1 ∧ l = -1) ∨ ∃ q : Nat, u = (q : Int) ∧ l = c q ∧ Bst c (k + 1) q) := Or.inr ⟨q, hu, hl, bst_old hQ (Or.inr (by omega))⟩
            clear HS hQ hz hu hl
            go_wp2_with fail
            refine K1.out.mono ?_
            rintro e w' ⟨rfl, rfl⟩
            clear K1
            go_wp2
            go_round
            case rel => exact ⟨k + 1, u, l, by omega, by go_num, rfl, rfl, HN⟩
            case measure => simp [intOf]; omega
      · have K1 := Lib.hid (KB.out k (by omega) (by omega))
        have HN : Hid ((Non c (k + 1) ∧ u = -1 ∧ l = -1) ∨ ∃ q : Nat, u = (q : Int) ∧ l = c q ∧ Bst c (k + 1) q) := by
          rcases HS.out with ⟨hN, hu, hl⟩ | ⟨q, hu, hl, hQ⟩
          · exact Or.inl ⟨non_more hN (by omega), hu, hl⟩
          · exact Or.inr ⟨q, hu, hl, bst_old hQ (Or.inl (by omega))⟩
        clear HS hz
        go_wp2_with fail
        refine K1.out.mono ?_
        rintro e w' ⟨rfl, rfl⟩
        clear K1
        go_wp2
        go_round
        case rel => exact ⟨k + 1, u, l, by omega, by go_num, rfl, rfl, HN⟩
        case measure => simp [intOf]; omega
    · obtain rfl : k = 16 := by omega
      have HF : Hid (u = (b : Int) ∧ l = c b) := by
        rcases HS.out with ⟨hN, _, _⟩ | ⟨q, hu, hl, hQ⟩
        · have := hN b HB.out.1; have := HB.out.2.1; omega
        · have e := bst_uniq hQ HB.out; subst e; exact ⟨hu, hl⟩
      clear HS HB
      go_wp2
      go_ret2
      exact ⟨by rw [HF.out.1, HF.out.2]; rfl, rfl⟩

set_option maxHeartbeats 1000000 in
theorem iBP_any (xs : List Int) (ao : Option Addr) (len cap : Nat) (k l : Int) (w : World) (hx : Ints w ao len xs) (hmax : len ≤ 4611686018427387904) (h : BpR xs k l) :
    Calls Try.prog 7 #[.slice ao len cap] w fun e w' => e = .returned (.tuple #[.int .i64 k, .int .i64 l]) ∧ w.grownBy w' none := by
  have hg := grown_alloc w (.cells #[.slice ao len cap] 23) none
  have hc : (w.alloc (.cells #[.slice ao len cap] 23)).cell? ⟨w.heap.size, 0, none⟩ = some (.slice ao len cap) := by rw [cell_of_row _ _ 0 _ _ _ (heap_alloc_new w (.cells #[.slice ao len cap] 23))]; rfl
  have hx2 := hx.grown hg
  rcases h with ⟨hv, rfl, rfl⟩ | ⟨hv, b, rfl, hb, rfl⟩
  · have K := Lib.hid (iVR_any xs ao len cap _ false hx2 hmax hv)
    have HG := Lib.hid hg
    clear hx hx2 hv hg hc
    go_enter Try.func7, Try.ntmps7
    go_wp2_with fail
    refine K.out.mono ?_
    rintro e w' ⟨rfl, rfl⟩
    clear K
    go_wp2
    go_ret2
    exact ⟨rfl, HG.out⟩
  · have K := Lib.hid (iVR_any xs ao len cap _ true hx2 hmax hv)
    have HG := Lib.hid hg
    have KC := Lib.hid (iCheapP_any (pc xs) w.heap.size b _ hb (Lib.hid fun k z h1 h2 h3 => iBPcl_good xs k len z w.heap.size ao cap _ hx2 hv h1 h2 h3 hc) (Lib.hid fun k h1 h2 => iBPcl_bad xs k len w.heap.size ao cap _ hx2 hv h1 h2 hc))
    obtain ⟨z, hz⟩ : ∃ z, pc xs b = z := ⟨_, rfl⟩
    rw [hz] at KC ⊢
    clear hx hx2 hv hg hc hb hz
    go_enter Try.func7, Try.ntmps7
    go_wp2_with fail
    refine K.out.mono ?_
    rintro e w' ⟨rfl, rfl⟩
    clear K
    go_wp2_with fail
    refine KC.out.mono ?_
    rintro e w' ⟨rfl, rfl⟩
    clear KC
    go_wp2
    go_ret2
    exact ⟨rfl, HG.out⟩

end Go.Proofs.Ythgppflplcoemaa
