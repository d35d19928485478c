/-
  Parts of all channels: the specification's text. For all channels that can be read and are long enough.
-/
import Derived.Test.YtncbgofcimghnaaMatAp
import Derived.Test.YtncbgofcimghnaaLoM
namespace Go.Proofs.Ytncbgofcimghnaa
open Go.RowKit

/-- The samples from one index on before another one. -/
def cutR (f t : Nat) (xs : List Int) : List Int := (xs.drop f).take (t - f)
theorem cutR_all {xs : List Int} {n : Nat} (h : xs.length = n) : cutR 0 n xs = xs := by unfold cutR; rw [List.drop_zero, List.take_of_length_le (by omega)]
theorem cutR_len {f t : Nat} {xs : List Int} (h : t ≤ xs.length) (hf : f ≤ t) : (cutR f t xs).length = t - f := by unfold cutR; simp; omega

/-- A part of a row can be read. -/
theorem ints_cut {w : World} {ao : Option Addr} {n f t : Nat} {xs : List Int} (h : Ints w ao n xs) (_hf : f ≤ t) (ht : t ≤ n) (hlt : f < t) :
    ∃ b off, ao = some ⟨b, off, none⟩ ∧ Ints w (some ⟨b, off + f, none⟩) (t - f) (cutR f t xs) := by
  rcases h.2 with h0 | ⟨b, off, e, _⟩
  · have := h.1; subst h0; simp at this; omega
  · subst e
    exact ⟨b, off, rfl, ints_sub h f (t - f) (by omega)⟩

theorem MOwn.block {w : World} {base n : Nat} {v : Value} {xss : List (List Int)} (h : MOwn w base v n xss) : ∀ g, v.ownBlock = some g → base ≤ g := by
  obtain ⟨_, vs, h1, _, _⟩ := h
  exact fun g hg => (World.ownsRow.lt h1 g hg).1
/-- New rows, one after the other. -/
structure MPre (w wr : World) (xss : List (List Int)) (k : Nat) (v : Value) : Prop where
  own : MOwn wr w.heap.size v k (xss.take k)
  gr : w.grownBy wr none

set_option maxHeartbeats 4000000 in
theorem sSlice_pos (xss : List (List Int)) (ao : Option Addr) (len cap f t : Nat) (w : World) (hx : Mat w ao len xss) (hlen : len ≤ 1000) (hnz : 0 < t) (hft : f ≤ t) (ht : t ≤ 1000000) (hr : ∀ (k : Nat) (xs : List Int), xss[k]? = some xs → t ≤ xs.length) :
    Calls Try.prog 44 #[.slice ao len cap, .int .i64 (f : Int), .int .i64 (t : Int)] w (MadeM (xss.map (cutR f t)) len w) := by
  have HX := Lib.hid hx
  have HL := Lib.hid hx.1
  have HR := Lib.hid hr
  clear hx hr
  go_enter Try.func44, Try.ntmps44
  go_wp2
  have HP0 : Hid (MPre w (w.alloc (.cells #[] 39)) (xss.map (cutR f t)) 0 (.slice (some ⟨w.heap.size, 0, none⟩) 0 0)) := ⟨mown_empty w, grown_alloc _ _ _⟩
  go_loopw [7, 8] (fun vv iv wr => ∃ (k : Nat) (v : Value), v = vv ∧ iv = .int .i64 k ∧ k ≤ len ∧ Hid (MPre w wr (xss.map (cutR f t)) k v)) (fun _ iv _ => len - (intOf iv).toNat)
  case atStart => exact ⟨0, _, rfl, rfl, Nat.zero_le _, HP0⟩
  case round =>
    obtain ⟨k, v, rfl, rfl, hk, HP⟩ := hrel
    by_cases hlt : k < len
    · obtain ⟨xs, hxk⟩ : ∃ xs, xss[k]? = some xs := ⟨_, List.getElem?_eq_getElem (by rw [HL.out]; exact hlt)⟩
      obtain ⟨b, off, rfl, hc⟩ := HX.out.2.resolve_left (by intro e; subst e; simp at hxk)
      obtain ⟨ux, hux, a, c, rfl, hin, hlc, hcm, hnil⟩ := hc k xs hxk
      have hcx : wr.cell? ⟨b, off + k, none⟩ = some (.slice a xs.length c) := HP.out.gr.cell hux (by simp)
      have hI := hin.grown HP.out.gr
      have htl := HR.out k xs hxk
      have HY : Hid ((xss.map (cutR f t)).take (k + 1) = (xss.map (cutR f t)).take k ++ [cutR f t xs]) := by
        show _ = _
        rw [List.take_add_one, List.getElem?_map, hxk]; rfl
      by_cases h2 : f < t
      · obtain ⟨b2, off2, rfl, hI2⟩ := ints_cut hI hft htl h2
        have hcall := copyInts_any (cutR f t xs) _ (t - f) (c - f) wr hI2 (fun e => nomatch e) (by omega)
        have hfc : f < c := by omega
        have htc : t ≤ c := by omega
        generalize hnx : xs.length = nx at *
        clear hc hux hin hlc hnil hI hI2 htl hnx hxk
        have hsub : ((t : Int) - (f : Int)) = ((t - f : Nat) : Int) := by omega
        go_wp2_with fail
        refine hcall.mono ?_
        rintro e w1 ⟨u1, rfl, ho1, hg1⟩
        obtain ⟨a1, c1, rfl, _⟩ := ho1.reads
        have HO1 := Lib.hid ho1
        have HG1 := Lib.hid hg1
        have hcu : (w1.alloc (.cells #[.slice a1 (t - f) c1] 39)).cell? ⟨w1.heap.size, 0, none⟩ = some (.slice a1 (t - f) c1) := by rw [cell_of_row _ w1.heap.size 0 _ _ _ (heap_alloc_new w1 _)]; rfl
        have HU := Lib.hid hcu
        have hrow : Hid (Owns w1 wr.heap.size (.slice a1 (t - f) c1) (cutR f t xs).length (cutR f t xs)) := by show Owns _ _ _ _ _; rw [HO1.out.len_eq]; exact HO1.out
        clear hcall ho1 hg1 hcu
        go_wp2_with (at_builtin; refine append_row rfl _ _ rfl w.heap.size v k _ rfl HP.out.own HG1.out (fun _ e => nomatch e) (.slice a1 (t - f) c1) _ hrow.out (grown_alloc _ _ _) ⟨w1.heap.size, 0, none⟩ 1 rfl HU.out (by omega) (HP.out.gr.size) ?_)
        intro v' w2 hown hgrow
        have HP2 : Hid (MPre w w2 (xss.map (cutR f t)) (k + 1) v') := by
          refine ⟨by rw [HY.out]; exact hown, grown_row (grown_trans (grown_trans HP.out.gr HG1.out) (grown_alloc _ _ _)) hgrow (HP.out.own.block)⟩
        clear hown hgrow
        go_wp2
        go_roundw
        case rel => exact ⟨k + 1, v', rfl, by go_num, by omega, HP2⟩
        case measure => simp [intOf]; omega
      · obtain rfl : f = t := by omega
        have hce : cutR f f xs = [] := by unfold cutR; simp
        generalize hnx : xs.length = nx at *
        have hfc : f ≤ c := by omega
        have hcall0 : ∀ (ao : Option Addr) (cp : Nat), (ao = none → cp = 0) → Calls Try.prog 50 #[.slice ao 0 cp] wr (Made (cutR f f xs) 0 wr) := fun ao cp hn => copyInts_any _ ao 0 cp wr (by rw [hce]; exact ⟨rfl, Or.inl rfl⟩) hn (by omega)
        clear hc hux hin hlc hI hnx hxk hce
        cases a with
        | none =>
          have := hnil rfl
          exact absurd hnz (by omega)
        | some x =>
          by_cases hcf : c = f
          · have hcf2 : (c : Int) = (f : Int) := by omega
            have hcall := hcall0 (some x) 0 (fun e => nomatch e)
            clear hcall0
            go_wp2_with fail
            refine hcall.mono ?_
            rintro e w1 ⟨u1, rfl, ho1, hg1⟩
            obtain ⟨a1, c1, rfl, _⟩ := ho1.reads
            have HO1 := Lib.hid ho1
            have HG1 := Lib.hid hg1
            have hcu : (w1.alloc (.cells #[.slice a1 0 c1] 39)).cell? ⟨w1.heap.size, 0, none⟩ = some (.slice a1 0 c1) := by rw [cell_of_row _ w1.heap.size 0 _ _ _ (heap_alloc_new w1 _)]; rfl
            have HU := Lib.hid hcu
            have hrow : Hid (Owns w1 wr.heap.size (.slice a1 0 c1) (cutR f f xs).length (cutR f f xs)) := by show Owns _ _ _ _ _; rw [HO1.out.len_eq]; exact HO1.out
            clear hcall ho1 hg1 hcu
            go_wp2_with (at_builtin; refine append_row rfl _ _ rfl w.heap.size v k _ rfl HP.out.own HG1.out (fun _ e => nomatch e) (.slice a1 0 c1) _ hrow.out (grown_alloc _ _ _) ⟨w1.heap.size, 0, none⟩ 1 rfl HU.out (by omega) (HP.out.gr.size) ?_)
            intro v' w2 hown hgrow
            have HP2 : Hid (MPre w w2 (xss.map (cutR f f)) (k + 1) v') := by
              refine ⟨by rw [HY.out]; exact hown, grown_row (grown_trans (grown_trans HP.out.gr HG1.out) (grown_alloc _ _ _)) hgrow (HP.out.own.block)⟩
            clear hown hgrow
            go_wp2
            go_roundw
            case rel => exact ⟨k + 1, v', rfl, by go_num, by omega, HP2⟩
            case measure => simp [intOf]; omega
          · have hcf2 : ¬ (c : Int) = (f : Int) := by omega
            have hcall := hcall0 (some (x.add f)) (c - f) (fun e => nomatch e)
            clear hcall0
            go_wp2_with fail
            refine hcall.mono ?_
            rintro e w1 ⟨u1, rfl, ho1, hg1⟩
            obtain ⟨a1, c1, rfl, _⟩ := ho1.reads
            have HO1 := Lib.hid ho1
            have HG1 := Lib.hid hg1
            have hcu : (w1.alloc (.cells #[.slice a1 0 c1] 39)).cell? ⟨w1.heap.size, 0, none⟩ = some (.slice a1 0 c1) := by rw [cell_of_row _ w1.heap.size 0 _ _ _ (heap_alloc_new w1 _)]; rfl
            have HU := Lib.hid hcu
            have hrow : Hid (Owns w1 wr.heap.size (.slice a1 0 c1) (cutR f f xs).length (cutR f f xs)) := by show Owns _ _ _ _ _; rw [HO1.out.len_eq]; exact HO1.out
            clear hcall ho1 hg1 hcu
            go_wp2_with (at_builtin; refine append_row rfl _ _ rfl w.heap.size v k _ rfl HP.out.own HG1.out (fun _ e => nomatch e) (.slice a1 0 c1) _ hrow.out (grown_alloc _ _ _) ⟨w1.heap.size, 0, none⟩ 1 rfl HU.out (by omega) (HP.out.gr.size) ?_)
            intro v' w2 hown hgrow
            have HP2 : Hid (MPre w w2 (xss.map (cutR f f)) (k + 1) v') := by
              refine ⟨by rw [HY.out]; exact hown, grown_row (grown_trans (grown_trans HP.out.gr HG1.out) (grown_alloc _ _ _)) hgrow (HP.out.own.block)⟩
            clear hown hgrow
            go_wp2
            go_roundw
            case rel => exact ⟨k + 1, v', rfl, by go_num, by omega, HP2⟩
            case measure => simp [intOf]; omega
    · obtain rfl : k = len := by omega
      have HF : Hid (MOwn wr w.heap.size v k (xss.map (cutR f t)) ∧ w.grownBy wr none) := by
        refine ⟨?_, HP.out.gr⟩
        have := HP.out.own
        rwa [List.take_of_length_le (by rw [List.length_map, HL.out]; exact Nat.le_refl _)] at this
      go_wp2
      go_ret
      exact ⟨v, rfl, HF.out.1, HF.out.2⟩

set_option maxHeartbeats 4000000 in
theorem sSlice_zero (xss : List (List Int)) (ao : Option Addr) (len cap : Nat) (w : World) (hx : Mat w ao len xss) (hlen : len ≤ 1000) :
    Calls Try.prog 44 #[.slice ao len cap, .int .i64 0, .int .i64 0] w (MadeM (xss.map (cutR 0 0)) len w) := by
  have HX := Lib.hid hx
  have HL := Lib.hid hx.1
  clear hx
  go_enter Try.func44, Try.ntmps44
  go_wp2
  have HP0 : Hid (MPre w (w.alloc (.cells #[] 39)) (xss.map (cutR 0 0)) 0 (.slice (some ⟨w.heap.size, 0, none⟩) 0 0)) := ⟨mown_empty w, grown_alloc _ _ _⟩
  go_loopw [7, 8] (fun vv iv wr => ∃ (k : Nat) (v : Value), v = vv ∧ iv = .int .i64 k ∧ k ≤ len ∧ Hid (MPre w wr (xss.map (cutR 0 0)) k v)) (fun _ iv _ => len - (intOf iv).toNat)
  case atStart => exact ⟨0, _, rfl, rfl, Nat.zero_le _, HP0⟩
  case round =>
    obtain ⟨k, v, rfl, rfl, hk, HP⟩ := hrel
    by_cases hlt : k < len
    · obtain ⟨xs, hxk⟩ : ∃ xs, xss[k]? = some xs := ⟨_, List.getElem?_eq_getElem (by rw [HL.out]; exact hlt)⟩
      obtain ⟨b, off, rfl, hc⟩ := HX.out.2.resolve_left (by intro e; subst e; simp at hxk)
      obtain ⟨ux, hux, a, c, rfl, hin, hlc, hcm, hnil⟩ := hc k xs hxk
      have hcx : wr.cell? ⟨b, off + k, none⟩ = some (.slice a xs.length c) := HP.out.gr.cell hux (by simp)
      have hI := hin.grown HP.out.gr
      have HY : Hid ((xss.map (cutR 0 0)).take (k + 1) = (xss.map (cutR 0 0)).take k ++ [cutR 0 0 xs]) := by
        show _ = _
        rw [List.take_add_one, List.getElem?_map, hxk]; rfl
      have hce : cutR 0 0 xs = [] := by unfold cutR; simp
      generalize hnx : xs.length = nx at *
      have hcall0 : ∀ (ao : Option Addr) (cp : Nat), (ao = none → cp = 0) → Calls Try.prog 50 #[.slice ao 0 cp] wr (Made (cutR 0 0 xs) 0 wr) := fun ao cp hn => copyInts_any _ ao 0 cp wr (by rw [hce]; exact ⟨rfl, Or.inl rfl⟩) hn (by omega)
      clear hc hux hin hlc hI hnx hxk hce
      cases a with
      | none =>
        obtain rfl := hnil rfl
        have hcall := hcall0 none 0 (fun _ => rfl)
        clear hcall0
        go_wp2_with fail
        refine hcall.mono ?_
        rintro e w1 ⟨u1, rfl, ho1, hg1⟩
        obtain ⟨a1, c1, rfl, _⟩ := ho1.reads
        have HO1 := Lib.hid ho1
        have HG1 := Lib.hid hg1
        have hcu : (w1.alloc (.cells #[.slice a1 0 c1] 39)).cell? ⟨w1.heap.size, 0, none⟩ = some (.slice a1 0 c1) := by rw [cell_of_row _ w1.heap.size 0 _ _ _ (heap_alloc_new w1 _)]; rfl
        have HU := Lib.hid hcu
        have hrow : Hid (Owns w1 wr.heap.size (.slice a1 0 c1) (cutR 0 0 xs).length (cutR 0 0 xs)) := by show Owns _ _ _ _ _; rw [HO1.out.len_eq]; exact HO1.out
        clear hcall ho1 hg1 hcu
        go_wp2_with (at_builtin; refine append_row rfl _ _ rfl w.heap.size v k _ rfl HP.out.own HG1.out (fun _ e => nomatch e) (.slice a1 0 c1) _ hrow.out (grown_alloc _ _ _) ⟨w1.heap.size, 0, none⟩ 1 rfl HU.out (by omega) (HP.out.gr.size) ?_)
        intro v' w2 hown hgrow
        have HP2 : Hid (MPre w w2 (xss.map (cutR 0 0)) (k + 1) v') := by
          refine ⟨by rw [HY.out]; exact hown, grown_row (grown_trans (grown_trans HP.out.gr HG1.out) (grown_alloc _ _ _)) hgrow (HP.out.own.block)⟩
        clear hown hgrow
        go_wp2
        go_roundw
        case rel => exact ⟨k + 1, v', rfl, by go_num, by omega, HP2⟩
        case measure => simp [intOf]; omega
      | some x =>
        by_cases hcf : c = 0
        · subst hcf
          have hcall := hcall0 (some x) 0 (fun e => nomatch e)
          clear hcall0
          go_wp2_with fail
          refine hcall.mono ?_
          rintro e w1 ⟨u1, rfl, ho1, hg1⟩
          obtain ⟨a1, c1, rfl, _⟩ := ho1.reads
          have HO1 := Lib.hid ho1
          have HG1 := Lib.hid hg1
          have hcu : (w1.alloc (.cells #[.slice a1 0 c1] 39)).cell? ⟨w1.heap.size, 0, none⟩ = some (.slice a1 0 c1) := by rw [cell_of_row _ w1.heap.size 0 _ _ _ (heap_alloc_new w1 _)]; rfl
          have HU := Lib.hid hcu
          have hrow : Hid (Owns w1 wr.heap.size (.slice a1 0 c1) (cutR 0 0 xs).length (cutR 0 0 xs)) := by show Owns _ _ _ _ _; rw [HO1.out.len_eq]; exact HO1.out
          clear hcall ho1 hg1 hcu
          go_wp2_with (at_builtin; refine append_row rfl _ _ rfl w.heap.size v k _ rfl HP.out.own HG1.out (fun _ e => nomatch e) (.slice a1 0 c1) _ hrow.out (grown_alloc _ _ _) ⟨w1.heap.size, 0, none⟩ 1 rfl HU.out (by omega) (HP.out.gr.size) ?_)
          intro v' w2 hown hgrow
          have HP2 : Hid (MPre w w2 (xss.map (cutR 0 0)) (k + 1) v') := by
            refine ⟨by rw [HY.out]; exact hown, grown_row (grown_trans (grown_trans HP.out.gr HG1.out) (grown_alloc _ _ _)) hgrow (HP.out.own.block)⟩
          clear hown hgrow
          go_wp2
          go_roundw
          case rel => exact ⟨k + 1, v', rfl, by go_num, by omega, HP2⟩
          case measure => simp [intOf]; omega
        · have hcf2 : ¬ (c : Int) = 0 := by omega
          have hcall := hcall0 (some x) c (fun e => nomatch e)
          clear hcall0
          go_wp2_with fail
          refine hcall.mono ?_
          rintro e w1 ⟨u1, rfl, ho1, hg1⟩
          obtain ⟨a1, c1, rfl, _⟩ := ho1.reads
          have HO1 := Lib.hid ho1
          have HG1 := Lib.hid hg1
          have hcu : (w1.alloc (.cells #[.slice a1 0 c1] 39)).cell? ⟨w1.heap.size, 0, none⟩ = some (.slice a1 0 c1) := by rw [cell_of_row _ w1.heap.size 0 _ _ _ (heap_alloc_new w1 _)]; rfl
          have HU := Lib.hid hcu
          have hrow : Hid (Owns w1 wr.heap.size (.slice a1 0 c1) (cutR 0 0 xs).length (cutR 0 0 xs)) := by show Owns _ _ _ _ _; rw [HO1.out.len_eq]; exact HO1.out
          clear hcall ho1 hg1 hcu
          go_wp2_with (at_builtin; refine append_row rfl _ _ rfl w.heap.size v k _ rfl HP.out.own HG1.out (fun _ e => nomatch e) (.slice a1 0 c1) _ hrow.out (grown_alloc _ _ _) ⟨w1.heap.size, 0, none⟩ 1 rfl HU.out (by omega) (HP.out.gr.size) ?_)
          intro v' w2 hown hgrow
          have HP2 : Hid (MPre w w2 (xss.map (cutR 0 0)) (k + 1) v') := by
            refine ⟨by rw [HY.out]; exact hown, grown_row (grown_trans (grown_trans HP.out.gr HG1.out) (grown_alloc _ _ _)) hgrow (HP.out.own.block)⟩
          clear hown hgrow
          go_wp2
          go_roundw
          case rel => exact ⟨k + 1, v', rfl, by go_num, by omega, HP2⟩
          case measure => simp [intOf]; omega
    · obtain rfl : k = len := by omega
      have HF : Hid (MOwn wr w.heap.size v k (xss.map (cutR 0 0)) ∧ w.grownBy wr none) := by
        refine ⟨?_, HP.out.gr⟩
        have := HP.out.own
        rwa [List.take_of_length_le (by rw [List.length_map, HL.out]; exact Nat.le_refl _)] at this
      go_wp2
      go_ret
      exact ⟨v, rfl, HF.out.1, HF.out.2⟩

theorem sSlice_any (xss : List (List Int)) (ao : Option Addr) (len cap f t : Nat) (w : World) (hx : Mat w ao len xss) (hlen : len ≤ 1000) (hft : f ≤ t) (ht : t ≤ 1000000) (hr : ∀ (k : Nat) (xs : List Int), xss[k]? = some xs → t ≤ xs.length) :
    Calls Try.prog 44 #[.slice ao len cap, .int .i64 (f : Int), .int .i64 (t : Int)] w (MadeM (xss.map (cutR f t)) len w) := by
  by_cases h : 0 < t
  · exact sSlice_pos xss ao len cap f t w hx hlen h hft ht hr
  · obtain rfl : t = 0 := by omega
    obtain rfl : f = 0 := by omega
    exact sSlice_zero xss ao len cap w hx hlen

end Go.Proofs.Ytncbgofcimghnaa
