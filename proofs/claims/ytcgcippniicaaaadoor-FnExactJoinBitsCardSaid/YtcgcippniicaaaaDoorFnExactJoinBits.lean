/-
  'FnExactJoinBits' returns true for every input that can be read, and writes nothing that was there. The package's errors start as the program's text lays them; the card ties that to the text.
-/
import Derived.Test.YtcgcippniicaaaaDoorCards
import Derived.Test.YtcgcippniicaaaaDoorTie
import Derived.Test.YtcgcippniicaaaaDoorSeat
import Derived.Test.YtcgcippniicaaaaDoorFrame
import Derived.Test.YtcgcippniicaaaaDoorExJoin
import Derived.WalkKit
import Derived.ProofKit
import Derived.OpenShut
import Derived.OpenVars
import Derived.ShutString
import Derived.ChangeOld
import Derived.Below
import Derived.Lib.SmallJoins
import Derived.LaidLaws
import Derived.Deep.DeepHandedRow
import Derived.Lib.LaidTab
namespace Go.Proofs.YtcgcippniicaaaaDoor.fnExactJoinBits
open Go.ChangeShapes Go.WideShapes Go.ChangeAt Go.RowKit Go.Joins
set_option linter.unusedVariables false

theorem own : ownKnob Tryd.prog.godebug = none := by kernel_rfl
theorem laidOut : laidOutB Tryd.prog = true := by kernel_rfl
theorem cells40 : Tryd.prog.cellsOf 40 = 2 := by kernel_rfl
theorem named3 : Tryd.prog.globalNamed "loop.example/losslessaudio/impl.errBits" = some 3 := by kernel_rfl
theorem typed3 : (Tryd.prog.globals[3]?).map (·.type) = some 53 := by kernel_rfl
theorem named0 : Tryd.prog.globalNamed "loop.example/losslessaudio/impl.errNumber" = some 0 := by kernel_rfl
theorem typed0 : (Tryd.prog.globals[0]?).map (·.type) = some 53 := by kernel_rfl
theorem named1 : Tryd.prog.globalNamed "loop.example/losslessaudio/impl.errRoom" = some 1 := by kernel_rfl
theorem typed1 : (Tryd.prog.globals[1]?).map (·.type) = some 53 := by kernel_rfl
theorem errsOf {W : World} (h : laidMetH Tryd.prog Rows.fnExactJoinBitsRow.laid W) : ErrsJ W := by
  obtain ⟨ps, ⟨g0, t0, cs0, f0, p0, q0, hg0, ht0, hv0, hd0, ⟨g1, t1, cs1, f1, p1, q1, hg1, ht1, hv1, hd1, ⟨g2, t2, cs2, f2, p2, q2, hg2, ht2, hv2, hd2, _, _⟩, _⟩, _⟩, _⟩ := h
  obtain rfl := Option.some.inj (named3.symm.trans hg0)
  obtain rfl := Option.some.inj (typed3.symm.trans ht0)
  obtain ⟨l0⟩ := cs0
  have e3 : ErrAt W 3 := by
    obtain ⟨_, u, v, rfl, _, _⟩ := iface_of_trod Tryd.underlying53 hd0
    exact ⟨u, v, by simpa using World.var?_cell hg0 hv0 0⟩
  obtain rfl := Option.some.inj (named0.symm.trans hg1)
  obtain rfl := Option.some.inj (typed0.symm.trans ht1)
  obtain ⟨l1⟩ := cs1
  have e0 : ErrAt W 0 := by
    obtain ⟨_, u, v, rfl, _, _⟩ := iface_of_trod Tryd.underlying53 hd1
    exact ⟨u, v, by simpa using World.var?_cell hg1 hv1 0⟩
  obtain rfl := Option.some.inj (named1.symm.trans hg2)
  obtain rfl := Option.some.inj (typed1.symm.trans ht2)
  obtain ⟨l2⟩ := cs2
  have e1 : ErrAt W 1 := by
    obtain ⟨_, u, v, rfl, _, _⟩ := iface_of_trod Tryd.underlying53 hd2
    exact ⟨u, v, by simpa using World.var?_cell hg2 hv2 0⟩
  exact ⟨e3, e1⟩

theorem contract (H : Type) (enc : TypeId × Value → H) (W : World) (base : Nat) (args : Array Value) (ds gs : List (DataW H)) (before : List MemPlace)
    (hval : ∀ (j : Nat) t v, Tryd.f12.params[j]? = some t → args[j]? = some v → Value.okWide Tryd.prog W .any base t v)
    (hW : DataW.Whole enc Tryd.prog Tryd.f12.params.toList Rows.fnExactJoinBitsSpec.vars false W args.toList ds gs before) (hL : laidMetH Tryd.prog Rows.fnExactJoinBitsRow.laid W) :
    Calls Tryd.prog 12 args W fun e W' => ∃ v, e = .returned v ∧ Rows.fnExactJoinBitsSpec.post enc Tryd.prog Tryd.f12 false true false false W args v W' := by
  have hW' := hW
  obtain ⟨p, q, hA0, hV, rfl, hfz, hnd⟩ := hW
  have hA : DataW.TrodAll enc Tryd.prog W 0 (fun _ => true) true Tryd.f12.params.toList args.toList ds p := hA0
  rw [Tryd.params12] at hA hval
  obtain ⟨v0, vs0, d0, ds0, p0, q0, hargs, rfl, rfl, h0, r0⟩ := trodAll_cons hA
  obtain ⟨v1, vs1, d1, ds1, p1, q1, rfl, rfl, rfl, h1, r1⟩ := trodAll_cons r0
  obtain ⟨rfl, rfl, rfl⟩ := trodAll_nil r1
  obtain rfl : args = #[v0, v1] := by cases args; simp_all
  have k0 := h0
  have lt0 : ∀ x ∈ p0, x.block < W.heap.size := by obtain ⟨m, hm⟩ := k0; exact DataW.trod_lt m _ _ _ hm
  obtain ⟨s0, n0, y0, z0, m0, rfl, rfl, rfl, hs0, hi0⟩ := open_agg2 Tryd.underlying40 (by kernel_rfl) cells40 (hval 0 40 v0 rfl rfl) h0
  obtain ⟨c0, e0, _, _⟩ := DataW.trod_int Tryd.underlying3 hi0
  simp only [List.cons.injEq, and_true] at e0
  subst e0
  obtain ⟨a0, len0, cap0, g0⟩ := slice_form Tryd.underlying23 hs0
  simp only [List.cons.injEq, and_true] at g0
  subst g0
  obtain ⟨l0, w0⟩ : ∃ zs, Frame.IsRow .i64 W a0 len0 cap0 zs := by
    rcases open_ints Tryd.underlying23 Tryd.underlying3 (by kernel_rfl) hs0 with ⟨hcs, _⟩ | ⟨x, l, c, zs, hcs, _, hl, hm, hz, _, hcell, hwz⟩
    · simp at hcs
      obtain ⟨rfl, rfl, rfl⟩ := hcs
      exact ⟨[], .inl ⟨rfl, rfl, rfl, rfl⟩⟩
    · simp at hcs
      obtain ⟨rfl, rfl, rfl⟩ := hcs
      exact ⟨zs, .inr ⟨_, rfl, hl, hm, by simpa using hz, hcell, hwz⟩⟩
  have k1 := h1
  have lt1 : ∀ x ∈ p1, x.block < W.heap.size := by obtain ⟨m, hm⟩ := k1; exact DataW.trod_lt m _ _ _ hm
  obtain ⟨s1, n1, y1, z1, m1, rfl, rfl, rfl, hs1, hi1⟩ := open_agg2 Tryd.underlying40 (by kernel_rfl) cells40 (hval 1 40 v1 rfl rfl) h1
  obtain ⟨c1, e1, _, _⟩ := DataW.trod_int Tryd.underlying3 hi1
  simp only [List.cons.injEq, and_true] at e1
  subst e1
  obtain ⟨a1, len1, cap1, g1⟩ := slice_form Tryd.underlying23 hs1
  simp only [List.cons.injEq, and_true] at g1
  subst g1
  obtain ⟨l1, w1⟩ : ∃ zs, Frame.IsRow .i64 W a1 len1 cap1 zs := by
    rcases open_ints Tryd.underlying23 Tryd.underlying3 (by kernel_rfl) hs1 with ⟨hcs, _⟩ | ⟨x, l, c, zs, hcs, _, hl, hm, hz, _, hcell, hwz⟩
    · simp at hcs
      obtain ⟨rfl, rfl, rfl⟩ := hcs
      exact ⟨[], .inl ⟨rfl, rfl, rfl, rfl⟩⟩
    · simp at hcs
      obtain ⟨rfl, rfl, rfl⟩ := hcs
      exact ⟨zs, .inr ⟨_, rfl, hl, hm, by simpa using hz, hcell, hwz⟩⟩
  refine (FnExactJoinBits_walk a0 len0 cap0 c0 a1 len1 cap1 c1 W (l0.take len0) (Frame.ints_row w0).1 (Frame.ints_row w0).2.2 (l1.take len1) (Frame.ints_row w1).1 (Frame.ints_row w1).2.2 (errsOf hL)).mono fun e W' ⟨he, hg⟩ => ?_
  subst he
  have hb : Below W.heap.size W W' := grown_below hg
  match gs, hV with
  | [g1, g2, g3], hV =>
    exact ⟨_, rfl, _, _, _, [], _, q, hW', trodAll_mk1 (shut_bool Tryd.underlying4 _), (trodAll_cons_mk (Below.trod laidOut (by kernel_rfl) (of_decide_eq_true (by kernel_rfl)) k0 hb lt0) (trodAll_cons_mk (Below.trod laidOut (by kernel_rfl) (of_decide_eq_true (by kernel_rfl)) k1 hb lt1) trodAll_mk0)), hb.trodVars laidOut (by kernel_rfl) hV, hb.frame _, fun h => by cases h⟩

noncomputable def low : Nat := (World.holding Tryd.prog default ⟨#[], #[], []⟩).heap.size
/-- A world for the witness: the settled one, the errors holding what their initialisers lay. -/
noncomputable def laidWorld (os : Os) : World :=
  let w0 := World.holding Tryd.prog os ⟨#[.cells #[.string { data := #[105, 110, 118, 97, 108, 105, 100, 32, 98, 105, 116, 115] }] 108, .cells #[.string { data := #[110, 117, 109, 98, 101, 114, 32, 119, 105, 116, 104, 111, 117, 116, 32, 97, 32, 99, 111, 100, 101] }] 108, .cells #[.string { data := #[116, 111, 111, 32, 109, 97, 110, 121, 32, 98, 105, 116, 115] }] 108], #[], []⟩
  { w0 with heap := ((w0.heap.modify 3 fun
      | .cells _ t frozen => .cells #[.iface 89 (.pointer (some ⟨low + 0, 0, none⟩))] t frozen
      | o => o).modify 0 fun
      | .cells _ t frozen => .cells #[.iface 89 (.pointer (some ⟨low + 1, 0, none⟩))] t frozen
      | o => o).modify 1 fun
      | .cells _ t frozen => .cells #[.iface 89 (.pointer (some ⟨low + 2, 0, none⟩))] t frozen
      | o => o }
theorem laid_met (os : Os) : laidMet Tryd.prog Rows.fnExactJoinBitsRow.laid ((laidWorld os).forCall (fun _ _ => 0) ⟨#[], #[.agg #[.slice none 0 0, .int .i64 0], .agg #[.slice none 0 0, .int .i64 0]], []⟩).memory :=
  laidMet_of_run' 8 (by kernel_rfl) (by kernel_rfl)
theorem reads (os : Os) {H : Type} (enc : TypeId × Value → H) : ∃ places, DataW.whole enc Tryd.prog ((laidWorld os).forCall (fun _ _ => 0) ⟨#[], #[.agg #[.slice none 0 0, .int .i64 0], .agg #[.slice none 0 0, .int .i64 0]], []⟩).memory Tryd.f12.params.toList Rows.fnExactJoinBitsSpec.vars false #[Value.agg #[.slice none 0 0, .int .i64 0], Value.agg #[.slice none 0 0, .int .i64 0]].toList 8 = some ([.agg [.nil, .lit (.int .i64 0)], .agg [.nil, .lit (.int .i64 0)]], [.held (enc (89, .pointer (some ⟨low + 1, 0, none⟩))), .held (enc (89, .pointer (some ⟨low + 2, 0, none⟩))), .held (enc (89, .pointer (some ⟨low + 0, 0, none⟩)))], places) :=
  by
  have h : (DataW.whole enc Tryd.prog ((laidWorld os).forCall (fun _ _ => 0) ⟨#[], #[.agg #[.slice none 0 0, .int .i64 0], .agg #[.slice none 0 0, .int .i64 0]], []⟩).memory Tryd.f12.params.toList Rows.fnExactJoinBitsSpec.vars false #[Value.agg #[.slice none 0 0, .int .i64 0], Value.agg #[.slice none 0 0, .int .i64 0]].toList 8).map (fun t => (t.1, t.2.1)) = some ([.agg [.nil, .lit (.int .i64 0)], .agg [.nil, .lit (.int .i64 0)]], [.held (enc (89, .pointer (some ⟨low + 1, 0, none⟩))), .held (enc (89, .pointer (some ⟨low + 2, 0, none⟩))), .held (enc (89, .pointer (some ⟨low + 0, 0, none⟩)))]) := by kernel_rfl
  obtain ⟨⟨a, b, c⟩, ht, e⟩ := Option.map_eq_some_iff.1 h
  obtain ⟨rfl, rfl⟩ := Prod.mk.inj e
  exact ⟨c, ht⟩

set_option maxRecDepth 100000 in
theorem lifted (os : Os) (started : os.Started) (H : Type) (enc : TypeId × Value → H) (F : Stop.Interp) :
    ReturnsInHanded {} Tryd.checked os 12 .any ((OpenSpec.ofChange Rows.fnExactJoinBitsSpec).preRow enc Tryd.prog Tryd.f12 Rows.fnExactJoinBitsRow.domain false Rows.fnExactJoinBitsRow.laid) (((OpenSpec.ofChange Rows.fnExactJoinBitsSpec).at F).post enc Tryd.prog Tryd.f12 false true false false) := by
  obtain ⟨places, hx⟩ := reads os enc
  refine returnsInHanded_of_row (C := Tryd.checked) (s := OpenSpec.ofChange Rows.fnExactJoinBitsSpec) own started (by kernel_rfl) Tryd.func12
    (witness_row_at (enc := enc) (C := Tryd.checked) false (laidWorld os) #[.agg #[.slice none 0 0, .int .i64 0], .agg #[.slice none 0 0, .int .i64 0]] rfl (by kernel_rfl) (by kernel_rfl) (by kernel_rfl)
      (OpenSpec.preRow_of_cond 8 hx (by kernel_rfl) (fun k hk => by cases hk) (by kernel_rfl) (laid_met os))) ?_
  intro W base args ds gs before hval hW _ _ _ hL _ _
  exact contract H enc W base args ds gs before hval hW hL

theorem facts : joinedFacts Tryd.prog 12 Tryd.f12 Rows.fnExactJoinBitsSpec Rows.fnExactJoinBitsRow = true := by
  unfold joinedFacts
  exact Seat.and_mk (Seat.and_mk (Seat.and_mk (Seat.and_mk (Seat.and_mk (Seat.and_mk (Seat.and_mk (by kernel_rfl) Seat.enter) (by rw [Seat.final]; rfl)) (by rw [Seat.make]; rfl)) (by kernel_rfl)) (by kernel_rfl)) (by kernel_rfl)) (by kernel_rfl)

theorem said : Rows.FnExactJoinBitsSaid :=
  OpenClaim.holds_of_cond 12 Tryd.f12 rfl rfl rfl rfl rfl rfl rfl ⟨rfl, rfl, rfl, rfl, rfl⟩ rfl rfl rfl rfl rfl (by kernel_rfl) Tryd.func12 facts
    (of_decide_eq_true (by kernel_rfl)) (by unfold Func.isWrapper; first | (rw [if_pos (by decide +kernel)]; kernel_rfl) | (rw [if_neg (by decide +kernel)]; exact ⟨rfl, rfl⟩))
    (fun os started H enc _ F => by rw [OpenClaim.pre_eq_preRow]; exact lifted os started H enc F)

/-- No parameter wants a stand-in; the program's own looks are off: what the card asks. -/
theorem plain (f : FuncId) (fn : Func) (hf : Tryd.pinned.checked.prog.funcNamed "loop.example/losslessaudio/laws.FnExactJoinBits" = some f) (hfn : Tryd.pinned.checked.prog.funcs[f]? = some fn) :
    false = Tryd.pinned.checked.prog.looks [] ∧ ∀ (j : Nat) t, fn.params[j]? = some t → Tryd.pinned.checked.prog.wantsStandIn t = false := by
  obtain rfl : f = 12 := Option.some.inj ((show Tryd.prog.funcNamed "loop.example/losslessaudio/laws.FnExactJoinBits" = some 12 by kernel_rfl).symm.trans hf) |>.symm
  obtain rfl : fn = Tryd.f12 := (Option.some.inj (Tryd.func12.symm.trans hfn)).symm
  refine ⟨by kernel_rfl, fun j t ht => ?_⟩
  rw [Tryd.params12] at ht
  have hm := Array.mem_of_getElem? ht
  simp only [List.mem_toArray, List.mem_cons, List.not_mem_nil, or_false] at hm
  rcases hm with rfl | rfl
  · exact (show Tryd.prog.wantsStandIn 40 = false by kernel_rfl)
  · exact (show Tryd.prog.wantsStandIn 40 = false by kernel_rfl)

theorem proved : Rows.FnExactJoinBitsCardSaid :=
  Claim7.holds_tied_plain_at .later [] _ _ _ _ said (fun _ h => by cases h) (by kernel_rfl) (fun _ h => by cases h) fnExactJoinBits_row_tie rfl ⟨rfl, rfl⟩ (by kernel_rfl) rfl plain (by kernel_rfl)
#print axioms proved
end Go.Proofs.YtcgcippniicaaaaDoor.fnExactJoinBits
