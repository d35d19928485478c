/-
  'FnExactJoinAudio' returns true for every input that can be read, and writes nothing that was there. No condition.
-/
import Derived.Test.YtncbgofcimghnaaRows
import Derived.Test.YtncbgofcimghnaaSeat
import Derived.Test.YtncbgofcimghnaaFrameM
import Derived.Test.YtncbgofcimghnaaExJn
import Derived.WalkKit
import Derived.ProofKit
import Derived.OpenShut
import Derived.ChangeOld
import Derived.Below
import Derived.Lib.SmallJoins
import Derived.Deep.Matrix
namespace Go.Proofs.Ytncbgofcimghnaa.fnExactJoinAudio
open Go.ChangeShapes Go.WideShapes Go.ChangeAt Go.RowKit Go.Joins Go.Deep
set_option linter.unusedVariables false

theorem own : ownKnob Try.prog.godebug = none := by kernel_rfl
theorem laidOut : laidOutB Try.prog = true := by kernel_rfl
theorem cells43 : Try.prog.cellsOf 43 = 3 := by kernel_rfl

set_option maxRecDepth 100000 in
theorem lifted (os : Os) (started : os.Started) (H : Type) (enc : TypeId × Value → H) :
    ReturnsInHanded {} Try.checked os 12 .any (Rows.fnExactJoinAudioSpec.pre6 enc Try.prog Try.f12 Rows.fnExactJoinAudioRow.domain false) (Rows.fnExactJoinAudioSpec.post enc Try.prog Try.f12 false true false false) := by
  refine returnsInHanded_of_change (C := Try.checked) own started (by kernel_rfl) Try.func12
    (ChangeSpec.witness6 (enc := enc) (C := Try.checked) false ⟨#[], #[.agg #[.int .i64 0, .int .i64 0, .slice none 0 0], .agg #[.int .i64 0, .int .i64 0, .slice none 0 0]], []⟩ 8 (by kernel_rfl) (by kernel_rfl) (by kernel_rfl) (by kernel_rfl)) ?_
  intro W base args ds gs before hval0 hW hcnd _
  have hval : ∀ (j : Nat) t v, Try.f12.params[j]? = some t → args[j]? = some v → Value.okWide Try.prog W .any base t v := hval0
  have hW' := hW
  obtain ⟨p, q, hA0, hV, rfl, hfz, hnd⟩ := hW
  have hA : DataW.TrodAll enc Try.prog W 0 (fun _ => true) true Try.f12.params.toList args.toList ds p := hA0
  rw [Try.params12] at hA hval
  obtain ⟨v0, vs0, d0, ds0, p0, q0, hargs, rfl, rfl, h0, r0⟩ := trodAll_cons hA
  obtain ⟨v1, vs1, d1, ds1, p1, q1, rfl, rfl, rfl, h1, r1⟩ := trodAll_cons r0
  obtain ⟨rfl, rfl, rfl⟩ := trodAll_nil r1
  obtain rfl : args = #[v0, v1] := by cases args; simp_all
  obtain ⟨rfl, rfl⟩ := trodVars_none hV
  have k0 := h0
  have lt0 : ∀ x ∈ p0, x.block < W.heap.size := by obtain ⟨m, hm⟩ := k0; exact DataW.trod_lt m _ _ _ hm
  obtain ⟨s0, t0, u0, y0, z0, x0, m0, rfl, rfl, rfl, hr0, hd0, hs0⟩ := open_agg3 Try.underlying43 (by kernel_rfl) cells43 (hval 0 43 v0 rfl rfl) h0
  obtain ⟨r0_, er0, _, _⟩ := DataW.trod_int Try.underlying3 hr0
  obtain ⟨d0_, ed0, _, _⟩ := DataW.trod_int Try.underlying3 hd0
  simp only [List.cons.injEq, and_true] at er0 ed0
  subst er0
  subst ed0
  obtain ⟨a0, len0, cap0, xss0, e0, w0, mx0⟩ := FrameM.mat_open (P := Try.prog) Try.underlying23 Try.underlying39 Try.underlying3 (by kernel_rfl) (by kernel_rfl) hs0
  subst e0
  have k1 := h1
  have lt1 : ∀ x ∈ p1, x.block < W.heap.size := by obtain ⟨m, hm⟩ := k1; exact DataW.trod_lt m _ _ _ hm
  obtain ⟨s1, t1, u1, y1, z1, x1, m1, rfl, rfl, rfl, hr1, hd1, hs1⟩ := open_agg3 Try.underlying43 (by kernel_rfl) cells43 (hval 1 43 v1 rfl rfl) h1
  obtain ⟨r1_, er1, _, _⟩ := DataW.trod_int Try.underlying3 hr1
  obtain ⟨d1_, ed1, _, _⟩ := DataW.trod_int Try.underlying3 hd1
  simp only [List.cons.injEq, and_true] at er1 ed1
  subst er1
  subst ed1
  obtain ⟨a1, len1, cap1, xss1, e1, w1, mx1⟩ := FrameM.mat_open (P := Try.prog) Try.underlying23 Try.underlying39 Try.underlying3 (by kernel_rfl) (by kernel_rfl) hs1
  subst e1
  clear hA0 hval0
  refine (Frame.holds_below (FnExactJoinAudio_walk r0_ d0_ a0 len0 cap0 r1_ d1_ a1 len1 cap1 W xss0 w0 mx0 xss1 w1 mx1)).mono fun e W' ⟨he, bel⟩ => ?_
  subst he
  exact ⟨_, rfl, _, _, _, [], _, [], hW', trodAll_mk1 (shut_bool Try.underlying4 _), (trodAll_cons_mk (Below.trod laidOut (by kernel_rfl) (of_decide_eq_true (by kernel_rfl)) k0 bel lt0) (trodAll_cons_mk (Below.trod laidOut (by kernel_rfl) (of_decide_eq_true (by kernel_rfl)) k1 bel lt1) trodAll_mk0)), rfl, bel.frame _, fun h => by cases h⟩

theorem facts : joinedFacts Try.prog 12 Try.f12 Rows.fnExactJoinAudioSpec Rows.fnExactJoinAudioRow = true := by
  unfold joinedFacts
  exact Seat.and_mk (Seat.and_mk (Seat.and_mk (Seat.and_mk (Seat.and_mk (Seat.and_mk (Seat.and_mk (by kernel_rfl) Seat.enter) (by rw [Seat.final]; rfl)) (by rw [Seat.make]; rfl)) (by kernel_rfl)) (by kernel_rfl)) (by kernel_rfl)) (by kernel_rfl)

theorem over : Rows.fnExactJoinAudioRow.holds Try.pinned (OpenSpec.ofChange Rows.fnExactJoinAudioSpec) :=
  OpenClaim.holds_of_wide 12 Try.f12 rfl rfl rfl rfl rfl rfl rfl ⟨rfl, rfl, rfl, rfl, rfl⟩ rfl rfl rfl rfl rfl (by kernel_rfl) Try.func12 facts
    (of_decide_eq_true (by kernel_rfl)) (by unfold Func.isWrapper; first | (rw [if_pos (by decide +kernel)]; kernel_rfl) | (rw [if_neg (by decide +kernel)]; exact ⟨rfl, rfl⟩))
    (fun os started H enc _ => lifted os started H enc)

theorem proved : Rows.FnExactJoinAudioSaid := over
#print axioms proved
end Go.Proofs.Ytncbgofcimghnaa.fnExactJoinAudio
