/-
  DERIVED. GIVEN WITH THE SEED: THE PROGRAM's TIES (one call each: nine closed facts by the kernel) AND EACH ROW's TIE, after the 31st guide's Derived/Test/Toyas{Tie, Card}.lean. No idea stands in it: it is a product of the set-up. Laid BY PROGRAM, IN A SANDBOX (cutbox-door.mjs). By AI agents, Wed Nov 11 2026. No macro, syntax, notation, axiom, sorry.
-/
import Derived.Test.YtcgcippniicaaaaDoorRows
import Derived.LaidByTextLater
import Derived.SevenTiedAt
import Derived.LaidSub
import Derived.LaidOnce
namespace Go.Proofs.YtcgcippniicaaaaDoor
open Go
set_option maxRecDepth 100000
theorem seatTie1 : Tryd.prog.laidByTextLater [("loop.example/losslessaudio/impl.errBits", Rows.laid_loop_example_losslessaudio_impl_errBits), ("loop.example/losslessaudio/impl.errNumber", Rows.laid_loop_example_losslessaudio_impl_errNumber), ("loop.example/losslessaudio/impl.errRoom", Rows.laid_loop_example_losslessaudio_impl_errRoom), ("loop.example/losslessaudio/impl.errEnd", Rows.laid_loop_example_losslessaudio_impl_errEnd)] [.sentinel, .sentinel, .sentinel, .sentinel] true :=
  Program.laidByTextLater_by_one 85 8 2 (by kernel_rfl) (by kernel_rfl) (by kernel_rfl) (by kernel_rfl) (by kernel_rfl) (by kernel_rfl) (fun _ _ => by kernel_rfl)
theorem noOwnUnsafe : Tryd.pinned.checked.prog.headLifts.contains "ownunsafe" = false := by kernel_rfl
theorem tie : Tryd.prog.laidByTextLater [("loop.example/losslessaudio/impl.errBits", Rows.laid_loop_example_losslessaudio_impl_errBits), ("loop.example/losslessaudio/impl.errNumber", Rows.laid_loop_example_losslessaudio_impl_errNumber), ("loop.example/losslessaudio/impl.errRoom", Rows.laid_loop_example_losslessaudio_impl_errRoom), ("loop.example/losslessaudio/impl.errEnd", Rows.laid_loop_example_losslessaudio_impl_errEnd)] [.sentinel, .sentinel, .sentinel, .sentinel] true :=
  Program.laidByTextLater.sub seatTie1 ["loop.example/losslessaudio/impl.errBits", "loop.example/losslessaudio/impl.errNumber", "loop.example/losslessaudio/impl.errRoom", "loop.example/losslessaudio/impl.errEnd"] (by kernel_rfl) (by kernel_rfl)
theorem fnPutBits_row_tie : Rows.fnPutBitsRow.laidByTextAt .later Tryd.pinned [.sentinel, .sentinel, .sentinel, .sentinel] true :=
  OpenClaim.laidByTextAt_later rfl rfl tie noOwnUnsafe
theorem fnJoinBits_row_tie : Rows.fnJoinBitsRow.laidByTextAt .later Tryd.pinned [.sentinel, .sentinel, .sentinel, .sentinel] true :=
  OpenClaim.laidByTextAt_later rfl rfl tie noOwnUnsafe
theorem tie2 : Tryd.prog.laidByTextLater [("loop.example/losslessaudio/impl.errBits", Rows.laid_loop_example_losslessaudio_impl_errBits), ("loop.example/losslessaudio/impl.errNumber", Rows.laid_loop_example_losslessaudio_impl_errNumber), ("loop.example/losslessaudio/impl.errRoom", Rows.laid_loop_example_losslessaudio_impl_errRoom)] [.sentinel, .sentinel, .sentinel] true :=
  Program.laidByTextLater.sub seatTie1 ["loop.example/losslessaudio/impl.errBits", "loop.example/losslessaudio/impl.errNumber", "loop.example/losslessaudio/impl.errRoom"] (by kernel_rfl) (by kernel_rfl)
theorem fnPutBitsParts_row_tie : Rows.fnPutBitsPartsRow.laidByTextAt .later Tryd.pinned [.sentinel, .sentinel, .sentinel] true :=
  OpenClaim.laidByTextAt_later rfl rfl tie2 noOwnUnsafe
theorem fnPutBitsNothing_row_tie : Rows.fnPutBitsNothingRow.laidByTextAt .later Tryd.pinned [.sentinel, .sentinel, .sentinel] true :=
  OpenClaim.laidByTextAt_later rfl rfl tie2 noOwnUnsafe
theorem fnJoinBitsThree_row_tie : Rows.fnJoinBitsThreeRow.laidByTextAt .later Tryd.pinned [.sentinel, .sentinel, .sentinel] true :=
  OpenClaim.laidByTextAt_later rfl rfl tie2 noOwnUnsafe
theorem fnExactPutBits_row_tie : Rows.fnExactPutBitsRow.laidByTextAt .later Tryd.pinned [.sentinel, .sentinel, .sentinel] true :=
  OpenClaim.laidByTextAt_later rfl rfl tie2 noOwnUnsafe
theorem fnExactJoinBits_row_tie : Rows.fnExactJoinBitsRow.laidByTextAt .later Tryd.pinned [.sentinel, .sentinel, .sentinel] true :=
  OpenClaim.laidByTextAt_later rfl rfl tie2 noOwnUnsafe
theorem tie3 : Tryd.prog.laidByTextLater [("loop.example/losslessaudio/impl.errBits", Rows.laid_loop_example_losslessaudio_impl_errBits), ("loop.example/losslessaudio/impl.errNumber", Rows.laid_loop_example_losslessaudio_impl_errNumber), ("loop.example/losslessaudio/impl.errEnd", Rows.laid_loop_example_losslessaudio_impl_errEnd)] [.sentinel, .sentinel, .sentinel] true :=
  Program.laidByTextLater.sub seatTie1 ["loop.example/losslessaudio/impl.errBits", "loop.example/losslessaudio/impl.errNumber", "loop.example/losslessaudio/impl.errEnd"] (by kernel_rfl) (by kernel_rfl)
theorem fnGetBits_row_tie : Rows.fnGetBitsRow.laidByTextAt .later Tryd.pinned [.sentinel, .sentinel, .sentinel] true :=
  OpenClaim.laidByTextAt_later rfl rfl tie3 noOwnUnsafe
theorem fnBitsOf_row_tie : Rows.fnBitsOfRow.laidByTextAt .later Tryd.pinned [.sentinel, .sentinel, .sentinel] true :=
  OpenClaim.laidByTextAt_later rfl rfl tie3 noOwnUnsafe
theorem fnExactGetBits_row_tie : Rows.fnExactGetBitsRow.laidByTextAt .later Tryd.pinned [.sentinel, .sentinel, .sentinel] true :=
  OpenClaim.laidByTextAt_later rfl rfl tie3 noOwnUnsafe
theorem fnPutBitsUpto_row_tie : Rows.fnPutBitsUptoRow.laidByTextAt .later Tryd.pinned [.sentinel, .sentinel, .sentinel, .sentinel] true :=
  OpenClaim.laidByTextAt_later rfl rfl tie noOwnUnsafe
theorem fnPutBitsPartsUpto_row_tie : Rows.fnPutBitsPartsUptoRow.laidByTextAt .later Tryd.pinned [.sentinel, .sentinel, .sentinel] true :=
  OpenClaim.laidByTextAt_later rfl rfl tie2 noOwnUnsafe
theorem fnGetBitsUpto_row_tie : Rows.fnGetBitsUptoRow.laidByTextAt .later Tryd.pinned [.sentinel, .sentinel, .sentinel] true :=
  OpenClaim.laidByTextAt_later rfl rfl tie3 noOwnUnsafe
theorem fnJoinBitsUpto_row_tie : Rows.fnJoinBitsUptoRow.laidByTextAt .later Tryd.pinned [.sentinel, .sentinel, .sentinel, .sentinel] true :=
  OpenClaim.laidByTextAt_later rfl rfl tie noOwnUnsafe
theorem fnBitsOfUpto_row_tie : Rows.fnBitsOfUptoRow.laidByTextAt .later Tryd.pinned [.sentinel, .sentinel, .sentinel] true :=
  OpenClaim.laidByTextAt_later rfl rfl tie3 noOwnUnsafe
theorem fnPutBitsNothingUpto_row_tie : Rows.fnPutBitsNothingUptoRow.laidByTextAt .later Tryd.pinned [.sentinel, .sentinel, .sentinel] true :=
  OpenClaim.laidByTextAt_later rfl rfl tie2 noOwnUnsafe
theorem fnJoinBitsThreeUpto_row_tie : Rows.fnJoinBitsThreeUptoRow.laidByTextAt .later Tryd.pinned [.sentinel, .sentinel, .sentinel] true :=
  OpenClaim.laidByTextAt_later rfl rfl tie2 noOwnUnsafe
theorem fnExactPutBitsUpto_row_tie : Rows.fnExactPutBitsUptoRow.laidByTextAt .later Tryd.pinned [.sentinel, .sentinel, .sentinel] true :=
  OpenClaim.laidByTextAt_later rfl rfl tie2 noOwnUnsafe
theorem fnExactGetBitsUpto_row_tie : Rows.fnExactGetBitsUptoRow.laidByTextAt .later Tryd.pinned [.sentinel, .sentinel, .sentinel] true :=
  OpenClaim.laidByTextAt_later rfl rfl tie3 noOwnUnsafe
theorem fnExactJoinBitsUpto_row_tie : Rows.fnExactJoinBitsUptoRow.laidByTextAt .later Tryd.pinned [.sentinel, .sentinel, .sentinel] true :=
  OpenClaim.laidByTextAt_later rfl rfl tie2 noOwnUnsafe
end Go.Proofs.YtcgcippniicaaaaDoor
