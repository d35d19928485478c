/-
  DERIVED. GIVEN WITH THE SEED: THE PROGRAM's TIES (one call each: nine closed facts by the kernel) AND EACH ROW's TIE, after the 31st guide's Derived/Test/Toyas{Tie, Card}.lean. No idea stands in it: it is a product of the set-up. Laid BY PROGRAM, IN A SANDBOX (cutbox-door.mjs). By AI agents, Wed Nov 11 2026. No macro, syntax, notation, axiom, sorry.
-/
import Derived.Test.YtdbneenlejgjcaaDoorRows
import Derived.LaidByTextLater
import Derived.SevenTiedAt
import Derived.LaidSub
import Derived.LaidOnce
namespace Go.Proofs.YtdbneenlejgjcaaDoor
open Go
set_option maxRecDepth 100000
theorem seatTie1 : Tryd.prog.laidByTextLater [("loop.example/losslessaudio/impl.errBits", Rows.laid_loop_example_losslessaudio_impl_errBits), ("loop.example/losslessaudio/impl.errNumber", Rows.laid_loop_example_losslessaudio_impl_errNumber), ("loop.example/losslessaudio/impl.errRoom", Rows.laid_loop_example_losslessaudio_impl_errRoom), ("loop.example/losslessaudio/impl.errEnd", Rows.laid_loop_example_losslessaudio_impl_errEnd)] [.sentinel, .sentinel, .sentinel, .sentinel] true :=
  Program.laidByTextLater_by_one 85 8 2 (by kernel_rfl) (by kernel_rfl) (by kernel_rfl) (by kernel_rfl) (by kernel_rfl) (by kernel_rfl) (fun _ _ => by kernel_rfl)
theorem noOwnUnsafe : Tryd.pinned.checked.prog.headLifts.contains "ownunsafe" = false := by kernel_rfl
theorem tie : Tryd.prog.laidByTextLater [("loop.example/losslessaudio/impl.errBits", Rows.laid_loop_example_losslessaudio_impl_errBits), ("loop.example/losslessaudio/impl.errNumber", Rows.laid_loop_example_losslessaudio_impl_errNumber), ("loop.example/losslessaudio/impl.errRoom", Rows.laid_loop_example_losslessaudio_impl_errRoom)] [.sentinel, .sentinel, .sentinel] true :=
  Program.laidByTextLater.sub seatTie1 ["loop.example/losslessaudio/impl.errBits", "loop.example/losslessaudio/impl.errNumber", "loop.example/losslessaudio/impl.errRoom"] (by kernel_rfl) (by kernel_rfl)
theorem fnRiceLength_row_tie : Rows.fnRiceLengthRow.laidByTextAt .later Tryd.pinned [.sentinel, .sentinel, .sentinel] true :=
  OpenClaim.laidByTextAt_later rfl rfl tie noOwnUnsafe
theorem fnExactPutUnary_row_tie : Rows.fnExactPutUnaryRow.laidByTextAt .later Tryd.pinned [.sentinel, .sentinel, .sentinel] true :=
  OpenClaim.laidByTextAt_later rfl rfl tie noOwnUnsafe
theorem fnExactPutRice_row_tie : Rows.fnExactPutRiceRow.laidByTextAt .later Tryd.pinned [.sentinel, .sentinel, .sentinel] true :=
  OpenClaim.laidByTextAt_later rfl rfl tie noOwnUnsafe
theorem tie2 : Tryd.prog.laidByTextLater [("loop.example/losslessaudio/impl.errBits", Rows.laid_loop_example_losslessaudio_impl_errBits), ("loop.example/losslessaudio/impl.errNumber", Rows.laid_loop_example_losslessaudio_impl_errNumber), ("loop.example/losslessaudio/impl.errRoom", Rows.laid_loop_example_losslessaudio_impl_errRoom), ("loop.example/losslessaudio/impl.errEnd", Rows.laid_loop_example_losslessaudio_impl_errEnd)] [.sentinel, .sentinel, .sentinel, .sentinel] true :=
  Program.laidByTextLater.sub seatTie1 ["loop.example/losslessaudio/impl.errBits", "loop.example/losslessaudio/impl.errNumber", "loop.example/losslessaudio/impl.errRoom", "loop.example/losslessaudio/impl.errEnd"] (by kernel_rfl) (by kernel_rfl)
theorem fnPutUnary_row_tie : Rows.fnPutUnaryRow.laidByTextAt .later Tryd.pinned [.sentinel, .sentinel, .sentinel, .sentinel] true :=
  OpenClaim.laidByTextAt_later rfl rfl tie2 noOwnUnsafe
theorem fnPutRice_row_tie : Rows.fnPutRiceRow.laidByTextAt .later Tryd.pinned [.sentinel, .sentinel, .sentinel, .sentinel] true :=
  OpenClaim.laidByTextAt_later rfl rfl tie2 noOwnUnsafe
theorem fnGetRice_row_tie : Rows.fnGetRiceRow.laidByTextAt .later Tryd.pinned [.sentinel, .sentinel, .sentinel, .sentinel] true :=
  OpenClaim.laidByTextAt_later rfl rfl tie2 noOwnUnsafe
theorem tie3 : Tryd.prog.laidByTextLater [("loop.example/losslessaudio/impl.errBits", Rows.laid_loop_example_losslessaudio_impl_errBits), ("loop.example/losslessaudio/impl.errNumber", Rows.laid_loop_example_losslessaudio_impl_errNumber), ("loop.example/losslessaudio/impl.errEnd", Rows.laid_loop_example_losslessaudio_impl_errEnd)] [.sentinel, .sentinel, .sentinel] true :=
  Program.laidByTextLater.sub seatTie1 ["loop.example/losslessaudio/impl.errBits", "loop.example/losslessaudio/impl.errNumber", "loop.example/losslessaudio/impl.errEnd"] (by kernel_rfl) (by kernel_rfl)
theorem fnGetUnary_row_tie : Rows.fnGetUnaryRow.laidByTextAt .later Tryd.pinned [.sentinel, .sentinel, .sentinel] true :=
  OpenClaim.laidByTextAt_later rfl rfl tie3 noOwnUnsafe
theorem fnExactGetUnary_row_tie : Rows.fnExactGetUnaryRow.laidByTextAt .later Tryd.pinned [.sentinel, .sentinel, .sentinel] true :=
  OpenClaim.laidByTextAt_later rfl rfl tie3 noOwnUnsafe
theorem fnExactGetRice_row_tie : Rows.fnExactGetRiceRow.laidByTextAt .later Tryd.pinned [.sentinel, .sentinel, .sentinel] true :=
  OpenClaim.laidByTextAt_later rfl rfl tie3 noOwnUnsafe
theorem fnRiceLengthUpto_row_tie : Rows.fnRiceLengthUptoRow.laidByTextAt .later Tryd.pinned [.sentinel, .sentinel, .sentinel] true :=
  OpenClaim.laidByTextAt_later rfl rfl tie noOwnUnsafe
theorem fnPutUnaryUpto_row_tie : Rows.fnPutUnaryUptoRow.laidByTextAt .later Tryd.pinned [.sentinel, .sentinel, .sentinel, .sentinel] true :=
  OpenClaim.laidByTextAt_later rfl rfl tie2 noOwnUnsafe
theorem fnGetUnaryUpto_row_tie : Rows.fnGetUnaryUptoRow.laidByTextAt .later Tryd.pinned [.sentinel, .sentinel, .sentinel] true :=
  OpenClaim.laidByTextAt_later rfl rfl tie3 noOwnUnsafe
theorem fnPutRiceUpto_row_tie : Rows.fnPutRiceUptoRow.laidByTextAt .later Tryd.pinned [.sentinel, .sentinel, .sentinel, .sentinel] true :=
  OpenClaim.laidByTextAt_later rfl rfl tie2 noOwnUnsafe
theorem fnGetRiceUpto_row_tie : Rows.fnGetRiceUptoRow.laidByTextAt .later Tryd.pinned [.sentinel, .sentinel, .sentinel, .sentinel] true :=
  OpenClaim.laidByTextAt_later rfl rfl tie2 noOwnUnsafe
theorem fnExactPutUnaryUpto_row_tie : Rows.fnExactPutUnaryUptoRow.laidByTextAt .later Tryd.pinned [.sentinel, .sentinel, .sentinel] true :=
  OpenClaim.laidByTextAt_later rfl rfl tie noOwnUnsafe
theorem fnExactGetUnaryUpto_row_tie : Rows.fnExactGetUnaryUptoRow.laidByTextAt .later Tryd.pinned [.sentinel, .sentinel, .sentinel] true :=
  OpenClaim.laidByTextAt_later rfl rfl tie3 noOwnUnsafe
theorem fnExactPutRiceUpto_row_tie : Rows.fnExactPutRiceUptoRow.laidByTextAt .later Tryd.pinned [.sentinel, .sentinel, .sentinel] true :=
  OpenClaim.laidByTextAt_later rfl rfl tie noOwnUnsafe
theorem fnExactGetRiceUpto_row_tie : Rows.fnExactGetRiceUptoRow.laidByTextAt .later Tryd.pinned [.sentinel, .sentinel, .sentinel] true :=
  OpenClaim.laidByTextAt_later rfl rfl tie3 noOwnUnsafe
end Go.Proofs.YtdbneenlejgjcaaDoor
