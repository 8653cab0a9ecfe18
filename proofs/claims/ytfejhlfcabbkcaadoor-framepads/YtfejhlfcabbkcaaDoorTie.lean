/-
  DERIVED. GIVEN WITH THE SEED: THE PROGRAM's TIES (one call each: nine closed facts by the kernel) AND EACH ROW's TIE, after the 31st guide's Derived/Test/Toyas{Tie, Card}.lean. No idea stands in it: it is a product of the set-up. Laid BY PROGRAM, IN A SANDBOX (cutbox-door.mjs). By AI agents, Wed Nov 11 2026. No macro, syntax, notation, axiom, sorry.
-/
import Derived.Test.YtfejhlfcabbkcaaDoorRows
import Derived.LaidByTextLater
import Derived.SevenTiedAt
import Derived.LaidSub
import Derived.LaidOnce
namespace Go.Proofs.YtfejhlfcabbkcaaDoor
open Go
set_option maxRecDepth 100000
theorem seatTie1 : Tryd.prog.laidByTextLater [("errors.errorType", Rows.laid_errors_errorType), ("caravel/octet.widths", Rows.laid_caravel_octet_widths), ("caravel/frame.errWide", Rows.laid_caravel_frame_errWide)] [.handle, .data, .sentinel] true :=
  Program.laidByTextLater_by_one 40 8 5 (by kernel_rfl) (by kernel_rfl) (by kernel_rfl) (by kernel_rfl) (by kernel_rfl) (by kernel_rfl) (fun _ _ => by kernel_rfl)
theorem noOwnUnsafe : Tryd.pinned.checked.prog.headLifts.contains "ownunsafe" = false := by kernel_rfl
theorem tie : Tryd.prog.laidByTextLater [("errors.errorType", Rows.laid_errors_errorType), ("caravel/octet.widths", Rows.laid_caravel_octet_widths), ("caravel/frame.errWide", Rows.laid_caravel_frame_errWide)] [.handle, .data, .sentinel] true :=
  Program.laidByTextLater.sub seatTie1 ["errors.errorType", "caravel/octet.widths", "caravel/frame.errWide"] (by kernel_rfl) (by kernel_rfl)
theorem framePads_row_tie : Rows.framePadsRow.laidByTextAt .later Tryd.pinned [.handle, .data, .sentinel] true :=
  OpenClaim.laidByTextAt_later rfl rfl tie noOwnUnsafe
theorem framePadsUpto_row_tie : Rows.framePadsUptoRow.laidByTextAt .later Tryd.pinned [.handle, .data, .sentinel] true :=
  OpenClaim.laidByTextAt_later rfl rfl tie noOwnUnsafe
end Go.Proofs.YtfejhlfcabbkcaaDoor
