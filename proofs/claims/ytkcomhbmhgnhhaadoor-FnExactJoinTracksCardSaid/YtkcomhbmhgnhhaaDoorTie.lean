/-
  DERIVED. GIVEN WITH THE SEED: THE PROGRAM's TIES (one call each: nine closed facts by the kernel) AND EACH ROW's TIE, after the 31st guide's Derived/Test/Toyas{Tie, Card}.lean. No idea stands in it: it is a product of the set-up. Laid BY PROGRAM, IN A SANDBOX (cutbox-door.mjs). By AI agents, Wed Nov 11 2026. No macro, syntax, notation, axiom, sorry.
-/
import Derived.Test.YtkcomhbmhgnhhaaDoorRows
import Derived.LaidByTextLater
import Derived.SevenTiedAt
import Derived.LaidSub
import Derived.LaidOnce
namespace Go.Proofs.YtkcomhbmhgnhhaaDoor
open Go
set_option maxRecDepth 100000
theorem seatTie1 : Tryd.prog.laidByTextLater [("loop.example/g01340/impl.errInvalid", Rows.laid_loop_example_g01340_impl_errInvalid), ("loop.example/g01340/impl.errRange", Rows.laid_loop_example_g01340_impl_errRange), ("loop.example/g01340/impl.errLimit", Rows.laid_loop_example_g01340_impl_errLimit), ("loop.example/g01340/impl.errState", Rows.laid_loop_example_g01340_impl_errState), ("loop.example/g01340/impl.errSyntax", Rows.laid_loop_example_g01340_impl_errSyntax)] [.sentinel, .sentinel, .sentinel, .sentinel, .sentinel] true :=
  Program.laidByTextLater_by_one 104 8 2 (by kernel_rfl) (by kernel_rfl) (by kernel_rfl) (by kernel_rfl) (by kernel_rfl) (by kernel_rfl) (fun _ _ => by kernel_rfl)
theorem noOwnUnsafe : Tryd.pinned.checked.prog.headLifts.contains "ownunsafe" = false := by kernel_rfl
theorem tie : Tryd.prog.laidByTextLater [("loop.example/g01340/impl.errInvalid", Rows.laid_loop_example_g01340_impl_errInvalid), ("loop.example/g01340/impl.errRange", Rows.laid_loop_example_g01340_impl_errRange), ("loop.example/g01340/impl.errLimit", Rows.laid_loop_example_g01340_impl_errLimit), ("loop.example/g01340/impl.errState", Rows.laid_loop_example_g01340_impl_errState), ("loop.example/g01340/impl.errSyntax", Rows.laid_loop_example_g01340_impl_errSyntax)] [.sentinel, .sentinel, .sentinel, .sentinel, .sentinel] true :=
  Program.laidByTextLater.sub seatTie1 ["loop.example/g01340/impl.errInvalid", "loop.example/g01340/impl.errRange", "loop.example/g01340/impl.errLimit", "loop.example/g01340/impl.errState", "loop.example/g01340/impl.errSyntax"] (by kernel_rfl) (by kernel_rfl)
theorem fnExactJoinTracks_row_tie : Rows.fnExactJoinTracksRow.laidByTextAt .later Tryd.pinned [.sentinel, .sentinel, .sentinel, .sentinel, .sentinel] true :=
  OpenClaim.laidByTextAt_later rfl rfl tie noOwnUnsafe
theorem fnExactThinTrack_row_tie : Rows.fnExactThinTrackRow.laidByTextAt .later Tryd.pinned [.sentinel, .sentinel, .sentinel, .sentinel, .sentinel] true :=
  OpenClaim.laidByTextAt_later rfl rfl tie noOwnUnsafe
theorem fnExactFrameAt_row_tie : Rows.fnExactFrameAtRow.laidByTextAt .later Tryd.pinned [.sentinel, .sentinel, .sentinel, .sentinel, .sentinel] true :=
  OpenClaim.laidByTextAt_later rfl rfl tie noOwnUnsafe
theorem fnExactJoinTracksUpto_row_tie : Rows.fnExactJoinTracksUptoRow.laidByTextAt .later Tryd.pinned [.sentinel, .sentinel, .sentinel, .sentinel, .sentinel] true :=
  OpenClaim.laidByTextAt_later rfl rfl tie noOwnUnsafe
theorem fnExactThinTrackUpto_row_tie : Rows.fnExactThinTrackUptoRow.laidByTextAt .later Tryd.pinned [.sentinel, .sentinel, .sentinel, .sentinel, .sentinel] true :=
  OpenClaim.laidByTextAt_later rfl rfl tie noOwnUnsafe
theorem fnExactFrameAtUpto_row_tie : Rows.fnExactFrameAtUptoRow.laidByTextAt .later Tryd.pinned [.sentinel, .sentinel, .sentinel, .sentinel, .sentinel] true :=
  OpenClaim.laidByTextAt_later rfl rfl tie noOwnUnsafe
end Go.Proofs.YtkcomhbmhgnhhaaDoor
