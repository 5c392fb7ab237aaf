/-
  DERIVED. GIVEN WITH THE SEED: THE PROGRAM's TIES (one call each: nine closed facts by the kernel) AND EACH ROW's TIE, after the 31st guide's Derived/Test/Toyas{Tie, Card}.lean. No idea stands in it: it is a product of the set-up. Laid BY PROGRAM, IN A SANDBOX (cutbox-door.mjs). By AI agents, Wed Nov 11 2026. No macro, syntax, notation, axiom, sorry.
-/
import Derived.Test.YtkkhjeigndcmaaaDoorRows
import Derived.LaidByTextLater
import Derived.SevenTiedAt
import Derived.LaidSub
import Derived.LaidOnce
namespace Go.Proofs.YtkkhjeigndcmaaaDoor
open Go
set_option maxRecDepth 100000
theorem seatTie1 : Tryd.prog.laidByTextLater [("loop.example/g00634/impl.roundKeys", Rows.laid_loop_example_g00634_impl_roundKeys), ("loop.example/g00634/impl.errRipLong", Rows.laid_loop_example_g00634_impl_errRipLong), ("loop.example/g00634/impl.errRipForm", Rows.laid_loop_example_g00634_impl_errRipForm), ("loop.example/g00634/impl.errRipShort", Rows.laid_loop_example_g00634_impl_errRipShort), ("loop.example/g00634/impl.errRipMac", Rows.laid_loop_example_g00634_impl_errRipMac), ("loop.example/g00634/impl.errRipNone", Rows.laid_loop_example_g00634_impl_errRipNone), ("loop.example/g00634/impl.errRipOld", Rows.laid_loop_example_g00634_impl_errRipOld)] [.data, .sentinel, .sentinel, .sentinel, .sentinel, .sentinel, .sentinel] true :=
  Program.laidByTextLater_by_one 128 8 65 (by kernel_rfl) (by kernel_rfl) (by kernel_rfl) (by kernel_rfl) (by kernel_rfl) (by kernel_rfl) (fun _ _ => by kernel_rfl)
theorem noOwnUnsafe : Tryd.pinned.checked.prog.headLifts.contains "ownunsafe" = false := by kernel_rfl
theorem tie : Tryd.prog.laidByTextLater [("loop.example/g00634/impl.roundKeys", Rows.laid_loop_example_g00634_impl_roundKeys), ("loop.example/g00634/impl.errRipLong", Rows.laid_loop_example_g00634_impl_errRipLong), ("loop.example/g00634/impl.errRipForm", Rows.laid_loop_example_g00634_impl_errRipForm), ("loop.example/g00634/impl.errRipShort", Rows.laid_loop_example_g00634_impl_errRipShort), ("loop.example/g00634/impl.errRipMac", Rows.laid_loop_example_g00634_impl_errRipMac), ("loop.example/g00634/impl.errRipNone", Rows.laid_loop_example_g00634_impl_errRipNone), ("loop.example/g00634/impl.errRipOld", Rows.laid_loop_example_g00634_impl_errRipOld)] [.data, .sentinel, .sentinel, .sentinel, .sentinel, .sentinel, .sentinel] true :=
  Program.laidByTextLater.sub seatTie1 ["loop.example/g00634/impl.roundKeys", "loop.example/g00634/impl.errRipLong", "loop.example/g00634/impl.errRipForm", "loop.example/g00634/impl.errRipShort", "loop.example/g00634/impl.errRipMac", "loop.example/g00634/impl.errRipNone", "loop.example/g00634/impl.errRipOld"] (by kernel_rfl) (by kernel_rfl)
theorem fnExactRipOpen_row_tie : Rows.fnExactRipOpenRow.laidByTextAt .later Tryd.pinned [.data, .sentinel, .sentinel, .sentinel, .sentinel, .sentinel, .sentinel] true :=
  OpenClaim.laidByTextAt_later rfl rfl tie noOwnUnsafe
theorem fnExactRipOpenUpto_row_tie : Rows.fnExactRipOpenUptoRow.laidByTextAt .later Tryd.pinned [.data, .sentinel, .sentinel, .sentinel, .sentinel, .sentinel, .sentinel] true :=
  OpenClaim.laidByTextAt_later rfl rfl tie noOwnUnsafe
end Go.Proofs.YtkkhjeigndcmaaaDoor
