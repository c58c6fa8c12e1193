/-
  DERIVED. GIVEN WITH THE SEED: THE PROGRAM's TIES (one call each: nine closed facts by the kernel) AND EACH ROW's TIE, after the 31st guide's Derived/Test/Toyas{Tie, Card}.lean. No idea stands in it: it is a product of the set-up. Laid BY PROGRAM, IN A SANDBOX (cutbox-door.mjs). By AI agents, Wed Nov 11 2026. No macro, syntax, notation, axiom, sorry.
-/
import Derived.Test.YtabnipbdbnmmpaaGreatDoorRows
import Derived.LaidByTextLater
import Derived.SevenTiedAt
import Derived.LaidSub
import Derived.LaidOnce
namespace Go.Proofs.YtabnipbdbnmmpaaGreatDoor
open Go
set_option maxRecDepth 100000
theorem seatTie1 : Tryz.prog.laidByTextLater [("hartix/elf.headFields", Rows.laid_hartix_elf_headFields), ("hartix/elf.segFields", Rows.laid_hartix_elf_segFields), ("hartix/exec.sameRights", Rows.laid_hartix_exec_sameRights)] [.wider, .wider, .data] true :=
  Program.laidByTextLater_by_one 47 8 37 (by kernel_rfl) (by kernel_rfl) (by kernel_rfl) (by kernel_rfl) (by kernel_rfl) (by kernel_rfl) (fun _ _ => by kernel_rfl)
theorem noOwnUnsafe : Tryz.pinned.checked.prog.headLifts.contains "ownunsafe" = false := by kernel_rfl
theorem tie : Tryz.prog.laidByTextLater [("hartix/elf.headFields", Rows.laid_hartix_elf_headFields), ("hartix/elf.segFields", Rows.laid_hartix_elf_segFields), ("hartix/exec.sameRights", Rows.laid_hartix_exec_sameRights)] [.wider, .wider, .data] true :=
  Program.laidByTextLater.sub seatTie1 ["hartix/elf.headFields", "hartix/elf.segFields", "hartix/exec.sameRights"] (by kernel_rfl) (by kernel_rfl)
theorem execTwice_row_tie : Rows.execTwiceRow.laidByTextAt .later Tryz.pinned [.wider, .wider, .data] true :=
  OpenClaim.laidByTextAt_later rfl rfl tie noOwnUnsafe
theorem execShows_row_tie : Rows.execShowsRow.laidByTextAt .later Tryz.pinned [.wider, .wider, .data] true :=
  OpenClaim.laidByTextAt_later rfl rfl tie noOwnUnsafe
theorem execLoads_row_tie : Rows.execLoadsRow.laidByTextAt .later Tryz.pinned [.wider, .wider, .data] true :=
  OpenClaim.laidByTextAt_later rfl rfl tie noOwnUnsafe
theorem execTwiceUpto_row_tie : Rows.execTwiceUptoRow.laidByTextAt .later Tryz.pinned [.wider, .wider, .data] true :=
  OpenClaim.laidByTextAt_later rfl rfl tie noOwnUnsafe
theorem execShowsUpto_row_tie : Rows.execShowsUptoRow.laidByTextAt .later Tryz.pinned [.wider, .wider, .data] true :=
  OpenClaim.laidByTextAt_later rfl rfl tie noOwnUnsafe
theorem execLoadsUpto_row_tie : Rows.execLoadsUptoRow.laidByTextAt .later Tryz.pinned [.wider, .wider, .data] true :=
  OpenClaim.laidByTextAt_later rfl rfl tie noOwnUnsafe
end Go.Proofs.YtabnipbdbnmmpaaGreatDoor
