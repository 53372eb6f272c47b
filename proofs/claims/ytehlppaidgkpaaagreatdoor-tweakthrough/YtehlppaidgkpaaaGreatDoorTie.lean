/-
  DERIVED. GIVEN WITH THE SEED: THE PROGRAM's TIES (one call each: nine closed facts by the kernel) AND EACH ROW's TIE, after the 31st guide's Derived/Test/Toyas{Tie, Card}.lean. No idea stands in it: it is a product of the set-up. Laid BY PROGRAM, IN A SANDBOX (cutbox-door.mjs). By AI agents, Wed Nov 11 2026. No macro, syntax, notation, axiom, sorry.
-/
import Derived.Test.YtehlppaidgkpaaaGreatDoorRows
import Derived.LaidByTextLater
import Derived.SevenTiedAt
import Derived.LaidSub
import Derived.LaidOnce
namespace Go.Proofs.YtehlppaidgkpaaaGreatDoor
open Go
set_option maxRecDepth 100000
theorem seatTie1 : Tryz.prog.laidByTextLater [("coffer/cofferref01.cubes", Rows.laid_coffer_cofferref01_cubes), ("coffer/cofferref01.squares", Rows.laid_coffer_cofferref01_squares), ("math/bits.deBruijn32tab", Rows.laid_math_bits_deBruijn32tab), ("math/bits.deBruijn64tab", Rows.laid_math_bits_deBruijn64tab), ("internal/strconv.uint64pow10", Rows.laid_internal_strconv_uint64pow10), ("coffer/cofferref03.modes", Rows.laid_coffer_cofferref03_modes), ("coffer/rijndael.rcon", Rows.laid_coffer_rijndael_rcon), ("coffer/digest.roots", Rows.laid_coffer_digest_roots), ("coffer/digest.cubes", Rows.laid_coffer_digest_cubes)] [.data, .data, .data, .data, .data, .data, .called, .data, .data] true :=
  Program.laidByTextLater_by_one 502 8 81 (by kernel_rfl) (by kernel_rfl) (by kernel_rfl) (by kernel_rfl) (by kernel_rfl) (by kernel_rfl) (fun _ _ => by kernel_rfl)
theorem noOwnUnsafe : Tryz.pinned.checked.prog.headLifts.contains "ownunsafe" = false := by kernel_rfl
theorem tie : Tryz.prog.laidByTextLater [("coffer/cofferref01.cubes", Rows.laid_coffer_cofferref01_cubes), ("coffer/cofferref01.squares", Rows.laid_coffer_cofferref01_squares), ("math/bits.deBruijn32tab", Rows.laid_math_bits_deBruijn32tab), ("math/bits.deBruijn64tab", Rows.laid_math_bits_deBruijn64tab), ("internal/strconv.uint64pow10", Rows.laid_internal_strconv_uint64pow10), ("coffer/cofferref03.modes", Rows.laid_coffer_cofferref03_modes), ("coffer/rijndael.rcon", Rows.laid_coffer_rijndael_rcon), ("coffer/digest.roots", Rows.laid_coffer_digest_roots), ("coffer/digest.cubes", Rows.laid_coffer_digest_cubes)] [.data, .data, .data, .data, .data, .data, .called, .data, .data] true :=
  Program.laidByTextLater.sub seatTie1 ["coffer/cofferref01.cubes", "coffer/cofferref01.squares", "math/bits.deBruijn32tab", "math/bits.deBruijn64tab", "internal/strconv.uint64pow10", "coffer/cofferref03.modes", "coffer/rijndael.rcon", "coffer/digest.roots", "coffer/digest.cubes"] (by kernel_rfl) (by kernel_rfl)
theorem tweakBlocks_row_tie : Rows.tweakBlocksRow.laidByTextAt .later Tryz.pinned [.data, .data, .data, .data, .data, .data, .called, .data, .data] true :=
  OpenClaim.laidByTextAt_later rfl rfl tie noOwnUnsafe
theorem tweakFlips_row_tie : Rows.tweakFlipsRow.laidByTextAt .later Tryz.pinned [.data, .data, .data, .data, .data, .data, .called, .data, .data] true :=
  OpenClaim.laidByTextAt_later rfl rfl tie noOwnUnsafe
theorem tweakSteals_row_tie : Rows.tweakStealsRow.laidByTextAt .later Tryz.pinned [.data, .data, .data, .data, .data, .data, .called, .data, .data] true :=
  OpenClaim.laidByTextAt_later rfl rfl tie noOwnUnsafe
theorem tweakBack_row_tie : Rows.tweakBackRow.laidByTextAt .later Tryz.pinned [.data, .data, .data, .data, .data, .data, .called, .data, .data] true :=
  OpenClaim.laidByTextAt_later rfl rfl tie noOwnUnsafe
theorem tweakThrough_row_tie : Rows.tweakThroughRow.laidByTextAt .later Tryz.pinned [.data, .data, .data, .data, .data, .data, .called, .data, .data] true :=
  OpenClaim.laidByTextAt_later rfl rfl tie noOwnUnsafe
theorem tweakStarts_row_tie : Rows.tweakStartsRow.laidByTextAt .later Tryz.pinned [.data, .data, .data, .data, .data, .data, .called, .data, .data] true :=
  OpenClaim.laidByTextAt_later rfl rfl tie noOwnUnsafe
theorem tweakBlocksUpto_row_tie : Rows.tweakBlocksUptoRow.laidByTextAt .later Tryz.pinned [.data, .data, .data, .data, .data, .data, .called, .data, .data] true :=
  OpenClaim.laidByTextAt_later rfl rfl tie noOwnUnsafe
theorem tweakFlipsUpto_row_tie : Rows.tweakFlipsUptoRow.laidByTextAt .later Tryz.pinned [.data, .data, .data, .data, .data, .data, .called, .data, .data] true :=
  OpenClaim.laidByTextAt_later rfl rfl tie noOwnUnsafe
theorem tweakStealsUpto_row_tie : Rows.tweakStealsUptoRow.laidByTextAt .later Tryz.pinned [.data, .data, .data, .data, .data, .data, .called, .data, .data] true :=
  OpenClaim.laidByTextAt_later rfl rfl tie noOwnUnsafe
theorem tweakBackUpto_row_tie : Rows.tweakBackUptoRow.laidByTextAt .later Tryz.pinned [.data, .data, .data, .data, .data, .data, .called, .data, .data] true :=
  OpenClaim.laidByTextAt_later rfl rfl tie noOwnUnsafe
theorem tweakThroughUpto_row_tie : Rows.tweakThroughUptoRow.laidByTextAt .later Tryz.pinned [.data, .data, .data, .data, .data, .data, .called, .data, .data] true :=
  OpenClaim.laidByTextAt_later rfl rfl tie noOwnUnsafe
theorem tweakStartsUpto_row_tie : Rows.tweakStartsUptoRow.laidByTextAt .later Tryz.pinned [.data, .data, .data, .data, .data, .data, .called, .data, .data] true :=
  OpenClaim.laidByTextAt_later rfl rfl tie noOwnUnsafe
end Go.Proofs.YtehlppaidgkpaaaGreatDoor
