import Derived.Test.YtioggmjocelolaaHexV
import Derived.Test.YtioggmjocelolaaB64Fns
namespace Go.Proofs.Ytioggmjocelolaa
open Go.RowKit

set_option maxHeartbeats 400000 in
set_option maxRecDepth 100000 in
theorem letterValue_any (c : Int) (w : World) (h0 : 0 ≤ c) (h1 : c < 256) : Calls Try.prog 35 #[.int .u8 c] w fun e w' => e = .returned (.int .i64 (letV c)) ∧ w' = w := by
  have hrun : ∀ w : World, (callFunc 38 #[.string (ByteArray.mk lettersL.toArray), .int .u8 c]).run Try.prog w = .ok (.value (.int .i64 (letV c))) w := by
    intro w
    rw [run_callFunc_indexByte Try.func38 (by kernel_rfl) (by kernel_rfl) (by kernel_rfl) (by kernel_rfl), Lib.run_indexByteString]
    have hval : Lib.indexByte lettersL c.toNat.toUInt8 = letV c := letV_at c h0 h1
    simp [hval]
  have hl : ByteArray.mk lettersL.toArray = ByteArray.mk #[65, 66, 67, 68, 69, 70, 71, 72, 73, 74, 75, 76, 77, 78, 79, 80, 81, 82, 83, 84, 85, 86, 87, 88, 89, 90, 97, 98, 99, 100, 101, 102, 103, 104, 105, 106, 107, 108, 109, 110, 111, 112, 113, 114, 115, 116, 117, 118, 119, 120, 121, 122, 48, 49, 50, 51, 52, 53, 54, 55, 56, 57, 43, 47] := rfl
  rw [hl] at hrun
  clear hl
  go_enter Try.func35, Try.ntmps35
  go_wp2
  go_ret
  exact ⟨rfl, rfl⟩
end Go.Proofs.Ytioggmjocelolaa
