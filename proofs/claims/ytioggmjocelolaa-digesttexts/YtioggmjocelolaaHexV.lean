import Derived.Test.YtioggmjocelolaaHex
namespace Go.Proofs.Ytioggmjocelolaa
open Go.RowKit

set_option maxHeartbeats 400000 in
theorem hexValue_any (c : Int) (w : World) (h0 : 0 ≤ c) (h1 : c ≤ 255) : Calls Try.prog 26 #[.int .u8 c] w fun e w' => e = .returned (.int .i64 (hexV c)) ∧ w' = w := by
  by_cases b0 : c ≤ 47
  · have hv : hexV c = -1 := by simp only [hexV]; (repeat rw [if_neg (by omega)]); (try rw [if_pos (by omega)])
    rw [hv]
    clear hv
    have lo : 0 ≤ c := by omega
    have hi : c ≤ 47 := by omega
    clear h0 h1 b0
    go_enter Try.func26, Try.ntmps26
    go_wp2
    go_ret
    exact ⟨by first | rfl | exact congrArg (fun z => Ending.returned (Value.int .i64 z)) (by first | rfl | omega), rfl⟩
  by_cases b1 : c ≤ 57
  · have hv : hexV c = c - 48 := by simp only [hexV]; (repeat rw [if_neg (by omega)]); (try rw [if_pos (by omega)])
    rw [hv]
    clear hv
    have lo : 48 ≤ c := by omega
    have hi : c ≤ 57 := by omega
    clear h0 h1 b0 b1
    go_enter Try.func26, Try.ntmps26
    go_wp2
    go_ret
    exact ⟨by first | rfl | exact congrArg (fun z => Ending.returned (Value.int .i64 z)) (by first | rfl | omega), rfl⟩
  by_cases b2 : c ≤ 64
  · have hv : hexV c = -1 := by simp only [hexV]; (repeat rw [if_neg (by omega)]); (try rw [if_pos (by omega)])
    rw [hv]
    clear hv
    have lo : 58 ≤ c := by omega
    have hi : c ≤ 64 := by omega
    clear h0 h1 b0 b1 b2
    go_enter Try.func26, Try.ntmps26
    go_wp2
    go_ret
    exact ⟨by first | rfl | exact congrArg (fun z => Ending.returned (Value.int .i64 z)) (by first | rfl | omega), rfl⟩
  by_cases b3 : c ≤ 70
  · have hv : hexV c = c - 55 := by simp only [hexV]; (repeat rw [if_neg (by omega)]); (try rw [if_pos (by omega)])
    rw [hv]
    clear hv
    have lo : 65 ≤ c := by omega
    have hi : c ≤ 70 := by omega
    clear h0 h1 b0 b1 b2 b3
    go_enter Try.func26, Try.ntmps26
    go_wp2
    go_ret
    exact ⟨by first | rfl | exact congrArg (fun z => Ending.returned (Value.int .i64 z)) (by first | rfl | omega), rfl⟩
  by_cases b4 : c ≤ 96
  · have hv : hexV c = -1 := by simp only [hexV]; (repeat rw [if_neg (by omega)]); (try rw [if_pos (by omega)])
    rw [hv]
    clear hv
    have lo : 71 ≤ c := by omega
    have hi : c ≤ 96 := by omega
    clear h0 h1 b0 b1 b2 b3 b4
    go_enter Try.func26, Try.ntmps26
    go_wp2
    go_ret
    exact ⟨by first | rfl | exact congrArg (fun z => Ending.returned (Value.int .i64 z)) (by first | rfl | omega), rfl⟩
  by_cases b5 : c ≤ 102
  · have hv : hexV c = c - 87 := by simp only [hexV]; (repeat rw [if_neg (by omega)]); (try rw [if_pos (by omega)])
    rw [hv]
    clear hv
    have lo : 97 ≤ c := by omega
    have hi : c ≤ 102 := by omega
    clear h0 h1 b0 b1 b2 b3 b4 b5
    go_enter Try.func26, Try.ntmps26
    go_wp2
    go_ret
    exact ⟨by first | rfl | exact congrArg (fun z => Ending.returned (Value.int .i64 z)) (by first | rfl | omega), rfl⟩
  have hv : hexV c = -1 := by simp only [hexV]; (repeat rw [if_neg (by omega)]); (try rw [if_pos (by omega)])
  rw [hv]
  clear hv
  have lo : 103 ≤ c := by omega
  have hi : c ≤ 255 := by omega
  clear h0 h1 b0 b1 b2 b3 b4 b5
  go_enter Try.func26, Try.ntmps26
  go_wp2
  go_ret
  exact ⟨by first | rfl | exact congrArg (fun z => Ending.returned (Value.int .i64 z)) (by first | rfl | omega), rfl⟩

set_option maxHeartbeats 400000 in
theorem digit_any (c : Int) (w : World) (h0 : 0 ≤ c) (h1 : c ≤ 255) : Calls Try.prog 31 #[.int .u8 c] w fun e w' => e = .returned (.int .i64 (hexV c)) ∧ w' = w := by
  by_cases b0 : c ≤ 47
  · have hv : hexV c = -1 := by simp only [hexV]; (repeat rw [if_neg (by omega)]); (try rw [if_pos (by omega)])
    rw [hv]
    clear hv
    have lo : 0 ≤ c := by omega
    have hi : c ≤ 47 := by omega
    clear h0 h1 b0
    go_enter Try.func31, Try.ntmps31
    go_wp2
    go_ret
    exact ⟨by first | rfl | exact congrArg (fun z => Ending.returned (Value.int .i64 z)) (by first | rfl | omega), rfl⟩
  by_cases b1 : c ≤ 57
  · have hv : hexV c = c - 48 := by simp only [hexV]; (repeat rw [if_neg (by omega)]); (try rw [if_pos (by omega)])
    rw [hv]
    clear hv
    have lo : 48 ≤ c := by omega
    have hi : c ≤ 57 := by omega
    clear h0 h1 b0 b1
    go_enter Try.func31, Try.ntmps31
    go_wp2
    go_ret
    exact ⟨by first | rfl | exact congrArg (fun z => Ending.returned (Value.int .i64 z)) (by first | rfl | omega), rfl⟩
  by_cases b2 : c ≤ 64
  · have hv : hexV c = -1 := by simp only [hexV]; (repeat rw [if_neg (by omega)]); (try rw [if_pos (by omega)])
    rw [hv]
    clear hv
    have lo : 58 ≤ c := by omega
    have hi : c ≤ 64 := by omega
    clear h0 h1 b0 b1 b2
    go_enter Try.func31, Try.ntmps31
    go_wp2
    go_ret
    exact ⟨by first | rfl | exact congrArg (fun z => Ending.returned (Value.int .i64 z)) (by first | rfl | omega), rfl⟩
  by_cases b3 : c ≤ 70
  · have hv : hexV c = c - 55 := by simp only [hexV]; (repeat rw [if_neg (by omega)]); (try rw [if_pos (by omega)])
    rw [hv]
    clear hv
    have lo : 65 ≤ c := by omega
    have hi : c ≤ 70 := by omega
    clear h0 h1 b0 b1 b2 b3
    go_enter Try.func31, Try.ntmps31
    go_wp2
    go_ret
    exact ⟨by first | rfl | exact congrArg (fun z => Ending.returned (Value.int .i64 z)) (by first | rfl | omega), rfl⟩
  by_cases b4 : c ≤ 96
  · have hv : hexV c = -1 := by simp only [hexV]; (repeat rw [if_neg (by omega)]); (try rw [if_pos (by omega)])
    rw [hv]
    clear hv
    have lo : 71 ≤ c := by omega
    have hi : c ≤ 96 := by omega
    clear h0 h1 b0 b1 b2 b3 b4
    go_enter Try.func31, Try.ntmps31
    go_wp2
    go_ret
    exact ⟨by first | rfl | exact congrArg (fun z => Ending.returned (Value.int .i64 z)) (by first | rfl | omega), rfl⟩
  by_cases b5 : c ≤ 102
  · have hv : hexV c = c - 87 := by simp only [hexV]; (repeat rw [if_neg (by omega)]); (try rw [if_pos (by omega)])
    rw [hv]
    clear hv
    have lo : 97 ≤ c := by omega
    have hi : c ≤ 102 := by omega
    clear h0 h1 b0 b1 b2 b3 b4 b5
    go_enter Try.func31, Try.ntmps31
    go_wp2
    go_ret
    exact ⟨by first | rfl | exact congrArg (fun z => Ending.returned (Value.int .i64 z)) (by first | rfl | omega), rfl⟩
  have hv : hexV c = -1 := by simp only [hexV]; (repeat rw [if_neg (by omega)]); (try rw [if_pos (by omega)])
  rw [hv]
  clear hv
  have lo : 103 ≤ c := by omega
  have hi : c ≤ 255 := by omega
  clear h0 h1 b0 b1 b2 b3 b4 b5
  go_enter Try.func31, Try.ntmps31
  go_wp2
  go_ret
  exact ⟨by first | rfl | exact congrArg (fun z => Ending.returned (Value.int .i64 z)) (by first | rfl | omega), rfl⟩

set_option maxHeartbeats 400000 in
theorem num_any (e : Int) (w : World) : Calls Try.prog 15 #[.int .i64 e] w fun r w' => r = .returned (.int .i64 e) ∧ w' = w := by
  go_enter Try.func15, Try.ntmps15
  go_wp2
  go_ret
  exact ⟨rfl, rfl⟩
end Go.Proofs.Ytioggmjocelolaa
