import Derived.Test.YtioggmjocelolaaTexts
namespace Go.Proofs.Ytioggmjocelolaa
open Go.RowKit

set_option maxHeartbeats 400000 in
theorem worth_any (c : Int) (w : World) (h0 : 0 ≤ c) (h1 : c ≤ 255) : Calls Try.prog 33 #[.int .u8 c] w fun e w' => e = .returned (.int .i64 (letV c)) ∧ w' = w := by
  by_cases b0 : c ≤ 42
  · have hv : letV c = -1 := by simp only [letV]; (repeat rw [if_neg (by omega)]); (try rw [if_pos (by omega)])
    rw [hv]
    clear hv
    have lo : 0 ≤ c := by omega
    have hi : c ≤ 42 := by omega
    have q0 : (c == 43) = false := by rw [beq_eq_false_iff_ne]; omega
    have q1 : (c == 47) = false := by rw [beq_eq_false_iff_ne]; omega
    clear h0 h1 b0
    go_enter Try.func33, Try.ntmps33
    go_wp2
    go_ret
    exact ⟨by first | rfl | exact congrArg (fun z => Ending.returned (Value.int .i64 z)) (by first | rfl | omega), rfl⟩
  by_cases b1 : c ≤ 43
  · obtain rfl : c = 43 := by omega
    go_enter Try.func33, Try.ntmps33
    go_wp2
    go_ret
    exact ⟨by first | rfl | exact congrArg (fun z => Ending.returned (Value.int .i64 z)) (by first | rfl | omega), rfl⟩
  by_cases b2 : c ≤ 46
  · have hv : letV c = -1 := by simp only [letV]; (repeat rw [if_neg (by omega)]); (try rw [if_pos (by omega)])
    rw [hv]
    clear hv
    have lo : 44 ≤ c := by omega
    have hi : c ≤ 46 := by omega
    have q0 : (c == 43) = false := by rw [beq_eq_false_iff_ne]; omega
    have q1 : (c == 47) = false := by rw [beq_eq_false_iff_ne]; omega
    clear h0 h1 b0 b1 b2
    go_enter Try.func33, Try.ntmps33
    go_wp2
    go_ret
    exact ⟨by first | rfl | exact congrArg (fun z => Ending.returned (Value.int .i64 z)) (by first | rfl | omega), rfl⟩
  by_cases b3 : c ≤ 47
  · obtain rfl : c = 47 := by omega
    go_enter Try.func33, Try.ntmps33
    go_wp2
    go_ret
    exact ⟨by first | rfl | exact congrArg (fun z => Ending.returned (Value.int .i64 z)) (by first | rfl | omega), rfl⟩
  by_cases b4 : c ≤ 57
  · have hv : letV c = c + 4 := by simp only [letV]; (repeat rw [if_neg (by omega)]); (try rw [if_pos (by omega)])
    rw [hv]
    clear hv
    have lo : 48 ≤ c := by omega
    have hi : c ≤ 57 := by omega
    have q0 : (c == 43) = false := by rw [beq_eq_false_iff_ne]; omega
    have q1 : (c == 47) = false := by rw [beq_eq_false_iff_ne]; omega
    clear h0 h1 b0 b1 b2 b3 b4
    go_enter Try.func33, Try.ntmps33
    go_wp2
    go_ret
    exact ⟨by first | rfl | exact congrArg (fun z => Ending.returned (Value.int .i64 z)) (by first | rfl | omega), rfl⟩
  by_cases b5 : c ≤ 64
  · have hv : letV c = -1 := by simp only [letV]; (repeat rw [if_neg (by omega)]); (try rw [if_pos (by omega)])
    rw [hv]
    clear hv
    have lo : 58 ≤ c := by omega
    have hi : c ≤ 64 := by omega
    have q0 : (c == 43) = false := by rw [beq_eq_false_iff_ne]; omega
    have q1 : (c == 47) = false := by rw [beq_eq_false_iff_ne]; omega
    clear h0 h1 b0 b1 b2 b3 b4 b5
    go_enter Try.func33, Try.ntmps33
    go_wp2
    go_ret
    exact ⟨by first | rfl | exact congrArg (fun z => Ending.returned (Value.int .i64 z)) (by first | rfl | omega), rfl⟩
  by_cases b6 : c ≤ 90
  · have hv : letV c = c - 65 := by simp only [letV]; (repeat rw [if_neg (by omega)]); (try rw [if_pos (by omega)])
    rw [hv]
    clear hv
    have lo : 65 ≤ c := by omega
    have hi : c ≤ 90 := by omega
    have q0 : (c == 43) = false := by rw [beq_eq_false_iff_ne]; omega
    have q1 : (c == 47) = false := by rw [beq_eq_false_iff_ne]; omega
    clear h0 h1 b0 b1 b2 b3 b4 b5 b6
    go_enter Try.func33, Try.ntmps33
    go_wp2
    go_ret
    exact ⟨by first | rfl | exact congrArg (fun z => Ending.returned (Value.int .i64 z)) (by first | rfl | omega), rfl⟩
  by_cases b7 : c ≤ 96
  · have hv : letV c = -1 := by simp only [letV]; (repeat rw [if_neg (by omega)]); (try rw [if_pos (by omega)])
    rw [hv]
    clear hv
    have lo : 91 ≤ c := by omega
    have hi : c ≤ 96 := by omega
    have q0 : (c == 43) = false := by rw [beq_eq_false_iff_ne]; omega
    have q1 : (c == 47) = false := by rw [beq_eq_false_iff_ne]; omega
    clear h0 h1 b0 b1 b2 b3 b4 b5 b6 b7
    go_enter Try.func33, Try.ntmps33
    go_wp2
    go_ret
    exact ⟨by first | rfl | exact congrArg (fun z => Ending.returned (Value.int .i64 z)) (by first | rfl | omega), rfl⟩
  by_cases b8 : c ≤ 122
  · have hv : letV c = c - 71 := by simp only [letV]; (repeat rw [if_neg (by omega)]); (try rw [if_pos (by omega)])
    rw [hv]
    clear hv
    have lo : 97 ≤ c := by omega
    have hi : c ≤ 122 := by omega
    have q0 : (c == 43) = false := by rw [beq_eq_false_iff_ne]; omega
    have q1 : (c == 47) = false := by rw [beq_eq_false_iff_ne]; omega
    clear h0 h1 b0 b1 b2 b3 b4 b5 b6 b7 b8
    go_enter Try.func33, Try.ntmps33
    go_wp2
    go_ret
    exact ⟨by first | rfl | exact congrArg (fun z => Ending.returned (Value.int .i64 z)) (by first | rfl | omega), rfl⟩
  have hv : letV c = -1 := by simp only [letV]; (repeat rw [if_neg (by omega)]); (try rw [if_pos (by omega)])
  rw [hv]
  clear hv
  have lo : 123 ≤ c := by omega
  have hi : c ≤ 255 := by omega
  have q0 : (c == 43) = false := by rw [beq_eq_false_iff_ne]; omega
  have q1 : (c == 47) = false := by rw [beq_eq_false_iff_ne]; omega
  clear h0 h1 b0 b1 b2 b3 b4 b5 b6 b7 b8
  go_enter Try.func33, Try.ntmps33
  go_wp2
  go_ret
  exact ⟨by first | rfl | exact congrArg (fun z => Ending.returned (Value.int .i64 z)) (by first | rfl | omega), rfl⟩

def letZ (c : Int) : Int := if c < 26 then 65 + c else if c < 52 then 71 + c else if c < 62 then c - 4 else if c = 62 then 43 else 47
set_option maxHeartbeats 400000 in
theorem letter_int (c : Int) (w : World) (h0 : 0 ≤ c) (h1 : c ≤ 63) : Calls Try.prog 30 #[.int .i64 c] w fun e w' => e = .returned (.int .u8 (letZ c)) ∧ w' = w := by
  by_cases b0 : c ≤ 25
  · have hv : letZ c = 65 + c := by simp only [letZ]; (repeat rw [if_neg (by omega)]); (try rw [if_pos (by omega)])
    rw [hv]
    clear hv
    have lo : 0 ≤ c := by omega
    have hi : c ≤ 25 := by omega
    have q0 : (c == 62) = false := by rw [beq_eq_false_iff_ne]; omega
    clear h0 h1 b0
    go_enter Try.func30, Try.ntmps30
    go_wp2
    go_ret
    exact ⟨by first | rfl | exact congrArg (fun z => Ending.returned (Value.int .u8 z)) (by first | rfl | omega), rfl⟩
  by_cases b1 : c ≤ 51
  · have hv : letZ c = 71 + c := by simp only [letZ]; (repeat rw [if_neg (by omega)]); (try rw [if_pos (by omega)])
    rw [hv]
    clear hv
    have lo : 26 ≤ c := by omega
    have hi : c ≤ 51 := by omega
    have q0 : (c == 62) = false := by rw [beq_eq_false_iff_ne]; omega
    clear h0 h1 b0 b1
    go_enter Try.func30, Try.ntmps30
    go_wp2
    go_ret
    exact ⟨by first | rfl | exact congrArg (fun z => Ending.returned (Value.int .u8 z)) (by first | rfl | omega), rfl⟩
  by_cases b2 : c ≤ 61
  · have hv : letZ c = c - 4 := by simp only [letZ]; (repeat rw [if_neg (by omega)]); (try rw [if_pos (by omega)])
    rw [hv]
    clear hv
    have lo : 52 ≤ c := by omega
    have hi : c ≤ 61 := by omega
    have q0 : (c == 62) = false := by rw [beq_eq_false_iff_ne]; omega
    clear h0 h1 b0 b1 b2
    go_enter Try.func30, Try.ntmps30
    go_wp2
    go_ret
    exact ⟨by first | rfl | exact congrArg (fun z => Ending.returned (Value.int .u8 z)) (by first | rfl | omega), rfl⟩
  by_cases b3 : c ≤ 62
  · obtain rfl : c = 62 := by omega
    go_enter Try.func30, Try.ntmps30
    go_wp2
    go_ret
    exact ⟨by first | rfl | exact congrArg (fun z => Ending.returned (Value.int .u8 z)) (by first | rfl | omega), rfl⟩
  obtain rfl : c = 63 := by omega
  go_enter Try.func30, Try.ntmps30
  go_wp2
  go_ret
  exact ⟨by first | rfl | exact congrArg (fun z => Ending.returned (Value.int .u8 z)) (by first | rfl | omega), rfl⟩

theorem letZ_all : ∀ n : Fin 64, letZ (n.1 : Int) = letD n.1 := by decide +kernel
theorem letZ_eq (c : Int) (h0 : 0 ≤ c) (h1 : c ≤ 63) : letZ c = letD c.toNat := by
  have h := letZ_all ⟨c.toNat, by omega⟩
  have hc : ((c.toNat : Nat) : Int) = c := by omega
  simp only [hc] at h
  exact h
theorem letter_any (c : Int) (w : World) (h0 : 0 ≤ c) (h1 : c ≤ 63) : Calls Try.prog 30 #[.int .i64 c] w fun e w' => e = .returned (.int .u8 (letD c.toNat)) ∧ w' = w := by
  have h := letter_int c w h0 h1
  rw [letZ_eq c h0 h1] at h
  exact h

set_option maxHeartbeats 400000 in
theorem at_in (b off n cap i : Nat) (z : Int) (w : World) (hi : i < n) (h0 : 0 ≤ z) (h1 : z < 256) (hc : w.cell? ⟨b, off + i, none⟩ = some (.int .u8 z)) :
    Calls Try.prog 29 #[.slice (some ⟨b, off, none⟩) n cap, .int .i64 i] w fun e w' => e = .returned (.int .i64 z) ∧ w' = w := by
  go_enter Try.func29, Try.ntmps29
  go_wp2
  go_ret
  exact ⟨rfl, rfl⟩
set_option maxHeartbeats 400000 in
theorem at_out (a : Option Addr) (n cap i : Nat) (w : World) (hi : n ≤ i) :
    Calls Try.prog 29 #[.slice a n cap, .int .i64 i] w fun e w' => e = .returned (.int .i64 0) ∧ w' = w := by
  go_enter Try.func29, Try.ntmps29
  go_wp2
  go_ret
  exact ⟨rfl, rfl⟩
theorem at_any (v : Value) (xs : List Int) (i : Nat) (w : World) (ax : AllBytes xs) (h : View w v xs) :
    Calls Try.prog 29 #[v, .int .i64 i] w fun e w' => e = .returned (.int .i64 (xs.getD i 0)) ∧ w' = w := by
  obtain ⟨a, c, rfl, h1, h2, h3, h4⟩ := h
  by_cases hlt : i < xs.length
  · rcases h4 with rfl | ⟨b, off, rfl, hc⟩
    · simp at hlt
    · exact at_in b off xs.length c i _ w hlt (ax i).1 (ax i).2 (hc i hlt)
  · rw [show xs.getD i 0 = 0 by rw [List.getD_eq_getElem?_getD, List.getElem?_eq_none (by omega)]; rfl]
    exact at_out a xs.length c i w (by omega)
end Go.Proofs.Ytioggmjocelolaa
