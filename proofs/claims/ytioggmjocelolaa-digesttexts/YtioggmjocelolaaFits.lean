import Derived.Test.YtioggmjocelolaaRefSmall
namespace Go.Proofs.Ytioggmjocelolaa
open Go.RowKit

set_option linter.unusedVariables false in
set_option maxHeartbeats 400000 in
set_option maxRecDepth 100000 in
theorem ft_yes0z (s : ByteArray) (k : Nat) (p q c : Int) (w : World) (hks : 4 * k < s.size) (hsm : s.size ≤ 200000) (hcs : ((s[4 * k]'hks).toNat : Int) = c) (hk : k < 1) (h0 : 0 ≤ c) (h1 : c < 256) (p0 : 0 ≤ p) (p1 : p < 256) (hr : -1 ≤ letV p ∧ letV p ≤ 63) (hc : (c != 61) = true) (hL : 0 ≤ letV c) :
    Calls Try.prog 32 #[.string s, .int .i64 (4 * (k : Int))] w fun e w' => e = .returned (.bool (true)) ∧ w' = w := by
  have hmod : (4 * (k : Int)) % 4 = 0 := by omega
  have hge : 4 * (k : Int) < 4 := by omega
  go_enter Try.func32, Try.ntmps32
  go_wp2_with (go_at_call 33; refine (worth_any _ _ (by omega) (by omega)).mono ?_; rintro e w' ⟨rfl, hw⟩; obtain rfl := hw.symm)
  go_ret
  exact ⟨rfl, rfl⟩
set_option linter.unusedVariables false in
set_option maxHeartbeats 400000 in
set_option maxRecDepth 100000 in
theorem ft_no0z (s : ByteArray) (k : Nat) (p q c : Int) (w : World) (hks : 4 * k < s.size) (hsm : s.size ≤ 200000) (hcs : ((s[4 * k]'hks).toNat : Int) = c) (hk : k < 1) (h0 : 0 ≤ c) (h1 : c < 256) (p0 : 0 ≤ p) (p1 : p < 256) (hr : -1 ≤ letV p ∧ letV p ≤ 63) (hc : (c != 61) = true) (hL : letV c < 0) :
    Calls Try.prog 32 #[.string s, .int .i64 (4 * (k : Int))] w fun e w' => e = .returned (.bool (false)) ∧ w' = w := by
  have hmod : (4 * (k : Int)) % 4 = 0 := by omega
  have hge : 4 * (k : Int) < 4 := by omega
  go_enter Try.func32, Try.ntmps32
  go_wp2_with (go_at_call 33; refine (worth_any _ _ (by omega) (by omega)).mono ?_; rintro e w' ⟨rfl, hw⟩; obtain rfl := hw.symm)
  go_ret
  exact ⟨rfl, rfl⟩
set_option linter.unusedVariables false in
set_option maxHeartbeats 400000 in
set_option maxRecDepth 100000 in
theorem ft_eq0z (s : ByteArray) (k : Nat) (p q c : Int) (w : World) (hks : 4 * k < s.size) (hsm : s.size ≤ 200000) (hcs : ((s[4 * k]'hks).toNat : Int) = c) (hk : k < 1) (h0 : 0 ≤ c) (h1 : c < 256) (p0 : 0 ≤ p) (p1 : p < 256) (hr : -1 ≤ letV p ∧ letV p ≤ 63) (hc : (c != 61) = false) :
    Calls Try.prog 32 #[.string s, .int .i64 (4 * (k : Int))] w fun e w' => e = .returned (.bool (false)) ∧ w' = w := by
  have hmod : (4 * (k : Int)) % 4 = 0 := by omega
  have hge : 4 * (k : Int) < 4 := by omega
  go_enter Try.func32, Try.ntmps32
  go_wp2_with (go_at_call 33; refine (worth_any _ _ (by omega) (by omega)).mono ?_; rintro e w' ⟨rfl, hw⟩; obtain rfl := hw.symm)
  go_ret
  exact ⟨rfl, rfl⟩
set_option linter.unusedVariables false in
set_option maxHeartbeats 400000 in
set_option maxRecDepth 100000 in
theorem ft_yes1z (s : ByteArray) (k : Nat) (p q c : Int) (w : World) (hks : 4 * k + 1 < s.size) (hsm : s.size ≤ 200000) (hcs : ((s[4 * k + 1]'hks).toNat : Int) = c) (hps : ((s[4 * k]'(by omega)).toNat : Int) = p) (hk : k < 1) (h0 : 0 ≤ c) (h1 : c < 256) (p0 : 0 ≤ p) (p1 : p < 256) (hr : -1 ≤ letV p ∧ letV p ≤ 63) (hc : (c != 61) = true) (hL : 0 ≤ letV c) :
    Calls Try.prog 32 #[.string s, .int .i64 (4 * (k : Int) + 1)] w fun e w' => e = .returned (.bool (true)) ∧ w' = w := by
  have hmod : (4 * (k : Int) + 1) % 4 = 1 := by omega
  have hge : 4 * (k : Int) + 1 < 4 := by omega
  go_enter Try.func32, Try.ntmps32
  go_wp2_with (go_at_call 33; refine (worth_any _ _ (by omega) (by omega)).mono ?_; rintro e w' ⟨rfl, hw⟩; obtain rfl := hw.symm)
  go_ret
  exact ⟨rfl, rfl⟩
set_option linter.unusedVariables false in
set_option maxHeartbeats 400000 in
set_option maxRecDepth 100000 in
theorem ft_no1z (s : ByteArray) (k : Nat) (p q c : Int) (w : World) (hks : 4 * k + 1 < s.size) (hsm : s.size ≤ 200000) (hcs : ((s[4 * k + 1]'hks).toNat : Int) = c) (hps : ((s[4 * k]'(by omega)).toNat : Int) = p) (hk : k < 1) (h0 : 0 ≤ c) (h1 : c < 256) (p0 : 0 ≤ p) (p1 : p < 256) (hr : -1 ≤ letV p ∧ letV p ≤ 63) (hc : (c != 61) = true) (hL : letV c < 0) :
    Calls Try.prog 32 #[.string s, .int .i64 (4 * (k : Int) + 1)] w fun e w' => e = .returned (.bool (false)) ∧ w' = w := by
  have hmod : (4 * (k : Int) + 1) % 4 = 1 := by omega
  have hge : 4 * (k : Int) + 1 < 4 := by omega
  go_enter Try.func32, Try.ntmps32
  go_wp2_with (go_at_call 33; refine (worth_any _ _ (by omega) (by omega)).mono ?_; rintro e w' ⟨rfl, hw⟩; obtain rfl := hw.symm)
  go_ret
  exact ⟨rfl, rfl⟩
set_option linter.unusedVariables false in
set_option maxHeartbeats 400000 in
set_option maxRecDepth 100000 in
theorem ft_eq1z (s : ByteArray) (k : Nat) (p q c : Int) (w : World) (hks : 4 * k + 1 < s.size) (hsm : s.size ≤ 200000) (hcs : ((s[4 * k + 1]'hks).toNat : Int) = c) (hps : ((s[4 * k]'(by omega)).toNat : Int) = p) (hk : k < 1) (h0 : 0 ≤ c) (h1 : c < 256) (p0 : 0 ≤ p) (p1 : p < 256) (hr : -1 ≤ letV p ∧ letV p ≤ 63) (hc : (c != 61) = false) :
    Calls Try.prog 32 #[.string s, .int .i64 (4 * (k : Int) + 1)] w fun e w' => e = .returned (.bool (false)) ∧ w' = w := by
  have hmod : (4 * (k : Int) + 1) % 4 = 1 := by omega
  have hge : 4 * (k : Int) + 1 < 4 := by omega
  go_enter Try.func32, Try.ntmps32
  go_wp2_with (go_at_call 33; refine (worth_any _ _ (by omega) (by omega)).mono ?_; rintro e w' ⟨rfl, hw⟩; obtain rfl := hw.symm)
  go_ret
  exact ⟨rfl, rfl⟩
set_option linter.unusedVariables false in
set_option maxHeartbeats 400000 in
set_option maxRecDepth 100000 in
theorem ft_yes2z (s : ByteArray) (k : Nat) (p q c : Int) (w : World) (hks : 4 * k + 2 < s.size) (hsm : s.size ≤ 200000) (hcs : ((s[4 * k + 2]'hks).toNat : Int) = c) (hps : ((s[4 * k + 1]'(by omega)).toNat : Int) = p) (hk : k < 1) (h0 : 0 ≤ c) (h1 : c < 256) (p0 : 0 ≤ p) (p1 : p < 256) (hr : -1 ≤ letV p ∧ letV p ≤ 63) (hc : (c != 61) = true) (hL : 0 ≤ letV c) :
    Calls Try.prog 32 #[.string s, .int .i64 (4 * (k : Int) + 2)] w fun e w' => e = .returned (.bool (true)) ∧ w' = w := by
  have hmod : (4 * (k : Int) + 2) % 4 = 2 := by omega
  have hge : 4 * (k : Int) + 2 < 4 := by omega
  go_enter Try.func32, Try.ntmps32
  go_wp2_with (go_at_call 33; refine (worth_any _ _ (by omega) (by omega)).mono ?_; rintro e w' ⟨rfl, hw⟩; obtain rfl := hw.symm)
  go_ret
  exact ⟨rfl, rfl⟩
set_option linter.unusedVariables false in
set_option maxHeartbeats 400000 in
set_option maxRecDepth 100000 in
theorem ft_no2z (s : ByteArray) (k : Nat) (p q c : Int) (w : World) (hks : 4 * k + 2 < s.size) (hsm : s.size ≤ 200000) (hcs : ((s[4 * k + 2]'hks).toNat : Int) = c) (hps : ((s[4 * k + 1]'(by omega)).toNat : Int) = p) (hk : k < 1) (h0 : 0 ≤ c) (h1 : c < 256) (p0 : 0 ≤ p) (p1 : p < 256) (hr : -1 ≤ letV p ∧ letV p ≤ 63) (hc : (c != 61) = true) (hL : letV c < 0) :
    Calls Try.prog 32 #[.string s, .int .i64 (4 * (k : Int) + 2)] w fun e w' => e = .returned (.bool (false)) ∧ w' = w := by
  have hmod : (4 * (k : Int) + 2) % 4 = 2 := by omega
  have hge : 4 * (k : Int) + 2 < 4 := by omega
  go_enter Try.func32, Try.ntmps32
  go_wp2_with (go_at_call 33; refine (worth_any _ _ (by omega) (by omega)).mono ?_; rintro e w' ⟨rfl, hw⟩; obtain rfl := hw.symm)
  go_ret
  exact ⟨rfl, rfl⟩
set_option linter.unusedVariables false in
set_option maxHeartbeats 400000 in
set_option maxRecDepth 100000 in
theorem ft_yes3z (s : ByteArray) (k : Nat) (p q c : Int) (w : World) (hks : 4 * k + 3 < s.size) (hsm : s.size ≤ 200000) (hcs : ((s[4 * k + 3]'hks).toNat : Int) = c) (hps : ((s[4 * k + 2]'(by omega)).toNat : Int) = p) (hk : k < 1) (h0 : 0 ≤ c) (h1 : c < 256) (p0 : 0 ≤ p) (p1 : p < 256) (hr : -1 ≤ letV p ∧ letV p ≤ 63) (hc : (c != 61) = true) (hL : 0 ≤ letV c) (hp : (p != 61) = true) (hp' : (p == 61) = false) :
    Calls Try.prog 32 #[.string s, .int .i64 (4 * (k : Int) + 3)] w fun e w' => e = .returned (.bool (true)) ∧ w' = w := by
  have hmod : (4 * (k : Int) + 3) % 4 = 3 := by omega
  have hge : 4 * (k : Int) + 3 < 4 := by omega
  go_enter Try.func32, Try.ntmps32
  go_wp2_with (go_at_call 33; refine (worth_any _ _ (by omega) (by omega)).mono ?_; rintro e w' ⟨rfl, hw⟩; obtain rfl := hw.symm)
  go_ret
  exact ⟨rfl, rfl⟩
set_option linter.unusedVariables false in
set_option maxHeartbeats 400000 in
set_option maxRecDepth 100000 in
theorem ft_yes3pz (s : ByteArray) (k : Nat) (p q c : Int) (w : World) (hks : 4 * k + 3 < s.size) (hsm : s.size ≤ 200000) (hcs : ((s[4 * k + 3]'hks).toNat : Int) = c) (hps : ((s[4 * k + 2]'(by omega)).toNat : Int) = p) (hk : k < 1) (h0 : 0 ≤ c) (h1 : c < 256) (p0 : 0 ≤ p) (p1 : p < 256) (hr : -1 ≤ letV p ∧ letV p ≤ 63) (hc : (c != 61) = true) (hL : 0 ≤ letV c) (hp : (p != 61) = false) (hp' : (p == 61) = true) :
    Calls Try.prog 32 #[.string s, .int .i64 (4 * (k : Int) + 3)] w fun e w' => e = .returned (.bool (false)) ∧ w' = w := by
  have hmod : (4 * (k : Int) + 3) % 4 = 3 := by omega
  have hge : 4 * (k : Int) + 3 < 4 := by omega
  go_enter Try.func32, Try.ntmps32
  go_wp2_with (go_at_call 33; refine (worth_any _ _ (by omega) (by omega)).mono ?_; rintro e w' ⟨rfl, hw⟩; obtain rfl := hw.symm)
  go_ret
  exact ⟨rfl, rfl⟩
set_option linter.unusedVariables false in
set_option maxHeartbeats 400000 in
set_option maxRecDepth 100000 in
theorem ft_no3z (s : ByteArray) (k : Nat) (p q c : Int) (w : World) (hks : 4 * k + 3 < s.size) (hsm : s.size ≤ 200000) (hcs : ((s[4 * k + 3]'hks).toNat : Int) = c) (hps : ((s[4 * k + 2]'(by omega)).toNat : Int) = p) (hk : k < 1) (h0 : 0 ≤ c) (h1 : c < 256) (p0 : 0 ≤ p) (p1 : p < 256) (hr : -1 ≤ letV p ∧ letV p ≤ 63) (hc : (c != 61) = true) (hL : letV c < 0) :
    Calls Try.prog 32 #[.string s, .int .i64 (4 * (k : Int) + 3)] w fun e w' => e = .returned (.bool (false)) ∧ w' = w := by
  have hmod : (4 * (k : Int) + 3) % 4 = 3 := by omega
  have hge : 4 * (k : Int) + 3 < 4 := by omega
  go_enter Try.func32, Try.ntmps32
  go_wp2_with (go_at_call 33; refine (worth_any _ _ (by omega) (by omega)).mono ?_; rintro e w' ⟨rfl, hw⟩; obtain rfl := hw.symm)
  go_ret
  exact ⟨rfl, rfl⟩
set_option linter.unusedVariables false in
set_option maxHeartbeats 400000 in
set_option maxRecDepth 100000 in
theorem ft_eq2z (s : ByteArray) (k : Nat) (p q c : Int) (w : World) (hks : 4 * k + 2 < s.size) (hsm : s.size ≤ 200000) (hcs : ((s[4 * k + 2]'hks).toNat : Int) = c) (hps : ((s[4 * k + 1]'(by omega)).toNat : Int) = p) (hk : k < 1) (h0 : 0 ≤ c) (h1 : c < 256) (p0 : 0 ≤ p) (p1 : p < 256) (hr : -1 ≤ letV p ∧ letV p ≤ 63) (hc : (c != 61) = false) (hP : 0 ≤ letV p) :
    Calls Try.prog 32 #[.string s, .int .i64 (4 * (k : Int) + 2)] w fun e w' => e = .returned (.bool (letV p % 16 == 0)) ∧ w' = w := by
  have hmod : (4 * (k : Int) + 2) % 4 = 2 := by omega
  have hge : 4 * (k : Int) + 2 < 4 := by omega
  go_enter Try.func32, Try.ntmps32
  go_wp2_with (go_at_call 33; refine (worth_any _ _ (by omega) (by omega)).mono ?_; rintro e w' ⟨rfl, hw⟩; obtain rfl := hw.symm)
  go_ret
  exact ⟨rfl, rfl⟩
set_option linter.unusedVariables false in
set_option maxHeartbeats 400000 in
set_option maxRecDepth 100000 in
theorem ft_eq3pz (s : ByteArray) (k : Nat) (p q c : Int) (w : World) (hks : 4 * k + 3 < s.size) (hsm : s.size ≤ 200000) (hcs : ((s[4 * k + 3]'hks).toNat : Int) = c) (hps : ((s[4 * k + 2]'(by omega)).toNat : Int) = p) (hk : k < 1) (h0 : 0 ≤ c) (h1 : c < 256) (p0 : 0 ≤ p) (p1 : p < 256) (hr : -1 ≤ letV p ∧ letV p ≤ 63) (hc : (c != 61) = false) (hp : (p != 61) = false) (hp' : (p == 61) = true) :
    Calls Try.prog 32 #[.string s, .int .i64 (4 * (k : Int) + 3)] w fun e w' => e = .returned (.bool (true)) ∧ w' = w := by
  have hmod : (4 * (k : Int) + 3) % 4 = 3 := by omega
  have hge : 4 * (k : Int) + 3 < 4 := by omega
  go_enter Try.func32, Try.ntmps32
  go_wp2_with (go_at_call 33; refine (worth_any _ _ (by omega) (by omega)).mono ?_; rintro e w' ⟨rfl, hw⟩; obtain rfl := hw.symm)
  go_ret
  exact ⟨rfl, rfl⟩
set_option linter.unusedVariables false in
set_option maxHeartbeats 400000 in
set_option maxRecDepth 100000 in
theorem ft_eq3z (s : ByteArray) (k : Nat) (p q c : Int) (w : World) (hks : 4 * k + 3 < s.size) (hsm : s.size ≤ 200000) (hcs : ((s[4 * k + 3]'hks).toNat : Int) = c) (hps : ((s[4 * k + 2]'(by omega)).toNat : Int) = p) (hk : k < 1) (h0 : 0 ≤ c) (h1 : c < 256) (p0 : 0 ≤ p) (p1 : p < 256) (hr : -1 ≤ letV p ∧ letV p ≤ 63) (hc : (c != 61) = false) (hp : (p != 61) = true) (hp' : (p == 61) = false) (hP : 0 ≤ letV p) :
    Calls Try.prog 32 #[.string s, .int .i64 (4 * (k : Int) + 3)] w fun e w' => e = .returned (.bool (letV p % 4 == 0)) ∧ w' = w := by
  have hmod : (4 * (k : Int) + 3) % 4 = 3 := by omega
  have hge : 4 * (k : Int) + 3 < 4 := by omega
  go_enter Try.func32, Try.ntmps32
  go_wp2_with (go_at_call 33; refine (worth_any _ _ (by omega) (by omega)).mono ?_; rintro e w' ⟨rfl, hw⟩; obtain rfl := hw.symm)
  go_ret
  exact ⟨rfl, rfl⟩
set_option linter.unusedVariables false in
set_option maxHeartbeats 400000 in
set_option maxRecDepth 100000 in
theorem ft_yes0k (s : ByteArray) (k : Nat) (p q c : Int) (w : World) (hks : 4 * k < s.size) (hsm : s.size ≤ 200000) (hcs : ((s[4 * k]'hks).toNat : Int) = c) (hqs : ((s[4 * k - 1]'(by omega)).toNat : Int) = q) (hk : 0 < k) (h0 : 0 ≤ c) (h1 : c < 256) (p0 : 0 ≤ p) (p1 : p < 256) (hr : -1 ≤ letV p ∧ letV p ≤ 63) (hq : (q == 61) = false) (hc : (c != 61) = true) (hL : 0 ≤ letV c) :
    Calls Try.prog 32 #[.string s, .int .i64 (4 * (k : Int))] w fun e w' => e = .returned (.bool (true)) ∧ w' = w := by
  have hmod : (4 * (k : Int)) % 4 = 0 := by omega
  have hge : (4 : Int) ≤ 4 * (k : Int) := by omega
  go_enter Try.func32, Try.ntmps32
  go_wp2_with (go_at_call 33; refine (worth_any _ _ (by omega) (by omega)).mono ?_; rintro e w' ⟨rfl, hw⟩; obtain rfl := hw.symm)
  go_ret
  exact ⟨rfl, rfl⟩
set_option linter.unusedVariables false in
set_option maxHeartbeats 400000 in
set_option maxRecDepth 100000 in
theorem ft_no0k (s : ByteArray) (k : Nat) (p q c : Int) (w : World) (hks : 4 * k < s.size) (hsm : s.size ≤ 200000) (hcs : ((s[4 * k]'hks).toNat : Int) = c) (hqs : ((s[4 * k - 1]'(by omega)).toNat : Int) = q) (hk : 0 < k) (h0 : 0 ≤ c) (h1 : c < 256) (p0 : 0 ≤ p) (p1 : p < 256) (hr : -1 ≤ letV p ∧ letV p ≤ 63) (hq : (q == 61) = false) (hc : (c != 61) = true) (hL : letV c < 0) :
    Calls Try.prog 32 #[.string s, .int .i64 (4 * (k : Int))] w fun e w' => e = .returned (.bool (false)) ∧ w' = w := by
  have hmod : (4 * (k : Int)) % 4 = 0 := by omega
  have hge : (4 : Int) ≤ 4 * (k : Int) := by omega
  go_enter Try.func32, Try.ntmps32
  go_wp2_with (go_at_call 33; refine (worth_any _ _ (by omega) (by omega)).mono ?_; rintro e w' ⟨rfl, hw⟩; obtain rfl := hw.symm)
  go_ret
  exact ⟨rfl, rfl⟩
set_option linter.unusedVariables false in
set_option maxHeartbeats 400000 in
set_option maxRecDepth 100000 in
theorem ft_eq0k (s : ByteArray) (k : Nat) (p q c : Int) (w : World) (hks : 4 * k < s.size) (hsm : s.size ≤ 200000) (hcs : ((s[4 * k]'hks).toNat : Int) = c) (hqs : ((s[4 * k - 1]'(by omega)).toNat : Int) = q) (hk : 0 < k) (h0 : 0 ≤ c) (h1 : c < 256) (p0 : 0 ≤ p) (p1 : p < 256) (hr : -1 ≤ letV p ∧ letV p ≤ 63) (hq : (q == 61) = false) (hc : (c != 61) = false) :
    Calls Try.prog 32 #[.string s, .int .i64 (4 * (k : Int))] w fun e w' => e = .returned (.bool (false)) ∧ w' = w := by
  have hmod : (4 * (k : Int)) % 4 = 0 := by omega
  have hge : (4 : Int) ≤ 4 * (k : Int) := by omega
  go_enter Try.func32, Try.ntmps32
  go_wp2_with (go_at_call 33; refine (worth_any _ _ (by omega) (by omega)).mono ?_; rintro e w' ⟨rfl, hw⟩; obtain rfl := hw.symm)
  go_ret
  exact ⟨rfl, rfl⟩
set_option linter.unusedVariables false in
set_option maxHeartbeats 400000 in
set_option maxRecDepth 100000 in
theorem ft_yes1k (s : ByteArray) (k : Nat) (p q c : Int) (w : World) (hks : 4 * k + 1 < s.size) (hsm : s.size ≤ 200000) (hcs : ((s[4 * k + 1]'hks).toNat : Int) = c) (hps : ((s[4 * k]'(by omega)).toNat : Int) = p) (hqs : ((s[4 * k - 1]'(by omega)).toNat : Int) = q) (hk : 0 < k) (h0 : 0 ≤ c) (h1 : c < 256) (p0 : 0 ≤ p) (p1 : p < 256) (hr : -1 ≤ letV p ∧ letV p ≤ 63) (hq : (q == 61) = false) (hc : (c != 61) = true) (hL : 0 ≤ letV c) :
    Calls Try.prog 32 #[.string s, .int .i64 (4 * (k : Int) + 1)] w fun e w' => e = .returned (.bool (true)) ∧ w' = w := by
  have hmod : (4 * (k : Int) + 1) % 4 = 1 := by omega
  have hge : (4 : Int) ≤ 4 * (k : Int) + 1 := by omega
  go_enter Try.func32, Try.ntmps32
  go_wp2_with (go_at_call 33; refine (worth_any _ _ (by omega) (by omega)).mono ?_; rintro e w' ⟨rfl, hw⟩; obtain rfl := hw.symm)
  go_ret
  exact ⟨rfl, rfl⟩
set_option linter.unusedVariables false in
set_option maxHeartbeats 400000 in
set_option maxRecDepth 100000 in
theorem ft_no1k (s : ByteArray) (k : Nat) (p q c : Int) (w : World) (hks : 4 * k + 1 < s.size) (hsm : s.size ≤ 200000) (hcs : ((s[4 * k + 1]'hks).toNat : Int) = c) (hps : ((s[4 * k]'(by omega)).toNat : Int) = p) (hqs : ((s[4 * k - 1]'(by omega)).toNat : Int) = q) (hk : 0 < k) (h0 : 0 ≤ c) (h1 : c < 256) (p0 : 0 ≤ p) (p1 : p < 256) (hr : -1 ≤ letV p ∧ letV p ≤ 63) (hq : (q == 61) = false) (hc : (c != 61) = true) (hL : letV c < 0) :
    Calls Try.prog 32 #[.string s, .int .i64 (4 * (k : Int) + 1)] w fun e w' => e = .returned (.bool (false)) ∧ w' = w := by
  have hmod : (4 * (k : Int) + 1) % 4 = 1 := by omega
  have hge : (4 : Int) ≤ 4 * (k : Int) + 1 := by omega
  go_enter Try.func32, Try.ntmps32
  go_wp2_with (go_at_call 33; refine (worth_any _ _ (by omega) (by omega)).mono ?_; rintro e w' ⟨rfl, hw⟩; obtain rfl := hw.symm)
  go_ret
  exact ⟨rfl, rfl⟩
set_option linter.unusedVariables false in
set_option maxHeartbeats 400000 in
set_option maxRecDepth 100000 in
theorem ft_eq1k (s : ByteArray) (k : Nat) (p q c : Int) (w : World) (hks : 4 * k + 1 < s.size) (hsm : s.size ≤ 200000) (hcs : ((s[4 * k + 1]'hks).toNat : Int) = c) (hps : ((s[4 * k]'(by omega)).toNat : Int) = p) (hqs : ((s[4 * k - 1]'(by omega)).toNat : Int) = q) (hk : 0 < k) (h0 : 0 ≤ c) (h1 : c < 256) (p0 : 0 ≤ p) (p1 : p < 256) (hr : -1 ≤ letV p ∧ letV p ≤ 63) (hq : (q == 61) = false) (hc : (c != 61) = false) :
    Calls Try.prog 32 #[.string s, .int .i64 (4 * (k : Int) + 1)] w fun e w' => e = .returned (.bool (false)) ∧ w' = w := by
  have hmod : (4 * (k : Int) + 1) % 4 = 1 := by omega
  have hge : (4 : Int) ≤ 4 * (k : Int) + 1 := by omega
  go_enter Try.func32, Try.ntmps32
  go_wp2_with (go_at_call 33; refine (worth_any _ _ (by omega) (by omega)).mono ?_; rintro e w' ⟨rfl, hw⟩; obtain rfl := hw.symm)
  go_ret
  exact ⟨rfl, rfl⟩
set_option linter.unusedVariables false in
set_option maxHeartbeats 400000 in
set_option maxRecDepth 100000 in
theorem ft_yes2k (s : ByteArray) (k : Nat) (p q c : Int) (w : World) (hks : 4 * k + 2 < s.size) (hsm : s.size ≤ 200000) (hcs : ((s[4 * k + 2]'hks).toNat : Int) = c) (hps : ((s[4 * k + 1]'(by omega)).toNat : Int) = p) (hqs : ((s[4 * k - 1]'(by omega)).toNat : Int) = q) (hk : 0 < k) (h0 : 0 ≤ c) (h1 : c < 256) (p0 : 0 ≤ p) (p1 : p < 256) (hr : -1 ≤ letV p ∧ letV p ≤ 63) (hq : (q == 61) = false) (hc : (c != 61) = true) (hL : 0 ≤ letV c) :
    Calls Try.prog 32 #[.string s, .int .i64 (4 * (k : Int) + 2)] w fun e w' => e = .returned (.bool (true)) ∧ w' = w := by
  have hmod : (4 * (k : Int) + 2) % 4 = 2 := by omega
  have hge : (4 : Int) ≤ 4 * (k : Int) + 2 := by omega
  go_enter Try.func32, Try.ntmps32
  go_wp2_with (go_at_call 33; refine (worth_any _ _ (by omega) (by omega)).mono ?_; rintro e w' ⟨rfl, hw⟩; obtain rfl := hw.symm)
  go_ret
  exact ⟨rfl, rfl⟩
set_option linter.unusedVariables false in
set_option maxHeartbeats 400000 in
set_option maxRecDepth 100000 in
theorem ft_no2k (s : ByteArray) (k : Nat) (p q c : Int) (w : World) (hks : 4 * k + 2 < s.size) (hsm : s.size ≤ 200000) (hcs : ((s[4 * k + 2]'hks).toNat : Int) = c) (hps : ((s[4 * k + 1]'(by omega)).toNat : Int) = p) (hqs : ((s[4 * k - 1]'(by omega)).toNat : Int) = q) (hk : 0 < k) (h0 : 0 ≤ c) (h1 : c < 256) (p0 : 0 ≤ p) (p1 : p < 256) (hr : -1 ≤ letV p ∧ letV p ≤ 63) (hq : (q == 61) = false) (hc : (c != 61) = true) (hL : letV c < 0) :
    Calls Try.prog 32 #[.string s, .int .i64 (4 * (k : Int) + 2)] w fun e w' => e = .returned (.bool (false)) ∧ w' = w := by
  have hmod : (4 * (k : Int) + 2) % 4 = 2 := by omega
  have hge : (4 : Int) ≤ 4 * (k : Int) + 2 := by omega
  go_enter Try.func32, Try.ntmps32
  go_wp2_with (go_at_call 33; refine (worth_any _ _ (by omega) (by omega)).mono ?_; rintro e w' ⟨rfl, hw⟩; obtain rfl := hw.symm)
  go_ret
  exact ⟨rfl, rfl⟩
set_option linter.unusedVariables false in
set_option maxHeartbeats 400000 in
set_option maxRecDepth 100000 in
theorem ft_yes3k (s : ByteArray) (k : Nat) (p q c : Int) (w : World) (hks : 4 * k + 3 < s.size) (hsm : s.size ≤ 200000) (hcs : ((s[4 * k + 3]'hks).toNat : Int) = c) (hps : ((s[4 * k + 2]'(by omega)).toNat : Int) = p) (hqs : ((s[4 * k - 1]'(by omega)).toNat : Int) = q) (hk : 0 < k) (h0 : 0 ≤ c) (h1 : c < 256) (p0 : 0 ≤ p) (p1 : p < 256) (hr : -1 ≤ letV p ∧ letV p ≤ 63) (hq : (q == 61) = false) (hc : (c != 61) = true) (hL : 0 ≤ letV c) (hp : (p != 61) = true) (hp' : (p == 61) = false) :
    Calls Try.prog 32 #[.string s, .int .i64 (4 * (k : Int) + 3)] w fun e w' => e = .returned (.bool (true)) ∧ w' = w := by
  have hmod : (4 * (k : Int) + 3) % 4 = 3 := by omega
  have hge : (4 : Int) ≤ 4 * (k : Int) + 3 := by omega
  go_enter Try.func32, Try.ntmps32
  go_wp2_with (go_at_call 33; refine (worth_any _ _ (by omega) (by omega)).mono ?_; rintro e w' ⟨rfl, hw⟩; obtain rfl := hw.symm)
  go_ret
  exact ⟨rfl, rfl⟩
set_option linter.unusedVariables false in
set_option maxHeartbeats 400000 in
set_option maxRecDepth 100000 in
theorem ft_yes3pk (s : ByteArray) (k : Nat) (p q c : Int) (w : World) (hks : 4 * k + 3 < s.size) (hsm : s.size ≤ 200000) (hcs : ((s[4 * k + 3]'hks).toNat : Int) = c) (hps : ((s[4 * k + 2]'(by omega)).toNat : Int) = p) (hqs : ((s[4 * k - 1]'(by omega)).toNat : Int) = q) (hk : 0 < k) (h0 : 0 ≤ c) (h1 : c < 256) (p0 : 0 ≤ p) (p1 : p < 256) (hr : -1 ≤ letV p ∧ letV p ≤ 63) (hq : (q == 61) = false) (hc : (c != 61) = true) (hL : 0 ≤ letV c) (hp : (p != 61) = false) (hp' : (p == 61) = true) :
    Calls Try.prog 32 #[.string s, .int .i64 (4 * (k : Int) + 3)] w fun e w' => e = .returned (.bool (false)) ∧ w' = w := by
  have hmod : (4 * (k : Int) + 3) % 4 = 3 := by omega
  have hge : (4 : Int) ≤ 4 * (k : Int) + 3 := by omega
  go_enter Try.func32, Try.ntmps32
  go_wp2_with (go_at_call 33; refine (worth_any _ _ (by omega) (by omega)).mono ?_; rintro e w' ⟨rfl, hw⟩; obtain rfl := hw.symm)
  go_ret
  exact ⟨rfl, rfl⟩
set_option linter.unusedVariables false in
set_option maxHeartbeats 400000 in
set_option maxRecDepth 100000 in
theorem ft_no3k (s : ByteArray) (k : Nat) (p q c : Int) (w : World) (hks : 4 * k + 3 < s.size) (hsm : s.size ≤ 200000) (hcs : ((s[4 * k + 3]'hks).toNat : Int) = c) (hps : ((s[4 * k + 2]'(by omega)).toNat : Int) = p) (hqs : ((s[4 * k - 1]'(by omega)).toNat : Int) = q) (hk : 0 < k) (h0 : 0 ≤ c) (h1 : c < 256) (p0 : 0 ≤ p) (p1 : p < 256) (hr : -1 ≤ letV p ∧ letV p ≤ 63) (hq : (q == 61) = false) (hc : (c != 61) = true) (hL : letV c < 0) :
    Calls Try.prog 32 #[.string s, .int .i64 (4 * (k : Int) + 3)] w fun e w' => e = .returned (.bool (false)) ∧ w' = w := by
  have hmod : (4 * (k : Int) + 3) % 4 = 3 := by omega
  have hge : (4 : Int) ≤ 4 * (k : Int) + 3 := by omega
  go_enter Try.func32, Try.ntmps32
  go_wp2_with (go_at_call 33; refine (worth_any _ _ (by omega) (by omega)).mono ?_; rintro e w' ⟨rfl, hw⟩; obtain rfl := hw.symm)
  go_ret
  exact ⟨rfl, rfl⟩
set_option linter.unusedVariables false in
set_option maxHeartbeats 400000 in
set_option maxRecDepth 100000 in
theorem ft_eq2k (s : ByteArray) (k : Nat) (p q c : Int) (w : World) (hks : 4 * k + 2 < s.size) (hsm : s.size ≤ 200000) (hcs : ((s[4 * k + 2]'hks).toNat : Int) = c) (hps : ((s[4 * k + 1]'(by omega)).toNat : Int) = p) (hqs : ((s[4 * k - 1]'(by omega)).toNat : Int) = q) (hk : 0 < k) (h0 : 0 ≤ c) (h1 : c < 256) (p0 : 0 ≤ p) (p1 : p < 256) (hr : -1 ≤ letV p ∧ letV p ≤ 63) (hq : (q == 61) = false) (hc : (c != 61) = false) (hP : 0 ≤ letV p) :
    Calls Try.prog 32 #[.string s, .int .i64 (4 * (k : Int) + 2)] w fun e w' => e = .returned (.bool (letV p % 16 == 0)) ∧ w' = w := by
  have hmod : (4 * (k : Int) + 2) % 4 = 2 := by omega
  have hge : (4 : Int) ≤ 4 * (k : Int) + 2 := by omega
  go_enter Try.func32, Try.ntmps32
  go_wp2_with (go_at_call 33; refine (worth_any _ _ (by omega) (by omega)).mono ?_; rintro e w' ⟨rfl, hw⟩; obtain rfl := hw.symm)
  go_ret
  exact ⟨rfl, rfl⟩
set_option linter.unusedVariables false in
set_option maxHeartbeats 400000 in
set_option maxRecDepth 100000 in
theorem ft_eq3pk (s : ByteArray) (k : Nat) (p q c : Int) (w : World) (hks : 4 * k + 3 < s.size) (hsm : s.size ≤ 200000) (hcs : ((s[4 * k + 3]'hks).toNat : Int) = c) (hps : ((s[4 * k + 2]'(by omega)).toNat : Int) = p) (hqs : ((s[4 * k - 1]'(by omega)).toNat : Int) = q) (hk : 0 < k) (h0 : 0 ≤ c) (h1 : c < 256) (p0 : 0 ≤ p) (p1 : p < 256) (hr : -1 ≤ letV p ∧ letV p ≤ 63) (hq : (q == 61) = false) (hc : (c != 61) = false) (hp : (p != 61) = false) (hp' : (p == 61) = true) :
    Calls Try.prog 32 #[.string s, .int .i64 (4 * (k : Int) + 3)] w fun e w' => e = .returned (.bool (true)) ∧ w' = w := by
  have hmod : (4 * (k : Int) + 3) % 4 = 3 := by omega
  have hge : (4 : Int) ≤ 4 * (k : Int) + 3 := by omega
  go_enter Try.func32, Try.ntmps32
  go_wp2_with (go_at_call 33; refine (worth_any _ _ (by omega) (by omega)).mono ?_; rintro e w' ⟨rfl, hw⟩; obtain rfl := hw.symm)
  go_ret
  exact ⟨rfl, rfl⟩
set_option linter.unusedVariables false in
set_option maxHeartbeats 400000 in
set_option maxRecDepth 100000 in
theorem ft_eq3k (s : ByteArray) (k : Nat) (p q c : Int) (w : World) (hks : 4 * k + 3 < s.size) (hsm : s.size ≤ 200000) (hcs : ((s[4 * k + 3]'hks).toNat : Int) = c) (hps : ((s[4 * k + 2]'(by omega)).toNat : Int) = p) (hqs : ((s[4 * k - 1]'(by omega)).toNat : Int) = q) (hk : 0 < k) (h0 : 0 ≤ c) (h1 : c < 256) (p0 : 0 ≤ p) (p1 : p < 256) (hr : -1 ≤ letV p ∧ letV p ≤ 63) (hq : (q == 61) = false) (hc : (c != 61) = false) (hp : (p != 61) = true) (hp' : (p == 61) = false) (hP : 0 ≤ letV p) :
    Calls Try.prog 32 #[.string s, .int .i64 (4 * (k : Int) + 3)] w fun e w' => e = .returned (.bool (letV p % 4 == 0)) ∧ w' = w := by
  have hmod : (4 * (k : Int) + 3) % 4 = 3 := by omega
  have hge : (4 : Int) ≤ 4 * (k : Int) + 3 := by omega
  go_enter Try.func32, Try.ntmps32
  go_wp2_with (go_at_call 33; refine (worth_any _ _ (by omega) (by omega)).mono ?_; rintro e w' ⟨rfl, hw⟩; obtain rfl := hw.symm)
  go_ret
  exact ⟨rfl, rfl⟩
set_option linter.unusedVariables false in
set_option maxHeartbeats 400000 in
set_option maxRecDepth 100000 in
theorem ft_pad0k (s : ByteArray) (k : Nat) (p q c : Int) (w : World) (hks : 4 * k < s.size) (hsm : s.size ≤ 200000) (hcs : ((s[4 * k]'hks).toNat : Int) = c) (hqs : ((s[4 * k - 1]'(by omega)).toNat : Int) = q) (hk : 0 < k) (h0 : 0 ≤ c) (h1 : c < 256) (p0 : 0 ≤ p) (p1 : p < 256) (hr : -1 ≤ letV p ∧ letV p ≤ 63) (hq : (q == 61) = true) :
    Calls Try.prog 32 #[.string s, .int .i64 (4 * (k : Int))] w fun e w' => e = .returned (.bool (false)) ∧ w' = w := by
  have hmod : (4 * (k : Int)) % 4 = 0 := by omega
  have hge : (4 : Int) ≤ 4 * (k : Int) := by omega
  go_enter Try.func32, Try.ntmps32
  go_wp2_with (go_at_call 33; refine (worth_any _ _ (by omega) (by omega)).mono ?_; rintro e w' ⟨rfl, hw⟩; obtain rfl := hw.symm)
  go_ret
  exact ⟨rfl, rfl⟩
end Go.Proofs.Ytioggmjocelolaa
