import Derived.Test.YtlnhnheplppeaaaDoorPure2
import Derived.Test.YtlnhnheplppeaaaDoorSame
import Derived.WalkKit
import Derived.Deep.Cut
namespace Go.Proofs.YtlnhnheplppeaaaDoor
open Go.RowKit
set_option linter.unusedVariables false
def LetP (w w' : World) (e : Ending) (n : Nat) : Prop := (∃ v, e = .returned (.tuple #[.int .i64 v, .int .i64 (n : Nat)])) ∧ w' = w
theorem let_eq {n a b c d r : Nat} {w : World} {v : Int} (h : letN n a b c d = r) {k : Int} (hk : k = (r : Nat)) : LetP w w (.returned (.tuple #[.int .i64 v, .int .i64 k])) (letN n a b c d) := ⟨⟨v, by rw [h, hk]⟩, rfl⟩
set_option maxHeartbeats 1600000 in
set_option maxRecDepth 100000 in
theorem let_asc (s : ByteArray) (i b0 b1 b2 b3 : Nat) (w : World) (hs : s.size ≤ 9223372036854770000) (hi : i < s.size) (e0 : ((s[i]'hi).toNat : Int) = (b0 : Nat)) (h0 : b0 < 128) :
    Calls Tryd.prog 15 #[.string s, .int .i64 (i : Nat)] w fun e w' => Hid (LetP w w' e (letN (s.size - i) b0 b1 b2 b3)) := by
  have c0 : (b0 : Int) < 128 := by omega
  go_enter Tryd.func15, Tryd.ntmps15
  go_wp2
  go_ret2
  exact let_eq (r := 1) (l1 _ _ _ _ _ h0) (by omega)
set_option maxHeartbeats 1600000 in
set_option maxRecDepth 100000 in
theorem let_mid (s : ByteArray) (i b0 b1 b2 b3 : Nat) (w : World) (hs : s.size ≤ 9223372036854770000) (hi : i < s.size) (e0 : ((s[i]'hi).toNat : Int) = (b0 : Nat)) (h0 : 128 ≤ b0) (h1 : b0 < 192) :
    Calls Tryd.prog 15 #[.string s, .int .i64 (i : Nat)] w fun e w' => Hid (LetP w w' e (letN (s.size - i) b0 b1 b2 b3)) := by
  have c0 : ¬ (b0 : Int) < 128 := by omega
  have c1 : decide ((192 : Int) ≤ (b0 : Int)) = false := by simp; omega
  have c2 : decide ((b0 : Int) < 224) = true := by simp; omega
  have c3 : decide ((224 : Int) ≤ (b0 : Int)) = false := by simp; omega
  have c4 : decide ((b0 : Int) < 240) = true := by simp; omega
  have c5 : decide ((240 : Int) ≤ (b0 : Int)) = false := by simp; omega
  have c6 : decide ((b0 : Int) < 248) = true := by simp; omega
  go_enter Tryd.func15, Tryd.ntmps15
  go_wp2
  go_ret2
  exact let_eq (r := 0) (l0 _ _ _ _ _ (by omega)) (by omega)
set_option maxHeartbeats 1600000 in
set_option maxRecDepth 100000 in
theorem let_top (s : ByteArray) (i b0 b1 b2 b3 : Nat) (w : World) (hs : s.size ≤ 9223372036854770000) (hi : i < s.size) (e0 : ((s[i]'hi).toNat : Int) = (b0 : Nat)) (h0 : 248 ≤ b0) (h1 : b0 < 256) :
    Calls Tryd.prog 15 #[.string s, .int .i64 (i : Nat)] w fun e w' => Hid (LetP w w' e (letN (s.size - i) b0 b1 b2 b3)) := by
  have c0 : ¬ (b0 : Int) < 128 := by omega
  have c1 : decide ((192 : Int) ≤ (b0 : Int)) = true := by simp; omega
  have c2 : decide ((b0 : Int) < 224) = false := by simp; omega
  have c3 : decide ((224 : Int) ≤ (b0 : Int)) = true := by simp; omega
  have c4 : decide ((b0 : Int) < 240) = false := by simp; omega
  have c5 : decide ((240 : Int) ≤ (b0 : Int)) = true := by simp; omega
  have c6 : decide ((b0 : Int) < 248) = false := by simp; omega
  go_enter Tryd.func15, Tryd.ntmps15
  go_wp2
  go_ret2
  exact let_eq (r := 0) (l0 _ _ _ _ _ (by omega)) (by omega)
set_option maxHeartbeats 1600000 in
set_option maxRecDepth 100000 in
theorem let_cut2 (s : ByteArray) (i b0 b1 b2 b3 : Nat) (w : World) (hs : s.size ≤ 9223372036854770000) (hi : i < s.size) (e0 : ((s[i]'hi).toNat : Int) = (b0 : Nat)) (h0 : 192 ≤ b0) (h1 : b0 < 224) (hc : s.size < i + 2) :
    Calls Tryd.prog 15 #[.string s, .int .i64 (i : Nat)] w fun e w' => Hid (LetP w w' e (letN (s.size - i) b0 b1 b2 b3)) := by
  have c0 : ¬ (b0 : Int) < 128 := by omega
  have c1 : decide ((192 : Int) ≤ (b0 : Int)) = true := by simp; omega
  have c2 : decide ((b0 : Int) < 224) = true := by simp; omega
  have c3 : decide ((224 : Int) ≤ (b0 : Int)) = false := by simp; omega
  have c4 : decide ((b0 : Int) < 240) = true := by simp; omega
  have c5 : decide ((240 : Int) ≤ (b0 : Int)) = false := by simp; omega
  have c6 : decide ((b0 : Int) < 248) = true := by simp; omega
  have d1 : decide ((s.size : Int) < (i : Int) + 2) = true := by simp; omega
  go_enter Tryd.func15, Tryd.ntmps15
  go_wp2
  go_ret2
  exact let_eq (r := 0) (l2_0 _ _ _ _ _ h0 h1 (by omega)) (by omega)
set_option maxHeartbeats 1600000 in
set_option maxRecDepth 100000 in
theorem let_cut3 (s : ByteArray) (i b0 b1 b2 b3 : Nat) (w : World) (hs : s.size ≤ 9223372036854770000) (hi : i < s.size) (e0 : ((s[i]'hi).toNat : Int) = (b0 : Nat)) (h0 : 224 ≤ b0) (h1 : b0 < 240) (hc : s.size < i + 3) :
    Calls Tryd.prog 15 #[.string s, .int .i64 (i : Nat)] w fun e w' => Hid (LetP w w' e (letN (s.size - i) b0 b1 b2 b3)) := by
  have c0 : ¬ (b0 : Int) < 128 := by omega
  have c1 : decide ((192 : Int) ≤ (b0 : Int)) = true := by simp; omega
  have c2 : decide ((b0 : Int) < 224) = false := by simp; omega
  have c3 : decide ((224 : Int) ≤ (b0 : Int)) = true := by simp; omega
  have c4 : decide ((b0 : Int) < 240) = true := by simp; omega
  have c5 : decide ((240 : Int) ≤ (b0 : Int)) = false := by simp; omega
  have c6 : decide ((b0 : Int) < 248) = true := by simp; omega
  have d1 : decide ((s.size : Int) < (i : Int) + 3) = true := by simp; omega
  go_enter Tryd.func15, Tryd.ntmps15
  go_wp2
  go_ret2
  exact let_eq (r := 0) (l3_0 _ _ _ _ _ h0 h1 (by omega)) (by omega)
set_option maxHeartbeats 1600000 in
set_option maxRecDepth 100000 in
theorem let_cut4 (s : ByteArray) (i b0 b1 b2 b3 : Nat) (w : World) (hs : s.size ≤ 9223372036854770000) (hi : i < s.size) (e0 : ((s[i]'hi).toNat : Int) = (b0 : Nat)) (h0 : 240 ≤ b0) (h1 : b0 < 248) (hc : s.size < i + 4) :
    Calls Tryd.prog 15 #[.string s, .int .i64 (i : Nat)] w fun e w' => Hid (LetP w w' e (letN (s.size - i) b0 b1 b2 b3)) := by
  have c0 : ¬ (b0 : Int) < 128 := by omega
  have c1 : decide ((192 : Int) ≤ (b0 : Int)) = true := by simp; omega
  have c2 : decide ((b0 : Int) < 224) = false := by simp; omega
  have c3 : decide ((224 : Int) ≤ (b0 : Int)) = true := by simp; omega
  have c4 : decide ((b0 : Int) < 240) = false := by simp; omega
  have c5 : decide ((240 : Int) ≤ (b0 : Int)) = true := by simp; omega
  have c6 : decide ((b0 : Int) < 248) = true := by simp; omega
  have d1 : decide ((s.size : Int) < (i : Int) + 4) = true := by simp; omega
  go_enter Tryd.func15, Tryd.ntmps15
  go_wp2
  go_ret2
  exact let_eq (r := 0) (l4_0 _ _ _ _ _ h0 h1 (by omega)) (by omega)
set_option maxHeartbeats 1600000 in
set_option maxRecDepth 100000 in
theorem let_full2 (s : ByteArray) (i b0 b1 b2 b3 : Nat) (w : World) (hs : s.size ≤ 9223372036854770000) (hi : i < s.size) (e0 : ((s[i]'hi).toNat : Int) = (b0 : Nat)) (h0 : 192 ≤ b0) (h1 : b0 < 224) (hq1 : i + 1 < s.size) (e1 : ((s[i + 1]'hq1).toNat : Int) = (b1 : Nat)) (g1 : b1 < 256) :
    Calls Tryd.prog 15 #[.string s, .int .i64 (i : Nat)] w fun e w' => Hid (LetP w w' e (letN (s.size - i) b0 b1 b2 b3)) := by
  have c0 : ¬ (b0 : Int) < 128 := by omega
  have c1 : decide ((192 : Int) ≤ (b0 : Int)) = true := by simp; omega
  have c2 : decide ((b0 : Int) < 224) = true := by simp; omega
  have c3 : decide ((224 : Int) ≤ (b0 : Int)) = false := by simp; omega
  have c4 : decide ((b0 : Int) < 240) = true := by simp; omega
  have c5 : decide ((240 : Int) ≤ (b0 : Int)) = false := by simp; omega
  have c6 : decide ((b0 : Int) < 248) = true := by simp; omega
  have d1 : decide ((s.size : Int) < (i : Int) + 2) = false := by simp; omega
  go_enter Tryd.func15, Tryd.ntmps15
  go_wp2
  go_loop [8, 10] (fun v x => ∃ k : Nat, x = .int .i64 (k : Nat) ∧ k ≤ 2 ∧ ((k = 1 ∧ v = .int .i64 ((b0 : Int) - 192)) ∨ (k = 2 ∧ v = .int .i64 (((b0 : Int) - 192) * 64 + (b1 : Int) - 128) ∧ 128 ≤ b1 ∧ b1 < 192))) (fun _ x => 2 - (intOf x).toNat)
  case atStart => exact ⟨1, rfl, by omega, .inl ⟨rfl, rfl⟩⟩
  case round =>
    obtain ⟨k, rfl, hk, hrel⟩ := hrel
    rcases hrel with ⟨rfl, rfl⟩ | ⟨rfl, rfl, p1, q1⟩
    · rcases (show b1 < 128 ∨ 192 ≤ b1 ∨ (128 ≤ b1 ∧ b1 < 192) by omega) with r | r | r
      · have t1 : decide ((b1 : Int) < 128) = true := by simp; omega
        have t2 : decide ((192 : Int) ≤ (b1 : Int)) = false := by simp; omega
        go_wp2
        go_ret2
        exact let_eq (r := 0) (l2_0 _ _ _ _ _ h0 h1 (by omega)) (by omega)
      · have t1 : decide ((b1 : Int) < 128) = false := by simp; omega
        have t2 : decide ((192 : Int) ≤ (b1 : Int)) = true := by simp; omega
        go_wp2
        go_ret2
        exact let_eq (r := 0) (l2_0 _ _ _ _ _ h0 h1 (by omega)) (by omega)
      · have t1 : decide ((b1 : Int) < 128) = false := by simp; omega
        have t2 : decide ((192 : Int) ≤ (b1 : Int)) = false := by simp; omega
        go_wp2
        go_round
        case rel => exact ⟨2, by go_num, by omega, .inr ((⟨rfl, rfl, r.1, r.2⟩))⟩
        case measure => simp [intOf]
    · generalize hV : (((b0 : Int) - 192) * 64 + (b1 : Int) - 128) = V
      rcases (show V < 128 ∨ 1114111 < V ∨ (55296 ≤ V ∧ V < 57344 ∧ 128 ≤ V) ∨ (128 ≤ V ∧ V ≤ 1114111 ∧ V < 55296) ∨ (128 ≤ V ∧ V ≤ 1114111 ∧ 57344 ≤ V) by omega) with r | r | r | r | r
      · have t1 : decide (V < 128) = true := by simp; omega
        go_wp2
        go_ret2
        exact let_eq (r := 0) (l2_0 _ _ _ _ _ h0 h1 (by omega)) (by omega)
      · have t1 : decide (V < 128) = false := by simp; omega
        have t2 : decide ((1114111 : Int) < V) = true := by simp; omega
        go_wp2
        go_ret2
        exact let_eq (r := 0) (l2_0 _ _ _ _ _ h0 h1 (by omega)) (by omega)
      · have t1 : decide (V < 128) = false := by simp; omega
        have t2 : decide ((1114111 : Int) < V) = false := by simp; omega
        have t3 : decide ((55296 : Int) ≤ V) = true := by simp; omega
        have t4 : decide (V < 57344) = true := by simp; omega
        go_wp2
        go_ret2
        exact let_eq (r := 0) (l2_0 _ _ _ _ _ h0 h1 (by omega)) (by omega)
      · have t1 : decide (V < 128) = false := by simp; omega
        have t2 : decide ((1114111 : Int) < V) = false := by simp; omega
        have t3 : decide ((55296 : Int) ≤ V) = false := by simp; omega
        go_wp2
        go_ret2
        exact let_eq (r := 2) (l2_2 _ _ _ _ _ h0 h1 (by omega)) (by omega)
      · have t1 : decide (V < 128) = false := by simp; omega
        have t2 : decide ((1114111 : Int) < V) = false := by simp; omega
        have t3 : decide ((55296 : Int) ≤ V) = true := by simp; omega
        have t4 : decide (V < 57344) = false := by simp; omega
        go_wp2
        go_ret2
        exact let_eq (r := 2) (l2_2 _ _ _ _ _ h0 h1 (by omega)) (by omega)
set_option maxHeartbeats 1600000 in
set_option maxRecDepth 100000 in
theorem let_full3 (s : ByteArray) (i b0 b1 b2 b3 : Nat) (w : World) (hs : s.size ≤ 9223372036854770000) (hi : i < s.size) (e0 : ((s[i]'hi).toNat : Int) = (b0 : Nat)) (h0 : 224 ≤ b0) (h1 : b0 < 240) (hq1 : i + 1 < s.size) (e1 : ((s[i + 1]'hq1).toNat : Int) = (b1 : Nat)) (g1 : b1 < 256) (hq2 : i + 2 < s.size) (e2 : ((s[i + 2]'hq2).toNat : Int) = (b2 : Nat)) (g2 : b2 < 256) :
    Calls Tryd.prog 15 #[.string s, .int .i64 (i : Nat)] w fun e w' => Hid (LetP w w' e (letN (s.size - i) b0 b1 b2 b3)) := by
  have c0 : ¬ (b0 : Int) < 128 := by omega
  have c1 : decide ((192 : Int) ≤ (b0 : Int)) = true := by simp; omega
  have c2 : decide ((b0 : Int) < 224) = false := by simp; omega
  have c3 : decide ((224 : Int) ≤ (b0 : Int)) = true := by simp; omega
  have c4 : decide ((b0 : Int) < 240) = true := by simp; omega
  have c5 : decide ((240 : Int) ≤ (b0 : Int)) = false := by simp; omega
  have c6 : decide ((b0 : Int) < 248) = true := by simp; omega
  have d1 : decide ((s.size : Int) < (i : Int) + 3) = false := by simp; omega
  go_enter Tryd.func15, Tryd.ntmps15
  go_wp2
  go_loop [8, 10] (fun v x => ∃ k : Nat, x = .int .i64 (k : Nat) ∧ k ≤ 3 ∧ ((k = 1 ∧ v = .int .i64 ((b0 : Int) - 224)) ∨ (k = 2 ∧ v = .int .i64 (((b0 : Int) - 224) * 64 + (b1 : Int) - 128) ∧ 128 ≤ b1 ∧ b1 < 192) ∨ (k = 3 ∧ v = .int .i64 ((((b0 : Int) - 224) * 64 + (b1 : Int) - 128) * 64 + (b2 : Int) - 128) ∧ 128 ≤ b1 ∧ b1 < 192 ∧ 128 ≤ b2 ∧ b2 < 192))) (fun _ x => 3 - (intOf x).toNat)
  case atStart => exact ⟨1, rfl, by omega, .inl ⟨rfl, rfl⟩⟩
  case round =>
    obtain ⟨k, rfl, hk, hrel⟩ := hrel
    rcases hrel with ⟨rfl, rfl⟩ | ⟨rfl, rfl, p1, q1⟩ | ⟨rfl, rfl, p1, q1, p2, q2⟩
    · rcases (show b1 < 128 ∨ 192 ≤ b1 ∨ (128 ≤ b1 ∧ b1 < 192) by omega) with r | r | r
      · have t1 : decide ((b1 : Int) < 128) = true := by simp; omega
        have t2 : decide ((192 : Int) ≤ (b1 : Int)) = false := by simp; omega
        go_wp2
        go_ret2
        exact let_eq (r := 0) (l3_0 _ _ _ _ _ h0 h1 (by omega)) (by omega)
      · have t1 : decide ((b1 : Int) < 128) = false := by simp; omega
        have t2 : decide ((192 : Int) ≤ (b1 : Int)) = true := by simp; omega
        go_wp2
        go_ret2
        exact let_eq (r := 0) (l3_0 _ _ _ _ _ h0 h1 (by omega)) (by omega)
      · have t1 : decide ((b1 : Int) < 128) = false := by simp; omega
        have t2 : decide ((192 : Int) ≤ (b1 : Int)) = false := by simp; omega
        go_wp2
        go_round
        case rel => exact ⟨2, by go_num, by omega, .inr (.inl (⟨rfl, rfl, r.1, r.2⟩))⟩
        case measure => simp [intOf]
    · rcases (show b2 < 128 ∨ 192 ≤ b2 ∨ (128 ≤ b2 ∧ b2 < 192) by omega) with r | r | r
      · have t1 : decide ((b2 : Int) < 128) = true := by simp; omega
        have t2 : decide ((192 : Int) ≤ (b2 : Int)) = false := by simp; omega
        go_wp2
        go_ret2
        exact let_eq (r := 0) (l3_0 _ _ _ _ _ h0 h1 (by omega)) (by omega)
      · have t1 : decide ((b2 : Int) < 128) = false := by simp; omega
        have t2 : decide ((192 : Int) ≤ (b2 : Int)) = true := by simp; omega
        go_wp2
        go_ret2
        exact let_eq (r := 0) (l3_0 _ _ _ _ _ h0 h1 (by omega)) (by omega)
      · have t1 : decide ((b2 : Int) < 128) = false := by simp; omega
        have t2 : decide ((192 : Int) ≤ (b2 : Int)) = false := by simp; omega
        go_wp2
        go_round
        case rel => exact ⟨3, by go_num, by omega, .inr (.inr ((⟨rfl, rfl, p1, q1, r.1, r.2⟩)))⟩
        case measure => simp [intOf]
    · generalize hV : ((((b0 : Int) - 224) * 64 + (b1 : Int) - 128) * 64 + (b2 : Int) - 128) = V
      rcases (show V < 2048 ∨ 1114111 < V ∨ (55296 ≤ V ∧ V < 57344 ∧ 2048 ≤ V) ∨ (2048 ≤ V ∧ V ≤ 1114111 ∧ V < 55296) ∨ (2048 ≤ V ∧ V ≤ 1114111 ∧ 57344 ≤ V) by omega) with r | r | r | r | r
      · have t1 : decide (V < 2048) = true := by simp; omega
        go_wp2
        go_ret2
        exact let_eq (r := 0) (l3_0 _ _ _ _ _ h0 h1 (by omega)) (by omega)
      · have t1 : decide (V < 2048) = false := by simp; omega
        have t2 : decide ((1114111 : Int) < V) = true := by simp; omega
        go_wp2
        go_ret2
        exact let_eq (r := 0) (l3_0 _ _ _ _ _ h0 h1 (by omega)) (by omega)
      · have t1 : decide (V < 2048) = false := by simp; omega
        have t2 : decide ((1114111 : Int) < V) = false := by simp; omega
        have t3 : decide ((55296 : Int) ≤ V) = true := by simp; omega
        have t4 : decide (V < 57344) = true := by simp; omega
        go_wp2
        go_ret2
        exact let_eq (r := 0) (l3_0 _ _ _ _ _ h0 h1 (by omega)) (by omega)
      · have t1 : decide (V < 2048) = false := by simp; omega
        have t2 : decide ((1114111 : Int) < V) = false := by simp; omega
        have t3 : decide ((55296 : Int) ≤ V) = false := by simp; omega
        go_wp2
        go_ret2
        exact let_eq (r := 3) (l3_3 _ _ _ _ _ h0 h1 (by omega)) (by omega)
      · have t1 : decide (V < 2048) = false := by simp; omega
        have t2 : decide ((1114111 : Int) < V) = false := by simp; omega
        have t3 : decide ((55296 : Int) ≤ V) = true := by simp; omega
        have t4 : decide (V < 57344) = false := by simp; omega
        go_wp2
        go_ret2
        exact let_eq (r := 3) (l3_3 _ _ _ _ _ h0 h1 (by omega)) (by omega)
set_option maxHeartbeats 1600000 in
set_option maxRecDepth 100000 in
theorem let_full4 (s : ByteArray) (i b0 b1 b2 b3 : Nat) (w : World) (hs : s.size ≤ 9223372036854770000) (hi : i < s.size) (e0 : ((s[i]'hi).toNat : Int) = (b0 : Nat)) (h0 : 240 ≤ b0) (h1 : b0 < 248) (hq1 : i + 1 < s.size) (e1 : ((s[i + 1]'hq1).toNat : Int) = (b1 : Nat)) (g1 : b1 < 256) (hq2 : i + 2 < s.size) (e2 : ((s[i + 2]'hq2).toNat : Int) = (b2 : Nat)) (g2 : b2 < 256) (hq3 : i + 3 < s.size) (e3 : ((s[i + 3]'hq3).toNat : Int) = (b3 : Nat)) (g3 : b3 < 256) :
    Calls Tryd.prog 15 #[.string s, .int .i64 (i : Nat)] w fun e w' => Hid (LetP w w' e (letN (s.size - i) b0 b1 b2 b3)) := by
  have c0 : ¬ (b0 : Int) < 128 := by omega
  have c1 : decide ((192 : Int) ≤ (b0 : Int)) = true := by simp; omega
  have c2 : decide ((b0 : Int) < 224) = false := by simp; omega
  have c3 : decide ((224 : Int) ≤ (b0 : Int)) = true := by simp; omega
  have c4 : decide ((b0 : Int) < 240) = false := by simp; omega
  have c5 : decide ((240 : Int) ≤ (b0 : Int)) = true := by simp; omega
  have c6 : decide ((b0 : Int) < 248) = true := by simp; omega
  have d1 : decide ((s.size : Int) < (i : Int) + 4) = false := by simp; omega
  go_enter Tryd.func15, Tryd.ntmps15
  go_wp2
  go_loop [8, 10] (fun v x => ∃ k : Nat, x = .int .i64 (k : Nat) ∧ k ≤ 4 ∧ ((k = 1 ∧ v = .int .i64 ((b0 : Int) - 240)) ∨ (k = 2 ∧ v = .int .i64 (((b0 : Int) - 240) * 64 + (b1 : Int) - 128) ∧ 128 ≤ b1 ∧ b1 < 192) ∨ (k = 3 ∧ v = .int .i64 ((((b0 : Int) - 240) * 64 + (b1 : Int) - 128) * 64 + (b2 : Int) - 128) ∧ 128 ≤ b1 ∧ b1 < 192 ∧ 128 ≤ b2 ∧ b2 < 192) ∨ (k = 4 ∧ v = .int .i64 (((((b0 : Int) - 240) * 64 + (b1 : Int) - 128) * 64 + (b2 : Int) - 128) * 64 + (b3 : Int) - 128) ∧ 128 ≤ b1 ∧ b1 < 192 ∧ 128 ≤ b2 ∧ b2 < 192 ∧ 128 ≤ b3 ∧ b3 < 192))) (fun _ x => 4 - (intOf x).toNat)
  case atStart => exact ⟨1, rfl, by omega, .inl ⟨rfl, rfl⟩⟩
  case round =>
    obtain ⟨k, rfl, hk, hrel⟩ := hrel
    rcases hrel with ⟨rfl, rfl⟩ | ⟨rfl, rfl, p1, q1⟩ | ⟨rfl, rfl, p1, q1, p2, q2⟩ | ⟨rfl, rfl, p1, q1, p2, q2, p3, q3⟩
    · rcases (show b1 < 128 ∨ 192 ≤ b1 ∨ (128 ≤ b1 ∧ b1 < 192) by omega) with r | r | r
      · have t1 : decide ((b1 : Int) < 128) = true := by simp; omega
        have t2 : decide ((192 : Int) ≤ (b1 : Int)) = false := by simp; omega
        go_wp2
        go_ret2
        exact let_eq (r := 0) (l4_0 _ _ _ _ _ h0 h1 (by omega)) (by omega)
      · have t1 : decide ((b1 : Int) < 128) = false := by simp; omega
        have t2 : decide ((192 : Int) ≤ (b1 : Int)) = true := by simp; omega
        go_wp2
        go_ret2
        exact let_eq (r := 0) (l4_0 _ _ _ _ _ h0 h1 (by omega)) (by omega)
      · have t1 : decide ((b1 : Int) < 128) = false := by simp; omega
        have t2 : decide ((192 : Int) ≤ (b1 : Int)) = false := by simp; omega
        go_wp2
        go_round
        case rel => exact ⟨2, by go_num, by omega, .inr (.inl (⟨rfl, rfl, r.1, r.2⟩))⟩
        case measure => simp [intOf]
    · rcases (show b2 < 128 ∨ 192 ≤ b2 ∨ (128 ≤ b2 ∧ b2 < 192) by omega) with r | r | r
      · have t1 : decide ((b2 : Int) < 128) = true := by simp; omega
        have t2 : decide ((192 : Int) ≤ (b2 : Int)) = false := by simp; omega
        go_wp2
        go_ret2
        exact let_eq (r := 0) (l4_0 _ _ _ _ _ h0 h1 (by omega)) (by omega)
      · have t1 : decide ((b2 : Int) < 128) = false := by simp; omega
        have t2 : decide ((192 : Int) ≤ (b2 : Int)) = true := by simp; omega
        go_wp2
        go_ret2
        exact let_eq (r := 0) (l4_0 _ _ _ _ _ h0 h1 (by omega)) (by omega)
      · have t1 : decide ((b2 : Int) < 128) = false := by simp; omega
        have t2 : decide ((192 : Int) ≤ (b2 : Int)) = false := by simp; omega
        go_wp2
        go_round
        case rel => exact ⟨3, by go_num, by omega, .inr (.inr (.inl (⟨rfl, rfl, p1, q1, r.1, r.2⟩)))⟩
        case measure => simp [intOf]
    · rcases (show b3 < 128 ∨ 192 ≤ b3 ∨ (128 ≤ b3 ∧ b3 < 192) by omega) with r | r | r
      · have t1 : decide ((b3 : Int) < 128) = true := by simp; omega
        have t2 : decide ((192 : Int) ≤ (b3 : Int)) = false := by simp; omega
        go_wp2
        go_ret2
        exact let_eq (r := 0) (l4_0 _ _ _ _ _ h0 h1 (by omega)) (by omega)
      · have t1 : decide ((b3 : Int) < 128) = false := by simp; omega
        have t2 : decide ((192 : Int) ≤ (b3 : Int)) = true := by simp; omega
        go_wp2
        go_ret2
        exact let_eq (r := 0) (l4_0 _ _ _ _ _ h0 h1 (by omega)) (by omega)
      · have t1 : decide ((b3 : Int) < 128) = false := by simp; omega
        have t2 : decide ((192 : Int) ≤ (b3 : Int)) = false := by simp; omega
        go_wp2
        go_round
        case rel => exact ⟨4, by go_num, by omega, .inr (.inr (.inr ((⟨rfl, rfl, p1, q1, p2, q2, r.1, r.2⟩))))⟩
        case measure => simp [intOf]
    · generalize hV : (((((b0 : Int) - 240) * 64 + (b1 : Int) - 128) * 64 + (b2 : Int) - 128) * 64 + (b3 : Int) - 128) = V
      rcases (show V < 65536 ∨ 1114111 < V ∨ (55296 ≤ V ∧ V < 57344 ∧ 65536 ≤ V) ∨ (65536 ≤ V ∧ V ≤ 1114111 ∧ V < 55296) ∨ (65536 ≤ V ∧ V ≤ 1114111 ∧ 57344 ≤ V) by omega) with r | r | r | r | r
      · have t1 : decide (V < 65536) = true := by simp; omega
        go_wp2
        go_ret2
        exact let_eq (r := 0) (l4_0 _ _ _ _ _ h0 h1 (by omega)) (by omega)
      · have t1 : decide (V < 65536) = false := by simp; omega
        have t2 : decide ((1114111 : Int) < V) = true := by simp; omega
        go_wp2
        go_ret2
        exact let_eq (r := 0) (l4_0 _ _ _ _ _ h0 h1 (by omega)) (by omega)
      · have t1 : decide (V < 65536) = false := by simp; omega
        have t2 : decide ((1114111 : Int) < V) = false := by simp; omega
        have t3 : decide ((55296 : Int) ≤ V) = true := by simp; omega
        have t4 : decide (V < 57344) = true := by simp; omega
        go_wp2
        go_ret2
        exact let_eq (r := 0) (l4_0 _ _ _ _ _ h0 h1 (by omega)) (by omega)
      · have t1 : decide (V < 65536) = false := by simp; omega
        have t2 : decide ((1114111 : Int) < V) = false := by simp; omega
        have t3 : decide ((55296 : Int) ≤ V) = false := by simp; omega
        go_wp2
        go_ret2
        exact let_eq (r := 4) (l4_4 _ _ _ _ _ h0 h1 (by omega)) (by omega)
      · have t1 : decide (V < 65536) = false := by simp; omega
        have t2 : decide ((1114111 : Int) < V) = false := by simp; omega
        have t3 : decide ((55296 : Int) ≤ V) = true := by simp; omega
        have t4 : decide (V < 57344) = false := by simp; omega
        go_wp2
        go_ret2
        exact let_eq (r := 4) (l4_4 _ _ _ _ _ h0 h1 (by omega)) (by omega)
end Go.Proofs.YtlnhnheplppeaaaDoor
