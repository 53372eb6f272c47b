import Derived.Test.YtcopkohklgbpgaaDoorRep
import Derived.Deep.Cut
namespace Go.Proofs.YtcopkohklgbpgaaDoor
open Go.RowKit
set_option linter.unusedVariables false
set_option linter.unusedSimpArgs false

/-- A slice of slices of bytes that lie outside block g. -/
def Parts (w : World) (g : Nat) (v : Value) (yss : List (List Int)) : Prop :=
  ∃ a c, v = .slice a yss.length c ∧ yss.length ≤ c ∧ c ≤ maxLen ∧ (yss = [] ∨ ∃ b p, a = some ⟨b, p, none⟩ ∧ b ≠ g ∧ ∀ i, i < yss.length → ∃ x, w.cell? ⟨b, p + i, none⟩ = some x ∧ View w x (yss.getD i []) ∧ (yss.getD i [] ≠ [] → ∀ b' off l c', x = .slice (some ⟨b', off, none⟩) l c' → b' ≠ g))
theorem sum_step (yss : List (List Int)) (k : Nat) (hk : k < yss.length) : (yss.take (k + 1)).flatten = (yss.take k).flatten ++ yss.getD k [] := by
  rw [List.take_add_one, List.flatten_append]
  simp [List.getD, hk]
theorem sum_le (yss : List (List Int)) (k : Nat) : (yss.take k).flatten.length ≤ yss.flatten.length := by
  have := congrArg List.length (congrArg List.flatten (List.take_append_drop k yss))
  rw [List.flatten_append, List.length_append] at this
  omega

/-- taken.add, where bytes that are none may lie anywhere. -/
theorem add_rep2 (wd : Bool) (g o : Nat) (h : Int) (s0 : Eight) (f0 : Nat) (zs ys : List Int) (v : Value) (w : World) (hblk : blockOf h = bsz wd) (hr : Rep w g o h wd s0 f0 zs) (hv : View w v ys) (hap : ys ≠ [] → Apart v g o 139) (hT : Tables w) (hg : 4 ≤ g) (hfn : f0 + zs.length + ys.length ≤ 4611686018427387904) :
    Calls Tryd.prog 57 #[.pointer (some ⟨g, o, none⟩), v] w fun e w' => e = .returned (.tuple #[]) ∧ Touch w w' g o 139 ∧ Rep w' g o h wd s0 f0 (zs ++ ys) := by
  by_cases hys : ys = []
  · subst hys
    obtain ⟨half, hk, hh, hf⟩ := hr
    obtain ⟨a, cap, rfl, h1, h2, h3, h4⟩ := hv
    refine (add_empty_any wd g o h _ half _ cap a w hblk hk (by simpa using hfn) (by unfold maxLen at h2; omega) h3).mono ?_
    rintro e w' ⟨rfl, ht, hk'⟩
    rw [List.append_nil]
    exact ⟨rfl, ht, half, hk', hh, hf⟩
  · exact add_rep wd g o h s0 f0 zs ys v w hblk hr hv (hap hys) hT hg hfn

set_option maxHeartbeats 1600000 in
set_option maxRecDepth 100000 in
theorem write_none (g o : Nat) (fed left c : Nat) (a : Option Addr) (most : Int) (w : World) (c1 : w.cell? ⟨g, o + 138, none⟩ = some (.int .u64 fed)) (hm : most - (fed : Int) = (left : Int)) (hmm : fed + left ≤ 4611686018427387904) (hc : c ≤ 9223372036854775807) :
    Calls Tryd.prog 45 #[.pointer (some ⟨g, o, none⟩), .int .u64 most, .slice a 0 c] w fun e w' => e = .returned (.int .i64 0) ∧ w' = w := by
  have hl2 : (left : Int) < 18446744073709551616 := by omega
  go_enter Tryd.func45, Tryd.ntmps45
  go_wp2
  go_loop [20, 7] (fun i l => i = .int .i64 0 ∧ l = .int .u64 left) (fun _ _ => 0)
  case atStart => exact ⟨rfl, rfl⟩
  case round =>
    obtain ⟨rfl, rfl⟩ := hrel
    go_wp2
    go_loop [37] (fun i => i = .int .i64 0) (fun _ => 0)
    case atStart => exact rfl
    case round =>
      obtain rfl := hrel
      go_wp2
      go_ret
      exact ⟨rfl, rfl⟩

set_option maxHeartbeats 3200000 in
set_option maxRecDepth 100000 in
theorem write_some (wd : Bool) (g o : Nat) (h : Int) (s0 : Eight) (f0 n c b p : Nat) (zs : List Int) (yss : List (List Int)) (fed left : Nat) (most : Int) (w : World) (hblk : blockOf h = bsz wd) (hr : Hid (Rep w g o h wd s0 f0 zs)) (hT : Hid (Tables w)) (hg : 4 ≤ g)
    (c1 : w.cell? ⟨g, o + 138, none⟩ = some (.int .u64 fed)) (hfed : Hid (fed = f0 + zs.length)) (hm : most - (fed : Int) = (left : Int)) (hmm : fed + left ≤ 4611686018427387904) (hn : Hid (yss.length = n)) (hnc : n ≤ c) (hc : c ≤ 9223372036854775807) (hbg : Hid (b ≠ g))
    (hx : Hid (∀ i, i < n → ∃ x, w.cell? ⟨b, p + i, none⟩ = some x ∧ View w x (yss.getD i []) ∧ (yss.getD i [] ≠ [] → ∀ b' off l c', x = .slice (some ⟨b', off, none⟩) l c' → b' ≠ g))) (hs : Hid (yss.flatten.length ≤ left)) :
    Calls Tryd.prog 45 #[.pointer (some ⟨g, o, none⟩), .int .u64 most, .slice (some ⟨b, p, none⟩) n c] w fun e w' => e = .returned (.int .i64 0) ∧ Touch w w' g o 139 ∧ Rep w' g o h wd s0 f0 (zs ++ yss.flatten) := by
  have hl2 : (left : Int) < 18446744073709551616 := by omega
  go_enter Tryd.func45, Tryd.ntmps45
  go_wp2
  go_loop [20, 7] (fun i l => ∃ k r : Nat, k ≤ n ∧ i = .int .i64 k ∧ l = .int .u64 r ∧ Hid (r + (yss.take k).flatten.length = left)) (fun i _ => n - (intOf i).toNat)
  case atStart => exact ⟨0, left, by omega, rfl, rfl, (by show _ = _; simp)⟩
  case round =>
    obtain ⟨k, r, hk, rfl, rfl, HR⟩ := hrel
    by_cases hlt : k < n
    · obtain ⟨x, hcx, hvx, hax⟩ := hx.out k hlt
      obtain ⟨a, cap, rfl, h1, h2, h3, h4⟩ := hvx
      have hst := sum_step yss k (by rw [hn.out]; exact hlt)
      have hle := sum_le yss (k + 1)
      obtain ⟨l, hl⟩ : ∃ l, (yss.getD k []).length = l := ⟨_, rfl⟩
      rw [hl] at hcx h1
      obtain ⟨r2, hr2⟩ : ∃ r2, r = r2 + l := ⟨r - l, by
        have h5 := HR.out
        have h6 := hs.out
        rw [hst, List.length_append, hl] at hle
        omega⟩
      have HR2 : Hid (r2 + (yss.take (k + 1)).flatten.length = left) := by
        show _ = _
        rw [hst, List.length_append, hl]
        have := HR.out
        omega
      have hrl : (r : Int) < 18446744073709551616 := by have := HR.out; omega
      have e1 : (r : Int) - (l : Int) = (r2 : Int) := by omega
      have e2 : (l : Int) ≤ (r : Int) := by omega
      have e3 : (r2 : Int) < 18446744073709551616 := by omega
      have e4 : (l : Int) < 18446744073709551616 := by omega
      unfold maxLen at h2
      have e5 : (k : Int) < n := by omega
      clear hst hle hr2 HR h3 h4 hl hax
      go_upto_region 4 with fail
      go_upto_region 5 with fail
      have e2' : ¬ ((r : Int) < (l : Int)) := by omega
      have HE1 : Hid ((r : Int) - (l : Int) = (r2 : Int)) := e1
      have hkb : (k : Int) < 9223372036854775807 := by omega
      clear hc hmm hl2 c1 hcx hnc hm hg h1 h2 hblk e2 e1
      go_wp2
      go_round
      case rel => exact ⟨k + 1, r2, by omega, by go_num, by rw [HE1.out], HR2⟩
      case measure => simp [intOf]; omega
    · obtain rfl : k = n := by omega
      clear hlt HR
      go_wp2
      go_loopw [37] (fun i wr => ∃ q : Nat, q ≤ k ∧ i = .int .i64 q ∧ Hid (Touch w wr g o 139) ∧ Hid (Rep wr g o h wd s0 f0 (zs ++ (yss.take q).flatten))) (fun i _ => k - (intOf i).toNat)
      case atStart => exact ⟨0, by omega, rfl, Touch.refl _ _ _ _, (by show Rep _ _ _ _ _ _ _ _; simpa using hr.out)⟩
      case round =>
        obtain ⟨q, hq, rfl, HT, HP⟩ := hrel
        by_cases hlt : q < k
        · obtain ⟨x, hcx, hvx, hax⟩ := hx.out q hlt
          have hst := sum_step yss q (by rw [hn.out]; exact hlt)
          have hle := sum_le yss (q + 1)
          have hbw : b < w.heap.size := lt_of_cell hcx
          have hcx' : wr.cell? ⟨b, p + q, none⟩ = some x := by rw [HT.out.far (p := ⟨b, p + q, none⟩) hbw hbg.out]; exact hcx
          have hap : yss.getD q [] ≠ [] → Apart x g o 139 := fun h0 b' off l c' e => .inl (hax h0 b' off l c' e)
          have hvw : View wr x (yss.getD q []) := by
            by_cases h0 : yss.getD q [] = []
            · obtain ⟨a, cap, e, h1, h2, h3, h4⟩ := hvx
              exact ⟨a, cap, e, h1, h2, h3, .inl h0⟩
            · exact HT.out.view hvx (hap h0)
          have HA : Hid (Calls Tryd.prog 57 #[.pointer (some ⟨g, o, none⟩), x] wr fun e w' => e = .returned (.tuple #[]) ∧ Touch wr w' g o 139 ∧ Rep w' g o h wd s0 f0 (zs ++ (yss.take (q + 1)).flatten)) := by
            have := add_rep2 wd g o h s0 f0 (zs ++ (yss.take q).flatten) (yss.getD q []) x wr hblk HP.out hvw hap (hT.out.touch HT.out hg) hg (by
              rw [hst] at hle
              have h5 := hfed.out
              have h6 := hs.out
              simp only [List.length_append] at hle ⊢
              omega)
            rw [List.append_assoc, ← hst] at this
            exact this
          have e5 : (q : Int) < k := by omega
          clear hvx hst hle hcx hap hax hvw
          go_wp2_with (first | (go_at_call 57; refine HA.out.mono ?_; rintro e3 w3 ⟨rfl, ht3, hp3⟩) | fail)
          have HT3 : Hid (Touch w w3 g o 139) := HT.out.trans ht3
          have HP3 : Hid (Rep w3 g o h wd s0 f0 (zs ++ (yss.take (q + 1)).flatten)) := hp3
          clear ht3 hp3 HA HT HP
          go_wp2
          go_roundw
          case rel => exact ⟨q + 1, by omega, by go_num, HT3, HP3⟩
          case measure => simp [intOf]; omega
        · obtain rfl : q = k := by omega
          go_wp2
          go_ret
          refine ⟨rfl, HT, ?_⟩
          have := HP.out
          rw [List.take_of_length_le (by rw [hn.out]; exact Nat.le_refl _)] at this
          exact this

/-- taken.write of what fits. -/
theorem write_rep (wd : Bool) (g o : Nat) (h : Int) (s0 : Eight) (f0 : Nat) (zs : List Int) (yss : List (List Int)) (v : Value) (left : Nat) (most : Int) (w : World) (hblk : blockOf h = bsz wd) (hr : Rep w g o h wd s0 f0 zs) (hp : Parts w g v yss) (hT : Tables w) (hg : 4 ≤ g)
    (hm : most = ((f0 + zs.length + left : Nat) : Int)) (hmm : f0 + zs.length + left ≤ 4611686018427387904) (hs : yss.flatten.length ≤ left) :
    Calls Tryd.prog 45 #[.pointer (some ⟨g, o, none⟩), .int .u64 most, v] w fun e w' => e = .returned (.int .i64 0) ∧ Touch w w' g o 139 ∧ Rep w' g o h wd s0 f0 (zs ++ yss.flatten) := by
  obtain ⟨a, c, rfl, hn, hc, hx⟩ := hp
  unfold maxLen at hc
  have hc1 : w.cell? ⟨g, o + 138, none⟩ = some (.int .u64 ((f0 + zs.length : Nat) : Int)) := by obtain ⟨_, hk, _⟩ := hr; exact hk.fed
  rcases hx with rfl | ⟨b, p, rfl, hb, hx⟩
  · refine (write_none g o (f0 + zs.length) left c a most w hc1 (by omega) hmm hc).mono ?_
    rintro e w' ⟨rfl, rfl⟩
    exact ⟨rfl, Touch.refl _ _ _ _, by simpa using hr⟩
  · exact write_some wd g o h s0 f0 yss.length c b p zs yss (f0 + zs.length) left most w hblk hr hT hg hc1 rfl (by omega) hmm rfl hn hc hb hx hs
end Go.Proofs.YtcopkohklgbpgaaDoor
