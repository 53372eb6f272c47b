import Derived.Test.YtehlppaidgkpaaaGreatDoorPart25
import Derived.Deep.RegionWith
import Derived.Laws.EntriesVeiled
import Derived.WalkSmall
import Derived.Deep.Cut
namespace Go.Proofs.YtehlppaidgkpaaaGreatDoor
open Go.RowKit
set_option linter.unusedVariables false
set_option linter.unusedSimpArgs false
theorem view_lhm {w : World} {x : Option Addr} {n c : Nat} {zs : List Int} (h : View w (.slice x n c) zs) (l : Nat) (hl : l ≤ n) : ∃ y d, sliced x l n n 1 = .slice y (n - l) d ∧ View w (.slice y (n - l) d) (zs.drop l) := by
  obtain ⟨a, cc, he, h1, h2, h3, h4⟩ := h
  injection he with e1 e2 e3
  subst e1 e2 e3
  refine ⟨_, _, rfl, ?_⟩
  refine ⟨_, _, by rw [List.length_drop], by simp, by omega, ?_, ?_⟩
  · intro e
    split at e
    · omega
    · cases x with
      | none => have := h3 rfl; omega
      | some q => cases e
  · by_cases hz : zs.drop l = []
    · exact .inl hz
    · right
      have hlt : l < zs.length := by
        by_cases q : l < zs.length
        · exact q
        · exact absurd (List.drop_eq_nil_of_le (by omega)) hz
      rcases h4 with rfl | ⟨b, off, rfl, hc⟩
      · simp at hlt
      · refine ⟨b, off + l, ?_, fun k hk => ?_⟩
        · rw [if_neg (by omega), Option.map_some, Nat.mul_one, Addr.add_mid]
        · rw [List.length_drop] at hk
          rw [Nat.add_assoc, hc (l + k) (by omega)]
          simp [List.getD]
theorem ShA.view {B : Nat} {w : World} {sh : Nat} {S : ByteArray} {st wd : Nat} {zs : List Int} {kv : Value} {mp : Option Addr} {ov : Value} (h : ShA B w sh S st wd zs kv mp ov) : View w kv zs := view_owns h.key rfl
set_option maxHeartbeats 800000 in
set_option maxRecDepth 100000 in
/-- shared.rest. -/
theorem rest_ok (B sh : Nat) (S : ByteArray) (st wd : Nat) (zs : List Int) (kv : Value) (mp : Option Addr) (ov : Value) (w : World) (h : ShA B w sh S st wd zs kv mp ov) (hwd : wd ≤ zs.length) :
    Calls Tryz.prog 192 #[.pointer (some ⟨sh, 0, none⟩)] w fun e w' => Hid (∃ y d, e = .returned (.slice y (zs.length - wd) d) ∧ View w' (.slice y (zs.length - wd) d) (zs.drop wd) ∧ Below w.heap.size w w') := by
  have hv := h.view
  obtain ⟨xa, xc, rfl, h1, h2, h3, h4⟩ := h.view
  obtain ⟨n, HNL⟩ : ∃ n, Hid (zs.length = n) := ⟨_, rfl⟩
  rw [HNL.out] at hwd h1 hv h ⊢
  obtain ⟨y, d, hsl, hvv⟩ := view_lhm hv wd hwd
  have c2 : w.cell? ⟨sh, 2, none⟩ = some (.slice xa n xc) := h.box.cell 2 _ rfl
  have c3 : w.cell? ⟨sh, 3, none⟩ = some (.int .i64 (wd : Nat)) := h.box.cell 3 _ rfl
  have hlt : sh < w.heap.size := h.box.lt
  have hS : ∀ u : World, (Instr.slice 22 (.slice xa n xc) (some (.int .i64 (wd : Nat))) (some (.int .i64 (n : Nat))) (some (.int .i64 (n : Nat)))).run Tryz.prog u = .ok (.slice y (n - wd) d) u := fun u => by
    have q := run_slice_lhm (P := Tryz.prog) u 22 xa n xc und22 .i64 .i64 .i64 (wd : Nat) (n : Nat) (n : Nat) (by omega) (by omega) (by omega) (by omega)
    rw [q, show Tryz.prog.elem 22 = 5 by kernel_rfl, sizeOf5]
    simp only [Result.andThen_ok, Int.toNat_natCast]
    rw [hsl]
  have HV : Hid (View w (.slice y (n - wd) d) (zs.drop wd)) := hvv
  have g0 : (0 : Int) ≤ (wd : Int) := by omega
  have g1 : (wd : Int) ≤ (n : Int) := by omega
  clear hv h h1 h2 h3 h4 hsl hvv hwd
  go_enter Tryz.func192, Tryz.ntmps192
  go_wp2
  go_quiet (fail)
  go_wp2
  go_ret
  exact ⟨y, d, rfl, HV.out.below (Below.drewN (Below.refl _ _) _), Below.drewN (Below.refl _ _) _⟩
end Go.Proofs.YtehlppaidgkpaaaGreatDoor
namespace Go.Proofs.YtehlppaidgkpaaaGreatDoor
open Go.RowKit
set_option linter.unusedVariables false
set_option linter.unusedSimpArgs false
/-- A method value. -/
def bV (n : Nat) (cs : List Value) : Value := .func (.func n) #[.agg cs.toArray] #[]
theorem beginPlain_ok (p : Value) (w : World) : Calls Tryz.prog 149 #[p] w fun e w' => e = .returned (fV 179) ∧ w' = w := by
  go_enter Tryz.func149, Tryz.ntmps149
  go_wp2
  go_ret
  exact ⟨rfl, rfl⟩
theorem beginPlain64_ok (p : Value) (w : World) : Calls Tryz.prog 150 #[p] w fun e w' => e = .returned (fV 180) ∧ w' = w := by
  go_enter Tryz.func150, Tryz.ntmps150
  go_wp2
  go_ret
  exact ⟨rfl, rfl⟩
theorem beginPlain64BE_ok (p : Value) (w : World) : Calls Tryz.prog 151 #[p] w fun e w' => e = .returned (fV 181) ∧ w' = w := by
  go_enter Tryz.func151, Tryz.ntmps151
  go_wp2
  go_ret
  exact ⟨rfl, rfl⟩
end Go.Proofs.YtehlppaidgkpaaaGreatDoor
namespace Go.Proofs.YtehlppaidgkpaaaGreatDoor.Dg
open Go.RowKit
set_option linter.unusedVariables false
set_option linter.unusedSimpArgs false

/-- A slice of slices of bytes that lie outside block g. -/
def Parts (w : World) (g : Nat) (v : Value) (yss : List (List Int)) : Prop :=
  ∃ a c, v = .slice a yss.length c ∧ yss.length ≤ c ∧ c ≤ maxLen ∧ (yss = [] ∨ ∃ b p, a = some ⟨b, p, none⟩ ∧ b ≠ g ∧ ∀ i, i < yss.length → ∃ x, w.cell? ⟨b, p + i, none⟩ = some x ∧ View w x (yss.getD i []) ∧ (yss.getD i [] ≠ [] → ∀ b' off l c', x = .slice (some ⟨b', off, none⟩) l c' → b' ≠ g))
theorem sum_step (yss : List (List Int)) (k : Nat) (hk : k < yss.length) : (yss.take (k + 1)).flatten = (yss.take k).flatten ++ yss.getD k [] := by
  rw [List.take_add_one, List.flatten_append]
  simp [List.getD, hk]
theorem sum_le (yss : List (List Int)) (k : Nat) : (yss.take k).flatten.length ≤ yss.flatten.length := by
  have := congrArg List.length (congrArg List.flatten (List.take_append_drop k yss))
  rw [List.flatten_append, List.length_append] at this
  omega

/-- taken.add, where bytes that are none may lie anywhere. -/
theorem add_rep2 (wd : Bool) (g o : Nat) (h : Int) (s0 : Eight) (f0 : Nat) (zs ys : List Int) (v : Value) (w : World) (hblk : blockOf h = bsz wd ∧ wd = false) (hr : Rep w g o h wd s0 f0 zs) (hv : View w v ys) (hap : ys ≠ [] → Apart v g o 139) (hT : Tables w) (hg : 6 ≤ g) (hfn : f0 + zs.length + ys.length ≤ 4611686018427387904) :
    Calls Tryz.prog 95 #[.pointer (some ⟨g, o, none⟩), v] w fun e w' => e = .returned (.tuple #[]) ∧ Touch w w' g o 139 ∧ Rep w' g o h wd s0 f0 (zs ++ ys) := by
  by_cases hys : ys = []
  · subst hys
    obtain ⟨half, hk, hh, hf⟩ := hr
    obtain ⟨a, cap, rfl, h1, h2, h3, h4⟩ := hv
    refine (add_empty_any wd g o h _ half _ cap a w hblk hk (by simpa using hfn) (by unfold maxLen at h2; omega) h3).mono ?_
    rintro e w' ⟨rfl, ht, hk'⟩
    rw [List.append_nil]
    exact ⟨rfl, ht, half, hk', hh, hf⟩
  · exact add_rep wd g o h s0 f0 zs ys v w hblk hr hv (hap hys) hT hg hfn

set_option maxHeartbeats 1600000 in
set_option maxRecDepth 100000 in
theorem write_none (g o : Nat) (fed left c : Nat) (a : Option Addr) (most : Int) (w : World) (c1 : w.cell? ⟨g, o + 138, none⟩ = some (.int .u64 fed)) (hm : most - (fed : Int) = (left : Int)) (hmm : fed + left ≤ 4611686018427387904) (hc : c ≤ 9223372036854775807) :
    Calls Tryz.prog 57 #[.pointer (some ⟨g, o, none⟩), .int .u64 most, .slice a 0 c] w fun e w' => e = .returned (.int .i64 0) ∧ w' = w := by
  have hl2 : (left : Int) < 18446744073709551616 := by omega
  go_enter Tryz.func57, Tryz.ntmps57
  go_wp2
  go_loop [20, 7] (fun i l => i = .int .i64 0 ∧ l = .int .u64 left) (fun _ _ => 0)
  case atStart => exact ⟨rfl, rfl⟩
  case round =>
    obtain ⟨rfl, rfl⟩ := hrel
    go_wp2
    go_loop [37] (fun i => i = .int .i64 0) (fun _ => 0)
    case atStart => exact rfl
    case round =>
      obtain rfl := hrel
      go_wp2
      go_ret
      exact ⟨rfl, rfl⟩

set_option maxHeartbeats 3200000 in
set_option maxRecDepth 100000 in
theorem write_some (wd : Bool) (g o : Nat) (h : Int) (s0 : Eight) (f0 n c b p : Nat) (zs : List Int) (yss : List (List Int)) (fed left : Nat) (most : Int) (w : World) (hblk : blockOf h = bsz wd ∧ wd = false) (hr : Hid (Rep w g o h wd s0 f0 zs)) (hT : Hid (Tables w)) (hg : 6 ≤ g)
    (c1 : w.cell? ⟨g, o + 138, none⟩ = some (.int .u64 fed)) (hfed : Hid (fed = f0 + zs.length)) (hm : most - (fed : Int) = (left : Int)) (hmm : fed + left ≤ 4611686018427387904) (hn : Hid (yss.length = n)) (hnc : n ≤ c) (hc : c ≤ 9223372036854775807) (hbg : Hid (b ≠ g))
    (hx : Hid (∀ i, i < n → ∃ x, w.cell? ⟨b, p + i, none⟩ = some x ∧ View w x (yss.getD i []) ∧ (yss.getD i [] ≠ [] → ∀ b' off l c', x = .slice (some ⟨b', off, none⟩) l c' → b' ≠ g))) (hs : Hid (yss.flatten.length ≤ left)) :
    Calls Tryz.prog 57 #[.pointer (some ⟨g, o, none⟩), .int .u64 most, .slice (some ⟨b, p, none⟩) n c] w fun e w' => e = .returned (.int .i64 0) ∧ Touch w w' g o 139 ∧ Rep w' g o h wd s0 f0 (zs ++ yss.flatten) := by
  have hl2 : (left : Int) < 18446744073709551616 := by omega
  go_enter Tryz.func57, Tryz.ntmps57
  go_wp2
  go_loop [20, 7] (fun i l => ∃ k r : Nat, k ≤ n ∧ i = .int .i64 k ∧ l = .int .u64 r ∧ Hid (r + (yss.take k).flatten.length = left)) (fun i _ => n - (intOf i).toNat)
  case atStart => exact ⟨0, left, by omega, rfl, rfl, (by show _ = _; simp)⟩
  case round =>
    obtain ⟨k, r, hk, rfl, rfl, HR⟩ := hrel
    by_cases hlt : k < n
    · obtain ⟨x, hcx, hvx, hax⟩ := hx.out k hlt
      obtain ⟨a, cap, rfl, h1, h2, h3, h4⟩ := hvx
      have hst := sum_step yss k (by rw [hn.out]; exact hlt)
      have hle := sum_le yss (k + 1)
      obtain ⟨l, hl⟩ : ∃ l, (yss.getD k []).length = l := ⟨_, rfl⟩
      rw [hl] at hcx h1
      obtain ⟨r2, hr2⟩ : ∃ r2, r = r2 + l := ⟨r - l, by
        have h5 := HR.out
        have h6 := hs.out
        rw [hst, List.length_append, hl] at hle
        omega⟩
      have HR2 : Hid (r2 + (yss.take (k + 1)).flatten.length = left) := by
        show _ = _
        rw [hst, List.length_append, hl]
        have := HR.out
        omega
      have hrl : (r : Int) < 18446744073709551616 := by have := HR.out; omega
      have e1 : (r : Int) - (l : Int) = (r2 : Int) := by omega
      have e2 : (l : Int) ≤ (r : Int) := by omega
      have e3 : (r2 : Int) < 18446744073709551616 := by omega
      have e4 : (l : Int) < 18446744073709551616 := by omega
      unfold maxLen at h2
      have e5 : (k : Int) < n := by omega
      clear hst hle hr2 HR h3 h4 hl hax
      go_upto_region 4 with fail
      go_upto_region 5 with fail
      have e2' : ¬ ((r : Int) < (l : Int)) := by omega
      have HE1 : Hid ((r : Int) - (l : Int) = (r2 : Int)) := e1
      have hkb : (k : Int) < 9223372036854775807 := by omega
      clear hc hmm hl2 c1 hcx hnc hm hg h1 h2 hblk e2 e1
      go_wp2
      go_round
      case rel => exact ⟨k + 1, r2, by omega, by go_num, by rw [HE1.out], HR2⟩
      case measure => simp [intOf]; omega
    · obtain rfl : k = n := by omega
      clear hlt HR
      go_wp2
      go_loopw [37] (fun i wr => ∃ q : Nat, q ≤ k ∧ i = .int .i64 q ∧ Hid (Touch w wr g o 139) ∧ Hid (Rep wr g o h wd s0 f0 (zs ++ (yss.take q).flatten))) (fun i _ => k - (intOf i).toNat)
      case atStart => exact ⟨0, by omega, rfl, Touch.refl _ _ _ _, (by show Rep _ _ _ _ _ _ _ _; simpa using hr.out)⟩
      case round =>
        obtain ⟨q, hq, rfl, HT, HP⟩ := hrel
        by_cases hlt : q < k
        · obtain ⟨x, hcx, hvx, hax⟩ := hx.out q hlt
          have hst := sum_step yss q (by rw [hn.out]; exact hlt)
          have hle := sum_le yss (q + 1)
          have hbw : b < w.heap.size := lt_of_cell hcx
          have hcx' : wr.cell? ⟨b, p + q, none⟩ = some x := by rw [HT.out.far (p := ⟨b, p + q, none⟩) hbw hbg.out]; exact hcx
          have hap : yss.getD q [] ≠ [] → Apart x g o 139 := fun h0 b' off l c' e => .inl (hax h0 b' off l c' e)
          have hvw : View wr x (yss.getD q []) := by
            by_cases h0 : yss.getD q [] = []
            · obtain ⟨a, cap, e, h1, h2, h3, h4⟩ := hvx
              exact ⟨a, cap, e, h1, h2, h3, .inl h0⟩
            · exact HT.out.view hvx (hap h0)
          have HA : Hid (Calls Tryz.prog 95 #[.pointer (some ⟨g, o, none⟩), x] wr fun e w' => e = .returned (.tuple #[]) ∧ Touch wr w' g o 139 ∧ Rep w' g o h wd s0 f0 (zs ++ (yss.take (q + 1)).flatten)) := by
            have := add_rep2 wd g o h s0 f0 (zs ++ (yss.take q).flatten) (yss.getD q []) x wr hblk HP.out hvw hap (hT.out.touch HT.out hg) hg (by
              rw [hst] at hle
              have h5 := hfed.out
              have h6 := hs.out
              simp only [List.length_append] at hle ⊢
              omega)
            rw [List.append_assoc, ← hst] at this
            exact this
          have e5 : (q : Int) < k := by omega
          clear hvx hst hle hcx hap hax hvw
          go_wp2_with (first | (go_at_call 95; refine HA.out.mono ?_; rintro e3 w3 ⟨rfl, ht3, hp3⟩) | fail)
          have HT3 : Hid (Touch w w3 g o 139) := HT.out.trans ht3
          have HP3 : Hid (Rep w3 g o h wd s0 f0 (zs ++ (yss.take (q + 1)).flatten)) := hp3
          clear ht3 hp3 HA HT HP
          go_wp2
          go_roundw
          case rel => exact ⟨q + 1, by omega, by go_num, HT3, HP3⟩
          case measure => simp [intOf]; omega
        · obtain rfl : q = k := by omega
          go_wp2
          go_ret
          refine ⟨rfl, HT, ?_⟩
          have := HP.out
          rw [List.take_of_length_le (by rw [hn.out]; exact Nat.le_refl _)] at this
          exact this

/-- taken.write of what fits. -/
theorem write_rep (wd : Bool) (g o : Nat) (h : Int) (s0 : Eight) (f0 : Nat) (zs : List Int) (yss : List (List Int)) (v : Value) (left : Nat) (most : Int) (w : World) (hblk : blockOf h = bsz wd ∧ wd = false) (hr : Rep w g o h wd s0 f0 zs) (hp : Parts w g v yss) (hT : Tables w) (hg : 6 ≤ g)
    (hm : most = ((f0 + zs.length + left : Nat) : Int)) (hmm : f0 + zs.length + left ≤ 4611686018427387904) (hs : yss.flatten.length ≤ left) :
    Calls Tryz.prog 57 #[.pointer (some ⟨g, o, none⟩), .int .u64 most, v] w fun e w' => e = .returned (.int .i64 0) ∧ Touch w w' g o 139 ∧ Rep w' g o h wd s0 f0 (zs ++ yss.flatten) := by
  obtain ⟨a, c, rfl, hn, hc, hx⟩ := hp
  unfold maxLen at hc
  have hc1 : w.cell? ⟨g, o + 138, none⟩ = some (.int .u64 ((f0 + zs.length : Nat) : Int)) := by obtain ⟨_, hk, _⟩ := hr; exact hk.fed
  rcases hx with rfl | ⟨b, p, rfl, hb, hx⟩
  · refine (write_none g o (f0 + zs.length) left c a most w hc1 (by omega) hmm hc).mono ?_
    rintro e w' ⟨rfl, rfl⟩
    exact ⟨rfl, Touch.refl _ _ _ _, by simpa using hr⟩
  · exact write_some wd g o h s0 f0 yss.length c b p zs yss (f0 + zs.length) left most w hblk hr hT hg hc1 rfl (by omega) hmm rfl hn hc hb hx hs
end Go.Proofs.YtehlppaidgkpaaaGreatDoor.Dg
namespace Go.Proofs.YtehlppaidgkpaaaGreatDoor.Fd
open Go.RowKit Go.Proofs.YtehlppaidgkpaaaGreatDoor.Fld
set_option linter.unusedVariables false
set_option linter.unusedSimpArgs false
/-- A block, its bytes turned round. -/
def rv (v : BitVec 128) : BitVec 128 := BitVec.ofNat 128 (pk (fun i => byV v (15 - i)) 16)
theorem byV_rv (v : BitVec 128) (i : Nat) (hi : i < 16) : byV (rv v) i = byV v (15 - i) := byV_pk _ (fun _ => byV_lt _ _) i hi
theorem zeros_at (j : Nat) (hj : j < 16) : (#[.int .u8 0, .int .u8 0, .int .u8 0, .int .u8 0, .int .u8 0, .int .u8 0, .int .u8 0, .int .u8 0, .int .u8 0, .int .u8 0, .int .u8 0, .int .u8 0, .int .u8 0, .int .u8 0, .int .u8 0, .int .u8 0] : Array Value).toList[j]? = some (.int .u8 0) := by
  have h16 : j = 0 ∨ j = 1 ∨ j = 2 ∨ j = 3 ∨ j = 4 ∨ j = 5 ∨ j = 6 ∨ j = 7 ∨ j = 8 ∨ j = 9 ∨ j = 10 ∨ j = 11 ∨ j = 12 ∨ j = 13 ∨ j = 14 ∨ j = 15 := by omega
  rcases h16 with rfl | rfl | rfl | rfl | rfl | rfl | rfl | rfl | rfl | rfl | rfl | rfl | rfl | rfl | rfl | rfl <;> rfl
theorem ext_bytes {a b : BitVec 128} (h : ∀ i, i < 16 → byV a i = byV b i) : a = b := by
  have e : a ^^^ b = 0#128 := (zero_bytes _).2 fun j hj => by rw [byV_xor, h j hj]; exact Nat.xor_self _
  have q := congrArg (· ^^^ b) e
  simpa [BitVec.xor_assoc] using q
set_option maxHeartbeats 1600000 in
set_option maxRecDepth 100000 in
theorem turned_ok (v : BitVec 128) (w : World) : Calls Tryz.prog 217 #[BV v] w fun e w' => e = .returned (BV (rv v)) ∧ Below w.heap.size w w' := by
  have HC : Hid (Below w.heap.size w (((w.alloc (.cells #[.int .u8 (byV v 0 : Nat), .int .u8 (byV v 1 : Nat), .int .u8 (byV v 2 : Nat), .int .u8 (byV v 3 : Nat), .int .u8 (byV v 4 : Nat), .int .u8 (byV v 5 : Nat), .int .u8 (byV v 6 : Nat), .int .u8 (byV v 7 : Nat), .int .u8 (byV v 8 : Nat), .int .u8 (byV v 9 : Nat), .int .u8 (byV v 10 : Nat), .int .u8 (byV v 11 : Nat), .int .u8 (byV v 12 : Nat), .int .u8 (byV v 13 : Nat), .int .u8 (byV v 14 : Nat), .int .u8 (byV v 15 : Nat)] 27)).alloc (.cells #[.int .u8 0, .int .u8 0, .int .u8 0, .int .u8 0, .int .u8 0, .int .u8 0, .int .u8 0, .int .u8 0, .int .u8 0, .int .u8 0, .int .u8 0, .int .u8 0, .int .u8 0, .int .u8 0, .int .u8 0, .int .u8 0] 27)).alloc (.cells #[.int .u8 0, .int .u8 0, .int .u8 0, .int .u8 0, .int .u8 0, .int .u8 0, .int .u8 0, .int .u8 0, .int .u8 0, .int .u8 0, .int .u8 0, .int .u8 0, .int .u8 0, .int .u8 0, .int .u8 0, .int .u8 0] 27)) ∧ (∀ j, j < 16 → (((w.alloc (.cells #[.int .u8 (byV v 0 : Nat), .int .u8 (byV v 1 : Nat), .int .u8 (byV v 2 : Nat), .int .u8 (byV v 3 : Nat), .int .u8 (byV v 4 : Nat), .int .u8 (byV v 5 : Nat), .int .u8 (byV v 6 : Nat), .int .u8 (byV v 7 : Nat), .int .u8 (byV v 8 : Nat), .int .u8 (byV v 9 : Nat), .int .u8 (byV v 10 : Nat), .int .u8 (byV v 11 : Nat), .int .u8 (byV v 12 : Nat), .int .u8 (byV v 13 : Nat), .int .u8 (byV v 14 : Nat), .int .u8 (byV v 15 : Nat)] 27)).alloc (.cells #[.int .u8 0, .int .u8 0, .int .u8 0, .int .u8 0, .int .u8 0, .int .u8 0, .int .u8 0, .int .u8 0, .int .u8 0, .int .u8 0, .int .u8 0, .int .u8 0, .int .u8 0, .int .u8 0, .int .u8 0, .int .u8 0] 27)).alloc (.cells #[.int .u8 0, .int .u8 0, .int .u8 0, .int .u8 0, .int .u8 0, .int .u8 0, .int .u8 0, .int .u8 0, .int .u8 0, .int .u8 0, .int .u8 0, .int .u8 0, .int .u8 0, .int .u8 0, .int .u8 0, .int .u8 0] 27)).cell? ⟨w.heap.size, j, none⟩ = some (.int .u8 (byV v j : Nat))) ∧ (((w.alloc (.cells #[.int .u8 (byV v 0 : Nat), .int .u8 (byV v 1 : Nat), .int .u8 (byV v 2 : Nat), .int .u8 (byV v 3 : Nat), .int .u8 (byV v 4 : Nat), .int .u8 (byV v 5 : Nat), .int .u8 (byV v 6 : Nat), .int .u8 (byV v 7 : Nat), .int .u8 (byV v 8 : Nat), .int .u8 (byV v 9 : Nat), .int .u8 (byV v 10 : Nat), .int .u8 (byV v 11 : Nat), .int .u8 (byV v 12 : Nat), .int .u8 (byV v 13 : Nat), .int .u8 (byV v 14 : Nat), .int .u8 (byV v 15 : Nat)] 27)).alloc (.cells #[.int .u8 0, .int .u8 0, .int .u8 0, .int .u8 0, .int .u8 0, .int .u8 0, .int .u8 0, .int .u8 0, .int .u8 0, .int .u8 0, .int .u8 0, .int .u8 0, .int .u8 0, .int .u8 0, .int .u8 0, .int .u8 0] 27)).alloc (.cells #[.int .u8 0, .int .u8 0, .int .u8 0, .int .u8 0, .int .u8 0, .int .u8 0, .int .u8 0, .int .u8 0, .int .u8 0, .int .u8 0, .int .u8 0, .int .u8 0, .int .u8 0, .int .u8 0, .int .u8 0, .int .u8 0] 27)).there (w.heap.size + 1) 0 16 ∧ (((w.alloc (.cells #[.int .u8 (byV v 0 : Nat), .int .u8 (byV v 1 : Nat), .int .u8 (byV v 2 : Nat), .int .u8 (byV v 3 : Nat), .int .u8 (byV v 4 : Nat), .int .u8 (byV v 5 : Nat), .int .u8 (byV v 6 : Nat), .int .u8 (byV v 7 : Nat), .int .u8 (byV v 8 : Nat), .int .u8 (byV v 9 : Nat), .int .u8 (byV v 10 : Nat), .int .u8 (byV v 11 : Nat), .int .u8 (byV v 12 : Nat), .int .u8 (byV v 13 : Nat), .int .u8 (byV v 14 : Nat), .int .u8 (byV v 15 : Nat)] 27)).alloc (.cells #[.int .u8 0, .int .u8 0, .int .u8 0, .int .u8 0, .int .u8 0, .int .u8 0, .int .u8 0, .int .u8 0, .int .u8 0, .int .u8 0, .int .u8 0, .int .u8 0, .int .u8 0, .int .u8 0, .int .u8 0, .int .u8 0] 27)).alloc (.cells #[.int .u8 0, .int .u8 0, .int .u8 0, .int .u8 0, .int .u8 0, .int .u8 0, .int .u8 0, .int .u8 0, .int .u8 0, .int .u8 0, .int .u8 0, .int .u8 0, .int .u8 0, .int .u8 0, .int .u8 0, .int .u8 0] 27)).there (w.heap.size + 2) 0 16 ∧ (∀ j, j < 16 → (((w.alloc (.cells #[.int .u8 (byV v 0 : Nat), .int .u8 (byV v 1 : Nat), .int .u8 (byV v 2 : Nat), .int .u8 (byV v 3 : Nat), .int .u8 (byV v 4 : Nat), .int .u8 (byV v 5 : Nat), .int .u8 (byV v 6 : Nat), .int .u8 (byV v 7 : Nat), .int .u8 (byV v 8 : Nat), .int .u8 (byV v 9 : Nat), .int .u8 (byV v 10 : Nat), .int .u8 (byV v 11 : Nat), .int .u8 (byV v 12 : Nat), .int .u8 (byV v 13 : Nat), .int .u8 (byV v 14 : Nat), .int .u8 (byV v 15 : Nat)] 27)).alloc (.cells #[.int .u8 0, .int .u8 0, .int .u8 0, .int .u8 0, .int .u8 0, .int .u8 0, .int .u8 0, .int .u8 0, .int .u8 0, .int .u8 0, .int .u8 0, .int .u8 0, .int .u8 0, .int .u8 0, .int .u8 0, .int .u8 0] 27)).alloc (.cells #[.int .u8 0, .int .u8 0, .int .u8 0, .int .u8 0, .int .u8 0, .int .u8 0, .int .u8 0, .int .u8 0, .int .u8 0, .int .u8 0, .int .u8 0, .int .u8 0, .int .u8 0, .int .u8 0, .int .u8 0, .int .u8 0] 27)).cell? ⟨w.heap.size + 2, j, none⟩ = some (.int .u8 0)) ∧ (((w.alloc (.cells #[.int .u8 (byV v 0 : Nat), .int .u8 (byV v 1 : Nat), .int .u8 (byV v 2 : Nat), .int .u8 (byV v 3 : Nat), .int .u8 (byV v 4 : Nat), .int .u8 (byV v 5 : Nat), .int .u8 (byV v 6 : Nat), .int .u8 (byV v 7 : Nat), .int .u8 (byV v 8 : Nat), .int .u8 (byV v 9 : Nat), .int .u8 (byV v 10 : Nat), .int .u8 (byV v 11 : Nat), .int .u8 (byV v 12 : Nat), .int .u8 (byV v 13 : Nat), .int .u8 (byV v 14 : Nat), .int .u8 (byV v 15 : Nat)] 27)).alloc (.cells #[.int .u8 0, .int .u8 0, .int .u8 0, .int .u8 0, .int .u8 0, .int .u8 0, .int .u8 0, .int .u8 0, .int .u8 0, .int .u8 0, .int .u8 0, .int .u8 0, .int .u8 0, .int .u8 0, .int .u8 0, .int .u8 0] 27)).alloc (.cells #[.int .u8 0, .int .u8 0, .int .u8 0, .int .u8 0, .int .u8 0, .int .u8 0, .int .u8 0, .int .u8 0, .int .u8 0, .int .u8 0, .int .u8 0, .int .u8 0, .int .u8 0, .int .u8 0, .int .u8 0, .int .u8 0] 27)).heap.size = w.heap.size + 3) := by
    refine ⟨below3 w _ _ _, fun j hj => ?_, ?_, ?_, fun j hj => ?_, by simp⟩
    · have h := rangeAt_new w #[.int .u8 (byV v 0 : Nat), .int .u8 (byV v 1 : Nat), .int .u8 (byV v 2 : Nat), .int .u8 (byV v 3 : Nat), .int .u8 (byV v 4 : Nat), .int .u8 (byV v 5 : Nat), .int .u8 (byV v 6 : Nat), .int .u8 (byV v 7 : Nat), .int .u8 (byV v 8 : Nat), .int .u8 (byV v 9 : Nat), .int .u8 (byV v 10 : Nat), .int .u8 (byV v 11 : Nat), .int .u8 (byV v 12 : Nat), .int .u8 (byV v 13 : Nat), .int .u8 (byV v 14 : Nat), .int .u8 (byV v 15 : Nat)] 27 j _ (BL_at v j hj)
      rw [Nat.zero_add] at h
      rw [World.cell?_alloc_lt _ _ _ (show w.heap.size < _ by simp; omega), World.cell?_alloc_lt _ _ _ (show w.heap.size < _ by simp)]
      exact h
    · have h := there_new (w.alloc (.cells #[.int .u8 (byV v 0 : Nat), .int .u8 (byV v 1 : Nat), .int .u8 (byV v 2 : Nat), .int .u8 (byV v 3 : Nat), .int .u8 (byV v 4 : Nat), .int .u8 (byV v 5 : Nat), .int .u8 (byV v 6 : Nat), .int .u8 (byV v 7 : Nat), .int .u8 (byV v 8 : Nat), .int .u8 (byV v 9 : Nat), .int .u8 (byV v 10 : Nat), .int .u8 (byV v 11 : Nat), .int .u8 (byV v 12 : Nat), .int .u8 (byV v 13 : Nat), .int .u8 (byV v 14 : Nat), .int .u8 (byV v 15 : Nat)] 27)) #[.int .u8 0, .int .u8 0, .int .u8 0, .int .u8 0, .int .u8 0, .int .u8 0, .int .u8 0, .int .u8 0, .int .u8 0, .int .u8 0, .int .u8 0, .int .u8 0, .int .u8 0, .int .u8 0, .int .u8 0, .int .u8 0] 27 16 (Nat.le_refl _)
      have q := World.there_alloc h (.cells #[.int .u8 0, .int .u8 0, .int .u8 0, .int .u8 0, .int .u8 0, .int .u8 0, .int .u8 0, .int .u8 0, .int .u8 0, .int .u8 0, .int .u8 0, .int .u8 0, .int .u8 0, .int .u8 0, .int .u8 0, .int .u8 0] 27)
      simpa using q
    · have h := there_new ((w.alloc (.cells #[.int .u8 (byV v 0 : Nat), .int .u8 (byV v 1 : Nat), .int .u8 (byV v 2 : Nat), .int .u8 (byV v 3 : Nat), .int .u8 (byV v 4 : Nat), .int .u8 (byV v 5 : Nat), .int .u8 (byV v 6 : Nat), .int .u8 (byV v 7 : Nat), .int .u8 (byV v 8 : Nat), .int .u8 (byV v 9 : Nat), .int .u8 (byV v 10 : Nat), .int .u8 (byV v 11 : Nat), .int .u8 (byV v 12 : Nat), .int .u8 (byV v 13 : Nat), .int .u8 (byV v 14 : Nat), .int .u8 (byV v 15 : Nat)] 27)).alloc (.cells #[.int .u8 0, .int .u8 0, .int .u8 0, .int .u8 0, .int .u8 0, .int .u8 0, .int .u8 0, .int .u8 0, .int .u8 0, .int .u8 0, .int .u8 0, .int .u8 0, .int .u8 0, .int .u8 0, .int .u8 0, .int .u8 0] 27)) #[.int .u8 0, .int .u8 0, .int .u8 0, .int .u8 0, .int .u8 0, .int .u8 0, .int .u8 0, .int .u8 0, .int .u8 0, .int .u8 0, .int .u8 0, .int .u8 0, .int .u8 0, .int .u8 0, .int .u8 0, .int .u8 0] 27 16 (Nat.le_refl _)
      simpa using h
    · have h := range3 w (.cells #[.int .u8 (byV v 0 : Nat), .int .u8 (byV v 1 : Nat), .int .u8 (byV v 2 : Nat), .int .u8 (byV v 3 : Nat), .int .u8 (byV v 4 : Nat), .int .u8 (byV v 5 : Nat), .int .u8 (byV v 6 : Nat), .int .u8 (byV v 7 : Nat), .int .u8 (byV v 8 : Nat), .int .u8 (byV v 9 : Nat), .int .u8 (byV v 10 : Nat), .int .u8 (byV v 11 : Nat), .int .u8 (byV v 12 : Nat), .int .u8 (byV v 13 : Nat), .int .u8 (byV v 14 : Nat), .int .u8 (byV v 15 : Nat)] 27) (.cells #[.int .u8 0, .int .u8 0, .int .u8 0, .int .u8 0, .int .u8 0, .int .u8 0, .int .u8 0, .int .u8 0, .int .u8 0, .int .u8 0, .int .u8 0, .int .u8 0, .int .u8 0, .int .u8 0, .int .u8 0, .int .u8 0] 27) #[.int .u8 0, .int .u8 0, .int .u8 0, .int .u8 0, .int .u8 0, .int .u8 0, .int .u8 0, .int .u8 0, .int .u8 0, .int .u8 0, .int .u8 0, .int .u8 0, .int .u8 0, .int .u8 0, .int .u8 0, .int .u8 0] 27 j (.int .u8 0) (zeros_at j hj)
      rw [Nat.zero_add] at h
      exact h
  unfold BV
  show Calls Tryz.prog 217 #[.agg #[.int .u8 (byV v 0 : Nat), .int .u8 (byV v 1 : Nat), .int .u8 (byV v 2 : Nat), .int .u8 (byV v 3 : Nat), .int .u8 (byV v 4 : Nat), .int .u8 (byV v 5 : Nat), .int .u8 (byV v 6 : Nat), .int .u8 (byV v 7 : Nat), .int .u8 (byV v 8 : Nat), .int .u8 (byV v 9 : Nat), .int .u8 (byV v 10 : Nat), .int .u8 (byV v 11 : Nat), .int .u8 (byV v 12 : Nat), .int .u8 (byV v 13 : Nat), .int .u8 (byV v 14 : Nat), .int .u8 (byV v 15 : Nat)]] w _
  go_enter Tryz.func217, Tryz.ntmps217
  go_upto_region 2 with fail
  generalize ((w.alloc (.cells #[.int .u8 (byV v 0 : Nat), .int .u8 (byV v 1 : Nat), .int .u8 (byV v 2 : Nat), .int .u8 (byV v 3 : Nat), .int .u8 (byV v 4 : Nat), .int .u8 (byV v 5 : Nat), .int .u8 (byV v 6 : Nat), .int .u8 (byV v 7 : Nat), .int .u8 (byV v 8 : Nat), .int .u8 (byV v 9 : Nat), .int .u8 (byV v 10 : Nat), .int .u8 (byV v 11 : Nat), .int .u8 (byV v 12 : Nat), .int .u8 (byV v 13 : Nat), .int .u8 (byV v 14 : Nat), .int .u8 (byV v 15 : Nat)] 27)).alloc (.cells #[.int .u8 0, .int .u8 0, .int .u8 0, .int .u8 0, .int .u8 0, .int .u8 0, .int .u8 0, .int .u8 0, .int .u8 0, .int .u8 0, .int .u8 0, .int .u8 0, .int .u8 0, .int .u8 0, .int .u8 0, .int .u8 0] 27)).alloc (.cells #[.int .u8 0, .int .u8 0, .int .u8 0, .int .u8 0, .int .u8 0, .int .u8 0, .int .u8 0, .int .u8 0, .int .u8 0, .int .u8 0, .int .u8 0, .int .u8 0, .int .u8 0, .int .u8 0, .int .u8 0, .int .u8 0] 27) = w2 at HC ⊢
  go_wp2
  go_loopw [4, 5] (fun s4 i wr => ∃ k : Nat, k ≤ 16 ∧ i = .int .i64 (k : Nat) ∧ Hid (Touch w2 wr (w.heap.size + 2) 0 16 ∧ ∀ j, j < 16 → wr.cell? ⟨w.heap.size + 2, j, none⟩ = some (.int .u8 ((if 15 - j < k then byV v (15 - j) else 0 : Nat) : Int)))) (fun s4 i _ => 16 - (intOf i).toNat)
  case atStart => exact ⟨0, by omega, rfl, Touch.refl _ _ _ _, fun j hj => by rw [if_neg (by omega)]; exact HC.out.2.2.2.2.1 j hj⟩
  case round =>
    obtain ⟨k, hk, rfl, HR⟩ := hrel
    by_cases hlt : k < 16
    · obtain ⟨r, hr⟩ : ∃ r, r + k = 15 := ⟨15 - k, by omega⟩
      have c1 : wr.cell? ⟨w.heap.size, k, none⟩ = some (.int .u8 (byV v k : Nat)) := by
        have hz := HC.out.2.2.2.2.2
        rw [HR.out.1.far (p := ⟨w.heap.size, k, none⟩) (show w.heap.size < _ by omega) (show w.heap.size ≠ _ by omega)]
        exact HC.out.2.1 k (by omega)
      have c2 := HR.out.2 r (by omega)
      rw [if_neg (by omega)] at c2
      have f1 := (HR.out.1.there _ _ HC.out.2.2.2.1 r (by omega)).2
      rw [Nat.zero_add] at f1
      obtain ⟨x1, HX1⟩ : ∃ x, Hid (x = byV v k) := ⟨_, rfl⟩
      rw [← HX1.out] at c1
      have hki : ((k : Nat) : Int) < 16 := by omega
      have hri : (15 : Int) - ((k : Nat) : Int) = (r : Nat) := by omega
      have hrw : IntKind.i64.wrap ((r : Nat) : Int) = (r : Nat) := by simp [IntKind.wrap, IntKind.bits, IntKind.signed]; omega
      have hr16 : ((r : Nat) : Int) < 16 := by omega
      go_wp2
      refine ⟨⟨k + 1, by omega, rfl, (HR.out.1.setCell r _ (by omega) (by omega)), fun j hj => ?_⟩, by simp only [intOf]; omega⟩
      by_cases hjk : j = r
      · subst hjk
        rw [if_pos (by omega), World.cell?_setCell_same' _ _ _ (by rw [c2]; rfl), HX1.out, show k = 15 - j by omega]
      · rw [cell_other2 _ _ _ _ _ (by omega), HR.out.2 j hj]
        congr 3
        by_cases h : 15 - j < k
        · rw [if_pos h, if_pos (by omega)]
        · rw [if_neg h, if_neg (by omega)]
    · obtain rfl : k = 16 := by omega
      have H4 : Hid (wr.rangeAt (w.heap.size + 2) 0 (BL (rv v)) ∧ wr.there (w.heap.size + 1) 0 16 ∧ Below w.heap.size w wr) := by
        obtain ⟨t1, t2, t3, t4, t5, t6⟩ := HC.out
        obtain ⟨p1, p2⟩ := HR.out
        refine ⟨BL_range (fun j hj => ?_), fun j hj => ?_, t1.trans (p1.toBelow (by omega) (by omega))⟩
        · have h := p2 j hj
          rw [if_pos (by omega)] at h
          rw [h, byV_rv v j hj]
        · rw [p1.far (p := ⟨w.heap.size + 1, 0 + j, none⟩) (show w.heap.size + 1 < _ by omega) (show w.heap.size + 1 ≠ _ by omega), p1.farFrozen (p := ⟨w.heap.size + 1, 0 + j, none⟩) (show w.heap.size + 1 < _ by omega) (show w.heap.size + 1 ≠ _ by omega)]
          exact t3 j hj
      clear HR hlt hk
      obtain ⟨L, HLL⟩ : ∃ L, Hid (L = BL (rv v)) := ⟨_, rfl⟩
      rw [← HLL.out] at H4
      have HLl : Hid (L.length = 16) := by show _ = _; rw [HLL.out]; rfl
      have HLo : Hid (L.toArray.all (·.oneCell') = true) := by show _ = _; rw [HLL.out]; exact BL_one _
      have hTH : wr.there (w.heap.size + 1) 0 L.length := by rw [HLl.out]; exact H4.out.2.1
      go_wp2_with (first
        | (refine wpList_load_mid (by rfl) 27 (.tmp 3) (by rfl) (w.heap.size + 2) 0 (by rfl) L _ H4.out.1 Tryz.underlying27 rfl (by rw [HLl.out]; exact size23) ?_)
        | (refine wpList_store_mid (by rfl) 27 (.tmp 2) (.tmp 15) (by rfl) (w.heap.size + 1) 0 L.toArray (by rfl) (by rfl) (by simpa using hTH) (by rw [List.size_toArray, HLl.out]; exact size23) HLo.out ?_))
      refine ret_array L Tryz.results217 rfl (World.rangeAt_setCells_same _ _ _ _ hTH) Tryz.underlying27 rfl (by rw [HLl.out]; exact size23) ⟨?_, belowB_setCells _ (by omega) _ _ _ H4.out.2.2⟩
      rw [HLL.out]
      rfl
end Go.Proofs.YtehlppaidgkpaaaGreatDoor.Fd
namespace Go.Proofs.YtehlppaidgkpaaaGreatDoor.Fd
open Go.RowKit Go.Proofs.YtehlppaidgkpaaaGreatDoor.Fld
set_option linter.unusedVariables false
set_option linter.unusedSimpArgs false
set_option maxHeartbeats 1600000 in
set_option maxRecDepth 100000 in
theorem big_ok (v : BitVec 128) (w : World) : Calls Tryz.prog 182 #[.int .u64 (hiV v : Nat), .int .u64 (loV v : Nat)] w fun e w' => e = .returned (BV (rv v)) ∧ Below w.heap.size w w' := by
  have HA : Hid (Below w.heap.size w (w.alloc (.cells #[.int .u8 0, .int .u8 0, .int .u8 0, .int .u8 0, .int .u8 0, .int .u8 0, .int .u8 0, .int .u8 0, .int .u8 0, .int .u8 0, .int .u8 0, .int .u8 0, .int .u8 0, .int .u8 0, .int .u8 0, .int .u8 0] 27)) ∧ (w.alloc (.cells #[.int .u8 0, .int .u8 0, .int .u8 0, .int .u8 0, .int .u8 0, .int .u8 0, .int .u8 0, .int .u8 0, .int .u8 0, .int .u8 0, .int .u8 0, .int .u8 0, .int .u8 0, .int .u8 0, .int .u8 0, .int .u8 0] 27)).there w.heap.size 0 16 ∧ (w.alloc (.cells #[.int .u8 0, .int .u8 0, .int .u8 0, .int .u8 0, .int .u8 0, .int .u8 0, .int .u8 0, .int .u8 0, .int .u8 0, .int .u8 0, .int .u8 0, .int .u8 0, .int .u8 0, .int .u8 0, .int .u8 0, .int .u8 0] 27)).heap.size = w.heap.size + 1) := ⟨(Below.refl _ _).alloc (Nat.le_refl _) _, there_new w _ 27 16 (Nat.le_refl _), by simp⟩
  have KL : Hid (∀ u, Calls Tryz.prog 38 #[.int .u64 (hiV v : Nat), .int .u64 (loV v : Nat)] u fun e w' => e = .returned (.agg (BL v).toArray) ∧ Below u.heap.size u w') := fun u => little_ok v u
  have KT : Hid (∀ u, Calls Tryz.prog 217 #[.agg (BL v).toArray] u fun e w' => e = .returned (.agg (BL (rv v)).toArray) ∧ Below u.heap.size u w') := fun u => turned_ok v u
  obtain ⟨hi, HH⟩ : ∃ x, Hid (x = hiV v) := ⟨_, rfl⟩
  obtain ⟨lo, HLo⟩ : ∃ x, Hid (x = loV v) := ⟨_, rfl⟩
  obtain ⟨L, HL⟩ : ∃ L, Hid (L = BL v) := ⟨_, rfl⟩
  obtain ⟨LR, HLR⟩ : ∃ L, Hid (L = BL (rv v)) := ⟨_, rfl⟩
  rw [← HH.out, ← HLo.out, ← HL.out] at KL
  rw [← HL.out, ← HLR.out] at KT
  rw [← HH.out, ← HLo.out]
  go_enter Tryz.func182, Tryz.ntmps182
  go_upto_region 1 with fail
  generalize w.alloc (.cells #[.int .u8 0, .int .u8 0, .int .u8 0, .int .u8 0, .int .u8 0, .int .u8 0, .int .u8 0, .int .u8 0, .int .u8 0, .int .u8 0, .int .u8 0, .int .u8 0, .int .u8 0, .int .u8 0, .int .u8 0, .int .u8 0] 27) = w2 at HA ⊢
  have hlr : Hid (LR.length = 16) := by show _ = _; rw [HLR.out]; rfl
  have hor : Hid (LR.toArray.all (·.oneCell') = true) := by show _ = _; rw [HLR.out]; exact BL_one _
  go_wp2_with (first
    | (go_at_call 38; refine (KL.out _).mono ?_; rintro e w3 ⟨rfl, hb3⟩)
    | (go_at_call 217; refine (KT.out _).mono ?_))
  rintro e w4 ⟨rfl, hb4⟩
  have HW : Hid (w4.there w.heap.size 0 LR.length ∧ Below w.heap.size w w4) := by
    obtain ⟨p1, p2, p3⟩ := HA.out
    have h3 := p1.trans (hb3.mono p1.size)
    have z3 := hb3.size
    have z4 := h3.size
    exact ⟨by rw [hlr.out]; exact there_below (there_below p2 hb3 (by omega)) hb4 (by omega), h3.trans (hb4.mono (by omega))⟩
  clear hb3 hb4
  have hTH := HW.out.1
  go_wp2_with (first
    | (refine wpList_store_mid (by rfl) 27 (.tmp 4) (.tmp 8) (by rfl) w.heap.size 0 LR.toArray (by rfl) (by rfl) (by simpa using hTH) (by rw [List.size_toArray, hlr.out]; exact size23) hor.out ?_))
  refine ret_array LR Tryz.results182 rfl (World.rangeAt_setCells_same _ _ _ _ hTH) Tryz.underlying27 rfl (by rw [hlr.out]; exact size23) ⟨?_, belowB_setCells _ (Nat.le_refl _) _ _ _ HW.out.2⟩
  rw [HLR.out]
  rfl
end Go.Proofs.YtehlppaidgkpaaaGreatDoor.Fd
namespace Go.Proofs.YtehlppaidgkpaaaGreatDoor.Fd
open Go.RowKit Go.Proofs.YtehlppaidgkpaaaGreatDoor.Fld
set_option linter.unusedVariables false
set_option linter.unusedSimpArgs false
set_option maxHeartbeats 1600000 in
set_option maxRecDepth 100000 in
theorem double_ok (v : BitVec 128) (w : World) : Calls Tryz.prog 24 #[BV v] w fun e w' => e = .returned (BV (TX v)) ∧ Below w.heap.size w w' := by
  have HA : Hid (Below w.heap.size w ((w.alloc (.cells #[.int .u8 (byV v 0 : Nat), .int .u8 (byV v 1 : Nat), .int .u8 (byV v 2 : Nat), .int .u8 (byV v 3 : Nat), .int .u8 (byV v 4 : Nat), .int .u8 (byV v 5 : Nat), .int .u8 (byV v 6 : Nat), .int .u8 (byV v 7 : Nat), .int .u8 (byV v 8 : Nat), .int .u8 (byV v 9 : Nat), .int .u8 (byV v 10 : Nat), .int .u8 (byV v 11 : Nat), .int .u8 (byV v 12 : Nat), .int .u8 (byV v 13 : Nat), .int .u8 (byV v 14 : Nat), .int .u8 (byV v 15 : Nat)] 27)).alloc (.cells #[.int .u8 0, .int .u8 0, .int .u8 0, .int .u8 0, .int .u8 0, .int .u8 0, .int .u8 0, .int .u8 0, .int .u8 0, .int .u8 0, .int .u8 0, .int .u8 0, .int .u8 0, .int .u8 0, .int .u8 0, .int .u8 0] 27)) ∧ ((w.alloc (.cells #[.int .u8 (byV v 0 : Nat), .int .u8 (byV v 1 : Nat), .int .u8 (byV v 2 : Nat), .int .u8 (byV v 3 : Nat), .int .u8 (byV v 4 : Nat), .int .u8 (byV v 5 : Nat), .int .u8 (byV v 6 : Nat), .int .u8 (byV v 7 : Nat), .int .u8 (byV v 8 : Nat), .int .u8 (byV v 9 : Nat), .int .u8 (byV v 10 : Nat), .int .u8 (byV v 11 : Nat), .int .u8 (byV v 12 : Nat), .int .u8 (byV v 13 : Nat), .int .u8 (byV v 14 : Nat), .int .u8 (byV v 15 : Nat)] 27)).alloc (.cells #[.int .u8 0, .int .u8 0, .int .u8 0, .int .u8 0, .int .u8 0, .int .u8 0, .int .u8 0, .int .u8 0, .int .u8 0, .int .u8 0, .int .u8 0, .int .u8 0, .int .u8 0, .int .u8 0, .int .u8 0, .int .u8 0] 27)).rangeAt w.heap.size 0 (BL v) ∧ ((w.alloc (.cells #[.int .u8 (byV v 0 : Nat), .int .u8 (byV v 1 : Nat), .int .u8 (byV v 2 : Nat), .int .u8 (byV v 3 : Nat), .int .u8 (byV v 4 : Nat), .int .u8 (byV v 5 : Nat), .int .u8 (byV v 6 : Nat), .int .u8 (byV v 7 : Nat), .int .u8 (byV v 8 : Nat), .int .u8 (byV v 9 : Nat), .int .u8 (byV v 10 : Nat), .int .u8 (byV v 11 : Nat), .int .u8 (byV v 12 : Nat), .int .u8 (byV v 13 : Nat), .int .u8 (byV v 14 : Nat), .int .u8 (byV v 15 : Nat)] 27)).alloc (.cells #[.int .u8 0, .int .u8 0, .int .u8 0, .int .u8 0, .int .u8 0, .int .u8 0, .int .u8 0, .int .u8 0, .int .u8 0, .int .u8 0, .int .u8 0, .int .u8 0, .int .u8 0, .int .u8 0, .int .u8 0, .int .u8 0] 27)).there (w.heap.size + 1) 0 16 ∧ ((w.alloc (.cells #[.int .u8 (byV v 0 : Nat), .int .u8 (byV v 1 : Nat), .int .u8 (byV v 2 : Nat), .int .u8 (byV v 3 : Nat), .int .u8 (byV v 4 : Nat), .int .u8 (byV v 5 : Nat), .int .u8 (byV v 6 : Nat), .int .u8 (byV v 7 : Nat), .int .u8 (byV v 8 : Nat), .int .u8 (byV v 9 : Nat), .int .u8 (byV v 10 : Nat), .int .u8 (byV v 11 : Nat), .int .u8 (byV v 12 : Nat), .int .u8 (byV v 13 : Nat), .int .u8 (byV v 14 : Nat), .int .u8 (byV v 15 : Nat)] 27)).alloc (.cells #[.int .u8 0, .int .u8 0, .int .u8 0, .int .u8 0, .int .u8 0, .int .u8 0, .int .u8 0, .int .u8 0, .int .u8 0, .int .u8 0, .int .u8 0, .int .u8 0, .int .u8 0, .int .u8 0, .int .u8 0, .int .u8 0] 27)).heap.size = w.heap.size + 2) := by
    refine ⟨below2 w _ _, range_below (rangeAt_new w #[.int .u8 (byV v 0 : Nat), .int .u8 (byV v 1 : Nat), .int .u8 (byV v 2 : Nat), .int .u8 (byV v 3 : Nat), .int .u8 (byV v 4 : Nat), .int .u8 (byV v 5 : Nat), .int .u8 (byV v 6 : Nat), .int .u8 (byV v 7 : Nat), .int .u8 (byV v 8 : Nat), .int .u8 (byV v 9 : Nat), .int .u8 (byV v 10 : Nat), .int .u8 (byV v 11 : Nat), .int .u8 (byV v 12 : Nat), .int .u8 (byV v 13 : Nat), .int .u8 (byV v 14 : Nat), .int .u8 (byV v 15 : Nat)] 27) ((Below.refl _ _).alloc (Nat.le_refl _) _) (by simp), ?_, by simp⟩
    have h := there_new (w.alloc (.cells #[.int .u8 (byV v 0 : Nat), .int .u8 (byV v 1 : Nat), .int .u8 (byV v 2 : Nat), .int .u8 (byV v 3 : Nat), .int .u8 (byV v 4 : Nat), .int .u8 (byV v 5 : Nat), .int .u8 (byV v 6 : Nat), .int .u8 (byV v 7 : Nat), .int .u8 (byV v 8 : Nat), .int .u8 (byV v 9 : Nat), .int .u8 (byV v 10 : Nat), .int .u8 (byV v 11 : Nat), .int .u8 (byV v 12 : Nat), .int .u8 (byV v 13 : Nat), .int .u8 (byV v 14 : Nat), .int .u8 (byV v 15 : Nat)] 27)) #[.int .u8 0, .int .u8 0, .int .u8 0, .int .u8 0, .int .u8 0, .int .u8 0, .int .u8 0, .int .u8 0, .int .u8 0, .int .u8 0, .int .u8 0, .int .u8 0, .int .u8 0, .int .u8 0, .int .u8 0, .int .u8 0] 27 16 (Nat.le_refl _)
    simpa using h
  have KP : Hid (∀ u, Calls Tryz.prog 36 #[.agg (BL v).toArray] u fun e w' => e = .returned (.agg (PL v).toArray) ∧ Below u.heap.size u w') := fun u => polyLittle_ok v u
  have KX : Hid (∀ u, Calls Tryz.prog 37 #[.agg (PL v).toArray] u fun e w' => e = .returned (.agg (PL (TX v)).toArray) ∧ Below u.heap.size u w') := fun u => timesX_ok v u
  have KL : Hid (∀ u, Calls Tryz.prog 38 #[.int .u64 (hiV (TX v) : Nat), .int .u64 (loV (TX v) : Nat)] u fun e w' => e = .returned (.agg (BL (TX v)).toArray) ∧ Below u.heap.size u w') := fun u => little_ok (TX v) u
  show Calls Tryz.prog 24 #[.agg #[.int .u8 (byV v 0 : Nat), .int .u8 (byV v 1 : Nat), .int .u8 (byV v 2 : Nat), .int .u8 (byV v 3 : Nat), .int .u8 (byV v 4 : Nat), .int .u8 (byV v 5 : Nat), .int .u8 (byV v 6 : Nat), .int .u8 (byV v 7 : Nat), .int .u8 (byV v 8 : Nat), .int .u8 (byV v 9 : Nat), .int .u8 (byV v 10 : Nat), .int .u8 (byV v 11 : Nat), .int .u8 (byV v 12 : Nat), .int .u8 (byV v 13 : Nat), .int .u8 (byV v 14 : Nat), .int .u8 (byV v 15 : Nat)]] w _
  go_enter Tryz.func24, Tryz.ntmps24
  go_upto_region 1 with fail
  generalize (w.alloc (.cells #[.int .u8 (byV v 0 : Nat), .int .u8 (byV v 1 : Nat), .int .u8 (byV v 2 : Nat), .int .u8 (byV v 3 : Nat), .int .u8 (byV v 4 : Nat), .int .u8 (byV v 5 : Nat), .int .u8 (byV v 6 : Nat), .int .u8 (byV v 7 : Nat), .int .u8 (byV v 8 : Nat), .int .u8 (byV v 9 : Nat), .int .u8 (byV v 10 : Nat), .int .u8 (byV v 11 : Nat), .int .u8 (byV v 12 : Nat), .int .u8 (byV v 13 : Nat), .int .u8 (byV v 14 : Nat), .int .u8 (byV v 15 : Nat)] 27)).alloc (.cells #[.int .u8 0, .int .u8 0, .int .u8 0, .int .u8 0, .int .u8 0, .int .u8 0, .int .u8 0, .int .u8 0, .int .u8 0, .int .u8 0, .int .u8 0, .int .u8 0, .int .u8 0, .int .u8 0, .int .u8 0, .int .u8 0] 27) = w2 at HA ⊢
  obtain ⟨L, HL⟩ : ∃ L, Hid (L = BL v) := ⟨_, rfl⟩
  obtain ⟨P0, HP0⟩ : ∃ L, Hid (L = PL v) := ⟨_, rfl⟩
  obtain ⟨P1, HP1⟩ : ∃ L, Hid (L = PL (TX v)) := ⟨_, rfl⟩
  obtain ⟨LR, HLR⟩ : ∃ L, Hid (L = BL (TX v)) := ⟨_, rfl⟩
  obtain ⟨hi, HH⟩ : ∃ x, Hid (x = hiV (TX v)) := ⟨_, rfl⟩
  obtain ⟨lo, HLo⟩ : ∃ x, Hid (x = loV (TX v)) := ⟨_, rfl⟩
  rw [← HL.out] at HA
  rw [← HL.out, ← HP0.out] at KP
  rw [← HP0.out, ← HP1.out] at KX
  rw [← HH.out, ← HLo.out, ← HLR.out] at KL
  have HLl : Hid (L.length = 16) := by show _ = _; rw [HL.out]; rfl
  have hlp : Hid (P1.length = 2) := by show _ = _; rw [HP1.out]; rfl
  have hop : Hid (P1.toArray.all (·.oneCell') = true) := by show _ = _; rw [HP1.out]; kernel_rfl
  have hlr : Hid (LR.length = 16) := by show _ = _; rw [HLR.out]; rfl
  have hor : Hid (LR.toArray.all (·.oneCell') = true) := by show _ = _; rw [HLR.out]; exact BL_one _
  go_wp2_with (first
    | (refine wpList_load_mid (by rfl) 27 (.tmp 1) (by rfl) w.heap.size 0 (by rfl) L _ HA.out.2.1 Tryz.underlying27 rfl (by rw [HLl.out]; exact size23) ?_)
    | (go_at_call 36; refine (KP.out _).mono ?_; rintro e w3 ⟨rfl, hb3⟩)
    | (go_at_call 37; refine (KX.out _).mono ?_))
  rintro e w4 ⟨rfl, hb4⟩
  have H4 : Hid (Below w.heap.size w w4 ∧ w4.there (w.heap.size + 1) 0 16 ∧ w.heap.size + 2 ≤ w4.heap.size) := by
    obtain ⟨p1, p2, p3, p4⟩ := HA.out
    have h3 := p1.trans (hb3.mono p1.size)
    have z3 := hb3.size
    have z4 := hb4.size
    exact ⟨h3.trans (hb4.mono h3.size), there_below (there_below p3 hb3 (by omega)) hb4 (by omega), by omega⟩
  clear hb3 hb4 KP KX
  have hTN : (w4.alloc (.cells #[.int .u64 0, .int .u64 0] 82)).there w4.heap.size 0 P1.length := by rw [hlp.out]; exact there_new w4 _ 82 2 (Nat.le_refl _)
  go_upto_region 2 with (first
    | (refine wpList_store_mid (by rfl) 82 (.tmp 3) (.tmp 6) (by rfl) w4.heap.size 0 P1.toArray (by rfl) (by rfl) (by simpa using hTN) (by rw [List.size_toArray, hlp.out]; exact size35) hop.out ?_))
  have H5 : Hid (Below w.heap.size w ((w4.alloc (.cells #[.int .u64 0, .int .u64 0] 82)).setCells w4.heap.size 0 P1) ∧ ((w4.alloc (.cells #[.int .u64 0, .int .u64 0] 82)).setCells w4.heap.size 0 P1).there (w.heap.size + 1) 0 16 ∧ ((w4.alloc (.cells #[.int .u64 0, .int .u64 0] 82)).setCells w4.heap.size 0 P1).cell? ⟨w4.heap.size, 0, none⟩ = some (.int .u64 (hi : Nat)) ∧ ((w4.alloc (.cells #[.int .u64 0, .int .u64 0] 82)).setCells w4.heap.size 0 P1).cell? ⟨w4.heap.size, 1, none⟩ = some (.int .u64 (lo : Nat)) ∧ w.heap.size + 2 ≤ ((w4.alloc (.cells #[.int .u64 0, .int .u64 0] 82)).setCells w4.heap.size 0 P1).heap.size) := by
    obtain ⟨p1, p2, p3⟩ := H4.out
    have q := World.rangeAt_setCells_same _ _ _ _ hTN
    have hP : P1 = [.int .u64 (hi : Nat), .int .u64 (lo : Nat)] := by rw [HP1.out, HH.out, HLo.out]; rfl
    refine ⟨belowB_setCells _ p1.size _ _ _ (p1.alloc p1.size _), World.there_setCells (there_below p2 ((Below.refl w4.heap.size w4).alloc (Nat.le_refl _) _) (by omega)) _ _ _, q 0 _ (by rw [hP]; rfl), q 1 _ (by rw [hP]; rfl), by rw [size_setCells]; simp; omega⟩
  generalize (w4.alloc (.cells #[.int .u64 0, .int .u64 0] 82)).setCells w4.heap.size 0 P1 = w5 at H5 ⊢
  generalize w4.heap.size = C at H5 ⊢
  clear hTN H4
  have c0 := H5.out.2.2.1
  have c1 := H5.out.2.2.2.1
  go_wp2_with (first | (go_at_call 38; refine (KL.out _).mono ?_))
  rintro e w6 ⟨rfl, hb6⟩
  have HW : Hid (w6.there (w.heap.size + 1) 0 LR.length ∧ Below w.heap.size w w6) := by
    obtain ⟨p1, p2, p3, p4, p5⟩ := H5.out
    exact ⟨by rw [hlr.out]; exact there_below p2 hb6 (by omega), p1.trans (hb6.mono (by omega))⟩
  clear hb6 KL c0 c1
  have hTH := HW.out.1
  go_wp2_with (first
    | (refine wpList_store_mid (by rfl) 27 (.tmp 2) (.tmp 11) (by rfl) (w.heap.size + 1) 0 LR.toArray (by rfl) (by rfl) (by simpa using hTH) (by rw [List.size_toArray, hlr.out]; exact size23) hor.out ?_))
  refine ret_array LR Tryz.results24 rfl (World.rangeAt_setCells_same _ _ _ _ hTH) Tryz.underlying27 rfl (by rw [hlr.out]; exact size23) ⟨?_, belowB_setCells _ (by omega) _ _ _ HW.out.2⟩
  rw [HLR.out]
  rfl
end Go.Proofs.YtehlppaidgkpaaaGreatDoor.Fd
