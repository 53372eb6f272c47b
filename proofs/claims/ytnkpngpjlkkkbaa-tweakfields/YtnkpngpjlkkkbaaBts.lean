import Derived.Test.YtnkpngpjlkkkbaaPol
import Derived.Test.YtnkpngpjlkkkbaaBlkV
import Derived.Deep.AppendLies
import Derived.Deep.Cut
import Derived.OwnWalk
import Derived.Deep.DeepMust
namespace Go.Proofs.Ytnkpngpjlkkkbaa
open Go.RowKit Go.Proofs.Ytnkpngpjlkkkbaa.Fld
set_option linter.unusedVariables false
/-- A coefficient as a number. -/
def cb (b : Bool) : Int := if b then 1 else 0
/-- n coefficients as cells. -/
def ci (c : Nat → Bool) (n : Nat) : List Value := (List.range n).map fun j => .int .i64 (cb (c j))
theorem ci_len (c : Nat → Bool) (n : Nat) : (ci c n).length = n := by simp [ci]
theorem ci_at (c : Nat → Bool) (n j : Nat) (h : j < n) : (ci c n)[j]? = some (.int .i64 (cb (c j))) := by
  simp [ci, List.getElem?_range h]
theorem ci_succ (c : Nat → Bool) (n : Nat) : ci c (n + 1) = ci c n ++ [.int .i64 (cb (c n))] := by
  simp [ci, List.range_succ]
theorem ci_congr {c d : Nat → Bool} (n : Nat) (h : ∀ j, j < n → c j = d j) : ci c n = ci d n := by
  simp only [ci]
  refine List.map_congr_left fun j hj => ?_
  rw [h j (List.mem_range.1 hj)]
/-- A bit of a byte of a block. -/
theorem bit_of (y : BitVec 128) (i k : Nat) (hk : k < 8) : ((byV y i / 2 ^ k % 2 : Nat) : Int) = cb (y.getLsbD (8 * i + k)) := by
  have h1 : y.getLsbD (8 * i + k) = decide (y.toNat / 2 ^ (8 * i + k) % 2 = 1) := by
    rw [BitVec.getLsbD, Nat.testBit_eq_decide_div_mod_eq]
  have h2 : byV y i / 2 ^ k % 2 = y.toNat / 2 ^ (8 * i + k) % 2 := by
    unfold byV
    rw [show (256 : Nat) ^ i = 2 ^ (8 * i) by rw [Nat.pow_mul]]
    rw [Nat.pow_add, ← Nat.div_div_eq_div_mul]
    generalize y.toNat / 2 ^ (8 * i) = x
    rcases (show k = 0 ∨ k = 1 ∨ k = 2 ∨ k = 3 ∨ k = 4 ∨ k = 5 ∨ k = 6 ∨ k = 7 by omega) with rfl | rfl | rfl | rfl | rfl | rfl | rfl | rfl <;> omega
  rw [h2, h1, cb]
  rcases Nat.mod_two_eq_zero_or_one (y.toNat / 2 ^ (8 * i + k)) with h | h <;> simp [h]
theorem info3 : (Try.prog.info? 3).map (fun i => (i.zero, i.size, i.bytes)) = some (some (.int .i64 0), 1, 8) := by kernel_rfl
theorem und41 : Try.prog.underlying 41 = some (.slice 3) := by kernel_rfl
structure LtI (w wr : World) (y : BitVec 128) (v : Value) (n : Nat) : Prop where
  own : wr.ownsRow (w.heap.size + 1) 3 1 v n (ci y.getLsbD n)
  bel : Below w.heap.size w wr
  blk : wr.heap[w.heap.size]? = some (.cells (BL y).toArray 23 (0, 0))
theorem LtI.cell {w wr : World} {y : BitVec 128} {v : Value} {n : Nat} (h : LtI w wr y v n) (i : Nat) (hi : i < 16) : wr.cell? ⟨w.heap.size, i, none⟩ = some (.int .u8 (byV y i : Nat)) := by
  rw [World.cell?, h.blk]
  simpa using BL_at y i hi
theorem ownsRow_lt {w : World} {base : Nat} {e : TypeId} {K : Nat} {v : Value} {n : Nat} {xs : List Value} (h : w.ownsRow base e K v n xs) {g : Nat} (hg : v.ownBlock = some g) : base ≤ g ∧ g < w.heap.size := by
  rcases h.2 with ⟨rfl, _⟩ | ⟨g', cap, cur, rfl, hb, hgg, _⟩
  · simp [Value.ownBlock] at hg
  · have e : g' = g := by simpa [Value.ownBlock] using hg
    subst e
    refine ⟨hb, ?_⟩
    rcases Nat.lt_or_ge g' w.heap.size with hlt | hge
    · exact hlt
    · rw [Array.getElem?_eq_none hge] at hgg; cases hgg
theorem ownsRow_le {w : World} {base base' : Nat} {e : TypeId} {K : Nat} {v : Value} {n : Nat} {xs : List Value} (h : w.ownsRow base e K v n xs) (hb : base' ≤ base) : w.ownsRow base' e K v n xs := by
  refine ⟨h.1, ?_⟩
  rcases h.2 with hn | ⟨g, cap, cur, hv, hb2, rest⟩
  · exact .inl hn
  · exact .inr ⟨g, cap, cur, hv, Nat.le_trans hb hb2, rest⟩
theorem ltI_form {w wr : World} {y : BitVec 128} {v : Value} (h : LtI w wr y v 128) : ∃ g cap, v = .slice (some ⟨g, 0, none⟩) 128 cap := by
  rcases h.own.2 with ⟨_, h0⟩ | ⟨g, cap, cur, hv, _⟩
  · cases h0
  · exact ⟨g, cap, hv⟩
theorem lt_step {w wr w5 : World} {y : BitVec 128} {v v' : Value} {i k : Nat} {B : Int} (h : LtI w wr y v (8 * i + k)) (hB : B = cb (y.getLsbD (8 * i + k))) (o : Obj) (hg : (wr.alloc o).grownBy w5 v.ownBlock) (hown : w5.ownsRow (w.heap.size + 1) 3 1 v' (8 * i + k + 1) (ci y.getLsbD (8 * i + k) ++ [.int .i64 B])) : LtI w w5 y v' (8 * i + (k + 1)) := by
  have hlt : w.heap.size < wr.heap.size := by
    rcases Nat.lt_or_ge w.heap.size wr.heap.size with q | q
    · exact q
    · have := h.blk; rw [Array.getElem?_eq_none q] at this; cases this
  have hne : v.ownBlock ≠ some w.heap.size := fun e => by have := (ownsRow_lt h.own e).1; omega
  refine ⟨?_, h.bel.trans (((Below.refl _ _).alloc h.bel.size o).grown hg (by simp; omega) fun b e => by have := (ownsRow_lt h.own e).1; omega), ?_⟩
  · rw [show 8 * i + (k + 1) = 8 * i + k + 1 by omega, ci_succ, ← hB]
    exact hown
  · rw [hg.block _ (by simp; omega) (Ne.symm hne), Below.heap_alloc _ _ _ hlt]
    exact h.blk
set_option maxHeartbeats 1600000 in
set_option maxRecDepth 100000 in
/-- cofferref03.little. -/
theorem rlittle_ok (y : BitVec 128) (w : World) : Calls Try.prog 26 #[BV y] w fun e w' => Hid (∃ g cap, e = .returned (.slice (some ⟨g, 0, none⟩) 128 cap) ∧ w'.ownsRow w.heap.size 3 1 (.slice (some ⟨g, 0, none⟩) 128 cap) 128 (ci y.getLsbD 128) ∧ Below w.heap.size w w') := by
  obtain ⟨i0, hi0, hz0, hz1, hz2⟩ := info_parts info3
  have HI0 : Hid (Try.prog.info? 3 = some i0 ∧ i0.zero = some (.int .i64 0) ∧ i0.size = 1 ∧ i0.bytes = 8) := ⟨hi0, hz0, hz1, hz2⟩
  clear hi0 hz0 hz1 hz2
  have HS0 : Hid (LtI w (w.alloc (.cells (BL y).toArray 23)) y (.slice none 0 0) 0) := ⟨World.ownsRow_nil _ _ 3 1, (Below.refl _ _).alloc (Nat.le_refl _) _, heap_alloc_new w _⟩
  unfold BV
  go_enter Try.func26, Try.ntmps26
  go_upto_region 2 with fail
  have e0 : (w.alloc (.cells (BL y).toArray 23)) = w.alloc (.cells #[.int .u8 (byV y 0 : Nat), .int .u8 (byV y 1 : Nat), .int .u8 (byV y 2 : Nat), .int .u8 (byV y 3 : Nat), .int .u8 (byV y 4 : Nat), .int .u8 (byV y 5 : Nat), .int .u8 (byV y 6 : Nat), .int .u8 (byV y 7 : Nat), .int .u8 (byV y 8 : Nat), .int .u8 (byV y 9 : Nat), .int .u8 (byV y 10 : Nat), .int .u8 (byV y 11 : Nat), .int .u8 (byV y 12 : Nat), .int .u8 (byV y 13 : Nat), .int .u8 (byV y 14 : Nat), .int .u8 (byV y 15 : Nat)] 23) := rfl
  rw [← e0]
  clear e0
  generalize w.alloc (.cells (BL y).toArray 23) = wA at HS0 ⊢
  go_wp2
  go_loopw [3, 4] (fun va vi wr => ∃ i : Nat, vi = .int .i64 (i : Nat) ∧ i ≤ 16 ∧ Hid (LtI w wr y va (8 * i))) (fun _ vi _ => 16 - (intOf vi).toNat)
  case atStart => exact ⟨0, rfl, by omega, HS0⟩
  case round =>
    obtain ⟨i, rfl, hi, HR⟩ := hrel
    clear HS0
    by_cases hlt : i < 16
    · have g0 : (0 : Int) ≤ (i : Int) := by omega
      have g1 : (i : Int) < 16 := by omega
      go_upto_region 6 with fail
      go_loopw [3, 5] (fun va vk wx => ∃ k : Nat, vk = .int .i64 (k : Nat) ∧ k ≤ 8 ∧ Hid (LtI w wx y va (8 * i + k))) (fun _ vk _ => 8 - (intOf vk).toNat)
      case atStart => exact ⟨0, rfl, by omega, HR⟩
      case round =>
        obtain ⟨k, rfl, hk, HK⟩ := hrel
        clear HR
        by_cases hkl : k < 8
        · have k0 : (0 : Int) ≤ (k : Int) := by omega
          have k1 : (k : Int) < 8 := by omega
          obtain ⟨X, HX⟩ : ∃ X : Int, Hid (X = (byV y i : Nat)) := ⟨_, rfl⟩
          have c0 := HK.out.cell i hlt
          rw [← HX.out] at c0
          have hwX : wrap64 X = X := by
            have := byV_lt y i
            have := HX.out
            unfold wrap64
            omega
          obtain ⟨B, hB⟩ : ∃ B, (X / 2 ^ k).tmod 2 = B := ⟨_, rfl⟩
          have HB : Hid (B = cb (y.getLsbD (8 * i + k))) := by
            show B = _
            rw [← bit_of y i k hkl, ← hB, HX.out]
            rw [Int.tmod_eq_emod_of_nonneg (Int.ediv_nonneg (by omega) (Int.le_of_lt (Int.pow_pos (by decide))))]
            push_cast
            rfl
          have HNW : Hid (∀ u ∈ ([.int .i64 B] : List Value), u.oneCell' = true) := by
            intro u hu
            simp only [List.mem_cons, List.not_mem_nil, or_false] at hu
            rw [hu]; rfl
          have HN1 : Hid (8 * i + k + 1 ≤ maxLen) := by show 8 * i + k + 1 ≤ maxLen; unfold maxLen; omega
          have HN2 : Hid ((8 * i + k + 1) * 8 ≤ 140737488355328) := by show (8 * i + k + 1) * 8 ≤ 140737488355328; omega
          have HBs : Hid (w.heap.size + 1 ≤ (wr.alloc (.cells #[.int .i64 B] 3)).heap.size) := by show w.heap.size + 1 ≤ (wr.alloc (.cells #[.int .i64 B] 3)).heap.size; have := HK.out.bel.size; simp; omega
          have HSz : Hid ((wr.alloc (.cells #[.int .i64 B] 3)).heap.size = wr.heap.size + 1) := by show _ = _; simp
          go_wp2_with (first | (at_builtin; go_must (refine wpList_append_lies _ rfl (.tmp 14) (.tmp 22) 41 rfl (w.heap.size + 1) 3 i0 _ 1 8 und41 HI0.out.1 HI0.out.2.1 HI0.out.2.2.1 HI0.out.2.2.2 rfl (Nat.succ_pos 0) u3 (8 * i + k) (ci y.getLsbD (8 * i + k)) rfl (HK.out.own.alloc _) ⟨wr.heap.size, 0, none⟩ 1 1 [.int .i64 B] rfl rfl (World.news_of_block (cs := #[.int .i64 B]) (t := 3) (fr := (0, 0)) (heap_alloc_new wr _)) HNW.out (Nat.succ_pos 0) HN1.out HN2.out HBs.out (wr.heap.size + 1) HSz.out ?_); intro gg cap w5 hown5 hgrow hat hlt5; have HK5 : Hid (LtI w w5 y (.slice (some ⟨gg, 0, none⟩) (8 * i + k + 1) cap) (8 * i + (k + 1))) := lt_step HK.out HB.out _ hgrow hown5; clear hown5 hgrow hat hlt5 HBs HSz HNW HB hB c0 HK))
          exact ⟨⟨k + 1, by simp, by omega, HK5⟩, by simp [intOf]; omega⟩
        · have k1 : ¬ (k : Int) < 8 := by omega
          have HK5 : Hid (LtI w wr y u3 (8 * (i + 1))) := by
            have q := HK.out
            rw [show 8 * i + k = 8 * (i + 1) by omega] at q
            exact q
          clear HK
          go_wp2
          exact ⟨⟨i + 1, by simp, by omega, HK5⟩, by simp [intOf]; omega⟩
    · have g1 : ¬ (i : Int) < 16 := by omega
      have HE : Hid (LtI w wr y u3 128) := by
        have q := HR.out
        rw [show 8 * i = 128 by omega] at q
        exact q
      clear HR
      obtain ⟨g, cap, hv⟩ := ltI_form HE.out
      subst hv
      go_wp2
      go_ret
      exact ⟨g, cap, rfl, ownsRow_le HE.out.own (Nat.le_succ _), HE.out.bel⟩
end Go.Proofs.Ytnkpngpjlkkkbaa
