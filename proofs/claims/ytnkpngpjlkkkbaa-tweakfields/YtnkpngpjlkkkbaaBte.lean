import Derived.Test.YtnkpngpjlkkkbaaBtd
import Derived.Test.YtnkpngpjlkkkbaaDbl
import Derived.Great.BuildSlice
namespace Go.Proofs.Ytnkpngpjlkkkbaa
open Go.RowKit Go.Proofs.Ytnkpngpjlkkkbaa.Fld
set_option linter.unusedVariables false
set_option linter.unusedSimpArgs false
/-- A polynomial times x. -/
def shf (c : Nat → Bool) (j : Nat) : Bool := if j = 0 then false else c (j - 1)
theorem ev_shf {T : BitVec 128 → BitVec 128} (hT : Cyc T) (c : Nat → Bool) (n : Nat) : ev T (shf c) (n + 1) = T (ev T c n) := by
  induction n with
  | zero => simp [ev, shf, hT.lin.zero]
  | succ n ih =>
    rw [ev, ih, ev, hT.lin]
    congr 1
    have : shf c (n + 1) = c n := by simp [shf]
    rw [this]
    cases c n
    · simp [hT.lin.zero]
    · rfl
theorem ci_shf (c : Nat → Bool) (n : Nat) : [Value.int .i64 0] ++ ci c n = ci (shf c) (n + 1) := by
  induction n with
  | zero => rfl
  | succ n ih =>
    rw [ci_succ, ← List.append_assoc, ih, ci_succ (shf c) (n + 1)]
    rfl
theorem chain2 (w : World) (A B : Obj) : Below w.heap.size w ((w.alloc A).alloc B) ∧ ((w.alloc A).alloc B).heap[w.heap.size]? = some A ∧ ((w.alloc A).alloc B).heap[w.heap.size + 1]? = some B ∧ ((w.alloc A).alloc B).heap.size = w.heap.size + 2 := by
  refine ⟨((Below.refl _ _).alloc (Nat.le_refl _) _).alloc (by simp) _, ?_, ?_, by simp⟩
  · rw [Below.heap_alloc _ _ _ (by simp)]
    exact heap_alloc_new w A
  · have q := heap_alloc_new (w.alloc A) B
    simpa using q
theorem range_of {w : World} {g : Nat} {cs : Array Value} {t : TypeId} {fr : Nat × Nat} (h : w.heap[g]? = some (.cells cs t fr)) : w.rangeAt g 0 cs.toList := fun j v hv => by
  rw [Nat.zero_add, World.cell?, h]
  simpa using hv
theorem heap_lt {w : World} {g : Nat} {o : Obj} (h : w.heap[g]? = some o) : g < w.heap.size := by
  rcases Nat.lt_or_ge g w.heap.size with q | q
  · exact q
  · rw [Array.getElem?_eq_none q] at h; cases h
theorem ownsRow_belowF {w w' : World} {base : Nat} {e : TypeId} {K : Nat} {v : Value} {n : Nat} {xs : List Value} (h : w.ownsRow base e K v n xs) (hb : Below w.heap.size w w') : w'.ownsRow base e K v n xs := by
  refine ⟨h.1, ?_⟩
  rcases h.2 with hn | ⟨g, cap, cur, hv, hb2, hgg, rest⟩
  · exact .inl hn
  · exact .inr ⟨g, cap, cur, hv, hb2, by rw [hb.block g (heap_lt hgg)]; exact hgg, rest⟩
theorem owns_news {w : World} {B g cap n : Nat} {c : Nat → Bool} (h : w.ownsRow B 3 1 (.slice (some ⟨g, 0, none⟩) n cap) n (ci c n)) : ∀ j u, (ci c n)[j]? = some u → w.cell? ((⟨g, 0, none⟩ : Addr).add j) = some u := fun j u hu => World.ownsRow.cells h (g := g) rfl j u hu
def pX : Nat → Nat | 0 => 7 | 1 => 2 | 2 => 1 | _ => 0
def pP : Nat → Nat | 0 => 127 | 1 => 126 | 2 => 121 | _ => 0
theorem dbl_end {w w2 w5 w6 w7 : World} {gg n : Nat} {o : Obj} (b1 : Below w.heap.size w w2) (hz : w2.heap[w.heap.size + 1]? = some (.cells #[.int .u8 0, .int .u8 0, .int .u8 0, .int .u8 0, .int .u8 0, .int .u8 0, .int .u8 0, .int .u8 0, .int .u8 0, .int .u8 0, .int .u8 0, .int .u8 0, .int .u8 0, .int .u8 0, .int .u8 0, .int .u8 0] 23 (0, 0))) (hs : w2.heap.size = w.heap.size + 2) (b2 : Below w2.heap.size w2 w5) (hg : w2.heap.size ≤ gg) (o6 : On (w5.alloc o) w6 gg) (b7 : Below w6.heap.size w6 w7) (hn : n = 16) : w7.there (w.heap.size + 1) 0 n ∧ Below w.heap.size w w7 := by
  have l5 := b2.size
  have s6 : w6.heap.size = w5.heap.size + 1 := by rw [o6.size]; simp
  refine ⟨?_, ?_⟩
  · rw [hn]
    refine there_of (cs := #[.int .u8 0, .int .u8 0, .int .u8 0, .int .u8 0, .int .u8 0, .int .u8 0, .int .u8 0, .int .u8 0, .int .u8 0, .int .u8 0, .int .u8 0, .int .u8 0, .int .u8 0, .int .u8 0, .int .u8 0, .int .u8 0]) (t := 23) ?_ (Nat.le_refl _)
    rw [b7.block _ (by omega), o6.block _ (by omega), Below.heap_alloc _ _ _ (by omega), b2.block _ (by omega)]
    exact hz
  · have l1 := b1.size
    exact b1.trans ((b2.mono (by omega)).trans ((((Below.refl w.heap.size w5).alloc (by omega) o).trans (o6.below (by omega))).trans (b7.mono (by omega))))
set_option maxHeartbeats 1600000 in
set_option maxRecDepth 100000 in
/-- cofferref03.Double. -/
theorem rdouble_ok (y : BitVec 128) (w : World) : Calls Try.prog 12 #[BV y] w fun e w' => Hid (e = .returned (BV (TX y)) ∧ Below w.heap.size w w') := by
  obtain ⟨i0, hi0, hz0, hz1, hz2⟩ := info_parts info3
  have HI0 : Hid (Try.prog.info? 3 = some i0 ∧ i0.zero = some (.int .i64 0) ∧ i0.size = 1 ∧ i0.bytes = 8) := ⟨hi0, hz0, hz1, hz2⟩
  clear hi0 hz0 hz1 hz2
  have HC := chain2 w (.cells (BL y).toArray 23) (.cells #[.int .u8 0, .int .u8 0, .int .u8 0, .int .u8 0, .int .u8 0, .int .u8 0, .int .u8 0, .int .u8 0, .int .u8 0, .int .u8 0, .int .u8 0, .int .u8 0, .int .u8 0, .int .u8 0, .int .u8 0, .int .u8 0] 23)
  have e0 : ((w.alloc (.cells (BL y).toArray 23)).alloc (.cells #[.int .u8 0, .int .u8 0, .int .u8 0, .int .u8 0, .int .u8 0, .int .u8 0, .int .u8 0, .int .u8 0, .int .u8 0, .int .u8 0, .int .u8 0, .int .u8 0, .int .u8 0, .int .u8 0, .int .u8 0, .int .u8 0] 23)) = (w.alloc (.cells #[.int .u8 (byV y 0 : Nat), .int .u8 (byV y 1 : Nat), .int .u8 (byV y 2 : Nat), .int .u8 (byV y 3 : Nat), .int .u8 (byV y 4 : Nat), .int .u8 (byV y 5 : Nat), .int .u8 (byV y 6 : Nat), .int .u8 (byV y 7 : Nat), .int .u8 (byV y 8 : Nat), .int .u8 (byV y 9 : Nat), .int .u8 (byV y 10 : Nat), .int .u8 (byV y 11 : Nat), .int .u8 (byV y 12 : Nat), .int .u8 (byV y 13 : Nat), .int .u8 (byV y 14 : Nat), .int .u8 (byV y 15 : Nat)] 23)).alloc (.cells #[.int .u8 0, .int .u8 0, .int .u8 0, .int .u8 0, .int .u8 0, .int .u8 0, .int .u8 0, .int .u8 0, .int .u8 0, .int .u8 0, .int .u8 0, .int .u8 0, .int .u8 0, .int .u8 0, .int .u8 0, .int .u8 0] 23) := rfl
  obtain ⟨L, HLL⟩ : ∃ L, Hid (L = BL y) := ⟨_, rfl⟩
  have HBV : Hid (Value.agg L.toArray = BV y) := by show _ = _; rw [HLL.out]; rfl
  have HLl : Hid (L.length = 16) := by show _ = _; rw [HLL.out]; rfl
  unfold BV
  go_enter Try.func12, Try.ntmps12
  go_upto_region 1 with fail
  rw [← e0]
  clear e0
  generalize (w.alloc (.cells (BL y).toArray 23)).alloc (.cells #[.int .u8 0, .int .u8 0, .int .u8 0, .int .u8 0, .int .u8 0, .int .u8 0, .int .u8 0, .int .u8 0, .int .u8 0, .int .u8 0, .int .u8 0, .int .u8 0, .int .u8 0, .int .u8 0, .int .u8 0, .int .u8 0] 23) = w2 at HC ⊢
  have HD : Hid (Below w.heap.size w w2 ∧ w2.rangeAt w.heap.size 0 L ∧ w2.heap[w.heap.size + 1]? = some (.cells #[.int .u8 0, .int .u8 0, .int .u8 0, .int .u8 0, .int .u8 0, .int .u8 0, .int .u8 0, .int .u8 0, .int .u8 0, .int .u8 0, .int .u8 0, .int .u8 0, .int .u8 0, .int .u8 0, .int .u8 0, .int .u8 0] 23 (0, 0)) ∧ w2.heap.size = w.heap.size + 2) := ⟨HC.1, by rw [HLL.out]; exact range_of HC.2.1, HC.2.2.1, HC.2.2.2⟩
  clear HC
  have HN1 : Hid (1 + 128 ≤ maxLen) := by show 1 + 128 ≤ maxLen; decide
  have HO3 : Hid ((w2.alloc (.cells #[.int .i64 0] 3)).ownsRow w2.heap.size 3 1 (.slice (some ⟨w2.heap.size, 0, none⟩) 1 1) 1 [.int .i64 0]) := ⟨rfl, .inr ⟨w2.heap.size, 1, #[.int .i64 0], rfl, Nat.le_refl _, heap_alloc_new w2 _, Nat.le_refl _, by decide, rfl, rfl⟩⟩
  have HB3 : Hid (Below w2.heap.size w2 (w2.alloc (.cells #[.int .i64 0] 3)) ∧ (w2.alloc (.cells #[.int .i64 0] 3)).heap.size = w2.heap.size + 1) := ⟨(Below.refl _ _).alloc (Nat.le_refl _) _, by simp⟩
  have HR3 : Hid ((w2.alloc (.cells #[.int .i64 0] 3)).rangeAt w.heap.size 0 L) := range_below HD.out.2.1 HB3.out.1 (by rw [HD.out.2.2.2]; omega)
  have H26 : Hid (Calls Try.prog 26 #[.agg L.toArray] (w2.alloc (.cells #[.int .i64 0] 3)) fun e w' => Hid (∃ g cap, e = .returned (.slice (some ⟨g, 0, none⟩) 128 cap) ∧ w'.ownsRow (w2.alloc (.cells #[.int .i64 0] 3)).heap.size 3 1 (.slice (some ⟨g, 0, none⟩) 128 cap) 128 (ci y.getLsbD 128) ∧ Below (w2.alloc (.cells #[.int .i64 0] 3)).heap.size (w2.alloc (.cells #[.int .i64 0] 3)) w')) := by rw [HBV.out]; exact rlittle_ok y _
  have HNW : Hid (∀ u ∈ ci y.getLsbD 128, u.oneCell' = true) := fun u hu => by
    simp only [ci, List.mem_map] at hu
    obtain ⟨j, _, rfl⟩ := hu
    rfl
  go_wp2_with (first
    | (refine wpList_load_mid (by rfl) 23 (.tmp 1) (by rfl) w.heap.size 0 (by rfl) L _ HR3.out Try.underlying23 rfl (by rw [HLl.out]; exact size23) ?_)
    | (go_at_call 26; refine H26.out.mono ?_; intro e4 w4 hh; obtain ⟨g4, cap4, rfl, ho4, hb4⟩ := hh.out; clear hh)
    | (at_builtin; go_must (refine wpList_append_lies _ rfl (.tmp 4) (.tmp 6) 41 rfl w2.heap.size 3 i0 _ 1 8 und41 HI0.out.1 HI0.out.2.1 HI0.out.2.2.1 HI0.out.2.2.2 rfl (Nat.succ_pos 0) (.slice (some ⟨w2.heap.size, 0, none⟩) 1 1) 1 [.int .i64 0] rfl (ownsRow_belowF HO3.out hb4) ⟨g4, 0, none⟩ 128 cap4 (ci y.getLsbD 128) rfl (ci_len _ _) (owns_news ho4) HNW.out (Nat.succ_pos 127) HN1.out (by decide) ?_ w4.heap.size rfl ?_)))
  · have q1 := hb4.size
    have q2 := HB3.out.2
    omega
  intro gg cap w5 hown5 hgrow hat hlt5
  have hown5' : w5.ownsRow w2.heap.size 3 1 (.slice (some ⟨gg, 0, none⟩) 129 cap) 129 (ci (shf y.getLsbD) 129) := by rw [← ci_shf]; exact hown5
  have HW5 : Hid (RowC w5 gg cap 129 (shf y.getLsbD) ∧ Below w2.heap.size w2 w5 ∧ w2.heap.size ≤ gg) := by
    have b4 : Below w2.heap.size w2 w4 := HB3.out.1.trans (hb4.mono (by rw [HB3.out.2]; omega))
    refine ⟨RowC.of_owns hown5' (by decide), b4.grown hgrow b4.size fun k hk => ?_, (ownsRow_lt hown5' (g := gg) rfl).1⟩
    have e : w2.heap.size = k := by simpa [Value.ownBlock] using hk
    omega
  clear hown5 hown5' hgrow hat hlt5 ho4 hb4 HO3 HB3 HR3 H26 HNW
  obtain ⟨L2, HL2⟩ : ∃ L, Hid (L = BL (TX y)) := ⟨_, rfl⟩
  have HBV2 : Hid (BV (TX y) = Value.agg L2.toArray) := by show _ = _; rw [HL2.out]; rfl
  have HLl2 : Hid (L2.length = 16) := by show _ = _; rw [HL2.out]; rfl
  have HLo2 : Hid (L2.toArray.all (·.oneCell') = true) := by show _ = _; rw [HL2.out]; exact BL_one _
  have H28 : Hid (Calls Try.prog 28 #[.slice (some ⟨gg, 0, none⟩) 129 cap, .slice (some ⟨w5.heap.size, 0, none⟩) 4 4] (w5.alloc (.cells #[.int .i64 7, .int .i64 2, .int .i64 1, .int .i64 0] 3)) fun e w' => Hid (e = .returned (.slice (some ⟨gg, 0, none⟩) 128 cap) ∧ (∃ c, RowC w' gg cap 129 c ∧ ∀ j, j < 128 → c j = (TX y).getLsbD j) ∧ On (w5.alloc (.cells #[.int .i64 7, .int .i64 2, .int .i64 1, .int .i64 0] 3)) w' gg)) := by
    have hgl := HW5.out.1.lt
    have q := reduced_ok TX TX_cyc pX (fun k hk => by match k, hk with | 0, _ => decide | 1, _ => decide | 2, _ => decide | 3, _ => decide) TX_mod (shf y.getLsbD) gg cap 129 w5.heap.size 4 (w5.alloc (.cells #[.int .i64 7, .int .i64 2, .int .i64 1, .int .i64 0] 3)) (by decide) (by decide) (HW5.out.1.same (Below.heap_alloc _ _ _ hgl)) (by omega) (fun k hk => by
      have h := heap_alloc_new w5 (.cells #[.int .i64 7, .int .i64 2, .int .i64 1, .int .i64 0] 3)
      rw [World.cell?, h]
      match k, hk with | 0, _ => rfl | 1, _ => rfl | 2, _ => rfl | 3, _ => rfl)
    have hv : ev TX (shf y.getLsbD) 129 = TX y := by
      rw [ev_shf TX_cyc, ev_low TX_cyc y y.getLsbD 128 128 (Nat.le_refl _) (fun _ _ => rfl), S_all]
    rw [hv] at q
    exact q
  have H27 : Hid (∀ u : World, BitsAt u gg 0 (TX y) ∧ gg < u.heap.size → Calls Try.prog 27 #[.slice (some ⟨gg, 0, none⟩) 128 cap] u fun e w' => Hid (e = .returned (.agg L2.toArray) ∧ Below u.heap.size u w')) := fun u hu => by
    have q := rfrom_ok (TX y) gg 0 128 cap u (Nat.le_refl _) hu.2 hu.1
    rw [HBV2.out] at q
    exact q
  go_wp2_with (first
    | (go_at_call 28; refine H28.out.mono ?_; intro e6 w6 hh; obtain ⟨rfl, ⟨c6, hc6, hb6⟩, ho6⟩ := hh.out; clear hh)
    | (go_at_call 27; refine (H27.out w6 ⟨hc6.bits (by decide) hb6, hc6.lt⟩).mono ?_; intro e7 w7 hh; obtain ⟨rfl, hb7⟩ := hh.out; clear hh; have HW7 : Hid (w7.there (w.heap.size + 1) 0 L2.length ∧ Below w.heap.size w w7) := dbl_end HD.out.1 HD.out.2.2.1 HD.out.2.2.2 HW5.out.2.1 HW5.out.2.2 ho6 hb7 HLl2.out; clear hc6 hb6 ho6 hb7)
    | (refine wpList_store_mid (by rfl) 23 (.tmp 2) (.tmp 11) (by rfl) (w.heap.size + 1) 0 L2.toArray (by rfl) (by rfl) (by simpa using HW7.out.1) (by rw [List.size_toArray, HLl2.out]; exact size23) HLo2.out ?_))
  refine ret_array L2 Try.results12 rfl (World.rangeAt_setCells_same _ _ _ _ HW7.out.1) Try.underlying23 rfl (by rw [HLl2.out]; exact size23) ⟨?_, belowB_setCells _ (by omega) _ _ _ HW7.out.2⟩
  rw [HL2.out]
  rfl
end Go.Proofs.Ytnkpngpjlkkkbaa
