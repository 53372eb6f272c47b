import Derived.Test.YtehlppaidgkpaaaGreatDoorPart25
namespace Go.Proofs.YtehlppaidgkpaaaGreatDoor.Dg
open Go.RowKit
set_option linter.unusedVariables false
set_option linter.unusedSimpArgs false

theorem size75 : (Tryz.prog.info? 147).map (·.size) = some 64 := by kernel_rfl
/-- Byte number k of the words, of ws bytes each. -/
def spellAt (ws : Nat) (s : Eight) (k : Nat) : Int := if k < 8 * ws then fnz s.list (k / ws) / 256 ^ (ws - 1 - k % ws) % 256 else 0
def spellCells (ws : Nat) (s : Eight) : List Value := (List.range 64).map fun k => .int .u8 (spellAt ws s k)
theorem spellCells_length (ws : Nat) (s : Eight) : (spellCells ws s).length = 64 := by simp [spellCells]
theorem spellArr_size (ws : Nat) (s : Eight) : (spellCells ws s).toArray.size = 64 := by simp [spellCells]
theorem spellCells_one (ws : Nat) (s : Eight) : (spellCells ws s).toArray.all (·.oneCell') = true := all_oneCell_toArray (by
  intro v hv
  simp only [spellCells, List.mem_map] at hv
  obtain ⟨z, _, rfl⟩ := hv
  rfl)
theorem set_cell {w : World} {b k N : Nat} {F G : Nat → Int} (h : ∀ j, j < N → w.cell? ⟨b, j, none⟩ = some (.int .u8 (F j))) (hk : k < N) (u : Int) (hu : u = G k) (hFG : ∀ j, j < N → j ≠ k → F j = G j) :
    ∀ j, j < N → (w.setCell ⟨b, k, none⟩ (.int .u8 u)).cell? ⟨b, j, none⟩ = some (.int .u8 (G j)) := by
  intro j hj
  by_cases e : j = k
  · subst e
    rw [World.cell?_setCell_same' _ _ _ (by rw [h j hj]; rfl), hu]
  · have := World.cell?_setCells_out b [.int .u8 u] k w ⟨b, j, none⟩ (fun _ _ => by show j < k ∨ k + 1 ≤ j; omega)
    rw [← hFG j hj e, ← h j hj]
    exact this
theorem two_there (w : World) (C D : Array Value) (t u : TypeId) (n : Nat) (hn : n ≤ D.size) : ((w.alloc (.cells C t)).alloc (.cells D u)).there (w.heap.size + 1) 0 n := by
  have := there_new (w.alloc (.cells C t)) D u n hn
  simpa using this
theorem two_cell (w : World) (C D : Array Value) (t u : TypeId) (k : Nat) : ((w.alloc (.cells C t)).alloc (.cells D u)).cell? ⟨w.heap.size + 1, k, none⟩ = D[k]? :=
  World.cell?_alloc_at D u _ _ (by simp)
theorem zero_lit (n k : Nat) (hk : k < n) : (List.replicate n (Value.int .u8 0)).toArray[k]? = some (.int .u8 0) := by simp [hk]
theorem results_cell1 {fn : Func} {p : Tmp} {ty : TypeId} (h : fn.results = #[.cell p ty]) (tmps : Array Value) (P : Program) (w : World) :
    (results fn tmps).run P w = ((asAddr (tmps.getD p undef)).run P w).andThen fun a w₁ => (loadVar ty a).run P w₁ := by
  simp only [results, h]
  simp [Sem.run_bind, Result.andThen]
theorem pow_step (x : Int) (e : Nat) : x / 256 ^ e / 256 = x / 256 ^ (e + 1) := by
  rw [Int.pow_succ, Int.ediv_ediv_of_nonneg]
  exact Int.pow_nonneg (by omega)

set_option maxHeartbeats 3200000 in
set_option maxRecDepth 100000 in
theorem spell64 (g o : Nat) (h : Int) (s : Eight) (half : Nat → Int) (fed : Nat) (w : World) (hblk : blockOf h = 64) (HK : Hid (TK w g o h false s half fed)) :
    Calls Tryz.prog 96 #[.pointer (some ⟨g, o, none⟩)] w fun e w' => e = .returned (.agg (spellCells 4 s).toArray) ∧ Below w.heap.size w w' := by
  have c0 := HK.out.hash
  have c2 : w.cell? ⟨g, o + 2, none⟩ = some (.int .u64 s.a) := HK.out.st 0 _ rfl
  have c3 : w.cell? ⟨g, o + 2 + 1, none⟩ = some (.int .u64 s.b) := HK.out.st 1 _ rfl
  have c4 : w.cell? ⟨g, o + 2 + 2, none⟩ = some (.int .u64 s.c) := HK.out.st 2 _ rfl
  have c5 : w.cell? ⟨g, o + 2 + 3, none⟩ = some (.int .u64 s.d) := HK.out.st 3 _ rfl
  have c6 : w.cell? ⟨g, o + 2 + 4, none⟩ = some (.int .u64 s.e) := HK.out.st 4 _ rfl
  have c7 : w.cell? ⟨g, o + 2 + 5, none⟩ = some (.int .u64 s.f) := HK.out.st 5 _ rfl
  have c8 : w.cell? ⟨g, o + 2 + 6, none⟩ = some (.int .u64 s.g) := HK.out.st 6 _ rfl
  have c9 : w.cell? ⟨g, o + 2 + 7, none⟩ = some (.int .u64 s.k) := HK.out.st 7 _ rfl
  have hgw : g < w.heap.size := lt_of_cell c0
  go_enter Tryz.func96, Tryz.ntmps96
  go_wp2_with (first | (go_at_call 91; refine (block_any _ _).mono ?_; rintro e1 w1 ⟨rfl, hw1⟩; obtain rfl := hw1.symm; rw [hblk]))
  clear c2 c3 c4 c5 c6 c7 c8 c9 c0
  go_loopw [18] (fun v wr => ∃ i : Nat, i ≤ 8 ∧ v = .int .i64 i ∧ Hid (Below w.heap.size w wr) ∧ Hid (wr.there w.heap.size 0 64 ∧ wr.there (w.heap.size + 1) 0 64) ∧ Hid (∀ k, k < 64 → wr.cell? ⟨w.heap.size + 1, k, none⟩ = some (.int .u8 (if k < 4 * i then spellAt 4 s k else 0)))) (fun v _ => 8 - (intOf v).toNat)
  case atStart =>
    refine ⟨0, by omega, rfl, ?_, ⟨?_, ?_⟩, ?_⟩
    · exact ((Below.refl _ _).alloc (Nat.le_refl _) _).alloc (by simp) _
    · exact World.there_alloc (there_new w _ 147 64 (by decide)) _
    · exact two_there w _ _ 147 147 64 (by decide)
    · intro k hk
      rw [if_neg (by omega)]
      exact (two_cell w _ _ 147 147 k).trans (zero_lit 64 k hk)
  case round =>
    obtain ⟨i, hi, rfl, HB, HN, HF⟩ := hrel
    by_cases h8 : i < 8
    · have hidx : (Instr.index 138 (.agg #[.int .u64 s.a, .int .u64 s.b, .int .u64 s.c, .int .u64 s.d, .int .u64 s.e, .int .u64 s.f, .int .u64 s.g, .int .u64 s.k]) (.int .i64 i)).run Tryz.prog wr = .ok (.int .u64 (fnz s.list i)) wr := by
        have : i = 0 ∨ i = 1 ∨ i = 2 ∨ i = 3 ∨ i = 4 ∨ i = 5 ∨ i = 6 ∨ i = 7 := by omega
        rcases this with rfl | rfl | rfl | rfl | rfl | rfl | rfl | rfl <;> rfl
      go_wp2
      go_loopw [6, 7] (fun x v wr => ∃ m : Nat, m ≤ 4 ∧ v = .int .i64 ((m : Int) - 1) ∧ x = .int .u64 (fnz s.list i / 256 ^ (4 - m)) ∧ Hid (Below w.heap.size w wr) ∧ Hid (wr.there w.heap.size 0 64 ∧ wr.there (w.heap.size + 1) 0 64) ∧ Hid (∀ k, k < 64 → wr.cell? ⟨w.heap.size + 1, k, none⟩ = some (.int .u8 (if k < 4 * i ∨ (4 * i + m ≤ k ∧ k < 4 * i + 4) then spellAt 4 s k else 0)))) (fun _ v _ => (intOf v + 1).toNat)
      case atStart =>
        refine ⟨4, by omega, rfl, by simp, HB, HN, fun k hk => ?_⟩
        rw [HF.out k hk]
        by_cases hk1 : k < 4 * i
        · rw [if_pos hk1, if_pos (.inl hk1)]
        · rw [if_neg hk1, if_neg (by omega)]
      case round =>
        obtain ⟨m, hm, rfl, rfl, HB2, HN2, HF2⟩ := hrel
        clear HB HN HF hidx
        by_cases hm0 : 0 < m
        · obtain ⟨m', rfl⟩ : ∃ m', m = m' + 1 := ⟨m - 1, by omega⟩
          rw [show ((m' + 1 : Nat) : Int) - 1 = (m' : Int) by omega]
          have e1 : ((i : Int) * 4 + (m' : Int)).toNat = 4 * i + m' := by omega
          have fw : wr.frozen? ⟨w.heap.size + 1, 4 * i + m', none⟩ = false := by simpa using (HN2.out.2 (4 * i + m') (by omega)).2
          have fc := HF2.out (4 * i + m') (by omega)
          generalize hX : fnz s.list i / 256 ^ (4 - (m' + 1)) = X at *
          go_wp2
          go_roundw
          case rel =>
            refine ⟨m', by omega, rfl, ?_, HB2.out.setCell (by show _ ≤ w.heap.size + 1; omega) _, ⟨World.there_setCells HN2.out.1 _ _ [_], World.there_setCells HN2.out.2 _ _ [_]⟩, ?_⟩
            · rw [← hX, pow_step, show 4 - (m' + 1) + 1 = 4 - m' by omega]
            · refine set_cell HF2.out (by omega) _ ?_ ?_
              · rw [if_pos (.inr ⟨Nat.le_refl _, by omega⟩), spellAt, if_pos (by omega), show (4 * i + m') / 4 = i by omega, show (4 * i + m') % 4 = m' by omega, show 4 - 1 - m' = 4 - (m' + 1) by omega, hX]
              · intro j hj hne
                by_cases hc : j < 4 * i ∨ (4 * i + (m' + 1) ≤ j ∧ j < 4 * i + 4)
                · rw [if_pos hc, if_pos (by omega)]
                · rw [if_neg hc, if_neg (by omega)]
          case measure => simp [intOf]
        · obtain rfl : m = 0 := by omega
          go_wp2
          go_roundw
          case rel =>
            refine ⟨i + 1, by omega, by go_num, HB2, HN2, fun k hk => ?_⟩
            rw [HF2.out k hk]
            by_cases hc : k < 4 * (i + 1)
            · rw [if_pos hc, if_pos (by omega)]
            · rw [if_neg hc, if_neg (by omega)]
          case measure => simp [intOf]; omega
    · obtain rfl : i = 8 := by omega
      have HR : Hid (wr.rangeAt (w.heap.size + 1) 0 (spellCells 4 s)) := fun j v hv => by
        have hj : j < 64 := by
          by_cases hj : j < (spellCells 4 s).length
          · rwa [spellCells_length] at hj
          · rw [List.getElem?_eq_none (by omega)] at hv; cases hv
        rw [Nat.zero_add, HF.out j hj]
        simp only [spellCells, List.getElem?_map, List.getElem?_range hj, Option.map_some, Option.some.injEq] at hv
        rw [← hv]
        by_cases hc : j < 4 * 8
        · rw [if_pos hc]
        · rw [if_neg hc, spellAt, if_neg (by omega)]
      have HY : Hid (wr.there w.heap.size 0 (spellCells 4 s).toArray.size) := by rw [spellArr_size]; exact HN.out.1
      have HZ : Hid ((Tryz.prog.info? 147).map (·.size) = some (spellCells 4 s).toArray.size) := by rw [spellArr_size]; exact size75
      go_wp2_with (first
        | (refine wpList_load_mid (by rfl) 147 (.tmp 3) (by rfl) (w.heap.size + 1) 0 (by rfl) (spellCells 4 s) _ HR.out Tryz.underlying147 rfl (by rw [spellCells_length]; exact size75) ?_)
        | (refine wpList_store_mid (by rfl) 147 (.tmp 2) (.tmp 39) (by rfl) w.heap.size 0 (spellCells 4 s).toArray (by rfl) (by rfl) HY.out HZ.out (spellCells_one 4 s) ?_)
        | fail)
      have hl := run_loadVar_mid (P := Tryz.prog) (wr.setCells w.heap.size 0 (spellCells 4 s)) w.heap.size 0 147 (spellCells 4 s) _ (World.rangeAt_setCells_same wr w.heap.size 0 (spellCells 4 s) (by rw [spellCells_length]; exact HN.out.1)) Tryz.underlying147 rfl (by rw [spellCells_length]; exact size75)
      refine bodyPost_ret (v := .agg (spellCells 4 s).toArray) ?_ rfl ⟨rfl, below_setCells _ (Nat.le_refl _) _ _ _ HB.out⟩
      rw [results_cell1 Tryz.results96]
      simp [Act.put, asAddr, hl]

end Go.Proofs.YtehlppaidgkpaaaGreatDoor.Dg
