import Derived.Test.YtchfbanehohjoaaSpl
namespace Go.Proofs.Ytchfbanehohjoaa
open Go.RowKit
set_option linter.unusedVariables false
set_option linter.unusedSimpArgs false
structure SpA (w u : World) (m : Nat) (v : Value) : Prop where
  c11 : u.cell? ⟨m, 11, none⟩ = some (.slice none 0 0)
  c12 : u.cell? ⟨m, 12, none⟩ = some (.slice none 0 0)
  c13 : u.cell? ⟨m, 13, none⟩ = some v
  c26 : u.cell? ⟨m, 26, none⟩ = some (.slice none 0 0)
  lt : m < u.heap.size
  gr : w.grownBy u v.ownBlock
theorem cell_grown {u u' : World} {b : Option Nat} {m o : Nat} {x : Value} (h : u.cell? ⟨m, o, none⟩ = some x) (g : u.grownBy u' b) (hm : m < u.heap.size) (hb : some m ≠ b) : u'.cell? ⟨m, o, none⟩ = some x := by
  have := g.block m hm hb
  simp only [World.cell?] at h ⊢
  rw [this]
  exact h
theorem SpA.step {w u u' : World} {m : Nat} {v : Value} {b : Option Nat} (h : SpA w u m v) (g : u.grownBy u' b) (hb : some m ≠ b) (hw : ∀ k, k < w.heap.size → some k ≠ v.ownBlock → some k ≠ b) : SpA w u' m v :=
  ⟨cell_grown h.c11 g h.lt hb, cell_grown h.c12 g h.lt hb, cell_grown h.c13 g h.lt hb, cell_grown h.c26 g h.lt hb, Nat.lt_of_lt_of_le h.lt g.size, grown_trans h.gr g hw⟩
theorem SpA.new (w : World) (v : Value) : SpA w (w.alloc (.cells (metaC v) 36)) w.heap.size v :=
  ⟨rangeAt_new _ _ _ _ _ rfl, rangeAt_new _ _ _ _ _ rfl, rangeAt_new _ _ _ _ _ rfl, rangeAt_new _ _ _ _ _ rfl, by simp, World.grownBy_alloc _ _ _⟩
set_option maxRecDepth 100000 in
set_option maxHeartbeats 8000000 in
theorem spoilM_nil (w : World) :
    Calls Try.prog 10 #[.agg (metaC (.slice none 0 0))] w fun e w' => e = .returned (.tuple #[]) ∧ w.grownBy w' ((.slice none 0 0) : Value).ownBlock := by
  obtain ⟨i, hi, hi0, hi1, hi2⟩ := info_parts info47
  obtain ⟨j, hj, hj0, hj1, hj2⟩ := info_parts info49
  obtain ⟨p, hp, hp0, hp1, hp2⟩ := info_parts info51
  obtain ⟨q, hq, hq0, hq1, hq2⟩ := info_parts info45
  have HA := SpA.new w (.slice none 0 0)
  go_enter Try.func10, Try.ntmps10
  go_upto_region 1 with fail
  generalize w.alloc (.cells (metaC (.slice none 0 0)) 36) = u0 at *
  have c := HA.c26
  go_wp2
  go_loopw [2] (fun i wr => i = .int .i64 (0 : Nat) ∧ wr = u0) (fun i _ => 0)
  case atStart => exact ⟨rfl, rfl⟩
  case round =>
  obtain ⟨rfl, hw⟩ := hrel
  obtain rfl := hw.symm
  clear hw
  have e2 := HA.c11
  go_wp2
  go_loopw [3] (fun i wr => i = .int .i64 (0 : Nat) ∧ wr = u0) (fun i _ => 0)
  case atStart => exact ⟨rfl, rfl⟩
  case round =>
  obtain ⟨rfl, hw⟩ := hrel
  obtain rfl := hw.symm
  clear hw
  have e3 := HA.c12
  go_wp2
  go_loopw [4] (fun i wr => i = .int .i64 (0 : Nat) ∧ wr = u0) (fun i _ => 0)
  case atStart => exact ⟨rfl, rfl⟩
  case round =>
  obtain ⟨rfl, hw⟩ := hrel
  obtain rfl := hw.symm
  clear hw
  have e4 := HA.c13
  go_wp2
  go_loopw [5] (fun i wr => i = .int .i64 (0 : Nat) ∧ wr = u0) (fun i _ => 0)
  case atStart => exact ⟨rfl, rfl⟩
  case round =>
  obtain ⟨rfl, hw⟩ := hrel
  obtain rfl := hw.symm
  clear hw
  have ST : Hid (SpB w u0 w.heap.size ((.slice none 0 0) : Value).ownBlock 0 0 0 0 (.slice none 0 0) (.slice none 0 0) (.slice none 0 0) (.slice none 0 0)) := ⟨⟨_, World.ownsRow_nil _ _ _ _⟩, ⟨_, World.ownsRow_nil _ _ _ _⟩, ⟨_, World.ownsRow_nil _ _ _ _⟩, ⟨_, World.ownsRow_nil _ _ _ _⟩, HA.gr, fun q hq => .inl hq.symm⟩
  clear HA
  go_wp2
  go_loopw [6, 7, 8, 9, 10] (fun sl ep sg tk i W => ∃ k : Nat, k ≤ 9 ∧ i = .int .i64 (k : Nat) ∧ ∃ p1 c1 p2 c2 p3 c3 p4 c4, sl = .slice p1 k c1 ∧ ep = .slice p2 k c2 ∧ sg = .slice p3 (k) c3 ∧ tk = .slice p4 k c4 ∧ Hid (SpB w W w.heap.size ((.slice none 0 0) : Value).ownBlock k k (k) k (.slice p1 k c1) (.slice p2 k c2) (.slice p3 (k) c3) (.slice p4 k c4))) (fun _ _ _ _ i _ => 9 - (intOf i).toNat)
  case atStart => exact ⟨0, by omega, rfl, _, _, _, _, _, _, _, _, rfl, rfl, rfl, rfl, ST⟩
  case round =>
  clear ST
  obtain ⟨k, hk, rfl, p1, c1, p2, c2, p3, c3, p4, c4, rfl, rfl, rfl, rfl, HS⟩ := hrel
  obtain ⟨x1, o1⟩ := HS.out.o1
  have hs0 := HS.out.gr.size
  by_cases hlt9 : k < 9
  · go_upto_region 26 with (at_builtin; go_must (refine wpList_append_lies _ rfl (.tmp 78) (.tmp 80) 27 rfl w.heap.size 47 i (.agg #[.int .i64 0, .int .i64 0, .int .i64 0, .int .i64 0, .string ⟨#[]⟩, .string ⟨#[]⟩, .int .i64 0, .int .i64 0, .int .i64 0]) 9 88 Try.underlying27 hi hi0 hi1 hi2 rfl (by decide) (.slice p1 k c1) k _ rfl (o1.alloc _) ⟨wr.heap.size, 0, none⟩ 1 1 [.int .i64 0, .int .i64 0, .int .i64 0, .int .i64 0, .string ⟨#[98, 101, 104, 105, 110, 100]⟩, .string ⟨#[]⟩, .int .i64 0, .int .i64 0, .int .i64 0] rfl rfl (news_new _ _ _) (by simp [Value.oneCell']) (by decide) (by unfold maxLen; omega) (by omega) (by simp; omega) (wr.heap.size + 1) (by simp) ?_))
    intro g1 d1 w1 own1 gr1 at1 lt1
    have HS1 := HS.out.s1 _ gr1 own1
    clear own1 gr1 at1 lt1 o1
    obtain ⟨x2, o2⟩ := HS1.o2
    have HT1 : Hid (SpB w w1 w.heap.size ((.slice none 0 0) : Value).ownBlock (k + 1) k (k) k (.slice (some ⟨g1, 0, none⟩) (k + 1) d1) (.slice p2 k c2) (.slice p3 (k) c3) (.slice p4 k c4)) := HS1
    clear HS1 HS
    have hs1 := HT1.out.gr.size
    go_upto_region 27 with (at_builtin; go_must (refine wpList_append_lies _ rfl (.tmp 82) (.tmp 84) 28 rfl w.heap.size 49 j (.agg #[.int .u64 0, .string ⟨#[]⟩, .string ⟨#[]⟩, .string ⟨#[]⟩, .string ⟨#[]⟩]) 5 72 Try.underlying28 hj hj0 hj1 hj2 rfl (by decide) (.slice p2 k c2) k _ rfl (o2.alloc _) ⟨w1.heap.size, 0, none⟩ 1 1 [.int .u64 0, .string ⟨#[]⟩, .string ⟨#[98, 101, 104, 105, 110, 100]⟩, .string ⟨#[]⟩, .string ⟨#[]⟩] rfl rfl (news_new _ _ _) (by simp [Value.oneCell']) (by decide) (by unfold maxLen; omega) (by omega) (by simp; omega) (w1.heap.size + 1) (by simp) ?_))
    intro g2 d2 w2 own2 gr2 at2 lt2
    have HT2 : Hid (SpB w w2 w.heap.size ((.slice none 0 0) : Value).ownBlock (k + 1) (k + 1) (k) k (.slice (some ⟨g1, 0, none⟩) (k + 1) d1) (.slice (some ⟨g2, 0, none⟩) (k + 1) d2) (.slice p3 (k) c3) (.slice p4 k c4)) := HT1.out.s2 _ gr2 own2
    clear own2 gr2 at2 lt2 o2 HT1
    obtain ⟨x3, o3⟩ := HT2.out.o3
    have hs2 := HT2.out.gr.size
    go_upto_region 28 with (at_builtin; go_must (refine wpList_append_lies _ rfl (.tmp 86) (.tmp 88) 29 rfl w.heap.size 51 p (.agg #[.int .u64 0, .int .u64 0, .int .u64 0]) 3 24 Try.underlying29 hp hp0 hp1 hp2 rfl (by decide) (.slice p3 (k) c3) (k) _ rfl (o3.alloc _) ⟨w2.heap.size, 0, none⟩ 1 1 [.int .u64 0, .int .u64 98, .int .u64 0] rfl rfl (news_new _ _ _) (by simp [Value.oneCell']) (by decide) (by unfold maxLen; omega) (by omega) (by simp; omega) (w2.heap.size + 1) (by simp) ?_))
    intro g3 d3 w3 own3 gr3 at3 lt3
    have HT3 : Hid (SpB w w3 w.heap.size ((.slice none 0 0) : Value).ownBlock (k + 1) (k + 1) (k + 1) k (.slice (some ⟨g1, 0, none⟩) (k + 1) d1) (.slice (some ⟨g2, 0, none⟩) (k + 1) d2) (.slice (some ⟨g3, 0, none⟩) (k + 1) d3) (.slice p4 k c4)) := HT2.out.s3 _ gr3 own3 at3
    clear own3 gr3 at3 lt3 o3 HT2
    obtain ⟨x4, o4⟩ := HT3.out.o4
    have hs3 := HT3.out.gr.size
    go_wp2_with (at_builtin; go_must (refine wpList_append_lies _ rfl (.tmp 90) (.tmp 92) 34 rfl w.heap.size 45 q (.agg #[.int .i64 0, .string ⟨#[]⟩, .slice none 0 0, .string ⟨#[]⟩]) 4 64 Try.underlying34 hq hq0 hq1 hq2 rfl (by decide) (.slice p4 k c4) k _ rfl (o4.alloc _) ⟨w3.heap.size, 0, none⟩ 1 1 [.int .i64 0, .string ⟨#[98, 101, 104, 105, 110, 100]⟩, .slice none 0 0, .string ⟨#[]⟩] rfl rfl (news_new _ _ _) (by simp [Value.oneCell']) (by decide) (by unfold maxLen; omega) (by omega) (by simp; omega) (w3.heap.size + 1) (by simp) ?_))
    intro g4 d4 w4 own4 gr4 at4 lt4
    have HT4 : Hid (SpB w w4 w.heap.size ((.slice none 0 0) : Value).ownBlock (k + 1) (k + 1) (k + 1) (k + 1) (.slice (some ⟨g1, 0, none⟩) (k + 1) d1) (.slice (some ⟨g2, 0, none⟩) (k + 1) d2) (.slice (some ⟨g3, 0, none⟩) (k + 1) d3) (.slice (some ⟨g4, 0, none⟩) (k + 1) d4)) := HT3.out.s4 _ gr4 own4
    clear own4 gr4 at4 lt4 o4 HT3
    go_wp2
    go_roundw
    case rel =>
      refine ⟨_, _, _, _, _, _, _, _, _, _, _, _, _, _, _, _, _, _, _, _, _, _, _, _, _, ?_, rfl⟩
      exact ⟨k + 1, by omega, by go_num, _, _, _, _, _, _, _, _, rfl, rfl, rfl, rfl, HT4⟩
    case measure => simp [intOf]; omega
  · obtain rfl : k = 9 := by omega
    obtain ⟨g1, h1⟩ : ∃ g1, p1 = some ⟨g1, 0, none⟩ := by
      rcases o1.2 with ⟨_, h⟩ | ⟨g', c', cur, h, _⟩
      · omega
      · cases h; exact ⟨g', rfl⟩
    subst h1
    have hl : x1.length = 9 * 9 := o1.1
    have hcell : wr.cell? ⟨g1, 72, none⟩ = some (x1[72]'(by omega)) := by rw [o1.cellAt 72 (by omega), List.getElem?_eq_getElem (by omega)]
    have hfr : wr.frozen? ⟨g1, 72, none⟩ = false := o1.frozenAt 72
    have hg1 := (o1.lt g1 rfl).1
    have HO1 : Hid (wr.ownsRow w.heap.size 47 9 (.slice (some ⟨g1, 0, none⟩) 9 c1) 9 x1) := o1
    clear o1
    generalize x1[72] = y at hcell
    go_wp2
    go_end0
    refine ⟨rfl, ?_⟩
    exact grown_trans HS.out.gr (HO1.out.stored 72 _).2 (fun k hk _ => by simp; omega)
set_option maxRecDepth 100000 in
set_option maxHeartbeats 8000000 in
theorem spoilM_some (b g n cap : Nat) (xs : List Value) (w : World) (hn1 : n ≤ 1000) (hbw : b ≤ w.heap.size) (hlt : g < w.heap.size) (hown : w.ownsRow b 51 3 (.slice (some ⟨g, 0, none⟩) n cap) n xs) :
    Calls Try.prog 10 #[.agg (metaC (.slice (some ⟨g, 0, none⟩) n cap))] w fun e w' => e = .returned (.tuple #[]) ∧ w.grownBy w' ((.slice (some ⟨g, 0, none⟩) n cap) : Value).ownBlock := by
  obtain ⟨i, hi, hi0, hi1, hi2⟩ := info_parts info47
  obtain ⟨j, hj, hj0, hj1, hj2⟩ := info_parts info49
  obtain ⟨p, hp, hp0, hp1, hp2⟩ := info_parts info51
  obtain ⟨q, hq, hq0, hq1, hq2⟩ := info_parts info45
  have HA := SpA.new w (.slice (some ⟨g, 0, none⟩) n cap)
  have HO : (w.alloc (.cells (metaC (.slice (some ⟨g, 0, none⟩) n cap)) 36)).ownsRow b 51 3 (.slice (some ⟨g, 0, none⟩) n cap) n xs := hown.alloc _
  go_enter Try.func10, Try.ntmps10
  go_upto_region 1 with fail
  generalize w.alloc (.cells (metaC (.slice (some ⟨g, 0, none⟩) n cap)) 36) = u0 at *
  have c := HA.c26
  go_wp2
  go_loopw [2] (fun i wr => i = .int .i64 (0 : Nat) ∧ wr = u0) (fun i _ => 0)
  case atStart => exact ⟨rfl, rfl⟩
  case round =>
  obtain ⟨rfl, hw⟩ := hrel
  obtain rfl := hw.symm
  clear hw
  have e2 := HA.c11
  go_wp2
  go_loopw [3] (fun i wr => i = .int .i64 (0 : Nat) ∧ wr = u0) (fun i _ => 0)
  case atStart => exact ⟨rfl, rfl⟩
  case round =>
  obtain ⟨rfl, hw⟩ := hrel
  obtain rfl := hw.symm
  clear hw
  have e3 := HA.c12
  go_wp2
  go_loopw [4] (fun i wr => i = .int .i64 (0 : Nat) ∧ wr = u0) (fun i _ => 0)
  case atStart => exact ⟨rfl, rfl⟩
  case round =>
  obtain ⟨rfl, hw⟩ := hrel
  obtain rfl := hw.symm
  clear hw
  have e4 := HA.c13
  go_wp2
  go_loopw [5] (fun i wr => ∃ k : Nat, k ≤ n ∧ i = .int .i64 (k : Nat) ∧ SpA w wr w.heap.size (.slice (some ⟨g, 0, none⟩) n cap) ∧ ∃ ys, wr.ownsRow b 51 3 (.slice (some ⟨g, 0, none⟩) n cap) n ys) (fun i _ => n - (intOf i).toNat)
  case atStart => exact ⟨0, by omega, rfl, HA, _, HO⟩
  case round =>
  obtain ⟨k, hk, rfl, HA1, ys, HO1⟩ := hrel
  clear HA HO c e2 e3 e4
  have c := HA1.c13
  by_cases hlt2 : k < n
  · have hcl : ys.length = n * 3 := HO1.1
    obtain ⟨y0, hy0⟩ : ∃ y, ys[k * 3]? = some y := ⟨ys[k * 3]'(by omega), List.getElem?_eq_getElem _⟩
    obtain ⟨y1, hy1⟩ : ∃ y, ys[k * 3 + 1]? = some y := ⟨ys[k * 3 + 1]'(by omega), List.getElem?_eq_getElem _⟩
    obtain ⟨y2, hy2⟩ : ∃ y, ys[k * 3 + 2]? = some y := ⟨ys[k * 3 + 2]'(by omega), List.getElem?_eq_getElem _⟩
    have r0 : wr.cell? ⟨g, k * 3, none⟩ = some y0 := by rw [HO1.cellAt (k * 3) (by omega), hy0]
    have r1 : wr.cell? ⟨g, k * 3 + 1, none⟩ = some y1 := by rw [HO1.cellAt (k * 3 + 1) (by omega), hy1]
    have r2 : wr.cell? ⟨g, k * 3 + 2, none⟩ = some y2 := by rw [HO1.cellAt (k * 3 + 2) (by omega), hy2]
    have f0 : wr.frozen? ⟨g, k * 3, none⟩ = false := HO1.frozenAt _
    have f1 : wr.frozen? ⟨g, k * 3 + 1, none⟩ = false := HO1.frozenAt _
    have f2 : wr.frozen? ⟨g, k * 3 + 2, none⟩ = false := HO1.frozenAt _
    clear hy0 hy1 hy2
    have HQ : Hid (SpA w wr w.heap.size (.slice (some ⟨g, 0, none⟩) n cap) ∧ wr.ownsRow b 51 3 (.slice (some ⟨g, 0, none⟩) n cap) n ys) := ⟨HA1, HO1⟩
    clear HA1 HO1 hcl
    go_wp2
    have HR : Hid (SpA w (((wr.setCell ⟨g, k * 3, none⟩ (.int .u64 99)).setCell ⟨g, k * 3 + 1, none⟩ (.int .u64 0)).setCell ⟨g, k * 3 + 2, none⟩ (.int .u64 0)) w.heap.size (.slice (some ⟨g, 0, none⟩) n cap) ∧ ∃ ys, (((wr.setCell ⟨g, k * 3, none⟩ (.int .u64 99)).setCell ⟨g, k * 3 + 1, none⟩ (.int .u64 0)).setCell ⟨g, k * 3 + 2, none⟩ (.int .u64 0)).ownsRow b 51 3 (.slice (some ⟨g, 0, none⟩) n cap) n ys) := by
      have h1 := HQ.out.2.stored (k * 3) (.int .u64 99)
      have h2 := h1.1.stored (k * 3 + 1) (.int .u64 0)
      have h3 := h2.1.stored (k * 3 + 2) (.int .u64 0)
      have hm : some w.heap.size ≠ some g := by simp; omega
      exact ⟨((HQ.out.1.step h1.2 hm (fun _ _ h => h)).step h2.2 hm (fun _ _ h => h)).step h3.2 hm (fun _ _ h => h), _, h3.1⟩
    clear HQ
    go_roundw
    case rel => exact ⟨k + 1, by omega, by go_num, HR.out.1, HR.out.2⟩
    case measure => simp [intOf]; omega
  obtain rfl : n = k := by omega
  clear hlt2
  have c1 := HA1.c11
  have c2 := HA1.c12
  have c4 := HA1.c26
  have ST : Hid (SpB w wr b ((.slice (some ⟨g, 0, none⟩) n cap) : Value).ownBlock 0 0 n 0 (.slice none 0 0) (.slice none 0 0) (.slice (some ⟨g, 0, none⟩) n cap) (.slice none 0 0)) := ⟨⟨_, World.ownsRow_nil _ _ _ _⟩, ⟨_, World.ownsRow_nil _ _ _ _⟩, ⟨_, HO1⟩, ⟨_, World.ownsRow_nil _ _ _ _⟩, HA1.gr, fun q hq => .inl hq.symm⟩
  clear HA1 HO1
  go_wp2
  go_loopw [6, 7, 8, 9, 10] (fun sl ep sg tk i W => ∃ k : Nat, k ≤ 9 ∧ i = .int .i64 (k : Nat) ∧ ∃ p1 c1 p2 c2 p3 c3 p4 c4, sl = .slice p1 k c1 ∧ ep = .slice p2 k c2 ∧ sg = .slice p3 (n + k) c3 ∧ tk = .slice p4 k c4 ∧ Hid (SpB w W b ((.slice (some ⟨g, 0, none⟩) n cap) : Value).ownBlock k k (n + k) k (.slice p1 k c1) (.slice p2 k c2) (.slice p3 (n + k) c3) (.slice p4 k c4))) (fun _ _ _ _ i _ => 9 - (intOf i).toNat)
  case atStart => exact ⟨0, by omega, rfl, _, _, _, _, _, _, _, _, rfl, rfl, rfl, rfl, ST⟩
  case round =>
  clear ST
  obtain ⟨k, hk, rfl, p1, c1, p2, c2, p3, c3, p4, c4, rfl, rfl, rfl, rfl, HS⟩ := hrel
  obtain ⟨x1, o1⟩ := HS.out.o1
  have hs0 := HS.out.gr.size
  by_cases hlt9 : k < 9
  · go_upto_region 26 with (at_builtin; go_must (refine wpList_append_lies _ rfl (.tmp 78) (.tmp 80) 27 rfl w.heap.size 47 i (.agg #[.int .i64 0, .int .i64 0, .int .i64 0, .int .i64 0, .string ⟨#[]⟩, .string ⟨#[]⟩, .int .i64 0, .int .i64 0, .int .i64 0]) 9 88 Try.underlying27 hi hi0 hi1 hi2 rfl (by decide) (.slice p1 k c1) k _ rfl (o1.alloc _) ⟨wr.heap.size, 0, none⟩ 1 1 [.int .i64 0, .int .i64 0, .int .i64 0, .int .i64 0, .string ⟨#[98, 101, 104, 105, 110, 100]⟩, .string ⟨#[]⟩, .int .i64 0, .int .i64 0, .int .i64 0] rfl rfl (news_new _ _ _) (by simp [Value.oneCell']) (by decide) (by unfold maxLen; omega) (by omega) (by simp; omega) (wr.heap.size + 1) (by simp) ?_))
    intro g1 d1 w1 own1 gr1 at1 lt1
    have HS1 := HS.out.s1 _ gr1 own1
    clear own1 gr1 at1 lt1 o1
    obtain ⟨x2, o2⟩ := HS1.o2
    have HT1 : Hid (SpB w w1 b ((.slice (some ⟨g, 0, none⟩) n cap) : Value).ownBlock (k + 1) k (n + k) k (.slice (some ⟨g1, 0, none⟩) (k + 1) d1) (.slice p2 k c2) (.slice p3 (n + k) c3) (.slice p4 k c4)) := HS1
    clear HS1 HS
    have hs1 := HT1.out.gr.size
    go_upto_region 27 with (at_builtin; go_must (refine wpList_append_lies _ rfl (.tmp 82) (.tmp 84) 28 rfl w.heap.size 49 j (.agg #[.int .u64 0, .string ⟨#[]⟩, .string ⟨#[]⟩, .string ⟨#[]⟩, .string ⟨#[]⟩]) 5 72 Try.underlying28 hj hj0 hj1 hj2 rfl (by decide) (.slice p2 k c2) k _ rfl (o2.alloc _) ⟨w1.heap.size, 0, none⟩ 1 1 [.int .u64 0, .string ⟨#[]⟩, .string ⟨#[98, 101, 104, 105, 110, 100]⟩, .string ⟨#[]⟩, .string ⟨#[]⟩] rfl rfl (news_new _ _ _) (by simp [Value.oneCell']) (by decide) (by unfold maxLen; omega) (by omega) (by simp; omega) (w1.heap.size + 1) (by simp) ?_))
    intro g2 d2 w2 own2 gr2 at2 lt2
    have HT2 : Hid (SpB w w2 b ((.slice (some ⟨g, 0, none⟩) n cap) : Value).ownBlock (k + 1) (k + 1) (n + k) k (.slice (some ⟨g1, 0, none⟩) (k + 1) d1) (.slice (some ⟨g2, 0, none⟩) (k + 1) d2) (.slice p3 (n + k) c3) (.slice p4 k c4)) := HT1.out.s2 _ gr2 own2
    clear own2 gr2 at2 lt2 o2 HT1
    obtain ⟨x3, o3⟩ := HT2.out.o3
    have hs2 := HT2.out.gr.size
    go_upto_region 28 with (at_builtin; go_must (refine wpList_append_lies _ rfl (.tmp 86) (.tmp 88) 29 rfl b 51 p (.agg #[.int .u64 0, .int .u64 0, .int .u64 0]) 3 24 Try.underlying29 hp hp0 hp1 hp2 rfl (by decide) (.slice p3 (n + k) c3) (n + k) _ rfl (o3.alloc _) ⟨w2.heap.size, 0, none⟩ 1 1 [.int .u64 0, .int .u64 98, .int .u64 0] rfl rfl (news_new _ _ _) (by simp [Value.oneCell']) (by decide) (by unfold maxLen; omega) (by omega) (by simp; omega) (w2.heap.size + 1) (by simp) ?_))
    intro g3 d3 w3 own3 gr3 at3 lt3
    have HT3 : Hid (SpB w w3 b ((.slice (some ⟨g, 0, none⟩) n cap) : Value).ownBlock (k + 1) (k + 1) (n + k + 1) k (.slice (some ⟨g1, 0, none⟩) (k + 1) d1) (.slice (some ⟨g2, 0, none⟩) (k + 1) d2) (.slice (some ⟨g3, 0, none⟩) (n + k + 1) d3) (.slice p4 k c4)) := HT2.out.s3 _ gr3 own3 at3
    clear own3 gr3 at3 lt3 o3 HT2
    obtain ⟨x4, o4⟩ := HT3.out.o4
    have hs3 := HT3.out.gr.size
    go_wp2_with (at_builtin; go_must (refine wpList_append_lies _ rfl (.tmp 90) (.tmp 92) 34 rfl w.heap.size 45 q (.agg #[.int .i64 0, .string ⟨#[]⟩, .slice none 0 0, .string ⟨#[]⟩]) 4 64 Try.underlying34 hq hq0 hq1 hq2 rfl (by decide) (.slice p4 k c4) k _ rfl (o4.alloc _) ⟨w3.heap.size, 0, none⟩ 1 1 [.int .i64 0, .string ⟨#[98, 101, 104, 105, 110, 100]⟩, .slice none 0 0, .string ⟨#[]⟩] rfl rfl (news_new _ _ _) (by simp [Value.oneCell']) (by decide) (by unfold maxLen; omega) (by omega) (by simp; omega) (w3.heap.size + 1) (by simp) ?_))
    intro g4 d4 w4 own4 gr4 at4 lt4
    have HT4 : Hid (SpB w w4 b ((.slice (some ⟨g, 0, none⟩) n cap) : Value).ownBlock (k + 1) (k + 1) (n + k + 1) (k + 1) (.slice (some ⟨g1, 0, none⟩) (k + 1) d1) (.slice (some ⟨g2, 0, none⟩) (k + 1) d2) (.slice (some ⟨g3, 0, none⟩) (n + k + 1) d3) (.slice (some ⟨g4, 0, none⟩) (k + 1) d4)) := HT3.out.s4 _ gr4 own4
    clear own4 gr4 at4 lt4 o4 HT3
    go_wp2
    go_roundw
    case rel =>
      refine ⟨_, _, _, _, _, _, _, _, _, _, _, _, _, _, _, _, _, _, _, _, _, _, _, _, _, ?_, rfl⟩
      exact ⟨k + 1, by omega, by go_num, _, _, _, _, _, _, _, _, rfl, rfl, rfl, rfl, HT4⟩
    case measure => simp [intOf]; omega
  · obtain rfl : k = 9 := by omega
    obtain ⟨g1, h1⟩ : ∃ g1, p1 = some ⟨g1, 0, none⟩ := by
      rcases o1.2 with ⟨_, h⟩ | ⟨g', c', cur, h, _⟩
      · omega
      · cases h; exact ⟨g', rfl⟩
    subst h1
    have hl : x1.length = 9 * 9 := o1.1
    have hcell : wr.cell? ⟨g1, 72, none⟩ = some (x1[72]'(by omega)) := by rw [o1.cellAt 72 (by omega), List.getElem?_eq_getElem (by omega)]
    have hfr : wr.frozen? ⟨g1, 72, none⟩ = false := o1.frozenAt 72
    have hg1 := (o1.lt g1 rfl).1
    have HO1 : Hid (wr.ownsRow w.heap.size 47 9 (.slice (some ⟨g1, 0, none⟩) 9 c1) 9 x1) := o1
    clear o1
    generalize x1[72] = y at hcell
    go_wp2
    go_end0
    refine ⟨rfl, ?_⟩
    exact grown_trans HS.out.gr (HO1.out.stored 72 _).2 (fun k hk _ => by simp; omega)
end Go.Proofs.Ytchfbanehohjoaa
