import Derived.Test.YtidkdifldlfhoaaSgf
import Derived.Deep.AppendLies
import Derived.Laws.OwnMore
namespace Go.Proofs.Ytidkdifldlfhoaa
open Go.RowKit
set_option linter.unusedVariables false
set_option linter.unusedSimpArgs false
abbrev metaC (v : Value) : Array Value := #[.string ⟨#[]⟩, .string ⟨#[]⟩, .string ⟨#[]⟩, .string ⟨#[]⟩, .int .i64 0, .int .u64 0, .int .i64 0, .int .i64 0, .int .i64 0, .string ⟨#[]⟩, .string ⟨#[]⟩, .slice none 0 0, .slice none 0 0, v, .bool false, .int .u64 0, .int .u64 0, .bool false, .int .i64 0, .int .u64 0, .int .u64 0, .int .i64 0, .int .i64 0, .bool false, .int .u64 0, .string ⟨#[]⟩, .slice none 0 0]
theorem info58 : (Try.prog.info? 58).map (fun i => (i.zero, i.size, i.bytes)) = some (some (.agg #[.int .i64 0, .int .i64 0, .int .i64 0, .int .i64 0, .string ⟨#[]⟩, .string ⟨#[]⟩, .int .i64 0, .int .i64 0, .int .i64 0]), 9, 88) := by kernel_rfl
theorem info60 : (Try.prog.info? 60).map (fun i => (i.zero, i.size, i.bytes)) = some (some (.agg #[.int .u64 0, .string ⟨#[]⟩, .string ⟨#[]⟩, .string ⟨#[]⟩, .string ⟨#[]⟩]), 5, 72) := by kernel_rfl
theorem info64 : (Try.prog.info? 64).map (fun i => (i.zero, i.size, i.bytes)) = some (some (.agg #[.int .i64 0, .string ⟨#[]⟩, .slice none 0 0, .string ⟨#[]⟩]), 4, 64) := by kernel_rfl
theorem news_new (w : World) (cs : Array Value) (t : TypeId) : ∀ j u, cs.toList[j]? = some u → (w.alloc (.cells cs t)).cell? ((⟨w.heap.size, 0, none⟩ : Addr).add j) = some u := by
  intro j u hj
  have hc : cs[j]? = some u := by simpa using hj
  have := rangeNew w cs t j u hc
  cases j with
  | zero => exact this
  | succ k =>
    have e : (⟨w.heap.size, 0, none⟩ : Addr).add (k + 1) = ⟨w.heap.size, k + 1, none⟩ := by simp [Addr.add]
    rw [e]
    exact this
theorem grown_trans {w w1 w2 : World} {g g' : Option Nat} (h1 : w.grownBy w1 g) (h2 : w1.grownBy w2 g') (hg : ∀ k, k < w.heap.size → some k ≠ g → some k ≠ g') : w.grownBy w2 g :=
  ⟨h2.os.trans h1.os, h2.tape.trans h1.tape, h2.output.trans h1.output, Nat.le_trans h1.size h2.size, fun k hk hne => (h2.block k (Nat.lt_of_lt_of_le hk h1.size) (hg k hk hne)).trans (h1.block k hk hne)⟩
theorem grown_refl (w : World) (g : Option Nat) : w.grownBy w g := ⟨rfl, rfl, rfl, Nat.le_refl _, fun _ _ _ => rfl⟩
/-- What a spoiling knows of a world: the metadata's block m, and that all else is as it was. -/
structure SpA (w u : World) (m : Nat) (v : Value) : Prop where
  c11 : u.cell? ⟨m, 11, none⟩ = some (.slice none 0 0)
  c12 : u.cell? ⟨m, 12, none⟩ = some (.slice none 0 0)
  c13 : u.cell? ⟨m, 13, none⟩ = some v
  c26 : u.cell? ⟨m, 26, none⟩ = some (.slice none 0 0)
  lt : m < u.heap.size
  gr : w.grownBy u v.ownBlock
theorem cell_grown {u u' : World} {b : Option Nat} {m o : Nat} {x : Value} (h : u.cell? ⟨m, o, none⟩ = some x) (g : u.grownBy u' b) (hm : m < u.heap.size) (hb : some m ≠ b) : u'.cell? ⟨m, o, none⟩ = some x := by
  have := g.block m hm hb
  simp only [World.cell?] at h ⊢
  rw [this]
  exact h
theorem SpA.step {w u u' : World} {m : Nat} {v : Value} {b : Option Nat} (h : SpA w u m v) (g : u.grownBy u' b) (hb : some m ≠ b) (hw : ∀ k, k < w.heap.size → some k ≠ v.ownBlock → some k ≠ b) : SpA w u' m v :=
  ⟨cell_grown h.c11 g h.lt hb, cell_grown h.c12 g h.lt hb, cell_grown h.c13 g h.lt hb, cell_grown h.c26 g h.lt hb, Nat.lt_of_lt_of_le h.lt g.size, grown_trans h.gr g hw⟩
theorem SpA.new (w : World) (v : Value) : SpA w (w.alloc (.cells (metaC v) 44)) w.heap.size v :=
  ⟨rangeNew _ _ _ _ _ rfl, rangeNew _ _ _ _ _ rfl, rangeNew _ _ _ _ _ rfl, rangeNew _ _ _ _ _ rfl, by simp, World.grownBy_alloc _ _ _⟩
set_option maxRecDepth 100000 in
set_option maxHeartbeats 8000000 in
theorem spoil_nil (w : World) :
    Calls Try.prog 9 #[.agg (metaC (.slice none 0 0))] w fun e w' => e = .returned (.tuple #[]) ∧ w.grownBy w' ((.slice none 0 0) : Value).ownBlock := by
  obtain ⟨i, hi, hi0, hi1, hi2⟩ := info_parts info58
  obtain ⟨j, hj, hj0, hj1, hj2⟩ := info_parts info60
  obtain ⟨p, hp, hp0, hp1, hp2⟩ := info_parts info53
  obtain ⟨q, hq, hq0, hq1, hq2⟩ := info_parts info64
  have HA := SpA.new w (.slice none 0 0)
  go_enter Try.func9, Try.ntmps9
  go_upto_region 1 with fail
  generalize w.alloc (.cells (metaC (.slice none 0 0)) 44) = u0 at *
  have c := HA.c11
  go_wp2
  go_loopw [2] (fun i wr => i = .int .i64 (0 : Nat) ∧ wr = u0) (fun i _ => 0)
  case atStart => exact ⟨rfl, rfl⟩
  case round =>
  obtain ⟨rfl, hw⟩ := hrel
  obtain rfl := hw.symm
  clear hw
  have d := HA.c12
  go_wp2
  go_loopw [3] (fun i wr => i = .int .i64 (0 : Nat) ∧ wr = u0) (fun i _ => 0)
  case atStart => exact ⟨rfl, rfl⟩
  case round =>
  obtain ⟨rfl, hw⟩ := hrel
  obtain rfl := hw.symm
  clear hw
  clear c
  have c := HA.c13
  go_wp2
  go_loopw [4] (fun i wr => i = .int .i64 (0 : Nat) ∧ wr = u0) (fun i _ => 0)
  case atStart => exact ⟨rfl, rfl⟩
  case round =>
  obtain ⟨rfl, hw⟩ := hrel
  obtain rfl := hw.symm
  clear hw
  have d := HA.c26
  go_wp2
  go_loopw [5] (fun i wr => i = .int .i64 (0 : Nat) ∧ wr = u0) (fun i _ => 0)
  case atStart => exact ⟨rfl, rfl⟩
  case round =>
  obtain ⟨rfl, hw⟩ := hrel
  obtain rfl := hw.symm
  clear hw c
  have HO : u0.ownsRow w.heap.size 53 3 (.slice none 0 0) 0 [] := World.ownsRow_nil _ _ _ _
  have hb0 : w.heap.size ≤ u0.heap.size := HA.gr.size
  have hne : some w.heap.size ≠ ((.slice none 0 0) : Value).ownBlock := by simp [Value.ownBlock]
  have hsz := HA.gr.size
  have hgm : w.heap.size < u0.heap.size := HA.lt
  have c := HA.c11
  have HQ : Hid (SpA w u0 w.heap.size (.slice none 0 0) ∧ u0.ownsRow w.heap.size 53 3 (.slice none 0 0) 0 []) := ⟨HA, HO⟩
  clear HA HO
  go_upto_region 19 with (at_builtin; go_must (refine wpList_append_lies _ rfl (.tmp 66) (.tmp 71) 40 rfl w.heap.size 58 i (.agg #[.int .i64 0, .int .i64 0, .int .i64 0, .int .i64 0, .string ⟨#[]⟩, .string ⟨#[]⟩, .int .i64 0, .int .i64 0, .int .i64 0]) 9 88 Try.underlying40 hi hi0 hi1 hi2 rfl (by decide) (.slice none 0 0) 0 [] rfl (World.ownsRow_nil _ _ _ _) ⟨u0.heap.size, 0, none⟩ 4 4 [.int .i64 (-8), .int .i64 0, .int .i64 0, .int .i64 0, .string ⟨#[]⟩, .string ⟨#[]⟩, .int .i64 0, .int .i64 0, .int .i64 0, .int .i64 (-9), .int .i64 0, .int .i64 0, .int .i64 0, .string ⟨#[]⟩, .string ⟨#[]⟩, .int .i64 0, .int .i64 0, .int .i64 0, .int .i64 0, .int .i64 0, .int .i64 0, .int .i64 0, .string ⟨#[]⟩, .string ⟨#[]⟩, .int .i64 0, .int .i64 0, .int .i64 0, .int .i64 0, .int .i64 0, .int .i64 0, .int .i64 0, .string ⟨#[]⟩, .string ⟨#[]⟩, .int .i64 0, .int .i64 0, .int .i64 0] rfl rfl (news_new _ _ _) (by simp [Value.oneCell']) (by decide) (by unfold maxLen; omega) (by omega) (by simp; omega) _ rfl ?_); intro g1 cap1 w1 own1 gr1 at1 lt1)
  have HQ1 : Hid (SpA w w1 w.heap.size (.slice none 0 0) ∧ w1.ownsRow w.heap.size 53 3 (.slice none 0 0) 0 [] ∧ w1.ownsRow w.heap.size 58 9 (.slice (some ⟨g1, 0, none⟩) (0 + 4) cap1) (0 + 4) ([] ++ [.int .i64 (-8), .int .i64 0, .int .i64 0, .int .i64 0, .string ⟨#[]⟩, .string ⟨#[]⟩, .int .i64 0, .int .i64 0, .int .i64 0, .int .i64 (-9), .int .i64 0, .int .i64 0, .int .i64 0, .string ⟨#[]⟩, .string ⟨#[]⟩, .int .i64 0, .int .i64 0, .int .i64 0, .int .i64 0, .int .i64 0, .int .i64 0, .int .i64 0, .string ⟨#[]⟩, .string ⟨#[]⟩, .int .i64 0, .int .i64 0, .int .i64 0, .int .i64 0, .int .i64 0, .int .i64 0, .int .i64 0, .string ⟨#[]⟩, .string ⟨#[]⟩, .int .i64 0, .int .i64 0, .int .i64 0]) ∧ u0.heap.size < g1) := by
    have a := HQ.out.1.step (World.grownBy_alloc u0 (.cells #[.int .i64 (-8), .int .i64 0, .int .i64 0, .int .i64 0, .string ⟨#[]⟩, .string ⟨#[]⟩, .int .i64 0, .int .i64 0, .int .i64 0, .int .i64 (-9), .int .i64 0, .int .i64 0, .int .i64 0, .string ⟨#[]⟩, .string ⟨#[]⟩, .int .i64 0, .int .i64 0, .int .i64 0, .int .i64 0, .int .i64 0, .int .i64 0, .int .i64 0, .string ⟨#[]⟩, .string ⟨#[]⟩, .int .i64 0, .int .i64 0, .int .i64 0, .int .i64 0, .int .i64 0, .int .i64 0, .int .i64 0, .string ⟨#[]⟩, .string ⟨#[]⟩, .int .i64 0, .int .i64 0, .int .i64 0] 58) none) (by simp) (by simp)
    refine ⟨a.step gr1 (by simp [Value.ownBlock]) (by simp [Value.ownBlock]), (HQ.out.2.alloc _).kept gr1 (.inl rfl), own1, ?_⟩
    rcases at1 with h | h
    · cases h
    · rw [h]; simp
  clear HQ own1 gr1 at1 c d
  have hs1 := HQ1.out.1.gr.size
  have hm1 := HQ1.out.1.lt
  have c := HQ1.out.1.c12
  go_upto_region 20 with (at_builtin; go_must (refine wpList_append_lies _ rfl (.tmp 74) (.tmp 79) 41 rfl w.heap.size 60 j (.agg #[.int .u64 0, .string ⟨#[]⟩, .string ⟨#[]⟩, .string ⟨#[]⟩, .string ⟨#[]⟩]) 5 72 Try.underlying41 hj hj0 hj1 hj2 rfl (by decide) (.slice none 0 0) 0 [] rfl (World.ownsRow_nil _ _ _ _) ⟨w1.heap.size, 0, none⟩ 4 4 [.int .u64 78, .string ⟨#[]⟩, .string ⟨#[]⟩, .string ⟨#[]⟩, .string ⟨#[]⟩, .int .u64 79, .string ⟨#[]⟩, .string ⟨#[]⟩, .string ⟨#[]⟩, .string ⟨#[]⟩, .int .u64 0, .string ⟨#[]⟩, .string ⟨#[]⟩, .string ⟨#[]⟩, .string ⟨#[]⟩, .int .u64 0, .string ⟨#[]⟩, .string ⟨#[]⟩, .string ⟨#[]⟩, .string ⟨#[]⟩] rfl rfl (news_new _ _ _) (by simp [Value.oneCell']) (by decide) (by unfold maxLen; omega) (by omega) (by simp; omega) _ rfl ?_); intro g2 cap2 w2 own2 gr2 at2 lt2)
  have HQ2 : Hid (SpA w w2 w.heap.size (.slice none 0 0) ∧ w2.ownsRow w.heap.size 53 3 (.slice none 0 0) 0 [] ∧ w2.ownsRow w.heap.size 58 9 (.slice (some ⟨g1, 0, none⟩) (0 + 4) cap1) (0 + 4) ([] ++ [.int .i64 (-8), .int .i64 0, .int .i64 0, .int .i64 0, .string ⟨#[]⟩, .string ⟨#[]⟩, .int .i64 0, .int .i64 0, .int .i64 0, .int .i64 (-9), .int .i64 0, .int .i64 0, .int .i64 0, .string ⟨#[]⟩, .string ⟨#[]⟩, .int .i64 0, .int .i64 0, .int .i64 0, .int .i64 0, .int .i64 0, .int .i64 0, .int .i64 0, .string ⟨#[]⟩, .string ⟨#[]⟩, .int .i64 0, .int .i64 0, .int .i64 0, .int .i64 0, .int .i64 0, .int .i64 0, .int .i64 0, .string ⟨#[]⟩, .string ⟨#[]⟩, .int .i64 0, .int .i64 0, .int .i64 0]) ∧ u0.heap.size < g1) := by
    have a := HQ1.out.1.step (World.grownBy_alloc w1 (.cells #[.int .u64 78, .string ⟨#[]⟩, .string ⟨#[]⟩, .string ⟨#[]⟩, .string ⟨#[]⟩, .int .u64 79, .string ⟨#[]⟩, .string ⟨#[]⟩, .string ⟨#[]⟩, .string ⟨#[]⟩, .int .u64 0, .string ⟨#[]⟩, .string ⟨#[]⟩, .string ⟨#[]⟩, .string ⟨#[]⟩, .int .u64 0, .string ⟨#[]⟩, .string ⟨#[]⟩, .string ⟨#[]⟩, .string ⟨#[]⟩] 60) none) (by simp) (by simp)
    exact ⟨a.step gr2 (by simp [Value.ownBlock]) (by simp [Value.ownBlock]), (HQ1.out.2.1.alloc _).kept gr2 (.inl rfl), (HQ1.out.2.2.1.alloc _).kept gr2 (.inr (by simp [Value.ownBlock])), HQ1.out.2.2.2⟩
  clear HQ1 own2 gr2 at2 c hs1 hm1
  have hs2 := HQ2.out.1.gr.size
  have hm2 := HQ2.out.1.lt
  have c := HQ2.out.1.c13
  go_upto_region 21 with (at_builtin; go_must (refine wpList_append_lies _ rfl (.tmp 82) (.tmp 87) 27 rfl w.heap.size 53 p (.agg #[.int .u64 0, .int .u64 0, .int .u64 0]) 3 24 Try.underlying27 hp hp0 hp1 hp2 rfl (by decide) (.slice none 0 0) 0 [] rfl (HQ2.out.2.1.alloc _) ⟨w2.heap.size, 0, none⟩ 4 4 [.int .u64 0, .int .u64 0, .int .u64 778, .int .u64 0, .int .u64 0, .int .u64 779, .int .u64 0, .int .u64 0, .int .u64 0, .int .u64 0, .int .u64 0, .int .u64 0] rfl rfl (news_new _ _ _) (by simp [Value.oneCell']) (by decide) (by unfold maxLen; omega) (by omega) (by simp; omega) _ rfl ?_); intro g3 cap3 w3 own3 gr3 at3 lt3)
  have HQ3 : Hid (SpA w w3 w.heap.size (.slice none 0 0) ∧ w3.ownsRow w.heap.size 58 9 (.slice (some ⟨g1, 0, none⟩) (0 + 4) cap1) (0 + 4) ([] ++ [.int .i64 (-8), .int .i64 0, .int .i64 0, .int .i64 0, .string ⟨#[]⟩, .string ⟨#[]⟩, .int .i64 0, .int .i64 0, .int .i64 0, .int .i64 (-9), .int .i64 0, .int .i64 0, .int .i64 0, .string ⟨#[]⟩, .string ⟨#[]⟩, .int .i64 0, .int .i64 0, .int .i64 0, .int .i64 0, .int .i64 0, .int .i64 0, .int .i64 0, .string ⟨#[]⟩, .string ⟨#[]⟩, .int .i64 0, .int .i64 0, .int .i64 0, .int .i64 0, .int .i64 0, .int .i64 0, .int .i64 0, .string ⟨#[]⟩, .string ⟨#[]⟩, .int .i64 0, .int .i64 0, .int .i64 0]) ∧ u0.heap.size < g1) := by
    have a := HQ2.out.1.step (World.grownBy_alloc w2 (.cells #[.int .u64 0, .int .u64 0, .int .u64 778, .int .u64 0, .int .u64 0, .int .u64 779, .int .u64 0, .int .u64 0, .int .u64 0, .int .u64 0, .int .u64 0, .int .u64 0] 53) none) (by simp) (by simp)
    have hg := HQ2.out.2.2.2
    exact ⟨a.step gr3 hne (fun _ _ h => h), (HQ2.out.2.2.1.alloc _).kept gr3 (.inr (by simp [Value.ownBlock] <;> omega)), hg⟩
  clear HQ2 own3 gr3 at3 c hs2 hm2
  have hs3 := HQ3.out.1.gr.size
  have hm3 := HQ3.out.1.lt
  have c := HQ3.out.1.c26
  go_upto_region 22 with (at_builtin; go_must (refine wpList_append_lies _ rfl (.tmp 90) (.tmp 95) 42 rfl w.heap.size 64 q (.agg #[.int .i64 0, .string ⟨#[]⟩, .slice none 0 0, .string ⟨#[]⟩]) 4 64 Try.underlying42 hq hq0 hq1 hq2 rfl (by decide) (.slice none 0 0) 0 [] rfl (World.ownsRow_nil _ _ _ _) ⟨w3.heap.size, 0, none⟩ 4 4 [.int .i64 (-8), .string ⟨#[]⟩, .slice none 0 0, .string ⟨#[]⟩, .int .i64 (-9), .string ⟨#[]⟩, .slice none 0 0, .string ⟨#[]⟩, .int .i64 0, .string ⟨#[]⟩, .slice none 0 0, .string ⟨#[]⟩, .int .i64 0, .string ⟨#[]⟩, .slice none 0 0, .string ⟨#[]⟩] rfl rfl (news_new _ _ _) (by simp [Value.oneCell']) (by decide) (by unfold maxLen; omega) (by omega) (by simp; omega) _ rfl ?_); intro g4 cap4 w4 own4 gr4 at4 lt4)
  have HQ4 : Hid (SpA w w4 w.heap.size (.slice none 0 0) ∧ w4.ownsRow w.heap.size 58 9 (.slice (some ⟨g1, 0, none⟩) (0 + 4) cap1) (0 + 4) ([] ++ [.int .i64 (-8), .int .i64 0, .int .i64 0, .int .i64 0, .string ⟨#[]⟩, .string ⟨#[]⟩, .int .i64 0, .int .i64 0, .int .i64 0, .int .i64 (-9), .int .i64 0, .int .i64 0, .int .i64 0, .string ⟨#[]⟩, .string ⟨#[]⟩, .int .i64 0, .int .i64 0, .int .i64 0, .int .i64 0, .int .i64 0, .int .i64 0, .int .i64 0, .string ⟨#[]⟩, .string ⟨#[]⟩, .int .i64 0, .int .i64 0, .int .i64 0, .int .i64 0, .int .i64 0, .int .i64 0, .int .i64 0, .string ⟨#[]⟩, .string ⟨#[]⟩, .int .i64 0, .int .i64 0, .int .i64 0]) ∧ u0.heap.size < g1) := by
    have a := HQ3.out.1.step (World.grownBy_alloc w3 (.cells #[.int .i64 (-8), .string ⟨#[]⟩, .slice none 0 0, .string ⟨#[]⟩, .int .i64 (-9), .string ⟨#[]⟩, .slice none 0 0, .string ⟨#[]⟩, .int .i64 0, .string ⟨#[]⟩, .slice none 0 0, .string ⟨#[]⟩, .int .i64 0, .string ⟨#[]⟩, .slice none 0 0, .string ⟨#[]⟩] 64) none) (by simp) (by simp)
    exact ⟨a.step gr4 (by simp [Value.ownBlock]) (by simp [Value.ownBlock]), (HQ3.out.2.1.alloc _).kept gr4 (.inr (by simp [Value.ownBlock])), HQ3.out.2.2⟩
  clear HQ3 own4 gr4 at4 c hs3 hm3
  have hcell : w4.cell? ⟨g1, 27, none⟩ = some (.int .i64 0) := HQ4.out.2.1.cellAt 27 (by omega)
  have hfr : w4.frozen? ⟨g1, 27, none⟩ = false := HQ4.out.2.1.frozenAt 27
  go_wp2
  go_end0
  refine ⟨rfl, ?_⟩
  have hst := HQ4.out.2.1.stored 27
  exact grown_trans HQ4.out.1.gr (hst _).2 (fun k hk _ => by have := HQ4.out.2.2; simp; omega)
set_option maxRecDepth 100000 in
set_option maxHeartbeats 8000000 in
theorem spoil_some (b g n cap : Nat) (xs : List Value) (w : World) (hn1 : n ≤ 1000) (hbw : b ≤ w.heap.size) (hlt : g < w.heap.size) (hown : w.ownsRow b 53 3 (.slice (some ⟨g, 0, none⟩) n cap) n xs) :
    Calls Try.prog 9 #[.agg (metaC (.slice (some ⟨g, 0, none⟩) n cap))] w fun e w' => e = .returned (.tuple #[]) ∧ w.grownBy w' ((.slice (some ⟨g, 0, none⟩) n cap) : Value).ownBlock := by
  obtain ⟨i, hi, hi0, hi1, hi2⟩ := info_parts info58
  obtain ⟨j, hj, hj0, hj1, hj2⟩ := info_parts info60
  obtain ⟨p, hp, hp0, hp1, hp2⟩ := info_parts info53
  obtain ⟨q, hq, hq0, hq1, hq2⟩ := info_parts info64
  have HA := SpA.new w (.slice (some ⟨g, 0, none⟩) n cap)
  have HO : (w.alloc (.cells (metaC (.slice (some ⟨g, 0, none⟩) n cap)) 44)).ownsRow b 53 3 (.slice (some ⟨g, 0, none⟩) n cap) n xs := hown.alloc _
  go_enter Try.func9, Try.ntmps9
  go_upto_region 1 with fail
  generalize w.alloc (.cells (metaC (.slice (some ⟨g, 0, none⟩) n cap)) 44) = u0 at *
  have c := HA.c11
  go_wp2
  go_loopw [2] (fun i wr => i = .int .i64 (0 : Nat) ∧ wr = u0) (fun i _ => 0)
  case atStart => exact ⟨rfl, rfl⟩
  case round =>
  obtain ⟨rfl, hw⟩ := hrel
  obtain rfl := hw.symm
  clear hw
  have d := HA.c12
  go_wp2
  go_loopw [3] (fun i wr => i = .int .i64 (0 : Nat) ∧ wr = u0) (fun i _ => 0)
  case atStart => exact ⟨rfl, rfl⟩
  case round =>
  obtain ⟨rfl, hw⟩ := hrel
  obtain rfl := hw.symm
  clear hw
  clear c
  have c := HA.c13
  go_wp2
  go_loopw [4] (fun i wr => ∃ k : Nat, k ≤ n ∧ i = .int .i64 (k : Nat) ∧ SpA w wr w.heap.size (.slice (some ⟨g, 0, none⟩) n cap) ∧ ∃ ys, wr.ownsRow b 53 3 (.slice (some ⟨g, 0, none⟩) n cap) n ys) (fun i _ => n - (intOf i).toNat)
  case atStart => exact ⟨0, by omega, rfl, HA, _, HO⟩
  case round =>
  obtain ⟨k, hk, rfl, HA1, ys, HO1⟩ := hrel
  clear HA HO c d
  have c := HA1.c13
  by_cases hlt2 : k < n
  · have hcl : ys.length = n * 3 := HO1.1
    obtain ⟨y, hy⟩ : ∃ y, ys[k * 3 + 2]? = some y := ⟨ys[k * 3 + 2]'(by omega), List.getElem?_eq_getElem _⟩
    have hcell : wr.cell? ⟨g, k * 3 + 2, none⟩ = some y := by rw [HO1.cellAt (k * 3 + 2) (by omega), hy]
    have hfr : wr.frozen? ⟨g, k * 3 + 2, none⟩ = false := HO1.frozenAt _
    have HQ : Hid (SpA w wr w.heap.size (.slice (some ⟨g, 0, none⟩) n cap) ∧ wr.ownsRow b 53 3 (.slice (some ⟨g, 0, none⟩) n cap) n ys) := ⟨HA1, HO1⟩
    clear HA1 HO1 hy hcl
    go_wp2
    have hst := HQ.out.2.stored (k * 3 + 2) (.int .u64 777)
    have HR : Hid (SpA w (wr.setCell ⟨g, k * 3 + 2, none⟩ (.int .u64 777)) w.heap.size (.slice (some ⟨g, 0, none⟩) n cap) ∧ (wr.setCell ⟨g, k * 3 + 2, none⟩ (.int .u64 777)).ownsRow b 53 3 (.slice (some ⟨g, 0, none⟩) n cap) n (ys.set (k * 3 + 2) (.int .u64 777))) := ⟨HQ.out.1.step hst.2 (by simp; omega) (fun _ _ h => h), hst.1⟩
    clear hst HQ
    go_roundw
    case rel => exact ⟨k + 1, by omega, by go_num, HR.out.1, _, HR.out.2⟩
    case measure => simp [intOf]; omega
  obtain rfl : n = k := by omega
  clear hlt2
  have d := HA1.c26
  go_wp2
  go_loopw [5] (fun i wr' => i = .int .i64 (0 : Nat) ∧ wr' = wr) (fun i _ => 0)
  case atStart => exact ⟨rfl, rfl⟩
  case round =>
  obtain ⟨rfl, hw⟩ := hrel
  obtain rfl := hw.symm
  clear hw c
  have hne : some w.heap.size ≠ ((.slice (some ⟨g, 0, none⟩) n cap) : Value).ownBlock := by simp [Value.ownBlock]; omega
  have hsz := HA1.gr.size
  have hgm : w.heap.size < wr.heap.size := HA1.lt
  have c := HA1.c11
  have HQ : Hid (SpA w wr w.heap.size (.slice (some ⟨g, 0, none⟩) n cap) ∧ wr.ownsRow b 53 3 (.slice (some ⟨g, 0, none⟩) n cap) n ys) := ⟨HA1, HO1⟩
  clear HA1 HO1
  go_upto_region 19 with (at_builtin; go_must (refine wpList_append_lies _ rfl (.tmp 66) (.tmp 71) 40 rfl w.heap.size 58 i (.agg #[.int .i64 0, .int .i64 0, .int .i64 0, .int .i64 0, .string ⟨#[]⟩, .string ⟨#[]⟩, .int .i64 0, .int .i64 0, .int .i64 0]) 9 88 Try.underlying40 hi hi0 hi1 hi2 rfl (by decide) (.slice none 0 0) 0 [] rfl (World.ownsRow_nil _ _ _ _) ⟨wr.heap.size, 0, none⟩ 4 4 [.int .i64 (-8), .int .i64 0, .int .i64 0, .int .i64 0, .string ⟨#[]⟩, .string ⟨#[]⟩, .int .i64 0, .int .i64 0, .int .i64 0, .int .i64 (-9), .int .i64 0, .int .i64 0, .int .i64 0, .string ⟨#[]⟩, .string ⟨#[]⟩, .int .i64 0, .int .i64 0, .int .i64 0, .int .i64 0, .int .i64 0, .int .i64 0, .int .i64 0, .string ⟨#[]⟩, .string ⟨#[]⟩, .int .i64 0, .int .i64 0, .int .i64 0, .int .i64 0, .int .i64 0, .int .i64 0, .int .i64 0, .string ⟨#[]⟩, .string ⟨#[]⟩, .int .i64 0, .int .i64 0, .int .i64 0] rfl rfl (news_new _ _ _) (by simp [Value.oneCell']) (by decide) (by unfold maxLen; omega) (by omega) (by simp; omega) _ rfl ?_); intro g1 cap1 w1 own1 gr1 at1 lt1)
  have HQ1 : Hid (SpA w w1 w.heap.size (.slice (some ⟨g, 0, none⟩) n cap) ∧ w1.ownsRow b 53 3 (.slice (some ⟨g, 0, none⟩) n cap) n ys ∧ w1.ownsRow w.heap.size 58 9 (.slice (some ⟨g1, 0, none⟩) (0 + 4) cap1) (0 + 4) ([] ++ [.int .i64 (-8), .int .i64 0, .int .i64 0, .int .i64 0, .string ⟨#[]⟩, .string ⟨#[]⟩, .int .i64 0, .int .i64 0, .int .i64 0, .int .i64 (-9), .int .i64 0, .int .i64 0, .int .i64 0, .string ⟨#[]⟩, .string ⟨#[]⟩, .int .i64 0, .int .i64 0, .int .i64 0, .int .i64 0, .int .i64 0, .int .i64 0, .int .i64 0, .string ⟨#[]⟩, .string ⟨#[]⟩, .int .i64 0, .int .i64 0, .int .i64 0, .int .i64 0, .int .i64 0, .int .i64 0, .int .i64 0, .string ⟨#[]⟩, .string ⟨#[]⟩, .int .i64 0, .int .i64 0, .int .i64 0]) ∧ wr.heap.size < g1) := by
    have a := HQ.out.1.step (World.grownBy_alloc wr (.cells #[.int .i64 (-8), .int .i64 0, .int .i64 0, .int .i64 0, .string ⟨#[]⟩, .string ⟨#[]⟩, .int .i64 0, .int .i64 0, .int .i64 0, .int .i64 (-9), .int .i64 0, .int .i64 0, .int .i64 0, .string ⟨#[]⟩, .string ⟨#[]⟩, .int .i64 0, .int .i64 0, .int .i64 0, .int .i64 0, .int .i64 0, .int .i64 0, .int .i64 0, .string ⟨#[]⟩, .string ⟨#[]⟩, .int .i64 0, .int .i64 0, .int .i64 0, .int .i64 0, .int .i64 0, .int .i64 0, .int .i64 0, .string ⟨#[]⟩, .string ⟨#[]⟩, .int .i64 0, .int .i64 0, .int .i64 0] 58) none) (by simp) (by simp)
    refine ⟨a.step gr1 (by simp [Value.ownBlock]) (by simp [Value.ownBlock]), (HQ.out.2.alloc _).kept gr1 (.inr (by simp [Value.ownBlock])), own1, ?_⟩
    rcases at1 with h | h
    · cases h
    · rw [h]; simp
  clear HQ own1 gr1 at1 c d
  have hs1 := HQ1.out.1.gr.size
  have hm1 := HQ1.out.1.lt
  have c := HQ1.out.1.c12
  go_upto_region 20 with (at_builtin; go_must (refine wpList_append_lies _ rfl (.tmp 74) (.tmp 79) 41 rfl w.heap.size 60 j (.agg #[.int .u64 0, .string ⟨#[]⟩, .string ⟨#[]⟩, .string ⟨#[]⟩, .string ⟨#[]⟩]) 5 72 Try.underlying41 hj hj0 hj1 hj2 rfl (by decide) (.slice none 0 0) 0 [] rfl (World.ownsRow_nil _ _ _ _) ⟨w1.heap.size, 0, none⟩ 4 4 [.int .u64 78, .string ⟨#[]⟩, .string ⟨#[]⟩, .string ⟨#[]⟩, .string ⟨#[]⟩, .int .u64 79, .string ⟨#[]⟩, .string ⟨#[]⟩, .string ⟨#[]⟩, .string ⟨#[]⟩, .int .u64 0, .string ⟨#[]⟩, .string ⟨#[]⟩, .string ⟨#[]⟩, .string ⟨#[]⟩, .int .u64 0, .string ⟨#[]⟩, .string ⟨#[]⟩, .string ⟨#[]⟩, .string ⟨#[]⟩] rfl rfl (news_new _ _ _) (by simp [Value.oneCell']) (by decide) (by unfold maxLen; omega) (by omega) (by simp; omega) _ rfl ?_); intro g2 cap2 w2 own2 gr2 at2 lt2)
  have HQ2 : Hid (SpA w w2 w.heap.size (.slice (some ⟨g, 0, none⟩) n cap) ∧ w2.ownsRow b 53 3 (.slice (some ⟨g, 0, none⟩) n cap) n ys ∧ w2.ownsRow w.heap.size 58 9 (.slice (some ⟨g1, 0, none⟩) (0 + 4) cap1) (0 + 4) ([] ++ [.int .i64 (-8), .int .i64 0, .int .i64 0, .int .i64 0, .string ⟨#[]⟩, .string ⟨#[]⟩, .int .i64 0, .int .i64 0, .int .i64 0, .int .i64 (-9), .int .i64 0, .int .i64 0, .int .i64 0, .string ⟨#[]⟩, .string ⟨#[]⟩, .int .i64 0, .int .i64 0, .int .i64 0, .int .i64 0, .int .i64 0, .int .i64 0, .int .i64 0, .string ⟨#[]⟩, .string ⟨#[]⟩, .int .i64 0, .int .i64 0, .int .i64 0, .int .i64 0, .int .i64 0, .int .i64 0, .int .i64 0, .string ⟨#[]⟩, .string ⟨#[]⟩, .int .i64 0, .int .i64 0, .int .i64 0]) ∧ wr.heap.size < g1) := by
    have a := HQ1.out.1.step (World.grownBy_alloc w1 (.cells #[.int .u64 78, .string ⟨#[]⟩, .string ⟨#[]⟩, .string ⟨#[]⟩, .string ⟨#[]⟩, .int .u64 79, .string ⟨#[]⟩, .string ⟨#[]⟩, .string ⟨#[]⟩, .string ⟨#[]⟩, .int .u64 0, .string ⟨#[]⟩, .string ⟨#[]⟩, .string ⟨#[]⟩, .string ⟨#[]⟩, .int .u64 0, .string ⟨#[]⟩, .string ⟨#[]⟩, .string ⟨#[]⟩, .string ⟨#[]⟩] 60) none) (by simp) (by simp)
    exact ⟨a.step gr2 (by simp [Value.ownBlock]) (by simp [Value.ownBlock]), (HQ1.out.2.1.alloc _).kept gr2 (.inr (by simp [Value.ownBlock])), (HQ1.out.2.2.1.alloc _).kept gr2 (.inr (by simp [Value.ownBlock])), HQ1.out.2.2.2⟩
  clear HQ1 own2 gr2 at2 c hs1 hm1
  have hs2 := HQ2.out.1.gr.size
  have hm2 := HQ2.out.1.lt
  have c := HQ2.out.1.c13
  go_upto_region 21 with (at_builtin; go_must (refine wpList_append_lies _ rfl (.tmp 82) (.tmp 87) 27 rfl b 53 p (.agg #[.int .u64 0, .int .u64 0, .int .u64 0]) 3 24 Try.underlying27 hp hp0 hp1 hp2 rfl (by decide) (.slice (some ⟨g, 0, none⟩) n cap) n ys rfl (HQ2.out.2.1.alloc _) ⟨w2.heap.size, 0, none⟩ 4 4 [.int .u64 0, .int .u64 0, .int .u64 778, .int .u64 0, .int .u64 0, .int .u64 779, .int .u64 0, .int .u64 0, .int .u64 0, .int .u64 0, .int .u64 0, .int .u64 0] rfl rfl (news_new _ _ _) (by simp [Value.oneCell']) (by decide) (by unfold maxLen; omega) (by omega) (by simp; omega) _ rfl ?_); intro g3 cap3 w3 own3 gr3 at3 lt3)
  have HQ3 : Hid (SpA w w3 w.heap.size (.slice (some ⟨g, 0, none⟩) n cap) ∧ w3.ownsRow w.heap.size 58 9 (.slice (some ⟨g1, 0, none⟩) (0 + 4) cap1) (0 + 4) ([] ++ [.int .i64 (-8), .int .i64 0, .int .i64 0, .int .i64 0, .string ⟨#[]⟩, .string ⟨#[]⟩, .int .i64 0, .int .i64 0, .int .i64 0, .int .i64 (-9), .int .i64 0, .int .i64 0, .int .i64 0, .string ⟨#[]⟩, .string ⟨#[]⟩, .int .i64 0, .int .i64 0, .int .i64 0, .int .i64 0, .int .i64 0, .int .i64 0, .int .i64 0, .string ⟨#[]⟩, .string ⟨#[]⟩, .int .i64 0, .int .i64 0, .int .i64 0, .int .i64 0, .int .i64 0, .int .i64 0, .int .i64 0, .string ⟨#[]⟩, .string ⟨#[]⟩, .int .i64 0, .int .i64 0, .int .i64 0]) ∧ wr.heap.size < g1) := by
    have a := HQ2.out.1.step (World.grownBy_alloc w2 (.cells #[.int .u64 0, .int .u64 0, .int .u64 778, .int .u64 0, .int .u64 0, .int .u64 779, .int .u64 0, .int .u64 0, .int .u64 0, .int .u64 0, .int .u64 0, .int .u64 0] 53) none) (by simp) (by simp)
    have hg := HQ2.out.2.2.2
    exact ⟨a.step gr3 hne (fun _ _ h => h), (HQ2.out.2.2.1.alloc _).kept gr3 (.inr (by simp [Value.ownBlock] <;> omega)), hg⟩
  clear HQ2 own3 gr3 at3 c hs2 hm2
  have hs3 := HQ3.out.1.gr.size
  have hm3 := HQ3.out.1.lt
  have c := HQ3.out.1.c26
  go_upto_region 22 with (at_builtin; go_must (refine wpList_append_lies _ rfl (.tmp 90) (.tmp 95) 42 rfl w.heap.size 64 q (.agg #[.int .i64 0, .string ⟨#[]⟩, .slice none 0 0, .string ⟨#[]⟩]) 4 64 Try.underlying42 hq hq0 hq1 hq2 rfl (by decide) (.slice none 0 0) 0 [] rfl (World.ownsRow_nil _ _ _ _) ⟨w3.heap.size, 0, none⟩ 4 4 [.int .i64 (-8), .string ⟨#[]⟩, .slice none 0 0, .string ⟨#[]⟩, .int .i64 (-9), .string ⟨#[]⟩, .slice none 0 0, .string ⟨#[]⟩, .int .i64 0, .string ⟨#[]⟩, .slice none 0 0, .string ⟨#[]⟩, .int .i64 0, .string ⟨#[]⟩, .slice none 0 0, .string ⟨#[]⟩] rfl rfl (news_new _ _ _) (by simp [Value.oneCell']) (by decide) (by unfold maxLen; omega) (by omega) (by simp; omega) _ rfl ?_); intro g4 cap4 w4 own4 gr4 at4 lt4)
  have HQ4 : Hid (SpA w w4 w.heap.size (.slice (some ⟨g, 0, none⟩) n cap) ∧ w4.ownsRow w.heap.size 58 9 (.slice (some ⟨g1, 0, none⟩) (0 + 4) cap1) (0 + 4) ([] ++ [.int .i64 (-8), .int .i64 0, .int .i64 0, .int .i64 0, .string ⟨#[]⟩, .string ⟨#[]⟩, .int .i64 0, .int .i64 0, .int .i64 0, .int .i64 (-9), .int .i64 0, .int .i64 0, .int .i64 0, .string ⟨#[]⟩, .string ⟨#[]⟩, .int .i64 0, .int .i64 0, .int .i64 0, .int .i64 0, .int .i64 0, .int .i64 0, .int .i64 0, .string ⟨#[]⟩, .string ⟨#[]⟩, .int .i64 0, .int .i64 0, .int .i64 0, .int .i64 0, .int .i64 0, .int .i64 0, .int .i64 0, .string ⟨#[]⟩, .string ⟨#[]⟩, .int .i64 0, .int .i64 0, .int .i64 0]) ∧ wr.heap.size < g1) := by
    have a := HQ3.out.1.step (World.grownBy_alloc w3 (.cells #[.int .i64 (-8), .string ⟨#[]⟩, .slice none 0 0, .string ⟨#[]⟩, .int .i64 (-9), .string ⟨#[]⟩, .slice none 0 0, .string ⟨#[]⟩, .int .i64 0, .string ⟨#[]⟩, .slice none 0 0, .string ⟨#[]⟩, .int .i64 0, .string ⟨#[]⟩, .slice none 0 0, .string ⟨#[]⟩] 64) none) (by simp) (by simp)
    exact ⟨a.step gr4 (by simp [Value.ownBlock]) (by simp [Value.ownBlock]), (HQ3.out.2.1.alloc _).kept gr4 (.inr (by simp [Value.ownBlock])), HQ3.out.2.2⟩
  clear HQ3 own4 gr4 at4 c hs3 hm3
  have hcell : w4.cell? ⟨g1, 27, none⟩ = some (.int .i64 0) := HQ4.out.2.1.cellAt 27 (by omega)
  have hfr : w4.frozen? ⟨g1, 27, none⟩ = false := HQ4.out.2.1.frozenAt 27
  go_wp2
  go_end0
  refine ⟨rfl, ?_⟩
  have hst := HQ4.out.2.1.stored 27
  exact grown_trans HQ4.out.1.gr (hst _).2 (fun k hk _ => by have := HQ4.out.2.2; simp; omega)
end Go.Proofs.Ytidkdifldlfhoaa
