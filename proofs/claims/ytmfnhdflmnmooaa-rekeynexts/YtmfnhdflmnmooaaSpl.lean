import Derived.Test.YtmfnhdflmnmooaaWho
import Derived.Laws.OwnMore
namespace Go.Proofs.Ytmfnhdflmnmooaa
open Go.RowKit
set_option linter.unusedVariables false
set_option linter.unusedSimpArgs false
abbrev metaC (v : Value) : Array Value := #[.string ⟨#[]⟩, .string ⟨#[]⟩, .string ⟨#[]⟩, .string ⟨#[]⟩, .int .i64 0, .int .u64 0, .int .i64 0, .int .i64 0, .int .i64 0, .string ⟨#[]⟩, .string ⟨#[]⟩, .slice none 0 0, .slice none 0 0, v, .bool false, .int .u64 0, .int .u64 0, .bool false, .int .i64 0, .int .u64 0, .int .u64 0, .int .i64 0, .int .i64 0, .bool false, .int .u64 0, .string ⟨#[]⟩, .slice none 0 0]
theorem news_new (w : World) (cs : Array Value) (t : TypeId) : ∀ j u, cs.toList[j]? = some u → (w.alloc (.cells cs t)).cell? ((⟨w.heap.size, 0, none⟩ : Addr).add j) = some u := by
  intro j u hj
  have hc : cs[j]? = some u := by simpa using hj
  have := rangeAt_new w cs t j u hc
  rw [Addr.add_mid, Nat.zero_add]
  exact this
/-- Rows of unlike elements lie in unlike blocks. -/
theorem own_apart {u : World} {B1 e1 s1 n1 B2 e2 s2 n2 : Nat} {v1 v2 : Value} {x1 x2 : List Value} (h1 : u.ownsRow B1 e1 s1 v1 n1 x1) (h2 : u.ownsRow B2 e2 s2 v2 n2 x2) (he : e1 ≠ e2) : v1.ownBlock = none ∨ v1.ownBlock ≠ v2.ownBlock := by
  rcases h1.2 with ⟨rfl, _⟩ | ⟨g, c, cur, rfl, _, hh, _⟩
  · exact .inl rfl
  · rcases h2.2 with ⟨rfl, _⟩ | ⟨g', c', cur', rfl, _, hh', _⟩
    · exact .inr (by simp [Value.ownBlock])
    · refine .inr ?_
      intro h
      simp only [Value.ownBlock, Option.some.injEq] at h
      subst h
      rw [hh] at hh'
      simp at hh'
      exact he hh'.2
/-- What is known between two appends: four rows. -/
structure SpB (w u : World) (b : Nat) (blk : Option Nat) (k1 k2 n3 k4 : Nat) (sl ep sg tk : Value) : Prop where
  o1 : ∃ xs, u.ownsRow w.heap.size 63 9 sl k1 xs
  o2 : ∃ xs, u.ownsRow w.heap.size 38 5 ep k2 xs
  o3 : ∃ xs, u.ownsRow b 65 3 sg n3 xs
  o4 : ∃ xs, u.ownsRow w.heap.size 61 4 tk k4 xs
  gr : w.grownBy u blk
  a3 : ∀ q, sg.ownBlock = some q → some q = blk ∨ w.heap.size ≤ q
theorem SpB.s1 {w u u' : World} {b : Nat} {blk : Option Nat} {k1 k2 n3 k4 k : Nat} {sl ep sg tk sl' : Value} {xs : List Value} (h : SpB w u b blk k1 k2 n3 k4 sl ep sg tk) (o : Obj) (g : (u.alloc o).grownBy u' sl.ownBlock) (n : u'.ownsRow w.heap.size 63 9 sl' k xs) : SpB w u' b blk k k2 n3 k4 sl' ep sg tk := by
  obtain ⟨⟨x1, o1⟩, ⟨x2, o2⟩, ⟨x3, o3⟩, ⟨x4, o4⟩, gr, a3⟩ := h
  have p := o1.alloc o
  refine ⟨⟨_, n⟩, ⟨_, (o2.alloc o).kept g (own_apart (o2.alloc o) p (by decide))⟩, ⟨_, (o3.alloc o).kept g (own_apart (o3.alloc o) p (by decide))⟩, ⟨_, (o4.alloc o).kept g (own_apart (o4.alloc o) p (by decide))⟩, ?_, a3⟩
  exact grown_trans (grown_trans gr (World.grownBy_alloc u o none) (fun _ _ _ => by simp)) g (fun q hq _ e => by have := (o1.lt q e.symm).1; omega)
theorem SpB.s2 {w u u' : World} {b : Nat} {blk : Option Nat} {k1 k2 n3 k4 k : Nat} {sl ep sg tk ep' : Value} {xs : List Value} (h : SpB w u b blk k1 k2 n3 k4 sl ep sg tk) (o : Obj) (g : (u.alloc o).grownBy u' ep.ownBlock) (n : u'.ownsRow w.heap.size 38 5 ep' k xs) : SpB w u' b blk k1 k n3 k4 sl ep' sg tk := by
  obtain ⟨⟨x1, o1⟩, ⟨x2, o2⟩, ⟨x3, o3⟩, ⟨x4, o4⟩, gr, a3⟩ := h
  have p := o2.alloc o
  refine ⟨⟨_, (o1.alloc o).kept g (own_apart (o1.alloc o) p (by decide))⟩, ⟨_, n⟩, ⟨_, (o3.alloc o).kept g (own_apart (o3.alloc o) p (by decide))⟩, ⟨_, (o4.alloc o).kept g (own_apart (o4.alloc o) p (by decide))⟩, ?_, a3⟩
  exact grown_trans (grown_trans gr (World.grownBy_alloc u o none) (fun _ _ _ => by simp)) g (fun q hq _ e => by have := (o2.lt q e.symm).1; omega)
theorem SpB.s3 {w u u' : World} {b : Nat} {blk : Option Nat} {k1 k2 n3 k4 k g' c' : Nat} {sl ep sg tk : Value} {xs : List Value} (h : SpB w u b blk k1 k2 n3 k4 sl ep sg tk) (o : Obj) (g : (u.alloc o).grownBy u' sg.ownBlock) (n : u'.ownsRow b 65 3 (.slice (some ⟨g', 0, none⟩) k c') k xs) (a : sg.ownBlock = some g' ∨ g' = u.heap.size + 1) : SpB w u' b blk k1 k2 k k4 sl ep (.slice (some ⟨g', 0, none⟩) k c') tk := by
  obtain ⟨⟨x1, o1⟩, ⟨x2, o2⟩, ⟨x3, o3⟩, ⟨x4, o4⟩, gr, a3⟩ := h
  have p := o3.alloc o
  refine ⟨⟨_, (o1.alloc o).kept g (own_apart (o1.alloc o) p (by decide))⟩, ⟨_, (o2.alloc o).kept g (own_apart (o2.alloc o) p (by decide))⟩, ⟨_, n⟩, ⟨_, (o4.alloc o).kept g (own_apart (o4.alloc o) p (by decide))⟩, ?_, ?_⟩
  · exact grown_trans (grown_trans gr (World.grownBy_alloc u o none) (fun _ _ _ => by simp)) g (fun q hq hne e => by
      rcases a3 q e.symm with h | h
      · exact hne h
      · omega)
  · intro q hq
    simp only [Value.ownBlock, Option.some.injEq] at hq
    subst hq
    rcases a with h | h
    · exact a3 _ h
    · have := gr.size
      exact .inr (by omega)
theorem SpB.s4 {w u u' : World} {b : Nat} {blk : Option Nat} {k1 k2 n3 k4 k : Nat} {sl ep sg tk tk' : Value} {xs : List Value} (h : SpB w u b blk k1 k2 n3 k4 sl ep sg tk) (o : Obj) (g : (u.alloc o).grownBy u' tk.ownBlock) (n : u'.ownsRow w.heap.size 61 4 tk' k xs) : SpB w u' b blk k1 k2 n3 k sl ep sg tk' := by
  obtain ⟨⟨x1, o1⟩, ⟨x2, o2⟩, ⟨x3, o3⟩, ⟨x4, o4⟩, gr, a3⟩ := h
  have p := o4.alloc o
  refine ⟨⟨_, (o1.alloc o).kept g (own_apart (o1.alloc o) p (by decide))⟩, ⟨_, (o2.alloc o).kept g (own_apart (o2.alloc o) p (by decide))⟩, ⟨_, (o3.alloc o).kept g (own_apart (o3.alloc o) p (by decide))⟩, ⟨_, n⟩, ?_, a3⟩
  exact grown_trans (grown_trans gr (World.grownBy_alloc u o none) (fun _ _ _ => by simp)) g (fun q hq _ e => by have := (o4.lt q e.symm).1; omega)
end Go.Proofs.Ytmfnhdflmnmooaa
