import Derived.Test.YtnkpngpjlkkkbaaPval
import Derived.Deep.AppendLies
import Derived.Great.BuildSlice
namespace Go.Proofs.Ytnkpngpjlkkkbaa
open Go.RowKit Go.Proofs.Ytnkpngpjlkkkbaa.Fld
/-- The cells of the first n blocks of f. -/
def flat (f : Nat → BitVec 128) : Nat → List Value
  | 0 => []
  | n + 1 => flat f n ++ BL (f n)
theorem flat_len (f : Nat → BitVec 128) (n : Nat) : (flat f n).length = n * 16 := by
  induction n with
  | zero => rfl
  | succ n ih => rw [flat, List.length_append, ih, BL_length]; omega
theorem flat_at (f : Nat → BitVec 128) (n i j : Nat) (hi : i < n) (hj : j < 16) : (flat f n)[i * 16 + j]? = (BL (f i))[j]? := by
  induction n with
  | zero => omega
  | succ n ih =>
    rw [flat]
    by_cases h : i < n
    · rw [List.getElem?_append_left (by rw [flat_len]; omega)]
      exact ih h
    · have e : i = n := by omega
      subst e
      rw [List.getElem?_append_right (by rw [flat_len]; omega), flat_len]
      congr 1
      omega
/-- v is a slice of n blocks that the call made itself, at or above base; its blocks are f's. -/
def Own (w : World) (base : Nat) (v : Value) (n : Nat) (f : Nat → BitVec 128) : Prop := w.ownsRow base 23 16 v n (flat f n)
theorem Own.nil (w : World) (base : Nat) (f : Nat → BitVec 128) : Own w base (.slice none 0 0) 0 f := World.ownsRow_nil w base 23 16
theorem Own.lt {w : World} {base : Nat} {v : Value} {n : Nat} {f : Nat → BitVec 128} (h : Own w base v n f) {g : Nat} (hg : v.ownBlock = some g) : base ≤ g ∧ g < w.heap.size := by
  rcases h.2 with ⟨rfl, _⟩ | ⟨g', cap, cur, rfl, hb, hgg, _⟩
  · simp [Value.ownBlock] at hg
  · have e : g' = g := by simpa [Value.ownBlock] using hg
    subst e
    refine ⟨hb, ?_⟩
    rcases Nat.lt_or_ge g' w.heap.size with hlt | hge
    · exact hlt
    · rw [Array.getElem?_eq_none hge] at hgg; cases hgg
theorem Own.blks {w : World} {base : Nat} {v : Value} {n : Nat} {f : Nat → BitVec 128} (h : Own w base v n f) : ∃ ao cap, v = .slice ao n cap ∧ n ≤ cap ∧ cap ≤ 9223372036854775807 ∧ Blks w ao n f := by
  rcases h.2 with ⟨hv, hn⟩ | ⟨g, cap, cur, hv, hb, hgg, hnc, hcm, _⟩
  · subst hn
    exact ⟨none, 0, hv, Nat.le_refl _, by decide, Or.inl rfl⟩
  · have hlt := (h.lt (g := g) (by rw [hv]; rfl)).2
    refine ⟨some ⟨g, 0, none⟩, cap, hv, hnc, by simpa [maxLen] using hcm, Or.inr ⟨g, 0, rfl, hlt, fun i hi j x hx => ?_⟩⟩
    have hj : j < 16 := by
      rcases Nat.lt_or_ge j 16 with hj | hj
      · exact hj
      · rw [List.getElem?_eq_none (by rw [BL_length]; exact hj)] at hx; cases hx
    have q := World.ownsRow.cells h (g := g) (by rw [hv]; rfl) (i * 16 + j) x (by rw [flat_at f n i j hi hj]; exact hx)
    have e : (⟨g, 0, none⟩ : Addr).add (i * 16 + j) = ⟨g, 0 + i * 16 + j, none⟩ := by rw [Addr.add_lit]; congr 1; omega
    rw [e] at q
    exact q
theorem Own.keep {w w' : World} {base : Nat} {v : Value} {n : Nat} {f : Nat → BitVec 128} (h : Own w base v n f) (hk : ∀ g, v.ownBlock = some g → w'.heap[g]? = w.heap[g]?) : Own w' base v n f := by
  refine ⟨h.1, ?_⟩
  rcases h.2 with hn | ⟨g, cap, cur, hv, hb, hgg, rest⟩
  · exact .inl hn
  · exact .inr ⟨g, cap, cur, hv, hb, by rw [hk g (by rw [hv]; rfl)]; exact hgg, rest⟩
theorem Own.below {w w' : World} {base : Nat} {v : Value} {n : Nat} {f : Nat → BitVec 128} (h : Own w base v n f) (hb : Below w.heap.size w w') : Own w' base v n f :=
  h.keep fun g hg => hb.block g (h.lt hg).2
theorem Own.other {w w' : World} {base : Nat} {v : Value} {n : Nat} {f : Nat → BitVec 128} {row : Option Nat} (h : Own w base v n f) (hg : w.grownBy w' row) (hne : v.ownBlock = none ∨ v.ownBlock ≠ row) : Own w' base v n f :=
  World.ownsRow.kept h hg hne
theorem Own.frame {w w' : World} {base : Nat} {v : Value} {n : Nat} {f : Nat → BitVec 128} (h : Own w base v n f) (hg : w.grownBy w' v.ownBlock) (hb : base ≤ w.heap.size) : Below base w w' :=
  ⟨hg.os, hg.tape, hg.output, hg.size, fun k hk => hg.block k (by omega) (fun e => by have := (h.lt e.symm).1; omega)⟩
theorem info23 : ∃ i, Try.prog.info? 23 = some i ∧ i.size = 16 ∧ i.bytes = 16 ∧ i.zero = some (.agg #[.int .u8 0, .int .u8 0, .int .u8 0, .int .u8 0, .int .u8 0, .int .u8 0, .int .u8 0, .int .u8 0, .int .u8 0, .int .u8 0, .int .u8 0, .int .u8 0, .int .u8 0, .int .u8 0, .int .u8 0, .int .u8 0]) := by
  have h1 : (Try.prog.info? 23).map (·.size) = some 16 := size23
  have h2 : (Try.prog.info? 23).map (·.bytes) = some 16 := by kernel_rfl
  have h3 : (Try.prog.info? 23).bind (·.zero) = some (.agg #[.int .u8 0, .int .u8 0, .int .u8 0, .int .u8 0, .int .u8 0, .int .u8 0, .int .u8 0, .int .u8 0, .int .u8 0, .int .u8 0, .int .u8 0, .int .u8 0, .int .u8 0, .int .u8 0, .int .u8 0, .int .u8 0]) := by kernel_rfl
  cases hi : Try.prog.info? 23 with
  | none => rw [hi] at h1; cases h1
  | some i =>
    rw [hi] at h1 h2 h3
    exact ⟨i, rfl, by simpa using h1, by simpa using h2, by simpa using h3⟩
theorem fill_block (y : BitVec 128) : Instr.fill (fun i => some (i * 16, 16)) ((Array.range (1 * 16)).map ((Value.agg #[.int .u8 0, .int .u8 0, .int .u8 0, .int .u8 0, .int .u8 0, .int .u8 0, .int .u8 0, .int .u8 0, .int .u8 0, .int .u8 0, .int .u8 0, .int .u8 0, .int .u8 0, .int .u8 0, .int .u8 0, .int .u8 0]).cells[· % (Value.agg #[.int .u8 0, .int .u8 0, .int .u8 0, .int .u8 0, .int .u8 0, .int .u8 0, .int .u8 0, .int .u8 0, .int .u8 0, .int .u8 0, .int .u8 0, .int .u8 0, .int .u8 0, .int .u8 0, .int .u8 0, .int .u8 0]).cells.size]!)) [(0, .agg (BL y).toArray)] = some (BL y).toArray := by
  kernel_rfl
theorem wp_block {o : Oper} {a : Act} {w : World} {K : Act → World → Prop} {Q : Exit → Act → World → Prop} (x : Operand) (ho : o.op = .buildSlice 24 1 #[(0, x)]) (L : List Value) (y : BitVec 128) (hL : L = BL y) (hx : a.eval x = .agg L.toArray)
    (h : K (a.put o.dst (.slice (some ⟨w.heap.size, 0, none⟩) 1 1)) (w.alloc (.cells L.toArray 23))) : o.wp Try.prog a w K Q := by
  subst hL
  obtain ⟨i, hi, hs, _, hz⟩ := info23
  refine wp_buildSlice 24 23 1 _ ho (BL y).toArray i _ size24 hi hz (by rw [hs]; decide) (by rw [hs]; decide) ?_ h
  rw [hs]
  simp only [List.map_toArray, List.map_cons, List.map_nil, hx]
  exact fill_block y
theorem wpList_block {ops : Array Oper} {rest : List Oper} {o : Oper} {a : Act} {w : World} {Q : Exit → Act → World → Prop} (hg : o.guard = none) (x : Operand) (ho : o.op = .buildSlice 24 1 #[(0, x)]) (L : List Value) (y : BitVec 128) (hL : L = BL y) (hx : a.eval x = .agg L.toArray)
    (h : wpList Try.prog ops Q rest (a.put o.dst (.slice (some ⟨w.heap.size, 0, none⟩) 1 1)) (w.alloc (.cells L.toArray 23))) : wpList Try.prog ops Q (o :: rest) a w :=
  wpList_plain hg fun _ hK => wp_block x ho L y hL hx (hK _ _ h)
theorem wp_more {o : Oper} {a : Act} {w : World} {K : Act → World → Prop} {Q : Exit → Act → World → Prop} (s x : Operand) (ho : o.op = .call { callee := .builtin .append, args := #[s, x], argTypes := #[24, 24] }) (base n : Nat) (f : Nat → BitVec 128) (v : Value) (hs : a.eval s = v) (hown : Own w base v n f)
    (B : Nat) (hx : a.eval x = .slice (some ⟨B, 0, none⟩) 1 1) (hB : w.rangeAt B 0 (BL (f n))) (hn : n ≤ 1000) (hbase : base ≤ w.heap.size)
    (h : ∀ g cap w', Own w' base (.slice (some ⟨g, 0, none⟩) (n + 1) cap) (n + 1) f → w.grownBy w' v.ownBlock → (v.ownBlock = some g ∨ g = w.heap.size) → K (a.put o.dst (.slice (some ⟨g, 0, none⟩) (n + 1) cap)) w') : o.wp Try.prog a w K Q := by
  obtain ⟨i, hi, hsz, hby, hz⟩ := info23
  refine wp_append_lies w s x 24 ho base 23 i _ 16 16 size24 hi hz hsz hby rfl (by decide) v n (flat f n) hs hown ⟨B, 0, none⟩ 1 1 (BL (f n)) hx rfl ?_ ?_ (by decide) (by simp only [maxLen]; omega) (by omega) hbase _ rfl ?_
  · intro j u hu
    have q := hB j u hu
    have e : (⟨B, 0, none⟩ : Addr).add j = ⟨B, 0 + j, none⟩ := Addr.add_lit _ _ _
    rw [e]
    exact q
  · intro u hu
    have q := BL_one (f n)
    rw [Array.all_eq_true'] at q
    exact q u (by simpa using hu)
  · intro g cap w' h1 h2 h3 _
    exact h g cap w' h1 h2 h3
theorem wpList_more {ops : Array Oper} {rest : List Oper} {o : Oper} {a : Act} {w : World} {Q : Exit → Act → World → Prop} (hg : o.guard = none) (s x : Operand) (ho : o.op = .call { callee := .builtin .append, args := #[s, x], argTypes := #[24, 24] }) (base n : Nat) (f : Nat → BitVec 128) (v : Value) (hs : a.eval s = v) (hown : Own w base v n f)
    (B : Nat) (hx : a.eval x = .slice (some ⟨B, 0, none⟩) 1 1) (hB : w.rangeAt B 0 (BL (f n))) (hn : n ≤ 1000) (hbase : base ≤ w.heap.size)
    (h : ∀ g cap w', Own w' base (.slice (some ⟨g, 0, none⟩) (n + 1) cap) (n + 1) f → w.grownBy w' v.ownBlock → (v.ownBlock = some g ∨ g = w.heap.size) → wpList Try.prog ops Q rest (a.put o.dst (.slice (some ⟨g, 0, none⟩) (n + 1) cap)) w') : wpList Try.prog ops Q (o :: rest) a w :=
  wpList_plain hg fun _ hK => wp_more s x ho base n f v hs hown B hx hB hn hbase fun g cap w' h1 h2 h3 => hK _ _ (h g cap w' h1 h2 h3)
end Go.Proofs.Ytnkpngpjlkkkbaa
