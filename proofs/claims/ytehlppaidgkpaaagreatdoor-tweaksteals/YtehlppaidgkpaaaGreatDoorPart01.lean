import Derived.Test.YtehlppaidgkpaaaGreatDoorPart00
import Derived.Deep.Draws
import Derived.Deep.Upon
import Derived.WalkKit
import Derived.Deep.MidRow
import Derived.Laws.ResultCell
import Derived.Below
import Derived.Test.YtehlppaidgkpaaaGreatDoorProg
import Derived.Deep.QuietTactic
import Derived.BigQuiet
import Derived.Deep.RegionHeld3
import Derived.Great.BuildSlice
import Derived.Maps.AppendAt
import Derived.StillTail
import Derived.Test.YtehlppaidgkpaaaGreatDoorChecked
import Derived.ProofKit
import Derived.Conc.RwLone
import Derived.KernelRfl
namespace Go.Proofs.YtehlppaidgkpaaaGreatDoor
open Go.RowKit

/-- A world that differs in what it drew alone. -/
structure Sm (w w' : World) : Prop where
  os : w'.os = w.os
  tape : w'.tape = w.tape
  output : w'.output = w.output
  heap : w'.heap = w.heap
theorem Sm.refl (w : World) : Sm w w := ⟨rfl, rfl, rfl, rfl⟩
theorem Sm.cell {w v : World} (h : Sm w v) (p : Addr) : v.cell? p = w.cell? p := World.cell?_of_block (by rw [h.heap])
theorem Sm.frozen {w v : World} (h : Sm w v) (p : Addr) : v.frozen? p = w.frozen? p := World.frozen?_of_block (by rw [h.heap])

theorem setCells_os (b : Nat) : ∀ (vs : List Value) (o : Nat) (w : World), (w.setCells b o vs).os = w.os
  | [], _, _ => rfl
  | v :: r, o, w => by rw [World.setCells, setCells_os b r (o + 1)]; rfl
theorem setCells_tape (b : Nat) : ∀ (vs : List Value) (o : Nat) (w : World), (w.setCells b o vs).tape = w.tape
  | [], _, _ => rfl
  | v :: r, o, w => by rw [World.setCells, setCells_tape b r (o + 1)]; rfl
theorem setCells_output (b : Nat) : ∀ (vs : List Value) (o : Nat) (w : World), (w.setCells b o vs).output = w.output
  | [], _, _ => rfl
  | v :: r, o, w => by rw [World.setCells, setCells_output b r (o + 1)]; rfl

/-- From w to w' nothing of what was there is changed but n cells of block g from o on; what could be written there can be still. -/
structure Touch (w w' : World) (g o n : Nat) : Prop where
  os : w'.os = w.os
  tape : w'.tape = w.tape
  output : w'.output = w.output
  size : w.heap.size ≤ w'.heap.size
  block : ∀ k, k < w.heap.size → k ≠ g → w'.heap[k]? = w.heap[k]?
  cell : ∀ j, (j < o ∨ o + n ≤ j) → w'.cell? ⟨g, j, none⟩ = w.cell? ⟨g, j, none⟩
  there : ∀ o' n', w.there g o' n' → w'.there g o' n'

theorem Sm.touch {w v : World} (h : Sm w v) (g o n : Nat) : Touch w v g o n :=
  ⟨h.os, h.tape, h.output, by rw [h.heap]; exact Nat.le_refl _, fun k _ _ => by rw [h.heap], fun j _ => h.cell _, fun o' n' ht j hj => by rw [h.cell, h.frozen]; exact ht j hj⟩
theorem Touch.refl (w : World) (g o n : Nat) : Touch w w g o n := (Sm.refl w).touch g o n
theorem Touch.trans {a b c : World} {g o n : Nat} (h : Touch a b g o n) (k : Touch b c g o n) : Touch a c g o n :=
  ⟨k.os.trans h.os, k.tape.trans h.tape, k.output.trans h.output, Nat.le_trans h.size k.size, fun i hi hne => (k.block i (Nat.lt_of_lt_of_le hi h.size) hne).trans (h.block i hi hne), fun j hj => (k.cell j hj).trans (h.cell j hj), fun o' n' ht => k.there o' n' (h.there o' n' ht)⟩
theorem Touch.setCells {a b : World} {g o n : Nat} (h : Touch a b g o n) (o' : Nat) (vs : List Value) (h1 : o ≤ o') (h2 : o' + vs.length ≤ o + n) : Touch a (b.setCells g o' vs) g o n := by
  refine h.trans ⟨?_, ?_, ?_, ?_, ?_, ?_, ?_⟩
  · exact setCells_os g vs o' b
  · exact setCells_tape g vs o' b
  · exact setCells_output g vs o' b
  · rw [sizeB_setCells]; exact Nat.le_refl _
  · intro k hk hne
    exact World.heap_setCells_other b g o' vs hk hne
  · intro j hj
    exact World.cell?_setCells_out g vs o' b ⟨g, j, none⟩ (fun _ _ => by rcases hj with h | h; exact .inl (by show j < o'; omega); exact .inr (by show o' + vs.length ≤ j; omega))
  · intro o2 n2 ht
    exact World.there_setCells ht g o' vs
theorem Touch.setCell {a b : World} {g o n : Nat} (h : Touch a b g o n) (j : Nat) (u : Value) (h1 : o ≤ j) (h2 : j < o + n) : Touch a (b.setCell ⟨g, j, none⟩ u) g o n :=
  h.setCells j [u] h1 (by simp; omega)
theorem Touch.alloc {a b : World} {g o n : Nat} (h : Touch a b g o n) (ob : Obj) (hg : g < a.heap.size) : Touch a (b.alloc ob) g o n := by
  have hs := h.size
  refine h.trans ⟨rfl, rfl, rfl, by simp, ?_, ?_, ?_⟩
  · intro k hk _
    exact Below.heap_alloc b ob k hk
  · intro j _
    exact World.cell?_alloc_past ob g j (by omega)
  · intro o' n' ht
    exact World.there_alloc ht ob
theorem Touch.drewN {a b : World} {g o n : Nat} (h : Touch a b g o n) (m : Nat) : Touch a (b.drewN m) g o n := ⟨h.os, h.tape, h.output, h.size, h.block, h.cell, h.there⟩
/-- What only makes new blocks touches nothing. -/
theorem Touch.below {a b c : World} {g o n : Nat} (h : Touch a b g o n) (k : Below b.heap.size b c) (hg : g < a.heap.size) : Touch a c g o n := by
  have hs := h.size
  refine h.trans ⟨k.os, k.tape, k.output, k.size, fun i hi _ => k.block i hi, fun j _ => k.cell (p := ⟨g, j, none⟩) (show g < _ by omega), ?_⟩
  intro o' n' ht j hj
  rw [k.cell (p := ⟨g, o' + j, none⟩) (show g < _ by omega), k.frozen (p := ⟨g, o' + j, none⟩) (show g < _ by omega)]
  exact ht j hj
theorem Touch.toBelow {a b : World} {g o n B : Nat} (h : Touch a b g o n) (hg : B ≤ g) (hB : B ≤ a.heap.size) : Below B a b :=
  ⟨h.os, h.tape, h.output, h.size, fun k hk => h.block k (by omega) (by omega)⟩
theorem Touch.far {a b : World} {g o n : Nat} (h : Touch a b g o n) {p : Addr} (hp : p.block < a.heap.size) (hne : p.block ≠ g) : b.cell? p = a.cell? p := World.cell?_of_block (h.block p.block hp hne)
theorem Touch.farFrozen {a b : World} {g o n : Nat} (h : Touch a b g o n) {p : Addr} (hp : p.block < a.heap.size) (hne : p.block ≠ g) : b.frozen? p = a.frozen? p := World.frozen?_of_block (h.block p.block hp hne)
end Go.Proofs.YtehlppaidgkpaaaGreatDoor
namespace Go.Proofs.YtehlppaidgkpaaaGreatDoor.Dg
open Go.RowKit
variable {P : Program}

theorem size_setCells (b : Nat) : ∀ (vs : List Value) (o : Nat) (w : World), (w.setCells b o vs).heap.size = w.heap.size
  | [], _, _ => rfl
  | v :: r, o, w => by rw [World.setCells, size_setCells b r (o + 1)]; simp [World.setCell]
theorem below_setCells (b : Nat) {B : Nat} (hB : B ≤ b) {a : World} : ∀ (vs : List Value) (o : Nat) (w : World), Below B a w → Below B a (w.setCells b o vs)
  | [], _, _, h => h
  | v :: r, o, w, h => by rw [World.setCells]; exact below_setCells b hB r (o + 1) _ (h.setCell hB _)
theorem rangeAt_new (w : World) (C : Array Value) (t : TypeId) : (w.alloc (.cells C t)).rangeAt w.heap.size 0 C.toList := fun j v hv => by
  rw [World.cell?_alloc_at C t _ _ rfl]
  simpa using hv
theorem there_new (w : World) (C : Array Value) (t : TypeId) (n : Nat) (hn : n ≤ C.size) : (w.alloc (.cells C t)).there w.heap.size 0 n := fun j hj => by
  refine ⟨?_, World.frozen?_alloc_at C t _ _ rfl⟩
  rw [World.cell?_alloc_at C t _ _ rfl]
  simp
  omega
end Go.Proofs.YtehlppaidgkpaaaGreatDoor.Dg
namespace Go.Proofs.YtehlppaidgkpaaaGreatDoor.Dg
open Go.RowKit

/-- A world that differs in what it drew alone. -/
structure Sm (w w' : World) : Prop where
  os : w'.os = w.os
  tape : w'.tape = w.tape
  output : w'.output = w.output
  heap : w'.heap = w.heap
theorem Sm.refl (w : World) : Sm w w := ⟨rfl, rfl, rfl, rfl⟩
theorem Sm.drewN {w v : World} (h : Sm w v) (m : Nat) : Sm w (v.drewN m) := ⟨h.os, h.tape, h.output, h.heap⟩
theorem Sm.cell {w v : World} (h : Sm w v) (p : Addr) : v.cell? p = w.cell? p := World.cell?_of_block (by rw [h.heap])
theorem Sm.frozen {w v : World} (h : Sm w v) (p : Addr) : v.frozen? p = w.frozen? p := World.frozen?_of_block (by rw [h.heap])

theorem setCells_os (b : Nat) : ∀ (vs : List Value) (o : Nat) (w : World), (w.setCells b o vs).os = w.os
  | [], _, _ => rfl
  | v :: r, o, w => by rw [World.setCells, setCells_os b r (o + 1)]; rfl
theorem setCells_tape (b : Nat) : ∀ (vs : List Value) (o : Nat) (w : World), (w.setCells b o vs).tape = w.tape
  | [], _, _ => rfl
  | v :: r, o, w => by rw [World.setCells, setCells_tape b r (o + 1)]; rfl
theorem setCells_output (b : Nat) : ∀ (vs : List Value) (o : Nat) (w : World), (w.setCells b o vs).output = w.output
  | [], _, _ => rfl
  | v :: r, o, w => by rw [World.setCells, setCells_output b r (o + 1)]; rfl

/-- From w to w' nothing of what was there is changed but n cells of block g from o on; what could be written there can be still. -/
structure Touch (w w' : World) (g o n : Nat) : Prop where
  os : w'.os = w.os
  tape : w'.tape = w.tape
  output : w'.output = w.output
  size : w.heap.size ≤ w'.heap.size
  block : ∀ k, k < w.heap.size → k ≠ g → w'.heap[k]? = w.heap[k]?
  cell : ∀ j, (j < o ∨ o + n ≤ j) → w'.cell? ⟨g, j, none⟩ = w.cell? ⟨g, j, none⟩
  there : ∀ o' n', w.there g o' n' → w'.there g o' n'

theorem Sm.touch {w v : World} (h : Sm w v) (g o n : Nat) : Touch w v g o n :=
  ⟨h.os, h.tape, h.output, by rw [h.heap]; exact Nat.le_refl _, fun k _ _ => by rw [h.heap], fun j _ => h.cell _, fun o' n' ht j hj => by rw [h.cell, h.frozen]; exact ht j hj⟩
theorem Touch.refl (w : World) (g o n : Nat) : Touch w w g o n := (Sm.refl w).touch g o n
theorem Touch.trans {a b c : World} {g o n : Nat} (h : Touch a b g o n) (k : Touch b c g o n) : Touch a c g o n :=
  ⟨k.os.trans h.os, k.tape.trans h.tape, k.output.trans h.output, Nat.le_trans h.size k.size, fun i hi hne => (k.block i (Nat.lt_of_lt_of_le hi h.size) hne).trans (h.block i hi hne), fun j hj => (k.cell j hj).trans (h.cell j hj), fun o' n' ht => k.there o' n' (h.there o' n' ht)⟩
theorem Touch.mono {a b : World} {g o n : Nat} (h : Touch a b g o n) (o' n' : Nat) (h1 : o' ≤ o) (h2 : o + n ≤ o' + n') : Touch a b g o' n' :=
  ⟨h.os, h.tape, h.output, h.size, h.block, fun j hj => h.cell j (by omega), h.there⟩
theorem Touch.setCells {a b : World} {g o n : Nat} (h : Touch a b g o n) (o' : Nat) (vs : List Value) (h1 : o ≤ o') (h2 : o' + vs.length ≤ o + n) : Touch a (b.setCells g o' vs) g o n := by
  refine h.trans ⟨?_, ?_, ?_, ?_, ?_, ?_, ?_⟩
  · exact setCells_os g vs o' b
  · exact setCells_tape g vs o' b
  · exact setCells_output g vs o' b
  · rw [size_setCells]; exact Nat.le_refl _
  · intro k hk hne
    exact World.heap_setCells_other b g o' vs hk hne
  · intro j hj
    exact World.cell?_setCells_out g vs o' b ⟨g, j, none⟩ (fun _ _ => by rcases hj with h | h; exact .inl (by show j < o'; omega); exact .inr (by show o' + vs.length ≤ j; omega))
  · intro o2 n2 ht
    exact World.there_setCells ht g o' vs
theorem Touch.setCell {a b : World} {g o n : Nat} (h : Touch a b g o n) (j : Nat) (u : Value) (h1 : o ≤ j) (h2 : j < o + n) : Touch a (b.setCell ⟨g, j, none⟩ u) g o n :=
  h.setCells j [u] h1 (by simp; omega)
theorem Touch.alloc {a b : World} {g o n : Nat} (h : Touch a b g o n) (ob : Obj) (hg : g < a.heap.size) : Touch a (b.alloc ob) g o n := by
  have hs := h.size
  refine h.trans ⟨rfl, rfl, rfl, by simp, ?_, ?_, ?_⟩
  · intro k hk _
    exact Below.heap_alloc b ob k hk
  · intro j _
    exact World.cell?_alloc_past ob g j (by omega)
  · intro o' n' ht
    exact World.there_alloc ht ob
theorem Touch.drew {a b : World} {g o n : Nat} (h : Touch a b g o n) : Touch a b.drew g o n := ⟨h.os, h.tape, h.output, h.size, h.block, h.cell, h.there⟩
theorem Touch.drewN {a b : World} {g o n : Nat} (h : Touch a b g o n) (m : Nat) : Touch a (b.drewN m) g o n := ⟨h.os, h.tape, h.output, h.size, h.block, h.cell, h.there⟩
/-- What only makes new blocks touches nothing. -/
theorem Touch.below {a b c : World} {g o n : Nat} (h : Touch a b g o n) (k : Below b.heap.size b c) (hg : g < a.heap.size) : Touch a c g o n := by
  have hs := h.size
  refine h.trans ⟨k.os, k.tape, k.output, k.size, fun i hi _ => k.block i hi, fun j _ => k.cell (p := ⟨g, j, none⟩) (show g < _ by omega), ?_⟩
  intro o' n' ht j hj
  rw [k.cell (p := ⟨g, o' + j, none⟩) (show g < _ by omega), k.frozen (p := ⟨g, o' + j, none⟩) (show g < _ by omega)]
  exact ht j hj
theorem Touch.toBelow {a b : World} {g o n B : Nat} (h : Touch a b g o n) (hg : B ≤ g) (hB : B ≤ a.heap.size) : Below B a b :=
  ⟨h.os, h.tape, h.output, h.size, fun k hk => h.block k (by omega) (by omega)⟩
theorem Touch.far {a b : World} {g o n : Nat} (h : Touch a b g o n) {p : Addr} (hp : p.block < a.heap.size) (hne : p.block ≠ g) : b.cell? p = a.cell? p := World.cell?_of_block (h.block p.block hp hne)
theorem Touch.farFrozen {a b : World} {g o n : Nat} (h : Touch a b g o n) {p : Addr} (hp : p.block < a.heap.size) (hne : p.block ≠ g) : b.frozen? p = a.frozen? p := World.frozen?_of_block (h.block p.block hp hne)
end Go.Proofs.YtehlppaidgkpaaaGreatDoor.Dg
namespace Go.Proofs.YtehlppaidgkpaaaGreatDoor.Dg
open Go.RowKit

/-- A list of bytes behind a slice value. -/
def View (w : World) (v : Value) (zs : List Int) : Prop :=
  ∃ a cap, v = .slice a zs.length cap ∧ zs.length ≤ cap ∧ cap ≤ maxLen ∧ (a = none → cap = 0) ∧
    (zs = [] ∨ ∃ b off, a = some ⟨b, off, none⟩ ∧ ∀ i, i < zs.length → w.cell? ⟨b, off + i, none⟩ = some (.int .u8 (zs.getD i 0)))

end Go.Proofs.YtehlppaidgkpaaaGreatDoor.Dg
namespace Go.Proofs.YtehlppaidgkpaaaGreatDoor
open Go.RowKit
set_option linter.unusedVariables false
section
variable {P : Program} {ops : Array Oper}
/-- append of one cell to a row that the call owns: the cells that were there stay where they were, too. -/
theorem run_append1 (w : World) (t ty e : TypeId) (i : TypeInfo) (z : Value) (bytes : Nat) (ht : P.underlying t = some (.slice e)) (hi : P.info? e = some i) (hz : i.zero = some z)
    (hsize : i.size = 1) (hby : i.bytes = bytes) (hzs : z.cells.size = 1) (base n : Nat) (v : Value) (xs : List Value) (hown : w.ownsRow base e 1 v n xs) (ad c : Nat) (x : Value) (hx : w.cell? ⟨ad, 0, none⟩ = some x) (hx1 : x.oneCell' = true)
    (h63 : n + 1 ≤ maxLen) (hbytes : (n + 1) * bytes ≤ 140737488355328) (hbase : base ≤ w.heap.size) :
    ∃ g cap w', (Builtin.append_ #[t, t] ty #[v, .slice (some ⟨ad, 0, none⟩) 1 c]).run P w = .ok (.slice (some ⟨g, 0, none⟩) (n + 1) cap) w' ∧
      w'.ownsRow base e 1 (.slice (some ⟨g, 0, none⟩) (n + 1) cap) (n + 1) (xs ++ [x]) ∧ w.grownBy w' v.ownBlock ∧ (v.ownBlock = some g ∨ g = w.heap.size) ∧ (∀ g0, v.ownBlock = some g0 → ∀ j u, xs[j]? = some u → w'.cell? ⟨g0, j, none⟩ = some u) := by
  have hnews : ∀ j u, [x][j]? = some u → w.cell? ((⟨ad, 0, none⟩ : Addr).add j) = some u := by
    intro j u hj
    match j, hj with
    | 0, hj => simp at hj; subst hj; simpa [Addr.add] using hx
    | _ + 1, hj => simp at hj
  have h1 : ∀ u ∈ [x], u.oneCell' = true := by intro u hu; simp at hu; subst hu; exact hx1
  obtain ⟨v', w', hr, h2, h3, h4, h5⟩ := run_append_own_at (P := P) w base t ty e i z 1 bytes ht hi hz hsize hby hzs (by decide) v n xs hown ⟨ad, 0, none⟩ 1 c [x] (by simp) hnews h1 h63 hbytes hbase
  rcases h2.2 with ⟨_, h⟩ | ⟨g, cap, cur, rfl, _⟩
  · omega
  refine ⟨g, cap, w', hr, h2, h3, ?_, ?_⟩
  · rcases h5 with h5 | h5
    · left; exact h5.symm
    · right; simpa [Value.ownBlock] using h5
  · intro g0 hg0 j u hj
    rcases hown.2 with ⟨rfl, _⟩ | ⟨g1, c1, cur1, rfl, hbg, hg, hnc, hcm, hcs, htake⟩
    · simp [Value.ownBlock] at hg0
    · obtain rfl : g1 = g0 := by simpa [Value.ownBlock] using hg0
      by_cases hroom : n + 1 ≤ c1
      · have hfit : n * i.size + [x].length ≤ cur1.size := by rw [hcs, hsize]; simp; omega
        have hr2 := run_append_room (P := P) w t ty e i ht hi g1 n c1 cur1 hg ⟨ad, 0, none⟩ 1 c [x] (by simp [hsize]) hnews h1 hroom hfit
        rw [hr] at hr2
        injection hr2 with e1 e2
        injection e1 with e3 e4 e5
        injection e3 with e6
        injection e6 with e7
        subst e7
        have := h2.cells (g := g) rfl j u (by rw [List.getElem?_append_left (List.getElem?_eq_some_iff.1 hj).1]; exact hj)
        rw [Addr.add_lit, Nat.zero_add] at this
        exact this
      · have holds : ∀ j u, xs[j]? = some u → w.cell? ((⟨g1, 0, none⟩ : Addr).add j) = some u := hown.cells (g := g1) rfl
        have hr2 := run_append_grow (P := P) w t ty e i z ht hi hz ⟨g1, 0, none⟩ n c1 xs (by rw [hsize]; exact hown.1) holds ⟨ad, 0, none⟩ 1 c [x] (by simp [hsize]) hnews (by omega) (by simp only [maxLen] at h63; omega) (growslice_fits (by omega) (by rw [hby]; exact hbytes))
        rw [hr] at hr2
        injection hr2 with e1 e2
        rw [e2]
        have hlt : g1 < w.heap.size := (Array.getElem?_eq_some_iff.1 hg).1
        have := holds j u hj
        have h0 : w.cell? ⟨g1, j, none⟩ = some u := by rw [Addr.add_lit, Nat.zero_add] at this; exact this
        exact (World.cell?_alloc_past (w := w.drew) _ g1 j hlt).trans h0
theorem wp_append1 {w : World} {o : Oper} {a : Act} {K : Act → World → Prop} {Q : Exit → Act → World → Prop} (s x : Operand) (t : TypeId)
    (ho : o.op = .call { callee := .builtin .append, args := #[s, x], argTypes := #[t, t] }) (e : TypeId) (i : TypeInfo) (z : Value) (bytes : Nat) (ht : P.underlying t = some (.slice e)) (hi : P.info? e = some i) (hz : i.zero = some z)
    (hsize : i.size = 1) (hby : i.bytes = bytes) (hzs : z.cells.size = 1) (base n : Nat) (v : Value) (xs : List Value) (hs : a.eval s = v) (hown : w.ownsRow base e 1 v n xs) (ad c : Nat) (y : Value) (hx : a.eval x = .slice (some ⟨ad, 0, none⟩) 1 c) (hy : w.cell? ⟨ad, 0, none⟩ = some y) (hy1 : y.oneCell' = true)
    (h63 : n + 1 ≤ maxLen) (hbytes : (n + 1) * bytes ≤ 140737488355328) (hbase : base ≤ w.heap.size)
    (h : ∀ g cap w', w'.ownsRow base e 1 (.slice (some ⟨g, 0, none⟩) (n + 1) cap) (n + 1) (xs ++ [y]) → w.grownBy w' v.ownBlock → (v.ownBlock = some g ∨ g = w.heap.size) → (∀ g0, v.ownBlock = some g0 → ∀ j u, xs[j]? = some u → w'.cell? ⟨g0, j, none⟩ = some u) → K (a.put o.dst (.slice (some ⟨g, 0, none⟩) (n + 1) cap)) w') : o.wp P a w K Q := by
  obtain ⟨g, cap, w', hr, h2, h3, h4, h5⟩ := run_append1 (P := P) w t o.type e i z bytes ht hi hz hsize hby hzs base n v xs hown ad c y hy hy1 h63 hbytes hbase
  unfold Oper.wp execOp
  simp only [ho, resolve, invoke, builtin, Sem.run_bind, Sem.run_pure, Result.andThen_ok, List.map_toArray, List.map_cons, List.map_nil, hs, hx, hr]
  exact h g cap w' h2 h3 h4 h5
theorem step_append1 {w : World} {o : Oper} {a : Act} {K : Act → World → Prop} {Q : Exit → Act → World → Prop} {E : Prop} (hgd : o.guard = none) (d : Nat) (hd : o.dst = some d) (s x : Operand) (t : TypeId)
    (ho : o.op = .call { callee := .builtin .append, args := #[s, x], argTypes := #[t, t] }) (e : TypeId) (i : TypeInfo) (z : Value) (bytes : Nat) (ht : P.underlying t = some (.slice e)) (hi : P.info? e = some i) (hz : i.zero = some z)
    (hsize : i.size = 1) (hby : i.bytes = bytes) (hzs : z.cells.size = 1) (base n : Nat) (v : Value) (xs : List Value) (hs : a.eval s = v) (hown : w.ownsRow base e 1 v n xs) (ad c : Nat) (y : Value) (hx : a.eval x = .slice (some ⟨ad, 0, none⟩) 1 c) (hy : w.cell? ⟨ad, 0, none⟩ = some y) (hy1 : y.oneCell' = true)
    (h63 : n + 1 ≤ maxLen) (hbytes : (n + 1) * bytes ≤ 140737488355328) (hbase : base ≤ w.heap.size)
    (h : ∀ g cap w', w'.ownsRow base e 1 (.slice (some ⟨g, 0, none⟩) (n + 1) cap) (n + 1) (xs ++ [y]) → w.grownBy w' v.ownBlock → (v.ownBlock = some g ∨ g = w.heap.size) → (∀ g0, v.ownBlock = some g0 → ∀ j u, xs[j]? = some u → w'.cell? ⟨g0, j, none⟩ = some u) → K (a.put (some d) (.slice (some ⟨g, 0, none⟩) (n + 1) cap)) w') :
    if Region.wanted o (yielded ops a.tmps) = true then Oper.wp P o a w K Q else E := by
  have hw : Region.wanted o (yielded ops a.tmps) = true := by simp [Region.wanted, hgd]
  rw [if_pos hw]
  rw [← hd] at h
  exact wp_append1 s x t ho e i z bytes ht hi hz hsize hby hzs base n v xs hs hown ad c y hx hy hy1 h63 hbytes hbase h
end
end Go.Proofs.YtehlppaidgkpaaaGreatDoor
namespace Go.Proofs.YtehlppaidgkpaaaGreatDoor.Dg
set_option linter.unusedVariables false
variable {P : Program} {ops : Array Oper} {Q : Exit → Act → World → Prop} {md : Region.Mode} {S : World → Prop} {n : Nat}

/-- Whatever order is picked; S holds behind every operation of the head (the first n); the tail may do as it likes. -/
def wpTill (P : Program) (md : Region.Mode) (ops : Array Oper) (Q : Exit → Act → World → Prop) (S : World → Prop) (n : Nat) : Nat → Array Bool → Act → World → Prop
  | 0, l, a, w => Region.ready md ops l = [] ∧ Q .normal a w
  | f + 1, l, a, w =>
    (Region.ready md ops l = [] → Q .normal a w) ∧
    ∀ i, i ∈ Region.ready md ops l → wpOp P ops Q i (fun b u => (i < n → S u) ∧ wpTill P md ops Q S n f (l.setIfInBounds i true) b u) a w

theorem any_of_till (f : Nat) : ∀ (l : Array Bool) (a : Act) (w : World), wpTill P md ops Q S n f l a w → wpAny P md ops Q f l a w := by
  induction f with
  | zero => exact fun _ _ _ h => h
  | succ f ih => exact fun l a w h => ⟨h.1, fun i hi => wpOp_mono (fun b u k => ih _ b u k.2) (h.2 i hi)⟩

theorem till_first {i : Nat} {oi : Oper} {v : Value} (hi : ops[i]? = some oi) (hin : i < n) (hn : n < ops.size) (hsk : Region.sinkB md ops n = true) (hch : Region.chainB md ops n = true)
    (hsel : ∀ (j : Nat) (o : Oper) cs b, ops[j]? = some o → o.op ≠ .select cs b) (hQ : ∀ c a w, Q (.panic c) (a.put oi.dst v) w → Q (.panic c) a w) (f : Nat) :
    ∀ (l : Array Bool) (a : Act) (w : World), HeadInv md ops n l →
      (∀ j oj, ops[j]? = some oj → j ≠ i → l.getD j true = false → (∀ e ∈ oj.after, Region.binds md e = true → e.on ≠ i) → oi.apart ops oj = true) →
      i ∈ Region.ready md ops l → YieldsIf P ops S oi v a → S w → wpTill P md ops Q S n f (l.setIfInBounds i true) (a.put oi.dst v) w → wpTill P md ops Q S n (f + 1) l a w := by
  induction f with
  | zero =>
    intro l a w inv _ hr hy hS H
    refine ⟨fun h => (by rw [h] at hr; cases hr), fun j hj => ?_⟩
    by_cases hji : j = i
    · subst hji
      exact hy.wpOp hi hS ⟨fun _ => hS, H⟩
    · have h := ready_mono hj hji
      rw [H.1] at h
      cases h
  | succ f ih =>
    intro l a w inv hfree hr hy hS H
    refine ⟨fun h => (by rw [h] at hr; cases hr), fun j hj => ?_⟩
    by_cases hji : j = i
    · subst hji
      exact hy.wpOp hi hS ⟨fun _ => hS, H⟩
    have hun := (mem_ready.1 hr).1
    have hjn : j < n := by
      rcases Nat.lt_or_ge j n with h | h
      · exact h
      · exact absurd hj (tail_waits hsk hch hn inv _ i rfl hin hun j h)
    have h1 := H.2 j (ready_mono hj hji)
    obtain ⟨hjun, oj, hoj, hall⟩ := mem_ready.1 hj
    have hnot : ∀ e ∈ oj.after, Region.binds md e = true → e.on ≠ i := fun e he hb heq => by
      have h2 := hall e he hb
      rw [heq] at h2
      rw [getD_both hun] at h2
      cases h2
    have h2 := wpOp_putIf hoj (hfree j oj hoj hji hjun hnot) (fun cs b => hsel i oi cs b hi) (fun cs b => hsel j oj cs b hoj) hQ hy h1
    refine wpOp_mono (fun b u h3 => ?_) h2
    have hSu := h3.2.1 hjn
    refine ⟨fun _ => hSu, ih (l.setIfInBounds j true) b u (inv.set hj hjn) (fun k ok hk hki hku hno => ?_) (ready_mono hr (Ne.symm hji)) h3.1 hSu ?_⟩
    · refine hfree k ok hk hki ?_ hno
      by_cases hjk : j = k
      · subst hjk; exact hjun
      · rw [getD_set_ne true hjk] at hku; exact hku
    · rw [Array.setIfInBounds_comm _ _ hji]
      exact h3.2.2

/-- What is carried along: the head's invariant, and what the region's form gives once. -/
structure Inv (md : Region.Mode) (ops : Array Oper) (n : Nat) (l : Array Bool) : Prop where
  head : HeadInv md ops n l
  lt : n < ops.size
  sink : Region.sinkB md ops n = true
  chain : Region.chainB md ops n = true
  sel : Region.noSelect ops = true
theorem Inv.set {l : Array Bool} {i : Nat} (inv : Inv md ops n l) (hi : i ∈ Region.ready md ops l) (hin : i < n) : Inv md ops n (l.setIfInBounds i true) := ⟨inv.head.set hi hin, inv.lt, inv.sink, inv.chain, inv.sel⟩

/-- An operation of the head that yields under S is taken first. -/
theorem till_at (i d : Nat) (v : Value) {oi : Oper} {f : Nat} {l : Array Bool} {tmps : Array Value} {ds : List Deferred} {w : World} (inv : Inv md ops n l) (hi : ops[i]? = some oi) (hd : oi.dst = some d)
    (hin : i < n) (hf : Region.free md ops l i = true) (hr : (Region.ready md ops l).contains i = true)
    (hQ : ∀ c a w, Q (.panic c) (a.put oi.dst v) w → Q (.panic c) a w) (hS : S w) (hy : YieldsIf P ops S oi v ⟨tmps, ds⟩)
    (h : Inv md ops n (l.setIfInBounds i true) → wpTill P md ops Q S n f (l.setIfInBounds i true) ⟨tmps.setIfInBounds d v, ds⟩ w) : wpTill P md ops Q S n (f + 1) l ⟨tmps, ds⟩ w := by
  have hr' : i ∈ Region.ready md ops l := by simpa using hr
  refine till_first hi hin inv.lt inv.sink inv.chain (Region.noSelect_spec inv.sel) hQ f l _ w inv.head (Region.free_spec hi hf) hr' hy hS ?_
  rw [hd]
  exact h (inv.set hr' hin)

/-- A lone operation of the tail comes up. -/
theorem till_tail {i : Nat} {o : Oper} {f : Nat} {l : Array Bool} {a : Act} {w : World} (hr : Region.ready md ops l = [i]) (hin : n ≤ i) (ho : ops[i]? = some o)
    (h : ∀ K' : Act → World → Prop, Shut (∀ a w, wpTill P md ops Q S n f (l.setIfInBounds i true) a w → K' a w) → if Region.wanted o (yielded ops a.tmps) = true then Oper.wp P o a w K' Q else K' (a.put o.dst undef) w) :
    wpTill P md ops Q S n (f + 1) l a w := by
  refine ⟨fun h0 => (by rw [hr] at h0; cases h0), fun j hj => ?_⟩
  rw [hr] at hj
  obtain rfl : j = i := by simpa using hj
  exact wpOp_step ho (fun K' hK => h K' (fun a w hW => hK a w ⟨fun h => by omega, hW⟩))

theorem till_done {l : Array Bool} {a : Act} {w : World} (hr : Region.ready md ops l = []) (h : Q .normal a w) : ∀ f, wpTill P md ops Q S n f l a w
  | 0 => ⟨hr, h⟩
  | _ + 1 => ⟨fun _ => h, fun i hi => by rw [hr] at hi; cases hi⟩

theorem wp_region_till {id : Nat} {a : Act} {w : World} (S : World → Prop) (n : Nat) (hm : P.follows .mixedOrders = true) (hn : n < ops.size) (hsk : Region.sinkB .any ops n = true) (hch : Region.chainB .any ops n = true) (hs : Region.noSelect ops = true)
    (h : Inv .any ops n (Array.replicate ops.size false) → wpTill P .any ops Q S n ops.size (Array.replicate ops.size false) a w.drew) : (Code.region id ops true).wp P Q a w := by
  refine wp_region_any hm (any_of_till _ _ _ _ (h ⟨⟨by simp, fun j oj _ hl => ?_, fun t _ ht => ?_⟩, hn, hsk, hch, hs⟩))
  · rw [getD_replicate_false] at hl; cases hl
  · simp [ht]
end Go.Proofs.YtehlppaidgkpaaaGreatDoor.Dg
namespace Go.Proofs.YtehlppaidgkpaaaGreatDoor.Fd
open Go.RowKit
set_option linter.unusedVariables false
set_option linter.unusedSimpArgs false
theorem results_cell1 {fn : Func} {p : Tmp} {ty : TypeId} (h : fn.results = #[.cell p ty]) (tmps : Array Value) (P : Program) (w : World) :
    (results fn tmps).run P w = ((asAddr (tmps.getD p undef)).run P w).andThen fun a w₁ => (loadVar ty a).run P w₁ := by
  simp only [results, h]
  simp [Sem.run_bind, Result.andThen]
/-- A function that ends with an array, which lies in a cell of its own. -/
theorem ret_array {P : Program} {fn : Func} {p : Tmp} {ty : TypeId} {d : TypeDesc} {Q : Ending → World → Prop} {tmps : Array Value} {w : World} {b : Nat} (cs : List Value) (h : fn.results = #[.cell p ty])
    (hp : tmps.getD p undef = .pointer (some ⟨b, 0, none⟩)) (hr : w.rangeAt b 0 cs) (hu : P.underlying ty = some d) (hd : d.isRow = true) (hi : (P.info? ty).map (·.size) = some cs.length)
    (hq : Q (.returned (.agg cs.toArray)) w) : bodyPost P fn Q .ret ⟨tmps, []⟩ w := by
  refine bodyPost_ret (v := .agg cs.toArray) ?_ rfl hq
  rw [results_cell1 h]
  have hl := run_loadVar_mid (P := P) w b 0 ty cs d hr hu hd hi
  simp [hp, asAddr, hl]
theorem below_setCells (b : Nat) {B : Nat} (hB : B ≤ b) {a : World} : ∀ (vs : List Value) (o : Nat) (w : World), Below B a w → Below B a (w.setCells b o vs)
  | [], _, _, h => h
  | v :: r, o, w, h => by rw [World.setCells]; exact below_setCells b hB r (o + 1) _ (h.setCell hB _)
theorem size_setCells (b : Nat) : ∀ (vs : List Value) (o : Nat) (w : World), (w.setCells b o vs).heap.size = w.heap.size
  | [], _, _ => rfl
  | v :: r, o, w => by rw [World.setCells, size_setCells b r (o + 1)]; simp [World.setCell]
theorem sizeB_setCells (b : Nat) : ∀ (vs : List Value) (o : Nat) (w : World), (w.setCells b o vs).heap.size = w.heap.size
  | [], _, _ => rfl
  | v :: r, o, w => by rw [World.setCells, sizeB_setCells b r (o + 1)]; simp [World.setCell]
theorem belowB_setCells (b : Nat) {B : Nat} (hB : B ≤ b) {a : World} : ∀ (vs : List Value) (o : Nat) (w : World), Below B a w → Below B a (w.setCells b o vs)
  | [], _, _, h => h
  | v :: r, o, w, h => by rw [World.setCells]; exact belowB_setCells b hB r (o + 1) _ (h.setCell hB _)
theorem rangeAt_new (w : World) (C : Array Value) (t : TypeId) : (w.alloc (.cells C t)).rangeAt w.heap.size 0 C.toList := fun j v hv => by
  rw [World.cell?_alloc_at C t _ _ rfl]
  simpa using hv
theorem there_new (w : World) (C : Array Value) (t : TypeId) (n : Nat) (hn : n ≤ C.size) : (w.alloc (.cells C t)).there w.heap.size 0 n := fun j hj => by
  refine ⟨?_, World.frozen?_alloc_at C t _ _ rfl⟩
  rw [World.cell?_alloc_at C t _ _ rfl]
  simp
  omega
/-- A world that differs in what it drew alone. -/
structure Sm (w w' : World) : Prop where
  os : w'.os = w.os
  tape : w'.tape = w.tape
  output : w'.output = w.output
  heap : w'.heap = w.heap
theorem Sm.refl (w : World) : Sm w w := ⟨rfl, rfl, rfl, rfl⟩
theorem Sm.cell {w v : World} (h : Sm w v) (p : Addr) : v.cell? p = w.cell? p := World.cell?_of_block (by rw [h.heap])
theorem Sm.frozen {w v : World} (h : Sm w v) (p : Addr) : v.frozen? p = w.frozen? p := World.frozen?_of_block (by rw [h.heap])

theorem setCells_os (b : Nat) : ∀ (vs : List Value) (o : Nat) (w : World), (w.setCells b o vs).os = w.os
  | [], _, _ => rfl
  | v :: r, o, w => by rw [World.setCells, setCells_os b r (o + 1)]; rfl
theorem setCells_tape (b : Nat) : ∀ (vs : List Value) (o : Nat) (w : World), (w.setCells b o vs).tape = w.tape
  | [], _, _ => rfl
  | v :: r, o, w => by rw [World.setCells, setCells_tape b r (o + 1)]; rfl
theorem setCells_output (b : Nat) : ∀ (vs : List Value) (o : Nat) (w : World), (w.setCells b o vs).output = w.output
  | [], _, _ => rfl
  | v :: r, o, w => by rw [World.setCells, setCells_output b r (o + 1)]; rfl

/-- From w to w' nothing of what was there is changed but n cells of block g from o on; what could be written there can be still. -/
structure Touch (w w' : World) (g o n : Nat) : Prop where
  os : w'.os = w.os
  tape : w'.tape = w.tape
  output : w'.output = w.output
  size : w.heap.size ≤ w'.heap.size
  block : ∀ k, k < w.heap.size → k ≠ g → w'.heap[k]? = w.heap[k]?
  cell : ∀ j, (j < o ∨ o + n ≤ j) → w'.cell? ⟨g, j, none⟩ = w.cell? ⟨g, j, none⟩
  there : ∀ o' n', w.there g o' n' → w'.there g o' n'

theorem Sm.touch {w v : World} (h : Sm w v) (g o n : Nat) : Touch w v g o n :=
  ⟨h.os, h.tape, h.output, by rw [h.heap]; exact Nat.le_refl _, fun k _ _ => by rw [h.heap], fun j _ => h.cell _, fun o' n' ht j hj => by rw [h.cell, h.frozen]; exact ht j hj⟩
theorem Touch.refl (w : World) (g o n : Nat) : Touch w w g o n := (Sm.refl w).touch g o n
theorem Touch.trans {a b c : World} {g o n : Nat} (h : Touch a b g o n) (k : Touch b c g o n) : Touch a c g o n :=
  ⟨k.os.trans h.os, k.tape.trans h.tape, k.output.trans h.output, Nat.le_trans h.size k.size, fun i hi hne => (k.block i (Nat.lt_of_lt_of_le hi h.size) hne).trans (h.block i hi hne), fun j hj => (k.cell j hj).trans (h.cell j hj), fun o' n' ht => k.there o' n' (h.there o' n' ht)⟩
theorem Touch.setCells {a b : World} {g o n : Nat} (h : Touch a b g o n) (o' : Nat) (vs : List Value) (h1 : o ≤ o') (h2 : o' + vs.length ≤ o + n) : Touch a (b.setCells g o' vs) g o n := by
  refine h.trans ⟨?_, ?_, ?_, ?_, ?_, ?_, ?_⟩
  · exact setCells_os g vs o' b
  · exact setCells_tape g vs o' b
  · exact setCells_output g vs o' b
  · rw [sizeB_setCells]; exact Nat.le_refl _
  · intro k hk hne
    exact World.heap_setCells_other b g o' vs hk hne
  · intro j hj
    exact World.cell?_setCells_out g vs o' b ⟨g, j, none⟩ (fun _ _ => by rcases hj with h | h; exact .inl (by show j < o'; omega); exact .inr (by show o' + vs.length ≤ j; omega))
  · intro o2 n2 ht
    exact World.there_setCells ht g o' vs
theorem Touch.setCell {a b : World} {g o n : Nat} (h : Touch a b g o n) (j : Nat) (u : Value) (h1 : o ≤ j) (h2 : j < o + n) : Touch a (b.setCell ⟨g, j, none⟩ u) g o n :=
  h.setCells j [u] h1 (by simp; omega)
theorem Touch.drew {a b : World} {g o n : Nat} (h : Touch a b g o n) : Touch a b.drew g o n := ⟨h.os, h.tape, h.output, h.size, h.block, h.cell, h.there⟩
theorem Touch.toBelow {a b : World} {g o n B : Nat} (h : Touch a b g o n) (hg : B ≤ g) (hB : B ≤ a.heap.size) : Below B a b :=
  ⟨h.os, h.tape, h.output, h.size, fun k hk => h.block k (by omega) (by omega)⟩
theorem Touch.far {a b : World} {g o n : Nat} (h : Touch a b g o n) {p : Addr} (hp : p.block < a.heap.size) (hne : p.block ≠ g) : b.cell? p = a.cell? p := World.cell?_of_block (h.block p.block hp hne)
theorem Touch.farFrozen {a b : World} {g o n : Nat} (h : Touch a b g o n) {p : Addr} (hp : p.block < a.heap.size) (hne : p.block ≠ g) : b.frozen? p = a.frozen? p := World.frozen?_of_block (h.block p.block hp hne)
theorem val_eq {k : IntKind} {x y : Int} (h : x = y) : Value.int k x = Value.int k y := by rw [h]
end Go.Proofs.YtehlppaidgkpaaaGreatDoor.Fd
namespace Go.Proofs.YtehlppaidgkpaaaGreatDoor.Fd
set_option linter.unusedVariables false
variable {P : Program} {ops : Array Oper} {Q : Exit → Act → World → Prop} {md : Region.Mode} {S : World → Prop} {n : Nat}

/-- Whatever order is picked; S holds behind every operation of the head (the first n); the tail may do as it likes. -/
def wpTill (P : Program) (md : Region.Mode) (ops : Array Oper) (Q : Exit → Act → World → Prop) (S : World → Prop) (n : Nat) : Nat → Array Bool → Act → World → Prop
  | 0, l, a, w => Region.ready md ops l = [] ∧ Q .normal a w
  | f + 1, l, a, w =>
    (Region.ready md ops l = [] → Q .normal a w) ∧
    ∀ i, i ∈ Region.ready md ops l → wpOp P ops Q i (fun b u => (i < n → S u) ∧ wpTill P md ops Q S n f (l.setIfInBounds i true) b u) a w

theorem any_of_till (f : Nat) : ∀ (l : Array Bool) (a : Act) (w : World), wpTill P md ops Q S n f l a w → wpAny P md ops Q f l a w := by
  induction f with
  | zero => exact fun _ _ _ h => h
  | succ f ih => exact fun l a w h => ⟨h.1, fun i hi => wpOp_mono (fun b u k => ih _ b u k.2) (h.2 i hi)⟩

theorem till_first {i : Nat} {oi : Oper} {v : Value} (hi : ops[i]? = some oi) (hin : i < n) (hn : n < ops.size) (hsk : Region.sinkB md ops n = true) (hch : Region.chainB md ops n = true)
    (hsel : ∀ (j : Nat) (o : Oper) cs b, ops[j]? = some o → o.op ≠ .select cs b) (hQ : ∀ c a w, Q (.panic c) (a.put oi.dst v) w → Q (.panic c) a w) (f : Nat) :
    ∀ (l : Array Bool) (a : Act) (w : World), HeadInv md ops n l →
      (∀ j oj, ops[j]? = some oj → j ≠ i → l.getD j true = false → (∀ e ∈ oj.after, Region.binds md e = true → e.on ≠ i) → oi.apart ops oj = true) →
      i ∈ Region.ready md ops l → YieldsIf P ops S oi v a → S w → wpTill P md ops Q S n f (l.setIfInBounds i true) (a.put oi.dst v) w → wpTill P md ops Q S n (f + 1) l a w := by
  induction f with
  | zero =>
    intro l a w inv _ hr hy hS H
    refine ⟨fun h => (by rw [h] at hr; cases hr), fun j hj => ?_⟩
    by_cases hji : j = i
    · subst hji
      exact hy.wpOp hi hS ⟨fun _ => hS, H⟩
    · have h := ready_mono hj hji
      rw [H.1] at h
      cases h
  | succ f ih =>
    intro l a w inv hfree hr hy hS H
    refine ⟨fun h => (by rw [h] at hr; cases hr), fun j hj => ?_⟩
    by_cases hji : j = i
    · subst hji
      exact hy.wpOp hi hS ⟨fun _ => hS, H⟩
    have hun := (mem_ready.1 hr).1
    have hjn : j < n := by
      rcases Nat.lt_or_ge j n with h | h
      · exact h
      · exact absurd hj (tail_waits hsk hch hn inv _ i rfl hin hun j h)
    have h1 := H.2 j (ready_mono hj hji)
    obtain ⟨hjun, oj, hoj, hall⟩ := mem_ready.1 hj
    have hnot : ∀ e ∈ oj.after, Region.binds md e = true → e.on ≠ i := fun e he hb heq => by
      have h2 := hall e he hb
      rw [heq] at h2
      rw [getD_both hun] at h2
      cases h2
    have h2 := wpOp_putIf hoj (hfree j oj hoj hji hjun hnot) (fun cs b => hsel i oi cs b hi) (fun cs b => hsel j oj cs b hoj) hQ hy h1
    refine wpOp_mono (fun b u h3 => ?_) h2
    have hSu := h3.2.1 hjn
    refine ⟨fun _ => hSu, ih (l.setIfInBounds j true) b u (inv.set hj hjn) (fun k ok hk hki hku hno => ?_) (ready_mono hr (Ne.symm hji)) h3.1 hSu ?_⟩
    · refine hfree k ok hk hki ?_ hno
      by_cases hjk : j = k
      · subst hjk; exact hjun
      · rw [getD_set_ne true hjk] at hku; exact hku
    · rw [Array.setIfInBounds_comm _ _ hji]
      exact h3.2.2

/-- What is carried along: the head's invariant, and what the region's form gives once. -/
structure Inv (md : Region.Mode) (ops : Array Oper) (n : Nat) (l : Array Bool) : Prop where
  head : HeadInv md ops n l
  lt : n < ops.size
  sink : Region.sinkB md ops n = true
  chain : Region.chainB md ops n = true
  sel : Region.noSelect ops = true
theorem Inv.set {l : Array Bool} {i : Nat} (inv : Inv md ops n l) (hi : i ∈ Region.ready md ops l) (hin : i < n) : Inv md ops n (l.setIfInBounds i true) := ⟨inv.head.set hi hin, inv.lt, inv.sink, inv.chain, inv.sel⟩

/-- An operation of the head that yields under S is taken first. -/
theorem till_at (i d : Nat) (v : Value) {oi : Oper} {f : Nat} {l : Array Bool} {tmps : Array Value} {ds : List Deferred} {w : World} (inv : Inv md ops n l) (hi : ops[i]? = some oi) (hd : oi.dst = some d)
    (hin : i < n) (hf : Region.free md ops l i = true) (hr : (Region.ready md ops l).contains i = true)
    (hQ : ∀ c a w, Q (.panic c) (a.put oi.dst v) w → Q (.panic c) a w) (hS : S w) (hy : YieldsIf P ops S oi v ⟨tmps, ds⟩)
    (h : Inv md ops n (l.setIfInBounds i true) → wpTill P md ops Q S n f (l.setIfInBounds i true) ⟨tmps.setIfInBounds d v, ds⟩ w) : wpTill P md ops Q S n (f + 1) l ⟨tmps, ds⟩ w := by
  have hr' : i ∈ Region.ready md ops l := by simpa using hr
  refine till_first hi hin inv.lt inv.sink inv.chain (Region.noSelect_spec inv.sel) hQ f l _ w inv.head (Region.free_spec hi hf) hr' hy hS ?_
  rw [hd]
  exact h (inv.set hr' hin)

/-- A lone operation of the head comes up. -/
theorem till_head {i : Nat} {o : Oper} {f : Nat} {l : Array Bool} {a : Act} {w : World} (inv : Inv md ops n l) (hr : Region.ready md ops l = [i]) (hin : i < n) (ho : ops[i]? = some o)
    (h : ∀ K' : Act → World → Prop, Shut (∀ a w, S w → (Inv md ops n (l.setIfInBounds i true) → wpTill P md ops Q S n f (l.setIfInBounds i true) a w) → K' a w) → if Region.wanted o (yielded ops a.tmps) = true then Oper.wp P o a w K' Q else K' (a.put o.dst undef) w) :
    wpTill P md ops Q S n (f + 1) l a w := by
  have hi : i ∈ Region.ready md ops l := by rw [hr]; simp
  refine ⟨fun h0 => (by rw [hr] at h0; cases h0), fun j hj => ?_⟩
  rw [hr] at hj
  obtain rfl : j = i := by simpa using hj
  exact wpOp_step ho (fun K' hK => h K' (fun a w hS hW => hK a w ⟨fun _ => hS, hW (inv.set hi hin)⟩))

/-- A lone operation of the tail comes up. -/
theorem till_tail {i : Nat} {o : Oper} {f : Nat} {l : Array Bool} {a : Act} {w : World} (hr : Region.ready md ops l = [i]) (hin : n ≤ i) (ho : ops[i]? = some o)
    (h : ∀ K' : Act → World → Prop, Shut (∀ a w, wpTill P md ops Q S n f (l.setIfInBounds i true) a w → K' a w) → if Region.wanted o (yielded ops a.tmps) = true then Oper.wp P o a w K' Q else K' (a.put o.dst undef) w) :
    wpTill P md ops Q S n (f + 1) l a w := by
  refine ⟨fun h0 => (by rw [hr] at h0; cases h0), fun j hj => ?_⟩
  rw [hr] at hj
  obtain rfl : j = i := by simpa using hj
  exact wpOp_step ho (fun K' hK => h K' (fun a w hW => hK a w ⟨fun h => by omega, hW⟩))

theorem till_done {l : Array Bool} {a : Act} {w : World} (hr : Region.ready md ops l = []) (h : Q .normal a w) : ∀ f, wpTill P md ops Q S n f l a w
  | 0 => ⟨hr, h⟩
  | _ + 1 => ⟨fun _ => h, fun i hi => by rw [hr] at hi; cases hi⟩

theorem wp_region_till {id : Nat} {a : Act} {w : World} (S : World → Prop) (n : Nat) (hm : P.follows .mixedOrders = true) (hn : n < ops.size) (hsk : Region.sinkB .any ops n = true) (hch : Region.chainB .any ops n = true) (hs : Region.noSelect ops = true)
    (h : Inv .any ops n (Array.replicate ops.size false) → wpTill P .any ops Q S n ops.size (Array.replicate ops.size false) a w.drew) : (Code.region id ops true).wp P Q a w := by
  refine wp_region_any hm (any_of_till _ _ _ _ (h ⟨⟨by simp, fun j oj _ hl => ?_, fun t _ ht => ?_⟩, hn, hsk, hch, hs⟩))
  · rw [getD_replicate_false] at hl; cases hl
  · simp [ht]
end Go.Proofs.YtehlppaidgkpaaaGreatDoor.Fd
namespace Go.Proofs.YtehlppaidgkpaaaGreatDoor
abbrev rwLink : Go.Conc.Locks.RwLink := { lock := 288, unlock := 9999, ilock := 9999, iunlock := 9999, lockSlow := 9999, unlockSlow := 9999, disable := 82, enable := 85, acquire := 119, relMerge := 81, cas32 := 9999, add32 := 120, tMutex := 128, tIMutex := 126, tPMutex := 171, tPIMutex := 171, tPI32 := 205, tUP := 170, tNoCopy := 124, tU32 := 116, rlock := 79, runlock := 54, wlock := 287, wunlock := 9999, i32add := 83, raceRead := 80, release := 9999, rUnlockSlow := 84, semacqR := 118, semacqW := 9999, semrel := 122, sfatal := 121, tRW := 133, tPRW := 168, tAI32 := 131, tPAI32 := 203, tPU32 := 172, tANoCopy := 129 }
theorem rwCore : Go.Conc.Locks.RwCore Tryz.prog rwLink :=
  ⟨Tryz.func83, Tryz.func80, Tryz.func82, Tryz.func85, Tryz.func119, Tryz.func81, Tryz.func120, Tryz.underlying133, Tryz.runUnderlying133, Tryz.sizeOf133, Tryz.isAgg133, Tryz.zeroValue133, Tryz.underlying131, Tryz.runUnderlying131, Tryz.sizeOf131, Tryz.isAgg131, Tryz.zeroValue131, Tryz.underlying168, Tryz.runUnderlying168, Tryz.sizeOf168, Tryz.isAgg168, Tryz.zeroValue168, Tryz.underlying203, Tryz.runUnderlying203, Tryz.sizeOf203, Tryz.isAgg203, Tryz.zeroValue203, Tryz.underlying172, Tryz.runUnderlying172, Tryz.sizeOf172, Tryz.isAgg172, Tryz.zeroValue172, Tryz.underlying129, Tryz.runUnderlying129, Tryz.sizeOf129, Tryz.isAgg129, Tryz.zeroValue129, Tryz.underlying116, Tryz.runUnderlying116, Tryz.sizeOf116, Tryz.isAgg116, Tryz.zeroValue116, Tryz.underlying128, Tryz.runUnderlying128, Tryz.sizeOf128, Tryz.isAgg128, Tryz.zeroValue128, Tryz.underlying171, Tryz.runUnderlying171, Tryz.sizeOf171, Tryz.isAgg171, Tryz.zeroValue171, Tryz.underlying205, Tryz.runUnderlying205, Tryz.sizeOf205, Tryz.isAgg205, Tryz.zeroValue205, Tryz.underlying170, Tryz.runUnderlying170, Tryz.sizeOf170, Tryz.isAgg170, Tryz.zeroValue170, Tryz.underlying21, Tryz.runUnderlying21, Tryz.sizeOf21, Tryz.isAgg21, Tryz.zeroValue21, (by kernel_rfl), (by kernel_rfl)⟩
theorem rwRLib : Go.Conc.Locks.RwRLib Tryz.prog rwLink := ⟨rwCore, Tryz.func79, Tryz.func54⟩
end Go.Proofs.YtehlppaidgkpaaaGreatDoor
