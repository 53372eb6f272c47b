import Derived.Test.YtgmfiljjogdccaaDoorProg
import Derived.WalkKit
import Derived.Deep.QuietTactic
import Derived.BigQuiet
import Derived.Deep.Draws
import Derived.Laws.BitsAllLaws
import Derived.Laws.AppendOwnNone
import Derived.Deep.DeepMust
import Derived.Lib.LazyBuf
import Derived.Test.YtgmfiljjogdccaaDoorPart00
import Derived.Test.YtgmfiljjogdccaaDoorPart01
import Derived.Deep.CutRange
import Derived.Laws.Externs
import Derived.Deep.RegionHeld3
import Derived.Deep.AppendLies
import Derived.Deep.DrawnRows
namespace Go.Proofs.YtgmfiljjogdccaaDoor
open Go.RowKit

/-- A list of bytes behind a slice value. -/
def View (w : World) (v : Value) (zs : List Int) : Prop :=
  ∃ a cap, v = .slice a zs.length cap ∧ zs.length ≤ cap ∧ cap ≤ maxLen ∧ (a = none → cap = 0) ∧
    (zs = [] ∨ ∃ b off, a = some ⟨b, off, none⟩ ∧ ∀ i, i < zs.length → w.cell? ⟨b, off + i, none⟩ = some (.int .u8 (zs.getD i 0)))

theorem ret_bool {a b : Bool} (h : a = b) : Ending.returned (.bool a) = .returned (.bool b) := by rw [h]
theorem ext_getD {xs ys : List Int} {n : Nat} (hx : xs.length = n) (hy : ys.length = n) (h : ∀ j, j < n → xs.getD j 0 = ys.getD j 0) : xs = ys := by
  apply List.ext_getElem (by omega)
  intro i h1 h2
  have := h i (by omega)
  simpa [List.getD, List.getElem?_eq_getElem h1, List.getElem?_eq_getElem h2] using this

set_option maxHeartbeats 400000 in
theorem same_core (b1 o1 b2 o2 c1 c2 n : Nat) (xs ys : List Int) (w : World) (hx : xs.length = n) (hy : ys.length = n) (hn : n ≤ 9223372036854775807)
    (h1 : ∀ i, i < n → w.cell? ⟨b1, o1 + i, none⟩ = some (.int .u8 (xs.getD i 0)))
    (h2 : ∀ i, i < n → w.cell? ⟨b2, o2 + i, none⟩ = some (.int .u8 (ys.getD i 0))) :
    Calls Tryd.prog 30 #[.slice (some ⟨b1, o1, none⟩) n c1, .slice (some ⟨b2, o2, none⟩) n c2] w fun e w' => e = .returned (.bool (decide (xs = ys))) ∧ ∃ m, w' = w.drewN m := by
  have HX : Hid (xs.length = n) := hx
  have HY : Hid (ys.length = n) := hy
  clear hx hy
  go_enter Tryd.func30, Tryd.ntmps30
  go_wp2
  go_loopw [5] (fun i wr => ∃ k : Nat, k ≤ n ∧ i = .int .i64 k ∧ Hid (∀ j, j < k → xs.getD j 0 = ys.getD j 0) ∧ ∃ m, wr = w.drewN m) (fun i _ => n - (intOf i).toNat)
  case atStart => exact ⟨0, Nat.zero_le _, rfl, (fun j hj => by omega), 0, rfl⟩
  case round =>
    obtain ⟨k, hk, rfl, HE, m, rfl⟩ := hrel
    by_cases hlt : k < n
    · have g1 := h1 k hlt
      have g2 := h2 k hlt
      clear h1 h2
      go_wp2
      go_quiet (fail)
      go_wp2
      · have hne : (xs[k]?.getD 0 != ys[k]?.getD 0) = true := by assumption
        go_ret
        refine ⟨ret_bool ?_, _, World.drewN_drewN _ _ _⟩
        have : xs ≠ ys := by
          intro h
          subst h
          simp at hne
        simp [this]
      · have heq : (xs[k]?.getD 0 != ys[k]?.getD 0) = false := by assumption
        go_roundw
        case rel =>
          refine ⟨k + 1, by omega, by go_num, ?_, _, rfl⟩
          intro j hj
          by_cases hjk : j < k
          · exact HE.out j hjk
          · obtain rfl : j = k := by omega
            simpa using heq
        case measure => simp [intOf]; omega
    · go_wp2
      go_ret
      have := ext_getD HX.out HY.out (fun j hj => HE.out j (by omega))
      exact ⟨ret_bool (by simp [this]), _, rfl⟩

theorem same_zero (a1 a2 : Option Addr) (c1 c2 : Nat) (w : World) :
    Calls Tryd.prog 30 #[.slice a1 0 c1, .slice a2 0 c2] w fun e w' => e = .returned (.bool true) ∧ ∃ m, w' = w.drewN m := by
  go_enter Tryd.func30, Tryd.ntmps30
  go_wp2
  go_loop [5] (fun i => i = .int .i64 0) (fun _ => 0)
  case atStart => rfl
  case round =>
    subst hrel
    go_wp2
    go_ret
    exact ⟨rfl, 0, rfl⟩

theorem same_unlike (a1 a2 : Option Addr) (l1 l2 c1 c2 : Nat) (w : World) (h : l1 ≠ l2) :
    Calls Tryd.prog 30 #[.slice a1 l1 c1, .slice a2 l2 c2] w fun e w' => e = .returned (.bool false) ∧ ∃ m, w' = w.drewN m := by
  have hb : ((l1 : Int) != (l2 : Int)) = true := by rw [bne_iff_ne]; omega
  clear h
  go_enter Tryd.func30, Tryd.ntmps30
  go_wp2
  go_ret
  exact ⟨rfl, 0, rfl⟩

/-- cofferbook.SameBytes. -/
theorem same_any (v1 v2 : Value) (xs ys : List Int) (w : World) (h1 : View w v1 xs) (h2 : View w v2 ys) :
    Calls Tryd.prog 30 #[v1, v2] w fun e w' => e = .returned (.bool (decide (xs = ys))) ∧ ∃ m, w' = w.drewN m := by
  obtain ⟨a1, c1, rfl, hl1, hm1, _, k1⟩ := h1
  obtain ⟨a2, c2, rfl, hl2, hm2, _, k2⟩ := h2
  by_cases hl : xs.length = ys.length
  · rcases k1 with rfl | ⟨b1, o1, rfl, g1⟩
    · have : ys = [] := List.eq_nil_of_length_eq_zero (by simpa using hl.symm)
      subst this
      simpa using same_zero a1 a2 c1 c2 w
    · rcases k2 with rfl | ⟨b2, o2, rfl, g2⟩
      · have : xs = [] := List.eq_nil_of_length_eq_zero (by simpa using hl)
        subst this
        simpa using same_zero _ a2 c1 c2 w
      · rw [← hl]
        exact same_core b1 o1 b2 o2 c1 c2 xs.length xs ys w rfl hl.symm (by unfold maxLen at hm1; omega) g1 (by rw [hl]; exact g2)
  · have hne : xs ≠ ys := fun h => hl (by rw [h])
    have hd : decide (xs = ys) = false := by simpa using hne
    rw [hd]
    exact same_unlike a1 a2 _ _ c1 c2 w hl
end Go.Proofs.YtgmfiljjogdccaaDoor
namespace Go.Proofs.YtgmfiljjogdccaaDoor
/-- Numbers that are bytes. -/
def AllBytes (zs : List Int) : Prop := ∀ i, 0 ≤ zs.getD i 0 ∧ zs.getD i 0 < 256
end Go.Proofs.YtgmfiljjogdccaaDoor
namespace Go.Proofs.YtgmfiljjogdccaaDoor
open Go.RowKit

theorem Tryd.info5 : (Tryd.prog.info? 5).map (fun i => (i.zero, i.size, i.bytes)) = some (some (.int .u8 0), 1, 1) := by kernel_rfl

/-- The marks behind a copy. -/
def marks (k : Nat) : List Int := (List.range k).map fun (i : Nat) => (181 + (i : Int))
theorem marks_length (k : Nat) : (marks k).length = k := by simp [marks]
theorem marks_succ (k : Nat) : marks (k + 1) = marks k ++ [(181 + (k : Int))] := by simp [marks, List.range_succ]
/-- Bytes as cells. -/
def cellsU8 (zs : List Int) : List Value := zs.map (Value.int .u8)
theorem cellsU8_append (a b : List Int) : cellsU8 (a ++ b) = cellsU8 a ++ cellsU8 b := by simp [cellsU8]
theorem cellsU8_length (a : List Int) : (cellsU8 a).length = a.length := by simp [cellsU8]
theorem cellsU8_one (a : List Int) : ∀ u ∈ cellsU8 a, u.oneCell' = true := by
  intro u hu
  obtain ⟨_, _, rfl⟩ := List.mem_map.1 hu
  rfl
theorem cellsU8_at (a : List Int) (w : World) (b off : Nat) (h : ∀ i, i < a.length → w.cell? ⟨b, off + i, none⟩ = some (.int .u8 (a.getD i 0))) :
    ∀ j u, (cellsU8 a)[j]? = some u → w.cell? ((⟨b, off, none⟩ : Addr).add j) = some u := by
  intro j u hu
  simp only [cellsU8, List.getElem?_map, Option.map_eq_some_iff] at hu
  obtain ⟨z, hz, rfl⟩ := hu
  have hj : j < a.length := (List.getElem?_eq_some_iff.1 hz).1
  have := h j hj
  rw [List.getD_eq_getElem?_getD, hz] at this
  rw [Addr.add_lit]
  simpa using this

set_option maxHeartbeats 800000 in
set_option maxRecDepth 100000 in
theorem copy_some (x : Addr) (n cap : Nat) (zs : List Int) (w : World) (hz : Hid (zs.length = n)) (hn : n + 70 ≤ 140737488355328)
    (h1 : Hid (∀ j u, (cellsU8 zs)[j]? = some u → w.cell? (x.add j) = some u)) :
    Calls Tryd.prog 8 #[.slice (some x) n cap] w fun e w' => ∃ g c, e = .returned (.slice (some ⟨g, 0, none⟩) n c) ∧ w'.ownsRow w.heap.size 5 1 (.slice (some ⟨g, 0, none⟩) (n + 70) c) (n + 70) (cellsU8 (zs ++ marks 70)) ∧ Below w.heap.size w w' := by
  obtain ⟨i0, hi, hz0, hz1, hz2⟩ := info_parts Tryd.info5
  go_enter Tryd.func8, Tryd.ntmps8
  go_wp2_with (first
    | (at_builtin; go_must (refine wpList_append_own _ rfl (.tmp 6) (.tmp 7) 22 rfl w.heap.size 5 i0 (.int .u8 0) 1 1 Tryd.underlying22 hi hz0 hz1 hz2 rfl (by decide) _ 0 [] rfl (World.ownsRow_nil _ _ _ _) x n cap (cellsU8 zs) rfl ?_ h1.out (cellsU8_one zs) ?_ ?_ (Nat.le_refl _) ?_)))
  · rw [cellsU8_length, hz.out, Nat.mul_one]
  · unfold maxLen; omega
  · omega
  intro v1 w1 hown hgrow hnil
  have hb0 : Below w.heap.size w w1 := (Below.refl _ _).grown hgrow (Nat.le_refl _) (by intro k hk; cases hk)
  have HB : Hid (Below w.heap.size w w1) := hb0
  clear hgrow hb0 hnil
  go_wp2
  go_loopw [3, 4] (fun v i wr => ∃ k : Nat, k ≤ 70 ∧ i = .int .i64 k ∧ wr.ownsRow w.heap.size 5 1 v (n + k) (cellsU8 (zs ++ marks k)) ∧ Hid (Below w.heap.size w wr)) (fun _ i _ => 70 - (intOf i).toNat)
  case atStart => exact ⟨0, by omega, rfl, by simpa [marks] using hown, HB⟩
  case round =>
    obtain ⟨k, hk, rfl, hown2, HB2⟩ := hrel
    clear hown HB
    by_cases hlt : k < 70
    · go_wp2_with (first
        | (at_builtin; go_must (refine wpList_append_own _ rfl (.tmp 13) (.tmp 17) 22 rfl w.heap.size 5 i0 (.int .u8 0) 1 1 Tryd.underlying22 hi hz0 hz1 hz2 rfl (by decide) _ _ _ rfl (hown2.alloc _) ⟨wr.heap.size, 0, none⟩ 1 1 [.int .u8 (181 + (k : Int))] rfl rfl ?_ ?_ ?_ ?_ ?_ ?_)))
      · intro j u hj
        match j, hj with
        | 0, hj => simp at hj; subst hj; simp [Addr.add]
      · intro u hu; simp at hu; subst hu; rfl
      · unfold maxLen; omega
      · omega
      · have := HB2.out.size; simp; omega
      intro v2 w2 hown3 hgrow2 hnil2
      have HB3 : Hid (Below w.heap.size w w2) := (HB2.out.alloc HB2.out.size _).grown hgrow2 (by have := HB2.out.size; simp; omega) (fun q hq => (hown2.lt q hq).1)
      have ho3 : w2.ownsRow w.heap.size 5 1 v2 (n + (k + 1)) (cellsU8 (zs ++ marks (k + 1))) := by
        rw [marks_succ, ← List.append_assoc, cellsU8_append]
        simpa [cellsU8, Nat.add_assoc] using hown3
      have HO3 : Hid (w2.ownsRow w.heap.size 5 1 v2 (n + (k + 1)) (cellsU8 (zs ++ marks (k + 1)))) := ho3
      clear ho3 hown3 hgrow2 hnil2 hown2 HB2
      go_wp2
      go_roundw
      case rel => exact ⟨k + 1, by omega, by go_num, HO3, HB3⟩
      case measure => simp [intOf]; omega
    · obtain rfl : k = 70 := by omega
      obtain ⟨hlen, hcase⟩ := hown2
      rcases hcase with ⟨_, hc⟩ | ⟨g, c, cur, rfl, hg1, hg2, hg3, hg4, hg5, hg6⟩
      · omega
      have HO : Hid (wr.ownsRow w.heap.size 5 1 (.slice (some ⟨g, 0, none⟩) (n + 70) c) (n + 70) (cellsU8 (zs ++ marks 70))) := ⟨hlen, .inr ⟨g, c, cur, rfl, hg1, hg2, hg3, hg4, hg5, hg6⟩⟩
      clear hlen hg1 hg2 hg5 hg6 hlt
      unfold maxLen at hg4
      go_wp2
      go_ret
      exact ⟨g, c, rfl, HO, HB2⟩
set_option maxHeartbeats 800000 in
set_option maxRecDepth 100000 in
theorem copy_nil (w : World) :
    Calls Tryd.prog 8 #[.slice none 0 0] w fun e w' => ∃ g c, e = .returned (.slice (some ⟨g, 0, none⟩) 0 c) ∧ w'.ownsRow w.heap.size 5 1 (.slice (some ⟨g, 0, none⟩) 70 c) 70 (cellsU8 (marks 70)) ∧ Below w.heap.size w w' := by
  obtain ⟨i0, hi, hz0, hz1, hz2⟩ := info_parts Tryd.info5
  go_enter Tryd.func8, Tryd.ntmps8
  go_wp2_with (first
    | (at_builtin; go_must (refine wpList_append_own_none rfl (.tmp 6) (.tmp 7) 22 rfl w.heap.size 5 i0 1 Tryd.underlying22 hi _ 0 [] rfl (World.ownsRow_nil _ _ _ _) rfl ?_)))
  go_wp2
  go_loopw [3, 4] (fun v i wr => ∃ k : Nat, k ≤ 70 ∧ i = .int .i64 k ∧ wr.ownsRow w.heap.size 5 1 v k (cellsU8 (marks k)) ∧ Hid (Below w.heap.size w wr)) (fun _ i _ => 70 - (intOf i).toNat)
  case atStart => exact ⟨0, by omega, rfl, World.ownsRow_nil _ _ _ _, Below.refl _ _⟩
  case round =>
    obtain ⟨k, hk, rfl, hown2, HB2⟩ := hrel
    by_cases hlt : k < 70
    · go_wp2_with (first
        | (at_builtin; go_must (refine wpList_append_own _ rfl (.tmp 13) (.tmp 17) 22 rfl w.heap.size 5 i0 (.int .u8 0) 1 1 Tryd.underlying22 hi hz0 hz1 hz2 rfl (by decide) _ _ _ rfl (hown2.alloc _) ⟨wr.heap.size, 0, none⟩ 1 1 [.int .u8 (181 + (k : Int))] rfl rfl ?_ ?_ ?_ ?_ ?_ ?_)))
      · intro j u hj
        match j, hj with
        | 0, hj => simp at hj; subst hj; simp [Addr.add]
      · intro u hu; simp at hu; subst hu; rfl
      · unfold maxLen; omega
      · omega
      · have := HB2.out.size; simp; omega
      intro v2 w2 hown3 hgrow2 hnil2
      have HB3 : Hid (Below w.heap.size w w2) := (HB2.out.alloc HB2.out.size _).grown hgrow2 (by have := HB2.out.size; simp; omega) (fun q hq => (hown2.lt q hq).1)
      have ho3 : w2.ownsRow w.heap.size 5 1 v2 (k + 1) (cellsU8 (marks (k + 1))) := by
        rw [marks_succ, cellsU8_append]
        simpa [cellsU8] using hown3
      have HO3 : Hid (w2.ownsRow w.heap.size 5 1 v2 (k + 1) (cellsU8 (marks (k + 1)))) := ho3
      clear ho3 hown3 hgrow2 hnil2 hown2 HB2
      go_wp2
      go_roundw
      case rel => exact ⟨k + 1, by omega, by go_num, HO3, HB3⟩
      case measure => simp [intOf]; omega
    · obtain rfl : k = 70 := by omega
      obtain ⟨hlen, hcase⟩ := hown2
      rcases hcase with ⟨_, hc⟩ | ⟨g, c, cur, rfl, hg1, hg2, hg3, hg4, hg5, hg6⟩
      · omega
      have HO : Hid (wr.ownsRow w.heap.size 5 1 (.slice (some ⟨g, 0, none⟩) 70 c) 70 (cellsU8 (marks 70))) := ⟨hlen, .inr ⟨g, c, cur, rfl, hg1, hg2, hg3, hg4, hg5, hg6⟩⟩
      clear hlen hg1 hg2 hg5 hg6 hlt
      unfold maxLen at hg4
      go_wp2
      go_ret
      exact ⟨g, c, rfl, HO, HB2⟩
end Go.Proofs.YtgmfiljjogdccaaDoor
namespace Go.Proofs.YtgmfiljjogdccaaDoor
open Go.RowKit
set_option linter.unusedVariables false
theorem Tryd.underlying34 : Tryd.prog.underlying 34 = some (.slice 50) := by kernel_rfl
theorem Tryd.info50 : (Tryd.prog.info? 50).map (fun i => (i.zero, i.size, i.bytes)) = some (some (.int .u32 0), 1, 4) := by kernel_rfl
set_option maxHeartbeats 800000 in
set_option maxRecDepth 100000 in
theorem clone_ok (x : Addr) (n cap : Nat) (vs : List Value) (w : World) (hl : Hid (vs.length = n)) (hn : n ≤ 64) (hc : Hid (∀ j u, vs[j]? = some u → w.cell? (x.add j) = some u)) (h1 : Hid (∀ u ∈ vs, u.oneCell' = true)) :
    Calls Tryd.prog 41 #[.slice (some x) n cap] w fun e w' => ∃ v, e = .returned v ∧ w'.ownsRow w.heap.size 50 1 v n vs ∧ Below w.heap.size w w' := by
  obtain ⟨i0, hi, hz0, hz1, hz2⟩ := info_parts Tryd.info50
  have hnl : ∀ w, (binOp .eql 34 (.slice (some x) n cap) (.slice none 0 0)).run Tryd.prog w = .ok (.bool false) w := fun w => run_eql_slice_nil w 34 50 (some x) n cap Tryd.underlying34
  go_enter Tryd.func41, Tryd.ntmps41
  go_wp2_with (first
    | (at_builtin; go_must (refine wpList_append_own _ rfl (.tmp 5) (.tmp 6) 34 rfl w.heap.size 50 i0 (.int .u32 0) 1 4 Tryd.underlying34 hi hz0 hz1 hz2 rfl (by decide) _ 0 [] rfl (World.ownsRow_made w #[] 0 (Nat.le_refl _) (by unfold maxLen; omega) rfl) x n cap vs rfl ?_ ?_ h1.out ?_ ?_ ?_ ?_)))
  · rw [hl.out, Nat.mul_one]
  · intro j u hu
    have := hc.out j u hu
    rw [World.cell?_alloc_lt w _ _ (World.block_lt_of_cell? w _ this)]
    exact this
  · unfold maxLen; omega
  · omega
  · simp
  intro v1 w1 hown hgrow hnil
  have HO : Hid (w1.ownsRow w.heap.size 50 1 v1 n vs) := hown
  have HB : Hid (Below w.heap.size w w1) := ((Below.refl _ _).alloc (Nat.le_refl _) _).grown hgrow (by simp) (by intro k hk; cases hk; exact Nat.le_refl _)
  clear hown hgrow hnil
  go_wp2
  go_ret
  exact ⟨_, rfl, HO.out, HB.out⟩
end Go.Proofs.YtgmfiljjogdccaaDoor
namespace Go.Proofs.YtgmfiljjogdccaaDoor
open Go.RowKit
set_option linter.unusedVariables false
/-- The first k bytes as a number. -/
def numK (f : Nat → Nat) : Nat → Nat
  | 0 => 0
  | k + 1 => numK f k * 256 + f k
theorem numK_lt {f : Nat → Nat} (hf : ∀ i, f i < 256) : ∀ k, numK f k < 256 ^ k
  | 0 => by show 0 < _; decide
  | k + 1 => by have h1 := numK_lt hf k; have h2 := hf k; unfold numK; rw [Nat.pow_succ]; omega
theorem wraps_u64 (n : Int) (h₀ : 0 ≤ n) (h₁ : n < 2 ^ 64) : IntKind.u64.wrap n = n := by simp [IntKind.wrap, IntKind.bits, IntKind.signed]; omega
theorem joins64 (x y : Nat) (hx1 : x < 72057594037927936) (hy : y < 256) : bits .or .u64 ((x : Int) * 256) (y : Int) = ((x * 256 + y : Nat) : Int) := by
  have := bits_join .u64 64 (by decide) wraps_u64 8 ((x : Int) * 256) (y : Int) (by omega) (by omega) (by omega) (by omega) (by omega) (by omega)
  rw [this]
  omega
set_option maxHeartbeats 800000 in
set_option maxRecDepth 100000 in
theorem number_ok (b o n cap : Nat) (f : Nat → Nat) (w : World) (h8 : 8 ≤ n) (hnc : n ≤ cap) (hc : ∀ i, i < 8 → w.cell? ⟨b, o + i, none⟩ = some (.int .u8 (f i : Nat))) (hf : ∀ i, f i < 256) :
    Calls Tryd.prog 73 #[.slice (some ⟨b, o, none⟩) n cap] w fun e w' => e = .returned (.int .u64 (numK f 8 : Nat)) ∧ w' = w := by
  have HC : Hid (∀ i, i < 8 → w.cell? ⟨b, o + i, none⟩ = some (.int .u8 (f i : Nat))) := hc
  have HF : Hid (∀ i, f i < 256) := hf
  have hcap : (8 : Int) ≤ (cap : Nat) := by omega
  clear hc hf
  go_enter Tryd.func73, Tryd.ntmps73
  go_wp2
  go_loopw [3, 9] (fun vn i wr => ∃ k : Nat, k ≤ 8 ∧ i = .int .i64 k ∧ vn = .int .u64 (numK f k : Nat) ∧ wr = w) (fun _ i _ => 8 - (intOf i).toNat)
  case atStart => exact ⟨0, by omega, rfl, rfl, rfl⟩
  case round =>
    obtain ⟨k, hk, rfl, rfl, hw⟩ := hrel
    obtain rfl := hw.symm
    by_cases hlt : k < 8
    · have ck := HC.out k hlt
      obtain ⟨x, HX⟩ : ∃ x, Hid (x = numK f k) := ⟨_, rfl⟩
      obtain ⟨y, HY⟩ : ∃ x, Hid (x = f k) := ⟨_, rfl⟩
      rw [← HX.out]
      rw [← HY.out] at ck
      have hy : y < 256 := by rw [HY.out]; exact HF.out k
      have hx : x < 72057594037927936 := by
        have h1 := numK_lt HF.out k
        have h2 : 256 ^ k ≤ 256 ^ 7 := Nat.pow_le_pow_right (by decide) (by omega)
        rw [← HX.out] at h1
        have h3 : (256 : Nat) ^ 7 = 72057594037927936 := by decide
        omega
      go_wp2
      refine ⟨⟨k + 1, by omega, rfl, ?_, trivial⟩, ?_⟩
      · refine val_eq ?_
        show _ = ((numK f k * 256 + f k : Nat) : Int)
        rw [← HX.out, ← HY.out]
        exact joins64 x y hx hy
      · simp only [intOf]; omega
    · obtain rfl : k = 8 := by omega
      go_wp2
      go_ret
      exact ⟨rfl, rfl⟩
/-- The bytes of a number, highest first. -/
def byteK (n k : Nat) : Nat := n / 256 ^ (7 - k) % 256
theorem byteK_lt (n k : Nat) : byteK n k < 256 := Nat.mod_lt _ (by decide)
set_option maxHeartbeats 800000 in
set_option maxRecDepth 100000 in
theorem put_ok (b o n cap m : Nat) (w : World) (h8 : 8 ≤ n) (hm : m < 18446744073709551616) (ht : w.there b o 8) :
    Calls Tryd.prog 74 #[.slice (some ⟨b, o, none⟩) n cap, .int .u64 (m : Nat)] w fun e w' => e = .returned (.tuple #[]) ∧ Touch w w' b o 8 ∧ ∀ k, k < 8 → w'.cell? ⟨b, o + k, none⟩ = some (.int .u8 (byteK m k : Nat)) := by
  have HT : Hid (w.there b o 8) := ht
  have hni : (8 : Int) ≤ (n : Nat) := by omega
  clear ht h8
  go_enter Tryd.func74, Tryd.ntmps74
  go_wp2
  go_loopw [1, 4] (fun vn i wr => ∃ j : Nat, j ≤ 8 ∧ i = .int .i64 ((j : Int) - 1) ∧ vn = .int .u64 (m / 256 ^ (8 - j) : Nat) ∧ Hid (Touch w wr b o 8 ∧ ∀ k, j ≤ k → k < 8 → wr.cell? ⟨b, o + k, none⟩ = some (.int .u8 (byteK m k : Nat)))) (fun _ i _ => (intOf i + 1).toNat)
  case atStart => exact ⟨8, Nat.le_refl _, rfl, by simp, Touch.refl _ _ _ _, fun k h1 h2 => by omega⟩
  case round =>
    obtain ⟨j, hj, rfl, rfl, HR⟩ := hrel
    cases j with
    | zero =>
      go_wp2
      go_end0
      exact ⟨rfl, HR.out.1, fun k hk => HR.out.2 k (Nat.zero_le _) hk⟩
    | succ q =>
      have hq1 : (((q + 1 : Nat) : Int) - 1) = (q : Nat) := by omega
      rw [hq1]
      obtain ⟨x, HX⟩ : ∃ x, Hid (x = m / 256 ^ (8 - (q + 1))) := ⟨_, rfl⟩
      rw [← HX.out]
      have hqn : ((q : Nat) : Int) < (n : Nat) := by omega
      have hq8 : ((q : Nat) : Int) < 8 := by omega
      have t := HR.out.1.there _ _ HT.out q (by omega)
      obtain ⟨t1, t2⟩ := t
      obtain ⟨v, c1⟩ := Option.isSome_iff_exists.1 t1
      clear t1
      go_wp2
      refine ⟨⟨q, by omega, rfl, val_eq ?_, ?_⟩, ?_⟩
      · have e : m / 256 ^ (8 - q) = x / 256 := by
          rw [HX.out, Nat.div_div_eq_div_mul, ← Nat.pow_succ]
          rw [show (8 - (q + 1)).succ = 8 - q by omega]
        rw [e]
        omega
      · refine ⟨HR.out.1.setCell (o + q) _ (by omega) (by omega), fun k h1 h2 => ?_⟩
        by_cases hkq : k = q
        · subst hkq
          have hv : ((x : Int) % 256) = ((byteK m k : Nat) : Int) := by
            unfold byteK
            rw [HX.out, show 8 - (k + 1) = 7 - k by omega]
            omega
          rw [World.cell?_setCell_same' _ _ _ (by rw [c1]; rfl), hv]
        · rw [World.cell?_setCell_other _ ⟨b, o + q, none⟩ ⟨b, o + k, none⟩ _ (fun e => hkq (by simp at e <;> omega))]
          exact HR.out.2 k (by omega) h2
      · simp only [intOf]; omega
theorem numK_word (f : Nat → Nat) : numK f 8 = wd (f 0) (f 1) (f 2) (f 3) * 4294967296 + wd (f 4) (f 5) (f 6) (f 7) := by
  simp only [numK, wd]
  omega
theorem halves_at (b : Nat) (s : W4) (hs : s.ok) (w : World) (hr : w.rangeAt b 0 [.int .u8 (bt0 s.a : Nat), .int .u8 (bt1 s.a : Nat), .int .u8 (bt2 s.a : Nat), .int .u8 (bt3 s.a : Nat), .int .u8 (bt0 s.b : Nat), .int .u8 (bt1 s.b : Nat), .int .u8 (bt2 s.b : Nat), .int .u8 (bt3 s.b : Nat), .int .u8 (bt0 s.c : Nat), .int .u8 (bt1 s.c : Nat), .int .u8 (bt2 s.c : Nat), .int .u8 (bt3 s.c : Nat), .int .u8 (bt0 s.d : Nat), .int .u8 (bt1 s.d : Nat), .int .u8 (bt2 s.d : Nat), .int .u8 (bt3 s.d : Nat)]) :
    (∀ u, Below (b + 1) w u → Calls Tryd.prog 73 #[.slice (some ⟨b, 0, none⟩) 8 16] u fun e u' => e = .returned (.int .u64 (s.a * 4294967296 + s.b : Nat)) ∧ u' = u) ∧
    (∀ u, Below (b + 1) w u → Calls Tryd.prog 73 #[.slice (some ⟨b, 8, none⟩) 8 8] u fun e u' => e = .returned (.int .u64 (s.c * 4294967296 + s.d : Nat)) ∧ u' = u) := by
  refine ⟨fun u hu => ?_, fun u hu => ?_⟩
  · have h := number_ok b 0 8 16 (fun i => if i = 0 then bt0 s.a else if i = 1 then bt1 s.a else if i = 2 then bt2 s.a else if i = 3 then bt3 s.a else if i = 4 then bt0 s.b else if i = 5 then bt1 s.b else if i = 6 then bt2 s.b else bt3 s.b) u (Nat.le_refl _) (by decide) (fun i hi => by
      rw [hu.cell (p := ⟨b, 0 + i, none⟩) (Nat.lt_succ_self b)]
      have h8 : i = 0 ∨ i = 1 ∨ i = 2 ∨ i = 3 ∨ i = 4 ∨ i = 5 ∨ i = 6 ∨ i = 7 := by omega
      rcases h8 with rfl | rfl | rfl | rfl | rfl | rfl | rfl | rfl <;> exact hr _ _ rfl) (fun i => by
      have := bt0_lt s.a; have := bt1_lt s.a; have := bt2_lt s.a; have := bt3_lt s.a; have := bt0_lt s.b; have := bt1_lt s.b; have := bt2_lt s.b; have := bt3_lt s.b
      repeat' split
      all_goals assumption)
    rw [numK_word] at h
    simp only [if_true, reduceIte, Nat.reduceEqDiff] at h
    rw [wd_bt hs.1, wd_bt hs.2.1] at h
    exact h
  · have h := number_ok b 8 8 8 (fun i => if i = 0 then bt0 s.c else if i = 1 then bt1 s.c else if i = 2 then bt2 s.c else if i = 3 then bt3 s.c else if i = 4 then bt0 s.d else if i = 5 then bt1 s.d else if i = 6 then bt2 s.d else bt3 s.d) u (Nat.le_refl _) (by decide) (fun i hi => by
      rw [hu.cell (p := ⟨b, 8 + i, none⟩) (Nat.lt_succ_self b)]
      have h8 : i = 0 ∨ i = 1 ∨ i = 2 ∨ i = 3 ∨ i = 4 ∨ i = 5 ∨ i = 6 ∨ i = 7 := by omega
      have hr' := fun j v hv => (by simpa using hr (8 + j) v hv : w.cell? ⟨b, 8 + j, none⟩ = some v)
      rcases h8 with rfl | rfl | rfl | rfl | rfl | rfl | rfl | rfl <;> exact hr' _ _ rfl) (fun i => by
      have := bt0_lt s.c; have := bt1_lt s.c; have := bt2_lt s.c; have := bt3_lt s.c; have := bt0_lt s.d; have := bt1_lt s.d; have := bt2_lt s.d; have := bt3_lt s.d
      repeat' split
      all_goals assumption)
    rw [numK_word] at h
    simp only [if_true, reduceIte, Nat.reduceEqDiff] at h
    rw [wd_bt hs.2.2.1, wd_bt hs.2.2.2] at h
    exact h
end Go.Proofs.YtgmfiljjogdccaaDoor
namespace Go.Proofs.YtgmfiljjogdccaaDoor
open Go.RowKit
set_option linter.unusedVariables false
theorem sl_h (b o : Nat) (w' : World) : Sem.run Tryd.prog (Instr.sliceAt 42 (.pointer (some ⟨b, o, none⟩)) none (some (.int .i64 8)) none) w' = .ok (.slice (some ⟨b, o, none⟩) 8 16) w' := by
  have h := run_sliceAt_array_h (P := Tryd.prog) w' 42 ⟨b, o, none⟩ (by kernel_rfl) .i64 8 (by omega) (by rw [show Tryd.prog.arrayLen 42 = 16 by kernel_rfl]; omega)
  rw [h, show Tryd.prog.arrayLen 42 = 16 by kernel_rfl, show Tryd.prog.elem 42 = 5 by kernel_rfl]
  have e3 : (sizeOf 5).run Tryd.prog w' = .ok 1 w' := by kernel_rfl
  rw [e3]
  simp only [Result.andThen_ok, slicedAt]
  rw [if_neg (by decide), Nat.zero_mul, Addr.add_mid]
  rfl
theorem sl_l (b o : Nat) (w' : World) : Sem.run Tryd.prog (Instr.sliceAt 42 (.pointer (some ⟨b, o, none⟩)) (some (.int .i64 8)) none none) w' = .ok (.slice (some ⟨b, o + 8, none⟩) 8 8) w' := by
  have h := run_sliceAt_array_l (P := Tryd.prog) w' 42 ⟨b, o, none⟩ (by kernel_rfl) .i64 8 (by omega) (by rw [show Tryd.prog.arrayLen 42 = 16 by kernel_rfl]; omega)
  rw [h, show Tryd.prog.arrayLen 42 = 16 by kernel_rfl, show Tryd.prog.elem 42 = 5 by kernel_rfl]
  have e3 : (sizeOf 5).run Tryd.prog w' = .ok 1 w' := by kernel_rfl
  rw [e3]
  simp only [Result.andThen_ok, slicedAt]
  rw [if_neg (by decide), Nat.mul_one, Addr.add_mid]
  rfl
set_option maxHeartbeats 1600000 in
set_option maxRecDepth 100000 in
theorem halves_ok (s : W4) (hs : s.ok) (w : World) : Calls Tryd.prog 70 #[s.blk] w fun e w' => e = .returned (.tuple #[.int .u64 (s.a * 4294967296 + s.b : Nat), .int .u64 (s.c * 4294967296 + s.d : Nat)]) ∧ Below w.heap.size w w' := by
  obtain ⟨x, HX⟩ : ∃ x, Hid (x = s.a * 4294967296 + s.b) := ⟨_, rfl⟩
  obtain ⟨y, HY⟩ : ∃ x, Hid (x = s.c * 4294967296 + s.d) := ⟨_, rfl⟩
  have hr : (w.alloc (.cells #[.int .u8 (bt0 s.a : Nat), .int .u8 (bt1 s.a : Nat), .int .u8 (bt2 s.a : Nat), .int .u8 (bt3 s.a : Nat), .int .u8 (bt0 s.b : Nat), .int .u8 (bt1 s.b : Nat), .int .u8 (bt2 s.b : Nat), .int .u8 (bt3 s.b : Nat), .int .u8 (bt0 s.c : Nat), .int .u8 (bt1 s.c : Nat), .int .u8 (bt2 s.c : Nat), .int .u8 (bt3 s.c : Nat), .int .u8 (bt0 s.d : Nat), .int .u8 (bt1 s.d : Nat), .int .u8 (bt2 s.d : Nat), .int .u8 (bt3 s.d : Nat)] 42)).rangeAt w.heap.size 0 [.int .u8 (bt0 s.a : Nat), .int .u8 (bt1 s.a : Nat), .int .u8 (bt2 s.a : Nat), .int .u8 (bt3 s.a : Nat), .int .u8 (bt0 s.b : Nat), .int .u8 (bt1 s.b : Nat), .int .u8 (bt2 s.b : Nat), .int .u8 (bt3 s.b : Nat), .int .u8 (bt0 s.c : Nat), .int .u8 (bt1 s.c : Nat), .int .u8 (bt2 s.c : Nat), .int .u8 (bt3 s.c : Nat), .int .u8 (bt0 s.d : Nat), .int .u8 (bt1 s.d : Nat), .int .u8 (bt2 s.d : Nat), .int .u8 (bt3 s.d : Nat)] := rangeAt_new w #[.int .u8 (bt0 s.a : Nat), .int .u8 (bt1 s.a : Nat), .int .u8 (bt2 s.a : Nat), .int .u8 (bt3 s.a : Nat), .int .u8 (bt0 s.b : Nat), .int .u8 (bt1 s.b : Nat), .int .u8 (bt2 s.b : Nat), .int .u8 (bt3 s.b : Nat), .int .u8 (bt0 s.c : Nat), .int .u8 (bt1 s.c : Nat), .int .u8 (bt2 s.c : Nat), .int .u8 (bt3 s.c : Nat), .int .u8 (bt0 s.d : Nat), .int .u8 (bt1 s.d : Nat), .int .u8 (bt2 s.d : Nat), .int .u8 (bt3 s.d : Nat)] 42
  obtain ⟨k1, k2⟩ := halves_at w.heap.size s hs (w.alloc (.cells #[.int .u8 (bt0 s.a : Nat), .int .u8 (bt1 s.a : Nat), .int .u8 (bt2 s.a : Nat), .int .u8 (bt3 s.a : Nat), .int .u8 (bt0 s.b : Nat), .int .u8 (bt1 s.b : Nat), .int .u8 (bt2 s.b : Nat), .int .u8 (bt3 s.b : Nat), .int .u8 (bt0 s.c : Nat), .int .u8 (bt1 s.c : Nat), .int .u8 (bt2 s.c : Nat), .int .u8 (bt3 s.c : Nat), .int .u8 (bt0 s.d : Nat), .int .u8 (bt1 s.d : Nat), .int .u8 (bt2 s.d : Nat), .int .u8 (bt3 s.d : Nat)] 42)) hr
  rw [← HX.out] at k1 ⊢
  rw [← HY.out] at k2 ⊢
  have K1 : Hid (∀ u, Below (w.heap.size + 1) (w.alloc (.cells #[.int .u8 (bt0 s.a : Nat), .int .u8 (bt1 s.a : Nat), .int .u8 (bt2 s.a : Nat), .int .u8 (bt3 s.a : Nat), .int .u8 (bt0 s.b : Nat), .int .u8 (bt1 s.b : Nat), .int .u8 (bt2 s.b : Nat), .int .u8 (bt3 s.b : Nat), .int .u8 (bt0 s.c : Nat), .int .u8 (bt1 s.c : Nat), .int .u8 (bt2 s.c : Nat), .int .u8 (bt3 s.c : Nat), .int .u8 (bt0 s.d : Nat), .int .u8 (bt1 s.d : Nat), .int .u8 (bt2 s.d : Nat), .int .u8 (bt3 s.d : Nat)] 42)) u → Calls Tryd.prog 73 #[.slice (some ⟨w.heap.size, 0, none⟩) 8 16] u fun e u' => e = .returned (.int .u64 (x : Nat)) ∧ u' = u) := k1
  have K2 : Hid (∀ u, Below (w.heap.size + 1) (w.alloc (.cells #[.int .u8 (bt0 s.a : Nat), .int .u8 (bt1 s.a : Nat), .int .u8 (bt2 s.a : Nat), .int .u8 (bt3 s.a : Nat), .int .u8 (bt0 s.b : Nat), .int .u8 (bt1 s.b : Nat), .int .u8 (bt2 s.b : Nat), .int .u8 (bt3 s.b : Nat), .int .u8 (bt0 s.c : Nat), .int .u8 (bt1 s.c : Nat), .int .u8 (bt2 s.c : Nat), .int .u8 (bt3 s.c : Nat), .int .u8 (bt0 s.d : Nat), .int .u8 (bt1 s.d : Nat), .int .u8 (bt2 s.d : Nat), .int .u8 (bt3 s.d : Nat)] 42)) u → Calls Tryd.prog 73 #[.slice (some ⟨w.heap.size, 8, none⟩) 8 8] u fun e u' => e = .returned (.int .u64 (y : Nat)) ∧ u' = u) := k2
  have e1 := sl_h w.heap.size 0
  have e2 := sl_l w.heap.size 0
  clear k1 k2 hr hs
  show Calls Tryd.prog 70 #[.agg #[.int .u8 (bt0 s.a : Nat), .int .u8 (bt1 s.a : Nat), .int .u8 (bt2 s.a : Nat), .int .u8 (bt3 s.a : Nat), .int .u8 (bt0 s.b : Nat), .int .u8 (bt1 s.b : Nat), .int .u8 (bt2 s.b : Nat), .int .u8 (bt3 s.b : Nat), .int .u8 (bt0 s.c : Nat), .int .u8 (bt1 s.c : Nat), .int .u8 (bt2 s.c : Nat), .int .u8 (bt3 s.c : Nat), .int .u8 (bt0 s.d : Nat), .int .u8 (bt1 s.d : Nat), .int .u8 (bt2 s.d : Nat), .int .u8 (bt3 s.d : Nat)]] w _
  go_enter Tryd.func70, Tryd.ntmps70
  go_upto_region 1 with fail
  refine wp_region_noPanic ?_
  refine wp_region_held_drew (S := fun u => Below (w.heap.size + 1) (w.alloc (.cells #[.int .u8 (bt0 s.a : Nat), .int .u8 (bt1 s.a : Nat), .int .u8 (bt2 s.a : Nat), .int .u8 (bt3 s.a : Nat), .int .u8 (bt0 s.b : Nat), .int .u8 (bt1 s.b : Nat), .int .u8 (bt2 s.b : Nat), .int .u8 (bt3 s.b : Nat), .int .u8 (bt0 s.c : Nat), .int .u8 (bt1 s.c : Nat), .int .u8 (bt2 s.c : Nat), .int .u8 (bt3 s.c : Nat), .int .u8 (bt0 s.d : Nat), .int .u8 (bt1 s.d : Nat), .int .u8 (bt2 s.d : Nat), .int .u8 (bt3 s.d : Nat)] 42)) u) (by kernel_rfl) ((Below.refl _ _).drew) (fun _ => ?_)
  refine takeH_at 0 4 (.slice (some ⟨w.heap.size, 0, none⟩) 8 16) rfl rfl (by kernel_rfl) (by kernel_rfl) (by kernel_rfl) (fun _ _ _ h => h) ((Below.refl _ _).drew) (Or.inl ⟨by rfl, fun w' hS' => by go_simp⟩) ?_
  simp only [List.setIfInBounds_toArray, List.set_cons_zero, List.set_cons_succ]
  refine takeH_at 2 6 (.slice (some ⟨w.heap.size, 8, none⟩) 8 8) rfl rfl (by kernel_rfl) (by kernel_rfl) (by kernel_rfl) (fun _ _ _ h => h) ((Below.refl _ _).drew) (Or.inl ⟨by rfl, fun w' hS' => by go_simp⟩) ?_
  simp only [List.setIfInBounds_toArray, List.set_cons_zero, List.set_cons_succ]
  refine wpAnyH_ready (rs := [1]) (by kernel_rfl) (by simp) ?_
  refine AllReadyH.cons rfl (fun K hK => ?_) AllReadyH.nil
  go_simp
  refine (K1.out _ (Below.refl _ _).drew).mono ?_
  rintro e1 w1 ⟨rfl, hw1⟩
  obtain rfl := hw1.symm
  go_wp2_with fail
  refine hK.out _ _ ((Below.refl _ _).drew) (fun _ => ?_)
  clear hK K
  try simp only [List.setIfInBounds_toArray, List.set_cons_zero, List.set_cons_succ]
  refine wpAnyH_ready (rs := [3]) (by kernel_rfl) (by simp) ?_
  refine AllReadyH.cons rfl (fun K hK => ?_) AllReadyH.nil
  go_simp
  refine (K2.out _ (Below.refl _ _).drew).mono ?_
  rintro e1 w1 ⟨rfl, hw1⟩
  obtain rfl := hw1.symm
  go_wp2_with fail
  refine hK.out _ _ ((Below.refl _ _).drew) (fun _ => ?_)
  clear hK K
  try simp only [List.setIfInBounds_toArray, List.set_cons_zero, List.set_cons_succ]
  refine takeH_at 4 2 (.int .u64 (x : Nat)) rfl rfl (by kernel_rfl) (by kernel_rfl) (by kernel_rfl) (fun _ _ _ h => h) ((Below.refl _ _).drew) (Or.inl ⟨by rfl, fun w' hS' => by go_simp⟩) ?_
  simp only [List.setIfInBounds_toArray, List.set_cons_zero, List.set_cons_succ]
  refine takeH_at 5 3 (.int .u64 (y : Nat)) rfl rfl (by kernel_rfl) (by kernel_rfl) (by kernel_rfl) (fun _ _ _ h => h) ((Below.refl _ _).drew) (Or.inl ⟨by rfl, fun w' hS' => by go_simp⟩) ?_
  simp only [List.setIfInBounds_toArray, List.set_cons_zero, List.set_cons_succ]
  refine wpAnyH_done (by kernel_rfl) ?_ _
  refine NoPanic.normal ?_
  go_wp2
  go_ret2
  exact ⟨rfl, ((Below.refl _ w).alloc (Nat.le_refl _) _).drew⟩
/-- A block out of its halves. -/
def joinW (h l : Nat) : W4 := ⟨h / 4294967296, h % 4294967296, l / 4294967296, l % 4294967296⟩
theorem joinW_ok {h l : Nat} (hh : h < 18446744073709551616) (hl : l < 18446744073709551616) : (joinW h l).ok := by unfold joinW W4.ok; simp only; omega
theorem byteK_hi (n : Nat) (h : n < 18446744073709551616) : byteK n 0 = bt0 (n / 4294967296) ∧ byteK n 1 = bt1 (n / 4294967296) ∧ byteK n 2 = bt2 (n / 4294967296) ∧ byteK n 3 = bt3 (n / 4294967296) ∧ byteK n 4 = bt0 (n % 4294967296) ∧ byteK n 5 = bt1 (n % 4294967296) ∧ byteK n 6 = bt2 (n % 4294967296) ∧ byteK n 7 = bt3 (n % 4294967296) := by
  have e0 : byteK n 0 = n / 72057594037927936 % 256 := rfl
  have e1 : byteK n 1 = n / 281474976710656 % 256 := rfl
  have e2 : byteK n 2 = n / 1099511627776 % 256 := rfl
  have e3 : byteK n 3 = n / 4294967296 % 256 := rfl
  have e4 : byteK n 4 = n / 16777216 % 256 := rfl
  have e5 : byteK n 5 = n / 65536 % 256 := rfl
  have e6 : byteK n 6 = n / 256 % 256 := rfl
  have e7 : byteK n 7 = n / 1 % 256 := rfl
  unfold bt0 bt1 bt2 bt3
  rw [e0, e1, e2, e3, e4, e5, e6, e7]
  refine ⟨?_, ?_, ?_, ?_, ?_, ?_, ?_, ?_⟩ <;> omega
set_option maxHeartbeats 1600000 in
set_option maxRecDepth 100000 in
theorem join_ok (h l : Nat) (hh : h < 18446744073709551616) (hl : l < 18446744073709551616) (w : World) : Calls Tryd.prog 72 #[.int .u64 (h : Nat), .int .u64 (l : Nat)] w fun e w' => e = .returned (joinW h l).blk ∧ Below w.heap.size w w' := by
  have HH : Hid (h < 18446744073709551616) := hh
  have HL : Hid (l < 18446744073709551616) := hl
  have e1 := sl_h (w.heap.size + 1) 0
  have e2 := sl_l (w.heap.size + 1) 0
  have HT : Hid (((w.alloc (.cells #[.int .u8 0, .int .u8 0, .int .u8 0, .int .u8 0, .int .u8 0, .int .u8 0, .int .u8 0, .int .u8 0, .int .u8 0, .int .u8 0, .int .u8 0, .int .u8 0, .int .u8 0, .int .u8 0, .int .u8 0, .int .u8 0] 42)).alloc (.cells #[.int .u8 0, .int .u8 0, .int .u8 0, .int .u8 0, .int .u8 0, .int .u8 0, .int .u8 0, .int .u8 0, .int .u8 0, .int .u8 0, .int .u8 0, .int .u8 0, .int .u8 0, .int .u8 0, .int .u8 0, .int .u8 0] 42)).there (w.heap.size + 1) 0 16 ∧ ((w.alloc (.cells #[.int .u8 0, .int .u8 0, .int .u8 0, .int .u8 0, .int .u8 0, .int .u8 0, .int .u8 0, .int .u8 0, .int .u8 0, .int .u8 0, .int .u8 0, .int .u8 0, .int .u8 0, .int .u8 0, .int .u8 0, .int .u8 0] 42)).alloc (.cells #[.int .u8 0, .int .u8 0, .int .u8 0, .int .u8 0, .int .u8 0, .int .u8 0, .int .u8 0, .int .u8 0, .int .u8 0, .int .u8 0, .int .u8 0, .int .u8 0, .int .u8 0, .int .u8 0, .int .u8 0, .int .u8 0] 42)).there w.heap.size 0 16 ∧ Below w.heap.size w ((w.alloc (.cells #[.int .u8 0, .int .u8 0, .int .u8 0, .int .u8 0, .int .u8 0, .int .u8 0, .int .u8 0, .int .u8 0, .int .u8 0, .int .u8 0, .int .u8 0, .int .u8 0, .int .u8 0, .int .u8 0, .int .u8 0, .int .u8 0] 42)).alloc (.cells #[.int .u8 0, .int .u8 0, .int .u8 0, .int .u8 0, .int .u8 0, .int .u8 0, .int .u8 0, .int .u8 0, .int .u8 0, .int .u8 0, .int .u8 0, .int .u8 0, .int .u8 0, .int .u8 0, .int .u8 0, .int .u8 0] 42)) ∧ ((w.alloc (.cells #[.int .u8 0, .int .u8 0, .int .u8 0, .int .u8 0, .int .u8 0, .int .u8 0, .int .u8 0, .int .u8 0, .int .u8 0, .int .u8 0, .int .u8 0, .int .u8 0, .int .u8 0, .int .u8 0, .int .u8 0, .int .u8 0] 42)).alloc (.cells #[.int .u8 0, .int .u8 0, .int .u8 0, .int .u8 0, .int .u8 0, .int .u8 0, .int .u8 0, .int .u8 0, .int .u8 0, .int .u8 0, .int .u8 0, .int .u8 0, .int .u8 0, .int .u8 0, .int .u8 0, .int .u8 0] 42)).heap.size = w.heap.size + 2) :=
    ⟨there_two w _ _ 42 42 rfl, World.there_alloc (there_new w _ 42 16 (Nat.le_refl _)) _, (two_allocs w _ _ 42 42).1, by simp⟩
  clear hh hl
  go_enter Tryd.func72, Tryd.ntmps72
  go_upto_region 2 with fail
  generalize (w.alloc (.cells #[.int .u8 0, .int .u8 0, .int .u8 0, .int .u8 0, .int .u8 0, .int .u8 0, .int .u8 0, .int .u8 0, .int .u8 0, .int .u8 0, .int .u8 0, .int .u8 0, .int .u8 0, .int .u8 0, .int .u8 0, .int .u8 0] 42)).alloc (.cells #[.int .u8 0, .int .u8 0, .int .u8 0, .int .u8 0, .int .u8 0, .int .u8 0, .int .u8 0, .int .u8 0, .int .u8 0, .int .u8 0, .int .u8 0, .int .u8 0, .int .u8 0, .int .u8 0, .int .u8 0, .int .u8 0] 42) = w2 at HT ⊢
  have K1 : Hid (Calls Tryd.prog 74 #[.slice (some ⟨w.heap.size + 1, 0, none⟩) 8 16, .int .u64 (h : Nat)] w2 fun e w' => e = .returned (.tuple #[]) ∧ Touch w2 w' (w.heap.size + 1) 0 8 ∧ ∀ k, k < 8 → w'.cell? ⟨w.heap.size + 1, 0 + k, none⟩ = some (.int .u8 (byteK h k : Nat))) := put_ok (w.heap.size + 1) 0 8 16 h w2 (Nat.le_refl _) HH.out (fun j hj => HT.out.1 j (by omega))
  go_wp2_with (first | (go_at_call 74; refine K1.out.mono ?_))
  rintro e3 w3 ⟨rfl, ht3, hc3⟩
  have K2 : Hid (Calls Tryd.prog 74 #[.slice (some ⟨w.heap.size + 1, 8, none⟩) 8 8, .int .u64 (l : Nat)] w3 fun e w' => e = .returned (.tuple #[]) ∧ Touch w3 w' (w.heap.size + 1) 8 8 ∧ ∀ k, k < 8 → w'.cell? ⟨w.heap.size + 1, 8 + k, none⟩ = some (.int .u8 (byteK l k : Nat))) := put_ok (w.heap.size + 1) 8 8 8 l w3 (Nat.le_refl _) HL.out (fun j hj => by have := ht3.there _ _ HT.out.1 (8 + j) (by omega); rw [Nat.zero_add] at this; exact this)
  have H3 : Hid (Touch w2 w3 (w.heap.size + 1) 0 8 ∧ ∀ k, k < 8 → w3.cell? ⟨w.heap.size + 1, 0 + k, none⟩ = some (.int .u8 (byteK h k : Nat))) := ⟨ht3, hc3⟩
  clear ht3 hc3 K1
  go_wp2_with (first | (go_at_call 74; refine K2.out.mono ?_))
  rintro e4 w4 ⟨rfl, ht4, hc4⟩
  have H4 : Hid (w4.rangeAt (w.heap.size + 1) 0 [.int .u8 (byteK h 0 : Nat), .int .u8 (byteK h 1 : Nat), .int .u8 (byteK h 2 : Nat), .int .u8 (byteK h 3 : Nat), .int .u8 (byteK h 4 : Nat), .int .u8 (byteK h 5 : Nat), .int .u8 (byteK h 6 : Nat), .int .u8 (byteK h 7 : Nat), .int .u8 (byteK l 0 : Nat), .int .u8 (byteK l 1 : Nat), .int .u8 (byteK l 2 : Nat), .int .u8 (byteK l 3 : Nat), .int .u8 (byteK l 4 : Nat), .int .u8 (byteK l 5 : Nat), .int .u8 (byteK l 6 : Nat), .int .u8 (byteK l 7 : Nat)] ∧ w4.there w.heap.size 0 16 ∧ Below w.heap.size w w4) := by
    obtain ⟨t1, t2, t3, t4⟩ := HT.out
    obtain ⟨p1, p2⟩ := H3.out
    have hs1 := p1.size
    have hs2 := ht4.size
    refine ⟨fun j v hv => ?_, fun j hj => ?_, ?_⟩
    · have hj : j < 16 := (List.getElem?_eq_some_iff.1 hv).1
      have h16 : j = 0 ∨ j = 1 ∨ j = 2 ∨ j = 3 ∨ j = 4 ∨ j = 5 ∨ j = 6 ∨ j = 7 ∨ j = 8 ∨ j = 9 ∨ j = 10 ∨ j = 11 ∨ j = 12 ∨ j = 13 ∨ j = 14 ∨ j = 15 := by omega
      have q1 : ∀ k, k < 8 → w4.cell? ⟨w.heap.size + 1, 0 + k, none⟩ = some (.int .u8 (byteK h k : Nat)) := fun k hk => (ht4.cell _ (by omega)).trans (p2 k hk)
      have q2 : ∀ k, k < 8 → w4.cell? ⟨w.heap.size + 1, 0 + (8 + k), none⟩ = some (.int .u8 (byteK l k : Nat)) := fun k hk => by rw [Nat.zero_add]; exact hc4 k hk
      rcases h16 with rfl | rfl | rfl | rfl | rfl | rfl | rfl | rfl | rfl | rfl | rfl | rfl | rfl | rfl | rfl | rfl
      all_goals (obtain rfl := Option.some.inj hv)
      all_goals first | exact q1 _ (by omega) | exact q2 0 (by omega) | exact q2 1 (by omega) | exact q2 2 (by omega) | exact q2 3 (by omega) | exact q2 4 (by omega) | exact q2 5 (by omega) | exact q2 6 (by omega) | exact q2 7 (by omega)
    · rw [ht4.far (p := ⟨w.heap.size, 0 + j, none⟩) (show w.heap.size < _ by omega) (show w.heap.size ≠ _ by omega), ht4.farFrozen (p := ⟨w.heap.size, 0 + j, none⟩) (show w.heap.size < _ by omega) (show w.heap.size ≠ _ by omega), p1.far (p := ⟨w.heap.size, 0 + j, none⟩) (show w.heap.size < _ by omega) (show w.heap.size ≠ _ by omega), p1.farFrozen (p := ⟨w.heap.size, 0 + j, none⟩) (show w.heap.size < _ by omega) (show w.heap.size ≠ _ by omega)]
      exact t2 j hj
    · exact (t3.trans (p1.toBelow (Nat.le_succ _) (by omega))).trans (ht4.toBelow (Nat.le_succ _) (by omega))
  clear ht4 hc4 K2 H3
  have hl4 := run_loadVar_mid (P := Tryd.prog) w4 (w.heap.size + 1) 0 42 [.int .u8 (byteK h 0 : Nat), .int .u8 (byteK h 1 : Nat), .int .u8 (byteK h 2 : Nat), .int .u8 (byteK h 3 : Nat), .int .u8 (byteK h 4 : Nat), .int .u8 (byteK h 5 : Nat), .int .u8 (byteK h 6 : Nat), .int .u8 (byteK h 7 : Nat), .int .u8 (byteK l 0 : Nat), .int .u8 (byteK l 1 : Nat), .int .u8 (byteK l 2 : Nat), .int .u8 (byteK l 3 : Nat), .int .u8 (byteK l 4 : Nat), .int .u8 (byteK l 5 : Nat), .int .u8 (byteK l 6 : Nat), .int .u8 (byteK l 7 : Nat)] _ H4.out.1 Tryd.underlying42 rfl size42
  go_wp2_with (first
    | (refine wpList_load_mid (by rfl) 42 (.tmp 5) (by rfl) (w.heap.size + 1) 0 (by rfl) [.int .u8 (byteK h 0 : Nat), .int .u8 (byteK h 1 : Nat), .int .u8 (byteK h 2 : Nat), .int .u8 (byteK h 3 : Nat), .int .u8 (byteK h 4 : Nat), .int .u8 (byteK h 5 : Nat), .int .u8 (byteK h 6 : Nat), .int .u8 (byteK h 7 : Nat), .int .u8 (byteK l 0 : Nat), .int .u8 (byteK l 1 : Nat), .int .u8 (byteK l 2 : Nat), .int .u8 (byteK l 3 : Nat), .int .u8 (byteK l 4 : Nat), .int .u8 (byteK l 5 : Nat), .int .u8 (byteK l 6 : Nat), .int .u8 (byteK l 7 : Nat)] _ H4.out.1 Tryd.underlying42 rfl size42 ?_)
    | (refine wpList_store_mid (by rfl) 42 (.tmp 4) (.tmp 12) (by rfl) w.heap.size 0 ([.int .u8 (byteK h 0 : Nat), .int .u8 (byteK h 1 : Nat), .int .u8 (byteK h 2 : Nat), .int .u8 (byteK h 3 : Nat), .int .u8 (byteK h 4 : Nat), .int .u8 (byteK h 5 : Nat), .int .u8 (byteK h 6 : Nat), .int .u8 (byteK h 7 : Nat), .int .u8 (byteK l 0 : Nat), .int .u8 (byteK l 1 : Nat), .int .u8 (byteK l 2 : Nat), .int .u8 (byteK l 3 : Nat), .int .u8 (byteK l 4 : Nat), .int .u8 (byteK l 5 : Nat), .int .u8 (byteK l 6 : Nat), .int .u8 (byteK l 7 : Nat)]).toArray (by rfl) (by rfl) H4.out.2.1 size42 (by kernel_rfl) ?_)
    | fail)
  refine ret_array [.int .u8 (byteK h 0 : Nat), .int .u8 (byteK h 1 : Nat), .int .u8 (byteK h 2 : Nat), .int .u8 (byteK h 3 : Nat), .int .u8 (byteK h 4 : Nat), .int .u8 (byteK h 5 : Nat), .int .u8 (byteK h 6 : Nat), .int .u8 (byteK h 7 : Nat), .int .u8 (byteK l 0 : Nat), .int .u8 (byteK l 1 : Nat), .int .u8 (byteK l 2 : Nat), .int .u8 (byteK l 3 : Nat), .int .u8 (byteK l 4 : Nat), .int .u8 (byteK l 5 : Nat), .int .u8 (byteK l 6 : Nat), .int .u8 (byteK l 7 : Nat)] Tryd.results72 rfl (World.rangeAt_setCells_same _ _ _ _ H4.out.2.1) Tryd.underlying42 rfl size42 ⟨?_, belowB_setCells _ (Nat.le_refl _) _ _ _ H4.out.2.2⟩
  obtain ⟨a0, a1, a2, a3, a4, a5, a6, a7⟩ := byteK_hi h HH.out
  obtain ⟨b0, b1, b2, b3, b4, b5, b6, b7⟩ := byteK_hi l HL.out
  rw [a0, a1, a2, a3, a4, a5, a6, a7, b0, b1, b2, b3, b4, b5, b6, b7]
  exact rfl
end Go.Proofs.YtgmfiljjogdccaaDoor
namespace Go.Proofs.YtgmfiljjogdccaaDoor
open Go.RowKit
set_option linter.unusedVariables false
/-- The bytes of a block. -/
def W4.bytes (s0 : W4) : List Value := [.int .u8 (bt0 s0.a : Nat), .int .u8 (bt1 s0.a : Nat), .int .u8 (bt2 s0.a : Nat), .int .u8 (bt3 s0.a : Nat), .int .u8 (bt0 s0.b : Nat), .int .u8 (bt1 s0.b : Nat), .int .u8 (bt2 s0.b : Nat), .int .u8 (bt3 s0.b : Nat), .int .u8 (bt0 s0.c : Nat), .int .u8 (bt1 s0.c : Nat), .int .u8 (bt2 s0.c : Nat), .int .u8 (bt3 s0.c : Nat), .int .u8 (bt0 s0.d : Nat), .int .u8 (bt1 s0.d : Nat), .int .u8 (bt2 s0.d : Nat), .int .u8 (bt3 s0.d : Nat)]
/-- A stream at t: its key at g, where it began, how far it is. -/
structure StreamAt (w : World) (t g : Nat) (s0 : W4) (n : Nat) : Prop where
  key : w.cell? ⟨t, 0, none⟩ = some (.pointer (some ⟨g, 0, none⟩))
  start : w.rangeAt t 1 s0.bytes
  pos : w.cell? ⟨t, 17, none⟩ = some (.int .u64 (n : Nat))
  room : w.there t 0 18
  here : t < w.heap.size
  ok : s0.ok
  most : n ≤ 1099511627776
theorem StreamAt.below {B : Nat} {w w' : World} {t g n : Nat} {s0 : W4} (h : StreamAt w t g s0 n) (hb : Below B w w') (ht : t < B) : StreamAt w' t g s0 n :=
  ⟨(hb.cell ht).trans h.key, fun j v hv => (hb.cell ht).trans (h.start j v hv), (hb.cell ht).trans h.pos, there_below h.room hb ht, Nat.lt_of_lt_of_le h.here hb.size, h.ok, h.most⟩
theorem left_ok (t g n : Nat) (s0 : W4) (w : World) (h : StreamAt w t g s0 n) : Calls Tryd.prog 47 #[.pointer (some ⟨t, 0, none⟩)] w fun e w' => e = .returned (.int .u64 (1099511627776 - n : Nat)) ∧ w' = w := by
  have c := h.pos
  have hn := h.most
  clear h
  go_enter Tryd.func47, Tryd.ntmps47
  go_wp2
  go_ret
  exact ⟨ret_int (by omega), rfl⟩
/-- The block whose encryption holds byte 16 k. -/
def ctrW (s0 : W4) (k : Nat) : W4 :=
  joinW ((s0.a * 4294967296 + s0.b + (s0.c * 4294967296 + s0.d + k) / 18446744073709551616) % 18446744073709551616) ((s0.c * 4294967296 + s0.d + k) % 18446744073709551616)
theorem ctrW_ok (s0 : W4) (k : Nat) : (ctrW s0 k).ok := joinW_ok (Nat.mod_lt _ (by decide)) (Nat.mod_lt _ (by decide))
theorem add64_run (x y : Nat) (w : World) : (callFunc 71 #[.int .u64 (x : Nat), .int .u64 (y : Nat), .int .u64 0]).run Tryd.prog w = .ok (.value (.tuple #[.int .u64 ((x + y) % 18446744073709551616 : Nat), .int .u64 ((x + y) / 18446744073709551616 : Nat)])) w := by
  have h := run_callFunc_extern (P := Tryd.prog) Tryd.func71 (by kernel_rfl) (by kernel_rfl) (by kernel_rfl) (e := add64Entry) (by kernel_rfl) #[.int .u64 (x : Nat), .int .u64 (y : Nat), .int .u64 0] w
  rw [h, run_add64 (P := Tryd.prog) (x : Nat) (y : Nat) 0 (by omega) (by omega) (by omega) (by omega) w]
  simp only [Result.andThen_ok]
  rw [show (((x : Nat) : Int) + ((y : Nat) : Int) + 0) % 18446744073709551616 = (((x + y) % 18446744073709551616 : Nat) : Int) by omega, show (((x : Nat) : Int) + ((y : Nat) : Int) + 0) / 18446744073709551616 = (((x + y) / 18446744073709551616 : Nat) : Int) by omega]
set_option maxHeartbeats 1600000 in
set_option maxRecDepth 100000 in
theorem counter_ok (t g n : Nat) (s0 : W4) (w : World) (h : StreamAt w t g s0 n) : Calls Tryd.prog 48 #[.pointer (some ⟨t, 0, none⟩)] w fun e w' => e = .returned (ctrW s0 (n / 16)).blk ∧ Below w.heap.size w w' := by
  obtain ⟨hi, HHI⟩ : ∃ x, Hid (x = s0.a * 4294967296 + s0.b) := ⟨_, rfl⟩
  obtain ⟨lo, HLO⟩ : ∃ x, Hid (x = s0.c * 4294967296 + s0.d) := ⟨_, rfl⟩
  obtain ⟨k, HK⟩ : ∃ x, Hid (x = n / 16) := ⟨_, rfl⟩
  have HW : Hid (StreamAt w t g s0 n) := h
  have HB1 : Hid (Below w.heap.size w (w.alloc (.cells #[.int .u8 0, .int .u8 0, .int .u8 0, .int .u8 0, .int .u8 0, .int .u8 0, .int .u8 0, .int .u8 0, .int .u8 0, .int .u8 0, .int .u8 0, .int .u8 0, .int .u8 0, .int .u8 0, .int .u8 0, .int .u8 0] 42))) := (Below.refl _ w).alloc (Nat.le_refl _) _
  have HS1 : Hid (StreamAt (w.alloc (.cells #[.int .u8 0, .int .u8 0, .int .u8 0, .int .u8 0, .int .u8 0, .int .u8 0, .int .u8 0, .int .u8 0, .int .u8 0, .int .u8 0, .int .u8 0, .int .u8 0, .int .u8 0, .int .u8 0, .int .u8 0, .int .u8 0] 42)) t g s0 n) := h.below HB1.out h.here
  have HR1 : Hid ((w.alloc (.cells #[.int .u8 0, .int .u8 0, .int .u8 0, .int .u8 0, .int .u8 0, .int .u8 0, .int .u8 0, .int .u8 0, .int .u8 0, .int .u8 0, .int .u8 0, .int .u8 0, .int .u8 0, .int .u8 0, .int .u8 0, .int .u8 0] 42)).there w.heap.size 0 16) := there_new w _ 42 16 (Nat.le_refl _)
  have HSZ : Hid ((w.alloc (.cells #[.int .u8 0, .int .u8 0, .int .u8 0, .int .u8 0, .int .u8 0, .int .u8 0, .int .u8 0, .int .u8 0, .int .u8 0, .int .u8 0, .int .u8 0, .int .u8 0, .int .u8 0, .int .u8 0, .int .u8 0, .int .u8 0] 42)).heap.size = w.heap.size + 1) := by show _ = _; simp
  have HV : Hid (∀ u, Calls Tryd.prog 70 #[.agg #[.int .u8 (bt0 s0.a : Nat), .int .u8 (bt1 s0.a : Nat), .int .u8 (bt2 s0.a : Nat), .int .u8 (bt3 s0.a : Nat), .int .u8 (bt0 s0.b : Nat), .int .u8 (bt1 s0.b : Nat), .int .u8 (bt2 s0.b : Nat), .int .u8 (bt3 s0.b : Nat), .int .u8 (bt0 s0.c : Nat), .int .u8 (bt1 s0.c : Nat), .int .u8 (bt2 s0.c : Nat), .int .u8 (bt3 s0.c : Nat), .int .u8 (bt0 s0.d : Nat), .int .u8 (bt1 s0.d : Nat), .int .u8 (bt2 s0.d : Nat), .int .u8 (bt3 s0.d : Nat)]] u fun e u' => e = .returned (.tuple #[.int .u64 (hi : Nat), .int .u64 (lo : Nat)]) ∧ Below u.heap.size u u') := fun u => by rw [HHI.out, HLO.out]; exact halves_ok s0 h.ok u
  have hadd : ∀ u, (callFunc 71 #[.int .u64 (lo : Nat), .int .u64 (k : Nat), .int .u64 0]).run Tryd.prog u = .ok (.value (.tuple #[.int .u64 ((lo + k) % 18446744073709551616 : Nat), .int .u64 ((lo + k) / 18446744073709551616 : Nat)])) u := add64_run lo k
  obtain ⟨lo', HLO'⟩ : ∃ x, Hid (x = (lo + k) % 18446744073709551616) := ⟨_, rfl⟩
  obtain ⟨cy, HCY⟩ : ∃ x, Hid (x = (lo + k) / 18446744073709551616) := ⟨_, rfl⟩
  rw [← HLO'.out, ← HCY.out] at hadd
  have hdiv : ((n : Nat) : Int) / 16 = (k : Nat) := by have := HK.out; omega
  have hn40 := h.most
  clear h
  go_enter Tryd.func48, Tryd.ntmps48
  go_upto_region 1 with fail
  generalize w.alloc (.cells #[.int .u8 0, .int .u8 0, .int .u8 0, .int .u8 0, .int .u8 0, .int .u8 0, .int .u8 0, .int .u8 0, .int .u8 0, .int .u8 0, .int .u8 0, .int .u8 0, .int .u8 0, .int .u8 0, .int .u8 0, .int .u8 0] 42) = w1 at HB1 HS1 HR1 HSZ ⊢
  have cp : w1.cell? ⟨t, 17, none⟩ = some (.int .u64 (n : Nat)) := HS1.out.pos
  go_wp2_with (first
    | (refine wpList_load_mid (by rfl) 42 (.tmp 9) (by rfl) t 1 (by rfl) [.int .u8 (bt0 s0.a : Nat), .int .u8 (bt1 s0.a : Nat), .int .u8 (bt2 s0.a : Nat), .int .u8 (bt3 s0.a : Nat), .int .u8 (bt0 s0.b : Nat), .int .u8 (bt1 s0.b : Nat), .int .u8 (bt2 s0.b : Nat), .int .u8 (bt3 s0.b : Nat), .int .u8 (bt0 s0.c : Nat), .int .u8 (bt1 s0.c : Nat), .int .u8 (bt2 s0.c : Nat), .int .u8 (bt3 s0.c : Nat), .int .u8 (bt0 s0.d : Nat), .int .u8 (bt1 s0.d : Nat), .int .u8 (bt2 s0.d : Nat), .int .u8 (bt3 s0.d : Nat)] _ HS1.out.start Tryd.underlying42 rfl size42 ?_)
    | (go_at_call 70; refine (HV.out _).mono ?_))
  rintro e2 w2 ⟨rfl, hb2⟩
  have HB2 : Hid (Below w1.heap.size w1 w2) := hb2
  have cp2 : w2.cell? ⟨t, 17, none⟩ = some (.int .u64 (n : Nat)) := (hb2.cell HS1.out.here).trans cp
  clear hb2
  obtain ⟨hi', HHI'⟩ : ∃ x, Hid (x = (hi + cy) % 18446744073709551616) := ⟨_, rfl⟩
  have hwr : IntKind.u64.wrap ((hi : Int) + (cy : Int)) = ((hi' : Nat) : Int) := by rw [HHI'.out]; simp [IntKind.wrap, IntKind.bits, IntKind.signed]
  have KJ : Hid (∀ u, Calls Tryd.prog 72 #[.int .u64 (hi' : Nat), .int .u64 (lo' : Nat)] u fun e u' => e = .returned (.agg (joinW hi' lo').bytes.toArray) ∧ Below u.heap.size u u') := fun u => join_ok hi' lo' (by rw [HHI'.out]; exact Nat.mod_lt _ (by decide)) (by rw [HLO'.out]; exact Nat.mod_lt _ (by decide)) u
  obtain ⟨L, HL⟩ : ∃ L, Hid (L = (joinW hi' lo').bytes) := ⟨_, rfl⟩
  rw [← HL.out] at KJ
  have HLl : Hid (L.length = 16) := by show _ = _; rw [HL.out]; rfl
  have HLo : Hid (L.toArray.all (·.oneCell') = true) := by show _ = _; rw [HL.out]; kernel_rfl
  go_wp2_with (first | (go_at_call 72; refine (KJ.out _).mono ?_))
  rintro e3 w3 ⟨rfl, hb3⟩
  have H3 : Hid (w3.there w.heap.size 0 L.length ∧ Below w.heap.size w w3) := by
    have hz := HSZ.out
    have h2 := HB2.out.size
    have hb : Below w1.heap.size w1 w3 := HB2.out.trans (hb3.mono h2)
    rw [HLl.out]
    exact ⟨there_below HR1.out hb (by omega), HB1.out.trans (hb.mono (by omega))⟩
  clear hb3 KJ
  have hst : Sem.run Tryd.prog (storeCells ⟨w.heap.size, 0, none⟩ L) w3 = .ok () (w3.setCells w.heap.size 0 L) :=
    run_storeCells_cells (P := Tryd.prog) w.heap.size 0 L 0 w3 (fun j hj => by have := (H3.out.1 j hj).1; simpa using this) (fun j hj => by have := (H3.out.1 j hj).2; simpa using this) (fun v hv => (Array.all_eq_true_iff_forall_mem.1 HLo.out) v (by simpa using hv))
  have hll := HLl.out
  go_wp2_with (first
    | (refine wpList_store_mid (by rfl) 42 (.tmp 2) (.tmp 28) (by rfl) w.heap.size 0 L.toArray (by rfl) (by rfl) H3.out.1 (by rw [List.size_toArray, HLl.out]; exact size42) HLo.out ?_)
    | fail)
  refine ret_array L Tryd.results48 rfl (World.rangeAt_setCells_same _ _ _ _ H3.out.1) Tryd.underlying42 rfl (by rw [HLl.out]; exact size42) ⟨?_, belowB_setCells _ (Nat.le_refl _) _ _ _ H3.out.2⟩
  rw [HL.out, HHI'.out, HLO'.out, HCY.out, HHI.out, HLO.out, HK.out]
  exact rfl
end Go.Proofs.YtgmfiljjogdccaaDoor
namespace Go.Proofs.YtgmfiljjogdccaaDoor
open Go.RowKit Go.RwLone
set_option linter.unusedVariables false
theorem stream_alloc (w : World) (g : Nat) (s0 : W4) (hs : s0.ok) : StreamAt (w.alloc (.cells #[.pointer (some ⟨g, 0, none⟩), .int .u8 (bt0 s0.a : Nat), .int .u8 (bt1 s0.a : Nat), .int .u8 (bt2 s0.a : Nat), .int .u8 (bt3 s0.a : Nat), .int .u8 (bt0 s0.b : Nat), .int .u8 (bt1 s0.b : Nat), .int .u8 (bt2 s0.b : Nat), .int .u8 (bt3 s0.b : Nat), .int .u8 (bt0 s0.c : Nat), .int .u8 (bt1 s0.c : Nat), .int .u8 (bt2 s0.c : Nat), .int .u8 (bt3 s0.c : Nat), .int .u8 (bt0 s0.d : Nat), .int .u8 (bt1 s0.d : Nat), .int .u8 (bt2 s0.d : Nat), .int .u8 (bt3 s0.d : Nat), .int .u64 0] 97)) w.heap.size g s0 0 := by
  have hr := rangeAt_new w #[.pointer (some ⟨g, 0, none⟩), .int .u8 (bt0 s0.a : Nat), .int .u8 (bt1 s0.a : Nat), .int .u8 (bt2 s0.a : Nat), .int .u8 (bt3 s0.a : Nat), .int .u8 (bt0 s0.b : Nat), .int .u8 (bt1 s0.b : Nat), .int .u8 (bt2 s0.b : Nat), .int .u8 (bt3 s0.b : Nat), .int .u8 (bt0 s0.c : Nat), .int .u8 (bt1 s0.c : Nat), .int .u8 (bt2 s0.c : Nat), .int .u8 (bt3 s0.c : Nat), .int .u8 (bt0 s0.d : Nat), .int .u8 (bt1 s0.d : Nat), .int .u8 (bt2 s0.d : Nat), .int .u8 (bt3 s0.d : Nat), .int .u64 0] 97
  refine ⟨hr 0 _ rfl, fun j v hv => ?_, hr 17 _ rfl, there_new w _ 97 18 (Nat.le_refl _), by simp, hs, by decide⟩
  have h16 : j < 16 := (List.getElem?_eq_some_iff.1 hv).1
  have hv' : (#[.pointer (some ⟨g, 0, none⟩), .int .u8 (bt0 s0.a : Nat), .int .u8 (bt1 s0.a : Nat), .int .u8 (bt2 s0.a : Nat), .int .u8 (bt3 s0.a : Nat), .int .u8 (bt0 s0.b : Nat), .int .u8 (bt1 s0.b : Nat), .int .u8 (bt2 s0.b : Nat), .int .u8 (bt3 s0.b : Nat), .int .u8 (bt0 s0.c : Nat), .int .u8 (bt1 s0.c : Nat), .int .u8 (bt2 s0.c : Nat), .int .u8 (bt3 s0.c : Nat), .int .u8 (bt0 s0.d : Nat), .int .u8 (bt1 s0.d : Nat), .int .u8 (bt2 s0.d : Nat), .int .u8 (bt3 s0.d : Nat), .int .u64 0]).toList[j + 1]? = some v := by
    show ([.int .u8 (bt0 s0.a : Nat), .int .u8 (bt1 s0.a : Nat), .int .u8 (bt2 s0.a : Nat), .int .u8 (bt3 s0.a : Nat), .int .u8 (bt0 s0.b : Nat), .int .u8 (bt1 s0.b : Nat), .int .u8 (bt2 s0.b : Nat), .int .u8 (bt3 s0.b : Nat), .int .u8 (bt0 s0.c : Nat), .int .u8 (bt1 s0.c : Nat), .int .u8 (bt2 s0.c : Nat), .int .u8 (bt3 s0.c : Nat), .int .u8 (bt0 s0.d : Nat), .int .u8 (bt1 s0.d : Nat), .int .u8 (bt2 s0.d : Nat), .int .u8 (bt3 s0.d : Nat)] ++ [Value.int .u64 0])[j]? = some v
    rw [List.getElem?_append_left h16]
    exact hv
  have := hr (j + 1) v hv'
  rw [show 0 + (j + 1) = 1 + j by omega] at this
  exact this
set_option maxHeartbeats 1600000 in
set_option maxRecDepth 100000 in
theorem stream_ok (g nr : Nat) (K : Nat → Nat) (s0 : W4) (w : World) (h : KeyAt w g nr K) (hs : s0.ok) : Calls Tryd.prog 28 #[.pointer (some ⟨g, 0, none⟩), s0.blk] w fun e w' => ∃ t, e = .returned (.tuple #[.pointer (some ⟨t, 0, none⟩), .int .i64 0]) ∧ w.heap.size ≤ t ∧ StreamAt w' t g s0 0 ∧ KeyAt w' g nr K ∧ Touch w w' g 4 1 := by
  have HG : Hid (g < w.heap.size) := h.ciph.here
  have HS : Hid s0.ok := hs
  have HK : Hid (KeyAt w g nr K) := h
  have HK1 : Hid (KeyAt (w.alloc (.cells #[.int .u8 (bt0 s0.a : Nat), .int .u8 (bt1 s0.a : Nat), .int .u8 (bt2 s0.a : Nat), .int .u8 (bt3 s0.a : Nat), .int .u8 (bt0 s0.b : Nat), .int .u8 (bt1 s0.b : Nat), .int .u8 (bt2 s0.b : Nat), .int .u8 (bt3 s0.b : Nat), .int .u8 (bt0 s0.c : Nat), .int .u8 (bt1 s0.c : Nat), .int .u8 (bt2 s0.c : Nat), .int .u8 (bt3 s0.c : Nat), .int .u8 (bt0 s0.d : Nat), .int .u8 (bt1 s0.d : Nat), .int .u8 (bt2 s0.d : Nat), .int .u8 (bt3 s0.d : Nat)] 42)) g nr K) := h.below ((Below.refl _ w).alloc (Nat.le_refl _) _) h.ciph.here
  have HH : Hid (Calls Tryd.prog 39 #[.pointer (some ⟨g, 0, none⟩)] (w.alloc (.cells #[.int .u8 (bt0 s0.a : Nat), .int .u8 (bt1 s0.a : Nat), .int .u8 (bt2 s0.a : Nat), .int .u8 (bt3 s0.a : Nat), .int .u8 (bt0 s0.b : Nat), .int .u8 (bt1 s0.b : Nat), .int .u8 (bt2 s0.b : Nat), .int .u8 (bt3 s0.b : Nat), .int .u8 (bt0 s0.c : Nat), .int .u8 (bt1 s0.c : Nat), .int .u8 (bt2 s0.c : Nat), .int .u8 (bt3 s0.c : Nat), .int .u8 (bt0 s0.d : Nat), .int .u8 (bt1 s0.d : Nat), .int .u8 (bt2 s0.d : Nat), .int .u8 (bt3 s0.d : Nat)] 42)) fun e w' => e = .returned (.int .i64 0) ∧ w' = (w.alloc (.cells #[.int .u8 (bt0 s0.a : Nat), .int .u8 (bt1 s0.a : Nat), .int .u8 (bt2 s0.a : Nat), .int .u8 (bt3 s0.a : Nat), .int .u8 (bt0 s0.b : Nat), .int .u8 (bt1 s0.b : Nat), .int .u8 (bt2 s0.b : Nat), .int .u8 (bt3 s0.b : Nat), .int .u8 (bt0 s0.c : Nat), .int .u8 (bt1 s0.c : Nat), .int .u8 (bt2 s0.c : Nat), .int .u8 (bt3 s0.c : Nat), .int .u8 (bt0 s0.d : Nat), .int .u8 (bt1 s0.d : Nat), .int .u8 (bt2 s0.d : Nat), .int .u8 (bt3 s0.d : Nat)] 42)).setCell ⟨g, 4, none⟩ (.int .i32 1)) := hold_ok g nr K _ HK1.out
  have HT0 : Hid (Touch w (w.alloc (.cells #[.int .u8 (bt0 s0.a : Nat), .int .u8 (bt1 s0.a : Nat), .int .u8 (bt2 s0.a : Nat), .int .u8 (bt3 s0.a : Nat), .int .u8 (bt0 s0.b : Nat), .int .u8 (bt1 s0.b : Nat), .int .u8 (bt2 s0.b : Nat), .int .u8 (bt3 s0.b : Nat), .int .u8 (bt0 s0.c : Nat), .int .u8 (bt1 s0.c : Nat), .int .u8 (bt2 s0.c : Nat), .int .u8 (bt3 s0.c : Nat), .int .u8 (bt0 s0.d : Nat), .int .u8 (bt1 s0.d : Nat), .int .u8 (bt2 s0.d : Nat), .int .u8 (bt3 s0.d : Nat)] 42)) g 4 1) := (Touch.refl w g 4 1).alloc _ h.ciph.here
  have HR0 : Hid ((w.alloc (.cells #[.int .u8 (bt0 s0.a : Nat), .int .u8 (bt1 s0.a : Nat), .int .u8 (bt2 s0.a : Nat), .int .u8 (bt3 s0.a : Nat), .int .u8 (bt0 s0.b : Nat), .int .u8 (bt1 s0.b : Nat), .int .u8 (bt2 s0.b : Nat), .int .u8 (bt3 s0.b : Nat), .int .u8 (bt0 s0.c : Nat), .int .u8 (bt1 s0.c : Nat), .int .u8 (bt2 s0.c : Nat), .int .u8 (bt3 s0.c : Nat), .int .u8 (bt0 s0.d : Nat), .int .u8 (bt1 s0.d : Nat), .int .u8 (bt2 s0.d : Nat), .int .u8 (bt3 s0.d : Nat)] 42)).rangeAt w.heap.size 0 [.int .u8 (bt0 s0.a : Nat), .int .u8 (bt1 s0.a : Nat), .int .u8 (bt2 s0.a : Nat), .int .u8 (bt3 s0.a : Nat), .int .u8 (bt0 s0.b : Nat), .int .u8 (bt1 s0.b : Nat), .int .u8 (bt2 s0.b : Nat), .int .u8 (bt3 s0.b : Nat), .int .u8 (bt0 s0.c : Nat), .int .u8 (bt1 s0.c : Nat), .int .u8 (bt2 s0.c : Nat), .int .u8 (bt3 s0.c : Nat), .int .u8 (bt0 s0.d : Nat), .int .u8 (bt1 s0.d : Nat), .int .u8 (bt2 s0.d : Nat), .int .u8 (bt3 s0.d : Nat)]) := rangeAt_new w #[.int .u8 (bt0 s0.a : Nat), .int .u8 (bt1 s0.a : Nat), .int .u8 (bt2 s0.a : Nat), .int .u8 (bt3 s0.a : Nat), .int .u8 (bt0 s0.b : Nat), .int .u8 (bt1 s0.b : Nat), .int .u8 (bt2 s0.b : Nat), .int .u8 (bt3 s0.b : Nat), .int .u8 (bt0 s0.c : Nat), .int .u8 (bt1 s0.c : Nat), .int .u8 (bt2 s0.c : Nat), .int .u8 (bt3 s0.c : Nat), .int .u8 (bt0 s0.d : Nat), .int .u8 (bt1 s0.d : Nat), .int .u8 (bt2 s0.d : Nat), .int .u8 (bt3 s0.d : Nat)] 42
  have HSZ : Hid ((w.alloc (.cells #[.int .u8 (bt0 s0.a : Nat), .int .u8 (bt1 s0.a : Nat), .int .u8 (bt2 s0.a : Nat), .int .u8 (bt3 s0.a : Nat), .int .u8 (bt0 s0.b : Nat), .int .u8 (bt1 s0.b : Nat), .int .u8 (bt2 s0.b : Nat), .int .u8 (bt3 s0.b : Nat), .int .u8 (bt0 s0.c : Nat), .int .u8 (bt1 s0.c : Nat), .int .u8 (bt2 s0.c : Nat), .int .u8 (bt3 s0.c : Nat), .int .u8 (bt0 s0.d : Nat), .int .u8 (bt1 s0.d : Nat), .int .u8 (bt2 s0.d : Nat), .int .u8 (bt3 s0.d : Nat)] 42)).heap.size = w.heap.size + 1) := by show _ = _; simp
  clear h hs
  show Calls Tryd.prog 28 #[.pointer (some ⟨g, 0, none⟩), .agg #[.int .u8 (bt0 s0.a : Nat), .int .u8 (bt1 s0.a : Nat), .int .u8 (bt2 s0.a : Nat), .int .u8 (bt3 s0.a : Nat), .int .u8 (bt0 s0.b : Nat), .int .u8 (bt1 s0.b : Nat), .int .u8 (bt2 s0.b : Nat), .int .u8 (bt3 s0.b : Nat), .int .u8 (bt0 s0.c : Nat), .int .u8 (bt1 s0.c : Nat), .int .u8 (bt2 s0.c : Nat), .int .u8 (bt3 s0.c : Nat), .int .u8 (bt0 s0.d : Nat), .int .u8 (bt1 s0.d : Nat), .int .u8 (bt2 s0.d : Nat), .int .u8 (bt3 s0.d : Nat)]] w _
  go_enter_defers Tryd.func28, Tryd.ntmps28
  go_wp2_with (first | (go_at_call 39; refine HH.out.mono ?_))
  rintro e1 w1 ⟨rfl, hw1⟩
  have H1 : Hid (Ciph w1 g 6 nr K ∧ Touch (w.alloc (.cells #[.int .u8 (bt0 s0.a : Nat), .int .u8 (bt1 s0.a : Nat), .int .u8 (bt2 s0.a : Nat), .int .u8 (bt3 s0.a : Nat), .int .u8 (bt0 s0.b : Nat), .int .u8 (bt1 s0.b : Nat), .int .u8 (bt2 s0.b : Nat), .int .u8 (bt3 s0.b : Nat), .int .u8 (bt0 s0.c : Nat), .int .u8 (bt1 s0.c : Nat), .int .u8 (bt2 s0.c : Nat), .int .u8 (bt3 s0.c : Nat), .int .u8 (bt0 s0.d : Nat), .int .u8 (bt1 s0.d : Nat), .int .u8 (bt2 s0.d : Nat), .int .u8 (bt3 s0.d : Nat)] 42)) w1 g 4 1 ∧ w1.cell? ⟨g, 4, none⟩ = some (.int .i32 1)) := held HK1.out hw1
  have HR1 : Hid (w1.rangeAt w.heap.size 0 [.int .u8 (bt0 s0.a : Nat), .int .u8 (bt1 s0.a : Nat), .int .u8 (bt2 s0.a : Nat), .int .u8 (bt3 s0.a : Nat), .int .u8 (bt0 s0.b : Nat), .int .u8 (bt1 s0.b : Nat), .int .u8 (bt2 s0.b : Nat), .int .u8 (bt3 s0.b : Nat), .int .u8 (bt0 s0.c : Nat), .int .u8 (bt1 s0.c : Nat), .int .u8 (bt2 s0.c : Nat), .int .u8 (bt3 s0.c : Nat), .int .u8 (bt0 s0.d : Nat), .int .u8 (bt1 s0.d : Nat), .int .u8 (bt2 s0.d : Nat), .int .u8 (bt3 s0.d : Nat)]) := fun j v hv => by
    have hz := HSZ.out
    have hgw := HG.out
    rw [H1.out.2.1.far (p := ⟨w.heap.size, 0 + j, none⟩) (show w.heap.size < _ by omega) (show w.heap.size ≠ g by omega)]
    exact HR0.out j v hv
  clear hw1 HH
  go_wp2_with (first
    | (refine wpList_load_mid (by rfl) 42 (.tmp 3) (by rfl) w.heap.size 0 (by rfl) [.int .u8 (bt0 s0.a : Nat), .int .u8 (bt1 s0.a : Nat), .int .u8 (bt2 s0.a : Nat), .int .u8 (bt3 s0.a : Nat), .int .u8 (bt0 s0.b : Nat), .int .u8 (bt1 s0.b : Nat), .int .u8 (bt2 s0.b : Nat), .int .u8 (bt3 s0.b : Nat), .int .u8 (bt0 s0.c : Nat), .int .u8 (bt1 s0.c : Nat), .int .u8 (bt2 s0.c : Nat), .int .u8 (bt3 s0.c : Nat), .int .u8 (bt0 s0.d : Nat), .int .u8 (bt1 s0.d : Nat), .int .u8 (bt2 s0.d : Nat), .int .u8 (bt3 s0.d : Nat)] _ HR1.out Tryd.underlying42 rfl size42 ?_)
    | fail)
  have HT1 : Hid (Touch w (w1.alloc (.cells #[.pointer (some ⟨g, 0, none⟩), .int .u8 (bt0 s0.a : Nat), .int .u8 (bt1 s0.a : Nat), .int .u8 (bt2 s0.a : Nat), .int .u8 (bt3 s0.a : Nat), .int .u8 (bt0 s0.b : Nat), .int .u8 (bt1 s0.b : Nat), .int .u8 (bt2 s0.b : Nat), .int .u8 (bt3 s0.b : Nat), .int .u8 (bt0 s0.c : Nat), .int .u8 (bt1 s0.c : Nat), .int .u8 (bt2 s0.c : Nat), .int .u8 (bt3 s0.c : Nat), .int .u8 (bt0 s0.d : Nat), .int .u8 (bt1 s0.d : Nat), .int .u8 (bt2 s0.d : Nat), .int .u8 (bt3 s0.d : Nat), .int .u64 0] 97)) g 4 1) := (HT0.out.trans H1.out.2.1).alloc _ HG.out
  have HC1 : Hid ((w1.alloc (.cells #[.pointer (some ⟨g, 0, none⟩), .int .u8 (bt0 s0.a : Nat), .int .u8 (bt1 s0.a : Nat), .int .u8 (bt2 s0.a : Nat), .int .u8 (bt3 s0.a : Nat), .int .u8 (bt0 s0.b : Nat), .int .u8 (bt1 s0.b : Nat), .int .u8 (bt2 s0.b : Nat), .int .u8 (bt3 s0.b : Nat), .int .u8 (bt0 s0.c : Nat), .int .u8 (bt1 s0.c : Nat), .int .u8 (bt2 s0.c : Nat), .int .u8 (bt3 s0.c : Nat), .int .u8 (bt0 s0.d : Nat), .int .u8 (bt1 s0.d : Nat), .int .u8 (bt2 s0.d : Nat), .int .u8 (bt3 s0.d : Nat), .int .u64 0] 97)).cell? ⟨g, 4, none⟩ = some (.int .i32 1)) := by
    have hb : Below w1.heap.size w1 (w1.alloc (.cells #[.pointer (some ⟨g, 0, none⟩), .int .u8 (bt0 s0.a : Nat), .int .u8 (bt1 s0.a : Nat), .int .u8 (bt2 s0.a : Nat), .int .u8 (bt3 s0.a : Nat), .int .u8 (bt0 s0.b : Nat), .int .u8 (bt1 s0.b : Nat), .int .u8 (bt2 s0.b : Nat), .int .u8 (bt3 s0.b : Nat), .int .u8 (bt0 s0.c : Nat), .int .u8 (bt1 s0.c : Nat), .int .u8 (bt2 s0.c : Nat), .int .u8 (bt3 s0.c : Nat), .int .u8 (bt0 s0.d : Nat), .int .u8 (bt1 s0.d : Nat), .int .u8 (bt2 s0.d : Nat), .int .u8 (bt3 s0.d : Nat), .int .u64 0] 97)) := (Below.refl _ w1).alloc (Nat.le_refl _) _
    exact (hb.cell H1.out.1.here).trans H1.out.2.2
  have HS1 : Hid (StreamAt (w1.alloc (.cells #[.pointer (some ⟨g, 0, none⟩), .int .u8 (bt0 s0.a : Nat), .int .u8 (bt1 s0.a : Nat), .int .u8 (bt2 s0.a : Nat), .int .u8 (bt3 s0.a : Nat), .int .u8 (bt0 s0.b : Nat), .int .u8 (bt1 s0.b : Nat), .int .u8 (bt2 s0.b : Nat), .int .u8 (bt3 s0.b : Nat), .int .u8 (bt0 s0.c : Nat), .int .u8 (bt1 s0.c : Nat), .int .u8 (bt2 s0.c : Nat), .int .u8 (bt3 s0.c : Nat), .int .u8 (bt0 s0.d : Nat), .int .u8 (bt1 s0.d : Nat), .int .u8 (bt2 s0.d : Nat), .int .u8 (bt3 s0.d : Nat), .int .u64 0] 97)) w1.heap.size g s0 0) := stream_alloc w1 g s0 HS.out
  refine leaves_cons (f := 40) (args := #[.pointer (some ⟨g, 0, none⟩)]) (by simp) (by simp [go_sem]) ?_
  refine (unlocked HK.out HT1.out HC1.out).mono ?_
  rintro e5 u5 w5 ⟨rfl, rfl, hk5, ht5, hw5⟩
  have hg1 := H1.out.1.here
  refine ⟨_, results_tmp2 rfl _ _ _, w1.heap.size, rfl, ?_, ?_, hk5, ht5⟩
  · have := (HT0.out.trans H1.out.2.1).size; exact this
  · rw [hw5]
    have hb : Touch (w1.alloc (.cells #[.pointer (some ⟨g, 0, none⟩), .int .u8 (bt0 s0.a : Nat), .int .u8 (bt1 s0.a : Nat), .int .u8 (bt2 s0.a : Nat), .int .u8 (bt3 s0.a : Nat), .int .u8 (bt0 s0.b : Nat), .int .u8 (bt1 s0.b : Nat), .int .u8 (bt2 s0.b : Nat), .int .u8 (bt3 s0.b : Nat), .int .u8 (bt0 s0.c : Nat), .int .u8 (bt1 s0.c : Nat), .int .u8 (bt2 s0.c : Nat), .int .u8 (bt3 s0.c : Nat), .int .u8 (bt0 s0.d : Nat), .int .u8 (bt1 s0.d : Nat), .int .u8 (bt2 s0.d : Nat), .int .u8 (bt3 s0.d : Nat), .int .u64 0] 97)) ((w1.alloc (.cells #[.pointer (some ⟨g, 0, none⟩), .int .u8 (bt0 s0.a : Nat), .int .u8 (bt1 s0.a : Nat), .int .u8 (bt2 s0.a : Nat), .int .u8 (bt3 s0.a : Nat), .int .u8 (bt0 s0.b : Nat), .int .u8 (bt1 s0.b : Nat), .int .u8 (bt2 s0.b : Nat), .int .u8 (bt3 s0.b : Nat), .int .u8 (bt0 s0.c : Nat), .int .u8 (bt1 s0.c : Nat), .int .u8 (bt2 s0.c : Nat), .int .u8 (bt3 s0.c : Nat), .int .u8 (bt0 s0.d : Nat), .int .u8 (bt1 s0.d : Nat), .int .u8 (bt2 s0.d : Nat), .int .u8 (bt3 s0.d : Nat), .int .u64 0] 97)).setCells g 4 [.int .i32 0]) g 4 1 := (Touch.refl _ g 4 1).setCells 4 _ (by omega) (by simp)
    have hs := HS1.out
    have hlt : w1.heap.size < (w1.alloc (.cells #[.pointer (some ⟨g, 0, none⟩), .int .u8 (bt0 s0.a : Nat), .int .u8 (bt1 s0.a : Nat), .int .u8 (bt2 s0.a : Nat), .int .u8 (bt3 s0.a : Nat), .int .u8 (bt0 s0.b : Nat), .int .u8 (bt1 s0.b : Nat), .int .u8 (bt2 s0.b : Nat), .int .u8 (bt3 s0.b : Nat), .int .u8 (bt0 s0.c : Nat), .int .u8 (bt1 s0.c : Nat), .int .u8 (bt2 s0.c : Nat), .int .u8 (bt3 s0.c : Nat), .int .u8 (bt0 s0.d : Nat), .int .u8 (bt1 s0.d : Nat), .int .u8 (bt2 s0.d : Nat), .int .u8 (bt3 s0.d : Nat), .int .u64 0] 97)).heap.size := hs.here
    refine ⟨(hb.far (p := ⟨w1.heap.size, 0, none⟩) hlt (show w1.heap.size ≠ g by omega)).trans hs.key, fun j v hv => (hb.far (p := ⟨w1.heap.size, 1 + j, none⟩) hlt (show w1.heap.size ≠ g by omega)).trans (hs.start j v hv), (hb.far (p := ⟨w1.heap.size, 17, none⟩) hlt (show w1.heap.size ≠ g by omega)).trans hs.pos, fun j hj => ?_, Nat.lt_of_lt_of_le hlt hb.size, hs.ok, hs.most⟩
    rw [hb.far (p := ⟨w1.heap.size, 0 + j, none⟩) hlt (show w1.heap.size ≠ g by omega), hb.farFrozen (p := ⟨w1.heap.size, 0 + j, none⟩) hlt (show w1.heap.size ≠ g by omega)]
    exact hs.room j hj
end Go.Proofs.YtgmfiljjogdccaaDoor
namespace Go.Proofs.YtgmfiljjogdccaaDoor
open Go.RowKit Go.RwLone
set_option linter.unusedVariables false
theorem at_ok (t g n : Nat) (s0 : W4) (w : World) (h : StreamAt w t g s0 n) : Calls Tryd.prog 33 #[.pointer (some ⟨t, 0, none⟩)] w fun e w' => e = .returned (.int .u64 (n : Nat)) ∧ w' = w := by
  have c := h.pos
  clear h
  go_enter Tryd.func33, Tryd.ntmps33
  go_wp2
  go_ret
  exact ⟨rfl, rfl⟩
theorem StreamAt.touch {w w' : World} {t g n g' o m : Nat} {s0 : W4} (h : StreamAt w t g s0 n) (ht : Touch w w' g' o m) (hne : t ≠ g') : StreamAt w' t g s0 n :=
  ⟨(ht.far (p := ⟨t, 0, none⟩) h.here hne).trans h.key, fun j v hv => (ht.far (p := ⟨t, 1 + j, none⟩) h.here hne).trans (h.start j v hv), (ht.far (p := ⟨t, 17, none⟩) h.here hne).trans h.pos, fun j hj => by
    rw [ht.far (p := ⟨t, 0 + j, none⟩) h.here hne, ht.farFrozen (p := ⟨t, 0 + j, none⟩) h.here hne]; exact h.room j hj, Nat.lt_of_lt_of_le h.here ht.size, h.ok, h.most⟩
theorem StreamAt.move {w : World} {t g n : Nat} {s0 : W4} (h : StreamAt w t g s0 n) (m : Nat) (hm : m ≤ 1099511627776) : StreamAt (w.setCell ⟨t, 17, none⟩ (.int .u64 (m : Nat))) t g s0 m := by
  have ht : Touch w (w.setCell ⟨t, 17, none⟩ (.int .u64 (m : Nat))) t 17 1 := (Touch.refl w t 17 1).setCell 17 _ (by omega) (by omega)
  refine ⟨(ht.cell 0 (by omega)).trans h.key, fun j v hv => ?_, ?_, ht.there _ _ h.room, Nat.lt_of_lt_of_le h.here ht.size, h.ok, hm⟩
  · have h16 : j < 16 := (List.getElem?_eq_some_iff.1 hv).1
    exact (ht.cell (1 + j) (by omega)).trans (h.start j v hv)
  · have := (h.room 17 (by decide)).1
    exact World.cell?_setCell_same' _ _ _ (by simpa using this)
/-- Another cell of another block. -/
theorem KeyAt.far {w w' : World} {g nr t o m : Nat} {K : Nat → Nat} (h : KeyAt w g nr K) (ht : Touch w w' t o m) (hne : g ≠ t) : KeyAt w' g nr K := by
  have hg := h.ciph.here
  have e : ∀ j : Nat, w'.cell? ⟨g, j, none⟩ = w.cell? ⟨g, j, none⟩ := fun j => ht.far (p := ⟨g, j, none⟩) hg hne
  refine ⟨⟨(e _).trans h.ciph.rounds, fun i hi => (e _).trans (h.ciph.words i hi), h.ciph.small, ⟨fun b hb => (e _).trans (h.ciph.tab.s b hb), fun b hb => (e _).trans (h.ciph.tab.u b hb), fun b hb => (e _).trans (h.ciph.tab.m b hb), fun b hb => (e _).trans (h.ciph.tab.n b hb)⟩, Nat.lt_of_lt_of_le hg ht.size, h.ciph.some, h.ciph.most⟩, (e _).trans h.count, fun j hj => ?_⟩
  rw [e, ht.farFrozen (p := ⟨g, 0 + j, none⟩) hg hne]
  exact h.room j hj
/-- Two blocks touched, one behind the other. -/
structure Touch2 (w w' : World) (g t : Nat) : Prop where
  os : w'.os = w.os
  tape : w'.tape = w.tape
  output : w'.output = w.output
  size : w.heap.size ≤ w'.heap.size
  block : ∀ k, k < w.heap.size → k ≠ g → k ≠ t → w'.heap[k]? = w.heap[k]?
theorem Touch.left {w w' : World} {g o n : Nat} (h : Touch w w' g o n) (t : Nat) : Touch2 w w' g t := ⟨h.os, h.tape, h.output, h.size, fun k hk hg _ => h.block k hk hg⟩
theorem Touch.right {w w' : World} {t o n : Nat} (h : Touch w w' t o n) (g : Nat) : Touch2 w w' g t := ⟨h.os, h.tape, h.output, h.size, fun k hk _ ht => h.block k hk ht⟩
theorem Touch2.trans {a b c : World} {g t : Nat} (h : Touch2 a b g t) (k : Touch2 b c g t) : Touch2 a c g t :=
  ⟨k.os.trans h.os, k.tape.trans h.tape, k.output.trans h.output, Nat.le_trans h.size k.size, fun i hi hg ht => (k.block i (Nat.lt_of_lt_of_le hi h.size) hg ht).trans (h.block i hi hg ht)⟩
theorem Below.two {w w' : World} (h : Below w.heap.size w w') (g t : Nat) : Touch2 w w' g t := ⟨h.os, h.tape, h.output, h.size, fun k hk _ _ => h.block k hk⟩
theorem Touch2.toBelow {w w' : World} {g t B : Nat} (h : Touch2 w w' g t) (hg : B ≤ g) (ht : B ≤ t) (hB : B ≤ w.heap.size) : Below B w w' := ⟨h.os, h.tape, h.output, h.size, fun k hk => h.block k (by omega) (by omega) (by omega)⟩
/-- The key is let go, whatever else was written. -/
theorem unlock3 {w3 : World} {g nr : Nat} {K : Nat → Nat} (hc : Ciph w3 g 6 nr K) (hcnt : w3.cell? ⟨g, 4, none⟩ = some (.int .i32 1)) (hroom : w3.there g 0 1091) :
    CallsD Tryd.prog 40 #[.pointer (some ⟨g, 0, none⟩)] .returning w3 fun e u' w' => u' = .returning ∧ e = .returned (.tuple #[]) ∧ KeyAt w' g nr K ∧ Touch w3 w' g 4 1 := by
  obtain ⟨x0, c0⟩ := cell_of_there hroom 0 (by decide)
  obtain ⟨x2, c2⟩ := cell_of_there hroom 2 (by decide)
  have hz := (hroom 4 (by decide)).2
  refine (runlock_deferred rwRLib g 0 1 x0 x2 .returning w3 c0 c2 hcnt hz (by decide +kernel)).mono ?_
  rintro e u' w' ⟨rfl, rfl, hw⟩
  rw [show wrap32 (1 + -1) = 0 by decide +kernel] at hw
  have hw' : w' = w3.setCells g 4 [.int .i32 0] := hw
  have ht' : Touch w3 w' g 4 1 := by rw [hw']; exact (Touch.refl _ g 4 1).setCells 4 _ (by omega) (by simp)
  have hc' : w'.cell? ⟨g, 4, none⟩ = some (.int .i32 0) := by
    rw [hw]
    exact World.cell?_setCell_same' _ _ _ (by rw [show (0 + 4) = 4 from rfl, hcnt]; rfl)
  refine ⟨rfl, rfl, ⟨⟨(ht'.cell 6 (by omega)).trans hc.rounds, fun i hi => (ht'.cell (6 + 1 + i) (by omega)).trans (hc.words i hi), hc.small, ⟨fun b hb => (ht'.cell _ (by omega)).trans (hc.tab.s b hb), fun b hb => (ht'.cell _ (by omega)).trans (hc.tab.u b hb), fun b hb => (ht'.cell _ (by omega)).trans (hc.tab.m b hb), fun b hb => (ht'.cell _ (by omega)).trans (hc.tab.n b hb)⟩, Nat.lt_of_lt_of_le hc.here ht'.size, hc.some, hc.most⟩, hc', ht'.there _ _ hroom⟩, ht'⟩
theorem Ciph.far {w w' : World} {g q nr t o m : Nat} {K : Nat → Nat} (h : Ciph w g q nr K) (ht : Touch w w' t o m) (hne : g ≠ t) : Ciph w' g q nr K := by
  have e : ∀ j : Nat, w'.cell? ⟨g, j, none⟩ = w.cell? ⟨g, j, none⟩ := fun j => ht.far (p := ⟨g, j, none⟩) h.here hne
  exact ⟨(e _).trans h.rounds, fun i hi => (e _).trans (h.words i hi), h.small, ⟨fun b hb => (e _).trans (h.tab.s b hb), fun b hb => (e _).trans (h.tab.u b hb), fun b hb => (e _).trans (h.tab.m b hb), fun b hb => (e _).trans (h.tab.n b hb)⟩, Nat.lt_of_lt_of_le h.here ht.size, h.some, h.most⟩
theorem there_far {w w' : World} {g a n t o m : Nat} (h : w.there g a n) (hg : g < w.heap.size) (ht : Touch w w' t o m) (hne : g ≠ t) : w'.there g a n := fun j hj => by
  rw [ht.far (p := ⟨g, a + j, none⟩) hg hne, ht.farFrozen (p := ⟨g, a + j, none⟩) hg hne]; exact h j hj
set_option maxHeartbeats 1600000 in
set_option maxRecDepth 100000 in
theorem skip_ok (t g n m nr : Nat) (K : Nat → Nat) (s0 : W4) (w : World) (hk : KeyAt w g nr K) (hs : StreamAt w t g s0 n) (hne : t ≠ g) (hm : n + m ≤ 1099511627776) :
    Calls Tryd.prog 32 #[.pointer (some ⟨t, 0, none⟩), .int .u64 (m : Nat)] w fun e w' => e = .returned (.int .i64 0) ∧ KeyAt w' g nr K ∧ StreamAt w' t g s0 (n + m) ∧ Touch2 w w' g t := by
  have HK : Hid (KeyAt w g nr K) := hk
  have HS : Hid (StreamAt w t g s0 n) := hs
  have HNE : Hid (t ≠ g) := hne
  have HH : Hid (Calls Tryd.prog 39 #[.pointer (some ⟨g, 0, none⟩)] w fun e w' => e = .returned (.int .i64 0) ∧ w' = w.setCell ⟨g, 4, none⟩ (.int .i32 1)) := hold_ok g nr K w hk
  have ck := hs.key
  have hn40 := hs.most
  clear hk hs hne
  go_enter_defers Tryd.func32, Tryd.ntmps32
  go_wp2_with (first | (go_at_call 39; refine HH.out.mono ?_))
  rintro e1 w1 ⟨rfl, hw1⟩
  have H1 : Hid (Ciph w1 g 6 nr K ∧ Touch w w1 g 4 1 ∧ w1.cell? ⟨g, 4, none⟩ = some (.int .i32 1)) := held HK.out hw1
  have HS1 : Hid (StreamAt w1 t g s0 n) := HS.out.touch H1.out.2.1 HNE.out
  clear hw1 HH ck
  have ck : w1.cell? ⟨t, 0, none⟩ = some (.pointer (some ⟨g, 0, none⟩)) := HS1.out.key
  have cp : w1.cell? ⟨t, 17, none⟩ = some (.int .u64 (n : Nat)) := HS1.out.pos
  have cz : w1.frozen? ⟨t, 17, none⟩ = false := by have := (HS1.out.room 17 (by decide)).2; simpa using this
  have KL : Hid (Calls Tryd.prog 47 #[.pointer (some ⟨t, 0, none⟩)] w1 fun e w' => e = .returned (.int .u64 (1099511627776 - n : Nat)) ∧ w' = w1) := left_ok t g n s0 w1 HS1.out
  obtain ⟨lf, HLF⟩ : ∃ x, Hid (x = 1099511627776 - n) := ⟨_, rfl⟩
  rw [← HLF.out] at KL
  have hle : ((m : Nat) : Int) ≤ (lf : Nat) := by have := HLF.out; omega
  go_wp2_with (first | (go_at_call 47; refine KL.out.mono ?_; rintro e2 w2 ⟨rfl, hw2⟩; obtain rfl := hw2.symm))
  rw [show ((n : Int) + (m : Int)) = ((n + m : Nat) : Int) by omega]
  have HT3 : Hid (Touch w1 (w1.setCell ⟨t, 17, none⟩ (.int .u64 (n + m : Nat))) t 17 1) := (Touch.refl w1 t 17 1).setCell 17 _ (by omega) (by omega)
  have HS3 : Hid (StreamAt (w1.setCell ⟨t, 17, none⟩ (.int .u64 (n + m : Nat))) t g s0 (n + m)) := HS1.out.move (n + m) hm
  generalize w1.setCell ⟨t, 17, none⟩ (.int .u64 (n + m : Nat)) = w3 at HT3 HS3 ⊢
  have hgt : g ≠ t := fun e => HNE.out e.symm
  have hg1 := H1.out.1.here
  refine leaves_cons (f := 40) (args := #[.pointer (some ⟨g, 0, none⟩)]) (by simp) (by simp [go_sem]) ?_
  refine (unlock3 (H1.out.1.far HT3.out hgt) ((HT3.out.far (p := ⟨g, 4, none⟩) hg1 hgt).trans H1.out.2.2) (there_far (H1.out.2.1.there _ _ HK.out.room) hg1 HT3.out hgt)).mono ?_
  rintro e5 u5 w5 ⟨rfl, rfl, hk5, ht5⟩
  exact ⟨_, results_tmp rfl _ _ _, rfl, hk5, HS3.out.touch ht5 HNE.out, ((H1.out.2.1.left t).trans (HT3.out.right g)).trans (ht5.left t)⟩
end Go.Proofs.YtgmfiljjogdccaaDoor
namespace Go.Proofs.YtgmfiljjogdccaaDoor
open Go.RowKit Go.RwLone
set_option linter.unusedVariables false
set_option linter.unusedSimpArgs false
attribute [local go_sem ↓] Go.wp_at_zero Go.wp_at_succ
/-- Byte j of a block. -/
def W4.by (s : W4) (j : Nat) : Nat := ([bt0 s.a, bt1 s.a, bt2 s.a, bt3 s.a, bt0 s.b, bt1 s.b, bt2 s.b, bt3 s.b, bt0 s.c, bt1 s.c, bt2 s.c, bt3 s.c, bt0 s.d, bt1 s.d, bt2 s.d, bt3 s.d] : List Nat).getD j 0
theorem W4.by_lt (s : W4) (j : Nat) : s.by j < 256 := by
  unfold W4.by
  by_cases hj : j < 16
  · have h16 : j = 0 ∨ j = 1 ∨ j = 2 ∨ j = 3 ∨ j = 4 ∨ j = 5 ∨ j = 6 ∨ j = 7 ∨ j = 8 ∨ j = 9 ∨ j = 10 ∨ j = 11 ∨ j = 12 ∨ j = 13 ∨ j = 14 ∨ j = 15 := by omega
    rcases h16 with rfl | rfl | rfl | rfl | rfl | rfl | rfl | rfl | rfl | rfl | rfl | rfl | rfl | rfl | rfl | rfl <;> first | exact bt0_lt _ | exact bt1_lt _ | exact bt2_lt _ | exact bt3_lt _
  · rw [List.getD_eq_getElem?_getD, List.getElem?_eq_none (by simp; omega)]; decide
theorem W4.bytes_at (s : W4) (j : Nat) (hj : j < 16) : s.bytes[j]? = some (.int .u8 (s.by j : Nat)) := by
  have h16 : j = 0 ∨ j = 1 ∨ j = 2 ∨ j = 3 ∨ j = 4 ∨ j = 5 ∨ j = 6 ∨ j = 7 ∨ j = 8 ∨ j = 9 ∨ j = 10 ∨ j = 11 ∨ j = 12 ∨ j = 13 ∨ j = 14 ∨ j = 15 := by omega
  rcases h16 with rfl | rfl | rfl | rfl | rfl | rfl | rfl | rfl | rfl | rfl | rfl | rfl | rfl | rfl | rfl | rfl <;> rfl
/-- Byte q of a stream that began at s0. -/
def ksb (nr : Nat) (K : Nat → Nat) (s0 : W4) (q : Nat) : Nat := (encW nr K (ctrW s0 (q / 16))).by (q % 16)
/-- What XOR answers of bytes f from place n on. -/
def xorL (nr : Nat) (K : Nat → Nat) (s0 : W4) (n : Nat) (f : Nat → Nat) (k : Nat) : List Int := (List.range k).map fun i => ((Nat.xor (f i) (ksb nr K s0 (n + i)) : Nat) : Int)
theorem xorL_succ (nr : Nat) (K : Nat → Nat) (s0 : W4) (n : Nat) (f : Nat → Nat) (k : Nat) : xorL nr K s0 n f (k + 1) = xorL nr K s0 n f k ++ [((Nat.xor (f k) (ksb nr K s0 (n + k)) : Nat) : Int)] := by simp [xorL, List.range_succ]
theorem xorL_length (nr : Nat) (K : Nat → Nat) (s0 : W4) (n : Nat) (f : Nat → Nat) (k : Nat) : (xorL nr K s0 n f k).length = k := by simp [xorL]
/-- What XOR keeps while it runs: p: how far the stream is. -/
structure XAt (w u : World) (t g nr : Nat) (K : Nat → Nat) (s0 : W4) (p : Nat) : Prop where
  ciph : Ciph u g 6 nr K
  cnt : u.cell? ⟨g, 4, none⟩ = some (.int .i32 1)
  room : u.there g 0 1091
  str : StreamAt u t g s0 p
  two : Touch2 w u g t
theorem Touch2.below {w u u' : World} {g t : Nat} (h : Touch2 w u g t) (hb : Below w.heap.size u u') : Touch2 w u' g t :=
  ⟨hb.os.trans h.os, hb.tape.trans h.tape, hb.output.trans h.output, Nat.le_trans h.size hb.size, fun k hk hg ht => (hb.block k hk).trans (h.block k hk hg ht)⟩
theorem XAt.below {w u u' : World} {t g nr p : Nat} {K : Nat → Nat} {s0 : W4} (h : XAt w u t g nr K s0 p) (hb : Below w.heap.size u u') (hg : g < w.heap.size) (ht : t < w.heap.size) : XAt w u' t g nr K s0 p :=
  ⟨h.ciph.below hb hg, (hb.cell hg).trans h.cnt, there_below h.room hb hg, h.str.below hb ht, h.two.below hb⟩
theorem XAt.move {w u : World} {t g nr p : Nat} {K : Nat → Nat} {s0 : W4} (h : XAt w u t g nr K s0 p) (hne : t ≠ g) (hg : g < w.heap.size) (p' : Nat) (hp : p' ≤ 1099511627776) : XAt w (u.setCell ⟨t, 17, none⟩ (.int .u64 (p' : Nat))) t g nr K s0 p' := by
  have ht : Touch u (u.setCell ⟨t, 17, none⟩ (.int .u64 (p' : Nat))) t 17 1 := (Touch.refl u t 17 1).setCell 17 _ (by omega) (by omega)
  have hgt : g ≠ t := fun e => hne e.symm
  have hgu : g < u.heap.size := h.ciph.here
  exact ⟨h.ciph.far ht hgt, (ht.far (p := ⟨g, 4, none⟩) hgu hgt).trans h.cnt, there_far h.room hgu ht hgt, h.str.move p' hp, h.two.trans (ht.right g)⟩
theorem Touch2.cell {w u : World} {g t : Nat} (h : Touch2 w u g t) {p : Addr} (hp : p.block < w.heap.size) (hg : p.block ≠ g) (ht : p.block ≠ t) : u.cell? p = w.cell? p := World.cell?_of_block (h.block p.block hp hg ht)
theorem ownsRow_same {w w' : World} {base e size n : Nat} {v : Value} {xs : List Value} (h : w.ownsRow base e size v n xs) (hb : ∀ k, v.ownBlock = some k → w'.heap[k]? = w.heap[k]?) : w'.ownsRow base e size v n xs := by
  obtain ⟨h1, ⟨h2, h3⟩ | ⟨g', c', cur, rfl, h3, h4, h5⟩⟩ := h
  · exact ⟨h1, Or.inl ⟨h2, h3⟩⟩
  · exact ⟨h1, Or.inr ⟨g', c', cur, rfl, h3, (hb g' rfl).trans h4, h5⟩⟩
/-- A block that holds sixteen bytes, new behind wr. -/
structure BlkAt (wr : World) (L : List Value) (A : Nat) (u : World) : Prop where
  old : Below wr.heap.size wr u
  far : wr.heap.size ≤ A
  here : A < u.heap.size
  cells : u.rangeAt A 0 L
theorem BlkAt.mk' {wr u : World} {L : List Value} {A : Nat} (hb : Below wr.heap.size wr u) (hA : wr.heap.size ≤ A) (hAu : A < u.heap.size) (ht : u.there A 0 L.length) : BlkAt wr L A (u.setCells A 0 L) :=
  ⟨below_setCells A hA _ _ _ hb, hA, by rw [size_setCells]; exact hAu, World.rangeAt_setCells_same _ _ _ _ ht⟩
theorem there_own16 (w : World) (C : Array Value) (t : TypeId) {n : Nat} (hn : C.size = n) : (w.alloc (.cells C t)).there w.heap.size 0 n := fun j hj => by
  subst hn
  refine ⟨?_, World.frozen?_alloc_at C t _ _ rfl⟩
  rw [World.cell?_alloc_at C t _ _ rfl]
  simp
  exact hj
theorem sl_r (b r z : Nat) (hr : r < 16) (hz : z = 16 - r) (w' : World) : Sem.run Tryd.prog (Instr.sliceAt 42 (.pointer (some ⟨b, 0, none⟩)) (some (.int .u64 (r : Nat))) none none) w' = .ok (.slice (some ⟨b, r, none⟩) z z) w' := by
  have h := run_sliceAt_array_l (P := Tryd.prog) w' 42 ⟨b, 0, none⟩ (by kernel_rfl) .u64 (r : Nat) (by omega) (by rw [show Tryd.prog.arrayLen 42 = 16 by kernel_rfl]; omega)
  rw [h, show Tryd.prog.arrayLen 42 = 16 by kernel_rfl, show Tryd.prog.elem 42 = 5 by kernel_rfl]
  have e3 : (sizeOf 5).run Tryd.prog w' = .ok 1 w' := by kernel_rfl
  rw [e3]
  simp only [Result.andThen_ok, slicedAt, Int.toNat_natCast]
  rw [if_neg (by omega), Nat.mul_one, Addr.add_mid, Nat.zero_add, hz]
theorem grown_cell {w w2 : World} {o : Obj} {row : Option Nat} (h : (w.alloc o).drew.grownBy w2 row) {bl off : Nat} {v : Value} (hc : w.cell? ⟨bl, off, none⟩ = some v) (hne : ∀ q, row = some q → q ≠ bl) : w2.cell? ⟨bl, off, none⟩ = some v := by
  have hlt : bl < w.heap.size := World.block_lt_of_cell? w _ hc
  rw [h.cell_far ⟨bl, off, none⟩ (show bl < _ by simp; omega) (fun e => hne bl e.symm rfl)]
  show ((w.alloc o).drew).cell? _ = _
  rw [World.cell?_drew, World.cell?_alloc_past _ _ _ hlt]
  exact hc
def lenOf : Value → Nat | .slice _ n _ => n | _ => 0
theorem ownsRow_len {w : World} {base e size n : Nat} {v : Value} {xs : List Value} (h : w.ownsRow base e size v n xs) : lenOf v = n := by
  rcases h.2 with ⟨rfl, h0⟩ | ⟨g', c', cur, rfl, _⟩
  · exact h0.symm
  · rfl
set_option maxHeartbeats 6400000 in
set_option maxRecDepth 100000 in
theorem xor_ok (t g n nr m b off cap : Nat) (K : Nat → Nat) (s0 : W4) (f : Nat → Nat) (w : World) (hk : KeyAt w g nr K) (hs : StreamAt w t g s0 n) (hne : t ≠ g) (hm : m ≤ 1048576) (hroom : n + m ≤ 1099511627776) (hb : b < w.heap.size) (hbg : b ≠ g) (hbt : b ≠ t) (hcap : m ≤ cap) (hc62 : cap ≤ 9223372036854775807) (hp : ∀ i, i < m → w.cell? ⟨b, off + i, none⟩ = some (.int .u8 (f i : Nat))) (hf : ∀ i, f i < 256) :
    Calls Tryd.prog 29 #[.pointer (some ⟨t, 0, none⟩), .slice (some ⟨b, off, none⟩) m cap] w fun e w' => ∃ v, e = .returned (.tuple #[v, .int .i64 0]) ∧ w'.ownsRow w.heap.size 5 1 v m (cellsU8 (xorL nr K s0 n f m)) ∧ KeyAt w' g nr K ∧ StreamAt w' t g s0 (n + m) ∧ Touch2 w w' g t := by
  obtain ⟨i0, hi, hz0, hz1, hz2⟩ := info_parts Tryd.info5
  have HK : Hid (KeyAt w g nr K) := hk
  have HS : Hid (StreamAt w t g s0 n) := hs
  have HNE : Hid (t ≠ g) := hne
  have HG : Hid (g < w.heap.size) := hk.ciph.here
  have HT : Hid (t < w.heap.size) := hs.here
  have HP : Hid (b < w.heap.size ∧ b ≠ g ∧ b ≠ t ∧ (∀ i, i < m → w.cell? ⟨b, off + i, none⟩ = some (.int .u8 (f i : Nat))) ∧ (∀ i, f i < 256)) := ⟨hb, hbg, hbt, hp, hf⟩
  have HH : Hid (Calls Tryd.prog 39 #[.pointer (some ⟨g, 0, none⟩)] w fun e w' => e = .returned (.int .i64 0) ∧ w' = w.setCell ⟨g, 4, none⟩ (.int .i32 1)) := hold_ok g nr K w hk
  have ck := hs.key
  have h8 : decide ((1048576 : Int) < (m : Int)) = false := by simp; omega
  clear hk hs hne hb hbg hbt hp hf
  go_enter_defers Tryd.func29, Tryd.ntmps29
  go_wp2_with (first | (go_at_call 39; refine HH.out.mono ?_))
  rintro e1 w1 ⟨rfl, hw1⟩
  have H1 : Hid (Ciph w1 g 6 nr K ∧ Touch w w1 g 4 1 ∧ w1.cell? ⟨g, 4, none⟩ = some (.int .i32 1)) := held HK.out hw1
  have HS1 : Hid (StreamAt w1 t g s0 n) := HS.out.touch H1.out.2.1 HNE.out
  have HX1 : Hid (XAt w w1 t g nr K s0 n) := ⟨H1.out.1, H1.out.2.2, H1.out.2.1.there _ _ HK.out.room, HS1.out, H1.out.2.1.left t⟩
  clear hw1 HH ck
  have ck : w1.cell? ⟨t, 0, none⟩ = some (.pointer (some ⟨g, 0, none⟩)) := HS1.out.key
  have KL : Hid (Calls Tryd.prog 47 #[.pointer (some ⟨t, 0, none⟩)] w1 fun e w' => e = .returned (.int .u64 (1099511627776 - n : Nat)) ∧ w' = w1) := left_ok t g n s0 w1 HS1.out
  obtain ⟨lf, HLF⟩ : ∃ x, Hid (x = 1099511627776 - n) := ⟨_, rfl⟩
  rw [← HLF.out] at KL
  have hle : ((m : Nat) : Int) ≤ (lf : Nat) := by have := HLF.out; omega
  go_wp2_with (first
    | (go_at_call 47; refine KL.out.mono ?_; rintro e2 w2 ⟨rfl, hw2⟩; obtain rfl := hw2.symm)
    | (at_make; go_must (refine wpList_make_own _ rfl _ _ 22 rfl w.heap.size 5 i0 (.int .u8 0) 1 Tryd.underlying22 hi hz0 hz1 .i64 .i64 (m : Int) m rfl rfl ?_ ?_ ?_ ?_ ?_)))
  · rfl
  · rw [hz2]; omega
  · unfold maxLen; omega
  · exact HX1.out.two.size
  intro w3 hown hgrow
  have HX3 : Hid (XAt w w3 t g nr K s0 n) := HX1.out.below ((Below.refl _ _).grown hgrow HX1.out.two.size (by intro k hk; cases hk)) HG.out HT.out
  clear hgrow ck KL HX1 HS1 H1 hle
  go_wp2
  go_loopw [7] (fun v wr => ∃ k : Nat, k ≤ m ∧ wr.ownsRow w.heap.size 5 1 v k (cellsU8 (xorL nr K s0 n f k)) ∧ Hid (XAt w wr t g nr K s0 (n + k))) (fun v _ => m - lenOf v)
  case atStart => exact ⟨0, by omega, by simpa [xorL, cellsU8] using hown, HX3⟩
  case round =>
    obtain ⟨k, hk, hown2, HX⟩ := hrel
    clear hown HX3
    have hlen : ∃ a c, u7 = .slice a k c := by
      rcases hown2.2 with ⟨rfl, h0⟩ | ⟨g', c', cur, rfl, _⟩
      · exact ⟨none, 0, by rw [h0]⟩
      · exact ⟨_, _, rfl⟩
    obtain ⟨va, vc, rfl⟩ := hlen
    by_cases hlt : k < m
    · obtain ⟨p, HPP⟩ : ∃ p, Hid (p = n + k) := ⟨_, rfl⟩
      rw [← HPP.out] at HX
      obtain ⟨cb, HCB⟩ : ∃ cb, Hid (cb = (ctrW s0 (p / 16)).blk) := ⟨_, rfl⟩
      obtain ⟨L, HL⟩ : ∃ L, Hid (L = (encW nr K (ctrW s0 (p / 16))).bytes) := ⟨_, rfl⟩
      have HLl : Hid (L.length = 16) := by show _ = _; rw [HL.out]; rfl
      have HLo : Hid (L.toArray.all (·.oneCell') = true) := by show _ = _; rw [HL.out]; kernel_rfl
      have HC48 : Hid (∀ u, Below wr.heap.size wr u → Calls Tryd.prog 48 #[.pointer (some ⟨t, 0, none⟩)] u fun e u' => e = .returned cb ∧ Below u.heap.size u u') := fun u hu => by
        rw [HCB.out]
        exact counter_ok t g p s0 u (HX.out.str.below hu HX.out.str.here)
      have HC43 : Hid (∀ u, Below wr.heap.size wr u → Calls Tryd.prog 43 #[.pointer (some ⟨g, 6, none⟩), cb] u fun e u' => e = .returned (.agg L.toArray) ∧ Below u.heap.size u u') := fun u hu => by
        rw [HCB.out, HL.out]
        exact enc_ok g 6 nr K _ u (HX.out.ciph.below hu HX.out.ciph.here) (ctrW_ok _ _)
      have gk : Hid (∀ u, Below wr.heap.size wr u → u.cell? ⟨t, 0, none⟩ = some (.pointer (some ⟨g, 0, none⟩))) := fun u hu => (hu.cell HX.out.str.here).trans HX.out.str.key
      have hki : ((k : Nat) : Int) < (m : Nat) := by omega
      go_upto_region 11 with fail
      go_cut [8] from 43 to 97 (fun pt wx => ∃ A, pt = .pointer (some ⟨A, 0, none⟩) ∧ Hid (BlkAt wr L A wx))
      case first =>
        have hS0 : Below wr.heap.size wr wr.drew := (Below.refl _ _).drew
        refine wp_region_noPanic ?_
        refine wp_region_held_drew (S := fun u => Below wr.heap.size wr u) (by kernel_rfl) (hS0) (fun _ => ?_)
        refine takeH_at 0 48 (.pointer (some ⟨t, 0, none⟩)) rfl rfl (by kernel_rfl) (by kernel_rfl) (by kernel_rfl) (fun _ _ _ h => h) (hS0) (Or.inl ⟨by rfl, fun w' hS' => by go_simp⟩) ?_
        simp only [List.setIfInBounds_toArray, List.set_cons_zero, List.set_cons_succ]
        refine takeH_at 1 49 (.pointer (some ⟨t, 0, none⟩)) rfl rfl (by kernel_rfl) (by kernel_rfl) (by kernel_rfl) (fun _ _ _ h => h) (hS0) (Or.inl ⟨by rfl, fun w' hS' => by go_simp⟩) ?_
        simp only [List.setIfInBounds_toArray, List.set_cons_zero, List.set_cons_succ]
        refine takeH_at 2 50 (.pointer (some ⟨t, 0, none⟩)) rfl rfl (by kernel_rfl) (by kernel_rfl) (by kernel_rfl) (fun _ _ _ h => h) (hS0) (Or.inl ⟨by rfl, fun w' hS' => by go_simp⟩) ?_
        simp only [List.setIfInBounds_toArray, List.set_cons_zero, List.set_cons_succ]
        refine takeH_at 3 51 (.pointer (some ⟨g, 0, none⟩)) rfl rfl (by kernel_rfl) (by kernel_rfl) (by kernel_rfl) (fun _ _ _ h => h) (hS0) (Or.inl ⟨by rfl, fun w' hS' => by have q := gk.out w' hS'; go_simp⟩) ?_
        simp only [List.setIfInBounds_toArray, List.set_cons_zero, List.set_cons_succ]
        refine takeH_at 4 52 (.pointer (some ⟨g, 0, none⟩)) rfl rfl (by kernel_rfl) (by kernel_rfl) (by kernel_rfl) (fun _ _ _ h => h) (hS0) (Or.inl ⟨by rfl, fun w' hS' => by go_simp⟩) ?_
        simp only [List.setIfInBounds_toArray, List.set_cons_zero, List.set_cons_succ]
        refine takeH_at 5 53 (.pointer (some ⟨g, 6, none⟩)) rfl rfl (by kernel_rfl) (by kernel_rfl) (by kernel_rfl) (fun _ _ _ h => h) (hS0) (Or.inl ⟨by rfl, fun w' hS' => by go_simp⟩) ?_
        simp only [List.setIfInBounds_toArray, List.set_cons_zero, List.set_cons_succ]
        refine takeH_at 6 54 (.pointer (some ⟨t, 0, none⟩)) rfl rfl (by kernel_rfl) (by kernel_rfl) (by kernel_rfl) (fun _ _ _ h => h) (hS0) (Or.inl ⟨by rfl, fun w' hS' => by go_simp⟩) ?_
        simp only [List.setIfInBounds_toArray, List.set_cons_zero, List.set_cons_succ]
        refine wpAnyH_ready (rs := [7, 9]) (by kernel_rfl) (by simp) ?_
        refine AllReadyH.cons rfl (fun K hK => ?_) (AllReadyH.cons rfl (fun K hK => ?_) AllReadyH.nil)
        · skip
          go_simp
          refine (HC48.out _ hS0).mono ?_
          rintro e1 u1 ⟨rfl, hbu1⟩
          have hSu1 : Below wr.heap.size wr u1 := (hS0).trans (hbu1.mono (hS0).size)
          go_wp2_with fail
          refine hK.out _ _ hSu1 (fun _ => ?_)
          clear hK K
          try simp only [List.setIfInBounds_toArray, List.set_cons_zero, List.set_cons_succ]
          refine wpAnyH_ready (rs := [8, 9]) (by kernel_rfl) (by simp) ?_
          refine AllReadyH.cons rfl (fun K hK => ?_) (AllReadyH.cons rfl (fun K hK => ?_) AllReadyH.nil)
          · skip
            go_simp
            refine (HC43.out _ hSu1).mono ?_
            rintro e1 u2 ⟨rfl, hbu2⟩
            have hSu2 : Below wr.heap.size wr u2 := (hSu1).trans (hbu2.mono (hSu1).size)
            go_wp2_with fail
            refine hK.out _ _ hSu2 (fun _ => ?_)
            clear hK K
            try simp only [List.setIfInBounds_toArray, List.set_cons_zero, List.set_cons_succ]
            refine wpAnyH_ready (rs := [9]) (by kernel_rfl) (by simp) ?_
            refine AllReadyH.cons rfl (fun K hK => ?_) AllReadyH.nil
            go_simp
            have hSa : Below wr.heap.size wr (World.alloc u2 (.cells #[.int .u8 0, .int .u8 0, .int .u8 0, .int .u8 0, .int .u8 0, .int .u8 0, .int .u8 0, .int .u8 0, .int .u8 0, .int .u8 0, .int .u8 0, .int .u8 0, .int .u8 0, .int .u8 0, .int .u8 0, .int .u8 0] 42)) := (hSu2).alloc (hSu2).size _
            refine hK.out _ _ hSa (fun _ => ?_)
            clear hK K
            try simp only [List.setIfInBounds_toArray, List.set_cons_zero, List.set_cons_succ]
            refine wpAnyH_ready (rs := [10]) (by kernel_rfl) (by simp) ?_
            refine AllReadyH.cons rfl (fun K hK => ?_) AllReadyH.nil
            rw [if_pos (by rfl)]
            have htA := there_own16 u2 #[.int .u8 0, .int .u8 0, .int .u8 0, .int .u8 0, .int .u8 0, .int .u8 0, .int .u8 0, .int .u8 0, .int .u8 0, .int .u8 0, .int .u8 0, .int .u8 0, .int .u8 0, .int .u8 0, .int .u8 0, .int .u8 0] 42 (n := 16) rfl
            refine wp_store_mid 42 (.tmp 8) (.tmp 56) rfl _ 0 L.toArray rfl rfl (by simpa [HLl.out] using htA) (by rw [List.size_toArray, HLl.out]; exact size42) HLo.out ?_
            refine hK.out _ _ (below_setCells _ (hSu2.size) _ _ _ (hSa)) (fun _ => ?_)
            clear hK K
            refine wpAnyH_done (by kernel_rfl) ?_ _
            refine NoPanic.normal ?_
            go_wp2_with fail
            go_meet
            exact ⟨_, rfl, BlkAt.mk' (hSa) (hSu2.size) (by simp) (by simpa [HLl.out] using htA)⟩
          · skip
            go_simp
            have hSa : Below wr.heap.size wr (World.alloc u1 (.cells #[.int .u8 0, .int .u8 0, .int .u8 0, .int .u8 0, .int .u8 0, .int .u8 0, .int .u8 0, .int .u8 0, .int .u8 0, .int .u8 0, .int .u8 0, .int .u8 0, .int .u8 0, .int .u8 0, .int .u8 0, .int .u8 0] 42)) := (hSu1).alloc (hSu1).size _
            refine hK.out _ _ hSa (fun _ => ?_)
            clear hK K
            try simp only [List.setIfInBounds_toArray, List.set_cons_zero, List.set_cons_succ]
            refine wpAnyH_ready (rs := [8]) (by kernel_rfl) (by simp) ?_
            refine AllReadyH.cons rfl (fun K hK => ?_) AllReadyH.nil
            go_simp
            refine (HC43.out _ hSa).mono ?_
            rintro e1 u2 ⟨rfl, hbu2⟩
            have hSu2 : Below wr.heap.size wr u2 := (hSa).trans (hbu2.mono (hSa).size)
            go_wp2_with fail
            refine hK.out _ _ hSu2 (fun _ => ?_)
            clear hK K
            try simp only [List.setIfInBounds_toArray, List.set_cons_zero, List.set_cons_succ]
            refine wpAnyH_ready (rs := [10]) (by kernel_rfl) (by simp) ?_
            refine AllReadyH.cons rfl (fun K hK => ?_) AllReadyH.nil
            rw [if_pos (by rfl)]
            have htA := there_below (there_own16 u1 #[.int .u8 0, .int .u8 0, .int .u8 0, .int .u8 0, .int .u8 0, .int .u8 0, .int .u8 0, .int .u8 0, .int .u8 0, .int .u8 0, .int .u8 0, .int .u8 0, .int .u8 0, .int .u8 0, .int .u8 0, .int .u8 0] 42 (n := 16) rfl) hbu2 (by simp)
            refine wp_store_mid 42 (.tmp 8) (.tmp 56) rfl _ 0 L.toArray rfl rfl (by simpa [HLl.out] using htA) (by rw [List.size_toArray, HLl.out]; exact size42) HLo.out ?_
            refine hK.out _ _ (below_setCells _ (hSu1.size) _ _ _ (hSu2)) (fun _ => ?_)
            clear hK K
            refine wpAnyH_done (by kernel_rfl) ?_ _
            refine NoPanic.normal ?_
            go_wp2_with fail
            go_meet
            exact ⟨_, rfl, BlkAt.mk' (hSu2) (hSu1.size) (by have h1 := hbu2.size; simp at h1; omega) (by simpa [HLl.out] using htA)⟩
        · skip
          go_simp
          have hSa : Below wr.heap.size wr (World.alloc wr.drew (.cells #[.int .u8 0, .int .u8 0, .int .u8 0, .int .u8 0, .int .u8 0, .int .u8 0, .int .u8 0, .int .u8 0, .int .u8 0, .int .u8 0, .int .u8 0, .int .u8 0, .int .u8 0, .int .u8 0, .int .u8 0, .int .u8 0] 42)) := (hS0).alloc (hS0).size _
          refine hK.out _ _ hSa (fun _ => ?_)
          clear hK K
          try simp only [List.setIfInBounds_toArray, List.set_cons_zero, List.set_cons_succ]
          refine wpAnyH_ready (rs := [7]) (by kernel_rfl) (by simp) ?_
          refine AllReadyH.cons rfl (fun K hK => ?_) AllReadyH.nil
          go_simp
          refine (HC48.out _ hSa).mono ?_
          rintro e1 u1 ⟨rfl, hbu1⟩
          have hSu1 : Below wr.heap.size wr u1 := (hSa).trans (hbu1.mono (hSa).size)
          go_wp2_with fail
          refine hK.out _ _ hSu1 (fun _ => ?_)
          clear hK K
          try simp only [List.setIfInBounds_toArray, List.set_cons_zero, List.set_cons_succ]
          refine wpAnyH_ready (rs := [8]) (by kernel_rfl) (by simp) ?_
          refine AllReadyH.cons rfl (fun K hK => ?_) AllReadyH.nil
          go_simp
          refine (HC43.out _ hSu1).mono ?_
          rintro e1 u2 ⟨rfl, hbu2⟩
          have hSu2 : Below wr.heap.size wr u2 := (hSu1).trans (hbu2.mono (hSu1).size)
          go_wp2_with fail
          refine hK.out _ _ hSu2 (fun _ => ?_)
          clear hK K
          try simp only [List.setIfInBounds_toArray, List.set_cons_zero, List.set_cons_succ]
          refine wpAnyH_ready (rs := [10]) (by kernel_rfl) (by simp) ?_
          refine AllReadyH.cons rfl (fun K hK => ?_) AllReadyH.nil
          rw [if_pos (by rfl)]
          have htA := there_below (there_below (there_own16 wr.drew #[.int .u8 0, .int .u8 0, .int .u8 0, .int .u8 0, .int .u8 0, .int .u8 0, .int .u8 0, .int .u8 0, .int .u8 0, .int .u8 0, .int .u8 0, .int .u8 0, .int .u8 0, .int .u8 0, .int .u8 0, .int .u8 0] 42 (n := 16) rfl) hbu1 (by simp)) hbu2 (by have h3 := hbu1.size; simp at h3 ⊢; omega)
          refine wp_store_mid 42 (.tmp 8) (.tmp 56) rfl _ 0 L.toArray rfl rfl (by simpa [HLl.out] using htA) (by rw [List.size_toArray, HLl.out]; exact size42) HLo.out ?_
          refine hK.out _ _ (below_setCells _ (hS0.size) _ _ _ (hSu2)) (fun _ => ?_)
          clear hK K
          refine wpAnyH_done (by kernel_rfl) ?_ _
          refine NoPanic.normal ?_
          go_wp2_with fail
          go_meet
          exact ⟨_, rfl, BlkAt.mk' (hSu2) (hS0.size) (by have h1 := hbu2.size; have h3 := hbu1.size; simp at h1 h3 ⊢; omega) (by simpa [HLl.out] using htA)⟩
      case rest =>
        obtain ⟨A, rfl, HD⟩ := hcut
        clear HC48 HC43 gk HCB
        obtain ⟨r, HRR⟩ : ∃ r, Hid (r = p % 16) := ⟨_, rfl⟩
        have hr16 : r < 16 := by have := HRR.out; omega
        have hri : ((p : Nat) : Int) % 16 = (r : Nat) := by have := HRR.out; omega
        have hp40 : p ≤ 1099511627776 := by have := HPP.out; omega
        have HXc : Hid (XAt w wc t g nr K s0 p) := HX.out.below (HD.out.old.mono HX.out.two.size) HG.out HT.out
        have cp : wc.cell? ⟨t, 17, none⟩ = some (.int .u64 (p : Nat)) := HXc.out.str.pos
        have HO : Hid (wc.ownsRow w.heap.size 5 1 (.slice va k vc) k (cellsU8 (xorL nr K s0 n f k))) := ownsRow_same hown2 (fun q hq => HD.out.old.block q (hown2.lt q hq).2)
        have HOA : Hid (∀ q, (Value.slice va k vc).ownBlock = some q → q ≠ A) := fun q hq => by have h1 := (hown2.lt q hq).2; have h2 := HD.out.far; omega
        clear hown2 hlt
        obtain ⟨z, HZ⟩ : ∃ z, Hid (z = 16 - r) := ⟨_, rfl⟩
        have hsl := sl_r A r z hr16 HZ.out
        obtain ⟨q, HQ⟩ : ∃ q, Hid (q = min z (m - k)) := ⟨_, rfl⟩
        go_upto_region 14 with fail
        go_cut [11] from 43 to 97 (fun x wx => x = .int .i64 (q : Nat) ∧ wx = wc)
        case first =>
          go_wp2
          all_goals
            go_meet
            exact ⟨val_eq (by have := HQ.out; omega), rfl⟩
        case rest =>
          obtain ⟨rfl, rfl⟩ := hcut
          have HDA : Hid (A < wc.heap.size ∧ w.heap.size ≤ A ∧ wc.rangeAt A 0 L) := ⟨HD.out.here, Nat.le_trans HX.out.two.size HD.out.far, HD.out.cells⟩
          clear HD HX hsl
          go_wp2
          go_loopw [7, 73] (fun v i w5 => ∃ j : Nat, j ≤ q ∧ i = .int .i64 j ∧ w5.ownsRow w.heap.size 5 1 v (k + j) (cellsU8 (xorL nr K s0 n f (k + j))) ∧ Hid (Below w.heap.size wc w5 ∧ A < w5.heap.size ∧ (∀ q', v.ownBlock = some q' → q' ≠ A) ∧ w5.rangeAt A 0 L)) (fun _ i _ => q - (intOf i).toNat)
          case atStart => exact ⟨0, by omega, rfl, HO.out, Below.refl _ _, HDA.out.1, HOA.out, HDA.out.2.2⟩
          case round =>
            obtain ⟨j, hj, rfl, hown2, HI⟩ := hrel
            clear HO HOA
            by_cases hlt : j < q
            · have hjm : j < m - k := by have := HQ.out; omega
              have hjz : j < z := by have := HQ.out; omega
              obtain ⟨c, HCC⟩ : ∃ c, Hid (c = (encW nr K (ctrW s0 (p / 16))).by (r + j)) := ⟨_, rfl⟩
              obtain ⟨x, HXX⟩ : ∃ x, Hid (x = f (k + j)) := ⟨_, rfl⟩
              obtain ⟨y, HY⟩ : ∃ y, Hid (y = Nat.xor x c) := ⟨_, rfl⟩
              have hxor : bits .xor .u8 ((x : Nat) : Int) ((c : Nat) : Int) = ((y : Nat) : Int) := by
                rw [HY.out]
                exact xor8 x c (by rw [HXX.out]; exact HP.out.2.2.2.2 _) (by rw [HCC.out]; exact W4.by_lt _ _)
              have g1 : wr.cell? ⟨b, off + k + j, none⟩ = some (.int .u8 (x : Nat)) := by
                obtain ⟨p1, p2, p3, p4, p5⟩ := HP.out
                rw [HI.out.1.cell (p := ⟨b, off + k + j, none⟩) p1, HXc.out.two.cell (p := ⟨b, off + k + j, none⟩) p1 p2 p3, HXX.out, Nat.add_assoc]
                exact p4 (k + j) (by omega)
              have g2 : wr.cell? ⟨A, r + j, none⟩ = some (.int .u8 (c : Nat)) := by
                have h1 := HI.out.2.2.2 (r + j) (.int .u8 (c : Nat)) (by rw [HL.out, HCC.out]; exact W4.bytes_at _ _ (by have := HZ.out; omega))
                rw [Nat.zero_add] at h1
                exact h1
              have HJ : Hid (Nat.xor (f (k + j)) (ksb nr K s0 (n + (k + j))) = y) := by
                show _ = _
                rw [HY.out, HXX.out, HCC.out, ksb]
                have h1 : (n + (k + j)) / 16 = p / 16 := by have := HPP.out; have := HRR.out; have := HZ.out; omega
                have h2 : (n + (k + j)) % 16 = r + j := by have := HPP.out; have := HRR.out; have := HZ.out; omega
                rw [h1, h2]
              have hsz : Hid (w.heap.size ≤ wr.heap.size) := Nat.le_trans (Nat.le_of_lt (Nat.lt_of_le_of_lt HDA.out.2.1 HI.out.2.1)) (Nat.le_refl _)
              have HFAR : Hid (∀ q, u7.ownBlock = some q → q ≠ b ∧ q ≠ A) := fun q hq => ⟨by have h1 := (hown2.lt q hq).1; have h2 := HP.out.1; omega, HI.out.2.2.1 q hq⟩
              go_wp2
              go_region_held3 (fun v => v.cell? ⟨b, off + k + j, none⟩ = some (.int .u8 (x : Nat)) ∧ v.cell? ⟨A, r + j, none⟩ = some (.int .u8 (c : Nat))) (first | exact hS2 | exact ⟨g1, g2⟩ | go_keep) ((refine step_append_lies _ (by rfl) _ _ _ (by rfl) w.heap.size 5 i0 (.int .u8 0) 1 1 Tryd.underlying22 hi hz0 hz1 hz2 (by rfl) (by decide) _ (k + j) (cellsU8 (xorL nr K s0 n f (k + j))) (by rfl) (hown2.alloc _).drew ⟨wr.heap.size, 0, none⟩ 1 1 (cellsU8 [((y : Nat) : Int)]) (by rfl) (by rfl) (World.news_of_block (heap_alloc_new wr _)) (cellsU8_one _) (by decide) (by unfold maxLen; omega) (by omega) (by have := hsz.out; simp; omega) (wr.heap.size + 1) (by simp) ?_; intro g' cp' w2 hown3 hgrow2 hat hglt; have hS2 : w2.cell? ⟨b, off + k + j, none⟩ = some (.int .u8 (x : Nat)) ∧ w2.cell? ⟨A, r + j, none⟩ = some (.int .u8 (c : Nat)) := ⟨grown_cell hgrow2 g1 (fun q hq => (HFAR.out q hq).1), grown_cell hgrow2 g2 (fun q hq => (HFAR.out q hq).2)⟩))
              all_goals
                have HB3 : Hid (Below w.heap.size wc w2) := (HI.out.1.alloc hsz.out _).drew.grown hgrow2 (by have := hsz.out; simp; omega) (fun q hq => (hown2.lt q hq).1)
                have HO3 : Hid (w2.ownsRow w.heap.size 5 1 (.slice (some ⟨g', 0, none⟩) (k + j + 1) cp') (k + (j + 1)) (cellsU8 (xorL nr K s0 n f (k + (j + 1))))) := by
                  show World.ownsRow _ _ _ _ _ _ _
                  rw [← Nat.add_assoc, xorL_succ, cellsU8_append, HJ.out]
                  exact hown3
                have HA3 : Hid (A < w2.heap.size ∧ (∀ q', (Value.slice (some ⟨g', 0, none⟩) (k + j + 1) cp').ownBlock = some q' → q' ≠ A) ∧ w2.rangeAt A 0 L) := by
                  obtain ⟨q1, q2, q3, q4⟩ := HI.out
                  have hs := hgrow2.size
                  simp at hs
                  refine ⟨by omega, fun q' hq' => ?_, fun i v hv => ?_⟩
                  · cases hq'
                    rcases hat with h | h
                    · exact q3 _ h
                    · show g' ≠ A; omega
                  · exact grown_cell hgrow2 (q4 i v hv) (fun q hq => (HFAR.out q hq).2)
                clear hown3 hgrow2 hat hglt hown2 HI g1 g2
                go_wp2
                go_roundw
                case rel => exact ⟨j + 1, by omega, by go_num, HO3, HB3.out, HA3.out⟩
                case measure => simp [intOf]; omega
            · obtain rfl : j = q := by omega
              have HXe : Hid (XAt w wr t g nr K s0 p) := HXc.out.below HI.out.1 HG.out HT.out
              have HO5 : Hid (World.ownsRow wr w.heap.size 5 1 u7 (k + j) (cellsU8 (xorL nr K s0 n f (k + j)))) := hown2
              have cp5 : wr.cell? ⟨t, 17, none⟩ = some (.int .u64 (p : Nat)) := HXe.out.str.pos
              have cz5 : wr.frozen? ⟨t, 17, none⟩ = false := by have := (HXe.out.str.room 17 (by decide)).2; simpa using this
              have hj16 : j ≤ 16 := by have := HQ.out; have := HZ.out; omega
              clear hown2 HI HXc cp
              go_wp2
              have hkq : k + j ≤ m := by have := HQ.out; omega
              have hj0 : 0 < j := by have := HQ.out; have := HZ.out; omega
              have e1 : ((p : Nat) : Int) + ((j : Nat) : Int) = ((n + (k + j) : Nat) : Int) := by have := HPP.out; omega
              refine ⟨⟨k + j, hkq, ?_, ?_⟩, ?_⟩
              · refine ownsRow_same HO5.out (fun q' hq' => ?_)
                exact ((Touch.refl wr t 17 1).setCell 17 _ (by omega) (by omega)).block q' (HO5.out.lt q' hq').2 (by have h1 := (HO5.out.lt q' hq').1; have h2 := HT.out; omega)
              · rw [e1]
                exact HXe.out.move HNE.out HG.out (n + (k + j)) (by omega)
              · rw [ownsRow_len HO5.out]
                show _ < m - k
                omega
    · obtain rfl : k = m := by omega
      have HO5 : Hid (World.ownsRow wr w.heap.size 5 1 (.slice va k vc) k (cellsU8 (xorL nr K s0 n f k))) := hown2
      clear hown2 hlt
      go_wp2
      refine leaves_cons (f := 40) (args := #[.pointer (some ⟨g, 0, none⟩)]) (by simp) (by simp [go_sem]) ?_
      refine (unlock3 HX.out.ciph HX.out.cnt HX.out.room).mono ?_
      rintro e5 u5 w5 ⟨rfl, rfl, hk5, ht5⟩
      refine ⟨_, results_tmp2 rfl _ _ _, _, rfl, ?_, hk5, HX.out.str.touch ht5 HNE.out, HX.out.two.trans (ht5.left t)⟩
      refine ownsRow_same HO5.out (fun q' hq' => ?_)
      exact ht5.block q' (HO5.out.lt q' hq').2 (by have h1 := (HO5.out.lt q' hq').1; have h2 := HG.out; omega)
end Go.Proofs.YtgmfiljjogdccaaDoor
namespace Go.Proofs.YtgmfiljjogdccaaDoor
open Go.RowKit Go.RwLone
set_option linter.unusedVariables false
set_option linter.unusedSimpArgs false
/-- The words of a key's schedule, as cells. -/
def wordsL (K : Nat → Nat) (m : Nat) : List Value := (List.range m).map fun i => .int .u32 (K i : Nat)
theorem wordsL_one (K : Nat → Nat) (m : Nat) : ∀ u ∈ wordsL K m, u.oneCell' = true := by
  intro u hu
  simp only [wordsL, List.mem_map] at hu
  obtain ⟨i, _, rfl⟩ := hu
  rfl
theorem wordsL_at (K : Nat → Nat) (m i : Nat) (hi : i < m) : (wordsL K m)[i]? = some (.int .u32 (K i : Nat)) := by simp [wordsL, hi]
set_option maxHeartbeats 1600000 in
set_option maxRecDepth 100000 in
theorem words_ok (g nr : Nat) (K : Nat → Nat) (w : World) (h : KeyAt w g nr K) : Calls Tryd.prog 15 #[.pointer (some ⟨g, 0, none⟩)] w fun e w' => ∃ v, e = .returned v ∧ w'.ownsRow w.heap.size 50 1 v (4 * (nr + 1)) (wordsL K (4 * (nr + 1))) ∧ KeyAt w' g nr K ∧ Touch w w' g 4 1 := by
  have HK : Hid (KeyAt w g nr K) := h
  have HH : Hid (Calls Tryd.prog 39 #[.pointer (some ⟨g, 0, none⟩)] w fun e w' => e = .returned (.int .i64 0) ∧ w' = w.setCell ⟨g, 4, none⟩ (.int .i32 1)) := hold_ok g nr K w h
  have h14 := h.ciph.most
  have HG : Hid (g < w.heap.size) := h.ciph.here
  clear h
  obtain ⟨m, HM⟩ : ∃ m, Hid (m = 4 * (nr + 1)) := ⟨_, rfl⟩
  rw [← HM.out]
  have hm60 : m ≤ 60 := by have := HM.out; omega
  have hmi : ((m : Nat) : Int) ≤ 60 := by omega
  go_enter_defers Tryd.func15, Tryd.ntmps15
  go_wp2_with (first | (go_at_call 39; refine HH.out.mono ?_))
  rintro e1 w1 ⟨rfl, hw1⟩
  have H1 : Hid (Ciph w1 g 6 nr K ∧ Touch w w1 g 4 1 ∧ w1.cell? ⟨g, 4, none⟩ = some (.int .i32 1)) := held HK.out hw1
  have HSZ : Hid (w1.heap.size = w.heap.size) := by show _ = _; rw [hw1]; simp
  clear hw1 HH
  have KW : Hid (∀ u, Below w1.heap.size w1 u → Calls Tryd.prog 42 #[.pointer (some ⟨g, 6, none⟩)] u fun e w' => e = .returned (.int .i64 (m : Nat)) ∧ w' = u) := fun u hu => by
    rw [HM.out]
    exact wordCount_ok g 6 nr u ((hu.cell H1.out.1.here).trans H1.out.1.rounds) h14
  have KC : Hid (∀ u, Below w1.heap.size w1 u → Calls Tryd.prog 41 #[.slice (some ⟨g, 7, none⟩) m 60] u fun e w' => ∃ v, e = .returned v ∧ w'.ownsRow u.heap.size 50 1 v m (wordsL K m) ∧ Below u.heap.size u w') := fun u hu => by
    refine clone_ok ⟨g, 7, none⟩ m 60 (wordsL K m) u (by show _ = _; simp [wordsL]) (by omega) (fun j v hv => ?_) (wordsL_one K m)
    have hj : j < m := by have := (List.getElem?_eq_some_iff.1 hv).1; simpa [wordsL] using this
    rw [wordsL_at K m j hj] at hv
    cases hv
    rw [Addr.add_lit, hu.cell (p := ⟨g, 7 + j, none⟩) H1.out.1.here]
    exact H1.out.1.words j (by have := HM.out; omega)
  go_wp2_with fail
  have hS0 : Below w1.heap.size w1 w1.drew := (Below.refl _ _).drew
  refine wp_region_noPanic ?_
  refine wp_region_held_drew (S := fun u => Below w1.heap.size w1 u) (by kernel_rfl) (hS0) (fun _ => ?_)
  refine takeH_at 0 9 (.pointer (some ⟨g, 0, none⟩)) rfl rfl (by kernel_rfl) (by kernel_rfl) (by kernel_rfl) (fun _ _ _ h => h) (hS0) (Or.inl ⟨by rfl, fun w' hS' => by go_simp⟩) ?_
  simp only [List.setIfInBounds_toArray, List.set_cons_zero, List.set_cons_succ]
  refine takeH_at 1 10 (.pointer (some ⟨g, 0, none⟩)) rfl rfl (by kernel_rfl) (by kernel_rfl) (by kernel_rfl) (fun _ _ _ h => h) (hS0) (Or.inl ⟨by rfl, fun w' hS' => by go_simp⟩) ?_
  simp only [List.setIfInBounds_toArray, List.set_cons_zero, List.set_cons_succ]
  refine takeH_at 2 11 (.pointer (some ⟨g, 6, none⟩)) rfl rfl (by kernel_rfl) (by kernel_rfl) (by kernel_rfl) (fun _ _ _ h => h) (hS0) (Or.inl ⟨by rfl, fun w' hS' => by go_simp⟩) ?_
  simp only [List.setIfInBounds_toArray, List.set_cons_zero, List.set_cons_succ]
  refine takeH_at 3 12 (.pointer (some ⟨g, 7, none⟩)) rfl rfl (by kernel_rfl) (by kernel_rfl) (by kernel_rfl) (fun _ _ _ h => h) (hS0) (Or.inl ⟨by rfl, fun w' hS' => by go_simp⟩) ?_
  simp only [List.setIfInBounds_toArray, List.set_cons_zero, List.set_cons_succ]
  refine takeH_at 4 13 (.pointer (some ⟨g, 0, none⟩)) rfl rfl (by kernel_rfl) (by kernel_rfl) (by kernel_rfl) (fun _ _ _ h => h) (hS0) (Or.inl ⟨by rfl, fun w' hS' => by go_simp⟩) ?_
  simp only [List.setIfInBounds_toArray, List.set_cons_zero, List.set_cons_succ]
  refine takeH_at 5 14 (.pointer (some ⟨g, 0, none⟩)) rfl rfl (by kernel_rfl) (by kernel_rfl) (by kernel_rfl) (fun _ _ _ h => h) (hS0) (Or.inl ⟨by rfl, fun w' hS' => by go_simp⟩) ?_
  simp only [List.setIfInBounds_toArray, List.set_cons_zero, List.set_cons_succ]
  refine takeH_at 6 15 (.pointer (some ⟨g, 6, none⟩)) rfl rfl (by kernel_rfl) (by kernel_rfl) (by kernel_rfl) (fun _ _ _ h => h) (hS0) (Or.inl ⟨by rfl, fun w' hS' => by go_simp⟩) ?_
  simp only [List.setIfInBounds_toArray, List.set_cons_zero, List.set_cons_succ]
  refine wpAnyH_ready (rs := [7]) (by kernel_rfl) (by simp) ?_
  refine AllReadyH.cons rfl (fun K hK => ?_) AllReadyH.nil
  go_simp
  refine (KW.out _ hS0).mono ?_
  rintro e1 w1 ⟨rfl, hw1⟩
  obtain rfl := hw1.symm
  go_wp2_with fail
  refine hK.out _ _ (hS0) (fun _ => ?_)
  clear hK K
  try simp only [List.setIfInBounds_toArray, List.set_cons_zero, List.set_cons_succ]
  refine takeH_at 8 17 (.slice (some ⟨g, 7, none⟩) m 60) rfl rfl (by kernel_rfl) (by kernel_rfl) (by kernel_rfl) (fun _ _ _ h => h) (hS0) (Or.inl ⟨by rfl, fun w' hS' => by go_simp⟩) ?_
  simp only [List.setIfInBounds_toArray, List.set_cons_zero, List.set_cons_succ]
  refine wpAnyH_ready (rs := [9]) (by kernel_rfl) (by simp) ?_
  refine AllReadyH.cons rfl (fun K hK => ?_) AllReadyH.nil
  go_simp
  refine (KC.out _ hS0).mono ?_
  rintro e2 w2 ⟨v, rfl, hown2, hb2⟩
  go_wp2_with fail
  have hS2 : Below w1.heap.size w1 w2 := hS0.trans (hb2.mono (Nat.le_refl _))
  refine hK.out _ _ hS2 (fun _ => ?_)
  clear hK K
  try simp only [List.setIfInBounds_toArray, List.set_cons_zero, List.set_cons_succ]
  refine wpAnyH_ready (rs := [10]) (by kernel_rfl) (by simp) ?_
  refine AllReadyH.cons rfl (fun K hK => ?_) AllReadyH.nil
  go_simp
  refine hK.out _ _ hS2 (fun _ => ?_)
  clear hK K
  try simp only [List.setIfInBounds_toArray, List.set_cons_zero, List.set_cons_succ]
  refine wpAnyH_done (by kernel_rfl) ?_ _
  refine NoPanic.normal ?_
  have H2 : Hid (w2.ownsRow w.heap.size 50 1 v m (wordsL K m) ∧ Touch w w2 g 4 1 ∧ w2.cell? ⟨g, 4, none⟩ = some (.int .i32 1)) := by
    have hsz : w1.drew.heap.size = w.heap.size := by
      show w1.heap.size = _
      exact HSZ.out
    rw [hsz] at hown2
    exact ⟨hown2, H1.out.2.1.below hS2 HG.out, (hS2.cell H1.out.1.here).trans H1.out.2.2⟩
  clear hown2 hb2 hS2 KW KC hS0
  go_wp2_with fail
  refine leaves_cons (f := 40) (args := #[.pointer (some ⟨g, 0, none⟩)]) (by simp) (by simp [go_sem]) ?_
  refine (unlocked HK.out H2.out.2.1 H2.out.2.2).mono ?_
  rintro e5 u5 w5 ⟨rfl, rfl, hk5, ht5, hw5⟩
  refine ⟨_, results_tmp rfl _ _ _, _, rfl, ?_, hk5, ht5⟩
  refine ownsRow_same H2.out.1 (fun q' hq' => ?_)
  rw [hw5]
  exact ((Touch.refl w2 g 4 1).setCells 4 _ (by omega) (by simp)).block q' (H2.out.1.lt q' hq').2 (by have h1 := (H2.out.1.lt q' hq').1; have h2 := HG.out; omega)
end Go.Proofs.YtgmfiljjogdccaaDoor
