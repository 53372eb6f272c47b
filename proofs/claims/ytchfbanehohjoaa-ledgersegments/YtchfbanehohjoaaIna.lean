import Derived.Test.YtchfbanehohjoaaSha
import Derived.OwnWalk
import Derived.Deep.AppendLies
import Derived.Deep.DeepMust
import Derived.Laws.OwnMore
import Derived.RangeFuncBox
namespace Go.Proofs.Ytchfbanehohjoaa
open Go.RowKit
set_option linter.unusedVariables false
set_option linter.unusedSimpArgs false
theorem info51 : (Try.prog.info? 51).map (fun i => (i.zero, i.size, i.bytes)) = some (some (.agg #[.int .u64 0, .int .u64 0, .int .u64 0]), 3, 24) := by kernel_rfl
/-- A segment: Start, Count, Epoch. -/
abbrev Sg := Nat × Nat × Nat
abbrev sgL (x : Sg) : List Value := [.int .u64 (x.1 : Nat), .int .u64 (x.2.1 : Nat), .int .u64 (x.2.2 : Nat)]
def sgs (xs : List Sg) : List Value := xs.flatMap sgL
theorem sgs_append (a b : List Sg) : sgs (a ++ b) = sgs a ++ sgs b := by simp [sgs]
theorem sgs_len (xs : List Sg) : (sgs xs).length = xs.length * 3 := by
  induction xs with
  | nil => rfl
  | cons x xs ih => simp [sgs] at ih ⊢; omega
/-- Segments in a row: those of no sector are left out. -/
def inRowF : List (Nat × Nat) → Nat → List Sg
  | [], _ => []
  | (c, e) :: r, s => (if 0 < c then [(s, c, e)] else []) ++ inRowF r (s + c)
def total (l : List (Nat × Nat)) : Nat := (l.map Prod.fst).sum
theorem inRowF_append (a b : List (Nat × Nat)) (s : Nat) : inRowF (a ++ b) s = inRowF a s ++ inRowF b (s + total a) := by
  induction a generalizing s with
  | nil => simp [inRowF, total]
  | cons x a ih =>
    obtain ⟨c, e⟩ := x
    simp only [List.cons_append, inRowF, ih, List.append_assoc, total, List.map_cons, List.sum_cons]
    congr 3
    omega
theorem inRowF_len (a : List (Nat × Nat)) (s : Nat) : (inRowF a s).length ≤ a.length := by
  induction a generalizing s with
  | nil => simp [inRowF]
  | cons x a ih =>
    obtain ⟨c, e⟩ := x
    have := ih (s + c)
    simp only [inRowF, List.length_append, List.length_cons]
    split <;> simp <;> omega
/-- Parts that lie in a block: their Start is 0. -/
def PAt (w : World) (g : Nat) (L : List (Nat × Nat)) : Prop := ∀ i (h : i < L.length), w.cell? ⟨g, i * 3, none⟩ = some (.int .u64 0) ∧ w.cell? ⟨g, i * 3 + 1, none⟩ = some (.int .u64 ((L[i]).1 : Nat)) ∧ w.cell? ⟨g, i * 3 + 2, none⟩ = some (.int .u64 ((L[i]).2 : Nat))
theorem PAt.below {w w' : World} {g : Nat} {L : List (Nat × Nat)} (h : PAt w g L) (hg : g < w.heap.size) (hb : Below w.heap.size w w') : PAt w' g L := fun i hi => by
  obtain ⟨a, b, c⟩ := h i hi
  exact ⟨(hb.cell (p := ⟨g, i * 3, none⟩) hg).trans a, (hb.cell (p := ⟨g, i * 3 + 1, none⟩) hg).trans b, (hb.cell (p := ⟨g, i * 3 + 2, none⟩) hg).trans c⟩
theorem three_new (w : World) (a b c : Value) (t : TypeId) : ∀ j u, [a, b, c][j]? = some u → (w.alloc (.cells #[a, b, c] t)).cell? ((⟨w.heap.size, 0, none⟩ : Addr).add j) = some u := by
  intro j u hj
  have hh := World.alloc_heap_new w (.cells #[a, b, c] t)
  match j, hj with
  | 0, hj => simp at hj; subst hj; rw [Addr.add_lit]; simp only [World.cell?]; rw [hh]; rfl
  | 1, hj => simp at hj; subst hj; rw [Addr.add_lit]; simp only [World.cell?]; rw [hh]; rfl
  | 2, hj => simp at hj; subst hj; rw [Addr.add_lit]; simp only [World.cell?]; rw [hh]; rfl
set_option maxHeartbeats 4000000 in
set_option maxRecDepth 100000 in
theorem inRow_ok (L : List (Nat × Nat)) (n g : Nat) (hl : Hid (L.length = n)) (hn : n ≤ 2) (hc : ∀ x ∈ L, x.1 ≤ 4294967296) (w : World) (hg : g < w.heap.size) (hp : PAt w g L) :
    Calls Try.prog 14 #[.slice (some ⟨g, 0, none⟩) n n] w fun e w' => ∃ v, e = .returned v ∧ w'.ownsRow w.heap.size 51 3 v (inRowF L 0).length (sgs (inRowF L 0)) ∧ Below w.heap.size w w' := by
  obtain ⟨i0, hi, hz0, hz1, hz2⟩ := info_parts info51
  go_enter Try.func14, Try.ntmps14
  go_wp2
  go_loopw [3, 4, 9] (fun r st i wr => ∃ k : Nat, k ≤ n ∧ i = .int .i64 k ∧ st = .int .u64 (total (L.take k) : Nat) ∧ Hid (total (L.take k) ≤ k * 4294967296) ∧ Hid (wr.ownsRow w.heap.size 51 3 r (inRowF (L.take k) 0).length (sgs (inRowF (L.take k) 0))) ∧ Hid (Below w.heap.size w wr)) (fun _ _ i _ => n - (intOf i).toNat)
  case atStart => exact ⟨0, by omega, rfl, rfl, (by have h1 : total (L.take 0) ≤ 0 * 4294967296 := (by simp [total]); exact h1), World.ownsRow_nil _ _ _ _, Below.refl _ _⟩
  case round =>
    obtain ⟨k, hk, rfl, rfl, ht, hrow, hb⟩ := hrel
    by_cases hlt : k < n
    · have hkl : k < L.length := by rw [hl.out]; exact hlt
      obtain ⟨a1, a2, a3⟩ := (hp.below hg hb.out) k hkl
      have hcx := hc (L[k]) (List.getElem_mem hkl)
      have htk : L.take (k + 1) = L.take k ++ [L[k]] := List.take_succ_eq_append_getElem hkl
      obtain ⟨x, hx⟩ : ∃ x, L[k] = x := ⟨_, rfl⟩
      rw [hx] at a2 a3 hcx htk
      obtain ⟨c, e⟩ := x
      have ht2 : Hid (total (L.take (k + 1)) = total (L.take k) + c) := by
        have h1 : total (L.take (k + 1)) = total (L.take k) + c := by rw [htk]; simp [total]
        exact h1
      have hr2 : Hid (inRowF (L.take (k + 1)) 0 = inRowF (L.take k) 0 ++ (if 0 < c then [(total (L.take k), c, e)] else [])) := by
        have h1 : inRowF (L.take (k + 1)) 0 = inRowF (L.take k) 0 ++ (if 0 < c then [(total (L.take k), c, e)] else []) := by rw [htk, inRowF_append]; simp [inRowF]
        exact h1
      have hlen := inRowF_len (L.take k) 0
      have hlen2 : (L.take k).length ≤ 2 := by simp; omega
      obtain ⟨T, hT⟩ : ∃ T, total (L.take k) = T := ⟨_, rfl⟩
      have hT2 := ht.out
      rw [hT] at hT2
      have wr1 : IntKind.u64.wrap ((T : Int) + (c : Int)) = ((T + c : Nat) : Int) := by rw [IntKind.wrap_u64]; simp only at hcx; omega
      obtain ⟨M, hM⟩ : ∃ M, (inRowF (L.take k) 0).length = M := ⟨_, rfl⟩
      have hrow1 := hrow.out
      rw [hM] at hrow1 hlen
      have hc2 : c ≤ 4294967296 := hcx
      have HT7 : Hid (total (L.take (k + 1)) ≤ (k + 1) * 4294967296) := by
        have h1 : total (L.take (k + 1)) ≤ (k + 1) * 4294967296 := by rw [ht2.out, hT]; omega
        exact h1
      by_cases hpos : 0 < c
      · have q : decide ((0 : Int) < (c : Int)) = true := by simp; omega
        have hL3 : inRowF (L.take (k + 1)) 0 = inRowF (L.take k) 0 ++ [(T, c, e)] := by rw [hr2.out, if_pos hpos, hT]
        rw [hT]
        have hnew : ∀ j u, (sgL (T, c, e))[j]? = some u → ((wr.alloc (.cells #[.int .u64 (T : Nat), .int .u64 (c : Nat), .int .u64 (e : Nat)] 51)).alloc (.cells #[.int .u64 (T : Nat), .int .u64 (c : Nat), .int .u64 (e : Nat)] 51)).cell? ((⟨wr.heap.size + 1, 0, none⟩ : Addr).add j) = some u := by
          have h := three_new (wr.alloc (.cells #[.int .u64 (T : Nat), .int .u64 (c : Nat), .int .u64 (e : Nat)] 51)) (.int .u64 (T : Nat)) (.int .u64 (c : Nat)) (.int .u64 (e : Nat)) 51
          rw [World.size_alloc] at h
          exact h
        have hb0 := hb.out.size
        have hblk : (wr.alloc (.cells #[.int .u64 (T : Nat), .int .u64 (c : Nat), .int .u64 (e : Nat)] 51)).cell? ⟨wr.heap.size, 1, none⟩ = some (.int .u64 (c : Nat)) := by
          have h := three_new wr (.int .u64 (T : Nat)) (.int .u64 (c : Nat)) (.int .u64 (e : Nat)) 51 1 _ rfl
          rwa [Addr.add_lit] at h
        clear hc hcx htk hx hr2 hl
        go_wp2_with (at_builtin; go_must (refine wpList_append_lies _ rfl (.tmp 18) (.tmp 20) 29 rfl w.heap.size 51 i0 (.agg #[.int .u64 0, .int .u64 0, .int .u64 0]) 3 24 Try.underlying29 hi hz0 hz1 hz2 rfl (by decide) _ M (sgs (inRowF (L.take k) 0)) rfl ((hrow1.alloc _).alloc _) ⟨wr.heap.size + 1, 0, none⟩ 1 1 (sgL (T, c, e)) rfl rfl hnew (by simp [Value.oneCell']) (by decide) (by unfold maxLen; omega) (by omega) (by simp; omega) (wr.heap.size + 2) (by simp) ?_))
        intro g7 c7 w7 hown hgrow hat hlt7
        have y1 : w7.cell? ⟨wr.heap.size, 1, none⟩ = some (.int .u64 (c : Nat)) := by
          have h1 := (World.grownBy_alloc (wr.alloc (.cells #[.int .u64 (T : Nat), .int .u64 (c : Nat), .int .u64 (e : Nat)] 51)) (.cells #[.int .u64 (T : Nat), .int .u64 (c : Nat), .int .u64 (e : Nat)] 51) none).cell hblk (by simp)
          exact hgrow.cell h1 (fun e => by have := (hrow1.lt _ e.symm).2; simp at this)
        have HB7 : Hid (Below w.heap.size w w7) := ((hb.out.alloc hb0 _).alloc (by simp; omega) _).grown hgrow (by simp; omega) (fun q hq => (hrow1.lt q hq).1)
        have HR7 : Hid (w7.ownsRow w.heap.size 51 3 (.slice (some ⟨g7, 0, none⟩) (M + 1) c7) (inRowF (L.take (k + 1)) 0).length (sgs (inRowF (L.take (k + 1)) 0))) := by
          rw [hL3, List.length_append, sgs_append, hM]
          exact hown
        clear hown hgrow hat hlt7 hnew hblk hrow1 hrow hb
        go_wp2
        go_roundw
        case rel => exact ⟨k + 1, by omega, by go_num, by rw [ht2.out, hT]; simp, HT7, HR7, HB7⟩
        case measure => simp [intOf]; omega
      · have q : decide ((0 : Int) < (c : Int)) = false := by simp; omega
        have hL3 : inRowF (L.take (k + 1)) 0 = inRowF (L.take k) 0 := by rw [hr2.out, if_neg hpos, List.append_nil]
        obtain rfl : c = 0 := by omega
        rw [hT]
        have HB7 : Hid (Below w.heap.size w (wr.alloc (.cells #[.int .u64 0, .int .u64 0, .int .u64 (e : Nat)] 51))) := hb.out.alloc hb.out.size _
        have HR7 : Hid ((wr.alloc (.cells #[.int .u64 0, .int .u64 0, .int .u64 (e : Nat)] 51)).ownsRow w.heap.size 51 3 u3 (inRowF (L.take (k + 1)) 0).length (sgs (inRowF (L.take (k + 1)) 0))) := by
          rw [hL3, hM]
          exact hrow1.alloc _
        clear hc hcx htk hx hr2 hl hrow1 hrow hb
        go_wp2
        go_roundw
        case rel => exact ⟨k + 1, by omega, by go_num, by rw [ht2.out, hT]; simp, HT7, HR7, HB7⟩
        case measure => simp [intOf]; omega
    · obtain rfl : k = n := by omega
      have hall : L.take k = L := List.take_of_length_le (by rw [hl.out]; exact Nat.le_refl _)
      have hrow1 := hrow.out
      rw [hall] at hrow1 ⊢
      clear hrow
      have HR1 : Hid (wr.ownsRow w.heap.size 51 3 u3 (inRowF L 0).length (sgs (inRowF L 0))) := hrow1
      clear hrow1
      go_wp2
      go_ret
      exact ⟨_, rfl, HR1.out, hb.out⟩
end Go.Proofs.Ytchfbanehohjoaa
