import Derived.Test.YtffejkfkkciaaaaEse
import Derived.Lib.LazyBuf
import Derived.Lib.SliceRun
import Derived.Shelf.RegionOpenPlain
namespace Go.Proofs.Ytffejkfkkciaaaa
open Go.RowKit
set_option linter.unusedVariables false
set_option linter.unusedSimpArgs false
theorem Try.underlying25' : Try.prog.underlying 25 = some (.slice 5) := by kernel_rfl
set_option maxHeartbeats 800000 in
set_option maxRecDepth 100000 in
theorem clone_ok (b off c : Nat) (l : List F) (w : World) (hn : l.length ≤ 4000) (h : Rw w b off l) :
    Calls Try.prog 39 #[.slice (some ⟨b, off, none⟩) l.length c] w fun e w' => Hid (∃ v, e = .returned v ∧ w'.ownsRow w.heap.size 5 1 v l.length (fc l) ∧ Below w.heap.size w w') := by
  obtain ⟨i0, hi, hz0, hz1, hz2⟩ := info_parts Try.infoB
  have hnl : ∀ w, (binOp .eql 25 (.slice (some ⟨b, off, none⟩) l.length c) (.slice none 0 0)).run Try.prog w = .ok (.bool false) w := fun w => Lib.run_eql_slice_nil w 25 5 (some ⟨b, off, none⟩) l.length c 0 0 Try.underlying25'
  have HL : Hid ((fc l).length = l.length) := fc_len l
  have HC : Hid (∀ j u, (fc l)[j]? = some u → w.cell? ((⟨b, off, none⟩ : Addr).add j) = some u) := fun j u hu => by
    have hj : j < l.length := by rw [← HL.out]; exact (List.getElem?_eq_some_iff.1 hu).1
    rw [fc_at l j hj] at hu
    rw [Addr.add_lit, h j hj]
    exact hu
  clear h
  obtain ⟨n, HN⟩ : ∃ n, Hid (l.length = n) := ⟨_, rfl⟩
  rw [HN.out] at hnl HL hn ⊢
  obtain ⟨vs, HV⟩ : ∃ vs, Hid (fc l = vs) := ⟨_, rfl⟩
  have h1 : Hid (∀ u ∈ vs, u.oneCell' = true) := by rw [← HV.out]; exact fc_one l
  rw [HV.out] at HC HL ⊢
  go_enter Try.func39, Try.ntmps39
  go_wp2_with (first
    | (at_builtin; go_must (refine wpList_append_own _ rfl _ _ 25 rfl w.heap.size 5 i0 (.int .u8 0) 1 1 Try.underlying25' hi hz0 hz1 hz2 rfl (by decide) _ 0 [] rfl (World.ownsRow_made w #[] 0 (Nat.le_refl _) (by unfold maxLen; omega) rfl) ⟨b, off, none⟩ n c vs rfl ?_ ?_ h1.out ?_ ?_ ?_ ?_)))
  · rw [HL.out, Nat.mul_one]
  · intro j u hu
    have := HC.out j u hu
    rw [World.cell?_alloc_lt w _ _ (World.block_lt_of_cell? w _ this)]
    exact this
  · unfold maxLen; omega
  · omega
  · simp
  intro v1 w1 hown hgrow hnil
  have HO : Hid (w1.ownsRow w.heap.size 5 1 v1 n vs) := by show w1.ownsRow w.heap.size 5 1 v1 n vs; simpa using hown
  have HB : Hid (Below w.heap.size w w1) := ((Below.refl _ _).alloc (Nat.le_refl _) _).grown hgrow (by simp) (by intro k hk; cases hk; exact Nat.le_refl _)
  clear hown hgrow hnil
  go_wp2
  go_ret
  exact ⟨_, rfl, HO.out, HB.out⟩
/-- A row, its first k and last k places taken from the other end. -/
def rvl (l : List F) (k : Nat) : List F := (List.range l.length).map fun q => if q < k ∨ l.length ≤ q + k then l.getD (l.length - 1 - q) 0 else l.getD q 0
theorem rvl_len (l : List F) (k : Nat) : (rvl l k).length = l.length := by simp [rvl]
theorem rvl_at (l : List F) (k q : Nat) (h : q < l.length) : (rvl l k).getD q 0 = if q < k ∨ l.length ≤ q + k then l.getD (l.length - 1 - q) 0 else l.getD q 0 := by
  simp [rvl, List.getD_eq_getElem?_getD, List.getElem?_map, List.getElem?_range h]
theorem rvl_zero (l : List F) : rvl l 0 = l := by
  apply List.ext_getElem
  · simp [rvl]
  · intro q h1 h2
    simp [rvl, List.getD_eq_getElem?_getD, List.getElem?_eq_getElem h2, show ¬ l.length ≤ q by omega]
theorem rvl_all (l : List F) (k : Nat) (h : l.length ≤ 2 * k + 1) : rvl l k = l.reverse := by
  apply List.ext_getElem
  · simp [rvl]
  · intro q h1 h2
    have hq : q < l.length := by simpa [rvl] using h1
    have e : (rvl l k)[q] = (rvl l k).getD q 0 := by rw [List.getD_eq_getElem?_getD, List.getElem?_eq_getElem h1]; rfl
    rw [e, rvl_at l k q hq, List.getElem_reverse]
    by_cases c : q < k ∨ l.length ≤ q + k
    · rw [if_pos c, List.getD_eq_getElem?_getD, List.getElem?_eq_getElem (by omega)]; rfl
    · rw [if_neg c, List.getD_eq_getElem?_getD, List.getElem?_eq_getElem hq]
      show l[q] = _
      congr 1
      omega
theorem rvl_next (l : List F) (k j : Nat) (h : k + 1 + j = l.length) (hj : k < j) : ((fc (rvl l k)).set k (.int .u8 ((l.getD j 0).1 : Nat))).set j (.int .u8 ((l.getD k 0).1 : Nat)) = fc (rvl l (k + 1)) := by
  apply List.ext_getElem?
  intro q
  by_cases hq : q < l.length
  · rw [fc_at (rvl l (k + 1)) q (by rw [rvl_len]; exact hq), rvl_at l (k + 1) q hq]
    by_cases e1 : q = j
    · subst e1
      rw [List.getElem?_set_self (by rw [List.length_set, fc_len, rvl_len]; exact hq), if_pos (by omega), show l.length - 1 - q = k by omega]
    · rw [List.getElem?_set_ne (by omega)]
      by_cases e2 : q = k
      · subst e2
        rw [List.getElem?_set_self (by rw [fc_len, rvl_len]; exact hq), if_pos (by omega), show l.length - 1 - q = j by omega]
      · rw [List.getElem?_set_ne (by omega), fc_at (rvl l k) q (by rw [rvl_len]; exact hq), rvl_at l k q hq]
        by_cases c : q < k ∨ l.length ≤ q + k
        · rw [if_pos c, if_pos (by omega)]
        · rw [if_neg c, if_neg (by omega)]
  · rw [List.getElem?_eq_none (by simp [fc_len, rvl_len]; omega), List.getElem?_eq_none (by simp [fc_len, rvl_len]; omega)]
set_option maxHeartbeats 1600000 in
set_option maxRecDepth 100000 in
theorem reverse_ok (b c : Nat) (l : List F) (w : World) (hn : l.length ≤ 4000) (h : Bx w b 5 (fc l)) :
    Calls Try.prog 42 #[.slice (some ⟨b, 0, none⟩) l.length c] w fun e w' => Hid (e = .returned (.tuple #[]) ∧ Bx w' b 5 (fc l.reverse) ∧ Below b w w') := by
  obtain ⟨n, HN⟩ : ∃ n, Hid (l.length = n) := ⟨_, rfl⟩
  rw [HN.out] at hn ⊢
  have HI0 : Hid (Bx w b 5 (fc (rvl l 0)) ∧ Below b w w) := ⟨by rw [rvl_zero]; exact h, Below.refl _ _⟩
  clear h
  have mixed : Try.prog.follows .mixedOrders = true := by kernel_rfl
  go_enter Try.func42, Try.ntmps42
  go_wp2
  go_loopw [2, 3] (fun vi vj wr => ∃ k : Nat, ∃ jz : Int, 2 * k ≤ n ∧ vi = .int .i64 (k : Nat) ∧ vj = .int .i64 jz ∧ jz = (n : Int) - 1 - k ∧ Hid (Bx wr b 5 (fc (rvl l k)) ∧ Below b w wr)) (fun vi _ _ => n - (intOf vi).toNat)
  case atStart => exact ⟨0, (n : Int) - 1, by omega, rfl, by first | rfl | simp, by omega, HI0.out⟩
  case round =>
    obtain ⟨k, jz, hk, rfl, rfl, hjz, HI⟩ := hrel
    clear HI0
    by_cases hlt : (k : Int) < jz
    · obtain ⟨j, HJ⟩ : ∃ j : Nat, Hid (k + 1 + j = n) := ⟨n - 1 - k, by show k + 1 + (n - 1 - k) = n; omega⟩
      have hj := HJ.out
      obtain rfl : jz = (j : Int) := by omega
      have hkj : Hid (k < j) := by show k < j; omega
      have hkn : k < n := by omega
      have hjn : j < n := by omega
      have g1 : (k : Int) < (n : Int) := by omega
      have g2 : (j : Int) < (n : Int) := by omega
      have g3 : (0 : Int) ≤ (k : Int) := by omega
      have g4 : (0 : Int) ≤ (j : Int) := by omega
      have n1 : IntKind.i64.wrap ((j : Int) - 1) = (j : Int) - 1 := by rw [IntKind.wrap_i64]; omega
      obtain ⟨h1, h2⟩ := HI.out
      have ck : wr.cell? ⟨b, k, none⟩ = some (.int .u8 ((l.getD k 0).1 : Nat)) := h1.cell k _ (by rw [fc_at _ k (by rw [rvl_len, HN.out]; exact hkn), rvl_at l k k (by rw [HN.out]; exact hkn), if_neg (by rw [HN.out]; omega)])
      have cj : wr.cell? ⟨b, j, none⟩ = some (.int .u8 ((l.getD j 0).1 : Nat)) := h1.cell j _ (by rw [fc_at _ j (by rw [rvl_len, HN.out]; exact hjn), rvl_at l k j (by rw [HN.out]; exact hjn), if_neg (by rw [HN.out]; omega)])
      have fk : wr.frozen? ⟨b, k, none⟩ = false := h1.frozen _
      have fj : wr.frozen? ⟨b, j, none⟩ = false := h1.frozen _
      have HNX : Hid (Bx ((wr.setCell ⟨b, k, none⟩ (.int .u8 ((l.getD j 0).1 : Nat))).setCell ⟨b, j, none⟩ (.int .u8 ((l.getD k 0).1 : Nat))).drew b 5 (fc (rvl l (k + 1))) ∧ Below b w ((wr.setCell ⟨b, k, none⟩ (.int .u8 ((l.getD j 0).1 : Nat))).setCell ⟨b, j, none⟩ (.int .u8 ((l.getD k 0).1 : Nat))).drew) := by
        refine ⟨?_, ((h2.setCell (Nat.le_refl _) _).setCell (Nat.le_refl _) _).drew⟩
        rw [← rvl_next l k j (by rw [HN.out]; exact HJ.out) hkj.out]
        exact (h1.set _ _).set _ _
      generalize (l.getD k 0).1 = a at ck HNX
      generalize (l.getD j 0).1 = d at cj HNX
      clear h1 h2 HI hjz hj hk
      go_wp2_with fail
      go_region_o
      go_wp2
      have e1 := HJ.out
      have e2 := hkj.out
      refine ⟨⟨k + 1, (j : Int) - 1, by omega, by first | rfl | (simp; done), rfl, by omega, HNX.out⟩, ?_⟩
      simp [intOf]
      omega
    · have hx : Hid (Bx wr b 5 (fc l.reverse) ∧ Below b w wr) := ⟨by rw [← rvl_all l k (by rw [HN.out]; omega)]; exact HI.out.1, HI.out.2⟩
      clear HI
      go_wp2
      go_end0
      exact ⟨rfl, hx.out⟩
end Go.Proofs.Ytffejkfkkciaaaa
