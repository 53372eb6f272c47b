import Derived.Test.YtffejkfkkciaaaaEsg
namespace Go.Proofs.Ytffejkfkkciaaaa
open Go.RowKit
set_option linter.unusedVariables false
set_option linter.unusedSimpArgs false
/-- In how many of the first places two rows differ. -/
def dif (l m : List F) : Nat → Nat
  | 0 => 0
  | i + 1 => if l.getD i 0 = m.getD i 0 then dif l m i else dif l m i + 1
theorem dif_le (l m : List F) : ∀ i, dif l m i ≤ i
  | 0 => Nat.le_refl _
  | i + 1 => by have := dif_le l m i; unfold dif; split <;> omega
theorem differing_ok (b off c b2 off2 c2 n : Nat) (l m : List F) (w : World) (hl : l.length = n) (hm : m.length = n) (hn : n ≤ 4000) (h : Rw w b off l) (h2 : Rw w b2 off2 m) : Calls Try.prog 27 #[.slice (some ⟨b, off, none⟩) n c, .slice (some ⟨b2, off2, none⟩) n c2] w fun e w' => Hid (e = .returned (.int .i64 (dif l m n : Nat)) ∧ Below w.heap.size w w') := by
  have HL : Hid (l.length = n ∧ m.length = n) := ⟨hl, hm⟩
  have HI0 : Hid (Rw w b off l ∧ Rw w b2 off2 m ∧ Below w.heap.size w w) := ⟨h, h2, Below.refl _ _⟩
  clear h h2 hl hm
  go_enter Try.func27, Try.ntmps27
  go_wp2
  go_loopw [5, 9] (fun vd vi wr => ∃ i : Nat, i ≤ n ∧ vd = .int .i64 (dif l m i : Nat) ∧ vi = .int .i64 (i : Nat) ∧ Hid (Rw wr b off l ∧ Rw wr b2 off2 m ∧ Below w.heap.size w wr)) (fun _ vi _ => n - (intOf vi).toNat)
  case atStart => exact ⟨0, by omega, rfl, rfl, HI0.out⟩
  case round =>
    obtain ⟨i, hi, rfl, rfl, HI⟩ := hrel
    clear HI0
    by_cases hlt : i < n
    · have g1 : (i : Int) < (n : Int) := by omega
      have g0 : (0 : Int) ≤ (i : Int) := by omega
      have c1 : wr.cell? ⟨b, off + i, none⟩ = some (.int .u8 ((l.getD i 0).1 : Nat)) := HI.out.1 i (by rw [HL.out.1]; exact hlt)
      have c3 : wr.cell? ⟨b2, off2 + i, none⟩ = some (.int .u8 ((m.getD i 0).1 : Nat)) := HI.out.2.1 i (by rw [HL.out.2]; exact hlt)
      obtain ⟨d, HD⟩ : ∃ d, Hid (dif l m i = d) := ⟨_, rfl⟩
      have hd : d ≤ i := by rw [← HD.out]; exact dif_le l m i
      have HW : Hid (i < n) := hlt
      have n1 : IntKind.i64.wrap ((d : Int) + 1) = (d : Int) + 1 := by rw [IntKind.wrap_i64]; omega
      have HNX : Hid (Rw wr.drew b off l ∧ Rw wr.drew b2 off2 m ∧ Below w.heap.size w wr.drew) := ⟨HI.out.1, HI.out.2.1, HI.out.2.2.drew⟩
      rw [HD.out]
      by_cases e : l.getD i 0 = m.getD i 0
      · have HN : Hid (dif l m (i + 1) = d) := by show (if _ then _ else _) = _; rw [if_pos e, HD.out]
        rw [e] at c1
        generalize (m.getD i 0).1 = y at c1 c3
        clear hi e HI
        go_wp2
        go_region
        go_wp2
        have q := HW.out
        refine ⟨⟨i + 1, by omega, by rw [HN.out], by first | rfl | (simp; done), HNX.out⟩, ?_⟩
        simp [intOf]
        omega
      · have HN : Hid (dif l m (i + 1) = d + 1) := by show (if _ then _ else _) = _; rw [if_neg e, HD.out]
        have ne : ¬ (((l.getD i 0).1 : Nat) : Int) = (((m.getD i 0).1 : Nat) : Int) := fun q => e (Fin.ext (by omega))
        generalize (m.getD i 0).1 = y at c3 ne
        generalize (l.getD i 0).1 = x at c1 ne
        clear hi e HI
        go_wp2
        go_region
        go_wp2
        have q := HW.out
        refine ⟨⟨i + 1, by omega, by rw [HN.out]; first | rfl | (simp; done), by first | rfl | (simp; done), HNX.out⟩, ?_⟩
        simp [intOf]
        omega
    · obtain rfl : i = n := by omega
      have g2 : ¬ (i : Int) < (i : Int) := Int.lt_irrefl _
      go_wp2
      go_ret
      exact ⟨rfl, HI.out.2.2⟩
end Go.Proofs.Ytffejkfkkciaaaa
