import Derived.Test.YtohhjohpdfbdoaaQc
import Derived.Test.YtohhjohpdfbdoaaPa
namespace Go.Proofs.Ytohhjohpdfbdoaa
open Go.RowKit
set_option linter.unusedVariables false
set_option linter.unusedSimpArgs false
def Byte (z : Int) : Prop := 0 ≤ z ∧ z < 256
theorem nums_strOf : ∀ (l : List Int), (∀ z ∈ l, Byte z) → nums (strOfNums l) = l := by
  intro l hl
  unfold nums strOfNums
  simp only [List.map_map]
  have h : ∀ z ∈ l, ((fun b : UInt8 => (b.toNat : Int)) ∘ fun n : Int => UInt8.ofNat n.toNat) z = z := by
    intro z hz
    obtain ⟨h0, h1⟩ := hl z hz
    simp only [Function.comp]
    rw [UInt8.toNat_ofNat']
    omega
  conv => rhs; rw [← List.map_id l]
  exact List.map_congr_left h
theorem nums_byte (s : ByteArray) : ∀ z ∈ nums s, Byte z := by
  intro z hz
  unfold nums at hz
  rw [List.mem_map] at hz
  obtain ⟨b, _, rfl⟩ := hz
  have := b.toNat_lt
  unfold Byte
  omega
theorem hexD_byte (n : Nat) (h : n < 16) : 48 ≤ hexD n ∧ hexD n ≤ 102 := by unfold hexD; split <;> omega
theorem hexa_hexD (n : Nat) (h : n < 16) : hexa (hexD n) = n := by
  have : ∀ i : Fin 16, hexa (hexD i.1) = (i.1 : Nat) := by decide
  exact this ⟨n, h⟩
theorem q1_byte (z : Int) (hz : Byte z) : ∀ x ∈ q1 z, Byte x := by
  unfold Byte at *
  have h1 := hexD_byte (z / 16).toNat (by omega)
  have h2 := hexD_byte (z % 16).toNat (by omega)
  unfold q1
  split
  · intro x hx; simp at hx; omega
  · split
    · intro x hx; simp at hx; omega
    · intro x hx; simp at hx; omega
theorem qB_byte (l : List Int) (hl : ∀ z ∈ l, Byte z) : ∀ x ∈ qB l, Byte x := by
  intro x hx
  unfold qB at hx
  rw [List.mem_flatMap] at hx
  obtain ⟨z, hz, hx⟩ := hx
  exact q1_byte z (hl z hz) x hx
theorem run_cons {c : Int} {r : List Int} {p : Nat} {a a' : Acc} {st st' : St} (hf : fine c) (hs : step a st c = some (a', st')) : run (c :: r) p a st = run r (p + 1) a' st' := by
  rw [run, if_pos hf, hs]
theorem run_q1 (z : Int) (hz : Byte z) (r : List Int) (p : Nat) (a : Acc) (k v : List Int) : run (q1 z ++ r) p a (.quoted k v) = run r (p + (q1 z).length) a (.quoted k (v ++ [z])) := by
  unfold Byte at hz
  unfold q1
  by_cases h1 : z = 34 ∨ z = 92
  · rw [if_pos h1]
    have f1 : fine 92 := by decide
    have f2 : fine z := by unfold fine; omega
    have n1 : z ≠ 120 := by omega
    rw [List.cons_append, List.cons_append, List.nil_append, run_cons f1 (a' := a) (st' := .stroke k v) rfl, run_cons f2 (a' := a) (st' := .quoted k (v ++ [z])) (by simp [step, n1, h1])]
    rfl
  · rw [if_neg h1]
    by_cases h2 : z < 32 ∨ 126 < z
    · rw [if_pos h2]
      have b1 : (z / 16).toNat < 16 := by omega
      have b2 : (z % 16).toNat < 16 := by omega
      have d1 := hexD_byte _ b1
      have d2 := hexD_byte _ b2
      have x1 := hexa_hexD _ b1
      have x2 := hexa_hexD _ b2
      have f1 : fine 92 := by decide
      have f2 : fine 120 := by decide
      have f3 : fine (hexD (z / 16).toNat) := by unfold fine; omega
      have f4 : fine (hexD (z % 16).toNat) := by unfold fine; omega
      have p1 : 0 ≤ hexa (hexD (z / 16).toNat) := by rw [x1]; omega
      have p2 : 0 ≤ hexa (hexD (z % 16).toNat) := by rw [x2]; omega
      rw [List.cons_append, List.cons_append, List.cons_append, List.cons_append, List.nil_append, run_cons f1 (a' := a) (st' := .stroke k v) rfl, run_cons f2 (a' := a) (st' := .first k v) rfl,
        run_cons f3 (a' := a) (st' := .other k v (hexa (hexD (z / 16).toNat))) (by simp [step, p1]), run_cons f4 (a' := a) (st' := .quoted k (v ++ [z])) (by
          simp only [step]
          rw [if_pos p2, x1, x2]
          have e : 16 * ((z / 16).toNat : Int) + ((z % 16).toNat : Int) = z := by omega
          rw [e])]
      rfl
    · rw [if_neg h2]
      have f1 : fine z := by unfold fine; omega
      rw [List.cons_append, List.nil_append, run_cons f1 (a' := a) (st' := .quoted k (v ++ [z])) (by simp only [step]; rw [if_neg (by omega), if_neg (by omega)])]
      rfl
theorem run_qB : ∀ (l : List Int), (∀ z ∈ l, Byte z) → ∀ (r : List Int) (p : Nat) (a : Acc) (k v : List Int), run (qB l ++ r) p a (.quoted k v) = run r (p + (qB l).length) a (.quoted k (v ++ l)) := by
  intro l
  induction l with
  | nil => intro _ r p a k v; simp [qB]
  | cons z l ih =>
    intro hl r p a k v
    have e : qB (z :: l) = q1 z ++ qB l := by simp [qB]
    rw [e, List.append_assoc, run_q1 z (hl z (by simp)), ih (fun x hx => hl x (by simp [hx])), List.length_append, List.append_assoc, Nat.add_assoc]
    rfl
/-- What is read of a text in quotes. -/
def qAcc (s : ByteArray) : Acc := ⟨[97], [98], [([99], nums s)], 3⟩
theorem parse_quoted (s : ByteArray) (t : ByteArray) (ht : t = ⟨#[97, 32, 98, 32, 99, 61]⟩ ++ quoted s) (h : t.size ≤ 4096) : parse t = .good (qAcc s) := by
  have hb : ∀ z ∈ [97, 32, 98, 32, 99, 61] ++ (34 :: qB (nums s) ++ [34]), Byte z := by
    intro z hz
    have hq := qB_byte (nums s) (nums_byte s)
    simp only [List.mem_append, List.mem_cons, List.not_mem_nil, or_false] at hz
    rcases hz with hz | (hz | hz) | hz
    · unfold Byte; omega
    · unfold Byte; omega
    · exact hq z hz
    · unfold Byte; omega
  have hn : nums t = [97, 32, 98, 32, 99, 61] ++ (34 :: qB (nums s) ++ [34]) := by
    have h0 : (⟨#[97, 32, 98, 32, 99, 61]⟩ : ByteArray) = strOfNums [97, 32, 98, 32, 99, 61] := rfl
    rw [ht, h0]
    unfold quoted
    rw [strOf_append, nums_strOf _ hb]
  unfold parse
  rw [if_neg (by omega)]
  unfold R
  rw [hn, List.drop_zero]
  simp only [List.cons_append, List.nil_append, Nat.zero_add]
  rw [run_cons (c := 97) (by decide) (a' := { acc0 with f := 1 }) (st' := .command [97]) rfl,
    run_cons (c := 32) (by decide) (a' := { acc0 with f := 1, cmd := [97] }) (st' := .ahead) rfl,
    run_cons (c := 98) (by decide) (a' := { acc0 with f := 2, cmd := [97] }) (st' := .second [98]) rfl,
    run_cons (c := 32) (by decide) (a' := { acc0 with f := 2, cmd := [97], name := [98] }) (st' := .ahead) rfl,
    run_cons (c := 99) (by decide) (a' := { acc0 with f := 3, cmd := [97], name := [98] }) (st' := .key [99]) rfl,
    run_cons (c := 61) (by decide) (a' := { acc0 with f := 3, cmd := [97], name := [98] }) (st' := .begun [99]) rfl,
    run_cons (c := 34) (by decide) (a' := { acc0 with f := 3, cmd := [97], name := [98] }) (st' := .quoted [99] []) rfl,
    run_qB _ (nums_byte s),
    run_cons (c := 34) (by decide) (a' := { acc0 with f := 3, cmd := [97], name := [98] }) (st' := .shut [99] ([] ++ nums s)) rfl]
  rfl
end Go.Proofs.Ytohhjohpdfbdoaa
