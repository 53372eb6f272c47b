import Derived.Test.YtcnikfikpnnblaaGreatDoorPart28
import Derived.Test.YtcnikfikpnnblaaGreatDoorPart27
namespace Go.Proofs.YtcnikfikpnnblaaGreatDoor
open Go.RowKit
set_option linter.unusedVariables false
/-- Of mode k: the reference's mode and start. -/
def rM (k : Nat) : ByteArray := ([⟨#[101, 99, 98]⟩, ⟨#[99, 98, 99]⟩, ⟨#[99, 98, 99]⟩, ⟨#[99, 98, 99]⟩, ⟨#[99, 98, 99]⟩, ⟨#[99, 98, 99]⟩, ⟨#[99, 98, 99]⟩, ⟨#[99, 98, 99]⟩, ⟨#[101, 108, 101, 112, 104, 97, 110, 116]⟩, ⟨#[116, 99, 119]⟩, ⟨#[120, 116, 115]⟩, ⟨#[120, 116, 115]⟩, ⟨#[120, 116, 115]⟩, ⟨#[120, 116, 115]⟩, ⟨#[108, 114, 119]⟩, ⟨#[104, 99, 116, 114, 50]⟩, ⟨#[104, 99, 116, 114, 50]⟩] : List ByteArray).getD k ⟨#[]⟩
def rS (k : Nat) : ByteArray := ([⟨#[]⟩, ⟨#[110, 117, 108, 108]⟩, ⟨#[112, 108, 97, 105, 110]⟩, ⟨#[112, 108, 97, 105, 110, 54, 52]⟩, ⟨#[112, 108, 97, 105, 110, 54, 52, 98, 101]⟩, ⟨#[98, 101, 110, 98, 105]⟩, ⟨#[101, 115, 115, 105, 118]⟩, ⟨#[101, 98, 111, 105, 118]⟩, ⟨#[101, 98, 111, 105, 118]⟩, ⟨#[116, 99, 119]⟩, ⟨#[112, 108, 97, 105, 110]⟩, ⟨#[112, 108, 97, 105, 110, 54, 52]⟩, ⟨#[112, 108, 97, 105, 110, 54, 52, 98, 101]⟩, ⟨#[101, 115, 115, 105, 118]⟩, ⟨#[98, 101, 110, 98, 105]⟩, ⟨#[112, 108, 97, 105, 110]⟩, ⟨#[112, 108, 97, 105, 110, 54, 52]⟩] : List ByteArray).getD k ⟨#[]⟩
def rwL (i k : Nat) : List Value := [.string (sxN i k), .string (rM k), .string (rS k), .int .i64 ((16 + 8 * i : Nat) : Int), .int .i64 ((mK k * (16 + 8 * i) + mM k : Nat) : Int)]
def rw0 : List Value := [.string ⟨#[110, 117, 108, 108]⟩, .string ⟨#[110, 117, 108, 108]⟩, .string ⟨#[]⟩, .int .i64 0, .int .i64 0]
theorem rwF_0 : rwF 0 = rw0 := rfl
theorem rwS_lit (i k : Nat) (hk : k < 17) : rwS i k = [.string (rM k), .string (rS k), .int .i64 ((16 + 8 * i : Nat) : Int), .int .i64 ((mK k * (16 + 8 * i) + mM k : Nat) : Int)] := by
 match k, hk with
 | 0, _ =>
  refine (rwS_eq (i := i) (k := 0) (mo := 0) (AES := ((16 + 8 * i : Nat) : Int)) rfl rfl rfl).trans ?_
  congr 4 <;> (have e1 : mK 0 = 1 := rfl; have e2 : mM 0 = 0 := rfl; rw [e1, e2]; simp; try omega)
 | 1, _ =>
  refine (rwS_eq (i := i) (k := 1) (mo := 0) (AES := ((16 + 8 * i : Nat) : Int)) rfl rfl rfl).trans ?_
  congr 4 <;> (have e1 : mK 1 = 1 := rfl; have e2 : mM 1 = 0 := rfl; rw [e1, e2]; simp; try omega)
 | 2, _ =>
  refine (rwS_eq (i := i) (k := 2) (mo := 0) (AES := ((16 + 8 * i : Nat) : Int)) rfl rfl rfl).trans ?_
  congr 4 <;> (have e1 : mK 2 = 1 := rfl; have e2 : mM 2 = 0 := rfl; rw [e1, e2]; simp; try omega)
 | 3, _ =>
  refine (rwS_eq (i := i) (k := 3) (mo := 0) (AES := ((16 + 8 * i : Nat) : Int)) rfl rfl rfl).trans ?_
  congr 4 <;> (have e1 : mK 3 = 1 := rfl; have e2 : mM 3 = 0 := rfl; rw [e1, e2]; simp; try omega)
 | 4, _ =>
  refine (rwS_eq (i := i) (k := 4) (mo := 0) (AES := ((16 + 8 * i : Nat) : Int)) rfl rfl rfl).trans ?_
  congr 4 <;> (have e1 : mK 4 = 1 := rfl; have e2 : mM 4 = 0 := rfl; rw [e1, e2]; simp; try omega)
 | 5, _ =>
  refine (rwS_eq (i := i) (k := 5) (mo := 0) (AES := ((16 + 8 * i : Nat) : Int)) rfl rfl rfl).trans ?_
  congr 4 <;> (have e1 : mK 5 = 1 := rfl; have e2 : mM 5 = 0 := rfl; rw [e1, e2]; simp; try omega)
 | 6, _ =>
  refine (rwS_eq (i := i) (k := 6) (mo := 0) (AES := ((16 + 8 * i : Nat) : Int)) rfl rfl rfl).trans ?_
  congr 4 <;> (have e1 : mK 6 = 1 := rfl; have e2 : mM 6 = 0 := rfl; rw [e1, e2]; simp; try omega)
 | 7, _ =>
  refine (rwS_eq (i := i) (k := 7) (mo := 0) (AES := ((16 + 8 * i : Nat) : Int)) rfl rfl rfl).trans ?_
  congr 4 <;> (have e1 : mK 7 = 1 := rfl; have e2 : mM 7 = 0 := rfl; rw [e1, e2]; simp; try omega)
 | 8, _ =>
  refine (rwS_eq (i := i) (k := 8) (mo := -1) (AES := ((16 + 8 * i : Nat) : Int)) rfl rfl rfl).trans ?_
  congr 4 <;> (have e1 : mK 8 = 2 := rfl; have e2 : mM 8 = 0 := rfl; rw [e1, e2]; simp; try omega)
 | 9, _ =>
  refine (rwS_eq (i := i) (k := 9) (mo := 32) (AES := ((16 + 8 * i : Nat) : Int)) rfl rfl rfl).trans ?_
  congr 4 <;> (have e1 : mK 9 = 1 := rfl; have e2 : mM 9 = 32 := rfl; rw [e1, e2]; simp; try omega)
 | 10, _ =>
  refine (rwS_eq (i := i) (k := 10) (mo := -1) (AES := ((16 + 8 * i : Nat) : Int)) rfl rfl rfl).trans ?_
  congr 4 <;> (have e1 : mK 10 = 2 := rfl; have e2 : mM 10 = 0 := rfl; rw [e1, e2]; simp; try omega)
 | 11, _ =>
  refine (rwS_eq (i := i) (k := 11) (mo := -1) (AES := ((16 + 8 * i : Nat) : Int)) rfl rfl rfl).trans ?_
  congr 4 <;> (have e1 : mK 11 = 2 := rfl; have e2 : mM 11 = 0 := rfl; rw [e1, e2]; simp; try omega)
 | 12, _ =>
  refine (rwS_eq (i := i) (k := 12) (mo := -1) (AES := ((16 + 8 * i : Nat) : Int)) rfl rfl rfl).trans ?_
  congr 4 <;> (have e1 : mK 12 = 2 := rfl; have e2 : mM 12 = 0 := rfl; rw [e1, e2]; simp; try omega)
 | 13, _ =>
  refine (rwS_eq (i := i) (k := 13) (mo := -1) (AES := ((16 + 8 * i : Nat) : Int)) rfl rfl rfl).trans ?_
  congr 4 <;> (have e1 : mK 13 = 2 := rfl; have e2 : mM 13 = 0 := rfl; rw [e1, e2]; simp; try omega)
 | 14, _ =>
  refine (rwS_eq (i := i) (k := 14) (mo := 16) (AES := ((16 + 8 * i : Nat) : Int)) rfl rfl rfl).trans ?_
  congr 4 <;> (have e1 : mK 14 = 1 := rfl; have e2 : mM 14 = 16 := rfl; rw [e1, e2]; simp; try omega)
 | 15, _ =>
  refine (rwS_eq (i := i) (k := 15) (mo := 0) (AES := ((16 + 8 * i : Nat) : Int)) rfl rfl rfl).trans ?_
  congr 4 <;> (have e1 : mK 15 = 1 := rfl; have e2 : mM 15 = 0 := rfl; rw [e1, e2]; simp; try omega)
 | 16, _ =>
  refine (rwS_eq (i := i) (k := 16) (mo := 0) (AES := ((16 + 8 * i : Nat) : Int)) rfl rfl rfl).trans ?_
  congr 4 <;> (have e1 : mK 16 = 1 := rfl; have e2 : mM 16 = 0 := rfl; rw [e1, e2]; simp; try omega)
 | n + 17, h => exact absurd h (by omega)
theorem rwF_lit (i k : Nat) (hi : i < 3) (hk : k < 17) : rwF (1 + 17 * i + k) = rwL i k := by
 rw [rwF_at i k hk, rwS_lit i k hk, ns_eq i hi]; rfl
def zRw : List Value := [.string ⟨#[]⟩, .string ⟨#[]⟩, .string ⟨#[]⟩, .int .i64 0, .int .i64 0]
theorem rw_row (j : Nat) (hj : j < 52) : ∃ (M S : ByteArray) (a s : Int), rwF j = [.string (spN j), .string M, .string S, .int .i64 a, .int .i64 s] := by
 rcases sx_cases j hj with rfl | ⟨i, k, hi, hk, rfl⟩
 ·exact ⟨_, _, _, _, rfl⟩
 ·rw [rwF_lit i k hi hk, spN_lit i k hk]; exact ⟨_, _, _, _, rfl⟩
def FindR (S : ByteArray) (w0 : World) (e : Ending) (w' : World) : Prop :=
 ((∃ j, j < 52 ∧ spN j = S ∧ (∀ i, i < j → spN i ≠ S) ∧ e = .returned (.tuple #[.agg (rwF j).toArray, .bool true])) ∨ ((∀ i, i < 52 → spN i ≠ S) ∧ e = .returned (.tuple #[.agg zRw.toArray, .bool false]))) ∧ Below w0.heap.size w0 w'
structure FrI (w0 w1 w2 wr : World) (g cap : Nat) : Prop where
 own : w2.ownsRow w1.heap.size 35 5 (.slice (some ⟨g, 0, none⟩) 52 cap) 52 (fl rwF 52)
 b2 : Below w1.heap.size w1 w2
 br : Below w2.heap.size w2 wr
 w1 : w1 = w0.alloc (.cells zRw.toArray 35)
theorem FrI.box {w0 w1 w2 wr : World} {g cap : Nat} (h : FrI w0 w1 w2 wr g cap) : Bx wr w0.heap.size 35 zRw := by
 have e1 : w1.heap[w0.heap.size]? = some (.cells zRw.toArray 35 (0, 0)) := by rw [h.w1]; exact heap_alloc_new w0 _
 have l1 : w0.heap.size < w1.heap.size := by rw [h.w1]; simp
 unfold Bx
 rw [h.br.block _ (Nat.lt_of_lt_of_le l1 h.b2.size), h.b2.block _ l1, e1]
theorem FrI.bel {w0 w1 w2 wr : World} {g cap : Nat} (h : FrI w0 w1 w2 wr g cap) : Below w0.heap.size w0 wr := by
 have b0 : Below w0.heap.size w0 w1 := by rw [h.w1]; exact (Below.refl _ _).alloc (Nat.le_refl _) _
 have b1 := b0.trans (h.b2.mono b0.size)
 exact b1.trans (h.br.mono b1.size)
theorem rwc {w1 w2 wr : World} {g cap i j : Nat} (h : w2.ownsRow w1.heap.size 35 5 (.slice (some ⟨g, 0, none⟩) 52 cap) 52 (fl rwF 52)) (b : Below w2.heap.size w2 wr) (hi : i < 52) (hj : j < 5) : wr.cell? ⟨g, i * 5 + j, none⟩ = (rwF i)[j]? := by
 have hlt := (ownsRow_lt h (g := g) rfl).2
 rw [b.cell (p := ⟨g, i * 5 + j, none⟩) hlt]
 have e := fl_at rwF 5 rwF_len 52 i j hi hj
 have hx : j < (rwF i).length := by rw [rwF_len]; exact hj
 rw [List.getElem?_eq_getElem hx] at e ⊢
 have q := World.ownsRow.cells h (g := g) rfl (i * 5 + j) _ e
 rw [Addr.add_lit, Nat.zero_add] at q
 exact q
set_option maxHeartbeats 3200000 in
set_option maxRecDepth 100000 in
/-- cofferref03.Find. -/
theorem rfind_ok (S : ByteArray) (w0 : World) (G o cp : Nat) (hD : MdAt w0 G o cp) : Calls Tryz.prog 14 #[.string S] w0 fun e w' => FindR S w0 e w' := by
 obtain ⟨w1, hw1⟩ : ∃ w1, w1 = w0.alloc (.cells zRw.toArray 35) := ⟨_, rfl⟩
 have HT1 : Hid (MdAt w1 G o cp) := by rw [hw1]; exact hD.below ((Below.refl _ _).alloc (Nat.le_refl _) _)
 have HW1 : Hid (w1 = w0.alloc (.cells zRw.toArray 35)) := hw1
 clear hD
 have H45 : Hid (Calls Tryz.prog 42 #[] (w0.alloc (.cells #[.string ⟨#[]⟩, .string ⟨#[]⟩, .string ⟨#[]⟩, .int .i64 0, .int .i64 0] 35)) fun e w' => Hid (∃ g cap, e = .returned (.slice (some ⟨g, 0, none⟩) 52 cap) ∧ FrI w0 w1 w' w' g cap)) := by
  have q := rows_ok w1 G o cp HT1.out
  rw [hw1] at q
  refine q.mono ?_
  rintro e w2 hh
  obtain ⟨g, cap, rfl, ho, hb⟩ := hh.out
  exact ⟨g, cap, rfl, by rw [hw1]; exact ho, by rw [hw1]; exact hb, Below.refl _ _, hw1⟩
 clear hw1 HT1
 go_enter Tryz.func14, Tryz.ntmps14
 go_wp2_with (go_at_call 42; refine H45.out.mono ?_; intro e1 w2 hh; obtain ⟨g, cap, rfl, hI⟩ := hh.out; have HI : Hid (FrI w0 w1 w2 w2 g cap) := hI; clear hh hI H45)
 obtain ⟨b0, hb0⟩ : ∃ b0, b0 = w0.heap.size := ⟨_, rfl⟩
 have HB0 : Hid (b0 = w0.heap.size) := hb0
 rw [← hb0]
 clear hb0
 go_loopw [5] (fun vi wr => ∃ i : Nat, vi = .int .i64 (i : Nat) ∧ i ≤ 52 ∧ Hid (FrI w0 w1 w2 wr g cap) ∧ Hid (∀ k, k < i → spN k ≠ S)) (fun vi _ => 52 - (intOf vi).toNat)
 case atStart => exact ⟨0, rfl, by omega, HI, fun k hk => by omega⟩
 case round =>
  obtain ⟨i, rfl, hi, HR, HN⟩ := hrel
  clear HI
  by_cases hlt : i < 52
  ·obtain ⟨M, T, a, s, hrow⟩ := rw_row i hlt
   have HROW : Hid (rwF i = [.string (spN i), .string M, .string T, .int .i64 a, .int .i64 s]) := hrow
   have g0 : (0 : Int) ≤ (i : Int) := by omega
   have g1 : (i : Int) < 52 := by omega
   obtain ⟨NM, HNM⟩ : ∃ q, Hid (spN i = q) := ⟨_, rfl⟩
   rw [HNM.out] at hrow
   have cs : ∀ j, j < 5 → wr.cell? ⟨g, i * 5 + j, none⟩ = (rwF i)[j]? := fun j hj => rwc HR.out.own HR.out.br hlt hj
   rw [hrow] at cs
   have c0 := cs 0 (by decide)
   have c1 := cs 1 (by decide)
   have c2 := cs 2 (by decide)
   have c3 := cs 3 (by decide)
   have c4 := cs 4 (by decide)
   clear cs hrow
   simp only [List.getElem?_cons_zero, List.getElem?_cons_succ, Nat.add_zero] at c0 c1 c2 c3 c4
   by_cases hE : NM = S
   ·subst hE
    have hrow2 : rwF i = [.string NM, .string M, .string T, .int .i64 a, .int .i64 s] := by rw [HROW.out, HNM.out]
    have HRW : Hid (rwF i = [.string NM, .string M, .string T, .int .i64 a, .int .i64 s]) := hrow2
    clear hrow2
    have HB2 : Hid (Bx wr b0 35 zRw) := by rw [HB0.out]; exact HR.out.box
    go_wp2_with (refine wpList_store_bx (by rfl) 35 (.tmp 2) (.tmp 23) (by rfl) zRw [.string NM, .string M, .string T, .int .i64 a, .int .i64 s] b0 (by rfl) (by rfl) HB2.out rfl (by kernel_rfl) (by simp [Value.oneCell']) ?_; intro u9 hb9 hg9)
    refine ret_agg_tmp (b := b0) [.string NM, .string M, .string T, .int .i64 a, .int .i64 s] (.bool true) rfl rfl rfl hb9.range Tryz.underlying35 rfl (by kernel_rfl) ⟨Or.inl ⟨i, hlt, HNM.out, HN.out, by rw [HRW.out]⟩, ?_⟩
    exact HR.out.bel.trans (below_gb hg9 HR.out.bel.size (by rw [HB0.out]; exact Nat.le_refl _))
   ·have hne : (NM.toList == S.toList) = false := by
     rw [beq_eq_false_iff_ne]; intro q; exact hE (bytes_inj q)
    have HNE : Hid (spN i ≠ S) := by rw [HNM.out]; exact hE
    clear hE
    go_wp2
    refine ⟨⟨i + 1, by simp, by omega, HR, fun k hk => ?_⟩, by simp [intOf]; omega⟩
    by_cases q : k < i
    ·exact HN.out k q
    ·obtain rfl : k = i := by omega
     exact HNE.out
  ·have g1 : ¬ (i : Int) < 52 := by omega
   have HB2 : Hid (Bx wr b0 35 zRw) := by rw [HB0.out]; exact HR.out.box
   have hbd : ∀ w, (Instr.build 35 #[]).run Tryz.prog w = .ok (.agg #[.string ⟨#[]⟩, .string ⟨#[]⟩, .string ⟨#[]⟩, .int .i64 0, .int .i64 0]) w := fun w => run_build w _ _ _ (by kernel_rfl)
   go_wp2_with (refine wpList_store_bx (by rfl) 35 (.tmp 2) (.tmp 24) (by rfl) zRw zRw b0 (by rfl) (by rfl) HB2.out rfl (by kernel_rfl) (by simp [zRw, Value.oneCell']) ?_; intro u9 hb9 hg9)
   refine ret_agg_tmp (b := b0) zRw (.bool false) rfl rfl rfl hb9.range Tryz.underlying35 rfl (by kernel_rfl) ⟨Or.inr ⟨fun k hk => HN.out k (by omega), rfl⟩, ?_⟩
   exact HR.out.bel.trans (below_gb hg9 HR.out.bel.size (by rw [HB0.out]; exact Nat.le_refl _))
end Go.Proofs.YtcnikfikpnnblaaGreatDoor
