import Derived.Test.YtnkpngpjlkkkbaaBtp
namespace Go.Proofs.Ytnkpngpjlkkkbaa
open Go.RowKit Go.Proofs.Ytnkpngpjlkkkbaa.Fld
set_option linter.unusedVariables false
set_option linter.unusedSimpArgs false
/-- Only block g has changed. -/
structure On (w w' : World) (g : Nat) : Prop where
  os : w'.os = w.os
  tape : w'.tape = w.tape
  output : w'.output = w.output
  size : w'.heap.size = w.heap.size
  block : ∀ b, b ≠ g → w'.heap[b]? = w.heap[b]?
theorem On.refl (w : World) (g : Nat) : On w w g := ⟨rfl, rfl, rfl, rfl, fun _ _ => rfl⟩
theorem On.setCell {w w' : World} {g : Nat} (h : On w w' g) (j : Nat) (v : Value) : On w (w'.setCell ⟨g, j, none⟩ v) g :=
  ⟨h.os, h.tape, h.output, by rw [← h.size]; simp [World.setCell], fun b hb => by rw [Below.heap_setCell w' ⟨g, j, none⟩ v b hb]; exact h.block b hb⟩
theorem On.drew {w w' : World} {g : Nat} (h : On w w' g) : On w w'.drew g := ⟨h.os, h.tape, h.output, h.size, h.block⟩
theorem On.below {w w' : World} {g B : Nat} (h : On w w' g) (hg : B ≤ g) : Below B w w' := ⟨h.os, h.tape, h.output, Nat.le_of_eq h.size.symm, fun k hk => h.block k (by omega)⟩
/-- The powers turned one after the other. -/
def rds (ps : Nat → Nat) (c : Nat → Bool) (i : Nat) : Nat → (Nat → Bool)
  | 0 => Fld.flip c i
  | k + 1 => Fld.flip (rds ps c i k) (i - 128 + ps k)
theorem rds_red (ps : Nat → Nat) (c : Nat → Bool) (i : Nat) (h : c i = true) : rds ps c i 4 = red (ps 0) (ps 1) (ps 2) (ps 3) c i := by
  rw [red, if_pos h]
  rfl
theorem red_no (p0 p1 p2 p3 : Nat) (c : Nat → Bool) (i : Nat) (h : c i = false) : red p0 p1 p2 p3 c i = c := by
  rw [red, if_neg (by rw [h]; decide)]
structure RdI (w wr : World) (g cap n : Nat) (c : Nat → Bool) : Prop where
  row : RowC wr g cap n c
  on : On w wr g
/-- Behind the coefficients from m on. -/
structure RdO (T : BitVec 128 → BitVec 128) (w wr : World) (g cap n : Nat) (c0 : Nat → Bool) (m : Nat) : Prop where
  ex : ∃ c, RdI w wr g cap n c ∧ ev T c n = ev T c0 n ∧ ∀ j, 127 + m < j → j < n → c j = false
theorem xor_one (b : Bool) : bits .xor .i64 (cb b) 1 = cb (!b) := by cases b <;> decide
set_option maxHeartbeats 1600000 in
set_option maxRecDepth 100000 in
/-- cofferref03.reduced. -/
theorem reduced_ok (T : BitVec 128 → BitVec 128) (hT : Cyc T) (ps : Nat → Nat) (hp : ∀ k, k < 4 → ps k < 128) (hm : itr T 128 (e 0) = e (ps 0) ^^^ e (ps 1) ^^^ e (ps 2) ^^^ e (ps 3)) (c0 : Nat → Bool) (g cap n gp cp : Nat) (w : World) (hn : 128 ≤ n) (hn2 : n ≤ 1000) (hR : RowC w g cap n c0) (hg : gp ≠ g) (hP : ∀ k, k < 4 → w.cell? ⟨gp, k, none⟩ = some (.int .i64 (ps k : Nat))) :
    Calls Try.prog 28 #[.slice (some ⟨g, 0, none⟩) n cap, .slice (some ⟨gp, 0, none⟩) 4 cp] w fun e w' => Hid (e = .returned (.slice (some ⟨g, 0, none⟩) 128 cap) ∧ (∃ c, RowC w' g cap n c ∧ ∀ j, j < 128 → c j = (ev T c0 n).getLsbD j) ∧ On w w' g) := by
  have HT : Hid (Cyc T ∧ (∀ k, k < 4 → ps k < 128) ∧ itr T 128 (e 0) = e (ps 0) ^^^ e (ps 1) ^^^ e (ps 2) ^^^ e (ps 3)) := ⟨hT, hp, hm⟩
  have HP : Hid (gp ≠ g ∧ ∀ k, k < 4 → w.cell? ⟨gp, k, none⟩ = some (.int .i64 (ps k : Nat))) := ⟨hg, hP⟩
  have HCap : Hid (n ≤ cap) := by obtain ⟨cur, _, q, _⟩ := hR; exact q
  have HS0 : Hid (RdO T w w g cap n c0 (n - 128)) := ⟨c0, ⟨hR, On.refl _ _⟩, rfl, fun j h1 h2 => by omega⟩
  clear hT hp hm hg hP hR
  have hw1 : IntKind.i64.wrap ((n : Int) - 1) = ((127 + (n - 128) : Nat) : Int) := by rw [IntKind.wrap_i64]; omega
  have g2 : (128 : Int) ≤ (n : Int) := by omega
  have g3 : (128 : Int) ≤ (cap : Int) := by have := HCap.out; omega
  have g4 : (n : Int) ≤ (cap : Int) := by have := HCap.out; omega
  go_enter Try.func28, Try.ntmps28
  go_upto_region 2 with fail
  clear hw1
  go_loopw [5] (fun vi wr => ∃ m : Nat, vi = .int .i64 ((127 + m : Nat) : Int) ∧ m ≤ n - 128 ∧ Hid (RdO T w wr g cap n c0 m)) (fun vi _ => (intOf vi).toNat)
  case atStart => exact ⟨n - 128, rfl, Nat.le_refl _, HS0⟩
  case round =>
    obtain ⟨m, rfl, hmn, HR⟩ := hrel
    clear HS0
    by_cases hlt : 0 < m
    · obtain ⟨i, hi⟩ : ∃ i, i = 127 + m := ⟨_, rfl⟩
      rw [← hi]
      obtain ⟨c, HI, hev, hz⟩ := HR.out.ex
      have HC : Hid (RdI w wr g cap n c ∧ ev T c n = ev T c0 n ∧ ∀ j, i < j → j < n → c j = false) := ⟨HI, hev, by rw [hi]; exact hz⟩
      have i0 : (0 : Int) ≤ (i : Int) := by omega
      have i1 : (i : Int) < (n : Int) := by omega
      have i2 : (128 : Int) ≤ (i : Int) := by omega
      have HM : Hid (i = 127 + m) := hi
      have hi1 : IntKind.i64.wrap ((i : Int) - 1) = ((127 + (m - 1) : Nat) : Int) := by rw [IntKind.wrap_i64]; omega
      have hi2 : IntKind.i64.wrap ((i : Int) - 128) = ((m - 1 : Nat) : Int) := by rw [IntKind.wrap_i64]; omega
      have c1 : wr.cell? ⟨g, i, none⟩ = some (.int .i64 (cb (c i))) := HI.row.cell i (by omega)
      have f1 : wr.frozen? ⟨g, i, none⟩ = false := HI.row.frozen i
      clear HR HI hev hz hi
      by_cases hci : c i
      · rw [hci] at c1
        have c1' : wr.cell? ⟨g, i, none⟩ = some (.int .i64 1) := c1
        clear c1
        go_upto_region 7 with fail
        have HK0 : Hid (RdI w (wr.setCell ⟨g, i, none⟩ (.int .i64 0)) g cap n (rds ps c i 0)) := by
          refine ⟨HC.out.1.row.set i 0 ?_ (fun j hj => ?_), HC.out.1.on.setCell i _⟩
          · show (0 : Int) = cb (Fld.flip c i i)
            simp [Fld.flip, hci, cb]
          · show Fld.flip c i j = c j
            simp [Fld.flip, hj]
        obtain ⟨M1, hM1⟩ : ∃ M, M = m - 1 := ⟨_, rfl⟩
        have HM1 : Hid (M1 = m - 1) := hM1
        rw [← hM1] at hi1 hi2
        clear hM1
        generalize wr.setCell ⟨g, i, none⟩ (.int .i64 0) = wA at HK0 ⊢
        clear c1' f1
        go_loopw [6] (fun vk wx => ∃ k : Nat, vk = .int .i64 (k : Nat) ∧ k ≤ 4 ∧ Hid (RdI w wx g cap n (rds ps c i k))) (fun vk _ => 4 - (intOf vk).toNat)
        case atStart => exact ⟨0, rfl, by omega, HK0⟩
        case round =>
          obtain ⟨k, rfl, hk, HK⟩ := hrel
          clear HK0
          by_cases hkl : k < 4
          · have k0 : (0 : Int) ≤ (k : Int) := by omega
            have k1 : (k : Int) < 4 := by omega
            have hpk := HT.out.2.1 k hkl
            obtain ⟨PK, hPK⟩ : ∃ q, q = ps k := ⟨_, rfl⟩
            obtain ⟨s, hs⟩ : ∃ q : Nat, q = M1 + PK := ⟨_, rfl⟩
            have HSs : Hid (s = i - 128 + ps k) := by show s = i - 128 + ps k; have q1 := HM.out; have q2 := HM1.out; omega
            have hsn : s < n := by have q1 := HM.out; have q2 := HM1.out; omega
            have hs1 : IntKind.i64.wrap ((M1 : Int) + (PK : Int)) = (s : Nat) := by rw [IntKind.wrap_i64]; omega
            have s0 : (0 : Int) ≤ (s : Int) := by omega
            have s1 : (s : Int) < (n : Int) := by omega
            obtain ⟨X, HX⟩ : ∃ X : Int, Hid (X = cb (rds ps c i k s)) := ⟨_, rfl⟩
            have e0 : wr.cell? ⟨g, s, none⟩ = some (.int .i64 X) := by rw [HX.out]; exact HK.out.row.cell s hsn
            have e1 : wr.cell? ⟨gp, k, none⟩ = some (.int .i64 (PK : Nat)) := by
              rw [World.cell?_of_block (w := w) (HK.out.on.block gp HP.out.1), hPK]
              exact HP.out.2 k hkl
            have f0 : wr.frozen? ⟨g, s, none⟩ = false := HK.out.row.frozen s
            obtain ⟨Z, hZ⟩ : ∃ Z, bits .xor .i64 X 1 = Z := ⟨_, rfl⟩
            have HK5 : Hid (RdI w (wr.setCell ⟨g, s, none⟩ (.int .i64 Z)) g cap n (rds ps c i (k + 1))) := by
              refine ⟨HK.out.row.set s Z ?_ (fun j hj => ?_), HK.out.on.setCell s _⟩
              · rw [← hZ, HX.out, xor_one]
                show _ = cb (Fld.flip (rds ps c i k) (i - 128 + ps k) s)
                rw [Fld.flip, if_pos HSs.out]
              · show Fld.flip (rds ps c i k) (i - 128 + ps k) j = _
                rw [Fld.flip, if_neg (by rw [← HSs.out]; exact hj)]
            clear hs hPK hpk hsn
            go_upto_region 9 with fail
            go_region
            go_wp2
            exact ⟨⟨k + 1, by simp, by omega, HK5.out.row.same rfl, HK5.out.on.drew⟩, by simp [intOf]; omega⟩
          · have k1 : ¬ (k : Int) < 4 := by omega
            have HE : Hid (RdO T w wr g cap n c0 M1) := by
              have q := HK.out
              rw [show k = 4 by omega, rds_red ps c i hci] at q
              have t1 := HM.out
              have t2 := HM1.out
              have hp := HT.out.2.1
              refine ⟨_, q, (ev_red HT.out.1 (hp 0 (by decide)) (hp 1 (by decide)) (hp 2 (by decide)) (hp 3 (by decide)) HT.out.2.2 c i n (by omega) (by omega)).trans HC.out.2.1, fun j h1 h2 => ?_⟩
              by_cases hj : j = i
              · rw [hj]; exact red_at (hp 0 (by decide)) (hp 1 (by decide)) (hp 2 (by decide)) (hp 3 (by decide)) c i (by omega)
              · rw [red_far (hp 0 (by decide)) (hp 1 (by decide)) (hp 2 (by decide)) (hp 3 (by decide)) c i j (by omega) (by omega)]
                exact HC.out.2.2 j (by omega) h2
            clear HK HC
            go_wp2
            have t1 := HM.out
            have t2 := HM1.out
            exact ⟨⟨M1, rfl, by omega, HE⟩, by simp [intOf]; omega⟩
      · have hci' : c i = false := by simpa using hci
        rw [hci'] at c1
        have c1' : wr.cell? ⟨g, i, none⟩ = some (.int .i64 0) := c1
        have HE : Hid (RdO T w wr g cap n c0 (m - 1)) := by
          have t1 := HM.out
          refine ⟨c, HC.out.1, HC.out.2.1, fun j h1 h2 => ?_⟩
          by_cases hj : j = i
          · rw [hj]; exact hci'
          · exact HC.out.2.2 j (by omega) h2
        clear c1 HC
        go_wp2
        have t1 := HM.out
        exact ⟨⟨m - 1, rfl, by omega, HE⟩, by simp [intOf]; omega⟩
    · obtain rfl : m = 0 := by omega
      obtain ⟨c, HI, hev, hz⟩ := HR.out.ex
      have HE : Hid ((∃ c, RowC wr g cap n c ∧ ∀ j, j < 128 → c j = (ev T c0 n).getLsbD j) ∧ On w wr g) := by
        refine ⟨⟨c, HI.row, fun j hj => ?_⟩, HI.on⟩
        have q := ev_block HT.out.1 (ofC c) c (n - 128) (fun j hj => (ofC_at c j hj).symm) (fun j h1 h2 => hz j (by omega) (by omega))
        rw [show 128 + (n - 128) = n by omega] at q
        rw [← hev, q, ofC_at c j hj]
      clear HR HI hev hz
      go_wp2
      go_ret
      exact ⟨rfl, HE.out.1, HE.out.2⟩
end Go.Proofs.Ytnkpngpjlkkkbaa
