import Derived.Test.YtinmhgackihakaaDoorPart09
import Derived.Laws.BitsAllLaws
import Derived.Laws.BytesString
import Derived.Laws.BytesArg
import Derived.Maps.OwnSet
namespace Go.Proofs.YtinmhgackihakaaDoor
open Go.RowKit
set_option linter.unusedVariables false
set_option linter.unusedSimpArgs false
set_option maxRecDepth 100000
def Zsh : List Value := [.int .u16 0, .int .i64 0, .int .i64 0, .int .i64 0, .slice none 0 0]
theorem hi78 : (Tryd.prog.info? 72).map (·.size) = some 5 := by kernel_rfl
/-- The indices of shares. -/
def ixsL (R : Nat → List F) (n : Nat) : List F := (List.range n).map fun i => (R i).getD 3 0
/-- A row of bytes of which the first i are filled in. -/
theorem cd_step {n i : Nat} {G : Nat → F} {cu : List Value} (h : Cd n (fun q => q < i) G cu) (hi : i < n) : Cd n (fun q => q < i + 1) G (cu.set i (.int .u8 ((G i).1 : Nat))) := h.next hi (fun q hq => by omega)
set_option maxHeartbeats 3200000 in
/-- indices. -/
theorem indices_ok (g o n cp : Nat) (R : Nat → List F) (q c : Nat → Nat) (w : World) (hn : Hid (n ≤ 1000)) (h : Hid (ShI w g o n R q c)) :
    Calls Tryd.prog 52 #[.slice (some ⟨g, o, none⟩) n cp] w fun e w' => Hid (∃ b, e = .returned (.slice (some ⟨b, 0, none⟩) n n) ∧ w.heap.size ≤ b ∧ Bx w' b 5 (fc (ixsL R n)) ∧ Below w.heap.size w w') := by
  obtain ⟨M, HMM⟩ : ∃ M, Hid (w.heap.size = M) := ⟨_, rfl⟩
  obtain ⟨i0, hi0, hz0, hz1, hz2⟩ := info_parts Tryd.infoB
  have HI0 : Hid (Tryd.prog.info? 5 = some i0 ∧ i0.zero = some (.int .u8 0) ∧ i0.size = 1 ∧ i0.bytes = 1) := ⟨hi0, hz0, hz1, hz2⟩
  have HMF : Hid (i0.bytes * n ≤ 281474976710656 ∧ n ≤ maxLen) := made_few i0.bytes n n 1 (by decide) HI0.out.2.2.2 (by have := hn.out; omega)
  clear hi0 hz0 hz1 hz2
  obtain ⟨G, HG⟩ : ∃ G : Nat → F, Hid ((fun i => (R i).getD 3 0) = G) := ⟨_, rfl⟩
  have hix : ixsL R n = (List.range n).map G := by rw [← HG.out]; rfl
  rw [hix, HMM.out]
  clear hix
  go_enter Tryd.func52, Tryd.ntmps52
  go_upto_region 2 with (first
    | (at_make; go_must (refine wpList_make_full _ rfl _ _ 23 rfl w.heap.size 5 i0 (.int .u8 0) 1 Tryd.underlying23 HI0.out.1 HI0.out.2.1 HI0.out.2.2.1 .i64 .i64 (n : Nat) (n : Nat) n rfl rfl rfl rfl HMF.out.1 HMF.out.2 (Nat.le_refl _) ?_; intro w6 hown hgrow; have hlo : Below w.heap.size w w6 := ⟨hgrow.os, hgrow.tape, hgrow.output, hgrow.size, fun c hc => hgrow.block c hc (by simp)⟩; have HX6 : Hid ((∃ cu, Bx w6 M 5 cu ∧ Cd n (fun q => q < 0) G cu) ∧ Below M w w6) := (by rw [← HMM.out]; exact ⟨⟨_, (own_full1 hown).1, by rw [show (Value.int .u8 0).cells = #[.int .u8 0] from rfl, Nat.mul_one, toList_madeCells_one]; exact ⟨(Cd.zero n G).1, fun i _ hd => absurd hd (Nat.not_lt_zero i), (Cd.zero n G).2.2⟩⟩, hlo⟩); clear hown hgrow hlo))
    | fail)
  rw [HMM.out]
  go_wp2
  go_loopw [11] (fun vi wr => ∃ i : Nat, i ≤ n ∧ vi = .int .i64 (i : Nat) ∧ Hid ((∃ cu, Bx wr M 5 cu ∧ Cd n (fun q => q < i) G cu) ∧ Below M w wr)) (fun vi _ => n - (intOf vi).toNat)
  case atStart => exact ⟨0, by omega, rfl, HX6.out⟩
  case round =>
    clear HX6
    obtain ⟨i, hi, rfl, HI⟩ := hrel
    rename World => wo
    by_cases hlt : i < n
    · have HLT : Hid (i < n) := hlt
      have g0 : (0 : Int) ≤ (i : Int) := by omega
      have g1 : (i : Int) < (n : Int) := by omega
      have gi : IntKind.i64.wrap ((i : Int) + 1) = ((i + 1 : Nat) : Int) := by rw [IntKind.wrap_i64]; have := hn.out; omega
      obtain ⟨LL, HLL⟩ : ∃ z : List Value, Hid (shV (R i) (q i) (c i) = z) := ⟨_, rfl⟩
      have HL5 : Hid (LL.length = 5 ∧ ∀ v ∈ LL, v.oneCell' = true) := by rw [← HLL.out]; exact ⟨shV_len _ _ _, shV_one _ _ _⟩
      have HRG : Hid (wo.rangeAt g (o + i * 5) LL) := by
        rw [← HLL.out, Nat.mul_comm i 5]
        exact (h.out.below (by rw [HMM.out]; exact HI.out.2)).cells i hlt
      have hiL : (Tryd.prog.info? 72).map (·.size) = some LL.length := by rw [HL5.out.1]; exact hi78
      obtain ⟨⟨cu, hcu, hC⟩, hbl⟩ := HI.out
      have HCU : Hid (Bx wo M 5 cu ∧ Cd n (fun q => q < i) G cu ∧ Below M w wo) := ⟨hcu, hC, hbl⟩
      obtain ⟨P, HP⟩ : ∃ z, Hid (wo.heap.size = z) := ⟨_, rfl⟩
      clear HI hcu hC hbl hlt hi
      go_upto_region 5 with (first
        | (refine wpList_load_mid (by rfl) 72 (.tmp 14) (by rfl) g (o + i * 5) (by rfl) LL _ HRG.out Tryd.underlying72 rfl hiL ?_)
        | (refine wpList_store_bx (by rfl) 72 (.tmp 5) (.tmp 15) (by rfl) Zsh LL wo.heap.size (by rfl) (by rfl) (Bx.new wo 72 Zsh) (by rw [HL5.out.1]; rfl) hiL HL5.out.2 ?_; intro w5 h5 h6; have H5 : Hid (Bx w5 P 72 LL ∧ Bx w5 M 5 cu ∧ Below M w w5 ∧ M < P) := (by
            have hb : Below wo.heap.size wo w5 := ((Below.refl _ _).alloc (Nat.le_refl _) _).trans (below_gb h6 (by simp) (Nat.le_refl _))
            exact ⟨by rw [← HP.out]; exact h5, HCU.out.1.below hb, HCU.out.2.2.trans (hb.mono (Nat.le_of_lt HCU.out.1.lt)), by rw [← HP.out]; exact HCU.out.1.lt⟩); clear h5 h6)
        | fail)
      rw [HP.out]
      obtain ⟨X, HX⟩ : ∃ X : F, Hid (G i = X) := ⟨_, rfl⟩
      have k2 : w5.cell? ⟨P, 2, none⟩ = some (.int .i64 (X.1 : Nat)) := H5.out.1.cell 2 _ (by rw [← HLL.out, ← HX.out, ← HG.out]; rfl)
      have x1 : IntKind.u8.wrap ((X.1 : Nat) : Int) = ((X.1 : Nat) : Int) := wraps_u8 _ (by omega) (by have := X.2; omega)
      obtain ⟨y, hy⟩ := HCU.out.2.1.2.2 i HLT.out
      have c1 : w5.cell? ⟨M, i, none⟩ = some (.int .u8 y) := H5.out.2.1.cell i _ hy
      have f1 : w5.frozen? ⟨M, i, none⟩ = false := H5.out.2.1.frozen i
      have HN : Hid ((∃ cu, Bx (w5.setCell ⟨M, i, none⟩ (.int .u8 (X.1 : Nat))) M 5 cu ∧ Cd n (fun q => q < i + 1) G cu) ∧ Below M w (w5.setCell ⟨M, i, none⟩ (.int .u8 (X.1 : Nat)))) := ⟨⟨_, H5.out.2.1.set i _, by rw [← HX.out]; exact cd_step HCU.out.2.1 HLT.out⟩, H5.out.2.2.1.setCell (Nat.le_refl _) _⟩
      clear HRG HCU hy
      go_wp2
      go_roundw
      case rel => exact ⟨i + 1, by have := HLT.out; omega, by go_num, HN.out⟩
      case measure => simp [intOf]; have := HLT.out; omega
    · have hin : i = n := by omega
      subst hin
      have g1 : ¬ (i : Int) < (i : Int) := by omega
      obtain ⟨⟨cu, hcu, hC⟩, hbl⟩ := HI.out
      have HF : Hid (Bx wo M 5 (fc ((List.range i).map G)) ∧ Below M w wo) := ⟨by rw [← hC.all (fun q hq => hq)]; exact hcu, hbl⟩
      clear HI hcu hC hbl
      go_wp2
      go_ret
      exact ⟨M, rfl, Nat.le_refl _, HF.out.1, HF.out.2⟩
/-- One value of each share. -/
def colL (R : Nat → List F) (n v : Nat) : List F := (List.range n).map fun i => (R i).getD (5 + v) 0
set_option maxHeartbeats 3200000 in
/-- column. -/
theorem column_ok (g o n cp v s : Nat) (R : Nat → List F) (q c : Nat → Nat) (w : World) (hn : Hid (n ≤ 1000)) (h : Hid (ShI w g o n R q c)) (hs : Hid (v < s + 4 ∧ s ≤ 64 ∧ ∀ i, i < n → ((R i).getD 4 0).1 = s)) :
    Calls Tryd.prog 54 #[.slice (some ⟨g, o, none⟩) n cp, .int .i64 (v : Nat)] w fun e w' => Hid (∃ b, e = .returned (.slice (some ⟨b, 0, none⟩) n n) ∧ w.heap.size ≤ b ∧ Bx w' b 5 (fc (colL R n v)) ∧ Below w.heap.size w w') := by
  obtain ⟨M, HMM⟩ : ∃ M, Hid (w.heap.size = M) := ⟨_, rfl⟩
  obtain ⟨i0, hi0, hz0, hz1, hz2⟩ := info_parts Tryd.infoB
  have HI0 : Hid (Tryd.prog.info? 5 = some i0 ∧ i0.zero = some (.int .u8 0) ∧ i0.size = 1 ∧ i0.bytes = 1) := ⟨hi0, hz0, hz1, hz2⟩
  have HMF : Hid (i0.bytes * n ≤ 281474976710656 ∧ n ≤ maxLen) := made_few i0.bytes n n 1 (by decide) HI0.out.2.2.2 (by have := hn.out; omega)
  clear hi0 hz0 hz1 hz2
  obtain ⟨G, HG⟩ : ∃ G : Nat → F, Hid ((fun i => (R i).getD (5 + v) 0) = G) := ⟨_, rfl⟩
  have hix : colL R n v = (List.range n).map G := by rw [← HG.out]; rfl
  rw [hix, HMM.out]
  clear hix
  go_enter Tryd.func54, Tryd.ntmps54
  go_upto_region 2 with (first
    | (at_make; go_must (refine wpList_make_full _ rfl _ _ 23 rfl w.heap.size 5 i0 (.int .u8 0) 1 Tryd.underlying23 HI0.out.1 HI0.out.2.1 HI0.out.2.2.1 .i64 .i64 (n : Nat) (n : Nat) n rfl rfl rfl rfl HMF.out.1 HMF.out.2 (Nat.le_refl _) ?_; intro w6 hown hgrow; have hlo : Below w.heap.size w w6 := ⟨hgrow.os, hgrow.tape, hgrow.output, hgrow.size, fun c hc => hgrow.block c hc (by simp)⟩; have HX6 : Hid ((∃ cu, Bx w6 M 5 cu ∧ Cd n (fun q => q < 0) G cu) ∧ Below M w w6) := (by rw [← HMM.out]; exact ⟨⟨_, (own_full1 hown).1, by rw [show (Value.int .u8 0).cells = #[.int .u8 0] from rfl, Nat.mul_one, toList_madeCells_one]; exact ⟨(Cd.zero n G).1, fun i _ hd => absurd hd (Nat.not_lt_zero i), (Cd.zero n G).2.2⟩⟩, hlo⟩); clear hown hgrow hlo))
    | fail)
  rw [HMM.out]
  go_wp2
  go_loopw [13] (fun vi wr => ∃ i : Nat, i ≤ n ∧ vi = .int .i64 (i : Nat) ∧ Hid ((∃ cu, Bx wr M 5 cu ∧ Cd n (fun q => q < i) G cu) ∧ Below M w wr)) (fun vi _ => n - (intOf vi).toNat)
  case atStart => exact ⟨0, by omega, rfl, HX6.out⟩
  case round =>
    clear HX6
    obtain ⟨i, hi, rfl, HI⟩ := hrel
    rename World => wo
    by_cases hlt : i < n
    · have HLT : Hid (i < n) := hlt
      have g0 : (0 : Int) ≤ (i : Int) := by omega
      have g1 : (i : Int) < (n : Int) := by omega
      have gi : IntKind.i64.wrap ((i : Int) + 1) = ((i + 1 : Nat) : Int) := by rw [IntKind.wrap_i64]; have := hn.out; omega
      obtain ⟨LL, HLL⟩ : ∃ z : List Value, Hid (shV (R i) (q i) (c i) = z) := ⟨_, rfl⟩
      have HL5 : Hid (LL.length = 5 ∧ ∀ v ∈ LL, v.oneCell' = true) := by rw [← HLL.out]; exact ⟨shV_len _ _ _, shV_one _ _ _⟩
      have HRG : Hid (wo.rangeAt g (o + i * 5) LL) := by
        rw [← HLL.out, Nat.mul_comm i 5]
        exact (h.out.below (by rw [HMM.out]; exact HI.out.2)).cells i hlt
      have hiL : (Tryd.prog.info? 72).map (·.size) = some LL.length := by rw [HL5.out.1]; exact hi78
      obtain ⟨⟨cu, hcu, hC⟩, hbl⟩ := HI.out
      have HCU : Hid (Bx wo M 5 cu ∧ Cd n (fun q => q < i) G cu ∧ Below M w wo) := ⟨hcu, hC, hbl⟩
      obtain ⟨P, HP⟩ : ∃ z, Hid (wo.heap.size = z) := ⟨_, rfl⟩
      clear HI hcu hC hbl hlt hi
      go_upto_region 5 with (first
        | (refine wpList_load_mid (by rfl) 72 (.tmp 16) (by rfl) g (o + i * 5) (by rfl) LL _ HRG.out Tryd.underlying72 rfl hiL ?_)
        | (refine wpList_store_bx (by rfl) 72 (.tmp 7) (.tmp 17) (by rfl) Zsh LL wo.heap.size (by rfl) (by rfl) (Bx.new wo 72 Zsh) (by rw [HL5.out.1]; rfl) hiL HL5.out.2 ?_; intro w5 h5 h6; have H5 : Hid (Bx w5 P 72 LL ∧ Bx w5 M 5 cu ∧ Below M w w5 ∧ M < P) := (by
            have hb : Below wo.heap.size wo w5 := ((Below.refl _ _).alloc (Nat.le_refl _) _).trans (below_gb h6 (by simp) (Nat.le_refl _))
            exact ⟨by rw [← HP.out]; exact h5, HCU.out.1.below hb, HCU.out.2.2.trans (hb.mono (Nat.le_of_lt HCU.out.1.lt)), by rw [← HP.out]; exact HCU.out.1.lt⟩); clear h5 h6)
        | fail)
      rw [HP.out]
      obtain ⟨X, HX⟩ : ∃ X : F, Hid (G i = X) := ⟨_, rfl⟩
      have k2 : w5.cell? ⟨P, 4, none⟩ = some (.slice (some ⟨q i, 5, none⟩) (s + 4) (c i - 5)) := H5.out.1.cell 4 _ (by rw [← HLL.out]; show some (Value.slice (some ⟨q i, 5, none⟩) (((R i).getD 4 0).1 + 4) (c i - 5)) = _; rw [hs.out.2.2 i HLT.out])
      have k3 : w5.cell? ⟨q i, 5 + v, none⟩ = some (.int .u8 (X.1 : Nat)) := by
        obtain ⟨r1, r2, r3, r4⟩ := h.out.row i HLT.out
        have hl := r2.2.2.2.1
        rw [hs.out.2.2 i HLT.out] at hl
        have hb : 5 + v < (R i).length := by unfold unc at hl; have := hs.out.1; omega
        rw [← HX.out, ← HG.out]
        exact (r1.below (by rw [HMM.out]; exact H5.out.2.2.1)).cell (5 + v) hb
      have v0 : (0 : Int) ≤ (v : Int) := by omega
      have v1 : (v : Int) < ((s + 4 : Nat) : Int) := by have := hs.out.1; omega
      obtain ⟨y, hy⟩ := HCU.out.2.1.2.2 i HLT.out
      have c1 : w5.cell? ⟨M, i, none⟩ = some (.int .u8 y) := H5.out.2.1.cell i _ hy
      have f1 : w5.frozen? ⟨M, i, none⟩ = false := H5.out.2.1.frozen i
      have HN : Hid ((∃ cu, Bx (w5.setCell ⟨M, i, none⟩ (.int .u8 (X.1 : Nat))) M 5 cu ∧ Cd n (fun q => q < i + 1) G cu) ∧ Below M w (w5.setCell ⟨M, i, none⟩ (.int .u8 (X.1 : Nat)))) := ⟨⟨_, H5.out.2.1.set i _, by rw [← HX.out]; exact cd_step HCU.out.2.1 HLT.out⟩, H5.out.2.2.1.setCell (Nat.le_refl _) _⟩
      clear HRG HCU hy
      go_wp2
      go_roundw
      case rel => exact ⟨i + 1, by have := HLT.out; omega, by go_num, HN.out⟩
      case measure => simp [intOf]; have := HLT.out; omega
    · have hin : i = n := by omega
      subst hin
      have g1 : ¬ (i : Int) < (i : Int) := by omega
      obtain ⟨⟨cu, hcu, hC⟩, hbl⟩ := HI.out
      have HF : Hid (Bx wo M 5 (fc ((List.range i).map G)) ∧ Below M w wo) := ⟨by rw [← hC.all (fun q hq => hq)]; exact hcu, hbl⟩
      clear HI hcu hC hbl
      go_wp2
      go_ret
      exact ⟨M, rfl, Nat.le_refl _, HF.out.1, HF.out.2⟩
end Go.Proofs.YtinmhgackihakaaDoor
namespace Go.Proofs.YtinmhgackihakaaDoor
open Go.RowKit
set_option linter.unusedVariables false
set_option linter.unusedSimpArgs false
set_option maxRecDepth 100000
theorem zi_inj {a b : List F} (h : zi a = zi b) : a = b := by
  have hl : a.length = b.length := by rw [← zi_len a, ← zi_len b, h]
  refine list_same hl.symm.symm fun q hq => ?_
  have z : (zi a).getD q 0 = (zi b).getD q 0 := by rw [h]
  rw [zi_getD a q (by omega), zi_getD b q hq] at z
  exact Fin.ext (by omega)
theorem zi_bytes (l : List F) : AllBytes (zi l) := fun i => by
  by_cases h : i < l.length
  · rw [zi_getD l i h]; have := (l.getD i 0).2; omega
  · rw [List.getD_eq_getElem?_getD, List.getElem?_eq_none (by rw [zi_len]; omega)]; simp
theorem differ_step (z a b : Int) (z0 : 0 ≤ z) (z1 : z < 256) (a0 : 0 ≤ a) (a1 : a < 256) (b0 : 0 ≤ b) (b1 : b < 256) :
    0 ≤ bits .or .u8 z (bits .xor .u8 a b) ∧ bits .or .u8 z (bits .xor .u8 a b) < 256 ∧ (bits .or .u8 z (bits .xor .u8 a b) = 0 ↔ z = 0 ∧ a = b) := by
  rw [u8_xor a b a0 a1 b0 b1]
  have hx : a.toNat ^^^ b.toNat < 2 ^ 8 := Nat.xor_lt_two_pow (by omega) (by omega)
  rw [u8_or _ _ z0 z1 (by omega) (by omega)]
  have ho : z.toNat ||| (a.toNat ^^^ b.toNat) < 2 ^ 8 := Nat.or_lt_two_pow (by omega) hx
  rw [Int.toNat_natCast]
  refine ⟨by omega, by omega, ?_⟩
  have e1 : (z.toNat ||| (a.toNat ^^^ b.toNat) = 0) ↔ (z.toNat = 0 ∧ a.toNat ^^^ b.toNat = 0) := Nat.or_eq_zero_iff
  have e2 : a.toNat ^^^ b.toNat = 0 ↔ a.toNat = b.toNat :=
    ⟨fun h => by have h2 : (a.toNat ^^^ b.toNat) ^^^ b.toNat = 0 ^^^ b.toNat := by rw [h]
                 rw [Nat.xor_assoc, Nat.xor_self, Nat.xor_zero, Nat.zero_xor] at h2
                 exact h2, fun h => by rw [h, Nat.xor_self]⟩
  rw [e2] at e1
  constructor
  · intro h
    have := e1.1 (by omega)
    omega
  · intro h
    have := e1.2 (by omega)
    omega

set_option maxHeartbeats 400000 in
theorem equal_core (b1 o1 b2 o2 c1 c2 n : Nat) (xs ys : List Int) (w : World) (hx : xs.length = n) (hy : ys.length = n) (hn : n ≤ 9223372036854775807) (ax : AllBytes xs) (ay : AllBytes ys)
    (h1 : ∀ i, i < n → w.cell? ⟨b1, o1 + i, none⟩ = some (.int .u8 (xs.getD i 0)))
    (h2 : ∀ i, i < n → w.cell? ⟨b2, o2 + i, none⟩ = some (.int .u8 (ys.getD i 0))) :
    Calls Tryd.prog 55 #[.slice (some ⟨b1, o1, none⟩) n c1, .slice (some ⟨b2, o2, none⟩) n c2] w fun e w' => e = .returned (.bool (decide (xs = ys))) ∧ ∃ m, w' = w.drewN m := by
  have HX : Hid (xs.length = n) := hx
  have HY : Hid (ys.length = n) := hy
  clear hx hy
  go_enter Tryd.func55, Tryd.ntmps55
  go_wp2
  go_loopw [5, 14] (fun d i wr => ∃ k : Nat, ∃ z : Int, k ≤ n ∧ i = .int .i64 k ∧ d = .int .u8 z ∧ Hid (0 ≤ z ∧ z < 256 ∧ (z = 0 ↔ ∀ j, j < k → xs.getD j 0 = ys.getD j 0)) ∧ ∃ m, wr = w.drewN m) (fun _ i _ => n - (intOf i).toNat)
  case atStart => exact ⟨0, 0, Nat.zero_le _, rfl, rfl, ⟨by omega, by omega, by simp⟩, 0, rfl⟩
  case round =>
    obtain ⟨k, z, hk, rfl, rfl, HE, m, rfl⟩ := hrel
    by_cases hlt : k < n
    · have g1 := h1 k hlt
      have g2 := h2 k hlt
      clear h1 h2
      go_wp2
      go_quiet (fail)
      go_wp2
      go_roundw
      case rel => 
        refine ⟨k + 1, _, by omega, by go_num, rfl, ?_, _, rfl⟩
        obtain ⟨z0, z1, ze⟩ := HE.out
        have hs := differ_step z (xs.getD k 0) (ys.getD k 0) z0 z1 (ax k).1 (ax k).2 (ay k).1 (ay k).2
        refine ⟨hs.1, hs.2.1, hs.2.2.trans ?_⟩
        rw [ze]
        constructor
        · rintro ⟨h, he⟩ j hj
          by_cases hjk : j < k
          · exact h j hjk
          · obtain rfl : j = k := by omega
            exact he
        · intro h
          exact ⟨fun j hj => h j (by omega), h k (by omega)⟩
      case measure => simp [intOf]; omega
    · go_wp2
      go_ret
      refine ⟨ret_bool ?_, _, rfl⟩
      obtain ⟨z0, z1, ze⟩ := HE.out
      have : z = 0 ↔ xs = ys := by
        rw [ze]
        exact ⟨fun h => ext_getD HX.out HY.out (fun j hj => h j (by omega)), fun h j _ => by rw [h]⟩
      by_cases hz : z = 0
      · simp [hz, this.1 hz]
      · have h2 : xs ≠ ys := fun h => hz (this.2 h)
        simp [hz, h2]

theorem equal_zero (a1 a2 : Option Addr) (c1 c2 : Nat) (w : World) :
    Calls Tryd.prog 55 #[.slice a1 0 c1, .slice a2 0 c2] w fun e w' => e = .returned (.bool true) ∧ ∃ m, w' = w.drewN m := by
  go_enter Tryd.func55, Tryd.ntmps55
  go_wp2
  go_loop [5, 14] (fun d i => d = .int .u8 0 ∧ i = .int .i64 0) (fun _ _ => 0)
  case atStart => exact ⟨rfl, rfl⟩
  case round =>
    obtain ⟨rfl, rfl⟩ := hrel
    go_wp2
    go_ret
    exact ⟨rfl, 0, rfl⟩

theorem equal_unlike (a1 a2 : Option Addr) (l1 l2 c1 c2 : Nat) (w : World) (h : l1 ≠ l2) :
    Calls Tryd.prog 55 #[.slice a1 l1 c1, .slice a2 l2 c2] w fun e w' => e = .returned (.bool false) ∧ ∃ m, w' = w.drewN m := by
  have hb : ((l1 : Int) != (l2 : Int)) = true := by rw [bne_iff_ne]; omega
  clear h
  go_enter Tryd.func55, Tryd.ntmps55
  go_wp2
  go_ret
  exact ⟨rfl, 0, rfl⟩

/-- digest.Equal. -/
theorem equal_any (v1 v2 : Value) (xs ys : List Int) (w : World) (ax : AllBytes xs) (ay : AllBytes ys) (h1 : View w v1 xs) (h2 : View w v2 ys) :
    Calls Tryd.prog 55 #[v1, v2] w fun e w' => e = .returned (.bool (decide (xs = ys))) ∧ ∃ m, w' = w.drewN m := by
  obtain ⟨a1, c1, rfl, hl1, hm1, _, k1⟩ := h1
  obtain ⟨a2, c2, rfl, hl2, hm2, _, k2⟩ := h2
  by_cases hl : xs.length = ys.length
  · rcases k1 with rfl | ⟨b1, o1, rfl, g1⟩
    · have : ys = [] := List.eq_nil_of_length_eq_zero (by simpa using hl.symm)
      subst this
      simpa using equal_zero a1 a2 c1 c2 w
    · rcases k2 with rfl | ⟨b2, o2, rfl, g2⟩
      · have : xs = [] := List.eq_nil_of_length_eq_zero (by simpa using hl)
        subst this
        simpa using equal_zero _ a2 c1 c2 w
      · rw [← hl]
        exact equal_core b1 o1 b2 o2 c1 c2 xs.length xs ys w rfl hl.symm (by unfold maxLen at hm1; omega) ax ay g1 (by rw [hl]; exact g2)
  · have hne : xs ≠ ys := fun h => hl (by rw [h])
    have hd : decide (xs = ys) = false := by simpa using hne
    rw [hd]
    exact equal_unlike a1 a2 _ _ c1 c2 w hl

/-- digest.Equal of two lists of bytes. -/
theorem dequal_ok (b1 o1 c1 b2 o2 c2 n : Nat) (x y : List F) (w : World) (hx : x.length = n) (hy : y.length = n) (hn : n ≤ 4000) (h1 : Rw w b1 o1 x) (h2 : Rw w b2 o2 y) : Calls Tryd.prog 55 #[.slice (some ⟨b1, o1, none⟩) n c1, .slice (some ⟨b2, o2, none⟩) n c2] w fun e w' => e = .returned (.bool (decide (x = y))) ∧ ∃ m, w' = w.drewN m := by
  have q := equal_core b1 o1 b2 o2 c1 c2 n (zi x) (zi y) w (by rw [zi_len, hx]) (by rw [zi_len, hy]) (by omega) (zi_bytes x) (zi_bytes y) (fun i hi => by rw [zi_getD x i (by omega)]; exact h1 i (by omega)) (fun i hi => by rw [zi_getD y i (by omega)]; exact h2 i (by omega))
  rw [show decide (zi x = zi y) = decide (x = y) from decide_eq_decide.2 ⟨zi_inj, fun h => by rw [h]⟩] at q
  exact q
theorem conv_f (w : World) (b o n c : Nat) (l : List F) (hn : l.length = n) (h : Rw w b o l) :
    (convert 23 9 (.slice (some ⟨b, o, none⟩) n c)).run Tryd.prog w = .ok (.string (strOfNums (zi l))) w :=
  run_convert_bytes_arg w 23 5 Tryd.underlying23 Tryd.underlying5 b o n c (zi l) (by rw [zi_len]; exact hn) (fun i hi => by rw [zi_getD l i (by omega)]; exact h i (by omega)) 9 Tryd.underlying9
theorem toList_beqF (a b : ByteArray) : (a.toList == b.toList) = decide (a = b) := by
  by_cases h : a = b
  · subst h; simp
  · rw [decide_eq_false h]
    simp only [beq_eq_false_iff_ne, ne_eq]
    intro e
    apply h
    have e2 : a.data.toList = b.data.toList := by simpa [Lib.toList_data] using e
    cases a; cases b
    simp at e2
    rw [e2]
theorem strOf_list (zs : List Int) : (strOfNums zs).data.toList = zs.map (fun n => UInt8.ofNat n.toNat) := rfl
theorem str_inj {a b : List F} (h : strOfNums (zi a) = strOfNums (zi b)) : a = b := by
  have e := congrArg (fun s : ByteArray => s.data.toList) h
  simp only [strOf_list] at e
  unfold zi at e
  rw [List.map_map, List.map_map] at e
  have hl : a.length = b.length := by simpa using congrArg List.length e
  refine list_same hl fun q hq => ?_
  have z := congrArg (fun l => l[q]?) e
  simp only [List.getElem?_map, List.getElem?_eq_getElem (show q < a.length by omega), List.getElem?_eq_getElem (show q < b.length by omega), Option.map_some, Option.some.injEq, Function.comp] at z
  rw [List.getD_eq_getElem?_getD, List.getD_eq_getElem?_getD, List.getElem?_eq_getElem (show q < a.length by omega), List.getElem?_eq_getElem (show q < b.length by omega)]
  simp only [Option.getD_some]
  have z2 := congrArg UInt8.toNat z
  have ha := (a[q]'(by omega)).2
  have hb := (b[q]'(by omega)).2
  simp at z2
  exact Fin.ext (by omega)
/-- bytes.Equal. -/
theorem bequal_ok (b1 o1 n1 c1 b2 o2 n2 c2 : Nat) (x y : List F) (w : World) (hx : x.length = n1) (hy : y.length = n2) (h1 : Rw w b1 o1 x) (h2 : Rw w b2 o2 y) : Calls Tryd.prog 50 #[.slice (some ⟨b1, o1, none⟩) n1 c1, .slice (some ⟨b2, o2, none⟩) n2 c2] w fun e w' => e = .returned (.bool (decide (x = y))) ∧ w' = w := by
  have cv1 := conv_f w b1 o1 n1 c1 x hx h1
  have cv2 := conv_f w b2 o2 n2 c2 y hy h2
  have HE : Hid (((strOfNums (zi x)).toList == (strOfNums (zi y)).toList) = decide (x = y)) := by
    show _ = _
    rw [toList_beqF]
    by_cases h : x = y
    · rw [h]; simp
    · rw [decide_eq_false h, decide_eq_false (fun e => h (str_inj e))]
  clear hx hy
  go_enter Tryd.func50, Tryd.ntmps50
  go_wp2
  go_ret
  exact ⟨ret_bool HE.out, rfl⟩
end Go.Proofs.YtinmhgackihakaaDoor
namespace Go.Proofs.YtinmhgackihakaaDoor
open Go.RowKit Go.Maps
set_option linter.unusedVariables false
set_option linter.unusedSimpArgs false
set_option maxRecDepth 100000
/-- Every value is held as it is. -/
def Rg (v : Value) : Option (DataW Value × List MemPlace) := some (.held v, [])
theorem key3 : Keyed Tryd.prog 3 := int_keyed Tryd.underlying3
theorem zero78 (w : World) : (zeroValue 72).run Tryd.prog w = .ok (.agg Zsh.toArray) w := by kernel_rfl
theorem key3_of (j : Nat) (h : j < 1000) : keyOf Tryd.prog 3 (.int .i64 (j : Nat)) = some (.int .i64 (j : Nat)) := keyOf_int_mk Tryd.underlying3 (WalkArith.wf_i64 (by omega))
/-- The map's block: what it holds at each number. -/
def MpI (u : World) (b k : Nat) (f : Nat → Option (List Value)) : Prop := ∃ D : DataW Value, u.ownsMap Tryd.prog 3 Rg b k D ∧ IsMap D ∧ ∀ j, j < 1000 → Maps.has D (.int .i64 (j : Nat)) = (f j).isSome ∧ D.atKey (.int .i64 (j : Nat)) (.held (.agg Zsh.toArray)) = .held (.agg ((f j).getD Zsh).toArray)
theorem MpI.new (w : World) : MpI (w.alloc (.map #[] 0)) w.heap.size 0 (fun _ => none) :=
  ⟨.map [], World.ownsMap_made _ _ _ _, ⟨[], rfl⟩, fun j _ => ⟨rfl, rfl⟩⟩
theorem MpI.kept {u v : World} {b k : Nat} {f : Nat → Option (List Value)} {r : Option Nat} (h : MpI u b k f) (hg : u.grownBy v r) (hne : some b ≠ r) : MpI v b k f := by
  obtain ⟨D, h1, h2, h3⟩ := h
  exact ⟨D, h1.kept hg hne, h2, h3⟩
theorem MpI.lt {u : World} {b k : Nat} {f : Nat → Option (List Value)} (h : MpI u b k f) : b < u.heap.size := by
  obtain ⟨D, h1, _⟩ := h
  exact h1.lt
theorem MpI.below {u v : World} {b k : Nat} {f : Nat → Option (List Value)} (h : MpI u b k f) (hb : Below u.heap.size u v) : MpI v b k f :=
  h.kept (r := none) ⟨hb.os, hb.tape, hb.output, hb.size, fun g hg _ => hb.block g hg⟩ (by simp)
theorem MpI.look {u : World} {b k : Nat} {f : Nat → Option (List Value)} (h : MpI u b k f) (j : Nat) (hj : j < 1000) : (Instr.lookup 92 (.map (some b)) (.int .i64 (j : Nat)) true).run Tryd.prog u = .ok (.tuple #[.agg ((f j).getD Zsh).toArray, .bool (f j).isSome]) u := by
  obtain ⟨D, h1, h2, h3⟩ := h
  obtain ⟨v, ps, hr, hv⟩ := h1.look_ok key3 Tryd.underlying92 (zero78 u) (zd := .held (.agg Zsh.toArray)) (zp := []) rfl (key3_of j hj)
  obtain ⟨q1, q2⟩ := h3 j hj
  rw [q1] at hr
  rw [q2] at hv
  unfold Rg at hv
  injection hv with hv
  injection hv with hv
  injection hv with hv
  rw [hr, hv]
/-- The map, one more entry. -/
def putF (f : Nat → Option (List Value)) (j : Nat) (L : List Value) : Nat → Option (List Value) := fun i => if i = j then some L else f i
theorem MpI.put {w' : World} {b k : Nat} {f : Nat → Option (List Value)} {j : Nat} {L : List Value} {D : DataW Value} (hj : j < 1000) (h2 : IsMap D) (h3 : ∀ j, j < 1000 → Maps.has D (.int .i64 (j : Nat)) = (f j).isSome ∧ D.atKey (.int .i64 (j : Nat)) (.held (.agg Zsh.toArray)) = .held (.agg ((f j).getD Zsh).toArray))
    (ho : w'.ownsMap Tryd.prog 3 Rg b (k + 1) (D.put (.int .i64 (j : Nat)) (.held (.agg L.toArray)))) : MpI w' b (k + 1) (putF f j L) := by
  refine ⟨_, ho, ?_, fun i hi => ?_⟩
  · exact ho.isMap
  · unfold putF
    by_cases e : i = j
    · subst e
      rw [if_pos rfl]
      exact ⟨has_put_same h2 (key3.key (key3_of i hi)) _, by rw [atKey_put_same h2 (key3.key (key3_of i hi))]; rfl⟩
    · rw [if_neg e]
      have hne : (Lit.int .i64 (i : Nat)) ≠ (Lit.int .i64 (j : Nat)) := fun q => e (by injection q with _ q; omega)
      rw [has_put_other hne, atKey_put_other hne]
      exact h3 i hi
theorem wpList_put {u : World} {ops : Array Oper} {rest : List Oper} {o : Oper} {a : Act} {Q : Exit → Act → World → Prop} (hg : o.guard = none) (m x v : Operand) (hop : o.op = Op.mapUpdate 92 m x v) {b k : Nat} {f : Nat → Option (List Value)} (h : MpI u b k f) (hk : k < 1000000)
    (hm : a.eval m = .map (some b)) (j : Nat) (hj : j < 1000) (L : List Value) (hx : a.eval x = .int .i64 (j : Nat)) (hv : a.eval v = .agg L.toArray)
    (hK : ∀ w', MpI w' b (k + 1) (putF f j L) → u.grownBy w' (some b) → wpList Tryd.prog ops Q rest (a.put o.dst undef) w') : wpList Tryd.prog ops Q (o :: rest) a u := by
  obtain ⟨D, h1, h2, h3⟩ := h
  refine wpList_mapUpdate_own _ hg m x v 92 hop 3 72 key3 Tryd.underlying92 Rg b k D hm h1 (by unfold maxLen; omega) _ _ _ hx hv (key3_of j hj) (.held (.agg L.toArray)) [] rfl fun w' ho hgr => ?_
  exact hK w' (MpI.put hj h2 h3 ho) hgr
/-- The last of the first n shares that has index j. -/
def lastIx (R : Nat → List F) (j : Nat) : Nat → Option Nat
  | 0 => none
  | i + 1 => if ((R i).getD 3 0).1 = j then some i else lastIx R j i
theorem lastIx_some (R : Nat → List F) (j : Nat) : ∀ n k, lastIx R j n = some k → k < n ∧ ((R k).getD 3 0).1 = j
  | 0, k, h => by cases h
  | n + 1, k, h => by
    unfold lastIx at h
    split at h
    · injection h with h
      subst h
      exact ⟨Nat.lt_succ_self _, by assumption⟩
    · obtain ⟨h1, h2⟩ := lastIx_some R j n k h
      exact ⟨by omega, h2⟩
theorem lastIx_none (R : Nat → List F) (j : Nat) : ∀ n, lastIx R j n = none → ∀ k, k < n → ((R k).getD 3 0).1 ≠ j
  | 0, _, k, hk => absurd hk (Nat.not_lt_zero k)
  | n + 1, h, k, hk => by
    unfold lastIx at h
    split at h
    · cases h
    · by_cases e : k = n
      · subst e; assumption
      · exact lastIx_none R j n h k (by omega)
/-- A share's values. -/
def vlF (r : List F) : List F := (r.drop 5).take ((r.getD 4 0).1 + 4)
/-- Two unlike shares of one index are among the first n. -/
def TwiceP (R : Nat → List F) (n : Nat) : Prop := ∃ a b, a < b ∧ b < n ∧ ((R a).getD 3 0) = ((R b).getD 3 0) ∧ vlF (R a) ≠ vlF (R b)
theorem twice_next {R : Nat → List F} {i : Nat} (h : ¬ TwiceP R i) (hn : lastIx R ((R i).getD 3 0).1 i = none ∨ ∃ k, lastIx R ((R i).getD 3 0).1 i = some k ∧ vlF (R k) = vlF (R i)) : ¬ TwiceP R (i + 1) := by
  rintro ⟨a, b, hab, hb, e, hne⟩
  by_cases hbi : b = i
  · subst hbi
    rcases hn with hn | ⟨k, hk, hv⟩
    · exact lastIx_none R _ _ hn a hab (congrArg Fin.val e)
    · obtain ⟨h1, h2⟩ := lastIx_some R _ _ _ hk
      have h3 : (R k).getD 3 0 = (R b).getD 3 0 := Fin.ext h2
      by_cases hka : k = a
      · subst hka; exact hne hv
      · have hva : vlF (R a) = vlF (R k) := Classical.byContradiction fun hc => h (by
          rcases Nat.lt_or_gt_of_ne hka with q | q
          · exact ⟨k, a, q, by omega, h3.trans e.symm, fun z => hc z.symm⟩
          · exact ⟨a, k, q, by omega, e.trans h3.symm, hc⟩)
        exact hne (hva.trans hv)
  · exact h ⟨a, b, hab, by omega, e, hne⟩
/-- The shares by rising index, up to index t. -/
def ordL (R : Nat → List F) (n t : Nat) : List Nat := (List.range t).filterMap fun j => lastIx R (j + 1) n
theorem ordL_succ (R : Nat → List F) (n t : Nat) : ordL R n (t + 1) = ordL R n t ++ (lastIx R (t + 1) n).toList := by
  unfold ordL
  rw [List.range_succ, List.filterMap_append]
  cases h : lastIx R (t + 1) n <;> simp [h]
end Go.Proofs.YtinmhgackihakaaDoor
namespace Go.Proofs.YtinmhgackihakaaDoor
open Go.RowKit Go.Maps
set_option linter.unusedVariables false
set_option linter.unusedSimpArgs false
set_option maxRecDepth 100000
/-- What the map holds. -/
def mapF (R : Nat → List F) (q c : Nat → Nat) (i : Nat) : Nat → Option (List Value) := fun j => (lastIx R j i).map fun k => shV (R k) (q k) (c k)
theorem mapF_put (R : Nat → List F) (q c : Nat → Nat) (i : Nat) : putF (mapF R q c i) ((R i).getD 3 0).1 (shV (R i) (q i) (c i)) = mapF R q c (i + 1) := by
  funext j
  unfold putF mapF
  by_cases h : j = ((R i).getD 3 0).1
  · rw [if_pos h]
    rw [show lastIx R j (i + 1) = some i from if_pos h.symm]
    rfl
  · rw [if_neg h]
    rw [show lastIx R j (i + 1) = lastIx R j i from if_neg (fun e => h e.symm)]
theorem rw_vals {u : World} {q : Nat} {r : List F} (h : Rx u q r) (hok : okF r) : Rw u q 5 (vlF r) ∧ (vlF r).length = (r.getD 4 0).1 + 4 := by
  have hl := hok.2.2.2.1
  unfold unc at hl
  have hv : (vlF r).length = (r.getD 4 0).1 + 4 := by unfold vlF; rw [List.length_take, List.length_drop]; omega
  refine ⟨fun i hi => ?_, hv⟩
  rw [h.cell (5 + i) (by omega)]
  rw [hv] at hi
  unfold vlF
  rw [List.getD_eq_getElem?_getD (l := List.take _ _), List.getElem?_take, if_pos hi, List.getElem?_drop, ← List.getD_eq_getElem?_getD]
theorem flatM_at (G : Nat → List Value) (hG : ∀ k, (G k).length = 5) : ∀ (O : List Nat) (i j : Nat), i < O.length → j < 5 → (O.flatMap G)[5 * i + j]? = (G (O.getD i 0))[j]?
  | [], i, j, hi, _ => absurd hi (Nat.not_lt_zero i)
  | a :: O, 0, j, _, hj => by
    rw [List.flatMap_cons, List.getElem?_append_left (by rw [hG]; omega)]
    simp
  | a :: O, i + 1, j, hi, hj => by
    rw [List.flatMap_cons, List.getElem?_append_right (by rw [hG]; omega), hG, show 5 * (i + 1) + j - 5 = 5 * i + j by omega]
    exact flatM_at G hG O i j (by simpa using hi) hj
theorem flatM_len (G : Nat → List Value) (hG : ∀ k, (G k).length = 5) (O : List Nat) : (O.flatMap G).length = O.length * 5 := by
  induction O with
  | nil => rfl
  | cons a O ih => rw [List.flatMap_cons, List.length_append, hG, ih, List.length_cons]; omega
theorem ordL_mem {R : Nat → List F} {n t k : Nat} (h : k ∈ ordL R n t) : k < n ∧ ∃ j, j < t ∧ lastIx R (j + 1) n = some k := by
  unfold ordL at h
  obtain ⟨j, hj, e⟩ := List.mem_filterMap.1 h
  exact ⟨(lastIx_some R _ n k e).1, j, List.mem_range.1 hj, e⟩
theorem ordL_few (R : Nat → List F) (n t : Nat) : (ordL R n t).length ≤ t := by
  unfold ordL
  exact Nat.le_trans (List.length_filterMap_le _ _) (by simp)
/-- What byIndex says. -/
def ByQ (R : Nat → List F) (n M : Nat) (q c : Nat → Nat) (e : Ending) (w w' : World) : Prop :=
  ((TwiceP R n ∧ e = .returned (.tuple #[.slice none 0 0, .int .i64 116])) ∨ (¬ TwiceP R n ∧ ∃ v, e = .returned (.tuple #[v, .int .i64 0]) ∧ ((ordL R n 255).length = 0 ∧ (∃ a c, v = .slice a 0 c) ∨ ∃ g cp, v = .slice (some ⟨g, 0, none⟩) (ordL R n 255).length cp ∧ (ordL R n 255).length ≤ cp ∧ cp ≤ maxLen ∧ ShI w' g 0 (ordL R n 255).length (fun i => R ((ordL R n 255).getD i 0)) (fun i => q ((ordL R n 255).getD i 0)) (fun i => c ((ordL R n 255).getD i 0))))) ∧ Below M w w'
set_option maxHeartbeats 3200000 in
/-- byIndex. -/
theorem byIndex_ok (g o n cp : Nat) (R : Nat → List F) (q c : Nat → Nat) (w : World) (hn : Hid (n ≤ 100000)) (h : Hid (ShI w g o n R q c)) :
    Calls Tryd.prog 35 #[.slice (some ⟨g, o, none⟩) n cp] w fun e w' => ByQ R n w.heap.size q c e w w' := by
  obtain ⟨M, HMM⟩ : ∃ M, Hid (w.heap.size = M) := ⟨_, rfl⟩
  have hmm := @run_makeMap Tryd.prog
  have HST : Hid (MpI (w.alloc (.map #[] 0)) M 0 (mapF R q c 0) ∧ ¬ TwiceP R 0 ∧ Below M w (w.alloc (.map #[] 0))) := by
    rw [← HMM.out]
    exact ⟨MpI.new w, fun ⟨a, b, h1, h2, _⟩ => absurd h2 (Nat.not_lt_zero b), (Below.refl _ _).alloc (Nat.le_refl _) _⟩
  rw [HMM.out]
  go_enter Tryd.func35, Tryd.ntmps35
  go_upto_region 2 with fail
  rw [HMM.out]
  go_wp2
  go_loopw [16] (fun vi wr => ∃ i : Nat, i ≤ n ∧ vi = .int .i64 (i : Nat) ∧ Hid (MpI wr M i (mapF R q c i) ∧ ¬ TwiceP R i ∧ Below M w wr)) (fun vi _ => n - (intOf vi).toNat)
  case atStart => exact ⟨0, by omega, rfl, HST.out⟩
  case round =>
    clear HST hmm
    obtain ⟨i, hi, rfl, HI⟩ := hrel
    rename World => wo
    by_cases hlt : i < n
    · have HLT : Hid (i < n) := hlt
      have g0 : (0 : Int) ≤ (i : Int) := by omega
      have g1 : (i : Int) < (n : Int) := by omega
      have gi : IntKind.i64.wrap ((i : Int) + 1) = ((i + 1 : Nat) : Int) := by rw [IntKind.wrap_i64]; have := hn.out; omega
      obtain ⟨LL, HLL⟩ : ∃ z : List Value, Hid (shV (R i) (q i) (c i) = z) := ⟨_, rfl⟩
      have HL5 : Hid (LL.length = 5 ∧ ∀ v ∈ LL, v.oneCell' = true) := by rw [← HLL.out]; exact ⟨shV_len _ _ _, shV_one _ _ _⟩
      have HRG : Hid (wo.rangeAt g (o + i * 5) LL) := by
        rw [← HLL.out, Nat.mul_comm i 5]
        exact (h.out.below (by rw [HMM.out]; exact HI.out.2.2)).cells i hlt
      have hiL : (Tryd.prog.info? 72).map (·.size) = some LL.length := by rw [HL5.out.1]; exact hi78
      obtain ⟨P, HP⟩ : ∃ z, Hid (wo.heap.size = z) := ⟨_, rfl⟩
      clear hlt hi
      go_upto_region 5 with (first
        | (refine wpList_load_mid (by rfl) 72 (.tmp 18) (by rfl) g (o + i * 5) (by rfl) LL _ HRG.out Tryd.underlying72 rfl hiL ?_)
        | (refine wpList_store_bx (by rfl) 72 (.tmp 6) (.tmp 19) (by rfl) Zsh LL wo.heap.size (by rfl) (by rfl) (Bx.new wo 72 Zsh) (by rw [HL5.out.1]; rfl) hiL HL5.out.2 ?_; intro w5 h5 h6; have H5 : Hid (Bx w5 P 72 LL ∧ MpI w5 M i (mapF R q c i) ∧ Below M w w5 ∧ M < P) := (by
            have hb : Below wo.heap.size wo w5 := ((Below.refl _ _).alloc (Nat.le_refl _) _).trans (below_gb h6 (by simp) (Nat.le_refl _))
            exact ⟨by rw [← HP.out]; exact h5, HI.out.1.below hb, HI.out.2.2.trans (hb.mono (Nat.le_of_lt HI.out.1.lt)), by rw [← HP.out]; exact HI.out.1.lt⟩); clear h5 h6)
        | fail)
      rw [HP.out]
      clear HRG
      obtain ⟨J, HJ⟩ : ∃ J : Nat, Hid (((R i).getD 3 0).1 = J) := ⟨_, rfl⟩
      have hJ : J < 256 := by rw [← HJ.out]; exact ((R i).getD 3 0).2
      have k2 : w5.cell? ⟨P, 2, none⟩ = some (.int .i64 (J : Nat)) := H5.out.1.cell 2 _ (by rw [← HLL.out, ← HJ.out]; rfl)
      have k3 := H5.out.2.1.look J (by omega)
      obtain ⟨O, HO⟩ : ∃ O, Hid (lastIx R J i = O) := ⟨_, rfl⟩
      have hmf : mapF R q c i J = O.map fun k => shV (R k) (q k) (c k) := by unfold mapF; rw [HO.out]
      rw [hmf] at k3
      obtain ⟨P2, HP2⟩ : ∃ z, Hid (w5.heap.size = z) := ⟨_, rfl⟩
      cases O with
      | none =>
        simp only [Option.map_none, Option.getD_none, Option.isSome_none] at k3
        have HTW : lastIx R ((R i).getD 3 0).1 i = none ∨ ∃ k, lastIx R ((R i).getD 3 0).1 i = some k ∧ vlF (R k) = vlF (R i) := .inl (by rw [HJ.out]; exact HO.out)
        try simp only [Act.put]
        go_upto_region 6 with (first
          | (refine wpList_store_bx (by rfl) 72 (.tmp 7) (.tmp 26) (by rfl) Zsh Zsh w5.heap.size (by rfl) (by rfl) (Bx.new w5 72 Zsh) (by rfl) hi78 (by intro v hv; simp [Zsh] at hv; rcases hv with rfl | rfl | rfl <;> rfl) ?_; intro w6 h6 h7; have H6 : Hid (Bx w6 P 72 LL ∧ MpI w6 M i (mapF R q c i) ∧ Below M w w6) := (by
              have hb : Below w5.heap.size w5 w6 := ((Below.refl _ _).alloc (Nat.le_refl _) _).trans (below_gb h7 (by simp) (Nat.le_refl _))
              exact ⟨H5.out.1.below hb, H5.out.2.1.below hb, H5.out.2.2.1.trans (hb.mono (Nat.le_of_lt H5.out.2.1.lt))⟩); clear h6 h7)
          | fail)
        go_upto_region 8 with fail
        have k2 : w6.cell? ⟨P, 2, none⟩ = some (.int .i64 (J : Nat)) := H6.out.1.cell 2 _ (by rw [← HLL.out, ← HJ.out]; rfl)
        have HRP := H6.out.1.range
        go_wp2_with (first
          | (refine wpList_load_mid (by rfl) 72 (.tmp 6) (by rfl) P 0 (by rfl) LL _ HRP Tryd.underlying72 rfl hiL ?_)
          | (at_mapUpdate; refine wpList_put rfl _ _ _ rfl H6.out.2.1 (by have := HLT.out; have := hn.out; omega) rfl J (by omega) LL rfl rfl ?_; intro w7 h7 h8; have H7 : Hid (MpI w7 M (i + 1) (mapF R q c (i + 1)) ∧ ¬ TwiceP R (i + 1) ∧ Below M w w7) := ⟨by rw [← mapF_put, HLL.out, HJ.out]; exact h7, twice_next HI.out.2.1 HTW, H6.out.2.2.trans (below_gb h8 (Nat.le_of_lt H6.out.2.1.lt) (Nat.le_refl _))⟩; clear h7 h8)
          | fail)
        go_roundw
        case rel => exact ⟨i + 1, by have := HLT.out; omega, by go_num, H7.out⟩
        case measure => simp [intOf]; have := HLT.out; omega
      | some k =>
        simp only [Option.map_some, Option.getD_some, Option.isSome_some] at k3
        obtain ⟨L2, HL2⟩ : ∃ z : List Value, Hid (shV (R k) (q k) (c k) = z) := ⟨_, rfl⟩
        rw [HL2.out] at k3
        have HL25 : Hid (L2.length = 5 ∧ ∀ v ∈ L2, v.oneCell' = true) := by rw [← HL2.out]; exact ⟨shV_len _ _ _, shV_one _ _ _⟩
        have hiL2 : (Tryd.prog.info? 72).map (·.size) = some L2.length := by rw [HL25.out.1]; exact hi78
        have HKN : Hid (k < i ∧ k < n) := ⟨(lastIx_some R J i k HO.out).1, by have := (lastIx_some R J i k HO.out).1; have := HLT.out; omega⟩
        try simp only [Act.put]
        go_upto_region 6 with (first
          | (refine wpList_store_bx (by rfl) 72 (.tmp 7) (.tmp 26) (by rfl) Zsh L2 w5.heap.size (by rfl) (by rfl) (Bx.new w5 72 Zsh) (by rw [HL25.out.1]; rfl) hiL2 HL25.out.2 ?_; intro w6 h6 h7; have H6 : Hid (Bx w6 P 72 LL ∧ MpI w6 M i (mapF R q c i) ∧ Below M w w6 ∧ Bx w6 P2 72 L2) := (by
              have hb : Below w5.heap.size w5 w6 := ((Below.refl _ _).alloc (Nat.le_refl _) _).trans (below_gb h7 (by simp) (Nat.le_refl _))
              exact ⟨H5.out.1.below hb, H5.out.2.1.below hb, H5.out.2.2.1.trans (hb.mono (Nat.le_of_lt H5.out.2.1.lt)), by rw [← HP2.out]; exact h6⟩); clear h6 h7)
          | fail)
        rw [HP2.out]
        obtain ⟨s1, HS1⟩ : ∃ z, Hid (((R i).getD 4 0).1 + 4 = z) := ⟨_, rfl⟩
        obtain ⟨s2, HS2⟩ : ∃ z, Hid (((R k).getD 4 0).1 + 4 = z) := ⟨_, rfl⟩
        have j1 : w6.cell? ⟨P, 4, none⟩ = some (.slice (some ⟨q i, 5, none⟩) s1 (c i - 5)) := H6.out.1.cell 4 _ (by rw [← HLL.out, ← HS1.out]; rfl)
        have j2 : w6.cell? ⟨P2, 4, none⟩ = some (.slice (some ⟨q k, 5, none⟩) s2 (c k - 5)) := H6.out.2.2.2.cell 4 _ (by rw [← HL2.out, ← HS2.out]; rfl)
        obtain ⟨BB, HBB⟩ : ∃ z : Bool, Hid (decide (vlF (R k) = vlF (R i)) = z) := ⟨_, rfl⟩
        have H53 : Hid (Calls Tryd.prog 50 #[.slice (some ⟨q k, 5, none⟩) s2 (c k - 5), .slice (some ⟨q i, 5, none⟩) s1 (c i - 5)] w6 fun e w' => e = .returned (.bool BB) ∧ w' = w6) := by
          have hs := h.out.below (by rw [HMM.out]; exact H6.out.2.2.1)
          obtain ⟨r1, r2, _⟩ := hs.row k HKN.out.2
          obtain ⟨t1, t2, _⟩ := hs.row i HLT.out
          obtain ⟨v1, v2⟩ := rw_vals r1 r2
          obtain ⟨u1, u2⟩ := rw_vals t1 t2
          rw [← HBB.out]
          exact bequal_ok (q k) 5 s2 (c k - 5) (q i) 5 s1 (c i - 5) (vlF (R k)) (vlF (R i)) w6 (v2.trans HS2.out) (u2.trans HS1.out) v1 u1
        cases BB with
        | false =>
          have HTWI : Hid (TwiceP R n) := by
            refine ⟨k, i, HKN.out.1, HLT.out, Fin.ext ((lastIx_some R J i k HO.out).2.trans HJ.out.symm), of_decide_eq_false HBB.out⟩
          have HF : Hid (ByQ R n M q c (.returned (.tuple #[.slice none 0 0, .int .i64 116])) w w6) := ⟨.inl ⟨HTWI.out, rfl⟩, H6.out.2.2.1⟩
          go_wp2_with (first
            | (go_at_call 50; refine H53.out.mono ?_; rintro e8 w8 ⟨rfl, hw⟩; obtain rfl := hw.symm; clear hw)
            | fail)
          go_ret2
          exact HF.out
        | true =>
          have HTW : lastIx R ((R i).getD 3 0).1 i = none ∨ ∃ k, lastIx R ((R i).getD 3 0).1 i = some k ∧ vlF (R k) = vlF (R i) := .inr ⟨k, by rw [HJ.out]; exact HO.out, of_decide_eq_true HBB.out⟩
          have H6b : Hid (Bx w6 P 72 LL ∧ MpI w6 M i (mapF R q c i) ∧ Below M w w6) := ⟨H6.out.1, H6.out.2.1, H6.out.2.2.1⟩
          clear H6
          rename Hid (Bx w6 P 72 LL ∧ MpI w6 M i (mapF R q c i) ∧ Below M w w6) => H6
          go_upto_region 8 with (first
            | (go_at_call 50; refine H53.out.mono ?_; rintro e8 w8 ⟨rfl, hw⟩; obtain rfl := hw.symm; clear hw)
            | fail)
          have k2 : w6.cell? ⟨P, 2, none⟩ = some (.int .i64 (J : Nat)) := H6.out.1.cell 2 _ (by rw [← HLL.out, ← HJ.out]; rfl)
          have HRP := H6.out.1.range
          go_wp2_with (first
            | (refine wpList_load_mid (by rfl) 72 (.tmp 6) (by rfl) P 0 (by rfl) LL _ HRP Tryd.underlying72 rfl hiL ?_)
            | (at_mapUpdate; refine wpList_put rfl _ _ _ rfl H6.out.2.1 (by have := HLT.out; have := hn.out; omega) rfl J (by omega) LL rfl rfl ?_; intro w7 h7 h8; have H7 : Hid (MpI w7 M (i + 1) (mapF R q c (i + 1)) ∧ ¬ TwiceP R (i + 1) ∧ Below M w w7) := ⟨by rw [← mapF_put, HLL.out, HJ.out]; exact h7, twice_next HI.out.2.1 HTW, H6.out.2.2.trans (below_gb h8 (Nat.le_of_lt H6.out.2.1.lt) (Nat.le_refl _))⟩; clear h7 h8)
            | fail)
          go_roundw
          case rel => exact ⟨i + 1, by have := HLT.out; omega, by go_num, H7.out⟩
          case measure => simp [intOf]; have := HLT.out; omega
    · have hin : i = n := by omega
      subst hin
      have g1 : ¬ (i : Int) < (i : Int) := by omega
      obtain ⟨i8, hi8, hz8, hs8, hb8⟩ := info_parts Tryd.info78s
      have HI8 : Hid (Tryd.prog.info? 72 = some i8 ∧ i8.zero = some (.agg #[.int .u16 0, .int .i64 0, .int .i64 0, .int .i64 0, .slice none 0 0]) ∧ i8.size = 5 ∧ i8.bytes = 56) := ⟨hi8, hz8, hs8, hb8⟩
      clear hi8 hz8 hs8 hb8
      obtain ⟨GG, HGG⟩ : ∃ z : Nat → List Value, Hid ((fun k => shV (R k) (q k) (c k)) = z) := ⟨_, rfl⟩
      have HG5 : Hid (∀ k, (GG k).length = 5 ∧ ∀ v ∈ GG k, v.oneCell' = true) := fun k => by rw [← HGG.out]; exact ⟨shV_len _ _ _, shV_one _ _ _⟩
      have HS2 : Hid (wo.ownsRow (M + 1) 72 5 (.slice none 0 0) 0 ((ordL R i 0).flatMap GG) ∧ MpI wo M i (mapF R q c i) ∧ Below M w wo) := ⟨World.ownsRow_nil _ _ _ _, HI.out.1, HI.out.2.2⟩
      have HNT : Hid (¬ TwiceP R i) := HI.out.2.1
      clear HI hi hlt
      go_wp2
      go_loopw [9, 10] (fun vv vi wr => ∃ t x m : Nat, t ≤ 255 ∧ vi = .int .i64 (x : Nat) ∧ Hid (x = t + 1 ∧ m = (ordL R i t).length) ∧ Hid (wr.ownsRow (M + 1) 72 5 vv m ((ordL R i t).flatMap GG) ∧ MpI wr M i (mapF R q c i) ∧ Below M w wr)) (fun _ vi _ => 256 - (intOf vi).toNat)
      case atStart => exact ⟨0, 1, 0, by omega, rfl, ⟨rfl, rfl⟩, HS2.out⟩
      case round =>
        clear HS2
        obtain ⟨t, x, m, ht, rfl, HX, HK⟩ := hrel
        rename World => wr
        by_cases hlt : t < 255
        · have HLT : Hid (t < 255 ∧ m ≤ t) := ⟨hlt, by rw [HX.out.2]; exact ordL_few _ _ _⟩
          have g1 : (x : Int) ≤ 255 := by have := HX.out.1; omega
          obtain ⟨x1, HX1⟩ : ∃ z, Hid (z = x + 1) := ⟨x + 1, show _ = _ from rfl⟩
          have gx : IntKind.i64.wrap ((x : Int) + 1) = (x1 : Int) := by rw [IntKind.wrap_i64]; have := HX1.out; have := HX.out.1; omega
          have k3 := HK.out.2.1.look x (by have := HX.out.1; omega)
          obtain ⟨O, HO⟩ : ∃ O, Hid (lastIx R x i = O) := ⟨_, rfl⟩
          have hmf : mapF R q c i x = O.map GG := by rw [← HGG.out]; unfold mapF; rw [HO.out]
          rw [hmf] at k3
          obtain ⟨P, HP⟩ : ∃ z, Hid (wr.heap.size = z) := ⟨_, rfl⟩
          have HOS : Hid (ordL R i (t + 1) = ordL R i t ++ O.toList) := by show _ = _; rw [ordL_succ, ← HX.out.1, HO.out]
          clear hlt ht hmf
          cases O with
          | none =>
            simp only [Option.map_none, Option.getD_none, Option.isSome_none] at k3
            go_wp2_with (first
              | (refine wpList_store_bx (by rfl) 72 (.tmp 11) (.tmp 51) (by rfl) Zsh Zsh wr.heap.size (by rfl) (by rfl) (Bx.new wr 72 Zsh) (by rfl) hi78 (by intro v hv; simp [Zsh] at hv; rcases hv with rfl | rfl | rfl <;> rfl) ?_; intro w6 h6 h7; have H6 : Hid (w6.ownsRow (M + 1) 72 5 u9 m ((ordL R i (t + 1)).flatMap GG) ∧ MpI w6 M i (mapF R q c i) ∧ Below M w w6) := (by
                  have hb : Below wr.heap.size wr w6 := ((Below.refl _ _).alloc (Nat.le_refl _) _).trans (below_gb h7 (by simp) (Nat.le_refl _))
                  exact ⟨by rw [HOS.out]; simp only [Option.toList_none, List.append_nil]; exact own_below HK.out.1 hb, HK.out.2.1.below hb, HK.out.2.2.trans (hb.mono (Nat.le_of_lt HK.out.2.1.lt))⟩); clear h6 h7)
              | fail)
            go_roundw
            case rel => exact ⟨t + 1, x1, m, by have := HLT.out; omega, rfl, ⟨by rw [HX1.out, HX.out.1], by rw [HOS.out]; simp [HX.out.2]⟩, H6.out⟩
            case measure => simp [intOf]; have := HX1.out; have := HX.out.1; have := HLT.out; omega
          | some k =>
            simp only [Option.map_some, Option.getD_some, Option.isSome_some] at k3
            obtain ⟨sn, HSN⟩ : ∃ z, Hid (setN (R k) = z) := ⟨_, rfl⟩
            obtain ⟨nd, HND⟩ : ∃ z, Hid (((R k).getD 2 0).1 = z) := ⟨_, rfl⟩
            obtain ⟨ix, HIX⟩ : ∃ z, Hid (((R k).getD 3 0).1 = z) := ⟨_, rfl⟩
            obtain ⟨sz, HSZ⟩ : ∃ z, Hid (((R k).getD 4 0).1 = z) := ⟨_, rfl⟩
            have HSV : Hid (GG k = [Value.int .u16 (sn : Nat), .int .i64 (nd : Nat), .int .i64 (ix : Nat), .int .i64 (sz : Nat), .slice (some ⟨q k, 5, none⟩) (sz + 4) (c k - 5)]) := by
              show _ = _
              have z := congrArg Array.toList (tds_letters (R k) sn nd ix sz HSN.out HND.out HIX.out HSZ.out)
              rw [List.toList_toArray] at z
              rw [← HGG.out]
              show tds (R k) ++ _ = _
              rw [z, HSZ.out]
              rfl
            rw [HSV.out] at k3
            go_wp2_with (first
              | (refine wpList_store_bx (by rfl) 72 (.tmp 11) (.tmp 51) (by rfl) Zsh [Value.int .u16 (sn : Nat), .int .i64 (nd : Nat), .int .i64 (ix : Nat), .int .i64 (sz : Nat), .slice (some ⟨q k, 5, none⟩) (sz + 4) (c k - 5)] wr.heap.size (by rfl) (by rfl) (Bx.new wr 72 Zsh) (by rfl) hi78 (by intro v hv; simp at hv; rcases hv with rfl | rfl | rfl | rfl | rfl <;> rfl) ?_; intro w6 h6 h7; have H6 : Hid (w6.ownsRow (M + 1) 72 5 u9 m ((ordL R i t).flatMap GG) ∧ MpI w6 M i (mapF R q c i) ∧ Below M w w6 ∧ Bx w6 wr.heap.size 72 [Value.int .u16 (sn : Nat), .int .i64 (nd : Nat), .int .i64 (ix : Nat), .int .i64 (sz : Nat), .slice (some ⟨q k, 5, none⟩) (sz + 4) (c k - 5)]) := (by
                  have hb : Below wr.heap.size wr w6 := ((Below.refl _ _).alloc (Nat.le_refl _) _).trans (below_gb h7 (by simp) (Nat.le_refl _))
                  exact ⟨own_below HK.out.1 hb, HK.out.2.1.below hb, HK.out.2.2.trans (hb.mono (Nat.le_of_lt HK.out.2.1.lt)), h6⟩); clear h6 h7; have HRP := H6.out.2.2.2.range)
              | (refine wpList_load_mid (by rfl) 72 (.tmp 11) (by rfl) wr.heap.size 0 (by rfl) [Value.int .u16 (sn : Nat), .int .i64 (nd : Nat), .int .i64 (ix : Nat), .int .i64 (sz : Nat), .slice (some ⟨q k, 5, none⟩) (sz + 4) (c k - 5)] _ HRP Tryd.underlying72 rfl hi78 ?_)
              | (at_builtin; go_must (refine wpList_append_own _ rfl (.tmp 54) (.tmp 56) 68 rfl (M + 1) 72 i8 (.agg #[.int .u16 0, .int .i64 0, .int .i64 0, .int .i64 0, .slice none 0 0]) 5 56 Tryd.underlying68 HI8.out.1 HI8.out.2.1 HI8.out.2.2.1 HI8.out.2.2.2 rfl (by decide) _ m _ rfl (H6.out.1.alloc _) ⟨w6.heap.size, 0, none⟩ 1 1 [Value.int .u16 (sn : Nat), .int .i64 (nd : Nat), .int .i64 (ix : Nat), .int .i64 (sz : Nat), .slice (some ⟨q k, 5, none⟩) (sz + 4) (c k - 5)] rfl rfl (World.news_of_block (heap_alloc_new w6 _)) (by rw [← HSV.out]; exact (HG5.out k).2) (by have := HLT.out; unfold maxLen; omega) (by have := HLT.out; omega) (by have := H6.out.2.1.lt; simp; omega) ?_; intro v8 w8 hown hgrow hnil; have H8 : Hid (w8.ownsRow (M + 1) 72 5 v8 (m + 1) ((ordL R i (t + 1)).flatMap GG) ∧ MpI w8 M i (mapF R q c i) ∧ Below M w w8) := (by
                  have ha : Below w6.heap.size w6 (w6.alloc (.cells #[Value.int .u16 (sn : Nat), .int .i64 (nd : Nat), .int .i64 (ix : Nat), .int .i64 (sz : Nat), .slice (some ⟨q k, 5, none⟩) (sz + 4) (c k - 5)] 72)) := (Below.refl _ _).alloc (Nat.le_refl _) _
                  have hM := H6.out.2.1.lt
                  exact ⟨by rw [HOS.out, List.flatMap_append]; simp only [Option.toList_some, List.flatMap_cons, List.flatMap_nil, List.append_nil]; rw [HSV.out]; exact hown, (H6.out.2.1.below ha).kept hgrow (fun e => by have := (H6.out.1.lt M e.symm).1; omega), (H6.out.2.2.1.alloc (Nat.le_of_lt hM) _).grown hgrow (by simp; omega) (fun g hg => by have := (H6.out.1.lt g hg).1; omega)⟩); clear hown hgrow hnil))
              | fail)
            go_roundw
            case rel => exact ⟨t + 1, x1, m + 1, by have := HLT.out; omega, rfl, ⟨by rw [HX1.out, HX.out.1], by rw [HOS.out]; simp [HX.out.2]⟩, H8.out⟩
            case measure => simp [intOf]; have := HX1.out; have := HX.out.1; have := HLT.out; omega
        · have ht5 : t = 255 := by omega
          subst ht5
          have g1 : ¬ (x : Int) ≤ 255 := by have := HX.out.1; omega
          have HF : Hid (ByQ R i M q c (.returned (.tuple #[u9, .int .i64 0])) w wr) := by
            refine ⟨.inr ⟨HNT.out, u9, rfl, ?_⟩, HK.out.2.2⟩
            have hm := HX.out.2
            rw [hm] at HK
            by_cases h0 : (ordL R i 255).length = 0
            · left
              refine ⟨h0, ?_⟩
              rw [h0] at HK
              rcases HK.out.1.2 with ⟨e, _⟩ | ⟨g, cap, cur, e, _⟩
              · exact ⟨_, _, e⟩
              · exact ⟨_, _, e⟩
            · right
              rcases HK.out.1.2 with ⟨_, e⟩ | ⟨g3, cap, cur, e, hB, hh, h3, h4, h5, h6⟩
              · exact absurd e h0
              · refine ⟨g3, cap, e, h3, h4, fun k hk j z hz => ?_, fun k hk => ?_⟩
                · subst e
                  have hj : j < 5 := by have := (List.getElem?_eq_some_iff.1 hz).1; rw [shV_len] at this; exact this
                  have y := HK.out.1.cells (g := g3) rfl (5 * k + j) z (by rw [flatM_at GG (fun k => (HG5.out k).1) _ k j hk hj, ← HGG.out]; exact hz)
                  rw [Addr.add_lit, Nat.zero_add] at y
                  rw [Nat.zero_add]
                  exact y
                · have hkn : (ordL R i 255).getD k 0 < i := by
                    rw [List.getD_eq_getElem?_getD, List.getElem?_eq_getElem hk]
                    exact (ordL_mem (List.getElem_mem hk)).1
                  exact (h.out.below (by rw [HMM.out]; exact HK.out.2.2)).row _ hkn
          clear HK
          go_wp2
          go_ret2
          exact HF.out
end Go.Proofs.YtinmhgackihakaaDoor
namespace Go.Proofs.YtinmhgackihakaaDoor
open Go.RowKit
set_option linter.unusedVariables false
set_option linter.unusedSimpArgs false
set_option maxRecDepth 100000
/-- The polynomials through the first nd shares. -/
def ftC (R : Nat → List F) (nd v : Nat) : List F := thruL (ixsL R nd) (colL R nd v) nd
/-- Share i lies on them. -/
def fitV (R : Nat → List F) (nd n i : Nat) : Prop := ((List.range n).map fun v => pv ((R i).getD 3 0) (ftC R nd v)) = vlF (R i)
def FtQ (R : Nat → List F) (sn nd n m M : Nat) (e : Ending) (w w' : World) : Prop :=
  (((∃ i, nd ≤ i ∧ i < m ∧ ¬ fitV R nd n i) ∧ e = .returned (.tuple #[.agg Z52.toArray, .bool false])) ∨ ((∀ i, nd ≤ i → i < m → fitV R nd n i) ∧ ∃ LB lc p q, e = .returned (.tuple #[.agg #[.int .u16 (sn : Nat), .int .i64 (nd : Nat), .slice (some ⟨LB, 0, none⟩) n lc], .bool true]) ∧ n ≤ lc ∧ PolI LB n nd (ftC R nd) p q w')) ∧ Below M w w'
/-- Blocks of other types stay. -/
def Kpt (u v : World) : Prop := ∀ b t cs, t ≠ 50 → t ≠ 60 → Bx u b t cs → Bx v b t cs
theorem PkI.kpt {M G n k : Nat} {pl : List F} {w u v : World} (h : PkI M G n k pl w u) (hk : Kpt u v) (hb : Below M w v) : PkI M G n k pl w v := by
  obtain ⟨⟨cu, gs, h1, h2, h3, h4⟩, _⟩ := h
  exact ⟨⟨cu, gs, hk _ _ _ (by decide) (by decide) h1, h2, h3, fun i hi => ⟨(h4 i hi).1, (h4 i hi).2.1, hk _ _ _ (by decide) (by decide) (h4 i hi).2.2⟩⟩, hb⟩
theorem cell_other {u v : World} {M b o : Nat} {x : Value} (hg : u.grownBy v (some M)) (hb : Bx u M 50 Z52) (hx : x ∉ Z52) (h : u.cell? ⟨b, o, none⟩ = some x) : v.cell? ⟨b, o, none⟩ = some x := by
  have hl := World.block_lt_of_cell? _ _ h
  have hne : b ≠ M := by
    intro e
    subst e
    unfold Bx at hb
    simp only [World.cell?, hb] at h
    have h9 : Z52[o]? = some x := by simpa using h
    exact hx (List.mem_of_getElem? h9)
  exact (World.cell?_of_block (w := u) (hg.block b hl fun e => hne (by injection e))).trans h
theorem PolI.other {LB n m M : Nat} {C : Nat → List F} {p q : Nat → Nat} {u v : World} (h : PolI LB n m C p q u) (hg : u.grownBy v (some M)) (hb : Bx u M 50 Z52) : PolI LB n m C p q v :=
  ⟨fun i hi => cell_other hg hb (by simp [Z52]) (h.at' i hi), fun i hi => by obtain ⟨c, e⟩ := h.box i hi; exact ⟨c, cell_other hg hb (by simp [Z52]) e⟩, fun i hi => ⟨fun j hj => cell_other hg hb (by simp [Z52]) ((h.row i hi).1 j hj), (h.row i hi).2⟩⟩
theorem NsI.kpt {M SB rg sn nd s : Nat} {C : Nat → List F} {rowC : List Value} {w u w2 w3 : World} {i : Nat} {v : Value} {p q : Nat → Nat} (h : NsI M SB rg sn nd s C rowC w u i v p q) (hgr : u.grownBy w2 v.ownBlock) (hgs : w2.grownBy w3 (some SB)) : Kpt u w3 := fun b t cs h63 h88 hx => by
  have h2 : Bx w2 b t cs := bx_apart h.own hgr h88 hx
  have hs2 : Bx w2 SB 50 [.int .u16 (sn : Nat), .int .i64 (nd : Nat), v] := bx_apart h.own hgr (by decide) h.box
  refine h2.keep (hgs.block b h2.lt fun e => ?_)
  injection e with e
  subst e
  unfold Bx at h2 hs2
  rw [h2] at hs2
  injection hs2 with z
  injection z with _ z _
  exact h63 z
set_option maxHeartbeats 3200000 in
/-- fitted. -/
theorem fitted_ok (g cp m sn nd s n : Nat) (R : Nat → List F) (q c : Nat → Nat) (w : World) (hn : Hid (1 ≤ nd ∧ nd ≤ 16 ∧ nd ≤ m ∧ m ≤ 255 ∧ n = s + 4 ∧ s ≤ 64 ∧ m ≤ cp ∧ cp ≤ maxLen)) (h : Hid (ShI w g 0 m R q c)) (hR : Hid (∀ i, i < m → setN (R i) = sn ∧ ((R i).getD 2 0).1 = nd ∧ ((R i).getD 4 0).1 = s)) :
    Calls Tryd.prog 36 #[.slice (some ⟨g, 0, none⟩) m cp] w fun e w' => FtQ R sn nd n m w.heap.size e w w' := by
  obtain ⟨M, HMM⟩ : ∃ M, Hid (w.heap.size = M) := ⟨_, rfl⟩
  obtain ⟨i6, hi0', hz0', hz1', hz2'⟩ := info_parts Tryd.info60q
  have HI6 : Hid (Tryd.prog.info? 60 = some i6 ∧ i6.zero = some .nilFunc ∧ i6.size = 1 ∧ i6.bytes = 8) := ⟨hi0', hz0', hz1', hz2'⟩
  clear hi0' hz0' hz1' hz2'
  have hi63 : (Tryd.prog.info? 50).map (·.size) = some 3 := by kernel_rfl
  obtain ⟨LL, HLL⟩ : ∃ z : List Value, Hid (shV (R 0) (q 0) (c 0) = z) := ⟨_, rfl⟩
  have HL5 : Hid (LL.length = 5 ∧ ∀ v ∈ LL, v.oneCell' = true) := by rw [← HLL.out]; exact ⟨shV_len _ _ _, shV_one _ _ _⟩
  have hiL : (Tryd.prog.info? 72).map (·.size) = some LL.length := by rw [HL5.out.1]; exact hi78
  obtain ⟨w1, hw1⟩ : ∃ u, u = w.alloc (.cells Z52.toArray 50) := ⟨_, rfl⟩
  have H1 : Hid (Bx w1 M 50 Z52 ∧ Below M w w1 ∧ w1.heap.size = M + 1) := by
    rw [hw1, ← HMM.out]
    exact ⟨Bx.new w 50 Z52, (Below.refl _ _).alloc (Nat.le_refl _) _, by simp⟩
  have HRG : Hid (w1.rangeAt g 0 LL) := by
    rw [← HLL.out]
    have z := (h.out.below (by rw [HMM.out]; exact H1.out.2.1)).cells 0 (by have := hn.out; omega)
    exact z
  have g1 : (0 : Int) < (m : Int) := by have := hn.out; omega
  rw [HMM.out]
  go_enter Tryd.func36, Tryd.ntmps36
  go_upto_region 1 with fail
  rw [show w.alloc (.cells #[.int .u16 0, .int .i64 0, .slice none 0 0] 50) = w1 from hw1.symm, HMM.out]
  clear hw1
  go_upto_region 2 with (first
    | (refine wpList_load_mid (by rfl) 72 (.tmp 13) (by rfl) g 0 (by rfl) LL _ HRG.out Tryd.underlying72 rfl hiL ?_)
    | (refine wpList_store_bx (by rfl) 72 (.tmp 4) (.tmp 14) (by rfl) Zsh LL w1.heap.size (by rfl) (by rfl) (Bx.new w1 72 Zsh) (by rw [HL5.out.1]; rfl) hiL HL5.out.2 ?_; intro w2 h5 h6; have H2 : Hid (Bx w2 (M + 1) 72 LL ∧ Bx w2 M 50 Z52 ∧ Below M w w2 ∧ M + 2 ≤ w2.heap.size) := (by
        have hb : Below w1.heap.size w1 w2 := ((Below.refl _ _).alloc (Nat.le_refl _) _).trans (below_gb h6 (by simp) (Nat.le_refl _))
        have hs := h5.lt
        rw [H1.out.2.2] at h5 hs
        exact ⟨h5, H1.out.1.below hb, H1.out.2.1.trans (hb.mono (by rw [H1.out.2.2]; omega)), by omega⟩); clear h5 h6)
    | fail)
  rw [H1.out.2.2]
  clear HRG H1
  try simp only [Act.put]
  have hR0 := hR.out 0 (by have := hn.out; omega)
  have k0 : w2.cell? ⟨M + 1, 0, none⟩ = some (.int .u16 (sn : Nat)) := H2.out.1.cell 0 _ (by rw [← HLL.out, ← hR0.1]; rfl)
  have k1 : w2.cell? ⟨M + 1, 1, none⟩ = some (.int .i64 (nd : Nat)) := H2.out.1.cell 1 _ (by rw [← HLL.out, ← hR0.2.1]; rfl)
  go_upto_region 3 with (first
    | (refine wpList_store_bx (by rfl) 50 (.tmp 5) (.tmp 21) (by rfl) Z52 [.int .u16 (sn : Nat), .int .i64 (nd : Nat), .slice none 0 0] w2.heap.size (by rfl) (by rfl) (Bx.new w2 50 Z52) (by rfl) hi63 (by intro v hv; simp at hv; rcases hv with rfl | rfl | rfl <;> rfl) ?_; intro w3 h5 h6; have H3 : Hid (Bx w3 w2.heap.size 50 [.int .u16 (sn : Nat), .int .i64 (nd : Nat), .slice none 0 0] ∧ Bx w3 (M + 1) 72 LL ∧ Bx w3 M 50 Z52 ∧ Below M w w3) := (by
        have hb : Below w2.heap.size w2 w3 := ((Below.refl _ _).alloc (Nat.le_refl _) _).trans (below_gb h6 (by simp) (Nat.le_refl _))
        exact ⟨h5, H2.out.1.below hb, H2.out.2.1.below hb, H2.out.2.2.1.trans (hb.mono (by have := H2.out.2.2.2; omega))⟩); clear h5 h6)
    | fail)
  obtain ⟨SB, HSB⟩ : ∃ z, Hid (w2.heap.size = z) := ⟨_, rfl⟩
  rw [HSB.out] at H3 ⊢
  have HSM : Hid (M + 2 ≤ SB) := by show _ ≤ _; rw [← HSB.out]; exact H2.out.2.2.2
  clear HSB H2 k0 k1
  try simp only [Act.put]
  have k1 : w3.cell? ⟨M + 1, 1, none⟩ = some (.int .i64 (nd : Nat)) := H3.out.2.1.cell 1 _ (by rw [← HLL.out, ← hR0.2.1]; rfl)
  have k4 : w3.cell? ⟨M + 1, 4, none⟩ = some (.slice (some ⟨q 0, 5, none⟩) n (c 0 - 5)) := H3.out.2.1.cell 4 _ (by rw [← HLL.out, hn.out.2.2.2.2.1, ← hR0.2.2]; rfl)
  have y0 : (0 : Int) ≤ (nd : Int) := by omega
  have y1 : (nd : Int) ≤ (cp : Int) := by have := hn.out; omega
  have y2 : (nd : Int) ≤ (m : Int) := by have := hn.out; omega
  have y3 : IntKind.i64.wrap (nd : Int) = (nd : Int) := by rw [IntKind.wrap_i64]; have := hn.out; omega
  go_quiet (fail)
  have H3q : Hid (Bx (w3.drewN nq) SB 50 [.int .u16 (sn : Nat), .int .i64 (nd : Nat), .slice none 0 0] ∧ Bx (w3.drewN nq) (M + 1) 72 LL ∧ Bx (w3.drewN nq) M 50 Z52 ∧ Below M w (w3.drewN nq)) := ⟨H3.out.1, H3.out.2.1, H3.out.2.2.1, below_drewN0 H3.out.2.2.2 nq⟩
  have k4q : (w3.drewN nq).cell? ⟨M + 1, 4, none⟩ = some (.slice (some ⟨q 0, 5, none⟩) n (c 0 - 5)) := k4
  clear k1 k4 H3
  generalize w3.drewN nq = w4 at H3q k4q ⊢
  have H4 : Hid (Bx w4 SB 50 [.int .u16 (sn : Nat), .int .i64 (nd : Nat), .slice none 0 0] ∧ Bx w4 (M + 1) 72 LL ∧ Bx w4 M 50 Z52 ∧ Below M w w4) := H3q.out
  clear H3q
  obtain ⟨A2, HA2⟩ : ∃ A2 : Option Addr, Hid ((if cp = nd then (some ⟨g, 0, none⟩ : Option Addr) else some ⟨g, nd * 5, none⟩) = A2) := ⟨_, rfl⟩
  rw [HA2.out]
  have HAL : Hid (nd < m → A2 = some ⟨g, 5 * nd, none⟩) := fun hlt => by rw [← HA2.out, if_neg (by have := hn.out; omega), Nat.mul_comm]
  clear HA2
  have HSH : Hid (∀ u, Below M w u → ShI u g 0 nd R q c ∧ ShI u g (5 * nd) (m - nd) (fun i => R (nd + i)) (fun i => q (nd + i)) (fun i => c (nd + i))) := fun u hu => by
    have z := (h.out.below (by rw [HMM.out]; exact hu)).part nd hn.out.2.2.1
    rw [Nat.zero_add] at z
    exact z
  have H55 : Hid (∀ u cc, Below M w u → Calls Tryd.prog 52 #[.slice (some ⟨g, 0, none⟩) nd cc] u fun e w' => Hid (∃ b, e = .returned (.slice (some ⟨b, 0, none⟩) nd nd) ∧ u.heap.size ≤ b ∧ Bx w' b 5 (fc (ixsL R nd)) ∧ Below u.heap.size u w')) := fun u cc hu => indices_ok g 0 nd cc R q c u (show nd ≤ 1000 by have := hn.out; omega) (HSH.out u hu).1
  go_upto_region 5 with (first
    | (go_at_call 52; refine (H55.out w4 cp H4.out.2.2.2).mono ?_; intro e5 w5 h5; obtain ⟨rg, rfl, h6, h7, h8⟩ := h5.out; have H5 : Hid (Bx w5 rg 5 (fc (ixsL R nd)) ∧ M < rg ∧ Bx w5 SB 50 [.int .u16 (sn : Nat), .int .i64 (nd : Nat), .slice none 0 0] ∧ Bx w5 (M + 1) 72 LL ∧ Bx w5 M 50 Z52 ∧ Below M w w5) := ⟨h7, by have := H4.out.2.2.1.lt; omega, H4.out.1.below h8, H4.out.2.1.below h8, H4.out.2.2.1.below h8, H4.out.2.2.2.trans (h8.mono (Nat.le_of_lt H4.out.2.2.1.lt))⟩; have k5 : w5.cell? ⟨M + 1, 4, none⟩ = some (.slice (some ⟨q 0, 5, none⟩) n (c 0 - 5)) := H5.out.2.2.2.1.cell 4 _ (by rw [← HLL.out, hn.out.2.2.2.2.1, ← hR0.2.2]; rfl); clear h5 h6 h7 h8 k4q)
    | (go_at_call 51; refine (peaks_ok rg 0 nd nd (ixsL R nd) w5 (by simp [ixsL]) (by have := hn.out; omega) (bx_rw H5.out.1) H5.out.1.lt).mono ?_; intro e6 w6 h6; obtain ⟨PG, rfl, h7, h8⟩ := h6.out; have H6 : Hid (PkI M PG nd nd (ixsL R nd) w w6 ∧ Bx w6 rg 5 (fc (ixsL R nd)) ∧ M < rg ∧ Bx w6 SB 50 [.int .u16 (sn : Nat), .int .i64 (nd : Nat), .slice none 0 0] ∧ Bx w6 (M + 1) 72 LL ∧ Bx w6 M 50 Z52 ∧ Below M w w6) := (by
        have hb := h8.bel
        have hbw : Below M w w6 := H5.out.2.2.2.2.2.trans (hb.mono (Nat.le_of_lt H5.out.2.2.2.2.1.lt))
        exact ⟨⟨h8.top, hbw⟩, H5.out.1.below hb, H5.out.2.1, H5.out.2.2.1.below hb, H5.out.2.2.2.1.below hb, H5.out.2.2.2.2.1.below hb, hbw⟩); clear h6 h7 h8)
    | fail)
  have k6 : w6.cell? ⟨M + 1, 4, none⟩ = some (.slice (some ⟨q 0, 5, none⟩) n (c 0 - 5)) := H6.out.2.2.2.2.1.cell 4 _ (by rw [← HLL.out, hn.out.2.2.2.2.1, ← hR0.2.2]; rfl)
  clear k5 H5 H55
  obtain ⟨C, HC⟩ : ∃ C : Nat → List F, Hid (C = ftC R nd) := ⟨ftC R nd, show _ = _ from rfl⟩
  have HST : Hid (NsI M SB rg sn nd s C (fc (ixsL R nd)) w w6 0 (.slice none 0 0) (fun _ => 0) (fun _ => 0) ∧ PkI M PG nd nd (ixsL R nd) w w6) := by
    obtain ⟨p1, p2, p3, p4, p5, p6, p7⟩ := H6.out
    exact ⟨⟨p6, p4, World.ownsRow_nil _ _ _ _, fun j hj => absurd hj (Nat.not_lt_zero j), p2, p7, by have := HSM.out; omega, p3⟩, p1⟩
  clear H4 H6
  go_wp2
  go_loopw [38] (fun vi wr => ∃ (i : Nat) (v : Value) (p q : Nat → Nat), i ≤ n ∧ vi = .int .i64 (i : Nat) ∧ Hid (NsI M SB rg sn nd s C (fc (ixsL R nd)) w wr i v p q ∧ PkI M PG nd nd (ixsL R nd) w wr)) (fun vi _ => n - (intOf vi).toNat)
  case atStart => exact ⟨0, _, _, _, by omega, rfl, HST.out⟩
  case round =>
    clear HST k6
    obtain ⟨i, v, p, q2, hi, rfl, HI⟩ := hrel
    rename World => wz
    by_cases hlt : i < n
    · have HLT : Hid (i < n ∧ n ≤ 68) := ⟨hlt, by have := hn.out; omega⟩
      have g1 : (i : Int) < (n : Int) := by omega
      have x1 : IntKind.i64.wrap ((i : Int) + 1) = ((i + 1 : Nat) : Int) := by rw [IntKind.wrap_i64]; have := HLT.out; omega
      go_upto_region 8 with fail
      obtain ⟨va, vc, rfl⟩ : ∃ va vc, v = .slice va i vc := by
        rcases HI.out.1.own.2 with ⟨q, q0⟩ | ⟨g', cap, cur, q, _⟩
        · exact ⟨none, 0, by rw [q, q0]⟩
        · exact ⟨_, _, q⟩
      have hS0 : Bx wz.drew SB 50 [.int .u16 (sn : Nat), .int .i64 (nd : Nat), .slice va i vc] := HI.out.1.box.keep rfl
      have HFD : Hid (NsI M SB rg sn nd s C (fc (ixsL R nd)) w wz.drew i (.slice va i vc) p q2 ∧ PkI M PG nd nd (ixsL R nd) w wz.drew) := ⟨HI.out.1.below ((Below.refl _ _).drew), HI.out.2.kpt (fun b t cs _ _ hx => hx.keep rfl) HI.out.2.bel.drew⟩
      clear HI hi hlt
      refine wp_region_noPanic ?_
      refine wp_region_till (fun u => Bx u SB 50 [.int .u16 (sn : Nat), .int .i64 (nd : Nat), .slice va i vc]) 10 (by kernel_rfl) (by decide) (by decide +kernel) (by decide +kernel) (by decide +kernel) (fun inv => ?_)
      refine till_at 0 41 (.pointer (some ⟨SB, 2, none⟩)) inv rfl rfl (by decide) (by decide +kernel) (by decide +kernel) (fun _ _ _ h => h) hS0 (Or.inl ⟨by rfl, fun w' hS' => by have k2 := hS'.cell 2 _ rfl; go_simp⟩) (fun inv' => ?_)
      clear inv; have inv := inv'; clear inv'
      try simp only [List.setIfInBounds_toArray, List.set_cons_zero, List.set_cons_succ]
      refine till_at 1 42 (.slice va i vc) inv rfl rfl (by decide) (by decide +kernel) (by decide +kernel) (fun _ _ _ h => h) hS0 (Or.inl ⟨by rfl, fun w' hS' => by have k2 := hS'.cell 2 _ rfl; go_simp⟩) (fun inv' => ?_)
      clear inv; have inv := inv'; clear inv'
      try simp only [List.setIfInBounds_toArray, List.set_cons_zero, List.set_cons_succ]
      refine till_at 2 43 (.slice (some ⟨PG, 0, none⟩) nd nd) inv rfl rfl (by decide) (by decide +kernel) (by decide +kernel) (fun _ _ _ h => h) hS0 (Or.inl ⟨by rfl, fun w' hS' => by have k2 := hS'.cell 2 _ rfl; go_simp⟩) (fun inv' => ?_)
      clear inv; have inv := inv'; clear inv'
      try simp only [List.setIfInBounds_toArray, List.set_cons_zero, List.set_cons_succ]
      refine till_at 3 44 (.slice (some ⟨g, 0, none⟩) nd cp) inv rfl rfl (by decide) (by decide +kernel) (by decide +kernel) (fun _ _ _ h => h) hS0 (Or.inl ⟨by rfl, fun w' hS' => by have k2 := hS'.cell 2 _ rfl; go_simp⟩) (fun inv' => ?_)
      clear inv; have inv := inv'; clear inv'
      try simp only [List.setIfInBounds_toArray, List.set_cons_zero, List.set_cons_succ]
      refine till_at 4 45 (.int .i64 (i : Nat)) inv rfl rfl (by decide) (by decide +kernel) (by decide +kernel) (fun _ _ _ h => h) hS0 (Or.inl ⟨by rfl, fun w' hS' => by have k2 := hS'.cell 2 _ rfl; go_simp⟩) (fun inv' => ?_)
      clear inv; have inv := inv'; clear inv'
      try simp only [List.setIfInBounds_toArray, List.set_cons_zero, List.set_cons_succ]
      refine till_head (i := 5) inv (by decide +kernel) (by decide) rfl (fun KK hK => ?_)
      go_simp
      refine (column_ok g 0 nd cp i s R q c _ (show nd ≤ 1000 by have := hn.out; omega) (HSH.out _ HFD.out.1.bel).1 (show _ ∧ _ ∧ _ from ⟨by have := HLT.out; have := hn.out; omega, hn.out.2.2.2.2.2.1, fun j hj => (hR.out j (by have := hn.out; omega)).2.2⟩)).mono ?_
      intro e5 w5 h5
      obtain ⟨cb, rfl, h6, h7, h8⟩ := h5.out
      have hS1 : Bx w5 SB 50 [.int .u16 (sn : Nat), .int .i64 (nd : Nat), .slice va i vc] := hS0.below h8
      have HF5 : Hid (NsI M SB rg sn nd s C (fc (ixsL R nd)) w w5 i (.slice va i vc) p q2 ∧ PkI M PG nd nd (ixsL R nd) w w5 ∧ Bx w5 cb 5 (fc (colL R nd i)) ∧ Below wz.drew.heap.size wz.drew w5) := ⟨HFD.out.1.below h8, HFD.out.2.kpt (fun b t cs _ _ hx => hx.below h8) (HFD.out.2.bel.trans (h8.mono (Nat.le_of_lt HFD.out.1.res.lt))), h7, h8⟩
      clear h5 h6 h7 h8
      go_wp2_with fail
      refine hK.out _ _ (hS1) (fun inv' => ?_)
      clear hK KK inv; have inv := inv'; clear inv'
      try simp only [List.setIfInBounds_toArray, List.set_cons_zero, List.set_cons_succ]
      refine till_head (i := 6) inv (by decide +kernel) (by decide) rfl (fun KK hK => ?_)
      go_simp
      refine (through_ok PG nd cb 0 nd M (ixsL R nd) (colL R nd i) w w5 (by have := hn.out; omega) HF5.out.2.1 (bx_rw HF5.out.2.2.1) (by simp [colL]) (by simp [ixsL]) HF5.out.2.2.1.lt).mono ?_
      intro e6 w6 h6
      obtain ⟨tb, rfl, h7, h8, h9⟩ := h6.out
      have hS2 : Bx w6 SB 50 [.int .u16 (sn : Nat), .int .i64 (nd : Nat), .slice va i vc] := hS1.below h9
      have HF6 : Hid (NsI M SB rg sn nd s C (fc (ixsL R nd)) w w6 i (.slice va i vc) p q2 ∧ PkI M PG nd nd (ixsL R nd) w w6 ∧ Bx w6 tb 5 (fc (C i)) ∧ Below wz.drew.heap.size wz.drew w6) := ⟨HF5.out.1.below h9, HF5.out.2.1.kpt (fun b t cs _ _ hx => hx.below h9) (HF5.out.2.1.bel.trans (h9.mono (Nat.le_of_lt HF5.out.1.res.lt))), by rw [HC.out]; exact h8, HF5.out.2.2.2.trans (h9.mono HF5.out.2.2.2.size)⟩
      clear h6 h7 h8 h9
      go_wp2_with fail
      refine hK.out _ _ (hS2) (fun inv' => ?_)
      clear hK KK inv; have inv := inv'; clear inv'
      try simp only [List.setIfInBounds_toArray, List.set_cons_zero, List.set_cons_succ]
      refine till_head (i := 7) inv (by decide +kernel) (by decide) rfl (fun KK hK => ?_)
      go_simp
      refine (withC_ok (.slice (some ⟨tb, 0, none⟩) nd nd) ⟨_, _, _, rfl⟩ _).mono ?_
      intro e7 w7 h7
      obtain ⟨rfl, h8, h9⟩ := h7.out
      obtain ⟨pb, HPB⟩ : ∃ pb, Hid (w6.heap.size = pb) := ⟨_, rfl⟩
      have hS3 : Bx w7 SB 50 [.int .u16 (sn : Nat), .int .i64 (nd : Nat), .slice va i vc] := hS2.below h9
      have HF7 : Hid (NsI M SB rg sn nd s C (fc (ixsL R nd)) w w7 i (.slice va i vc) p q2 ∧ PkI M PG nd nd (ixsL R nd) w w7 ∧ Bx w7 tb 5 (fc (C i)) ∧ Bx w7 pb 23 [.slice (some ⟨tb, 0, none⟩) nd nd] ∧ Below wz.drew.heap.size wz.drew w7) := ⟨HF6.out.1.below h9, HF6.out.2.1.kpt (fun b t cs _ _ hx => hx.below h9) (HF6.out.2.1.bel.trans (h9.mono (Nat.le_of_lt HF6.out.1.res.lt))), HF6.out.2.2.1.below h9, by rw [← HPB.out]; exact h8, HF6.out.2.2.2.trans (h9.mono HF6.out.2.2.2.size)⟩
      rw [HPB.out]
      clear h7 h8 h9
      go_wp2_with fail
      refine hK.out _ _ (hS3) (fun inv' => ?_)
      clear hK KK inv; have inv := inv'; clear inv'
      try simp only [List.setIfInBounds_toArray, List.set_cons_zero, List.set_cons_succ]
      refine till_head (i := 8) inv (by decide +kernel) (by decide) rfl (fun KK hK => ?_)
      go_simp
      obtain ⟨wa, hwa⟩ : ∃ u, u = w7.alloc (.cells #[.func (.func 40) #[] #[.pointer (some ⟨pb, 0, none⟩)]] 60) := ⟨_, rfl⟩
      have HFA : Hid (Below wz.drew.heap.size wz.drew wa ∧ NsI M SB rg sn nd s C (fc (ixsL R nd)) w wa i (.slice va i vc) p q2 ∧ PkI M PG nd nd (ixsL R nd) w wa ∧ Bx wa tb 5 (fc (C i)) ∧ Bx wa pb 23 [.slice (some ⟨tb, 0, none⟩) nd nd] ∧ (∀ j u, [Value.func (.func 40) #[] #[.pointer (some ⟨pb, 0, none⟩)]][j]? = some u → wa.cell? ((⟨w7.heap.size, 0, none⟩ : Addr).add j) = some u)) := by
        have hb : Below w7.heap.size w7 wa := by rw [hwa]; exact (Below.refl _ _).alloc (Nat.le_refl _) _
        refine ⟨HF7.out.2.2.2.2.trans (hb.mono HF7.out.2.2.2.2.size), HF7.out.1.below hb, HF7.out.2.1.kpt (fun b t cs _ _ hx => hx.below hb) (HF7.out.2.1.bel.trans (hb.mono (Nat.le_of_lt HF7.out.1.res.lt))), HF7.out.2.2.1.below hb, HF7.out.2.2.2.1.below hb, ?_⟩
        rw [hwa]
        exact World.news_of_block (cs := #[.func (.func 40) #[] #[.pointer (some ⟨pb, 0, none⟩)]]) (heap_alloc_new w7 _)
      try rw [← hwa]
      have hS4 : Bx wa SB 50 [.int .u16 (sn : Nat), .int .i64 (nd : Nat), .slice va i vc] := HFA.out.2.1.box
      clear hwa HF7 HF6 HF5
      skip
      refine hK.out _ _ (hS4) (fun inv' => ?_)
      clear hK KK inv; have inv := inv'; clear inv'
      try simp only [List.setIfInBounds_toArray, List.set_cons_zero, List.set_cons_succ]
      refine till_head (i := 9) inv (by decide +kernel) (by decide) rfl (fun KK hK => ?_)
      skip
      refine step_append_lies wa rfl (.tmp 42) (.tmp 49) 48 rfl M 60 i6 .nilFunc 1 8 Tryd.und50 HI6.out.1 HI6.out.2.1 HI6.out.2.2.1 HI6.out.2.2.2 rfl (by decide) (.slice va i vc) i ((List.range i).map (fV p)) rfl HFA.out.2.1.own ⟨w7.heap.size, 0, none⟩ 1 1 [.func (.func 40) #[] #[.pointer (some ⟨pb, 0, none⟩)]] rfl rfl HFA.out.2.2.2.2.2 (by intro x hx; simp at hx; subst hx; rfl) (by decide) (by have := HLT.out; unfold maxLen; omega) (by have := HLT.out; omega) (Nat.le_of_lt HFA.out.2.1.res.lt) _ rfl ?_
      intro gv cv w9 hown hgrow hgv hgl
      have HAP : Hid (w9.ownsRow M 60 1 (.slice (some ⟨gv, 0, none⟩) (i + 1) cv) (i + 1) ((List.range i).map (fV p) ++ [.func (.func 40) #[] #[.pointer (some ⟨pb, 0, none⟩)]]) ∧ wa.grownBy w9 (Value.slice va i vc).ownBlock) := ⟨hown, hgrow⟩
      have hS5 : Bx w9 SB 50 [.int .u16 (sn : Nat), .int .i64 (nd : Nat), .slice va i vc] := bx_apart HFA.out.2.1.own HAP.out.2 (by decide) hS4
      clear hown hgrow hgv hgl
      skip
      refine hK.out _ _ (hS5) (fun inv' => ?_)
      clear hK KK inv; have inv := inv'; clear inv'
      try simp only [List.setIfInBounds_toArray, List.set_cons_zero, List.set_cons_succ]
      refine till_tail (i := 10) (by decide +kernel) (by decide) rfl (fun KK hK => ?_)
      rw [if_pos (by rfl)]
      go_simp
      refine hK.out _ _ ?_
      clear hK KK
      try simp only [List.setIfInBounds_toArray, List.set_cons_zero, List.set_cons_succ]
      refine till_tail (i := 11) (by decide +kernel) (by decide) rfl (fun KK hK => ?_)
      rw [if_pos (by rfl)]
      have c2 := hS5.cell 2 _ rfl
      have f2 := hS5.frozen 2
      go_simp
      refine hK.out _ _ ?_
      clear hK KK
      try simp only [List.setIfInBounds_toArray, List.set_cons_zero, List.set_cons_succ]
      refine till_done (by decide +kernel) ?_ _
      refine NoPanic.normal ?_
      have HN : Hid (NsI M SB rg sn nd s C (fc (ixsL R nd)) w (w9.setCell ⟨SB, 2, none⟩ (.slice (some ⟨gv, 0, none⟩) (i + 1) cv)) (i + 1) (.slice (some ⟨gv, 0, none⟩) (i + 1) cv) (fun j => if j = i then pb else p j) (fun j => if j = i then tb else q2 j) ∧ PkI M PG nd nd (ixsL R nd) w (w9.setCell ⟨SB, 2, none⟩ (.slice (some ⟨gv, 0, none⟩) (i + 1) cv))) := by
        have z := HFA.out.2.1.more (Below.refl _ _) HFA.out.2.2.2.2.1 HFA.out.2.2.2.1 (by rw [HC.out]; unfold ftC; rw [thruL_len]; simp [ixsL]) HAP.out.1 HAP.out.2 (hS5.set 2 _) (set_gb _ _ _ _)
        exact ⟨z, HFA.out.2.2.1.kpt (HFA.out.2.1.kpt HAP.out.2 (set_gb _ _ _ _)) z.bel⟩
      generalize w9.setCell ⟨SB, 2, none⟩ (.slice (some ⟨gv, 0, none⟩) (i + 1) cv) = w10 at HN ⊢
      clear hS0 hS1 hS2 hS3 hS4 hS5 HFA HAP HFD
      go_wp2
      go_roundw
      case rel => exact ⟨i + 1, _, _, _, by have := HLT.out; omega, by go_num, HN.out⟩
      case measure => simp [intOf]; have := HLT.out; omega
    · have hin : i = n := by omega
      subst hin
      have g1 : ¬ (i : Int) < (i : Int) := by omega
      obtain ⟨LB, lc, rfl, HFN⟩ := HI.out.1.fin (by have := hn.out; omega)
      have HWF : Hid (Bx wz SB 50 [.int .u16 (sn : Nat), .int .i64 (nd : Nat), .slice (some ⟨LB, 0, none⟩) i lc] ∧ Bx wz M 50 Z52 ∧ PolI LB i nd C p q2 wz ∧ Below M w wz) := ⟨HI.out.1.box, HI.out.1.res, (HFN.out wz (gb_refl _ _)).1, HI.out.1.bel⟩
      have HLC : Hid (i ≤ lc) := by
        rcases HI.out.1.own.2 with ⟨q, _⟩ | ⟨g', cap, cur, q, _, _, h3, _⟩
        · cases q
        · injection q with _ _ q
          subst q
          exact h3
      clear HI HFN hi hlt
      go_wp2
      go_loopw [55] (fun vj wr => ∃ j : Nat, j ≤ m - nd ∧ vj = .int .i64 (j : Nat) ∧ Hid ((∀ k, k < j → fitV R nd i (nd + k)) ∧ Below wz.heap.size wz wr)) (fun vj _ => m - nd - (intOf vj).toNat)
      case atStart => exact ⟨0, by omega, rfl, fun k hk => absurd hk (Nat.not_lt_zero k), Below.refl _ _⟩
      case round =>
        obtain ⟨j, hj, rfl, HJ⟩ := hrel
        rename World => wo
        have hsub : ((m : Int) - (nd : Int)) = ((m - nd : Nat) : Int) := by have := hn.out; omega
        by_cases hjl : j < m - nd
        · have hA := HAL.out (by omega)
          subst hA
          have HJL : Hid (j < m - nd) := hjl
          have g2 : (j : Int) < ((m - nd : Nat) : Int) := by omega
          obtain ⟨L3, HL3⟩ : ∃ z : List Value, Hid (shV (R (nd + j)) (q (nd + j)) (c (nd + j)) = z) := ⟨_, rfl⟩
          have HL35 : Hid (L3.length = 5 ∧ ∀ v ∈ L3, v.oneCell' = true) := by rw [← HL3.out]; exact ⟨shV_len _ _ _, shV_one _ _ _⟩
          have hiL3 : (Tryd.prog.info? 72).map (·.size) = some L3.length := by rw [HL35.out.1]; exact hi78
          have HMZ : Hid (M ≤ wz.heap.size ∧ SB < wz.heap.size) := ⟨Nat.le_of_lt HWF.out.2.1.lt, HWF.out.1.lt⟩
          have HRG3 : Hid (wo.rangeAt g (5 * nd + j * 5) L3) := by
            rw [← HL3.out, Nat.mul_comm j 5]
            exact (HSH.out wo (HWF.out.2.2.2.trans (HJ.out.2.mono HMZ.out.1))).2.cells j hjl
          obtain ⟨X, HX⟩ : ∃ X : F, Hid ((R (nd + j)).getD 3 0 = X) := ⟨_, rfl⟩
          have HRJ := hR.out (nd + j) (by omega)
          have HL32 : Hid (L3[2]? = some (.int .i64 (X.1 : Nat))) := by show _ = _; rw [← HL3.out, ← HX.out]; rfl
          have HL34 : Hid (L3[4]? = some (.slice (some ⟨q (nd + j), 5, none⟩) i (c (nd + j) - 5))) := by show _ = _; rw [← HL3.out, hn.out.2.2.2.2.1, ← HRJ.2.2]; rfl
          have x8 : IntKind.u8.wrap ((X.1 : Nat) : Int) = ((X.1 : Nat) : Int) := wraps_u8 _ (by omega) (by have := X.2; omega)
          obtain ⟨VL, HVL⟩ : ∃ z : List F, Hid (((List.range i).map fun v => pv X (C v)) = z) := ⟨_, rfl⟩
          have H35 : Hid (∀ u, Below wz.heap.size wz u → Calls Tryd.prog 32 #[.int .u8 (X.1 : Nat), .slice (some ⟨LB, 0, none⟩) i lc] u fun e w' => Hid (∃ g, e = .returned (.slice (some ⟨g, 0, none⟩) i i) ∧ Bx w' g 5 (fc VL) ∧ Below u.heap.size u w')) := fun u hu => (values_ok LB i nd lc X C p q2 u (by have := hn.out; omega) (by have := hn.out; omega) (HWF.out.2.2.1.below (Nat.le_refl _) hu)).mono fun e w' hh => by
            obtain ⟨g', e1, _, e2, e3⟩ := hh.out
            exact ⟨g', e1, by rw [← HVL.out]; exact e2, e3⟩
          obtain ⟨BB, HBB⟩ : ∃ z : Bool, Hid (decide (VL = vlF (R (nd + j))) = z) := ⟨_, rfl⟩
          have H53 : Hid (∀ u vg, Bx u vg 5 (fc VL) → Below wz.heap.size wz u → Calls Tryd.prog 50 #[.slice (some ⟨vg, 0, none⟩) i i, .slice (some ⟨q (nd + j), 5, none⟩) i (c (nd + j) - 5)] u fun e w' => e = .returned (.bool BB) ∧ w' = u) := fun u vg hv hu => by
            have hs := (HSH.out u (HWF.out.2.2.2.trans (hu.mono HMZ.out.1))).2
            obtain ⟨r1, r2, _⟩ := hs.row j hjl
            obtain ⟨v1, v2⟩ := rw_vals r1 r2
            rw [← HBB.out]
            exact bequal_ok vg 0 i i (q (nd + j)) 5 i (c (nd + j) - 5) VL (vlF (R (nd + j))) u (by rw [← HVL.out]; simp) (by rw [v2, HRJ.2.2, hn.out.2.2.2.2.1]) (bx_rw hv) v1
          have HFIT : Hid (BB = true ↔ fitV R nd i (nd + j)) := by
            show _ ↔ _
            rw [← HBB.out, decide_eq_true_eq, ← HVL.out, ← HX.out, HC.out]
            exact Iff.rfl
          obtain ⟨P, HP⟩ : ∃ z, Hid (wo.heap.size = z) := ⟨_, rfl⟩
          have gj0 : (0 : Int) ≤ (j : Int) := by omega
          have gj : IntKind.i64.wrap ((j : Int) + 1) = ((j + 1 : Nat) : Int) := by rw [IntKind.wrap_i64]; have := hn.out; omega
          clear hj hjl HVL HBB
          go_upto_region 13 with (first
            | (refine wpList_load_mid (by rfl) 72 (.tmp 57) (by rfl) g (5 * nd + j * 5) (by rfl) L3 _ HRG3.out Tryd.underlying72 rfl hiL3 ?_)
            | (refine wpList_store_bx (by rfl) 72 (.tmp 11) (.tmp 58) (by rfl) Zsh L3 wo.heap.size (by rfl) (by rfl) (Bx.new wo 72 Zsh) (by rw [HL35.out.1]; rfl) hiL3 HL35.out.2 ?_; intro w5 h5 h6; have H5 : Hid (Bx w5 P 72 L3 ∧ Bx w5 SB 50 [.int .u16 (sn : Nat), .int .i64 (nd : Nat), .slice (some ⟨LB, 0, none⟩) i lc] ∧ Bx w5 M 50 Z52 ∧ Below wz.heap.size wz w5) := (by
                have hb : Below wo.heap.size wo w5 := ((Below.refl _ _).alloc (Nat.le_refl _) _).trans (below_gb h6 (by simp) (Nat.le_refl _))
                have hbz : Below wz.heap.size wz w5 := HJ.out.2.trans (hb.mono HJ.out.2.size)
                exact ⟨by rw [← HP.out]; exact h5, HWF.out.1.below hbz, HWF.out.2.1.below hbz, hbz⟩); clear h5 h6)
            | fail)
          rw [HP.out]
          try simp only [Act.put]
          have hS0 : Bx w5.drew P 72 L3 ∧ Bx w5.drew SB 50 [.int .u16 (sn : Nat), .int .i64 (nd : Nat), .slice (some ⟨LB, 0, none⟩) i lc] := ⟨H5.out.1.keep rfl, H5.out.2.1.keep rfl⟩
          clear HRG3
          refine wp_region_noPanic ?_
          refine wp_region_held_drew (S := (fun u => Bx u P 72 L3 ∧ Bx u SB 50 [.int .u16 (sn : Nat), .int .i64 (nd : Nat), .slice (some ⟨LB, 0, none⟩) i lc])) (by kernel_rfl) (hS0) (fun _ => ?_)
          refine takeH_at 0 59 (.pointer (some ⟨P, 0, none⟩)) rfl rfl (by kernel_rfl) (by kernel_rfl) (by kernel_rfl) (fun _ _ _ h => h) (hS0) (Or.inl ⟨by rfl, fun w' hS' => by have k2 := hS'.1.cell 2 _ HL32.out; have k4 := hS'.1.cell 4 _ HL34.out; have k5 := hS'.2.cell 2 _ rfl; go_simp⟩) ?_
          try simp only [List.setIfInBounds_toArray, List.set_cons_zero, List.set_cons_succ]
          refine takeH_at 1 60 (.pointer (some ⟨P, 2, none⟩)) rfl rfl (by kernel_rfl) (by kernel_rfl) (by kernel_rfl) (fun _ _ _ h => h) (hS0) (Or.inl ⟨by rfl, fun w' hS' => by have k2 := hS'.1.cell 2 _ HL32.out; have k4 := hS'.1.cell 4 _ HL34.out; have k5 := hS'.2.cell 2 _ rfl; go_simp⟩) ?_
          try simp only [List.setIfInBounds_toArray, List.set_cons_zero, List.set_cons_succ]
          refine takeH_at 2 61 (.int .i64 (X.1 : Nat)) rfl rfl (by kernel_rfl) (by kernel_rfl) (by kernel_rfl) (fun _ _ _ h => h) (hS0) (Or.inl ⟨by rfl, fun w' hS' => by have k2 := hS'.1.cell 2 _ HL32.out; have k4 := hS'.1.cell 4 _ HL34.out; have k5 := hS'.2.cell 2 _ rfl; go_simp⟩) ?_
          try simp only [List.setIfInBounds_toArray, List.set_cons_zero, List.set_cons_succ]
          refine takeH_at 3 62 (.int .u8 (X.1 : Nat)) rfl rfl (by kernel_rfl) (by kernel_rfl) (by kernel_rfl) (fun _ _ _ h => h) (hS0) (Or.inl ⟨by rfl, fun w' hS' => by have k2 := hS'.1.cell 2 _ HL32.out; have k4 := hS'.1.cell 4 _ HL34.out; have k5 := hS'.2.cell 2 _ rfl; go_simp⟩) ?_
          try simp only [List.setIfInBounds_toArray, List.set_cons_zero, List.set_cons_succ]
          refine takeH_at 4 63 (.pointer (some ⟨SB, 2, none⟩)) rfl rfl (by kernel_rfl) (by kernel_rfl) (by kernel_rfl) (fun _ _ _ h => h) (hS0) (Or.inl ⟨by rfl, fun w' hS' => by have k2 := hS'.1.cell 2 _ HL32.out; have k4 := hS'.1.cell 4 _ HL34.out; have k5 := hS'.2.cell 2 _ rfl; go_simp⟩) ?_
          try simp only [List.setIfInBounds_toArray, List.set_cons_zero, List.set_cons_succ]
          refine takeH_at 5 64 (.slice (some ⟨LB, 0, none⟩) i lc) rfl rfl (by kernel_rfl) (by kernel_rfl) (by kernel_rfl) (fun _ _ _ h => h) (hS0) (Or.inl ⟨by rfl, fun w' hS' => by have k2 := hS'.1.cell 2 _ HL32.out; have k4 := hS'.1.cell 4 _ HL34.out; have k5 := hS'.2.cell 2 _ rfl; go_simp⟩) ?_
          try simp only [List.setIfInBounds_toArray, List.set_cons_zero, List.set_cons_succ]
          refine takeH_at 7 66 (.pointer (some ⟨P, 4, none⟩)) rfl rfl (by kernel_rfl) (by kernel_rfl) (by kernel_rfl) (fun _ _ _ h => h) (hS0) (Or.inl ⟨by rfl, fun w' hS' => by have k2 := hS'.1.cell 2 _ HL32.out; have k4 := hS'.1.cell 4 _ HL34.out; have k5 := hS'.2.cell 2 _ rfl; go_simp⟩) ?_
          try simp only [List.setIfInBounds_toArray, List.set_cons_zero, List.set_cons_succ]
          refine takeH_at 8 67 (.slice (some ⟨q (nd + j), 5, none⟩) i (c (nd + j) - 5)) rfl rfl (by kernel_rfl) (by kernel_rfl) (by kernel_rfl) (fun _ _ _ h => h) (hS0) (Or.inl ⟨by rfl, fun w' hS' => by have k2 := hS'.1.cell 2 _ HL32.out; have k4 := hS'.1.cell 4 _ HL34.out; have k5 := hS'.2.cell 2 _ rfl; go_simp⟩) ?_
          try simp only [List.setIfInBounds_toArray, List.set_cons_zero, List.set_cons_succ]
          refine wpAnyH_ready (rs := [6]) (by kernel_rfl) (by simp) ?_
          refine AllReadyH.cons rfl (fun KK hK => ?_) AllReadyH.nil
          go_simp
          refine (H35.out _ H5.out.2.2.2.drew).mono ?_
          intro e6 w6 h6
          obtain ⟨vg, rfl, h7, h8⟩ := h6.out
          have hS1 : Bx w6 P 72 L3 ∧ Bx w6 SB 50 [.int .u16 (sn : Nat), .int .i64 (nd : Nat), .slice (some ⟨LB, 0, none⟩) i lc] := ⟨hS0.1.below h8, hS0.2.below h8⟩
          have H6 : Hid (Bx w6 vg 5 (fc VL) ∧ Below wz.heap.size wz w6) := ⟨h7, H5.out.2.2.2.drew.trans (h8.mono H5.out.2.2.2.size)⟩
          clear h6 h7 h8
          go_wp2_with fail
          refine hK.out _ _ hS1 (fun _ => ?_)
          clear hK KK
          try simp only [List.setIfInBounds_toArray, List.set_cons_zero, List.set_cons_succ]
          refine wpAnyH_ready (rs := [9]) (by kernel_rfl) (by simp) ?_
          refine AllReadyH.cons rfl (fun KK hK => ?_) AllReadyH.nil
          go_simp
          refine (H53.out w6 vg H6.out.1 H6.out.2).mono ?_
          rintro e7 w7 ⟨rfl, hw⟩
          obtain rfl := hw.symm
          go_wp2_with fail
          refine hK.out _ _ hS1 (fun _ => ?_)
          clear hK KK
          try simp only [List.setIfInBounds_toArray, List.set_cons_zero, List.set_cons_succ]
          refine takeH_at 10 69 (.bool (!BB)) rfl rfl (by kernel_rfl) (by kernel_rfl) (by kernel_rfl) (fun _ _ _ h => h) (hS1) (Or.inl ⟨by rfl, fun w' hS' => by go_simp⟩) ?_
          try simp only [List.setIfInBounds_toArray, List.set_cons_zero, List.set_cons_succ]
          refine wpAnyH_done (by kernel_rfl) ?_ _
          refine NoPanic.normal ?_
          have H6z : Hid (Bx w6 SB 50 [.int .u16 (sn : Nat), .int .i64 (nd : Nat), .slice (some ⟨LB, 0, none⟩) i lc] ∧ Bx w6 M 50 Z52 ∧ Below wz.heap.size wz w6) := ⟨hS1.2, HWF.out.2.1.below H6.out.2, H6.out.2⟩
          clear hS0 hS1 H6 H5 H35 H53
          cases BB with
          | false =>
            have HNF : Hid (¬ fitV R nd i (nd + j)) := fun hf => by
              have := HFIT.out.2 hf
              cases this
            clear HFIT
            go_wp2_with (first
              | (refine wpList_store_bx (by rfl) 50 (.tmp 2) (.tmp 70) (by rfl) Z52 Z52 M (by rfl) (by rfl) H6z.out.2.1 (by rfl) hi63 (by intro v hv; simp [Z52] at hv; rcases hv with rfl | rfl | rfl <;> rfl) ?_; intro w9 h9 h10)
              | fail)
            refine ret_agg_tmp (b := M) Z52 _ rfl rfl rfl h9.range Tryd.underlying50 rfl hi63 ?_
            exact ⟨.inl ⟨⟨nd + j, by omega, by have := HJL.out; omega, HNF.out⟩, rfl⟩, (HWF.out.2.2.2.trans (H6z.out.2.2.mono HMZ.out.1)).trans (below_gb h10 (Nat.le_of_lt H6z.out.2.1.lt) (Nat.le_refl _))⟩
          | true =>
            have HFJ : Hid (∀ k, k < j + 1 → fitV R nd i (nd + k)) := fun k hk => by
              by_cases e : k = j
              · subst e; exact HFIT.out.1 rfl
              · exact HJ.out.1 k (by omega)
            clear HFIT
            go_wp2
            go_roundw
            case rel => exact ⟨j + 1, by have := HJL.out; omega, by go_num, HFJ.out, H6z.out.2.2⟩
            case measure => simp [intOf]; have := HJL.out; omega
        · have hjm : j = m - nd := by omega
          have g2 : ¬ (j : Int) < ((m - nd : Nat) : Int) := by omega
          have HFA : Hid (∀ k, nd ≤ k → k < m → fitV R nd i k) := fun k h1 h2 => by
            have z := HJ.out.1 (k - nd) (by omega)
            rw [show nd + (k - nd) = k by omega] at z
            exact z
          have HWO : Hid (Bx wo SB 50 [.int .u16 (sn : Nat), .int .i64 (nd : Nat), .slice (some ⟨LB, 0, none⟩) i lc] ∧ Bx wo M 50 Z52 ∧ PolI LB i nd C p q2 wo ∧ Below M w wo ∧ M ≠ SB) := ⟨HWF.out.1.below HJ.out.2, HWF.out.2.1.below HJ.out.2, HWF.out.2.2.1.below (Nat.le_refl _) HJ.out.2, HWF.out.2.2.2.trans (HJ.out.2.mono (Nat.le_of_lt HWF.out.2.1.lt)), by have := HSM.out; omega⟩
          have HRGS := HWO.out.1.range
          clear HJ hj hjl HWF
          subst hjm
          go_wp2_with (first
            | (refine wpList_load_mid (by rfl) 50 (.tmp 5) (by rfl) SB 0 (by rfl) [.int .u16 (sn : Nat), .int .i64 (nd : Nat), .slice (some ⟨LB, 0, none⟩) i lc] _ HRGS Tryd.underlying50 rfl hi63 ?_)
            | (refine wpList_store_bx (by rfl) 50 (.tmp 2) (.tmp 72) (by rfl) Z52 [.int .u16 (sn : Nat), .int .i64 (nd : Nat), .slice (some ⟨LB, 0, none⟩) i lc] M (by rfl) (by rfl) HWO.out.2.1 (by rfl) hi63 (by intro v hv; simp at hv; rcases hv with rfl | rfl | rfl <;> rfl) ?_; intro w9 h9 h10)
            | fail)
          refine ret_agg_tmp (b := M) [.int .u16 (sn : Nat), .int .i64 (nd : Nat), .slice (some ⟨LB, 0, none⟩) i lc] _ rfl rfl rfl h9.range Tryd.underlying50 rfl hi63 ?_
          refine ⟨.inr ⟨HFA.out, LB, lc, p, q2, rfl, HLC.out, ?_⟩, HWO.out.2.2.2.1.trans (below_gb h10 (Nat.le_of_lt HWO.out.2.1.lt) (Nat.le_refl _))⟩
          rw [← HC.out]
          exact HWO.out.2.2.1.other h10 HWO.out.2.1
end Go.Proofs.YtinmhgackihakaaDoor
namespace Go.Proofs.YtinmhgackihakaaDoor
open Go.RowKit
set_option linter.unusedVariables false
set_option linter.unusedSimpArgs false
set_option maxRecDepth 100000
/-- The polynomials where they lie: their coefficients, the highest power first. -/
structure PolO (LB o n m : Nat) (C : Nat → List F) (p q : Nat → Nat) (u : World) : Prop where
  at' : ∀ i, i < n → u.cell? ⟨LB, o + i, none⟩ = some (.func (.func 40) #[] #[.pointer (some ⟨p i, 0, none⟩)])
  box : ∀ i, i < n → ∃ c, u.cell? ⟨p i, 0, none⟩ = some (.slice (some ⟨q i, 0, none⟩) m c)
  row : ∀ i, i < n → Rw u (q i) 0 (C i) ∧ (C i).length = m
theorem PolO.below {LB o n m B : Nat} {C : Nat → List F} {p q : Nat → Nat} {u v : World} (h : PolO LB o n m C p q u) (hB : u.heap.size ≤ B) (hv : Below B u v) : PolO LB o n m C p q v :=
  have hc : ∀ a x, u.cell? a = some x → v.cell? a = some x := fun a x e => by rw [hv.cell (by have := World.block_lt_of_cell? _ _ e; omega)]; exact e
  ⟨fun i hi => hc _ _ (h.at' i hi), fun i hi => by obtain ⟨c, e⟩ := h.box i hi; exact ⟨c, hc _ _ e⟩, fun i hi => ⟨fun j hj => hc _ _ ((h.row i hi).1 j hj), (h.row i hi).2⟩⟩
set_option maxHeartbeats 1600000 in
/-- valuesAt. -/
theorem valuesO_ok (LB o n m c : Nat) (x : F) (C : Nat → List F) (p q : Nat → Nat) (w : World) (hn : n ≤ 1000) (hm : m ≤ 4000) (h : PolO LB o n m C p q w) :
    Calls Tryd.prog 32 #[.int .u8 (x.1 : Nat), .slice (some ⟨LB, o, none⟩) n c] w fun e w' => Hid (∃ g, e = .returned (.slice (some ⟨g, 0, none⟩) n n) ∧ w.heap.size ≤ g ∧ Bx w' g 5 (fc ((List.range n).map fun i => pv x (C i))) ∧ Below w.heap.size w w') := by
  obtain ⟨G, HG⟩ : ∃ G : Nat → F, Hid ((fun i => pv x (C i)) = G) := ⟨_, rfl⟩
  rw [HG.out]
  obtain ⟨i0, hi0, hz0, hz1, hz2⟩ := info_parts Tryd.infoB
  have HI0 : Hid (Tryd.prog.info? 5 = some i0 ∧ i0.zero = some (.int .u8 0) ∧ i0.size = 1 ∧ i0.bytes = 1) := ⟨hi0, hz0, hz1, hz2⟩
  have HMF : Hid (i0.bytes * n ≤ 281474976710656 ∧ n ≤ maxLen) := made_few i0.bytes n n 1 (by decide) HI0.out.2.2.2 (by omega)
  have HP : Hid (PolO LB o n m C p q w) := h
  obtain ⟨g, HBB⟩ : ∃ g, Hid (w.heap.size = g) := ⟨_, rfl⟩
  clear hi0 hz0 hz1 hz2 h
  go_enter Tryd.func32, Tryd.ntmps32
  go_wp2_with (first
    | (at_make; go_must (refine wpList_make_full _ rfl _ _ 23 rfl w.heap.size 5 i0 (.int .u8 0) 1 Tryd.underlying23 HI0.out.1 HI0.out.2.1 HI0.out.2.2.1 .i64 .i64 (n : Nat) (n : Nat) n rfl rfl rfl rfl HMF.out.1 HMF.out.2 (Nat.le_refl _) ?_; intro w2 hown hgrow; have hlo : Below w.heap.size w w2 := ⟨hgrow.os, hgrow.tape, hgrow.output, hgrow.size, fun c hc => hgrow.block c hc (by simp)⟩; have HX2 : Hid ((∃ cu, Bx w2 g 5 cu ∧ Cu n 0 G cu) ∧ Below g w w2) := (by rw [← HBB.out]; exact ⟨⟨_, (own_full1 hown).1, by rw [show (Value.int .u8 0).cells = #[.int .u8 0] from rfl, Nat.mul_one, toList_madeCells_one]; exact Cu.zero n G⟩, hlo⟩); clear hown hgrow hlo)))
  rw [HBB.out]
  go_loopw [13] (fun vi wr => ∃ k : Nat, k ≤ n ∧ vi = .int .i64 (k : Nat) ∧ Hid ((∃ cu, Bx wr g 5 cu ∧ Cu n k G cu) ∧ Below g w wr)) (fun vi _ => n - (intOf vi).toNat)
  case atStart => exact ⟨0, by omega, rfl, HX2.out⟩
  case round =>
    obtain ⟨k, hk, rfl, HI⟩ := hrel
    clear HX2
    by_cases hlt : k < n
    · obtain ⟨⟨cu, hcu, hC⟩, hbl⟩ := HI.out
      obtain ⟨y, hy⟩ := hC.2.2 k hlt
      have c0 : wr.cell? ⟨g, k, none⟩ = some (.int .u8 y) := hcu.cell k _ hy
      have f0 : wr.frozen? ⟨g, k, none⟩ = false := hcu.frozen k
      have HP2 : PolO LB o n m C p q wr := HP.out.below (Nat.le_of_eq HBB.out) hbl
      obtain ⟨pk, HPK⟩ : ∃ z, Hid (p k = z) := ⟨_, rfl⟩
      have c1 : wr.cell? ⟨LB, o + k, none⟩ = some (.func (.func 40) #[] #[.pointer (some ⟨pk, 0, none⟩)]) := by rw [← HPK.out]; exact HP2.at' k hlt
      have g0 : (0 : Int) ≤ (k : Int) := by omega
      have g1 : (k : Int) < (n : Int) := by omega
      have H1 : Hid (Calls Tryd.prog 40 #[.int .u8 (x.1 : Nat), .pointer (some ⟨pk, 0, none⟩)] wr fun e w' => e = .returned (.int .u8 ((G k).1 : Nat)) ∧ w' = wr) := by
        obtain ⟨c', hc'⟩ := HP2.box k hlt
        rw [HPK.out] at hc'
        rw [← HG.out]
        exact poly_ok x pk (q k) 0 c' (C k) wr (by rw [(HP2.row k hlt).2]; exact hc') (by rw [(HP2.row k hlt).2]; exact hm) (HP2.row k hlt).1
      have HN2 : Hid ((∃ cu, Bx (wr.setCell ⟨g, k, none⟩ (.int .u8 ((G k).1 : Nat))) g 5 cu ∧ Cu n (k + 1) G cu) ∧ Below g w (wr.setCell ⟨g, k, none⟩ (.int .u8 ((G k).1 : Nat)))) := ⟨⟨_, hcu.set k _, hC.next hlt⟩, hbl.setCell (Nat.le_refl _) _⟩
      generalize (G k).1 = ek at H1 HN2
      clear hcu hC hbl HI HP2
      go_wp2_with (first
        | (go_at_call 40; refine H1.out.mono ?_; rintro e1 w1 ⟨rfl, hw⟩; obtain rfl := hw.symm; clear hw H1))
      go_roundw
      case rel => exact ⟨k + 1, by omega, by go_num, HN2.out⟩
      case measure => simp [intOf]; omega
    · obtain rfl : k = n := by omega
      obtain ⟨⟨cu, hcu, hC⟩, hbl⟩ := HI.out
      have h1 : ¬ (k : Int) < (k : Int) := Int.lt_irrefl _
      have HC : Hid (Bx wr g 5 (fc ((List.range k).map G)) ∧ Below g w wr) := by rw [← hC.all]; exact ⟨hcu, hbl⟩
      clear hcu hC hbl HI
      go_wp2
      go_ret
      exact ⟨g, rfl, by rw [HBB.out]; exact Nat.le_refl _, HC.out.1, by rw [HBB.out]; exact HC.out.2⟩
theorem PolI.off {LB n m k o : Nat} {C : Nat → List F} {p q : Nat → Nat} {u : World} (h : PolI LB n m C p q u) (hk : o + k ≤ n) : PolO LB o k m (fun i => C (o + i)) (fun i => p (o + i)) (fun i => q (o + i)) u :=
  ⟨fun i hi => h.at' (o + i) (by omega), fun i hi => h.box (o + i) (by omega), fun i hi => h.row (o + i) (by omega)⟩
theorem PolI.few {LB n m k : Nat} {C : Nat → List F} {p q : Nat → Nat} {u : World} (h : PolI LB n m C p q u) (hk : k ≤ n) : PolI LB k m C p q u :=
  ⟨fun i hi => h.at' i (by omega), fun i hi => h.box i (by omega), fun i hi => h.row i (by omega)⟩
end Go.Proofs.YtinmhgackihakaaDoor
