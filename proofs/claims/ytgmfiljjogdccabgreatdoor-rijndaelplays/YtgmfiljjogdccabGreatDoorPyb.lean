import Derived.Test.YtgmfiljjogdccabGreatDoorPya
import Derived.Test.YtgmfiljjogdccabGreatDoorPart27
import Derived.Test.YtgmfiljjogdccabGreatDoorKEnc
import Derived.Test.YtgmfiljjogdccabGreatDoorKDec
namespace Go.Proofs.YtgmfiljjogdccabGreatDoor
open Go.RowKit Go.RwLone Go.Conc.Locks
set_option linter.unusedVariables false
/-- What a call of a key answers besides. -/
def kE (kx : Option Kx) (g : Bool) : Int := match kx with | none => 1 | some _ => if g = true then 21 else 0
theorem kE_none (g : Bool) : kE none g = 1 := rfl
theorem kE_on (k : Kx) : kE (some k) false = 0 := rfl
theorem kE_off (k : Kx) : kE (some k) true = 21 := rfl
variable {w v : World} {B m : Nat} {kx : Option Kx} {gP gR : Bool} {an : Nat} {sx : Nat → Sx} {av lv : Value} {lz : List Int}
theorem BS.off (h : BS w B m kx gP gR an sx av lv lz) (hn : kE kx gP ≠ 0) : Off w (kx.map Kx.g) (kE kx gP) := by
 cases kx with
 | none => exact ⟨fun _ => rfl, fun g e => (by cases e)⟩
 | some k =>
  cases gP with
  | false => exact absurd rfl hn
  | true => exact ⟨fun e => (by cases e), fun g e => by obtain rfl := Option.some.inj e; exact ⟨(h.kk k rfl).2.1.off rfl, rfl⟩⟩
theorem BS.offp (h : BS w B m kx gP gR an sx av lv lz) (hn : kE kx gP ≠ 0) (ho : OffP w v (kx.map Kx.g) (kE kx gP)) : BS v B m kx gP gR an sx av lv lz ∧ FrP w v (BW m kx an sx av) := by
 cases kx with
 | none => have hb := ho.nil rfl; exact ⟨h.below hb, below_frp hb _⟩
 | some k =>
  cases gP with
  | false => exact absurd rfl hn
  | true =>
   have ht := ho.tch k.g rfl
   refine ⟨h.key (touch_fr ht) (fun b q => ⟨k, rfl, List.mem_singleton.1 q⟩) (fun k' e => ?_), (touch_fr ht).toP (fun b q => .inr (.inl ⟨k, rfl, .inl (List.mem_singleton.1 q)⟩))⟩
   obtain rfl := Option.some.inj e
   exact ⟨(h.kk k rfl).2.1.free.touch ht, fun e => (by cases e), fun _ => (ho.off.gone k.g rfl).1⟩
theorem BS.onp {k : Kx} (h : BS w B m (some k) false gR an sx av lv lz) (hk : KeyAt v k.g (k.nk + 6) k.K) (ht : Touch w v k.g 4 1) : BS v B m (some k) false gR an sx av lv lz ∧ FrP w v (BW m (some k) an sx av) := by
 refine ⟨h.key (touch_fr ht) (fun b q => ⟨k, rfl, List.mem_singleton.1 q⟩) (fun k' e => ?_), (touch_fr ht).toP (fun b q => .inr (.inl ⟨k, rfl, .inl (List.mem_singleton.1 q)⟩))⟩
 obtain rfl := Option.some.inj e
 exact ⟨(h.kk k rfl).2.1.free.touch ht, fun _ => hk, fun e => (by cases e)⟩
def EncR (kx : Option Kx) (g : Bool) (s : W4) : Nat → Nat := match kx with | none => zero8 | some k => if g = true then zero8 else sb (encW (k.nk + 6) k.K s)
def DecR (kx : Option Kx) (g : Bool) (s : W4) : Nat → Nat := match kx with | none => zero8 | some k => if g = true then zero8 else sb (dcW (k.nk + 6) k.K s)
theorem EncR_on (k : Kx) (s : W4) : EncR (some k) false s = sb (encW (k.nk + 6) k.K s) := by unfold EncR; simp only [Bool.false_eq_true, if_false]
theorem DecR_on (k : Kx) (s : W4) : DecR (some k) false s = sb (dcW (k.nk + 6) k.K s) := by unfold DecR; simp only [Bool.false_eq_true, if_false]
theorem kenc_b (s : W4) (hs : s.ok) (h : BS w B m kx gP gR an sx av lv lz) : Calls Tryz.prog 21 #[gq (kx.map Kx.g), .agg (arA (sb s))] w fun e w' => e = .returned (.tuple #[.agg (arA (EncR kx gP s)), .int .i64 (kE kx gP)]) ∧ BS w' B m kx gP gR an sx av lv lz ∧ FrP w w' (BW m kx an sx av) := by
 by_cases hn : kE kx gP = 0
 ·cases kx with
  | none => cases hn
  | some k =>
   cases gP with
   | true => cases hn
   | false =>
    rw [EncR_on, kE_on, ← blk_sb, ← blk_sb]
    refine (kenc_ok k.g (k.nk + 6) k.K s w ((h.kk k rfl).2.1.on rfl) hs).mono ?_
    intro e w' h0
    exact ⟨h0.1, h.onp h0.2.1 h0.2.2⟩
 ·refine (kenc_off _ _ (sb s) w (h.off hn)).mono ?_
  rintro e w' ⟨rfl, h1⟩
  refine ⟨?_, h.offp hn h1⟩
  cases kx with
  | none => rfl
  | some k =>
   cases gP with
   | true => rfl
   | false => exact absurd rfl hn
theorem kdec_b (s : W4) (hs : s.ok) (h : BS w B m kx gP gR an sx av lv lz) : Calls Tryz.prog 22 #[gq (kx.map Kx.g), .agg (arA (sb s))] w fun e w' => e = .returned (.tuple #[.agg (arA (DecR kx gP s)), .int .i64 (kE kx gP)]) ∧ BS w' B m kx gP gR an sx av lv lz ∧ FrP w w' (BW m kx an sx av) := by
 by_cases hn : kE kx gP = 0
 ·cases kx with
  | none => cases hn
  | some k =>
   cases gP with
   | true => cases hn
   | false =>
    rw [DecR_on, kE_on, ← blk_sb, ← blk_sb]
    refine (kdec_ok k.g (k.nk + 6) k.K s w ((h.kk k rfl).2.1.on rfl) hs).mono ?_
    intro e w' h0
    exact ⟨h0.1, h.onp h0.2.1 h0.2.2⟩
 ·refine (kdec_off _ _ (sb s) w (h.off hn)).mono ?_
  rintro e w' ⟨rfl, h1⟩
  refine ⟨?_, h.offp hn h1⟩
  cases kx with
  | none => rfl
  | some k =>
   cases gP with
   | true => rfl
   | false => exact absurd rfl hn
def StrP (w : World) (B m : Nat) (kx : Option Kx) (gP gR : Bool) (an : Nat) (sx : Nat → Sx) (av lv : Value) (lz : List Int) (s : W4) (e : Ending) (w' : World) : Prop := ∃ p, e = .returned (.tuple #[gq p, .int .i64 (kE kx gP)]) ∧ BS w' B m kx gP gR an sx av lv lz ∧ FrP w w' (BW m kx an sx av) ∧ (kE kx gP ≠ 0 → p = none) ∧ ∀ k, kx = some k → gP = false → ∃ t, p = some t ∧ w.heap.size ≤ t ∧ StreamAt w' t k.g s 0
theorem stream_b (s : W4) (hs : s.ok) (h : BS w B m kx gP gR an sx av lv lz) : Calls Tryz.prog 19 #[gq (kx.map Kx.g), .agg (arA (sb s))] w (StrP w B m kx gP gR an sx av lv lz s) := by
 by_cases hn : kE kx gP = 0
 ·cases kx with
  | none => cases hn
  | some k =>
   cases gP with
   | true => cases hn
   | false =>
    refine (stream_ok k.g (k.nk + 6) k.K s w ((h.kk k rfl).2.1.on rfl) hs).mono ?_
    rintro e w' ⟨t, rfl, h0, h1, h2, h3⟩
    obtain ⟨q1, q2⟩ := h.onp h2 h3
    exact ⟨some t, rfl, q1, q2, fun e => absurd rfl e, fun k' e _ => by obtain rfl := Option.some.inj e; exact ⟨t, rfl, h0, h1⟩⟩
 ·refine (stream_off _ _ (sb s) w (h.off hn)).mono ?_
  rintro e w' ⟨rfl, h1⟩
  obtain ⟨q1, q2⟩ := h.offp hn h1
  refine ⟨none, rfl, q1, q2, fun _ => rfl, fun k e e2 => ?_⟩
  subst e e2
  exact absurd rfl hn
theorem wipe_b (h : BS w B m kx gP gR an sx av lv lz) : Calls Tryz.prog 25 #[gq (kx.map Kx.g)] w fun e w' => e = .returned (.int .i64 (kE kx gP)) ∧ BS w' B m kx true gR an sx av lv lz ∧ FrP w w' (BW m kx an sx av) := by
 cases kx with
 | none =>
  refine (wipe_nil w).mono ?_
  rintro e w' ⟨rfl, rfl⟩
  exact ⟨rfl, h.key (Fr.refl _ []) (fun b q => by cases q) (fun k e => by cases e), FrP.refl _ _⟩
 | some k =>
  have hp := (h.kk k rfl).2.1
  have hfin : ∀ w', GoneAt w' k.g → Free w' k.g → Fr w w' [k.g] → BS w' B m (some k) true gR an sx av lv lz ∧ FrP w w' (BW m (some k) an sx av) := fun w' h1 h2 h3 => by
   refine ⟨h.key h3 (fun b q => ⟨k, rfl, List.mem_singleton.1 q⟩) (fun k' e => ?_), h3.toP (fun b q => .inr (.inl ⟨k, rfl, .inl (List.mem_singleton.1 q)⟩))⟩
   obtain rfl := Option.some.inj e
   exact ⟨h2, fun e => (by cases e), fun _ => h1⟩
  cases gP with
  | true =>
   refine (wipe_gone k.g w (hp.off rfl) hp.free).mono ?_
   rintro e w' ⟨rfl, h1, h2, h3⟩
   exact ⟨rfl, hfin w' h1 h2 h3⟩
  | false =>
   refine (wipe_ok k.g (k.nk + 6) k.K w (hp.on rfl) hp.free).mono ?_
   rintro e w' ⟨rfl, h1, h2, h3⟩
   exact ⟨rfl, hfin w' h1 h2 h3⟩
def szR (kx : Option Kx) (g : Bool) : Nat := match kx with | none => 0 | some k => if g = true then 0 else 4 * k.nk
def rnR (kx : Option Kx) (g : Bool) : Nat := match kx with | none => 0 | some k => if g = true then 0 else k.nk + 6
theorem size_b (h : BS w B m kx gP gR an sx av lv lz) : Calls Tryz.prog 30 #[gq (kx.map Kx.g)] w fun e w' => e = .returned (.int .i64 (szR kx gP : Nat)) ∧ BS w' B m kx gP gR an sx av lv lz ∧ FrP w w' (BW m kx an sx av) := by
 by_cases hn : kE kx gP = 0
 ·cases kx with
  | none => cases hn
  | some k =>
   cases gP with
   | true => cases hn
   | false =>
    refine (size_ok k.g (k.nk + 6) k.K w ((h.kk k rfl).2.1.on rfl) (by omega)).mono ?_
    rintro e w' ⟨rfl, h1, h2⟩
    exact ⟨by rw [Nat.add_sub_cancel]; rfl, h.onp h1 h2⟩
 ·refine (size_off _ _ w (h.off hn)).mono ?_
  rintro e w' ⟨rfl, h1⟩
  refine ⟨?_, h.offp hn h1⟩
  cases kx with
  | none => rfl
  | some k =>
   cases gP with
   | true => rfl
   | false => exact absurd rfl hn
theorem rounds_b (h : BS w B m kx gP gR an sx av lv lz) : Calls Tryz.prog 31 #[gq (kx.map Kx.g)] w fun e w' => e = .returned (.int .i64 (rnR kx gP : Nat)) ∧ BS w' B m kx gP gR an sx av lv lz ∧ FrP w w' (BW m kx an sx av) := by
 by_cases hn : kE kx gP = 0
 ·cases kx with
  | none => cases hn
  | some k =>
   cases gP with
   | true => cases hn
   | false =>
    refine (rounds_ok k.g (k.nk + 6) k.K w ((h.kk k rfl).2.1.on rfl)).mono ?_
    rintro e w' ⟨rfl, h1, h2⟩
    exact ⟨rfl, h.onp h1 h2⟩
 ·refine (rounds_off _ _ w (h.off hn)).mono ?_
  rintro e w' ⟨rfl, h1⟩
  refine ⟨?_, h.offp hn h1⟩
  cases kx with
  | none => rfl
  | some k =>
   cases gP with
   | true => rfl
   | false => exact absurd rfl hn
def WrdP (w : World) (B m : Nat) (kx : Option Kx) (gP gR : Bool) (an : Nat) (sx : Nat → Sx) (av lv : Value) (lz : List Int) (e : Ending) (w' : World) : Prop := ∃ a n c, e = .returned (.slice a n c) ∧ BS w' B m kx gP gR an sx av lv lz ∧ FrP w w' (BW m kx an sx av) ∧ (kE kx gP ≠ 0 → n = 0) ∧ ∀ k, kx = some k → gP = false → w'.ownsRow w.heap.size 43 1 (.slice a n c) (4 * (k.nk + 7)) (wordsL k.K (4 * (k.nk + 7)))
theorem words_b (h : BS w B m kx gP gR an sx av lv lz) : Calls Tryz.prog 32 #[gq (kx.map Kx.g)] w (WrdP w B m kx gP gR an sx av lv lz) := by
 by_cases hn : kE kx gP = 0
 ·cases kx with
  | none => cases hn
  | some k =>
   cases gP with
   | true => cases hn
   | false =>
    refine (words_ok k.g (k.nk + 6) k.K w ((h.kk k rfl).2.1.on rfl)).mono ?_
    rintro e w' ⟨v, rfl, h0, h1, h2⟩
    obtain ⟨q1, q2⟩ := h.onp h1 h2
    have hf : ∃ a n c, v = .slice a n c := by
     rcases h0.2 with ⟨rfl, _⟩ | ⟨g, c, cur, rfl, _⟩
     ·exact ⟨_, _, _, rfl⟩
     ·exact ⟨_, _, _, rfl⟩
    obtain ⟨a, n, c, rfl⟩ := hf
    exact ⟨a, n, c, rfl, q1, q2, fun e => absurd rfl e, fun k' e _ => by obtain rfl := Option.some.inj e; exact h0⟩
 ·refine (words_off _ _ w (h.off hn)).mono ?_
  rintro e w' ⟨rfl, h1⟩
  obtain ⟨q1, q2⟩ := h.offp hn h1
  refine ⟨none, 0, 0, rfl, q1, q2, fun _ => rfl, fun k e e2 => ?_⟩
  subst e e2
  exact absurd rfl hn
/-- What Wrap answers of bytes. -/
def wrapR (kx : Option Kx) (g : Bool) (zs : List Int) : Int × List Int := match kx with
 | none => (1, [])
 | some k => if g = true then (21, []) else if 16 ≤ zs.length ∧ zs.length % 8 = 0 ∧ zs.length ≤ 4096 then (0, zl (8 + zs.length) (wrB (wrapF (k.nk + 6) k.K (zs.length / 8) (nat8 zs) (6 * (zs.length / 8))))) else (ckE zs.length 16 4096, [])
/-- What Unwrap answers of bytes. -/
def unwF (k : Kx) (zs : List Int) : Nat × (Nat → Nat) := aft (unStep (k.nk + 6) k.K (zs.length / 8 - 1)) (6 * (zs.length / 8 - 1)) (un0 (nat8 zs))
def unwR (kx : Option Kx) (g : Bool) (zs : List Int) : Int × List Int := match kx with
 | none => (1, [])
 | some k => if g = true then (21, []) else if 24 ≤ zs.length ∧ zs.length % 8 = 0 ∧ zs.length ≤ 4104 then (if (unwF k zs).1 = 12008468691120727718 then (0, zl (zs.length - 8) (flt (unwF k zs).2)) else (22, [])) else (ckE zs.length 24 4104, [])
/-- A copy that is handed in. -/
structure OwnAt (w : World) (S : Nat → Prop) (b c : Nat) (zs : List Int) : Prop where
 cell : ∀ i, i < zs.length → w.cell? ⟨b, i, none⟩ = some (.int .u8 (nat8 zs i : Nat))
 lt : b < w.heap.size
 cap : zs.length ≤ c
 mx : c ≤ maxLen
 by' : AllBytes zs
 far : ¬ S b
def LsP (w : World) (B m : Nat) (kx : Option Kx) (gP gR : Bool) (an : Nat) (sx : Nat → Sx) (av lv : Value) (lz : List Int) (R : Int × List Int) (S : Nat → Prop) (e : Ending) (w' : World) : Prop := ∃ a n c, e = .returned (.tuple #[.slice a n c, .int .i64 R.1]) ∧ View w' (.slice a n c) R.2 ∧ BS w' B m kx gP gR an sx av lv lz ∧ FrP w w' S ∧ (R.2 ≠ [] → ∀ b, b ∈ vblk (.slice a n c) → w.heap.size ≤ b)
theorem wrap_b (b c : Nat) (zs : List Int) (h : BS w B m kx gP gR an sx av lv lz) (ho : OwnAt w (BW m kx an sx av) b c zs) : Calls Tryz.prog 26 #[gq (kx.map Kx.g), .slice (some ⟨b, 0, none⟩) zs.length c] w (LsP w B m kx gP gR an sx av lv lz (wrapR kx gP zs) (BW m kx an sx av)) := by
 by_cases hn : kE kx gP = 0
 ·cases kx with
  | none => cases hn
  | some k =>
   cases gP with
   | true => cases hn
   | false =>
    have hk := (h.kk k rfl).2.1.on rfl
    have hmx : c ≤ 9223372036854775807 := by have := ho.mx; unfold maxLen at this; omega
    by_cases hg : 16 ≤ zs.length ∧ zs.length % 8 = 0 ∧ zs.length ≤ 4096
    ·obtain ⟨n, hnl⟩ : ∃ n, zs.length = 8 * n := ⟨zs.length / 8, by omega⟩
     have hd : zs.length / 8 = n := by omega
     have e0 : wrapR (some k) false zs = (0, zl (8 + zs.length) (wrB (wrapF (k.nk + 6) k.K n (nat8 zs) (6 * n)))) := by unfold wrapR; simp only [Bool.false_eq_true, if_false]; rw [if_pos hg, hd]
     rw [e0, hnl]
     refine (kwrap_ok k.g (k.nk + 6) n b 0 c k.K (nat8 zs) w hk (by omega) (by omega) (by have := ho.cap; omega) ho.lt (fun e => ho.far (.inr (.inl ⟨k, rfl, .inl e⟩))) (fun i hi => by rw [Nat.zero_add]; exact ho.cell i (by omega)) (nat8_lt ho.by')).mono ?_
     rintro e w' ⟨s, rfl, h0, h1, h2, h3, h4⟩
     obtain ⟨q1, q2⟩ := h.onp h3 h4
     refine ⟨some ⟨s, 0, none⟩, 8 + 8 * n, 8 + 8 * n, rfl, ?_, q1, q2, fun _ b q => by simp [vblk, Value.ownBlock] at q; omega⟩
     refine view_ab (fun i hi => ?_) (Nat.le_refl _) (by unfold maxLen; omega)
     unfold wrB
     by_cases hi8 : i < 8
     ·rw [if_pos hi8]; exact h2 i hi8
     ·rw [if_neg hi8]
      have := h1.cell ((i - 8) / 8) ((i - 8) % 8) (by omega) (by omega)
      rw [show 8 + 8 * ((i - 8) / 8) + (i - 8) % 8 = i by omega] at this
      exact this
    ·have e0 : wrapR (some k) false zs = (ckE zs.length 16 4096, []) := by unfold wrapR; simp only [Bool.false_eq_true, if_false]; rw [if_neg hg]
     rw [e0]
     refine (wrap_bad k.g (k.nk + 6) zs.length c (some ⟨b, 0, none⟩) k.K w hk (by have := ho.cap; omega) hg).mono ?_
     rintro e w' ⟨rfl, h3, h4⟩
     obtain ⟨q1, q2⟩ := h.onp h3 h4
     exact ⟨none, 0, 0, rfl, view_nil _, q1, q2, fun e => absurd rfl e⟩
 ·have e0 : wrapR kx gP zs = (kE kx gP, []) := by
   cases kx with
   | none => rfl
   | some k =>
    cases gP with
    | true => rfl
    | false => exact absurd rfl hn
  rw [e0]
  refine (wrap_off _ _ _ w (h.off hn)).mono ?_
  rintro e w' ⟨rfl, h1⟩
  obtain ⟨q1, q2⟩ := h.offp hn h1
  exact ⟨none, 0, 0, rfl, view_nil _, q1, q2, fun e => absurd rfl e⟩
theorem unwrap_b (b c : Nat) (zs : List Int) (h : BS w B m kx gP gR an sx av lv lz) (ho : OwnAt w (BW m kx an sx av) b c zs) : Calls Tryz.prog 28 #[gq (kx.map Kx.g), .slice (some ⟨b, 0, none⟩) zs.length c] w (LsP w B m kx gP gR an sx av lv lz (unwR kx gP zs) (BW m kx an sx av)) := by
 by_cases hn : kE kx gP = 0
 ·cases kx with
  | none => cases hn
  | some k =>
   cases gP with
   | true => cases hn
   | false =>
    have hk := (h.kk k rfl).2.1.on rfl
    have hmx : c ≤ 9223372036854775807 := by have := ho.mx; unfold maxLen at this; omega
    by_cases hg : 24 ≤ zs.length ∧ zs.length % 8 = 0 ∧ zs.length ≤ 4104
    ·obtain ⟨n, hnl⟩ : ∃ n, zs.length = 8 + 8 * n := ⟨zs.length / 8 - 1, by omega⟩
     have hd : zs.length / 8 - 1 = n := by omega
     have hF : unwF k zs = aft (unStep (k.nk + 6) k.K n) (6 * n) (un0 (nat8 zs)) := by unfold unwF; rw [hd]
     by_cases hmk : (unwF k zs).1 = 12008468691120727718
     ·have e0 : unwR (some k) false zs = (0, zl (8 * n) (flt (unwF k zs).2)) := by unfold unwR; simp only [Bool.false_eq_true, if_false]; rw [if_pos hg, if_pos hmk, show zs.length - 8 = 8 * n by omega]
      rw [e0, hnl]
      refine (kunwrap_ok k.g (k.nk + 6) n b 0 c k.K (nat8 zs) w hk (by omega) (by omega) (by have := ho.cap; omega) ho.lt (fun e => ho.far (.inr (.inl ⟨k, rfl, .inl e⟩))) (fun i hi => by rw [Nat.zero_add]; exact ho.cell i (by omega)) (nat8_lt ho.by') (by rw [← hF]; exact hmk)).mono ?_
      rintro e w' ⟨s, rfl, h0, h1, h3, h4⟩
      obtain ⟨q1, q2⟩ := h.onp h3 h4
      refine ⟨some ⟨s, 0, none⟩, 8 * n, 8 * n, rfl, ?_, q1, q2, fun _ b q => by simp [vblk, Value.ownBlock] at q; omega⟩
      refine view_ab (fun i hi => ?_) (Nat.le_refl _) (by unfold maxLen; omega)
      rw [← hF] at h1
      have := h1.cell (i / 8) (i % 8) (by omega) (by omega)
      rw [show 0 + 8 * (i / 8) + i % 8 = i by omega] at this
      exact this
     ·have e0 : unwR (some k) false zs = (22, []) := by unfold unwR; simp only [Bool.false_eq_true, if_false]; rw [if_pos hg, if_neg hmk]
      rw [e0, hnl]
      refine (unwrap_mark k.g (k.nk + 6) n b 0 c k.K (nat8 zs) w hk (by omega) (by omega) (by have := ho.cap; omega) ho.lt (fun e => ho.far (.inr (.inl ⟨k, rfl, .inl e⟩))) (fun i hi => by rw [Nat.zero_add]; exact ho.cell i (by omega)) (nat8_lt ho.by') (by rw [← hF]; exact hmk)).mono ?_
      rintro e w' ⟨rfl, h3, h4⟩
      obtain ⟨q1, q2⟩ := h.onp h3 h4
      exact ⟨none, 0, 0, rfl, view_nil _, q1, q2, fun e => absurd rfl e⟩
    ·have e0 : unwR (some k) false zs = (ckE zs.length 24 4104, []) := by unfold unwR; simp only [Bool.false_eq_true, if_false]; rw [if_neg hg]
     rw [e0]
     refine (unwrap_bad k.g (k.nk + 6) zs.length c (some ⟨b, 0, none⟩) k.K w hk (by have := ho.cap; omega) hg).mono ?_
     rintro e w' ⟨rfl, h3, h4⟩
     obtain ⟨q1, q2⟩ := h.onp h3 h4
     exact ⟨none, 0, 0, rfl, view_nil _, q1, q2, fun e => absurd rfl e⟩
 ·have e0 : unwR kx gP zs = (kE kx gP, []) := by
   cases kx with
   | none => rfl
   | some k =>
    cases gP with
    | true => rfl
    | false => exact absurd rfl hn
  rw [e0]
  refine (unwrap_off _ _ _ w (h.off hn)).mono ?_
  rintro e w' ⟨rfl, h1⟩
  obtain ⟨q1, q2⟩ := h.offp hn h1
  exact ⟨none, 0, 0, rfl, view_nil _, q1, q2, fun e => absurd rfl e⟩
/-- What XOR answers of bytes. -/
def xorR (k : Kx) (g : Bool) (s0 : W4) (n : Nat) (zs : List Int) : Int × List Int := if g = true then (21, []) else if 1048576 < zs.length ∨ 1099511627776 < n + zs.length then (4, []) else (0, xorL (k.nk + 6) k.K s0 n (nat8 zs) zs.length)
def skR (g : Bool) (n q : Nat) : Int := if g = true then 21 else if 1099511627776 < n + q then 4 else 0
def adv (E : Int) (n q : Nat) : Nat := if E = 0 then n + q else n
theorem xor_b (b c i : Nat) (zs : List Int) {k : Kx} (hi : i < an) (h : BS w B m (some k) gP gR an sx av lv lz) (ho : OwnAt w (BW m (some k) an sx av) b c zs) : Calls Tryz.prog 13 #[.pointer (some ⟨(sx i).t, 0, none⟩), .slice (some ⟨b, 0, none⟩) zs.length c] w (LsP w B m (some k) gP gR an (updP sx i (adv (xorR k gP (sx i).s0 (sx i).np zs).1 (sx i).np zs.length)) av lv lz (xorR k gP (sx i).s0 (sx i).np zs) (BW m (some k) an sx av)) := by
 obtain ⟨k', e, hs, _⟩ := h.st i hi
 obtain rfl := Option.some.inj e
 have hmx : c ≤ 9223372036854775807 := by have := ho.mx; unfold maxLen at this; omega
 have hp := (h.kk k rfl).2.1
 have hord := h.ord.2.1 i hi
 obtain ⟨r1, _, _, _, r5⟩ := h.kk k rfl
 have hg2 := r1.g2
 have hgr := r1.gr
 have hne : (sx i).t ≠ k.g := by omega
 have hadv : ∀ E : Int, E ≠ 0 → adv E (sx i).np zs.length = (sx i).np := fun E hE => by unfold adv; rw [if_neg hE]
 have hsame : ∀ w', Touch w w' k.g 4 1 → PK w' k gP → BS w' B m (some k) gP gR an (updP sx i (sx i).np) av lv lz ∧ FrP w w' (BW m (some k) an sx av) := fun w' ht hk => by
  refine ⟨h.pst rfl i _ hi (touch_fr ht) (fun b q => .inl (List.mem_singleton.1 q)) hk (hs.touch ht hne), (touch_fr ht).toP (fun b q => .inr (.inl ⟨k, rfl, .inl (List.mem_singleton.1 q)⟩))⟩
 cases gP with
 | true =>
  have e0 : xorR k true (sx i).s0 (sx i).np zs = (21, []) := rfl
  rw [e0, hadv 21 (by decide)]
  refine (xor_gone _ k.g _ _ _ w (hp.off rfl) hs).mono ?_
  rintro e w' ⟨rfl, h1, h2⟩
  obtain ⟨q1, q2⟩ := hsame w' h2 ⟨hp.free.touch h2, fun e => (by cases e), fun _ => h1⟩
  exact ⟨none, 0, 0, rfl, view_nil _, q1, q2, fun e => absurd rfl e⟩
 | false =>
  have hk := hp.on rfl
  have hkeep : ∀ w', KeyAt w' k.g (k.nk + 6) k.K → Touch w w' k.g 4 1 → BS w' B m (some k) false gR an (updP sx i (sx i).np) av lv lz ∧ FrP w w' (BW m (some k) an sx av) := fun w' h1 h2 => hsame w' h2 ⟨hp.free.touch h2, fun _ => h1, fun e => (by cases e)⟩
  by_cases hl : 1048576 < zs.length ∨ 1099511627776 < (sx i).np + zs.length
  ·have e0 : xorR k false (sx i).s0 (sx i).np zs = (4, []) := by unfold xorR; simp only [Bool.false_eq_true, if_false]; rw [if_pos hl]
   rw [e0, hadv 4 (by decide)]
   by_cases hl1 : 1048576 < zs.length
   ·refine (xor_over _ k.g _ zs.length c _ _ k.K _ w hk hs hne hl1 (by have := ho.cap; omega)).mono ?_
    rintro e w' ⟨rfl, h1, h2⟩
    obtain ⟨q1, q2⟩ := hkeep w' h1 h2
    exact ⟨none, 0, 0, rfl, view_nil _, q1, q2, fun e => absurd rfl e⟩
   ·refine (xor_long _ k.g _ zs.length c _ _ k.K _ w hk hs hne (by omega) (by omega)).mono ?_
    rintro e w' ⟨rfl, h1, h2⟩
    obtain ⟨q1, q2⟩ := hkeep w' h1 h2
    exact ⟨none, 0, 0, rfl, view_nil _, q1, q2, fun e => absurd rfl e⟩
  ·have e0 : xorR k false (sx i).s0 (sx i).np zs = (0, xorL (k.nk + 6) k.K (sx i).s0 (sx i).np (nat8 zs) zs.length) := by unfold xorR; simp only [Bool.false_eq_true, if_false]; rw [if_neg hl]
   rw [e0]
   have ea : adv 0 (sx i).np zs.length = (sx i).np + zs.length := by unfold adv; rw [if_pos rfl]
   rw [ea]
   refine (xor_ok _ k.g _ (k.nk + 6) zs.length b 0 c k.K _ (nat8 zs) w hk hs hne (by omega) (by omega) ho.lt (fun e => ho.far (.inr (.inl ⟨k, rfl, .inl e⟩))) (fun e => ho.far (.inr (.inr (.inl ⟨i, hi, .inl e⟩)))) ho.cap hmx (fun j hj => by rw [Nat.zero_add]; exact ho.cell j hj) (nat8_lt ho.by')).mono ?_
   rintro e w' ⟨v, rfl, h0, h1, h2, h3⟩
   have hv := view_own h0 (xorL_length _ _ _ _ _ _)
   obtain ⟨a, cc, rfl, _⟩ := hv
   have hv := view_own h0 (xorL_length _ _ _ _ _ _)
   have hf : Fr w w' [k.g, (sx i).t] := ⟨h3.os, h3.tape, h3.output, h3.size, fun b hb hn => h3.block b hb (fun e => hn (by simp [e])) (fun e => hn (by simp [e]))⟩
   have hfree : Free w' k.g := h3.lock.trans hp.free
   refine ⟨_, _, _, rfl, hv, h.pst rfl i _ hi hf (fun b q => by simpa using q) ⟨hfree, fun _ => h1, fun e => (by cases e)⟩ h2, hf.toP (fun b q => ?_), fun _ b q => (owns_blks h0 b q).1⟩
   rcases (by simpa using q : b = k.g ∨ b = (sx i).t) with q | q
   ·exact .inr (.inl ⟨k, rfl, .inl q⟩)
   ·exact .inr (.inr (.inl ⟨i, hi, .inl q⟩))
end Go.Proofs.YtgmfiljjogdccabGreatDoor
