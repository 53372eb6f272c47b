import Derived.Test.YtbpkocohddlbhaaDoorPart05
import Derived.Lib.SliceRun
import Derived.Deep.Cut
namespace Go.Proofs.YtbpkocohddlbhaaDoor
open Go.RowKit
set_option linter.unusedVariables false
set_option linter.unusedSimpArgs false

theorem TK.below {w v : World} {g o : Nat} {h : Int} {wd : Bool} {s : Eight} {half : Nat → Int} {fed : Nat} (k : TK w g o h wd s half fed) (b : Below w.heap.size w v) : TK v g o h wd s half fed := by
  have hg : g < w.heap.size := lt_of_cell k.hash
  exact ⟨by rw [b.cell hg]; exact k.hash, by rw [b.cell (p := ⟨g, o + 1, none⟩) hg]; exact k.fn, range_below k.st b hg, fun i hi => by rw [b.cell (p := ⟨g, o + 10 + i, none⟩) hg]; exact k.half i hi, by rw [b.cell (p := ⟨g, o + 138, none⟩) hg]; exact k.fed, fun j hj => by rw [b.cell (p := ⟨g, o + j, none⟩) hg, b.frozen (p := ⟨g, o + j, none⟩) hg]; exact k.there j hj⟩
theorem TK.setByte {w : World} {g o : Nat} {h : Int} {wd : Bool} {s : Eight} {half : Nat → Int} {fed : Nat} (k : TK w g o h wd s half fed) (u : Nat) (x : Int) (hu : u < 128) :
    TK (w.setCell ⟨g, o + 10 + u, none⟩ (.int .u8 x)) g o h wd s (fun i => if i = u then x else half i) fed ∧ Touch w (w.setCell ⟨g, o + 10 + u, none⟩ (.int .u8 x)) g o 139 := by
  have hx := k.setHalf u [x] (by simp; omega)
  refine ⟨?_, hx.2⟩
  have e : (fun i => if u ≤ i ∧ i < u + [x].length then [x].getD (i - u) 0 else half i) = fun i => if i = u then x else half i := by
    funext i
    by_cases hi : i = u
    · subst hi; simp
    · rw [if_neg (by simp; omega), if_neg hi]
  rw [e] at hx
  exact hx.1
theorem TK.clear {w : World} {g o : Nat} {h : Int} {wd : Bool} {s : Eight} {half : Nat → Int} {fed : Nat} (k : TK w g o h wd s half fed) (u n : Nat) (hu : u + n ≤ 128) :
    TK (w.setCells g (o + 10 + u) (List.replicate n (.int .u8 0))) g o h wd s (fun i => if u ≤ i ∧ i < u + n then 0 else half i) fed ∧ Touch w (w.setCells g (o + 10 + u) (List.replicate n (.int .u8 0))) g o 139 := by
  have hx := k.setHalf u (List.replicate n 0) (by simp; omega)
  have e1 : cellsU8 (List.replicate n 0) = List.replicate n (.int .u8 0) := by simp [cellsU8]
  rw [e1] at hx
  refine ⟨?_, hx.2⟩
  have e : (fun i => if u ≤ i ∧ i < u + (List.replicate n (0 : Int)).length then (List.replicate n (0 : Int)).getD (i - u) 0 else half i) = fun i => if u ≤ i ∧ i < u + n then 0 else half i := by
    funext i
    by_cases hi : u ≤ i ∧ i < u + n
    · rw [if_pos (by simpa using hi), if_pos hi]
      simp only [List.getD, List.getElem?_replicate]
      split <;> rfl
    · rw [if_neg (by simpa using hi), if_neg hi]
  rw [e] at hx
  exact hx.1
theorem TK.fun_eq {w : World} {g o : Nat} {h : Int} {wd : Bool} {s : Eight} {half half' : Nat → Int} {fed : Nat} (k : TK w g o h wd s half fed) (e : ∀ i, i < 128 → half i = half' i) : TK w g o h wd s half' fed :=
  ⟨k.hash, k.fn, k.st, fun i hi => by rw [← e i hi]; exact k.half i hi, k.fed, k.there⟩
theorem TK.newer {w : World} {g o : Nat} {h : Int} {wd : Bool} {s : Eight} {half : Nat → Int} {fed b : Nat} (k : TK w g o h wd s half fed) (hb : g ≠ b) (vs : List Value) (o' : Nat) : TK (w.setCells b o' vs) g o h wd s half fed := by
  have ho : ∀ p : Addr, p.block = g → (w.setCells b o' vs).cell? p = w.cell? p := fun p hp => World.cell?_setCells_out b vs o' w p (fun e _ => absurd (hp.symm.trans e) hb)
  exact ⟨by rw [ho _ rfl]; exact k.hash, by rw [ho _ rfl]; exact k.fn, fun j v hv => by rw [ho _ rfl]; exact k.st j v hv, fun i hi => by rw [ho _ rfl]; exact k.half i hi, by rw [ho _ rfl]; exact k.fed, World.there_setCells k.there b o' vs⟩
theorem touch_new {w v : World} {g o n : Nat} (h : Touch w v g o n) {b : Nat} (hb : w.heap.size ≤ b) (vs : List Value) (o' : Nat) (hg : g < w.heap.size) : Touch w (v.setCells b o' vs) g o n :=
  ⟨by rw [setCells_os]; exact h.os, by rw [setCells_tape]; exact h.tape, by rw [setCells_output]; exact h.output, by rw [size_setCells]; exact h.size,
    fun k hk hne => by rw [World.heap_setCells_other v b o' vs (by have := h.size; omega) (by omega)]; exact h.block k hk hne,
    fun j hj => by rw [World.cell?_setCells_out b vs o' v ⟨g, j, none⟩ (fun e _ => absurd e (by simp; omega))]; exact h.cell j hj,
    fun o2 n2 ht => World.there_setCells (h.there o2 n2 ht) b o' vs⟩
theorem zero5 (w : World) : (zeroValue 5).run Tryd.prog w = .ok (.int .u8 0) w := by kernel_rfl
theorem clear_eq (w : World) (ty : TypeId) (g o n c : Nat) (ht : w.there g o n) : (Builtin.clear_ #[23] ty #[.slice (some ⟨g, o, none⟩) n c]).run Tryd.prog w = .ok (.tuple #[]) (w.setCells g o (List.replicate n (.int .u8 0))) := by
  by_cases hn : n = 0
  · subst hn
    simp [Builtin.clear_, World.setCells, run_underlying Tryd.underlying23]
  · exact Go.Lib.run_clear_slice w 23 5 ty (.int .u8 0) Tryd.underlying23 (fun w => zero5 w) rfl rfl g o n c (by omega) (fun j hj => (ht j hj).1) (fun j hj => (ht j hj).2)
/-- How many blocks the bytes that are left and the padding make. -/
def padN (bs fed : Nat) : Nat := if fed % bs + 1 ≤ bs - bs / 8 then 1 else 2
def padF (bs : Nat) (half : Nat → Int) (fed : Nat) (i : Nat) : Int :=
  if i < fed % bs then half i else if i = fed % bs then 128 else if i + 8 < padN bs fed * bs then 0 else ((fed : Int) * 8) / 2 ^ (8 * (padN bs fed * bs - 1 - i)) % 256
end Go.Proofs.YtbpkocohddlbhaaDoor
namespace Go.Proofs.YtbpkocohddlbhaaDoor
open Go.RowKit
set_option linter.unusedVariables false
set_option linter.unusedSimpArgs false

set_option maxHeartbeats 3200000 in
set_option maxRecDepth 100000 in
theorem finish64_A (g o : Nat) (h : Int) (s : Eight) (half : Nat → Int) (fed used u1 : Nat) (w : World) (hblk : blockOf h = 64) (HK : Hid (TK w g o h false s half fed)) (hfed : fed ≤ 1152921504606846976) (hT : Hid (Tables w)) (hg : 4 ≤ g) (h0 : Hid (fed % 64 = used)) (hu1 : Hid (u1 = used + 1)) (hu : u1 ≤ 56) :
    Calls Tryd.prog 72 #[.pointer (some ⟨g, o, none⟩)] w fun e w' => e = .returned (.agg (spellCells 4 (TT false (padF 64 half fed) s (padN 64 fed))).toArray) ∧ Touch w w' g o 139 ∧ ∃ half', TK w' g o h false (TT false (padF 64 half fed) s (padN 64 fed)) half' fed := by
  have c0 := HK.out.hash
  have c138 := HK.out.fed
  have hgw : g < w.heap.size := lt_of_cell c0
  have e1 : (used : Int) + 1 = (u1 : Int) := by have := hu1.out; omega
  have hu' : (u1 : Int) ≤ 64 := by omega
  have hu'' : (0 : Int) ≤ (u1 : Int) := by omega
  have hul : used < u1 := by have := hu1.out; omega
  have hlim : (u1 : Int) ≤ 56 := by omega
  have r0 : ((fed : Int) % 64) = (used : Int) := by have := h0.out; omega
  go_enter Tryd.func72, Tryd.ntmps72
  go_upto_region 3 with (first | (go_at_call 79; refine (block_any _ _).mono ?_; rintro e1 w1 ⟨rfl, hw1⟩; obtain rfl := hw1.symm; rw [hblk]))
  have HB0 : Hid (Below w.heap.size w (w.alloc (.cells #[.int .u8 0, .int .u8 0, .int .u8 0, .int .u8 0, .int .u8 0, .int .u8 0, .int .u8 0, .int .u8 0, .int .u8 0, .int .u8 0, .int .u8 0, .int .u8 0, .int .u8 0, .int .u8 0, .int .u8 0, .int .u8 0, .int .u8 0, .int .u8 0, .int .u8 0, .int .u8 0, .int .u8 0, .int .u8 0, .int .u8 0, .int .u8 0, .int .u8 0, .int .u8 0, .int .u8 0, .int .u8 0, .int .u8 0, .int .u8 0, .int .u8 0, .int .u8 0, .int .u8 0, .int .u8 0, .int .u8 0, .int .u8 0, .int .u8 0, .int .u8 0, .int .u8 0, .int .u8 0, .int .u8 0, .int .u8 0, .int .u8 0, .int .u8 0, .int .u8 0, .int .u8 0, .int .u8 0, .int .u8 0, .int .u8 0, .int .u8 0, .int .u8 0, .int .u8 0, .int .u8 0, .int .u8 0, .int .u8 0, .int .u8 0, .int .u8 0, .int .u8 0, .int .u8 0, .int .u8 0, .int .u8 0, .int .u8 0, .int .u8 0, .int .u8 0] 113)) ∧ (w.alloc (.cells #[.int .u8 0, .int .u8 0, .int .u8 0, .int .u8 0, .int .u8 0, .int .u8 0, .int .u8 0, .int .u8 0, .int .u8 0, .int .u8 0, .int .u8 0, .int .u8 0, .int .u8 0, .int .u8 0, .int .u8 0, .int .u8 0, .int .u8 0, .int .u8 0, .int .u8 0, .int .u8 0, .int .u8 0, .int .u8 0, .int .u8 0, .int .u8 0, .int .u8 0, .int .u8 0, .int .u8 0, .int .u8 0, .int .u8 0, .int .u8 0, .int .u8 0, .int .u8 0, .int .u8 0, .int .u8 0, .int .u8 0, .int .u8 0, .int .u8 0, .int .u8 0, .int .u8 0, .int .u8 0, .int .u8 0, .int .u8 0, .int .u8 0, .int .u8 0, .int .u8 0, .int .u8 0, .int .u8 0, .int .u8 0, .int .u8 0, .int .u8 0, .int .u8 0, .int .u8 0, .int .u8 0, .int .u8 0, .int .u8 0, .int .u8 0, .int .u8 0, .int .u8 0, .int .u8 0, .int .u8 0, .int .u8 0, .int .u8 0, .int .u8 0, .int .u8 0] 113)).there w.heap.size 0 64 ∧ w.heap.size < (w.alloc (.cells #[.int .u8 0, .int .u8 0, .int .u8 0, .int .u8 0, .int .u8 0, .int .u8 0, .int .u8 0, .int .u8 0, .int .u8 0, .int .u8 0, .int .u8 0, .int .u8 0, .int .u8 0, .int .u8 0, .int .u8 0, .int .u8 0, .int .u8 0, .int .u8 0, .int .u8 0, .int .u8 0, .int .u8 0, .int .u8 0, .int .u8 0, .int .u8 0, .int .u8 0, .int .u8 0, .int .u8 0, .int .u8 0, .int .u8 0, .int .u8 0, .int .u8 0, .int .u8 0, .int .u8 0, .int .u8 0, .int .u8 0, .int .u8 0, .int .u8 0, .int .u8 0, .int .u8 0, .int .u8 0, .int .u8 0, .int .u8 0, .int .u8 0, .int .u8 0, .int .u8 0, .int .u8 0, .int .u8 0, .int .u8 0, .int .u8 0, .int .u8 0, .int .u8 0, .int .u8 0, .int .u8 0, .int .u8 0, .int .u8 0, .int .u8 0, .int .u8 0, .int .u8 0, .int .u8 0, .int .u8 0, .int .u8 0, .int .u8 0, .int .u8 0, .int .u8 0] 113)).heap.size) := ⟨(Below.refl _ _).alloc (Nat.le_refl _) _, there_new w _ 113 64 (by decide), by simp⟩
  generalize w.alloc (.cells #[.int .u8 0, .int .u8 0, .int .u8 0, .int .u8 0, .int .u8 0, .int .u8 0, .int .u8 0, .int .u8 0, .int .u8 0, .int .u8 0, .int .u8 0, .int .u8 0, .int .u8 0, .int .u8 0, .int .u8 0, .int .u8 0, .int .u8 0, .int .u8 0, .int .u8 0, .int .u8 0, .int .u8 0, .int .u8 0, .int .u8 0, .int .u8 0, .int .u8 0, .int .u8 0, .int .u8 0, .int .u8 0, .int .u8 0, .int .u8 0, .int .u8 0, .int .u8 0, .int .u8 0, .int .u8 0, .int .u8 0, .int .u8 0, .int .u8 0, .int .u8 0, .int .u8 0, .int .u8 0, .int .u8 0, .int .u8 0, .int .u8 0, .int .u8 0, .int .u8 0, .int .u8 0, .int .u8 0, .int .u8 0, .int .u8 0, .int .u8 0, .int .u8 0, .int .u8 0, .int .u8 0, .int .u8 0, .int .u8 0, .int .u8 0, .int .u8 0, .int .u8 0, .int .u8 0, .int .u8 0, .int .u8 0, .int .u8 0, .int .u8 0, .int .u8 0] 113) = w0 at HB0 ⊢
  have HK0 : Hid (TK w0 g o h false s half fed) := HK.out.below HB0.out.1
  have fu : w0.cell? ⟨g, o + 10 + used, none⟩ = some (.int .u8 (half used)) := HK0.out.half used (by omega)
  have ff : w0.frozen? ⟨g, o + 10 + used, none⟩ = false := by
    have := (HK0.out.there (10 + used) (by omega)).2
    rw [← Nat.add_assoc] at this
    exact this
  have hx1 := HK0.out.setByte used 128 (by omega)
  have hcl : ∀ ty, (Builtin.clear_ #[23] ty #[.slice (some ⟨g, o + 10 + u1, none⟩) (64 - u1) (128 - u1)]).run Tryd.prog (w0.setCell ⟨g, o + 10 + used, none⟩ (.int .u8 128)) = .ok (.tuple #[]) ((w0.setCell ⟨g, o + 10 + used, none⟩ (.int .u8 128)).setCells g (o + 10 + u1) (List.replicate (64 - u1) (.int .u8 0))) := fun ty => clear_eq _ ty g _ _ _ (fun j hj => by
    have := hx1.1.there (10 + u1 + j) (by omega)
    rw [← Nat.add_assoc, ← Nat.add_assoc] at this
    exact this)
  have hx2 := hx1.1.clear u1 (64 - u1) (by omega)
  have HT1 : Hid (Touch w ((w0.setCell ⟨g, o + 10 + used, none⟩ (.int .u8 128)).setCells g (o + 10 + u1) (List.replicate (64 - u1) (.int .u8 0))) g o 139) := (((Touch.refl w g o 139).below HB0.out.1 hgw).trans hx1.2).trans hx2.2
  have HK1 : Hid (TK ((w0.setCell ⟨g, o + 10 + used, none⟩ (.int .u8 128)).setCells g (o + 10 + u1) (List.replicate (64 - u1) (.int .u8 0))) g o h false s (fun i => if u1 ≤ i ∧ i < u1 + (64 - u1) then 0 else (fun i => if i = used then 128 else half i) i) fed) := hx2.1
  have HR1 : Hid (((w0.setCell ⟨g, o + 10 + used, none⟩ (.int .u8 128)).setCells g (o + 10 + u1) (List.replicate (64 - u1) (.int .u8 0))).there w.heap.size 0 64 ∧ w.heap.size < ((w0.setCell ⟨g, o + 10 + used, none⟩ (.int .u8 128)).setCells g (o + 10 + u1) (List.replicate (64 - u1) (.int .u8 0))).heap.size) := ⟨World.there_setCells (World.there_setCells HB0.out.2.1 g _ [_]) g _ _, by rw [size_setCells]; simpa [World.setCell] using HB0.out.2.2⟩
  clear hx1 hx2
  go_upto_region 8 with fail
  rw [show decide ((56 : Int) < (u1 : Int)) = false by simp; omega]
  generalize (w0.setCell ⟨g, o + 10 + used, none⟩ (.int .u8 128)).setCells g (o + 10 + u1) (List.replicate (64 - u1) (.int .u8 0)) = w2 at HT1 HK1 HR1 hcl ⊢
  have c138' : w2.cell? ⟨g, o + 138, none⟩ = some (.int .u64 fed) := HK1.out.fed
  obtain ⟨H1, HH1⟩ : ∃ H1 : Nat → Int, Hid ((fun i => if u1 ≤ i ∧ i < u1 + (64 - u1) then (0 : Int) else (fun i => if i = used then 128 else half i) i) = H1) := ⟨_, (show _ = _ from rfl)⟩
  rw [HH1.out] at HK1
  obtain ⟨P, HPP⟩ : ∃ P : Nat → Int, Hid (P = padF 64 half fed) := ⟨_, (show _ = _ from rfl)⟩
  obtain ⟨s1, HS1⟩ : ∃ s1 : Eight, Hid (s1 = s) := ⟨_, (show _ = _ from rfl)⟩
  rw [← HS1.out] at HK1
  have hpn : padN 64 fed = 1 := by rw [padN, if_pos (by have := h0.out; have := hu1.out; omega)]
  have HP1 : Hid (∀ k, k < 64 - 8 → H1 k = P k) := by
    intro k hk
    have hu := hu1.out
    have h00 := h0.out
    rw [← HH1.out, HPP.out]
    simp only [padF, hpn, h00]
    by_cases k2 : u1 ≤ k
    · rw [if_pos ⟨k2, by omega⟩, if_neg (by omega), if_neg (by omega), if_pos (by omega)]
    · rw [if_neg (by omega)]
      by_cases k3 : k = used
      · rw [if_pos k3, if_neg (by omega), if_pos k3]
      · rw [if_neg k3, if_pos (by omega)]
  have HPL : Hid (∀ k, 64 - 8 ≤ k → k < 64 → P k = ((fed : Int) * 8) / 2 ^ (8 * (64 - 1 - k)) % 256) := by
    intro k k1 hk
    have hu := hu1.out
    have h00 := h0.out
    rw [HPP.out]
    simp only [padF, hpn, h00]
    rw [if_neg (by omega), if_neg (by omega), if_neg (by omega)]
  have HE : Hid (TT false P s1 1 = TT false (padF 64 half fed) s (padN 64 fed)) := by show _ = _; rw [HPP.out, HS1.out, hpn]
  clear hcl fu ff HK0 HB0 c0 c138 hpn HH1 HPP HS1
  go_wp2
  clear c138'
  go_loopw [62] (fun v wr => ∃ i : Nat, i ≤ 8 ∧ v = .int .i64 i ∧ Hid (Touch w wr g o 139) ∧ Hid (TK wr g o h false s1 (fun k => if 64 - i ≤ k ∧ k < 64 then ((fed : Int) * 8) / 2 ^ (8 * (64 - 1 - k)) % 256 else H1 k) fed) ∧ Hid (wr.there w.heap.size 0 64 ∧ w.heap.size < wr.heap.size)) (fun v _ => 8 - (intOf v).toNat)
  case atStart => exact ⟨0, by omega, rfl, HT1, HK1.out.fun_eq (fun i hi => by rw [if_neg (by omega)]), HR1⟩
  case round =>
    obtain ⟨i, hi, rfl, HT2, HK2, HR2⟩ := hrel
    clear HT1 HK1 HR1
    by_cases h8 : i < 8
    · obtain ⟨j, hj⟩ : ∃ j, j = 64 - 1 - i := ⟨_, rfl⟩
      have e2 : (63 : Int) - (i : Int) = (j : Int) := by omega
      have e3 : (8 * (i : Int)).toNat = 8 * i := by omega
      have e4 : min (8 * i) 64 = 8 * i := by omega
      have e5 : (0 : Int) ≤ 8 * (i : Int) := by omega
      have e6 : (j : Int) < 128 := by omega
      have HJ : Hid (j = 64 - 1 - i) := hj
      have fc := HK2.out.half j (by omega)
      have ff : wr.frozen? ⟨g, o + 10 + j, none⟩ = false := by
        have := (HK2.out.there (10 + j) (by omega)).2
        rw [← Nat.add_assoc] at this
        exact this
      clear hj
      go_wp2
      go_region
      go_wp2
      go_roundw
      case rel =>
        have hx := HK2.out.setByte j ((fed : Int) * 8 / 2 ^ (8 * i) % 256) (by omega)
        refine ⟨i + 1, by omega, by go_num, (HT2.out.trans hx.2).drew, (hx.1.sm (Sm.refl _).drew).fun_eq (fun k hk => ?_), ⟨World.there_setCells HR2.out.1 g _ [_], by simpa [World.setCell] using HR2.out.2⟩⟩
        have hj := HJ.out
        by_cases hkj : k = j
        · subst hkj
          rw [if_pos rfl, if_pos (by omega), show 64 - 1 - k = i by omega]
        · rw [if_neg hkj]
          by_cases hc : 64 - i ≤ k ∧ k < 64
          · rw [if_pos hc, if_pos (by omega)]
          · rw [if_neg hc, if_neg (by omega)]
      case measure => simp [intOf]; omega
    · obtain rfl : i = 8 := by omega
      have c1' : wr.cell? ⟨g, o + 1, none⟩ = some (.func (.func 80) #[] #[]) := HK2.out.fn
      obtain ⟨H2, HH2⟩ : ∃ H2 : Nat → Int, Hid ((fun k => if 64 - 8 ≤ k ∧ k < 64 then ((fed : Int) * 8) / 2 ^ (8 * (64 - 1 - k)) % 256 else H1 k) = H2) := ⟨_, (show _ = _ from rfl)⟩
      rw [HH2.out] at HK2
      have HP : Hid (∀ k, k < 64 → H2 k = P k) := by
        intro k hk
        rw [← HH2.out]
        dsimp only
        by_cases k1 : 64 - 8 ≤ k
        · rw [if_pos ⟨k1, hk⟩, HPL.out k k1 hk]
        · rw [if_neg (by omega), HP1.out k (by omega)]
      obtain ⟨s', HS'⟩ : ∃ s' : Eight, Hid (s' = TT false (padF 64 half fed) s (padN 64 fed)) := ⟨_, (show _ = _ from rfl)⟩
      have HA : Hid (∀ v, Sm wr v → Calls Tryd.prog 80 #[.pointer (some ⟨g, o + 2, none⟩), .slice (some ⟨g, o + 10, none⟩) 64 128] v fun e w' => e = .returned (.tuple #[]) ∧ Touch wr w' g o 139 ∧ TK w' g o h false s' H2 fed) := by
        intro v hsm
        have hs1 := HT2.out.size
        have hk' := HK2.out.sm hsm
        refine (take_any false g (o + 2) _ ((List.range 64).map H2) s1 v (by rw [hsm.heap]; omega) hk'.st (fun j hj => by have := hk'.there (2 + j) (by omega); rw [← Nat.add_assoc] at this; exact this) (view_half hk' 64 (by omega)) (fun _ _ _ _ e => by injection e with e1 e2 e3; injection e1 with e1; injection e1 with e4 e5; omega) (hsm.tables (hT.out.touch HT2.out hg)) hg).mono ?_
        rintro e w' ⟨rfl, ht', hr'⟩
        rw [show ((List.range 64).map H2).length / bsz false = 1 by simp [bsz], TT_congr false (B' := P) s1 1 (fun j hj => by simp [bsz] at hj; simp [List.getD, hj]; exact HP.out j (by omega)), HE.out, ← HS'.out] at hr'
        exact ⟨rfl, (hsm.touch g o 139).trans (ht'.mono o 139 (by omega) (by omega)), hk'.words ht' hr'⟩
      clear HH2 h8 HP HPL HP1 HE
      go_wp2
      go_region_held3 (fun v => v.cell? ⟨g, o + 1, none⟩ = some (.func (.func 80) #[] #[])) (first | go_keep | exact hk3.fn) ((go_at_call 80; refine (HA.out wr.drew (Sm.refl wr).drew).mono ?_; rintro e3 w3 ⟨rfl, ht3, hk3⟩))
      have HT3 : Hid (Touch w w3 g o 139) := HT2.out.trans ht3
      have HR3 : Hid (w3.there w.heap.size 0 64 ∧ w.heap.size < w3.heap.size) := ⟨ht3.thereFar HR2.out.1 HR2.out.2 (by omega), Nat.lt_of_lt_of_le HR2.out.2 ht3.size⟩
      have HK3 : Hid (TK w3 g o h false s' H2 fed) := hk3
      clear ht3 hk3 HA c1' HT2 HR2 HK2
      go_wp2_with (first | (go_at_call 84; refine (spell64 g o h s' H2 fed _ hblk HK3).mono ?_))
      rintro e4 w4 ⟨rfl, hb4⟩
      have hs3 := HT3.out.size
      have HT4 : Hid (Touch w w4 g o 139) := HT3.out.below hb4 hgw
      have HK4 : Hid (TK w4 g o h false s' H2 fed) := HK3.out.below hb4
      have HR4 : Hid (w4.there w.heap.size 0 64) := fun j hj => by rw [hb4.cell (p := ⟨w.heap.size, 0 + j, none⟩) HR3.out.2, hb4.frozen (p := ⟨w.heap.size, 0 + j, none⟩) HR3.out.2]; exact HR3.out.1 j hj
      have HY : Hid (w4.there w.heap.size 0 (spellCells 4 s').toArray.size) := by rw [spellArr_size]; exact HR4.out
      have HZ : Hid ((Tryd.prog.info? 113).map (·.size) = some (spellCells 4 s').toArray.size) := by rw [spellArr_size]; exact size75
      clear HT3 HK3 HR3 hb4
      go_wp2_with (first
        | (refine wpList_store_mid (by rfl) 113 (.tmp 2) (.tmp 93) (by rfl) w.heap.size 0 (spellCells 4 s').toArray (by rfl) (by rfl) HY.out HZ.out (spellCells_one 4 s') ?_)
        | fail)
      have hl := run_loadVar_mid (P := Tryd.prog) (w4.setCells w.heap.size 0 (spellCells 4 s')) w.heap.size 0 113 (spellCells 4 s') _ (World.rangeAt_setCells_same w4 w.heap.size 0 (spellCells 4 s') (by rw [spellCells_length]; exact HR4.out)) Tryd.underlying113 rfl (by rw [spellCells_length]; exact size75)
      have hn := touch_new HT4.out (Nat.le_refl _) (spellCells 4 s') 0 hgw
      have hs' := HS'.out
      refine bodyPost_ret (v := .agg (spellCells 4 s').toArray) ?_ rfl ⟨by rw [hs'], hn, H2, by rw [← hs']; exact HK4.out.newer (by omega) _ _⟩
      rw [results_cell1D Tryd.results72]
      simp [Act.put, asAddr, hl]
end Go.Proofs.YtbpkocohddlbhaaDoor
namespace Go.Proofs.YtbpkocohddlbhaaDoor
open Go.RowKit
set_option linter.unusedVariables false
set_option linter.unusedSimpArgs false

set_option maxHeartbeats 3200000 in
set_option maxRecDepth 100000 in
theorem finish128_A (g o : Nat) (h : Int) (s : Eight) (half : Nat → Int) (fed used u1 : Nat) (w : World) (hblk : blockOf h = 128) (HK : Hid (TK w g o h true s half fed)) (hfed : fed ≤ 1152921504606846976) (hT : Hid (Tables w)) (hg : 4 ≤ g) (h0 : Hid (fed % 128 = used)) (hu1 : Hid (u1 = used + 1)) (hu : u1 ≤ 112) :
    Calls Tryd.prog 72 #[.pointer (some ⟨g, o, none⟩)] w fun e w' => e = .returned (.agg (spellCells 8 (TT true (padF 128 half fed) s (padN 128 fed))).toArray) ∧ Touch w w' g o 139 ∧ ∃ half', TK w' g o h true (TT true (padF 128 half fed) s (padN 128 fed)) half' fed := by
  have c0 := HK.out.hash
  have c138 := HK.out.fed
  have hgw : g < w.heap.size := lt_of_cell c0
  have e1 : (used : Int) + 1 = (u1 : Int) := by have := hu1.out; omega
  have hu' : (u1 : Int) ≤ 128 := by omega
  have hu'' : (0 : Int) ≤ (u1 : Int) := by omega
  have hul : used < u1 := by have := hu1.out; omega
  have hlim : (u1 : Int) ≤ 112 := by omega
  have r0 : ((fed : Int) % 128) = (used : Int) := by have := h0.out; omega
  go_enter Tryd.func72, Tryd.ntmps72
  go_upto_region 3 with (first | (go_at_call 79; refine (block_any _ _).mono ?_; rintro e1 w1 ⟨rfl, hw1⟩; obtain rfl := hw1.symm; rw [hblk]))
  have HB0 : Hid (Below w.heap.size w (w.alloc (.cells #[.int .u8 0, .int .u8 0, .int .u8 0, .int .u8 0, .int .u8 0, .int .u8 0, .int .u8 0, .int .u8 0, .int .u8 0, .int .u8 0, .int .u8 0, .int .u8 0, .int .u8 0, .int .u8 0, .int .u8 0, .int .u8 0, .int .u8 0, .int .u8 0, .int .u8 0, .int .u8 0, .int .u8 0, .int .u8 0, .int .u8 0, .int .u8 0, .int .u8 0, .int .u8 0, .int .u8 0, .int .u8 0, .int .u8 0, .int .u8 0, .int .u8 0, .int .u8 0, .int .u8 0, .int .u8 0, .int .u8 0, .int .u8 0, .int .u8 0, .int .u8 0, .int .u8 0, .int .u8 0, .int .u8 0, .int .u8 0, .int .u8 0, .int .u8 0, .int .u8 0, .int .u8 0, .int .u8 0, .int .u8 0, .int .u8 0, .int .u8 0, .int .u8 0, .int .u8 0, .int .u8 0, .int .u8 0, .int .u8 0, .int .u8 0, .int .u8 0, .int .u8 0, .int .u8 0, .int .u8 0, .int .u8 0, .int .u8 0, .int .u8 0, .int .u8 0] 113)) ∧ (w.alloc (.cells #[.int .u8 0, .int .u8 0, .int .u8 0, .int .u8 0, .int .u8 0, .int .u8 0, .int .u8 0, .int .u8 0, .int .u8 0, .int .u8 0, .int .u8 0, .int .u8 0, .int .u8 0, .int .u8 0, .int .u8 0, .int .u8 0, .int .u8 0, .int .u8 0, .int .u8 0, .int .u8 0, .int .u8 0, .int .u8 0, .int .u8 0, .int .u8 0, .int .u8 0, .int .u8 0, .int .u8 0, .int .u8 0, .int .u8 0, .int .u8 0, .int .u8 0, .int .u8 0, .int .u8 0, .int .u8 0, .int .u8 0, .int .u8 0, .int .u8 0, .int .u8 0, .int .u8 0, .int .u8 0, .int .u8 0, .int .u8 0, .int .u8 0, .int .u8 0, .int .u8 0, .int .u8 0, .int .u8 0, .int .u8 0, .int .u8 0, .int .u8 0, .int .u8 0, .int .u8 0, .int .u8 0, .int .u8 0, .int .u8 0, .int .u8 0, .int .u8 0, .int .u8 0, .int .u8 0, .int .u8 0, .int .u8 0, .int .u8 0, .int .u8 0, .int .u8 0] 113)).there w.heap.size 0 64 ∧ w.heap.size < (w.alloc (.cells #[.int .u8 0, .int .u8 0, .int .u8 0, .int .u8 0, .int .u8 0, .int .u8 0, .int .u8 0, .int .u8 0, .int .u8 0, .int .u8 0, .int .u8 0, .int .u8 0, .int .u8 0, .int .u8 0, .int .u8 0, .int .u8 0, .int .u8 0, .int .u8 0, .int .u8 0, .int .u8 0, .int .u8 0, .int .u8 0, .int .u8 0, .int .u8 0, .int .u8 0, .int .u8 0, .int .u8 0, .int .u8 0, .int .u8 0, .int .u8 0, .int .u8 0, .int .u8 0, .int .u8 0, .int .u8 0, .int .u8 0, .int .u8 0, .int .u8 0, .int .u8 0, .int .u8 0, .int .u8 0, .int .u8 0, .int .u8 0, .int .u8 0, .int .u8 0, .int .u8 0, .int .u8 0, .int .u8 0, .int .u8 0, .int .u8 0, .int .u8 0, .int .u8 0, .int .u8 0, .int .u8 0, .int .u8 0, .int .u8 0, .int .u8 0, .int .u8 0, .int .u8 0, .int .u8 0, .int .u8 0, .int .u8 0, .int .u8 0, .int .u8 0, .int .u8 0] 113)).heap.size) := ⟨(Below.refl _ _).alloc (Nat.le_refl _) _, there_new w _ 113 64 (by decide), by simp⟩
  generalize w.alloc (.cells #[.int .u8 0, .int .u8 0, .int .u8 0, .int .u8 0, .int .u8 0, .int .u8 0, .int .u8 0, .int .u8 0, .int .u8 0, .int .u8 0, .int .u8 0, .int .u8 0, .int .u8 0, .int .u8 0, .int .u8 0, .int .u8 0, .int .u8 0, .int .u8 0, .int .u8 0, .int .u8 0, .int .u8 0, .int .u8 0, .int .u8 0, .int .u8 0, .int .u8 0, .int .u8 0, .int .u8 0, .int .u8 0, .int .u8 0, .int .u8 0, .int .u8 0, .int .u8 0, .int .u8 0, .int .u8 0, .int .u8 0, .int .u8 0, .int .u8 0, .int .u8 0, .int .u8 0, .int .u8 0, .int .u8 0, .int .u8 0, .int .u8 0, .int .u8 0, .int .u8 0, .int .u8 0, .int .u8 0, .int .u8 0, .int .u8 0, .int .u8 0, .int .u8 0, .int .u8 0, .int .u8 0, .int .u8 0, .int .u8 0, .int .u8 0, .int .u8 0, .int .u8 0, .int .u8 0, .int .u8 0, .int .u8 0, .int .u8 0, .int .u8 0, .int .u8 0] 113) = w0 at HB0 ⊢
  have HK0 : Hid (TK w0 g o h true s half fed) := HK.out.below HB0.out.1
  have fu : w0.cell? ⟨g, o + 10 + used, none⟩ = some (.int .u8 (half used)) := HK0.out.half used (by omega)
  have ff : w0.frozen? ⟨g, o + 10 + used, none⟩ = false := by
    have := (HK0.out.there (10 + used) (by omega)).2
    rw [← Nat.add_assoc] at this
    exact this
  have hx1 := HK0.out.setByte used 128 (by omega)
  have hcl : ∀ ty, (Builtin.clear_ #[23] ty #[.slice (some ⟨g, o + 10 + u1, none⟩) (128 - u1) (128 - u1)]).run Tryd.prog (w0.setCell ⟨g, o + 10 + used, none⟩ (.int .u8 128)) = .ok (.tuple #[]) ((w0.setCell ⟨g, o + 10 + used, none⟩ (.int .u8 128)).setCells g (o + 10 + u1) (List.replicate (128 - u1) (.int .u8 0))) := fun ty => clear_eq _ ty g _ _ _ (fun j hj => by
    have := hx1.1.there (10 + u1 + j) (by omega)
    rw [← Nat.add_assoc, ← Nat.add_assoc] at this
    exact this)
  have hx2 := hx1.1.clear u1 (128 - u1) (by omega)
  have HT1 : Hid (Touch w ((w0.setCell ⟨g, o + 10 + used, none⟩ (.int .u8 128)).setCells g (o + 10 + u1) (List.replicate (128 - u1) (.int .u8 0))) g o 139) := (((Touch.refl w g o 139).below HB0.out.1 hgw).trans hx1.2).trans hx2.2
  have HK1 : Hid (TK ((w0.setCell ⟨g, o + 10 + used, none⟩ (.int .u8 128)).setCells g (o + 10 + u1) (List.replicate (128 - u1) (.int .u8 0))) g o h true s (fun i => if u1 ≤ i ∧ i < u1 + (128 - u1) then 0 else (fun i => if i = used then 128 else half i) i) fed) := hx2.1
  have HR1 : Hid (((w0.setCell ⟨g, o + 10 + used, none⟩ (.int .u8 128)).setCells g (o + 10 + u1) (List.replicate (128 - u1) (.int .u8 0))).there w.heap.size 0 64 ∧ w.heap.size < ((w0.setCell ⟨g, o + 10 + used, none⟩ (.int .u8 128)).setCells g (o + 10 + u1) (List.replicate (128 - u1) (.int .u8 0))).heap.size) := ⟨World.there_setCells (World.there_setCells HB0.out.2.1 g _ [_]) g _ _, by rw [size_setCells]; simpa [World.setCell] using HB0.out.2.2⟩
  clear hx1 hx2
  go_upto_region 8 with fail
  rw [show decide ((112 : Int) < (u1 : Int)) = false by simp; omega]
  generalize (w0.setCell ⟨g, o + 10 + used, none⟩ (.int .u8 128)).setCells g (o + 10 + u1) (List.replicate (128 - u1) (.int .u8 0)) = w2 at HT1 HK1 HR1 hcl ⊢
  have c138' : w2.cell? ⟨g, o + 138, none⟩ = some (.int .u64 fed) := HK1.out.fed
  obtain ⟨H1, HH1⟩ : ∃ H1 : Nat → Int, Hid ((fun i => if u1 ≤ i ∧ i < u1 + (128 - u1) then (0 : Int) else (fun i => if i = used then 128 else half i) i) = H1) := ⟨_, (show _ = _ from rfl)⟩
  rw [HH1.out] at HK1
  obtain ⟨P, HPP⟩ : ∃ P : Nat → Int, Hid (P = padF 128 half fed) := ⟨_, (show _ = _ from rfl)⟩
  obtain ⟨s1, HS1⟩ : ∃ s1 : Eight, Hid (s1 = s) := ⟨_, (show _ = _ from rfl)⟩
  rw [← HS1.out] at HK1
  have hpn : padN 128 fed = 1 := by rw [padN, if_pos (by have := h0.out; have := hu1.out; omega)]
  have HP1 : Hid (∀ k, k < 128 - 8 → H1 k = P k) := by
    intro k hk
    have hu := hu1.out
    have h00 := h0.out
    rw [← HH1.out, HPP.out]
    simp only [padF, hpn, h00]
    by_cases k2 : u1 ≤ k
    · rw [if_pos ⟨k2, by omega⟩, if_neg (by omega), if_neg (by omega), if_pos (by omega)]
    · rw [if_neg (by omega)]
      by_cases k3 : k = used
      · rw [if_pos k3, if_neg (by omega), if_pos k3]
      · rw [if_neg k3, if_pos (by omega)]
  have HPL : Hid (∀ k, 128 - 8 ≤ k → k < 128 → P k = ((fed : Int) * 8) / 2 ^ (8 * (128 - 1 - k)) % 256) := by
    intro k k1 hk
    have hu := hu1.out
    have h00 := h0.out
    rw [HPP.out]
    simp only [padF, hpn, h00]
    rw [if_neg (by omega), if_neg (by omega), if_neg (by omega)]
  have HE : Hid (TT true P s1 1 = TT true (padF 128 half fed) s (padN 128 fed)) := by show _ = _; rw [HPP.out, HS1.out, hpn]
  clear hcl fu ff HK0 HB0 c0 c138 hpn HH1 HPP HS1
  go_wp2
  clear c138'
  go_loopw [62] (fun v wr => ∃ i : Nat, i ≤ 8 ∧ v = .int .i64 i ∧ Hid (Touch w wr g o 139) ∧ Hid (TK wr g o h true s1 (fun k => if 128 - i ≤ k ∧ k < 128 then ((fed : Int) * 8) / 2 ^ (8 * (128 - 1 - k)) % 256 else H1 k) fed) ∧ Hid (wr.there w.heap.size 0 64 ∧ w.heap.size < wr.heap.size)) (fun v _ => 8 - (intOf v).toNat)
  case atStart => exact ⟨0, by omega, rfl, HT1, HK1.out.fun_eq (fun i hi => by rw [if_neg (by omega)]), HR1⟩
  case round =>
    obtain ⟨i, hi, rfl, HT2, HK2, HR2⟩ := hrel
    clear HT1 HK1 HR1
    by_cases h8 : i < 8
    · obtain ⟨j, hj⟩ : ∃ j, j = 128 - 1 - i := ⟨_, rfl⟩
      have e2 : (127 : Int) - (i : Int) = (j : Int) := by omega
      have e3 : (8 * (i : Int)).toNat = 8 * i := by omega
      have e4 : min (8 * i) 64 = 8 * i := by omega
      have e5 : (0 : Int) ≤ 8 * (i : Int) := by omega
      have e6 : (j : Int) < 128 := by omega
      have HJ : Hid (j = 128 - 1 - i) := hj
      have fc := HK2.out.half j (by omega)
      have ff : wr.frozen? ⟨g, o + 10 + j, none⟩ = false := by
        have := (HK2.out.there (10 + j) (by omega)).2
        rw [← Nat.add_assoc] at this
        exact this
      clear hj
      go_wp2
      go_region
      go_wp2
      go_roundw
      case rel =>
        have hx := HK2.out.setByte j ((fed : Int) * 8 / 2 ^ (8 * i) % 256) (by omega)
        refine ⟨i + 1, by omega, by go_num, (HT2.out.trans hx.2).drew, (hx.1.sm (Sm.refl _).drew).fun_eq (fun k hk => ?_), ⟨World.there_setCells HR2.out.1 g _ [_], by simpa [World.setCell] using HR2.out.2⟩⟩
        have hj := HJ.out
        by_cases hkj : k = j
        · subst hkj
          rw [if_pos rfl, if_pos (by omega), show 128 - 1 - k = i by omega]
        · rw [if_neg hkj]
          by_cases hc : 128 - i ≤ k ∧ k < 128
          · rw [if_pos hc, if_pos (by omega)]
          · rw [if_neg hc, if_neg (by omega)]
      case measure => simp [intOf]; omega
    · obtain rfl : i = 8 := by omega
      have c1' : wr.cell? ⟨g, o + 1, none⟩ = some (.func (.func 81) #[] #[]) := HK2.out.fn
      obtain ⟨H2, HH2⟩ : ∃ H2 : Nat → Int, Hid ((fun k => if 128 - 8 ≤ k ∧ k < 128 then ((fed : Int) * 8) / 2 ^ (8 * (128 - 1 - k)) % 256 else H1 k) = H2) := ⟨_, (show _ = _ from rfl)⟩
      rw [HH2.out] at HK2
      have HP : Hid (∀ k, k < 128 → H2 k = P k) := by
        intro k hk
        rw [← HH2.out]
        dsimp only
        by_cases k1 : 128 - 8 ≤ k
        · rw [if_pos ⟨k1, hk⟩, HPL.out k k1 hk]
        · rw [if_neg (by omega), HP1.out k (by omega)]
      obtain ⟨s', HS'⟩ : ∃ s' : Eight, Hid (s' = TT true (padF 128 half fed) s (padN 128 fed)) := ⟨_, (show _ = _ from rfl)⟩
      have HA : Hid (∀ v, Sm wr v → Calls Tryd.prog 81 #[.pointer (some ⟨g, o + 2, none⟩), .slice (some ⟨g, o + 10, none⟩) 128 128] v fun e w' => e = .returned (.tuple #[]) ∧ Touch wr w' g o 139 ∧ TK w' g o h true s' H2 fed) := by
        intro v hsm
        have hs1 := HT2.out.size
        have hk' := HK2.out.sm hsm
        refine (take_any true g (o + 2) _ ((List.range 128).map H2) s1 v (by rw [hsm.heap]; omega) hk'.st (fun j hj => by have := hk'.there (2 + j) (by omega); rw [← Nat.add_assoc] at this; exact this) (view_half hk' 128 (by omega)) (fun _ _ _ _ e => by injection e with e1 e2 e3; injection e1 with e1; injection e1 with e4 e5; omega) (hsm.tables (hT.out.touch HT2.out hg)) hg).mono ?_
        rintro e w' ⟨rfl, ht', hr'⟩
        rw [show ((List.range 128).map H2).length / bsz true = 1 by simp [bsz], TT_congr true (B' := P) s1 1 (fun j hj => by simp [bsz] at hj; simp [List.getD, hj]; exact HP.out j (by omega)), HE.out, ← HS'.out] at hr'
        exact ⟨rfl, (hsm.touch g o 139).trans (ht'.mono o 139 (by omega) (by omega)), hk'.words ht' hr'⟩
      clear HH2 h8 HP HPL HP1 HE
      go_wp2
      go_region_held3 (fun v => v.cell? ⟨g, o + 1, none⟩ = some (.func (.func 81) #[] #[])) (first | go_keep | exact hk3.fn) ((go_at_call 81; refine (HA.out wr.drew (Sm.refl wr).drew).mono ?_; rintro e3 w3 ⟨rfl, ht3, hk3⟩))
      have HT3 : Hid (Touch w w3 g o 139) := HT2.out.trans ht3
      have HR3 : Hid (w3.there w.heap.size 0 64 ∧ w.heap.size < w3.heap.size) := ⟨ht3.thereFar HR2.out.1 HR2.out.2 (by omega), Nat.lt_of_lt_of_le HR2.out.2 ht3.size⟩
      have HK3 : Hid (TK w3 g o h true s' H2 fed) := hk3
      clear ht3 hk3 HA c1' HT2 HR2 HK2
      go_wp2_with (first | (go_at_call 84; refine (spell128 g o h s' H2 fed _ hblk HK3).mono ?_))
      rintro e4 w4 ⟨rfl, hb4⟩
      have hs3 := HT3.out.size
      have HT4 : Hid (Touch w w4 g o 139) := HT3.out.below hb4 hgw
      have HK4 : Hid (TK w4 g o h true s' H2 fed) := HK3.out.below hb4
      have HR4 : Hid (w4.there w.heap.size 0 64) := fun j hj => by rw [hb4.cell (p := ⟨w.heap.size, 0 + j, none⟩) HR3.out.2, hb4.frozen (p := ⟨w.heap.size, 0 + j, none⟩) HR3.out.2]; exact HR3.out.1 j hj
      have HY : Hid (w4.there w.heap.size 0 (spellCells 8 s').toArray.size) := by rw [spellArr_size]; exact HR4.out
      have HZ : Hid ((Tryd.prog.info? 113).map (·.size) = some (spellCells 8 s').toArray.size) := by rw [spellArr_size]; exact size75
      clear HT3 HK3 HR3 hb4
      go_wp2_with (first
        | (refine wpList_store_mid (by rfl) 113 (.tmp 2) (.tmp 93) (by rfl) w.heap.size 0 (spellCells 8 s').toArray (by rfl) (by rfl) HY.out HZ.out (spellCells_one 8 s') ?_)
        | fail)
      have hl := run_loadVar_mid (P := Tryd.prog) (w4.setCells w.heap.size 0 (spellCells 8 s')) w.heap.size 0 113 (spellCells 8 s') _ (World.rangeAt_setCells_same w4 w.heap.size 0 (spellCells 8 s') (by rw [spellCells_length]; exact HR4.out)) Tryd.underlying113 rfl (by rw [spellCells_length]; exact size75)
      have hn := touch_new HT4.out (Nat.le_refl _) (spellCells 8 s') 0 hgw
      have hs' := HS'.out
      refine bodyPost_ret (v := .agg (spellCells 8 s').toArray) ?_ rfl ⟨by rw [hs'], hn, H2, by rw [← hs']; exact HK4.out.newer (by omega) _ _⟩
      rw [results_cell1D Tryd.results72]
      simp [Act.put, asAddr, hl]
end Go.Proofs.YtbpkocohddlbhaaDoor
namespace Go.Proofs.YtbpkocohddlbhaaDoor
open Go.RowKit
set_option linter.unusedVariables false
set_option linter.unusedSimpArgs false

set_option maxHeartbeats 3200000 in
set_option maxRecDepth 100000 in
theorem finish64_B (g o : Nat) (h : Int) (s : Eight) (half : Nat → Int) (fed used u1 : Nat) (w : World) (hblk : blockOf h = 64) (HK : Hid (TK w g o h false s half fed)) (hfed : fed ≤ 1152921504606846976) (hT : Hid (Tables w)) (hg : 4 ≤ g) (h0 : Hid (fed % 64 = used)) (hu1 : Hid (u1 = used + 1)) (hu : 56 < u1) (hu9 : u1 ≤ 64) :
    Calls Tryd.prog 72 #[.pointer (some ⟨g, o, none⟩)] w fun e w' => e = .returned (.agg (spellCells 4 (TT false (padF 64 half fed) s (padN 64 fed))).toArray) ∧ Touch w w' g o 139 ∧ ∃ half', TK w' g o h false (TT false (padF 64 half fed) s (padN 64 fed)) half' fed := by
  have c0 := HK.out.hash
  have c138 := HK.out.fed
  have hgw : g < w.heap.size := lt_of_cell c0
  have e1 : (used : Int) + 1 = (u1 : Int) := by have := hu1.out; omega
  have hu' : (u1 : Int) ≤ 64 := by omega
  have hu'' : (0 : Int) ≤ (u1 : Int) := by omega
  have hul : used < u1 := by have := hu1.out; omega
  have hlim : (56 : Int) < (u1 : Int) := by omega
  have r0 : ((fed : Int) % 64) = (used : Int) := by have := h0.out; omega
  go_enter Tryd.func72, Tryd.ntmps72
  go_upto_region 3 with (first | (go_at_call 79; refine (block_any _ _).mono ?_; rintro e1 w1 ⟨rfl, hw1⟩; obtain rfl := hw1.symm; rw [hblk]))
  have HB0 : Hid (Below w.heap.size w (w.alloc (.cells #[.int .u8 0, .int .u8 0, .int .u8 0, .int .u8 0, .int .u8 0, .int .u8 0, .int .u8 0, .int .u8 0, .int .u8 0, .int .u8 0, .int .u8 0, .int .u8 0, .int .u8 0, .int .u8 0, .int .u8 0, .int .u8 0, .int .u8 0, .int .u8 0, .int .u8 0, .int .u8 0, .int .u8 0, .int .u8 0, .int .u8 0, .int .u8 0, .int .u8 0, .int .u8 0, .int .u8 0, .int .u8 0, .int .u8 0, .int .u8 0, .int .u8 0, .int .u8 0, .int .u8 0, .int .u8 0, .int .u8 0, .int .u8 0, .int .u8 0, .int .u8 0, .int .u8 0, .int .u8 0, .int .u8 0, .int .u8 0, .int .u8 0, .int .u8 0, .int .u8 0, .int .u8 0, .int .u8 0, .int .u8 0, .int .u8 0, .int .u8 0, .int .u8 0, .int .u8 0, .int .u8 0, .int .u8 0, .int .u8 0, .int .u8 0, .int .u8 0, .int .u8 0, .int .u8 0, .int .u8 0, .int .u8 0, .int .u8 0, .int .u8 0, .int .u8 0] 113)) ∧ (w.alloc (.cells #[.int .u8 0, .int .u8 0, .int .u8 0, .int .u8 0, .int .u8 0, .int .u8 0, .int .u8 0, .int .u8 0, .int .u8 0, .int .u8 0, .int .u8 0, .int .u8 0, .int .u8 0, .int .u8 0, .int .u8 0, .int .u8 0, .int .u8 0, .int .u8 0, .int .u8 0, .int .u8 0, .int .u8 0, .int .u8 0, .int .u8 0, .int .u8 0, .int .u8 0, .int .u8 0, .int .u8 0, .int .u8 0, .int .u8 0, .int .u8 0, .int .u8 0, .int .u8 0, .int .u8 0, .int .u8 0, .int .u8 0, .int .u8 0, .int .u8 0, .int .u8 0, .int .u8 0, .int .u8 0, .int .u8 0, .int .u8 0, .int .u8 0, .int .u8 0, .int .u8 0, .int .u8 0, .int .u8 0, .int .u8 0, .int .u8 0, .int .u8 0, .int .u8 0, .int .u8 0, .int .u8 0, .int .u8 0, .int .u8 0, .int .u8 0, .int .u8 0, .int .u8 0, .int .u8 0, .int .u8 0, .int .u8 0, .int .u8 0, .int .u8 0, .int .u8 0] 113)).there w.heap.size 0 64 ∧ w.heap.size < (w.alloc (.cells #[.int .u8 0, .int .u8 0, .int .u8 0, .int .u8 0, .int .u8 0, .int .u8 0, .int .u8 0, .int .u8 0, .int .u8 0, .int .u8 0, .int .u8 0, .int .u8 0, .int .u8 0, .int .u8 0, .int .u8 0, .int .u8 0, .int .u8 0, .int .u8 0, .int .u8 0, .int .u8 0, .int .u8 0, .int .u8 0, .int .u8 0, .int .u8 0, .int .u8 0, .int .u8 0, .int .u8 0, .int .u8 0, .int .u8 0, .int .u8 0, .int .u8 0, .int .u8 0, .int .u8 0, .int .u8 0, .int .u8 0, .int .u8 0, .int .u8 0, .int .u8 0, .int .u8 0, .int .u8 0, .int .u8 0, .int .u8 0, .int .u8 0, .int .u8 0, .int .u8 0, .int .u8 0, .int .u8 0, .int .u8 0, .int .u8 0, .int .u8 0, .int .u8 0, .int .u8 0, .int .u8 0, .int .u8 0, .int .u8 0, .int .u8 0, .int .u8 0, .int .u8 0, .int .u8 0, .int .u8 0, .int .u8 0, .int .u8 0, .int .u8 0, .int .u8 0] 113)).heap.size) := ⟨(Below.refl _ _).alloc (Nat.le_refl _) _, there_new w _ 113 64 (by decide), by simp⟩
  generalize w.alloc (.cells #[.int .u8 0, .int .u8 0, .int .u8 0, .int .u8 0, .int .u8 0, .int .u8 0, .int .u8 0, .int .u8 0, .int .u8 0, .int .u8 0, .int .u8 0, .int .u8 0, .int .u8 0, .int .u8 0, .int .u8 0, .int .u8 0, .int .u8 0, .int .u8 0, .int .u8 0, .int .u8 0, .int .u8 0, .int .u8 0, .int .u8 0, .int .u8 0, .int .u8 0, .int .u8 0, .int .u8 0, .int .u8 0, .int .u8 0, .int .u8 0, .int .u8 0, .int .u8 0, .int .u8 0, .int .u8 0, .int .u8 0, .int .u8 0, .int .u8 0, .int .u8 0, .int .u8 0, .int .u8 0, .int .u8 0, .int .u8 0, .int .u8 0, .int .u8 0, .int .u8 0, .int .u8 0, .int .u8 0, .int .u8 0, .int .u8 0, .int .u8 0, .int .u8 0, .int .u8 0, .int .u8 0, .int .u8 0, .int .u8 0, .int .u8 0, .int .u8 0, .int .u8 0, .int .u8 0, .int .u8 0, .int .u8 0, .int .u8 0, .int .u8 0, .int .u8 0] 113) = w0 at HB0 ⊢
  have HK0 : Hid (TK w0 g o h false s half fed) := HK.out.below HB0.out.1
  have fu : w0.cell? ⟨g, o + 10 + used, none⟩ = some (.int .u8 (half used)) := HK0.out.half used (by omega)
  have ff : w0.frozen? ⟨g, o + 10 + used, none⟩ = false := by
    have := (HK0.out.there (10 + used) (by omega)).2
    rw [← Nat.add_assoc] at this
    exact this
  have hx1 := HK0.out.setByte used 128 (by omega)
  have hcl : ∀ ty, (Builtin.clear_ #[23] ty #[.slice (some ⟨g, o + 10 + u1, none⟩) (64 - u1) (128 - u1)]).run Tryd.prog (w0.setCell ⟨g, o + 10 + used, none⟩ (.int .u8 128)) = .ok (.tuple #[]) ((w0.setCell ⟨g, o + 10 + used, none⟩ (.int .u8 128)).setCells g (o + 10 + u1) (List.replicate (64 - u1) (.int .u8 0))) := fun ty => clear_eq _ ty g _ _ _ (fun j hj => by
    have := hx1.1.there (10 + u1 + j) (by omega)
    rw [← Nat.add_assoc, ← Nat.add_assoc] at this
    exact this)
  have hx2 := hx1.1.clear u1 (64 - u1) (by omega)
  have HT1 : Hid (Touch w ((w0.setCell ⟨g, o + 10 + used, none⟩ (.int .u8 128)).setCells g (o + 10 + u1) (List.replicate (64 - u1) (.int .u8 0))) g o 139) := (((Touch.refl w g o 139).below HB0.out.1 hgw).trans hx1.2).trans hx2.2
  have HK1 : Hid (TK ((w0.setCell ⟨g, o + 10 + used, none⟩ (.int .u8 128)).setCells g (o + 10 + u1) (List.replicate (64 - u1) (.int .u8 0))) g o h false s (fun i => if u1 ≤ i ∧ i < u1 + (64 - u1) then 0 else (fun i => if i = used then 128 else half i) i) fed) := hx2.1
  have HR1 : Hid (((w0.setCell ⟨g, o + 10 + used, none⟩ (.int .u8 128)).setCells g (o + 10 + u1) (List.replicate (64 - u1) (.int .u8 0))).there w.heap.size 0 64 ∧ w.heap.size < ((w0.setCell ⟨g, o + 10 + used, none⟩ (.int .u8 128)).setCells g (o + 10 + u1) (List.replicate (64 - u1) (.int .u8 0))).heap.size) := ⟨World.there_setCells (World.there_setCells HB0.out.2.1 g _ [_]) g _ _, by rw [size_setCells]; simpa [World.setCell] using HB0.out.2.2⟩
  clear hx1 hx2
  go_upto_region 6 with fail
  generalize (w0.setCell ⟨g, o + 10 + used, none⟩ (.int .u8 128)).setCells g (o + 10 + u1) (List.replicate (64 - u1) (.int .u8 0)) = w2 at HT1 HK1 HR1 hcl ⊢
  have c1' : w2.cell? ⟨g, o + 1, none⟩ = some (.func (.func 80) #[] #[]) := HK1.out.fn
  obtain ⟨H0, HH0⟩ : ∃ H0 : Nat → Int, Hid ((fun i => if u1 ≤ i ∧ i < u1 + (64 - u1) then (0 : Int) else (fun i => if i = used then 128 else half i) i) = H0) := ⟨_, (show _ = _ from rfl)⟩
  rw [HH0.out] at HK1
  obtain ⟨s1, HS1⟩ : ∃ s1 : Eight, Hid (s1 = TT false H0 s 1) := ⟨_, (show _ = _ from rfl)⟩
  have HA : Hid (∀ v, Sm w2 v → Calls Tryd.prog 80 #[.pointer (some ⟨g, o + 2, none⟩), .slice (some ⟨g, o + 10, none⟩) 64 128] v fun e w' => e = .returned (.tuple #[]) ∧ Touch w2 w' g o 139 ∧ TK w' g o h false s1 H0 fed) := by
    intro v hsm
    have hs1 := HT1.out.size
    have hk' := HK1.out.sm hsm
    refine (take_any false g (o + 2) _ ((List.range 64).map H0) s v (by rw [hsm.heap]; omega) hk'.st (fun j hj => by have := hk'.there (2 + j) (by omega); rw [← Nat.add_assoc] at this; exact this) (view_half hk' 64 (by omega)) (fun _ _ _ _ e => by injection e with e1 e2 e3; injection e1 with e1; injection e1 with e4 e5; omega) (hsm.tables (hT.out.touch HT1.out hg)) hg).mono ?_
    rintro e w' ⟨rfl, ht', hr'⟩
    rw [show ((List.range 64).map H0).length / bsz false = 1 by simp [bsz], TT_congr false (B' := H0) s 1 (fun j hj => by simp [bsz] at hj; simp [List.getD, hj]), ← HS1.out] at hr'
    exact ⟨rfl, (hsm.touch g o 139).trans (ht'.mono o 139 (by omega) (by omega)), hk'.words ht' hr'⟩
  clear hcl fu ff HK0 HB0 c0 c138
  go_wp2
  go_region_held3 (fun v => v.cell? ⟨g, o + 1, none⟩ = some (.func (.func 80) #[] #[])) (first | go_keep | exact hk3.fn) ((go_at_call 80; refine (HA.out w2.drew (Sm.refl w2).drew).mono ?_; rintro e3 w3 ⟨rfl, ht3, hk3⟩))
  have hx3 := hk3.clear 0 64 (by omega)
  have hcl3 : ∀ ty, (Builtin.clear_ #[23] ty #[.slice (some ⟨g, o + 10, none⟩) 64 128]).run Tryd.prog w3 = .ok (.tuple #[]) (w3.setCells g (o + 10) (List.replicate 64 (.int .u8 0))) := fun ty => clear_eq _ ty g _ _ _ (fun j hj => by
    have := hk3.there (10 + j) (by omega)
    rw [← Nat.add_assoc] at this
    exact this)
  rw [Nat.add_zero] at hx3
  have HR2 : Hid ((w3.setCells g (o + 10) (List.replicate 64 (.int .u8 0))).there w.heap.size 0 64 ∧ w.heap.size < (w3.setCells g (o + 10) (List.replicate 64 (.int .u8 0))).heap.size) := ⟨World.there_setCells (ht3.thereFar HR1.out.1 HR1.out.2 (by omega)) g _ _, by rw [size_setCells]; exact Nat.lt_of_lt_of_le HR1.out.2 ht3.size⟩
  have HT2 : Hid (Touch w (w3.setCells g (o + 10) (List.replicate 64 (.int .u8 0))) g o 139) := (HT1.out.trans ht3).trans hx3.2
  have HK2 : Hid (TK (w3.setCells g (o + 10) (List.replicate 64 (.int .u8 0))) g o h false s1 (fun i => if 0 ≤ i ∧ i < 0 + 64 then 0 else H0 i) fed) := hx3.1
  clear hx3 ht3 hk3 HT1 HK1 HR1 HA c1'
  generalize w3.setCells g (o + 10) (List.replicate 64 (.int .u8 0)) = w4 at HT2 HK2 HR2 hcl3
  go_upto_region 8 with fail
  have HT1 := HT2; have HR1 := HR2
  have c138' : w4.cell? ⟨g, o + 138, none⟩ = some (.int .u64 fed) := HK2.out.fed
  obtain ⟨H1, HH1⟩ : ∃ H1 : Nat → Int, Hid ((fun i => if 0 ≤ i ∧ i < 0 + 64 then 0 else H0 i) = H1) := ⟨_, (show _ = _ from rfl)⟩
  rw [HH1.out] at HK2
  have HK1 := HK2
  obtain ⟨P, HPP⟩ : ∃ P : Nat → Int, Hid (P = fun i => padF 64 half fed (64 + i)) := ⟨_, (show _ = _ from rfl)⟩
  have hpn : padN 64 fed = 2 := by rw [padN, if_neg (by have := h0.out; have := hu1.out; omega)]
  have HP1 : Hid (∀ k, k < 64 - 8 → H1 k = P k) := by
    intro k hk
    have hu := hu1.out
    have h00 := h0.out
    rw [← HH1.out, HPP.out]
    simp only [padF, hpn, h00]
    rw [if_pos ⟨by omega, by omega⟩, if_neg (by omega), if_neg (by omega), if_pos (by omega)]
  have HPL : Hid (∀ k, 64 - 8 ≤ k → k < 64 → P k = ((fed : Int) * 8) / 2 ^ (8 * (64 - 1 - k)) % 256) := by
    intro k k1 hk
    have hu := hu1.out
    have h00 := h0.out
    rw [HPP.out]
    simp only [padF, hpn, h00]
    rw [if_neg (by omega), if_neg (by omega), if_neg (by omega), show 2 * 64 - 1 - (64 + k) = 64 - 1 - k by omega]
  have HE : Hid (TT false P s1 1 = TT false (padF 64 half fed) s (padN 64 fed)) := by
    show _ = _
    rw [HPP.out, HS1.out, hpn, show (2 : Nat) = 1 + 1 from rfl, TT_add false _ s 1 1, TT_congr false (B := H0) (B' := padF 64 half fed) s 1]
    · simp [bsz]
    · intro k hk
      have hk' : k < 64 := by simpa [bsz] using hk
      have hu := hu1.out
      have h00 := h0.out
      rw [← HH0.out]
      simp only [padF, hpn, h00]
      by_cases k2 : u1 ≤ k
      · rw [if_pos ⟨k2, by omega⟩, if_neg (by omega), if_neg (by omega), if_pos (by omega)]
      · rw [if_neg (by omega)]
        by_cases k3 : k = used
        · rw [if_pos k3, if_neg (by omega), if_pos k3]
        · rw [if_neg k3, if_pos (by omega)]
  clear hcl3 hpn HH1 HPP HS1 HT2 HK2 HR2 HH0
  go_wp2
  clear c138'
  go_loopw [62] (fun v wr => ∃ i : Nat, i ≤ 8 ∧ v = .int .i64 i ∧ Hid (Touch w wr g o 139) ∧ Hid (TK wr g o h false s1 (fun k => if 64 - i ≤ k ∧ k < 64 then ((fed : Int) * 8) / 2 ^ (8 * (64 - 1 - k)) % 256 else H1 k) fed) ∧ Hid (wr.there w.heap.size 0 64 ∧ w.heap.size < wr.heap.size)) (fun v _ => 8 - (intOf v).toNat)
  case atStart => exact ⟨0, by omega, rfl, HT1, HK1.out.fun_eq (fun i hi => by rw [if_neg (by omega)]), HR1⟩
  case round =>
    obtain ⟨i, hi, rfl, HT2, HK2, HR2⟩ := hrel
    clear HT1 HK1 HR1
    by_cases h8 : i < 8
    · obtain ⟨j, hj⟩ : ∃ j, j = 64 - 1 - i := ⟨_, rfl⟩
      have e2 : (63 : Int) - (i : Int) = (j : Int) := by omega
      have e3 : (8 * (i : Int)).toNat = 8 * i := by omega
      have e4 : min (8 * i) 64 = 8 * i := by omega
      have e5 : (0 : Int) ≤ 8 * (i : Int) := by omega
      have e6 : (j : Int) < 128 := by omega
      have HJ : Hid (j = 64 - 1 - i) := hj
      have fc := HK2.out.half j (by omega)
      have ff : wr.frozen? ⟨g, o + 10 + j, none⟩ = false := by
        have := (HK2.out.there (10 + j) (by omega)).2
        rw [← Nat.add_assoc] at this
        exact this
      clear hj
      go_wp2
      go_region
      go_wp2
      go_roundw
      case rel =>
        have hx := HK2.out.setByte j ((fed : Int) * 8 / 2 ^ (8 * i) % 256) (by omega)
        refine ⟨i + 1, by omega, by go_num, (HT2.out.trans hx.2).drew, (hx.1.sm (Sm.refl _).drew).fun_eq (fun k hk => ?_), ⟨World.there_setCells HR2.out.1 g _ [_], by simpa [World.setCell] using HR2.out.2⟩⟩
        have hj := HJ.out
        by_cases hkj : k = j
        · subst hkj
          rw [if_pos rfl, if_pos (by omega), show 64 - 1 - k = i by omega]
        · rw [if_neg hkj]
          by_cases hc : 64 - i ≤ k ∧ k < 64
          · rw [if_pos hc, if_pos (by omega)]
          · rw [if_neg hc, if_neg (by omega)]
      case measure => simp [intOf]; omega
    · obtain rfl : i = 8 := by omega
      have c1' : wr.cell? ⟨g, o + 1, none⟩ = some (.func (.func 80) #[] #[]) := HK2.out.fn
      obtain ⟨H2, HH2⟩ : ∃ H2 : Nat → Int, Hid ((fun k => if 64 - 8 ≤ k ∧ k < 64 then ((fed : Int) * 8) / 2 ^ (8 * (64 - 1 - k)) % 256 else H1 k) = H2) := ⟨_, (show _ = _ from rfl)⟩
      rw [HH2.out] at HK2
      have HP : Hid (∀ k, k < 64 → H2 k = P k) := by
        intro k hk
        rw [← HH2.out]
        dsimp only
        by_cases k1 : 64 - 8 ≤ k
        · rw [if_pos ⟨k1, hk⟩, HPL.out k k1 hk]
        · rw [if_neg (by omega), HP1.out k (by omega)]
      obtain ⟨s', HS'⟩ : ∃ s' : Eight, Hid (s' = TT false (padF 64 half fed) s (padN 64 fed)) := ⟨_, (show _ = _ from rfl)⟩
      have HA : Hid (∀ v, Sm wr v → Calls Tryd.prog 80 #[.pointer (some ⟨g, o + 2, none⟩), .slice (some ⟨g, o + 10, none⟩) 64 128] v fun e w' => e = .returned (.tuple #[]) ∧ Touch wr w' g o 139 ∧ TK w' g o h false s' H2 fed) := by
        intro v hsm
        have hs1 := HT2.out.size
        have hk' := HK2.out.sm hsm
        refine (take_any false g (o + 2) _ ((List.range 64).map H2) s1 v (by rw [hsm.heap]; omega) hk'.st (fun j hj => by have := hk'.there (2 + j) (by omega); rw [← Nat.add_assoc] at this; exact this) (view_half hk' 64 (by omega)) (fun _ _ _ _ e => by injection e with e1 e2 e3; injection e1 with e1; injection e1 with e4 e5; omega) (hsm.tables (hT.out.touch HT2.out hg)) hg).mono ?_
        rintro e w' ⟨rfl, ht', hr'⟩
        rw [show ((List.range 64).map H2).length / bsz false = 1 by simp [bsz], TT_congr false (B' := P) s1 1 (fun j hj => by simp [bsz] at hj; simp [List.getD, hj]; exact HP.out j (by omega)), HE.out, ← HS'.out] at hr'
        exact ⟨rfl, (hsm.touch g o 139).trans (ht'.mono o 139 (by omega) (by omega)), hk'.words ht' hr'⟩
      clear HH2 h8 HP HPL HP1 HE
      go_wp2
      go_region_held3 (fun v => v.cell? ⟨g, o + 1, none⟩ = some (.func (.func 80) #[] #[])) (first | go_keep | exact hk3.fn) ((go_at_call 80; refine (HA.out wr.drew (Sm.refl wr).drew).mono ?_; rintro e3 w3 ⟨rfl, ht3, hk3⟩))
      have HT3 : Hid (Touch w w3 g o 139) := HT2.out.trans ht3
      have HR3 : Hid (w3.there w.heap.size 0 64 ∧ w.heap.size < w3.heap.size) := ⟨ht3.thereFar HR2.out.1 HR2.out.2 (by omega), Nat.lt_of_lt_of_le HR2.out.2 ht3.size⟩
      have HK3 : Hid (TK w3 g o h false s' H2 fed) := hk3
      clear ht3 hk3 HA c1' HT2 HR2 HK2
      go_wp2_with (first | (go_at_call 84; refine (spell64 g o h s' H2 fed _ hblk HK3).mono ?_))
      rintro e4 w4 ⟨rfl, hb4⟩
      have hs3 := HT3.out.size
      have HT4 : Hid (Touch w w4 g o 139) := HT3.out.below hb4 hgw
      have HK4 : Hid (TK w4 g o h false s' H2 fed) := HK3.out.below hb4
      have HR4 : Hid (w4.there w.heap.size 0 64) := fun j hj => by rw [hb4.cell (p := ⟨w.heap.size, 0 + j, none⟩) HR3.out.2, hb4.frozen (p := ⟨w.heap.size, 0 + j, none⟩) HR3.out.2]; exact HR3.out.1 j hj
      have HY : Hid (w4.there w.heap.size 0 (spellCells 4 s').toArray.size) := by rw [spellArr_size]; exact HR4.out
      have HZ : Hid ((Tryd.prog.info? 113).map (·.size) = some (spellCells 4 s').toArray.size) := by rw [spellArr_size]; exact size75
      clear HT3 HK3 HR3 hb4
      go_wp2_with (first
        | (refine wpList_store_mid (by rfl) 113 (.tmp 2) (.tmp 93) (by rfl) w.heap.size 0 (spellCells 4 s').toArray (by rfl) (by rfl) HY.out HZ.out (spellCells_one 4 s') ?_)
        | fail)
      have hl := run_loadVar_mid (P := Tryd.prog) (w4.setCells w.heap.size 0 (spellCells 4 s')) w.heap.size 0 113 (spellCells 4 s') _ (World.rangeAt_setCells_same w4 w.heap.size 0 (spellCells 4 s') (by rw [spellCells_length]; exact HR4.out)) Tryd.underlying113 rfl (by rw [spellCells_length]; exact size75)
      have hn := touch_new HT4.out (Nat.le_refl _) (spellCells 4 s') 0 hgw
      have hs' := HS'.out
      refine bodyPost_ret (v := .agg (spellCells 4 s').toArray) ?_ rfl ⟨by rw [hs'], hn, H2, by rw [← hs']; exact HK4.out.newer (by omega) _ _⟩
      rw [results_cell1D Tryd.results72]
      simp [Act.put, asAddr, hl]
end Go.Proofs.YtbpkocohddlbhaaDoor
namespace Go.Proofs.YtbpkocohddlbhaaDoor
open Go.RowKit
set_option linter.unusedVariables false
set_option linter.unusedSimpArgs false

set_option maxHeartbeats 3200000 in
set_option maxRecDepth 100000 in
theorem finish128_B (g o : Nat) (h : Int) (s : Eight) (half : Nat → Int) (fed used u1 : Nat) (w : World) (hblk : blockOf h = 128) (HK : Hid (TK w g o h true s half fed)) (hfed : fed ≤ 1152921504606846976) (hT : Hid (Tables w)) (hg : 4 ≤ g) (h0 : Hid (fed % 128 = used)) (hu1 : Hid (u1 = used + 1)) (hu : 112 < u1) (hu9 : u1 ≤ 127) :
    Calls Tryd.prog 72 #[.pointer (some ⟨g, o, none⟩)] w fun e w' => e = .returned (.agg (spellCells 8 (TT true (padF 128 half fed) s (padN 128 fed))).toArray) ∧ Touch w w' g o 139 ∧ ∃ half', TK w' g o h true (TT true (padF 128 half fed) s (padN 128 fed)) half' fed := by
  have c0 := HK.out.hash
  have c138 := HK.out.fed
  have hgw : g < w.heap.size := lt_of_cell c0
  have e1 : (used : Int) + 1 = (u1 : Int) := by have := hu1.out; omega
  have hu' : (u1 : Int) ≤ 128 := by omega
  have hu'' : (0 : Int) ≤ (u1 : Int) := by omega
  have hul : used < u1 := by have := hu1.out; omega
  have hlim : (112 : Int) < (u1 : Int) := by omega
  have r0 : ((fed : Int) % 128) = (used : Int) := by have := h0.out; omega
  go_enter Tryd.func72, Tryd.ntmps72
  go_upto_region 3 with (first | (go_at_call 79; refine (block_any _ _).mono ?_; rintro e1 w1 ⟨rfl, hw1⟩; obtain rfl := hw1.symm; rw [hblk]))
  have HB0 : Hid (Below w.heap.size w (w.alloc (.cells #[.int .u8 0, .int .u8 0, .int .u8 0, .int .u8 0, .int .u8 0, .int .u8 0, .int .u8 0, .int .u8 0, .int .u8 0, .int .u8 0, .int .u8 0, .int .u8 0, .int .u8 0, .int .u8 0, .int .u8 0, .int .u8 0, .int .u8 0, .int .u8 0, .int .u8 0, .int .u8 0, .int .u8 0, .int .u8 0, .int .u8 0, .int .u8 0, .int .u8 0, .int .u8 0, .int .u8 0, .int .u8 0, .int .u8 0, .int .u8 0, .int .u8 0, .int .u8 0, .int .u8 0, .int .u8 0, .int .u8 0, .int .u8 0, .int .u8 0, .int .u8 0, .int .u8 0, .int .u8 0, .int .u8 0, .int .u8 0, .int .u8 0, .int .u8 0, .int .u8 0, .int .u8 0, .int .u8 0, .int .u8 0, .int .u8 0, .int .u8 0, .int .u8 0, .int .u8 0, .int .u8 0, .int .u8 0, .int .u8 0, .int .u8 0, .int .u8 0, .int .u8 0, .int .u8 0, .int .u8 0, .int .u8 0, .int .u8 0, .int .u8 0, .int .u8 0] 113)) ∧ (w.alloc (.cells #[.int .u8 0, .int .u8 0, .int .u8 0, .int .u8 0, .int .u8 0, .int .u8 0, .int .u8 0, .int .u8 0, .int .u8 0, .int .u8 0, .int .u8 0, .int .u8 0, .int .u8 0, .int .u8 0, .int .u8 0, .int .u8 0, .int .u8 0, .int .u8 0, .int .u8 0, .int .u8 0, .int .u8 0, .int .u8 0, .int .u8 0, .int .u8 0, .int .u8 0, .int .u8 0, .int .u8 0, .int .u8 0, .int .u8 0, .int .u8 0, .int .u8 0, .int .u8 0, .int .u8 0, .int .u8 0, .int .u8 0, .int .u8 0, .int .u8 0, .int .u8 0, .int .u8 0, .int .u8 0, .int .u8 0, .int .u8 0, .int .u8 0, .int .u8 0, .int .u8 0, .int .u8 0, .int .u8 0, .int .u8 0, .int .u8 0, .int .u8 0, .int .u8 0, .int .u8 0, .int .u8 0, .int .u8 0, .int .u8 0, .int .u8 0, .int .u8 0, .int .u8 0, .int .u8 0, .int .u8 0, .int .u8 0, .int .u8 0, .int .u8 0, .int .u8 0] 113)).there w.heap.size 0 64 ∧ w.heap.size < (w.alloc (.cells #[.int .u8 0, .int .u8 0, .int .u8 0, .int .u8 0, .int .u8 0, .int .u8 0, .int .u8 0, .int .u8 0, .int .u8 0, .int .u8 0, .int .u8 0, .int .u8 0, .int .u8 0, .int .u8 0, .int .u8 0, .int .u8 0, .int .u8 0, .int .u8 0, .int .u8 0, .int .u8 0, .int .u8 0, .int .u8 0, .int .u8 0, .int .u8 0, .int .u8 0, .int .u8 0, .int .u8 0, .int .u8 0, .int .u8 0, .int .u8 0, .int .u8 0, .int .u8 0, .int .u8 0, .int .u8 0, .int .u8 0, .int .u8 0, .int .u8 0, .int .u8 0, .int .u8 0, .int .u8 0, .int .u8 0, .int .u8 0, .int .u8 0, .int .u8 0, .int .u8 0, .int .u8 0, .int .u8 0, .int .u8 0, .int .u8 0, .int .u8 0, .int .u8 0, .int .u8 0, .int .u8 0, .int .u8 0, .int .u8 0, .int .u8 0, .int .u8 0, .int .u8 0, .int .u8 0, .int .u8 0, .int .u8 0, .int .u8 0, .int .u8 0, .int .u8 0] 113)).heap.size) := ⟨(Below.refl _ _).alloc (Nat.le_refl _) _, there_new w _ 113 64 (by decide), by simp⟩
  generalize w.alloc (.cells #[.int .u8 0, .int .u8 0, .int .u8 0, .int .u8 0, .int .u8 0, .int .u8 0, .int .u8 0, .int .u8 0, .int .u8 0, .int .u8 0, .int .u8 0, .int .u8 0, .int .u8 0, .int .u8 0, .int .u8 0, .int .u8 0, .int .u8 0, .int .u8 0, .int .u8 0, .int .u8 0, .int .u8 0, .int .u8 0, .int .u8 0, .int .u8 0, .int .u8 0, .int .u8 0, .int .u8 0, .int .u8 0, .int .u8 0, .int .u8 0, .int .u8 0, .int .u8 0, .int .u8 0, .int .u8 0, .int .u8 0, .int .u8 0, .int .u8 0, .int .u8 0, .int .u8 0, .int .u8 0, .int .u8 0, .int .u8 0, .int .u8 0, .int .u8 0, .int .u8 0, .int .u8 0, .int .u8 0, .int .u8 0, .int .u8 0, .int .u8 0, .int .u8 0, .int .u8 0, .int .u8 0, .int .u8 0, .int .u8 0, .int .u8 0, .int .u8 0, .int .u8 0, .int .u8 0, .int .u8 0, .int .u8 0, .int .u8 0, .int .u8 0, .int .u8 0] 113) = w0 at HB0 ⊢
  have HK0 : Hid (TK w0 g o h true s half fed) := HK.out.below HB0.out.1
  have fu : w0.cell? ⟨g, o + 10 + used, none⟩ = some (.int .u8 (half used)) := HK0.out.half used (by omega)
  have ff : w0.frozen? ⟨g, o + 10 + used, none⟩ = false := by
    have := (HK0.out.there (10 + used) (by omega)).2
    rw [← Nat.add_assoc] at this
    exact this
  have hx1 := HK0.out.setByte used 128 (by omega)
  have hcl : ∀ ty, (Builtin.clear_ #[23] ty #[.slice (some ⟨g, o + 10 + u1, none⟩) (128 - u1) (128 - u1)]).run Tryd.prog (w0.setCell ⟨g, o + 10 + used, none⟩ (.int .u8 128)) = .ok (.tuple #[]) ((w0.setCell ⟨g, o + 10 + used, none⟩ (.int .u8 128)).setCells g (o + 10 + u1) (List.replicate (128 - u1) (.int .u8 0))) := fun ty => clear_eq _ ty g _ _ _ (fun j hj => by
    have := hx1.1.there (10 + u1 + j) (by omega)
    rw [← Nat.add_assoc, ← Nat.add_assoc] at this
    exact this)
  have hx2 := hx1.1.clear u1 (128 - u1) (by omega)
  have HT1 : Hid (Touch w ((w0.setCell ⟨g, o + 10 + used, none⟩ (.int .u8 128)).setCells g (o + 10 + u1) (List.replicate (128 - u1) (.int .u8 0))) g o 139) := (((Touch.refl w g o 139).below HB0.out.1 hgw).trans hx1.2).trans hx2.2
  have HK1 : Hid (TK ((w0.setCell ⟨g, o + 10 + used, none⟩ (.int .u8 128)).setCells g (o + 10 + u1) (List.replicate (128 - u1) (.int .u8 0))) g o h true s (fun i => if u1 ≤ i ∧ i < u1 + (128 - u1) then 0 else (fun i => if i = used then 128 else half i) i) fed) := hx2.1
  have HR1 : Hid (((w0.setCell ⟨g, o + 10 + used, none⟩ (.int .u8 128)).setCells g (o + 10 + u1) (List.replicate (128 - u1) (.int .u8 0))).there w.heap.size 0 64 ∧ w.heap.size < ((w0.setCell ⟨g, o + 10 + used, none⟩ (.int .u8 128)).setCells g (o + 10 + u1) (List.replicate (128 - u1) (.int .u8 0))).heap.size) := ⟨World.there_setCells (World.there_setCells HB0.out.2.1 g _ [_]) g _ _, by rw [size_setCells]; simpa [World.setCell] using HB0.out.2.2⟩
  clear hx1 hx2
  go_upto_region 6 with fail
  generalize (w0.setCell ⟨g, o + 10 + used, none⟩ (.int .u8 128)).setCells g (o + 10 + u1) (List.replicate (128 - u1) (.int .u8 0)) = w2 at HT1 HK1 HR1 hcl ⊢
  have c1' : w2.cell? ⟨g, o + 1, none⟩ = some (.func (.func 81) #[] #[]) := HK1.out.fn
  obtain ⟨H0, HH0⟩ : ∃ H0 : Nat → Int, Hid ((fun i => if u1 ≤ i ∧ i < u1 + (128 - u1) then (0 : Int) else (fun i => if i = used then 128 else half i) i) = H0) := ⟨_, (show _ = _ from rfl)⟩
  rw [HH0.out] at HK1
  obtain ⟨s1, HS1⟩ : ∃ s1 : Eight, Hid (s1 = TT true H0 s 1) := ⟨_, (show _ = _ from rfl)⟩
  have HA : Hid (∀ v, Sm w2 v → Calls Tryd.prog 81 #[.pointer (some ⟨g, o + 2, none⟩), .slice (some ⟨g, o + 10, none⟩) 128 128] v fun e w' => e = .returned (.tuple #[]) ∧ Touch w2 w' g o 139 ∧ TK w' g o h true s1 H0 fed) := by
    intro v hsm
    have hs1 := HT1.out.size
    have hk' := HK1.out.sm hsm
    refine (take_any true g (o + 2) _ ((List.range 128).map H0) s v (by rw [hsm.heap]; omega) hk'.st (fun j hj => by have := hk'.there (2 + j) (by omega); rw [← Nat.add_assoc] at this; exact this) (view_half hk' 128 (by omega)) (fun _ _ _ _ e => by injection e with e1 e2 e3; injection e1 with e1; injection e1 with e4 e5; omega) (hsm.tables (hT.out.touch HT1.out hg)) hg).mono ?_
    rintro e w' ⟨rfl, ht', hr'⟩
    rw [show ((List.range 128).map H0).length / bsz true = 1 by simp [bsz], TT_congr true (B' := H0) s 1 (fun j hj => by simp [bsz] at hj; simp [List.getD, hj]), ← HS1.out] at hr'
    exact ⟨rfl, (hsm.touch g o 139).trans (ht'.mono o 139 (by omega) (by omega)), hk'.words ht' hr'⟩
  clear hcl fu ff HK0 HB0 c0 c138
  go_wp2
  go_region_held3 (fun v => v.cell? ⟨g, o + 1, none⟩ = some (.func (.func 81) #[] #[])) (first | go_keep | exact hk3.fn) ((go_at_call 81; refine (HA.out w2.drew (Sm.refl w2).drew).mono ?_; rintro e3 w3 ⟨rfl, ht3, hk3⟩))
  have hx3 := hk3.clear 0 128 (by omega)
  have hcl3 : ∀ ty, (Builtin.clear_ #[23] ty #[.slice (some ⟨g, o + 10, none⟩) 128 128]).run Tryd.prog w3 = .ok (.tuple #[]) (w3.setCells g (o + 10) (List.replicate 128 (.int .u8 0))) := fun ty => clear_eq _ ty g _ _ _ (fun j hj => by
    have := hk3.there (10 + j) (by omega)
    rw [← Nat.add_assoc] at this
    exact this)
  rw [Nat.add_zero] at hx3
  have HR2 : Hid ((w3.setCells g (o + 10) (List.replicate 128 (.int .u8 0))).there w.heap.size 0 64 ∧ w.heap.size < (w3.setCells g (o + 10) (List.replicate 128 (.int .u8 0))).heap.size) := ⟨World.there_setCells (ht3.thereFar HR1.out.1 HR1.out.2 (by omega)) g _ _, by rw [size_setCells]; exact Nat.lt_of_lt_of_le HR1.out.2 ht3.size⟩
  have HT2 : Hid (Touch w (w3.setCells g (o + 10) (List.replicate 128 (.int .u8 0))) g o 139) := (HT1.out.trans ht3).trans hx3.2
  have HK2 : Hid (TK (w3.setCells g (o + 10) (List.replicate 128 (.int .u8 0))) g o h true s1 (fun i => if 0 ≤ i ∧ i < 0 + 128 then 0 else H0 i) fed) := hx3.1
  clear hx3 ht3 hk3 HT1 HK1 HR1 HA c1'
  generalize w3.setCells g (o + 10) (List.replicate 128 (.int .u8 0)) = w4 at HT2 HK2 HR2 hcl3
  go_upto_region 8 with fail
  have HT1 := HT2; have HR1 := HR2
  have c138' : w4.cell? ⟨g, o + 138, none⟩ = some (.int .u64 fed) := HK2.out.fed
  obtain ⟨H1, HH1⟩ : ∃ H1 : Nat → Int, Hid ((fun i => if 0 ≤ i ∧ i < 0 + 128 then 0 else H0 i) = H1) := ⟨_, (show _ = _ from rfl)⟩
  rw [HH1.out] at HK2
  have HK1 := HK2
  obtain ⟨P, HPP⟩ : ∃ P : Nat → Int, Hid (P = fun i => padF 128 half fed (128 + i)) := ⟨_, (show _ = _ from rfl)⟩
  have hpn : padN 128 fed = 2 := by rw [padN, if_neg (by have := h0.out; have := hu1.out; omega)]
  have HP1 : Hid (∀ k, k < 128 - 8 → H1 k = P k) := by
    intro k hk
    have hu := hu1.out
    have h00 := h0.out
    rw [← HH1.out, HPP.out]
    simp only [padF, hpn, h00]
    rw [if_pos ⟨by omega, by omega⟩, if_neg (by omega), if_neg (by omega), if_pos (by omega)]
  have HPL : Hid (∀ k, 128 - 8 ≤ k → k < 128 → P k = ((fed : Int) * 8) / 2 ^ (8 * (128 - 1 - k)) % 256) := by
    intro k k1 hk
    have hu := hu1.out
    have h00 := h0.out
    rw [HPP.out]
    simp only [padF, hpn, h00]
    rw [if_neg (by omega), if_neg (by omega), if_neg (by omega), show 2 * 128 - 1 - (128 + k) = 128 - 1 - k by omega]
  have HE : Hid (TT true P s1 1 = TT true (padF 128 half fed) s (padN 128 fed)) := by
    show _ = _
    rw [HPP.out, HS1.out, hpn, show (2 : Nat) = 1 + 1 from rfl, TT_add true _ s 1 1, TT_congr true (B := H0) (B' := padF 128 half fed) s 1]
    · simp [bsz]
    · intro k hk
      have hk' : k < 128 := by simpa [bsz] using hk
      have hu := hu1.out
      have h00 := h0.out
      rw [← HH0.out]
      simp only [padF, hpn, h00]
      by_cases k2 : u1 ≤ k
      · rw [if_pos ⟨k2, by omega⟩, if_neg (by omega), if_neg (by omega), if_pos (by omega)]
      · rw [if_neg (by omega)]
        by_cases k3 : k = used
        · rw [if_pos k3, if_neg (by omega), if_pos k3]
        · rw [if_neg k3, if_pos (by omega)]
  clear hcl3 hpn HH1 HPP HS1 HT2 HK2 HR2 HH0
  go_wp2
  clear c138'
  go_loopw [62] (fun v wr => ∃ i : Nat, i ≤ 8 ∧ v = .int .i64 i ∧ Hid (Touch w wr g o 139) ∧ Hid (TK wr g o h true s1 (fun k => if 128 - i ≤ k ∧ k < 128 then ((fed : Int) * 8) / 2 ^ (8 * (128 - 1 - k)) % 256 else H1 k) fed) ∧ Hid (wr.there w.heap.size 0 64 ∧ w.heap.size < wr.heap.size)) (fun v _ => 8 - (intOf v).toNat)
  case atStart => exact ⟨0, by omega, rfl, HT1, HK1.out.fun_eq (fun i hi => by rw [if_neg (by omega)]), HR1⟩
  case round =>
    obtain ⟨i, hi, rfl, HT2, HK2, HR2⟩ := hrel
    clear HT1 HK1 HR1
    by_cases h8 : i < 8
    · obtain ⟨j, hj⟩ : ∃ j, j = 128 - 1 - i := ⟨_, rfl⟩
      have e2 : (127 : Int) - (i : Int) = (j : Int) := by omega
      have e3 : (8 * (i : Int)).toNat = 8 * i := by omega
      have e4 : min (8 * i) 64 = 8 * i := by omega
      have e5 : (0 : Int) ≤ 8 * (i : Int) := by omega
      have e6 : (j : Int) < 128 := by omega
      have HJ : Hid (j = 128 - 1 - i) := hj
      have fc := HK2.out.half j (by omega)
      have ff : wr.frozen? ⟨g, o + 10 + j, none⟩ = false := by
        have := (HK2.out.there (10 + j) (by omega)).2
        rw [← Nat.add_assoc] at this
        exact this
      clear hj
      go_wp2
      go_region
      go_wp2
      go_roundw
      case rel =>
        have hx := HK2.out.setByte j ((fed : Int) * 8 / 2 ^ (8 * i) % 256) (by omega)
        refine ⟨i + 1, by omega, by go_num, (HT2.out.trans hx.2).drew, (hx.1.sm (Sm.refl _).drew).fun_eq (fun k hk => ?_), ⟨World.there_setCells HR2.out.1 g _ [_], by simpa [World.setCell] using HR2.out.2⟩⟩
        have hj := HJ.out
        by_cases hkj : k = j
        · subst hkj
          rw [if_pos rfl, if_pos (by omega), show 128 - 1 - k = i by omega]
        · rw [if_neg hkj]
          by_cases hc : 128 - i ≤ k ∧ k < 128
          · rw [if_pos hc, if_pos (by omega)]
          · rw [if_neg hc, if_neg (by omega)]
      case measure => simp [intOf]; omega
    · obtain rfl : i = 8 := by omega
      have c1' : wr.cell? ⟨g, o + 1, none⟩ = some (.func (.func 81) #[] #[]) := HK2.out.fn
      obtain ⟨H2, HH2⟩ : ∃ H2 : Nat → Int, Hid ((fun k => if 128 - 8 ≤ k ∧ k < 128 then ((fed : Int) * 8) / 2 ^ (8 * (128 - 1 - k)) % 256 else H1 k) = H2) := ⟨_, (show _ = _ from rfl)⟩
      rw [HH2.out] at HK2
      have HP : Hid (∀ k, k < 128 → H2 k = P k) := by
        intro k hk
        rw [← HH2.out]
        dsimp only
        by_cases k1 : 128 - 8 ≤ k
        · rw [if_pos ⟨k1, hk⟩, HPL.out k k1 hk]
        · rw [if_neg (by omega), HP1.out k (by omega)]
      obtain ⟨s', HS'⟩ : ∃ s' : Eight, Hid (s' = TT true (padF 128 half fed) s (padN 128 fed)) := ⟨_, (show _ = _ from rfl)⟩
      have HA : Hid (∀ v, Sm wr v → Calls Tryd.prog 81 #[.pointer (some ⟨g, o + 2, none⟩), .slice (some ⟨g, o + 10, none⟩) 128 128] v fun e w' => e = .returned (.tuple #[]) ∧ Touch wr w' g o 139 ∧ TK w' g o h true s' H2 fed) := by
        intro v hsm
        have hs1 := HT2.out.size
        have hk' := HK2.out.sm hsm
        refine (take_any true g (o + 2) _ ((List.range 128).map H2) s1 v (by rw [hsm.heap]; omega) hk'.st (fun j hj => by have := hk'.there (2 + j) (by omega); rw [← Nat.add_assoc] at this; exact this) (view_half hk' 128 (by omega)) (fun _ _ _ _ e => by injection e with e1 e2 e3; injection e1 with e1; injection e1 with e4 e5; omega) (hsm.tables (hT.out.touch HT2.out hg)) hg).mono ?_
        rintro e w' ⟨rfl, ht', hr'⟩
        rw [show ((List.range 128).map H2).length / bsz true = 1 by simp [bsz], TT_congr true (B' := P) s1 1 (fun j hj => by simp [bsz] at hj; simp [List.getD, hj]; exact HP.out j (by omega)), HE.out, ← HS'.out] at hr'
        exact ⟨rfl, (hsm.touch g o 139).trans (ht'.mono o 139 (by omega) (by omega)), hk'.words ht' hr'⟩
      clear HH2 h8 HP HPL HP1 HE
      go_wp2
      go_region_held3 (fun v => v.cell? ⟨g, o + 1, none⟩ = some (.func (.func 81) #[] #[])) (first | go_keep | exact hk3.fn) ((go_at_call 81; refine (HA.out wr.drew (Sm.refl wr).drew).mono ?_; rintro e3 w3 ⟨rfl, ht3, hk3⟩))
      have HT3 : Hid (Touch w w3 g o 139) := HT2.out.trans ht3
      have HR3 : Hid (w3.there w.heap.size 0 64 ∧ w.heap.size < w3.heap.size) := ⟨ht3.thereFar HR2.out.1 HR2.out.2 (by omega), Nat.lt_of_lt_of_le HR2.out.2 ht3.size⟩
      have HK3 : Hid (TK w3 g o h true s' H2 fed) := hk3
      clear ht3 hk3 HA c1' HT2 HR2 HK2
      go_wp2_with (first | (go_at_call 84; refine (spell128 g o h s' H2 fed _ hblk HK3).mono ?_))
      rintro e4 w4 ⟨rfl, hb4⟩
      have hs3 := HT3.out.size
      have HT4 : Hid (Touch w w4 g o 139) := HT3.out.below hb4 hgw
      have HK4 : Hid (TK w4 g o h true s' H2 fed) := HK3.out.below hb4
      have HR4 : Hid (w4.there w.heap.size 0 64) := fun j hj => by rw [hb4.cell (p := ⟨w.heap.size, 0 + j, none⟩) HR3.out.2, hb4.frozen (p := ⟨w.heap.size, 0 + j, none⟩) HR3.out.2]; exact HR3.out.1 j hj
      have HY : Hid (w4.there w.heap.size 0 (spellCells 8 s').toArray.size) := by rw [spellArr_size]; exact HR4.out
      have HZ : Hid ((Tryd.prog.info? 113).map (·.size) = some (spellCells 8 s').toArray.size) := by rw [spellArr_size]; exact size75
      clear HT3 HK3 HR3 hb4
      go_wp2_with (first
        | (refine wpList_store_mid (by rfl) 113 (.tmp 2) (.tmp 93) (by rfl) w.heap.size 0 (spellCells 8 s').toArray (by rfl) (by rfl) HY.out HZ.out (spellCells_one 8 s') ?_)
        | fail)
      have hl := run_loadVar_mid (P := Tryd.prog) (w4.setCells w.heap.size 0 (spellCells 8 s')) w.heap.size 0 113 (spellCells 8 s') _ (World.rangeAt_setCells_same w4 w.heap.size 0 (spellCells 8 s') (by rw [spellCells_length]; exact HR4.out)) Tryd.underlying113 rfl (by rw [spellCells_length]; exact size75)
      have hn := touch_new HT4.out (Nat.le_refl _) (spellCells 8 s') 0 hgw
      have hs' := HS'.out
      refine bodyPost_ret (v := .agg (spellCells 8 s').toArray) ?_ rfl ⟨by rw [hs'], hn, H2, by rw [← hs']; exact HK4.out.newer (by omega) _ _⟩
      rw [results_cell1D Tryd.results72]
      simp [Act.put, asAddr, hl]
end Go.Proofs.YtbpkocohddlbhaaDoor
namespace Go.Proofs.YtbpkocohddlbhaaDoor
open Go.RowKit
set_option linter.unusedVariables false
set_option linter.unusedSimpArgs false

set_option maxHeartbeats 3200000 in
set_option maxRecDepth 100000 in
theorem finish128_C (g o : Nat) (h : Int) (s : Eight) (half : Nat → Int) (fed : Nat) (w : World) (hblk : blockOf h = 128) (HK : Hid (TK w g o h true s half fed)) (hfed : fed ≤ 1152921504606846976) (hT : Hid (Tables w)) (hg : 4 ≤ g) (h0 : Hid (fed % 128 = 127)) :
    Calls Tryd.prog 72 #[.pointer (some ⟨g, o, none⟩)] w fun e w' => e = .returned (.agg (spellCells 8 (TT true (padF 128 half fed) s (padN 128 fed))).toArray) ∧ Touch w w' g o 139 ∧ ∃ half', TK w' g o h true (TT true (padF 128 half fed) s (padN 128 fed)) half' fed := by
  have c0 := HK.out.hash
  have c138 := HK.out.fed
  have hgw : g < w.heap.size := lt_of_cell c0
  have r0 : ((fed : Int) % 128) = 127 := by have := h0.out; omega
  go_enter Tryd.func72, Tryd.ntmps72
  go_upto_region 3 with (first | (go_at_call 79; refine (block_any _ _).mono ?_; rintro e1 w1 ⟨rfl, hw1⟩; obtain rfl := hw1.symm; rw [hblk]))
  have HB0 : Hid (Below w.heap.size w (w.alloc (.cells #[.int .u8 0, .int .u8 0, .int .u8 0, .int .u8 0, .int .u8 0, .int .u8 0, .int .u8 0, .int .u8 0, .int .u8 0, .int .u8 0, .int .u8 0, .int .u8 0, .int .u8 0, .int .u8 0, .int .u8 0, .int .u8 0, .int .u8 0, .int .u8 0, .int .u8 0, .int .u8 0, .int .u8 0, .int .u8 0, .int .u8 0, .int .u8 0, .int .u8 0, .int .u8 0, .int .u8 0, .int .u8 0, .int .u8 0, .int .u8 0, .int .u8 0, .int .u8 0, .int .u8 0, .int .u8 0, .int .u8 0, .int .u8 0, .int .u8 0, .int .u8 0, .int .u8 0, .int .u8 0, .int .u8 0, .int .u8 0, .int .u8 0, .int .u8 0, .int .u8 0, .int .u8 0, .int .u8 0, .int .u8 0, .int .u8 0, .int .u8 0, .int .u8 0, .int .u8 0, .int .u8 0, .int .u8 0, .int .u8 0, .int .u8 0, .int .u8 0, .int .u8 0, .int .u8 0, .int .u8 0, .int .u8 0, .int .u8 0, .int .u8 0, .int .u8 0] 113)) ∧ (w.alloc (.cells #[.int .u8 0, .int .u8 0, .int .u8 0, .int .u8 0, .int .u8 0, .int .u8 0, .int .u8 0, .int .u8 0, .int .u8 0, .int .u8 0, .int .u8 0, .int .u8 0, .int .u8 0, .int .u8 0, .int .u8 0, .int .u8 0, .int .u8 0, .int .u8 0, .int .u8 0, .int .u8 0, .int .u8 0, .int .u8 0, .int .u8 0, .int .u8 0, .int .u8 0, .int .u8 0, .int .u8 0, .int .u8 0, .int .u8 0, .int .u8 0, .int .u8 0, .int .u8 0, .int .u8 0, .int .u8 0, .int .u8 0, .int .u8 0, .int .u8 0, .int .u8 0, .int .u8 0, .int .u8 0, .int .u8 0, .int .u8 0, .int .u8 0, .int .u8 0, .int .u8 0, .int .u8 0, .int .u8 0, .int .u8 0, .int .u8 0, .int .u8 0, .int .u8 0, .int .u8 0, .int .u8 0, .int .u8 0, .int .u8 0, .int .u8 0, .int .u8 0, .int .u8 0, .int .u8 0, .int .u8 0, .int .u8 0, .int .u8 0, .int .u8 0, .int .u8 0] 113)).there w.heap.size 0 64 ∧ w.heap.size < (w.alloc (.cells #[.int .u8 0, .int .u8 0, .int .u8 0, .int .u8 0, .int .u8 0, .int .u8 0, .int .u8 0, .int .u8 0, .int .u8 0, .int .u8 0, .int .u8 0, .int .u8 0, .int .u8 0, .int .u8 0, .int .u8 0, .int .u8 0, .int .u8 0, .int .u8 0, .int .u8 0, .int .u8 0, .int .u8 0, .int .u8 0, .int .u8 0, .int .u8 0, .int .u8 0, .int .u8 0, .int .u8 0, .int .u8 0, .int .u8 0, .int .u8 0, .int .u8 0, .int .u8 0, .int .u8 0, .int .u8 0, .int .u8 0, .int .u8 0, .int .u8 0, .int .u8 0, .int .u8 0, .int .u8 0, .int .u8 0, .int .u8 0, .int .u8 0, .int .u8 0, .int .u8 0, .int .u8 0, .int .u8 0, .int .u8 0, .int .u8 0, .int .u8 0, .int .u8 0, .int .u8 0, .int .u8 0, .int .u8 0, .int .u8 0, .int .u8 0, .int .u8 0, .int .u8 0, .int .u8 0, .int .u8 0, .int .u8 0, .int .u8 0, .int .u8 0, .int .u8 0] 113)).heap.size) := ⟨(Below.refl _ _).alloc (Nat.le_refl _) _, there_new w _ 113 64 (by decide), by simp⟩
  generalize w.alloc (.cells #[.int .u8 0, .int .u8 0, .int .u8 0, .int .u8 0, .int .u8 0, .int .u8 0, .int .u8 0, .int .u8 0, .int .u8 0, .int .u8 0, .int .u8 0, .int .u8 0, .int .u8 0, .int .u8 0, .int .u8 0, .int .u8 0, .int .u8 0, .int .u8 0, .int .u8 0, .int .u8 0, .int .u8 0, .int .u8 0, .int .u8 0, .int .u8 0, .int .u8 0, .int .u8 0, .int .u8 0, .int .u8 0, .int .u8 0, .int .u8 0, .int .u8 0, .int .u8 0, .int .u8 0, .int .u8 0, .int .u8 0, .int .u8 0, .int .u8 0, .int .u8 0, .int .u8 0, .int .u8 0, .int .u8 0, .int .u8 0, .int .u8 0, .int .u8 0, .int .u8 0, .int .u8 0, .int .u8 0, .int .u8 0, .int .u8 0, .int .u8 0, .int .u8 0, .int .u8 0, .int .u8 0, .int .u8 0, .int .u8 0, .int .u8 0, .int .u8 0, .int .u8 0, .int .u8 0, .int .u8 0, .int .u8 0, .int .u8 0, .int .u8 0, .int .u8 0] 113) = w0 at HB0 ⊢
  have HK0 : Hid (TK w0 g o h true s half fed) := HK.out.below HB0.out.1
  have fu : w0.cell? ⟨g, o + 10 + 127, none⟩ = some (.int .u8 (half 127)) := HK0.out.half 127 (by omega)
  have ff : w0.frozen? ⟨g, o + 10 + 127, none⟩ = false := by
    have := (HK0.out.there (10 + 127) (by omega)).2
    rw [← Nat.add_assoc] at this
    exact this
  have hx1 := HK0.out.setByte 127 128 (by omega)
  have hcl : ∀ ty, (Builtin.clear_ #[23] ty #[.slice (some ⟨g, o + 10, none⟩) 0 0]).run Tryd.prog (w0.setCell ⟨g, o + 10 + 127, none⟩ (.int .u8 128)) = .ok (.tuple #[]) (w0.setCell ⟨g, o + 10 + 127, none⟩ (.int .u8 128)) := fun ty => clear_eq _ ty g _ 0 0 (fun j hj => by omega)
  have HT1 : Hid (Touch w (w0.setCell ⟨g, o + 10 + 127, none⟩ (.int .u8 128)) g o 139) := ((Touch.refl w g o 139).below HB0.out.1 hgw).trans hx1.2
  have HK1 : Hid (TK (w0.setCell ⟨g, o + 10 + 127, none⟩ (.int .u8 128)) g o h true s (fun i => if i = 127 then 128 else half i) fed) := hx1.1
  have HR1 : Hid ((w0.setCell ⟨g, o + 10 + 127, none⟩ (.int .u8 128)).there w.heap.size 0 64 ∧ w.heap.size < (w0.setCell ⟨g, o + 10 + 127, none⟩ (.int .u8 128)).heap.size) := ⟨World.there_setCells HB0.out.2.1 g _ [_], by simpa [World.setCell] using HB0.out.2.2⟩
  clear hx1
  go_upto_region 6 with fail
  generalize w0.setCell ⟨g, o + 10 + 127, none⟩ (.int .u8 128) = w2 at HT1 HK1 HR1 hcl ⊢
  have c1' : w2.cell? ⟨g, o + 1, none⟩ = some (.func (.func 81) #[] #[]) := HK1.out.fn
  obtain ⟨H0, HH0⟩ : ∃ H0 : Nat → Int, Hid ((fun i => if i = 127 then (128 : Int) else half i) = H0) := ⟨_, (show _ = _ from rfl)⟩
  rw [HH0.out] at HK1
  obtain ⟨s1, HS1⟩ : ∃ s1 : Eight, Hid (s1 = TT true H0 s 1) := ⟨_, (show _ = _ from rfl)⟩
  have HA : Hid (∀ v, Sm w2 v → Calls Tryd.prog 81 #[.pointer (some ⟨g, o + 2, none⟩), .slice (some ⟨g, o + 10, none⟩) 128 128] v fun e w' => e = .returned (.tuple #[]) ∧ Touch w2 w' g o 139 ∧ TK w' g o h true s1 H0 fed) := by
    intro v hsm
    have hs1 := HT1.out.size
    have hk' := HK1.out.sm hsm
    refine (take_any true g (o + 2) _ ((List.range 128).map H0) s v (by rw [hsm.heap]; omega) hk'.st (fun j hj => by have := hk'.there (2 + j) (by omega); rw [← Nat.add_assoc] at this; exact this) (view_half hk' 128 (by omega)) (fun _ _ _ _ e => by injection e with e1 e2 e3; injection e1 with e1; injection e1 with e4 e5; omega) (hsm.tables (hT.out.touch HT1.out hg)) hg).mono ?_
    rintro e w' ⟨rfl, ht', hr'⟩
    rw [show ((List.range 128).map H0).length / bsz true = 1 by simp [bsz], TT_congr true (B' := H0) s 1 (fun j hj => by simp [bsz] at hj; simp [List.getD, hj]), ← HS1.out] at hr'
    exact ⟨rfl, (hsm.touch g o 139).trans (ht'.mono o 139 (by omega) (by omega)), hk'.words ht' hr'⟩
  clear hcl fu ff HK0 HB0 c0 c138
  go_wp2
  go_region_held3 (fun v => v.cell? ⟨g, o + 1, none⟩ = some (.func (.func 81) #[] #[])) (first | go_keep | exact hk3.fn) ((go_at_call 81; refine (HA.out w2.drew (Sm.refl w2).drew).mono ?_; rintro e3 w3 ⟨rfl, ht3, hk3⟩))
  have hx3 := hk3.clear 0 128 (by omega)
  have hcl3 : ∀ ty, (Builtin.clear_ #[23] ty #[.slice (some ⟨g, o + 10, none⟩) 128 128]).run Tryd.prog w3 = .ok (.tuple #[]) (w3.setCells g (o + 10) (List.replicate 128 (.int .u8 0))) := fun ty => clear_eq _ ty g _ _ _ (fun j hj => by
    have := hk3.there (10 + j) (by omega)
    rw [← Nat.add_assoc] at this
    exact this)
  rw [Nat.add_zero] at hx3
  have HR2 : Hid ((w3.setCells g (o + 10) (List.replicate 128 (.int .u8 0))).there w.heap.size 0 64 ∧ w.heap.size < (w3.setCells g (o + 10) (List.replicate 128 (.int .u8 0))).heap.size) := ⟨World.there_setCells (ht3.thereFar HR1.out.1 HR1.out.2 (by omega)) g _ _, by rw [size_setCells]; exact Nat.lt_of_lt_of_le HR1.out.2 ht3.size⟩
  have HT2 : Hid (Touch w (w3.setCells g (o + 10) (List.replicate 128 (.int .u8 0))) g o 139) := (HT1.out.trans ht3).trans hx3.2
  have HK2 : Hid (TK (w3.setCells g (o + 10) (List.replicate 128 (.int .u8 0))) g o h true s1 (fun i => if 0 ≤ i ∧ i < 0 + 128 then 0 else H0 i) fed) := hx3.1
  clear hx3 ht3 hk3 HT1 HK1 HR1 HA c1'
  generalize w3.setCells g (o + 10) (List.replicate 128 (.int .u8 0)) = w4 at HT2 HK2 HR2 hcl3
  go_upto_region 8 with fail
  have HT1 := HT2; have HR1 := HR2
  have c138' : w4.cell? ⟨g, o + 138, none⟩ = some (.int .u64 fed) := HK2.out.fed
  obtain ⟨H1, HH1⟩ : ∃ H1 : Nat → Int, Hid ((fun i => if 0 ≤ i ∧ i < 0 + 128 then 0 else H0 i) = H1) := ⟨_, (show _ = _ from rfl)⟩
  rw [HH1.out] at HK2
  have HK1 := HK2
  obtain ⟨P, HPP⟩ : ∃ P : Nat → Int, Hid (P = fun i => padF 128 half fed (128 + i)) := ⟨_, (show _ = _ from rfl)⟩
  have hpn : padN 128 fed = 2 := by rw [padN, if_neg (by have := h0.out; omega)]
  have HP1 : Hid (∀ k, k < 128 - 8 → H1 k = P k) := by
    intro k hk
    have h00 := h0.out
    rw [← HH1.out, HPP.out]
    simp only [padF, hpn, h00]
    rw [if_pos ⟨by omega, by omega⟩, if_neg (by omega), if_neg (by omega), if_pos (by omega)]
  have HPL : Hid (∀ k, 128 - 8 ≤ k → k < 128 → P k = ((fed : Int) * 8) / 2 ^ (8 * (128 - 1 - k)) % 256) := by
    intro k k1 hk
    have h00 := h0.out
    rw [HPP.out]
    simp only [padF, hpn, h00]
    rw [if_neg (by omega), if_neg (by omega), if_neg (by omega), show 2 * 128 - 1 - (128 + k) = 128 - 1 - k by omega]
  have HE : Hid (TT true P s1 1 = TT true (padF 128 half fed) s (padN 128 fed)) := by
    show _ = _
    rw [HPP.out, HS1.out, hpn, show (2 : Nat) = 1 + 1 from rfl, TT_add true _ s 1 1, TT_congr true (B := H0) (B' := padF 128 half fed) s 1]
    · simp [bsz]
    · intro k hk
      have hk' : k < 128 := by simpa [bsz] using hk
      have h00 := h0.out
      rw [← HH0.out]
      simp only [padF, hpn, h00]
      by_cases k3 : k = 127
      · rw [if_pos k3, if_neg (by omega), if_pos k3]
      · rw [if_neg k3, if_pos (by omega)]
  clear hcl3 hpn HH1 HPP HS1 HT2 HK2 HR2 HH0
  go_wp2
  clear c138'
  go_loopw [62] (fun v wr => ∃ i : Nat, i ≤ 8 ∧ v = .int .i64 i ∧ Hid (Touch w wr g o 139) ∧ Hid (TK wr g o h true s1 (fun k => if 128 - i ≤ k ∧ k < 128 then ((fed : Int) * 8) / 2 ^ (8 * (128 - 1 - k)) % 256 else H1 k) fed) ∧ Hid (wr.there w.heap.size 0 64 ∧ w.heap.size < wr.heap.size)) (fun v _ => 8 - (intOf v).toNat)
  case atStart => exact ⟨0, by omega, rfl, HT1, HK1.out.fun_eq (fun i hi => by rw [if_neg (by omega)]), HR1⟩
  case round =>
    obtain ⟨i, hi, rfl, HT2, HK2, HR2⟩ := hrel
    clear HT1 HK1 HR1
    by_cases h8 : i < 8
    · obtain ⟨j, hj⟩ : ∃ j, j = 128 - 1 - i := ⟨_, rfl⟩
      have e2 : (127 : Int) - (i : Int) = (j : Int) := by omega
      have e3 : (8 * (i : Int)).toNat = 8 * i := by omega
      have e4 : min (8 * i) 64 = 8 * i := by omega
      have e5 : (0 : Int) ≤ 8 * (i : Int) := by omega
      have e6 : (j : Int) < 128 := by omega
      have HJ : Hid (j = 128 - 1 - i) := hj
      have fc := HK2.out.half j (by omega)
      have ff : wr.frozen? ⟨g, o + 10 + j, none⟩ = false := by
        have := (HK2.out.there (10 + j) (by omega)).2
        rw [← Nat.add_assoc] at this
        exact this
      clear hj
      go_wp2
      go_region
      go_wp2
      go_roundw
      case rel =>
        have hx := HK2.out.setByte j ((fed : Int) * 8 / 2 ^ (8 * i) % 256) (by omega)
        refine ⟨i + 1, by omega, by go_num, (HT2.out.trans hx.2).drew, (hx.1.sm (Sm.refl _).drew).fun_eq (fun k hk => ?_), ⟨World.there_setCells HR2.out.1 g _ [_], by simpa [World.setCell] using HR2.out.2⟩⟩
        have hj := HJ.out
        by_cases hkj : k = j
        · subst hkj
          rw [if_pos rfl, if_pos (by omega), show 128 - 1 - k = i by omega]
        · rw [if_neg hkj]
          by_cases hc : 128 - i ≤ k ∧ k < 128
          · rw [if_pos hc, if_pos (by omega)]
          · rw [if_neg hc, if_neg (by omega)]
      case measure => simp [intOf]; omega
    · obtain rfl : i = 8 := by omega
      have c1' : wr.cell? ⟨g, o + 1, none⟩ = some (.func (.func 81) #[] #[]) := HK2.out.fn
      obtain ⟨H2, HH2⟩ : ∃ H2 : Nat → Int, Hid ((fun k => if 128 - 8 ≤ k ∧ k < 128 then ((fed : Int) * 8) / 2 ^ (8 * (128 - 1 - k)) % 256 else H1 k) = H2) := ⟨_, (show _ = _ from rfl)⟩
      rw [HH2.out] at HK2
      have HP : Hid (∀ k, k < 128 → H2 k = P k) := by
        intro k hk
        rw [← HH2.out]
        dsimp only
        by_cases k1 : 128 - 8 ≤ k
        · rw [if_pos ⟨k1, hk⟩, HPL.out k k1 hk]
        · rw [if_neg (by omega), HP1.out k (by omega)]
      obtain ⟨s', HS'⟩ : ∃ s' : Eight, Hid (s' = TT true (padF 128 half fed) s (padN 128 fed)) := ⟨_, (show _ = _ from rfl)⟩
      have HA : Hid (∀ v, Sm wr v → Calls Tryd.prog 81 #[.pointer (some ⟨g, o + 2, none⟩), .slice (some ⟨g, o + 10, none⟩) 128 128] v fun e w' => e = .returned (.tuple #[]) ∧ Touch wr w' g o 139 ∧ TK w' g o h true s' H2 fed) := by
        intro v hsm
        have hs1 := HT2.out.size
        have hk' := HK2.out.sm hsm
        refine (take_any true g (o + 2) _ ((List.range 128).map H2) s1 v (by rw [hsm.heap]; omega) hk'.st (fun j hj => by have := hk'.there (2 + j) (by omega); rw [← Nat.add_assoc] at this; exact this) (view_half hk' 128 (by omega)) (fun _ _ _ _ e => by injection e with e1 e2 e3; injection e1 with e1; injection e1 with e4 e5; omega) (hsm.tables (hT.out.touch HT2.out hg)) hg).mono ?_
        rintro e w' ⟨rfl, ht', hr'⟩
        rw [show ((List.range 128).map H2).length / bsz true = 1 by simp [bsz], TT_congr true (B' := P) s1 1 (fun j hj => by simp [bsz] at hj; simp [List.getD, hj]; exact HP.out j (by omega)), HE.out, ← HS'.out] at hr'
        exact ⟨rfl, (hsm.touch g o 139).trans (ht'.mono o 139 (by omega) (by omega)), hk'.words ht' hr'⟩
      clear HH2 h8 HP HPL HP1 HE
      go_wp2
      go_region_held3 (fun v => v.cell? ⟨g, o + 1, none⟩ = some (.func (.func 81) #[] #[])) (first | go_keep | exact hk3.fn) ((go_at_call 81; refine (HA.out wr.drew (Sm.refl wr).drew).mono ?_; rintro e3 w3 ⟨rfl, ht3, hk3⟩))
      have HT3 : Hid (Touch w w3 g o 139) := HT2.out.trans ht3
      have HR3 : Hid (w3.there w.heap.size 0 64 ∧ w.heap.size < w3.heap.size) := ⟨ht3.thereFar HR2.out.1 HR2.out.2 (by omega), Nat.lt_of_lt_of_le HR2.out.2 ht3.size⟩
      have HK3 : Hid (TK w3 g o h true s' H2 fed) := hk3
      clear ht3 hk3 HA c1' HT2 HR2 HK2
      go_wp2_with (first | (go_at_call 84; refine (spell128 g o h s' H2 fed _ hblk HK3).mono ?_))
      rintro e4 w4 ⟨rfl, hb4⟩
      have hs3 := HT3.out.size
      have HT4 : Hid (Touch w w4 g o 139) := HT3.out.below hb4 hgw
      have HK4 : Hid (TK w4 g o h true s' H2 fed) := HK3.out.below hb4
      have HR4 : Hid (w4.there w.heap.size 0 64) := fun j hj => by rw [hb4.cell (p := ⟨w.heap.size, 0 + j, none⟩) HR3.out.2, hb4.frozen (p := ⟨w.heap.size, 0 + j, none⟩) HR3.out.2]; exact HR3.out.1 j hj
      have HY : Hid (w4.there w.heap.size 0 (spellCells 8 s').toArray.size) := by rw [spellArr_size]; exact HR4.out
      have HZ : Hid ((Tryd.prog.info? 113).map (·.size) = some (spellCells 8 s').toArray.size) := by rw [spellArr_size]; exact size75
      clear HT3 HK3 HR3 hb4
      go_wp2_with (first
        | (refine wpList_store_mid (by rfl) 113 (.tmp 2) (.tmp 93) (by rfl) w.heap.size 0 (spellCells 8 s').toArray (by rfl) (by rfl) HY.out HZ.out (spellCells_one 8 s') ?_)
        | fail)
      have hl := run_loadVar_mid (P := Tryd.prog) (w4.setCells w.heap.size 0 (spellCells 8 s')) w.heap.size 0 113 (spellCells 8 s') _ (World.rangeAt_setCells_same w4 w.heap.size 0 (spellCells 8 s') (by rw [spellCells_length]; exact HR4.out)) Tryd.underlying113 rfl (by rw [spellCells_length]; exact size75)
      have hn := touch_new HT4.out (Nat.le_refl _) (spellCells 8 s') 0 hgw
      have hs' := HS'.out
      refine bodyPost_ret (v := .agg (spellCells 8 s').toArray) ?_ rfl ⟨by rw [hs'], hn, H2, by rw [← hs']; exact HK4.out.newer (by omega) _ _⟩
      rw [results_cell1D Tryd.results72]
      simp [Act.put, asAddr, hl]
end Go.Proofs.YtbpkocohddlbhaaDoor
namespace Go.Proofs.YtbpkocohddlbhaaDoor
open Go.RowKit
set_option linter.unusedVariables false
set_option linter.unusedSimpArgs false

theorem padF_congr (bs fed : Nat) {half half' : Nat → Int} (h : ∀ i, i < fed % bs → half i = half' i) : padF bs half fed = padF bs half' fed := by
  funext i
  unfold padF
  by_cases hi : i < fed % bs
  · rw [if_pos hi, if_pos hi, h i hi]
  · rw [if_neg hi, if_neg hi]
def wsz (wd : Bool) : Nat := if wd then 8 else 4
/-- The words behind all that was fed, and the padding. -/
def endW (wd : Bool) (s0 : Eight) (f0 : Nat) (zs : List Int) : Eight :=
  TT wd (padF (bsz wd) (fun i => fnz zs (bsz wd * (zs.length / bsz wd) + i)) (f0 + zs.length)) (TT wd (fnz zs) s0 (zs.length / bsz wd)) (padN (bsz wd) (f0 + zs.length))
/-- taken.finish. -/
theorem finish_any (wd : Bool) (g o : Nat) (h : Int) (s : Eight) (half : Nat → Int) (fed : Nat) (w : World) (hblk : blockOf h = bsz wd) (HK : TK w g o h wd s half fed) (hfed : fed ≤ 1152921504606846976) (hT : Tables w) (hg : 4 ≤ g) :
    Calls Tryd.prog 72 #[.pointer (some ⟨g, o, none⟩)] w fun e w' => e = .returned (.agg (spellCells (wsz wd) (TT wd (padF (bsz wd) half fed) s (padN (bsz wd) fed))).toArray) ∧ Touch w w' g o 139 ∧ ∃ half', TK w' g o h wd (TT wd (padF (bsz wd) half fed) s (padN (bsz wd) fed)) half' fed := by
  cases wd
  · have hm : fed % 64 < 64 := Nat.mod_lt _ (by omega)
    by_cases hu : fed % 64 + 1 ≤ 56
    · exact finish64_A g o h s half fed (fed % 64) (fed % 64 + 1) w hblk HK hfed hT hg rfl rfl hu
    · exact finish64_B g o h s half fed (fed % 64) (fed % 64 + 1) w hblk HK hfed hT hg rfl rfl (by omega) (by omega)
  · have hm : fed % 128 < 128 := Nat.mod_lt _ (by omega)
    by_cases hu : fed % 128 + 1 ≤ 112
    · exact finish128_A g o h s half fed (fed % 128) (fed % 128 + 1) w hblk HK hfed hT hg rfl rfl hu
    · by_cases hu2 : fed % 128 = 127
      · exact finish128_C g o h s half fed w hblk HK hfed hT hg hu2
      · exact finish128_B g o h s half fed (fed % 128) (fed % 128 + 1) w hblk HK hfed hT hg rfl rfl (by omega) (by omega)
theorem finish_rep (wd : Bool) (g o : Nat) (h : Int) (s0 : Eight) (f0 : Nat) (zs : List Int) (w : World) (hblk : blockOf h = bsz wd) (hr : Rep w g o h wd s0 f0 zs) (hfed : f0 + zs.length ≤ 1152921504606846976) (hT : Tables w) (hg : 4 ≤ g) :
    Calls Tryd.prog 72 #[.pointer (some ⟨g, o, none⟩)] w fun e w' => e = .returned (.agg (spellCells (wsz wd) (endW wd s0 f0 zs)).toArray) ∧ Touch w w' g o 139 ∧ ∃ half', TK w' g o h wd (endW wd s0 f0 zs) half' (f0 + zs.length) := by
  obtain ⟨half, hk, hh, hf⟩ := hr
  have hp : padF (bsz wd) half (f0 + zs.length) = padF (bsz wd) (fun i => fnz zs (bsz wd * (zs.length / bsz wd) + i)) (f0 + zs.length) := padF_congr _ _ (fun i hi => by
    obtain ⟨c, hc⟩ : ∃ c, f0 = bsz wd * c := ⟨f0 / bsz wd, by have := Nat.div_add_mod f0 (bsz wd); omega⟩
    rw [hc, Nat.mul_add_mod] at hi
    exact hh i hi)
  have := finish_any wd g o h _ half _ w hblk hk hfed hT hg
  rw [hp] at this
  exact this
end Go.Proofs.YtbpkocohddlbhaaDoor
