import Derived.Test.YtgmfiljjogdccabGreatDoorPart00
import Derived.Test.YtgmfiljjogdccabGreatDoorPyc
namespace Go.Proofs.YtgmfiljjogdccabGreatDoor
open Go.RowKit Go.RwLone Go.Conc.Locks
set_option linter.unusedVariables false
set_option linter.unusedSimpArgs false
variable {w v : World} {B m : Nat} {kx : Option Kx} {gP gR : Bool} {an : Nat} {sx : Nat → Sx} {av lv : Value} {lz : List Int}
theorem gone_b (h : BS w B m kx gP gR an sx av lv lz) : Calls Tryz.prog 20 #[.pointer (some ⟨m, 0, none⟩)] w fun e w' => e = .returned (.int .i64 (kE kx gR)) ∧ w' = w := by
 have cr := h.cr
 cases kx with
 | none =>
  have cr' : w.cell? ⟨m, 1, none⟩ = some (.pointer none) := cr
  clear h cr
  go_enter Tryz.func20, Tryz.ntmps20
  go_wp2
  go_ret
  exact ⟨rfl, rfl⟩
 | some k =>
  have cr' : w.cell? ⟨m, 1, none⟩ = some (.pointer (some ⟨k.g2, 0, none⟩)) := cr
  have cw := (h.kk k rfl).2.2.1.cell
  clear h cr
  cases gR with
  | true =>
   go_enter Tryz.func20, Tryz.ntmps20
   go_wp2
   go_ret
   exact ⟨rfl, rfl⟩
  | false =>
   go_enter Tryz.func20, Tryz.ntmps20
   go_wp2
   go_ret
   exact ⟨rfl, rfl⟩
/-- A chosen pair of streams. -/
structure Sel (an : Nat) (o : Option Nat) : Prop where
 lt : ∀ i, o = some i → i < an
def SelP (w : World) (an : Nat) (sx : Nat → Sx) (e : Ending) (w' : World) : Prop := ∃ o, Sel an o ∧ e = .returned (.agg #[gq (o.map fun i => (sx i).t), gq (o.map fun i => (sx i).rt)]) ∧ Below w.heap.size w w'
theorem prs_at (an : Nat) (sx : Nat → Sx) (i : Nat) (hi : i < an) : (prs an sx)[i * 2]? = some (.pointer (some ⟨(sx i).t, 0, none⟩)) ∧ (prs an sx)[i * 2 + 1]? = some (.pointer (some ⟨(sx i).rt, 0, none⟩)) := by
 induction an with
 | zero => omega
 | succ n ih =>
  have e : prs (n + 1) sx = prs n sx ++ [.pointer (some ⟨(sx n).t, 0, none⟩), .pointer (some ⟨(sx n).rt, 0, none⟩)] := by unfold prs; rw [List.range_succ, List.flatMap_append]; rfl
  have hl : (prs n sx).length = n * 2 := by
   clear ih e hi
   induction n with
   | zero => rfl
   | succ n ih =>
    have e : prs (n + 1) sx = prs n sx ++ [.pointer (some ⟨(sx n).t, 0, none⟩), .pointer (some ⟨(sx n).rt, 0, none⟩)] := by unfold prs; rw [List.range_succ, List.flatMap_append]; rfl
    rw [e, List.length_append, ih]; simp; omega
  rw [e]
  by_cases q : i < n
  ·obtain ⟨h1, h2⟩ := ih q
   rw [List.getElem?_append_left (by omega), List.getElem?_append_left (by omega)]
   exact ⟨h1, h2⟩
  ·obtain rfl : i = n := by omega
   rw [List.getElem?_append_right (by omega), List.getElem?_append_right (by omega), hl, Nat.sub_self, show i * 2 + 1 - i * 2 = 1 by omega]
   exact ⟨rfl, rfl⟩
theorem range_new (w : World) (L : List Value) (t : TypeId) : (w.alloc (.cells L.toArray t)).rangeAt w.heap.size 0 L := fun j v hv => by
 rw [Nat.zero_add, World.cell?_alloc_at _ t _ _ rfl]
 simpa using hv
theorem size73 : (Tryz.prog.info? 73).map (·.size) = some 2 := by kernel_rfl
set_option maxHeartbeats 1600000 in
set_option maxRecDepth 100000 in
theorem sel_none (A : Int) (a : Option Addr) (c : Nat) (han : an = 0 ∨ A < 0) (ca : w.cell? ⟨m, 2, none⟩ = some (.slice a an c)) (hm : m < w.heap.size) : Calls Tryz.prog 12 #[.pointer (some ⟨m, 0, none⟩), .int .i64 A] w (SelP w an sx) := by
 have HB : Hid (Below w.heap.size w (w.alloc (.cells #[.pointer none, .pointer none] 73))) := (Below.refl _ _).alloc (Nat.le_refl _) _
 have c1 : (w.alloc (.cells #[.pointer none, .pointer none] 73)).cell? ⟨m, 2, none⟩ = some (.slice a an c) := (HB.out.cell (p := ⟨m, 2, none⟩) hm).trans ca
 have HT : Hid ((w.alloc (.cells #[.pointer none, .pointer none] 73)).there w.heap.size 0 2) := there_new w _ 73 2 (by show 2 ≤ 2; omega)
 clear ca
 by_cases h0 : an = 0
 ·subst h0
  clear han
  go_enter Tryz.func12, Tryz.ntmps12
  go_wp2
  refine ret_array [.pointer none, .pointer none] Tryz.results12 rfl (range_new w _ 73) Tryz.underlying73 rfl size73 ?_
  exact ⟨none, ⟨fun i e => (by cases e)⟩, rfl, HB.out⟩
 ·have hA : A < 0 := by omega
  have hn : (((an : Nat) : Int) == 0) = false := by simp; omega
  go_enter Tryz.func12, Tryz.ntmps12
  go_wp2
  refine ret_array [.pointer none, .pointer none] Tryz.results12 rfl (range_new w _ 73) Tryz.underlying73 rfl size73 ?_
  exact ⟨none, ⟨fun i e => (by cases e)⟩, rfl, HB.out⟩
set_option maxHeartbeats 1600000 in
set_option maxRecDepth 100000 in
theorem sel_some (q i ab c : Nat) (hq : q ≤ 9223372036854775807) (hi : i = q % an) (h0 : 0 < an) (ca : w.cell? ⟨m, 2, none⟩ = some (.slice (some ⟨ab, 0, none⟩) an c)) (hm : m < w.heap.size) (c1 : w.cell? ⟨ab, i * 2, none⟩ = some (.pointer (some ⟨(sx i).t, 0, none⟩))) (c2 : w.cell? ⟨ab, i * 2 + 1, none⟩ = some (.pointer (some ⟨(sx i).rt, 0, none⟩))) : Calls Tryz.prog 12 #[.pointer (some ⟨m, 0, none⟩), .int .i64 (q : Nat)] w (SelP w an sx) := by
 have HI : Hid (i < an) := by show i < an; rw [hi]; exact Nat.mod_lt _ h0
 have hx : ((q : Nat) : Int) % ((an : Nat) : Int) = ((i : Nat) : Int) := by rw [hi]; exact (Int.natCast_emod q an).symm
 have hxt : Int.tmod ((q : Nat) : Int) ((an : Nat) : Int) = ((i : Nat) : Int) := by rw [Int.tmod_eq_emod_of_nonneg (by omega)]; exact hx
 have hil : ((i : Nat) : Int) < (an : Nat) := by have := HI.out; omega
 have hwi : IntKind.i64.wrap ((i : Nat) : Int) = ((i : Nat) : Int) := wraps_i64 _ (by omega) (by have h1 : i ≤ q := (by rw [hi]; exact Nat.mod_le _ _); omega)
 obtain ⟨p1, HP1⟩ : ∃ x, Hid (x = (sx i).t) := ⟨_, rfl⟩
 obtain ⟨p2, HP2⟩ : ∃ x, Hid (x = (sx i).rt) := ⟨_, rfl⟩
 rw [← HP1.out] at c1
 rw [← HP2.out] at c2
 have HB : Hid (Below w.heap.size w (w.alloc (.cells #[.pointer none, .pointer none] 73))) := (Below.refl _ _).alloc (Nat.le_refl _) _
 have HT : Hid ((w.alloc (.cells #[.pointer none, .pointer none] 73)).there w.heap.size 0 2) := there_new w _ 73 2 (by show 2 ≤ 2; omega)
 have HABl : Hid (ab < w.heap.size) := World.block_lt_of_cell? w _ c1
 have HC : Hid ((w.alloc (.cells #[.pointer none, .pointer none] 73)).cell? ⟨m, 2, none⟩ = some (.slice (some ⟨ab, 0, none⟩) an c) ∧ (w.alloc (.cells #[.pointer none, .pointer none] 73)).cell? ⟨ab, i * 2, none⟩ = some (.pointer (some ⟨p1, 0, none⟩)) ∧ (w.alloc (.cells #[.pointer none, .pointer none] 73)).cell? ⟨ab, i * 2 + 1, none⟩ = some (.pointer (some ⟨p2, 0, none⟩))) := ⟨(HB.out.cell (p := ⟨m, 2, none⟩) hm).trans ca, (HB.out.cell (p := ⟨ab, i * 2, none⟩) HABl.out).trans c1, (HB.out.cell (p := ⟨ab, i * 2 + 1, none⟩) HABl.out).trans c2⟩
 have hn : (((an : Nat) : Int) == 0) = false := by simp; omega
 have hn0 : ¬ ((an : Nat) : Int) = 0 := by omega
 have hn1 : ¬ an = 0 := by omega
 have hIq : Hid (i = q % an) := hi
 clear ca c1 c2 hi
 go_enter Tryz.func12, Tryz.ntmps12
 go_upto_region 1 with fail
 generalize (w.alloc (.cells #[.pointer none, .pointer none] 73)) = w1 at HB HC HT ⊢
 obtain ⟨c0, c1, c2⟩ := HC.out
 go_upto_region 3 with fail
 have hSt : w1.drew.cell? ⟨m, 2, none⟩ = some (.slice (some ⟨ab, 0, none⟩) an c) ∧ w1.drew.cell? ⟨ab, i * 2, none⟩ = some (.pointer (some ⟨p1, 0, none⟩)) ∧ w1.drew.cell? ⟨ab, i * 2 + 1, none⟩ = some (.pointer (some ⟨p2, 0, none⟩)) := ⟨c0, c1, c2⟩
 refine wp_region_noPanic ?_
 refine wp_region_till (fun u => u.cell? ⟨m, 2, none⟩ = some (.slice (some ⟨ab, 0, none⟩) an c) ∧ u.cell? ⟨ab, i * 2, none⟩ = some (.pointer (some ⟨p1, 0, none⟩)) ∧ u.cell? ⟨ab, i * 2 + 1, none⟩ = some (.pointer (some ⟨p2, 0, none⟩))) 13 (by kernel_rfl) (by decide) (by decide +kernel) (by decide +kernel) (by decide +kernel) (fun inv => ?_)
 refine tU 0 16 (.pointer (some ⟨m, 0, none⟩)) inv rfl rfl hSt fun inv => ?_
 simp only [pU]
 refine tU 1 17 (.pointer (some ⟨m, 0, none⟩)) inv rfl rfl hSt fun inv => ?_
 simp only [pU]
 refine tU 2 18 (.pointer (some ⟨m, 2, none⟩)) inv rfl rfl hSt fun inv => ?_
 simp only [pU]
 refine tT 3 19 (.slice (some ⟨ab, 0, none⟩) an c) inv rfl rfl (by decide +kernel) (hSt) (Or.inl ⟨by rfl, fun w' hS' => by have q1 := hS'.1; go_simp⟩) (fun inv => ?_)
 simp only [pU]
 refine tU 4 20 (.int .i64 (q : Nat)) inv rfl rfl hSt fun inv => ?_
 simp only [pU]
 refine tU 5 21 (.pointer (some ⟨m, 0, none⟩)) inv rfl rfl hSt fun inv => ?_
 simp only [pU]
 refine tU 6 22 (.pointer (some ⟨m, 0, none⟩)) inv rfl rfl hSt fun inv => ?_
 simp only [pU]
 refine tU 7 23 (.pointer (some ⟨m, 2, none⟩)) inv rfl rfl hSt fun inv => ?_
 simp only [pU]
 refine tT 8 24 (.slice (some ⟨ab, 0, none⟩) an c) inv rfl rfl (by decide +kernel) (hSt) (Or.inl ⟨by rfl, fun w' hS' => by have q1 := hS'.1; go_simp⟩) (fun inv => ?_)
 simp only [pU]
 refine tU 9 25 (.int .i64 (an : Nat)) inv rfl rfl hSt fun inv => ?_
 simp only [pU]
 refine tU 10 26 (.int .i64 (i : Nat)) inv rfl rfl hSt fun inv => ?_
 simp only [pU]
 refine tU 11 27 (.pointer (some ⟨ab, i * 2, none⟩)) inv rfl rfl hSt fun inv => ?_
 simp only [pU]
 refine tT 12 28 (.agg #[.pointer (some ⟨p1, 0, none⟩), .pointer (some ⟨p2, 0, none⟩)]) inv rfl rfl (by decide +kernel) (hSt) (Or.inl ⟨by rfl, fun w' hS' => by have q1 := hS'.2.1; have q2 := hS'.2.2; go_simp⟩) (fun inv => ?_)
 simp only [pU]
 refine till_tail (i := 13) (by decide +kernel) (by decide) rfl (fun K hK => ?_)
 rw [if_pos (by rfl)]
 refine wp_store_mid 73 (.tmp 4) (.tmp 28) rfl w.heap.size 0 #[.pointer (some ⟨p1, 0, none⟩), .pointer (some ⟨p2, 0, none⟩)] rfl rfl (HT.out) (size73) (by kernel_rfl) ?_
 refine hK.out _ _ ?_
 clear hK K
 try simp only [pU]
 refine till_done (by decide +kernel) ?_ _
 refine NoPanic.normal ?_
 go_wp2
 refine ret_array [.pointer (some ⟨p1, 0, none⟩), .pointer (some ⟨p2, 0, none⟩)] Tryz.results12 rfl ?_ Tryz.underlying73 rfl size73 ?_
 ·exact World.rangeAt_setCells_same _ _ _ _ HT.out
 ·exact ⟨some i, ⟨fun j e => by cases e; exact HI.out⟩, by rw [HP1.out, HP2.out]; rfl, belowB_setCells _ (Nat.le_refl _) _ _ _ HB.out.drew⟩

end Go.Proofs.YtgmfiljjogdccabGreatDoor
namespace Go.Proofs.YtgmfiljjogdccabGreatDoor
open Go.RowKit Go.RwLone Go.Conc.Locks
set_option linter.unusedVariables false
set_option linter.unusedSimpArgs false
variable {w v : World} {B m : Nat} {kx : Option Kx} {gP gR : Bool} {an : Nat} {sx : Nat → Sx} {av lv : Value} {lz : List Int}
theorem sel_b (A : Int) (hA : A ≤ 9223372036854775807) (h : BS w B m kx gP gR an sx av lv lz) : Calls Tryz.prog 12 #[.pointer (some ⟨m, 0, none⟩), .int .i64 A] w (SelP w an sx) := by
 have hc := h.ca
 have hr := h.ar
 rcases h.ar.2 with ⟨rfl, h0⟩ | ⟨g, c, cur, rfl, _⟩
 ·subst h0
  exact sel_none A none 0 (.inl rfl) hc h.mlt
 ·by_cases h0 : an = 0 ∨ A < 0
  ·exact sel_none A (some ⟨g, 0, none⟩) c h0 hc h.mlt
  ·obtain ⟨q, rfl⟩ : ∃ q : Nat, A = (q : Nat) := ⟨A.toNat, by omega⟩
   have hi : q % an < an := Nat.mod_lt _ (by omega)
   obtain ⟨e1, e2⟩ := prs_at an sx (q % an) hi
   exact sel_some q (q % an) g c (by omega) rfl (by omega) hc h.mlt ((hr.cellAt _ (by omega)).trans e1) ((hr.cellAt _ (by omega)).trans e2)
theorem Own.drew {w : World} {S : Nat → Prop} {v : Value} {zs : List Int} (h : Own w S v zs) (q : Nat) : Own (w.drewN q) S v zs := h.frp ⟨rfl, rfl, rfl, Nat.le_refl _, fun _ _ _ => rfl⟩
theorem view_drew {w : World} {v : Value} {zs : List Int} (h : View w v zs) (q : Nat) : View (w.drewN q) v zs := h.kept (fun _ _ => rfl)
set_option maxHeartbeats 1600000 in
set_option maxRecDepth 100000 in
theorem lists_ok (v1 v2 own dv : Value) (E : Int) (Z zs : List Int) (S : Nat → Prop) (w : World) (h1 : View w v1 Z) (h2 : View w v2 Z) (ho : Own w S own zs) (hd : View w dv zs) : Calls Tryz.prog 15 #[v1, .int .i64 E, v2, .int .i64 E, own, dv] w fun e w' => e = .returned (.bool true) ∧ ∃ q, w' = w.drewN q := by
 have K1 : Hid (Calls Tryz.prog 47 #[v1, v2] w fun e w' => e = .returned (.bool true) ∧ ∃ q, w' = w.drewN q) := by
  have h := same_any v1 v2 Z Z w h1 h2
  rw [show decide (Z = Z) = true from decide_eq_true rfl] at h
  exact h
 have K2 : Hid (∀ q, Calls Tryz.prog 48 #[own, dv] (w.drewN q) fun e w' => e = .returned (.bool true) ∧ ∃ r, w' = (w.drewN q).drewN r) := fun q => whole_any own dv zs 0 _ (ho.drew q).mkd (view_drew hd q)
 clear h1 h2 ho hd
 go_enter Tryz.func15, Tryz.ntmps15
 go_wp2_with (first | (go_at_call 47; refine K1.out.mono ?_))
 rintro e1 w1 ⟨rfl, q, rfl⟩
 go_wp2_with (first | (go_at_call 48; refine (K2.out q).mono ?_))
 rintro e2 w2 ⟨rfl, r, rfl⟩
 go_wp2
 go_ret
 refine ⟨rfl, ?_⟩
 exact ⟨q + r, by simp⟩
set_option maxHeartbeats 1600000 in
set_option maxRecDepth 100000 in
theorem at_none (w : World) : Calls Tryz.prog 16 #[.agg #[.pointer none, .pointer none]] w fun e w' => e = .returned (.bool true) ∧ Below w.heap.size w w' := by
 have HB : Hid (Below w.heap.size w (w.alloc (.cells #[.pointer none, .pointer none] 73))) := (Below.refl _ _).alloc (Nat.le_refl _) _
 have K1 : Hid (∀ u, Calls Tryz.prog 49 #[.pointer none] u fun e w' => e = .returned (.int .u64 0) ∧ w' = u) := at_nil
 go_enter Tryz.func16, Tryz.ntmps16
 go_wp2_with (first | (go_at_call 49; refine (K1.out _).mono ?_; rintro e1 w1 ⟨rfl, rfl⟩))
 go_ret
 exact ⟨rfl, HB.out⟩
set_option maxHeartbeats 1600000 in
set_option maxRecDepth 100000 in
theorem at_some (t rt g g2 n : Nat) (s0 : W4) (w : World) (hs : StreamAt w t g s0 n) (hr : StreamAt w rt g2 s0 n) : Calls Tryz.prog 16 #[.agg #[.pointer (some ⟨t, 0, none⟩), .pointer (some ⟨rt, 0, none⟩)]] w fun e w' => e = .returned (.bool true) ∧ Below w.heap.size w w' := by
 have HB : Hid (Below w.heap.size w (w.alloc (.cells #[.pointer (some ⟨t, 0, none⟩), .pointer (some ⟨rt, 0, none⟩)] 73)) ∧ (w.alloc (.cells #[.pointer (some ⟨t, 0, none⟩), .pointer (some ⟨rt, 0, none⟩)] 73)).cell? ⟨w.heap.size, 0, none⟩ = some (.pointer (some ⟨t, 0, none⟩)) ∧ (w.alloc (.cells #[.pointer (some ⟨t, 0, none⟩), .pointer (some ⟨rt, 0, none⟩)] 73)).cell? ⟨w.heap.size, 1, none⟩ = some (.pointer (some ⟨rt, 0, none⟩))) := by
  refine ⟨(Below.refl _ _).alloc (Nat.le_refl _) _, ?_, ?_⟩
  ·exact range_new w [.pointer (some ⟨t, 0, none⟩), .pointer (some ⟨rt, 0, none⟩)] 73 0 _ rfl
  ·exact range_new w [.pointer (some ⟨t, 0, none⟩), .pointer (some ⟨rt, 0, none⟩)] 73 1 _ rfl
 have HS : Hid (StreamAt w t g s0 n) := hs
 have HR : Hid (StreamAt w rt g2 s0 n) := hr
 have hn40 := hs.most
 clear hs hr
 obtain ⟨bx, HBX⟩ : ∃ b, Hid (w.heap.size = b) := ⟨_, rfl⟩
 go_enter Tryz.func16, Tryz.ntmps16
 go_upto_region 1 with fail
 generalize (w.alloc (.cells #[.pointer (some ⟨t, 0, none⟩), .pointer (some ⟨rt, 0, none⟩)] 73)) = w1 at HB ⊢
 rw [HBX.out] at HB ⊢
 obtain ⟨_, c0, c1⟩ := HB.out
 go_upto_region 3 with fail
 have HK : Hid (∀ u, Below w1.heap.size w1 u → Calls Tryz.prog 49 #[.pointer (some ⟨t, 0, none⟩)] u fun e u' => e = .returned (.int .u64 (n : Nat)) ∧ u' = u) := fun u hu => at_ok t g n s0 u ((HS.out.below HB.out.1 (by rw [← HBX.out]; exact HS.out.here)).below hu (Nat.lt_of_lt_of_le HS.out.here HB.out.1.size))
 have G0 : Hid (∀ u, Below w1.heap.size w1 u → u.cell? ⟨bx, 0, none⟩ = some (.pointer (some ⟨t, 0, none⟩))) := fun u hu => (hu.cell (p := ⟨bx, 0, none⟩) (World.block_lt_of_cell? w1 _ c0)).trans c0
 have G1 : Hid (∀ u, Below w1.heap.size w1 u → u.cell? ⟨bx, 1, none⟩ = some (.pointer (some ⟨rt, 0, none⟩))) := fun u hu => (hu.cell (p := ⟨bx, 1, none⟩) (World.block_lt_of_cell? w1 _ c1)).trans c1
 have G2 : Hid (∀ u, Below w1.heap.size w1 u → u.cell? ⟨rt, 17, none⟩ = some (.int .u64 (n : Nat))) := fun u hu => (hu.cell (p := ⟨rt, 17, none⟩) (by have h1 := HR.out.here; have h2 := HB.out.1.size; show rt < _; omega)).trans ((HB.out.1.cell (p := ⟨rt, 17, none⟩) (by show rt < bx; rw [← HBX.out]; exact HR.out.here)).trans HR.out.pos)
 have hS0 : Below w1.heap.size w1 w1.drew := (Below.refl _ _).drew
 refine wp_region_noPanic ?_
 refine wp_region_held_drew (S := fun u => Below w1.heap.size w1 u) (by kernel_rfl) (hS0) (fun _ => ?_)
 refine tG 0 10 (.pointer (some ⟨bx, 0, none⟩)) rfl rfl hS0 ?_
 simp only [pU]
 refine tQ 1 11 (.pointer (some ⟨t, 0, none⟩)) rfl rfl hS0 G0.out ?_
 simp only [pU]
 refine tG 3 13 (.pointer (some ⟨bx, 1, none⟩)) rfl rfl hS0 ?_
 simp only [pU]
 refine tQ 4 14 (.pointer (some ⟨rt, 0, none⟩)) rfl rfl hS0 G1.out ?_
 simp only [pU]
 refine tG 5 15 (.pointer (some ⟨rt, 0, none⟩)) rfl rfl hS0 ?_
 simp only [pU]
 refine tG 6 16 (.pointer (some ⟨rt, 17, none⟩)) rfl rfl hS0 ?_
 simp only [pU]
 refine tQ 7 17 (.int .u64 (n : Nat)) rfl rfl hS0 G2.out ?_
 simp only [pU]
 refine wpAnyH_ready (rs := [2]) (by kernel_rfl) (by simp) ?_
 refine AllReadyH.cons rfl (fun K hK => ?_) AllReadyH.nil
 go_simp
 refine (HK.out _ hS0).mono ?_
 rintro e1 w1 ⟨rfl, hw1⟩
 obtain rfl := hw1.symm
 go_wp2_with fail
 refine hK.out _ _ (hS0) (fun _ => ?_)
 clear hK K
 try simp only [pU]
 refine tG 8 18 (.bool true) rfl rfl hS0 ?_
 simp only [pU]
 refine tG 9 2 (.bool true) rfl rfl hS0 ?_
 simp only [pU]
 refine wpAnyH_done (by kernel_rfl) ?_ _
 refine NoPanic.normal ?_
 go_wp2
 go_ret
 refine ⟨rfl, ?_⟩
 rw [HBX.out]
 exact HB.out.1.drew
end Go.Proofs.YtgmfiljjogdccabGreatDoor
