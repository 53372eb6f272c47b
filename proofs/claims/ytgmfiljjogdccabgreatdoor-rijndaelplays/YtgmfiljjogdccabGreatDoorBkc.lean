import Derived.Test.YtgmfiljjogdccabGreatDoorPart00
import Derived.Test.YtgmfiljjogdccabGreatDoorPart16
namespace Go.Proofs.YtgmfiljjogdccabGreatDoor
open Go.RowKit
set_option linter.unusedVariables false
def row4 (row : Nat → Nat) : Array Value := #[.int .u8 (row 0 : Nat), .int .u8 (row 1 : Nat), .int .u8 (row 2 : Nat), .int .u8 (row 3 : Nat)]
/-- What stands while columns are multiplied. -/
structure CoS (w : World) (B1 B2 B3 : Nat) (f row o : Nat → Nat) (u : World) : Prop where
 old : Below w.heap.size w u
 b : Ar u w.heap.size f
 r : ∀ j, j < 4 → u.cell? ⟨B1, j, none⟩ = some (.int .u8 (row j : Nat))
 res : u.there B2 0 16
 out : Ar u B3 o
theorem CoS.set {w u : World} {B1 B2 B3 : Nat} {f row o : Nat → Nat} (h : CoS w B1 B2 B3 f row o u) (k x : Nat) (hk : k < 16) (h1 : w.heap.size < B1) (h2 : B1 < B2) (h3 : B2 < B3) : CoS w B1 B2 B3 f row (fun j => if j = k then x else o j) (u.setCell ⟨B3, k, none⟩ (.int .u8 (x : Nat))) :=
 ⟨h.old.setCell (by show w.heap.size ≤ B3; omega) _, h.b.far (by omega), fun j hj => by rw [World.cell?_setCell_far _ _ _ _ (by show B3 ≠ B1; omega)]; exact h.r j hj, World.there_setCells h.res _ _ [_], h.out.set k x hk⟩
theorem CoS.drew {w u : World} {B1 B2 B3 : Nat} {f row o : Nat → Nat} (h : CoS w B1 B2 B3 f row o u) : CoS w B1 B2 B3 f row o u.drew := ⟨h.old.drew, ⟨h.b.c, h.b.t⟩, h.r, h.res, ⟨h.out.c, h.out.t⟩⟩
theorem CoS.congr {w u : World} {B1 B2 B3 : Nat} {f row o o' : Nat → Nat} (h : CoS w B1 B2 B3 f row o u) (e : ∀ j, j < 16 → o j = o' j) : CoS w B1 B2 B3 f row o' u := ⟨h.old, h.b, h.r, h.res, h.out.congr e⟩
theorem co_start (w : World) (f row : Nat → Nat) : CoS w (w.heap.size + 1) (w.heap.size + 1 + 1) (w.heap.size + 1 + 1 + 1) f row zero8 ((((w.alloc (.cells (arA f) 37)).alloc (.cells (row4 row) 111)).alloc (.cells z16 37)).alloc (.cells z16 37)) := by
 rw [z16_ar]
 have s1 : (w.alloc (.cells (arA f) 37)).heap.size = w.heap.size + 1 := by simp
 have s2 : ((w.alloc (.cells (arA f) 37)).alloc (.cells (row4 row) 111)).heap.size = w.heap.size + 1 + 1 := by simp
 have s3 : (((w.alloc (.cells (arA f) 37)).alloc (.cells (row4 row) 111)).alloc (.cells (arA zero8) 37)).heap.size = w.heap.size + 1 + 1 + 1 := by simp
 have n1 : ∀ (v : World) (o : Obj) (b : Nat), b < v.heap.size → (v.alloc o).heap[b]? = v.heap[b]? := fun v o b hb => ((Below.refl v.heap.size v).alloc (Nat.le_refl _) o).block b hb
 refine ⟨((((Below.refl _ w).alloc (Nat.le_refl _) _).alloc (by omega) _).alloc (by omega) _).alloc (by omega) _, ?_, ?_, ?_, ?_⟩
 ·exact (((ar_new w f 37).same (n1 _ _ _ (by omega))).same (n1 _ _ _ (by omega))).same (n1 _ _ _ (by omega))
 ·intro j hj
  rw [World.cell?_of_block (a := ⟨w.heap.size + 1, j, none⟩) (n1 _ _ _ (by show w.heap.size + 1 < _; omega)), World.cell?_of_block (a := ⟨w.heap.size + 1, j, none⟩) (n1 _ _ _ (by show w.heap.size + 1 < _; omega)), ← s1, World.cell?_alloc_at _ 111 _ _ rfl]
  have h : j = 0 ∨ j = 1 ∨ j = 2 ∨ j = 3 := by omega
  rcases h with rfl | rfl | rfl | rfl <;> rfl
 ·have := ar_new ((w.alloc (.cells (arA f) 37)).alloc (.cells (row4 row) 111)) zero8 37
  rw [s2] at this
  exact (this.same (n1 _ _ _ (by omega))).t
 ·have := ar_new (((w.alloc (.cells (arA f) 37)).alloc (.cells (row4 row) 111)).alloc (.cells (arA zero8) 37)) zero8 37
  rw [s3] at this
  exact this
/-- The first m bytes. -/
def part (X : Nat → Nat) (m j : Nat) : Nat := if j < m then X j else 0
theorem part_next (X : Nat → Nat) (m x : Nat) (hx : x = X m) (j : Nat) : (if j = m then x else part X m j) = part X (m + 1) j := by
 unfold part
 by_cases e : j = m
 ·subst e; rw [if_pos rfl, if_pos (by omega), hx]
 ·rw [if_neg e]
  by_cases h : j < m
  ·rw [if_pos h, if_pos (by omega)]
  ·rw [if_neg h, if_neg (by omega)]
set_option maxHeartbeats 3200000 in
set_option maxRecDepth 100000 in
theorem columns_any (g gr nk : Nat) (K row f : Nat → Nat) (w : World) (h : RefAt w g gr nk K) (hrow : ∀ j, j < 4 → byR (row j)) (hf : ∀ j, f j < 256) :
  Calls Tryz.prog 52 #[.pointer (some ⟨g, 0, none⟩), .agg (arA f), .agg (row4 row)] w fun e w' => e = .returned (.agg (arA (fun j => colX row f (j / 4) (j % 4) 4))) ∧ Below w.heap.size w w' := by
 have HH : Hid (RefAt w g gr nk K) := h
 have HRW : Hid (∀ j, j < 4 → byR (row j)) := hrow
 have HFl : Hid (∀ j, f j < 256) := hf
 obtain ⟨X, HXX⟩ : ∃ X, Hid (X = fun j => colX row f (j / 4) (j % 4) 4) := ⟨_, rfl⟩
 rw [← HXX.out]
 obtain ⟨R2, HR2⟩ : ∃ A, Hid (A = arA X) := ⟨_, rfl⟩
 rw [← HR2.out]
 clear h hrow hf
 have HI : Hid (CoS w (w.heap.size + 1) (w.heap.size + 1 + 1) (w.heap.size + 1 + 1 + 1) f row zero8 _) := co_start w f row
 unfold arA row4 z16 at HI
 unfold arA row4
 go_enter Tryz.func52, Tryz.ntmps52
 go_wp2
 generalize ((((w.alloc (.cells #[.int .u8 (f 0 : Nat), .int .u8 (f 1 : Nat), .int .u8 (f 2 : Nat), .int .u8 (f 3 : Nat), .int .u8 (f 4 : Nat), .int .u8 (f 5 : Nat), .int .u8 (f 6 : Nat), .int .u8 (f 7 : Nat), .int .u8 (f 8 : Nat), .int .u8 (f 9 : Nat), .int .u8 (f 10 : Nat), .int .u8 (f 11 : Nat), .int .u8 (f 12 : Nat), .int .u8 (f 13 : Nat), .int .u8 (f 14 : Nat), .int .u8 (f 15 : Nat)] 37)).alloc (.cells #[.int .u8 (row 0 : Nat), .int .u8 (row 1 : Nat), .int .u8 (row 2 : Nat), .int .u8 (row 3 : Nat)] 111)).alloc (.cells #[.int .u8 0, .int .u8 0, .int .u8 0, .int .u8 0, .int .u8 0, .int .u8 0, .int .u8 0, .int .u8 0, .int .u8 0, .int .u8 0, .int .u8 0, .int .u8 0, .int .u8 0, .int .u8 0, .int .u8 0, .int .u8 0] 37)).alloc (.cells #[.int .u8 0, .int .u8 0, .int .u8 0, .int .u8 0, .int .u8 0, .int .u8 0, .int .u8 0, .int .u8 0, .int .u8 0, .int .u8 0, .int .u8 0, .int .u8 0, .int .u8 0, .int .u8 0, .int .u8 0, .int .u8 0] 37)) = w4 at HI ⊢
 obtain ⟨B3, HB3⟩ : ∃ b, Hid (w.heap.size + 1 + 1 + 1 = b) := ⟨_, rfl⟩
 obtain ⟨B2, HB2⟩ : ∃ b, Hid (w.heap.size + 1 + 1 = b) := ⟨_, rfl⟩
 obtain ⟨B1, HB1⟩ : ∃ b, Hid (w.heap.size + 1 = b) := ⟨_, rfl⟩
 rw [HB3.out, HB2.out, HB1.out] at HI ⊢
 have HBB : Hid (w.heap.size < B1 ∧ B1 < B2 ∧ B2 < B3) := ⟨by have := HB1.out; omega, by have := HB1.out; have := HB2.out; omega, by have := HB2.out; have := HB3.out; omega⟩
 clear HB1 HB2 HB3
 go_loopw [8] (fun cc wr => ∃ c : Nat, c ≤ 4 ∧ cc = .int .i64 (c : Nat) ∧ Hid (CoS w B1 B2 B3 f row (part X (4 * c)) wr)) (fun cc _ => 4 - (intOf cc).toNat)
 case atStart => exact ⟨0, by omega, rfl, HI.out.congr (fun j hj => by unfold part; rw [if_neg (by omega)]; rfl)⟩
 case round =>
  obtain ⟨c, hc, rfl, HC⟩ := hrel
  by_cases hc4 : c < 4
  ·have hci : ((c : Nat) : Int) < 4 := by omega
   go_wp2
   go_loopw [9] (fun rr wr => ∃ r : Nat, r ≤ 4 ∧ rr = .int .i64 (r : Nat) ∧ Hid (CoS w B1 B2 B3 f row (part X (4 * c + r)) wr)) (fun rr _ => 4 - (intOf rr).toNat)
   case atStart => exact ⟨0, by omega, rfl, HC.out⟩
   case round =>
    obtain ⟨r, hr, rfl, HR⟩ := hrel
    by_cases hr4 : r < 4
    ·have hri : ((r : Nat) : Int) < 4 := by omega
     go_wp2
     go_loopw [10, 11] (fun xx jj wr => ∃ n : Nat, n ≤ 4 ∧ jj = .int .i64 (n : Nat) ∧ xx = .int .u8 (colX row f c r n : Nat) ∧ Hid (CoS w B1 B2 B3 f row (part X (4 * c + r)) wr)) (fun _ jj _ => 4 - (intOf jj).toNat)
     case atStart => exact ⟨0, by omega, rfl, rfl, HR.out⟩
     case round =>
      obtain ⟨n, hn, rfl, rfl, HN⟩ := hrel
      obtain ⟨x, HX⟩ : ∃ x, Hid (x = colX row f c r n) := ⟨_, rfl⟩
      rw [← HX.out]
      by_cases hn4 : n < 4
      ·obtain ⟨d, HD⟩ : ∃ d, Hid (d = n + 4 - r) := ⟨_, rfl⟩
       obtain ⟨q, HQ⟩ : ∃ q, Hid (q = d % 4) := ⟨_, rfl⟩
       obtain ⟨p, HP⟩ : ∃ p, Hid (p = 4 * c + n) := ⟨_, rfl⟩
       obtain ⟨c4, HC4⟩ : ∃ p, Hid (p = 4 * c) := ⟨_, rfl⟩
       obtain ⟨ρ, HRO⟩ : ∃ p, Hid (p = row q) := ⟨_, rfl⟩
       obtain ⟨y, HY⟩ : ∃ t, Hid (t = f p) := ⟨_, rfl⟩
       obtain ⟨z, HZ⟩ : ∃ z, Hid (z = byF ρ y) := ⟨_, rfl⟩
       obtain ⟨x', HX'⟩ : ∃ z, Hid (z = colX row f c r (n + 1)) := ⟨_, rfl⟩
       have hni : ((n : Nat) : Int) < 4 := by omega
       have hw4 : IntKind.i64.wrap (((n : Nat) : Int) + 4) = ((n : Nat) : Int) + 4 := wraps_i64 _ (by omega) (by omega)
       have hd : ((n : Nat) : Int) + 4 - ((r : Nat) : Int) = ((d : Nat) : Int) := by have := HD.out; omega
       have hwd : IntKind.i64.wrap ((d : Nat) : Int) = ((d : Nat) : Int) := wraps_i64 _ (by omega) (by have := HD.out; omega)
       have hq : ((d : Nat) : Int).tmod 4 = ((q : Nat) : Int) := by rw [Int.tmod_eq_emod_of_nonneg (by omega)]; have := HQ.out; omega
       have hq4 : ((q : Nat) : Int) < 4 := by have := HQ.out; omega
       have hc4' : (4 : Int) * ((c : Nat) : Int) = ((c4 : Nat) : Int) := by have := HC4.out; omega
       have hwc : IntKind.i64.wrap ((c4 : Nat) : Int) = ((c4 : Nat) : Int) := wraps_i64 _ (by omega) (by have := HC4.out; omega)
       have hp : ((c4 : Nat) : Int) + ((n : Nat) : Int) = ((p : Nat) : Int) := by have := HC4.out; have := HP.out; omega
       have hwp : IntKind.i64.wrap ((p : Nat) : Int) = ((p : Nat) : Int) := wraps_i64 _ (by omega) (by have := HP.out; omega)
       have hp16 : ((p : Nat) : Int) < 16 := by have := HP.out; omega
       have hro : byR ρ := by rw [HRO.out]; exact HRW.out q (by have := HQ.out; omega)
       have hro16 : ((ρ : Nat) : Int) < 16 := by unfold byR at hro; omega
       have hy : y < 256 := by rw [HY.out]; exact HFl.out p
       have hyi : ((y : Nat) : Int) < 256 := by omega
       have hx : bits .xor .u8 ((x : Nat) : Int) ((z : Nat) : Int) = ((x' : Nat) : Int) := by
        rw [xor8 _ _ (by rw [HX.out]; exact colX_lt row f HFl.out c r n) (by rw [HZ.out]; exact byF_lt _ _ hy), HX'.out, colX, HX.out, HZ.out, HRO.out, HY.out, HQ.out, HD.out, HP.out]
       have hSt : wr.drew.cell? ⟨B1, q, none⟩ = some (.int .u8 (ρ : Nat)) ∧ wr.drew.cell? ⟨w.heap.size, p, none⟩ = some (.int .u8 (y : Nat)) ∧ wr.drew.cell? ⟨g, 514 + ρ * 256 + y, none⟩ = some (.int .u8 (z : Nat)) := by
        refine ⟨?_, ?_, ?_⟩
        ·show wr.cell? _ = _
         rw [HN.out.r q (by omega), HRO.out]
        ·show wr.cell? _ = _
         rw [HN.out.b.c p (by omega), HY.out]
        ·show wr.cell? _ = _
         rw [HN.out.old.cell (p := ⟨g, 514 + ρ * 256 + y, none⟩) HH.out.lt, HZ.out, Nat.mul_comm ρ 256]
         exact HH.out.by' ρ hro y hy
       clear hro hy
       go_upto_region 12 with fail
       refine wp_region_noPanic ?_
       refine wp_region_held_drew (S := fun u => u.cell? ⟨B1, q, none⟩ = some (.int .u8 (ρ : Nat)) ∧ u.cell? ⟨w.heap.size, p, none⟩ = some (.int .u8 (y : Nat)) ∧ u.cell? ⟨g, 514 + ρ * 256 + y, none⟩ = some (.int .u8 (z : Nat))) (by kernel_rfl) (hSt) (fun _ => ?_)
       refine tG 0 24 (.int .u8 (x : Nat)) rfl rfl hSt ?_
       simp only [pU]
       refine tG 1 25 (.pointer (some ⟨g, 0, none⟩)) rfl rfl hSt ?_
       simp only [pU]
       refine tG 2 26 (.int .i64 (n : Nat)) rfl rfl hSt ?_
       simp only [pU]
       refine tG 3 27 (.int .i64 ((n : Nat) + 4)) rfl rfl hSt ?_
       simp only [pU]
       refine tG 4 28 (.int .i64 (r : Nat)) rfl rfl hSt ?_
       simp only [pU]
       refine tG 5 29 (.int .i64 (d : Nat)) rfl rfl hSt ?_
       simp only [pU]
       refine tG 6 30 (.int .i64 (q : Nat)) rfl rfl hSt ?_
       simp only [pU]
       refine tG 7 31 (.pointer (some ⟨B1, q, none⟩)) rfl rfl hSt ?_
       simp only [pU]
       refine tH 8 32 (.int .u8 (ρ : Nat)) rfl rfl (by kernel_rfl) (hSt) (Or.inl ⟨by rfl, fun w' hS' => by have q1 := hS'.1; go_simp⟩) ?_
       simp only [pU]
       refine tG 9 33 (.int .i64 (c : Nat)) rfl rfl hSt ?_
       simp only [pU]
       refine tG 10 34 (.int .i64 (c4 : Nat)) rfl rfl hSt ?_
       simp only [pU]
       refine tG 11 35 (.int .i64 (n : Nat)) rfl rfl hSt ?_
       simp only [pU]
       refine tG 12 36 (.int .i64 (p : Nat)) rfl rfl hSt ?_
       simp only [pU]
       refine tG 13 37 (.pointer (some ⟨w.heap.size, p, none⟩)) rfl rfl hSt ?_
       simp only [pU]
       refine tH 14 38 (.int .u8 (y : Nat)) rfl rfl (by kernel_rfl) (hSt) (Or.inl ⟨by rfl, fun w' hS' => by have q1 := hS'.2.1; go_simp⟩) ?_
       simp only [pU]
       refine tG 15 39 (.pointer (some ⟨g, 0, none⟩)) rfl rfl hSt ?_
       simp only [pU]
       refine tG 16 40 (.pointer (some ⟨g, 514, none⟩)) rfl rfl hSt ?_
       simp only [pU]
       refine tG 17 41 (.pointer (some ⟨g, 514 + ρ * 256, none⟩)) rfl rfl hSt ?_
       simp only [pU]
       refine tG 18 42 (.pointer (some ⟨g, 514 + ρ * 256 + y, none⟩)) rfl rfl hSt ?_
       simp only [pU]
       refine tH 19 43 (.int .u8 (z : Nat)) rfl rfl (by kernel_rfl) (hSt) (Or.inl ⟨by rfl, fun w' hS' => by have q1 := hS'.2.2; go_simp⟩) ?_
       simp only [pU]
       refine tG 20 44 (.int .u8 (x' : Nat)) rfl rfl hSt ?_
       simp only [pU]
       refine tG 21 10 (.int .u8 (x' : Nat)) rfl rfl hSt ?_
       simp only [pU]
       refine wpAnyH_done (by kernel_rfl) ?_ _
       refine NoPanic.normal ?_
       clear hSt
       have HN2 : Hid (CoS w B1 B2 B3 f row (part X (4 * c + r)) wr.drew) := HN.out.drew
       generalize wr.drew = wn at HN2 ⊢
       go_wp2
       refine ⟨⟨n + 1, by omega, rfl, by rw [HX'.out], HN2.out⟩, by simp only [intOf]; omega⟩
      ·obtain rfl : n = 4 := by omega
       obtain ⟨p, HP⟩ : ∃ p, Hid (p = 4 * c + r) := ⟨_, rfl⟩
       obtain ⟨c4, HC4⟩ : ∃ p, Hid (p = 4 * c) := ⟨_, rfl⟩
       have hc4' : (4 : Int) * ((c : Nat) : Int) = ((c4 : Nat) : Int) := by have := HC4.out; omega
       have hwc : IntKind.i64.wrap ((c4 : Nat) : Int) = ((c4 : Nat) : Int) := wraps_i64 _ (by omega) (by have := HC4.out; omega)
       have hp : ((c4 : Nat) : Int) + ((r : Nat) : Int) = ((p : Nat) : Int) := by have := HC4.out; have := HP.out; omega
       have hwp : IntKind.i64.wrap ((p : Nat) : Int) = ((p : Nat) : Int) := wraps_i64 _ (by omega) (by have := HP.out; omega)
       have hp16 : ((p : Nat) : Int) < 16 := by have := HP.out; omega
       have hpn : p < 16 := by omega
       obtain ⟨c0, hc0⟩ := there_cell HN.out.out.t p hpn
       have hf0 := there_froz HN.out.out.t p hpn
       have HN2 : Hid (CoS w B1 B2 B3 f row (part X (4 * c + (r + 1))) (wr.setCell ⟨B3, p, none⟩ (.int .u8 (x : Nat)))) := by
        refine (HN.out.set p x hpn HBB.out.1 HBB.out.2.1 HBB.out.2.2).congr (fun j hj => ?_)
        rw [HP.out]
        exact part_next X (4 * c + r) x (by rw [HX.out, HXX.out]; show _ = colX row f ((4 * c + r) / 4) ((4 * c + r) % 4) 4; rw [show (4 * c + r) / 4 = c by omega, show (4 * c + r) % 4 = r by omega]) j
       clear hn hn4
       go_wp2
       refine ⟨⟨r + 1, by omega, rfl, HN2.out⟩, by simp only [intOf]; omega⟩
    ·obtain rfl : r = 4 := by omega
     clear hr hr4
     go_wp2
     refine ⟨⟨c + 1, by omega, rfl, HR.out.congr (fun j hj => by rw [show 4 * (c + 1) = 4 * c + 4 by omega])⟩, by simp only [intOf]; omega⟩
  ·obtain rfl : c = 4 := by omega
   have HA : Hid (Ar wr B3 X) := HC.out.out.congr (fun j hj => by unfold part; rw [if_pos (by omega)])
   have HRg : Hid (wr.rangeAt B3 0 (arL X)) := HA.out.range
   obtain ⟨RL, HRL⟩ : ∃ L, Hid (L = arL X) := ⟨_, rfl⟩
   have HRA : Hid (R2 = RL.toArray) := by show _ = _; rw [HR2.out, HRL.out, arL_array]
   rw [← HRL.out] at HRg
   have HLl : Hid (RL.length = 16) := by show _ = _; rw [HRL.out]; rfl
   have h41 : Hid ((Tryz.prog.info? 37).map (·.size) = some RL.length) := by show _ = _; rw [HLl.out]; exact size41
   have HTh : Hid (wr.there B2 0 RL.toArray.size) := by show World.there _ _ _ _; rw [List.size_toArray, HLl.out]; exact HC.out.res
   have h41' : Hid ((Tryz.prog.info? 37).map (·.size) = some RL.toArray.size) := by show _ = _; rw [List.size_toArray]; exact h41.out
   have h1c : Hid (RL.toArray.all (·.oneCell') = true) := by show _ = _; rw [HRL.out, arL_array]; exact arA_one _
   clear hc hc4
   go_wp2_with (first
    | (refine wpList_load_mid (by rfl) 37 (.tmp 7) (by rfl) B3 0 (by rfl) RL _ HRg.out Tryz.underlying37 rfl h41.out ?_)
    | (refine wpList_store_mid (by rfl) 37 (.tmp 6) (.tmp 51) (by rfl) B2 0 RL.toArray (by rfl) (by rfl) HTh.out h41'.out h1c.out ?_))
   refine ret_array RL Tryz.results52 rfl ?_ Tryz.underlying37 rfl h41.out ⟨by rw [HRA.out], ?_⟩
   ·exact World.rangeAt_setCells_same _ _ _ _ (by rw [HLl.out]; exact HC.out.res)
   ·exact belowB_setCells _ (by have := HBB.out; omega) _ _ _ HC.out.old
theorem columnsE (g gr nk : Nat) (K : Nat → Nat) (s : W4) (w : World) (h : RefAt w g gr nk K) :
  Calls Tryz.prog 52 #[.pointer (some ⟨g, 0, none⟩), .agg (arA (sb s)), .agg #[.int .u8 2, .int .u8 3, .int .u8 1, .int .u8 1]] w fun e w' => e = .returned (.agg (arA (sb (mcS s)))) ∧ Below w.heap.size w w' := by
 have e : arA (sb (mcS s)) = arA (fun j => colX rowE (sb s) (j / 4) (j % 4) 4) := arA_congr (fun j hj => by
  rw [sb_mc s (j / 4) (j % 4) (by omega) (by omega), show 4 * (j / 4) + j % 4 = j by omega])
 rw [e]
 exact columns_any g gr nk K rowE (sb s) w h (fun j hj => by
  unfold rowE byR
  split <;> simp) (sb_lt s)
theorem columnsD (g gr nk : Nat) (K : Nat → Nat) (s : W4) (w : World) (h : RefAt w g gr nk K) :
  Calls Tryz.prog 52 #[.pointer (some ⟨g, 0, none⟩), .agg (arA (sb s)), .agg #[.int .u8 14, .int .u8 11, .int .u8 13, .int .u8 9]] w fun e w' => e = .returned (.agg (arA (sb (unmS s)))) ∧ Below w.heap.size w w' := by
 have e : arA (sb (unmS s)) = arA (fun j => colX rowD (sb s) (j / 4) (j % 4) 4) := arA_congr (fun j hj => by
  rw [sb_unm s (j / 4) (j % 4) (by omega) (by omega), show 4 * (j / 4) + j % 4 = j by omega])
 rw [e]
 exact columns_any g gr nk K rowD (sb s) w h (fun j hj => by
  unfold rowD byR
  split <;> simp) (sb_lt s)
end Go.Proofs.YtgmfiljjogdccabGreatDoor
