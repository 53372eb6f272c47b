import Derived.Test.YtcnikfikpnnblaaGreatDoorDgSpell
import Derived.Lib.SliceRun
import Derived.Deep.Cut
import Derived.Test.YtcnikfikpnnblaaGreatDoorPart19
import Derived.Test.YtcnikfikpnnblaaGreatDoorPart15
namespace Go.Proofs.YtcnikfikpnnblaaGreatDoor.Dg
open Go.RowKit
set_option linter.unusedVariables false
set_option linter.unusedSimpArgs false

/-- The cells of a taken, as a list. -/
def tkL (h : Int) (wd : Bool) (s : Eight) (half : Nat → Int) (fed : Nat) : List Value :=
 .int .i64 h :: fnV wd :: (s.cells ++ ((List.range 128).map (fun i => Value.int .u8 (half i)) ++ [.int .u64 fed]))
theorem tkL_length (h : Int) (wd : Bool) (s : Eight) (half : Nat → Int) (fed : Nat) : (tkL h wd s half fed).length = 139 := by simp [tkL, Eight.cells_length]
theorem tkL_at (h : Int) (wd : Bool) (s : Eight) (half : Nat → Int) (fed : Nat) :
  (tkL h wd s half fed)[0]? = some (.int .i64 h) ∧ (tkL h wd s half fed)[1]? = some (fnV wd) ∧ (∀ i, i < 8 → (tkL h wd s half fed)[2 + i]? = s.cells[i]?) ∧ (∀ i, i < 128 → (tkL h wd s half fed)[10 + i]? = some (.int .u8 (half i))) ∧ (tkL h wd s half fed)[138]? = some (.int .u64 fed) := by
 have hc := s.cells_length
 refine ⟨rfl, rfl, ?_, ?_, ?_⟩
 ·intro i hi
  rw [tkL, show 2 + i = (i + 1) + 1 by omega, List.getElem?_cons_succ, List.getElem?_cons_succ, List.getElem?_append_left (by omega)]
 ·intro i hi
  rw [tkL, show 10 + i = ((8 + i) + 1) + 1 by omega, List.getElem?_cons_succ, List.getElem?_cons_succ, List.getElem?_append_right (by omega), List.getElem?_append_left (by simp; omega)]
  rw [hc, show 8 + i - 8 = i by omega]
  simp [hi]
 ·rw [tkL, show 138 = (136 + 1) + 1 by omega, List.getElem?_cons_succ, List.getElem?_cons_succ, List.getElem?_append_right (by omega), List.getElem?_append_right (by simp; omega)]
  simp [hc]
theorem TK.range {w : World} {g o : Nat} {h : Int} {wd : Bool} {s : Eight} {half : Nat → Int} {fed : Nat} (k : TK w g o h wd s half fed) : w.rangeAt g o (tkL h wd s half fed) := by
 obtain ⟨h0, h1, h2, h3, h4⟩ := tkL_at h wd s half fed
 intro j v hv
 have hj : j < 139 := by
  by_cases hj : j < 139
  ·exact hj
  ·rw [List.getElem?_eq_none (by rw [tkL_length]; omega)] at hv; cases hv
 by_cases j0 : j = 0
 ·subst j0; rw [h0] at hv; cases hv; exact k.hash
 by_cases j1 : j = 1
 ·subst j1; rw [h1] at hv; cases hv; exact k.fn
 by_cases j2 : j < 10
 ·obtain ⟨i, rfl⟩ : ∃ i, j = 2 + i := ⟨j - 2, by omega⟩
  rw [h2 i (by omega)] at hv
  rw [← Nat.add_assoc]
  exact k.st i v hv
 by_cases j3 : j < 138
 ·obtain ⟨i, rfl⟩ : ∃ i, j = 10 + i := ⟨j - 10, by omega⟩
  rw [h3 i (by omega)] at hv
  rw [← Nat.add_assoc]
  cases hv
  exact k.half i (by omega)
 ·obtain rfl : j = 138 := by omega
  rw [h4] at hv; cases hv; exact k.fed
theorem TK.of {w : World} {g o : Nat} {h : Int} {wd : Bool} {s : Eight} {half : Nat → Int} {fed : Nat} (hr : w.rangeAt g o (tkL h wd s half fed)) (ht : w.there g o 139) : TK w g o h wd s half fed := by
 obtain ⟨h0, h1, h2, h3, h4⟩ := tkL_at h wd s half fed
 refine ⟨hr 0 _ h0, hr 1 _ h1, fun j v hv => ?_, fun i hi => ?_, hr 138 _ h4, ht⟩
 ·have hj : j < 8 := by
   by_cases hj : j < s.cells.length
   ·exact hj
   ·rw [List.getElem?_eq_none (by omega)] at hv; cases hv
  have := hr (2 + j) v (by rw [h2 j hj]; exact hv)
  rw [← Nat.add_assoc] at this
  exact this
 ·have := hr (10 + i) _ (h3 i hi)
  rw [← Nat.add_assoc] at this
  exact this
theorem cells_oneE (s : Eight) : ∀ v ∈ s.cells, v.oneCell' = true := by
 intro v hv
 simp only [Eight.cells, List.mem_map] at hv
 obtain ⟨x, _, rfl⟩ := hv
 rfl
theorem tkL_one (h : Int) (wd : Bool) (s : Eight) (half : Nat → Int) (fed : Nat) : (tkL h wd s half fed).toArray.all (·.oneCell') = true := all_oneCell_toArray (by
 intro v hv
 simp only [tkL, List.mem_cons, List.mem_append, List.mem_map, List.mem_singleton] at hv
 rcases hv with rfl | rfl | hv | ⟨i, _, rfl⟩ | rfl | hv
 ·rfl
 ·cases wd <;> rfl
 ·exact cells_oneE s v hv
 ·rfl
 ·rfl
 ·simp at hv)
theorem tkArr_size (h : Int) (wd : Bool) (s : Eight) (half : Nat → Int) (fed : Nat) : (tkL h wd s half fed).toArray.size = 139 := by simp [tkL_length]

end Go.Proofs.YtcnikfikpnnblaaGreatDoor.Dg
namespace Go.Proofs.YtcnikfikpnnblaaGreatDoor.Dg
open Go.RowKit
set_option linter.unusedVariables false
set_option linter.unusedSimpArgs false

theorem TK.below {w v : World} {g o : Nat} {h : Int} {wd : Bool} {s : Eight} {half : Nat → Int} {fed : Nat} (k : TK w g o h wd s half fed) (b : Below w.heap.size w v) : TK v g o h wd s half fed := by
 have hg : g < w.heap.size := lt_of_cell k.hash
 exact ⟨by rw [b.cell hg]; exact k.hash, by rw [b.cell (p := ⟨g, o + 1, none⟩) hg]; exact k.fn, range_below k.st b hg, fun i hi => by rw [b.cell (p := ⟨g, o + 10 + i, none⟩) hg]; exact k.half i hi, by rw [b.cell (p := ⟨g, o + 138, none⟩) hg]; exact k.fed, fun j hj => by rw [b.cell (p := ⟨g, o + j, none⟩) hg, b.frozen (p := ⟨g, o + j, none⟩) hg]; exact k.there j hj⟩
theorem TK.setByte {w : World} {g o : Nat} {h : Int} {wd : Bool} {s : Eight} {half : Nat → Int} {fed : Nat} (k : TK w g o h wd s half fed) (u : Nat) (x : Int) (hu : u < 128) :
  TK (w.setCell ⟨g, o + 10 + u, none⟩ (.int .u8 x)) g o h wd s (fun i => if i = u then x else half i) fed ∧ Touch w (w.setCell ⟨g, o + 10 + u, none⟩ (.int .u8 x)) g o 139 := by
 have hx := k.setHalf u [x] (by simp; omega)
 refine ⟨?_, hx.2⟩
 have e : (fun i => if u ≤ i ∧ i < u + [x].length then [x].getD (i - u) 0 else half i) = fun i => if i = u then x else half i := by
  funext i
  by_cases hi : i = u
  ·subst hi; simp
  ·rw [if_neg (by simp; omega), if_neg hi]
 rw [e] at hx
 exact hx.1
theorem TK.clear {w : World} {g o : Nat} {h : Int} {wd : Bool} {s : Eight} {half : Nat → Int} {fed : Nat} (k : TK w g o h wd s half fed) (u n : Nat) (hu : u + n ≤ 128) :
  TK (w.setCells g (o + 10 + u) (List.replicate n (.int .u8 0))) g o h wd s (fun i => if u ≤ i ∧ i < u + n then 0 else half i) fed ∧ Touch w (w.setCells g (o + 10 + u) (List.replicate n (.int .u8 0))) g o 139 := by
 have hx := k.setHalf u (List.replicate n 0) (by simp; omega)
 have e1 : cellsU8 (List.replicate n 0) = List.replicate n (.int .u8 0) := by simp [cellsU8]
 rw [e1] at hx
 refine ⟨?_, hx.2⟩
 have e : (fun i => if u ≤ i ∧ i < u + (List.replicate n (0 : Int)).length then (List.replicate n (0 : Int)).getD (i - u) 0 else half i) = fun i => if u ≤ i ∧ i < u + n then 0 else half i := by
  funext i
  by_cases hi : u ≤ i ∧ i < u + n
  ·rw [if_pos (by simpa using hi), if_pos hi]
   simp only [List.getD, List.getElem?_replicate]
   split <;> rfl
  ·rw [if_neg (by simpa using hi), if_neg hi]
 rw [e] at hx
 exact hx.1
theorem TK.fun_eq {w : World} {g o : Nat} {h : Int} {wd : Bool} {s : Eight} {half half' : Nat → Int} {fed : Nat} (k : TK w g o h wd s half fed) (e : ∀ i, i < 128 → half i = half' i) : TK w g o h wd s half' fed :=
 ⟨k.hash, k.fn, k.st, fun i hi => by rw [← e i hi]; exact k.half i hi, k.fed, k.there⟩
theorem TK.newer {w : World} {g o : Nat} {h : Int} {wd : Bool} {s : Eight} {half : Nat → Int} {fed b : Nat} (k : TK w g o h wd s half fed) (hb : g ≠ b) (vs : List Value) (o' : Nat) : TK (w.setCells b o' vs) g o h wd s half fed := by
 have ho : ∀ p : Addr, p.block = g → (w.setCells b o' vs).cell? p = w.cell? p := fun p hp => World.cell?_setCells_out b vs o' w p (fun e _ => absurd (hp.symm.trans e) hb)
 exact ⟨by rw [ho _ rfl]; exact k.hash, by rw [ho _ rfl]; exact k.fn, fun j v hv => by rw [ho _ rfl]; exact k.st j v hv, fun i hi => by rw [ho _ rfl]; exact k.half i hi, by rw [ho _ rfl]; exact k.fed, World.there_setCells k.there b o' vs⟩
theorem touch_new {w v : World} {g o n : Nat} (h : Touch w v g o n) {b : Nat} (hb : w.heap.size ≤ b) (vs : List Value) (o' : Nat) (hg : g < w.heap.size) : Touch w (v.setCells b o' vs) g o n :=
 ⟨by rw [setCells_os]; exact h.os, by rw [setCells_tape]; exact h.tape, by rw [setCells_output]; exact h.output, by rw [size_setCells]; exact h.size,
  fun k hk hne => by rw [World.heap_setCells_other v b o' vs (by have := h.size; omega) (by omega)]; exact h.block k hk hne,
  fun j hj => by rw [World.cell?_setCells_out b vs o' v ⟨g, j, none⟩ (fun e _ => absurd e (by simp; omega))]; exact h.cell j hj,
  fun o2 n2 ht => World.there_setCells (h.there o2 n2 ht) b o' vs⟩
theorem zero5 (w : World) : (zeroValue 5).run Tryz.prog w = .ok (.int .u8 0) w := by kernel_rfl
theorem clear_eq (w : World) (ty : TypeId) (g o n c : Nat) (ht : w.there g o n) : (Builtin.clear_ #[24] ty #[.slice (some ⟨g, o, none⟩) n c]).run Tryz.prog w = .ok (.tuple #[]) (w.setCells g o (List.replicate n (.int .u8 0))) := by
 by_cases hn : n = 0
 ·subst hn
  simp [Builtin.clear_, World.setCells, run_underlying Tryz.underlying24]
 ·exact Go.Lib.run_clear_slice w 24 5 ty (.int .u8 0) Tryz.underlying24 (fun w => zero5 w) rfl rfl g o n c (by omega) (fun j hj => (ht j hj).1) (fun j hj => (ht j hj).2)
/-- How many blocks the bytes that are left and the padding make. -/
def padN (bs fed : Nat) : Nat := if fed % bs + 1 ≤ bs - bs / 8 then 1 else 2
def padF (bs : Nat) (half : Nat → Int) (fed : Nat) (i : Nat) : Int :=
 if i < fed % bs then half i else if i = fed % bs then 128 else if i + 8 < padN bs fed * bs then 0 else ((fed : Int) * 8) / 2 ^ (8 * (padN bs fed * bs - 1 - i)) % 256
end Go.Proofs.YtcnikfikpnnblaaGreatDoor.Dg
namespace Go.Proofs.YtcnikfikpnnblaaGreatDoor
open Go.RowKit
set_option linter.unusedVariables false
/-- The bytes of a word, the highest first. -/
def btn (x : Nat) : Nat → Nat
 | 0 => bt0 x
 | 1 => bt1 x
 | 2 => bt2 x
 | _ => bt3 x
theorem btn0 (x : Nat) : btn x 0 = bt0 x := rfl
theorem btn1 (x : Nat) : btn x 1 = bt1 x := rfl
theorem btn2 (x : Nat) : btn x 2 = bt2 x := rfl
theorem btn3 (x : Nat) : btn x 3 = bt3 x := rfl
theorem btn_lt (x j : Nat) : btn x j < 256 := by
 unfold btn
 split <;> first | exact bt0_lt x | exact bt1_lt x | exact bt2_lt x | exact bt3_lt x
/-- A schedule's bytes, one behind the other. -/
def rb (K : Nat → Nat) (j : Nat) : Nat := btn (K (j / 4)) (j % 4)
theorem rb_lt (K : Nat → Nat) (j : Nat) : rb K j < 256 := btn_lt _ _
theorem rb_at (K : Nat → Nat) (i : Nat) : rb K (4 * i) = bt0 (K i) ∧ rb K (4 * i + 1) = bt1 (K i) ∧ rb K (4 * i + 2) = bt2 (K i) ∧ rb K (4 * i + 3) = bt3 (K i) := by
 refine ⟨?_, ?_, ?_, ?_⟩ <;> unfold rb
 ·rw [show 4 * i / 4 = i by omega, show 4 * i % 4 = 0 by omega]; exact btn0 _
 ·rw [show (4 * i + 1) / 4 = i by omega, show (4 * i + 1) % 4 = 1 by omega]; rfl
 ·rw [show (4 * i + 2) / 4 = i by omega, show (4 * i + 2) % 4 = 2 by omega]; rfl
 ·rw [show (4 * i + 3) / 4 = i by omega, show (4 * i + 3) % 4 = 3 by omega]; rfl
theorem rb_wd (K : Nat → Nat) (i : Nat) (h : K i < 4294967296) : wd (rb K (4 * i)) (rb K (4 * i + 1)) (rb K (4 * i + 2)) (rb K (4 * i + 3)) = K i := by
 obtain ⟨a, b, c, d⟩ := rb_at K i
 rw [a, b, c, d]
 exact wd_bt h
theorem goW_old (nk : Nat) (K0 : Nat → Nat) : ∀ m j, j < nk → goW nk K0 m j = K0 j
 | 0, j, _ => rfl
 | m + 1, j, h => by
  unfold goW upd
  rw [if_neg (by omega)]
  exact goW_old nk K0 m j h
theorem goW_stay (nk : Nat) (K0 : Nat → Nat) (m : Nat) : ∀ d j, j < nk + m → goW nk K0 (m + d) j = goW nk K0 m j
 | 0, j, _ => rfl
 | d + 1, j, h => by
  show goW nk K0 (m + d + 1) j = _
  rw [goW]
  unfold upd
  rw [if_neg (by omega)]
  exact goW_stay nk K0 m d j h
theorem goW_next (nk : Nat) (hn : 0 < nk) (K0 : Nat → Nat) (M m : Nat) (h : m < M) : goW nk K0 M (nk + m) = nextW nk (nk + m) (goW nk K0 M) := by
 have e : M = m + 1 + (M - m - 1) := by omega
 have h1 : goW nk K0 M (nk + m) = nextW nk (nk + m) (goW nk K0 m) := by
  rw [e, goW_stay nk K0 (m + 1) _ _ (by omega), goW]
  unfold upd
  rw [if_pos rfl]
 rw [h1]
 unfold nextW
 have e2 : M = m + (M - m) := by omega
 have h2 : goW nk K0 M (nk + m - nk) = goW nk K0 m (nk + m - nk) := by rw [e2, goW_stay nk K0 m _ _ (by omega)]
 have h3 : goW nk K0 M (nk + m - 1) = goW nk K0 m (nk + m - 1) := by rw [e2, goW_stay nk K0 m _ _ (by omega)]
 rw [h2, h3]
theorem schedK_next (nk : Nat) (hn : 0 < nk) (key : Nat → Nat) (i : Nat) (h1 : nk ≤ i) (h2 : i < 4 * nk + 28) : schedK nk key i = nextW nk i (schedK nk key) := by
 have := goW_next nk hn (keyW key (4 * nk)) (3 * nk + 28) (i - nk) (by omega)
 rw [show nk + (i - nk) = i by omega] at this
 exact this
/-- The key's own words: four bytes each. -/
theorem keyW_part (key : Nat → Nat) (hk : ∀ i, key i < 256) (q : Nat) : ∀ i,
  (i ≤ 4 * q → keyW key i q = 0) ∧ (i = 4 * q + 1 → keyW key i q = key (4 * q)) ∧ (i = 4 * q + 2 → keyW key i q = key (4 * q) * 256 + key (4 * q + 1)) ∧ (i = 4 * q + 3 → keyW key i q = (key (4 * q) * 256 + key (4 * q + 1)) * 256 + key (4 * q + 2)) ∧ (4 * q + 4 ≤ i → keyW key i q = wd (key (4 * q)) (key (4 * q + 1)) (key (4 * q + 2)) (key (4 * q + 3))) := by
 intro i
 induction i with
 | zero => exact ⟨fun _ => rfl, by omega, by omega, by omega, by omega⟩
 | succ i ih =>
  obtain ⟨a0, a1, a2, a3, a4⟩ := ih
  have k0 := hk (4 * q)
  have k1 := hk (4 * q + 1)
  have k2 := hk (4 * q + 2)
  have k3 := hk (4 * q + 3)
  refine ⟨fun h => ?_, fun h => ?_, fun h => ?_, fun h => ?_, fun h => ?_⟩ <;> unfold keyW upd
  ·rw [if_neg (by omega)]; exact a0 (by omega)
  ·obtain rfl : i = 4 * q := by omega
   rw [if_pos (by omega), show 4 * q / 4 = q by omega, a0 (by omega)]; omega
  ·obtain rfl : i = 4 * q + 1 := by omega
   rw [if_pos (by omega), show (4 * q + 1) / 4 = q by omega, a1 rfl]; omega
  ·obtain rfl : i = 4 * q + 2 := by omega
   rw [if_pos (by omega), show (4 * q + 2) / 4 = q by omega, a2 rfl]; omega
  ·by_cases h3 : i = 4 * q + 3
   ·subst h3
    rw [if_pos (by omega), show (4 * q + 3) / 4 = q by omega, a3 rfl]; unfold wd; omega
   ·rw [if_neg (by omega)]; exact a4 (by omega)
theorem rb_key (nk : Nat) (key : Nat → Nat) (hk : ∀ i, key i < 256) (j : Nat) (h : j < 4 * nk) : rb (schedK nk key) j = key j := by
 have h1 : schedK nk key (j / 4) = wd (key (4 * (j / 4))) (key (4 * (j / 4) + 1)) (key (4 * (j / 4) + 2)) (key (4 * (j / 4) + 3)) := by
  unfold schedK
  rw [goW_old nk _ _ _ (by omega)]
  exact (keyW_part key hk (j / 4) (4 * nk)).2.2.2.2 (by omega)
 obtain ⟨b0, b1, b2, b3⟩ := bt_wd (hk (4 * (j / 4))) (hk (4 * (j / 4) + 1)) (hk (4 * (j / 4) + 2)) (hk (4 * (j / 4) + 3))
 unfold rb
 rw [h1]
 have hm : j % 4 = 0 ∨ j % 4 = 1 ∨ j % 4 = 2 ∨ j % 4 = 3 := by omega
 rcases hm with e | e | e | e <;> rw [e]
 ·rw [btn0, b0]; exact congrArg key (by omega)
 ·rw [btn1, b1]; exact congrArg key (by omega)
 ·rw [btn2, b2]; exact congrArg key (by omega)
 ·rw [btn3, b3]; exact congrArg key (by omega)
/-- The round constants as powers. -/
def rcP : Nat → Nat
 | 0 => 1
 | m + 1 => tmsN 8 0 (rcP m) 2
theorem rcP_lt : ∀ m, rcP m < 256
 | 0 => by decide
 | m + 1 => times_lt (rcP_lt m) (by decide)
theorem rcP_rc : ∀ m : Fin 10, rcP m.1 = rcT m.1 := by decide +kernel
/-- What the word behind is added with: four bytes. -/
def tB (nk i : Nat) (K : Nat → Nat) (c : Nat) : Nat :=
 if i % nk = 0 then Nat.xor (SB (rb K (4 * i - 4 + (c + 1) % 4))) (if c = 0 then rcP ((i - 1) / nk) else 0)
 else if nk = 8 ∧ i % 8 = 4 then SB (rb K (4 * i - 4 + c)) else rb K (4 * i - 4 + c)
theorem xor_zero8 (a : Nat) : Nat.xor a 0 = a := Nat.xor_zero a
theorem tB_lt (nk i : Nat) (K : Nat → Nat) (c : Nat) : tB nk i K c < 256 := by
 unfold tB
 split
 ·split
  ·exact xor_lt8 (SB_lt _) (rcP_lt _)
  ·rw [xor_zero8]; exact SB_lt _
 ·split
  ·exact SB_lt _
  ·exact rb_lt _ _
theorem next_tB (nk i : Nat) (hnk : nk = 4 ∨ nk = 6 ∨ nk = 8) (h1 : nk ≤ i) (h2 : i < 4 * nk + 28) (K : Nat → Nat) (hK : ∀ j, K j < 4294967296) : nextW nk i K = Nat.xor (K (i - nk)) (wd (tB nk i K 0) (tB nk i K 1) (tB nk i K 2) (tB nk i K 3)) := by
 have hi : 1 ≤ i := by omega
 obtain ⟨p, hp⟩ : ∃ p, i = p + 1 := ⟨i - 1, by omega⟩
 subst hp
 obtain ⟨r0, r1, r2, r3⟩ := rb_at K p
 have e0 : 4 * (p + 1) - 4 = 4 * p := by omega
 unfold nextW
 congr 1
 simp only [tB, e0, Nat.add_sub_cancel]
 by_cases hz : (p + 1) % nk = 0
 ·have hc : rcT ((p + 1) / nk - 1) = rcP (p / nk) := by
   have hq : (p + 1) / nk - 1 = p / nk ∧ p / nk < 10 := by rcases hnk with rfl | rfl | rfl <;> omega
   rw [hq.1]
   exact (rcP_rc ⟨p / nk, hq.2⟩).symm
  have hcl := rcP_lt (p / nk)
  rw [if_pos hz, if_pos hz, if_pos hz, if_pos hz, if_pos hz, hc]
  simp only [if_true, show (1 = 0) = False by simp, show (2 = 0) = False by simp, show (3 = 0) = False by simp, if_false, xor_zero8, show (0 + 1) % 4 = 1 from rfl, show (1 + 1) % 4 = 2 from rfl, show (2 + 1) % 4 = 3 from rfl, show (3 + 1) % 4 = 0 from rfl, Nat.add_zero, r0, r1, r2, r3]
  obtain ⟨b0, b1, b2, b3⟩ := bt_wd (bt1_lt (K p)) (bt2_lt (K p)) (bt3_lt (K p)) (bt0_lt (K p))
  have hs : subw (rotw (K p)) = wd (SB (bt1 (K p))) (SB (bt2 (K p))) (SB (bt3 (K p))) (SB (bt0 (K p))) := by
   unfold subw lastw rotw
   rw [b0, b1, b2, b3]
  have hr : rcP (p / nk) * 16777216 = wd (rcP (p / nk)) 0 0 0 := by unfold wd; omega
  rw [hs, hr, wd_xor _ _ _ _ _ _ _ _ (SB_lt _) (SB_lt _) (SB_lt _) (by decide) (by decide) (by decide), xor_zero8, xor_zero8, xor_zero8]
 ·rw [if_neg hz, if_neg hz, if_neg hz, if_neg hz, if_neg hz]
  simp only [Nat.add_zero, r0, r1, r2, r3]
  by_cases h8 : nk = 8 ∧ (p + 1) % 8 = 4
  ·rw [if_pos h8, if_pos h8, if_pos h8, if_pos h8, if_pos h8]
   rfl
  ·rw [if_neg h8, if_neg h8, if_neg h8, if_neg h8, if_neg h8]
   exact (wd_bt (hK p)).symm
theorem rb_next (nk : Nat) (hnk : nk = 4 ∨ nk = 6 ∨ nk = 8) (key : Nat → Nat) (hk : ∀ i, key i < 256) (i c : Nat) (h1 : nk ≤ i) (h2 : i < 4 * nk + 28) (hc : c < 4) :
  rb (schedK nk key) (4 * i + c) = Nat.xor (rb (schedK nk key) (4 * (i - nk) + c)) (tB nk i (schedK nk key) c) := by
 have hK := schedK_lt (nk := nk) hk
 have e := schedK_next nk (by omega) key i h1 h2
 rw [next_tB nk i hnk h1 h2 _ hK] at e
 generalize schedK nk key = K at *
 have a := wd_bt (hK (i - nk))
 rw [← a, wd_xor _ _ _ _ _ _ _ _ (bt1_lt _) (bt2_lt _) (bt3_lt _) (tB_lt _ _ _ _) (tB_lt _ _ _ _) (tB_lt _ _ _ _)] at e
 obtain ⟨b0, b1, b2, b3⟩ := bt_wd (xor_lt8 (bt0_lt (K (i - nk))) (tB_lt nk i K 0)) (xor_lt8 (bt1_lt (K (i - nk))) (tB_lt nk i K 1)) (xor_lt8 (bt2_lt (K (i - nk))) (tB_lt nk i K 2)) (xor_lt8 (bt3_lt (K (i - nk))) (tB_lt nk i K 3))
 obtain ⟨r0, r1, r2, r3⟩ := rb_at K i
 obtain ⟨s0, s1, s2, s3⟩ := rb_at K (i - nk)
 rw [← e] at b0 b1 b2 b3
 have hm : c = 0 ∨ c = 1 ∨ c = 2 ∨ c = 3 := by omega
 rcases hm with rfl | rfl | rfl | rfl
 ·rw [Nat.add_zero, Nat.add_zero, r0, s0]; exact b0
 ·rw [r1, s1]; exact b1
 ·rw [r2, s2]; exact b2
 ·rw [r3, s3]; exact b3
end Go.Proofs.YtcnikfikpnnblaaGreatDoor
