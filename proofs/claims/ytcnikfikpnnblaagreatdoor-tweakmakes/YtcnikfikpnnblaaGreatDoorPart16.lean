import Derived.Test.YtcnikfikpnnblaaGreatDoorPart15
import Derived.Deep.CutRange
import Derived.Test.YtcnikfikpnnblaaGreatDoorPart14
namespace Go.Proofs.YtcnikfikpnnblaaGreatDoor
open Go.RowKit
set_option linter.unusedVariables false
/-- A cipher's cells, by place. -/
def cipC (nr : Nat) (K : Nat → Nat) (j : Nat) : Value :=
 if j = 0 then .int .i64 (nr : Nat) else if j < 61 then .int .u32 (K (j - 1) : Nat) else if j < 317 then .int .u8 (SB (j - 61) : Nat) else if j < 573 then .int .u8 (UB (j - 317) : Nat)
 else if j < 829 then .int .u32 (MX (j - 573) : Nat) else .int .u32 (UX (j - 829) : Nat)
def cipL (nr : Nat) (K : Nat → Nat) : List Value := (List.range 1085).map (cipC nr K)
theorem cipL_length (nr : Nat) (K : Nat → Nat) : (cipL nr K).length = 1085 := by simp [cipL]
theorem cipL_at (nr : Nat) (K : Nat → Nat) {j : Nat} (h : j < 1085) : (cipL nr K)[j]? = some (cipC nr K j) := by simp [cipL, h]
theorem cipC_one (nr : Nat) (K : Nat → Nat) (j : Nat) : (cipC nr K j).oneCell' = true := by
 unfold cipC
 repeat' split
 all_goals rfl
theorem cipL_one (nr : Nat) (K : Nat → Nat) : (cipL nr K).toArray.all (·.oneCell') = true := all_oneCell_toArray (fun v hv => by
 simp only [cipL, List.mem_map] at hv
 obtain ⟨j, _, rfl⟩ := hv
 exact cipC_one nr K j)
theorem cipL_range {w : World} {g o nr : Nat} {K : Nat → Nat} (h0 : w.cell? ⟨g, o, none⟩ = some (.int .i64 (nr : Nat))) (hw : ∀ i, i < 60 → w.cell? ⟨g, o + 1 + i, none⟩ = some (.int .u32 (K i : Nat))) (ht : Tab w g o) : w.rangeAt g o (cipL nr K) := fun j v hv => by
 have hj : j < 1085 := by
  have := (List.getElem?_eq_some_iff.1 hv).1
  rw [cipL_length] at this
  exact this
 rw [cipL_at nr K hj] at hv
 obtain rfl := Option.some.inj hv
 unfold cipC
 by_cases h1 : j = 0
 ·rw [if_pos h1, h1]; exact h0
 rw [if_neg h1]
 by_cases h2 : j < 61
 ·rw [if_pos h2]; have := hw (j - 1) (by omega); rw [show o + 1 + (j - 1) = o + j by omega] at this; exact this
 rw [if_neg h2]
 by_cases h3 : j < 317
 ·rw [if_pos h3]; have := ht.s (j - 61) (by omega); rw [show o + 61 + (j - 61) = o + j by omega] at this; exact this
 rw [if_neg h3]
 by_cases h4 : j < 573
 ·rw [if_pos h4]; have := ht.u (j - 317) (by omega); rw [show o + 317 + (j - 317) = o + j by omega] at this; exact this
 rw [if_neg h4]
 by_cases h5 : j < 829
 ·rw [if_pos h5]; have := ht.m (j - 573) (by omega); rw [show o + 573 + (j - 573) = o + j by omega] at this; exact this
 rw [if_neg h5]
 have := ht.n (j - 829) (by omega)
 rw [show o + 829 + (j - 829) = o + j by omega] at this
 exact this
theorem ciph_of_range {w : World} {g o nr : Nat} {K : Nat → Nat} (h : w.rangeAt g o (cipL nr K)) (hg : g < w.heap.size) (h1 : 1 ≤ nr) (h14 : nr ≤ 14) (hK : ∀ i, K i < 4294967296) : Ciph w g o nr K := by
 have e : ∀ j, j < 1085 → w.cell? ⟨g, o + j, none⟩ = some (cipC nr K j) := fun j hj => h j _ (cipL_at nr K hj)
 refine ⟨?_, fun i hi => ?_, hK, ⟨fun b hb => ?_, fun b hb => ?_, fun b hb => ?_, fun b hb => ?_⟩, hg, h1, h14⟩
 ·exact e 0 (by omega)
 ·have := e (1 + i) (by omega)
  rw [← Nat.add_assoc] at this
  rw [this]
  unfold cipC
  rw [if_neg (by omega), if_pos (by omega), show 1 + i - 1 = i by omega]
 ·have := e (61 + b) (by omega)
  rw [← Nat.add_assoc] at this
  rw [this]
  unfold cipC
  rw [if_neg (by omega), if_neg (by omega), if_pos (by omega), show 61 + b - 61 = b by omega]
 ·have := e (317 + b) (by omega)
  rw [← Nat.add_assoc] at this
  rw [this]
  unfold cipC
  rw [if_neg (by omega), if_neg (by omega), if_neg (by omega), if_pos (by omega), show 317 + b - 317 = b by omega]
 ·have := e (573 + b) (by omega)
  rw [← Nat.add_assoc] at this
  rw [this]
  unfold cipC
  rw [if_neg (by omega), if_neg (by omega), if_neg (by omega), if_neg (by omega), if_pos (by omega), show 573 + b - 573 = b by omega]
 ·have := e (829 + b) (by omega)
  rw [← Nat.add_assoc] at this
  rw [this]
  unfold cipC
  rw [if_neg (by omega), if_neg (by omega), if_neg (by omega), if_neg (by omega), if_neg (by omega), show 829 + b - 829 = b by omega]
/-- The schedule. -/
def upd (f : Nat → Nat) (i v : Nat) : Nat → Nat := fun j => if j = i then v else f j
def subw (x : Nat) : Nat := lastw x x x x
def rotw (x : Nat) : Nat := wd (bt1 x) (bt2 x) (bt3 x) (bt0 x)
def rcT (i : Nat) : Nat := Nat.mod (Nat.shiftRight 255515093586639589736961 (Nat.mul 8 i)) 256
def nextW (nk i : Nat) (K : Nat → Nat) : Nat :=
 Nat.xor (K (i - nk)) (if i % nk = 0 then Nat.xor (subw (rotw (K (i - 1)))) (rcT (i / nk - 1) * 16777216) else if nk = 8 ∧ i % 8 = 4 then subw (K (i - 1)) else K (i - 1))
def keyW (key : Nat → Nat) : Nat → Nat → Nat
 | 0 => fun _ => 0
 | i + 1 => upd (keyW key i) (i / 4) (keyW key i (i / 4) * 256 % 4294967296 + key i)
def goW (nk : Nat) (K : Nat → Nat) : Nat → Nat → Nat
 | 0 => K
 | m + 1 => upd (goW nk K m) (nk + m) (nextW nk (nk + m) (goW nk K m))
/-- The words of a key of 4 nk bytes. -/
def schedK (nk : Nat) (key : Nat → Nat) : Nat → Nat := goW nk (keyW key (4 * nk)) (3 * nk + 28)
theorem keyW_lt {key : Nat → Nat} (hk : ∀ i, key i < 256) : ∀ i j, keyW key i j < 4294967296
 | 0, j => by show 0 < _; decide
 | i + 1, j => by
  unfold keyW upd
  have := hk i
  split
  ·omega
  ·exact keyW_lt hk i j
theorem rcT_lt (i : Nat) : rcT i < 256 := Nat.mod_lt _ (by decide)
theorem subw_lt (x : Nat) : subw x < 4294967296 := lastw_lt _ _ _ _
theorem nextW_lt {nk i : Nat} {K : Nat → Nat} (hK : ∀ j, K j < 4294967296) : nextW nk i K < 4294967296 := by
 unfold nextW
 refine xor_lt32 (hK _) ?_
 have := rcT_lt (i / nk - 1)
 split
 ·exact xor_lt32 (subw_lt _) (by omega)
 ·split
  ·exact subw_lt _
  ·exact hK _
theorem goW_lt {nk : Nat} {K : Nat → Nat} (hK : ∀ j, K j < 4294967296) : ∀ m j, goW nk K m j < 4294967296
 | 0, j => hK j
 | m + 1, j => by
  unfold goW upd
  split
  ·exact nextW_lt (goW_lt hK m)
  ·exact goW_lt hK m j
theorem schedK_lt {nk : Nat} {key : Nat → Nat} (hk : ∀ i, key i < 256) (j : Nat) : schedK nk key j < 4294967296 := goW_lt (keyW_lt hk _) _ j
/-- What stands while a key is scheduled in block B + 1. -/
structure SchAt (w : World) (nr : Nat) (K : Nat → Nat) (u : World) : Prop where
 old : Below w.heap.size w u
 size : w.heap.size + 2 ≤ u.heap.size
 res : u.there w.heap.size 0 1085
 room : u.there (w.heap.size + 1) 0 1085
 rounds : u.cell? ⟨w.heap.size + 1, 0, none⟩ = some (.int .i64 (nr : Nat))
 words : ∀ j, j < 60 → u.cell? ⟨w.heap.size + 1, 1 + j, none⟩ = some (.int .u32 (K j : Nat))
theorem SchAt.touch {w u u' : World} {nr : Nat} {K : Nat → Nat} (h : SchAt w nr K u) (ht : Touch u u' (w.heap.size + 1) 61 1024) : SchAt w nr K u' := by
 have hs := h.size
 refine ⟨h.old.trans (ht.toBelow (Nat.le_succ _) h.old.size), Nat.le_trans h.size ht.size, ?_, ht.there _ _ h.room, (ht.cell 0 (by omega)).trans h.rounds, fun j hj => (ht.cell (1 + j) (by omega)).trans (h.words j hj)⟩
 intro j hj
 have := h.res j hj
 rw [ht.far (p := ⟨w.heap.size, 0 + j, none⟩) (show w.heap.size < _ by omega) (show w.heap.size ≠ _ by omega), ht.farFrozen (p := ⟨w.heap.size, 0 + j, none⟩) (show w.heap.size < _ by omega) (show w.heap.size ≠ _ by omega)]
 exact this
theorem SchAt.set {w u : World} {nr : Nat} {K : Nat → Nat} (h : SchAt w nr K u) (i v : Nat) (hi : i < 60) : SchAt w nr (upd K i v) (u.setCell ⟨w.heap.size + 1, 1 + i, none⟩ (.int .u32 (v : Nat))) := by
 refine ⟨h.old.setCell (Nat.le_succ _) _, ?_, World.there_setCells h.res _ _ [_], World.there_setCells h.room _ _ [_], ?_, fun j hj => ?_⟩
 ·have := h.size; simpa [World.setCell] using this
 ·rw [cell_other _ _ _ _ _ (by omega)]; exact h.rounds
 ·unfold upd
  by_cases hji : j = i
  ·subst hji
   rw [if_pos rfl]
   have := h.room (1 + j) (by omega)
   simp only [Nat.zero_add] at this
   exact World.cell?_setCell_same' _ _ _ this.1
  ·rw [if_neg hji, cell_other _ _ _ _ _ (by omega)]
   exact h.words j hj
theorem SchAt.drewN {w u : World} {nr : Nat} {K : Nat → Nat} (h : SchAt w nr K u) (m : Nat) : SchAt w nr K (u.drewN m) := ⟨Below.drewN h.old m, h.size, h.res, h.room, h.rounds, h.words⟩
theorem Tab.set {u : World} {g i : Nat} (h : Tab u g 0) (v : Value) (hi : i < 61) : Tab (u.setCell ⟨g, i, none⟩ v) g 0 :=
 ⟨fun b hb => by rw [cell_other _ _ _ _ _ (by omega)]; exact h.s b hb, fun b hb => by rw [cell_other _ _ _ _ _ (by omega)]; exact h.u b hb, fun b hb => by rw [cell_other _ _ _ _ _ (by omega)]; exact h.m b hb, fun b hb => by rw [cell_other _ _ _ _ _ (by omega)]; exact h.n b hb⟩
theorem Tab.drewN {u : World} {g o : Nat} (h : Tab u g o) (m : Nat) : Tab (u.drewN m) g o := ⟨h.s, h.u, h.m, h.n⟩
/-- replace: S of each byte of a word. -/
theorem replace_ok (g o x : Nat) (w : World) (hT : Tab w g o) : Calls Tryz.prog 107 #[.pointer (some ⟨g, o, none⟩), .int .u32 (x : Nat)] w fun e w' => e = .returned (.int .u32 (subw x : Nat)) ∧ ∃ m, w' = w.drewN m := by
 obtain ⟨y, HY⟩ : ∃ y, Hid (y = subw x) := ⟨_, rfl⟩
 have K1 : Hid (Calls Tryz.prog 120 #[.pointer (some ⟨g, o, none⟩), .int .u32 (x : Nat), .int .u32 (x : Nat), .int .u32 (x : Nat), .int .u32 (x : Nat)] w fun e w' => e = .returned (.int .u32 (y : Nat)) ∧ ∃ m, w' = w.drewN m) := by
  rw [HY.out]
  exact last_ok g o x x x x _ _ _ _ w (bt0_lt x) (bt1_lt x) (bt2_lt x) (bt3_lt x) (int_bt0 x) (int_bt1 x) (int_bt2 x) (int_bt3 x) hT
 rw [← HY.out]
 clear hT
 go_enter Tryz.func107, Tryz.ntmps107
 go_wp2_with (first | (go_at_call 120; refine K1.out.mono ?_))
 rintro e1 w1 ⟨rfl, m, hw⟩
 go_wp2
 go_ret
 exact ⟨rfl, m, rfl⟩
theorem wordCount_ok (g o nr : Nat) (w : World) (h : w.cell? ⟨g, o, none⟩ = some (.int .i64 (nr : Nat))) (hn : nr ≤ 14) : Calls Tryz.prog 106 #[.pointer (some ⟨g, o, none⟩)] w fun e w' => e = .returned (.int .i64 (4 * (nr + 1) : Nat)) ∧ w' = w := by
 go_enter Tryz.func106, Tryz.ntmps106
 go_wp2
 go_ret
 exact ⟨ret_int (by omega), rfl⟩
end Go.Proofs.YtcnikfikpnnblaaGreatDoor
namespace Go.Proofs.YtcnikfikpnnblaaGreatDoor.Dg
open Go.RowKit
set_option linter.unusedVariables false
set_option linter.unusedSimpArgs false

/-- A list's numbers, as a function. -/
def fnz (zs : List Int) (i : Nat) : Int := zs.getD i 0
theorem fnz_left (zs ys : List Int) (i : Nat) (h : i < zs.length) : fnz (zs ++ ys) i = fnz zs i := by
 simp [fnz, List.getD, List.getElem?_append_left h]
theorem fnz_right (zs ys : List Int) (i : Nat) : fnz (zs ++ ys) (zs.length + i) = fnz ys i := by
 simp [fnz, List.getD, List.getElem?_append_right (Nat.le_add_right _ _)]
theorem fnz_take (ys : List Int) (k i : Nat) (h : i < k) : fnz (ys.take k) i = fnz ys i := by
 simp [fnz, List.getD, List.getElem?_take, h]
theorem fnz_drop (ys : List Int) (k i : Nat) : fnz (ys.drop k) i = fnz ys (k + i) := by
 simp [fnz, List.getD]

/-- A taken that began with the words s0 (f0 bytes were counted ahead) and was fed zs. -/
def Rep (w : World) (g o : Nat) (h : Int) (wd : Bool) (s0 : Eight) (f0 : Nat) (zs : List Int) : Prop :=
 ∃ half, TK w g o h wd (TT wd (fnz zs) s0 (zs.length / bsz wd)) half (f0 + zs.length) ∧ (∀ i, i < zs.length % bsz wd → half i = fnz zs (bsz wd * (zs.length / bsz wd) + i)) ∧ f0 % bsz wd = 0

theorem add_few_any (wd : Bool) (g o : Nat) (h : Int) (s : Eight) (half : Nat → Int) (fed n used cap b p : Nat) (zs : List Int) (w : World) (hblk : blockOf h = bsz wd) (HK : TK w g o h wd s half fed) (hn : zs.length = n) (hfn : fed + n ≤ 4611686018427387904)
  (hv : View w (.slice (some ⟨b, p, none⟩) n cap) zs) (hsep : Apart (.slice (some ⟨b, p, none⟩) n cap) g o 139) (hg : 9 ≤ g) (h0 : fed % bsz wd = used) (hu0 : 0 < used) (hu1 : used + n < bsz wd) :
  Calls Tryz.prog 264 #[.pointer (some ⟨g, o, none⟩), .slice (some ⟨b, p, none⟩) n cap] w fun e w' => e = .returned (.tuple #[]) ∧ Touch w w' g o 139 ∧ TK w' g o h wd s (fun i => if used ≤ i ∧ i < used + zs.length then zs.getD (i - used) 0 else half i) (fed + n) := by
 cases wd
 ·exact add_few64 g o h s half fed n used cap b p zs w hblk HK hn hfn hv hsep hg h0 hu0 hu1
 ·exact add_few128 g o h s half fed n used cap b p zs w hblk HK hn hfn hv hsep hg h0 hu0 hu1
theorem add_zero_any (wd : Bool) (g o : Nat) (h : Int) (s : Eight) (half : Nat → Int) (fed n wh cap b p : Nat) (zs : List Int) (w : World) (hblk : blockOf h = bsz wd) (HK : TK w g o h wd s half fed) (hn : zs.length = n) (hfn : fed + n ≤ 4611686018427387904)
  (hv : View w (.slice (some ⟨b, p, none⟩) n cap) zs) (hsep : Apart (.slice (some ⟨b, p, none⟩) n cap) g o 139) (hT : Tables w) (hg : 9 ≤ g) (h0 : fed % bsz wd = 0) (hq : n = wh + n % bsz wd) :
  Calls Tryz.prog 264 #[.pointer (some ⟨g, o, none⟩), .slice (some ⟨b, p, none⟩) n cap] w fun e w' => e = .returned (.tuple #[]) ∧ Touch w w' g o 139 ∧ TK w' g o h wd (TT wd (fnz (zs.take wh)) s (wh / bsz wd)) (fun i => if 0 ≤ i ∧ i < 0 + (zs.drop wh).length then (zs.drop wh).getD (i - 0) 0 else half i) (fed + n) := by
 cases wd
 ·exact add_zero64 g o h s half fed n wh cap b p zs w hblk HK hn hfn hv hsep hT hg h0 hq
 ·exact add_zero128 g o h s half fed n wh cap b p zs w hblk HK hn hfn hv hsep hT hg h0 hq
theorem add_many_any (wd : Bool) (g o : Nat) (h : Int) (s : Eight) (half : Nat → Int) (fed k n wh used cap b p : Nat) (zs : List Int) (w : World) (hblk : blockOf h = bsz wd) (HK : TK w g o h wd s half fed) (hn : zs.length = k + n) (hfn : fed + (k + n) ≤ 4611686018427387904)
  (hv : View w (.slice (some ⟨b, p, none⟩) (k + n) (k + cap)) zs) (hsep : Apart (.slice (some ⟨b, p, none⟩) (k + n) (k + cap)) g o 139) (hT : Tables w) (hg : 9 ≤ g) (h0 : fed % bsz wd = used) (hu0 : 0 < used) (hu1 : used + k = bsz wd) (hq : n = wh + n % bsz wd) :
  Calls Tryz.prog 264 #[.pointer (some ⟨g, o, none⟩), .slice (some ⟨b, p, none⟩) (k + n) (k + cap)] w fun e w' => e = .returned (.tuple #[]) ∧ Touch w w' g o 139 ∧ ∃ s1, s1 = TT wd (fun i => if used ≤ i ∧ i < used + (zs.take k).length then (zs.take k).getD (i - used) 0 else half i) s 1 ∧
   TK w' g o h wd (TT wd (fnz ((zs.drop k).take wh)) s1 (wh / bsz wd)) (fun i => if 0 ≤ i ∧ i < 0 + ((zs.drop k).drop wh).length then ((zs.drop k).drop wh).getD (i - 0) 0 else (fun i => if used ≤ i ∧ i < used + (zs.take k).length then (zs.take k).getD (i - used) 0 else half i) i) (fed + (k + n)) := by
 cases wd
 ·exact add_many64 g o h s half fed k n wh used cap b p zs w hblk HK hn hfn hv hsep hT hg h0 hu0 hu1 hq
 ·exact add_many128 g o h s half fed k n wh used cap b p zs w hblk HK hn hfn hv hsep hT hg h0 hu0 hu1 hq
theorem add_empty_any (wd : Bool) (g o : Nat) (h : Int) (s : Eight) (half : Nat → Int) (fed cap : Nat) (a : Option Addr) (w : World) (hblk : blockOf h = bsz wd) (HK : TK w g o h wd s half fed) (hfn : fed ≤ 4611686018427387904) (hcm : cap ≤ 9223372036854775807) (ha : a = none → cap = 0) :
  Calls Tryz.prog 264 #[.pointer (some ⟨g, o, none⟩), .slice a 0 cap] w fun e w' => e = .returned (.tuple #[]) ∧ Touch w w' g o 139 ∧ TK w' g o h wd s half fed := by
 cases wd
 ·exact add_empty64 g o h s half fed cap a w hblk HK hfn hcm ha
 ·exact add_empty128 g o h s half fed cap a w hblk HK hfn hcm ha

/-- taken.add: what was fed before, and behind it the new bytes. -/
theorem add_rep (wd : Bool) (g o : Nat) (h : Int) (s0 : Eight) (f0 : Nat) (zs ys : List Int) (v : Value) (w : World) (hblk : blockOf h = bsz wd) (hr : Rep w g o h wd s0 f0 zs) (hv : View w v ys) (hap : Apart v g o 139) (hT : Tables w) (hg : 9 ≤ g) (hfn : f0 + zs.length + ys.length ≤ 4611686018427387904) :
  Calls Tryz.prog 264 #[.pointer (some ⟨g, o, none⟩), v] w fun e w' => e = .returned (.tuple #[]) ∧ Touch w w' g o 139 ∧ Rep w' g o h wd s0 f0 (zs ++ ys) := by
 obtain ⟨half, hk, hh, hf⟩ := hr
 have hb := bsz_pos wd
 have hvv := hv
 obtain ⟨a, cap, rfl, h1, h2, h3, h4⟩ := hv
 by_cases hys : ys = []
 ·subst hys
  refine (add_empty_any wd g o h _ half _ cap a w hblk hk (by simpa using hfn) (by unfold maxLen at h2; omega) h3).mono ?_
  rintro e w' ⟨rfl, ht, hk'⟩
  rw [List.append_nil]
  exact ⟨rfl, ht, half, hk', hh, hf⟩
 have hL : (zs ++ ys).length = zs.length + ys.length := by simp
 generalize hB : bsz wd = B at *
 generalize hn : ys.length = n at *
 generalize hl : zs.length = l at *
 rcases h4 with rfl | ⟨b, p, rfl, hc⟩
 ·exact absurd rfl hys
 have hZl : ∀ i, i < l → fnz (zs ++ ys) i = fnz zs i := fun i hi => fnz_left zs ys i (by omega)
 have hZr : ∀ i, fnz (zs ++ ys) (l + i) = fnz ys i := fun i => by rw [← hl]; exact fnz_right zs ys i
 have hlq : l = B * (l / B) + l % B := (Nat.div_add_mod l B).symm
 have hused : (f0 + l) % B = l % B := by
  obtain ⟨c, hc⟩ : ∃ c, f0 = B * c := ⟨f0 / B, by have := Nat.div_add_mod f0 B; omega⟩
  rw [hc, Nat.mul_add_mod]
 have hTq : ∀ s, TT wd (fnz (zs ++ ys)) s (l / B) = TT wd (fnz zs) s (l / B) := fun s => TT_congr wd s _ fun j hj => hZl j (by rw [hB] at hj; omega)
 have hul : l % B < B := Nat.mod_lt _ hb
 by_cases hu : l % B = 0
 ·have hnq : n = B * (n / B) + n % B := (Nat.div_add_mod n B).symm
  refine (add_zero_any wd g o h _ half (f0 + l) n (B * (n / B)) cap b p ys w (by rw [hB]; exact hblk) hk hn (by omega) hvv hap hT hg (by rw [hB, hused, hu]) (by rw [hB]; exact hnq)).mono ?_
  rintro e w' ⟨rfl, ht, hk'⟩
  have e1 : (l + n) / B = l / B + n / B := by
   rw [hlq, hu, Nat.add_zero, Nat.mul_add_div hb, Nat.mul_div_cancel_left _ hb]
  have e2 : (l + n) % B = n % B := by
   rw [hlq, hu, Nat.add_zero, Nat.mul_add_mod]
  refine ⟨rfl, ht, (fun i => if 0 ≤ i ∧ i < 0 + (ys.drop (B * (n / B))).length then (ys.drop (B * (n / B))).getD (i - 0) 0 else half i), ?_, ?_, by rw [hB]; exact hf⟩
  ·rw [hL, hB, e1, TT_add wd _ s0 (l / B) (n / B), hTq]
   rw [hB, Nat.mul_div_cancel_left _ hb, TT_congr wd (B' := fun k => fnz (zs ++ ys) (bsz wd * (l / B) + k)) _ (n / B) (fun j hj => by
    rw [hB] at hj ⊢
    rw [fnz_take ys _ j (by omega), show B * (l / B) + j = l + j by omega, hZr])] at hk'
   rw [show f0 + (l + n) = f0 + l + n by omega]
   exact hk'
  ·intro i hi
   dsimp only
   rw [hL, hB] at hi ⊢
   rw [e2] at hi
   rw [e1]
   have hdl : (ys.drop (B * (n / B))).length = n % B := by simp; omega
   rw [if_pos ⟨Nat.zero_le _, by omega⟩]
   have := fnz_drop ys (B * (n / B)) i
   rw [show B * (l / B + n / B) + i = l + (B * (n / B) + i) by rw [Nat.mul_add]; omega, hZr, ← this]
   rfl
 ·by_cases hfew : l % B + n < B
  ·refine (add_few_any wd g o h _ half (f0 + l) n (l % B) cap b p ys w (by rw [hB]; exact hblk) hk hn (by omega) hvv hap hg (by rw [hB, hused]) (by omega) (by rw [hB]; exact hfew)).mono ?_
   rintro e w' ⟨rfl, ht, hk'⟩
   have e1 : (l + n) / B = l / B := by
    have : l + n = B * (l / B) + (l % B + n) := by omega
    rw [this, Nat.mul_add_div hb, Nat.div_eq_of_lt hfew, Nat.add_zero]
   have e2 : (l + n) % B = l % B + n := by
    have : l + n = B * (l / B) + (l % B + n) := by omega
    rw [this, Nat.mul_add_mod, Nat.mod_eq_of_lt hfew]
   refine ⟨rfl, ht, (fun i => if l % B ≤ i ∧ i < l % B + ys.length then ys.getD (i - l % B) 0 else half i), ?_, ?_, by rw [hB]; exact hf⟩
   ·rw [hL, hB, e1, hTq, show f0 + (l + n) = f0 + l + n by omega]
    exact hk'
   ·intro i hi
    dsimp only
    rw [hL, hB] at hi ⊢
    rw [e2] at hi
    rw [e1]
    by_cases hil : l % B ≤ i
    ·rw [if_pos ⟨hil, by omega⟩, show B * (l / B) + i = l + (i - l % B) by omega, hZr]
     rfl
    ·rw [if_neg (by omega), hh i (by omega), hZl _ (by omega)]
  ·obtain ⟨k, hk0⟩ : ∃ k, k = B - l % B := ⟨_, rfl⟩
   obtain ⟨m, hm⟩ : ∃ m, n = k + m := ⟨n - k, by omega⟩
   obtain ⟨c, hcc⟩ : ∃ c, cap = k + c := ⟨cap - k, by omega⟩
   subst hm hcc
   have hnq : m = B * (m / B) + m % B := (Nat.div_add_mod m B).symm
   refine (add_many_any wd g o h _ half (f0 + l) k m (B * (m / B)) (l % B) c b p ys w (by rw [hB]; exact hblk) hk hn (by omega) hvv hap hT hg (by rw [hB, hused]) (by omega) (by rw [hB]; omega) (by rw [hB]; exact hnq)).mono ?_
   rintro e w' ⟨rfl, ht, s1, hs1, hk'⟩
   have e1 : (l + (k + m)) / B = l / B + 1 + m / B := by
    have : l + (k + m) = B * (l / B + 1) + m := by rw [Nat.mul_add]; omega
    rw [this, Nat.mul_add_div hb]
   have e2 : (l + (k + m)) % B = m % B := by
    have : l + (k + m) = B * (l / B + 1) + m := by rw [Nat.mul_add]; omega
    rw [this, Nat.mul_add_mod]
   have hlt : (ys.take k).length = k := by simp; omega
   have hs1' : s1 = TT wd (fnz (zs ++ ys)) s0 (l / B + 1) := by
    rw [hs1, TT_add wd _ s0 (l / B) 1, hTq]
    refine TT_congr wd _ 1 fun j hj => ?_
    rw [hB] at hj ⊢
    by_cases hjl : l % B ≤ j
    ·rw [if_pos ⟨hjl, by omega⟩, show B * (l / B) + j = l + (j - l % B) by omega, hZr]
     exact fnz_take ys k _ (by omega)
    ·rw [if_neg (by omega), hh j (by omega), hZl _ (by omega)]
   refine ⟨rfl, ht, (fun i => if 0 ≤ i ∧ i < 0 + ((ys.drop k).drop (B * (m / B))).length then ((ys.drop k).drop (B * (m / B))).getD (i - 0) 0 else (fun i => if l % B ≤ i ∧ i < l % B + (ys.take k).length then (ys.take k).getD (i - l % B) 0 else half i) i), ?_, ?_, by rw [hB]; exact hf⟩
   ·rw [hL, hB, e1, TT_add wd _ s0 (l / B + 1) (m / B), ← hs1']
    rw [hB, Nat.mul_div_cancel_left _ hb, TT_congr wd (B' := fun k => fnz (zs ++ ys) (bsz wd * (l / B + 1) + k)) _ (m / B) (fun j hj => by
     rw [hB] at hj ⊢
     rw [fnz_take _ _ j (by omega), fnz_drop, show B * (l / B + 1) + j = l + (k + j) by rw [Nat.mul_add]; omega, hZr])] at hk'
    rw [show f0 + (l + (k + m)) = f0 + l + (k + m) by omega]
    exact hk'
   ·intro i hi
    dsimp only
    rw [hL, hB] at hi ⊢
    rw [e2] at hi
    rw [e1]
    have hdl : ((ys.drop k).drop (B * (m / B))).length = m % B := by simp; omega
    rw [if_pos ⟨Nat.zero_le _, by omega⟩]
    have h5 := (fnz_drop (ys.drop k) (B * (m / B)) i).trans (fnz_drop ys k (B * (m / B) + i))
    rw [show B * (l / B + 1 + m / B) + i = l + (k + (B * (m / B) + i)) by rw [Nat.mul_add, Nat.mul_add]; omega, hZr, ← h5]
    rfl
end Go.Proofs.YtcnikfikpnnblaaGreatDoor.Dg
