import Derived.Test.YtcnikfikpnnblaaGreatDoorBlk
import Derived.Test.YtcnikfikpnnblaaGreatDoorPart03
import Derived.Test.YtcnikfikpnnblaaGreatDoorDgAdd
namespace Go.Proofs.YtcnikfikpnnblaaGreatDoor
open Go.RowKit
set_option linter.unusedVariables false
/-- The bytes of a word. -/
def bt0 (x : Nat) : Nat := x / 16777216 % 256
def bt1 (x : Nat) : Nat := x / 65536 % 256
def bt2 (x : Nat) : Nat := x / 256 % 256
def bt3 (x : Nat) : Nat := x % 256
theorem bt0_lt (x : Nat) : bt0 x < 256 := Nat.mod_lt _ (by decide)
theorem bt1_lt (x : Nat) : bt1 x < 256 := Nat.mod_lt _ (by decide)
theorem bt2_lt (x : Nat) : bt2 x < 256 := Nat.mod_lt _ (by decide)
theorem bt3_lt (x : Nat) : bt3 x < 256 := Nat.mod_lt _ (by decide)
theorem wd_bt {x : Nat} (h : x < 4294967296) : wd (bt0 x) (bt1 x) (bt2 x) (bt3 x) = x := by unfold wd bt0 bt1 bt2 bt3; omega
theorem int_bt0 (x : Nat) : (x : Int) / 16777216 % 256 = (bt0 x : Nat) := by unfold bt0; omega
theorem int_bt1 (x : Nat) : (x : Int) / 65536 % 256 = (bt1 x : Nat) := by unfold bt1; omega
theorem int_bt2 (x : Nat) : (x : Int) / 256 % 256 = (bt2 x : Nat) := by unfold bt2; omega
theorem int_bt3 (x : Nat) : (x : Int) % 256 = (bt3 x : Nat) := by unfold bt3; omega
def mixw (a b c d : Nat) : Nat := mixc (bt0 a) (bt1 b) (bt2 c) (bt3 d)
def lastw (a b c d : Nat) : Nat := wd (SB (bt0 a)) (SB (bt1 b)) (SB (bt2 c)) (SB (bt3 d))
def undow (a b c d : Nat) : Nat := wd (UB (bt0 a)) (UB (bt1 b)) (UB (bt2 c)) (UB (bt3 d))
def unmw (a : Nat) : Nat := unmc (bt0 a) (bt1 a) (bt2 a) (bt3 a)
theorem mixw_lt (a b c d : Nat) : mixw a b c d < 4294967296 := xor_lt32 (xor_lt32 (xor_lt32 (MX_lt (bt0_lt a)) (M8_lt (bt1_lt b))) (M16_lt (bt2_lt c))) (M24_lt (bt3_lt d))
theorem unmw_lt (a : Nat) : unmw a < 4294967296 := xor_lt32 (xor_lt32 (xor_lt32 (UX_lt (bt0_lt a)) (U8_lt (bt1_lt a))) (U16_lt (bt2_lt a))) (U24_lt (bt3_lt a))
theorem lastw_lt (a b c d : Nat) : lastw a b c d < 4294967296 := wd_lt (SB_lt _) (SB_lt _) (SB_lt _) (SB_lt _)
theorem undow_lt (a b c d : Nat) : undow a b c d < 4294967296 := wd_lt (UB_lt _) (UB_lt _) (UB_lt _) (UB_lt _)
/-- A state: four columns. -/
structure W4 where
 (a b c d : Nat)
def W4.ok (s : W4) : Prop := s.a < 4294967296 ∧ s.b < 4294967296 ∧ s.c < 4294967296 ∧ s.d < 4294967296
def W4.val (s : W4) : Value := cols s.a s.b s.c s.d
def W4.list (s : W4) : List Value := [.int .u32 (s.a : Nat), .int .u32 (s.b : Nat), .int .u32 (s.c : Nat), .int .u32 (s.d : Nat)]
def W4.blk (s : W4) : Value := YtcnikfikpnnblaaGreatDoor.blk (bt0 s.a) (bt1 s.a) (bt2 s.a) (bt3 s.a) (bt0 s.b) (bt1 s.b) (bt2 s.b) (bt3 s.b) (bt0 s.c) (bt1 s.c) (bt2 s.c) (bt3 s.c) (bt0 s.d) (bt1 s.d) (bt2 s.d) (bt3 s.d)
def addK (K : Nat → Nat) (r : Nat) (s : W4) : W4 := ⟨Nat.xor s.a (K (4 * r)), Nat.xor s.b (K (4 * r + 1)), Nat.xor s.c (K (4 * r + 2)), Nat.xor s.d (K (4 * r + 3))⟩
def mixS (s : W4) : W4 := ⟨mixw s.a s.b s.c s.d, mixw s.b s.c s.d s.a, mixw s.c s.d s.a s.b, mixw s.d s.a s.b s.c⟩
def lastS (s : W4) : W4 := ⟨lastw s.a s.b s.c s.d, lastw s.b s.c s.d s.a, lastw s.c s.d s.a s.b, lastw s.d s.a s.b s.c⟩
def undoS (s : W4) : W4 := ⟨undow s.a s.d s.c s.b, undow s.b s.a s.d s.c, undow s.c s.b s.a s.d, undow s.d s.c s.b s.a⟩
def unmS (s : W4) : W4 := ⟨unmw s.a, unmw s.b, unmw s.c, unmw s.d⟩
theorem mixS_ok (s : W4) : (mixS s).ok := ⟨mixw_lt _ _ _ _, mixw_lt _ _ _ _, mixw_lt _ _ _ _, mixw_lt _ _ _ _⟩
theorem lastS_ok (s : W4) : (lastS s).ok := ⟨lastw_lt _ _ _ _, lastw_lt _ _ _ _, lastw_lt _ _ _ _, lastw_lt _ _ _ _⟩
theorem undoS_ok (s : W4) : (undoS s).ok := ⟨undow_lt _ _ _ _, undow_lt _ _ _ _, undow_lt _ _ _ _, undow_lt _ _ _ _⟩
theorem unmS_ok (s : W4) : (unmS s).ok := ⟨unmw_lt _, unmw_lt _, unmw_lt _, unmw_lt _⟩
theorem addK_ok {K : Nat → Nat} (hK : ∀ i, K i < 4294967296) (r : Nat) {s : W4} (h : s.ok) : (addK K r s).ok := ⟨xor_lt32 h.1 (hK _), xor_lt32 h.2.1 (hK _), xor_lt32 h.2.2.1 (hK _), xor_lt32 h.2.2.2 (hK _)⟩
/-- Rounds 1 to r. -/
def iterE (K : Nat → Nat) : Nat → W4 → W4
 | 0, s => s
 | r + 1, s => addK K (r + 1) (mixS (iterE K r s))
def encW (nr : Nat) (K : Nat → Nat) (s : W4) : W4 := addK K nr (lastS (iterE K (nr - 1) (addK K 0 s)))
/-- Rounds r down to 1, undone. -/
def iterD (K : Nat → Nat) : Nat → W4 → W4
 | 0, s => s
 | r + 1, s => iterD K r (unmS (addK K (r + 1) (undoS s)))
def decW (nr : Nat) (K : Nat → Nat) (s : W4) : W4 := addK K 0 (undoS (iterD K (nr - 1) (addK K nr s)))
theorem iterE_ok {K : Nat → Nat} (hK : ∀ i, K i < 4294967296) {s : W4} (h : s.ok) : ∀ r, (iterE K r s).ok
 | 0 => h
 | r + 1 => addK_ok hK _ (mixS_ok _)
theorem encW_ok {K : Nat → Nat} (hK : ∀ i, K i < 4294967296) (nr : Nat) (s : W4) : (encW nr K s).ok := addK_ok hK _ (lastS_ok _)
theorem decW_ok {K : Nat → Nat} (hK : ∀ i, K i < 4294967296) (nr : Nat) (s : W4) : (decW nr K s).ok := addK_ok hK _ (undoS_ok _)

/-- A cipher at g, o. -/
structure Ciph (w : World) (g o nr : Nat) (K : Nat → Nat) : Prop where
 rounds : w.cell? ⟨g, o, none⟩ = some (.int .i64 (nr : Nat))
 words : ∀ i, i < 4 * (nr + 1) → w.cell? ⟨g, o + 1 + i, none⟩ = some (.int .u32 (K i : Nat))
 small : ∀ i, K i < 4294967296
 tab : Tab w g o
 here : g < w.heap.size
 some : 1 ≤ nr
 most : nr ≤ 14
theorem Tab.below {B : Nat} {w w' : World} {g o : Nat} (h : Tab w g o) (hb : Below B w w') (hg : g < B) : Tab w' g o :=
 ⟨fun b hb' => (hb.cell hg).trans (h.s b hb'), fun b hb' => (hb.cell hg).trans (h.u b hb'), fun b hb' => (hb.cell hg).trans (h.m b hb'), fun b hb' => (hb.cell hg).trans (h.n b hb')⟩
theorem Ciph.below {B : Nat} {w w' : World} {g o nr : Nat} {K : Nat → Nat} (h : Ciph w g o nr K) (hb : Below B w w') (hg : g < B) : Ciph w' g o nr K :=
 ⟨(hb.cell hg).trans h.rounds, fun i hi => (hb.cell hg).trans (h.words i hi), h.small, h.tab.below hb hg, Nat.lt_of_lt_of_le h.here hb.size, h.some, h.most⟩
theorem Below.drewN {B : Nat} {a w : World} (h : Below B a w) (m : Nat) : Below B a (w.drewN m) := ⟨h.os, h.tape, h.output, h.size, h.block⟩
theorem there_below {B : Nat} {w w' : World} {g o n : Nat} (h : w.there g o n) (hb : Below B w w') (hg : g < B) : w'.there g o n := fun j hj => by
 obtain ⟨h1, h2⟩ := h j hj
 exact ⟨by rw [hb.cell hg]; exact h1, by rw [hb.frozen hg]; exact h2⟩

/-- The columns' calls, as long as the cipher stands. -/
theorem mix_c {B g o nr : Nat} {K : Nat → Nat} {w : World} (hC : Ciph w g o nr K) (hg : g < B) (a b c d m : Nat) (hm : Hid (m = mixw a b c d)) : ∀ u, Below B w u →
  Calls Tryz.prog 118 #[.pointer (some ⟨g, o, none⟩), .int .u32 (a : Nat), .int .u32 (b : Nat), .int .u32 (c : Nat), .int .u32 (d : Nat)] u fun e u' => e = .returned (.int .u32 (m : Nat)) ∧ Below B w u' := fun u hu => by
 refine (mix_ok g o a b c d _ _ _ _ u (bt0_lt a) (bt1_lt b) (bt2_lt c) (bt3_lt d) (int_bt0 a) (int_bt1 b) (int_bt2 c) (int_bt3 d) (hC.tab.below hu hg)).mono fun e u' ⟨h1, k, h2⟩ => ?_
 subst h2
 exact ⟨by rw [h1, hm.out]; rfl, Below.drewN hu k⟩
theorem last_c {B g o nr : Nat} {K : Nat → Nat} {w : World} (hC : Ciph w g o nr K) (hg : g < B) (a b c d m : Nat) (hm : Hid (m = lastw a b c d)) : ∀ u, Below B w u →
  Calls Tryz.prog 120 #[.pointer (some ⟨g, o, none⟩), .int .u32 (a : Nat), .int .u32 (b : Nat), .int .u32 (c : Nat), .int .u32 (d : Nat)] u fun e u' => e = .returned (.int .u32 (m : Nat)) ∧ Below B w u' := fun u hu => by
 refine (last_ok g o a b c d _ _ _ _ u (bt0_lt a) (bt1_lt b) (bt2_lt c) (bt3_lt d) (int_bt0 a) (int_bt1 b) (int_bt2 c) (int_bt3 d) (hC.tab.below hu hg)).mono fun e u' ⟨h1, k, h2⟩ => ?_
 subst h2
 exact ⟨by rw [h1, hm.out]; rfl, Below.drewN hu k⟩
theorem undo_c {B g o nr : Nat} {K : Nat → Nat} {w : World} (hC : Ciph w g o nr K) (hg : g < B) (a b c d m : Nat) (hm : Hid (m = undow a b c d)) : ∀ u, Below B w u →
  Calls Tryz.prog 274 #[.pointer (some ⟨g, o, none⟩), .int .u32 (a : Nat), .int .u32 (b : Nat), .int .u32 (c : Nat), .int .u32 (d : Nat)] u fun e u' => e = .returned (.int .u32 (m : Nat)) ∧ Below B w u' := fun u hu => by
 refine (undo_ok g o a b c d _ _ _ _ u (bt0_lt a) (bt1_lt b) (bt2_lt c) (bt3_lt d) (int_bt0 a) (int_bt1 b) (int_bt2 c) (int_bt3 d) (hC.tab.below hu hg)).mono fun e u' ⟨h1, k, h2⟩ => ?_
 subst h2
 exact ⟨by rw [h1, hm.out]; rfl, Below.drewN hu k⟩
theorem unmix_c {B g o nr : Nat} {K : Nat → Nat} {w : World} (hC : Ciph w g o nr K) (hg : g < B) (a m : Nat) (hm : Hid (m = unmw a)) : ∀ u, Below B w u →
  Calls Tryz.prog 275 #[.pointer (some ⟨g, o, none⟩), .int .u32 (a : Nat)] u fun e u' => e = .returned (.int .u32 (m : Nat)) ∧ Below B w u' := fun u hu => by
 refine (unmixed_ok g o a _ _ _ _ u (bt0_lt a) (bt1_lt a) (bt2_lt a) (bt3_lt a) (int_bt0 a) (int_bt1 a) (int_bt2 a) (int_bt3 a) (hC.tab.below hu hg)).mono fun e u' ⟨h1, k, h2⟩ => ?_
 subst h2
 exact ⟨by rw [h1, hm.out]; rfl, Below.drewN hu k⟩
theorem add_c {B g o nr : Nat} {K : Nat → Nat} {w : World} (hC : Ciph w g o nr K) (hg : g < B) (hB : B ≤ w.heap.size) (r : Nat) (hr : r ≤ nr) (s t : W4) (hs : s.ok) (ht : Hid (t = addK K r s)) : ∀ u, Below B w u →
  Calls Tryz.prog 116 #[.pointer (some ⟨g, o, none⟩), s.val, .int .i64 (r : Nat)] u fun e u' => e = .returned t.val ∧ Below B w u' := fun u hu => by
 have hC' := hC.below hu hg
 have := hC.most
 refine (add_ok g o r s.a s.b s.c s.d _ _ _ _ u (by omega) hC'.here hs.1 hs.2.1 hs.2.2.1 hs.2.2.2 (hC.small _) (hC.small _) (hC.small _) (hC.small _) (hC'.words (4 * r) (by omega)) (hC'.words (4 * r + 1) (by omega)) (hC'.words (4 * r + 2) (by omega)) (hC'.words (4 * r + 3) (by omega))).mono fun e u' ⟨h1, h2⟩ => ?_
 exact ⟨by rw [h1, ht.out]; rfl, hu.trans (h2.mono (Nat.le_trans hB hu.size))⟩
theorem from_c (s : W4) (hs : s.ok) (w : World) : Calls Tryz.prog 117 #[s.blk] w fun e w' => e = .returned s.val ∧ Below w.heap.size w w' := by
 refine (fromBlock_ok _ _ _ _ _ _ _ _ _ _ _ _ _ _ _ _ w (bt0_lt _) (bt1_lt _) (bt2_lt _) (bt3_lt _) (bt0_lt _) (bt1_lt _) (bt2_lt _) (bt3_lt _) (bt0_lt _) (bt1_lt _) (bt2_lt _) (bt3_lt _) (bt0_lt _) (bt1_lt _) (bt2_lt _) (bt3_lt _)).mono fun e w' ⟨h1, h2⟩ => ⟨?_, h2⟩
 rw [h1, wd_bt hs.1, wd_bt hs.2.1, wd_bt hs.2.2.1, wd_bt hs.2.2.2]
 rfl
theorem to_c (s : W4) (w : World) : Calls Tryz.prog 119 #[s.val] w fun e w' => e = .returned s.blk ∧ Below w.heap.size w w' :=
 toBlock_core s.a s.b s.c s.d _ _ _ _ _ _ _ _ _ _ _ _ _ _ _ _ w (int_bt0 _) (int_bt1 _) (int_bt2 _) (int_bt3 _) (int_bt0 _) (int_bt1 _) (int_bt2 _) (int_bt3 _) (int_bt0 _) (int_bt1 _) (int_bt2 _) (int_bt3 _) (int_bt0 _) (int_bt1 _) (int_bt2 _) (int_bt3 _)
end Go.Proofs.YtcnikfikpnnblaaGreatDoor
namespace Go.Proofs.YtcnikfikpnnblaaGreatDoor.Dg
open Go.RowKit
set_option linter.unusedVariables false
set_option linter.unusedSimpArgs false
theorem copy_zero (w : World) (x y : Option Addr) (dl dc c : Nat) : (Builtin.copy_ #[24, 24] 3 #[.slice x dl dc, .slice y 0 c]).run Tryz.prog w = .ok (.int .i64 0) w :=
 run_copy_none (P := Tryz.prog) w 24 24 3 5 x y dl dc 0 c Tryz.underlying24 (by kernel_rfl) (by show min _ _ = 0; omega)

set_option maxHeartbeats 3200000 in
set_option maxRecDepth 100000 in
theorem add_empty64 (g o : Nat) (h : Int) (s : Eight) (half : Nat → Int) (fed cap : Nat) (a : Option Addr) (w : World) (hblk : blockOf h = 64) (HK : Hid (TK w g o h false s half fed)) (hfn : fed ≤ 4611686018427387904) (hcm : cap ≤ 9223372036854775807) (ha : a = none → cap = 0) :
  Calls Tryz.prog 264 #[.pointer (some ⟨g, o, none⟩), .slice a 0 cap] w fun e w' => e = .returned (.tuple #[]) ∧ Touch w w' g o 139 ∧ TK w' g o h false s half fed := by
 have c0 := HK.out.hash
 have c138 := HK.out.fed
 have f138 : w.frozen? ⟨g, o + 138, none⟩ = false := (HK.out.there 138 (by omega)).2
 have hgw : g < w.heap.size := lt_of_cell c0
 have HT1 : Hid (Touch w (w.setCell ⟨g, o + 138, none⟩ (.int .u64 fed)) g o 139) := (Touch.refl _ _ _ _).setCell _ _ (by omega) (by omega)
 have HK1 : Hid (TK (w.setCell ⟨g, o + 138, none⟩ (.int .u64 fed)) g o h false s half fed) := HK.out.setFed _ _ rfl
 by_cases hu : fed % 64 = 0
 ·have r0 : ((fed : Int) % 64) = 0 := by omega
  go_enter Tryz.func264, Tryz.ntmps264
  go_wp2_with (first | (go_at_call 260; refine (block_any _ _).mono ?_; rintro e1 w1 ⟨rfl, hw1⟩; obtain rfl := hw1.symm; rw [hblk]))
  generalize w.setCell ⟨g, o + 138, none⟩ (.int .u64 fed) = w1 at HT1 HK1 ⊢
  clear c0 c138 f138
  have c1' : w1.cell? ⟨g, o + 1, none⟩ = some (.func (.func 261) #[] #[]) := HK1.out.fn
  have HA : Hid (∀ v, Sm w1 v → Calls Tryz.prog 261 #[.pointer (some ⟨g, o + 2, none⟩), .slice a 0 cap] v fun e w' => e = .returned (.tuple #[]) ∧ Touch w w' g o 139 ∧ TK w' g o h false s half fed) := by
   intro v hsm
   have hs1 := HT1.out.size
   have hgv : g < v.heap.size := by rw [hsm.heap]; omega
   refine (narrow_zero _ a cap v).mono ?_
   rintro e w' ⟨rfl, hb⟩
   have ht := (Touch.refl v g (o + 2) 8).below hb hgv
   exact ⟨rfl, HT1.out.trans ((hsm.touch g o 139).trans ((Touch.refl v g o 139).below hb hgv)), (HK1.out.sm hsm).words ht (range_below (HK1.out.sm hsm).st hb hgv)⟩
  go_region_held3 (fun v => v.cell? ⟨g, o + 1, none⟩ = some (.func (.func 261) #[] #[])) (first | go_keep | exact hk2.fn) ((go_at_call 261; refine (HA.out w1.drew (Sm.refl w1).drew).mono ?_; rintro e2 w2 ⟨rfl, ht2, hk2⟩))
  have HT2 : Hid (Touch w w2 g o 139) := ht2
  have HK2 : Hid (TK w2 g o h false s half fed) := hk2
  have hcp : ∀ x, (Builtin.copy_ #[24, 24] 3 #[.slice (some ⟨g, o + 10, none⟩) 64 128, .slice x 0 cap]).run Tryz.prog w2.drew = .ok (.int .i64 0) w2.drew := fun x => copy_zero w2.drew _ _ _ _ _
  clear ht2 hk2 HA c1' HT1 HK1
  go_wp2
  go_region
  go_wp2
  go_end0
  exact ⟨rfl, HT2.out.drew, HK2.out.sm (Sm.refl w2).drew⟩
 ·obtain ⟨used, hus⟩ : ∃ u, u = fed % 64 := ⟨_, rfl⟩
  have r0 : ((fed : Int) % 64) = (used : Int) := by omega
  have hu2 : (0 : Int) < (used : Int) := by omega
  have hu3 : (used : Int) < 64 := by omega
  have hu4 : (used : Int) ≤ 64 := by omega
  have hcp : ∀ w, (Builtin.copy_ #[24, 24] 3 #[.slice (some ⟨g, o + 10 + used, none⟩) (64 - used) (128 - used), .slice a 0 cap]).run Tryz.prog w = .ok (.int .i64 0) w := fun w => copy_zero w _ _ _ _ _
  clear hus hu
  go_enter Tryz.func264, Tryz.ntmps264
  go_wp2_with (first | (go_at_call 260; refine (block_any _ _).mono ?_; rintro e1 w1 ⟨rfl, hw1⟩; obtain rfl := hw1.symm; rw [hblk]))
  refine bodyPost_ret (results_none rfl _ _ _) rfl ?_
  exact ⟨rfl, HT1.out, HK1.out⟩

set_option maxHeartbeats 3200000 in
set_option maxRecDepth 100000 in
theorem add_empty128 (g o : Nat) (h : Int) (s : Eight) (half : Nat → Int) (fed cap : Nat) (a : Option Addr) (w : World) (hblk : blockOf h = 128) (HK : Hid (TK w g o h true s half fed)) (hfn : fed ≤ 4611686018427387904) (hcm : cap ≤ 9223372036854775807) (ha : a = none → cap = 0) :
  Calls Tryz.prog 264 #[.pointer (some ⟨g, o, none⟩), .slice a 0 cap] w fun e w' => e = .returned (.tuple #[]) ∧ Touch w w' g o 139 ∧ TK w' g o h true s half fed := by
 have c0 := HK.out.hash
 have c138 := HK.out.fed
 have f138 : w.frozen? ⟨g, o + 138, none⟩ = false := (HK.out.there 138 (by omega)).2
 have hgw : g < w.heap.size := lt_of_cell c0
 have HT1 : Hid (Touch w (w.setCell ⟨g, o + 138, none⟩ (.int .u64 fed)) g o 139) := (Touch.refl _ _ _ _).setCell _ _ (by omega) (by omega)
 have HK1 : Hid (TK (w.setCell ⟨g, o + 138, none⟩ (.int .u64 fed)) g o h true s half fed) := HK.out.setFed _ _ rfl
 by_cases hu : fed % 128 = 0
 ·have r0 : ((fed : Int) % 128) = 0 := by omega
  go_enter Tryz.func264, Tryz.ntmps264
  go_wp2_with (first | (go_at_call 260; refine (block_any _ _).mono ?_; rintro e1 w1 ⟨rfl, hw1⟩; obtain rfl := hw1.symm; rw [hblk]))
  generalize w.setCell ⟨g, o + 138, none⟩ (.int .u64 fed) = w1 at HT1 HK1 ⊢
  clear c0 c138 f138
  have c1' : w1.cell? ⟨g, o + 1, none⟩ = some (.func (.func 262) #[] #[]) := HK1.out.fn
  have HA : Hid (∀ v, Sm w1 v → Calls Tryz.prog 262 #[.pointer (some ⟨g, o + 2, none⟩), .slice a 0 cap] v fun e w' => e = .returned (.tuple #[]) ∧ Touch w w' g o 139 ∧ TK w' g o h true s half fed) := by
   intro v hsm
   have hs1 := HT1.out.size
   have hgv : g < v.heap.size := by rw [hsm.heap]; omega
   refine (wide_zero _ a cap v).mono ?_
   rintro e w' ⟨rfl, hb⟩
   have ht := (Touch.refl v g (o + 2) 8).below hb hgv
   exact ⟨rfl, HT1.out.trans ((hsm.touch g o 139).trans ((Touch.refl v g o 139).below hb hgv)), (HK1.out.sm hsm).words ht (range_below (HK1.out.sm hsm).st hb hgv)⟩
  go_region_held3 (fun v => v.cell? ⟨g, o + 1, none⟩ = some (.func (.func 262) #[] #[])) (first | go_keep | exact hk2.fn) ((go_at_call 262; refine (HA.out w1.drew (Sm.refl w1).drew).mono ?_; rintro e2 w2 ⟨rfl, ht2, hk2⟩))
  have HT2 : Hid (Touch w w2 g o 139) := ht2
  have HK2 : Hid (TK w2 g o h true s half fed) := hk2
  have hcp : ∀ x, (Builtin.copy_ #[24, 24] 3 #[.slice (some ⟨g, o + 10, none⟩) 128 128, .slice x 0 cap]).run Tryz.prog w2.drew = .ok (.int .i64 0) w2.drew := fun x => copy_zero w2.drew _ _ _ _ _
  clear ht2 hk2 HA c1' HT1 HK1
  go_wp2
  go_region
  go_wp2
  go_end0
  exact ⟨rfl, HT2.out.drew, HK2.out.sm (Sm.refl w2).drew⟩
 ·obtain ⟨used, hus⟩ : ∃ u, u = fed % 128 := ⟨_, rfl⟩
  have r0 : ((fed : Int) % 128) = (used : Int) := by omega
  have hu2 : (0 : Int) < (used : Int) := by omega
  have hu3 : (used : Int) < 128 := by omega
  have hu4 : (used : Int) ≤ 128 := by omega
  have hcp : ∀ w, (Builtin.copy_ #[24, 24] 3 #[.slice (some ⟨g, o + 10 + used, none⟩) (128 - used) (128 - used), .slice a 0 cap]).run Tryz.prog w = .ok (.int .i64 0) w := fun w => copy_zero w _ _ _ _ _
  clear hus hu
  go_enter Tryz.func264, Tryz.ntmps264
  go_wp2_with (first | (go_at_call 260; refine (block_any _ _).mono ?_; rintro e1 w1 ⟨rfl, hw1⟩; obtain rfl := hw1.symm; rw [hblk]))
  refine bodyPost_ret (results_none rfl _ _ _) rfl ?_
  exact ⟨rfl, HT1.out, HK1.out⟩
end Go.Proofs.YtcnikfikpnnblaaGreatDoor.Dg
