import Derived.Test.YtcnikfikpnnblaaGreatDoorBlk
import Derived.Test.YtcnikfikpnnblaaGreatDoorPart00
import Derived.Test.YtcnikfikpnnblaaGreatDoorFdPval
import Derived.ProofKit
import Derived.OpenShut
import Derived.ChangeOld
import Derived.Deep.Slices
namespace Go.Proofs.YtcnikfikpnnblaaGreatDoor
open Go.RowKit
set_option linter.unusedVariables false
/-- The bytes of a word. -/
def bt0 (x : Nat) : Nat := x / 16777216 % 256
def bt1 (x : Nat) : Nat := x / 65536 % 256
def bt2 (x : Nat) : Nat := x / 256 % 256
def bt3 (x : Nat) : Nat := x % 256
theorem bt0_lt (x : Nat) : bt0 x < 256 := Nat.mod_lt _ (by decide)
theorem bt1_lt (x : Nat) : bt1 x < 256 := Nat.mod_lt _ (by decide)
theorem bt2_lt (x : Nat) : bt2 x < 256 := Nat.mod_lt _ (by decide)
theorem bt3_lt (x : Nat) : bt3 x < 256 := Nat.mod_lt _ (by decide)
theorem wd_bt {x : Nat} (h : x < 4294967296) : wd (bt0 x) (bt1 x) (bt2 x) (bt3 x) = x := by unfold wd bt0 bt1 bt2 bt3; omega
theorem int_bt0 (x : Nat) : (x : Int) / 16777216 % 256 = (bt0 x : Nat) := by unfold bt0; omega
theorem int_bt1 (x : Nat) : (x : Int) / 65536 % 256 = (bt1 x : Nat) := by unfold bt1; omega
theorem int_bt2 (x : Nat) : (x : Int) / 256 % 256 = (bt2 x : Nat) := by unfold bt2; omega
theorem int_bt3 (x : Nat) : (x : Int) % 256 = (bt3 x : Nat) := by unfold bt3; omega
def mixw (a b c d : Nat) : Nat := mixc (bt0 a) (bt1 b) (bt2 c) (bt3 d)
def lastw (a b c d : Nat) : Nat := wd (SB (bt0 a)) (SB (bt1 b)) (SB (bt2 c)) (SB (bt3 d))
def undow (a b c d : Nat) : Nat := wd (UB (bt0 a)) (UB (bt1 b)) (UB (bt2 c)) (UB (bt3 d))
def unmw (a : Nat) : Nat := unmc (bt0 a) (bt1 a) (bt2 a) (bt3 a)
theorem mixw_lt (a b c d : Nat) : mixw a b c d < 4294967296 := xor_lt32 (xor_lt32 (xor_lt32 (MX_lt (bt0_lt a)) (M8_lt (bt1_lt b))) (M16_lt (bt2_lt c))) (M24_lt (bt3_lt d))
theorem unmw_lt (a : Nat) : unmw a < 4294967296 := xor_lt32 (xor_lt32 (xor_lt32 (UX_lt (bt0_lt a)) (U8_lt (bt1_lt a))) (U16_lt (bt2_lt a))) (U24_lt (bt3_lt a))
theorem lastw_lt (a b c d : Nat) : lastw a b c d < 4294967296 := wd_lt (SB_lt _) (SB_lt _) (SB_lt _) (SB_lt _)
theorem undow_lt (a b c d : Nat) : undow a b c d < 4294967296 := wd_lt (UB_lt _) (UB_lt _) (UB_lt _) (UB_lt _)
/-- A state: four columns. -/
structure W4 where
 (a b c d : Nat)
def W4.ok (s : W4) : Prop := s.a < 4294967296 ∧ s.b < 4294967296 ∧ s.c < 4294967296 ∧ s.d < 4294967296
def W4.val (s : W4) : Value := cols s.a s.b s.c s.d
def W4.list (s : W4) : List Value := [.int .u32 (s.a : Nat), .int .u32 (s.b : Nat), .int .u32 (s.c : Nat), .int .u32 (s.d : Nat)]
def W4.blk (s : W4) : Value := YtcnikfikpnnblaaGreatDoor.blk (bt0 s.a) (bt1 s.a) (bt2 s.a) (bt3 s.a) (bt0 s.b) (bt1 s.b) (bt2 s.b) (bt3 s.b) (bt0 s.c) (bt1 s.c) (bt2 s.c) (bt3 s.c) (bt0 s.d) (bt1 s.d) (bt2 s.d) (bt3 s.d)
def addK (K : Nat → Nat) (r : Nat) (s : W4) : W4 := ⟨Nat.xor s.a (K (4 * r)), Nat.xor s.b (K (4 * r + 1)), Nat.xor s.c (K (4 * r + 2)), Nat.xor s.d (K (4 * r + 3))⟩
def mixS (s : W4) : W4 := ⟨mixw s.a s.b s.c s.d, mixw s.b s.c s.d s.a, mixw s.c s.d s.a s.b, mixw s.d s.a s.b s.c⟩
def lastS (s : W4) : W4 := ⟨lastw s.a s.b s.c s.d, lastw s.b s.c s.d s.a, lastw s.c s.d s.a s.b, lastw s.d s.a s.b s.c⟩
def undoS (s : W4) : W4 := ⟨undow s.a s.d s.c s.b, undow s.b s.a s.d s.c, undow s.c s.b s.a s.d, undow s.d s.c s.b s.a⟩
def unmS (s : W4) : W4 := ⟨unmw s.a, unmw s.b, unmw s.c, unmw s.d⟩
theorem mixS_ok (s : W4) : (mixS s).ok := ⟨mixw_lt _ _ _ _, mixw_lt _ _ _ _, mixw_lt _ _ _ _, mixw_lt _ _ _ _⟩
theorem lastS_ok (s : W4) : (lastS s).ok := ⟨lastw_lt _ _ _ _, lastw_lt _ _ _ _, lastw_lt _ _ _ _, lastw_lt _ _ _ _⟩
theorem undoS_ok (s : W4) : (undoS s).ok := ⟨undow_lt _ _ _ _, undow_lt _ _ _ _, undow_lt _ _ _ _, undow_lt _ _ _ _⟩
theorem unmS_ok (s : W4) : (unmS s).ok := ⟨unmw_lt _, unmw_lt _, unmw_lt _, unmw_lt _⟩
theorem addK_ok {K : Nat → Nat} (hK : ∀ i, K i < 4294967296) (r : Nat) {s : W4} (h : s.ok) : (addK K r s).ok := ⟨xor_lt32 h.1 (hK _), xor_lt32 h.2.1 (hK _), xor_lt32 h.2.2.1 (hK _), xor_lt32 h.2.2.2 (hK _)⟩
/-- Rounds 1 to r. -/
def iterE (K : Nat → Nat) : Nat → W4 → W4
 | 0, s => s
 | r + 1, s => addK K (r + 1) (mixS (iterE K r s))
def encW (nr : Nat) (K : Nat → Nat) (s : W4) : W4 := addK K nr (lastS (iterE K (nr - 1) (addK K 0 s)))
/-- Rounds r down to 1, undone. -/
def iterD (K : Nat → Nat) : Nat → W4 → W4
 | 0, s => s
 | r + 1, s => iterD K r (unmS (addK K (r + 1) (undoS s)))
def decW (nr : Nat) (K : Nat → Nat) (s : W4) : W4 := addK K 0 (undoS (iterD K (nr - 1) (addK K nr s)))
theorem iterE_ok {K : Nat → Nat} (hK : ∀ i, K i < 4294967296) {s : W4} (h : s.ok) : ∀ r, (iterE K r s).ok
 | 0 => h
 | r + 1 => addK_ok hK _ (mixS_ok _)
theorem encW_ok {K : Nat → Nat} (hK : ∀ i, K i < 4294967296) (nr : Nat) (s : W4) : (encW nr K s).ok := addK_ok hK _ (lastS_ok _)
theorem decW_ok {K : Nat → Nat} (hK : ∀ i, K i < 4294967296) (nr : Nat) (s : W4) : (decW nr K s).ok := addK_ok hK _ (undoS_ok _)

/-- A cipher at g, o. -/
structure Ciph (w : World) (g o nr : Nat) (K : Nat → Nat) : Prop where
 rounds : w.cell? ⟨g, o, none⟩ = some (.int .i64 (nr : Nat))
 words : ∀ i, i < 4 * (nr + 1) → w.cell? ⟨g, o + 1 + i, none⟩ = some (.int .u32 (K i : Nat))
 small : ∀ i, K i < 4294967296
 tab : Tab w g o
 here : g < w.heap.size
 some : 1 ≤ nr
 most : nr ≤ 14
theorem Tab.below {B : Nat} {w w' : World} {g o : Nat} (h : Tab w g o) (hb : Below B w w') (hg : g < B) : Tab w' g o :=
 ⟨fun b hb' => (hb.cell hg).trans (h.s b hb'), fun b hb' => (hb.cell hg).trans (h.u b hb'), fun b hb' => (hb.cell hg).trans (h.m b hb'), fun b hb' => (hb.cell hg).trans (h.n b hb')⟩
theorem Ciph.below {B : Nat} {w w' : World} {g o nr : Nat} {K : Nat → Nat} (h : Ciph w g o nr K) (hb : Below B w w') (hg : g < B) : Ciph w' g o nr K :=
 ⟨(hb.cell hg).trans h.rounds, fun i hi => (hb.cell hg).trans (h.words i hi), h.small, h.tab.below hb hg, Nat.lt_of_lt_of_le h.here hb.size, h.some, h.most⟩
theorem Below.drewN {B : Nat} {a w : World} (h : Below B a w) (m : Nat) : Below B a (w.drewN m) := ⟨h.os, h.tape, h.output, h.size, h.block⟩
theorem there_below {B : Nat} {w w' : World} {g o n : Nat} (h : w.there g o n) (hb : Below B w w') (hg : g < B) : w'.there g o n := fun j hj => by
 obtain ⟨h1, h2⟩ := h j hj
 exact ⟨by rw [hb.cell hg]; exact h1, by rw [hb.frozen hg]; exact h2⟩

/-- The columns' calls, as long as the cipher stands. -/
theorem mix_c {B g o nr : Nat} {K : Nat → Nat} {w : World} (hC : Ciph w g o nr K) (hg : g < B) (a b c d m : Nat) (hm : Hid (m = mixw a b c d)) : ∀ u, Below B w u →
  Calls Tryz.prog 118 #[.pointer (some ⟨g, o, none⟩), .int .u32 (a : Nat), .int .u32 (b : Nat), .int .u32 (c : Nat), .int .u32 (d : Nat)] u fun e u' => e = .returned (.int .u32 (m : Nat)) ∧ Below B w u' := fun u hu => by
 refine (mix_ok g o a b c d _ _ _ _ u (bt0_lt a) (bt1_lt b) (bt2_lt c) (bt3_lt d) (int_bt0 a) (int_bt1 b) (int_bt2 c) (int_bt3 d) (hC.tab.below hu hg)).mono fun e u' ⟨h1, k, h2⟩ => ?_
 subst h2
 exact ⟨by rw [h1, hm.out]; rfl, Below.drewN hu k⟩
theorem last_c {B g o nr : Nat} {K : Nat → Nat} {w : World} (hC : Ciph w g o nr K) (hg : g < B) (a b c d m : Nat) (hm : Hid (m = lastw a b c d)) : ∀ u, Below B w u →
  Calls Tryz.prog 120 #[.pointer (some ⟨g, o, none⟩), .int .u32 (a : Nat), .int .u32 (b : Nat), .int .u32 (c : Nat), .int .u32 (d : Nat)] u fun e u' => e = .returned (.int .u32 (m : Nat)) ∧ Below B w u' := fun u hu => by
 refine (last_ok g o a b c d _ _ _ _ u (bt0_lt a) (bt1_lt b) (bt2_lt c) (bt3_lt d) (int_bt0 a) (int_bt1 b) (int_bt2 c) (int_bt3 d) (hC.tab.below hu hg)).mono fun e u' ⟨h1, k, h2⟩ => ?_
 subst h2
 exact ⟨by rw [h1, hm.out]; rfl, Below.drewN hu k⟩
theorem undo_c {B g o nr : Nat} {K : Nat → Nat} {w : World} (hC : Ciph w g o nr K) (hg : g < B) (a b c d m : Nat) (hm : Hid (m = undow a b c d)) : ∀ u, Below B w u →
  Calls Tryz.prog 274 #[.pointer (some ⟨g, o, none⟩), .int .u32 (a : Nat), .int .u32 (b : Nat), .int .u32 (c : Nat), .int .u32 (d : Nat)] u fun e u' => e = .returned (.int .u32 (m : Nat)) ∧ Below B w u' := fun u hu => by
 refine (undo_ok g o a b c d _ _ _ _ u (bt0_lt a) (bt1_lt b) (bt2_lt c) (bt3_lt d) (int_bt0 a) (int_bt1 b) (int_bt2 c) (int_bt3 d) (hC.tab.below hu hg)).mono fun e u' ⟨h1, k, h2⟩ => ?_
 subst h2
 exact ⟨by rw [h1, hm.out]; rfl, Below.drewN hu k⟩
theorem unmix_c {B g o nr : Nat} {K : Nat → Nat} {w : World} (hC : Ciph w g o nr K) (hg : g < B) (a m : Nat) (hm : Hid (m = unmw a)) : ∀ u, Below B w u →
  Calls Tryz.prog 275 #[.pointer (some ⟨g, o, none⟩), .int .u32 (a : Nat)] u fun e u' => e = .returned (.int .u32 (m : Nat)) ∧ Below B w u' := fun u hu => by
 refine (unmixed_ok g o a _ _ _ _ u (bt0_lt a) (bt1_lt a) (bt2_lt a) (bt3_lt a) (int_bt0 a) (int_bt1 a) (int_bt2 a) (int_bt3 a) (hC.tab.below hu hg)).mono fun e u' ⟨h1, k, h2⟩ => ?_
 subst h2
 exact ⟨by rw [h1, hm.out]; rfl, Below.drewN hu k⟩
theorem add_c {B g o nr : Nat} {K : Nat → Nat} {w : World} (hC : Ciph w g o nr K) (hg : g < B) (hB : B ≤ w.heap.size) (r : Nat) (hr : r ≤ nr) (s t : W4) (hs : s.ok) (ht : Hid (t = addK K r s)) : ∀ u, Below B w u →
  Calls Tryz.prog 116 #[.pointer (some ⟨g, o, none⟩), s.val, .int .i64 (r : Nat)] u fun e u' => e = .returned t.val ∧ Below B w u' := fun u hu => by
 have hC' := hC.below hu hg
 have := hC.most
 refine (add_ok g o r s.a s.b s.c s.d _ _ _ _ u (by omega) hC'.here hs.1 hs.2.1 hs.2.2.1 hs.2.2.2 (hC.small _) (hC.small _) (hC.small _) (hC.small _) (hC'.words (4 * r) (by omega)) (hC'.words (4 * r + 1) (by omega)) (hC'.words (4 * r + 2) (by omega)) (hC'.words (4 * r + 3) (by omega))).mono fun e u' ⟨h1, h2⟩ => ?_
 exact ⟨by rw [h1, ht.out]; rfl, hu.trans (h2.mono (Nat.le_trans hB hu.size))⟩
theorem from_c (s : W4) (hs : s.ok) (w : World) : Calls Tryz.prog 117 #[s.blk] w fun e w' => e = .returned s.val ∧ Below w.heap.size w w' := by
 refine (fromBlock_ok _ _ _ _ _ _ _ _ _ _ _ _ _ _ _ _ w (bt0_lt _) (bt1_lt _) (bt2_lt _) (bt3_lt _) (bt0_lt _) (bt1_lt _) (bt2_lt _) (bt3_lt _) (bt0_lt _) (bt1_lt _) (bt2_lt _) (bt3_lt _) (bt0_lt _) (bt1_lt _) (bt2_lt _) (bt3_lt _)).mono fun e w' ⟨h1, h2⟩ => ⟨?_, h2⟩
 rw [h1, wd_bt hs.1, wd_bt hs.2.1, wd_bt hs.2.2.1, wd_bt hs.2.2.2]
 rfl
theorem to_c (s : W4) (w : World) : Calls Tryz.prog 119 #[s.val] w fun e w' => e = .returned s.blk ∧ Below w.heap.size w w' :=
 toBlock_core s.a s.b s.c s.d _ _ _ _ _ _ _ _ _ _ _ _ _ _ _ _ w (int_bt0 _) (int_bt1 _) (int_bt2 _) (int_bt3 _) (int_bt0 _) (int_bt1 _) (int_bt2 _) (int_bt3 _) (int_bt0 _) (int_bt1 _) (int_bt2 _) (int_bt3 _) (int_bt0 _) (int_bt1 _) (int_bt2 _) (int_bt3 _)
end Go.Proofs.YtcnikfikpnnblaaGreatDoor
namespace Go.Proofs.YtcnikfikpnnblaaGreatDoor
/-- Steps r down to 1, of whatever kind. -/
def iterF (f : Nat → W4 → W4) : Nat → W4 → W4
 | 0, s => s
 | r + 1, s => iterF f r (f (r + 1) s)
theorem iterF_succ (f : Nat → W4 → W4) (r : Nat) (s : W4) : iterF f (r + 1) s = iterF f r (f (r + 1) s) := rfl
theorem iterF_zero (f : Nat → W4 → W4) (s : W4) : iterF f 0 s = s := rfl
def stepD (K : Nat → Nat) (r : Nat) (s : W4) : W4 := unmS (addK K r (undoS s))
def itD (K : Nat → Nat) : Nat → W4 → W4 := iterF (stepD K)
theorem itD_succ (K : Nat → Nat) (r : Nat) (s : W4) : itD K (r + 1) s = itD K r (stepD K (r + 1) s) := iterF_succ (stepD K) r s
theorem itD_zero (K : Nat → Nat) (s : W4) : itD K 0 s = s := iterF_zero (stepD K) s
/-- Decryption, as it is walked. -/
def dcW (nr : Nat) (K : Nat → Nat) (s : W4) : W4 := addK K 0 (undoS (itD K (nr - 1) (addK K nr s)))
theorem dcW_ok {K : Nat → Nat} (hK : ∀ i, K i < 4294967296) (nr : Nat) (s : W4) : (dcW nr K s).ok := addK_ok hK _ (undoS_ok _)
theorem iterE_succ (K : Nat → Nat) (r : Nat) (s : W4) : iterE K (r + 1) s = addK K (r + 1) (mixS (iterE K r s)) := rfl
theorem iterE_zero (K : Nat → Nat) (s : W4) : iterE K 0 s = s := rfl
end Go.Proofs.YtcnikfikpnnblaaGreatDoor
namespace Go.Proofs.YtcnikfikpnnblaaGreatDoor
open Go.RowKit
set_option linter.unusedVariables false
theorem xor_self_right (a k : Nat) : Nat.xor (Nat.xor a k) k = a := by
 show (a ^^^ k) ^^^ k = a
 rw [Nat.xor_assoc, Nat.xor_self, Nat.xor_zero]
theorem addK_addK (K : Nat → Nat) (r : Nat) (s : W4) : addK K r (addK K r s) = s := by
 unfold addK
 simp only [xor_self_right]
/-- The bytes of a word of bytes. -/
theorem bt_wd {a b c d : Nat} (ha : a < 256) (hb : b < 256) (hc : c < 256) (hd : d < 256) : bt0 (wd a b c d) = a ∧ bt1 (wd a b c d) = b ∧ bt2 (wd a b c d) = c ∧ bt3 (wd a b c d) = d := by
 unfold bt0 bt1 bt2 bt3 wd
 omega
theorem U_S {b : Nat} (h : b < 256) : UB (SB b) = b := (UB_SB ⟨b, h⟩).1
theorem S_U {b : Nat} (h : b < 256) : SB (UB b) = b := (UB_SB ⟨b, h⟩).2
theorem bt_last (a b c d : Nat) : bt0 (lastw a b c d) = SB (bt0 a) ∧ bt1 (lastw a b c d) = SB (bt1 b) ∧ bt2 (lastw a b c d) = SB (bt2 c) ∧ bt3 (lastw a b c d) = SB (bt3 d) := bt_wd (SB_lt _) (SB_lt _) (SB_lt _) (SB_lt _)
theorem bt_undo (a b c d : Nat) : bt0 (undow a b c d) = UB (bt0 a) ∧ bt1 (undow a b c d) = UB (bt1 b) ∧ bt2 (undow a b c d) = UB (bt2 c) ∧ bt3 (undow a b c d) = UB (bt3 d) := bt_wd (UB_lt _) (UB_lt _) (UB_lt _) (UB_lt _)
theorem undo_last (s : W4) (hs : s.ok) : undoS (lastS s) = s := by
 obtain ⟨a, b, c, d⟩ := s
 obtain ⟨ha, hb, hc, hd⟩ := hs
 simp only at ha hb hc hd
 simp only [undoS, lastS, undow, (bt_last _ _ _ _).1, (bt_last _ _ _ _).2.1, (bt_last _ _ _ _).2.2.1, (bt_last _ _ _ _).2.2.2, U_S (bt0_lt _), U_S (bt1_lt _), U_S (bt2_lt _), U_S (bt3_lt _), wd_bt ha, wd_bt hb, wd_bt hc, wd_bt hd]
theorem last_undo (s : W4) (hs : s.ok) : lastS (undoS s) = s := by
 obtain ⟨a, b, c, d⟩ := s
 obtain ⟨ha, hb, hc, hd⟩ := hs
 simp only at ha hb hc hd
 simp only [undoS, lastS, lastw, (bt_undo _ _ _ _).1, (bt_undo _ _ _ _).2.1, (bt_undo _ _ _ _).2.2.1, (bt_undo _ _ _ _).2.2.2, S_U (bt0_lt _), S_U (bt1_lt _), S_U (bt2_lt _), S_U (bt3_lt _), wd_bt ha, wd_bt hb, wd_bt hc, wd_bt hd]
/-- A column multiplied. -/
def mcw (x : Nat) : Nat :=
 wd (Nat.xor (Nat.xor (Nat.xor (x2 (bt0 x)) (x3 (bt1 x))) (bt2 x)) (bt3 x)) (Nat.xor (Nat.xor (Nat.xor (bt0 x) (x2 (bt1 x))) (x3 (bt2 x))) (bt3 x))
  (Nat.xor (Nat.xor (Nat.xor (bt0 x) (bt1 x)) (x2 (bt2 x))) (x3 (bt3 x))) (Nat.xor (Nat.xor (Nat.xor (x3 (bt0 x)) (bt1 x)) (bt2 x)) (x2 (bt3 x)))
def mcS (s : W4) : W4 := ⟨mcw s.a, mcw s.b, mcw s.c, mcw s.d⟩
theorem xl2 {b : Nat} (h : b < 256) : x2 b < 256 := (x_lt ⟨b, h⟩).1
theorem xl3 {b : Nat} (h : b < 256) : x3 b < 256 := (x_lt ⟨b, h⟩).2.1
theorem xl9 {b : Nat} (h : b < 256) : x9 b < 256 := (x_lt ⟨b, h⟩).2.2.1
theorem xl11 {b : Nat} (h : b < 256) : x11 b < 256 := (x_lt ⟨b, h⟩).2.2.2.1
theorem xl13 {b : Nat} (h : b < 256) : x13 b < 256 := (x_lt ⟨b, h⟩).2.2.2.2.1
theorem xl14 {b : Nat} (h : b < 256) : x14 b < 256 := (x_lt ⟨b, h⟩).2.2.2.2.2
theorem mix_mc (a b c d : Nat) : mixw a b c d = mcw (lastw a b c d) := by
 unfold mixw mixc mcw
 obtain ⟨e0, e1, e2, e3⟩ := bt_last a b c d
 rw [e0, e1, e2, e3]
 have p := SB_lt (bt0 a)
 have q := SB_lt (bt1 b)
 have r := SB_lt (bt2 c)
 have t := SB_lt (bt3 d)
 unfold MX M8 M16 M24
 rw [wd_xor _ _ _ _ _ _ _ _ p p (xl3 p) (xl2 q) q q, wd_xor _ _ _ _ _ _ _ _ (xor_lt8 p (xl2 q)) (xor_lt8 p q) (xor_lt8 (xl3 p) q) (xl3 r) (xl2 r) r, wd_xor _ _ _ _ _ _ _ _ (xor_lt8 (xor_lt8 p (xl2 q)) (xl3 r)) (xor_lt8 (xor_lt8 p q) (xl2 r)) (xor_lt8 (xor_lt8 (xl3 p) q) r) t (xl3 t) (xl2 t)]
/-- Doubling is additive. -/
def addB (a b : Nat) : Bool := Nat.beq (dblN (Nat.xor a b)) (Nat.xor (dblN a) (dblN b))
set_option maxRecDepth 100000 in
theorem addB_all : allB (fun a => allB (addB a) 256) 256 = true := by decide +kernel
theorem dbl_add {a b : Nat} (ha : a < 256) (hb : b < 256) : dblN (a ^^^ b) = dblN a ^^^ dblN b := Nat.eq_of_beq_eq_true (allB_at (allB_at addB_all ha) hb)
theorem x2_add {a b : Nat} (ha : a < 256) (hb : b < 256) : x2 (a ^^^ b) = x2 a ^^^ x2 b := dbl_add ha hb
theorem d_lt {a : Nat} (h : a < 256) : dblN a < 256 := dbl_lt ⟨a, h⟩
theorem x3_add {a b : Nat} (ha : a < 256) (hb : b < 256) : x3 (a ^^^ b) = x3 a ^^^ x3 b := by
 show dblN (a ^^^ b) ^^^ (a ^^^ b) = (dblN a ^^^ a) ^^^ (dblN b ^^^ b)
 rw [dbl_add ha hb]; ac_rfl
theorem d4_add {a b : Nat} (ha : a < 256) (hb : b < 256) : dblN (dblN (a ^^^ b)) = dblN (dblN a) ^^^ dblN (dblN b) := by rw [dbl_add ha hb, dbl_add (d_lt ha) (d_lt hb)]
theorem d8_add {a b : Nat} (ha : a < 256) (hb : b < 256) : dblN (dblN (dblN (a ^^^ b))) = dblN (dblN (dblN a)) ^^^ dblN (dblN (dblN b)) := by rw [d4_add ha hb, dbl_add (d_lt (d_lt ha)) (d_lt (d_lt hb))]
theorem x9_add {a b : Nat} (ha : a < 256) (hb : b < 256) : x9 (a ^^^ b) = x9 a ^^^ x9 b := by
 show dblN (dblN (dblN (a ^^^ b))) ^^^ (a ^^^ b) = (dblN (dblN (dblN a)) ^^^ a) ^^^ (dblN (dblN (dblN b)) ^^^ b)
 rw [d8_add ha hb]; ac_rfl
theorem x11_add {a b : Nat} (ha : a < 256) (hb : b < 256) : x11 (a ^^^ b) = x11 a ^^^ x11 b := by
 show (dblN (dblN (dblN (a ^^^ b))) ^^^ dblN (a ^^^ b)) ^^^ (a ^^^ b) = ((dblN (dblN (dblN a)) ^^^ dblN a) ^^^ a) ^^^ ((dblN (dblN (dblN b)) ^^^ dblN b) ^^^ b)
 rw [d8_add ha hb, dbl_add ha hb]; ac_rfl
theorem x13_add {a b : Nat} (ha : a < 256) (hb : b < 256) : x13 (a ^^^ b) = x13 a ^^^ x13 b := by
 show (dblN (dblN (dblN (a ^^^ b))) ^^^ dblN (dblN (a ^^^ b))) ^^^ (a ^^^ b) = ((dblN (dblN (dblN a)) ^^^ dblN (dblN a)) ^^^ a) ^^^ ((dblN (dblN (dblN b)) ^^^ dblN (dblN b)) ^^^ b)
 rw [d8_add ha hb, d4_add ha hb]; ac_rfl
theorem x14_add {a b : Nat} (ha : a < 256) (hb : b < 256) : x14 (a ^^^ b) = x14 a ^^^ x14 b := by
 show (dblN (dblN (dblN (a ^^^ b))) ^^^ dblN (dblN (a ^^^ b))) ^^^ dblN (a ^^^ b) = ((dblN (dblN (dblN a)) ^^^ dblN (dblN a)) ^^^ dblN a) ^^^ ((dblN (dblN (dblN b)) ^^^ dblN (dblN b)) ^^^ dblN b)
 rw [d8_add ha hb, d4_add ha hb, dbl_add ha hb]; ac_rfl
theorem coef : ∀ p : Fin 256, (((x14 (x2 p.1) ^^^ x11 p.1) ^^^ x13 p.1) ^^^ x9 (x3 p.1) = p.1) ∧ (((x14 (x3 p.1) ^^^ x11 (x2 p.1)) ^^^ x13 p.1) ^^^ x9 p.1 = 0) ∧ (((x14 p.1 ^^^ x11 (x3 p.1)) ^^^ x13 (x2 p.1)) ^^^ x9 p.1 = 0) ∧ (((x14 p.1 ^^^ x11 p.1) ^^^ x13 (x3 p.1)) ^^^ x9 (x2 p.1) = 0) := by decide +kernel
theorem coef2 : ∀ p : Fin 256, (((x2 (x14 p.1) ^^^ x3 (x9 p.1)) ^^^ x13 p.1) ^^^ x11 p.1 = p.1) ∧ (((x2 (x11 p.1) ^^^ x3 (x14 p.1)) ^^^ x9 p.1) ^^^ x13 p.1 = 0) ∧ (((x2 (x13 p.1) ^^^ x3 (x11 p.1)) ^^^ x14 p.1) ^^^ x9 p.1 = 0) ∧ (((x2 (x9 p.1) ^^^ x3 (x13 p.1)) ^^^ x11 p.1) ^^^ x14 p.1 = 0) := by decide +kernel
end Go.Proofs.YtcnikfikpnnblaaGreatDoor
namespace Go.Proofs.YtcnikfikpnnblaaGreatDoor.Fd
open Go.ChangeShapes Go.WideShapes Go.ChangeAt Go.RowKit
set_option linter.unusedVariables false
def pk (F : Nat → Nat) : Nat → Nat
 | 0 => 0
 | n + 1 => pk F n + F n * 256 ^ n
theorem pk_lt (F : Nat → Nat) (hF : ∀ i, F i < 256) (n : Nat) : pk F n < 256 ^ n := by
 induction n with
 | zero => simp [pk]
 | succ n ih =>
  have h := hF n
  rw [pk, Nat.pow_succ]
  have : F n * 256 ^ n ≤ 255 * 256 ^ n := Nat.mul_le_mul_right _ (by omega)
  omega
theorem pk_at (F : Nat → Nat) (hF : ∀ i, F i < 256) (n i : Nat) (hi : i < n) : pk F n / 256 ^ i % 256 = F i := by
 induction n with
 | zero => omega
 | succ n ih =>
  rw [pk]
  by_cases h : i < n
  ·have e : F n * 256 ^ n = (F n * 256 ^ (n - i - 1) * 256) * 256 ^ i := by
    rw [Nat.mul_assoc, Nat.mul_assoc, ← Nat.pow_succ', ← Nat.pow_add]
    congr 2
    omega
   rw [e, Nat.add_mul_div_right _ _ (Nat.pow_pos (by decide)), Nat.add_mul_mod_self_right]
   exact ih h
  ·have e : i = n := by omega
   subst e
   rw [Nat.add_mul_div_right _ _ (Nat.pow_pos (by decide)), Nat.div_eq_of_lt (pk_lt F hF i), Nat.zero_add]
   exact Nat.mod_eq_of_lt (hF i)
theorem byV_pk (F : Nat → Nat) (hF : ∀ i, F i < 256) (i : Nat) (hi : i < 16) : byV (BitVec.ofNat 128 (pk F 16)) i = F i := by
 have h := pk_lt F hF 16
 unfold byV
 rw [BitVec.toNat_ofNat]
 have e : pk F 16 % 2 ^ 128 = pk F 16 := Nat.mod_eq_of_lt (Nat.lt_of_lt_of_eq h (by decide))
 rw [e]
 exact pk_at F hF 16 i hi
theorem list16 {cs : List Value} {v : BitVec 128} (h : cs.length = 16) (hf : ∀ i, i < 16 → cs[i]? = some (.int .u8 (byV v i : Nat))) : cs = BL v := by
 apply List.ext_getElem?
 intro i
 by_cases hi : i < 16
 ·rw [hf i hi, BL_at v i hi]
 ·rw [List.getElem?_eq_none (by omega), List.getElem?_eq_none (by rw [BL_length]; omega)]
end Go.Proofs.YtcnikfikpnnblaaGreatDoor.Fd
namespace Go.Proofs.YtcnikfikpnnblaaGreatDoor.Fd
open Go.RowKit Go.Proofs.YtcnikfikpnnblaaGreatDoor.Fld
set_option linter.unusedVariables false
set_option linter.unusedSimpArgs false
/-- A block, its bytes turned round. -/
def rv (v : BitVec 128) : BitVec 128 := BitVec.ofNat 128 (pk (fun i => byV v (15 - i)) 16)
theorem byV_rv (v : BitVec 128) (i : Nat) (hi : i < 16) : byV (rv v) i = byV v (15 - i) := byV_pk _ (fun _ => byV_lt _ _) i hi
theorem zeros_at (j : Nat) (hj : j < 16) : (#[.int .u8 0, .int .u8 0, .int .u8 0, .int .u8 0, .int .u8 0, .int .u8 0, .int .u8 0, .int .u8 0, .int .u8 0, .int .u8 0, .int .u8 0, .int .u8 0, .int .u8 0, .int .u8 0, .int .u8 0, .int .u8 0] : Array Value).toList[j]? = some (.int .u8 0) := by
 have h16 : j = 0 ∨ j = 1 ∨ j = 2 ∨ j = 3 ∨ j = 4 ∨ j = 5 ∨ j = 6 ∨ j = 7 ∨ j = 8 ∨ j = 9 ∨ j = 10 ∨ j = 11 ∨ j = 12 ∨ j = 13 ∨ j = 14 ∨ j = 15 := by omega
 rcases h16 with rfl | rfl | rfl | rfl | rfl | rfl | rfl | rfl | rfl | rfl | rfl | rfl | rfl | rfl | rfl | rfl <;> rfl
theorem ext_bytes {a b : BitVec 128} (h : ∀ i, i < 16 → byV a i = byV b i) : a = b := by
 have e : a ^^^ b = 0#128 := (zero_bytes _).2 fun j hj => by rw [byV_xor, h j hj]; exact Nat.xor_self _
 have q := congrArg (· ^^^ b) e
 simpa [BitVec.xor_assoc] using q
theorem rv_rv (v : BitVec 128) : rv (rv v) = v := ext_bytes fun i hi => by
 rw [byV_rv _ i hi, byV_rv _ _ (by omega)]
 congr 1
 omega
theorem rv_xor (a b : BitVec 128) : rv (a ^^^ b) = rv a ^^^ rv b := ext_bytes fun i hi => by
 rw [byV_rv _ i hi, byV_xor, byV_xor, byV_rv _ i hi, byV_rv _ i hi]
set_option maxHeartbeats 1600000 in
set_option maxRecDepth 100000 in
theorem turned_ok (v : BitVec 128) (w : World) : Calls Tryz.prog 199 #[BV v] w fun e w' => e = .returned (BV (rv v)) ∧ Below w.heap.size w w' := by
 have HC : Hid (Below w.heap.size w (((w.alloc (.cells #[.int .u8 (byV v 0 : Nat), .int .u8 (byV v 1 : Nat), .int .u8 (byV v 2 : Nat), .int .u8 (byV v 3 : Nat), .int .u8 (byV v 4 : Nat), .int .u8 (byV v 5 : Nat), .int .u8 (byV v 6 : Nat), .int .u8 (byV v 7 : Nat), .int .u8 (byV v 8 : Nat), .int .u8 (byV v 9 : Nat), .int .u8 (byV v 10 : Nat), .int .u8 (byV v 11 : Nat), .int .u8 (byV v 12 : Nat), .int .u8 (byV v 13 : Nat), .int .u8 (byV v 14 : Nat), .int .u8 (byV v 15 : Nat)] 29)).alloc (.cells #[.int .u8 0, .int .u8 0, .int .u8 0, .int .u8 0, .int .u8 0, .int .u8 0, .int .u8 0, .int .u8 0, .int .u8 0, .int .u8 0, .int .u8 0, .int .u8 0, .int .u8 0, .int .u8 0, .int .u8 0, .int .u8 0] 29)).alloc (.cells #[.int .u8 0, .int .u8 0, .int .u8 0, .int .u8 0, .int .u8 0, .int .u8 0, .int .u8 0, .int .u8 0, .int .u8 0, .int .u8 0, .int .u8 0, .int .u8 0, .int .u8 0, .int .u8 0, .int .u8 0, .int .u8 0] 29)) ∧ (∀ j, j < 16 → (((w.alloc (.cells #[.int .u8 (byV v 0 : Nat), .int .u8 (byV v 1 : Nat), .int .u8 (byV v 2 : Nat), .int .u8 (byV v 3 : Nat), .int .u8 (byV v 4 : Nat), .int .u8 (byV v 5 : Nat), .int .u8 (byV v 6 : Nat), .int .u8 (byV v 7 : Nat), .int .u8 (byV v 8 : Nat), .int .u8 (byV v 9 : Nat), .int .u8 (byV v 10 : Nat), .int .u8 (byV v 11 : Nat), .int .u8 (byV v 12 : Nat), .int .u8 (byV v 13 : Nat), .int .u8 (byV v 14 : Nat), .int .u8 (byV v 15 : Nat)] 29)).alloc (.cells #[.int .u8 0, .int .u8 0, .int .u8 0, .int .u8 0, .int .u8 0, .int .u8 0, .int .u8 0, .int .u8 0, .int .u8 0, .int .u8 0, .int .u8 0, .int .u8 0, .int .u8 0, .int .u8 0, .int .u8 0, .int .u8 0] 29)).alloc (.cells #[.int .u8 0, .int .u8 0, .int .u8 0, .int .u8 0, .int .u8 0, .int .u8 0, .int .u8 0, .int .u8 0, .int .u8 0, .int .u8 0, .int .u8 0, .int .u8 0, .int .u8 0, .int .u8 0, .int .u8 0, .int .u8 0] 29)).cell? ⟨w.heap.size, j, none⟩ = some (.int .u8 (byV v j : Nat))) ∧ (((w.alloc (.cells #[.int .u8 (byV v 0 : Nat), .int .u8 (byV v 1 : Nat), .int .u8 (byV v 2 : Nat), .int .u8 (byV v 3 : Nat), .int .u8 (byV v 4 : Nat), .int .u8 (byV v 5 : Nat), .int .u8 (byV v 6 : Nat), .int .u8 (byV v 7 : Nat), .int .u8 (byV v 8 : Nat), .int .u8 (byV v 9 : Nat), .int .u8 (byV v 10 : Nat), .int .u8 (byV v 11 : Nat), .int .u8 (byV v 12 : Nat), .int .u8 (byV v 13 : Nat), .int .u8 (byV v 14 : Nat), .int .u8 (byV v 15 : Nat)] 29)).alloc (.cells #[.int .u8 0, .int .u8 0, .int .u8 0, .int .u8 0, .int .u8 0, .int .u8 0, .int .u8 0, .int .u8 0, .int .u8 0, .int .u8 0, .int .u8 0, .int .u8 0, .int .u8 0, .int .u8 0, .int .u8 0, .int .u8 0] 29)).alloc (.cells #[.int .u8 0, .int .u8 0, .int .u8 0, .int .u8 0, .int .u8 0, .int .u8 0, .int .u8 0, .int .u8 0, .int .u8 0, .int .u8 0, .int .u8 0, .int .u8 0, .int .u8 0, .int .u8 0, .int .u8 0, .int .u8 0] 29)).there (w.heap.size + 1) 0 16 ∧ (((w.alloc (.cells #[.int .u8 (byV v 0 : Nat), .int .u8 (byV v 1 : Nat), .int .u8 (byV v 2 : Nat), .int .u8 (byV v 3 : Nat), .int .u8 (byV v 4 : Nat), .int .u8 (byV v 5 : Nat), .int .u8 (byV v 6 : Nat), .int .u8 (byV v 7 : Nat), .int .u8 (byV v 8 : Nat), .int .u8 (byV v 9 : Nat), .int .u8 (byV v 10 : Nat), .int .u8 (byV v 11 : Nat), .int .u8 (byV v 12 : Nat), .int .u8 (byV v 13 : Nat), .int .u8 (byV v 14 : Nat), .int .u8 (byV v 15 : Nat)] 29)).alloc (.cells #[.int .u8 0, .int .u8 0, .int .u8 0, .int .u8 0, .int .u8 0, .int .u8 0, .int .u8 0, .int .u8 0, .int .u8 0, .int .u8 0, .int .u8 0, .int .u8 0, .int .u8 0, .int .u8 0, .int .u8 0, .int .u8 0] 29)).alloc (.cells #[.int .u8 0, .int .u8 0, .int .u8 0, .int .u8 0, .int .u8 0, .int .u8 0, .int .u8 0, .int .u8 0, .int .u8 0, .int .u8 0, .int .u8 0, .int .u8 0, .int .u8 0, .int .u8 0, .int .u8 0, .int .u8 0] 29)).there (w.heap.size + 2) 0 16 ∧ (∀ j, j < 16 → (((w.alloc (.cells #[.int .u8 (byV v 0 : Nat), .int .u8 (byV v 1 : Nat), .int .u8 (byV v 2 : Nat), .int .u8 (byV v 3 : Nat), .int .u8 (byV v 4 : Nat), .int .u8 (byV v 5 : Nat), .int .u8 (byV v 6 : Nat), .int .u8 (byV v 7 : Nat), .int .u8 (byV v 8 : Nat), .int .u8 (byV v 9 : Nat), .int .u8 (byV v 10 : Nat), .int .u8 (byV v 11 : Nat), .int .u8 (byV v 12 : Nat), .int .u8 (byV v 13 : Nat), .int .u8 (byV v 14 : Nat), .int .u8 (byV v 15 : Nat)] 29)).alloc (.cells #[.int .u8 0, .int .u8 0, .int .u8 0, .int .u8 0, .int .u8 0, .int .u8 0, .int .u8 0, .int .u8 0, .int .u8 0, .int .u8 0, .int .u8 0, .int .u8 0, .int .u8 0, .int .u8 0, .int .u8 0, .int .u8 0] 29)).alloc (.cells #[.int .u8 0, .int .u8 0, .int .u8 0, .int .u8 0, .int .u8 0, .int .u8 0, .int .u8 0, .int .u8 0, .int .u8 0, .int .u8 0, .int .u8 0, .int .u8 0, .int .u8 0, .int .u8 0, .int .u8 0, .int .u8 0] 29)).cell? ⟨w.heap.size + 2, j, none⟩ = some (.int .u8 0)) ∧ (((w.alloc (.cells #[.int .u8 (byV v 0 : Nat), .int .u8 (byV v 1 : Nat), .int .u8 (byV v 2 : Nat), .int .u8 (byV v 3 : Nat), .int .u8 (byV v 4 : Nat), .int .u8 (byV v 5 : Nat), .int .u8 (byV v 6 : Nat), .int .u8 (byV v 7 : Nat), .int .u8 (byV v 8 : Nat), .int .u8 (byV v 9 : Nat), .int .u8 (byV v 10 : Nat), .int .u8 (byV v 11 : Nat), .int .u8 (byV v 12 : Nat), .int .u8 (byV v 13 : Nat), .int .u8 (byV v 14 : Nat), .int .u8 (byV v 15 : Nat)] 29)).alloc (.cells #[.int .u8 0, .int .u8 0, .int .u8 0, .int .u8 0, .int .u8 0, .int .u8 0, .int .u8 0, .int .u8 0, .int .u8 0, .int .u8 0, .int .u8 0, .int .u8 0, .int .u8 0, .int .u8 0, .int .u8 0, .int .u8 0] 29)).alloc (.cells #[.int .u8 0, .int .u8 0, .int .u8 0, .int .u8 0, .int .u8 0, .int .u8 0, .int .u8 0, .int .u8 0, .int .u8 0, .int .u8 0, .int .u8 0, .int .u8 0, .int .u8 0, .int .u8 0, .int .u8 0, .int .u8 0] 29)).heap.size = w.heap.size + 3) := by
  refine ⟨below3 w _ _ _, fun j hj => ?_, ?_, ?_, fun j hj => ?_, by simp⟩
  ·have h := rangeAt_new w #[.int .u8 (byV v 0 : Nat), .int .u8 (byV v 1 : Nat), .int .u8 (byV v 2 : Nat), .int .u8 (byV v 3 : Nat), .int .u8 (byV v 4 : Nat), .int .u8 (byV v 5 : Nat), .int .u8 (byV v 6 : Nat), .int .u8 (byV v 7 : Nat), .int .u8 (byV v 8 : Nat), .int .u8 (byV v 9 : Nat), .int .u8 (byV v 10 : Nat), .int .u8 (byV v 11 : Nat), .int .u8 (byV v 12 : Nat), .int .u8 (byV v 13 : Nat), .int .u8 (byV v 14 : Nat), .int .u8 (byV v 15 : Nat)] 29 j _ (BL_at v j hj)
   rw [Nat.zero_add] at h
   rw [World.cell?_alloc_lt _ _ _ (show w.heap.size < _ by simp; omega), World.cell?_alloc_lt _ _ _ (show w.heap.size < _ by simp)]
   exact h
  ·have h := there_new (w.alloc (.cells #[.int .u8 (byV v 0 : Nat), .int .u8 (byV v 1 : Nat), .int .u8 (byV v 2 : Nat), .int .u8 (byV v 3 : Nat), .int .u8 (byV v 4 : Nat), .int .u8 (byV v 5 : Nat), .int .u8 (byV v 6 : Nat), .int .u8 (byV v 7 : Nat), .int .u8 (byV v 8 : Nat), .int .u8 (byV v 9 : Nat), .int .u8 (byV v 10 : Nat), .int .u8 (byV v 11 : Nat), .int .u8 (byV v 12 : Nat), .int .u8 (byV v 13 : Nat), .int .u8 (byV v 14 : Nat), .int .u8 (byV v 15 : Nat)] 29)) #[.int .u8 0, .int .u8 0, .int .u8 0, .int .u8 0, .int .u8 0, .int .u8 0, .int .u8 0, .int .u8 0, .int .u8 0, .int .u8 0, .int .u8 0, .int .u8 0, .int .u8 0, .int .u8 0, .int .u8 0, .int .u8 0] 29 16 (Nat.le_refl _)
   have q := World.there_alloc h (.cells #[.int .u8 0, .int .u8 0, .int .u8 0, .int .u8 0, .int .u8 0, .int .u8 0, .int .u8 0, .int .u8 0, .int .u8 0, .int .u8 0, .int .u8 0, .int .u8 0, .int .u8 0, .int .u8 0, .int .u8 0, .int .u8 0] 29)
   simpa using q
  ·have h := there_new ((w.alloc (.cells #[.int .u8 (byV v 0 : Nat), .int .u8 (byV v 1 : Nat), .int .u8 (byV v 2 : Nat), .int .u8 (byV v 3 : Nat), .int .u8 (byV v 4 : Nat), .int .u8 (byV v 5 : Nat), .int .u8 (byV v 6 : Nat), .int .u8 (byV v 7 : Nat), .int .u8 (byV v 8 : Nat), .int .u8 (byV v 9 : Nat), .int .u8 (byV v 10 : Nat), .int .u8 (byV v 11 : Nat), .int .u8 (byV v 12 : Nat), .int .u8 (byV v 13 : Nat), .int .u8 (byV v 14 : Nat), .int .u8 (byV v 15 : Nat)] 29)).alloc (.cells #[.int .u8 0, .int .u8 0, .int .u8 0, .int .u8 0, .int .u8 0, .int .u8 0, .int .u8 0, .int .u8 0, .int .u8 0, .int .u8 0, .int .u8 0, .int .u8 0, .int .u8 0, .int .u8 0, .int .u8 0, .int .u8 0] 29)) #[.int .u8 0, .int .u8 0, .int .u8 0, .int .u8 0, .int .u8 0, .int .u8 0, .int .u8 0, .int .u8 0, .int .u8 0, .int .u8 0, .int .u8 0, .int .u8 0, .int .u8 0, .int .u8 0, .int .u8 0, .int .u8 0] 29 16 (Nat.le_refl _)
   simpa using h
  ·have h := range3 w (.cells #[.int .u8 (byV v 0 : Nat), .int .u8 (byV v 1 : Nat), .int .u8 (byV v 2 : Nat), .int .u8 (byV v 3 : Nat), .int .u8 (byV v 4 : Nat), .int .u8 (byV v 5 : Nat), .int .u8 (byV v 6 : Nat), .int .u8 (byV v 7 : Nat), .int .u8 (byV v 8 : Nat), .int .u8 (byV v 9 : Nat), .int .u8 (byV v 10 : Nat), .int .u8 (byV v 11 : Nat), .int .u8 (byV v 12 : Nat), .int .u8 (byV v 13 : Nat), .int .u8 (byV v 14 : Nat), .int .u8 (byV v 15 : Nat)] 29) (.cells #[.int .u8 0, .int .u8 0, .int .u8 0, .int .u8 0, .int .u8 0, .int .u8 0, .int .u8 0, .int .u8 0, .int .u8 0, .int .u8 0, .int .u8 0, .int .u8 0, .int .u8 0, .int .u8 0, .int .u8 0, .int .u8 0] 29) #[.int .u8 0, .int .u8 0, .int .u8 0, .int .u8 0, .int .u8 0, .int .u8 0, .int .u8 0, .int .u8 0, .int .u8 0, .int .u8 0, .int .u8 0, .int .u8 0, .int .u8 0, .int .u8 0, .int .u8 0, .int .u8 0] 29 j (.int .u8 0) (zeros_at j hj)
   rw [Nat.zero_add] at h
   exact h
 unfold BV
 show Calls Tryz.prog 199 #[.agg #[.int .u8 (byV v 0 : Nat), .int .u8 (byV v 1 : Nat), .int .u8 (byV v 2 : Nat), .int .u8 (byV v 3 : Nat), .int .u8 (byV v 4 : Nat), .int .u8 (byV v 5 : Nat), .int .u8 (byV v 6 : Nat), .int .u8 (byV v 7 : Nat), .int .u8 (byV v 8 : Nat), .int .u8 (byV v 9 : Nat), .int .u8 (byV v 10 : Nat), .int .u8 (byV v 11 : Nat), .int .u8 (byV v 12 : Nat), .int .u8 (byV v 13 : Nat), .int .u8 (byV v 14 : Nat), .int .u8 (byV v 15 : Nat)]] w _
 go_enter Tryz.func199, Tryz.ntmps199
 go_upto_region 2 with fail
 generalize ((w.alloc (.cells #[.int .u8 (byV v 0 : Nat), .int .u8 (byV v 1 : Nat), .int .u8 (byV v 2 : Nat), .int .u8 (byV v 3 : Nat), .int .u8 (byV v 4 : Nat), .int .u8 (byV v 5 : Nat), .int .u8 (byV v 6 : Nat), .int .u8 (byV v 7 : Nat), .int .u8 (byV v 8 : Nat), .int .u8 (byV v 9 : Nat), .int .u8 (byV v 10 : Nat), .int .u8 (byV v 11 : Nat), .int .u8 (byV v 12 : Nat), .int .u8 (byV v 13 : Nat), .int .u8 (byV v 14 : Nat), .int .u8 (byV v 15 : Nat)] 29)).alloc (.cells #[.int .u8 0, .int .u8 0, .int .u8 0, .int .u8 0, .int .u8 0, .int .u8 0, .int .u8 0, .int .u8 0, .int .u8 0, .int .u8 0, .int .u8 0, .int .u8 0, .int .u8 0, .int .u8 0, .int .u8 0, .int .u8 0] 29)).alloc (.cells #[.int .u8 0, .int .u8 0, .int .u8 0, .int .u8 0, .int .u8 0, .int .u8 0, .int .u8 0, .int .u8 0, .int .u8 0, .int .u8 0, .int .u8 0, .int .u8 0, .int .u8 0, .int .u8 0, .int .u8 0, .int .u8 0] 29) = w2 at HC ⊢
 go_wp2
 go_loopw [4, 5] (fun s4 i wr => ∃ k : Nat, k ≤ 16 ∧ i = .int .i64 (k : Nat) ∧ Hid (Touch w2 wr (w.heap.size + 2) 0 16 ∧ ∀ j, j < 16 → wr.cell? ⟨w.heap.size + 2, j, none⟩ = some (.int .u8 ((if 15 - j < k then byV v (15 - j) else 0 : Nat) : Int)))) (fun s4 i _ => 16 - (intOf i).toNat)
 case atStart => exact ⟨0, by omega, rfl, Touch.refl _ _ _ _, fun j hj => by rw [if_neg (by omega)]; exact HC.out.2.2.2.2.1 j hj⟩
 case round =>
  obtain ⟨k, hk, rfl, HR⟩ := hrel
  by_cases hlt : k < 16
  ·obtain ⟨r, hr⟩ : ∃ r, r + k = 15 := ⟨15 - k, by omega⟩
   have c1 : wr.cell? ⟨w.heap.size, k, none⟩ = some (.int .u8 (byV v k : Nat)) := by
    have hz := HC.out.2.2.2.2.2
    rw [HR.out.1.far (p := ⟨w.heap.size, k, none⟩) (show w.heap.size < _ by omega) (show w.heap.size ≠ _ by omega)]
    exact HC.out.2.1 k (by omega)
   have c2 := HR.out.2 r (by omega)
   rw [if_neg (by omega)] at c2
   have f1 := (HR.out.1.there _ _ HC.out.2.2.2.1 r (by omega)).2
   rw [Nat.zero_add] at f1
   obtain ⟨x1, HX1⟩ : ∃ x, Hid (x = byV v k) := ⟨_, rfl⟩
   rw [← HX1.out] at c1
   have hki : ((k : Nat) : Int) < 16 := by omega
   have hri : (15 : Int) - ((k : Nat) : Int) = (r : Nat) := by omega
   have hrw : IntKind.i64.wrap ((r : Nat) : Int) = (r : Nat) := by simp [IntKind.wrap, IntKind.bits, IntKind.signed]; omega
   have hr16 : ((r : Nat) : Int) < 16 := by omega
   go_wp2
   refine ⟨⟨k + 1, by omega, rfl, (HR.out.1.setCell r _ (by omega) (by omega)), fun j hj => ?_⟩, by simp only [intOf]; omega⟩
   by_cases hjk : j = r
   ·subst hjk
    rw [if_pos (by omega), World.cell?_setCell_same' _ _ _ (by rw [c2]; rfl), HX1.out, show k = 15 - j by omega]
   ·rw [cell_other2 _ _ _ _ _ (by omega), HR.out.2 j hj]
    congr 3
    by_cases h : 15 - j < k
    ·rw [if_pos h, if_pos (by omega)]
    ·rw [if_neg h, if_neg (by omega)]
  ·obtain rfl : k = 16 := by omega
   have H4 : Hid (wr.rangeAt (w.heap.size + 2) 0 (BL (rv v)) ∧ wr.there (w.heap.size + 1) 0 16 ∧ Below w.heap.size w wr) := by
    obtain ⟨t1, t2, t3, t4, t5, t6⟩ := HC.out
    obtain ⟨p1, p2⟩ := HR.out
    refine ⟨BL_range (fun j hj => ?_), fun j hj => ?_, t1.trans (p1.toBelow (by omega) (by omega))⟩
    ·have h := p2 j hj
     rw [if_pos (by omega)] at h
     rw [h, byV_rv v j hj]
    ·rw [p1.far (p := ⟨w.heap.size + 1, 0 + j, none⟩) (show w.heap.size + 1 < _ by omega) (show w.heap.size + 1 ≠ _ by omega), p1.farFrozen (p := ⟨w.heap.size + 1, 0 + j, none⟩) (show w.heap.size + 1 < _ by omega) (show w.heap.size + 1 ≠ _ by omega)]
     exact t3 j hj
   clear HR hlt hk
   obtain ⟨L, HLL⟩ : ∃ L, Hid (L = BL (rv v)) := ⟨_, rfl⟩
   rw [← HLL.out] at H4
   have HLl : Hid (L.length = 16) := by show _ = _; rw [HLL.out]; rfl
   have HLo : Hid (L.toArray.all (·.oneCell') = true) := by show _ = _; rw [HLL.out]; exact BL_one _
   have hTH : wr.there (w.heap.size + 1) 0 L.length := by rw [HLl.out]; exact H4.out.2.1
   go_wp2_with (first
    | (refine wpList_load_mid (by rfl) 29 (.tmp 3) (by rfl) (w.heap.size + 2) 0 (by rfl) L _ H4.out.1 Tryz.underlying29 rfl (by rw [HLl.out]; exact size23) ?_)
    | (refine wpList_store_mid (by rfl) 29 (.tmp 2) (.tmp 15) (by rfl) (w.heap.size + 1) 0 L.toArray (by rfl) (by rfl) (by simpa using hTH) (by rw [List.size_toArray, HLl.out]; exact size23) HLo.out ?_))
   refine ret_array L Tryz.results199 rfl (World.rangeAt_setCells_same _ _ _ _ hTH) Tryz.underlying29 rfl (by rw [HLl.out]; exact size23) ⟨?_, belowB_setCells _ (by omega) _ _ _ H4.out.2.2⟩
   rw [HLL.out]
   rfl
end Go.Proofs.YtcnikfikpnnblaaGreatDoor.Fd
