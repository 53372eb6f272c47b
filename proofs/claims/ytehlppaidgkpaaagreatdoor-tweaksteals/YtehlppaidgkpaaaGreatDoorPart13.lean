import Derived.Test.YtehlppaidgkpaaaGreatDoorBlk
import Derived.Test.YtehlppaidgkpaaaGreatDoorPart00
namespace Go.Proofs.YtehlppaidgkpaaaGreatDoor
open Go.RowKit
set_option linter.unusedVariables false
/-- The bytes of a word. -/
def bt0 (x : Nat) : Nat := x / 16777216 % 256
def bt1 (x : Nat) : Nat := x / 65536 % 256
def bt2 (x : Nat) : Nat := x / 256 % 256
def bt3 (x : Nat) : Nat := x % 256
theorem bt0_lt (x : Nat) : bt0 x < 256 := Nat.mod_lt _ (by decide)
theorem bt1_lt (x : Nat) : bt1 x < 256 := Nat.mod_lt _ (by decide)
theorem bt2_lt (x : Nat) : bt2 x < 256 := Nat.mod_lt _ (by decide)
theorem bt3_lt (x : Nat) : bt3 x < 256 := Nat.mod_lt _ (by decide)
theorem wd_bt {x : Nat} (h : x < 4294967296) : wd (bt0 x) (bt1 x) (bt2 x) (bt3 x) = x := by unfold wd bt0 bt1 bt2 bt3; omega
theorem int_bt0 (x : Nat) : (x : Int) / 16777216 % 256 = (bt0 x : Nat) := by unfold bt0; omega
theorem int_bt1 (x : Nat) : (x : Int) / 65536 % 256 = (bt1 x : Nat) := by unfold bt1; omega
theorem int_bt2 (x : Nat) : (x : Int) / 256 % 256 = (bt2 x : Nat) := by unfold bt2; omega
theorem int_bt3 (x : Nat) : (x : Int) % 256 = (bt3 x : Nat) := by unfold bt3; omega
def mixw (a b c d : Nat) : Nat := mixc (bt0 a) (bt1 b) (bt2 c) (bt3 d)
def lastw (a b c d : Nat) : Nat := wd (SB (bt0 a)) (SB (bt1 b)) (SB (bt2 c)) (SB (bt3 d))
theorem mixw_lt (a b c d : Nat) : mixw a b c d < 4294967296 := xor_lt32 (xor_lt32 (xor_lt32 (MX_lt (bt0_lt a)) (M8_lt (bt1_lt b))) (M16_lt (bt2_lt c))) (M24_lt (bt3_lt d))
theorem lastw_lt (a b c d : Nat) : lastw a b c d < 4294967296 := wd_lt (SB_lt _) (SB_lt _) (SB_lt _) (SB_lt _)
/-- A state: four columns. -/
structure W4 where
  (a b c d : Nat)
def W4.ok (s : W4) : Prop := s.a < 4294967296 ∧ s.b < 4294967296 ∧ s.c < 4294967296 ∧ s.d < 4294967296
def W4.val (s : W4) : Value := cols s.a s.b s.c s.d
def W4.blk (s : W4) : Value := YtehlppaidgkpaaaGreatDoor.blk (bt0 s.a) (bt1 s.a) (bt2 s.a) (bt3 s.a) (bt0 s.b) (bt1 s.b) (bt2 s.b) (bt3 s.b) (bt0 s.c) (bt1 s.c) (bt2 s.c) (bt3 s.c) (bt0 s.d) (bt1 s.d) (bt2 s.d) (bt3 s.d)
def addK (K : Nat → Nat) (r : Nat) (s : W4) : W4 := ⟨Nat.xor s.a (K (4 * r)), Nat.xor s.b (K (4 * r + 1)), Nat.xor s.c (K (4 * r + 2)), Nat.xor s.d (K (4 * r + 3))⟩
def mixS (s : W4) : W4 := ⟨mixw s.a s.b s.c s.d, mixw s.b s.c s.d s.a, mixw s.c s.d s.a s.b, mixw s.d s.a s.b s.c⟩
def lastS (s : W4) : W4 := ⟨lastw s.a s.b s.c s.d, lastw s.b s.c s.d s.a, lastw s.c s.d s.a s.b, lastw s.d s.a s.b s.c⟩
theorem mixS_ok (s : W4) : (mixS s).ok := ⟨mixw_lt _ _ _ _, mixw_lt _ _ _ _, mixw_lt _ _ _ _, mixw_lt _ _ _ _⟩
theorem lastS_ok (s : W4) : (lastS s).ok := ⟨lastw_lt _ _ _ _, lastw_lt _ _ _ _, lastw_lt _ _ _ _, lastw_lt _ _ _ _⟩
theorem addK_ok {K : Nat → Nat} (hK : ∀ i, K i < 4294967296) (r : Nat) {s : W4} (h : s.ok) : (addK K r s).ok := ⟨xor_lt32 h.1 (hK _), xor_lt32 h.2.1 (hK _), xor_lt32 h.2.2.1 (hK _), xor_lt32 h.2.2.2 (hK _)⟩
/-- Rounds 1 to r. -/
def iterE (K : Nat → Nat) : Nat → W4 → W4
  | 0, s => s
  | r + 1, s => addK K (r + 1) (mixS (iterE K r s))
def encW (nr : Nat) (K : Nat → Nat) (s : W4) : W4 := addK K nr (lastS (iterE K (nr - 1) (addK K 0 s)))
/-- A cipher at g, o. -/
structure Ciph (w : World) (g o nr : Nat) (K : Nat → Nat) : Prop where
  rounds : w.cell? ⟨g, o, none⟩ = some (.int .i64 (nr : Nat))
  words : ∀ i, i < 4 * (nr + 1) → w.cell? ⟨g, o + 1 + i, none⟩ = some (.int .u32 (K i : Nat))
  small : ∀ i, K i < 4294967296
  tab : Tab w g o
  here : g < w.heap.size
  some : 1 ≤ nr
  most : nr ≤ 14
theorem Tab.below {B : Nat} {w w' : World} {g o : Nat} (h : Tab w g o) (hb : Below B w w') (hg : g < B) : Tab w' g o :=
  ⟨fun b hb' => (hb.cell hg).trans (h.s b hb'), fun b hb' => (hb.cell hg).trans (h.u b hb'), fun b hb' => (hb.cell hg).trans (h.m b hb'), fun b hb' => (hb.cell hg).trans (h.n b hb')⟩
theorem Ciph.below {B : Nat} {w w' : World} {g o nr : Nat} {K : Nat → Nat} (h : Ciph w g o nr K) (hb : Below B w w') (hg : g < B) : Ciph w' g o nr K :=
  ⟨(hb.cell hg).trans h.rounds, fun i hi => (hb.cell hg).trans (h.words i hi), h.small, h.tab.below hb hg, Nat.lt_of_lt_of_le h.here hb.size, h.some, h.most⟩
theorem Below.drewN {B : Nat} {a w : World} (h : Below B a w) (m : Nat) : Below B a (w.drewN m) := ⟨h.os, h.tape, h.output, h.size, h.block⟩
theorem there_below {B : Nat} {w w' : World} {g o n : Nat} (h : w.there g o n) (hb : Below B w w') (hg : g < B) : w'.there g o n := fun j hj => by
  obtain ⟨h1, h2⟩ := h j hj
  exact ⟨by rw [hb.cell hg]; exact h1, by rw [hb.frozen hg]; exact h2⟩

/-- The columns' calls, as long as the cipher stands. -/
theorem mix_c {B g o nr : Nat} {K : Nat → Nat} {w : World} (hC : Ciph w g o nr K) (hg : g < B) (a b c d m : Nat) (hm : Hid (m = mixw a b c d)) : ∀ u, Below B w u →
    Calls Tryz.prog 88 #[.pointer (some ⟨g, o, none⟩), .int .u32 (a : Nat), .int .u32 (b : Nat), .int .u32 (c : Nat), .int .u32 (d : Nat)] u fun e u' => e = .returned (.int .u32 (m : Nat)) ∧ Below B w u' := fun u hu => by
  refine (mix_ok g o a b c d _ _ _ _ u (bt0_lt a) (bt1_lt b) (bt2_lt c) (bt3_lt d) (int_bt0 a) (int_bt1 b) (int_bt2 c) (int_bt3 d) (hC.tab.below hu hg)).mono fun e u' ⟨h1, k, h2⟩ => ?_
  subst h2
  exact ⟨by rw [h1, hm.out]; rfl, Below.drewN hu k⟩
theorem last_c {B g o nr : Nat} {K : Nat → Nat} {w : World} (hC : Ciph w g o nr K) (hg : g < B) (a b c d m : Nat) (hm : Hid (m = lastw a b c d)) : ∀ u, Below B w u →
    Calls Tryz.prog 90 #[.pointer (some ⟨g, o, none⟩), .int .u32 (a : Nat), .int .u32 (b : Nat), .int .u32 (c : Nat), .int .u32 (d : Nat)] u fun e u' => e = .returned (.int .u32 (m : Nat)) ∧ Below B w u' := fun u hu => by
  refine (last_ok g o a b c d _ _ _ _ u (bt0_lt a) (bt1_lt b) (bt2_lt c) (bt3_lt d) (int_bt0 a) (int_bt1 b) (int_bt2 c) (int_bt3 d) (hC.tab.below hu hg)).mono fun e u' ⟨h1, k, h2⟩ => ?_
  subst h2
  exact ⟨by rw [h1, hm.out]; rfl, Below.drewN hu k⟩
theorem add_c {B g o nr : Nat} {K : Nat → Nat} {w : World} (hC : Ciph w g o nr K) (hg : g < B) (hB : B ≤ w.heap.size) (r : Nat) (hr : r ≤ nr) (s t : W4) (hs : s.ok) (ht : Hid (t = addK K r s)) : ∀ u, Below B w u →
    Calls Tryz.prog 86 #[.pointer (some ⟨g, o, none⟩), s.val, .int .i64 (r : Nat)] u fun e u' => e = .returned t.val ∧ Below B w u' := fun u hu => by
  have hC' := hC.below hu hg
  have := hC.most
  refine (add_ok g o r s.a s.b s.c s.d _ _ _ _ u (by omega) hC'.here hs.1 hs.2.1 hs.2.2.1 hs.2.2.2 (hC.small _) (hC.small _) (hC.small _) (hC.small _) (hC'.words (4 * r) (by omega)) (hC'.words (4 * r + 1) (by omega)) (hC'.words (4 * r + 2) (by omega)) (hC'.words (4 * r + 3) (by omega))).mono fun e u' ⟨h1, h2⟩ => ?_
  exact ⟨by rw [h1, ht.out]; rfl, hu.trans (h2.mono (Nat.le_trans hB hu.size))⟩
theorem from_c (s : W4) (hs : s.ok) (w : World) : Calls Tryz.prog 87 #[s.blk] w fun e w' => e = .returned s.val ∧ Below w.heap.size w w' := by
  refine (fromBlock_ok _ _ _ _ _ _ _ _ _ _ _ _ _ _ _ _ w (bt0_lt _) (bt1_lt _) (bt2_lt _) (bt3_lt _) (bt0_lt _) (bt1_lt _) (bt2_lt _) (bt3_lt _) (bt0_lt _) (bt1_lt _) (bt2_lt _) (bt3_lt _) (bt0_lt _) (bt1_lt _) (bt2_lt _) (bt3_lt _)).mono fun e w' ⟨h1, h2⟩ => ⟨?_, h2⟩
  rw [h1, wd_bt hs.1, wd_bt hs.2.1, wd_bt hs.2.2.1, wd_bt hs.2.2.2]
  rfl
theorem to_c (s : W4) (w : World) : Calls Tryz.prog 89 #[s.val] w fun e w' => e = .returned s.blk ∧ Below w.heap.size w w' :=
  toBlock_core s.a s.b s.c s.d _ _ _ _ _ _ _ _ _ _ _ _ _ _ _ _ w (int_bt0 _) (int_bt1 _) (int_bt2 _) (int_bt3 _) (int_bt0 _) (int_bt1 _) (int_bt2 _) (int_bt3 _) (int_bt0 _) (int_bt1 _) (int_bt2 _) (int_bt3 _) (int_bt0 _) (int_bt1 _) (int_bt2 _) (int_bt3 _)
end Go.Proofs.YtehlppaidgkpaaaGreatDoor
namespace Go.Proofs.YtehlppaidgkpaaaGreatDoor
open Go.RowKit
set_option linter.unusedVariables false
/-- The four cells that fillRow writes. -/
def rowSet (w : World) (g o b sb : Nat) : World :=
  (((w.setCell ⟨g, o + 61 + b, none⟩ (.int .u8 (sb : Nat))).setCell ⟨g, o + 317 + sb, none⟩ (.int .u8 (b : Nat))).setCell ⟨g, o + 573 + b, none⟩ (.int .u32 (wd (x2 sb) sb sb (x3 sb) : Nat))).setCell ⟨g, o + 829 + b, none⟩ (.int .u32 (wd (x14 b) (x9 b) (x13 b) (x11 b) : Nat))
theorem dbl_ex (a : Nat) (h : a < 256) (w : World) : Calls Tryz.prog 163 #[.int .u8 a] w fun e w' => ∃ z : Nat, z < 256 ∧ Hid (z = dblN a) ∧ e = .returned (.int .u8 (z : Nat)) ∧ w' = w :=
  (dbl_ok a h w).mono fun e w' ⟨h1, h2⟩ => ⟨_, dbl_lt ⟨a, h⟩, rfl, h1, h2⟩
set_option maxHeartbeats 3200000 in
set_option maxRecDepth 100000 in
theorem fillRow_ok (g o b sb : Nat) (w : World) (hb : b < 256) (hsb : sb < 256) (ht : w.there g o 1085) :
    Calls Tryz.prog 115 #[.pointer (some ⟨g, o, none⟩), .int .u8 b, .int .u8 sb] w fun e w' => e = .returned (.tuple #[]) ∧ ∃ m, w' = (rowSet w g o b sb).drewN m := by
  have t1 := ht (61 + b) (by omega)
  have t2 := ht (317 + sb) (by omega)
  rw [← Nat.add_assoc] at t1 t2
  obtain ⟨p1, q1⟩ := t1
  obtain ⟨p2, q2⟩ := t2
  obtain ⟨v1, c1⟩ := Option.isSome_iff_exists.1 p1
  obtain ⟨v2, c2⟩ := Option.isSome_iff_exists.1 p2
  clear p1 p2
  have HT : Hid (w.there g o 1085) := ht
  clear ht
  go_enter Tryz.func115, Tryz.ntmps115
  go_wp2
  go_region
  go_wp2_with (first | (go_at_call 163; (refine (dbl_ex sb hsb _).mono ?_)))
  rintro e1 w1 ⟨z, hz, HZ, rfl, hw1⟩
  have ht1 : w1.there g o 1085 := by rw [hw1]; exact (World.there_drew _ _ _ _).2 (World.there_setCells (World.there_setCells HT.out _ _ [_]) _ _ [_])
  have HW1 : Hid (w1 = (((w.setCell ⟨g, o + 61 + b, none⟩ (.int .u8 (sb : Nat))).setCell ⟨g, o + 317 + sb, none⟩ (.int .u8 (b : Nat))).drew)) := hw1
  clear hw1 HT c1 c2 q1 q2
  have t3 := ht1 (573 + b) (by omega)
  rw [← Nat.add_assoc] at t3
  obtain ⟨p3, q3⟩ := t3
  obtain ⟨v3, c3⟩ := Option.isSome_iff_exists.1 p3
  clear p3
  have HT1 : Hid (w1.there g o 1085) := ht1
  clear ht1
  obtain ⟨m0, HM0⟩ : ∃ m : Nat, Hid (m = wd (x2 sb) sb sb (x3 sb)) := ⟨_, rfl⟩
  have hx3 := xor_lt8 hz hsb
  have hk0 : Hid (∀ u, Calls Tryz.prog 123 #[.int .u8 (z : Nat), .int .u8 (sb : Nat), .int .u8 (sb : Nat), .int .u8 (bits .xor .u8 (z : Int) (sb : Int))] u fun e u' => e = .returned (.int .u32 (m0 : Nat)) ∧ u' = u) := fun u => by
    rw [xor8 _ _ hz hsb, HM0.out, HZ.out]
    rw [HZ.out] at hz hx3
    exact word_ok _ _ _ _ hz hsb hsb hx3 u
  clear hx3
  have hbi : ((b : Nat) : Int) < 256 := by omega
  go_wp2
  go_region_held3 (fun _ => True) (trivial) ((go_at_call 123; refine (hk0.out _).mono ?_; rintro e2 w2 ⟨rfl, hw2⟩; obtain rfl := hw2.symm))
  have HT2 : Hid ((w1.setCell ⟨g, o + 573 + b, none⟩ (.int .u32 (m0 : Nat))).drew.there g o 1085) := (World.there_drew _ _ _ _).2 (World.there_setCells HT1.out _ _ [_])
  obtain ⟨w2, HW2⟩ : ∃ w2, Hid (w2 = (w1.setCell ⟨g, o + 573 + b, none⟩ (.int .u32 (m0 : Nat))).drew) := ⟨_, rfl⟩
  rw [← HW2.out] at HT2 ⊢
  clear hk0 c3 q3 HT1
  go_wp2_with (first | (go_at_call 163; (refine (dbl_ex b hb _).mono ?_)))
  rintro e3 w3 ⟨d2, hd2, HD2, rfl, hw3⟩
  obtain rfl := hw3.symm
  go_wp2_with (first | (go_at_call 163; (refine (dbl_ex d2 hd2 _).mono ?_)))
  rintro e4 w4 ⟨d4, hd4, HD4, rfl, hw4⟩
  obtain rfl := hw4.symm
  go_wp2_with (first | (go_at_call 163; (refine (dbl_ex d4 hd4 _).mono ?_)))
  rintro e5 w5 ⟨d8, hd8, HD8, rfl, hw5⟩
  obtain rfl := hw5.symm
  have t4 := HT2.out (829 + b) (by omega)
  rw [← Nat.add_assoc] at t4
  obtain ⟨p4, q4⟩ := t4
  obtain ⟨v4, c4⟩ := Option.isSome_iff_exists.1 p4
  clear p4
  obtain ⟨n0, HN0⟩ : ∃ m : Nat, Hid (m = wd (x14 b) (x9 b) (x13 b) (x11 b)) := ⟨_, rfl⟩
  have hk1 : Hid (∀ u, Calls Tryz.prog 123 #[.int .u8 (bits .xor .u8 (bits .xor .u8 (d8 : Int) (d4 : Int)) (d2 : Int)), .int .u8 (bits .xor .u8 (d8 : Int) (b : Int)), .int .u8 (bits .xor .u8 (bits .xor .u8 (d8 : Int) (d4 : Int)) (b : Int)), .int .u8 (bits .xor .u8 (bits .xor .u8 (d8 : Int) (d2 : Int)) (b : Int))] u fun e u' => e = .returned (.int .u32 (n0 : Nat)) ∧ u' = u) := fun u => by
    rw [xor8 _ _ hd8 hd4, xor8 _ _ hd8 hd2, xor8 _ _ hd8 hb, xor8 _ _ (xor_lt8 hd8 hd4) hd2, xor8 _ _ (xor_lt8 hd8 hd4) hb, xor8 _ _ (xor_lt8 hd8 hd2) hb]
    have h := word_ok _ _ _ _ (xor_lt8 (xor_lt8 hd8 hd4) hd2) (xor_lt8 hd8 hb) (xor_lt8 (xor_lt8 hd8 hd4) hb) (xor_lt8 (xor_lt8 hd8 hd2) hb) u
    have e : n0 = wd (Nat.xor (Nat.xor d8 d4) d2) (Nat.xor d8 b) (Nat.xor (Nat.xor d8 d4) b) (Nat.xor (Nat.xor d8 d2) b) := by
      rw [HN0.out, HD8.out, HD4.out, HD2.out]
      exact rfl
    rw [e]
    exact h
  go_wp2
  go_region_held3 (fun _ => True) (trivial) ((go_at_call 123; refine (hk1.out _).mono ?_; rintro e6 w6 ⟨rfl, hw6⟩; obtain rfl := hw6.symm))
  go_wp2
  go_end0
  refine ⟨rfl, 3, ?_⟩
  rw [HN0.out, HW2.out, HM0.out, HW1.out]
  exact rfl
end Go.Proofs.YtehlppaidgkpaaaGreatDoor
