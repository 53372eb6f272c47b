import Derived.Test.YtioggmjocelolaaSpoilNil
import Derived.Test.YtioggmjocelolaaRefFromHex
import Derived.Test.YtioggmjocelolaaRefFromB64
namespace Go.Proofs.Ytioggmjocelolaa
open Go.RowKit

theorem own_below {w w' : World} {B n : Nat} {v : Value} {cs : List Value} (h : w.ownsRow B 5 1 v n cs) (b : Below w.heap.size w w') : w'.ownsRow B 5 1 v n cs :=
  h.kept (row := none) ⟨b.os, b.tape, b.output, b.size, fun k hk _ => b.block k hk⟩ (by
    cases hv : v.ownBlock with
    | none => exact .inl rfl
    | some k => exact .inr (by simp))
theorem view_nil (w : World) : View w (.slice none 0 0) [] := ⟨none, 0, rfl, Nat.le_refl _, by simp, fun _ => rfl, .inl rfl⟩
theorem own_nil (w : World) (B : Nat) : w.ownsRow B 5 1 (.slice none 0 0) 0 (cellsU8 []) := ⟨rfl, .inl ⟨rfl, rfl⟩⟩

set_option maxHeartbeats 1600000 in
set_option maxRecDepth 100000 in
theorem read_good13 (s : ByteArray) (n : Nat) (vw : Value) (zs : List Int) (w : World) (hs : s.size ≤ 200000) (hg : HexGood s) (hn : n ≤ 200000) (hz : unhex (nums s) = zs) (hlen : s.size / 2 = n) (hv : View w vw zs) :
    Calls Try.prog 21 #[.func (.func 13) #[] #[], .string s, vw, .int .i64 0, .int .i64 0] w fun e w' => e = .returned (.bool true) ∧ Below w.heap.size w w' := by
  have HV : Hid (View w vw zs) := hv
  have HF : Hid (∀ w : World, Calls Try.prog 13 #[.string s] w fun e w' => ∃ v, e = .returned (.tuple #[v, .int .i64 0, .int .i64 0]) ∧ w'.ownsRow w.heap.size 5 1 v n (cellsU8 zs) ∧ Below w.heap.size w w') := by
    intro w
    have h := fromHex_good s w hs hg
    rw [hlen, hz] at h
    exact h
  clear hv hg hs hz hlen
  go_enter Try.func21, Try.ntmps21
  go_wp2_with fail
  refine (HF.out _).mono ?_
  rintro e w1 ⟨a, rfl, oa, b1⟩
  have OA : Hid (w1.ownsRow w.heap.size 5 1 a n (cellsU8 zs)) := oa
  have B1 : Hid (Below w.heap.size w w1) := b1
  clear oa b1
  go_wp2_with fail
  refine (HF.out _).mono ?_
  rintro e w2 ⟨b, rfl, ob, b2⟩
  have OB : Hid (w2.ownsRow w1.heap.size 5 1 b n (cellsU8 zs)) := ob
  have B2 : Hid (Below w1.heap.size w1 w2) := b2
  have OA2 : Hid (w2.ownsRow w.heap.size 5 1 a n (cellsU8 zs)) := own_below OA.out b2
  have VW : Hid (View w2 vw zs) := (HV.out.kept B1.out.block).kept b2.block
  have VA : Hid (View w2 a zs) := (view_of_own OA2.out).1
  have VB : Hid (View w2 b zs) := (view_of_own ob).1
  clear ob b2 HF
  go_wp2_with (first | (go_at_call 15; refine (num_any _ _).mono ?_; rintro e w' ⟨rfl, hw⟩; obtain rfl := hw.symm))
  refine (same_any _ _ zs zs _ VA.out VW.out).mono ?_
  rintro e w3 ⟨rfl, m3, rfl⟩
  simp only [decide_true]
  go_wp2_with fail
  refine (same_any _ _ zs zs _ (by exact VB.out.kept (fun _ _ => rfl)) (by exact VW.out.kept (fun _ _ => rfl))).mono ?_
  rintro e w4 ⟨rfl, m4, rfl⟩
  simp only [decide_true]
  have B4 : Hid (Below w2.heap.size w2 ((w2.drewN m3).drewN m4)) := ⟨rfl, rfl, rfl, Nat.le_refl _, fun _ _ => rfl⟩
  generalize (w2.drewN m3).drewN m4 = w4 at B4 ⊢
  clear VA VB VW
  go_wp2_with fail
  have s1 := B1.out.size
  have s2 := B2.out.size
  have s4 := B4.out.size
  have oa4 := own_below OA2.out B4.out
  have ob4 := own_below OB.out B4.out
  refine (spoil_any w.heap.size n a zs _ hn (by omega) oa4).mono ?_
  rintro e w5 ⟨rfl, g5⟩
  have hne : b.ownBlock = none ∨ b.ownBlock ≠ a.ownBlock := by
    cases hb : b.ownBlock with
    | none => exact .inl rfl
    | some k =>
      refine .inr fun h => ?_
      have h1 := (OA.out.lt k h.symm).2
      have h2 := (ob4.lt k hb).1
      omega
  have ob5 := ob4.kept g5 hne
  have b04 : Below w.heap.size w w4 := (B1.out.trans (B2.out.mono s1)).trans (B4.out.mono (Nat.le_trans s1 s2))
  have B5 : Hid (Below w.heap.size w w5) := b04.grown g5 (by omega) (fun k hk => (oa4.lt k hk).1)
  have VB : Hid (View w5 b zs) := (view_of_own ob5).1
  have VW : Hid (View w5 vw zs) := HV.out.kept B5.out.block
  clear oa4 ob4 hne ob5 b04 g5 B4 B2 B1 OA OB OA2 HV s1 s2 s4
  go_wp2_with fail
  refine (same_any _ _ zs zs _ VB.out VW.out).mono ?_
  rintro e w6 ⟨rfl, m6, rfl⟩
  simp only [decide_true]
  go_wp2_with fail
  go_ret
  exact ⟨rfl, ⟨B5.out.os, B5.out.tape, B5.out.output, B5.out.size, B5.out.block⟩⟩

set_option maxHeartbeats 1600000 in
set_option maxRecDepth 100000 in
theorem read_bad13 (s : ByteArray) (p : Nat) (w : World) (hs : s.size ≤ 200000) (hp : HexPlace s p) :
    Calls Try.prog 21 #[.func (.func 13) #[] #[], .string s, .slice none 0 0, .int .i64 13, .int .i64 p] w fun e w' => e = .returned (.bool true) ∧ Below w.heap.size w w' := by
  have HF : Hid (∀ w : World, Calls Try.prog 13 #[.string s] w fun e w' => e = .returned (.tuple #[.slice none 0 0, .int .i64 13, .int .i64 p]) ∧ w' = w) := fun w => fromHex_at s p w hs hp
  clear hs hp
  go_enter Try.func21, Try.ntmps21
  go_wp2_with fail
  refine (HF.out _).mono ?_
  rintro e w1 ⟨rfl, hw⟩
  obtain rfl := hw.symm
  go_wp2_with fail
  refine (HF.out _).mono ?_
  rintro e w2 ⟨rfl, hw⟩
  obtain rfl := hw.symm
  clear HF
  go_wp2_with (first | (go_at_call 15; refine (num_any _ _).mono ?_; rintro e w' ⟨rfl, hw⟩; obtain rfl := hw.symm))
  refine (same_any _ _ [] [] _ (view_nil _) (view_nil _)).mono ?_
  rintro e w3 ⟨rfl, m3, rfl⟩
  simp only [decide_true]
  go_wp2_with fail
  refine (same_any _ _ [] [] _ (view_nil _) (view_nil _)).mono ?_
  rintro e w4 ⟨rfl, m4, rfl⟩
  simp only [decide_true]
  have B4 : Hid (Below w.heap.size w ((w.drewN m3).drewN m4)) := ⟨rfl, rfl, rfl, Nat.le_refl _, fun _ _ => rfl⟩
  generalize (w.drewN m3).drewN m4 = w4 at B4 ⊢
  go_wp2_with fail
  refine (spoil_nil _).mono ?_
  rintro e w5 ⟨rfl, g5⟩
  have B5 : Hid (Below w.heap.size w w5) := B4.out.grown g5 B4.out.size (fun k hk => by cases hk)
  clear g5 B4
  go_wp2_with fail
  refine (same_any _ _ [] [] _ (view_nil _) (view_nil _)).mono ?_
  rintro e w6 ⟨rfl, m6, rfl⟩
  simp only [decide_true]
  go_wp2_with fail
  go_ret
  exact ⟨rfl, ⟨B5.out.os, B5.out.tape, B5.out.output, B5.out.size, B5.out.block⟩⟩

set_option maxHeartbeats 1600000 in
set_option maxRecDepth 100000 in
theorem read_good14 (s : ByteArray) (n : Nat) (vw : Value) (zs : List Int) (w : World) (hs : s.size ≤ 200000) (hg : B64Good s) (hn : n ≤ 200000) (hz : unb64 (nums s) = zs) (hlen : (unb64 (nums s)).length = n) (hv : View w vw zs) :
    Calls Try.prog 21 #[.func (.func 14) #[] #[], .string s, vw, .int .i64 0, .int .i64 0] w fun e w' => e = .returned (.bool true) ∧ Below w.heap.size w w' := by
  have HV : Hid (View w vw zs) := hv
  have HF : Hid (∀ w : World, Calls Try.prog 14 #[.string s] w fun e w' => ∃ v, e = .returned (.tuple #[v, .int .i64 0, .int .i64 0]) ∧ w'.ownsRow w.heap.size 5 1 v n (cellsU8 zs) ∧ Below w.heap.size w w') := by
    intro w
    have h := fromB64_good s w hs hg
    rw [hlen, hz] at h
    exact h
  clear hv hg hs hz hlen
  go_enter Try.func21, Try.ntmps21
  go_wp2_with fail
  refine (HF.out _).mono ?_
  rintro e w1 ⟨a, rfl, oa, b1⟩
  have OA : Hid (w1.ownsRow w.heap.size 5 1 a n (cellsU8 zs)) := oa
  have B1 : Hid (Below w.heap.size w w1) := b1
  clear oa b1
  go_wp2_with fail
  refine (HF.out _).mono ?_
  rintro e w2 ⟨b, rfl, ob, b2⟩
  have OB : Hid (w2.ownsRow w1.heap.size 5 1 b n (cellsU8 zs)) := ob
  have B2 : Hid (Below w1.heap.size w1 w2) := b2
  have OA2 : Hid (w2.ownsRow w.heap.size 5 1 a n (cellsU8 zs)) := own_below OA.out b2
  have VW : Hid (View w2 vw zs) := (HV.out.kept B1.out.block).kept b2.block
  have VA : Hid (View w2 a zs) := (view_of_own OA2.out).1
  have VB : Hid (View w2 b zs) := (view_of_own ob).1
  clear ob b2 HF
  go_wp2_with (first | (go_at_call 15; refine (num_any _ _).mono ?_; rintro e w' ⟨rfl, hw⟩; obtain rfl := hw.symm))
  refine (same_any _ _ zs zs _ VA.out VW.out).mono ?_
  rintro e w3 ⟨rfl, m3, rfl⟩
  simp only [decide_true]
  go_wp2_with fail
  refine (same_any _ _ zs zs _ (by exact VB.out.kept (fun _ _ => rfl)) (by exact VW.out.kept (fun _ _ => rfl))).mono ?_
  rintro e w4 ⟨rfl, m4, rfl⟩
  simp only [decide_true]
  have B4 : Hid (Below w2.heap.size w2 ((w2.drewN m3).drewN m4)) := ⟨rfl, rfl, rfl, Nat.le_refl _, fun _ _ => rfl⟩
  generalize (w2.drewN m3).drewN m4 = w4 at B4 ⊢
  clear VA VB VW
  go_wp2_with fail
  have s1 := B1.out.size
  have s2 := B2.out.size
  have s4 := B4.out.size
  have oa4 := own_below OA2.out B4.out
  have ob4 := own_below OB.out B4.out
  refine (spoil_any w.heap.size n a zs _ hn (by omega) oa4).mono ?_
  rintro e w5 ⟨rfl, g5⟩
  have hne : b.ownBlock = none ∨ b.ownBlock ≠ a.ownBlock := by
    cases hb : b.ownBlock with
    | none => exact .inl rfl
    | some k =>
      refine .inr fun h => ?_
      have h1 := (OA.out.lt k h.symm).2
      have h2 := (ob4.lt k hb).1
      omega
  have ob5 := ob4.kept g5 hne
  have b04 : Below w.heap.size w w4 := (B1.out.trans (B2.out.mono s1)).trans (B4.out.mono (Nat.le_trans s1 s2))
  have B5 : Hid (Below w.heap.size w w5) := b04.grown g5 (by omega) (fun k hk => (oa4.lt k hk).1)
  have VB : Hid (View w5 b zs) := (view_of_own ob5).1
  have VW : Hid (View w5 vw zs) := HV.out.kept B5.out.block
  clear oa4 ob4 hne ob5 b04 g5 B4 B2 B1 OA OB OA2 HV s1 s2 s4
  go_wp2_with fail
  refine (same_any _ _ zs zs _ VB.out VW.out).mono ?_
  rintro e w6 ⟨rfl, m6, rfl⟩
  simp only [decide_true]
  go_wp2_with fail
  go_ret
  exact ⟨rfl, ⟨B5.out.os, B5.out.tape, B5.out.output, B5.out.size, B5.out.block⟩⟩

set_option maxHeartbeats 1600000 in
set_option maxRecDepth 100000 in
theorem read_bad14 (s : ByteArray) (p : Nat) (w : World) (hs : s.size ≤ 200000) (hp : B64Place s p) :
    Calls Try.prog 21 #[.func (.func 14) #[] #[], .string s, .slice none 0 0, .int .i64 14, .int .i64 p] w fun e w' => e = .returned (.bool true) ∧ Below w.heap.size w w' := by
  have HF : Hid (∀ w : World, Calls Try.prog 14 #[.string s] w fun e w' => e = .returned (.tuple #[.slice none 0 0, .int .i64 14, .int .i64 p]) ∧ w' = w) := fun w => fromB64_at s p w hs hp
  clear hs hp
  go_enter Try.func21, Try.ntmps21
  go_wp2_with fail
  refine (HF.out _).mono ?_
  rintro e w1 ⟨rfl, hw⟩
  obtain rfl := hw.symm
  go_wp2_with fail
  refine (HF.out _).mono ?_
  rintro e w2 ⟨rfl, hw⟩
  obtain rfl := hw.symm
  clear HF
  go_wp2_with (first | (go_at_call 15; refine (num_any _ _).mono ?_; rintro e w' ⟨rfl, hw⟩; obtain rfl := hw.symm))
  refine (same_any _ _ [] [] _ (view_nil _) (view_nil _)).mono ?_
  rintro e w3 ⟨rfl, m3, rfl⟩
  simp only [decide_true]
  go_wp2_with fail
  refine (same_any _ _ [] [] _ (view_nil _) (view_nil _)).mono ?_
  rintro e w4 ⟨rfl, m4, rfl⟩
  simp only [decide_true]
  have B4 : Hid (Below w.heap.size w ((w.drewN m3).drewN m4)) := ⟨rfl, rfl, rfl, Nat.le_refl _, fun _ _ => rfl⟩
  generalize (w.drewN m3).drewN m4 = w4 at B4 ⊢
  go_wp2_with fail
  refine (spoil_nil _).mono ?_
  rintro e w5 ⟨rfl, g5⟩
  have B5 : Hid (Below w.heap.size w w5) := B4.out.grown g5 B4.out.size (fun k hk => by cases hk)
  clear g5 B4
  go_wp2_with fail
  refine (same_any _ _ [] [] _ (view_nil _) (view_nil _)).mono ?_
  rintro e w6 ⟨rfl, m6, rfl⟩
  simp only [decide_true]
  go_wp2_with fail
  go_ret
  exact ⟨rfl, ⟨B5.out.os, B5.out.tape, B5.out.output, B5.out.size, B5.out.block⟩⟩
end Go.Proofs.Ytioggmjocelolaa
