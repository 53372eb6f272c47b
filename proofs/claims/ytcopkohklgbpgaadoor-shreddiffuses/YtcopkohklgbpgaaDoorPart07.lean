import Derived.Test.YtcopkohklgbpgaaDoorPart05
import Derived.Test.YtcopkohklgbpgaaDoorPart06
import Derived.Test.YtcopkohklgbpgaaDoorRows
import Derived.Test.YtcopkohklgbpgaaDoorPart00
import Derived.ProofKit
import Derived.OpenShut
import Derived.ShutString
import Derived.ChangeOld
import Derived.Below
import Derived.SizedLaws
import Derived.Lib.LaidTab
import Derived.Deep.DeepHandedRow
namespace Go.Proofs.YtcopkohklgbpgaaDoor
open Go.RowKit Go.Shelf
set_option linter.unusedVariables false
set_option linter.unusedSimpArgs false
theorem bad_of {h : Int} (k : ¬ Known h) : (h == 224) = false ∧ (h == 256) = false ∧ (h == 384) = false ∧ (h == 512) = false := by
  refine ⟨?_, ?_, ?_, ?_⟩ <;> rw [beq_eq_false_iff_ne] <;> intro e <;> apply k <;> unfold Known <;> omega
set_option maxHeartbeats 400000 in
theorem mbegin_bad {h : Int} (k : ¬ Known h) (w : World) : Calls Tryd.prog 19 #[.int .i64 h] w fun e w' => e = .returned (.tuple #[.pointer none, .int .i64 10]) ∧ Below w.heap.size w w' := by
  obtain ⟨h1, h2, h3, h4⟩ := bad_of k
  have H31 : Hid (Calls Tryd.prog 31 #[.int .i64 h] w fun e w' => e = .returned (.tuple #[.pointer none, .int .i64 10]) ∧ Below w.heap.size w w') := new_bad h w h1 h2 h3 h4
  clear h1 h2 h3 h4 k
  go_enter Tryd.func19, Tryd.ntmps19
  go_wp2_with (go_at_call 31; refine H31.out.mono ?_)
  rintro e w1 ⟨rfl, hb⟩
  have HB : Hid (Below w.heap.size w w1) := hb
  clear hb H31
  go_wp2
  go_ret2
  exact ⟨rfl, HB.out⟩
set_option maxHeartbeats 400000 in
theorem dif_bad {h : Int} (k : ¬ Known h) (v : Value) (w : World) : Calls Tryd.prog 14 #[.int .i64 h, v] w fun e w' => e = .returned (.tuple #[.slice none 0 0, .int .i64 10]) ∧ Below w.heap.size w w' := by
  go_enter_defers Tryd.func14, Tryd.ntmps14
  go_wp2_with (go_at_call 19; refine (mbegin_bad k w).mono ?_)
  rintro e w1 ⟨rfl, hb⟩
  have HB : Hid (Below w.heap.size w w1) := hb
  clear hb
  go_wp2
  exact ⟨_, results_tmp2 rfl _ _ _, rfl, HB.out⟩
set_option maxHeartbeats 400000 in
theorem dif_long {h : Int} (k : Known h) (a : Option Addr) (n c : Nat) (hn : 1024 < n) (hn2 : n ≤ 9223372036854775807) (w : World) (hT : Tables w) : Calls Tryd.prog 14 #[.int .i64 h, .slice a n c] w fun e w' => e = .returned (.tuple #[.slice none 0 0, .int .i64 4]) ∧ Below w.heap.size w w' := by
  have hT4 : 4 ≤ w.heap.size := hT.size
  have hl : (1024 : Int) < (n : Nat) := by omega
  go_enter_defers Tryd.func14, Tryd.ntmps14
  go_wp2_with (go_at_call 19; refine (mbegin h w k hT).mono ?_)
  rintro e w1 ⟨g, s, rfl, hMx, hFr, hsg, hsw, hb1⟩
  have HMix1 : Hid (Mix w1 g s h (fun _ => 0) 0) := ⟨hMx, ⟨firstE h, [], hFr⟩, hT.below hb1 hT4⟩
  have HB1 : Hid (Below w.heap.size w w1) := hb1
  clear hMx hFr hb1
  go_wp2_with fail
  refine leaves_cons (f := 20) (args := #[.pointer (some ⟨g, 0, none⟩)]) (by simp) (by simp [go_sem]) ?_
  refine (mendD g s 0 (fun _ => 0) h w1 k HMix1 (by omega) (by omega)).mono ?_
  rintro e6 u6 w6 ⟨rfl, rfl, hT6⟩
  refine ⟨_, results_tmp2 rfl _ _ _, rfl, HB1.out.trans (hT6.toBelow (by omega) (by omega) HB1.out.size)⟩
/-- An answer: no bytes at all, or bytes in a new row without spare room. -/
def Ans (B : Nat) (w : World) (v : Value) (zs : List Int) : Prop := (v = .slice none 0 0 ∧ zs = []) ∨ ∃ b, v = .slice (some ⟨b, 0, none⟩) zs.length zs.length ∧ B ≤ b ∧ b < w.heap.size ∧ Mat w b zs
theorem Ans.kept {B : Nat} {w w' : World} {v : Value} {zs : List Int} (h : Ans B w v zs) (hb : ∀ b, v.ownBlock = some b → w'.heap[b]? = w.heap[b]?) (hs : w.heap.size ≤ w'.heap.size) : Ans B w' v zs := by
  rcases h with h | ⟨b, rfl, h1, h2, h3⟩
  · exact .inl h
  · exact .inr ⟨b, rfl, h1, Nat.lt_of_lt_of_le h2 hs, h3.kept (hb b rfl)⟩
theorem Ans.below {B : Nat} {w w' : World} {v : Value} {zs : List Int} (h : Ans B w v zs) (hb : Below w.heap.size w w') : Ans B w' v zs := by
  rcases h with h | ⟨b, rfl, h1, h2, h3⟩
  · exact .inl h
  · exact .inr ⟨b, rfl, h1, Nat.lt_of_lt_of_le h2 hb.size, h3.kept (hb.block b h2)⟩
theorem Ans.view {B : Nat} {w : World} {v : Value} {zs : List Int} (h : Ans B w v zs) (hl : zs.length ≤ 1000000000) : View w v zs := by
  rcases h with ⟨rfl, rfl⟩ | ⟨b, rfl, h1, h2, h3⟩
  · exact ⟨none, 0, rfl, Nat.le_refl _, by simp [maxLen], fun _ => rfl, .inl rfl⟩
  · exact h3.view hl
theorem Ans.base {B B' : Nat} {w : World} {v : Value} {zs : List Int} (h : Ans B w v zs) (hB : B' ≤ B) : Ans B' w v zs := by
  rcases h with h | ⟨b, rfl, h1, h2, h3⟩
  · exact .inl h
  · exact .inr ⟨b, rfl, Nat.le_trans hB h1, h2, h3⟩
theorem Ans.ge {B : Nat} {w : World} {v : Value} {zs : List Int} (h : Ans B w v zs) {b : Nat} (hb : v.ownBlock = some b) : B ≤ b ∧ b < w.heap.size := by
  rcases h with ⟨rfl, rfl⟩ | ⟨b', rfl, h1, h2, h3⟩
  · cases hb
  · injection hb with hb
    subst hb
    exact ⟨h1, h2⟩
theorem Ans.spoil {B : Nat} {w : World} {v : Value} {zs : List Int} (h : Ans B w v zs) (hl : zs.length ≤ 200000) : Calls Tryd.prog 17 #[v] w fun e w' => e = .returned (.tuple #[]) ∧ w.grownBy w' v.ownBlock := by
  rcases h with ⟨rfl, rfl⟩ | ⟨b, rfl, h1, h2, h3⟩
  · exact spoil_nil w
  · exact spoil_full zs.length b (fun i => zs.getD i 0) w hl h2 h3.cell h3.there
set_option maxHeartbeats 3200000 in
set_option maxRecDepth 100000 in
theorem dif_good {h : Int} (k : Known h) (v : Value) (Z : List Int) (n : Nat) (hZn : Hid (Z.length = n)) (hn : n ≤ 1024) (w : World) (hT : Tables w) (hv : View w v Z) (hab : AllBytes Z) :
    Calls Tryd.prog 14 #[.int .i64 h, v] w fun e w' => ∃ v', e = .returned (.tuple #[v', .int .i64 0]) ∧ Ans w.heap.size w' v' (spreadL h Z) ∧ Below w.heap.size w w' := by
  obtain ⟨i0, hi, hz0, hz1, hz2⟩ := info_parts Tryd.info5
  have hT4 : 4 ≤ w.heap.size := hT.size
  have HV : Hid (View w v Z) := hv
  obtain ⟨av, cv, hveq, hvc⟩ : ∃ a c, v = .slice a n c ∧ n ≤ c := by
    obtain ⟨a, c, e, h1, _⟩ := hv
    exact ⟨a, c, by rw [e, hZn.out], by rw [← hZn.out]; exact h1⟩
  subst hveq
  have hl : ¬ (1024 : Int) < (n : Nat) := by omega
  clear hv
  go_enter_defers Tryd.func14, Tryd.ntmps14
  have H19 : Hid (Calls Tryd.prog 19 #[.int .i64 h] w fun e w' => Hid (∃ g s, e = .returned (.tuple #[.pointer (some ⟨g, 0, none⟩), .int .i64 0]) ∧ Mx w' g s (fun _ => 0) 0 ∧ Fresh w' s h ∧ s < g ∧ w.heap.size ≤ s ∧ Below w.heap.size w w')) := mbegin h w k hT
  go_wp2_with (go_at_call 19; refine H19.out.mono ?_)
  intro e w1 hh
  obtain ⟨g, rfl, s, hMx, hFr, hsg, hsw, hb1⟩ := hh.out
  clear hh H19
  have HMix1 : Hid (Mix w1 g s h (fun _ => 0) 0) := ⟨hMx, ⟨firstE h, [], hFr⟩, hT.below hb1 hT4⟩
  have HB1 : Hid (Below w.heap.size w w1) := hb1
  have hgw1 : g < w1.heap.size := HMix1.out.gt
  have H25 : Hid (Calls Tryd.prog 25 #[.pointer (some ⟨g, 0, none⟩), .slice av n cv] w1 fun e w' => e = .returned (.tuple #[]) ∧ Buf w' g (xorF (fun _ => 0) (fun i => Z.getD i 0) n) n ∧ Touch w1 w' g 0 1025) := by
    have hv1 := HV.out.kept (fun b hb => HB1.out.block b hb)
    obtain ⟨a', c', e1, q1, q2, q3, q4⟩ := HV.out
    injection e1 with e1 e2 e3
    by_cases h0 : n = 0
    · subst h0
      exact xor_none g cv 0 av _ _ w1 HMix1.out.mx.1
    · rcases q4 with q4 | ⟨b, off, e4, hc⟩
      · have := hZn.out
        rw [q4] at this
        simp at this
        omega
      · rw [e4] at e1
        rw [e1]
        have hbw : b < w.heap.size := lt_of_cell (hc 0 (by have := hZn.out; omega))
        exact xor_some g n cv b off 0 _ (fun i => Z.getD i 0) w1 HMix1.out.mx.1 hn (by omega) (fun i hi' => by rw [HB1.out.cell hbw]; exact hc i (by rw [hZn.out]; exact hi'))
  clear hMx hFr hb1
  go_upto_region 8 with (go_at_call 25; refine H25.out.mono ?_)
  rintro e2 w2 ⟨rfl, hBf2, hTo2⟩
  have HMix2 : Hid (Mix w2 g s h (xorF (fun _ => 0) (fun i => Z.getD i 0) n) n) := by
    obtain ⟨s0, zs, r⟩ := HMix1.out.rep
    exact ⟨HMix1.out.mx.touch hTo2 hBf2, ⟨s0, zs, r.kept (hTo2.block s HMix1.out.st (by omega))⟩, HMix1.out.tab.touch hTo2 (by omega)⟩
  have HTw2 : Hid (Tw w1 w2 g s) := hTo2.twG s
  clear hBf2 hTo2 H25
  go_upto_region 9 with (go_at_call 26; refine (diffuse_ok g s n _ h w2 k HMix2 (by omega) (by omega) (by omega) hn).mono ?_)
  rintro e3 w4 ⟨rfl, hM4, hT4'⟩
  have HMix4 : Hid (Mix w4 g s h (diffF h n (xorF (fun _ => 0) (fun i => Z.getD i 0) n)) n) := hM4
  have HTw4 : Hid (Tw w1 w4 g s) := HTw2.out.trans hT4'
  have hs1 := HB1.out.size
  clear hM4 hT4' HMix2 HTw2
  have HFF : Hid (spreadL h Z = (List.range n).map (diffF h n (xorF (fun _ => 0) (fun i => Z.getD i 0) n))) := by
    have hz := hZn.out
    show _ = _
    rw [← hz]
    exact (diffF_list h k Z _ (fun j hj => by
      unfold xorF
      rw [if_pos hj]
      exact xor_zero_l (hab j).1 (hab j).2)).symm
  generalize diffF h n (xorF (fun _ => 0) (fun i => Z.getD i 0) n) = F at HMix4 HFF
  go_wp2_with (first
    | (at_make; go_must (refine wpList_make_full _ rfl _ _ 22 rfl w4.heap.size 5 i0 (.int .u8 0) 1 Tryd.underlying22 hi hz0 hz1 .i64 .i64 (n : Nat) (n : Nat) n rfl rfl rfl rfl ?_ ?_ ?_ ?_)))
  · rw [hz2]; omega
  · unfold maxLen; omega
  · exact Nat.le_refl _
  intro w2 hown hgr
  have hB42 : Below w4.heap.size w4 w2 := (Below.refl _ _).grown hgr (Nat.le_refl _) (by intro k hk; cases hk)
  have HMt2 : Hid (Mat w2 w4.heap.size (List.replicate n 0)) := by
    refine ⟨fun i hi' => ?_, fun j hj => ⟨?_, hown.frozenAt _⟩⟩
    · simp at hi'
      rw [hown.cellAt i (by omega)]
      simp [hi', List.getD, madeCells, Nat.mod_one]
    · simp at hj
      rw [Nat.zero_add, hown.cellAt j (by omega)]
      simp [hj, madeCells]
  have HMix2 : Hid (Mix w2 g s h F n) := HMix4.out.below hB42
  have hw42 : w4.heap.size < w2.heap.size := (hown.lt w4.heap.size rfl).2
  have hg4 : g < w4.heap.size := HMix4.out.gt
  have HTw2 : Hid (Tw w1 w2 g s) := HTw4.out.below hB42
  have hw14 := HTw4.out.size
  clear hown hgr hB42
  have HTl : Hid (Calls Tryd.prog 23 #[.pointer (some ⟨g, 0, none⟩), .slice (some ⟨w4.heap.size, 0, none⟩) n n] w2 fun e w' => e = .returned (.tuple #[]) ∧ Mat w' w4.heap.size (spreadL h Z) ∧ Mix w' g s h F n ∧ Tw w1 w' g s ∧ w2.heap.size ≤ w'.heap.size) := by
    refine (tell_ok g n w4.heap.size 0 n n F w2 HMix2.out.mx.1 hn (Nat.le_refl _) (fun j hj => HMt2.out.there j (by simpa using hj))).mono ?_
    rintro e w' ⟨rfl, d, rfl⟩
    have hbd : Below w2.heap.size w2 (w2.drewN d) := ⟨rfl, rfl, rfl, Nat.le_refl _, fun _ _ => rfl⟩
    have hgs : ∀ i, i < w2.heap.size → i ≠ w4.heap.size → ((w2.drewN d).setCells w4.heap.size 0 (cellsU8 ((List.range n).map F))).heap[i]? = w2.heap[i]? := fun i hi' hne' => World.heap_setCells_other _ _ 0 _ hi' hne'
    refine ⟨rfl, ?_, HMix2.out.kept (hgs g (by omega) (by omega)) (hgs s (by omega) (by omega)) (fun j hj => hgs j (by omega) (by omega)), (HTw2.out.below hbd).setNew (by omega) 0 _, by rw [size_setCells]; exact Nat.le_refl _⟩
    have e2 := (HMt2.out.kept (v := w2.drewN d) rfl).laid (p := 0) ((List.range n).map F) (by simp)
    rw [HFF.out]
    have e3 : (List.replicate n (0 : Int)).take 0 ++ (List.range n).map F ++ (List.replicate n (0 : Int)).drop (0 + ((List.range n).map F).length) = (List.range n).map F := by
      rw [List.take_zero, List.nil_append, List.drop_of_length_le (by simp), List.append_nil]
    rw [e3] at e2
    exact e2
  go_wp2_with (first | (go_at_call 23; refine HTl.out.mono ?_))
  rintro e5 w5 ⟨rfl, hMt5, hMix5, hTw5, hsz5⟩
  have HMt5 : Hid (Mat w5 w4.heap.size (spreadL h Z)) := hMt5
  have HMix5 : Hid (Mix w5 g s h F n) := hMix5
  have HTw5 : Hid (Tw w1 w5 g s) := hTw5
  clear hMt5 hMix5 hTw5
  go_wp2_with fail
  refine leaves_cons (f := 20) (args := #[.pointer (some ⟨g, 0, none⟩)]) (by simp) (by simp [go_sem]) ?_
  refine (mendD g s n F h w5 k HMix5 (by omega) (by omega)).mono ?_
  rintro e6 u6 w6 ⟨rfl, rfl, hT6⟩
  have hw5 : w4.heap.size < w5.heap.size := by omega
  have hfin : Ans w.heap.size w6 (.slice (some ⟨w4.heap.size, 0, none⟩) n n) (spreadL h Z) ∧ Below w.heap.size w w6 := by
    refine ⟨.inr ⟨w4.heap.size, by rw [spreadL_length, hZn.out], by omega, Nat.lt_of_lt_of_le hw5 hT6.size, HMt5.out.kept (hT6.block w4.heap.size hw5 (by omega) (by omega))⟩, HB1.out.trans ?_⟩
    exact (HTw5.out.trans hT6).toBelow (by omega) (by omega) hs1
  exact ⟨_, results_tmp2 rfl _ _ _, _, rfl, hfin⟩
instance (h : Int) : Decidable (Known h) := by unfold Known; infer_instance
/-- What Diffuse answers: its error, its bytes. -/
def difE (h : Int) (Z : List Int) : Int := if Known h then (if Z.length ≤ 1024 then 0 else 4) else 10
def difL (h : Int) (Z : List Int) : List Int := if Known h then (if Z.length ≤ 1024 then spreadL h Z else []) else []
theorem difL_length (h : Int) (Z : List Int) : (difL h Z).length ≤ 1024 := by
  unfold difL
  split
  · split
    · rw [spreadL_length]; assumption
    · simp
  · simp
theorem dif_ok (h : Int) (v : Value) (Z : List Int) (w : World) (hT : Tables w) (hv : View w v Z) (hab : AllBytes Z) :
    Calls Tryd.prog 14 #[.int .i64 h, v] w fun e w' => ∃ v', e = .returned (.tuple #[v', .int .i64 (difE h Z)]) ∧ Ans w.heap.size w' v' (difL h Z) ∧ Below w.heap.size w w' := by
  by_cases k : Known h
  · by_cases hl : Z.length ≤ 1024
    · have e1 : difE h Z = 0 := by unfold difE; rw [if_pos k, if_pos hl]
      have e2 : difL h Z = spreadL h Z := by unfold difL; rw [if_pos k, if_pos hl]
      rw [e1, e2]
      exact dif_good k v Z Z.length rfl hl w hT hv hab
    · have e1 : difE h Z = 4 := by unfold difE; rw [if_pos k, if_neg hl]
      have e2 : difL h Z = [] := by unfold difL; rw [if_pos k, if_neg hl]
      rw [e1, e2]
      obtain ⟨a, c, rfl, h1, h2, _⟩ := hv
      refine (dif_long k a Z.length c (by omega) (by unfold maxLen at h2; omega) w hT).mono ?_
      rintro e w' ⟨rfl, hb⟩
      exact ⟨_, rfl, .inl ⟨rfl, rfl⟩, hb⟩
  · have e1 : difE h Z = 10 := by unfold difE; rw [if_neg k]
    have e2 : difL h Z = [] := by unfold difL; rw [if_neg k]
    rw [e1, e2]
    refine (dif_bad k v w).mono ?_
    rintro e w' ⟨rfl, hb⟩
    exact ⟨_, rfl, .inl ⟨rfl, rfl⟩, hb⟩
end Go.Proofs.YtcopkohklgbpgaaDoor
namespace Go.Proofs.YtcopkohklgbpgaaDoor
open Go.RowKit Go.Shelf
set_option linter.unusedVariables false
set_option linter.unusedSimpArgs false
/-- Two lists, added. -/
def plusL (n : Nat) (A B : List Int) : List Int := (List.range n).map fun i => bits .xor .u8 (A.getD i 0) (B.getD i 0)
theorem plusL_length (n : Nat) (A B : List Int) : (plusL n A B).length = n := by simp [plusL]
theorem plusL_at (n : Nat) (A B : List Int) (i : Nat) (hi : i < n) : (plusL n A B)[i]? = some (bits .xor .u8 (A.getD i 0) (B.getD i 0)) := by simp [plusL, hi]
set_option maxHeartbeats 1600000 in
set_option maxRecDepth 100000 in
theorem rplus_some (b1 o1 c1 b2 o2 c2 n : Nat) (A B : List Int) (w : World) (hn : n ≤ 1024) (hb1 : b1 < w.heap.size) (hb2 : b2 < w.heap.size) (h1 : Hid (∀ i, i < n → w.cell? ⟨b1, o1 + i, none⟩ = some (.int .u8 (A.getD i 0)))) (h2 : Hid (∀ i, i < n → w.cell? ⟨b2, o2 + i, none⟩ = some (.int .u8 (B.getD i 0)))) :
    Calls Tryd.prog 30 #[.slice (some ⟨b1, o1, none⟩) n c1, .slice (some ⟨b2, o2, none⟩) n c2] w fun e w' => ∃ v', e = .returned v' ∧ w'.ownsRow w.heap.size 5 1 v' n (cellsU8 (plusL n A B)) ∧ Below w.heap.size w w' := by
  obtain ⟨i0, hi, hz0, hz1, hz2⟩ := info_parts Tryd.info5
  go_enter Tryd.func30, Tryd.ntmps30
  go_wp2
  go_loopw [5, 6] (fun v vi wr => ∃ i c : Nat, ∃ a : Option Addr, i ≤ n ∧ vi = .int .i64 i ∧ v = .slice a i c ∧ Hid (wr.ownsRow w.heap.size 5 1 (.slice a i c) i (cellsU8 ((plusL n A B).take i))) ∧ Hid (Below w.heap.size w wr)) (fun _ vi _ => n - (intOf vi).toNat)
  case atStart => exact ⟨0, 0, none, by omega, rfl, rfl, World.ownsRow_nil _ _ _ _, Below.refl _ _⟩
  case round =>
    obtain ⟨i, c3, a3, hle, rfl, rfl, HO3, HB3⟩ := hrel
    by_cases hlt : i < n
    · obtain ⟨x, HX⟩ : ∃ x, Hid (x = A.getD i 0) := ⟨_, rfl⟩
      obtain ⟨y, HY⟩ : ∃ y, Hid (y = B.getD i 0) := ⟨_, rfl⟩
      have F0 : Hid (∀ u, Below wr.heap.size wr u → u.cell? ⟨b1, o1 + i, none⟩ = some (.int .u8 x)) := fun u hu => by
        rw [hu.cell (p := ⟨b1, o1 + i, none⟩) (Nat.lt_of_lt_of_le hb1 HB3.out.size), HB3.out.cell (p := ⟨b1, o1 + i, none⟩) hb1, HX.out]
        exact h1.out i hlt
      have F1 : Hid (∀ u, Below wr.heap.size wr u → u.cell? ⟨b2, o2 + i, none⟩ = some (.int .u8 y)) := fun u hu => by
        rw [hu.cell (p := ⟨b2, o2 + i, none⟩) (Nat.lt_of_lt_of_le hb2 HB3.out.size), HB3.out.cell (p := ⟨b2, o2 + i, none⟩) hb2, HY.out]
        exact h2.out i hlt
      have hS0 : Below wr.heap.size wr wr.drew := (Below.refl _ _).drew
      have hBa : Below wr.heap.size wr (wr.drew.alloc (.cells #[.int .u8 (bits .xor .u8 x y)] 5)) := hS0.alloc (Nat.le_refl _) _
      have HOa : Hid ((wr.drew.alloc (.cells #[.int .u8 (bits .xor .u8 x y)] 5)).ownsRow w.heap.size 5 1 (.slice a3 i c3) i (cellsU8 ((plusL n A B).take i))) := owns_kept HO3.out hBa
      have HSa : Hid (w.heap.size ≤ (wr.drew.alloc (.cells #[.int .u8 (bits .xor .u8 x y)] 5)).heap.size) := Nat.le_trans HB3.out.size hBa.size
      have HBa : Hid (Below w.heap.size w (wr.drew.alloc (.cells #[.int .u8 (bits .xor .u8 x y)] 5))) := HB3.out.trans (hBa.mono HB3.out.size)
      have HBx : Hid (Below wr.heap.size wr (wr.drew.alloc (.cells #[.int .u8 (bits .xor .u8 x y)] 5))) := hBa
      clear hBa
      go_wp2
      refine wp_region_noPanic ?_
      refine wp_region_till (fun u => Below wr.heap.size wr u) 11 (by kernel_rfl) (by decide) (by decide +kernel) (by decide +kernel) (by decide +kernel) (fun inv => ?_)
      refine till_at 0 13 (.slice a3 i c3) inv rfl rfl (by decide) (by decide +kernel) (by decide +kernel) (fun _ _ _ h => h) (hS0) (Or.inl ⟨by rfl, fun w' hS' => by go_simp⟩) (fun inv' => ?_)
      clear inv; have inv := inv'; clear inv'
      simp only [List.setIfInBounds_toArray, List.set_cons_zero, List.set_cons_succ]
      refine till_at 1 14 (.slice (some ⟨b1, o1, none⟩) n c1) inv rfl rfl (by decide) (by decide +kernel) (by decide +kernel) (fun _ _ _ h => h) (hS0) (Or.inl ⟨by rfl, fun w' hS' => by go_simp⟩) (fun inv' => ?_)
      clear inv; have inv := inv'; clear inv'
      simp only [List.setIfInBounds_toArray, List.set_cons_zero, List.set_cons_succ]
      refine till_at 2 15 (.int .i64 (i : Nat)) inv rfl rfl (by decide) (by decide +kernel) (by decide +kernel) (fun _ _ _ h => h) (hS0) (Or.inl ⟨by rfl, fun w' hS' => by go_simp⟩) (fun inv' => ?_)
      clear inv; have inv := inv'; clear inv'
      simp only [List.setIfInBounds_toArray, List.set_cons_zero, List.set_cons_succ]
      refine till_at 3 16 (.pointer (some ⟨b1, o1 + i, none⟩)) inv rfl rfl (by decide) (by decide +kernel) (by decide +kernel) (fun _ _ _ h => h) (hS0) (Or.inl ⟨by rfl, fun w' hS' => by go_simp⟩) (fun inv' => ?_)
      clear inv; have inv := inv'; clear inv'
      simp only [List.setIfInBounds_toArray, List.set_cons_zero, List.set_cons_succ]
      refine till_at 4 17 (.int .u8 x) inv rfl rfl (by decide) (by decide +kernel) (by decide +kernel) (fun _ _ _ h => h) (hS0) (Or.inl ⟨by rfl, fun w' hS' => by have q := F0.out w' hS'; go_simp⟩) (fun inv' => ?_)
      clear inv; have inv := inv'; clear inv'
      simp only [List.setIfInBounds_toArray, List.set_cons_zero, List.set_cons_succ]
      refine till_at 5 18 (.slice (some ⟨b2, o2, none⟩) n c2) inv rfl rfl (by decide) (by decide +kernel) (by decide +kernel) (fun _ _ _ h => h) (hS0) (Or.inl ⟨by rfl, fun w' hS' => by go_simp⟩) (fun inv' => ?_)
      clear inv; have inv := inv'; clear inv'
      simp only [List.setIfInBounds_toArray, List.set_cons_zero, List.set_cons_succ]
      refine till_at 6 19 (.int .i64 (i : Nat)) inv rfl rfl (by decide) (by decide +kernel) (by decide +kernel) (fun _ _ _ h => h) (hS0) (Or.inl ⟨by rfl, fun w' hS' => by go_simp⟩) (fun inv' => ?_)
      clear inv; have inv := inv'; clear inv'
      simp only [List.setIfInBounds_toArray, List.set_cons_zero, List.set_cons_succ]
      refine till_at 7 20 (.pointer (some ⟨b2, o2 + i, none⟩)) inv rfl rfl (by decide) (by decide +kernel) (by decide +kernel) (fun _ _ _ h => h) (hS0) (Or.inl ⟨by rfl, fun w' hS' => by go_simp⟩) (fun inv' => ?_)
      clear inv; have inv := inv'; clear inv'
      simp only [List.setIfInBounds_toArray, List.set_cons_zero, List.set_cons_succ]
      refine till_at 8 21 (.int .u8 y) inv rfl rfl (by decide) (by decide +kernel) (by decide +kernel) (fun _ _ _ h => h) (hS0) (Or.inl ⟨by rfl, fun w' hS' => by have q := F1.out w' hS'; go_simp⟩) (fun inv' => ?_)
      clear inv; have inv := inv'; clear inv'
      simp only [List.setIfInBounds_toArray, List.set_cons_zero, List.set_cons_succ]
      refine till_at 9 22 (.int .u8 (bits .xor .u8 x y)) inv rfl rfl (by decide) (by decide +kernel) (by decide +kernel) (fun _ _ _ h => h) (hS0) (Or.inl ⟨by rfl, fun w' hS' => by go_simp⟩) (fun inv' => ?_)
      clear inv; have inv := inv'; clear inv'
      simp only [List.setIfInBounds_toArray, List.set_cons_zero, List.set_cons_succ]
      refine till_head (i := 10) inv (by decide +kernel) (by decide) rfl (fun K hK => ?_)
      go_simp
      refine hK.out _ _ HBx.out (fun inv' => ?_)
      clear hK K inv; have inv := inv'; clear inv'
      try simp only [List.setIfInBounds_toArray, List.set_cons_zero, List.set_cons_succ]
      refine till_tail (i := 11) (by decide +kernel) (by decide) rfl (fun K hK => ?_)
      rw [if_pos (by rfl)]
      refine wp_append_own _ (.tmp 13) (.tmp 23) 22 rfl w.heap.size 5 i0 (.int .u8 0) 1 1 Tryd.underlying22 hi hz0 hz1 hz2 rfl (by decide) _ i (cellsU8 ((plusL n A B).take i)) rfl HOa.out ⟨wr.heap.size, 0, none⟩ 1 1 [.int .u8 (bits .xor .u8 x y)] rfl rfl (one_cell wr.drew _ _) (one_one _) (by unfold maxLen; omega) (by omega) HSa.out (fun v4 w4 hown4 hgrow4 hnil4 => ?_)
      refine hK.out _ _ ?_
      clear hK K
      try simp only [List.setIfInBounds_toArray, List.set_cons_zero, List.set_cons_succ]
      refine till_tail (i := 12) (by decide +kernel) (by decide) rfl (fun K hK => ?_)
      go_simp
      refine hK.out _ _ ?_
      clear hK K
      try simp only [List.setIfInBounds_toArray, List.set_cons_zero, List.set_cons_succ]
      refine till_done (by decide +kernel) ?_ _
      refine NoPanic.normal ?_
      have HB4 : Hid (Below w.heap.size w w4) := HBa.out.grown hgrow4 HSa.out (fun q hq => (HOa.out.lt q hq).1)
      have ho4 : w4.ownsRow w.heap.size 5 1 v4 (i + 1) (cellsU8 ((plusL n A B).take (i + 1))) := by
        rw [List.take_add_one, plusL_at n A B i hlt, cellsU8_append, ← HX.out, ← HY.out]
        exact hown4
      clear hown4 hgrow4 hnil4
      obtain ⟨a4, c4, rfl⟩ := owns_slice ho4
      have HO4 : Hid (w4.ownsRow w.heap.size 5 1 (.slice a4 (i + 1) c4) (i + 1) (cellsU8 ((plusL n A B).take (i + 1)))) := ho4
      clear ho4 HOa HBa HSa F0 F1 HO3 HB3
      go_wp2
      go_roundw
      case rel => exact ⟨i + 1, c4, a4, by omega, by go_num, rfl, HO4, HB4⟩
      case measure => simp [intOf]; omega
    · obtain rfl : i = n := by omega
      go_wp2
      go_ret
      refine ⟨_, rfl, ?_, HB3.out⟩
      have q := HO3.out
      rw [List.take_of_length_le (by rw [plusL_length]; exact Nat.le_refl _)] at q
      exact q
theorem rplus_ok (v1 v2 : Value) (A B : List Int) (n : Nat) (w : World) (hA : View w v1 A) (hB : View w v2 B) (lA : A.length = n) (lB : B.length = n) (h0 : 0 < n) (hn : n ≤ 1024) :
    Calls Tryd.prog 30 #[v1, v2] w fun e w' => ∃ v', e = .returned v' ∧ w'.ownsRow w.heap.size 5 1 v' n (cellsU8 (plusL n A B)) ∧ Below w.heap.size w w' := by
  obtain ⟨a1, c1, rfl, p1, p2, p3, p4⟩ := hA
  obtain ⟨a2, c2, rfl, q1, q2, q3, q4⟩ := hB
  rcases p4 with p4 | ⟨b1, o1, rfl, p5⟩
  · rw [p4] at lA; simp at lA; omega
  · rcases q4 with q4 | ⟨b2, o2, rfl, q5⟩
    · rw [q4] at lB; simp at lB; omega
    · rw [lA, lB]
      rw [lA] at p5
      rw [lB] at q5
      exact rplus_some b1 o1 c1 b2 o2 c2 n A B w hn (lt_of_cell (p5 0 h0)) (lt_of_cell (q5 0 h0)) p5 q5
end Go.Proofs.YtcopkohklgbpgaaDoor
namespace Go.Proofs.YtcopkohklgbpgaaDoor
open Go.RowKit Go.Shelf
set_option linter.unusedVariables false
set_option linter.unusedSimpArgs false
/-- What is added to the last stripe. -/
def befL (h : Int) (n : Nat) (A : List Int) (x : Nat) : List Int := (List.range n).map (maskF h n (fun i => A.getD i 0) x (fun _ => 0))
theorem befL_length (h : Int) (n : Nat) (A : List Int) (x : Nat) : (befL h n A x).length = n := by simp [befL]
theorem maskF_succ (h : Int) (n : Nat) (a : Nat → Int) (x : Nat) (f : Nat → Int) : maskF h n a (x + 1) f = diffF h n (xorF (maskF h n a x f) (fun i => a (x * n + i)) n) := by
  simp only [maskF, List.range_succ, List.foldl_append, List.foldl_cons, List.foldl_nil, mstep]
theorem befL_at (h : Int) (n : Nat) (A : List Int) (x j : Nat) (hj : j < n) : (befL h n A x).getD j 0 = maskF h n (fun i => A.getD i 0) x (fun _ => 0) j := by
  simp [befL, List.getD, hj]
theorem piece_at (A : List Int) (q n j : Nat) (hj : j < n) : ((A.drop q).take n).getD j 0 = A.getD (q + j) 0 := by
  simp [List.getD, List.getElem?_take, hj]
theorem befL_succ {h : Int} (k : Known h) (n : Nat) (A : List Int) (x : Nat) : befL h n A (x + 1) = spreadL h (plusL n (befL h n A x) ((A.drop (x * n)).take n)) := by
  have hl := plusL_length n (befL h n A x) ((A.drop (x * n)).take n)
  have q := diffF_list h k (plusL n (befL h n A x) ((A.drop (x * n)).take n)) (xorF (maskF h n (fun i => A.getD i 0) x (fun _ => 0)) (fun i => A.getD (x * n + i) 0) n) (fun j hj => by
    rw [hl] at hj
    unfold xorF
    rw [if_pos hj, List.getD_eq_getElem?_getD, plusL_at n _ _ j hj, befL_at h n A x j hj, piece_at A (x * n) n j hj]
    rfl)
  rw [← q, hl]
  unfold befL
  rw [maskF_succ]
set_option maxHeartbeats 1600000 in
set_option maxRecDepth 100000 in
theorem rbefore_ok {h : Int} (k : Known h) (n cnt m c : Nat) (a : Option Addr) (A : List Int) (w : World) (hR : Hid (RTab w)) (hn : 1 ≤ n ∧ n ≤ 1024) (hm : Hid (m = n * cnt)) (hmb : m ≤ 10000000) (hA : Hid (View w (.slice a m c) A)) (hAl : Hid (A.length = m)) :
    Calls Tryd.prog 29 #[.int .i64 h, .int .i64 (n : Nat), .slice a m c] w fun e w' => ∃ v', e = .returned v' ∧ w'.ownsRow w.heap.size 5 1 v' n (cellsU8 (befL h n A cnt)) ∧ Below w.heap.size w w' := by
  obtain ⟨i0, hi, hz0, hz1, hz2⟩ := info_parts Tryd.info5
  have hmc : m ≤ c ∧ c ≤ 9223372036854775807 := by
    obtain ⟨a', c', e, q1, q2, _⟩ := hA.out
    injection e with e1 e2 e3
    unfold maxLen at q2
    omega
  go_enter Tryd.func29, Tryd.ntmps29
  go_wp2_with (first
    | (at_make; go_must (refine wpList_make_full _ rfl _ _ 22 rfl w.heap.size 5 i0 (.int .u8 0) 1 Tryd.underlying22 hi hz0 hz1 .i64 .i64 (n : Nat) (n : Nat) n rfl rfl rfl rfl ?_ ?_ ?_ ?_)))
  · rw [hz2]; omega
  · unfold maxLen; omega
  · exact Nat.le_refl _
  intro w1 hown hgr
  have HB1 : Hid (Below w.heap.size w w1) := (Below.refl _ _).grown hgr (Nat.le_refl _) (by intro k hk; cases hk)
  have HO1 : Hid (w1.ownsRow w.heap.size 5 1 (.slice (some ⟨w.heap.size, 0, none⟩) n n) n (cellsU8 (befL h n A 0))) := by
    have e : cellsU8 (befL h n A 0) = (madeCells #[.int .u8 0] n).toList := by
      apply List.ext_getElem?
      intro j
      by_cases hj : j < n
      · simp [cellsU8, befL, maskF, madeCells, hj, Nat.mod_one]
      · rw [List.getElem?_eq_none (by rw [cellsU8_length, befL_length]; omega), List.getElem?_eq_none (by simp [madeCells]; omega)]
    show World.ownsRow _ _ _ _ _ _ _
    rw [e]
    exact hown
  clear hown hgr
  go_wp2
  go_loopw [7, 8] (fun v vi wr => ∃ x q : Nat, Hid (x ≤ cnt ∧ q = n * x) ∧ vi = .int .i64 (q : Nat) ∧ Hid (wr.ownsRow w.heap.size 5 1 v n (cellsU8 (befL h n A x))) ∧ Hid (Below w.heap.size w wr)) (fun _ vi _ => m - (intOf vi).toNat)
  case atStart => exact ⟨0, 0, ⟨Nat.zero_le _, by simp⟩, rfl, HO1, HB1⟩
  case round =>
    obtain ⟨x, q, HX, rfl, HO, HB⟩ := hrel
    clear HO1 HB1
    by_cases hlt : q < m
    · have hxc : Hid (x < cnt ∧ q + n ≤ m) := by
        have h1 := HX.out
        have h2 := hm.out
        have hx : x < cnt := by
          rcases Nat.lt_or_ge x cnt with h | h
          · exact h
          · have := Nat.mul_le_mul_left n h
            omega
        refine ⟨hx, ?_⟩
        have h3 := Nat.mul_le_mul_left n (show x + 1 ≤ cnt from hx)
        rw [Nat.mul_succ] at h3
        omega
      have hqn : q + n ≤ m := hxc.out.2
      have HVA : Hid (View wr (.slice a m c) A) := hA.out.kept fun b hb => HB.out.block b hb
      obtain ⟨b, off, hab⟩ : ∃ b off, a = some ⟨b, off, none⟩ := by
        obtain ⟨a', c', e, q1, q2, q3, q4⟩ := hA.out
        injection e with e1 e2 e3
        rcases q4 with q4 | ⟨b, off, e4, _⟩
        · have := hAl.out
          rw [q4] at this
          simp at this
          omega
        · exact ⟨b, off, by rw [e1, e4]⟩
      subst hab
      have hsl : ∀ u, (Instr.slice 22 (.slice (some ⟨b, off, none⟩) m c) (some (.int .i64 (q : Nat))) (some (.int .i64 ((q : Int) + (n : Nat)))) none).run Tryd.prog u = .ok (.slice (some ⟨b, off + q, none⟩) n (c - q)) u := fun u => slice22 u b off m c q n (n : Nat) rfl (by omega) (by omega)
      have HVP : Hid (View wr (.slice (some ⟨b, off + q, none⟩) n (c - q)) ((A.drop (x * n)).take n)) := by
        have h1 := hAl.out
        have h2 := HX.out
        have hlen : ((A.drop (x * n)).take n).length = n := by
          rw [List.length_take, List.length_drop, h1, Nat.mul_comm x, ← h2.2]
          omega
        obtain ⟨a', c', e, q1, q2, q3, q4⟩ := HVA.out
        injection e with e1 e2 e3
        refine ⟨some ⟨b, off + q, none⟩, c - q, by rw [hlen], by rw [hlen]; omega, by unfold maxLen; omega, (fun e => by cases e), .inr ⟨b, off + q, rfl, fun j hj => ?_⟩⟩
        rw [hlen] at hj
        rcases q4 with q4 | ⟨b', off', e4, q5⟩
        · rw [q4] at h1
          simp at h1
          omega
        · rw [e4] at e1
          injection e1 with e1
          injection e1 with e5 e6
          subst e5 e6
          rw [piece_at A (x * n) n j hj, Nat.add_assoc, q5 (q + j) (by omega), h2.2, Nat.mul_comm n]
      have H30 : Hid (Calls Tryd.prog 30 #[u7, .slice (some ⟨b, off + q, none⟩) n (c - q)] wr fun e w' => Hid (∃ v', e = .returned v' ∧ w'.ownsRow wr.heap.size 5 1 v' n (cellsU8 (plusL n (befL h n A x) ((A.drop (x * n)).take n))) ∧ Below wr.heap.size wr w')) := by
        have h1 := hAl.out
        have h2 := HX.out
        exact rplus_ok u7 _ (befL h n A x) ((A.drop (x * n)).take n) n wr (viewOwns HO.out (befL_length h n A x)) HVP.out (befL_length h n A x) (by rw [List.length_take, List.length_drop, h1, Nat.mul_comm x, ← h2.2]; omega) (by omega) hn.2
      go_upto_region 6 with (go_at_call 30; refine H30.out.mono ?_)
      intro e3 w3 hh
      obtain ⟨vX, rfl, ho3, hb3⟩ := hh.out
      obtain ⟨X, HXX⟩ : ∃ X, Hid (X = plusL n (befL h n A x) ((A.drop (x * n)).take n)) := ⟨_, rfl⟩
      rw [← HXX.out] at ho3
      have HXl : Hid (X.length = n) := by show _ = _; rw [HXX.out, plusL_length]
      have HB3 : Hid (Below w.heap.size w w3) := HB.out.trans (hb3.mono HB.out.size)
      have H28 : Hid (Calls Tryd.prog 28 #[.int .i64 h, vX] w3 fun e w' => Hid (∃ v', e = .returned v' ∧ w'.ownsRow w3.heap.size 5 1 v' X.length (cellsU8 (spreadL h X)) ∧ Below w3.heap.size w3 w')) := rspread_any k vX X w3 (hR.out.below HB3.out hR.out.size) (viewOwns ho3 HXl.out) (by rw [HXl.out]; exact hn.2)
      clear hh ho3 hb3 H30 HVP HVA
      go_wp2_with (go_at_call 28; refine H28.out.mono ?_)
      intro e5 w5 hh
      obtain ⟨v5, rfl, ho5, hb5⟩ := hh.out
      have HB5 : Hid (Below w.heap.size w w5) := HB3.out.trans (hb5.mono HB3.out.size)
      have HO5 : Hid (w5.ownsRow w.heap.size 5 1 v5 n (cellsU8 (befL h n A (x + 1)))) := by
        rw [befL_succ k, ← HXX.out]
        rw [HXl.out] at ho5
        exact owns_base ho5 HB3.out.size
      clear hh ho5 hb5 H28 HB3 HO HB
      go_wp2
      go_roundw
      case rel => exact ⟨x + 1, q + n, ⟨hxc.out.1, by have := HX.out; rw [Nat.mul_succ]; omega⟩, by go_num, HO5, HB5⟩
      case measure => simp [intOf]; omega
    · have hxc : Hid (x = cnt) := by
        have h1 := HX.out
        have h2 := hm.out
        show x = cnt
        rcases Nat.lt_or_ge x cnt with h | h
        · have h3 := Nat.mul_le_mul_left n (show x + 1 ≤ cnt from h)
          rw [Nat.mul_succ] at h3
          omega
        · omega
      go_wp2
      go_ret
      refine ⟨_, rfl, ?_, HB.out⟩
      rw [← hxc.out]
      exact HO.out
end Go.Proofs.YtcopkohklgbpgaaDoor
namespace Go.Proofs.YtcopkohklgbpgaaDoor
open Go.RowKit Go.Shelf
set_option linter.unusedVariables false
set_option linter.unusedSimpArgs false
set_option maxHeartbeats 400000 in
/-- The document's Diffuse. -/
theorem rdif_ok (h : Int) (v : Value) (Z : List Int) (w : World) (hR : RTab w) (hv : View w v Z) :
    Calls Tryd.prog 15 #[.int .i64 h, v] w fun e w' => ∃ v', e = .returned (.tuple #[v', .int .i64 (difE h Z)]) ∧ w'.ownsRow w.heap.size 5 1 v' (difL h Z).length (cellsU8 (difL h Z)) ∧ Below w.heap.size w w' := by
  by_cases k : Known h
  · have hs := szOf_pos k
    obtain ⟨a, c, hveq, h1, h2⟩ : ∃ a c, v = .slice a Z.length c ∧ Z.length ≤ c ∧ c ≤ maxLen := by
      obtain ⟨a, c, e, h1, h2, _⟩ := hv
      exact ⟨a, c, e, h1, h2⟩
    unfold maxLen at h2
    by_cases hl : Z.length ≤ 1024
    · have e1 : difE h Z = 0 := by unfold difE; rw [if_pos k, if_pos hl]
      have e2 : difL h Z = spreadL h Z := by unfold difL; rw [if_pos k, if_pos hl]
      rw [e1, e2, spreadL_length]
      have H28 : Hid (Calls Tryd.prog 28 #[.int .i64 h, v] w fun e w' => ∃ v', e = .returned v' ∧ w'.ownsRow w.heap.size 5 1 v' Z.length (cellsU8 (spreadL h Z)) ∧ Below w.heap.size w w') := rspread_any k v Z w hR hv hl
      subst hveq
      obtain ⟨n, hn⟩ : ∃ n, n = Z.length := ⟨_, rfl⟩
      rw [← hn] at H28 hl h1 ⊢
      have hl2 : ¬ (1024 : Int) < (n : Nat) := by omega
      clear hn hv
      go_enter Tryd.func15, Tryd.ntmps15
      go_wp2_with (first
        | (go_at_call 27; refine (rsize_ok h k _).mono ?_; rintro e1 wx ⟨rfl, hwx⟩; obtain rfl := hwx.symm)
        | (go_at_call 28; refine H28.out.mono ?_))
      rintro e w1 ⟨v1, rfl, ho, hb⟩
      have HO : Hid (w1.ownsRow w.heap.size 5 1 v1 n (cellsU8 (spreadL h Z)) ∧ Below w.heap.size w w1) := ⟨ho, hb⟩
      clear ho hb
      go_wp2
      go_ret2
      exact ⟨_, rfl, HO.out.1, HO.out.2⟩
    · have e1 : difE h Z = 4 := by unfold difE; rw [if_pos k, if_neg hl]
      have e2 : difL h Z = [] := by unfold difL; rw [if_pos k, if_neg hl]
      rw [e1, e2]
      subst hveq
      obtain ⟨n, hn⟩ : ∃ n, n = Z.length := ⟨_, rfl⟩
      rw [← hn] at hl h1 ⊢
      have hl2 : (1024 : Int) < (n : Nat) := by omega
      clear hn hv
      go_enter Tryd.func15, Tryd.ntmps15
      go_wp2_with (go_at_call 27; refine (rsize_ok h k _).mono ?_; rintro e1 wx ⟨rfl, hwx⟩; obtain rfl := hwx.symm)
      go_ret2
      exact ⟨_, rfl, World.ownsRow_nil _ _ _ _, Below.refl _ _⟩
  · have e1 : difE h Z = 10 := by unfold difE; rw [if_neg k]
    have e2 : difL h Z = [] := by unfold difL; rw [if_neg k]
    rw [e1, e2]
    go_enter Tryd.func15, Tryd.ntmps15
    go_wp2_with (go_at_call 27; refine (rsize_bad h k _).mono ?_; rintro e1 wx ⟨rfl, hwx⟩; obtain rfl := hwx.symm)
    go_ret2
    exact ⟨_, rfl, World.ownsRow_nil _ _ _ _, Below.refl _ _⟩
theorem View.grown {w w' : World} {v : Value} {zs : List Int} {ob : Option Nat} (hv : View w v zs) (hg : w.grownBy w' ob) (hne : ∀ b off l c, v = .slice (some ⟨b, off, none⟩) l c → some b ≠ ob) : View w' v zs := by
  obtain ⟨a, c, rfl, h1, h2, h3, h4⟩ := hv
  refine ⟨a, c, rfl, h1, h2, h3, ?_⟩
  rcases h4 with h4 | ⟨b, off, rfl, hc⟩
  · exact .inl h4
  · refine .inr ⟨b, off, rfl, fun i hi => ?_⟩
    have hb := lt_of_cell (hc i hi)
    rw [World.cell?_of_block (w := w) (hg.block b hb (hne b off _ c rfl))]
    exact hc i hi
theorem Ans.apart {B : Nat} {w : World} {v v2 : Value} {zs : List Int} (h : Ans B w v zs) (hb : ∀ b, v2.ownBlock = some b → b < B) : ∀ b off l c, v = .slice (some ⟨b, off, none⟩) l c → some b ≠ v2.ownBlock := by
  intro b off l c e e2
  have h1 := (h.ge (b := b) (by rw [e]; rfl)).1
  have h2 := hb b e2.symm
  omega
theorem owns_apart {B n : Nat} {w : World} {v v2 : Value} {xs : List Value} (h : w.ownsRow B 5 1 v n xs) (hb : ∀ b, v2.ownBlock = some b → b < B) : ∀ b off l c, v = .slice (some ⟨b, off, none⟩) l c → some b ≠ v2.ownBlock := by
  intro b off l c e e2
  have h1 := (h.lt b (by rw [e]; rfl)).1
  have h2 := hb b e2.symm
  omega
theorem view12 (w : World) : View (w.alloc (.cells #[.int .u8 1, .int .u8 2] 5)) (.slice (some ⟨w.heap.size, 0, none⟩) 2 2) [1, 2] := viewOwns (owns_lit w [1, 2] 2 rfl (by decide)) rfl
theorem all12 : AllBytes [1, 2] := by
  intro i
  match i with
  | 0 => decide
  | 1 => decide
  | i + 2 => simp
theorem difE12 : difE 256 [1, 2] = 0 := by decide
set_option maxHeartbeats 3200000 in
set_option maxRecDepth 100000 in
theorem diffuses_ok (h : Int) (v : Value) (Z : List Int) (w : World) (hT : Hid (Tables w)) (hR : Hid (RTab w)) (hv : Hid (View w v Z)) (hab : Hid (AllBytes Z)) (hn : Hid (Z.length + 70 ≤ 140737488355328)) :
    Calls Tryd.prog 5 #[.int .i64 h, v] w fun e w' => e = .returned (.bool true) ∧ Below w.heap.size w w' := by
  have hT4 := hT.out.size
  go_enter Tryd.func5, Tryd.ntmps5
  go_upto_region 2 with (go_at_call 13; refine (copy_any v Z w hn.out hv.out).mono ?_)
  rintro e1 w1 ⟨vb, rfl, hm1, hb1⟩
  have HB1 : Hid (Below w.heap.size w w1) := hb1
  have HM1 : Hid (Marked w.heap.size w1 vb Z) := hm1
  clear hm1 hb1
  have H14 : Hid (Calls Tryd.prog 14 #[.int .i64 h, vb] w1 fun e w' => Hid (∃ v', e = .returned (.tuple #[v', .int .i64 (difE h Z)]) ∧ Ans w1.heap.size w' v' (difL h Z) ∧ Below w1.heap.size w1 w')) := dif_ok h vb Z w1 (hT.out.below HB1.out hT4) HM1.out.view hab.out
  obtain ⟨E, HE⟩ : ∃ E, Hid (E = difE h Z) := ⟨_, rfl⟩
  rw [← HE.out] at H14
  go_upto_region 3 with (go_at_call 14; refine H14.out.mono ?_)
  intro e2 w2 hh
  obtain ⟨vx, rfl, hA2, hb2⟩ := hh.out
  have HB2 : Hid (Below w1.heap.size w1 w2) := hb2
  have HX2 : Hid (Ans w1.heap.size w2 vx (difL h Z)) := hA2
  clear hh hA2 hb2 H14
  have H14b : Hid (Calls Tryd.prog 14 #[.int .i64 256, .slice (some ⟨w2.heap.size, 0, none⟩) 2 2] (w2.alloc (.cells #[.int .u8 1, .int .u8 2] 5)) fun e w' => Hid (∃ v', e = .returned (.tuple #[v', .int .i64 0]) ∧ Ans (w2.heap.size + 1) w' v' (difL 256 [1, 2]) ∧ Below w2.heap.size w2 w')) := by
    have hb := (Below.refl w2.heap.size w2).alloc (Nat.le_refl _) (.cells #[.int .u8 1, .int .u8 2] 5)
    have h12 := HB1.out.size
    have h23 := HB2.out.size
    have q := dif_ok 256 _ [1, 2] (w2.alloc (.cells #[.int .u8 1, .int .u8 2] 5)) (((hT.out.below HB1.out hT4).below HB2.out (by omega)).below hb (by omega)) (view12 w2) all12
    rw [difE12, size_alloc] at q
    exact q.mono fun e w' hh => by
      obtain ⟨v', q1, q2, q3⟩ := hh
      exact ⟨v', q1, q2, hb.trans (q3.mono (by omega))⟩
  go_upto_region 4 with (go_at_call 14; refine H14b.out.mono ?_)
  intro e3 w3 hh
  obtain ⟨vz, rfl, hA3, hb3⟩ := hh.out
  have HB3 : Hid (Below w2.heap.size w2 w3) := hb3
  have HZ3 : Hid (Ans (w2.heap.size + 1) w3 vz (difL 256 [1, 2])) := hA3
  clear hh hA3 hb3 H14b
  have HB13 : Hid (Below w1.heap.size w1 w3) := HB2.out.trans (HB3.out.mono HB2.out.size)
  have H14c : Hid (Calls Tryd.prog 14 #[.int .i64 h, vb] w3 fun e w' => Hid (∃ v', e = .returned (.tuple #[v', .int .i64 (difE h Z)]) ∧ Ans w3.heap.size w' v' (difL h Z) ∧ Below w3.heap.size w3 w')) := dif_ok h vb Z w3 ((hT.out.below HB1.out hT4).below HB13.out (by have := HB1.out.size; omega)) (HM1.out.view.kept fun b hb => HB13.out.block b hb) hab.out
  rw [← HE.out] at H14c
  go_upto_region 5 with (go_at_call 14; refine H14c.out.mono ?_)
  intro e4 w4 hh
  obtain ⟨vy, rfl, hA4, hb4⟩ := hh.out
  have HB4 : Hid (Below w3.heap.size w3 w4) := hb4
  have HY4 : Hid (Ans w3.heap.size w4 vy (difL h Z)) := hA4
  clear hh hA4 hb4 H14c
  have HB04 : Hid (Below w.heap.size w w4) := (HB1.out.trans (HB13.out.mono HB1.out.size)).trans (HB4.out.mono (Nat.le_trans HB1.out.size HB13.out.size))
  have H15 : Hid (Calls Tryd.prog 15 #[.int .i64 h, v] w4 fun e w' => Hid (∃ v', e = .returned (.tuple #[v', .int .i64 (difE h Z)]) ∧ w'.ownsRow w4.heap.size 5 1 v' (difL h Z).length (cellsU8 (difL h Z)) ∧ Below w4.heap.size w4 w')) := rdif_ok h v Z w4 (hR.out.below HB04.out hR.out.size) (hv.out.kept fun b hb => HB04.out.block b hb)
  rw [← HE.out] at H15
  go_upto_region 6 with (go_at_call 15; refine H15.out.mono ?_)
  intro e5 w5 hh
  obtain ⟨vw, rfl, hA5, hb5⟩ := hh.out
  have HB5 : Hid (Below w4.heap.size w4 w5) := hb5
  have HW5 : Hid (w5.ownsRow w4.heap.size 5 1 vw (difL h Z).length (cellsU8 (difL h Z))) := hA5
  clear hh hA5 hb5 H15
  have H15b : Hid (Calls Tryd.prog 15 #[.int .i64 256, .slice (some ⟨w5.heap.size, 0, none⟩) 2 2] (w5.alloc (.cells #[.int .u8 1, .int .u8 2] 5)) fun e w' => Hid (∃ v', e = .returned (.tuple #[v', .int .i64 0]) ∧ w'.ownsRow (w5.heap.size + 1) 5 1 v' (difL 256 [1, 2]).length (cellsU8 (difL 256 [1, 2])) ∧ Below w5.heap.size w5 w')) := by
    have hb := (Below.refl w5.heap.size w5).alloc (Nat.le_refl _) (.cells #[.int .u8 1, .int .u8 2] 5)
    have h1 := HB04.out.size
    have h2 := HB5.out.size
    have h3 := hR.out.size
    have q := rdif_ok 256 _ [1, 2] (w5.alloc (.cells #[.int .u8 1, .int .u8 2] 5)) (((hR.out.below HB04.out h3).below HB5.out (by omega)).below hb (by omega)) (view12 w5)
    rw [difE12, size_alloc] at q
    exact q.mono fun e w' hh => by
      obtain ⟨v', q1, q2, q3⟩ := hh
      exact ⟨v', q1, q2, hb.trans (q3.mono (by omega))⟩
  go_upto_region 7 with (go_at_call 15; refine H15b.out.mono ?_)
  intro e6 w6 hh
  obtain ⟨vv, rfl, hA6, hb6⟩ := hh.out
  have HB6 : Hid (Below w5.heap.size w5 w6) := hb6
  have HV6 : Hid (w6.ownsRow (w5.heap.size + 1) 5 1 vv (difL 256 [1, 2]).length (cellsU8 (difL 256 [1, 2]))) := hA6
  clear hh hA6 hb6 H15b
  have HS : Hid (w.heap.size ≤ w1.heap.size ∧ w1.heap.size ≤ w2.heap.size ∧ w2.heap.size ≤ w3.heap.size ∧ w3.heap.size ≤ w4.heap.size ∧ w4.heap.size ≤ w5.heap.size ∧ w5.heap.size ≤ w6.heap.size) := ⟨HB1.out.size, HB2.out.size, HB3.out.size, HB4.out.size, HB5.out.size, HB6.out.size⟩
  have HB46 : Hid (Below w4.heap.size w4 w6) := HB5.out.trans (HB6.out.mono HB5.out.size)
  have HB36 : Hid (Below w3.heap.size w3 w6) := HB4.out.trans (HB46.out.mono HB4.out.size)
  have HB26 : Hid (Below w2.heap.size w2 w6) := HB3.out.trans (HB36.out.mono HB3.out.size)
  have HB16 : Hid (Below w1.heap.size w1 w6) := HB2.out.trans (HB26.out.mono HB2.out.size)
  have HB06 : Hid (Below w.heap.size w w6) := HB1.out.trans (HB16.out.mono HB1.out.size)
  have HX : Hid (Ans w1.heap.size w6 vx (difL h Z)) := HX2.out.below HB26.out
  have HZz : Hid (Ans (w2.heap.size + 1) w6 vz (difL 256 [1, 2])) := HZ3.out.below HB36.out
  have HY : Hid (Ans w3.heap.size w6 vy (difL h Z)) := HY4.out.below HB46.out
  have HW : Hid (w6.ownsRow w4.heap.size 5 1 vw (difL h Z).length (cellsU8 (difL h Z))) := owns_kept HW5.out HB6.out
  have HM : Hid (Marked w.heap.size w6 vb Z) := HM1.out.kept fun b hb => HB16.out.block b hb
  have hl1 := difL_length h Z
  have hl2 := difL_length 256 [1, 2]
  have HVW : Hid (View w6 vw (difL h Z)) := viewOwns HW.out rfl
  have HVV : Hid (View w6 vv (difL 256 [1, 2])) := viewOwns HV6.out rfl
  have C1 : Hid (∀ u : World, u.heap = w6.heap → Calls Tryd.prog 11 #[vx, vw] u fun e w' => e = .returned (.bool true) ∧ ∃ m, w' = u.drewN m) := fun u hu => by
    have q := same_any vx vw (difL h Z) (difL h Z) u ((HX.out.view (by omega)).kept fun b _ => by rw [hu]) (HVW.out.kept fun b _ => by rw [hu])
    rw [show decide (difL h Z = difL h Z) = true from decide_eq_true rfl] at q
    exact q
  have C2 : Hid (∀ u : World, u.heap = w6.heap → Calls Tryd.prog 11 #[vy, vw] u fun e w' => e = .returned (.bool true) ∧ ∃ m, w' = u.drewN m) := fun u hu => by
    have q := same_any vy vw (difL h Z) (difL h Z) u ((HY.out.view (by omega)).kept fun b _ => by rw [hu]) (HVW.out.kept fun b _ => by rw [hu])
    rw [show decide (difL h Z = difL h Z) = true from decide_eq_true rfl] at q
    exact q
  have C3 : Hid (∀ u : World, u.heap = w6.heap → Calls Tryd.prog 16 #[vb, v] u fun e w' => e = .returned (.bool true) ∧ ∃ m, w' = u.drewN m) := fun u hu =>
    whole_any vb v Z w.heap.size u (HM.out.kept fun b _ => by rw [hu]) ((hv.out.kept fun b hb => HB06.out.block b hb).kept fun b _ => by rw [hu])
  have C4 : Hid (∀ u : World, u.heap = w6.heap → Calls Tryd.prog 17 #[vx] u fun e w' => e = .returned (.tuple #[]) ∧ u.grownBy w' vx.ownBlock) := fun u hu =>
    (HX.out.kept (fun b _ => by rw [hu]) (by rw [hu]; exact Nat.le_refl _)).spoil (by omega)
  have HXb : Hid (∀ b, vx.ownBlock = some b → w.heap.size ≤ b ∧ b < w2.heap.size) := fun b hb => ⟨Nat.le_trans HS.out.1 (HX2.out.ge hb).1, (HX2.out.ge hb).2⟩
  clear HX2 HZ3 HY4 HW5 HM1 HB1 HB2 HB3 HB4 HB5 HB6 HB13 HB04 HB46 HB36 HB26 HB16
  go_wp2_with (go_at_call 10; refine (num_ok _ _).mono ?_; rintro e1 wx ⟨rfl, hwx⟩; obtain rfl := hwx.symm)
  refine (C1.out _ ?_).mono ?_
  · rfl
  rintro e7 w7 ⟨rfl, m7, rfl⟩
  go_wp2_with fail
  refine (C2.out _ ?_).mono ?_
  · rfl
  rintro e8 w8 ⟨rfl, m8, rfl⟩
  go_wp2_with fail
  refine (C3.out _ ?_).mono ?_
  · rfl
  rintro e9 w9 ⟨rfl, m9, rfl⟩
  go_wp2_with fail
  refine (C4.out _ ?_).mono ?_
  · rfl
  rintro e10 w10 ⟨rfl, hg⟩
  have HVY : Hid (View w10 vy (difL h Z)) := ((HY.out.view (by omega)).kept (w' := w6.drewN (m7 + m8 + m9)) fun b _ => rfl).grown hg (HY.out.apart fun b hb => by have := (HXb.out b hb).2; have := HS.out; omega)
  have HVW2 : Hid (View w10 vw (difL h Z)) := (HVW.out.kept (w' := w6.drewN (m7 + m8 + m9)) fun b _ => rfl).grown hg (owns_apart HW.out fun b hb => by have := (HXb.out b hb).2; have := HS.out; omega)
  have HVZ : Hid (View w10 vz (difL 256 [1, 2])) := ((HZz.out.view (by omega)).kept (w' := w6.drewN (m7 + m8 + m9)) fun b _ => rfl).grown hg (HZz.out.apart fun b hb => by have := (HXb.out b hb).2; have := HS.out; omega)
  have HVV2 : Hid (View w10 vv (difL 256 [1, 2])) := (HVV.out.kept (w' := w6.drewN (m7 + m8 + m9)) fun b _ => rfl).grown hg (owns_apart HV6.out fun b hb => by have := (HXb.out b hb).2; have := HS.out; omega)
  have HB10 : Hid (Below w.heap.size w w10) := by
    have hb : Below w.heap.size w (w6.drewN (m7 + m8 + m9)) := ⟨HB06.out.os, HB06.out.tape, HB06.out.output, HB06.out.size, HB06.out.block⟩
    exact hb.grown hg hb.size (fun b hb => (HXb.out b hb).1)
  have C5 : Hid (∀ u : World, u.heap = w10.heap → Calls Tryd.prog 11 #[vy, vw] u fun e w' => e = .returned (.bool true) ∧ ∃ m, w' = u.drewN m) := fun u hu => by
    have q := same_any vy vw (difL h Z) (difL h Z) u (HVY.out.kept fun b _ => by rw [hu]) (HVW2.out.kept fun b _ => by rw [hu])
    rw [show decide (difL h Z = difL h Z) = true from decide_eq_true rfl] at q
    exact q
  have C6 : Hid (∀ u : World, u.heap = w10.heap → Calls Tryd.prog 11 #[vz, vv] u fun e w' => e = .returned (.bool true) ∧ ∃ m, w' = u.drewN m) := fun u hu => by
    have q := same_any vz vv (difL 256 [1, 2]) (difL 256 [1, 2]) u (HVZ.out.kept fun b _ => by rw [hu]) (HVV2.out.kept fun b _ => by rw [hu])
    rw [show decide (difL 256 [1, 2] = difL 256 [1, 2]) = true from decide_eq_true rfl] at q
    exact q
  clear hg C1 C2 C3 C4 HX HY HW HZz HM HVW HVV HV6 HB06
  go_wp2_with fail
  refine (C5.out _ ?_).mono ?_
  · rfl
  rintro e11 w11 ⟨rfl, m11, rfl⟩
  go_wp2_with fail
  refine (C6.out _ ?_).mono ?_
  · rfl
  rintro e12 w12 ⟨rfl, m12, rfl⟩
  go_wp2_with fail
  go_ret
  exact ⟨rfl, ⟨HB10.out.os, HB10.out.tape, HB10.out.output, HB10.out.size, HB10.out.block⟩⟩
end Go.Proofs.YtcopkohklgbpgaaDoor
namespace Go.Proofs.YtcopkohklgbpgaaDoor
open Go.RowKit Go.Shelf
set_option linter.unusedVariables false
set_option linter.unusedSimpArgs false
/-- What Merge answers: its error, its bytes. -/
def mrgGood (h : Int) (L : Nat) (st : Int) : Prop := Known h ∧ 1 ≤ st ∧ st ≤ 4000 ∧ L ≠ 0 ∧ L % st.toNat = 0 ∧ L ≤ 1024 * st.toNat
instance (h : Int) (L : Nat) (st : Int) : Decidable (mrgGood h L st) := by unfold mrgGood; infer_instance
def mrgE (h : Int) (L : Nat) (st : Int) : Int := if ¬ Known h then 10 else if ¬ (1 ≤ st ∧ st ≤ 4000) then 40 else if ¬ (L ≠ 0 ∧ L % st.toNat = 0 ∧ L ≤ 1024 * st.toNat) then 41 else 0
def mrgL (h : Int) (M : List Int) (st : Int) : List Int := if mrgGood h M.length st then mergeL h (M.length / st.toNat) (st.toNat - 1) M else []
theorem mergeL_length (h : Int) (n cnt : Nat) (M : List Int) : (mergeL h n cnt M).length = n := by simp [mergeL]
theorem mrgL_length (h : Int) (M : List Int) (st : Int) : (mrgL h M st).length ≤ 1024 := by
  unfold mrgL
  split
  · rename_i k
    obtain ⟨_, h1, h2, h3, h4, h5⟩ := k
    rw [mergeL_length]
    have h6 : 0 < st.toNat := by omega
    exact Nat.div_le_of_le_mul (by rw [Nat.mul_comm]; exact h5)
  · simp
set_option maxHeartbeats 400000 in
theorem may_bad (st : Int) (hs : ¬ (1 ≤ st ∧ st ≤ 4000)) (w : World) : Calls Tryd.prog 24 #[.int .i64 st] w fun e w' => e = .returned (.bool false) ∧ w' = w := by
  by_cases h1 : 1 ≤ st
  · have h2 : ¬ st ≤ 4000 := fun h => hs ⟨h1, h⟩
    clear hs
    go_enter Tryd.func24, Tryd.ntmps24
    go_wp2
    go_ret
    exact ⟨rfl, rfl⟩
  · clear hs
    go_enter Tryd.func24, Tryd.ntmps24
    go_wp2
    go_ret
    exact ⟨rfl, rfl⟩
set_option maxHeartbeats 400000 in
theorem mrg_bad {h : Int} (k : ¬ Known h) (v : Value) (st : Int) (w : World) : Calls Tryd.prog 9 #[.int .i64 h, v, .int .i64 st] w fun e w' => e = .returned (.tuple #[.slice none 0 0, .int .i64 10]) ∧ Below w.heap.size w w' := by
  go_enter_defers Tryd.func9, Tryd.ntmps9
  go_wp2_with (go_at_call 19; refine (mbegin_bad k w).mono ?_)
  rintro e w1 ⟨rfl, hb⟩
  have HB : Hid (Below w.heap.size w w1) := hb
  clear hb
  go_wp2
  exact ⟨_, results_tmp2 rfl _ _ _, rfl, HB.out⟩
set_option maxHeartbeats 400000 in
theorem mrg_stripes {h : Int} (k : Known h) (v : Value) (st : Int) (hs : ¬ (1 ≤ st ∧ st ≤ 4000)) (w : World) (hT : Tables w) : Calls Tryd.prog 9 #[.int .i64 h, v, .int .i64 st] w fun e w' => e = .returned (.tuple #[.slice none 0 0, .int .i64 40]) ∧ Below w.heap.size w w' := by
  have hT4 : 4 ≤ w.heap.size := hT.size
  have H19 : Hid (Calls Tryd.prog 19 #[.int .i64 h] w fun e w' => Hid (∃ g s, e = .returned (.tuple #[.pointer (some ⟨g, 0, none⟩), .int .i64 0]) ∧ Mx w' g s (fun _ => 0) 0 ∧ Fresh w' s h ∧ s < g ∧ w.heap.size ≤ s ∧ Below w.heap.size w w')) := mbegin h w k hT
  have H24 : Hid (∀ u, Calls Tryd.prog 24 #[.int .i64 st] u fun e w' => e = .returned (.bool false) ∧ w' = u) := fun u => may_bad st hs u
  clear hs
  go_enter_defers Tryd.func9, Tryd.ntmps9
  go_wp2_with (go_at_call 19; refine H19.out.mono ?_)
  intro e w1 hh
  obtain ⟨g, s, rfl, hMx, hFr, hsg, hsw, hb1⟩ : ∃ g s, e = .returned (.tuple #[.pointer (some ⟨g, 0, none⟩), .int .i64 0]) ∧ Mx w1 g s (fun _ => 0) 0 ∧ Fresh w1 s h ∧ s < g ∧ w.heap.size ≤ s ∧ Below w.heap.size w w1 := by
    have := hh.out
    grind
  have HMix1 : Hid (Mix w1 g s h (fun _ => 0) 0) := ⟨hMx, ⟨firstE h, [], hFr⟩, hT.below hb1 hT4⟩
  have HB1 : Hid (Below w.heap.size w w1) := hb1
  clear hMx hFr hb1 hh
  go_wp2_with (go_at_call 24; refine (H24.out _).mono ?_; rintro e1 wx ⟨rfl, hwx⟩; obtain rfl := hwx.symm)
  refine leaves_cons (f := 20) (args := #[.pointer (some ⟨g, 0, none⟩)]) (by simp) (by simp [go_sem]) ?_
  refine (mendD g s 0 (fun _ => 0) h w1 k HMix1 (by omega) (by omega)).mono ?_
  rintro e6 u6 w6 ⟨rfl, rfl, hT6⟩
  refine ⟨_, results_tmp2 rfl _ _ _, rfl, HB1.out.trans (hT6.toBelow (by omega) (by omega) HB1.out.size)⟩
set_option maxHeartbeats 800000 in
theorem mrg_material {h : Int} (k : Known h) (a : Option Addr) (L c : Nat) (s' : Nat) (hs : 1 ≤ s' ∧ s' ≤ 4000) (hL : L ≤ 1000000) (hbad : ¬ (L ≠ 0 ∧ L % s' = 0 ∧ L ≤ 1024 * s')) (w : World) (hT : Tables w) : Calls Tryd.prog 9 #[.int .i64 h, .slice a L c, .int .i64 (s' : Nat)] w fun e w' => e = .returned (.tuple #[.slice none 0 0, .int .i64 41]) ∧ Below w.heap.size w w' := by
  have hT4 : 4 ≤ w.heap.size := hT.size
  have H19 : Hid (Calls Tryd.prog 19 #[.int .i64 h] w fun e w' => Hid (∃ g s, e = .returned (.tuple #[.pointer (some ⟨g, 0, none⟩), .int .i64 0]) ∧ Mx w' g s (fun _ => 0) 0 ∧ Fresh w' s h ∧ s < g ∧ w.heap.size ≤ s ∧ Below w.heap.size w w')) := mbegin h w k hT
  have H24 : Hid (∀ u, Calls Tryd.prog 24 #[.int .i64 (s' : Nat)] u fun e w' => e = .returned (.bool true) ∧ w' = u) := fun u => by
    obtain ⟨c1, rfl⟩ : ∃ c1, s' = c1 + 1 := ⟨s' - 1, by omega⟩
    exact may_ok c1 (by omega) u
  obtain ⟨q, hq⟩ : ∃ q, q = L / s' := ⟨_, rfl⟩
  obtain ⟨p, hp⟩ : ∃ p, p = q * s' := ⟨_, rfl⟩
  have htd : ((L : Nat) : Int).tdiv ((s' : Nat) : Int) = (q : Nat) := by
    rw [Int.tdiv_eq_ediv_of_nonneg (by omega), hq]
    rfl
  have hdv : ((L : Nat) : Int) / ((s' : Nat) : Int) = (q : Nat) := by rw [hq]; rfl
  have hmul : ((q : Nat) : Int) * ((s' : Nat) : Int) = (p : Nat) := by rw [hp]; simp
  have hnz : ¬ ((s' : Nat) : Int) = 0 := by omega
  have hqL : q ≤ L := by rw [hq]; exact Nat.div_le_self _ _
  have hpL : p ≤ L := by rw [hp, hq]; exact Nat.div_mul_le_self _ _
  have hcase : q < 1 ∨ (1 ≤ q ∧ 1024 < q) ∨ (1 ≤ q ∧ q ≤ 1024 ∧ p ≠ L) := by
    by_cases c1 : q < 1
    · exact .inl c1
    · by_cases c2 : 1024 < q
      · exact .inr (.inl ⟨by omega, c2⟩)
      · refine .inr (.inr ⟨by omega, by omega, fun e => hbad ⟨by omega, ?_, ?_⟩⟩)
        · rw [← e, hp]
          exact Nat.mul_mod_left _ _
        · rw [← e, hp]
          exact Nat.mul_le_mul_right _ (by omega)
  clear hbad hq hp
  have hqi : ((q : Nat) : Int) < 1 ↔ q < 1 := by omega
  go_enter_defers Tryd.func9, Tryd.ntmps9
  go_wp2_with (go_at_call 19; refine H19.out.mono ?_)
  intro e w1 hh
  obtain ⟨g, s, rfl, hMx, hFr, hsg, hsw, hb1⟩ : ∃ g s, e = .returned (.tuple #[.pointer (some ⟨g, 0, none⟩), .int .i64 0]) ∧ Mx w1 g s (fun _ => 0) 0 ∧ Fresh w1 s h ∧ s < g ∧ w.heap.size ≤ s ∧ Below w.heap.size w w1 := by
    have := hh.out
    grind
  have HMix1 : Hid (Mix w1 g s h (fun _ => 0) 0) := ⟨hMx, ⟨firstE h, [], hFr⟩, hT.below hb1 hT4⟩
  have HB1 : Hid (Below w.heap.size w w1) := hb1
  have HEnd : Hid (∀ e6 u6 w6, u6 = FrameMode.returning ∧ e6 = Ending.returned (.tuple #[]) ∧ Tw w1 w6 g s → Below w.heap.size w w6) := fun e6 u6 w6 hx => HB1.out.trans (hx.2.2.toBelow (by omega) (by omega) HB1.out.size)
  clear hMx hFr hb1 hh hqi
  go_upto_region 8 with (go_at_call 24; refine (H24.out _).mono ?_; rintro e1 wx ⟨rfl, hwx⟩; obtain rfl := hwx.symm)
  rcases hcase with c1 | ⟨c1, c2⟩ | ⟨c1, c2, c3⟩
  · have d1 : ((q : Nat) : Int) < 1 := by omega
    go_wp2_with fail
    refine leaves_cons (f := 20) (args := #[.pointer (some ⟨g, 0, none⟩)]) (by simp) (by simp [go_sem]) ?_
    refine (mendD g s 0 (fun _ => 0) h w1 k HMix1 (by omega) (by omega)).mono ?_
    rintro e6 u6 w6 ⟨rfl, rfl, hT6⟩
    exact ⟨_, results_tmp2 rfl _ _ _, rfl, HEnd.out _ _ w6 ⟨rfl, rfl, hT6⟩⟩
  · have d1 : ¬ ((q : Nat) : Int) < 1 := by omega
    have d2 : (1024 : Int) < ((q : Nat) : Int) := by omega
    go_wp2_with fail
    refine leaves_cons (f := 20) (args := #[.pointer (some ⟨g, 0, none⟩)]) (by simp) (by simp [go_sem]) ?_
    refine (mendD g s 0 (fun _ => 0) h w1 k HMix1 (by omega) (by omega)).mono ?_
    rintro e6 u6 w6 ⟨rfl, rfl, hT6⟩
    exact ⟨_, results_tmp2 rfl _ _ _, rfl, HEnd.out _ _ w6 ⟨rfl, rfl, hT6⟩⟩
  · have d1 : ¬ ((q : Nat) : Int) < 1 := by omega
    have d2 : ¬ (1024 : Int) < ((q : Nat) : Int) := by omega
    have d3 : ¬ ((p : Nat) : Int) = ((L : Nat) : Int) := by omega
    go_wp2_with fail
    refine leaves_cons (f := 20) (args := #[.pointer (some ⟨g, 0, none⟩)]) (by simp) (by simp [go_sem]) ?_
    refine (mendD g s 0 (fun _ => 0) h w1 k HMix1 (by omega) (by omega)).mono ?_
    rintro e6 u6 w6 ⟨rfl, rfl, hT6⟩
    exact ⟨_, results_tmp2 rfl _ _ _, rfl, HEnd.out _ _ w6 ⟨rfl, rfl, hT6⟩⟩
/-- The bytes of a material from its front, from place m on. -/
theorem view_front {w : World} {b off L c m : Nat} {M : List Int} (hv : View w (.slice (some ⟨b, off, none⟩) L c) M) (hl : M.length = L) (hm : m ≤ L) (h0 : 0 < L) : View w (.slice (some ⟨b, off, none⟩) m c) (M.take m) ∧ (m < L → View w (.slice (some ⟨b, off + m, none⟩) (L - m) (c - m)) (M.drop m)) := by
  obtain ⟨a', c', e, q1, q2, q3, q4⟩ := hv
  injection e with e1 e2 e3
  subst e3
  rcases q4 with q4 | ⟨b', o', e4, q5⟩
  · rw [q4] at hl; simp at hl; omega
  · rw [e4] at e1
    injection e1 with e1
    injection e1 with e5 e6
    subst e5 e6
    have t1 : (M.take m).length = m := by rw [List.length_take]; omega
    have t2 : (M.drop m).length = L - m := by rw [List.length_drop]; omega
    refine ⟨⟨_, _, by rw [t1], by rw [t1]; omega, q2, (fun e => by cases e), .inr ⟨b, off, rfl, fun i hi => ?_⟩⟩, fun hlt => ⟨_, _, by rw [t2], by rw [t2]; omega, by omega, (fun e => by cases e), .inr ⟨b, off + m, rfl, fun i hi => ?_⟩⟩⟩
    · rw [t1] at hi
      rw [q5 i (by omega)]
      simp [List.getD, List.getElem?_take, hi]
    · rw [t2] at hi
      rw [Nat.add_assoc, q5 (m + i) (by omega)]
      simp [List.getD]
theorem plus_merge (h : Int) (n cnt : Nat) (M : List Int) : plusL n (befL h n (M.take (n * cnt)) cnt) (M.drop (n * cnt)) = mergeL h n cnt M := by
  unfold plusL mergeL
  apply List.map_congr_left
  intro i hi
  have hi' : i < n := by simpa using hi
  unfold xorF
  rw [befL_at h n _ cnt i hi', if_pos hi']
/-- The parts of a good material. -/
theorem good_parts {h : Int} {L : Nat} {st : Int} (g : mrgGood h L st) : ∃ n cnt : Nat, n = L / st.toNat ∧ cnt = st.toNat - 1 ∧ st = (cnt : Int) + 1 ∧ L = n * cnt + n ∧ 1 ≤ n ∧ n ≤ 1024 ∧ cnt < 4000 := by
  obtain ⟨_, h1, h2, h3, h4, h5⟩ := g
  have hs : 0 < st.toNat := by omega
  have hd := Nat.div_add_mod L st.toNat
  rw [h4, Nat.add_zero] at hd
  refine ⟨L / st.toNat, st.toNat - 1, rfl, rfl, by omega, ?_, ?_, ?_, by omega⟩
  · have e : L / st.toNat * (st.toNat - 1) + L / st.toNat = L / st.toNat * st.toNat := by
      rw [← Nat.mul_succ]
      congr 1
      omega
    rw [e, Nat.mul_comm]
    exact hd.symm
  · rcases Nat.eq_zero_or_pos (L / st.toNat) with e | e
    · rw [e] at hd
      simp at hd
      omega
    · exact e
  · exact Nat.div_le_of_le_mul (by rw [Nat.mul_comm]; exact h5)
theorem mrg_ok (h : Int) (v : Value) (M : List Int) (st : Int) (w : World) (hT : Tables w) (hv : View w v M) (hl : M.length ≤ 1000000) :
    Calls Tryd.prog 9 #[.int .i64 h, v, .int .i64 st] w fun e w' => ∃ v', e = .returned (.tuple #[v', .int .i64 (mrgE h M.length st)]) ∧ Ans w.heap.size w' v' (mrgL h M st) ∧ Below w.heap.size w w' := by
  by_cases k : Known h
  · by_cases hs : 1 ≤ st ∧ st ≤ 4000
    · by_cases hb : M.length ≠ 0 ∧ M.length % st.toNat = 0 ∧ M.length ≤ 1024 * st.toNat
      · have g : mrgGood h M.length st := ⟨k, hs.1, hs.2, hb⟩
        have e1 : mrgE h M.length st = 0 := by unfold mrgE; rw [if_neg (by simpa using k), if_neg (by simpa using hs), if_neg (by simpa using hb)]
        obtain ⟨n, cnt, en, ec, est, eL, hn1, hn2, hc⟩ := good_parts g
        have e2 : mrgL h M st = mergeL h n cnt M := by unfold mrgL; rw [if_pos g, ← en, ← ec]
        rw [e1, e2, est]
        have hv0 := hv
        obtain ⟨a, c, rfl, q1, q2, q3, q4⟩ := hv
        rcases q4 with q4 | ⟨b, off, rfl, q5⟩
        · exact absurd (by rw [q4]; rfl) hb.1
        · rw [eL] at hv0 ⊢
          refine (merge_ok h n cnt M b off c w k hT ⟨hn1, hn2⟩ hc hv0 eL).mono ?_
          rintro e w' ⟨b', rfl, hb', hm, hbl⟩
          refine ⟨_, rfl, .inr ⟨b', by rw [mergeL_length], hb', ?_, hm⟩, hbl⟩
          exact lt_of_cell (hm.cell 0 (by rw [mergeL_length]; omega))
      · have e1 : mrgE h M.length st = 41 := by unfold mrgE; rw [if_neg (by simpa using k), if_neg (by simpa using hs), if_pos hb]
        have e2 : mrgL h M st = [] := by unfold mrgL; rw [if_neg (fun g => hb g.2.2.2)]
        rw [e1, e2]
        obtain ⟨a, c, rfl, q1, q2, _⟩ := hv
        rw [show st = ((st.toNat : Nat) : Int) by omega]
        refine (mrg_material k a M.length c st.toNat (by omega) hl hb w hT).mono ?_
        rintro e w' ⟨rfl, hbl⟩
        exact ⟨_, rfl, .inl ⟨rfl, rfl⟩, hbl⟩
    · have e1 : mrgE h M.length st = 40 := by unfold mrgE; rw [if_neg (by simpa using k), if_pos hs]
      have e2 : mrgL h M st = [] := by unfold mrgL; rw [if_neg (fun g => hs ⟨g.2.1, g.2.2.1⟩)]
      rw [e1, e2]
      refine (mrg_stripes k v st hs w hT).mono ?_
      rintro e w' ⟨rfl, hbl⟩
      exact ⟨_, rfl, .inl ⟨rfl, rfl⟩, hbl⟩
  · have e1 : mrgE h M.length st = 10 := by unfold mrgE; rw [if_pos k]
    have e2 : mrgL h M st = [] := by unfold mrgL; rw [if_neg (fun g => k g.1)]
    rw [e1, e2]
    refine (mrg_bad k v st w).mono ?_
    rintro e w' ⟨rfl, hbl⟩
    exact ⟨_, rfl, .inl ⟨rfl, rfl⟩, hbl⟩
end Go.Proofs.YtcopkohklgbpgaaDoor
namespace Go.Proofs.YtcopkohklgbpgaaDoor
open Go.RowKit Go.Shelf
set_option linter.unusedVariables false
set_option linter.unusedSimpArgs false
set_option maxHeartbeats 400000 in
theorem rmrg_bad {h : Int} (k : ¬ Known h) (v : Value) (st : Int) (w : World) : Calls Tryd.prog 18 #[.int .i64 h, v, .int .i64 st] w fun e w' => e = .returned (.tuple #[.slice none 0 0, .int .i64 10]) ∧ w' = w := by
  go_enter Tryd.func18, Tryd.ntmps18
  go_wp2_with (go_at_call 27; refine (rsize_bad h k _).mono ?_; rintro e1 wx ⟨rfl, hwx⟩; obtain rfl := hwx.symm)
  go_ret2
  exact ⟨rfl, rfl⟩
set_option maxHeartbeats 400000 in
theorem rmrg_stripes {h : Int} (k : Known h) (v : Value) (st : Int) (hs : ¬ (1 ≤ st ∧ st ≤ 4000)) (w : World) : Calls Tryd.prog 18 #[.int .i64 h, v, .int .i64 st] w fun e w' => e = .returned (.tuple #[.slice none 0 0, .int .i64 40]) ∧ w' = w := by
  have hp := szOf_pos k
  by_cases h1 : st < 1
  · clear hs
    go_enter Tryd.func18, Tryd.ntmps18
    go_wp2_with (go_at_call 27; refine (rsize_ok h k _).mono ?_; rintro e1 wx ⟨rfl, hwx⟩; obtain rfl := hwx.symm)
    go_ret2
    exact ⟨rfl, rfl⟩
  · have h2 : 4000 < st := by omega
    clear hs
    go_enter Tryd.func18, Tryd.ntmps18
    go_wp2_with (go_at_call 27; refine (rsize_ok h k _).mono ?_; rintro e1 wx ⟨rfl, hwx⟩; obtain rfl := hwx.symm)
    go_ret2
    exact ⟨rfl, rfl⟩
set_option maxHeartbeats 800000 in
theorem rmrg_material {h : Int} (k : Known h) (a : Option Addr) (L c : Nat) (s' : Nat) (hs : 1 ≤ s' ∧ s' ≤ 4000) (hL : L ≤ 1000000) (hbad : ¬ (L ≠ 0 ∧ L % s' = 0 ∧ L ≤ 1024 * s')) (w : World) : Calls Tryd.prog 18 #[.int .i64 h, .slice a L c, .int .i64 (s' : Nat)] w fun e w' => e = .returned (.tuple #[.slice none 0 0, .int .i64 41]) ∧ w' = w := by
  have hp := szOf_pos k
  have b1 : ¬ ((s' : Nat) : Int) < 1 := by omega
  have b2 : ¬ (4000 : Int) < ((s' : Nat) : Int) := by omega
  have hnz : ¬ ((s' : Nat) : Int) = 0 := by omega
  obtain ⟨r, hr⟩ : ∃ r, r = L % s' := ⟨_, rfl⟩
  have htm : ((L : Nat) : Int).tmod ((s' : Nat) : Int) = (r : Nat) := by
    rw [Int.tmod_eq_emod_of_nonneg (by omega), hr]
    rfl
  have hem : ((L : Nat) : Int) % ((s' : Nat) : Int) = (r : Nat) := by rw [hr]; rfl
  have hcase : L = 0 ∨ (L ≠ 0 ∧ r ≠ 0) ∨ (L ≠ 0 ∧ r = 0 ∧ 1024 * s' < L) := by
    rw [← hr] at hbad
    omega
  clear hbad hr
  rcases hcase with c1 | ⟨c1, c2⟩ | ⟨c1, c2, c3⟩
  · have d1 : ((L : Nat) : Int) = 0 := by omega
    go_enter Tryd.func18, Tryd.ntmps18
    go_wp2_with (go_at_call 27; refine (rsize_ok h k _).mono ?_; rintro e1 wx ⟨rfl, hwx⟩; obtain rfl := hwx.symm)
    go_ret2
    exact ⟨rfl, rfl⟩
  · have d1 : ¬ ((L : Nat) : Int) = 0 := by omega
    have d2 : ¬ ((r : Nat) : Int) = 0 := by omega
    go_enter Tryd.func18, Tryd.ntmps18
    go_wp2_with (go_at_call 27; refine (rsize_ok h k _).mono ?_; rintro e1 wx ⟨rfl, hwx⟩; obtain rfl := hwx.symm)
    go_ret2
    exact ⟨rfl, rfl⟩
  · have d1 : ¬ ((L : Nat) : Int) = 0 := by omega
    have d2 : ((r : Nat) : Int) = 0 := by omega
    have d3 : (1024 : Int) * ((s' : Nat) : Int) < ((L : Nat) : Int) := by omega
    subst c2
    go_enter Tryd.func18, Tryd.ntmps18
    go_wp2_with (go_at_call 27; refine (rsize_ok h k _).mono ?_; rintro e1 wx ⟨rfl, hwx⟩; obtain rfl := hwx.symm)
    go_ret2
    exact ⟨rfl, rfl⟩
set_option maxHeartbeats 1600000 in
theorem rmrg_good {h : Int} (k : Known h) (b off L c n cnt m s' : Nat) (M : List Int) (hs : Hid (s' = cnt + 1)) (hs2 : 1 ≤ s' ∧ s' ≤ 4000) (hn : 1 ≤ n ∧ n ≤ 1024) (hm : Hid (m = n * cnt)) (hLm : Hid (L = m + n)) (hL : L ≤ 1000000) (w : World) (hR : Hid (RTab w)) (hM : Hid (View w (.slice (some ⟨b, off, none⟩) L c) M)) (hMl : Hid (M.length = L)) :
    Calls Tryd.prog 18 #[.int .i64 h, .slice (some ⟨b, off, none⟩) L c, .int .i64 (s' : Nat)] w fun e w' => ∃ v', e = .returned (.tuple #[v', .int .i64 0]) ∧ w'.ownsRow w.heap.size 5 1 v' n (cellsU8 (mergeL h n cnt M)) ∧ Below w.heap.size w w' := by
  have hp := szOf_pos k
  have hLs : L = n * s' := by rw [hLm.out, hm.out, hs.out, Nat.mul_succ]
  have b1 : ¬ ((s' : Nat) : Int) < 1 := by omega
  have b2 : ¬ (4000 : Int) < ((s' : Nat) : Int) := by omega
  have hnz : ¬ ((s' : Nat) : Int) = 0 := by omega
  have hdv : L / s' = n := by rw [hLs, Nat.mul_div_cancel _ (by omega)]
  have hmd : L % s' = 0 := by rw [hLs]; exact Nat.mul_mod_left _ _
  have htm : ((L : Nat) : Int).tmod ((s' : Nat) : Int) = 0 := by
    rw [Int.tmod_eq_emod_of_nonneg (by omega)]
    show ((L % s' : Nat) : Int) = 0
    rw [hmd]
    rfl
  have hem : ((L : Nat) : Int) % ((s' : Nat) : Int) = 0 := by
    show ((L % s' : Nat) : Int) = 0
    rw [hmd]
    rfl
  have htd : ((L : Nat) : Int).tdiv ((s' : Nat) : Int) = (n : Nat) := by
    rw [Int.tdiv_eq_ediv_of_nonneg (by omega)]
    show ((L / s' : Nat) : Int) = (n : Nat)
    rw [hdv]
  have hed : ((L : Nat) : Int) / ((s' : Nat) : Int) = (n : Nat) := by
    show ((L / s' : Nat) : Int) = (n : Nat)
    rw [hdv]
  have d1 : ¬ ((L : Nat) : Int) = 0 := by have := hLm.out; omega
  have d3 : ¬ (1024 : Int) * ((s' : Nat) : Int) < ((L : Nat) : Int) := by
    have h1 : L ≤ 1024 * s' := by rw [hLs]; exact Nat.mul_le_mul_right _ hn.2
    omega
  have hsub : ((L : Nat) : Int) - ((n : Nat) : Int) = (m : Nat) := by have := hLm.out; omega
  have hmL : m < L := by have := hLm.out; omega
  have hLc : L ≤ c ∧ c ≤ 9223372036854775807 := by
    obtain ⟨a', c', e, q1, q2, _⟩ := hM.out
    injection e with e1 e2 e3
    unfold maxLen at q2
    have := hMl.out
    omega
  have HF := view_front hM.out hMl.out (Nat.le_of_lt hmL) (by omega)
  have HV1 : Hid (View w (.slice (some ⟨b, off, none⟩) m c) (M.take m)) := HF.1
  have HV2 : Hid (View w (.slice (some ⟨b, off + m, none⟩) n (c - m)) (M.drop m)) := by
    have q := HF.2 hmL
    rw [show L - m = n by have := hLm.out; omega] at q
    exact q
  have hsl1 : ∀ u, (Instr.slice 22 (.slice (some ⟨b, off, none⟩) L c) none (some (.int .i64 (m : Nat))) none).run Tryd.prog u = .ok (.slice (some ⟨b, off, none⟩) m c) u := fun u => by
    rw [run_slice_h u 22 (some ⟨b, off, none⟩) L c und22p .i64 m (by omega) (by omega), elem22p, sizeOf5p]
    simp [Result.andThen, sliced, Addr.add]
  have hsl2 : ∀ u, (Instr.slice 22 (.slice (some ⟨b, off, none⟩) L c) (some (.int .i64 (m : Nat))) none none).run Tryd.prog u = .ok (.slice (some ⟨b, off + m, none⟩) n (c - m)) u := fun u => by
    have := hLm.out
    rw [run_slice_l u 22 (some ⟨b, off, none⟩) L c und22p .i64 m (by omega) (by omega), elem22p, sizeOf5p]
    simp [Result.andThen, sliced, Addr.add, show ¬ c = m by omega, show L - m = n by omega]
  have H29 : Hid (Calls Tryd.prog 29 #[.int .i64 h, .int .i64 (n : Nat), .slice (some ⟨b, off, none⟩) m c] w fun e w' => Hid (∃ v', e = .returned v' ∧ w'.ownsRow w.heap.size 5 1 v' n (cellsU8 (befL h n (M.take m) cnt)) ∧ Below w.heap.size w w')) := rbefore_ok k n cnt m c _ (M.take m) w hR hn hm (by omega) HV1 (by show _ = _; rw [List.length_take, hMl.out]; omega)
  have x1 : decide (((s' : Nat) : Int) < 1) = false := decide_eq_false b1
  have x2 : decide ((4000 : Int) < ((s' : Nat) : Int)) = false := decide_eq_false b2
  have x3 : (((L : Nat) : Int) == 0) = false := by rw [beq_eq_false_iff_ne]; exact d1
  have x4 : decide ((1024 : Int) * ((s' : Nat) : Int) < ((L : Nat) : Int)) = false := decide_eq_false d3
  clear HF hLs hdv hmd b1 b2 d1 d3
  go_enter Tryd.func18, Tryd.ntmps18
  go_upto_region 10 with (first
    | (go_at_call 27; refine (rsize_ok h k _).mono ?_; rintro e1 wx ⟨rfl, hwx⟩; obtain rfl := hwx.symm)
    | (go_at_call 29; refine H29.out.mono ?_))
  intro e1 w1 hh
  obtain ⟨vd, rfl, ho1, hb1⟩ := hh.out
  have H30 : Hid (Calls Tryd.prog 30 #[vd, .slice (some ⟨b, off + m, none⟩) n (c - m)] w1 fun e w' => Hid (∃ v', e = .returned v' ∧ w'.ownsRow w1.heap.size 5 1 v' n (cellsU8 (plusL n (befL h n (M.take m) cnt) (M.drop m))) ∧ Below w1.heap.size w1 w')) := rplus_ok vd _ _ _ n w1 (viewOwns ho1 (befL_length _ _ _ _)) (HV2.out.kept fun b hb => hb1.block b hb) (befL_length _ _ _ _) (by rw [List.length_drop, hMl.out]; have := hLm.out; omega) hn.1 hn.2
  have HB1 : Hid (Below w.heap.size w w1) := hb1
  clear hh ho1 hb1 H29
  go_wp2_with (go_at_call 30; refine H30.out.mono ?_)
  intro e2 w2 hh
  obtain ⟨v2, rfl, ho2, hb2⟩ := hh.out
  have HB2 : Hid (Below w.heap.size w w2) := HB1.out.trans (hb2.mono HB1.out.size)
  have HO2 : Hid (w2.ownsRow w.heap.size 5 1 v2 n (cellsU8 (mergeL h n cnt M))) := by
    rw [hm.out, plus_merge] at ho2
    exact owns_base ho2 HB1.out.size
  clear hh ho2 hb2 H30
  go_wp2
  go_ret2
  exact ⟨_, rfl, HO2.out, HB2.out⟩
theorem rmrg_ok (h : Int) (v : Value) (M : List Int) (st : Int) (w : World) (hR : RTab w) (hv : View w v M) (hl : M.length ≤ 1000000) :
    Calls Tryd.prog 18 #[.int .i64 h, v, .int .i64 st] w fun e w' => ∃ v', e = .returned (.tuple #[v', .int .i64 (mrgE h M.length st)]) ∧ w'.ownsRow w.heap.size 5 1 v' (mrgL h M st).length (cellsU8 (mrgL h M st)) ∧ Below w.heap.size w w' := by
  by_cases k : Known h
  · by_cases hs : 1 ≤ st ∧ st ≤ 4000
    · by_cases hb : M.length ≠ 0 ∧ M.length % st.toNat = 0 ∧ M.length ≤ 1024 * st.toNat
      · have g : mrgGood h M.length st := ⟨k, hs.1, hs.2, hb⟩
        have e1 : mrgE h M.length st = 0 := by unfold mrgE; rw [if_neg (by simpa using k), if_neg (by simpa using hs), if_neg (by simpa using hb)]
        obtain ⟨n, cnt, en, ec, est, eL, hn1, hn2, hc⟩ := good_parts g
        have e2 : mrgL h M st = mergeL h n cnt M := by unfold mrgL; rw [if_pos g, ← en, ← ec]
        rw [e1, e2, mergeL_length]
        have hv0 := hv
        obtain ⟨a, c, rfl, q1, q2, q3, q4⟩ := hv
        rcases q4 with q4 | ⟨b, off, rfl, q5⟩
        · exact absurd (by rw [q4]; rfl) hb.1
        · rw [show st = ((cnt + 1 : Nat) : Int) by rw [est]; simp]
          exact rmrg_good k b off M.length c n cnt (n * cnt) (cnt + 1) M rfl (by omega) ⟨hn1, hn2⟩ rfl eL hl w hR hv0 rfl
      · have e1 : mrgE h M.length st = 41 := by unfold mrgE; rw [if_neg (by simpa using k), if_neg (by simpa using hs), if_pos hb]
        have e2 : mrgL h M st = [] := by unfold mrgL; rw [if_neg (fun g => hb g.2.2.2)]
        rw [e1, e2]
        obtain ⟨a, c, rfl, q1, q2, _⟩ := hv
        rw [show st = ((st.toNat : Nat) : Int) by omega]
        refine (rmrg_material k a M.length c st.toNat (by omega) hl hb w).mono ?_
        rintro e w' ⟨rfl, rfl⟩
        exact ⟨_, rfl, World.ownsRow_nil _ _ _ _, Below.refl _ _⟩
    · have e1 : mrgE h M.length st = 40 := by unfold mrgE; rw [if_neg (by simpa using k), if_pos hs]
      have e2 : mrgL h M st = [] := by unfold mrgL; rw [if_neg (fun g => hs ⟨g.2.1, g.2.2.1⟩)]
      rw [e1, e2]
      refine (rmrg_stripes k v st hs w).mono ?_
      rintro e w' ⟨rfl, rfl⟩
      exact ⟨_, rfl, World.ownsRow_nil _ _ _ _, Below.refl _ _⟩
  · have e1 : mrgE h M.length st = 10 := by unfold mrgE; rw [if_pos k]
    have e2 : mrgL h M st = [] := by unfold mrgL; rw [if_neg (fun g => k g.1)]
    rw [e1, e2]
    refine (rmrg_bad k v st w).mono ?_
    rintro e w' ⟨rfl, rfl⟩
    exact ⟨_, rfl, World.ownsRow_nil _ _ _ _, Below.refl _ _⟩
end Go.Proofs.YtcopkohklgbpgaaDoor
namespace Go.Proofs.YtcopkohklgbpgaaDoor
open Go.RowKit Go.Shelf
set_option linter.unusedVariables false
set_option linter.unusedSimpArgs false
theorem view1234 (w : World) : View (w.alloc (.cells #[.int .u8 1, .int .u8 2, .int .u8 3, .int .u8 4] 5)) (.slice (some ⟨w.heap.size, 0, none⟩) 4 4) [1, 2, 3, 4] := viewOwns (owns_lit w [1, 2, 3, 4] 4 rfl (by decide)) rfl
theorem mrgE1234 : mrgE 224 ([1, 2, 3, 4] : List Int).length 2 = 0 := by decide
set_option maxHeartbeats 3200000 in
set_option maxRecDepth 100000 in
theorem merges_core (h st : Int) (za ra : Option Addr) (zn zc rn rc : Nat) (v : Value) (hveq : v = .slice za zn zc) (Z : List Int) (ws : World) (hT0 : Hid (Tables ws)) (hR0 : Hid (RTab ws)) (hv0 : Hid (View ws v Z)) (hZl : Hid (Z.length = zn)) (hzn : zn ≤ 32768) :
    Calls Tryd.prog 6 #[.agg #[.int .i64 h, v, .int .i64 st, .slice ra rn rc]] ws fun e w' => e = .returned (.bool true) ∧ Below ws.heap.size ws w' := by
  have hlong : ¬ (32768 : Int) < (zn : Nat) := by omega
  obtain ⟨w, HWa⟩ : ∃ w, Hid (w = ws.alloc (.cells #[.int .i64 h, v, .int .i64 st, .slice ra rn rc] 32)) := ⟨_, rfl⟩
  have HBa : Hid (Below ws.heap.size ws w) := by rw [HWa.out]; exact (Below.refl _ _).alloc (Nat.le_refl _) _
  have hT : Hid (Tables w) := hT0.out.below HBa.out hT0.out.size
  have hR : Hid (RTab w) := hR0.out.below HBa.out hR0.out.size
  have hv : Hid (View w v Z) := hv0.out.kept fun b hb => HBa.out.block b hb
  have hn : Hid (Z.length + 70 ≤ 140737488355328) := by show _ ≤ _; rw [hZl.out]; omega
  have hl0 : Hid (Z.length ≤ 1000000) := by show _ ≤ _; rw [hZl.out]; omega
  have HF : Hid (∀ u : World, Below w.heap.size w u → u.cell? ⟨ws.heap.size, 0, none⟩ = some (.int .i64 h) ∧ u.cell? ⟨ws.heap.size, 1, none⟩ = some v ∧ u.cell? ⟨ws.heap.size, 2, none⟩ = some (.int .i64 st)) := fun u hu => by
    have hlt : ws.heap.size < w.heap.size := by rw [HWa.out, size_alloc]; omega
    have r := rangeAt_new ws #[.int .i64 h, v, .int .i64 st, .slice ra rn rc] 32
    rw [← HWa.out] at r
    refine ⟨?_, ?_, ?_⟩
    · rw [hu.cell (p := ⟨ws.heap.size, 0, none⟩) hlt]
      exact r 0 _ rfl
    · rw [hu.cell (p := ⟨ws.heap.size, 1, none⟩) hlt]
      exact r 1 _ rfl
    · rw [hu.cell (p := ⟨ws.heap.size, 2, none⟩) hlt]
      exact r 2 _ rfl
  have hT4 := hT.out.size
  obtain ⟨fa, fb, fc⟩ := HF.out w (Below.refl _ _)
  have HVE : Hid (v = .slice za zn zc) := hveq
  subst hveq
  go_enter Tryd.func6, Tryd.ntmps6
  go_upto_region 1 with fail
  rw [← HWa.out]
  go_upto_region 3 with fail
  have H13 : Hid (Calls Tryd.prog 13 #[.slice za zn zc] w fun e w' => Hid (∃ v', e = .returned v' ∧ Marked w.heap.size w' v' Z ∧ Below w.heap.size w w')) := copy_any _ Z w hn.out hv.out
  go_upto_region 4 with (go_at_call 13; refine H13.out.mono ?_)
  intro e1 w1 hh
  obtain ⟨vb, rfl, hm1, hb1⟩ := hh.out
  clear hh H13
  have HB1 : Hid (Below w.heap.size w w1) := hb1
  have HM1 : Hid (Marked w.heap.size w1 vb Z) := hm1
  clear hm1 hb1 fa fb fc
  have H14 : Hid (Calls Tryd.prog 9 #[.int .i64 h, vb, .int .i64 st] w1 fun e w' => Hid (∃ v', e = .returned (.tuple #[v', .int .i64 (mrgE h Z.length st)]) ∧ Ans w1.heap.size w' v' (mrgL h Z st) ∧ Below w1.heap.size w1 w')) := mrg_ok h vb Z st w1 (hT.out.below HB1.out hT4) HM1.out.view hl0.out
  obtain ⟨E, HE⟩ : ∃ E, Hid (E = mrgE h Z.length st) := ⟨_, rfl⟩
  rw [← HE.out] at H14
  obtain ⟨fa, fb, fc⟩ := HF.out w1 HB1.out
  go_upto_region 5 with (go_at_call 9; refine H14.out.mono ?_)
  intro e2 w2 hh
  obtain ⟨vx, rfl, hA2, hb2⟩ := hh.out
  have HB2 : Hid (Below w1.heap.size w1 w2) := hb2
  have HX2 : Hid (Ans w1.heap.size w2 vx (mrgL h Z st)) := hA2
  clear hh hA2 hb2 H14 fa fb fc
  have H14b : Hid (Calls Tryd.prog 9 #[.int .i64 224, .slice (some ⟨w2.heap.size, 0, none⟩) 4 4, .int .i64 2] (w2.alloc (.cells #[.int .u8 1, .int .u8 2, .int .u8 3, .int .u8 4] 5)) fun e w' => Hid (∃ v', e = .returned (.tuple #[v', .int .i64 0]) ∧ Ans (w2.heap.size + 1) w' v' (mrgL 224 [1, 2, 3, 4] 2) ∧ Below w2.heap.size w2 w')) := by
    have hb := (Below.refl w2.heap.size w2).alloc (Nat.le_refl _) (.cells #[.int .u8 1, .int .u8 2, .int .u8 3, .int .u8 4] 5)
    have h12 := HB1.out.size
    have h23 := HB2.out.size
    have q := mrg_ok 224 _ [1, 2, 3, 4] 2 (w2.alloc (.cells #[.int .u8 1, .int .u8 2, .int .u8 3, .int .u8 4] 5)) (((hT.out.below HB1.out hT4).below HB2.out (by omega)).below hb (by omega)) (view1234 w2) (by decide)
    rw [mrgE1234, size_alloc] at q
    exact q.mono fun e w' hh => by
      obtain ⟨v', q1, q2, q3⟩ := hh
      exact ⟨v', q1, q2, hb.trans (q3.mono (by omega))⟩
  go_upto_region 6 with (go_at_call 9; refine H14b.out.mono ?_)
  intro e3 w3 hh
  obtain ⟨vz, rfl, hA3, hb3⟩ := hh.out
  have HB3 : Hid (Below w2.heap.size w2 w3) := hb3
  have HZ3 : Hid (Ans (w2.heap.size + 1) w3 vz (mrgL 224 [1, 2, 3, 4] 2)) := hA3
  clear hh hA3 hb3 H14b
  have HB13 : Hid (Below w1.heap.size w1 w3) := HB2.out.trans (HB3.out.mono HB2.out.size)
  have H14c : Hid (Calls Tryd.prog 9 #[.int .i64 h, vb, .int .i64 st] w3 fun e w' => Hid (∃ v', e = .returned (.tuple #[v', .int .i64 (mrgE h Z.length st)]) ∧ Ans w3.heap.size w' v' (mrgL h Z st) ∧ Below w3.heap.size w3 w')) := mrg_ok h vb Z st w3 ((hT.out.below HB1.out hT4).below HB13.out (by have := HB1.out.size; omega)) (HM1.out.view.kept fun b hb => HB13.out.block b hb) hl0.out
  rw [← HE.out] at H14c
  obtain ⟨fa, fb, fc⟩ := HF.out w3 (HB1.out.trans (HB13.out.mono HB1.out.size))
  go_upto_region 7 with (go_at_call 9; refine H14c.out.mono ?_)
  intro e4 w4 hh
  obtain ⟨vy, rfl, hA4, hb4⟩ := hh.out
  have HB4 : Hid (Below w3.heap.size w3 w4) := hb4
  have HY4 : Hid (Ans w3.heap.size w4 vy (mrgL h Z st)) := hA4
  clear hh hA4 hb4 H14c fa fb fc
  have HB04 : Hid (Below w.heap.size w w4) := (HB1.out.trans (HB13.out.mono HB1.out.size)).trans (HB4.out.mono (Nat.le_trans HB1.out.size HB13.out.size))
  have H15 : Hid (Calls Tryd.prog 18 #[.int .i64 h, .slice za zn zc, .int .i64 st] w4 fun e w' => Hid (∃ v', e = .returned (.tuple #[v', .int .i64 (mrgE h Z.length st)]) ∧ w'.ownsRow w4.heap.size 5 1 v' (mrgL h Z st).length (cellsU8 (mrgL h Z st)) ∧ Below w4.heap.size w4 w')) := rmrg_ok h (.slice za zn zc) Z st w4 (hR.out.below HB04.out hR.out.size) (hv.out.kept fun b hb => HB04.out.block b hb) hl0.out
  rw [← HE.out] at H15
  obtain ⟨fa, fb, fc⟩ := HF.out w4 HB04.out
  go_upto_region 8 with (go_at_call 18; refine H15.out.mono ?_)
  intro e5 w5 hh
  obtain ⟨vw, rfl, hA5, hb5⟩ := hh.out
  have HB5 : Hid (Below w4.heap.size w4 w5) := hb5
  have HW5 : Hid (w5.ownsRow w4.heap.size 5 1 vw (mrgL h Z st).length (cellsU8 (mrgL h Z st))) := hA5
  clear hh hA5 hb5 H15 fa fb fc
  have H15b : Hid (Calls Tryd.prog 18 #[.int .i64 224, .slice (some ⟨w5.heap.size, 0, none⟩) 4 4, .int .i64 2] (w5.alloc (.cells #[.int .u8 1, .int .u8 2, .int .u8 3, .int .u8 4] 5)) fun e w' => Hid (∃ v', e = .returned (.tuple #[v', .int .i64 0]) ∧ w'.ownsRow (w5.heap.size + 1) 5 1 v' (mrgL 224 [1, 2, 3, 4] 2).length (cellsU8 (mrgL 224 [1, 2, 3, 4] 2)) ∧ Below w5.heap.size w5 w')) := by
    have hb := (Below.refl w5.heap.size w5).alloc (Nat.le_refl _) (.cells #[.int .u8 1, .int .u8 2, .int .u8 3, .int .u8 4] 5)
    have h1 := HB04.out.size
    have h2 := HB5.out.size
    have h3 := hR.out.size
    have q := rmrg_ok 224 _ [1, 2, 3, 4] 2 (w5.alloc (.cells #[.int .u8 1, .int .u8 2, .int .u8 3, .int .u8 4] 5)) (((hR.out.below HB04.out h3).below HB5.out (by omega)).below hb (by omega)) (view1234 w5) (by decide)
    rw [mrgE1234, size_alloc] at q
    exact q.mono fun e w' hh => by
      obtain ⟨v', q1, q2, q3⟩ := hh
      exact ⟨v', q1, q2, hb.trans (q3.mono (by omega))⟩
  go_upto_region 9 with (go_at_call 18; refine H15b.out.mono ?_)
  intro e6 w6 hh
  obtain ⟨vv, rfl, hA6, hb6⟩ := hh.out
  have HB6 : Hid (Below w5.heap.size w5 w6) := hb6
  have HV6 : Hid (w6.ownsRow (w5.heap.size + 1) 5 1 vv (mrgL 224 [1, 2, 3, 4] 2).length (cellsU8 (mrgL 224 [1, 2, 3, 4] 2))) := hA6
  clear hh hA6 hb6 H15b
  have HS : Hid (w.heap.size ≤ w1.heap.size ∧ w1.heap.size ≤ w2.heap.size ∧ w2.heap.size ≤ w3.heap.size ∧ w3.heap.size ≤ w4.heap.size ∧ w4.heap.size ≤ w5.heap.size ∧ w5.heap.size ≤ w6.heap.size) := ⟨HB1.out.size, HB2.out.size, HB3.out.size, HB4.out.size, HB5.out.size, HB6.out.size⟩
  have HB46 : Hid (Below w4.heap.size w4 w6) := HB5.out.trans (HB6.out.mono HB5.out.size)
  have HB36 : Hid (Below w3.heap.size w3 w6) := HB4.out.trans (HB46.out.mono HB4.out.size)
  have HB26 : Hid (Below w2.heap.size w2 w6) := HB3.out.trans (HB36.out.mono HB3.out.size)
  have HB16 : Hid (Below w1.heap.size w1 w6) := HB2.out.trans (HB26.out.mono HB2.out.size)
  have HB06 : Hid (Below w.heap.size w w6) := HB1.out.trans (HB16.out.mono HB1.out.size)
  have HX : Hid (Ans w1.heap.size w6 vx (mrgL h Z st)) := HX2.out.below HB26.out
  have HZz : Hid (Ans (w2.heap.size + 1) w6 vz (mrgL 224 [1, 2, 3, 4] 2)) := HZ3.out.below HB36.out
  have HY : Hid (Ans w3.heap.size w6 vy (mrgL h Z st)) := HY4.out.below HB46.out
  have HW : Hid (w6.ownsRow w4.heap.size 5 1 vw (mrgL h Z st).length (cellsU8 (mrgL h Z st))) := owns_kept HW5.out HB6.out
  have HM : Hid (Marked w.heap.size w6 vb Z) := HM1.out.kept fun b hb => HB16.out.block b hb
  have hl1 := mrgL_length h Z st
  have hl2 := mrgL_length 224 [1, 2, 3, 4] 2
  have HVW : Hid (View w6 vw (mrgL h Z st)) := viewOwns HW.out rfl
  have HVV : Hid (View w6 vv (mrgL 224 [1, 2, 3, 4] 2)) := viewOwns HV6.out rfl
  have C1 : Hid (∀ u : World, u.heap = w6.heap → Calls Tryd.prog 11 #[vx, vw] u fun e w' => e = .returned (.bool true) ∧ ∃ m, w' = u.drewN m) := fun u hu => by
    have q := same_any vx vw (mrgL h Z st) (mrgL h Z st) u ((HX.out.view (by omega)).kept fun b _ => by rw [hu]) (HVW.out.kept fun b _ => by rw [hu])
    rw [show decide (mrgL h Z st = mrgL h Z st) = true from decide_eq_true rfl] at q
    exact q
  have C2 : Hid (∀ u : World, u.heap = w6.heap → Calls Tryd.prog 11 #[vy, vw] u fun e w' => e = .returned (.bool true) ∧ ∃ m, w' = u.drewN m) := fun u hu => by
    have q := same_any vy vw (mrgL h Z st) (mrgL h Z st) u ((HY.out.view (by omega)).kept fun b _ => by rw [hu]) (HVW.out.kept fun b _ => by rw [hu])
    rw [show decide (mrgL h Z st = mrgL h Z st) = true from decide_eq_true rfl] at q
    exact q
  have C3 : Hid (∀ u : World, u.heap = w6.heap → Calls Tryd.prog 16 #[vb, (.slice za zn zc)] u fun e w' => e = .returned (.bool true) ∧ ∃ m, w' = u.drewN m) := fun u hu =>
    whole_any vb (.slice za zn zc) Z w.heap.size u (HM.out.kept fun b _ => by rw [hu]) ((hv.out.kept fun b hb => HB06.out.block b hb).kept fun b _ => by rw [hu])
  have C4 : Hid (∀ u : World, u.heap = w6.heap → Calls Tryd.prog 17 #[vx] u fun e w' => e = .returned (.tuple #[]) ∧ u.grownBy w' vx.ownBlock) := fun u hu =>
    (HX.out.kept (fun b _ => by rw [hu]) (by rw [hu]; exact Nat.le_refl _)).spoil (by omega)
  have HXb : Hid (∀ b, vx.ownBlock = some b → w.heap.size ≤ b ∧ b < w2.heap.size) := fun b hb => ⟨Nat.le_trans HS.out.1 (HX2.out.ge hb).1, (HX2.out.ge hb).2⟩
  obtain ⟨fa, fb, fc⟩ := HF.out w6 HB06.out
  clear HX2 HZ3 HY4 HW5 HM1 HB1 HB2 HB3 HB4 HB5 HB6 HB13 HB04 HB46 HB36 HB26 HB16
  go_wp2_with (go_at_call 10; refine (num_ok _ _).mono ?_; rintro e1 wx ⟨rfl, hwx⟩; obtain rfl := hwx.symm)
  refine (C1.out _ ?_).mono ?_
  · rfl
  rintro e7 w7 ⟨rfl, m7, rfl⟩
  go_wp2_with fail
  refine (C2.out _ ?_).mono ?_
  · rfl
  rintro e8 w8 ⟨rfl, m8, rfl⟩
  go_wp2_with fail
  refine (C3.out _ ?_).mono ?_
  · rfl
  rintro e9 w9 ⟨rfl, m9, rfl⟩
  go_wp2_with fail
  refine (C4.out _ ?_).mono ?_
  · rfl
  rintro e10 w10 ⟨rfl, hg⟩
  have HVY : Hid (View w10 vy (mrgL h Z st)) := ((HY.out.view (by omega)).kept (w' := w6.drewN (m7 + m8 + m9)) fun b _ => rfl).grown hg (HY.out.apart fun b hb => by have := (HXb.out b hb).2; have := HS.out; omega)
  have HVW2 : Hid (View w10 vw (mrgL h Z st)) := (HVW.out.kept (w' := w6.drewN (m7 + m8 + m9)) fun b _ => rfl).grown hg (owns_apart HW.out fun b hb => by have := (HXb.out b hb).2; have := HS.out; omega)
  have HVZ : Hid (View w10 vz (mrgL 224 [1, 2, 3, 4] 2)) := ((HZz.out.view (by omega)).kept (w' := w6.drewN (m7 + m8 + m9)) fun b _ => rfl).grown hg (HZz.out.apart fun b hb => by have := (HXb.out b hb).2; have := HS.out; omega)
  have HVV2 : Hid (View w10 vv (mrgL 224 [1, 2, 3, 4] 2)) := (HVV.out.kept (w' := w6.drewN (m7 + m8 + m9)) fun b _ => rfl).grown hg (owns_apart HV6.out fun b hb => by have := (HXb.out b hb).2; have := HS.out; omega)
  have HB10 : Hid (Below w.heap.size w w10) := by
    have hb : Below w.heap.size w (w6.drewN (m7 + m8 + m9)) := ⟨HB06.out.os, HB06.out.tape, HB06.out.output, HB06.out.size, HB06.out.block⟩
    exact hb.grown hg hb.size (fun b hb => (HXb.out b hb).1)
  have C5 : Hid (∀ u : World, u.heap = w10.heap → Calls Tryd.prog 11 #[vy, vw] u fun e w' => e = .returned (.bool true) ∧ ∃ m, w' = u.drewN m) := fun u hu => by
    have q := same_any vy vw (mrgL h Z st) (mrgL h Z st) u (HVY.out.kept fun b _ => by rw [hu]) (HVW2.out.kept fun b _ => by rw [hu])
    rw [show decide (mrgL h Z st = mrgL h Z st) = true from decide_eq_true rfl] at q
    exact q
  have C6 : Hid (∀ u : World, u.heap = w10.heap → Calls Tryd.prog 11 #[vz, vv] u fun e w' => e = .returned (.bool true) ∧ ∃ m, w' = u.drewN m) := fun u hu => by
    have q := same_any vz vv (mrgL 224 [1, 2, 3, 4] 2) (mrgL 224 [1, 2, 3, 4] 2) u (HVZ.out.kept fun b _ => by rw [hu]) (HVV2.out.kept fun b _ => by rw [hu])
    rw [show decide (mrgL 224 [1, 2, 3, 4] 2 = mrgL 224 [1, 2, 3, 4] 2) = true from decide_eq_true rfl] at q
    exact q
  clear hg C1 C2 C3 C4 HX HY HW HZz HM HVW HVV HV6 HB06
  go_wp2_with fail
  refine (C5.out _ ?_).mono ?_
  · rfl
  rintro e11 w11 ⟨rfl, m11, rfl⟩
  go_wp2_with fail
  refine (C6.out _ ?_).mono ?_
  · rfl
  rintro e12 w12 ⟨rfl, m12, rfl⟩
  go_wp2_with fail
  go_ret
  have hx := HBa.out.trans (HB10.out.mono HBa.out.size)
  exact ⟨rfl, ⟨hx.os, hx.tape, hx.output, hx.size, hx.block⟩⟩
set_option maxHeartbeats 400000 in
theorem merges_long (h st : Int) (za ra : Option Addr) (zn zc rn rc : Nat) (ws : World) (hzn : 32768 < zn) (hz2 : zn ≤ 9223372036854775807) :
    Calls Tryd.prog 6 #[.agg #[.int .i64 h, .slice za zn zc, .int .i64 st, .slice ra rn rc]] ws fun e w' => e = .returned (.bool true) ∧ Below ws.heap.size ws w' := by
  have hlong : (32768 : Int) < (zn : Nat) := by omega
  have hb : Hid (Below ws.heap.size ws (ws.alloc (.cells #[.int .i64 h, .slice za zn zc, .int .i64 st, .slice ra rn rc] 32))) := (Below.refl _ _).alloc (Nat.le_refl _) _
  go_enter Tryd.func6, Tryd.ntmps6
  go_wp2
  go_ret
  exact ⟨rfl, hb.out⟩
theorem merges_ok (h st : Int) (za ra : Option Addr) (zn zc rn rc : Nat) (Z : List Int) (ws : World) (hT : Tables ws) (hR : RTab ws) (hv : View ws (.slice za zn zc) Z) (hZl : Z.length = zn) :
    Calls Tryd.prog 6 #[.agg #[.int .i64 h, .slice za zn zc, .int .i64 st, .slice ra rn rc]] ws fun e w' => e = .returned (.bool true) ∧ Below ws.heap.size ws w' := by
  by_cases hl : zn ≤ 32768
  · exact merges_core h st za ra zn zc rn rc _ rfl Z ws hT hR hv hZl hl
  · refine merges_long h st za ra zn zc rn rc ws (by omega) ?_
    obtain ⟨a', c', e, q1, q2, _⟩ := hv
    injection e with e1 e2 e3
    unfold maxLen at q2
    omega
end Go.Proofs.YtcopkohklgbpgaaDoor
namespace Go.Proofs.YtcopkohklgbpgaaDoor
open Go.ChangeShapes Go.WideShapes Go.ChangeAt Go.RowKit

theorem own : ownKnob Tryd.prog.godebug = none := by kernel_rfl
theorem laidOut : laidOutB Tryd.prog = true := by kernel_rfl
theorem cells5 : Tryd.prog.cellsOf 5 = 1 := by kernel_rfl
theorem bytes5 : Tryd.prog.bytesOf 5 = 1 := by kernel_rfl

/-- What came in as a list of bytes. -/
theorem open_bytes {H : Type} {enc : TypeId × Value → H} {W : World} {a : Option Addr} {len cap : Nat} {d : DataW H} {p : List MemPlace}
    (h : DataW.Trod enc Tryd.prog W 0 (fun _ => true) true 22 (.slice a len cap) d p) :
    ∃ xs : List Int, xs.length = len ∧ AllBytes xs ∧ View W (.slice a len cap) xs ∧ (d = .nil ∧ xs = [] ∨ ∃ sp, d = .slice (lits .u8 xs) sp) := by
  obtain ⟨fuel, hf⟩ := h
  rcases open_ints Tryd.underlying22 Tryd.underlying5 cells5 hf with ⟨hcs, hx⟩ | ⟨x, l, c, zs, hcs, _, hl, hm, hz, hx, hcell, hwz⟩
  · simp [Value.cells] at hcs
    obtain ⟨rfl, rfl, rfl⟩ := hcs
    simp only [Prod.mk.injEq] at hx
    refine ⟨[], rfl, fun i => by simp, ⟨none, 0, rfl, Nat.le_refl _, by simp, fun _ => rfl, .inl rfl⟩, .inl ⟨hx.1, rfl⟩⟩
  · simp [Value.cells] at hcs
    obtain ⟨rfl, rfl, rfl⟩ := hcs
    simp only [Prod.mk.injEq] at hx
    have hzl : zs.length = cap := by simpa using hz
    have hlen : (zs.take len).length = len := by simp; omega
    have hw : ∀ n ∈ zs, 0 ≤ n ∧ n < 256 := by
      intro n hn
      have := hwz n hn
      have h1 : IntKind.u8.min = 0 := rfl
      have h2 : IntKind.u8.max = 255 := rfl
      simp only [Lit.wf, Bool.and_eq_true, decide_eq_true_eq] at this
      omega
    refine ⟨zs.take len, hlen, ?_, ⟨some x, cap, by rw [hlen], by omega, hm, (fun h => by cases h), ?_⟩, .inr ⟨_, hx.1⟩⟩
    · intro i
      rw [List.getD_eq_getElem?_getD]
      cases hg : (zs.take len)[i]? with
      | none => simp
      | some n =>
        have hn : n ∈ zs := List.mem_of_mem_take (List.mem_of_getElem? hg)
        simpa using hw n hn
    · by_cases h0 : len = 0
      · left
        subst h0
        simp
      · right
        obtain ⟨b, off, spot⟩ := x
        have hc0 := hcell 0 (by omega)
        have hspot : spot = none := by simpa [Addr.add] using World.cell?_spot hc0
        subst hspot
        refine ⟨b, off, rfl, fun i hi => ?_⟩
        rw [hlen] at hi
        have := hcell i (by omega)
        rw [Addr.add_lit] at this
        rw [this]
        congr 2
        simp [List.getD_eq_getElem?_getD, hi]

/-- The reach of it. -/
theorem reach_bytes {H : Type} {ts : List TypeId} {ds : List (DataW H)} (hsz : (DataW.weightsEach Tryd.prog ts ds).all (· ≤ reachBytes) = true) {j : Nat} {d : DataW H} {xs : List Int}
    (ht : ts[j]? = some 22) (hd : ds[j]? = some d) (h : d = .nil ∧ xs = [] ∨ ∃ sp, d = .slice (lits .u8 xs) sp) : xs.length ≤ 140737488351232 := by
  rcases h with ⟨_, rfl⟩ | ⟨sp, rfl⟩
  · simp
  · have := sized_slice hsz (j := j) (t := 22) (e := 5) ht hd Tryd.underlying22
    rw [bytes5] at this
    simp only [lits, List.length_map, reachBytes] at this
    omega
end Go.Proofs.YtcopkohklgbpgaaDoor
namespace Go.Proofs.YtcopkohklgbpgaaDoor
open Go.ChangeShapes Go.WideShapes Go.ChangeAt Go.RowKit
set_option linter.unusedVariables false

theorem cells3 : Tryd.prog.cellsOf 3 = 1 := by kernel_rfl
theorem cells22 : Tryd.prog.cellsOf 22 = 1 := by kernel_rfl
set_option maxRecDepth 100000 in
/-- An int's cell. -/
theorem cell_int {H : Type} {enc : TypeId × Value → H} {W : World} {n : Nat} {c : Value} {y : DataW H × List MemPlace} (h : DataW.trod enc Tryd.prog W 0 (fun _ => true) true n 3 [c] = some y) : ∃ z, c = .int .i64 z := by
  obtain ⟨z, hz, _⟩ := DataW.trod_int Tryd.underlying3 h
  exact ⟨z, by simpa using hz⟩
theorem cell_bytes {H : Type} {enc : TypeId × Value → H} {W : World} {n : Nat} {c : Value} {y : DataW H × List MemPlace} (h : DataW.trod enc Tryd.prog W 0 (fun _ => true) true n 22 [c] = some y) : ∃ a l cap xs, c = .slice a l cap ∧ View W (.slice a l cap) xs ∧ AllBytes xs ∧ xs.length = l := by
  have hc : ∃ a l cap, c = .slice a l cap := by
    rcases open_ints Tryd.underlying22 Tryd.underlying5 cells5 h with ⟨hcs, _⟩ | ⟨a, l, cap, zs, hcs, _⟩
    · exact ⟨none, 0, 0, by simpa using hcs⟩
    · exact ⟨some a, l, cap, by simpa using hcs⟩
  obtain ⟨a, l, cap, rfl⟩ := hc
  obtain ⟨xs, hl, hb, hv, _⟩ := open_bytes (enc := enc) (W := W) (a := a) (len := l) (cap := cap) (d := y.1) (p := y.2) ⟨n, by simpa [Value.cells] using h⟩
  exact ⟨a, l, cap, xs, rfl, hv, hb, hl⟩
/-- The tables, as the row lays them. -/
theorem tables_of {W : World} (h : laidMet Tryd.prog [("coffer/digest.roots", Lib.tabData .u64 rootsL), ("coffer/digest.cubes", Lib.tabData .u64 cubesL)] W) : Tables W := by
  have hr : Lib.TabIs Tryd.prog W "coffer/digest.roots" .u64 rootsL := Lib.tabIs_of_head (g := 2) (t := 90) (e := 69) (n := 16) (by kernel_rfl) (by kernel_rfl) (by kernel_rfl) (by kernel_rfl) (by kernel_rfl) (by kernel_rfl) h
  have hc : Lib.TabIs Tryd.prog W "coffer/digest.cubes" .u64 cubesL := by
    obtain ⟨ps, ⟨g1, t1, cs1, fuel1, p1, q1, _, _, _, _, hrest, _⟩, _⟩ := h
    obtain ⟨g', t', cs, fuel, p, q, hg', ht', hvar, hd, _, _⟩ := hrest
    have hg : Tryd.prog.globalNamed "coffer/digest.cubes" = some 3 := by kernel_rfl
    obtain rfl := Option.some.inj (hg.symm.trans hg')
    have hty : (Tryd.prog.globals[3]?).map (·.type) = some 93 := by kernel_rfl
    obtain rfl := Option.some.inj (hty.symm.trans ht')
    unfold Lib.TabIs
    rw [hvar, ← Lib.cells_of_tab (n := 80) (e := 69) (by kernel_rfl) (by kernel_rfl) (by kernel_rfl) (by kernel_rfl) hd]
  exact ⟨fun t ht => hc.cell (by kernel_rfl) t (by simpa [cubesL] using ht), fun t ht => hr.cell (by kernel_rfl) t (by simpa [rootsL] using ht)⟩
end Go.Proofs.YtcopkohklgbpgaaDoor
namespace Go.Proofs.YtcopkohklgbpgaaDoor
open Go.ChangeShapes Go.WideShapes Go.ChangeAt Go.RowKit
set_option linter.unusedVariables false
/-- A block that holds a table. -/
def refilled2 (zs : List Int) : Obj → Obj
  | .cells _ t frozen => .cells (zs.map (Value.int .u64)).toArray t frozen
  | o => o
/-- The four tables, as the row lays them. -/
theorem tables_of4 {W : World} (h : laidMet Tryd.prog [("coffer/cofferref01.cubes", Lib.tabData .u64 cubesL), ("coffer/cofferref01.squares", Lib.tabData .u64 rootsL), ("coffer/digest.roots", Lib.tabData .u64 rootsL), ("coffer/digest.cubes", Lib.tabData .u64 cubesL)] W) : Tables W ∧ RTab W := by
  have h1 : Lib.TabIs Tryd.prog W "coffer/cofferref01.cubes" .u64 cubesL := Lib.tabIs_of_head (g := 1) (t := 93) (e := 69) (n := 80) (by kernel_rfl) (by kernel_rfl) (by kernel_rfl) (by kernel_rfl) (by kernel_rfl) (by kernel_rfl) h
  obtain ⟨ps, ⟨g1, t1, cs1, fuel1, p1, q1, _, _, _, _, hr2, _⟩, _⟩ := h
  obtain ⟨g2, t2, cs2, fuel2, p2, q2, hg2, ht2, hvar2, hd2, hr3, _⟩ := hr2
  obtain ⟨g3, t3, cs3, fuel3, p3, q3, hg3, ht3, hvar3, hd3, hr4, _⟩ := hr3
  obtain ⟨g4, t4, cs4, fuel4, p4, q4, hg4, ht4, hvar4, hd4, _, _⟩ := hr4
  have h2 : Lib.TabIs Tryd.prog W "coffer/cofferref01.squares" .u64 rootsL := by
    have hg : Tryd.prog.globalNamed "coffer/cofferref01.squares" = some 0 := by kernel_rfl
    obtain rfl := Option.some.inj (hg.symm.trans hg2)
    have hty : (Tryd.prog.globals[0]?).map (·.type) = some 90 := by kernel_rfl
    obtain rfl := Option.some.inj (hty.symm.trans ht2)
    unfold Lib.TabIs
    rw [hvar2, ← Lib.cells_of_tab (n := 16) (e := 69) (by kernel_rfl) (by kernel_rfl) (by kernel_rfl) (by kernel_rfl) hd2]
  have h3 : Lib.TabIs Tryd.prog W "coffer/digest.roots" .u64 rootsL := by
    have hg : Tryd.prog.globalNamed "coffer/digest.roots" = some 2 := by kernel_rfl
    obtain rfl := Option.some.inj (hg.symm.trans hg3)
    have hty : (Tryd.prog.globals[2]?).map (·.type) = some 90 := by kernel_rfl
    obtain rfl := Option.some.inj (hty.symm.trans ht3)
    unfold Lib.TabIs
    rw [hvar3, ← Lib.cells_of_tab (n := 16) (e := 69) (by kernel_rfl) (by kernel_rfl) (by kernel_rfl) (by kernel_rfl) hd3]
  have h4 : Lib.TabIs Tryd.prog W "coffer/digest.cubes" .u64 cubesL := by
    have hg : Tryd.prog.globalNamed "coffer/digest.cubes" = some 3 := by kernel_rfl
    obtain rfl := Option.some.inj (hg.symm.trans hg4)
    have hty : (Tryd.prog.globals[3]?).map (·.type) = some 93 := by kernel_rfl
    obtain rfl := Option.some.inj (hty.symm.trans ht4)
    unfold Lib.TabIs
    rw [hvar4, ← Lib.cells_of_tab (n := 80) (e := 69) (by kernel_rfl) (by kernel_rfl) (by kernel_rfl) (by kernel_rfl) hd4]
  exact ⟨⟨fun t ht => h4.cell (by kernel_rfl) t (by simpa [cubesL] using ht), fun t ht => h3.cell (by kernel_rfl) t (by simpa [rootsL] using ht)⟩, ⟨fun t ht => h1.cell (by kernel_rfl) t (by simpa [cubesL] using ht), fun t ht => h2.cell (by kernel_rfl) t (by simpa [rootsL] using ht)⟩⟩

end Go.Proofs.YtcopkohklgbpgaaDoor
