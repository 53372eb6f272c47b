import Derived.Test.YtoanndhaopgkjaaDoorVc
import Derived.Test.YtoanndhaopgkjaaDoorPart10
namespace Go.Proofs.YtoanndhaopgkjaaDoor
open Go.RowKit
set_option linter.unusedVariables false
set_option linter.unusedSimpArgs false
/-- A marked copy, its block named. -/
def MkA (B : Nat) (w : World) (g c : Nat) (zs : List Int) : Prop := w.ownsRow B 5 1 (.slice (some ⟨g, 0, none⟩) (zs.length + 70) c) (zs.length + 70) (cellsU8 (zs ++ marks 70))
theorem MkA.marked {B : Nat} {w : World} {g c : Nat} {zs : List Int} (h : MkA B w g c zs) : Marked B w (.slice (some ⟨g, 0, none⟩) zs.length c) zs := ⟨g, c, rfl, h⟩
theorem MkA.lt {B : Nat} {w : World} {g c : Nat} {zs : List Int} (h : MkA B w g c zs) : B ≤ g ∧ g < w.heap.size := own_lt h g rfl
theorem MkA.keep {B : Nat} {w w' : World} {g c : Nat} {zs : List Int} (h : MkA B w g c zs) (hb : ∀ k, k < w.heap.size → w'.heap[k]? = w.heap[k]?) : MkA B w' g c zs := own_keep h hb
theorem MkA.set {B : Nat} {w : World} {g c : Nat} {zs : List Int} (h : MkA B w g c zs) (j : Nat) (z : Int) (hj : j < zs.length) : MkA B (w.setCell ⟨g, j, none⟩ (.int .u8 z)) g c (zs.set j z) := by
  have q := (World.ownsRow.stored h j (.int .u8 z)).1
  unfold MkA
  rw [List.length_set]
  have e : (cellsU8 (zs ++ marks 70)).set j (.int .u8 z) = cellsU8 (zs.set j z ++ marks 70) := by
    simp only [cellsU8, List.map_append, List.map_set]
    rw [List.set_append_left _ _ (by simpa using hj)]
  rw [e] at q
  exact q
theorem MkA.frozen {B : Nat} {w : World} {g c : Nat} {zs : List Int} (h : MkA B w g c zs) (j : Nat) : w.frozen? ⟨g, j, none⟩ = false := by
  rcases h.2 with ⟨h, _⟩ | ⟨g', c', cur, he, _, h2, _⟩
  · cases h
  · injection he with e1
    injection e1 with e1
    injection e1 with e1
    subst e1
    exact frozen_of_row w g j cur 5 h2
theorem MkA.cell {B : Nat} {w : World} {g c : Nat} {zs : List Int} (h : MkA B w g c zs) (j : Nat) (hj : j < zs.length) : w.cell? ⟨g, j, none⟩ = some (.int .u8 (zs.getD j 0)) := by
  obtain ⟨g', c', he, _, _, hc, _⟩ := h.marked.cells
  injection he with e1
  injection e1 with e1
  injection e1 with e1
  subst e1
  exact hc j hj
theorem MkA.cap {B : Nat} {w : World} {g c : Nat} {zs : List Int} (h : MkA B w g c zs) : zs.length + 70 ≤ c ∧ c ≤ 9223372036854775807 := by
  rcases h.2 with ⟨h, _⟩ | ⟨g', c', cur, he, _, h2, h3, h4, _⟩
  · cases h
  · injection he with e1 e2 e3
    subst e3
    exact ⟨h3, by simpa [maxLen] using h4⟩
theorem layL_take_full (L s : List Int) (k : Nat) : layL L k (s.take 0) = L := by rw [List.take_zero, layL_nil]
/-- The bytes, with their digest put in where that is asked. -/
def sumP (L : List Int) (sum : Bool) : List Int := if sum = true ∧ 512 ≤ L.length then layL L 448 (sumI L) else L
theorem sumP_length (L : List Int) (sum : Bool) : (sumP L sum).length = L.length := by
  unfold sumP
  split
  · rename_i h
    exact layL_length (by rw [sumI_length]; omega)
  · rfl
theorem sumP_byt (L : List Int) (sum : Bool) (hL : Byt L) : Byt (sumP L sum) := by
  unfold sumP
  split
  · exact layL_byt _ hL (sumD_range _)
  · exact hL
/-- What the law keeps in its second loop. -/
structure UnI (w : World) (g c : Nat) (v8 : Value) (Z : List Int) (u : World) : Prop where
  m : MkA w.heap.size u g c Z
  v : View u v8 Z
  below : Below w.heap.size w u
theorem UnI.kept {w : World} {g c : Nat} {v8 : Value} {Z : List Int} {u u' : World} (h : UnI w g c v8 Z u) (hb : Below u.heap.size u u') : UnI w g c v8 Z u' := ⟨h.m.keep (fun k hk => hb.block k hk), h.v.kept (fun k hk => hb.block k hk), h.below.trans (hb.mono h.below.size)⟩
theorem rsum8_view (v : Value) (L : List Int) (w : World) (hT : RTab w) (h5 : 512 ≤ L.length) (hv : View w v L) (hm : L.length ≤ 140737488351232) :
    Calls Tryd.prog 13 #[v] w fun e w' => ∃ v', e = .returned v' ∧ w'.ownsRow w.heap.size 5 1 v' 32 (cellsU8 (sumI L)) ∧ Below w.heap.size w w' := by
  have hv0 := hv
  obtain ⟨a, cp, rfl, h1, h2, h3, h4⟩ := hv
  rcases h4 with rfl | ⟨b, o, rfl, hc⟩
  · simp at h5
  · exact rsum8_ok b o L.length cp L w hT rfl h5 hv0 hm
set_option maxHeartbeats 2000000 in
set_option maxRecDepth 100000 in
theorem unpacks_ok (vb : Value) (sum : Bool) (R : List Int) (w : World) (hF : FT w) (hT : Tables w) (hR : RTab w) (hb : Byt R) (hv : View w vb R) (hn : R.length ≤ 140737488351232) :
    Calls Tryd.prog 5 #[vb, .bool sum] w fun e w' => e = .returned (.bool true) ∧ Below w.heap.size w w' := by
  have HF : Hid (FT w) := hF
  have HT : Hid (Tables w) := hT
  have HRT : Hid (RTab w) := hR
  have HV : Hid (View w vb R ∧ Byt R ∧ R.length ≤ 140737488351232) := ⟨hv, hb, hn⟩
  have hft := hF.lt
  have hlen : ∃ N cp a, vb = .slice a N cp ∧ Hid (R.length = N) ∧ N ≤ 140737488351232 := by
    obtain ⟨a, cp, e, _⟩ := hv
    exact ⟨R.length, cp, a, e, rfl, hn⟩
  obtain ⟨N, cp, a0, hvb, HN, hNm⟩ := hlen
  have HU : Hid (∀ v L s u, Byt L → View u v L → Below w.heap.size w u → Calls Tryd.prog 8 #[v, .bool s] u (UnpR L s u)) := fun v L s u hL hv hu => unpack_ok v L s u (HF.out.below hu hft) (HT.out.below hu HT.out.size) hL hv
  have HQ : Hid (∀ v L s u, Byt L → View u v L → Below w.heap.size w u → Calls Tryd.prog 14 #[v, .bool s] u (UnpR L s u)) := fun v L s u hL hv hu => runpack_ok v L s u (HRT.out.below hu HRT.out.size) hL hv
  have HCp := copy_any vb R w (by omega) hv
  subst hvb
  clear hF hT hR hb hv hn
  go_enter Tryd.func5, Tryd.ntmps5
  go_upto_region 2 with (go_at_call 12; refine HCp.mono ?_; rintro e1 u1 ⟨v1, rfl, ⟨g, c, rfl, hm⟩, hb1⟩)
  have HM : Hid (MkA w.heap.size u1 g c R ∧ Below w.heap.size w u1) := ⟨hm, hb1⟩
  clear hm hb1 HCp
  rw [HN.out]
  have hcap := HM.out.1.cap
  rw [HN.out] at hcap
  by_cases hs : sum = true ∧ 512 ≤ N
  · obtain ⟨rfl, h512⟩ := hs
    have HSm := rsum8_view (.slice a0 N cp) R u1 (HRT.out.below HM.out.2 HRT.out.size) (by rw [HN.out]; exact h512) (HV.out.1.kept (fun k hk => HM.out.2.block k hk)) HV.out.2.2
    have dge : decide (512 ≤ (N : Int)) = true := decide_eq_true (by omega)
    go_upto_region 4 with (go_at_call 13; refine HSm.mono ?_; rintro e2 u2 ⟨v6, rfl, ho2, hb2⟩)
    obtain ⟨g6, cp6, hv6, hby6, hn6⟩ := own_some ho2 (sumI_length R) (by decide)
    subst hv6
    have HL0 : Hid (MkA w.heap.size u2 g c (layL R 448 ((sumI R).take 0)) ∧ By u2 g6 0 (sumI R) ∧ Below w.heap.size w u2 ∧ g ≠ g6) := by
      rw [layL_take_full]
      refine ⟨HM.out.1.keep (fun k hk => hb2.block k hk), hby6, HM.out.2.trans (hb2.mono HM.out.2.size), ?_⟩
      have h1 := HM.out.1.lt
      have h2 := own_lt ho2 g6 rfl
      omega
    clear ho2 hb2 hby6 HSm HM
    have HSL : Hid ((sumI R).length = 32) := sumI_length R
    go_upto_region 5 with fail
    go_loopw [7] (fun vi wr => ∃ k : Nat, vi = .int .i64 (k : Nat) ∧ k ≤ 32 ∧ Hid (MkA w.heap.size wr g c (layL R 448 ((sumI R).take k)) ∧ By wr g6 0 (sumI R) ∧ Below w.heap.size w wr ∧ g ≠ g6)) (fun vi _ => 32 - (intOf vi).toNat)
    case atStart => exact ⟨0, rfl, by omega, HL0⟩
    case round =>
      clear HL0
      obtain ⟨k, rfl, hk, HK⟩ := hrel
      by_cases hlt : k < 32
      · have hlk : (layL R 448 ((sumI R).take k)).length = N := by rw [layL_length (by rw [List.length_take, HSL.out, HN.out]; omega)]; exact HN.out
        have cs := HK.out.2.1 k (by rw [HSL.out]; exact hlt)
        rw [Nat.zero_add] at cs
        have e1 : IntKind.i64.wrap (448 + (k : Int)) = ((448 + k : Nat) : Int) := by rw [IntKind.wrap_i64]; omega
        have f0 : wr.frozen? ⟨g, 448 + k, none⟩ = false := HK.out.1.frozen _
        have c0 : wr.cell? ⟨g, 448 + k, none⟩ = some (.int .u8 ((layL R 448 ((sumI R).take k)).getD (448 + k) 0)) := HK.out.1.cell _ (by rw [hlk]; omega)
        generalize (layL R 448 ((sumI R).take k)).getD (448 + k) 0 = old at c0
        have HS : Hid (MkA w.heap.size (wr.setCell ⟨g, 448 + k, none⟩ (.int .u8 ((sumI R).getD k 0))) g c (layL R 448 ((sumI R).take (k + 1))) ∧ By (wr.setCell ⟨g, 448 + k, none⟩ (.int .u8 ((sumI R).getD k 0))) g6 0 (sumI R) ∧ Below w.heap.size w (wr.setCell ⟨g, 448 + k, none⟩ (.int .u8 ((sumI R).getD k 0))) ∧ g ≠ g6) := by
          refine ⟨?_, fun i hi => ?_, HK.out.2.2.1.setCell HK.out.1.lt.1 _, HK.out.2.2.2⟩
          · have q := HK.out.1.set (448 + k) ((sumI R).getD k 0) (by rw [hlk]; omega)
            have ht : ((sumI R).take k).length = k := by rw [List.length_take, HSL.out]; omega
            have q2 := layL_snoc (L := R) (k := 448) (s := (sumI R).take k) (z := (sumI R).getD k 0) (by rw [ht, HN.out]; omega)
            rw [ht] at q2
            rw [q2, ← take_snocI (sumI R) k (by rw [HSL.out]; exact hlt)] at q
            exact q
          · rw [World.cell?_of_block (w := wr) (Below.heap_setCell wr ⟨g, 448 + k, none⟩ _ g6 (fun e => HK.out.2.2.2 e.symm))]
            exact HK.out.2.1 i hi
        generalize (sumI R).getD k 0 = z at cs HS
        clear hlk
        go_wp2
        exact ⟨⟨k + 1, by simp, by omega, HS⟩, by simp [intOf]; omega⟩
      · obtain ⟨Z, HZd⟩ : ∃ Z, Hid (Z = sumP R true) := ⟨_, rfl⟩
        have HM : Hid (MkA w.heap.size wr g c Z ∧ Below w.heap.size w wr) := by
          have hZ : Z = layL R 448 (sumI R) := by rw [HZd.out, sumP, if_pos ⟨rfl, by rw [HN.out]; exact h512⟩]
          rw [hZ]
          have q := HK.out
          rw [List.take_of_length_le (by rw [HSL.out]; omega)] at q
          exact ⟨q.1, q.2.2.1⟩
        clear HK
        have HZ : Hid (Z.length = N ∧ Byt Z) := ⟨by rw [HZd.out, sumP_length]; exact HN.out, by rw [HZd.out]; exact sumP_byt R true HV.out.2.1⟩
        obtain ⟨i0, hi, hz0, hz1, hz2⟩ := info_parts Tryd.info5
        have HCl : Hid (∀ j x, (cellsU8 Z)[j]? = some x → wr.cell? ((⟨g, 0, none⟩ : Addr).add j) = some x) := fun j x hj => cellsU8_at Z wr g 0 (fun i hi => by rw [Nat.zero_add]; exact HM.out.1.cell i hi) j x hj
        go_upto_region 10 with (at_builtin; go_must (refine wpList_append_own _ rfl (.tmp 38) (.tmp 39) 25 rfl w.heap.size 5 i0 (.int .u8 0) 1 1 Tryd.underlying25 hi hz0 hz1 hz2 rfl (by decide) _ 0 [] rfl (World.ownsRow_nil _ _ _ _) ⟨g, 0, none⟩ N c (cellsU8 Z) rfl ?_ HCl.out (cellsU8_one Z) ?_ ?_ HM.out.2.size ?_))
        · rw [cellsU8_length, HZ.out.1, Nat.mul_one]
        · unfold maxLen; omega
        · omega
        intro v8 u8 hown hgrow _
        have HI : Hid (UnI w g c v8 Z u8) := by
          have hb8 : Below wr.heap.size wr u8 := ⟨hgrow.os, hgrow.tape, hgrow.output, hgrow.size, fun k hk => hgrow.block k hk (by intro e; cases e)⟩
          refine ⟨HM.out.1.keep (fun k hk => hb8.block k hk), ?_, HM.out.2.trans (hb8.mono HM.out.2.size)⟩
          exact viewOwns hown HZ.out.1
        clear hown hgrow HCl HM
        go_upto_region 11 with fail
        go_loopw [9] (fun vi wr => ∃ k : Nat, vi = .int .i64 (k : Nat) ∧ k ≤ 2 ∧ Hid (UnI w g c v8 Z wr)) (fun vi _ => 2 - (intOf vi).toNat)
        case atStart => exact ⟨0, rfl, by omega, HI⟩
        case round =>
          clear HI
          obtain ⟨k, rfl, hk, HK⟩ := hrel
          by_cases hlt : k < 2
          · have H8 := HU.out (.slice (some ⟨g, 0, none⟩) N c) Z ((k : Int) == 1) wr HZ.out.2 (by have q := HK.out.m.marked.view; rw [HZ.out.1] at q; exact q) HK.out.below
            go_upto_region 14 with (first | (go_at_call 8; refine H8.mono ?_; rintro e3 u3 ⟨rfl, hb3⟩) | (refine wpList_store_bo (by rfl) (.tmp 10) (.tmp 50) (by rfl) zHc (unpC Z ((k : Int) == 1)) u3.heap.size (by rfl) (by rfl) (Bo.new u3 zHc) ?_; intro u4 hb4 hg4))
            have H4 : Hid (UnI w g c v8 Z u4 ∧ Bo u4 u3.heap.size (unpC Z ((k : Int) == 1))) := ⟨HK.out.kept (hb3.trans (((al1 u3 _).trans (below_gb hg4 (by simp) (Nat.le_refl _))).mono hb3.size)), hb4⟩
            clear hb3 hb4 hg4 H8
            generalize u3.heap.size = g10 at H4 ⊢
            have H14 := HQ.out v8 Z ((k : Int) == 1) u4 HZ.out.2 H4.out.1.v H4.out.1.below
            go_upto_region 15 with (first | (go_at_call 14; refine H14.mono ?_; rintro e5 u5 ⟨rfl, hb5⟩) | (refine wpList_store_bo (by rfl) (.tmp 12) (.tmp 57) (by rfl) zHc (unpC Z ((k : Int) == 1)) u5.heap.size (by rfl) (by rfl) (Bo.new u5 zHc) ?_; intro u6 hb6 hg6))
            have H6 : Hid (UnI w g c v8 Z u6 ∧ Bo u6 g10 (unpC Z ((k : Int) == 1)) ∧ Bo u6 u5.heap.size (unpC Z ((k : Int) == 1))) := by
              have q := hb5.trans (((al1 u5 _).trans (below_gb hg6 (by simp) (Nat.le_refl _))).mono hb5.size)
              exact ⟨H4.out.1.kept q, H4.out.2.below q, hb6⟩
            clear hb5 hb6 hg6 H14 H4
            generalize u5.heap.size = g12 at H6 ⊢
            have q24 := eqH (unpC Z ((k : Int) == 1))
            generalize unpC Z ((k : Int) == 1) = cc at H6 q24 ⊢
            generalize unpE Z ((k : Int) == 1) = ee at ⊢
            have HWh := whole_any (.slice (some ⟨g, 0, none⟩) N c) v8 Z w.heap.size u6 (by have q := H6.out.1.m.marked; rw [HZ.out.1] at q; exact q) H6.out.1.v
            go_wp2_with (first | (refine wpList_load_mid (by rfl) 24 (.tmp 10) (by rfl) g10 0 (by rfl) cc.cells _ H6.out.2.1.range Tryd.underlying24 rfl (by kernel_rfl) ?_) | (refine wpList_load_mid (by rfl) 24 (.tmp 12) (by rfl) g12 0 (by rfl) cc.cells _ H6.out.2.2.range Tryd.underlying24 rfl (by kernel_rfl) ?_) | (go_at_call 7; refine (num_ok _ _).mono ?_; rintro en wn ⟨rfl, hx⟩; obtain rfl := hx) | (go_at_call 15; refine HWh.mono ?_; rintro e7 u7 ⟨rfl, m7, rfl⟩))
            exact ⟨⟨k + 1, by simp, by omega, H6.out.1.kept ⟨rfl, rfl, rfl, Nat.le_refl _, fun _ _ => rfl⟩⟩, by simp [intOf]; omega⟩
          · go_wp2
            go_ret
            exact ⟨rfl, HK.out.below⟩
  · obtain ⟨Z, HZd⟩ : ∃ Z, Hid (Z = sumP R sum) := ⟨_, rfl⟩
    have HM1 : Hid (MkA w.heap.size u1 g c Z ∧ Below w.heap.size w u1) := by
      have hZ : Z = R := by rw [HZd.out, sumP, if_neg (by rw [HN.out]; exact hs)]
      rw [hZ]
      exact HM.out
    clear HM
    have dsk : sum = false ∨ (sum = true ∧ decide (512 ≤ (N : Int)) = false) := by
      cases sum
      · exact .inl rfl
      · exact .inr ⟨rfl, decide_eq_false (fun h => hs ⟨rfl, by omega⟩)⟩
    clear hs
    rcases dsk with rfl | ⟨rfl, dsk⟩
    all_goals
      have HZ : Hid (Z.length = N ∧ Byt Z) := ⟨by rw [HZd.out, sumP_length]; exact HN.out, by rw [HZd.out]; exact sumP_byt R _ HV.out.2.1⟩
      obtain ⟨i0, hi, hz0, hz1, hz2⟩ := info_parts Tryd.info5
      have HCl : Hid (∀ j x, (cellsU8 Z)[j]? = some x → u1.cell? ((⟨g, 0, none⟩ : Addr).add j) = some x) := fun j x hj => cellsU8_at Z u1 g 0 (fun i hi => by rw [Nat.zero_add]; exact HM1.out.1.cell i hi) j x hj
      go_upto_region 10 with (at_builtin; go_must (refine wpList_append_own _ rfl (.tmp 38) (.tmp 39) 25 rfl w.heap.size 5 i0 (.int .u8 0) 1 1 Tryd.underlying25 hi hz0 hz1 hz2 rfl (by decide) _ 0 [] rfl (World.ownsRow_nil _ _ _ _) ⟨g, 0, none⟩ N c (cellsU8 Z) rfl ?_ HCl.out (cellsU8_one Z) ?_ ?_ HM1.out.2.size ?_))
      · rw [cellsU8_length, HZ.out.1, Nat.mul_one]
      · unfold maxLen; omega
      · omega
      intro v8 u8 hown hgrow _
      have HI : Hid (UnI w g c v8 Z u8) := by
        have hb8 : Below u1.heap.size u1 u8 := ⟨hgrow.os, hgrow.tape, hgrow.output, hgrow.size, fun k hk => hgrow.block k hk (by intro e; cases e)⟩
        refine ⟨HM1.out.1.keep (fun k hk => hb8.block k hk), ?_, HM1.out.2.trans (hb8.mono HM1.out.2.size)⟩
        exact viewOwns hown HZ.out.1
      clear hown hgrow HCl HM1
      go_upto_region 11 with fail
      go_loopw [9] (fun vi wr => ∃ k : Nat, vi = .int .i64 (k : Nat) ∧ k ≤ 2 ∧ Hid (UnI w g c v8 Z wr)) (fun vi _ => 2 - (intOf vi).toNat)
      case atStart => exact ⟨0, rfl, by omega, HI⟩
      case round =>
        clear HI
        obtain ⟨k, rfl, hk, HK⟩ := hrel
        by_cases hlt : k < 2
        · have H8 := HU.out (.slice (some ⟨g, 0, none⟩) N c) Z ((k : Int) == 1) wr HZ.out.2 (by have q := HK.out.m.marked.view; rw [HZ.out.1] at q; exact q) HK.out.below
          go_upto_region 14 with (first | (go_at_call 8; refine H8.mono ?_; rintro e3 u3 ⟨rfl, hb3⟩) | (refine wpList_store_bo (by rfl) (.tmp 10) (.tmp 50) (by rfl) zHc (unpC Z ((k : Int) == 1)) u3.heap.size (by rfl) (by rfl) (Bo.new u3 zHc) ?_; intro u4 hb4 hg4))
          have H4 : Hid (UnI w g c v8 Z u4 ∧ Bo u4 u3.heap.size (unpC Z ((k : Int) == 1))) := ⟨HK.out.kept (hb3.trans (((al1 u3 _).trans (below_gb hg4 (by simp) (Nat.le_refl _))).mono hb3.size)), hb4⟩
          clear hb3 hb4 hg4 H8
          generalize u3.heap.size = g10 at H4 ⊢
          have H14 := HQ.out v8 Z ((k : Int) == 1) u4 HZ.out.2 H4.out.1.v H4.out.1.below
          go_upto_region 15 with (first | (go_at_call 14; refine H14.mono ?_; rintro e5 u5 ⟨rfl, hb5⟩) | (refine wpList_store_bo (by rfl) (.tmp 12) (.tmp 57) (by rfl) zHc (unpC Z ((k : Int) == 1)) u5.heap.size (by rfl) (by rfl) (Bo.new u5 zHc) ?_; intro u6 hb6 hg6))
          have H6 : Hid (UnI w g c v8 Z u6 ∧ Bo u6 g10 (unpC Z ((k : Int) == 1)) ∧ Bo u6 u5.heap.size (unpC Z ((k : Int) == 1))) := by
            have q := hb5.trans (((al1 u5 _).trans (below_gb hg6 (by simp) (Nat.le_refl _))).mono hb5.size)
            exact ⟨H4.out.1.kept q, H4.out.2.below q, hb6⟩
          clear hb5 hb6 hg6 H14 H4
          generalize u5.heap.size = g12 at H6 ⊢
          have q24 := eqH (unpC Z ((k : Int) == 1))
          generalize unpC Z ((k : Int) == 1) = cc at H6 q24 ⊢
          generalize unpE Z ((k : Int) == 1) = ee at ⊢
          have HWh := whole_any (.slice (some ⟨g, 0, none⟩) N c) v8 Z w.heap.size u6 (by have q := H6.out.1.m.marked; rw [HZ.out.1] at q; exact q) H6.out.1.v
          go_wp2_with (first | (refine wpList_load_mid (by rfl) 24 (.tmp 10) (by rfl) g10 0 (by rfl) cc.cells _ H6.out.2.1.range Tryd.underlying24 rfl (by kernel_rfl) ?_) | (refine wpList_load_mid (by rfl) 24 (.tmp 12) (by rfl) g12 0 (by rfl) cc.cells _ H6.out.2.2.range Tryd.underlying24 rfl (by kernel_rfl) ?_) | (go_at_call 7; refine (num_ok _ _).mono ?_; rintro en wn ⟨rfl, hx⟩; obtain rfl := hx) | (go_at_call 15; refine HWh.mono ?_; rintro e7 u7 ⟨rfl, m7, rfl⟩))
          exact ⟨⟨k + 1, by simp, by omega, H6.out.1.kept ⟨rfl, rfl, rfl, Nat.le_refl _, fun _ _ => rfl⟩⟩, by simp [intOf]; omega⟩
        · go_wp2
          go_ret
          exact ⟨rfl, HK.out.below⟩
end Go.Proofs.YtoanndhaopgkjaaDoor
