import Derived.Test.YtoanndhaopgkjaaDoorPart07
import Derived.Test.YtoanndhaopgkjaaDoorPart05
import Derived.Test.YtoanndhaopgkjaaDoorCards
import Derived.Test.YtoanndhaopgkjaaDoorTie
import Derived.ProofKit
import Derived.OpenShut
import Derived.ShutString
import Derived.ChangeOld
import Derived.SizedLaws
import Derived.Deep.DeepHandedRow
import Derived.Lib.LaidTab
import Derived.Deep.Slices
namespace Go.Proofs.YtoanndhaopgkjaaDoor
open Go.RowKit
set_option linter.unusedVariables false
set_option linter.unusedSimpArgs false
set_option maxRecDepth 100000 in
theorem num_ok (n : Int) (w : World) : Calls Tryd.prog 7 #[.int .i64 n] w fun e w' => e = .returned (.int .i64 n) ∧ w = w' := by
  go_enter Tryd.func7, Tryd.ntmps7
  go_wp2
  go_ret
  exact ⟨rfl, rfl⟩
theorem own_keep {w w' : World} {B n : Nat} {v : Value} {xs : List Value} (h : w.ownsRow B 5 1 v n xs) (hb : ∀ k, k < w.heap.size → w'.heap[k]? = w.heap[k]?) : w'.ownsRow B 5 1 v n xs := by
  refine ⟨h.1, h.2.imp id ?_⟩
  rintro ⟨g, c, cur, e, h1, h2, h3⟩
  exact ⟨g, c, cur, e, h1, by rw [hb g (Array.getElem?_eq_some_iff.1 h2).1]; exact h2, h3⟩
theorem own_lt {w : World} {B n : Nat} {v : Value} {xs : List Value} (h : w.ownsRow B 5 1 v n xs) : ∀ g, v.ownBlock = some g → B ≤ g ∧ g < w.heap.size := by
  intro g hg
  rcases h.2 with ⟨rfl, _⟩ | ⟨g', c, cur, rfl, h1, h2, h3⟩
  · cases hg
  · injection hg with hg
    subst hg
    exact ⟨h1, (Array.getElem?_eq_some_iff.1 h2).1⟩
theorem own_far {w w' : World} {B n : Nat} {v : Value} {xs : List Value} {o : Option Nat} (h : w.ownsRow B 5 1 v n xs) (hg : w.grownBy w' o) (hn : ∀ g, v.ownBlock = some g → o ≠ some g) : w'.ownsRow B 5 1 v n xs := by
  refine ⟨h.1, ?_⟩
  rcases h.2 with h2 | ⟨g, c, cur, rfl, h1, h2, h3⟩
  · exact .inl h2
  · exact .inr ⟨g, c, cur, rfl, h1, by rw [hg.block g (Array.getElem?_eq_some_iff.1 h2).1 (fun e => hn g rfl e.symm)]; exact h2, h3⟩
theorem packB_le (c : Hc) : (packB c).length ≤ 4194304 := by
  unfold packB
  split
  · rename_i h
    have hg := (good_iff c).1 h
    rw [packL_length c hg]
    have := headB_le hg.head
    omega
  · simp
/-- The two boxes of a law. -/
structure Bx2 (w : World) (c d : Hc) (u : World) : Prop where
  b1 : u.rangeAt w.heap.size 0 c.cells
  b2 : u.rangeAt (w.heap.size + 1) 0 d.cells
  below : Below w.heap.size w u
  lt : w.heap.size + 1 < u.heap.size
theorem Bx2.keep {w : World} {c d : Hc} {u u' : World} (h : Bx2 w c d u) (hb : Below u.heap.size u u') : Bx2 w c d u' :=
  ⟨fun j v hj => by rw [hb.cell (p := ⟨w.heap.size, 0 + j, none⟩) (Nat.lt_trans (Nat.lt_succ_self _) h.lt)]; exact h.b1 j v hj, fun j v hj => by rw [hb.cell (p := ⟨w.heap.size + 1, 0 + j, none⟩) h.lt]; exact h.b2 j v hj, h.below.trans (hb.mono h.below.size), Nat.lt_of_lt_of_le h.lt hb.size⟩
set_option maxHeartbeats 1000000 in
set_option maxRecDepth 100000 in
theorem packs_ok (c d : Hc) (w : World) (hF : FT w) (hT : Tables w) (hR : RTab w) (hc : Fit c) (hd : Fit d) (tc : Txt c) (td : Txt d) :
    Calls Tryd.prog 4 #[c.val, d.val] w fun e w' => e = .returned (.bool true) ∧ Below w.heap.size w w' := by
  have HF : Hid (FT w) := hF
  have HT : Hid (Tables w) := hT
  have HR : Hid (RTab w) := hR
  have hft := hF.lt
  have HP : Hid (∀ k u, (k = c ∨ k = d) → Below w.heap.size w u → Calls Tryd.prog 6 #[.agg k.cells.toArray] u (PackR k u)) := fun k u hk hu => by
    rcases hk with rfl | rfl
    · exact pack_ok k u (HF.out.below hu hft) (HT.out.below hu HT.out.size) hc
    · exact pack_ok k u (HF.out.below hu hft) (HT.out.below hu HT.out.size) hd
  have HQ : Hid (∀ k u, (k = c ∨ k = d) → Below w.heap.size w u → Calls Tryd.prog 10 #[.agg k.cells.toArray] u (PackR k u)) := fun k u hk hu => by
    rcases hk with rfl | rfl
    · exact rpack_ok k u (HR.out.below hu HR.out.size) tc hc
    · exact rpack_ok k u (HR.out.below hu HR.out.size) td hd
  have HB0 : Hid (Bx2 w c d ((w.alloc (.cells c.cells.toArray 24)).alloc (.cells d.cells.toArray 24))) := by
    refine ⟨fun j v hj => ?_, ?_, (al1 w _).trans ((al1 _ _).mono (by simp)), by simp⟩
    · rw [(al1 (w.alloc (.cells c.cells.toArray 24)) _).cell (p := ⟨w.heap.size, 0 + j, none⟩) (by simp)]
      exact rangeAt_new w c.cells.toArray 24 j v hj
    · have q := rangeAt_new (w.alloc (.cells c.cells.toArray 24)) d.cells.toArray 24
      rw [World.size_alloc] at q
      exact q
  clear hF hT hR
  rw [Hc.val_eq, Hc.val_eq]
  rw [Hc.cells_eq, Hc.cells_eq] at HB0
  go_enter Tryd.func4, Tryd.ntmps4
  go_upto_region 1 with fail
  generalize ((w.alloc (.cells #[.bool c.second, .int .i64 c.head, .int .u64 c.seq, .string c.label, .string c.sub, .string c.uuid, .string c.salt, .string c.text] 24)).alloc (.cells #[.bool d.second, .int .i64 d.head, .int .u64 d.seq, .string d.label, .string d.sub, .string d.uuid, .string d.salt, .string d.text] 24)) = u0 at HB0 ⊢
  go_upto_region 2 with (first | (refine wpList_load_mid (by rfl) 24 (.tmp 2) (by rfl) w.heap.size 0 (by rfl) c.cells _ HB0.out.b1 Tryd.underlying24 rfl (by kernel_rfl) ?_) | (go_at_call 10; refine (HQ.out c _ (.inl rfl) HB0.out.below).mono ?_; rintro e1 u1 ⟨v1, rfl, ho, hb⟩; have HO1 : Hid (u1.ownsRow u0.heap.size 5 1 v1 (packB c).length (cellsU8 (packB c)) ∧ Below u0.heap.size u0 u1) := ⟨ho, hb⟩; have HB1 : Hid (Bx2 w c d u1) := HB0.out.keep hb; clear ho hb))
  go_upto_region 3 with (first | (refine wpList_load_mid (by rfl) 24 (.tmp 2) (by rfl) w.heap.size 0 (by rfl) c.cells _ HB1.out.b1 Tryd.underlying24 rfl (by kernel_rfl) ?_) | (go_at_call 6; refine (HP.out c _ (.inl rfl) HB1.out.below).mono ?_; rintro e2 u2 ⟨v2, rfl, ho, hb⟩; have HO2 : Hid (u2.ownsRow u1.heap.size 5 1 v2 (packB c).length (cellsU8 (packB c)) ∧ Below u1.heap.size u1 u2) := ⟨ho, hb⟩; have HB2 : Hid (Bx2 w c d u2) := HB1.out.keep hb; clear ho hb))
  go_upto_region 4 with (first | (refine wpList_load_mid (by rfl) 24 (.tmp 2) (by rfl) w.heap.size 0 (by rfl) c.cells _ HB2.out.b1 Tryd.underlying24 rfl (by kernel_rfl) ?_) | (go_at_call 6; refine (HP.out c _ (.inl rfl) HB2.out.below).mono ?_; rintro e3 u3 ⟨v3, rfl, ho, hb⟩; have HO3 : Hid (u3.ownsRow u2.heap.size 5 1 v3 (packB c).length (cellsU8 (packB c)) ∧ Below u2.heap.size u2 u3) := ⟨ho, hb⟩; have HB3 : Hid (Bx2 w c d u3) := HB2.out.keep hb; clear ho hb))
  go_upto_region 5 with (first | (refine wpList_load_mid (by rfl) 24 (.tmp 3) (by rfl) (w.heap.size + 1) 0 (by rfl) d.cells _ HB3.out.b2 Tryd.underlying24 rfl (by kernel_rfl) ?_) | (go_at_call 6; refine (HP.out d _ (.inr rfl) HB3.out.below).mono ?_; rintro e4 u4 ⟨v4, rfl, ho, hb⟩; have HO4 : Hid (u4.ownsRow u3.heap.size 5 1 v4 (packB d).length (cellsU8 (packB d)) ∧ Below u3.heap.size u3 u4) := ⟨ho, hb⟩; have HB4 : Hid (Bx2 w c d u4) := HB3.out.keep hb; clear ho hb))
  go_upto_region 6 with (first | (refine wpList_load_mid (by rfl) 24 (.tmp 3) (by rfl) (w.heap.size + 1) 0 (by rfl) d.cells _ HB4.out.b2 Tryd.underlying24 rfl (by kernel_rfl) ?_) | (go_at_call 10; refine (HQ.out d _ (.inr rfl) HB4.out.below).mono ?_; rintro e5 u5 ⟨v5, rfl, ho, hb⟩; have HO5 : Hid (u5.ownsRow u4.heap.size 5 1 v5 (packB d).length (cellsU8 (packB d)) ∧ Below u4.heap.size u4 u5) := ⟨ho, hb⟩; have HB5 : Hid (Bx2 w c d u5) := HB4.out.keep hb; clear ho hb))
  have b45 := HO5.out.2
  have b35 := HO4.out.2.trans (b45.mono HO4.out.2.size)
  have b25 := HO3.out.2.trans (b35.mono HO3.out.2.size)
  have b15 := HO2.out.2.trans (b25.mono HO2.out.2.size)
  have HK : Hid (u5.ownsRow u0.heap.size 5 1 v1 (packB c).length (cellsU8 (packB c)) ∧ u5.ownsRow u1.heap.size 5 1 v2 (packB c).length (cellsU8 (packB c)) ∧ u5.ownsRow u2.heap.size 5 1 v3 (packB c).length (cellsU8 (packB c)) ∧ u5.ownsRow u3.heap.size 5 1 v4 (packB d).length (cellsU8 (packB d)) ∧ u5.ownsRow u4.heap.size 5 1 v5 (packB d).length (cellsU8 (packB d))) :=
    ⟨own_keep HO1.out.1 b15.block, own_keep HO2.out.1 b25.block, own_keep HO3.out.1 b35.block, own_keep HO4.out.1 b45.block, HO5.out.1⟩
  have HL : Hid ((∀ g, v1.ownBlock = some g → g < u1.heap.size) ∧ u1.heap.size ≤ u2.heap.size ∧ (∀ g, v2.ownBlock = some g → u1.heap.size ≤ g ∧ g < u2.heap.size) ∧ (∀ g, v3.ownBlock = some g → u2.heap.size ≤ g) ∧ (∀ g, v4.ownBlock = some g → u2.heap.size ≤ g) ∧ (∀ g, v5.ownBlock = some g → u2.heap.size ≤ g)) :=
    ⟨fun g hg => (own_lt HO1.out.1 g hg).2, HO2.out.2.size, fun g hg => own_lt HO2.out.1 g hg, fun g hg => (own_lt HO3.out.1 g hg).1, fun g hg => Nat.le_trans HO3.out.2.size (own_lt HO4.out.1 g hg).1, fun g hg => Nat.le_trans (Nat.le_trans HO3.out.2.size HO4.out.2.size) (own_lt HO5.out.1 g hg).1⟩
  have HB : Hid (Below w.heap.size w u5 ∧ w.heap.size ≤ u1.heap.size) := ⟨HB5.out.below, HB1.out.below.size⟩
  have HS5 : Hid (u1.heap.size ≤ u5.heap.size) := b15.size
  clear HB0 HB1 HB2 HB3 HB4 HB5 HO1 HO2 HO3 HO4 HO5 b45 b35 b25 b15 HP HQ
  have HS : Hid (∀ x y u, ((x = v2 ∧ y = v1) ∨ (x = v4 ∧ y = v5)) → (∃ m, u = u5.drewN m) → Calls Tryd.prog 9 #[x, y] u fun e w' => e = .returned (.bool true) ∧ ∃ m, w' = u5.drewN m) := by
    rintro x y u hxy ⟨m, rfl⟩
    have kp : ∀ {v : Value} {zs : List Int}, View u5 v zs → View (u5.drewN m) v zs := fun hv => hv.kept (fun q hq => rfl)
    have fin : ∀ {zs : List Int}, View u5 x zs → View u5 y zs → Calls Tryd.prog 9 #[x, y] (u5.drewN m) fun e w' => e = .returned (.bool true) ∧ ∃ m, w' = u5.drewN m := fun {zs} h1 h2 => (same_any x y zs zs _ (kp h1) (kp h2)).mono (by
      rintro e w' ⟨rfl, m', rfl⟩
      exact ⟨by simp, m + m', by rw [World.drewN_drewN]⟩)
    rcases hxy with ⟨rfl, rfl⟩ | ⟨rfl, rfl⟩
    · exact fin (viewOwns HK.out.2.1 rfl) (viewOwns HK.out.1 rfl)
    · exact fin (viewOwns HK.out.2.2.2.1 rfl) (viewOwns HK.out.2.2.2.2 rfl)
  generalize packE c = E1
  generalize packE d = E2
  go_upto_region 8 with (first | (go_at_call 7; refine (num_ok _ _).mono ?_; rintro en wn ⟨rfl, hx⟩; obtain rfl := hx) | (go_at_call 9; refine (HS.out _ _ _ (by simp) ⟨0, rfl⟩).mono ?_; rintro es ws ⟨rfl, m1, rfl⟩) | (go_at_call 9; refine (HS.out _ _ _ (by simp) ⟨_, rfl⟩).mono ?_; rintro es ws ⟨rfl, m2, rfl⟩))
  have HSp : Hid (∀ m, Calls Tryd.prog 11 #[v2] (u5.drewN m) fun e w' => e = .returned (.tuple #[]) ∧ Hid (View w' v3 (packB c) ∧ View w' v1 (packB c) ∧ View w' v4 (packB d) ∧ View w' v5 (packB d) ∧ Below w.heap.size w w')) := fun m => by
    have kp : ∀ {B n : Nat} {v : Value} {xs : List Value}, u5.ownsRow B 5 1 v n xs → (u5.drewN m).ownsRow B 5 1 v n xs := fun h => own_keep h (fun q hq => rfl)
    have hsz : u1.heap.size ≤ (u5.drewN m).heap.size := HS5.out
    refine (spoil_any u1.heap.size (packB c).length v2 (packB c) _ (by have := packB_le c; omega) hsz (kp HK.out.2.1)).mono ?_
    rintro e w' ⟨rfl, hg⟩
    have hl := HL.out
    have far : ∀ {B n : Nat} {v : Value} {xs : List Value}, u5.ownsRow B 5 1 v n xs → (∀ g, v.ownBlock = some g → v2.ownBlock ≠ some g) → w'.ownsRow B 5 1 v n xs := fun h hn => own_far (kp h) hg hn
    refine ⟨rfl, viewOwns (far HK.out.2.2.1 ?_) rfl, viewOwns (far HK.out.1 ?_) rfl, viewOwns (far HK.out.2.2.2.1 ?_) rfl, viewOwns (far HK.out.2.2.2.2 ?_) rfl, ?_⟩
    · intro g h1 h2
      have := hl.2.2.1 g h2
      have := hl.2.2.2.1 g h1
      omega
    · intro g h1 h2
      have := hl.2.2.1 g h2
      have := hl.1 g h1
      omega
    · intro g h1 h2
      have := hl.2.2.1 g h2
      have := hl.2.2.2.2.1 g h1
      omega
    · intro g h1 h2
      have := hl.2.2.1 g h2
      have := hl.2.2.2.2.2 g h1
      omega
    · refine HB.out.1.trans ⟨hg.os, hg.tape, hg.output, hg.size, fun k hk => hg.block k ?_ ?_⟩
      · exact Nat.lt_of_lt_of_le hk HB.out.1.size
      · intro e
        have := hl.2.2.1 k e.symm
        have := HB.out.2
        omega
  clear HS
  go_upto_region 9 with (go_at_call 11; refine (HSp.out _).mono ?_; rintro e9 w9 ⟨rfl, HV⟩)
  have HS : Hid (∀ x y u, ((x = v3 ∧ y = v1) ∨ (x = v4 ∧ y = v5)) → (∃ m, u = w9.drewN m) → Calls Tryd.prog 9 #[x, y] u fun e w' => e = .returned (.bool true) ∧ ∃ m, w' = w9.drewN m) := by
    rintro x y u hxy ⟨m, rfl⟩
    have kp : ∀ {v : Value} {zs : List Int}, View w9 v zs → View (w9.drewN m) v zs := fun hv => hv.kept (fun q hq => rfl)
    have fin : ∀ {zs : List Int}, View w9 x zs → View w9 y zs → Calls Tryd.prog 9 #[x, y] (w9.drewN m) fun e w' => e = .returned (.bool true) ∧ ∃ m, w' = w9.drewN m := fun {zs} h1 h2 => (same_any x y zs zs _ (kp h1) (kp h2)).mono (by
      rintro e w' ⟨rfl, m', rfl⟩
      exact ⟨by simp, m + m', by rw [World.drewN_drewN]⟩)
    rcases hxy with ⟨rfl, rfl⟩ | ⟨rfl, rfl⟩
    · exact fin HV.out.1 HV.out.2.1
    · exact fin HV.out.2.2.1 HV.out.2.2.2.1
  go_wp2_with (first | (go_at_call 9; refine (HS.out _ _ _ (by simp) ⟨0, rfl⟩).mono ?_; rintro es ws ⟨rfl, m3, rfl⟩) | (go_at_call 9; refine (HS.out _ _ _ (by simp) ⟨_, rfl⟩).mono ?_; rintro es ws ⟨rfl, m4, rfl⟩))
  go_ret
  refine ⟨rfl, HV.out.2.2.2.2.trans ?_⟩
  exact ⟨rfl, rfl, rfl, Nat.le_refl _, fun _ _ => rfl⟩
end Go.Proofs.YtoanndhaopgkjaaDoor
namespace Go.Proofs.YtoanndhaopgkjaaDoor
open Go.Deep Go.ChangeShapes Go.WideShapes Go.ChangeAt Go.RowKit
set_option linter.unusedVariables false
set_option linter.unusedSimpArgs false
/-- A variable that is listed reads as its datum. -/
theorem laid_var {P : Program} {W : World} {laid : List (String × DataW Unit)} : ∀ {ps : List MemPlace}, DataW.LaidVars P W laid ps → ∀ n d, (n, d) ∈ laid → ∃ g t cs fuel p, P.globalNamed n = some g ∧ (P.globals[g]?).map (·.type) = some t ∧ W.var? P n = some cs ∧ DataW.trod (fun _ => ()) P W 0 (fun _ => true) false fuel t cs.toList = some (d, p) := by
  induction laid with
  | nil => intro ps h n d hm; cases hm
  | cons x r ih =>
    intro ps h n d hm
    obtain ⟨n', d'⟩ := x
    obtain ⟨g, t, cs, fuel, p, q, h1, h2, h3, h4, h5, _⟩ := h
    rcases List.mem_cons.1 hm with e | e
    · injection e with e1 e2
      subst e1 e2
      exact ⟨g, t, cs, fuel, p, h1, h2, h3, h4⟩
    · exact ih h5 n d e
theorem tab_at {W : World} {laid : List (String × DataW Unit)} (h : laidMet Tryd.prog laid W) (name : String) (zs : List Int) (g : Nat) (t : TypeId) (n : Nat) (hm : (name, Lib.tabData .u64 zs) ∈ laid) (hg : Tryd.prog.globalNamed name = some g) (hty : (Tryd.prog.globals[g]?).map (·.type) = some t) (ht : Tryd.prog.underlying t = some (.array n 22)) (hct : Tryd.prog.cellsOf t = n) : Lib.TabIs Tryd.prog W name .u64 zs := by
  obtain ⟨ps, hL, _⟩ := h
  obtain ⟨g', t', cs, fuel, p, hg', ht', hvar, hd⟩ := laid_var hL name _ hm
  obtain rfl := Option.some.inj (hg.symm.trans hg')
  obtain rfl := Option.some.inj (hty.symm.trans ht')
  unfold Lib.TabIs
  rw [hvar, ← Lib.cells_of_tab (n := n) (e := 22) ht (by kernel_rfl) (by kernel_rfl) hct hd]
theorem tables_of {W : World} {laid : List (String × DataW Unit)} (h : laidMet Tryd.prog laid W) (h1 : ("coffer/digest.roots", Lib.tabData .u64 rootsL) ∈ laid) (h2 : ("coffer/digest.cubes", Lib.tabData .u64 cubesL) ∈ laid) : Tables W := by
  have r := tab_at h "coffer/digest.roots" rootsL 4 87 16 h1 (by kernel_rfl) (by kernel_rfl) (by kernel_rfl) (by kernel_rfl)
  have c := tab_at h "coffer/digest.cubes" cubesL 7 90 80 h2 (by kernel_rfl) (by kernel_rfl) (by kernel_rfl) (by kernel_rfl)
  exact ⟨fun t ht => c.cell (by kernel_rfl) t (by simpa [cubesL] using ht), fun t ht => r.cell (by kernel_rfl) t (by simpa [rootsL] using ht)⟩
theorem rtab_of {W : World} {laid : List (String × DataW Unit)} (h : laidMet Tryd.prog laid W) (h1 : ("coffer/cofferref01.squares", Lib.tabData .u64 rootsL) ∈ laid) (h2 : ("coffer/cofferref01.cubes", Lib.tabData .u64 cubesL) ∈ laid) : RTab W := by
  have r := tab_at h "coffer/cofferref01.squares" rootsL 1 87 16 h1 (by kernel_rfl) (by kernel_rfl) (by kernel_rfl) (by kernel_rfl)
  have c := tab_at h "coffer/cofferref01.cubes" cubesL 2 90 80 h2 (by kernel_rfl) (by kernel_rfl) (by kernel_rfl) (by kernel_rfl)
  exact ⟨fun t ht => c.cell (by kernel_rfl) t (by simpa [cubesL] using ht), fun t ht => r.cell (by kernel_rfl) t (by simpa [rootsL] using ht)⟩
theorem cells61 : Tryd.prog.cellsOf 61 = 4 := by kernel_rfl
theorem cells62 : Tryd.prog.cellsOf 62 = 52 := by kernel_rfl
theorem cells3 : Tryd.prog.cellsOf 3 = 1 := by kernel_rfl
theorem cells4 : Tryd.prog.cellsOf 4 = 1 := by kernel_rfl
theorem cells5 : Tryd.prog.cellsOf 5 = 1 := by kernel_rfl
theorem cells9 : Tryd.prog.cellsOf 9 = 1 := by kernel_rfl
theorem cells22 : Tryd.prog.cellsOf 22 = 1 := by kernel_rfl
theorem cells24 : Tryd.prog.cellsOf 24 = 8 := by kernel_rfl
theorem cells26 : Tryd.prog.cellsOf 26 = 1 := by kernel_rfl
theorem list4 {α : Type} {cs : List α} (h : cs.length = 4) : ∃ c0 c1 c2 c3, cs = [c0, c1, c2, c3] := by
  match cs, h with
  | [c0, c1, c2, c3], _ => exact ⟨c0, c1, c2, c3, rfl⟩
theorem list8 {α : Type} {cs : List α} (h : cs.length = 8) : ∃ c0 c1 c2 c3 c4 c5 c6 c7, cs = [c0, c1, c2, c3, c4, c5, c6, c7] := by
  match cs, h with
  | [c0, c1, c2, c3, c4, c5, c6, c7], _ => exact ⟨c0, c1, c2, c3, c4, c5, c6, c7, rfl⟩
def fldD (k : Nat) : DataW Unit := .agg [.lit (.int .i64 (fldN k : Nat)), .lit (.int .i64 (fldA k : Nat)), .lit (.int .i64 (fldS k : Nat)), .lit (.int .i64 (fldE k : Nat))]
set_option maxRecDepth 100000 in
theorem fld_of {W : World} {n : Nat} {cs : List Value} {a b c d : Int} {p : List MemPlace} (h : DataW.trod (fun _ => ()) Tryd.prog W 0 (fun _ => true) false n 61 cs = some (.agg [.lit (.int .i64 a), .lit (.int .i64 b), .lit (.int .i64 c), .lit (.int .i64 d)], p)) : cs = [.int .i64 a, .int .i64 b, .int .i64 c, .int .i64 d] := by
  obtain ⟨xs, m, _, hx, hl, hlen, hfs⟩ := DataW.trod_struct Tryd.underlying61 h
  rw [cells61] at hl
  obtain ⟨c0, c1, c2, c3, rfl⟩ := list4 hl
  match xs, hlen with
  | [y0, y1, y2, y3], _ =>
    have h0 := hfs 0 _ rfl
    have h1 := hfs 1 _ rfl
    have h2 := hfs 2 _ rfl
    have h3 := hfs 3 _ rfl
    simp [cells3, cells26] at h0 h1 h2 h3
    obtain ⟨z0, e0, f0, _⟩ := DataW.trod_int Tryd.underlying3 h0
    obtain ⟨z1, e1, f1, _⟩ := DataW.trod_int Tryd.underlying3 h1
    obtain ⟨z2, e2, f2, _⟩ := DataW.trod_int Tryd.underlying3 h2
    obtain ⟨z3, e3, f3, _⟩ := DataW.trod_int Tryd.underlying26 h3
    subst f0 f1 f2 f3
    simp at hx e0 e1 e2 e3
    obtain ⟨⟨q0, q1, q2, q3⟩, _⟩ := hx
    rw [e0, e1, e2, e3, q0, q1, q2, q3]
theorem take_join (cs : List Value) (n : Nat) (h : cs.length = 4 * n) : cs = (List.range n).flatMap fun i => (cs.drop (i * 4)).take 4 := by
  induction n generalizing cs with
  | zero => simp at h; simp [h]
  | succ n ih =>
    rw [List.range_succ_eq_map, List.flatMap_cons, List.flatMap_map]
    have e : cs = cs.take 4 ++ cs.drop 4 := (List.take_append_drop 4 cs).symm
    have := ih (cs.drop 4) (by simp; omega)
    conv => lhs; rw [e, this]
    simp only [Nat.zero_mul, List.drop_zero]
    congr 1
    refine congrArg (fun f => List.flatMap f (List.range n)) (funext fun i => ?_)
    rw [List.drop_drop]
    congr 2
    omega
theorem fm_congr {α β : Type} (l : List α) (f g : α → List β) (h : ∀ i ∈ l, f i = g i) : l.flatMap f = l.flatMap g := by
  induction l with
  | nil => rfl
  | cons x r ih => rw [List.flatMap_cons, List.flatMap_cons, h x (by simp), ih (fun i hi => h i (by simp [hi]))]
theorem fldL_join : fldL = (List.range 13).flatMap fldV := by kernel_rfl
def fldsD : DataW Unit := .agg [fldD 0, fldD 1, fldD 2, fldD 3, fldD 4, fldD 5, fldD 6, fldD 7, fldD 8, fldD 9, fldD 10, fldD 11, fldD 12]
set_option maxRecDepth 100000 in
theorem fields_of {W : World} {laid : List (String × DataW Unit)} (h : laidMet Tryd.prog laid W) (hm : ("coffer/header.fields", fldsD) ∈ laid) : FT W := by
  obtain ⟨ps, hL, _⟩ := h
  obtain ⟨g', t', cs, fuel, p, hg', ht', hvar, hd⟩ := laid_var hL _ _ hm
  obtain rfl : (0 : Nat) = g' := Option.some.inj ((show Tryd.prog.globalNamed "coffer/header.fields" = some 0 by kernel_rfl).symm.trans hg')
  obtain rfl : (62 : TypeId) = t' := Option.some.inj ((show (Tryd.prog.globals[0]?).map (·.type) = some 62 by kernel_rfl).symm.trans ht')
  obtain ⟨xs, m, _, hx, hl, hlen, hfs⟩ := DataW.trod_array Tryd.underlying62 hd
  rw [cells62] at hl
  have hxs : xs.map (·.1) = [fldD 0, fldD 1, fldD 2, fldD 3, fldD 4, fldD 5, fldD 6, fldD 7, fldD 8, fldD 9, fldD 10, fldD 11, fldD 12] := by
    have := congrArg Prod.fst hx
    simp only [fldsD, DataW.agg.injEq] at this
    exact this.symm
  have hcs : cs.toList = fldL := by
    rw [take_join cs.toList 13 hl, fldL_join]
    refine fm_congr _ _ _ (fun i hi => ?_)
    have hi' : i < 13 := by simpa using hi
    have q := hfs i hi'
    rw [cells61] at q
    obtain ⟨y, hy⟩ : ∃ y, xs[i]? = some y := ⟨xs[i]'(by omega), List.getElem?_eq_getElem (by omega)⟩
    rw [hy] at q
    obtain ⟨d, pp⟩ := y
    have hd2 : d = fldD i := by
      have e : (xs.map (·.1))[i]? = some d := by rw [List.getElem?_map, hy]; rfl
      rw [hxs] at e
      match i, hi' with
      | 0, _ => exact (Option.some.inj e).symm
      | 1, _ => exact (Option.some.inj e).symm
      | 2, _ => exact (Option.some.inj e).symm
      | 3, _ => exact (Option.some.inj e).symm
      | 4, _ => exact (Option.some.inj e).symm
      | 5, _ => exact (Option.some.inj e).symm
      | 6, _ => exact (Option.some.inj e).symm
      | 7, _ => exact (Option.some.inj e).symm
      | 8, _ => exact (Option.some.inj e).symm
      | 9, _ => exact (Option.some.inj e).symm
      | 10, _ => exact (Option.some.inj e).symm
      | 11, _ => exact (Option.some.inj e).symm
      | 12, _ => exact (Option.some.inj e).symm
    subst hd2
    exact fld_of q
  intro j v hj
  have := World.var?_cell (P := Tryd.prog) (show Tryd.prog.globalNamed "coffer/header.fields" = some 0 by kernel_rfl) hvar j
  rw [Nat.zero_add, this, ← Array.getElem?_toList, hcs]
  exact hj
theorem u64_range {z : Int} (h : (Lit.int .u64 z).wf = true) : 0 ≤ z ∧ z ≤ 18446744073709551615 := by
  have q : IntKind.u64.min ≤ z ∧ z ≤ IntKind.u64.max := by simpa [Lit.wf] using h
  have e1 : IntKind.u64.min = 0 := by decide
  have e2 : IntKind.u64.max = 18446744073709551615 := by decide
  rw [e1, e2] at q
  exact q
theorem i64_range {z : Int} (h : (Lit.int .i64 z).wf = true) : -9223372036854775808 ≤ z ∧ z ≤ 9223372036854775807 := by
  have q : IntKind.i64.min ≤ z ∧ z ≤ IntKind.i64.max := by simpa [Lit.wf] using h
  have e1 : IntKind.i64.min = -9223372036854775808 := by decide
  have e2 : IntKind.i64.max = 9223372036854775807 := by decide
  rw [e1, e2] at q
  exact q
theorem cell_s {H : Type} {enc : TypeId × Value → H} {W : World} {n : Nat} {c : Value} {y : DataW H × List MemPlace} (h : DataW.trod enc Tryd.prog W 0 (fun _ => true) true n 9 [c] = some y) : ∃ z : ByteArray, c = .string z ∧ z.size ≤ maxLen := by
  obtain ⟨z, hz, _, hl⟩ := DataW.trod_string Tryd.underlying9 h
  exact ⟨z, by simpa using hz, hl⟩
set_option maxRecDepth 100000 in
/-- A HeadCopy that came in. -/
theorem open_copy {H : Type} {enc : TypeId × Value → H} {W : World} {r : Reach} {b0 : Nat} {v : Value} {d : DataW H} {p : List MemPlace} (hv : Value.okWide Tryd.prog W r b0 24 v) (h : DataW.Trod enc Tryd.prog W 0 (fun _ => true) true 24 v d p) :
    ∃ c : Hc, v = c.val ∧ Fit c ∧ Txt c := by
  obtain ⟨cs, rfl, hsz⟩ := okWide_struct Tryd.underlying24 hv
  rw [cells24] at hsz
  obtain ⟨l⟩ := cs
  obtain ⟨c0, c1, c2, c3, c4, c5, c6, c7, rfl⟩ := list8 (cs := l) (by simpa using hsz)
  obtain ⟨fuel, hf⟩ := h
  obtain ⟨xs, n, _, hx, _, hlen, hfs⟩ := DataW.trod_struct Tryd.underlying24 hf
  match xs, hlen with
  | [y0, y1, y2, y3, y4, y5, y6, y7], _ =>
    have h0 := hfs 0 _ rfl
    have h1 := hfs 1 _ rfl
    have h2 := hfs 2 _ rfl
    have h3 := hfs 3 _ rfl
    have h4 := hfs 4 _ rfl
    have h5 := hfs 5 _ rfl
    have h6 := hfs 6 _ rfl
    have h7 := hfs 7 _ rfl
    simp [Value.cells, cells3, cells4, cells9, cells22] at h0 h1 h2 h3 h4 h5 h6 h7
    obtain ⟨z0, e0, _⟩ := DataW.trod_bool Tryd.underlying4 h0
    obtain ⟨z1, e1, _, w1⟩ := DataW.trod_int Tryd.underlying3 h1
    obtain ⟨z2, e2, _, w2⟩ := DataW.trod_int Tryd.underlying22 h2
    obtain ⟨s3, rfl, l3⟩ := cell_s h3
    obtain ⟨s4, rfl, l4⟩ := cell_s h4
    obtain ⟨s5, rfl, l5⟩ := cell_s h5
    obtain ⟨s6, rfl, l6⟩ := cell_s h6
    obtain ⟨s7, rfl, l7⟩ := cell_s h7
    simp at e0 e1 e2
    subst e0 e1 e2
    have r1 := i64_range w1
    have r2 := u64_range w2
    exact ⟨⟨z0, z1, z2, s3, s4, s5, s6, s7⟩, rfl, ⟨r1.1, by show z1 < _; omega, r2.1, by show z2 < _; omega⟩, ⟨l3, l4, l5, l7⟩⟩
theorem eRoots : (Rows.laid_coffer_digest_roots : DataW Unit) = Lib.tabData .u64 rootsL := by kernel_rfl
theorem eCubes : (Rows.laid_coffer_digest_cubes : DataW Unit) = Lib.tabData .u64 cubesL := by kernel_rfl
theorem eRRoots : (Rows.laid_coffer_cofferref01_squares : DataW Unit) = Lib.tabData .u64 rootsL := by kernel_rfl
theorem eRCubes : (Rows.laid_coffer_cofferref01_cubes : DataW Unit) = Lib.tabData .u64 cubesL := by kernel_rfl
theorem eFields : (Rows.laid_coffer_header_fields : DataW Unit) = fldsD := by kernel_rfl
theorem own : ownKnob Tryd.prog.godebug = none := by kernel_rfl
theorem laidOut : laidOutB Tryd.prog = true := by kernel_rfl
def refilled2 (zs : List Int) : Obj → Obj
  | .cells _ t frozen => .cells (zs.map (Value.int .u64)).toArray t frozen
  | o => o
def refilledV (vs : List Value) : Obj → Obj
  | .cells _ t frozen => .cells vs.toArray t frozen
  | o => o
end Go.Proofs.YtoanndhaopgkjaaDoor
