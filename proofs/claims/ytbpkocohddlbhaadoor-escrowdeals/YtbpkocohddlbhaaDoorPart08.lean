import Derived.Test.YtbpkocohddlbhaaDoorPart01
import Derived.Test.YtbpkocohddlbhaaDoorPart00
import Derived.Deep.Cut
import Derived.Deep.CutBlock
import Derived.Test.YtbpkocohddlbhaaDoorPart02
import Derived.WalkMore
namespace Go.Proofs.YtbpkocohddlbhaaDoor
open Go.RowKit
set_option linter.unusedVariables false
set_option linter.unusedSimpArgs false
set_option maxRecDepth 100000
/-- What Solve says. -/
def SolQ (A : Nat → Nat → F) (R n M : Nat) (e : Ending) (w w' : World) : Prop :=
  ((∃ g c xs, e = .returned (.tuple #[.slice (some ⟨g, 0, none⟩) n c, .bool true]) ∧ xs.length = n ∧ Nz A R n (zOf xs) ∧ n ≤ c ∧ Rx w' g xs) ∨ ((∀ z, z n = 1 → ¬ Nz A R n z) ∧ e = .returned (.tuple #[.slice none 0 0, .bool false]))) ∧ Below M w w'
/-- What the loop over the columns keeps. -/
structure SoI (M B1 G R n : Nat) (A0 A : Nat → Nat → F) (c : Nat) (xv : Value) (gs cs : Nat → Nat) (w u : World) : Prop where
  mat : MatI M B1 G R n A gs cs u
  good : Good A0 A R n c
  own : u.ownsRow B1 5 1 xv c (fc (List.replicate c 0))
  bel : Below M w u
  sz : B1 ≤ u.heap.size
theorem below_row {M b : Nat} {w u : World} (h : Below M w u) (hM : M ≤ b) (k : Nat) (v : Value) : Below M w (u.setCell ⟨b, k, none⟩ v) := h.setCell hM v
theorem own_row {w : World} {B1 b k m : Nat} {xv x : Value} {l : List Value} (h : w.ownsRow B1 5 1 xv m l) (hb : b < B1) : (w.setCell ⟨b, k, none⟩ x).ownsRow B1 5 1 xv m l := by
  refine h.kept (set_gb w b k x) ?_
  cases q : xv.ownBlock with
  | none => exact Or.inl rfl
  | some g =>
    right
    intro e
    have := (h.lt g q).1
    injection e with e
    omega
theorem bel_size {M : Nat} {w u : World} (h : Below M w u) (hw : w.heap.size = M) : M ≤ u.heap.size := by rw [← hw]; exact h.size
theorem next64 (i n : Nat) (h : i < n) (hn : n ≤ 300) : IntKind.i64.wrap ((i : Int) + 1) = ((i + 1 : Nat) : Int) := by rw [IntKind.wrap_i64]; omega
theorem fc_rep (c : Nat) : fc (List.replicate (c + 1) 0) = fc (List.replicate c 0) ++ [.int .u8 0] := by
  rw [List.replicate_succ', fc_append]
  rfl
/-- What rides along: the list of zeros, and what lay there. -/
def OwS (B1 M m : Nat) (xv : Value) (w u : World) : Prop := u.ownsRow B1 5 1 xv m (fc (List.replicate m 0)) ∧ Below M w u ∧ B1 ≤ u.heap.size
theorem OwS.store {B1 M m : Nat} {xv : Value} {w u : World} (h : OwS B1 M m xv w u) {b : Nat} (hb : b < B1) (hM : M ≤ b) (k : Nat) (v : Value) : OwS B1 M m xv w (u.setCell ⟨b, k, none⟩ v) :=
  ⟨own_row h.1 hb, below_row h.2.1 hM k v, by rw [show (u.setCell ⟨b, k, none⟩ v).heap.size = u.heap.size by simp [World.setCell]]; exact h.2.2⟩
theorem OwS.drew {B1 M m : Nat} {xv : Value} {w u : World} (h : OwS B1 M m xv w u) : OwS B1 M m xv w u.drew := ⟨h.1, h.2.1.drew, h.2.2⟩
/-- A row that is scaled, a row that is taken away from, as far as column k. -/
def scP (A : Nat → Nat → F) (c : Nat) (b : F) (k : Nat) : Nat → Nat → F := rowU A c (fun k' => if k' < k then fm (A c k') b else A c k')
def elP (A : Nat → Nat → F) (i c k : Nat) : Nat → Nat → F := rowU A i (fun k' => if k' < k then fa (A i k') (fm (A i c) (A c k')) else A i k')
theorem scP_first (A : Nat → Nat → F) (c : Nat) (b : F) (i k : Nat) : A i k = scP A c b 0 i k := by
  unfold scP
  by_cases e : i = c
  · rw [e, rowU_at, if_neg (Nat.not_lt_zero k)]
  · rw [rowU_ne _ _ _ _ _ e]
theorem scP_at (A : Nat → Nat → F) (c : Nat) (b : F) (k : Nat) : scP A c b k c k = A c k := by unfold scP; rw [rowU_at, if_neg (Nat.lt_irrefl k)]
theorem scP_next (A : Nat → Nat → F) (c : Nat) (b : F) (k i q : Nat) : rowU (scP A c b k) c (fun k' => if k' = k then fm (A c k) b else scP A c b k c k') i q = scP A c b (k + 1) i q := by
  unfold scP
  by_cases e : i = c
  · subst e
    rw [rowU_at, rowU_at, rowU_at]
    by_cases h : q = k
    · subst h; rw [if_pos rfl, if_pos (by omega)]
    · rw [if_neg h]
      by_cases h2 : q < k
      · rw [if_pos h2, if_pos (by omega)]
      · rw [if_neg h2, if_neg (by omega)]
  · rw [rowU_ne _ _ _ _ _ e, rowU_ne _ _ _ _ _ e, rowU_ne _ _ _ _ _ e]
theorem scP_last (A : Nat → Nat → F) (c : Nat) (b : F) (n i k : Nat) (hk : k ≤ n) : scP A c b (n + 1) i k = scaleR A c b i k := by
  unfold scP scaleR
  by_cases e : i = c
  · subst e
    rw [rowU_at, rowU_at, if_pos (by omega)]
  · rw [rowU_ne _ _ _ _ _ e, rowU_ne _ _ _ _ _ e]
theorem elP_first (A : Nat → Nat → F) (i c j k : Nat) : A j k = elP A i c 0 j k := by
  unfold elP
  by_cases e : j = i
  · rw [e, rowU_at, if_neg (Nat.not_lt_zero k)]
  · rw [rowU_ne _ _ _ _ _ e]
theorem elP_at (A : Nat → Nat → F) (i c k : Nat) : elP A i c k i k = A i k := by unfold elP; rw [rowU_at, if_neg (Nat.lt_irrefl k)]
theorem elP_ne (A : Nat → Nat → F) (i c k q : Nat) (h : c ≠ i) : elP A i c k c q = A c q := rowU_ne _ _ _ _ _ h
theorem elP_next (A : Nat → Nat → F) (i c k j q : Nat) : rowU (elP A i c k) i (fun k' => if k' = k then fa (A i k) (fm (A i c) (A c k)) else elP A i c k i k') j q = elP A i c (k + 1) j q := by
  unfold elP
  by_cases e : j = i
  · subst e
    rw [rowU_at, rowU_at, rowU_at]
    by_cases h : q = k
    · subst h; rw [if_pos rfl, if_pos (by omega)]
    · rw [if_neg h]
      by_cases h2 : q < k
      · rw [if_pos h2, if_pos (by omega)]
      · rw [if_neg h2, if_neg (by omega)]
  · rw [rowU_ne _ _ _ _ _ e, rowU_ne _ _ _ _ _ e, rowU_ne _ _ _ _ _ e]
theorem elP_last (A : Nat → Nat → F) (i c n j k : Nat) (hk : k ≤ n) : elP A i c (n + 1) j k = elimR A i c j k := by
  unfold elP elimR
  by_cases e : j = i
  · subst e
    rw [rowU_at, rowU_at, if_pos (by omega)]
  · rw [rowU_ne _ _ _ _ _ e, rowU_ne _ _ _ _ _ e]
theorem cell_there {B B1 G R n : Nat} {A : Nat → Nat → F} {gs cs : Nat → Nat} {u : World} (h : MatI B B1 G R n A gs cs u) {a : Nat} (ha : a < R) (c : Nat) (x : Value) : ∃ y, (u.drew.setCell ⟨G, c, none⟩ x).cell? ⟨G, a, none⟩ = some y := by
  obtain ⟨sp, hs⟩ := h.top
  have q : Bx (u.drew.setCell ⟨G, c, none⟩ x) G 23 _ := Bx.set (w := u.drew) hs c x
  have hl : a < ((((List.range R).map (rowV n gs cs)) ++ sp).set c x).length := by simp; omega
  exact ⟨_, q.cell a _ (List.getElem?_eq_getElem hl)⟩
set_option maxHeartbeats 12800000 in
set_option maxRecDepth 100000 in
theorem solve_ok (G0 O R c0 n : Nat) (A0 : Nat → Nat → F) (w : World) (hR : 1 ≤ R) (hR2 : R ≤ 64) (hn : 1 ≤ n) (hnR : n ≤ R) (hc0 : R ≤ c0) (h : InM w G0 O R n A0) (hI : Ind A0 R n) : Calls Tryd.prog 47 #[.slice (some ⟨G0, O, none⟩) R c0] w fun e w' => SolQ A0 R n w.heap.size e w w' := by
  obtain ⟨M, HMM⟩ : ∃ M, Hid (w.heap.size = M) := ⟨_, rfl⟩
  have HN : Hid (1 ≤ R ∧ R ≤ 64 ∧ 1 ≤ n ∧ n ≤ R ∧ R ≤ c0 ∧ Ind A0 R n) := ⟨hR, hR2, hn, hnR, hc0, hI⟩
  have H49 : Hid (∀ (b : F) u, b ≠ 0 → Calls Tryd.prog 59 #[.int .u8 1, .int .u8 (b.1 : Nat)] u fun e w' => e = .returned (.int .u8 ((invF b).1 : Nat)) ∧ w' = u) := fun b u hb => over_ok b hb u
  have HCL : Hid (∀ (a b r : F) (u : World), fm a b = r → Calls Tryd.prog 28 #[.int .u8 (a.1 : Nat), .int .u8 (b.1 : Nat)] u fun e w' => e = .returned (.int .u8 (r.1 : Nat)) ∧ w' = u) := fun a b r u h => by rw [← h]; exact rtimesF a b u
  have HIN : Hid (InM w G0 O R n A0) := h
  obtain ⟨i0, hi, hz0, hz1, hz2⟩ := info_parts Tryd.infoB
  obtain ⟨i25, hi5, hz5, hz6, hz7⟩ := info_parts Tryd.info25q
  obtain ⟨b0, o0, k0, h1, h2, h3⟩ := h 0 (by omega)
  have hc : w.cell? ⟨G0, O, none⟩ = some (.slice (some ⟨b0, o0, none⟩) (n + 1) k0) := h1
  have g0 : (0 : Int) < (R : Int) := by omega
  have g1 : ((R : Int) == 0) = false := by rw [beq_eq_false_iff_ne]; omega
  have gR : ¬ R = 0 := by omega
  have w1' : IntKind.i64.wrap (((n + 1 : Nat) : Int) - 1) = (n : Int) := by rw [IntKind.wrap_i64]; omega
  have w2' : wrap64 ((n : Int) + 1 - 1) = (n : Int) := by unfold wrap64; omega
  have w3' : wrap64 (n : Int) = (n : Int) := by unfold wrap64; omega
  clear h h1 h2 h3 hR hR2 hn hnR hc0 hI
  go_enter Tryd.func47, Tryd.ntmps47
  go_upto_region 4 with fail
  rw [w3']
  clear hc w1' w2' w3' g0 g1
  go_wp2
  go_loopw [5, 6] (fun vr vi wr => ∃ (rv : Value) (i : Nat), vr = rv ∧ i ≤ R ∧ vi = .int .i64 (i : Nat) ∧ Hid (∃ gs cs, GlI M n i A0 gs cs rv wr ∧ Below M w wr)) (fun _ vi _ => R - (intOf vi).toNat)
  case atStart => exact ⟨_, 0, rfl, by omega, rfl, fun _ => 0, fun _ => 0, ⟨World.ownsRow_nil _ _ _ _, fun _ h => absurd h (by omega), fun _ _ h => absurd h (by omega)⟩, Below.refl _ _⟩
  case round =>
    obtain ⟨rv, i, hvs, hiR, rfl, HJ⟩ := hrel
    obtain rfl := hvs.symm
    by_cases hlt : i < R
    case pos =>
      obtain ⟨gs, cs, hG, hB⟩ := HJ.out
      have HJ2 : Hid (GlI M n i A0 gs cs rv wr ∧ Below M w wr ∧ M ≤ wr.heap.size) := ⟨hG, hB, bel_size hB HMM.out⟩
      have HK : Hid (i < R) := hlt
      have g2 : (i : Int) < (R : Int) := by omega
      obtain ⟨b, o, k, q1, q2, q3⟩ := HIN.out.below (u := w) (by rw [HMM.out]; exact hB) i hlt
      have HQ : Hid (n + 1 ≤ k ∧ Rw wr b o (rowL A0 n i)) := ⟨q2, q3⟩
      have q4 : (wr.alloc (.cells #[] 5)).cell? ⟨G0, O + i, none⟩ = some (.slice (some ⟨b, o, none⟩) (n + 1) k) := (((Below.refl wr.heap.size wr).alloc (Nat.le_refl _) _).cell (World.block_lt_of_cell? _ _ q1)).trans q1
      have wn := next64 i R hlt (by have := HN.out; omega)
      clear hG hB q2 q3 HJ hlt hiR
      have hbs := bs0 wr
      go_upto_region 7 with (first
        | (refine wpList_clone (by rfl) (.tmp 33) (.tmp 37) (by rfl) wr.heap.size (by rfl) (new_none wr) b o (n + 1) k (rowL A0 n i) (by rfl) (rowL_len _ _ _) (by omega) (by have := HN.out; omega) (HQ.out.2.below ((Below.refl _ _).alloc (Nat.le_refl _) _)) ?_; intro g c' w1 hc1 hg1 hr1 hb1; have HG : Hid (n + 1 ≤ c' ∧ wr.heap.size ≤ g ∧ Rx w1 g (rowL A0 n i) ∧ Below wr.heap.size wr w1) := ⟨hc1, hg1, hr1, Below.trans ((Below.refl _ _).alloc (Nat.le_refl _) _) hb1⟩; clear hc1 hg1 hr1 hb1)
        | (at_builtin; go_must (refine wpList_append_own _ rfl (.tmp 32) (.tmp 39) 73 rfl M 23 i25 (.slice none 0 0) 1 24 Tryd.und70 hi5 hz5 hz6 hz7 rfl (by decide) _ i _ rfl ((own_below HJ2.out.1.own HG.out.2.2.2).alloc _) ⟨w1.heap.size, 0, none⟩ 1 1 [.slice (some ⟨g, 0, none⟩) (n + 1) c'] rfl rfl (one_cell w1 _ 23) (by intro x hx; simp at hx; subst hx; rfl) (by have := HN.out; have := HK.out; unfold maxLen; omega) (by have := HN.out; have := HK.out; omega) (by have := HJ2.out.2.2; have := HG.out.2.2.2.size; simp; omega) ?_; intro v2 w5 hown hgrow hnil; have HX : Hid (GlI M n (i + 1) A0 (fun j => if j = i then g else gs j) (fun j => if j = i then c' else cs j) v2 w5 ∧ Below M w w5) := ⟨HJ2.out.1.more (HG.out.2.2.2.trans ((Below.refl _ w1).alloc HG.out.2.2.2.size _)) (HG.out.2.2.1.below ((Below.refl _ _).alloc (Nat.le_refl _) _)) HG.out.1 HG.out.2.1 HJ2.out.2.2 hown hgrow, ((HJ2.out.2.1.trans (HG.out.2.2.2.mono HJ2.out.2.2)).alloc (by have := HJ2.out.2.2; have := HG.out.2.2.2.size; omega) _).grown hgrow (by have := HJ2.out.2.2; have := HG.out.2.2.2.size; simp; omega) (fun q hq => (HJ2.out.1.own.lt q hq).1)⟩; clear hown hgrow hnil)))
      clear hbs
      go_wp2
      have e0 := HK.out
      refine ⟨⟨v2, i + 1, by rfl, by omega, by first | rfl | (simp; done), _, _, HX.out⟩, ?_⟩
      simp [intOf]
      omega
    case neg =>
      obtain rfl : R = i := by omega
      have g2 : ¬ (R : Int) < (R : Int) := Int.lt_irrefl _
      obtain ⟨gs, cs, hG, hB⟩ := HJ.out
      obtain ⟨G, cap, rfl, HMT⟩ := hG.mat HN.out.1
      obtain ⟨B1, HB1⟩ : ∃ b, Hid (wr.heap.size = b) := ⟨_, rfl⟩
      rw [HB1.out] at HMT
      have HS0 : Hid (∃ gs cs, SoI M B1 G R n A0 A0 0 (.slice none 0 0) gs cs w wr) := ⟨gs, cs, HMT.out.2, good_first _ _ _, World.ownsRow_nil _ _ _ _, hB, by rw [HB1.out]; exact Nat.le_refl _⟩
      have HCAP : Hid (R ≤ cap ∧ M ≤ B1) := ⟨HMT.out.1, by rw [← HB1.out]; exact bel_size hB HMM.out⟩
      clear hG hB HMT HJ hiR hlt
      go_wp2
      go_loopw [7, 8] (fun vx vc wq => ∃ (xv : Value) (c : Nat), vx = xv ∧ c ≤ n ∧ vc = .int .i64 (c : Nat) ∧ Hid (∃ A gs cs, SoI M B1 G R n A0 A c xv gs cs w wq)) (fun _ vc _ => n - (intOf vc).toNat)
      case atStart => exact ⟨_, 0, rfl, by omega, rfl, A0, HS0.out⟩
      case round =>
        obtain ⟨xv, c, hvs, hcn, rfl, HJ⟩ := hrel
        obtain rfl := hvs.symm
        clear HS0
        by_cases hlt : c < n
        case neg =>
          obtain rfl : n = c := by omega
          obtain ⟨A, gs, cs, hS⟩ := HJ.out
          have gnn : ¬ (n : Int) < (n : Int) := Int.lt_irrefl _
          obtain ⟨g, xc, rfl, HG⟩ := own_rx (l := List.replicate n 0) (by rw [List.length_replicate]; exact hS.own) (by rw [List.length_replicate]; exact HN.out.2.2.1)
          simp only [List.length_replicate]
          have HXC : Hid (n ≤ xc) := by
            rcases hS.own.2 with ⟨q, _⟩ | ⟨g', cap', cur, q, _, _, h3, _⟩
            · cases q
            · injection q with _ _ q2; show n ≤ xc; rw [q2]; exact h3
          have HS : Hid (MatI M B1 G R n A gs cs wr ∧ Good A0 A R n n ∧ Rx wr g (List.replicate n 0) ∧ B1 ≤ g ∧ Below M w wr) := ⟨hS.mat, hS.good, HG.out.1, HG.out.2, hS.bel⟩
          clear hS HJ HG hlt hcn
          go_wp2
          go_loopw [16] (fun vi wq => ∃ i : Nat, n ≤ i ∧ i ≤ R ∧ vi = .int .i64 (i : Nat) ∧ Hid (wq = wr ∧ ∀ j, n ≤ j → j < i → A j n = 0)) (fun vi _ => R - (intOf vi).toNat)
          case atStart => exact ⟨n, Nat.le_refl _, HN.out.2.2.2.1, rfl, rfl, fun j h1 h2 => absurd h1 (by omega)⟩
          case round =>
            obtain ⟨i, hni, hiR, rfl, HP⟩ := hrel
            have hWW := HP.out.1
            obtain rfl := hWW.symm
            clear hWW
            by_cases hlt : i < R
            case pos =>
              have HIR : Hid (i < R ∧ n ≤ i) := ⟨hlt, hni⟩
              have gi : (i : Int) < (R : Int) := by omega
              have gi0 : (0 : Int) ≤ (i : Int) := by omega
              have wn := next64 i R hlt (by have := HN.out; omega)
              have p0 := HS.out.1.ptr i hlt
              have p1 := HS.out.1.cell i n hlt (Nat.le_refl _)
              have gn2 : (n : Int) < (n : Int) + 1 := by omega
              have gn0 : (0 : Int) ≤ (n : Int) := by omega
              obtain ⟨z, HZ⟩ : ∃ z : F, Hid (A i n = z) := ⟨_, rfl⟩
              rw [HZ.out] at p1
              by_cases hz : z = 0
              case pos =>
                have e1 : ((((z).1 : Nat) : Int) != 0) = false := by rw [hz]; rfl
                have HNX : Hid (∀ j, n ≤ j → j < i + 1 → A j n = 0) := fun j h1 h2 => by
                  by_cases e : j = i
                  · rw [e, HZ.out]; exact hz
                  · exact HP.out.2 j h1 (by omega)
                clear hz hlt hni hiR HP
                go_wp2
                have e0 := HIR.out
                refine ⟨⟨i + 1, by omega, by omega, by first | rfl | (simp; done), by trivial, HNX.out⟩, ?_⟩
                simp [intOf]
                omega
              case neg =>
                have e1 : ((((z).1 : Nat) : Int) != 0) = true := by have := neF z 0; rw [decide_eq_false hz] at this; exact this
                have HQ : Hid (SolQ A0 R n M (.returned (.tuple #[.slice none 0 0, .bool false])) w wr) := by
                  refine ⟨Or.inr ⟨fun y hy hN => hz ?_, rfl⟩, HS.out.2.2.2.2⟩
                  rw [← HZ.out]
                  exact ((good_sol HS.out.2.1 HN.out.2.2.2.1 y hy).1 hN).1 i HIR.out.2 HIR.out.1
                clear hz hlt hni hiR HP
                go_wp2
                go_ret2
                rw [HMM.out]
                exact HQ.out
            case neg =>
            have gi : ¬ (i : Int) < (R : Int) := by omega
            have HZR : Hid (∀ j, n ≤ j → j < R → A j n = 0) := fun j h1 h2 => HP.out.2 j h1 (by omega)
            have HX0 : Hid (MatI M B1 G R n A gs cs wr ∧ Rx wr g ((List.range n).map (fun k => if k < 0 then A k n else 0)) ∧ Below M w wr) := by
              refine ⟨HS.out.1, ?_, HS.out.2.2.2.2⟩
              rw [show (List.range n).map (fun k => if k < 0 then A k n else (0 : F)) = List.replicate n 0 from list_same (by simp) (fun q hq => by
                rw [List.length_replicate] at hq
                simp [List.getD_eq_getElem?_getD, List.getElem?_map, List.getElem?_range hq, List.getElem?_replicate, hq])]
              exact HS.out.2.2.1
            clear HP hlt hni hiR
            go_wp2
            go_loopw [17] (fun vq wq => ∃ q : Nat, q ≤ n ∧ vq = .int .i64 (q : Nat) ∧ Hid (MatI M B1 G R n A gs cs wq ∧ Rx wq g ((List.range n).map (fun k => if k < q then A k n else 0)) ∧ Below M w wq)) (fun vq _ => n - (intOf vq).toNat)
            case atStart => exact ⟨0, by omega, rfl, HX0.out⟩
            case round =>
              obtain ⟨q, hq, rfl, HX⟩ := hrel
              clear HX0
              have hlen : ((List.range n).map (fun k => if k < q then A k n else (0 : F))).length = n := by simp
              by_cases hlt : q < n
              case pos =>
                have HQN : Hid (q < n ∧ q < R) := ⟨hlt, by have := HN.out; omega⟩
                have gq : (q : Int) < (n : Int) := by omega
                have gq2 : (q : Int) < (R : Int) := by have := HQN.out; omega
                have gq0 : (0 : Int) ≤ (q : Int) := by omega
                have wn := next64 q n hlt (by have := HN.out; omega)
                have p0 := HX.out.1.ptr q HQN.out.2
                have p1 := HX.out.1.cell q n HQN.out.2 (Nat.le_refl _)
                have p2 := HX.out.2.1.cell q (by rw [hlen]; exact hlt)
                have p3 := HX.out.2.1.frozen q
                have gn2 : (n : Int) < (n : Int) + 1 := by omega
                have gn0 : (0 : Int) ≤ (n : Int) := by omega
                obtain ⟨z, HZ⟩ : ∃ z : F, Hid (A q n = z) := ⟨_, rfl⟩
                rw [HZ.out] at p1
                generalize ((List.range n).map (fun k => if k < q then A k n else (0 : F))).getD q 0 = x9 at p2
                have HNX : Hid (MatI M B1 G R n A gs cs (wr.setCell ⟨g, q, none⟩ (.int .u8 ((z).1 : Nat))) ∧ Rx (wr.setCell ⟨g, q, none⟩ (.int .u8 ((z).1 : Nat))) g ((List.range n).map (fun k => if k < q + 1 then A k n else 0)) ∧ Below M w (wr.setCell ⟨g, q, none⟩ (.int .u8 ((z).1 : Nat)))) := by
                  have hb : Below B1 wr (wr.setCell ⟨g, q, none⟩ (.int .u8 ((z).1 : Nat))) := (Below.refl B1 wr).setCell HS.out.2.2.2.1 _
                  refine ⟨HX.out.1.far hb, ?_, HX.out.2.2.trans (hb.mono HCAP.out.2)⟩
                  have hs := HX.out.2.1.set q (by rw [hlen]; exact HQN.out.1) z
                  rw [show ((List.range n).map (fun k => if k < q then A k n else (0 : F))).set q z = (List.range n).map (fun k => if k < q + 1 then A k n else 0) from list_same (by simp) (fun j hj => by
                    have hjn : j < n := by simpa using hj
                    rw [set_getD _ q j z (by rw [hlen]; exact HQN.out.1)]
                    simp only [List.getD_eq_getElem?_getD, List.getElem?_map, List.getElem?_range hjn, Option.map_some, Option.getD_some]
                    by_cases e : j = q
                    · rw [if_pos e, e, if_pos (by omega), HZ.out]
                    · rw [if_neg e]
                      by_cases e2 : j < q
                      · rw [if_pos e2, if_pos (by omega)]
                      · rw [if_neg e2, if_neg (by omega)])] at hs
                  exact hs
                clear hlt hq hlen
                go_wp2
                have e0 := HQN.out
                refine ⟨⟨q + 1, by omega, by first | rfl | (simp; done), HNX.out⟩, ?_⟩
                simp [intOf]
                omega
              case neg =>
                have gq : ¬ (q : Int) < (n : Int) := by omega
                have HQ : Hid (SolQ A0 R n M (.returned (.tuple #[.slice (some ⟨g, 0, none⟩) n xc, .bool true])) w wr) := by
                  refine ⟨Or.inl ⟨g, xc, (List.range n).map (fun k => if k < q then A k n else 0), rfl, hlen, ?_, HXC.out, HX.out.2.1⟩, HX.out.2.2⟩
                  refine (good_sol HS.out.2.1 HN.out.2.2.2.1 _ (zOf_n _ n hlen)).2 ⟨HZR.out, fun j hj => ?_⟩
                  rw [zOf_lt _ j (by rw [hlen]; exact hj)]
                  simp only [List.getD_eq_getElem?_getD, List.getElem?_map, List.getElem?_range hj, Option.map_some, Option.getD_some]
                  rw [if_pos (by omega)]
                clear hlt hq hlen HX
                go_wp2
                go_ret2
                rw [HMM.out]
                exact HQ.out
        case pos =>
        obtain ⟨A, gs, cs, hS⟩ := HJ.out
        have HK : Hid (c < n) := hlt
        have HKR : Hid (c < R) := by have := HN.out; show c < R; omega
        have g2 : (c : Int) < (n : Int) := by omega
        have gcR : (c : Int) < (R : Int) := by have := HKR.out; omega
        have gcc : (0 : Int) ≤ (c : Int) := by omega
        have HS : Hid (SoI M B1 G R n A0 A c xv gs cs w wr) := hS
        have wnc := next64 c n hlt (by have := HN.out; omega)
        have HWC : Hid (IntKind.i64.wrap ((c : Int) + 1) = ((c + 1 : Nat) : Int)) := wnc
        clear hS HJ hlt hcn wnc
        go_upto_region 14 with (first
          | (at_builtin; go_must (refine wpList_append_own _ rfl (.tmp 46) (.tmp 47) 23 rfl B1 5 i0 (.int .u8 0) 1 1 Tryd.underlying23 hi hz0 hz1 hz2 rfl (by decide) _ c _ rfl (HS.out.own.alloc _) ⟨wr.heap.size, 0, none⟩ 1 1 [.int .u8 0] rfl rfl (one_cell wr _ 5) (one_u8 _) (by have := HN.out; have := HK.out; unfold maxLen; omega) (by have := HN.out; have := HK.out; omega) (by have := HS.out.sz; simp; omega) ?_; intro v2 w5 hown hgrow hnil; have HX : Hid (w5.ownsRow B1 5 1 v2 (c + 1) (fc (List.replicate (c + 1) 0)) ∧ Below B1 wr w5) := ⟨by rw [fc_rep]; exact hown, ((Below.refl B1 wr).alloc HS.out.sz _).grown hgrow (by have := HS.out.sz; simp; omega) (fun q hq => (HS.out.own.lt q hq).1)⟩; clear hown hgrow hnil)))
        have HS1 : Hid (MatI M B1 G R n A gs cs w5 ∧ Good A0 A R n c ∧ w5.ownsRow B1 5 1 v2 (c + 1) (fc (List.replicate (c + 1) 0)) ∧ Below M w w5 ∧ B1 ≤ w5.heap.size) := ⟨HS.out.mat.far HX.out.2, HS.out.good, HX.out.1, HS.out.bel.trans (HX.out.2.mono HCAP.out.2), Nat.le_trans HS.out.sz HX.out.2.size⟩
        clear HS HX
        go_upto_block 4 with fail
        go_cut [9, 10] from 50 to 68 (fun va vi wq => ∃ a i : Nat, va = .int .i64 (a : Nat) ∧ vi = .int .i64 (i : Nat) ∧ Hid (wq = w5 ∧ c ≤ a ∧ a < R ∧ A a c ≠ 0))
        case first =>
         go_wp2_with fail
         go_loopw [9, 10] (fun va vi wq => ∃ (x : Int) (i : Nat), va = .int .i64 x ∧ vi = .int .i64 (i : Nat) ∧ c ≤ i ∧ i ≤ R ∧ Hid (wq = w5 ∧ (x = -1 ∧ (∀ j, c ≤ j → j < i → A j c = 0) ∨ ∃ a : Nat, x = (a : Nat) ∧ c ≤ a ∧ a < R ∧ A a c ≠ 0))) (fun _ vi _ => R - (intOf vi).toNat)
         case atStart => exact ⟨-1, c, rfl, rfl, Nat.le_refl _, Nat.le_of_lt HKR.out, rfl, Or.inl ⟨rfl, fun j h1 h2 => absurd h1 (by omega)⟩⟩
         case round =>
           obtain ⟨x, i, rfl, rfl, hci, hiR, HP⟩ := hrel
           have hWW := HP.out.1
           obtain rfl := hWW.symm
           clear hWW
           rcases HP.out.2 with ⟨hx, hno⟩ | ⟨a, hx, ha1, ha2, ha3⟩
           · subst hx
             by_cases hlt : i < R
             case neg =>
               exfalso
               exact good_pivot HN.out.2.2.2.2.2 HS1.out.2.1 HK.out HKR.out (fun j h1 h2 => hno j h1 (by omega))
             case pos =>
             have HLT : Hid (c ≤ i ∧ i < R) := ⟨hci, hlt⟩
             have g3 : (i : Int) < (R : Int) := by omega
             have p0 := HS1.out.1.ptr i hlt
             have p1 := HS1.out.1.cell i c hlt (Nat.le_of_lt HK.out)
             have wn := next64 i R hlt (by have := HN.out; omega)
             have gn1 : (c : Int) < ((n + 1 : Nat) : Int) := by have := HK.out; omega
             have gn2 : (c : Int) < (n : Int) + 1 := by omega
             obtain ⟨z, HZ⟩ : ∃ z : F, Hid (A i c = z) := ⟨_, rfl⟩
             rw [HZ.out] at p1
             by_cases hz : z = 0
             · have HNX : Hid (∀ j, c ≤ j → j < i + 1 → A j c = 0) := fun j h1 h2 => by
                 by_cases e : j = i
                 · rw [e, HZ.out]; exact hz
                 · exact hno j h1 (by omega)
               have e1 : ((((z).1 : Nat) : Int) != 0) = false := by rw [hz]; rfl
               clear hz hno hlt hci hiR HP
               go_wp2
               have e0 := HLT.out
               refine ⟨⟨-1, i + 1, by rfl, by first | rfl | (simp; done), by omega, by omega, by trivial, Or.inl ⟨rfl, HNX.out⟩⟩, ?_⟩
               simp [intOf]
               omega
             · have e1 : ((((z).1 : Nat) : Int) != 0) = true := by have := neF z 0; rw [decide_eq_false hz] at this; exact this
               have HZ2 : Hid (A i c ≠ 0) := by show _ ≠ _; rw [HZ.out]; exact hz
               clear hz hno hlt hci hiR HP
               go_wp2
               have e0 := HLT.out
               refine ⟨⟨(i : Nat), i + 1, by rfl, by first | rfl | (simp; done), by omega, by omega, by trivial, Or.inr ⟨i, rfl, e0.1, e0.2, HZ2.out⟩⟩, ?_⟩
               simp [intOf]
               omega
           · subst hx
             have HA : Hid (c ≤ a ∧ a < R ∧ A a c ≠ 0) := ⟨ha1, ha2, ha3⟩
             have ga : ¬ (a : Int) < 0 := by omega
             have ga2 : (0 : Int) ≤ (a : Int) := by omega
             have gaR : (a : Int) < (R : Int) := by omega
             clear ha1 ha2 ha3 HP
             by_cases hb : i < R
             · have gb : (i : Int) < (R : Int) := by omega
               go_wp2
               go_meet
               exact ⟨a, i, rfl, rfl, rfl, HA.out⟩
             · have gb : ¬ (i : Int) < (R : Int) := by omega
               go_wp2
               go_meet
               exact ⟨a, i, rfl, rfl, rfl, HA.out⟩
        case rest =>
        obtain ⟨a, i9, rfl, rfl, HC3⟩ := hcut
        obtain rfl := HC3.out.1.symm
        have HA : Hid (c ≤ a ∧ a < R ∧ A a c ≠ 0) := HC3.out.2
        clear HC3
        have ga : ¬ (a : Int) < 0 := by omega
        have ga2 : (0 : Int) ≤ (a : Int) := by omega
        have gaR : (a : Int) < (R : Int) := by have := HA.out; omega
        go_upto_region 22 with fail
        go_cut [8] from 71 to 84 (fun v8 wq => v8 = .int .i64 (c : Nat) ∧ Hid (∃ gs cs, MatI M B1 G R n (swapR A c a) gs cs wq ∧ OwS B1 M (c + 1) v2 w wq))
        case first =>
          have hq1 : w5.drew.cell? ⟨G, a, none⟩ = some (.slice (some ⟨gs a, 0, none⟩) (n + 1) (cs a)) := HS1.out.1.ptr a HA.out.2.1
          have hq2 : w5.drew.cell? ⟨G, c, none⟩ = some (.slice (some ⟨gs c, 0, none⟩) (n + 1) (cs c)) := HS1.out.1.ptr c HKR.out
          have f1 : w5.drew.frozen? ⟨G, c, none⟩ = false := HS1.out.1.frG c
          have HW : Hid (∃ gs' cs', MatI M B1 G R n (swapR A c a) gs' cs' (((w5.drew).setCell ⟨G, c, none⟩ (.slice (some ⟨gs a, 0, none⟩) (n + 1) (cs a))).setCell ⟨G, a, none⟩ (.slice (some ⟨gs c, 0, none⟩) (n + 1) (cs c))) ∧ OwS B1 M (c + 1) v2 w (((w5.drew).setCell ⟨G, c, none⟩ (.slice (some ⟨gs a, 0, none⟩) (n + 1) (cs a))).setCell ⟨G, a, none⟩ (.slice (some ⟨gs c, 0, none⟩) (n + 1) (cs c)))) := by
            have hm : MatI M B1 G R n A gs cs w5.drew := HS1.out.1.drew
            have ho : OwS B1 M (c + 1) v2 w w5.drew := OwS.drew HS1.out.2.2
            exact ⟨_, _, hm.swap c a HKR.out HA.out.2.1, (ho.store HS1.out.1.glo.2 HS1.out.1.glo.1 _ _).store HS1.out.1.glo.2 HS1.out.1.glo.1 _ _⟩
          have HX2 : Hid ((∃ x, (w5.drew.setCell ⟨G, c, none⟩ (.slice (some ⟨gs a, 0, none⟩) (n + 1) (cs a))).cell? ⟨G, a, none⟩ = some x) ∧ (w5.drew.setCell ⟨G, c, none⟩ (.slice (some ⟨gs a, 0, none⟩) (n + 1) (cs a))).frozen? ⟨G, a, none⟩ = false) := by
            refine ⟨cell_there HS1.out.1 HA.out.2.1 c _, ?_⟩
            obtain ⟨sp, hs⟩ := HS1.out.1.top
            exact (Bx.set (w := w5.drew) hs c _).frozen a
          refine wp_region_noPanic ?_
          refine wp_region_held_drew (S := fun _ => True) (by kernel_rfl) trivial (fun _ => ?_)
          refine takeH_at 0 71 (.slice (some ⟨G, 0, none⟩) R cap) rfl rfl (by kernel_rfl) (by kernel_rfl) (by kernel_rfl) (fun _ _ _ h => h) (trivial) (Or.inl ⟨by kernel_rfl, fun w' hS' => by go_simp⟩) ?_
          simp only [List.setIfInBounds_toArray, List.set_cons_zero, List.set_cons_succ]
          refine takeH_at 1 72 (.int .i64 (c : Nat)) rfl rfl (by kernel_rfl) (by kernel_rfl) (by kernel_rfl) (fun _ _ _ h => h) (trivial) (Or.inl ⟨by kernel_rfl, fun w' hS' => by go_simp⟩) ?_
          simp only [List.setIfInBounds_toArray, List.set_cons_zero, List.set_cons_succ]
          refine takeH_at 2 73 (.slice (some ⟨G, 0, none⟩) R cap) rfl rfl (by kernel_rfl) (by kernel_rfl) (by kernel_rfl) (fun _ _ _ h => h) (trivial) (Or.inl ⟨by kernel_rfl, fun w' hS' => by go_simp⟩) ?_
          simp only [List.setIfInBounds_toArray, List.set_cons_zero, List.set_cons_succ]
          refine takeH_at 3 74 (.int .i64 (a : Nat)) rfl rfl (by kernel_rfl) (by kernel_rfl) (by kernel_rfl) (fun _ _ _ h => h) (trivial) (Or.inl ⟨by kernel_rfl, fun w' hS' => by go_simp⟩) ?_
          simp only [List.setIfInBounds_toArray, List.set_cons_zero, List.set_cons_succ]
          refine takeH_at 4 75 (.slice (some ⟨G, 0, none⟩) R cap) rfl rfl (by kernel_rfl) (by kernel_rfl) (by kernel_rfl) (fun _ _ _ h => h) (trivial) (Or.inl ⟨by kernel_rfl, fun w' hS' => by go_simp⟩) ?_
          simp only [List.setIfInBounds_toArray, List.set_cons_zero, List.set_cons_succ]
          refine takeH_at 5 76 (.int .i64 (a : Nat)) rfl rfl (by kernel_rfl) (by kernel_rfl) (by kernel_rfl) (fun _ _ _ h => h) (trivial) (Or.inl ⟨by kernel_rfl, fun w' hS' => by go_simp⟩) ?_
          simp only [List.setIfInBounds_toArray, List.set_cons_zero, List.set_cons_succ]
          refine takeH_at 8 79 (.slice (some ⟨G, 0, none⟩) R cap) rfl rfl (by kernel_rfl) (by kernel_rfl) (by kernel_rfl) (fun _ _ _ h => h) (trivial) (Or.inl ⟨by kernel_rfl, fun w' hS' => by go_simp⟩) ?_
          simp only [List.setIfInBounds_toArray, List.set_cons_zero, List.set_cons_succ]
          refine takeH_at 9 80 (.int .i64 (c : Nat)) rfl rfl (by kernel_rfl) (by kernel_rfl) (by kernel_rfl) (fun _ _ _ h => h) (trivial) (Or.inl ⟨by kernel_rfl, fun w' hS' => by go_simp⟩) ?_
          simp only [List.setIfInBounds_toArray, List.set_cons_zero, List.set_cons_succ]
          refine takeH_at 6 77 (.pointer (some ⟨G, a, none⟩)) rfl rfl (by kernel_rfl) (by kernel_rfl) (by kernel_rfl) (fun _ _ _ h => h) (trivial) (Or.inl ⟨by kernel_rfl, fun w' hS' => by go_simp⟩) ?_
          simp only [List.setIfInBounds_toArray, List.set_cons_zero, List.set_cons_succ]
          refine takeH_at 10 81 (.pointer (some ⟨G, c, none⟩)) rfl rfl (by kernel_rfl) (by kernel_rfl) (by kernel_rfl) (fun _ _ _ h => h) (trivial) (Or.inl ⟨by kernel_rfl, fun w' hS' => by go_simp⟩) ?_
          simp only [List.setIfInBounds_toArray, List.set_cons_zero, List.set_cons_succ]
          refine wpAnyH_ready (rs := [7, 11]) (by kernel_rfl) (by simp) ?_
          refine AllReadyH.cons rfl (fun Kx hK => ?_) (AllReadyH.cons rfl (fun Kx hK => ?_) AllReadyH.nil)
          · skip
            go_simp
            refine hK.out _ _ trivial (fun _ => ?_)
            clear hK Kx
            try simp only [Act.put, List.setIfInBounds_toArray, List.set_cons_zero, List.set_cons_succ]
            refine wpAnyH_ready (rs := [11]) (by kernel_rfl) (by simp) ?_
            refine AllReadyH.cons rfl (fun Kx hK => ?_) AllReadyH.nil
            go_simp
            refine hK.out _ _ trivial (fun _ => ?_)
            clear hK Kx
            try simp only [Act.put, List.setIfInBounds_toArray, List.set_cons_zero, List.set_cons_succ]
            refine wpAnyH_ready (rs := [12]) (by kernel_rfl) (by simp) ?_
            refine AllReadyH.cons rfl (fun Kx hK => ?_) AllReadyH.nil
            go_simp
            refine hK.out _ _ trivial (fun _ => ?_)
            clear hK Kx
            try simp only [Act.put, List.setIfInBounds_toArray, List.set_cons_zero, List.set_cons_succ]
            refine wpAnyH_ready (rs := [13]) (by kernel_rfl) (by simp) ?_
            refine AllReadyH.cons rfl (fun Kx hK => ?_) AllReadyH.nil
            go_simp
            refine hK.out _ _ trivial (fun _ => ?_)
            clear hK Kx
            try simp only [Act.put, List.setIfInBounds_toArray, List.set_cons_zero, List.set_cons_succ]
            have hx0 := HX2.out.1
            obtain ⟨x9, hx9⟩ := hx0
            have hx8 : (w5.setCell ⟨G, c, none⟩ (.slice (some ⟨gs a, 0, none⟩) (n + 1) (cs a))).cell? ⟨G, a, none⟩ = some x9 := hx9
            have hf8 : (w5.setCell ⟨G, c, none⟩ (.slice (some ⟨gs a, 0, none⟩) (n + 1) (cs a))).frozen? ⟨G, a, none⟩ = false := HX2.out.2
            refine wpAnyH_ready (rs := [14]) (by kernel_rfl) (by simp) ?_
            refine AllReadyH.cons rfl (fun Kx hK => ?_) AllReadyH.nil
            go_simp
            refine hK.out _ _ trivial (fun _ => ?_)
            clear hK Kx
            try simp only [Act.put, List.setIfInBounds_toArray, List.set_cons_zero, List.set_cons_succ]
            refine wpAnyH_ready (rs := [15]) (by kernel_rfl) (by simp) ?_
            refine AllReadyH.cons rfl (fun Kx hK => ?_) AllReadyH.nil
            go_simp
            refine hK.out _ _ trivial (fun _ => ?_)
            clear hK Kx
            try simp only [Act.put, List.setIfInBounds_toArray, List.set_cons_zero, List.set_cons_succ]
            refine wpAnyH_done (by kernel_rfl) ?_ _
            refine NoPanic.normal ?_
            go_wp2_with fail
            go_meet
            exact ⟨rfl, HW.out⟩
          · skip
            go_simp
            refine hK.out _ _ trivial (fun _ => ?_)
            clear hK Kx
            try simp only [Act.put, List.setIfInBounds_toArray, List.set_cons_zero, List.set_cons_succ]
            refine wpAnyH_ready (rs := [7]) (by kernel_rfl) (by simp) ?_
            refine AllReadyH.cons rfl (fun Kx hK => ?_) AllReadyH.nil
            go_simp
            refine hK.out _ _ trivial (fun _ => ?_)
            clear hK Kx
            try simp only [Act.put, List.setIfInBounds_toArray, List.set_cons_zero, List.set_cons_succ]
            refine wpAnyH_ready (rs := [12]) (by kernel_rfl) (by simp) ?_
            refine AllReadyH.cons rfl (fun Kx hK => ?_) AllReadyH.nil
            go_simp
            refine hK.out _ _ trivial (fun _ => ?_)
            clear hK Kx
            try simp only [Act.put, List.setIfInBounds_toArray, List.set_cons_zero, List.set_cons_succ]
            refine wpAnyH_ready (rs := [13]) (by kernel_rfl) (by simp) ?_
            refine AllReadyH.cons rfl (fun Kx hK => ?_) AllReadyH.nil
            go_simp
            refine hK.out _ _ trivial (fun _ => ?_)
            clear hK Kx
            try simp only [Act.put, List.setIfInBounds_toArray, List.set_cons_zero, List.set_cons_succ]
            have hx0 := HX2.out.1
            obtain ⟨x9, hx9⟩ := hx0
            have hx8 : (w5.setCell ⟨G, c, none⟩ (.slice (some ⟨gs a, 0, none⟩) (n + 1) (cs a))).cell? ⟨G, a, none⟩ = some x9 := hx9
            have hf8 : (w5.setCell ⟨G, c, none⟩ (.slice (some ⟨gs a, 0, none⟩) (n + 1) (cs a))).frozen? ⟨G, a, none⟩ = false := HX2.out.2
            refine wpAnyH_ready (rs := [14]) (by kernel_rfl) (by simp) ?_
            refine AllReadyH.cons rfl (fun Kx hK => ?_) AllReadyH.nil
            go_simp
            refine hK.out _ _ trivial (fun _ => ?_)
            clear hK Kx
            try simp only [Act.put, List.setIfInBounds_toArray, List.set_cons_zero, List.set_cons_succ]
            refine wpAnyH_ready (rs := [15]) (by kernel_rfl) (by simp) ?_
            refine AllReadyH.cons rfl (fun Kx hK => ?_) AllReadyH.nil
            go_simp
            refine hK.out _ _ trivial (fun _ => ?_)
            clear hK Kx
            try simp only [Act.put, List.setIfInBounds_toArray, List.set_cons_zero, List.set_cons_succ]
            refine wpAnyH_done (by kernel_rfl) ?_ _
            refine NoPanic.normal ?_
            go_wp2_with fail
            go_meet
            exact ⟨rfl, HW.out⟩
        case rest =>
        obtain ⟨rfl, HC⟩ := hcut
        obtain ⟨gs, cs, hm, ho⟩ := HC.out
        obtain ⟨A1, HA1⟩ : ∃ A1, Hid (swapR A c a = A1) := ⟨_, rfl⟩
        rw [HA1.out] at hm
        have HG1 : Hid (Good A0 A1 R n c ∧ A1 c c ≠ 0) := by
          rw [← HA1.out]
          refine ⟨good_swap HS1.out.2.1 HKR.out HA.out.2.1 HA.out.1, ?_⟩
          show A (if c = c then a else _) c ≠ 0
          rw [if_pos rfl]
          exact HA.out.2.2
        have HM1 : Hid (MatI M B1 G R n A1 gs cs wc ∧ OwS B1 M (c + 1) v2 w wc) := ⟨hm, ho⟩
        clear hm ho HC HS1 HA HA1 ga ga2 gaR
        have p0 := HM1.out.1.ptr c HKR.out
        have p1 := HM1.out.1.cell c c HKR.out (Nat.le_of_lt HK.out)
        obtain ⟨z, HZ⟩ : ∃ z : F, Hid (A1 c c = z) := ⟨_, rfl⟩
        obtain ⟨bb, HBB⟩ : ∃ q : F, Hid (invF z = q) := ⟨_, rfl⟩
        have HZB : Hid (z ≠ 0 ∧ fm z bb = 1 ∧ bb ≠ 0) := by
          have hz : z ≠ 0 := by rw [← HZ.out]; exact HG1.out.2
          have h1 : fm z bb = 1 := by rw [← HBB.out]; exact invF_mul z hz
          exact ⟨hz, h1, fun e => by rw [e, fm_zero] at h1; exact one_ne h1.symm⟩
        rw [HZ.out] at p1
        have gn2 : (c : Int) < (n : Int) + 1 := by omega
        go_upto_region 24 with (first
          | (go_at_call 59; refine (H49.out z _ HZB.out.1).mono ?_; rintro e1 w1 ⟨rfl, hw⟩; obtain rfl := hw.symm; clear hw; rw [HBB.out]))
        clear p0 p1
        go_wp2
        go_loopw [12] (fun vk wq => ∃ k : Nat, k ≤ n + 1 ∧ vk = .int .i64 (k : Nat) ∧ Hid (MatI M B1 G R n (scP A1 c bb k) gs cs wq ∧ OwS B1 M (c + 1) v2 w wq)) (fun vk _ => n + 1 - (intOf vk).toNat)
        case atStart => exact ⟨0, by omega, rfl, HM1.out.1.congr (fun i k _ _ => scP_first A1 c bb i k), HM1.out.2⟩
        case round =>
          obtain ⟨k, hk, rfl, HM⟩ := hrel
          clear HM1
          by_cases hlt : k ≤ n
          case pos =>
            have HKN : Hid (k ≤ n) := hlt
            have gk : (k : Int) ≤ (n : Int) := by omega
            have gk2 : (k : Int) < (n : Int) + 1 := by omega
            have gk0 : (0 : Int) ≤ (k : Int) := by omega
            have wn := next64 k (n + 1) (by omega) (by have := HN.out; omega)
            obtain ⟨x, Hx⟩ : ∃ z : F, Hid (A1 c k = z) := ⟨_, rfl⟩
            obtain ⟨r, Hr⟩ : ∃ z : F, Hid (fm x bb = z) := ⟨_, rfl⟩
            have hS0 : wr.drew.cell? ⟨G, c, none⟩ = some (.slice (some ⟨gs c, 0, none⟩) (n + 1) (cs c)) ∧ wr.drew.cell? ⟨gs c, k, none⟩ = some (.int .u8 ((x).1 : Nat)) := by
              refine ⟨HM.out.1.ptr c HKR.out, ?_⟩
              have q := HM.out.1.cell c k HKR.out hlt
              rw [scP_at, Hx.out] at q
              exact q
            have hfz : wr.drew.frozen? ⟨gs c, k, none⟩ = false := HM.out.1.fr c k HKR.out
            have hce := hS0.2
            clear hlt hk
            go_upto_region 27 with fail
            refine wp_region_noPanic ?_
            refine wp_region_till (fun u => u.cell? ⟨G, c, none⟩ = some (.slice (some ⟨gs c, 0, none⟩) (n + 1) (cs c)) ∧ u.cell? ⟨gs c, k, none⟩ = some (.int .u8 ((x).1 : Nat))) 15 (by kernel_rfl) (by decide) (by decide +kernel) (by decide +kernel) (by decide +kernel) (fun inv => ?_)
            refine till_at 0 98 (.slice (some ⟨G, 0, none⟩) R cap) inv rfl rfl (by decide) (by decide +kernel) (by decide +kernel) (fun _ _ _ h => h) (hS0) (Or.inl ⟨by rfl, fun w' hS' => by obtain ⟨k1, k2⟩ := hS'; go_simp⟩) (fun inv' => ?_)
            clear inv; have inv := inv'; clear inv'
            try simp only [List.setIfInBounds_toArray, List.set_cons_zero, List.set_cons_succ]
            refine till_at 1 99 (.int .i64 (c : Nat)) inv rfl rfl (by decide) (by decide +kernel) (by decide +kernel) (fun _ _ _ h => h) (hS0) (Or.inl ⟨by rfl, fun w' hS' => by obtain ⟨k1, k2⟩ := hS'; go_simp⟩) (fun inv' => ?_)
            clear inv; have inv := inv'; clear inv'
            try simp only [List.setIfInBounds_toArray, List.set_cons_zero, List.set_cons_succ]
            refine till_at 2 100 (.pointer (some ⟨G, c, none⟩)) inv rfl rfl (by decide) (by decide +kernel) (by decide +kernel) (fun _ _ _ h => h) (hS0) (Or.inl ⟨by rfl, fun w' hS' => by obtain ⟨k1, k2⟩ := hS'; go_simp⟩) (fun inv' => ?_)
            clear inv; have inv := inv'; clear inv'
            try simp only [List.setIfInBounds_toArray, List.set_cons_zero, List.set_cons_succ]
            refine till_at 3 101 (.slice (some ⟨gs c, 0, none⟩) (n + 1) (cs c)) inv rfl rfl (by decide) (by decide +kernel) (by decide +kernel) (fun _ _ _ h => h) (hS0) (Or.inl ⟨by rfl, fun w' hS' => by obtain ⟨k1, k2⟩ := hS'; go_simp⟩) (fun inv' => ?_)
            clear inv; have inv := inv'; clear inv'
            try simp only [List.setIfInBounds_toArray, List.set_cons_zero, List.set_cons_succ]
            refine till_at 4 102 (.int .i64 (k : Nat)) inv rfl rfl (by decide) (by decide +kernel) (by decide +kernel) (fun _ _ _ h => h) (hS0) (Or.inl ⟨by rfl, fun w' hS' => by obtain ⟨k1, k2⟩ := hS'; go_simp⟩) (fun inv' => ?_)
            clear inv; have inv := inv'; clear inv'
            try simp only [List.setIfInBounds_toArray, List.set_cons_zero, List.set_cons_succ]
            refine till_at 5 103 (.slice (some ⟨G, 0, none⟩) R cap) inv rfl rfl (by decide) (by decide +kernel) (by decide +kernel) (fun _ _ _ h => h) (hS0) (Or.inl ⟨by rfl, fun w' hS' => by obtain ⟨k1, k2⟩ := hS'; go_simp⟩) (fun inv' => ?_)
            clear inv; have inv := inv'; clear inv'
            try simp only [List.setIfInBounds_toArray, List.set_cons_zero, List.set_cons_succ]
            refine till_at 6 104 (.int .i64 (c : Nat)) inv rfl rfl (by decide) (by decide +kernel) (by decide +kernel) (fun _ _ _ h => h) (hS0) (Or.inl ⟨by rfl, fun w' hS' => by obtain ⟨k1, k2⟩ := hS'; go_simp⟩) (fun inv' => ?_)
            clear inv; have inv := inv'; clear inv'
            try simp only [List.setIfInBounds_toArray, List.set_cons_zero, List.set_cons_succ]
            refine till_at 7 105 (.pointer (some ⟨G, c, none⟩)) inv rfl rfl (by decide) (by decide +kernel) (by decide +kernel) (fun _ _ _ h => h) (hS0) (Or.inl ⟨by rfl, fun w' hS' => by obtain ⟨k1, k2⟩ := hS'; go_simp⟩) (fun inv' => ?_)
            clear inv; have inv := inv'; clear inv'
            try simp only [List.setIfInBounds_toArray, List.set_cons_zero, List.set_cons_succ]
            refine till_at 8 106 (.slice (some ⟨gs c, 0, none⟩) (n + 1) (cs c)) inv rfl rfl (by decide) (by decide +kernel) (by decide +kernel) (fun _ _ _ h => h) (hS0) (Or.inl ⟨by rfl, fun w' hS' => by obtain ⟨k1, k2⟩ := hS'; go_simp⟩) (fun inv' => ?_)
            clear inv; have inv := inv'; clear inv'
            try simp only [List.setIfInBounds_toArray, List.set_cons_zero, List.set_cons_succ]
            refine till_at 9 107 (.int .i64 (k : Nat)) inv rfl rfl (by decide) (by decide +kernel) (by decide +kernel) (fun _ _ _ h => h) (hS0) (Or.inl ⟨by rfl, fun w' hS' => by obtain ⟨k1, k2⟩ := hS'; go_simp⟩) (fun inv' => ?_)
            clear inv; have inv := inv'; clear inv'
            try simp only [List.setIfInBounds_toArray, List.set_cons_zero, List.set_cons_succ]
            refine till_at 10 108 (.pointer (some ⟨gs c, k, none⟩)) inv rfl rfl (by decide) (by decide +kernel) (by decide +kernel) (fun _ _ _ h => h) (hS0) (Or.inl ⟨by rfl, fun w' hS' => by obtain ⟨k1, k2⟩ := hS'; go_simp⟩) (fun inv' => ?_)
            clear inv; have inv := inv'; clear inv'
            try simp only [List.setIfInBounds_toArray, List.set_cons_zero, List.set_cons_succ]
            refine till_at 11 109 (.int .u8 ((x).1 : Nat)) inv rfl rfl (by decide) (by decide +kernel) (by decide +kernel) (fun _ _ _ h => h) (hS0) (Or.inl ⟨by rfl, fun w' hS' => by obtain ⟨k1, k2⟩ := hS'; go_simp⟩) (fun inv' => ?_)
            clear inv; have inv := inv'; clear inv'
            try simp only [List.setIfInBounds_toArray, List.set_cons_zero, List.set_cons_succ]
            refine till_at 12 110 (.int .u8 ((bb).1 : Nat)) inv rfl rfl (by decide) (by decide +kernel) (by decide +kernel) (fun _ _ _ h => h) (hS0) (Or.inl ⟨by rfl, fun w' hS' => by obtain ⟨k1, k2⟩ := hS'; go_simp⟩) (fun inv' => ?_)
            clear inv; have inv := inv'; clear inv'
            try simp only [List.setIfInBounds_toArray, List.set_cons_zero, List.set_cons_succ]
            refine till_head (i := 13) inv (by decide +kernel) (by decide) rfl (fun KK hK => ?_)
            go_simp
            refine (HCL.out x bb r _ Hr.out).mono ?_
            rintro e1 q1 ⟨rfl, hw1⟩
            obtain rfl := hw1.symm
            clear hw1
            go_wp2_with fail
            refine hK.out _ _ hS0 (fun inv' => ?_)
            clear hK KK inv; have inv := inv'; clear inv'
            try simp only [Act.put, List.setIfInBounds_toArray, List.set_cons_zero, List.set_cons_succ]
            refine till_at 14 112 (.pointer (some ⟨gs c, k, none⟩)) inv rfl rfl (by decide) (by decide +kernel) (by decide +kernel) (fun _ _ _ h => h) (hS0) (Or.inl ⟨by rfl, fun w' hS' => by obtain ⟨k1, k2⟩ := hS'; go_simp⟩) (fun inv' => ?_)
            clear inv; have inv := inv'; clear inv'
            try simp only [List.setIfInBounds_toArray, List.set_cons_zero, List.set_cons_succ]
            refine till_tail (i := 15) (by decide +kernel) (by decide) rfl (fun KK hK => ?_)
            go_simp
            refine hK.out _ _ ?_
            clear hK KK
            try simp only [List.setIfInBounds_toArray, List.set_cons_zero, List.set_cons_succ]
            refine till_done (by decide +kernel) ?_ _
            refine NoPanic.normal ?_
            have HNX : Hid (MatI M B1 G R n (scP A1 c bb (k + 1)) gs cs (wr.setCell ⟨gs c, k, none⟩ (.int .u8 ((r).1 : Nat))).drew ∧ OwS B1 M (c + 1) v2 w (wr.setCell ⟨gs c, k, none⟩ (.int .u8 ((r).1 : Nat))).drew) := by
              have q := HM.out.1.store c k HKR.out HKN.out r
              rw [← Hr.out, ← Hx.out] at q
              refine ⟨MatI.drew ?_, OwS.drew (HM.out.2.store (HM.out.1.lo c HKR.out).2 (HM.out.1.lo c HKR.out).1 _ _)⟩
              rw [← Hr.out, ← Hx.out]
              exact q.congr (fun i j _ _ => scP_next A1 c bb k i j)
            generalize (wr.setCell ⟨gs c, k, none⟩ (.int .u8 ((r).1 : Nat))).drew = w6 at HNX ⊢
            clear hS0 hfz hce inv
            go_wp2
            have e0 := HKN.out
            refine ⟨⟨k + 1, by omega, by first | rfl | (simp; done), HNX.out⟩, ?_⟩
            simp [intOf]
            omega
          case neg =>
          have gk : ¬ (k : Int) ≤ (n : Int) := by omega
          have HL0 : Hid (∃ A2, MatI M B1 G R n A2 gs cs wr ∧ OwS B1 M (c + 1) v2 w wr ∧ Good A0 A2 R n c ∧ A2 c c = 1 ∧ ∀ j, j < 0 → j ≠ c → A2 j c = 0) := by
            have e : k = n + 1 := by omega
            have hm := HM.out.1
            rw [e] at hm
            refine ⟨scaleR A1 c bb, hm.congr (fun i j _ hj => scP_last A1 c bb n i j hj), HM.out.2, good_scale HG1.out.1 HKR.out HZB.out.2.2, ?_, fun j h => absurd h (Nat.not_lt_zero j)⟩
            show rowU A1 c (fun k => fm (A1 c k) bb) c c = 1
            rw [rowU_at, HZ.out]
            exact HZB.out.2.1
          clear HM HG1 HZB HZ HBB hlt hk
          go_wp2
          go_loopw [13] (fun vi wq => ∃ i : Nat, i ≤ R ∧ vi = .int .i64 (i : Nat) ∧ Hid (∃ A2, MatI M B1 G R n A2 gs cs wq ∧ OwS B1 M (c + 1) v2 w wq ∧ Good A0 A2 R n c ∧ A2 c c = 1 ∧ ∀ j, j < i → j ≠ c → A2 j c = 0)) (fun vi _ => R - (intOf vi).toNat)
          case atStart => exact ⟨0, by omega, rfl, HL0.out⟩
          case round =>
            obtain ⟨i, hi9, rfl, HM⟩ := hrel
            clear HL0
            obtain ⟨A2, hm, ho, hg, h1, h0⟩ := HM.out
            by_cases hlt : i < R
            case neg =>
              have gi : ¬ (i : Int) < (R : Int) := by omega
              have HNX : Hid (∃ A gs cs, SoI M B1 G R n A0 A (c + 1) v2 gs cs w wr) := by
                have hgn := good_next hg (fun j hj => by
                  by_cases e : j = c
                  · rw [e, if_pos rfl]; exact h1
                  · rw [if_neg e]; exact h0 j (by omega) e)
                exact ⟨A2, gs, cs, hm, hgn, ho.1, ho.2.1, ho.2.2⟩
              have wnc := HWC.out
              clear HM hm ho hg h1 h0 hlt hi9
              go_wp2
              have e0 := HK.out
              refine ⟨⟨v2, c + 1, by rfl, by omega, by first | rfl | (simp; done), HNX.out⟩, ?_⟩
              simp [intOf]
              omega
            case pos =>
            have HIR : Hid (i < R) := hlt
            have gi : (i : Int) < (R : Int) := by omega
            have gi0 : (0 : Int) ≤ (i : Int) := by omega
            have wn := next64 i R hlt (by have := HN.out; omega)
            have p0 := hm.ptr i hlt
            have p1 := hm.cell i c hlt (Nat.le_of_lt HK.out)
            obtain ⟨f, Hf⟩ : ∃ z : F, Hid (A2 i c = z) := ⟨_, rfl⟩
            rw [Hf.out] at p1
            have HM2 : Hid (MatI M B1 G R n A2 gs cs wr ∧ OwS B1 M (c + 1) v2 w wr ∧ Good A0 A2 R n c ∧ A2 c c = 1 ∧ ∀ j, j < i → j ≠ c → A2 j c = 0) := ⟨hm, ho, hg, h1, h0⟩
            clear HM hm ho hg h1 h0 hlt hi9
            by_cases hic : i = c
            case pos =>
              have e1 : ((i : Int) == (c : Int)) = true := by rw [hic]; exact beq_self_eq_true _
              have HNX : Hid (∃ A2, MatI M B1 G R n A2 gs cs wr ∧ OwS B1 M (c + 1) v2 w wr ∧ Good A0 A2 R n c ∧ A2 c c = 1 ∧ ∀ j, j < i + 1 → j ≠ c → A2 j c = 0) := ⟨A2, HM2.out.1, HM2.out.2.1, HM2.out.2.2.1, HM2.out.2.2.2.1, fun j h1 h2 => HM2.out.2.2.2.2 j (by omega) h2⟩
              clear hic
              go_wp2
              have e0 := HIR.out
              refine ⟨⟨i + 1, by omega, by first | rfl | (simp; done), HNX.out⟩, ?_⟩
              simp [intOf]
              omega
            case neg =>
            have HIC : Hid (i ≠ c) := hic
            have e1 : ((i : Int) == (c : Int)) = false := by rw [beq_eq_false_iff_ne]; omega
            clear hic
            by_cases hf0 : f = 0
            case pos =>
              have e2 : ((((f).1 : Nat) : Int) == 0) = true := by rw [zF]; exact decide_eq_true hf0
              have HNX : Hid (∃ A2, MatI M B1 G R n A2 gs cs wr ∧ OwS B1 M (c + 1) v2 w wr ∧ Good A0 A2 R n c ∧ A2 c c = 1 ∧ ∀ j, j < i + 1 → j ≠ c → A2 j c = 0) := ⟨A2, HM2.out.1, HM2.out.2.1, HM2.out.2.2.1, HM2.out.2.2.2.1, fun j h1 h2 => by
                by_cases e : j = i
                · rw [e, Hf.out]; exact hf0
                · exact HM2.out.2.2.2.2 j (by omega) h2⟩
              clear hf0
              go_wp2
              have e0 := HIR.out
              refine ⟨⟨i + 1, by omega, by first | rfl | (simp; done), HNX.out⟩, ?_⟩
              simp [intOf]
              omega
            case neg =>
            have e2 : ((((f).1 : Nat) : Int) == 0) = false := by rw [zF]; exact decide_eq_false hf0
            clear hf0
            go_upto_region 33 with fail
            clear p0 p1 e1 e2
            go_wp2
            go_loopw [15] (fun vk wq => ∃ k : Nat, k ≤ n + 1 ∧ vk = .int .i64 (k : Nat) ∧ Hid (MatI M B1 G R n (elP A2 i c k) gs cs wq ∧ OwS B1 M (c + 1) v2 w wq)) (fun vk _ => n + 1 - (intOf vk).toNat)
            case atStart => exact ⟨0, by omega, rfl, HM2.out.1.congr (fun j k _ _ => elP_first A2 i c j k), HM2.out.2.1⟩
            case round =>
              obtain ⟨k, hk, rfl, HM⟩ := hrel
              by_cases hlt : k ≤ n
              case pos =>
                have HKN : Hid (k ≤ n) := hlt
                have gk : (k : Int) ≤ (n : Int) := by omega
                have gk2 : (k : Int) < (n : Int) + 1 := by omega
                have gk0 : (0 : Int) ≤ (k : Int) := by omega
                have wk := next64 k (n + 1) (by omega) (by have := HN.out; omega)
                obtain ⟨y, Hy⟩ : ∃ z : F, Hid (A2 i k = z) := ⟨_, rfl⟩
                obtain ⟨x, Hx⟩ : ∃ z : F, Hid (A2 c k = z) := ⟨_, rfl⟩
                obtain ⟨r, Hr⟩ : ∃ z : F, Hid (fm f x = z) := ⟨_, rfl⟩
                obtain ⟨s, Hs⟩ : ∃ z : F, Hid (fa y r = z) := ⟨_, rfl⟩
                have hxo : bits .xor .u8 (((y).1 : Nat) : Int) (((r).1 : Nat) : Int) = (((s).1 : Nat) : Int) := by rw [xorF, Hs.out]
                have hS0 : wr.drew.cell? ⟨G, i, none⟩ = some (.slice (some ⟨gs i, 0, none⟩) (n + 1) (cs i)) ∧ wr.drew.cell? ⟨gs i, k, none⟩ = some (.int .u8 ((y).1 : Nat)) ∧ wr.drew.cell? ⟨G, c, none⟩ = some (.slice (some ⟨gs c, 0, none⟩) (n + 1) (cs c)) ∧ wr.drew.cell? ⟨gs c, k, none⟩ = some (.int .u8 ((x).1 : Nat)) := by
                  have q1 := HM.out.1.cell i k HIR.out hlt
                  have q2 := HM.out.1.cell c k HKR.out hlt
                  rw [elP_at, Hy.out] at q1
                  rw [elP_ne _ _ _ _ _ (Ne.symm HIC.out), Hx.out] at q2
                  exact ⟨HM.out.1.ptr i HIR.out, q1, HM.out.1.ptr c HKR.out, q2⟩
                have hfz : wr.drew.frozen? ⟨gs i, k, none⟩ = false := HM.out.1.fr i k HIR.out
                have hce := hS0.2.1
                clear hlt hk
                go_upto_region 36 with fail
                refine wp_region_noPanic ?_
                refine wp_region_till (fun u => u.cell? ⟨G, i, none⟩ = some (.slice (some ⟨gs i, 0, none⟩) (n + 1) (cs i)) ∧ u.cell? ⟨gs i, k, none⟩ = some (.int .u8 ((y).1 : Nat)) ∧ u.cell? ⟨G, c, none⟩ = some (.slice (some ⟨gs c, 0, none⟩) (n + 1) (cs c)) ∧ u.cell? ⟨gs c, k, none⟩ = some (.int .u8 ((x).1 : Nat))) 23 (by kernel_rfl) (by decide) (by decide +kernel) (by decide +kernel) (by decide +kernel) (fun inv => ?_)
                refine till_at 0 144 (.slice (some ⟨G, 0, none⟩) R cap) inv rfl rfl (by decide) (by decide +kernel) (by decide +kernel) (fun _ _ _ h => h) (hS0) (Or.inl ⟨by rfl, fun w' hS' => by obtain ⟨k1, k2, k3, k4⟩ := hS'; go_simp⟩) (fun inv' => ?_)
                clear inv; have inv := inv'; clear inv'
                try simp only [List.setIfInBounds_toArray, List.set_cons_zero, List.set_cons_succ]
                refine till_at 1 145 (.int .i64 (i : Nat)) inv rfl rfl (by decide) (by decide +kernel) (by decide +kernel) (fun _ _ _ h => h) (hS0) (Or.inl ⟨by rfl, fun w' hS' => by obtain ⟨k1, k2, k3, k4⟩ := hS'; go_simp⟩) (fun inv' => ?_)
                clear inv; have inv := inv'; clear inv'
                try simp only [List.setIfInBounds_toArray, List.set_cons_zero, List.set_cons_succ]
                refine till_at 2 146 (.pointer (some ⟨G, i, none⟩)) inv rfl rfl (by decide) (by decide +kernel) (by decide +kernel) (fun _ _ _ h => h) (hS0) (Or.inl ⟨by rfl, fun w' hS' => by obtain ⟨k1, k2, k3, k4⟩ := hS'; go_simp⟩) (fun inv' => ?_)
                clear inv; have inv := inv'; clear inv'
                try simp only [List.setIfInBounds_toArray, List.set_cons_zero, List.set_cons_succ]
                refine till_at 3 147 (.slice (some ⟨gs i, 0, none⟩) (n + 1) (cs i)) inv rfl rfl (by decide) (by decide +kernel) (by decide +kernel) (fun _ _ _ h => h) (hS0) (Or.inl ⟨by rfl, fun w' hS' => by obtain ⟨k1, k2, k3, k4⟩ := hS'; go_simp⟩) (fun inv' => ?_)
                clear inv; have inv := inv'; clear inv'
                try simp only [List.setIfInBounds_toArray, List.set_cons_zero, List.set_cons_succ]
                refine till_at 4 148 (.int .i64 (k : Nat)) inv rfl rfl (by decide) (by decide +kernel) (by decide +kernel) (fun _ _ _ h => h) (hS0) (Or.inl ⟨by rfl, fun w' hS' => by obtain ⟨k1, k2, k3, k4⟩ := hS'; go_simp⟩) (fun inv' => ?_)
                clear inv; have inv := inv'; clear inv'
                try simp only [List.setIfInBounds_toArray, List.set_cons_zero, List.set_cons_succ]
                refine till_at 5 149 (.slice (some ⟨G, 0, none⟩) R cap) inv rfl rfl (by decide) (by decide +kernel) (by decide +kernel) (fun _ _ _ h => h) (hS0) (Or.inl ⟨by rfl, fun w' hS' => by obtain ⟨k1, k2, k3, k4⟩ := hS'; go_simp⟩) (fun inv' => ?_)
                clear inv; have inv := inv'; clear inv'
                try simp only [List.setIfInBounds_toArray, List.set_cons_zero, List.set_cons_succ]
                refine till_at 6 150 (.int .i64 (i : Nat)) inv rfl rfl (by decide) (by decide +kernel) (by decide +kernel) (fun _ _ _ h => h) (hS0) (Or.inl ⟨by rfl, fun w' hS' => by obtain ⟨k1, k2, k3, k4⟩ := hS'; go_simp⟩) (fun inv' => ?_)
                clear inv; have inv := inv'; clear inv'
                try simp only [List.setIfInBounds_toArray, List.set_cons_zero, List.set_cons_succ]
                refine till_at 7 151 (.pointer (some ⟨G, i, none⟩)) inv rfl rfl (by decide) (by decide +kernel) (by decide +kernel) (fun _ _ _ h => h) (hS0) (Or.inl ⟨by rfl, fun w' hS' => by obtain ⟨k1, k2, k3, k4⟩ := hS'; go_simp⟩) (fun inv' => ?_)
                clear inv; have inv := inv'; clear inv'
                try simp only [List.setIfInBounds_toArray, List.set_cons_zero, List.set_cons_succ]
                refine till_at 8 152 (.slice (some ⟨gs i, 0, none⟩) (n + 1) (cs i)) inv rfl rfl (by decide) (by decide +kernel) (by decide +kernel) (fun _ _ _ h => h) (hS0) (Or.inl ⟨by rfl, fun w' hS' => by obtain ⟨k1, k2, k3, k4⟩ := hS'; go_simp⟩) (fun inv' => ?_)
                clear inv; have inv := inv'; clear inv'
                try simp only [List.setIfInBounds_toArray, List.set_cons_zero, List.set_cons_succ]
                refine till_at 9 153 (.int .i64 (k : Nat)) inv rfl rfl (by decide) (by decide +kernel) (by decide +kernel) (fun _ _ _ h => h) (hS0) (Or.inl ⟨by rfl, fun w' hS' => by obtain ⟨k1, k2, k3, k4⟩ := hS'; go_simp⟩) (fun inv' => ?_)
                clear inv; have inv := inv'; clear inv'
                try simp only [List.setIfInBounds_toArray, List.set_cons_zero, List.set_cons_succ]
                refine till_at 10 154 (.pointer (some ⟨gs i, k, none⟩)) inv rfl rfl (by decide) (by decide +kernel) (by decide +kernel) (fun _ _ _ h => h) (hS0) (Or.inl ⟨by rfl, fun w' hS' => by obtain ⟨k1, k2, k3, k4⟩ := hS'; go_simp⟩) (fun inv' => ?_)
                clear inv; have inv := inv'; clear inv'
                try simp only [List.setIfInBounds_toArray, List.set_cons_zero, List.set_cons_succ]
                refine till_at 11 155 (.int .u8 ((y).1 : Nat)) inv rfl rfl (by decide) (by decide +kernel) (by decide +kernel) (fun _ _ _ h => h) (hS0) (Or.inl ⟨by rfl, fun w' hS' => by obtain ⟨k1, k2, k3, k4⟩ := hS'; go_simp⟩) (fun inv' => ?_)
                clear inv; have inv := inv'; clear inv'
                try simp only [List.setIfInBounds_toArray, List.set_cons_zero, List.set_cons_succ]
                refine till_at 12 156 (.int .u8 ((f).1 : Nat)) inv rfl rfl (by decide) (by decide +kernel) (by decide +kernel) (fun _ _ _ h => h) (hS0) (Or.inl ⟨by rfl, fun w' hS' => by obtain ⟨k1, k2, k3, k4⟩ := hS'; go_simp⟩) (fun inv' => ?_)
                clear inv; have inv := inv'; clear inv'
                try simp only [List.setIfInBounds_toArray, List.set_cons_zero, List.set_cons_succ]
                refine till_at 13 157 (.slice (some ⟨G, 0, none⟩) R cap) inv rfl rfl (by decide) (by decide +kernel) (by decide +kernel) (fun _ _ _ h => h) (hS0) (Or.inl ⟨by rfl, fun w' hS' => by obtain ⟨k1, k2, k3, k4⟩ := hS'; go_simp⟩) (fun inv' => ?_)
                clear inv; have inv := inv'; clear inv'
                try simp only [List.setIfInBounds_toArray, List.set_cons_zero, List.set_cons_succ]
                refine till_at 14 158 (.int .i64 (c : Nat)) inv rfl rfl (by decide) (by decide +kernel) (by decide +kernel) (fun _ _ _ h => h) (hS0) (Or.inl ⟨by rfl, fun w' hS' => by obtain ⟨k1, k2, k3, k4⟩ := hS'; go_simp⟩) (fun inv' => ?_)
                clear inv; have inv := inv'; clear inv'
                try simp only [List.setIfInBounds_toArray, List.set_cons_zero, List.set_cons_succ]
                refine till_at 15 159 (.pointer (some ⟨G, c, none⟩)) inv rfl rfl (by decide) (by decide +kernel) (by decide +kernel) (fun _ _ _ h => h) (hS0) (Or.inl ⟨by rfl, fun w' hS' => by obtain ⟨k1, k2, k3, k4⟩ := hS'; go_simp⟩) (fun inv' => ?_)
                clear inv; have inv := inv'; clear inv'
                try simp only [List.setIfInBounds_toArray, List.set_cons_zero, List.set_cons_succ]
                refine till_at 16 160 (.slice (some ⟨gs c, 0, none⟩) (n + 1) (cs c)) inv rfl rfl (by decide) (by decide +kernel) (by decide +kernel) (fun _ _ _ h => h) (hS0) (Or.inl ⟨by rfl, fun w' hS' => by obtain ⟨k1, k2, k3, k4⟩ := hS'; go_simp⟩) (fun inv' => ?_)
                clear inv; have inv := inv'; clear inv'
                try simp only [List.setIfInBounds_toArray, List.set_cons_zero, List.set_cons_succ]
                refine till_at 17 161 (.int .i64 (k : Nat)) inv rfl rfl (by decide) (by decide +kernel) (by decide +kernel) (fun _ _ _ h => h) (hS0) (Or.inl ⟨by rfl, fun w' hS' => by obtain ⟨k1, k2, k3, k4⟩ := hS'; go_simp⟩) (fun inv' => ?_)
                clear inv; have inv := inv'; clear inv'
                try simp only [List.setIfInBounds_toArray, List.set_cons_zero, List.set_cons_succ]
                refine till_at 18 162 (.pointer (some ⟨gs c, k, none⟩)) inv rfl rfl (by decide) (by decide +kernel) (by decide +kernel) (fun _ _ _ h => h) (hS0) (Or.inl ⟨by rfl, fun w' hS' => by obtain ⟨k1, k2, k3, k4⟩ := hS'; go_simp⟩) (fun inv' => ?_)
                clear inv; have inv := inv'; clear inv'
                try simp only [List.setIfInBounds_toArray, List.set_cons_zero, List.set_cons_succ]
                refine till_at 19 163 (.int .u8 ((x).1 : Nat)) inv rfl rfl (by decide) (by decide +kernel) (by decide +kernel) (fun _ _ _ h => h) (hS0) (Or.inl ⟨by rfl, fun w' hS' => by obtain ⟨k1, k2, k3, k4⟩ := hS'; go_simp⟩) (fun inv' => ?_)
                clear inv; have inv := inv'; clear inv'
                try simp only [List.setIfInBounds_toArray, List.set_cons_zero, List.set_cons_succ]
                refine till_head (i := 20) inv (by decide +kernel) (by decide) rfl (fun KK hK => ?_)
                go_simp
                refine (HCL.out f x r _ Hr.out).mono ?_
                rintro e1 q1 ⟨rfl, hw1⟩
                obtain rfl := hw1.symm
                clear hw1
                go_wp2_with fail
                refine hK.out _ _ hS0 (fun inv' => ?_)
                clear hK KK inv; have inv := inv'; clear inv'
                try simp only [Act.put, List.setIfInBounds_toArray, List.set_cons_zero, List.set_cons_succ]
                refine till_at 21 165 (.int .u8 ((s).1 : Nat)) inv rfl rfl (by decide) (by decide +kernel) (by decide +kernel) (fun _ _ _ h => h) (hS0) (Or.inl ⟨by rfl, fun w' hS' => by obtain ⟨k1, k2, k3, k4⟩ := hS'; go_simp⟩) (fun inv' => ?_)
                clear inv; have inv := inv'; clear inv'
                try simp only [List.setIfInBounds_toArray, List.set_cons_zero, List.set_cons_succ]
                refine till_at 22 166 (.pointer (some ⟨gs i, k, none⟩)) inv rfl rfl (by decide) (by decide +kernel) (by decide +kernel) (fun _ _ _ h => h) (hS0) (Or.inl ⟨by rfl, fun w' hS' => by obtain ⟨k1, k2, k3, k4⟩ := hS'; go_simp⟩) (fun inv' => ?_)
                clear inv; have inv := inv'; clear inv'
                try simp only [List.setIfInBounds_toArray, List.set_cons_zero, List.set_cons_succ]
                refine till_tail (i := 23) (by decide +kernel) (by decide) rfl (fun KK hK => ?_)
                go_simp
                refine hK.out _ _ ?_
                clear hK KK
                try simp only [List.setIfInBounds_toArray, List.set_cons_zero, List.set_cons_succ]
                refine till_done (by decide +kernel) ?_ _
                refine NoPanic.normal ?_
                have HNX : Hid (MatI M B1 G R n (elP A2 i c (k + 1)) gs cs (wr.setCell ⟨gs i, k, none⟩ (.int .u8 ((s).1 : Nat))).drew ∧ OwS B1 M (c + 1) v2 w (wr.setCell ⟨gs i, k, none⟩ (.int .u8 ((s).1 : Nat))).drew) := by
                  have q := HM.out.1.store i k HIR.out HKN.out s
                  have es : s = fa (A2 i k) (fm (A2 i c) (A2 c k)) := by rw [Hy.out, Hf.out, Hx.out, Hr.out, Hs.out]
                  refine ⟨MatI.drew (q.congr (fun j l _ _ => ?_)), OwS.drew (HM.out.2.store (HM.out.1.lo i HIR.out).2 (HM.out.1.lo i HIR.out).1 _ _)⟩
                  rw [es]
                  exact elP_next A2 i c k j l
                generalize (wr.setCell ⟨gs i, k, none⟩ (.int .u8 ((s).1 : Nat))).drew = w6 at HNX ⊢
                clear hS0 hfz hce inv hxo
                go_wp2
                have e0 := HKN.out
                refine ⟨⟨k + 1, by omega, by first | rfl | (simp; done), HNX.out⟩, ?_⟩
                simp [intOf]
                omega
              case neg =>
              have gk : ¬ (k : Int) ≤ (n : Int) := by omega
              have HNX : Hid (∃ A2, MatI M B1 G R n A2 gs cs wr ∧ OwS B1 M (c + 1) v2 w wr ∧ Good A0 A2 R n c ∧ A2 c c = 1 ∧ ∀ j, j < i + 1 → j ≠ c → A2 j c = 0) := by
                have e : k = n + 1 := by omega
                have hm := HM.out.1
                rw [e] at hm
                refine ⟨elimR A2 i c, hm.congr (fun j l _ hl => elP_last A2 i c n j l hl), HM.out.2, good_elim HM2.out.2.2.1 HKR.out HIR.out HIC.out, ?_, fun j h1 h2 => ?_⟩
                · show rowU A2 i _ c c = 1
                  rw [rowU_ne _ _ _ _ _ (Ne.symm HIC.out)]
                  exact HM2.out.2.2.2.1
                · by_cases e2 : j = i
                  · rw [e2]
                    show rowU A2 i (fun k => fa (A2 i k) (fm (A2 i c) (A2 c k))) i c = 0
                    rw [rowU_at, HM2.out.2.2.2.1, fm_one, fa_self]
                  · show rowU A2 i _ j c = 0
                    rw [rowU_ne _ _ _ _ _ e2]
                    exact HM2.out.2.2.2.2 j (by omega) h2
              clear HM hlt hk
              go_wp2
              have e0 := HIR.out
              refine ⟨⟨i + 1, by omega, by first | rfl | (simp; done), HNX.out⟩, ?_⟩
              simp [intOf]
              omega
end Go.Proofs.YtbpkocohddlbhaaDoor
namespace Go.Proofs.YtbpkocohddlbhaaDoor
open Go.RowKit
theorem own_cap {w : World} {B n : Nat} {a : Option Addr} {m c : Nat} {l : List Value} (h : w.ownsRow B 5 1 (.slice a m c) n l) (h1 : 1 ≤ n) : n ≤ c ∧ c ≤ 9223372036854775807 := by
  rcases h.2 with ⟨_, q⟩ | ⟨g', cap', cur, q, _, _, h3, h4, _⟩
  · omega
  · injection q with _ _ q2; rw [q2]; exact ⟨h3, h4⟩
end Go.Proofs.YtbpkocohddlbhaaDoor
namespace Go.Proofs.YtbpkocohddlbhaaDoor
open Go.RowKit
set_option linter.unusedVariables false
set_option linter.unusedSimpArgs false
set_option maxRecDepth 100000
def z4 : List F := [0, 0, 0, 0]
theorem fc_app (a b : List F) : fc (a ++ b) = fc a ++ fc b := by simp [fc]
theorem four_cells (w : World) (x y z u : Value) (e : TypeId) : ∀ (j : Nat) (v : Value), [x, y, z, u][j]? = some v → (w.alloc (.cells #[x, y, z, u] e)).cell? ((⟨w.heap.size, 0, none⟩ : Addr).add j) = some v :=
  fun j v hv => World.news_of_block (w := w.alloc (.cells #[x, y, z, u] e)) (heap_alloc_new w _) j v (by simpa using hv)
theorem rx_cells {w : World} {g : Nat} {l : List F} (h : Rx w g l) : ∀ (j : Nat) (u : Value), (fc l)[j]? = some u → w.cell? ((⟨g, 0, none⟩ : Addr).add j) = some u := fun j u hu => by
  have hj : j < l.length := by have := (List.getElem?_eq_some_iff.1 hu).1; rw [fc_len] at this; exact this
  rw [fc_at l j hj] at hu
  injection hu with hu
  rw [← hu, show (⟨g, 0, none⟩ : Addr).add j = ⟨g, j, none⟩ by unfold Addr.add; split <;> simp_all]
  exact h.cell j hj
theorem row5 (s : Nat → F) (j : Nat) (hj : j < 4) (w : World) (a b c d : F) (ha : Em (3 * j) = a) (hb : Em (2 * j) = b) (hc : Em j = c) (hd : s j = d) : Rx (w.alloc (.cells #[.int .u8 (a.1 : Nat), .int .u8 (b.1 : Nat), .int .u8 (c.1 : Nat), .int .u8 1, .int .u8 (d.1 : Nat)] 5)) w.heap.size (rowL (codM s) 4 j) := by
  refine ⟨[], ?_⟩
  rw [List.append_nil]
  have e : fc (rowL (codM s) 4 j) = [.int .u8 (a.1 : Nat), .int .u8 (b.1 : Nat), .int .u8 (c.1 : Nat), .int .u8 1, .int .u8 (d.1 : Nat)] := by
    show fc [codM s j 0, codM s j 1, codM s j 2, codM s j 3, codM s j 4] = _
    unfold codM
    simp only [if_true, show ¬ (0 : Nat) = 4 by decide, show ¬ (1 : Nat) = 4 by decide, show ¬ (2 : Nat) = 4 by decide, show ¬ (3 : Nat) = 4 by decide, if_false]
    rw [show 3 - 0 = 3 from rfl, show 3 - 1 = 2 from rfl, show 3 - 2 = 1 from rfl, show 3 - 3 = 0 from rfl, Nat.zero_mul, Nat.one_mul, Em_zero, ha, hb, hc, hd]
    rfl
  rw [e]
  exact heap_alloc_new w _
theorem cod_num (j A B : Nat) (hj : j < 4) (hA : 3 * j = A) (hB : 2 * j = B) : IntKind.i64.wrap (3 * (j : Int)) = (A : Int) ∧ IntKind.i64.wrap (2 * (j : Int)) = (B : Int) ∧ (A : Int) < 255 ∧ (B : Int) < 255 ∧ (j : Int) < 255 ∧ (0 : Int) ≤ (j : Int) ∧ IntKind.i64.wrap ((j : Int) + 1) = ((j + 1 : Nat) : Int) ∧ (0 : Int) ≤ (A : Int) ∧ (0 : Int) ≤ (B : Int) := by
  refine ⟨?_, ?_, by omega, by omega, by omega, by omega, ?_, by omega, by omega⟩ <;> (rw [IntKind.wrap_i64]; omega)
/-- What Coded leaves. -/
def CodQ (l x0 : List F) (n M : Nat) (e : Ending) (w w' : World) : Prop := ∃ g c', e = .returned (.slice (some ⟨g, 0, none⟩) (n + 4) c') ∧ (n + 4 ≤ c' ∧ c' ≤ 9223372036854775807) ∧ Rx w' g (l ++ x0) ∧ Below M w w'
set_option maxHeartbeats 6400000 in
set_option maxRecDepth 100000 in
theorem coded_ok (b off n c : Nat) (l x0 : List F) (w : World) (hl : l.length = n) (h1 : 1 ≤ n) (hn : n ≤ 200) (h : Rw w b off l) (hx : x0.length = 4) (hz : sumL (l ++ x0) = [0, 0, 0, 0]) : Calls Tryd.prog 30 #[.slice (some ⟨b, off, none⟩) n c] w fun e w' => CodQ l x0 n w.heap.size e w w' := by
  obtain ⟨M, HMM⟩ : ∃ M, Hid (w.heap.size = M) := ⟨_, rfl⟩
  obtain ⟨s, HSS⟩ : ∃ s : Nat → F, Hid (sumG (l ++ [0, 0, 0, 0]) = s) := ⟨sumG (l ++ [0, 0, 0, 0]), by show _ = _; rfl⟩
  have HN : Hid (l.length = n ∧ 1 ≤ n ∧ n ≤ 200 ∧ x0.length = 4 ∧ sumL (l ++ x0) = [0, 0, 0, 0]) := ⟨hl, h1, hn, hx, hz⟩
  have HR : Hid (Rw w b off l) := h
  have H19 : Hid (∀ (g cc : Nat) u, Rx u g (l ++ z4) → Calls Tryd.prog 45 #[.slice (some ⟨g, 0, none⟩) (n + 4) cc] u fun e w' => Hid (e = .returned (.agg (fc (sumL (l ++ z4))).toArray) ∧ Below u.heap.size u w')) := fun g cc u hu => by
    have q := rsums_ok g 0 cc (l ++ z4) u (by rw [List.length_append, hl]; show n + 4 ≤ 255; omega) hu.rw hu.lt
    rw [List.length_append, hl] at q
    exact q
  have H20 : Hid (∀ u, Calls Tryd.prog 46 #[.int .i64 255] u fun e w' => Hid (∃ v, e = .returned v ∧ w'.ownsRow u.heap.size 5 1 v 255 (fc ((List.range 255).map Em)) ∧ Below u.heap.size u w')) := fun u => rpowers_ok 255 (by decide) u
  have H33 : Hid (∀ G c0 u, InM u G 0 4 4 (codM s) → 4 ≤ c0 → Calls Tryd.prog 47 #[.slice (some ⟨G, 0, none⟩) 4 c0] u fun e w' => Hid (∃ g c, e = .returned (.tuple #[.slice (some ⟨g, 0, none⟩) 4 c, .bool true]) ∧ Rx w' g x0 ∧ Below u.heap.size u w')) := fun G c0 u hu hc => (solve_ok G 0 4 c0 4 (codM s) u (by decide) (by decide) (by decide) (by decide) hc hu (cod_ind s)).mono (by
    rintro e w' ⟨hs, hb⟩
    rcases hs with ⟨g, c, xs, rfl, hxl, hxn, hxc, hxr⟩ | ⟨hno, rfl⟩
    · refine ⟨g, c, rfl, ?_, hb⟩
      rw [← cod_only l xs x0 hxl hx (by rw [HSS.out]; exact hxn) hz]
      exact hxr
    · exfalso
      obtain ⟨a, b', c', d, rfl⟩ := four x0 hx
      refine hno (zOf [a, b', c', d]) (zOf_n _ 4 rfl) ?_
      rw [← HSS.out]
      exact cod_null l a b' c' d hz)
  obtain ⟨L, HLL⟩ : ∃ L, Hid (fc (sumL (l ++ z4)) = L) := ⟨_, rfl⟩
  rw [HLL.out] at H19
  have HLN : Hid (L.length = 4 ∧ ∀ v ∈ L, v.oneCell' = true) := by rw [← HLL.out]; exact ⟨by rw [fc_len]; rfl, fc_one _⟩
  have hi7 : (Tryd.prog.info? 70).map (·.size) = some L.length := by rw [HLN.out.1]; kernel_rfl
  obtain ⟨i0, hi, hz0, hz1, hz2⟩ := info_parts Tryd.infoB
  obtain ⟨i25, hi5, hz5, hz6, hz7⟩ := info_parts Tryd.info25q
  clear h hl h1 hn hx hz
  go_enter Tryd.func30, Tryd.ntmps30
  have hbs := bs0 w
  go_upto_region 2 with (first
    | (refine wpList_clone_own (by rfl) (.tmp 10) (.tmp 11) (by rfl) w.heap.size (by rfl) (new_none w) b off n c l (by rfl) HN.out.1 HN.out.2.1 (by have := HN.out; omega) (HR.out.below ((Below.refl _ _).alloc (Nat.le_refl _) _)) ?_; intro v1 w1 ho1 hb1; have H1 : Hid (w1.ownsRow w.heap.size 5 1 v1 n (fc l) ∧ Below w.heap.size w w1) := ⟨ho1, Below.trans ((Below.refl _ _).alloc (Nat.le_refl _) _) hb1⟩; clear ho1 hb1)
    | (at_builtin; go_must (refine wpList_append_own _ rfl (.tmp 12) (.tmp 13) 23 rfl w.heap.size 5 i0 (.int .u8 0) 1 1 Tryd.underlying23 hi hz0 hz1 hz2 rfl (by decide) _ n _ rfl (H1.out.1.alloc _) ⟨w1.heap.size, 0, none⟩ 4 4 (fc z4) rfl rfl (four_cells w1 _ _ _ _ 5) (fc_one _) (by have := HN.out; unfold maxLen; omega) (by have := HN.out; omega) (by have := H1.out.2.size; simp; omega) ?_; intro v2 w2 hown hgrow hnil; have H2 : Hid (w2.ownsRow w.heap.size 5 1 v2 (n + 4) (fc (l ++ z4)) ∧ Below w.heap.size w w2) := ⟨by rw [fc_app]; exact hown, (H1.out.2.alloc H1.out.2.size _).grown hgrow (by have := H1.out.2.size; simp; omega) (fun q hq => (H1.out.1.lt q hq).1)⟩; clear hown hgrow hnil)))
  clear hbs
  obtain ⟨g1, c1, rfl, HG1⟩ := own_rx (l := l ++ z4) (by rw [List.length_append, HN.out.1]; exact H2.out.1) (by rw [List.length_append, HN.out.1]; show 1 ≤ n + 4; omega)
  rw [List.length_append, HN.out.1, show z4.length = 4 from rfl]
  go_upto_region 3 with (first
    | (go_at_call 45; refine (H19.out g1 c1 w2 HG1.out.1).mono ?_; intro e3 w3 hh; obtain ⟨rfl, q⟩ := hh.out; have HB3 : Hid (Below w2.heap.size w2 w3) := q; clear hh q)
    | (refine wpList_store_bx (by rfl) 70 (.tmp 4) (.tmp 16) (by rfl) (List.replicate 4 (.int .u8 0)) L w3.heap.size (by rfl) (by rfl) (Bx.new w3 70 _) (by rw [HLN.out.1]; rfl) hi7 HLN.out.2 ?_; intro w4 hb2 hg2; have HB4 : Hid (Bx w4 w3.heap.size 70 L ∧ (w3.alloc (.cells (List.replicate 4 (Value.int .u8 0)).toArray 70)).grownBy w4 (some w3.heap.size)) := ⟨hb2, hg2⟩; clear hb2 hg2))
  obtain ⟨S, HS⟩ : ∃ S, Hid (w3.heap.size = S) := ⟨_, rfl⟩
  rw [HS.out] at HB4 ⊢
  have HI4 : Hid (Bx w4 S 70 L ∧ Below M w w4) := by
    have e2 : Below M w w2 := by rw [← HMM.out]; exact H2.out.2
    have hs2 : M ≤ w2.heap.size := bel_size e2 HMM.out
    have e3 : Below M w w3 := e2.trans (HB3.out.mono hs2)
    have hs3 : M ≤ w3.heap.size := bel_size e3 HMM.out
    exact ⟨HB4.out.1, (e3.alloc hs3 _).trans (below_gb HB4.out.2 (by simp; omega) (by have := HS.out; omega))⟩
  clear HB3 HB4 H1 H2 HG1 HS
  go_upto_region 4 with (first
      | (go_at_call 46; refine (H20.out w4).mono ?_; intro e4 w5 hh; obtain ⟨v, rfl, q1, q2⟩ := hh.out; have HB5 : Hid (Below w4.heap.size w4 w5) := q2; obtain ⟨p, pc, rfl, HP⟩ := own_row255 q1; clear hh q1 q2))
  have HI5 : Hid (Bx w5 S 70 L ∧ (∀ i, i < 255 → w5.cell? ⟨p, i, none⟩ = some (.int .u8 ((Em i).1 : Nat))) ∧ Below M w w5 ∧ M ≤ w5.heap.size) := by
    have e5 : Below M w w5 := HI4.out.2.trans (HB5.out.mono (bel_size HI4.out.2 HMM.out))
    exact ⟨HI4.out.1.below HB5.out, HP.out.1, e5, bel_size e5 HMM.out⟩
  clear HI4 HB5 HP
  obtain ⟨B, HB⟩ : ∃ B, Hid (w5.heap.size = B) := ⟨_, rfl⟩
  go_wp2
  go_loopw [6, 7] (fun vm vj wr => ∃ (mv : Value) (j : Nat), vm = mv ∧ j ≤ 4 ∧ vj = .int .i64 (j : Nat) ∧ Hid (∃ gs cs, GlI B 4 j (codM s) gs cs mv wr ∧ Below B w5 wr)) (fun _ vj _ => 4 - (intOf vj).toNat)
  case atStart => exact ⟨_, 0, rfl, by omega, rfl, fun _ => 0, fun _ => 0, ⟨World.ownsRow_nil _ _ _ _, fun _ h => absurd h (by omega), fun _ _ h => absurd h (by omega)⟩, Below.refl _ _⟩
  case round =>
    obtain ⟨mv, j, hvs, hj, rfl, HJ⟩ := hrel
    obtain rfl := hvs.symm
    by_cases hlt : j < 4
    case pos =>
      have HK : Hid (j < 4) := hlt
      have gj : (j : Int) < 4 := by omega
      obtain ⟨A, HA⟩ : ∃ A, Hid (3 * j = A) := ⟨_, rfl⟩
      obtain ⟨C, HC⟩ : ∃ A, Hid (2 * j = A) := ⟨_, rfl⟩
      obtain ⟨n1, n2, n3, n4, n5, n6, n7, n8, n9⟩ := cod_num j A C hlt HA.out HC.out
      obtain ⟨xa, Hxa⟩ : ∃ z : F, Hid (Em (3 * j) = z) := ⟨_, rfl⟩
      obtain ⟨xb, Hxb⟩ : ∃ z : F, Hid (Em (2 * j) = z) := ⟨_, rfl⟩
      obtain ⟨xc, Hxc⟩ : ∃ z : F, Hid (Em j = z) := ⟨_, rfl⟩
      obtain ⟨xd, Hxd⟩ : ∃ z : F, Hid (s j = z) := ⟨_, rfl⟩
      obtain ⟨gs, cs, hG, hB⟩ := HJ.out
      have HJ2 : Hid (GlI B 4 j (codM s) gs cs mv wr ∧ Below B w5 wr ∧ B ≤ wr.heap.size) := ⟨hG, hB, bel_size hB HB.out⟩
      have hS0 : wr.drew.cell? ⟨p, A, none⟩ = some (.int .u8 (xa.1 : Nat)) ∧ wr.drew.cell? ⟨p, C, none⟩ = some (.int .u8 (xb.1 : Nat)) ∧ wr.drew.cell? ⟨p, j, none⟩ = some (.int .u8 (xc.1 : Nat)) ∧ wr.drew.cell? ⟨S, j, none⟩ = some (.int .u8 (xd.1 : Nat)) := by
        have hbw : Below w5.heap.size w5 wr := by rw [HB.out]; exact hB
        have r : ∀ i, i < 255 → wr.cell? ⟨p, i, none⟩ = some (.int .u8 ((Em i).1 : Nat)) := fun i hi => (hbw.cell (World.block_lt_of_cell? _ _ (HI5.out.2.1 i hi))).trans (HI5.out.2.1 i hi)
        have r1 := r A (by have := HA.out; omega)
        have r2 := r C (by have := HC.out; omega)
        have r3 := r j (by omega)
        rw [← HA.out, Hxa.out] at r1
        rw [← HC.out, Hxb.out] at r2
        rw [Hxc.out] at r3
        have r4 := (HI5.out.1.below hbw).cell j (.int .u8 ((s j).1 : Nat)) (by
          rw [← HLL.out, fc_at _ j (by show j < 4; exact hlt)]
          have e : (sumL (l ++ z4)).getD j 0 = sumG (l ++ z4) j := by
            match j, hlt with
            | 0, _ => rfl
            | 1, _ => rfl
            | 2, _ => rfl
            | 3, _ => rfl
          rw [e, show z4 = [0, 0, 0, 0] from rfl, HSS.out])
        rw [Hxd.out] at r4
        exact ⟨by rw [← HA.out]; exact r1, by rw [← HC.out]; exact r2, r3, r4⟩
      clear hG hB HJ hlt hj
      go_upto_region 8 with fail
      refine wp_region_noPanic ?_
      refine wp_region_till (fun u => u.cell? ⟨p, A, none⟩ = some (.int .u8 (xa.1 : Nat)) ∧ u.cell? ⟨p, C, none⟩ = some (.int .u8 (xb.1 : Nat)) ∧ u.cell? ⟨p, j, none⟩ = some (.int .u8 (xc.1 : Nat)) ∧ u.cell? ⟨S, j, none⟩ = some (.int .u8 (xd.1 : Nat))) 20 (by kernel_rfl) (by decide) (by decide +kernel) (by decide +kernel) (by decide +kernel) (fun inv => ?_)
      refine till_at 0 22 (mv) inv rfl rfl (by decide) (by decide +kernel) (by decide +kernel) (fun _ _ _ h => h) (hS0) (Or.inl ⟨by rfl, fun w' hS' => by obtain ⟨k1, k2, k3, k4⟩ := hS'; go_simp⟩) (fun inv' => ?_)
      clear inv; have inv := inv'; clear inv'
      try simp only [List.setIfInBounds_toArray, List.set_cons_zero, List.set_cons_succ]
      refine till_at 1 23 (.slice (some ⟨p, 0, none⟩) 255 pc) inv rfl rfl (by decide) (by decide +kernel) (by decide +kernel) (fun _ _ _ h => h) (hS0) (Or.inl ⟨by rfl, fun w' hS' => by obtain ⟨k1, k2, k3, k4⟩ := hS'; go_simp⟩) (fun inv' => ?_)
      clear inv; have inv := inv'; clear inv'
      try simp only [List.setIfInBounds_toArray, List.set_cons_zero, List.set_cons_succ]
      refine till_at 2 24 (.int .i64 (j : Nat)) inv rfl rfl (by decide) (by decide +kernel) (by decide +kernel) (fun _ _ _ h => h) (hS0) (Or.inl ⟨by rfl, fun w' hS' => by obtain ⟨k1, k2, k3, k4⟩ := hS'; go_simp⟩) (fun inv' => ?_)
      clear inv; have inv := inv'; clear inv'
      try simp only [List.setIfInBounds_toArray, List.set_cons_zero, List.set_cons_succ]
      refine till_at 3 25 (.int .i64 (A : Nat)) inv rfl rfl (by decide) (by decide +kernel) (by decide +kernel) (fun _ _ _ h => h) (hS0) (Or.inl ⟨by rfl, fun w' hS' => by obtain ⟨k1, k2, k3, k4⟩ := hS'; go_simp⟩) (fun inv' => ?_)
      clear inv; have inv := inv'; clear inv'
      try simp only [List.setIfInBounds_toArray, List.set_cons_zero, List.set_cons_succ]
      refine till_at 4 26 (.pointer (some ⟨p, A, none⟩)) inv rfl rfl (by decide) (by decide +kernel) (by decide +kernel) (fun _ _ _ h => h) (hS0) (Or.inl ⟨by rfl, fun w' hS' => by obtain ⟨k1, k2, k3, k4⟩ := hS'; go_simp⟩) (fun inv' => ?_)
      clear inv; have inv := inv'; clear inv'
      try simp only [List.setIfInBounds_toArray, List.set_cons_zero, List.set_cons_succ]
      refine till_at 5 27 (.int .u8 ((xa).1 : Nat)) inv rfl rfl (by decide) (by decide +kernel) (by decide +kernel) (fun _ _ _ h => h) (hS0) (Or.inl ⟨by rfl, fun w' hS' => by obtain ⟨k1, k2, k3, k4⟩ := hS'; go_simp⟩) (fun inv' => ?_)
      clear inv; have inv := inv'; clear inv'
      try simp only [List.setIfInBounds_toArray, List.set_cons_zero, List.set_cons_succ]
      refine till_at 6 28 (.slice (some ⟨p, 0, none⟩) 255 pc) inv rfl rfl (by decide) (by decide +kernel) (by decide +kernel) (fun _ _ _ h => h) (hS0) (Or.inl ⟨by rfl, fun w' hS' => by obtain ⟨k1, k2, k3, k4⟩ := hS'; go_simp⟩) (fun inv' => ?_)
      clear inv; have inv := inv'; clear inv'
      try simp only [List.setIfInBounds_toArray, List.set_cons_zero, List.set_cons_succ]
      refine till_at 7 29 (.int .i64 (j : Nat)) inv rfl rfl (by decide) (by decide +kernel) (by decide +kernel) (fun _ _ _ h => h) (hS0) (Or.inl ⟨by rfl, fun w' hS' => by obtain ⟨k1, k2, k3, k4⟩ := hS'; go_simp⟩) (fun inv' => ?_)
      clear inv; have inv := inv'; clear inv'
      try simp only [List.setIfInBounds_toArray, List.set_cons_zero, List.set_cons_succ]
      refine till_at 8 30 (.int .i64 (C : Nat)) inv rfl rfl (by decide) (by decide +kernel) (by decide +kernel) (fun _ _ _ h => h) (hS0) (Or.inl ⟨by rfl, fun w' hS' => by obtain ⟨k1, k2, k3, k4⟩ := hS'; go_simp⟩) (fun inv' => ?_)
      clear inv; have inv := inv'; clear inv'
      try simp only [List.setIfInBounds_toArray, List.set_cons_zero, List.set_cons_succ]
      refine till_at 9 31 (.pointer (some ⟨p, C, none⟩)) inv rfl rfl (by decide) (by decide +kernel) (by decide +kernel) (fun _ _ _ h => h) (hS0) (Or.inl ⟨by rfl, fun w' hS' => by obtain ⟨k1, k2, k3, k4⟩ := hS'; go_simp⟩) (fun inv' => ?_)
      clear inv; have inv := inv'; clear inv'
      try simp only [List.setIfInBounds_toArray, List.set_cons_zero, List.set_cons_succ]
      refine till_at 10 32 (.int .u8 ((xb).1 : Nat)) inv rfl rfl (by decide) (by decide +kernel) (by decide +kernel) (fun _ _ _ h => h) (hS0) (Or.inl ⟨by rfl, fun w' hS' => by obtain ⟨k1, k2, k3, k4⟩ := hS'; go_simp⟩) (fun inv' => ?_)
      clear inv; have inv := inv'; clear inv'
      try simp only [List.setIfInBounds_toArray, List.set_cons_zero, List.set_cons_succ]
      refine till_at 11 33 (.slice (some ⟨p, 0, none⟩) 255 pc) inv rfl rfl (by decide) (by decide +kernel) (by decide +kernel) (fun _ _ _ h => h) (hS0) (Or.inl ⟨by rfl, fun w' hS' => by obtain ⟨k1, k2, k3, k4⟩ := hS'; go_simp⟩) (fun inv' => ?_)
      clear inv; have inv := inv'; clear inv'
      try simp only [List.setIfInBounds_toArray, List.set_cons_zero, List.set_cons_succ]
      refine till_at 12 34 (.int .i64 (j : Nat)) inv rfl rfl (by decide) (by decide +kernel) (by decide +kernel) (fun _ _ _ h => h) (hS0) (Or.inl ⟨by rfl, fun w' hS' => by obtain ⟨k1, k2, k3, k4⟩ := hS'; go_simp⟩) (fun inv' => ?_)
      clear inv; have inv := inv'; clear inv'
      try simp only [List.setIfInBounds_toArray, List.set_cons_zero, List.set_cons_succ]
      refine till_at 13 35 (.pointer (some ⟨p, j, none⟩)) inv rfl rfl (by decide) (by decide +kernel) (by decide +kernel) (fun _ _ _ h => h) (hS0) (Or.inl ⟨by rfl, fun w' hS' => by obtain ⟨k1, k2, k3, k4⟩ := hS'; go_simp⟩) (fun inv' => ?_)
      clear inv; have inv := inv'; clear inv'
      try simp only [List.setIfInBounds_toArray, List.set_cons_zero, List.set_cons_succ]
      refine till_at 14 36 (.int .u8 ((xc).1 : Nat)) inv rfl rfl (by decide) (by decide +kernel) (by decide +kernel) (fun _ _ _ h => h) (hS0) (Or.inl ⟨by rfl, fun w' hS' => by obtain ⟨k1, k2, k3, k4⟩ := hS'; go_simp⟩) (fun inv' => ?_)
      clear inv; have inv := inv'; clear inv'
      try simp only [List.setIfInBounds_toArray, List.set_cons_zero, List.set_cons_succ]
      refine till_at 15 37 (.int .i64 (j : Nat)) inv rfl rfl (by decide) (by decide +kernel) (by decide +kernel) (fun _ _ _ h => h) (hS0) (Or.inl ⟨by rfl, fun w' hS' => by obtain ⟨k1, k2, k3, k4⟩ := hS'; go_simp⟩) (fun inv' => ?_)
      clear inv; have inv := inv'; clear inv'
      try simp only [List.setIfInBounds_toArray, List.set_cons_zero, List.set_cons_succ]
      refine till_at 16 38 (.pointer (some ⟨S, j, none⟩)) inv rfl rfl (by decide) (by decide +kernel) (by decide +kernel) (fun _ _ _ h => h) (hS0) (Or.inl ⟨by rfl, fun w' hS' => by obtain ⟨k1, k2, k3, k4⟩ := hS'; go_simp⟩) (fun inv' => ?_)
      clear inv; have inv := inv'; clear inv'
      try simp only [List.setIfInBounds_toArray, List.set_cons_zero, List.set_cons_succ]
      refine till_at 17 39 (.int .u8 ((xd).1 : Nat)) inv rfl rfl (by decide) (by decide +kernel) (by decide +kernel) (fun _ _ _ h => h) (hS0) (Or.inl ⟨by rfl, fun w' hS' => by obtain ⟨k1, k2, k3, k4⟩ := hS'; go_simp⟩) (fun inv' => ?_)
      clear inv; have inv := inv'; clear inv'
      try simp only [List.setIfInBounds_toArray, List.set_cons_zero, List.set_cons_succ]
      refine till_head (i := 18) inv (by decide +kernel) (by decide) rfl (fun KK hK => ?_)
      go_simp
      obtain ⟨w6, hw6⟩ : ∃ u, u = (wr.alloc (.cells #[.int .u8 (xa.1 : Nat), .int .u8 (xb.1 : Nat), .int .u8 (xc.1 : Nat), .int .u8 1, .int .u8 (xd.1 : Nat)] 5)).drew := ⟨_, rfl⟩
      have HB6 : Hid (Below wr.heap.size wr w6 ∧ Rx w6 wr.heap.size (rowL (codM s) 4 j) ∧ w6.heap.size = wr.heap.size + 1) := by
        rw [hw6]
        refine ⟨((Below.refl _ _).alloc (Nat.le_refl _) _).drew, ?_, by simp⟩
        exact row5 s j HK.out wr xa xb xc xd Hxa.out Hxb.out Hxc.out Hxd.out
      have hS6 : w6.cell? ⟨p, A, none⟩ = some (.int .u8 (xa.1 : Nat)) ∧ w6.cell? ⟨p, C, none⟩ = some (.int .u8 (xb.1 : Nat)) ∧ w6.cell? ⟨p, j, none⟩ = some (.int .u8 (xc.1 : Nat)) ∧ w6.cell? ⟨S, j, none⟩ = some (.int .u8 (xd.1 : Nat)) := by
        obtain ⟨k1, k2, k3, k4⟩ := hS0
        exact ⟨(HB6.out.1.cell (World.block_lt_of_cell? wr _ k1)).trans k1, (HB6.out.1.cell (World.block_lt_of_cell? wr _ k2)).trans k2, (HB6.out.1.cell (World.block_lt_of_cell? wr _ k3)).trans k3, (HB6.out.1.cell (World.block_lt_of_cell? wr _ k4)).trans k4⟩
      rw [← hw6]
      clear hw6
      refine hK.out _ _ hS6 (fun inv' => ?_)
      clear hK KK inv; have inv := inv'; clear inv'
      try simp only [Act.put, List.setIfInBounds_toArray, List.set_cons_zero, List.set_cons_succ]
      refine till_head (i := 19) inv (by decide +kernel) (by decide) rfl (fun KK hK => ?_)
      go_simp
      obtain ⟨w7, hw7⟩ : ∃ u, u = w6.alloc (.cells #[.slice (some ⟨wr.heap.size, 0, none⟩) 5 5] 23) := ⟨_, rfl⟩
      have HB7 : Hid (Below wr.heap.size wr w7 ∧ Rx w7 wr.heap.size (rowL (codM s) 4 j) ∧ ∀ q u, [Value.slice (some ⟨wr.heap.size, 0, none⟩) 5 5][q]? = some u → w7.cell? ((⟨w6.heap.size, 0, none⟩ : Addr).add q) = some u) := by
        rw [hw7]
        have hb : Below w6.heap.size w6 (w6.alloc (.cells #[.slice (some ⟨wr.heap.size, 0, none⟩) 5 5] 23)) := (Below.refl _ _).alloc (Nat.le_refl _) _
        exact ⟨HB6.out.1.trans (hb.mono HB6.out.1.size), HB6.out.2.1.below hb, one_cell w6 _ 23⟩
      have hS7 : w7.cell? ⟨p, A, none⟩ = some (.int .u8 (xa.1 : Nat)) ∧ w7.cell? ⟨p, C, none⟩ = some (.int .u8 (xb.1 : Nat)) ∧ w7.cell? ⟨p, j, none⟩ = some (.int .u8 (xc.1 : Nat)) ∧ w7.cell? ⟨S, j, none⟩ = some (.int .u8 (xd.1 : Nat)) := by
        obtain ⟨k1, k2, k3, k4⟩ := hS0
        exact ⟨(HB7.out.1.cell (World.block_lt_of_cell? wr _ k1)).trans k1, (HB7.out.1.cell (World.block_lt_of_cell? wr _ k2)).trans k2, (HB7.out.1.cell (World.block_lt_of_cell? wr _ k3)).trans k3, (HB7.out.1.cell (World.block_lt_of_cell? wr _ k4)).trans k4⟩
      rw [← hw7]
      clear hw7
      refine hK.out _ _ hS7 (fun inv' => ?_)
      clear hK KK inv; have inv := inv'; clear inv'
      try simp only [Act.put, List.setIfInBounds_toArray, List.set_cons_zero, List.set_cons_succ]
      refine till_tail (i := 20) (by decide +kernel) (by decide) rfl (fun KK hK => ?_)
      refine step_append_lies w7 rfl (.tmp 22) (.tmp 41) 73 rfl B 23 i25 (.slice none 0 0) 1 24 Tryd.und70 hi5 hz5 hz6 hz7 rfl (by decide) mv j ((List.range j).map (rowV 4 gs cs)) rfl (own_below HJ2.out.1.own HB7.out.1) ⟨w6.heap.size, 0, none⟩ 1 1 [.slice (some ⟨wr.heap.size, 0, none⟩) 5 5] rfl rfl HB7.out.2.2 (by intro x hx; simp at hx; subst hx; rfl) (by decide) (by have := HK.out; unfold maxLen; omega) (by have := HK.out; omega) (by have := HJ2.out.2.2; have := HB7.out.1.size; omega) _ rfl ?_
      intro g c9 w8 hown hgrow _ _
      have HX : Hid (GlI B 4 (j + 1) (codM s) (fun q => if q = j then wr.heap.size else gs q) (fun q => if q = j then 5 else cs q) (.slice (some ⟨g, 0, none⟩) (j + 1) c9) w8 ∧ Below B w5 w8) := ⟨HJ2.out.1.more HB7.out.1 HB7.out.2.1 (Nat.le_refl 5) (Nat.le_refl _) HJ2.out.2.2 hown hgrow, (HJ2.out.2.1.trans (HB7.out.1.mono HJ2.out.2.2)).grown hgrow (by have := HJ2.out.2.2; have := HB7.out.1.size; omega) (fun q hq => (HJ2.out.1.own.lt q hq).1)⟩
      clear hown hgrow
      refine hK.out _ _ ?_
      clear hK KK
      try simp only [Act.put, List.setIfInBounds_toArray, List.set_cons_zero, List.set_cons_succ]
      refine till_tail (i := 21) (by decide +kernel) (by decide) rfl (fun KK hK => ?_)
      go_simp
      refine hK.out _ _ ?_
      clear hK KK
      try simp only [List.setIfInBounds_toArray, List.set_cons_zero, List.set_cons_succ]
      refine till_done (by decide +kernel) ?_ _
      refine NoPanic.normal ?_
      clear inv hS0 hS6 hS7
      go_wp2
      have e0 := HK.out
      refine ⟨⟨_, j + 1, by rfl, by omega, by first | rfl | (simp; done), _, _, HX.out⟩, ?_⟩
      simp [intOf]
      omega
    case neg =>
      obtain rfl : j = 4 := by omega
      obtain ⟨gs, cs, hG, hB⟩ := HJ.out
      obtain ⟨G, cap, rfl, HMT⟩ := hG.mat (by decide)
      have HIN : Hid (InM wr G 0 4 4 (codM s) ∧ 4 ≤ cap) := ⟨fun i hi => ⟨gs i, 0, cs i, by rw [Nat.zero_add]; exact HMT.out.2.ptr i hi, HMT.out.2.cap i hi, (HMT.out.2.row i hi).rw⟩, HMT.out.1⟩
      have HBW : Hid (Below M w wr) := HI5.out.2.2.1.trans (hB.mono (by rw [← HB.out]; exact HI5.out.2.2.2))
      clear hG hB HMT HJ hlt hj
      go_upto_region 10 with (go_at_call 47; refine (H33.out G cap wr HIN.out.1 HIN.out.2).mono ?_; intro e6 w6 hh; obtain ⟨g3, c3, rfl, q1, q2⟩ := hh.out; have HB6 : Hid (Rx w6 g3 x0 ∧ Below wr.heap.size wr w6) := ⟨q1, q2⟩; clear hh q1 q2)
      have HB7 : Hid (Below M w w6) := HBW.out.trans (HB6.out.2.mono (bel_size HBW.out HMM.out))
      have hbs := bs0 w6
      obtain ⟨K9, HK9⟩ : ∃ k, Hid (w6.heap.size = k) := ⟨_, rfl⟩
      go_wp2_with (first
        | (refine wpList_clone_own (by rfl) (.tmp 48) (.tmp 49) (by rfl) w6.heap.size (by rfl) (new_none w6) b off n c l (by rfl) HN.out.1 HN.out.2.1 (by have := HN.out; omega) (HR.out.below (by rw [HMM.out]; exact HB7.out.alloc (bel_size HB7.out HMM.out) _)) ?_; intro v8 w8 ho1 hb1; have H8 : Hid (w8.ownsRow w6.heap.size 5 1 v8 n (fc l) ∧ Below w6.heap.size w6 w8) := ⟨ho1, Below.trans ((Below.refl _ _).alloc (Nat.le_refl _) _) hb1⟩; clear ho1 hb1)
        | (at_builtin; go_must (refine wpList_append_own _ rfl (.tmp 50) (.tmp 51) 23 rfl w6.heap.size 5 i0 (.int .u8 0) 1 1 Tryd.underlying23 hi hz0 hz1 hz2 rfl (by decide) _ n _ rfl H8.out.1 ⟨g3, 0, none⟩ 4 c3 (fc x0) rfl (by rw [fc_len, HN.out.2.2.2.1]) (rx_cells (HB6.out.1.below H8.out.2)) (fc_one _) (by have := HN.out; unfold maxLen; omega) (by have := HN.out; omega) H8.out.2.size ?_; intro v9 w9 hown hgrow hnil; have H9 : Hid (w9.ownsRow w6.heap.size 5 1 v9 (n + 4) (fc (l ++ x0)) ∧ Below w6.heap.size w6 w9) := ⟨by rw [fc_app]; exact hown, H8.out.2.grown hgrow H8.out.2.size (fun q hq => (H8.out.1.lt q hq).1)⟩; clear hown hgrow hnil)))
      go_ret
      have hlen : (l ++ x0).length = n + 4 := by rw [List.length_append, HN.out.1, HN.out.2.2.2.1]
      obtain ⟨g9, c9, rfl, HG9⟩ := own_rx (l := l ++ x0) (by rw [hlen]; exact H9.out.1) (by rw [hlen]; omega)
      rw [hlen] at *
      refine ⟨g9, c9, rfl, own_cap H9.out.1 (by omega), HG9.out.1, ?_⟩
      rw [HMM.out]
      exact HB7.out.trans (H9.out.2.mono (bel_size HB7.out HMM.out))
end Go.Proofs.YtbpkocohddlbhaaDoor
namespace Go.Proofs.YtbpkocohddlbhaaDoor
open Go.RowKit
set_option linter.unusedVariables false
set_option linter.unusedSimpArgs false
theorem wrap_next (j r : Nat) (h : j < r) (hr : r ≤ 1000) : wrap64 ((j : Int) + 1) = ((j + 1 : Nat) : Int) := by unfold wrap64; omega
theorem sub_next (j r : Nat) (h : j < r) : r - (intOf (.int .i64 ((j + 1 : Nat) : Int))).toNat < r - (intOf (.int .i64 (j : Nat))).toNat := by simp only [intOf, Int.toNat_natCast]; omega
theorem field24 (a b c d : Int) (w : World) : (Instr.field 24 (.agg #[.int .u16 a, .int .i64 b, .int .i64 c, .int .i64 d]) 3).run Tryd.prog w = .ok (.int .i64 d) w := by kernel_rfl
/-- Is it a share's row? -/
def okS (l : List F) : Prop := (1 ≤ (l.getD 2 0).1 ∧ (l.getD 2 0).1 ≤ 16) ∧ 1 ≤ (l.getD 3 0).1 ∧ (1 ≤ (l.getD 4 0).1 ∧ (l.getD 4 0).1 ≤ 64) ∧ l.length = unc (l.getD 4 0).1 + 4 ∧ (∀ j, j < (9 + (l.getD 4 0).1) % 2 → l.getD (9 + (l.getD 4 0).1 + j) 0 = 0) ∧ sumL l = [0, 0, 0, 0]
end Go.Proofs.YtbpkocohddlbhaaDoor
namespace Go.Proofs.YtbpkocohddlbhaaDoor
open Go.RowKit
set_option linter.unusedVariables false
set_option linter.unusedSimpArgs false
theorem results_cell3 {fn : Func} {p t u : Tmp} {ty : TypeId} (h : fn.results = #[.cell p ty, .tmp t, .tmp u]) (tmps : Array Value) (P : Program) (w : World) :
    (results fn tmps).run P w = ((asAddr (tmps.getD p undef)).run P w).andThen fun a w₁ => ((loadVar ty a).run P w₁).andThen fun v w₂ => .ok (.tuple #[v, tmps.getD t undef, tmps.getD u undef]) w₂ := by
  simp only [results, h]
  simp [Sem.run_bind, Result.andThen]
/-- A function that ends with a struct in a cell of its own and two more. -/
theorem ret_cell3 {P : Program} {fn : Func} {p t u : Tmp} {ty : TypeId} {d : TypeDesc} {Q : Ending → World → Prop} {tmps : Array Value} {w : World} {b : Nat} (cs : List Value) (x y : Value) (h : fn.results = #[.cell p ty, .tmp t, .tmp u])
    (hp : tmps.getD p undef = .pointer (some ⟨b, 0, none⟩)) (hx : tmps.getD t undef = x) (hy : tmps.getD u undef = y) (hr : w.rangeAt b 0 cs) (hu : P.underlying ty = some d) (hd : d.isRow = true) (hi : (P.info? ty).map (·.size) = some cs.length)
    (hq : Q (.returned (.tuple #[.agg cs.toArray, x, y])) w) : bodyPost P fn Q .ret ⟨tmps, []⟩ w := by
  refine bodyPost_ret (v := .tuple #[.agg cs.toArray, x, y]) ?_ rfl hq
  rw [results_cell3 h]
  have hl := run_loadVar_mid (P := P) w b 0 ty cs d hr hu hd hi
  simp [hp, asAddr, hl, hx, hy, Result.andThen]
theorem fit_num (s V Z LL : Nat) (hs : s < 256) (hV : s + 4 = V) (hZ : 9 + s = Z) (hL : 13 + s = LL) : IntKind.i64.wrap ((s : Int) + 4) = (V : Int) ∧ IntKind.i64.wrap (5 + (V : Int)) = (Z : Int) ∧ IntKind.i64.wrap ((Z : Int) + 4) = (LL : Int) ∧ IntKind.i64.wrap ((LL : Int) + 1) = ((LL + 1 : Nat) : Int) := by
  refine ⟨?_, ?_, ?_, ?_⟩ <;> (rw [IntKind.wrap_i64]; omega)
theorem par_odd (s Z LL U : Nat) (hs : s < 256) (hZ : 9 + s = Z) (hL : 13 + s = LL) (hU : unc s + 4 = U) (h : (9 + s) % 2 = 1) : (LL : Int).tmod 2 = 1 ∧ (Z : Int).tmod 2 = 1 ∧ LL + 1 = U ∧ Z + 5 = U := by
  unfold unc at hU
  refine ⟨?_, ?_, by omega, by omega⟩ <;> (rw [Int.tmod_eq_emod_of_nonneg (by omega)]; omega)
theorem par_even (s Z LL U : Nat) (hs : s < 256) (hZ : 9 + s = Z) (hL : 13 + s = LL) (hU : unc s + 4 = U) (h : ¬ (9 + s) % 2 = 1) : (LL : Int).tmod 2 = 0 ∧ (Z : Int).tmod 2 = 0 ∧ LL = U ∧ Z + 4 = U := by
  unfold unc at hU
  refine ⟨?_, ?_, by omega, by omega⟩ <;> (rw [Int.tmod_eq_emod_of_nonneg (by omega)]; omega)
/-- Is it a share's row, but for its code? -/
def okF (l : List F) : Prop := (1 ≤ (l.getD 2 0).1 ∧ (l.getD 2 0).1 ≤ 16) ∧ 1 ≤ (l.getD 3 0).1 ∧ (1 ≤ (l.getD 4 0).1 ∧ (l.getD 4 0).1 ≤ 64) ∧ l.length = unc (l.getD 4 0).1 + 4 ∧ (∀ j, j < (9 + (l.getD 4 0).1) % 2 → l.getD (9 + (l.getD 4 0).1 + j) 0 = 0)
theorem okS_okF (l : List F) : okS l ↔ okF l ∧ sumL l = [0, 0, 0, 0] := by
  unfold okS okF
  constructor
  · intro h; exact ⟨⟨h.1, h.2.1, h.2.2.1, h.2.2.2.1, h.2.2.2.2.1⟩, h.2.2.2.2.2⟩
  · intro h; exact ⟨h.1.1, h.1.2.1, h.1.2.2.1, h.1.2.2.2.1, h.1.2.2.2.2, h.2⟩
theorem rw_mid {w : World} {b off : Nat} {l : List F} (h : Rw w b off l) (k m : Nat) (hk : k + m ≤ l.length) : Rw w b (off + k) ((l.drop k).take m) := fun i hi => by
  have hm : i < m := by rw [List.length_take] at hi; omega
  have q := h (k + i) (by omega)
  rw [show ((l.drop k).take m).getD i 0 = l.getD (k + i) 0 by simp only [List.getD_eq_getElem?_getD, List.getElem?_take, List.getElem?_drop, if_pos hm]]
  rw [Nat.add_assoc]
  exact q
end Go.Proofs.YtbpkocohddlbhaaDoor
