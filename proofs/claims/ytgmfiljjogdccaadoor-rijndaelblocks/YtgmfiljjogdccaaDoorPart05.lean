import Derived.WalkKit
import Derived.Deep.RegionHeld3
import Derived.StillTail
import Derived.Test.YtgmfiljjogdccaaDoorBlk
import Derived.Deep.MidRow
import Derived.Laws.ResultCell
import Derived.Below
import Derived.Deep.Draws
import Derived.Deep.Upon
import Derived.Deep.CutRange
namespace Go.Proofs.YtgmfiljjogdccaaDoor
set_option linter.unusedVariables false
variable {P : Program} {ops : Array Oper} {Q : Exit → Act → World → Prop} {md : Region.Mode} {S : World → Prop} {n : Nat}

/-- Whatever order is picked; S holds behind every operation of the head (the first n); the tail may do as it likes. -/
def wpTill (P : Program) (md : Region.Mode) (ops : Array Oper) (Q : Exit → Act → World → Prop) (S : World → Prop) (n : Nat) : Nat → Array Bool → Act → World → Prop
  | 0, l, a, w => Region.ready md ops l = [] ∧ Q .normal a w
  | f + 1, l, a, w =>
    (Region.ready md ops l = [] → Q .normal a w) ∧
    ∀ i, i ∈ Region.ready md ops l → wpOp P ops Q i (fun b u => (i < n → S u) ∧ wpTill P md ops Q S n f (l.setIfInBounds i true) b u) a w

theorem any_of_till (f : Nat) : ∀ (l : Array Bool) (a : Act) (w : World), wpTill P md ops Q S n f l a w → wpAny P md ops Q f l a w := by
  induction f with
  | zero => exact fun _ _ _ h => h
  | succ f ih => exact fun l a w h => ⟨h.1, fun i hi => wpOp_mono (fun b u k => ih _ b u k.2) (h.2 i hi)⟩

theorem till_first {i : Nat} {oi : Oper} {v : Value} (hi : ops[i]? = some oi) (hin : i < n) (hn : n < ops.size) (hsk : Region.sinkB md ops n = true) (hch : Region.chainB md ops n = true)
    (hsel : ∀ (j : Nat) (o : Oper) cs b, ops[j]? = some o → o.op ≠ .select cs b) (hQ : ∀ c a w, Q (.panic c) (a.put oi.dst v) w → Q (.panic c) a w) (f : Nat) :
    ∀ (l : Array Bool) (a : Act) (w : World), HeadInv md ops n l →
      (∀ j oj, ops[j]? = some oj → j ≠ i → l.getD j true = false → (∀ e ∈ oj.after, Region.binds md e = true → e.on ≠ i) → oi.apart ops oj = true) →
      i ∈ Region.ready md ops l → YieldsIf P ops S oi v a → S w → wpTill P md ops Q S n f (l.setIfInBounds i true) (a.put oi.dst v) w → wpTill P md ops Q S n (f + 1) l a w := by
  induction f with
  | zero =>
    intro l a w inv _ hr hy hS H
    refine ⟨fun h => (by rw [h] at hr; cases hr), fun j hj => ?_⟩
    by_cases hji : j = i
    · subst hji
      exact hy.wpOp hi hS ⟨fun _ => hS, H⟩
    · have h := ready_mono hj hji
      rw [H.1] at h
      cases h
  | succ f ih =>
    intro l a w inv hfree hr hy hS H
    refine ⟨fun h => (by rw [h] at hr; cases hr), fun j hj => ?_⟩
    by_cases hji : j = i
    · subst hji
      exact hy.wpOp hi hS ⟨fun _ => hS, H⟩
    have hun := (mem_ready.1 hr).1
    have hjn : j < n := by
      rcases Nat.lt_or_ge j n with h | h
      · exact h
      · exact absurd hj (tail_waits hsk hch hn inv _ i rfl hin hun j h)
    have h1 := H.2 j (ready_mono hj hji)
    obtain ⟨hjun, oj, hoj, hall⟩ := mem_ready.1 hj
    have hnot : ∀ e ∈ oj.after, Region.binds md e = true → e.on ≠ i := fun e he hb heq => by
      have h2 := hall e he hb
      rw [heq] at h2
      rw [getD_both hun] at h2
      cases h2
    have h2 := wpOp_putIf hoj (hfree j oj hoj hji hjun hnot) (fun cs b => hsel i oi cs b hi) (fun cs b => hsel j oj cs b hoj) hQ hy h1
    refine wpOp_mono (fun b u h3 => ?_) h2
    have hSu := h3.2.1 hjn
    refine ⟨fun _ => hSu, ih (l.setIfInBounds j true) b u (inv.set hj hjn) (fun k ok hk hki hku hno => ?_) (ready_mono hr (Ne.symm hji)) h3.1 hSu ?_⟩
    · refine hfree k ok hk hki ?_ hno
      by_cases hjk : j = k
      · subst hjk; exact hjun
      · rw [getD_set_ne true hjk] at hku; exact hku
    · rw [Array.setIfInBounds_comm _ _ hji]
      exact h3.2.2

/-- What is carried along: the head's invariant, and what the region's form gives once. -/
structure Inv (md : Region.Mode) (ops : Array Oper) (n : Nat) (l : Array Bool) : Prop where
  head : HeadInv md ops n l
  lt : n < ops.size
  sink : Region.sinkB md ops n = true
  chain : Region.chainB md ops n = true
  sel : Region.noSelect ops = true
theorem Inv.set {l : Array Bool} {i : Nat} (inv : Inv md ops n l) (hi : i ∈ Region.ready md ops l) (hin : i < n) : Inv md ops n (l.setIfInBounds i true) := ⟨inv.head.set hi hin, inv.lt, inv.sink, inv.chain, inv.sel⟩

/-- An operation of the head that yields under S is taken first. -/
theorem till_at (i d : Nat) (v : Value) {oi : Oper} {f : Nat} {l : Array Bool} {tmps : Array Value} {ds : List Deferred} {w : World} (inv : Inv md ops n l) (hi : ops[i]? = some oi) (hd : oi.dst = some d)
    (hin : i < n) (hf : Region.free md ops l i = true) (hr : (Region.ready md ops l).contains i = true)
    (hQ : ∀ c a w, Q (.panic c) (a.put oi.dst v) w → Q (.panic c) a w) (hS : S w) (hy : YieldsIf P ops S oi v ⟨tmps, ds⟩)
    (h : Inv md ops n (l.setIfInBounds i true) → wpTill P md ops Q S n f (l.setIfInBounds i true) ⟨tmps.setIfInBounds d v, ds⟩ w) : wpTill P md ops Q S n (f + 1) l ⟨tmps, ds⟩ w := by
  have hr' : i ∈ Region.ready md ops l := by simpa using hr
  refine till_first hi hin inv.lt inv.sink inv.chain (Region.noSelect_spec inv.sel) hQ f l _ w inv.head (Region.free_spec hi hf) hr' hy hS ?_
  rw [hd]
  exact h (inv.set hr' hin)

/-- A lone operation of the head comes up. -/
theorem till_head {i : Nat} {o : Oper} {f : Nat} {l : Array Bool} {a : Act} {w : World} (inv : Inv md ops n l) (hr : Region.ready md ops l = [i]) (hin : i < n) (ho : ops[i]? = some o)
    (h : ∀ K' : Act → World → Prop, Shut (∀ a w, S w → (Inv md ops n (l.setIfInBounds i true) → wpTill P md ops Q S n f (l.setIfInBounds i true) a w) → K' a w) → if Region.wanted o (yielded ops a.tmps) = true then Oper.wp P o a w K' Q else K' (a.put o.dst undef) w) :
    wpTill P md ops Q S n (f + 1) l a w := by
  have hi : i ∈ Region.ready md ops l := by rw [hr]; simp
  refine ⟨fun h0 => (by rw [hr] at h0; cases h0), fun j hj => ?_⟩
  rw [hr] at hj
  obtain rfl : j = i := by simpa using hj
  exact wpOp_step ho (fun K' hK => h K' (fun a w hS hW => hK a w ⟨fun _ => hS, hW (inv.set hi hin)⟩))

/-- A lone operation of the tail comes up. -/
theorem till_tail {i : Nat} {o : Oper} {f : Nat} {l : Array Bool} {a : Act} {w : World} (hr : Region.ready md ops l = [i]) (hin : n ≤ i) (ho : ops[i]? = some o)
    (h : ∀ K' : Act → World → Prop, Shut (∀ a w, wpTill P md ops Q S n f (l.setIfInBounds i true) a w → K' a w) → if Region.wanted o (yielded ops a.tmps) = true then Oper.wp P o a w K' Q else K' (a.put o.dst undef) w) :
    wpTill P md ops Q S n (f + 1) l a w := by
  refine ⟨fun h0 => (by rw [hr] at h0; cases h0), fun j hj => ?_⟩
  rw [hr] at hj
  obtain rfl : j = i := by simpa using hj
  exact wpOp_step ho (fun K' hK => h K' (fun a w hW => hK a w ⟨fun h => by omega, hW⟩))

theorem till_done {l : Array Bool} {a : Act} {w : World} (hr : Region.ready md ops l = []) (h : Q .normal a w) : ∀ f, wpTill P md ops Q S n f l a w
  | 0 => ⟨hr, h⟩
  | _ + 1 => ⟨fun _ => h, fun i hi => by rw [hr] at hi; cases hi⟩

theorem wp_region_till {id : Nat} {a : Act} {w : World} (S : World → Prop) (n : Nat) (hm : P.follows .mixedOrders = true) (hn : n < ops.size) (hsk : Region.sinkB .any ops n = true) (hch : Region.chainB .any ops n = true) (hs : Region.noSelect ops = true)
    (h : Inv .any ops n (Array.replicate ops.size false) → wpTill P .any ops Q S n ops.size (Array.replicate ops.size false) a w.drew) : (Code.region id ops true).wp P Q a w := by
  refine wp_region_any hm (any_of_till _ _ _ _ (h ⟨⟨by simp, fun j oj _ hl => ?_, fun t _ ht => ?_⟩, hn, hsk, hch, hs⟩))
  · rw [getD_replicate_false] at hl; cases hl
  · simp [ht]
end Go.Proofs.YtgmfiljjogdccaaDoor
namespace Go.Proofs.YtgmfiljjogdccaaDoor
open Go.RowKit
set_option linter.unusedVariables false
/-- The bytes of a word. -/
def bt0 (x : Nat) : Nat := x / 16777216 % 256
def bt1 (x : Nat) : Nat := x / 65536 % 256
def bt2 (x : Nat) : Nat := x / 256 % 256
def bt3 (x : Nat) : Nat := x % 256
theorem bt0_lt (x : Nat) : bt0 x < 256 := Nat.mod_lt _ (by decide)
theorem bt1_lt (x : Nat) : bt1 x < 256 := Nat.mod_lt _ (by decide)
theorem bt2_lt (x : Nat) : bt2 x < 256 := Nat.mod_lt _ (by decide)
theorem bt3_lt (x : Nat) : bt3 x < 256 := Nat.mod_lt _ (by decide)
theorem wd_bt {x : Nat} (h : x < 4294967296) : wd (bt0 x) (bt1 x) (bt2 x) (bt3 x) = x := by unfold wd bt0 bt1 bt2 bt3; omega
theorem int_bt0 (x : Nat) : (x : Int) / 16777216 % 256 = (bt0 x : Nat) := by unfold bt0; omega
theorem int_bt1 (x : Nat) : (x : Int) / 65536 % 256 = (bt1 x : Nat) := by unfold bt1; omega
theorem int_bt2 (x : Nat) : (x : Int) / 256 % 256 = (bt2 x : Nat) := by unfold bt2; omega
theorem int_bt3 (x : Nat) : (x : Int) % 256 = (bt3 x : Nat) := by unfold bt3; omega
def mixw (a b c d : Nat) : Nat := mixc (bt0 a) (bt1 b) (bt2 c) (bt3 d)
def lastw (a b c d : Nat) : Nat := wd (SB (bt0 a)) (SB (bt1 b)) (SB (bt2 c)) (SB (bt3 d))
def undow (a b c d : Nat) : Nat := wd (UB (bt0 a)) (UB (bt1 b)) (UB (bt2 c)) (UB (bt3 d))
def unmw (a : Nat) : Nat := unmc (bt0 a) (bt1 a) (bt2 a) (bt3 a)
theorem mixw_lt (a b c d : Nat) : mixw a b c d < 4294967296 := xor_lt32 (xor_lt32 (xor_lt32 (MX_lt (bt0_lt a)) (M8_lt (bt1_lt b))) (M16_lt (bt2_lt c))) (M24_lt (bt3_lt d))
theorem unmw_lt (a : Nat) : unmw a < 4294967296 := xor_lt32 (xor_lt32 (xor_lt32 (UX_lt (bt0_lt a)) (U8_lt (bt1_lt a))) (U16_lt (bt2_lt a))) (U24_lt (bt3_lt a))
theorem lastw_lt (a b c d : Nat) : lastw a b c d < 4294967296 := wd_lt (SB_lt _) (SB_lt _) (SB_lt _) (SB_lt _)
theorem undow_lt (a b c d : Nat) : undow a b c d < 4294967296 := wd_lt (UB_lt _) (UB_lt _) (UB_lt _) (UB_lt _)
/-- A state: four columns. -/
structure W4 where
  (a b c d : Nat)
def W4.ok (s : W4) : Prop := s.a < 4294967296 ∧ s.b < 4294967296 ∧ s.c < 4294967296 ∧ s.d < 4294967296
def W4.val (s : W4) : Value := cols s.a s.b s.c s.d
def W4.list (s : W4) : List Value := [.int .u32 (s.a : Nat), .int .u32 (s.b : Nat), .int .u32 (s.c : Nat), .int .u32 (s.d : Nat)]
def W4.blk (s : W4) : Value := YtgmfiljjogdccaaDoor.blk (bt0 s.a) (bt1 s.a) (bt2 s.a) (bt3 s.a) (bt0 s.b) (bt1 s.b) (bt2 s.b) (bt3 s.b) (bt0 s.c) (bt1 s.c) (bt2 s.c) (bt3 s.c) (bt0 s.d) (bt1 s.d) (bt2 s.d) (bt3 s.d)
def addK (K : Nat → Nat) (r : Nat) (s : W4) : W4 := ⟨Nat.xor s.a (K (4 * r)), Nat.xor s.b (K (4 * r + 1)), Nat.xor s.c (K (4 * r + 2)), Nat.xor s.d (K (4 * r + 3))⟩
def mixS (s : W4) : W4 := ⟨mixw s.a s.b s.c s.d, mixw s.b s.c s.d s.a, mixw s.c s.d s.a s.b, mixw s.d s.a s.b s.c⟩
def lastS (s : W4) : W4 := ⟨lastw s.a s.b s.c s.d, lastw s.b s.c s.d s.a, lastw s.c s.d s.a s.b, lastw s.d s.a s.b s.c⟩
def undoS (s : W4) : W4 := ⟨undow s.a s.d s.c s.b, undow s.b s.a s.d s.c, undow s.c s.b s.a s.d, undow s.d s.c s.b s.a⟩
def unmS (s : W4) : W4 := ⟨unmw s.a, unmw s.b, unmw s.c, unmw s.d⟩
theorem mixS_ok (s : W4) : (mixS s).ok := ⟨mixw_lt _ _ _ _, mixw_lt _ _ _ _, mixw_lt _ _ _ _, mixw_lt _ _ _ _⟩
theorem lastS_ok (s : W4) : (lastS s).ok := ⟨lastw_lt _ _ _ _, lastw_lt _ _ _ _, lastw_lt _ _ _ _, lastw_lt _ _ _ _⟩
theorem undoS_ok (s : W4) : (undoS s).ok := ⟨undow_lt _ _ _ _, undow_lt _ _ _ _, undow_lt _ _ _ _, undow_lt _ _ _ _⟩
theorem unmS_ok (s : W4) : (unmS s).ok := ⟨unmw_lt _, unmw_lt _, unmw_lt _, unmw_lt _⟩
theorem addK_ok {K : Nat → Nat} (hK : ∀ i, K i < 4294967296) (r : Nat) {s : W4} (h : s.ok) : (addK K r s).ok := ⟨xor_lt32 h.1 (hK _), xor_lt32 h.2.1 (hK _), xor_lt32 h.2.2.1 (hK _), xor_lt32 h.2.2.2 (hK _)⟩
/-- Rounds 1 to r. -/
def iterE (K : Nat → Nat) : Nat → W4 → W4
  | 0, s => s
  | r + 1, s => addK K (r + 1) (mixS (iterE K r s))
def encW (nr : Nat) (K : Nat → Nat) (s : W4) : W4 := addK K nr (lastS (iterE K (nr - 1) (addK K 0 s)))
/-- Rounds r down to 1, undone. -/
def iterD (K : Nat → Nat) : Nat → W4 → W4
  | 0, s => s
  | r + 1, s => iterD K r (unmS (addK K (r + 1) (undoS s)))
def decW (nr : Nat) (K : Nat → Nat) (s : W4) : W4 := addK K 0 (undoS (iterD K (nr - 1) (addK K nr s)))
theorem iterE_ok {K : Nat → Nat} (hK : ∀ i, K i < 4294967296) {s : W4} (h : s.ok) : ∀ r, (iterE K r s).ok
  | 0 => h
  | r + 1 => addK_ok hK _ (mixS_ok _)
theorem encW_ok {K : Nat → Nat} (hK : ∀ i, K i < 4294967296) (nr : Nat) (s : W4) : (encW nr K s).ok := addK_ok hK _ (lastS_ok _)
theorem decW_ok {K : Nat → Nat} (hK : ∀ i, K i < 4294967296) (nr : Nat) (s : W4) : (decW nr K s).ok := addK_ok hK _ (undoS_ok _)

/-- A cipher at g, o. -/
structure Ciph (w : World) (g o nr : Nat) (K : Nat → Nat) : Prop where
  rounds : w.cell? ⟨g, o, none⟩ = some (.int .i64 (nr : Nat))
  words : ∀ i, i < 4 * (nr + 1) → w.cell? ⟨g, o + 1 + i, none⟩ = some (.int .u32 (K i : Nat))
  small : ∀ i, K i < 4294967296
  tab : Tab w g o
  here : g < w.heap.size
  some : 1 ≤ nr
  most : nr ≤ 14
theorem Tab.below {B : Nat} {w w' : World} {g o : Nat} (h : Tab w g o) (hb : Below B w w') (hg : g < B) : Tab w' g o :=
  ⟨fun b hb' => (hb.cell hg).trans (h.s b hb'), fun b hb' => (hb.cell hg).trans (h.u b hb'), fun b hb' => (hb.cell hg).trans (h.m b hb'), fun b hb' => (hb.cell hg).trans (h.n b hb')⟩
theorem Ciph.below {B : Nat} {w w' : World} {g o nr : Nat} {K : Nat → Nat} (h : Ciph w g o nr K) (hb : Below B w w') (hg : g < B) : Ciph w' g o nr K :=
  ⟨(hb.cell hg).trans h.rounds, fun i hi => (hb.cell hg).trans (h.words i hi), h.small, h.tab.below hb hg, Nat.lt_of_lt_of_le h.here hb.size, h.some, h.most⟩
theorem Below.drewN {B : Nat} {a w : World} (h : Below B a w) (m : Nat) : Below B a (w.drewN m) := ⟨h.os, h.tape, h.output, h.size, h.block⟩
theorem there_below {B : Nat} {w w' : World} {g o n : Nat} (h : w.there g o n) (hb : Below B w w') (hg : g < B) : w'.there g o n := fun j hj => by
  obtain ⟨h1, h2⟩ := h j hj
  exact ⟨by rw [hb.cell hg]; exact h1, by rw [hb.frozen hg]; exact h2⟩

/-- The columns' calls, as long as the cipher stands. -/
theorem mix_c {B g o nr : Nat} {K : Nat → Nat} {w : World} (hC : Ciph w g o nr K) (hg : g < B) (a b c d m : Nat) (hm : Hid (m = mixw a b c d)) : ∀ u, Below B w u →
    Calls Tryd.prog 65 #[.pointer (some ⟨g, o, none⟩), .int .u32 (a : Nat), .int .u32 (b : Nat), .int .u32 (c : Nat), .int .u32 (d : Nat)] u fun e u' => e = .returned (.int .u32 (m : Nat)) ∧ Below B w u' := fun u hu => by
  refine (mix_ok g o a b c d _ _ _ _ u (bt0_lt a) (bt1_lt b) (bt2_lt c) (bt3_lt d) (int_bt0 a) (int_bt1 b) (int_bt2 c) (int_bt3 d) (hC.tab.below hu hg)).mono fun e u' ⟨h1, k, h2⟩ => ?_
  subst h2
  exact ⟨by rw [h1, hm.out]; rfl, Below.drewN hu k⟩
theorem last_c {B g o nr : Nat} {K : Nat → Nat} {w : World} (hC : Ciph w g o nr K) (hg : g < B) (a b c d m : Nat) (hm : Hid (m = lastw a b c d)) : ∀ u, Below B w u →
    Calls Tryd.prog 67 #[.pointer (some ⟨g, o, none⟩), .int .u32 (a : Nat), .int .u32 (b : Nat), .int .u32 (c : Nat), .int .u32 (d : Nat)] u fun e u' => e = .returned (.int .u32 (m : Nat)) ∧ Below B w u' := fun u hu => by
  refine (last_ok g o a b c d _ _ _ _ u (bt0_lt a) (bt1_lt b) (bt2_lt c) (bt3_lt d) (int_bt0 a) (int_bt1 b) (int_bt2 c) (int_bt3 d) (hC.tab.below hu hg)).mono fun e u' ⟨h1, k, h2⟩ => ?_
  subst h2
  exact ⟨by rw [h1, hm.out]; rfl, Below.drewN hu k⟩
theorem undo_c {B g o nr : Nat} {K : Nat → Nat} {w : World} (hC : Ciph w g o nr K) (hg : g < B) (a b c d m : Nat) (hm : Hid (m = undow a b c d)) : ∀ u, Below B w u →
    Calls Tryd.prog 68 #[.pointer (some ⟨g, o, none⟩), .int .u32 (a : Nat), .int .u32 (b : Nat), .int .u32 (c : Nat), .int .u32 (d : Nat)] u fun e u' => e = .returned (.int .u32 (m : Nat)) ∧ Below B w u' := fun u hu => by
  refine (undo_ok g o a b c d _ _ _ _ u (bt0_lt a) (bt1_lt b) (bt2_lt c) (bt3_lt d) (int_bt0 a) (int_bt1 b) (int_bt2 c) (int_bt3 d) (hC.tab.below hu hg)).mono fun e u' ⟨h1, k, h2⟩ => ?_
  subst h2
  exact ⟨by rw [h1, hm.out]; rfl, Below.drewN hu k⟩
theorem unmix_c {B g o nr : Nat} {K : Nat → Nat} {w : World} (hC : Ciph w g o nr K) (hg : g < B) (a m : Nat) (hm : Hid (m = unmw a)) : ∀ u, Below B w u →
    Calls Tryd.prog 69 #[.pointer (some ⟨g, o, none⟩), .int .u32 (a : Nat)] u fun e u' => e = .returned (.int .u32 (m : Nat)) ∧ Below B w u' := fun u hu => by
  refine (unmixed_ok g o a _ _ _ _ u (bt0_lt a) (bt1_lt a) (bt2_lt a) (bt3_lt a) (int_bt0 a) (int_bt1 a) (int_bt2 a) (int_bt3 a) (hC.tab.below hu hg)).mono fun e u' ⟨h1, k, h2⟩ => ?_
  subst h2
  exact ⟨by rw [h1, hm.out]; rfl, Below.drewN hu k⟩
theorem add_c {B g o nr : Nat} {K : Nat → Nat} {w : World} (hC : Ciph w g o nr K) (hg : g < B) (hB : B ≤ w.heap.size) (r : Nat) (hr : r ≤ nr) (s t : W4) (hs : s.ok) (ht : Hid (t = addK K r s)) : ∀ u, Below B w u →
    Calls Tryd.prog 63 #[.pointer (some ⟨g, o, none⟩), s.val, .int .i64 (r : Nat)] u fun e u' => e = .returned t.val ∧ Below B w u' := fun u hu => by
  have hC' := hC.below hu hg
  have := hC.most
  refine (add_ok g o r s.a s.b s.c s.d _ _ _ _ u (by omega) hC'.here hs.1 hs.2.1 hs.2.2.1 hs.2.2.2 (hC.small _) (hC.small _) (hC.small _) (hC.small _) (hC'.words (4 * r) (by omega)) (hC'.words (4 * r + 1) (by omega)) (hC'.words (4 * r + 2) (by omega)) (hC'.words (4 * r + 3) (by omega))).mono fun e u' ⟨h1, h2⟩ => ?_
  exact ⟨by rw [h1, ht.out]; rfl, hu.trans (h2.mono (Nat.le_trans hB hu.size))⟩
theorem from_c (s : W4) (hs : s.ok) (w : World) : Calls Tryd.prog 64 #[s.blk] w fun e w' => e = .returned s.val ∧ Below w.heap.size w w' := by
  refine (fromBlock_ok _ _ _ _ _ _ _ _ _ _ _ _ _ _ _ _ w (bt0_lt _) (bt1_lt _) (bt2_lt _) (bt3_lt _) (bt0_lt _) (bt1_lt _) (bt2_lt _) (bt3_lt _) (bt0_lt _) (bt1_lt _) (bt2_lt _) (bt3_lt _) (bt0_lt _) (bt1_lt _) (bt2_lt _) (bt3_lt _)).mono fun e w' ⟨h1, h2⟩ => ⟨?_, h2⟩
  rw [h1, wd_bt hs.1, wd_bt hs.2.1, wd_bt hs.2.2.1, wd_bt hs.2.2.2]
  rfl
theorem to_c (s : W4) (w : World) : Calls Tryd.prog 66 #[s.val] w fun e w' => e = .returned s.blk ∧ Below w.heap.size w w' :=
  toBlock_core s.a s.b s.c s.d _ _ _ _ _ _ _ _ _ _ _ _ _ _ _ _ w (int_bt0 _) (int_bt1 _) (int_bt2 _) (int_bt3 _) (int_bt0 _) (int_bt1 _) (int_bt2 _) (int_bt3 _) (int_bt0 _) (int_bt1 _) (int_bt2 _) (int_bt3 _) (int_bt0 _) (int_bt1 _) (int_bt2 _) (int_bt3 _)
end Go.Proofs.YtgmfiljjogdccaaDoor
namespace Go.Proofs.YtgmfiljjogdccaaDoor
open Go.RowKit
set_option linter.unusedVariables false
/-- The four cells that fillRow writes. -/
def rowSet (w : World) (g o b sb : Nat) : World :=
  (((w.setCell ⟨g, o + 61 + b, none⟩ (.int .u8 (sb : Nat))).setCell ⟨g, o + 317 + sb, none⟩ (.int .u8 (b : Nat))).setCell ⟨g, o + 573 + b, none⟩ (.int .u32 (wd (x2 sb) sb sb (x3 sb) : Nat))).setCell ⟨g, o + 829 + b, none⟩ (.int .u32 (wd (x14 b) (x9 b) (x13 b) (x11 b) : Nat))
theorem dbl_ex (a : Nat) (h : a < 256) (w : World) : Calls Tryd.prog 84 #[.int .u8 a] w fun e w' => ∃ z : Nat, z < 256 ∧ Hid (z = dblN a) ∧ e = .returned (.int .u8 (z : Nat)) ∧ w' = w :=
  (dbl_ok a h w).mono fun e w' ⟨h1, h2⟩ => ⟨_, dbl_lt ⟨a, h⟩, rfl, h1, h2⟩
set_option maxHeartbeats 3200000 in
set_option maxRecDepth 100000 in
theorem fillRow_ok (g o b sb : Nat) (w : World) (hb : b < 256) (hsb : sb < 256) (ht : w.there g o 1085) :
    Calls Tryd.prog 75 #[.pointer (some ⟨g, o, none⟩), .int .u8 b, .int .u8 sb] w fun e w' => e = .returned (.tuple #[]) ∧ ∃ m, w' = (rowSet w g o b sb).drewN m := by
  have t1 := ht (61 + b) (by omega)
  have t2 := ht (317 + sb) (by omega)
  rw [← Nat.add_assoc] at t1 t2
  obtain ⟨p1, q1⟩ := t1
  obtain ⟨p2, q2⟩ := t2
  obtain ⟨v1, c1⟩ := Option.isSome_iff_exists.1 p1
  obtain ⟨v2, c2⟩ := Option.isSome_iff_exists.1 p2
  clear p1 p2
  have HT : Hid (w.there g o 1085) := ht
  clear ht
  go_enter Tryd.func75, Tryd.ntmps75
  go_wp2
  go_region
  go_wp2_with (first | (go_at_call 84; (refine (dbl_ex sb hsb _).mono ?_)))
  rintro e1 w1 ⟨z, hz, HZ, rfl, hw1⟩
  have ht1 : w1.there g o 1085 := by rw [hw1]; exact (World.there_drew _ _ _ _).2 (World.there_setCells (World.there_setCells HT.out _ _ [_]) _ _ [_])
  have HW1 : Hid (w1 = (((w.setCell ⟨g, o + 61 + b, none⟩ (.int .u8 (sb : Nat))).setCell ⟨g, o + 317 + sb, none⟩ (.int .u8 (b : Nat))).drew)) := hw1
  clear hw1 HT c1 c2 q1 q2
  have t3 := ht1 (573 + b) (by omega)
  rw [← Nat.add_assoc] at t3
  obtain ⟨p3, q3⟩ := t3
  obtain ⟨v3, c3⟩ := Option.isSome_iff_exists.1 p3
  clear p3
  have HT1 : Hid (w1.there g o 1085) := ht1
  clear ht1
  obtain ⟨m0, HM0⟩ : ∃ m : Nat, Hid (m = wd (x2 sb) sb sb (x3 sb)) := ⟨_, rfl⟩
  have hx3 := xor_lt8 hz hsb
  have hk0 : Hid (∀ u, Calls Tryd.prog 83 #[.int .u8 (z : Nat), .int .u8 (sb : Nat), .int .u8 (sb : Nat), .int .u8 (bits .xor .u8 (z : Int) (sb : Int))] u fun e u' => e = .returned (.int .u32 (m0 : Nat)) ∧ u' = u) := fun u => by
    rw [xor8 _ _ hz hsb, HM0.out, HZ.out]
    rw [HZ.out] at hz hx3
    exact word_ok _ _ _ _ hz hsb hsb hx3 u
  clear hx3
  have hbi : ((b : Nat) : Int) < 256 := by omega
  go_wp2
  go_region_held3 (fun _ => True) (trivial) ((go_at_call 83; refine (hk0.out _).mono ?_; rintro e2 w2 ⟨rfl, hw2⟩; obtain rfl := hw2.symm))
  have HT2 : Hid ((w1.setCell ⟨g, o + 573 + b, none⟩ (.int .u32 (m0 : Nat))).drew.there g o 1085) := (World.there_drew _ _ _ _).2 (World.there_setCells HT1.out _ _ [_])
  obtain ⟨w2, HW2⟩ : ∃ w2, Hid (w2 = (w1.setCell ⟨g, o + 573 + b, none⟩ (.int .u32 (m0 : Nat))).drew) := ⟨_, rfl⟩
  rw [← HW2.out] at HT2 ⊢
  clear hk0 c3 q3 HT1
  go_wp2_with (first | (go_at_call 84; (refine (dbl_ex b hb _).mono ?_)))
  rintro e3 w3 ⟨d2, hd2, HD2, rfl, hw3⟩
  obtain rfl := hw3.symm
  go_wp2_with (first | (go_at_call 84; (refine (dbl_ex d2 hd2 _).mono ?_)))
  rintro e4 w4 ⟨d4, hd4, HD4, rfl, hw4⟩
  obtain rfl := hw4.symm
  go_wp2_with (first | (go_at_call 84; (refine (dbl_ex d4 hd4 _).mono ?_)))
  rintro e5 w5 ⟨d8, hd8, HD8, rfl, hw5⟩
  obtain rfl := hw5.symm
  have t4 := HT2.out (829 + b) (by omega)
  rw [← Nat.add_assoc] at t4
  obtain ⟨p4, q4⟩ := t4
  obtain ⟨v4, c4⟩ := Option.isSome_iff_exists.1 p4
  clear p4
  obtain ⟨n0, HN0⟩ : ∃ m : Nat, Hid (m = wd (x14 b) (x9 b) (x13 b) (x11 b)) := ⟨_, rfl⟩
  have hk1 : Hid (∀ u, Calls Tryd.prog 83 #[.int .u8 (bits .xor .u8 (bits .xor .u8 (d8 : Int) (d4 : Int)) (d2 : Int)), .int .u8 (bits .xor .u8 (d8 : Int) (b : Int)), .int .u8 (bits .xor .u8 (bits .xor .u8 (d8 : Int) (d4 : Int)) (b : Int)), .int .u8 (bits .xor .u8 (bits .xor .u8 (d8 : Int) (d2 : Int)) (b : Int))] u fun e u' => e = .returned (.int .u32 (n0 : Nat)) ∧ u' = u) := fun u => by
    rw [xor8 _ _ hd8 hd4, xor8 _ _ hd8 hd2, xor8 _ _ hd8 hb, xor8 _ _ (xor_lt8 hd8 hd4) hd2, xor8 _ _ (xor_lt8 hd8 hd4) hb, xor8 _ _ (xor_lt8 hd8 hd2) hb]
    have h := word_ok _ _ _ _ (xor_lt8 (xor_lt8 hd8 hd4) hd2) (xor_lt8 hd8 hb) (xor_lt8 (xor_lt8 hd8 hd4) hb) (xor_lt8 (xor_lt8 hd8 hd2) hb) u
    have e : n0 = wd (Nat.xor (Nat.xor d8 d4) d2) (Nat.xor d8 b) (Nat.xor (Nat.xor d8 d4) b) (Nat.xor (Nat.xor d8 d2) b) := by
      rw [HN0.out, HD8.out, HD4.out, HD2.out]
      exact rfl
    rw [e]
    exact h
  go_wp2
  go_region_held3 (fun _ => True) (trivial) ((go_at_call 83; refine (hk1.out _).mono ?_; rintro e6 w6 ⟨rfl, hw6⟩; obtain rfl := hw6.symm))
  go_wp2
  go_end0
  refine ⟨rfl, 3, ?_⟩
  rw [HN0.out, HW2.out, HM0.out, HW1.out]
  exact rfl
end Go.Proofs.YtgmfiljjogdccaaDoor
namespace Go.Proofs.YtgmfiljjogdccaaDoor
open Go.RowKit
variable {P : Program}

/-- A new variable of a great type: its zero cells are handed in. -/
theorem wpList_alloc_big {ops : Array Oper} {rest : List Oper} {op : Oper} {a : Act} {w : World} {Q : Exit → Act → World → Prop} (hgd : op.guard = none) (ty : TypeId) (ho : op.op = .alloc ty)
    (cells : Array Value) (hz : ((P.info? ty).bind (·.zero)).map (·.cells) = some cells) (B : Nat) (hB : w.heap.size = B)
    (h : wpList P ops Q rest (a.put op.dst (.pointer (some ⟨B, 0, none⟩))) (w.alloc (.cells cells ty))) : wpList P ops Q (op :: rest) a w := by
  subst hB
  refine wpList_plain hgd fun K hK => ?_
  cases hi : P.info? ty with
  | none => simp [hi] at hz
  | some i =>
    cases hzz : i.zero with
    | none => simp [hi, hzz] at hz
    | some z =>
      have hc : z.cells = cells := by simpa [hi, hzz] using hz
      have hrun : (Instr.alloc ty true (.tuple #[])).run P w = .ok (.pointer (some ⟨w.heap.size, 0, none⟩)) (w.alloc (.cells cells ty)) := by
        simp [Instr.alloc, zeroValue, typeInfo, hi, hzz, newVar, newRow, hc]
      unfold Oper.wp execOp
      simp only [ho, Sem.run_bind, hrun, Result.andThen_ok, Sem.run_pure]
      exact hK _ _ h

/-- A great value that is built. -/
theorem wpList_build_big {ops : Array Oper} {rest : List Oper} {op : Oper} {a : Act} {w : World} {Q : Exit → Act → World → Prop} (hgd : op.guard = none) (ty : TypeId) (parts : Array (Nat × Operand)) (ho : op.op = .build ty parts)
    (cells : Array Value) (hb : P.built ty (parts.map fun (i, x) => (i, a.eval x)).toList = some cells)
    (h : wpList P ops Q rest (a.put op.dst (.agg cells)) w) : wpList P ops Q (op :: rest) a w := by
  refine wpList_plain hgd fun K hK => ?_
  have hrun := run_build (P := P) w ty (parts.map fun (i, x) => (i, a.eval x)) cells hb
  unfold Oper.wp execOp
  simp only [ho, Sem.run_bind, hrun, Result.andThen_ok, Sem.run_pure]
  exact hK _ _ h

theorem sizeB_setCells (b : Nat) : ∀ (vs : List Value) (o : Nat) (w : World), (w.setCells b o vs).heap.size = w.heap.size
  | [], _, _ => rfl
  | v :: r, o, w => by rw [World.setCells, sizeB_setCells b r (o + 1)]; simp [World.setCell]
theorem belowB_setCells (b : Nat) {B : Nat} (hB : B ≤ b) {a : World} : ∀ (vs : List Value) (o : Nat) (w : World), Below B a w → Below B a (w.setCells b o vs)
  | [], _, _, h => h
  | v :: r, o, w, h => by rw [World.setCells]; exact belowB_setCells b hB r (o + 1) _ (h.setCell hB _)
theorem rangeAt_new (w : World) (C : Array Value) (t : TypeId) : (w.alloc (.cells C t)).rangeAt w.heap.size 0 C.toList := fun j v hv => by
  rw [World.cell?_alloc_at C t _ _ rfl]
  simpa using hv
theorem there_new (w : World) (C : Array Value) (t : TypeId) (n : Nat) (hn : n ≤ C.size) : (w.alloc (.cells C t)).there w.heap.size 0 n := fun j hj => by
  refine ⟨?_, World.frozen?_alloc_at C t _ _ rfl⟩
  rw [World.cell?_alloc_at C t _ _ rfl]
  simp
  omega
end Go.Proofs.YtgmfiljjogdccaaDoor
namespace Go.Proofs.YtgmfiljjogdccaaDoor
open Go.RowKit

/-- A world that differs in what it drew alone. -/
structure Sm (w w' : World) : Prop where
  os : w'.os = w.os
  tape : w'.tape = w.tape
  output : w'.output = w.output
  heap : w'.heap = w.heap
theorem Sm.refl (w : World) : Sm w w := ⟨rfl, rfl, rfl, rfl⟩
theorem Sm.drewN {w v : World} (h : Sm w v) (m : Nat) : Sm w (v.drewN m) := ⟨h.os, h.tape, h.output, h.heap⟩
theorem Sm.trans {a b c : World} (h : Sm a b) (k : Sm b c) : Sm a c := ⟨k.os.trans h.os, k.tape.trans h.tape, k.output.trans h.output, k.heap.trans h.heap⟩
theorem Sm.cell {w v : World} (h : Sm w v) (p : Addr) : v.cell? p = w.cell? p := World.cell?_of_block (by rw [h.heap])
theorem Sm.frozen {w v : World} (h : Sm w v) (p : Addr) : v.frozen? p = w.frozen? p := World.frozen?_of_block (by rw [h.heap])

theorem setCells_os (b : Nat) : ∀ (vs : List Value) (o : Nat) (w : World), (w.setCells b o vs).os = w.os
  | [], _, _ => rfl
  | v :: r, o, w => by rw [World.setCells, setCells_os b r (o + 1)]; rfl
theorem setCells_tape (b : Nat) : ∀ (vs : List Value) (o : Nat) (w : World), (w.setCells b o vs).tape = w.tape
  | [], _, _ => rfl
  | v :: r, o, w => by rw [World.setCells, setCells_tape b r (o + 1)]; rfl
theorem setCells_output (b : Nat) : ∀ (vs : List Value) (o : Nat) (w : World), (w.setCells b o vs).output = w.output
  | [], _, _ => rfl
  | v :: r, o, w => by rw [World.setCells, setCells_output b r (o + 1)]; rfl

/-- From w to w' nothing of what was there is changed but n cells of block g from o on; what could be written there can be still. -/
structure Touch (w w' : World) (g o n : Nat) : Prop where
  os : w'.os = w.os
  tape : w'.tape = w.tape
  output : w'.output = w.output
  size : w.heap.size ≤ w'.heap.size
  block : ∀ k, k < w.heap.size → k ≠ g → w'.heap[k]? = w.heap[k]?
  cell : ∀ j, (j < o ∨ o + n ≤ j) → w'.cell? ⟨g, j, none⟩ = w.cell? ⟨g, j, none⟩
  there : ∀ o' n', w.there g o' n' → w'.there g o' n'

theorem Sm.touch {w v : World} (h : Sm w v) (g o n : Nat) : Touch w v g o n :=
  ⟨h.os, h.tape, h.output, by rw [h.heap]; exact Nat.le_refl _, fun k _ _ => by rw [h.heap], fun j _ => h.cell _, fun o' n' ht j hj => by rw [h.cell, h.frozen]; exact ht j hj⟩
theorem Touch.refl (w : World) (g o n : Nat) : Touch w w g o n := (Sm.refl w).touch g o n
theorem Touch.trans {a b c : World} {g o n : Nat} (h : Touch a b g o n) (k : Touch b c g o n) : Touch a c g o n :=
  ⟨k.os.trans h.os, k.tape.trans h.tape, k.output.trans h.output, Nat.le_trans h.size k.size, fun i hi hne => (k.block i (Nat.lt_of_lt_of_le hi h.size) hne).trans (h.block i hi hne), fun j hj => (k.cell j hj).trans (h.cell j hj), fun o' n' ht => k.there o' n' (h.there o' n' ht)⟩
theorem Touch.mono {a b : World} {g o n : Nat} (h : Touch a b g o n) (o' n' : Nat) (h1 : o' ≤ o) (h2 : o + n ≤ o' + n') : Touch a b g o' n' :=
  ⟨h.os, h.tape, h.output, h.size, h.block, fun j hj => h.cell j (by omega), h.there⟩
theorem Touch.setCells {a b : World} {g o n : Nat} (h : Touch a b g o n) (o' : Nat) (vs : List Value) (h1 : o ≤ o') (h2 : o' + vs.length ≤ o + n) : Touch a (b.setCells g o' vs) g o n := by
  refine h.trans ⟨?_, ?_, ?_, ?_, ?_, ?_, ?_⟩
  · exact setCells_os g vs o' b
  · exact setCells_tape g vs o' b
  · exact setCells_output g vs o' b
  · rw [sizeB_setCells]; exact Nat.le_refl _
  · intro k hk hne
    exact World.heap_setCells_other b g o' vs hk hne
  · intro j hj
    exact World.cell?_setCells_out g vs o' b ⟨g, j, none⟩ (fun _ _ => by rcases hj with h | h; exact .inl (by show j < o'; omega); exact .inr (by show o' + vs.length ≤ j; omega))
  · intro o2 n2 ht
    exact World.there_setCells ht g o' vs
theorem Touch.setCell {a b : World} {g o n : Nat} (h : Touch a b g o n) (j : Nat) (u : Value) (h1 : o ≤ j) (h2 : j < o + n) : Touch a (b.setCell ⟨g, j, none⟩ u) g o n :=
  h.setCells j [u] h1 (by simp; omega)
theorem Touch.alloc {a b : World} {g o n : Nat} (h : Touch a b g o n) (ob : Obj) (hg : g < a.heap.size) : Touch a (b.alloc ob) g o n := by
  have hs := h.size
  refine h.trans ⟨rfl, rfl, rfl, by simp, ?_, ?_, ?_⟩
  · intro k hk _
    exact Below.heap_alloc b ob k hk
  · intro j _
    exact World.cell?_alloc_past ob g j (by omega)
  · intro o' n' ht
    exact World.there_alloc ht ob
theorem Touch.drew {a b : World} {g o n : Nat} (h : Touch a b g o n) : Touch a b.drew g o n := ⟨h.os, h.tape, h.output, h.size, h.block, h.cell, h.there⟩
theorem Touch.drewN {a b : World} {g o n : Nat} (h : Touch a b g o n) (m : Nat) : Touch a (b.drewN m) g o n := ⟨h.os, h.tape, h.output, h.size, h.block, h.cell, h.there⟩
/-- What only makes new blocks touches nothing. -/
theorem Touch.below {a b c : World} {g o n : Nat} (h : Touch a b g o n) (k : Below b.heap.size b c) (hg : g < a.heap.size) : Touch a c g o n := by
  have hs := h.size
  refine h.trans ⟨k.os, k.tape, k.output, k.size, fun i hi _ => k.block i hi, fun j _ => k.cell (p := ⟨g, j, none⟩) (show g < _ by omega), ?_⟩
  intro o' n' ht j hj
  rw [k.cell (p := ⟨g, o' + j, none⟩) (show g < _ by omega), k.frozen (p := ⟨g, o' + j, none⟩) (show g < _ by omega)]
  exact ht j hj
theorem Touch.toBelow {a b : World} {g o n B : Nat} (h : Touch a b g o n) (hg : B ≤ g) (hB : B ≤ a.heap.size) : Below B a b :=
  ⟨h.os, h.tape, h.output, h.size, fun k hk => h.block k (by omega) (by omega)⟩
theorem Touch.far {a b : World} {g o n : Nat} (h : Touch a b g o n) {p : Addr} (hp : p.block < a.heap.size) (hne : p.block ≠ g) : b.cell? p = a.cell? p := World.cell?_of_block (h.block p.block hp hne)
theorem Touch.farFrozen {a b : World} {g o n : Nat} (h : Touch a b g o n) {p : Addr} (hp : p.block < a.heap.size) (hne : p.block ≠ g) : b.frozen? p = a.frozen? p := World.frozen?_of_block (h.block p.block hp hne)
end Go.Proofs.YtgmfiljjogdccaaDoor
namespace Go.Proofs.YtgmfiljjogdccaaDoor
open Go.RowKit
set_option linter.unusedVariables false
/-- The powers of 3, those of its inverse, the logarithm: out of one number each. -/
def pwT (j : Nat) : Nat := Nat.mod (Nat.shiftRight 247704880781559356684414323119999879637317647180040216102211349143305888774923398537951341803642731683984666991564019150676315804531779449815159115664189418245566988781254625896260912026622159780553349108386186142268315007856282091988200171439146255715840100601167723801170608095743514940052926055042184507632911811387723359914440662207451538163404716729158929845121383729837235901114109841630616474463024741216292666125260571984924724184385554713500007113061044175325657975136216706165622836048350080632971744177780693200859426168487707538171671676645432511882666690861394815764438377708986394032816479809277592321 (Nat.mul 8 j)) 256
def ivT (j : Nat) : Nat := Nat.mod (Nat.shiftRight 127727404692115426734198332805968219844573505114629208686901216293690186132462130931675081705992402874744649337146722143913163583643487276303943818893807190013751092806990287370556889600057311714676499800760749547103353651662433367294783190206880884813569237221343399581497263169989195187996008530110587099785212876728548450345268301970899227233349908984604527389233338265073456776979288885037749793268642272576260293033947624555608176220260351415492203342228236466557716880135026471476615524857486394512952861707819425159769229481997196826278555408639803976402068508913166242851432043694978610662015700264484533761 (Nat.mul 8 j)) 256
def lgT (b : Nat) : Nat := Nat.mod (Nat.shiftRight 939374623831894136699086600277250597547650664638770418422125146541797353646788332867483593573384618611044815625336497665827114626705134492515730415652478061620339993830966980270842846318821775850471098591710629241171812800746666233448222972174585295916389942636813666312872914849454985560152530477328703759683306625234997237483834721220409437442253146756845415190424543171129629468776480674528486868811725071010351012234056630775688111116293610821126543142160426617079940511630006820862697466582575257349116925728488930366609138264019883664906661504235885380294353134295748489096855100647154935187045898006656778240 (Nat.mul 8 b)) 256
theorem pwT_lt (j : Nat) : pwT j < 256 := Nat.mod_lt _ (by decide)
theorem ivT_lt (j : Nat) : ivT j < 256 := Nat.mod_lt _ (by decide)
theorem pw_step : ∀ j : Fin 255, tmsN 8 0 (pwT j.1) 3 = pwT (j.1 + 1) ∧ tmsN 8 0 (ivT j.1) 246 = ivT (j.1 + 1) ∧ sprN (ivT j.1) = SB (pwT j.1) := by decide +kernel
theorem lg_all : ∀ b : Fin 256, b.1 = 0 ∨ (lgT b.1 < 255 ∧ pwT (lgT b.1) = b.1) := by decide +kernel
theorem SB_inj {b c : Nat} (hb : b < 256) (hc : c < 256) (h : SB b = SB c) : b = c := by
  have h1 := (UB_SB ⟨b, hb⟩).1
  have h2 := (UB_SB ⟨c, hc⟩).1
  simp only at h1 h2
  rw [← h1, ← h2, h]
/-- The row of a byte stands. -/
structure RowOk (w : World) (g o b : Nat) : Prop where
  s : w.cell? ⟨g, o + 61 + b, none⟩ = some (.int .u8 (SB b : Nat))
  u : w.cell? ⟨g, o + 317 + SB b, none⟩ = some (.int .u8 (b : Nat))
  m : w.cell? ⟨g, o + 573 + b, none⟩ = some (.int .u32 (MX b : Nat))
  n : w.cell? ⟨g, o + 829 + b, none⟩ = some (.int .u32 (UX b : Nat))
theorem cell_other (w : World) (g i j : Nat) (v : Value) (h : i ≠ j) : (w.setCell ⟨g, i, none⟩ v).cell? ⟨g, j, none⟩ = w.cell? ⟨g, j, none⟩ :=
  World.cell?_setCell_other w ⟨g, i, none⟩ ⟨g, j, none⟩ v (fun e => h (by cases e; rfl))
theorem cell_same {w : World} {g o i n : Nat} (v : Value) (ht : w.there g o n) (hi : i < n) : (w.setCell ⟨g, o + i, none⟩ v).cell? ⟨g, o + i, none⟩ = some v :=
  World.cell?_setCell_same' _ _ _ (ht i hi).1
theorem rowSet_same {w : World} {g o b : Nat} (ht : w.there g o 1085) (hb : b < 256) : RowOk (rowSet w g o b (SB b)) g o b := by
  have hs := SB_lt b
  unfold rowSet
  refine ⟨?_, ?_, ?_, ?_⟩
  · rw [cell_other _ _ _ _ _ (by omega), cell_other _ _ _ _ _ (by omega), cell_other _ _ _ _ _ (by omega)]
    have := cell_same (i := 61 + b) (.int .u8 (SB b : Nat)) ht (by omega)
    rw [← Nat.add_assoc] at this
    exact this
  · rw [cell_other _ _ _ _ _ (by omega), cell_other _ _ _ _ _ (by omega)]
    have := cell_same (i := 317 + SB b) (.int .u8 (b : Nat)) (World.there_setCells ht g (o + 61 + b) [.int .u8 (SB b : Nat)]) (by omega)
    rw [← Nat.add_assoc] at this
    exact this
  · rw [cell_other _ _ _ _ _ (by omega)]
    have := cell_same (i := 573 + b) (.int .u32 (MX b : Nat)) (World.there_setCells (World.there_setCells ht g (o + 61 + b) [.int .u8 (SB b : Nat)]) g (o + 317 + SB b) [.int .u8 (b : Nat)]) (by omega)
    rw [← Nat.add_assoc] at this
    exact this
  · have := cell_same (i := 829 + b) (.int .u32 (UX b : Nat)) (World.there_setCells (World.there_setCells (World.there_setCells ht g (o + 61 + b) [.int .u8 (SB b : Nat)]) g (o + 317 + SB b) [.int .u8 (b : Nat)]) g (o + 573 + b) [.int .u32 (MX b : Nat)]) (by omega)
    rw [← Nat.add_assoc] at this
    exact this
theorem rowSet_other {w : World} {g o b c : Nat} (hb : b < 256) (hc : c < 256) (hne : b ≠ c) (h : RowOk w g o c) : RowOk (rowSet w g o b (SB b)) g o c := by
  have hs := SB_lt b
  have hs' := SB_lt c
  have hsn : SB b ≠ SB c := fun e => hne (SB_inj hb hc e)
  unfold rowSet
  refine ⟨?_, ?_, ?_, ?_⟩
  · rw [cell_other _ _ _ _ _ (by omega), cell_other _ _ _ _ _ (by omega), cell_other _ _ _ _ _ (by omega), cell_other _ _ _ _ _ (by omega)]; exact h.s
  · rw [cell_other _ _ _ _ _ (by omega), cell_other _ _ _ _ _ (by omega), cell_other _ _ _ _ _ (by omega), cell_other _ _ _ _ _ (by omega)]; exact h.u
  · rw [cell_other _ _ _ _ _ (by omega), cell_other _ _ _ _ _ (by omega), cell_other _ _ _ _ _ (by omega), cell_other _ _ _ _ _ (by omega)]; exact h.m
  · rw [cell_other _ _ _ _ _ (by omega), cell_other _ _ _ _ _ (by omega), cell_other _ _ _ _ _ (by omega), cell_other _ _ _ _ _ (by omega)]; exact h.n
theorem RowOk.drewN {w : World} {g o b : Nat} (h : RowOk w g o b) (m : Nat) : RowOk (w.drewN m) g o b := ⟨h.s, h.u, h.m, h.n⟩
theorem rowSet_touch {w v : World} {g o b : Nat} (hb : b < 256) (h : Touch w v g (o + 61) 1024) (m : Nat) : Touch w ((rowSet v g o b (SB b)).drewN m) g (o + 61) 1024 := by
  have hs := SB_lt b
  unfold rowSet
  exact ((((h.setCell _ _ (by omega) (by omega)).setCell _ _ (by omega) (by omega)).setCell _ _ (by omega) (by omega)).setCell _ _ (by omega) (by omega)).drewN m
theorem rows_tab {w : World} {g o : Nat} (h : ∀ b, b < 256 → RowOk w g o b) : Tab w g o :=
  ⟨fun b hb => (h b hb).s, fun c hc => by
    have h1 := (h (UB c) (UB_lt c)).u
    have h2 := (UB_SB ⟨c, hc⟩).2
    simp only at h2
    rw [h2] at h1
    exact h1, fun b hb => (h b hb).m, fun b hb => (h b hb).n⟩
set_option maxHeartbeats 3200000 in
set_option maxRecDepth 100000 in
theorem fillTables_ok (g o : Nat) (w : World) (ht : w.there g o 1085) :
    Calls Tryd.prog 52 #[.pointer (some ⟨g, o, none⟩)] w fun e w' => e = .returned (.tuple #[]) ∧ Touch w w' g (o + 61) 1024 ∧ Tab w' g o := by
  have HT : Hid (w.there g o 1085) := ht
  clear ht
  have hz : SB 0 = 99 := by decide +kernel
  have H0 : Hid (Calls Tryd.prog 75 #[.pointer (some ⟨g, o, none⟩), .int .u8 0, .int .u8 99] w fun e w' => e = .returned (.tuple #[]) ∧ ∃ m, w' = (rowSet w g o 0 99).drewN m) := fillRow_ok g o 0 99 w (by decide) (by decide) HT.out
  go_enter Tryd.func52, Tryd.ntmps52
  go_wp2_with (first | (go_at_call 75; (refine H0.out.mono ?_)))
  rintro e1 w1 ⟨rfl, m1, hw1⟩
  have HI : Hid (Touch w w1 g (o + 61) 1024 ∧ RowOk w1 g o 0) := by
    rw [hw1, ← hz]
    exact ⟨rowSet_touch (by decide) (Touch.refl _ _ _ _) m1, (rowSet_same HT.out (by decide)).drewN m1⟩
  clear hw1 H0
  go_wp2
  go_loopw [2, 3, 6] (fun vp vi i wr => ∃ k : Nat, k ≤ 255 ∧ i = .int .i64 k ∧ vp = .int .u8 (pwT k : Nat) ∧ vi = .int .u8 (ivT k : Nat) ∧ Hid (Touch w wr g (o + 61) 1024 ∧ RowOk wr g o 0 ∧ ∀ j, j < k → RowOk wr g o (pwT j))) (fun _ _ i _ => 255 - (intOf i).toNat)
  case atStart => exact ⟨0, by omega, rfl, rfl, rfl, HI.out.1, HI.out.2, fun j hj => by omega⟩
  case round =>
    obtain ⟨k, hk, rfl, rfl, rfl, HR⟩ := hrel
    by_cases hlt : k < 255
    · obtain ⟨e1, e2, e3⟩ := pw_step ⟨k, hlt⟩
      simp only at e1 e2 e3
      obtain ⟨p, HP⟩ : ∃ p, Hid (p = pwT k) := ⟨_, rfl⟩
      obtain ⟨v, HV⟩ : ∃ p, Hid (p = ivT k) := ⟨_, rfl⟩
      have hp : p < 256 := by rw [HP.out]; exact pwT_lt k
      have hv : v < 256 := by rw [HV.out]; exact ivT_lt k
      have K1 : Hid (∀ u, Calls Tryd.prog 76 #[.int .u8 (v : Nat)] u fun e u' => e = .returned (.int .u8 (SB p : Nat)) ∧ u' = u) := fun u => (spread_ok v hv u).mono fun e u' ⟨z, _, hz, h1, h2⟩ => ⟨by rw [h1, hz.out, HV.out, e3, HP.out], h2⟩
      have K2 : Hid (Calls Tryd.prog 75 #[.pointer (some ⟨g, o, none⟩), .int .u8 (p : Nat), .int .u8 (SB p : Nat)] wr fun e w' => e = .returned (.tuple #[]) ∧ ∃ m, w' = (rowSet wr g o p (SB p)).drewN m) := fillRow_ok g o p (SB p) wr hp (SB_lt p) (HR.out.1.there _ _ HT.out)
      have K3 : Hid (∀ u, Calls Tryd.prog 77 #[.int .u8 (p : Nat), .int .u8 3] u fun e u' => e = .returned (.int .u8 (pwT (k + 1) : Nat)) ∧ u' = u) := fun u => (times_ok p 3 hp (by decide) u).mono fun e u' ⟨h1, h2⟩ => ⟨by rw [h1, HP.out, e1], h2⟩
      have K4 : Hid (∀ u, Calls Tryd.prog 77 #[.int .u8 (v : Nat), .int .u8 246] u fun e u' => e = .returned (.int .u8 (ivT (k + 1) : Nat)) ∧ u' = u) := fun u => (times_ok v 246 hv (by decide) u).mono fun e u' ⟨h1, h2⟩ => ⟨by rw [h1, HV.out, e2], h2⟩
      clear e1 e2 e3
      obtain ⟨p', HP'⟩ : ∃ p, Hid (p = pwT (k + 1)) := ⟨_, rfl⟩
      obtain ⟨v', HV'⟩ : ∃ p, Hid (p = ivT (k + 1)) := ⟨_, rfl⟩
      rw [← HP'.out] at K3
      rw [← HV'.out] at K4
      rw [← HP.out, ← HV.out]
      go_wp2_with (first | (go_at_call 76; (refine (K1.out _).mono ?_); (rintro e2 w2 ⟨rfl, hw2⟩; obtain rfl := hw2.symm)) | (go_at_call 75; (refine K2.out.mono ?_)))
      rintro e3 w3 ⟨rfl, m3, hw3⟩
      have HR3 : Hid (Touch w w3 g (o + 61) 1024 ∧ RowOk w3 g o 0 ∧ ∀ j, j < k + 1 → RowOk w3 g o (pwT j)) := by
        obtain ⟨r1, r2, r3⟩ := HR.out
        rw [hw3]
        refine ⟨rowSet_touch hp r1 m3, ?_, fun j hj => ?_⟩
        · by_cases h0 : p = 0
          · subst h0; exact (rowSet_same (r1.there _ _ HT.out) hp).drewN m3
          · exact (rowSet_other hp (by decide) h0 r2).drewN m3
        · by_cases hjk : p = pwT j
          · rw [← hjk]; exact (rowSet_same (r1.there _ _ HT.out) hp).drewN m3
          · have hj' : j < k := by
              rcases Nat.lt_or_ge j k with h | h
              · exact h
              · exact absurd (show p = pwT j by rw [show j = k by omega]; exact HP.out) hjk
            exact (rowSet_other hp (pwT_lt j) hjk (r3 j hj')).drewN m3
      clear hw3 K1 K2
      go_wp2_with (first | (go_at_call 77; (refine (K3.out _).mono ?_)))
      rintro e4 w4 ⟨rfl, hw4⟩
      obtain rfl := hw4.symm
      go_wp2_with (first | (go_at_call 77; (refine (K4.out _).mono ?_)))
      rintro e5 w5 ⟨rfl, hw5⟩
      obtain rfl := hw5.symm
      go_wp2
      refine ⟨⟨k + 1, by omega, rfl, by rw [HP'.out], by rw [HV'.out], HR3.out⟩, ?_⟩
      simp only [intOf]; omega
    · obtain rfl : k = 255 := by omega
      go_wp2
      go_end0
      obtain ⟨r1, r2, r3⟩ := HR.out
      refine ⟨rfl, r1, rows_tab (fun b hb => ?_)⟩
      rcases lg_all ⟨b, hb⟩ with h | ⟨h1, h2⟩
      · simp only at h
        rw [h]
        exact r2
      · simp only at h1 h2
        have := r3 _ h1
        rw [h2] at this
        exact this
end Go.Proofs.YtgmfiljjogdccaaDoor
namespace Go.Proofs.YtgmfiljjogdccaaDoor
open Go.RowKit
set_option linter.unusedVariables false
/-- A cipher's cells, by place. -/
def cipC (nr : Nat) (K : Nat → Nat) (j : Nat) : Value :=
  if j = 0 then .int .i64 (nr : Nat) else if j < 61 then .int .u32 (K (j - 1) : Nat) else if j < 317 then .int .u8 (SB (j - 61) : Nat) else if j < 573 then .int .u8 (UB (j - 317) : Nat)
  else if j < 829 then .int .u32 (MX (j - 573) : Nat) else .int .u32 (UX (j - 829) : Nat)
def cipL (nr : Nat) (K : Nat → Nat) : List Value := (List.range 1085).map (cipC nr K)
theorem cipL_length (nr : Nat) (K : Nat → Nat) : (cipL nr K).length = 1085 := by simp [cipL]
theorem cipL_at (nr : Nat) (K : Nat → Nat) {j : Nat} (h : j < 1085) : (cipL nr K)[j]? = some (cipC nr K j) := by simp [cipL, h]
theorem cipC_one (nr : Nat) (K : Nat → Nat) (j : Nat) : (cipC nr K j).oneCell' = true := by
  unfold cipC
  repeat' split
  all_goals rfl
theorem cipL_one (nr : Nat) (K : Nat → Nat) : (cipL nr K).toArray.all (·.oneCell') = true := all_oneCell_toArray (fun v hv => by
  simp only [cipL, List.mem_map] at hv
  obtain ⟨j, _, rfl⟩ := hv
  exact cipC_one nr K j)
theorem cipL_range {w : World} {g o nr : Nat} {K : Nat → Nat} (h0 : w.cell? ⟨g, o, none⟩ = some (.int .i64 (nr : Nat))) (hw : ∀ i, i < 60 → w.cell? ⟨g, o + 1 + i, none⟩ = some (.int .u32 (K i : Nat))) (ht : Tab w g o) : w.rangeAt g o (cipL nr K) := fun j v hv => by
  have hj : j < 1085 := by
    have := (List.getElem?_eq_some_iff.1 hv).1
    rw [cipL_length] at this
    exact this
  rw [cipL_at nr K hj] at hv
  obtain rfl := Option.some.inj hv
  unfold cipC
  by_cases h1 : j = 0
  · rw [if_pos h1, h1]; exact h0
  rw [if_neg h1]
  by_cases h2 : j < 61
  · rw [if_pos h2]; have := hw (j - 1) (by omega); rw [show o + 1 + (j - 1) = o + j by omega] at this; exact this
  rw [if_neg h2]
  by_cases h3 : j < 317
  · rw [if_pos h3]; have := ht.s (j - 61) (by omega); rw [show o + 61 + (j - 61) = o + j by omega] at this; exact this
  rw [if_neg h3]
  by_cases h4 : j < 573
  · rw [if_pos h4]; have := ht.u (j - 317) (by omega); rw [show o + 317 + (j - 317) = o + j by omega] at this; exact this
  rw [if_neg h4]
  by_cases h5 : j < 829
  · rw [if_pos h5]; have := ht.m (j - 573) (by omega); rw [show o + 573 + (j - 573) = o + j by omega] at this; exact this
  rw [if_neg h5]
  have := ht.n (j - 829) (by omega)
  rw [show o + 829 + (j - 829) = o + j by omega] at this
  exact this
theorem ciph_of_range {w : World} {g o nr : Nat} {K : Nat → Nat} (h : w.rangeAt g o (cipL nr K)) (hg : g < w.heap.size) (h1 : 1 ≤ nr) (h14 : nr ≤ 14) (hK : ∀ i, K i < 4294967296) : Ciph w g o nr K := by
  have e : ∀ j, j < 1085 → w.cell? ⟨g, o + j, none⟩ = some (cipC nr K j) := fun j hj => h j _ (cipL_at nr K hj)
  refine ⟨?_, fun i hi => ?_, hK, ⟨fun b hb => ?_, fun b hb => ?_, fun b hb => ?_, fun b hb => ?_⟩, hg, h1, h14⟩
  · exact e 0 (by omega)
  · have := e (1 + i) (by omega)
    rw [← Nat.add_assoc] at this
    rw [this]
    unfold cipC
    rw [if_neg (by omega), if_pos (by omega), show 1 + i - 1 = i by omega]
  · have := e (61 + b) (by omega)
    rw [← Nat.add_assoc] at this
    rw [this]
    unfold cipC
    rw [if_neg (by omega), if_neg (by omega), if_pos (by omega), show 61 + b - 61 = b by omega]
  · have := e (317 + b) (by omega)
    rw [← Nat.add_assoc] at this
    rw [this]
    unfold cipC
    rw [if_neg (by omega), if_neg (by omega), if_neg (by omega), if_pos (by omega), show 317 + b - 317 = b by omega]
  · have := e (573 + b) (by omega)
    rw [← Nat.add_assoc] at this
    rw [this]
    unfold cipC
    rw [if_neg (by omega), if_neg (by omega), if_neg (by omega), if_neg (by omega), if_pos (by omega), show 573 + b - 573 = b by omega]
  · have := e (829 + b) (by omega)
    rw [← Nat.add_assoc] at this
    rw [this]
    unfold cipC
    rw [if_neg (by omega), if_neg (by omega), if_neg (by omega), if_neg (by omega), if_neg (by omega), show 829 + b - 829 = b by omega]
/-- The schedule. -/
def upd (f : Nat → Nat) (i v : Nat) : Nat → Nat := fun j => if j = i then v else f j
def subw (x : Nat) : Nat := lastw x x x x
def rotw (x : Nat) : Nat := wd (bt1 x) (bt2 x) (bt3 x) (bt0 x)
def rcT (i : Nat) : Nat := Nat.mod (Nat.shiftRight 255515093586639589736961 (Nat.mul 8 i)) 256
def nextW (nk i : Nat) (K : Nat → Nat) : Nat :=
  Nat.xor (K (i - nk)) (if i % nk = 0 then Nat.xor (subw (rotw (K (i - 1)))) (rcT (i / nk - 1) * 16777216) else if nk = 8 ∧ i % 8 = 4 then subw (K (i - 1)) else K (i - 1))
def keyW (key : Nat → Nat) : Nat → Nat → Nat
  | 0 => fun _ => 0
  | i + 1 => upd (keyW key i) (i / 4) (keyW key i (i / 4) * 256 % 4294967296 + key i)
def goW (nk : Nat) (K : Nat → Nat) : Nat → Nat → Nat
  | 0 => K
  | m + 1 => upd (goW nk K m) (nk + m) (nextW nk (nk + m) (goW nk K m))
/-- The words of a key of 4 nk bytes. -/
def schedK (nk : Nat) (key : Nat → Nat) : Nat → Nat := goW nk (keyW key (4 * nk)) (3 * nk + 28)
theorem keyW_lt {key : Nat → Nat} (hk : ∀ i, key i < 256) : ∀ i j, keyW key i j < 4294967296
  | 0, j => by show 0 < _; decide
  | i + 1, j => by
    unfold keyW upd
    have := hk i
    split
    · omega
    · exact keyW_lt hk i j
theorem rcT_lt (i : Nat) : rcT i < 256 := Nat.mod_lt _ (by decide)
theorem subw_lt (x : Nat) : subw x < 4294967296 := lastw_lt _ _ _ _
theorem nextW_lt {nk i : Nat} {K : Nat → Nat} (hK : ∀ j, K j < 4294967296) : nextW nk i K < 4294967296 := by
  unfold nextW
  refine xor_lt32 (hK _) ?_
  have := rcT_lt (i / nk - 1)
  split
  · exact xor_lt32 (subw_lt _) (by omega)
  · split
    · exact subw_lt _
    · exact hK _
theorem goW_lt {nk : Nat} {K : Nat → Nat} (hK : ∀ j, K j < 4294967296) : ∀ m j, goW nk K m j < 4294967296
  | 0, j => hK j
  | m + 1, j => by
    unfold goW upd
    split
    · exact nextW_lt (goW_lt hK m)
    · exact goW_lt hK m j
theorem schedK_lt {nk : Nat} {key : Nat → Nat} (hk : ∀ i, key i < 256) (j : Nat) : schedK nk key j < 4294967296 := goW_lt (keyW_lt hk _) _ j
/-- What stands while a key is scheduled in block B + 1. -/
structure SchAt (w : World) (nr : Nat) (K : Nat → Nat) (u : World) : Prop where
  old : Below w.heap.size w u
  size : w.heap.size + 2 ≤ u.heap.size
  res : u.there w.heap.size 0 1085
  room : u.there (w.heap.size + 1) 0 1085
  rounds : u.cell? ⟨w.heap.size + 1, 0, none⟩ = some (.int .i64 (nr : Nat))
  words : ∀ j, j < 60 → u.cell? ⟨w.heap.size + 1, 1 + j, none⟩ = some (.int .u32 (K j : Nat))
theorem SchAt.touch {w u u' : World} {nr : Nat} {K : Nat → Nat} (h : SchAt w nr K u) (ht : Touch u u' (w.heap.size + 1) 61 1024) : SchAt w nr K u' := by
  have hs := h.size
  refine ⟨h.old.trans (ht.toBelow (Nat.le_succ _) h.old.size), Nat.le_trans h.size ht.size, ?_, ht.there _ _ h.room, (ht.cell 0 (by omega)).trans h.rounds, fun j hj => (ht.cell (1 + j) (by omega)).trans (h.words j hj)⟩
  intro j hj
  have := h.res j hj
  rw [ht.far (p := ⟨w.heap.size, 0 + j, none⟩) (show w.heap.size < _ by omega) (show w.heap.size ≠ _ by omega), ht.farFrozen (p := ⟨w.heap.size, 0 + j, none⟩) (show w.heap.size < _ by omega) (show w.heap.size ≠ _ by omega)]
  exact this
theorem SchAt.set {w u : World} {nr : Nat} {K : Nat → Nat} (h : SchAt w nr K u) (i v : Nat) (hi : i < 60) : SchAt w nr (upd K i v) (u.setCell ⟨w.heap.size + 1, 1 + i, none⟩ (.int .u32 (v : Nat))) := by
  refine ⟨h.old.setCell (Nat.le_succ _) _, ?_, World.there_setCells h.res _ _ [_], World.there_setCells h.room _ _ [_], ?_, fun j hj => ?_⟩
  · have := h.size; simpa [World.setCell] using this
  · rw [cell_other _ _ _ _ _ (by omega)]; exact h.rounds
  · unfold upd
    by_cases hji : j = i
    · subst hji
      rw [if_pos rfl]
      have := h.room (1 + j) (by omega)
      simp only [Nat.zero_add] at this
      exact World.cell?_setCell_same' _ _ _ this.1
    · rw [if_neg hji, cell_other _ _ _ _ _ (by omega)]
      exact h.words j hj
theorem SchAt.drewN {w u : World} {nr : Nat} {K : Nat → Nat} (h : SchAt w nr K u) (m : Nat) : SchAt w nr K (u.drewN m) := ⟨Below.drewN h.old m, h.size, h.res, h.room, h.rounds, h.words⟩
theorem Tab.set {u : World} {g i : Nat} (h : Tab u g 0) (v : Value) (hi : i < 61) : Tab (u.setCell ⟨g, i, none⟩ v) g 0 :=
  ⟨fun b hb => by rw [cell_other _ _ _ _ _ (by omega)]; exact h.s b hb, fun b hb => by rw [cell_other _ _ _ _ _ (by omega)]; exact h.u b hb, fun b hb => by rw [cell_other _ _ _ _ _ (by omega)]; exact h.m b hb, fun b hb => by rw [cell_other _ _ _ _ _ (by omega)]; exact h.n b hb⟩
theorem Tab.drewN {u : World} {g o : Nat} (h : Tab u g o) (m : Nat) : Tab (u.drewN m) g o := ⟨h.s, h.u, h.m, h.n⟩
/-- replace: S of each byte of a word. -/
theorem replace_ok (g o x : Nat) (w : World) (hT : Tab w g o) : Calls Tryd.prog 53 #[.pointer (some ⟨g, o, none⟩), .int .u32 (x : Nat)] w fun e w' => e = .returned (.int .u32 (subw x : Nat)) ∧ ∃ m, w' = w.drewN m := by
  obtain ⟨y, HY⟩ : ∃ y, Hid (y = subw x) := ⟨_, rfl⟩
  have K1 : Hid (Calls Tryd.prog 67 #[.pointer (some ⟨g, o, none⟩), .int .u32 (x : Nat), .int .u32 (x : Nat), .int .u32 (x : Nat), .int .u32 (x : Nat)] w fun e w' => e = .returned (.int .u32 (y : Nat)) ∧ ∃ m, w' = w.drewN m) := by
    rw [HY.out]
    exact last_ok g o x x x x _ _ _ _ w (bt0_lt x) (bt1_lt x) (bt2_lt x) (bt3_lt x) (int_bt0 x) (int_bt1 x) (int_bt2 x) (int_bt3 x) hT
  rw [← HY.out]
  clear hT
  go_enter Tryd.func53, Tryd.ntmps53
  go_wp2_with (first | (go_at_call 67; refine K1.out.mono ?_))
  rintro e1 w1 ⟨rfl, m, hw⟩
  go_wp2
  go_ret
  exact ⟨rfl, m, rfl⟩
theorem wordCount_ok (g o nr : Nat) (w : World) (h : w.cell? ⟨g, o, none⟩ = some (.int .i64 (nr : Nat))) (hn : nr ≤ 14) : Calls Tryd.prog 42 #[.pointer (some ⟨g, o, none⟩)] w fun e w' => e = .returned (.int .i64 (4 * (nr + 1) : Nat)) ∧ w' = w := by
  go_enter Tryd.func42, Tryd.ntmps42
  go_wp2
  go_ret
  exact ⟨ret_int (by omega), rfl⟩
end Go.Proofs.YtgmfiljjogdccaaDoor
namespace Go.Proofs.YtgmfiljjogdccaaDoor
/-- Steps r down to 1, of whatever kind. -/
def iterF (f : Nat → W4 → W4) : Nat → W4 → W4
  | 0, s => s
  | r + 1, s => iterF f r (f (r + 1) s)
theorem iterF_succ (f : Nat → W4 → W4) (r : Nat) (s : W4) : iterF f (r + 1) s = iterF f r (f (r + 1) s) := rfl
theorem iterF_zero (f : Nat → W4 → W4) (s : W4) : iterF f 0 s = s := rfl
def stepD (K : Nat → Nat) (r : Nat) (s : W4) : W4 := unmS (addK K r (undoS s))
def itD (K : Nat → Nat) : Nat → W4 → W4 := iterF (stepD K)
theorem itD_succ (K : Nat → Nat) (r : Nat) (s : W4) : itD K (r + 1) s = itD K r (stepD K (r + 1) s) := iterF_succ (stepD K) r s
theorem itD_zero (K : Nat → Nat) (s : W4) : itD K 0 s = s := iterF_zero (stepD K) s
/-- Decryption, as it is walked. -/
def dcW (nr : Nat) (K : Nat → Nat) (s : W4) : W4 := addK K 0 (undoS (itD K (nr - 1) (addK K nr s)))
theorem dcW_ok {K : Nat → Nat} (hK : ∀ i, K i < 4294967296) (nr : Nat) (s : W4) : (dcW nr K s).ok := addK_ok hK _ (undoS_ok _)
theorem iterE_succ (K : Nat → Nat) (r : Nat) (s : W4) : iterE K (r + 1) s = addK K (r + 1) (mixS (iterE K r s)) := rfl
theorem iterE_zero (K : Nat → Nat) (s : W4) : iterE K 0 s = s := rfl
end Go.Proofs.YtgmfiljjogdccaaDoor
namespace Go.Proofs.YtgmfiljjogdccaaDoor
open Go.RowKit
set_option linter.unusedVariables false
/-- A schedule that is written down is that of the key, if each of its words follows from those ahead of it. -/
theorem goW_at {nk : Nat} {K0 F : Nat → Nat} (h0 : ∀ j, j < nk → K0 j = F j) (hn : 0 < nk) {M : Nat} (hs : ∀ m, m < M → nextW nk (nk + m) F = F (nk + m)) : ∀ m, m ≤ M → ∀ j, j < nk + m → goW nk K0 m j = F j := by
  intro m
  induction m with
  | zero => exact fun _ j hj => h0 j (by omega)
  | succ m ih =>
    intro hm j hj
    have ih' := ih (by omega)
    unfold goW upd
    by_cases hjm : j = nk + m
    · rw [if_pos hjm, hjm, ← hs m (by omega)]
      unfold nextW
      rw [ih' (nk + m - nk) (by omega), ih' (nk + m - 1) (by omega)]
    · rw [if_neg hjm]
      exact ih' j (by omega)
theorem addK_congr {K F : Nat → Nat} {r : Nat} (h : ∀ j, j < 4 * (r + 1) → K j = F j) (s : W4) : addK K r s = addK F r s := by
  unfold addK
  rw [h (4 * r) (by omega), h (4 * r + 1) (by omega), h (4 * r + 2) (by omega), h (4 * r + 3) (by omega)]
theorem iterE_congr {K F : Nat → Nat} (s : W4) (r : Nat) (h : ∀ j, j < 4 * (r + 1) → K j = F j) : iterE K r s = iterE F r s := by
  induction r with
  | zero => rw [iterE_zero, iterE_zero]
  | succ r ih => rw [iterE_succ, iterE_succ, ih (fun j hj => h j (by omega)), addK_congr h]
theorem encW_congr {K F : Nat → Nat} {nr : Nat} (h1 : 1 ≤ nr) (h : ∀ j, j < 4 * (nr + 1) → K j = F j) (s : W4) : encW nr K s = encW nr F s := by
  unfold encW
  rw [addK_congr (r := 0) (fun j hj => h j (by omega)), iterE_congr _ (nr - 1) (fun j hj => h j (by omega)), addK_congr h]
/-- A list of words out of one number. -/
def wordT (n j : Nat) : Nat := Nat.mod (Nat.shiftRight n (Nat.mul 32 j)) 4294967296
def W16 : Nat := 2135183411306450747924455776101631667317021435197242029516822643292385793394556178976294297568553652486272567026286629297947075971482648749057793986447198710817864160694422276215993401979832658662751292340275810678820517951599512784483112403130681781938724593781911744968406893768034920525865760486124286933107695541170726264261124972481373622074072336675592582977578699619304832075701685807426322995989797651311590042042883
def key16 (i : Nat) : Nat := Nat.mod (Nat.shiftRight 20011376718272490338853433276725592320 (Nat.mul 8 i)) 256
theorem W16_key : ∀ j : Fin 4, keyW key16 16 j.1 = wordT W16 j.1 := by decide +kernel
theorem W16_next : ∀ m : Fin 40, nextW 4 (4 + m.1) (wordT W16) = wordT W16 (4 + m.1) := by decide +kernel
theorem sched16 : ∀ j, j < 44 → schedK 4 key16 j = wordT W16 j := fun j hj =>
  goW_at (fun j hj => W16_key ⟨j, hj⟩) (by decide) (M := 40) (fun m hm => W16_next ⟨m, hm⟩) 40 (Nat.le_refl _) j (by omega)
def W24 : Nat := 729328934795255555490277851006730375856188269561163575406021219476903401627521025716984479554611303630301180246252225068864986183027940516296883972211032065994115010788029758665927779365528380332424018344531848639015454836505358409328253008345992468745886702614064518615513767017199666280190800970210691493213224184692499272855399702965942998223869555410042228926578153626562128278023057192759156250679943918747124702184545746189071564077277751059192648854853476604783356490128425658539062275606643203
def key24 (i : Nat) : Nat := Nat.mod (Nat.shiftRight 566073426779046459040877649791461066728553822781039575296 (Nat.mul 8 i)) 256
theorem W24_key : ∀ j : Fin 6, keyW key24 24 j.1 = wordT W24 j.1 := by decide +kernel
theorem W24_next : ∀ m : Fin 46, nextW 6 (6 + m.1) (wordT W24) = wordT W24 (6 + m.1) := by decide +kernel
theorem sched24 : ∀ j, j < 52 → schedK 6 key24 j = wordT W24 j := fun j hj =>
  goW_at (fun j hj => W24_key ⟨j, hj⟩) (by decide) (M := 46) (fun m hm => W24_next ⟨m, hm⟩) 46 (Nat.le_refl _) j (by omega)
def W32 : Nat := 40588901833789785159217277571222803699713122000033715455120290826434294749228737489858619682393124213434237382448684798201429199859042181465691985922769736547614597994086458994488101378311087064657394489849946737440617656986741278393373241810245004935003052300679918820526303281682444060725392835778184555668714201509861331811386879129221345592586309791718563399891105740675620352127312404174940521730267585763785796873970309904313455019118516937793663314812563166091624445326649780233741323562049636414094104325048685980178953483258441415514281378694392646619490463384516755971
def key32 (i : Nat) : Nat := Nat.mod (Nat.shiftRight 14074904626401341155369551180448584754667373453244490859944217516317499064576 (Nat.mul 8 i)) 256
theorem W32_key : ∀ j : Fin 8, keyW key32 32 j.1 = wordT W32 j.1 := by decide +kernel
theorem W32_next : ∀ m : Fin 52, nextW 8 (8 + m.1) (wordT W32) = wordT W32 (8 + m.1) := by decide +kernel
theorem sched32 : ∀ j, j < 60 → schedK 8 key32 j = wordT W32 j := fun j hj =>
  goW_at (fun j hj => W32_key ⟨j, hj⟩) (by decide) (M := 52) (fun m hm => W32_next ⟨m, hm⟩) 52 (Nat.le_refl _) j (by omega)
def W3 : Nat := 5046468880051722124165138377573495752352814026446080871608016796122220429082579000232600314235784662476030427341372658306567627449033442801373289480869096360226894485099629028185229497190130648053266891598727969131253797210077642090429746202649527074628884158587131746570320957489095398094032979503431341887810050553743204897050105276776682016117297116796442808330014977125357325912016584471395215433345801901684693189661974
def key3 (i : Nat) : Nat := Nat.mod (Nat.shiftRight 80168070412877140649889332058278690347 (Nat.mul 8 i)) 256
theorem W3_key : ∀ j : Fin 4, keyW key3 16 j.1 = wordT W3 j.1 := by decide +kernel
theorem W3_next : ∀ m : Fin 40, nextW 4 (4 + m.1) (wordT W3) = wordT W3 (4 + m.1) := by decide +kernel
theorem sched3 : ∀ j, j < 44 → schedK 4 key3 j = wordT W3 j := fun j hj =>
  goW_at (fun j hj => W3_key ⟨j, hj⟩) (by decide) (M := 40) (fun m hm => W3_next ⟨m, hm⟩) 40 (Nat.le_refl _) j (by omega)
theorem vec16 : encW 10 (wordT W16) ⟨1122867, 1146447479, 2291772091, 3437096703⟩ = ⟨1774510296, 1786446896, 3637360512, 1890895194⟩ := by
  have h : (encW 10 (wordT W16) ⟨1122867, 1146447479, 2291772091, 3437096703⟩).a = 1774510296 ∧ (encW 10 (wordT W16) ⟨1122867, 1146447479, 2291772091, 3437096703⟩).b = 1786446896 ∧ (encW 10 (wordT W16) ⟨1122867, 1146447479, 2291772091, 3437096703⟩).c = 3637360512 ∧ (encW 10 (wordT W16) ⟨1122867, 1146447479, 2291772091, 3437096703⟩).d = 1890895194 := by decide +kernel
  obtain ⟨a, b, c, d⟩ := h
  generalize encW 10 (wordT W16) ⟨1122867, 1146447479, 2291772091, 3437096703⟩ = x at a b c d
  cases x
  simp only at a b c d
  rw [a, b, c, d]
theorem vec24 : encW 12 (wordT W24) ⟨1122867, 1146447479, 2291772091, 3437096703⟩ = ⟨3718872228, 2253184992, 1856991392, 3960304017⟩ := by
  have h : (encW 12 (wordT W24) ⟨1122867, 1146447479, 2291772091, 3437096703⟩).a = 3718872228 ∧ (encW 12 (wordT W24) ⟨1122867, 1146447479, 2291772091, 3437096703⟩).b = 2253184992 ∧ (encW 12 (wordT W24) ⟨1122867, 1146447479, 2291772091, 3437096703⟩).c = 1856991392 ∧ (encW 12 (wordT W24) ⟨1122867, 1146447479, 2291772091, 3437096703⟩).d = 3960304017 := by decide +kernel
  obtain ⟨a, b, c, d⟩ := h
  generalize encW 12 (wordT W24) ⟨1122867, 1146447479, 2291772091, 3437096703⟩ = x at a b c d
  cases x
  simp only at a b c d
  rw [a, b, c, d]
theorem vec32 : encW 14 (wordT W32) ⟨1122867, 1146447479, 2291772091, 3437096703⟩ = ⟨2393028554, 1365722559, 3942402448, 1263100041⟩ := by
  have h : (encW 14 (wordT W32) ⟨1122867, 1146447479, 2291772091, 3437096703⟩).a = 2393028554 ∧ (encW 14 (wordT W32) ⟨1122867, 1146447479, 2291772091, 3437096703⟩).b = 1365722559 ∧ (encW 14 (wordT W32) ⟨1122867, 1146447479, 2291772091, 3437096703⟩).c = 3942402448 ∧ (encW 14 (wordT W32) ⟨1122867, 1146447479, 2291772091, 3437096703⟩).d = 1263100041 := by decide +kernel
  obtain ⟨a, b, c, d⟩ := h
  generalize encW 14 (wordT W32) ⟨1122867, 1146447479, 2291772091, 3437096703⟩ = x at a b c d
  cases x
  simp only at a b c d
  rw [a, b, c, d]
end Go.Proofs.YtgmfiljjogdccaaDoor
namespace Go.Proofs.YtgmfiljjogdccaaDoor
open Go.RowKit
set_option linter.unusedVariables false
theorem xor_self_right (a k : Nat) : Nat.xor (Nat.xor a k) k = a := by
  show (a ^^^ k) ^^^ k = a
  rw [Nat.xor_assoc, Nat.xor_self, Nat.xor_zero]
theorem addK_addK (K : Nat → Nat) (r : Nat) (s : W4) : addK K r (addK K r s) = s := by
  unfold addK
  simp only [xor_self_right]
/-- The bytes of a word of bytes. -/
theorem bt_wd {a b c d : Nat} (ha : a < 256) (hb : b < 256) (hc : c < 256) (hd : d < 256) : bt0 (wd a b c d) = a ∧ bt1 (wd a b c d) = b ∧ bt2 (wd a b c d) = c ∧ bt3 (wd a b c d) = d := by
  unfold bt0 bt1 bt2 bt3 wd
  omega
theorem U_S {b : Nat} (h : b < 256) : UB (SB b) = b := (UB_SB ⟨b, h⟩).1
theorem S_U {b : Nat} (h : b < 256) : SB (UB b) = b := (UB_SB ⟨b, h⟩).2
theorem bt_last (a b c d : Nat) : bt0 (lastw a b c d) = SB (bt0 a) ∧ bt1 (lastw a b c d) = SB (bt1 b) ∧ bt2 (lastw a b c d) = SB (bt2 c) ∧ bt3 (lastw a b c d) = SB (bt3 d) := bt_wd (SB_lt _) (SB_lt _) (SB_lt _) (SB_lt _)
theorem bt_undo (a b c d : Nat) : bt0 (undow a b c d) = UB (bt0 a) ∧ bt1 (undow a b c d) = UB (bt1 b) ∧ bt2 (undow a b c d) = UB (bt2 c) ∧ bt3 (undow a b c d) = UB (bt3 d) := bt_wd (UB_lt _) (UB_lt _) (UB_lt _) (UB_lt _)
theorem undo_last (s : W4) (hs : s.ok) : undoS (lastS s) = s := by
  obtain ⟨a, b, c, d⟩ := s
  obtain ⟨ha, hb, hc, hd⟩ := hs
  simp only at ha hb hc hd
  simp only [undoS, lastS, undow, (bt_last _ _ _ _).1, (bt_last _ _ _ _).2.1, (bt_last _ _ _ _).2.2.1, (bt_last _ _ _ _).2.2.2, U_S (bt0_lt _), U_S (bt1_lt _), U_S (bt2_lt _), U_S (bt3_lt _), wd_bt ha, wd_bt hb, wd_bt hc, wd_bt hd]
theorem last_undo (s : W4) (hs : s.ok) : lastS (undoS s) = s := by
  obtain ⟨a, b, c, d⟩ := s
  obtain ⟨ha, hb, hc, hd⟩ := hs
  simp only at ha hb hc hd
  simp only [undoS, lastS, lastw, (bt_undo _ _ _ _).1, (bt_undo _ _ _ _).2.1, (bt_undo _ _ _ _).2.2.1, (bt_undo _ _ _ _).2.2.2, S_U (bt0_lt _), S_U (bt1_lt _), S_U (bt2_lt _), S_U (bt3_lt _), wd_bt ha, wd_bt hb, wd_bt hc, wd_bt hd]
/-- A column multiplied. -/
def mcw (x : Nat) : Nat :=
  wd (Nat.xor (Nat.xor (Nat.xor (x2 (bt0 x)) (x3 (bt1 x))) (bt2 x)) (bt3 x)) (Nat.xor (Nat.xor (Nat.xor (bt0 x) (x2 (bt1 x))) (x3 (bt2 x))) (bt3 x))
    (Nat.xor (Nat.xor (Nat.xor (bt0 x) (bt1 x)) (x2 (bt2 x))) (x3 (bt3 x))) (Nat.xor (Nat.xor (Nat.xor (x3 (bt0 x)) (bt1 x)) (bt2 x)) (x2 (bt3 x)))
def mcS (s : W4) : W4 := ⟨mcw s.a, mcw s.b, mcw s.c, mcw s.d⟩
theorem xl2 {b : Nat} (h : b < 256) : x2 b < 256 := (x_lt ⟨b, h⟩).1
theorem xl3 {b : Nat} (h : b < 256) : x3 b < 256 := (x_lt ⟨b, h⟩).2.1
theorem xl9 {b : Nat} (h : b < 256) : x9 b < 256 := (x_lt ⟨b, h⟩).2.2.1
theorem xl11 {b : Nat} (h : b < 256) : x11 b < 256 := (x_lt ⟨b, h⟩).2.2.2.1
theorem xl13 {b : Nat} (h : b < 256) : x13 b < 256 := (x_lt ⟨b, h⟩).2.2.2.2.1
theorem xl14 {b : Nat} (h : b < 256) : x14 b < 256 := (x_lt ⟨b, h⟩).2.2.2.2.2
theorem mix_mc (a b c d : Nat) : mixw a b c d = mcw (lastw a b c d) := by
  unfold mixw mixc mcw
  obtain ⟨e0, e1, e2, e3⟩ := bt_last a b c d
  rw [e0, e1, e2, e3]
  have p := SB_lt (bt0 a)
  have q := SB_lt (bt1 b)
  have r := SB_lt (bt2 c)
  have t := SB_lt (bt3 d)
  unfold MX M8 M16 M24
  rw [wd_xor _ _ _ _ _ _ _ _ p p (xl3 p) (xl2 q) q q, wd_xor _ _ _ _ _ _ _ _ (xor_lt8 p (xl2 q)) (xor_lt8 p q) (xor_lt8 (xl3 p) q) (xl3 r) (xl2 r) r, wd_xor _ _ _ _ _ _ _ _ (xor_lt8 (xor_lt8 p (xl2 q)) (xl3 r)) (xor_lt8 (xor_lt8 p q) (xl2 r)) (xor_lt8 (xor_lt8 (xl3 p) q) r) t (xl3 t) (xl2 t)]
/-- Doubling is additive. -/
def addB (a b : Nat) : Bool := Nat.beq (dblN (Nat.xor a b)) (Nat.xor (dblN a) (dblN b))
set_option maxRecDepth 100000 in
theorem addB_all : allB (fun a => allB (addB a) 256) 256 = true := by decide +kernel
theorem dbl_add {a b : Nat} (ha : a < 256) (hb : b < 256) : dblN (a ^^^ b) = dblN a ^^^ dblN b := Nat.eq_of_beq_eq_true (allB_at (allB_at addB_all ha) hb)
theorem x2_add {a b : Nat} (ha : a < 256) (hb : b < 256) : x2 (a ^^^ b) = x2 a ^^^ x2 b := dbl_add ha hb
theorem d_lt {a : Nat} (h : a < 256) : dblN a < 256 := dbl_lt ⟨a, h⟩
theorem x3_add {a b : Nat} (ha : a < 256) (hb : b < 256) : x3 (a ^^^ b) = x3 a ^^^ x3 b := by
  show dblN (a ^^^ b) ^^^ (a ^^^ b) = (dblN a ^^^ a) ^^^ (dblN b ^^^ b)
  rw [dbl_add ha hb]; ac_rfl
theorem d4_add {a b : Nat} (ha : a < 256) (hb : b < 256) : dblN (dblN (a ^^^ b)) = dblN (dblN a) ^^^ dblN (dblN b) := by rw [dbl_add ha hb, dbl_add (d_lt ha) (d_lt hb)]
theorem d8_add {a b : Nat} (ha : a < 256) (hb : b < 256) : dblN (dblN (dblN (a ^^^ b))) = dblN (dblN (dblN a)) ^^^ dblN (dblN (dblN b)) := by rw [d4_add ha hb, dbl_add (d_lt (d_lt ha)) (d_lt (d_lt hb))]
theorem x9_add {a b : Nat} (ha : a < 256) (hb : b < 256) : x9 (a ^^^ b) = x9 a ^^^ x9 b := by
  show dblN (dblN (dblN (a ^^^ b))) ^^^ (a ^^^ b) = (dblN (dblN (dblN a)) ^^^ a) ^^^ (dblN (dblN (dblN b)) ^^^ b)
  rw [d8_add ha hb]; ac_rfl
theorem x11_add {a b : Nat} (ha : a < 256) (hb : b < 256) : x11 (a ^^^ b) = x11 a ^^^ x11 b := by
  show (dblN (dblN (dblN (a ^^^ b))) ^^^ dblN (a ^^^ b)) ^^^ (a ^^^ b) = ((dblN (dblN (dblN a)) ^^^ dblN a) ^^^ a) ^^^ ((dblN (dblN (dblN b)) ^^^ dblN b) ^^^ b)
  rw [d8_add ha hb, dbl_add ha hb]; ac_rfl
theorem x13_add {a b : Nat} (ha : a < 256) (hb : b < 256) : x13 (a ^^^ b) = x13 a ^^^ x13 b := by
  show (dblN (dblN (dblN (a ^^^ b))) ^^^ dblN (dblN (a ^^^ b))) ^^^ (a ^^^ b) = ((dblN (dblN (dblN a)) ^^^ dblN (dblN a)) ^^^ a) ^^^ ((dblN (dblN (dblN b)) ^^^ dblN (dblN b)) ^^^ b)
  rw [d8_add ha hb, d4_add ha hb]; ac_rfl
theorem x14_add {a b : Nat} (ha : a < 256) (hb : b < 256) : x14 (a ^^^ b) = x14 a ^^^ x14 b := by
  show (dblN (dblN (dblN (a ^^^ b))) ^^^ dblN (dblN (a ^^^ b))) ^^^ dblN (a ^^^ b) = ((dblN (dblN (dblN a)) ^^^ dblN (dblN a)) ^^^ dblN a) ^^^ ((dblN (dblN (dblN b)) ^^^ dblN (dblN b)) ^^^ dblN b)
  rw [d8_add ha hb, d4_add ha hb, dbl_add ha hb]; ac_rfl
theorem coef : ∀ p : Fin 256, (((x14 (x2 p.1) ^^^ x11 p.1) ^^^ x13 p.1) ^^^ x9 (x3 p.1) = p.1) ∧ (((x14 (x3 p.1) ^^^ x11 (x2 p.1)) ^^^ x13 p.1) ^^^ x9 p.1 = 0) ∧ (((x14 p.1 ^^^ x11 (x3 p.1)) ^^^ x13 (x2 p.1)) ^^^ x9 p.1 = 0) ∧ (((x14 p.1 ^^^ x11 p.1) ^^^ x13 (x3 p.1)) ^^^ x9 (x2 p.1) = 0) := by decide +kernel
theorem coef2 : ∀ p : Fin 256, (((x2 (x14 p.1) ^^^ x3 (x9 p.1)) ^^^ x13 p.1) ^^^ x11 p.1 = p.1) ∧ (((x2 (x11 p.1) ^^^ x3 (x14 p.1)) ^^^ x9 p.1) ^^^ x13 p.1 = 0) ∧ (((x2 (x13 p.1) ^^^ x3 (x11 p.1)) ^^^ x14 p.1) ^^^ x9 p.1 = 0) ∧ (((x2 (x9 p.1) ^^^ x3 (x13 p.1)) ^^^ x11 p.1) ^^^ x14 p.1 = 0) := by decide +kernel
end Go.Proofs.YtgmfiljjogdccaaDoor
namespace Go.Proofs.YtgmfiljjogdccaaDoor
open Go.RowKit
set_option linter.unusedVariables false
/-- The bytes of a word, the highest first. -/
def btn (x : Nat) : Nat → Nat
  | 0 => bt0 x
  | 1 => bt1 x
  | 2 => bt2 x
  | _ => bt3 x
theorem btn0 (x : Nat) : btn x 0 = bt0 x := rfl
theorem btn1 (x : Nat) : btn x 1 = bt1 x := rfl
theorem btn2 (x : Nat) : btn x 2 = bt2 x := rfl
theorem btn3 (x : Nat) : btn x 3 = bt3 x := rfl
theorem btn_lt (x j : Nat) : btn x j < 256 := by
  unfold btn
  split <;> first | exact bt0_lt x | exact bt1_lt x | exact bt2_lt x | exact bt3_lt x
/-- A schedule's bytes, one behind the other. -/
def rb (K : Nat → Nat) (j : Nat) : Nat := btn (K (j / 4)) (j % 4)
theorem rb_lt (K : Nat → Nat) (j : Nat) : rb K j < 256 := btn_lt _ _
theorem rb_at (K : Nat → Nat) (i : Nat) : rb K (4 * i) = bt0 (K i) ∧ rb K (4 * i + 1) = bt1 (K i) ∧ rb K (4 * i + 2) = bt2 (K i) ∧ rb K (4 * i + 3) = bt3 (K i) := by
  refine ⟨?_, ?_, ?_, ?_⟩ <;> unfold rb
  · rw [show 4 * i / 4 = i by omega, show 4 * i % 4 = 0 by omega]; exact btn0 _
  · rw [show (4 * i + 1) / 4 = i by omega, show (4 * i + 1) % 4 = 1 by omega]; rfl
  · rw [show (4 * i + 2) / 4 = i by omega, show (4 * i + 2) % 4 = 2 by omega]; rfl
  · rw [show (4 * i + 3) / 4 = i by omega, show (4 * i + 3) % 4 = 3 by omega]; rfl
theorem rb_wd (K : Nat → Nat) (i : Nat) (h : K i < 4294967296) : wd (rb K (4 * i)) (rb K (4 * i + 1)) (rb K (4 * i + 2)) (rb K (4 * i + 3)) = K i := by
  obtain ⟨a, b, c, d⟩ := rb_at K i
  rw [a, b, c, d]
  exact wd_bt h
theorem goW_old (nk : Nat) (K0 : Nat → Nat) : ∀ m j, j < nk → goW nk K0 m j = K0 j
  | 0, j, _ => rfl
  | m + 1, j, h => by
    unfold goW upd
    rw [if_neg (by omega)]
    exact goW_old nk K0 m j h
theorem goW_stay (nk : Nat) (K0 : Nat → Nat) (m : Nat) : ∀ d j, j < nk + m → goW nk K0 (m + d) j = goW nk K0 m j
  | 0, j, _ => rfl
  | d + 1, j, h => by
    show goW nk K0 (m + d + 1) j = _
    rw [goW]
    unfold upd
    rw [if_neg (by omega)]
    exact goW_stay nk K0 m d j h
theorem goW_next (nk : Nat) (hn : 0 < nk) (K0 : Nat → Nat) (M m : Nat) (h : m < M) : goW nk K0 M (nk + m) = nextW nk (nk + m) (goW nk K0 M) := by
  have e : M = m + 1 + (M - m - 1) := by omega
  have h1 : goW nk K0 M (nk + m) = nextW nk (nk + m) (goW nk K0 m) := by
    rw [e, goW_stay nk K0 (m + 1) _ _ (by omega), goW]
    unfold upd
    rw [if_pos rfl]
  rw [h1]
  unfold nextW
  have e2 : M = m + (M - m) := by omega
  have h2 : goW nk K0 M (nk + m - nk) = goW nk K0 m (nk + m - nk) := by rw [e2, goW_stay nk K0 m _ _ (by omega)]
  have h3 : goW nk K0 M (nk + m - 1) = goW nk K0 m (nk + m - 1) := by rw [e2, goW_stay nk K0 m _ _ (by omega)]
  rw [h2, h3]
theorem schedK_next (nk : Nat) (hn : 0 < nk) (key : Nat → Nat) (i : Nat) (h1 : nk ≤ i) (h2 : i < 4 * nk + 28) : schedK nk key i = nextW nk i (schedK nk key) := by
  have := goW_next nk hn (keyW key (4 * nk)) (3 * nk + 28) (i - nk) (by omega)
  rw [show nk + (i - nk) = i by omega] at this
  exact this
/-- The key's own words: four bytes each. -/
theorem keyW_part (key : Nat → Nat) (hk : ∀ i, key i < 256) (q : Nat) : ∀ i,
    (i ≤ 4 * q → keyW key i q = 0) ∧ (i = 4 * q + 1 → keyW key i q = key (4 * q)) ∧ (i = 4 * q + 2 → keyW key i q = key (4 * q) * 256 + key (4 * q + 1)) ∧ (i = 4 * q + 3 → keyW key i q = (key (4 * q) * 256 + key (4 * q + 1)) * 256 + key (4 * q + 2)) ∧ (4 * q + 4 ≤ i → keyW key i q = wd (key (4 * q)) (key (4 * q + 1)) (key (4 * q + 2)) (key (4 * q + 3))) := by
  intro i
  induction i with
  | zero => exact ⟨fun _ => rfl, by omega, by omega, by omega, by omega⟩
  | succ i ih =>
    obtain ⟨a0, a1, a2, a3, a4⟩ := ih
    have k0 := hk (4 * q)
    have k1 := hk (4 * q + 1)
    have k2 := hk (4 * q + 2)
    have k3 := hk (4 * q + 3)
    refine ⟨fun h => ?_, fun h => ?_, fun h => ?_, fun h => ?_, fun h => ?_⟩ <;> unfold keyW upd
    · rw [if_neg (by omega)]; exact a0 (by omega)
    · obtain rfl : i = 4 * q := by omega
      rw [if_pos (by omega), show 4 * q / 4 = q by omega, a0 (by omega)]; omega
    · obtain rfl : i = 4 * q + 1 := by omega
      rw [if_pos (by omega), show (4 * q + 1) / 4 = q by omega, a1 rfl]; omega
    · obtain rfl : i = 4 * q + 2 := by omega
      rw [if_pos (by omega), show (4 * q + 2) / 4 = q by omega, a2 rfl]; omega
    · by_cases h3 : i = 4 * q + 3
      · subst h3
        rw [if_pos (by omega), show (4 * q + 3) / 4 = q by omega, a3 rfl]; unfold wd; omega
      · rw [if_neg (by omega)]; exact a4 (by omega)
theorem rb_key (nk : Nat) (key : Nat → Nat) (hk : ∀ i, key i < 256) (j : Nat) (h : j < 4 * nk) : rb (schedK nk key) j = key j := by
  have h1 : schedK nk key (j / 4) = wd (key (4 * (j / 4))) (key (4 * (j / 4) + 1)) (key (4 * (j / 4) + 2)) (key (4 * (j / 4) + 3)) := by
    unfold schedK
    rw [goW_old nk _ _ _ (by omega)]
    exact (keyW_part key hk (j / 4) (4 * nk)).2.2.2.2 (by omega)
  obtain ⟨b0, b1, b2, b3⟩ := bt_wd (hk (4 * (j / 4))) (hk (4 * (j / 4) + 1)) (hk (4 * (j / 4) + 2)) (hk (4 * (j / 4) + 3))
  unfold rb
  rw [h1]
  have hm : j % 4 = 0 ∨ j % 4 = 1 ∨ j % 4 = 2 ∨ j % 4 = 3 := by omega
  rcases hm with e | e | e | e <;> rw [e]
  · rw [btn0, b0]; exact congrArg key (by omega)
  · rw [btn1, b1]; exact congrArg key (by omega)
  · rw [btn2, b2]; exact congrArg key (by omega)
  · rw [btn3, b3]; exact congrArg key (by omega)
/-- The round constants as powers. -/
def rcP : Nat → Nat
  | 0 => 1
  | m + 1 => tmsN 8 0 (rcP m) 2
theorem rcP_lt : ∀ m, rcP m < 256
  | 0 => by decide
  | m + 1 => times_lt (rcP_lt m) (by decide)
theorem rcP_rc : ∀ m : Fin 10, rcP m.1 = rcT m.1 := by decide +kernel
/-- What the word behind is added with: four bytes. -/
def tB (nk i : Nat) (K : Nat → Nat) (c : Nat) : Nat :=
  if i % nk = 0 then Nat.xor (SB (rb K (4 * i - 4 + (c + 1) % 4))) (if c = 0 then rcP ((i - 1) / nk) else 0)
  else if nk = 8 ∧ i % 8 = 4 then SB (rb K (4 * i - 4 + c)) else rb K (4 * i - 4 + c)
theorem xor_zero8 (a : Nat) : Nat.xor a 0 = a := Nat.xor_zero a
theorem tB_lt (nk i : Nat) (K : Nat → Nat) (c : Nat) : tB nk i K c < 256 := by
  unfold tB
  split
  · split
    · exact xor_lt8 (SB_lt _) (rcP_lt _)
    · rw [xor_zero8]; exact SB_lt _
  · split
    · exact SB_lt _
    · exact rb_lt _ _
theorem next_tB (nk i : Nat) (hnk : nk = 4 ∨ nk = 6 ∨ nk = 8) (h1 : nk ≤ i) (h2 : i < 4 * nk + 28) (K : Nat → Nat) (hK : ∀ j, K j < 4294967296) : nextW nk i K = Nat.xor (K (i - nk)) (wd (tB nk i K 0) (tB nk i K 1) (tB nk i K 2) (tB nk i K 3)) := by
  have hi : 1 ≤ i := by omega
  obtain ⟨p, hp⟩ : ∃ p, i = p + 1 := ⟨i - 1, by omega⟩
  subst hp
  obtain ⟨r0, r1, r2, r3⟩ := rb_at K p
  have e0 : 4 * (p + 1) - 4 = 4 * p := by omega
  unfold nextW
  congr 1
  simp only [tB, e0, Nat.add_sub_cancel]
  by_cases hz : (p + 1) % nk = 0
  · have hc : rcT ((p + 1) / nk - 1) = rcP (p / nk) := by
      have hq : (p + 1) / nk - 1 = p / nk ∧ p / nk < 10 := by rcases hnk with rfl | rfl | rfl <;> omega
      rw [hq.1]
      exact (rcP_rc ⟨p / nk, hq.2⟩).symm
    have hcl := rcP_lt (p / nk)
    rw [if_pos hz, if_pos hz, if_pos hz, if_pos hz, if_pos hz, hc]
    simp only [if_true, show (1 = 0) = False by simp, show (2 = 0) = False by simp, show (3 = 0) = False by simp, if_false, xor_zero8, show (0 + 1) % 4 = 1 from rfl, show (1 + 1) % 4 = 2 from rfl, show (2 + 1) % 4 = 3 from rfl, show (3 + 1) % 4 = 0 from rfl, Nat.add_zero, r0, r1, r2, r3]
    obtain ⟨b0, b1, b2, b3⟩ := bt_wd (bt1_lt (K p)) (bt2_lt (K p)) (bt3_lt (K p)) (bt0_lt (K p))
    have hs : subw (rotw (K p)) = wd (SB (bt1 (K p))) (SB (bt2 (K p))) (SB (bt3 (K p))) (SB (bt0 (K p))) := by
      unfold subw lastw rotw
      rw [b0, b1, b2, b3]
    have hr : rcP (p / nk) * 16777216 = wd (rcP (p / nk)) 0 0 0 := by unfold wd; omega
    rw [hs, hr, wd_xor _ _ _ _ _ _ _ _ (SB_lt _) (SB_lt _) (SB_lt _) (by decide) (by decide) (by decide), xor_zero8, xor_zero8, xor_zero8]
  · rw [if_neg hz, if_neg hz, if_neg hz, if_neg hz, if_neg hz]
    simp only [Nat.add_zero, r0, r1, r2, r3]
    by_cases h8 : nk = 8 ∧ (p + 1) % 8 = 4
    · rw [if_pos h8, if_pos h8, if_pos h8, if_pos h8, if_pos h8]
      rfl
    · rw [if_neg h8, if_neg h8, if_neg h8, if_neg h8, if_neg h8]
      exact (wd_bt (hK p)).symm
theorem rb_next (nk : Nat) (hnk : nk = 4 ∨ nk = 6 ∨ nk = 8) (key : Nat → Nat) (hk : ∀ i, key i < 256) (i c : Nat) (h1 : nk ≤ i) (h2 : i < 4 * nk + 28) (hc : c < 4) :
    rb (schedK nk key) (4 * i + c) = Nat.xor (rb (schedK nk key) (4 * (i - nk) + c)) (tB nk i (schedK nk key) c) := by
  have hK := schedK_lt (nk := nk) hk
  have e := schedK_next nk (by omega) key i h1 h2
  rw [next_tB nk i hnk h1 h2 _ hK] at e
  generalize schedK nk key = K at *
  have a := wd_bt (hK (i - nk))
  rw [← a, wd_xor _ _ _ _ _ _ _ _ (bt1_lt _) (bt2_lt _) (bt3_lt _) (tB_lt _ _ _ _) (tB_lt _ _ _ _) (tB_lt _ _ _ _)] at e
  obtain ⟨b0, b1, b2, b3⟩ := bt_wd (xor_lt8 (bt0_lt (K (i - nk))) (tB_lt nk i K 0)) (xor_lt8 (bt1_lt (K (i - nk))) (tB_lt nk i K 1)) (xor_lt8 (bt2_lt (K (i - nk))) (tB_lt nk i K 2)) (xor_lt8 (bt3_lt (K (i - nk))) (tB_lt nk i K 3))
  obtain ⟨r0, r1, r2, r3⟩ := rb_at K i
  obtain ⟨s0, s1, s2, s3⟩ := rb_at K (i - nk)
  rw [← e] at b0 b1 b2 b3
  have hm : c = 0 ∨ c = 1 ∨ c = 2 ∨ c = 3 := by omega
  rcases hm with rfl | rfl | rfl | rfl
  · rw [Nat.add_zero, Nat.add_zero, r0, s0]; exact b0
  · rw [r1, s1]; exact b1
  · rw [r2, s2]; exact b2
  · rw [r3, s3]; exact b3
end Go.Proofs.YtgmfiljjogdccaaDoor
