import Derived.Test.YtcopkohklgbpgaaDoorDif
namespace Go.Proofs.YtcopkohklgbpgaaDoor
open Go.RowKit Go.Shelf
attribute [local go_sem] Oper.semAt_some
set_option linter.unusedVariables false
set_option linter.unusedSimpArgs false
/-- One stripe: laid over, and diffused. -/
def mstep (h : Int) (n : Nat) (a : Nat → Int) (f : Nat → Int) (x : Nat) : Nat → Int := diffF h n (xorF f (fun i => a (x * n + i)) n)
/-- The stripes ahead. -/
def maskF (h : Int) (n : Nat) (a : Nat → Int) (cnt : Nat) (f : Nat → Int) : Nat → Int := (List.range cnt).foldl (mstep h n a) f
theorem cnt_mul (cnt n : Nat) (hn : 1 ≤ n) (j : Nat) : j < cnt ↔ j * n < cnt * n := (Nat.mul_lt_mul_right (by omega)).symm
def mstepC (h : Int) (n len : Nat) (a : Nat → Int) (f : Nat → Int) (x : Nat) : Nat → Int := mstep h n a f (clp n len x)
theorem foldl_same {α β : Type} (F G : β → α → β) (l : List α) (hl : ∀ x, x ∈ l → ∀ b, F b x = G b x) : ∀ b, l.foldl F b = l.foldl G b := by
  induction l with
  | nil => intro b; rfl
  | cons y r ih =>
    intro b
    rw [List.foldl_cons, List.foldl_cons, hl y (by simp) b]
    exact ih (fun x hx => hl x (by simp [hx])) _
theorem maskC_eq (h : Int) (n cnt : Nat) (a : Nat → Int) (f : Nat → Int) (hn : 1 ≤ n) : (List.range cnt).foldl (mstepC h n (cnt * n) a) f = maskF h n a cnt f := by
  refine foldl_same _ _ _ (fun x hx b => ?_) f
  rw [List.mem_range] at hx
  unfold mstepC clp
  rw [if_pos ((cnt_mul cnt n hn x).1 hx)]
theorem clp_mul (cnt n x : Nat) (hn : 1 ≤ n) (hc : 0 < cnt) : clp n (cnt * n) x < cnt ∧ pcl n (cnt * n) x = n ∧ clp n (cnt * n) x * n + n ≤ cnt * n := by
  have h0 : 0 < cnt * n := Nat.mul_pos hc (by omega)
  have h1 := clp_lt n (cnt * n) x h0
  have h2 := (cnt_mul cnt n hn (clp n (cnt * n) x)).2 h1
  have h3 : (clp n (cnt * n) x + 1) * n ≤ cnt * n := Nat.mul_le_mul_right n h2
  rw [Nat.succ_mul] at h3
  refine ⟨h2, ?_, h3⟩
  unfold pcl
  rw [Nat.succ_mul]
  omega
set_option maxHeartbeats 3200000 in
set_option maxRecDepth 100000 in
theorem mask_nil (g s u n bl ol cl : Nat) (f z : Nat → Int) (h : Int) (w : World) (ah : Option Addr) (ca : Nat) (k : Hid (Known h)) (hm : Hid (Mix w g s h f u)) (hne : g ≠ s) (hg4 : 4 ≤ g) (hs4 : 4 ≤ s) (hu : u ≤ 1024) (hn : 1 ≤ n ∧ n ≤ 1024) (hbl : bl ≠ g ∧ bl ≠ s) (hlz : Hid (∀ i, i < n → w.cell? ⟨bl, ol + i, none⟩ = some (.int .u8 (z i)))) :
    Calls Tryd.prog 22 #[.pointer (some ⟨g, 0, none⟩), .slice ah 0 ca, .slice (some ⟨bl, ol, none⟩) n cl] w fun e w' => e = .returned (.tuple #[]) ∧ Mix w' g s h (xorF f z n) n ∧ Tw w w' g s := by
  obtain ⟨hgw, hsw⟩ : g < w.heap.size ∧ s < w.heap.size := ⟨hm.out.gt, hm.out.st⟩
  have hT4 : 4 ≤ w.heap.size := hm.out.tab.size
  have hni : ((n : Nat) : Int) ≤ 1024 := by omega
  refine (callsIn_wide (n := 4)).1 ?_
  refine callsIn_of_wp_marks Tryd.func22 rfl trivial ?_ rfl
  simp only [Tryd.ntmps22, List.size_toArray, List.length_cons, List.length_nil, Nat.reduceAdd, Nat.reduceSub, Array.replicate_succ, Array.replicate_zero, List.push_toArray, List.append_toArray, List.nil_append, List.cons_append]
  gi_wp2_with (first | (refine ⟨trivial, ?_⟩; gi_at_call 34; refine (callsIn_wide.2 (pieces_ok _ ah 0 ca n rfl _)).mono ?_; rintro e0 w0 ⟨rfl, rfl⟩))
  have HB0 : Hid (Below w.heap.size w (((w.alloc (.cells #[.pointer (some ⟨g, 0, none⟩)] 42)).alloc (.cells #[.slice ah 0 ca] 22)).alloc (.cells #[.int .i64 (n : Nat)] 3))) := ((((Below.refl _ w).alloc (Nat.le_refl _) _).alloc (by simp) _).alloc (by simp; try omega) _)
  have HS0 : Hid ((((w.alloc (.cells #[.pointer (some ⟨g, 0, none⟩)] 42)).alloc (.cells #[.slice ah 0 ca] 22)).alloc (.cells #[.int .i64 (n : Nat)] 3)).heap.size = w.heap.size + 3) := by show _ = _; simp
  have HX0 : Hid ((((w.alloc (.cells #[.pointer (some ⟨g, 0, none⟩)] 42)).alloc (.cells #[.slice ah 0 ca] 22)).alloc (.cells #[.int .i64 (n : Nat)] 3)).cell? ⟨w.heap.size, 0, none⟩ = some (.pointer (some ⟨g, 0, none⟩))) := by
    show _ = _
    rw [World.cell?_of_block (Below.heap_alloc _ _ w.heap.size (by simp; try omega)), World.cell?_of_block (Below.heap_alloc _ _ w.heap.size (by simp; try omega))]
    exact World.cell?_alloc_at _ _ _ _ rfl
  have HL0 : Hid ((((w.alloc (.cells #[.pointer (some ⟨g, 0, none⟩)] 42)).alloc (.cells #[.slice ah 0 ca] 22)).alloc (.cells #[.int .i64 (n : Nat)] 3)).cell? ⟨w.heap.size + 1, 0, none⟩ = some (.slice ah 0 ca)) := by
    show _ = _
    rw [World.cell?_of_block (Below.heap_alloc _ _ (w.heap.size + 1) (by simp))]
    exact World.cell?_alloc_at _ _ _ _ (by simp)
  have HZ0 : Hid ((((w.alloc (.cells #[.pointer (some ⟨g, 0, none⟩)] 42)).alloc (.cells #[.slice ah 0 ca] 22)).alloc (.cells #[.int .i64 (n : Nat)] 3)).cell? ⟨w.heap.size + 1 + 1, 0, none⟩ = some (.int .i64 (n : Nat))) := World.cell?_alloc_at _ _ _ _ (by simp)
  generalize (((w.alloc (.cells #[.pointer (some ⟨g, 0, none⟩)] 42)).alloc (.cells #[.slice ah 0 ca] 22)).alloc (.cells #[.int .i64 (n : Nat)] 3)) = W0 at HB0 HS0 HX0 HL0 HZ0 ⊢
  have HM0 : Hid (Mix W0 g s h f u) := hm.out.below HB0.out
  have e0 := HS0.out
  refine wpIn_rangeFunc_ownF rfl (by omega) (gf := 42) (lb := #[.pointer (some ⟨w.heap.size + 1, 0, none⟩), .pointer (some ⟨w.heap.size + 1 + 1, 0, none⟩)]) rfl trivial (enters_of Tryd.func42 (by kernel_rfl) rfl)
    (pieces_stops_nil (4 - 1) (w.heap.size + 1) (w.heap.size + 1 + 1) ca n ah (fun _ => #[.int .i64 0, .slice none 0 0]) W0 HL0.out HZ0.out) Kbx.t (Kbx.b (by omega) (by omega)) (Below.refl _ _) (fun _ => rfl)
    (fun pre W => (∃ u', u' ≤ 1024 ∧ Mix W g s h (f) u') ∧ Tw w W g s ∧ W.cell? ⟨w.heap.size, 0, none⟩ = some (.pointer (some ⟨g, 0, none⟩)) ∧ W0.heap.size ≤ W.heap.size)
    (fun _ _ _ => False)
    (fun pre W W' row hs hg hr => by
      obtain ⟨⟨u', hu', i1⟩, i2, i3, i4⟩ := hs
      have b : Below (w.heap.size + 3) W W' := below_turn hg hr (by omega) (by omega)
      exact ⟨⟨u', hu', i1.kept (b.block g (by omega)) (b.block s (by omega)) (fun j hj => b.block j (by omega))⟩, i2.later (b.mono (by omega)), (World.cell?_of_block (b.block w.heap.size (by omega))).trans i3, Nat.le_trans i4 b.size⟩)
    (fun _ _ _ _ _ hs _ _ => hs)
    ⟨⟨u, hu, HM0.out⟩, Below.tw HB0.out g s, HX0.out, Nat.le_refl _⟩
    (fun x => { tmps := #[.pointer (some ⟨g, 0, none⟩), .slice ah 0 ca, .slice (some ⟨bl, ol, none⟩) n cl, .pointer (some ⟨w.heap.size, 0, none⟩), undef, undef, undef, .slice none 0 0, .slice ah 0 ca, .slice (some ⟨bl, ol, none⟩) n cl, .int .i64 (n : Nat), .func (.func 42) #[] #[.pointer (some ⟨w.heap.size + 1, 0, none⟩), .pointer (some ⟨w.heap.size + 1 + 1, 0, none⟩)], .int .i64 0, .slice none 0 0, undef, undef, undef, undef, undef, undef, undef, undef, undef, undef, undef, undef], defers := [] }) ?assign ?body ?done ?stop
  case assign =>
    intro l x W K hK
    gi_wp2
    exact hK
  case body =>
    rintro l pre x W _ hlen
    exact absurd hlen (by omega)
  case done =>
    rintro D ys W hD rfl ⟨⟨u', hu', hM⟩, hTw, hbx, hWs⟩ hK
    have HM : Hid (Mix W g s h f u') := hM
    have HTw : Hid (Tw w W g s) := hTw
    have hst := hM.mx.2
    have HX : Hid (Calls Tryd.prog 25 #[.pointer (some ⟨g, 0, none⟩), .slice (some ⟨bl, ol, none⟩) n cl] W fun e w' => e = .returned (.tuple #[]) ∧ Buf w' g (xorF f z n) n ∧ Touch W w' g 0 1025) := xor_some g n cl bl ol u' _ z W hM.mx.1 hn.2 hbl.1 (fun i hi => by
      have q := hlz.out i hi
      have ql := World.block_lt_of_cell? w _ q
      show W.cell? _ = _
      rw [World.cell?_of_block (w := w) (hTw.block bl (by simpa using ql) hbl.1 hbl.2)]
      exact q)
    have HK : Hid (W.heap[D]? = some (.deferred (some []))) := hK
    clear hM hTw hK
    gi_wp2_with (first | (refine ⟨trivial, ?_⟩; gi_at_call 25; refine (callsIn_wide.2 HX.out).mono ?_))
    rintro e1 W1 ⟨rfl, hb1, ht1⟩
    gi_wp2
    have hKD : W1.heap[D]? = some (.deferred (some [])) := by
      have hlt : D < W.heap.size := (Array.getElem?_eq_some_iff.1 HK.out).1
      rw [ht1.block D hlt (by omega)]
      exact HK.out
    refine ⟨by simp, .inl ⟨_, _, rfl, run_takeDeferred hKD, ?_⟩⟩
    have hDk : ∀ q, q < w.heap.size → (W1.putObj D (.deferred none)).heap[q]? = W1.heap[q]? := fun q hq => World.putObj_heap_other (by omega)
    have hM1 : Mix W1 g s h (xorF f z n) n := by
      obtain ⟨s0, zs, r⟩ := HM.out.rep
      exact ⟨HM.out.mx.touch ht1 hb1, ⟨s0, zs, r.far ht1 (Ne.symm hne)⟩, HM.out.tab.touch ht1 hg4⟩
    refine ⟨_, results_none rfl _ _ _, rfl, ?_, ?_⟩
    · exact hM1.kept (hDk g hgw) (hDk s hsw) (fun j hj => hDk j (by omega))
    · exact (HTw.out.trans (ht1.twG s)).later (belowK_b (w := w) (Nat.le_refl _) W1 D _ _ (by omega) hKD rfl rfl)
  case stop =>
    rintro D c pre W _ _ hx _
    exact hx.elim
set_option maxHeartbeats 3200000 in
set_option maxRecDepth 100000 in
theorem mask_some (g s u n bl ol cl : Nat) (f z : Nat → Int) (h : Int) (w : World) (ba oa ca cnt : Nat) (A : List Int) (hA : Hid (View w (.slice (some ⟨ba, oa, none⟩) (cnt * n) ca) A)) (hAl : Hid (A.length = cnt * n)) (hba : ba ≠ g ∧ ba ≠ s) (hcn : cnt * n ≤ 140737488355328) (k : Hid (Known h)) (hm : Hid (Mix w g s h f u)) (hne : g ≠ s) (hg4 : 4 ≤ g) (hs4 : 4 ≤ s) (hu : u ≤ 1024) (hn : 1 ≤ n ∧ n ≤ 1024) (hbl : bl ≠ g ∧ bl ≠ s) (hlz : Hid (∀ i, i < n → w.cell? ⟨bl, ol + i, none⟩ = some (.int .u8 (z i)))) :
    Calls Tryd.prog 22 #[.pointer (some ⟨g, 0, none⟩), .slice (some ⟨ba, oa, none⟩) (cnt * n) ca, .slice (some ⟨bl, ol, none⟩) n cl] w fun e w' => e = .returned (.tuple #[]) ∧ Mix w' g s h (xorF (maskF h n (fun i => A.getD i 0) cnt f) z n) n ∧ Tw w w' g s := by
  obtain ⟨hgw, hsw⟩ : g < w.heap.size ∧ s < w.heap.size := ⟨hm.out.gt, hm.out.st⟩
  have hT4 : 4 ≤ w.heap.size := hm.out.tab.size
  have hni : ((n : Nat) : Int) ≤ 1024 := by omega
  have hca : cnt * n ≤ ca := by obtain ⟨_, _, e, q, _⟩ := hA.out; injection e with _ e2 e3; omega
  refine (callsIn_wide (n := 4)).1 ?_
  refine callsIn_of_wp_marks Tryd.func22 rfl trivial ?_ rfl
  simp only [Tryd.ntmps22, List.size_toArray, List.length_cons, List.length_nil, Nat.reduceAdd, Nat.reduceSub, Array.replicate_succ, Array.replicate_zero, List.push_toArray, List.append_toArray, List.nil_append, List.cons_append]
  gi_wp2_with (first | (refine ⟨trivial, ?_⟩; gi_at_call 34; refine (callsIn_wide.2 (pieces_ok _ (some ⟨ba, oa, none⟩) (cnt * n) ca n rfl _)).mono ?_; rintro e0 w0 ⟨rfl, rfl⟩))
  have HB0 : Hid (Below w.heap.size w (((w.alloc (.cells #[.pointer (some ⟨g, 0, none⟩)] 42)).alloc (.cells #[.slice (some ⟨ba, oa, none⟩) (cnt * n) ca] 22)).alloc (.cells #[.int .i64 (n : Nat)] 3))) := ((((Below.refl _ w).alloc (Nat.le_refl _) _).alloc (by simp) _).alloc (by simp; try omega) _)
  have HS0 : Hid ((((w.alloc (.cells #[.pointer (some ⟨g, 0, none⟩)] 42)).alloc (.cells #[.slice (some ⟨ba, oa, none⟩) (cnt * n) ca] 22)).alloc (.cells #[.int .i64 (n : Nat)] 3)).heap.size = w.heap.size + 3) := by show _ = _; simp
  have HX0 : Hid ((((w.alloc (.cells #[.pointer (some ⟨g, 0, none⟩)] 42)).alloc (.cells #[.slice (some ⟨ba, oa, none⟩) (cnt * n) ca] 22)).alloc (.cells #[.int .i64 (n : Nat)] 3)).cell? ⟨w.heap.size, 0, none⟩ = some (.pointer (some ⟨g, 0, none⟩))) := by
    show _ = _
    rw [World.cell?_of_block (Below.heap_alloc _ _ w.heap.size (by simp; try omega)), World.cell?_of_block (Below.heap_alloc _ _ w.heap.size (by simp; try omega))]
    exact World.cell?_alloc_at _ _ _ _ rfl
  have HL0 : Hid ((((w.alloc (.cells #[.pointer (some ⟨g, 0, none⟩)] 42)).alloc (.cells #[.slice (some ⟨ba, oa, none⟩) (cnt * n) ca] 22)).alloc (.cells #[.int .i64 (n : Nat)] 3)).cell? ⟨w.heap.size + 1, 0, none⟩ = some (.slice (some ⟨ba, oa, none⟩) (cnt * n) ca)) := by
    show _ = _
    rw [World.cell?_of_block (Below.heap_alloc _ _ (w.heap.size + 1) (by simp))]
    exact World.cell?_alloc_at _ _ _ _ (by simp)
  have HZ0 : Hid ((((w.alloc (.cells #[.pointer (some ⟨g, 0, none⟩)] 42)).alloc (.cells #[.slice (some ⟨ba, oa, none⟩) (cnt * n) ca] 22)).alloc (.cells #[.int .i64 (n : Nat)] 3)).cell? ⟨w.heap.size + 1 + 1, 0, none⟩ = some (.int .i64 (n : Nat))) := World.cell?_alloc_at _ _ _ _ (by simp)
  generalize (((w.alloc (.cells #[.pointer (some ⟨g, 0, none⟩)] 42)).alloc (.cells #[.slice (some ⟨ba, oa, none⟩) (cnt * n) ca] 22)).alloc (.cells #[.int .i64 (n : Nat)] 3)) = W0 at HB0 HS0 HX0 HL0 HZ0 ⊢
  have HM0 : Hid (Mix W0 g s h f u) := hm.out.below HB0.out
  have e0 := HS0.out
  refine wpIn_rangeFunc_ownF rfl (by omega) (gf := 42) (lb := #[.pointer (some ⟨w.heap.size + 1, 0, none⟩), .pointer (some ⟨w.heap.size + 1 + 1, 0, none⟩)]) rfl trivial (enters_of Tryd.func42 (by kernel_rfl) rfl)
    (pieces_stops (4 - 1) (by omega) (w.heap.size + 1) (w.heap.size + 1 + 1) ba oa (cnt * n) ca n cnt hn.1 (by omega) hca (cnt_mul cnt n hn.1) W0 HL0.out HZ0.out) Kbx.t (Kbx.b (by omega) (by omega)) (Below.refl _ _) (fun _ => rfl)
    (fun pre W => (∃ u', u' ≤ 1024 ∧ Mix W g s h (pre.foldl (mstepC h n (cnt * n) (fun i => A.getD i 0)) f) u') ∧ Tw w W g s ∧ W.cell? ⟨w.heap.size, 0, none⟩ = some (.pointer (some ⟨g, 0, none⟩)) ∧ W0.heap.size ≤ W.heap.size)
    (fun _ _ _ => False)
    (fun pre W W' row hs hg hr => by
      obtain ⟨⟨u', hu', i1⟩, i2, i3, i4⟩ := hs
      have b : Below (w.heap.size + 3) W W' := below_turn hg hr (by omega) (by omega)
      exact ⟨⟨u', hu', i1.kept (b.block g (by omega)) (b.block s (by omega)) (fun j hj => b.block j (by omega))⟩, i2.later (b.mono (by omega)), (World.cell?_of_block (b.block w.heap.size (by omega))).trans i3, Nat.le_trans i4 b.size⟩)
    (fun _ _ _ _ _ hs _ _ => hs)
    ⟨⟨u, hu, HM0.out⟩, Below.tw HB0.out g s, HX0.out, Nat.le_refl _⟩
    (fun x => { tmps := #[.pointer (some ⟨g, 0, none⟩), .slice (some ⟨ba, oa, none⟩) (cnt * n) ca, .slice (some ⟨bl, ol, none⟩) n cl, .pointer (some ⟨w.heap.size, 0, none⟩), undef, undef, undef, .slice (some ⟨ba, oa + clp n (cnt * n) x * n, none⟩) (pcl n (cnt * n) x) (pcl n (cnt * n) x), .slice (some ⟨ba, oa, none⟩) (cnt * n) ca, .slice (some ⟨bl, ol, none⟩) n cl, .int .i64 (n : Nat), .func (.func 42) #[] #[.pointer (some ⟨w.heap.size + 1, 0, none⟩), .pointer (some ⟨w.heap.size + 1 + 1, 0, none⟩)], .int .i64 (clp n (cnt * n) x : Nat), .slice (some ⟨ba, oa + clp n (cnt * n) x * n, none⟩) (pcl n (cnt * n) x) (pcl n (cnt * n) x), undef, undef, undef, undef, undef, undef, undef, undef, undef, undef, undef, undef], defers := [] }) ?assign ?body ?done ?stop
  case assign =>
    intro l x W K hK
    gi_wp2
    exact hK
  case body =>
    rintro l pre x W ⟨⟨u', hu', hM⟩, hTw, hbx, hWs⟩ hlen
    have hc0 : 0 < cnt := by omega
    obtain ⟨hcl, hpc, hcn2⟩ := clp_mul cnt n x hn.1 hc0
    have HF : Hid (((pre ++ [x]).foldl (mstepC h n (cnt * n) (fun i => A.getD i 0)) f) = diffF h n (xorF (pre.foldl (mstepC h n (cnt * n) (fun i => A.getD i 0)) f) (fun i => A.getD (clp n (cnt * n) x * n + i) 0) n)) := by
      show _ = _
      rw [List.foldl_append]
      rfl
    generalize hfx : pre.foldl (mstepC h n (cnt * n) (fun i => A.getD i 0)) f = fx at hM HF
    clear hfx
    rw [hpc]
    generalize clp n (cnt * n) x = c at hcl hcn2 HF ⊢
    generalize hp : c * n = p at hcn2 HF ⊢
    clear hpc hp
    have HM : Hid (Mix W g s h fx u') := hM
    have HTw : Hid (Tw w W g s) := hTw
    have HBX : Hid (W.cell? ⟨w.heap.size, 0, none⟩ = some (.pointer (some ⟨g, 0, none⟩))) := hbx
    have hst := hM.mx.2
    have HX : Hid (Calls Tryd.prog 25 #[.pointer (some ⟨g, 0, none⟩), .slice (some ⟨ba, oa + p, none⟩) n n] W fun e w' => e = .returned (.tuple #[]) ∧ Buf w' g (xorF fx (fun i => A.getD (p + i) 0) n) n ∧ Touch W w' g 0 1025) := xor_some g n n ba (oa + p) u' _ _ W hM.mx.1 hn.2 hba.1 (fun i hi => by
      obtain ⟨a', c', e, q1, q2, q3, q4⟩ := hTw.view hA.out (fun b off l c' e => by injection e with e1; injection e1 with e1; injection e1 with e1; omega)
      have hl := hAl.out
      rcases q4 with rfl | ⟨b', o', e2, q5⟩
      · simp at hl; omega
      · injection e with e1 e3 e4
        rw [e2] at e1
        injection e1 with e1
        injection e1 with e5 e6
        rw [e5, e6, Nat.add_assoc]
        exact q5 (p + i) (by omega))
    clear hM hTw
    gi_wp2_with (first | (refine ⟨trivial, ?_⟩; gi_at_call 25; refine (CallsIn.inRound l (callsIn_wide.2 HX.out)).mono ?_))
    rintro e1 W1 ⟨rfl, hb1, ht1⟩
    have HM1 : Hid (Mix W1 g s h (xorF fx (fun i => A.getD (p + i) 0) n) n) := by
      obtain ⟨s0, zs, r⟩ := HM.out.rep
      exact ⟨HM.out.mx.touch ht1 hb1, ⟨s0, zs, r.far ht1 (Ne.symm hne)⟩, HM.out.tab.touch ht1 hg4⟩
    have HT1 : Hid (Tw W W1 g s) := ht1.twG s
    have hbx1 : W1.cell? ⟨w.heap.size, 0, none⟩ = some (.pointer (some ⟨g, 0, none⟩)) := by rw [ht1.far (p := ⟨w.heap.size, 0, none⟩) (by show w.heap.size < W.heap.size; omega) (by show w.heap.size ≠ g; omega)]; exact HBX.out
    have hst1 := HM1.out.mx.2
    clear hb1 ht1 hbx hst HX
    gi_wp2_with (first | (refine ⟨trivial, ?_⟩; gi_at_call 26; refine (CallsIn.inRound l (callsIn_wide.2 (diffuse_ok g s n _ h W1 k HM1 hne hg4 hs4 hn.2))).mono ?_))
    rintro e2 W2 ⟨rfl, hM2, ht2⟩
    have HE : Hid (Mix W2 g s h (diffF h n (xorF fx (fun i => A.getD (p + i) 0) n)) n ∧ Tw W W2 g s) := ⟨hM2, HT1.out.trans ht2⟩
    clear hM2 ht2 hbx1 hst1 HM1
    gi_wp2_with fail
    have e00 := HS0.out
    refine ⟨HE.out.2.keeps HM.out, HE.out.2.boxes (by omega) (by omega) (by omega) (by omega) (by omega) (by omega), ⟨n, hn.2, ?_⟩, HTw.out.trans HE.out.2, ?_, Nat.le_trans hWs HE.out.2.size⟩
    · rw [HF.out]
      exact HE.out.1
    · rw [World.cell?_of_block (w := W) (HE.out.2.block w.heap.size (by omega) (by omega) (by omega))]
      exact HBX.out
  case done =>
    rintro D ys W hD rfl ⟨⟨u', hu', hM⟩, hTw, hbx, hWs⟩ hK
    rw [maskC_eq h n cnt _ f hn.1] at hM
    have HM : Hid (Mix W g s h (maskF h n (fun i => A.getD i 0) cnt f) u') := hM
    have HTw : Hid (Tw w W g s) := hTw
    have hst := hM.mx.2
    have HX : Hid (Calls Tryd.prog 25 #[.pointer (some ⟨g, 0, none⟩), .slice (some ⟨bl, ol, none⟩) n cl] W fun e w' => e = .returned (.tuple #[]) ∧ Buf w' g (xorF (maskF h n (fun i => A.getD i 0) cnt f) z n) n ∧ Touch W w' g 0 1025) := xor_some g n cl bl ol u' _ z W hM.mx.1 hn.2 hbl.1 (fun i hi => by
      have q := hlz.out i hi
      have ql := World.block_lt_of_cell? w _ q
      show W.cell? _ = _
      rw [World.cell?_of_block (w := w) (hTw.block bl (by simpa using ql) hbl.1 hbl.2)]
      exact q)
    have HK : Hid (W.heap[D]? = some (.deferred (some []))) := hK
    clear hM hTw hK
    gi_wp2_with (first | (refine ⟨trivial, ?_⟩; gi_at_call 25; refine (callsIn_wide.2 HX.out).mono ?_))
    rintro e1 W1 ⟨rfl, hb1, ht1⟩
    gi_wp2
    have hKD : W1.heap[D]? = some (.deferred (some [])) := by
      have hlt : D < W.heap.size := (Array.getElem?_eq_some_iff.1 HK.out).1
      rw [ht1.block D hlt (by omega)]
      exact HK.out
    refine ⟨by simp, .inl ⟨_, _, rfl, run_takeDeferred hKD, ?_⟩⟩
    have hDk : ∀ q, q < w.heap.size → (W1.putObj D (.deferred none)).heap[q]? = W1.heap[q]? := fun q hq => World.putObj_heap_other (by omega)
    have hM1 : Mix W1 g s h (xorF (maskF h n (fun i => A.getD i 0) cnt f) z n) n := by
      obtain ⟨s0, zs, r⟩ := HM.out.rep
      exact ⟨HM.out.mx.touch ht1 hb1, ⟨s0, zs, r.far ht1 (Ne.symm hne)⟩, HM.out.tab.touch ht1 hg4⟩
    refine ⟨_, results_none rfl _ _ _, rfl, ?_, ?_⟩
    · exact hM1.kept (hDk g hgw) (hDk s hsw) (fun j hj => hDk j (by omega))
    · exact (HTw.out.trans (ht1.twG s)).later (belowK_b (w := w) (Nat.le_refl _) W1 D _ _ (by omega) hKD rfl rfl)
  case stop =>
    rintro D c pre W _ _ hx _
    exact hx.elim
end Go.Proofs.YtcopkohklgbpgaaDoor
