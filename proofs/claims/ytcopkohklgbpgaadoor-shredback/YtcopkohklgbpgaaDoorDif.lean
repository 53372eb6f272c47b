import Derived.Test.YtcopkohklgbpgaaDoorMxs
import Derived.Test.YtcopkohklgbpgaaDoorTakeH
namespace Go.Proofs.YtcopkohklgbpgaaDoor
open Go.RowKit Go.Shelf
attribute [local go_sem] Oper.semAt_some
set_option linter.unusedVariables false
set_option linter.unusedSimpArgs false
theorem parts2_alloc {u : World} (t : TypeId) (x y : Value) (ys zs : List Int) (g : Nat) (hx : View u x ys) (hy : View u y zs) (hg : u.heap.size ≠ g) (hox : ys ≠ [] → ∀ b off l c, x = .slice (some ⟨b, off, none⟩) l c → b ≠ g) (hoy : zs ≠ [] → ∀ b off l c, y = .slice (some ⟨b, off, none⟩) l c → b ≠ g) : Parts (u.alloc (.cells #[x, y] t)) g (.slice (some ⟨u.heap.size, 0, none⟩) 2 2) [ys, zs] := by
  refine ⟨_, 2, rfl, by simp, by simp [maxLen], .inr ⟨u.heap.size, 0, rfl, hg, fun i hi => ?_⟩⟩
  have hi' : i < 2 := by simpa using hi
  match i, hi' with
  | 0, _ => exact ⟨x, World.cell?_alloc_at _ _ _ _ rfl, hx.kept (fun q hq => Below.heap_alloc u _ q hq), hox⟩
  | 1, _ => exact ⟨y, World.cell?_alloc_at _ _ _ _ rfl, hy.kept (fun q hq => Below.heap_alloc u _ q hq), hoy⟩
set_option maxHeartbeats 3200000 in
set_option maxRecDepth 100000 in
/-- diffuse, in place. -/
theorem diffuse_ok (g s u : Nat) (f : Nat → Int) (h : Int) (w : World) (k : Hid (Known h)) (hm : Hid (Mix w g s h f u)) (hne : g ≠ s) (hg4 : 4 ≤ g) (hs4 : 4 ≤ s) (hu : u ≤ 1024) :
    Calls Tryd.prog 26 #[.pointer (some ⟨g, 0, none⟩)] w fun e w' => e = .returned (.tuple #[]) ∧ Mix w' g s h (diffF h u f) u ∧ Tw w w' g s := by
  obtain ⟨hgw, hsw⟩ : g < w.heap.size ∧ s < w.heap.size := ⟨hm.out.gt, hm.out.st⟩
  have hsz := szOf_pos k.out
  have HB1 : Hid (Below w.heap.size w (w.alloc (.cells #[.pointer (some ⟨g, 0, none⟩)] 42))) := (Below.refl _ w).alloc (Nat.le_refl _) _
  have HM1 : Hid (Mix (w.alloc (.cells #[.pointer (some ⟨g, 0, none⟩)] 42)) g s h f u) := hm.out.below HB1.out
  have gb : Hid (∀ v, Below (w.alloc (.cells #[.pointer (some ⟨g, 0, none⟩)] 42)).heap.size (w.alloc (.cells #[.pointer (some ⟨g, 0, none⟩)] 42)) v → v.cell? ⟨w.heap.size, 0, none⟩ = some (.pointer (some ⟨g, 0, none⟩))) := fun v hv => by
    rw [World.cell?_of_block (w := (w.alloc (.cells #[.pointer (some ⟨g, 0, none⟩)] 42))) (hv.block w.heap.size (by simp))]
    exact World.cell?_alloc_at _ _ _ _ rfl
  have gs : Hid (∀ v, Below (w.alloc (.cells #[.pointer (some ⟨g, 0, none⟩)] 42)).heap.size (w.alloc (.cells #[.pointer (some ⟨g, 0, none⟩)] 42)) v → v.cell? ⟨g, 1025, none⟩ = some (.pointer (some ⟨s, 0, none⟩))) := fun v hv => (HM1.out.below hv).mx.2
  have K35 : Hid (∀ v, Below (w.alloc (.cells #[.pointer (some ⟨g, 0, none⟩)] 42)).heap.size (w.alloc (.cells #[.pointer (some ⟨g, 0, none⟩)] 42)) v → Calls Tryd.prog 35 #[.pointer (some ⟨g, 0, none⟩)] v fun e w' => e = .returned (.slice (some ⟨g, 0, none⟩) u u) ∧ ∃ m, w' = v.drewN m) := fun v hv => bytes_ok g u f v (HM1.out.below hv).mx.1 hu
  have K36 : Hid (∀ v, Below (w.alloc (.cells #[.pointer (some ⟨g, 0, none⟩)] 42)).heap.size (w.alloc (.cells #[.pointer (some ⟨g, 0, none⟩)] 42)) v → Calls Tryd.prog 36 #[.pointer (some ⟨s, 0, none⟩)] v fun e w' => e = .returned (.int .i64 (szOf h : Nat)) ∧ w' = v) := fun v hv => by
    obtain ⟨s0, zs, half, hk, _, _⟩ := (HM1.out.below hv).rep
    exact ssize s h v k hk.hash
  have hSq : ∀ q, Below (w.alloc (.cells #[.pointer (some ⟨g, 0, none⟩)] 42)).heap.size (w.alloc (.cells #[.pointer (some ⟨g, 0, none⟩)] 42)) ((w.alloc (.cells #[.pointer (some ⟨g, 0, none⟩)] 42)).drewN q) := fun q => ⟨rfl, rfl, rfl, Nat.le_refl _, fun _ _ => rfl⟩
  refine (callsIn_wide (n := 4)).1 ?_
  refine callsIn_of_wp_marks Tryd.func26 rfl trivial ?_ rfl
  simp only [Tryd.ntmps26, List.size_toArray, List.length_cons, List.length_nil, Nat.reduceAdd, Nat.reduceSub, Array.replicate_succ, Array.replicate_zero, List.push_toArray, List.append_toArray, List.nil_append, List.cons_append]
  gi_wp2
  rename_i K hKrest
  have hrest : ∀ q, K ⟨#[.pointer (some ⟨g, 0, none⟩), .pointer (some ⟨w.heap.size, 0, none⟩), undef, undef, undef, .pointer (some ⟨g, 0, none⟩), .pointer (some ⟨g, 0, none⟩), .pointer (some ⟨g, 0, none⟩), .slice (some ⟨g, 0, none⟩) u u, .pointer (some ⟨g, 0, none⟩), .pointer (some ⟨g, 0, none⟩), .pointer (some ⟨g, 1025, none⟩), .pointer (some ⟨s, 0, none⟩), .int .i64 (szOf h : Nat), .func (.func 42) #[] #[.pointer (some ⟨w.heap.size + 1, 0, none⟩), .pointer (some ⟨w.heap.size + 1 + 1, 0, none⟩)], undef, undef, undef, undef, undef, undef, undef, undef, undef, undef, undef, undef, undef, undef, undef, undef, undef, undef, undef, undef, undef, undef, undef, undef, undef, undef, undef, undef, undef, undef, undef, undef, undef, undef, undef, undef], []⟩ ((((w.alloc (.cells #[.pointer (some ⟨g, 0, none⟩)] 42)).drewN q).alloc (.cells #[.slice (some ⟨g, 0, none⟩) u u] 22)).alloc (.cells #[.int .i64 (szOf h : Nat)] 3)) := by
    intro q
    clear gb gs K35 K36
    refine hKrest _ _ ?_
    clear hKrest
    gi_wp2
    have HB0 : Hid (Below w.heap.size w ((((w.alloc (.cells #[.pointer (some ⟨g, 0, none⟩)] 42)).drewN q).alloc (.cells #[.slice (some ⟨g, 0, none⟩) u u] 22)).alloc (.cells #[.int .i64 (szOf h : Nat)] 3))) := ⟨rfl, rfl, rfl, by simp; omega, fun i hi => by
      rw [Below.heap_alloc _ _ i (by simp; omega), Below.heap_alloc _ _ i (by simp; omega)]
      exact Below.heap_alloc w _ i hi⟩
    have HS0 : Hid (((((w.alloc (.cells #[.pointer (some ⟨g, 0, none⟩)] 42)).drewN q).alloc (.cells #[.slice (some ⟨g, 0, none⟩) u u] 22)).alloc (.cells #[.int .i64 (szOf h : Nat)] 3)).heap.size = w.heap.size + 3) := by show _ = _; simp
    have HX0 : Hid (((((w.alloc (.cells #[.pointer (some ⟨g, 0, none⟩)] 42)).drewN q).alloc (.cells #[.slice (some ⟨g, 0, none⟩) u u] 22)).alloc (.cells #[.int .i64 (szOf h : Nat)] 3)).cell? ⟨w.heap.size, 0, none⟩ = some (.pointer (some ⟨g, 0, none⟩))) := by
      show _ = _
      rw [World.cell?_of_block (Below.heap_alloc _ _ w.heap.size (by simp; try omega)), World.cell?_of_block (Below.heap_alloc _ _ w.heap.size (by simp; try omega))]
      exact World.cell?_alloc_at _ _ _ _ rfl
    have HL0 : Hid (((((w.alloc (.cells #[.pointer (some ⟨g, 0, none⟩)] 42)).drewN q).alloc (.cells #[.slice (some ⟨g, 0, none⟩) u u] 22)).alloc (.cells #[.int .i64 (szOf h : Nat)] 3)).cell? ⟨w.heap.size + 1, 0, none⟩ = some (.slice (some ⟨g, 0, none⟩) u u)) := by
      show _ = _
      rw [World.cell?_of_block (Below.heap_alloc _ _ (w.heap.size + 1) (by simp))]
      exact World.cell?_alloc_at _ _ _ _ (by simp)
    have HZ0 : Hid (((((w.alloc (.cells #[.pointer (some ⟨g, 0, none⟩)] 42)).drewN q).alloc (.cells #[.slice (some ⟨g, 0, none⟩) u u] 22)).alloc (.cells #[.int .i64 (szOf h : Nat)] 3)).cell? ⟨w.heap.size + 1 + 1, 0, none⟩ = some (.int .i64 (szOf h : Nat))) := World.cell?_alloc_at _ _ _ _ (by simp)
    generalize ((((w.alloc (.cells #[.pointer (some ⟨g, 0, none⟩)] 42)).drewN q).alloc (.cells #[.slice (some ⟨g, 0, none⟩) u u] 22)).alloc (.cells #[.int .i64 (szOf h : Nat)] 3)) = W0 at HB0 HS0 HX0 HL0 HZ0 ⊢
    have HM0 : Hid (Mix W0 g s h f u) := hm.out.below HB0.out
    have e0 := HS0.out
    refine wpIn_rangeFunc_ownF rfl (by omega) (gf := 42) (lb := #[.pointer (some ⟨w.heap.size + 1, 0, none⟩), .pointer (some ⟨w.heap.size + 1 + 1, 0, none⟩)]) rfl trivial (enters_of Tryd.func42 (by kernel_rfl) rfl)
      (pieces_stops (4 - 1) (by omega) (w.heap.size + 1) (w.heap.size + 1 + 1) g 0 u u (szOf h) _ hsz.1 (by omega) (Nat.le_refl _) (cnt_iff u (szOf h) hsz.1) W0 HL0.out HZ0.out) Kbx.t (Kbx.b (by omega) (by omega)) (Below.refl _ _) (fun _ => rfl)
      (fun pre W => Mix W g s h (pre.foldl (stepF h (szOf h) u) f) u ∧ Tw w W g s ∧ W.cell? ⟨w.heap.size, 0, none⟩ = some (.pointer (some ⟨g, 0, none⟩)) ∧ W0.heap.size ≤ W.heap.size)
      (fun _ _ _ => False)
      (fun pre W W' row hs hg hr => by
        obtain ⟨i1, i2, i3, i4⟩ := hs
        have b : Below (w.heap.size + 3) W W' := below_turn hg hr (by omega) (by omega)
        exact ⟨i1.kept (b.block g (by omega)) (b.block s (by omega)) (fun j hj => b.block j (by omega)), i2.later (b.mono (by omega)), (World.cell?_of_block (b.block w.heap.size (by omega))).trans i3, Nat.le_trans i4 b.size⟩)
      (fun _ _ _ _ _ hs _ _ => hs)
      ⟨HM0.out, Below.tw HB0.out g s, HX0.out, Nat.le_refl _⟩
      (fun x => { tmps := #[.pointer (some ⟨g, 0, none⟩), .pointer (some ⟨w.heap.size, 0, none⟩), .int .i64 (clp (szOf h) u x : Nat), .slice (some ⟨g, clp (szOf h) u x * szOf h, none⟩) (pcl (szOf h) u x) (pcl (szOf h) u x), undef, .pointer (some ⟨g, 0, none⟩), .pointer (some ⟨g, 0, none⟩), .pointer (some ⟨g, 0, none⟩), .slice (some ⟨g, 0, none⟩) u u, .pointer (some ⟨g, 0, none⟩), .pointer (some ⟨g, 0, none⟩), .pointer (some ⟨g, 1025, none⟩), .pointer (some ⟨s, 0, none⟩), .int .i64 (szOf h : Nat), .func (.func 42) #[] #[.pointer (some ⟨w.heap.size + 1, 0, none⟩), .pointer (some ⟨w.heap.size + 1 + 1, 0, none⟩)], .int .i64 (clp (szOf h) u x : Nat), .slice (some ⟨g, clp (szOf h) u x * szOf h, none⟩) (pcl (szOf h) u x) (pcl (szOf h) u x), undef, undef, undef, undef, undef, undef, undef, undef, undef, undef, undef, undef, undef, undef, undef, undef, undef, undef, undef, undef, undef, undef, undef, undef, undef, undef, undef, undef, undef, undef, undef, undef, undef, undef], defers := [] }) ?assign ?body ?done ?stop
    case assign =>
      intro l x W K hK
      gi_wp2
      exact hK
    case body =>
      rintro l pre x W ⟨hM, hTw, hbx, hWs⟩ hlen
      have hu0 : 0 < u := by
        have := (cnt_iff u (szOf h) hsz.1 0).1 (by omega)
        omega
      have hq := pcl_le (szOf h) u x hsz.1 hu0
      have HF : Hid (((pre ++ [x]).foldl (stepF h (szOf h) u) f) = pieceF h (clp (szOf h) u x) (clp (szOf h) u x * szOf h) (pcl (szOf h) u x) (pre.foldl (stepF h (szOf h) u) f)) := by
        show _ = _
        rw [List.foldl_append]
        rfl
      generalize hfx : pre.foldl (stepF h (szOf h) u) f = fx at hM HF
      generalize clp (szOf h) u x = c at hq HF ⊢
      generalize pcl (szOf h) u x = d at hq HF ⊢
      generalize c * szOf h = p at hq HF ⊢
      clear hfx
      obtain ⟨s0, zs, hrep⟩ := hM.rep
      have HM : Hid (Mix W g s h fx u) := hM
      have HTw : Hid (Tw w W g s) := hTw
      have hst := hM.mx.2
      have HBX : Hid (W.cell? ⟨w.heap.size, 0, none⟩ = some (.pointer (some ⟨g, 0, none⟩))) := hbx
      have HA1 : Hid (Calls Tryd.prog 33 #[.pointer (some ⟨s, 0, none⟩)] W fun e w' => e = .returned (.int .i64 0) ∧ Fresh w' s h ∧ Touch W w' s 0 139) := sreset s h s0 zs W k hrep hM.tab
      clear hM hTw hrep
      gi_wp2_with (first | (refine ⟨trivial, ?_⟩; gi_at_call 33; refine (CallsIn.inRound l (callsIn_wide.2 HA1.out)).mono ?_))
      rintro e1 W1 ⟨rfl, hf1, ht1⟩
      have HF1 : Hid (Fresh W1 s h) := hf1
      have HT1 : Hid (Touch W W1 s 0 139) := ht1
      have hbx1 : W1.cell? ⟨w.heap.size, 0, none⟩ = some (.pointer (some ⟨g, 0, none⟩)) := by rw [ht1.far (p := ⟨w.heap.size, 0, none⟩) (by show w.heap.size < W.heap.size; omega) (by show w.heap.size ≠ s; omega)]; exact hbx
      have HMx1 : Hid (Mx W1 g s fx u) := HM.out.mx.far ht1 hne
      have hst1 := HMx1.out.2
      clear hf1 ht1 hbx hst HA1
      gi_wp2_with fail
      obtain ⟨ys, hys⟩ : ∃ ys, ys = (List.range d).map (fun q => fx (p + q)) := ⟨_, rfl⟩
      have W2B : Hid (Below W1.heap.size W1 ((W1.alloc (.cells #[.int .u8 ((c : Int) / 16777216 % 256), .int .u8 ((c : Int) / 65536 % 256), .int .u8 ((c : Int) / 256 % 256), .int .u8 ((c : Int) % 256)] 5)).alloc (.cells #[.slice (some ⟨W1.heap.size, 0, none⟩) 4 4, .slice (some ⟨g, p, none⟩) d d] 22))) := ((Below.refl _ W1).alloc (Nat.le_refl _) _).alloc (by simp) _
      have HP : Hid (Parts ((W1.alloc (.cells #[.int .u8 ((c : Int) / 16777216 % 256), .int .u8 ((c : Int) / 65536 % 256), .int .u8 ((c : Int) / 256 % 256), .int .u8 ((c : Int) % 256)] 5)).alloc (.cells #[.slice (some ⟨W1.heap.size, 0, none⟩) 4 4, .slice (some ⟨g, p, none⟩) d d] 22)) s (.slice (some ⟨W1.heap.size + 1, 0, none⟩) 2 2) [be4 c, ys]) := by
        have v1 : View (W1.alloc (.cells #[.int .u8 ((c : Int) / 16777216 % 256), .int .u8 ((c : Int) / 65536 % 256), .int .u8 ((c : Int) / 256 % 256), .int .u8 ((c : Int) % 256)] 5)) (.slice (some ⟨W1.heap.size, 0, none⟩) 4 4) (be4 c) := ⟨_, 4, rfl, by simp [be4], by decide, (fun e => by cases e), .inr ⟨_, _, rfl, fun i hi => by
          have hi4 : i < 4 := hi
          rw [World.cell?_alloc_at _ _ _ _ rfl]
          match i, hi4 with
          | 0, _ => rfl
          | 1, _ => rfl
          | 2, _ => rfl
          | 3, _ => rfl⟩⟩
        have v2 : View (W1.alloc (.cells #[.int .u8 ((c : Int) / 16777216 % 256), .int .u8 ((c : Int) / 65536 % 256), .int .u8 ((c : Int) / 256 % 256), .int .u8 ((c : Int) % 256)] 5)) (.slice (some ⟨g, p, none⟩) d d) ys := by
          rw [hys]
          exact View.kept (HMx1.out.1.view (by omega) d (Nat.le_refl _) (by omega)) (fun q hq => Below.heap_alloc W1 _ q hq)
        have h4 : s < W1.heap.size := HF1.out.lt
        have hpp := parts2_alloc 22 _ _ (be4 c) ys s v1 v2 (by simp; omega) (fun _ b off l c' e => by injection e with e1; injection e1 with e1; injection e1 with e1; omega) (fun _ b off l c' e => by injection e with e1; injection e1 with e1; injection e1 with e1; omega)
        rw [World.size_alloc] at hpp
        exact hpp
      generalize (W1.alloc (.cells #[.int .u8 ((c : Int) / 16777216 % 256), .int .u8 ((c : Int) / 65536 % 256), .int .u8 ((c : Int) / 256 % 256), .int .u8 ((c : Int) % 256)] 5)).alloc (.cells #[.slice (some ⟨W1.heap.size, 0, none⟩) 4 4, .slice (some ⟨g, p, none⟩) d d] 22) = W2 at W2B HP ⊢
      have HF2 : Hid (Rep W2 s 0 h (wdOf h) (firstE h) 0 []) := HF1.out.below W2B.out
      have HTb2 : Hid (Tables W2) := (HM.out.tab.touch HT1.out hs4).below W2B.out (by have := HF1.out.lt; omega)
      have HMx2 : Hid (Mx W2 g s fx u) := HMx1.out.below W2B.out
      have HTw2 : Hid (Tw W W2 g s) := (HT1.out.twS g).below W2B.out
      have hyl : ys.length = d := by rw [hys]; simp
      have hbx2 : W2.cell? ⟨w.heap.size, 0, none⟩ = some (.pointer (some ⟨g, 0, none⟩)) := by rw [World.cell?_of_block (w := W1) (W2B.out.block w.heap.size (by have := HT1.out.size; omega))]; exact hbx1
      have hsW : W.heap.size ≤ W2.heap.size := Nat.le_trans HT1.out.size W2B.out.size
      clear hbx1 hst1 HMx1 HF1 W2B HT1
      refine ⟨trivial, ?_⟩
      refine (CallsIn.inRound l (callsIn_wide.2 (swrite s h (firstE h) [] [be4 c, ys] _ W2 k HF2 HP HTb2 hs4 (by show _ ≤ _; simp [be4, hyl]; omega)))).mono ?_
      rintro e3 W3 ⟨rfl, ht3, hr3⟩
      have hcat : ([] ++ [be4 c, ys].flatten : List Int) = be4 c ++ ys := by simp
      rw [hcat] at hr3
      have HR3 : Hid (Rep W3 s 0 h (wdOf h) (firstE h) 0 (be4 c ++ ys)) := hr3
      have HTb3 : Hid (Tables W3) := HTb2.out.touch ht3 hs4
      have HMx3 : Hid (Mx W3 g s fx u) := HMx2.out.far ht3 hne
      have HTw3 : Hid (Tw W W3 g s) := HTw2.out.trans (ht3.twS g)
      have hbx3 : W3.cell? ⟨w.heap.size, 0, none⟩ = some (.pointer (some ⟨g, 0, none⟩)) := by rw [ht3.far (p := ⟨w.heap.size, 0, none⟩) (by show w.heap.size < W2.heap.size; omega) (by show w.heap.size ≠ s; omega)]; exact hbx2
      have hst3 := HMx3.out.2
      have hsW3 : W.heap.size ≤ W3.heap.size := Nat.le_trans hsW ht3.size
      clear hr3 ht3 hbx2 HMx2 HTw2 HTb2 HF2 HP hcat
      gi_wp2_with fail
      refine ⟨trivial, ?_⟩
      refine (CallsIn.inRound l (callsIn_wide.2 (ssum s h (firstE h) (be4 c ++ ys) W3 k HR3 HTb3 (by show _ ≤ _; simp [be4, hyl]; omega)))).mono ?_
      rintro e4 W4 ⟨b, rfl, hown, hb4⟩
      obtain ⟨L, hL⟩ : ∃ L, L = sumD h (be4 c ++ ys) := ⟨_, rfl⟩
      have hown' : W4.ownsRow W3.heap.size 5 1 (.slice (some ⟨b, 0, none⟩) (szOf h) (szOf h)) (szOf h) (cellsU8 L) := by rw [hL]; exact hown
      have hLl : L.length = szOf h := by have := hown'.1; rw [cellsU8_length] at this; omega
      have hbB : W3.heap.size ≤ b := (hown'.lt b rfl).1
      have thb : W4.there b 0 (szOf h) := fun j hj => ⟨by
        have q := hown'.cellAt j (by omega)
        rw [Nat.zero_add, q, cellsU8, List.getElem?_map, List.getElem?_eq_getElem (by omega)]
        rfl, hown'.frozenAt _⟩
      have HMx4 : Mx W4 g s fx u := HMx3.out.below hb4
      have thg : W4.there g p d := fun j hj => by
        have := HMx4.1.there (p + j) (by omega)
        rwa [Nat.zero_add] at this
      have hcp := copy_eq W4 g p d d (some ⟨b, 0, none⟩) (szOf h) (szOf h) d L (by omega) (viewOwns hown' hLl) thg
      have hTl : (L.take d).length = d := by simp; omega
      obtain ⟨X, hX⟩ : ∃ X, X = cellsU8 (L.take d) := ⟨_, rfl⟩
      rw [← hX] at hcp
      have hgb : g < W3.heap.size := HMx3.out.1.lt
      have hsb : s < W3.heap.size := HR3.out.lt
      have K39 : Hid (Calls Tryd.prog 39 #[.slice (some ⟨b, 0, none⟩) (szOf h) (szOf h)] (W4.setCells g p X) fun e w' => e = .returned (.tuple #[]) ∧ w' = (W4.setCells g p X).setCells b 0 (List.replicate (szOf h) (.int .u8 0))) := wipe39 b 0 (szOf h) (szOf h) _ (World.there_setCells thb g p X)
      have HEnd : Hid (Mix ((W4.setCells g p X).setCells b 0 (List.replicate (szOf h) (.int .u8 0))) g s h (pieceF h c p d fx) u ∧ Tw W ((W4.setCells g p X).setCells b 0 (List.replicate (szOf h) (.int .u8 0))) g s) := by
        have hTw4 : Tw W W4 g s := HTw3.out.below hb4
        have hb5 : Buf (W4.setCells g p X) g (pieceF h c p d fx) u := by
          rw [hX]
          have q := HMx4.1.laid (L.take d) (show p + (L.take d).length ≤ 1024 by omega)
          have e : (fun j => if p ≤ j ∧ j < p + (L.take d).length then (L.take d).getD (j - p) 0 else fx j) = pieceF h c p d fx := by
            funext j
            unfold pieceF
            rw [hTl, ← hys, ← hL]
            by_cases hj : p ≤ j ∧ j < p + d
            · rw [if_pos hj, if_pos hj]
              simp [List.getD, List.getElem?_take, show j - p < d by omega]
            · rw [if_neg hj, if_neg hj]
          rw [e] at q
          exact q
        have hx5 : Mx (W4.setCells g p X) g s (pieceF h c p d fx) u := ⟨hb5, by
          rw [World.cell?_setCells_out g X p W4 ⟨g, 1025, none⟩ (fun _ _ => Or.inr (by rw [hX, cellsU8_length, hTl]; show p + d ≤ 1025; omega))]
          exact HMx4.2⟩
        have h45 : ∀ q, q < W4.heap.size → q ≠ g → (W4.setCells g p X).heap[q]? = W4.heap[q]? := fun q hq hne' => World.heap_setCells_other W4 g p X hq hne'
        have h56 : ∀ q, q < W4.heap.size → q ≠ b → ((W4.setCells g p X).setCells b 0 (List.replicate (szOf h) (.int .u8 0))).heap[q]? = (W4.setCells g p X).heap[q]? := fun q hq hne' => World.heap_setCells_other _ b 0 _ (by rw [size_setCells]; exact hq) hne'
        have hs4' := hb4.size
        refine ⟨⟨hx5.kept (h56 g (by omega) (by omega)), ⟨firstE h, be4 c ++ ys, ?_⟩, ?_⟩, (hTw4.setG p X).setNew (by omega) 0 _⟩
        · exact (HR3.out.below hb4).kept ((h56 s (by omega) (by omega)).trans (h45 s (by omega) (Ne.symm hne)))
        · exact (HTb3.out.below hb4 (by omega)).kept (fun q hq => (h56 q (by omega) (by omega)).trans (h45 q (by omega) (by omega)))
      clear hown hown' hb4 thb thg hbx3 hst3 HMx4 hX hL hys
      gi_wp2_with (first | (refine ⟨trivial, ?_⟩; gi_at_call 39; refine (CallsIn.inRound l (callsIn_wide.2 K39.out)).mono ?_))
      rintro e6 W6 ⟨rfl, hw6⟩
      rw [← hw6] at HEnd
      clear hw6
      gi_wp2_with fail
      have e00 := HS0.out
      refine ⟨HEnd.out.2.keeps HM.out, HEnd.out.2.boxes (by omega) (by omega) (by omega) (by omega) (by omega) (by omega), ?_, HTw.out.trans HEnd.out.2, ?_, Nat.le_trans hWs HEnd.out.2.size⟩
      · rw [HF.out]
        exact HEnd.out.1
      · rw [World.cell?_of_block (w := W) (HEnd.out.2.block w.heap.size (by omega) (by omega) (by omega))]
        exact HBX.out
    case done =>
      rintro D ys W hD rfl ⟨hM, hTw, hbx, hWs⟩ hK
      gi_wp2
      refine ⟨by simp, .inl ⟨_, _, rfl, run_takeDeferred hK, ?_⟩⟩
      have hDk : ∀ q, q < w.heap.size → (W.putObj D (.deferred none)).heap[q]? = W.heap[q]? := fun q hq => World.putObj_heap_other (by omega)
      refine ⟨_, results_none rfl _ _ _, rfl, ?_, ?_⟩
      · exact hM.kept (hDk g hgw) (hDk s hsw) (fun j hj => hDk j (by omega))
      · exact hTw.later (belowK_b (w := w) (Nat.le_refl _) W D _ _ (by omega) hK rfl rfl)
    case stop =>
      rintro D c pre W _ _ hx _
      exact hx.elim

  refine wpIn_wide.2 ?_
  have hS0 : Below (w.alloc (.cells #[.pointer (some ⟨g, 0, none⟩)] 42)).heap.size (w.alloc (.cells #[.pointer (some ⟨g, 0, none⟩)] 42)) (w.alloc (.cells #[.pointer (some ⟨g, 0, none⟩)] 42)).drew := (Below.refl _ _).drew
  refine wp_region_noPanic ?_
  refine wp_region_held_drew (S := fun v => Below (w.alloc (.cells #[.pointer (some ⟨g, 0, none⟩)] 42)).heap.size (w.alloc (.cells #[.pointer (some ⟨g, 0, none⟩)] 42)) v) (by kernel_rfl) (hS0) (fun _ => ?_)
  refine takeH_at 0 5 (.pointer (some ⟨g, 0, none⟩)) rfl rfl (by kernel_rfl) (by kernel_rfl) (by kernel_rfl) (fun _ _ _ h => h) hS0 (Or.inl ⟨by kernel_rfl, fun w' hS' => by have q1 := gb.out w' hS'; go_simp⟩) ?_
  simp only [List.setIfInBounds_toArray, List.set_cons_zero, List.set_cons_succ]
  refine takeH_at 1 6 (.pointer (some ⟨g, 0, none⟩)) rfl rfl (by kernel_rfl) (by kernel_rfl) (by kernel_rfl) (fun _ _ _ h => h) hS0 (Or.inl ⟨by kernel_rfl, fun w' hS' => by go_simp⟩) ?_
  simp only [List.setIfInBounds_toArray, List.set_cons_zero, List.set_cons_succ]
  refine takeH_at 2 7 (.pointer (some ⟨g, 0, none⟩)) rfl rfl (by kernel_rfl) (by kernel_rfl) (by kernel_rfl) (fun _ _ _ h => h) hS0 (Or.inl ⟨by kernel_rfl, fun w' hS' => by go_simp⟩) ?_
  simp only [List.setIfInBounds_toArray, List.set_cons_zero, List.set_cons_succ]
  refine takeH_at 4 9 (.pointer (some ⟨g, 0, none⟩)) rfl rfl (by kernel_rfl) (by kernel_rfl) (by kernel_rfl) (fun _ _ _ h => h) hS0 (Or.inl ⟨by kernel_rfl, fun w' hS' => by have q1 := gb.out w' hS'; go_simp⟩) ?_
  simp only [List.setIfInBounds_toArray, List.set_cons_zero, List.set_cons_succ]
  refine takeH_at 5 10 (.pointer (some ⟨g, 0, none⟩)) rfl rfl (by kernel_rfl) (by kernel_rfl) (by kernel_rfl) (fun _ _ _ h => h) hS0 (Or.inl ⟨by kernel_rfl, fun w' hS' => by go_simp⟩) ?_
  simp only [List.setIfInBounds_toArray, List.set_cons_zero, List.set_cons_succ]
  refine takeH_at 6 11 (.pointer (some ⟨g, 1025, none⟩)) rfl rfl (by kernel_rfl) (by kernel_rfl) (by kernel_rfl) (fun _ _ _ h => h) hS0 (Or.inl ⟨by kernel_rfl, fun w' hS' => by go_simp⟩) ?_
  simp only [List.setIfInBounds_toArray, List.set_cons_zero, List.set_cons_succ]
  refine takeH_at 7 12 (.pointer (some ⟨s, 0, none⟩)) rfl rfl (by kernel_rfl) (by kernel_rfl) (by kernel_rfl) (fun _ _ _ h => h) hS0 (Or.inl ⟨by kernel_rfl, fun w' hS' => by have q1 := gs.out w' hS'; go_simp⟩) ?_
  simp only [List.setIfInBounds_toArray, List.set_cons_zero, List.set_cons_succ]
  refine wpAnyH_ready (rs := [3]) (by kernel_rfl) (by simp) ?_
  refine AllReadyH.cons rfl (fun K hK => ?_) AllReadyH.nil
  go_simp
  refine (K35.out _ hS0).mono ?_
  rintro e1 v1 ⟨rfl, q1, rfl⟩
  go_wp2_with fail
  refine hK.out _ _ (hSq _) (fun _ => ?_)
  clear hK K
  try simp only [List.setIfInBounds_toArray, List.set_cons_zero, List.set_cons_succ]
  refine wpAnyH_ready (rs := [8]) (by kernel_rfl) (by simp) ?_
  refine AllReadyH.cons rfl (fun K hK => ?_) AllReadyH.nil
  go_simp
  refine (K36.out _ (hSq _)).mono ?_
  rintro e2 v2 ⟨rfl, hv2⟩
  obtain rfl := hv2.symm
  go_wp2_with fail
  refine hK.out _ _ (hSq _) (fun _ => ?_)
  clear hK K hv2
  try simp only [List.setIfInBounds_toArray, List.set_cons_zero, List.set_cons_succ]
  refine wpAnyH_ready (rs := [9]) (by kernel_rfl) (by simp) ?_
  refine AllReadyH.cons rfl (fun K hK => ?_) AllReadyH.nil
  go_simp
  refine (pieces_ok _ (some ⟨g, 0, none⟩) u u (szOf h) rfl _).mono ?_
  rintro e3 v3 ⟨rfl, rfl⟩
  go_wp2_with fail
  refine hK.out _ _ (((hSq (1 + q1)).alloc (hSq (1 + q1)).size _).alloc (Nat.le_trans (hSq (1 + q1)).size (by simp)) _) (fun _ => ?_)
  clear hK
  try simp only [List.setIfInBounds_toArray, List.set_cons_zero, List.set_cons_succ]
  refine wpAnyH_done (by kernel_rfl) ?_ _
  refine NoPanic.normal ?_
  first | exact hrest (1 + q1) | simpa [Exit.then] using hrest (1 + q1)
end Go.Proofs.YtcopkohklgbpgaaDoor
