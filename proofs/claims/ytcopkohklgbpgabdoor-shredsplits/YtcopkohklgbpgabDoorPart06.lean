import Derived.Test.YtcopkohklgbpgabDoorPart04
import Derived.Test.YtcopkohklgbpgabDoorPart03
import Derived.Defers
import Derived.Test.YtcopkohklgbpgabDoorPart00
import Derived.Laws.BitsAllLaws
import Derived.Deep.AppendLies
import Derived.ArgAppend
import Derived.Test.YtcopkohklgbpgabDoorPart05
namespace Go.Proofs.YtcopkohklgbpgabDoor
open Go.RowKit Go.Shelf
attribute [local go_sem] Oper.semAt_some
set_option linter.unusedVariables false
set_option linter.unusedSimpArgs false
theorem parts2_alloc {u : World} (t : TypeId) (x y : Value) (ys zs : List Int) (g : Nat) (hx : View u x ys) (hy : View u y zs) (hg : u.heap.size ≠ g) (hox : ys ≠ [] → ∀ b off l c, x = .slice (some ⟨b, off, none⟩) l c → b ≠ g) (hoy : zs ≠ [] → ∀ b off l c, y = .slice (some ⟨b, off, none⟩) l c → b ≠ g) : Parts (u.alloc (.cells #[x, y] t)) g (.slice (some ⟨u.heap.size, 0, none⟩) 2 2) [ys, zs] := by
  refine ⟨_, 2, rfl, by simp, by simp [maxLen], .inr ⟨u.heap.size, 0, rfl, hg, fun i hi => ?_⟩⟩
  have hi' : i < 2 := by simpa using hi
  match i, hi' with
  | 0, _ => exact ⟨x, World.cell?_alloc_at _ _ _ _ rfl, hx.kept (fun q hq => Below.heap_alloc u _ q hq), hox⟩
  | 1, _ => exact ⟨y, World.cell?_alloc_at _ _ _ _ rfl, hy.kept (fun q hq => Below.heap_alloc u _ q hq), hoy⟩
set_option maxHeartbeats 3200000 in
set_option maxRecDepth 100000 in
/-- diffuse, in place. -/
theorem diffuse_ok (g s u : Nat) (f : Nat → Int) (h : Int) (w : World) (k : Hid (Known h)) (hm : Hid (Mix w g s h f u)) (hne : g ≠ s) (hg4 : 4 ≤ g) (hs4 : 4 ≤ s) (hu : u ≤ 1024) :
    Calls Tryd.prog 26 #[.pointer (some ⟨g, 0, none⟩)] w fun e w' => e = .returned (.tuple #[]) ∧ Mix w' g s h (diffF h u f) u ∧ Tw w w' g s := by
  obtain ⟨hgw, hsw⟩ : g < w.heap.size ∧ s < w.heap.size := ⟨hm.out.gt, hm.out.st⟩
  have hsz := szOf_pos k.out
  have HB1 : Hid (Below w.heap.size w (w.alloc (.cells #[.pointer (some ⟨g, 0, none⟩)] 35))) := (Below.refl _ w).alloc (Nat.le_refl _) _
  have HM1 : Hid (Mix (w.alloc (.cells #[.pointer (some ⟨g, 0, none⟩)] 35)) g s h f u) := hm.out.below HB1.out
  have gb : Hid (∀ v, Below (w.alloc (.cells #[.pointer (some ⟨g, 0, none⟩)] 35)).heap.size (w.alloc (.cells #[.pointer (some ⟨g, 0, none⟩)] 35)) v → v.cell? ⟨w.heap.size, 0, none⟩ = some (.pointer (some ⟨g, 0, none⟩))) := fun v hv => by
    rw [World.cell?_of_block (w := (w.alloc (.cells #[.pointer (some ⟨g, 0, none⟩)] 35))) (hv.block w.heap.size (by simp))]
    exact World.cell?_alloc_at _ _ _ _ rfl
  have gs : Hid (∀ v, Below (w.alloc (.cells #[.pointer (some ⟨g, 0, none⟩)] 35)).heap.size (w.alloc (.cells #[.pointer (some ⟨g, 0, none⟩)] 35)) v → v.cell? ⟨g, 1025, none⟩ = some (.pointer (some ⟨s, 0, none⟩))) := fun v hv => (HM1.out.below hv).mx.2
  have K35 : Hid (∀ v, Below (w.alloc (.cells #[.pointer (some ⟨g, 0, none⟩)] 35)).heap.size (w.alloc (.cells #[.pointer (some ⟨g, 0, none⟩)] 35)) v → Calls Tryd.prog 27 #[.pointer (some ⟨g, 0, none⟩)] v fun e w' => e = .returned (.slice (some ⟨g, 0, none⟩) u u) ∧ ∃ m, w' = v.drewN m) := fun v hv => bytes_ok g u f v (HM1.out.below hv).mx.1 hu
  have K36 : Hid (∀ v, Below (w.alloc (.cells #[.pointer (some ⟨g, 0, none⟩)] 35)).heap.size (w.alloc (.cells #[.pointer (some ⟨g, 0, none⟩)] 35)) v → Calls Tryd.prog 32 #[.pointer (some ⟨s, 0, none⟩)] v fun e w' => e = .returned (.int .i64 (szOf h : Nat)) ∧ w' = v) := fun v hv => by
    obtain ⟨s0, zs, half, hk, _, _⟩ := (HM1.out.below hv).rep
    exact ssize s h v k hk.hash
  have hSq : ∀ q, Below (w.alloc (.cells #[.pointer (some ⟨g, 0, none⟩)] 35)).heap.size (w.alloc (.cells #[.pointer (some ⟨g, 0, none⟩)] 35)) ((w.alloc (.cells #[.pointer (some ⟨g, 0, none⟩)] 35)).drewN q) := fun q => ⟨rfl, rfl, rfl, Nat.le_refl _, fun _ _ => rfl⟩
  refine (callsIn_wide (n := 4)).1 ?_
  refine callsIn_of_wp_marks Tryd.func26 rfl trivial ?_ rfl
  simp only [Tryd.ntmps26, List.size_toArray, List.length_cons, List.length_nil, Nat.reduceAdd, Nat.reduceSub, Array.replicate_succ, Array.replicate_zero, List.push_toArray, List.append_toArray, List.nil_append, List.cons_append]
  gi_wp2
  rename_i K hKrest
  have hrest : ∀ q, K ⟨#[.pointer (some ⟨g, 0, none⟩), .pointer (some ⟨w.heap.size, 0, none⟩), undef, undef, undef, .pointer (some ⟨g, 0, none⟩), .pointer (some ⟨g, 0, none⟩), .pointer (some ⟨g, 0, none⟩), .slice (some ⟨g, 0, none⟩) u u, .pointer (some ⟨g, 0, none⟩), .pointer (some ⟨g, 0, none⟩), .pointer (some ⟨g, 1025, none⟩), .pointer (some ⟨s, 0, none⟩), .int .i64 (szOf h : Nat), .func (.func 31) #[] #[.pointer (some ⟨w.heap.size + 1, 0, none⟩), .pointer (some ⟨w.heap.size + 1 + 1, 0, none⟩)], undef, undef, undef, undef, undef, undef, undef, undef, undef, undef, undef, undef, undef, undef, undef, undef, undef, undef, undef, undef, undef, undef, undef, undef, undef, undef, undef, undef, undef, undef, undef, undef, undef, undef, undef, undef], []⟩ ((((w.alloc (.cells #[.pointer (some ⟨g, 0, none⟩)] 35)).drewN q).alloc (.cells #[.slice (some ⟨g, 0, none⟩) u u] 22)).alloc (.cells #[.int .i64 (szOf h : Nat)] 3)) := by
    intro q
    clear gb gs K35 K36
    refine hKrest _ _ ?_
    clear hKrest
    gi_wp2
    have HB0 : Hid (Below w.heap.size w ((((w.alloc (.cells #[.pointer (some ⟨g, 0, none⟩)] 35)).drewN q).alloc (.cells #[.slice (some ⟨g, 0, none⟩) u u] 22)).alloc (.cells #[.int .i64 (szOf h : Nat)] 3))) := ⟨rfl, rfl, rfl, by simp; omega, fun i hi => by
      rw [Below.heap_alloc _ _ i (by simp; omega), Below.heap_alloc _ _ i (by simp; omega)]
      exact Below.heap_alloc w _ i hi⟩
    have HS0 : Hid (((((w.alloc (.cells #[.pointer (some ⟨g, 0, none⟩)] 35)).drewN q).alloc (.cells #[.slice (some ⟨g, 0, none⟩) u u] 22)).alloc (.cells #[.int .i64 (szOf h : Nat)] 3)).heap.size = w.heap.size + 3) := by show _ = _; simp
    have HX0 : Hid (((((w.alloc (.cells #[.pointer (some ⟨g, 0, none⟩)] 35)).drewN q).alloc (.cells #[.slice (some ⟨g, 0, none⟩) u u] 22)).alloc (.cells #[.int .i64 (szOf h : Nat)] 3)).cell? ⟨w.heap.size, 0, none⟩ = some (.pointer (some ⟨g, 0, none⟩))) := by
      show _ = _
      rw [World.cell?_of_block (Below.heap_alloc _ _ w.heap.size (by simp; try omega)), World.cell?_of_block (Below.heap_alloc _ _ w.heap.size (by simp; try omega))]
      exact World.cell?_alloc_at _ _ _ _ rfl
    have HL0 : Hid (((((w.alloc (.cells #[.pointer (some ⟨g, 0, none⟩)] 35)).drewN q).alloc (.cells #[.slice (some ⟨g, 0, none⟩) u u] 22)).alloc (.cells #[.int .i64 (szOf h : Nat)] 3)).cell? ⟨w.heap.size + 1, 0, none⟩ = some (.slice (some ⟨g, 0, none⟩) u u)) := by
      show _ = _
      rw [World.cell?_of_block (Below.heap_alloc _ _ (w.heap.size + 1) (by simp))]
      exact World.cell?_alloc_at _ _ _ _ (by simp)
    have HZ0 : Hid (((((w.alloc (.cells #[.pointer (some ⟨g, 0, none⟩)] 35)).drewN q).alloc (.cells #[.slice (some ⟨g, 0, none⟩) u u] 22)).alloc (.cells #[.int .i64 (szOf h : Nat)] 3)).cell? ⟨w.heap.size + 1 + 1, 0, none⟩ = some (.int .i64 (szOf h : Nat))) := World.cell?_alloc_at _ _ _ _ (by simp)
    generalize ((((w.alloc (.cells #[.pointer (some ⟨g, 0, none⟩)] 35)).drewN q).alloc (.cells #[.slice (some ⟨g, 0, none⟩) u u] 22)).alloc (.cells #[.int .i64 (szOf h : Nat)] 3)) = W0 at HB0 HS0 HX0 HL0 HZ0 ⊢
    have HM0 : Hid (Mix W0 g s h f u) := hm.out.below HB0.out
    have e0 := HS0.out
    refine wpIn_rangeFunc_ownF rfl (by omega) (gf := 31) (lb := #[.pointer (some ⟨w.heap.size + 1, 0, none⟩), .pointer (some ⟨w.heap.size + 1 + 1, 0, none⟩)]) rfl trivial (enters_of Tryd.func31 (by kernel_rfl) rfl)
      (pieces_stops (4 - 1) (by omega) (w.heap.size + 1) (w.heap.size + 1 + 1) g 0 u u (szOf h) _ hsz.1 (by omega) (Nat.le_refl _) (cnt_iff u (szOf h) hsz.1) W0 HL0.out HZ0.out) Kbx.t (Kbx.b (by omega) (by omega)) (Below.refl _ _) (fun _ => rfl)
      (fun pre W => Mix W g s h (pre.foldl (stepF h (szOf h) u) f) u ∧ Tw w W g s ∧ W.cell? ⟨w.heap.size, 0, none⟩ = some (.pointer (some ⟨g, 0, none⟩)) ∧ W0.heap.size ≤ W.heap.size)
      (fun _ _ _ => False)
      (fun pre W W' row hs hg hr => by
        obtain ⟨i1, i2, i3, i4⟩ := hs
        have b : Below (w.heap.size + 3) W W' := below_turn hg hr (by omega) (by omega)
        exact ⟨i1.kept (b.block g (by omega)) (b.block s (by omega)) (fun j hj => b.block j (by omega)), i2.later (b.mono (by omega)), (World.cell?_of_block (b.block w.heap.size (by omega))).trans i3, Nat.le_trans i4 b.size⟩)
      (fun _ _ _ _ _ hs _ _ => hs)
      ⟨HM0.out, Below.tw HB0.out g s, HX0.out, Nat.le_refl _⟩
      (fun x => { tmps := #[.pointer (some ⟨g, 0, none⟩), .pointer (some ⟨w.heap.size, 0, none⟩), .int .i64 (clp (szOf h) u x : Nat), .slice (some ⟨g, clp (szOf h) u x * szOf h, none⟩) (pcl (szOf h) u x) (pcl (szOf h) u x), undef, .pointer (some ⟨g, 0, none⟩), .pointer (some ⟨g, 0, none⟩), .pointer (some ⟨g, 0, none⟩), .slice (some ⟨g, 0, none⟩) u u, .pointer (some ⟨g, 0, none⟩), .pointer (some ⟨g, 0, none⟩), .pointer (some ⟨g, 1025, none⟩), .pointer (some ⟨s, 0, none⟩), .int .i64 (szOf h : Nat), .func (.func 31) #[] #[.pointer (some ⟨w.heap.size + 1, 0, none⟩), .pointer (some ⟨w.heap.size + 1 + 1, 0, none⟩)], .int .i64 (clp (szOf h) u x : Nat), .slice (some ⟨g, clp (szOf h) u x * szOf h, none⟩) (pcl (szOf h) u x) (pcl (szOf h) u x), undef, undef, undef, undef, undef, undef, undef, undef, undef, undef, undef, undef, undef, undef, undef, undef, undef, undef, undef, undef, undef, undef, undef, undef, undef, undef, undef, undef, undef, undef, undef, undef, undef, undef], defers := [] }) ?assign ?body ?done ?stop
    case assign =>
      intro l x W K hK
      gi_wp2
      exact hK
    case body =>
      rintro l pre x W ⟨hM, hTw, hbx, hWs⟩ hlen
      have hu0 : 0 < u := by
        have := (cnt_iff u (szOf h) hsz.1 0).1 (by omega)
        omega
      have hq := pcl_le (szOf h) u x hsz.1 hu0
      have HF : Hid (((pre ++ [x]).foldl (stepF h (szOf h) u) f) = pieceF h (clp (szOf h) u x) (clp (szOf h) u x * szOf h) (pcl (szOf h) u x) (pre.foldl (stepF h (szOf h) u) f)) := by
        show _ = _
        rw [List.foldl_append]
        rfl
      generalize hfx : pre.foldl (stepF h (szOf h) u) f = fx at hM HF
      generalize clp (szOf h) u x = c at hq HF ⊢
      generalize pcl (szOf h) u x = d at hq HF ⊢
      generalize c * szOf h = p at hq HF ⊢
      clear hfx
      obtain ⟨s0, zs, hrep⟩ := hM.rep
      have HM : Hid (Mix W g s h fx u) := hM
      have HTw : Hid (Tw w W g s) := hTw
      have hst := hM.mx.2
      have HBX : Hid (W.cell? ⟨w.heap.size, 0, none⟩ = some (.pointer (some ⟨g, 0, none⟩))) := hbx
      have HA1 : Hid (Calls Tryd.prog 22 #[.pointer (some ⟨s, 0, none⟩)] W fun e w' => e = .returned (.int .i64 0) ∧ Fresh w' s h ∧ Touch W w' s 0 139) := sreset s h s0 zs W k hrep hM.tab
      clear hM hTw hrep
      gi_wp2_with (first | (refine ⟨trivial, ?_⟩; gi_at_call 22; refine (CallsIn.inRound l (callsIn_wide.2 HA1.out)).mono ?_))
      rintro e1 W1 ⟨rfl, hf1, ht1⟩
      have HF1 : Hid (Fresh W1 s h) := hf1
      have HT1 : Hid (Touch W W1 s 0 139) := ht1
      have hbx1 : W1.cell? ⟨w.heap.size, 0, none⟩ = some (.pointer (some ⟨g, 0, none⟩)) := by rw [ht1.far (p := ⟨w.heap.size, 0, none⟩) (by show w.heap.size < W.heap.size; omega) (by show w.heap.size ≠ s; omega)]; exact hbx
      have HMx1 : Hid (Mx W1 g s fx u) := HM.out.mx.far ht1 hne
      have hst1 := HMx1.out.2
      clear hf1 ht1 hbx hst HA1
      gi_wp2_with fail
      obtain ⟨ys, hys⟩ : ∃ ys, ys = (List.range d).map (fun q => fx (p + q)) := ⟨_, rfl⟩
      have W2B : Hid (Below W1.heap.size W1 ((W1.alloc (.cells #[.int .u8 ((c : Int) / 16777216 % 256), .int .u8 ((c : Int) / 65536 % 256), .int .u8 ((c : Int) / 256 % 256), .int .u8 ((c : Int) % 256)] 5)).alloc (.cells #[.slice (some ⟨W1.heap.size, 0, none⟩) 4 4, .slice (some ⟨g, p, none⟩) d d] 22))) := ((Below.refl _ W1).alloc (Nat.le_refl _) _).alloc (by simp) _
      have HP : Hid (Parts ((W1.alloc (.cells #[.int .u8 ((c : Int) / 16777216 % 256), .int .u8 ((c : Int) / 65536 % 256), .int .u8 ((c : Int) / 256 % 256), .int .u8 ((c : Int) % 256)] 5)).alloc (.cells #[.slice (some ⟨W1.heap.size, 0, none⟩) 4 4, .slice (some ⟨g, p, none⟩) d d] 22)) s (.slice (some ⟨W1.heap.size + 1, 0, none⟩) 2 2) [be4 c, ys]) := by
        have v1 : View (W1.alloc (.cells #[.int .u8 ((c : Int) / 16777216 % 256), .int .u8 ((c : Int) / 65536 % 256), .int .u8 ((c : Int) / 256 % 256), .int .u8 ((c : Int) % 256)] 5)) (.slice (some ⟨W1.heap.size, 0, none⟩) 4 4) (be4 c) := ⟨_, 4, rfl, by simp [be4], by decide, (fun e => by cases e), .inr ⟨_, _, rfl, fun i hi => by
          have hi4 : i < 4 := hi
          rw [World.cell?_alloc_at _ _ _ _ rfl]
          match i, hi4 with
          | 0, _ => rfl
          | 1, _ => rfl
          | 2, _ => rfl
          | 3, _ => rfl⟩⟩
        have v2 : View (W1.alloc (.cells #[.int .u8 ((c : Int) / 16777216 % 256), .int .u8 ((c : Int) / 65536 % 256), .int .u8 ((c : Int) / 256 % 256), .int .u8 ((c : Int) % 256)] 5)) (.slice (some ⟨g, p, none⟩) d d) ys := by
          rw [hys]
          exact View.kept (HMx1.out.1.view (by omega) d (Nat.le_refl _) (by omega)) (fun q hq => Below.heap_alloc W1 _ q hq)
        have h4 : s < W1.heap.size := HF1.out.lt
        have hpp := parts2_alloc 22 _ _ (be4 c) ys s v1 v2 (by simp; omega) (fun _ b off l c' e => by injection e with e1; injection e1 with e1; injection e1 with e1; omega) (fun _ b off l c' e => by injection e with e1; injection e1 with e1; injection e1 with e1; omega)
        rw [World.size_alloc] at hpp
        exact hpp
      generalize (W1.alloc (.cells #[.int .u8 ((c : Int) / 16777216 % 256), .int .u8 ((c : Int) / 65536 % 256), .int .u8 ((c : Int) / 256 % 256), .int .u8 ((c : Int) % 256)] 5)).alloc (.cells #[.slice (some ⟨W1.heap.size, 0, none⟩) 4 4, .slice (some ⟨g, p, none⟩) d d] 22) = W2 at W2B HP ⊢
      have HF2 : Hid (Rep W2 s 0 h (wdOf h) (firstE h) 0 []) := HF1.out.below W2B.out
      have HTb2 : Hid (Tables W2) := (HM.out.tab.touch HT1.out hs4).below W2B.out (by have := HF1.out.lt; omega)
      have HMx2 : Hid (Mx W2 g s fx u) := HMx1.out.below W2B.out
      have HTw2 : Hid (Tw W W2 g s) := (HT1.out.twS g).below W2B.out
      have hyl : ys.length = d := by rw [hys]; simp
      have hbx2 : W2.cell? ⟨w.heap.size, 0, none⟩ = some (.pointer (some ⟨g, 0, none⟩)) := by rw [World.cell?_of_block (w := W1) (W2B.out.block w.heap.size (by have := HT1.out.size; omega))]; exact hbx1
      have hsW : W.heap.size ≤ W2.heap.size := Nat.le_trans HT1.out.size W2B.out.size
      clear hbx1 hst1 HMx1 HF1 W2B HT1
      refine ⟨trivial, ?_⟩
      refine (CallsIn.inRound l (callsIn_wide.2 (swrite s h (firstE h) [] [be4 c, ys] _ W2 k HF2 HP HTb2 hs4 (by show _ ≤ _; simp [be4, hyl]; omega)))).mono ?_
      rintro e3 W3 ⟨rfl, ht3, hr3⟩
      have hcat : ([] ++ [be4 c, ys].flatten : List Int) = be4 c ++ ys := by simp
      rw [hcat] at hr3
      have HR3 : Hid (Rep W3 s 0 h (wdOf h) (firstE h) 0 (be4 c ++ ys)) := hr3
      have HTb3 : Hid (Tables W3) := HTb2.out.touch ht3 hs4
      have HMx3 : Hid (Mx W3 g s fx u) := HMx2.out.far ht3 hne
      have HTw3 : Hid (Tw W W3 g s) := HTw2.out.trans (ht3.twS g)
      have hbx3 : W3.cell? ⟨w.heap.size, 0, none⟩ = some (.pointer (some ⟨g, 0, none⟩)) := by rw [ht3.far (p := ⟨w.heap.size, 0, none⟩) (by show w.heap.size < W2.heap.size; omega) (by show w.heap.size ≠ s; omega)]; exact hbx2
      have hst3 := HMx3.out.2
      have hsW3 : W.heap.size ≤ W3.heap.size := Nat.le_trans hsW ht3.size
      clear hr3 ht3 hbx2 HMx2 HTw2 HTb2 HF2 HP hcat
      gi_wp2_with fail
      refine ⟨trivial, ?_⟩
      refine (CallsIn.inRound l (callsIn_wide.2 (ssum s h (firstE h) (be4 c ++ ys) W3 k HR3 HTb3 (by show _ ≤ _; simp [be4, hyl]; omega)))).mono ?_
      rintro e4 W4 ⟨b, rfl, hown, hb4⟩
      obtain ⟨L, hL⟩ : ∃ L, L = sumD h (be4 c ++ ys) := ⟨_, rfl⟩
      have hown' : W4.ownsRow W3.heap.size 5 1 (.slice (some ⟨b, 0, none⟩) (szOf h) (szOf h)) (szOf h) (cellsU8 L) := by rw [hL]; exact hown
      have hLl : L.length = szOf h := by have := hown'.1; rw [cellsU8_length] at this; omega
      have hbB : W3.heap.size ≤ b := (hown'.lt b rfl).1
      have thb : W4.there b 0 (szOf h) := fun j hj => ⟨by
        have q := hown'.cellAt j (by omega)
        rw [Nat.zero_add, q, cellsU8, List.getElem?_map, List.getElem?_eq_getElem (by omega)]
        rfl, hown'.frozenAt _⟩
      have HMx4 : Mx W4 g s fx u := HMx3.out.below hb4
      have thg : W4.there g p d := fun j hj => by
        have := HMx4.1.there (p + j) (by omega)
        rwa [Nat.zero_add] at this
      have hcp := copy_eq W4 g p d d (some ⟨b, 0, none⟩) (szOf h) (szOf h) d L (by omega) (viewOwns hown' hLl) thg
      have hTl : (L.take d).length = d := by simp; omega
      obtain ⟨X, hX⟩ : ∃ X, X = cellsU8 (L.take d) := ⟨_, rfl⟩
      rw [← hX] at hcp
      have hgb : g < W3.heap.size := HMx3.out.1.lt
      have hsb : s < W3.heap.size := HR3.out.lt
      have K39 : Hid (Calls Tryd.prog 30 #[.slice (some ⟨b, 0, none⟩) (szOf h) (szOf h)] (W4.setCells g p X) fun e w' => e = .returned (.tuple #[]) ∧ w' = (W4.setCells g p X).setCells b 0 (List.replicate (szOf h) (.int .u8 0))) := wipe39 b 0 (szOf h) (szOf h) _ (World.there_setCells thb g p X)
      have HEnd : Hid (Mix ((W4.setCells g p X).setCells b 0 (List.replicate (szOf h) (.int .u8 0))) g s h (pieceF h c p d fx) u ∧ Tw W ((W4.setCells g p X).setCells b 0 (List.replicate (szOf h) (.int .u8 0))) g s) := by
        have hTw4 : Tw W W4 g s := HTw3.out.below hb4
        have hb5 : Buf (W4.setCells g p X) g (pieceF h c p d fx) u := by
          rw [hX]
          have q := HMx4.1.laid (L.take d) (show p + (L.take d).length ≤ 1024 by omega)
          have e : (fun j => if p ≤ j ∧ j < p + (L.take d).length then (L.take d).getD (j - p) 0 else fx j) = pieceF h c p d fx := by
            funext j
            unfold pieceF
            rw [hTl, ← hys, ← hL]
            by_cases hj : p ≤ j ∧ j < p + d
            · rw [if_pos hj, if_pos hj]
              simp [List.getD, List.getElem?_take, show j - p < d by omega]
            · rw [if_neg hj, if_neg hj]
          rw [e] at q
          exact q
        have hx5 : Mx (W4.setCells g p X) g s (pieceF h c p d fx) u := ⟨hb5, by
          rw [World.cell?_setCells_out g X p W4 ⟨g, 1025, none⟩ (fun _ _ => Or.inr (by rw [hX, cellsU8_length, hTl]; show p + d ≤ 1025; omega))]
          exact HMx4.2⟩
        have h45 : ∀ q, q < W4.heap.size → q ≠ g → (W4.setCells g p X).heap[q]? = W4.heap[q]? := fun q hq hne' => World.heap_setCells_other W4 g p X hq hne'
        have h56 : ∀ q, q < W4.heap.size → q ≠ b → ((W4.setCells g p X).setCells b 0 (List.replicate (szOf h) (.int .u8 0))).heap[q]? = (W4.setCells g p X).heap[q]? := fun q hq hne' => World.heap_setCells_other _ b 0 _ (by rw [size_setCells]; exact hq) hne'
        have hs4' := hb4.size
        refine ⟨⟨hx5.kept (h56 g (by omega) (by omega)), ⟨firstE h, be4 c ++ ys, ?_⟩, ?_⟩, (hTw4.setG p X).setNew (by omega) 0 _⟩
        · exact (HR3.out.below hb4).kept ((h56 s (by omega) (by omega)).trans (h45 s (by omega) (Ne.symm hne)))
        · exact (HTb3.out.below hb4 (by omega)).kept (fun q hq => (h56 q (by omega) (by omega)).trans (h45 q (by omega) (by omega)))
      clear hown hown' hb4 thb thg hbx3 hst3 HMx4 hX hL hys
      gi_wp2_with (first | (refine ⟨trivial, ?_⟩; gi_at_call 30; refine (CallsIn.inRound l (callsIn_wide.2 K39.out)).mono ?_))
      rintro e6 W6 ⟨rfl, hw6⟩
      rw [← hw6] at HEnd
      clear hw6
      gi_wp2_with fail
      have e00 := HS0.out
      refine ⟨HEnd.out.2.keeps HM.out, HEnd.out.2.boxes (by omega) (by omega) (by omega) (by omega) (by omega) (by omega), ?_, HTw.out.trans HEnd.out.2, ?_, Nat.le_trans hWs HEnd.out.2.size⟩
      · rw [HF.out]
        exact HEnd.out.1
      · rw [World.cell?_of_block (w := W) (HEnd.out.2.block w.heap.size (by omega) (by omega) (by omega))]
        exact HBX.out
    case done =>
      rintro D ys W hD rfl ⟨hM, hTw, hbx, hWs⟩ hK
      gi_wp2
      refine ⟨by simp, .inl ⟨_, _, rfl, run_takeDeferred hK, ?_⟩⟩
      have hDk : ∀ q, q < w.heap.size → (W.putObj D (.deferred none)).heap[q]? = W.heap[q]? := fun q hq => World.putObj_heap_other (by omega)
      refine ⟨_, results_none rfl _ _ _, rfl, ?_, ?_⟩
      · exact hM.kept (hDk g hgw) (hDk s hsw) (fun j hj => hDk j (by omega))
      · exact hTw.later (belowK_b (w := w) (Nat.le_refl _) W D _ _ (by omega) hK rfl rfl)
    case stop =>
      rintro D c pre W _ _ hx _
      exact hx.elim

  refine wpIn_wide.2 ?_
  have hS0 : Below (w.alloc (.cells #[.pointer (some ⟨g, 0, none⟩)] 35)).heap.size (w.alloc (.cells #[.pointer (some ⟨g, 0, none⟩)] 35)) (w.alloc (.cells #[.pointer (some ⟨g, 0, none⟩)] 35)).drew := (Below.refl _ _).drew
  refine wp_region_noPanic ?_
  refine wp_region_held_drew (S := fun v => Below (w.alloc (.cells #[.pointer (some ⟨g, 0, none⟩)] 35)).heap.size (w.alloc (.cells #[.pointer (some ⟨g, 0, none⟩)] 35)) v) (by kernel_rfl) (hS0) (fun _ => ?_)
  refine takeH_at 0 5 (.pointer (some ⟨g, 0, none⟩)) rfl rfl (by kernel_rfl) (by kernel_rfl) (by kernel_rfl) (fun _ _ _ h => h) hS0 (Or.inl ⟨by kernel_rfl, fun w' hS' => by have q1 := gb.out w' hS'; go_simp⟩) ?_
  simp only [List.setIfInBounds_toArray, List.set_cons_zero, List.set_cons_succ]
  refine takeH_at 1 6 (.pointer (some ⟨g, 0, none⟩)) rfl rfl (by kernel_rfl) (by kernel_rfl) (by kernel_rfl) (fun _ _ _ h => h) hS0 (Or.inl ⟨by kernel_rfl, fun w' hS' => by go_simp⟩) ?_
  simp only [List.setIfInBounds_toArray, List.set_cons_zero, List.set_cons_succ]
  refine takeH_at 2 7 (.pointer (some ⟨g, 0, none⟩)) rfl rfl (by kernel_rfl) (by kernel_rfl) (by kernel_rfl) (fun _ _ _ h => h) hS0 (Or.inl ⟨by kernel_rfl, fun w' hS' => by go_simp⟩) ?_
  simp only [List.setIfInBounds_toArray, List.set_cons_zero, List.set_cons_succ]
  refine takeH_at 4 9 (.pointer (some ⟨g, 0, none⟩)) rfl rfl (by kernel_rfl) (by kernel_rfl) (by kernel_rfl) (fun _ _ _ h => h) hS0 (Or.inl ⟨by kernel_rfl, fun w' hS' => by have q1 := gb.out w' hS'; go_simp⟩) ?_
  simp only [List.setIfInBounds_toArray, List.set_cons_zero, List.set_cons_succ]
  refine takeH_at 5 10 (.pointer (some ⟨g, 0, none⟩)) rfl rfl (by kernel_rfl) (by kernel_rfl) (by kernel_rfl) (fun _ _ _ h => h) hS0 (Or.inl ⟨by kernel_rfl, fun w' hS' => by go_simp⟩) ?_
  simp only [List.setIfInBounds_toArray, List.set_cons_zero, List.set_cons_succ]
  refine takeH_at 6 11 (.pointer (some ⟨g, 1025, none⟩)) rfl rfl (by kernel_rfl) (by kernel_rfl) (by kernel_rfl) (fun _ _ _ h => h) hS0 (Or.inl ⟨by kernel_rfl, fun w' hS' => by go_simp⟩) ?_
  simp only [List.setIfInBounds_toArray, List.set_cons_zero, List.set_cons_succ]
  refine takeH_at 7 12 (.pointer (some ⟨s, 0, none⟩)) rfl rfl (by kernel_rfl) (by kernel_rfl) (by kernel_rfl) (fun _ _ _ h => h) hS0 (Or.inl ⟨by kernel_rfl, fun w' hS' => by have q1 := gs.out w' hS'; go_simp⟩) ?_
  simp only [List.setIfInBounds_toArray, List.set_cons_zero, List.set_cons_succ]
  refine wpAnyH_ready (rs := [3]) (by kernel_rfl) (by simp) ?_
  refine AllReadyH.cons rfl (fun K hK => ?_) AllReadyH.nil
  go_simp
  refine (K35.out _ hS0).mono ?_
  rintro e1 v1 ⟨rfl, q1, rfl⟩
  go_wp2_with fail
  refine hK.out _ _ (hSq _) (fun _ => ?_)
  clear hK K
  try simp only [List.setIfInBounds_toArray, List.set_cons_zero, List.set_cons_succ]
  refine wpAnyH_ready (rs := [8]) (by kernel_rfl) (by simp) ?_
  refine AllReadyH.cons rfl (fun K hK => ?_) AllReadyH.nil
  go_simp
  refine (K36.out _ (hSq _)).mono ?_
  rintro e2 v2 ⟨rfl, hv2⟩
  obtain rfl := hv2.symm
  go_wp2_with fail
  refine hK.out _ _ (hSq _) (fun _ => ?_)
  clear hK K hv2
  try simp only [List.setIfInBounds_toArray, List.set_cons_zero, List.set_cons_succ]
  refine wpAnyH_ready (rs := [9]) (by kernel_rfl) (by simp) ?_
  refine AllReadyH.cons rfl (fun K hK => ?_) AllReadyH.nil
  go_simp
  refine (pieces_ok _ (some ⟨g, 0, none⟩) u u (szOf h) rfl _).mono ?_
  rintro e3 v3 ⟨rfl, rfl⟩
  go_wp2_with fail
  refine hK.out _ _ (((hSq (1 + q1)).alloc (hSq (1 + q1)).size _).alloc (Nat.le_trans (hSq (1 + q1)).size (by simp)) _) (fun _ => ?_)
  clear hK
  try simp only [List.setIfInBounds_toArray, List.set_cons_zero, List.set_cons_succ]
  refine wpAnyH_done (by kernel_rfl) ?_ _
  refine NoPanic.normal ?_
  first | exact hrest (1 + q1) | simpa [Exit.then] using hrest (1 + q1)
end Go.Proofs.YtcopkohklgbpgabDoor
namespace Go.Proofs.YtcopkohklgbpgabDoor
open Go.RowKit Go.Shelf
attribute [local go_sem] Oper.semAt_some
set_option linter.unusedVariables false
set_option linter.unusedSimpArgs false
/-- One stripe: laid over, and diffused. -/
def mstep (h : Int) (n : Nat) (a : Nat → Int) (f : Nat → Int) (x : Nat) : Nat → Int := diffF h n (xorF f (fun i => a (x * n + i)) n)
/-- The stripes ahead. -/
def maskF (h : Int) (n : Nat) (a : Nat → Int) (cnt : Nat) (f : Nat → Int) : Nat → Int := (List.range cnt).foldl (mstep h n a) f
theorem cnt_mul (cnt n : Nat) (hn : 1 ≤ n) (j : Nat) : j < cnt ↔ j * n < cnt * n := (Nat.mul_lt_mul_right (by omega)).symm
def mstepC (h : Int) (n len : Nat) (a : Nat → Int) (f : Nat → Int) (x : Nat) : Nat → Int := mstep h n a f (clp n len x)
theorem foldl_same {α β : Type} (F G : β → α → β) (l : List α) (hl : ∀ x, x ∈ l → ∀ b, F b x = G b x) : ∀ b, l.foldl F b = l.foldl G b := by
  induction l with
  | nil => intro b; rfl
  | cons y r ih =>
    intro b
    rw [List.foldl_cons, List.foldl_cons, hl y (by simp) b]
    exact ih (fun x hx => hl x (by simp [hx])) _
theorem maskC_eq (h : Int) (n cnt : Nat) (a : Nat → Int) (f : Nat → Int) (hn : 1 ≤ n) : (List.range cnt).foldl (mstepC h n (cnt * n) a) f = maskF h n a cnt f := by
  refine foldl_same _ _ _ (fun x hx b => ?_) f
  rw [List.mem_range] at hx
  unfold mstepC clp
  rw [if_pos ((cnt_mul cnt n hn x).1 hx)]
theorem clp_mul (cnt n x : Nat) (hn : 1 ≤ n) (hc : 0 < cnt) : clp n (cnt * n) x < cnt ∧ pcl n (cnt * n) x = n ∧ clp n (cnt * n) x * n + n ≤ cnt * n := by
  have h0 : 0 < cnt * n := Nat.mul_pos hc (by omega)
  have h1 := clp_lt n (cnt * n) x h0
  have h2 := (cnt_mul cnt n hn (clp n (cnt * n) x)).2 h1
  have h3 : (clp n (cnt * n) x + 1) * n ≤ cnt * n := Nat.mul_le_mul_right n h2
  rw [Nat.succ_mul] at h3
  refine ⟨h2, ?_, h3⟩
  unfold pcl
  rw [Nat.succ_mul]
  omega
set_option maxHeartbeats 3200000 in
set_option maxRecDepth 100000 in
theorem mask_nil (g s u n bl ol cl : Nat) (f z : Nat → Int) (h : Int) (w : World) (ah : Option Addr) (ca : Nat) (k : Hid (Known h)) (hm : Hid (Mix w g s h f u)) (hne : g ≠ s) (hg4 : 4 ≤ g) (hs4 : 4 ≤ s) (hu : u ≤ 1024) (hn : 1 ≤ n ∧ n ≤ 1024) (hbl : bl ≠ g ∧ bl ≠ s) (hlz : Hid (∀ i, i < n → w.cell? ⟨bl, ol + i, none⟩ = some (.int .u8 (z i)))) :
    Calls Tryd.prog 14 #[.pointer (some ⟨g, 0, none⟩), .slice ah 0 ca, .slice (some ⟨bl, ol, none⟩) n cl] w fun e w' => e = .returned (.tuple #[]) ∧ Mix w' g s h (xorF f z n) n ∧ Tw w w' g s := by
  obtain ⟨hgw, hsw⟩ : g < w.heap.size ∧ s < w.heap.size := ⟨hm.out.gt, hm.out.st⟩
  have hT4 : 4 ≤ w.heap.size := hm.out.tab.size
  have hni : ((n : Nat) : Int) ≤ 1024 := by omega
  refine (callsIn_wide (n := 4)).1 ?_
  refine callsIn_of_wp_marks Tryd.func14 rfl trivial ?_ rfl
  simp only [Tryd.ntmps14, List.size_toArray, List.length_cons, List.length_nil, Nat.reduceAdd, Nat.reduceSub, Array.replicate_succ, Array.replicate_zero, List.push_toArray, List.append_toArray, List.nil_append, List.cons_append]
  gi_wp2_with (first | (refine ⟨trivial, ?_⟩; gi_at_call 24; refine (callsIn_wide.2 (pieces_ok _ ah 0 ca n rfl _)).mono ?_; rintro e0 w0 ⟨rfl, rfl⟩))
  have HB0 : Hid (Below w.heap.size w (((w.alloc (.cells #[.pointer (some ⟨g, 0, none⟩)] 35)).alloc (.cells #[.slice ah 0 ca] 22)).alloc (.cells #[.int .i64 (n : Nat)] 3))) := ((((Below.refl _ w).alloc (Nat.le_refl _) _).alloc (by simp) _).alloc (by simp; try omega) _)
  have HS0 : Hid ((((w.alloc (.cells #[.pointer (some ⟨g, 0, none⟩)] 35)).alloc (.cells #[.slice ah 0 ca] 22)).alloc (.cells #[.int .i64 (n : Nat)] 3)).heap.size = w.heap.size + 3) := by show _ = _; simp
  have HX0 : Hid ((((w.alloc (.cells #[.pointer (some ⟨g, 0, none⟩)] 35)).alloc (.cells #[.slice ah 0 ca] 22)).alloc (.cells #[.int .i64 (n : Nat)] 3)).cell? ⟨w.heap.size, 0, none⟩ = some (.pointer (some ⟨g, 0, none⟩))) := by
    show _ = _
    rw [World.cell?_of_block (Below.heap_alloc _ _ w.heap.size (by simp; try omega)), World.cell?_of_block (Below.heap_alloc _ _ w.heap.size (by simp; try omega))]
    exact World.cell?_alloc_at _ _ _ _ rfl
  have HL0 : Hid ((((w.alloc (.cells #[.pointer (some ⟨g, 0, none⟩)] 35)).alloc (.cells #[.slice ah 0 ca] 22)).alloc (.cells #[.int .i64 (n : Nat)] 3)).cell? ⟨w.heap.size + 1, 0, none⟩ = some (.slice ah 0 ca)) := by
    show _ = _
    rw [World.cell?_of_block (Below.heap_alloc _ _ (w.heap.size + 1) (by simp))]
    exact World.cell?_alloc_at _ _ _ _ (by simp)
  have HZ0 : Hid ((((w.alloc (.cells #[.pointer (some ⟨g, 0, none⟩)] 35)).alloc (.cells #[.slice ah 0 ca] 22)).alloc (.cells #[.int .i64 (n : Nat)] 3)).cell? ⟨w.heap.size + 1 + 1, 0, none⟩ = some (.int .i64 (n : Nat))) := World.cell?_alloc_at _ _ _ _ (by simp)
  generalize (((w.alloc (.cells #[.pointer (some ⟨g, 0, none⟩)] 35)).alloc (.cells #[.slice ah 0 ca] 22)).alloc (.cells #[.int .i64 (n : Nat)] 3)) = W0 at HB0 HS0 HX0 HL0 HZ0 ⊢
  have HM0 : Hid (Mix W0 g s h f u) := hm.out.below HB0.out
  have e0 := HS0.out
  refine wpIn_rangeFunc_ownF rfl (by omega) (gf := 31) (lb := #[.pointer (some ⟨w.heap.size + 1, 0, none⟩), .pointer (some ⟨w.heap.size + 1 + 1, 0, none⟩)]) rfl trivial (enters_of Tryd.func31 (by kernel_rfl) rfl)
    (pieces_stops_nil (4 - 1) (w.heap.size + 1) (w.heap.size + 1 + 1) ca n ah (fun _ => #[.int .i64 0, .slice none 0 0]) W0 HL0.out HZ0.out) Kbx.t (Kbx.b (by omega) (by omega)) (Below.refl _ _) (fun _ => rfl)
    (fun pre W => (∃ u', u' ≤ 1024 ∧ Mix W g s h (f) u') ∧ Tw w W g s ∧ W.cell? ⟨w.heap.size, 0, none⟩ = some (.pointer (some ⟨g, 0, none⟩)) ∧ W0.heap.size ≤ W.heap.size)
    (fun _ _ _ => False)
    (fun pre W W' row hs hg hr => by
      obtain ⟨⟨u', hu', i1⟩, i2, i3, i4⟩ := hs
      have b : Below (w.heap.size + 3) W W' := below_turn hg hr (by omega) (by omega)
      exact ⟨⟨u', hu', i1.kept (b.block g (by omega)) (b.block s (by omega)) (fun j hj => b.block j (by omega))⟩, i2.later (b.mono (by omega)), (World.cell?_of_block (b.block w.heap.size (by omega))).trans i3, Nat.le_trans i4 b.size⟩)
    (fun _ _ _ _ _ hs _ _ => hs)
    ⟨⟨u, hu, HM0.out⟩, Below.tw HB0.out g s, HX0.out, Nat.le_refl _⟩
    (fun x => { tmps := #[.pointer (some ⟨g, 0, none⟩), .slice ah 0 ca, .slice (some ⟨bl, ol, none⟩) n cl, .pointer (some ⟨w.heap.size, 0, none⟩), undef, undef, undef, .slice none 0 0, .slice ah 0 ca, .slice (some ⟨bl, ol, none⟩) n cl, .int .i64 (n : Nat), .func (.func 31) #[] #[.pointer (some ⟨w.heap.size + 1, 0, none⟩), .pointer (some ⟨w.heap.size + 1 + 1, 0, none⟩)], .int .i64 0, .slice none 0 0, undef, undef, undef, undef, undef, undef, undef, undef, undef, undef, undef, undef], defers := [] }) ?assign ?body ?done ?stop
  case assign =>
    intro l x W K hK
    gi_wp2
    exact hK
  case body =>
    rintro l pre x W _ hlen
    exact absurd hlen (by omega)
  case done =>
    rintro D ys W hD rfl ⟨⟨u', hu', hM⟩, hTw, hbx, hWs⟩ hK
    have HM : Hid (Mix W g s h f u') := hM
    have HTw : Hid (Tw w W g s) := hTw
    have hst := hM.mx.2
    have HX : Hid (Calls Tryd.prog 25 #[.pointer (some ⟨g, 0, none⟩), .slice (some ⟨bl, ol, none⟩) n cl] W fun e w' => e = .returned (.tuple #[]) ∧ Buf w' g (xorF f z n) n ∧ Touch W w' g 0 1025) := xor_some g n cl bl ol u' _ z W hM.mx.1 hn.2 hbl.1 (fun i hi => by
      have q := hlz.out i hi
      have ql := World.block_lt_of_cell? w _ q
      show W.cell? _ = _
      rw [World.cell?_of_block (w := w) (hTw.block bl (by simpa using ql) hbl.1 hbl.2)]
      exact q)
    have HK : Hid (W.heap[D]? = some (.deferred (some []))) := hK
    clear hM hTw hK
    gi_wp2_with (first | (refine ⟨trivial, ?_⟩; gi_at_call 25; refine (callsIn_wide.2 HX.out).mono ?_))
    rintro e1 W1 ⟨rfl, hb1, ht1⟩
    gi_wp2
    have hKD : W1.heap[D]? = some (.deferred (some [])) := by
      have hlt : D < W.heap.size := (Array.getElem?_eq_some_iff.1 HK.out).1
      rw [ht1.block D hlt (by omega)]
      exact HK.out
    refine ⟨by simp, .inl ⟨_, _, rfl, run_takeDeferred hKD, ?_⟩⟩
    have hDk : ∀ q, q < w.heap.size → (W1.putObj D (.deferred none)).heap[q]? = W1.heap[q]? := fun q hq => World.putObj_heap_other (by omega)
    have hM1 : Mix W1 g s h (xorF f z n) n := by
      obtain ⟨s0, zs, r⟩ := HM.out.rep
      exact ⟨HM.out.mx.touch ht1 hb1, ⟨s0, zs, r.far ht1 (Ne.symm hne)⟩, HM.out.tab.touch ht1 hg4⟩
    refine ⟨_, results_none rfl _ _ _, rfl, ?_, ?_⟩
    · exact hM1.kept (hDk g hgw) (hDk s hsw) (fun j hj => hDk j (by omega))
    · exact (HTw.out.trans (ht1.twG s)).later (belowK_b (w := w) (Nat.le_refl _) W1 D _ _ (by omega) hKD rfl rfl)
  case stop =>
    rintro D c pre W _ _ hx _
    exact hx.elim
set_option maxHeartbeats 3200000 in
set_option maxRecDepth 100000 in
theorem mask_some (g s u n bl ol cl : Nat) (f z : Nat → Int) (h : Int) (w : World) (ba oa ca cnt : Nat) (A : List Int) (hA : Hid (View w (.slice (some ⟨ba, oa, none⟩) (cnt * n) ca) A)) (hAl : Hid (A.length = cnt * n)) (hba : ba ≠ g ∧ ba ≠ s) (hcn : cnt * n ≤ 140737488355328) (k : Hid (Known h)) (hm : Hid (Mix w g s h f u)) (hne : g ≠ s) (hg4 : 4 ≤ g) (hs4 : 4 ≤ s) (hu : u ≤ 1024) (hn : 1 ≤ n ∧ n ≤ 1024) (hbl : bl ≠ g ∧ bl ≠ s) (hlz : Hid (∀ i, i < n → w.cell? ⟨bl, ol + i, none⟩ = some (.int .u8 (z i)))) :
    Calls Tryd.prog 14 #[.pointer (some ⟨g, 0, none⟩), .slice (some ⟨ba, oa, none⟩) (cnt * n) ca, .slice (some ⟨bl, ol, none⟩) n cl] w fun e w' => e = .returned (.tuple #[]) ∧ Mix w' g s h (xorF (maskF h n (fun i => A.getD i 0) cnt f) z n) n ∧ Tw w w' g s := by
  obtain ⟨hgw, hsw⟩ : g < w.heap.size ∧ s < w.heap.size := ⟨hm.out.gt, hm.out.st⟩
  have hT4 : 4 ≤ w.heap.size := hm.out.tab.size
  have hni : ((n : Nat) : Int) ≤ 1024 := by omega
  have hca : cnt * n ≤ ca := by obtain ⟨_, _, e, q, _⟩ := hA.out; injection e with _ e2 e3; omega
  refine (callsIn_wide (n := 4)).1 ?_
  refine callsIn_of_wp_marks Tryd.func14 rfl trivial ?_ rfl
  simp only [Tryd.ntmps14, List.size_toArray, List.length_cons, List.length_nil, Nat.reduceAdd, Nat.reduceSub, Array.replicate_succ, Array.replicate_zero, List.push_toArray, List.append_toArray, List.nil_append, List.cons_append]
  gi_wp2_with (first | (refine ⟨trivial, ?_⟩; gi_at_call 24; refine (callsIn_wide.2 (pieces_ok _ (some ⟨ba, oa, none⟩) (cnt * n) ca n rfl _)).mono ?_; rintro e0 w0 ⟨rfl, rfl⟩))
  have HB0 : Hid (Below w.heap.size w (((w.alloc (.cells #[.pointer (some ⟨g, 0, none⟩)] 35)).alloc (.cells #[.slice (some ⟨ba, oa, none⟩) (cnt * n) ca] 22)).alloc (.cells #[.int .i64 (n : Nat)] 3))) := ((((Below.refl _ w).alloc (Nat.le_refl _) _).alloc (by simp) _).alloc (by simp; try omega) _)
  have HS0 : Hid ((((w.alloc (.cells #[.pointer (some ⟨g, 0, none⟩)] 35)).alloc (.cells #[.slice (some ⟨ba, oa, none⟩) (cnt * n) ca] 22)).alloc (.cells #[.int .i64 (n : Nat)] 3)).heap.size = w.heap.size + 3) := by show _ = _; simp
  have HX0 : Hid ((((w.alloc (.cells #[.pointer (some ⟨g, 0, none⟩)] 35)).alloc (.cells #[.slice (some ⟨ba, oa, none⟩) (cnt * n) ca] 22)).alloc (.cells #[.int .i64 (n : Nat)] 3)).cell? ⟨w.heap.size, 0, none⟩ = some (.pointer (some ⟨g, 0, none⟩))) := by
    show _ = _
    rw [World.cell?_of_block (Below.heap_alloc _ _ w.heap.size (by simp; try omega)), World.cell?_of_block (Below.heap_alloc _ _ w.heap.size (by simp; try omega))]
    exact World.cell?_alloc_at _ _ _ _ rfl
  have HL0 : Hid ((((w.alloc (.cells #[.pointer (some ⟨g, 0, none⟩)] 35)).alloc (.cells #[.slice (some ⟨ba, oa, none⟩) (cnt * n) ca] 22)).alloc (.cells #[.int .i64 (n : Nat)] 3)).cell? ⟨w.heap.size + 1, 0, none⟩ = some (.slice (some ⟨ba, oa, none⟩) (cnt * n) ca)) := by
    show _ = _
    rw [World.cell?_of_block (Below.heap_alloc _ _ (w.heap.size + 1) (by simp))]
    exact World.cell?_alloc_at _ _ _ _ (by simp)
  have HZ0 : Hid ((((w.alloc (.cells #[.pointer (some ⟨g, 0, none⟩)] 35)).alloc (.cells #[.slice (some ⟨ba, oa, none⟩) (cnt * n) ca] 22)).alloc (.cells #[.int .i64 (n : Nat)] 3)).cell? ⟨w.heap.size + 1 + 1, 0, none⟩ = some (.int .i64 (n : Nat))) := World.cell?_alloc_at _ _ _ _ (by simp)
  generalize (((w.alloc (.cells #[.pointer (some ⟨g, 0, none⟩)] 35)).alloc (.cells #[.slice (some ⟨ba, oa, none⟩) (cnt * n) ca] 22)).alloc (.cells #[.int .i64 (n : Nat)] 3)) = W0 at HB0 HS0 HX0 HL0 HZ0 ⊢
  have HM0 : Hid (Mix W0 g s h f u) := hm.out.below HB0.out
  have e0 := HS0.out
  refine wpIn_rangeFunc_ownF rfl (by omega) (gf := 31) (lb := #[.pointer (some ⟨w.heap.size + 1, 0, none⟩), .pointer (some ⟨w.heap.size + 1 + 1, 0, none⟩)]) rfl trivial (enters_of Tryd.func31 (by kernel_rfl) rfl)
    (pieces_stops (4 - 1) (by omega) (w.heap.size + 1) (w.heap.size + 1 + 1) ba oa (cnt * n) ca n cnt hn.1 (by omega) hca (cnt_mul cnt n hn.1) W0 HL0.out HZ0.out) Kbx.t (Kbx.b (by omega) (by omega)) (Below.refl _ _) (fun _ => rfl)
    (fun pre W => (∃ u', u' ≤ 1024 ∧ Mix W g s h (pre.foldl (mstepC h n (cnt * n) (fun i => A.getD i 0)) f) u') ∧ Tw w W g s ∧ W.cell? ⟨w.heap.size, 0, none⟩ = some (.pointer (some ⟨g, 0, none⟩)) ∧ W0.heap.size ≤ W.heap.size)
    (fun _ _ _ => False)
    (fun pre W W' row hs hg hr => by
      obtain ⟨⟨u', hu', i1⟩, i2, i3, i4⟩ := hs
      have b : Below (w.heap.size + 3) W W' := below_turn hg hr (by omega) (by omega)
      exact ⟨⟨u', hu', i1.kept (b.block g (by omega)) (b.block s (by omega)) (fun j hj => b.block j (by omega))⟩, i2.later (b.mono (by omega)), (World.cell?_of_block (b.block w.heap.size (by omega))).trans i3, Nat.le_trans i4 b.size⟩)
    (fun _ _ _ _ _ hs _ _ => hs)
    ⟨⟨u, hu, HM0.out⟩, Below.tw HB0.out g s, HX0.out, Nat.le_refl _⟩
    (fun x => { tmps := #[.pointer (some ⟨g, 0, none⟩), .slice (some ⟨ba, oa, none⟩) (cnt * n) ca, .slice (some ⟨bl, ol, none⟩) n cl, .pointer (some ⟨w.heap.size, 0, none⟩), undef, undef, undef, .slice (some ⟨ba, oa + clp n (cnt * n) x * n, none⟩) (pcl n (cnt * n) x) (pcl n (cnt * n) x), .slice (some ⟨ba, oa, none⟩) (cnt * n) ca, .slice (some ⟨bl, ol, none⟩) n cl, .int .i64 (n : Nat), .func (.func 31) #[] #[.pointer (some ⟨w.heap.size + 1, 0, none⟩), .pointer (some ⟨w.heap.size + 1 + 1, 0, none⟩)], .int .i64 (clp n (cnt * n) x : Nat), .slice (some ⟨ba, oa + clp n (cnt * n) x * n, none⟩) (pcl n (cnt * n) x) (pcl n (cnt * n) x), undef, undef, undef, undef, undef, undef, undef, undef, undef, undef, undef, undef], defers := [] }) ?assign ?body ?done ?stop
  case assign =>
    intro l x W K hK
    gi_wp2
    exact hK
  case body =>
    rintro l pre x W ⟨⟨u', hu', hM⟩, hTw, hbx, hWs⟩ hlen
    have hc0 : 0 < cnt := by omega
    obtain ⟨hcl, hpc, hcn2⟩ := clp_mul cnt n x hn.1 hc0
    have HF : Hid (((pre ++ [x]).foldl (mstepC h n (cnt * n) (fun i => A.getD i 0)) f) = diffF h n (xorF (pre.foldl (mstepC h n (cnt * n) (fun i => A.getD i 0)) f) (fun i => A.getD (clp n (cnt * n) x * n + i) 0) n)) := by
      show _ = _
      rw [List.foldl_append]
      rfl
    generalize hfx : pre.foldl (mstepC h n (cnt * n) (fun i => A.getD i 0)) f = fx at hM HF
    clear hfx
    rw [hpc]
    generalize clp n (cnt * n) x = c at hcl hcn2 HF ⊢
    generalize hp : c * n = p at hcn2 HF ⊢
    clear hpc hp
    have HM : Hid (Mix W g s h fx u') := hM
    have HTw : Hid (Tw w W g s) := hTw
    have HBX : Hid (W.cell? ⟨w.heap.size, 0, none⟩ = some (.pointer (some ⟨g, 0, none⟩))) := hbx
    have hst := hM.mx.2
    have HX : Hid (Calls Tryd.prog 25 #[.pointer (some ⟨g, 0, none⟩), .slice (some ⟨ba, oa + p, none⟩) n n] W fun e w' => e = .returned (.tuple #[]) ∧ Buf w' g (xorF fx (fun i => A.getD (p + i) 0) n) n ∧ Touch W w' g 0 1025) := xor_some g n n ba (oa + p) u' _ _ W hM.mx.1 hn.2 hba.1 (fun i hi => by
      obtain ⟨a', c', e, q1, q2, q3, q4⟩ := hTw.view hA.out (fun b off l c' e => by injection e with e1; injection e1 with e1; injection e1 with e1; omega)
      have hl := hAl.out
      rcases q4 with rfl | ⟨b', o', e2, q5⟩
      · simp at hl; omega
      · injection e with e1 e3 e4
        rw [e2] at e1
        injection e1 with e1
        injection e1 with e5 e6
        rw [e5, e6, Nat.add_assoc]
        exact q5 (p + i) (by omega))
    clear hM hTw
    gi_wp2_with (first | (refine ⟨trivial, ?_⟩; gi_at_call 25; refine (CallsIn.inRound l (callsIn_wide.2 HX.out)).mono ?_))
    rintro e1 W1 ⟨rfl, hb1, ht1⟩
    have HM1 : Hid (Mix W1 g s h (xorF fx (fun i => A.getD (p + i) 0) n) n) := by
      obtain ⟨s0, zs, r⟩ := HM.out.rep
      exact ⟨HM.out.mx.touch ht1 hb1, ⟨s0, zs, r.far ht1 (Ne.symm hne)⟩, HM.out.tab.touch ht1 hg4⟩
    have HT1 : Hid (Tw W W1 g s) := ht1.twG s
    have hbx1 : W1.cell? ⟨w.heap.size, 0, none⟩ = some (.pointer (some ⟨g, 0, none⟩)) := by rw [ht1.far (p := ⟨w.heap.size, 0, none⟩) (by show w.heap.size < W.heap.size; omega) (by show w.heap.size ≠ g; omega)]; exact HBX.out
    have hst1 := HM1.out.mx.2
    clear hb1 ht1 hbx hst HX
    gi_wp2_with (first | (refine ⟨trivial, ?_⟩; gi_at_call 26; refine (CallsIn.inRound l (callsIn_wide.2 (diffuse_ok g s n _ h W1 k HM1 hne hg4 hs4 hn.2))).mono ?_))
    rintro e2 W2 ⟨rfl, hM2, ht2⟩
    have HE : Hid (Mix W2 g s h (diffF h n (xorF fx (fun i => A.getD (p + i) 0) n)) n ∧ Tw W W2 g s) := ⟨hM2, HT1.out.trans ht2⟩
    clear hM2 ht2 hbx1 hst1 HM1
    gi_wp2_with fail
    have e00 := HS0.out
    refine ⟨HE.out.2.keeps HM.out, HE.out.2.boxes (by omega) (by omega) (by omega) (by omega) (by omega) (by omega), ⟨n, hn.2, ?_⟩, HTw.out.trans HE.out.2, ?_, Nat.le_trans hWs HE.out.2.size⟩
    · rw [HF.out]
      exact HE.out.1
    · rw [World.cell?_of_block (w := W) (HE.out.2.block w.heap.size (by omega) (by omega) (by omega))]
      exact HBX.out
  case done =>
    rintro D ys W hD rfl ⟨⟨u', hu', hM⟩, hTw, hbx, hWs⟩ hK
    rw [maskC_eq h n cnt _ f hn.1] at hM
    have HM : Hid (Mix W g s h (maskF h n (fun i => A.getD i 0) cnt f) u') := hM
    have HTw : Hid (Tw w W g s) := hTw
    have hst := hM.mx.2
    have HX : Hid (Calls Tryd.prog 25 #[.pointer (some ⟨g, 0, none⟩), .slice (some ⟨bl, ol, none⟩) n cl] W fun e w' => e = .returned (.tuple #[]) ∧ Buf w' g (xorF (maskF h n (fun i => A.getD i 0) cnt f) z n) n ∧ Touch W w' g 0 1025) := xor_some g n cl bl ol u' _ z W hM.mx.1 hn.2 hbl.1 (fun i hi => by
      have q := hlz.out i hi
      have ql := World.block_lt_of_cell? w _ q
      show W.cell? _ = _
      rw [World.cell?_of_block (w := w) (hTw.block bl (by simpa using ql) hbl.1 hbl.2)]
      exact q)
    have HK : Hid (W.heap[D]? = some (.deferred (some []))) := hK
    clear hM hTw hK
    gi_wp2_with (first | (refine ⟨trivial, ?_⟩; gi_at_call 25; refine (callsIn_wide.2 HX.out).mono ?_))
    rintro e1 W1 ⟨rfl, hb1, ht1⟩
    gi_wp2
    have hKD : W1.heap[D]? = some (.deferred (some [])) := by
      have hlt : D < W.heap.size := (Array.getElem?_eq_some_iff.1 HK.out).1
      rw [ht1.block D hlt (by omega)]
      exact HK.out
    refine ⟨by simp, .inl ⟨_, _, rfl, run_takeDeferred hKD, ?_⟩⟩
    have hDk : ∀ q, q < w.heap.size → (W1.putObj D (.deferred none)).heap[q]? = W1.heap[q]? := fun q hq => World.putObj_heap_other (by omega)
    have hM1 : Mix W1 g s h (xorF (maskF h n (fun i => A.getD i 0) cnt f) z n) n := by
      obtain ⟨s0, zs, r⟩ := HM.out.rep
      exact ⟨HM.out.mx.touch ht1 hb1, ⟨s0, zs, r.far ht1 (Ne.symm hne)⟩, HM.out.tab.touch ht1 hg4⟩
    refine ⟨_, results_none rfl _ _ _, rfl, ?_, ?_⟩
    · exact hM1.kept (hDk g hgw) (hDk s hsw) (fun j hj => hDk j (by omega))
    · exact (HTw.out.trans (ht1.twG s)).later (belowK_b (w := w) (Nat.le_refl _) W1 D _ _ (by omega) hKD rfl rfl)
  case stop =>
    rintro D c pre W _ _ hx _
    exact hx.elim
end Go.Proofs.YtcopkohklgbpgabDoor
namespace Go.Proofs.YtcopkohklgbpgabDoor
open Go.RowKit
set_option linter.unusedVariables false
set_option linter.unusedSimpArgs false
/-- mask, however much lies ahead. -/
theorem mask_ok (g s u n cnt : Nat) (f : Nat → Int) (av lv : Value) (A Z : List Int) (h : Int) (w : World) (k : Known h) (hm : Mix w g s h f u) (hne : g ≠ s) (hg4 : 4 ≤ g) (hs4 : 4 ≤ s) (hu : u ≤ 1024) (hn : 1 ≤ n ∧ n ≤ 1024) (hA : View w av A) (hAl : A.length = cnt * n) (hcn : cnt * n ≤ 140737488355328) (hZ : View w lv Z) (hZl : Z.length = n)
    (ha : A ≠ [] → ∀ b off l c, av = .slice (some ⟨b, off, none⟩) l c → b ≠ g ∧ b ≠ s) (hl : ∀ b off l c, lv = .slice (some ⟨b, off, none⟩) l c → b ≠ g ∧ b ≠ s) :
    Calls Tryd.prog 14 #[.pointer (some ⟨g, 0, none⟩), av, lv] w fun e w' => e = .returned (.tuple #[]) ∧ Mix w' g s h (xorF (maskF h n (fun i => A.getD i 0) cnt f) (fun i => Z.getD i 0) n) n ∧ Tw w w' g s := by
  obtain ⟨la, lc, rfl, z1, z2, z3, z4⟩ := hZ
  rcases z4 with rfl | ⟨bl, ol, rfl, zc⟩
  · simp at hZl; omega
  have hbl := hl bl ol _ _ rfl
  rw [hZl] at zc ⊢
  have hA0 := hA
  obtain ⟨aa, ac, rfl, a1, a2, a3, a4⟩ := hA
  by_cases hc : cnt = 0
  · subst hc
    rw [Nat.zero_mul] at hAl
    rw [hAl]
    exact mask_nil g s u n bl ol lc f _ h w aa ac k hm hne hg4 hs4 hu hn hbl zc
  · rcases a4 with rfl | ⟨ba, oa, rfl, acell⟩
    · have : 0 < cnt * n := Nat.mul_pos (by omega) (by omega)
      simp at hAl; omega
    · rw [hAl] at hA0 ⊢
      exact mask_some g s u n bl ol lc f _ h w ba oa ac cnt A hA0 hAl (ha (fun e => by rw [e] at hAl; have : 0 < cnt * n := Nat.mul_pos (by omega) (by omega); simp at hAl; omega) ba oa _ _ rfl) hcn k hm hne hg4 hs4 hu hn hbl zc
set_option maxHeartbeats 800000 in
set_option maxRecDepth 100000 in
/-- end, deferred. -/
theorem mendD (g s u : Nat) (f : Nat → Int) (h : Int) (w : World) (k : Hid (Known h)) (hm : Hid (Mix w g s h f u)) (hne : g ≠ s) (hg : 4 ≤ g) :
    CallsD Tryd.prog 12 #[.pointer (some ⟨g, 0, none⟩)] .returning w fun e u' w' => u' = .returning ∧ e = .returned (.tuple #[]) ∧ Tw w w' g s := by
  obtain ⟨s0, zs, hr⟩ := hm.out.rep
  have HR : Hid (Rep w s 0 h (wdOf h) s0 0 zs) := hr
  clear hr
  go_enter_d Tryd.func12, Tryd.ntmps12
  go_wp2_with (first | (go_at_call 21; refine (bwipe g u f w hm.out.mx.1).mono ?_))
  rintro e w1 ⟨rfl, hb1, ht1⟩
  have hm1 : Mx w1 g s (fun _ => 0) 0 := hm.out.mx.touch ht1 hb1
  have hc := hm1.2
  have HR1 : Hid (Rep w1 s 0 h (wdOf h) s0 0 zs) := Rep.far HR.out ht1 (Ne.symm hne)
  have HT1 : Hid (Tables w1) := hm.out.tab.touch ht1 (by omega)
  have HW1 : Hid (Touch w w1 g 0 1025) := ht1
  clear hb1 ht1 hm1
  go_wp2_with (first | (go_at_call 22; refine (sreset s h s0 zs w1 k HR1 HT1).mono ?_))
  rintro e w2 ⟨rfl, _, ht2⟩
  go_wp2
  go_end0
  exact ⟨rfl, (HW1.out.twG s).trans (ht2.twS g)⟩
set_option maxHeartbeats 400000 in
theorem may_ok (cnt : Nat) (hc : cnt < 4000) (w : World) : Calls Tryd.prog 23 #[.int .i64 ((cnt : Int) + 1)] w fun e w' => e = .returned (.bool true) ∧ w' = w := by
  have e1 : decide ((1 : Int) ≤ (cnt : Int) + 1) = true := by simp; omega
  have e2 : decide ((cnt : Int) + 1 ≤ 4000) = true := by simp; omega
  go_enter Tryd.func23, Tryd.ntmps23
  go_wp2
  go_ret
  exact ⟨rfl, rfl⟩
set_option maxHeartbeats 400000 in
theorem random_ok (n cnt m : Nat) (hn : 1 ≤ n ∧ n ≤ 1024) (hc : cnt < 4000) (hm : m = n * cnt) (w : World) : Calls Tryd.prog 13 #[.int .i64 (n : Nat), .int .i64 ((cnt : Int) + 1)] w fun e w' => e = .returned (.tuple #[.int .i64 (m : Nat), .int .i64 0]) ∧ w' = w := by
  have e1 : decide ((n : Int) < 1) = false := by simp; omega
  have e2 : decide ((1024 : Int) < (n : Int)) = false := by simp; omega
  have hml : m ≤ 1024 * 4000 := by rw [hm]; exact Nat.mul_le_mul hn.2 (by omega)
  have hm1 : (n : Int) * (cnt : Int) = (m : Int) := by rw [hm]; simp
  have hw : IntKind.i64.wrap (m : Int) = (m : Int) := wrap64_small (by omega) (by omega)
  clear hm hml
  go_enter Tryd.func13, Tryd.ntmps13
  go_wp2_with (first | (go_at_call 23; refine (may_ok cnt hc _).mono ?_; rintro e w1 ⟨rfl, hw1⟩; obtain rfl := hw1.symm))
  go_ret2
  exact ⟨rfl, rfl⟩
/-- Bytes that lie in a block of their own. -/
structure Mat (w : World) (b : Nat) (zs : List Int) : Prop where
  cell : ∀ i, i < zs.length → w.cell? ⟨b, i, none⟩ = some (.int .u8 (zs.getD i 0))
  there : w.there b 0 zs.length
theorem Mat.kept {w v : World} {b : Nat} {zs : List Int} (h : Mat w b zs) (hb : v.heap[b]? = w.heap[b]?) : Mat v b zs :=
  ⟨fun i hi => by rw [World.cell?_of_block (w := w) hb]; exact h.cell i hi, fun j hj => by rw [World.cell?_of_block (w := w) hb, World.frozen?_of_block (w := w) hb]; exact h.there j hj⟩
theorem Mat.view {w : World} {b : Nat} {zs : List Int} (h : Mat w b zs) (hl : zs.length ≤ 1000000000) : View w (.slice (some ⟨b, 0, none⟩) zs.length zs.length) zs :=
  ⟨_, _, rfl, Nat.le_refl _, by unfold maxLen; omega, (fun e => by cases e), .inr ⟨b, 0, rfl, fun i hi => by rw [Nat.zero_add]; exact h.cell i hi⟩⟩
theorem Mat.laid {w : World} {b p : Nat} {zs : List Int} (h : Mat w b zs) (L : List Int) (hp : p + L.length ≤ zs.length) : Mat (w.setCells b p (cellsU8 L)) b (zs.take p ++ L ++ zs.drop (p + L.length)) := by
  have hl := cellsU8_length L
  have hlen : (zs.take p ++ L ++ zs.drop (p + L.length)).length = zs.length := by simp; omega
  refine ⟨fun i hi => ?_, by rw [hlen]; exact World.there_setCells h.there b p _⟩
  rw [hlen] at hi
  by_cases hin : p ≤ i ∧ i < p + L.length
  · have q := World.cell?_setCells_in b (cellsU8 L) p w (fun j hj => by
      have := (h.there (p + j) (by rw [hl] at hj; omega)).1
      rwa [Nat.zero_add] at this) (i - p) (by rw [hl]; omega)
    rw [show p + (i - p) = i by omega] at q
    rw [q]
    have hip : i - min p zs.length = i - p := by omega
    have e : (zs.take p ++ L ++ zs.drop (p + L.length)).getD i 0 = L.getD (i - p) 0 := by
      rw [List.append_assoc, List.getD_eq_getElem?_getD, List.getElem?_append_right (by simp; omega), List.length_take, hip, List.getElem?_append_left (by omega), List.getD_eq_getElem?_getD]
    rw [e]
    simp [cellsU8, List.getD, List.getElem?_eq_getElem (show i - p < L.length by omega)]
  · rw [World.cell?_setCells_out b (cellsU8 L) p w ⟨b, i, none⟩ (fun _ _ => by rw [hl]; show i < p ∨ p + L.length ≤ i; omega), h.cell i hi]
    have e : (zs.take p ++ L ++ zs.drop (p + L.length)).getD i 0 = zs.getD i 0 := by
      rw [List.getD_eq_getElem?_getD, List.getD_eq_getElem?_getD]
      by_cases h1 : i < p
      · rw [List.append_assoc, List.getElem?_append_left (by simp; omega), List.getElem?_take, if_pos h1]
      · rw [List.getElem?_append_right (by simp; omega), List.getElem?_drop]
        congr 2
        simp
        omega
    rw [e]
/-- What Split answers. -/
def splitL (h : Int) (n cnt : Nat) (Z A : List Int) : List Int := A ++ (List.range n).map (xorF (maskF h n (fun i => A.getD i 0) cnt (fun _ => 0)) (fun i => Z.getD i 0) n)
set_option maxHeartbeats 3200000 in
set_option maxRecDepth 100000 in
theorem split_ok (h : Int) (n cnt : Nat) (zv av : Value) (Z A : List Int) (za aa : Option Addr) (zc ac : Nat) (w : World) (k : Hid (Known h)) (hT : Hid (Tables w)) (hn : 1 ≤ n ∧ n ≤ 1024) (hc : cnt < 4000) (hzv : zv = .slice za n zc) (hav : av = .slice aa (n * cnt) ac) (hZ : Hid (View w zv Z)) (hZl : Hid (Z.length = n)) (hA : Hid (View w av A)) (hAl : Hid (A.length = n * cnt)) :
    Calls Tryd.prog 5 #[.int .i64 h, zv, .int .i64 ((cnt : Int) + 1), av] w fun e w' => ∃ b, e = .returned (.tuple #[.slice (some ⟨b, 0, none⟩) (n * cnt + n) (n * cnt + n), .int .i64 0]) ∧ w.heap.size ≤ b ∧ Mat w' b (splitL h n cnt Z A) ∧ Below w.heap.size w w' := by
  obtain ⟨i0, hi, hz0, hz1, hz2⟩ := info_parts Tryd.info5
  obtain ⟨m, hm⟩ : ∃ m, m = n * cnt := ⟨_, rfl⟩
  rw [← hm] at hav hAl ⊢
  obtain ⟨q, hq⟩ : ∃ q, q = m + n := ⟨_, rfl⟩
  rw [← hq]
  have HM : Hid (m = n * cnt) := hm
  have HQ : Hid (q = m + n) := hq
  have hql : q ≤ 8000000 := by have : m ≤ 1024 * 4000 := by rw [hm]; exact Nat.mul_le_mul hn.2 (by omega)
                               omega
  have hmq : m ≤ q := by omega
  have hqi : ((m : Nat) : Int) + ((n : Nat) : Int) = (q : Nat) := by omega
  subst hzv hav
  clear hm hq
  go_enter_defers Tryd.func5, Tryd.ntmps5
  go_wp2_with (first | (go_at_call 11; refine (mbegin h w k hT).mono ?_))
  rintro e1 w1 ⟨g, s, rfl, hMx, hFr, hsg, hsw, hb1⟩
  have hT4 : 4 ≤ w.heap.size := hT.out.size
  have HMix1 : Hid (Mix w1 g s h (fun _ => 0) 0) := ⟨hMx, ⟨firstE h, [], hFr⟩, hT.out.below hb1 hT4⟩
  have HB1 : Hid (Below w.heap.size w w1) := hb1
  clear hMx hFr hb1
  have HRd : Hid (∀ u, Calls Tryd.prog 13 #[.int .i64 (n : Nat), .int .i64 ((cnt : Int) + 1)] u fun e w' => e = .returned (.tuple #[.int .i64 (m : Nat), .int .i64 0]) ∧ w' = u) := fun u => random_ok n cnt m hn hc HM.out u
  go_wp2_with (first
    | (go_at_call 13; refine (HRd.out _).mono ?_; rintro e2 w2 ⟨rfl, hw2⟩; obtain rfl := hw2.symm)
    | (at_make; go_must (refine wpList_make_full _ rfl _ _ 22 rfl w1.heap.size 5 i0 (.int .u8 0) 1 Tryd.underlying22 hi hz0 hz1 .i64 .i64 (q : Nat) (q : Nat) q rfl rfl rfl rfl ?_ ?_ ?_ ?_)))
  · rw [hz2]; omega
  · unfold maxLen; omega
  · exact Nat.le_refl _
  intro w2 hown hgr
  have hB12 : Below w1.heap.size w1 w2 := (Below.refl _ _).grown hgr (Nat.le_refl _) (by intro k hk; cases hk)
  have HMt2 : Hid (Mat w2 w1.heap.size (List.replicate q 0)) := by
    have hl : (List.replicate q (Value.int .u8 0)).length = q := by simp
    refine ⟨fun i hi' => ?_, fun j hj => ⟨?_, hown.frozenAt _⟩⟩
    · simp at hi'
      rw [hown.cellAt i (by omega)]
      simp [hi', List.getD, madeCells, Nat.mod_one]
    · simp at hj
      rw [Nat.zero_add, hown.cellAt j (by omega)]
      simp [hj, madeCells]
  have HMix2 : Hid (Mix w2 g s h (fun _ => 0) 0) := HMix1.out.below hB12
  have HB2 : Hid (Below w.heap.size w w2) := HB1.out.trans (hB12.mono HB1.out.size)
  have hgw1 : g < w1.heap.size := HMix1.out.gt
  have hw12 : w1.heap.size < w2.heap.size := by
    have := World.block_lt_of_cell? w2 _ (HMt2.out.cell 0 (by simp; omega))
    simpa using this
  have hB12' : Hid (Below w1.heap.size w1 w2) := hB12
  clear hown hgr hB12
  have hB12 := hB12'
  clear hB12'
  have hAv2 : View w2 (.slice aa m ac) A := hA.out.kept HB2.out.block
  have hcp := copy_eq w2 w1.heap.size 0 q q aa m ac m A (by omega) hAv2 (fun j hj => HMt2.out.there j (by simp; omega))
  rw [List.take_of_length_le (by have := hAl.out; omega)] at hcp
  obtain ⟨w3, HW3⟩ : ∃ w3, Hid (w3 = w2.setCells w1.heap.size 0 (cellsU8 A)) := ⟨_, rfl⟩
  rw [← HW3.out] at hcp
  have hB23 : Below w1.heap.size w2 w3 := by rw [HW3.out]; exact below_setCells _ (Nat.le_refl _) _ _ _ (Below.refl _ _)
  have HMt3 : Hid (Mat w3 w1.heap.size (A ++ List.replicate n 0)) := by
    have e := HMt2.out.laid (p := 0) A (by have := hAl.out; have := HQ.out; simp; omega)
    rw [← HW3.out] at e
    have e2 : (List.replicate q (0 : Int)).take 0 ++ A ++ (List.replicate q (0 : Int)).drop (0 + A.length) = A ++ List.replicate n 0 := by
      have := hAl.out; have := HQ.out
      rw [List.take_zero, List.nil_append, List.drop_replicate, show q - (0 + A.length) = n by omega]
    rw [e2] at e
    exact e
  have HMix3 : Hid (Mix w3 g s h (fun _ => 0) 0) := HMix2.out.kept (hB23.block g hgw1) (hB23.block s (by omega)) (fun j hj => hB23.block j (by omega))
  have hs1 := HB1.out.size
  have HB3 : Hid (Below w.heap.size w w3) := HB2.out.trans (hB23.mono hs1)
  have hw13 : w1.heap.size < w3.heap.size := Nat.lt_of_lt_of_le hw12 hB23.size
  have far : ∀ (v : Value) (zs : List Int), View w v zs → zs ≠ [] → ∀ b off l c, v = .slice (some ⟨b, off, none⟩) l c → b ≠ g ∧ b ≠ s := by
    intro v zs hv hz b off l c e
    obtain ⟨a, cap, e1, h1, h2, h3, h4⟩ := hv
    rcases h4 with h4 | ⟨b', p', e2, hcc⟩
    · exact absurd h4 hz
    · rw [e] at e1
      injection e1 with e3 _ _
      rw [e2] at e3
      injection e3 with e3
      injection e3 with e4 _
      have := World.block_lt_of_cell? w _ (hcc 0 (by cases zs with | nil => exact absurd rfl hz | cons _ _ => simp))
      simp at this
      omega
  have HMk : Hid (Calls Tryd.prog 14 #[.pointer (some ⟨g, 0, none⟩), .slice aa m ac, .slice za n zc] w3 fun e w' => e = .returned (.tuple #[]) ∧ Mix w' g s h (xorF (maskF h n (fun i => A.getD i 0) cnt (fun _ => 0)) (fun i => Z.getD i 0) n) n ∧ Tw w3 w' g s) := by
    refine mask_ok g s 0 n cnt _ _ _ A Z h w3 k.out HMix3.out (by omega) (by omega) (by omega) (by omega) hn (hA.out.kept HB3.out.block) (by rw [hAl.out, HM.out, Nat.mul_comm]) ?_ (hZ.out.kept HB3.out.block) hZl.out (far _ A hA.out) (far _ Z hZ.out (by rintro rfl; have := hZl.out; simp at this; omega))
    have := HM.out
    rw [Nat.mul_comm]
    omega
  have HTw13 : Hid (Tw w1 w3 g s) := Below.tw (hB12.out.trans hB23) g s
  clear hAv2 hB23 HMt2 HMix2 far
  go_wp2_with (first | (go_at_call 14; refine HMk.out.mono ?_))
  rintro e4 w4 ⟨rfl, hM4, hT4'⟩
  have HMix4 : Hid (Mix w4 g s h (xorF (maskF h n (fun i => A.getD i 0) cnt (fun _ => 0)) (fun i => Z.getD i 0) n) n) := hM4
  have HTw4 : Hid (Tw w3 w4 g s) := hT4'
  have HMt4 : Hid (Mat w4 w1.heap.size (A ++ List.replicate n 0)) := HMt3.out.kept (hT4'.block w1.heap.size hw13 (by omega) (by omega))
  clear hM4 hT4' hcp HMk
  generalize hF : xorF (maskF h n (fun i => A.getD i 0) cnt (fun _ => 0)) (fun i => Z.getD i 0) n = F at HMix4
  have HFF : Hid (splitL h n cnt Z A = A ++ (List.range n).map F) := by show _ = _; rw [splitL, hF]
  clear hF
  have hsl : Hid (∀ u, (Instr.slice 22 (.slice (some ⟨w1.heap.size, 0, none⟩) q q) (some (.int .i64 (m : Nat))) none none).run Tryd.prog u = .ok (.slice (some ⟨w1.heap.size, m, none⟩) n n) u) := fun u => by
    have := HQ.out
    rw [run_slice_l u 22 (some ⟨w1.heap.size, 0, none⟩) q q und22p .i64 m (by omega) (by omega), elem22p, sizeOf5p]
    simp [Result.andThen, sliced, Addr.add, show ¬ q = m by omega, show q - m = n by omega]
    try (intro hh; omega)
  have HT : Hid (∀ v, v = w4.drew → Calls Tryd.prog 15 #[.pointer (some ⟨g, 0, none⟩), .slice (some ⟨w1.heap.size, m, none⟩) n n] v fun e w' => e = .returned (.tuple #[]) ∧ Mat w' w1.heap.size (splitL h n cnt Z A) ∧ Mix w' g s h F n ∧ Tw w1 w' g s) := by
    rintro v rfl
    have hbv : Below w4.heap.size w4 w4.drew := (Below.refl _ _).drew
    have htr : (A ++ List.replicate n (0 : Int)).length = q := by have := hAl.out; have := HQ.out; simp; omega
    refine (tell_ok g n w1.heap.size m n n F w4.drew (HMix4.out.below hbv).mx.1 hn.2 (Nat.le_refl _) (fun j hj => by
      have := HQ.out
      have q1 := HMt4.out.there (m + j) (by rw [htr]; omega)
      rwa [Nat.zero_add] at q1)).mono ?_
    rintro e w' ⟨rfl, d, rfl⟩
    have hbd : Below w4.heap.size w4 (w4.drew.drewN d) := ⟨rfl, rfl, rfl, Nat.le_refl _, fun _ _ => rfl⟩
    have hw34 := HTw4.out.size
    have hgs : ∀ i, i < w4.heap.size → i ≠ w1.heap.size → ((w4.drew.drewN d).setCells w1.heap.size m (cellsU8 ((List.range n).map F))).heap[i]? = w4.heap[i]? := fun i hi' hne' => World.heap_setCells_other _ _ m _ hi' hne'
    refine ⟨rfl, ?_, HMix4.out.kept (hgs g (by omega) (by omega)) (hgs s (by omega) (by omega)) (fun j hj => hgs j (by omega) (by omega)), ((HTw13.out.trans HTw4.out).below hbd).setNew (Nat.le_refl _) m _⟩
    have e2 := (HMt4.out.kept (v := w4.drew.drewN d) rfl).laid (p := m) ((List.range n).map F) (by have := HQ.out; rw [htr]; simp; omega)
    rw [HFF.out]
    have e3 : (A ++ List.replicate n (0 : Int)).take m ++ (List.range n).map F ++ (A ++ List.replicate n (0 : Int)).drop (m + ((List.range n).map F).length) = A ++ (List.range n).map F := by
      rw [List.take_left' hAl.out, List.drop_of_length_le (by rw [htr]; have := HQ.out; simp; omega), List.append_nil]
    rw [e3] at e2
    exact e2
  go_upto_region 13 with fail
  refine wp_region_noPanic ?_
  refine wp_region_held_drew (S := fun _ => True) (by kernel_rfl) (trivial) (fun _ => ?_)
  refine takeH_at 0 49 (.pointer (some ⟨g, 0, none⟩)) rfl rfl (by kernel_rfl) (by kernel_rfl) (by kernel_rfl) (fun _ _ _ h => h) trivial (Or.inl ⟨by kernel_rfl, fun w' hS' => by go_simp⟩) ?_
  simp only [List.setIfInBounds_toArray, List.set_cons_zero, List.set_cons_succ]
  refine takeH_at 1 50 (.pointer (some ⟨g, 0, none⟩)) rfl rfl (by kernel_rfl) (by kernel_rfl) (by kernel_rfl) (fun _ _ _ h => h) trivial (Or.inl ⟨by kernel_rfl, fun w' hS' => by go_simp⟩) ?_
  simp only [List.setIfInBounds_toArray, List.set_cons_zero, List.set_cons_succ]
  refine takeH_at 2 51 (.pointer (some ⟨g, 0, none⟩)) rfl rfl (by kernel_rfl) (by kernel_rfl) (by kernel_rfl) (fun _ _ _ h => h) trivial (Or.inl ⟨by kernel_rfl, fun w' hS' => by go_simp⟩) ?_
  simp only [List.setIfInBounds_toArray, List.set_cons_zero, List.set_cons_succ]
  refine takeH_at 3 52 (.slice (some ⟨w1.heap.size, 0, none⟩) q q) rfl rfl (by kernel_rfl) (by kernel_rfl) (by kernel_rfl) (fun _ _ _ h => h) trivial (Or.inl ⟨by kernel_rfl, fun w' hS' => by go_simp⟩) ?_
  simp only [List.setIfInBounds_toArray, List.set_cons_zero, List.set_cons_succ]
  refine takeH_at 4 53 (.int .i64 (m : Nat)) rfl rfl (by kernel_rfl) (by kernel_rfl) (by kernel_rfl) (fun _ _ _ h => h) trivial (Or.inl ⟨by kernel_rfl, fun w' hS' => by go_simp⟩) ?_
  simp only [List.setIfInBounds_toArray, List.set_cons_zero, List.set_cons_succ]
  refine takeH_at 5 54 (.slice (some ⟨w1.heap.size, m, none⟩) n n) rfl rfl (by kernel_rfl) (by kernel_rfl) (by kernel_rfl) (fun _ _ _ h => h) trivial (Or.inl ⟨by kernel_rfl, fun w' hS' => by have q1 := hsl.out w'; go_simp⟩) ?_
  simp only [List.setIfInBounds_toArray, List.set_cons_zero, List.set_cons_succ]
  refine wpAnyH_ready (rs := [6]) (by kernel_rfl) (by simp) ?_
  refine AllReadyH.cons rfl (fun K hK => ?_) AllReadyH.nil
  go_simp
  refine (HT.out _ rfl).mono ?_
  rintro e5 w5 ⟨rfl, hMt5, hMix5, hTw5⟩
  go_wp2_with fail
  refine hK.out _ _ trivial (fun _ => ?_)
  clear hK K
  try simp only [List.setIfInBounds_toArray, List.set_cons_zero, List.set_cons_succ]
  refine wpAnyH_done (by kernel_rfl) ?_ _
  refine NoPanic.normal ?_
  go_wp2_with fail
  refine leaves_cons (f := 12) (args := #[.pointer (some ⟨g, 0, none⟩)]) (by simp) (by simp [go_sem]) ?_
  refine (mendD g s n F h w5 k hMix5 (by omega) (by omega)).mono ?_
  rintro e6 u6 w6 ⟨rfl, rfl, hT6⟩
  have hw5 : w1.heap.size < w5.heap.size := by
    have := World.block_lt_of_cell? w5 _ (hMt5.cell 0 (by rw [HFF.out]; simp; omega))
    simpa using this
  have hfin : w.heap.size ≤ w1.heap.size ∧ Mat w6 w1.heap.size (splitL h n cnt Z A) ∧ Below w.heap.size w w6 := by
    refine ⟨hs1, hMt5.kept (hT6.block w1.heap.size hw5 (by omega) (by omega)), HB1.out.trans ?_⟩
    exact (hTw5.trans hT6).toBelow (by omega) (by omega) hs1
  refine ⟨_, results_tmp2 rfl _ _ _, w1.heap.size, rfl, hfin⟩
/-- What Merge answers. -/
def mergeL (h : Int) (n cnt : Nat) (M : List Int) : List Int := (List.range n).map (xorF (maskF h n (fun i => (M.take (n * cnt)).getD i 0) cnt (fun _ => 0)) (fun i => (M.drop (n * cnt)).getD i 0) n)
end Go.Proofs.YtcopkohklgbpgabDoor
namespace Go.Proofs.YtcopkohklgbpgabDoor
open Go.RowKit
set_option linter.unusedVariables false
set_option linter.unusedSimpArgs false
theorem num_ok (e : Int) (w : World) : Calls Tryd.prog 7 #[.int .i64 e] w fun r w' => r = .returned (.int .i64 e) ∧ w' = w := by
  go_enter Tryd.func7, Tryd.ntmps7
  go_wp2
  go_ret
  exact ⟨rfl, rfl⟩
/-- Bytes. -/
theorem xor_zero_l {z : Int} (h0 : 0 ≤ z) (h1 : z < 256) : bits .xor .u8 0 z = z := by
  rw [u8_xor 0 z (by omega) (by omega) h0 h1]
  simp
  omega
theorem xor_self2 {a z : Int} (a0 : 0 ≤ a) (a1 : a < 256) (h0 : 0 ≤ z) (h1 : z < 256) : bits .xor .u8 a (bits .xor .u8 a z) = z := by
  rw [u8_xor a z a0 a1 h0 h1]
  have hx : a.toNat ^^^ z.toNat < 2 ^ 8 := Nat.xor_lt_two_pow (by omega) (by omega)
  rw [u8_xor a _ a0 a1 (by omega) (by omega), Int.toNat_natCast, ← Nat.xor_assoc, Nat.xor_self, Nat.zero_xor]
  omega
theorem xor_byte {a z : Int} (a0 : 0 ≤ a) (a1 : a < 256) (h0 : 0 ≤ z) (h1 : z < 256) : 0 ≤ bits .xor .u8 a z ∧ bits .xor .u8 a z < 256 := by
  rw [u8_xor a z a0 a1 h0 h1]
  have hx : a.toNat ^^^ z.toNat < 2 ^ 8 := Nat.xor_lt_two_pow (by omega) (by omega)
  omega
theorem map_getD (n : Nat) (Z : List Int) (hl : Z.length = n) (F : Nat → Int) (hF : ∀ i, i < n → F i = Z.getD i 0) : (List.range n).map F = Z := by
  apply List.ext_getElem (by simp [hl])
  intro i h1 h2
  have := hF i (by omega)
  simpa [List.getD, List.getElem?_eq_getElem h2] using this
theorem splitL_one (h : Int) (n : Nat) (Z : List Int) (hl : Z.length = n) (hb : AllBytes Z) : splitL h n 0 Z [] = Z := by
  show [] ++ (List.range n).map (xorF (fun _ => 0) (fun i => Z.getD i 0) n) = Z
  rw [List.nil_append]
  refine map_getD n Z hl _ (fun i hi => ?_)
  rw [xorF, if_pos hi]
  exact xor_zero_l (hb i).1 (hb i).2
theorem mergeL_one (h : Int) (n : Nat) (Z : List Int) (hl : Z.length = n) (hb : AllBytes Z) : mergeL h n 0 Z = Z := by
  show (List.range n).map (xorF (fun _ => 0) (fun i => Z.getD i 0) n) = Z
  refine map_getD n Z hl _ (fun i hi => ?_)
  rw [xorF, if_pos hi]
  exact xor_zero_l (hb i).1 (hb i).2
theorem split_one (h : Int) (n : Nat) (za : Option Addr) (zc : Nat) (Z : List Int) (w : World) (k : Known h) (hT : Tables w) (hn : 1 ≤ n ∧ n ≤ 1024) (hZ : View w (.slice za n zc) Z) (hZl : Z.length = n) (hb : AllBytes Z) :
    Calls Tryd.prog 5 #[.int .i64 h, .slice za n zc, .int .i64 1, .slice none 0 0] w fun e w' => ∃ b, e = .returned (.tuple #[.slice (some ⟨b, 0, none⟩) n n, .int .i64 0]) ∧ w.heap.size ≤ b ∧ Mat w' b Z ∧ Below w.heap.size w w' := by
  have q := split_ok h n 0 _ _ Z [] za none zc 0 w k hT hn (by omega) rfl rfl hZ hZl (show View w (.slice none (n * 0) 0) [] from ⟨none, 0, rfl, by simp, by simp [maxLen], fun _ => rfl, .inl rfl⟩) (show ([] : List Int).length = n * 0 from rfl)
  rw [splitL_one h n Z hZl hb] at q
  simpa using q
end Go.Proofs.YtcopkohklgbpgabDoor
namespace Go.Proofs.YtcopkohklgbpgabDoor
open Go.RowKit

set_option maxHeartbeats 400000 in
set_option maxRecDepth 100000 in
theorem new_bad (h : Int) (w : World) (h1 : (h == 224) = false) (h2 : (h == 256) = false) (h3 : (h == 384) = false) (h4 : (h == 512) = false) :
    Calls Tryd.prog 20 #[.int .i64 h] w fun e w' => e = .returned (.tuple #[.pointer none, .int .i64 10]) ∧ Below w.heap.size w w' := by
  go_enter Tryd.func20, Tryd.ntmps20
  go_wp2_with fail
  refine (begin_bad h _ h1 h2 h3 h4).mono ?_
  rintro e w1 ⟨rfl, hb⟩
  have HT : Hid ((w1.alloc (.cells Tryd.zeroCells68 68)).there w1.heap.size 0 139) := there_new w1 Tryd.zeroCells68 68 139 (by rw [cells71z, size71z]; exact Nat.le_refl _)
  have HB : Hid (Below w.heap.size w w1) := hb
  clear hb
  go_wp2_with (first
    | (refine wpList_store_mid (by rfl) 68 (.tmp 4) (.tmp 9) (by rfl) w1.heap.size 0 tkZero.toArray (by rfl) (by rfl) (by rw [size71z]; exact HT.out) (by rw [size71z]; exact size71) tkZero_one ?_)
    | fail)
  go_ret2
  exact ⟨rfl, below_setCells _ HB.out.size _ _ _ (HB.out.alloc HB.out.size _)⟩

end Go.Proofs.YtcopkohklgbpgabDoor
namespace Go.Proofs.YtcopkohklgbpgabDoor
open Go.RowKit

theorem grown_trans {w w1 w2 : World} {g g' : Option Nat} (h1 : w.grownBy w1 g) (h2 : w1.grownBy w2 g') (hg : ∀ k, k < w.heap.size → some k ≠ g → some k ≠ g') : w.grownBy w2 g :=
  ⟨h2.os.trans h1.os, h2.tape.trans h1.tape, h2.output.trans h1.output, Nat.le_trans h1.size h2.size, fun k hk hne => (h2.block k (Nat.lt_of_lt_of_le hk h1.size) (hg k hk hne)).trans (h1.block k hk hne)⟩
theorem grown_refl (w : World) (g : Option Nat) : w.grownBy w g := ⟨rfl, rfl, rfl, Nat.le_refl _, fun _ _ _ => rfl⟩

set_option maxHeartbeats 1600000 in
set_option maxRecDepth 100000 in
theorem spoil_some (B n g cap : Nat) (zs : List Int) (w : World) (hn : n ≤ 200000) (hB : B ≤ w.heap.size)
    (hown : w.ownsRow B 5 1 (.slice (some ⟨g, 0, none⟩) n cap) n (cellsU8 zs)) :
    Calls Tryd.prog 10 #[.slice (some ⟨g, 0, none⟩) n cap] w fun e w' => e = .returned (.tuple #[]) ∧ w.grownBy w' (some g) := by
  obtain ⟨i0, hi, hz0, hz1, hz2⟩ := info_parts Tryd.info5
  go_enter Tryd.func10, Tryd.ntmps10
  go_wp2
  go_loopw [2] (fun i wr => ∃ k : Nat, k ≤ n ∧ i = .int .i64 k ∧ (∃ ys : List Int, wr.ownsRow B 5 1 (.slice (some ⟨g, 0, none⟩) n cap) n (cellsU8 ys)) ∧ Hid (w.grownBy wr (some g))) (fun i _ => n - (intOf i).toNat)
  case atStart => exact ⟨0, by omega, rfl, ⟨zs, hown⟩, grown_refl _ _⟩
  case round =>
    obtain ⟨k, hk, rfl, ⟨ys, hown2⟩, HG⟩ := hrel
    have hyl : ys.length = n := by have := hown2.1; rw [cellsU8_length] at this; omega
    clear hown
    by_cases hlt : k < n
    · obtain ⟨y, hy⟩ : ∃ y, ys[k]? = some y := ⟨ys[k], List.getElem?_eq_getElem (by omega)⟩
      have hcell : wr.cell? ⟨g, k, none⟩ = some (.int .u8 y) := by
        rw [hown2.cellAt k (by omega), cellsU8, List.getElem?_map, hy]
        rfl
      have hfr : wr.frozen? ⟨g, k, none⟩ = false := hown2.frozenAt k
      have HO : Hid (wr.ownsRow B 5 1 (.slice (some ⟨g, 0, none⟩) n cap) n (cellsU8 ys)) := hown2
      clear hown2 hy hyl
      go_wp2
      have hst := HO.out.stored k (.int .u8 (bits .xor .u8 y 165))
      have HO3 : Hid ((wr.setCell ⟨g, k, none⟩ (.int .u8 (bits .xor .u8 y 165))).ownsRow B 5 1 (.slice (some ⟨g, 0, none⟩) n cap) n (cellsU8 (ys.set k (bits .xor .u8 y 165)))) := by
        rw [cellsU8, List.map_set]
        exact hst.1
      have HG3 : Hid (w.grownBy (wr.setCell ⟨g, k, none⟩ (.int .u8 (bits .xor .u8 y 165))) (some g)) := grown_trans HG.out hst.2 (fun _ _ h => h)
      clear hst HO HG
      go_roundw
      case rel => exact ⟨k + 1, by omega, by go_num, ⟨_, HO3⟩, HG3⟩
      case measure => simp [intOf]; omega
    · obtain rfl : k = n := by omega
      go_wp2_with (first | (at_builtin; go_must (refine wpList_append_lies _ rfl (.tmp 18) (.tmp 19) 22 rfl B 5 i0 (.int .u8 0) 1 1 Tryd.underlying22 hi hz0 hz1 hz2 rfl (by decide) _ _ _ rfl (hown2.alloc _) ⟨wr.heap.size, 0, none⟩ 1 1 (cellsU8 [1]) rfl rfl (World.news_of_block (heap_alloc_new wr _)) (cellsU8_one _) (by decide) (by unfold maxLen; omega) (by omega) (by have := HG.out.size; simp; omega) (wr.heap.size + 1) (by simp) ?_)))
      intro g1 cp1 w1 own1 hgr1 hat1 hlt1
      have HG1 : Hid (w.grownBy w1 (some g)) := grown_trans (grown_trans HG.out (World.grownBy_alloc wr _ none) (fun _ _ _ => by simp)) hgr1 (fun q _ hq => hq)
      have HA1 : Hid (g1 = g ∨ w.heap.size ≤ g1) := by
        rcases hat1 with h | h
        · left
          simpa [Value.ownBlock] using h.symm
        · right
          have := HG.out.size
          omega
      have HO1 : Hid (w1.ownsRow B 5 1 (.slice (some ⟨g1, 0, none⟩) (k + 1) cp1) (k + 1) (cellsU8 (ys ++ [1]))) := by
        rw [cellsU8_append]
        exact own1
      clear own1 hgr1 hat1 hlt1 hown2 HG hyl hk hlt
      go_wp2
      go_loopw [0, 3] (fun l i wr => ∃ j : Nat, j ≤ 70 ∧ i = .int .i64 j ∧ Hid (w.grownBy wr (some g)) ∧ ∃ g2 c2 ys2, l = .slice (some ⟨g2, 0, none⟩) (k + 1 + j) c2 ∧ wr.ownsRow B 5 1 (.slice (some ⟨g2, 0, none⟩) (k + 1 + j) c2) (k + 1 + j) (cellsU8 ys2) ∧ Hid (g2 = g ∨ w.heap.size ≤ g2)) (fun _ i _ => 70 - (intOf i).toNat)
      case atStart => exact ⟨0, by omega, rfl, HG1, g1, cp1, _, rfl, HO1, HA1⟩
      case round =>
        obtain ⟨j, hj, rfl, HG2, g2, c2, ys2, rfl, own2, HA2⟩ := hrel
        clear HG1 HA1 HO1
        by_cases hlt : j < 70
        · go_wp2_with (first | (at_builtin; go_must (refine wpList_append_lies _ rfl (.tmp 25) (.tmp 30) 22 rfl B 5 i0 (.int .u8 0) 1 1 Tryd.underlying22 hi hz0 hz1 hz2 rfl (by decide) _ _ _ rfl (own2.alloc _) ⟨wr.heap.size, 0, none⟩ 1 1 (cellsU8 [IntKind.u8.wrap (7 * (j : Int) + 3)]) rfl rfl (World.news_of_block (heap_alloc_new wr _)) (cellsU8_one _) (by decide) (by unfold maxLen; omega) (by omega) (by have := HG2.out.size; simp; omega) (wr.heap.size + 1) (by simp) ?_)))
          intro g3 cp3 w3 own3 hgr3 hat3 hlt3
          have HG3 : Hid (w.grownBy w3 (some g)) := grown_trans (grown_trans HG2.out (World.grownBy_alloc wr _ none) (fun _ _ _ => by simp)) hgr3 (fun q hq hne => by
            intro h
            simp only [Value.ownBlock, Option.some.injEq] at h
            rcases HA2.out with e | e
            · exact hne (by rw [h, e])
            · omega)
          have HA3 : Hid (g3 = g ∨ w.heap.size ≤ g3) := by
            rcases hat3 with h | h
            · simp only [Value.ownBlock, Option.some.injEq] at h
              rw [← h]
              exact HA2
            · right
              have := HG2.out.size
              omega
          have HO3 : Hid (w3.ownsRow B 5 1 (.slice (some ⟨g3, 0, none⟩) (k + 1 + (j + 1)) cp3) (k + 1 + (j + 1)) (cellsU8 (ys2 ++ [IntKind.u8.wrap (7 * (j : Int) + 3)]))) := by
            rw [cellsU8_append]
            exact own3
          clear own3 hgr3 hat3 hlt3 own2 HG2 HA2
          go_wp2
          go_roundw
          case rel => exact ⟨j + 1, by omega, by go_num, HG3, g3, cp3, _, rfl, HO3, HA3⟩
          case measure => simp [intOf]; omega
        · obtain rfl : j = 70 := by omega
          have hcell : wr.cell? ⟨g2, k + 70, none⟩ = some (.int .u8 (ys2.getD (k + 70) 0)) := by
            have hl2 : ys2.length = k + 1 + 70 := by have := own2.1; rw [cellsU8_length] at this; omega
            rw [own2.cellAt (k + 70) (by omega), cellsU8, List.getElem?_map, List.getElem?_eq_getElem (show k + 70 < ys2.length by omega)]
            simp [List.getD, List.getElem?_eq_getElem (show k + 70 < ys2.length by omega)]
          have hfr : wr.frozen? ⟨g2, k + 70, none⟩ = false := own2.frozenAt _
          have HO : Hid (wr.ownsRow B 5 1 (.slice (some ⟨g2, 0, none⟩) (k + 1 + 70) c2) (k + 1 + 70) (cellsU8 ys2)) := own2
          clear own2 hlt
          go_wp2
          go_end0
          have hst := HO.out.stored (k + 70) (.int .u8 77)
          refine ⟨rfl, grown_trans HG2.out hst.2 (fun q hq hne => ?_)⟩
          intro h
          simp only [Option.some.injEq] at h
          rcases HA2.out with e | e
          · exact hne (by rw [h, e])
          · omega
end Go.Proofs.YtcopkohklgbpgabDoor
namespace Go.Proofs.YtcopkohklgbpgabDoor
open Go.RowKit

set_option maxHeartbeats 1600000 in
set_option maxRecDepth 100000 in
theorem spoil_nil (w : World) :
    Calls Tryd.prog 10 #[.slice none 0 0] w fun e w' => e = .returned (.tuple #[]) ∧ w.grownBy w' none := by
  obtain ⟨i0, hi, hz0, hz1, hz2⟩ := info_parts Tryd.info5
  have hown : w.ownsRow w.heap.size 5 1 (.slice none 0 0) 0 (cellsU8 []) := ⟨rfl, .inl ⟨rfl, rfl⟩⟩
  go_enter Tryd.func10, Tryd.ntmps10
  go_wp2
  go_loop [2] (fun i => i = .int .i64 0) (fun _ => 0)
  case atStart => exact rfl
  case round =>
    obtain rfl := hrel
    go_wp2_with (first | (at_builtin; go_must (refine wpList_append_lies _ rfl (.tmp 18) (.tmp 19) 22 rfl w.heap.size 5 i0 (.int .u8 0) 1 1 Tryd.underlying22 hi hz0 hz1 hz2 rfl (by decide) _ _ _ rfl (hown.alloc _) ⟨w.heap.size, 0, none⟩ 1 1 (cellsU8 [1]) rfl rfl (World.news_of_block (heap_alloc_new w _)) (cellsU8_one _) (by decide) (by unfold maxLen; omega) (by omega) (by simp) (w.heap.size + 1) (by simp) ?_)))
    intro g1 cp1 w1 own1 hgr1 hat1 hlt1
    have HG1 : Hid (w.grownBy w1 none) := grown_trans (World.grownBy_alloc w _ none) hgr1 (fun q _ hq => hq)
    have HA1 : Hid (w.heap.size ≤ g1) := by
      rcases hat1 with h | h
      · simp [Value.ownBlock] at h
      · exact (by omega : w.heap.size ≤ g1)
    have HO1 : Hid (w1.ownsRow w.heap.size 5 1 (.slice (some ⟨g1, 0, none⟩) 1 cp1) 1 (cellsU8 [1])) := own1
    clear own1 hgr1 hat1 hlt1 hown
    go_wp2
    go_loopw [0, 3] (fun l i wr => ∃ j : Nat, j ≤ 70 ∧ i = .int .i64 j ∧ Hid (w.grownBy wr none) ∧ ∃ g2 c2 ys2, l = .slice (some ⟨g2, 0, none⟩) (1 + j) c2 ∧ wr.ownsRow w.heap.size 5 1 (.slice (some ⟨g2, 0, none⟩) (1 + j) c2) (1 + j) (cellsU8 ys2) ∧ Hid (w.heap.size ≤ g2)) (fun _ i _ => 70 - (intOf i).toNat)
    case atStart => exact ⟨0, by omega, rfl, HG1, g1, cp1, _, rfl, HO1, HA1⟩
    case round =>
      obtain ⟨j, hj, rfl, HG2, g2, c2, ys2, rfl, own2, HA2⟩ := hrel
      clear HG1 HA1 HO1
      by_cases hlt : j < 70
      · go_wp2_with (first | (at_builtin; go_must (refine wpList_append_lies _ rfl (.tmp 25) (.tmp 30) 22 rfl w.heap.size 5 i0 (.int .u8 0) 1 1 Tryd.underlying22 hi hz0 hz1 hz2 rfl (by decide) _ _ _ rfl (own2.alloc _) ⟨wr.heap.size, 0, none⟩ 1 1 (cellsU8 [IntKind.u8.wrap (7 * (j : Int) + 3)]) rfl rfl (World.news_of_block (heap_alloc_new wr _)) (cellsU8_one _) (by decide) (by unfold maxLen; omega) (by omega) (by have := HG2.out.size; simp; omega) (wr.heap.size + 1) (by simp) ?_)))
        intro g3 cp3 w3 own3 hgr3 hat3 hlt3
        have HG3 : Hid (w.grownBy w3 none) := grown_trans (grown_trans HG2.out (World.grownBy_alloc wr _ none) (fun _ _ _ => by simp)) hgr3 (fun q hq hne => by
          intro h
          simp only [Value.ownBlock, Option.some.injEq] at h
          have := HA2.out
          omega)
        have HA3 : Hid (w.heap.size ≤ g3) := by
          rcases hat3 with h | h
          · simp only [Value.ownBlock, Option.some.injEq] at h
            rw [← h]
            exact HA2
          · have := HG2.out.size
            exact (by omega : w.heap.size ≤ g3)
        have HO3 : Hid (w3.ownsRow w.heap.size 5 1 (.slice (some ⟨g3, 0, none⟩) (1 + (j + 1)) cp3) (1 + (j + 1)) (cellsU8 (ys2 ++ [IntKind.u8.wrap (7 * (j : Int) + 3)]))) := by
          rw [cellsU8_append]
          exact own3
        clear own3 hgr3 hat3 hlt3 own2 HG2 HA2
        go_wp2
        go_roundw
        case rel => exact ⟨j + 1, by omega, by go_num, HG3, g3, cp3, _, rfl, HO3, HA3⟩
        case measure => simp [intOf]; omega
      · obtain rfl : j = 70 := by omega
        have hcell : wr.cell? ⟨g2, 70, none⟩ = some (.int .u8 (ys2.getD 70 0)) := by
          have hl2 : ys2.length = 1 + 70 := by have := own2.1; rw [cellsU8_length] at this; omega
          rw [own2.cellAt 70 (by omega), cellsU8, List.getElem?_map, List.getElem?_eq_getElem (show 70 < ys2.length by omega)]
          simp [List.getD, List.getElem?_eq_getElem (show 70 < ys2.length by omega)]
        have hfr : wr.frozen? ⟨g2, 70, none⟩ = false := own2.frozenAt _
        have HO : Hid (wr.ownsRow w.heap.size 5 1 (.slice (some ⟨g2, 0, none⟩) (1 + 70) c2) (1 + 70) (cellsU8 ys2)) := own2
        clear own2 hlt
        go_wp2
        go_end0
        have hst := HO.out.stored 70 (.int .u8 77)
        refine ⟨rfl, grown_trans HG2.out hst.2 (fun q hq hne => ?_)⟩
        intro h
        simp only [Option.some.injEq] at h
        have := HA2.out
        omega

/-- cofferbook.SpoilBytes of a row that is owned: nothing else of what was there changes. -/
theorem spoil_any (B n : Nat) (v : Value) (zs : List Int) (w : World) (hn : n ≤ 200000) (hB : B ≤ w.heap.size) (hown : w.ownsRow B 5 1 v n (cellsU8 zs)) :
    Calls Tryd.prog 10 #[v] w fun e w' => e = .returned (.tuple #[]) ∧ w.grownBy w' v.ownBlock := by
  rcases hown.2 with ⟨rfl, rfl⟩ | ⟨g, c, cur, rfl, _⟩
  · exact spoil_nil w
  · exact spoil_some B n g c zs w hn hB hown
end Go.Proofs.YtcopkohklgbpgabDoor
namespace Go.Proofs.YtcopkohklgbpgabDoor
open Go.RowKit
set_option linter.unusedVariables false
theorem cell_other2 (w : World) (g i j : Nat) (v : Value) (h : i ≠ j) : (w.setCell ⟨g, i, none⟩ v).cell? ⟨g, j, none⟩ = w.cell? ⟨g, j, none⟩ :=
  World.cell?_setCell_other w ⟨g, i, none⟩ ⟨g, j, none⟩ v (fun e => h (by cases e; rfl))
theorem ownsRow_base {w : World} {b b' e size n : Nat} {v : Value} {xs : List Value} (h : w.ownsRow b e size v n xs) (hb : b' ≤ b) : w.ownsRow b' e size v n xs := by
  obtain ⟨h1, h2 | ⟨g, c, cur, q1, q2, q3⟩⟩ := h
  · exact ⟨h1, Or.inl h2⟩
  · exact ⟨h1, Or.inr ⟨g, c, cur, q1, Nat.le_trans hb q2, q3⟩⟩
theorem Touch.grown {w w' : World} {g o n : Nat} (h : Touch w w' g o n) : w.grownBy w' (some g) := ⟨h.os, h.tape, h.output, h.size, fun k hk hne => h.block k hk (fun e => hne (by rw [e]))⟩
set_option maxHeartbeats 1600000 in
set_option maxRecDepth 100000 in
/-- A list without spare room. -/
theorem spoil_full (n g : Nat) (ys : Nat → Int) (w : World) (hn : n ≤ 200000) (hg : g < w.heap.size) (hc : ∀ j, j < n → w.cell? ⟨g, j, none⟩ = some (.int .u8 (ys j))) (hr : w.there g 0 n) :
    Calls Tryd.prog 10 #[.slice (some ⟨g, 0, none⟩) n n] w fun e w' => e = .returned (.tuple #[]) ∧ w.grownBy w' (some g) := by
  obtain ⟨i0, hi, hz0, hz1, hz2⟩ := info_parts Tryd.info5
  have HR : Hid (w.there g 0 n) := hr
  have HC : Hid (∀ j, j < n → w.cell? ⟨g, j, none⟩ = some (.int .u8 (ys j))) := hc
  clear hr hc
  go_enter Tryd.func10, Tryd.ntmps10
  go_wp2
  go_loopw [2] (fun i wr => ∃ k : Nat, k ≤ n ∧ i = .int .i64 k ∧ Hid (Touch w wr g 0 n ∧ ∃ zs : Nat → Int, ∀ j, j < n → wr.cell? ⟨g, j, none⟩ = some (.int .u8 (zs j)))) (fun i _ => n - (intOf i).toNat)
  case atStart => exact ⟨0, by omega, rfl, Touch.refl _ _ _ _, ys, HC.out⟩
  case round =>
    obtain ⟨k, hk, rfl, HT⟩ := hrel
    by_cases hlt : k < n
    · obtain ⟨ht, zs, hz⟩ := HT.out
      have hcell := hz k hlt
      have hfr : wr.frozen? ⟨g, k, none⟩ = false := by have := (ht.there _ _ HR.out k hlt).2; rwa [Nat.zero_add] at this
      have HT2 : Hid (Touch w wr g 0 n ∧ ∀ j, j < n → wr.cell? ⟨g, j, none⟩ = some (.int .u8 (zs j))) := ⟨ht, hz⟩
      clear hz ht HT
      go_wp2
      refine ⟨⟨k + 1, by omega, rfl, HT2.out.1.setCell k _ (by omega) (by omega), fun j => if j = k then bits .xor .u8 (zs k) 165 else zs j, fun j hj => ?_⟩, ?_⟩
      · by_cases hjk : j = k
        · subst hjk
          simp only [if_pos]
          exact World.cell?_setCell_same' _ _ _ (by rw [hcell]; rfl)
        · simp only [if_neg hjk]
          rw [cell_other2 _ _ _ _ _ (Ne.symm hjk)]
          exact HT2.out.2 j hj
      · simp only [intOf]; omega
    · obtain rfl : k = n := by omega
      obtain ⟨ht, zs, hz⟩ := HT.out
      obtain ⟨OL, HOL⟩ : ∃ OL, Hid (OL = (List.range k).map fun j => Value.int .u8 (zs j)) := ⟨_, rfl⟩
      have HG : Hid (w.grownBy wr (some g)) := ht.grown
      have hgw : g < wr.heap.size := Nat.lt_of_lt_of_le hg ht.size
      go_wp2_with (first | (at_builtin; go_must (refine wpList_append_grows _ rfl (.tmp 18) (.tmp 19) 22 rfl 5 i0 (.int .u8 0) 1 1 Tryd.underlying22 hi hz0 hz1 hz2 rfl (by decide) _ k k OL rfl (fun h => by cases h) ?_ ?_ ⟨wr.heap.size, 0, none⟩ 1 1 (cellsU8 [1]) rfl rfl (World.news_of_block (heap_alloc_new wr _)) (cellsU8_one _) (by omega) (by unfold maxLen; omega) (by omega) ?_)))
      · rw [HOL.out]; simp
      · intro b hb j u hu
        cases hb
        rw [HOL.out] at hu
        have hj : j < k := by have := (List.getElem?_eq_some_iff.1 hu).1; simpa using this
        rw [List.getElem?_map, List.getElem?_range hj] at hu
        cases hu
        rw [Addr.add_lit, World.cell?_alloc_past _ _ _ hgw, Nat.zero_add]
        exact hz j hj
      intro v1 w1 own1 hgr1
      have hlen : ∃ g1 cp1, v1 = .slice (some ⟨g1, 0, none⟩) (k + 1) cp1 ∧ Hid (w.heap.size ≤ g1 ∧ w1.ownsRow w.heap.size 5 1 (.slice (some ⟨g1, 0, none⟩) (k + 1) cp1) (k + 1) (cellsU8 ((List.range k).map zs ++ [1]))) := by
        have hsz := ht.size
        have hb : w.heap.size ≤ wr.heap.size + 1 := by omega
        have own2 := ownsRow_base own1 hb
        rcases own1.2 with ⟨_, h0⟩ | ⟨g1, cp1, cur, rfl, q2, _⟩
        · omega
        · refine ⟨g1, cp1, rfl, by omega, ?_⟩
          have e1 : cellsU8 ((List.range k).map zs ++ [1]) = OL ++ cellsU8 [1] := by rw [cellsU8_append, HOL.out]; simp [cellsU8]
          rw [e1]
          exact own2
      obtain ⟨g1, cp1, rfl, HO⟩ := hlen
      have HG1 : Hid (w.grownBy w1 (some g)) := grown_trans (grown_trans HG.out (World.grownBy_alloc wr _ none) (fun _ _ _ => by simp)) hgr1 (fun q _ hq => by simp)
      have HA1 : Hid (w.heap.size ≤ g1) := HO.out.1
      have HO1 : Hid (w1.ownsRow w.heap.size 5 1 (.slice (some ⟨g1, 0, none⟩) (k + 1) cp1) (k + 1) (cellsU8 ((List.range k).map zs ++ [1]))) := HO.out.2
      clear own1 hgr1 HO hz ht HT HG hgw hlt hk HOL HC HR
      go_wp2
      go_loopw [0, 3] (fun l i wr => ∃ j : Nat, j ≤ 70 ∧ i = .int .i64 j ∧ Hid (w.grownBy wr (some g)) ∧ ∃ g2 c2 ys2, l = .slice (some ⟨g2, 0, none⟩) (k + 1 + j) c2 ∧ wr.ownsRow w.heap.size 5 1 (.slice (some ⟨g2, 0, none⟩) (k + 1 + j) c2) (k + 1 + j) (cellsU8 ys2) ∧ Hid (w.heap.size ≤ g2)) (fun _ i _ => 70 - (intOf i).toNat)
      case atStart => exact ⟨0, by omega, rfl, HG1, g1, cp1, _, rfl, HO1, HA1⟩
      case round =>
        obtain ⟨j, hj, rfl, HG2, g2, c2, ys2, rfl, own2, HA2⟩ := hrel
        clear HG1 HA1 HO1
        by_cases hlt : j < 70
        · go_wp2_with (first | (at_builtin; go_must (refine wpList_append_lies _ rfl (.tmp 25) (.tmp 30) 22 rfl w.heap.size 5 i0 (.int .u8 0) 1 1 Tryd.underlying22 hi hz0 hz1 hz2 rfl (by decide) _ _ _ rfl (own2.alloc _) ⟨wr.heap.size, 0, none⟩ 1 1 (cellsU8 [IntKind.u8.wrap (7 * (j : Int) + 3)]) rfl rfl (World.news_of_block (heap_alloc_new wr _)) (cellsU8_one _) (by decide) (by unfold maxLen; omega) (by omega) (by have := HG2.out.size; simp; omega) (wr.heap.size + 1) (by simp) ?_)))
          intro g3 cp3 w3 own3 hgr3 hat3 hlt3
          have HG3 : Hid (w.grownBy w3 (some g)) := grown_trans (grown_trans HG2.out (World.grownBy_alloc wr _ none) (fun _ _ _ => by simp)) hgr3 (fun q hq hne => by
            intro h
            simp only [Value.ownBlock, Option.some.injEq] at h
            have e := HA2.out
            omega)
          have HA3 : Hid (w.heap.size ≤ g3) := by
            rcases hat3 with h | h
            · simp only [Value.ownBlock, Option.some.injEq] at h
              rw [← h]
              exact HA2
            · have := HG2.out.size
              show _ ≤ _
              omega
          have HO3 : Hid (w3.ownsRow w.heap.size 5 1 (.slice (some ⟨g3, 0, none⟩) (k + 1 + (j + 1)) cp3) (k + 1 + (j + 1)) (cellsU8 (ys2 ++ [IntKind.u8.wrap (7 * (j : Int) + 3)]))) := by
            rw [cellsU8_append]
            exact own3
          clear own3 hgr3 hat3 hlt3 own2 HG2 HA2
          go_wp2
          go_roundw
          case rel => exact ⟨j + 1, by omega, by go_num, HG3, g3, cp3, _, rfl, HO3, HA3⟩
          case measure => simp [intOf]; omega
        · obtain rfl : j = 70 := by omega
          have hcell : wr.cell? ⟨g2, k + 70, none⟩ = some (.int .u8 (ys2.getD (k + 70) 0)) := by
            have hl2 : ys2.length = k + 1 + 70 := by have := own2.1; rw [cellsU8_length] at this; omega
            rw [own2.cellAt (k + 70) (by omega), cellsU8, List.getElem?_map, List.getElem?_eq_getElem (show k + 70 < ys2.length by omega)]
            simp [List.getD, List.getElem?_eq_getElem (show k + 70 < ys2.length by omega)]
          have hfr : wr.frozen? ⟨g2, k + 70, none⟩ = false := own2.frozenAt _
          have HO : Hid (wr.ownsRow w.heap.size 5 1 (.slice (some ⟨g2, 0, none⟩) (k + 1 + 70) c2) (k + 1 + 70) (cellsU8 ys2)) := own2
          clear own2 hlt
          go_wp2
          go_end0
          have hst := HO.out.stored (k + 70) (.int .u8 77)
          refine ⟨rfl, grown_trans HG2.out hst.2 (fun q hq hne => ?_)⟩
          intro h
          simp only [Option.some.injEq] at h
          have e := HA2.out
          omega
end Go.Proofs.YtcopkohklgbpgabDoor
namespace Go.Proofs.YtcopkohklgbpgabDoor
open Go.RowKit Go.Shelf
set_option linter.unusedVariables false
set_option linter.unusedSimpArgs false
theorem bad_of {h : Int} (k : ¬ Known h) : (h == 224) = false ∧ (h == 256) = false ∧ (h == 384) = false ∧ (h == 512) = false := by
  refine ⟨?_, ?_, ?_, ?_⟩ <;> rw [beq_eq_false_iff_ne] <;> intro e <;> apply k <;> unfold Known <;> omega
set_option maxHeartbeats 400000 in
theorem mbegin_bad {h : Int} (k : ¬ Known h) (w : World) : Calls Tryd.prog 11 #[.int .i64 h] w fun e w' => e = .returned (.tuple #[.pointer none, .int .i64 10]) ∧ Below w.heap.size w w' := by
  obtain ⟨h1, h2, h3, h4⟩ := bad_of k
  have H31 : Hid (Calls Tryd.prog 20 #[.int .i64 h] w fun e w' => e = .returned (.tuple #[.pointer none, .int .i64 10]) ∧ Below w.heap.size w w') := new_bad h w h1 h2 h3 h4
  clear h1 h2 h3 h4 k
  go_enter Tryd.func11, Tryd.ntmps11
  go_wp2_with (go_at_call 20; refine H31.out.mono ?_)
  rintro e w1 ⟨rfl, hb⟩
  have HB : Hid (Below w.heap.size w w1) := hb
  clear hb H31
  go_wp2
  go_ret2
  exact ⟨rfl, HB.out⟩
/-- An answer: no bytes at all, or bytes in a new row without spare room. -/
def Ans (B : Nat) (w : World) (v : Value) (zs : List Int) : Prop := (v = .slice none 0 0 ∧ zs = []) ∨ ∃ b, v = .slice (some ⟨b, 0, none⟩) zs.length zs.length ∧ B ≤ b ∧ b < w.heap.size ∧ Mat w b zs
theorem Ans.kept {B : Nat} {w w' : World} {v : Value} {zs : List Int} (h : Ans B w v zs) (hb : ∀ b, v.ownBlock = some b → w'.heap[b]? = w.heap[b]?) (hs : w.heap.size ≤ w'.heap.size) : Ans B w' v zs := by
  rcases h with h | ⟨b, rfl, h1, h2, h3⟩
  · exact .inl h
  · exact .inr ⟨b, rfl, h1, Nat.lt_of_lt_of_le h2 hs, h3.kept (hb b rfl)⟩
theorem Ans.below {B : Nat} {w w' : World} {v : Value} {zs : List Int} (h : Ans B w v zs) (hb : Below w.heap.size w w') : Ans B w' v zs := by
  rcases h with h | ⟨b, rfl, h1, h2, h3⟩
  · exact .inl h
  · exact .inr ⟨b, rfl, h1, Nat.lt_of_lt_of_le h2 hb.size, h3.kept (hb.block b h2)⟩
theorem Ans.view {B : Nat} {w : World} {v : Value} {zs : List Int} (h : Ans B w v zs) (hl : zs.length ≤ 1000000000) : View w v zs := by
  rcases h with ⟨rfl, rfl⟩ | ⟨b, rfl, h1, h2, h3⟩
  · exact ⟨none, 0, rfl, Nat.le_refl _, by simp [maxLen], fun _ => rfl, .inl rfl⟩
  · exact h3.view hl
theorem Ans.base {B B' : Nat} {w : World} {v : Value} {zs : List Int} (h : Ans B w v zs) (hB : B' ≤ B) : Ans B' w v zs := by
  rcases h with h | ⟨b, rfl, h1, h2, h3⟩
  · exact .inl h
  · exact .inr ⟨b, rfl, Nat.le_trans hB h1, h2, h3⟩
theorem Ans.ge {B : Nat} {w : World} {v : Value} {zs : List Int} (h : Ans B w v zs) {b : Nat} (hb : v.ownBlock = some b) : B ≤ b ∧ b < w.heap.size := by
  rcases h with ⟨rfl, rfl⟩ | ⟨b', rfl, h1, h2, h3⟩
  · cases hb
  · injection hb with hb
    subst hb
    exact ⟨h1, h2⟩
theorem Ans.spoil {B : Nat} {w : World} {v : Value} {zs : List Int} (h : Ans B w v zs) (hl : zs.length ≤ 200000) : Calls Tryd.prog 10 #[v] w fun e w' => e = .returned (.tuple #[]) ∧ w.grownBy w' v.ownBlock := by
  rcases h with ⟨rfl, rfl⟩ | ⟨b, rfl, h1, h2, h3⟩
  · exact spoil_nil w
  · exact spoil_full zs.length b (fun i => zs.getD i 0) w hl h2 h3.cell h3.there
instance (h : Int) : Decidable (Known h) := by unfold Known; infer_instance
/-- What Diffuse answers: its error, its bytes. -/
def difE (h : Int) (Z : List Int) : Int := if Known h then (if Z.length ≤ 1024 then 0 else 4) else 10
def difL (h : Int) (Z : List Int) : List Int := if Known h then (if Z.length ≤ 1024 then spreadL h Z else []) else []
theorem difL_length (h : Int) (Z : List Int) : (difL h Z).length ≤ 1024 := by
  unfold difL
  split
  · split
    · rw [spreadL_length]; assumption
    · simp
  · simp
end Go.Proofs.YtcopkohklgbpgabDoor
namespace Go.Proofs.YtcopkohklgbpgabDoor
open Go.RowKit Go.Shelf
set_option linter.unusedVariables false
set_option linter.unusedSimpArgs false
/-- Two lists, added. -/
def plusL (n : Nat) (A B : List Int) : List Int := (List.range n).map fun i => bits .xor .u8 (A.getD i 0) (B.getD i 0)
theorem plusL_length (n : Nat) (A B : List Int) : (plusL n A B).length = n := by simp [plusL]
theorem plusL_at (n : Nat) (A B : List Int) (i : Nat) (hi : i < n) : (plusL n A B)[i]? = some (bits .xor .u8 (A.getD i 0) (B.getD i 0)) := by simp [plusL, hi]
set_option maxHeartbeats 1600000 in
set_option maxRecDepth 100000 in
theorem rplus_some (b1 o1 c1 b2 o2 c2 n : Nat) (A B : List Int) (w : World) (hn : n ≤ 1024) (hb1 : b1 < w.heap.size) (hb2 : b2 < w.heap.size) (h1 : Hid (∀ i, i < n → w.cell? ⟨b1, o1 + i, none⟩ = some (.int .u8 (A.getD i 0)))) (h2 : Hid (∀ i, i < n → w.cell? ⟨b2, o2 + i, none⟩ = some (.int .u8 (B.getD i 0)))) :
    Calls Tryd.prog 19 #[.slice (some ⟨b1, o1, none⟩) n c1, .slice (some ⟨b2, o2, none⟩) n c2] w fun e w' => ∃ v', e = .returned v' ∧ w'.ownsRow w.heap.size 5 1 v' n (cellsU8 (plusL n A B)) ∧ Below w.heap.size w w' := by
  obtain ⟨i0, hi, hz0, hz1, hz2⟩ := info_parts Tryd.info5
  go_enter Tryd.func19, Tryd.ntmps19
  go_wp2
  go_loopw [5, 6] (fun v vi wr => ∃ i c : Nat, ∃ a : Option Addr, i ≤ n ∧ vi = .int .i64 i ∧ v = .slice a i c ∧ Hid (wr.ownsRow w.heap.size 5 1 (.slice a i c) i (cellsU8 ((plusL n A B).take i))) ∧ Hid (Below w.heap.size w wr)) (fun _ vi _ => n - (intOf vi).toNat)
  case atStart => exact ⟨0, 0, none, by omega, rfl, rfl, World.ownsRow_nil _ _ _ _, Below.refl _ _⟩
  case round =>
    obtain ⟨i, c3, a3, hle, rfl, rfl, HO3, HB3⟩ := hrel
    by_cases hlt : i < n
    · obtain ⟨x, HX⟩ : ∃ x, Hid (x = A.getD i 0) := ⟨_, rfl⟩
      obtain ⟨y, HY⟩ : ∃ y, Hid (y = B.getD i 0) := ⟨_, rfl⟩
      have F0 : Hid (∀ u, Below wr.heap.size wr u → u.cell? ⟨b1, o1 + i, none⟩ = some (.int .u8 x)) := fun u hu => by
        rw [hu.cell (p := ⟨b1, o1 + i, none⟩) (Nat.lt_of_lt_of_le hb1 HB3.out.size), HB3.out.cell (p := ⟨b1, o1 + i, none⟩) hb1, HX.out]
        exact h1.out i hlt
      have F1 : Hid (∀ u, Below wr.heap.size wr u → u.cell? ⟨b2, o2 + i, none⟩ = some (.int .u8 y)) := fun u hu => by
        rw [hu.cell (p := ⟨b2, o2 + i, none⟩) (Nat.lt_of_lt_of_le hb2 HB3.out.size), HB3.out.cell (p := ⟨b2, o2 + i, none⟩) hb2, HY.out]
        exact h2.out i hlt
      have hS0 : Below wr.heap.size wr wr.drew := (Below.refl _ _).drew
      have hBa : Below wr.heap.size wr (wr.drew.alloc (.cells #[.int .u8 (bits .xor .u8 x y)] 5)) := hS0.alloc (Nat.le_refl _) _
      have HOa : Hid ((wr.drew.alloc (.cells #[.int .u8 (bits .xor .u8 x y)] 5)).ownsRow w.heap.size 5 1 (.slice a3 i c3) i (cellsU8 ((plusL n A B).take i))) := owns_kept HO3.out hBa
      have HSa : Hid (w.heap.size ≤ (wr.drew.alloc (.cells #[.int .u8 (bits .xor .u8 x y)] 5)).heap.size) := Nat.le_trans HB3.out.size hBa.size
      have HBa : Hid (Below w.heap.size w (wr.drew.alloc (.cells #[.int .u8 (bits .xor .u8 x y)] 5))) := HB3.out.trans (hBa.mono HB3.out.size)
      have HBx : Hid (Below wr.heap.size wr (wr.drew.alloc (.cells #[.int .u8 (bits .xor .u8 x y)] 5))) := hBa
      clear hBa
      go_wp2
      refine wp_region_noPanic ?_
      refine wp_region_till (fun u => Below wr.heap.size wr u) 11 (by kernel_rfl) (by decide) (by decide +kernel) (by decide +kernel) (by decide +kernel) (fun inv => ?_)
      refine till_at 0 13 (.slice a3 i c3) inv rfl rfl (by decide) (by decide +kernel) (by decide +kernel) (fun _ _ _ h => h) (hS0) (Or.inl ⟨by rfl, fun w' hS' => by go_simp⟩) (fun inv' => ?_)
      clear inv; have inv := inv'; clear inv'
      simp only [List.setIfInBounds_toArray, List.set_cons_zero, List.set_cons_succ]
      refine till_at 1 14 (.slice (some ⟨b1, o1, none⟩) n c1) inv rfl rfl (by decide) (by decide +kernel) (by decide +kernel) (fun _ _ _ h => h) (hS0) (Or.inl ⟨by rfl, fun w' hS' => by go_simp⟩) (fun inv' => ?_)
      clear inv; have inv := inv'; clear inv'
      simp only [List.setIfInBounds_toArray, List.set_cons_zero, List.set_cons_succ]
      refine till_at 2 15 (.int .i64 (i : Nat)) inv rfl rfl (by decide) (by decide +kernel) (by decide +kernel) (fun _ _ _ h => h) (hS0) (Or.inl ⟨by rfl, fun w' hS' => by go_simp⟩) (fun inv' => ?_)
      clear inv; have inv := inv'; clear inv'
      simp only [List.setIfInBounds_toArray, List.set_cons_zero, List.set_cons_succ]
      refine till_at 3 16 (.pointer (some ⟨b1, o1 + i, none⟩)) inv rfl rfl (by decide) (by decide +kernel) (by decide +kernel) (fun _ _ _ h => h) (hS0) (Or.inl ⟨by rfl, fun w' hS' => by go_simp⟩) (fun inv' => ?_)
      clear inv; have inv := inv'; clear inv'
      simp only [List.setIfInBounds_toArray, List.set_cons_zero, List.set_cons_succ]
      refine till_at 4 17 (.int .u8 x) inv rfl rfl (by decide) (by decide +kernel) (by decide +kernel) (fun _ _ _ h => h) (hS0) (Or.inl ⟨by rfl, fun w' hS' => by have q := F0.out w' hS'; go_simp⟩) (fun inv' => ?_)
      clear inv; have inv := inv'; clear inv'
      simp only [List.setIfInBounds_toArray, List.set_cons_zero, List.set_cons_succ]
      refine till_at 5 18 (.slice (some ⟨b2, o2, none⟩) n c2) inv rfl rfl (by decide) (by decide +kernel) (by decide +kernel) (fun _ _ _ h => h) (hS0) (Or.inl ⟨by rfl, fun w' hS' => by go_simp⟩) (fun inv' => ?_)
      clear inv; have inv := inv'; clear inv'
      simp only [List.setIfInBounds_toArray, List.set_cons_zero, List.set_cons_succ]
      refine till_at 6 19 (.int .i64 (i : Nat)) inv rfl rfl (by decide) (by decide +kernel) (by decide +kernel) (fun _ _ _ h => h) (hS0) (Or.inl ⟨by rfl, fun w' hS' => by go_simp⟩) (fun inv' => ?_)
      clear inv; have inv := inv'; clear inv'
      simp only [List.setIfInBounds_toArray, List.set_cons_zero, List.set_cons_succ]
      refine till_at 7 20 (.pointer (some ⟨b2, o2 + i, none⟩)) inv rfl rfl (by decide) (by decide +kernel) (by decide +kernel) (fun _ _ _ h => h) (hS0) (Or.inl ⟨by rfl, fun w' hS' => by go_simp⟩) (fun inv' => ?_)
      clear inv; have inv := inv'; clear inv'
      simp only [List.setIfInBounds_toArray, List.set_cons_zero, List.set_cons_succ]
      refine till_at 8 21 (.int .u8 y) inv rfl rfl (by decide) (by decide +kernel) (by decide +kernel) (fun _ _ _ h => h) (hS0) (Or.inl ⟨by rfl, fun w' hS' => by have q := F1.out w' hS'; go_simp⟩) (fun inv' => ?_)
      clear inv; have inv := inv'; clear inv'
      simp only [List.setIfInBounds_toArray, List.set_cons_zero, List.set_cons_succ]
      refine till_at 9 22 (.int .u8 (bits .xor .u8 x y)) inv rfl rfl (by decide) (by decide +kernel) (by decide +kernel) (fun _ _ _ h => h) (hS0) (Or.inl ⟨by rfl, fun w' hS' => by go_simp⟩) (fun inv' => ?_)
      clear inv; have inv := inv'; clear inv'
      simp only [List.setIfInBounds_toArray, List.set_cons_zero, List.set_cons_succ]
      refine till_head (i := 10) inv (by decide +kernel) (by decide) rfl (fun K hK => ?_)
      go_simp
      refine hK.out _ _ HBx.out (fun inv' => ?_)
      clear hK K inv; have inv := inv'; clear inv'
      try simp only [List.setIfInBounds_toArray, List.set_cons_zero, List.set_cons_succ]
      refine till_tail (i := 11) (by decide +kernel) (by decide) rfl (fun K hK => ?_)
      rw [if_pos (by rfl)]
      refine wp_append_own _ (.tmp 13) (.tmp 23) 22 rfl w.heap.size 5 i0 (.int .u8 0) 1 1 Tryd.underlying22 hi hz0 hz1 hz2 rfl (by decide) _ i (cellsU8 ((plusL n A B).take i)) rfl HOa.out ⟨wr.heap.size, 0, none⟩ 1 1 [.int .u8 (bits .xor .u8 x y)] rfl rfl (one_cell wr.drew _ _) (one_one _) (by unfold maxLen; omega) (by omega) HSa.out (fun v4 w4 hown4 hgrow4 hnil4 => ?_)
      refine hK.out _ _ ?_
      clear hK K
      try simp only [List.setIfInBounds_toArray, List.set_cons_zero, List.set_cons_succ]
      refine till_tail (i := 12) (by decide +kernel) (by decide) rfl (fun K hK => ?_)
      go_simp
      refine hK.out _ _ ?_
      clear hK K
      try simp only [List.setIfInBounds_toArray, List.set_cons_zero, List.set_cons_succ]
      refine till_done (by decide +kernel) ?_ _
      refine NoPanic.normal ?_
      have HB4 : Hid (Below w.heap.size w w4) := HBa.out.grown hgrow4 HSa.out (fun q hq => (HOa.out.lt q hq).1)
      have ho4 : w4.ownsRow w.heap.size 5 1 v4 (i + 1) (cellsU8 ((plusL n A B).take (i + 1))) := by
        rw [List.take_add_one, plusL_at n A B i hlt, cellsU8_append, ← HX.out, ← HY.out]
        exact hown4
      clear hown4 hgrow4 hnil4
      obtain ⟨a4, c4, rfl⟩ := owns_slice ho4
      have HO4 : Hid (w4.ownsRow w.heap.size 5 1 (.slice a4 (i + 1) c4) (i + 1) (cellsU8 ((plusL n A B).take (i + 1)))) := ho4
      clear ho4 HOa HBa HSa F0 F1 HO3 HB3
      go_wp2
      go_roundw
      case rel => exact ⟨i + 1, c4, a4, by omega, by go_num, rfl, HO4, HB4⟩
      case measure => simp [intOf]; omega
    · obtain rfl : i = n := by omega
      go_wp2
      go_ret
      refine ⟨_, rfl, ?_, HB3.out⟩
      have q := HO3.out
      rw [List.take_of_length_le (by rw [plusL_length]; exact Nat.le_refl _)] at q
      exact q
theorem rplus_ok (v1 v2 : Value) (A B : List Int) (n : Nat) (w : World) (hA : View w v1 A) (hB : View w v2 B) (lA : A.length = n) (lB : B.length = n) (h0 : 0 < n) (hn : n ≤ 1024) :
    Calls Tryd.prog 19 #[v1, v2] w fun e w' => ∃ v', e = .returned v' ∧ w'.ownsRow w.heap.size 5 1 v' n (cellsU8 (plusL n A B)) ∧ Below w.heap.size w w' := by
  obtain ⟨a1, c1, rfl, p1, p2, p3, p4⟩ := hA
  obtain ⟨a2, c2, rfl, q1, q2, q3, q4⟩ := hB
  rcases p4 with p4 | ⟨b1, o1, rfl, p5⟩
  · rw [p4] at lA; simp at lA; omega
  · rcases q4 with q4 | ⟨b2, o2, rfl, q5⟩
    · rw [q4] at lB; simp at lB; omega
    · rw [lA, lB]
      rw [lA] at p5
      rw [lB] at q5
      exact rplus_some b1 o1 c1 b2 o2 c2 n A B w hn (lt_of_cell (p5 0 h0)) (lt_of_cell (q5 0 h0)) p5 q5
end Go.Proofs.YtcopkohklgbpgabDoor
namespace Go.Proofs.YtcopkohklgbpgabDoor
open Go.RowKit Go.Shelf
set_option linter.unusedVariables false
set_option linter.unusedSimpArgs false
/-- What is added to the last stripe. -/
def befL (h : Int) (n : Nat) (A : List Int) (x : Nat) : List Int := (List.range n).map (maskF h n (fun i => A.getD i 0) x (fun _ => 0))
theorem befL_length (h : Int) (n : Nat) (A : List Int) (x : Nat) : (befL h n A x).length = n := by simp [befL]
theorem maskF_succ (h : Int) (n : Nat) (a : Nat → Int) (x : Nat) (f : Nat → Int) : maskF h n a (x + 1) f = diffF h n (xorF (maskF h n a x f) (fun i => a (x * n + i)) n) := by
  simp only [maskF, List.range_succ, List.foldl_append, List.foldl_cons, List.foldl_nil, mstep]
theorem befL_at (h : Int) (n : Nat) (A : List Int) (x j : Nat) (hj : j < n) : (befL h n A x).getD j 0 = maskF h n (fun i => A.getD i 0) x (fun _ => 0) j := by
  simp [befL, List.getD, hj]
theorem piece_at (A : List Int) (q n j : Nat) (hj : j < n) : ((A.drop q).take n).getD j 0 = A.getD (q + j) 0 := by
  simp [List.getD, List.getElem?_take, hj]
theorem befL_succ {h : Int} (k : Known h) (n : Nat) (A : List Int) (x : Nat) : befL h n A (x + 1) = spreadL h (plusL n (befL h n A x) ((A.drop (x * n)).take n)) := by
  have hl := plusL_length n (befL h n A x) ((A.drop (x * n)).take n)
  have q := diffF_list h k (plusL n (befL h n A x) ((A.drop (x * n)).take n)) (xorF (maskF h n (fun i => A.getD i 0) x (fun _ => 0)) (fun i => A.getD (x * n + i) 0) n) (fun j hj => by
    rw [hl] at hj
    unfold xorF
    rw [if_pos hj, List.getD_eq_getElem?_getD, plusL_at n _ _ j hj, befL_at h n A x j hj, piece_at A (x * n) n j hj]
    rfl)
  rw [← q, hl]
  unfold befL
  rw [maskF_succ]
set_option maxHeartbeats 1600000 in
set_option maxRecDepth 100000 in
theorem rbefore_ok {h : Int} (k : Known h) (n cnt m c : Nat) (a : Option Addr) (A : List Int) (w : World) (hR : Hid (RTab w)) (hn : 1 ≤ n ∧ n ≤ 1024) (hm : Hid (m = n * cnt)) (hmb : m ≤ 10000000) (hA : Hid (View w (.slice a m c) A)) (hAl : Hid (A.length = m)) :
    Calls Tryd.prog 18 #[.int .i64 h, .int .i64 (n : Nat), .slice a m c] w fun e w' => ∃ v', e = .returned v' ∧ w'.ownsRow w.heap.size 5 1 v' n (cellsU8 (befL h n A cnt)) ∧ Below w.heap.size w w' := by
  obtain ⟨i0, hi, hz0, hz1, hz2⟩ := info_parts Tryd.info5
  have hmc : m ≤ c ∧ c ≤ 9223372036854775807 := by
    obtain ⟨a', c', e, q1, q2, _⟩ := hA.out
    injection e with e1 e2 e3
    unfold maxLen at q2
    omega
  go_enter Tryd.func18, Tryd.ntmps18
  go_wp2_with (first
    | (at_make; go_must (refine wpList_make_full _ rfl _ _ 22 rfl w.heap.size 5 i0 (.int .u8 0) 1 Tryd.underlying22 hi hz0 hz1 .i64 .i64 (n : Nat) (n : Nat) n rfl rfl rfl rfl ?_ ?_ ?_ ?_)))
  · rw [hz2]; omega
  · unfold maxLen; omega
  · exact Nat.le_refl _
  intro w1 hown hgr
  have HB1 : Hid (Below w.heap.size w w1) := (Below.refl _ _).grown hgr (Nat.le_refl _) (by intro k hk; cases hk)
  have HO1 : Hid (w1.ownsRow w.heap.size 5 1 (.slice (some ⟨w.heap.size, 0, none⟩) n n) n (cellsU8 (befL h n A 0))) := by
    have e : cellsU8 (befL h n A 0) = (madeCells #[.int .u8 0] n).toList := by
      apply List.ext_getElem?
      intro j
      by_cases hj : j < n
      · simp [cellsU8, befL, maskF, madeCells, hj, Nat.mod_one]
      · rw [List.getElem?_eq_none (by rw [cellsU8_length, befL_length]; omega), List.getElem?_eq_none (by simp [madeCells]; omega)]
    show World.ownsRow _ _ _ _ _ _ _
    rw [e]
    exact hown
  clear hown hgr
  go_wp2
  go_loopw [7, 8] (fun v vi wr => ∃ x q : Nat, Hid (x ≤ cnt ∧ q = n * x) ∧ vi = .int .i64 (q : Nat) ∧ Hid (wr.ownsRow w.heap.size 5 1 v n (cellsU8 (befL h n A x))) ∧ Hid (Below w.heap.size w wr)) (fun _ vi _ => m - (intOf vi).toNat)
  case atStart => exact ⟨0, 0, ⟨Nat.zero_le _, by simp⟩, rfl, HO1, HB1⟩
  case round =>
    obtain ⟨x, q, HX, rfl, HO, HB⟩ := hrel
    clear HO1 HB1
    by_cases hlt : q < m
    · have hxc : Hid (x < cnt ∧ q + n ≤ m) := by
        have h1 := HX.out
        have h2 := hm.out
        have hx : x < cnt := by
          rcases Nat.lt_or_ge x cnt with h | h
          · exact h
          · have := Nat.mul_le_mul_left n h
            omega
        refine ⟨hx, ?_⟩
        have h3 := Nat.mul_le_mul_left n (show x + 1 ≤ cnt from hx)
        rw [Nat.mul_succ] at h3
        omega
      have hqn : q + n ≤ m := hxc.out.2
      have HVA : Hid (View wr (.slice a m c) A) := hA.out.kept fun b hb => HB.out.block b hb
      obtain ⟨b, off, hab⟩ : ∃ b off, a = some ⟨b, off, none⟩ := by
        obtain ⟨a', c', e, q1, q2, q3, q4⟩ := hA.out
        injection e with e1 e2 e3
        rcases q4 with q4 | ⟨b, off, e4, _⟩
        · have := hAl.out
          rw [q4] at this
          simp at this
          omega
        · exact ⟨b, off, by rw [e1, e4]⟩
      subst hab
      have hsl : ∀ u, (Instr.slice 22 (.slice (some ⟨b, off, none⟩) m c) (some (.int .i64 (q : Nat))) (some (.int .i64 ((q : Int) + (n : Nat)))) none).run Tryd.prog u = .ok (.slice (some ⟨b, off + q, none⟩) n (c - q)) u := fun u => slice22 u b off m c q n (n : Nat) rfl (by omega) (by omega)
      have HVP : Hid (View wr (.slice (some ⟨b, off + q, none⟩) n (c - q)) ((A.drop (x * n)).take n)) := by
        have h1 := hAl.out
        have h2 := HX.out
        have hlen : ((A.drop (x * n)).take n).length = n := by
          rw [List.length_take, List.length_drop, h1, Nat.mul_comm x, ← h2.2]
          omega
        obtain ⟨a', c', e, q1, q2, q3, q4⟩ := HVA.out
        injection e with e1 e2 e3
        refine ⟨some ⟨b, off + q, none⟩, c - q, by rw [hlen], by rw [hlen]; omega, by unfold maxLen; omega, (fun e => by cases e), .inr ⟨b, off + q, rfl, fun j hj => ?_⟩⟩
        rw [hlen] at hj
        rcases q4 with q4 | ⟨b', off', e4, q5⟩
        · rw [q4] at h1
          simp at h1
          omega
        · rw [e4] at e1
          injection e1 with e1
          injection e1 with e5 e6
          subst e5 e6
          rw [piece_at A (x * n) n j hj, Nat.add_assoc, q5 (q + j) (by omega), h2.2, Nat.mul_comm n]
      have H30 : Hid (Calls Tryd.prog 19 #[u7, .slice (some ⟨b, off + q, none⟩) n (c - q)] wr fun e w' => Hid (∃ v', e = .returned v' ∧ w'.ownsRow wr.heap.size 5 1 v' n (cellsU8 (plusL n (befL h n A x) ((A.drop (x * n)).take n))) ∧ Below wr.heap.size wr w')) := by
        have h1 := hAl.out
        have h2 := HX.out
        exact rplus_ok u7 _ (befL h n A x) ((A.drop (x * n)).take n) n wr (viewOwns HO.out (befL_length h n A x)) HVP.out (befL_length h n A x) (by rw [List.length_take, List.length_drop, h1, Nat.mul_comm x, ← h2.2]; omega) (by omega) hn.2
      go_upto_region 6 with (go_at_call 19; refine H30.out.mono ?_)
      intro e3 w3 hh
      obtain ⟨vX, rfl, ho3, hb3⟩ := hh.out
      obtain ⟨X, HXX⟩ : ∃ X, Hid (X = plusL n (befL h n A x) ((A.drop (x * n)).take n)) := ⟨_, rfl⟩
      rw [← HXX.out] at ho3
      have HXl : Hid (X.length = n) := by show _ = _; rw [HXX.out, plusL_length]
      have HB3 : Hid (Below w.heap.size w w3) := HB.out.trans (hb3.mono HB.out.size)
      have H28 : Hid (Calls Tryd.prog 28 #[.int .i64 h, vX] w3 fun e w' => Hid (∃ v', e = .returned v' ∧ w'.ownsRow w3.heap.size 5 1 v' X.length (cellsU8 (spreadL h X)) ∧ Below w3.heap.size w3 w')) := rspread_any k vX X w3 (hR.out.below HB3.out hR.out.size) (viewOwns ho3 HXl.out) (by rw [HXl.out]; exact hn.2)
      clear hh ho3 hb3 H30 HVP HVA
      go_wp2_with (go_at_call 28; refine H28.out.mono ?_)
      intro e5 w5 hh
      obtain ⟨v5, rfl, ho5, hb5⟩ := hh.out
      have HB5 : Hid (Below w.heap.size w w5) := HB3.out.trans (hb5.mono HB3.out.size)
      have HO5 : Hid (w5.ownsRow w.heap.size 5 1 v5 n (cellsU8 (befL h n A (x + 1)))) := by
        rw [befL_succ k, ← HXX.out]
        rw [HXl.out] at ho5
        exact owns_base ho5 HB3.out.size
      clear hh ho5 hb5 H28 HB3 HO HB
      go_wp2
      go_roundw
      case rel => exact ⟨x + 1, q + n, ⟨hxc.out.1, by have := HX.out; rw [Nat.mul_succ]; omega⟩, by go_num, HO5, HB5⟩
      case measure => simp [intOf]; omega
    · have hxc : Hid (x = cnt) := by
        have h1 := HX.out
        have h2 := hm.out
        show x = cnt
        rcases Nat.lt_or_ge x cnt with h | h
        · have h3 := Nat.mul_le_mul_left n (show x + 1 ≤ cnt from h)
          rw [Nat.mul_succ] at h3
          omega
        · omega
      go_wp2
      go_ret
      refine ⟨_, rfl, ?_, HB.out⟩
      rw [← hxc.out]
      exact HO.out
end Go.Proofs.YtcopkohklgbpgabDoor
namespace Go.Proofs.YtcopkohklgbpgabDoor
open Go.RowKit Go.Shelf
set_option linter.unusedVariables false
set_option linter.unusedSimpArgs false
theorem View.grown {w w' : World} {v : Value} {zs : List Int} {ob : Option Nat} (hv : View w v zs) (hg : w.grownBy w' ob) (hne : ∀ b off l c, v = .slice (some ⟨b, off, none⟩) l c → some b ≠ ob) : View w' v zs := by
  obtain ⟨a, c, rfl, h1, h2, h3, h4⟩ := hv
  refine ⟨a, c, rfl, h1, h2, h3, ?_⟩
  rcases h4 with h4 | ⟨b, off, rfl, hc⟩
  · exact .inl h4
  · refine .inr ⟨b, off, rfl, fun i hi => ?_⟩
    have hb := lt_of_cell (hc i hi)
    rw [World.cell?_of_block (w := w) (hg.block b hb (hne b off _ c rfl))]
    exact hc i hi
theorem Ans.apart {B : Nat} {w : World} {v v2 : Value} {zs : List Int} (h : Ans B w v zs) (hb : ∀ b, v2.ownBlock = some b → b < B) : ∀ b off l c, v = .slice (some ⟨b, off, none⟩) l c → some b ≠ v2.ownBlock := by
  intro b off l c e e2
  have h1 := (h.ge (b := b) (by rw [e]; rfl)).1
  have h2 := hb b e2.symm
  omega
theorem owns_apart {B n : Nat} {w : World} {v v2 : Value} {xs : List Value} (h : w.ownsRow B 5 1 v n xs) (hb : ∀ b, v2.ownBlock = some b → b < B) : ∀ b off l c, v = .slice (some ⟨b, off, none⟩) l c → some b ≠ v2.ownBlock := by
  intro b off l c e e2
  have h1 := (h.lt b (by rw [e]; rfl)).1
  have h2 := hb b e2.symm
  omega
theorem view12 (w : World) : View (w.alloc (.cells #[.int .u8 1, .int .u8 2] 5)) (.slice (some ⟨w.heap.size, 0, none⟩) 2 2) [1, 2] := viewOwns (owns_lit w [1, 2] 2 rfl (by decide)) rfl
theorem all12 : AllBytes [1, 2] := by
  intro i
  match i with
  | 0 => decide
  | 1 => decide
  | i + 2 => simp
theorem difE12 : difE 256 [1, 2] = 0 := by decide
end Go.Proofs.YtcopkohklgbpgabDoor
namespace Go.Proofs.YtcopkohklgbpgabDoor
open Go.RowKit Go.Shelf
set_option linter.unusedVariables false
set_option linter.unusedSimpArgs false
/-- What Random tells. -/
def rndE (n : Nat) (st : Int) : Int := if n < 1 then 5 else if 1024 < n then 4 else if ¬ (1 ≤ st ∧ st ≤ 4000) then 40 else 0
def rndN (n : Nat) (st : Int) : Int := if rndE n st = 0 then (n : Int) * (st - 1) else 0
theorem rndE_zero {n : Nat} {st : Int} (h : rndE n st = 0) : 1 ≤ n ∧ n ≤ 1024 ∧ 1 ≤ st ∧ st ≤ 4000 := by
  unfold rndE at h
  split at h
  · cases h
  · split at h
    · cases h
    · split at h
      · cases h
      · rename_i h1 h2 h3
        have h4 : 1 ≤ st ∧ st ≤ 4000 := by simpa using h3
        omega
set_option maxHeartbeats 400000 in
theorem may_bad (st : Int) (hs : ¬ (1 ≤ st ∧ st ≤ 4000)) (w : World) : Calls Tryd.prog 23 #[.int .i64 st] w fun e w' => e = .returned (.bool false) ∧ w' = w := by
  by_cases h1 : 1 ≤ st
  · have h2 : ¬ st ≤ 4000 := fun h => hs ⟨h1, h⟩
    clear hs
    go_enter Tryd.func23, Tryd.ntmps23
    go_wp2
    go_ret
    exact ⟨rfl, rfl⟩
  · clear hs
    go_enter Tryd.func23, Tryd.ntmps23
    go_wp2
    go_ret
    exact ⟨rfl, rfl⟩
set_option maxHeartbeats 800000 in
theorem random_any (n : Nat) (hn : n ≤ 9223372036854775807) (st : Int) (w : World) : Calls Tryd.prog 13 #[.int .i64 (n : Nat), .int .i64 st] w fun e w' => e = .returned (.tuple #[.int .i64 (rndN n st), .int .i64 (rndE n st)]) ∧ w' = w := by
  by_cases h1 : n < 1
  · have e1 : rndE n st = 5 := by unfold rndE; rw [if_pos h1]
    have e2 : rndN n st = 0 := by unfold rndN; rw [e1]; rfl
    rw [e1, e2]
    have d1 : ((n : Nat) : Int) < 1 := by omega
    go_enter Tryd.func13, Tryd.ntmps13
    go_wp2
    go_ret2
    exact ⟨rfl, rfl⟩
  · have d1 : ¬ ((n : Nat) : Int) < 1 := by omega
    by_cases h2 : 1024 < n
    · have e1 : rndE n st = 4 := by unfold rndE; rw [if_neg h1, if_pos h2]
      have e2 : rndN n st = 0 := by unfold rndN; rw [e1]; rfl
      rw [e1, e2]
      have d2 : (1024 : Int) < ((n : Nat) : Int) := by omega
      go_enter Tryd.func13, Tryd.ntmps13
      go_wp2
      go_ret2
      exact ⟨rfl, rfl⟩
    · have d2 : ¬ (1024 : Int) < ((n : Nat) : Int) := by omega
      by_cases h3 : 1 ≤ st ∧ st ≤ 4000
      · have e1 : rndE n st = 0 := by unfold rndE; rw [if_neg h1, if_neg h2, if_neg (by simpa using h3)]
        have e2 : rndN n st = (n : Int) * (st - 1) := by unfold rndN; rw [e1]; rfl
        obtain ⟨c, hc⟩ : ∃ c : Nat, st = (c : Int) + 1 := ⟨(st - 1).toNat, by omega⟩
        have e3 : rndN n st = ((n * c : Nat) : Int) := by rw [e2, hc]; simp
        rw [e1, e3, hc]
        exact random_ok n c (n * c) (by omega) (by omega) rfl w
      · have e1 : rndE n st = 40 := by unfold rndE; rw [if_neg h1, if_neg h2, if_pos h3]
        have e2 : rndN n st = 0 := by unfold rndN; rw [e1]; rfl
        rw [e1, e2]
        have H23 : Hid (∀ u, Calls Tryd.prog 23 #[.int .i64 st] u fun e w' => e = .returned (.bool false) ∧ w' = u) := fun u => may_bad st h3 u
        clear h3
        go_enter Tryd.func13, Tryd.ntmps13
        go_wp2_with (go_at_call 23; refine (H23.out _).mono ?_; rintro e1 wx ⟨rfl, hwx⟩; obtain rfl := hwx.symm)
        go_ret2
        exact ⟨rfl, rfl⟩
set_option maxHeartbeats 800000 in
theorem rrandom_any (n : Nat) (hn : n ≤ 9223372036854775807) (st : Int) (w : World) : Calls Tryd.prog 17 #[.int .i64 (n : Nat), .int .i64 st] w fun e w' => e = .returned (.tuple #[.int .i64 (rndN n st), .int .i64 (rndE n st)]) ∧ w' = w := by
  by_cases h1 : n < 1
  · have e1 : rndE n st = 5 := by unfold rndE; rw [if_pos h1]
    have e2 : rndN n st = 0 := by unfold rndN; rw [e1]; rfl
    rw [e1, e2]
    have d1 : ((n : Nat) : Int) < 1 := by omega
    go_enter Tryd.func17, Tryd.ntmps17
    go_wp2
    go_ret2
    exact ⟨rfl, rfl⟩
  · have d1 : ¬ ((n : Nat) : Int) < 1 := by omega
    by_cases h2 : 1024 < n
    · have e1 : rndE n st = 4 := by unfold rndE; rw [if_neg h1, if_pos h2]
      have e2 : rndN n st = 0 := by unfold rndN; rw [e1]; rfl
      rw [e1, e2]
      have d2 : (1024 : Int) < ((n : Nat) : Int) := by omega
      go_enter Tryd.func17, Tryd.ntmps17
      go_wp2
      go_ret2
      exact ⟨rfl, rfl⟩
    · have d2 : ¬ (1024 : Int) < ((n : Nat) : Int) := by omega
      by_cases h3 : st < 1
      · have e1 : rndE n st = 40 := by unfold rndE; rw [if_neg h1, if_neg h2, if_pos (by omega)]
        have e2 : rndN n st = 0 := by unfold rndN; rw [e1]; rfl
        rw [e1, e2]
        go_enter Tryd.func17, Tryd.ntmps17
        go_wp2
        go_ret2
        exact ⟨rfl, rfl⟩
      · by_cases h4 : 4000 < st
        · have e1 : rndE n st = 40 := by unfold rndE; rw [if_neg h1, if_neg h2, if_pos (by omega)]
          have e2 : rndN n st = 0 := by unfold rndN; rw [e1]; rfl
          rw [e1, e2]
          go_enter Tryd.func17, Tryd.ntmps17
          go_wp2
          go_ret2
          exact ⟨rfl, rfl⟩
        · have e1 : rndE n st = 0 := by unfold rndE; rw [if_neg h1, if_neg h2, if_neg (by omega)]
          obtain ⟨c, hc⟩ : ∃ c : Nat, st = (c : Int) + 1 := ⟨(st - 1).toNat, by omega⟩
          obtain ⟨m, hm⟩ : ∃ m, m = n * c := ⟨_, rfl⟩
          have hml : m ≤ 1024 * 4000 := by rw [hm]; exact Nat.mul_le_mul (by omega) (by omega)
          have e3 : rndN n st = (m : Nat) := by unfold rndN; rw [e1, hm, hc]; simp
          have hmul : ((n : Nat) : Int) * ((c : Nat) : Int) = (m : Nat) := by rw [hm]; simp
          have hsub : ((c : Nat) : Int) + 1 - 1 = (c : Nat) := by omega
          rw [e1, e3]
          subst hc
          have b1 : ¬ ((c : Nat) : Int) + 1 < 1 := h3
          have b2 : ¬ (4000 : Int) < ((c : Nat) : Int) + 1 := h4
          clear hm e3 e1 h3 h4
          go_enter Tryd.func17, Tryd.ntmps17
          go_wp2
          go_ret2
          exact ⟨rfl, rfl⟩
end Go.Proofs.YtcopkohklgbpgabDoor
