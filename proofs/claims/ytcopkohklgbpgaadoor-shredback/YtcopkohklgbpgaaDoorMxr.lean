import Derived.Test.YtcopkohklgbpgaaDoorBuf
import Derived.Test.YtcopkohklgbpgaaDoorStream
namespace Go.Proofs.YtcopkohklgbpgaaDoor
open Go.RowKit
set_option linter.unusedVariables false
set_option linter.unusedSimpArgs false
/-- Only blocks g and s, and new ones, may have changed. -/
structure Tw (w w' : World) (g s : Nat) : Prop where
  os : w'.os = w.os
  tape : w'.tape = w.tape
  output : w'.output = w.output
  size : w.heap.size ≤ w'.heap.size
  block : ∀ k, k < w.heap.size → k ≠ g → k ≠ s → w'.heap[k]? = w.heap[k]?
theorem Tw.refl (w : World) (g s : Nat) : Tw w w g s := ⟨rfl, rfl, rfl, Nat.le_refl _, fun _ _ _ _ => rfl⟩
theorem Tw.trans {a b c : World} {g s : Nat} (h : Tw a b g s) (k : Tw b c g s) : Tw a c g s :=
  ⟨k.os.trans h.os, k.tape.trans h.tape, k.output.trans h.output, Nat.le_trans h.size k.size, fun i hi h1 h2 => (k.block i (Nat.lt_of_lt_of_le hi h.size) h1 h2).trans (h.block i hi h1 h2)⟩
theorem Touch.twG {w w' : World} {g o n : Nat} (h : Touch w w' g o n) (s : Nat) : Tw w w' g s := ⟨h.os, h.tape, h.output, h.size, fun k hk h1 _ => h.block k hk h1⟩
theorem Touch.twS {w w' : World} {s o n : Nat} (h : Touch w w' s o n) (g : Nat) : Tw w w' g s := ⟨h.os, h.tape, h.output, h.size, fun k hk _ h2 => h.block k hk h2⟩
theorem Below.tw {w w' : World} (h : Below w.heap.size w w') (g s : Nat) : Tw w w' g s := ⟨h.os, h.tape, h.output, h.size, fun k hk _ _ => h.block k hk⟩
theorem Tw.toBelow {w w' : World} {g s B : Nat} (h : Tw w w' g s) (hg : B ≤ g) (hs : B ≤ s) (hB : B ≤ w.heap.size) : Below B w w' := ⟨h.os, h.tape, h.output, h.size, fun k hk => h.block k (by omega) (by omega) (by omega)⟩
theorem Tw.view {w w' : World} {g s : Nat} (h : Tw w w' g s) {v : Value} {zs : List Int} (hv : View w v zs) (hg : ∀ b off l c, v = .slice (some ⟨b, off, none⟩) l c → b ≠ g ∧ b ≠ s) : View w' v zs := by
  obtain ⟨a, c, rfl, h1, h2, h3, h4⟩ := hv
  refine ⟨a, c, rfl, h1, h2, h3, ?_⟩
  rcases h4 with h4 | ⟨b, off, rfl, hc⟩
  · exact .inl h4
  · have hb := hg b off _ _ rfl
    refine .inr ⟨b, off, rfl, fun i hi => ?_⟩
    have q := hc i hi
    have hlt := World.block_lt_of_cell? w _ q
    rw [World.cell?_of_block (w := w) (h.block b hlt hb.1 hb.2)]
    exact q
/-- A mixer: a buffer, and its stream's place. -/
def Mx (w : World) (g s : Nat) (f : Nat → Int) (u : Nat) : Prop := Buf w g f u ∧ w.cell? ⟨g, 1025, none⟩ = some (.pointer (some ⟨s, 0, none⟩))
theorem Mx.touch {w v : World} {g s u u' : Nat} {f f' : Nat → Int} (h : Mx w g s f u) (b : Touch w v g 0 1025) (k : Buf v g f' u') : Mx v g s f' u' := ⟨k, by rw [b.cell 1025 (by omega)]; exact h.2⟩
theorem Mx.far {w v : World} {g s u g' o n : Nat} {f : Nat → Int} (h : Mx w g s f u) (b : Touch w v g' o n) (hne : g ≠ g') : Mx v g s f u := ⟨h.1.far b hne, by rw [b.far (p := ⟨g, 1025, none⟩) h.1.lt hne]; exact h.2⟩
theorem Mx.below {w v : World} {g s u : Nat} {f : Nat → Int} (h : Mx w g s f u) (b : Below w.heap.size w v) : Mx v g s f u := ⟨h.1.below b, by rw [World.cell?_of_block (b.block g h.1.lt)]; exact h.2⟩
/-- A stream that has been fed nothing. -/
def Fresh (w : World) (s : Nat) (h : Int) : Prop := Rep w s 0 h (wdOf h) (firstE h) 0 []
set_option maxHeartbeats 1600000 in
set_option maxRecDepth 100000 in
/-- Reset. -/
theorem sreset (g : Nat) (h : Int) (s0 : Eight) (zs : List Int) (w : World) (k : Hid (Known h)) (hr : Hid (Rep w g 0 h (wdOf h) s0 0 zs)) (hT : Hid (Tables w)) :
    Calls Tryd.prog 33 #[.pointer (some ⟨g, 0, none⟩)] w fun e w' => e = .returned (.int .i64 0) ∧ Fresh w' g h ∧ Touch w w' g 0 139 := by
  obtain ⟨hc, HX3⟩ : w.cell? ⟨g, 0, none⟩ = some (.int .i64 h) ∧ Hid (w.there g 0 139) := by
    obtain ⟨half, hk, _, _⟩ := hr.out
    exact ⟨hk.hash, hk.there⟩
  have hg0 : g < w.heap.size := by have := World.block_lt_of_cell? w _ hc; simpa using this
  have hg : Hid (g < w.heap.size) := hg0
  clear hg0
  go_enter Tryd.func33, Tryd.ntmps33
  go_wp2_with (first | (go_at_call 41; refine (begin_any k.out w hT.out).mono ?_))
  rintro e1 w1 ⟨rfl, hb1⟩
  obtain ⟨T, HTT⟩ : ∃ T : List Value, Hid (T = tkL h (wdOf h) (firstE h) (fun _ => 0) 0) := ⟨_, rfl⟩
  rw [← HTT.out]
  have HG : Hid (TkBig T) := by show TkBig T; rw [HTT.out]; exact tkBig _ _ _ _ _
  have HB1 : Hid (Below w.heap.size w w1) := hb1
  have HX : Hid ((w1.alloc (.cells Tryd.zeroCells74 74)).there w1.heap.size 0 139) := there_new w1 Tryd.zeroCells74 74 139 (by rw [cells71z, size71z]; exact Nat.le_refl _)
  clear hb1 hc
  go_upto_region 4 with (first
    | (refine wpList_store_mid (by rfl) 74 (.tmp 3) (.tmp 14) (by rfl) w1.heap.size 0 T.toArray (by rfl) (by rfl) (by rw [HG.out.size]; exact HX.out) HG.out.info HG.out.one ?_)
    | fail)
  have HR2 : Hid (((w1.alloc (.cells Tryd.zeroCells74 74)).setCells w1.heap.size 0 T).rangeAt w1.heap.size 0 T) := World.rangeAt_setCells_same _ _ _ _ (by rw [HG.out.len]; exact HX.out)
  have HB2 : Hid (Below w.heap.size w ((w1.alloc (.cells Tryd.zeroCells74 74)).setCells w1.heap.size 0 T)) := below_setCells _ HB1.out.size _ _ _ (HB1.out.alloc HB1.out.size _)
  generalize (w1.alloc (.cells Tryd.zeroCells74 74)).setCells w1.heap.size 0 T = w2 at HR2 HB2 ⊢
  clear HX
  have HX2 : Hid (w2.there g 0 139) := fun j hj => by
    have q := HX3.out j hj
    rw [World.cell?_of_block (w := w) (HB2.out.block g hg.out), World.frozen?_of_block (w := w) (HB2.out.block g hg.out)]
    exact q
  go_wp2_with (first
    | (refine wpList_load_mid (by rfl) 74 (.tmp 3) (by rfl) w1.heap.size 0 (by rfl) T _ HR2.out Tryd.underlying74 rfl (by rw [HG.out.len]; exact size71) ?_)
    | (refine wpList_store_mid (by rfl) 74 (.tmp 19) (.tmp 17) (by rfl) g 0 T.toArray (by rfl) (by rfl) (by rw [HG.out.size]; exact HX2.out) HG.out.info HG.out.one ?_)
    | fail)
  go_ret
  have hT' : T = tkL h (wdOf h) (firstE h) (fun _ => 0) 0 := HTT.out
  have hra : (w2.setCells g 0 T).rangeAt g 0 T := World.rangeAt_setCells_same _ _ _ _ (by rw [HG.out.len]; exact HX2.out)
  refine ⟨rfl, rep_nil (TK.of (half := fun _ => 0) ?_ (World.there_setCells HX2.out g 0 T)) (Nat.zero_mod _), ((Touch.refl w g 0 139).below HB2.out hg.out).setCells 0 T (Nat.le_refl _) (by rw [HG.out.len]; omega)⟩
  rw [hT'] at hra ⊢
  exact hra
/-- A new mixer's cells. -/
def mxLn (n : Nat) (p : Value) : List Value := List.replicate n (.int .u8 0) ++ [.int .i64 0, p]
def mxL (p : Value) : List Value := mxLn 1024 p
theorem mxLn_length (n : Nat) (p : Value) : (mxLn n p).length = n + 2 := by simp [mxLn]
theorem mxLn_set (n : Nat) (p q : Value) : (mxLn n p).toArray.setIfInBounds (n + 1) q = (mxLn n q).toArray := by
  rw [mxLn, mxLn, List.setIfInBounds_toArray, List.set_append_right _ _ (by simp)]
  simp
theorem mxLn_room (n : Nat) (p : Value) (i : Nat) (hi : i < n) : (mxLn n p)[i]? = some (.int .u8 0) := by simp [mxLn, List.getElem?_append, hi]
theorem mxLn_used (n : Nat) (p : Value) : (mxLn n p)[n]? = some (.int .i64 0) := by simp [mxLn, List.getElem?_append]
theorem mxLn_strm (n : Nat) (p : Value) : (mxLn n p)[n + 1]? = some p := by simp [mxLn, List.getElem?_append]
theorem zero53 : Tryd.zeroCells53 = (mxL (.pointer none)).toArray := by kernel_rfl
theorem mxL_length (p : Value) : (mxL p).length = 1026 := mxLn_length 1024 p
theorem mxL_set (p q : Value) : (mxL p).toArray.setIfInBounds 1025 q = (mxL q).toArray := mxLn_set 1024 p q
theorem mx_new (w : World) (s : Nat) : Mx (w.alloc (.cells (mxL (.pointer (some ⟨s, 0, none⟩))).toArray 53)) w.heap.size s (fun _ => 0) 0 := by
  have hr := rangeAt_new w (mxL (.pointer (some ⟨s, 0, none⟩))).toArray 53
  have ht := there_new w (mxL (.pointer (some ⟨s, 0, none⟩))).toArray 53 1026 (by simp only [List.size_toArray, mxL_length]; exact Nat.le_refl _)
  have hc : ∀ i v, (mxL (.pointer (some ⟨s, 0, none⟩)))[i]? = some v → (w.alloc (.cells (mxL (.pointer (some ⟨s, 0, none⟩))).toArray 53)).cell? ⟨w.heap.size, i, none⟩ = some v := fun i v hv => by
    have := hr i v hv
    rwa [Nat.zero_add] at this
  exact ⟨⟨fun i hi => hc i _ (mxLn_room 1024 _ i hi), hc 1024 _ (mxLn_used 1024 _), ht⟩, hc 1025 _ (mxLn_strm 1024 _)⟩
set_option maxHeartbeats 1600000 in
set_option maxRecDepth 100000 in
/-- begin, of a digest that there is. -/
theorem mbegin (h : Int) (w : World) (k : Hid (Known h)) (hT : Hid (Tables w)) :
    Calls Tryd.prog 19 #[.int .i64 h] w fun e w' => ∃ g s, e = .returned (.tuple #[.pointer (some ⟨g, 0, none⟩), .int .i64 0]) ∧ Mx w' g s (fun _ => 0) 0 ∧ Fresh w' s h ∧ s < g ∧ w.heap.size ≤ s ∧ Below w.heap.size w w' := by
  go_enter Tryd.func19, Tryd.ntmps19
  go_wp2_with (first | (go_at_call 31; refine (new_good h w k hT).mono ?_))
  rintro e1 w1 ⟨s, rfl, hs, hr, hb1⟩
  have HF : Hid (Fresh w1 s h) := hr
  have HB : Hid (Below w.heap.size w w1) := hb1
  have hz : Tryd.zeroCells53.setIfInBounds 1025 (.pointer (some ⟨s, 0, none⟩)) = (mxL (.pointer (some ⟨s, 0, none⟩))).toArray := by rw [zero53, mxL_set]
  clear hr hb1
  go_wp2
  go_ret2
  have hlt : s < w1.heap.size := by
    obtain ⟨half, hk, _, _⟩ := HF.out
    have := World.block_lt_of_cell? w1 _ hk.hash
    simpa using this
  have hal : Below w1.heap.size w1 (w1.alloc (.cells (mxL (.pointer (some ⟨s, 0, none⟩))).toArray 53)) := (Below.refl _ w1).alloc (Nat.le_refl _) _
  exact ⟨w1.heap.size, s, rfl, mx_new w1 s, Rep.below HF.out hal, hlt, hs, HB.out.trans (hal.mono HB.out.size)⟩
theorem Fresh.lt {w : World} {s : Nat} {h : Int} (k : Fresh w s h) : s < w.heap.size := by
  obtain ⟨half, hk, _, _⟩ := k
  have := World.block_lt_of_cell? w _ hk.hash
  simpa using this
theorem Rep.lt {w : World} {s o : Nat} {h : Int} {wd : Bool} {s0 : Eight} {f0 : Nat} {zs : List Int} (k : Rep w s o h wd s0 f0 zs) : s < w.heap.size := by
  obtain ⟨half, hk, _, _⟩ := k
  have := World.block_lt_of_cell? w _ hk.hash
  simpa using this
set_option maxHeartbeats 400000 in
/-- Wipe. -/
theorem wipe39 (g o k c : Nat) (w : World) (ht : w.there g o k) : Calls Tryd.prog 39 #[.slice (some ⟨g, o, none⟩) k c] w fun e w' => e = .returned (.tuple #[]) ∧ w' = w.setCells g o (List.replicate k (.int .u8 0)) := by
  have he := fun ty => clear_eq w ty g o k c ht
  clear ht
  go_enter Tryd.func39, Tryd.ntmps39
  go_wp2
  go_end0
  exact ⟨rfl, rfl⟩
theorem wipe39_none (a : Option Addr) (c : Nat) (w : World) : Calls Tryd.prog 39 #[.slice a 0 c] w fun e w' => e = .returned (.tuple #[]) ∧ w' = w := by
  have he : ∀ ty, (Builtin.clear_ #[22] ty #[.slice a 0 c]).run Tryd.prog w = .ok (.tuple #[]) w := fun ty => by
    cases a <;> simp [Builtin.clear_, run_underlying Tryd.underlying22]
  go_enter Tryd.func39, Tryd.ntmps39
  go_wp2
  go_end0
  exact ⟨rfl, rfl⟩
theorem Buf.zeroed {w : World} {g u : Nat} {f : Nat → Int} (h : Buf w g f u) (n : Nat) (hn : n = 1024) : Buf (w.setCells g 0 (List.replicate n (.int .u8 0))) g (fun _ => 0) u := by
  refine ⟨fun i hi => ?_, ?_, fun j hj => World.there_setCells h.there g 0 _ j hj⟩
  · have q := World.cell?_setCells_in g (List.replicate n (Value.int .u8 0)) 0 w (fun j hj => (h.there j (by simp at hj; omega)).1) i (by simp; omega)
    rw [Nat.zero_add] at q
    rw [q, List.getElem_replicate]
  · rw [World.cell?_setCells_out g _ 0 w ⟨g, 1024, none⟩ (fun _ _ => Or.inr (by simp; omega))]
    exact h.used
set_option maxHeartbeats 800000 in
set_option maxRecDepth 100000 in
theorem bwipe (g u : Nat) (f : Nat → Int) (w : World) (hb : Hid (Buf w g f u)) :
    Calls Tryd.prog 32 #[.pointer (some ⟨g, 0, none⟩)] w fun e w' => e = .returned (.tuple #[]) ∧ Buf w' g (fun _ => 0) 0 ∧ Touch w w' g 0 1025 := by
  obtain ⟨n, hn⟩ : ∃ n : Nat, n = 1024 := ⟨_, rfl⟩
  have hs : ∀ v, (Instr.sliceAt 48 (.pointer (some ⟨g, 0, none⟩)) none none none).run Tryd.prog v = .ok (.slice (some ⟨g, 0, none⟩) n n) v := fun v => by
    rw [run_sliceAt_array_all v 48 ⟨g, 0, none⟩ und48, elem48, sizeOf5b, len48, hn]
    simp [Result.andThen, slicedAt, Addr.add]
  have HW : Hid (Calls Tryd.prog 39 #[.slice (some ⟨g, 0, none⟩) n n] w fun e w' => e = .returned (.tuple #[]) ∧ w' = w.setCells g 0 (List.replicate n (.int .u8 0))) := wipe39 g 0 n n w (fun j hj => hb.out.there j (by omega))
  have HZ : Hid (Buf (w.setCells g 0 (List.replicate n (.int .u8 0))) g (fun _ => 0) u ∧ Touch w (w.setCells g 0 (List.replicate n (.int .u8 0))) g 0 1025) := ⟨hb.out.zeroed n hn, (Touch.refl w g 0 1025).setCells 0 _ (Nat.le_refl _) (by simp; omega)⟩
  have HN : Hid (n = 1024) := hn
  clear hn hb
  go_enter Tryd.func32, Tryd.ntmps32
  go_wp2_with (first | (go_at_call 39; refine HW.out.mono ?_))
  rintro e w1 ⟨rfl, hw1⟩
  rw [← hw1] at HZ
  have hu : w1.cell? ⟨g, 1024, none⟩ = some (.int .i64 (u : Nat)) := HZ.out.1.used
  have hfu : w1.frozen? ⟨g, 1024, none⟩ = false := by have := (HZ.out.1.there 1024 (by omega)).2; simpa using this
  clear hw1 HW
  go_wp2
  go_end0
  exact ⟨rfl, HZ.out.1.setUsed 0, HZ.out.2.setCell 1024 _ (by omega) (by omega)⟩
set_option maxHeartbeats 800000 in
set_option maxRecDepth 100000 in
/-- end. -/
theorem mend (g s u : Nat) (f : Nat → Int) (h : Int) (s0 : Eight) (zs : List Int) (w : World) (k : Hid (Known h)) (hm : Hid (Mx w g s f u)) (hr : Hid (Rep w s 0 h (wdOf h) s0 0 zs)) (hT : Hid (Tables w)) (hne : g ≠ s) (hg : 4 ≤ g) :
    Calls Tryd.prog 20 #[.pointer (some ⟨g, 0, none⟩)] w fun e w' => e = .returned (.tuple #[]) ∧ Tw w w' g s := by
  go_enter Tryd.func20, Tryd.ntmps20
  go_wp2_with (first | (go_at_call 32; refine (bwipe g u f w hm.out.1).mono ?_))
  rintro e w1 ⟨rfl, hb1, ht1⟩
  have hm1 : Mx w1 g s (fun _ => 0) 0 := hm.out.touch ht1 hb1
  have hc := hm1.2
  have HR1 : Hid (Rep w1 s 0 h (wdOf h) s0 0 zs) := Rep.far hr.out ht1 (Ne.symm hne)
  have HT1 : Hid (Tables w1) := hT.out.touch ht1 (by omega)
  have HW1 : Hid (Touch w w1 g 0 1025) := ht1
  clear hb1 ht1 hm1
  go_wp2_with (first | (go_at_call 33; refine (sreset s h s0 zs w1 k HR1 HT1).mono ?_))
  rintro e w2 ⟨rfl, _, ht2⟩
  go_wp2
  go_end0
  exact ⟨rfl, (HW1.out.twG s).trans (ht2.twS g)⟩
set_option maxHeartbeats 800000 in
set_option maxRecDepth 100000 in
/-- tell: what is used, into a list of as many bytes at least. -/
theorem tell_ok (g u b off m c : Nat) (f : Nat → Int) (w : World) (hb : Hid (Buf w g f u)) (hu : u ≤ 1024) (hm : u ≤ m) (ht : Hid (w.there b off u)) :
    Calls Tryd.prog 23 #[.pointer (some ⟨g, 0, none⟩), .slice (some ⟨b, off, none⟩) m c] w fun e w' => e = .returned (.tuple #[]) ∧ ∃ q, w' = (w.drewN q).setCells b off (cellsU8 ((List.range u).map f)) := by
  go_enter Tryd.func23, Tryd.ntmps23
  go_wp2_with (first | (go_at_call 35; refine (bytes_ok g u f w hb hu).mono ?_))
  rintro e w1 ⟨rfl, q, rfl⟩
  have hv : View (w.drewN q) (.slice (some ⟨g, 0, none⟩) u u) ((List.range u).map f) := by
    refine ⟨_, u, by simp, by simp, by unfold maxLen; omega, (fun e => by cases e), .inr ⟨g, 0, rfl, fun i hi => ?_⟩⟩
    simp at hi
    rw [Nat.zero_add]
    have := hb.out.room i (by omega)
    show w.cell? _ = _
    rw [this]
    simp [List.getD, hi]
  have hcp := copy_eq (w.drewN q) b off m c (some ⟨g, 0, none⟩) u u u ((List.range u).map f) (by omega) hv (fun j hj => ht.out j hj)
  rw [List.take_of_length_le (by simp)] at hcp
  obtain ⟨L, HL⟩ : ∃ L, Hid (L = cellsU8 ((List.range u).map f)) := ⟨_, rfl⟩
  rw [← HL.out] at hcp
  clear hv
  go_wp2
  go_end0
  exact ⟨rfl, q, by rw [HL.out]⟩
end Go.Proofs.YtcopkohklgbpgaaDoor
