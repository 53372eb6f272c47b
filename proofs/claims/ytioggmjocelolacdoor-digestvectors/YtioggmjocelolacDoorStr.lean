import Derived.Test.YtioggmjocelolacDoorSb
namespace Go.Proofs.YtioggmjocelolacDoor
open Go.RowKit
set_option linter.unusedVariables false
set_option linter.unusedSimpArgs false
/-- A number of four bytes, highest first. -/
def be4 (i : Int) : List Int := [i / 16777216, i / 65536, i / 256 % 256, i % 256]
/-- A block of PBKDF2. -/
def strT (h : Int) (key salt : List Int) (t1 i : Nat) : List Int := (sbS h (stateOf h key 54) (stateOf h key 92) (salt ++ be4 (i : Nat)) t1).take (szOf h)
def strL (h : Int) (key salt : List Int) (t1 : Nat) : Nat → List Int
  | 0 => []
  | q + 1 => strL h key salt t1 q ++ strT h key salt t1 (q + 1)
theorem strT_length {h : Int} (k : Known h) (key salt : List Int) (t1 i : Nat) : (strT h key salt t1 i).length = szOf h := by
  have h1 := sbS_length h (stateOf h key 54) (stateOf h key 92) (salt ++ be4 (i : Nat)) t1
  have h2 := szOf_le k
  rw [strT, List.length_take, h1]
  omega
theorem strL_length {h : Int} (k : Known h) (key salt : List Int) (t1 : Nat) : ∀ q, (strL h key salt t1 q).length = q * szOf h
  | 0 => by simp [strL]
  | q + 1 => by rw [strL, List.length_append, strL_length k key salt t1 q, strT_length k, Nat.succ_mul]
theorem strL_prefix {h : Int} (key salt : List Int) (t1 i : Nat) : ∀ j, ∃ r, strL h key salt t1 (i + j) = strL h key salt t1 i ++ r
  | 0 => ⟨[], by simp⟩
  | j + 1 => by
    obtain ⟨r, hr⟩ := strL_prefix (h := h) key salt t1 i j
    exact ⟨r ++ strT h key salt t1 (i + j + 1), by rw [← Nat.add_assoc, strL, hr, List.append_assoc]⟩
/-- A block that stays as it is, as cells. -/
theorem range_block {w v : World} {b : Nat} {C : List Value} (hr : w.rangeAt b 0 C) (hb : v.heap[b]? = w.heap[b]?) : v.rangeAt b 0 C := fun j x hx => by
  rw [World.cell?_of_block (a := ⟨b, 0 + j, none⟩) hb]
  exact hr j x hx
theorem there_block {w v : World} {b n : Nat} (hr : w.there b 0 n) (hb : v.heap[b]? = w.heap[b]?) : v.there b 0 n := fun j hj => by
  rw [World.cell?_of_block (a := ⟨b, 0 + j, none⟩) hb, World.frozen?_of_block (a := ⟨b, 0 + j, none⟩) hb]
  exact hr j hj
theorem view4 (u : World) (t : TypeId) (a b c d : Int) : View (u.alloc (.cells #[.int .u8 a, .int .u8 b, .int .u8 c, .int .u8 d] t)) (.slice (some ⟨u.heap.size, 0, none⟩) 4 4) [a, b, c, d] := by
  refine ⟨_, 4, rfl, by simp, by simp [maxLen], (fun e => by cases e), .inr ⟨u.heap.size, 0, rfl, fun i hi => ?_⟩⟩
  have hi' : i < 4 := by simpa using hi
  rw [World.cell?_alloc_at _ _ _ _ rfl]
  match i, hi' with
  | 0, _ => rfl
  | 1, _ => rfl
  | 2, _ => rfl
  | 3, _ => rfl
theorem add_nil (wd : Bool) (g o : Nat) (h : Int) (s0 : Eight) (f0 : Nat) (zs : List Int) (v : Value) (w : World) (hblk : blockOf h = bsz wd) (hr : Rep w g o h wd s0 f0 zs) (hv : View w v []) (hfn : f0 + zs.length ≤ 4611686018427387904) :
    Calls Tryd.prog 38 #[.pointer (some ⟨g, o, none⟩), v] w fun e w' => e = .returned (.tuple #[]) ∧ Touch w w' g o 139 ∧ Rep w' g o h wd s0 f0 zs := by
  obtain ⟨half, hk, hh, hf⟩ := hr
  obtain ⟨a, cap, rfl, h1, h2, h3, h4⟩ := hv
  refine (add_empty_any wd g o h _ half _ cap a w hblk hk hfn (by unfold maxLen at h2; omega) h3).mono ?_
  rintro e w' ⟨rfl, ht, hk'⟩
  exact ⟨rfl, ht, half, hk', hh, hf⟩
/-- What Stretch's memory is within a round. -/
structure SK (w wr u : World) (gm gs B : Nat) (C : List Value) (V : Value) (L : Nat) (X : List Value) : Prop where
  below : Below w.heap.size w u
  size : wr.heap.size ≤ u.heap.size
  lt : w.heap.size ≤ gm ∧ gm < gs ∧ gs < B ∧ B ≤ wr.heap.size
  salt : u.rangeAt gs 0 C
  room : u.there gm 0 155
  out : u.ownsRow B 5 1 V L X
theorem SK.touch {w wr u v : World} {gm gs B : Nat} {C : List Value} {V : Value} {L o n : Nat} {X : List Value} (s : SK w wr u gm gs B C V L X) (t : Touch u v gm o n) : SK w wr v gm gs B C V L X := by
  have hl := s.lt
  have hz := s.size
  exact ⟨s.below.trans (t.toBelow hl.1 s.below.size), Nat.le_trans hz t.size, hl, range_block s.salt (t.block gs (by omega) (by omega)), t.there _ _ s.room, owns_keep s.out (fun j hj hj2 => t.block j hj2 (by omega))⟩
theorem SK.more {w wr u v : World} {gm gs B : Nat} {C : List Value} {V : Value} {L : Nat} {X : List Value} (s : SK w wr u gm gs B C V L X) (b : Below u.heap.size u v) : SK w wr v gm gs B C V L X := by
  have hl := s.lt
  have hz := s.size
  exact ⟨s.below.trans (b.mono s.below.size), Nat.le_trans hz b.size, hl, range_block s.salt (b.block gs (by omega)), there_block s.room (b.block gm (by omega)), owns_keep s.out (fun j hj hj2 => b.block j hj2)⟩
set_option maxHeartbeats 1600000 in
set_option maxRecDepth 100000 in
/-- Stretch of what may be asked. -/
theorem stretch_ok (h : Int) (pa sa : Option Addr) (pn pc sl sc n : Nat) (key salt : List Int) (T : Int) (t1 : Nat) (w : World) (k : Hid (Known h)) (hkv : Hid (View w (.slice pa pn pc) key)) (hsv : Hid (View w (.slice sa sl sc) salt)) (hT : Hid (Tables w))
    (hp : (pn : Int) ≤ 65536) (hs : (sl : Int) ≤ 65536) (hT1 : T - 1 = (t1 : Nat)) (ht1 : (t1 : Int) ≤ 1048575) (hn1 : (1 : Int) ≤ n) (hn2 : (n : Int) ≤ 65536) (hE : Hid (strE h T (n : Nat) = 0)) :
    Calls Tryd.prog 13 #[.int .i64 h, .slice pa pn pc, .slice sa sl sc, .int .i64 T, .int .i64 n] w fun e w' => ∃ v q, e = .returned (.tuple #[v, .int .i64 0]) ∧ n ≤ q * szOf h ∧ w'.ownsRow w.heap.size 5 1 v n (cellsU8 ((strL h key salt t1 q).take n)) ∧ Below w.heap.size w w' := by
  have HKL : Hid (key.length = pn) := (view_bounds hkv.out).1
  have HIL : Hid (salt.length = sl) := (view_bounds hsv.out).1
  have HBS : Hid (bsz (wdOf h) ≤ 128) := by show _ ≤ _; cases wdOf h <;> decide
  obtain ⟨i0, hi0, hz0, hz1, hz2⟩ := info_parts Tryd.info5
  have HMS : Hid (∀ u, Calls Tryd.prog 37 #[.int .i64 h, .int .i64 (pn : Nat), .int .i64 (sl : Nat), .int .i64 T, .int .i64 (n : Nat)] u fun e w' => e = .returned (.int .i64 0) ∧ w' = u) := fun u => by
    have q := mayStretch_any h pn sl T n u (by omega) (by omega) (by omega) (by omega) (by omega) (by omega)
    rw [hE.out] at q
    exact q
  go_enter Tryd.func13, Tryd.ntmps13
  go_wp2_with (first
    | (go_at_call 37; refine (HMS.out _).mono ?_; rintro e1 w1 ⟨rfl, hw1⟩; obtain rfl := hw1.symm)
    | (go_at_call 32; refine (newMac_any h _ key w k.out hkv.out (by have := HKL.out; omega) hT.out).mono ?_))
  rintro e2 w2 ⟨gm, rfl, hg2, hm2, hb2⟩
  obtain ⟨si, HSI⟩ : ∃ E : Eight, Hid (E = stateOf h key 54) := ⟨_, (show _ = _ from rfl)⟩
  obtain ⟨so, HSO⟩ : ∃ E : Eight, Hid (E = stateOf h key 92) := ⟨_, (show _ = _ from rfl)⟩
  rw [← HSI.out, ← HSO.out] at hm2
  have HB2 : Hid (Below w.heap.size w w2 ∧ w.heap.size ≤ gm ∧ MRep w2 gm h si so [] ∧ gm < w2.heap.size) := ⟨hb2, hg2, hm2, hm2.2.lt⟩
  have hg4 : 4 ≤ gm := Nat.le_trans hT.out.size hg2
  have HAS : Hid (Calls Tryd.prog 38 #[.pointer (some ⟨gm, 0, none⟩), .slice sa sl sc] w2 fun e w' => e = .returned (.tuple #[]) ∧ Touch w2 w' gm 0 139 ∧ Rep w' gm 0 h (wdOf h) si (bsz (wdOf h)) salt) := by
    have hv : View w2 (.slice sa sl sc) salt := hsv.out.kept (fun j hj => HB2.out.1.block j hj)
    by_cases hs0 : salt = []
    · rw [hs0] at hv
      have q := add_nil (wdOf h) gm 0 h si (bsz (wdOf h)) [] _ w2 k.out.block HB2.out.2.2.1.1 hv (by have := HBS.out; simp; omega)
      rw [hs0]
      exact q
    · have hap : Apart (.slice sa sl sc) gm 0 139 := fun b' off l c' e => .inl (by have := view_lt hsv.out hs0 b' off l c' e; have := HB2.out.2.1; omega)
      have q := add_rep (wdOf h) gm 0 h si (bsz (wdOf h)) [] salt _ w2 k.out.block HB2.out.2.2.1.1 hv hap (hT.out.below HB2.out.1 hT.out.size) hg4 (by have := HBS.out; have := HIL.out; simp; omega)
      rw [List.nil_append] at q
      exact q
  clear hb2 hg2 hm2
  go_wp2_with (go_at_call 38; refine HAS.out.mono ?_)
  rintro e3 w3 ⟨rfl, ht3, hr3⟩
  obtain ⟨half, hk3, hh3, hf3⟩ := hr3
  obtain ⟨C, HTT⟩ : ∃ C : List Value, Hid (C = mkL h (wdOf h) (TT (wdOf h) (fnz salt) si (salt.length / bsz (wdOf h))) half (bsz (wdOf h) + salt.length) si so) := ⟨_, (show _ = _ from rfl)⟩
  have HG : Hid (McBig C) := by show McBig C; rw [HTT.out]; exact mcBig _ _ _ _ _ _ _
  have hma3 := HB2.out.2.2.1.2.touch ht3
  have HR : Hid (w3.rangeAt gm 0 C) := by show w3.rangeAt gm 0 C; rw [HTT.out]; exact mk_range hk3 hma3
  have HH : Hid ((∀ i, i < salt.length % bsz (wdOf h) → half i = fnz salt (bsz (wdOf h) * (salt.length / bsz (wdOf h)) + i)) ∧ bsz (wdOf h) % bsz (wdOf h) = 0) := ⟨hh3, hf3⟩
  have HX : Hid ((w3.alloc (.cells Tryd.zeroCells71 71)).there w3.heap.size 0 155) := there_new w3 Tryd.zeroCells71 71 155 (by rw [zero73]; exact Nat.le_refl _)
  have HB3 : Hid (Below w.heap.size w w3 ∧ w2.heap.size ≤ w3.heap.size ∧ w3.there gm 0 155) := ⟨HB2.out.1.trans (ht3.toBelow HB2.out.2.1 HB2.out.1.size), ht3.size, hma3.there⟩
  clear hk3 hh3 hf3 hma3 ht3 HAS
  go_upto_region 9 with (first
    | (refine wpList_load_mid (by rfl) 71 (.tmp 45) (by rfl) gm 0 (by rfl) C _ HR.out Tryd.underlying71 rfl (by rw [HG.out.len]; exact size73) ?_)
    | (refine wpList_store_mid (by rfl) 71 (.tmp 15) (.tmp 46) (by rfl) w3.heap.size 0 C.toArray (by rfl) (by rfl) (by rw [HG.out.size]; exact HX.out) HG.out.info HG.out.one ?_)
    | fail)
  obtain ⟨gs, hgs⟩ : ∃ g, w3.heap.size = g := ⟨_, rfl⟩
  have HR4 : Hid (((w3.alloc (.cells Tryd.zeroCells71 71)).setCells w3.heap.size 0 C).rangeAt w3.heap.size 0 C) := World.rangeAt_setCells_same _ _ _ _ (by rw [HG.out.len]; exact HX.out)
  have HB4 : Hid (Below w3.heap.size w3 ((w3.alloc (.cells Tryd.zeroCells71 71)).setCells w3.heap.size 0 C) ∧ ((w3.alloc (.cells Tryd.zeroCells71 71)).setCells w3.heap.size 0 C).heap.size = w3.heap.size + 1) := ⟨below_setCells _ (Nat.le_refl _) _ _ _ ((Below.refl _ _).alloc (Nat.le_refl _) _), by rw [size_setCells]; simp⟩
  generalize (w3.alloc (.cells Tryd.zeroCells71 71)).setCells w3.heap.size 0 C = w4 at HR4 HB4 ⊢
  clear HX
  go_wp2_with (first
    | (at_make; go_must (refine wpList_make_own _ rfl _ _ 22 rfl w4.heap.size 5 i0 (.int .u8 0) 1 Tryd.underlying22 hi0 hz0 hz1 .i64 .i64 (n : Int) n rfl rfl ?_ ?_ ?_ ?_ ?_)))
  · rfl
  · rw [hz2]; omega
  · unfold maxLen; omega
  · exact Nat.le_refl _
  intro w5 hown5 hgrow5
  have h45 : Below w4.heap.size w4 w5 := (Below.refl _ _).grown hgrow5 (Nat.le_refl _) (by intro k hk; cases hk)
  have hb45 := HB4.out.1.trans (h45.mono (by have := HB4.out.2; omega))
  obtain ⟨B, hB⟩ : ∃ B, w4.heap.size = B := ⟨_, rfl⟩
  rw [hgs] at HR4 HB4
  rw [hB] at hown5
  try rw [hB]
  have HLT : Hid (w.heap.size ≤ gm ∧ gm < gs ∧ gs < B) := ⟨HB2.out.2.1, by have h1 := HB2.out.2.2.2; have h2 := HB3.out.2.1; omega, by have := HB4.out.2; omega⟩
  have HO5 : Hid (w5.ownsRow B 5 1 (.slice (some ⟨B, 0, none⟩) 0 n) 0 (cellsU8 ((strL h key salt t1 0).take n))) := by show World.ownsRow _ _ _ _ _ _ _; simpa [strL, cellsU8] using hown5
  have HB5 : Hid (Below w.heap.size w w5 ∧ B ≤ w5.heap.size ∧ w5.rangeAt gs 0 C ∧ w5.there gm 0 155) := by
    have h1 := HB3.out.1.size
    have h2 := HB4.out.2
    have h3 := HB2.out.2.2.2
    have h4 := HB3.out.2.1
    refine ⟨HB3.out.1.trans (hb45.mono (by omega)), by rw [← hB]; exact h45.size, range_block HR4.out (h45.block gs (by omega)), there_block HB3.out.2.2 (hb45.block gm (by omega))⟩
  obtain ⟨sz, HSZ⟩ : ∃ sz : Nat, Hid (sz = szOf h) := ⟨_, (show _ = _ from rfl)⟩
  have hs0 : (0 : Int) < sz := by rw [HSZ.out]; rcases szOf_known k.out with e | e | e | e <;> rw [e] <;> decide
  have hs64 : (sz : Int) ≤ 64 := by rw [HSZ.out]; have := szOf_le k.out; omega
  clear hown5 hgrow5 h45 hb45 HB4 HR4 hB hgs HB3 HR
  clear w4
  go_wp2
  go_loopw [16, 17] (fun vo vi wr => ∃ q q1 L : Nat, vi = .int .i64 q1 ∧ q1 = q + 1 ∧ Hid (L = min n (q * sz)) ∧ Hid (wr.ownsRow B 5 1 vo L (cellsU8 ((strL h key salt t1 q).take n))) ∧ Hid (Below w.heap.size w wr ∧ B ≤ wr.heap.size ∧ wr.rangeAt gs 0 C ∧ wr.there gm 0 155)) (fun _ vi _ => 70000 - (intOf vi).toNat)
  case atStart => exact ⟨0, 1, 0, rfl, rfl, (by show _ = _; simp), HO5, HB5⟩
  case round =>
    obtain ⟨q, q1, L, rfl, hq1, HL, HO, HB⟩ := hrel
    clear HO5 HB5
    obtain ⟨oa, oc, rfl, ho1, ho2⟩ := owns_form2 HO.out
    unfold maxLen at ho2
    by_cases hlt : (L : Int) < n
    · have hLq : q * sz < n := by have := HL.out; omega
      have hq255 : q < 65536 := by
        have h6 : q * 1 ≤ q * sz := Nat.mul_le_mul_left q (by omega)
        omega
      have HLE : Hid (L = q * sz) := by have := HL.out; show _ = _; omega
      have HQ1 : Hid (q1 = q + 1) := hq1
      have hq1b : (q1 : Int) ≤ 65536 := by omega
      have hq1a : (1 : Int) ≤ (q1 : Int) := by omega
      clear hq1 hLq
      go_upto_region 14 with (first
        | (refine wpList_load_mid (by rfl) 71 (.tmp 15) (by rfl) gs 0 (by rfl) C _ HB.out.2.2.1 Tryd.underlying71 rfl (by rw [HG.out.len]; exact size73) ?_)
        | (refine wpList_store_mid (by rfl) 71 (.tmp 57) (.tmp 56) (by rfl) gm 0 C.toArray (by rfl) (by rfl) (by rw [HG.out.size]; exact HB.out.2.2.2) HG.out.info HG.out.one ?_)
        | fail)
      have HTC : Hid (Touch wr (wr.setCells gm 0 C) gm 0 155) := (Touch.refl wr gm 0 155).setCells 0 C (Nat.le_refl _) (by rw [HG.out.len]; omega)
      have HM6 : Hid (MRep (wr.setCells gm 0 C) gm h si so salt) := by
        have hr := World.rangeAt_setCells_same wr gm 0 C (by rw [HG.out.len]; exact HB.out.2.2.2)
        rw [HTT.out] at hr ⊢
        have q := mk_of hr (World.there_setCells HB.out.2.2.2 _ _ _)
        exact ⟨⟨half, q.1, HH.out⟩, q.2⟩
      have HK6 : Hid (SK w wr (wr.setCells gm 0 C) gm gs B C (.slice oa L oc) L (cellsU8 ((strL h key salt t1 q).take n))) := (SK.mk HB.out.1 (Nat.le_refl _) ⟨HLT.out.1, HLT.out.2.1, HLT.out.2.2, HB.out.2.1⟩ HB.out.2.2.1 HB.out.2.2.2 HO.out).touch HTC.out
      generalize wr.setCells gm 0 C = w6 at HTC HM6 HK6 ⊢
      have HAB : Hid (Calls Tryd.prog 38 #[.pointer (some ⟨gm, 0, none⟩), .slice (some ⟨w6.heap.size, 0, none⟩) 4 4] (w6.alloc (.cells #[.int .u8 ((q1 : Nat) / 16777216), .int .u8 ((q1 : Nat) / 65536), .int .u8 ((q1 : Nat) / 256 % 256), .int .u8 ((q1 : Nat) % 256)] 5)) fun e w' => e = .returned (.tuple #[]) ∧ MRep w' gm h si so (salt ++ be4 (q1 : Nat)) ∧ SK w wr w' gm gs B C (.slice oa L oc) L (cellsU8 ((strL h key salt t1 q).take n))) := by
        have ha := below_alloc1 w6 (.cells #[.int .u8 ((q1 : Nat) / 16777216), .int .u8 ((q1 : Nat) / 65536), .int .u8 ((q1 : Nat) / 256 % 256), .int .u8 ((q1 : Nat) % 256)] 5)
        have hK := HK6.out.more ha
        have hMa := HM6.out.below ha
        have hlt := HM6.out.2.lt
        refine (add_rep (wdOf h) gm 0 h si (bsz (wdOf h)) salt (be4 (q1 : Nat)) _ _ k.out.block hMa.1 (view4 w6 5 _ _ _ _) (fun b' off l c' e => .inl (by injection e with e1 e2 e3; injection e1 with e1; injection e1 with e4 e5; omega)) (hT.out.below hK.below hT.out.size) hg4 (by have := HBS.out; have := HIL.out; simp [be4]; omega)).mono ?_
        rintro e w' ⟨rfl, ht, hr⟩
        exact ⟨rfl, ⟨hr, hMa.2.touch ht⟩, hK.touch ht⟩
      clear HTC HM6 HO
      go_wp2_with (go_at_call 38; refine HAB.out.mono ?_)
      rintro e7 w7 ⟨rfl, hm7, hk7⟩
      have HM7 : Hid (MRep w7 gm h si so (salt ++ be4 (q1 : Nat))) := hm7
      have HT7 : Hid (Tables w7) := hT.out.below hk7.below hT.out.size
      have HF7 : Hid ((salt ++ be4 (q1 : Nat)).length ≤ 1152921504606000000) := by show _ ≤ _; have := HIL.out; simp [be4]; omega
      have HK7 : Hid (SK w wr w7 gm gs B C (.slice oa L oc) L (cellsU8 ((strL h key salt t1 q).take n))) := hk7
      clear hm7 hk7 HAB HK6
      go_wp2_with (go_at_call 39; refine (stretchBlock gm h si so _ T t1 w7 k HM7 HT7 hg4 HF7 hT1 (by omega)).mono ?_)
      rintro e8 w8 ⟨rfl, ht8, hk8⟩
      obtain ⟨D, HDC⟩ : ∃ D : List Value, Hid (D = cellsU8 (sbS h si so (salt ++ be4 (q1 : Nat)) t1)) := ⟨_, rfl⟩
      rw [← HDC.out]
      have HDL : Hid (D.length = 64) := by show D.length = 64; rw [HDC.out, cellsU8_length, sbS_length]
      have HDA : Hid (D.toArray.size = 64) := by show D.toArray.size = 64; simpa using HDL.out
      have HDO : Hid (D.toArray.all (·.oneCell') = true) := all_oneCell_toArray (by rw [HDC.out]; exact cellsU8_one _)
      have HK8 : Hid (SK w wr w8 gm gs B C (.slice oa L oc) L (cellsU8 ((strL h key salt t1 q).take n))) := HK7.out.touch ht8
      have HC8 : Hid (w8.cell? ⟨gm, 0, none⟩ = some (.int .i64 h)) := by obtain ⟨_, _, _, q⟩ := hk8; exact q.hash
      have HX8 : Hid ((w8.alloc (.cells #[.int .u8 0, .int .u8 0, .int .u8 0, .int .u8 0, .int .u8 0, .int .u8 0, .int .u8 0, .int .u8 0, .int .u8 0, .int .u8 0, .int .u8 0, .int .u8 0, .int .u8 0, .int .u8 0, .int .u8 0, .int .u8 0, .int .u8 0, .int .u8 0, .int .u8 0, .int .u8 0, .int .u8 0, .int .u8 0, .int .u8 0, .int .u8 0, .int .u8 0, .int .u8 0, .int .u8 0, .int .u8 0, .int .u8 0, .int .u8 0, .int .u8 0, .int .u8 0, .int .u8 0, .int .u8 0, .int .u8 0, .int .u8 0, .int .u8 0, .int .u8 0, .int .u8 0, .int .u8 0, .int .u8 0, .int .u8 0, .int .u8 0, .int .u8 0, .int .u8 0, .int .u8 0, .int .u8 0, .int .u8 0, .int .u8 0, .int .u8 0, .int .u8 0, .int .u8 0, .int .u8 0, .int .u8 0, .int .u8 0, .int .u8 0, .int .u8 0, .int .u8 0, .int .u8 0, .int .u8 0, .int .u8 0, .int .u8 0, .int .u8 0, .int .u8 0] 72)).there w8.heap.size 0 64) := there_new w8 _ 72 64 (by decide)
      clear ht8 hk8 HM7 HT7 HF7 HK7
      go_upto_region 16 with (first
        | (refine wpList_store_mid (by rfl) 72 (.tmp 18) (.tmp 76) (by rfl) w8.heap.size 0 D.toArray (by rfl) (by rfl) (by rw [HDA.out]; exact HX8.out) (by rw [HDA.out]; exact size75) HDO.out ?_)
        | fail)
      have HB9 : Hid (Below w8.heap.size w8 ((w8.alloc (.cells #[.int .u8 0, .int .u8 0, .int .u8 0, .int .u8 0, .int .u8 0, .int .u8 0, .int .u8 0, .int .u8 0, .int .u8 0, .int .u8 0, .int .u8 0, .int .u8 0, .int .u8 0, .int .u8 0, .int .u8 0, .int .u8 0, .int .u8 0, .int .u8 0, .int .u8 0, .int .u8 0, .int .u8 0, .int .u8 0, .int .u8 0, .int .u8 0, .int .u8 0, .int .u8 0, .int .u8 0, .int .u8 0, .int .u8 0, .int .u8 0, .int .u8 0, .int .u8 0, .int .u8 0, .int .u8 0, .int .u8 0, .int .u8 0, .int .u8 0, .int .u8 0, .int .u8 0, .int .u8 0, .int .u8 0, .int .u8 0, .int .u8 0, .int .u8 0, .int .u8 0, .int .u8 0, .int .u8 0, .int .u8 0, .int .u8 0, .int .u8 0, .int .u8 0, .int .u8 0, .int .u8 0, .int .u8 0, .int .u8 0, .int .u8 0, .int .u8 0, .int .u8 0, .int .u8 0, .int .u8 0, .int .u8 0, .int .u8 0, .int .u8 0, .int .u8 0] 72)).setCells w8.heap.size 0 D)) := below_setCells _ (Nat.le_refl _) _ _ _ ((Below.refl _ _).alloc (Nat.le_refl _) _)
      have HR9 : Hid (((w8.alloc (.cells #[.int .u8 0, .int .u8 0, .int .u8 0, .int .u8 0, .int .u8 0, .int .u8 0, .int .u8 0, .int .u8 0, .int .u8 0, .int .u8 0, .int .u8 0, .int .u8 0, .int .u8 0, .int .u8 0, .int .u8 0, .int .u8 0, .int .u8 0, .int .u8 0, .int .u8 0, .int .u8 0, .int .u8 0, .int .u8 0, .int .u8 0, .int .u8 0, .int .u8 0, .int .u8 0, .int .u8 0, .int .u8 0, .int .u8 0, .int .u8 0, .int .u8 0, .int .u8 0, .int .u8 0, .int .u8 0, .int .u8 0, .int .u8 0, .int .u8 0, .int .u8 0, .int .u8 0, .int .u8 0, .int .u8 0, .int .u8 0, .int .u8 0, .int .u8 0, .int .u8 0, .int .u8 0, .int .u8 0, .int .u8 0, .int .u8 0, .int .u8 0, .int .u8 0, .int .u8 0, .int .u8 0, .int .u8 0, .int .u8 0, .int .u8 0, .int .u8 0, .int .u8 0, .int .u8 0, .int .u8 0, .int .u8 0, .int .u8 0, .int .u8 0, .int .u8 0] 72)).setCells w8.heap.size 0 D).rangeAt w8.heap.size 0 D) := World.rangeAt_setCells_same _ _ _ _ (by rw [HDL.out]; exact HX8.out)
      have HK9 : Hid (SK w wr ((w8.alloc (.cells #[.int .u8 0, .int .u8 0, .int .u8 0, .int .u8 0, .int .u8 0, .int .u8 0, .int .u8 0, .int .u8 0, .int .u8 0, .int .u8 0, .int .u8 0, .int .u8 0, .int .u8 0, .int .u8 0, .int .u8 0, .int .u8 0, .int .u8 0, .int .u8 0, .int .u8 0, .int .u8 0, .int .u8 0, .int .u8 0, .int .u8 0, .int .u8 0, .int .u8 0, .int .u8 0, .int .u8 0, .int .u8 0, .int .u8 0, .int .u8 0, .int .u8 0, .int .u8 0, .int .u8 0, .int .u8 0, .int .u8 0, .int .u8 0, .int .u8 0, .int .u8 0, .int .u8 0, .int .u8 0, .int .u8 0, .int .u8 0, .int .u8 0, .int .u8 0, .int .u8 0, .int .u8 0, .int .u8 0, .int .u8 0, .int .u8 0, .int .u8 0, .int .u8 0, .int .u8 0, .int .u8 0, .int .u8 0, .int .u8 0, .int .u8 0, .int .u8 0, .int .u8 0, .int .u8 0, .int .u8 0, .int .u8 0, .int .u8 0, .int .u8 0, .int .u8 0] 72)).setCells w8.heap.size 0 D) gm gs B C (.slice oa L oc) L (cellsU8 ((strL h key salt t1 q).take n))) := HK8.out.more HB9.out
      have c0 : ((w8.alloc (.cells #[.int .u8 0, .int .u8 0, .int .u8 0, .int .u8 0, .int .u8 0, .int .u8 0, .int .u8 0, .int .u8 0, .int .u8 0, .int .u8 0, .int .u8 0, .int .u8 0, .int .u8 0, .int .u8 0, .int .u8 0, .int .u8 0, .int .u8 0, .int .u8 0, .int .u8 0, .int .u8 0, .int .u8 0, .int .u8 0, .int .u8 0, .int .u8 0, .int .u8 0, .int .u8 0, .int .u8 0, .int .u8 0, .int .u8 0, .int .u8 0, .int .u8 0, .int .u8 0, .int .u8 0, .int .u8 0, .int .u8 0, .int .u8 0, .int .u8 0, .int .u8 0, .int .u8 0, .int .u8 0, .int .u8 0, .int .u8 0, .int .u8 0, .int .u8 0, .int .u8 0, .int .u8 0, .int .u8 0, .int .u8 0, .int .u8 0, .int .u8 0, .int .u8 0, .int .u8 0, .int .u8 0, .int .u8 0, .int .u8 0, .int .u8 0, .int .u8 0, .int .u8 0, .int .u8 0, .int .u8 0, .int .u8 0, .int .u8 0, .int .u8 0, .int .u8 0] 72)).setCells w8.heap.size 0 D).cell? ⟨gm, 0, none⟩ = some (.int .i64 h) := by
        rw [HB9.out.cell (p := ⟨gm, 0, none⟩) (by show gm < _; have := HK8.out.lt; have := HK8.out.size; omega)]
        exact HC8.out
      generalize (w8.alloc (.cells #[.int .u8 0, .int .u8 0, .int .u8 0, .int .u8 0, .int .u8 0, .int .u8 0, .int .u8 0, .int .u8 0, .int .u8 0, .int .u8 0, .int .u8 0, .int .u8 0, .int .u8 0, .int .u8 0, .int .u8 0, .int .u8 0, .int .u8 0, .int .u8 0, .int .u8 0, .int .u8 0, .int .u8 0, .int .u8 0, .int .u8 0, .int .u8 0, .int .u8 0, .int .u8 0, .int .u8 0, .int .u8 0, .int .u8 0, .int .u8 0, .int .u8 0, .int .u8 0, .int .u8 0, .int .u8 0, .int .u8 0, .int .u8 0, .int .u8 0, .int .u8 0, .int .u8 0, .int .u8 0, .int .u8 0, .int .u8 0, .int .u8 0, .int .u8 0, .int .u8 0, .int .u8 0, .int .u8 0, .int .u8 0, .int .u8 0, .int .u8 0, .int .u8 0, .int .u8 0, .int .u8 0, .int .u8 0, .int .u8 0, .int .u8 0, .int .u8 0, .int .u8 0, .int .u8 0, .int .u8 0, .int .u8 0, .int .u8 0, .int .u8 0, .int .u8 0] 72)).setCells w8.heap.size 0 D = w9 at HB9 HR9 HK9 c0 ⊢
      obtain ⟨bb, hbb⟩ : ∃ b, w8.heap.size = b := ⟨_, rfl⟩
      rw [hbb] at HR9 ⊢
      clear hbb HB9 HX8 HC8 HK8 HDA HDO
      obtain ⟨d, hd⟩ : ∃ d : Nat, d = n - L := ⟨_, rfl⟩
      have e7 : (n : Int) - (L : Int) = (d : Int) := by omega
      have HD : Hid (d = n - L) := hd
      clear hd
      rcases (show (d : Int) < sz ∨ ¬ ((d : Int) < sz) by omega) with hds | hds
      · obtain ⟨kk, hkk⟩ : ∃ kk, kk = d := ⟨_, rfl⟩
        subst hkk
        have hds1 : (kk : Int) ≤ sz := by omega
        have hk64 : (kk : Int) ≤ 64 := by omega
        have hk0 : (0 : Int) ≤ (kk : Int) := by omega
        have HKK : Hid (kk = min sz (n - L)) := by have := HD.out; show _ = _; omega
        have HCELL : Hid (∀ j u, (cellsU8 ((sbS h si so (salt ++ be4 (q1 : Nat)) t1).take kk))[j]? = some u → w9.cell? ((⟨bb, 0, none⟩ : Addr).add j) = some u) := view_cells2 (view_cells HR9.out HDC.out (sbS_length h si so (salt ++ be4 (q1 : Nat)) t1) (show kk ≤ 64 by omega))
        go_wp2_with (first
          | (go_at_call 33; refine (msize gm h w9 k c0).mono ?_; rintro e5 w5' ⟨rfl, hw5⟩; obtain rfl := hw5.symm; rw [← HSZ.out])
          | (at_builtin; go_must (refine wpList_append_own _ rfl (.tmp 77) (.tmp 85) 22 rfl B 5 i0 (.int .u8 0) 1 1 Tryd.underlying22 hi0 hz0 hz1 hz2 rfl (by decide) _ L (cellsU8 ((strL h key salt t1 q).take n)) rfl HK9.out.out ⟨bb, 0, none⟩ kk 64 (cellsU8 ((sbS h si so (salt ++ be4 (q1 : Nat)) t1).take kk)) rfl ?_ HCELL.out (cellsU8_one _) ?_ ?_ (Nat.le_trans HK9.out.lt.2.2.2 HK9.out.size) ?_)))
        · rw [cellsU8_length, List.length_take, sbS_length]; omega
        · unfold maxLen; omega
        · omega
        intro v2 w10 hown7 hgrow7 hnil7
        have hne : ∀ j, (Value.slice oa L oc).ownBlock = some j → B ≤ j := fun j hj => (HK9.out.out.lt j hj).1
        have HB7 : Hid (Below w.heap.size w w10 ∧ B ≤ w10.heap.size ∧ w10.rangeAt gs 0 C ∧ w10.there gm 0 155) := by
          have hl := HK9.out.lt
          have hz := HK9.out.size
          refine ⟨HK9.out.below.grown hgrow7 HK9.out.below.size (fun j hj => by have := hne j hj; omega), Nat.le_trans (by omega) hgrow7.size, range_block HK9.out.salt (hgrow7.block gs (by omega) (fun e => by have := hne gs e.symm; omega)), there_block HK9.out.room (hgrow7.block gm (by omega) (fun e => by have := hne gm e.symm; omega))⟩
        have HO7 : Hid (w10.ownsRow B 5 1 v2 (L + kk) (cellsU8 ((strL h key salt t1 (q + 1)).take n))) := by
          show World.ownsRow _ _ _ _ _ _ _
          have hTT : strT h key salt t1 (q + 1) = (sbS h si so (salt ++ be4 (q1 : Nat)) t1).take sz := by rw [strT, HSI.out, HSO.out, HSZ.out, HQ1.out]
          have hTk : (strT h key salt t1 (q + 1)).take kk = (sbS h si so (salt ++ be4 (q1 : Nat)) t1).take kk := by rw [hTT, List.take_take, Nat.min_eq_left (by omega)]
          rw [strL, ← take_step (strL_length k.out key salt t1 q) ((strT_length k.out key salt t1 (q + 1)).trans HSZ.out.symm) (by rw [← HSZ.out, ← HLE.out]; omega) (kk := kk) (by rw [← HSZ.out, ← HLE.out]; exact HKK.out), cellsU8_append, hTk]
          exact hown7
        have HL7 : Hid (L + kk = min n ((q + 1) * sz)) := by
          show _ = _
          have h1 := HKK.out
          have h2 := HLE.out
          rw [Nat.succ_mul]
          omega
        clear hown7 hgrow7 hnil7 hne HCELL
        go_wp2
        go_roundw
        case rel => exact ⟨q + 1, q1 + 1, L + kk, by go_num, by have := HQ1.out; omega, HL7, HO7, HB7⟩
        case measure => have := HQ1.out; simp [intOf]; omega
      · have hds1 : (sz : Int) ≤ d := by omega
        have HKK : Hid (sz = min sz (n - L)) := by have := HD.out; show _ = _; omega
        have HCELL : Hid (∀ j u, (cellsU8 ((sbS h si so (salt ++ be4 (q1 : Nat)) t1).take sz))[j]? = some u → w9.cell? ((⟨bb, 0, none⟩ : Addr).add j) = some u) := view_cells2 (view_cells HR9.out HDC.out (sbS_length h si so (salt ++ be4 (q1 : Nat)) t1) (show sz ≤ 64 by omega))
        go_wp2_with (first
          | (go_at_call 33; refine (msize gm h w9 k c0).mono ?_; rintro e5 w5' ⟨rfl, hw5⟩; obtain rfl := hw5.symm; rw [← HSZ.out])
          | (at_builtin; go_must (refine wpList_append_own _ rfl (.tmp 77) (.tmp 85) 22 rfl B 5 i0 (.int .u8 0) 1 1 Tryd.underlying22 hi0 hz0 hz1 hz2 rfl (by decide) _ L (cellsU8 ((strL h key salt t1 q).take n)) rfl HK9.out.out ⟨bb, 0, none⟩ sz 64 (cellsU8 ((sbS h si so (salt ++ be4 (q1 : Nat)) t1).take sz)) rfl ?_ HCELL.out (cellsU8_one _) ?_ ?_ (Nat.le_trans HK9.out.lt.2.2.2 HK9.out.size) ?_)))
        · rw [cellsU8_length, List.length_take, sbS_length]; omega
        · unfold maxLen; omega
        · omega
        intro v2 w10 hown7 hgrow7 hnil7
        have hne : ∀ j, (Value.slice oa L oc).ownBlock = some j → B ≤ j := fun j hj => (HK9.out.out.lt j hj).1
        have HB7 : Hid (Below w.heap.size w w10 ∧ B ≤ w10.heap.size ∧ w10.rangeAt gs 0 C ∧ w10.there gm 0 155) := by
          have hl := HK9.out.lt
          have hz := HK9.out.size
          refine ⟨HK9.out.below.grown hgrow7 HK9.out.below.size (fun j hj => by have := hne j hj; omega), Nat.le_trans (by omega) hgrow7.size, range_block HK9.out.salt (hgrow7.block gs (by omega) (fun e => by have := hne gs e.symm; omega)), there_block HK9.out.room (hgrow7.block gm (by omega) (fun e => by have := hne gm e.symm; omega))⟩
        have HO7 : Hid (w10.ownsRow B 5 1 v2 (L + sz) (cellsU8 ((strL h key salt t1 (q + 1)).take n))) := by
          show World.ownsRow _ _ _ _ _ _ _
          have hTT : strT h key salt t1 (q + 1) = (sbS h si so (salt ++ be4 (q1 : Nat)) t1).take sz := by rw [strT, HSI.out, HSO.out, HSZ.out, HQ1.out]
          have hTk : (strT h key salt t1 (q + 1)).take sz = (sbS h si so (salt ++ be4 (q1 : Nat)) t1).take sz := by rw [hTT, List.take_take, Nat.min_eq_left (by omega)]
          rw [strL, ← take_step (strL_length k.out key salt t1 q) ((strT_length k.out key salt t1 (q + 1)).trans HSZ.out.symm) (by rw [← HSZ.out, ← HLE.out]; omega) (kk := sz) (by rw [← HSZ.out, ← HLE.out]; exact HKK.out), cellsU8_append, hTk]
          exact hown7
        have HL7 : Hid (L + sz = min n ((q + 1) * sz)) := by
          show _ = _
          have h1 := HKK.out
          have h2 := HLE.out
          rw [Nat.succ_mul]
          omega
        clear hown7 hgrow7 hnil7 hne HCELL
        go_wp2
        go_roundw
        case rel => exact ⟨q + 1, q1 + 1, L + sz, by go_num, by have := HQ1.out; omega, HL7, HO7, HB7⟩
        case measure => have := HQ1.out; simp [intOf]; omega
    · have HLn : Hid (L = n ∧ n ≤ q * szOf h) := by have := HL.out; rw [← HSZ.out]; constructor <;> omega
      go_wp2
      go_ret2
      obtain ⟨hLn, hqn⟩ := HLn.out
      subst hLn
      exact ⟨_, rfl, q, hqn, owns_mono HO.out (by have h1 := HLT.out; omega), HB.out.1⟩
end Go.Proofs.YtioggmjocelolacDoor
