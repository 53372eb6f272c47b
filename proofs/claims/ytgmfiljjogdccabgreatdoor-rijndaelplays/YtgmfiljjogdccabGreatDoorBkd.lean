import Derived.Test.YtgmfiljjogdccabGreatDoorPart00
import Derived.Test.YtgmfiljjogdccabGreatDoorBkc
namespace Go.Proofs.YtgmfiljjogdccabGreatDoor
open Go.RowKit
set_option linter.unusedVariables false
theorem heap_other (u : World) {b b' : Nat} (L : List Value) (hne : b' ≠ b) : (u.setCells b' 0 L).heap[b]? = u.heap[b]? := by
 by_cases hb : b < u.heap.size
 ·exact World.heap_setCells_other u b' 0 L hb (fun q => hne q.symm)
 ·rw [Array.getElem?_eq_none (by rw [sizeB_setCells]; omega), Array.getElem?_eq_none (by omega)]
theorem there_same2 {u u' : World} {B o n : Nat} (h : u.there B o n) (e : u'.heap[B]? = u.heap[B]?) : u'.there B o n := fun j hj => by
 rw [World.cell?_of_block (a := ⟨B, o + j, none⟩) e, World.frozen?_of_block (a := ⟨B, o + j, none⟩) e]; exact h j hj
theorem rrounds2 (g gr nk : Nat) (K : Nat → Nat) (w : World) (h : RefAt w g gr nk K) (hn : nk ≤ 8) : Calls Tryz.prog 33 #[.pointer (some ⟨g, 0, none⟩)] w fun e w' => e = .returned (.int .i64 (nk + 6 : Nat)) ∧ w' = w := by
 obtain ⟨p, c, hb⟩ := h.bytes
 clear h
 have hd : ((4 * nk : Nat) : Int).tdiv 4 = ((nk : Nat) : Int) := by rw [Int.tdiv_eq_ediv_of_nonneg (by omega)]; omega
 have hni : ((nk : Nat) : Int) ≤ 8 := by omega
 obtain ⟨m, HM⟩ : ∃ m, Hid (m = 4 * nk) := ⟨_, rfl⟩
 rw [← HM.out] at hb hd
 go_enter Tryz.func33, Tryz.ntmps33
 go_wp2
 go_ret
 exact ⟨by simp, rfl⟩
theorem mcS_ok (s : W4) : (mcS s).ok := ⟨mcw_lt _, mcw_lt _, mcw_lt _, mcw_lt _⟩
/-- A block in its box, and a box for the answer. -/
structure EnS (w : World) (B1 : Nat) (f : Nat → Nat) (u : World) : Prop where
 old : Below w.heap.size w u
 b : Ar u w.heap.size f
 res : u.there B1 0 16
 lt : w.heap.size < B1 ∧ B1 < u.heap.size
theorem ar_store {u : World} {b : Nat} (f : Nat → Nat) (h : u.there b 0 16) : Ar (u.setCells b 0 (arL f)) b f :=
 ⟨fun j hj => by
  have := World.rangeAt_setCells_same u b 0 (arL f) (by rw [show (arL f).length = 16 from rfl]; exact h) j _ (arL_at f j hj)
  rw [Nat.zero_add] at this
  exact this, World.there_setCells h _ _ _⟩
theorem Ar.stores {u : World} {b b' : Nat} {f : Nat → Nat} (h : Ar u b f) (L : List Value) (hne : b' ≠ b) : Ar (u.setCells b' 0 L) b f :=
 h.same (heap_other u L hne)
theorem EnS.below {w u u' : World} {B1 : Nat} {f : Nat → Nat} (h : EnS w B1 f u) (hb : Below u.heap.size u u') : EnS w B1 f u' :=
 ⟨h.old.trans (hb.mono h.old.size), h.b.same (hb.block _ (by have := h.lt; omega)), there_same2 h.res (hb.block _ h.lt.2), by have := h.lt; have := hb.size; omega⟩
theorem EnS.store {w u : World} {B1 : Nat} {f : Nat → Nat} (h : EnS w B1 f u) (f' : Nat → Nat) : EnS w B1 f' (u.setCells w.heap.size 0 (arL f')) :=
 ⟨belowB_setCells _ (Nat.le_refl _) _ _ _ h.old, ar_store f' h.b.t, World.there_setCells h.res _ _ _, by rw [sizeB_setCells]; exact h.lt⟩
/-- And an array beside it. -/
structure EnT (w : World) (B1 bt : Nat) (f o : Nat → Nat) (u : World) : Prop where
 s : EnS w B1 f u
 o : Ar u bt o
 lt : B1 < bt ∧ bt < u.heap.size
theorem EnT.below {w u u' : World} {B1 bt : Nat} {f o : Nat → Nat} (h : EnT w B1 bt f o u) (hb : Below u.heap.size u u') : EnT w B1 bt f o u' :=
 ⟨h.s.below hb, h.o.same (hb.block _ h.lt.2), by have := h.lt; have := hb.size; omega⟩
theorem EnT.storeO {w u : World} {B1 bt : Nat} {f o : Nat → Nat} (h : EnT w B1 bt f o u) (o' : Nat → Nat) : EnT w B1 bt f o' (u.setCells bt 0 (arL o')) := by
 have h1 := h.lt
 have h2 := h.s.lt
 exact ⟨⟨belowB_setCells _ (by omega) _ _ _ h.s.old, h.s.b.stores _ (by omega), World.there_setCells h.s.res _ _ _, by rw [sizeB_setCells]; exact h2⟩, ar_store o' h.o.t, by rw [sizeB_setCells]; exact h1⟩
theorem EnT.set {w u : World} {B1 bt : Nat} {f o : Nat → Nat} (h : EnT w B1 bt f o u) (k x : Nat) (hk : k < 16) : EnT w B1 bt f (fun j => if j = k then x else o j) ((u.setCell ⟨bt, k, none⟩ (.int .u8 (x : Nat))).drew) := by
 have h1 := h.lt
 have h2 := h.s.lt
 have h3 := h.o.set k x hk
 have h4 := h.s.b.far (b' := bt) (o := k) (v := .int .u8 (x : Nat)) (by omega)
 exact ⟨⟨(h.s.old.setCell (by show w.heap.size ≤ bt; omega) _).drew, ⟨h4.c, h4.t⟩, World.there_setCells h.s.res _ _ [_], by simpa [World.setCell] using h2⟩, ⟨h3.c, h3.t⟩, by simpa [World.setCell] using h1⟩
theorem EnT.congr {w u : World} {B1 bt : Nat} {f o o' : Nat → Nat} (h : EnT w B1 bt f o u) (e : ∀ j, j < 16 → o j = o' j) : EnT w B1 bt f o' u := ⟨h.s, h.o.congr e, h.lt⟩
theorem EnS.alloc {w u : World} {B1 : Nat} {f : Nat → Nat} (h : EnS w B1 f u) : EnT w B1 u.heap.size f zero8 (u.alloc (.cells z16 37)) := by
 rw [z16_ar]
 exact ⟨h.below ((Below.refl _ _).alloc (Nat.le_refl _) _), ar_new u zero8 37, by have := h.lt; simp; omega⟩
theorem ens_start (w : World) (f : Nat → Nat) : EnS w (w.heap.size + 1) f ((w.alloc (.cells (arA f) 37)).alloc (.cells z16 37)) :=
 ⟨(ar_two w f 37 37).1, (ar_two w f 37 37).2.1, (ar_two w f 37 37).2.2.t, by simp⟩
/-- Sixteen cells that may be stored. -/
structure A16 (L : List Value) : Prop where
 len : L.length = 16
 sz : (Tryz.prog.info? 37).map (·.size) = some L.length
 sza : (Tryz.prog.info? 37).map (·.size) = some L.toArray.size
 one : L.toArray.all (·.oneCell') = true
theorem a16 (f : Nat → Nat) : A16 (arL f) := ⟨rfl, size41, size41, by rw [arL_array]; exact arA_one f⟩
theorem A16.there {L : List Value} (h : A16 L) {u : World} {b : Nat} (ht : u.there b 0 16) : u.there b 0 L.toArray.size := by rw [List.size_toArray, h.len]; exact ht
set_option maxHeartbeats 6400000 in
set_option maxRecDepth 100000 in
theorem renc_ok (g gr nk : Nat) (K : Nat → Nat) (s : W4) (w : World) (h : RefAt w g gr nk K) (hn : nk ≤ 8) (hK : ∀ i, K i < 4294967296) (hs : s.ok) :
  Calls Tryz.prog 23 #[.pointer (some ⟨g, 0, none⟩), .agg (arA (sb s))] w fun e w' => e = .returned (.agg (arA (sb (encW (nk + 6) K s)))) ∧ Below w.heap.size w w' := by
 have HH : Hid (RefAt w g gr nk K) := h
 have HK : Hid (∀ i, K i < 4294967296) := hK
 have HS : Hid (s.ok) := hs
 have HNK : Hid (nk ≤ 8) := hn
 obtain ⟨nr, HNR⟩ : ∃ n, Hid (n = nk + 6) := ⟨_, rfl⟩
 have hnr : 1 ≤ nr ∧ nr ≤ 14 := by have := HNR.out; omega
 rw [← HNR.out]
 obtain ⟨RL, HRL⟩ : ∃ L, Hid (L = arL (sb (encW nr K s))) := ⟨_, rfl⟩
 rw [← arL_array (sb (encW nr K s)), ← HRL.out]
 clear h hn hK hs
 have K45 : Hid (∀ (y : W4) (A B : List Value) (r : Nat) (u : World), y.ok → A = arL (sb y) → B = arL (sb (addK K r y)) → r ≤ nr → RefAt u g gr nk K → Calls Tryz.prog 51 #[.pointer (some ⟨g, 0, none⟩), .agg A.toArray, .int .i64 (r : Nat)] u fun e u' => e = .returned (.agg B.toArray) ∧ Below u.heap.size u u') := fun y A B r u hy hA hB hr hu => by
  rw [hA, hB, arL_array, arL_array]
  exact added_ok g gr nk r K y u hu HNK.out (by have := HNR.out; omega) HK.out hy
 have K46 : Hid (∀ (y : W4) (A B : List Value) (u : World), A = arL (sb y) → B = arL (sb (mcS y)) → RefAt u g gr nk K → Calls Tryz.prog 52 #[.pointer (some ⟨g, 0, none⟩), .agg A.toArray, .agg #[.int .u8 2, .int .u8 3, .int .u8 1, .int .u8 1]] u fun e u' => e = .returned (.agg B.toArray) ∧ Below u.heap.size u u') := fun y A B u hA hB hu => by
  rw [hA, hB, arL_array, arL_array]
  exact columnsE g gr nk K y u hu
 have K19 : Hid (∀ u, RefAt u g gr nk K → Calls Tryz.prog 33 #[.pointer (some ⟨g, 0, none⟩)] u fun e u' => e = .returned (.int .i64 (nr : Nat)) ∧ u' = u) := fun u hu => by
  rw [HNR.out]
  exact rrounds2 g gr nk K u hu HNK.out
 obtain ⟨f, HF⟩ : ∃ f, Hid (f = sb s) := ⟨_, rfl⟩
 have HI : Hid (EnS w (w.heap.size + 1) f _) := ens_start w f
 rw [← HF.out]
 obtain ⟨L0, HL0⟩ : ∃ L, Hid (L = arL f) := ⟨_, rfl⟩
 obtain ⟨L1, HL1⟩ : ∃ L, Hid (L = arL (sb (addK K 0 s))) := ⟨_, rfl⟩
 have HA0 : Hid (A16 L0) := by show A16 L0; rw [HL0.out]; exact a16 _
 have HA1 : Hid (A16 L1) := by show A16 L1; rw [HL1.out]; exact a16 _
 have HAR : Hid (A16 RL) := by show A16 RL; rw [HRL.out]; exact a16 _
 unfold arA z16 at HI
 unfold arA
 go_enter Tryz.func23, Tryz.ntmps23
 go_upto_region 1 with fail
 generalize ((w.alloc (.cells #[.int .u8 (f 0 : Nat), .int .u8 (f 1 : Nat), .int .u8 (f 2 : Nat), .int .u8 (f 3 : Nat), .int .u8 (f 4 : Nat), .int .u8 (f 5 : Nat), .int .u8 (f 6 : Nat), .int .u8 (f 7 : Nat), .int .u8 (f 8 : Nat), .int .u8 (f 9 : Nat), .int .u8 (f 10 : Nat), .int .u8 (f 11 : Nat), .int .u8 (f 12 : Nat), .int .u8 (f 13 : Nat), .int .u8 (f 14 : Nat), .int .u8 (f 15 : Nat)] 37)).alloc (.cells #[.int .u8 0, .int .u8 0, .int .u8 0, .int .u8 0, .int .u8 0, .int .u8 0, .int .u8 0, .int .u8 0, .int .u8 0, .int .u8 0, .int .u8 0, .int .u8 0, .int .u8 0, .int .u8 0, .int .u8 0, .int .u8 0] 37)) = w2 at HI ⊢
 obtain ⟨B1, HB1⟩ : ∃ b, Hid (w.heap.size + 1 = b) := ⟨_, rfl⟩
 rw [HB1.out] at HI ⊢
 have HRg : Hid (w2.rangeAt w.heap.size 0 L0) := by show World.rangeAt _ _ _ _; rw [HL0.out]; exact HI.out.b.range
 have KA : Hid (Calls Tryz.prog 51 #[.pointer (some ⟨g, 0, none⟩), .agg L0.toArray, .int .i64 0] w2 fun e u' => e = .returned (.agg L1.toArray) ∧ Below w2.heap.size w2 u') := K45.out s L0 L1 0 w2 HS.out (by rw [HL0.out, HF.out]) HL1.out (by omega) (HH.out.below HI.out.old)
 go_wp2_with (first
  | (refine wpList_load_mid (by rfl) 37 (.tmp 3) (by rfl) w.heap.size 0 (by rfl) L0 _ HRg.out Tryz.underlying37 rfl HA0.out.sz ?_)
  | (go_at_call 51; refine KA.out.mono ?_))
 rintro e3 w3 ⟨rfl, hb3⟩
 have H3 : Hid (EnS w B1 f w3) := HI.out.below hb3
 have H4 : Hid (EnS w B1 (sb (addK K 0 s)) (w3.setCells w.heap.size 0 L1)) := by show EnS _ _ _ _; rw [HL1.out]; exact H3.out.store _
 have HT3 : Hid (w3.there w.heap.size 0 L1.toArray.size) := HA1.out.there H3.out.b.t
 clear hb3 KA HRg
 go_wp2_with (first
  | (refine wpList_store_mid (by rfl) 37 (.tmp 3) (.tmp 12) (by rfl) w.heap.size 0 L1.toArray (by rfl) (by rfl) HT3.out HA1.out.sza HA1.out.one ?_)
  | (go_at_call 33; refine (K19.out _ (HH.out.below H4.out.old)).mono ?_; rintro e9 w9 ⟨rfl, hw9⟩; obtain rfl := hw9.symm))
 generalize w3.setCells w.heap.size 0 L1 = w4 at H4 ⊢
 clear H3 HT3
 go_loopw [6] (fun rr wr => ∃ (k : Nat) (x : W4), 1 ≤ k ∧ k ≤ nr + 1 ∧ rr = .int .i64 (k : Nat) ∧ Hid (x.ok ∧ EnS w B1 (sb x) wr ∧ ((k ≤ nr ∧ x = iterE K (k - 1) (addK K 0 s)) ∨ (k = nr + 1 ∧ x = encW nr K s)))) (fun rr _ => nr + 1 - (intOf rr).toNat)
 case atStart => exact ⟨1, addK K 0 s, by omega, by omega, rfl, addK_ok HK.out 0 HS.out, H4.out, .inl ⟨by omega, rfl⟩⟩
 case round =>
  obtain ⟨k, x, hk1, hk2, rfl, HX⟩ := hrel
  by_cases hk : k ≤ nr
  ·have hki : ((k : Nat) : Int) ≤ ((nr : Nat) : Int) := by omega
   have HXE : Hid (x = iterE K (k - 1) (addK K 0 s)) := by
    rcases HX.out.2.2 with ⟨_, h⟩ | ⟨h, _⟩
    ·exact h
    ·omega
   have H5 : Hid (EnT w B1 wr.heap.size (sb x) zero8 (wr.alloc (.cells z16 37))) := HX.out.2.1.alloc
   unfold z16 at H5
   obtain ⟨X, HXX⟩ : ∃ X, Hid (X = sb (lastS x)) := ⟨_, rfl⟩
   go_wp2
   obtain ⟨bt, HBT⟩ : ∃ b, Hid (wr.heap.size = b) := ⟨_, rfl⟩
   rw [HBT.out] at H5 ⊢
   generalize (wr.alloc (.cells #[.int .u8 0, .int .u8 0, .int .u8 0, .int .u8 0, .int .u8 0, .int .u8 0, .int .u8 0, .int .u8 0, .int .u8 0, .int .u8 0, .int .u8 0, .int .u8 0, .int .u8 0, .int .u8 0, .int .u8 0, .int .u8 0] 37)) = w5 at H5 ⊢
   clear HBT
   go_loopw [8] (fun cc wr => ∃ c : Nat, c ≤ 4 ∧ cc = .int .i64 (c : Nat) ∧ Hid (EnT w B1 bt (sb x) (part X (4 * c)) wr)) (fun cc _ => 4 - (intOf cc).toNat)
   case atStart => exact ⟨0, by omega, rfl, H5.out.congr (fun j hj => by unfold part; rw [if_neg (by omega)]; rfl)⟩
   case round =>
    obtain ⟨c, hc, rfl, HC⟩ := hrel
    by_cases hc4 : c < 4
    ·have hci : ((c : Nat) : Int) < 4 := by omega
     go_wp2
     go_loopw [9] (fun ii wr => ∃ i : Nat, i ≤ 4 ∧ ii = .int .i64 (i : Nat) ∧ Hid (EnT w B1 bt (sb x) (part X (4 * c + i)) wr)) (fun ii _ => 4 - (intOf ii).toNat)
     case atStart => exact ⟨0, by omega, rfl, HC.out⟩
     case round =>
      obtain ⟨i, hi, rfl, HR⟩ := hrel
      by_cases hi4 : i < 4
      ·obtain ⟨c4, HC4⟩ : ∃ t, Hid (t = 4 * c) := ⟨_, rfl⟩
       obtain ⟨p, HP⟩ : ∃ t, Hid (t = 4 * c + i) := ⟨_, rfl⟩
       obtain ⟨d, HD⟩ : ∃ t, Hid (t = c + i) := ⟨_, rfl⟩
       obtain ⟨e, HE⟩ : ∃ t, Hid (t = d % 4) := ⟨_, rfl⟩
       obtain ⟨e4, HE4⟩ : ∃ t, Hid (t = 4 * e) := ⟨_, rfl⟩
       obtain ⟨q, HQ⟩ : ∃ t, Hid (t = 4 * e + i) := ⟨_, rfl⟩
       have hii : ((i : Nat) : Int) < 4 := by omega
       have hc4' : (4 : Int) * ((c : Nat) : Int) = ((c4 : Nat) : Int) := by have := HC4.out; omega
       have hwc : IntKind.i64.wrap ((c4 : Nat) : Int) = ((c4 : Nat) : Int) := wraps_i64 _ (by omega) (by have := HC4.out; omega)
       have hp : ((c4 : Nat) : Int) + ((i : Nat) : Int) = ((p : Nat) : Int) := by have := HC4.out; have := HP.out; omega
       have hwp : IntKind.i64.wrap ((p : Nat) : Int) = ((p : Nat) : Int) := wraps_i64 _ (by omega) (by have := HP.out; omega)
       have hp16 : ((p : Nat) : Int) < 16 := by have := HP.out; omega
       have hd : ((c : Nat) : Int) + ((i : Nat) : Int) = ((d : Nat) : Int) := by have := HD.out; omega
       have hwd : IntKind.i64.wrap ((d : Nat) : Int) = ((d : Nat) : Int) := wraps_i64 _ (by omega) (by have := HD.out; omega)
       have he : ((d : Nat) : Int).tmod 4 = ((e : Nat) : Int) := by rw [Int.tmod_eq_emod_of_nonneg (by omega)]; have := HE.out; omega
       have he4 : (4 : Int) * ((e : Nat) : Int) = ((e4 : Nat) : Int) := by have := HE4.out; omega
       have hee : e < 4 := by have := HE.out; omega
       have hwe : IntKind.i64.wrap ((e4 : Nat) : Int) = ((e4 : Nat) : Int) := wraps_i64 _ (by omega) (by have := HE4.out; omega)
       have hq : ((e4 : Nat) : Int) + ((i : Nat) : Int) = ((q : Nat) : Int) := by have := HE4.out; have := HQ.out; omega
       have hwq : IntKind.i64.wrap ((q : Nat) : Int) = ((q : Nat) : Int) := wraps_i64 _ (by omega) (by have := HQ.out; omega)
       have hq16 : ((q : Nat) : Int) < 16 := by have := HQ.out; omega
       have hpn : p < 16 := by omega
       have hqn : q < 16 := by omega
       obtain ⟨a, HA⟩ : ∃ t, Hid (t = sb x q) := ⟨_, rfl⟩
       obtain ⟨z, HZ⟩ : ∃ t, Hid (t = SB a) := ⟨_, rfl⟩
       have ha : a < 256 := by rw [HA.out]; exact sb_lt _ _
       have hai : ((a : Nat) : Int) < 256 := by omega
       obtain ⟨c0, hc0⟩ := there_cell HR.out.o.t p hpn
       have hf0 := there_froz HR.out.o.t p hpn
       have hSt : wr.drew.cell? ⟨w.heap.size, q, none⟩ = some (.int .u8 (a : Nat)) ∧ wr.drew.cell? ⟨g, 2 + a, none⟩ = some (.int .u8 (z : Nat)) := by
        refine ⟨?_, ?_⟩
        ·show wr.cell? _ = _
         rw [HR.out.s.b.c q hqn, HA.out]
        ·show wr.cell? _ = _
         rw [HR.out.s.old.cell (p := ⟨g, 2 + a, none⟩) HH.out.lt, HH.out.s a ha, HZ.out]
       have HXP : Hid (z = X (4 * c + i)) := by
        show _ = _
        rw [HXX.out, sb_last x c i (by omega) (by omega), HZ.out, HA.out, HQ.out, HE.out, HD.out]
       go_upto_region 13 with fail
       refine wp_region_noPanic ?_
       refine wp_region_till (fun u => u.cell? ⟨w.heap.size, q, none⟩ = some (.int .u8 (a : Nat)) ∧ u.cell? ⟨g, 2 + a, none⟩ = some (.int .u8 (z : Nat))) 18 (by kernel_rfl) (by decide) (by decide +kernel) (by decide +kernel) (by decide +kernel) (fun inv => ?_)
       refine tU 0 28 (.int .i64 (c : Nat)) inv rfl rfl hSt fun inv => ?_
       simp only [pU]
       refine tU 1 29 (.int .i64 (c4 : Nat)) inv rfl rfl hSt fun inv => ?_
       simp only [pU]
       refine tU 2 30 (.int .i64 (i : Nat)) inv rfl rfl hSt fun inv => ?_
       simp only [pU]
       refine tU 3 31 (.int .i64 (p : Nat)) inv rfl rfl hSt fun inv => ?_
       simp only [pU]
       refine tU 4 32 (.pointer (some ⟨g, 0, none⟩)) inv rfl rfl hSt fun inv => ?_
       simp only [pU]
       refine tU 5 33 (.int .i64 (c : Nat)) inv rfl rfl hSt fun inv => ?_
       simp only [pU]
       refine tU 6 34 (.int .i64 (i : Nat)) inv rfl rfl hSt fun inv => ?_
       simp only [pU]
       refine tU 7 35 (.int .i64 (d : Nat)) inv rfl rfl hSt fun inv => ?_
       simp only [pU]
       refine tU 8 36 (.int .i64 (e : Nat)) inv rfl rfl hSt fun inv => ?_
       simp only [pU]
       refine tU 9 37 (.int .i64 (e4 : Nat)) inv rfl rfl hSt fun inv => ?_
       simp only [pU]
       refine tU 10 38 (.int .i64 (i : Nat)) inv rfl rfl hSt fun inv => ?_
       simp only [pU]
       refine tU 11 39 (.int .i64 (q : Nat)) inv rfl rfl hSt fun inv => ?_
       simp only [pU]
       refine tU 12 40 (.pointer (some ⟨w.heap.size, q, none⟩)) inv rfl rfl hSt fun inv => ?_
       simp only [pU]
       refine tT 13 41 (.int .u8 (a : Nat)) inv rfl rfl (by decide +kernel) (hSt) (Or.inl ⟨by rfl, fun w' hS' => by have q1 := hS'.1; go_simp⟩) (fun inv => ?_)
       simp only [pU]
       refine tU 14 42 (.pointer (some ⟨g, 0, none⟩)) inv rfl rfl hSt fun inv => ?_
       simp only [pU]
       refine tU 15 43 (.pointer (some ⟨g, 2, none⟩)) inv rfl rfl hSt fun inv => ?_
       simp only [pU]
       refine tU 16 44 (.pointer (some ⟨g, 2 + a, none⟩)) inv rfl rfl hSt fun inv => ?_
       simp only [pU]
       refine tT 17 45 (.int .u8 (z : Nat)) inv rfl rfl (by decide +kernel) (hSt) (Or.inl ⟨by rfl, fun w' hS' => by have q1 := hS'.2; go_simp⟩) (fun inv => ?_)
       simp only [pU]
       refine till_tail (i := 18) (by decide +kernel) (by decide) rfl (fun Kx hK => ?_)
       rw [if_pos (by kernel_rfl)]
       go_simp
       refine hK.out _ _ ?_
       clear hK Kx
       try simp only [Act.put, pU]
       refine till_tail (i := 19) (by decide +kernel) (by decide) rfl (fun Kx hK => ?_)
       rw [if_pos (by kernel_rfl)]
       have q1 : wr.drew.cell? ⟨bt, p, none⟩ = some c0 := hc0
       have q2 : wr.drew.frozen? ⟨bt, p, none⟩ = false := hf0
       go_simp
       refine hK.out _ _ ?_
       clear hK Kx
       refine till_done (by decide +kernel) ?_ _
       refine NoPanic.normal ?_
       clear q1 q2 hSt hc0 hf0
       have HN : Hid (EnT w B1 bt (sb x) (part X (4 * c + (i + 1))) ((wr.setCell ⟨bt, p, none⟩ (.int .u8 (z : Nat))).drew)) := by
        refine (HR.out.set p z hpn).congr (fun j hj => ?_)
        rw [HP.out]
        exact part_next X (4 * c + i) z HXP.out j
       generalize (wr.setCell ⟨bt, p, none⟩ (.int .u8 (z : Nat))).drew = wn at HN ⊢
       go_wp2
       refine ⟨⟨i + 1, by omega, rfl, HN.out⟩, by simp only [intOf]; omega⟩
      ·obtain rfl : i = 4 := by omega
       clear hi hi4
       go_wp2
       refine ⟨⟨c + 1, by omega, rfl, HR.out.congr (fun j hj => by rw [show 4 * (c + 1) = 4 * c + 4 by omega])⟩, by simp only [intOf]; omega⟩
    ·obtain rfl : c = 4 := by omega
     have H6 : Hid (EnT w B1 bt (sb x) (sb (lastS x)) wr) := HC.out.congr (fun j hj => by unfold part; rw [if_pos (by omega), HXX.out])
     clear HC hc hc4 H5
     obtain ⟨TL, HTL⟩ : ∃ L, Hid (L = arL (sb (lastS x))) := ⟨_, rfl⟩
     have HAT : Hid (A16 TL) := by show A16 TL; rw [HTL.out]; exact a16 _
     have HRT : Hid (wr.rangeAt bt 0 TL) := by show World.rangeAt _ _ _ _; rw [HTL.out]; exact H6.out.o.range
     by_cases hkn : k < nr
     ·have hkni : ((k : Nat) : Int) < ((nr : Nat) : Int) := by omega
      obtain ⟨ML, HML⟩ : ∃ L, Hid (L = arL (sb (mcS (lastS x)))) := ⟨_, rfl⟩
      obtain ⟨NL, HNL⟩ : ∃ L, Hid (L = arL (sb (addK K k (mcS (lastS x))))) := ⟨_, rfl⟩
      have HAM : Hid (A16 ML) := by show A16 ML; rw [HML.out]; exact a16 _
      have HAN : Hid (A16 NL) := by show A16 NL; rw [HNL.out]; exact a16 _
      have KM : Hid (Calls Tryz.prog 52 #[.pointer (some ⟨g, 0, none⟩), .agg TL.toArray, .agg #[.int .u8 2, .int .u8 3, .int .u8 1, .int .u8 1]] wr fun e u' => e = .returned (.agg ML.toArray) ∧ Below wr.heap.size wr u') := K46.out (lastS x) TL ML wr HTL.out HML.out (HH.out.below H6.out.s.old)
      go_wp2_with (first
       | (refine wpList_load_mid (by rfl) 37 (.tmp 7) (by rfl) bt 0 (by rfl) TL _ HRT.out Tryz.underlying37 rfl HAT.out.sz ?_)
       | (go_at_call 52; refine KM.out.mono ?_))
      rintro e7 w7 ⟨rfl, hb7⟩
      have H7 : Hid (EnT w B1 bt (sb x) (sb (lastS x)) w7) := H6.out.below hb7
      have H8 : Hid (EnT w B1 bt (sb x) (sb (mcS (lastS x))) (w7.setCells bt 0 ML)) := by show EnT _ _ _ _ _ _; rw [HML.out]; exact H7.out.storeO _
      have HT7 : Hid (w7.there bt 0 ML.toArray.size) := HAM.out.there H7.out.o.t
      clear hb7 KM HRT
      have HRM : Hid ((w7.setCells bt 0 ML).rangeAt bt 0 ML) := by
       show World.rangeAt _ _ _ _
       have := H8.out.o.range
       rw [← HML.out] at this
       exact this
      have KN : Hid (Calls Tryz.prog 51 #[.pointer (some ⟨g, 0, none⟩), .agg ML.toArray, .int .i64 (k : Nat)] (w7.setCells bt 0 ML) fun e u' => e = .returned (.agg NL.toArray) ∧ Below (w7.setCells bt 0 ML).heap.size (w7.setCells bt 0 ML) u') := K45.out (mcS (lastS x)) ML NL k _ (mcS_ok _) HML.out HNL.out hk (HH.out.below H8.out.s.old)
      go_wp2_with (first
       | (refine wpList_store_mid (by rfl) 37 (.tmp 7) (.tmp 53) (by rfl) bt 0 ML.toArray (by rfl) (by rfl) HT7.out HAM.out.sza HAM.out.one ?_)
       | (refine wpList_load_mid (by rfl) 37 (.tmp 7) (by rfl) bt 0 (by rfl) ML _ HRM.out Tryz.underlying37 rfl HAM.out.sz ?_)
       | (go_at_call 51; refine KN.out.mono ?_))
      rintro e9 w9 ⟨rfl, hb9⟩
      have H9 : Hid (EnT w B1 bt (sb x) (sb (mcS (lastS x))) w9) := H8.out.below hb9
      have HX9 : Hid (EnS w B1 (sb (addK K k (mcS (lastS x)))) (w9.setCells w.heap.size 0 NL)) := by show EnS _ _ _ _; rw [HNL.out]; exact H9.out.s.store _
      have HT9 : Hid (w9.there w.heap.size 0 NL.toArray.size) := HAN.out.there H9.out.s.b.t
      clear hb9 KN HRM H7 H8 HT7
      go_wp2_with (first
       | (refine wpList_store_mid (by rfl) 37 (.tmp 3) (.tmp 57) (by rfl) w.heap.size 0 NL.toArray (by rfl) (by rfl) HT9.out HAN.out.sza HAN.out.one ?_))
      refine ⟨⟨k + 1, addK K k (mcS (lastS x)), by omega, by omega, rfl, addK_ok HK.out _ (mcS_ok _), HX9.out, .inl ⟨by omega, ?_⟩⟩, by simp only [intOf]; omega⟩
      obtain ⟨k', rfl⟩ : ∃ k', k = k' + 1 := ⟨k - 1, by omega⟩
      rw [← mixS_mc, HXE.out]
      rfl
     ·obtain rfl : k = nr := by omega
      obtain ⟨NL, HNL⟩ : ∃ L, Hid (L = arL (sb (addK K k (lastS x)))) := ⟨_, rfl⟩
      have HAN : Hid (A16 NL) := by show A16 NL; rw [HNL.out]; exact a16 _
      have KN : Hid (Calls Tryz.prog 51 #[.pointer (some ⟨g, 0, none⟩), .agg TL.toArray, .int .i64 (k : Nat)] wr fun e u' => e = .returned (.agg NL.toArray) ∧ Below wr.heap.size wr u') := K45.out (lastS x) TL NL k _ (lastS_ok _) HTL.out HNL.out hk (HH.out.below H6.out.s.old)
      go_wp2_with (first
       | (refine wpList_load_mid (by rfl) 37 (.tmp 7) (by rfl) bt 0 (by rfl) TL _ HRT.out Tryz.underlying37 rfl HAT.out.sz ?_)
       | (go_at_call 51; refine KN.out.mono ?_))
      rintro e9 w9 ⟨rfl, hb9⟩
      have H9 : Hid (EnT w B1 bt (sb x) (sb (lastS x)) w9) := H6.out.below hb9
      have HX9 : Hid (EnS w B1 (sb (addK K k (lastS x))) (w9.setCells w.heap.size 0 NL)) := by show EnS _ _ _ _; rw [HNL.out]; exact H9.out.s.store _
      have HT9 : Hid (w9.there w.heap.size 0 NL.toArray.size) := HAN.out.there H9.out.s.b.t
      clear hb9 KN HRT
      go_wp2_with (first
       | (refine wpList_store_mid (by rfl) 37 (.tmp 3) (.tmp 57) (by rfl) w.heap.size 0 NL.toArray (by rfl) (by rfl) HT9.out HAN.out.sza HAN.out.one ?_))
      refine ⟨⟨k + 1, addK K k (lastS x), by omega, by omega, rfl, addK_ok HK.out _ (lastS_ok _), HX9.out, .inr ⟨by omega, ?_⟩⟩, by simp only [intOf]; omega⟩
      rw [HXE.out]
      rfl
  ·obtain rfl : k = nr + 1 := by omega
   have HXE : Hid (x = encW nr K s) := by
    rcases HX.out.2.2 with ⟨h, _⟩ | ⟨_, h⟩
    ·omega
    ·exact h
   have HRg : Hid (wr.rangeAt w.heap.size 0 RL) := by show World.rangeAt _ _ _ _; rw [HRL.out, ← HXE.out]; exact HX.out.2.1.b.range
   have HTh : Hid (wr.there B1 0 RL.toArray.size) := HAR.out.there HX.out.2.1.res
   have hlt : ((nr : Nat) : Int) < ((nr + 1 : Nat) : Int) := by omega
   clear hk hk1 hk2
   go_wp2_with (first
    | (refine wpList_load_mid (by rfl) 37 (.tmp 3) (by rfl) w.heap.size 0 (by rfl) RL _ HRg.out Tryz.underlying37 rfl HAR.out.sz ?_)
    | (refine wpList_store_mid (by rfl) 37 (.tmp 4) (.tmp 58) (by rfl) B1 0 RL.toArray (by rfl) (by rfl) HTh.out HAR.out.sza HAR.out.one ?_))
   refine ret_array RL Tryz.results23 rfl ?_ Tryz.underlying37 rfl HAR.out.sz ⟨rfl, ?_⟩
   ·exact World.rangeAt_setCells_same _ _ _ _ (by rw [HAR.out.len]; exact HX.out.2.1.res)
   ·exact belowB_setCells _ (Nat.le_of_lt HX.out.2.1.lt.1) _ _ _ HX.out.2.1.old
end Go.Proofs.YtgmfiljjogdccabGreatDoor
