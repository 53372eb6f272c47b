import Derived.Test.YtcnikfikpnnblaaGreatDoorPart48
import Derived.Test.YtcnikfikpnnblaaGreatDoorPart19
import Derived.Test.YtcnikfikpnnblaaGreatDoorPart00
namespace Go.Proofs.YtcnikfikpnnblaaGreatDoor
open Go.RowKit
set_option linter.unusedVariables false
set_option linter.unusedSimpArgs false
/-- A text of hexadecimal digits. -/
structure HexT (s : ByteArray) (m : Nat) (zs : List Int) : Prop where
  size : s.size = 2 * m
  good : ∀ j, j < 2 * m → 0 ≤ Hx.hexV ((Hx.nums s).getD j 0)
  val : Hx.unhex (Hx.nums s) = zs
  len : zs.length = m
  few : m ≤ 4096
  pos : 0 < m
  bytes : AllBytes zs
theorem own_some5 {w : World} {B n : Nat} {v : Value} {cs : List Value} (h : w.ownsRow B 5 1 v n cs) (h0 : 0 < n) : ∃ g c, v = .slice (some ⟨g, 0, none⟩) n c := by
  rcases h.2 with ⟨q, e⟩ | ⟨g, cap, cur, q, _⟩
  · omega
  · exact ⟨g, cap, q⟩
theorem fromHexT {s : ByteArray} {m : Nat} {zs : List Int} (h : HexT s m zs) (w : World) : Calls Tryz.prog 10 #[.string s] w fun e w' => Hid (∃ b c, e = .returned (.tuple #[.slice (some ⟨b, 0, none⟩) m c, .int .i64 0, .int .i64 0]) ∧ w'.ownsRow w.heap.size 5 1 (.slice (some ⟨b, 0, none⟩) m c) m (cellsU8 zs) ∧ Below w.heap.size w w') := by
  refine (Hx.fromHex_core s (2 * m) w h.size (by have := h.few; omega) h.good m rfl).mono ?_
  rintro e w' ⟨v, rfl, ho, hb⟩
  rw [h.val] at ho
  obtain ⟨g, c, rfl⟩ := own_some5 ho h.pos
  exact ⟨g, c, rfl, ho, hb⟩
/-- What New and Seal are asked for in sealed. -/
def SlP (w : World) (sp : ByteArray) (kz zs out : List Int) (s : Int) (m : Nat) : Prop :=
  ∀ u v b cp, Below w.heap.size w u → View u v kz → u.ownsRow w.heap.size 5 1 (.slice (some ⟨b, 0, none⟩) m cp) m (cellsU8 zs) → Calls Tryz.prog 21 #[.string sp, v] u fun e u' => Hid (∃ c, e = .returned (.tuple #[.pointer (some ⟨c, 0, none⟩), .int .i64 0]) ∧ Below w.heap.size w u' ∧
    Calls Tryz.prog 29 #[.pointer (some ⟨c, 0, none⟩), .int .u64 s, .slice (some ⟨b, 0, none⟩) m cp] u' fun e u'' => Hid (∃ x, e = .returned (.tuple #[.slice (some ⟨x, 0, none⟩) m m, .int .i64 0]) ∧ View u'' (.slice (some ⟨x, 0, none⟩) m m) out ∧ Below w.heap.size w u''))
set_option maxHeartbeats 800000 in
set_option maxRecDepth 100000 in
/-- sealed. -/
theorem sealed_gen (sp ks ps : ByteArray) (kz zs out : List Int) (s : Int) (mk m : Nat) (w : World) (hk : HexT ks mk kz) (hp : HexT ps m zs) (ho : AllBytes out) (hol : out.length = m) (HN : SlP w sp kz zs out s m) :
    Calls Tryz.prog 9 #[.string sp, .string ks, .int .u64 s, .string ps] w fun e w' => Hid (e = .returned (.string (strOfNums (Hx.hexBytes out))) ∧ Below w.heap.size w w') := by
  have HF1 : Hid (∀ u, Calls Tryz.prog 10 #[.string ks] u fun e w' => Hid (∃ b c, e = .returned (.tuple #[.slice (some ⟨b, 0, none⟩) mk c, .int .i64 0, .int .i64 0]) ∧ w'.ownsRow u.heap.size 5 1 (.slice (some ⟨b, 0, none⟩) mk c) mk (cellsU8 kz) ∧ Below u.heap.size u w')) := fun u => fromHexT hk u
  have HF2 : Hid (∀ u, Calls Tryz.prog 10 #[.string ps] u fun e w' => Hid (∃ b c, e = .returned (.tuple #[.slice (some ⟨b, 0, none⟩) m c, .int .i64 0, .int .i64 0]) ∧ w'.ownsRow u.heap.size 5 1 (.slice (some ⟨b, 0, none⟩) m c) m (cellsU8 zs) ∧ Below u.heap.size u w')) := fun u => fromHexT hp u
  have H17 : Hid (∀ u, Calls Tryz.prog 17 #[.int .i64 0] u fun e w' => e = .returned (.int .i64 0) ∧ w' = u) := fun u => num_ok 0 u
  have HHX : Hid (∀ u x, View u (.slice (some ⟨x, 0, none⟩) m m) out → Calls Tryz.prog 13 #[.slice (some ⟨x, 0, none⟩) m m] u fun e w' => e = .returned (.string (strOfNums (Hx.hexBytes out))) ∧ Below u.heap.size u w') := fun u x hv => Hx.hex_any _ out u (by have := hp.few; omega) ho hv
  have HNW : Hid (SlP w sp kz zs out s m) := HN
  have HKL : Hid (kz.length = mk) := hk.len
  obtain ⟨O, HO⟩ : ∃ O, Hid (O = strOfNums (Hx.hexBytes out)) := ⟨_, rfl⟩
  rw [← HO.out] at HHX ⊢
  clear hk hp ho hol HN
  go_enter Tryz.func9, Tryz.ntmps9
  go_upto_region 2 with (go_at_call 10; refine (HF1.out _).mono ?_; intro e1 w1 hh; obtain ⟨b1, c1, rfl, ho1, hb1⟩ := hh.out; have HB1 : Hid (w1.ownsRow w.heap.size 5 1 (.slice (some ⟨b1, 0, none⟩) mk c1) mk (cellsU8 kz) ∧ Below w.heap.size w w1) := ⟨ho1, hb1⟩; clear hh ho1 hb1)
  go_upto_region 3 with (go_at_call 10; refine (HF2.out _).mono ?_; intro e2 w2 hh; obtain ⟨b2, c2, rfl, ho2, hb2⟩ := hh.out; have HB2 : Hid (View w2 (.slice (some ⟨b1, 0, none⟩) mk c1) kz ∧ w2.ownsRow w.heap.size 5 1 (.slice (some ⟨b2, 0, none⟩) m c2) m (cellsU8 zs) ∧ Below w.heap.size w w2) := ⟨(view_owns HB1.out.1 HKL.out).below hb2, own_base ho2 HB1.out.2.size, HB1.out.2.trans (hb2.mono HB1.out.2.size)⟩; clear hh ho2 hb2)
  clear HF1 HF2 HB1
  go_upto_region 4 with (go_at_call 21; refine (HNW.out _ _ b2 c2 HB2.out.2.2 HB2.out.1 HB2.out.2.1).mono ?_; intro e3 w3 hh; obtain ⟨c, rfl, hb3, hc3⟩ := hh.out; have HB3 : Hid (Below w.heap.size w w3) := hb3; have HC3 : Hid (Calls Tryz.prog 29 #[.pointer (some ⟨c, 0, none⟩), .int .u64 s, .slice (some ⟨b2, 0, none⟩) m c2] w3 fun e u'' => Hid (∃ x, e = .returned (.tuple #[.slice (some ⟨x, 0, none⟩) m m, .int .i64 0]) ∧ View u'' (.slice (some ⟨x, 0, none⟩) m m) out ∧ Below w.heap.size w u'')) := hc3; clear hh hb3 hc3 HNW)
  go_upto_region 6 with (go_at_call 17; refine (H17.out _).mono ?_; rintro e4 w4 ⟨rfl, hw⟩; obtain rfl := hw.symm; clear hw)
  go_upto_region 7 with (go_at_call 29; refine HC3.out.mono ?_; intro e5 w5 hh; obtain ⟨x, rfl, hv5, hb5⟩ := hh.out; have HB5 : Hid (View w5 (.slice (some ⟨x, 0, none⟩) m m) out ∧ Below w.heap.size w w5) := ⟨hv5, hb5⟩; clear hh hv5 hb5 HC3)
  go_wp2_with (first
    | (go_at_call 17; refine (H17.out _).mono ?_; rintro e6 w6 ⟨rfl, hw⟩; obtain rfl := hw.symm; clear hw)
    | (go_at_call 13; refine (HHX.out _ _ HB5.out.1).mono ?_; rintro e7 w7 ⟨rfl, hb7⟩; have HB7 : Hid (Below w5.heap.size w5 w7) := hb7; clear hb7))
  go_ret
  exact ⟨rfl, HB5.out.2.trans (HB7.out.mono HB5.out.2.size)⟩
theorem gk_below {Ks : Nat → Prop} {B : Nat} {w u v : World} (h : Below B w u) (hB : B ≤ u.heap.size) (hk : Gk Ks u v) (hK : ∀ c, Ks c → B ≤ c) : Below B w v :=
  h.trans ⟨hk.os, hk.tape, hk.output, hk.size, fun c hc => hk.block c (by omega) (fun e => by have := hK c e; omega)⟩
theorem view_bx {w : World} {x m : Nat} {out : List Int} (h : Bx w x 5 (cellsU8 out)) (hl : out.length = m) (hm : m ≤ 4096) : View w (.slice (some ⟨x, 0, none⟩) m m) out := by
  refine ⟨some ⟨x, 0, none⟩, m, by rw [hl], by omega, by unfold maxLen; omega, (fun e => by cases e), .inr ⟨x, 0, rfl, fun i hi => ?_⟩⟩
  rw [Nat.zero_add]
  refine h.cell i _ ?_
  simp [cellsU8, List.getElem?_eq_getElem hi, List.getD_eq_getElem?_getD]
theorem own_cells5 {w : World} {B b m cp : Nat} {zs : List Int} (h : w.ownsRow B 5 1 (.slice (some ⟨b, 0, none⟩) m cp) m (cellsU8 zs)) (hl : zs.length = m) : (∀ i, i < zs.length → w.cell? ⟨b, 0 + i, none⟩ = some (.int .u8 (zs.getD i 0))) ∧ m ≤ cp ∧ ∃ cur fr, w.heap[b]? = some (.cells cur 5 fr) := by
  rcases h.2 with ⟨q, e⟩ | ⟨g, cap, cur, q, h1, h2, h3, h4, h5, h6⟩
  · cases q
  · injection q with q1 q2 q3
    injection q1 with q1
    injection q1 with q1
    subst q1 q3
    refine ⟨fun i hi => ?_, by omega, cur, _, h2⟩
    rw [Nat.zero_add]
    have e : cur[i]? = some (.int .u8 (zs.getD i 0)) := by
      have p : ((cur.toList.take (1 * m)))[i]? = (cellsU8 zs)[i]? := by first | rw [h6] | (rw [Nat.mul_comm]; rw [h6])
      rw [List.getElem?_take, if_pos (by omega)] at p
      rw [← Array.getElem?_toList, p]
      simp [cellsU8, List.getElem?_eq_getElem hi, List.getD_eq_getElem?_getD]
    simp [World.cell?, h2, e]
/-- sealed's premise, of xts with plain64, AES-128. -/
theorem slX (w : World) (kz zs out : List Int) (s m : Nat) (hs : s < 18446744073709551616) (hP : Pow w) (hrc : RC w) (hf : ∀ j, j < 1 + 17 * 0 + 11 → spN j ≠ sxN 0 11) (hkl : kz.length = 32) (hkb : AllBytes kz) (hzl : zs.length = m) (hm1 : 16 ≤ m) (hm2 : m ≤ 4096) (hzb : AllBytes zs) (hol : out.length = m)
    (ho : xtsL (encV 10 (schedK 4 (nat8 (kz.take 16)))) (encV 10 (schedK 4 (nat8 (kz.drop 16))) (plV true s)) zs = cellsU8 out) : SlP w (sxN 0 11) kz zs out s m := by
  intro u v b cp hu hv hz
  have hpos : 3 < w.heap.size := World.block_lt_of_cell? w ⟨3, 0, none⟩ (hrc 0 (by decide))
  refine (newXTS11 0 (by decide) v kz u hf hv hkb (by omega) (hP.below hu) (hrc.belowB hu hpos)).mono ?_
  rintro e u' ⟨c, sh, kv, mp, ov, fv, sv, pv, rfl, hcl, hbx, hsa, ⟨_, go, hgo, rfl, rfl, rfl, hK2, ⟨R, hR⟩, g, hg4, hne⟩, hbel⟩
  have hbw : Below w.heap.size w u' := hu.trans (hbel.mono hu.size)
  refine ⟨c, rfl, hbw, ?_⟩
  rcases hsa.main with ⟨q, _⟩ | ⟨g', nk, hm, hBg, hnk, hwd, hK1, ⟨R1, hR1⟩⟩
  · omega
  have e4 := hsa.box.cell 4 (.pointer mp) rfl
  rw [hm, hg4] at e4
  injection e4 with e4
  injection e4 with e4
  injection e4 with e4
  injection e4 with e4
  subst e4
  obtain rfl : nk = 4 := by omega
  have hzu : u'.ownsRow w.heap.size 5 1 (.slice (some ⟨b, 0, none⟩) m cp) m (cellsU8 zs) := ownsRow_below hz hbel
  obtain ⟨z1, z2, cur, fr, z3⟩ := own_cells5 hzu hzl
  have q := xtsCall c sh g go 137 10 _ _ _ (plV true s) s b 0 cp zs u' hbx (hsa.box.cell 1 _ rfl) hg4 (hsa.box.cell 6 _ rfl) hK1 hK2 (type_ne hsa.box hR1 (by decide)) (type_ne hsa.box hR (by decide)) hne (fun args w => enter_ok Tryz.func137 (by rfl) (by rfl) args w) (fun u => plain64_ok s _ u hs) (by omega) (by omega) (by omega) hzb (type_ne z3 hR1 (by decide)) (type_ne z3 hR (by decide)) z1
  rw [hzl] at q
  refine q.mono fun e w' hh => ?_
  obtain ⟨x, rfl, p1, p2, p3, p4⟩ := hh.out
  rw [show 16 + 8 * 0 = 16 from rfl, show 4 * (4 + 2 * 0) = 16 from rfl, show 4 + 2 * 0 + 6 = 10 from rfl, show 4 + 2 * 0 = 4 from rfl] at *
  rw [ho] at p2
  exact ⟨x, rfl, view_bx p2 hol hm2, gk_below hbw hbw.size p4 (fun c hc => by rcases hc with rfl | rfl; exact Nat.le_trans hu.size hBg; exact Nat.le_trans hu.size hgo)⟩
/-- sealed's premise, of ecb, AES-128. -/
theorem slE (w : World) (kz zs out : List Int) (s : Int) (k : Nat) (hP : Pow w) (hrc : RC w) (hkl : kz.length = 16) (hkb : AllBytes kz) (hzl : zs.length = 16 * k) (hm1 : 0 < k) (hm2 : 16 * k ≤ 4096) (hzb : AllBytes zs) (hol : out.length = 16 * k) (hf : ∀ j, j < 1 + 17 * 0 + 0 → spN j ≠ sxN 0 0)
    (ho : bkL (fun j => encV 10 (schedK 4 (nat8 (kz.take 16))) (cutV zs j)) k = cellsU8 out) : SlP w (sxN 0 0) kz zs out s (16 * k) := by
  intro u v b cp hu hv hz
  have hpos : 3 < w.heap.size := World.block_lt_of_cell? w ⟨3, 0, none⟩ (hrc 0 (by decide))
  refine (newECB0 0 (by decide) v kz u hf hv hkb (by omega) (hP.below hu) (hrc.belowB hu hpos)).mono ?_
  rintro e u' ⟨c, sh, kv, mp, ov, fv, sv, pv, rfl, hcl, hbx, hsa, ⟨rfl, rfl, rfl⟩, hbel⟩
  have hbw : Below w.heap.size w u' := hu.trans (hbel.mono hu.size)
  refine ⟨c, rfl, hbw, ?_⟩
  rcases hsa.main with ⟨q, _⟩ | ⟨g, nk, rfl, hBg, hnk, hwd, hK1, ⟨R1, hR1⟩⟩
  · omega
  obtain rfl : nk = 4 := by omega
  have hzu : u'.ownsRow w.heap.size 5 1 (.slice (some ⟨b, 0, none⟩) (16 * k) cp) (16 * k) (cellsU8 zs) := ownsRow_below hz hbel
  obtain ⟨z1, z2, cur, fr, z3⟩ := own_cells5 hzu hzl
  have q := ecbCall c sh g 10 _ _ _ s b 0 cp k zs u' hbx (hsa.box.cell 1 _ rfl) (hsa.box.cell 4 _ rfl) (hsa.box.cell 6 _ rfl) hK1 (type_ne hsa.box hR1 (by decide)) hzl hm1 (by omega) (by omega) hzb (type_ne z3 hR1 (by decide)) z1
  rw [hzl] at q
  refine q.mono fun e w' hh => ?_
  obtain ⟨x, rfl, p1, p2, p3, p4⟩ := hh.out
  rw [show 16 + 8 * 0 = 16 from rfl] at p2
  rw [ho] at p2
  exact ⟨x, rfl, view_bx p2 hol hm2, gk_below hbw hbw.size p4 (fun c hc => by rw [hc]; exact Nat.le_trans hu.size hBg)⟩
end Go.Proofs.YtcnikfikpnnblaaGreatDoor
