import Derived.Test.YtehlppaidgkpaaaGreatDoorPart00
import Derived.Test.YtehlppaidgkpaaaGreatDoorPart27
namespace Go.Proofs.YtehlppaidgkpaaaGreatDoor
open Go.RowKit
theorem Zbl (a b q:Nat) (h:a%b=q):((a:Nat):Int).tmod ((b:Nat):Int)=((q:Nat):Int):=by
 rw[←h,Int.tmod_eq_emod_of_nonneg (Int.natCast_nonneg _)];rfl
theorem Zeh (nk:Nat) (h:nk=8):(((nk:Nat):Int)==8)=true:=by rw[h];rfl
theorem Zeg (ii:Nat) (h:ii%8=4):((ii:Nat):Int).tmod 8=4:=by
 rw[Int.tmod_eq_emod_of_nonneg (Int.natCast_nonneg _)];omega
theorem Zef (nk ii q8:Nat) (h8:¬(nk=8∧ii%8=4)) (hd:(((nk:Nat):Int)==8)=true) (hq:ii%8=q8):(((q8:Nat):Int)==4)=false:=by
 have e8:nk=8:=by simp at hd;omega
 simp;omega
set_option linter.unusedVariables false
set_option maxHeartbeats 6400000 in
set_option maxRecDepth 100000 in
theorem Pd (nk n kb ko cap : Nat) (key : Nat → Nat) (w : World) (hnk : nk = 4 ∨ nk = 6 ∨ nk = 8) (hn4 : n = 4 * nk) (hkb : kb < w.heap.size) (hcell : ∀ i, i < n → w.cell? ⟨kb, ko + i, none⟩ = some (.int .u8 (key i : Nat))) (hkey : ∀ i, key i < 256) :
    Calls Tryz.prog 67 #[.slice (some ⟨kb, ko, none⟩) n cap] w fun e w' => Hid (e = .returned (.tuple #[.pointer (some ⟨w.heap.size, 0, none⟩), .int .i64 0]) ∧ Below w.heap.size w w') := by
  have HNK : Hid ((nk = 4 ∨ nk = 6 ∨ nk = 8) ∧ n = 4 * nk) := ⟨hnk, hn4⟩
  obtain ⟨f1, f2, f3, f4, f5, f6, f7, f8, hn1, hn2⟩ := Zcg nk n hnk hn4
  obtain ⟨tp, HTP⟩ : ∃ tp, Hid (4 * (nk + 7) = tp) := ⟨_, rfl⟩
  obtain ⟨nk7, HN7⟩ : ∃ q, Hid (nk + 7 = q) := ⟨_, rfl⟩
  rw [HTP.out] at f5
  rw [HN7.out] at f4 f5
  clear hnk hn4
  have HKB : Hid (kb < w.heap.size) := hkb
  have HCELL : Hid (∀ i, i < n → w.cell? ⟨kb, ko + i, none⟩ = some (.int .u8 (key i : Nat))) := hcell
  have HKEY : Hid (∀ i, key i < 256) := hkey
  clear hkb hcell hkey
  obtain ⟨i0, hi, hz0, hz1, hz2⟩ := info_parts Tryz.info5
  have HI0 : Hid (Tryz.prog.info? 5 = some i0 ∧ i0.zero = some (.int .u8 0) ∧ i0.size = 1 ∧ i0.bytes = 1) := ⟨hi, hz0, hz1, hz2⟩
  clear hi hz0 hz1 hz2
  obtain ⟨g, HG⟩ : ∃ g, Hid (w.heap.size = g) := ⟨_, rfl⟩
  obtain ⟨Z, HZ⟩ : ∃ Z, Hid (Z = Tryz.zeroCells191) := ⟨_, rfl⟩
  have HZB : Hid (Tryz.prog.built 191 [] = some Z) := by show _ = _; rw [HZ.out]; exact Zfj
  have HZS : Hid (Z.size = 4611) := by show _ = _; rw [HZ.out]; exact I5
  have HZ0 : Hid (Z[0]? = some (.slice none 0 0) ∧ Z[1]? = some (.slice none 0 0) ∧ Z[4610]? = some (.bool false)) := by
    show _ ∧ _ ∧ _
    rw [HZ.out]
    have h1 := congrArg (fun l => l[0]?) Ra
    have h2 := congrArg (fun l => l[1]?) Ra
    have h3 := congrArg (fun l => l[0]?) I7
    simp only [List.getElem?_take_of_lt (show 0 < 2 by decide), List.getElem?_take_of_lt (show 1 < 2 by decide), List.getElem?_drop] at h1 h2 h3
    exact ⟨by rw [← Array.getElem?_toList, h1]; rfl, by rw [← Array.getElem?_toList, h2]; rfl, by rw [← Array.getElem?_toList]; exact h3⟩
  obtain ⟨SL, HSL⟩ : ∃ L, Hid (L = sbL) := ⟨_, rfl⟩
  obtain ⟨UL, HUL⟩ : ∃ L, Hid (L = ubL) := ⟨_, rfl⟩
  have HSl : Hid (SL.toArray.size = 256) := by show _ = _; rw [HSL.out]; exact Co
  have HUl : Hid (UL.toArray.size = 256) := by show _ = _; rw [HUL.out]; exact Ce
  have HSo : Hid (SL.toArray.all (·.oneCell') = true) := by show _ = _; rw [HSL.out]; exact Rq
  have HUo : Hid (UL.toArray.all (·.oneCell') = true) := by show _ = _; rw [HUL.out]; exact Rd
  have s65a : Hid ((Tryz.prog.info? 118).map (·.size) = some SL.toArray.size) := by show _ = _; rw [HSl.out]; exact Cm
  have s65b : Hid ((Tryz.prog.info? 118).map (·.size) = some UL.toArray.size) := by show _ = _; rw [HUl.out]; exact Cm
  have KB : Hid (∀ u : World, Calls Tryz.prog 112 #[] u fun e w' => e = .returned (.tuple #[.agg SL.toArray, .agg UL.toArray]) ∧ Below u.heap.size u w') := fun u => by rw [HSL.out, HUL.out]; exact Ii u
  have HT1 : Hid ((w.alloc (.cells Z 191)).there w.heap.size 0 4611) := Zf w Z 191 4611 (by rw [HZS.out]; exact Nat.le_refl _)
  have hcz : Hid (∀ i : Nat, (w.alloc (.cells Z 191)).cell? ⟨w.heap.size, i, none⟩ = Z[i]?) := fun i => by rw [World.cell?_alloc_at Z 191 _ _ rfl]
  go_enter Tryz.func67, Tryz.ntmps67
  go_upto_region 1 with fail
  go_cut [27] from 15 to 27 (fun vs wx => vs = .bool false ∧ wx = w)
  case first =>
    have qa := Zch nk n HNK.out.1 HNK.out.2
    go_wp2
    all_goals go_meet
    all_goals first | exact ⟨rfl, rfl⟩ | exact ⟨by rw [qa], rfl⟩
  case rest =>
  obtain ⟨rfl, hwc⟩ := hcut
  obtain rfl := hwc.symm
  clear hwc
  go_wp2_with (first
    | (refine Jb (by rfl) 39 #[] (by rfl) Z (by exact HZB.out) ?_)
    | (go_at_call 112; refine (KB.out _).mono ?_)
    | fail)
  rintro e1 w1 ⟨rfl, hb1⟩
  rw [← HZ.out] at hb1
  have HB1 : Hid (Below (w.alloc (.cells Z 191)).heap.size (w.alloc (.cells Z 191)) w1) := hb1
  have hgl : w.heap.size < (w.alloc (.cells Z 191)).heap.size := by simp
  have HTa : Hid (w1.there w.heap.size 2 SL.toArray.size) := by
    show World.there _ _ _ _
    rw [HSl.out]
    exact Zc (fun j hj => by have := HT1.out (2 + j) (by omega); rw [Nat.zero_add] at this; exact this) hb1 hgl
  have HTb : Hid ((w1.setCells w.heap.size 2 SL).there w.heap.size 258 UL.toArray.size) := by
    show World.there _ _ _ _
    rw [HUl.out]
    exact World.there_setCells (Zc (fun j hj => by have := HT1.out (258 + j) (by omega); rw [Nat.zero_add] at this; exact this) hb1 hgl) _ _ _
  have H3 : Hid (RkT w w.heap.size 0 ((w1.setCells w.heap.size 2 SL).setCells w.heap.size 258 UL) ∧ ((w1.setCells w.heap.size 2 SL).setCells w.heap.size 258 UL).cell? ⟨w.heap.size, 0, none⟩ = some (.slice none 0 0) ∧ ((w1.setCells w.heap.size 2 SL).setCells w.heap.size 258 UL).cell? ⟨w.heap.size, 1, none⟩ = some (.slice none 0 0)) := by
    have hbw : Below w.heap.size w w1 := ((Below.refl _ w).alloc (Nat.le_refl _) _).trans (hb1.mono (by simp))
    have lS : SL.length = 256 := HSl.out
    have lU : UL.length = 256 := HUl.out
    have hc1 : ∀ j, w1.cell? ⟨w.heap.size, j, none⟩ = Z[j]? := fun j => (hb1.cell (p := ⟨w.heap.size, j, none⟩) hgl).trans (hcz.out j)
    have hout : ∀ j, (j < 2 ∨ 514 ≤ j) → ((w1.setCells w.heap.size 2 SL).setCells w.heap.size 258 UL).cell? ⟨w.heap.size, j, none⟩ = Z[j]? := fun j hj =>
      (World.cell?_setCells_out _ _ _ _ ⟨w.heap.size, j, none⟩ (fun _ _ => by rcases hj with h | h; exact .inl (by show j < 258; omega); exact .inr (by show 258 + UL.length ≤ j; omega))).trans ((World.cell?_setCells_out _ _ _ _ ⟨w.heap.size, j, none⟩ (fun _ _ => by rcases hj with h | h; exact .inl (by show j < 2; omega); exact .inr (by show 2 + SL.length ≤ j; omega))).trans (hc1 j))
    refine ⟨⟨Zb _ (Nat.le_refl _) _ _ _ (Zb _ (Nat.le_refl _) _ _ _ hbw), World.there_setCells (World.there_setCells (Zc HT1.out hb1 hgl) _ _ _) _ _ _, ?_, fun j hj => ?_, fun j hj => ?_, fun r hr j hj => absurd hj (Nat.not_lt_zero _), ?_⟩, ?_, ?_⟩
    · rw [Yf, Yf]; exact Nat.lt_of_lt_of_le hgl hb1.size
    · rw [World.cell?_setCells_out _ _ _ _ ⟨w.heap.size, 2 + j, none⟩ (fun _ _ => .inl (by show 2 + j < 258; omega))]
      refine World.rangeAt_setCells_same _ _ _ _ (by have := HTa.out; rw [HSl.out] at this; rw [lS]; exact this) j _ ?_
      rw [HSL.out]; exact U5 j hj
    · refine World.rangeAt_setCells_same _ _ _ _ (by have := HTb.out; rw [HUl.out] at this; rw [lU]; exact this) j _ ?_
      rw [HUL.out]; exact Uq j hj
    · exact (hout _ (by omega)).trans HZ0.out.2.2
    · exact (hout _ (by omega)).trans HZ0.out.1
    · exact (hout _ (by omega)).trans HZ0.out.2.1
  clear hb1 hgl hcz HT1 HB1
  have HGW : Hid (w.heap.size = g) := HG
  go_wp2_with (first
    | (refine wpList_store_mid (by rfl) 118 (.tmp 37) (.tmp 34) (by rfl) w.heap.size 2 SL.toArray (by rfl) (by rfl) HTa.out s65a.out HSo.out ?_)
    | (refine wpList_store_mid (by rfl) 118 (.tmp 39) (.tmp 35) (by rfl) w.heap.size 258 UL.toArray (by rfl) (by rfl) HTb.out s65b.out HUo.out ?_)
    | fail)
  obtain ⟨w3, HW3⟩ : ∃ w3, Hid ((w1.setCells w.heap.size 2 SL).setCells w.heap.size 258 UL = w3) := ⟨_, rfl⟩
  try rw [show (w1.setCells w.heap.size 2 SL.toArray.toList).setCells w.heap.size 258 UL.toArray.toList = w3 from HW3.out]
  rw [HW3.out] at H3
  clear HW3 HTa HTb KB s65a s65b
  rw [HG.out] at H3 ⊢
  generalize Value.agg Tryz.zeroCells191 = vz
  generalize Value.agg SL.toArray = vs
  generalize Value.agg UL.toArray = vu
  clear HZB HZS HZ0 HZ HSl HUl HSo HUo HSL HUL
  go_loopw [5] (fun i wr => ∃ k : Nat, k ≤ 256 ∧ i = .int .i64 k ∧ Hid (RkT w g k wr ∧ wr.cell? ⟨g, 0, none⟩ = some (.slice none 0 0) ∧ wr.cell? ⟨g, 1, none⟩ = some (.slice none 0 0))) (fun i _ => 256 - (intOf i).toNat)
  case atStart => exact ⟨0, by omega, rfl, H3.out⟩
  case round =>
    clear H3
    obtain ⟨k, hk, rfl, HR⟩ := hrel
    by_cases hlt : k < 256
    · obtain ⟨t2, HT2⟩ : ∃ t, Hid (t = x2 k) := ⟨_, rfl⟩
      obtain ⟨t4, HT4⟩ : ∃ t, Hid (t = Zo t2) := ⟨_, rfl⟩
      obtain ⟨t8, HT8⟩ : ∃ t, Hid (t = Zo t4) := ⟨_, rfl⟩
      have l2 : t2 < 256 := by rw [HT2.out]; exact Vk ⟨k, hlt⟩
      have l4 : t4 < 256 := by rw [HT4.out]; exact Vk ⟨t2, l2⟩
      have l8 : t8 < 256 := by rw [HT8.out]; exact Vk ⟨t4, l4⟩
      have K1 : Hid (∀ u, Calls Tryz.prog 113 #[.int .u8 (k : Nat), .int .u8 2] u fun e u' => e = .returned (.int .u8 (t2 : Nat)) ∧ u' = u) := fun u => (Jf k 2 hlt (by decide) u).mono fun e u' ⟨h1, h2⟩ => ⟨by rw [h1, HT2.out, G8 ⟨k, hlt⟩]; rfl, h2⟩
      have K2 : Hid (∀ u, Calls Tryz.prog 113 #[.int .u8 (t2 : Nat), .int .u8 2] u fun e u' => e = .returned (.int .u8 (t4 : Nat)) ∧ u' = u) := fun u => (Jf t2 2 l2 (by decide) u).mono fun e u' ⟨h1, h2⟩ => ⟨by rw [h1, HT4.out, G8 ⟨t2, l2⟩], h2⟩
      have K3 : Hid (∀ u, Calls Tryz.prog 113 #[.int .u8 (t4 : Nat), .int .u8 2] u fun e u' => e = .returned (.int .u8 (t8 : Nat)) ∧ u' = u) := fun u => (Jf t4 2 l4 (by decide) u).mono fun e u' ⟨h1, h2⟩ => ⟨by rw [h1, HT8.out, G8 ⟨t4, l4⟩], h2⟩
      have hm : ((k : Nat) : Int) % 256 = ((k : Nat) : Int) := by omega
      have e3 : bits .xor .u8 ((t2 : Nat) : Int) ((k : Nat) : Int) = ((x3 k : Nat) : Int) := by rw [Ja _ _ l2 hlt, HT2.out]; rfl
      have e9 : bits .xor .u8 ((t8 : Nat) : Int) ((k : Nat) : Int) = ((x9 k : Nat) : Int) := by rw [Ja _ _ l8 hlt, HT8.out, HT4.out, HT2.out]; rfl
      have e11 : bits .xor .u8 (bits .xor .u8 ((t8 : Nat) : Int) ((t2 : Nat) : Int)) ((k : Nat) : Int) = ((x11 k : Nat) : Int) := by rw [Ja _ _ l8 l2, Ja _ _ (Zj l8 l2) hlt, HT8.out, HT4.out, HT2.out]; rfl
      have e13 : bits .xor .u8 (bits .xor .u8 ((t8 : Nat) : Int) ((t4 : Nat) : Int)) ((k : Nat) : Int) = ((x13 k : Nat) : Int) := by rw [Ja _ _ l8 l4, Ja _ _ (Zj l8 l4) hlt, HT8.out, HT4.out, HT2.out]; rfl
      have e14 : bits .xor .u8 (bits .xor .u8 ((t8 : Nat) : Int) ((t4 : Nat) : Int)) ((t2 : Nat) : Int) = ((x14 k : Nat) : Int) := by rw [Ja _ _ l8 l4, Ja _ _ (Zj l8 l4) l2, HT8.out, HT4.out, HT2.out]; rfl
      obtain ⟨c1, hc1⟩ := Yn HR.out.1.room (770 + k) (by omega)
      have hf1 := Yj HR.out.1.room (770 + k) (by omega)
      obtain ⟨c2, hc2⟩ := Yn HR.out.1.room (1026 + k) (by omega)
      have hf2 := Yj HR.out.1.room (1026 + k) (by omega)
      obtain ⟨c3, hc3⟩ := Yn HR.out.1.room (1282 + k) (by omega)
      have hf3 := Yj HR.out.1.room (1282 + k) (by omega)
      obtain ⟨c9, hc9⟩ := Yn HR.out.1.room (2818 + k) (by omega)
      have hf9 := Yj HR.out.1.room (2818 + k) (by omega)
      obtain ⟨c11, hc11⟩ := Yn HR.out.1.room (3330 + k) (by omega)
      have hf11 := Yj HR.out.1.room (3330 + k) (by omega)
      obtain ⟨c13, hc13⟩ := Yn HR.out.1.room (3842 + k) (by omega)
      have hf13 := Yj HR.out.1.room (3842 + k) (by omega)
      obtain ⟨c14, hc14⟩ := Yn HR.out.1.room (4098 + k) (by omega)
      have hf14 := Yj HR.out.1.room (4098 + k) (by omega)
      go_wp2_with (first | (go_at_call 113; (refine (K1.out _).mono ?_)))
      rintro e4 w4 ⟨rfl, hw4⟩
      obtain rfl := hw4.symm
      go_wp2_with (first | (go_at_call 113; (refine (K2.out _).mono ?_)))
      rintro e5 w5 ⟨rfl, hw5⟩
      obtain rfl := hw5.symm
      go_wp2_with (first | (go_at_call 113; (refine (K3.out _).mono ?_)))
      rintro e6 w6 ⟨rfl, hw6⟩
      obtain rfl := hw6.symm
      go_wp2
      refine ⟨⟨k + 1, by omega, rfl, ?_⟩, by simp only [intOf]; omega⟩
      rw [HT2.out]
      exact ⟨HR.out.1.more hlt, (Qp wr g k 0 (by omega)).trans HR.out.2.1, (Qp wr g k 1 (by omega)).trans HR.out.2.2⟩
    · obtain rfl : k = 256 := by omega
      clear hlt hk
      obtain ⟨KL, HKL⟩ : ∃ L, Hid (L = fL key n) := ⟨_, rfl⟩
      have HKl : Hid (KL.length = n * 1) := by show _ = _; rw [HKL.out, Ep, Nat.mul_one]
      have HKo : Hid (∀ u ∈ KL, u.oneCell' = true) := by
        show ∀ u ∈ KL, _
        rw [HKL.out]
        intro u hu
        simp only [fL, List.mem_map] at hu
        obtain ⟨j, _, rfl⟩ := hu
        rfl
      have HKat : Hid (∀ j u, KL[j]? = some u → w.cell? ⟨kb, ko + j, none⟩ = some u) := by
        show ∀ j u, _
        rw [HKL.out]
        intro j u hj
        have hjn : j < n := by have := (List.getElem?_eq_some_iff.1 hj).1; rw [Ep] at this; exact this
        rw [Er _ _ _ hjn] at hj
        rw [HCELL.out j hjn, ← hj]
      have HKc : Hid (∀ j u, KL[j]? = some u → wr.cell? ⟨kb, ko + j, none⟩ = some u) := fun j u hj => (HR.out.1.old.cell (p := ⟨kb, ko + j, none⟩) (show kb < g by have := HKB.out; have := HG.out; omega)).trans (HKat.out j u hj)
      have hy0 := HR.out.2.1
      go_wp2_with (first
        | (at_builtin; go_must (refine wpList_append_own _ rfl (.tmp 121) (.tmp 122) 22 rfl (g + 1) 5 i0 (.int .u8 0) 1 1 Tryz.underlying22 HI0.out.1 HI0.out.2.1 HI0.out.2.2.1 HI0.out.2.2.2 rfl (by decide) (.slice none 0 0) 0 [] rfl (World.ownsRow_nil _ _ _ _) ⟨kb, ko, none⟩ n cap KL rfl (by rw [HKl.out]) ?_ HKo.out ?_ ?_ ?_ ?_))
        | fail)
      · intro j u hj
        rw [Addr.add_mid]
        exact HKc.out j u hj
      · unfold maxLen; omega
      · omega
      · have := HR.out.1.lt; omega
      intro vA wA hownA hgrowA hnilA
      try simp only [Nat.zero_add, List.nil_append] at hownA
      obtain ⟨gbA, cbA, curA, hvA⟩ : ∃ gb cb, ∃ cur : Array Value, vA = .slice (some ⟨gb, 0, none⟩) n cb := by
        rcases hownA.2 with ⟨_, h⟩ | ⟨gb, cb, cur, rfl, _⟩
        · omega
        · exact ⟨gb, cb, cur, rfl⟩
      subst hvA
      have HTA : Hid (RkT w g 256 wA ∧ wA.cell? ⟨g, 1, none⟩ = some (.slice none 0 0)) := by
        have hgb := hgrowA.block g HR.out.1.lt (by simp [Value.ownBlock])
        exact ⟨HR.out.1.keep hgb (HR.out.1.old.grown hgrowA (Nat.le_of_lt HR.out.1.lt) (by intro q hq; simp [Value.ownBlock] at hq)) hgrowA.size, (World.cell?_of_block (a := ⟨g, 1, none⟩) hgb).trans HR.out.2.2⟩
      clear hy0 HR HKc hownA hgrowA hnilA curA
      obtain ⟨cz, hcz⟩ := Yn HTA.out.1.room 0 (by omega)
      have hfz := Yj HTA.out.1.room 0 (by omega)
      go_upto_region 20 with fail
      have HRA : Hid (RkT w g 256 (wA.setCell ⟨g, 0, none⟩ (.slice (some ⟨gbA, 0, none⟩) n cbA)) ∧ (wA.setCell ⟨g, 0, none⟩ (.slice (some ⟨gbA, 0, none⟩) n cbA)).cell? ⟨g, 0, none⟩ = some (.slice (some ⟨gbA, 0, none⟩) n cbA) ∧ (wA.setCell ⟨g, 0, none⟩ (.slice (some ⟨gbA, 0, none⟩) n cbA)).cell? ⟨g, 1, none⟩ = some (.slice none 0 0)) :=
        ⟨HTA.out.1.set 0 _ (by omega), Y0 _ HTA.out.1.room (by omega), (Ze _ _ _ _ _ (by omega)).trans HTA.out.2⟩
      clear hcz hfz HTA
      generalize wA.setCell ⟨g, 0, none⟩ (.slice (some ⟨gbA, 0, none⟩) n cbA) = wB at HRA ⊢
      have HKcA : Hid (∀ j u, KL[j]? = some u → wB.cell? ⟨kb, ko + j, none⟩ = some u) := fun j u hj => (HRA.out.1.old.cell (p := ⟨kb, ko + j, none⟩) (show kb < g by have := HKB.out; have := HG.out; omega)).trans (HKat.out j u hj)
      have hy1 := HRA.out.2.2
      go_wp2_with (first
        | (at_builtin; go_must (refine wpList_append_own _ rfl (.tmp 130) (.tmp 131) 22 rfl (g + 1) 5 i0 (.int .u8 0) 1 1 Tryz.underlying22 HI0.out.1 HI0.out.2.1 HI0.out.2.2.1 HI0.out.2.2.2 rfl (by decide) (.slice none 0 0) 0 [] rfl (World.ownsRow_nil _ _ _ _) ⟨kb, ko, none⟩ n cap KL rfl (by rw [HKl.out]) ?_ HKo.out ?_ ?_ ?_ ?_))
        | fail)
      · intro j u hj
        rw [Addr.add_mid]
        exact HKcA.out j u hj
      · unfold maxLen; omega
      · omega
      · have := HRA.out.1.lt; omega
      intro vC wC hownC hgrowC hnilC
      try simp only [Nat.zero_add, List.nil_append] at hownC
      obtain ⟨gbC, cbC, curC, hvC⟩ : ∃ gb cb, ∃ cur : Array Value, vC = .slice (some ⟨gb, 0, none⟩) n cb := by
        rcases hownC.2 with ⟨_, h⟩ | ⟨gb, cb, cur, rfl, _⟩
        · omega
        · exact ⟨gb, cb, cur, rfl⟩
      subst hvC
      have HTC : Hid (RkT w g 256 wC ∧ wC.cell? ⟨g, 0, none⟩ = some (.slice (some ⟨gbA, 0, none⟩) n cbA)) := by
        have hgb := hgrowC.block g HRA.out.1.lt (by simp [Value.ownBlock])
        exact ⟨HRA.out.1.keep hgb (HRA.out.1.old.grown hgrowC (Nat.le_of_lt HRA.out.1.lt) (by intro q hq; simp [Value.ownBlock] at hq)) hgrowC.size, (World.cell?_of_block (a := ⟨g, 0, none⟩) hgb).trans HRA.out.2.1⟩
      have HOC : Hid (wC.ownsRow (g + 1) 5 1 (.slice (some ⟨gbC, 0, none⟩) n cbC) n (fL key n)) := by
        show World.ownsRow _ _ _ _ _ _ _
        rw [← HKL.out]; exact hownC
      clear hy1 HRA HKcA hownC hgrowC hnilC curC HKat HKo HKl
      obtain ⟨cz, hcz⟩ := Yn HTC.out.1.room 1 (by omega)
      have hfz := Yj HTC.out.1.room 1 (by omega)
      go_wp2_with fail
      have HRC : Hid (RkT w g 256 (wC.setCell ⟨g, 1, none⟩ (.slice (some ⟨gbC, 0, none⟩) n cbC)) ∧ (wC.setCell ⟨g, 1, none⟩ (.slice (some ⟨gbC, 0, none⟩) n cbC)).cell? ⟨g, 0, none⟩ = some (.slice (some ⟨gbA, 0, none⟩) n cbA) ∧ (wC.setCell ⟨g, 1, none⟩ (.slice (some ⟨gbC, 0, none⟩) n cbC)).cell? ⟨g, 1, none⟩ = some (.slice (some ⟨gbC, 0, none⟩) n cbC) ∧ (wC.setCell ⟨g, 1, none⟩ (.slice (some ⟨gbC, 0, none⟩) n cbC)).ownsRow (g + 1) 5 1 (.slice (some ⟨gbC, 0, none⟩) n cbC) n (fL key n)) :=
        ⟨HTC.out.1.set 1 _ (by omega), (Ze _ _ _ _ _ (by omega)).trans HTC.out.2, Y0 _ HTC.out.1.room (by omega), Ry HOC.out (Nat.lt_succ_self g)⟩
      clear hcz hfz HTC HOC
      generalize wC.setCell ⟨g, 1, none⟩ (.slice (some ⟨gbC, 0, none⟩) n cbC) = wD at HRC ⊢
      have HMI : Hid (RkW w g gbC cbC n key wD) := ⟨HRC.out.1, HRC.out.2.2.1, HRC.out.2.2.2, HKEY.out⟩
      clear HRC
      go_loopw [11, 12] (fun pv i wr => ∃ ii gr c pw : Nat, ∃ f : Nat → Nat, nk ≤ ii ∧ ii ≤ tp ∧ i = .int .i64 ii ∧ pv = .int .u8 (pw : Nat) ∧ pw < 256 ∧ Hid (RkW w g gr c (4 * ii) f wr)) (fun _ i _ => tp - (intOf i).toNat)
      case atStart => exact ⟨nk, gbC, cbC, 1, key, Nat.le_refl _, by have := HTP.out; omega, rfl, rfl, by decide, by rw [← HNK.out.2]; exact HMI.out⟩
      case round =>
        clear HMI
        obtain ⟨ii, gr, c, pw, f, hi1, hi2, rfl, rfl, hpw, HM⟩ := hrel
        by_cases hlt : ii < tp
        · have HBD : Hid (ii ≤ 60 ∧ 4 ≤ nk ∧ nk ≤ 8 ∧ nk ≤ ii ∧ ii < tp) := by have h1 := HTP.out; have h2 := HNK.out.1; show _ ∧ _; omega
          obtain ⟨hii, h4nk, hnk8, hnkii, _⟩ := HBD.out
          have hlti : ((ii : Nat) : Int) < ((tp : Nat) : Int) := Int.ofNat_lt.2 hlt
          obtain ⟨hp0, hp1, hp2, hp3, hwp0, hwp1, hwp2, hwp3, hwii, hw1⟩ := Zei ii (by omega) hii
          obtain ⟨p, HP⟩ : ∃ p, Hid (4 * ii - 4 = p) := ⟨_, rfl⟩
          obtain ⟨p1, HP1⟩ : ∃ q, Hid (4 * ii - 3 = q) := ⟨_, rfl⟩
          obtain ⟨p2, HP2⟩ : ∃ q, Hid (4 * ii - 2 = q) := ⟨_, rfl⟩
          obtain ⟨p3, HP3⟩ : ∃ q, Hid (4 * ii - 1 = q) := ⟨_, rfl⟩
          rw [HP.out] at hp0 hwp0
          rw [HP1.out] at hp1 hwp1
          rw [HP2.out] at hp2 hwp2
          rw [HP3.out] at hp3 hwp3
          obtain ⟨m, HMM⟩ : ∃ m, Hid (4 * ii = m) := ⟨_, rfl⟩
          rw [HMM.out] at HM
          have HPM : Hid (p < m ∧ p1 < m ∧ p2 < m ∧ p3 < m) := by have h0 := HP.out; have h1 := HP1.out; have h2 := HP2.out; have h3 := HP3.out; have h4 := HMM.out; show _ ∧ _; omega
          have hbp0 : ((p : Nat) : Int) < ((m : Nat) : Int) := Int.ofNat_lt.2 HPM.out.1
          have hbp1 : ((p1 : Nat) : Int) < ((m : Nat) : Int) := Int.ofNat_lt.2 HPM.out.2.1
          have hbp2 : ((p2 : Nat) : Int) < ((m : Nat) : Int) := Int.ofNat_lt.2 HPM.out.2.2.1
          have hbp3 : ((p3 : Nat) : Int) < ((m : Nat) : Int) := Int.ofNat_lt.2 HPM.out.2.2.2
          clear hlt hi1 hi2 hii h4nk hnk8 hnkii
          obtain ⟨r0, HR0⟩ : ∃ r, Hid (r = f p) := ⟨_, rfl⟩
          have l0 : r0 < 256 := by rw [HR0.out]; exact HM.out.b _
          obtain ⟨r1, HR1⟩ : ∃ r, Hid (r = f p1) := ⟨_, rfl⟩
          have l1 : r1 < 256 := by rw [HR1.out]; exact HM.out.b _
          obtain ⟨r2, HR2⟩ : ∃ r, Hid (r = f p2) := ⟨_, rfl⟩
          have l2 : r2 < 256 := by rw [HR2.out]; exact HM.out.b _
          obtain ⟨r3, HR3⟩ : ∃ r, Hid (r = f p3) := ⟨_, rfl⟩
          have l3 : r3 < 256 := by rw [HR3.out]; exact HM.out.b _
          have hS0 : Below wr.heap.size wr wr.drew := (Below.refl _ _).drew
          have G1 : Hid (∀ u, Below wr.heap.size wr u → u.cell? ⟨g, 1, none⟩ = some (.slice (some ⟨gr, 0, none⟩) m c)) := fun u hu => (hu.cell (p := ⟨g, 1, none⟩) HM.out.t.lt).trans HM.out.r
          have C0 : Hid (∀ u, Below wr.heap.size wr u → u.cell? ⟨gr, p, none⟩ = some (.int .u8 (r0 : Nat))) := fun u hu => by
            rw [hu.cell (p := ⟨gr, p, none⟩) HM.out.gr_lt.2, HM.out.cell (p) HPM.out.1, HR0.out]
          have C1 : Hid (∀ u, Below wr.heap.size wr u → u.cell? ⟨gr, p1, none⟩ = some (.int .u8 (r1 : Nat))) := fun u hu => by
            rw [hu.cell (p := ⟨gr, p1, none⟩) HM.out.gr_lt.2, HM.out.cell (p1) HPM.out.2.1, HR1.out]
          have C2 : Hid (∀ u, Below wr.heap.size wr u → u.cell? ⟨gr, p2, none⟩ = some (.int .u8 (r2 : Nat))) := fun u hu => by
            rw [hu.cell (p := ⟨gr, p2, none⟩) HM.out.gr_lt.2, HM.out.cell (p2) HPM.out.2.2.1, HR2.out]
          have C3 : Hid (∀ u, Below wr.heap.size wr u → u.cell? ⟨gr, p3, none⟩ = some (.int .u8 (r3 : Nat))) := fun u hu => by
            rw [hu.cell (p := ⟨gr, p3, none⟩) HM.out.gr_lt.2, HM.out.cell (p3) HPM.out.2.2.2, HR3.out]
          go_upto_region 26 with fail
          refine wp_region_noPanic ?_
          refine wp_region_held_drew (S := fun u => Below wr.heap.size wr u) (by kernel_rfl) (hS0) (fun _ => ?_)
          refine tH 0 146 (.pointer (some ⟨g, 0, none⟩)) rfl rfl (by kernel_rfl) (hS0) (Or.inl ⟨by rfl, fun w' hS' => by go_simp⟩) ?_
          simp only [pU]
          refine tH 1 147 (.pointer (some ⟨g, 0, none⟩)) rfl rfl (by kernel_rfl) (hS0) (Or.inl ⟨by rfl, fun w' hS' => by go_simp⟩) ?_
          simp only [pU]
          refine tH 2 148 (.pointer (some ⟨g, 1, none⟩)) rfl rfl (by kernel_rfl) (hS0) (Or.inl ⟨by rfl, fun w' hS' => by go_simp⟩) ?_
          simp only [pU]
          refine tH 3 149 (.slice (some ⟨gr, 0, none⟩) m c) rfl rfl (by kernel_rfl) (hS0) (Or.inl ⟨by rfl, fun w' hS' => by have q := G1.out w' hS'; go_simp⟩) ?_
          simp only [pU]
          refine tH 4 150 (.int .i64 (ii : Nat)) rfl rfl (by kernel_rfl) (hS0) (Or.inl ⟨by rfl, fun w' hS' => by go_simp⟩) ?_
          simp only [pU]
          refine tH 5 151 (.int .i64 (4 * ((ii : Nat) : Int))) rfl rfl (by kernel_rfl) (hS0) (Or.inl ⟨by rfl, fun w' hS' => by go_simp⟩) ?_
          simp only [pU]
          refine tH 6 152 (.int .i64 ((p : Nat) : Int)) rfl rfl (by kernel_rfl) (hS0) (Or.inl ⟨by rfl, fun w' hS' => by go_simp⟩) ?_
          simp only [pU]
          refine tH 7 153 (.pointer (some ⟨gr, p, none⟩)) rfl rfl (by kernel_rfl) (hS0) (Or.inl ⟨by rfl, fun w' hS' => by go_simp⟩) ?_
          simp only [pU]
          refine tH 8 154 (.int .u8 (r0 : Nat)) rfl rfl (by kernel_rfl) (hS0) (Or.inl ⟨by rfl, fun w' hS' => by have q := C0.out w' hS'; go_simp⟩) ?_
          simp only [pU]
          refine tH 9 155 (.pointer (some ⟨g, 0, none⟩)) rfl rfl (by kernel_rfl) (hS0) (Or.inl ⟨by rfl, fun w' hS' => by go_simp⟩) ?_
          simp only [pU]
          refine tH 10 156 (.pointer (some ⟨g, 0, none⟩)) rfl rfl (by kernel_rfl) (hS0) (Or.inl ⟨by rfl, fun w' hS' => by go_simp⟩) ?_
          simp only [pU]
          refine tH 11 157 (.pointer (some ⟨g, 1, none⟩)) rfl rfl (by kernel_rfl) (hS0) (Or.inl ⟨by rfl, fun w' hS' => by go_simp⟩) ?_
          simp only [pU]
          refine tH 12 158 (.slice (some ⟨gr, 0, none⟩) m c) rfl rfl (by kernel_rfl) (hS0) (Or.inl ⟨by rfl, fun w' hS' => by have q := G1.out w' hS'; go_simp⟩) ?_
          simp only [pU]
          refine tH 13 159 (.int .i64 (ii : Nat)) rfl rfl (by kernel_rfl) (hS0) (Or.inl ⟨by rfl, fun w' hS' => by go_simp⟩) ?_
          simp only [pU]
          refine tH 14 160 (.int .i64 (4 * ((ii : Nat) : Int))) rfl rfl (by kernel_rfl) (hS0) (Or.inl ⟨by rfl, fun w' hS' => by go_simp⟩) ?_
          simp only [pU]
          refine tH 15 161 (.int .i64 ((p1 : Nat) : Int)) rfl rfl (by kernel_rfl) (hS0) (Or.inl ⟨by rfl, fun w' hS' => by go_simp⟩) ?_
          simp only [pU]
          refine tH 16 162 (.pointer (some ⟨gr, p1, none⟩)) rfl rfl (by kernel_rfl) (hS0) (Or.inl ⟨by rfl, fun w' hS' => by go_simp⟩) ?_
          simp only [pU]
          refine tH 17 163 (.int .u8 (r1 : Nat)) rfl rfl (by kernel_rfl) (hS0) (Or.inl ⟨by rfl, fun w' hS' => by have q := C1.out w' hS'; go_simp⟩) ?_
          simp only [pU]
          refine tH 18 164 (.pointer (some ⟨g, 0, none⟩)) rfl rfl (by kernel_rfl) (hS0) (Or.inl ⟨by rfl, fun w' hS' => by go_simp⟩) ?_
          simp only [pU]
          refine tH 19 165 (.pointer (some ⟨g, 0, none⟩)) rfl rfl (by kernel_rfl) (hS0) (Or.inl ⟨by rfl, fun w' hS' => by go_simp⟩) ?_
          simp only [pU]
          refine tH 20 166 (.pointer (some ⟨g, 1, none⟩)) rfl rfl (by kernel_rfl) (hS0) (Or.inl ⟨by rfl, fun w' hS' => by go_simp⟩) ?_
          simp only [pU]
          refine tH 21 167 (.slice (some ⟨gr, 0, none⟩) m c) rfl rfl (by kernel_rfl) (hS0) (Or.inl ⟨by rfl, fun w' hS' => by have q := G1.out w' hS'; go_simp⟩) ?_
          simp only [pU]
          refine tH 22 168 (.int .i64 (ii : Nat)) rfl rfl (by kernel_rfl) (hS0) (Or.inl ⟨by rfl, fun w' hS' => by go_simp⟩) ?_
          simp only [pU]
          refine tH 23 169 (.int .i64 (4 * ((ii : Nat) : Int))) rfl rfl (by kernel_rfl) (hS0) (Or.inl ⟨by rfl, fun w' hS' => by go_simp⟩) ?_
          simp only [pU]
          refine tH 24 170 (.int .i64 ((p2 : Nat) : Int)) rfl rfl (by kernel_rfl) (hS0) (Or.inl ⟨by rfl, fun w' hS' => by go_simp⟩) ?_
          simp only [pU]
          refine tH 25 171 (.pointer (some ⟨gr, p2, none⟩)) rfl rfl (by kernel_rfl) (hS0) (Or.inl ⟨by rfl, fun w' hS' => by go_simp⟩) ?_
          simp only [pU]
          refine tH 26 172 (.int .u8 (r2 : Nat)) rfl rfl (by kernel_rfl) (hS0) (Or.inl ⟨by rfl, fun w' hS' => by have q := C2.out w' hS'; go_simp⟩) ?_
          simp only [pU]
          refine tH 27 173 (.pointer (some ⟨g, 0, none⟩)) rfl rfl (by kernel_rfl) (hS0) (Or.inl ⟨by rfl, fun w' hS' => by go_simp⟩) ?_
          simp only [pU]
          refine tH 28 174 (.pointer (some ⟨g, 0, none⟩)) rfl rfl (by kernel_rfl) (hS0) (Or.inl ⟨by rfl, fun w' hS' => by go_simp⟩) ?_
          simp only [pU]
          refine tH 29 175 (.pointer (some ⟨g, 1, none⟩)) rfl rfl (by kernel_rfl) (hS0) (Or.inl ⟨by rfl, fun w' hS' => by go_simp⟩) ?_
          simp only [pU]
          refine tH 30 176 (.slice (some ⟨gr, 0, none⟩) m c) rfl rfl (by kernel_rfl) (hS0) (Or.inl ⟨by rfl, fun w' hS' => by have q := G1.out w' hS'; go_simp⟩) ?_
          simp only [pU]
          refine tH 31 177 (.int .i64 (ii : Nat)) rfl rfl (by kernel_rfl) (hS0) (Or.inl ⟨by rfl, fun w' hS' => by go_simp⟩) ?_
          simp only [pU]
          refine tH 32 178 (.int .i64 (4 * ((ii : Nat) : Int))) rfl rfl (by kernel_rfl) (hS0) (Or.inl ⟨by rfl, fun w' hS' => by go_simp⟩) ?_
          simp only [pU]
          refine tH 33 179 (.int .i64 ((p3 : Nat) : Int)) rfl rfl (by kernel_rfl) (hS0) (Or.inl ⟨by rfl, fun w' hS' => by go_simp⟩) ?_
          simp only [pU]
          refine tH 34 180 (.pointer (some ⟨gr, p3, none⟩)) rfl rfl (by kernel_rfl) (hS0) (Or.inl ⟨by rfl, fun w' hS' => by go_simp⟩) ?_
          simp only [pU]
          refine tH 35 181 (.int .u8 (r3 : Nat)) rfl rfl (by kernel_rfl) (hS0) (Or.inl ⟨by rfl, fun w' hS' => by have q := C3.out w' hS'; go_simp⟩) ?_
          simp only [pU]
          refine wpAnyH_ready (rs := [36]) (by kernel_rfl) (by simp) ?_
          refine AllReadyH.cons rfl (fun K hK => ?_) AllReadyH.nil
          rw [if_pos (by kernel_rfl)]
          go_simp
          have hSb : Below wr.heap.size wr (wr.alloc (.cells #[.int .u8 (r0 : Nat), .int .u8 (r1 : Nat), .int .u8 (r2 : Nat), .int .u8 (r3 : Nat)] 5)).drew := ((Below.refl _ wr).alloc (Nat.le_refl _) _).drew
          refine hK.out _ _ hSb (fun _ => ?_)
          clear hK K
          try simp only [Act.put, pU]
          refine tH 37 13 (.slice (some ⟨wr.heap.size, 0, none⟩) 4 4) rfl rfl (by kernel_rfl) (hSb) (Or.inl ⟨by rfl, fun w' hS' => by go_simp⟩) ?_
          simp only [pU]
          refine wpAnyH_done (by kernel_rfl) ?_ _
          refine NoPanic.normal ?_
          have HWtb : Hid (RkW w g gr c m f (wr.alloc (.cells #[.int .u8 (r0 : Nat), .int .u8 (r1 : Nat), .int .u8 (r2 : Nat), .int .u8 (r3 : Nat)] 5)).drew ∧ Tr (wr.alloc (.cells #[.int .u8 (r0 : Nat), .int .u8 (r1 : Nat), .int .u8 (r2 : Nat), .int .u8 (r3 : Nat)] 5)).drew wr.heap.size (fun j => if j = 0 then r0 else if j = 1 then r1 else if j = 2 then r2 else r3) ∧ gr ≠ wr.heap.size ∧ g ≠ wr.heap.size) := ⟨HM.out.below hSb, ⟨(Tr.new wr r0 r1 r2 r3).1, (Tr.new wr r0 r1 r2 r3).2⟩, Nat.ne_of_lt HM.out.gr_lt.2, Nat.ne_of_lt HM.out.t.lt⟩
          clear hSb hS0
          generalize (wr.alloc (.cells #[.int .u8 (r0 : Nat), .int .u8 (r1 : Nat), .int .u8 (r2 : Nat), .int .u8 (r3 : Nat)] 5)).drew = wT at HWtb ⊢
          generalize wr.heap.size = tb at HWtb ⊢
          have HMT : Hid (RkW w g gr c m f wT) := HWtb.out.1
          clear HM G1 C0 C1 C2 C3 hp0 hp1 hp2 hp3 hbp0 hbp1 hbp2 hbp3 hwp0 hwp1 hwp2 hwp3
          obtain ⟨rq, HRQ⟩ : ∃ q, Hid (ii % nk = q) := ⟨_, rfl⟩
          have hre : ((ii : Nat) : Int).tmod ((nk : Nat) : Int) = ((rq : Nat) : Int) := Zbl _ _ _ HRQ.out
          obtain ⟨B0, HB0⟩ : ∃ b : Bool, Hid ((((rq : Nat) : Int) == 0) = b) := ⟨_, rfl⟩
          have j0 : (((rq : Nat) : Int) == 0) = B0 := HB0.out
          go_upto_if 186 with fail
          go_cut [11, 13] from 139 to 293 (fun vp vt wx => ∃ (pn tc : Nat) (ft : Nat → Nat), vp = .int .u8 (pn : Nat) ∧ vt = .slice (some ⟨tc, 0, none⟩) 4 4 ∧ pn < 256 ∧ Hid (RkW w g gr c m f wx ∧ Tr wx tc ft ∧ gr ≠ tc ∧ g ≠ tc ∧ ∀ j, ft j < 256))
          case first =>
            clear j0
            cases B0 with
            | true => as_aux_lemma =>
              obtain ⟨s0, ls0, es0⟩ := HMT.out.t.sv r0 l0
              have HS0 : Hid (wT.cell? ⟨g, 2 + r0, none⟩ = some (.int .u8 (s0 : Nat))) := es0
              clear es0
              have li0 : ((r0 : Nat) : Int) < 256 := Int.ofNat_lt.2 l0
              obtain ⟨s1, ls1, es1⟩ := HMT.out.t.sv r1 l1
              have HS1 : Hid (wT.cell? ⟨g, 2 + r1, none⟩ = some (.int .u8 (s1 : Nat))) := es1
              clear es1
              have li1 : ((r1 : Nat) : Int) < 256 := Int.ofNat_lt.2 l1
              obtain ⟨s2, ls2, es2⟩ := HMT.out.t.sv r2 l2
              have HS2 : Hid (wT.cell? ⟨g, 2 + r2, none⟩ = some (.int .u8 (s2 : Nat))) := es2
              clear es2
              have li2 : ((r2 : Nat) : Int) < 256 := Int.ofNat_lt.2 l2
              obtain ⟨s3, ls3, es3⟩ := HMT.out.t.sv r3 l3
              have HS3 : Hid (wT.cell? ⟨g, 2 + r3, none⟩ = some (.int .u8 (s3 : Nat))) := es3
              clear es3
              have li3 : ((r3 : Nat) : Int) < 256 := Int.ofNat_lt.2 l3
              have hS0 : Below wT.heap.size wT wT.drew := (Below.refl _ _).drew
              have D0 : Hid (∀ u, Below wT.heap.size wT u → u.cell? ⟨tb, 0, none⟩ = some (.int .u8 (r0 : Nat))) := fun u hu => (hu.cell (p := ⟨tb, 0, none⟩) HWtb.out.2.1.lt).trans (HWtb.out.2.1.c 0 (by decide))
              have E0 : Hid (∀ u, Below wT.heap.size wT u → u.cell? ⟨g, 2 + r0, none⟩ = some (.int .u8 (s0 : Nat))) := fun u hu => (hu.cell (p := ⟨g, 2 + r0, none⟩) HMT.out.t.lt).trans HS0.out
              have D1 : Hid (∀ u, Below wT.heap.size wT u → u.cell? ⟨tb, 1, none⟩ = some (.int .u8 (r1 : Nat))) := fun u hu => (hu.cell (p := ⟨tb, 1, none⟩) HWtb.out.2.1.lt).trans (HWtb.out.2.1.c 1 (by decide))
              have E1 : Hid (∀ u, Below wT.heap.size wT u → u.cell? ⟨g, 2 + r1, none⟩ = some (.int .u8 (s1 : Nat))) := fun u hu => (hu.cell (p := ⟨g, 2 + r1, none⟩) HMT.out.t.lt).trans HS1.out
              have D2 : Hid (∀ u, Below wT.heap.size wT u → u.cell? ⟨tb, 2, none⟩ = some (.int .u8 (r2 : Nat))) := fun u hu => (hu.cell (p := ⟨tb, 2, none⟩) HWtb.out.2.1.lt).trans (HWtb.out.2.1.c 2 (by decide))
              have E2 : Hid (∀ u, Below wT.heap.size wT u → u.cell? ⟨g, 2 + r2, none⟩ = some (.int .u8 (s2 : Nat))) := fun u hu => (hu.cell (p := ⟨g, 2 + r2, none⟩) HMT.out.t.lt).trans HS2.out
              have D3 : Hid (∀ u, Below wT.heap.size wT u → u.cell? ⟨tb, 3, none⟩ = some (.int .u8 (r3 : Nat))) := fun u hu => (hu.cell (p := ⟨tb, 3, none⟩) HWtb.out.2.1.lt).trans (HWtb.out.2.1.c 3 (by decide))
              have E3 : Hid (∀ u, Below wT.heap.size wT u → u.cell? ⟨g, 2 + r3, none⟩ = some (.int .u8 (s3 : Nat))) := fun u hu => (hu.cell (p := ⟨g, 2 + r3, none⟩) HMT.out.t.lt).trans HS3.out
              obtain ⟨x0, HX0⟩ : ∃ x, Hid (x = Nat.xor s1 pw) := ⟨_, rfl⟩
              have lx0 : x0 < 256 := by rw [HX0.out]; exact Zj ls1 hpw
              have hx0 : bits .xor .u8 ((s1 : Nat) : Int) ((pw : Nat) : Int) = ((x0 : Nat) : Int) := by rw [Ja _ _ ls1 hpw, HX0.out]
              go_upto_region 28 with fail
              refine wp_region_noPanic ?_
              refine wp_region_held_drew (S := fun u => Below wT.heap.size wT u) (by kernel_rfl) (hS0) (fun _ => ?_)
              refine tH 0 187 (.pointer (some ⟨g, 0, none⟩)) rfl rfl (by kernel_rfl) (hS0) (Or.inl ⟨by rfl, fun w' hS' => by go_simp⟩) ?_
              simp only [pU]
              refine tH 1 188 (.slice (some ⟨tb, 0, none⟩) 4 4) rfl rfl (by kernel_rfl) (hS0) (Or.inl ⟨by rfl, fun w' hS' => by go_simp⟩) ?_
              simp only [pU]
              refine tH 2 189 (.pointer (some ⟨tb, 1, none⟩)) rfl rfl (by kernel_rfl) (hS0) (Or.inl ⟨by rfl, fun w' hS' => by go_simp⟩) ?_
              simp only [pU]
              refine tH 3 190 (.int .u8 (r1 : Nat)) rfl rfl (by kernel_rfl) (hS0) (Or.inl ⟨by rfl, fun w' hS' => by have q := D1.out w' hS'; go_simp⟩) ?_
              simp only [pU]
              refine tH 4 191 (.pointer (some ⟨g, 0, none⟩)) rfl rfl (by kernel_rfl) (hS0) (Or.inl ⟨by rfl, fun w' hS' => by go_simp⟩) ?_
              simp only [pU]
              refine tH 5 192 (.pointer (some ⟨g, 2, none⟩)) rfl rfl (by kernel_rfl) (hS0) (Or.inl ⟨by rfl, fun w' hS' => by go_simp⟩) ?_
              simp only [pU]
              refine tH 6 193 (.pointer (some ⟨g, 2 + r1, none⟩)) rfl rfl (by kernel_rfl) (hS0) (Or.inl ⟨by rfl, fun w' hS' => by go_simp⟩) ?_
              simp only [pU]
              refine tH 7 194 (.int .u8 (s1 : Nat)) rfl rfl (by kernel_rfl) (hS0) (Or.inl ⟨by rfl, fun w' hS' => by have q := E1.out w' hS'; go_simp⟩) ?_
              simp only [pU]
              refine tH 8 195 (.int .u8 (pw : Nat)) rfl rfl (by kernel_rfl) (hS0) (Or.inl ⟨by rfl, fun w' hS' => by go_simp⟩) ?_
              simp only [pU]
              refine tH 9 196 (.int .u8 (x0 : Nat)) rfl rfl (by kernel_rfl) (hS0) (Or.inl ⟨by rfl, fun w' hS' => by go_simp⟩) ?_
              simp only [pU]
              refine tH 10 197 (.pointer (some ⟨g, 0, none⟩)) rfl rfl (by kernel_rfl) (hS0) (Or.inl ⟨by rfl, fun w' hS' => by go_simp⟩) ?_
              simp only [pU]
              refine tH 11 198 (.slice (some ⟨tb, 0, none⟩) 4 4) rfl rfl (by kernel_rfl) (hS0) (Or.inl ⟨by rfl, fun w' hS' => by go_simp⟩) ?_
              simp only [pU]
              refine tH 12 199 (.pointer (some ⟨tb, 2, none⟩)) rfl rfl (by kernel_rfl) (hS0) (Or.inl ⟨by rfl, fun w' hS' => by go_simp⟩) ?_
              simp only [pU]
              refine tH 13 200 (.int .u8 (r2 : Nat)) rfl rfl (by kernel_rfl) (hS0) (Or.inl ⟨by rfl, fun w' hS' => by have q := D2.out w' hS'; go_simp⟩) ?_
              simp only [pU]
              refine tH 14 201 (.pointer (some ⟨g, 0, none⟩)) rfl rfl (by kernel_rfl) (hS0) (Or.inl ⟨by rfl, fun w' hS' => by go_simp⟩) ?_
              simp only [pU]
              refine tH 15 202 (.pointer (some ⟨g, 2, none⟩)) rfl rfl (by kernel_rfl) (hS0) (Or.inl ⟨by rfl, fun w' hS' => by go_simp⟩) ?_
              simp only [pU]
              refine tH 16 203 (.pointer (some ⟨g, 2 + r2, none⟩)) rfl rfl (by kernel_rfl) (hS0) (Or.inl ⟨by rfl, fun w' hS' => by go_simp⟩) ?_
              simp only [pU]
              refine tH 17 204 (.int .u8 (s2 : Nat)) rfl rfl (by kernel_rfl) (hS0) (Or.inl ⟨by rfl, fun w' hS' => by have q := E2.out w' hS'; go_simp⟩) ?_
              simp only [pU]
              refine tH 18 205 (.pointer (some ⟨g, 0, none⟩)) rfl rfl (by kernel_rfl) (hS0) (Or.inl ⟨by rfl, fun w' hS' => by go_simp⟩) ?_
              simp only [pU]
              refine tH 19 206 (.slice (some ⟨tb, 0, none⟩) 4 4) rfl rfl (by kernel_rfl) (hS0) (Or.inl ⟨by rfl, fun w' hS' => by go_simp⟩) ?_
              simp only [pU]
              refine tH 20 207 (.pointer (some ⟨tb, 3, none⟩)) rfl rfl (by kernel_rfl) (hS0) (Or.inl ⟨by rfl, fun w' hS' => by go_simp⟩) ?_
              simp only [pU]
              refine tH 21 208 (.int .u8 (r3 : Nat)) rfl rfl (by kernel_rfl) (hS0) (Or.inl ⟨by rfl, fun w' hS' => by have q := D3.out w' hS'; go_simp⟩) ?_
              simp only [pU]
              refine tH 22 209 (.pointer (some ⟨g, 0, none⟩)) rfl rfl (by kernel_rfl) (hS0) (Or.inl ⟨by rfl, fun w' hS' => by go_simp⟩) ?_
              simp only [pU]
              refine tH 23 210 (.pointer (some ⟨g, 2, none⟩)) rfl rfl (by kernel_rfl) (hS0) (Or.inl ⟨by rfl, fun w' hS' => by go_simp⟩) ?_
              simp only [pU]
              refine tH 24 211 (.pointer (some ⟨g, 2 + r3, none⟩)) rfl rfl (by kernel_rfl) (hS0) (Or.inl ⟨by rfl, fun w' hS' => by go_simp⟩) ?_
              simp only [pU]
              refine tH 25 212 (.int .u8 (s3 : Nat)) rfl rfl (by kernel_rfl) (hS0) (Or.inl ⟨by rfl, fun w' hS' => by have q := E3.out w' hS'; go_simp⟩) ?_
              simp only [pU]
              refine tH 26 213 (.pointer (some ⟨g, 0, none⟩)) rfl rfl (by kernel_rfl) (hS0) (Or.inl ⟨by rfl, fun w' hS' => by go_simp⟩) ?_
              simp only [pU]
              refine tH 27 214 (.slice (some ⟨tb, 0, none⟩) 4 4) rfl rfl (by kernel_rfl) (hS0) (Or.inl ⟨by rfl, fun w' hS' => by go_simp⟩) ?_
              simp only [pU]
              refine tH 28 215 (.pointer (some ⟨tb, 0, none⟩)) rfl rfl (by kernel_rfl) (hS0) (Or.inl ⟨by rfl, fun w' hS' => by go_simp⟩) ?_
              simp only [pU]
              refine tH 29 216 (.int .u8 (r0 : Nat)) rfl rfl (by kernel_rfl) (hS0) (Or.inl ⟨by rfl, fun w' hS' => by have q := D0.out w' hS'; go_simp⟩) ?_
              simp only [pU]
              refine tH 30 217 (.pointer (some ⟨g, 0, none⟩)) rfl rfl (by kernel_rfl) (hS0) (Or.inl ⟨by rfl, fun w' hS' => by go_simp⟩) ?_
              simp only [pU]
              refine tH 31 218 (.pointer (some ⟨g, 2, none⟩)) rfl rfl (by kernel_rfl) (hS0) (Or.inl ⟨by rfl, fun w' hS' => by go_simp⟩) ?_
              simp only [pU]
              refine tH 32 219 (.pointer (some ⟨g, 2 + r0, none⟩)) rfl rfl (by kernel_rfl) (hS0) (Or.inl ⟨by rfl, fun w' hS' => by go_simp⟩) ?_
              simp only [pU]
              refine tH 33 220 (.int .u8 (s0 : Nat)) rfl rfl (by kernel_rfl) (hS0) (Or.inl ⟨by rfl, fun w' hS' => by have q := E0.out w' hS'; go_simp⟩) ?_
              simp only [pU]
              refine wpAnyH_ready (rs := [34]) (by kernel_rfl) (by simp) ?_
              refine AllReadyH.cons rfl (fun K hK => ?_) AllReadyH.nil
              rw [if_pos (by kernel_rfl)]
              go_simp
              have hSb : Below wT.heap.size wT (wT.alloc (.cells #[.int .u8 (x0 : Nat), .int .u8 (s2 : Nat), .int .u8 (s3 : Nat), .int .u8 (s0 : Nat)] 5)).drew := ((Below.refl _ wT).alloc (Nat.le_refl _) _).drew
              refine hK.out _ _ hSb (fun _ => ?_)
              clear hK K
              try simp only [Act.put, pU]
              refine tH 35 13 (.slice (some ⟨wT.heap.size, 0, none⟩) 4 4) rfl rfl (by kernel_rfl) (hSb) (Or.inl ⟨by rfl, fun w' hS' => by go_simp⟩) ?_
              simp only [pU]
              refine wpAnyH_done (by kernel_rfl) ?_ _
              refine NoPanic.normal ?_
              have HWtc : Hid (RkW w g gr c m f (wT.alloc (.cells #[.int .u8 (x0 : Nat), .int .u8 (s2 : Nat), .int .u8 (s3 : Nat), .int .u8 (s0 : Nat)] 5)).drew ∧ Tr (wT.alloc (.cells #[.int .u8 (x0 : Nat), .int .u8 (s2 : Nat), .int .u8 (s3 : Nat), .int .u8 (s0 : Nat)] 5)).drew wT.heap.size (fun j => if j = 0 then x0 else if j = 1 then s2 else if j = 2 then s3 else s0) ∧ gr ≠ wT.heap.size ∧ g ≠ wT.heap.size) := ⟨HMT.out.below hSb, ⟨(Tr.new wT x0 s2 s3 s0).1, (Tr.new wT x0 s2 s3 s0).2⟩, Nat.ne_of_lt HMT.out.gr_lt.2, Nat.ne_of_lt HMT.out.t.lt⟩
              clear hSb hS0
              generalize (wT.alloc (.cells #[.int .u8 (x0 : Nat), .int .u8 (s2 : Nat), .int .u8 (s3 : Nat), .int .u8 (s0 : Nat)] 5)).drew = wU at HWtc ⊢
              generalize wT.heap.size = tc at HWtc ⊢
              have HMU : Hid (RkW w g gr c m f wU) := HWtc.out.1
              clear D0 D1 D2 D3 E0 E1 E2 E3 hx0 HMT HWtb
              have KT : Hid (∀ u, Calls Tryz.prog 113 #[.int .u8 (pw : Nat), .int .u8 2] u fun e u' => e = .returned (.int .u8 (Zo pw : Nat)) ∧ u' = u) := fun u => (Jf pw 2 hpw (by decide) u).mono fun e u' ⟨h1, h2⟩ => ⟨by rw [h1, G8 ⟨pw, hpw⟩], h2⟩
              obtain ⟨pn, HPN⟩ : ∃ q, Hid (Zo pw = q) := ⟨_, rfl⟩
              have lpn : pn < 256 := by rw [← HPN.out]; exact Vk ⟨pw, hpw⟩
              rw [HPN.out] at KT
              go_wp2_with (first | (go_at_call 113; (refine (KT.out _).mono ?_)))
              rintro e7 w7 ⟨rfl, hw7⟩
              obtain rfl := hw7.symm
              clear KT
              go_wp2_with fail
              go_meet
              refine ⟨pn, tc, _, rfl, rfl, lpn, HWtc.out.1, HWtc.out.2.1, HWtc.out.2.2.1, HWtc.out.2.2.2, fun j => ?_⟩
              show (if j = 0 then _ else if j = 1 then _ else if j = 2 then _ else _) < 256
              split
              · exact lx0
              · split
                · exact ls2
                · split
                  · exact ls3
                  · exact ls0
            | false => as_aux_lemma =>
              by_cases h8 : nk = 8 ∧ ii % 8 = 4
              · have j1 : (((nk : Nat) : Int) == 8) = true := Zeh _ h8.1
                have j2 : ((ii : Nat) : Int).tmod 8 = 4 := Zeg _ h8.2
                clear h8
                obtain ⟨s0, ls0, es0⟩ := HMT.out.t.sv r0 l0
                have HS0 : Hid (wT.cell? ⟨g, 2 + r0, none⟩ = some (.int .u8 (s0 : Nat))) := es0
                clear es0
                have li0 : ((r0 : Nat) : Int) < 256 := Int.ofNat_lt.2 l0
                obtain ⟨s1, ls1, es1⟩ := HMT.out.t.sv r1 l1
                have HS1 : Hid (wT.cell? ⟨g, 2 + r1, none⟩ = some (.int .u8 (s1 : Nat))) := es1
                clear es1
                have li1 : ((r1 : Nat) : Int) < 256 := Int.ofNat_lt.2 l1
                obtain ⟨s2, ls2, es2⟩ := HMT.out.t.sv r2 l2
                have HS2 : Hid (wT.cell? ⟨g, 2 + r2, none⟩ = some (.int .u8 (s2 : Nat))) := es2
                clear es2
                have li2 : ((r2 : Nat) : Int) < 256 := Int.ofNat_lt.2 l2
                obtain ⟨s3, ls3, es3⟩ := HMT.out.t.sv r3 l3
                have HS3 : Hid (wT.cell? ⟨g, 2 + r3, none⟩ = some (.int .u8 (s3 : Nat))) := es3
                clear es3
                have li3 : ((r3 : Nat) : Int) < 256 := Int.ofNat_lt.2 l3
                have hS0 : Below wT.heap.size wT wT.drew := (Below.refl _ _).drew
                have D0 : Hid (∀ u, Below wT.heap.size wT u → u.cell? ⟨tb, 0, none⟩ = some (.int .u8 (r0 : Nat))) := fun u hu => (hu.cell (p := ⟨tb, 0, none⟩) HWtb.out.2.1.lt).trans (HWtb.out.2.1.c 0 (by decide))
                have E0 : Hid (∀ u, Below wT.heap.size wT u → u.cell? ⟨g, 2 + r0, none⟩ = some (.int .u8 (s0 : Nat))) := fun u hu => (hu.cell (p := ⟨g, 2 + r0, none⟩) HMT.out.t.lt).trans HS0.out
                have D1 : Hid (∀ u, Below wT.heap.size wT u → u.cell? ⟨tb, 1, none⟩ = some (.int .u8 (r1 : Nat))) := fun u hu => (hu.cell (p := ⟨tb, 1, none⟩) HWtb.out.2.1.lt).trans (HWtb.out.2.1.c 1 (by decide))
                have E1 : Hid (∀ u, Below wT.heap.size wT u → u.cell? ⟨g, 2 + r1, none⟩ = some (.int .u8 (s1 : Nat))) := fun u hu => (hu.cell (p := ⟨g, 2 + r1, none⟩) HMT.out.t.lt).trans HS1.out
                have D2 : Hid (∀ u, Below wT.heap.size wT u → u.cell? ⟨tb, 2, none⟩ = some (.int .u8 (r2 : Nat))) := fun u hu => (hu.cell (p := ⟨tb, 2, none⟩) HWtb.out.2.1.lt).trans (HWtb.out.2.1.c 2 (by decide))
                have E2 : Hid (∀ u, Below wT.heap.size wT u → u.cell? ⟨g, 2 + r2, none⟩ = some (.int .u8 (s2 : Nat))) := fun u hu => (hu.cell (p := ⟨g, 2 + r2, none⟩) HMT.out.t.lt).trans HS2.out
                have D3 : Hid (∀ u, Below wT.heap.size wT u → u.cell? ⟨tb, 3, none⟩ = some (.int .u8 (r3 : Nat))) := fun u hu => (hu.cell (p := ⟨tb, 3, none⟩) HWtb.out.2.1.lt).trans (HWtb.out.2.1.c 3 (by decide))
                have E3 : Hid (∀ u, Below wT.heap.size wT u → u.cell? ⟨g, 2 + r3, none⟩ = some (.int .u8 (s3 : Nat))) := fun u hu => (hu.cell (p := ⟨g, 2 + r3, none⟩) HMT.out.t.lt).trans HS3.out
                go_upto_region 31 with fail
                refine wp_region_noPanic ?_
                refine wp_region_held_drew (S := fun u => Below wT.heap.size wT u) (by kernel_rfl) (hS0) (fun _ => ?_)
                refine tH 0 231 (.pointer (some ⟨g, 0, none⟩)) rfl rfl (by kernel_rfl) (hS0) (Or.inl ⟨by rfl, fun w' hS' => by go_simp⟩) ?_
                simp only [pU]
                refine tH 1 232 (.slice (some ⟨tb, 0, none⟩) 4 4) rfl rfl (by kernel_rfl) (hS0) (Or.inl ⟨by rfl, fun w' hS' => by go_simp⟩) ?_
                simp only [pU]
                refine tH 2 233 (.pointer (some ⟨tb, 0, none⟩)) rfl rfl (by kernel_rfl) (hS0) (Or.inl ⟨by rfl, fun w' hS' => by go_simp⟩) ?_
                simp only [pU]
                refine tH 3 234 (.int .u8 (r0 : Nat)) rfl rfl (by kernel_rfl) (hS0) (Or.inl ⟨by rfl, fun w' hS' => by have q := D0.out w' hS'; go_simp⟩) ?_
                simp only [pU]
                refine tH 4 235 (.pointer (some ⟨g, 0, none⟩)) rfl rfl (by kernel_rfl) (hS0) (Or.inl ⟨by rfl, fun w' hS' => by go_simp⟩) ?_
                simp only [pU]
                refine tH 5 236 (.pointer (some ⟨g, 2, none⟩)) rfl rfl (by kernel_rfl) (hS0) (Or.inl ⟨by rfl, fun w' hS' => by go_simp⟩) ?_
                simp only [pU]
                refine tH 6 237 (.pointer (some ⟨g, 2 + r0, none⟩)) rfl rfl (by kernel_rfl) (hS0) (Or.inl ⟨by rfl, fun w' hS' => by go_simp⟩) ?_
                simp only [pU]
                refine tH 7 238 (.int .u8 (s0 : Nat)) rfl rfl (by kernel_rfl) (hS0) (Or.inl ⟨by rfl, fun w' hS' => by have q := E0.out w' hS'; go_simp⟩) ?_
                simp only [pU]
                refine tH 8 239 (.pointer (some ⟨g, 0, none⟩)) rfl rfl (by kernel_rfl) (hS0) (Or.inl ⟨by rfl, fun w' hS' => by go_simp⟩) ?_
                simp only [pU]
                refine tH 9 240 (.slice (some ⟨tb, 0, none⟩) 4 4) rfl rfl (by kernel_rfl) (hS0) (Or.inl ⟨by rfl, fun w' hS' => by go_simp⟩) ?_
                simp only [pU]
                refine tH 10 241 (.pointer (some ⟨tb, 1, none⟩)) rfl rfl (by kernel_rfl) (hS0) (Or.inl ⟨by rfl, fun w' hS' => by go_simp⟩) ?_
                simp only [pU]
                refine tH 11 242 (.int .u8 (r1 : Nat)) rfl rfl (by kernel_rfl) (hS0) (Or.inl ⟨by rfl, fun w' hS' => by have q := D1.out w' hS'; go_simp⟩) ?_
                simp only [pU]
                refine tH 12 243 (.pointer (some ⟨g, 0, none⟩)) rfl rfl (by kernel_rfl) (hS0) (Or.inl ⟨by rfl, fun w' hS' => by go_simp⟩) ?_
                simp only [pU]
                refine tH 13 244 (.pointer (some ⟨g, 2, none⟩)) rfl rfl (by kernel_rfl) (hS0) (Or.inl ⟨by rfl, fun w' hS' => by go_simp⟩) ?_
                simp only [pU]
                refine tH 14 245 (.pointer (some ⟨g, 2 + r1, none⟩)) rfl rfl (by kernel_rfl) (hS0) (Or.inl ⟨by rfl, fun w' hS' => by go_simp⟩) ?_
                simp only [pU]
                refine tH 15 246 (.int .u8 (s1 : Nat)) rfl rfl (by kernel_rfl) (hS0) (Or.inl ⟨by rfl, fun w' hS' => by have q := E1.out w' hS'; go_simp⟩) ?_
                simp only [pU]
                refine tH 16 247 (.pointer (some ⟨g, 0, none⟩)) rfl rfl (by kernel_rfl) (hS0) (Or.inl ⟨by rfl, fun w' hS' => by go_simp⟩) ?_
                simp only [pU]
                refine tH 17 248 (.slice (some ⟨tb, 0, none⟩) 4 4) rfl rfl (by kernel_rfl) (hS0) (Or.inl ⟨by rfl, fun w' hS' => by go_simp⟩) ?_
                simp only [pU]
                refine tH 18 249 (.pointer (some ⟨tb, 2, none⟩)) rfl rfl (by kernel_rfl) (hS0) (Or.inl ⟨by rfl, fun w' hS' => by go_simp⟩) ?_
                simp only [pU]
                refine tH 19 250 (.int .u8 (r2 : Nat)) rfl rfl (by kernel_rfl) (hS0) (Or.inl ⟨by rfl, fun w' hS' => by have q := D2.out w' hS'; go_simp⟩) ?_
                simp only [pU]
                refine tH 20 251 (.pointer (some ⟨g, 0, none⟩)) rfl rfl (by kernel_rfl) (hS0) (Or.inl ⟨by rfl, fun w' hS' => by go_simp⟩) ?_
                simp only [pU]
                refine tH 21 252 (.pointer (some ⟨g, 2, none⟩)) rfl rfl (by kernel_rfl) (hS0) (Or.inl ⟨by rfl, fun w' hS' => by go_simp⟩) ?_
                simp only [pU]
                refine tH 22 253 (.pointer (some ⟨g, 2 + r2, none⟩)) rfl rfl (by kernel_rfl) (hS0) (Or.inl ⟨by rfl, fun w' hS' => by go_simp⟩) ?_
                simp only [pU]
                refine tH 23 254 (.int .u8 (s2 : Nat)) rfl rfl (by kernel_rfl) (hS0) (Or.inl ⟨by rfl, fun w' hS' => by have q := E2.out w' hS'; go_simp⟩) ?_
                simp only [pU]
                refine tH 24 255 (.pointer (some ⟨g, 0, none⟩)) rfl rfl (by kernel_rfl) (hS0) (Or.inl ⟨by rfl, fun w' hS' => by go_simp⟩) ?_
                simp only [pU]
                refine tH 25 256 (.slice (some ⟨tb, 0, none⟩) 4 4) rfl rfl (by kernel_rfl) (hS0) (Or.inl ⟨by rfl, fun w' hS' => by go_simp⟩) ?_
                simp only [pU]
                refine tH 26 257 (.pointer (some ⟨tb, 3, none⟩)) rfl rfl (by kernel_rfl) (hS0) (Or.inl ⟨by rfl, fun w' hS' => by go_simp⟩) ?_
                simp only [pU]
                refine tH 27 258 (.int .u8 (r3 : Nat)) rfl rfl (by kernel_rfl) (hS0) (Or.inl ⟨by rfl, fun w' hS' => by have q := D3.out w' hS'; go_simp⟩) ?_
                simp only [pU]
                refine tH 28 259 (.pointer (some ⟨g, 0, none⟩)) rfl rfl (by kernel_rfl) (hS0) (Or.inl ⟨by rfl, fun w' hS' => by go_simp⟩) ?_
                simp only [pU]
                refine tH 29 260 (.pointer (some ⟨g, 2, none⟩)) rfl rfl (by kernel_rfl) (hS0) (Or.inl ⟨by rfl, fun w' hS' => by go_simp⟩) ?_
                simp only [pU]
                refine tH 30 261 (.pointer (some ⟨g, 2 + r3, none⟩)) rfl rfl (by kernel_rfl) (hS0) (Or.inl ⟨by rfl, fun w' hS' => by go_simp⟩) ?_
                simp only [pU]
                refine tH 31 262 (.int .u8 (s3 : Nat)) rfl rfl (by kernel_rfl) (hS0) (Or.inl ⟨by rfl, fun w' hS' => by have q := E3.out w' hS'; go_simp⟩) ?_
                simp only [pU]
                refine wpAnyH_ready (rs := [32]) (by kernel_rfl) (by simp) ?_
                refine AllReadyH.cons rfl (fun K hK => ?_) AllReadyH.nil
                rw [if_pos (by kernel_rfl)]
                go_simp
                have hSb : Below wT.heap.size wT (wT.alloc (.cells #[.int .u8 (s0 : Nat), .int .u8 (s1 : Nat), .int .u8 (s2 : Nat), .int .u8 (s3 : Nat)] 5)).drew := ((Below.refl _ wT).alloc (Nat.le_refl _) _).drew
                refine hK.out _ _ hSb (fun _ => ?_)
                clear hK K
                try simp only [Act.put, pU]
                refine tH 33 13 (.slice (some ⟨wT.heap.size, 0, none⟩) 4 4) rfl rfl (by kernel_rfl) (hSb) (Or.inl ⟨by rfl, fun w' hS' => by go_simp⟩) ?_
                simp only [pU]
                refine wpAnyH_done (by kernel_rfl) ?_ _
                refine NoPanic.normal ?_
                have HWtc : Hid (RkW w g gr c m f (wT.alloc (.cells #[.int .u8 (s0 : Nat), .int .u8 (s1 : Nat), .int .u8 (s2 : Nat), .int .u8 (s3 : Nat)] 5)).drew ∧ Tr (wT.alloc (.cells #[.int .u8 (s0 : Nat), .int .u8 (s1 : Nat), .int .u8 (s2 : Nat), .int .u8 (s3 : Nat)] 5)).drew wT.heap.size (fun j => if j = 0 then s0 else if j = 1 then s1 else if j = 2 then s2 else s3) ∧ gr ≠ wT.heap.size ∧ g ≠ wT.heap.size) := ⟨HMT.out.below hSb, ⟨(Tr.new wT s0 s1 s2 s3).1, (Tr.new wT s0 s1 s2 s3).2⟩, Nat.ne_of_lt HMT.out.gr_lt.2, Nat.ne_of_lt HMT.out.t.lt⟩
                clear hSb hS0
                generalize (wT.alloc (.cells #[.int .u8 (s0 : Nat), .int .u8 (s1 : Nat), .int .u8 (s2 : Nat), .int .u8 (s3 : Nat)] 5)).drew = wU at HWtc ⊢
                generalize wT.heap.size = tc at HWtc ⊢
                have HMU : Hid (RkW w g gr c m f wU) := HWtc.out.1
                clear D0 D1 D2 D3 E0 E1 E2 E3 HMT HWtb
                try go_wp2_with fail
                go_meet
                refine ⟨pw, tc, _, rfl, rfl, hpw, HWtc.out.1, HWtc.out.2.1, HWtc.out.2.2.1, HWtc.out.2.2.2, fun j => ?_⟩
                show (if j = 0 then _ else if j = 1 then _ else if j = 2 then _ else _) < 256
                split
                · exact ls0
                · split
                  · exact ls1
                  · split
                    · exact ls2
                    · exact ls3
              · obtain ⟨d8, HD8⟩ : ∃ d : Bool, Hid ((((nk : Nat) : Int) == 8) = d) := ⟨_, rfl⟩
                have j1 : (((nk : Nat) : Int) == 8) = d8 := HD8.out
                cases d8 with
                | false =>
                  clear h8 HD8
                  go_wp2_with fail
                  go_meet
                  refine ⟨pw, tb, _, rfl, rfl, hpw, HWtb.out.1, HWtb.out.2.1, HWtb.out.2.2.1, HWtb.out.2.2.2, fun j => ?_⟩
                  show (if j = 0 then _ else if j = 1 then _ else if j = 2 then _ else _) < 256
                  split
                  · exact l0
                  · split
                    · exact l1
                    · split
                      · exact l2
                      · exact l3
                | true =>
                  obtain ⟨q8, HQ8⟩ : ∃ q : Nat, Hid (ii % 8 = q) := ⟨_, rfl⟩
                  have j2 : ((ii : Nat) : Int).tmod 8 = ((q8 : Nat) : Int) := Zbl _ 8 _ HQ8.out
                  have j3 : (((q8 : Nat) : Int) == 4) = false := Zef _ _ _ h8 HD8.out HQ8.out
                  clear h8 HD8
                  go_wp2_with fail
                  go_meet
                  refine ⟨pw, tb, _, rfl, rfl, hpw, HWtb.out.1, HWtb.out.2.1, HWtb.out.2.2.1, HWtb.out.2.2.2, fun j => ?_⟩
                  show (if j = 0 then _ else if j = 1 then _ else if j = 2 then _ else _) < 256
                  split
                  · exact l0
                  · split
                    · exact l1
                    · split
                      · exact l2
                      · exact l3
          case rest =>
          obtain ⟨pn, tc, ft, rfl, rfl, hpn, HX⟩ := hcut
          clear HMT HWtb hre
          go_wp2
          go_loopw [14] (fun j wr => ∃ jj gr2 c2 mm : Nat, ∃ f2 : Nat → Nat, jj ≤ 4 ∧ j = .int .i64 jj ∧ Hid (mm = m + jj ∧ RkW w g gr2 c2 mm f2 wr ∧ Tr wr tc ft ∧ gr2 ≠ tc ∧ g ≠ tc ∧ ∀ j, ft j < 256)) (fun j _ => 4 - (intOf j).toNat)
          case atStart => exact ⟨0, gr, c, m, f, by omega, rfl, rfl, HX.out⟩
          case round =>
            clear HX
            obtain ⟨jj, gr2, c2, mm, f2, hj4, rfl, HJ⟩ := hrel
            by_cases hjl : jj < 4
            · have hjli : ((jj : Nat) : Int) < 4 := by omega
              obtain ⟨hwa, hwb, hqe, hwq, hwj⟩ := Zej ii nk jj HBD.out.2.2.2.1 HBD.out.1 hjl
              obtain ⟨q, HQ⟩ : ∃ q, Hid (4 * (ii - nk) + jj = q) := ⟨_, rfl⟩
              obtain ⟨qa, HQA⟩ : ∃ q, Hid (ii - nk = q) := ⟨_, rfl⟩
              obtain ⟨qb, HQB⟩ : ∃ q, Hid (4 * (ii - nk) = q) := ⟨_, rfl⟩
              rw [HQ.out] at hqe hwq
              rw [HQA.out] at hwa
              rw [HQB.out] at hqe hwb
              rw [HQA.out] at hwb
              have HQM : Hid (q < mm ∧ mm ≤ 300) := by have h1 := HQ.out; have h2 := HJ.out.1; have h3 := HMM.out; have h4 := HBD.out; show _ ∧ _; omega
              have hqi : ((q : Nat) : Int) < ((mm : Nat) : Int) := Int.ofNat_lt.2 HQM.out.1
              obtain ⟨aq, HAQ⟩ : ∃ x, Hid (x = f2 q) := ⟨_, rfl⟩
              obtain ⟨bj, HBJ⟩ : ∃ x, Hid (x = ft jj) := ⟨_, rfl⟩
              have laq : aq < 256 := by rw [HAQ.out]; exact HJ.out.2.1.b _
              have lbj : bj < 256 := by rw [HBJ.out]; exact HJ.out.2.2.2.2.2 _
              obtain ⟨x, HXX⟩ : ∃ x, Hid (x = Nat.xor aq bj) := ⟨_, rfl⟩
              have lx : x < 256 := by rw [HXX.out]; exact Zj laq lbj
              have hx : bits .xor .u8 ((aq : Nat) : Int) ((bj : Nat) : Int) = ((x : Nat) : Int) := by rw [Ja _ _ laq lbj, HXX.out]
              have hSt : wr.drew.cell? ⟨g, 1, none⟩ = some (.slice (some ⟨gr2, 0, none⟩) mm c2) ∧ wr.drew.cell? ⟨gr2, q, none⟩ = some (.int .u8 (aq : Nat)) ∧ wr.drew.cell? ⟨tc, jj, none⟩ = some (.int .u8 (bj : Nat)) := ⟨HJ.out.2.1.r, by rw [HAQ.out]; exact HJ.out.2.1.cell q HQM.out.1, by rw [HBJ.out]; exact HJ.out.2.2.1.c jj hjl⟩
              go_upto_region 35 with fail
              refine wp_region_noPanic ?_
              refine Yb (fun u => u.cell? ⟨g, 1, none⟩ = some (.slice (some ⟨gr2, 0, none⟩) mm c2) ∧ u.cell? ⟨gr2, q, none⟩ = some (.int .u8 (aq : Nat)) ∧ u.cell? ⟨tc, jj, none⟩ = some (.int .u8 (bj : Nat))) 24 (by kernel_rfl) (by decide) (by decide +kernel) (by decide +kernel) (by decide +kernel) (fun inv => ?_)
              refine tT 0 268 (.pointer (some ⟨g, 0, none⟩)) inv rfl rfl (by decide +kernel) (hSt) (Or.inl ⟨by rfl, fun w' hS' => by go_simp⟩) (fun inv => ?_)
              simp only [pU]
              refine tT 1 269 (.pointer (some ⟨g, 0, none⟩)) inv rfl rfl (by decide +kernel) (hSt) (Or.inl ⟨by rfl, fun w' hS' => by go_simp⟩) (fun inv => ?_)
              simp only [pU]
              refine tT 2 270 (.pointer (some ⟨g, 0, none⟩)) inv rfl rfl (by decide +kernel) (hSt) (Or.inl ⟨by rfl, fun w' hS' => by go_simp⟩) (fun inv => ?_)
              simp only [pU]
              refine tT 3 271 (.pointer (some ⟨g, 1, none⟩)) inv rfl rfl (by decide +kernel) (hSt) (Or.inl ⟨by rfl, fun w' hS' => by go_simp⟩) (fun inv => ?_)
              simp only [pU]
              refine tT 4 272 (.slice (some ⟨gr2, 0, none⟩) mm c2) inv rfl rfl (by decide +kernel) (hSt) (Or.inl ⟨by rfl, fun w' hS' => by have q1 := hS'.1; go_simp⟩) (fun inv => ?_)
              simp only [pU]
              refine tT 5 273 (.pointer (some ⟨g, 0, none⟩)) inv rfl rfl (by decide +kernel) (hSt) (Or.inl ⟨by rfl, fun w' hS' => by go_simp⟩) (fun inv => ?_)
              simp only [pU]
              refine tT 6 274 (.pointer (some ⟨g, 0, none⟩)) inv rfl rfl (by decide +kernel) (hSt) (Or.inl ⟨by rfl, fun w' hS' => by go_simp⟩) (fun inv => ?_)
              simp only [pU]
              refine tT 7 275 (.pointer (some ⟨g, 1, none⟩)) inv rfl rfl (by decide +kernel) (hSt) (Or.inl ⟨by rfl, fun w' hS' => by go_simp⟩) (fun inv => ?_)
              simp only [pU]
              refine tT 8 276 (.slice (some ⟨gr2, 0, none⟩) mm c2) inv rfl rfl (by decide +kernel) (hSt) (Or.inl ⟨by rfl, fun w' hS' => by have q1 := hS'.1; go_simp⟩) (fun inv => ?_)
              simp only [pU]
              refine tT 9 277 (.int .i64 (ii : Nat)) inv rfl rfl (by decide +kernel) (hSt) (Or.inl ⟨by rfl, fun w' hS' => by go_simp⟩) (fun inv => ?_)
              simp only [pU]
              refine tT 10 278 (.int .i64 (nk : Nat)) inv rfl rfl (by decide +kernel) (hSt) (Or.inl ⟨by rfl, fun w' hS' => by go_simp⟩) (fun inv => ?_)
              simp only [pU]
              refine tT 11 279 (.int .i64 (qa : Nat)) inv rfl rfl (by decide +kernel) (hSt) (Or.inl ⟨by rfl, fun w' hS' => by go_simp⟩) (fun inv => ?_)
              simp only [pU]
              refine tT 12 280 (.int .i64 (qb : Nat)) inv rfl rfl (by decide +kernel) (hSt) (Or.inl ⟨by rfl, fun w' hS' => by go_simp⟩) (fun inv => ?_)
              simp only [pU]
              refine tT 13 281 (.int .i64 (jj : Nat)) inv rfl rfl (by decide +kernel) (hSt) (Or.inl ⟨by rfl, fun w' hS' => by go_simp⟩) (fun inv => ?_)
              simp only [pU]
              refine tT 14 282 (.int .i64 (q : Nat)) inv rfl rfl (by decide +kernel) (hSt) (Or.inl ⟨by rfl, fun w' hS' => by go_simp⟩) (fun inv => ?_)
              simp only [pU]
              refine tT 15 283 (.pointer (some ⟨gr2, q, none⟩)) inv rfl rfl (by decide +kernel) (hSt) (Or.inl ⟨by rfl, fun w' hS' => by go_simp⟩) (fun inv => ?_)
              simp only [pU]
              refine tT 16 284 (.int .u8 (aq : Nat)) inv rfl rfl (by decide +kernel) (hSt) (Or.inl ⟨by rfl, fun w' hS' => by have q1 := hS'.2.1; go_simp⟩) (fun inv => ?_)
              simp only [pU]
              refine tT 17 285 (.slice (some ⟨tc, 0, none⟩) 4 4) inv rfl rfl (by decide +kernel) (hSt) (Or.inl ⟨by rfl, fun w' hS' => by go_simp⟩) (fun inv => ?_)
              simp only [pU]
              refine tT 18 286 (.int .i64 (jj : Nat)) inv rfl rfl (by decide +kernel) (hSt) (Or.inl ⟨by rfl, fun w' hS' => by go_simp⟩) (fun inv => ?_)
              simp only [pU]
              refine tT 19 287 (.pointer (some ⟨tc, jj, none⟩)) inv rfl rfl (by decide +kernel) (hSt) (Or.inl ⟨by rfl, fun w' hS' => by go_simp⟩) (fun inv => ?_)
              simp only [pU]
              refine tT 20 288 (.int .u8 (bj : Nat)) inv rfl rfl (by decide +kernel) (hSt) (Or.inl ⟨by rfl, fun w' hS' => by have q1 := hS'.2.2; go_simp⟩) (fun inv => ?_)
              simp only [pU]
              refine tT 21 289 (.int .u8 (x : Nat)) inv rfl rfl (by decide +kernel) (hSt) (Or.inl ⟨by rfl, fun w' hS' => by go_simp⟩) (fun inv => ?_)
              simp only [pU]
              refine Zv (i := 22) inv (by decide +kernel) (by decide) rfl (fun K' hK => ?_)
              rw [if_pos (by rfl)]
              go_simp
              have hB2 : Below wr.heap.size wr (wr.alloc (.cells #[.int .u8 (x : Nat)] 5)).drew := ((Below.refl _ _).alloc (Nat.le_refl _) _).drew
              have hsz2 : (wr.alloc (.cells #[.int .u8 (x : Nat)] 5)).drew.heap.size = wr.heap.size + 1 := by simp
              have hcx : (wr.alloc (.cells #[.int .u8 (x : Nat)] 5)).drew.cell? ⟨wr.heap.size, 0, none⟩ = some (.int .u8 (x : Nat)) := by
                show (wr.alloc (.cells #[.int .u8 (x : Nat)] 5)).cell? ⟨wr.heap.size, 0, none⟩ = _
                rw [World.cell?_alloc_at _ 5 _ _ rfl]; rfl
              refine hK.out _ _ ⟨(hB2.cell (p := ⟨g, 1, none⟩) HJ.out.2.1.t.lt).trans hSt.1, (hB2.cell (p := ⟨gr2, q, none⟩) HJ.out.2.1.gr_lt.2).trans hSt.2.1, (hB2.cell (p := ⟨tc, jj, none⟩) HJ.out.2.2.1.lt).trans hSt.2.2⟩ (fun inv' => ?_)
              clear inv; have inv := inv'; clear inv' hK K'
              try simp only [Act.put, pU]
              generalize (wr.alloc (.cells #[.int .u8 (x : Nat)] 5)).drew = wr3 at hB2 hcx hsz2 ⊢
              have HI3 : Hid (RkW w g gr2 c2 mm f2 wr3) := HJ.out.2.1.below hB2
              refine Zv (i := 23) inv (by decide +kernel) (by decide) rfl (fun K' hK => ?_)
              refine Ci rfl 291 rfl (.tmp 272) (.tmp 290) 22 rfl 5 i0 (.int .u8 0) 1 Tryz.underlying22 HI0.out.1 HI0.out.2.1 HI0.out.2.2.1 HI0.out.2.2.2 rfl (g + 1) mm (.slice (some ⟨gr2, 0, none⟩) mm c2) (fL f2 mm) rfl HI3.out.o wr.heap.size 1 (.int .u8 (x : Nat)) rfl hcx rfl (by have := HQM.out.2; unfold maxLen; omega) (by have := HQM.out.2; omega) (by have := HI3.out.t.lt; omega) ?_
              intro g4 c4 w4 ho4 hg4 hw4 hk4
              have hgr2 := HJ.out.2.1.gr_lt
              have hS4 : w4.cell? ⟨g, 1, none⟩ = some (.slice (some ⟨gr2, 0, none⟩) mm c2) ∧ w4.cell? ⟨gr2, q, none⟩ = some (.int .u8 (aq : Nat)) ∧ w4.cell? ⟨tc, jj, none⟩ = some (.int .u8 (bj : Nat)) :=
                ⟨(World.cell?_of_block (a := ⟨g, 1, none⟩) (hg4.block g HI3.out.t.lt (by simp [Value.ownBlock]; omega))).trans HI3.out.r, hk4 gr2 rfl q _ (by rw [Er f2 mm q HQM.out.1, HAQ.out]),
                 (World.cell?_of_block (a := ⟨tc, jj, none⟩) (hg4.block tc (by have := HJ.out.2.2.1.lt; omega) (by have := HJ.out.2.2.2.1; simp [Value.ownBlock]; omega))).trans ((hB2.cell (p := ⟨tc, jj, none⟩) HJ.out.2.2.1.lt).trans hSt.2.2)⟩
              refine hK.out _ _ hS4 (fun inv' => ?_)
              clear inv; have inv := inv'; clear inv' hK K'
              try simp only [Act.put, pU]
              have HN : Hid (RkW w g g4 c4 (mm + 1) (fUp f2 mm x) (w4.setCell ⟨g, 1, none⟩ (.slice (some ⟨g4, 0, none⟩) (mm + 1) c4)) ∧ Tr (w4.setCell ⟨g, 1, none⟩ (.slice (some ⟨g4, 0, none⟩) (mm + 1) c4)) tc ft ∧ g4 ≠ tc) := by
                refine ⟨HJ.out.2.1.app hB2 lx ho4 hg4, HJ.out.2.2.1.app hB2 hg4 HJ.out.2.2.2.1 HJ.out.2.2.2.2.1, ?_⟩
                rcases hw4 with h | h
                · have : gr2 = g4 := by simpa [Value.ownBlock] using h
                  rw [← this]; exact HJ.out.2.2.2.1
                · have := HJ.out.2.2.1.lt; omega
              have hroom : w4.there g 0 4611 := by
                have hgb := hg4.block g HI3.out.t.lt (by simp [Value.ownBlock]; omega)
                intro j hj
                rw [World.cell?_of_block (a := ⟨g, 0 + j, none⟩) hgb, World.frozen?_of_block (a := ⟨g, 0 + j, none⟩) hgb]
                exact HI3.out.t.room j hj
              have hc1 := hS4.1
              have hf1 := Yj hroom 1 (by omega)
              refine Z9 (i := 24) (by decide +kernel) (by decide) rfl (fun K' hK => ?_)
              rw [if_pos (by rfl)]
              go_simp
              refine hK.out _ _ ?_
              clear hK K'
              try simp only [Act.put, pU]
              refine Z9 (i := 25) (by decide +kernel) (by decide) rfl (fun K' hK => ?_)
              rw [if_pos (by rfl)]
              go_simp
              refine hK.out _ _ ?_
              clear hK K'
              try simp only [Act.put, pU]
              refine Z9 (i := 26) (by decide +kernel) (by decide) rfl (fun K' hK => ?_)
              rw [if_pos (by rfl)]
              go_simp
              refine hK.out _ _ ?_
              clear hK K'
              refine Y8 (by decide +kernel) ?_ _
              refine NoPanic.normal ?_
              clear hc1 hf1 hroom hS4 hgr2 hk4 hw4 hg4 ho4 HI3 hcx hsz2 hB2 hSt
              generalize w4.setCell ⟨g, 1, none⟩ (.slice (some ⟨g4, 0, none⟩) (mm + 1) c4) = w5 at HN ⊢
              go_wp2
              refine ⟨⟨jj + 1, g4, c4, mm + 1, _, by omega, by simp, by have := HJ.out.1; omega, HN.out.1, HN.out.2.1, HN.out.2.2, HJ.out.2.2.2.2⟩, by simp [intOf]; omega⟩
            · obtain rfl : jj = 4 := by omega
              go_wp2
              refine ⟨⟨ii + 1, gr2, c2, pn, f2, by have := HBD.out; omega, by have := HBD.out; omega, by simp, rfl, hpn, ?_⟩, by have := HBD.out; simp [intOf]; omega⟩
              have e : 4 * (ii + 1) = mm := by have h1 := HJ.out.1; have h2 := HMM.out; omega
              rw [e]
              exact HJ.out.2.1
        · have hie : ii = tp := Nat.le_antisymm hi2 (Nat.le_of_not_lt hlt)
          have hlti : ¬ ((ii : Nat) : Int) < ((tp : Nat) : Int) := by rw [hie]; exact Int.lt_irrefl _
          clear hie hlt hi1 hi2
          go_wp2
          go_ret2
          rw [HG.out]
          exact ⟨rfl, HM.out.t.old⟩
end Go.Proofs.YtehlppaidgkpaaaGreatDoor
