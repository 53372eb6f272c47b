import Derived.Test.YtehlppaidgkpaaaGreatDoorPart52
namespace Go.Proofs.YtehlppaidgkpaaaGreatDoor
open Go.RowKit
set_option linter.unusedVariables false
set_option linter.unusedSimpArgs false
theorem Zc2 (j k J:Nat) (hJ:J=16*j) (hj:j<32) (hk:k<16):IntKind.i64.wrap ((J:Int)+(k:Int))=((J+k:Nat):Int)∧wrap64 ((J+k:Nat):Int)=((J+k:Nat):Int)∧(0:Int)≤((J+k:Nat):Int)∧wrap64 (k:Int)=(k:Int)∧(0:Int)≤(k:Int)∧(k:Int)<16∧IntKind.i64.wrap ((k:Int)+1)=((k+1:Nat):Int):=by
 refine ⟨?_,?_,by omega,?_,by omega,by omega,?_⟩
 ·rw[IntKind.wrap_i64];omega
 ·unfold wrap64;omega
 ·unfold wrap64;omega
 ·rw[IntKind.wrap_i64];omega
theorem Za3 (i n:Nat) (h:i<n) (hn:n≤512):(i:Int).tmod 16=((i%16:Nat):Int)∧(i:Int)%16=((i%16:Nat):Int)∧IntKind.i64.wrap ((i%16:Nat):Int)=((i%16:Nat):Int)∧wrap64 ((i%16:Nat):Int)=((i%16:Nat):Int)∧(0:Int)≤((i%16:Nat):Int)∧((i%16:Nat):Int)<16:=by
 refine ⟨?_,by omega,?_,?_,by omega,by omega⟩
 ·rw[Int.tmod_eq_emod_of_nonneg (by omega)];omega
 ·rw[IntKind.wrap_i64];omega
 ·unfold wrap64;omega
theorem Zc4 (v:BitVec 128) (w:World):(binOp BinOp.eql 27 (.agg (Fd.BL v).toArray) (.agg #[.int .u8 0,.int .u8 0,.int .u8 0,.int .u8 0,.int .u8 0,.int .u8 0,.int .u8 0,.int .u8 0,.int .u8 0,.int .u8 0,.int .u8 0,.int .u8 0,.int .u8 0,.int .u8 0,.int .u8 0,.int .u8 0])).run Tryz.prog w=.ok (.bool (decide (v=0#128))) w:=by
 have hq:=Fd.Up v w
 unfold Fd.BV at hq
 obtain ⟨d,HD⟩:∃ d,Hid (d=decide (v=0#128)):=⟨_,rfl⟩
 rw[←HD.out] at hq ⊢
 show (binOp .eql 27 (.agg #[.int .u8 (Fd.byV v 0:Nat),.int .u8 (Fd.byV v 1:Nat),.int .u8 (Fd.byV v 2:Nat),.int .u8 (Fd.byV v 3:Nat),.int .u8 (Fd.byV v 4:Nat),.int .u8 (Fd.byV v 5:Nat),.int .u8 (Fd.byV v 6:Nat),.int .u8 (Fd.byV v 7:Nat),.int .u8 (Fd.byV v 8:Nat),.int .u8 (Fd.byV v 9:Nat),.int .u8 (Fd.byV v 10:Nat),.int .u8 (Fd.byV v 11:Nat),.int .u8 (Fd.byV v 12:Nat),.int .u8 (Fd.byV v 13:Nat),.int .u8 (Fd.byV v 14:Nat),.int .u8 (Fd.byV v 15:Nat)]) _).run Tryz.prog w=_
 go_simp
set_option maxHeartbeats 1600000 in
set_option maxRecDepth 100000 in
theorem Cs (nm : Int) (v : Value) (bs : List Int) (s : Nat) (bv : Value) (ys : List Int) (nn at' : Int) (xx : BitVec 128) (w : World) (G o cp : Nat) (hE : Env w G o cp) (hv : Zf w v bs) (hbb : Zj bs) (hbv : Zf w bv ys) (hyb : Zj ys) (hs : s < 18446744073709551616) :
    Calls Tryz.prog 4 #[.agg #[.int .i64 nm, v], .int .u64 (s : Nat), bv, .int .i64 nn, .int .i64 at', Fd.BV xx] w fun e w' => Hid (e = .returned (.bool true) ∧ Below w.heap.size w w') := by
  obtain ⟨va, vc, he, hvr⟩ := id hv
  clear hvr
  obtain ⟨nl, HNL⟩ : ∃ n, Hid (bs.length = n) := ⟨_, rfl⟩
  rw [HNL.out] at he
  subst he
  obtain ⟨N, HN⟩ : ∃ N : Nat, Hid (IntKind.u64.wrap nm % 3000 = (N : Int)) := ⟨(IntKind.u64.wrap nm % 3000).toNat, by show _ = _; omega⟩
  obtain ⟨q, HQ⟩ : ∃ q : Nat, Hid (N % 7 = q) := ⟨_, rfl⟩
  obtain ⟨t, HT⟩ : ∃ t : Nat, Hid (N / 7 % 3 = t) := ⟨_, rfl⟩
  have hq6 : q < 7 := by rw [← HQ.out]; omega
  have ht3 : t < 3 := by rw [← HT.out]; omega
  obtain ⟨T, HTT⟩ : ∃ T : Nat, Hid (1 + (q + 1) + 17 * t = T) := ⟨_, rfl⟩
  obtain ⟨BX, HBXX⟩ : ∃ BX, Hid (BX = Fd.BL xx) := ⟨_, rfl⟩
  have HBL : Hid (BX.length = 16 ∧ ∀ x ∈ BX, x.oneCell' = true) := by rw [HBXX.out]; exact ⟨Fd.Xm _, Ys _⟩
  have H9 : Hid (∀ u, (∀ i, i < 7 → u.cell? ⟨w.heap.size + 2, i, none⟩ = some (.int .i64 ((1 + (i + 1) : Nat) : Int))) → Calls Tryz.prog 9 #[.agg #[.int .i64 nm, .slice va nl vc], .slice (some ⟨w.heap.size + 2, 0, none⟩) 7 7] u fun e w' => Hid (e = .returned (.agg #[.int .i64 (T : Nat), .slice va nl vc]) ∧ Below u.heap.size u w')) := fun u hu => by
    have p := Zco nm va nl vc (w.heap.size + 2) 7 7 (fun i => 1 + (i + 1)) u N HN.out (by decide) (by decide) hu (fun i hi => by omega)
    rw [HQ.out, HT.out, HTT.out] at p
    exact p
  have H10 : Hid (∀ u, Below w.heap.size w u → Calls Tryz.prog 10 #[.agg #[.int .i64 (T : Nat), .slice va nl vc]] u fun e w' => Ps u (Sa QFl 16) e w') := fun u hu => by
    have p := Zcw q t hq6 ht3 (.slice va nl vc) bs u G o cp (hE.below hu) (hv.below hu) hbb
    rw [HTT.out] at p
    exact p
  obtain ⟨n, m, j, x, hnn, hn16, hm1, hm32, hjm, e0, e1, e2, e3, e4, e5, e6, e7, e8, e9, e10, e11, e12, e13, e14, e15⟩ := Zbt nn at'
  obtain ⟨L, HLL⟩ : ∃ L, Hid (ftL ys n = L) := ⟨_, rfl⟩
  have HLB : Hid (L.length = n ∧ Zj L) := by rw [← HLL.out]; exact ⟨Ih _ _, Ri hyb _⟩
  have H11 : Hid (∀ u, Below w.heap.size w u → Calls Tryz.prog 11 #[bv, .int .i64 nn, .bool true] u fun e w' => Hid (∃ b d, e = .returned (.slice (some ⟨b, 0, none⟩) n d) ∧ u.heap.size ≤ b ∧ Zf w' (.slice (some ⟨b, 0, none⟩) n d) L ∧ Below u.heap.size u w')) := fun u hu => by
    refine (Za5 bv ys nn true u (hbv.below hu)).mono fun e w' hh => ?_
    obtain ⟨y, d, rfl, ho, hbl⟩ := hh.out
    rw [hnn] at ho ⊢
    rw [HLL.out] at ho
    have hvw := X9 ho HLB.out.1
    rcases ho.2 with ⟨_, z⟩ | ⟨b, c2, cur, z, z1, _, z3, z4, _⟩
    · omega
    · injection z with z5 z6 z7
      subst z5 z7
      exact ⟨b, _, rfl, z1, hvw, hbl⟩
  have H14 : Hid (∀ u, Calls Tryz.prog 14 #[.int .i64 0] u fun e w' => e = .returned (.int .i64 0) ∧ w' = u) := fun u => Tm 0 u
  obtain ⟨J, HJ⟩ : ∃ J, Hid (16 * j = J) := ⟨_, rfl⟩
  obtain ⟨J2, HJ2⟩ : ∃ J2, Hid (J + 16 = J2) := ⟨_, rfl⟩
  rw [HJ.out] at e13 e14 e15
  rw [HJ2.out] at e15
  have HNU : Hid (n = 16 * m ∧ 1 ≤ m ∧ m ≤ 32 ∧ j < m ∧ J = 16 * j ∧ J2 = J + 16 ∧ s < 18446744073709551616) := ⟨hn16, hm1, hm32, hjm, HJ.out.symm, HJ2.out.symm, hs⟩
  clear hv hbb hbv hyb hE hq6 ht3 hnn hn16 hm1 hm32 hjm hs HJ HJ2
  obtain ⟨wa, hwa⟩ : ∃ wa, wa = ((w.alloc (.cells #[.int .i64 nm, .slice va nl vc] 24)).alloc (.cells BX.toArray 27)).alloc (.cells #[.int .i64 2, .int .i64 3, .int .i64 4, .int .i64 5, .int .i64 6, .int .i64 7, .int .i64 8] 3) := ⟨_, rfl⟩
  have hB3 : Bx wa (w.heap.size + 2) 3 [.int .i64 2, .int .i64 3, .int .i64 4, .int .i64 5, .int .i64 6, .int .i64 7, .int .i64 8] := by
    have q := Bx.new ((w.alloc (.cells #[.int .i64 nm, .slice va nl vc] 24)).alloc (.cells BX.toArray 27)) 3 [.int .i64 2, .int .i64 3, .int .i64 4, .int .i64 5, .int .i64 6, .int .i64 7, .int .i64 8]
    rw [show ((w.alloc (.cells #[.int .i64 nm, .slice va nl vc] 24)).alloc (.cells BX.toArray 27)).heap.size = w.heap.size + 2 by simp] at q
    rw [hwa]
    exact q
  have c16 : ∀ i, i < 7 → wa.cell? ⟨w.heap.size + 2, i, none⟩ = some (.int .i64 ((1 + (i + 1) : Nat) : Int)) := by
    intro i hi
    match i, hi with
    | 0, _ => exact hB3.cell 0 (.int .i64 2) rfl
    | 1, _ => exact hB3.cell 1 (.int .i64 3) rfl
    | 2, _ => exact hB3.cell 2 (.int .i64 4) rfl
    | 3, _ => exact hB3.cell 3 (.int .i64 5) rfl
    | 4, _ => exact hB3.cell 4 (.int .i64 6) rfl
    | 5, _ => exact hB3.cell 5 (.int .i64 7) rfl
    | 6, _ => exact hB3.cell 6 (.int .i64 8) rfl
  clear hB3
  have HBX : Hid (Bx wa w.heap.size 24 [.int .i64 nm, .slice va nl vc] ∧ Bx wa (w.heap.size + 1) 27 BX ∧ Below w.heap.size w wa ∧ (∀ i, i < 7 → wa.cell? ⟨w.heap.size + 2, i, none⟩ = some (.int .i64 ((1 + (i + 1) : Nat) : Int)))) := by
    refine ⟨?_, ?_, ?_, c16⟩
    · rw [hwa]; exact ((Bx.new w 24 [.int .i64 nm, .slice va nl vc]).below ((Below.refl _ _).alloc (Nat.le_refl _) _)).below ((Below.refl _ _).alloc (Nat.le_refl _) _)
    · rw [hwa]
      have q := Bx.new (w.alloc (.cells #[.int .i64 nm, .slice va nl vc] 24)) 27 BX
      rw [show (w.alloc (.cells #[.int .i64 nm, .slice va nl vc] 24)).heap.size = w.heap.size + 1 by simp] at q
      exact q.below ((Below.refl _ _).alloc (Nat.le_refl _) _)
    · rw [hwa]; exact (((Below.refl _ _).alloc (Nat.le_refl _) _).alloc (by simp) _).alloc (by simp; omega) _
  clear c16
  show Calls Tryz.prog 4 #[_, _, _, _, _, .agg (Fd.BL xx).toArray] w _
  rw [← HBXX.out]
  go_enter Tryz.func4, Tryz.ntmps4
  go_upto_region 1 with fail
  obtain ⟨M, HM⟩ : ∃ M, Hid (w.heap.size = M) := ⟨_, rfl⟩
  go_upto_region 2 with (first
    | (go_at_call 9; refine (H9.out _ (by rw [← hwa]; exact HBX.out.2.2.2)).mono ?_; rw [← hwa]; intro e2 w2 hh; obtain ⟨rfl, hb2⟩ := hh.out; have HB2 : Hid (Bx w2 w.heap.size 24 [.int .i64 nm, .slice va nl vc] ∧ Bx w2 (w.heap.size + 1) 27 BX ∧ Below w.heap.size w w2) := ⟨HBX.out.1.below hb2, HBX.out.2.1.below hb2, HBX.out.2.2.1.trans (hb2.mono HBX.out.2.2.1.size)⟩; clear hh hb2 H9 HBX)
    | (refine Zg (by rfl) 24 (.tmp 6) (.tmp 27) (by rfl) [.int .i64 nm, .slice va nl vc] [.int .i64 (T : Nat), .slice va nl vc] w.heap.size (by rfl) (by rfl) HB2.out.1 rfl (by kernel_rfl) (by intro v hv; simp at hv; rcases hv with rfl | rfl <;> rfl) ?_; intro w3 hb3 hg3; have HB3 : Hid (Bx w3 w.heap.size 24 [.int .i64 (T : Nat), .slice va nl vc] ∧ Bx w3 (w.heap.size + 1) 27 BX ∧ Below w.heap.size w w3) := ⟨hb3, HB2.out.2.1.keep (hg3.block _ HB2.out.2.1.lt (fun e => by injection e with e; omega)), HB2.out.2.2.trans (Yd hg3 HB2.out.2.2.size (Nat.le_refl _))⟩; clear hb3 hg3))
  have d0 : w3.cell? ⟨w.heap.size, 0, none⟩ = some (.int .i64 (T : Nat)) := HB3.out.1.cell 0 _ rfl
  have d1 : w3.cell? ⟨w.heap.size, 1, none⟩ = some (.slice va nl vc) := HB3.out.1.cell 1 _ rfl
  go_upto_region 5 with (first
    | (go_at_call 10; refine (H10.out _ HB3.out.2.2).mono ?_; intro e4 w4 hh; obtain ⟨A, c, rr, rfl, hA4, hcip, hbel⟩ := hh; obtain ⟨B, Lk, w0, F, hKl, hSti, hSeal, D, fb, hDi, hF⟩ := hcip; have HC4 : Hid (KlP A B Lk w0 ∧ Pq 15 (Qr Lk) (Sti A B Lk w0) 16 c F ∧ (∀ s zs, F s zs = bkZ (fun j => cbO D (cutV zs) (fb s zs.length) j) zs.length (zs.length / 16)) ∧ (∀ a b, D a = D b → a = b) ∧ w.heap.size ≤ A ∧ w.heap.size + 1 < A) := ⟨hKl, hSeal, hF, hDi, Nat.le_trans HB3.out.2.2.size hA4, Nat.lt_of_lt_of_le HB3.out.2.1.lt hA4⟩; have HI4 : Hid (Sti A B Lk w0 w4 ∧ Below w.heap.size w w4 ∧ Bx w4 (w.heap.size + 1) 27 BX) := ⟨hSti, HB3.out.2.2.trans (hbel.mono HB3.out.2.2.size), HB3.out.2.1.below hbel⟩; clear hA4 hbel hKl hSti hSeal hF hDi H10 d0 d1 HB3))
  go_upto_region 6 with (first
    | (go_at_call 11; refine (H11.out _ HI4.out.2.1).mono ?_; intro e5 w5 hh; obtain ⟨b, d, rfl, p1, p4, p5⟩ := hh.out; have HV5 : Hid (Zf w5 (.slice (some ⟨b, 0, none⟩) n d) L ∧ ¬ Qr Lk b ∧ b < w5.heap.size) := ⟨p4, HC4.out.1.cst.new (Nat.le_trans HI4.out.1.size p1), (by clear e0 e1 e2 e3 e4 e5 e6 e7 e8 e9 e10 e11 e12 e13 e14 e15; obtain ⟨z1, _, z3⟩ := Qv p4; exact World.block_lt_of_cell? w5 _ (z3 0 (by have := HNU.out; omega)))⟩; have HI5 : Hid (Sti A B Lk w0 w5 ∧ Below w.heap.size w w5 ∧ Bx w5 (w.heap.size + 1) 27 BX) := ⟨HC4.out.1.cst.below HI4.out.1 p5, HI4.out.2.1.trans (p5.mono HI4.out.2.1.size), HI4.out.2.2.below p5⟩; clear hh p1 p4 p5 H11))
  go_upto_region 7 with fail
  have H12 : Hid (Calls Tryz.prog 12 #[.slice (some ⟨b, 0, none⟩) n d] w5 fun e w' => Hid (∃ z dz cur, e = .returned (.slice (some ⟨z, 0, none⟩) n dz) ∧ w5.heap.size ≤ z ∧ Bx w' z 5 cur ∧ n ≤ dz ∧ dz ≤ maxLen ∧ n ≤ cur.length ∧ (∀ i, i < n → cur[i]? = some (.int .u8 (L.getD i 0))) ∧ Below w5.heap.size w5 w')) := by
    clear e0 e1 e2 e3 e4 e5 e6 e7 e8 e9 e10 e11 e12 e13 e14 e15
    refine (C5 _ L w5 (by rw [HLB.out.1]; have := HNU.out; omega) HV5.out.1).mono fun e w' hh => ?_
    obtain ⟨v', rfl, hm, hb⟩ := hh
    obtain ⟨g, c, cur, rfl, h1, h2, h3, h4, h5, h6⟩ := Nl hm
    rw [HLB.out.1] at h3 h5 h6 ⊢
    exact ⟨g, c, cur, rfl, h1, h2, h3, h4, h5, h6, hb⟩
  go_upto_region 8 with (go_at_call 12; refine H12.out.mono ?_; intro e6 w6 hh; obtain ⟨z, dz, cur, rfl, p1, p2, p3, p4, p5, p6, p7⟩ := hh.out; have HZ6 : Hid (w5.heap.size ≤ z ∧ Bx w6 z 5 cur ∧ n ≤ dz ∧ dz ≤ maxLen ∧ n ≤ cur.length ∧ (∀ i, i < n → cur[i]? = some (.int .u8 (L.getD i 0))) ∧ Below w5.heap.size w5 w6) := ⟨p1, p2, p3, p4, p5, p6, p7⟩; clear hh p1 p2 p3 p4 p5 p6 p7 H12)
  have HX6 : Hid (Bx w6 (w.heap.size + 1) 27 BX ∧ Sti A B Lk w0 w6 ∧ Below w.heap.size w w6) := by
    have hb := HZ6.out.2.2.2.2.2.2
    exact ⟨HI5.out.2.2.below hb, HC4.out.1.cst.below HI5.out.1 hb, HI5.out.2.1.trans (hb.mono HI5.out.2.1.size)⟩
  have HXC : Hid (∀ i, i < 16 → w6.cell? ⟨w.heap.size + 1, i, none⟩ = some (.int .u8 ((Fd.byV xx i : Nat) : Int))) := fun i hi => HX6.out.1.cell i _ (by rw [HBXX.out]; exact Fd.Jz xx i hi)
  obtain ⟨XB, HXB⟩ : ∃ XB, Hid (w.heap.size + 1 = XB) := ⟨_, rfl⟩
  have HNX : Hid (z ≠ XB ∧ XB < w6.heap.size ∧ z < w6.heap.size ∧ ¬ Qr Lk XB ∧ ¬ Qr Lk z ∧ B ≤ z ∧ b ≠ z ∧ w.heap.size ≤ z) := by
    clear e0 e1 e2 e3 e4 e5 e6 e7 e8 e9 e10 e11 e12 e13 e14 e15
    have h1 := HX6.out.1.lt
    have h2 := HI5.out.2.2.lt
    have h3 := HZ6.out.1
    have h4 := HI5.out.2.1.size
    have h5 := HXB.out
    have h6 := HV5.out.2.2
    have hBz : B ≤ z := Nat.le_trans HI5.out.1.size h3
    refine ⟨by omega, by omega, HZ6.out.2.1.lt, fun e => ?_, HC4.out.1.cst.new hBz, hBz, by omega, by omega⟩
    obtain ⟨x, hx, e⟩ := e
    have := (HC4.out.1.low x hx).1
    have := HC4.out.2.2.2.2.2
    omega
  rw [HXB.out] at HX6 HXC ⊢
  have HFZ : Hid (∃ cu, Bx w6 z 5 cu ∧ n ≤ cu.length ∧ ∀ p, p < n → cu[p]? = some (.int .u8 (flZ L j xx 0 p))) := ⟨cur, HZ6.out.2.1, HZ6.out.2.2.2.2.1, fun p hp => by rw [Ug]; exact HZ6.out.2.2.2.2.2.1 p hp⟩
  have HG6 : Hid (w6.grownBy w6 (some z)) := World.grownBy.refl _ _
  have HDZ : Hid (n ≤ dz ∧ dz ≤ maxLen) := ⟨HZ6.out.2.2.1, HZ6.out.2.2.2.1⟩
  have HJB : Hid (J = 16 * j ∧ j < 32 ∧ J + 16 ≤ n ∧ n ≤ 512) := by clear e0 e1 e2 e3 e4 e5 e6 e7 e8 e9 e10 e11 e12 e13 e14 e15; have := HNU.out; show _ ∧ _; omega
  clear e0 e1 e2 e3 e4 e5 e6 e7 e8 e9 e10 e11 e14 e15
  go_wp2
  go_loopw [18] (fun vi wr => ∃ k : Nat, vi = .int .i64 (k : Nat) ∧ k ≤ 16 ∧ Hid ((∃ cu, Bx wr z 5 cu ∧ n ≤ cu.length ∧ ∀ p, p < n → cu[p]? = some (.int .u8 (flZ L j xx k p))) ∧ w6.grownBy wr (some z))) (fun vi _ => 16 - (intOf vi).toNat)
  case atStart => exact ⟨0, rfl, by omega, HFZ.out, HG6.out⟩
  case round =>
    obtain ⟨k, rfl, hk, HR⟩ := hrel
    by_cases hlt : k < 16
    · have HK : Hid (k < 16) := hlt
      obtain ⟨f1, f2, f3, f4, f5, f6, f7⟩ := Zc2 j k J HJB.out.1 HJB.out.2.1 hlt
      obtain ⟨P, HP⟩ : ∃ P, Hid (J + k = P) := ⟨_, rfl⟩
      rw [HP.out] at f1 f2 f3
      obtain ⟨cu, hcu, hcl, hcc⟩ := HR.out.1
      have HPN : Hid (P < n ∧ P = 16 * j + k) := by have := HJB.out; have := HP.out; show _ ∧ _; omega
      have f8 : (P : Int) < (n : Int) := Int.ofNat_lt.2 HPN.out.1
      obtain ⟨a, HAA⟩ : ∃ a, Hid (L.getD P 0 = a) := ⟨_, rfl⟩
      obtain ⟨xb, HXK⟩ : ∃ xb : Int, Hid (((Fd.byV xx k : Nat) : Int) = xb) := ⟨_, rfl⟩
      have cz : wr.cell? ⟨z, P, none⟩ = some (.int .u8 a) := by
        have q := hcu.cell P _ (hcc P HPN.out.1)
        rw [show flZ L j xx k P = a by rw [← HAA.out]; unfold flZ; rw [if_neg (by have := HPN.out; omega)]] at q
        exact q
      have cx : wr.cell? ⟨XB, k, none⟩ = some (.int .u8 xb) := by
        rw [World.cell?_of_block (a := ⟨XB, k, none⟩) (HR.out.2.block XB HNX.out.2.1 (fun e => HNX.out.1 (by injection e with e; exact e.symm))), ← HXK.out]
        exact HXC.out k hlt
      have fz : wr.frozen? ⟨z, P, none⟩ = false := hcu.frozen P
      have HST : Hid ((∃ cu, Bx (wr.setCell ⟨z, P, none⟩ (.int .u8 (bits .xor .u8 a xb))).drew z 5 cu ∧ n ≤ cu.length ∧ ∀ p, p < n → cu[p]? = some (.int .u8 (flZ L j xx (k + 1) p))) ∧ w6.grownBy (wr.setCell ⟨z, P, none⟩ (.int .u8 (bits .xor .u8 a xb))).drew (some z)) := by
        rw [show bits .xor .u8 a xb = ((Fd.byV (cutV L j ^^^ xx) k : Nat) : Int) by rw [← HAA.out, ← HXK.out, HPN.out.2]; exact Ui HLB.out.2 j xx k hlt]
        have hs := Yc z [.int .u8 ((Fd.byV (cutV L j ^^^ xx) k : Nat) : Int)] P wr
        refine ⟨⟨cu.set P (.int .u8 ((Fd.byV (cutV L j ^^^ xx) k : Nat) : Int)), hcu.set P _, by rw [List.length_set]; exact hcl, fun p hp => ?_⟩, ?_⟩
        · have q := Ik L j xx k n cu hcl (by have := HPN.out; omega) hcc p hp
          rw [← HPN.out.2] at q
          exact q
        · have g0 := HR.out.2
          exact ⟨hs.os.trans g0.os, hs.tape.trans g0.tape, hs.output.trans g0.output, Nat.le_trans g0.size hs.size, fun c hc hn => (hs.block c (Nat.lt_of_lt_of_le hc g0.size) hn).trans (g0.block c hc hn)⟩
      clear hcu hcc hlt hk
      go_upto_region 11 with fail
      go_region
      all_goals go_wp2
      all_goals exact ⟨⟨k + 1, by first | rfl | simp, by omega, HST.out⟩, by simp [intOf]; omega⟩
    · have h16 : k = 16 := by omega
      subst h16
      have g16 : ¬ ((16 : Nat) : Int) < 16 := by decide
      obtain ⟨Z, HZ⟩ : ∃ Z, Hid (Ju L m j (cutV L j ^^^ xx) = Z) := ⟨_, rfl⟩
      have HNM : Hid (n = 16 * m ∧ j < m ∧ m ≤ 32 ∧ 1 ≤ m ∧ s < 18446744073709551616) := by have := HNU.out; exact ⟨this.1, this.2.2.2.1, this.2.2.1, this.2.1, this.2.2.2.2.2.2⟩
      have HZB : Hid (Z.length = n ∧ Zj Z) := by rw [← HZ.out, Bb]; exact ⟨HNM.out.1.symm, Md HLB.out.2 m j _⟩
      have HV7 : Hid (Zf wr (.slice (some ⟨b, 0, none⟩) n d) L ∧ Zf wr (.slice (some ⟨z, 0, none⟩) n dz) Z ∧ Sti A B Lk w0 wr ∧ Below w.heap.size w wr ∧ Bx wr XB 27 BX) := by
        obtain ⟨⟨cu, hcu, hcl, hcc⟩, hg⟩ := HR.out
        obtain ⟨x1, x2, x3, x4, x5, x6, x7, x8⟩ := HNX.out
        refine ⟨?_, ?_, HC4.out.1.cst.gb HX6.out.2.1 hg x6, HX6.out.2.2.trans (Yd hg HX6.out.2.2.size x8), HX6.out.1.keep (hg.block XB x2 (fun e => x1 (by injection e with e; exact e.symm)))⟩
        · obtain ⟨y1, y2, y3⟩ := Qv HV5.out.1
          have y4 := W7 (w := wr) (b := b) (off := 0) (c := d) (zs := L) (by omega) (by obtain ⟨_, _, ze, _, zm, _⟩ := HV5.out.1; injection ze with _ _ ze; omega) (fun i hi => by
            have c6 : w6.cell? ⟨b, 0 + i, none⟩ = some (.int .u8 (L.getD i 0)) := (HZ6.out.2.2.2.2.2.2.cell HV5.out.2.2).trans (y3 i hi)
            rw [World.cell?_of_block (a := ⟨b, 0 + i, none⟩) (hg.block b (World.block_lt_of_cell? w6 _ c6) (fun e => x7 (by injection e)))]
            exact c6)
          rw [y1] at y4
          exact y4
        · have y4 := W7 (w := wr) (b := z) (off := 0) (c := dz) (zs := Z) (by rw [HZB.out.1]; exact HDZ.out.1) HDZ.out.2 (fun i hi => by
            rw [HZB.out.1] at hi
            rw [Nat.zero_add, ← HZ.out, ← Il L m j xx i (by have := HNM.out.1; omega)]
            exact hcu.cell i _ (hcc i hi))
          rw [HZB.out.1] at y4
          exact y4
      obtain ⟨w7, hw7⟩ : ∃ w7, w7 = wr := ⟨_, rfl⟩
      rw [← hw7] at HV7 ⊢
      have HS1 : Hid (∀ (bb dd : Nat) (X : List Int) (u : World), X.length = n → Zj X → ¬ Qr Lk bb → Sti A B Lk w0 u → Zf u (.slice (some ⟨bb, 0, none⟩) n dd) X → Calls Tryz.prog 15 #[.pointer (some ⟨c, 0, none⟩), .int .u64 (s : Nat), .slice (some ⟨bb, 0, none⟩) n dd] u fun e u' => Hid (∃ x d2, e = .returned (.tuple #[.slice (some ⟨x, 0, none⟩) n d2, .int .i64 0]) ∧ u.heap.size ≤ x ∧ Zf u' (.slice (some ⟨x, 0, none⟩) n d2) (bkZ (fun i => cbO D (cutV X) (fb s n) i) n m) ∧ Sti A B Lk w0 u' ∧ Gk (Qr Lk) u u')) := by
        intro bb dd X u hX hXb hk hI hv
        have hz := HNM.out
        have p := HC4.out.2.1 s bb 0 dd X u hI hz.2.2.2.2 (by omega) (by omega) (by omega) hXb hk (by rw [hX]; exact hv)
        rw [HC4.out.2.2.1 s X, hX, show n / 16 = m by omega] at p
        exact p
      obtain ⟨U, HU⟩ : ∃ U, Hid (bkZ (fun i => cbO D (cutV L) (fb s n) i) n m = U) := ⟨_, rfl⟩
      obtain ⟨V, HV⟩ : ∃ V, Hid (bkZ (fun i => cbO D (cutV Z) (fb s n) i) n m = V) := ⟨_, rfl⟩
      have HSA : Hid (Calls Tryz.prog 15 #[.pointer (some ⟨c, 0, none⟩), .int .u64 (s : Nat), .slice (some ⟨b, 0, none⟩) n d] w7 fun e u' => Hid (∃ x d2, e = .returned (.tuple #[.slice (some ⟨x, 0, none⟩) n d2, .int .i64 0]) ∧ w7.heap.size ≤ x ∧ Zf u' (.slice (some ⟨x, 0, none⟩) n d2) U ∧ Sti A B Lk w0 u' ∧ Gk (Qr Lk) w7 u')) := by
        rw [← HU.out]; exact HS1.out b d L w7 HLB.out.1 HLB.out.2 HV5.out.2.1 HV7.out.2.2.1 HV7.out.1
      clear hw7 HR
      go_upto_region 13 with (go_at_call 15; refine HSA.out.mono ?_; intro e8 w8 hh; obtain ⟨x1, d1, rfl, p1, p2, p3, p4⟩ := hh.out; have HP8 : Hid (w7.heap.size ≤ x1 ∧ Zf w8 (.slice (some ⟨x1, 0, none⟩) n d1) U ∧ Sti A B Lk w0 w8 ∧ Gk (Qr Lk) w7 w8) := ⟨p1, p2, p3, p4⟩; clear hh p1 p2 p3 p4 HSA)
      have HSB : Hid (Calls Tryz.prog 15 #[.pointer (some ⟨c, 0, none⟩), .int .u64 (s : Nat), .slice (some ⟨z, 0, none⟩) n dz] w8 fun e u' => Hid (∃ x d2, e = .returned (.tuple #[.slice (some ⟨x, 0, none⟩) n d2, .int .i64 0]) ∧ w8.heap.size ≤ x ∧ Zf u' (.slice (some ⟨x, 0, none⟩) n d2) V ∧ Sti A B Lk w0 u' ∧ Gk (Qr Lk) w8 u')) := by
        rw [← HV.out]; exact HS1.out z dz Z w8 HZB.out.1 HZB.out.2 HNX.out.2.2.2.2.1 HP8.out.2.2.1 (Mk HV7.out.2.1 HNX.out.2.2.2.2.1 HP8.out.2.2.2)
      go_upto_region 14 with (go_at_call 15; refine HSB.out.mono ?_; intro e9 w9 hh; obtain ⟨x2, d2, rfl, p1, p2, p3, p4⟩ := hh.out; have HP9 : Hid (w8.heap.size ≤ x2 ∧ Zf w9 (.slice (some ⟨x2, 0, none⟩) n d2) V ∧ Sti A B Lk w0 w9 ∧ Gk (Qr Lk) w8 w9) := ⟨p1, p2, p3, p4⟩; clear hh p1 p2 p3 p4 HSB)
      have HBI : Hid (Zf w9 (.slice (some ⟨x1, 0, none⟩) n d1) U ∧ Zf w9 (.slice (some ⟨x2, 0, none⟩) n d2) V ∧ Below w.heap.size w w9 ∧ Bx w9 XB 27 BX) := by
        have hk1 : ¬ Qr Lk x1 := HC4.out.1.cst.new (Nat.le_trans HV7.out.2.2.1.size HP8.out.1)
        have hlow : ∀ {u v : World}, Gk (Qr Lk) u v → w.heap.size ≤ u.heap.size → Below w.heap.size u v := fun {u v} hg hu => ⟨hg.os, hg.tape, hg.output, hg.size, fun k hk => hg.block k (Nat.lt_of_lt_of_le hk hu) (fun e => by obtain ⟨x, hx, rfl⟩ := e; have := (HC4.out.1.low x hx).1; have := HC4.out.2.2.2.2.1; omega)⟩
        have hb7 := HV7.out.2.2.2.1
        have hnk := HNX.out.2.2.2.1
        exact ⟨Mk HP8.out.2.1 hk1 HP9.out.2.2.2, HP9.out.2.1, hb7.trans ((hlow HP8.out.2.2.2 hb7.size).trans (hlow HP9.out.2.2.2 (Nat.le_trans hb7.size HP8.out.2.2.2.size))), (HV7.out.2.2.2.2.gk HP8.out.2.2.2 hnk).gk HP9.out.2.2.2 hnk⟩
      have HQ : Hid ((∀ p, p < n → p / 16 ≠ j → p / 16 ≠ j + 1 → U.getD p 0 = V.getD p 0) ∧ (∀ p, p < n → p / 16 = j + 1 → bits .xor .u8 (U.getD p 0) (V.getD p 0) = ((Fd.byV xx (p % 16) : Nat) : Int)) ∧ ((∀ p, p < n → p / 16 = j → U.getD p 0 = V.getD p 0) ↔ xx = 0#128)) := by
        have hz := HNM.out
        rw [← HU.out, ← HV.out, ← HZ.out, hz.1]
        exact ⟨fun p hp h1 h2 => Ue D _ m j _ p hp h1 h2, fun p hp hn => Ij D _ m j xx p hp hn, Ii D HC4.out.2.2.2.1 _ m j xx hz.2.1⟩
      go_upto_region 16 with (go_at_call 14; refine (H14.out _).mono ?_; rintro e10 w10 ⟨rfl, hw⟩; obtain rfl := hw.symm; clear hw)
      have HN5 : Hid (n ≤ 512) := HJB.out.2.2.2
      have e40 : IntKind.i64.wrap ((j : Int) + 1) = ((j + 1 : Nat) : Int) := by rw [IntKind.wrap_i64]; have := HJB.out.2.1; omega
      have HXC9 : Hid (∀ i, i < 16 → w9.cell? ⟨XB, i, none⟩ = some (.int .u8 ((Fd.byV xx i : Nat) : Int))) := fun i hi => HBI.out.2.2.2.cell i _ (by rw [HBXX.out]; exact Fd.Jz xx i hi)
      obtain ⟨dd, HDD⟩ : ∃ dd, Hid (decide (xx = 0#128) = dd) := ⟨_, rfl⟩
      have hbin : ∀ u, (binOp .eql 27 (.agg BX.toArray) (.agg #[.int .u8 0, .int .u8 0, .int .u8 0, .int .u8 0, .int .u8 0, .int .u8 0, .int .u8 0, .int .u8 0, .int .u8 0, .int .u8 0, .int .u8 0, .int .u8 0, .int .u8 0, .int .u8 0, .int .u8 0, .int .u8 0])).run Tryz.prog u = .ok (.bool dd) u := fun u => by rw [HBXX.out, ← HDD.out]; exact Zc4 xx u
      have hiB : (Tryz.prog.info? 27).map (·.size) = some BX.length := by rw [HBL.out.1]; kernel_rfl
      clear HV5 HI5 HZ6 HV7 HS1 HP8 HP9 HI4 HC4 H14 e13 g16 HFZ HG6 HX6 HXC
      go_wp2
      go_loopw [23, 24] (fun vs vi wr => ∃ (bb : Bool) (i q : Nat), vs = .bool bb ∧ vi = .int .i64 (i : Nat) ∧ i ≤ n ∧ Hid (bb = true ↔ ∀ p, p < i → p / 16 = j → U.getD p 0 = V.getD p 0) ∧ wr = w9.drewN q) (fun _ vi _ => n - (intOf vi).toNat)
      case atStart => exact ⟨true, 0, 0, rfl, rfl, Nat.zero_le _, ⟨fun _ p hp => absurd hp (Nat.not_lt_zero _), fun _ => rfl⟩, rfl⟩
      case round => as_aux_lemma =>
        obtain ⟨bb, i, q, rfl, rfl, hi, HB, rfl⟩ := hrel
        by_cases hlt : i < n
        · obtain ⟨i1, i2, i3, i4, i5, i6, i7, i8, i9⟩ := Zaw i n hlt HN5.out
          obtain ⟨qi, HQI⟩ : ∃ qi, Hid (i / 16 = qi) := ⟨_, rfl⟩
          rw [HQI.out] at i1 i2 i3 i9
          obtain ⟨l, HLi⟩ : ∃ l, Hid (U.getD i 0 = l) := ⟨_, rfl⟩
          obtain ⟨y, HYi⟩ : ∃ y, Hid (V.getD i 0 = y) := ⟨_, rfl⟩
          have cU : w9.cell? ⟨x1, i, none⟩ = some (.int .u8 l) := by rw [← HLi.out]; exact Gt HBI.out.1 i hlt
          have cV : w9.cell? ⟨x2, i, none⟩ = some (.int .u8 y) := by rw [← HYi.out]; exact Gt HBI.out.2.1 i hlt
          have HLT : Hid (i < n) := hlt
          by_cases hj : qi = j
          · have j0 : ((qi : Int) == (j : Int)) = true := by rw [hj]; simp
            have HJJ : Hid (i / 16 = j) := by rw [HQI.out]; exact hj
            clear hj hlt hi e40
            cases bb with
            | false =>
              go_upto_region 24 with fail
              go_quiet (fail)
              go_wp2
              refine ⟨⟨false, i + 1, _, rfl, by simp, HLT.out, ⟨(fun h => by cases h), (fun h => HB.out.2 fun p hp hpj => h p (Nat.lt_succ_of_lt hp) hpj)⟩, rfl⟩, ?_⟩
              have := HLT.out
              simp [intOf]; omega
            | true =>
              have HA0 : Hid (∀ p, p < i → p / 16 = j → U.getD p 0 = V.getD p 0) := HB.out.1 rfl
              by_cases hly : l = y
              · have k0 : (l == y) = true := by rw [hly]; simp
                have HLY : Hid (l = y) := hly
                clear hly
                go_upto_region 24 with fail
                go_quiet (fail)
                go_wp2
                refine ⟨⟨true, i + 1, _, rfl, by simp, HLT.out, ⟨(fun _ p hp hpj => by
                  rcases Nat.lt_succ_iff_lt_or_eq.1 hp with h | rfl
                  · exact HA0.out p h hpj
                  · rw [HLi.out, HYi.out]; exact HLY.out), (fun _ => rfl)⟩, rfl⟩, ?_⟩
                have := HLT.out
                simp [intOf]; omega
              · have k0 : (l == y) = false := by simp [hly]
                have HLY : Hid (¬ l = y) := hly
                clear hly
                go_upto_region 24 with fail
                go_quiet (fail)
                go_wp2
                refine ⟨⟨false, i + 1, _, rfl, by simp, HLT.out, ⟨(fun h => by cases h), (fun h => absurd (by
                  have q := h i (Nat.lt_succ_self _) HJJ.out
                  rw [HLi.out, HYi.out] at q
                  exact q) HLY.out)⟩, rfl⟩, ?_⟩
                have := HLT.out
                simp [intOf]; omega
          · have j0 : ((qi : Int) == (j : Int)) = false := by simp; omega
            have HJJ : Hid (¬ i / 16 = j) := by rw [HQI.out]; exact hj
            have HBN : Hid (∀ b', b' = bb → (b' = true ↔ ∀ p, p < i + 1 → p / 16 = j → U.getD p 0 = V.getD p 0)) := by
              intro b' hb'
              subst hb'
              exact ⟨(fun h p hp hpj => by
                rcases Nat.lt_succ_iff_lt_or_eq.1 hp with h2 | rfl
                · exact HB.out.1 h p h2 hpj
                · exact absurd hpj HJJ.out), (fun h => HB.out.2 fun p hp hpj => h p (Nat.lt_succ_of_lt hp) hpj)⟩
            by_cases hj1 : qi = j + 1
            · have j1 : ((qi : Int) == ((j + 1 : Nat) : Int)) = true := by rw [hj1]; simp
              obtain ⟨r, HRR⟩ : ∃ r, Hid (i % 16 = r) := ⟨_, rfl⟩
              have hr16 : r < 16 := by rw [← HRR.out]; omega
              obtain ⟨t1, t2, t3, t4, t5, t6⟩ := Za3 i n hlt HN5.out
              rw [HRR.out] at t1 t2 t3 t4 t5 t6
              obtain ⟨xv, HXV⟩ : ∃ xv : Int, Hid (((Fd.byV xx r : Nat) : Int) = xv) := ⟨_, rfl⟩
              have cX : w9.cell? ⟨XB, r, none⟩ = some (.int .u8 xv) := by rw [← HXV.out]; exact HXC9.out r hr16
              have hx : bits .xor .u8 l y = xv := by
                have q := HQ.out.2.1 i hlt (by rw [HQI.out]; exact hj1)
                rw [HLi.out, HYi.out, HRR.out, HXV.out] at q
                exact q
              have hx2 : (xv == xv) = true := by simp
              have hx3 : (xv != xv) = false := by simp
              clear hj hj1 hlt hi hr16
              go_upto_region 26 with fail
              go_quiet (fail)
              go_wp2
              clear hx hx2 hx3 t1 t2 t3 t4 t5 t6 i1 i2 i3 i9 j0 j1
              refine ⟨⟨bb, i + 1, _, rfl, by simp, HLT.out, HBN.out _ rfl, rfl⟩, ?_⟩
              have := HLT.out
              simp [intOf]; omega
            · have j1 : ((qi : Int) == ((j + 1 : Nat) : Int)) = false := by simp; omega
              have hly : l = y := by rw [← HLi.out, ← HYi.out]; exact HQ.out.1 i hlt HJJ.out (by rw [HQI.out]; exact hj1)
              clear cU
              have cU : w9.cell? ⟨x1, i, none⟩ = some (.int .u8 y) := by rw [← hly, ← HLi.out]; exact Gt HBI.out.1 i hlt
              clear hj hj1 hlt hi hly
              go_upto_region 21 with fail
              go_quiet (fail)
              go_wp2
              refine ⟨⟨bb, i + 1, _, rfl, by simp, HLT.out, HBN.out _ rfl, rfl⟩, ?_⟩
              have := HLT.out
              simp [intOf]; omega
        · have hin : i = n := Nat.le_antisymm hi (Nat.le_of_not_lt hlt)
          have h0 : ¬ (i : Int) < (n : Int) := by rw [hin]; exact Int.lt_irrefl _
          have hbd : bb = dd := by
            have p1 := HB.out
            rw [hin] at p1
            have p2 := p1.trans HQ.out.2.2
            have p3 : dd = true ↔ xx = 0#128 := by rw [← HDD.out]; simp
            have p4 := p2.trans p3.symm
            cases bb <;> cases dd <;> simp_all
          clear hin hi hlt HB
          subst hbd
          have hee : (bb == bb) = true := by simp
          have HBQ : Hid (Bx (w9.drewN q) XB 27 BX) := HBI.out.2.2.2.below (Below.drewN (Below.refl _ _) _)
          go_wp2_with (first
            | (refine wpList_load_mid (by rfl) 27 (.tmp 11) (by rfl) XB 0 (by rfl) BX _ HBQ.out.range Tryz.underlying27 rfl hiB ?_))
          go_ret
          refine ⟨by first | rfl | simp, ?_⟩
          exact Below.drewN HBI.out.2.2.1 _
end Go.Proofs.YtehlppaidgkpaaaGreatDoor
