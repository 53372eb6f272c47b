import Derived.Test.YtehlppaidgkpaaaGreatDoorPart00
import Derived.Test.YtehlppaidgkpaaaGreatDoorPart52
import Derived.Test.YtehlppaidgkpaaaGreatDoorPart51
import Derived.Test.YtehlppaidgkpaaaGreatDoorPart50
import Derived.Test.YtehlppaidgkpaaaGreatDoorPart43
import Derived.Test.YtehlppaidgkpaaaGreatDoorPart38
import Derived.Test.YtehlppaidgkpaaaGreatDoorPart25
namespace Go.Proofs.YtehlppaidgkpaaaGreatDoor
open Go.RowKit
set_option linter.unusedVariables false
set_option linter.unusedSimpArgs false
structure ThS (w:World) (T:Nat) (va:Option Addr) (nl vc b d:Nat) (L:List Int) (x1 d2:Nat) (U:List Int) (a:Nat) (AT:List Value) (I:World→Prop) (u:World):Prop where
 vb:Zf u (.slice (some ⟨b,0,none⟩) 32 d) L
 vu:Zf u (.slice (some ⟨x1,0,none⟩) 32 d2) U
 ba:Bx u a 27 AT
 bx:Bx u w.heap.size 24 [.int .i64 (T:Nat),.slice va nl vc]
 bel:Below w.heap.size w u
 inv:I u
theorem ThS.below {w:World} {T:Nat} {va:Option Addr} {nl vc b d:Nat} {L:List Int} {x1 d2:Nat} {U:List Int} {a:Nat} {AT:List Value} {B:Nat} {Ks:Nat→Prop} {I:World→Prop} {u u':World} (hC:Cst B Ks I) (h:ThS w T va nl vc b d L x1 d2 U a AT I u) (hb:Below u.heap.size u u'):ThS w T va nl vc b d L x1 d2 U a AT I u':=
 ⟨h.vb.below hb,h.vu.below hb,h.ba.below hb,h.bx.below hb,h.bel.trans (hb.mono h.bel.size),hC.below h.inv hb⟩
structure Hi (w:World) (x1 d2:Nat) (U:List Int) (bx:List (Nat×List Value)) (u:World):Prop where
 bel:Below w.heap.size w u
 vu:Zf u (.slice (some ⟨x1,0,none⟩) 32 d2) U
 bs:∀ p∈bx,Bx u p.1 27 p.2
theorem Hi.below {w:World} {x1 d2:Nat} {U:List Int} {bx:List (Nat×List Value)} {u u':World} (h:Hi w x1 d2 U bx u) (hb:Below u.heap.size u u'):Hi w x1 d2 U bx u':=
 ⟨h.bel.trans (hb.mono h.bel.size),h.vu.below hb,fun p hp=>(h.bs p hp).below hb⟩
theorem Xy (v:BitVec 128):∃ X:List Value,Hid (X=Fd.BL v)∧Hid (X.length=16∧(∀ x∈X,x.oneCell'=true))∧(Tryz.prog.info? 27).map (·.size)=some X.length:=⟨Fd.BL v,rfl,⟨Fd.Zl _,Yh _⟩,by rw[Fd.Zl];kernel_rfl⟩
set_option maxHeartbeats 12800000 in
set_option maxRecDepth 100000 in
theorem F8 (nm:Int) (v:Value) (bs:List Int) (s:Nat) (bv:Value) (ys:List Int) (w:World) (G o cp:Nat) (hE:Env w G o cp) (hv:Zf w v bs) (hbb:Zd bs) (hbv:Zf w bv ys) (hyb:Zd ys) (hs:s<18446744073709551616) :
  Calls Tryz.prog 7 #[.agg #[.int .i64 nm,v],.int .u64 (s:Nat),bv] w fun e w'=>Hid (e=.returned (.bool true)∧Below w.heap.size w w'):=by
 obtain ⟨va,vc,he,hvr⟩:=id hv
 clear hvr
 obtain ⟨nl,HNL⟩:∃ n,Hid (bs.length=n):=⟨_,rfl⟩
 rw[HNL.out] at he
 subst he
 obtain ⟨N,HN⟩:∃ N:Nat,Hid (IntKind.u64.wrap nm%3000=(N:Int)):=⟨(IntKind.u64.wrap nm%3000).toNat,by show _=_;omega⟩
 obtain ⟨q,HQ⟩:∃ q:Nat,Hid (N%3=q):=⟨_,rfl⟩
 obtain ⟨t,HT⟩:∃ t:Nat,Hid (N/3%3=t):=⟨_,rfl⟩
 have hq3:q<3:=by rw[←HQ.out];omega
 have ht3:t<3:=by rw[←HT.out];omega
 obtain ⟨T,HTT⟩:∃ T:Nat,Hid (1+thK q+17*t=T):=⟨_,rfl⟩
 obtain ⟨ks,HKS⟩:∃ ks,Hid (kyL bs (kyN (1+17*t+thK q))=ks):=⟨_,rfl⟩
 obtain ⟨kz,HKZ⟩:∃ kz,Hid (kyN (1+17*t+thK q)=kz):=⟨_,rfl⟩
 have hT52:Hid (thK q≤11∧1+17*t+thK q<52∧T<52):=by rw[←HTT.out];have:thK q≤11:=(by unfold thK;split<;>(try split)<;>omega);show _∧_;omega
 have H9:Hid (∀ u,(∀ i,i<3→u.cell? ⟨w.heap.size+1,i,none⟩=some (.int .i64 ((1+thK i:Nat):Int)))→Calls Tryz.prog 9 #[.agg #[.int .i64 nm,.slice va nl vc],.slice (some ⟨w.heap.size+1,0,none⟩) 3 3] u fun e w'=>Hid (e=.returned (.agg #[.int .i64 (T:Nat),.slice va nl vc])∧Below u.heap.size u w')):=fun u hu=>by
  have p:=Zbm nm va nl vc (w.heap.size+1) 3 3 (fun i=>1+thK i) u N HN.out (by decide) (by decide) hu (fun i hi=>by show 1+thK i≤_;unfold thK;split<;>(try split)<;>omega)
  rw[HQ.out,HT.out,HTT.out] at p
  exact p
 have H10:Hid (∀ u,Below w.heap.size w u→Calls Tryz.prog 10 #[.agg #[.int .i64 (T:Nat),.slice va nl vc]] u fun e w'=>U9 u (Im t q ks) e w'):=fun u hu=>by
  have p:=Zbv q t hq3 ht3 (.slice va nl vc) bs u G o cp (hE.below hu) (hv.below hu) hbb
  rw[HTT.out,HKS.out] at p
  exact p
 obtain ⟨L,HLL⟩:∃ L,Hid (ftL ys 32=L):=⟨_,rfl⟩
 have HLB:Hid (L.length=32∧Zd L):=by rw[←HLL.out];exact ⟨Es _ _,Rf hyb _⟩
 have H11:Hid (∀ u,Below w.heap.size w u→Calls Tryz.prog 11 #[bv,.int .i64 16,.bool true] u fun e w'=>Hid (∃ b d,e=.returned (.slice (some ⟨b,0,none⟩) 32 d)∧u.heap.size≤b∧Zf w' (.slice (some ⟨b,0,none⟩) 32 d) L∧Below u.heap.size u w')):=fun u hu=>by
  refine (Zag bv ys 16 true u (hbv.below hu)).mono fun e w' hh=>?_
  obtain ⟨y,d,rfl,ho,hbl⟩:=hh.out
  rw[show ftN 16 true=32 from rfl] at ho ⊢
  rw[HLL.out] at ho
  have hvw:=Xz ho HLB.out.1
  rcases ho.2 with ⟨_,z⟩ | ⟨b,c2,cur,z,z1,_,z3,z4,_⟩
  ·omega
  ·injection z with z5 z6 z7
   subst z5 z7
   exact ⟨b,_,rfl,z1,hvw,hbl⟩
 have H14:Hid (∀ u,Calls Tryz.prog 14 #[.int .i64 0] u fun e w'=>e=.returned (.int .i64 0)∧w'=u):=fun u=>Nh 0 u
 have H18:Hid (∀ u,Below w.heap.size w u→Calls Tryz.prog 18 #[.agg #[.int .i64 (T:Nat),.slice va nl vc]] u fun e w'=>Hid (∃ y d,e=.returned (.slice y kz d)∧Zf w' (.slice y kz d) ks∧Below u.heap.size u w')):=fun u hu=>by
  have p:=My (T:Nat) (1+17*t+thK q) (.slice va nl vc) bs u G o cp (hE.below hu).md hT52.out.2.1 (by rw[Vc _ (by have:=hT52.out.2.2;omega),←HTT.out];have:=hT52.out;omega) (hv.below hu)
  rw[HKS.out,HKZ.out] at p
  exact p
 have HEN:Hid (∀ u,Below w.heap.size w u→Env u G o cp):=fun u hu=>hE.below hu
 have HKB:Hid (Zd ks∧ks.length=kz):=by rw[←HKS.out,←HKZ.out];exact ⟨Jh hbb _,Q8 _ _⟩
 have HSS:Hid (s<18446744073709551616∧q<3∧t<3):=⟨hs,hq3,ht3⟩
 clear hv hbb hbv hyb hE hq3 ht3 hs
 have c16:∀ i,i<3→((w.alloc (.cells #[.int .i64 nm,.slice va nl vc] 24)).alloc (.cells #[.int .i64 1,.int .i64 7,.int .i64 12] 3)).cell? ⟨w.heap.size+1,i,none⟩=some (.int .i64 ((1+thK i:Nat):Int)):=by
  intro i hi
  match i,hi with
  | 0,_=>simp [thK]
  | 1,_=>simp [thK]
  | 2,_=>simp [thK]
 have HBX:Hid (Bx ((w.alloc (.cells #[.int .i64 nm,.slice va nl vc] 24)).alloc (.cells #[.int .i64 1,.int .i64 7,.int .i64 12] 3)) w.heap.size 24 [.int .i64 nm,.slice va nl vc]∧Below w.heap.size w ((w.alloc (.cells #[.int .i64 nm,.slice va nl vc] 24)).alloc (.cells #[.int .i64 1,.int .i64 7,.int .i64 12] 3))∧(∀ i,i<3→((w.alloc (.cells #[.int .i64 nm,.slice va nl vc] 24)).alloc (.cells #[.int .i64 1,.int .i64 7,.int .i64 12] 3)).cell? ⟨w.heap.size+1,i,none⟩=some (.int .i64 ((1+thK i:Nat):Int)))):=
  ⟨(Bx.new w 24 [.int .i64 nm,.slice va nl vc]).below ((Below.refl _ _).alloc (Nat.le_refl _) _),((Below.refl _ _).alloc (Nat.le_refl _) _).alloc (by simp) _,c16⟩
 clear c16
 go_enter Tryz.func7,Tryz.ntmps7
 go_upto_region 2 with (first
  | (go_at_call 9;refine (H9.out _ HBX.out.2.2).mono ?_;intro e2 w2 hh;obtain ⟨rfl,hb2⟩:=hh.out;have HB2:Hid (Bx w2 w.heap.size 24 [.int .i64 nm,.slice va nl vc]∧Below w.heap.size w w2):=⟨HBX.out.1.below hb2,HBX.out.2.1.trans (hb2.mono HBX.out.2.1.size)⟩;clear hh hb2 H9 HBX)
  | (refine Ze (by rfl) 24 (.tmp 3) (.tmp 40) (by rfl) [.int .i64 nm,.slice va nl vc] [.int .i64 (T:Nat),.slice va nl vc] w.heap.size (by rfl) (by rfl) HB2.out.1 rfl (by kernel_rfl) (by intro v hv;simp at hv;rcases hv with rfl | rfl<;>rfl) ?_;intro w3 hb3 hg3;have HB3:Hid (Bx w3 w.heap.size 24 [.int .i64 (T:Nat),.slice va nl vc]∧Below w.heap.size w w3):=⟨hb3,HB2.out.2.trans (Zm hg3 HB2.out.2.size (Nat.le_refl _))⟩;clear hb3 hg3))
 have d0:w3.cell? ⟨w.heap.size,0,none⟩=some (.int .i64 (T:Nat)):=HB3.out.1.cell 0 _ rfl
 have d1:w3.cell? ⟨w.heap.size,1,none⟩=some (.slice va nl vc):=HB3.out.1.cell 1 _ rfl
 go_upto_region 5 with (first
  | (go_at_call 10;refine (H10.out _ HB3.out.2).mono ?_;intro e4 w4 hh;obtain ⟨A,c,rr,rfl,hA4,hcip,hbel⟩:=hh;obtain ⟨B,Lk,w0,F,hKl,hSti,hSeal,hQ,hIv⟩:=hcip;have HC4:Hid (KlP A B Lk w0∧Kt 13 (Xo Lk) (Sti A B Lk w0) 16 c F∧(if q=0 then QE t ks F else if q=1 then QC t 6 ks F else QXk t ks F)∧(q=1→IvI (Xo Lk) (Sti A B Lk w0) 16 c (cbF ks 6))∧w3.heap.size≤A):=⟨hKl,hSeal,hQ,hIv,hA4⟩;have HI4:Hid (Sti A B Lk w0 w4∧Below w.heap.size w w4∧Bx w4 w.heap.size 24 [.int .i64 (T:Nat),.slice va nl vc]∧w.heap.size<A):=⟨hSti,HB3.out.2.trans (hbel.mono HB3.out.2.size),HB3.out.1.below hbel,Nat.lt_of_lt_of_le HB3.out.1.lt hA4⟩;clear hA4 hbel hKl hSti hSeal hQ hIv H10 d0 d1))
 go_upto_region 6 with (first
  | (go_at_call 11;refine (H11.out _ HI4.out.2.1).mono ?_;intro e5 w5 hh;obtain ⟨b,d,rfl,p1,p4,p5⟩:=hh.out;have HV5:Hid (Zf w5 (.slice (some ⟨b,0,none⟩) 32 d) L∧¬ Xo Lk b):=⟨p4,HC4.out.1.cst.new (Nat.le_trans HI4.out.1.size p1)⟩;have HI5:Hid (Sti A B Lk w0 w5∧Below w.heap.size w w5∧Bx w5 w.heap.size 24 [.int .i64 (T:Nat),.slice va nl vc]):=⟨HC4.out.1.cst.below HI4.out.1 p5,HI4.out.2.1.trans (p5.mono HI4.out.2.1.size),HI4.out.2.2.1.below p5⟩;clear hh p1 p4 p5 H11))
 have HS1:Hid (Calls Tryz.prog 13 #[.pointer (some ⟨c,0,none⟩),.int .u64 (s:Nat),.slice (some ⟨b,0,none⟩) 32 d] w5 fun e u'=>Hid (∃ x d2,e=.returned (.tuple #[.slice (some ⟨x,0,none⟩) 32 d2,.int .i64 0])∧w5.heap.size≤x∧Zf u' (.slice (some ⟨x,0,none⟩) 32 d2) (F s L)∧Sti A B Lk w0 u'∧Gk (Xo Lk) w5 u')):=by
  have p:=HC4.out.2.1 s b 0 d L w5 HI5.out.1 HSS.out.1 (by rw[HLB.out.1];decide) (by rw[HLB.out.1];decide) (by rw[HLB.out.1]) HLB.out.2 HV5.out.2 (by rw[HLB.out.1];exact HV5.out.1)
  rw[HLB.out.1] at p
  exact p
 go_upto_region 9 with (first
  | (go_at_call 13;refine HS1.out.mono ?_;intro e6 w6 hh;obtain ⟨x1,d2,rfl,p1,p2,p3,p4⟩:=hh.out;have HP6:Hid (w5.heap.size≤x1∧Zf w6 (.slice (some ⟨x1,0,none⟩) 32 d2) (F s L)∧Sti A B Lk w0 w6∧Gk (Xo Lk) w5 w6):=⟨p1,p2,p3,p4⟩;clear hh p1 p2 p3 p4 HS1)
  | (go_at_call 14;refine (H14.out _).mono ?_;rintro e8 w8 ⟨rfl,hw⟩;obtain rfl:=hw.symm;clear hw))
 have HS6:Hid (Zf w6 (.slice (some ⟨b,0,none⟩) 32 d) L∧Below w.heap.size w w6∧Bx w6 w.heap.size 24 [.int .i64 (T:Nat),.slice va nl vc]∧Sti A B Lk w0 w6∧Zf w6 (.slice (some ⟨x1,0,none⟩) 32 d2) (F s L)):=by
  have hb5:=HI5.out.2.1
  have hA:=HI4.out.2.2.2
  refine ⟨?_,hb5.trans ⟨HP6.out.2.2.2.os,HP6.out.2.2.2.tape,HP6.out.2.2.2.output,HP6.out.2.2.2.size,fun k hk=>HP6.out.2.2.2.block k (Nat.lt_of_lt_of_le hk hb5.size) (fun e=>by obtain ⟨x,hx,rfl⟩:=e;have:=(HC4.out.1.low x hx).1;omega)⟩,HI5.out.2.2.gk HP6.out.2.2.2 (fun e=>by obtain ⟨x,hx,he⟩:=e;have:=(HC4.out.1.low x hx).1;omega),HP6.out.2.2.1,HP6.out.2.1⟩
  obtain ⟨z1,z2,z3⟩:=Xg HV5.out.1
  have z4:=W1 (w:=w6) (b:=b) (off:=0) (c:=d) (zs:=L) (by omega) (by obtain ⟨_,_,ze,_,zm,_⟩:=HV5.out.1;injection ze with _ _ ze;omega) (fun i hi=>HP6.out.2.2.2.cell HV5.out.2 (z3 i hi))
  rw[z1] at z4
  exact z4
 have HMA:Hid (w.heap.size<A):=HI4.out.2.2.2
 have HXK:Hid (¬ Xo Lk x1):=HC4.out.1.cst.new (Nat.le_trans HI5.out.1.size HP6.out.1)
 clear HV5 HI5 HI4 HB3 HB2
 obtain ⟨a,HA⟩:∃ a,Hid (w6.heap.size=a):=⟨_,rfl⟩
 go_upto_region 10 with fail
 have HA7:Hid (Bx (w6.alloc (.cells #[.int .u8 0,.int .u8 0,.int .u8 0,.int .u8 0,.int .u8 0,.int .u8 0,.int .u8 0,.int .u8 0,.int .u8 0,.int .u8 0,.int .u8 0,.int .u8 0,.int .u8 0,.int .u8 0,.int .u8 0,.int .u8 0] 27)) a 27 (atL s 0)∧Below a w6 (w6.alloc (.cells #[.int .u8 0,.int .u8 0,.int .u8 0,.int .u8 0,.int .u8 0,.int .u8 0,.int .u8 0,.int .u8 0,.int .u8 0,.int .u8 0,.int .u8 0,.int .u8 0,.int .u8 0,.int .u8 0,.int .u8 0,.int .u8 0] 27))):=by
  rw[←HA.out,Zb6]
  exact ⟨Bx.new w6 27 ZZ,(Below.refl _ _).alloc (Nat.le_refl _) _⟩
 rw[HA.out]
 obtain ⟨w7,hw7⟩:∃ w7,w7=w6.alloc (.cells #[.int .u8 0,.int .u8 0,.int .u8 0,.int .u8 0,.int .u8 0,.int .u8 0,.int .u8 0,.int .u8 0,.int .u8 0,.int .u8 0,.int .u8 0,.int .u8 0,.int .u8 0,.int .u8 0,.int .u8 0,.int .u8 0] 27):=⟨_,rfl⟩
 rw[←hw7] at HA7 ⊢
 clear hw7
 go_upto_region 11 with fail
 go_loopw [13] (fun i wr=>∃ k:Nat,k≤8∧i=.int .i64 (k:Nat)∧Hid (Bx wr a 27 (atL s k)∧Below a w6 wr)) (fun i _=>8-(intOf i).toNat)
 case atStart=>exact ⟨0,by omega,rfl,HA7⟩
 case round=>
 clear HA7
 obtain ⟨k,hk,rfl,HR⟩:=hrel
 by_cases hlt:k<8
 ·have hki:((k:Nat):Int)<8:=by omega
  have m1:=Fd.Fl s k
  obtain ⟨b1,HB1⟩:∃ x,Hid (s/256^k%256=x):=⟨_,rfl⟩
  rw[HB1.out] at m1
  have c1:wr.cell? ⟨a,k,none⟩=some (.int .u8 0):=HR.out.1.cell k _ (by simp [atL,show k<16 by omega])
  have f1:wr.frozen? ⟨a,k,none⟩=false:=HR.out.1.frozen k
  have HNX:Hid (Bx (wr.setCell ⟨a,k,none⟩ (.int .u8 (b1:Nat))) a 27 (atL s (k+1))∧Below a w6 (wr.setCell ⟨a,k,none⟩ (.int .u8 (b1:Nat)))):=by
   have p:=HR.out.1.set k (.int .u8 (b1:Nat))
   rw[←HB1.out,Ig s k (by omega),HB1.out] at p
   exact ⟨p,HR.out.2.setCell (Nat.le_refl _) _⟩
  clear HR
  go_wp2
  exact ⟨⟨k+1,by omega,by first | rfl | simp,HNX⟩,by simp [intOf];omega⟩
 ·obtain rfl:k=8:=by omega
  have HR8:Hid (Bx wr a 27 (Fd.BL (plV true s))∧Below a w6 wr):=by
   have p:=HR.out
   rw[Zb5 s HSS.out.1] at p
   exact p
  clear HR hlt hk
  obtain ⟨AT,HAT⟩:∃ X,Hid (X=Fd.BL (plV true s)):=⟨_,rfl⟩
  obtain ⟨I,HI⟩:∃ I,Hid (Sti A B Lk w0=I):=⟨_,rfl⟩
  obtain ⟨U,HU⟩:∃ U,Hid (F s L=U):=⟨_,rfl⟩
  have HC:Hid (Cst B (Xo Lk) I):=by rw[←HI.out];exact HC4.out.1.cst
  have H8:Hid (ThS w T va nl vc b d L x1 d2 U a AT I wr):=by
   rw[←HI.out,←HU.out,HAT.out]
   have hb:=HR8.out.2
   rw[←HA.out] at hb
   exact ⟨HS6.out.1.below hb,HS6.out.2.2.2.2.below hb,HR8.out.1,HS6.out.2.2.1.below hb,HS6.out.2.1.trans (hb.mono HS6.out.2.1.size),HC4.out.1.cst.below HS6.out.2.2.2.1 hb⟩
  have HIV:Hid (q=1→IvI (Xo Lk) I 16 c (cbF ks 6)):=by rw[←HI.out];exact HC4.out.2.2.2.1
  have HQF:Hid (if q=0 then QE t ks F else if q=1 then QC t 6 ks F else QXk t ks F):=HC4.out.2.2.1
  have HKA:Hid (∀ x,Xo Lk x→w.heap.size<x∧x<B):=fun x hx=>by
   obtain ⟨y,hy,rfl⟩:=hx
   have:=HC4.out.1.low y hy
   exact ⟨by have:=HMA.out;omega,this.2⟩
  clear HR8 HS6 HP6 HC4 HA
  obtain ⟨P0,HP0⟩:∃ X,Hid (X=Fd.BL (cutV L 0)):=⟨_,rfl⟩
  obtain ⟨P1,HP1⟩:∃ X,Hid (X=Fd.BL (cutV L 1)):=⟨_,rfl⟩
  have HPL:Hid ((P0.length=16∧∀ x∈P0,x.oneCell'=true)∧(P1.length=16∧∀ x∈P1,x.oneCell'=true)):=by rw[HP0.out,HP1.out];exact ⟨⟨rfl,Yh _⟩,rfl,Yh _⟩
  have hdd:Hid (32≤d∧32≤d2):=⟨(Xg H8.out.vb).2.1,(Xg H8.out.vu).2.1⟩
  have hs0:∀ u:World,(Instr.slice 22 (.slice (some ⟨b,0,none⟩) 32 d) none (some (.int .i64 16)) none).run Tryz.prog u=.ok (.slice (some ⟨b,0,none⟩) 16 d) u:=fun u=>by
   have:=hdd.out.1
   have p:=Vh u (some ⟨b,0,none⟩) 32 d 16 (by omega)
   rw[J4 _ _ _ _ _ (by omega)] at p
   exact p
  have hs1:∀ u:World,(Instr.slice 22 (.slice (some ⟨b,0,none⟩) 32 d) (some (.int .i64 16)) none none).run Tryz.prog u=.ok (.slice (some ⟨b,16,none⟩) 16 (d-16)) u:=fun u=>by
   have:=hdd.out.1
   have p:=Jn u (some ⟨b,0,none⟩) 32 d 16 (by omega) (by omega)
   rw[J4 _ _ _ _ _ (by omega)] at p
   exact p
  have HBA:Hid (∀ u,ThS w T va nl vc b d L x1 d2 U a AT I u→Calls Tryz.prog 19 #[.slice (some ⟨b,0,none⟩) 16 d] u fun e w'=>Hid (e=.returned (.agg P0.toArray)∧Below u.heap.size u w')):=fun u hu=>by
   have v1:=Yv hu.vb 0 16 (by decide) (by decide)
   rw[J4 _ _ _ _ _ (by have:=hdd.out.1;omega),List.drop_zero,Nat.sub_zero,Nat.sub_zero,Nat.add_zero] at v1
   have p:=Vt _ _ u v1 (Yr HLB.out.2 16)
   rw[Ff] at p
   rw[HP0.out]
   exact p
  have HBB:Hid (∀ u,ThS w T va nl vc b d L x1 d2 U a AT I u→Calls Tryz.prog 19 #[.slice (some ⟨b,16,none⟩) 16 (d-16)] u fun e w'=>Hid (e=.returned (.agg P1.toArray)∧Below u.heap.size u w')):=fun u hu=>by
   have v1:=Yv hu.vb 16 32 (by decide) (by decide)
   rw[J4 _ _ _ _ _ (by have:=hdd.out.1;omega),List.take_of_length_le (by rw[List.length_drop,HLB.out.1];decide)] at v1
   have p:=Vt _ _ u v1 (Xi HLB.out.2 16)
   rw[Fg] at p
   rw[HP1.out]
   exact p
  have d0:wr.cell? ⟨w.heap.size,0,none⟩=some (.int .i64 (T:Nat)):=H8.out.bx.cell 0 _ rfl
  have d1:wr.cell? ⟨w.heap.size,1,none⟩=some (.slice va nl vc):=H8.out.bx.cell 1 _ rfl
  go_upto_region 15 with (first
   | (go_at_call 18;refine (H18.out _ H8.out.bel).mono ?_;intro e9 w9 hh;obtain ⟨ky,kd,rfl,p1,p2⟩:=hh.out;have H9:Hid (ThS w T va nl vc b d L x1 d2 U a AT I w9∧Zf w9 (.slice ky kz kd) ks):=⟨H8.out.below HC.out p2,p1⟩;clear hh p1 p2 d0 d1))
  go_upto_region 16 with (first
   | (go_at_call 19;refine (HBA.out _ H9.out.1).mono ?_;intro e10 w10 hh;obtain ⟨rfl,p1⟩:=hh.out;have H10:Hid (ThS w T va nl vc b d L x1 d2 U a AT I w10∧Zf w10 (.slice ky kz kd) ks):=⟨H9.out.1.below HC.out p1,H9.out.2.below p1⟩;clear hh p1)
   | (refine Ze (by rfl) 27 (.tmp 15) (.tmp 81) (by rfl) ZZ P0 w10.heap.size (by rfl) (by rfl) (Bx.new w10 27 ZZ) (by rw[HPL.out.1.1];rfl) (by rw[HPL.out.1.1];kernel_rfl) HPL.out.1.2 ?_;intro w11 hb3 hg3;have H11:Hid (Bx w11 w10.heap.size 27 P0∧Below w10.heap.size w10 w11):=⟨hb3,((Below.refl _ _).alloc (Nat.le_refl _) _).trans (Zm hg3 (by simp) (Nat.le_refl _))⟩;clear hb3 hg3))
  obtain ⟨p0,HPP0⟩:∃ x,Hid (w10.heap.size=x):=⟨_,rfl⟩
  have H12:Hid (ThS w T va nl vc b d L x1 d2 U a AT I w11∧Zf w11 (.slice ky kz kd) ks∧Bx w11 p0 27 P0):=by rw[←HPP0.out];exact ⟨H10.out.1.below HC.out H11.out.2,H10.out.2.below H11.out.2,H11.out.1⟩
  rw[HPP0.out]
  clear H8 H9 H10 H11 HPP0
  go_upto_region 17 with (first
   | (go_at_call 19;refine (HBB.out _ H12.out.1).mono ?_;intro e13 w13 hh;obtain ⟨rfl,p1⟩:=hh.out;have H13:Hid (ThS w T va nl vc b d L x1 d2 U a AT I w13∧Zf w13 (.slice ky kz kd) ks∧Bx w13 p0 27 P0):=⟨H12.out.1.below HC.out p1,H12.out.2.1.below p1,H12.out.2.2.below p1⟩;clear hh p1)
   | (refine Ze (by rfl) 27 (.tmp 16) (.tmp 84) (by rfl) ZZ P1 w13.heap.size (by rfl) (by rfl) (Bx.new w13 27 ZZ) (by rw[HPL.out.2.1];rfl) (by rw[HPL.out.2.1];kernel_rfl) HPL.out.2.2 ?_;intro w14 hb3 hg3;have H14b:Hid (Bx w14 w13.heap.size 27 P1∧Below w13.heap.size w13 w14):=⟨hb3,((Below.refl _ _).alloc (Nat.le_refl _) _).trans (Zm hg3 (by simp) (Nat.le_refl _))⟩;clear hb3 hg3))
  obtain ⟨p1,HPP1⟩:∃ x,Hid (w13.heap.size=x):=⟨_,rfl⟩
  have H15:Hid (ThS w T va nl vc b d L x1 d2 U a AT I w14∧Zf w14 (.slice ky kz kd) ks∧Bx w14 p0 27 P0∧Bx w14 p1 27 P1):=by rw[←HPP1.out];exact ⟨H13.out.1.below HC.out H14b.out.2,H13.out.2.1.below H14b.out.2,H13.out.2.2.below H14b.out.2,H14b.out.1⟩
  rw[HPP1.out]
  clear H12 H13 H14b HPP1 hs0 hs1 HBA HBB
  have HXU:Hid (Zf w14 (.slice (some ⟨x1,0,none⟩) 32 d2) U):=H15.out.1.vu
  have hdd2:Hid (32≤d2):=hdd.out.2
  have hs2:∀ u:World,(Instr.slice 22 (.slice (some ⟨x1,0,none⟩) 32 d2) none (some (.int .i64 16)) none).run Tryz.prog u=.ok (.slice (some ⟨x1,0,none⟩) 16 d2) u:=fun u=>by
   have:=hdd2.out
   have p:=Vh u (some ⟨x1,0,none⟩) 32 d2 16 (by omega)
   rw[J4 _ _ _ _ _ (by omega)] at p
   exact p
  have hs3:∀ u:World,(Instr.slice 22 (.slice (some ⟨x1,0,none⟩) 32 d2) (some (.int .i64 16)) none none).run Tryz.prog u=.ok (.slice (some ⟨x1,16,none⟩) 16 (d2-16)) u:=fun u=>by
   have:=hdd2.out
   have p:=Jn u (some ⟨x1,0,none⟩) 32 d2 16 (by omega) (by omega)
   rw[J4 _ _ _ _ _ (by omega)] at p
   exact p
  have H19:Hid (∀ u,Zd U→Zf u (.slice (some ⟨x1,0,none⟩) 32 d2) U→Calls Tryz.prog 19 #[.slice (some ⟨x1,0,none⟩) 16 d2] u fun e w'=>Hid (e=.returned (Fd.BV (cutV U 0))∧Below u.heap.size u w')):=fun u hB hu=>by
   have v1:=Yv hu 0 16 (by decide) (by decide)
   rw[J4 _ _ _ _ _ (by have:=hdd2.out;omega),List.drop_zero,Nat.sub_zero,Nat.sub_zero,Nat.add_zero] at v1
   have p:=Vt _ _ u v1 (Yr hB 16)
   rw[Ff] at p
   exact p
  have H19b:Hid (∀ u,Zd U→Zf u (.slice (some ⟨x1,0,none⟩) 32 d2) U→Calls Tryz.prog 19 #[.slice (some ⟨x1,16,none⟩) 16 (d2-16)] u fun e w'=>Hid (e=.returned (Fd.BV (cutV U 1))∧Below u.heap.size u w')):=fun u hB hu=>by
   have hl:=(Xg hu).1
   have v1:=Yv hu 16 32 (by decide) (by decide)
   rw[J4 _ _ _ _ _ (by have:=hdd2.out;omega),List.take_of_length_le (by rw[List.length_drop,hl];decide)] at v1
   have p:=Vt _ _ u v1 (Xi hB 16)
   rw[Fg] at p
   exact p
  obtain ⟨Q,HY0⟩:∃ Q:World→Prop,Hid (Q=fun u=>ThS w T va nl vc b d L x1 d2 U a AT I u∧Zf u (.slice ky kz kd) ks∧Bx u p0 27 P0∧Bx u p1 27 P1):=⟨_,rfl⟩
  have HYb:Hid (∀ u u',Q u→Below u.heap.size u u'→Q u'):=by rw[HY0.out];exact fun u u' h hb=>⟨h.1.below HC.out hb,h.2.1.below hb,h.2.2.1.below hb,h.2.2.2.below hb⟩
  have HY1:Hid (∀ u,Q u→Below w.heap.size w u∧Zf u (.slice (some ⟨x1,0,none⟩) 32 d2) U∧Bx u a 27 AT∧Zf u (.slice ky kz kd) ks∧Bx u p0 27 P0∧Bx u p1 27 P1∧I u):=by rw[HY0.out];exact fun u h=>⟨h.1.bel,h.1.vu,h.1.ba,h.2.1,h.2.2.1,h.2.2.2,h.1.inv⟩
  have HYw:Hid (Q w14):=by rw[HY0.out];exact H15.out
  have H20:Hid (∀ u v zs nk x,Below w.heap.size w u→(nk=4∨nk=6∨nk=8)→zs.length=4*nk→Zf u v zs→Zd zs→Calls Tryz.prog 20 #[v,Fd.BV x] u fun e w'=>Hid (e=.returned (.tuple #[Fd.BV (Yy (nk+6) (Zn nk (Yk zs)) x),.bool true])∧Below u.heap.size u w')):=fun u v zs nk x hu h1 h2 h3 h4=>by
   have he:=HEN.out u hu
   exact Zay v zs nk x u h1 h2 h3 h4 he.rc (by have:=he.tb.size;omega)
  have d0:w14.cell? ⟨w.heap.size,0,none⟩=some (.int .i64 (T:Nat)):=H15.out.1.bx.cell 0 _ rfl
  have hi0:(Tryz.prog.info? 27).map (·.size)=some P0.length:=by rw[HPL.out.1.1];kernel_rfl
  have hi1:(Tryz.prog.info? 27).map (·.size)=some P1.length:=by rw[HPL.out.2.1];kernel_rfl
  have hiA:(Tryz.prog.info? 27).map (·.size)=some AT.length:=by rw[HAT.out,Fd.Zl];kernel_rfl
  have HUB:Hid (∀ X:List (BitVec 128),True):=fun _=>trivial
  clear H15 HUB
  have hq3:q=0∨q=1∨q=2:=by have:=HSS.out.2.1;omega
  rcases hq3 with hq | hq | hq
  ·as_aux_lemma=>
   have hrem:((T:Nat):Int).tmod 17=1:=by rw[Int.tmod_eq_emod_of_nonneg (by omega),←HTT.out,hq,show thK 0=0 from rfl];omega
   have hF:=HQF.out
   rw[if_pos hq] at hF
   have hkz:Hid (ks.length=4*(4+2*t)∧(4+2*t=4∨4+2*t=6∨4+2*t=8)):=by
    have h3:=HSS.out.2.2
    have e:kz=16+8*t:=by rw[←HKZ.out,hq,Q7 t (thK 0) (by decide)];show 1*(16+8*t)+0=_;omega
    exact ⟨by rw[HKB.out.2,e];omega,by omega⟩
   have hE:=Zcm hF s L HLB.out.1
   rw[HU.out] at hE
   have HUL:Hid (Zd U):=by rw[←HU.out,hF s L];exact Wf _ _ _
   obtain ⟨X0,HX0,HLX0,hiX0⟩:=Xy (Q1 t ks (cutV L 0))
   obtain ⟨X1,HX1,HLX1,hiX1⟩:=Xy (Q1 t ks (cutV L 1))
   have H20a:Hid (∀ u,Q u→Calls Tryz.prog 20 #[.slice ky kz kd,.agg P0.toArray] u fun e w'=>Hid (e=.returned (.tuple #[.agg X0.toArray,.bool true])∧Below u.heap.size u w')):=fun u hu=>by
    have z:=HY1.out u hu
    have p:=H20.out u _ ks (4+2*t) (cutV L 0) z.1 hkz.out.2 hkz.out.1 z.2.2.2.1 HKB.out.1
    rw[show 4+2*t+6=10+2*t by omega] at p
    rw[HP0.out,HX0.out]
    exact p
   have H20b:Hid (∀ u,Q u→Calls Tryz.prog 20 #[.slice ky kz kd,.agg P1.toArray] u fun e w'=>Hid (e=.returned (.tuple #[.agg X1.toArray,.bool true])∧Below u.heap.size u w')):=fun u hu=>by
    have z:=HY1.out u hu
    have p:=H20.out u _ ks (4+2*t) (cutV L 1) z.1 hkz.out.2 hkz.out.1 z.2.2.2.1 HKB.out.1
    rw[show 4+2*t+6=10+2*t by omega] at p
    rw[HP1.out,HX1.out]
    exact p
   have HA19:Hid (∀ u,Zf u (.slice (some ⟨x1,0,none⟩) 32 d2) U→Calls Tryz.prog 19 #[.slice (some ⟨x1,0,none⟩) 16 d2] u fun e w'=>Hid (e=.returned (.agg X0.toArray)∧Below u.heap.size u w')):=fun u hu=>by
    have p:=H19.out u HUL.out hu
    rw[hE.2.1] at p
    rw[HX0.out];exact p
   have HB19:Hid (∀ u,Zf u (.slice (some ⟨x1,0,none⟩) 32 d2) U→Calls Tryz.prog 19 #[.slice (some ⟨x1,16,none⟩) 16 (d2-16)] u fun e w'=>Hid (e=.returned (.agg X1.toArray)∧Below u.heap.size u w')):=fun u hu=>by
    have p:=H19b.out u HUL.out hu
    rw[hE.2.2] at p
    rw[HX1.out];exact p
   have hEQ0:∀ u:World,(Op.equalIn 10000 27 (.agg X0.toArray) (.agg X0.toArray)).run Tryz.prog u=.ok true u:=fun u=>by rw[HX0.out];exact Fd.Jj _ u
   have hEQ1:∀ u:World,(Op.equalIn 10000 27 (.agg X1.toArray) (.agg X1.toArray)).run Tryz.prog u=.ok true u:=fun u=>by rw[HX1.out];exact Fd.Jj _ u
   clear hq hE hF
   have HB0:Hid (Bx w14 p0 27 P0):=(HY1.out _ HYw.out).2.2.2.2.1
   go_upto_region 20 with (first
    | (refine wpList_load_mid (by rfl) 27 (.tmp 15) (by rfl) p0 0 (by rfl) P0 _ (HB0.out).range Tryz.underlying27 rfl hi0 ?_)
    | (go_at_call 20;refine (H20a.out _ HYw.out).mono ?_;intro e20 w20 hh;obtain ⟨rfl,hb⟩:=hh.out;have HY20:Hid (Q w20):=HYb.out _ _ HYw.out hb;clear hh hb d0)
    | (refine Ze (by rfl) 27 (.tmp 17) (.tmp 94) (by rfl) ZZ X0 w20.heap.size (by rfl) (by rfl) (Bx.new w20 27 ZZ) (by rw[HLX0.out.1];rfl) (by rw[HLX0.out.1];kernel_rfl) HLX0.out.2 ?_;intro w21 hb3 hg3;have H21:Hid (Bx w21 w20.heap.size 27 X0∧Below w20.heap.size w20 w21):=⟨hb3,((Below.refl _ _).alloc (Nat.le_refl _) _).trans (Zm hg3 (by simp) (Nat.le_refl _))⟩;clear hb3 hg3))
   have HZ1:Hid (Q w21∧Bx w21 w20.heap.size 27 X0):=⟨HYb.out _ _ HY20.out H21.out.2,H21.out.1⟩
   obtain ⟨b17,HB17⟩:∃ x,Hid (w20.heap.size=x):=⟨_,rfl⟩
   rw[HB17.out] at HZ1 ⊢
   clear HB17 H21 HY20 HYw HB0
   have HB1:Hid (Bx w21 p1 27 P1):=(HY1.out _ HZ1.out.1).2.2.2.2.2.1
   go_upto_region 21 with (first
    | (refine wpList_load_mid (by rfl) 27 (.tmp 16) (by rfl) p1 0 (by rfl) P1 _ (HB1.out).range Tryz.underlying27 rfl hi1 ?_)
    | (go_at_call 20;refine (H20b.out _ HZ1.out.1).mono ?_;intro e22 w22 hh;obtain ⟨rfl,hb⟩:=hh.out;have HY22:Hid (Q w22∧Bx w22 b17 27 X0):=⟨HYb.out _ _ HZ1.out.1 hb,HZ1.out.2.below hb⟩;clear hh hb)
    | (refine Ze (by rfl) 27 (.tmp 19) (.tmp 100) (by rfl) ZZ X1 w22.heap.size (by rfl) (by rfl) (Bx.new w22 27 ZZ) (by rw[HLX1.out.1];rfl) (by rw[HLX1.out.1];kernel_rfl) HLX1.out.2 ?_;intro w23 hb3 hg3;have H23:Hid (Bx w23 w22.heap.size 27 X1∧Below w22.heap.size w22 w23):=⟨hb3,((Below.refl _ _).alloc (Nat.le_refl _) _).trans (Zm hg3 (by simp) (Nat.le_refl _))⟩;clear hb3 hg3))
   obtain ⟨b19,HB19b⟩:∃ x,Hid (w22.heap.size=x):=⟨_,rfl⟩
   have HF:Hid (Hi w x1 d2 U [(b17,X0),(b19,X1)] w23):=by
    have z:=HY1.out _ (HYb.out _ _ HY22.out.1 H23.out.2)
    refine ⟨z.1,z.2.1,fun p hp=>?_⟩
    rw[←HB19b.out] at hp
    simp only[List.mem_cons,List.not_mem_nil,or_false] at hp
    rcases hp with rfl | rfl
    ·exact HY22.out.2.below H23.out.2
    ·exact H23.out.1
   rw[HB19b.out]
   clear HB19b H23 HY22 HZ1 HB1
   try simp only[Act.put]
   have HIB:Hid (∀ u,Hi w x1 d2 U [(b17,X0),(b19,X1)] u→u.rangeAt b17 0 X0∧u.rangeAt b19 0 X1):=fun u hu=>⟨(hu.bs (b17,X0) (by simp)).range,(hu.bs (b19,X1) (by simp)).range⟩
   have HS0:Hid (Hi w x1 d2 U [(b17,X0),(b19,X1)] w23.drew):=HF.out.below (Below.refl _ _).drew
   have hS0:=HIB.out _ HS0.out
   refine wp_region_noPanic ?_
   refine wp_region_held_drew (S:=(fun u=>u.rangeAt b17 0 X0∧u.rangeAt b19 0 X1)) (by kernel_rfl) (hS0) (fun _=>?_)
   refine tH 0 102 (.bool true) rfl rfl (by kernel_rfl) (hS0) (Or.inl ⟨by rfl,fun w' hS'=>by obtain ⟨c1,c2⟩:=hS';go_simp⟩) ?_
   try simp only[pU]
   refine tH 1 103 (.bool true) rfl rfl (by kernel_rfl) (hS0) (Or.inl ⟨by rfl,fun w' hS'=>by obtain ⟨c1,c2⟩:=hS';go_simp⟩) ?_
   try simp only[pU]
   refine tH 2 104 (.bool true) rfl rfl (by kernel_rfl) (hS0) (Or.inl ⟨by rfl,fun w' hS'=>by obtain ⟨c1,c2⟩:=hS';go_simp⟩) ?_
   try simp only[pU]
   refine tH 3 105 (.bool true) rfl rfl (by kernel_rfl) (hS0) (Or.inl ⟨by rfl,fun w' hS'=>by obtain ⟨c1,c2⟩:=hS';go_simp⟩) ?_
   try simp only[pU]
   refine tH 4 106 (.bool true) rfl rfl (by kernel_rfl) (hS0) (Or.inl ⟨by rfl,fun w' hS'=>by obtain ⟨c1,c2⟩:=hS';go_simp⟩) ?_
   try simp only[pU]
   refine tH 5 107 (.agg X0.toArray) rfl rfl (by kernel_rfl) (hS0) (yieldsIf_load_mid (by rfl) 27 (.tmp 17) rfl b17 0 rfl X0 _ (fun u hu=>hu.1) Tryz.underlying27 rfl hiX0) ?_
   try simp only[pU]
   refine tH 6 108 (.slice (some ⟨x1,0,none⟩) 32 d2) rfl rfl (by kernel_rfl) (hS0) (Or.inl ⟨by rfl,fun w' hS'=>by obtain ⟨c1,c2⟩:=hS';go_simp⟩) ?_
   try simp only[pU]
   refine tH 7 109 (.slice (some ⟨x1,0,none⟩) 16 d2) rfl rfl (by kernel_rfl) (hS0) (Or.inl ⟨by rfl,fun w' hS'=>by obtain ⟨c1,c2⟩:=hS';go_simp⟩) ?_
   try simp only[pU]
   refine wpAnyH_ready (rs:=[8]) (by kernel_rfl) (by simp) ?_
   refine AllReadyH.cons rfl (fun KK hK=>?_) AllReadyH.nil
   go_simp
   refine (HA19.out _ (HS0.out.vu)).mono ?_
   intro e q1 hh
   obtain ⟨rfl,hb⟩:=hh.out
   have HQ1:Hid (Hi w x1 d2 U [(b17,X0),(b19,X1)] q1):=HS0.out.below hb
   clear hh hb
   go_wp2_with fail
   refine hK.out _ _ (HIB.out _ HQ1.out) (fun _=>?_)
   clear hK KK
   try simp only[pU]
   refine tH 9 111 (.bool true) rfl rfl (by kernel_rfl) (HIB.out _ HQ1.out) (Or.inl ⟨by rfl,fun w' hS'=>by obtain ⟨c1,c2⟩:=hS';go_simp⟩) ?_
   try simp only[pU]
   refine tH 10 112 (.bool true) rfl rfl (by kernel_rfl) (HIB.out _ HQ1.out) (Or.inl ⟨by rfl,fun w' hS'=>by obtain ⟨c1,c2⟩:=hS';go_simp⟩) ?_
   try simp only[pU]
   refine tH 11 113 (.bool true) rfl rfl (by kernel_rfl) (HIB.out _ HQ1.out) (Or.inl ⟨by rfl,fun w' hS'=>by obtain ⟨c1,c2⟩:=hS';go_simp⟩) ?_
   try simp only[pU]
   refine tH 12 114 (.agg X1.toArray) rfl rfl (by kernel_rfl) (HIB.out _ HQ1.out) (yieldsIf_load_mid (by rfl) 27 (.tmp 19) rfl b19 0 rfl X1 _ (fun u hu=>hu.2) Tryz.underlying27 rfl hiX1) ?_
   try simp only[pU]
   refine tH 13 115 (.slice (some ⟨x1,0,none⟩) 32 d2) rfl rfl (by kernel_rfl) (HIB.out _ HQ1.out) (Or.inl ⟨by rfl,fun w' hS'=>by obtain ⟨c1,c2⟩:=hS';go_simp⟩) ?_
   try simp only[pU]
   refine tH 14 116 (.slice (some ⟨x1,16,none⟩) 16 (d2-16)) rfl rfl (by kernel_rfl) (HIB.out _ HQ1.out) (Or.inl ⟨by rfl,fun w' hS'=>by obtain ⟨c1,c2⟩:=hS';go_simp⟩) ?_
   try simp only[pU]
   refine wpAnyH_ready (rs:=[15]) (by kernel_rfl) (by simp) ?_
   refine AllReadyH.cons rfl (fun KK hK=>?_) AllReadyH.nil
   go_simp
   refine (HB19.out _ (HQ1.out.vu)).mono ?_
   intro e q2 hh
   obtain ⟨rfl,hb⟩:=hh.out
   have HQ2:Hid (Hi w x1 d2 U [(b17,X0),(b19,X1)] q2):=HQ1.out.below hb
   clear hh hb
   go_wp2_with fail
   refine hK.out _ _ (HIB.out _ HQ2.out) (fun _=>?_)
   clear hK KK
   try simp only[pU]
   refine tH 16 118 (.bool true) rfl rfl (by kernel_rfl) (HIB.out _ HQ2.out) (Or.inl ⟨by rfl,fun w' hS'=>by obtain ⟨c1,c2⟩:=hS';go_simp⟩) ?_
   try simp only[pU]
   refine tH 17 119 (.bool true) rfl rfl (by kernel_rfl) (HIB.out _ HQ2.out) (Or.inl ⟨by rfl,fun w' hS'=>by obtain ⟨c1,c2⟩:=hS';go_simp⟩) ?_
   try simp only[pU]
   refine wpAnyH_ready (rs:=[18]) (by kernel_rfl) (by simp) ?_
   refine AllReadyH.cons rfl (fun KK hK=>?_) AllReadyH.nil
   rw[if_pos (by rfl)]
   go_simp
   refine hK.out _ _ (HIB.out _ HQ2.out) (fun _=>?_)
   clear hK KK
   try simp only[pU]
   refine wpAnyH_done (by kernel_rfl) ?_ _
   refine NoPanic.normal ?_
   go_wp2
   go_ret
   exact ⟨rfl,HQ2.out.bel⟩
  ·as_aux_lemma=>
   have hrem:((T:Nat):Int).tmod 17=7:=by rw[Int.tmod_eq_emod_of_nonneg (by omega),←HTT.out,hq,show thK 1=6 from rfl];omega
   have hF:=HQF.out
   rw[if_neg (by omega),if_pos hq] at hF
   have hkz:Hid (ks.length=4*(4+2*t)∧(4+2*t=4∨4+2*t=6∨4+2*t=8)):=by
    have h3:=HSS.out.2.2
    have e:kz=16+8*t:=by rw[←HKZ.out,hq,Q7 t (thK 1) (by decide)];show 1*(16+8*t)+0=_;omega
    exact ⟨by rw[HKB.out.2,e];omega,by omega⟩
   have hE:=Zcn hF s L HLB.out.1
   rw[HU.out] at hE
   have HUL:Hid (Zd U):=by rw[←HU.out,hF s L];exact Wf _ _ _
   have HIV2:Hid (IvI (Xo Lk) I 16 c (cbF ks 6)):=HIV.out hq
   obtain ⟨zv,HZV⟩:∃ z,Hid (Yy 14 (esK ks) (plV true s)=z):=⟨_,rfl⟩
   obtain ⟨xv,HXV⟩:∃ z,Hid (Q1 t ks (cutV L 0 ^^^ zv)=z):=⟨_,rfl⟩
   rw[HZV.out,HXV.out] at hE
   obtain ⟨Z0,HZ0,HLZ0,hiZ0⟩:=Xy (zv)
   obtain ⟨A0,HA0,HLA0,hiA0⟩:=Xy (cutV L 0 ^^^ zv)
   obtain ⟨X0,HX0,HLX0,hiX0⟩:=Xy (xv)
   obtain ⟨A1,HA1,HLA1,hiA1⟩:=Xy (cutV L 1 ^^^ xv)
   obtain ⟨X1,HX1,HLX1,hiX1⟩:=Xy (Q1 t ks (cutV L 1 ^^^ xv))
   have HXX:Hid (X0=Fd.BL (Q1 t ks (cutV L 0 ^^^ zv))):=by rw[HXV.out];exact HX0.out
   have HZZ:Hid (Z0=Fd.BL (Yy (8+6) (Zn 8 (Yk (Dg.Xw 256 ks))) (plV true s))):=by
    show Z0=Fd.BL (Yy 14 (esK ks) (plV true s))
    rw[HZV.out];exact HZ0.out
   have H20a:Hid (∀ u,Q u→Calls Tryz.prog 20 #[.slice ky kz kd,.agg A0.toArray] u fun e w'=>Hid (e=.returned (.tuple #[.agg X0.toArray,.bool true])∧Below u.heap.size u w')):=fun u hu=>by
    have z:=HY1.out u hu
    have p:=H20.out u _ (ks) (4+2*t) (cutV L 0 ^^^ zv) z.1 hkz.out.2 hkz.out.1 (z.2.2.2.1) HKB.out.1
    rw[show 4+2*t+6=10+2*t by omega] at p
    rw[HA0.out,HXX.out]
    exact p
   have H20b:Hid (∀ u,Q u→Calls Tryz.prog 20 #[.slice ky kz kd,.agg A1.toArray] u fun e w'=>Hid (e=.returned (.tuple #[.agg X1.toArray,.bool true])∧Below u.heap.size u w')):=fun u hu=>by
    have z:=HY1.out u hu
    have p:=H20.out u _ (ks) (4+2*t) (cutV L 1 ^^^ xv) z.1 hkz.out.2 hkz.out.1 (z.2.2.2.1) HKB.out.1
    rw[show 4+2*t+6=10+2*t by omega] at p
    rw[HA1.out,HX1.out]
    exact p
   have H20z:Hid (∀ (u:World) (sb:Nat),Q u∧Zf u (.slice (some ⟨sb,0,none⟩) 32 32) (Dg.Xw 256 ks)→Calls Tryz.prog 20 #[.slice (some ⟨sb,0,none⟩) 32 32,.agg AT.toArray] u fun e w'=>Hid (e=.returned (.tuple #[.agg Z0.toArray,.bool true])∧Below u.heap.size u w')):=fun u sb hu=>by
    have z:=HY1.out u hu.1
    have p:=H20.out u _ (Dg.Xw 256 ks) 8 (plV true s) z.1 (.inr (.inr rfl)) (Qg ks) (hu.2) (Ku _ _)
    rw[HAT.out,HZZ.out]
    exact p
   have H22a:Hid (∀ u,Calls Tryz.prog 22 #[.agg P0.toArray,.agg Z0.toArray] u fun e w'=>Hid (e=.returned (.agg A0.toArray)∧Below u.heap.size u w')):=fun u=>by
    rw[HP0.out,HZ0.out,HA0.out]
    exact (Fd.Jg _ _ u).mono fun e w' hh=>hh
   have H22b:Hid (∀ u,Calls Tryz.prog 22 #[.agg P1.toArray,.agg X0.toArray] u fun e w'=>Hid (e=.returned (.agg A1.toArray)∧Below u.heap.size u w')):=fun u=>by
    rw[HP1.out,HX0.out,HA1.out]
    exact (Fd.Jg _ _ u).mono fun e w' hh=>hh
   have HA19:Hid (∀ u,Zf u (.slice (some ⟨x1,0,none⟩) 32 d2) U→Calls Tryz.prog 19 #[.slice (some ⟨x1,0,none⟩) 16 d2] u fun e w'=>Hid (e=.returned (.agg X0.toArray)∧Below u.heap.size u w')):=fun u hu=>by
    have p:=H19.out u HUL.out hu
    rw[hE.2.1] at p
    rw[HX0.out];exact p
   have HB19:Hid (∀ u,Zf u (.slice (some ⟨x1,0,none⟩) 32 d2) U→Calls Tryz.prog 19 #[.slice (some ⟨x1,16,none⟩) 16 (d2-16)] u fun e w'=>Hid (e=.returned (.agg X1.toArray)∧Below u.heap.size u w')):=fun u hu=>by
    have p:=H19b.out u HUL.out hu
    rw[hE.2.2] at p
    rw[HX1.out];exact p
   have hEQX0:∀ u:World,(Op.equalIn 10000 27 (.agg X0.toArray) (.agg X0.toArray)).run Tryz.prog u=.ok true u:=fun u=>by rw[HX0.out];exact Fd.Jj _ u
   have hEQX1:∀ u:World,(Op.equalIn 10000 27 (.agg X1.toArray) (.agg X1.toArray)).run Tryz.prog u=.ok true u:=fun u=>by rw[HX1.out];exact Fd.Jj _ u
   have HSM:Hid (Calls Tryz.prog 21 #[.int .i64 256,.slice (some ⟨w14.heap.size,0,none⟩) 1 1] (w14.alloc (.cells #[.slice ky kz kd] 22)) fun e w'=>Hid (∃ b,e=.returned (.tuple #[.slice (some ⟨b,0,none⟩) 32 32,.int .i64 0])∧Zf w' (.slice (some ⟨b,0,none⟩) 32 32) (Dg.Xw 256 ks)∧Below w14.heap.size w14 w')):=by
    have hz:=HY1.out _ HYw.out
    have hT:=(HEN.out _ hz.1).tb
    have hv0:=hz.2.2.2.1
    have hn:ks.length≤32:=by have:=hkz.out;omega
    have hal:Below w14.heap.size w14 (w14.alloc (.cells #[.slice ky kz kd] 22)):=(Below.refl _ _).alloc (Nat.le_refl _) _
    refine (Dg.Zb0 256 [ks] _ _ (show _=_ from rfl) (fun u g hu hg=>?_) (hT.below hal (by have:=hT.size;omega)) ?_).mono ?_
    ·have q:Dg.Fu (w14.alloc (.cells #[.slice ky kz kd] 22)) g (.slice (some ⟨w14.heap.size,0,none⟩) 1 1) [ks]:=Dg.Vm 22 (.slice ky kz kd) ks g hv0 (by simp at hg;omega) (fun h0 b off l c e=>by
      have:=W3 hv0 h0 b off l c e
      simp at hg;omega)
     obtain ⟨a,c,e1,e2,e3,e4⟩:=q
     refine ⟨a,c,e1,e2,e3,?_⟩
     rcases e4 with e4 | ⟨b,p,e5,e6,e7⟩
     ·exact .inl e4
     ·refine .inr ⟨b,p,e5,e6,fun i hi=>?_⟩
      obtain ⟨x,x1,x2,x3⟩:=e7 i hi
      exact ⟨x,by rw[hu.cell (World.block_lt_of_cell? _ _ x1)];exact x1,Dg.Zf.kept x2 hu.block,x3⟩
    ·show ([ks]:List (List Int)).flatten.length≤33554432
     simp;omega
    ·rintro e w' ⟨b,he,ho,hb⟩
     refine ⟨b,he,?_,hal.trans (hb.mono hal.size)⟩
     rw[show ([ks]:List (List Int)).flatten=ks by simp] at ho
     exact Xz (n:=32) ho (Qg ks)
   clear hq hE hF
   go_upto_region 24 with (first
    | (go_at_call 21;refine HSM.out.mono ?_;intro e20 w20 hh;obtain ⟨sb,rfl,hv2,hb⟩:=hh.out;have HY20:Hid (Q w20∧Zf w20 (.slice (some ⟨sb,0,none⟩) 32 32) (Dg.Xw 256 ks)):=⟨HYb.out _ _ HYw.out hb,hv2⟩;clear hh hb hv2 d0 HSM))
   have HB0:Hid (Bx w20 a 27 AT):=(HY1.out _ HY20.out.1).2.2.1
   go_upto_region 25 with (first
    | (refine wpList_load_mid (by rfl) 27 (.tmp 12) (by rfl) a 0 (by rfl) AT _ (HB0.out).range Tryz.underlying27 rfl hiA ?_)
    | (go_at_call 20;refine (H20z.out _ sb HY20.out).mono ?_;intro e21 w21 hh;obtain ⟨rfl,hb⟩:=hh.out;have HY21:Hid (Q w21):=HYb.out _ _ HY20.out.1 hb;clear hh hb)
    | (refine Ze (by rfl) 27 (.tmp 23) (.tmp 132) (by rfl) ZZ Z0 w21.heap.size (by rfl) (by rfl) (Bx.new w21 27 ZZ) (by rw[HLZ0.out.1];rfl) (by rw[HLZ0.out.1];kernel_rfl) HLZ0.out.2 ?_;intro w22 hb3 hg3;have H22:Hid (Bx w22 w21.heap.size 27 Z0∧Below w21.heap.size w21 w22):=⟨hb3,((Below.refl _ _).alloc (Nat.le_refl _) _).trans (Zm hg3 (by simp) (Nat.le_refl _))⟩;clear hb3 hg3))
   have HZ1:Hid (Q w22∧Bx w22 w21.heap.size 27 Z0∧B≤w21.heap.size):=⟨HYb.out _ _ HY21.out H22.out.2,H22.out.1,HC.out.size _ (HY1.out _ HY21.out).2.2.2.2.2.2⟩
   obtain ⟨b23,HB23⟩:∃ x,Hid (w21.heap.size=x):=⟨_,rfl⟩
   rw[HB23.out] at HZ1 ⊢
   clear HB23 H22 HY20 HY21 HYw HB0
   have HB1:Hid (Bx w22 p0 27 P0):=(HY1.out _ HZ1.out.1).2.2.2.2.1
   go_upto_region 26 with (first
    | (refine wpList_load_mid (by rfl) 27 (.tmp 15) (by rfl) p0 0 (by rfl) P0 _ (HB1.out).range Tryz.underlying27 rfl hi0 ?_)
    | (refine wpList_load_mid (by rfl) 27 (.tmp 23) (by rfl) b23 0 (by rfl) Z0 _ (HZ1.out.2.1).range Tryz.underlying27 rfl hiZ0 ?_)
    | (go_at_call 22;refine (H22a.out _).mono ?_;intro e23 w23 hh;obtain ⟨rfl,hb⟩:=hh.out;have HY23:Hid (Q w23∧Bx w23 b23 27 Z0):=⟨HYb.out _ _ HZ1.out.1 hb,HZ1.out.2.1.below hb⟩;clear hh hb)
    | (go_at_call 20;refine (H20a.out _ HY23.out.1).mono ?_;intro e24 w24 hh;obtain ⟨rfl,hb⟩:=hh.out;have HY24:Hid (Q w24∧Bx w24 b23 27 Z0):=⟨HYb.out _ _ HY23.out.1 hb,HY23.out.2.below hb⟩;clear hh hb)
    | (refine Ze (by rfl) 27 (.tmp 25) (.tmp 140) (by rfl) ZZ X0 w24.heap.size (by rfl) (by rfl) (Bx.new w24 27 ZZ) (by rw[HLX0.out.1];rfl) (by rw[HLX0.out.1];kernel_rfl) HLX0.out.2 ?_;intro w25 hb3 hg3;have H25:Hid (Bx w25 w24.heap.size 27 X0∧Below w24.heap.size w24 w25):=⟨hb3,((Below.refl _ _).alloc (Nat.le_refl _) _).trans (Zm hg3 (by simp) (Nat.le_refl _))⟩;clear hb3 hg3))
   have HZ2:Hid (Q w25∧Bx w25 b23 27 Z0∧Bx w25 w24.heap.size 27 X0∧B≤b23∧B≤w24.heap.size):=⟨HYb.out _ _ HY24.out.1 H25.out.2,HY24.out.2.below H25.out.2,H25.out.1,HZ1.out.2.2,HC.out.size _ (HY1.out _ HY24.out.1).2.2.2.2.2.2⟩
   obtain ⟨b25,HB25⟩:∃ x,Hid (w24.heap.size=x):=⟨_,rfl⟩
   rw[HB25.out] at HZ2 ⊢
   clear HB25 H25 HY23 HY24 HZ1 HB1
   have HB2:Hid (Bx w25 p1 27 P1):=(HY1.out _ HZ2.out.1).2.2.2.2.2.1
   go_upto_region 27 with (first
    | (refine wpList_load_mid (by rfl) 27 (.tmp 16) (by rfl) p1 0 (by rfl) P1 _ (HB2.out).range Tryz.underlying27 rfl hi1 ?_)
    | (refine wpList_load_mid (by rfl) 27 (.tmp 25) (by rfl) b25 0 (by rfl) X0 _ (HZ2.out.2.2.1).range Tryz.underlying27 rfl hiX0 ?_)
    | (go_at_call 22;refine (H22b.out _).mono ?_;intro e26 w26 hh;obtain ⟨rfl,hb⟩:=hh.out;have HY26:Hid (Q w26∧Bx w26 b23 27 Z0∧Bx w26 b25 27 X0):=⟨HYb.out _ _ HZ2.out.1 hb,HZ2.out.2.1.below hb,HZ2.out.2.2.1.below hb⟩;clear hh hb)
    | (go_at_call 20;refine (H20b.out _ HY26.out.1).mono ?_;intro e27 w27 hh;obtain ⟨rfl,hb⟩:=hh.out;have HY27:Hid (Q w27∧Bx w27 b23 27 Z0∧Bx w27 b25 27 X0):=⟨HYb.out _ _ HY26.out.1 hb,HY26.out.2.1.below hb,HY26.out.2.2.below hb⟩;clear hh hb)
    | (refine Ze (by rfl) 27 (.tmp 27) (.tmp 148) (by rfl) ZZ X1 w27.heap.size (by rfl) (by rfl) (Bx.new w27 27 ZZ) (by rw[HLX1.out.1];rfl) (by rw[HLX1.out.1];kernel_rfl) HLX1.out.2 ?_;intro w28 hb3 hg3;have H28:Hid (Bx w28 w27.heap.size 27 X1∧Below w27.heap.size w27 w28):=⟨hb3,((Below.refl _ _).alloc (Nat.le_refl _) _).trans (Zm hg3 (by simp) (Nat.le_refl _))⟩;clear hb3 hg3))
   have HZ3:Hid (Q w28∧Bx w28 b23 27 Z0∧Bx w28 b25 27 X0∧Bx w28 w27.heap.size 27 X1∧B≤b23∧B≤b25∧B≤w27.heap.size):=⟨HYb.out _ _ HY27.out.1 H28.out.2,HY27.out.2.1.below H28.out.2,HY27.out.2.2.below H28.out.2,H28.out.1,HZ2.out.2.2.2.1,HZ2.out.2.2.2.2,HC.out.size _ (HY1.out _ HY27.out.1).2.2.2.2.2.2⟩
   obtain ⟨b27,HB27⟩:∃ x,Hid (w27.heap.size=x):=⟨_,rfl⟩
   rw[HB27.out] at HZ3 ⊢
   clear HB27 H28 HY26 HY27 HZ2 HB2
   have H23:Hid (Calls Tryz.prog 23 #[.pointer (some ⟨c,0,none⟩),.int .u64 (s:Nat),.int .i64 32] w28 fun e u'=>Hid (∃ y,e=.returned (.tuple #[.slice (some ⟨y,0,none⟩) 16 16,.int .i64 0])∧Zf u' (.slice (some ⟨y,0,none⟩) 16 16) (blB zv)∧I u'∧Gk (Xo Lk) w28 u')):=by
    refine (HIV2.out s 32 w28 (HY1.out _ HZ3.out.1).2.2.2.2.2.2 HSS.out.1 (by decide) (by decide) (by decide)).mono fun e u' hh=>?_
    obtain ⟨y,e1,e2,_,e3,e4⟩:=hh.out
    refine ⟨y,e1,?_,e3,e4⟩
    have e5:cbF ks 6 s=zv:=by unfold cbF;rw[if_pos rfl];exact HZV.out
    rw[e5] at e2
    exact e2
   go_upto_region 28 with (first
    | (go_at_call 23;refine H23.out.mono ?_;intro e29 w29 hh;obtain ⟨yi,rfl,p2,p3,p4⟩:=hh.out;have HP29:Hid (Zf w29 (.slice (some ⟨yi,0,none⟩) 16 16) (blB zv)∧Gk (Xo Lk) w28 w29):=⟨p2,p4⟩;clear hh p2 p3 p4 H23))
   have HF:Hid (Hi w x1 d2 U [(b23,Z0),(b25,X0),(b27,X1)] w29):=by
    have z:=HY1.out _ HZ3.out.1
    have hg:=HP29.out.2
    refine ⟨z.1.trans ⟨hg.os,hg.tape,hg.output,hg.size,fun k hk=>hg.block k (Nat.lt_of_lt_of_le hk z.1.size) (fun e=>by have:=(HKA.out k e).1;omega)⟩,Pj z.2.1 HXK.out hg,fun p hp=>?_⟩
    simp only[List.mem_cons,List.not_mem_nil,or_false] at hp
    rcases hp with rfl | rfl | rfl
    ·exact HZ3.out.2.1.gk hg (HC.out.new HZ3.out.2.2.2.2.1)
    ·exact HZ3.out.2.2.1.gk hg (HC.out.new HZ3.out.2.2.2.2.2.1)
    ·exact HZ3.out.2.2.2.1.gk hg (HC.out.new HZ3.out.2.2.2.2.2.2)
   obtain ⟨R,HR0⟩:∃ R:World→Prop,Hid (R=fun u=>Hi w x1 d2 U [(b23,Z0),(b25,X0),(b27,X1)] u∧Zf u (.slice (some ⟨yi,0,none⟩) 16 16) (blB zv)):=⟨_,rfl⟩
   have HRb:Hid (∀ u u',R u→Below u.heap.size u u'→R u'):=by rw[HR0.out];exact fun u u' h hb=>⟨h.1.below hb,h.2.below hb⟩
   have HRv:Hid (∀ u,R u→Below w.heap.size w u∧Zf u (.slice (some ⟨x1,0,none⟩) 32 d2) U):=by rw[HR0.out];exact fun u h=>⟨h.1.bel,h.1.vu⟩
   have HIB:Hid (∀ u,R u→u.rangeAt b23 0 Z0∧u.rangeAt b25 0 X0∧u.rangeAt b27 0 X1):=by rw[HR0.out];exact fun u hu=>⟨(hu.1.bs (b23,Z0) (by simp)).range,(hu.1.bs (b25,X0) (by simp)).range,(hu.1.bs (b27,X1) (by simp)).range⟩
   have HM16:Hid (∀ u,R u→Calls Tryz.prog 16 #[.slice (some ⟨yi,0,none⟩) 16 16,.slice (some ⟨b23,0,none⟩) 16 16] u fun e w'=>Hid (e=.returned (.bool true)∧Below u.heap.size u w')):=by
    rw[HR0.out]
    intro u hu
    have hbx:Bx u b23 27 Z0:=hu.1.bs (b23,Z0) (by simp)
    have hv:=W1 (w:=u) (b:=b23) (off:=0) (c:=16) (zs:=blB zv) (by rw[Kl];decide) (by decide) (fun i hi=>by
     rw[Kl] at hi
     rw[Uy _ i hi,Nat.zero_add]
     rw[HZ0.out] at hbx
     exact hbx.cell i _ (Fd.X5 _ i hi))
    rw[Kl] at hv
    refine (Cs _ _ _ _ u hu.2 hv).mono fun e w' hh=>?_
    obtain ⟨h1,m,rfl⟩:=hh
    exact ⟨by rw[h1,decide_eq_true rfl],Below.drewN (Below.refl _ _) _⟩
   have HN14:Hid (∀ u,Calls Tryz.prog 14 #[.int .i64 0] u fun e w'=>Hid (e=.returned (.int .i64 0)∧Below u.heap.size u w')):=fun u=>(H14.out u).mono fun e w' hh=>⟨hh.1,by rw[hh.2];exact Below.refl _ _⟩
   have HS0:Hid (R w29.drew):=HRb.out _ _ (by rw[HR0.out];exact ⟨HF.out,HP29.out.1⟩) (Below.refl _ _).drew
   have hS0:=HIB.out _ HS0.out
   clear HF HP29 HZ3
   try simp only[Act.put]
   refine wp_region_noPanic ?_
   refine wp_region_held_drew (S:=(fun u=>u.rangeAt b23 0 Z0∧u.rangeAt b25 0 X0∧u.rangeAt b27 0 X1)) (by kernel_rfl) (hS0) (fun _=>?_)
   refine tH 0 156 (.int .i64 0) rfl rfl (by kernel_rfl) (hS0) (Or.inl ⟨by rfl,fun w' hS'=>by obtain ⟨c1,c2,c3⟩:=hS';go_simp⟩) ?_
   try simp only[pU]
   refine wpAnyH_ready (rs:=[1]) (by kernel_rfl) (by simp) ?_
   refine AllReadyH.cons rfl (fun KK hK=>?_) AllReadyH.nil
   go_simp
   refine (HN14.out _).mono ?_
   intro e q3 hh
   obtain ⟨rfl,hb⟩:=hh.out
   have HQ3:Hid (R q3):=HRb.out _ _ HS0.out hb
   clear hh hb
   go_wp2_with fail
   refine hK.out _ _ (HIB.out _ HQ3.out) (fun _=>?_)
   clear hK KK
   try simp only[pU]
   refine tH 2 158 (.bool true) rfl rfl (by kernel_rfl) (HIB.out _ HQ3.out) (Or.inl ⟨by rfl,fun w' hS'=>by obtain ⟨c1,c2,c3⟩:=hS';go_simp⟩) ?_
   try simp only[pU]
   refine tH 3 159 (.bool true) rfl rfl (by kernel_rfl) (HIB.out _ HQ3.out) (Or.inl ⟨by rfl,fun w' hS'=>by obtain ⟨c1,c2,c3⟩:=hS';go_simp⟩) ?_
   try simp only[pU]
   refine tH 4 160 (.int .i64 0) rfl rfl (by kernel_rfl) (HIB.out _ HQ3.out) (Or.inl ⟨by rfl,fun w' hS'=>by obtain ⟨c1,c2,c3⟩:=hS';go_simp⟩) ?_
   try simp only[pU]
   refine wpAnyH_ready (rs:=[5]) (by kernel_rfl) (by simp) ?_
   refine AllReadyH.cons rfl (fun KK hK=>?_) AllReadyH.nil
   go_simp
   refine (HN14.out _).mono ?_
   intro e q4 hh
   obtain ⟨rfl,hb⟩:=hh.out
   have HQ4:Hid (R q4):=HRb.out _ _ HQ3.out hb
   clear hh hb
   go_wp2_with fail
   refine hK.out _ _ (HIB.out _ HQ4.out) (fun _=>?_)
   clear hK KK
   try simp only[pU]
   refine tH 6 162 (.bool true) rfl rfl (by kernel_rfl) (HIB.out _ HQ4.out) (Or.inl ⟨by rfl,fun w' hS'=>by obtain ⟨c1,c2,c3⟩:=hS';go_simp⟩) ?_
   try simp only[pU]
   refine tH 7 163 (.bool true) rfl rfl (by kernel_rfl) (HIB.out _ HQ4.out) (Or.inl ⟨by rfl,fun w' hS'=>by obtain ⟨c1,c2,c3⟩:=hS';go_simp⟩) ?_
   try simp only[pU]
   refine tH 8 164 (.bool true) rfl rfl (by kernel_rfl) (HIB.out _ HQ4.out) (Or.inl ⟨by rfl,fun w' hS'=>by obtain ⟨c1,c2,c3⟩:=hS';go_simp⟩) ?_
   try simp only[pU]
   refine tH 9 165 (.bool true) rfl rfl (by kernel_rfl) (HIB.out _ HQ4.out) (Or.inl ⟨by rfl,fun w' hS'=>by obtain ⟨c1,c2,c3⟩:=hS';go_simp⟩) ?_
   try simp only[pU]
   refine tH 10 166 (.bool true) rfl rfl (by kernel_rfl) (HIB.out _ HQ4.out) (Or.inl ⟨by rfl,fun w' hS'=>by obtain ⟨c1,c2,c3⟩:=hS';go_simp⟩) ?_
   try simp only[pU]
   refine tH 11 167 (.bool true) rfl rfl (by kernel_rfl) (HIB.out _ HQ4.out) (Or.inl ⟨by rfl,fun w' hS'=>by obtain ⟨c1,c2,c3⟩:=hS';go_simp⟩) ?_
   try simp only[pU]
   refine tH 12 168 (.bool true) rfl rfl (by kernel_rfl) (HIB.out _ HQ4.out) (Or.inl ⟨by rfl,fun w' hS'=>by obtain ⟨c1,c2,c3⟩:=hS';go_simp⟩) ?_
   try simp only[pU]
   refine tH 13 169 (.bool true) rfl rfl (by kernel_rfl) (HIB.out _ HQ4.out) (Or.inl ⟨by rfl,fun w' hS'=>by obtain ⟨c1,c2,c3⟩:=hS';go_simp⟩) ?_
   try simp only[pU]
   refine tH 14 170 (.bool true) rfl rfl (by kernel_rfl) (HIB.out _ HQ4.out) (Or.inl ⟨by rfl,fun w' hS'=>by obtain ⟨c1,c2,c3⟩:=hS';go_simp⟩) ?_
   try simp only[pU]
   refine tH 15 171 (.bool true) rfl rfl (by kernel_rfl) (HIB.out _ HQ4.out) (Or.inl ⟨by rfl,fun w' hS'=>by obtain ⟨c1,c2,c3⟩:=hS';go_simp⟩) ?_
   try simp only[pU]
   refine tH 16 172 (.bool true) rfl rfl (by kernel_rfl) (HIB.out _ HQ4.out) (Or.inl ⟨by rfl,fun w' hS'=>by obtain ⟨c1,c2,c3⟩:=hS';go_simp⟩) ?_
   try simp only[pU]
   refine tH 17 173 (.bool true) rfl rfl (by kernel_rfl) (HIB.out _ HQ4.out) (Or.inl ⟨by rfl,fun w' hS'=>by obtain ⟨c1,c2,c3⟩:=hS';go_simp⟩) ?_
   try simp only[pU]
   refine tH 18 174 (.slice (some ⟨yi,0,none⟩) 16 16) rfl rfl (by kernel_rfl) (HIB.out _ HQ4.out) (Or.inl ⟨by rfl,fun w' hS'=>by obtain ⟨c1,c2,c3⟩:=hS';go_simp⟩) ?_
   try simp only[pU]
   refine tH 19 175 (.slice (some ⟨b23,0,none⟩) 16 16) rfl rfl (by kernel_rfl) (HIB.out _ HQ4.out) (Or.inl ⟨by rfl,fun w' hS'=>by obtain ⟨c1,c2,c3⟩:=hS';go_simp⟩) ?_
   try simp only[pU]
   refine wpAnyH_ready (rs:=[20]) (by kernel_rfl) (by simp) ?_
   refine AllReadyH.cons rfl (fun KK hK=>?_) AllReadyH.nil
   go_simp
   refine (HM16.out _ (HQ4.out)).mono ?_
   intro e q5 hh
   obtain ⟨rfl,hb⟩:=hh.out
   have HQ5:Hid (R q5):=HRb.out _ _ HQ4.out hb
   clear hh hb
   go_wp2_with fail
   refine hK.out _ _ (HIB.out _ HQ5.out) (fun _=>?_)
   clear hK KK
   try simp only[pU]
   refine tH 21 177 (.bool true) rfl rfl (by kernel_rfl) (HIB.out _ HQ5.out) (Or.inl ⟨by rfl,fun w' hS'=>by obtain ⟨c1,c2,c3⟩:=hS';go_simp⟩) ?_
   try simp only[pU]
   refine tH 22 178 (.bool true) rfl rfl (by kernel_rfl) (HIB.out _ HQ5.out) (Or.inl ⟨by rfl,fun w' hS'=>by obtain ⟨c1,c2,c3⟩:=hS';go_simp⟩) ?_
   try simp only[pU]
   refine tH 23 179 (.agg X0.toArray) rfl rfl (by kernel_rfl) (HIB.out _ HQ5.out) (yieldsIf_load_mid (by rfl) 27 (.tmp 25) rfl b25 0 rfl X0 _ (fun u hu=>hu.2.1) Tryz.underlying27 rfl hiX0) ?_
   try simp only[pU]
   refine tH 24 180 (.slice (some ⟨x1,0,none⟩) 32 d2) rfl rfl (by kernel_rfl) (HIB.out _ HQ5.out) (Or.inl ⟨by rfl,fun w' hS'=>by obtain ⟨c1,c2,c3⟩:=hS';go_simp⟩) ?_
   try simp only[pU]
   refine tH 25 181 (.slice (some ⟨x1,0,none⟩) 16 d2) rfl rfl (by kernel_rfl) (HIB.out _ HQ5.out) (Or.inl ⟨by rfl,fun w' hS'=>by obtain ⟨c1,c2,c3⟩:=hS';go_simp⟩) ?_
   try simp only[pU]
   refine wpAnyH_ready (rs:=[26]) (by kernel_rfl) (by simp) ?_
   refine AllReadyH.cons rfl (fun KK hK=>?_) AllReadyH.nil
   go_simp
   refine (HA19.out _ ((HRv.out _ HQ5.out).2)).mono ?_
   intro e q6 hh
   obtain ⟨rfl,hb⟩:=hh.out
   have HQ6:Hid (R q6):=HRb.out _ _ HQ5.out hb
   clear hh hb
   go_wp2_with fail
   refine hK.out _ _ (HIB.out _ HQ6.out) (fun _=>?_)
   clear hK KK
   try simp only[pU]
   refine tH 27 183 (.bool true) rfl rfl (by kernel_rfl) (HIB.out _ HQ6.out) (Or.inl ⟨by rfl,fun w' hS'=>by obtain ⟨c1,c2,c3⟩:=hS';go_simp⟩) ?_
   try simp only[pU]
   refine tH 28 184 (.bool true) rfl rfl (by kernel_rfl) (HIB.out _ HQ6.out) (Or.inl ⟨by rfl,fun w' hS'=>by obtain ⟨c1,c2,c3⟩:=hS';go_simp⟩) ?_
   try simp only[pU]
   refine tH 29 185 (.bool true) rfl rfl (by kernel_rfl) (HIB.out _ HQ6.out) (Or.inl ⟨by rfl,fun w' hS'=>by obtain ⟨c1,c2,c3⟩:=hS';go_simp⟩) ?_
   try simp only[pU]
   refine tH 30 186 (.agg X1.toArray) rfl rfl (by kernel_rfl) (HIB.out _ HQ6.out) (yieldsIf_load_mid (by rfl) 27 (.tmp 27) rfl b27 0 rfl X1 _ (fun u hu=>hu.2.2) Tryz.underlying27 rfl hiX1) ?_
   try simp only[pU]
   refine tH 31 187 (.slice (some ⟨x1,0,none⟩) 32 d2) rfl rfl (by kernel_rfl) (HIB.out _ HQ6.out) (Or.inl ⟨by rfl,fun w' hS'=>by obtain ⟨c1,c2,c3⟩:=hS';go_simp⟩) ?_
   try simp only[pU]
   refine tH 32 188 (.slice (some ⟨x1,16,none⟩) 16 (d2-16)) rfl rfl (by kernel_rfl) (HIB.out _ HQ6.out) (Or.inl ⟨by rfl,fun w' hS'=>by obtain ⟨c1,c2,c3⟩:=hS';go_simp⟩) ?_
   try simp only[pU]
   refine wpAnyH_ready (rs:=[33]) (by kernel_rfl) (by simp) ?_
   refine AllReadyH.cons rfl (fun KK hK=>?_) AllReadyH.nil
   go_simp
   refine (HB19.out _ ((HRv.out _ HQ6.out).2)).mono ?_
   intro e q7 hh
   obtain ⟨rfl,hb⟩:=hh.out
   have HQ7:Hid (R q7):=HRb.out _ _ HQ6.out hb
   clear hh hb
   go_wp2_with fail
   refine hK.out _ _ (HIB.out _ HQ7.out) (fun _=>?_)
   clear hK KK
   try simp only[pU]
   refine tH 34 190 (.bool true) rfl rfl (by kernel_rfl) (HIB.out _ HQ7.out) (Or.inl ⟨by rfl,fun w' hS'=>by obtain ⟨c1,c2,c3⟩:=hS';go_simp⟩) ?_
   try simp only[pU]
   refine tH 35 191 (.bool true) rfl rfl (by kernel_rfl) (HIB.out _ HQ7.out) (Or.inl ⟨by rfl,fun w' hS'=>by obtain ⟨c1,c2,c3⟩:=hS';go_simp⟩) ?_
   try simp only[pU]
   refine wpAnyH_ready (rs:=[36]) (by kernel_rfl) (by simp) ?_
   refine AllReadyH.cons rfl (fun KK hK=>?_) AllReadyH.nil
   rw[if_pos (by rfl)]
   go_simp
   refine hK.out _ _ (HIB.out _ HQ7.out) (fun _=>?_)
   clear hK KK
   try simp only[pU]
   refine wpAnyH_done (by kernel_rfl) ?_ _
   refine NoPanic.normal ?_
   go_wp2
   go_ret
   exact ⟨rfl,(HRv.out _ HQ7.out).1⟩
  ·as_aux_lemma=>
   have hrem:((T:Nat):Int).tmod 17=12:=by rw[Int.tmod_eq_emod_of_nonneg (by omega),←HTT.out,hq,show thK 2=11 from rfl];omega
   have hF:=HQF.out
   rw[if_neg (by omega),if_neg (by omega)] at hF
   have hkz:Hid (ks.length=kz∧kz=2*(16+8*t)∧t<3∧(4+2*t=4∨4+2*t=6∨4+2*t=8)):=by
    have h3:=HSS.out.2.2
    exact ⟨HKB.out.2,by rw[←HKZ.out,hq,Q7 t (thK 2) (by decide)];show 2*(16+8*t)+0=_;omega,h3,by omega⟩
   obtain ⟨hz,HHZ⟩:∃ z,Hid (16+8*t=z):=⟨_,rfl⟩
   have hfz:((kz:Nat):Int).tdiv 2=((hz:Nat):Int)∧IntKind.i64.wrap ((hz:Nat):Int)=((hz:Nat):Int):=by
    have h2:=hkz.out;have h3:=HHZ.out
    rw[Int.tdiv_eq_ediv_of_nonneg (by omega)]
    exact ⟨by omega,by rw[IntKind.wrap_i64];omega⟩
   obtain ⟨hf1,hf2⟩:=hfz
   obtain ⟨tv,HTV⟩:∃ z,Hid (Q1 t (ks.drop hz) (plV true s)=z):=⟨_,rfl⟩
   have hE:=Zcl hF s L HLB.out.1 tv (by rw[HHZ.out];exact HTV.out.symm)
   rw[HU.out,HHZ.out] at hE
   have HUL:Hid (Zd U):=by rw[←HU.out,hF s L];exact Nj _ _ _ _
   have hdb:dbN tv 1=Fld.TX tv:=rfl
   rw[hdb] at hE
   clear hdb
   obtain ⟨e0,HE0⟩:∃ z,Hid (Q1 t (ks.take hz) (cutV L 0 ^^^ tv)=z):=⟨_,rfl⟩
   obtain ⟨dv,HDV⟩:∃ z,Hid (Fld.TX tv=z):=⟨_,rfl⟩
   rw[HDV.out] at hE
   obtain ⟨e1,HE1⟩:∃ z,Hid (Q1 t (ks.take hz) (cutV L 1 ^^^ dv)=z):=⟨_,rfl⟩
   rw[HE0.out,HE1.out] at hE
   obtain ⟨TL,HTL,HLTL,hiTL⟩:=Xy (tv)
   obtain ⟨A0,HA0,HLA0,hiA0⟩:=Xy (cutV L 0 ^^^ tv)
   obtain ⟨E0,HEE0,HLE0,hiE0⟩:=Xy (e0)
   obtain ⟨DL,HDL,HLDL,hiDL⟩:=Xy (dv)
   obtain ⟨A1,HA1,HLA1,hiA1⟩:=Xy (cutV L 1 ^^^ dv)
   obtain ⟨E1,HEE1,HLE1,hiE1⟩:=Xy (e1)
   obtain ⟨X0,HX0,HLX0,hiX0⟩:=Xy (e0 ^^^ tv)
   obtain ⟨X1,HX1,HLX1,hiX1⟩:=Xy (e1 ^^^ dv)
   have HTT2:Hid (TL=Fd.BL (Q1 t (ks.drop hz) (plV true s))):=by rw[HTV.out];exact HTL.out
   have HE0b:Hid (E0=Fd.BL (Q1 t (ks.take hz) (cutV L 0 ^^^ tv))):=by rw[HE0.out];exact HEE0.out
   have HE1b:Hid (E1=Fd.BL (Q1 t (ks.take hz) (cutV L 1 ^^^ dv))):=by rw[HE1.out];exact HEE1.out
   have hkc:Hid (kz≤kd∧hz≤kz):=by
    have hv:=(HY1.out _ HYw.out).2.2.2.1
    obtain ⟨_,_,e9,h9,_⟩:=hv
    injection e9 with _ e8 e9
    have:=hkz.out;have:=HHZ.out
    show _∧_
    omega
   obtain ⟨ka,kc,hsK⟩:∃ ka kc,sliced ky hz kz kd 1=.slice ka hz kc:=by
    have:=hkz.out;have:=HHZ.out
    unfold sliced
    rw[show kz-hz=hz by omega]
    exact ⟨_,_,rfl⟩
   obtain ⟨ka0,kc0,hsK0⟩:∃ ka kc,sliced ky 0 hz kd 1=.slice ka hz kc:=⟨_,_,rfl⟩
   have hk1:∀ u:World,(Instr.slice 22 (.slice ky kz kd) (some (.int .i64 (hz:Nat))) none none).run Tryz.prog u=.ok (.slice ka hz kc) u:=fun u=>by
    rw[Jn u ky kz kd hz hkc.out.2 hkc.out.1,hsK]
   have hk0:∀ u:World,(Instr.slice 22 (.slice ky kz kd) none (some (.int .i64 (hz:Nat))) none).run Tryz.prog u=.ok (.slice ka0 hz kc0) u:=fun u=>by
    rw[Vh u ky kz kd hz (Nat.le_trans hkc.out.2 hkc.out.1),hsK0]
   have HVK:Hid (∀ u,Zf u (.slice ky kz kd) ks→Zf u (.slice ka hz kc) (ks.drop hz)∧Zf u (.slice ka0 hz kc0) (ks.take hz)):=fun u hu=>by
    have v1:=Yv hu hz kz hkc.out.2 (Nat.le_refl _)
    have v2:=Yv hu 0 hz (Nat.zero_le _) hkc.out.2
    rw[hsK,List.take_of_length_le (by rw[List.length_drop,hkz.out.1];exact Nat.le_refl _)] at v1
    rw[hsK0,List.drop_zero,Nat.sub_zero] at v2
    exact ⟨v1,v2⟩
   have HKL:Hid ((ks.drop hz).length=4*(4+2*t)∧(ks.take hz).length=4*(4+2*t)):=by
    have:=hkz.out;have:=HHZ.out
    rw[List.length_drop,List.length_take]
    show _∧_
    omega
   have H20z:Hid (∀ u,Q u→Calls Tryz.prog 20 #[.slice ka hz kc,.agg AT.toArray] u fun e w'=>Hid (e=.returned (.tuple #[.agg TL.toArray,.bool true])∧Below u.heap.size u w')):=fun u hu=>by
    have z:=HY1.out u hu
    have p:=H20.out u _ (ks.drop hz) (4+2*t) (plV true s) z.1 hkz.out.2.2.2 HKL.out.1 ((HVK.out u z.2.2.2.1).1) (Xi HKB.out.1 hz)
    rw[show 4+2*t+6=10+2*t by omega] at p
    rw[HAT.out,HTT2.out]
    exact p
   have H20a:Hid (∀ u,Q u→Calls Tryz.prog 20 #[.slice ka0 hz kc0,.agg A0.toArray] u fun e w'=>Hid (e=.returned (.tuple #[.agg E0.toArray,.bool true])∧Below u.heap.size u w')):=fun u hu=>by
    have z:=HY1.out u hu
    have p:=H20.out u _ (ks.take hz) (4+2*t) (cutV L 0 ^^^ tv) z.1 hkz.out.2.2.2 HKL.out.2 ((HVK.out u z.2.2.2.1).2) (Yr HKB.out.1 hz)
    rw[show 4+2*t+6=10+2*t by omega] at p
    rw[HA0.out,HE0b.out]
    exact p
   have H20b:Hid (∀ u,Q u→Calls Tryz.prog 20 #[.slice ka0 hz kc0,.agg A1.toArray] u fun e w'=>Hid (e=.returned (.tuple #[.agg E1.toArray,.bool true])∧Below u.heap.size u w')):=fun u hu=>by
    have z:=HY1.out u hu
    have p:=H20.out u _ (ks.take hz) (4+2*t) (cutV L 1 ^^^ dv) z.1 hkz.out.2.2.2 HKL.out.2 ((HVK.out u z.2.2.2.1).2) (Yr HKB.out.1 hz)
    rw[show 4+2*t+6=10+2*t by omega] at p
    rw[HA1.out,HE1b.out]
    exact p
   have H22a:Hid (∀ u,Calls Tryz.prog 22 #[.agg P0.toArray,.agg TL.toArray] u fun e w'=>Hid (e=.returned (.agg A0.toArray)∧Below u.heap.size u w')):=fun u=>by
    rw[HP0.out,HTL.out,HA0.out]
    exact (Fd.Jg _ _ u).mono fun e w' hh=>hh
   have H22b:Hid (∀ u,Calls Tryz.prog 22 #[.agg P1.toArray,.agg DL.toArray] u fun e w'=>Hid (e=.returned (.agg A1.toArray)∧Below u.heap.size u w')):=fun u=>by
    rw[HP1.out,HDL.out,HA1.out]
    exact (Fd.Jg _ _ u).mono fun e w' hh=>hh
   have H22c:Hid (∀ u,Calls Tryz.prog 22 #[.agg E0.toArray,.agg TL.toArray] u fun e w'=>Hid (e=.returned (.agg X0.toArray)∧Below u.heap.size u w')):=fun u=>by
    rw[HEE0.out,HTL.out,HX0.out]
    exact (Fd.Jg _ _ u).mono fun e w' hh=>hh
   have H22d:Hid (∀ u,Calls Tryz.prog 22 #[.agg E1.toArray,.agg DL.toArray] u fun e w'=>Hid (e=.returned (.agg X1.toArray)∧Below u.heap.size u w')):=fun u=>by
    rw[HEE1.out,HDL.out,HX1.out]
    exact (Fd.Jg _ _ u).mono fun e w' hh=>hh
   have H24:Hid (∀ u,Calls Tryz.prog 24 #[.agg TL.toArray] u fun e w'=>Hid (e=.returned (.agg DL.toArray)∧Below u.heap.size u w')):=fun u=>by
    rw[HTL.out,HDL.out,←HDV.out]
    exact (Fd.Hq tv u).mono fun e w' hh=>hh
   have HA19:Hid (∀ u,Zf u (.slice (some ⟨x1,0,none⟩) 32 d2) U→Calls Tryz.prog 19 #[.slice (some ⟨x1,0,none⟩) 16 d2] u fun e w'=>Hid (e=.returned (.agg X0.toArray)∧Below u.heap.size u w')):=fun u hu=>by
    have p:=H19.out u HUL.out hu
    rw[hE.2.1] at p
    rw[HX0.out];exact p
   have HB19:Hid (∀ u,Zf u (.slice (some ⟨x1,0,none⟩) 32 d2) U→Calls Tryz.prog 19 #[.slice (some ⟨x1,16,none⟩) 16 (d2-16)] u fun e w'=>Hid (e=.returned (.agg X1.toArray)∧Below u.heap.size u w')):=fun u hu=>by
    have p:=H19b.out u HUL.out hu
    rw[hE.2.2] at p
    rw[HX1.out];exact p
   have hEQX0:∀ u:World,(Op.equalIn 10000 27 (.agg X0.toArray) (.agg X0.toArray)).run Tryz.prog u=.ok true u:=fun u=>by rw[HX0.out];exact Fd.Jj _ u
   have hEQX1:∀ u:World,(Op.equalIn 10000 27 (.agg X1.toArray) (.agg X1.toArray)).run Tryz.prog u=.ok true u:=fun u=>by rw[HX1.out];exact Fd.Jj _ u
   clear hq hE hF
   go_upto_region 29 with fail
   clear d0
   go_cut [31,32] from 192 to 201 (fun v1 v2 wx=>∃ bb:Nat,v1=.pointer (some ⟨bb,0,none⟩)∧v2=.bool true∧Hid (Q wx∧Bx wx bb 27 TL))
   case first=>as_aux_lemma=>
    have HS0:Hid (Q w14.drew):=HYb.out _ _ HYw.out (Below.refl _ _).drew
    have HIB:Hid (∀ u,Q u→u.rangeAt a 0 AT):=fun u hu=>(HY1.out u hu).2.2.1.range
    have hS0:=HIB.out _ HS0.out
    refine wp_region_noPanic ?_
    refine wp_region_held_drew (S:=(fun u=>u.rangeAt a 0 AT)) (by kernel_rfl) (hS0) (fun _=>?_)
    refine tH 0 193 (.slice ky kz kd) rfl rfl (by kernel_rfl) (hS0) (Or.inl ⟨by rfl,fun w' hS'=>by go_simp⟩) ?_
    try simp only[pU]
    refine tH 1 194 (.slice ky kz kd) rfl rfl (by kernel_rfl) (hS0) (Or.inl ⟨by rfl,fun w' hS'=>by go_simp⟩) ?_
    try simp only[pU]
    refine tH 2 195 (.int .i64 (kz:Nat)) rfl rfl (by kernel_rfl) (hS0) (Or.inl ⟨by rfl,fun w' hS'=>by go_simp⟩) ?_
    try simp only[pU]
    refine tH 3 196 (.int .i64 (hz:Nat)) rfl rfl (by kernel_rfl) (hS0) (Or.inl ⟨by rfl,fun w' hS'=>by go_simp⟩) ?_
    try simp only[pU]
    refine tH 4 197 (.slice ka hz kc) rfl rfl (by kernel_rfl) (hS0) (Or.inl ⟨by rfl,fun w' hS'=>by go_simp⟩) ?_
    try simp only[pU]
    refine tH 5 198 (.agg AT.toArray) rfl rfl (by kernel_rfl) (hS0) (yieldsIf_load_mid (by rfl) 27 (.tmp 12) rfl a 0 rfl AT _ (fun u hu=>hu) Tryz.underlying27 rfl hiA) ?_
    try simp only[pU]
    refine wpAnyH_ready (rs:=[6,10]) (by kernel_rfl) (by simp) ?_
    refine AllReadyH.cons rfl (fun KK hK=>?_) (AllReadyH.cons rfl (fun KK hK=>?_) AllReadyH.nil)
    ·skip
     go_simp
     refine (H20z.out _ HS0.out).mono ?_
     intro e q8 hh
     obtain ⟨rfl,hb⟩:=hh.out
     have HQ8:Hid (Q q8):=HYb.out _ _ HS0.out hb
     clear hh hb
     go_wp2_with fail
     refine hK.out _ _ (HIB.out _ HQ8.out) (fun _=>?_)
     clear hK KK
     try simp only[pU]
     refine tH 7 192 (.tuple #[.agg TL.toArray,.bool true]) rfl rfl (by kernel_rfl) (HIB.out _ HQ8.out) (Or.inl ⟨by rfl,fun w' hS'=>by go_simp⟩) ?_
     try simp only[pU]
     refine tH 8 200 (.agg TL.toArray) rfl rfl (by kernel_rfl) (HIB.out _ HQ8.out) (Or.inl ⟨by rfl,fun w' hS'=>by go_simp⟩) ?_
     try simp only[pU]
     refine tH 9 201 (.bool true) rfl rfl (by kernel_rfl) (HIB.out _ HQ8.out) (Or.inl ⟨by rfl,fun w' hS'=>by go_simp⟩) ?_
     try simp only[pU]
     refine wpAnyH_ready (rs:=[10]) (by kernel_rfl) (by simp) ?_
     refine AllReadyH.cons rfl (fun KK hK=>?_) AllReadyH.nil
     refine Yb rfl 31 rfl rfl ?_
     intro q9 b109 hu hbb
     have hb:Below (q8).heap.size (q8) q9:=by rw[hu.out];exact (Below.refl _ _).alloc (Nat.le_refl _) _
     have HQ9:Hid (Q q9):=HYb.out _ _ HQ8.out hb
     have HZ9:Hid (Bx q9 b109 27 ZZ∧(q8).heap.size≤b109∧Below (q8).heap.size (q8) q9):=⟨by rw[hu.out,hbb.out];exact Bx.new _ 27 ZZ,by rw[hbb.out];exact Nat.le_refl _,hb⟩
     clear hu hbb hb
     refine hK.out _ _ (HIB.out _ HQ9.out) (fun _=>?_)
     clear hK KK
     try simp only[pU]
     refine wpAnyH_ready (rs:=[11]) (by kernel_rfl) (by simp) ?_
     refine AllReadyH.cons rfl (fun KK hK=>?_) AllReadyH.nil
     refine Zz rfl 27 (.tmp 31) (.tmp 200) rfl ZZ TL b109 rfl rfl HZ9.out.1 (by rw[HLTL.out.1];rfl) (by rw[HLTL.out.1];kernel_rfl) HLTL.out.2 ?_
     intro u9 HB9 HG9
     have H9:Hid (Q u9):=HYb.out _ _ HQ8.out (HZ9.out.2.2.trans (Zm HG9.out HZ9.out.2.2.size HZ9.out.2.1))
     refine hK.out _ _ (HIB.out _ H9.out) (fun _=>?_)
     clear hK KK
     try simp only[pU]
     refine wpAnyH_ready (rs:=[12]) (by kernel_rfl) (by simp) ?_
     refine AllReadyH.cons rfl (fun KK hK=>?_) AllReadyH.nil
     rw[if_pos (by rfl)]
     go_simp
     refine hK.out _ _ (HIB.out _ H9.out) (fun _=>?_)
     clear hK KK
     try simp only[pU]
     refine wpAnyH_done (by kernel_rfl) ?_ _
     refine NoPanic.normal ?_
     go_wp2_with fail
     go_meet
     exact ⟨b109,rfl,rfl,H9.out,HB9.out⟩
    ·skip
     refine Yb rfl 31 rfl rfl ?_
     intro q10 b110 hu hbb
     have hb:Below (w14.drew).heap.size (w14.drew) q10:=by rw[hu.out];exact (Below.refl _ _).alloc (Nat.le_refl _) _
     have HQ10:Hid (Q q10):=HYb.out _ _ HS0.out hb
     have HZ10:Hid (Bx q10 b110 27 ZZ∧(w14.drew).heap.size≤b110∧Below (w14.drew).heap.size (w14.drew) q10):=⟨by rw[hu.out,hbb.out];exact Bx.new _ 27 ZZ,by rw[hbb.out];exact Nat.le_refl _,hb⟩
     clear hu hbb hb
     refine hK.out _ _ (HIB.out _ HQ10.out) (fun _=>?_)
     clear hK KK
     try simp only[pU]
     refine wpAnyH_ready (rs:=[6]) (by kernel_rfl) (by simp) ?_
     refine AllReadyH.cons rfl (fun KK hK=>?_) AllReadyH.nil
     go_simp
     refine (H20z.out _ HQ10.out).mono ?_
     intro e q11 hh
     obtain ⟨rfl,hb⟩:=hh.out
     have HQ11:Hid (Q q11):=HYb.out _ _ HQ10.out hb
     have HZ11:Hid (Bx q11 b110 27 ZZ∧(w14.drew).heap.size≤b110∧Below (w14.drew).heap.size (w14.drew) q11):=⟨HZ10.out.1.below hb,HZ10.out.2.1,HZ10.out.2.2.trans (hb.mono HZ10.out.2.2.size)⟩
     clear hh hb
     go_wp2_with fail
     refine hK.out _ _ (HIB.out _ HQ11.out) (fun _=>?_)
     clear hK KK
     try simp only[pU]
     refine tH 7 192 (.tuple #[.agg TL.toArray,.bool true]) rfl rfl (by kernel_rfl) (HIB.out _ HQ11.out) (Or.inl ⟨by rfl,fun w' hS'=>by go_simp⟩) ?_
     try simp only[pU]
     refine tH 8 200 (.agg TL.toArray) rfl rfl (by kernel_rfl) (HIB.out _ HQ11.out) (Or.inl ⟨by rfl,fun w' hS'=>by go_simp⟩) ?_
     try simp only[pU]
     refine tH 9 201 (.bool true) rfl rfl (by kernel_rfl) (HIB.out _ HQ11.out) (Or.inl ⟨by rfl,fun w' hS'=>by go_simp⟩) ?_
     try simp only[pU]
     refine wpAnyH_ready (rs:=[11]) (by kernel_rfl) (by simp) ?_
     refine AllReadyH.cons rfl (fun KK hK=>?_) AllReadyH.nil
     refine Zz rfl 27 (.tmp 31) (.tmp 200) rfl ZZ TL b110 rfl rfl HZ11.out.1 (by rw[HLTL.out.1];rfl) (by rw[HLTL.out.1];kernel_rfl) HLTL.out.2 ?_
     intro u9 HB9 HG9
     have H9:Hid (Q u9):=HYb.out _ _ HS0.out (HZ11.out.2.2.trans (Zm HG9.out HZ11.out.2.2.size HZ11.out.2.1))
     refine hK.out _ _ (HIB.out _ H9.out) (fun _=>?_)
     clear hK KK
     try simp only[pU]
     refine wpAnyH_ready (rs:=[12]) (by kernel_rfl) (by simp) ?_
     refine AllReadyH.cons rfl (fun KK hK=>?_) AllReadyH.nil
     rw[if_pos (by rfl)]
     go_simp
     refine hK.out _ _ (HIB.out _ H9.out) (fun _=>?_)
     clear hK KK
     try simp only[pU]
     refine wpAnyH_done (by kernel_rfl) ?_ _
     refine NoPanic.normal ?_
     go_wp2_with fail
     go_meet
     exact ⟨b110,rfl,rfl,H9.out,HB9.out⟩
   case rest=>
   obtain ⟨b31,rfl,rfl,HR29⟩:=hcut
   obtain ⟨w29,rfl⟩:∃ x,x=wc:=⟨_,rfl⟩
   obtain ⟨Q2,HW0⟩:∃ Q2:World→Prop,Hid (Q2=fun u=>Q u∧Bx u b31 27 TL):=⟨_,rfl⟩
   have HWb:Hid (∀ u u',Q2 u→Below u.heap.size u u'→Q2 u'):=by rw[HW0.out];exact fun u u' h hb=>⟨HYb.out _ _ h.1 hb,h.2.below hb⟩
   have HW1:Hid (∀ u,Q2 u→Q u∧Bx u b31 27 TL):=by rw[HW0.out];exact fun u h=>h
   have HWw:Hid (Q2 w29):=by rw[HW0.out];exact HR29.out
   clear HR29 HYw
   go_upto_region 30 with fail
   go_cut [33,34] from 202 to 213 (fun v1 v2 wx=>∃ bb:Nat,v1=.pointer (some ⟨bb,0,none⟩)∧v2=.bool true∧Hid (Q2 wx∧Bx wx bb 27 E0))
   case first=>as_aux_lemma=>
    have HS0:Hid (Q2 w29.drew):=HWb.out _ _ HWw.out (Below.refl _ _).drew
    have HIB:Hid (∀ u,Q2 u→u.rangeAt p0 0 P0∧u.rangeAt b31 0 TL):=fun u hu=>⟨(HY1.out u (HW1.out u hu).1).2.2.2.2.1.range,(HW1.out u hu).2.range⟩
    have hS0:=HIB.out _ HS0.out
    refine wp_region_noPanic ?_
    refine wp_region_held_drew (S:=(fun u=>u.rangeAt p0 0 P0∧u.rangeAt b31 0 TL)) (by kernel_rfl) (hS0) (fun _=>?_)
    refine tH 0 203 (.slice ky kz kd) rfl rfl (by kernel_rfl) (hS0) (Or.inl ⟨by rfl,fun w' hS'=>by obtain ⟨c1,c2⟩:=hS';go_simp⟩) ?_
    try simp only[pU]
    refine tH 1 204 (.slice ky kz kd) rfl rfl (by kernel_rfl) (hS0) (Or.inl ⟨by rfl,fun w' hS'=>by obtain ⟨c1,c2⟩:=hS';go_simp⟩) ?_
    try simp only[pU]
    refine tH 2 205 (.int .i64 (kz:Nat)) rfl rfl (by kernel_rfl) (hS0) (Or.inl ⟨by rfl,fun w' hS'=>by obtain ⟨c1,c2⟩:=hS';go_simp⟩) ?_
    try simp only[pU]
    refine tH 3 206 (.int .i64 (hz:Nat)) rfl rfl (by kernel_rfl) (hS0) (Or.inl ⟨by rfl,fun w' hS'=>by obtain ⟨c1,c2⟩:=hS';go_simp⟩) ?_
    try simp only[pU]
    refine tH 4 207 (.slice ka0 hz kc0) rfl rfl (by kernel_rfl) (hS0) (Or.inl ⟨by rfl,fun w' hS'=>by obtain ⟨c1,c2⟩:=hS';go_simp⟩) ?_
    try simp only[pU]
    refine tH 5 208 (.agg P0.toArray) rfl rfl (by kernel_rfl) (hS0) (yieldsIf_load_mid (by rfl) 27 (.tmp 15) rfl p0 0 rfl P0 _ (fun u hu=>hu.1) Tryz.underlying27 rfl hi0) ?_
    try simp only[pU]
    refine tH 6 209 (.agg TL.toArray) rfl rfl (by kernel_rfl) (hS0) (yieldsIf_load_mid (by rfl) 27 (.tmp 31) rfl b31 0 rfl TL _ (fun u hu=>hu.2) Tryz.underlying27 rfl hiTL) ?_
    try simp only[pU]
    refine wpAnyH_ready (rs:=[7,12]) (by kernel_rfl) (by simp) ?_
    refine AllReadyH.cons rfl (fun KK hK=>?_) (AllReadyH.cons rfl (fun KK hK=>?_) AllReadyH.nil)
    ·skip
     go_simp
     refine (H22a.out _).mono ?_
     intro e q12 hh
     obtain ⟨rfl,hb⟩:=hh.out
     have HQ12:Hid (Q2 q12):=HWb.out _ _ HS0.out hb
     clear hh hb
     go_wp2_with fail
     refine hK.out _ _ (HIB.out _ HQ12.out) (fun _=>?_)
     clear hK KK
     try simp only[pU]
     refine wpAnyH_ready (rs:=[8,12]) (by kernel_rfl) (by simp) ?_
     refine AllReadyH.cons rfl (fun KK hK=>?_) (AllReadyH.cons rfl (fun KK hK=>?_) AllReadyH.nil)
     ·skip
      go_simp
      refine (H20a.out _ ((HW1.out _ HQ12.out).1)).mono ?_
      intro e q13 hh
      obtain ⟨rfl,hb⟩:=hh.out
      have HQ13:Hid (Q2 q13):=HWb.out _ _ HQ12.out hb
      clear hh hb
      go_wp2_with fail
      refine hK.out _ _ (HIB.out _ HQ13.out) (fun _=>?_)
      clear hK KK
      try simp only[pU]
      refine tH 9 202 (.tuple #[.agg E0.toArray,.bool true]) rfl rfl (by kernel_rfl) (HIB.out _ HQ13.out) (Or.inl ⟨by rfl,fun w' hS'=>by obtain ⟨c1,c2⟩:=hS';go_simp⟩) ?_
      try simp only[pU]
      refine tH 10 212 (.agg E0.toArray) rfl rfl (by kernel_rfl) (HIB.out _ HQ13.out) (Or.inl ⟨by rfl,fun w' hS'=>by obtain ⟨c1,c2⟩:=hS';go_simp⟩) ?_
      try simp only[pU]
      refine tH 11 213 (.bool true) rfl rfl (by kernel_rfl) (HIB.out _ HQ13.out) (Or.inl ⟨by rfl,fun w' hS'=>by obtain ⟨c1,c2⟩:=hS';go_simp⟩) ?_
      try simp only[pU]
      refine wpAnyH_ready (rs:=[12]) (by kernel_rfl) (by simp) ?_
      refine AllReadyH.cons rfl (fun KK hK=>?_) AllReadyH.nil
      refine Yb rfl 33 rfl rfl ?_
      intro q14 b114 hu hbb
      have hb:Below (q13).heap.size (q13) q14:=by rw[hu.out];exact (Below.refl _ _).alloc (Nat.le_refl _) _
      have HQ14:Hid (Q2 q14):=HWb.out _ _ HQ13.out hb
      have HZ14:Hid (Bx q14 b114 27 ZZ∧(q13).heap.size≤b114∧Below (q13).heap.size (q13) q14):=⟨by rw[hu.out,hbb.out];exact Bx.new _ 27 ZZ,by rw[hbb.out];exact Nat.le_refl _,hb⟩
      clear hu hbb hb
      refine hK.out _ _ (HIB.out _ HQ14.out) (fun _=>?_)
      clear hK KK
      try simp only[pU]
      refine wpAnyH_ready (rs:=[13]) (by kernel_rfl) (by simp) ?_
      refine AllReadyH.cons rfl (fun KK hK=>?_) AllReadyH.nil
      refine Zz rfl 27 (.tmp 33) (.tmp 212) rfl ZZ E0 b114 rfl rfl HZ14.out.1 (by rw[HLE0.out.1];rfl) (by rw[HLE0.out.1];kernel_rfl) HLE0.out.2 ?_
      intro u9 HB9 HG9
      have H9:Hid (Q2 u9):=HWb.out _ _ HQ13.out (HZ14.out.2.2.trans (Zm HG9.out HZ14.out.2.2.size HZ14.out.2.1))
      refine hK.out _ _ (HIB.out _ H9.out) (fun _=>?_)
      clear hK KK
      try simp only[pU]
      refine wpAnyH_ready (rs:=[14]) (by kernel_rfl) (by simp) ?_
      refine AllReadyH.cons rfl (fun KK hK=>?_) AllReadyH.nil
      rw[if_pos (by rfl)]
      go_simp
      refine hK.out _ _ (HIB.out _ H9.out) (fun _=>?_)
      clear hK KK
      try simp only[pU]
      refine wpAnyH_done (by kernel_rfl) ?_ _
      refine NoPanic.normal ?_
      go_wp2_with fail
      go_meet
      exact ⟨b114,rfl,rfl,H9.out,HB9.out⟩
     ·skip
      refine Yb rfl 33 rfl rfl ?_
      intro q15 b115 hu hbb
      have hb:Below (q12).heap.size (q12) q15:=by rw[hu.out];exact (Below.refl _ _).alloc (Nat.le_refl _) _
      have HQ15:Hid (Q2 q15):=HWb.out _ _ HQ12.out hb
      have HZ15:Hid (Bx q15 b115 27 ZZ∧(q12).heap.size≤b115∧Below (q12).heap.size (q12) q15):=⟨by rw[hu.out,hbb.out];exact Bx.new _ 27 ZZ,by rw[hbb.out];exact Nat.le_refl _,hb⟩
      clear hu hbb hb
      refine hK.out _ _ (HIB.out _ HQ15.out) (fun _=>?_)
      clear hK KK
      try simp only[pU]
      refine wpAnyH_ready (rs:=[8]) (by kernel_rfl) (by simp) ?_
      refine AllReadyH.cons rfl (fun KK hK=>?_) AllReadyH.nil
      go_simp
      refine (H20a.out _ ((HW1.out _ HQ15.out).1)).mono ?_
      intro e q16 hh
      obtain ⟨rfl,hb⟩:=hh.out
      have HQ16:Hid (Q2 q16):=HWb.out _ _ HQ15.out hb
      have HZ16:Hid (Bx q16 b115 27 ZZ∧(q12).heap.size≤b115∧Below (q12).heap.size (q12) q16):=⟨HZ15.out.1.below hb,HZ15.out.2.1,HZ15.out.2.2.trans (hb.mono HZ15.out.2.2.size)⟩
      clear hh hb
      go_wp2_with fail
      refine hK.out _ _ (HIB.out _ HQ16.out) (fun _=>?_)
      clear hK KK
      try simp only[pU]
      refine tH 9 202 (.tuple #[.agg E0.toArray,.bool true]) rfl rfl (by kernel_rfl) (HIB.out _ HQ16.out) (Or.inl ⟨by rfl,fun w' hS'=>by obtain ⟨c1,c2⟩:=hS';go_simp⟩) ?_
      try simp only[pU]
      refine tH 10 212 (.agg E0.toArray) rfl rfl (by kernel_rfl) (HIB.out _ HQ16.out) (Or.inl ⟨by rfl,fun w' hS'=>by obtain ⟨c1,c2⟩:=hS';go_simp⟩) ?_
      try simp only[pU]
      refine tH 11 213 (.bool true) rfl rfl (by kernel_rfl) (HIB.out _ HQ16.out) (Or.inl ⟨by rfl,fun w' hS'=>by obtain ⟨c1,c2⟩:=hS';go_simp⟩) ?_
      try simp only[pU]
      refine wpAnyH_ready (rs:=[13]) (by kernel_rfl) (by simp) ?_
      refine AllReadyH.cons rfl (fun KK hK=>?_) AllReadyH.nil
      refine Zz rfl 27 (.tmp 33) (.tmp 212) rfl ZZ E0 b115 rfl rfl HZ16.out.1 (by rw[HLE0.out.1];rfl) (by rw[HLE0.out.1];kernel_rfl) HLE0.out.2 ?_
      intro u9 HB9 HG9
      have H9:Hid (Q2 u9):=HWb.out _ _ HQ12.out (HZ16.out.2.2.trans (Zm HG9.out HZ16.out.2.2.size HZ16.out.2.1))
      refine hK.out _ _ (HIB.out _ H9.out) (fun _=>?_)
      clear hK KK
      try simp only[pU]
      refine wpAnyH_ready (rs:=[14]) (by kernel_rfl) (by simp) ?_
      refine AllReadyH.cons rfl (fun KK hK=>?_) AllReadyH.nil
      rw[if_pos (by rfl)]
      go_simp
      refine hK.out _ _ (HIB.out _ H9.out) (fun _=>?_)
      clear hK KK
      try simp only[pU]
      refine wpAnyH_done (by kernel_rfl) ?_ _
      refine NoPanic.normal ?_
      go_wp2_with fail
      go_meet
      exact ⟨b115,rfl,rfl,H9.out,HB9.out⟩
    ·skip
     refine Yb rfl 33 rfl rfl ?_
     intro q17 b117 hu hbb
     have hb:Below (w29.drew).heap.size (w29.drew) q17:=by rw[hu.out];exact (Below.refl _ _).alloc (Nat.le_refl _) _
     have HQ17:Hid (Q2 q17):=HWb.out _ _ HS0.out hb
     have HZ17:Hid (Bx q17 b117 27 ZZ∧(w29.drew).heap.size≤b117∧Below (w29.drew).heap.size (w29.drew) q17):=⟨by rw[hu.out,hbb.out];exact Bx.new _ 27 ZZ,by rw[hbb.out];exact Nat.le_refl _,hb⟩
     clear hu hbb hb
     refine hK.out _ _ (HIB.out _ HQ17.out) (fun _=>?_)
     clear hK KK
     try simp only[pU]
     refine wpAnyH_ready (rs:=[7]) (by kernel_rfl) (by simp) ?_
     refine AllReadyH.cons rfl (fun KK hK=>?_) AllReadyH.nil
     go_simp
     refine (H22a.out _).mono ?_
     intro e q18 hh
     obtain ⟨rfl,hb⟩:=hh.out
     have HQ18:Hid (Q2 q18):=HWb.out _ _ HQ17.out hb
     have HZ18:Hid (Bx q18 b117 27 ZZ∧(w29.drew).heap.size≤b117∧Below (w29.drew).heap.size (w29.drew) q18):=⟨HZ17.out.1.below hb,HZ17.out.2.1,HZ17.out.2.2.trans (hb.mono HZ17.out.2.2.size)⟩
     clear hh hb
     go_wp2_with fail
     refine hK.out _ _ (HIB.out _ HQ18.out) (fun _=>?_)
     clear hK KK
     try simp only[pU]
     refine wpAnyH_ready (rs:=[8]) (by kernel_rfl) (by simp) ?_
     refine AllReadyH.cons rfl (fun KK hK=>?_) AllReadyH.nil
     go_simp
     refine (H20a.out _ ((HW1.out _ HQ18.out).1)).mono ?_
     intro e q19 hh
     obtain ⟨rfl,hb⟩:=hh.out
     have HQ19:Hid (Q2 q19):=HWb.out _ _ HQ18.out hb
     have HZ19:Hid (Bx q19 b117 27 ZZ∧(w29.drew).heap.size≤b117∧Below (w29.drew).heap.size (w29.drew) q19):=⟨HZ18.out.1.below hb,HZ18.out.2.1,HZ18.out.2.2.trans (hb.mono HZ18.out.2.2.size)⟩
     clear hh hb
     go_wp2_with fail
     refine hK.out _ _ (HIB.out _ HQ19.out) (fun _=>?_)
     clear hK KK
     try simp only[pU]
     refine tH 9 202 (.tuple #[.agg E0.toArray,.bool true]) rfl rfl (by kernel_rfl) (HIB.out _ HQ19.out) (Or.inl ⟨by rfl,fun w' hS'=>by obtain ⟨c1,c2⟩:=hS';go_simp⟩) ?_
     try simp only[pU]
     refine tH 10 212 (.agg E0.toArray) rfl rfl (by kernel_rfl) (HIB.out _ HQ19.out) (Or.inl ⟨by rfl,fun w' hS'=>by obtain ⟨c1,c2⟩:=hS';go_simp⟩) ?_
     try simp only[pU]
     refine tH 11 213 (.bool true) rfl rfl (by kernel_rfl) (HIB.out _ HQ19.out) (Or.inl ⟨by rfl,fun w' hS'=>by obtain ⟨c1,c2⟩:=hS';go_simp⟩) ?_
     try simp only[pU]
     refine wpAnyH_ready (rs:=[13]) (by kernel_rfl) (by simp) ?_
     refine AllReadyH.cons rfl (fun KK hK=>?_) AllReadyH.nil
     refine Zz rfl 27 (.tmp 33) (.tmp 212) rfl ZZ E0 b117 rfl rfl HZ19.out.1 (by rw[HLE0.out.1];rfl) (by rw[HLE0.out.1];kernel_rfl) HLE0.out.2 ?_
     intro u9 HB9 HG9
     have H9:Hid (Q2 u9):=HWb.out _ _ HS0.out (HZ19.out.2.2.trans (Zm HG9.out HZ19.out.2.2.size HZ19.out.2.1))
     refine hK.out _ _ (HIB.out _ H9.out) (fun _=>?_)
     clear hK KK
     try simp only[pU]
     refine wpAnyH_ready (rs:=[14]) (by kernel_rfl) (by simp) ?_
     refine AllReadyH.cons rfl (fun KK hK=>?_) AllReadyH.nil
     rw[if_pos (by rfl)]
     go_simp
     refine hK.out _ _ (HIB.out _ H9.out) (fun _=>?_)
     clear hK KK
     try simp only[pU]
     refine wpAnyH_done (by kernel_rfl) ?_ _
     refine NoPanic.normal ?_
     go_wp2_with fail
     go_meet
     exact ⟨b117,rfl,rfl,H9.out,HB9.out⟩
   case rest=>
   obtain ⟨b33,rfl,rfl,HR30⟩:=hcut
   obtain ⟨w30,rfl⟩:∃ x,x=wc:=⟨_,rfl⟩
   have HT30:Hid (Bx w30 b31 27 TL):=(HW1.out _ HR30.out.1).2
   go_upto_region 32 with (first
    | (refine wpList_load_mid (by rfl) 27 (.tmp 31) (by rfl) b31 0 (by rfl) TL _ (HT30.out).range Tryz.underlying27 rfl hiTL ?_)
    | (go_at_call 24;refine (H24.out _).mono ?_;intro e31 w31 hh;obtain ⟨rfl,hb⟩:=hh.out;have HY31:Hid (Q2 w31∧Bx w31 b33 27 E0):=⟨HWb.out _ _ HR30.out.1 hb,HR30.out.2.below hb⟩;clear hh hb)
    | (refine Ze (by rfl) 27 (.tmp 35) (.tmp 215) (by rfl) ZZ DL w31.heap.size (by rfl) (by rfl) (Bx.new w31 27 ZZ) (by rw[HLDL.out.1];rfl) (by rw[HLDL.out.1];kernel_rfl) HLDL.out.2 ?_;intro w32 hb3 hg3;have H32:Hid (Bx w32 w31.heap.size 27 DL∧Below w31.heap.size w31 w32):=⟨hb3,((Below.refl _ _).alloc (Nat.le_refl _) _).trans (Zm hg3 (by simp) (Nat.le_refl _))⟩;clear hb3 hg3))
   obtain ⟨b35,HB35⟩:∃ x,Hid (w31.heap.size=x):=⟨_,rfl⟩
   obtain ⟨Q3,HV0⟩:∃ Q3:World→Prop,Hid (Q3=fun u=>Q2 u∧Bx u b33 27 E0∧Bx u b35 27 DL):=⟨_,rfl⟩
   have HVb:Hid (∀ u u',Q3 u→Below u.heap.size u u'→Q3 u'):=by rw[HV0.out];exact fun u u' h hb=>⟨HWb.out _ _ h.1 hb,h.2.1.below hb,h.2.2.below hb⟩
   have HV1:Hid (∀ u,Q3 u→Q2 u∧Bx u b33 27 E0∧Bx u b35 27 DL):=by rw[HV0.out];exact fun u h=>h
   have HVw:Hid (Q3 w32):=by rw[HV0.out,←HB35.out];exact ⟨HWb.out _ _ HY31.out.1 H32.out.2,HY31.out.2.below H32.out.2,H32.out.1⟩
   rw[HB35.out]
   clear HB35 H32 HY31 HR30 HT30 HWw
   try simp only[Act.put]
   go_cut [36,37] from 216 to 227 (fun v1 v2 wx=>∃ bb:Nat,v1=.pointer (some ⟨bb,0,none⟩)∧v2=.bool true∧Hid (Q3 wx∧Bx wx bb 27 E1))
   case first=>as_aux_lemma=>
    have HS0:Hid (Q3 w32.drew):=HVb.out _ _ HVw.out (Below.refl _ _).drew
    have HIB:Hid (∀ u,Q3 u→u.rangeAt p1 0 P1∧u.rangeAt b35 0 DL):=fun u hu=>⟨(HY1.out u (HW1.out u (HV1.out u hu).1).1).2.2.2.2.2.1.range,(HV1.out u hu).2.2.range⟩
    have hS0:=HIB.out _ HS0.out
    refine wp_region_noPanic ?_
    refine wp_region_held_drew (S:=(fun u=>u.rangeAt p1 0 P1∧u.rangeAt b35 0 DL)) (by kernel_rfl) (hS0) (fun _=>?_)
    refine tH 0 217 (.slice ky kz kd) rfl rfl (by kernel_rfl) (hS0) (Or.inl ⟨by rfl,fun w' hS'=>by obtain ⟨c1,c2⟩:=hS';go_simp⟩) ?_
    try simp only[pU]
    refine tH 1 218 (.slice ky kz kd) rfl rfl (by kernel_rfl) (hS0) (Or.inl ⟨by rfl,fun w' hS'=>by obtain ⟨c1,c2⟩:=hS';go_simp⟩) ?_
    try simp only[pU]
    refine tH 2 219 (.int .i64 (kz:Nat)) rfl rfl (by kernel_rfl) (hS0) (Or.inl ⟨by rfl,fun w' hS'=>by obtain ⟨c1,c2⟩:=hS';go_simp⟩) ?_
    try simp only[pU]
    refine tH 3 220 (.int .i64 (hz:Nat)) rfl rfl (by kernel_rfl) (hS0) (Or.inl ⟨by rfl,fun w' hS'=>by obtain ⟨c1,c2⟩:=hS';go_simp⟩) ?_
    try simp only[pU]
    refine tH 4 221 (.slice ka0 hz kc0) rfl rfl (by kernel_rfl) (hS0) (Or.inl ⟨by rfl,fun w' hS'=>by obtain ⟨c1,c2⟩:=hS';go_simp⟩) ?_
    try simp only[pU]
    refine tH 5 222 (.agg P1.toArray) rfl rfl (by kernel_rfl) (hS0) (yieldsIf_load_mid (by rfl) 27 (.tmp 16) rfl p1 0 rfl P1 _ (fun u hu=>hu.1) Tryz.underlying27 rfl hi1) ?_
    try simp only[pU]
    refine tH 6 223 (.agg DL.toArray) rfl rfl (by kernel_rfl) (hS0) (yieldsIf_load_mid (by rfl) 27 (.tmp 35) rfl b35 0 rfl DL _ (fun u hu=>hu.2) Tryz.underlying27 rfl hiDL) ?_
    try simp only[pU]
    refine wpAnyH_ready (rs:=[7,12]) (by kernel_rfl) (by simp) ?_
    refine AllReadyH.cons rfl (fun KK hK=>?_) (AllReadyH.cons rfl (fun KK hK=>?_) AllReadyH.nil)
    ·skip
     go_simp
     refine (H22b.out _).mono ?_
     intro e q20 hh
     obtain ⟨rfl,hb⟩:=hh.out
     have HQ20:Hid (Q3 q20):=HVb.out _ _ HS0.out hb
     clear hh hb
     go_wp2_with fail
     refine hK.out _ _ (HIB.out _ HQ20.out) (fun _=>?_)
     clear hK KK
     try simp only[pU]
     refine wpAnyH_ready (rs:=[8,12]) (by kernel_rfl) (by simp) ?_
     refine AllReadyH.cons rfl (fun KK hK=>?_) (AllReadyH.cons rfl (fun KK hK=>?_) AllReadyH.nil)
     ·skip
      go_simp
      refine (H20b.out _ ((HW1.out _ (HV1.out _ HQ20.out).1).1)).mono ?_
      intro e q21 hh
      obtain ⟨rfl,hb⟩:=hh.out
      have HQ21:Hid (Q3 q21):=HVb.out _ _ HQ20.out hb
      clear hh hb
      go_wp2_with fail
      refine hK.out _ _ (HIB.out _ HQ21.out) (fun _=>?_)
      clear hK KK
      try simp only[pU]
      refine tH 9 216 (.tuple #[.agg E1.toArray,.bool true]) rfl rfl (by kernel_rfl) (HIB.out _ HQ21.out) (Or.inl ⟨by rfl,fun w' hS'=>by obtain ⟨c1,c2⟩:=hS';go_simp⟩) ?_
      try simp only[pU]
      refine tH 10 226 (.agg E1.toArray) rfl rfl (by kernel_rfl) (HIB.out _ HQ21.out) (Or.inl ⟨by rfl,fun w' hS'=>by obtain ⟨c1,c2⟩:=hS';go_simp⟩) ?_
      try simp only[pU]
      refine tH 11 227 (.bool true) rfl rfl (by kernel_rfl) (HIB.out _ HQ21.out) (Or.inl ⟨by rfl,fun w' hS'=>by obtain ⟨c1,c2⟩:=hS';go_simp⟩) ?_
      try simp only[pU]
      refine wpAnyH_ready (rs:=[12]) (by kernel_rfl) (by simp) ?_
      refine AllReadyH.cons rfl (fun KK hK=>?_) AllReadyH.nil
      refine Yb rfl 36 rfl rfl ?_
      intro q22 b122 hu hbb
      have hb:Below (q21).heap.size (q21) q22:=by rw[hu.out];exact (Below.refl _ _).alloc (Nat.le_refl _) _
      have HQ22:Hid (Q3 q22):=HVb.out _ _ HQ21.out hb
      have HZ22:Hid (Bx q22 b122 27 ZZ∧(q21).heap.size≤b122∧Below (q21).heap.size (q21) q22):=⟨by rw[hu.out,hbb.out];exact Bx.new _ 27 ZZ,by rw[hbb.out];exact Nat.le_refl _,hb⟩
      clear hu hbb hb
      refine hK.out _ _ (HIB.out _ HQ22.out) (fun _=>?_)
      clear hK KK
      try simp only[pU]
      refine wpAnyH_ready (rs:=[13]) (by kernel_rfl) (by simp) ?_
      refine AllReadyH.cons rfl (fun KK hK=>?_) AllReadyH.nil
      refine Zz rfl 27 (.tmp 36) (.tmp 226) rfl ZZ E1 b122 rfl rfl HZ22.out.1 (by rw[HLE1.out.1];rfl) (by rw[HLE1.out.1];kernel_rfl) HLE1.out.2 ?_
      intro u9 HB9 HG9
      have H9:Hid (Q3 u9):=HVb.out _ _ HQ21.out (HZ22.out.2.2.trans (Zm HG9.out HZ22.out.2.2.size HZ22.out.2.1))
      refine hK.out _ _ (HIB.out _ H9.out) (fun _=>?_)
      clear hK KK
      try simp only[pU]
      refine wpAnyH_ready (rs:=[14]) (by kernel_rfl) (by simp) ?_
      refine AllReadyH.cons rfl (fun KK hK=>?_) AllReadyH.nil
      rw[if_pos (by rfl)]
      go_simp
      refine hK.out _ _ (HIB.out _ H9.out) (fun _=>?_)
      clear hK KK
      try simp only[pU]
      refine wpAnyH_done (by kernel_rfl) ?_ _
      refine NoPanic.normal ?_
      go_wp2_with fail
      go_meet
      exact ⟨b122,rfl,rfl,H9.out,HB9.out⟩
     ·skip
      refine Yb rfl 36 rfl rfl ?_
      intro q23 b123 hu hbb
      have hb:Below (q20).heap.size (q20) q23:=by rw[hu.out];exact (Below.refl _ _).alloc (Nat.le_refl _) _
      have HQ23:Hid (Q3 q23):=HVb.out _ _ HQ20.out hb
      have HZ23:Hid (Bx q23 b123 27 ZZ∧(q20).heap.size≤b123∧Below (q20).heap.size (q20) q23):=⟨by rw[hu.out,hbb.out];exact Bx.new _ 27 ZZ,by rw[hbb.out];exact Nat.le_refl _,hb⟩
      clear hu hbb hb
      refine hK.out _ _ (HIB.out _ HQ23.out) (fun _=>?_)
      clear hK KK
      try simp only[pU]
      refine wpAnyH_ready (rs:=[8]) (by kernel_rfl) (by simp) ?_
      refine AllReadyH.cons rfl (fun KK hK=>?_) AllReadyH.nil
      go_simp
      refine (H20b.out _ ((HW1.out _ (HV1.out _ HQ23.out).1).1)).mono ?_
      intro e q24 hh
      obtain ⟨rfl,hb⟩:=hh.out
      have HQ24:Hid (Q3 q24):=HVb.out _ _ HQ23.out hb
      have HZ24:Hid (Bx q24 b123 27 ZZ∧(q20).heap.size≤b123∧Below (q20).heap.size (q20) q24):=⟨HZ23.out.1.below hb,HZ23.out.2.1,HZ23.out.2.2.trans (hb.mono HZ23.out.2.2.size)⟩
      clear hh hb
      go_wp2_with fail
      refine hK.out _ _ (HIB.out _ HQ24.out) (fun _=>?_)
      clear hK KK
      try simp only[pU]
      refine tH 9 216 (.tuple #[.agg E1.toArray,.bool true]) rfl rfl (by kernel_rfl) (HIB.out _ HQ24.out) (Or.inl ⟨by rfl,fun w' hS'=>by obtain ⟨c1,c2⟩:=hS';go_simp⟩) ?_
      try simp only[pU]
      refine tH 10 226 (.agg E1.toArray) rfl rfl (by kernel_rfl) (HIB.out _ HQ24.out) (Or.inl ⟨by rfl,fun w' hS'=>by obtain ⟨c1,c2⟩:=hS';go_simp⟩) ?_
      try simp only[pU]
      refine tH 11 227 (.bool true) rfl rfl (by kernel_rfl) (HIB.out _ HQ24.out) (Or.inl ⟨by rfl,fun w' hS'=>by obtain ⟨c1,c2⟩:=hS';go_simp⟩) ?_
      try simp only[pU]
      refine wpAnyH_ready (rs:=[13]) (by kernel_rfl) (by simp) ?_
      refine AllReadyH.cons rfl (fun KK hK=>?_) AllReadyH.nil
      refine Zz rfl 27 (.tmp 36) (.tmp 226) rfl ZZ E1 b123 rfl rfl HZ24.out.1 (by rw[HLE1.out.1];rfl) (by rw[HLE1.out.1];kernel_rfl) HLE1.out.2 ?_
      intro u9 HB9 HG9
      have H9:Hid (Q3 u9):=HVb.out _ _ HQ20.out (HZ24.out.2.2.trans (Zm HG9.out HZ24.out.2.2.size HZ24.out.2.1))
      refine hK.out _ _ (HIB.out _ H9.out) (fun _=>?_)
      clear hK KK
      try simp only[pU]
      refine wpAnyH_ready (rs:=[14]) (by kernel_rfl) (by simp) ?_
      refine AllReadyH.cons rfl (fun KK hK=>?_) AllReadyH.nil
      rw[if_pos (by rfl)]
      go_simp
      refine hK.out _ _ (HIB.out _ H9.out) (fun _=>?_)
      clear hK KK
      try simp only[pU]
      refine wpAnyH_done (by kernel_rfl) ?_ _
      refine NoPanic.normal ?_
      go_wp2_with fail
      go_meet
      exact ⟨b123,rfl,rfl,H9.out,HB9.out⟩
    ·skip
     refine Yb rfl 36 rfl rfl ?_
     intro q25 b125 hu hbb
     have hb:Below (w32.drew).heap.size (w32.drew) q25:=by rw[hu.out];exact (Below.refl _ _).alloc (Nat.le_refl _) _
     have HQ25:Hid (Q3 q25):=HVb.out _ _ HS0.out hb
     have HZ25:Hid (Bx q25 b125 27 ZZ∧(w32.drew).heap.size≤b125∧Below (w32.drew).heap.size (w32.drew) q25):=⟨by rw[hu.out,hbb.out];exact Bx.new _ 27 ZZ,by rw[hbb.out];exact Nat.le_refl _,hb⟩
     clear hu hbb hb
     refine hK.out _ _ (HIB.out _ HQ25.out) (fun _=>?_)
     clear hK KK
     try simp only[pU]
     refine wpAnyH_ready (rs:=[7]) (by kernel_rfl) (by simp) ?_
     refine AllReadyH.cons rfl (fun KK hK=>?_) AllReadyH.nil
     go_simp
     refine (H22b.out _).mono ?_
     intro e q26 hh
     obtain ⟨rfl,hb⟩:=hh.out
     have HQ26:Hid (Q3 q26):=HVb.out _ _ HQ25.out hb
     have HZ26:Hid (Bx q26 b125 27 ZZ∧(w32.drew).heap.size≤b125∧Below (w32.drew).heap.size (w32.drew) q26):=⟨HZ25.out.1.below hb,HZ25.out.2.1,HZ25.out.2.2.trans (hb.mono HZ25.out.2.2.size)⟩
     clear hh hb
     go_wp2_with fail
     refine hK.out _ _ (HIB.out _ HQ26.out) (fun _=>?_)
     clear hK KK
     try simp only[pU]
     refine wpAnyH_ready (rs:=[8]) (by kernel_rfl) (by simp) ?_
     refine AllReadyH.cons rfl (fun KK hK=>?_) AllReadyH.nil
     go_simp
     refine (H20b.out _ ((HW1.out _ (HV1.out _ HQ26.out).1).1)).mono ?_
     intro e q27 hh
     obtain ⟨rfl,hb⟩:=hh.out
     have HQ27:Hid (Q3 q27):=HVb.out _ _ HQ26.out hb
     have HZ27:Hid (Bx q27 b125 27 ZZ∧(w32.drew).heap.size≤b125∧Below (w32.drew).heap.size (w32.drew) q27):=⟨HZ26.out.1.below hb,HZ26.out.2.1,HZ26.out.2.2.trans (hb.mono HZ26.out.2.2.size)⟩
     clear hh hb
     go_wp2_with fail
     refine hK.out _ _ (HIB.out _ HQ27.out) (fun _=>?_)
     clear hK KK
     try simp only[pU]
     refine tH 9 216 (.tuple #[.agg E1.toArray,.bool true]) rfl rfl (by kernel_rfl) (HIB.out _ HQ27.out) (Or.inl ⟨by rfl,fun w' hS'=>by obtain ⟨c1,c2⟩:=hS';go_simp⟩) ?_
     try simp only[pU]
     refine tH 10 226 (.agg E1.toArray) rfl rfl (by kernel_rfl) (HIB.out _ HQ27.out) (Or.inl ⟨by rfl,fun w' hS'=>by obtain ⟨c1,c2⟩:=hS';go_simp⟩) ?_
     try simp only[pU]
     refine tH 11 227 (.bool true) rfl rfl (by kernel_rfl) (HIB.out _ HQ27.out) (Or.inl ⟨by rfl,fun w' hS'=>by obtain ⟨c1,c2⟩:=hS';go_simp⟩) ?_
     try simp only[pU]
     refine wpAnyH_ready (rs:=[13]) (by kernel_rfl) (by simp) ?_
     refine AllReadyH.cons rfl (fun KK hK=>?_) AllReadyH.nil
     refine Zz rfl 27 (.tmp 36) (.tmp 226) rfl ZZ E1 b125 rfl rfl HZ27.out.1 (by rw[HLE1.out.1];rfl) (by rw[HLE1.out.1];kernel_rfl) HLE1.out.2 ?_
     intro u9 HB9 HG9
     have H9:Hid (Q3 u9):=HVb.out _ _ HS0.out (HZ27.out.2.2.trans (Zm HG9.out HZ27.out.2.2.size HZ27.out.2.1))
     refine hK.out _ _ (HIB.out _ H9.out) (fun _=>?_)
     clear hK KK
     try simp only[pU]
     refine wpAnyH_ready (rs:=[14]) (by kernel_rfl) (by simp) ?_
     refine AllReadyH.cons rfl (fun KK hK=>?_) AllReadyH.nil
     rw[if_pos (by rfl)]
     go_simp
     refine hK.out _ _ (HIB.out _ H9.out) (fun _=>?_)
     clear hK KK
     try simp only[pU]
     refine wpAnyH_done (by kernel_rfl) ?_ _
     refine NoPanic.normal ?_
     go_wp2_with fail
     go_meet
     exact ⟨b125,rfl,rfl,H9.out,HB9.out⟩
   case rest=>
   obtain ⟨b36,rfl,rfl,HR32⟩:=hcut
   obtain ⟨w33,rfl⟩:∃ x,x=wc:=⟨_,rfl⟩
   obtain ⟨R,HR0⟩:∃ R:World→Prop,Hid (R=fun u=>Q3 u∧Bx u b36 27 E1):=⟨_,rfl⟩
   have HRb:Hid (∀ u u',R u→Below u.heap.size u u'→R u'):=by rw[HR0.out];exact fun u u' h hb=>⟨HVb.out _ _ h.1 hb,h.2.below hb⟩
   have HRv:Hid (∀ u,R u→Below w.heap.size w u∧Zf u (.slice (some ⟨x1,0,none⟩) 32 d2) U):=by rw[HR0.out];exact fun u h=>⟨(HY1.out _ (HW1.out _ (HV1.out _ h.1).1).1).1,(HY1.out _ (HW1.out _ (HV1.out _ h.1).1).1).2.1⟩
   have HIB:Hid (∀ u,R u→u.rangeAt b31 0 TL∧u.rangeAt b33 0 E0∧u.rangeAt b35 0 DL∧u.rangeAt b36 0 E1):=by rw[HR0.out];exact fun u hu=>⟨(HW1.out _ (HV1.out _ hu.1).1).2.range,(HV1.out _ hu.1).2.1.range,(HV1.out _ hu.1).2.2.range,hu.2.range⟩
   go_upto_region 33 with fail
   have HS0:Hid (R w33.drew):=HRb.out _ _ (by rw[HR0.out];exact HR32.out) (Below.refl _ _).drew
   have hS0:=HIB.out _ HS0.out
   refine wp_region_noPanic ?_
   refine wp_region_held_drew (S:=(fun u=>u.rangeAt b31 0 TL∧u.rangeAt b33 0 E0∧u.rangeAt b35 0 DL∧u.rangeAt b36 0 E1)) (by kernel_rfl) (hS0) (fun _=>?_)
   refine tH 0 228 (.bool true) rfl rfl (by kernel_rfl) (hS0) (Or.inl ⟨by rfl,fun w' hS'=>by obtain ⟨c1,c2,c3,c4⟩:=hS';go_simp⟩) ?_
   try simp only[pU]
   refine tH 1 229 (.bool true) rfl rfl (by kernel_rfl) (hS0) (Or.inl ⟨by rfl,fun w' hS'=>by obtain ⟨c1,c2,c3,c4⟩:=hS';go_simp⟩) ?_
   try simp only[pU]
   refine tH 2 230 (.bool true) rfl rfl (by kernel_rfl) (hS0) (Or.inl ⟨by rfl,fun w' hS'=>by obtain ⟨c1,c2,c3,c4⟩:=hS';go_simp⟩) ?_
   try simp only[pU]
   refine tH 3 231 (.bool true) rfl rfl (by kernel_rfl) (hS0) (Or.inl ⟨by rfl,fun w' hS'=>by obtain ⟨c1,c2,c3,c4⟩:=hS';go_simp⟩) ?_
   try simp only[pU]
   refine tH 4 232 (.bool true) rfl rfl (by kernel_rfl) (hS0) (Or.inl ⟨by rfl,fun w' hS'=>by obtain ⟨c1,c2,c3,c4⟩:=hS';go_simp⟩) ?_
   try simp only[pU]
   refine tH 5 233 (.bool true) rfl rfl (by kernel_rfl) (hS0) (Or.inl ⟨by rfl,fun w' hS'=>by obtain ⟨c1,c2,c3,c4⟩:=hS';go_simp⟩) ?_
   try simp only[pU]
   refine tH 6 234 (.bool true) rfl rfl (by kernel_rfl) (hS0) (Or.inl ⟨by rfl,fun w' hS'=>by obtain ⟨c1,c2,c3,c4⟩:=hS';go_simp⟩) ?_
   try simp only[pU]
   refine tH 7 235 (.bool true) rfl rfl (by kernel_rfl) (hS0) (Or.inl ⟨by rfl,fun w' hS'=>by obtain ⟨c1,c2,c3,c4⟩:=hS';go_simp⟩) ?_
   try simp only[pU]
   refine tH 8 236 (.agg E0.toArray) rfl rfl (by kernel_rfl) (hS0) (yieldsIf_load_mid (by rfl) 27 (.tmp 33) rfl b33 0 rfl E0 _ (fun u hu=>hu.2.1) Tryz.underlying27 rfl hiE0) ?_
   try simp only[pU]
   refine tH 9 237 (.agg TL.toArray) rfl rfl (by kernel_rfl) (hS0) (yieldsIf_load_mid (by rfl) 27 (.tmp 31) rfl b31 0 rfl TL _ (fun u hu=>hu.1) Tryz.underlying27 rfl hiTL) ?_
   try simp only[pU]
   refine tH 11 239 (.slice (some ⟨x1,0,none⟩) 32 d2) rfl rfl (by kernel_rfl) (hS0) (Or.inl ⟨by rfl,fun w' hS'=>by obtain ⟨c1,c2,c3,c4⟩:=hS';go_simp⟩) ?_
   try simp only[pU]
   refine tH 12 240 (.slice (some ⟨x1,0,none⟩) 16 d2) rfl rfl (by kernel_rfl) (hS0) (Or.inl ⟨by rfl,fun w' hS'=>by obtain ⟨c1,c2,c3,c4⟩:=hS';go_simp⟩) ?_
   try simp only[pU]
   refine wpAnyH_ready (rs:=[10]) (by kernel_rfl) (by simp) ?_
   refine AllReadyH.cons rfl (fun KK hK=>?_) AllReadyH.nil
   go_simp
   refine (H22c.out _).mono ?_
   intro e q28 hh
   obtain ⟨rfl,hb⟩:=hh.out
   have HQ28:Hid (R q28):=HRb.out _ _ HS0.out hb
   clear hh hb
   go_wp2_with fail
   refine hK.out _ _ (HIB.out _ HQ28.out) (fun _=>?_)
   clear hK KK
   try simp only[pU]
   refine wpAnyH_ready (rs:=[13]) (by kernel_rfl) (by simp) ?_
   refine AllReadyH.cons rfl (fun KK hK=>?_) AllReadyH.nil
   go_simp
   refine (HA19.out _ ((HRv.out _ HQ28.out).2)).mono ?_
   intro e q29 hh
   obtain ⟨rfl,hb⟩:=hh.out
   have HQ29:Hid (R q29):=HRb.out _ _ HQ28.out hb
   clear hh hb
   go_wp2_with fail
   refine hK.out _ _ (HIB.out _ HQ29.out) (fun _=>?_)
   clear hK KK
   try simp only[pU]
   refine tH 14 242 (.bool true) rfl rfl (by kernel_rfl) (HIB.out _ HQ29.out) (Or.inl ⟨by rfl,fun w' hS'=>by obtain ⟨c1,c2,c3,c4⟩:=hS';go_simp⟩) ?_
   try simp only[pU]
   refine tH 15 243 (.bool true) rfl rfl (by kernel_rfl) (HIB.out _ HQ29.out) (Or.inl ⟨by rfl,fun w' hS'=>by obtain ⟨c1,c2,c3,c4⟩:=hS';go_simp⟩) ?_
   try simp only[pU]
   refine tH 16 244 (.bool true) rfl rfl (by kernel_rfl) (HIB.out _ HQ29.out) (Or.inl ⟨by rfl,fun w' hS'=>by obtain ⟨c1,c2,c3,c4⟩:=hS';go_simp⟩) ?_
   try simp only[pU]
   refine tH 17 245 (.agg E1.toArray) rfl rfl (by kernel_rfl) (HIB.out _ HQ29.out) (yieldsIf_load_mid (by rfl) 27 (.tmp 36) rfl b36 0 rfl E1 _ (fun u hu=>hu.2.2.2) Tryz.underlying27 rfl hiE1) ?_
   try simp only[pU]
   refine tH 18 246 (.agg DL.toArray) rfl rfl (by kernel_rfl) (HIB.out _ HQ29.out) (yieldsIf_load_mid (by rfl) 27 (.tmp 35) rfl b35 0 rfl DL _ (fun u hu=>hu.2.2.1) Tryz.underlying27 rfl hiDL) ?_
   try simp only[pU]
   refine tH 20 248 (.slice (some ⟨x1,0,none⟩) 32 d2) rfl rfl (by kernel_rfl) (HIB.out _ HQ29.out) (Or.inl ⟨by rfl,fun w' hS'=>by obtain ⟨c1,c2,c3,c4⟩:=hS';go_simp⟩) ?_
   try simp only[pU]
   refine tH 21 249 (.slice (some ⟨x1,16,none⟩) 16 (d2-16)) rfl rfl (by kernel_rfl) (HIB.out _ HQ29.out) (Or.inl ⟨by rfl,fun w' hS'=>by obtain ⟨c1,c2,c3,c4⟩:=hS';go_simp⟩) ?_
   try simp only[pU]
   refine wpAnyH_ready (rs:=[19]) (by kernel_rfl) (by simp) ?_
   refine AllReadyH.cons rfl (fun KK hK=>?_) AllReadyH.nil
   go_simp
   refine (H22d.out _).mono ?_
   intro e q30 hh
   obtain ⟨rfl,hb⟩:=hh.out
   have HQ30:Hid (R q30):=HRb.out _ _ HQ29.out hb
   clear hh hb
   go_wp2_with fail
   refine hK.out _ _ (HIB.out _ HQ30.out) (fun _=>?_)
   clear hK KK
   try simp only[pU]
   refine wpAnyH_ready (rs:=[22]) (by kernel_rfl) (by simp) ?_
   refine AllReadyH.cons rfl (fun KK hK=>?_) AllReadyH.nil
   go_simp
   refine (HB19.out _ ((HRv.out _ HQ30.out).2)).mono ?_
   intro e q31 hh
   obtain ⟨rfl,hb⟩:=hh.out
   have HQ31:Hid (R q31):=HRb.out _ _ HQ30.out hb
   clear hh hb
   go_wp2_with fail
   refine hK.out _ _ (HIB.out _ HQ31.out) (fun _=>?_)
   clear hK KK
   try simp only[pU]
   refine tH 23 251 (.bool true) rfl rfl (by kernel_rfl) (HIB.out _ HQ31.out) (Or.inl ⟨by rfl,fun w' hS'=>by obtain ⟨c1,c2,c3,c4⟩:=hS';go_simp⟩) ?_
   try simp only[pU]
   refine tH 24 252 (.bool true) rfl rfl (by kernel_rfl) (HIB.out _ HQ31.out) (Or.inl ⟨by rfl,fun w' hS'=>by obtain ⟨c1,c2,c3,c4⟩:=hS';go_simp⟩) ?_
   try simp only[pU]
   refine wpAnyH_ready (rs:=[25]) (by kernel_rfl) (by simp) ?_
   refine AllReadyH.cons rfl (fun KK hK=>?_) AllReadyH.nil
   rw[if_pos (by rfl)]
   go_simp
   refine hK.out _ _ (HIB.out _ HQ31.out) (fun _=>?_)
   clear hK KK
   try simp only[pU]
   refine wpAnyH_done (by kernel_rfl) ?_ _
   refine NoPanic.normal ?_
   go_wp2
   go_ret
   exact ⟨rfl,(HRv.out _ HQ31.out).1⟩
end Go.Proofs.YtehlppaidgkpaaaGreatDoor
