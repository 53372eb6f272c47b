import Derived.Test.YtehlppaidgkpaaaGreatDoorPart00
import Derived.Test.YtehlppaidgkpaaaGreatDoorHce
import Derived.Test.YtehlppaidgkpaaaGreatDoorPart39
import Derived.Test.YtehlppaidgkpaaaGreatDoorPart51
namespace Go.Proofs.YtehlppaidgkpaaaGreatDoor
open Go.RowKit
set_option linter.unusedVariables false
set_option linter.unusedSimpArgs false
set_option maxHeartbeats 3200000 in
set_option maxRecDepth 100000 in
theorem Zay (v:Value) (ks:List Int) (nk:Nat) (x:BitVec 128) (w:World) (hnk:nk=4∨nk=6∨nk=8) (hl:ks.length=4*nk) (hv:Zf w v ks) (hb:Zd ks) (hrc:RC w) (hpos:1<w.heap.size) :
  Calls Tryz.prog 20 #[v,Fd.BV x] w fun e w'=>Hid (e=.returned (.tuple #[Fd.BV (Yy (nk+6) (Zn nk (Yk ks)) x),.bool true])∧Below w.heap.size w w'):=by
 obtain ⟨nr,HNR⟩:∃ nr,Hid (nk+6=nr):=⟨_,rfl⟩
 obtain ⟨K,HK⟩:∃ K,Hid (Zn nk (Yk ks)=K):=⟨_,rfl⟩
 obtain ⟨L,HL⟩:∃ L,Hid (L=Fd.BL x):=⟨_,rfl⟩
 obtain ⟨E,HE⟩:∃ L,Hid (L=Fd.BL (Yy nr K x)):=⟨_,rfl⟩
 have HNW:Hid (∀ u,Below w.heap.size w u→Calls Tryz.prog 31 #[v] u fun e w'=>Hid (∃ g,e=.returned (.tuple #[.pointer (some ⟨g,0,none⟩),.int .i64 0])∧u.heap.size≤g∧Zr w' g nr K∧Below u.heap.size u w')):=fun u hu=>by
  refine (Vo v ks nk u hnk hl (hv.below hu) hb (hrc.belowB hu hpos) (Nat.lt_of_lt_of_le hpos hu.size)).mono fun e w' hh=>?_
  obtain ⟨g,e1,e2,e3,e4,_⟩:=hh.out
  rw[HNR.out,HK.out] at e3
  exact ⟨g,e1,e2,e3,e4⟩
 have HEN:Hid (∀ u g,Zr u g nr K→Calls Tryz.prog 32 #[.pointer (some ⟨g,0,none⟩),.agg L.toArray] u fun e w'=>Hid (e=.returned (.tuple #[.agg E.toArray,.int .i64 0])∧Zr w' g nr K∧u.grownBy w' (some g))):=fun u g hu=>by
  rw[HL.out,HE.out];exact Iu g nr K x u hu
 have H17:Hid (∀ u,Calls Tryz.prog 14 #[.int .i64 0] u fun e w'=>e=.returned (.int .i64 0)∧w'=u):=fun u=>Nh 0 u
 have HLN:Hid (E.length=16∧(∀ x∈E,x.oneCell'=true)∧L.length=16):=by rw[HE.out,HL.out];exact ⟨Fd.Zl _,Yh _,Fd.Zl _⟩
 rw[HNR.out,HK.out]
 show Calls Tryz.prog 20 #[_,.agg (Fd.BL x).toArray] w fun e w'=>Hid (e=.returned (.tuple #[.agg (Fd.BL (Yy nr K x)).toArray,.bool true])∧_)
 rw[←HL.out,←HE.out]
 obtain ⟨w1,hw1⟩:∃ w1,w1=(w.alloc (.cells L.toArray 27)).alloc (.cells ZZ.toArray 27):=⟨_,rfl⟩
 have HB1:Hid (Bx w1 w.heap.size 27 L∧Bx w1 (w.heap.size+1) 27 ZZ∧Below w.heap.size w w1):=by
  have hb:Below w.heap.size w w1:=by rw[hw1];exact ((Below.refl _ _).alloc (Nat.le_refl _) _).alloc (by simp) _
  refine ⟨?_,?_,hb⟩
  ·rw[hw1];exact (Bx.new w 27 L).below ((Below.refl _ _).alloc (Nat.le_refl _) _)
  ·rw[hw1];have q:=Bx.new (w.alloc (.cells L.toArray 27)) 27 ZZ;simpa using q
 clear hnk hl hv hb hrc hpos
 go_enter Tryz.func20,Tryz.ntmps20
 go_upto_region 1 with fail
 rw[show (w.alloc (.cells _ 27)).alloc (.cells _ 27)=w1 from hw1.symm]
 clear hw1
 obtain ⟨M,HMM⟩:∃ M,Hid (w.heap.size=M):=⟨_,rfl⟩
 rw[HMM.out] at HB1 HNW ⊢
 have hiL:(Tryz.prog.info? 27).map (·.size)=some L.length:=by rw[HLN.out.2.2];kernel_rfl
 have hiE:(Tryz.prog.info? 27).map (·.size)=some E.length:=by rw[HLN.out.1];kernel_rfl
 go_upto_region 5 with (first
  | (go_at_call 31;refine (HNW.out _ HB1.out.2.2).mono ?_;intro e w2 hh;obtain ⟨g,rfl,hg0,hk,hb2⟩:=hh.out;have HB2:Hid (Zr w2 g nr K∧Bx w2 M 27 L∧Bx w2 (M+1) 27 ZZ∧Below M w w2∧M+1<g):=⟨hk,HB1.out.1.below hb2,HB1.out.2.1.below hb2,HB1.out.2.2.trans (hb2.mono (Nat.le_of_lt HB1.out.1.lt)),Nat.lt_of_lt_of_le HB1.out.2.1.lt hg0⟩;clear hh hg0 hk hb2)
  | (go_at_call 14;refine (H17.out _).mono ?_;rintro e w3 ⟨rfl,hw⟩;obtain rfl:=hw.symm;clear hw)
  | (refine wpList_load_mid (by rfl) 27 (.tmp 3) (by rfl) M 0 (by rfl) L _ HB2.out.2.1.range Tryz.underlying27 rfl hiL ?_)
  | (go_at_call 32;refine (HEN.out _ g HB2.out.1).mono ?_;intro e w4 hh;obtain ⟨rfl,hk,hg⟩:=hh.out;have HB4:Hid (Bx w4 (M+1) 27 ZZ∧Below M w w4):=⟨HB2.out.2.2.1.keep (hg.block (M+1) HB2.out.2.2.1.lt (fun e=>by injection e with e;exact absurd e (Nat.ne_of_lt HB2.out.2.2.2.2))),HB2.out.2.2.2.1.trans (Zm hg (Nat.le_of_lt HB2.out.2.1.lt) (Nat.le_of_lt (Nat.lt_of_succ_lt HB2.out.2.2.2.2)))⟩;clear hh hk hg)
  | (refine Ze (by rfl) 27 (.tmp 8) (.tmp 27) (by rfl) ZZ E w4.heap.size (by rfl) (by rfl) (Bx.new w4 27 ZZ) (by rw[HLN.out.1];rfl) hiE HLN.out.2.1 ?_;intro w5 hb5 hg5;have HB5:Hid (Bx w5 w4.heap.size 27 E∧Bx w5 (M+1) 27 ZZ∧Below M w w5∧M+1<w4.heap.size):=⟨hb5,(HB4.out.1.below ((Below.refl _ _).alloc (Nat.le_refl _) _)).keep (hg5.block (M+1) (Ix HB4.out.1.lt) (fun e=>by injection e with e;exact absurd e (Nat.ne_of_lt HB4.out.1.lt))),HB4.out.2.trans (((Below.refl _ _).alloc (Nat.le_refl _) _).mono (Nat.le_of_lt (Nat.lt_of_succ_lt HB4.out.1.lt)) |>.trans (Zm hg5 (Nat.le_of_lt (Ix (Nat.lt_of_succ_lt HB4.out.1.lt))) (Nat.le_of_lt (Nat.lt_of_succ_lt HB4.out.1.lt)))),HB4.out.1.lt⟩;clear hb5 hg5))
 obtain ⟨b8,HB8⟩:∃ b8,Hid (w4.heap.size=b8):=⟨_,rfl⟩
 rw[HB8.out] at HB5 ⊢
 clear HB8
 try simp only[Act.put]
 have hS0:w5.drew.rangeAt b8 0 E:=by simpa using HB5.out.1.range
 refine wp_region_noPanic ?_
 refine wp_region_held_drew (S:=(fun u=>u.rangeAt b8 0 E)) (by kernel_rfl) (hS0) (fun _=>?_)
 refine tH 0 29 (.agg E.toArray) rfl rfl (by kernel_rfl) (hS0) (yieldsIf_load_mid (by rfl) 27 (.tmp 8) rfl b8 0 rfl E _ (fun u hu=>hu) Tryz.underlying27 rfl hiE) ?_
 try simp only[pU]
 refine tH 1 30 (.int .i64 0) rfl rfl (by kernel_rfl) (hS0) (Or.inl ⟨by rfl,fun w' hS'=>by first | go_simp | (obtain ⟨c1,c2⟩:=hS';go_simp) | (obtain ⟨c1,c2,c3⟩:=hS';go_simp)⟩) ?_
 try simp only[pU]
 refine wpAnyH_ready (rs:=[2]) (by kernel_rfl) (by simp) ?_
 refine AllReadyH.cons rfl (fun KK hK=>?_) AllReadyH.nil
 go_simp
 refine (H17.out _).mono ?_
 rintro e u2 ⟨rfl,hw⟩
 obtain rfl:=hw.symm
 clear hw
 go_wp2_with fail
 refine hK.out _ _ (hS0) (fun _=>?_)
 clear hK KK
 try simp only[pU]
 refine tH 3 32 (.bool true) rfl rfl (by kernel_rfl) (hS0) (Or.inl ⟨by rfl,fun w' hS'=>by first | go_simp | (obtain ⟨c1,c2⟩:=hS';go_simp) | (obtain ⟨c1,c2,c3⟩:=hS';go_simp)⟩) ?_
 try simp only[pU]
 refine wpAnyH_ready (rs:=[4]) (by kernel_rfl) (by simp) ?_
 refine AllReadyH.cons rfl (fun KK hK=>?_) AllReadyH.nil
 refine Zz rfl 27 (.tmp 4) (.tmp 29) rfl ZZ E (M+1) rfl rfl (HB5.out.2.1.below (Below.refl _ _).drew) (by rw[HLN.out.1];rfl) hiE HLN.out.2.1 ?_
 intro u9 HB9 HG9
 refine hK.out _ _ ((Bx.keep (HB5.out.1.below (Below.refl _ _).drew) (HG9.out.block b8 (HB5.out.1.below (Below.refl _ _).drew).lt (fun e=>by injection e with e;exact absurd e.symm (Nat.ne_of_lt HB5.out.2.2.2)))).range) (fun _=>?_)
 clear hK KK
 try simp only[pU]
 refine wpAnyH_ready (rs:=[5]) (by kernel_rfl) (by simp) ?_
 refine AllReadyH.cons rfl (fun KK hK=>?_) AllReadyH.nil
 rw[if_pos (by rfl)]
 go_simp
 refine hK.out _ _ ((Bx.keep (HB5.out.1.below (Below.refl _ _).drew) (HG9.out.block b8 (HB5.out.1.below (Below.refl _ _).drew).lt (fun e=>by injection e with e;exact absurd e.symm (Nat.ne_of_lt HB5.out.2.2.2)))).range) (fun _=>?_)
 clear hK KK
 try simp only[pU]
 refine wpAnyH_done (by kernel_rfl) ?_ _
 refine NoPanic.normal ?_
 skip
 go_wp2
 refine Ql (b:=M+1) E (.bool true) rfl rfl rfl HB9.out.range Tryz.underlying27 rfl hiE ⟨rfl,?_⟩
 have hfin:Below M w u9:=HB5.out.2.2.1.trans (((Below.refl _ _).drew).mono (Nat.le_of_lt (Nat.lt_of_succ_lt HB5.out.2.1.lt)) |>.trans (Zm HG9.out (Nat.le_of_lt (Nat.lt_of_succ_lt (HB5.out.2.1.below (Below.refl _ _).drew).lt)) (Nat.le_succ _)))
 first | exact hfin | (rw[HMM.out];exact hfin)
set_option maxHeartbeats 1600000 in
set_option maxRecDepth 100000 in
theorem O9 {B:Nat} {Ks:Nat→Prop} {I:World→Prop} (hC:Cst B Ks I) (c sh fn:Nat) (cs:Array Value) (fi:BitVec 128) (s n st:Nat) (w:World) (hI:I w) (h0:w.cell? ⟨c,0,none⟩=some (.pointer (some ⟨sh,0,none⟩))) (hf:w.cell? ⟨c,1,none⟩=some (.func (.func fn) #[] cs)) (h1:w.cell? ⟨sh,1,none⟩=some (.int .i64 (st:Nat))) (h6:w.cell? ⟨sh,6,none⟩=some (.bool false)) (hn:16≤n) (hm:n≤4096) (hs:n%st=0) (hst:0<st)
  (hE:∀ args u,(callFunc fn args).run Tryz.prog u=.ok (.enter fn args) u) (HFN:∀ u,I u→Calls Tryz.prog fn (#[.int .u64 (s:Nat),.int .i64 (n:Nat)]++cs) u fun e w'=>Hid (e=.returned (Fd.BV fi)∧I w'∧Gk Ks u w')) :
  Calls Tryz.prog 23 #[.pointer (some ⟨c,0,none⟩),.int .u64 (s:Nat),.int .i64 (n:Nat)] w fun e w'=>Hid (∃ y,e=.returned (.tuple #[.slice (some ⟨y,0,none⟩) 16 16,.int .i64 0])∧Zf w' (.slice (some ⟨y,0,none⟩) 16 16) (blB fi)∧w.heap.size≤y∧I w'∧Gk Ks w w'):=by
 obtain ⟨FI,HFI⟩:∃ L,Hid (L=Fd.BL fi):=⟨_,rfl⟩
 have HF1:Hid (Calls Tryz.prog fn (#[.int .u64 (s:Nat),.int .i64 (n:Nat)]++cs) w fun e w'=>Hid (e=.returned (.agg FI.toArray)∧I w'∧Gk Ks w w')):=by rw[HFI.out];exact HFN w hI
 have HM:Hid (Calls Tryz.prog 30 #[.pointer (some ⟨c,0,none⟩),.int .i64 (n:Nat)] w fun e w'=>e=.returned (.int .i64 0)∧w'=w):=Tk c sh n st w h0 h1 h6 hn hm hs hst
 have HLN:Hid (FI.length=16∧(∀ x∈FI,x.oneCell'=true)):=by rw[HFI.out];exact ⟨Fd.Zl _,Yh _⟩
 have HBW:Hid (B≤w.heap.size):=hC.size w hI
 have hNil:∀ w:World,(binOp BinOp.eql 66 (.func (.func fn) #[] cs) .nilFunc).run Tryz.prog w=.ok (.bool false) w:=fun w=>by kernel_rfl
 clear h0 h1 h6 hn hm hs hst HFN hI
 go_enter Tryz.func23,Tryz.ntmps23
 go_wp2_with (first
  | (go_at_call 30;refine HM.out.mono ?_;rintro e1 w1 ⟨rfl,hw⟩;obtain rfl:=hw.symm;clear hw HM)
  | (refine HF1.out.mono ?_;intro e w2 hh;obtain ⟨rfl,hi,hb⟩:=hh.out;have HB2:Hid (I w2∧Gk Ks w w2):=⟨hi,hb⟩;clear hh hi hb HF1)
  | (refine Ze (by rfl) 27 (.tmp 9) (.tmp 27) (by rfl) ZZ FI w2.heap.size (by rfl) (by rfl) (Bx.new w2 27 ZZ) (by rw[HLN.out.1];rfl) (by rw[HLN.out.1];kernel_rfl) HLN.out.2 ?_;intro w3 hb3 hg3;have HB3:Hid (Bx w3 w2.heap.size 27 FI∧Below w2.heap.size w2 w3):=⟨hb3,((Below.refl _ _).alloc (Nat.le_refl _) _).trans (Zm hg3 (by simp) (Nat.le_refl _))⟩;clear hb3 hg3))
 go_ret2
 refine ⟨w2.heap.size,rfl,?_,HB2.out.2.size,hC.below HB2.out.1 HB3.out.2,HB2.out.2.below HB3.out.2⟩
 refine ⟨some ⟨w2.heap.size,0,none⟩,16,by rw[Kl],by rw[Kl];exact Nat.le_refl _,by decide,(fun e=>by cases e),.inr ⟨_,0,rfl,fun i hi=>?_⟩⟩
 rw[Kl] at hi
 rw[Uy _ i hi,Nat.zero_add]
 have q:=HB3.out.1
 rw[HFI.out] at q
 exact q.cell i _ (Fd.X5 _ i hi)
def IvI (Ks:Nat→Prop) (I:World→Prop) (st c:Nat) (f:Nat→BitVec 128):Prop:=∀ (s n:Nat) (u:World),I u→s<18446744073709551616→16≤n→n≤1024→n%st=0 →
 Calls Tryz.prog 23 #[.pointer (some ⟨c,0,none⟩),.int .u64 (s:Nat),.int .i64 (n:Nat)] u fun e u'=>Hid (∃ y,e=.returned (.tuple #[.slice (some ⟨y,0,none⟩) 16 16,.int .i64 0])∧Zf u' (.slice (some ⟨y,0,none⟩) 16 16) (blB (f s))∧u.heap.size≤y∧I u'∧Gk Ks u u')
def Zcs (Q:(Nat→List Int→List Int)→Prop) (f:Nat→BitVec 128) (st:Nat) (A c:Nat) (u:World):Prop:=∃ B L w0 F,KlP A B L w0∧Sti A B L w0 u∧Kt 13 (Xo L) (Sti A B L w0) st c F∧Q F∧IvI (Xo L) (Sti A B L w0) st c f
theorem Iv {A B:Nat} {L:List (Nat×Nat×(Nat→Nat))} {w0:World} (hL:KlP A B L w0) (c sh fn st:Nat) (cs:Array Value) (F0:Nat→Nat→BitVec 128) (f:Nat→BitVec 128) (hff:∀ s n,F0 s n=f s) (shc:List Value) (sv pv:Value) (hst:0<st) (hc:Bx w0 c 70 [.pointer (some ⟨sh,0,none⟩),.func (.func fn) #[] cs,sv,pv]) (hs:Bx w0 sh 115 shc) (hcA:A≤c∧c<B) (hsA:A≤sh∧sh<B)
  (h1:shc[1]?=some (.int .i64 (st:Nat))) (h6:shc[6]?=some (.bool false)) (hE:∀ args u,(callFunc fn args).run Tryz.prog u=.ok (.enter fn args) u) (HF:Pc (Xo L) (Sti A B L w0) fn cs F0) :
  IvI (Xo L) (Sti A B L w0) st c f:=by
 intro s n u hI hs64 hl0 hl1 hlst
 have hcu:=hI.bx hL hc hcA.1 hcA.2 (by decide)
 have hsu:=hI.bx hL hs hsA.1 hsA.2 (by decide)
 exact O9 hL.cst c sh fn cs (f s) s n st u hI (hcu.cell 0 _ rfl) (hcu.cell 1 _ rfl) (hsu.cell 1 _ h1) (hsu.cell 6 _ h6) hl0 (by omega) hlst hst hE (fun u2 hu2=>by rw[←hff s n];exact HF s n u2 hs64 hl1 hu2)
def PsC (A:Nat) (zs:List Int) (k:Nat) (u:World) (sh:Nat) (fv sv pv:Value):Prop:=∃ LE fn cs shc g,fv=.func (.func fn) #[] cs∧Bgf A zs k u (.slice none 0 0) LE fn cs∧Bx u sh 115 shc∧shc[4]?=some (.pointer (some ⟨g,0,none⟩))∧(∀ x,x∈LE→g<x.1)∧sv=bV 177 [.pointer (some ⟨sh,0,none⟩),fv]∧pv=bV 178 [.pointer (some ⟨sh,0,none⟩),fv]
theorem PsC.oc {A:Nat} {zs:List Int} {k:Nat} {u u':World} {sh:Nat} {fv sv pv:Value} (ho:Oc u u') (h:PsC A zs k u sh fv sv pv):PsC A zs k u' sh fv sv pv:=by
 obtain ⟨hz,c,cs0,fr,hc,hk⟩:=ho
 obtain ⟨LE,fn,cs,shc,g,h1,h2,h3,h4,h5,h9,h10⟩:=h
 have hK:∀ x,J0 u x→u'.heap[x.1]?=u.heap[x.1]?:=fun x hx=>by
  obtain ⟨R,hR⟩:=hx.2
  exact hk _ (Zo hR hc (by decide))
 exact ⟨LE,fn,cs,shc,g,h1,h2.keep hz hK (fun b v hb _=>hk b (Zo hb hc (by decide))),h3.keep (hk sh (Zo h3 hc (by decide))),h4,h5,h9,h10⟩
theorem Zbs (i k:Nat) (hi:i<3) (hk:k=2∨k=3∨k=4∨k=6) (v:Value) (zs:List Int) (w:World) (hv:Zf w v zs) (hb:Zd zs) (hl:zs.length=16+8*i) (hP:Pow w) (hrc:RC w) (hT:Dg.Tables w) :
  Calls Tryz.prog 26 #[.string (sxN i k),v] w fun e w'=>Hu w (sxN i k) 16 (16+8*i) zs (PsC w.heap.size zs k) e w':=by
 have hpos:1<w.heap.size:=World.block_lt_of_cell? w ⟨1,0,none⟩ (hrc 0 (by decide))
 have e1:mS k=16∧mK k=1∧mM k=0∧mU k=148∧k<17∧mB k≠.nilFunc:=by rcases hk with rfl | rfl | rfl | rfl<;>exact ⟨rfl,rfl,rfl,rfl,by decide,by intro e;cases e⟩
 have q:=Zbr i k hi e1.2.2.2.2.1 v zs w hv hb (by rw[e1.2.1,e1.2.2.1,hl];omega) hP hrc (PhB w.heap.size zs k) (PsC w.heap.size zs k) (fun u u' s o x ho h=>h.oc ho) (fun u u' sh a b c ho h=>h.oc ho) (fun e=>absurd e e1.2.2.2.2.2)
  (fun bg hbg B sh kv mp u hu hB1 hB2 hA=>Iy w.heap.size i k hi (by rcases hk with rfl | rfl | rfl | rfl<;>decide) bg hbg _ _ zs B sh kv mp u hB1 hB2 hA (by omega) (hT.below hu (by have:=hT.size;omega)) (hrc.belowB hu hpos)) ?_
 ·rw[e1.1] at q;exact q
 ·intro fv B sh kv mp ov u _ hΦ hu hB1 hB2 hA few
  obtain ⟨LE,fn,cs,shc,g,h1,h2,h3,h4,h5⟩:=hΦ
  subst h1
  rw[e1.2.2.2.1]
  refine (Bf sh fn #[] cs u).mono ?_
  intro e u' hh
  obtain ⟨rfl,hbe⟩:=hh.out
  refine ⟨_,_,_,_,_,_,ov,rfl,hA.below hbe,Fs.of_below hbe hB2,LE,fn,cs,_,g,rfl,(h2.keep hbe.size (fun x hx=>hbe.block _ hx.1.ciph.here) (fun b v hb _=>hbe.block _ hb.lt)).nov,h3.below hbe,h4,h5,rfl,rfl⟩
def cbF (zs:List Int) (k s:Nat):BitVec 128:=if k=6 then Yy 14 (esK zs) (plV true s) else sbF k s 0
def QC (i k:Nat) (ks:List Int) (F:Nat→List Int→List Int):Prop:=∀ s zs,F s zs=bkZ (fun j=>cbS (Yy (10+2*i) (Zn (4+2*i) (Yk ks))) (cutV zs) (cbF ks k s) j) zs.length (zs.length/16)
theorem Zb3 (i k:Nat) (hi:i<3) (hk:k=2∨k=3∨k=4∨k=6) (v:Value) (zs:List Int) (w:World) (hv:Zf w v zs) (hb:Zd zs) (hl:zs.length=16+8*i) (hP:Pow w) (hrc:RC w) (hT:Dg.Tables w) :
  Calls Tryz.prog 26 #[.string (sxN i k),v] w fun e w'=>Il w (Zcs (QC i k zs) (cbF zs k) 16) e w':=by
 refine (Zbs i k hi hk v zs w hv hb hl hP hrc hT).mono fun e w' h=>?_
 obtain ⟨c,sh,kv,mp,ov,fv,sv,pv,rfl,hc0,hcb,hsh,⟨LE,fn,cs,shc,g,h1,h2,h3,h4,h5,h9,h10⟩,hbel⟩:=h
 refine ⟨c,rfl,?_,hbel⟩
 obtain ⟨g',nk,hm,hgB,_,hwd,hgK,hgR⟩:∃ g nk,mp=some ⟨g,0,none⟩∧w.heap.size≤g∧(nk=4∨nk=6∨nk=8)∧16+8*i=4*nk∧Zr w' g (nk+6) (Zn nk (Yk (zs.take (16+8*i))))∧∃ R:Array Value,w'.heap[g]?=some (.cells R 135 (0,0)):=by
  rcases hsh.main with ⟨h0,_⟩ | h
  ·omega
  ·exact h
 have e:shc=shL (sxN i k) 16 kv (16+8*i) mp ov:=by
  have p:=h3.symm.trans hsh.box
  injection p with p
  injection p with p
  exact List.toArray_inj p
 obtain rfl:g'=g:=by
  rw[e,hm] at h4
  injection h4 with h4
  injection h4 with h4
  injection h4 with h4
  injection h4 with h4
 subst h1
 subst h9
 obtain rfl:nk=4+2*i:=by omega
 rw[List.take_of_length_le (Nat.le_of_eq hl)] at hgK
 have hLE:∀ x,x∈LE→w.heap.size≤x.1∧J0 w' x:=fun x hx=>by
  rcases h2 with ⟨_,_,e,_⟩ | ⟨_,ge,bx,e,_,_,a4,_,a6,_⟩
  ·rw[e] at hx;cases hx
  ·rw[e] at hx
   obtain rfl:x=(ge,14,esK zs):=by simpa using hx
   exact ⟨a4,a6⟩
 have hLone:∀ x y,x∈LE→y∈LE→x=y:=fun x y hx hy=>by
  rcases h2 with ⟨_,_,e,_⟩ | ⟨_,ge,bx,e,_⟩
  ·rw[e] at hx;cases hx
  ·rw[e] at hx hy
   rw[show x=(ge,14,esK zs) by simpa using hx,show y=(ge,14,esK zs) by simpa using hy]
 obtain ⟨x0,hx0⟩:∃ x:Nat×Nat×(Nat→Nat),x=(g',4+2*i+6,Zn (4+2*i) (Yk zs)):=⟨_,rfl⟩
 have ex1:x0.1=g':=by rw[hx0]
 have ex2:x0.2.1=10+2*i:=by rw[hx0];show 4+2*i+6=_;omega
 have ex3:x0.2.2=Zn (4+2*i) (Yk zs):=by rw[hx0]
 have hKx:J0 w' x0:=by rw[hx0];exact ⟨hgK,hgR⟩
 have hKall:∀ x,x∈x0::LE→w.heap.size≤x.1∧J0 w' x:=fun x hx=>by
  simp only[List.mem_cons] at hx
  rcases hx with rfl | hx
  ·exact ⟨by rw[ex1];exact hgB,hKx⟩
  ·exact hLE x hx
 have hL:KlP w.heap.size w'.heap.size (x0::LE) w':=by
  refine ⟨fun x hx=>⟨(hKall x hx).1,(hKall x hx).2.1.ciph.here⟩,fun x y hx hy hxy=>?_,fun x hx=>(hKall x hx).2.2⟩
  simp only[List.mem_cons] at hx hy
  rcases hx with rfl | hx<;>rcases hy with rfl | hy
  ·rfl
  ·have:=h5 y hy;omega
  ·have:=h5 x hx;omega
  ·exact hLone x y hx hy
 have hI:Sti w.heap.size w'.heap.size (x0::LE) w' w':=⟨fun x hx=>(hKall x hx).2.1,fun b _ _ _=>rfl,Nat.le_refl _⟩
 have hc1:w.heap.size≤c∧c<w'.heap.size:=⟨hc0,hcb.lt⟩
 have hs1:w.heap.size≤sh∧sh<w'.heap.size:=⟨hsh.le,hsh.box.lt⟩
 have k4:(shL (sxN i k) 16 kv (16+8*i) mp ov)[4]?=some (.pointer (some ⟨x0.1,0,none⟩)):=by rw[hm,ex1];rfl
 rcases h2 with ⟨n1,n2,e1,e2,e3⟩ | ⟨he,ge,bx,e1,e2,e3,a4,a5,a6,a7,_⟩
 ·subst e2 e3
  refine ⟨_,_,_,_,hL,hI,Ul hL c sh (sbN k) #[] (sbF k) _ pv x0 hcb hsh.box hc1 hs1 rfl k4 rfl (by simp) (Gs k) (Wg hL.cst (sbN k) (sbF k) (St k)),fun s ys=>?_,Iv hL c sh (sbN k) 16 #[] (sbF k) (cbF zs k) (fun s n=>by rw[cbF,if_neg n2];rfl) _ _ pv (by decide) hcb hsh.box hc1 hs1 rfl rfl (Gs k) (Wg hL.cst (sbN k) (sbF k) (St k))⟩
  show bkZ (fun j=>cbS (Yy x0.2.1 x0.2.2) (cutV ys) (sbF k s ys.length) j) ys.length (ys.length/16)=_
  rw[ex2,ex3,cbF,if_neg n2]
  rfl
 ·subst e2 e3
  have hz:((ge,14,esK zs):Nat×Nat×(Nat→Nat))∈x0::LE:=by rw[e1];simp
  have hk6:k=6:=by rcases hk with rfl | rfl | rfl | rfl<;>omega
  have HBE:Pc (Xo (x0::LE)) (Sti w.heap.size w'.heap.size (x0::LE) w') 187 #[.pointer (some ⟨bx,0,none⟩)] (fun s _=>Yy 14 (esK zs) (plV true s)):=fun s n u hs hn hIu=>T9 hL.cst bx ge (Yy 14 (esK zs)) s (n:Nat) u hs hIu ((hIu.bx hL a7 a5 a7.lt (by decide)).cell 0 _ rfl) (hL.not a7 (by decide)) (Mn hL (ge,14,esK zs) hz)
  refine ⟨_,_,_,_,hL,hI,Ul hL c sh 187 #[.pointer (some ⟨bx,0,none⟩)] (fun s _=>Yy 14 (esK zs) (plV true s)) _ pv x0 hcb hsh.box hc1 hs1 rfl k4 rfl (by simp) (fun args u=>Zp Tryz.func187 (by rfl) (by rfl) args u) HBE,fun s ys=>?_,Iv hL c sh 187 16 #[.pointer (some ⟨bx,0,none⟩)] (fun s _=>Yy 14 (esK zs) (plV true s)) (cbF zs k) (fun s n=>by rw[cbF,if_pos hk6]) _ _ pv (by decide) hcb hsh.box hc1 hs1 rfl rfl (fun args u=>Zp Tryz.func187 (by rfl) (by rfl) args u) HBE⟩
  show bkZ (fun j=>cbS (Yy x0.2.1 x0.2.2) (cutV ys) (Yy 14 (esK zs) (plV true s)) j) ys.length (ys.length/16)=_
  rw[ex2,ex3,cbF,if_pos hk6]
def Q1 (i:Nat) (ks:List Int):BitVec 128→BitVec 128:=Yy (10+2*i) (Zn (4+2*i) (Yk ks))
def QE (i:Nat) (ks:List Int) (F:Nat→List Int→List Int):Prop:=∀ s zs,F s zs=bkZ (fun j=>Q1 i ks (cutV zs j)) zs.length (zs.length/16)
def QXk (i:Nat) (ks:List Int) (F:Nat→List Int→List Int):Prop:=∀ s zs,F s zs=G5 (Q1 i (ks.take (16+8*i))) (dbN (Q1 i (ks.drop (16+8*i)) (plV true s))) zs (zs.length/16)
theorem Sq {A:Nat} {w':World} {sh:Nat} {S:ByteArray} {st i:Nat} {zs:List Int} {kv:Value} {mp:Option Addr} {ov:Value} (h:ShA A w' sh S st (16+8*i) zs kv mp ov) (hl:zs.length=16+8*i):∃ g,mp=some ⟨g,0,none⟩∧A≤g∧J0 w' (g,10+2*i,Zn (4+2*i) (Yk zs)):=by
 rcases h.main with ⟨h0,_⟩ | ⟨g,nk,hm,hB,_,hw,hK,hR⟩
 ·omega
 ·obtain rfl:nk=4+2*i:=by omega
  rw[List.take_of_length_le (Nat.le_of_eq hl),show 4+2*i+6=10+2*i by omega] at hK
  exact ⟨g,hm,hB,hK,hR⟩
theorem Zb2 (i:Nat) (hi:i<3) (v:Value) (zs:List Int) (w:World) (hv:Zf w v zs) (hb:Zd zs) (hl:zs.length=16+8*i) (hP:Pow w) (hrc:RC w) :
  Calls Tryz.prog 26 #[.string (sxN i 0),v] w fun e w'=>Il w (Zce (QE i zs) 16) e w':=by
 refine (Ed i hi v zs w (fun j hj=>Gm ⟨i,hi⟩ ⟨0,by decide⟩ ⟨j,by omega⟩ hj) hv hb (by omega) hP hrc).mono fun e w' h=>?_
 obtain ⟨c,sh,kv,mp,ov,fv,sv,pv,rfl,hc0,hcb,hsh,⟨rfl,rfl,rfl⟩,hbel⟩:=h
 obtain ⟨g,hm,hA,hK⟩:=Sq hsh hl
 obtain ⟨hL,hI⟩:=Ek (x:=(g,10+2*i,Zn (4+2*i) (Yk zs))) hA hK
 refine ⟨c,rfl,⟨_,_,_,_,hL,hI,Zao hL c sh _ _ _ (g,10+2*i,Zn (4+2*i) (Yk zs)) hcb hsh.box ⟨hc0,hcb.lt⟩ ⟨hsh.le,hsh.box.lt⟩ rfl (by rw[hm];rfl) rfl (by simp),fun s zs=>rfl⟩,hbel⟩
theorem Zb1 (i k:Nat) (hi:i<3) (hk11:k=11) (v:Value) (zs:List Int) (w:World) (hv:Zf w v zs) (hb:Zd zs) (hl:zs.length=2*(16+8*i)) (hP:Pow w) (hrc:RC w) (hT:Dg.Tables w) :
  Calls Tryz.prog 26 #[.string (sxN i k),v] w fun e w'=>Il w (Zce (QXk i zs) 1) e w':=by
 have hk:k=10∨k=11∨k=12∨k=13:=.inr (.inl hk11)
 refine (Zbp i k hi hk v zs w hv hb hl hP hrc hT).mono fun e w' h=>?_
 obtain ⟨c,sh,kv,mp,ov,fv,sv,pv,rfl,hc0,hcb,hsh,⟨LE,fn,cs,shc,g,go,h1,h2,h3,h4,h5,h6,h7,h8,h9,h10⟩,hbel⟩:=h
 refine ⟨c,rfl,?_,hbel⟩
 obtain ⟨g',nk,hm,hgB,_,hwd,hgK,hgR⟩:∃ g nk,mp=some ⟨g,0,none⟩∧w.heap.size≤g∧(nk=4∨nk=6∨nk=8)∧16+8*i=4*nk∧Zr w' g (nk+6) (Zn nk (Yk (zs.take (16+8*i))))∧∃ R:Array Value,w'.heap[g]?=some (.cells R 135 (0,0)):=by
  rcases hsh.main with ⟨h0,_⟩ | h
  ·omega
  ·exact h
 have e:shc=shL (sxN i k) 1 kv (16+8*i) mp ov:=by
  have p:=h3.symm.trans hsh.box
  injection p with p
  injection p with p
  exact List.toArray_inj p
 obtain rfl:g'=g:=by
  rw[e,hm] at h4
  injection h4 with h4
  injection h4 with h4
  injection h4 with h4
  injection h4 with h4
 subst h1
 subst h9
 have hxm:J0 w' (g',nk+6,Zn nk (Yk (zs.take (16+8*i)))):=⟨hgK,hgR⟩
 have hLE:∀ x,x∈LE→w.heap.size≤x.1∧J0 w' x:=fun x hx=>by
  rcases h2 with ⟨_,_,e,_⟩ | ⟨_,ge,bx,e,_,_,a4,_,a6,_⟩
  ·rw[e] at hx;cases hx
  ·rw[e] at hx
   obtain rfl:x=(ge,14,esK zs):=by simpa using hx
   exact ⟨a4,a6⟩
 have hLone:∀ x y,x∈LE→y∈LE→x=y:=fun x y hx hy=>by
  rcases h2 with ⟨_,_,e,_⟩ | ⟨_,ge,bx,e,_⟩
  ·rw[e] at hx;cases hx
  ·rw[e] at hx hy
   rw[show x=(ge,14,esK zs) by simpa using hx,show y=(ge,14,esK zs) by simpa using hy]
 obtain ⟨x0,hx0⟩:∃ x:Nat×Nat×(Nat→Nat),x=(g',nk+6,Zn nk (Yk (zs.take (16+8*i)))):=⟨_,rfl⟩
 obtain ⟨y0,hy0⟩:∃ x:Nat×Nat×(Nat→Nat),x=(go,(4+2*i)+6,Zn (4+2*i) (Yk (zs.drop (4*(4+2*i))))):=⟨_,rfl⟩
 have ex1:x0.1=g':=by rw[hx0]
 have ey1:y0.1=go:=by rw[hy0]
 have hKx:J0 w' x0:=by rw[hx0];exact hxm
 have hKy:J0 w' y0:=by rw[hy0];exact h8
 have hKall:∀ x,x∈x0::y0::LE→w.heap.size≤x.1∧J0 w' x:=fun x hx=>by
  simp only[List.mem_cons] at hx
  rcases hx with rfl | rfl | hx
  ·exact ⟨by rw[ex1];exact hgB,hKx⟩
  ·exact ⟨by rw[ey1];exact h7,hKy⟩
  ·exact hLE x hx
 have hL:KlP w.heap.size w'.heap.size (x0::y0::LE) w':=by
  refine ⟨fun x hx=>⟨(hKall x hx).1,(hKall x hx).2.1.ciph.here⟩,fun x y hx hy hxy=>?_,fun x hx=>(hKall x hx).2.2⟩
  simp only[List.mem_cons] at hx hy
  rcases hx with rfl | rfl | hx<;>rcases hy with rfl | rfl | hy
  ·rfl
  ·omega
  ·have:=(h5 y hy).1;omega
  ·omega
  ·rfl
  ·have:=(h5 y hy).2;omega
  ·have:=(h5 x hx).1;omega
  ·have:=(h5 x hx).2;omega
  ·exact hLone x y hx hy
 have hI:Sti w.heap.size w'.heap.size (x0::y0::LE) w' w':=⟨fun x hx=>(hKall x hx).2.1,fun b _ _ _=>rfl,Nat.le_refl _⟩
 have hc1:w.heap.size≤c∧c<w'.heap.size:=⟨hc0,hcb.lt⟩
 have hs1:w.heap.size≤sh∧sh<w'.heap.size:=⟨hsh.le,hsh.box.lt⟩
 have k4:(shL (sxN i k) 1 kv (16+8*i) mp ov)[4]?=some (.pointer (some ⟨x0.1,0,none⟩)):=by rw[hm,ex1];rfl
 rw[←ey1] at hcb
 obtain rfl:nk=4+2*i:=by omega
 rcases h2 with ⟨_,_,e1,e2,e3⟩ | ⟨he,_⟩
 ·subst e2 e3
  refine ⟨_,_,_,_,hL,hI,I3 hL c sh (sbN k) 1 #[] (sbF k) _ pv x0 y0 (by decide) hcb hsh.box hc1 hs1 rfl k4 rfl (by simp) (by simp) (Gs k) (Wg hL.cst (sbN k) (sbF k) (St k)),fun s ys=>?_⟩
  show G5 (Yy x0.2.1 x0.2.2) (dbN (Yy y0.2.1 y0.2.2 (sbF k s ys.length))) ys (ys.length/16)=_
  rw[hx0,hy0,hk11,show sbF 11 s ys.length=plV true s from rfl]
  show G5 (Yy (4+2*i+6) (Zn (4+2*i) (Yk (zs.take (16+8*i))))) (dbN (Yy (4+2*i+6) (Zn (4+2*i) (Yk (zs.drop (4*(4+2*i))))) (plV true s))) ys (ys.length/16)=_
  rw[show 4+2*i+6=10+2*i by omega,show 4*(4+2*i)=16+8*i by omega]
  rfl
 ·omega
def thK (q:Nat):Nat:=if q=0 then 0 else if q=1 then 6 else 11
def Im (t q:Nat) (ks:List Int) (A c:Nat) (u:World):Prop:=∃ B L w0 F,KlP A B L w0∧Sti A B L w0 u∧Kt 13 (Xo L) (Sti A B L w0) 16 c F∧(if q=0 then QE t ks F else if q=1 then QC t 6 ks F else QXk t ks F)∧(q=1→IvI (Xo L) (Sti A B L w0) 16 c (cbF ks 6))
theorem Uf (t q:Nat) (ks:List Int):Zcb (Im t q ks):=fun A c u u' h hk hs=>by
 obtain ⟨B,L,w0,F,h1,h2,h3,h4⟩:=h
 exact ⟨B,L,w0,F,h1,h2.stay h1 (fun b hA hB=>hk b hA (Nat.lt_of_lt_of_le hB h2.size)) hs,h3,h4⟩
theorem Zbv (q t:Nat) (hq:q<3) (ht:t<3) (v:Value) (bs:List Int) (u:World) (G o cp:Nat) (hE:Env u G o cp) (hv:Zf u v bs) (hbb:Zd bs) :
  Calls Tryz.prog 10 #[.agg #[.int .i64 (1+thK q+17*t:Nat),v]] u fun e w'=>U9 u (Im t q (kyL bs (kyN (1+17*t+thK q)))) e w':=by
 obtain ⟨k,hk⟩:∃ k,k=thK q:=⟨_,rfl⟩
 have hkc:(q=0∧k=0)∨(q=1∧k=6)∨(q=2∧k=11):=by unfold thK at hk;split at hk<;>(try split at hk)<;>omega
 have hk17:k<17:=by omega
 rw[←hk]
 have hf:∀ j,j<1+17*t+k→spN j≠sxN t k:=fun j hj=>Gm ⟨t,ht⟩ ⟨k,hk17⟩ ⟨j,by omega⟩ hj
 refine Tm (1+k+17*t:Nat) (1+17*t+k) v bs u G o cp (Im t q (kyL bs (kyN (1+17*t+k)))) (Uf _ _ _) hE.md (by omega) (by rw[Vc _ (by omega)];omega) hv ?_ ?_
 ·intro u2 x2 hu2 hv2
  have hE2:=hE.below hu2
  rw[Q7 t k hk17,Q5 t k hk17] at *
  rcases hkc with ⟨rfl,rfl⟩ | ⟨rfl,rfl⟩ | ⟨rfl,rfl⟩
  ·refine (Zb2 t ht x2 _ u2 hv2 (Jh hbb _) (by rw[Q8];show 1*(16+8*t)+0=_;omega) hE2.pow hE2.rc).mono fun e w' h=>?_
   obtain ⟨c,rfl,⟨B,L,w0,F,h1,h2,h3,h4⟩,hb⟩:=h
   exact ⟨c,rfl,⟨B,L,w0,F,h1,h2,h3,h4,fun e=>absurd e (by decide)⟩,hb⟩
  ·refine (Zb3 t 6 ht (by omega) x2 _ u2 hv2 (Jh hbb _) (by rw[Q8];show 1*(16+8*t)+0=_;omega) hE2.pow hE2.rc hE2.tb).mono fun e w' h=>?_
   obtain ⟨c,rfl,⟨B,L,w0,F,h1,h2,h3,h4,h5⟩,hb⟩:=h
   exact ⟨c,rfl,⟨B,L,w0,F,h1,h2,h3,h4,fun _=>h5⟩,hb⟩
  ·refine (Zb1 t 11 ht rfl x2 _ u2 hv2 (Jh hbb _) (by rw[Q8];rfl) hE2.pow hE2.rc hE2.tb).mono fun e w' h=>?_
   obtain ⟨c,rfl,⟨B,L,w0,F,h1,h2,h3,h4⟩,hb⟩:=h
   exact ⟨c,rfl,⟨B,L,w0,F,h1,h2,h3.mono 16,h4,fun e=>absurd e (by decide)⟩,hb⟩
 ·intro u2 x2 hu2 hv2
  have hE2:=hE.below hu2
  rw[Q7 t k hk17,Q5 t k hk17] at *
  exact Zbe t k ht hk17 x2 _ u2 G o cp hf hv2 (Jh hbb _) (by rw[Q8]) hE2.md hE2.rt
theorem Fg (L:List Int):cutV (L.drop 16) 0=cutV L 1:=by
 unfold cutV
 congr 2
 funext i
 unfold Yk
 rw[List.getD_eq_getElem?_getD,List.getElem?_drop,←List.getD_eq_getElem?_getD,show 16+(16*0+i)=16*1+i by omega]
theorem Ff (L:List Int):cutV (L.take 16) 0=cutV L 0:=by
 have q:=Rj L 0
 rw[Nat.mul_zero,List.drop_zero] at q
 exact q
theorem Zcm {t:Nat} {ks:List Int} {F:Nat→List Int→List Int} (h:QE t ks F) (s:Nat) (L:List Int) (hl:L.length=32) :
  (F s L).length=32∧cutV (F s L) 0=Q1 t ks (cutV L 0)∧cutV (F s L) 1=Q1 t ks (cutV L 1):=by
 rw[h s L,hl]
 exact ⟨Y0 _ _ _,Qy _ 32 2 0 (by decide) (by decide),Qy _ 32 2 1 (by decide) (by decide)⟩
theorem Zcn {t:Nat} {ks:List Int} {F:Nat→List Int→List Int} (h:QC t 6 ks F) (s:Nat) (L:List Int) (hl:L.length=32) :
  (F s L).length=32∧cutV (F s L) 0=Q1 t ks (cutV L 0 ^^^ Yy 14 (esK ks) (plV true s))∧cutV (F s L) 1=Q1 t ks (cutV L 1 ^^^ Q1 t ks (cutV L 0 ^^^ Yy 14 (esK ks) (plV true s))):=by
 rw[h s L,hl]
 exact ⟨Y0 _ _ _,Qy _ 32 2 0 (by decide) (by decide),Qy _ 32 2 1 (by decide) (by decide)⟩
theorem Zcl {t:Nat} {ks:List Int} {F:Nat→List Int→List Int} (h:QXk t ks F) (s:Nat) (L:List Int) (hl:L.length=32) (T:BitVec 128) (hT:T=Q1 t (ks.drop (16+8*t)) (plV true s)) :
  (F s L).length=32∧cutV (F s L) 0=Q1 t (ks.take (16+8*t)) (cutV L 0 ^^^ T) ^^^ T∧cutV (F s L) 1=Q1 t (ks.take (16+8*t)) (cutV L 1 ^^^ dbN T 1) ^^^ dbN T 1:=by
 rw[h s L,hl,←hT]
 rw[Ni _ _ _ 2 (by omega)]
 exact ⟨Y0 _ _ _,Qy _ 32 2 0 (by decide) (by decide),Qy _ 32 2 1 (by decide) (by decide)⟩
def atL (s k:Nat):List Value:=(List.range 16).map fun i=>.int .u8 ((if i<k then s/256^i%256 else 0:Nat):Int)
theorem Zb6 (s:Nat):atL s 0=ZZ:=by rfl
theorem Ca (s k:Nat):(atL s k).length=16:=by simp [atL]
theorem Ig (s k:Nat) (hk:k<16):(atL s k).set k (.int .u8 ((s/256^k%256:Nat):Int))=atL s (k+1):=by
 apply List.ext_getElem?
 intro j
 rw[List.getElem?_set]
 by_cases hj:j<16
 ·by_cases e:k=j
  ·subst e;simp [atL,hj]
  ·rw[if_neg e]
   simp only[atL,List.getElem?_map,List.getElem?_range hj,Option.map_some]
   have:(j<k)↔(j<k+1):=by omega
   simp only[this]
 ·rw[if_neg (by omega),List.getElem?_eq_none (by rw[Ca];omega),List.getElem?_eq_none (by rw[Ca];omega)]
theorem Zb5 (s:Nat) (hs:s<18446744073709551616):atL s 8=Fd.BL (plV true s):=by
 apply List.ext_getElem?
 intro j
 by_cases hj:j<16
 ·rw[Fd.X5 _ j hj]
  simp only[atL,List.getElem?_map,List.getElem?_range hj,Option.map_some]
  have e:(plV true s).toNat=s:=by
   unfold plV
   rw[if_pos rfl,BitVec.toNat_ofNat,Nat.mod_eq_of_lt (by omega)]
  unfold Fd.byV
  rw[e]
  by_cases h8:j<8
  ·rw[if_pos h8]
  ·rw[if_neg h8]
   have h2:18446744073709551616≤256^j:=Nat.le_trans (by decide:18446744073709551616≤256^8) (Nat.pow_le_pow_right (by decide) (by omega))
   rw[Nat.div_eq_of_lt (by omega)]
 ·rw[List.getElem?_eq_none (by rw[Ca];omega),List.getElem?_eq_none (by rw[Fd.Zl];omega)]
end Go.Proofs.YtehlppaidgkpaaaGreatDoor
