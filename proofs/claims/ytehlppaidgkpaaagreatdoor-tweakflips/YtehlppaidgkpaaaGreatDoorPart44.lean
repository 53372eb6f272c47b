import Derived.Test.YtehlppaidgkpaaaGreatDoorPart42
import Derived.Test.YtehlppaidgkpaaaGreatDoorPart43
import Derived.Test.YtehlppaidgkpaaaGreatDoorPart41
import Derived.Test.YtehlppaidgkpaaaGreatDoorPart24
import Derived.Deep.Cut
import Derived.Test.YtehlppaidgkpaaaGreatDoorPart39
import Derived.Test.YtehlppaidgkpaaaGreatDoorPart40
namespace Go.Proofs.YtehlppaidgkpaaaGreatDoor
open Go.RowKit
set_option linter.unusedVariables false
set_option linter.unusedSimpArgs false
theorem Bg (w:World):(execOp (fun _=>undef) { dst:=some 0,op:=Op.alloc 27,type:=0,pos:="",after:=#[],guard:=none }).run Tryz.prog w=.ok (.value (.pointer (some ⟨w.heap.size,0,none⟩))) (w.alloc (.cells ZZ.toArray 27)):=by kernel_rfl
theorem Xz {ops:Array Oper} {o:Oper} {a:Act} {w:World} {K:Act→World→Prop} {Q:Exit→Act→World→Prop} {E:Prop} (hgd:o.guard=none) (d:Nat) (hd:o.dst=some d) (ho:o.op=.alloc 27)
  (h:∀ u b,Hid (u=w.alloc (.cells ZZ.toArray 27))→Hid (b=w.heap.size)→K (a.put (some d) (.pointer (some ⟨b,0,none⟩))) u):if Region.wanted o (yielded ops a.tmps)=true then Oper.wp Tryz.prog o a w K Q else E:=by
 have hw:Region.wanted o (yielded ops a.tmps)=true:=by simp [Region.wanted,hgd]
 rw[if_pos hw]
 have z:=h _ _ rfl rfl
 rw[←hd] at z
 have q:(execOp a.eval o).run Tryz.prog w=.ok (.value (.pointer (some ⟨w.heap.size,0,none⟩))) (w.alloc (.cells ZZ.toArray 27)):=by
  have e:=Bg w
  simp only[execOp,ho] at e ⊢
  exact e
 unfold Oper.wp
 rw[q]
 exact z
def Qr (L:List (Nat×Nat×(Nat→Nat))) (c:Nat):Prop:=∃ x,x∈L∧x.1=c
structure Sti (A B:Nat) (L:List (Nat×Nat×(Nat→Nat))) (w0 u:World):Prop where
 key:∀ x,x∈L→Zm u x.1 x.2.1 x.2.2
 rest:∀ b,A≤b→b<B→¬ Qr L b→u.heap[b]?=w0.heap[b]?
 size:B≤u.heap.size
structure KlP (A B:Nat) (L:List (Nat×Nat×(Nat→Nat))) (w0:World):Prop where
 low:∀ x,x∈L→A≤x.1∧x.1<B
 one:∀ x y,x∈L→y∈L→x.1=y.1→x=y
 typ:∀ x,x∈L→∃ R:Array Value,w0.heap[x.1]?=some (.cells R 135 (0,0))
theorem Sti.stay {A B:Nat} {L:List (Nat×Nat×(Nat→Nat))} {w0 u v:World} (hL:KlP A B L w0) (h:Sti A B L w0 u) (hk:∀ c,A≤c→c<B→v.heap[c]?=u.heap[c]?) (hs:u.heap.size≤v.heap.size):Sti A B L w0 v:=
 ⟨fun x hx=>(h.key x hx).sameK (hk _ (hL.low x hx).1 (hL.low x hx).2) hs,fun b h1 h2 h3=>(hk b h1 h2).trans (h.rest b h1 h2 h3),Nat.le_trans h.size hs⟩
theorem KlP.cst {A B:Nat} {L:List (Nat×Nat×(Nat→Nat))} {w0:World} (hL:KlP A B L w0):Cst B (Qr L) (Sti A B L w0):=
 ⟨fun c h=>by obtain ⟨x,hx,rfl⟩:=h;exact (hL.low x hx).2,fun u h=>h.size,fun u v h hk hs=>h.stay hL (fun c _ hc=>hk c hc) hs⟩
theorem Sti.gb {A B:Nat} {L:List (Nat×Nat×(Nat→Nat))} {w0 u v:World} (hL:KlP A B L w0) (h:Sti A B L w0 u) {x:Nat×Nat×(Nat→Nat)} (hx:x∈L) (hb:u.grownBy v (some x.1)) (hK:Zm v x.1 x.2.1 x.2.2):Sti A B L w0 v:=by
 refine ⟨fun y hy=>?_,fun b h1 h2 h3=>(hb.block b (Nat.lt_of_lt_of_le h2 h.size) (fun e=>h3 (by injection e with e;exact ⟨x,hx,e.symm⟩))).trans (h.rest b h1 h2 h3),Nat.le_trans h.size hb.size⟩
 by_cases e:y.1=x.1
 ·rw[hL.one y x hy hx e];exact hK
 ·exact (h.key y hy).sameK (hb.block y.1 (h.key y hy).ciph.here (fun q=>by injection q with q;exact e q)) hb.size
theorem KlP.not {A B:Nat} {L:List (Nat×Nat×(Nat→Nat))} {w0:World} (hL:KlP A B L w0) {b:Nat} {t:TypeId} {cs:List Value} (hb:Bx w0 b t cs) (ht:t≠135):¬ Qr L b:=fun h=>by
 obtain ⟨x,hx,e⟩:=h
 obtain ⟨R,hR⟩:=hL.typ x hx
 exact Z4 hb hR ht e.symm
theorem Sti.bx {A B:Nat} {L:List (Nat×Nat×(Nat→Nat))} {w0 u:World} (hL:KlP A B L w0) (h:Sti A B L w0 u) {b:Nat} {t:TypeId} {cs:List Value} (hb:Bx w0 b t cs) (hA:A≤b) (hB:b<B) (ht:t≠135):Bx u b t cs:=hb.keep (h.rest b hA hB (hL.not hb ht))
theorem Eb {A B:Nat} {L:List (Nat×Nat×(Nat→Nat))} {w0:World} (hL:KlP A B L w0) (sh:Nat) (cs:List Value) (hA:A≤sh) (hB:sh<B) (hs:Bx w0 sh 115 cs) (x:Nat×Nat×(Nat→Nat)) (hx:x∈L) (hg:cs[4]?=some (.pointer (some ⟨x.1,0,none⟩))):DoI (Qr L) (Sti A B L w0) 190 (.pointer (some ⟨sh,0,none⟩)) (Js x.2.1 x.2.2):=fun v u h=>by
 have hb:=h.bx hL hs hA hB (by decide)
 refine (N1 sh x.1 x.2.1 x.2.2 v u (fun e=>hL.not hs (by decide) ⟨x,hx,e.symm⟩) (hb.cell 4 _ hg) (h.key x hx)).mono fun e w' hh=>?_
 obtain ⟨rfl,h1,h2⟩:=hh.out
 exact ⟨rfl,h.gb hL hx h2 h1,Gk.of_gb h2 ⟨x,hx,rfl⟩⟩
theorem Ea {A B:Nat} {L:List (Nat×Nat×(Nat→Nat))} {w0:World} (hL:KlP A B L w0) (x:Nat×Nat×(Nat→Nat)) (hx:x∈L):DoI (Qr L) (Sti A B L w0) 188 (.pointer (some ⟨x.1,0,none⟩)) (Js x.2.1 x.2.2):=fun v u h=>by
 refine (D7 x.1 x.2.1 x.2.2 v u (h.key x hx)).mono fun e w' hh=>?_
 obtain ⟨rfl,h1,h2⟩:=hh.out
 exact ⟨rfl,h.gb hL hx h2 h1,Gk.of_gb h2 ⟨x,hx,rfl⟩⟩
def Od (Ks:Nat→Prop) (I:World→Prop) (fn:Nat) (cs:Array Value) (F:Nat→Nat→BitVec 128):Prop:=∀ (s n:Nat) (u:World),s<18446744073709551616→n≤1024→I u→Calls Tryz.prog fn (#[.int .u64 (s:Nat),.int .i64 (n:Nat)]++cs) u fun e w'=>Hid (e=.returned (Fd.BV (F s n))∧I w'∧Gk Ks u w')
def Pq (fn:Nat) (Ks:Nat→Prop) (I:World→Prop) (st c:Nat) (F:Nat→List Int→List Int):Prop:=∀ (s b off cp:Nat) (zs:List Int) (u:World),I u→s<18446744073709551616→16≤zs.length→zs.length≤1024→zs.length%st=0→Zj zs→¬ Ks b→Zf u (.slice (some ⟨b,off,none⟩) zs.length cp) zs →
 Calls Tryz.prog fn #[.pointer (some ⟨c,0,none⟩),.int .u64 (s:Nat),.slice (some ⟨b,off,none⟩) zs.length cp] u fun e u'=>Hid (∃ x d,e=.returned (.tuple #[.slice (some ⟨x,0,none⟩) zs.length d,.int .i64 0])∧u.heap.size≤x∧Zf u' (.slice (some ⟨x,0,none⟩) zs.length d) (F s zs)∧I u'∧Gk Ks u u')
theorem Qv {w:World} {b off n c:Nat} {zs:List Int} (h:Zf w (.slice (some ⟨b,off,none⟩) n c) zs):zs.length=n∧n≤c∧∀ i,i<zs.length→w.cell? ⟨b,off+i,none⟩=some (.int .u8 (zs.getD i 0)):=by
 obtain ⟨a,cap,he,hle,_,_,h4⟩:=h
 injection he with h1 h2 h3
 subst h1
 refine ⟨h2.symm,by rw[h2,h3];exact hle,?_⟩
 rcases h4 with h4 | ⟨b',o',e,h4⟩
 ·intro i hi;rw[h4] at hi;simp at hi
 ·injection e with e;injection e with e1 e2;subst e1 e2;exact h4
theorem W7 {w:World} {b off c:Nat} {zs:List Int} (h1:zs.length≤c) (h2:c≤maxLen) (h:∀ i,i<zs.length→w.cell? ⟨b,off+i,none⟩=some (.int .u8 (zs.getD i 0))):Zf w (.slice (some ⟨b,off,none⟩) zs.length c) zs:=
 ⟨some ⟨b,off,none⟩,c,rfl,h1,h2,(fun e=>by cases e),.inr ⟨b,off,rfl,h⟩⟩
theorem Fi (L:List Int) (i:Nat) (hi:i<L.length):(Za L)[i]?=some (.int .u8 (L.getD i 0)):=by
 simp [Za,List.getElem?_map,List.getElem?_eq_getElem hi,List.getD_eq_getElem?_getD]
theorem Sg {w:World} {x:Nat} {t:TypeId} {zs:List Int} (h:Bx w x t (Za zs)) (hm:zs.length≤maxLen):Zf w (.slice (some ⟨x,0,none⟩) zs.length zs.length) zs:=
 W7 (Nat.le_refl _) hm fun i hi=>by rw[Nat.zero_add];exact h.cell i _ (Fi zs i hi)
theorem C6 (L:List Int):(Za L).length=L.length:=by simp [Za]
theorem Ru (F:Nat→BitVec 128) (k:Nat):bkL F k=Za (bkZ F (16*k) k):=by
 apply List.ext_getElem?
 intro i
 by_cases hi:i<16*k
 ·rw[Fi _ i (by rw[Gn];exact hi),←Le F (16*k) k rfl]
  exact Zbu F (16*k) k i (Nat.le_refl _) hi
 ·rw[List.getElem?_eq_none (by rw[Xt];omega),List.getElem?_eq_none (by rw[C6,Gn];omega)]
set_option maxHeartbeats 800000 in
set_option maxRecDepth 100000 in
theorem Nc (s:Nat) (n:Int) (w:World) (hs:s<18446744073709551616) :
  Calls Tryz.prog 181 #[.int .u64 (s:Nat),.int .i64 n] w fun e w'=>Hid (e=.returned (Fd.BV (Fd.rv (plV true s)))∧Below w.heap.size w w'):=by
 obtain ⟨M,HMM⟩:∃ M,Hid (M=Fd.BL (Fd.rv (plV true s))):=⟨_,rfl⟩
 have HG:Hid (∀ u,Calls Tryz.prog 182 #[.int .u64 0,.int .u64 (s:Nat)] u fun e w'=>Hid (e=.returned (.agg M.toArray)∧Below u.heap.size u w')):=fun u=>by
  rw[HMM.out];unfold plV;rw[if_pos rfl]
  obtain ⟨h1,h2⟩:=G5 s hs
  have q:=Fd.Pg (BitVec.ofNat 128 s) u
  rw[h1,h2] at q
  exact q.mono fun e w' hh=>hh
 have HLN:Hid (M.length=16∧(∀ x∈M,x.oneCell'=true)):=by rw[HMM.out];exact ⟨rfl,Ys _⟩
 show Calls Tryz.prog 181 #[_,_] w fun e w'=>Hid (e=.returned (.agg (Fd.BL (Fd.rv (plV true s))).toArray)∧_)
 rw[←HMM.out]
 obtain ⟨w1,hw1⟩:∃ w1,w1=w.alloc (.cells ZZ.toArray 27):=⟨_,rfl⟩
 have HB1:Hid (Bx w1 w.heap.size 27 ZZ∧Below w.heap.size w w1):=by rw[hw1];exact ⟨Bx.new w 27 ZZ,(Below.refl _ _).alloc (Nat.le_refl _) _⟩
 clear hs
 go_enter Tryz.func181,Tryz.ntmps181
 go_upto_region 1 with fail
 rw[show w.alloc (.cells _ 27)=w1 from hw1.symm]
 clear hw1
 obtain ⟨m,HM2⟩:∃ m,Hid (w.heap.size=m):=⟨_,rfl⟩
 rw[HM2.out] at HB1 ⊢
 go_wp2_with (first
  | (go_at_call 182;refine (HG.out _).mono ?_;intro e4 w4 hh;obtain ⟨rfl,hb4⟩:=hh.out;have HB4:Hid (Bx w4 m 27 ZZ∧Below m w w4):=⟨HB1.out.1.below hb4,HB1.out.2.trans (hb4.mono (by have:=HB1.out.1.lt;omega))⟩;clear hh hb4)
  | (refine Zg (by rfl) 27 (.tmp 4) (.tmp 6) (by rfl) ZZ M m (by rfl) (by rfl) HB4.out.1 (by rw[HLN.out.1];rfl) (by rw[HLN.out.1];kernel_rfl) HLN.out.2 ?_;intro u9 hb9 hg9))
 refine Y4 (b:=m) M rfl rfl hb9.range Tryz.underlying27 rfl (by rw[HLN.out.1];kernel_rfl) ⟨rfl,?_⟩
 have hfin:Below m w u9:=HB4.out.2.trans (Yd hg9 (by have:=HB4.out.1.lt;omega) (by omega))
 first | exact hfin | (rw[HM2.out];exact hfin)
theorem Hg {w:World} {p m:Nat} {x:Value} {M:List Value} (hp:w.cell? ⟨p,0,none⟩=some x) (hpm:p<m) (hb:Bx w m 27 ZZ) (hM:M.length=16):(w.setCells m 0 M).cell? ⟨p,0,none⟩=some x∧(w.setCells m 0 M).there m 0 16:=by
 refine ⟨?_,Xr (hb.store M (by rw[hM];rfl)) hM⟩
 rw[World.cell?_of_block (a:=⟨p,0,none⟩) ((Yc m M 0 w).block p (World.block_lt_of_cell? w _ hp) (fun e=>by injection e with e;omega))]
 exact hp
set_option maxHeartbeats 800000 in
set_option maxRecDepth 100000 in
theorem Un {B:Nat} {Ks:Nat→Prop} {I:World→Prop} (hC:Cst B Ks I) (p g:Nat) (E:BitVec 128→BitVec 128) (s:Nat) (n:Int) (w:World) (hs:s<18446744073709551616) (hI:I w) (hp:w.cell? ⟨p,0,none⟩=some (.pointer (some ⟨g,0,none⟩))) (hpk:¬ Ks p) (HU:DoI Ks I 188 (.pointer (some ⟨g,0,none⟩)) E) :
  Calls Tryz.prog 187 #[.int .u64 (s:Nat),.int .i64 n,.pointer (some ⟨p,0,none⟩)] w fun e w'=>Hid (e=.returned (Fd.BV (E (plV true s)))∧I w'∧Gk Ks w w'):=by
 obtain ⟨v,HV⟩:∃ v,Hid (v=plV true s):=⟨_,rfl⟩
 obtain ⟨L,HL⟩:∃ L,Hid (L=Fd.BL v):=⟨_,rfl⟩
 obtain ⟨M,HMM⟩:∃ M,Hid (M=Fd.BL (E v)):=⟨_,rfl⟩
 have HG:Hid (∀ u,Calls Tryz.prog 38 #[.int .u64 0,.int .u64 (s:Nat)] u fun e w'=>Hid (e=.returned (.agg L.toArray)∧Below u.heap.size u w')):=fun u=>by
  rw[HL.out,HV.out];unfold plV;rw[if_pos rfl];exact K7 s hs u
 have HK:Hid (∀ u,I u→Calls Tryz.prog 188 #[.pointer (some ⟨g,0,none⟩),.agg L.toArray] u fun e w'=>Hid (e=.returned (.agg M.toArray)∧I w'∧Gk Ks u w')):=fun u hu=>by
  rw[HL.out,HMM.out];exact HU v u hu
 have HLN:Hid (M.length=16∧(∀ x∈M,x.oneCell'=true)):=by rw[HMM.out];exact ⟨rfl,Ys _⟩
 rw[←HV.out]
 show Calls Tryz.prog 187 #[_,_,_] w fun e w'=>Hid (e=.returned (.agg (Fd.BL (E v)).toArray)∧_)
 rw[←HMM.out]
 obtain ⟨w1,hw1⟩:∃ w1,w1=w.alloc (.cells ZZ.toArray 27):=⟨_,rfl⟩
 have hb1:Below w.heap.size w w1:=by rw[hw1];exact (Below.refl _ _).alloc (Nat.le_refl _) _
 have HB1:Hid (Bx w1 w.heap.size 27 ZZ∧Below w.heap.size w w1∧B≤w.heap.size):=by rw[hw1];exact ⟨Bx.new w 27 ZZ,(Below.refl _ _).alloc (Nat.le_refl _) _,hC.size w hI⟩
 have hpl:p<w.heap.size:=World.block_lt_of_cell? w _ hp
 have c0:w1.cell? ⟨p,0,none⟩=some (.pointer (some ⟨g,0,none⟩)):=by rw[hb1.cell hpl];exact hp
 have HID:Hid (I w1.drew∧Gk Ks w w1.drew):=⟨hC.below (hC.below hI hb1) (Below.refl _ _).drew,(Gk.of_below hb1).below (Below.refl _ _).drew⟩
 have HPK:Hid (¬ Ks p∧p<w.heap.size):=⟨hpk,hpl⟩
 clear hs hI hp hpk hb1 hpl HU
 go_enter Tryz.func187,Tryz.ntmps187
 go_upto_region 1 with fail
 rw[show w.alloc (.cells _ 27)=w1 from hw1.symm]
 clear hw1
 obtain ⟨m,HM2⟩:∃ m,Hid (w.heap.size=m):=⟨_,rfl⟩
 rw[HM2.out] at HB1 HPK ⊢
 have HNK:Hid (¬ Ks m):=hC.new HB1.out.2.2
 have HW1:Hid (m<w1.heap.size):=HB1.out.1.lt
 have hU:Tryz.prog.underlying 27=some (.array 16 5):=Tryz.underlying27
 have hiM:(Tryz.prog.info? 27).map (·.size)=some M.length:=by rw[HLN.out.1];kernel_rfl
 have hM16:M.length=16:=HLN.out.1
 have hM1:∀ v∈M,v.oneCell'=true:=HLN.out.2
 have ht1:w1.there m 0 16:=Xr HB1.out.1 rfl
 go_region_held3 (fun u=>u.cell? ⟨p,0,none⟩=some (.pointer (some ⟨g,0,none⟩))∧u.there m 0 16) (first | exact ⟨c0,ht1⟩ | exact hS2 | exact hS3 | exact hS4 | go_keep)
  (first
   | (go_at_call 38;refine (HG.out _).mono ?_;intro e2 w2 hh;obtain ⟨rfl,hb2⟩:=hh.out;have HB2:Hid (Bx w2 m 27 ZZ∧I w2∧Gk Ks w w2):=⟨(HB1.out.1.below (Below.refl _ _).drew).below hb2,hC.below HID.out.1 hb2,HID.out.2.below hb2⟩;have hS2:w2.cell? ⟨p,0,none⟩=some (.pointer (some ⟨g,0,none⟩))∧w2.there m 0 16:=⟨(hb2.cell (by have:=HPK.out.2;have:=HW1.out;simp;omega)).trans (by simpa using c0),Xr HB2.out.1 rfl⟩;clear hh hb2)
   | (go_at_call 188;refine (HK.out _ HB2.out.2.1).mono ?_;intro e3 w3 hh;obtain ⟨rfl,h1,h2⟩:=hh.out;have HB3:Hid (Bx w3 m 27 ZZ∧I w3∧Gk Ks w w3):=⟨HB2.out.1.gk h2 HNK.out,h1,HB2.out.2.2.trans h2⟩;have hS3:w3.cell? ⟨p,0,none⟩=some (.pointer (some ⟨g,0,none⟩))∧w3.there m 0 16:=⟨h2.cell HPK.out.1 hS2.1,Xr HB3.out.1 rfl⟩;have hS4:=Hg hS3.1 HPK.out.2 HB3.out.1 hM16;clear hh h1 h2))
 have HB9:Hid (Bx (w3.setCells m 0 M) m 27 M∧w3.grownBy (w3.setCells m 0 M) (some m)):=⟨HB3.out.1.store M (by rw[hM16];rfl),Yc m M 0 w3⟩
 obtain ⟨u9,hu9⟩:∃ u9,u9=w3.setCells m 0 M:=⟨_,rfl⟩
 rw[←hu9] at HB9 ⊢
 clear hu9 hS2 hS3 hS4
 go_wp2
 exact Y4 (b:=m) M rfl rfl HB9.out.1.range Tryz.underlying27 rfl hiM ⟨rfl,hC.gb HB3.out.2.1 HB9.out.2 HB1.out.2.2,HB3.out.2.2.gb HB9.out.2 (by have:=HM2.out;omega)⟩
theorem Wj {B:Nat} {Ks:Nat→Prop} {I:World→Prop} (hC:Cst B Ks I) (fn:Nat) (F:Nat→Nat→BitVec 128) (h:∀ (s n:Nat) (u:World),s<18446744073709551616→n≤1024→Calls Tryz.prog fn #[.int .u64 (s:Nat),.int .i64 (n:Nat)] u fun e w'=>Hid (e=.returned (Fd.BV (F s n))∧Below u.heap.size u w')):Od Ks I fn #[] F:=fun s n u hs hn hI=>by
 rw[Array.append_empty]
 refine (h s n u hs hn).mono fun e w' hh=>?_
 obtain ⟨rfl,hb⟩:=hh.out
 exact ⟨rfl,hC.below hI hb,Gk.of_below hb⟩
def sbN (k:Nat):Nat:=if k=10∨k=15∨k=2 then 179 else if k=11∨k=16∨k=3 then 180 else 181
def sbG (k:Nat):Nat:=if k=10∨k=15∨k=2 then 149 else if k=11∨k=16∨k=3 then 150 else 151
def sbF (k:Nat) (s n:Nat):BitVec 128:=if k=10∨k=15∨k=2 then plV false s else if k=11∨k=16∨k=3 then plV true s else Fd.rv (plV true s)
theorem Zcb (k:Nat) (s n:Nat) (u:World) (hs:s<18446744073709551616) (hn:n≤1024):Calls Tryz.prog (sbN k) #[.int .u64 (s:Nat),.int .i64 (n:Nat)] u fun e w'=>Hid (e=.returned (Fd.BV (sbF k s n))∧Below u.heap.size u w'):=by
 unfold sbN sbF
 split
 ·exact Ti s n u hs
 ·split
  ·exact Nd s n u hs
  ·exact Nc s n u hs
theorem S0 (k:Nat):∀ args u,(callFunc (sbN k) args).run Tryz.prog u=.ok (.enter (sbN k) args) u:=by
 unfold sbN
 split
 ·exact fun args u=>Zu Tryz.func179 (by rfl) (by rfl) args u
 ·split
  ·exact fun args u=>Zu Tryz.func180 (by rfl) (by rfl) args u
  ·exact fun args u=>Zu Tryz.func181 (by rfl) (by rfl) args u
theorem Zca (k:Nat) (p:Value) (w:World):Calls Tryz.prog (sbG k) #[p] w fun e w'=>e=.returned (fV (sbN k))∧w'=w:=by
 unfold sbN sbG
 split
 ·exact F6 p w
 ·split
  ·exact W1 p w
  ·exact Vz p w
def Ju (L:List Int) (m j:Nat) (x:BitVec 128):List Int:=(List.range (16*m)).map fun p=>if p/16=j then ((Fd.byV x (p%16):Nat):Int) else L.getD p 0
theorem Bb (L:List Int) (m j:Nat) (x:BitVec 128):(Ju L m j x).length=16*m:=by simp [Ju]
theorem Gm (L:List Int) (m j:Nat) (x:BitVec 128) (p:Nat) (hp:p<16*m):(Ju L m j x).getD p 0=if p/16=j then ((Fd.byV x (p%16):Nat):Int) else L.getD p 0:=by
 rw[List.getD_eq_getElem?_getD,Ju,List.getElem?_map,List.getElem?_range hp];rfl
theorem Md {L:List Int} (h:Zj L) (m j:Nat) (x:BitVec 128):Zj (Ju L m j x):=fun p=>by
 by_cases hp:p<16*m
 ·rw[Gm L m j x p hp]
  split
  ·have:=Fd.Q3 x (p%16);omega
  ·exact h p
 ·rw[List.getD_eq_getElem?_getD,List.getElem?_eq_none (by rw[Bb];omega)];simp
theorem It {L:List Int} (hb:Zj L) (j i:Nat) (hi:i<16):((Fd.byV (cutV L j) i:Nat):Int)=L.getD (16*j+i) 0:=by
 unfold cutV
 rw[Fd.Wh _ (fun i=>Ge hb _) i hi]
 unfold Ql
 have:=hb (16*j+i)
 omega
theorem Vw (L:List Int) (m j:Nat) (x:BitVec 128) (i:Nat) (hi:i<m) (hn:i≠j):cutV (Ju L m j x) i=cutV L i:=by
 unfold cutV
 congr 1
 exact Gz _ _ 16 fun q hq=>by
  unfold Ql
  rw[Gm L m j x _ (by omega),if_neg (by omega)]
theorem Wi (L:List Int) (m j:Nat) (x:BitVec 128) (hj:j<m):cutV (Ju L m j x) j=x:=Is fun i hi=>by
 rw[Gm L m j x _ (by omega),if_pos (by omega),show (16*j+i)%16=i by omega]
end Go.Proofs.YtehlppaidgkpaaaGreatDoor
