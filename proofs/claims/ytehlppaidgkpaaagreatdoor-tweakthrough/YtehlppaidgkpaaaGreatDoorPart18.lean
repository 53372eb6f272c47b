import Derived.Test.YtehlppaidgkpaaaGreatDoorBlk
import Derived.Test.YtehlppaidgkpaaaGreatDoorPart00
import Derived.Test.YtehlppaidgkpaaaGreatDoorPart17
import Derived.Lib.LazyBuf
import Derived.Laws.EntriesVeiled
import Derived.Deep.Cut
import Derived.Lib.SliceRun
namespace Go.Proofs.YtehlppaidgkpaaaGreatDoor
open Go.RowKit
set_option linter.unusedVariables false
def bt0 (x:Nat):Nat:=x/16777216%256
def bt1 (x:Nat):Nat:=x/65536%256
def bt2 (x:Nat):Nat:=x/256%256
def bt3 (x:Nat):Nat:=x%256
theorem Jz (x:Nat):bt0 x<256:=Nat.mod_lt _ (by decide)
theorem Jy (x:Nat):bt1 x<256:=Nat.mod_lt _ (by decide)
theorem Jx (x:Nat):bt2 x<256:=Nat.mod_lt _ (by decide)
theorem Jw (x:Nat):bt3 x<256:=Nat.mod_lt _ (by decide)
theorem Ci {x:Nat} (h:x<4294967296):wd (bt0 x) (bt1 x) (bt2 x) (bt3 x)=x:=by unfold wd bt0 bt1 bt2 bt3;omega
theorem Ju (x:Nat):(x:Int)/16777216%256=(bt0 x:Nat):=by unfold bt0;omega
theorem Jt (x:Nat):(x:Int)/65536%256=(bt1 x:Nat):=by unfold bt1;omega
theorem Js (x:Nat):(x:Int)/256%256=(bt2 x:Nat):=by unfold bt2;omega
theorem Jr (x:Nat):(x:Int)%256=(bt3 x:Nat):=by unfold bt3;omega
def Rc (a b c d:Nat):Nat:=O2 (bt0 a) (bt1 b) (bt2 c) (bt3 d)
def G7 (a b c d:Nat):Nat:=wd (SB (bt0 a)) (SB (bt1 b)) (SB (bt2 c)) (SB (bt3 d))
theorem Gd (a b c d:Nat):Rc a b c d<4294967296:=Y1 (Y1 (Y1 (I0 (Jz a)) (I1 (Jy b))) (Pb (Jx c))) (Pa (Jw d))
theorem Kd (a b c d:Nat):G7 a b c d<4294967296:=Vd (Xn _) (Xn _) (Xn _) (Xn _)
structure W4 where
 (a b c d:Nat)
def W4.ok (s:W4):Prop:=s.a<4294967296∧s.b<4294967296∧s.c<4294967296∧s.d<4294967296
def W4.val (s:W4):Value:=Rl s.a s.b s.c s.d
def W4.blk (s:W4):Value:=YtehlppaidgkpaaaGreatDoor.blk (bt0 s.a) (bt1 s.a) (bt2 s.a) (bt3 s.a) (bt0 s.b) (bt1 s.b) (bt2 s.b) (bt3 s.b) (bt0 s.c) (bt1 s.c) (bt2 s.c) (bt3 s.c) (bt0 s.d) (bt1 s.d) (bt2 s.d) (bt3 s.d)
def Cf (K:Nat→Nat) (r:Nat) (s:W4):W4:=⟨Nat.xor s.a (K (4*r)),Nat.xor s.b (K (4*r+1)),Nat.xor s.c (K (4*r+2)),Nat.xor s.d (K (4*r+3))⟩
def O4 (s:W4):W4:=⟨Rc s.a s.b s.c s.d,Rc s.b s.c s.d s.a,Rc s.c s.d s.a s.b,Rc s.d s.a s.b s.c⟩
def Tu (s:W4):W4:=⟨G7 s.a s.b s.c s.d,G7 s.b s.c s.d s.a,G7 s.c s.d s.a s.b,G7 s.d s.a s.b s.c⟩
theorem Ee (s:W4):(O4 s).ok:=⟨Gd _ _ _ _,Gd _ _ _ _,Gd _ _ _ _,Gd _ _ _ _⟩
theorem Tt (s:W4):(Tu s).ok:=⟨Kd _ _ _ _,Kd _ _ _ _,Kd _ _ _ _,Kd _ _ _ _⟩
theorem La {K:Nat→Nat} (hK:∀ i,K i<4294967296) (r:Nat) {s:W4} (h:s.ok):(Cf K r s).ok:=⟨Y1 h.1 (hK _),Y1 h.2.1 (hK _),Y1 h.2.2.1 (hK _),Y1 h.2.2.2 (hK _)⟩
def Ty (K:Nat→Nat):Nat→W4→W4
 | 0,s=>s
 | r+1,s=>Cf K (r+1) (O4 (Ty K r s))
def Ub (nr:Nat) (K:Nat→Nat) (s:W4):W4:=Cf K nr (Tu (Ty K (nr-1) (Cf K 0 s)))
structure J3 (w:World) (g o nr:Nat) (K:Nat→Nat):Prop where
 rounds:w.cell? ⟨g,o,none⟩=some (.int .i64 (nr:Nat))
 words:∀ i,i<4*(nr+1)→w.cell? ⟨g,o+1+i,none⟩=some (.int .u32 (K i:Nat))
 small:∀ i,K i<4294967296
 tab:Tab w g o
 here:g<w.heap.size
 some:1≤nr
 most:nr≤14
theorem Tab.below {B:Nat} {w w':World} {g o:Nat} (h:Tab w g o) (hb:Below B w w') (hg:g<B):Tab w' g o:=
 ⟨fun b hb'=>(hb.cell hg).trans (h.s b hb'),fun b hb'=>(hb.cell hg).trans (h.u b hb'),fun b hb'=>(hb.cell hg).trans (h.m b hb'),fun b hb'=>(hb.cell hg).trans (h.n b hb')⟩
theorem J3.below {B:Nat} {w w':World} {g o nr:Nat} {K:Nat→Nat} (h:J3 w g o nr K) (hb:Below B w w') (hg:g<B):J3 w' g o nr K:=
 ⟨(hb.cell hg).trans h.rounds,fun i hi=>(hb.cell hg).trans (h.words i hi),h.small,h.tab.below hb hg,Nat.lt_of_lt_of_le h.here hb.size,h.some,h.most⟩
theorem Below.drewN {B:Nat} {a w:World} (h:Below B a w) (m:Nat):Below B a (w.drewN m):=⟨h.os,h.tape,h.output,h.size,h.block⟩
theorem Zq {B:Nat} {w w':World} {g o n:Nat} (h:w.there g o n) (hb:Below B w w') (hg:g<B):w'.there g o n:=fun j hj=>by
 obtain ⟨h1,h2⟩:=h j hj
 exact ⟨by rw[hb.cell hg];exact h1,by rw[hb.frozen hg];exact h2⟩
theorem M0 {B g o nr:Nat} {K:Nat→Nat} {w:World} (hC:J3 w g o nr K) (hg:g<B) (a b c d m:Nat) (hm:Hid (m=Rc a b c d)):∀ u,Below B w u →
  Calls Tryz.prog 88 #[.pointer (some ⟨g,o,none⟩),.int .u32 (a:Nat),.int .u32 (b:Nat),.int .u32 (c:Nat),.int .u32 (d:Nat)] u fun e u'=>e=.returned (.int .u32 (m:Nat))∧Below B w u':=fun u hu=>by
 refine (O3 g o a b c d _ _ _ _ u (Jz a) (Jy b) (Jx c) (Jw d) (Ju a) (Jt b) (Js c) (Jr d) (hC.tab.below hu hg)).mono fun e u' ⟨h1,k,h2⟩=>?_
 subst h2
 exact ⟨by rw[h1,hm.out];rfl,Below.drewN hu k⟩
theorem Ds {B g o nr:Nat} {K:Nat→Nat} {w:World} (hC:J3 w g o nr K) (hg:g<B) (a b c d m:Nat) (hm:Hid (m=G7 a b c d)):∀ u,Below B w u →
  Calls Tryz.prog 90 #[.pointer (some ⟨g,o,none⟩),.int .u32 (a:Nat),.int .u32 (b:Nat),.int .u32 (c:Nat),.int .u32 (d:Nat)] u fun e u'=>e=.returned (.int .u32 (m:Nat))∧Below B w u':=fun u hu=>by
 refine (M4 g o a b c d _ _ _ _ u (Jz a) (Jy b) (Jx c) (Jw d) (Ju a) (Jt b) (Js c) (Jr d) (hC.tab.below hu hg)).mono fun e u' ⟨h1,k,h2⟩=>?_
 subst h2
 exact ⟨by rw[h1,hm.out];rfl,Below.drewN hu k⟩
theorem U7 {B g o nr:Nat} {K:Nat→Nat} {w:World} (hC:J3 w g o nr K) (hg:g<B) (hB:B≤w.heap.size) (r:Nat) (hr:r≤nr) (s t:W4) (hs:s.ok) (ht:Hid (t=Cf K r s)):∀ u,Below B w u →
  Calls Tryz.prog 86 #[.pointer (some ⟨g,o,none⟩),s.val,.int .i64 (r:Nat)] u fun e u'=>e=.returned t.val∧Below B w u':=fun u hu=>by
 have hC':=hC.below hu hg
 have:=hC.most
 refine (Zaz g o r s.a s.b s.c s.d _ _ _ _ u (by omega) hC'.here hs.1 hs.2.1 hs.2.2.1 hs.2.2.2 (hC.small _) (hC.small _) (hC.small _) (hC.small _) (hC'.words (4*r) (by omega)) (hC'.words (4*r+1) (by omega)) (hC'.words (4*r+2) (by omega)) (hC'.words (4*r+3) (by omega))).mono fun e u' ⟨h1,h2⟩=>?_
 exact ⟨by rw[h1,ht.out];rfl,hu.trans (h2.mono (Nat.le_trans hB hu.size))⟩
theorem Zad (s:W4) (hs:s.ok) (w:World):Calls Tryz.prog 87 #[s.blk] w fun e w'=>e=.returned s.val∧Below w.heap.size w w':=by
 refine (Dt _ _ _ _ _ _ _ _ _ _ _ _ _ _ _ _ w (Jz _) (Jy _) (Jx _) (Jw _) (Jz _) (Jy _) (Jx _) (Jw _) (Jz _) (Jy _) (Jx _) (Jw _) (Jz _) (Jy _) (Jx _) (Jw _)).mono fun e w' ⟨h1,h2⟩=>⟨?_,h2⟩
 rw[h1,Ci hs.1,Ci hs.2.1,Ci hs.2.2.1,Ci hs.2.2.2]
 rfl
theorem Zck (s:W4) (w:World):Calls Tryz.prog 89 #[s.val] w fun e w'=>e=.returned s.blk∧Below w.heap.size w w':=
 Hy s.a s.b s.c s.d _ _ _ _ _ _ _ _ _ _ _ _ _ _ _ _ w (Ju _) (Jt _) (Js _) (Jr _) (Ju _) (Jt _) (Js _) (Jr _) (Ju _) (Jt _) (Js _) (Jr _) (Ju _) (Jt _) (Js _) (Jr _)
end Go.Proofs.YtehlppaidgkpaaaGreatDoor
namespace Go.Proofs.YtehlppaidgkpaaaGreatDoor.Dg
open Go.RowKit
set_option linter.unusedVariables false
set_option linter.unusedSimpArgs false
def tkL (h:Int) (wd:Bool) (s:Zb) (half:Nat→Int) (fed:Nat):List Value:=
 .int .i64 h::fnV wd::(s.cells++((List.range 128).map (fun i=>Value.int .u8 (half i))++[.int .u64 fed]))
theorem Qu (h:Int) (wd:Bool) (s:Zb) (half:Nat→Int) (fed:Nat):(tkL h wd s half fed).length=139:=by simp [tkL,Zb.cells_length]
theorem Bv (h:Int) (wd:Bool) (s:Zb) (half:Nat→Int) (fed:Nat) :
  (tkL h wd s half fed)[0]?=some (.int .i64 h)∧(tkL h wd s half fed)[1]?=some (fnV wd)∧(∀ i,i<8→(tkL h wd s half fed)[2+i]?=s.cells[i]?)∧(∀ i,i<128→(tkL h wd s half fed)[10+i]?=some (.int .u8 (half i)))∧(tkL h wd s half fed)[138]?=some (.int .u64 fed):=by
 have hc:=s.cells_length
 refine ⟨rfl,rfl,?_,?_,?_⟩
 ·intro i hi
  rw[tkL,show 2+i=(i+1)+1 by omega,List.getElem?_cons_succ,List.getElem?_cons_succ,List.getElem?_append_left (by omega)]
 ·intro i hi
  rw[tkL,show 10+i=((8+i)+1)+1 by omega,List.getElem?_cons_succ,List.getElem?_cons_succ,List.getElem?_append_right (by omega),List.getElem?_append_left (by simp;omega)]
  rw[hc,show 8+i-8=i by omega]
  simp [hi]
 ·rw[tkL,show 138=(136+1)+1 by omega,List.getElem?_cons_succ,List.getElem?_cons_succ,List.getElem?_append_right (by omega),List.getElem?_append_right (by simp;omega)]
  simp [hc]
theorem TK.range {w:World} {g o:Nat} {h:Int} {wd:Bool} {s:Zb} {half:Nat→Int} {fed:Nat} (k:TK w g o h wd s half fed):w.rangeAt g o (tkL h wd s half fed):=by
 obtain ⟨h0,h1,h2,h3,h4⟩:=Bv h wd s half fed
 intro j v hv
 have hj:j<139:=by
  by_cases hj:j<139
  ·exact hj
  ·rw[List.getElem?_eq_none (by rw[Qu];omega)] at hv;cases hv
 by_cases j0:j=0
 ·subst j0;rw[h0] at hv;cases hv;exact k.hash
 by_cases j1:j=1
 ·subst j1;rw[h1] at hv;cases hv;exact k.fn
 by_cases j2:j<10
 ·obtain ⟨i,rfl⟩:∃ i,j=2+i:=⟨j-2,by omega⟩
  rw[h2 i (by omega)] at hv
  rw[←Nat.add_assoc]
  exact k.st i v hv
 by_cases j3:j<138
 ·obtain ⟨i,rfl⟩:∃ i,j=10+i:=⟨j-10,by omega⟩
  rw[h3 i (by omega)] at hv
  rw[←Nat.add_assoc]
  cases hv
  exact k.half i (by omega)
 ·obtain rfl:j=138:=by omega
  rw[h4] at hv;cases hv;exact k.fed
theorem TK.of {w:World} {g o:Nat} {h:Int} {wd:Bool} {s:Zb} {half:Nat→Int} {fed:Nat} (hr:w.rangeAt g o (tkL h wd s half fed)) (ht:w.there g o 139):TK w g o h wd s half fed:=by
 obtain ⟨h0,h1,h2,h3,h4⟩:=Bv h wd s half fed
 refine ⟨hr 0 _ h0,hr 1 _ h1,fun j v hv=>?_,fun i hi=>?_,hr 138 _ h4,ht⟩
 ·have hj:j<8:=by
   by_cases hj:j<s.cells.length
   ·exact hj
   ·rw[List.getElem?_eq_none (by omega)] at hv;cases hv
  have:=hr (2+j) v (by rw[h2 j hj];exact hv)
  rw[←Nat.add_assoc] at this
  exact this
 ·have:=hr (10+i) _ (h3 i hi)
  rw[←Nat.add_assoc] at this
  exact this
theorem N7 (s:Zb):∀ v∈s.cells,v.oneCell'=true:=by
 intro v hv
 simp only[Zb.cells,List.mem_map] at hv
 obtain ⟨x,_,rfl⟩:=hv
 rfl
theorem Mk (h:Int) (wd:Bool) (s:Zb) (half:Nat→Int) (fed:Nat):(tkL h wd s half fed).toArray.all (·.oneCell')=true:=all_oneCell_toArray (by
 intro v hv
 simp only[tkL,List.mem_cons,List.mem_append,List.mem_map,List.mem_singleton] at hv
 rcases hv with rfl | rfl | hv | ⟨i,_,rfl⟩ | rfl | hv
 ·rfl
 ·cases wd<;>rfl
 ·exact N7 s v hv
 ·rfl
 ·rfl
 ·simp at hv)
theorem Bw (h:Int) (wd:Bool) (s:Zb) (half:Nat→Int) (fed:Nat):(tkL h wd s half fed).toArray.size=139:=by simp [Qu]
def Dw (f:Nat→Int):Zb:=⟨f 0,f 1,f 2,f 3,f 4,f 5,f 6,f 7⟩
theorem Jv (f:Nat→Int) (j:Nat) (v:Value) (h:(Dw f).cells[j]?=some v):j<8∧v=.int .u64 (f j):=by
 have hj:j<8:=by
  by_cases hj:j<(Dw f).cells.length
  ·exact hj
  ·rw[List.getElem?_eq_none (by omega)] at h;cases h
 refine ⟨hj,?_⟩
 match j,hj with
 | 0,_=>exact (Option.some.inj h).symm
 | 1,_=>exact (Option.some.inj h).symm
 | 2,_=>exact (Option.some.inj h).symm
 | 3,_=>exact (Option.some.inj h).symm
 | 4,_=>exact (Option.some.inj h).symm
 | 5,_=>exact (Option.some.inj h).symm
 | 6,_=>exact (Option.some.inj h).symm
 | 7,_=>exact (Option.some.inj h).symm
theorem Xk (s:Zb):s.cells.toArray.all (·.oneCell')=true:=all_oneCell_toArray (by
 intro v hv
 simp only[Zb.cells,List.mem_map] at hv
 obtain ⟨x,_,rfl⟩:=hv
 rfl)
theorem Qw:(Tryz.prog.info? 138).map (·.size)=some 8:=by kernel_rfl
def Xe (h:Int) (i:Nat):Int:=if h=224 then bits .and .u64 (Ky (8+i)) 4294967295 else if h=256 then Ky i/4294967296 else if h=384 then Ky (8+i) else Ky i
def Zt (h:Int):Zb:=Dw (Xe h)
set_option maxHeartbeats 1600000 in
set_option maxRecDepth 100000 in
theorem Pe (w:World) (hT:Hid (Tables w)) :
  Calls Tryz.prog 94 #[.int .i64 224] w fun e w'=>e=.returned (.agg (Zt 224).cells.toArray)∧Below w.heap.size w w':=by
 have HB0:Hid (Below w.heap.size w ((w.alloc (.cells #[.int .u64 0,.int .u64 0,.int .u64 0,.int .u64 0,.int .u64 0,.int .u64 0,.int .u64 0,.int .u64 0] 138)).alloc (.cells #[.int .u64 0,.int .u64 0,.int .u64 0,.int .u64 0,.int .u64 0,.int .u64 0,.int .u64 0,.int .u64 0] 138))∧((w.alloc (.cells #[.int .u64 0,.int .u64 0,.int .u64 0,.int .u64 0,.int .u64 0,.int .u64 0,.int .u64 0,.int .u64 0] 138)).alloc (.cells #[.int .u64 0,.int .u64 0,.int .u64 0,.int .u64 0,.int .u64 0,.int .u64 0,.int .u64 0,.int .u64 0] 138)).there (w.heap.size+1) 0 8∧((w.alloc (.cells #[.int .u64 0,.int .u64 0,.int .u64 0,.int .u64 0,.int .u64 0,.int .u64 0,.int .u64 0,.int .u64 0] 138)).alloc (.cells #[.int .u64 0,.int .u64 0,.int .u64 0,.int .u64 0,.int .u64 0,.int .u64 0,.int .u64 0,.int .u64 0] 138)).there w.heap.size 0 8):=⟨((Below.refl _ _).alloc (Nat.le_refl _) _).alloc (by simp) _,Qf w _ _ 138 138 8 (by decide),World.there_alloc (Zi w _ 138 8 (by decide)) _⟩
 go_enter Tryz.func94,Tryz.ntmps94
 go_wp2
 go_loopw [5] (fun v wr=>∃ q:Nat,q≤8∧v=.int .i64 q∧Hid (Below w.heap.size w wr)∧Hid (wr.there (w.heap.size+1) 0 8∧wr.there w.heap.size 0 8)∧Hid (∀ j,j<q→wr.cell? ⟨w.heap.size+1,j,none⟩=some (.int .u64 (Xe 224 j)))) (fun v _=>8-(intOf v).toNat)
 case atStart=>exact ⟨0,by omega,rfl,HB0.out.1,HB0.out.2,fun j hj=>by omega⟩
 case round=>
  obtain ⟨q,hq,rfl,HB,HT,HF⟩:=hrel
  clear HB0
  by_cases hlt:q<8
  ·obtain ⟨jj,hjj⟩:∃ jj,jj=8+q:=⟨_,rfl⟩
   have hTr:=hT.out.below HB.out hT.out.size
   have c1:=hTr.roots (jj) (by omega)
   have hql:(q:Int)<8:=by omega
   have hq0:(0:Int)≤(q:Int):=by omega
   have e8:(8:Int)+(q:Int)=(jj:Int):=by omega
   have e9:(jj:Int)<16:=by omega
   have HJ:Hid (jj=8+q):=hjj
   clear hjj
   have ff:wr.frozen? ⟨w.heap.size+1,q,none⟩=false:=by have:=(HT.out.1 q hlt).2;rw[Nat.zero_add] at this;exact this
   have fs:(wr.cell? ⟨w.heap.size+1,q,none⟩).isSome=true:=by have:=(HT.out.1 q hlt).1;rw[Nat.zero_add] at this;exact this
   obtain ⟨z,hz⟩:=Option.isSome_iff_exists.1 fs
   clear fs hTr
   go_wp2
   go_roundw
   case rel=>
    have hf:=X3 (F:=fun j=>.int .u64 (Xe 224 j)) HF.out HT.out.1 hlt (.int .u64 (Xe 224 q)) rfl
    obtain rfl:=HJ.out
    refine ⟨q+1,by omega,by go_num,HB.out.setCell (by simp) _,⟨World.there_setCells HT.out.1 _ q [_],World.there_setCells HT.out.2 _ q [_]⟩,hf.1⟩
   case measure=>simp [intOf];omega
  ·obtain rfl:q=8:=by omega
   have HR:Hid (wr.rangeAt (w.heap.size+1) 0 (Zt 224).cells):=fun j v hv=>by
    obtain ⟨hj,rfl⟩:=Jv _ j v hv
    rw[Nat.zero_add]
    exact HF.out j hj
   have HY:Hid (wr.there w.heap.size 0 (Zt 224).cells.toArray.size):=HT.out.2
   have HZ:Hid ((Tryz.prog.info? 138).map (·.size)=some (Zt 224).cells.toArray.size):=Qw
   obtain ⟨E,HE⟩:∃ E:Zb,Hid (E=Zt 224):=⟨_,rfl⟩
   rw[←HE.out] at HR HY HZ
   clear HF
   go_wp2_with (first
    | (refine wpList_load_mid (by rfl) 138 (.tmp 3) (by rfl) (w.heap.size+1) 0 (by rfl) E.cells _ HR.out Tryz.underlying138 rfl Qw ?_)
    | (refine wpList_store_mid (by rfl) 138 (.tmp 2) (.tmp 40) (by rfl) w.heap.size 0 E.cells.toArray (by rfl) (by rfl) HY.out HZ.out (Xk E) ?_)
    | fail)
   have hl:=run_loadVar_mid (P:=Tryz.prog) (wr.setCells w.heap.size 0 E.cells) w.heap.size 0 138 E.cells _ (World.rangeAt_setCells_same wr w.heap.size 0 E.cells HT.out.2) Tryz.underlying138 rfl Qw
   refine bodyPost_ret (v:=.agg E.cells.toArray) ?_ rfl ⟨by rw[HE.out],below_setCells _ (Nat.le_refl _) _ _ _ HB.out⟩
   rw[Zx Tryz.results94]
   simp [Act.put,asAddr,hl]
set_option maxHeartbeats 1600000 in
set_option maxRecDepth 100000 in
theorem He (w:World) (hT:Hid (Tables w)) :
  Calls Tryz.prog 94 #[.int .i64 256] w fun e w'=>e=.returned (.agg (Zt 256).cells.toArray)∧Below w.heap.size w w':=by
 have HB0:Hid (Below w.heap.size w ((w.alloc (.cells #[.int .u64 0,.int .u64 0,.int .u64 0,.int .u64 0,.int .u64 0,.int .u64 0,.int .u64 0,.int .u64 0] 138)).alloc (.cells #[.int .u64 0,.int .u64 0,.int .u64 0,.int .u64 0,.int .u64 0,.int .u64 0,.int .u64 0,.int .u64 0] 138))∧((w.alloc (.cells #[.int .u64 0,.int .u64 0,.int .u64 0,.int .u64 0,.int .u64 0,.int .u64 0,.int .u64 0,.int .u64 0] 138)).alloc (.cells #[.int .u64 0,.int .u64 0,.int .u64 0,.int .u64 0,.int .u64 0,.int .u64 0,.int .u64 0,.int .u64 0] 138)).there (w.heap.size+1) 0 8∧((w.alloc (.cells #[.int .u64 0,.int .u64 0,.int .u64 0,.int .u64 0,.int .u64 0,.int .u64 0,.int .u64 0,.int .u64 0] 138)).alloc (.cells #[.int .u64 0,.int .u64 0,.int .u64 0,.int .u64 0,.int .u64 0,.int .u64 0,.int .u64 0,.int .u64 0] 138)).there w.heap.size 0 8):=⟨((Below.refl _ _).alloc (Nat.le_refl _) _).alloc (by simp) _,Qf w _ _ 138 138 8 (by decide),World.there_alloc (Zi w _ 138 8 (by decide)) _⟩
 go_enter Tryz.func94,Tryz.ntmps94
 go_wp2
 go_loopw [5] (fun v wr=>∃ q:Nat,q≤8∧v=.int .i64 q∧Hid (Below w.heap.size w wr)∧Hid (wr.there (w.heap.size+1) 0 8∧wr.there w.heap.size 0 8)∧Hid (∀ j,j<q→wr.cell? ⟨w.heap.size+1,j,none⟩=some (.int .u64 (Xe 256 j)))) (fun v _=>8-(intOf v).toNat)
 case atStart=>exact ⟨0,by omega,rfl,HB0.out.1,HB0.out.2,fun j hj=>by omega⟩
 case round=>
  obtain ⟨q,hq,rfl,HB,HT,HF⟩:=hrel
  clear HB0
  by_cases hlt:q<8
  ·obtain ⟨jj,hjj⟩:∃ jj,jj=8+q:=⟨_,rfl⟩
   have hTr:=hT.out.below HB.out hT.out.size
   have c1:=hTr.roots (q) (by omega)
   have hql:(q:Int)<8:=by omega
   have hq0:(0:Int)≤(q:Int):=by omega
   skip
   have ff:wr.frozen? ⟨w.heap.size+1,q,none⟩=false:=by have:=(HT.out.1 q hlt).2;rw[Nat.zero_add] at this;exact this
   have fs:(wr.cell? ⟨w.heap.size+1,q,none⟩).isSome=true:=by have:=(HT.out.1 q hlt).1;rw[Nat.zero_add] at this;exact this
   obtain ⟨z,hz⟩:=Option.isSome_iff_exists.1 fs
   clear fs hTr
   go_wp2
   go_roundw
   case rel=>
    have hf:=X3 (F:=fun j=>.int .u64 (Xe 256 j)) HF.out HT.out.1 hlt (.int .u64 (Xe 256 q)) rfl
    skip
    refine ⟨q+1,by omega,by go_num,HB.out.setCell (by simp) _,⟨World.there_setCells HT.out.1 _ q [_],World.there_setCells HT.out.2 _ q [_]⟩,hf.1⟩
   case measure=>simp [intOf];omega
  ·obtain rfl:q=8:=by omega
   have HR:Hid (wr.rangeAt (w.heap.size+1) 0 (Zt 256).cells):=fun j v hv=>by
    obtain ⟨hj,rfl⟩:=Jv _ j v hv
    rw[Nat.zero_add]
    exact HF.out j hj
   have HY:Hid (wr.there w.heap.size 0 (Zt 256).cells.toArray.size):=HT.out.2
   have HZ:Hid ((Tryz.prog.info? 138).map (·.size)=some (Zt 256).cells.toArray.size):=Qw
   obtain ⟨E,HE⟩:∃ E:Zb,Hid (E=Zt 256):=⟨_,rfl⟩
   rw[←HE.out] at HR HY HZ
   clear HF
   go_wp2_with (first
    | (refine wpList_load_mid (by rfl) 138 (.tmp 3) (by rfl) (w.heap.size+1) 0 (by rfl) E.cells _ HR.out Tryz.underlying138 rfl Qw ?_)
    | (refine wpList_store_mid (by rfl) 138 (.tmp 2) (.tmp 40) (by rfl) w.heap.size 0 E.cells.toArray (by rfl) (by rfl) HY.out HZ.out (Xk E) ?_)
    | fail)
   have hl:=run_loadVar_mid (P:=Tryz.prog) (wr.setCells w.heap.size 0 E.cells) w.heap.size 0 138 E.cells _ (World.rangeAt_setCells_same wr w.heap.size 0 E.cells HT.out.2) Tryz.underlying138 rfl Qw
   refine bodyPost_ret (v:=.agg E.cells.toArray) ?_ rfl ⟨by rw[HE.out],below_setCells _ (Nat.le_refl _) _ _ _ HB.out⟩
   rw[Zx Tryz.results94]
   simp [Act.put,asAddr,hl]
theorem Wl {w:World} {b n B:Nat} {zs:List Int} (hz:zs.length=n) (hB:B≤b) (hn:n≤maxLen) (h:w.rowIs b 5 n (fun j=>.int .u8 (zs.getD j 0))):w.ownsRow B 5 1 (.slice (some ⟨b,0,none⟩) n n) n (Za zs):=by
 obtain ⟨c,h1,h2,h3⟩:=h
 refine ⟨by rw[Zu];omega,.inr ⟨b,n,c,rfl,hB,h1,Nat.le_refl _,hn,by omega,?_⟩⟩
 rw[List.take_of_length_le (by simp;omega)]
 apply List.ext_getElem?
 intro i
 by_cases hi:i<n
 ·rw[Array.getElem?_toList,h3 i hi]
  simp [Za,List.getD,List.getElem?_eq_getElem (show i<zs.length by omega)]
 ·rw[List.getElem?_eq_none (by simp;omega),List.getElem?_eq_none (by rw[Zu];omega)]
set_option maxHeartbeats 1600000 in
set_option maxRecDepth 100000 in
theorem Zch (C:List Value) (zs:List Int) (w:World) (hC:Hid (C=Za zs)) (hz:Hid (zs.length=64)) :
  Calls Tryz.prog 59 #[.agg C.toArray,.int .i64 28] w fun e w'=>∃ g,e=.returned (.slice (some ⟨g,0,none⟩) 28 28)∧w'.ownsRow w.heap.size 5 1 (.slice (some ⟨g,0,none⟩) 28 28) 28 (Za (zs.take 28))∧Below w.heap.size w w':=by
 have hmk:∀ w,(Instr.makeSlice 22 (.int .i64 28) (.int .i64 28)).run Tryz.prog w=.ok (.slice (some ⟨w.heap.size,0,none⟩) 28 28) (w.alloc (.cells #[.int .u8 0,.int .u8 0,.int .u8 0,.int .u8 0,.int .u8 0,.int .u8 0,.int .u8 0,.int .u8 0,.int .u8 0,.int .u8 0,.int .u8 0,.int .u8 0,.int .u8 0,.int .u8 0,.int .u8 0,.int .u8 0,.int .u8 0,.int .u8 0,.int .u8 0,.int .u8 0,.int .u8 0,.int .u8 0,.int .u8 0,.int .u8 0,.int .u8 0,.int .u8 0,.int .u8 0,.int .u8 0] 5)):=fun _=>by kernel_rfl
 have hlen:(zs.take 28).length=28:=by rw[List.length_take,hz.out];rfl
 have hv:Zf ((w.alloc (.cells C.toArray 147)).alloc (.cells #[.int .u8 0,.int .u8 0,.int .u8 0,.int .u8 0,.int .u8 0,.int .u8 0,.int .u8 0,.int .u8 0,.int .u8 0,.int .u8 0,.int .u8 0,.int .u8 0,.int .u8 0,.int .u8 0,.int .u8 0,.int .u8 0,.int .u8 0,.int .u8 0,.int .u8 0,.int .u8 0,.int .u8 0,.int .u8 0,.int .u8 0,.int .u8 0,.int .u8 0,.int .u8 0,.int .u8 0,.int .u8 0] 5)) (.slice (some ⟨w.heap.size,0,none⟩) 28 64) (zs.take 28):=by
  refine ⟨_,64,by rw[hlen],by rw[hlen];omega,by simp [maxLen],(fun e=>by cases e),.inr ⟨w.heap.size,0,rfl,fun i hi=>?_⟩⟩
  rw[hlen] at hi
  rw[World.cell?_alloc_past _ _ _ (by simp),World.cell?_alloc_at _ _ _ _ rfl,hC.out,Nat.zero_add]
  have h64:=hz.out
  simp [Za,List.getD,List.getElem?_take,hi,List.getElem?_eq_getElem (show i<zs.length by omega)]
 have hcp:=Kk _ (w.heap.size+1) 0 28 28 _ 28 64 28 _ rfl hv (Qf w _ _ 147 5 28 (by decide))
 rw[List.take_take,Nat.min_self] at hcp
 have HO:Hid ((((w.alloc (.cells C.toArray 147)).alloc (.cells #[.int .u8 0,.int .u8 0,.int .u8 0,.int .u8 0,.int .u8 0,.int .u8 0,.int .u8 0,.int .u8 0,.int .u8 0,.int .u8 0,.int .u8 0,.int .u8 0,.int .u8 0,.int .u8 0,.int .u8 0,.int .u8 0,.int .u8 0,.int .u8 0,.int .u8 0,.int .u8 0,.int .u8 0,.int .u8 0,.int .u8 0,.int .u8 0,.int .u8 0,.int .u8 0,.int .u8 0,.int .u8 0] 5)).setCells (w.heap.size+1) 0 (Za (zs.take 28))).ownsRow w.heap.size 5 1 (.slice (some ⟨w.heap.size+1,0,none⟩) 28 28) 28 (Za (zs.take 28))):=by
  refine Wl hlen (by omega) (by simp [maxLen]) ?_
  have hr:=World.rowIs_alloc (w.alloc (.cells C.toArray 147)) (List.replicate 28 (Value.int .u8 0)).toArray 5 (fun _=>.int .u8 0) (fun i hi=>Gj 28 i hi)
  have hs:(w.alloc (.cells C.toArray 147)).heap.size=w.heap.size+1:=by simp
  rw[hs] at hr
  refine (Go.rowIs_setCells (Za (zs.take 28)) 0 _ _ hr).congr (fun j hj=>?_)
  have hj':j<28:=hj
  rw[if_pos ⟨Nat.zero_le _,by rw[Zu,hlen];omega⟩]
  have h64:=hz.out
  simp [Za,List.getD,List.getElem?_take,hj',List.getElem?_eq_getElem (show j<zs.length by omega)]
 have HB:Hid (Below w.heap.size w (((w.alloc (.cells C.toArray 147)).alloc (.cells #[.int .u8 0,.int .u8 0,.int .u8 0,.int .u8 0,.int .u8 0,.int .u8 0,.int .u8 0,.int .u8 0,.int .u8 0,.int .u8 0,.int .u8 0,.int .u8 0,.int .u8 0,.int .u8 0,.int .u8 0,.int .u8 0,.int .u8 0,.int .u8 0,.int .u8 0,.int .u8 0,.int .u8 0,.int .u8 0,.int .u8 0,.int .u8 0,.int .u8 0,.int .u8 0,.int .u8 0,.int .u8 0] 5)).setCells (w.heap.size+1) 0 (Za (zs.take 28)))):=below_setCells _ (by omega) _ _ _ (((Below.refl _ _).alloc (Nat.le_refl _) _).alloc (by simp) _)
 clear hv hlen
 go_enter Tryz.func59,Tryz.ntmps59
 go_wp2
 go_ret
 exact ⟨_,rfl,HO,HB⟩
set_option maxHeartbeats 1600000 in
set_option maxRecDepth 100000 in
theorem Et (C:List Value) (zs:List Int) (w:World) (hC:Hid (C=Za zs)) (hz:Hid (zs.length=64)) :
  Calls Tryz.prog 59 #[.agg C.toArray,.int .i64 32] w fun e w'=>∃ g,e=.returned (.slice (some ⟨g,0,none⟩) 32 32)∧w'.ownsRow w.heap.size 5 1 (.slice (some ⟨g,0,none⟩) 32 32) 32 (Za (zs.take 32))∧Below w.heap.size w w':=by
 have hmk:∀ w,(Instr.makeSlice 22 (.int .i64 32) (.int .i64 32)).run Tryz.prog w=.ok (.slice (some ⟨w.heap.size,0,none⟩) 32 32) (w.alloc (.cells #[.int .u8 0,.int .u8 0,.int .u8 0,.int .u8 0,.int .u8 0,.int .u8 0,.int .u8 0,.int .u8 0,.int .u8 0,.int .u8 0,.int .u8 0,.int .u8 0,.int .u8 0,.int .u8 0,.int .u8 0,.int .u8 0,.int .u8 0,.int .u8 0,.int .u8 0,.int .u8 0,.int .u8 0,.int .u8 0,.int .u8 0,.int .u8 0,.int .u8 0,.int .u8 0,.int .u8 0,.int .u8 0,.int .u8 0,.int .u8 0,.int .u8 0,.int .u8 0] 5)):=fun _=>by kernel_rfl
 have hlen:(zs.take 32).length=32:=by rw[List.length_take,hz.out];rfl
 have hv:Zf ((w.alloc (.cells C.toArray 147)).alloc (.cells #[.int .u8 0,.int .u8 0,.int .u8 0,.int .u8 0,.int .u8 0,.int .u8 0,.int .u8 0,.int .u8 0,.int .u8 0,.int .u8 0,.int .u8 0,.int .u8 0,.int .u8 0,.int .u8 0,.int .u8 0,.int .u8 0,.int .u8 0,.int .u8 0,.int .u8 0,.int .u8 0,.int .u8 0,.int .u8 0,.int .u8 0,.int .u8 0,.int .u8 0,.int .u8 0,.int .u8 0,.int .u8 0,.int .u8 0,.int .u8 0,.int .u8 0,.int .u8 0] 5)) (.slice (some ⟨w.heap.size,0,none⟩) 32 64) (zs.take 32):=by
  refine ⟨_,64,by rw[hlen],by rw[hlen];omega,by simp [maxLen],(fun e=>by cases e),.inr ⟨w.heap.size,0,rfl,fun i hi=>?_⟩⟩
  rw[hlen] at hi
  rw[World.cell?_alloc_past _ _ _ (by simp),World.cell?_alloc_at _ _ _ _ rfl,hC.out,Nat.zero_add]
  have h64:=hz.out
  simp [Za,List.getD,List.getElem?_take,hi,List.getElem?_eq_getElem (show i<zs.length by omega)]
 have hcp:=Kk _ (w.heap.size+1) 0 32 32 _ 32 64 32 _ rfl hv (Qf w _ _ 147 5 32 (by decide))
 rw[List.take_take,Nat.min_self] at hcp
 have HO:Hid ((((w.alloc (.cells C.toArray 147)).alloc (.cells #[.int .u8 0,.int .u8 0,.int .u8 0,.int .u8 0,.int .u8 0,.int .u8 0,.int .u8 0,.int .u8 0,.int .u8 0,.int .u8 0,.int .u8 0,.int .u8 0,.int .u8 0,.int .u8 0,.int .u8 0,.int .u8 0,.int .u8 0,.int .u8 0,.int .u8 0,.int .u8 0,.int .u8 0,.int .u8 0,.int .u8 0,.int .u8 0,.int .u8 0,.int .u8 0,.int .u8 0,.int .u8 0,.int .u8 0,.int .u8 0,.int .u8 0,.int .u8 0] 5)).setCells (w.heap.size+1) 0 (Za (zs.take 32))).ownsRow w.heap.size 5 1 (.slice (some ⟨w.heap.size+1,0,none⟩) 32 32) 32 (Za (zs.take 32))):=by
  refine Wl hlen (by omega) (by simp [maxLen]) ?_
  have hr:=World.rowIs_alloc (w.alloc (.cells C.toArray 147)) (List.replicate 32 (Value.int .u8 0)).toArray 5 (fun _=>.int .u8 0) (fun i hi=>Gj 32 i hi)
  have hs:(w.alloc (.cells C.toArray 147)).heap.size=w.heap.size+1:=by simp
  rw[hs] at hr
  refine (Go.rowIs_setCells (Za (zs.take 32)) 0 _ _ hr).congr (fun j hj=>?_)
  have hj':j<32:=hj
  rw[if_pos ⟨Nat.zero_le _,by rw[Zu,hlen];omega⟩]
  have h64:=hz.out
  simp [Za,List.getD,List.getElem?_take,hj',List.getElem?_eq_getElem (show j<zs.length by omega)]
 have HB:Hid (Below w.heap.size w (((w.alloc (.cells C.toArray 147)).alloc (.cells #[.int .u8 0,.int .u8 0,.int .u8 0,.int .u8 0,.int .u8 0,.int .u8 0,.int .u8 0,.int .u8 0,.int .u8 0,.int .u8 0,.int .u8 0,.int .u8 0,.int .u8 0,.int .u8 0,.int .u8 0,.int .u8 0,.int .u8 0,.int .u8 0,.int .u8 0,.int .u8 0,.int .u8 0,.int .u8 0,.int .u8 0,.int .u8 0,.int .u8 0,.int .u8 0,.int .u8 0,.int .u8 0,.int .u8 0,.int .u8 0,.int .u8 0,.int .u8 0] 5)).setCells (w.heap.size+1) 0 (Za (zs.take 32)))):=below_setCells _ (by omega) _ _ _ (((Below.refl _ _).alloc (Nat.le_refl _) _).alloc (by simp) _)
 clear hv hlen
 go_enter Tryz.func59,Tryz.ntmps59
 go_wp2
 go_ret
 exact ⟨_,rfl,HO,HB⟩
theorem Pn (h:Int):(Ja h)[0]?=some (.int .i64 h)∧(Ja h)[1]?=some .nilFunc∧(∀ i,i<128→(Ja h)[10+i]?=some (.int .u8 0))∧(Ja h)[138]?=some (.int .u64 0):=by
 refine ⟨rfl,rfl,?_,rfl⟩
 intro i hi
 have e:(Ja h)[10+i]?=(List.replicate 128 (Value.int .u8 0)++[.int .u64 0])[i]?:=by
  rw[Ja,Ve,show 10+i=((8+i)+1)+1 by omega,List.getElem?_cons_succ,List.getElem?_cons_succ,List.getElem?_append_right (by simp),List.map_replicate]
  rw[List.length_map,List.length_replicate,show 8+i-8=i by omega]
 rw[e,List.getElem?_append_left (by rw[List.length_replicate];exact hi),List.getElem?_replicate,if_pos hi]
theorem I8 {W V:World} {L:Nat} (h:Int) (wd:Bool) (E:Zb) (hr:W.rangeAt L 0 (Ja h)) (ht:W.there L 0 139) (hb:∀ j,V.cell? ⟨L,j,none⟩=(W.setCell ⟨L,1,none⟩ (fnV wd)).cell? ⟨L,j,none⟩) (htV:V.there L 0 139) :
  (V.setCells L 2 E.cells).rangeAt L 0 (tkL h wd E (fun _=>0) 0):=by
 obtain ⟨h0,h1,h2,h3,h4⟩:=Bv h wd E (fun _=>0) 0
 obtain ⟨k0,k1,k3,k4⟩:=Pn h
 have hout:∀ j,(j<2∨10≤j)→(V.setCells L 2 E.cells).cell? ⟨L,j,none⟩=V.cell? ⟨L,j,none⟩:=fun j hj=>World.cell?_setCells_out L E.cells 2 V ⟨L,j,none⟩ (fun _ _=>by rcases hj with hj | hj;exact .inl hj;exact .inr hj)
 have hout1:∀ j,j≠1→(W.setCell ⟨L,1,none⟩ (fnV wd)).cell? ⟨L,j,none⟩=W.cell? ⟨L,j,none⟩:=fun j hj=>World.cell?_setCells_out L [fnV wd] 1 W ⟨L,j,none⟩ (fun _ _=>by show j<1∨1+1≤j;omega)
 intro j v hv
 have hj:j<139:=by
  by_cases hj:j<139
  ·exact hj
  ·rw[List.getElem?_eq_none (by rw[Qu];omega)] at hv;cases hv
 rw[Nat.zero_add]
 by_cases j0:j=0
 ·subst j0;rw[h0] at hv;cases hv;rw[hout 0 (by omega),hb,hout1 0 (by omega)];exact hr 0 _ k0
 by_cases j1:j=1
 ·subst j1;rw[h1] at hv;cases hv;rw[hout 1 (by omega),hb];exact World.cell?_setCell_same' _ _ _ (ht 1 (by omega)).1
 by_cases j2:j<10
 ·obtain ⟨i,rfl⟩:∃ i,j=2+i:=⟨j-2,by omega⟩
  rw[h2 i (by omega)] at hv
  exact World.rangeAt_setCells_same V L 2 E.cells (fun j hj=>by have:=htV (2+j) (by have:E.cells.length=8:=rfl;omega);rw[Nat.zero_add] at this;exact this) i v hv
 by_cases j3:j<138
 ·obtain ⟨i,rfl⟩:∃ i,j=10+i:=⟨j-10,by omega⟩
  rw[h3 i (by omega)] at hv
  cases hv
  rw[hout _ (by omega),hb,hout1 _ (by omega)]
  have:=hr (10+i) _ (k3 i (by omega))
  rw[Nat.zero_add] at this
  exact this
 ·obtain rfl:j=138:=by omega
  rw[h4] at hv;cases hv;rw[hout _ (by omega),hb,hout1 _ (by omega)];exact hr 138 _ k4
set_option maxHeartbeats 600000 in
set_option maxRecDepth 100000 in
theorem D9 (h:Int) (w:World) (hblk:Yd h=64) (hfw:Hid (∀ v,Tables v→Calls Tryz.prog 94 #[.int .i64 h] v fun e w'=>e=.returned (.agg (Zt h).cells.toArray)∧Below v.heap.size v w')) (hT:Hid (Tables w)) :
  Calls Tryz.prog 56 #[.int .i64 h] w fun e w'=>e=.returned (.tuple #[.agg (tkL h false (Zt h) (fun _=>0) 0).toArray,.int .i64 0])∧Below w.heap.size w w':=by
 have e71:=Ez h
 have hz:Tryz.zeroCells141.size=139:=by rw[Vr];exact W7
 have ht:((w.alloc (.cells Tryz.zeroCells141 141)).alloc (.cells Tryz.zeroCells141 141)).there (w.heap.size+1) 0 139:=by
  simpa using Zi (w.alloc (.cells Tryz.zeroCells141 141)) Tryz.zeroCells141 141 139 (by rw[hz];exact Nat.le_refl _)
 have HT:Hid (((w.alloc (.cells Tryz.zeroCells141 141)).alloc (.cells Tryz.zeroCells141 141)).there (w.heap.size+1) 0 139):=ht
 clear hz ht
 go_enter Tryz.func56,Tryz.ntmps56
 go_wp2_with (first
  | (refine wpList_store_mid (by rfl) 141 (.tmp 4) (.tmp 6) (by rfl) (w.heap.size+1) 0 (Ja h).toArray (by rfl) (by rfl) (by rw[Mp];exact HT.out) (by rw[Mp];exact Kv) (Sf h) ?_)
  | fail)
 refine (Xa h _).mono ?_
 rintro e w1 ⟨rfl,rfl⟩
 rw[hblk]
 have hb2:Below w.heap.size w (((w.alloc (.cells Tryz.zeroCells141 141)).alloc (.cells Tryz.zeroCells141 141)).setCells (w.heap.size+1) 0 (Ja h)):=
  below_setCells _ (by omega) _ _ _ (((Below.refl _ _).alloc (Nat.le_refl _) _).alloc (by simp) _)
 have ht2:(((w.alloc (.cells Tryz.zeroCells141 141)).alloc (.cells Tryz.zeroCells141 141)).setCells (w.heap.size+1) 0 (Ja h)).there w.heap.size 0 139:=
  World.there_setCells (World.there_alloc (Zi w Tryz.zeroCells141 141 139 (by rw[Vr,W7];exact Nat.le_refl _)) _) _ _ _
 have ht3:(((w.alloc (.cells Tryz.zeroCells141 141)).alloc (.cells Tryz.zeroCells141 141)).setCells (w.heap.size+1) 0 (Ja h)).there (w.heap.size+1) 0 139:=World.there_setCells HT.out _ _ _
 have hr2:(((w.alloc (.cells Tryz.zeroCells141 141)).alloc (.cells Tryz.zeroCells141 141)).setCells (w.heap.size+1) 0 (Ja h)).rangeAt (w.heap.size+1) 0 (Ja h):=World.rangeAt_setCells_same _ _ _ _ (by rw[Wj];exact HT.out)
 have hs2:(((w.alloc (.cells Tryz.zeroCells141 141)).alloc (.cells Tryz.zeroCells141 141)).setCells (w.heap.size+1) 0 (Ja h)).heap.size=w.heap.size+2:=by rw[size_setCells];simp
 generalize (((w.alloc (.cells Tryz.zeroCells141 141)).alloc (.cells Tryz.zeroCells141 141)).setCells (w.heap.size+1) 0 (Ja h))=W2 at hb2 ht2 ht3 hr2 hs2 ⊢
 have HB2:Hid (Below w.heap.size w W2∧W2.there w.heap.size 0 139∧W2.there (w.heap.size+1) 0 139∧W2.rangeAt (w.heap.size+1) 0 (Ja h)∧W2.heap.size=w.heap.size+2):=⟨hb2,ht2,ht3,hr2,hs2⟩
 have c1:W2.cell? ⟨w.heap.size+1,1,none⟩=some .nilFunc:=hr2 1 _ rfl
 have f1:W2.frozen? ⟨w.heap.size+1,1,none⟩=false:=(ht3 1 (by omega)).2
 clear hb2 ht2 ht3 hr2 hs2 HT e71
 go_wp2_with (first
  | (go_at_call 94;refine (hfw.out _ ?_).mono ?_)
  | fail)
 ·exact ((hT.out.below HB2.out.1 hT.out.size).kept fun k hk=>World.heap_setCells_other W2 (w.heap.size+1) 1 [_] (by have:=hT.out.size;have:=HB2.out.2.2.2.2;omega) (by have:=hT.out.size;omega))
 rintro e5 w5 ⟨rfl,hb5⟩
 obtain ⟨E,HE⟩:∃ E:Zb,Hid (E=Zt h):=⟨_,rfl⟩
 rw[←HE.out]
 have hsz:(W2.setCell ⟨w.heap.size+1,1,none⟩ (fnV false)).heap.size=w.heap.size+2:=(size_setCells (w.heap.size+1) [fnV false] 1 W2).trans HB2.out.2.2.2.2
 have hst:=fun (b o n:Nat) (ht:W2.there b o n)=>World.there_setCells ht (w.heap.size+1) 1 [fnV false]
 have hb5':Below (w.heap.size+2) (W2.setCell ⟨w.heap.size+1,1,none⟩ (fnV false)) w5:=by rw[←hsz];exact hb5
 have hth:∀ b n,b<w.heap.size+2→W2.there b 0 n→w5.there b 0 n:=fun b n hb ht j hj=>by
  rw[hb5'.cell (p:=⟨b,0+j,none⟩) hb,hb5'.frozen (p:=⟨b,0+j,none⟩) hb]
  exact hst b 0 n ht j hj
 have HB5:Hid (Below w.heap.size w w5∧w5.there w.heap.size 0 139∧w5.there (w.heap.size+1) 0 139):=⟨(HB2.out.1.setCell (p:=⟨w.heap.size+1,1,none⟩) (by simp) _).trans (hb5'.mono (by omega)),hth _ _ (by omega) HB2.out.2.1,hth _ _ (by omega) HB2.out.2.2.1⟩
 have hr5:=I8 h false E HB2.out.2.2.2.1 HB2.out.2.2.1 (fun j=>hb5'.cell (p:=⟨w.heap.size+1,j,none⟩) (by simp)) HB5.out.2.2
 have HR5:Hid ((w5.setCells (w.heap.size+1) 2 E.cells).rangeAt (w.heap.size+1) 0 (tkL h false E (fun _=>0) 0)):=hr5
 have HX:Hid (w5.there (w.heap.size+1) 2 E.cells.toArray.size):=fun j hj=>by
  have:=HB5.out.2.2 (2+j) (by have:E.cells.toArray.size=8:=rfl;omega)
  rw[Nat.zero_add] at this
  exact this
 have HZ:Hid ((Tryz.prog.info? 138).map (·.size)=some E.cells.toArray.size):=Qw
 clear hr5 hth hb5' hst hsz hb5 HB2 c1 f1
 go_upto_region 9 with (first
  | (refine wpList_store_mid (by rfl) 138 (.tmp 18) (.tmp 17) (by rfl) (w.heap.size+1) 2 E.cells.toArray (by rfl) (by rfl) HX.out HZ.out (Xk E) ?_)
  | fail)
 have HB6:Hid (Below w.heap.size w (w5.setCells (w.heap.size+1) 2 E.cells)∧(w5.setCells (w.heap.size+1) 2 E.cells).there w.heap.size 0 139):=⟨below_setCells _ (by omega) _ _ _ HB5.out.1,World.there_setCells HB5.out.2.1 _ _ _⟩
 generalize w5.setCells (w.heap.size+1) 2 E.cells=w6 at HR5 HB6 ⊢
 obtain ⟨T,HTT⟩:∃ T:List Value,Hid (T=tkL h false E (fun _=>0) 0):=⟨_,rfl⟩
 rw[←HTT.out] at HR5
 have HLA:Hid (T.toArray.size=139):=by show _=_;rw[HTT.out];exact Bw _ _ _ _ _
 have HL:Hid (T.length=139):=by rw[HTT.out];exact Qu _ _ _ _ _
 have HY:Hid (w6.there w.heap.size 0 T.toArray.size):=by rw[HLA.out];exact HB6.out.2
 have HZ6:Hid ((Tryz.prog.info? 141).map (·.size)=some T.toArray.size):=by rw[HLA.out];exact Kv
 have HO:Hid (T.toArray.all (·.oneCell')=true):=by rw[HTT.out];exact Mk _ _ _ _ _
 clear HB5
 go_wp2_with (first
  | (refine wpList_load_mid (by rfl) 141 (.tmp 4) (by rfl) (w.heap.size+1) 0 (by rfl) T _ HR5.out Tryz.underlying141 rfl (by rw[HL.out];exact Kv) ?_)
  | (refine wpList_store_mid (by rfl) 141 (.tmp 2) (.tmp 19) (by rfl) w.heap.size 0 T.toArray (by rfl) (by rfl) HY.out HZ6.out HO.out ?_)
  | fail)
 have hl:=run_loadVar_mid (P:=Tryz.prog) (w6.setCells w.heap.size 0 T) w.heap.size 0 141 T _ (World.rangeAt_setCells_same w6 w.heap.size 0 T (by rw[HL.out];exact HB6.out.2)) Tryz.underlying141 rfl (by rw[HL.out];exact Kv)
 refine bodyPost_ret (v:=.tuple #[.agg T.toArray,.int .i64 0]) ?_ rfl ⟨by rw[HTT.out,HE.out],below_setCells _ (Nat.le_refl _) _ _ _ HB6.out.1⟩
 rw[results_cell_tmp Tryz.results56]
 simp [asAddr,hl]
theorem TK.below {w v:World} {g o:Nat} {h:Int} {wd:Bool} {s:Zb} {half:Nat→Int} {fed:Nat} (k:TK w g o h wd s half fed) (b:Below w.heap.size w v):TK v g o h wd s half fed:=by
 have hg:g<w.heap.size:=lt_of_cell k.hash
 exact ⟨by rw[b.cell hg];exact k.hash,by rw[b.cell (p:=⟨g,o+1,none⟩) hg];exact k.fn,Y4 k.st b hg,fun i hi=>by rw[b.cell (p:=⟨g,o+10+i,none⟩) hg];exact k.half i hi,by rw[b.cell (p:=⟨g,o+138,none⟩) hg];exact k.fed,fun j hj=>by rw[b.cell (p:=⟨g,o+j,none⟩) hg,b.frozen (p:=⟨g,o+j,none⟩) hg];exact k.there j hj⟩
theorem TK.setByte {w:World} {g o:Nat} {h:Int} {wd:Bool} {s:Zb} {half:Nat→Int} {fed:Nat} (k:TK w g o h wd s half fed) (u:Nat) (x:Int) (hu:u<128) :
  TK (w.setCell ⟨g,o+10+u,none⟩ (.int .u8 x)) g o h wd s (fun i=>if i=u then x else half i) fed∧Touch w (w.setCell ⟨g,o+10+u,none⟩ (.int .u8 x)) g o 139:=by
 have hx:=k.setHalf u [x] (by simp;omega)
 refine ⟨?_,hx.2⟩
 have e:(fun i=>if u≤i∧i<u+[x].length then [x].getD (i-u) 0 else half i)=fun i=>if i=u then x else half i:=by
  funext i
  by_cases hi:i=u
  ·subst hi;simp
  ·rw[if_neg (by simp;omega),if_neg hi]
 rw[e] at hx
 exact hx.1
theorem TK.clear {w:World} {g o:Nat} {h:Int} {wd:Bool} {s:Zb} {half:Nat→Int} {fed:Nat} (k:TK w g o h wd s half fed) (u n:Nat) (hu:u+n≤128) :
  TK (w.setCells g (o+10+u) (List.replicate n (.int .u8 0))) g o h wd s (fun i=>if u≤i∧i<u+n then 0 else half i) fed∧Touch w (w.setCells g (o+10+u) (List.replicate n (.int .u8 0))) g o 139:=by
 have hx:=k.setHalf u (List.replicate n 0) (by simp;omega)
 have e1:Za (List.replicate n 0)=List.replicate n (.int .u8 0):=by simp [Za]
 rw[e1] at hx
 refine ⟨?_,hx.2⟩
 have e:(fun i=>if u≤i∧i<u+(List.replicate n (0:Int)).length then (List.replicate n (0:Int)).getD (i-u) 0 else half i)=fun i=>if u≤i∧i<u+n then 0 else half i:=by
  funext i
  by_cases hi:u≤i∧i<u+n
  ·rw[if_pos (by simpa using hi),if_pos hi]
   simp only[List.getD,List.getElem?_replicate]
   split<;>rfl
  ·rw[if_neg (by simpa using hi),if_neg hi]
 rw[e] at hx
 exact hx.1
theorem TK.fun_eq {w:World} {g o:Nat} {h:Int} {wd:Bool} {s:Zb} {half half':Nat→Int} {fed:Nat} (k:TK w g o h wd s half fed) (e:∀ i,i<128→half i=half' i):TK w g o h wd s half' fed:=
 ⟨k.hash,k.fn,k.st,fun i hi=>by rw[←e i hi];exact k.half i hi,k.fed,k.there⟩
theorem TK.newer {w:World} {g o:Nat} {h:Int} {wd:Bool} {s:Zb} {half:Nat→Int} {fed b:Nat} (k:TK w g o h wd s half fed) (hb:g≠b) (vs:List Value) (o':Nat):TK (w.setCells b o' vs) g o h wd s half fed:=by
 have ho:∀ p:Addr,p.block=g→(w.setCells b o' vs).cell? p=w.cell? p:=fun p hp=>World.cell?_setCells_out b vs o' w p (fun e _=>absurd (hp.symm.trans e) hb)
 exact ⟨by rw[ho _ rfl];exact k.hash,by rw[ho _ rfl];exact k.fn,fun j v hv=>by rw[ho _ rfl];exact k.st j v hv,fun i hi=>by rw[ho _ rfl];exact k.half i hi,by rw[ho _ rfl];exact k.fed,World.there_setCells k.there b o' vs⟩
theorem Ki {w v:World} {g o n:Nat} (h:Touch w v g o n) {b:Nat} (hb:w.heap.size≤b) (vs:List Value) (o':Nat) (hg:g<w.heap.size):Touch w (v.setCells b o' vs) g o n:=
 ⟨by rw[Yq];exact h.os,by rw[Z9];exact h.tape,by rw[Z1];exact h.output,by rw[size_setCells];exact h.size,
  fun k hk hne=>by rw[World.heap_setCells_other v b o' vs (by have:=h.size;omega) (by omega)];exact h.block k hk hne,
  fun j hj=>by rw[World.cell?_setCells_out b vs o' v ⟨g,j,none⟩ (fun e _=>absurd e (by simp;omega))];exact h.cell j hj,
  fun o2 n2 ht=>World.there_setCells (h.there o2 n2 ht) b o' vs⟩
theorem Za2 (w:World):(zeroValue 5).run Tryz.prog w=.ok (.int .u8 0) w:=by kernel_rfl
theorem Fi (w:World) (ty:TypeId) (g o n c:Nat) (ht:w.there g o n):(Builtin.clear_ #[22] ty #[.slice (some ⟨g,o,none⟩) n c]).run Tryz.prog w=.ok (.tuple #[]) (w.setCells g o (List.replicate n (.int .u8 0))):=by
 by_cases hn:n=0
 ·subst hn
  simp [Builtin.clear_,World.setCells,run_underlying Tryz.underlying22]
 ·exact Go.Lib.run_clear_slice w 22 5 ty (.int .u8 0) Tryz.underlying22 (fun w=>Za2 w) rfl rfl g o n c (by omega) (fun j hj=>(ht j hj).1) (fun j hj=>(ht j hj).2)
def Qc (bs fed:Nat):Nat:=if fed%bs+1≤bs-bs/8 then 1 else 2
def Qm (bs:Nat) (half:Nat→Int) (fed:Nat) (i:Nat):Int:=
 if i<fed%bs then half i else if i=fed%bs then 128 else if i+8<Qc bs fed*bs then 0 else ((fed:Int)*8)/2^(8*(Qc bs fed*bs-1-i))%256
end Go.Proofs.YtehlppaidgkpaaaGreatDoor.Dg
