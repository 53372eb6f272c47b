import Derived.Test.YtehlppaidgkpaaaGreatDoorBlk
import Derived.Test.YtehlppaidgkpaaaGreatDoorPart00
import Derived.Test.YtehlppaidgkpaaaGreatDoorPart15
import Derived.Lib.LazyBuf
import Derived.Test.YtehlppaidgkpaaaGreatDoorFdDot
import Derived.ProofKit
import Derived.OpenShut
import Derived.ChangeOld
import Derived.Deep.Slices
namespace Go.Proofs.YtehlppaidgkpaaaGreatDoor
open Go.RowKit
set_option linter.unusedVariables false
def bt0 (x:Nat):Nat:=x/16777216%256
def bt1 (x:Nat):Nat:=x/65536%256
def bt2 (x:Nat):Nat:=x/256%256
def bt3 (x:Nat):Nat:=x%256
theorem Yw (x:Nat):bt0 x<256:=Nat.mod_lt _ (by decide)
theorem Yv (x:Nat):bt1 x<256:=Nat.mod_lt _ (by decide)
theorem Yu (x:Nat):bt2 x<256:=Nat.mod_lt _ (by decide)
theorem Yt (x:Nat):bt3 x<256:=Nat.mod_lt _ (by decide)
theorem Qu {x:Nat} (h:x<4294967296):wd (bt0 x) (bt1 x) (bt2 x) (bt3 x)=x:=by unfold wd bt0 bt1 bt2 bt3;omega
theorem Qq (x:Nat):(x:Int)/16777216%256=(bt0 x:Nat):=by unfold bt0;omega
theorem Qp (x:Nat):(x:Int)/65536%256=(bt1 x:Nat):=by unfold bt1;omega
theorem Qo (x:Nat):(x:Int)/256%256=(bt2 x:Nat):=by unfold bt2;omega
theorem Qn (x:Nat):(x:Int)%256=(bt3 x:Nat):=by unfold bt3;omega
def Cr (a b c d:Nat):Nat:=Ez (bt0 a) (bt1 b) (bt2 c) (bt3 d)
def Jj (a b c d:Nat):Nat:=wd (SB (bt0 a)) (SB (bt1 b)) (SB (bt2 c)) (SB (bt3 d))
def Kt (a b c d:Nat):Nat:=wd (UB (bt0 a)) (UB (bt1 b)) (UB (bt2 c)) (UB (bt3 d))
def Vd (a:Nat):Nat:=Si (bt0 a) (bt1 a) (bt2 a) (bt3 a)
theorem Gg (a b c d:Nat):Cr a b c d<4294967296:=Yg (Yg (Yg (Oq (Yw a)) (Ot (Yv b))) (Pu (Yu c))) (Pt (Yt d))
theorem W9 (a:Nat):Vd a<4294967296:=Yg (Yg (Yg (On (Yw a)) (Oo (Yv a))) (Pp (Yu a))) (Po (Yt a))
theorem Kd (a b c d:Nat):Jj a b c d<4294967296:=Qt (Yp _) (Yp _) (Yp _) (Yp _)
theorem Ve (a b c d:Nat):Kt a b c d<4294967296:=Qt (Q9 _) (Q9 _) (Q9 _) (Q9 _)
structure W4 where
 (a b c d:Nat)
def W4.ok (s:W4):Prop:=s.a<4294967296∧s.b<4294967296∧s.c<4294967296∧s.d<4294967296
def W4.val (s:W4):Value:=Ro s.a s.b s.c s.d
def W4.blk (s:W4):Value:=YtehlppaidgkpaaaGreatDoor.blk (bt0 s.a) (bt1 s.a) (bt2 s.a) (bt3 s.a) (bt0 s.b) (bt1 s.b) (bt2 s.b) (bt3 s.b) (bt0 s.c) (bt1 s.c) (bt2 s.c) (bt3 s.c) (bt0 s.d) (bt1 s.d) (bt2 s.d) (bt3 s.d)
def Jw (K:Nat→Nat) (r:Nat) (s:W4):W4:=⟨Nat.xor s.a (K (4*r)),Nat.xor s.b (K (4*r+1)),Nat.xor s.c (K (4*r+2)),Nat.xor s.d (K (4*r+3))⟩
def Rd (s:W4):W4:=⟨Cr s.a s.b s.c s.d,Cr s.b s.c s.d s.a,Cr s.c s.d s.a s.b,Cr s.d s.a s.b s.c⟩
def Ws (s:W4):W4:=⟨Jj s.a s.b s.c s.d,Jj s.b s.c s.d s.a,Jj s.c s.d s.a s.b,Jj s.d s.a s.b s.c⟩
def Vg (s:W4):W4:=⟨Kt s.a s.d s.c s.b,Kt s.b s.a s.d s.c,Kt s.c s.b s.a s.d,Kt s.d s.c s.b s.a⟩
def Sj (s:W4):W4:=⟨Vd s.a,Vd s.b,Vd s.c,Vd s.d⟩
theorem E4 (s:W4):(Rd s).ok:=⟨Gg _ _ _ _,Gg _ _ _ _,Gg _ _ _ _,Gg _ _ _ _⟩
theorem T3 (s:W4):(Ws s).ok:=⟨Kd _ _ _ _,Kd _ _ _ _,Kd _ _ _ _,Kd _ _ _ _⟩
theorem Vf (s:W4):(Vg s).ok:=⟨Ve _ _ _ _,Ve _ _ _ _,Ve _ _ _ _,Ve _ _ _ _⟩
theorem P2 (s:W4):(Sj s).ok:=⟨W9 _,W9 _,W9 _,W9 _⟩
theorem Kr {K:Nat→Nat} (hK:∀ i,K i<4294967296) (r:Nat) {s:W4} (h:s.ok):(Jw K r s).ok:=⟨Yg h.1 (hK _),Yg h.2.1 (hK _),Yg h.2.2.1 (hK _),Yg h.2.2.2 (hK _)⟩
def G8 (K:Nat→Nat):Nat→W4→W4
 | 0,s=>s
 | r+1,s=>Jw K (r+1) (Rd (G8 K r s))
def N2 (nr:Nat) (K:Nat→Nat) (s:W4):W4:=Jw K nr (Ws (G8 K (nr-1) (Jw K 0 s)))
structure X5 (w:World) (g o nr:Nat) (K:Nat→Nat):Prop where
 rounds:w.cell? ⟨g,o,none⟩=some (.int .i64 (nr:Nat))
 words:∀ i,i<4*(nr+1)→w.cell? ⟨g,o+1+i,none⟩=some (.int .u32 (K i:Nat))
 small:∀ i,K i<4294967296
 tab:Tab w g o
 here:g<w.heap.size
 some:1≤nr
 most:nr≤14
theorem Tab.below {B:Nat} {w w':World} {g o:Nat} (h:Tab w g o) (hb:Below B w w') (hg:g<B):Tab w' g o:=
 ⟨fun b hb'=>(hb.cell hg).trans (h.s b hb'),fun b hb'=>(hb.cell hg).trans (h.u b hb'),fun b hb'=>(hb.cell hg).trans (h.m b hb'),fun b hb'=>(hb.cell hg).trans (h.n b hb')⟩
theorem X5.below {B:Nat} {w w':World} {g o nr:Nat} {K:Nat→Nat} (h:X5 w g o nr K) (hb:Below B w w') (hg:g<B):X5 w' g o nr K:=
 ⟨(hb.cell hg).trans h.rounds,fun i hi=>(hb.cell hg).trans (h.words i hi),h.small,h.tab.below hb hg,Nat.lt_of_lt_of_le h.here hb.size,h.some,h.most⟩
theorem Below.drewN {B:Nat} {a w:World} (h:Below B a w) (m:Nat):Below B a (w.drewN m):=⟨h.os,h.tape,h.output,h.size,h.block⟩
theorem Zh {B:Nat} {w w':World} {g o n:Nat} (h:w.there g o n) (hb:Below B w w') (hg:g<B):w'.there g o n:=fun j hj=>by
 obtain ⟨h1,h2⟩:=h j hj
 exact ⟨by rw[hb.cell hg];exact h1,by rw[hb.frozen hg];exact h2⟩
theorem M2 {B g o nr:Nat} {K:Nat→Nat} {w:World} (hC:X5 w g o nr K) (hg:g<B) (a b c d m:Nat) (hm:Hid (m=Cr a b c d)):∀ u,Below B w u →
  Calls Tryz.prog 88 #[.pointer (some ⟨g,o,none⟩),.int .u32 (a:Nat),.int .u32 (b:Nat),.int .u32 (c:Nat),.int .u32 (d:Nat)] u fun e u'=>e=.returned (.int .u32 (m:Nat))∧Below B w u':=fun u hu=>by
 refine (Zal g o a b c d _ _ _ _ u (Yw a) (Yv b) (Yu c) (Yt d) (Qq a) (Qp b) (Qo c) (Qn d) (hC.tab.below hu hg)).mono fun e u' ⟨h1,k,h2⟩=>?_
 subst h2
 exact ⟨by rw[h1,hm.out];rfl,Below.drewN hu k⟩
theorem Dq {B g o nr:Nat} {K:Nat→Nat} {w:World} (hC:X5 w g o nr K) (hg:g<B) (a b c d m:Nat) (hm:Hid (m=Jj a b c d)):∀ u,Below B w u →
  Calls Tryz.prog 90 #[.pointer (some ⟨g,o,none⟩),.int .u32 (a:Nat),.int .u32 (b:Nat),.int .u32 (c:Nat),.int .u32 (d:Nat)] u fun e u'=>e=.returned (.int .u32 (m:Nat))∧Below B w u':=fun u hu=>by
 refine (M6 g o a b c d _ _ _ _ u (Yw a) (Yv b) (Yu c) (Yt d) (Qq a) (Qp b) (Qo c) (Qn d) (hC.tab.below hu hg)).mono fun e u' ⟨h1,k,h2⟩=>?_
 subst h2
 exact ⟨by rw[h1,hm.out];rfl,Below.drewN hu k⟩
theorem J4 {B g o nr:Nat} {K:Nat→Nat} {w:World} (hC:X5 w g o nr K) (hg:g<B) (a b c d m:Nat) (hm:Hid (m=Kt a b c d)):∀ u,Below B w u →
  Calls Tryz.prog 265 #[.pointer (some ⟨g,o,none⟩),.int .u32 (a:Nat),.int .u32 (b:Nat),.int .u32 (c:Nat),.int .u32 (d:Nat)] u fun e u'=>e=.returned (.int .u32 (m:Nat))∧Below B w u':=fun u hu=>by
 refine (P3 g o a b c d _ _ _ _ u (Yw a) (Yv b) (Yu c) (Yt d) (Qq a) (Qp b) (Qo c) (Qn d) (hC.tab.below hu hg)).mono fun e u' ⟨h1,k,h2⟩=>?_
 subst h2
 exact ⟨by rw[h1,hm.out];rfl,Below.drewN hu k⟩
theorem Ga {B g o nr:Nat} {K:Nat→Nat} {w:World} (hC:X5 w g o nr K) (hg:g<B) (a m:Nat) (hm:Hid (m=Vd a)):∀ u,Below B w u →
  Calls Tryz.prog 266 #[.pointer (some ⟨g,o,none⟩),.int .u32 (a:Nat)] u fun e u'=>e=.returned (.int .u32 (m:Nat))∧Below B w u':=fun u hu=>by
 refine (Bs g o a _ _ _ _ u (Yw a) (Yv a) (Yu a) (Yt a) (Qq a) (Qp a) (Qo a) (Qn a) (hC.tab.below hu hg)).mono fun e u' ⟨h1,k,h2⟩=>?_
 subst h2
 exact ⟨by rw[h1,hm.out];rfl,Below.drewN hu k⟩
theorem Bj {B g o nr:Nat} {K:Nat→Nat} {w:World} (hC:X5 w g o nr K) (hg:g<B) (hB:B≤w.heap.size) (r:Nat) (hr:r≤nr) (s t:W4) (hs:s.ok) (ht:Hid (t=Jw K r s)):∀ u,Below B w u →
  Calls Tryz.prog 86 #[.pointer (some ⟨g,o,none⟩),s.val,.int .i64 (r:Nat)] u fun e u'=>e=.returned t.val∧Below B w u':=fun u hu=>by
 have hC':=hC.below hu hg
 have:=hC.most
 refine (Zbx g o r s.a s.b s.c s.d _ _ _ _ u (by omega) hC'.here hs.1 hs.2.1 hs.2.2.1 hs.2.2.2 (hC.small _) (hC.small _) (hC.small _) (hC.small _) (hC'.words (4*r) (by omega)) (hC'.words (4*r+1) (by omega)) (hC'.words (4*r+2) (by omega)) (hC'.words (4*r+3) (by omega))).mono fun e u' ⟨h1,h2⟩=>?_
 exact ⟨by rw[h1,ht.out];rfl,hu.trans (h2.mono (Nat.le_trans hB hu.size))⟩
theorem Uc (s:W4) (hs:s.ok) (w:World):Calls Tryz.prog 87 #[s.blk] w fun e w'=>e=.returned s.val∧Below w.heap.size w w':=by
 refine (Dr _ _ _ _ _ _ _ _ _ _ _ _ _ _ _ _ w (Yw _) (Yv _) (Yu _) (Yt _) (Yw _) (Yv _) (Yu _) (Yt _) (Yw _) (Yv _) (Yu _) (Yt _) (Yw _) (Yv _) (Yu _) (Yt _)).mono fun e w' ⟨h1,h2⟩=>⟨?_,h2⟩
 rw[h1,Qu hs.1,Qu hs.2.1,Qu hs.2.2.1,Qu hs.2.2.2]
 rfl
theorem Zb4 (s:W4) (w:World):Calls Tryz.prog 89 #[s.val] w fun e w'=>e=.returned s.blk∧Below w.heap.size w w':=
 Hw s.a s.b s.c s.d _ _ _ _ _ _ _ _ _ _ _ _ _ _ _ _ w (Qq _) (Qp _) (Qo _) (Qn _) (Qq _) (Qp _) (Qo _) (Qn _) (Qq _) (Qp _) (Qo _) (Qn _) (Qq _) (Qp _) (Qo _) (Qn _)
end Go.Proofs.YtehlppaidgkpaaaGreatDoor
namespace Go.Proofs.YtehlppaidgkpaaaGreatDoor.Dg
open Go.RowKit
set_option linter.unusedVariables false
set_option linter.unusedSimpArgs false
def Dt (f:Nat→Int):Zb:=⟨f 0,f 1,f 2,f 3,f 4,f 5,f 6,f 7⟩
theorem Jt (f:Nat→Int) (j:Nat) (v:Value) (h:(Dt f).cells[j]?=some v):j<8∧v=.int .u64 (f j):=by
 have hj:j<8:=by
  by_cases hj:j<(Dt f).cells.length
  ·exact hj
  ·rw[List.getElem?_eq_none (by omega)] at h;cases h
 refine ⟨hj,?_⟩
 match j,hj with
 | 0,_=>exact (Option.some.inj h).symm
 | 1,_=>exact (Option.some.inj h).symm
 | 2,_=>exact (Option.some.inj h).symm
 | 3,_=>exact (Option.some.inj h).symm
 | 4,_=>exact (Option.some.inj h).symm
 | 5,_=>exact (Option.some.inj h).symm
 | 6,_=>exact (Option.some.inj h).symm
 | 7,_=>exact (Option.some.inj h).symm
theorem Xi (s:Zb):s.cells.toArray.all (·.oneCell')=true:=all_oneCell_toArray (by
 intro v hv
 simp only[Zb.cells,List.mem_map] at hv
 obtain ⟨x,_,rfl⟩:=hv
 rfl)
theorem Qy:(Tryz.prog.info? 138).map (·.size)=some 8:=by kernel_rfl
def Xd (h:Int) (i:Nat):Int:=if h=224 then bits .and .u64 (K6 (8+i)) 4294967295 else if h=256 then K6 i/4294967296 else if h=384 then K6 (8+i) else K6 i
def Zq (h:Int):Zb:=Dt (Xd h)
set_option maxHeartbeats 1600000 in
set_option maxRecDepth 100000 in
theorem Pv (w:World) (hT:Hid (Tables w)) :
  Calls Tryz.prog 94 #[.int .i64 224] w fun e w'=>e=.returned (.agg (Zq 224).cells.toArray)∧Below w.heap.size w w':=by
 have HB0:Hid (Below w.heap.size w ((w.alloc (.cells #[.int .u64 0,.int .u64 0,.int .u64 0,.int .u64 0,.int .u64 0,.int .u64 0,.int .u64 0,.int .u64 0] 138)).alloc (.cells #[.int .u64 0,.int .u64 0,.int .u64 0,.int .u64 0,.int .u64 0,.int .u64 0,.int .u64 0,.int .u64 0] 138))∧((w.alloc (.cells #[.int .u64 0,.int .u64 0,.int .u64 0,.int .u64 0,.int .u64 0,.int .u64 0,.int .u64 0,.int .u64 0] 138)).alloc (.cells #[.int .u64 0,.int .u64 0,.int .u64 0,.int .u64 0,.int .u64 0,.int .u64 0,.int .u64 0,.int .u64 0] 138)).there (w.heap.size+1) 0 8∧((w.alloc (.cells #[.int .u64 0,.int .u64 0,.int .u64 0,.int .u64 0,.int .u64 0,.int .u64 0,.int .u64 0,.int .u64 0] 138)).alloc (.cells #[.int .u64 0,.int .u64 0,.int .u64 0,.int .u64 0,.int .u64 0,.int .u64 0,.int .u64 0,.int .u64 0] 138)).there w.heap.size 0 8):=⟨((Below.refl _ _).alloc (Nat.le_refl _) _).alloc (by simp) _,Qb w _ _ 138 138 8 (by decide),World.there_alloc (Zk w _ 138 8 (by decide)) _⟩
 go_enter Tryz.func94,Tryz.ntmps94
 go_wp2
 go_loopw [5] (fun v wr=>∃ q:Nat,q≤8∧v=.int .i64 q∧Hid (Below w.heap.size w wr)∧Hid (wr.there (w.heap.size+1) 0 8∧wr.there w.heap.size 0 8)∧Hid (∀ j,j<q→wr.cell? ⟨w.heap.size+1,j,none⟩=some (.int .u64 (Xd 224 j)))) (fun v _=>8-(intOf v).toNat)
 case atStart=>exact ⟨0,by omega,rfl,HB0.out.1,HB0.out.2,fun j hj=>by omega⟩
 case round=>
  obtain ⟨q,hq,rfl,HB,HT,HF⟩:=hrel
  clear HB0
  by_cases hlt:q<8
  ·obtain ⟨jj,hjj⟩:∃ jj,jj=8+q:=⟨_,rfl⟩
   have hTr:=hT.out.below HB.out hT.out.size
   have c1:=hTr.roots (jj) (by omega)
   have hql:(q:Int)<8:=by omega
   have hq0:(0:Int)≤(q:Int):=by omega
   have e8:(8:Int)+(q:Int)=(jj:Int):=by omega
   have e9:(jj:Int)<16:=by omega
   have HJ:Hid (jj=8+q):=hjj
   clear hjj
   have ff:wr.frozen? ⟨w.heap.size+1,q,none⟩=false:=by have:=(HT.out.1 q hlt).2;rw[Nat.zero_add] at this;exact this
   have fs:(wr.cell? ⟨w.heap.size+1,q,none⟩).isSome=true:=by have:=(HT.out.1 q hlt).1;rw[Nat.zero_add] at this;exact this
   obtain ⟨z,hz⟩:=Option.isSome_iff_exists.1 fs
   clear fs hTr
   go_wp2
   go_roundw
   case rel=>
    have hf:=Xv (F:=fun j=>.int .u64 (Xd 224 j)) HF.out HT.out.1 hlt (.int .u64 (Xd 224 q)) rfl
    obtain rfl:=HJ.out
    refine ⟨q+1,by omega,by go_num,HB.out.setCell (by simp) _,⟨World.there_setCells HT.out.1 _ q [_],World.there_setCells HT.out.2 _ q [_]⟩,hf.1⟩
   case measure=>simp [intOf];omega
  ·obtain rfl:q=8:=by omega
   have HR:Hid (wr.rangeAt (w.heap.size+1) 0 (Zq 224).cells):=fun j v hv=>by
    obtain ⟨hj,rfl⟩:=Jt _ j v hv
    rw[Nat.zero_add]
    exact HF.out j hj
   have HY:Hid (wr.there w.heap.size 0 (Zq 224).cells.toArray.size):=HT.out.2
   have HZ:Hid ((Tryz.prog.info? 138).map (·.size)=some (Zq 224).cells.toArray.size):=Qy
   obtain ⟨E,HE⟩:∃ E:Zb,Hid (E=Zq 224):=⟨_,rfl⟩
   rw[←HE.out] at HR HY HZ
   clear HF
   go_wp2_with (first
    | (refine wpList_load_mid (by rfl) 138 (.tmp 3) (by rfl) (w.heap.size+1) 0 (by rfl) E.cells _ HR.out Tryz.underlying138 rfl Qy ?_)
    | (refine wpList_store_mid (by rfl) 138 (.tmp 2) (.tmp 40) (by rfl) w.heap.size 0 E.cells.toArray (by rfl) (by rfl) HY.out HZ.out (Xi E) ?_)
    | fail)
   have hl:=run_loadVar_mid (P:=Tryz.prog) (wr.setCells w.heap.size 0 E.cells) w.heap.size 0 138 E.cells _ (World.rangeAt_setCells_same wr w.heap.size 0 E.cells HT.out.2) Tryz.underlying138 rfl Qy
   refine bodyPost_ret (v:=.agg E.cells.toArray) ?_ rfl ⟨by rw[HE.out],below_setCells _ (Nat.le_refl _) _ _ _ HB.out⟩
   rw[Zt Tryz.results94]
   simp [Act.put,asAddr,hl]
set_option maxHeartbeats 1600000 in
set_option maxRecDepth 100000 in
theorem F2 (w:World) (hT:Hid (Tables w)) :
  Calls Tryz.prog 94 #[.int .i64 256] w fun e w'=>e=.returned (.agg (Zq 256).cells.toArray)∧Below w.heap.size w w':=by
 have HB0:Hid (Below w.heap.size w ((w.alloc (.cells #[.int .u64 0,.int .u64 0,.int .u64 0,.int .u64 0,.int .u64 0,.int .u64 0,.int .u64 0,.int .u64 0] 138)).alloc (.cells #[.int .u64 0,.int .u64 0,.int .u64 0,.int .u64 0,.int .u64 0,.int .u64 0,.int .u64 0,.int .u64 0] 138))∧((w.alloc (.cells #[.int .u64 0,.int .u64 0,.int .u64 0,.int .u64 0,.int .u64 0,.int .u64 0,.int .u64 0,.int .u64 0] 138)).alloc (.cells #[.int .u64 0,.int .u64 0,.int .u64 0,.int .u64 0,.int .u64 0,.int .u64 0,.int .u64 0,.int .u64 0] 138)).there (w.heap.size+1) 0 8∧((w.alloc (.cells #[.int .u64 0,.int .u64 0,.int .u64 0,.int .u64 0,.int .u64 0,.int .u64 0,.int .u64 0,.int .u64 0] 138)).alloc (.cells #[.int .u64 0,.int .u64 0,.int .u64 0,.int .u64 0,.int .u64 0,.int .u64 0,.int .u64 0,.int .u64 0] 138)).there w.heap.size 0 8):=⟨((Below.refl _ _).alloc (Nat.le_refl _) _).alloc (by simp) _,Qb w _ _ 138 138 8 (by decide),World.there_alloc (Zk w _ 138 8 (by decide)) _⟩
 go_enter Tryz.func94,Tryz.ntmps94
 go_wp2
 go_loopw [5] (fun v wr=>∃ q:Nat,q≤8∧v=.int .i64 q∧Hid (Below w.heap.size w wr)∧Hid (wr.there (w.heap.size+1) 0 8∧wr.there w.heap.size 0 8)∧Hid (∀ j,j<q→wr.cell? ⟨w.heap.size+1,j,none⟩=some (.int .u64 (Xd 256 j)))) (fun v _=>8-(intOf v).toNat)
 case atStart=>exact ⟨0,by omega,rfl,HB0.out.1,HB0.out.2,fun j hj=>by omega⟩
 case round=>
  obtain ⟨q,hq,rfl,HB,HT,HF⟩:=hrel
  clear HB0
  by_cases hlt:q<8
  ·obtain ⟨jj,hjj⟩:∃ jj,jj=8+q:=⟨_,rfl⟩
   have hTr:=hT.out.below HB.out hT.out.size
   have c1:=hTr.roots (q) (by omega)
   have hql:(q:Int)<8:=by omega
   have hq0:(0:Int)≤(q:Int):=by omega
   skip
   have ff:wr.frozen? ⟨w.heap.size+1,q,none⟩=false:=by have:=(HT.out.1 q hlt).2;rw[Nat.zero_add] at this;exact this
   have fs:(wr.cell? ⟨w.heap.size+1,q,none⟩).isSome=true:=by have:=(HT.out.1 q hlt).1;rw[Nat.zero_add] at this;exact this
   obtain ⟨z,hz⟩:=Option.isSome_iff_exists.1 fs
   clear fs hTr
   go_wp2
   go_roundw
   case rel=>
    have hf:=Xv (F:=fun j=>.int .u64 (Xd 256 j)) HF.out HT.out.1 hlt (.int .u64 (Xd 256 q)) rfl
    skip
    refine ⟨q+1,by omega,by go_num,HB.out.setCell (by simp) _,⟨World.there_setCells HT.out.1 _ q [_],World.there_setCells HT.out.2 _ q [_]⟩,hf.1⟩
   case measure=>simp [intOf];omega
  ·obtain rfl:q=8:=by omega
   have HR:Hid (wr.rangeAt (w.heap.size+1) 0 (Zq 256).cells):=fun j v hv=>by
    obtain ⟨hj,rfl⟩:=Jt _ j v hv
    rw[Nat.zero_add]
    exact HF.out j hj
   have HY:Hid (wr.there w.heap.size 0 (Zq 256).cells.toArray.size):=HT.out.2
   have HZ:Hid ((Tryz.prog.info? 138).map (·.size)=some (Zq 256).cells.toArray.size):=Qy
   obtain ⟨E,HE⟩:∃ E:Zb,Hid (E=Zq 256):=⟨_,rfl⟩
   rw[←HE.out] at HR HY HZ
   clear HF
   go_wp2_with (first
    | (refine wpList_load_mid (by rfl) 138 (.tmp 3) (by rfl) (w.heap.size+1) 0 (by rfl) E.cells _ HR.out Tryz.underlying138 rfl Qy ?_)
    | (refine wpList_store_mid (by rfl) 138 (.tmp 2) (.tmp 40) (by rfl) w.heap.size 0 E.cells.toArray (by rfl) (by rfl) HY.out HZ.out (Xi E) ?_)
    | fail)
   have hl:=run_loadVar_mid (P:=Tryz.prog) (wr.setCells w.heap.size 0 E.cells) w.heap.size 0 138 E.cells _ (World.rangeAt_setCells_same wr w.heap.size 0 E.cells HT.out.2) Tryz.underlying138 rfl Qy
   refine bodyPost_ret (v:=.agg E.cells.toArray) ?_ rfl ⟨by rw[HE.out],below_setCells _ (Nat.le_refl _) _ _ _ HB.out⟩
   rw[Zt Tryz.results94]
   simp [Act.put,asAddr,hl]
theorem Wo {w:World} {b n B:Nat} {zs:List Int} (hz:zs.length=n) (hB:B≤b) (hn:n≤maxLen) (h:w.rowIs b 5 n (fun j=>.int .u8 (zs.getD j 0))):w.ownsRow B 5 1 (.slice (some ⟨b,0,none⟩) n n) n (Za zs):=by
 obtain ⟨c,h1,h2,h3⟩:=h
 refine ⟨by rw[Zr];omega,.inr ⟨b,n,c,rfl,hB,h1,Nat.le_refl _,hn,by omega,?_⟩⟩
 rw[List.take_of_length_le (by simp;omega)]
 apply List.ext_getElem?
 intro i
 by_cases hi:i<n
 ·rw[Array.getElem?_toList,h3 i hi]
  simp [Za,List.getD,List.getElem?_eq_getElem (show i<zs.length by omega)]
 ·rw[List.getElem?_eq_none (by simp;omega),List.getElem?_eq_none (by rw[Zr];omega)]
set_option maxHeartbeats 1600000 in
set_option maxRecDepth 100000 in
theorem Zdd (C:List Value) (zs:List Int) (w:World) (hC:Hid (C=Za zs)) (hz:Hid (zs.length=64)) :
  Calls Tryz.prog 59 #[.agg C.toArray,.int .i64 28] w fun e w'=>∃ g,e=.returned (.slice (some ⟨g,0,none⟩) 28 28)∧w'.ownsRow w.heap.size 5 1 (.slice (some ⟨g,0,none⟩) 28 28) 28 (Za (zs.take 28))∧Below w.heap.size w w':=by
 have hmk:∀ w,(Instr.makeSlice 22 (.int .i64 28) (.int .i64 28)).run Tryz.prog w=.ok (.slice (some ⟨w.heap.size,0,none⟩) 28 28) (w.alloc (.cells #[.int .u8 0,.int .u8 0,.int .u8 0,.int .u8 0,.int .u8 0,.int .u8 0,.int .u8 0,.int .u8 0,.int .u8 0,.int .u8 0,.int .u8 0,.int .u8 0,.int .u8 0,.int .u8 0,.int .u8 0,.int .u8 0,.int .u8 0,.int .u8 0,.int .u8 0,.int .u8 0,.int .u8 0,.int .u8 0,.int .u8 0,.int .u8 0,.int .u8 0,.int .u8 0,.int .u8 0,.int .u8 0] 5)):=fun _=>by kernel_rfl
 have hlen:(zs.take 28).length=28:=by rw[List.length_take,hz.out];rfl
 have hv:Zf ((w.alloc (.cells C.toArray 147)).alloc (.cells #[.int .u8 0,.int .u8 0,.int .u8 0,.int .u8 0,.int .u8 0,.int .u8 0,.int .u8 0,.int .u8 0,.int .u8 0,.int .u8 0,.int .u8 0,.int .u8 0,.int .u8 0,.int .u8 0,.int .u8 0,.int .u8 0,.int .u8 0,.int .u8 0,.int .u8 0,.int .u8 0,.int .u8 0,.int .u8 0,.int .u8 0,.int .u8 0,.int .u8 0,.int .u8 0,.int .u8 0,.int .u8 0] 5)) (.slice (some ⟨w.heap.size,0,none⟩) 28 64) (zs.take 28):=by
  refine ⟨_,64,by rw[hlen],by rw[hlen];omega,by simp [maxLen],(fun e=>by cases e),.inr ⟨w.heap.size,0,rfl,fun i hi=>?_⟩⟩
  rw[hlen] at hi
  rw[World.cell?_alloc_past _ _ _ (by simp),World.cell?_alloc_at _ _ _ _ rfl,hC.out,Nat.zero_add]
  have h64:=hz.out
  simp [Za,List.getD,List.getElem?_take,hi,List.getElem?_eq_getElem (show i<zs.length by omega)]
 have hcp:=Kq _ (w.heap.size+1) 0 28 28 _ 28 64 28 _ rfl hv (Qb w _ _ 147 5 28 (by decide))
 rw[List.take_take,Nat.min_self] at hcp
 have HO:Hid ((((w.alloc (.cells C.toArray 147)).alloc (.cells #[.int .u8 0,.int .u8 0,.int .u8 0,.int .u8 0,.int .u8 0,.int .u8 0,.int .u8 0,.int .u8 0,.int .u8 0,.int .u8 0,.int .u8 0,.int .u8 0,.int .u8 0,.int .u8 0,.int .u8 0,.int .u8 0,.int .u8 0,.int .u8 0,.int .u8 0,.int .u8 0,.int .u8 0,.int .u8 0,.int .u8 0,.int .u8 0,.int .u8 0,.int .u8 0,.int .u8 0,.int .u8 0] 5)).setCells (w.heap.size+1) 0 (Za (zs.take 28))).ownsRow w.heap.size 5 1 (.slice (some ⟨w.heap.size+1,0,none⟩) 28 28) 28 (Za (zs.take 28))):=by
  refine Wo hlen (by omega) (by simp [maxLen]) ?_
  have hr:=World.rowIs_alloc (w.alloc (.cells C.toArray 147)) (List.replicate 28 (Value.int .u8 0)).toArray 5 (fun _=>.int .u8 0) (fun i hi=>Gq 28 i hi)
  have hs:(w.alloc (.cells C.toArray 147)).heap.size=w.heap.size+1:=by simp
  rw[hs] at hr
  refine (Go.rowIs_setCells (Za (zs.take 28)) 0 _ _ hr).congr (fun j hj=>?_)
  have hj':j<28:=hj
  rw[if_pos ⟨Nat.zero_le _,by rw[Zr,hlen];omega⟩]
  have h64:=hz.out
  simp [Za,List.getD,List.getElem?_take,hj',List.getElem?_eq_getElem (show j<zs.length by omega)]
 have HB:Hid (Below w.heap.size w (((w.alloc (.cells C.toArray 147)).alloc (.cells #[.int .u8 0,.int .u8 0,.int .u8 0,.int .u8 0,.int .u8 0,.int .u8 0,.int .u8 0,.int .u8 0,.int .u8 0,.int .u8 0,.int .u8 0,.int .u8 0,.int .u8 0,.int .u8 0,.int .u8 0,.int .u8 0,.int .u8 0,.int .u8 0,.int .u8 0,.int .u8 0,.int .u8 0,.int .u8 0,.int .u8 0,.int .u8 0,.int .u8 0,.int .u8 0,.int .u8 0,.int .u8 0] 5)).setCells (w.heap.size+1) 0 (Za (zs.take 28)))):=below_setCells _ (by omega) _ _ _ (((Below.refl _ _).alloc (Nat.le_refl _) _).alloc (by simp) _)
 clear hv hlen
 go_enter Tryz.func59,Tryz.ntmps59
 go_wp2
 go_ret
 exact ⟨_,rfl,HO,HB⟩
set_option maxHeartbeats 1600000 in
set_option maxRecDepth 100000 in
theorem Im (C:List Value) (zs:List Int) (w:World) (hC:Hid (C=Za zs)) (hz:Hid (zs.length=64)) :
  Calls Tryz.prog 59 #[.agg C.toArray,.int .i64 32] w fun e w'=>∃ g,e=.returned (.slice (some ⟨g,0,none⟩) 32 32)∧w'.ownsRow w.heap.size 5 1 (.slice (some ⟨g,0,none⟩) 32 32) 32 (Za (zs.take 32))∧Below w.heap.size w w':=by
 have hmk:∀ w,(Instr.makeSlice 22 (.int .i64 32) (.int .i64 32)).run Tryz.prog w=.ok (.slice (some ⟨w.heap.size,0,none⟩) 32 32) (w.alloc (.cells #[.int .u8 0,.int .u8 0,.int .u8 0,.int .u8 0,.int .u8 0,.int .u8 0,.int .u8 0,.int .u8 0,.int .u8 0,.int .u8 0,.int .u8 0,.int .u8 0,.int .u8 0,.int .u8 0,.int .u8 0,.int .u8 0,.int .u8 0,.int .u8 0,.int .u8 0,.int .u8 0,.int .u8 0,.int .u8 0,.int .u8 0,.int .u8 0,.int .u8 0,.int .u8 0,.int .u8 0,.int .u8 0,.int .u8 0,.int .u8 0,.int .u8 0,.int .u8 0] 5)):=fun _=>by kernel_rfl
 have hlen:(zs.take 32).length=32:=by rw[List.length_take,hz.out];rfl
 have hv:Zf ((w.alloc (.cells C.toArray 147)).alloc (.cells #[.int .u8 0,.int .u8 0,.int .u8 0,.int .u8 0,.int .u8 0,.int .u8 0,.int .u8 0,.int .u8 0,.int .u8 0,.int .u8 0,.int .u8 0,.int .u8 0,.int .u8 0,.int .u8 0,.int .u8 0,.int .u8 0,.int .u8 0,.int .u8 0,.int .u8 0,.int .u8 0,.int .u8 0,.int .u8 0,.int .u8 0,.int .u8 0,.int .u8 0,.int .u8 0,.int .u8 0,.int .u8 0,.int .u8 0,.int .u8 0,.int .u8 0,.int .u8 0] 5)) (.slice (some ⟨w.heap.size,0,none⟩) 32 64) (zs.take 32):=by
  refine ⟨_,64,by rw[hlen],by rw[hlen];omega,by simp [maxLen],(fun e=>by cases e),.inr ⟨w.heap.size,0,rfl,fun i hi=>?_⟩⟩
  rw[hlen] at hi
  rw[World.cell?_alloc_past _ _ _ (by simp),World.cell?_alloc_at _ _ _ _ rfl,hC.out,Nat.zero_add]
  have h64:=hz.out
  simp [Za,List.getD,List.getElem?_take,hi,List.getElem?_eq_getElem (show i<zs.length by omega)]
 have hcp:=Kq _ (w.heap.size+1) 0 32 32 _ 32 64 32 _ rfl hv (Qb w _ _ 147 5 32 (by decide))
 rw[List.take_take,Nat.min_self] at hcp
 have HO:Hid ((((w.alloc (.cells C.toArray 147)).alloc (.cells #[.int .u8 0,.int .u8 0,.int .u8 0,.int .u8 0,.int .u8 0,.int .u8 0,.int .u8 0,.int .u8 0,.int .u8 0,.int .u8 0,.int .u8 0,.int .u8 0,.int .u8 0,.int .u8 0,.int .u8 0,.int .u8 0,.int .u8 0,.int .u8 0,.int .u8 0,.int .u8 0,.int .u8 0,.int .u8 0,.int .u8 0,.int .u8 0,.int .u8 0,.int .u8 0,.int .u8 0,.int .u8 0,.int .u8 0,.int .u8 0,.int .u8 0,.int .u8 0] 5)).setCells (w.heap.size+1) 0 (Za (zs.take 32))).ownsRow w.heap.size 5 1 (.slice (some ⟨w.heap.size+1,0,none⟩) 32 32) 32 (Za (zs.take 32))):=by
  refine Wo hlen (by omega) (by simp [maxLen]) ?_
  have hr:=World.rowIs_alloc (w.alloc (.cells C.toArray 147)) (List.replicate 32 (Value.int .u8 0)).toArray 5 (fun _=>.int .u8 0) (fun i hi=>Gq 32 i hi)
  have hs:(w.alloc (.cells C.toArray 147)).heap.size=w.heap.size+1:=by simp
  rw[hs] at hr
  refine (Go.rowIs_setCells (Za (zs.take 32)) 0 _ _ hr).congr (fun j hj=>?_)
  have hj':j<32:=hj
  rw[if_pos ⟨Nat.zero_le _,by rw[Zr,hlen];omega⟩]
  have h64:=hz.out
  simp [Za,List.getD,List.getElem?_take,hj',List.getElem?_eq_getElem (show j<zs.length by omega)]
 have HB:Hid (Below w.heap.size w (((w.alloc (.cells C.toArray 147)).alloc (.cells #[.int .u8 0,.int .u8 0,.int .u8 0,.int .u8 0,.int .u8 0,.int .u8 0,.int .u8 0,.int .u8 0,.int .u8 0,.int .u8 0,.int .u8 0,.int .u8 0,.int .u8 0,.int .u8 0,.int .u8 0,.int .u8 0,.int .u8 0,.int .u8 0,.int .u8 0,.int .u8 0,.int .u8 0,.int .u8 0,.int .u8 0,.int .u8 0,.int .u8 0,.int .u8 0,.int .u8 0,.int .u8 0,.int .u8 0,.int .u8 0,.int .u8 0,.int .u8 0] 5)).setCells (w.heap.size+1) 0 (Za (zs.take 32)))):=below_setCells _ (by omega) _ _ _ (((Below.refl _ _).alloc (Nat.le_refl _) _).alloc (by simp) _)
 clear hv hlen
 go_enter Tryz.func59,Tryz.ntmps59
 go_wp2
 go_ret
 exact ⟨_,rfl,HO,HB⟩
end Go.Proofs.YtehlppaidgkpaaaGreatDoor.Dg
namespace Go.Proofs.YtehlppaidgkpaaaGreatDoor
def Cv (f:Nat→W4→W4):Nat→W4→W4
 | 0,s=>s
 | r+1,s=>Cv f r (f (r+1) s)
theorem Nr (f:Nat→W4→W4) (r:Nat) (s:W4):Cv f (r+1) s=Cv f r (f (r+1) s):=rfl
theorem Nq (f:Nat→W4→W4) (s:W4):Cv f 0 s=s:=rfl
def Wn (K:Nat→Nat) (r:Nat) (s:W4):W4:=Sj (Jw K r (Vg s))
def itD (K:Nat→Nat):Nat→W4→W4:=Cv (Wn K)
theorem Cx (K:Nat→Nat) (r:Nat) (s:W4):itD K (r+1) s=itD K r (Wn K (r+1) s):=Nr (Wn K) r s
theorem Cw (K:Nat→Nat) (s:W4):itD K 0 s=s:=Nq (Wn K) s
def dcW (nr:Nat) (K:Nat→Nat) (s:W4):W4:=Jw K 0 (Vg (itD K (nr-1) (Jw K nr s)))
theorem Zbh {K:Nat→Nat} (hK:∀ i,K i<4294967296) (nr:Nat) (s:W4):(dcW nr K s).ok:=Kr hK _ (Vf _)
theorem Nt (K:Nat→Nat) (r:Nat) (s:W4):G8 K (r+1) s=Jw K (r+1) (Rd (G8 K r s)):=rfl
theorem Ns (K:Nat→Nat) (s:W4):G8 K 0 s=s:=rfl
open Go.RowKit
set_option linter.unusedVariables false
theorem Gs (a k:Nat):Nat.xor (Nat.xor a k) k=a:=by
 show (a ^^^ k) ^^^ k=a
 rw[Nat.xor_assoc,Nat.xor_self,Nat.xor_zero]
theorem Wk (K:Nat→Nat) (r:Nat) (s:W4):Jw K r (Jw K r s)=s:=by
 unfold Jw
 simp only[Gs]
theorem Lb {a b c d:Nat} (ha:a<256) (hb:b<256) (hc:c<256) (hd:d<256):bt0 (wd a b c d)=a∧bt1 (wd a b c d)=b∧bt2 (wd a b c d)=c∧bt3 (wd a b c d)=d:=by
 unfold bt0 bt1 bt2 bt3 wd
 omega
theorem S_U {b:Nat} (h:b<256):SB (UB b)=b:=(Bk ⟨b,h⟩).2
theorem I3 (a b c d:Nat):bt0 (Jj a b c d)=SB (bt0 a)∧bt1 (Jj a b c d)=SB (bt1 b)∧bt2 (Jj a b c d)=SB (bt2 c)∧bt3 (Jj a b c d)=SB (bt3 d):=Lb (Yp _) (Yp _) (Yp _) (Yp _)
theorem Gl (a b c d:Nat):bt0 (Kt a b c d)=UB (bt0 a)∧bt1 (Kt a b c d)=UB (bt1 b)∧bt2 (Kt a b c d)=UB (bt2 c)∧bt3 (Kt a b c d)=UB (bt3 d):=Lb (Q9 _) (Q9 _) (Q9 _) (Q9 _)
theorem Hl (s:W4) (hs:s.ok):Ws (Vg s)=s:=by
 obtain ⟨a,b,c,d⟩:=s
 obtain ⟨ha,hb,hc,hd⟩:=hs
 simp only at ha hb hc hd
 simp only[Vg,Ws,Jj,(Gl _ _ _ _).1,(Gl _ _ _ _).2.1,(Gl _ _ _ _).2.2.1,(Gl _ _ _ _).2.2.2,S_U (Yw _),S_U (Yv _),S_U (Yu _),S_U (Yt _),Qu ha,Qu hb,Qu hc,Qu hd]
def mcw (x:Nat):Nat:=
 wd (Nat.xor (Nat.xor (Nat.xor (x2 (bt0 x)) (x3 (bt1 x))) (bt2 x)) (bt3 x)) (Nat.xor (Nat.xor (Nat.xor (bt0 x) (x2 (bt1 x))) (x3 (bt2 x))) (bt3 x))
  (Nat.xor (Nat.xor (Nat.xor (bt0 x) (bt1 x)) (x2 (bt2 x))) (x3 (bt3 x))) (Nat.xor (Nat.xor (Nat.xor (x3 (bt0 x)) (bt1 x)) (bt2 x)) (x2 (bt3 x)))
def mcS (s:W4):W4:=⟨mcw s.a,mcw s.b,mcw s.c,mcw s.d⟩
theorem xl2 {b:Nat} (h:b<256):x2 b<256:=(Jd ⟨b,h⟩).1
theorem xl3 {b:Nat} (h:b<256):x3 b<256:=(Jd ⟨b,h⟩).2.1
theorem xl9 {b:Nat} (h:b<256):x9 b<256:=(Jd ⟨b,h⟩).2.2.1
theorem J1 {b:Nat} (h:b<256):x11 b<256:=(Jd ⟨b,h⟩).2.2.2.1
theorem Jm {b:Nat} (h:b<256):x13 b<256:=(Jd ⟨b,h⟩).2.2.2.2.1
theorem J0 {b:Nat} (h:b<256):x14 b<256:=(Jd ⟨b,h⟩).2.2.2.2.2
theorem Zam (a b c d:Nat):Cr a b c d=mcw (Jj a b c d):=by
 unfold Cr Ez mcw
 obtain ⟨e0,e1,e2,e3⟩:=I3 a b c d
 rw[e0,e1,e2,e3]
 have p:=Yp (bt0 a)
 have q:=Yp (bt1 b)
 have r:=Yp (bt2 c)
 have t:=Yp (bt3 d)
 unfold MX M8 M16 M24
 rw[V3 _ _ _ _ _ _ _ _ p p (xl3 p) (xl2 q) q q,V3 _ _ _ _ _ _ _ _ (Zd p (xl2 q)) (Zd p q) (Zd (xl3 p) q) (xl3 r) (xl2 r) r,V3 _ _ _ _ _ _ _ _ (Zd (Zd p (xl2 q)) (xl3 r)) (Zd (Zd p q) (xl2 r)) (Zd (Zd (xl3 p) q) r) t (xl3 t) (xl2 t)]
def Zdk (a b:Nat):Bool:=Nat.beq (Y1 (Nat.xor a b)) (Nat.xor (Y1 a) (Y1 b))
set_option maxRecDepth 100000 in
theorem Pn:Me (fun a=>Me (Zdk a) 256) 256=true:=by decide +kernel
theorem M9 {a b:Nat} (ha:a<256) (hb:b<256):Y1 (a ^^^ b)=Y1 a ^^^ Y1 b:=Nat.eq_of_beq_eq_true (V0 (V0 Pn ha) hb)
theorem Bm {a b:Nat} (ha:a<256) (hb:b<256):x2 (a ^^^ b)=x2 a ^^^ x2 b:=M9 ha hb
theorem Bl {a b:Nat} (ha:a<256) (hb:b<256):x3 (a ^^^ b)=x3 a ^^^ x3 b:=by
 show Y1 (a ^^^ b) ^^^ (a ^^^ b)=(Y1 a ^^^ a) ^^^ (Y1 b ^^^ b)
 rw[M9 ha hb];ac_rfl
end Go.Proofs.YtehlppaidgkpaaaGreatDoor
namespace Go.Proofs.YtehlppaidgkpaaaGreatDoor.Fd
open Go.ChangeShapes Go.WideShapes Go.ChangeAt Go.RowKit
set_option linter.unusedVariables false
def pk (F:Nat→Nat):Nat→Nat
 | 0=>0
 | n+1=>pk F n+F n*256^n
theorem Ok (F : Nat → Nat) (hF : ∀ i, F i < 256) (n : Nat) : pk F n < 256 ^ n := by
  induction n with
  | zero => simp [pk]
  | succ n ih =>
    have h := hF n
    rw [pk, Nat.pow_succ]
    have : F n * 256 ^ n ≤ 255 * 256 ^ n := Nat.mul_le_mul_right _ (by omega)
    omega
theorem Zcm (F : Nat → Nat) (hF : ∀ i, F i < 256) (n i : Nat) (hi : i < n) : pk F n / 256 ^ i % 256 = F i := by
  induction n with
  | zero => omega
  | succ n ih =>
    rw [pk]
    by_cases h : i < n
    · have e : F n * 256 ^ n = (F n * 256 ^ (n - i - 1) * 256) * 256 ^ i := by
        rw [Nat.mul_assoc, Nat.mul_assoc, ← Nat.pow_succ', ← Nat.pow_add]
        congr 2
        omega
      rw [e, Nat.add_mul_div_right _ _ (Nat.pow_pos (by decide)), Nat.add_mul_mod_self_right]
      exact ih h
    · have e : i = n := by omega
      subst e
      rw [Nat.add_mul_div_right _ _ (Nat.pow_pos (by decide)), Nat.div_eq_of_lt (Ok F hF i), Nat.zero_add]
      exact Nat.mod_eq_of_lt (hF i)
theorem Wh (F:Nat→Nat) (hF:∀ i,F i<256) (i:Nat) (hi:i<16):byV (BitVec.ofNat 128 (pk F 16)) i=F i:=by
 have h:=Ok F hF 16
 unfold byV
 rw[BitVec.toNat_ofNat]
 have e:pk F 16%2^128=pk F 16:=Nat.mod_eq_of_lt (Nat.lt_of_lt_of_eq h (by decide))
 rw[e]
 exact Zcm F hF 16 i hi
theorem Zav {cs:List Value} {v:BitVec 128} (h:cs.length=16) (hf:∀ i,i<16→cs[i]?=some (.int .u8 (byV v i:Nat))):cs=BL v:=by
 apply List.ext_getElem?
 intro i
 by_cases hi:i<16
 ·rw[hf i hi,Jz v i hi]
 ·rw[List.getElem?_eq_none (by omega),List.getElem?_eq_none (by rw[Xm];omega)]
open Go.RowKit
set_option linter.unusedSimpArgs false
def rv (v:BitVec 128):BitVec 128:=BitVec.ofNat 128 (pk (fun i=>byV v (15-i)) 16)
theorem Zbo (v:BitVec 128) (i:Nat) (hi:i<16):byV (rv v) i=byV v (15-i):=Wh _ (fun _=>Q3 _ _) i hi
theorem Sb (j:Nat) (hj:j<16):(#[.int .u8 0,.int .u8 0,.int .u8 0,.int .u8 0,.int .u8 0,.int .u8 0,.int .u8 0,.int .u8 0,.int .u8 0,.int .u8 0,.int .u8 0,.int .u8 0,.int .u8 0,.int .u8 0,.int .u8 0,.int .u8 0]:Array Value).toList[j]?=some (.int .u8 0):=by
 have h16:j=0∨j=1∨j=2∨j=3∨j=4∨j=5∨j=6∨j=7∨j=8∨j=9∨j=10∨j=11∨j=12∨j=13∨j=14∨j=15:=by omega
 rcases h16 with rfl | rfl | rfl | rfl | rfl | rfl | rfl | rfl | rfl | rfl | rfl | rfl | rfl | rfl | rfl | rfl<;>rfl
theorem We {a b:BitVec 128} (h:∀ i,i<16→byV a i=byV b i):a=b:=by
 have e:a ^^^ b=0#128:=(Gr _).2 fun j hj=>by rw[Gj,h j hj];exact Nat.xor_self _
 have q:=congrArg (· ^^^ b) e
 simpa [BitVec.xor_assoc] using q
set_option maxHeartbeats 1600000 in
set_option maxRecDepth 100000 in
theorem Lp (v:BitVec 128) (w:World):Calls Tryz.prog 217 #[BV v] w fun e w'=>e=.returned (BV (rv v))∧Below w.heap.size w w':=by
 have HC:Hid (Below w.heap.size w (((w.alloc (.cells #[.int .u8 (byV v 0:Nat),.int .u8 (byV v 1:Nat),.int .u8 (byV v 2:Nat),.int .u8 (byV v 3:Nat),.int .u8 (byV v 4:Nat),.int .u8 (byV v 5:Nat),.int .u8 (byV v 6:Nat),.int .u8 (byV v 7:Nat),.int .u8 (byV v 8:Nat),.int .u8 (byV v 9:Nat),.int .u8 (byV v 10:Nat),.int .u8 (byV v 11:Nat),.int .u8 (byV v 12:Nat),.int .u8 (byV v 13:Nat),.int .u8 (byV v 14:Nat),.int .u8 (byV v 15:Nat)] 27)).alloc (.cells #[.int .u8 0,.int .u8 0,.int .u8 0,.int .u8 0,.int .u8 0,.int .u8 0,.int .u8 0,.int .u8 0,.int .u8 0,.int .u8 0,.int .u8 0,.int .u8 0,.int .u8 0,.int .u8 0,.int .u8 0,.int .u8 0] 27)).alloc (.cells #[.int .u8 0,.int .u8 0,.int .u8 0,.int .u8 0,.int .u8 0,.int .u8 0,.int .u8 0,.int .u8 0,.int .u8 0,.int .u8 0,.int .u8 0,.int .u8 0,.int .u8 0,.int .u8 0,.int .u8 0,.int .u8 0] 27))∧(∀ j,j<16→(((w.alloc (.cells #[.int .u8 (byV v 0:Nat),.int .u8 (byV v 1:Nat),.int .u8 (byV v 2:Nat),.int .u8 (byV v 3:Nat),.int .u8 (byV v 4:Nat),.int .u8 (byV v 5:Nat),.int .u8 (byV v 6:Nat),.int .u8 (byV v 7:Nat),.int .u8 (byV v 8:Nat),.int .u8 (byV v 9:Nat),.int .u8 (byV v 10:Nat),.int .u8 (byV v 11:Nat),.int .u8 (byV v 12:Nat),.int .u8 (byV v 13:Nat),.int .u8 (byV v 14:Nat),.int .u8 (byV v 15:Nat)] 27)).alloc (.cells #[.int .u8 0,.int .u8 0,.int .u8 0,.int .u8 0,.int .u8 0,.int .u8 0,.int .u8 0,.int .u8 0,.int .u8 0,.int .u8 0,.int .u8 0,.int .u8 0,.int .u8 0,.int .u8 0,.int .u8 0,.int .u8 0] 27)).alloc (.cells #[.int .u8 0,.int .u8 0,.int .u8 0,.int .u8 0,.int .u8 0,.int .u8 0,.int .u8 0,.int .u8 0,.int .u8 0,.int .u8 0,.int .u8 0,.int .u8 0,.int .u8 0,.int .u8 0,.int .u8 0,.int .u8 0] 27)).cell? ⟨w.heap.size,j,none⟩=some (.int .u8 (byV v j:Nat)))∧(((w.alloc (.cells #[.int .u8 (byV v 0:Nat),.int .u8 (byV v 1:Nat),.int .u8 (byV v 2:Nat),.int .u8 (byV v 3:Nat),.int .u8 (byV v 4:Nat),.int .u8 (byV v 5:Nat),.int .u8 (byV v 6:Nat),.int .u8 (byV v 7:Nat),.int .u8 (byV v 8:Nat),.int .u8 (byV v 9:Nat),.int .u8 (byV v 10:Nat),.int .u8 (byV v 11:Nat),.int .u8 (byV v 12:Nat),.int .u8 (byV v 13:Nat),.int .u8 (byV v 14:Nat),.int .u8 (byV v 15:Nat)] 27)).alloc (.cells #[.int .u8 0,.int .u8 0,.int .u8 0,.int .u8 0,.int .u8 0,.int .u8 0,.int .u8 0,.int .u8 0,.int .u8 0,.int .u8 0,.int .u8 0,.int .u8 0,.int .u8 0,.int .u8 0,.int .u8 0,.int .u8 0] 27)).alloc (.cells #[.int .u8 0,.int .u8 0,.int .u8 0,.int .u8 0,.int .u8 0,.int .u8 0,.int .u8 0,.int .u8 0,.int .u8 0,.int .u8 0,.int .u8 0,.int .u8 0,.int .u8 0,.int .u8 0,.int .u8 0,.int .u8 0] 27)).there (w.heap.size+1) 0 16∧(((w.alloc (.cells #[.int .u8 (byV v 0:Nat),.int .u8 (byV v 1:Nat),.int .u8 (byV v 2:Nat),.int .u8 (byV v 3:Nat),.int .u8 (byV v 4:Nat),.int .u8 (byV v 5:Nat),.int .u8 (byV v 6:Nat),.int .u8 (byV v 7:Nat),.int .u8 (byV v 8:Nat),.int .u8 (byV v 9:Nat),.int .u8 (byV v 10:Nat),.int .u8 (byV v 11:Nat),.int .u8 (byV v 12:Nat),.int .u8 (byV v 13:Nat),.int .u8 (byV v 14:Nat),.int .u8 (byV v 15:Nat)] 27)).alloc (.cells #[.int .u8 0,.int .u8 0,.int .u8 0,.int .u8 0,.int .u8 0,.int .u8 0,.int .u8 0,.int .u8 0,.int .u8 0,.int .u8 0,.int .u8 0,.int .u8 0,.int .u8 0,.int .u8 0,.int .u8 0,.int .u8 0] 27)).alloc (.cells #[.int .u8 0,.int .u8 0,.int .u8 0,.int .u8 0,.int .u8 0,.int .u8 0,.int .u8 0,.int .u8 0,.int .u8 0,.int .u8 0,.int .u8 0,.int .u8 0,.int .u8 0,.int .u8 0,.int .u8 0,.int .u8 0] 27)).there (w.heap.size+2) 0 16∧(∀ j,j<16→(((w.alloc (.cells #[.int .u8 (byV v 0:Nat),.int .u8 (byV v 1:Nat),.int .u8 (byV v 2:Nat),.int .u8 (byV v 3:Nat),.int .u8 (byV v 4:Nat),.int .u8 (byV v 5:Nat),.int .u8 (byV v 6:Nat),.int .u8 (byV v 7:Nat),.int .u8 (byV v 8:Nat),.int .u8 (byV v 9:Nat),.int .u8 (byV v 10:Nat),.int .u8 (byV v 11:Nat),.int .u8 (byV v 12:Nat),.int .u8 (byV v 13:Nat),.int .u8 (byV v 14:Nat),.int .u8 (byV v 15:Nat)] 27)).alloc (.cells #[.int .u8 0,.int .u8 0,.int .u8 0,.int .u8 0,.int .u8 0,.int .u8 0,.int .u8 0,.int .u8 0,.int .u8 0,.int .u8 0,.int .u8 0,.int .u8 0,.int .u8 0,.int .u8 0,.int .u8 0,.int .u8 0] 27)).alloc (.cells #[.int .u8 0,.int .u8 0,.int .u8 0,.int .u8 0,.int .u8 0,.int .u8 0,.int .u8 0,.int .u8 0,.int .u8 0,.int .u8 0,.int .u8 0,.int .u8 0,.int .u8 0,.int .u8 0,.int .u8 0,.int .u8 0] 27)).cell? ⟨w.heap.size+2,j,none⟩=some (.int .u8 0))∧(((w.alloc (.cells #[.int .u8 (byV v 0:Nat),.int .u8 (byV v 1:Nat),.int .u8 (byV v 2:Nat),.int .u8 (byV v 3:Nat),.int .u8 (byV v 4:Nat),.int .u8 (byV v 5:Nat),.int .u8 (byV v 6:Nat),.int .u8 (byV v 7:Nat),.int .u8 (byV v 8:Nat),.int .u8 (byV v 9:Nat),.int .u8 (byV v 10:Nat),.int .u8 (byV v 11:Nat),.int .u8 (byV v 12:Nat),.int .u8 (byV v 13:Nat),.int .u8 (byV v 14:Nat),.int .u8 (byV v 15:Nat)] 27)).alloc (.cells #[.int .u8 0,.int .u8 0,.int .u8 0,.int .u8 0,.int .u8 0,.int .u8 0,.int .u8 0,.int .u8 0,.int .u8 0,.int .u8 0,.int .u8 0,.int .u8 0,.int .u8 0,.int .u8 0,.int .u8 0,.int .u8 0] 27)).alloc (.cells #[.int .u8 0,.int .u8 0,.int .u8 0,.int .u8 0,.int .u8 0,.int .u8 0,.int .u8 0,.int .u8 0,.int .u8 0,.int .u8 0,.int .u8 0,.int .u8 0,.int .u8 0,.int .u8 0,.int .u8 0,.int .u8 0] 27)).heap.size=w.heap.size+3):=by
  refine ⟨Pi w _ _ _,fun j hj=>?_,?_,?_,fun j hj=>?_,by simp⟩
  ·have h:=Yk w #[.int .u8 (byV v 0:Nat),.int .u8 (byV v 1:Nat),.int .u8 (byV v 2:Nat),.int .u8 (byV v 3:Nat),.int .u8 (byV v 4:Nat),.int .u8 (byV v 5:Nat),.int .u8 (byV v 6:Nat),.int .u8 (byV v 7:Nat),.int .u8 (byV v 8:Nat),.int .u8 (byV v 9:Nat),.int .u8 (byV v 10:Nat),.int .u8 (byV v 11:Nat),.int .u8 (byV v 12:Nat),.int .u8 (byV v 13:Nat),.int .u8 (byV v 14:Nat),.int .u8 (byV v 15:Nat)] 27 j _ (Jz v j hj)
   rw[Nat.zero_add] at h
   rw[World.cell?_alloc_lt _ _ _ (show w.heap.size<_ by simp;omega),World.cell?_alloc_lt _ _ _ (show w.heap.size<_ by simp)]
   exact h
  ·have h:=Zk (w.alloc (.cells #[.int .u8 (byV v 0:Nat),.int .u8 (byV v 1:Nat),.int .u8 (byV v 2:Nat),.int .u8 (byV v 3:Nat),.int .u8 (byV v 4:Nat),.int .u8 (byV v 5:Nat),.int .u8 (byV v 6:Nat),.int .u8 (byV v 7:Nat),.int .u8 (byV v 8:Nat),.int .u8 (byV v 9:Nat),.int .u8 (byV v 10:Nat),.int .u8 (byV v 11:Nat),.int .u8 (byV v 12:Nat),.int .u8 (byV v 13:Nat),.int .u8 (byV v 14:Nat),.int .u8 (byV v 15:Nat)] 27)) #[.int .u8 0,.int .u8 0,.int .u8 0,.int .u8 0,.int .u8 0,.int .u8 0,.int .u8 0,.int .u8 0,.int .u8 0,.int .u8 0,.int .u8 0,.int .u8 0,.int .u8 0,.int .u8 0,.int .u8 0,.int .u8 0] 27 16 (Nat.le_refl _)
   have q:=World.there_alloc h (.cells #[.int .u8 0,.int .u8 0,.int .u8 0,.int .u8 0,.int .u8 0,.int .u8 0,.int .u8 0,.int .u8 0,.int .u8 0,.int .u8 0,.int .u8 0,.int .u8 0,.int .u8 0,.int .u8 0,.int .u8 0,.int .u8 0] 27)
   simpa using q
  ·have h:=Zk ((w.alloc (.cells #[.int .u8 (byV v 0:Nat),.int .u8 (byV v 1:Nat),.int .u8 (byV v 2:Nat),.int .u8 (byV v 3:Nat),.int .u8 (byV v 4:Nat),.int .u8 (byV v 5:Nat),.int .u8 (byV v 6:Nat),.int .u8 (byV v 7:Nat),.int .u8 (byV v 8:Nat),.int .u8 (byV v 9:Nat),.int .u8 (byV v 10:Nat),.int .u8 (byV v 11:Nat),.int .u8 (byV v 12:Nat),.int .u8 (byV v 13:Nat),.int .u8 (byV v 14:Nat),.int .u8 (byV v 15:Nat)] 27)).alloc (.cells #[.int .u8 0,.int .u8 0,.int .u8 0,.int .u8 0,.int .u8 0,.int .u8 0,.int .u8 0,.int .u8 0,.int .u8 0,.int .u8 0,.int .u8 0,.int .u8 0,.int .u8 0,.int .u8 0,.int .u8 0,.int .u8 0] 27)) #[.int .u8 0,.int .u8 0,.int .u8 0,.int .u8 0,.int .u8 0,.int .u8 0,.int .u8 0,.int .u8 0,.int .u8 0,.int .u8 0,.int .u8 0,.int .u8 0,.int .u8 0,.int .u8 0,.int .u8 0,.int .u8 0] 27 16 (Nat.le_refl _)
   simpa using h
  ·have h:=Zae w (.cells #[.int .u8 (byV v 0:Nat),.int .u8 (byV v 1:Nat),.int .u8 (byV v 2:Nat),.int .u8 (byV v 3:Nat),.int .u8 (byV v 4:Nat),.int .u8 (byV v 5:Nat),.int .u8 (byV v 6:Nat),.int .u8 (byV v 7:Nat),.int .u8 (byV v 8:Nat),.int .u8 (byV v 9:Nat),.int .u8 (byV v 10:Nat),.int .u8 (byV v 11:Nat),.int .u8 (byV v 12:Nat),.int .u8 (byV v 13:Nat),.int .u8 (byV v 14:Nat),.int .u8 (byV v 15:Nat)] 27) (.cells #[.int .u8 0,.int .u8 0,.int .u8 0,.int .u8 0,.int .u8 0,.int .u8 0,.int .u8 0,.int .u8 0,.int .u8 0,.int .u8 0,.int .u8 0,.int .u8 0,.int .u8 0,.int .u8 0,.int .u8 0,.int .u8 0] 27) #[.int .u8 0,.int .u8 0,.int .u8 0,.int .u8 0,.int .u8 0,.int .u8 0,.int .u8 0,.int .u8 0,.int .u8 0,.int .u8 0,.int .u8 0,.int .u8 0,.int .u8 0,.int .u8 0,.int .u8 0,.int .u8 0] 27 j (.int .u8 0) (Sb j hj)
   rw[Nat.zero_add] at h
   exact h
 unfold BV
 show Calls Tryz.prog 217 #[.agg #[.int .u8 (byV v 0:Nat),.int .u8 (byV v 1:Nat),.int .u8 (byV v 2:Nat),.int .u8 (byV v 3:Nat),.int .u8 (byV v 4:Nat),.int .u8 (byV v 5:Nat),.int .u8 (byV v 6:Nat),.int .u8 (byV v 7:Nat),.int .u8 (byV v 8:Nat),.int .u8 (byV v 9:Nat),.int .u8 (byV v 10:Nat),.int .u8 (byV v 11:Nat),.int .u8 (byV v 12:Nat),.int .u8 (byV v 13:Nat),.int .u8 (byV v 14:Nat),.int .u8 (byV v 15:Nat)]] w _
 go_enter Tryz.func217,Tryz.ntmps217
 go_upto_region 2 with fail
 generalize ((w.alloc (.cells #[.int .u8 (byV v 0:Nat),.int .u8 (byV v 1:Nat),.int .u8 (byV v 2:Nat),.int .u8 (byV v 3:Nat),.int .u8 (byV v 4:Nat),.int .u8 (byV v 5:Nat),.int .u8 (byV v 6:Nat),.int .u8 (byV v 7:Nat),.int .u8 (byV v 8:Nat),.int .u8 (byV v 9:Nat),.int .u8 (byV v 10:Nat),.int .u8 (byV v 11:Nat),.int .u8 (byV v 12:Nat),.int .u8 (byV v 13:Nat),.int .u8 (byV v 14:Nat),.int .u8 (byV v 15:Nat)] 27)).alloc (.cells #[.int .u8 0,.int .u8 0,.int .u8 0,.int .u8 0,.int .u8 0,.int .u8 0,.int .u8 0,.int .u8 0,.int .u8 0,.int .u8 0,.int .u8 0,.int .u8 0,.int .u8 0,.int .u8 0,.int .u8 0,.int .u8 0] 27)).alloc (.cells #[.int .u8 0,.int .u8 0,.int .u8 0,.int .u8 0,.int .u8 0,.int .u8 0,.int .u8 0,.int .u8 0,.int .u8 0,.int .u8 0,.int .u8 0,.int .u8 0,.int .u8 0,.int .u8 0,.int .u8 0,.int .u8 0] 27)=w2 at HC ⊢
 go_wp2
 go_loopw [4,5] (fun s4 i wr=>∃ k:Nat,k≤16∧i=.int .i64 (k:Nat)∧Hid (Touch w2 wr (w.heap.size+2) 0 16∧∀ j,j<16→wr.cell? ⟨w.heap.size+2,j,none⟩=some (.int .u8 ((if 15-j<k then byV v (15-j) else 0:Nat):Int)))) (fun s4 i _=>16-(intOf i).toNat)
 case atStart=>exact ⟨0,by omega,rfl,Touch.refl _ _ _ _,fun j hj=>by rw[if_neg (by omega)];exact HC.out.2.2.2.2.1 j hj⟩
 case round=>
  obtain ⟨k,hk,rfl,HR⟩:=hrel
  by_cases hlt:k<16
  ·obtain ⟨r,hr⟩:∃ r,r+k=15:=⟨15-k,by omega⟩
   have c1:wr.cell? ⟨w.heap.size,k,none⟩=some (.int .u8 (byV v k:Nat)):=by
    have hz:=HC.out.2.2.2.2.2
    rw[HR.out.1.far (p:=⟨w.heap.size,k,none⟩) (show w.heap.size<_ by omega) (show w.heap.size≠_ by omega)]
    exact HC.out.2.1 k (by omega)
   have c2:=HR.out.2 r (by omega)
   rw[if_neg (by omega)] at c2
   have f1:=(HR.out.1.there _ _ HC.out.2.2.2.1 r (by omega)).2
   rw[Nat.zero_add] at f1
   obtain ⟨x1,HX1⟩:∃ x,Hid (x=byV v k):=⟨_,rfl⟩
   rw[←HX1.out] at c1
   have hki:((k:Nat):Int)<16:=by omega
   have hri:(15:Int)-((k:Nat):Int)=(r:Nat):=by omega
   have hrw:IntKind.i64.wrap ((r:Nat):Int)=(r:Nat):=by simp [IntKind.wrap,IntKind.bits,IntKind.signed];omega
   have hr16:((r:Nat):Int)<16:=by omega
   go_wp2
   refine ⟨⟨k+1,by omega,rfl,(HR.out.1.setCell r _ (by omega) (by omega)),fun j hj=>?_⟩,by simp only[intOf];omega⟩
   by_cases hjk:j=r
   ·subst hjk
    rw[if_pos (by omega),World.cell?_setCell_same' _ _ _ (by rw[c2];rfl),HX1.out,show k=15-j by omega]
   ·rw[Y2 _ _ _ _ _ (by omega),HR.out.2 j hj]
    congr 3
    by_cases h:15-j<k
    ·rw[if_pos h,if_pos (by omega)]
    ·rw[if_neg h,if_neg (by omega)]
  ·obtain rfl:k=16:=by omega
   have H4:Hid (wr.rangeAt (w.heap.size+2) 0 (BL (rv v))∧wr.there (w.heap.size+1) 0 16∧Below w.heap.size w wr):=by
    obtain ⟨t1,t2,t3,t4,t5,t6⟩:=HC.out
    obtain ⟨p1,p2⟩:=HR.out
    refine ⟨Ft (fun j hj=>?_),fun j hj=>?_,t1.trans (p1.toBelow (by omega) (by omega))⟩
    ·have h:=p2 j hj
     rw[if_pos (by omega)] at h
     rw[h,Zbo v j hj]
    ·rw[p1.far (p:=⟨w.heap.size+1,0+j,none⟩) (show w.heap.size+1<_ by omega) (show w.heap.size+1≠_ by omega),p1.farFrozen (p:=⟨w.heap.size+1,0+j,none⟩) (show w.heap.size+1<_ by omega) (show w.heap.size+1≠_ by omega)]
     exact t3 j hj
   clear HR hlt hk
   obtain ⟨L,HLL⟩:∃ L,Hid (L=BL (rv v)):=⟨_,rfl⟩
   rw[←HLL.out] at H4
   have HLl:Hid (L.length=16):=by show _=_;rw[HLL.out];rfl
   have HLo:Hid (L.toArray.all (·.oneCell')=true):=by show _=_;rw[HLL.out];exact D5 _
   have hTH:wr.there (w.heap.size+1) 0 L.length:=by rw[HLl.out];exact H4.out.2.1
   go_wp2_with (first
    | (refine wpList_load_mid (by rfl) 27 (.tmp 3) (by rfl) (w.heap.size+2) 0 (by rfl) L _ H4.out.1 Tryz.underlying27 rfl (by rw[HLl.out];exact Q0) ?_)
    | (refine wpList_store_mid (by rfl) 27 (.tmp 2) (.tmp 15) (by rfl) (w.heap.size+1) 0 L.toArray (by rfl) (by rfl) (by simpa using hTH) (by rw[List.size_toArray,HLl.out];exact Q0) HLo.out ?_))
   refine Yl L Tryz.results217 rfl (World.rangeAt_setCells_same _ _ _ _ hTH) Tryz.underlying27 rfl (by rw[HLl.out];exact Q0) ⟨?_,Zl _ (by omega) _ _ _ H4.out.2.2⟩
   rw[HLL.out]
   rfl
end Go.Proofs.YtehlppaidgkpaaaGreatDoor.Fd
namespace Go.Proofs.YtehlppaidgkpaaaGreatDoor
open Go.RowKit
set_option linter.unusedVariables false
theorem Ow (p q r t:Nat) (hp:p<256) (hq:q<256) (hr:r<256) (ht:t<256):Si p q r t =
  wd (((x14 p ^^^ x11 q) ^^^ x13 r) ^^^ x9 t) (((x9 p ^^^ x14 q) ^^^ x11 r) ^^^ x13 t) (((x13 p ^^^ x9 q) ^^^ x14 r) ^^^ x11 t) (((x11 p ^^^ x13 q) ^^^ x9 r) ^^^ x14 t):=by
 unfold Si UX U8 U16 U24
 rw[V3 _ _ _ _ _ _ _ _ (xl9 hp) (Jm hp) (J1 hp) (J0 hq) (xl9 hq) (Jm hq),V3 _ _ _ _ _ _ _ _ (Zd (xl9 hp) (J0 hq)) (Zd (Jm hp) (xl9 hq)) (Zd (J1 hp) (Jm hq)) (J1 hr) (J0 hr) (xl9 hr),
  V3 _ _ _ _ _ _ _ _ (Zd (Zd (xl9 hp) (J0 hq)) (J1 hr)) (Zd (Zd (Jm hp) (xl9 hq)) (J0 hr)) (Zd (Zd (J1 hp) (Jm hq)) (xl9 hr)) (Jm ht) (J1 ht) (J0 ht)]
 exact rfl
theorem W6 {a b c d:Nat} (ha:a<256) (hb:b<256) (hc:c<256) (hd:d<256):x2 (((a ^^^ b) ^^^ c) ^^^ d)=((x2 a ^^^ x2 b) ^^^ x2 c) ^^^ x2 d:=by
 have h1:a ^^^ b<256:=Zd ha hb
 have h2:(a ^^^ b) ^^^ c<256:=Zd h1 hc
 rw[Bm h2 hd,Bm h1 hc,Bm ha hb]
theorem W5 {a b c d:Nat} (ha:a<256) (hb:b<256) (hc:c<256) (hd:d<256):x3 (((a ^^^ b) ^^^ c) ^^^ d)=((x3 a ^^^ x3 b) ^^^ x3 c) ^^^ x3 d:=by
 have h1:a ^^^ b<256:=Zd ha hb
 have h2:(a ^^^ b) ^^^ c<256:=Zd h1 hc
 rw[Bl h2 hd,Bl h1 hc,Bl ha hb]
theorem Ia (p q r t:Nat) (hp:p<256) (hq:q<256) (hr:r<256) (ht:t<256):((((x2 ((((x14 p) ^^^ (x11 q)) ^^^ (x13 r)) ^^^ (x9 t))) ^^^ (x3 ((((x9 p) ^^^ (x14 q)) ^^^ (x11 r)) ^^^ (x13 t)))) ^^^ ((((x13 p) ^^^ (x9 q)) ^^^ (x14 r)) ^^^ (x11 t))) ^^^ ((((x11 p) ^^^ (x13 q)) ^^^ (x9 r)) ^^^ (x14 t)))=p:=by
 rw[W6 (J0 hp) (J1 hq) (Jm hr) (xl9 ht),W5 (xl9 hp) (J0 hq) (J1 hr) (Jm ht)]
 have e:(((((((x2 (x14 p)) ^^^ (x2 (x11 q))) ^^^ (x2 (x13 r))) ^^^ (x2 (x9 t))) ^^^ ((((x3 (x9 p)) ^^^ (x3 (x14 q))) ^^^ (x3 (x11 r))) ^^^ (x3 (x13 t)))) ^^^ ((((x13 p) ^^^ (x9 q)) ^^^ (x14 r)) ^^^ (x11 t))) ^^^ ((((x11 p) ^^^ (x13 q)) ^^^ (x9 r)) ^^^ (x14 t)))=(((((((x2 (x14 p)) ^^^ (x3 (x9 p))) ^^^ (x13 p)) ^^^ (x11 p)) ^^^ ((((x2 (x11 q)) ^^^ (x3 (x14 q))) ^^^ (x9 q)) ^^^ (x13 q))) ^^^ ((((x2 (x13 r)) ^^^ (x3 (x11 r))) ^^^ (x14 r)) ^^^ (x9 r))) ^^^ ((((x2 (x9 t)) ^^^ (x3 (x13 t))) ^^^ (x11 t)) ^^^ (x14 t))):=by ac_rfl
 rw[e]
 have h0:((((x2 (x14 p)) ^^^ (x3 (x9 p))) ^^^ (x13 p)) ^^^ (x11 p))=p:=(by decide +kernel:∀ p:Fin 256,((((x2 (x14 p.1)) ^^^ (x3 (x9 p.1))) ^^^ (x13 p.1)) ^^^ (x11 p.1))=p.1) ⟨p,hp⟩
 have h1:((((x2 (x11 q)) ^^^ (x3 (x14 q))) ^^^ (x9 q)) ^^^ (x13 q))=0:=(by decide +kernel:∀ q:Fin 256,((((x2 (x11 q.1)) ^^^ (x3 (x14 q.1))) ^^^ (x9 q.1)) ^^^ (x13 q.1))=0) ⟨q,hq⟩
 have h2:((((x2 (x13 r)) ^^^ (x3 (x11 r))) ^^^ (x14 r)) ^^^ (x9 r))=0:=(by decide +kernel:∀ r:Fin 256,((((x2 (x13 r.1)) ^^^ (x3 (x11 r.1))) ^^^ (x14 r.1)) ^^^ (x9 r.1))=0) ⟨r,hr⟩
 have h3:((((x2 (x9 t)) ^^^ (x3 (x13 t))) ^^^ (x11 t)) ^^^ (x14 t))=0:=(by decide +kernel:∀ t:Fin 256,((((x2 (x9 t.1)) ^^^ (x3 (x13 t.1))) ^^^ (x11 t.1)) ^^^ (x14 t.1))=0) ⟨t,ht⟩
 rw[h0,h1,h2,h3]
 simp
theorem E9 (p q r t:Nat) (hp:p<256) (hq:q<256) (hr:r<256) (ht:t<256):(((((((x14 p) ^^^ (x11 q)) ^^^ (x13 r)) ^^^ (x9 t)) ^^^ (x2 ((((x9 p) ^^^ (x14 q)) ^^^ (x11 r)) ^^^ (x13 t)))) ^^^ (x3 ((((x13 p) ^^^ (x9 q)) ^^^ (x14 r)) ^^^ (x11 t)))) ^^^ ((((x11 p) ^^^ (x13 q)) ^^^ (x9 r)) ^^^ (x14 t)))=q:=by
 rw[W6 (xl9 hp) (J0 hq) (J1 hr) (Jm ht),W5 (Jm hp) (xl9 hq) (J0 hr) (J1 ht)]
 have e:(((((((x14 p) ^^^ (x11 q)) ^^^ (x13 r)) ^^^ (x9 t)) ^^^ ((((x2 (x9 p)) ^^^ (x2 (x14 q))) ^^^ (x2 (x11 r))) ^^^ (x2 (x13 t)))) ^^^ ((((x3 (x13 p)) ^^^ (x3 (x9 q))) ^^^ (x3 (x14 r))) ^^^ (x3 (x11 t)))) ^^^ ((((x11 p) ^^^ (x13 q)) ^^^ (x9 r)) ^^^ (x14 t)))=(((((((x14 p) ^^^ (x2 (x9 p))) ^^^ (x3 (x13 p))) ^^^ (x11 p)) ^^^ ((((x11 q) ^^^ (x2 (x14 q))) ^^^ (x3 (x9 q))) ^^^ (x13 q))) ^^^ ((((x13 r) ^^^ (x2 (x11 r))) ^^^ (x3 (x14 r))) ^^^ (x9 r))) ^^^ ((((x9 t) ^^^ (x2 (x13 t))) ^^^ (x3 (x11 t))) ^^^ (x14 t))):=by ac_rfl
 rw[e]
 have h0:((((x14 p) ^^^ (x2 (x9 p))) ^^^ (x3 (x13 p))) ^^^ (x11 p))=0:=(by decide +kernel:∀ p:Fin 256,((((x14 p.1) ^^^ (x2 (x9 p.1))) ^^^ (x3 (x13 p.1))) ^^^ (x11 p.1))=0) ⟨p,hp⟩
 have h1:((((x11 q) ^^^ (x2 (x14 q))) ^^^ (x3 (x9 q))) ^^^ (x13 q))=q:=(by decide +kernel:∀ q:Fin 256,((((x11 q.1) ^^^ (x2 (x14 q.1))) ^^^ (x3 (x9 q.1))) ^^^ (x13 q.1))=q.1) ⟨q,hq⟩
 have h2:((((x13 r) ^^^ (x2 (x11 r))) ^^^ (x3 (x14 r))) ^^^ (x9 r))=0:=(by decide +kernel:∀ r:Fin 256,((((x13 r.1) ^^^ (x2 (x11 r.1))) ^^^ (x3 (x14 r.1))) ^^^ (x9 r.1))=0) ⟨r,hr⟩
 have h3:((((x9 t) ^^^ (x2 (x13 t))) ^^^ (x3 (x11 t))) ^^^ (x14 t))=0:=(by decide +kernel:∀ t:Fin 256,((((x9 t.1) ^^^ (x2 (x13 t.1))) ^^^ (x3 (x11 t.1))) ^^^ (x14 t.1))=0) ⟨t,ht⟩
 rw[h0,h1,h2,h3]
 simp
theorem E8 (p q r t:Nat) (hp:p<256) (hq:q<256) (hr:r<256) (ht:t<256):(((((((x14 p) ^^^ (x11 q)) ^^^ (x13 r)) ^^^ (x9 t)) ^^^ ((((x9 p) ^^^ (x14 q)) ^^^ (x11 r)) ^^^ (x13 t))) ^^^ (x2 ((((x13 p) ^^^ (x9 q)) ^^^ (x14 r)) ^^^ (x11 t)))) ^^^ (x3 ((((x11 p) ^^^ (x13 q)) ^^^ (x9 r)) ^^^ (x14 t))))=r:=by
 rw[W6 (Jm hp) (xl9 hq) (J0 hr) (J1 ht),W5 (J1 hp) (Jm hq) (xl9 hr) (J0 ht)]
 have e:(((((((x14 p) ^^^ (x11 q)) ^^^ (x13 r)) ^^^ (x9 t)) ^^^ ((((x9 p) ^^^ (x14 q)) ^^^ (x11 r)) ^^^ (x13 t))) ^^^ ((((x2 (x13 p)) ^^^ (x2 (x9 q))) ^^^ (x2 (x14 r))) ^^^ (x2 (x11 t)))) ^^^ ((((x3 (x11 p)) ^^^ (x3 (x13 q))) ^^^ (x3 (x9 r))) ^^^ (x3 (x14 t))))=(((((((x14 p) ^^^ (x9 p)) ^^^ (x2 (x13 p))) ^^^ (x3 (x11 p))) ^^^ ((((x11 q) ^^^ (x14 q)) ^^^ (x2 (x9 q))) ^^^ (x3 (x13 q)))) ^^^ ((((x13 r) ^^^ (x11 r)) ^^^ (x2 (x14 r))) ^^^ (x3 (x9 r)))) ^^^ ((((x9 t) ^^^ (x13 t)) ^^^ (x2 (x11 t))) ^^^ (x3 (x14 t)))):=by ac_rfl
 rw[e]
 have h0:((((x14 p) ^^^ (x9 p)) ^^^ (x2 (x13 p))) ^^^ (x3 (x11 p)))=0:=(by decide +kernel:∀ p:Fin 256,((((x14 p.1) ^^^ (x9 p.1)) ^^^ (x2 (x13 p.1))) ^^^ (x3 (x11 p.1)))=0) ⟨p,hp⟩
 have h1:((((x11 q) ^^^ (x14 q)) ^^^ (x2 (x9 q))) ^^^ (x3 (x13 q)))=0:=(by decide +kernel:∀ q:Fin 256,((((x11 q.1) ^^^ (x14 q.1)) ^^^ (x2 (x9 q.1))) ^^^ (x3 (x13 q.1)))=0) ⟨q,hq⟩
 have h2:((((x13 r) ^^^ (x11 r)) ^^^ (x2 (x14 r))) ^^^ (x3 (x9 r)))=r:=(by decide +kernel:∀ r:Fin 256,((((x13 r.1) ^^^ (x11 r.1)) ^^^ (x2 (x14 r.1))) ^^^ (x3 (x9 r.1)))=r.1) ⟨r,hr⟩
 have h3:((((x9 t) ^^^ (x13 t)) ^^^ (x2 (x11 t))) ^^^ (x3 (x14 t)))=0:=(by decide +kernel:∀ t:Fin 256,((((x9 t.1) ^^^ (x13 t.1)) ^^^ (x2 (x11 t.1))) ^^^ (x3 (x14 t.1)))=0) ⟨t,ht⟩
 rw[h0,h1,h2,h3]
 simp
theorem E7 (p q r t:Nat) (hp:p<256) (hq:q<256) (hr:r<256) (ht:t<256):((((x3 ((((x14 p) ^^^ (x11 q)) ^^^ (x13 r)) ^^^ (x9 t))) ^^^ ((((x9 p) ^^^ (x14 q)) ^^^ (x11 r)) ^^^ (x13 t))) ^^^ ((((x13 p) ^^^ (x9 q)) ^^^ (x14 r)) ^^^ (x11 t))) ^^^ (x2 ((((x11 p) ^^^ (x13 q)) ^^^ (x9 r)) ^^^ (x14 t))))=t:=by
 rw[W5 (J0 hp) (J1 hq) (Jm hr) (xl9 ht),W6 (J1 hp) (Jm hq) (xl9 hr) (J0 ht)]
 have e:(((((((x3 (x14 p)) ^^^ (x3 (x11 q))) ^^^ (x3 (x13 r))) ^^^ (x3 (x9 t))) ^^^ ((((x9 p) ^^^ (x14 q)) ^^^ (x11 r)) ^^^ (x13 t))) ^^^ ((((x13 p) ^^^ (x9 q)) ^^^ (x14 r)) ^^^ (x11 t))) ^^^ ((((x2 (x11 p)) ^^^ (x2 (x13 q))) ^^^ (x2 (x9 r))) ^^^ (x2 (x14 t))))=(((((((x3 (x14 p)) ^^^ (x9 p)) ^^^ (x13 p)) ^^^ (x2 (x11 p))) ^^^ ((((x3 (x11 q)) ^^^ (x14 q)) ^^^ (x9 q)) ^^^ (x2 (x13 q)))) ^^^ ((((x3 (x13 r)) ^^^ (x11 r)) ^^^ (x14 r)) ^^^ (x2 (x9 r)))) ^^^ ((((x3 (x9 t)) ^^^ (x13 t)) ^^^ (x11 t)) ^^^ (x2 (x14 t)))):=by ac_rfl
 rw[e]
 have h0:((((x3 (x14 p)) ^^^ (x9 p)) ^^^ (x13 p)) ^^^ (x2 (x11 p)))=0:=(by decide +kernel:∀ p:Fin 256,((((x3 (x14 p.1)) ^^^ (x9 p.1)) ^^^ (x13 p.1)) ^^^ (x2 (x11 p.1)))=0) ⟨p,hp⟩
 have h1:((((x3 (x11 q)) ^^^ (x14 q)) ^^^ (x9 q)) ^^^ (x2 (x13 q)))=0:=(by decide +kernel:∀ q:Fin 256,((((x3 (x11 q.1)) ^^^ (x14 q.1)) ^^^ (x9 q.1)) ^^^ (x2 (x13 q.1)))=0) ⟨q,hq⟩
 have h2:((((x3 (x13 r)) ^^^ (x11 r)) ^^^ (x14 r)) ^^^ (x2 (x9 r)))=0:=(by decide +kernel:∀ r:Fin 256,((((x3 (x13 r.1)) ^^^ (x11 r.1)) ^^^ (x14 r.1)) ^^^ (x2 (x9 r.1)))=0) ⟨r,hr⟩
 have h3:((((x3 (x9 t)) ^^^ (x13 t)) ^^^ (x11 t)) ^^^ (x2 (x14 t)))=t:=(by decide +kernel:∀ t:Fin 256,((((x3 (x9 t.1)) ^^^ (x13 t.1)) ^^^ (x11 t.1)) ^^^ (x2 (x14 t.1)))=t.1) ⟨t,ht⟩
 rw[h0,h1,h2,h3]
 simp
theorem Zap (x:Nat):bt0 (mcw x)=((x2 (bt0 x) ^^^ x3 (bt1 x)) ^^^ bt2 x) ^^^ bt3 x∧bt1 (mcw x)=((bt0 x ^^^ x2 (bt1 x)) ^^^ x3 (bt2 x)) ^^^ bt3 x∧bt2 (mcw x)=((bt0 x ^^^ bt1 x) ^^^ x2 (bt2 x)) ^^^ x3 (bt3 x)∧bt3 (mcw x)=((x3 (bt0 x) ^^^ bt1 x) ^^^ bt2 x) ^^^ x2 (bt3 x):=
 Lb (Zd (Zd (Zd (xl2 (Yw x)) (xl3 (Yv x))) (Yu x)) (Yt x)) (Zd (Zd (Zd (Yw x) (xl2 (Yv x))) (xl3 (Yu x))) (Yt x)) (Zd (Zd (Zd (Yw x) (Yv x)) (xl2 (Yu x))) (xl3 (Yt x))) (Zd (Zd (Zd (xl3 (Yw x)) (Yv x)) (Yu x)) (xl2 (Yt x)))
theorem P1 (x:Nat):bt0 (Vd x)=((x14 (bt0 x) ^^^ x11 (bt1 x)) ^^^ x13 (bt2 x)) ^^^ x9 (bt3 x)∧bt1 (Vd x)=((x9 (bt0 x) ^^^ x14 (bt1 x)) ^^^ x11 (bt2 x)) ^^^ x13 (bt3 x)∧bt2 (Vd x)=((x13 (bt0 x) ^^^ x9 (bt1 x)) ^^^ x14 (bt2 x)) ^^^ x11 (bt3 x)∧bt3 (Vd x)=((x11 (bt0 x) ^^^ x13 (bt1 x)) ^^^ x9 (bt2 x)) ^^^ x14 (bt3 x):=by
 unfold Vd
 rw[Ow _ _ _ _ (Yw x) (Yv x) (Yu x) (Yt x)]
 have a:=Yw x
 have b:=Yv x
 have c:=Yu x
 have d:=Yt x
 exact Lb (Zd (Zd (Zd (J0 a) (J1 b)) (Jm c)) (xl9 d)) (Zd (Zd (Zd (xl9 a) (J0 b)) (J1 c)) (Jm d)) (Zd (Zd (Zd (Jm a) (xl9 b)) (J0 c)) (J1 d)) (Zd (Zd (Zd (J1 a) (Jm b)) (xl9 c)) (J0 d))
theorem Zao (x:Nat):mcw x<4294967296:=by
 have a:=Yw x
 have b:=Yv x
 have c:=Yu x
 have d:=Yt x
 exact Qt (Zd (Zd (Zd (xl2 a) (xl3 b)) c) d) (Zd (Zd (Zd a (xl2 b)) (xl3 c)) d) (Zd (Zd (Zd a b) (xl2 c)) (xl3 d)) (Zd (Zd (Zd (xl3 a) b) c) (xl2 d))
theorem Vo {x:Nat} (h:x<4294967296):mcw (Vd x)=x:=by
 obtain ⟨e0,e1,e2,e3⟩:=P1 x
 have a:=Yw x
 have b:=Yv x
 have c:=Yu x
 have d:=Yt x
 have hm:=Qu (Zao (Vd x))
 obtain ⟨u0,u1,u2,u3⟩:=Zap (Vd x)
 rw[u0,u1,u2,u3,e0,e1,e2,e3,Ia _ _ _ _ a b c d,E9 _ _ _ _ a b c d,E8 _ _ _ _ a b c d,E7 _ _ _ _ a b c d,Qu h] at hm
 exact hm.symm
theorem E5 (s:W4):Rd s=mcS (Ws s):=by unfold Rd mcS Ws;simp only[Zam]
theorem Tt (s:W4) (hs:s.ok):mcS (Sj s)=s:=by
 unfold Sj mcS
 obtain ⟨h1,h2,h3,h4⟩:=hs
 simp only[Vo h1,Vo h2,Vo h3,Vo h4]
theorem Rg {K : Nat → Nat} (hK : ∀ i, K i < 4294967296) (r : Nat) : ∀ t : W4, t.ok → Ws (G8 K r (Vg (itD K r t))) = t := by
  induction r with
  | zero => intro t ht; rw [Cw, Ns]; exact Hl t ht
  | succ r ih =>
    intro t ht
    have h := ih (Wn K (r + 1) t) (P2 _)
    rw [Cx]
    generalize Vg (itD K r (Wn K (r + 1) t)) = y at h ⊢
    rw [Nt, E5, h, Wn, Tt _ (Kr hK _ (Vf t)), Wk, Hl t ht]
theorem Iq {K:Nat→Nat} (hK:∀ i,K i<4294967296) (nr:Nat) (s:W4) (hs:s.ok):N2 nr K (dcW nr K s)=s:=by
 rw[dcW,N2,Wk,Rg hK _ _ (Kr hK nr hs),Wk]
end Go.Proofs.YtehlppaidgkpaaaGreatDoor
