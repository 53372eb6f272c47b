import Derived.Test.YtehlppaidgkpaaaGreatDoorBlk
import Derived.Test.YtehlppaidgkpaaaGreatDoorPart00
import Derived.Test.YtehlppaidgkpaaaGreatDoorPart16
import Derived.Lib.SliceRun
import Derived.Deep.Cut
namespace Go.Proofs.YtehlppaidgkpaaaGreatDoor
open Go.RowKit
set_option linter.unusedVariables false
def bt0 (x:Nat):Nat:=x/16777216%256
def bt1 (x:Nat):Nat:=x/65536%256
def bt2 (x:Nat):Nat:=x/256%256
def bt3 (x:Nat):Nat:=x%256
theorem Xg (x:Nat):bt0 x<256:=Nat.mod_lt _ (by decide)
theorem Xf (x:Nat):bt1 x<256:=Nat.mod_lt _ (by decide)
theorem Xe (x:Nat):bt2 x<256:=Nat.mod_lt _ (by decide)
theorem Xd (x:Nat):bt3 x<256:=Nat.mod_lt _ (by decide)
theorem Qr {x:Nat} (h:x<4294967296):wd (bt0 x) (bt1 x) (bt2 x) (bt3 x)=x:=by unfold wd bt0 bt1 bt2 bt3;omega
theorem J0 (x:Nat):(x:Int)/16777216%256=(bt0 x:Nat):=by unfold bt0;omega
theorem Jz (x:Nat):(x:Int)/65536%256=(bt1 x:Nat):=by unfold bt1;omega
theorem Jy (x:Nat):(x:Int)/256%256=(bt2 x:Nat):=by unfold bt2;omega
theorem Jx (x:Nat):(x:Int)%256=(bt3 x:Nat):=by unfold bt3;omega
def B9 (a b c d:Nat):Nat:=Zae (bt0 a) (bt1 b) (bt2 c) (bt3 d)
def J5 (a b c d:Nat):Nat:=wd (SB (bt0 a)) (SB (bt1 b)) (SB (bt2 c)) (SB (bt3 d))
def Bq (a b c d:Nat):Nat:=wd (UB (bt0 a)) (UB (bt1 b)) (UB (bt2 c)) (UB (bt3 d))
def Fh (a:Nat):Nat:=Zbv (bt0 a) (bt1 a) (bt2 a) (bt3 a)
theorem G4 (a b c d:Nat):B9 a b c d<4294967296:=Yo (Yo (Yo (Zbq (Xg a)) (Zbr (Xf b))) (I3 (Xe c))) (I2 (Xd d))
theorem I9 (a:Nat):Fh a<4294967296:=Yo (Yo (Yo (Ze5 (Xg a)) (Ze6 (Xf a))) (Zdt (Xe a))) (Zds (Xd a))
theorem Ki (a b c d:Nat):J5 a b c d<4294967296:=Jc (Yw _) (Yw _) (Yw _) (Yw _)
structure W4 where
 (a b c d:Nat)
def W4.ok (s:W4):Prop:=s.a<4294967296∧s.b<4294967296∧s.c<4294967296∧s.d<4294967296
def W4.val (s:W4):Value:=Tu s.a s.b s.c s.d
def W4.blk (s:W4):Value:=YtehlppaidgkpaaaGreatDoor.blk (bt0 s.a) (bt1 s.a) (bt2 s.a) (bt3 s.a) (bt0 s.b) (bt1 s.b) (bt2 s.b) (bt3 s.b) (bt0 s.c) (bt1 s.c) (bt2 s.c) (bt3 s.c) (bt0 s.d) (bt1 s.d) (bt2 s.d) (bt3 s.d)
def K5 (K:Nat→Nat) (r:Nat) (s:W4):W4:=⟨Nat.xor s.a (K (4*r)),Nat.xor s.b (K (4*r+1)),Nat.xor s.c (K (4*r+2)),Nat.xor s.d (K (4*r+3))⟩
def M2 (s:W4):W4:=⟨B9 s.a s.b s.c s.d,B9 s.b s.c s.d s.a,B9 s.c s.d s.a s.b,B9 s.d s.a s.b s.c⟩
def K7 (s:W4):W4:=⟨J5 s.a s.b s.c s.d,J5 s.b s.c s.d s.a,J5 s.c s.d s.a s.b,J5 s.d s.a s.b s.c⟩
def Rc (s:W4):W4:=⟨Bq s.a s.d s.c s.b,Bq s.b s.a s.d s.c,Bq s.c s.b s.a s.d,Bq s.d s.c s.b s.a⟩
def Zbx (s:W4):W4:=⟨Fh s.a,Fh s.b,Fh s.c,Fh s.d⟩
theorem R4 (s:W4):(M2 s).ok:=⟨G4 _ _ _ _,G4 _ _ _ _,G4 _ _ _ _,G4 _ _ _ _⟩
theorem Fz (s:W4):(K7 s).ok:=⟨Ki _ _ _ _,Ki _ _ _ _,Ki _ _ _ _,Ki _ _ _ _⟩
theorem Kz {K:Nat→Nat} (hK:∀ i,K i<4294967296) (r:Nat) {s:W4} (h:s.ok):(K5 K r s).ok:=⟨Yo h.1 (hK _),Yo h.2.1 (hK _),Yo h.2.2.1 (hK _),Yo h.2.2.2 (hK _)⟩
def Gd (K:Nat→Nat):Nat→W4→W4
 | 0,s=>s
 | r+1,s=>K5 K (r+1) (M2 (Gd K r s))
def Nj (nr:Nat) (K:Nat→Nat) (s:W4):W4:=K5 K nr (K7 (Gd K (nr-1) (K5 K 0 s)))
theorem Ee {K:Nat→Nat} (hK:∀ i,K i<4294967296) {s:W4} (h:s.ok):∀ r,(Gd K r s).ok
 | 0=>h
 | r+1=>Kz hK _ (R4 _)
theorem Zau {K:Nat→Nat} (hK:∀ i,K i<4294967296) (nr:Nat) (s:W4):(Nj nr K s).ok:=Kz hK _ (Fz _)
structure J7 (w:World) (g o nr:Nat) (K:Nat→Nat):Prop where
 rounds:w.cell? ⟨g,o,none⟩=some (.int .i64 (nr:Nat))
 words:∀ i,i<4*(nr+1)→w.cell? ⟨g,o+1+i,none⟩=some (.int .u32 (K i:Nat))
 small:∀ i,K i<4294967296
 tab:Tab w g o
 here:g<w.heap.size
 some:1≤nr
 most:nr≤14
theorem Tab.below {B:Nat} {w w':World} {g o:Nat} (h:Tab w g o) (hb:Below B w w') (hg:g<B):Tab w' g o:=
 ⟨fun b hb'=>(hb.cell hg).trans (h.s b hb'),fun b hb'=>(hb.cell hg).trans (h.u b hb'),fun b hb'=>(hb.cell hg).trans (h.m b hb'),fun b hb'=>(hb.cell hg).trans (h.n b hb')⟩
theorem J7.below {B:Nat} {w w':World} {g o nr:Nat} {K:Nat→Nat} (h:J7 w g o nr K) (hb:Below B w w') (hg:g<B):J7 w' g o nr K:=
 ⟨(hb.cell hg).trans h.rounds,fun i hi=>(hb.cell hg).trans (h.words i hi),h.small,h.tab.below hb hg,Nat.lt_of_lt_of_le h.here hb.size,h.some,h.most⟩
theorem Below.drewN {B:Nat} {a w:World} (h:Below B a w) (m:Nat):Below B a (w.drewN m):=⟨h.os,h.tape,h.output,h.size,h.block⟩
theorem Zc {B:Nat} {w w':World} {g o n:Nat} (h:w.there g o n) (hb:Below B w w') (hg:g<B):w'.there g o n:=fun j hj=>by
 obtain ⟨h1,h2⟩:=h j hj
 exact ⟨by rw[hb.cell hg];exact h1,by rw[hb.frozen hg];exact h2⟩
theorem R3 {B g o nr:Nat} {K:Nat→Nat} {w:World} (hC:J7 w g o nr K) (hg:g<B) (a b c d m:Nat) (hm:Hid (m=B9 a b c d)):∀ u,Below B w u →
  Calls Tryz.prog 88 #[.pointer (some ⟨g,o,none⟩),.int .u32 (a:Nat),.int .u32 (b:Nat),.int .u32 (c:Nat),.int .u32 (d:Nat)] u fun e u'=>e=.returned (.int .u32 (m:Nat))∧Below B w u':=fun u hu=>by
 refine (Zcp g o a b c d _ _ _ _ u (Xg a) (Xf b) (Xe c) (Xd d) (J0 a) (Jz b) (Jy c) (Jx d) (hC.tab.below hu hg)).mono fun e u' ⟨h1,k,h2⟩=>?_
 subst h2
 exact ⟨by rw[h1,hm.out];rfl,Below.drewN hu k⟩
theorem C6 {B g o nr:Nat} {K:Nat→Nat} {w:World} (hC:J7 w g o nr K) (hg:g<B) (a b c d m:Nat) (hm:Hid (m=J5 a b c d)):∀ u,Below B w u →
  Calls Tryz.prog 90 #[.pointer (some ⟨g,o,none⟩),.int .u32 (a:Nat),.int .u32 (b:Nat),.int .u32 (c:Nat),.int .u32 (d:Nat)] u fun e u'=>e=.returned (.int .u32 (m:Nat))∧Below B w u':=fun u hu=>by
 refine (R9 g o a b c d _ _ _ _ u (Xg a) (Xf b) (Xe c) (Xd d) (J0 a) (Jz b) (Jy c) (Jx d) (hC.tab.below hu hg)).mono fun e u' ⟨h1,k,h2⟩=>?_
 subst h2
 exact ⟨by rw[h1,hm.out];rfl,Below.drewN hu k⟩
theorem Iw {B g o nr:Nat} {K:Nat→Nat} {w:World} (hC:J7 w g o nr K) (hg:g<B) (hB:B≤w.heap.size) (r:Nat) (hr:r≤nr) (s t:W4) (hs:s.ok) (ht:Hid (t=K5 K r s)):∀ u,Below B w u →
  Calls Tryz.prog 86 #[.pointer (some ⟨g,o,none⟩),s.val,.int .i64 (r:Nat)] u fun e u'=>e=.returned t.val∧Below B w u':=fun u hu=>by
 have hC':=hC.below hu hg
 have:=hC.most
 refine (Zdr g o r s.a s.b s.c s.d _ _ _ _ u (by omega) hC'.here hs.1 hs.2.1 hs.2.2.1 hs.2.2.2 (hC.small _) (hC.small _) (hC.small _) (hC.small _) (hC'.words (4*r) (by omega)) (hC'.words (4*r+1) (by omega)) (hC'.words (4*r+2) (by omega)) (hC'.words (4*r+3) (by omega))).mono fun e u' ⟨h1,h2⟩=>?_
 exact ⟨by rw[h1,ht.out];rfl,hu.trans (h2.mono (Nat.le_trans hB hu.size))⟩
theorem Zc3 (s:W4) (hs:s.ok) (w:World):Calls Tryz.prog 87 #[s.blk] w fun e w'=>e=.returned s.val∧Below w.heap.size w w':=by
 refine (C7 _ _ _ _ _ _ _ _ _ _ _ _ _ _ _ _ w (Xg _) (Xf _) (Xe _) (Xd _) (Xg _) (Xf _) (Xe _) (Xd _) (Xg _) (Xf _) (Xe _) (Xd _) (Xg _) (Xf _) (Xe _) (Xd _)).mono fun e w' ⟨h1,h2⟩=>⟨?_,h2⟩
 rw[h1,Qr hs.1,Qr hs.2.1,Qr hs.2.2.1,Qr hs.2.2.2]
 rfl
theorem Zfl (s:W4) (w:World):Calls Tryz.prog 89 #[s.val] w fun e w'=>e=.returned s.blk∧Below w.heap.size w w':=
 Cf s.a s.b s.c s.d _ _ _ _ _ _ _ _ _ _ _ _ _ _ _ _ w (J0 _) (Jz _) (Jy _) (Jx _) (J0 _) (Jz _) (Jy _) (Jx _) (J0 _) (Jz _) (Jy _) (Jx _) (J0 _) (Jz _) (Jy _) (Jx _)
end Go.Proofs.YtehlppaidgkpaaaGreatDoor
namespace Go.Proofs.YtehlppaidgkpaaaGreatDoor.Dg
open Go.RowKit
set_option linter.unusedVariables false
set_option linter.unusedSimpArgs false
def tkL (h:Int) (wd:Bool) (s:Zd) (half:Nat→Int) (fed:Nat):List Value:=
 .int .i64 h::fnV wd::(s.cells++((List.range 128).map (fun i=>Value.int .u8 (half i))++[.int .u64 fed]))
theorem Qs (h:Int) (wd:Bool) (s:Zd) (half:Nat→Int) (fed:Nat):(tkL h wd s half fed).length=139:=by simp [tkL,Zd.cells_length]
theorem Mc (h:Int) (wd:Bool) (s:Zd) (half:Nat→Int) (fed:Nat) :
  (tkL h wd s half fed)[0]?=some (.int .i64 h)∧(tkL h wd s half fed)[1]?=some (fnV wd)∧(∀ i,i<8→(tkL h wd s half fed)[2+i]?=s.cells[i]?)∧(∀ i,i<128→(tkL h wd s half fed)[10+i]?=some (.int .u8 (half i)))∧(tkL h wd s half fed)[138]?=some (.int .u64 fed):=by
 have hc:=s.cells_length
 refine ⟨rfl,rfl,?_,?_,?_⟩
 ·intro i hi
  rw[tkL,show 2+i=(i+1)+1 by omega,List.getElem?_cons_succ,List.getElem?_cons_succ,List.getElem?_append_left (by omega)]
 ·intro i hi
  rw[tkL,show 10+i=((8+i)+1)+1 by omega,List.getElem?_cons_succ,List.getElem?_cons_succ,List.getElem?_append_right (by omega),List.getElem?_append_left (by simp;omega)]
  rw[hc,show 8+i-8=i by omega]
  simp [hi]
 ·rw[tkL,show 138=(136+1)+1 by omega,List.getElem?_cons_succ,List.getElem?_cons_succ,List.getElem?_append_right (by omega),List.getElem?_append_right (by simp;omega)]
  simp [hc]
theorem TK.range {w:World} {g o:Nat} {h:Int} {wd:Bool} {s:Zd} {half:Nat→Int} {fed:Nat} (k:TK w g o h wd s half fed):w.rangeAt g o (tkL h wd s half fed):=by
 obtain ⟨h0,h1,h2,h3,h4⟩:=Mc h wd s half fed
 intro j v hv
 have hj:j<139:=by
  by_cases hj:j<139
  ·exact hj
  ·rw[List.getElem?_eq_none (by rw[Qs];omega)] at hv;cases hv
 by_cases j0:j=0
 ·subst j0;rw[h0] at hv;cases hv;exact k.hash
 by_cases j1:j=1
 ·subst j1;rw[h1] at hv;cases hv;exact k.fn
 by_cases j2:j<10
 ·obtain ⟨i,rfl⟩:∃ i,j=2+i:=⟨j-2,by omega⟩
  rw[h2 i (by omega)] at hv
  rw[←Nat.add_assoc]
  exact k.st i v hv
 by_cases j3:j<138
 ·obtain ⟨i,rfl⟩:∃ i,j=10+i:=⟨j-10,by omega⟩
  rw[h3 i (by omega)] at hv
  rw[←Nat.add_assoc]
  cases hv
  exact k.half i (by omega)
 ·obtain rfl:j=138:=by omega
  rw[h4] at hv;cases hv;exact k.fed
theorem TK.of {w:World} {g o:Nat} {h:Int} {wd:Bool} {s:Zd} {half:Nat→Int} {fed:Nat} (hr:w.rangeAt g o (tkL h wd s half fed)) (ht:w.there g o 139):TK w g o h wd s half fed:=by
 obtain ⟨h0,h1,h2,h3,h4⟩:=Mc h wd s half fed
 refine ⟨hr 0 _ h0,hr 1 _ h1,fun j v hv=>?_,fun i hi=>?_,hr 138 _ h4,ht⟩
 ·have hj:j<8:=by
   by_cases hj:j<s.cells.length
   ·exact hj
   ·rw[List.getElem?_eq_none (by omega)] at hv;cases hv
  have:=hr (2+j) v (by rw[h2 j hj];exact hv)
  rw[←Nat.add_assoc] at this
  exact this
 ·have:=hr (10+i) _ (h3 i hi)
  rw[←Nat.add_assoc] at this
  exact this
theorem Lt (s:Zd):∀ v∈s.cells,v.oneCell'=true:=by
 intro v hv
 simp only[Zd.cells,List.mem_map] at hv
 obtain ⟨x,_,rfl⟩:=hv
 rfl
theorem Rf (h:Int) (wd:Bool) (s:Zd) (half:Nat→Int) (fed:Nat):(tkL h wd s half fed).toArray.all (·.oneCell')=true:=all_oneCell_toArray (by
 intro v hv
 simp only[tkL,List.mem_cons,List.mem_append,List.mem_map,List.mem_singleton] at hv
 rcases hv with rfl | rfl | hv | ⟨i,_,rfl⟩ | rfl | hv
 ·rfl
 ·cases wd<;>rfl
 ·exact Lt s v hv
 ·rfl
 ·rfl
 ·simp at hv)
theorem Md (h:Int) (wd:Bool) (s:Zd) (half:Nat→Int) (fed:Nat):(tkL h wd s half fed).toArray.size=139:=by simp [Qs]
theorem TK.below {w v:World} {g o:Nat} {h:Int} {wd:Bool} {s:Zd} {half:Nat→Int} {fed:Nat} (k:TK w g o h wd s half fed) (b:Below w.heap.size w v):TK v g o h wd s half fed:=by
 have hg:g<w.heap.size:=lt_of_cell k.hash
 exact ⟨by rw[b.cell hg];exact k.hash,by rw[b.cell (p:=⟨g,o+1,none⟩) hg];exact k.fn,Zn k.st b hg,fun i hi=>by rw[b.cell (p:=⟨g,o+10+i,none⟩) hg];exact k.half i hi,by rw[b.cell (p:=⟨g,o+138,none⟩) hg];exact k.fed,fun j hj=>by rw[b.cell (p:=⟨g,o+j,none⟩) hg,b.frozen (p:=⟨g,o+j,none⟩) hg];exact k.there j hj⟩
theorem TK.setByte {w:World} {g o:Nat} {h:Int} {wd:Bool} {s:Zd} {half:Nat→Int} {fed:Nat} (k:TK w g o h wd s half fed) (u:Nat) (x:Int) (hu:u<128) :
  TK (w.setCell ⟨g,o+10+u,none⟩ (.int .u8 x)) g o h wd s (fun i=>if i=u then x else half i) fed∧Touch w (w.setCell ⟨g,o+10+u,none⟩ (.int .u8 x)) g o 139:=by
 have hx:=k.setHalf u [x] (by simp;omega)
 refine ⟨?_,hx.2⟩
 have e:(fun i=>if u≤i∧i<u+[x].length then [x].getD (i-u) 0 else half i)=fun i=>if i=u then x else half i:=by
  funext i
  by_cases hi:i=u
  ·subst hi;simp
  ·rw[if_neg (by simp;omega),if_neg hi]
 rw[e] at hx
 exact hx.1
theorem TK.clear {w:World} {g o:Nat} {h:Int} {wd:Bool} {s:Zd} {half:Nat→Int} {fed:Nat} (k:TK w g o h wd s half fed) (u n:Nat) (hu:u+n≤128) :
  TK (w.setCells g (o+10+u) (List.replicate n (.int .u8 0))) g o h wd s (fun i=>if u≤i∧i<u+n then 0 else half i) fed∧Touch w (w.setCells g (o+10+u) (List.replicate n (.int .u8 0))) g o 139:=by
 have hx:=k.setHalf u (List.replicate n 0) (by simp;omega)
 have e1:Za (List.replicate n 0)=List.replicate n (.int .u8 0):=by simp [Za]
 rw[e1] at hx
 refine ⟨?_,hx.2⟩
 have e:(fun i=>if u≤i∧i<u+(List.replicate n (0:Int)).length then (List.replicate n (0:Int)).getD (i-u) 0 else half i)=fun i=>if u≤i∧i<u+n then 0 else half i:=by
  funext i
  by_cases hi:u≤i∧i<u+n
  ·rw[if_pos (by simpa using hi),if_pos hi]
   simp only[List.getD,List.getElem?_replicate]
   split<;>rfl
  ·rw[if_neg (by simpa using hi),if_neg hi]
 rw[e] at hx
 exact hx.1
theorem TK.fun_eq {w:World} {g o:Nat} {h:Int} {wd:Bool} {s:Zd} {half half':Nat→Int} {fed:Nat} (k:TK w g o h wd s half fed) (e:∀ i,i<128→half i=half' i):TK w g o h wd s half' fed:=
 ⟨k.hash,k.fn,k.st,fun i hi=>by rw[←e i hi];exact k.half i hi,k.fed,k.there⟩
theorem TK.newer {w:World} {g o:Nat} {h:Int} {wd:Bool} {s:Zd} {half:Nat→Int} {fed b:Nat} (k:TK w g o h wd s half fed) (hb:g≠b) (vs:List Value) (o':Nat):TK (w.setCells b o' vs) g o h wd s half fed:=by
 have ho:∀ p:Addr,p.block=g→(w.setCells b o' vs).cell? p=w.cell? p:=fun p hp=>World.cell?_setCells_out b vs o' w p (fun e _=>absurd (hp.symm.trans e) hb)
 exact ⟨by rw[ho _ rfl];exact k.hash,by rw[ho _ rfl];exact k.fn,fun j v hv=>by rw[ho _ rfl];exact k.st j v hv,fun i hi=>by rw[ho _ rfl];exact k.half i hi,by rw[ho _ rfl];exact k.fed,World.there_setCells k.there b o' vs⟩
theorem Kr {w v:World} {g o n:Nat} (h:Touch w v g o n) {b:Nat} (hb:w.heap.size≤b) (vs:List Value) (o':Nat) (hg:g<w.heap.size):Touch w (v.setCells b o' vs) g o n:=
 ⟨by rw[Yu];exact h.os,by rw[Yd];exact h.tape,by rw[Z7];exact h.output,by rw[size_setCells];exact h.size,
  fun k hk hne=>by rw[World.heap_setCells_other v b o' vs (by have:=h.size;omega) (by omega)];exact h.block k hk hne,
  fun j hj=>by rw[World.cell?_setCells_out b vs o' v ⟨g,j,none⟩ (fun e _=>absurd e (by simp;omega))];exact h.cell j hj,
  fun o2 n2 ht=>World.there_setCells (h.there o2 n2 ht) b o' vs⟩
theorem Zd0 (w:World):(zeroValue 5).run Tryz.prog w=.ok (.int .u8 0) w:=by kernel_rfl
theorem Hh (w:World) (ty:TypeId) (g o n c:Nat) (ht:w.there g o n):(Builtin.clear_ #[22] ty #[.slice (some ⟨g,o,none⟩) n c]).run Tryz.prog w=.ok (.tuple #[]) (w.setCells g o (List.replicate n (.int .u8 0))):=by
 by_cases hn:n=0
 ·subst hn
  simp [Builtin.clear_,World.setCells,run_underlying Tryz.underlying22]
 ·exact Go.Lib.run_clear_slice w 22 5 ty (.int .u8 0) Tryz.underlying22 (fun w=>Zd0 w) rfl rfl g o n c (by omega) (fun j hj=>(ht j hj).1) (fun j hj=>(ht j hj).2)
def X9 (bs fed:Nat):Nat:=if fed%bs+1≤bs-bs/8 then 1 else 2
def Qh (bs:Nat) (half:Nat→Int) (fed:Nat) (i:Nat):Int:=
 if i<fed%bs then half i else if i=fed%bs then 128 else if i+8<X9 bs fed*bs then 0 else ((fed:Int)*8)/2^(8*(X9 bs fed*bs-1-i))%256
end Go.Proofs.YtehlppaidgkpaaaGreatDoor.Dg
namespace Go.Proofs.YtehlppaidgkpaaaGreatDoor
def Ng (f:Nat→W4→W4):Nat→W4→W4
 | 0,s=>s
 | r+1,s=>Ng f r (f (r+1) s)
theorem Lc (f:Nat→W4→W4) (r:Nat) (s:W4):Ng f (r+1) s=Ng f r (f (r+1) s):=rfl
theorem M9 (f:Nat→W4→W4) (s:W4):Ng f 0 s=s:=rfl
def Bv (K:Nat→Nat) (r:Nat) (s:W4):W4:=Zbx (K5 K r (Rc s))
def itD (K:Nat→Nat):Nat→W4→W4:=Ng (Bv K)
theorem Eg (K:Nat→Nat) (r:Nat) (s:W4):itD K (r+1) s=itD K r (Bv K (r+1) s):=Lc (Bv K) r s
theorem Ef (K:Nat→Nat) (s:W4):itD K 0 s=s:=M9 (Bv K) s
def dcW (nr:Nat) (K:Nat→Nat) (s:W4):W4:=K5 K 0 (Rc (itD K (nr-1) (K5 K nr s)))
theorem Le (K:Nat→Nat) (r:Nat) (s:W4):Gd K (r+1) s=K5 K (r+1) (M2 (Gd K r s)):=rfl
theorem Ld (K:Nat→Nat) (s:W4):Gd K 0 s=s:=rfl
open Go.RowKit
set_option linter.unusedVariables false
theorem Fe (a k:Nat):Nat.xor (Nat.xor a k) k=a:=by
 show (a ^^^ k) ^^^ k=a
 rw[Nat.xor_assoc,Nat.xor_self,Nat.xor_zero]
theorem W0 (K:Nat→Nat) (r:Nat) (s:W4):K5 K r (K5 K r s)=s:=by
 unfold K5
 simp only[Fe]
theorem Ih {a b c d:Nat} (ha:a<256) (hb:b<256) (hc:c<256) (hd:d<256):bt0 (wd a b c d)=a∧bt1 (wd a b c d)=b∧bt2 (wd a b c d)=c∧bt3 (wd a b c d)=d:=by
 unfold bt0 bt1 bt2 bt3 wd
 omega
theorem U_S {b:Nat} (h:b<256):UB (SB b)=b:=(N3 ⟨b,h⟩).1
theorem We (a b c d:Nat):bt0 (J5 a b c d)=SB (bt0 a)∧bt1 (J5 a b c d)=SB (bt1 b)∧bt2 (J5 a b c d)=SB (bt2 c)∧bt3 (J5 a b c d)=SB (bt3 d):=Ih (Yw _) (Yw _) (Yw _) (Yw _)
theorem Dm (s:W4) (hs:s.ok):Rc (K7 s)=s:=by
 obtain ⟨a,b,c,d⟩:=s
 obtain ⟨ha,hb,hc,hd⟩:=hs
 simp only at ha hb hc hd
 simp only[Rc,K7,Bq,(We _ _ _ _).1,(We _ _ _ _).2.1,(We _ _ _ _).2.2.1,(We _ _ _ _).2.2.2,U_S (Xg _),U_S (Xf _),U_S (Xe _),U_S (Xd _),Qr ha,Qr hb,Qr hc,Qr hd]
def mcw (x:Nat):Nat:=
 wd (Nat.xor (Nat.xor (Nat.xor (x2 (bt0 x)) (x3 (bt1 x))) (bt2 x)) (bt3 x)) (Nat.xor (Nat.xor (Nat.xor (bt0 x) (x2 (bt1 x))) (x3 (bt2 x))) (bt3 x))
  (Nat.xor (Nat.xor (Nat.xor (bt0 x) (bt1 x)) (x2 (bt2 x))) (x3 (bt3 x))) (Nat.xor (Nat.xor (Nat.xor (x3 (bt0 x)) (bt1 x)) (bt2 x)) (x2 (bt3 x)))
def mcS (s:W4):W4:=⟨mcw s.a,mcw s.b,mcw s.c,mcw s.d⟩
theorem xl2 {b:Nat} (h:b<256):x2 b<256:=(J8 ⟨b,h⟩).1
theorem xl3 {b:Nat} (h:b<256):x3 b<256:=(J8 ⟨b,h⟩).2.1
theorem xl9 {b:Nat} (h:b<256):x9 b<256:=(J8 ⟨b,h⟩).2.2.1
theorem Hv {b:Nat} (h:b<256):x11 b<256:=(J8 ⟨b,h⟩).2.2.2.1
theorem Ff {b:Nat} (h:b<256):x13 b<256:=(J8 ⟨b,h⟩).2.2.2.2.1
theorem Hu {b:Nat} (h:b<256):x14 b<256:=(J8 ⟨b,h⟩).2.2.2.2.2
theorem Zcq (a b c d:Nat):B9 a b c d=mcw (J5 a b c d):=by
 unfold B9 Zae mcw
 obtain ⟨e0,e1,e2,e3⟩:=We a b c d
 rw[e0,e1,e2,e3]
 have p:=Yw (bt0 a)
 have q:=Yw (bt1 b)
 have r:=Yw (bt2 c)
 have t:=Yw (bt3 d)
 unfold MX M8 M16 M24
 rw[Wn _ _ _ _ _ _ _ _ p p (xl3 p) (xl2 q) q q,Wn _ _ _ _ _ _ _ _ (Zj p (xl2 q)) (Zj p q) (Zj (xl3 p) q) (xl3 r) (xl2 r) r,Wn _ _ _ _ _ _ _ _ (Zj (Zj p (xl2 q)) (xl3 r)) (Zj (Zj p q) (xl2 r)) (Zj (Zj (xl3 p) q) r) t (xl3 t) (xl2 t)]
def Zfu (a b:Nat):Bool:=Nat.beq (Zo (Nat.xor a b)) (Nat.xor (Zo a) (Zo b))
set_option maxRecDepth 100000 in
theorem Ix:L5 (fun a=>L5 (Zfu a) 256) 256=true:=by decide +kernel
theorem Wa {a b:Nat} (ha:a<256) (hb:b<256):Zo (a ^^^ b)=Zo a ^^^ Zo b:=Nat.eq_of_beq_eq_true (Wk (Wk Ix ha) hb)
theorem Ts {a:Nat} (h:a<256):Zo a<256:=Vk ⟨a,h⟩
theorem Lq {a b:Nat} (ha:a<256) (hb:b<256):Zo (Zo (a ^^^ b))=Zo (Zo a) ^^^ Zo (Zo b):=by rw[Wa ha hb,Wa (Ts ha) (Ts hb)]
theorem Bb {a b:Nat} (ha:a<256) (hb:b<256):Zo (Zo (Zo (a ^^^ b)))=Zo (Zo (Zo a)) ^^^ Zo (Zo (Zo b)):=by rw[Lq ha hb,Wa (Ts (Ts ha)) (Ts (Ts hb))]
theorem N6 {a b:Nat} (ha:a<256) (hb:b<256):x9 (a ^^^ b)=x9 a ^^^ x9 b:=by
 show Zo (Zo (Zo (a ^^^ b))) ^^^ (a ^^^ b)=(Zo (Zo (Zo a)) ^^^ a) ^^^ (Zo (Zo (Zo b)) ^^^ b)
 rw[Bb ha hb];ac_rfl
theorem D9 {a b:Nat} (ha:a<256) (hb:b<256):x11 (a ^^^ b)=x11 a ^^^ x11 b:=by
 show (Zo (Zo (Zo (a ^^^ b))) ^^^ Zo (a ^^^ b)) ^^^ (a ^^^ b)=((Zo (Zo (Zo a)) ^^^ Zo a) ^^^ a) ^^^ ((Zo (Zo (Zo b)) ^^^ Zo b) ^^^ b)
 rw[Bb ha hb,Wa ha hb];ac_rfl
theorem D8 {a b:Nat} (ha:a<256) (hb:b<256):x13 (a ^^^ b)=x13 a ^^^ x13 b:=by
 show (Zo (Zo (Zo (a ^^^ b))) ^^^ Zo (Zo (a ^^^ b))) ^^^ (a ^^^ b)=((Zo (Zo (Zo a)) ^^^ Zo (Zo a)) ^^^ a) ^^^ ((Zo (Zo (Zo b)) ^^^ Zo (Zo b)) ^^^ b)
 rw[Bb ha hb,Lq ha hb];ac_rfl
theorem D7 {a b:Nat} (ha:a<256) (hb:b<256):x14 (a ^^^ b)=x14 a ^^^ x14 b:=by
 show (Zo (Zo (Zo (a ^^^ b))) ^^^ Zo (Zo (a ^^^ b))) ^^^ Zo (a ^^^ b)=((Zo (Zo (Zo a)) ^^^ Zo (Zo a)) ^^^ Zo a) ^^^ ((Zo (Zo (Zo b)) ^^^ Zo (Zo b)) ^^^ Zo b)
 rw[Bb ha hb,Lq ha hb,Wa ha hb];ac_rfl
theorem Zbw (p q r t:Nat) (hp:p<256) (hq:q<256) (hr:r<256) (ht:t<256):Zbv p q r t =
  wd (((x14 p ^^^ x11 q) ^^^ x13 r) ^^^ x9 t) (((x9 p ^^^ x14 q) ^^^ x11 r) ^^^ x13 t) (((x13 p ^^^ x9 q) ^^^ x14 r) ^^^ x11 t) (((x11 p ^^^ x13 q) ^^^ x9 r) ^^^ x14 t):=by
 unfold Zbv UX U8 U16 U24
 rw[Wn _ _ _ _ _ _ _ _ (xl9 hp) (Ff hp) (Hv hp) (Hu hq) (xl9 hq) (Ff hq),Wn _ _ _ _ _ _ _ _ (Zj (xl9 hp) (Hu hq)) (Zj (Ff hp) (xl9 hq)) (Zj (Hv hp) (Ff hq)) (Hv hr) (Hu hr) (xl9 hr),
  Wn _ _ _ _ _ _ _ _ (Zj (Zj (xl9 hp) (Hu hq)) (Hv hr)) (Zj (Zj (Ff hp) (xl9 hq)) (Hu hr)) (Zj (Zj (Hv hp) (Ff hq)) (xl9 hr)) (Ff ht) (Hv ht) (Hu ht)]
 exact rfl
theorem Gt {a b c d:Nat} (ha:a<256) (hb:b<256) (hc:c<256) (hd:d<256):x9 (((a ^^^ b) ^^^ c) ^^^ d)=((x9 a ^^^ x9 b) ^^^ x9 c) ^^^ x9 d:=by
 have h1:a ^^^ b<256:=Zj ha hb
 have h2:(a ^^^ b) ^^^ c<256:=Zj h1 hc
 rw[N6 h2 hd,N6 h1 hc,N6 ha hb]
theorem Vs {a b c d:Nat} (ha:a<256) (hb:b<256) (hc:c<256) (hd:d<256):x11 (((a ^^^ b) ^^^ c) ^^^ d)=((x11 a ^^^ x11 b) ^^^ x11 c) ^^^ x11 d:=by
 have h1:a ^^^ b<256:=Zj ha hb
 have h2:(a ^^^ b) ^^^ c<256:=Zj h1 hc
 rw[D9 h2 hd,D9 h1 hc,D9 ha hb]
theorem Vr {a b c d:Nat} (ha:a<256) (hb:b<256) (hc:c<256) (hd:d<256):x13 (((a ^^^ b) ^^^ c) ^^^ d)=((x13 a ^^^ x13 b) ^^^ x13 c) ^^^ x13 d:=by
 have h1:a ^^^ b<256:=Zj ha hb
 have h2:(a ^^^ b) ^^^ c<256:=Zj h1 hc
 rw[D8 h2 hd,D8 h1 hc,D8 ha hb]
theorem Vq {a b c d:Nat} (ha:a<256) (hb:b<256) (hc:c<256) (hd:d<256):x14 (((a ^^^ b) ^^^ c) ^^^ d)=((x14 a ^^^ x14 b) ^^^ x14 c) ^^^ x14 d:=by
 have h1:a ^^^ b<256:=Zj ha hb
 have h2:(a ^^^ b) ^^^ c<256:=Zj h1 hc
 rw[D7 h2 hd,D7 h1 hc,D7 ha hb]
theorem Of (p q r t:Nat) (hp:p<256) (hq:q<256) (hr:r<256) (ht:t<256):((((x14 ((((x2 p) ^^^ (x3 q)) ^^^ r) ^^^ t)) ^^^ (x11 (((p ^^^ (x2 q)) ^^^ (x3 r)) ^^^ t))) ^^^ (x13 (((p ^^^ q) ^^^ (x2 r)) ^^^ (x3 t)))) ^^^ (x9 ((((x3 p) ^^^ q) ^^^ r) ^^^ (x2 t))))=p:=by
 rw[Vq (xl2 hp) (xl3 hq) hr ht,Vs hp (xl2 hq) (xl3 hr) ht,Vr hp hq (xl2 hr) (xl3 ht),Gt (xl3 hp) hq hr (xl2 ht)]
 have e:(((((((x14 (x2 p)) ^^^ (x14 (x3 q))) ^^^ (x14 r)) ^^^ (x14 t)) ^^^ ((((x11 p) ^^^ (x11 (x2 q))) ^^^ (x11 (x3 r))) ^^^ (x11 t))) ^^^ ((((x13 p) ^^^ (x13 q)) ^^^ (x13 (x2 r))) ^^^ (x13 (x3 t)))) ^^^ ((((x9 (x3 p)) ^^^ (x9 q)) ^^^ (x9 r)) ^^^ (x9 (x2 t))))=(((((((x14 (x2 p)) ^^^ (x11 p)) ^^^ (x13 p)) ^^^ (x9 (x3 p))) ^^^ ((((x14 (x3 q)) ^^^ (x11 (x2 q))) ^^^ (x13 q)) ^^^ (x9 q))) ^^^ ((((x14 r) ^^^ (x11 (x3 r))) ^^^ (x13 (x2 r))) ^^^ (x9 r))) ^^^ ((((x14 t) ^^^ (x11 t)) ^^^ (x13 (x3 t))) ^^^ (x9 (x2 t)))):=by ac_rfl
 rw[e]
 have h0:((((x14 (x2 p)) ^^^ (x11 p)) ^^^ (x13 p)) ^^^ (x9 (x3 p)))=p:=(by decide +kernel:∀ p:Fin 256,((((x14 (x2 p.1)) ^^^ (x11 p.1)) ^^^ (x13 p.1)) ^^^ (x9 (x3 p.1)))=p.1) ⟨p,hp⟩
 have h1:((((x14 (x3 q)) ^^^ (x11 (x2 q))) ^^^ (x13 q)) ^^^ (x9 q))=0:=(by decide +kernel:∀ q:Fin 256,((((x14 (x3 q.1)) ^^^ (x11 (x2 q.1))) ^^^ (x13 q.1)) ^^^ (x9 q.1))=0) ⟨q,hq⟩
 have h2:((((x14 r) ^^^ (x11 (x3 r))) ^^^ (x13 (x2 r))) ^^^ (x9 r))=0:=(by decide +kernel:∀ r:Fin 256,((((x14 r.1) ^^^ (x11 (x3 r.1))) ^^^ (x13 (x2 r.1))) ^^^ (x9 r.1))=0) ⟨r,hr⟩
 have h3:((((x14 t) ^^^ (x11 t)) ^^^ (x13 (x3 t))) ^^^ (x9 (x2 t)))=0:=(by decide +kernel:∀ t:Fin 256,((((x14 t.1) ^^^ (x11 t.1)) ^^^ (x13 (x3 t.1))) ^^^ (x9 (x2 t.1)))=0) ⟨t,ht⟩
 rw[h0,h1,h2,h3]
 simp
theorem Oe (p q r t:Nat) (hp:p<256) (hq:q<256) (hr:r<256) (ht:t<256):((((x9 ((((x2 p) ^^^ (x3 q)) ^^^ r) ^^^ t)) ^^^ (x14 (((p ^^^ (x2 q)) ^^^ (x3 r)) ^^^ t))) ^^^ (x11 (((p ^^^ q) ^^^ (x2 r)) ^^^ (x3 t)))) ^^^ (x13 ((((x3 p) ^^^ q) ^^^ r) ^^^ (x2 t))))=q:=by
 rw[Gt (xl2 hp) (xl3 hq) hr ht,Vq hp (xl2 hq) (xl3 hr) ht,Vs hp hq (xl2 hr) (xl3 ht),Vr (xl3 hp) hq hr (xl2 ht)]
 have e:(((((((x9 (x2 p)) ^^^ (x9 (x3 q))) ^^^ (x9 r)) ^^^ (x9 t)) ^^^ ((((x14 p) ^^^ (x14 (x2 q))) ^^^ (x14 (x3 r))) ^^^ (x14 t))) ^^^ ((((x11 p) ^^^ (x11 q)) ^^^ (x11 (x2 r))) ^^^ (x11 (x3 t)))) ^^^ ((((x13 (x3 p)) ^^^ (x13 q)) ^^^ (x13 r)) ^^^ (x13 (x2 t))))=(((((((x9 (x2 p)) ^^^ (x14 p)) ^^^ (x11 p)) ^^^ (x13 (x3 p))) ^^^ ((((x9 (x3 q)) ^^^ (x14 (x2 q))) ^^^ (x11 q)) ^^^ (x13 q))) ^^^ ((((x9 r) ^^^ (x14 (x3 r))) ^^^ (x11 (x2 r))) ^^^ (x13 r))) ^^^ ((((x9 t) ^^^ (x14 t)) ^^^ (x11 (x3 t))) ^^^ (x13 (x2 t)))):=by ac_rfl
 rw[e]
 have h0:((((x9 (x2 p)) ^^^ (x14 p)) ^^^ (x11 p)) ^^^ (x13 (x3 p)))=0:=(by decide +kernel:∀ p:Fin 256,((((x9 (x2 p.1)) ^^^ (x14 p.1)) ^^^ (x11 p.1)) ^^^ (x13 (x3 p.1)))=0) ⟨p,hp⟩
 have h1:((((x9 (x3 q)) ^^^ (x14 (x2 q))) ^^^ (x11 q)) ^^^ (x13 q))=q:=(by decide +kernel:∀ q:Fin 256,((((x9 (x3 q.1)) ^^^ (x14 (x2 q.1))) ^^^ (x11 q.1)) ^^^ (x13 q.1))=q.1) ⟨q,hq⟩
 have h2:((((x9 r) ^^^ (x14 (x3 r))) ^^^ (x11 (x2 r))) ^^^ (x13 r))=0:=(by decide +kernel:∀ r:Fin 256,((((x9 r.1) ^^^ (x14 (x3 r.1))) ^^^ (x11 (x2 r.1))) ^^^ (x13 r.1))=0) ⟨r,hr⟩
 have h3:((((x9 t) ^^^ (x14 t)) ^^^ (x11 (x3 t))) ^^^ (x13 (x2 t)))=0:=(by decide +kernel:∀ t:Fin 256,((((x9 t.1) ^^^ (x14 t.1)) ^^^ (x11 (x3 t.1))) ^^^ (x13 (x2 t.1)))=0) ⟨t,ht⟩
 rw[h0,h1,h2,h3]
 simp
theorem Od (p q r t:Nat) (hp:p<256) (hq:q<256) (hr:r<256) (ht:t<256):((((x13 ((((x2 p) ^^^ (x3 q)) ^^^ r) ^^^ t)) ^^^ (x9 (((p ^^^ (x2 q)) ^^^ (x3 r)) ^^^ t))) ^^^ (x14 (((p ^^^ q) ^^^ (x2 r)) ^^^ (x3 t)))) ^^^ (x11 ((((x3 p) ^^^ q) ^^^ r) ^^^ (x2 t))))=r:=by
 rw[Vr (xl2 hp) (xl3 hq) hr ht,Gt hp (xl2 hq) (xl3 hr) ht,Vq hp hq (xl2 hr) (xl3 ht),Vs (xl3 hp) hq hr (xl2 ht)]
 have e:(((((((x13 (x2 p)) ^^^ (x13 (x3 q))) ^^^ (x13 r)) ^^^ (x13 t)) ^^^ ((((x9 p) ^^^ (x9 (x2 q))) ^^^ (x9 (x3 r))) ^^^ (x9 t))) ^^^ ((((x14 p) ^^^ (x14 q)) ^^^ (x14 (x2 r))) ^^^ (x14 (x3 t)))) ^^^ ((((x11 (x3 p)) ^^^ (x11 q)) ^^^ (x11 r)) ^^^ (x11 (x2 t))))=(((((((x13 (x2 p)) ^^^ (x9 p)) ^^^ (x14 p)) ^^^ (x11 (x3 p))) ^^^ ((((x13 (x3 q)) ^^^ (x9 (x2 q))) ^^^ (x14 q)) ^^^ (x11 q))) ^^^ ((((x13 r) ^^^ (x9 (x3 r))) ^^^ (x14 (x2 r))) ^^^ (x11 r))) ^^^ ((((x13 t) ^^^ (x9 t)) ^^^ (x14 (x3 t))) ^^^ (x11 (x2 t)))):=by ac_rfl
 rw[e]
 have h0:((((x13 (x2 p)) ^^^ (x9 p)) ^^^ (x14 p)) ^^^ (x11 (x3 p)))=0:=(by decide +kernel:∀ p:Fin 256,((((x13 (x2 p.1)) ^^^ (x9 p.1)) ^^^ (x14 p.1)) ^^^ (x11 (x3 p.1)))=0) ⟨p,hp⟩
 have h1:((((x13 (x3 q)) ^^^ (x9 (x2 q))) ^^^ (x14 q)) ^^^ (x11 q))=0:=(by decide +kernel:∀ q:Fin 256,((((x13 (x3 q.1)) ^^^ (x9 (x2 q.1))) ^^^ (x14 q.1)) ^^^ (x11 q.1))=0) ⟨q,hq⟩
 have h2:((((x13 r) ^^^ (x9 (x3 r))) ^^^ (x14 (x2 r))) ^^^ (x11 r))=r:=(by decide +kernel:∀ r:Fin 256,((((x13 r.1) ^^^ (x9 (x3 r.1))) ^^^ (x14 (x2 r.1))) ^^^ (x11 r.1))=r.1) ⟨r,hr⟩
 have h3:((((x13 t) ^^^ (x9 t)) ^^^ (x14 (x3 t))) ^^^ (x11 (x2 t)))=0:=(by decide +kernel:∀ t:Fin 256,((((x13 t.1) ^^^ (x9 t.1)) ^^^ (x14 (x3 t.1))) ^^^ (x11 (x2 t.1)))=0) ⟨t,ht⟩
 rw[h0,h1,h2,h3]
 simp
theorem Ob (p q r t:Nat) (hp:p<256) (hq:q<256) (hr:r<256) (ht:t<256):((((x11 ((((x2 p) ^^^ (x3 q)) ^^^ r) ^^^ t)) ^^^ (x13 (((p ^^^ (x2 q)) ^^^ (x3 r)) ^^^ t))) ^^^ (x9 (((p ^^^ q) ^^^ (x2 r)) ^^^ (x3 t)))) ^^^ (x14 ((((x3 p) ^^^ q) ^^^ r) ^^^ (x2 t))))=t:=by
 rw[Vs (xl2 hp) (xl3 hq) hr ht,Vr hp (xl2 hq) (xl3 hr) ht,Gt hp hq (xl2 hr) (xl3 ht),Vq (xl3 hp) hq hr (xl2 ht)]
 have e:(((((((x11 (x2 p)) ^^^ (x11 (x3 q))) ^^^ (x11 r)) ^^^ (x11 t)) ^^^ ((((x13 p) ^^^ (x13 (x2 q))) ^^^ (x13 (x3 r))) ^^^ (x13 t))) ^^^ ((((x9 p) ^^^ (x9 q)) ^^^ (x9 (x2 r))) ^^^ (x9 (x3 t)))) ^^^ ((((x14 (x3 p)) ^^^ (x14 q)) ^^^ (x14 r)) ^^^ (x14 (x2 t))))=(((((((x11 (x2 p)) ^^^ (x13 p)) ^^^ (x9 p)) ^^^ (x14 (x3 p))) ^^^ ((((x11 (x3 q)) ^^^ (x13 (x2 q))) ^^^ (x9 q)) ^^^ (x14 q))) ^^^ ((((x11 r) ^^^ (x13 (x3 r))) ^^^ (x9 (x2 r))) ^^^ (x14 r))) ^^^ ((((x11 t) ^^^ (x13 t)) ^^^ (x9 (x3 t))) ^^^ (x14 (x2 t)))):=by ac_rfl
 rw[e]
 have h0:((((x11 (x2 p)) ^^^ (x13 p)) ^^^ (x9 p)) ^^^ (x14 (x3 p)))=0:=(by decide +kernel:∀ p:Fin 256,((((x11 (x2 p.1)) ^^^ (x13 p.1)) ^^^ (x9 p.1)) ^^^ (x14 (x3 p.1)))=0) ⟨p,hp⟩
 have h1:((((x11 (x3 q)) ^^^ (x13 (x2 q))) ^^^ (x9 q)) ^^^ (x14 q))=0:=(by decide +kernel:∀ q:Fin 256,((((x11 (x3 q.1)) ^^^ (x13 (x2 q.1))) ^^^ (x9 q.1)) ^^^ (x14 q.1))=0) ⟨q,hq⟩
 have h2:((((x11 r) ^^^ (x13 (x3 r))) ^^^ (x9 (x2 r))) ^^^ (x14 r))=0:=(by decide +kernel:∀ r:Fin 256,((((x11 r.1) ^^^ (x13 (x3 r.1))) ^^^ (x9 (x2 r.1))) ^^^ (x14 r.1))=0) ⟨r,hr⟩
 have h3:((((x11 t) ^^^ (x13 t)) ^^^ (x9 (x3 t))) ^^^ (x14 (x2 t)))=t:=(by decide +kernel:∀ t:Fin 256,((((x11 t.1) ^^^ (x13 t.1)) ^^^ (x9 (x3 t.1))) ^^^ (x14 (x2 t.1)))=t.1) ⟨t,ht⟩
 rw[h0,h1,h2,h3]
 simp
theorem Zcs (x:Nat):bt0 (mcw x)=((x2 (bt0 x) ^^^ x3 (bt1 x)) ^^^ bt2 x) ^^^ bt3 x∧bt1 (mcw x)=((bt0 x ^^^ x2 (bt1 x)) ^^^ x3 (bt2 x)) ^^^ bt3 x∧bt2 (mcw x)=((bt0 x ^^^ bt1 x) ^^^ x2 (bt2 x)) ^^^ x3 (bt3 x)∧bt3 (mcw x)=((x3 (bt0 x) ^^^ bt1 x) ^^^ bt2 x) ^^^ x2 (bt3 x):=
 Ih (Zj (Zj (Zj (xl2 (Xg x)) (xl3 (Xf x))) (Xe x)) (Xd x)) (Zj (Zj (Zj (Xg x) (xl2 (Xf x))) (xl3 (Xe x))) (Xd x)) (Zj (Zj (Zj (Xg x) (Xf x)) (xl2 (Xe x))) (xl3 (Xd x))) (Zj (Zj (Zj (xl3 (Xg x)) (Xf x)) (Xe x)) (xl2 (Xd x)))
theorem Oa (x:Nat):bt0 (Fh x)=((x14 (bt0 x) ^^^ x11 (bt1 x)) ^^^ x13 (bt2 x)) ^^^ x9 (bt3 x)∧bt1 (Fh x)=((x9 (bt0 x) ^^^ x14 (bt1 x)) ^^^ x11 (bt2 x)) ^^^ x13 (bt3 x)∧bt2 (Fh x)=((x13 (bt0 x) ^^^ x9 (bt1 x)) ^^^ x14 (bt2 x)) ^^^ x11 (bt3 x)∧bt3 (Fh x)=((x11 (bt0 x) ^^^ x13 (bt1 x)) ^^^ x9 (bt2 x)) ^^^ x14 (bt3 x):=by
 unfold Fh
 rw[Zbw _ _ _ _ (Xg x) (Xf x) (Xe x) (Xd x)]
 have a:=Xg x
 have b:=Xf x
 have c:=Xe x
 have d:=Xd x
 exact Ih (Zj (Zj (Zj (Hu a) (Hv b)) (Ff c)) (xl9 d)) (Zj (Zj (Zj (xl9 a) (Hu b)) (Hv c)) (Ff d)) (Zj (Zj (Zj (Ff a) (xl9 b)) (Hu c)) (Hv d)) (Zj (Zj (Zj (Hv a) (Ff b)) (xl9 c)) (Hu d))
theorem Vt {x:Nat} (h:x<4294967296):Fh (mcw x)=x:=by
 obtain ⟨e0,e1,e2,e3⟩:=Zcs x
 have a:=Xg x
 have b:=Xf x
 have c:=Xe x
 have d:=Xd x
 have hm:=Qr (I9 (mcw x))
 obtain ⟨u0,u1,u2,u3⟩:=Oa (mcw x)
 rw[u0,u1,u2,u3,e0,e1,e2,e3,Of _ _ _ _ a b c d,Oe _ _ _ _ a b c d,Od _ _ _ _ a b c d,Ob _ _ _ _ a b c d,Qr h] at hm
 exact hm.symm
theorem Zaf (s:W4):M2 s=mcS (K7 s):=by unfold M2 mcS K7;simp only[Zcq]
theorem Sr (s:W4):Zbx (M2 s)=K7 s:=by
 rw[Zaf]
 unfold Zbx mcS
 obtain ⟨h1,h2,h3,h4⟩:=Fz s
 simp only[Vt h1,Vt h2,Vt h3,Vt h4]
theorem Tl {K:Nat→Nat} (hK:∀ i,K i<4294967296) (s:W4) (hs:s.ok) (r:Nat):itD K r (K7 (Gd K r s))=K7 s:=by
 induction r with
 | zero=>rw[Ef,Ld]
 | succ r ih=>rw[Eg,Bv,Dm _ (Ee hK hs _),Le,W0,Sr,ih]
theorem Zax {K:Nat→Nat} (hK:∀ i,K i<4294967296) (nr:Nat) (s:W4) (hs:s.ok):dcW nr K (Nj nr K s)=s:=by
 rw[dcW,Nj,W0,Tl hK _ (Kz hK 0 hs),Dm _ (Kz hK 0 hs),W0]
end Go.Proofs.YtehlppaidgkpaaaGreatDoor
