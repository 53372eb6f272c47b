import Derived.Test.YtehlppaidgkpaaaGreatDoorBlk
import Derived.Test.YtehlppaidgkpaaaGreatDoorPart00
import Derived.Test.YtehlppaidgkpaaaGreatDoorPart16
import Derived.Lib.SliceRun
import Derived.Deep.Cut
namespace Go.Proofs.YtehlppaidgkpaaaGreatDoor
open Go.RowKit
set_option linter.unusedVariables false
def bt0 (x:Nat):Nat:=x/16777216%256
def bt1 (x:Nat):Nat:=x/65536%256
def bt2 (x:Nat):Nat:=x/256%256
def bt3 (x:Nat):Nat:=x%256
theorem Xr (x:Nat):bt0 x<256:=Nat.mod_lt _ (by decide)
theorem Xq (x:Nat):bt1 x<256:=Nat.mod_lt _ (by decide)
theorem Xp (x:Nat):bt2 x<256:=Nat.mod_lt _ (by decide)
theorem Xo (x:Nat):bt3 x<256:=Nat.mod_lt _ (by decide)
theorem Q4 {x:Nat} (h:x<4294967296):wd (bt0 x) (bt1 x) (bt2 x) (bt3 x)=x:=by unfold wd bt0 bt1 bt2 bt3;omega
theorem Kg (x:Nat):(x:Int)/16777216%256=(bt0 x:Nat):=by unfold bt0;omega
theorem Kf (x:Nat):(x:Int)/65536%256=(bt1 x:Nat):=by unfold bt1;omega
theorem Ke (x:Nat):(x:Int)/256%256=(bt2 x:Nat):=by unfold bt2;omega
theorem Kd (x:Nat):(x:Int)%256=(bt3 x:Nat):=by unfold bt3;omega
def Nw (a b c d:Nat):Nat:=Za3 (bt0 a) (bt1 b) (bt2 c) (bt3 d)
def Kl (a b c d:Nat):Nat:=wd (SB (bt0 a)) (SB (bt1 b)) (SB (bt2 c)) (SB (bt3 d))
def Nf (a b c d:Nat):Nat:=wd (UB (bt0 a)) (UB (bt1 b)) (UB (bt2 c)) (UB (bt3 d))
def F1 (a:Nat):Nat:=Zcm (bt0 a) (bt1 a) (bt2 a) (bt3 a)
theorem Fn (a b c d:Nat):Nw a b c d<4294967296:=Yy (Yy (Yy (Zch (Xr a)) (Zci (Xq b))) (Ox (Xp c))) (Ow (Xo d))
theorem O3 (a:Nat):F1 a<4294967296:=Yy (Yy (Yy (Zfz (Xr a)) (Zf0 (Xq a))) (Zem (Xp a))) (Zel (Xo a))
theorem K5 (a b c d:Nat):Kl a b c d<4294967296:=Jp (Y6 _) (Y6 _) (Y6 _) (Y6 _)
structure W4 where
 (a b c d:Nat)
def W4.ok (s:W4):Prop:=s.a<4294967296∧s.b<4294967296∧s.c<4294967296∧s.d<4294967296
def W4.val (s:W4):Value:=Uj s.a s.b s.c s.d
def W4.blk (s:W4):Value:=YtehlppaidgkpaaaGreatDoor.blk (bt0 s.a) (bt1 s.a) (bt2 s.a) (bt3 s.a) (bt0 s.b) (bt1 s.b) (bt2 s.b) (bt3 s.b) (bt0 s.c) (bt1 s.c) (bt2 s.c) (bt3 s.c) (bt0 s.d) (bt1 s.d) (bt2 s.d) (bt3 s.d)
def Vo (K:Nat→Nat) (r:Nat) (s:W4):W4:=⟨Nat.xor s.a (K (4*r)),Nat.xor s.b (K (4*r+1)),Nat.xor s.c (K (4*r+2)),Nat.xor s.d (K (4*r+3))⟩
def Lr (s:W4):W4:=⟨Nw s.a s.b s.c s.d,Nw s.b s.c s.d s.a,Nw s.c s.d s.a s.b,Nw s.d s.a s.b s.c⟩
def Vq (s:W4):W4:=⟨Kl s.a s.b s.c s.d,Kl s.b s.c s.d s.a,Kl s.c s.d s.a s.b,Kl s.d s.a s.b s.c⟩
def Rz (s:W4):W4:=⟨Nf s.a s.d s.c s.b,Nf s.b s.a s.d s.c,Nf s.c s.b s.a s.d,Nf s.d s.c s.b s.a⟩
def Zco (s:W4):W4:=⟨F1 s.a,F1 s.b,F1 s.c,F1 s.d⟩
theorem Ss (s:W4):(Lr s).ok:=⟨Fn _ _ _ _,Fn _ _ _ _,Fn _ _ _ _,Fn _ _ _ _⟩
theorem Hn (s:W4):(Vq s).ok:=⟨K5 _ _ _ _,K5 _ _ _ _,K5 _ _ _ _,K5 _ _ _ _⟩
theorem Vn {K:Nat→Nat} (hK:∀ i,K i<4294967296) (r:Nat) {s:W4} (h:s.ok):(Vo K r s).ok:=⟨Yy h.1 (hK _),Yy h.2.1 (hK _),Yy h.2.2.1 (hK _),Yy h.2.2.2 (hK _)⟩
def Gx (K:Nat→Nat):Nat→W4→W4
 | 0,s=>s
 | r+1,s=>Vo K (r+1) (Lr (Gx K r s))
def N7 (nr:Nat) (K:Nat→Nat) (s:W4):W4:=Vo K nr (Vq (Gx K (nr-1) (Vo K 0 s)))
theorem E7 {K:Nat→Nat} (hK:∀ i,K i<4294967296) {s:W4} (h:s.ok):∀ r,(Gx K r s).ok
 | 0=>h
 | r+1=>Vn hK _ (Ss _)
theorem Zbk {K:Nat→Nat} (hK:∀ i,K i<4294967296) (nr:Nat) (s:W4):(N7 nr K s).ok:=Vn hK _ (Hn _)
structure Kn (w:World) (g o nr:Nat) (K:Nat→Nat):Prop where
 rounds:w.cell? ⟨g,o,none⟩=some (.int .i64 (nr:Nat))
 words:∀ i,i<4*(nr+1)→w.cell? ⟨g,o+1+i,none⟩=some (.int .u32 (K i:Nat))
 small:∀ i,K i<4294967296
 tab:Tab w g o
 here:g<w.heap.size
 some:1≤nr
 most:nr≤14
theorem Tab.below {B:Nat} {w w':World} {g o:Nat} (h:Tab w g o) (hb:Below B w w') (hg:g<B):Tab w' g o:=
 ⟨fun b hb'=>(hb.cell hg).trans (h.s b hb'),fun b hb'=>(hb.cell hg).trans (h.u b hb'),fun b hb'=>(hb.cell hg).trans (h.m b hb'),fun b hb'=>(hb.cell hg).trans (h.n b hb')⟩
theorem Kn.below {B:Nat} {w w':World} {g o nr:Nat} {K:Nat→Nat} (h:Kn w g o nr K) (hb:Below B w w') (hg:g<B):Kn w' g o nr K:=
 ⟨(hb.cell hg).trans h.rounds,fun i hi=>(hb.cell hg).trans (h.words i hi),h.small,h.tab.below hb hg,Nat.lt_of_lt_of_le h.here hb.size,h.some,h.most⟩
theorem Below.drewN {B:Nat} {a w:World} (h:Below B a w) (m:Nat):Below B a (w.drewN m):=⟨h.os,h.tape,h.output,h.size,h.block⟩
theorem Zd {B:Nat} {w w':World} {g o n:Nat} (h:w.there g o n) (hb:Below B w w') (hg:g<B):w'.there g o n:=fun j hj=>by
 obtain ⟨h1,h2⟩:=h j hj
 exact ⟨by rw[hb.cell hg];exact h1,by rw[hb.frozen hg];exact h2⟩
theorem Sr {B g o nr:Nat} {K:Nat→Nat} {w:World} (hC:Kn w g o nr K) (hg:g<B) (a b c d m:Nat) (hm:Hid (m=Nw a b c d)):∀ u,Below B w u →
  Calls Tryz.prog 88 #[.pointer (some ⟨g,o,none⟩),.int .u32 (a:Nat),.int .u32 (b:Nat),.int .u32 (c:Nat),.int .u32 (d:Nat)] u fun e u'=>e=.returned (.int .u32 (m:Nat))∧Below B w u':=fun u hu=>by
 refine (Zdg g o a b c d _ _ _ _ u (Xr a) (Xq b) (Xp c) (Xo d) (Kg a) (Kf b) (Ke c) (Kd d) (hC.tab.below hu hg)).mono fun e u' ⟨h1,k,h2⟩=>?_
 subst h2
 exact ⟨by rw[h1,hm.out];rfl,Below.drewN hu k⟩
theorem Bq {B g o nr:Nat} {K:Nat→Nat} {w:World} (hC:Kn w g o nr K) (hg:g<B) (a b c d m:Nat) (hm:Hid (m=Kl a b c d)):∀ u,Below B w u →
  Calls Tryz.prog 90 #[.pointer (some ⟨g,o,none⟩),.int .u32 (a:Nat),.int .u32 (b:Nat),.int .u32 (c:Nat),.int .u32 (d:Nat)] u fun e u'=>e=.returned (.int .u32 (m:Nat))∧Below B w u':=fun u hu=>by
 refine (Sx g o a b c d _ _ _ _ u (Xr a) (Xq b) (Xp c) (Xo d) (Kg a) (Kf b) (Ke c) (Kd d) (hC.tab.below hu hg)).mono fun e u' ⟨h1,k,h2⟩=>?_
 subst h2
 exact ⟨by rw[h1,hm.out];rfl,Below.drewN hu k⟩
theorem Om {B g o nr:Nat} {K:Nat→Nat} {w:World} (hC:Kn w g o nr K) (hg:g<B) (hB:B≤w.heap.size) (r:Nat) (hr:r≤nr) (s t:W4) (hs:s.ok) (ht:Hid (t=Vo K r s)):∀ u,Below B w u →
  Calls Tryz.prog 86 #[.pointer (some ⟨g,o,none⟩),s.val,.int .i64 (r:Nat)] u fun e u'=>e=.returned t.val∧Below B w u':=fun u hu=>by
 have hC':=hC.below hu hg
 have:=hC.most
 refine (Zek g o r s.a s.b s.c s.d _ _ _ _ u (by omega) hC'.here hs.1 hs.2.1 hs.2.2.1 hs.2.2.2 (hC.small _) (hC.small _) (hC.small _) (hC.small _) (hC'.words (4*r) (by omega)) (hC'.words (4*r+1) (by omega)) (hC'.words (4*r+2) (by omega)) (hC'.words (4*r+3) (by omega))).mono fun e u' ⟨h1,h2⟩=>?_
 exact ⟨by rw[h1,ht.out];rfl,hu.trans (h2.mono (Nat.le_trans hB hu.size))⟩
theorem Zdv (s:W4) (hs:s.ok) (w:World):Calls Tryz.prog 87 #[s.blk] w fun e w'=>e=.returned s.val∧Below w.heap.size w w':=by
 refine (Br _ _ _ _ _ _ _ _ _ _ _ _ _ _ _ _ w (Xr _) (Xq _) (Xp _) (Xo _) (Xr _) (Xq _) (Xp _) (Xo _) (Xr _) (Xq _) (Xp _) (Xo _) (Xr _) (Xq _) (Xp _) (Xo _)).mono fun e w' ⟨h1,h2⟩=>⟨?_,h2⟩
 rw[h1,Q4 hs.1,Q4 hs.2.1,Q4 hs.2.2.1,Q4 hs.2.2.2]
 rfl
theorem Zgf (s:W4) (w:World):Calls Tryz.prog 89 #[s.val] w fun e w'=>e=.returned s.blk∧Below w.heap.size w w':=
 C4 s.a s.b s.c s.d _ _ _ _ _ _ _ _ _ _ _ _ _ _ _ _ w (Kg _) (Kf _) (Ke _) (Kd _) (Kg _) (Kf _) (Ke _) (Kd _) (Kg _) (Kf _) (Ke _) (Kd _) (Kg _) (Kf _) (Ke _) (Kd _)
end Go.Proofs.YtehlppaidgkpaaaGreatDoor
namespace Go.Proofs.YtehlppaidgkpaaaGreatDoor.Dg
open Go.RowKit
set_option linter.unusedVariables false
set_option linter.unusedSimpArgs false
def tkL (h:Int) (wd:Bool) (s:Ze) (half:Nat→Int) (fed:Nat):List Value:=
 .int .i64 h::fnV wd::(s.cells++((List.range 128).map (fun i=>Value.int .u8 (half i))++[.int .u64 fed]))
theorem Q5 (h:Int) (wd:Bool) (s:Ze) (half:Nat→Int) (fed:Nat):(tkL h wd s half fed).length=139:=by simp [tkL,Ze.cells_length]
theorem Mx (h:Int) (wd:Bool) (s:Ze) (half:Nat→Int) (fed:Nat) :
  (tkL h wd s half fed)[0]?=some (.int .i64 h)∧(tkL h wd s half fed)[1]?=some (fnV wd)∧(∀ i,i<8→(tkL h wd s half fed)[2+i]?=s.cells[i]?)∧(∀ i,i<128→(tkL h wd s half fed)[10+i]?=some (.int .u8 (half i)))∧(tkL h wd s half fed)[138]?=some (.int .u64 fed):=by
 have hc:=s.cells_length
 refine ⟨rfl,rfl,?_,?_,?_⟩
 ·intro i hi
  rw[tkL,show 2+i=(i+1)+1 by omega,List.getElem?_cons_succ,List.getElem?_cons_succ,List.getElem?_append_left (by omega)]
 ·intro i hi
  rw[tkL,show 10+i=((8+i)+1)+1 by omega,List.getElem?_cons_succ,List.getElem?_cons_succ,List.getElem?_append_right (by omega),List.getElem?_append_left (by simp;omega)]
  rw[hc,show 8+i-8=i by omega]
  simp [hi]
 ·rw[tkL,show 138=(136+1)+1 by omega,List.getElem?_cons_succ,List.getElem?_cons_succ,List.getElem?_append_right (by omega),List.getElem?_append_right (by simp;omega)]
  simp [hc]
theorem TK.range {w:World} {g o:Nat} {h:Int} {wd:Bool} {s:Ze} {half:Nat→Int} {fed:Nat} (k:TK w g o h wd s half fed):w.rangeAt g o (tkL h wd s half fed):=by
 obtain ⟨h0,h1,h2,h3,h4⟩:=Mx h wd s half fed
 intro j v hv
 have hj:j<139:=by
  by_cases hj:j<139
  ·exact hj
  ·rw[List.getElem?_eq_none (by rw[Q5];omega)] at hv;cases hv
 by_cases j0:j=0
 ·subst j0;rw[h0] at hv;cases hv;exact k.hash
 by_cases j1:j=1
 ·subst j1;rw[h1] at hv;cases hv;exact k.fn
 by_cases j2:j<10
 ·obtain ⟨i,rfl⟩:∃ i,j=2+i:=⟨j-2,by omega⟩
  rw[h2 i (by omega)] at hv
  rw[←Nat.add_assoc]
  exact k.st i v hv
 by_cases j3:j<138
 ·obtain ⟨i,rfl⟩:∃ i,j=10+i:=⟨j-10,by omega⟩
  rw[h3 i (by omega)] at hv
  rw[←Nat.add_assoc]
  cases hv
  exact k.half i (by omega)
 ·obtain rfl:j=138:=by omega
  rw[h4] at hv;cases hv;exact k.fed
theorem TK.of {w:World} {g o:Nat} {h:Int} {wd:Bool} {s:Ze} {half:Nat→Int} {fed:Nat} (hr:w.rangeAt g o (tkL h wd s half fed)) (ht:w.there g o 139):TK w g o h wd s half fed:=by
 obtain ⟨h0,h1,h2,h3,h4⟩:=Mx h wd s half fed
 refine ⟨hr 0 _ h0,hr 1 _ h1,fun j v hv=>?_,fun i hi=>?_,hr 138 _ h4,ht⟩
 ·have hj:j<8:=by
   by_cases hj:j<s.cells.length
   ·exact hj
   ·rw[List.getElem?_eq_none (by omega)] at hv;cases hv
  have:=hr (2+j) v (by rw[h2 j hj];exact hv)
  rw[←Nat.add_assoc] at this
  exact this
 ·have:=hr (10+i) _ (h3 i hi)
  rw[←Nat.add_assoc] at this
  exact this
theorem Rj (s:Ze):∀ v∈s.cells,v.oneCell'=true:=by
 intro v hv
 simp only[Ze.cells,List.mem_map] at hv
 obtain ⟨x,_,rfl⟩:=hv
 rfl
theorem R3 (h:Int) (wd:Bool) (s:Ze) (half:Nat→Int) (fed:Nat):(tkL h wd s half fed).toArray.all (·.oneCell')=true:=all_oneCell_toArray (by
 intro v hv
 simp only[tkL,List.mem_cons,List.mem_append,List.mem_map,List.mem_singleton] at hv
 rcases hv with rfl | rfl | hv | ⟨i,_,rfl⟩ | rfl | hv
 ·rfl
 ·cases wd<;>rfl
 ·exact Rj s v hv
 ·rfl
 ·rfl
 ·simp at hv)
theorem My (h:Int) (wd:Bool) (s:Ze) (half:Nat→Int) (fed:Nat):(tkL h wd s half fed).toArray.size=139:=by simp [Q5]
theorem TK.below {w v:World} {g o:Nat} {h:Int} {wd:Bool} {s:Ze} {half:Nat→Int} {fed:Nat} (k:TK w g o h wd s half fed) (b:Below w.heap.size w v):TK v g o h wd s half fed:=by
 have hg:g<w.heap.size:=Yk k.hash
 exact ⟨by rw[b.cell hg];exact k.hash,by rw[b.cell (p:=⟨g,o+1,none⟩) hg];exact k.fn,Zs k.st b hg,fun i hi=>by rw[b.cell (p:=⟨g,o+10+i,none⟩) hg];exact k.half i hi,by rw[b.cell (p:=⟨g,o+138,none⟩) hg];exact k.fed,fun j hj=>by rw[b.cell (p:=⟨g,o+j,none⟩) hg,b.frozen (p:=⟨g,o+j,none⟩) hg];exact k.there j hj⟩
theorem TK.setByte {w:World} {g o:Nat} {h:Int} {wd:Bool} {s:Ze} {half:Nat→Int} {fed:Nat} (k:TK w g o h wd s half fed) (u:Nat) (x:Int) (hu:u<128) :
  TK (w.setCell ⟨g,o+10+u,none⟩ (.int .u8 x)) g o h wd s (fun i=>if i=u then x else half i) fed∧Zc w (w.setCell ⟨g,o+10+u,none⟩ (.int .u8 x)) g o 139:=by
 have hx:=k.setHalf u [x] (by simp;omega)
 refine ⟨?_,hx.2⟩
 have e:(fun i=>if u≤i∧i<u+[x].length then [x].getD (i-u) 0 else half i)=fun i=>if i=u then x else half i:=by
  funext i
  by_cases hi:i=u
  ·subst hi;simp
  ·rw[if_neg (by simp;omega),if_neg hi]
 rw[e] at hx
 exact hx.1
theorem TK.clear {w:World} {g o:Nat} {h:Int} {wd:Bool} {s:Ze} {half:Nat→Int} {fed:Nat} (k:TK w g o h wd s half fed) (u n:Nat) (hu:u+n≤128) :
  TK (w.setCells g (o+10+u) (List.replicate n (.int .u8 0))) g o h wd s (fun i=>if u≤i∧i<u+n then 0 else half i) fed∧Zc w (w.setCells g (o+10+u) (List.replicate n (.int .u8 0))) g o 139:=by
 have hx:=k.setHalf u (List.replicate n 0) (by simp;omega)
 have e1:Za (List.replicate n 0)=List.replicate n (.int .u8 0):=by simp [Za]
 rw[e1] at hx
 refine ⟨?_,hx.2⟩
 have e:(fun i=>if u≤i∧i<u+(List.replicate n (0:Int)).length then (List.replicate n (0:Int)).getD (i-u) 0 else half i)=fun i=>if u≤i∧i<u+n then 0 else half i:=by
  funext i
  by_cases hi:u≤i∧i<u+n
  ·rw[if_pos (by simpa using hi),if_pos hi]
   simp only[List.getD,List.getElem?_replicate]
   split<;>rfl
  ·rw[if_neg (by simpa using hi),if_neg hi]
 rw[e] at hx
 exact hx.1
theorem TK.fun_eq {w:World} {g o:Nat} {h:Int} {wd:Bool} {s:Ze} {half half':Nat→Int} {fed:Nat} (k:TK w g o h wd s half fed) (e:∀ i,i<128→half i=half' i):TK w g o h wd s half' fed:=
 ⟨k.hash,k.fn,k.st,fun i hi=>by rw[←e i hi];exact k.half i hi,k.fed,k.there⟩
theorem TK.newer {w:World} {g o:Nat} {h:Int} {wd:Bool} {s:Ze} {half:Nat→Int} {fed b:Nat} (k:TK w g o h wd s half fed) (hb:g≠b) (vs:List Value) (o':Nat):TK (w.setCells b o' vs) g o h wd s half fed:=by
 have ho:∀ p:Addr,p.block=g→(w.setCells b o' vs).cell? p=w.cell? p:=fun p hp=>World.cell?_setCells_out b vs o' w p (fun e _=>absurd (hp.symm.trans e) hb)
 exact ⟨by rw[ho _ rfl];exact k.hash,by rw[ho _ rfl];exact k.fn,fun j v hv=>by rw[ho _ rfl];exact k.st j v hv,fun i hi=>by rw[ho _ rfl];exact k.half i hi,by rw[ho _ rfl];exact k.fed,World.there_setCells k.there b o' vs⟩
theorem Vg {w v:World} {g o n:Nat} (h:Zc w v g o n) {b:Nat} (hb:w.heap.size≤b) (vs:List Value) (o':Nat) (hg:g<w.heap.size):Zc w (v.setCells b o' vs) g o n:=
 ⟨by rw[Y4];exact h.os,by rw[Yn];exact h.tape,by rw[Ye];exact h.output,by rw[Zp];exact h.size,
  fun k hk hne=>by rw[World.heap_setCells_other v b o' vs (by have:=h.size;omega) (by omega)];exact h.block k hk hne,
  fun j hj=>by rw[World.cell?_setCells_out b vs o' v ⟨g,j,none⟩ (fun e _=>absurd e (by simp;omega))];exact h.cell j hj,
  fun o2 n2 ht=>World.there_setCells (h.there o2 n2 ht) b o' vs⟩
theorem Zet (w:World):(zeroValue 5).run Tryz.prog w=.ok (.int .u8 0) w:=by kernel_rfl
theorem Hz (w:World) (ty:TypeId) (g o n c:Nat) (ht:w.there g o n):(Builtin.clear_ #[22] ty #[.slice (some ⟨g,o,none⟩) n c]).run Tryz.prog w=.ok (.tuple #[]) (w.setCells g o (List.replicate n (.int .u8 0))):=by
 by_cases hn:n=0
 ·subst hn
  simp [Builtin.clear_,World.setCells,run_underlying Tryz.underlying22]
 ·exact Go.Lib.run_clear_slice w 22 5 ty (.int .u8 0) Tryz.underlying22 (fun w=>Zet w) rfl rfl g o n c (by omega) (fun j hj=>(ht j hj).1) (fun j hj=>(ht j hj).2)
def Qm (bs fed:Nat):Nat:=if fed%bs+1≤bs-bs/8 then 1 else 2
def Qu (bs:Nat) (half:Nat→Int) (fed:Nat) (i:Nat):Int:=
 if i<fed%bs then half i else if i=fed%bs then 128 else if i+8<Qm bs fed*bs then 0 else ((fed:Int)*8)/2^(8*(Qm bs fed*bs-1-i))%256
end Go.Proofs.YtehlppaidgkpaaaGreatDoor.Dg
namespace Go.Proofs.YtehlppaidgkpaaaGreatDoor
def N4 (f:Nat→W4→W4):Nat→W4→W4
 | 0,s=>s
 | r+1,s=>N4 f r (f (r+1) s)
theorem Ly (f:Nat→W4→W4) (r:Nat) (s:W4):N4 f (r+1) s=N4 f r (f (r+1) s):=rfl
theorem Lx (f:Nat→W4→W4) (s:W4):N4 f 0 s=s:=rfl
def Nk (K:Nat→Nat) (r:Nat) (s:W4):W4:=Zco (Vo K r (Rz s))
def itD (K:Nat→Nat):Nat→W4→W4:=N4 (Nk K)
theorem E9 (K:Nat→Nat) (r:Nat) (s:W4):itD K (r+1) s=itD K r (Nk K (r+1) s):=Ly (Nk K) r s
theorem E8 (K:Nat→Nat) (s:W4):itD K 0 s=s:=Lx (Nk K) s
def dcW (nr:Nat) (K:Nat→Nat) (s:W4):W4:=Vo K 0 (Rz (itD K (nr-1) (Vo K nr s)))
theorem L5 (K:Nat→Nat) (r:Nat) (s:W4):Gx K (r+1) s=Vo K (r+1) (Lr (Gx K r s)):=rfl
theorem Lz (K:Nat→Nat) (s:W4):Gx K 0 s=s:=rfl
open Go.RowKit
set_option linter.unusedVariables false
theorem Fx (a k:Nat):Nat.xor (Nat.xor a k) k=a:=by
 show (a ^^^ k) ^^^ k=a
 rw[Nat.xor_assoc,Nat.xor_self,Nat.xor_zero]
theorem Gm (K:Nat→Nat) (r:Nat) (s:W4):Vo K r (Vo K r s)=s:=by
 unfold Vo
 simp only[Fx]
theorem I6 {a b c d:Nat} (ha:a<256) (hb:b<256) (hc:c<256) (hd:d<256):bt0 (wd a b c d)=a∧bt1 (wd a b c d)=b∧bt2 (wd a b c d)=c∧bt3 (wd a b c d)=d:=by
 unfold bt0 bt1 bt2 bt3 wd
 omega
theorem U_S {b:Nat} (h:b<256):UB (SB b)=b:=(Mo ⟨b,h⟩).1
theorem Wv (a b c d:Nat):bt0 (Kl a b c d)=SB (bt0 a)∧bt1 (Kl a b c d)=SB (bt1 b)∧bt2 (Kl a b c d)=SB (bt2 c)∧bt3 (Kl a b c d)=SB (bt3 d):=I6 (Y6 _) (Y6 _) (Y6 _) (Y6 _)
theorem D9 (s:W4) (hs:s.ok):Rz (Vq s)=s:=by
 obtain ⟨a,b,c,d⟩:=s
 obtain ⟨ha,hb,hc,hd⟩:=hs
 simp only at ha hb hc hd
 simp only[Rz,Vq,Nf,(Wv _ _ _ _).1,(Wv _ _ _ _).2.1,(Wv _ _ _ _).2.2.1,(Wv _ _ _ _).2.2.2,U_S (Xr _),U_S (Xq _),U_S (Xp _),U_S (Xo _),Q4 ha,Q4 hb,Q4 hc,Q4 hd]
def mcw (x:Nat):Nat:=
 wd (Nat.xor (Nat.xor (Nat.xor (x2 (bt0 x)) (x3 (bt1 x))) (bt2 x)) (bt3 x)) (Nat.xor (Nat.xor (Nat.xor (bt0 x) (x2 (bt1 x))) (x3 (bt2 x))) (bt3 x))
  (Nat.xor (Nat.xor (Nat.xor (bt0 x) (bt1 x)) (x2 (bt2 x))) (x3 (bt3 x))) (Nat.xor (Nat.xor (Nat.xor (x3 (bt0 x)) (bt1 x)) (bt2 x)) (x2 (bt3 x)))
def mcS (s:W4):W4:=⟨mcw s.a,mcw s.b,mcw s.c,mcw s.d⟩
theorem xl2 {b:Nat} (h:b<256):x2 b<256:=(Ko ⟨b,h⟩).1
theorem xl3 {b:Nat} (h:b<256):x3 b<256:=(Ko ⟨b,h⟩).2.1
theorem xl9 {b:Nat} (h:b<256):x9 b<256:=(Ko ⟨b,h⟩).2.2.1
theorem Dm {b:Nat} (h:b<256):x11 b<256:=(Ko ⟨b,h⟩).2.2.2.1
theorem Fy {b:Nat} (h:b<256):x13 b<256:=(Ko ⟨b,h⟩).2.2.2.2.1
theorem Dl {b:Nat} (h:b<256):x14 b<256:=(Ko ⟨b,h⟩).2.2.2.2.2
theorem Zdh (a b c d:Nat):Nw a b c d=mcw (Kl a b c d):=by
 unfold Nw Za3 mcw
 obtain ⟨e0,e1,e2,e3⟩:=Wv a b c d
 rw[e0,e1,e2,e3]
 have p:=Y6 (bt0 a)
 have q:=Y6 (bt1 b)
 have r:=Y6 (bt2 c)
 have t:=Y6 (bt3 d)
 unfold MX M8 M16 M24
 rw[W6 _ _ _ _ _ _ _ _ p p (xl3 p) (xl2 q) q q,W6 _ _ _ _ _ _ _ _ (Zk p (xl2 q)) (Zk p q) (Zk (xl3 p) q) (xl3 r) (xl2 r) r,W6 _ _ _ _ _ _ _ _ (Zk (Zk p (xl2 q)) (xl3 r)) (Zk (Zk p q) (xl2 r)) (Zk (Zk (xl3 p) q) r) t (xl3 t) (xl2 t)]
def Zgq (a b:Nat):Bool:=Nat.beq (Zt (Nat.xor a b)) (Nat.xor (Zt a) (Zt b))
set_option maxRecDepth 100000 in
theorem On:Rs (fun a=>Rs (Zgq a) 256) 256=true:=by decide +kernel
theorem Wr {a b:Nat} (ha:a<256) (hb:b<256):Zt (a ^^^ b)=Zt a ^^^ Zt b:=Nat.eq_of_beq_eq_true (W1 (W1 On ha) hb)
theorem Uh {a:Nat} (h:a<256):Zt a<256:=V1 ⟨a,h⟩
theorem Rg {a b:Nat} (ha:a<256) (hb:b<256):Zt (Zt (a ^^^ b))=Zt (Zt a) ^^^ Zt (Zt b):=by rw[Wr ha hb,Wr (Uh ha) (Uh hb)]
theorem Bv {a b:Nat} (ha:a<256) (hb:b<256):Zt (Zt (Zt (a ^^^ b)))=Zt (Zt (Zt a)) ^^^ Zt (Zt (Zt b)):=by rw[Rg ha hb,Wr (Uh (Uh ha)) (Uh (Uh hb))]
theorem Mr {a b:Nat} (ha:a<256) (hb:b<256):x9 (a ^^^ b)=x9 a ^^^ x9 b:=by
 show Zt (Zt (Zt (a ^^^ b))) ^^^ (a ^^^ b)=(Zt (Zt (Zt a)) ^^^ a) ^^^ (Zt (Zt (Zt b)) ^^^ b)
 rw[Bv ha hb];ac_rfl
theorem Cv {a b:Nat} (ha:a<256) (hb:b<256):x11 (a ^^^ b)=x11 a ^^^ x11 b:=by
 show (Zt (Zt (Zt (a ^^^ b))) ^^^ Zt (a ^^^ b)) ^^^ (a ^^^ b)=((Zt (Zt (Zt a)) ^^^ Zt a) ^^^ a) ^^^ ((Zt (Zt (Zt b)) ^^^ Zt b) ^^^ b)
 rw[Bv ha hb,Wr ha hb];ac_rfl
theorem Cu {a b:Nat} (ha:a<256) (hb:b<256):x13 (a ^^^ b)=x13 a ^^^ x13 b:=by
 show (Zt (Zt (Zt (a ^^^ b))) ^^^ Zt (Zt (a ^^^ b))) ^^^ (a ^^^ b)=((Zt (Zt (Zt a)) ^^^ Zt (Zt a)) ^^^ a) ^^^ ((Zt (Zt (Zt b)) ^^^ Zt (Zt b)) ^^^ b)
 rw[Bv ha hb,Rg ha hb];ac_rfl
theorem Ct {a b:Nat} (ha:a<256) (hb:b<256):x14 (a ^^^ b)=x14 a ^^^ x14 b:=by
 show (Zt (Zt (Zt (a ^^^ b))) ^^^ Zt (Zt (a ^^^ b))) ^^^ Zt (a ^^^ b)=((Zt (Zt (Zt a)) ^^^ Zt (Zt a)) ^^^ Zt a) ^^^ ((Zt (Zt (Zt b)) ^^^ Zt (Zt b)) ^^^ Zt b)
 rw[Bv ha hb,Rg ha hb,Wr ha hb];ac_rfl
theorem Zcn (p q r t:Nat) (hp:p<256) (hq:q<256) (hr:r<256) (ht:t<256):Zcm p q r t =
  wd (((x14 p ^^^ x11 q) ^^^ x13 r) ^^^ x9 t) (((x9 p ^^^ x14 q) ^^^ x11 r) ^^^ x13 t) (((x13 p ^^^ x9 q) ^^^ x14 r) ^^^ x11 t) (((x11 p ^^^ x13 q) ^^^ x9 r) ^^^ x14 t):=by
 unfold Zcm UX U8 U16 U24
 rw[W6 _ _ _ _ _ _ _ _ (xl9 hp) (Fy hp) (Dm hp) (Dl hq) (xl9 hq) (Fy hq),W6 _ _ _ _ _ _ _ _ (Zk (xl9 hp) (Dl hq)) (Zk (Fy hp) (xl9 hq)) (Zk (Dm hp) (Fy hq)) (Dm hr) (Dl hr) (xl9 hr),
  W6 _ _ _ _ _ _ _ _ (Zk (Zk (xl9 hp) (Dl hq)) (Dm hr)) (Zk (Zk (Fy hp) (xl9 hq)) (Dl hr)) (Zk (Zk (Dm hp) (Fy hq)) (xl9 hr)) (Fy ht) (Dm ht) (Dl ht)]
 exact rfl
theorem Ff {a b c d:Nat} (ha:a<256) (hb:b<256) (hc:c<256) (hd:d<256):x9 (((a ^^^ b) ^^^ c) ^^^ d)=((x9 a ^^^ x9 b) ^^^ x9 c) ^^^ x9 d:=by
 have h1:a ^^^ b<256:=Zk ha hb
 have h2:(a ^^^ b) ^^^ c<256:=Zk h1 hc
 rw[Mr h2 hd,Mr h1 hc,Mr ha hb]
theorem V9 {a b c d:Nat} (ha:a<256) (hb:b<256) (hc:c<256) (hd:d<256):x11 (((a ^^^ b) ^^^ c) ^^^ d)=((x11 a ^^^ x11 b) ^^^ x11 c) ^^^ x11 d:=by
 have h1:a ^^^ b<256:=Zk ha hb
 have h2:(a ^^^ b) ^^^ c<256:=Zk h1 hc
 rw[Cv h2 hd,Cv h1 hc,Cv ha hb]
theorem V8 {a b c d:Nat} (ha:a<256) (hb:b<256) (hc:c<256) (hd:d<256):x13 (((a ^^^ b) ^^^ c) ^^^ d)=((x13 a ^^^ x13 b) ^^^ x13 c) ^^^ x13 d:=by
 have h1:a ^^^ b<256:=Zk ha hb
 have h2:(a ^^^ b) ^^^ c<256:=Zk h1 hc
 rw[Cu h2 hd,Cu h1 hc,Cu ha hb]
theorem V7 {a b c d:Nat} (ha:a<256) (hb:b<256) (hc:c<256) (hd:d<256):x14 (((a ^^^ b) ^^^ c) ^^^ d)=((x14 a ^^^ x14 b) ^^^ x14 c) ^^^ x14 d:=by
 have h1:a ^^^ b<256:=Zk ha hb
 have h2:(a ^^^ b) ^^^ c<256:=Zk h1 hc
 rw[Ct h2 hd,Ct h1 hc,Ct ha hb]
theorem O8 (p q r t:Nat) (hp:p<256) (hq:q<256) (hr:r<256) (ht:t<256):((((x14 ((((x2 p) ^^^ (x3 q)) ^^^ r) ^^^ t)) ^^^ (x11 (((p ^^^ (x2 q)) ^^^ (x3 r)) ^^^ t))) ^^^ (x13 (((p ^^^ q) ^^^ (x2 r)) ^^^ (x3 t)))) ^^^ (x9 ((((x3 p) ^^^ q) ^^^ r) ^^^ (x2 t))))=p:=by
 rw[V7 (xl2 hp) (xl3 hq) hr ht,V9 hp (xl2 hq) (xl3 hr) ht,V8 hp hq (xl2 hr) (xl3 ht),Ff (xl3 hp) hq hr (xl2 ht)]
 have e:(((((((x14 (x2 p)) ^^^ (x14 (x3 q))) ^^^ (x14 r)) ^^^ (x14 t)) ^^^ ((((x11 p) ^^^ (x11 (x2 q))) ^^^ (x11 (x3 r))) ^^^ (x11 t))) ^^^ ((((x13 p) ^^^ (x13 q)) ^^^ (x13 (x2 r))) ^^^ (x13 (x3 t)))) ^^^ ((((x9 (x3 p)) ^^^ (x9 q)) ^^^ (x9 r)) ^^^ (x9 (x2 t))))=(((((((x14 (x2 p)) ^^^ (x11 p)) ^^^ (x13 p)) ^^^ (x9 (x3 p))) ^^^ ((((x14 (x3 q)) ^^^ (x11 (x2 q))) ^^^ (x13 q)) ^^^ (x9 q))) ^^^ ((((x14 r) ^^^ (x11 (x3 r))) ^^^ (x13 (x2 r))) ^^^ (x9 r))) ^^^ ((((x14 t) ^^^ (x11 t)) ^^^ (x13 (x3 t))) ^^^ (x9 (x2 t)))):=by ac_rfl
 rw[e]
 have h0:((((x14 (x2 p)) ^^^ (x11 p)) ^^^ (x13 p)) ^^^ (x9 (x3 p)))=p:=(by decide +kernel:∀ p:Fin 256,((((x14 (x2 p.1)) ^^^ (x11 p.1)) ^^^ (x13 p.1)) ^^^ (x9 (x3 p.1)))=p.1) ⟨p,hp⟩
 have h1:((((x14 (x3 q)) ^^^ (x11 (x2 q))) ^^^ (x13 q)) ^^^ (x9 q))=0:=(by decide +kernel:∀ q:Fin 256,((((x14 (x3 q.1)) ^^^ (x11 (x2 q.1))) ^^^ (x13 q.1)) ^^^ (x9 q.1))=0) ⟨q,hq⟩
 have h2:((((x14 r) ^^^ (x11 (x3 r))) ^^^ (x13 (x2 r))) ^^^ (x9 r))=0:=(by decide +kernel:∀ r:Fin 256,((((x14 r.1) ^^^ (x11 (x3 r.1))) ^^^ (x13 (x2 r.1))) ^^^ (x9 r.1))=0) ⟨r,hr⟩
 have h3:((((x14 t) ^^^ (x11 t)) ^^^ (x13 (x3 t))) ^^^ (x9 (x2 t)))=0:=(by decide +kernel:∀ t:Fin 256,((((x14 t.1) ^^^ (x11 t.1)) ^^^ (x13 (x3 t.1))) ^^^ (x9 (x2 t.1)))=0) ⟨t,ht⟩
 rw[h0,h1,h2,h3]
 simp
theorem O7 (p q r t:Nat) (hp:p<256) (hq:q<256) (hr:r<256) (ht:t<256):((((x9 ((((x2 p) ^^^ (x3 q)) ^^^ r) ^^^ t)) ^^^ (x14 (((p ^^^ (x2 q)) ^^^ (x3 r)) ^^^ t))) ^^^ (x11 (((p ^^^ q) ^^^ (x2 r)) ^^^ (x3 t)))) ^^^ (x13 ((((x3 p) ^^^ q) ^^^ r) ^^^ (x2 t))))=q:=by
 rw[Ff (xl2 hp) (xl3 hq) hr ht,V7 hp (xl2 hq) (xl3 hr) ht,V9 hp hq (xl2 hr) (xl3 ht),V8 (xl3 hp) hq hr (xl2 ht)]
 have e:(((((((x9 (x2 p)) ^^^ (x9 (x3 q))) ^^^ (x9 r)) ^^^ (x9 t)) ^^^ ((((x14 p) ^^^ (x14 (x2 q))) ^^^ (x14 (x3 r))) ^^^ (x14 t))) ^^^ ((((x11 p) ^^^ (x11 q)) ^^^ (x11 (x2 r))) ^^^ (x11 (x3 t)))) ^^^ ((((x13 (x3 p)) ^^^ (x13 q)) ^^^ (x13 r)) ^^^ (x13 (x2 t))))=(((((((x9 (x2 p)) ^^^ (x14 p)) ^^^ (x11 p)) ^^^ (x13 (x3 p))) ^^^ ((((x9 (x3 q)) ^^^ (x14 (x2 q))) ^^^ (x11 q)) ^^^ (x13 q))) ^^^ ((((x9 r) ^^^ (x14 (x3 r))) ^^^ (x11 (x2 r))) ^^^ (x13 r))) ^^^ ((((x9 t) ^^^ (x14 t)) ^^^ (x11 (x3 t))) ^^^ (x13 (x2 t)))):=by ac_rfl
 rw[e]
 have h0:((((x9 (x2 p)) ^^^ (x14 p)) ^^^ (x11 p)) ^^^ (x13 (x3 p)))=0:=(by decide +kernel:∀ p:Fin 256,((((x9 (x2 p.1)) ^^^ (x14 p.1)) ^^^ (x11 p.1)) ^^^ (x13 (x3 p.1)))=0) ⟨p,hp⟩
 have h1:((((x9 (x3 q)) ^^^ (x14 (x2 q))) ^^^ (x11 q)) ^^^ (x13 q))=q:=(by decide +kernel:∀ q:Fin 256,((((x9 (x3 q.1)) ^^^ (x14 (x2 q.1))) ^^^ (x11 q.1)) ^^^ (x13 q.1))=q.1) ⟨q,hq⟩
 have h2:((((x9 r) ^^^ (x14 (x3 r))) ^^^ (x11 (x2 r))) ^^^ (x13 r))=0:=(by decide +kernel:∀ r:Fin 256,((((x9 r.1) ^^^ (x14 (x3 r.1))) ^^^ (x11 (x2 r.1))) ^^^ (x13 r.1))=0) ⟨r,hr⟩
 have h3:((((x9 t) ^^^ (x14 t)) ^^^ (x11 (x3 t))) ^^^ (x13 (x2 t)))=0:=(by decide +kernel:∀ t:Fin 256,((((x9 t.1) ^^^ (x14 t.1)) ^^^ (x11 (x3 t.1))) ^^^ (x13 (x2 t.1)))=0) ⟨t,ht⟩
 rw[h0,h1,h2,h3]
 simp
theorem O6 (p q r t:Nat) (hp:p<256) (hq:q<256) (hr:r<256) (ht:t<256):((((x13 ((((x2 p) ^^^ (x3 q)) ^^^ r) ^^^ t)) ^^^ (x9 (((p ^^^ (x2 q)) ^^^ (x3 r)) ^^^ t))) ^^^ (x14 (((p ^^^ q) ^^^ (x2 r)) ^^^ (x3 t)))) ^^^ (x11 ((((x3 p) ^^^ q) ^^^ r) ^^^ (x2 t))))=r:=by
 rw[V8 (xl2 hp) (xl3 hq) hr ht,Ff hp (xl2 hq) (xl3 hr) ht,V7 hp hq (xl2 hr) (xl3 ht),V9 (xl3 hp) hq hr (xl2 ht)]
 have e:(((((((x13 (x2 p)) ^^^ (x13 (x3 q))) ^^^ (x13 r)) ^^^ (x13 t)) ^^^ ((((x9 p) ^^^ (x9 (x2 q))) ^^^ (x9 (x3 r))) ^^^ (x9 t))) ^^^ ((((x14 p) ^^^ (x14 q)) ^^^ (x14 (x2 r))) ^^^ (x14 (x3 t)))) ^^^ ((((x11 (x3 p)) ^^^ (x11 q)) ^^^ (x11 r)) ^^^ (x11 (x2 t))))=(((((((x13 (x2 p)) ^^^ (x9 p)) ^^^ (x14 p)) ^^^ (x11 (x3 p))) ^^^ ((((x13 (x3 q)) ^^^ (x9 (x2 q))) ^^^ (x14 q)) ^^^ (x11 q))) ^^^ ((((x13 r) ^^^ (x9 (x3 r))) ^^^ (x14 (x2 r))) ^^^ (x11 r))) ^^^ ((((x13 t) ^^^ (x9 t)) ^^^ (x14 (x3 t))) ^^^ (x11 (x2 t)))):=by ac_rfl
 rw[e]
 have h0:((((x13 (x2 p)) ^^^ (x9 p)) ^^^ (x14 p)) ^^^ (x11 (x3 p)))=0:=(by decide +kernel:∀ p:Fin 256,((((x13 (x2 p.1)) ^^^ (x9 p.1)) ^^^ (x14 p.1)) ^^^ (x11 (x3 p.1)))=0) ⟨p,hp⟩
 have h1:((((x13 (x3 q)) ^^^ (x9 (x2 q))) ^^^ (x14 q)) ^^^ (x11 q))=0:=(by decide +kernel:∀ q:Fin 256,((((x13 (x3 q.1)) ^^^ (x9 (x2 q.1))) ^^^ (x14 q.1)) ^^^ (x11 q.1))=0) ⟨q,hq⟩
 have h2:((((x13 r) ^^^ (x9 (x3 r))) ^^^ (x14 (x2 r))) ^^^ (x11 r))=r:=(by decide +kernel:∀ r:Fin 256,((((x13 r.1) ^^^ (x9 (x3 r.1))) ^^^ (x14 (x2 r.1))) ^^^ (x11 r.1))=r.1) ⟨r,hr⟩
 have h3:((((x13 t) ^^^ (x9 t)) ^^^ (x14 (x3 t))) ^^^ (x11 (x2 t)))=0:=(by decide +kernel:∀ t:Fin 256,((((x13 t.1) ^^^ (x9 t.1)) ^^^ (x14 (x3 t.1))) ^^^ (x11 (x2 t.1)))=0) ⟨t,ht⟩
 rw[h0,h1,h2,h3]
 simp
theorem O5 (p q r t:Nat) (hp:p<256) (hq:q<256) (hr:r<256) (ht:t<256):((((x11 ((((x2 p) ^^^ (x3 q)) ^^^ r) ^^^ t)) ^^^ (x13 (((p ^^^ (x2 q)) ^^^ (x3 r)) ^^^ t))) ^^^ (x9 (((p ^^^ q) ^^^ (x2 r)) ^^^ (x3 t)))) ^^^ (x14 ((((x3 p) ^^^ q) ^^^ r) ^^^ (x2 t))))=t:=by
 rw[V9 (xl2 hp) (xl3 hq) hr ht,V8 hp (xl2 hq) (xl3 hr) ht,Ff hp hq (xl2 hr) (xl3 ht),V7 (xl3 hp) hq hr (xl2 ht)]
 have e:(((((((x11 (x2 p)) ^^^ (x11 (x3 q))) ^^^ (x11 r)) ^^^ (x11 t)) ^^^ ((((x13 p) ^^^ (x13 (x2 q))) ^^^ (x13 (x3 r))) ^^^ (x13 t))) ^^^ ((((x9 p) ^^^ (x9 q)) ^^^ (x9 (x2 r))) ^^^ (x9 (x3 t)))) ^^^ ((((x14 (x3 p)) ^^^ (x14 q)) ^^^ (x14 r)) ^^^ (x14 (x2 t))))=(((((((x11 (x2 p)) ^^^ (x13 p)) ^^^ (x9 p)) ^^^ (x14 (x3 p))) ^^^ ((((x11 (x3 q)) ^^^ (x13 (x2 q))) ^^^ (x9 q)) ^^^ (x14 q))) ^^^ ((((x11 r) ^^^ (x13 (x3 r))) ^^^ (x9 (x2 r))) ^^^ (x14 r))) ^^^ ((((x11 t) ^^^ (x13 t)) ^^^ (x9 (x3 t))) ^^^ (x14 (x2 t)))):=by ac_rfl
 rw[e]
 have h0:((((x11 (x2 p)) ^^^ (x13 p)) ^^^ (x9 p)) ^^^ (x14 (x3 p)))=0:=(by decide +kernel:∀ p:Fin 256,((((x11 (x2 p.1)) ^^^ (x13 p.1)) ^^^ (x9 p.1)) ^^^ (x14 (x3 p.1)))=0) ⟨p,hp⟩
 have h1:((((x11 (x3 q)) ^^^ (x13 (x2 q))) ^^^ (x9 q)) ^^^ (x14 q))=0:=(by decide +kernel:∀ q:Fin 256,((((x11 (x3 q.1)) ^^^ (x13 (x2 q.1))) ^^^ (x9 q.1)) ^^^ (x14 q.1))=0) ⟨q,hq⟩
 have h2:((((x11 r) ^^^ (x13 (x3 r))) ^^^ (x9 (x2 r))) ^^^ (x14 r))=0:=(by decide +kernel:∀ r:Fin 256,((((x11 r.1) ^^^ (x13 (x3 r.1))) ^^^ (x9 (x2 r.1))) ^^^ (x14 r.1))=0) ⟨r,hr⟩
 have h3:((((x11 t) ^^^ (x13 t)) ^^^ (x9 (x3 t))) ^^^ (x14 (x2 t)))=t:=(by decide +kernel:∀ t:Fin 256,((((x11 t.1) ^^^ (x13 t.1)) ^^^ (x9 (x3 t.1))) ^^^ (x14 (x2 t.1)))=t.1) ⟨t,ht⟩
 rw[h0,h1,h2,h3]
 simp
theorem Zdj (x:Nat):bt0 (mcw x)=((x2 (bt0 x) ^^^ x3 (bt1 x)) ^^^ bt2 x) ^^^ bt3 x∧bt1 (mcw x)=((bt0 x ^^^ x2 (bt1 x)) ^^^ x3 (bt2 x)) ^^^ bt3 x∧bt2 (mcw x)=((bt0 x ^^^ bt1 x) ^^^ x2 (bt2 x)) ^^^ x3 (bt3 x)∧bt3 (mcw x)=((x3 (bt0 x) ^^^ bt1 x) ^^^ bt2 x) ^^^ x2 (bt3 x):=
 I6 (Zk (Zk (Zk (xl2 (Xr x)) (xl3 (Xq x))) (Xp x)) (Xo x)) (Zk (Zk (Zk (Xr x) (xl2 (Xq x))) (xl3 (Xp x))) (Xo x)) (Zk (Zk (Zk (Xr x) (Xq x)) (xl2 (Xp x))) (xl3 (Xo x))) (Zk (Zk (Zk (xl3 (Xr x)) (Xq x)) (Xp x)) (xl2 (Xo x)))
theorem O4 (x:Nat):bt0 (F1 x)=((x14 (bt0 x) ^^^ x11 (bt1 x)) ^^^ x13 (bt2 x)) ^^^ x9 (bt3 x)∧bt1 (F1 x)=((x9 (bt0 x) ^^^ x14 (bt1 x)) ^^^ x11 (bt2 x)) ^^^ x13 (bt3 x)∧bt2 (F1 x)=((x13 (bt0 x) ^^^ x9 (bt1 x)) ^^^ x14 (bt2 x)) ^^^ x11 (bt3 x)∧bt3 (F1 x)=((x11 (bt0 x) ^^^ x13 (bt1 x)) ^^^ x9 (bt2 x)) ^^^ x14 (bt3 x):=by
 unfold F1
 rw[Zcn _ _ _ _ (Xr x) (Xq x) (Xp x) (Xo x)]
 have a:=Xr x
 have b:=Xq x
 have c:=Xp x
 have d:=Xo x
 exact I6 (Zk (Zk (Zk (Dl a) (Dm b)) (Fy c)) (xl9 d)) (Zk (Zk (Zk (xl9 a) (Dl b)) (Dm c)) (Fy d)) (Zk (Zk (Zk (Fy a) (xl9 b)) (Dl c)) (Dm d)) (Zk (Zk (Zk (Dm a) (Fy b)) (xl9 c)) (Dl d))
theorem Wa {x:Nat} (h:x<4294967296):F1 (mcw x)=x:=by
 obtain ⟨e0,e1,e2,e3⟩:=Zdj x
 have a:=Xr x
 have b:=Xq x
 have c:=Xp x
 have d:=Xo x
 have hm:=Q4 (O3 (mcw x))
 obtain ⟨u0,u1,u2,u3⟩:=O4 (mcw x)
 rw[u0,u1,u2,u3,e0,e1,e2,e3,O8 _ _ _ _ a b c d,O7 _ _ _ _ a b c d,O6 _ _ _ _ a b c d,O5 _ _ _ _ a b c d,Q4 h] at hm
 exact hm.symm
theorem Za4 (s:W4):Lr s=mcS (Vq s):=by unfold Lr mcS Vq;simp only[Zdh]
theorem Tg (s:W4):Zco (Lr s)=Vq s:=by
 rw[Za4]
 unfold Zco mcS
 obtain ⟨h1,h2,h3,h4⟩:=Hn s
 simp only[Wa h1,Wa h2,Wa h3,Wa h4]
theorem Ub {K:Nat→Nat} (hK:∀ i,K i<4294967296) (s:W4) (hs:s.ok) (r:Nat):itD K r (Vq (Gx K r s))=Vq s:=by
 induction r with
 | zero=>rw[E8,Lz]
 | succ r ih=>rw[E9,Nk,D9 _ (E7 hK hs _),L5,Gm,Tg,ih]
theorem Zbn {K:Nat→Nat} (hK:∀ i,K i<4294967296) (nr:Nat) (s:W4) (hs:s.ok):dcW nr K (N7 nr K s)=s:=by
 rw[dcW,N7,Gm,Ub hK _ (Vn hK 0 hs),D9 _ (Vn hK 0 hs),Gm]
end Go.Proofs.YtehlppaidgkpaaaGreatDoor
