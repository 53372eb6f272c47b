import Derived.Test.YtehlppaidgkpaaaGreatDoorPart24
import Derived.Deep.CutRange
import Derived.WalkKit
import Derived.Deep.RegionHeld3
import Derived.Test.YtehlppaidgkpaaaGreatDoorPart04
import Derived.Deep.AppendLies
import Derived.Test.YtehlppaidgkpaaaGreatDoorPart18
import Derived.Test.YtehlppaidgkpaaaGreatDoorPart00
import Derived.Test.YtehlppaidgkpaaaGreatDoorPart14
import Derived.Test.YtehlppaidgkpaaaGreatDoorBlk
import Derived.Test.YtehlppaidgkpaaaGreatDoorPart03
import Derived.Laws.OwnMore
namespace Go.Proofs.YtehlppaidgkpaaaGreatDoor
open Go.RowKit
set_option linter.unusedVariables false
def Fj (nr:Nat) (K:Nat→Nat) (j:Nat):Value:=
 if j=0 then .int .i64 (nr:Nat) else if j<61 then .int .u32 (K (j-1):Nat) else if j<317 then .int .u8 (SB (j-61):Nat) else if j<573 then .int .u8 (UB (j-317):Nat)
 else if j<829 then .int .u32 (MX (j-573):Nat) else .int .u32 (UX (j-829):Nat)
def We (nr:Nat) (K:Nat→Nat):List Value:=(List.range 1085).map (Fj nr K)
theorem Kf (nr:Nat) (K:Nat→Nat):(We nr K).length=1085:=by simp [We]
theorem M6 (nr:Nat) (K:Nat→Nat) {j:Nat} (h:j<1085):(We nr K)[j]?=some (Fj nr K j):=by simp [We,h]
theorem Uh (nr:Nat) (K:Nat→Nat) (j:Nat):(Fj nr K j).oneCell'=true:=by
 unfold Fj
 repeat' split
 all_goals rfl
theorem Ug (nr:Nat) (K:Nat→Nat):(We nr K).toArray.all (·.oneCell')=true:=all_oneCell_toArray (fun v hv=>by
 simp only[We,List.mem_map] at hv
 obtain ⟨j,_,rfl⟩:=hv
 exact Uh nr K j)
theorem N6 {w:World} {g o nr:Nat} {K:Nat→Nat} (h0:w.cell? ⟨g,o,none⟩=some (.int .i64 (nr:Nat))) (hw:∀ i,i<60→w.cell? ⟨g,o+1+i,none⟩=some (.int .u32 (K i:Nat))) (ht:Tab w g o):w.rangeAt g o (We nr K):=fun j v hv=>by
 have hj:j<1085:=by
  have:=(List.getElem?_eq_some_iff.1 hv).1
  rw[Kf] at this
  exact this
 rw[M6 nr K hj] at hv
 obtain rfl:=Option.some.inj hv
 unfold Fj
 by_cases h1:j=0
 ·rw[if_pos h1,h1];exact h0
 rw[if_neg h1]
 by_cases h2:j<61
 ·rw[if_pos h2];have:=hw (j-1) (by omega);rw[show o+1+(j-1)=o+j by omega] at this;exact this
 rw[if_neg h2]
 by_cases h3:j<317
 ·rw[if_pos h3];have:=ht.s (j-61) (by omega);rw[show o+61+(j-61)=o+j by omega] at this;exact this
 rw[if_neg h3]
 by_cases h4:j<573
 ·rw[if_pos h4];have:=ht.u (j-317) (by omega);rw[show o+317+(j-317)=o+j by omega] at this;exact this
 rw[if_neg h4]
 by_cases h5:j<829
 ·rw[if_pos h5];have:=ht.m (j-573) (by omega);rw[show o+573+(j-573)=o+j by omega] at this;exact this
 rw[if_neg h5]
 have:=ht.n (j-829) (by omega)
 rw[show o+829+(j-829)=o+j by omega] at this
 exact this
theorem Hh {w:World} {g o nr:Nat} {K:Nat→Nat} (h:w.rangeAt g o (We nr K)) (hg:g<w.heap.size) (h1:1≤nr) (h14:nr≤14) (hK:∀ i,K i<4294967296):J3 w g o nr K:=by
 have e:∀ j,j<1085→w.cell? ⟨g,o+j,none⟩=some (Fj nr K j):=fun j hj=>h j _ (M6 nr K hj)
 refine ⟨?_,fun i hi=>?_,hK,⟨fun b hb=>?_,fun b hb=>?_,fun b hb=>?_,fun b hb=>?_⟩,hg,h1,h14⟩
 ·exact e 0 (by omega)
 ·have:=e (1+i) (by omega)
  rw[←Nat.add_assoc] at this
  rw[this]
  unfold Fj
  rw[if_neg (by omega),if_pos (by omega),show 1+i-1=i by omega]
 ·have:=e (61+b) (by omega)
  rw[←Nat.add_assoc] at this
  rw[this]
  unfold Fj
  rw[if_neg (by omega),if_neg (by omega),if_pos (by omega),show 61+b-61=b by omega]
 ·have:=e (317+b) (by omega)
  rw[←Nat.add_assoc] at this
  rw[this]
  unfold Fj
  rw[if_neg (by omega),if_neg (by omega),if_neg (by omega),if_pos (by omega),show 317+b-317=b by omega]
 ·have:=e (573+b) (by omega)
  rw[←Nat.add_assoc] at this
  rw[this]
  unfold Fj
  rw[if_neg (by omega),if_neg (by omega),if_neg (by omega),if_neg (by omega),if_pos (by omega),show 573+b-573=b by omega]
 ·have:=e (829+b) (by omega)
  rw[←Nat.add_assoc] at this
  rw[this]
  unfold Fj
  rw[if_neg (by omega),if_neg (by omega),if_neg (by omega),if_neg (by omega),if_neg (by omega),show 829+b-829=b by omega]
def upd (f:Nat→Nat) (i v:Nat):Nat→Nat:=fun j=>if j=i then v else f j
def Bz (x:Nat):Nat:=G7 x x x x
def Zba (x:Nat):Nat:=wd (bt1 x) (bt2 x) (bt3 x) (bt0 x)
def rcT (i:Nat):Nat:=Nat.mod (Nat.shiftRight 255515093586639589736961 (Nat.mul 8 i)) 256
def Wn (nk i:Nat) (K:Nat→Nat):Nat:=
 Nat.xor (K (i-nk)) (if i%nk=0 then Nat.xor (Bz (Zba (K (i-1)))) (rcT (i/nk-1)*16777216) else if nk=8∧i%8=4 then Bz (K (i-1)) else K (i-1))
def G8 (key:Nat→Nat):Nat→Nat→Nat
 | 0=>fun _=>0
 | i+1=>upd (G8 key i) (i/4) (G8 key i (i/4)*256%4294967296+key i)
def goW (nk:Nat) (K:Nat→Nat):Nat→Nat→Nat
 | 0=>K
 | m+1=>upd (goW nk K m) (nk+m) (Wn nk (nk+m) (goW nk K m))
def Zn (nk:Nat) (key:Nat→Nat):Nat→Nat:=goW nk (G8 key (4*nk)) (3*nk+28)
theorem Ge {key : Nat → Nat} (hk : ∀ i, key i < 256) : ∀ i j, G8 key i j < 4294967296
  | 0, j => by show 0 < _; decide
  | i + 1, j => by
    unfold G8 upd
    have := hk i
    split
    · omega
    · exact Ge hk i j
theorem S7 (i:Nat):rcT i<256:=Nat.mod_lt _ (by decide)
theorem W6 (x:Nat):Bz x<4294967296:=Kd _ _ _ _
theorem Td {nk i:Nat} {K:Nat→Nat} (hK:∀ j,K j<4294967296):Wn nk i K<4294967296:=by
 unfold Wn
 refine Y1 (hK _) ?_
 have:=S7 (i/nk-1)
 split
 ·exact Y1 (W6 _) (by omega)
 ·split
  ·exact W6 _
  ·exact hK _
theorem G9 {nk : Nat} {K : Nat → Nat} (hK : ∀ j, K j < 4294967296) : ∀ m j, goW nk K m j < 4294967296
  | 0, j => hK j
  | m + 1, j => by
    unfold goW upd
    split
    · exact Td (G9 hK m)
    · exact G9 hK m j
theorem Lu {nk:Nat} {key:Nat→Nat} (hk:∀ i,key i<256) (j:Nat):Zn nk key j<4294967296:=G9 (Ge hk _) _ j
structure Qr (w:World) (nr:Nat) (K:Nat→Nat) (u:World):Prop where
 old:Below w.heap.size w u
 size:w.heap.size+2≤u.heap.size
 res:u.there w.heap.size 0 1085
 room:u.there (w.heap.size+1) 0 1085
 rounds:u.cell? ⟨w.heap.size+1,0,none⟩=some (.int .i64 (nr:Nat))
 words:∀ j,j<60→u.cell? ⟨w.heap.size+1,1+j,none⟩=some (.int .u32 (K j:Nat))
theorem Qr.touch {w u u':World} {nr:Nat} {K:Nat→Nat} (h:Qr w nr K u) (ht:Touch u u' (w.heap.size+1) 61 1024):Qr w nr K u':=by
 have hs:=h.size
 refine ⟨h.old.trans (ht.toBelow (Nat.le_succ _) h.old.size),Nat.le_trans h.size ht.size,?_,ht.there _ _ h.room,(ht.cell 0 (by omega)).trans h.rounds,fun j hj=>(ht.cell (1+j) (by omega)).trans (h.words j hj)⟩
 intro j hj
 have:=h.res j hj
 rw[ht.far (p:=⟨w.heap.size,0+j,none⟩) (show w.heap.size<_ by omega) (show w.heap.size≠_ by omega),ht.farFrozen (p:=⟨w.heap.size,0+j,none⟩) (show w.heap.size<_ by omega) (show w.heap.size≠_ by omega)]
 exact this
theorem Qr.set {w u:World} {nr:Nat} {K:Nat→Nat} (h:Qr w nr K u) (i v:Nat) (hi:i<60):Qr w nr (upd K i v) (u.setCell ⟨w.heap.size+1,1+i,none⟩ (.int .u32 (v:Nat))):=by
 refine ⟨h.old.setCell (Nat.le_succ _) _,?_,World.there_setCells h.res _ _ [_],World.there_setCells h.room _ _ [_],?_,fun j hj=>?_⟩
 ·have:=h.size;simpa [World.setCell] using this
 ·rw[Zc _ _ _ _ _ (by omega)];exact h.rounds
 ·unfold upd
  by_cases hji:j=i
  ·subst hji
   rw[if_pos rfl]
   have:=h.room (1+j) (by omega)
   simp only[Nat.zero_add] at this
   exact World.cell?_setCell_same' _ _ _ this.1
  ·rw[if_neg hji,Zc _ _ _ _ _ (by omega)]
   exact h.words j hj
theorem Qr.drewN {w u:World} {nr:Nat} {K:Nat→Nat} (h:Qr w nr K u) (m:Nat):Qr w nr K (u.drewN m):=⟨Below.drewN h.old m,h.size,h.res,h.room,h.rounds,h.words⟩
theorem Tab.set {u:World} {g i:Nat} (h:Tab u g 0) (v:Value) (hi:i<61):Tab (u.setCell ⟨g,i,none⟩ v) g 0:=
 ⟨fun b hb=>by rw[Zc _ _ _ _ _ (by omega)];exact h.s b hb,fun b hb=>by rw[Zc _ _ _ _ _ (by omega)];exact h.u b hb,fun b hb=>by rw[Zc _ _ _ _ _ (by omega)];exact h.m b hb,fun b hb=>by rw[Zc _ _ _ _ _ (by omega)];exact h.n b hb⟩
theorem Tab.drewN {u:World} {g o:Nat} (h:Tab u g o) (m:Nat):Tab (u.drewN m) g o:=⟨h.s,h.u,h.m,h.n⟩
theorem Gu (g o x:Nat) (w:World) (hT:Tab w g o):Calls Tryz.prog 77 #[.pointer (some ⟨g,o,none⟩),.int .u32 (x:Nat)] w fun e w'=>e=.returned (.int .u32 (Bz x:Nat))∧∃ m,w'=w.drewN m:=by
 obtain ⟨y,HY⟩:∃ y,Hid (y=Bz x):=⟨_,rfl⟩
 have K1:Hid (Calls Tryz.prog 90 #[.pointer (some ⟨g,o,none⟩),.int .u32 (x:Nat),.int .u32 (x:Nat),.int .u32 (x:Nat),.int .u32 (x:Nat)] w fun e w'=>e=.returned (.int .u32 (y:Nat))∧∃ m,w'=w.drewN m):=by
  rw[HY.out]
  exact M4 g o x x x x _ _ _ _ w (Jz x) (Jy x) (Jx x) (Jw x) (Ju x) (Jt x) (Js x) (Jr x) hT
 rw[←HY.out]
 clear hT
 go_enter Tryz.func77,Tryz.ntmps77
 go_wp2_with (first | (go_at_call 90;refine K1.out.mono ?_))
 rintro e1 w1 ⟨rfl,m,hw⟩
 go_wp2
 go_ret
 exact ⟨rfl,m,rfl⟩
theorem Hv (g o nr:Nat) (w:World) (h:w.cell? ⟨g,o,none⟩=some (.int .i64 (nr:Nat))) (hn:nr≤14):Calls Tryz.prog 76 #[.pointer (some ⟨g,o,none⟩)] w fun e w'=>e=.returned (.int .i64 (4*(nr+1):Nat))∧w'=w:=by
 go_enter Tryz.func76,Tryz.ntmps76
 go_wp2
 go_ret
 exact ⟨Xt (by omega),rfl⟩
end Go.Proofs.YtehlppaidgkpaaaGreatDoor
namespace Go.Proofs.YtehlppaidgkpaaaGreatDoor.Dg
open Go.RowKit
set_option linter.unusedVariables false
set_option linter.unusedSimpArgs false
theorem Vm {u:World} (t:TypeId) (x:Value) (ys:List Int) (g:Nat) (hx:Zf u x ys) (hg:u.heap.size≠g) (hox:ys≠[]→∀ b off l c,x=.slice (some ⟨b,off,none⟩) l c→b≠g):Fu (u.alloc (.cells #[x] t)) g (.slice (some ⟨u.heap.size,0,none⟩) 1 1) [ys]:=by
 refine ⟨_,1,rfl,by simp,by simp [maxLen],.inr ⟨u.heap.size,0,rfl,hg,fun i hi=>?_⟩⟩
 obtain rfl:i=0:=by simpa using hi
 exact ⟨x,World.cell?_alloc_at _ _ _ _ rfl,hx.kept (fun q hq=>Below.heap_alloc u _ q hq),hox⟩
theorem Ev:Tryz.prog.elem 22=5:=by kernel_rfl
theorem I5:Tryz.prog.underlying 22=some (.slice (Tryz.prog.elem 22)):=by kernel_rfl
theorem Sp (w:World):(Go.sizeOf 5).run Tryz.prog w=.ok 1 w:=by kernel_rfl
def Xw (h:Int) (zs:List Int):List Int:=(Yt (Xf h) (Wx (Xf h) (Zt h) 0 zs)).take (Yw h)
theorem Sj {h:Int} (k:Qe h):1≤Yw h∧Yw h≤64:=by obtain rfl:h=256:=k;decide
theorem Sb {w:World} {B n:Nat} {v:Value} {zs:List Int} (h:w.ownsRow B 5 1 v n (Za zs)) (hn:zs.length=n):Zf w v zs:=by
 have h0:=h
 rcases h.2 with ⟨rfl,e0⟩ | ⟨g,c,cur,rfl,q1,q2,q3,q4,q5,q6⟩
 ·refine ⟨none,0,by rw[hn,e0],by omega,by simp [maxLen],fun _=>rfl,Or.inl (List.eq_nil_of_length_eq_zero (by omega))⟩
 ·refine ⟨some ⟨g,0,none⟩,c,by rw[hn],by omega,q4,(fun e=>by cases e),Or.inr ⟨g,0,rfl,fun i hi=>?_⟩⟩
  have hc:=h0.cells (g:=g) rfl i (.int .u8 (zs.getD i 0)) (by simp [Za,List.getD,List.getElem?_eq_getElem hi])
  rw[Addr.add_lit] at hc
  exact hc
theorem Cp (h:Int) (k:Qe h) (X:List Int):(Xw h X).length=Yw h:=by
 have:=Sj k
 simp [Xw,Yt]
 omega
end Go.Proofs.YtehlppaidgkpaaaGreatDoor.Dg
namespace Go.Proofs.YtehlppaidgkpaaaGreatDoor
open Go.RowKit
set_option linter.unusedVariables false
def btn (x:Nat):Nat→Nat
 | 0=>bt0 x
 | 1=>bt1 x
 | 2=>bt2 x
 | _=>bt3 x
def rb (K:Nat→Nat) (j:Nat):Nat:=btn (K (j/4)) (j%4)
def sbL:List Value:=(List.range 256).map fun j=>.int .u8 (SB j:Nat)
def ubL:List Value:=(List.range 256).map fun j=>.int .u8 (UB j:Nat)
theorem Su (j:Nat) (h:j<256):sbL[j]?=some (.int .u8 (SB j:Nat)):=by simp [sbL,h]
theorem Sd (j:Nat) (h:j<256):ubL[j]?=some (.int .u8 (UB j:Nat)):=by simp [ubL,h]
theorem Dh:sbL.length=256:=by simp [sbL]
theorem Hx:ubL.length=256:=by simp [ubL]
theorem Mq:sbL.toArray.all (·.oneCell')=true:=all_oneCell_toArray (fun v hv=>by
 simp only[sbL,List.mem_map] at hv
 obtain ⟨j,_,rfl⟩:=hv
 rfl)
theorem Mj:ubL.toArray.all (·.oneCell')=true:=all_oneCell_toArray (fun v hv=>by
 simp only[ubL,List.mem_map] at hv
 obtain ⟨j,_,rfl⟩:=hv
 rfl)
theorem Lw {w:World} {b o:Nat} (h:∀ j,j<256→w.cell? ⟨b,o+j,none⟩=some (.int .u8 (SB j:Nat))):w.rangeAt b o sbL:=fun j v hv=>by
 have hj:j<256:=by have:=(List.getElem?_eq_some_iff.1 hv).1;rw[Dh] at this;exact this
 rw[Su j hj] at hv
 rw[h j hj];exact hv
theorem Li {w:World} {b o:Nat} (h:∀ j,j<256→w.cell? ⟨b,o+j,none⟩=some (.int .u8 (UB j:Nat))):w.rangeAt b o ubL:=fun j v hv=>by
 have hj:j<256:=by have:=(List.getElem?_eq_some_iff.1 hv).1;rw[Hx] at this;exact this
 rw[Sd j hj] at hv
 rw[h j hj];exact hv
theorem Dd:(Tryz.prog.info? 118).map (·.size)=some 256:=by kernel_rfl
theorem Pg:Tryz.zeroCells118.size=256:=by kernel_rfl
structure BxS (w:World) (b1 b2 b3:Nat) (u:World):Prop where
 old:Below w.heap.size w u
 r0:u.there w.heap.size 0 256
 r1:u.there b1 0 256
 s:u.there b2 0 256
 t:u.there b3 0 256
theorem BxS.set {w u:World} {b1 b2 b3:Nat} (h:BxS w b1 b2 b3 u) (b j:Nat) (v:Value) (hb:w.heap.size≤b):BxS w b1 b2 b3 (u.setCell ⟨b,j,none⟩ v):=
 ⟨h.old.setCell hb _,World.there_setCells h.r0 _ _ [_],World.there_setCells h.r1 _ _ [_],World.there_setCells h.s _ _ [_],World.there_setCells h.t _ _ [_]⟩
theorem Uo (w:World) (C:Array Value) (hC:C.size=256):BxS w (w.heap.size+1) (w.heap.size+1+1) (w.heap.size+1+1+1) ((((w.alloc (.cells C 118)).alloc (.cells C 118)).alloc (.cells C 118)).alloc (.cells C 118)):=by
 have hl:256≤C.size:=by omega
 have s1:(w.alloc (.cells C 118)).heap.size=w.heap.size+1:=by simp
 have s2:((w.alloc (.cells C 118)).alloc (.cells C 118)).heap.size=w.heap.size+1+1:=by simp
 have s3:(((w.alloc (.cells C 118)).alloc (.cells C 118)).alloc (.cells C 118)).heap.size=w.heap.size+1+1+1:=by simp
 refine ⟨((((Below.refl _ w).alloc (Nat.le_refl _) _).alloc (by omega) _).alloc (by omega) _).alloc (by omega) _,?_,?_,?_,?_⟩
 ·exact World.there_alloc (World.there_alloc (World.there_alloc (Zi w C 118 256 hl) _) _) _
 ·have:=Zi (w.alloc (.cells C 118)) C 118 256 hl
  rw[s1] at this
  exact World.there_alloc (World.there_alloc this _) _
 ·have:=Zi ((w.alloc (.cells C 118)).alloc (.cells C 118)) C 118 256 hl
  rw[s2] at this
  exact World.there_alloc this _
 ·have:=Zi (((w.alloc (.cells C 118)).alloc (.cells C 118)).alloc (.cells C 118)) C 118 256 hl
  rw[s3] at this
  exact this
theorem Yn {w:World} {b n:Nat} (h:w.there b 0 n) (j:Nat) (hj:j<n):∃ v,w.cell? ⟨b,j,none⟩=some v:=by
 have:=(h j hj).1
 rw[Nat.zero_add] at this
 exact Option.isSome_iff_exists.1 this
theorem Yi {w:World} {b n:Nat} (h:w.there b 0 n) (j:Nat) (hj:j<n):w.frozen? ⟨b,j,none⟩=false:=by
 have:=(h j hj).2
 rw[Nat.zero_add] at this
 exact this
theorem Y2 {w:World} {b n j:Nat} (v:Value) (h:w.there b 0 n) (hj:j<n):(w.setCell ⟨b,j,none⟩ v).cell? ⟨b,j,none⟩=some v:=by
 have:=Jk (i:=j) v h hj
 rw[Nat.zero_add] at this
 exact this
theorem Vl {fn:Func} {p u:Tmp} {ty:TypeId} (h:fn.results=#[.cell p ty,.cell u ty]) (tmps:Array Value) (P:Program) (w:World) :
  (results fn tmps).run P w =
   ((asAddr (tmps.getD p undef)).run P w).andThen fun a w₁=>((loadVar ty a).run P w₁).andThen fun v w₂=>((asAddr (tmps.getD u undef)).run P w₂).andThen fun c w₃=>((loadVar ty c).run P w₃).andThen fun x w₄=>.ok (.tuple #[v,x]) w₄:=by
 simp only[results,h]
 simp [Sem.run_bind,Result.andThen]
theorem B8 {P:Program} {fn:Func} {p t:Tmp} {ty:TypeId} {d:TypeDesc} {Q:Ending→World→Prop} {tmps:Array Value} {w:World} {b c:Nat} (cs ds:List Value) (h:fn.results=#[.cell p ty,.cell t ty])
  (hp:tmps.getD p undef=.pointer (some ⟨b,0,none⟩)) (ht:tmps.getD t undef=.pointer (some ⟨c,0,none⟩)) (hr:w.rangeAt b 0 cs) (hs:w.rangeAt c 0 ds) (hu:P.underlying ty=some d) (hd:d.isRow=true) (hi:(P.info? ty).map (·.size)=some cs.length) (hj:(P.info? ty).map (·.size)=some ds.length)
  (hq:Q (.returned (.tuple #[.agg cs.toArray,.agg ds.toArray])) w):bodyPost P fn Q .ret ⟨tmps,[]⟩ w:=by
 refine bodyPost_ret (v:=.tuple #[.agg cs.toArray,.agg ds.toArray]) ?_ rfl hq
 rw[Vl h]
 have hl:=run_loadVar_mid (P:=P) w b 0 ty cs d hr hu hd hi
 have hm:=run_loadVar_mid (P:=P) w c 0 ty ds d hs hu hd hj
 simp [hp,ht,asAddr,hl,hm]
set_option maxHeartbeats 1600000 in
set_option maxRecDepth 100000 in
theorem Uu (w:World):Calls Tryz.prog 112 #[] w fun e w'=>e=.returned (.tuple #[.agg sbL.toArray,.agg ubL.toArray])∧Below w.heap.size w w':=by
 have HB:=Uo w Tryz.zeroCells118 Pg
 go_enter Tryz.func112,Tryz.ntmps112
 go_wp2
 have HI:Hid (BxS w (w.heap.size+1) (w.heap.size+1+1) (w.heap.size+1+1+1) ((((w.alloc (.cells Tryz.zeroCells118 118)).alloc (.cells Tryz.zeroCells118 118)).alloc (.cells Tryz.zeroCells118 118)).alloc (.cells Tryz.zeroCells118 118))):=HB
 clear HB
 generalize ((((w.alloc (.cells Tryz.zeroCells118 118)).alloc (.cells Tryz.zeroCells118 118)).alloc (.cells Tryz.zeroCells118 118)).alloc (.cells Tryz.zeroCells118 118))=w4 at HI ⊢
 obtain ⟨b3,HB3⟩:∃ b,Hid (w.heap.size+1+1+1=b):=⟨_,rfl⟩
 obtain ⟨b2,HB2⟩:∃ b,Hid (w.heap.size+1+1=b):=⟨_,rfl⟩
 obtain ⟨b1,HB1⟩:∃ b,Hid (w.heap.size+1=b):=⟨_,rfl⟩
 rw[HB3.out,HB2.out,HB1.out] at HI ⊢
 have HBB:Hid (w.heap.size<b1∧b1<b2∧b2<b3):=⟨by have:=HB1.out;omega,by have:=HB1.out;have:=HB2.out;omega,by have:=HB2.out;have:=HB3.out;omega⟩
 clear HB1 HB2 HB3
 go_loopw [4,5,6] (fun b y i wr=>∃ k:Nat,k≤255∧i=.int .i64 k∧b=.int .u8 (pwT k:Nat)∧y=.int .u8 (ivT k:Nat)∧Hid (BxS w b1 b2 b3 wr∧∀ j,j<k→wr.cell? ⟨b2,pwT j,none⟩=some (.int .u8 (SB (pwT j):Nat)))) (fun _ _ i _=>255-(intOf i).toNat)
 case atStart=>exact ⟨0,by omega,rfl,rfl,rfl,HI.out,fun j hj=>by omega⟩
 case round=>
  obtain ⟨k,hk,rfl,rfl,rfl,HR⟩:=hrel
  by_cases hlt:k<255
  ·obtain ⟨e1,e2,e3⟩:=Mw ⟨k,hlt⟩
   simp only at e1 e2 e3
   obtain ⟨p,HP⟩:∃ p,Hid (p=pwT k):=⟨_,rfl⟩
   obtain ⟨v,HV⟩:∃ p,Hid (p=ivT k):=⟨_,rfl⟩
   have hp:p<256:=by rw[HP.out];exact Nb k
   have hv:v<256:=by rw[HV.out];exact Tx k
   have K1:Hid (∀ u,Calls Tryz.prog 162 #[.int .i64 (v:Nat)] u fun e u'=>e=.returned (.int .u8 (SB p:Nat))∧u'=u):=fun u=>(Gw v hv u).mono fun e u' ⟨z,_,hz,h1,h2⟩=>⟨by rw[h1,hz.out,HV.out,e3,HP.out],h2⟩
   have K3:Hid (∀ u,Calls Tryz.prog 113 #[.int .u8 (p:Nat),.int .u8 3] u fun e u'=>e=.returned (.int .u8 (pwT (k+1):Nat))∧u'=u):=fun u=>(Jf p 3 hp (by decide) u).mono fun e u' ⟨h1,h2⟩=>⟨by rw[h1,HP.out,e1],h2⟩
   have K4:Hid (∀ u,Calls Tryz.prog 113 #[.int .u8 (v:Nat),.int .u8 246] u fun e u'=>e=.returned (.int .u8 (ivT (k+1):Nat))∧u'=u):=fun u=>(Jf v 246 hv (by decide) u).mono fun e u' ⟨h1,h2⟩=>⟨by rw[h1,HV.out,e2],h2⟩
   clear e1 e2 e3
   obtain ⟨p',HP'⟩:∃ p,Hid (p=pwT (k+1)):=⟨_,rfl⟩
   obtain ⟨v',HV'⟩:∃ p,Hid (p=ivT (k+1)):=⟨_,rfl⟩
   rw[←HP'.out] at K3
   rw[←HV'.out] at K4
   rw[←HP.out,←HV.out]
   obtain ⟨c0,hc0⟩:=Yn HR.out.1.s p hp
   have hf0:=Yi HR.out.1.s p hp
   have hpi:((p:Nat):Int)<256:=by omega
   have hvi:IntKind.i64.wrap ((v:Nat):Int)=((v:Nat):Int):=Hj _ (by omega) (by omega)
   go_wp2_with (first | (go_at_call 162;(refine (K1.out _).mono ?_);(rintro e2 w2 ⟨rfl,hw2⟩;obtain rfl:=hw2.symm)) | (go_at_call 113;(refine (K3.out _).mono ?_)))
   rintro e4 w4 ⟨rfl,hw4⟩
   obtain rfl:=hw4.symm
   go_wp2_with (first | (go_at_call 113;(refine (K4.out _).mono ?_)))
   rintro e5 w5 ⟨rfl,hw5⟩
   obtain rfl:=hw5.symm
   go_wp2
   refine ⟨⟨k+1,by omega,rfl,by rw[HP'.out],by rw[HV'.out],HR.out.1.set _ _ _ (by have:=HBB.out;omega),fun j hj=>?_⟩,?_⟩
   ·by_cases hjk:p=pwT j
    ·rw[←hjk];exact Y2 _ HR.out.1.s hp
    ·have hj':j<k:=by
      rcases Nat.lt_or_ge j k with h | h
      ·exact h
      ·exact absurd (show p=pwT j by rw[show j=k by omega];exact HP.out) hjk
     rw[Zc _ _ _ _ _ hjk]
     exact HR.out.2 j hj'
   ·simp only[intOf];omega
  ·obtain rfl:k=255:=by omega
   clear hlt hk
   obtain ⟨p,HP⟩:∃ p,Hid (p=pwT 255):=⟨_,rfl⟩
   obtain ⟨v,HV⟩:∃ p,Hid (p=ivT 255):=⟨_,rfl⟩
   rw[←HP.out,←HV.out]
   have K1:Hid (∀ u,Calls Tryz.prog 162 #[.int .i64 0] u fun e u'=>e=.returned (.int .u8 (SB 0:Nat))∧u'=u):=fun u=>(Gw 0 (by decide) u).mono fun e u' ⟨z,_,hz,h1,h2⟩=>⟨by rw[h1,hz.out];exact congrArg (fun n:Nat=>Ending.returned (.int .u8 (n:Nat))) (by decide +kernel:Db 0=SB 0),h2⟩
   obtain ⟨z0,HZ0⟩:∃ p,Hid (p=SB 0):=⟨_,rfl⟩
   rw[←HZ0.out] at K1
   obtain ⟨c0,hc0⟩:=Yn HR.out.1.s 0 (by decide)
   have hf0:=Yi HR.out.1.s 0 (by decide)
   go_wp2_with (first | (go_at_call 162;(refine (K1.out _).mono ?_);(rintro e2 w2 ⟨rfl,hw2⟩;obtain rfl:=hw2.symm)))
   have H2:Hid (BxS w b1 b2 b3 (wr.setCell ⟨b2,0,none⟩ (.int .u8 (z0:Nat)))∧∀ j,j<256→(wr.setCell ⟨b2,0,none⟩ (.int .u8 (z0:Nat))).cell? ⟨b2,j,none⟩=some (.int .u8 (SB j:Nat))):=by
    refine ⟨HR.out.1.set _ _ _ (by have:=HBB.out;omega),fun j hj=>?_⟩
    by_cases h0:j=0
    ·subst h0;rw[HZ0.out];exact Y2 _ HR.out.1.s (by decide)
    ·rw[Zc _ _ _ _ _ (fun h=>h0 h.symm)]
     rcases Ts ⟨j,hj⟩ with h | ⟨h1,h2⟩
     ·exact absurd h h0
     ·simp only at h1 h2
      have:=HR.out.2 _ h1
      rw[h2] at this
      exact this
   clear HR hc0 hf0 K1
   generalize wr.setCell ⟨b2,0,none⟩ (.int .u8 (z0:Nat))=w5 at H2 ⊢
   go_loopw [7] (fun i wr=>∃ k:Nat,k≤256∧i=.int .i64 k∧Hid (BxS w b1 b2 b3 wr∧(∀ j,j<256→wr.cell? ⟨b2,j,none⟩=some (.int .u8 (SB j:Nat)))∧∀ j,j<k→wr.cell? ⟨b3,SB j,none⟩=some (.int .u8 (j:Nat)))) (fun i _=>256-(intOf i).toNat)
   case atStart=>exact ⟨0,by omega,rfl,H2.out.1,H2.out.2,fun j hj=>by omega⟩
   case round=>
    obtain ⟨k,hk,rfl,HR⟩:=hrel
    by_cases hlt:k<256
    ·have ck:=HR.out.2.1 k hlt
     obtain ⟨q,HQ⟩:∃ q,Hid (q=SB k):=⟨_,rfl⟩
     rw[←HQ.out] at ck
     have hq:q<256:=by rw[HQ.out];exact Xn k
     have hqi:((q:Nat):Int)<256:=by omega
     have hki:((k:Nat):Int)<256:=by omega
     obtain ⟨c1,hc1⟩:=Yn HR.out.1.t q hq
     have hf1:=Yi HR.out.1.t q hq
     have hm:((k:Nat):Int)%256=((k:Nat):Int):=by omega
     go_wp2
     refine ⟨⟨k+1,by omega,rfl,HR.out.1.set _ _ _ (by have:=HBB.out;omega),fun j hj=>?_,fun j hj=>?_⟩,?_⟩
     ·rw[World.cell?_setCell_far _ _ _ _ (by have:=HBB.out;show b3≠b2;omega)]
      exact HR.out.2.1 j hj
     ·by_cases hjk:j=k
      ·subst hjk;rw[HQ.out] at hq ⊢;exact Y2 _ HR.out.1.t hq
      ·rw[Zc _ _ _ _ _ (fun h=>hjk (U8 (by omega) hlt (h.symm.trans HQ.out)))]
       exact HR.out.2.2 j (by omega)
     ·simp only[intOf];omega
    ·obtain rfl:k=256:=by omega
     have RS:Hid (wr.rangeAt b2 0 sbL):=Lw (fun j hj=>by rw[Nat.zero_add];exact HR.out.2.1 j hj)
     have RU:Hid (wr.rangeAt b3 0 ubL):=Li (fun j hj=>by
      rw[Nat.zero_add]
      have:=HR.out.2.2 (UB j) (Iz j)
      rw[(Lb ⟨j,hj⟩).2] at this
      exact this)
     clear hlt hk H2
     go_wp2
     obtain ⟨SL,HSL⟩:∃ L,Hid (L=sbL):=⟨_,rfl⟩
     obtain ⟨UL,HUL⟩:∃ L,Hid (L=ubL):=⟨_,rfl⟩
     rw[←HSL.out] at RS
     rw[←HUL.out] at RU
     have HSl:Hid (SL.toArray.size=256):=by show _=_;rw[HSL.out];exact Dh
     have HUl:Hid (UL.toArray.size=256):=by show _=_;rw[HUL.out];exact Hx
     have HSo:Hid (SL.toArray.all (·.oneCell')=true):=by show _=_;rw[HSL.out];exact Mq
     have HUo:Hid (UL.toArray.all (·.oneCell')=true):=by show _=_;rw[HUL.out];exact Mj
     have hS0:∀ p:Addr,b2≤p.block→wr.drew.cell? p=wr.cell? p:=fun p _=>rfl
     have G2:Hid (∀ u:World,(∀ p:Addr,b2≤p.block→u.cell? p=wr.cell? p)→u.rangeAt b2 0 SL):=fun u hu j v hv=>(hu _ (Nat.le_refl _)).trans (RS.out j v hv)
     have G3:Hid (∀ u:World,(∀ p:Addr,b2≤p.block→u.cell? p=wr.cell? p)→u.rangeAt b3 0 UL):=fun u hu j v hv=>(hu _ (Nat.le_of_lt HBB.out.2.2)).trans (RU.out j v hv)
     have HT0:Hid (wr.drew.there w.heap.size 0 SL.toArray.size):=by show World.there _ _ _ _;rw[HSl.out];exact (World.there_drew _ _ _ _).2 HR.out.1.r0
     have HT1:Hid (wr.drew.there b1 0 UL.toArray.size):=by show World.there _ _ _ _;rw[HUl.out];exact (World.there_drew _ _ _ _).2 HR.out.1.r1
     have s65a:Hid ((Tryz.prog.info? 118).map (·.size)=some SL.toArray.size):=by show _=_;rw[HSl.out];exact Dd
     have s65b:Hid ((Tryz.prog.info? 118).map (·.size)=some UL.toArray.size):=by show _=_;rw[HUl.out];exact Dd
     refine wp_region_noPanic ?_
     refine wp_region_held_drew (S:=fun u=>∀ p:Addr,b2≤p.block→u.cell? p=wr.cell? p) (by kernel_rfl) (hS0) (fun _=>?_)
     refine tH 0 33 (.agg SL.toArray) rfl rfl (by kernel_rfl) (hS0) (yieldsIf_load_mid (by kernel_rfl) 118 (.tmp 2) rfl b2 0 rfl SL _ (fun u hu=>G2.out u hu) Tryz.underlying118 rfl s65a.out) ?_
     simp only[pU]
     refine tH 1 34 (.agg UL.toArray) rfl rfl (by kernel_rfl) (hS0) (yieldsIf_load_mid (by kernel_rfl) 118 (.tmp 3) rfl b3 0 rfl UL _ (fun u hu=>G3.out u hu) Tryz.underlying118 rfl s65b.out) ?_
     simp only[pU]
     refine wpAnyH_ready (rs:=[2]) (by kernel_rfl) (by simp) ?_
     refine AllReadyH.cons rfl (fun Kx hK=>?_) AllReadyH.nil
     rw[if_pos (by kernel_rfl)]
     refine wp_store_mid 118 (.tmp 0) (.tmp 33) rfl w.heap.size 0 SL.toArray rfl rfl HT0.out s65a.out HSo.out ?_
     have hS1:∀ p:Addr,b2≤p.block→(wr.drew.setCells w.heap.size 0 SL).cell? p=wr.cell? p:=fun p hp=>(World.cell?_setCells_out _ _ _ _ _ (fun e=>by have:=HBB.out;omega)).trans (hS0 p hp)
     refine hK.out _ _ hS1 (fun _=>?_)
     clear hK Kx
     try simp only[Act.put]
     refine wpAnyH_ready (rs:=[3]) (by kernel_rfl) (by simp) ?_
     refine AllReadyH.cons rfl (fun Kx hK=>?_) AllReadyH.nil
     rw[if_pos (by kernel_rfl)]
     refine wp_store_mid 118 (.tmp 1) (.tmp 34) rfl b1 0 UL.toArray rfl rfl (World.there_setCells HT1.out _ _ _) s65b.out HUo.out ?_
     have hS2:∀ p:Addr,b2≤p.block→((wr.drew.setCells w.heap.size 0 SL).setCells b1 0 UL).cell? p=wr.cell? p:=fun p hp=>(World.cell?_setCells_out _ _ _ _ _ (fun e=>by have:=HBB.out;omega)).trans (hS1 p hp)
     refine hK.out _ _ hS2 (fun _=>?_)
     clear hK Kx
     refine wpAnyH_done (by kernel_rfl) ?_ _
     refine NoPanic.normal ?_
     have hlast:Hid (((wr.drew.setCells w.heap.size 0 SL).setCells b1 0 UL).rangeAt w.heap.size 0 SL):=fun j v hv=>(World.cell?_setCells_out b1 _ _ _ _ (fun e=>by have h1:=HBB.out.1;have h2:w.heap.size=b1:=e;omega)).trans (World.rangeAt_setCells_same _ _ _ _ HT0.out j v hv)
     have hlast2:Hid (((wr.drew.setCells w.heap.size 0 SL).setCells b1 0 UL).rangeAt b1 0 UL):=World.rangeAt_setCells_same _ _ _ _ (World.there_setCells HT1.out _ _ _)
     have hbel:Hid (Below w.heap.size w ((wr.drew.setCells w.heap.size 0 SL).setCells b1 0 UL)):=Zk _ (by have:=HBB.out;omega) _ _ _ (Zk _ (Nat.le_refl _) _ _ _ HR.out.1.old.drew)
     go_wp2
     refine B8 SL UL Tryz.results112 rfl rfl hlast.out hlast2.out Tryz.underlying118 rfl s65a.out s65b.out ⟨by rw[HSL.out,HUL.out],hbel.out⟩
theorem Pf:Tryz.zeroCells191.size=4611:=by kernel_rfl
theorem Zci:Tryz.prog.built 191 []=some Tryz.zeroCells191:=by kernel_rfl
theorem Mi:Tryz.zeroCells191.toList.take 2=[.slice none 0 0,.slice none 0 0]:=by kernel_rfl
theorem Ph:Tryz.zeroCells191.toList.drop 4610=[.bool false]:=by kernel_rfl
theorem Gf:∀ a:Fin 256,Fy 8 0 a.1 2=Xx a.1:=by decide +kernel
def byF:Nat→Nat→Nat
 | 1,j=>j
 | 2,j=>x2 j
 | 3,j=>x3 j
 | 9,j=>x9 j
 | 11,j=>x11 j
 | 13,j=>x13 j
 | _,j=>x14 j
def byR (r:Nat):Prop:=r=1∨r=2∨r=3∨r=9∨r=11∨r=13∨r=14
structure RkT (w:World) (g m:Nat) (v:World):Prop where
 old:Below g w v
 room:v.there g 0 4611
 lt:g<v.heap.size
 s:∀ j,j<256→v.cell? ⟨g,2+j,none⟩=some (.int .u8 (SB j:Nat))
 u:∀ j,j<256→v.cell? ⟨g,258+j,none⟩=some (.int .u8 (UB j:Nat))
 by':∀ r,byR r→∀ j,j<m→v.cell? ⟨g,514+256*r+j,none⟩=some (.int .u8 (byF r j:Nat))
 wiped:v.cell? ⟨g,4610,none⟩=some (.bool false)
theorem RkT.keep {w v v':World} {g m:Nat} (h:RkT w g m v) (hb:v'.heap[g]?=v.heap[g]?) (ho:Below g w v') (hs:v.heap.size≤v'.heap.size):RkT w g m v':=by
 have hc:∀ j,v'.cell? ⟨g,j,none⟩=v.cell? ⟨g,j,none⟩:=fun j=>World.cell?_of_block (a:=⟨g,j,none⟩) hb
 have hf:∀ j,v'.frozen? ⟨g,j,none⟩=v.frozen? ⟨g,j,none⟩:=fun j=>World.frozen?_of_block (a:=⟨g,j,none⟩) hb
 exact ⟨ho,fun j hj=>by rw[hc,hf];exact h.room j hj,Nat.lt_of_lt_of_le h.lt hs,fun j hj=>(hc _).trans (h.s j hj),fun j hj=>(hc _).trans (h.u j hj),fun r hr j hj=>(hc _).trans (h.by' r hr j hj),(hc _).trans h.wiped⟩
theorem RkT.set {w v:World} {g m:Nat} (h:RkT w g m v) (j:Nat) (x:Value) (hj:j<2):RkT w g m (v.setCell ⟨g,j,none⟩ x):=
 ⟨h.old.setCell (Nat.le_refl _) _,World.there_setCells h.room _ _ [_],by have:=h.lt;simpa [World.setCell] using this,fun i hi=>(Zc _ _ _ _ _ (by omega)).trans (h.s i hi),fun i hi=>(Zc _ _ _ _ _ (by omega)).trans (h.u i hi),fun r hr i hi=>(Zc _ _ _ _ _ (by omega)).trans (h.by' r hr i hi),(Zc _ _ _ _ _ (by omega)).trans h.wiped⟩
def Vs (v:World) (g k:Nat):World:=
 ((((((v.setCell ⟨g,770+k,none⟩ (.int .u8 (k:Nat))).setCell ⟨g,1026+k,none⟩ (.int .u8 (x2 k:Nat))).setCell ⟨g,1282+k,none⟩ (.int .u8 (x3 k:Nat))).setCell ⟨g,2818+k,none⟩ (.int .u8 (x9 k:Nat))).setCell ⟨g,3330+k,none⟩ (.int .u8 (x11 k:Nat))).setCell ⟨g,3842+k,none⟩ (.int .u8 (x13 k:Nat))).setCell ⟨g,4098+k,none⟩ (.int .u8 (x14 k:Nat))
theorem Qs (v:World) (g k j:Nat) (h:j≠770+k∧j≠1026+k∧j≠1282+k∧j≠2818+k∧j≠3330+k∧j≠3842+k∧j≠4098+k):(Vs v g k).cell? ⟨g,j,none⟩=v.cell? ⟨g,j,none⟩:=by
 unfold Vs
 rw[Zc _ _ _ _ _ (by omega),Zc _ _ _ _ _ (by omega),Zc _ _ _ _ _ (by omega),Zc _ _ _ _ _ (by omega),Zc _ _ _ _ _ (by omega),Zc _ _ _ _ _ (by omega),Zc _ _ _ _ _ (by omega)]
theorem Bb {v:World} {g o n:Nat} (k:Nat) (h:v.there g o n):(Vs v g k).there g o n:=
 World.there_setCells (World.there_setCells (World.there_setCells (World.there_setCells (World.there_setCells (World.there_setCells (World.there_setCells h _ _ [_]) _ _ [_]) _ _ [_]) _ _ [_]) _ _ [_]) _ _ [_]) _ _ [_]
theorem Bc {w v:World} {g:Nat} (k:Nat) (h:Below g w v):Below g w (Vs v g k):=
 ((((((h.setCell (Nat.le_refl _) _).setCell (Nat.le_refl _) _).setCell (Nat.le_refl _) _).setCell (Nat.le_refl _) _).setCell (Nat.le_refl _) _).setCell (Nat.le_refl _) _).setCell (Nat.le_refl _) _
theorem Ma (v:World) (g k:Nat):(Vs v g k).heap.size=v.heap.size:=by simp [Vs,World.setCell]
theorem Un {v:World} {g k:Nat} (ht:v.there g 0 4611) (hk:k<256) (r:Nat) (hr:byR r):(Vs v g k).cell? ⟨g,514+256*r+k,none⟩=some (.int .u8 (byF r k:Nat)):=by
 unfold Vs
 rcases hr with rfl | rfl | rfl | rfl | rfl | rfl | rfl
 ·show World.cell? _ ⟨g,770+k,none⟩=_
  rw[Zc _ _ _ _ _ (by omega),Zc _ _ _ _ _ (by omega),Zc _ _ _ _ _ (by omega),Zc _ _ _ _ _ (by omega),Zc _ _ _ _ _ (by omega),Zc _ _ _ _ _ (by omega)]
  exact Y2 _ ht (by omega)
 ·show World.cell? _ ⟨g,1026+k,none⟩=_
  rw[Zc _ _ _ _ _ (by omega),Zc _ _ _ _ _ (by omega),Zc _ _ _ _ _ (by omega),Zc _ _ _ _ _ (by omega),Zc _ _ _ _ _ (by omega)]
  exact Y2 _ (World.there_setCells ht _ _ [_]) (by omega)
 ·show World.cell? _ ⟨g,1282+k,none⟩=_
  rw[Zc _ _ _ _ _ (by omega),Zc _ _ _ _ _ (by omega),Zc _ _ _ _ _ (by omega),Zc _ _ _ _ _ (by omega)]
  exact Y2 _ (World.there_setCells (World.there_setCells ht _ _ [_]) _ _ [_]) (by omega)
 ·show World.cell? _ ⟨g,2818+k,none⟩=_
  rw[Zc _ _ _ _ _ (by omega),Zc _ _ _ _ _ (by omega),Zc _ _ _ _ _ (by omega)]
  exact Y2 _ (World.there_setCells (World.there_setCells (World.there_setCells ht _ _ [_]) _ _ [_]) _ _ [_]) (by omega)
 ·show World.cell? _ ⟨g,3330+k,none⟩=_
  rw[Zc _ _ _ _ _ (by omega),Zc _ _ _ _ _ (by omega)]
  exact Y2 _ (World.there_setCells (World.there_setCells (World.there_setCells (World.there_setCells ht _ _ [_]) _ _ [_]) _ _ [_]) _ _ [_]) (by omega)
 ·show World.cell? _ ⟨g,3842+k,none⟩=_
  rw[Zc _ _ _ _ _ (by omega)]
  exact Y2 _ (World.there_setCells (World.there_setCells (World.there_setCells (World.there_setCells (World.there_setCells ht _ _ [_]) _ _ [_]) _ _ [_]) _ _ [_]) _ _ [_]) (by omega)
 ·show World.cell? _ ⟨g,4098+k,none⟩=_
  exact Y2 _ (World.there_setCells (World.there_setCells (World.there_setCells (World.there_setCells (World.there_setCells (World.there_setCells ht _ _ [_]) _ _ [_]) _ _ [_]) _ _ [_]) _ _ [_]) _ _ [_]) (by omega)
theorem RkT.more {w v:World} {g k:Nat} (h:RkT w g k v) (hk:k<256):RkT w g (k+1) (Vs v g k):=by
 refine ⟨Bc k h.old,Bb k h.room,by rw[Ma];exact h.lt,fun j hj=>(Qs _ _ _ _ (by omega)).trans (h.s j hj),fun j hj=>(Qs _ _ _ _ (by omega)).trans (h.u j hj),fun r hr j hj=>?_,(Qs _ _ _ _ (by omega)).trans h.wiped⟩
 by_cases hjk:j=k
 ·subst hjk;exact Un h.room hk r hr
 ·rw[Qs _ _ _ _ (by rcases hr with rfl | rfl | rfl | rfl | rfl | rfl | rfl<;>omega)]
  exact h.by' r hr j (by omega)
theorem Mz {w:World} {base e sz n g o:Nat} {v x:Value} {xs:List Value} (h:w.ownsRow base e sz v n xs) (hg:g<base):(w.setCell ⟨g,o,none⟩ x).ownsRow base e sz v n xs:=
 h.kept (row:=some g) ⟨rfl,rfl,rfl,by simp [World.setCell],fun k hk hne=>World.heap_setCells_other w g o [x] hk (fun q=>hne (by rw[q]))⟩ (by
  cases hv:v.ownBlock with
  | none=>exact .inl rfl
  | some k=>right;intro q;have:=(h.lt k hv).1;simp at q;omega)
structure Tr (v:World) (tb:Nat) (f:Nat→Nat):Prop where
 lt:tb<v.heap.size
 c:∀ j,j<4→v.cell? ⟨tb,j,none⟩=some (.int .u8 (f j:Nat))
theorem Tr.below {v v':World} {tb:Nat} {f:Nat→Nat} (h:Tr v tb f) (hb:Below v.heap.size v v'):Tr v' tb f:=
 ⟨Nat.lt_of_lt_of_le h.lt hb.size,fun j hj=>(hb.cell (p:=⟨tb,j,none⟩) h.lt).trans (h.c j hj)⟩
theorem Tr.new (v:World) (a b c d:Nat):Tr (v.alloc (.cells #[.int .u8 (a:Nat),.int .u8 (b:Nat),.int .u8 (c:Nat),.int .u8 (d:Nat)] 5)) v.heap.size (fun j=>if j=0 then a else if j=1 then b else if j=2 then c else d):=by
 refine ⟨by simp,fun j hj=>?_⟩
 rw[World.cell?_alloc_at _ 5 _ _ rfl]
 have hm:j=0∨j=1∨j=2∨j=3:=by omega
 rcases hm with rfl | rfl | rfl | rfl<;>rfl
theorem Tr.app {v v1 v2:World} {tb gr g:Nat} {f:Nat→Nat} {x:Value} (h:Tr v tb f) (hb:Below v.heap.size v v1) (hg:v1.grownBy v2 (some gr)) (hne:gr≠tb) (hg2:g≠tb):Tr (v2.setCell ⟨g,1,none⟩ x) tb f:=by
 have h1:=h.below hb
 refine ⟨by have:=Nat.lt_of_lt_of_le h1.lt hg.size;simpa [World.setCell] using this,fun j hj=>?_⟩
 rw[World.cell?_setCell_far _ _ _ _ (by exact hg2)]
 exact (World.cell?_of_block (a:=⟨tb,j,none⟩) (hg.block tb h1.lt (by simp;omega))).trans (h1.c j hj)
def fL (f:Nat→Nat) (m:Nat):List Value:=(List.range m).map fun j=>.int .u8 (f j:Nat)
theorem T6 (f:Nat→Nat) (m:Nat):(fL f m).length=m:=by simp [fL]
theorem T7 (f:Nat→Nat) (m j:Nat) (h:j<m):(fL f m)[j]?=some (.int .u8 (f j:Nat)):=by simp [fL,h]
def fUp (f:Nat→Nat) (m x j:Nat):Nat:=if j=m then x else f j
theorem Zal {f:Nat→Nat} (h:∀ j,f j<256) (m:Nat) {x:Nat} (hx:x<256) (j:Nat):fUp f m x j<256:=by unfold fUp;split;exact hx;exact h j
theorem Zbz (f:Nat→Nat) (m x:Nat):fL (fUp f m x) (m+1)=fL f m++[.int .u8 (x:Nat)]:=by
 unfold fL
 rw[List.range_succ,List.map_append]
 congr 1
 ·apply List.map_congr_left
  intro j hj
  rw[List.mem_range] at hj
  unfold fUp
  rw[if_neg (by omega)]
 ·simp [fUp]
structure RkW (w:World) (g gr c m:Nat) (f:Nat→Nat) (v:World):Prop where
 t:RkT w g 256 v
 r:v.cell? ⟨g,1,none⟩=some (.slice (some ⟨gr,0,none⟩) m c)
 o:v.ownsRow (g+1) 5 1 (.slice (some ⟨gr,0,none⟩) m c) m (fL f m)
 b:∀ j,f j<256
theorem RkW.gr_lt {w v:World} {g gr c m:Nat} {f:Nat→Nat} (h:RkW w g gr c m f v):g<gr∧gr<v.heap.size:=by
 have:=h.o.lt gr rfl
 exact ⟨by omega,this.2⟩
theorem RkW.cell {w v:World} {g gr c m:Nat} {f:Nat→Nat} (h:RkW w g gr c m f v) (j:Nat) (hj:j<m):v.cell? ⟨gr,j,none⟩=some (.int .u8 (f j:Nat)):=by
 rw[h.o.cellAt j (by omega)]
 exact T7 f m j hj
theorem RkW.below {w v v':World} {g gr c m:Nat} {f:Nat→Nat} (h:RkW w g gr c m f v) (hb:Below v.heap.size v v'):RkW w g gr c m f v':=
 ⟨h.t.keep (hb.block g h.t.lt) (h.t.old.trans (hb.mono (Nat.le_of_lt h.t.lt))) hb.size,(hb.cell (p:=⟨g,1,none⟩) h.t.lt).trans h.r,
  h.o.kept (row:=none) ⟨hb.os,hb.tape,hb.output,hb.size,fun k hk _=>hb.block k hk⟩ (by simp [Value.ownBlock]),h.b⟩
theorem RkW.app {w v v1 v2:World} {g gr c m g' c':Nat} {f:Nat→Nat} {x:Nat} (h:RkW w g gr c m f v) (hb:Below v.heap.size v v1) (hx:x<256) (ho:v2.ownsRow (g+1) 5 1 (.slice (some ⟨g',0,none⟩) (m+1) c') (m+1) (fL f m++[.int .u8 (x:Nat)])) (hg:v1.grownBy v2 (some gr)) :
  RkW w g g' c' (m+1) (fUp f m x) (v2.setCell ⟨g,1,none⟩ (.slice (some ⟨g',0,none⟩) (m+1) c')):=by
 have h1:=h.below hb
 have hne:some g≠some gr:=by have:=h.gr_lt;simp;omega
 have hgb:=hg.block g h1.t.lt hne
 have ht:RkT w g 256 v2:=h1.t.keep hgb (h1.t.old.grown hg (Nat.le_of_lt h1.t.lt) (by intro q hq;have:=h.gr_lt;simp at hq;omega)) hg.size
 refine ⟨ht.set 1 _ (by omega),Y2 _ ht.room (by omega),Mz ?_ (Nat.lt_succ_self g),Zal h.b m hx⟩
 rw[Zbz]
 exact ho
theorem On (nk n:Nat) (h:nk=4∨nk=6∨nk=8) (hn:n=4*nk):(n:Int).tdiv 4=(nk:Int)∧(n:Int)/4=(nk:Int)∧IntKind.i64.wrap (nk:Int)=(nk:Int)∧IntKind.i64.wrap ((nk:Int)+7)=((nk+7:Nat):Int)∧IntKind.i64.wrap (4*((nk+7:Nat):Int))=((4*(nk+7):Nat):Int)∧((nk:Int)==0)=false∧(nk:Int)≠0∧¬ nk=0∧16≤n∧n≤32:=by
 refine ⟨?_,by omega,?_,?_,?_,by simp;omega,by omega,by omega,by omega,by omega⟩
 ·rw[Int.tdiv_eq_ediv_of_nonneg (by omega)];omega
 ·rw[IntKind.wrap_i64];omega
 ·rw[IntKind.wrap_i64];omega
 ·rw[IntKind.wrap_i64];omega
theorem RkT.sv {w v:World} {g m:Nat} (h:RkT w g m v) (b:Nat) (hb:b<256):∃ x:Nat,x<256∧v.cell? ⟨g,2+b,none⟩=some (.int .u8 (x:Nat)):=⟨SB b,Xn _,h.s b hb⟩
theorem Zbi (ii:Nat) (h1:4≤ii) (h2:ii≤60):4*((ii:Nat):Int)-4=((4*ii-4:Nat):Int)∧4*((ii:Nat):Int)-3=((4*ii-3:Nat):Int)∧4*((ii:Nat):Int)-2=((4*ii-2:Nat):Int)∧4*((ii:Nat):Int)-1=((4*ii-1:Nat):Int)∧IntKind.i64.wrap ((4*ii-4:Nat):Int)=((4*ii-4:Nat):Int)∧IntKind.i64.wrap ((4*ii-3:Nat):Int)=((4*ii-3:Nat):Int)∧IntKind.i64.wrap ((4*ii-2:Nat):Int)=((4*ii-2:Nat):Int)∧IntKind.i64.wrap ((4*ii-1:Nat):Int)=((4*ii-1:Nat):Int)∧IntKind.i64.wrap (4*((ii:Nat):Int))=4*((ii:Nat):Int)∧IntKind.i64.wrap (((ii:Nat):Int)+1)=((ii+1:Nat):Int):=by
 refine ⟨by omega,by omega,by omega,by omega,?_,?_,?_,?_,?_,?_⟩<;>(rw[IntKind.wrap_i64];omega)
theorem Zbj (ii nk jj:Nat) (h1:nk≤ii) (h2:ii≤60) (h3:jj<4):IntKind.i64.wrap (((ii:Nat):Int)-((nk:Nat):Int))=((ii-nk:Nat):Int)∧IntKind.i64.wrap (4*((ii-nk:Nat):Int))=((4*(ii-nk):Nat):Int)∧((4*(ii-nk):Nat):Int)+((jj:Nat):Int)=((4*(ii-nk)+jj:Nat):Int)∧IntKind.i64.wrap ((4*(ii-nk)+jj:Nat):Int)=((4*(ii-nk)+jj:Nat):Int)∧IntKind.i64.wrap (((jj:Nat):Int)+1)=((jj+1:Nat):Int):=by
 refine ⟨?_,?_,by omega,?_,?_⟩<;>(rw[IntKind.wrap_i64];omega)
theorem Oo (nk n:Nat) (h:nk=4∨nk=6∨nk=8) (hn:n=4*nk):((n:Int) != 16&&(n:Int) != 24&&(n:Int) != 32)=false:=by
 rcases h with rfl | rfl | rfl<;>subst hn<;>decide
end Go.Proofs.YtehlppaidgkpaaaGreatDoor
namespace Go.Proofs.YtehlppaidgkpaaaGreatDoor.Fd
open Go.RowKit Go.Proofs.YtehlppaidgkpaaaGreatDoor.Fld
set_option linter.unusedVariables false
set_option linter.unusedSimpArgs false
set_option maxHeartbeats 1600000 in
set_option maxRecDepth 100000 in
theorem Hq (v:BitVec 128) (w:World):Calls Tryz.prog 24 #[BV v] w fun e w'=>e=.returned (BV (TX v))∧Below w.heap.size w w':=by
 have HA:Hid (Below w.heap.size w ((w.alloc (.cells #[.int .u8 (byV v 0:Nat),.int .u8 (byV v 1:Nat),.int .u8 (byV v 2:Nat),.int .u8 (byV v 3:Nat),.int .u8 (byV v 4:Nat),.int .u8 (byV v 5:Nat),.int .u8 (byV v 6:Nat),.int .u8 (byV v 7:Nat),.int .u8 (byV v 8:Nat),.int .u8 (byV v 9:Nat),.int .u8 (byV v 10:Nat),.int .u8 (byV v 11:Nat),.int .u8 (byV v 12:Nat),.int .u8 (byV v 13:Nat),.int .u8 (byV v 14:Nat),.int .u8 (byV v 15:Nat)] 27)).alloc (.cells #[.int .u8 0,.int .u8 0,.int .u8 0,.int .u8 0,.int .u8 0,.int .u8 0,.int .u8 0,.int .u8 0,.int .u8 0,.int .u8 0,.int .u8 0,.int .u8 0,.int .u8 0,.int .u8 0,.int .u8 0,.int .u8 0] 27))∧((w.alloc (.cells #[.int .u8 (byV v 0:Nat),.int .u8 (byV v 1:Nat),.int .u8 (byV v 2:Nat),.int .u8 (byV v 3:Nat),.int .u8 (byV v 4:Nat),.int .u8 (byV v 5:Nat),.int .u8 (byV v 6:Nat),.int .u8 (byV v 7:Nat),.int .u8 (byV v 8:Nat),.int .u8 (byV v 9:Nat),.int .u8 (byV v 10:Nat),.int .u8 (byV v 11:Nat),.int .u8 (byV v 12:Nat),.int .u8 (byV v 13:Nat),.int .u8 (byV v 14:Nat),.int .u8 (byV v 15:Nat)] 27)).alloc (.cells #[.int .u8 0,.int .u8 0,.int .u8 0,.int .u8 0,.int .u8 0,.int .u8 0,.int .u8 0,.int .u8 0,.int .u8 0,.int .u8 0,.int .u8 0,.int .u8 0,.int .u8 0,.int .u8 0,.int .u8 0,.int .u8 0] 27)).rangeAt w.heap.size 0 (BL v)∧((w.alloc (.cells #[.int .u8 (byV v 0:Nat),.int .u8 (byV v 1:Nat),.int .u8 (byV v 2:Nat),.int .u8 (byV v 3:Nat),.int .u8 (byV v 4:Nat),.int .u8 (byV v 5:Nat),.int .u8 (byV v 6:Nat),.int .u8 (byV v 7:Nat),.int .u8 (byV v 8:Nat),.int .u8 (byV v 9:Nat),.int .u8 (byV v 10:Nat),.int .u8 (byV v 11:Nat),.int .u8 (byV v 12:Nat),.int .u8 (byV v 13:Nat),.int .u8 (byV v 14:Nat),.int .u8 (byV v 15:Nat)] 27)).alloc (.cells #[.int .u8 0,.int .u8 0,.int .u8 0,.int .u8 0,.int .u8 0,.int .u8 0,.int .u8 0,.int .u8 0,.int .u8 0,.int .u8 0,.int .u8 0,.int .u8 0,.int .u8 0,.int .u8 0,.int .u8 0,.int .u8 0] 27)).there (w.heap.size+1) 0 16∧((w.alloc (.cells #[.int .u8 (byV v 0:Nat),.int .u8 (byV v 1:Nat),.int .u8 (byV v 2:Nat),.int .u8 (byV v 3:Nat),.int .u8 (byV v 4:Nat),.int .u8 (byV v 5:Nat),.int .u8 (byV v 6:Nat),.int .u8 (byV v 7:Nat),.int .u8 (byV v 8:Nat),.int .u8 (byV v 9:Nat),.int .u8 (byV v 10:Nat),.int .u8 (byV v 11:Nat),.int .u8 (byV v 12:Nat),.int .u8 (byV v 13:Nat),.int .u8 (byV v 14:Nat),.int .u8 (byV v 15:Nat)] 27)).alloc (.cells #[.int .u8 0,.int .u8 0,.int .u8 0,.int .u8 0,.int .u8 0,.int .u8 0,.int .u8 0,.int .u8 0,.int .u8 0,.int .u8 0,.int .u8 0,.int .u8 0,.int .u8 0,.int .u8 0,.int .u8 0,.int .u8 0] 27)).heap.size=w.heap.size+2):=by
  refine ⟨D8 w _ _,Y4 (Zy w #[.int .u8 (byV v 0:Nat),.int .u8 (byV v 1:Nat),.int .u8 (byV v 2:Nat),.int .u8 (byV v 3:Nat),.int .u8 (byV v 4:Nat),.int .u8 (byV v 5:Nat),.int .u8 (byV v 6:Nat),.int .u8 (byV v 7:Nat),.int .u8 (byV v 8:Nat),.int .u8 (byV v 9:Nat),.int .u8 (byV v 10:Nat),.int .u8 (byV v 11:Nat),.int .u8 (byV v 12:Nat),.int .u8 (byV v 13:Nat),.int .u8 (byV v 14:Nat),.int .u8 (byV v 15:Nat)] 27) ((Below.refl _ _).alloc (Nat.le_refl _) _) (by simp),?_,by simp⟩
  have h:=Zi (w.alloc (.cells #[.int .u8 (byV v 0:Nat),.int .u8 (byV v 1:Nat),.int .u8 (byV v 2:Nat),.int .u8 (byV v 3:Nat),.int .u8 (byV v 4:Nat),.int .u8 (byV v 5:Nat),.int .u8 (byV v 6:Nat),.int .u8 (byV v 7:Nat),.int .u8 (byV v 8:Nat),.int .u8 (byV v 9:Nat),.int .u8 (byV v 10:Nat),.int .u8 (byV v 11:Nat),.int .u8 (byV v 12:Nat),.int .u8 (byV v 13:Nat),.int .u8 (byV v 14:Nat),.int .u8 (byV v 15:Nat)] 27)) #[.int .u8 0,.int .u8 0,.int .u8 0,.int .u8 0,.int .u8 0,.int .u8 0,.int .u8 0,.int .u8 0,.int .u8 0,.int .u8 0,.int .u8 0,.int .u8 0,.int .u8 0,.int .u8 0,.int .u8 0,.int .u8 0] 27 16 (Nat.le_refl _)
  simpa using h
 have KP:Hid (∀ u,Calls Tryz.prog 36 #[.agg (BL v).toArray] u fun e w'=>e=.returned (.agg (PL v).toArray)∧Below u.heap.size u w'):=fun u=>F6 v u
 have KX:Hid (∀ u,Calls Tryz.prog 37 #[.agg (PL v).toArray] u fun e w'=>e=.returned (.agg (PL (TX v)).toArray)∧Below u.heap.size u w'):=fun u=>Lm v u
 have KL:Hid (∀ u,Calls Tryz.prog 38 #[.int .u64 (hiV (TX v):Nat),.int .u64 (loV (TX v):Nat)] u fun e w'=>e=.returned (.agg (BL (TX v)).toArray)∧Below u.heap.size u w'):=fun u=>Wb (TX v) u
 show Calls Tryz.prog 24 #[.agg #[.int .u8 (byV v 0:Nat),.int .u8 (byV v 1:Nat),.int .u8 (byV v 2:Nat),.int .u8 (byV v 3:Nat),.int .u8 (byV v 4:Nat),.int .u8 (byV v 5:Nat),.int .u8 (byV v 6:Nat),.int .u8 (byV v 7:Nat),.int .u8 (byV v 8:Nat),.int .u8 (byV v 9:Nat),.int .u8 (byV v 10:Nat),.int .u8 (byV v 11:Nat),.int .u8 (byV v 12:Nat),.int .u8 (byV v 13:Nat),.int .u8 (byV v 14:Nat),.int .u8 (byV v 15:Nat)]] w _
 go_enter Tryz.func24,Tryz.ntmps24
 go_upto_region 1 with fail
 generalize (w.alloc (.cells #[.int .u8 (byV v 0:Nat),.int .u8 (byV v 1:Nat),.int .u8 (byV v 2:Nat),.int .u8 (byV v 3:Nat),.int .u8 (byV v 4:Nat),.int .u8 (byV v 5:Nat),.int .u8 (byV v 6:Nat),.int .u8 (byV v 7:Nat),.int .u8 (byV v 8:Nat),.int .u8 (byV v 9:Nat),.int .u8 (byV v 10:Nat),.int .u8 (byV v 11:Nat),.int .u8 (byV v 12:Nat),.int .u8 (byV v 13:Nat),.int .u8 (byV v 14:Nat),.int .u8 (byV v 15:Nat)] 27)).alloc (.cells #[.int .u8 0,.int .u8 0,.int .u8 0,.int .u8 0,.int .u8 0,.int .u8 0,.int .u8 0,.int .u8 0,.int .u8 0,.int .u8 0,.int .u8 0,.int .u8 0,.int .u8 0,.int .u8 0,.int .u8 0,.int .u8 0] 27)=w2 at HA ⊢
 obtain ⟨L,HL⟩:∃ L,Hid (L=BL v):=⟨_,rfl⟩
 obtain ⟨P0,HP0⟩:∃ L,Hid (L=PL v):=⟨_,rfl⟩
 obtain ⟨P1,HP1⟩:∃ L,Hid (L=PL (TX v)):=⟨_,rfl⟩
 obtain ⟨LR,HLR⟩:∃ L,Hid (L=BL (TX v)):=⟨_,rfl⟩
 obtain ⟨hi,HH⟩:∃ x,Hid (x=hiV (TX v)):=⟨_,rfl⟩
 obtain ⟨lo,HLo⟩:∃ x,Hid (x=loV (TX v)):=⟨_,rfl⟩
 rw[←HL.out] at HA
 rw[←HL.out,←HP0.out] at KP
 rw[←HP0.out,←HP1.out] at KX
 rw[←HH.out,←HLo.out,←HLR.out] at KL
 have HLl:Hid (L.length=16):=by show _=_;rw[HL.out];rfl
 have hlp:Hid (P1.length=2):=by show _=_;rw[HP1.out];rfl
 have hop:Hid (P1.toArray.all (·.oneCell')=true):=by show _=_;rw[HP1.out];kernel_rfl
 have hlr:Hid (LR.length=16):=by show _=_;rw[HLR.out];rfl
 have hor:Hid (LR.toArray.all (·.oneCell')=true):=by show _=_;rw[HLR.out];exact Wi _
 go_wp2_with (first
  | (refine wpList_load_mid (by rfl) 27 (.tmp 1) (by rfl) w.heap.size 0 (by rfl) L _ HA.out.2.1 Tryz.underlying27 rfl (by rw[HLl.out];exact Xc) ?_)
  | (go_at_call 36;refine (KP.out _).mono ?_;rintro e w3 ⟨rfl,hb3⟩)
  | (go_at_call 37;refine (KX.out _).mono ?_))
 rintro e w4 ⟨rfl,hb4⟩
 have H4:Hid (Below w.heap.size w w4∧w4.there (w.heap.size+1) 0 16∧w.heap.size+2≤w4.heap.size):=by
  obtain ⟨p1,p2,p3,p4⟩:=HA.out
  have h3:=p1.trans (hb3.mono p1.size)
  have z3:=hb3.size
  have z4:=hb4.size
  exact ⟨h3.trans (hb4.mono h3.size),Zq (Zq p3 hb3 (by omega)) hb4 (by omega),by omega⟩
 clear hb3 hb4 KP KX
 have hTN:(w4.alloc (.cells #[.int .u64 0,.int .u64 0] 82)).there w4.heap.size 0 P1.length:=by rw[hlp.out];exact Zi w4 _ 82 2 (Nat.le_refl _)
 go_upto_region 2 with (first
  | (refine wpList_store_mid (by rfl) 82 (.tmp 3) (.tmp 6) (by rfl) w4.heap.size 0 P1.toArray (by rfl) (by rfl) (by simpa using hTN) (by rw[List.size_toArray,hlp.out];exact De) hop.out ?_))
 have H5:Hid (Below w.heap.size w ((w4.alloc (.cells #[.int .u64 0,.int .u64 0] 82)).setCells w4.heap.size 0 P1)∧((w4.alloc (.cells #[.int .u64 0,.int .u64 0] 82)).setCells w4.heap.size 0 P1).there (w.heap.size+1) 0 16∧((w4.alloc (.cells #[.int .u64 0,.int .u64 0] 82)).setCells w4.heap.size 0 P1).cell? ⟨w4.heap.size,0,none⟩=some (.int .u64 (hi:Nat))∧((w4.alloc (.cells #[.int .u64 0,.int .u64 0] 82)).setCells w4.heap.size 0 P1).cell? ⟨w4.heap.size,1,none⟩=some (.int .u64 (lo:Nat))∧w.heap.size+2≤((w4.alloc (.cells #[.int .u64 0,.int .u64 0] 82)).setCells w4.heap.size 0 P1).heap.size):=by
  obtain ⟨p1,p2,p3⟩:=H4.out
  have q:=World.rangeAt_setCells_same _ _ _ _ hTN
  have hP:P1=[.int .u64 (hi:Nat),.int .u64 (lo:Nat)]:=by rw[HP1.out,HH.out,HLo.out];rfl
  refine ⟨Zk _ p1.size _ _ _ (p1.alloc p1.size _),World.there_setCells (Zq p2 ((Below.refl w4.heap.size w4).alloc (Nat.le_refl _) _) (by omega)) _ _ _,q 0 _ (by rw[hP];rfl),q 1 _ (by rw[hP];rfl),by rw[size_setCells];simp;omega⟩
 generalize (w4.alloc (.cells #[.int .u64 0,.int .u64 0] 82)).setCells w4.heap.size 0 P1=w5 at H5 ⊢
 generalize w4.heap.size=C at H5 ⊢
 clear hTN H4
 have c0:=H5.out.2.2.1
 have c1:=H5.out.2.2.2.1
 go_wp2_with (first | (go_at_call 38;refine (KL.out _).mono ?_))
 rintro e w6 ⟨rfl,hb6⟩
 have HW:Hid (w6.there (w.heap.size+1) 0 LR.length∧Below w.heap.size w w6):=by
  obtain ⟨p1,p2,p3,p4,p5⟩:=H5.out
  exact ⟨by rw[hlr.out];exact Zq p2 hb6 (by omega),p1.trans (hb6.mono (by omega))⟩
 clear hb6 KL c0 c1
 have hTH:=HW.out.1
 go_wp2_with (first
  | (refine wpList_store_mid (by rfl) 27 (.tmp 2) (.tmp 11) (by rfl) (w.heap.size+1) 0 LR.toArray (by rfl) (by rfl) (by simpa using hTH) (by rw[List.size_toArray,hlr.out];exact Xc) hor.out ?_))
 refine Yf LR Tryz.results24 rfl (World.rangeAt_setCells_same _ _ _ _ hTH) Tryz.underlying27 rfl (by rw[hlr.out];exact Xc) ⟨?_,Zk _ (by omega) _ _ _ HW.out.2⟩
 rw[HLR.out]
 rfl
end Go.Proofs.YtehlppaidgkpaaaGreatDoor.Fd
