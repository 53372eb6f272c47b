import Derived.Test.YtehlppaidgkpaaaGreatDoorPart40
import Derived.OwnWalk
import Derived.Laws.OwnMore
namespace Go.Proofs.YtehlppaidgkpaaaGreatDoor
open Go.RowKit
set_option linter.unusedVariables false
set_option linter.unusedSimpArgs false
def ftZ (bs:List Int) (i:Nat):Int:=if bs=[] then ((i*i%256:Nat):Int) else bs.getD (i%bs.length) 0
def ftL (bs:List Int) (m:Nat):List Int:=(List.range m).map (ftZ bs)
theorem Zaq (bs:List Int) (m:Nat):(ftL bs m).length=m:=by simp [ftL]
theorem Em (bs:List Int) (m:Nat):ftL bs (m+1)=ftL bs m++[ftZ bs m]:=by simp [ftL,List.range_succ]
theorem Tn {bs : List Int} (h : Zg bs) (m : Nat) : Zg (ftL bs m) := fun i => by
  rw [List.getD_eq_getElem?_getD, ftL, List.getElem?_map]
  cases (List.range m)[i]? with
  | none => simp
  | some q =>
    simp only [Option.map_some, Option.getD_some, ftZ]
    split
    · omega
    · exact h _
structure FtI (w:World) (bs:List Int) (wr:World) (v:Value) (k:Nat):Prop where
 own:wr.ownsRow w.heap.size 5 1 v k (Za (ftL bs k))
 bel:Below w.heap.size w wr
theorem FtI.step {w:World} {bs:List Int} {wr w2:World} {v v2:Value} {k:Nat} {z:Int} (h:FtI w bs wr v k) (o:Obj) (hz:ftZ bs k=z) (ho:w2.ownsRow w.heap.size 5 1 v2 (k+1) (Za (ftL bs k)++[.int .u8 z])) (hg:(wr.alloc o).grownBy w2 v.ownBlock):FtI w bs w2 v2 (k+1):=by
 have hb:Below w.heap.size wr w2:=((Below.refl w.heap.size wr).alloc h.bel.size o).grown hg (by have:=h.bel.size;simp;omega) (fun q hq=>(Z2 h.own hq).1)
 refine ⟨?_,h.bel.trans hb⟩
 rw[Em,hz,Xm]
 exact ho
def ftN (n:Int) (whole:Bool):Nat:=let s:=16+(IntKind.u64.wrap n%497).toNat;if whole then s/16*16 else s
theorem Zc2 (x:Int) (s:Nat) (h0:0≤x) (hs:x%497=(s:Int)):s<497∧x.tmod 497=(s:Int)∧IntKind.i64.wrap (s:Int)=(s:Int)∧IntKind.i64.wrap (16+(s:Int))=16+(s:Int)∧wrap64 (16+(s:Int))=16+(s:Int)∧(16+(s:Int)).tdiv 16=(((16+s)/16:Nat):Int)∧IntKind.i64.wrap (((16+s)/16:Nat):Int)=(((16+s)/16:Nat):Int)∧IntKind.i64.wrap ((((16+s)/16:Nat):Int)*16)=(((16+s)/16*16:Nat):Int)∧(16+s)/16*16≤512:=by
 have h1:s<497:=by omega
 refine ⟨h1,?_,?_,?_,?_,?_,?_,?_,by omega⟩
 ·rw[Int.tmod_eq_emod_of_nonneg h0];exact hs
 ·rw[IntKind.wrap_i64];omega
 ·rw[IntKind.wrap_i64];omega
 ·unfold wrap64;omega
 ·rw[Int.tdiv_eq_ediv_of_nonneg (by omega)];omega
 ·rw[IntKind.wrap_i64];omega
 ·rw[IntKind.wrap_i64];omega
theorem Zbn (k:Nat) (hk:k≤600):IntKind.i64.wrap ((k:Int)*(k:Int))=(k:Int)*(k:Int)∧IntKind.u8.wrap ((k:Int)*(k:Int))=((k*k%256:Nat):Int):=by
 have h:k*k≤600*600:=Nat.mul_le_mul hk hk
 obtain ⟨m,hm⟩:∃ m,k*k=m:=⟨_,rfl⟩
 have e:(k:Int)*(k:Int)=(m:Int):=by rw[←hm];simp
 rw[hm] at h
 rw[e,hm,IntKind.wrap_i64,IntKind.wrap_u8]
 clear e hm hk
 constructor<;>omega
set_option maxHeartbeats 1600000 in
set_option maxRecDepth 100000 in
theorem Zc6 (v:Value) (bs:List Int) (nn:Int) (wh:Bool) (w:World) (hv:Zi w v bs) :
  Calls Tryz.prog 11 #[v,.int .i64 nn,.bool wh] w fun e w'=>Hid (∃ y d,e=.returned (.slice y (ftN nn wh) d)∧w'.ownsRow w.heap.size 5 1 (.slice y (ftN nn wh) d) (ftN nn wh) (Za (ftL bs (ftN nn wh)))∧Below w.heap.size w w'):=by
 obtain ⟨i0,hi,hz0,hz1,hz2⟩:=info_parts Tryz.info5
 have HI0:Hid (Tryz.prog.info? 5=some i0∧i0.zero=some (.int .u8 0)∧i0.size=1∧i0.bytes=1):=⟨hi,hz0,hz1,hz2⟩
 clear hi hz0 hz1 hz2
 obtain ⟨x,hxx⟩:∃ x,IntKind.u64.wrap nn=x:=⟨_,rfl⟩
 have hx0:0≤x:=by rw[←hxx];unfold IntKind.wrap;simp [IntKind.signed,IntKind.bits];omega
 obtain ⟨s,hs⟩:∃ s:Nat,x%497=(s:Int):=⟨(x%497).toNat,by omega⟩
 obtain ⟨hs1,htm,es,e16,w16,hq,eq1,eq2,hle⟩:=Zc2 x s hx0 hs
 have HSZ:Hid (ftN nn wh=if wh then (16+s)/16*16 else 16+s):=by unfold ftN;rw[hxx,hs];rfl
 have e497:IntKind.u64.wrap 497=497:=by decide
 obtain ⟨a,c,rfl,h1,h2,h3,h4⟩:=hv
 obtain ⟨n,HNL⟩:∃ n,Hid (bs.length=n):=⟨_,rfl⟩
 rw[HNL.out] at h1 ⊢
 have HCC:Hid (bs=[]∨∃ b off,a=some ⟨b,off,none⟩∧∀ i,i<bs.length→w.cell? ⟨b,off+i,none⟩=some (.int .u8 (bs.getD i 0))):=h4
 clear h1 h2 h3 h4 hs hx0
 obtain ⟨kz,HKZ⟩:∃ kz,Hid (ftN nn wh=kz):=⟨_,rfl⟩
 have hkz:kz≤600:=by rw[←HKZ.out,HSZ.out];split<;>omega
 rw[HKZ.out] at HSZ ⊢
 cases wh
 ·go_enter Tryz.func11,Tryz.ntmps11
  go_upto_region 2 with fail
  have hkk:(16:Int)+(s:Int)=(kz:Int):=by have:=HSZ.out;simp at this;omega
  rw[hkk]
  clear hkk
  go_upto_region 6 with fail
  go_loopw [8,9] (fun v vi wr=>∃ k:Nat,vi=.int .i64 (k:Nat)∧k≤kz∧Hid (FtI w bs wr v k)) (fun _ vi _=>kz-(intOf vi).toNat)
  case atStart=>exact ⟨0,rfl,by omega,World.ownsRow_nil _ _ _ _,Below.refl _ _⟩
  case round=>
   obtain ⟨k,rfl,hk,HR⟩:=hrel
   by_cases hlt:k<kz
   ·have g1:(k:Int)<(kz:Int):=by omega
    have HLM:Hid (w.heap.size≤wr.heap.size):=HR.out.bel.size
    by_cases hb0:bs=[]
    ·have HB0:Hid (bs=[]):=hb0
     have hn0:n=0:=by have:=HNL.out;rw[hb0] at this;simpa using this.symm
     clear hb0
     subst hn0
     obtain ⟨z,HZ⟩:∃ z:Int,Hid (z=((k*k%256:Nat):Int)):=⟨_,rfl⟩
     obtain ⟨hw7,hz⟩:=Zbn k (by omega)
     rw[←HZ.out] at hz
     go_wp2_with (first
      | (at_builtin;go_must (refine wpList_append_own _ rfl (.tmp 27) (.tmp 32) 22 rfl w.heap.size 5 i0 (.int .u8 0) 1 1 Tryz.underlying22 HI0.out.1 HI0.out.2.1 HI0.out.2.2.1 HI0.out.2.2.2 rfl (by decide) _ _ _ rfl (HR.out.own.alloc _) ⟨wr.heap.size,0,none⟩ 1 1 [.int .u8 z] rfl rfl (one_cell wr _ 5) (Ws z) (by unfold maxLen;omega) (by omega) (by have:=HLM.out;simp;omega) ?_;intro v2 w2 hown hgrow hnil;have HX:Hid (FtI w bs w2 v2 (k+1)):=HR.out.step _ (by rw[ftZ,if_pos HB0.out,HZ.out]) hown hgrow;clear hown hgrow hnil)))
     exact ⟨⟨k+1,by simp,by omega,HX⟩,by simp [intOf];omega⟩
    ·obtain ⟨b,off,rfl,hcell⟩:=HCC.out.resolve_left hb0
     have HB0:Hid (bs≠[]):=hb0
     have hn1:0<n:=by have:=HNL.out;cases bs with | nil=>exact absurd rfl hb0 | cons _ _=>simp at this;omega
     clear hb0
     obtain ⟨q,HQ⟩:∃ q:Nat,Hid (q=k%n):=⟨_,rfl⟩
     have hqn:q<n:=by rw[HQ.out];exact Nat.mod_lt _ hn1
     obtain ⟨z,HZ⟩:∃ z:Int,Hid (bs.getD q 0=z):=⟨_,rfl⟩
     have HCL:Hid (∀ u:World,Below w.heap.size w u→u.cell? ⟨b,off+q,none⟩=some (.int .u8 z)):=fun u hu=>by
      have p:=hcell q (by rw[HNL.out];exact hqn)
      rw[hu.cell (World.block_lt_of_cell? w _ p),p,HZ.out]
     have c1:=HCL.out wr HR.out.bel
     clear hcell
     have hmod:(k:Int).tmod (n:Int)=(q:Int):=by rw[HQ.out,Int.tmod_eq_emod_of_nonneg (Int.natCast_nonneg _)];rfl
     have hne:((n:Int)==0)=false:=by simp;omega
     have hn2:(n:Int)≠0:=by omega
     have k0:(0:Int)≤(q:Int):=by omega
     have k1:(q:Int)<(n:Int):=by omega
     have hn3:¬ n=0:=by omega
     go_wp2_with (first
      | (at_builtin;go_must (refine wpList_append_own _ rfl (.tmp 34) (.tmp 42) 22 rfl w.heap.size 5 i0 (.int .u8 0) 1 1 Tryz.underlying22 HI0.out.1 HI0.out.2.1 HI0.out.2.2.1 HI0.out.2.2.2 rfl (by decide) _ _ _ rfl (HR.out.own.alloc _) ⟨wr.heap.size,0,none⟩ 1 1 [.int .u8 z] rfl rfl (one_cell wr _ 5) (Ws z) (by unfold maxLen;omega) (by omega) (by have:=HLM.out;simp;omega) ?_;intro v2 w2 hown hgrow hnil;have HX:Hid (FtI w bs w2 v2 (k+1)):=HR.out.step _ (by rw[ftZ,if_neg HB0.out,HNL.out,←HQ.out,HZ.out]) hown hgrow;clear hown hgrow hnil)))
     exact ⟨⟨k+1,by simp,by omega,HX⟩,by simp [intOf];omega⟩
   ·have g1:¬ (k:Int)<(kz:Int):=by omega
    have HF:Hid (wr.ownsRow w.heap.size 5 1 u8 kz (Za (ftL bs kz))∧Below w.heap.size w wr):=by
     obtain ⟨p1,p3⟩:=HR.out
     rw[show k=kz by omega] at p1
     exact ⟨p1,p3⟩
    clear HR
    have hk0:0<kz:=by have:=HSZ.out;first | (simp at this;omega) | omega
    obtain ⟨xg,xc,rfl⟩:∃ g c,u8=.slice (some ⟨g,0,none⟩) kz c:=by
     rcases HF.out.1.2 with ⟨_,q⟩ | ⟨g,c,_,q,_⟩
     ·omega
     ·exact ⟨g,c,q⟩
    go_wp2
    go_ret
    exact ⟨_,xc,rfl,HF.out.1,HF.out.2⟩
 ·go_enter Tryz.func11,Tryz.ntmps11
  go_upto_region 4 with fail
  have hkk:((s:Int)/16+1)*16=(kz:Int):=by have:=HSZ.out;simp at this;omega
  rw[hkk]
  clear hkk
  go_upto_region 6 with fail
  go_loopw [8,9] (fun v vi wr=>∃ k:Nat,vi=.int .i64 (k:Nat)∧k≤kz∧Hid (FtI w bs wr v k)) (fun _ vi _=>kz-(intOf vi).toNat)
  case atStart=>exact ⟨0,rfl,by omega,World.ownsRow_nil _ _ _ _,Below.refl _ _⟩
  case round=>
   obtain ⟨k,rfl,hk,HR⟩:=hrel
   by_cases hlt:k<kz
   ·have g1:(k:Int)<(kz:Int):=by omega
    have HLM:Hid (w.heap.size≤wr.heap.size):=HR.out.bel.size
    by_cases hb0:bs=[]
    ·have HB0:Hid (bs=[]):=hb0
     have hn0:n=0:=by have:=HNL.out;rw[hb0] at this;simpa using this.symm
     clear hb0
     subst hn0
     obtain ⟨z,HZ⟩:∃ z:Int,Hid (z=((k*k%256:Nat):Int)):=⟨_,rfl⟩
     obtain ⟨hw7,hz⟩:=Zbn k (by omega)
     rw[←HZ.out] at hz
     go_wp2_with (first
      | (at_builtin;go_must (refine wpList_append_own _ rfl (.tmp 27) (.tmp 32) 22 rfl w.heap.size 5 i0 (.int .u8 0) 1 1 Tryz.underlying22 HI0.out.1 HI0.out.2.1 HI0.out.2.2.1 HI0.out.2.2.2 rfl (by decide) _ _ _ rfl (HR.out.own.alloc _) ⟨wr.heap.size,0,none⟩ 1 1 [.int .u8 z] rfl rfl (one_cell wr _ 5) (Ws z) (by unfold maxLen;omega) (by omega) (by have:=HLM.out;simp;omega) ?_;intro v2 w2 hown hgrow hnil;have HX:Hid (FtI w bs w2 v2 (k+1)):=HR.out.step _ (by rw[ftZ,if_pos HB0.out,HZ.out]) hown hgrow;clear hown hgrow hnil)))
     exact ⟨⟨k+1,by simp,by omega,HX⟩,by simp [intOf];omega⟩
    ·obtain ⟨b,off,rfl,hcell⟩:=HCC.out.resolve_left hb0
     have HB0:Hid (bs≠[]):=hb0
     have hn1:0<n:=by have:=HNL.out;cases bs with | nil=>exact absurd rfl hb0 | cons _ _=>simp at this;omega
     clear hb0
     obtain ⟨q,HQ⟩:∃ q:Nat,Hid (q=k%n):=⟨_,rfl⟩
     have hqn:q<n:=by rw[HQ.out];exact Nat.mod_lt _ hn1
     obtain ⟨z,HZ⟩:∃ z:Int,Hid (bs.getD q 0=z):=⟨_,rfl⟩
     have HCL:Hid (∀ u:World,Below w.heap.size w u→u.cell? ⟨b,off+q,none⟩=some (.int .u8 z)):=fun u hu=>by
      have p:=hcell q (by rw[HNL.out];exact hqn)
      rw[hu.cell (World.block_lt_of_cell? w _ p),p,HZ.out]
     have c1:=HCL.out wr HR.out.bel
     clear hcell
     have hmod:(k:Int).tmod (n:Int)=(q:Int):=by rw[HQ.out,Int.tmod_eq_emod_of_nonneg (Int.natCast_nonneg _)];rfl
     have hne:((n:Int)==0)=false:=by simp;omega
     have hn2:(n:Int)≠0:=by omega
     have k0:(0:Int)≤(q:Int):=by omega
     have k1:(q:Int)<(n:Int):=by omega
     have hn3:¬ n=0:=by omega
     go_wp2_with (first
      | (at_builtin;go_must (refine wpList_append_own _ rfl (.tmp 34) (.tmp 42) 22 rfl w.heap.size 5 i0 (.int .u8 0) 1 1 Tryz.underlying22 HI0.out.1 HI0.out.2.1 HI0.out.2.2.1 HI0.out.2.2.2 rfl (by decide) _ _ _ rfl (HR.out.own.alloc _) ⟨wr.heap.size,0,none⟩ 1 1 [.int .u8 z] rfl rfl (one_cell wr _ 5) (Ws z) (by unfold maxLen;omega) (by omega) (by have:=HLM.out;simp;omega) ?_;intro v2 w2 hown hgrow hnil;have HX:Hid (FtI w bs w2 v2 (k+1)):=HR.out.step _ (by rw[ftZ,if_neg HB0.out,HNL.out,←HQ.out,HZ.out]) hown hgrow;clear hown hgrow hnil)))
     exact ⟨⟨k+1,by simp,by omega,HX⟩,by simp [intOf];omega⟩
   ·have g1:¬ (k:Int)<(kz:Int):=by omega
    have HF:Hid (wr.ownsRow w.heap.size 5 1 u8 kz (Za (ftL bs kz))∧Below w.heap.size w wr):=by
     obtain ⟨p1,p3⟩:=HR.out
     rw[show k=kz by omega] at p1
     exact ⟨p1,p3⟩
    clear HR
    have hk0:0<kz:=by have:=HSZ.out;first | (simp at this;omega) | omega
    obtain ⟨xg,xc,rfl⟩:∃ g c,u8=.slice (some ⟨g,0,none⟩) kz c:=by
     rcases HF.out.1.2 with ⟨_,q⟩ | ⟨g,c,_,q,_⟩
     ·omega
     ·exact ⟨g,c,q⟩
    go_wp2
    go_ret
    exact ⟨_,xc,rfl,HF.out.1,HF.out.2⟩
def Zfc (Ψ:Nat→Nat→World→Prop):Prop:=∀ A c u u',Ψ A c u→(∀ b,A≤b→b<u.heap.size→u'.heap[b]?=u.heap[b]?)→u.heap.size≤u'.heap.size→Ψ A c u'
def I0 (w:World) (Ψ:Nat→Nat→World→Prop) (e:Ending) (w':World):Prop:=
 ∃ c,e=.returned (.tuple #[.pointer (some ⟨c,0,none⟩),.int .i64 0])∧Ψ w.heap.size c w'∧Below w.heap.size w w'
def I1 (w:World) (Ψ:Nat→Nat→World→Prop) (e:Ending) (w':World):Prop:=
 ∃ A c r,e=.returned (.tuple #[.pointer (some ⟨c,0,none⟩),.pointer (some ⟨r,0,none⟩),.bool true])∧w.heap.size≤A∧Ψ A c w'∧Below w.heap.size w w'
set_option maxHeartbeats 3200000 in
set_option maxRecDepth 100000 in
theorem P3 (nm:Int) (j:Nat) (v:Value) (bs:List Int) (w:World) (G o cp:Nat) (Ψ:Nat→Nat→World→Prop) (hΨ:Hid (Zfc Ψ)) (hD:Vo w G o cp) (hj:j<52) (hc:IntKind.u64.wrap nm%52=(j:Int)) (hv:Zi w v bs)
  (H21:Hid (∀ u x,Below w.heap.size w u→Zi u x (kyL bs (kyN j))→Calls Tryz.prog 26 #[.string (spN j),x] u fun e u'=>I0 u Ψ e u'))
  (H22:Hid (∀ u x,Below w.heap.size w u→Zi u x (kyL bs (kyN j))→Calls Tryz.prog 28 #[.string (spN j),x] u fun e u'=>RnP u e u')) :
  Calls Tryz.prog 10 #[.agg #[.int .i64 nm,v]] w fun e w'=>I1 w Ψ e w':=by
 obtain ⟨M,T,aa,hrow⟩:=Rs j hj
 have hky:kyN j≤1000:=by
  rcases Vx j hj with rfl | ⟨i,k,hi,hk,rfl⟩
  ·decide
  ·rw[V8 i k hk]
   have:mK k*(16+8*i)≤2*32:=Nat.mul_le_mul (R6 k) (by omega)
   have:=R5 k
   omega
 obtain ⟨zs,HZS⟩:∃ zs,Hid (kyL bs (kyN j)=zs):=⟨_,rfl⟩
 obtain ⟨S,HSS⟩:∃ S,Hid (spN j=S):=⟨_,rfl⟩
 have hlz:zs.length=kyN j:=by rw[←HZS.out,Jw]
 obtain ⟨kz,HKZ⟩:∃ kz,Hid (kyN j=kz):=⟨_,rfl⟩
 have H52:Hid (∀ u,Below w.heap.size w u→Calls Tryz.prog 27 #[.agg #[.int .i64 nm,v]] u fun e u'=>Hid (e=.returned (.agg #[.string S,.string M,.string T,.int .i64 aa,.int .i64 (kz:Nat)])∧Below u.heap.size u u')):=fun u hu=>by
  obtain ⟨va,vc,rfl,_⟩:=id hv
  have q:=Rx nm j va bs.length vc u G o cp (hD.below hu) hj hc
  rw[hrow,HSS.out,HKZ.out] at q
  exact q
 have H35:Hid (∀ u,Below w.heap.size w u→Calls Tryz.prog 18 #[.agg #[.int .i64 nm,v]] u fun e u'=>Hid (∃ y d,e=.returned (.slice y kz d)∧Zi u' (.slice y kz d) zs∧Below u.heap.size u u')):=fun u hu=>by
  have q:=O7 nm j v bs u G o cp (hD.below hu) hj hc (hv.below hu)
  rw[HZS.out,HKZ.out] at q
  exact q
 rw[HZS.out,HSS.out] at H21 H22
 rw[HKZ.out] at hlz hky
 obtain ⟨va,vn,vc,rfl⟩:∃ a n c,v=.slice a n c:=by obtain ⟨a,c,e,_⟩:=hv;exact ⟨_,_,_,e⟩
 have HLZ:Hid (zs.length=kz∧kz≤1000):=⟨hlz,hky⟩
 have hf0:=fun u=>Zda S M T aa (kz:Nat) u
 clear hD hj hc hv hrow hky hlz
 obtain ⟨w1,hw1⟩:∃ w1,w1=w.alloc (.cells #[.int .i64 nm,.slice va vn vc] 24):=⟨_,rfl⟩
 have HB1:Hid (Bx w1 w.heap.size 24 [.int .i64 nm,.slice va vn vc]∧Below w.heap.size w w1):=by rw[hw1];exact ⟨Bx.new w 24 _,(Below.refl _ _).alloc (Nat.le_refl _) _⟩
 go_enter Tryz.func10,Tryz.ntmps10
 go_upto_region 1 with fail
 rw[←hw1]
 clear hw1
 obtain ⟨m,HM⟩:∃ m,Hid (w.heap.size=m):=⟨_,rfl⟩
 rw[HM.out] at HB1 H52 H35 H21 H22 ⊢
 go_upto_region 2 with (first
  | (refine wpList_load_mid (by rfl) 24 (.tmp 1) (by rfl) m 0 (by rfl) [.int .i64 nm,.slice va vn vc] _ HB1.out.1.range Tryz.underlying24 rfl (by kernel_rfl) ?_)
  | (go_at_call 18;refine (H35.out _ HB1.out.2).mono ?_;intro e2 w2 hh;obtain ⟨y2,d2,rfl,hv2,hb⟩:=hh.out;have HB2:Hid (Bx w2 m 24 [.int .i64 nm,.slice va vn vc]∧Below m w w2∧Zi w2 (.slice y2 kz d2) zs):=⟨HB1.out.1.below hb,HB1.out.2.trans (hb.mono (by have:=HB1.out.1.lt;omega)),hv2⟩;clear hh hb hv2)
  | (go_at_call 12;refine (Nl _ zs _ (by have:=HLZ.out;omega) HB2.out.2.2).mono ?_;rintro e3 w3 ⟨v3,rfl,hm3,hb⟩;have HB3:Hid (Bx w3 m 24 [.int .i64 nm,.slice va vn vc]∧Below m w w3∧X8 w2.heap.size w3 v3 zs∧m<w2.heap.size):=⟨HB2.out.1.below hb,HB2.out.2.1.trans (hb.mono (by have:=HB2.out.1.lt;omega)),hm3,HB2.out.1.lt⟩;obtain ⟨xg,xc,rfl⟩:∃ g c,v3=.slice (some ⟨g,0,none⟩) zs.length c:=(by obtain ⟨g,c,q,_⟩:=hm3;exact ⟨g,c,q⟩);clear hm3 hb))
 rw[HLZ.out.1] at HB3 ⊢
 go_upto_region 3 with (first
  | (refine wpList_load_mid (by rfl) 24 (.tmp 1) (by rfl) m 0 (by rfl) [.int .i64 nm,.slice va vn vc] _ HB3.out.1.range Tryz.underlying24 rfl (by kernel_rfl) ?_)
  | (go_at_call 27;refine (H52.out _ HB3.out.2.1).mono ?_;intro e4 w4 hh;obtain ⟨rfl,hb⟩:=hh.out;have HB4:Hid (Bx w4 m 24 [.int .i64 nm,.slice va vn vc]∧Below m w w4∧X8 w2.heap.size w4 (.slice (some ⟨xg,0,none⟩) kz xc) zs):=⟨HB3.out.1.below hb,HB3.out.2.1.trans (hb.mono (by have:=HB3.out.1.lt;omega)),HB3.out.2.2.1.kept hb.block⟩;clear hh hb)
  | (go_at_call 26;refine (H21.out _ _ HB4.out.2.1 HB4.out.2.2.view).mono ?_;rintro e5 w5 ⟨c,rfl,hp5,hb⟩;have HB5:Hid (Bx w5 m 24 [.int .i64 nm,.slice va vn vc]∧Below m w w5∧X8 w2.heap.size w5 (.slice (some ⟨xg,0,none⟩) kz xc) zs):=⟨HB4.out.1.below hb,HB4.out.2.1.trans (hb.mono (by have:=HB4.out.1.lt;omega)),HB4.out.2.2.kept hb.block⟩;have HC5:Hid (Ψ w4.heap.size c w5∧xg<w4.heap.size∧m<w4.heap.size):=⟨hp5,(by obtain ⟨g,cc,q,ho⟩:=HB4.out.2.2;injection q with q1 q2 q3;injection q1 with q1;injection q1 with q1;subst q1;exact (Z2 ho rfl).2),HB4.out.1.lt⟩;clear hp5 hb))
 have s0:w5.cell? ⟨m,0,none⟩=some (.int .i64 nm):=HB5.out.1.cell 0 _ rfl
 have s1:w5.cell? ⟨m,1,none⟩=some (.slice va vn vc):=HB5.out.1.cell 1 _ rfl
 have K52:Hid (Calls Tryz.prog 27 #[.agg #[.int .i64 nm,.slice va vn vc]] w5.drew fun e u'=>Hid (e=.returned (.agg #[.string S,.string M,.string T,.int .i64 aa,.int .i64 (kz:Nat)])∧Below w5.heap.size w5 u')):=(H52.out w5.drew HB5.out.2.1.drew).mono fun e u' hh=>⟨hh.out.1,(Below.refl _ _).drew.trans hh.out.2⟩
 go_region_held3 (fun u=>u.cell? ⟨m,0,none⟩=some (.int .i64 nm)∧u.cell? ⟨m,1,none⟩=some (.slice va vn vc)) (first | exact ⟨s0,s1⟩ | exact hS6 | exact hS7 | exact hS8 | go_keep)
  (first
   | (go_at_call 27;refine K52.out.mono ?_;intro e6 w6 hh;obtain ⟨rfl,hb6⟩:=hh.out;have HB6:Hid (Below w5.heap.size w5 w6):=hb6;have hX6:=HB5.out.1.below hb6;have hS6:w6.cell? ⟨m,0,none⟩=some (.int .i64 nm)∧w6.cell? ⟨m,1,none⟩=some (.slice va vn vc):=⟨hX6.cell 0 _ rfl,hX6.cell 1 _ rfl⟩;clear hh hb6 hX6)
   | (go_at_call 18;refine (H35.out w6 (HB5.out.2.1.trans (HB6.out.mono (by have:=HB5.out.1.lt;omega)))).mono ?_;intro e7 w7 hh;obtain ⟨y7,d7,rfl,hv7,hb7⟩:=hh.out;have HB7:Hid (Below w5.heap.size w5 w7∧Zi w7 (.slice y7 kz d7) zs):=⟨HB6.out.trans (hb7.mono HB6.out.size),hv7⟩;have hX7:=HB5.out.1.below HB7.out.1;have hS7:w7.cell? ⟨m,0,none⟩=some (.int .i64 nm)∧w7.cell? ⟨m,1,none⟩=some (.slice va vn vc):=⟨hX7.cell 0 _ rfl,hX7.cell 1 _ rfl⟩;clear hh hb7 hv7 hX7)
   | (go_at_call 28;refine (H22.out w7 _ (HB5.out.2.1.trans (HB7.out.1.mono (by have:=HB5.out.1.lt;omega))) HB7.out.2).mono ?_;rintro e8 w8 ⟨rp,rfl,hb8⟩;have HB8:Hid (Below w5.heap.size w5 w8):=HB7.out.1.trans (hb8.mono HB7.out.1.size);have hX8:=HB5.out.1.below HB8.out;have hS8:w8.cell? ⟨m,0,none⟩=some (.int .i64 nm)∧w8.cell? ⟨m,1,none⟩=some (.slice va vn vc):=⟨hX8.cell 0 _ rfl,hX8.cell 1 _ rfl⟩;clear hb8 hX8))
 have HB9:Hid (Bx w8 m 24 [.int .i64 nm,.slice va vn vc]∧Below m w w8∧X8 w2.heap.size w8 (.slice (some ⟨xg,0,none⟩) kz xc) zs):=⟨HB5.out.1.below HB8.out,HB5.out.2.1.trans (HB8.out.mono (by have:=HB5.out.1.lt;omega)),HB5.out.2.2.kept HB8.out.block⟩
 have HC9:Hid (Ψ w4.heap.size c w8∧xg<w4.heap.size∧m<w4.heap.size):=⟨hΨ.out _ _ _ _ HC5.out.1 (fun b _ hb=>HB8.out.block b hb) HB8.out.size,HC5.out.2⟩
 clear s0 s1 hS6 hS7 hS8 HB5 HC5 K52
 go_upto_region 7 with (first
  | (refine wpList_load_mid (by rfl) 24 (.tmp 1) (by rfl) m 0 (by rfl) [.int .i64 nm,.slice va vn vc] _ HB9.out.1.range Tryz.underlying24 rfl (by kernel_rfl) ?_)
  | (go_at_call 18;refine (H35.out _ HB9.out.2.1).mono ?_;intro e9 w9 hh;obtain ⟨y9,d9,rfl,hv9,hb⟩:=hh.out;have HB10:Hid (Below w8.heap.size w8 w9∧Zi w9 (.slice y9 kz d9) zs):=⟨hb,hv9⟩;clear hh hb hv9)
  | (go_at_call 29;refine (Sq _ _ zs w2.heap.size _ (HB9.out.2.2.kept HB10.out.1.block) HB10.out.2).mono ?_;rintro e10 w10 ⟨rfl,hw⟩;have HB11:Hid (Below w8.heap.size w8 w10):=(by obtain ⟨q,rfl⟩:=hw;exact Below.drewN HB10.out.1 q);clear hw))
 have HI:Hid (∃ ys:List Int,ys.length=kz+70∧w10.ownsRow w2.heap.size 5 1 (.slice (some ⟨xg,0,none⟩) (kz+70) xc) (kz+70) (Za ys)):=by
  obtain ⟨g,cc,q,ho⟩:=HB9.out.2.2.kept HB11.out.block
  injection q with q1 q2 q3
  injection q1 with q1
  injection q1 with q1
  subst q1 q3
  rw[HLZ.out.1] at ho
  exact ⟨zs++marks 70,by simp [marks,HLZ.out.1],ho⟩
 have HC10:Hid (Ψ w4.heap.size c w10∧Below m w w10):=⟨hΨ.out _ _ _ _ HC9.out.1 (fun b _ hb=>HB11.out.block b hb) HB11.out.size,HB9.out.2.1.trans (HB11.out.mono (by have:=HB9.out.1.lt;omega))⟩
 have HXG:Hid (m≤xg):=by
  obtain ⟨g,cc,q,ho⟩:=HB9.out.2.2
  injection q with q1 q2 q3
  injection q1 with q1
  injection q1 with q1
  subst q1
  exact Nat.le_trans (Nat.le_of_lt HB3.out.2.2.2) (Z2 ho rfl).1
 have hkz:kz≤1000:=HLZ.out.2
 go_loopw [10] (fun vi wr=>∃ k:Nat,vi=.int .i64 (k:Nat)∧k≤kz∧Hid ((∃ ys:List Int,ys.length=kz+70∧wr.ownsRow w2.heap.size 5 1 (.slice (some ⟨xg,0,none⟩) (kz+70) xc) (kz+70) (Za ys))∧Ψ w4.heap.size c wr∧Below m w wr)) (fun vi _=>kz-(intOf vi).toNat)
 case atStart=>exact ⟨0,rfl,by omega,HI.out,HC10.out⟩
 case round=>as_aux_lemma=>
  obtain ⟨k,rfl,hk,HR⟩:=hrel
  clear HI HC10
  by_cases hlt:k<kz
  ·obtain ⟨ys,hyl,hyo⟩:=HR.out.1
   obtain ⟨z,HZ⟩:∃ z,Hid (ys.getD k 0=z):=⟨_,rfl⟩
   have c0:wr.cell? ⟨xg,k,none⟩=some (.int .u8 z):=by
    have hk2:k<ys.length:=by omega
    have q:=World.ownsRow.cells hyo (g:=xg) rfl k (.int .u8 z) (by simp [Za,List.getElem?_map,List.getElem?_eq_getElem hk2,←HZ.out,List.getD,List.getElem?_eq_getElem hk2])
    rw[Addr.add_lit,Nat.zero_add] at q
    exact q
   have f0:wr.frozen? ⟨xg,k,none⟩=false:=hyo.frozenAt k
   have g0:(0:Int)≤(k:Int):=by omega
   have g1:(k:Int)<(kz:Int):=by omega
   have HST:Hid (∀ x:Int,(∃ ys:List Int,ys.length=kz+70∧(wr.setCell ⟨xg,k,none⟩ (.int .u8 x)).ownsRow w2.heap.size 5 1 (.slice (some ⟨xg,0,none⟩) (kz+70) xc) (kz+70) (Za ys))∧Ψ w4.heap.size c (wr.setCell ⟨xg,k,none⟩ (.int .u8 x))∧Below m w (wr.setCell ⟨xg,k,none⟩ (.int .u8 x))):=fun x=>by
    obtain ⟨p1,p2⟩:=hyo.stored k (.int .u8 x)
    have hne:∀ b,w4.heap.size≤b→(wr.setCell ⟨xg,k,none⟩ (.int .u8 x)).heap[b]?=wr.heap[b]?:=fun b hb=>Below.heap_setCell _ ⟨xg,k,none⟩ _ b (by show b≠xg;have:=HC9.out.2.1;omega)
    refine ⟨⟨ys.set k x,by simp [hyl],?_⟩,hΨ.out _ _ _ _ HR.out.2.1 (fun b hb _=>hne b hb) p2.size,HR.out.2.2.setCell HXG.out _⟩
    rw[show Za (ys.set k x)=(Za ys).set k (.int .u8 x) by simp [Za,List.map_set]]
    exact p1
   clear hyo
   go_wp2
   exact ⟨⟨k+1,by simp,by omega,HST.out _⟩,by simp [intOf];omega⟩
  ·have g1:¬ (k:Int)<(kz:Int):=by omega
   go_wp2_with (go_at_call 14;refine (Pr _ _).mono ?_;rintro e13 x13 ⟨rfl,hw⟩;obtain rfl:=hw.symm;clear hw)
   go_ret3
   refine ⟨w4.heap.size,c,rp,rfl,?_,HR.out.2.1,?_⟩
   ·have:=HC9.out.2.2;have:=HM.out;omega
   ·first | exact HR.out.2.2 | (rw[HM.out];exact HR.out.2.2)
end Go.Proofs.YtehlppaidgkpaaaGreatDoor
