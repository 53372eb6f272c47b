import Derived.Test.YtehlppaidgkpaaaGreatDoorPart39
import Derived.Test.YtehlppaidgkpaaaGreatDoorPart24
import Derived.Laws.CopyOwn
import Derived.Test.YtehlppaidgkpaaaGreatDoorPart34
import Derived.OwnWalk
namespace Go.Proofs.YtehlppaidgkpaaaGreatDoor
open Go.RowKit
set_option linter.unusedVariables false
set_option linter.unusedSimpArgs false
def ftZ (bs:List Int) (i:Nat):Int:=if bs=[] then ((i*i%256:Nat):Int) else bs.getD (i%bs.length) 0
def ftL (bs:List Int) (m:Nat):List Int:=(List.range m).map (ftZ bs)
theorem Es (bs:List Int) (m:Nat):(ftL bs m).length=m:=by simp [ftL]
theorem T3 (bs:List Int) (m:Nat):ftL bs (m+1)=ftL bs m++[ftZ bs m]:=by simp [ftL,List.range_succ]
theorem Rf {bs : List Int} (h : Zd bs) (m : Nat) : Zd (ftL bs m) := fun i => by
  rw [List.getD_eq_getElem?_getD, ftL, List.getElem?_map]
  cases (List.range m)[i]? with
  | none => simp
  | some q =>
    simp only [Option.map_some, Option.getD_some, ftZ]
    split
    · omega
    · exact h _
structure FtI (w:World) (bs:List Int) (wr:World) (v:Value) (k:Nat):Prop where
 own:wr.ownsRow w.heap.size 5 1 v k (Za (ftL bs k))
 bel:Below w.heap.size w wr
theorem FtI.step {w:World} {bs:List Int} {wr w2:World} {v v2:Value} {k:Nat} {z:Int} (h:FtI w bs wr v k) (o:Obj) (hz:ftZ bs k=z) (ho:w2.ownsRow w.heap.size 5 1 v2 (k+1) (Za (ftL bs k)++[.int .u8 z])) (hg:(wr.alloc o).grownBy w2 v.ownBlock):FtI w bs w2 v2 (k+1):=by
 have hb:Below w.heap.size wr w2:=((Below.refl w.heap.size wr).alloc h.bel.size o).grown hg (by have:=h.bel.size;simp;omega) (fun q hq=>(Z3 h.own hq).1)
 refine ⟨?_,h.bel.trans hb⟩
 rw[T3,hz,Xj]
 exact ho
def ftN (n:Int) (whole:Bool):Nat:=let s:=16+(IntKind.u64.wrap n%497).toNat;if whole then s/16*16 else s
theorem Zac (x:Int) (s:Nat) (h0:0≤x) (hs:x%497=(s:Int)):s<497∧x.tmod 497=(s:Int)∧IntKind.i64.wrap (s:Int)=(s:Int)∧IntKind.i64.wrap (16+(s:Int))=16+(s:Int)∧wrap64 (16+(s:Int))=16+(s:Int)∧(16+(s:Int)).tdiv 16=(((16+s)/16:Nat):Int)∧IntKind.i64.wrap (((16+s)/16:Nat):Int)=(((16+s)/16:Nat):Int)∧IntKind.i64.wrap ((((16+s)/16:Nat):Int)*16)=(((16+s)/16*16:Nat):Int)∧(16+s)/16*16≤512:=by
 have h1:s<497:=by omega
 refine ⟨h1,?_,?_,?_,?_,?_,?_,?_,by omega⟩
 ·rw[Int.tmod_eq_emod_of_nonneg h0];exact hs
 ·rw[IntKind.wrap_i64];omega
 ·rw[IntKind.wrap_i64];omega
 ·unfold wrap64;omega
 ·rw[Int.tdiv_eq_ediv_of_nonneg (by omega)];omega
 ·rw[IntKind.wrap_i64];omega
 ·rw[IntKind.wrap_i64];omega
theorem Iw (k:Nat) (hk:k≤600):IntKind.i64.wrap ((k:Int)*(k:Int))=(k:Int)*(k:Int)∧IntKind.u8.wrap ((k:Int)*(k:Int))=((k*k%256:Nat):Int):=by
 have h:k*k≤600*600:=Nat.mul_le_mul hk hk
 obtain ⟨m,hm⟩:∃ m,k*k=m:=⟨_,rfl⟩
 have e:(k:Int)*(k:Int)=(m:Int):=by rw[←hm];simp
 rw[hm] at h
 rw[e,hm,IntKind.wrap_i64,IntKind.wrap_u8]
 clear e hm hk
 constructor<;>omega
set_option maxHeartbeats 1600000 in
set_option maxRecDepth 100000 in
theorem Zag (v:Value) (bs:List Int) (nn:Int) (wh:Bool) (w:World) (hv:Zf w v bs) :
  Calls Tryz.prog 11 #[v,.int .i64 nn,.bool wh] w fun e w'=>Hid (∃ y d,e=.returned (.slice y (ftN nn wh) d)∧w'.ownsRow w.heap.size 5 1 (.slice y (ftN nn wh) d) (ftN nn wh) (Za (ftL bs (ftN nn wh)))∧Below w.heap.size w w'):=by
 obtain ⟨i0,hi,hz0,hz1,hz2⟩:=info_parts Tryz.info5
 have HI0:Hid (Tryz.prog.info? 5=some i0∧i0.zero=some (.int .u8 0)∧i0.size=1∧i0.bytes=1):=⟨hi,hz0,hz1,hz2⟩
 clear hi hz0 hz1 hz2
 obtain ⟨x,hxx⟩:∃ x,IntKind.u64.wrap nn=x:=⟨_,rfl⟩
 have hx0:0≤x:=by rw[←hxx];unfold IntKind.wrap;simp [IntKind.signed,IntKind.bits];omega
 obtain ⟨s,hs⟩:∃ s:Nat,x%497=(s:Int):=⟨(x%497).toNat,by omega⟩
 obtain ⟨hs1,htm,es,e16,w16,hq,eq1,eq2,hle⟩:=Zac x s hx0 hs
 have HSZ:Hid (ftN nn wh=if wh then (16+s)/16*16 else 16+s):=by unfold ftN;rw[hxx,hs];rfl
 have e497:IntKind.u64.wrap 497=497:=by decide
 obtain ⟨a,c,rfl,h1,h2,h3,h4⟩:=hv
 obtain ⟨n,HNL⟩:∃ n,Hid (bs.length=n):=⟨_,rfl⟩
 rw[HNL.out] at h1 ⊢
 have HCC:Hid (bs=[]∨∃ b off,a=some ⟨b,off,none⟩∧∀ i,i<bs.length→w.cell? ⟨b,off+i,none⟩=some (.int .u8 (bs.getD i 0))):=h4
 clear h1 h2 h3 h4 hs hx0
 obtain ⟨kz,HKZ⟩:∃ kz,Hid (ftN nn wh=kz):=⟨_,rfl⟩
 have hkz:kz≤600:=by rw[←HKZ.out,HSZ.out];split<;>omega
 rw[HKZ.out] at HSZ ⊢
 cases wh
 ·go_enter Tryz.func11,Tryz.ntmps11
  go_upto_region 2 with fail
  have hkk:(16:Int)+(s:Int)=(kz:Int):=by have:=HSZ.out;simp at this;omega
  rw[hkk]
  clear hkk
  go_upto_region 6 with fail
  go_loopw [8,9] (fun v vi wr=>∃ k:Nat,vi=.int .i64 (k:Nat)∧k≤kz∧Hid (FtI w bs wr v k)) (fun _ vi _=>kz-(intOf vi).toNat)
  case atStart=>exact ⟨0,rfl,by omega,World.ownsRow_nil _ _ _ _,Below.refl _ _⟩
  case round=>
   obtain ⟨k,rfl,hk,HR⟩:=hrel
   by_cases hlt:k<kz
   ·have g1:(k:Int)<(kz:Int):=by omega
    have HLM:Hid (w.heap.size≤wr.heap.size):=HR.out.bel.size
    by_cases hb0:bs=[]
    ·have HB0:Hid (bs=[]):=hb0
     have hn0:n=0:=by have:=HNL.out;rw[hb0] at this;simpa using this.symm
     clear hb0
     subst hn0
     obtain ⟨z,HZ⟩:∃ z:Int,Hid (z=((k*k%256:Nat):Int)):=⟨_,rfl⟩
     obtain ⟨hw7,hz⟩:=Iw k (by omega)
     rw[←HZ.out] at hz
     go_wp2_with (first
      | (at_builtin;go_must (refine wpList_append_own _ rfl (.tmp 27) (.tmp 32) 22 rfl w.heap.size 5 i0 (.int .u8 0) 1 1 Tryz.underlying22 HI0.out.1 HI0.out.2.1 HI0.out.2.2.1 HI0.out.2.2.2 rfl (by decide) _ _ _ rfl (HR.out.own.alloc _) ⟨wr.heap.size,0,none⟩ 1 1 [.int .u8 z] rfl rfl (one_cell wr _ 5) (V6 z) (by unfold maxLen;omega) (by omega) (by have:=HLM.out;simp;omega) ?_;intro v2 w2 hown hgrow hnil;have HX:Hid (FtI w bs w2 v2 (k+1)):=HR.out.step _ (by rw[ftZ,if_pos HB0.out,HZ.out]) hown hgrow;clear hown hgrow hnil)))
     exact ⟨⟨k+1,by simp,by omega,HX⟩,by simp [intOf];omega⟩
    ·obtain ⟨b,off,rfl,hcell⟩:=HCC.out.resolve_left hb0
     have HB0:Hid (bs≠[]):=hb0
     have hn1:0<n:=by have:=HNL.out;cases bs with | nil=>exact absurd rfl hb0 | cons _ _=>simp at this;omega
     clear hb0
     obtain ⟨q,HQ⟩:∃ q:Nat,Hid (q=k%n):=⟨_,rfl⟩
     have hqn:q<n:=by rw[HQ.out];exact Nat.mod_lt _ hn1
     obtain ⟨z,HZ⟩:∃ z:Int,Hid (bs.getD q 0=z):=⟨_,rfl⟩
     have HCL:Hid (∀ u:World,Below w.heap.size w u→u.cell? ⟨b,off+q,none⟩=some (.int .u8 z)):=fun u hu=>by
      have p:=hcell q (by rw[HNL.out];exact hqn)
      rw[hu.cell (World.block_lt_of_cell? w _ p),p,HZ.out]
     have c1:=HCL.out wr HR.out.bel
     clear hcell
     have hmod:(k:Int).tmod (n:Int)=(q:Int):=by rw[HQ.out,Int.tmod_eq_emod_of_nonneg (Int.natCast_nonneg _)];rfl
     have hne:((n:Int)==0)=false:=by simp;omega
     have hn2:(n:Int)≠0:=by omega
     have k0:(0:Int)≤(q:Int):=by omega
     have k1:(q:Int)<(n:Int):=by omega
     have hn3:¬ n=0:=by omega
     go_wp2_with (first
      | (at_builtin;go_must (refine wpList_append_own _ rfl (.tmp 34) (.tmp 42) 22 rfl w.heap.size 5 i0 (.int .u8 0) 1 1 Tryz.underlying22 HI0.out.1 HI0.out.2.1 HI0.out.2.2.1 HI0.out.2.2.2 rfl (by decide) _ _ _ rfl (HR.out.own.alloc _) ⟨wr.heap.size,0,none⟩ 1 1 [.int .u8 z] rfl rfl (one_cell wr _ 5) (V6 z) (by unfold maxLen;omega) (by omega) (by have:=HLM.out;simp;omega) ?_;intro v2 w2 hown hgrow hnil;have HX:Hid (FtI w bs w2 v2 (k+1)):=HR.out.step _ (by rw[ftZ,if_neg HB0.out,HNL.out,←HQ.out,HZ.out]) hown hgrow;clear hown hgrow hnil)))
     exact ⟨⟨k+1,by simp,by omega,HX⟩,by simp [intOf];omega⟩
   ·have g1:¬ (k:Int)<(kz:Int):=by omega
    have HF:Hid (wr.ownsRow w.heap.size 5 1 u8 kz (Za (ftL bs kz))∧Below w.heap.size w wr):=by
     obtain ⟨p1,p3⟩:=HR.out
     rw[show k=kz by omega] at p1
     exact ⟨p1,p3⟩
    clear HR
    have hk0:0<kz:=by have:=HSZ.out;first | (simp at this;omega) | omega
    obtain ⟨xg,xc,rfl⟩:∃ g c,u8=.slice (some ⟨g,0,none⟩) kz c:=by
     rcases HF.out.1.2 with ⟨_,q⟩ | ⟨g,c,_,q,_⟩
     ·omega
     ·exact ⟨g,c,q⟩
    go_wp2
    go_ret
    exact ⟨_,xc,rfl,HF.out.1,HF.out.2⟩
 ·go_enter Tryz.func11,Tryz.ntmps11
  go_upto_region 4 with fail
  have hkk:((s:Int)/16+1)*16=(kz:Int):=by have:=HSZ.out;simp at this;omega
  rw[hkk]
  clear hkk
  go_upto_region 6 with fail
  go_loopw [8,9] (fun v vi wr=>∃ k:Nat,vi=.int .i64 (k:Nat)∧k≤kz∧Hid (FtI w bs wr v k)) (fun _ vi _=>kz-(intOf vi).toNat)
  case atStart=>exact ⟨0,rfl,by omega,World.ownsRow_nil _ _ _ _,Below.refl _ _⟩
  case round=>
   obtain ⟨k,rfl,hk,HR⟩:=hrel
   by_cases hlt:k<kz
   ·have g1:(k:Int)<(kz:Int):=by omega
    have HLM:Hid (w.heap.size≤wr.heap.size):=HR.out.bel.size
    by_cases hb0:bs=[]
    ·have HB0:Hid (bs=[]):=hb0
     have hn0:n=0:=by have:=HNL.out;rw[hb0] at this;simpa using this.symm
     clear hb0
     subst hn0
     obtain ⟨z,HZ⟩:∃ z:Int,Hid (z=((k*k%256:Nat):Int)):=⟨_,rfl⟩
     obtain ⟨hw7,hz⟩:=Iw k (by omega)
     rw[←HZ.out] at hz
     go_wp2_with (first
      | (at_builtin;go_must (refine wpList_append_own _ rfl (.tmp 27) (.tmp 32) 22 rfl w.heap.size 5 i0 (.int .u8 0) 1 1 Tryz.underlying22 HI0.out.1 HI0.out.2.1 HI0.out.2.2.1 HI0.out.2.2.2 rfl (by decide) _ _ _ rfl (HR.out.own.alloc _) ⟨wr.heap.size,0,none⟩ 1 1 [.int .u8 z] rfl rfl (one_cell wr _ 5) (V6 z) (by unfold maxLen;omega) (by omega) (by have:=HLM.out;simp;omega) ?_;intro v2 w2 hown hgrow hnil;have HX:Hid (FtI w bs w2 v2 (k+1)):=HR.out.step _ (by rw[ftZ,if_pos HB0.out,HZ.out]) hown hgrow;clear hown hgrow hnil)))
     exact ⟨⟨k+1,by simp,by omega,HX⟩,by simp [intOf];omega⟩
    ·obtain ⟨b,off,rfl,hcell⟩:=HCC.out.resolve_left hb0
     have HB0:Hid (bs≠[]):=hb0
     have hn1:0<n:=by have:=HNL.out;cases bs with | nil=>exact absurd rfl hb0 | cons _ _=>simp at this;omega
     clear hb0
     obtain ⟨q,HQ⟩:∃ q:Nat,Hid (q=k%n):=⟨_,rfl⟩
     have hqn:q<n:=by rw[HQ.out];exact Nat.mod_lt _ hn1
     obtain ⟨z,HZ⟩:∃ z:Int,Hid (bs.getD q 0=z):=⟨_,rfl⟩
     have HCL:Hid (∀ u:World,Below w.heap.size w u→u.cell? ⟨b,off+q,none⟩=some (.int .u8 z)):=fun u hu=>by
      have p:=hcell q (by rw[HNL.out];exact hqn)
      rw[hu.cell (World.block_lt_of_cell? w _ p),p,HZ.out]
     have c1:=HCL.out wr HR.out.bel
     clear hcell
     have hmod:(k:Int).tmod (n:Int)=(q:Int):=by rw[HQ.out,Int.tmod_eq_emod_of_nonneg (Int.natCast_nonneg _)];rfl
     have hne:((n:Int)==0)=false:=by simp;omega
     have hn2:(n:Int)≠0:=by omega
     have k0:(0:Int)≤(q:Int):=by omega
     have k1:(q:Int)<(n:Int):=by omega
     have hn3:¬ n=0:=by omega
     go_wp2_with (first
      | (at_builtin;go_must (refine wpList_append_own _ rfl (.tmp 34) (.tmp 42) 22 rfl w.heap.size 5 i0 (.int .u8 0) 1 1 Tryz.underlying22 HI0.out.1 HI0.out.2.1 HI0.out.2.2.1 HI0.out.2.2.2 rfl (by decide) _ _ _ rfl (HR.out.own.alloc _) ⟨wr.heap.size,0,none⟩ 1 1 [.int .u8 z] rfl rfl (one_cell wr _ 5) (V6 z) (by unfold maxLen;omega) (by omega) (by have:=HLM.out;simp;omega) ?_;intro v2 w2 hown hgrow hnil;have HX:Hid (FtI w bs w2 v2 (k+1)):=HR.out.step _ (by rw[ftZ,if_neg HB0.out,HNL.out,←HQ.out,HZ.out]) hown hgrow;clear hown hgrow hnil)))
     exact ⟨⟨k+1,by simp,by omega,HX⟩,by simp [intOf];omega⟩
   ·have g1:¬ (k:Int)<(kz:Int):=by omega
    have HF:Hid (wr.ownsRow w.heap.size 5 1 u8 kz (Za (ftL bs kz))∧Below w.heap.size w wr):=by
     obtain ⟨p1,p3⟩:=HR.out
     rw[show k=kz by omega] at p1
     exact ⟨p1,p3⟩
    clear HR
    have hk0:0<kz:=by have:=HSZ.out;first | (simp at this;omega) | omega
    obtain ⟨xg,xc,rfl⟩:∃ g c,u8=.slice (some ⟨g,0,none⟩) kz c:=by
     rcases HF.out.1.2 with ⟨_,q⟩ | ⟨g,c,_,q,_⟩
     ·omega
     ·exact ⟨g,c,q⟩
    go_wp2
    go_ret
    exact ⟨_,xc,rfl,HF.out.1,HF.out.2⟩
set_option maxHeartbeats 800000 in
set_option maxRecDepth 100000 in
theorem Fn (b off n c j:Nat) (w:World) (hj:16*j+16≤n) (hn:n≤c) (hc:n≤1000000) :
  Calls Tryz.prog 227 #[.slice (some ⟨b,off,none⟩) n c,.int .i64 (j:Nat)] w fun e w'=>Hid (e=.returned (.slice (some ⟨b,off+16*j,none⟩) 16 16)∧Below w.heap.size w w'):=by
 have hS:∀ u:World,(Instr.slice 22 (.slice (some ⟨b,off,none⟩) n c) (some (.int .i64 ((j:Int)*16))) (some (.int .i64 ((j:Int)*16+16))) (some (.int .i64 ((j:Int)*16+16)))).run Tryz.prog u=.ok (.slice (some ⟨b,off+16*j,none⟩) 16 16) u:=fun u=>by
  have q:=run_slice_lhm (P:=Tryz.prog) u 22 (some ⟨b,off,none⟩) n c Ck .i64 .i64 .i64 ((j:Int)*16) ((j:Int)*16+16) ((j:Int)*16+16) (by omega) (by omega) (by omega) (by omega)
  rw[q,show Tryz.prog.elem 22=5 by kernel_rfl,sizeOf5]
  simp only[Result.andThen_ok,sliced]
  rw[show ((j:Int)*16).toNat=16*j by omega,show ((j:Int)*16+16).toNat=16*j+16 by omega,if_neg (by omega),Option.map_some,Nat.mul_one,Addr.add_mid,show 16*j+16-16*j=16 by omega]
 have e1:IntKind.i64.wrap ((j:Int)*16)=(j:Int)*16:=by rw[IntKind.wrap_i64];omega
 have e2:IntKind.i64.wrap ((j:Int)*16+16)=(j:Int)*16+16:=by rw[IntKind.wrap_i64];omega
 clear hj hn hc
 go_enter Tryz.func227,Tryz.ntmps227
 go_wp2
 go_ret
 exact ⟨rfl,Below.refl _ _⟩
def cutV (zs:List Int) (j:Nat):BitVec 128:=BitVec.ofNat 128 (Fd.pk (fun i=>Yk zs (16*j+i)) 16)
theorem M5 {zs:List Int} (h:Zd zs) (j i:Nat) (hi:i<16):((Fd.byV (cutV zs j) i:Nat):Int)=zs.getD (16*j+i) 0:=by
 rw[cutV,Fd.Fm _ (fun i=>Ga h _) i hi,Gb h]
theorem Yh (v:BitVec 128):∀ x∈Fd.BL v,x.oneCell'=true:=by
 intro x hx
 obtain ⟨i,hi⟩:=List.mem_iff_getElem?.1 hx
 by_cases h:i<16
 ·rw[Fd.X5 v i h] at hi;injection hi with hi;subst hi;rfl
 ·rw[List.getElem?_eq_none (by rw[Fd.Zl];omega)] at hi;cases hi
abbrev ZZ:List Value:=[.int .u8 0,.int .u8 0,.int .u8 0,.int .u8 0,.int .u8 0,.int .u8 0,.int .u8 0,.int .u8 0,.int .u8 0,.int .u8 0,.int .u8 0,.int .u8 0,.int .u8 0,.int .u8 0,.int .u8 0,.int .u8 0]
set_option maxHeartbeats 800000 in
set_option maxRecDepth 100000 in
theorem N4 (b off c j:Nat) (zs:List Int) (w:World) (hj:16*j+16≤zs.length) (hn:zs.length≤c) (hc:zs.length≤1000000) (hb:Zd zs) (hz:∀ i,i<zs.length→w.cell? ⟨b,off+i,none⟩=some (.int .u8 (zs.getD i 0))) :
  Calls Tryz.prog 197 #[.slice (some ⟨b,off,none⟩) zs.length c,.int .i64 (j:Nat)] w fun e w'=>Hid (e=.returned (Fd.BV (cutV zs j))∧Below w.heap.size w w'):=by
 obtain ⟨n,HNL⟩:∃ n,Hid (zs.length=n):=⟨_,rfl⟩
 have HA:Hid (∀ u,Calls Tryz.prog 227 #[.slice (some ⟨b,off,none⟩) n c,.int .i64 (j:Nat)] u fun e w'=>Hid (e=.returned (.slice (some ⟨b,off+16*j,none⟩) 16 16)∧Below u.heap.size u w')):=fun u=>Fn b off n c j u (by rw[←HNL.out];exact hj) (by rw[←HNL.out];exact hn) (by rw[←HNL.out];exact hc)
 obtain ⟨L,HL⟩:∃ L,Hid (L=Fd.BL (cutV zs j)):=⟨_,rfl⟩
 have HLC:Hid (∀ u,Below w.heap.size w u→∀ i v,L[i]?=some v→u.cell? ((⟨b,off+16*j,none⟩:Addr).add i)=some v):=fun u hu i v hv=>by
  have h16:i<16:=by
   rw[HL.out] at hv
   have:=(List.getElem?_eq_some_iff.1 hv).1
   rw[Fd.Zl] at this;exact this
  rw[HL.out,Fd.X5 _ i h16,M5 hb j i h16] at hv
  injection hv with hv
  subst hv
  have p:=hz (16*j+i) (by omega)
  rw[Addr.add_mid,Nat.add_assoc,hu.cell (World.block_lt_of_cell? w _ p),p]
 have HLL:Hid (L.length=16∧∀ x∈L,x.oneCell'=true):=by rw[HL.out];exact ⟨Fd.Zl _,Yh _⟩
 rw[HNL.out]
 clear hj hn hc hz hb
 go_enter Tryz.func197,Tryz.ntmps197
 obtain ⟨w1,hw1⟩:∃ w1,w1=(w.alloc (.cells #[.int .u8 0,.int .u8 0,.int .u8 0,.int .u8 0,.int .u8 0,.int .u8 0,.int .u8 0,.int .u8 0,.int .u8 0,.int .u8 0,.int .u8 0,.int .u8 0,.int .u8 0,.int .u8 0,.int .u8 0,.int .u8 0] 27)).alloc (.cells #[.int .u8 0,.int .u8 0,.int .u8 0,.int .u8 0,.int .u8 0,.int .u8 0,.int .u8 0,.int .u8 0,.int .u8 0,.int .u8 0,.int .u8 0,.int .u8 0,.int .u8 0,.int .u8 0,.int .u8 0,.int .u8 0] 27):=⟨_,rfl⟩
 have HB1:Hid (Bx w1 w.heap.size 27 ZZ∧Bx w1 (w.heap.size+1) 27 ZZ∧Below w.heap.size w w1):=by
  refine ⟨?_,?_,?_⟩
  ·rw[hw1];exact (Bx.new w 27 ZZ).below ((Below.refl _ _).alloc (Nat.le_refl _) _)
  ·rw[hw1];have q:=Bx.new (w.alloc (.cells ZZ.toArray 27)) 27 ZZ;simpa using q
  ·rw[hw1];exact ((Below.refl _ _).alloc (Nat.le_refl _) _).alloc (by simp) _
 go_upto_region 2 with fail
 rw[←hw1]
 clear hw1
 obtain ⟨m,HM⟩:∃ m,Hid (w.heap.size=m):=⟨_,rfl⟩
 rw[HM.out] at HB1 HLC ⊢
 have HW1:Hid (m+1<w1.heap.size):=HB1.out.2.1.lt
 go_region_held3 (fun _=>True) (first | trivial | go_keep)
  (first
   | (go_at_call 227;refine (HA.out _).mono ?_;intro e2 w2 hh;obtain ⟨rfl,hb2⟩:=hh.out;have HB2:Hid (Below w1.heap.size w1 w2):=(Below.refl _ _).drew.trans hb2;clear hh hb2)
   | (refine step_copy_splice rfl (.tmp 6) (.tmp 9) 22 22 rfl 5 Tryz.underlying22 (by kernel_rfl) _ _ 16 16 16 16 rfl rfl (m+1) 0 ZZ 27 (HB1.out.2.1.below HB2.out) L HLL.out.1 (fun _=>⟨rfl,_,rfl,HLC.out w2 (HB1.out.2.2.trans (HB2.out.mono (by have:=HW1.out;omega)))⟩) (by rw[HLL.out.1];decide) HLL.out.2 (m+1) w2 (Below.refl _ _) (Nat.le_refl _) ?_;intro w3 HG3 hb3;have HB3:Hid (Below (m+1) w2 w3):=hb3;clear hb3))
 have HX3:Hid (Bx w3 (m+1) 27 L∧Bx w3 m 27 ZZ∧Below m w w3):=by
  refine ⟨?_,(HB1.out.1.below HB2.out).keep (HB3.out.block m (by omega)),HB1.out.2.2.trans ((HB2.out.mono (by have:=HW1.out;omega)).trans (HB3.out.mono (by omega)))⟩
  have q:=HG3.out
  have e:splice ZZ 0 L=L:=by simp [splice,HLL.out.1]
  rw[e] at q
  exact q
 clear HG3 HB3 HB1
 go_wp2_with (first
  | (refine wpList_load_mid (by rfl) 27 (.tmp 5) (by rfl) (m+1) 0 (by rfl) L _ HX3.out.1.range Tryz.underlying27 rfl (by rw[HLL.out.1];kernel_rfl) ?_)
  | (refine Ze (by rfl) 27 (.tmp 4) (.tmp 11) (by rfl) ZZ L m (by rfl) (by rfl) HX3.out.2.1 (by rw[HLL.out.1];rfl) (by rw[HLL.out.1];kernel_rfl) HLL.out.2 ?_;intro u9 hb9 hg9))
 refine Xl (b:=m) L rfl rfl hb9.range Tryz.underlying27 rfl (by rw[HLL.out.1];kernel_rfl) ⟨?_,?_⟩
 ·rw[HL.out];rfl
 ·have hfin:Below m w u9:=HX3.out.2.2.trans (Zm hg9 (by have:=HX3.out.2.1.lt;omega) (by omega))
  first | exact hfin | (rw[HM.out];exact hfin)
theorem Lt (w:World) (g:Nat) (cs:Array Value):w.grownBy (w.setRow g cs) (some g):=⟨rfl,rfl,rfl,by simp [World.setRow],fun k _ hk=>setRow_other w g k cs (fun e=>hk (by rw[e]))⟩
theorem Vg {P:Program} {ops:Array Oper} {o:Oper} {a:Act} {w:World} {K:Act→World→Prop} {Q:Exit→Act→World→Prop} {E:Prop} (hgd:o.guard=none) (d s:Operand)
  (ho:o.op=.call { callee:=.builtin .copy,args:=#[d,s],argTypes:=#[22,22] }) (hu:P.underlying 22=some (.slice 5)) (hsz:(P.info? 5).map (·.size)=some 1)
  (g off dLen dCap sLen sCap:Nat) (ad:Addr) (hd:a.eval d=.slice (some ⟨g,off,none⟩) dLen dCap) (hs:a.eval s=.slice (some ad) sLen sCap)
  (cur:List Value) (t:TypeId) (hg:w.heap[g]?=some (.cells cur.toArray t (0,0))) (cs:List Value) (hn:cs.length=Nat.min sLen dLen)
  (hsrc:∀ j v,cs[j]?=some v→w.cell? (ad.add j)=some v) (hfit:off+cs.length≤cur.length) (h1:∀ v∈cs,v.oneCell'=true)
  (h:∀ w',Hid (w'.heap[g]?=some (.cells (splice cur off cs).toArray t (0,0)))→Hid (w.grownBy w' (some g))→K (a.put o.dst (goInt cs.length)) w') :
  if Region.wanted o (yielded ops a.tmps)=true then Oper.wp P o a w K Q else E:=by
 have hw:Region.wanted o (yielded ops a.tmps)=true:=by simp [Region.wanted,hgd]
 rw[if_pos hw]
 have hrun:=run_copy_row (P:=P) w 22 22 o.type 5 g off dLen dCap ad sLen sCap cur.toArray t cs hu hsz hg hn hsrc (by simpa using hfit) h1
 unfold Oper.wp
 simp [execOp,ho,resolve,invoke,builtin,hd,hs,hrun,Result.andThen]
 exact h _ (show _=_ by simpa [splice] using setRow_heap w g _ _ t _ hg) (Lt w g _)
set_option maxHeartbeats 800000 in
set_option maxRecDepth 100000 in
theorem Nq (g n c j:Nat) (v:BitVec 128) (cur:List Value) (w:World) (hj:16*j+16≤n) (hn:n≤c) (hc:n≤1000000) (hcur:n≤cur.length) (hg:Bx w g 5 cur) :
  Calls Tryz.prog 234 #[.slice (some ⟨g,0,none⟩) n c,.int .i64 (j:Nat),Fd.BV v] w fun e w'=>Hid (e=.returned (.tuple #[])∧Bx w' g 5 (splice cur (16*j) (Fd.BL v))∧w.grownBy w' (some g)):=by
 have HA:Hid (∀ u,Calls Tryz.prog 227 #[.slice (some ⟨g,0,none⟩) n c,.int .i64 (j:Nat)] u fun e w'=>Hid (e=.returned (.slice (some ⟨g,0+16*j,none⟩) 16 16)∧Below u.heap.size u w')):=fun u=>Fn g 0 n c j u hj hn hc
 obtain ⟨L,HL⟩:∃ L,Hid (L=Fd.BL v):=⟨_,rfl⟩
 have HLL:Hid (L.length=16∧∀ x∈L,x.oneCell'=true):=by rw[HL.out];exact ⟨Fd.Zl _,Yh _⟩
 have HF:Hid (16*j+16≤cur.length):=(by omega:16*j+16≤cur.length)
 obtain ⟨w1,hw1⟩:∃ w1,w1=w.alloc (.cells L.toArray 27):=⟨_,rfl⟩
 have HB1:Hid (Bx w1 w.heap.size 27 L∧Bx w1 g 5 cur∧Below w.heap.size w w1∧g<w.heap.size):=by
  rw[hw1];exact ⟨Bx.new w 27 L,hg.below ((Below.refl _ _).alloc (Nat.le_refl _) _),(Below.refl _ _).alloc (Nat.le_refl _) _,hg.lt⟩
 show Calls Tryz.prog 234 #[_,_,.agg (Fd.BL v).toArray] w _
 rw[←HL.out]
 clear hj hn hc hcur hg
 go_enter Tryz.func234,Tryz.ntmps234
 go_upto_region 1 with fail
 rw[←hw1]
 clear hw1
 obtain ⟨m,HM⟩:∃ m,Hid (w.heap.size=m):=⟨_,rfl⟩
 rw[HM.out] at HB1 ⊢
 go_region_held3 (fun _=>True) (first | trivial | go_keep)
  (first
   | (go_at_call 227;refine (HA.out _).mono ?_;intro e2 w2 hh;obtain ⟨rfl,hb2⟩:=hh.out;have HB2:Hid (Below w1.heap.size w1 w2):=(Below.refl _ _).drew.trans hb2;clear hh hb2)
   | (refine Vg rfl (.tmp 8) (.tmp 9) rfl Tryz.underlying22 (by kernel_rfl) g (16*j) 16 16 16 16 ⟨m,0,none⟩ (by first | rfl | simp) (by first | rfl | simp) cur 5 (HB1.out.2.1.below HB2.out) L HLL.out.1 (fun i v hv=>by rw[Addr.add_mid];exact (HB1.out.1.below HB2.out).range i v hv) (by rw[HLL.out.1];exact HF.out) HLL.out.2 ?_;intro w3 HG3 HB3))
 go_end0
 refine ⟨rfl,?_,?_⟩
 ·exact HG3.out
 ·have e1:w.grownBy w2 (some g):=by
   have q:=HB1.out.2.2.1.trans (HB2.out.mono (by have:=HB1.out.1.lt;omega))
   exact ⟨q.os,q.tape,q.output,q.size,fun k hk _=>q.block k (by rw[←HM.out];exact hk)⟩
  exact C8 e1 HB3.out
theorem D6 {a b c d:Nat} (ha:a<256) (hb:b<256) (hc:c<256) (hd:d<256):bt0 (wd a b c d)=a∧bt1 (wd a b c d)=b∧bt2 (wd a b c d)=c∧bt3 (wd a b c d)=d:=by
 unfold wd bt0 bt1 bt2 bt3;omega
def toW (v:BitVec 128):W4:=⟨wd (Fd.byV v 0) (Fd.byV v 1) (Fd.byV v 2) (Fd.byV v 3),wd (Fd.byV v 4) (Fd.byV v 5) (Fd.byV v 6) (Fd.byV v 7),wd (Fd.byV v 8) (Fd.byV v 9) (Fd.byV v 10) (Fd.byV v 11),wd (Fd.byV v 12) (Fd.byV v 13) (Fd.byV v 14) (Fd.byV v 15)⟩
theorem I7 (v:BitVec 128):(toW v).ok:=by
 have h:=Fd.Qi v
 exact ⟨Vd (h _) (h _) (h _) (h _),Vd (h _) (h _) (h _) (h _),Vd (h _) (h _) (h _) (h _),Vd (h _) (h _) (h _) (h _)⟩
theorem Pm (v:BitVec 128):(toW v).blk=Fd.BV v:=by
 have h:=Fd.Qi v
 obtain ⟨a0,a1,a2,a3⟩:=D6 (h 0) (h 1) (h 2) (h 3)
 obtain ⟨b0,b1,b2,b3⟩:=D6 (h 4) (h 5) (h 6) (h 7)
 obtain ⟨c0,c1,c2,c3⟩:=D6 (h 8) (h 9) (h 10) (h 11)
 obtain ⟨d0,d1,d2,d3⟩:=D6 (h 12) (h 13) (h 14) (h 15)
 unfold W4.blk blk Fd.BV toW
 simp only[a0,a1,a2,a3,b0,b1,b2,b3,c0,c1,c2,c3,d0,d1,d2,d3]
def byW (t:W4):List Nat:=[bt0 t.a,bt1 t.a,bt2 t.a,bt3 t.a,bt0 t.b,bt1 t.b,bt2 t.b,bt3 t.b,bt0 t.c,bt1 t.c,bt2 t.c,bt3 t.c,bt0 t.d,bt1 t.d,bt2 t.d,bt3 t.d]
theorem Zat (t:W4) (i:Nat):(byW t).getD i 0<256:=by
 have h:∀ x∈byW t,x<256:=by
  intro x hx
  simp only[byW,List.mem_cons,List.not_mem_nil,or_false] at hx
  rcases hx with rfl | rfl | rfl | rfl | rfl | rfl | rfl | rfl | rfl | rfl | rfl | rfl | rfl | rfl | rfl | rfl<;>exact Nat.mod_lt _ (by decide)
 rw[List.getD_eq_getElem?_getD]
 cases e:(byW t)[i]? with
 | none=>simp
 | some x=>exact h x (List.mem_of_getElem? e)
def ofW (t:W4):BitVec 128:=BitVec.ofNat 128 (Fd.pk (fun i=>(byW t).getD i 0) 16)
theorem O0 (t:W4) (i:Nat) (hi:i<16):Fd.byV (ofW t) i=(byW t).getD i 0:=Fd.Fm _ (Zat t) i hi
theorem Eb (t:W4):t.blk=Fd.BV (ofW t):=by
 have h:=O0 t
 unfold W4.blk blk Fd.BV
 rw[h 0 (by decide),h 1 (by decide),h 2 (by decide),h 3 (by decide),h 4 (by decide),h 5 (by decide),h 6 (by decide),h 7 (by decide),h 8 (by decide),h 9 (by decide),h 10 (by decide),h 11 (by decide),h 12 (by decide),h 13 (by decide),h 14 (by decide),h 15 (by decide)]
 rfl
def Yy (nr:Nat) (K:Nat→Nat) (v:BitVec 128):BitVec 128:=ofW (Ub nr K (toW v))
theorem Iu (g nr:Nat) (K:Nat→Nat) (v:BitVec 128) (w:World) (h:Zr w g nr K) :
  Calls Tryz.prog 32 #[.pointer (some ⟨g,0,none⟩),Fd.BV v] w fun e w'=>Hid (e=.returned (.tuple #[Fd.BV (Yy nr K v),.int .i64 0])∧Zr w' g nr K∧w.grownBy w' (some g)):=by
 have q:=El g nr K (toW v) w h (I7 v)
 rw[Pm] at q
 refine q.mono ?_
 rintro e w' ⟨rfl,h1,h2⟩
 refine ⟨by rw[Eb];rfl,h1,h2.os,h2.tape,h2.output,h2.size,fun k hk hn=>h2.block k hk (fun e=>hn (by rw[e]))⟩
set_option maxHeartbeats 800000 in
set_option maxRecDepth 100000 in
theorem Cj (g nr:Nat) (K:Nat→Nat) (v:BitVec 128) (w:World) (h:Zr w g nr K) :
  Calls Tryz.prog 188 #[.pointer (some ⟨g,0,none⟩),Fd.BV v] w fun e w'=>Hid (e=.returned (Fd.BV (Yy nr K v))∧Zr w' g nr K∧w.grownBy w' (some g)):=by
 obtain ⟨L,HL⟩:∃ L,Hid (L=Fd.BL v):=⟨_,rfl⟩
 obtain ⟨M,HM⟩:∃ M,Hid (M=Fd.BL (Yy nr K v)):=⟨_,rfl⟩
 have HK:Hid (∀ u,Zr u g nr K→Calls Tryz.prog 32 #[.pointer (some ⟨g,0,none⟩),.agg L.toArray] u fun e w'=>Hid (e=.returned (.tuple #[.agg M.toArray,.int .i64 0])∧Zr w' g nr K∧u.grownBy w' (some g))):=fun u hu=>by
  have q:=Iu g nr K v u hu
  rw[HL.out,HM.out]
  exact q
 have HL16:Hid (L.length=16∧M.length=16∧(∀ x∈M,x.oneCell'=true)):=by rw[HL.out,HM.out];exact ⟨rfl,rfl,Yh _⟩
 show Calls Tryz.prog 188 #[_,.agg (Fd.BL v).toArray] w fun e w'=>Hid (e=.returned (.agg (Fd.BL (Yy nr K v)).toArray)∧_)
 rw[←HL.out,←HM.out]
 obtain ⟨w1,hw1⟩:∃ w1,w1=(w.alloc (.cells L.toArray 27)).alloc (.cells ZZ.toArray 27):=⟨_,rfl⟩
 have HB1:Hid (Bx w1 w.heap.size 27 L∧Bx w1 (w.heap.size+1) 27 ZZ∧Below w.heap.size w w1∧Zr w1 g nr K∧g<w.heap.size):=by
  have hb:Below w.heap.size w w1:=by rw[hw1];exact ((Below.refl _ _).alloc (Nat.le_refl _) _).alloc (by simp) _
  refine ⟨?_,?_,hb,h.below hb h.ciph.here,h.ciph.here⟩
  ·rw[hw1];exact (Bx.new w 27 L).below ((Below.refl _ _).alloc (Nat.le_refl _) _)
  ·rw[hw1];have q:=Bx.new (w.alloc (.cells L.toArray 27)) 27 ZZ;simpa using q
 have hw2:w1=(w.alloc (.cells L.toArray 27)).alloc (.cells #[.int .u8 0,.int .u8 0,.int .u8 0,.int .u8 0,.int .u8 0,.int .u8 0,.int .u8 0,.int .u8 0,.int .u8 0,.int .u8 0,.int .u8 0,.int .u8 0,.int .u8 0,.int .u8 0,.int .u8 0,.int .u8 0] 27):=hw1
 clear hw1 h
 go_enter Tryz.func188,Tryz.ntmps188
 go_upto_region 1 with fail
 rw[←hw2]
 clear hw2
 obtain ⟨m,HMM⟩:∃ m,Hid (w.heap.size=m):=⟨_,rfl⟩
 rw[HMM.out] at HB1 ⊢
 go_upto_region 2 with (first
  | (refine wpList_load_mid (by rfl) 27 (.tmp 3) (by rfl) m 0 (by rfl) L _ HB1.out.1.range Tryz.underlying27 rfl (by rw[HL16.out.1];kernel_rfl) ?_)
  | (go_at_call 32;refine (HK.out _ HB1.out.2.2.2.1).mono ?_;intro e2 w2 hh;obtain ⟨rfl,hk2,hg2⟩:=hh.out;have HB2:Hid (Zr w2 g nr K∧w1.grownBy w2 (some g)):=⟨hk2,hg2⟩;clear hh hk2 hg2)
  | (refine Ze (by rfl) 27 (.tmp 5) (.tmp 11) (by rfl) ZZ M w2.heap.size (by rfl) (by rfl) (Bx.new w2 27 ZZ) (by rw[HL16.out.2.1];rfl) (by rw[HL16.out.2.1];kernel_rfl) HL16.out.2.2 ?_;intro u3 hb3 hg3;have HB3:Hid (Bx u3 w2.heap.size 27 M∧(w2.alloc (.cells ZZ.toArray 27)).grownBy u3 (some w2.heap.size)):=⟨hb3,hg3⟩;clear hb3 hg3))
 have HS:Hid (m+1<w1.heap.size∧w1.heap.size≤w2.heap.size):=⟨HB1.out.2.1.lt,HB2.out.2.size⟩
 have h23:∀ k,k<w2.heap.size→u3.heap[k]?=w2.heap[k]?:=fun k hk=>by
  rw[HB3.out.2.block k (by simp;omega) (fun e=>by injection e with e;omega),Below.heap_alloc _ _ _ hk]
 have HX3:Hid (Bx u3 (m+1) 27 ZZ∧∀ k,k<w2.heap.size→u3.heap[k]?=w2.heap[k]?):=by
  refine ⟨(HB1.out.2.1.keep (HB2.out.2.block (m+1) HS.out.1 (fun e=>by injection e with e;have:=HB1.out.2.2.2.2;omega))).keep (h23 _ (by have:=HS.out;omega)),h23⟩
 clear h23
 go_wp2_with (first
  | (refine wpList_load_mid (by rfl) 27 (.tmp 5) (by rfl) w2.heap.size 0 (by rfl) M _ HB3.out.1.range Tryz.underlying27 rfl (by rw[HL16.out.2.1];kernel_rfl) ?_)
  | (refine Ze (by rfl) 27 (.tmp 4) (.tmp 13) (by rfl) ZZ M (m+1) (by rfl) (by rfl) HX3.out.1 (by rw[HL16.out.2.1];rfl) (by rw[HL16.out.2.1];kernel_rfl) HL16.out.2.2 ?_;intro u9 hb9 hg9))
 have e9:∀ k,k<w2.heap.size→k≠m+1→u9.heap[k]?=w2.heap[k]?:=fun k hk hn=>by
  rw[hg9.block k (by have:=HB3.out.1.lt;omega) (fun e=>by injection e with e;omega),HX3.out.2 k hk]
 have hsz:w2.heap.size≤u9.heap.size:=by have:=hg9.size;have:=HB3.out.1.lt;omega
 have hgm:=HB1.out.2.2.2.2
 refine Xl (b:=m+1) M rfl rfl hb9.range Tryz.underlying27 rfl (by rw[HL16.out.2.1];kernel_rfl) ⟨rfl,HB2.out.1.sameK (e9 g (by have:=HS.out;omega) (by omega)) hsz,?_⟩
 have hb1:=HB1.out.2.2.1
 have hg2:=HB2.out.2
 have hg3:=HB3.out.2
 refine ⟨hg9.os.trans (hg3.os.trans (hg2.os.trans hb1.os)),hg9.tape.trans (hg3.tape.trans (hg2.tape.trans hb1.tape)),hg9.output.trans (hg3.output.trans (hg2.output.trans hb1.output)),Nat.le_trans hb1.size (Nat.le_trans hg2.size hsz),fun k hk hn=>?_⟩
 have hkm:k<m:=by rw[←HMM.out];exact hk
 rw[e9 k (by have:=HS.out;omega) (by omega),hg2.block k (by have:=HS.out;omega) hn,hb1.block k hkm]
theorem Zz {P:Program} {ops:Array Oper} {o:Oper} {a:Act} {w:World} {K:Act→World→Prop} {Q:Exit→Act→World→Prop} {E:Prop} (hgd:o.guard=none) (t:TypeId) (x y:Operand) (ho:o.op=.store t x y) {bt:TypeId} (c c':List Value) (g:Nat) (hx:a.eval x=.pointer (some ⟨g,0,none⟩)) (hy:a.eval y=.agg c'.toArray)
  (hb:Bx w g bt c) (hl:c'.length=c.length) (hi:(P.info? t).map (·.size)=some c'.length) (h1:∀ v∈c',v.oneCell'=true) (h:∀ u,Hid (Bx u g bt c')→Hid (w.grownBy u (some g))→K (a.put o.dst undef) u) :
  if Region.wanted o (yielded ops a.tmps)=true then Oper.wp P o a w K Q else E:=by
 have hw:Region.wanted o (yielded ops a.tmps)=true:=by simp [Region.wanted,hgd]
 rw[if_pos hw]
 refine wp_store_mid t x y ho g 0 c'.toArray hx hy (fun j hj=>?_) (by simpa using hi) (all_oneCell_toArray h1) (h _ (hb.store c' hl) (Z5 g _ 0 w))
 rw[Nat.zero_add]
 have hj':j<c.length:=by rw[←hl];simpa using hj
 refine ⟨?_,hb.frozen j⟩
 rw[hb.cell j _ (List.getElem?_eq_getElem hj')]
 rfl
theorem Y7 {w:World} {b:Nat} {t:TypeId} {cs:List Value} (h:Bx w b t cs) {n:Nat} (hn:cs.length=n):w.there b 0 n:=fun j hj=>by
 rw[Nat.zero_add]
 refine ⟨?_,h.frozen j⟩
 rw[h.cell j _ (List.getElem?_eq_getElem (by omega))]
 rfl
theorem Zbw {w1 w2:World} {g m:Nat} {L:List Value} (hg:w1.grownBy w2 (some g)) (h1:Bx w1 m 27 L) (h2:Bx w1 (m+1) 27 ZZ) (hgm:g<m):Bx w2 m 27 L∧Bx w2 (m+1) 27 ZZ:=⟨h1.keep (hg.block m h1.lt (fun e=>by injection e with e;omega)),h2.keep (hg.block (m+1) h2.lt (fun e=>by injection e with e;omega))⟩
theorem Zbx {w2:World} {g sh m:Nat} {x:Value} {L M:List Value} (hc:w2.cell? ⟨sh,4,none⟩=some x) (hs:sh<m) (h1:Bx w2 m 27 L) (h2:Bx w2 (m+1) 27 ZZ) (hM:M.length=16):(w2.setCells (m+1) 0 M).cell? ⟨sh,4,none⟩=some x∧(w2.setCells (m+1) 0 M).rangeAt m 0 L∧(w2.setCells (m+1) 0 M).there (m+1) 0 16:=by
 have hg:w2.grownBy (w2.setCells (m+1) 0 M) (some (m+1)):=Z5 (m+1) M 0 w2
 refine ⟨?_,(h1.keep (hg.block m h1.lt (fun e=>by injection e with e;omega))).range,Y7 (h2.store M (by rw[hM];rfl)) hM⟩
 rw[World.cell?_of_block (a:=⟨sh,4,none⟩) (hg.block sh (by have:=h1.lt;omega) (fun e=>by injection e with e;omega))]
 exact hc
theorem Zby {w1 w2:World} {g sh m:Nat} {x:Value} {L:List Value} (hg:w1.grownBy w2 (some g)) (hne:sh≠g) (hc:w1.cell? ⟨sh,4,none⟩=some x) (hs:sh<w1.heap.size) (h1:Bx w1 m 27 L) (h2:Bx w1 (m+1) 27 ZZ) (hgm:g<m):w2.cell? ⟨sh,4,none⟩=some x∧w2.rangeAt m 0 L∧w2.there (m+1) 0 16:=by
 refine ⟨?_,(h1.keep (hg.block m h1.lt (fun e=>by injection e with e;omega))).range,Y7 (h2.keep (hg.block (m+1) h2.lt (fun e=>by injection e with e;omega))) rfl⟩
 rw[World.cell?_of_block (a:=⟨sh,4,none⟩) (hg.block sh hs (fun e=>hne (by injection e)))]
 exact hc
set_option maxHeartbeats 800000 in
set_option maxRecDepth 100000 in
theorem Nz (sh g nr:Nat) (K:Nat→Nat) (v:BitVec 128) (w:World) (hne:sh≠g) (hc:w.cell? ⟨sh,4,none⟩=some (.pointer (some ⟨g,0,none⟩))) (h:Zr w g nr K) :
  Calls Tryz.prog 190 #[.pointer (some ⟨sh,0,none⟩),Fd.BV v] w fun e w'=>Hid (e=.returned (Fd.BV (Yy nr K v))∧Zr w' g nr K∧w.grownBy w' (some g)):=by
 obtain ⟨L,HL⟩:∃ L,Hid (L=Fd.BL v):=⟨_,rfl⟩
 obtain ⟨M,HM⟩:∃ M,Hid (M=Fd.BL (Yy nr K v)):=⟨_,rfl⟩
 have HK:Hid (∀ u,Zr u g nr K→Calls Tryz.prog 188 #[.pointer (some ⟨g,0,none⟩),.agg L.toArray] u fun e w'=>Hid (e=.returned (.agg M.toArray)∧Zr w' g nr K∧u.grownBy w' (some g))):=fun u hu=>by
  have q:=Cj g nr K v u hu
  rw[HL.out,HM.out]
  exact q
 have HL16:Hid (L.length=16∧M.length=16∧(∀ x∈M,x.oneCell'=true)):=by rw[HL.out,HM.out];exact ⟨rfl,rfl,Yh _⟩
 show Calls Tryz.prog 190 #[_,.agg (Fd.BL v).toArray] w fun e w'=>Hid (e=.returned (.agg (Fd.BL (Yy nr K v)).toArray)∧_)
 rw[←HL.out,←HM.out]
 obtain ⟨w1,hw1⟩:∃ w1,w1=(w.alloc (.cells L.toArray 27)).alloc (.cells ZZ.toArray 27):=⟨_,rfl⟩
 have HB1:Hid (Bx w1 w.heap.size 27 L∧Bx w1 (w.heap.size+1) 27 ZZ∧Below w.heap.size w w1∧Zr w1 g nr K∧g<w.heap.size):=by
  have hb:Below w.heap.size w w1:=by rw[hw1];exact ((Below.refl _ _).alloc (Nat.le_refl _) _).alloc (by simp) _
  refine ⟨?_,?_,hb,h.below hb h.ciph.here,h.ciph.here⟩
  ·rw[hw1];exact (Bx.new w 27 L).below ((Below.refl _ _).alloc (Nat.le_refl _) _)
  ·rw[hw1];have q:=Bx.new (w.alloc (.cells L.toArray 27)) 27 ZZ;simpa using q
 have HSW:Hid (sh<w.heap.size):=World.block_lt_of_cell? w _ hc
 have c4:w1.cell? ⟨sh,4,none⟩=some (.pointer (some ⟨g,0,none⟩)):=by rw[HB1.out.2.2.1.cell (World.block_lt_of_cell? w _ hc),hc]
 have hw2:w1=(w.alloc (.cells L.toArray 27)).alloc (.cells #[.int .u8 0,.int .u8 0,.int .u8 0,.int .u8 0,.int .u8 0,.int .u8 0,.int .u8 0,.int .u8 0,.int .u8 0,.int .u8 0,.int .u8 0,.int .u8 0,.int .u8 0,.int .u8 0,.int .u8 0,.int .u8 0] 27):=hw1
 clear hw1 h hc
 go_enter Tryz.func190,Tryz.ntmps190
 go_upto_region 1 with fail
 rw[←hw2]
 clear hw2
 obtain ⟨m,HMM⟩:∃ m,Hid (w.heap.size=m):=⟨_,rfl⟩
 rw[HMM.out] at HB1 ⊢
 have HW1:Hid (m+1<w1.heap.size):=HB1.out.2.1.lt
 have HSH:Hid (sh<m):=by rw[←HMM.out];exact HSW.out
 have KD:Hid (Zr w1.drew g nr K):=HB1.out.2.2.2.1.below (Below.refl _ w1).drew (by have:=HB1.out.2.2.2.2;have:=HW1.out;omega)
 have hU:Tryz.prog.underlying 27=some (.array 16 5):=Tryz.underlying27
 have hiL:(Tryz.prog.info? 27).map (·.size)=some L.length:=by rw[HL16.out.1];kernel_rfl
 have hiM:(Tryz.prog.info? 27).map (·.size)=some M.length:=by rw[HL16.out.2.1];kernel_rfl
 have hM16:M.length=16:=HL16.out.2.1
 have hM1:∀ v∈M,v.oneCell'=true:=HL16.out.2.2
 have hr1:w1.rangeAt m 0 L:=HB1.out.1.range
 have ht1:w1.there (m+1) 0 16:=Y7 HB1.out.2.1 rfl
 go_region_held3 (fun u=>u.cell? ⟨sh,4,none⟩=some (.pointer (some ⟨g,0,none⟩))∧u.rangeAt m 0 L∧u.there (m+1) 0 16) (first | exact ⟨c4,hr1,ht1⟩ | exact hS2 | exact hS3 | go_keep)
  (first
   | (go_at_call 188;refine (HK.out _ KD.out).mono ?_;intro e2 w2 hh;obtain ⟨rfl,hk2,hg2⟩:=hh.out;have HB2:Hid (Zr w2 g nr K∧w1.grownBy w2 (some g)):=⟨hk2,hg2.os,hg2.tape,hg2.output,hg2.size,hg2.block⟩;have hS2:w2.cell? ⟨sh,4,none⟩=some (.pointer (some ⟨g,0,none⟩))∧w2.rangeAt m 0 L∧w2.there (m+1) 0 16:=Zby HB2.out.2 hne c4 (by have:=HSH.out;have:=HW1.out;omega) HB1.out.1 HB1.out.2.1 HB1.out.2.2.2.2;have HX2:Hid (Bx w2 m 27 L∧Bx w2 (m+1) 27 ZZ):=Zbw HB2.out.2 HB1.out.1 HB1.out.2.1 HB1.out.2.2.2.2;have hS3:=Zbx (g:=g) hS2.1 HSH.out HX2.out.1 HX2.out.2 hM16;clear hh hk2 hg2))
 have HB9:Hid (Bx (w2.setCells (m+1) 0 M) (m+1) 27 M∧w2.grownBy (w2.setCells (m+1) 0 M) (some (m+1))):=⟨HX2.out.2.store M (by rw[hM16];rfl),Z5 (m+1) M 0 w2⟩
 obtain ⟨u9,hu9⟩:∃ u9,u9=w2.setCells (m+1) 0 M:=⟨_,rfl⟩
 rw[←hu9] at HB9 ⊢
 clear hu9 hS2 hS3
 go_wp2
 have hgm:=HB1.out.2.2.2.2
 have hg9:=HB9.out.2
 have hg2:=HB2.out.2
 have hb1:=HB1.out.2.2.1
 have e9:∀ k,k<w2.heap.size→k≠m+1→u9.heap[k]?=w2.heap[k]?:=fun k hk hn=>hg9.block k hk (fun e=>by injection e with e;omega)
 refine Xl (b:=m+1) M rfl rfl HB9.out.1.range Tryz.underlying27 rfl hiM ⟨rfl,HB2.out.1.sameK (e9 g (by have:=HX2.out.1.lt;omega) (by omega)) hg9.size,?_⟩
 refine ⟨hg9.os.trans (hg2.os.trans hb1.os),hg9.tape.trans (hg2.tape.trans hb1.tape),hg9.output.trans (hg2.output.trans hb1.output),Nat.le_trans hb1.size (Nat.le_trans hg2.size hg9.size),fun k hk hn=>?_⟩
 have hkm:k<m:=by rw[←HMM.out];exact hk
 rw[e9 k (by have:=HX2.out.1.lt;omega) (by omega),hg2.block k (by have:=HW1.out;omega) hn,hb1.block k hkm]
theorem Lj (a:Nat) (ha:a<18446744073709551616):bits .and .u64 (a:Int) 4294967295=((a%4294967296:Nat):Int):=by
 have h:(BitVec.ofInt 64 4294967295).toNat=2^32-1:=by decide
 have key:(BitVec.ofInt 64 (a:Int) &&& BitVec.ofInt 64 4294967295).toNat=((a:Int)%((2^64:Nat):Int)).toNat%2^32:=by
  rw[BitVec.toNat_and,BitVec.toNat_ofInt,h,Nat.and_two_pow_sub_one_eq_mod]
 show IntKind.u64.wrap ((BitVec.ofInt 64 (a:Int) &&& BitVec.ofInt 64 4294967295).toNat:Nat)=_
 rw[key,IntKind.wrap_u64]
 omega
theorem Vc (a:Nat) (h:a<18446744073709551616):IntKind.u64.wrap (a:Int)=(a:Int):=by rw[IntKind.wrap_u64];omega
def bkL (F:Nat→BitVec 128) (k:Nat):List Value:=(List.range k).flatMap fun j=>Fd.BL (F j)
theorem Vx (F:Nat→BitVec 128) (k:Nat):bkL F (k+1)=bkL F k++Fd.BL (F k):=by simp [bkL,List.range_succ]
theorem Z2 (F:Nat→BitVec 128) (k:Nat):(bkL F k).length=16*k:=by
 induction k with
 | zero=>rfl
 | succ k ih=>rw[Vx,List.length_append,ih,Fd.Zl];omega
theorem Md (F : Nat → BitVec 128) (k j i : Nat) (hj : j < k) (hi : i < 16) : (bkL F k)[16 * j + i]? = some (.int .u8 (Fd.byV (F j) i : Nat)) := by
  induction k with
  | zero => omega
  | succ k ih =>
    rw [Vx]
    by_cases h : j < k
    · rw [List.getElem?_append_left (by rw [Z2]; omega)]; exact ih h
    · obtain rfl : j = k := by omega
      rw [List.getElem?_append_right (by rw [Z2]; omega), Z2, show 16 * j + i - 16 * j = i by omega, Fd.X5 _ i hi]
def bkR (F:Nat→BitVec 128) (n k:Nat):List Value:=bkL F k++List.replicate (n-16*k) (.int .u8 0)
theorem Gg (F:Nat→BitVec 128) (n k:Nat) (h:16*k≤n):(bkR F n k).length=n:=by
 rw[bkR,List.length_append,Z2,List.length_replicate];omega
theorem U0 (F:Nat→BitVec 128) (n k:Nat) (h:16*k+16≤n):splice (bkR F n k) (16*k) (Fd.BL (F k))=bkR F n (k+1):=by
 have e1:(bkR F n k).take (16*k)=bkL F k:=by rw[bkR,List.take_append_of_le_length (by rw[Z2];omega),List.take_of_length_le (by rw[Z2];omega)]
 have e2:(bkR F n k).drop (16*k+16)=List.replicate (n-16*(k+1)) (.int .u8 0):=by
  rw[bkR,List.drop_append,Z2,List.drop_of_length_le (by rw[Z2];omega),List.drop_replicate,List.nil_append,show n-16*k-(16*k+16-16*k)=n-16*(k+1) by omega]
 simp only[splice,Fd.Zl]
 rw[e1,e2,bkR,Vx]
 simp
theorem Bh (F:Nat→BitVec 128) (n:Nat):bkR F n 0=List.replicate n (.int .u8 0):=by simp [bkR,bkL]
theorem Gh (F:Nat→BitVec 128) (n k:Nat) (h:n=16*k):bkR F n k=bkL F k:=by simp [bkR,h]
theorem Cx {w:World} {base n g:Nat} {e:TypeId} {xs:List Value} (h:w.ownsRow base e 1 (.slice (some ⟨g,0,none⟩) n n) n xs):Bx w g e xs:=by
 obtain ⟨h1,h2⟩:=h
 rcases h2 with ⟨q,_⟩ | ⟨g',cap,cur,q,_,hh,_,_,hs,ht⟩
 ·cases q
 ·injection q with q1 q2 q3
  injection q1 with q1
  injection q1 with q1
  subst q1 q3
  have:xs.toArray=cur:=by
   rw[←ht,List.take_of_length_le (by simp;omega)]
  unfold Bx;rw[hh,this]
theorem V7 (j k:Nat) (h:j<k):k-(intOf (.int .i64 ((j+1:Nat):Int))).toNat<k-(intOf (.int .i64 ((j:Nat):Int))).toNat:=by
 simp [intOf];omega
end Go.Proofs.YtehlppaidgkpaaaGreatDoor
