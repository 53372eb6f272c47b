import Derived.Test.YtehlppaidgkpaaaGreatDoorRkw
import Derived.Test.YtehlppaidgkpaaaGreatDoorPart28
import Derived.Test.YtehlppaidgkpaaaGreatDoorPart13
namespace Go.Proofs.YtehlppaidgkpaaaGreatDoor
open Go.RowKit
set_option linter.unusedVariables false
set_option linter.unusedSimpArgs false
theorem L0 (v:Value) (ys:List Int) (nk:Nat) (w:World) (hnk:nk=4∨nk=6∨nk=8) (hl:ys.length=4*nk) (hv:Zf w v ys) (hb:Zd ys) :
  Calls Tryz.prog 67 #[v] w fun e w'=>Hid (e=.returned (.tuple #[.pointer (some ⟨w.heap.size,0,none⟩),.int .i64 0])∧Below w.heap.size w w'):=by
 have h0:ys≠[]:=by intro q;rw[q] at hl;simp at hl;omega
 have hlt:=W3 hv h0
 obtain ⟨a,c,rfl,h1,h2,h3,h4⟩:=hv
 rcases h4 with q | ⟨b,off,rfl,hc⟩
 ·exact absurd q h0
 ·rw[hl] at hc hlt ⊢
  have hc':∀ i,i<4*nk→w.cell? ⟨b,off+i,none⟩=some (.int .u8 (Yk ys i:Nat)):=fun i hi=>by rw[Gb hb];exact hc i hi
  exact (S0 nk (4*nk) b off c (Yk ys) w hnk rfl (hlt b off _ _ rfl) hc' (Ga hb)).mono fun e w' hh=>hh
set_option maxHeartbeats 800000 in
set_option maxRecDepth 100000 in
theorem Dj (v:Value) (ys:List Int) (nk:Nat) (w:World) (hnk:nk=4∨nk=6∨nk=8) (hl:ys.length=4*nk) (hv:Zf w v ys) (hb:Zd ys) :
  Calls Tryz.prog 47 #[v] w fun e w'=>Hid (∃ g,e=.returned (.pointer (some ⟨g,0,none⟩))∧Below w.heap.size w w'):=by
 have HC:Hid (Calls Tryz.prog 50 #[v] w fun e w'=>∃ v',e=.returned v'∧w'.ownsRow w.heap.size 5 1 v' ys.length (Za ys)∧Below w.heap.size w w'):=Fh v ys w (by omega) hv
 have HN:Hid (∀ u v',Zf u v' ys→Calls Tryz.prog 67 #[v'] u fun e w'=>Hid (e=.returned (.tuple #[.pointer (some ⟨u.heap.size,0,none⟩),.int .i64 0])∧Below u.heap.size u w')):=fun u v' hv'=>L0 v' ys nk u hnk hl hv' hb
 obtain ⟨va,vc,rfl,_⟩:=hv
 clear hnk hl hb
 go_enter Tryz.func47,Tryz.ntmps47
 go_wp2_with (first
  | (go_at_call 50;refine HC.out.mono ?_;rintro e1 w1 ⟨v1,rfl,ho1,hb1⟩;have HV1:Hid (Zf w1 v1 ys∧Below w.heap.size w w1):=⟨Xz ho1 rfl,hb1⟩;obtain ⟨xa,xc,rfl,_⟩:=HV1.out.1;clear ho1 hb1)
  | (go_at_call 67;refine (HN.out _ _ HV1.out.1).mono ?_;intro e2 w2 hh;obtain ⟨rfl,hb2⟩:=hh.out;have HR2:Hid (Below w1.heap.size w1 w2):=hb2;clear hh hb2))
 go_ret
 exact ⟨_,rfl,HV1.out.2.trans (HR2.out.mono HV1.out.2.size)⟩
def Wy (zs:List Int) (at_:Nat):List Value:=(List.range 16).map fun i=>.int .u8 (zs.getD (at_+i) 0)
theorem Kg (zs:List Int) (a:Nat):(Wy zs a).length=16:=by simp [Wy]
theorem Id (zs:List Int) (a i:Nat) (hi:i<16):(Wy zs a)[i]?=some (.int .u8 (zs.getD (a+i) 0)):=by simp [Wy,hi]
def Vw (zs:List Int) (a k:Nat):List Value:=(List.range 16).map fun i=>.int .u8 (if i<k then zs.getD (a+i) 0 else 0)
theorem Vv (zs:List Int) (a k i:Nat) (hi:i<16):(Vw zs a k)[i]?=some (.int .u8 (if i<k then zs.getD (a+i) 0 else 0)):=by simp [Vw,hi]
theorem Ux (zs:List Int) (a k:Nat) (hk:k<16):(Vw zs a k).set k (.int .u8 (zs.getD (a+k) 0))=Vw zs a (k+1):=by
 apply List.ext_getElem?
 intro j
 by_cases hj:j<16
 ·rw[Vv _ _ _ _ hj,List.getElem?_set]
  by_cases e:k=j
  ·subst e;simp [Vw,hj]
  ·rw[if_neg e,Vv _ _ _ _ hj]
   have:(j<k)↔(j<k+1):=by omega
   simp only[this]
 ·rw[List.getElem?_eq_none (by simp [Vw];omega),List.getElem?_eq_none (by simp [Vw];omega)]
theorem Zaw (zs:List Int) (a:Nat):Vw zs a 0=List.replicate 16 (.int .u8 0):=by
 apply List.ext_getElem?
 intro j
 by_cases hj:j<16
 ·rw[Vv _ _ _ _ hj,List.getElem?_replicate,if_pos hj,if_neg (by omega)]
 ·rw[List.getElem?_eq_none (by simp [Vw];omega),List.getElem?_eq_none (by simp;omega)]
theorem Ic (zs:List Int) (a:Nat):Vw zs a 16=Wy zs a:=by
 apply List.ext_getElem?
 intro j
 by_cases hj:j<16
 ·rw[Vv _ _ _ _ hj,Id _ _ _ hj,if_pos hj]
 ·rw[List.getElem?_eq_none (by simp [Vw];omega),List.getElem?_eq_none (by simp [Wy];omega)]
theorem Bg (zs:List Int) (a:Nat):∀ v∈Wy zs a,v.oneCell'=true:=by
 intro v hv
 obtain ⟨i,_,rfl⟩:=List.mem_map.1 hv
 rfl
theorem P2 {P:Program} {fn:Func} {p:Tmp} {ty:TypeId} {d:TypeDesc} {Q:Ending→World→Prop} {tmps:Array Value} {w:World} {b:Nat} (cs:List Value) (h:fn.results=#[.cell p ty])
 (hp:tmps.getD p undef=.pointer (some ⟨b,0,none⟩)) (hr:w.rangeAt b 0 cs) (hu:P.underlying ty=some d) (hd:d.isRow=true) (hi:(P.info? ty).map (·.size)=some cs.length)
 (hq:Q (.returned (.agg cs.toArray)) w):bodyPost P fn Q .ret ⟨tmps,[]⟩ w:=Yf cs h hp hr hu hd hi hq
set_option maxHeartbeats 1600000 in
set_option maxRecDepth 100000 in
theorem V4 (v:Value) (zs:List Int) (a:Nat) (w:World) (hv:Zf w v zs) (ha:a+16≤zs.length) (hm:zs.length≤100000) :
  Calls Tryz.prog 48 #[v,.int .i64 (a:Nat)] w fun e w'=>Hid (e=.returned (.agg (Wy zs a).toArray)∧Below w.heap.size w w'):=by
 obtain ⟨va,vc,rfl,h1,h2,h3,h4⟩:=hv
 obtain ⟨b,off,rfl,hc⟩:∃ b off,va=some ⟨b,off,none⟩∧∀ i,i<zs.length→w.cell? ⟨b,off+i,none⟩=some (.int .u8 (zs.getD i 0)):=by
  rcases h4 with q | q
  ·rw[q] at ha;simp at ha
  ·exact q
 have HC:Hid (∀ i,i<zs.length→w.cell? ⟨b,off+i,none⟩=some (.int .u8 (zs.getD i 0))):=hc
 obtain ⟨n,HNL⟩:∃ n,Hid (zs.length=n):=⟨_,rfl⟩
 rw[HNL.out] at ha hm HC ⊢
 clear h1 h2 h3 h4 hc
 go_enter Tryz.func48,Tryz.ntmps48
 go_upto_region 2 with fail
 obtain ⟨w1,hw1⟩:∃ w1,w1=(w.alloc (.cells (List.replicate 16 (.int .u8 0)).toArray 27)).alloc (.cells (List.replicate 16 (.int .u8 0)).toArray 27):=⟨_,rfl⟩
 have HB1:Hid (Bx w1 w.heap.size 27 (List.replicate 16 (.int .u8 0))∧Bx w1 (w.heap.size+1) 27 (Vw zs a 0)∧Below w.heap.size w w1):=by
  rw[hw1]
  refine ⟨(Bx.new w 27 _).below ((Below.refl _ _).alloc (Nat.le_refl _) _),?_,((Below.refl _ _).alloc (Nat.le_refl _) _).alloc (by simp) _⟩
  have q:=Bx.new (w.alloc (.cells (List.replicate 16 (.int .u8 0)).toArray 27)) 27 (List.replicate 16 (.int .u8 0))
  rw[Zaw]
  simpa using q
 have hw1':w1=(w.alloc (.cells #[.int .u8 0,.int .u8 0,.int .u8 0,.int .u8 0,.int .u8 0,.int .u8 0,.int .u8 0,.int .u8 0,.int .u8 0,.int .u8 0,.int .u8 0,.int .u8 0,.int .u8 0,.int .u8 0,.int .u8 0,.int .u8 0] 27)).alloc (.cells #[.int .u8 0,.int .u8 0,.int .u8 0,.int .u8 0,.int .u8 0,.int .u8 0,.int .u8 0,.int .u8 0,.int .u8 0,.int .u8 0,.int .u8 0,.int .u8 0,.int .u8 0,.int .u8 0,.int .u8 0,.int .u8 0] 27):=hw1
 rw[←hw1']
 clear hw1 hw1'
 obtain ⟨m,HM⟩:∃ m,Hid (w.heap.size=m):=⟨_,rfl⟩
 rw[HM.out] at HB1 ⊢
 go_wp2
 go_loopw [6] (fun vi wr=>∃ k:Nat,vi=.int .i64 (k:Nat)∧k≤16∧Hid (Bx wr m 27 (List.replicate 16 (.int .u8 0))∧Bx wr (m+1) 27 (Vw zs a k)∧Below m w wr)) (fun vi _=>16-(intOf vi).toNat)
 case atStart=>exact ⟨0,rfl,by omega,HB1⟩
 case round=>
  obtain ⟨k,rfl,hk,HR⟩:=hrel
  clear HB1
  by_cases hlt:k<16
  ·obtain ⟨z,HZ⟩:∃ z,Hid (zs.getD (a+k) 0=z):=⟨_,rfl⟩
   obtain ⟨q,HQ⟩:∃ q:Nat,Hid (q=a+k):=⟨_,rfl⟩
   have hw:IntKind.i64.wrap ((a:Int)+(k:Int))=(q:Int):=by rw[IntKind.wrap_i64,HQ.out];omega
   have hcc:wr.cell? ⟨b,off+q,none⟩=some (.int .u8 z):=by
    have p:=HC.out (a+k) (by omega)
    rw[HQ.out,HR.out.2.2.cell (by have:=World.block_lt_of_cell? w _ p;rw[HM.out] at this;exact this),p,HZ.out]
   have g0:(0:Int)≤(k:Int):=by omega
   have g1:(k:Int)<16:=by omega
   have g2:(0:Int)≤(q:Int):=by omega
   have g3:(q:Int)<(n:Int):=by rw[HQ.out];omega
   have g4:(a:Int)+(k:Int)=(q:Int):=by rw[HQ.out];omega
   have d0:wr.cell? ⟨m+1,k,none⟩=some (.int .u8 (if k<k then zs.getD (a+k) 0 else 0)):=HR.out.2.1.cell k _ (Vv zs a k k hlt)
   have d1:wr.frozen? ⟨m+1,k,none⟩=false:=HR.out.2.1.frozen k
   rw[if_neg (by omega)] at d0
   have HR2:Hid (Bx (wr.setCell ⟨m+1,k,none⟩ (.int .u8 z)) m 27 (List.replicate 16 (.int .u8 0))∧Bx (wr.setCell ⟨m+1,k,none⟩ (.int .u8 z)) (m+1) 27 (Vw zs a (k+1))∧Below m w (wr.setCell ⟨m+1,k,none⟩ (.int .u8 z))):=by
    refine ⟨HR.out.1.keep (Below.heap_setCell _ ⟨m+1,k,none⟩ _ m (by show m≠m+1;omega)),?_,HR.out.2.2.setCell (by show m≤m+1;omega) _⟩
    have p:=HR.out.2.1.set k (.int .u8 z)
    rw[←HZ.out,Ux zs a k hlt,HZ.out] at p
    exact p
   clear HR
   go_wp2
   exact ⟨⟨k+1,by simp,by omega,HR2⟩,by simp [intOf];omega⟩
  ·have g1:¬ (k:Int)<16:=by omega
   have HE:Hid (Bx wr m 27 (List.replicate 16 (.int .u8 0))∧Bx wr (m+1) 27 (Wy zs a)∧Below m w wr):=by
    have p:=HR.out
    rw[show k=16 by omega,Ic] at p
    exact p
   clear HR
   go_wp2_with (first
    | (refine wpList_load_mid (by rfl) 27 (.tmp 5) (by rfl) (m+1) 0 (by rfl) (Wy zs a) _ HE.out.2.1.range Tryz.underlying27 rfl (by rw[Kg];kernel_rfl) ?_)
    | (refine Ze (by rfl) 27 (.tmp 4) (.tmp 19) (by rfl) (List.replicate 16 (.int .u8 0)) (Wy zs a) m (by rfl) (by rfl) HE.out.1 (by rw[Kg];rfl) (by rw[Kg];kernel_rfl) (Bg zs a) ?_;intro u9 hb9 hg9))
   refine P2 (b:=m) (Wy zs a) rfl rfl hb9.range Tryz.underlying27 rfl (by rw[Kg];kernel_rfl) ⟨rfl,?_⟩
   have hfin:Below m w u9:=HE.out.2.2.trans (Zm hg9 (by have:=HE.out.2.2.size;have:=HM.out;omega) (Nat.le_refl _))
   first | exact hfin | (rw[HM.out];exact hfin)
end Go.Proofs.YtehlppaidgkpaaaGreatDoor
