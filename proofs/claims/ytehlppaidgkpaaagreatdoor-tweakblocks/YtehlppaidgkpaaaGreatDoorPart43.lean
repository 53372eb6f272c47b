import Derived.Test.YtehlppaidgkpaaaGreatDoorCards
import Derived.Test.YtehlppaidgkpaaaGreatDoorTie
import Derived.Test.YtehlppaidgkpaaaGreatDoorPart40
import Derived.Test.YtehlppaidgkpaaaGreatDoorPart23
import Derived.Test.YtehlppaidgkpaaaGreatDoorPart41
import Derived.Laws.CopyOwn
import Derived.Test.YtehlppaidgkpaaaGreatDoorPart38
import Derived.Test.YtehlppaidgkpaaaGreatDoorFdTimes
import Derived.Test.YtehlppaidgkpaaaGreatDoorNwx
import Derived.Test.YtehlppaidgkpaaaGreatDoorPart17
namespace Go.Proofs.YtehlppaidgkpaaaGreatDoor
open Go.ChangeShapes Go.WideShapes Go.ChangeAt Go.RowKit
set_option linter.unusedVariables false
theorem Zdi:Tryz.prog.cellsOf 22=1:=by kernel_rfl
theorem Zdg:Tryz.prog.cellsOf 24=2:=by kernel_rfl
theorem array2 {α:Type} {cs:Array α} (h:cs.size=2):∃ c0 c1,cs=#[c0,c1]:=by
 obtain ⟨l⟩:=cs
 match l,h with
 | [c0,c1],_=>exact ⟨c0,c1,rfl⟩
theorem E8 {H:Type} {enc:TypeId×Value→H} {W:World} {n:Nat} {c:Value} {y:DataW H×List MemPlace} (h:DataW.trod enc Tryz.prog W 0 (fun _=>true) true n 3 [c]=some y):∃ z,c=.int .i64 z:=by
 obtain ⟨z,hz,_⟩:=DataW.trod_int Tryz.underlying3 h
 exact ⟨z,by simpa using hz⟩
theorem Lu {H:Type} {enc:TypeId×Value→H} {W:World} {n:Nat} {c:Value} {y:DataW H×List MemPlace} (h:DataW.trod enc Tryz.prog W 0 (fun _=>true) true n 22 [c]=some y):∃ a l cap xs,c=.slice a l cap∧Zi W (.slice a l cap) xs∧Zg xs∧xs.length=l:=by
 have hc:∃ a l cap,c=.slice a l cap:=by
  rcases open_ints Tryz.underlying22 Tryz.underlying5 cells5 h with ⟨hcs,_⟩ | ⟨a,l,cap,zs,hcs,_⟩
  ·exact ⟨none,0,0,by simpa using hcs⟩
  ·exact ⟨some a,l,cap,by simpa using hcs⟩
 obtain ⟨a,l,cap,rfl⟩:=hc
 obtain ⟨xs,hl,hb,hv,_⟩:=Fv (enc:=enc) (W:=W) (a:=a) (len:=l) (cap:=cap) (d:=y.1) (p:=y.2) ⟨n,by simpa [Value.cells] using h⟩
 exact ⟨a,l,cap,xs,rfl,hv,hb,hl⟩
set_option maxRecDepth 100000 in
theorem Td {H : Type} {enc : TypeId × Value → H} {W : World} {r : Reach} {b0 : Nat} {v : Value} {d : DataW H} {p : List MemPlace} (hv : Value.okWide Tryz.prog W r b0 24 v) (h : DataW.Trod enc Tryz.prog W 0 (fun _ => true) true 24 v d p) :
    ∃ (nm : Int) (za : Option Addr) (zn zc : Nat) (Z : List Int), v = .agg #[.int .i64 nm, .slice za zn zc] ∧ Zi W (.slice za zn zc) Z ∧ Zg Z ∧ Z.length = zn := by
  obtain ⟨cs, rfl, hsz⟩ := okWide_struct Tryz.underlying24 hv
  obtain ⟨c0, c1, rfl⟩ := array2 (hsz.trans Zdg)
  obtain ⟨fuel, hf⟩ := h
  obtain ⟨xs, n, _, hx, _, hlen, hfs⟩ := DataW.trod_struct Tryz.underlying24 hf
  match xs, hlen with
  | [y0, y1], _ =>
    have h0 := hfs 0 _ rfl
    have h1 := hfs 1 _ rfl
    simp [Value.cells, cells3, Zdi] at h0 h1
    obtain ⟨hh, rfl⟩ := E8 h0
    obtain ⟨za, zn, zc, Z, rfl, vZ, bZ, lZ⟩ := Lu h1
    exact ⟨hh, za, zn, zc, Z, rfl, vZ, bZ, lZ⟩
theorem Pq {H:Type} {enc:TypeId×Value→H} {W:World} {v:Value} {d:DataW H} {p:List MemPlace} (hv:∃ z,v=.int .u64 z) (h:DataW.Trod enc Tryz.prog W 0 (fun _=>true) true 25 v d p):∃ s:Nat,v=.int .u64 (s:Nat)∧s<18446744073709551616:=by
 obtain ⟨z,rfl⟩:=hv
 obtain ⟨fuel,hf⟩:=h
 obtain ⟨n,hn,_,hw⟩:=DataW.trod_int Tryz.underlying25 hf
 simp [Value.cells] at hn
 subst hn
 simp [Lit.wf,IntKind.min,IntKind.max,IntKind.signed,IntKind.bits] at hw
 exact ⟨z.toNat,by congr 1;omega,by omega⟩
theorem Zdh:Tryz.prog.cellsOf 27=16:=by kernel_rfl
theorem Mx {H:Type} {enc:TypeId×Value→H} {W:World} {spare:Nat→Bool} {fuel:Nat} {cs:List Value} {x:DataW H×List MemPlace} (hl:cs.length=16) (h:DataW.trod enc Tryz.prog W 0 spare true fuel 27 cs=some x):∃ v:BitVec 128,cs=Fd.BL v:=by
 obtain ⟨xs,m,_,_,_,hlen,hi⟩:=DataW.trod_array Tryz.underlying27 h
 have hc:∀ i,i<16→∃ z:Nat,z<256∧cs[i]?=some (.int .u8 (z:Nat)):=fun i h16=>by
  have hx:xs[i]?=some xs[i]:=List.getElem?_eq_getElem (by omega)
  have h1:=hi i h16
  rw[hx,cells5,Nat.mul_one] at h1
  obtain ⟨n,hn,_,hw⟩:=DataW.trod_int Tryz.underlying5 h1
  have h2:IntKind.u8.min=0:=rfl
  have h3:IntKind.u8.max=255:=rfl
  simp only[Lit.wf,Bool.and_eq_true,decide_eq_true_eq] at hw
  refine ⟨n.toNat,by omega,?_⟩
  have h6:cs[i]?=some (.int .u8 n):=by
   have:=congrArg (fun l=>l[0]?) hn
   simpa using this
  rw[h6]
  congr 2
  omega
 obtain ⟨F,hF1,hF2⟩:∃ F:Nat→Nat,(∀ i,F i<256)∧∀ i,i<16→cs[i]?=some (.int .u8 (F i:Nat)):=by
  refine ⟨fun i=>if h:i<16 then (hc i h).choose else 0,fun i=>?_,fun i h=>?_⟩
  ·by_cases h:i<16
   ·simp only[dif_pos h];exact (hc i h).choose_spec.1
   ·simp only[dif_neg h];decide
  ·simp only[dif_pos h]
   exact (hc i h).choose_spec.2
 exact ⟨BitVec.ofNat 128 (Fd.pk F 16),Fd.Zcy hl fun i hi=>by rw[Fd.Vm F hF1 i hi];exact hF2 i hi⟩
set_option maxRecDepth 100000 in
theorem My {H:Type} {enc:TypeId×Value→H} {W:World} {r:Reach} {b0:Nat} {v:Value} {d:DataW H} {p:List MemPlace} (hv:Value.okWide Tryz.prog W r b0 27 v) (h:DataW.Trod enc Tryz.prog W 0 (fun _=>true) true 27 v d p) :
  ∃ x:BitVec 128,v=Fd.BV x:=by
 simp only[Value.okWide,Tryz.underlying27] at hv
 obtain ⟨cs,rfl,hsz,_⟩:=hv
 rw[Zdh] at hsz
 obtain ⟨fuel,hf⟩:=h
 have h4:(Value.agg cs).cells.toList=cs.toList:=by simp [Value.cells]
 rw[h4] at hf
 obtain ⟨x,hx⟩:=Mx (by simpa using hsz) hf
 refine ⟨x,?_⟩
 show Value.agg cs=Value.agg (Fd.BL x).toArray
 rw[←hx]
open Go.RowKit
set_option linter.unusedSimpArgs false
def Zeu (sh:Nat) (fv sv pv:Value):Prop:=fv=fV 183∧sv=bV 203 [.pointer (some ⟨sh,0,none⟩),fV 183]∧pv=bV 204 [.pointer (some ⟨sh,0,none⟩),fV 183]
theorem Zco (i:Nat) (hi:i<3) (v:Value) (zs:List Int) (w:World) (hf:∀ j,j<1+17*i+14→spN j≠sxN i 14) (hv:Zi w v zs) (hb:Zg zs) (hl:zs.length=1*(16+8*i)+16) (hP:Pow w) (hT:Dg.Tables w) (hrc:RC w) :
  Calls Tryz.prog 26 #[.string (sxN i 14),v] w fun e w'=>Zdv w (sxN i 14) 16 (16+8*i) zs Zeu e w':=by
 have q8:16+8*i=4*(4+2*i):=by omega
 have hpos:1<w.heap.size:=by have:=hT.size;omega
 refine B8 (sxN i 14) (nmB 14) (16+8*i) 1 16 16 159 (fV 152) v zs w (fun fv=>fv=fV 183) Zeu (.inr ⟨_,rfl⟩) hv (by omega) (by omega) (by omega) hl ?_ ?_ (fun args w=>Zr Tryz.func159 (by rfl) (by rfl) args w) ?_ ?_ ?_ ?_
 ·have q:=G7 (sxN i 14) (1+17*i+14) w hP (by omega) (Qn i 14 (by omega)) hf
  rw[Vy i 14 (by omega)] at q
  exact q
 ·intro u hu
  have q:=V0 (sxN i 14) (nmB 14) (4+2*i) 1 16 16 (fV 152) (fV 159) v zs u rfl rfl (hv.below hu) hb (by omega) (by omega) (by omega) (hrc.belowB hu hpos) (Nat.lt_of_lt_of_le hpos hu.size)
  rw[←q8] at q
  exact q.mono fun e u' h=>h
 ·intro bg hbg
  obtain rfl:bg=152:=by injection hbg with e;injection e with e;exact e.symm
  exact fun args w=>Zr Tryz.func152 (by rfl) (by rfl) args w
 ·intro q;cases q
 ·intro bg hbg B sh kv mp u hu hB1 hB2 hA
  obtain rfl:bg=152:=by injection hbg with e;injection e with e;exact e.symm
  refine (Dh _ u).mono ?_
  rintro e u' ⟨rfl,hw⟩
  obtain rfl:=hw.symm
  exact ⟨_,_,_,_,rfl,hA,⟨0,[],by omega,World.ownsRow_nil _ _ _ _⟩,Fs.of_below (Below.refl _ _) hB2,rfl⟩
 ·intro fv B sh kv mp ov u _ hΦ hu hB1 hB2 hA few
  subst hΦ
  refine (Nr sh 183 #[] #[] u).mono ?_
  intro e u' hh
  obtain ⟨rfl,hb⟩:=hh.out
  exact ⟨_,_,_,_,_,_,_,rfl,hA.below hb,Fs.of_below hb hB2,rfl,rfl,rfl⟩
set_option maxHeartbeats 800000 in
set_option maxRecDepth 100000 in
theorem Hk (b off n c j:Nat) (w:World) (hj:16*j+16≤n) (hn:n≤c) (hc:n≤1000000) :
  Calls Tryz.prog 227 #[.slice (some ⟨b,off,none⟩) n c,.int .i64 (j:Nat)] w fun e w'=>Hid (e=.returned (.slice (some ⟨b,off+16*j,none⟩) 16 16)∧Below w.heap.size w w'):=by
 have hS:∀ u:World,(Instr.slice 22 (.slice (some ⟨b,off,none⟩) n c) (some (.int .i64 ((j:Int)*16))) (some (.int .i64 ((j:Int)*16+16))) (some (.int .i64 ((j:Int)*16+16)))).run Tryz.prog u=.ok (.slice (some ⟨b,off+16*j,none⟩) 16 16) u:=fun u=>by
  have q:=run_slice_lhm (P:=Tryz.prog) u 22 (some ⟨b,off,none⟩) n c Dn .i64 .i64 .i64 ((j:Int)*16) ((j:Int)*16+16) ((j:Int)*16+16) (by omega) (by omega) (by omega) (by omega)
  rw[q,show Tryz.prog.elem 22=5 by kernel_rfl,sizeOf5]
  simp only[Result.andThen_ok,sliced]
  rw[show ((j:Int)*16).toNat=16*j by omega,show ((j:Int)*16+16).toNat=16*j+16 by omega,if_neg (by omega),Option.map_some,Nat.mul_one,Addr.add_mid,show 16*j+16-16*j=16 by omega]
 have e1:IntKind.i64.wrap ((j:Int)*16)=(j:Int)*16:=by rw[IntKind.wrap_i64];omega
 have e2:IntKind.i64.wrap ((j:Int)*16+16)=(j:Int)*16+16:=by rw[IntKind.wrap_i64];omega
 clear hj hn hc
 go_enter Tryz.func227,Tryz.ntmps227
 go_wp2
 go_ret
 exact ⟨rfl,Below.refl _ _⟩
def cutV (zs:List Int) (j:Nat):BitVec 128:=BitVec.ofNat 128 (Fd.pk (fun i=>Y4 zs (16*j+i)) 16)
theorem Zay {zs:List Int} (h:Zg zs) (j i:Nat) (hi:i<16):((Fd.byV (cutV zs j) i:Nat):Int)=zs.getD (16*j+i) 0:=by
 rw[cutV,Fd.Vm _ (fun i=>V6 h _) i hi,Gz h]
theorem Yt (v:BitVec 128):∀ x∈Fd.BL v,x.oneCell'=true:=by
 intro x hx
 obtain ⟨i,hi⟩:=List.mem_iff_getElem?.1 hx
 by_cases h:i<16
 ·rw[Fd.Qc v i h] at hi;injection hi with hi;subst hi;rfl
 ·rw[List.getElem?_eq_none (by rw[Fd.Zq];omega)] at hi;cases hi
abbrev ZZ:List Value:=[.int .u8 0,.int .u8 0,.int .u8 0,.int .u8 0,.int .u8 0,.int .u8 0,.int .u8 0,.int .u8 0,.int .u8 0,.int .u8 0,.int .u8 0,.int .u8 0,.int .u8 0,.int .u8 0,.int .u8 0,.int .u8 0]
set_option maxHeartbeats 800000 in
set_option maxRecDepth 100000 in
theorem He (b off c j:Nat) (zs:List Int) (w:World) (hj:16*j+16≤zs.length) (hn:zs.length≤c) (hc:zs.length≤1000000) (hb:Zg zs) (hz:∀ i,i<zs.length→w.cell? ⟨b,off+i,none⟩=some (.int .u8 (zs.getD i 0))) :
  Calls Tryz.prog 197 #[.slice (some ⟨b,off,none⟩) zs.length c,.int .i64 (j:Nat)] w fun e w'=>Hid (e=.returned (Fd.BV (cutV zs j))∧Below w.heap.size w w'):=by
 obtain ⟨n,HNL⟩:∃ n,Hid (zs.length=n):=⟨_,rfl⟩
 have HA:Hid (∀ u,Calls Tryz.prog 227 #[.slice (some ⟨b,off,none⟩) n c,.int .i64 (j:Nat)] u fun e w'=>Hid (e=.returned (.slice (some ⟨b,off+16*j,none⟩) 16 16)∧Below u.heap.size u w')):=fun u=>Hk b off n c j u (by rw[←HNL.out];exact hj) (by rw[←HNL.out];exact hn) (by rw[←HNL.out];exact hc)
 obtain ⟨L,HL⟩:∃ L,Hid (L=Fd.BL (cutV zs j)):=⟨_,rfl⟩
 have HLC:Hid (∀ u,Below w.heap.size w u→∀ i v,L[i]?=some v→u.cell? ((⟨b,off+16*j,none⟩:Addr).add i)=some v):=fun u hu i v hv=>by
  have h16:i<16:=by
   rw[HL.out] at hv
   have:=(List.getElem?_eq_some_iff.1 hv).1
   rw[Fd.Zq] at this;exact this
  rw[HL.out,Fd.Qc _ i h16,Zay hb j i h16] at hv
  injection hv with hv
  subst hv
  have p:=hz (16*j+i) (by omega)
  rw[Addr.add_mid,Nat.add_assoc,hu.cell (World.block_lt_of_cell? w _ p),p]
 have HLL:Hid (L.length=16∧∀ x∈L,x.oneCell'=true):=by rw[HL.out];exact ⟨Fd.Zq _,Yt _⟩
 rw[HNL.out]
 clear hj hn hc hz hb
 go_enter Tryz.func197,Tryz.ntmps197
 obtain ⟨w1,hw1⟩:∃ w1,w1=(w.alloc (.cells #[.int .u8 0,.int .u8 0,.int .u8 0,.int .u8 0,.int .u8 0,.int .u8 0,.int .u8 0,.int .u8 0,.int .u8 0,.int .u8 0,.int .u8 0,.int .u8 0,.int .u8 0,.int .u8 0,.int .u8 0,.int .u8 0] 27)).alloc (.cells #[.int .u8 0,.int .u8 0,.int .u8 0,.int .u8 0,.int .u8 0,.int .u8 0,.int .u8 0,.int .u8 0,.int .u8 0,.int .u8 0,.int .u8 0,.int .u8 0,.int .u8 0,.int .u8 0,.int .u8 0,.int .u8 0] 27):=⟨_,rfl⟩
 have HB1:Hid (Bx w1 w.heap.size 27 ZZ∧Bx w1 (w.heap.size+1) 27 ZZ∧Below w.heap.size w w1):=by
  refine ⟨?_,?_,?_⟩
  ·rw[hw1];exact (Bx.new w 27 ZZ).below ((Below.refl _ _).alloc (Nat.le_refl _) _)
  ·rw[hw1];have q:=Bx.new (w.alloc (.cells ZZ.toArray 27)) 27 ZZ;simpa using q
  ·rw[hw1];exact ((Below.refl _ _).alloc (Nat.le_refl _) _).alloc (by simp) _
 go_upto_region 2 with fail
 rw[←hw1]
 clear hw1
 obtain ⟨m,HM⟩:∃ m,Hid (w.heap.size=m):=⟨_,rfl⟩
 rw[HM.out] at HB1 HLC ⊢
 have HW1:Hid (m+1<w1.heap.size):=HB1.out.2.1.lt
 go_region_held3 (fun _=>True) (first | trivial | go_keep)
  (first
   | (go_at_call 227;refine (HA.out _).mono ?_;intro e2 w2 hh;obtain ⟨rfl,hb2⟩:=hh.out;have HB2:Hid (Below w1.heap.size w1 w2):=(Below.refl _ _).drew.trans hb2;clear hh hb2)
   | (refine step_copy_splice rfl (.tmp 6) (.tmp 9) 22 22 rfl 5 Tryz.underlying22 (by kernel_rfl) _ _ 16 16 16 16 rfl rfl (m+1) 0 ZZ 27 (HB1.out.2.1.below HB2.out) L HLL.out.1 (fun _=>⟨rfl,_,rfl,HLC.out w2 (HB1.out.2.2.trans (HB2.out.mono (by have:=HW1.out;omega)))⟩) (by rw[HLL.out.1];decide) HLL.out.2 (m+1) w2 (Below.refl _ _) (Nat.le_refl _) ?_;intro w3 HG3 hb3;have HB3:Hid (Below (m+1) w2 w3):=hb3;clear hb3))
 have HX3:Hid (Bx w3 (m+1) 27 L∧Bx w3 m 27 ZZ∧Below m w w3):=by
  refine ⟨?_,(HB1.out.1.below HB2.out).keep (HB3.out.block m (by omega)),HB1.out.2.2.trans ((HB2.out.mono (by have:=HW1.out;omega)).trans (HB3.out.mono (by omega)))⟩
  have q:=HG3.out
  have e:splice ZZ 0 L=L:=by simp [splice,HLL.out.1]
  rw[e] at q
  exact q
 clear HG3 HB3 HB1
 go_wp2_with (first
  | (refine wpList_load_mid (by rfl) 27 (.tmp 5) (by rfl) (m+1) 0 (by rfl) L _ HX3.out.1.range Tryz.underlying27 rfl (by rw[HLL.out.1];kernel_rfl) ?_)
  | (refine Zm (by rfl) 27 (.tmp 4) (.tmp 11) (by rfl) ZZ L m (by rfl) (by rfl) HX3.out.2.1 (by rw[HLL.out.1];rfl) (by rw[HLL.out.1];kernel_rfl) HLL.out.2 ?_;intro u9 hb9 hg9))
 refine Xo (b:=m) L rfl rfl hb9.range Tryz.underlying27 rfl (by rw[HLL.out.1];kernel_rfl) ⟨?_,?_⟩
 ·rw[HL.out];rfl
 ·have hfin:Below m w u9:=HX3.out.2.2.trans (Yi hg9 (by have:=HX3.out.2.1.lt;omega) (by omega))
  first | exact hfin | (rw[HM.out];exact hfin)
theorem Sz (w:World) (g:Nat) (cs:Array Value):w.grownBy (w.setRow g cs) (some g):=⟨rfl,rfl,rfl,by simp [World.setRow],fun k _ hk=>setRow_other w g k cs (fun e=>hk (by rw[e]))⟩
theorem Jq {P:Program} {ops:Array Oper} {o:Oper} {a:Act} {w:World} {K:Act→World→Prop} {Q:Exit→Act→World→Prop} {E:Prop} (hgd:o.guard=none) (d s:Operand)
  (ho:o.op=.call { callee:=.builtin .copy,args:=#[d,s],argTypes:=#[22,22] }) (hu:P.underlying 22=some (.slice 5)) (hsz:(P.info? 5).map (·.size)=some 1)
  (g off dLen dCap sLen sCap:Nat) (ad:Addr) (hd:a.eval d=.slice (some ⟨g,off,none⟩) dLen dCap) (hs:a.eval s=.slice (some ad) sLen sCap)
  (cur:List Value) (t:TypeId) (hg:w.heap[g]?=some (.cells cur.toArray t (0,0))) (cs:List Value) (hn:cs.length=Nat.min sLen dLen)
  (hsrc:∀ j v,cs[j]?=some v→w.cell? (ad.add j)=some v) (hfit:off+cs.length≤cur.length) (h1:∀ v∈cs,v.oneCell'=true)
  (h:∀ w',Hid (w'.heap[g]?=some (.cells (splice cur off cs).toArray t (0,0)))→Hid (w.grownBy w' (some g))→K (a.put o.dst (goInt cs.length)) w') :
  if Region.wanted o (yielded ops a.tmps)=true then Oper.wp P o a w K Q else E:=by
 have hw:Region.wanted o (yielded ops a.tmps)=true:=by simp [Region.wanted,hgd]
 rw[if_pos hw]
 have hrun:=run_copy_row (P:=P) w 22 22 o.type 5 g off dLen dCap ad sLen sCap cur.toArray t cs hu hsz hg hn hsrc (by simpa using hfit) h1
 unfold Oper.wp
 simp [execOp,ho,resolve,invoke,builtin,hd,hs,hrun,Result.andThen]
 exact h _ (show _=_ by simpa [splice] using setRow_heap w g _ _ t _ hg) (Sz w g _)
set_option maxHeartbeats 800000 in
set_option maxRecDepth 100000 in
theorem C4 (g n c j:Nat) (v:BitVec 128) (cur:List Value) (w:World) (hj:16*j+16≤n) (hn:n≤c) (hc:n≤1000000) (hcur:n≤cur.length) (hg:Bx w g 5 cur) :
  Calls Tryz.prog 234 #[.slice (some ⟨g,0,none⟩) n c,.int .i64 (j:Nat),Fd.BV v] w fun e w'=>Hid (e=.returned (.tuple #[])∧Bx w' g 5 (splice cur (16*j) (Fd.BL v))∧w.grownBy w' (some g)):=by
 have HA:Hid (∀ u,Calls Tryz.prog 227 #[.slice (some ⟨g,0,none⟩) n c,.int .i64 (j:Nat)] u fun e w'=>Hid (e=.returned (.slice (some ⟨g,0+16*j,none⟩) 16 16)∧Below u.heap.size u w')):=fun u=>Hk g 0 n c j u hj hn hc
 obtain ⟨L,HL⟩:∃ L,Hid (L=Fd.BL v):=⟨_,rfl⟩
 have HLL:Hid (L.length=16∧∀ x∈L,x.oneCell'=true):=by rw[HL.out];exact ⟨Fd.Zq _,Yt _⟩
 have HF:Hid (16*j+16≤cur.length):=(by omega:16*j+16≤cur.length)
 obtain ⟨w1,hw1⟩:∃ w1,w1=w.alloc (.cells L.toArray 27):=⟨_,rfl⟩
 have HB1:Hid (Bx w1 w.heap.size 27 L∧Bx w1 g 5 cur∧Below w.heap.size w w1∧g<w.heap.size):=by
  rw[hw1];exact ⟨Bx.new w 27 L,hg.below ((Below.refl _ _).alloc (Nat.le_refl _) _),(Below.refl _ _).alloc (Nat.le_refl _) _,hg.lt⟩
 show Calls Tryz.prog 234 #[_,_,.agg (Fd.BL v).toArray] w _
 rw[←HL.out]
 clear hj hn hc hcur hg
 go_enter Tryz.func234,Tryz.ntmps234
 go_upto_region 1 with fail
 rw[←hw1]
 clear hw1
 obtain ⟨m,HM⟩:∃ m,Hid (w.heap.size=m):=⟨_,rfl⟩
 rw[HM.out] at HB1 ⊢
 go_region_held3 (fun _=>True) (first | trivial | go_keep)
  (first
   | (go_at_call 227;refine (HA.out _).mono ?_;intro e2 w2 hh;obtain ⟨rfl,hb2⟩:=hh.out;have HB2:Hid (Below w1.heap.size w1 w2):=(Below.refl _ _).drew.trans hb2;clear hh hb2)
   | (refine Jq rfl (.tmp 8) (.tmp 9) rfl Tryz.underlying22 (by kernel_rfl) g (16*j) 16 16 16 16 ⟨m,0,none⟩ (by first | rfl | simp) (by first | rfl | simp) cur 5 (HB1.out.2.1.below HB2.out) L HLL.out.1 (fun i v hv=>by rw[Addr.add_mid];exact (HB1.out.1.below HB2.out).range i v hv) (by rw[HLL.out.1];exact HF.out) HLL.out.2 ?_;intro w3 HG3 HB3))
 go_end0
 refine ⟨rfl,?_,?_⟩
 ·exact HG3.out
 ·have e1:w.grownBy w2 (some g):=by
   have q:=HB1.out.2.2.1.trans (HB2.out.mono (by have:=HB1.out.1.lt;omega))
   exact ⟨q.os,q.tape,q.output,q.size,fun k hk _=>q.block k (by rw[←HM.out];exact hk)⟩
  exact F3 e1 HB3.out
theorem Be {a b c d:Nat} (ha:a<256) (hb:b<256) (hc:c<256) (hd:d<256):bt0 (wd a b c d)=a∧bt1 (wd a b c d)=b∧bt2 (wd a b c d)=c∧bt3 (wd a b c d)=d:=by
 unfold wd bt0 bt1 bt2 bt3;omega
def toW (v:BitVec 128):W4:=⟨wd (Fd.byV v 0) (Fd.byV v 1) (Fd.byV v 2) (Fd.byV v 3),wd (Fd.byV v 4) (Fd.byV v 5) (Fd.byV v 6) (Fd.byV v 7),wd (Fd.byV v 8) (Fd.byV v 9) (Fd.byV v 10) (Fd.byV v 11),wd (Fd.byV v 12) (Fd.byV v 13) (Fd.byV v 14) (Fd.byV v 15)⟩
theorem Us (v:BitVec 128):(toW v).ok:=by
 have h:=Fd.Qx v
 exact ⟨Jc (h _) (h _) (h _) (h _),Jc (h _) (h _) (h _) (h _),Jc (h _) (h _) (h _) (h _),Jc (h _) (h _) (h _) (h _)⟩
theorem Re (v:BitVec 128):(toW v).blk=Fd.BV v:=by
 have h:=Fd.Qx v
 obtain ⟨a0,a1,a2,a3⟩:=Be (h 0) (h 1) (h 2) (h 3)
 obtain ⟨b0,b1,b2,b3⟩:=Be (h 4) (h 5) (h 6) (h 7)
 obtain ⟨c0,c1,c2,c3⟩:=Be (h 8) (h 9) (h 10) (h 11)
 obtain ⟨d0,d1,d2,d3⟩:=Be (h 12) (h 13) (h 14) (h 15)
 unfold W4.blk blk Fd.BV toW
 simp only[a0,a1,a2,a3,b0,b1,b2,b3,c0,c1,c2,c3,d0,d1,d2,d3]
def byW (t:W4):List Nat:=[bt0 t.a,bt1 t.a,bt2 t.a,bt3 t.a,bt0 t.b,bt1 t.b,bt2 t.b,bt3 t.b,bt0 t.c,bt1 t.c,bt2 t.c,bt3 t.c,bt0 t.d,bt1 t.d,bt2 t.d,bt3 t.d]
theorem Zdk (t:W4) (i:Nat):(byW t).getD i 0<256:=by
 have h:∀ x∈byW t,x<256:=by
  intro x hx
  simp only[byW,List.mem_cons,List.not_mem_nil,or_false] at hx
  rcases hx with rfl | rfl | rfl | rfl | rfl | rfl | rfl | rfl | rfl | rfl | rfl | rfl | rfl | rfl | rfl | rfl<;>exact Nat.mod_lt _ (by decide)
 rw[List.getD_eq_getElem?_getD]
 cases e:(byW t)[i]? with
 | none=>simp
 | some x=>exact h x (List.mem_of_getElem? e)
def ofW (t:W4):BitVec 128:=BitVec.ofNat 128 (Fd.pk (fun i=>(byW t).getD i 0) 16)
theorem Xl (t:W4) (i:Nat) (hi:i<16):Fd.byV (ofW t) i=(byW t).getD i 0:=Fd.Vm _ (Zdk t) i hi
theorem Rz (t:W4):t.blk=Fd.BV (ofW t):=by
 have h:=Xl t
 unfold W4.blk blk Fd.BV
 rw[h 0 (by decide),h 1 (by decide),h 2 (by decide),h 3 (by decide),h 4 (by decide),h 5 (by decide),h 6 (by decide),h 7 (by decide),h 8 (by decide),h 9 (by decide),h 10 (by decide),h 11 (by decide),h 12 (by decide),h 13 (by decide),h 14 (by decide),h 15 (by decide)]
 rfl
def Yz (nr:Nat) (K:Nat→Nat) (v:BitVec 128):BitVec 128:=ofW (Nj nr K (toW v))
theorem Zev (g nr:Nat) (K:Nat→Nat) (v:BitVec 128) (w:World) (h:Zp w g nr K) :
  Calls Tryz.prog 32 #[.pointer (some ⟨g,0,none⟩),Fd.BV v] w fun e w'=>Hid (e=.returned (.tuple #[Fd.BV (Yz nr K v),.int .i64 0])∧Zp w' g nr K∧w.grownBy w' (some g)):=by
 have q:=Zal g nr K (toW v) w h (Us v)
 rw[Re] at q
 refine q.mono ?_
 rintro e w' ⟨rfl,h1,h2⟩
 refine ⟨by rw[Rz];rfl,h1,h2.os,h2.tape,h2.output,h2.size,fun k hk hn=>h2.block k hk (fun e=>hn (by rw[e]))⟩
set_option maxHeartbeats 800000 in
set_option maxRecDepth 100000 in
theorem Br (g nr:Nat) (K:Nat→Nat) (v:BitVec 128) (w:World) (h:Zp w g nr K) :
  Calls Tryz.prog 188 #[.pointer (some ⟨g,0,none⟩),Fd.BV v] w fun e w'=>Hid (e=.returned (Fd.BV (Yz nr K v))∧Zp w' g nr K∧w.grownBy w' (some g)):=by
 obtain ⟨L,HL⟩:∃ L,Hid (L=Fd.BL v):=⟨_,rfl⟩
 obtain ⟨M,HM⟩:∃ M,Hid (M=Fd.BL (Yz nr K v)):=⟨_,rfl⟩
 have HK:Hid (∀ u,Zp u g nr K→Calls Tryz.prog 32 #[.pointer (some ⟨g,0,none⟩),.agg L.toArray] u fun e w'=>Hid (e=.returned (.tuple #[.agg M.toArray,.int .i64 0])∧Zp w' g nr K∧u.grownBy w' (some g))):=fun u hu=>by
  have q:=Zev g nr K v u hu
  rw[HL.out,HM.out]
  exact q
 have HL16:Hid (L.length=16∧M.length=16∧(∀ x∈M,x.oneCell'=true)):=by rw[HL.out,HM.out];exact ⟨rfl,rfl,Yt _⟩
 show Calls Tryz.prog 188 #[_,.agg (Fd.BL v).toArray] w fun e w'=>Hid (e=.returned (.agg (Fd.BL (Yz nr K v)).toArray)∧_)
 rw[←HL.out,←HM.out]
 obtain ⟨w1,hw1⟩:∃ w1,w1=(w.alloc (.cells L.toArray 27)).alloc (.cells ZZ.toArray 27):=⟨_,rfl⟩
 have HB1:Hid (Bx w1 w.heap.size 27 L∧Bx w1 (w.heap.size+1) 27 ZZ∧Below w.heap.size w w1∧Zp w1 g nr K∧g<w.heap.size):=by
  have hb:Below w.heap.size w w1:=by rw[hw1];exact ((Below.refl _ _).alloc (Nat.le_refl _) _).alloc (by simp) _
  refine ⟨?_,?_,hb,h.below hb h.ciph.here,h.ciph.here⟩
  ·rw[hw1];exact (Bx.new w 27 L).below ((Below.refl _ _).alloc (Nat.le_refl _) _)
  ·rw[hw1];have q:=Bx.new (w.alloc (.cells L.toArray 27)) 27 ZZ;simpa using q
 have hw2:w1=(w.alloc (.cells L.toArray 27)).alloc (.cells #[.int .u8 0,.int .u8 0,.int .u8 0,.int .u8 0,.int .u8 0,.int .u8 0,.int .u8 0,.int .u8 0,.int .u8 0,.int .u8 0,.int .u8 0,.int .u8 0,.int .u8 0,.int .u8 0,.int .u8 0,.int .u8 0] 27):=hw1
 clear hw1 h
 go_enter Tryz.func188,Tryz.ntmps188
 go_upto_region 1 with fail
 rw[←hw2]
 clear hw2
 obtain ⟨m,HMM⟩:∃ m,Hid (w.heap.size=m):=⟨_,rfl⟩
 rw[HMM.out] at HB1 ⊢
 go_upto_region 2 with (first
  | (refine wpList_load_mid (by rfl) 27 (.tmp 3) (by rfl) m 0 (by rfl) L _ HB1.out.1.range Tryz.underlying27 rfl (by rw[HL16.out.1];kernel_rfl) ?_)
  | (go_at_call 32;refine (HK.out _ HB1.out.2.2.2.1).mono ?_;intro e2 w2 hh;obtain ⟨rfl,hk2,hg2⟩:=hh.out;have HB2:Hid (Zp w2 g nr K∧w1.grownBy w2 (some g)):=⟨hk2,hg2⟩;clear hh hk2 hg2)
  | (refine Zm (by rfl) 27 (.tmp 5) (.tmp 11) (by rfl) ZZ M w2.heap.size (by rfl) (by rfl) (Bx.new w2 27 ZZ) (by rw[HL16.out.2.1];rfl) (by rw[HL16.out.2.1];kernel_rfl) HL16.out.2.2 ?_;intro u3 hb3 hg3;have HB3:Hid (Bx u3 w2.heap.size 27 M∧(w2.alloc (.cells ZZ.toArray 27)).grownBy u3 (some w2.heap.size)):=⟨hb3,hg3⟩;clear hb3 hg3))
 have HS:Hid (m+1<w1.heap.size∧w1.heap.size≤w2.heap.size):=⟨HB1.out.2.1.lt,HB2.out.2.size⟩
 have h23:∀ k,k<w2.heap.size→u3.heap[k]?=w2.heap[k]?:=fun k hk=>by
  rw[HB3.out.2.block k (by simp;omega) (fun e=>by injection e with e;omega),Below.heap_alloc _ _ _ hk]
 have HX3:Hid (Bx u3 (m+1) 27 ZZ∧∀ k,k<w2.heap.size→u3.heap[k]?=w2.heap[k]?):=by
  refine ⟨(HB1.out.2.1.keep (HB2.out.2.block (m+1) HS.out.1 (fun e=>by injection e with e;have:=HB1.out.2.2.2.2;omega))).keep (h23 _ (by have:=HS.out;omega)),h23⟩
 clear h23
 go_wp2_with (first
  | (refine wpList_load_mid (by rfl) 27 (.tmp 5) (by rfl) w2.heap.size 0 (by rfl) M _ HB3.out.1.range Tryz.underlying27 rfl (by rw[HL16.out.2.1];kernel_rfl) ?_)
  | (refine Zm (by rfl) 27 (.tmp 4) (.tmp 13) (by rfl) ZZ M (m+1) (by rfl) (by rfl) HX3.out.1 (by rw[HL16.out.2.1];rfl) (by rw[HL16.out.2.1];kernel_rfl) HL16.out.2.2 ?_;intro u9 hb9 hg9))
 have e9:∀ k,k<w2.heap.size→k≠m+1→u9.heap[k]?=w2.heap[k]?:=fun k hk hn=>by
  rw[hg9.block k (by have:=HB3.out.1.lt;omega) (fun e=>by injection e with e;omega),HX3.out.2 k hk]
 have hsz:w2.heap.size≤u9.heap.size:=by have:=hg9.size;have:=HB3.out.1.lt;omega
 have hgm:=HB1.out.2.2.2.2
 refine Xo (b:=m+1) M rfl rfl hb9.range Tryz.underlying27 rfl (by rw[HL16.out.2.1];kernel_rfl) ⟨rfl,HB2.out.1.sameK (e9 g (by have:=HS.out;omega) (by omega)) hsz,?_⟩
 have hb1:=HB1.out.2.2.1
 have hg2:=HB2.out.2
 have hg3:=HB3.out.2
 refine ⟨hg9.os.trans (hg3.os.trans (hg2.os.trans hb1.os)),hg9.tape.trans (hg3.tape.trans (hg2.tape.trans hb1.tape)),hg9.output.trans (hg3.output.trans (hg2.output.trans hb1.output)),Nat.le_trans hb1.size (Nat.le_trans hg2.size hsz),fun k hk hn=>?_⟩
 have hkm:k<m:=by rw[←HMM.out];exact hk
 rw[e9 k (by have:=HS.out;omega) (by omega),hg2.block k (by have:=HS.out;omega) hn,hb1.block k hkm]
theorem Q4 {P:Program} {ops:Array Oper} {o:Oper} {a:Act} {w:World} {K:Act→World→Prop} {Q:Exit→Act→World→Prop} {E:Prop} (hgd:o.guard=none) (t:TypeId) (x y:Operand) (ho:o.op=.store t x y) {bt:TypeId} (c c':List Value) (g:Nat) (hx:a.eval x=.pointer (some ⟨g,0,none⟩)) (hy:a.eval y=.agg c'.toArray)
  (hb:Bx w g bt c) (hl:c'.length=c.length) (hi:(P.info? t).map (·.size)=some c'.length) (h1:∀ v∈c',v.oneCell'=true) (h:∀ u,Hid (Bx u g bt c')→Hid (w.grownBy u (some g))→K (a.put o.dst undef) u) :
  if Region.wanted o (yielded ops a.tmps)=true then Oper.wp P o a w K Q else E:=by
 have hw:Region.wanted o (yielded ops a.tmps)=true:=by simp [Region.wanted,hgd]
 rw[if_pos hw]
 refine wp_store_mid t x y ho g 0 c'.toArray hx hy (fun j hj=>?_) (by simpa using hi) (all_oneCell_toArray h1) (h _ (hb.store c' hl) (Z5 g _ 0 w))
 rw[Nat.zero_add]
 have hj':j<c.length:=by rw[←hl];simpa using hj
 refine ⟨?_,hb.frozen j⟩
 rw[hb.cell j _ (List.getElem?_eq_getElem hj')]
 rfl
theorem Y6 {w:World} {b:Nat} {t:TypeId} {cs:List Value} (h:Bx w b t cs) {n:Nat} (hn:cs.length=n):w.there b 0 n:=fun j hj=>by
 rw[Nat.zero_add]
 refine ⟨?_,h.frozen j⟩
 rw[h.cell j _ (List.getElem?_eq_getElem (by omega))]
 rfl
theorem Ea {w1 w2:World} {g m:Nat} {L:List Value} (hg:w1.grownBy w2 (some g)) (h1:Bx w1 m 27 L) (h2:Bx w1 (m+1) 27 ZZ) (hgm:g<m):Bx w2 m 27 L∧Bx w2 (m+1) 27 ZZ:=⟨h1.keep (hg.block m h1.lt (fun e=>by injection e with e;omega)),h2.keep (hg.block (m+1) h2.lt (fun e=>by injection e with e;omega))⟩
theorem Zew {w2:World} {g sh m:Nat} {x:Value} {L M:List Value} (hc:w2.cell? ⟨sh,4,none⟩=some x) (hs:sh<m) (h1:Bx w2 m 27 L) (h2:Bx w2 (m+1) 27 ZZ) (hM:M.length=16):(w2.setCells (m+1) 0 M).cell? ⟨sh,4,none⟩=some x∧(w2.setCells (m+1) 0 M).rangeAt m 0 L∧(w2.setCells (m+1) 0 M).there (m+1) 0 16:=by
 have hg:w2.grownBy (w2.setCells (m+1) 0 M) (some (m+1)):=Z5 (m+1) M 0 w2
 refine ⟨?_,(h1.keep (hg.block m h1.lt (fun e=>by injection e with e;omega))).range,Y6 (h2.store M (by rw[hM];rfl)) hM⟩
 rw[World.cell?_of_block (a:=⟨sh,4,none⟩) (hg.block sh (by have:=h1.lt;omega) (fun e=>by injection e with e;omega))]
 exact hc
theorem Zex {w1 w2:World} {g sh m:Nat} {x:Value} {L:List Value} (hg:w1.grownBy w2 (some g)) (hne:sh≠g) (hc:w1.cell? ⟨sh,4,none⟩=some x) (hs:sh<w1.heap.size) (h1:Bx w1 m 27 L) (h2:Bx w1 (m+1) 27 ZZ) (hgm:g<m):w2.cell? ⟨sh,4,none⟩=some x∧w2.rangeAt m 0 L∧w2.there (m+1) 0 16:=by
 refine ⟨?_,(h1.keep (hg.block m h1.lt (fun e=>by injection e with e;omega))).range,Y6 (h2.keep (hg.block (m+1) h2.lt (fun e=>by injection e with e;omega))) rfl⟩
 rw[World.cell?_of_block (a:=⟨sh,4,none⟩) (hg.block sh hs (fun e=>hne (by injection e)))]
 exact hc
set_option maxHeartbeats 800000 in
set_option maxRecDepth 100000 in
theorem F9 (sh g nr:Nat) (K:Nat→Nat) (v:BitVec 128) (w:World) (hne:sh≠g) (hc:w.cell? ⟨sh,4,none⟩=some (.pointer (some ⟨g,0,none⟩))) (h:Zp w g nr K) :
  Calls Tryz.prog 190 #[.pointer (some ⟨sh,0,none⟩),Fd.BV v] w fun e w'=>Hid (e=.returned (Fd.BV (Yz nr K v))∧Zp w' g nr K∧w.grownBy w' (some g)):=by
 obtain ⟨L,HL⟩:∃ L,Hid (L=Fd.BL v):=⟨_,rfl⟩
 obtain ⟨M,HM⟩:∃ M,Hid (M=Fd.BL (Yz nr K v)):=⟨_,rfl⟩
 have HK:Hid (∀ u,Zp u g nr K→Calls Tryz.prog 188 #[.pointer (some ⟨g,0,none⟩),.agg L.toArray] u fun e w'=>Hid (e=.returned (.agg M.toArray)∧Zp w' g nr K∧u.grownBy w' (some g))):=fun u hu=>by
  have q:=Br g nr K v u hu
  rw[HL.out,HM.out]
  exact q
 have HL16:Hid (L.length=16∧M.length=16∧(∀ x∈M,x.oneCell'=true)):=by rw[HL.out,HM.out];exact ⟨rfl,rfl,Yt _⟩
 show Calls Tryz.prog 190 #[_,.agg (Fd.BL v).toArray] w fun e w'=>Hid (e=.returned (.agg (Fd.BL (Yz nr K v)).toArray)∧_)
 rw[←HL.out,←HM.out]
 obtain ⟨w1,hw1⟩:∃ w1,w1=(w.alloc (.cells L.toArray 27)).alloc (.cells ZZ.toArray 27):=⟨_,rfl⟩
 have HB1:Hid (Bx w1 w.heap.size 27 L∧Bx w1 (w.heap.size+1) 27 ZZ∧Below w.heap.size w w1∧Zp w1 g nr K∧g<w.heap.size):=by
  have hb:Below w.heap.size w w1:=by rw[hw1];exact ((Below.refl _ _).alloc (Nat.le_refl _) _).alloc (by simp) _
  refine ⟨?_,?_,hb,h.below hb h.ciph.here,h.ciph.here⟩
  ·rw[hw1];exact (Bx.new w 27 L).below ((Below.refl _ _).alloc (Nat.le_refl _) _)
  ·rw[hw1];have q:=Bx.new (w.alloc (.cells L.toArray 27)) 27 ZZ;simpa using q
 have HSW:Hid (sh<w.heap.size):=World.block_lt_of_cell? w _ hc
 have c4:w1.cell? ⟨sh,4,none⟩=some (.pointer (some ⟨g,0,none⟩)):=by rw[HB1.out.2.2.1.cell (World.block_lt_of_cell? w _ hc),hc]
 have hw2:w1=(w.alloc (.cells L.toArray 27)).alloc (.cells #[.int .u8 0,.int .u8 0,.int .u8 0,.int .u8 0,.int .u8 0,.int .u8 0,.int .u8 0,.int .u8 0,.int .u8 0,.int .u8 0,.int .u8 0,.int .u8 0,.int .u8 0,.int .u8 0,.int .u8 0,.int .u8 0] 27):=hw1
 clear hw1 h hc
 go_enter Tryz.func190,Tryz.ntmps190
 go_upto_region 1 with fail
 rw[←hw2]
 clear hw2
 obtain ⟨m,HMM⟩:∃ m,Hid (w.heap.size=m):=⟨_,rfl⟩
 rw[HMM.out] at HB1 ⊢
 have HW1:Hid (m+1<w1.heap.size):=HB1.out.2.1.lt
 have HSH:Hid (sh<m):=by rw[←HMM.out];exact HSW.out
 have KD:Hid (Zp w1.drew g nr K):=HB1.out.2.2.2.1.below (Below.refl _ w1).drew (by have:=HB1.out.2.2.2.2;have:=HW1.out;omega)
 have hU:Tryz.prog.underlying 27=some (.array 16 5):=Tryz.underlying27
 have hiL:(Tryz.prog.info? 27).map (·.size)=some L.length:=by rw[HL16.out.1];kernel_rfl
 have hiM:(Tryz.prog.info? 27).map (·.size)=some M.length:=by rw[HL16.out.2.1];kernel_rfl
 have hM16:M.length=16:=HL16.out.2.1
 have hM1:∀ v∈M,v.oneCell'=true:=HL16.out.2.2
 have hr1:w1.rangeAt m 0 L:=HB1.out.1.range
 have ht1:w1.there (m+1) 0 16:=Y6 HB1.out.2.1 rfl
 go_region_held3 (fun u=>u.cell? ⟨sh,4,none⟩=some (.pointer (some ⟨g,0,none⟩))∧u.rangeAt m 0 L∧u.there (m+1) 0 16) (first | exact ⟨c4,hr1,ht1⟩ | exact hS2 | exact hS3 | go_keep)
  (first
   | (go_at_call 188;refine (HK.out _ KD.out).mono ?_;intro e2 w2 hh;obtain ⟨rfl,hk2,hg2⟩:=hh.out;have HB2:Hid (Zp w2 g nr K∧w1.grownBy w2 (some g)):=⟨hk2,hg2.os,hg2.tape,hg2.output,hg2.size,hg2.block⟩;have hS2:w2.cell? ⟨sh,4,none⟩=some (.pointer (some ⟨g,0,none⟩))∧w2.rangeAt m 0 L∧w2.there (m+1) 0 16:=Zex HB2.out.2 hne c4 (by have:=HSH.out;have:=HW1.out;omega) HB1.out.1 HB1.out.2.1 HB1.out.2.2.2.2;have HX2:Hid (Bx w2 m 27 L∧Bx w2 (m+1) 27 ZZ):=Ea HB2.out.2 HB1.out.1 HB1.out.2.1 HB1.out.2.2.2.2;have hS3:=Zew (g:=g) hS2.1 HSH.out HX2.out.1 HX2.out.2 hM16;clear hh hk2 hg2))
 have HB9:Hid (Bx (w2.setCells (m+1) 0 M) (m+1) 27 M∧w2.grownBy (w2.setCells (m+1) 0 M) (some (m+1))):=⟨HX2.out.2.store M (by rw[hM16];rfl),Z5 (m+1) M 0 w2⟩
 obtain ⟨u9,hu9⟩:∃ u9,u9=w2.setCells (m+1) 0 M:=⟨_,rfl⟩
 rw[←hu9] at HB9 ⊢
 clear hu9 hS2 hS3
 go_wp2
 have hgm:=HB1.out.2.2.2.2
 have hg9:=HB9.out.2
 have hg2:=HB2.out.2
 have hb1:=HB1.out.2.2.1
 have e9:∀ k,k<w2.heap.size→k≠m+1→u9.heap[k]?=w2.heap[k]?:=fun k hk hn=>hg9.block k hk (fun e=>by injection e with e;omega)
 refine Xo (b:=m+1) M rfl rfl HB9.out.1.range Tryz.underlying27 rfl hiM ⟨rfl,HB2.out.1.sameK (e9 g (by have:=HX2.out.1.lt;omega) (by omega)) hg9.size,?_⟩
 refine ⟨hg9.os.trans (hg2.os.trans hb1.os),hg9.tape.trans (hg2.tape.trans hb1.tape),hg9.output.trans (hg2.output.trans hb1.output),Nat.le_trans hb1.size (Nat.le_trans hg2.size hg9.size),fun k hk hn=>?_⟩
 have hkm:k<m:=by rw[←HMM.out];exact hk
 rw[e9 k (by have:=HX2.out.1.lt;omega) (by omega),hg2.block k (by have:=HW1.out;omega) hn,hb1.block k hkm]
theorem Uh (l x:Nat) (w:World):(callFunc 218 #[.int .u64 (l:Nat),.int .u64 (x:Nat),.int .u64 0]).run Tryz.prog w=.ok (.value (.tuple #[.int .u64 ((l+x)%18446744073709551616:Nat),.int .u64 ((l+x)/18446744073709551616:Nat)])) w:=by kernel_rfl
set_option maxHeartbeats 800000 in
set_option maxRecDepth 100000 in
theorem D4 (h l x:Nat) (w:World) (hh:h<18446744073709551616) (hl:l<18446744073709551616) (hx:x<18446744073709551616) :
  Calls Tryz.prog 185 #[.int .u64 (h:Nat),.int .u64 (l:Nat),.int .u64 (x:Nat)] w fun e w'=>e=.returned (.tuple #[.int .u64 ((h+(l+x)/18446744073709551616)%18446744073709551616:Nat),.int .u64 ((l+x)%18446744073709551616:Nat)])∧w'=w:=by
 have hr:=fun u=>Uh l x u
 obtain ⟨y,HY⟩:∃ y,Hid ((l+x)%18446744073709551616=y):=⟨_,rfl⟩
 obtain ⟨z,HZ⟩:∃ z,Hid ((l+x)/18446744073709551616=z):=⟨_,rfl⟩
 rw[HY.out,HZ.out] at hr ⊢
 have hz:z≤1:=by rw[←HZ.out];omega
 have hwr:IntKind.u64.wrap ((h:Int)+(z:Int))=((h+z)%18446744073709551616:Nat):=by rw[IntKind.wrap_u64];omega
 clear hh hl hx hz
 go_enter Tryz.func185,Tryz.ntmps185
 go_wp2
 go_ret2
 exact ⟨rfl,rfl⟩
theorem Kq (a:Nat) (ha:a<18446744073709551616):bits .and .u64 (a:Int) 4294967295=((a%4294967296:Nat):Int):=by
 have h:(BitVec.ofInt 64 4294967295).toNat=2^32-1:=by decide
 have key:(BitVec.ofInt 64 (a:Int) &&& BitVec.ofInt 64 4294967295).toNat=((a:Int)%((2^64:Nat):Int)).toNat%2^32:=by
  rw[BitVec.toNat_and,BitVec.toNat_ofInt,h,Nat.and_two_pow_sub_one_eq_mod]
 show IntKind.u64.wrap ((BitVec.ofInt 64 (a:Int) &&& BitVec.ofInt 64 4294967295).toNat:Nat)=_
 rw[key,IntKind.wrap_u64]
 omega
theorem Yr (a:Nat) (h:a<18446744073709551616):IntKind.u64.wrap (a:Int)=(a:Int):=by rw[IntKind.wrap_u64];omega
theorem Tg (x y:Nat) (hx:x<18446744073709551616) (hy:y≤64):∃ x0 x1 A B T T0 T1:Nat,x%4294967296=x0∧x/4294967296=x1∧x1*y=A∧x0*y=B∧A+B/4294967296=T∧T%4294967296=T0∧T/4294967296=T1∧T1=x*y/18446744073709551616∧A<18446744073709551616∧B<18446744073709551616∧T<18446744073709551616∧x0<4294967296∧T0<4294967296:=by
 refine ⟨_,_,_,_,_,_,_,rfl,rfl,rfl,rfl,rfl,rfl,rfl,?_,?_,?_,?_,Nat.mod_lt _ (by decide),Nat.mod_lt _ (by decide)⟩
 all_goals
  have e:x=x/4294967296*4294967296+x%4294967296:=by omega
  have h0:x%4294967296<4294967296:=Nat.mod_lt _ (by decide)
  have h1:x/4294967296<4294967296:=by omega
  generalize x%4294967296=x0 at e h0 ⊢
  generalize x/4294967296=x1 at e h1 ⊢
  have a1:x1*y≤4294967295*64:=Nat.mul_le_mul (by omega) hy
  have a0:x0*y≤4294967295*64:=Nat.mul_le_mul (by omega) hy
  have e2:x*y=x1*y*4294967296+x0*y:=by rw[e,Nat.add_mul,Nat.mul_right_comm]
  generalize x1*y=A at a1 e2 ⊢
  generalize x0*y=B at a0 e2 ⊢
 ·rw[e2];omega
 ·omega
 ·omega
 ·omega
set_option maxHeartbeats 800000 in
set_option maxRecDepth 100000 in
theorem Pu (x y:Nat) (w:World) (hx:x<18446744073709551616) (hy:y≤64) :
  Calls Tryz.prog 184 #[.int .u64 (x:Nat),.int .u64 (y:Nat)] w fun e w'=>Hid (e=.returned (.tuple #[.int .u64 (x*y/18446744073709551616:Nat),.int .u64 (x*y%18446744073709551616:Nat)])∧w'=w):=by
 obtain ⟨x0,x1,A,B,T,T0,T1,p0,p1,pA,pB,pT,pT0,pT1,pF,hA,hB,hT,hx0,hT0⟩:=Tg x y hx hy
 have q0:bits BinOp.and IntKind.u64 (x:Int) 4294967295=(x0:Int):=by rw[Kq x hx,p0]
 have q1:(x:Int)/4294967296=(x1:Int):=by omega
 have q2:bits BinOp.and IntKind.u64 (y:Int) 4294967295=(y:Int):=by rw[Kq y (by omega)];omega
 have q3:(y:Int)/4294967296=0:=by omega
 have q4:(x1:Int)*(y:Int)=(A:Int):=by rw[←pA];simp
 have q5:(x0:Int)*(y:Int)=(B:Int):=by rw[←pB];simp
 have q6:IntKind.u64.wrap (A:Int)=(A:Int):=Yr A hA
 have q7:IntKind.u64.wrap (B:Int)=(B:Int):=Yr B hB
 have q8:IntKind.u64.wrap ((A:Int)+(B:Int)/4294967296)=(T:Int):=by rw[IntKind.wrap_u64];omega
 have q9:(T:Int)/4294967296=(T1:Int):=by omega
 have q10:bits BinOp.and IntKind.u64 (T:Int) 4294967295=(T0:Int):=by rw[Kq T hT,pT0]
 have q11:IntKind.u64.wrap (T0:Int)=(T0:Int):=Yr T0 (by omega)
 have q12:(T0:Int)/4294967296=0:=by omega
 have q13:IntKind.u64.wrap (T1:Int)=(T1:Int):=Yr T1 (by omega)
 have q14:IntKind.u64.wrap ((x:Int)*(y:Int))=((x*y%18446744073709551616:Nat):Int):=by rw[IntKind.wrap_u64];simp
 have q15:IntKind.u64.wrap 0=0:=by decide
 rw[←pF]
 clear p0 p1 pA pB pT pT0 pT1 pF hA hB hT hx0 hT0 hx hy
 go_enter Tryz.func184,Tryz.ntmps184
 go_wp2
 go_ret2
 exact ⟨rfl,rfl⟩
def Jm (s k:Nat):BitVec 128:=BitVec.ofNat 128 (s*k+1)
theorem Uc (s k:Nat) (hs:s<18446744073709551616) (hk:k≤64):Fd.hiV (Jm s k)=(s*k/18446744073709551616+(s*k%18446744073709551616+1)/18446744073709551616)%18446744073709551616∧Fd.loV (Jm s k)=(s*k%18446744073709551616+1)%18446744073709551616:=by
 have h:s*k≤18446744073709551615*64:=Nat.mul_le_mul (by omega) hk
 unfold Fd.hiV Fd.loV Jm
 rw[BitVec.toNat_ofNat]
 generalize s*k=M at h ⊢
 constructor<;>omega
set_option maxHeartbeats 800000 in
set_option maxRecDepth 100000 in
theorem Is (s n:Nat) (w:World) (hs:s<18446744073709551616) (hn:n≤1024) :
  Calls Tryz.prog 183 #[.int .u64 (s:Nat),.int .i64 (n:Nat)] w fun e w'=>Hid (e=.returned (Fd.BV (Fd.rv (Jm s (n/16))))∧Below w.heap.size w w'):=by
 obtain ⟨k,HK⟩:∃ k,Hid (n/16=k):=⟨_,rfl⟩
 have hk:k≤64:=by rw[←HK.out];omega
 have q1:(n:Int).tdiv 16=(k:Int):=by rw[←HK.out,Int.tdiv_eq_ediv_of_nonneg (by omega)];omega
 have q1b:(n:Int)/16=(k:Int):=by rw[←HK.out];omega
 have q2:IntKind.u64.wrap (k:Int)=(k:Int):=Yr k (by omega)
 have q3:IntKind.i64.wrap (k:Int)=(k:Int):=by rw[IntKind.wrap_i64];omega
 obtain ⟨h1,h2⟩:=Uc s k hs hk
 obtain ⟨a,HA⟩:∃ a,Hid (s*k/18446744073709551616=a):=⟨_,rfl⟩
 obtain ⟨b,HB⟩:∃ b,Hid (s*k%18446744073709551616=b):=⟨_,rfl⟩
 have hb:b<18446744073709551616:=by rw[←HB.out];exact Nat.mod_lt _ (by decide)
 have ha:a<18446744073709551616:=by
  rw[←HA.out]
  have h:s*k≤18446744073709551615*64:=Nat.mul_le_mul (by omega) hk
  omega
 have HM:Hid (∀ u,Calls Tryz.prog 184 #[.int .u64 (s:Nat),.int .u64 (k:Nat)] u fun e w'=>Hid (e=.returned (.tuple #[.int .u64 (a:Nat),.int .u64 (b:Nat)])∧w'=u)):=fun u=>by
  have q:=Pu s k u hs hk;rw[HA.out,HB.out] at q;exact q
 rw[HA.out,HB.out] at h1
 rw[HB.out] at h2
 have HD:Hid (∀ u,Calls Tryz.prog 185 #[.int .u64 (a:Nat),.int .u64 (b:Nat),.int .u64 1] u fun e w'=>e=.returned (.tuple #[.int .u64 (Fd.hiV (Jm s k):Nat),.int .u64 (Fd.loV (Jm s k):Nat)])∧w'=u):=fun u=>by
  have q:=D4 a b 1 u ha hb (by decide);rw[←h1,←h2] at q;exact q
 obtain ⟨v,HV⟩:∃ v,Hid (Jm s k=v):=⟨_,rfl⟩
 rw[HK.out,HV.out]
 rw[HV.out] at HD
 obtain ⟨M,HMM⟩:∃ M,Hid (M=Fd.BL (Fd.rv v)):=⟨_,rfl⟩
 have HG:Hid (∀ u,Calls Tryz.prog 182 #[.int .u64 (Fd.hiV v:Nat),.int .u64 (Fd.loV v:Nat)] u fun e w'=>Hid (e=.returned (.agg M.toArray)∧Below u.heap.size u w')):=fun u=>by rw[HMM.out];exact (Fd.Bh v u).mono fun e w' hh=>hh
 have HLN:Hid (M.length=16∧(∀ x∈M,x.oneCell'=true)):=by rw[HMM.out];exact ⟨rfl,Yt _⟩
 show Calls Tryz.prog 183 #[_,_] w fun e w'=>Hid (e=.returned (.agg (Fd.BL (Fd.rv v)).toArray)∧_)
 rw[←HMM.out]
 clear h1 h2 ha hb hk hs hn
 obtain ⟨w1,hw1⟩:∃ w1,w1=w.alloc (.cells ZZ.toArray 27):=⟨_,rfl⟩
 have HB1:Hid (Bx w1 w.heap.size 27 ZZ∧Below w.heap.size w w1):=by rw[hw1];exact ⟨Bx.new w 27 ZZ,(Below.refl _ _).alloc (Nat.le_refl _) _⟩
 have hw2:w1=w.alloc (.cells #[.int .u8 0,.int .u8 0,.int .u8 0,.int .u8 0,.int .u8 0,.int .u8 0,.int .u8 0,.int .u8 0,.int .u8 0,.int .u8 0,.int .u8 0,.int .u8 0,.int .u8 0,.int .u8 0,.int .u8 0,.int .u8 0] 27):=hw1
 clear hw1
 go_enter Tryz.func183,Tryz.ntmps183
 go_upto_region 2 with (first
  | (go_at_call 184;refine (HM.out _).mono ?_;intro e2 w2 hh;obtain ⟨rfl,rfl⟩:=hh.out;clear hh))
 rw[←hw2]
 clear hw2
 obtain ⟨m,HM2⟩:∃ m,Hid (w.heap.size=m):=⟨_,rfl⟩
 rw[HM2.out] at HB1 ⊢
 go_wp2_with (first
  | (go_at_call 185;refine (HD.out _).mono ?_;rintro e3 w3 ⟨rfl,hw⟩;obtain rfl:=hw.symm;clear hw)
  | (go_at_call 182;refine (HG.out _).mono ?_;intro e4 w4 hh;obtain ⟨rfl,hb4⟩:=hh.out;have HB4:Hid (Bx w4 m 27 ZZ∧Below m w w4):=⟨HB1.out.1.below hb4,HB1.out.2.trans (hb4.mono (by have:=HB1.out.1.lt;omega))⟩;clear hh hb4)
  | (refine Zm (by rfl) 27 (.tmp 4) (.tmp 20) (by rfl) ZZ M m (by rfl) (by rfl) HB4.out.1 (by rw[HLN.out.1];rfl) (by rw[HLN.out.1];kernel_rfl) HLN.out.2 ?_;intro u9 hb9 hg9))
 refine Xo (b:=m) M rfl rfl hb9.range Tryz.underlying27 rfl (by rw[HLN.out.1];kernel_rfl) ⟨rfl,?_⟩
 have hfin:Below m w u9:=HB4.out.2.trans (Yi hg9 (by have:=HB4.out.1.lt;omega) (by omega))
 first | exact hfin | (rw[HM2.out];exact hfin)
set_option maxHeartbeats 800000 in
set_option maxRecDepth 100000 in
theorem Bd (B sh:Nat) (S:ByteArray) (st nk:Nat) (zs:List Int) (kv:Value) (mp:Option Addr) (ov:Value) (fn:Nat) (xs ys:Array Value) (w:World) (h:ShA B w sh S st (4*nk) zs kv mp ov) (hB:B≤w.heap.size) (hfew:∃ n os,n≤1∧w.ownsRow B 71 1 ov n os)
  (hnk:nk=4∨nk=6∨nk=8) (hl:zs.length=2*(4*nk)) (hb:Zg zs) (hrc:RC w) (hpos:1<w.heap.size) :
  Calls Tryz.prog 158 #[.pointer (some ⟨sh,0,none⟩),.func (.func fn) xs ys] w fun e w'=>Hid (∃ go ov',e=.returned (.tuple #[bV 201 [.pointer (some ⟨sh,0,none⟩),.func (.func fn) xs ys,.pointer (some ⟨go,0,none⟩)],bV 202 [.pointer (some ⟨sh,0,none⟩),.func (.func fn) xs ys,.pointer (some ⟨go,0,none⟩)]])∧w.heap.size≤go∧Zp w' go (nk+6) (Z6 nk (Y4 (zs.drop (4*nk))))∧(∃ R:Array Value,w'.heap[go]?=some (.cells R 135 (0,0)))∧ShA B w' sh S st (4*nk) zs kv mp ov'∧Fs B sh w w'):=by
 have HR:Hid (Calls Tryz.prog 192 #[.pointer (some ⟨sh,0,none⟩)] w fun e w'=>Hid (∃ y d,e=.returned (.slice y (zs.length-4*nk) d)∧Zi w' (.slice y (zs.length-4*nk) d) (zs.drop (4*nk))∧Below w.heap.size w w')):=Ru B sh S st (4*nk) zs kv mp ov w h (by omega)
 have hb':Zg (zs.drop (4*nk)):=fun i=>by
  rw[List.getD_eq_getElem?_getD,List.getElem?_drop,←List.getD_eq_getElem?_getD];exact hb _
 have HK:Hid (∀ u v,Below w.heap.size w u→Zi u v (zs.drop (4*nk))→Calls Tryz.prog 186 #[.pointer (some ⟨sh,0,none⟩),v] u fun e w'=>Hid (∃ g ov',e=.returned (.pointer (some ⟨g,0,none⟩))∧u.heap.size≤g∧Zp w' g (nk+6) (Z6 nk (Y4 (zs.drop (4*nk))))∧(∃ R:Array Value,w'.heap[g]?=some (.cells R 135 (0,0)))∧ShA B w' sh S st (4*nk) zs kv mp ov'∧(∀ n os,u.ownsRow B 71 1 ov n os→∃ os',w'.ownsRow B 71 1 ov' (n+1) os')∧Fs B sh u w')):=fun u v hu hv=>by
  obtain ⟨n0,os0,hn0,ho0⟩:=hfew
  exact W6 B sh S st (4*nk) zs kv mp ov v (zs.drop (4*nk)) nk u (h.below hu) (Nat.le_trans hB hu.size) ⟨n0,os0,by omega,ownsRow_below ho0 hu⟩ hnk (by rw[List.length_drop];omega) hv hb' (fun i hi=>(hu.cell (p:=⟨1,i,none⟩) hpos).trans (hrc i hi)) (Nat.lt_of_lt_of_le hpos hu.size)
 have HB0:Hid (B≤w.heap.size):=hB
 clear h hfew hl hb hrc hpos hB hb'
 go_enter Tryz.func158,Tryz.ntmps158
 go_upto_region 2 with (first
  | (go_at_call 192;refine HR.out.mono ?_;intro e1 w1 hh;obtain ⟨y,d,rfl,hv1,hb1⟩:=hh.out;have HV1:Hid (Zi w1 (.slice y (zs.length-4*nk) d) (zs.drop (4*nk))∧Below w.heap.size w w1):=⟨hv1,hb1⟩;clear hh hv1 hb1)
  | (go_at_call 186;refine (HK.out _ _ HV1.out.2 HV1.out.1).mono ?_;intro e2 w2 hh;obtain ⟨go,ov',rfl,hg2,hK2,hR2,hS2,hO2,hF2⟩:=hh.out;have HS2:Hid (w1.heap.size≤go∧Zp w2 go (nk+6) (Z6 nk (Y4 (zs.drop (4*nk))))∧ShA B w2 sh S st (4*nk) zs kv mp ov'∧Fs B sh w1 w2∧∃ R:Array Value,w2.heap[go]?=some (.cells R 135 (0,0))):=⟨hg2,hK2,hS2,hF2,hR2⟩;clear hh hg2 hK2 hR2 hS2 hO2 hF2))
 obtain ⟨w3,hw3⟩:∃ w3,w3=w2.alloc (.cells #[.pointer (some ⟨sh,0,none⟩),.func (.func fn) xs ys,.pointer (some ⟨go,0,none⟩)] 252):=⟨_,rfl⟩
 have HW:Hid (Bx w3 w2.heap.size 252 [.pointer (some ⟨sh,0,none⟩),.func (.func fn) xs ys,.pointer (some ⟨go,0,none⟩)]∧Below w2.heap.size w2 w3):=by rw[hw3];exact ⟨Bx.new w2 252 _,(Below.refl _ _).alloc (Nat.le_refl _) _⟩
 rw[←hw3]
 clear hw3
 have d0:w3.cell? ⟨w2.heap.size,0,none⟩=some (.pointer (some ⟨sh,0,none⟩)):=HW.out.1.cell 0 _ rfl
 have d1:w3.cell? ⟨w2.heap.size,1,none⟩=some (.func (.func fn) xs ys):=HW.out.1.cell 1 _ rfl
 have d2:w3.cell? ⟨w2.heap.size,2,none⟩=some (.pointer (some ⟨go,0,none⟩)):=HW.out.1.cell 2 _ rfl
 go_region
 all_goals go_wp2
 all_goals go_ret2
 all_goals (
  have hb:=HW.out.2.drew
  exact ⟨go,ov',rfl,Nat.le_trans HV1.out.2.size HS2.out.1,HS2.out.2.1.sameK (hb.block go HS2.out.2.1.ciph.here) hb.size,(by obtain ⟨R,hR⟩:=HS2.out.2.2.2.2;exact ⟨R,(hb.block go HS2.out.2.1.ciph.here).trans hR⟩),HS2.out.2.2.1.below hb,(Fs.of_below HV1.out.2 HB0.out).trans (HS2.out.2.2.2.1.trans (Fs.of_below hb (Nat.le_trans (Nat.le_trans HB0.out HV1.out.2.size) HS2.out.2.2.2.1.bel.size)))⟩)
def xtV (B0 fn nk:Nat) (zs:List Int) (u:World) (sh:Nat) (fv sv pv:Value):Prop:=
 ∃ go,B0≤go∧fv=fV fn∧sv=bV 201 [.pointer (some ⟨sh,0,none⟩),fV fn,.pointer (some ⟨go,0,none⟩)]∧pv=bV 202 [.pointer (some ⟨sh,0,none⟩),fV fn,.pointer (some ⟨go,0,none⟩)]∧Zp u go (nk+6) (Z6 nk (Y4 (zs.drop (4*nk))))∧(∃ R:Array Value,u.heap[go]?=some (.cells R 135 (0,0)))∧∃ g,u.cell? ⟨sh,4,none⟩=some (.pointer (some ⟨g,0,none⟩))∧g≠go
theorem Zbt {B0 fn nk:Nat} {zs:List Int} {u u':World} {sh:Nat} {fv sv pv:Value} (hs:∃ cs fr,u.heap[sh]?=some (.cells cs 115 fr)) (h:Oc u u') (k:xtV B0 fn nk zs u sh fv sv pv):xtV B0 fn nk zs u' sh fv sv pv:=by
 obtain ⟨hz,c,cs,fr,hc,hk⟩:=h
 obtain ⟨go,h0,h1,h2,h3,h4,⟨R,h5⟩,g,h6,h7⟩:=k
 obtain ⟨cs2,fr2,hs⟩:=hs
 have e:=hk go (Zs h5 hc (by decide))
 exact ⟨go,h0,h1,h2,h3,h4.sameK e hz,⟨R,e.trans h5⟩,g,(World.cell?_of_block (a:=⟨sh,4,none⟩) (hk sh (Zs hs hc (by decide)))).trans h6,h7⟩
theorem Zeq (i:Nat) (hi:i<3) (v:Value) (zs:List Int) (w:World) (hf:∀ j,j<1+17*i+10→spN j≠sxN i 10) (hv:Zi w v zs) (hb:Zg zs) (hl:zs.length=2*(16+8*i)+0) (hP:Pow w) (hrc:RC w) :
  Calls Tryz.prog 26 #[.string (sxN i 10),v] w fun e w'=>N4 w (sxN i 10) 1 (16+8*i) zs (fun u sh a b c=>(∃ cs fr,u.heap[sh]?=some (.cells cs 115 fr))∧xtV w.heap.size 179 (4+2*i) zs u sh a b c) e w':=by
 have q8:16+8*i=4*(4+2*i):=by omega
 have hpos:1<w.heap.size:=World.block_lt_of_cell? w ⟨1,0,none⟩ (hrc 0 (by decide))
 refine Te (sxN i 10) (nmB 10) (16+8*i) 2 0 1 158 (fV 149) v zs w (fun _ fv=>fv=fV 179) _ (fun _ _ _ _ h=>h) (fun u u' sh a b c ho h=>?_) (.inr ⟨_,rfl⟩) hv (by omega) (by omega) (by omega) hl ?_ ?_ (fun args w=>Zr Tryz.func158 (by rfl) (by rfl) args w) ?_ ?_ ?_ ?_
 ·obtain ⟨⟨cs,fr,hs⟩,hx⟩:=h
  refine ⟨⟨cs,fr,?_⟩,Zbt ⟨cs,fr,hs⟩ ho hx⟩
  obtain ⟨hz,c,cs2,fr2,hc,hk⟩:=ho
  exact (hk sh (Zs hs hc (by decide))).trans hs
 ·have q:=G7 (sxN i 10) (1+17*i+10) w hP (by omega) (Qn i 10 (by omega)) hf
  rw[Vy i 10 (by omega)] at q
  exact q
 ·intro u hu
  have q:=V0 (sxN i 10) (nmB 10) (4+2*i) 2 0 1 (fV 149) (fV 158) v zs u rfl rfl (hv.below hu) hb (by omega) (by omega) (by omega) (hrc.belowB hu hpos) (Nat.lt_of_lt_of_le hpos hu.size)
  rw[←q8] at q
  exact q.mono fun e u' h=>h
 ·intro bg hbg
  obtain rfl:bg=149:=by injection hbg with e;injection e with e;exact e.symm
  exact fun args w=>Zr Tryz.func149 (by rfl) (by rfl) args w
 ·intro q;cases q
 ·intro bg hbg B sh kv mp u hu hB1 hB2 hA
  obtain rfl:bg=149:=by injection hbg with e;injection e with e;exact e.symm
  refine (Vd _ u).mono ?_
  rintro e u' ⟨rfl,hw⟩
  obtain rfl:=hw.symm
  exact ⟨_,_,_,_,rfl,hA,⟨0,[],by omega,World.ownsRow_nil _ _ _ _⟩,Fs.of_below (Below.refl _ _) hB2,rfl⟩
 ·intro fv B sh kv mp ov u _ hΦ hu hB1 hB2 hA few
  subst hΦ
  have hA2:=hA
  rw[q8] at hA2
  refine (Bd B sh (sxN i 10) 1 (4+2*i) zs kv mp ov 179 #[] #[] u hA2 hB2 few (by omega) (by omega) hb (hrc.belowB hu hpos) (Nat.lt_of_lt_of_le hpos hu.size)).mono ?_
  intro e u' hh
  obtain ⟨go,ov',rfl,hgo,hK,hR,hS,hF⟩:=hh.out
  rw[←q8] at hS
  refine ⟨_,_,_,_,_,_,ov',rfl,hS,hF,⟨_,_,hS.box⟩,go,Nat.le_trans hu.size hgo,rfl,rfl,rfl,hK,hR,?_⟩
  rcases hA.main with ⟨q,_⟩ | ⟨g,nk,hm,_,_,_,hg,_⟩
  ·omega
  ·refine ⟨g,?_,by have:=hg.ciph.here;omega⟩
   rw[←hm]
   exact hS.box.cell 4 _ rfl
def ecV (sh:Nat) (fv sv pv:Value):Prop:=fv=.nilFunc∧sv=bV 174 [.pointer (some ⟨sh,0,none⟩)]∧pv=bV 175 [.pointer (some ⟨sh,0,none⟩)]
theorem Zac (i:Nat) (hi:i<3) (v:Value) (zs:List Int) (w:World) (hf:∀ j,j<1+17*i+0→spN j≠sxN i 0) (hv:Zi w v zs) (hb:Zg zs) (hl:zs.length=1*(16+8*i)+0) (hP:Pow w) (hrc:RC w) :
  Calls Tryz.prog 26 #[.string (sxN i 0),v] w fun e w'=>Zdv w (sxN i 0) 16 (16+8*i) zs ecV e w':=by
 have q8:16+8*i=4*(4+2*i):=by omega
 have hpos:1<w.heap.size:=World.block_lt_of_cell? w ⟨1,0,none⟩ (hrc 0 (by decide))
 refine B8 (sxN i 0) (nmB 0) (16+8*i) 1 0 16 146 .nilFunc v zs w (fun fv=>fv=.nilFunc) ecV (.inl rfl) hv (by omega) (by omega) (by omega) hl ?_ ?_ (fun args w=>Zr Tryz.func146 (by rfl) (by rfl) args w) ?_ ?_ ?_ ?_
 ·have q:=G7 (sxN i 0) (1+17*i+0) w hP (by omega) (Qn i 0 (by omega)) hf
  rw[Vy i 0 (by omega)] at q
  exact q
 ·intro u hu
  have q:=V0 (sxN i 0) (nmB 0) (4+2*i) 1 0 16 .nilFunc (fV 146) v zs u rfl rfl (hv.below hu) hb (by omega) (by omega) (by omega) (hrc.belowB hu hpos) (Nat.lt_of_lt_of_le hpos hu.size)
  rw[←q8] at q
  exact q.mono fun e u' h=>h
 ·intro bg hbg;cases hbg
 ·intro _;rfl
 ·intro bg hbg;cases hbg
 ·intro fv B sh kv mp ov u _ hΦ hu hB1 hB2 hA few
  subst hΦ
  refine (Ns sh .nilFunc u).mono ?_
  intro e u' hh
  obtain ⟨rfl,hb⟩:=hh.out
  exact ⟨_,_,_,_,_,_,_,rfl,hA.below hb,Fs.of_below hb hB2,rfl,rfl,rfl⟩
theorem Zdy {a b:BitVec 128} (h:Fd.BV a=Fd.BV b):a=b:=by
 have e:Fd.BL a=Fd.BL b:=by
  have h':Value.agg (Fd.BL a).toArray=Value.agg (Fd.BL b).toArray:=h
  injection h' with h'
  exact List.toArray_inj h'
 apply Fd.Ji
 intro i hi
 have h1:=Fd.Qc a i hi
 rw[e,Fd.Qc b i hi] at h1
 injection h1 with h1
 injection h1 with _ h1
 omega
theorem Zaa (v:BitVec 128):ofW (toW v)=v:=Zdy (by rw[←Rz,Re])
theorem Oh (t:W4) (ht:t.ok):toW (ofW t)=t:=by
 obtain ⟨a,b,c,d⟩:=t
 obtain ⟨h1,h2,h3,h4⟩:=ht
 have hb:byW ⟨a,b,c,d⟩=[bt0 a,bt1 a,bt2 a,bt3 a,bt0 b,bt1 b,bt2 b,bt3 b,bt0 c,bt1 c,bt2 c,bt3 c,bt0 d,bt1 d,bt2 d,bt3 d]:=rfl
 unfold toW
 rw[Xl _ 0 (by decide),Xl _ 1 (by decide),Xl _ 2 (by decide),Xl _ 3 (by decide),Xl _ 4 (by decide),Xl _ 5 (by decide),Xl _ 6 (by decide),Xl _ 7 (by decide),Xl _ 8 (by decide),Xl _ 9 (by decide),Xl _ 10 (by decide),Xl _ 11 (by decide),Xl _ 12 (by decide),Xl _ 13 (by decide),Xl _ 14 (by decide),Xl _ 15 (by decide),hb]
 simp only[List.getD_cons_zero,List.getD_cons_succ]
 rw[Qr h1,Qr h2,Qr h3,Qr h4]
def Zez (nr:Nat) (K:Nat→Nat) (v:BitVec 128):BitVec 128:=ofW (dcW nr K (toW v))
theorem Dw (nr:Nat) (K:Nat→Nat) (hK:∀ i,K i<4294967296) (v:BitVec 128):Zez nr K (Yz nr K v)=v:=by
 unfold Zez Yz
 rw[Oh _ (Zau hK nr _),Zax hK nr _ (Us v),Zaa]
theorem Nk (nr:Nat) (K:Nat→Nat) (hK:∀ i,K i<4294967296) (a b:BitVec 128) (h:Yz nr K a=Yz nr K b):a=b:=by
 rw[←Dw nr K hK a,h,Dw nr K hK b]
theorem Rb (a b c:BitVec 128) (h:a ^^^ c=b ^^^ c):a=b:=by
 have e:(a ^^^ c) ^^^ c=(b ^^^ c) ^^^ c:=by rw[h]
 rwa [BitVec.xor_assoc,BitVec.xor_self,BitVec.xor_zero,BitVec.xor_assoc,BitVec.xor_self,BitVec.xor_zero] at e
theorem R0 (nr:Nat) (K:Nat→Nat) (hK:∀ i,K i<4294967296) (f a b:BitVec 128) (h:Yz nr K (a ^^^ f) ^^^ f=Yz nr K (b ^^^ f) ^^^ f):a=b:=Rb a b f (Nk nr K hK _ _ (Rb _ _ f h))
end Go.Proofs.YtehlppaidgkpaaaGreatDoor
