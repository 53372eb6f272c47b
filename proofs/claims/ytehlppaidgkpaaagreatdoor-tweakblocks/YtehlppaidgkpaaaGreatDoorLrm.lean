import Derived.Test.YtehlppaidgkpaaaGreatDoorPart00
import Derived.Test.YtehlppaidgkpaaaGreatDoorPart44
namespace Go.Proofs.YtehlppaidgkpaaaGreatDoor
open Go.RowKit
set_option linter.unusedVariables false
set_option linter.unusedSimpArgs false
theorem Tryz.info29b:(Tryz.prog.info? 27).map (fun i=>(i.zero,i.size,i.bytes))=some (some (.agg ZZ.toArray),16,16):=by kernel_rfl
theorem Tryz.underlying77b:Tryz.prog.underlying 237=some (.slice 27):=by kernel_rfl
theorem Bx.storeAt {w:World} {b o:Nat} {t:TypeId} {cur L:List Value} (h:Bx w b t cur) (hl:o+L.length≤cur.length):Bx (w.setCells b o L) b t (splice cur o L):=by
 obtain ⟨r,h1,h2,h3⟩:=Q1 b t L o w cur.toArray h
 have e:r=(splice cur o L).toArray:=by
  apply Array.ext_getElem?
  intro j
  rw[h3]
  simp only[List.size_toArray,List.getElem?_toArray,splice]
  by_cases c1:j<o
  ·rw[if_neg (by omega),List.getElem?_append_left (by rw[List.length_take];omega),List.getElem?_take,if_pos c1]
  ·rw[List.getElem?_append_right (by rw[List.length_take];omega),List.length_take,Nat.min_eq_left (by omega)]
   by_cases c2:j<o+L.length
   ·rw[if_pos (by omega),List.getElem?_append_left (by omega)]
   ·rw[if_neg (by omega),List.getElem?_append_right (by omega),List.getElem?_drop]
    congr 1;omega
 unfold Bx
 rw[h1,e]
theorem Jv {w:World} {base n g:Nat} {e:TypeId} {xs:List Value} (h:w.ownsRow base e 16 (.slice (some ⟨g,0,none⟩) n n) n xs):Bx w g e xs∧xs.length=16*n:=by
 obtain ⟨h1,h2⟩:=h
 rcases h2 with ⟨q,_⟩ | ⟨g',cap,cur,q,_,hh,_,_,hs,ht⟩
 ·cases q
 ·injection q with q1 q2 q3
  injection q1 with q1
  injection q1 with q1
  subst q1 q3
  have:xs.toArray=cur:=by
   rw[←ht,List.take_of_length_le (by simp;omega)]
  refine ⟨?_,by omega⟩
  unfold Bx;rw[hh,this]
def Pw (a:BitVec 128) (m:Nat):BitVec 128:=Fd.TB a (Fd.rv (BitVec.ofNat 128 m))
theorem Sj (s k j:Nat) (hs:s<18446744073709551616) (hk:k≤64) (hj:j<64):(Fd.hiV (Jm s k)+(Fd.loV (Jm s k)+j)/18446744073709551616)%18446744073709551616=Fd.hiV (BitVec.ofNat 128 (s*k+1+j))∧(Fd.loV (Jm s k)+j)%18446744073709551616=Fd.loV (BitVec.ofNat 128 (s*k+1+j)):=by
 have h:s*k≤18446744073709551615*64:=Nat.mul_le_mul (by omega) hk
 unfold Fd.hiV Fd.loV Jm
 rw[BitVec.toNat_ofNat,BitVec.toNat_ofNat]
 generalize s*k=M at h ⊢
 constructor<;>omega
theorem Q7 (v:BitVec 128):Fd.hiV v<18446744073709551616∧Fd.loV v<18446744073709551616:=by
 have:=v.isLt
 unfold Fd.hiV Fd.loV
 constructor<;>omega
structure LmI (B:Nat) (f:Nat→BitVec 128) (L:List Value) (y x k:Nat) (w u:World) (j:Nat):Prop where
 fac:Bx u y 27 L
 row:∃ T,Bx u x 27 (bkL f j++T)∧T.length=16*(k-j)
 bel:Below B w u
theorem LmI.below {B:Nat} {f:Nat→BitVec 128} {L:List Value} {y x k:Nat} {w u v:World} {j:Nat} (h:LmI B f L y x k w u j) (hb:Below u.heap.size u v) (hB:B≤u.heap.size):LmI B f L y x k w v j:=by
 obtain ⟨T,h1,h2⟩:=h.row
 exact ⟨h.fac.below hb,⟨T,h1.below hb,h2⟩,h.bel.trans (hb.mono hB)⟩
theorem LmI.there {B:Nat} {f:Nat→BitVec 128} {L:List Value} {y x k:Nat} {w u:World} {j:Nat} (h:LmI B f L y x k w u j) (hj:j<k):u.there x (0+j*16) 16:=by
 obtain ⟨T,h1,h2⟩:=h.row
 intro i hi
 have hl:0+j*16+i<(bkL f j++T).length:=by rw[List.length_append,Zu,h2];omega
 exact ⟨by rw[h1.cell _ _ (List.getElem?_eq_getElem hl)];rfl,h1.frozen _⟩
theorem LmI.store {B:Nat} {f:Nat→BitVec 128} {L:List Value} {y x k:Nat} {w u:World} {j:Nat} (h:LmI B f L y x k w u j) (hj:j<k) (hxy:x≠y) (hx:B≤x) (hB:B≤u.heap.size):LmI B f L y x k w (u.setCells x (0+j*16) (Fd.BL (f j))) (j+1):=by
 obtain ⟨T,h1,h2⟩:=h.row
 have hg:=Z5 x (Fd.BL (f j)) (0+j*16) u
 refine ⟨h.fac.keep (hg.block y h.fac.lt (fun e=>hxy (by injection e with e;exact e.symm))),⟨T.drop 16,?_,by rw[List.length_drop,h2];omega⟩,h.bel.trans (Yi hg hB hx)⟩
 have q:=h1.storeAt (o:=0+j*16) (L:=Fd.BL (f j)) (by rw[Fd.Zq,List.length_append,Zu,h2];omega)
 have e:splice (bkL f j++T) (0+j*16) (Fd.BL (f j))=bkL f (j+1)++T.drop 16:=by
  simp only[splice,Fd.Zq]
  rw[Km,List.take_append_of_le_length (by rw[Zu];omega),List.take_of_length_le (by rw[Zu];omega),List.drop_append,Zu,List.drop_of_length_le (by rw[Zu];omega),show 0+j*16+16-16*j=16 by omega]
  simp
 rw[e] at q
 exact q
set_option maxHeartbeats 800000 in
set_option maxRecDepth 100000 in
theorem Pg (sh wd:Nat) (zs:List Int) (kv:Value) (w:World) (hv:Zi w kv zs) (c2:w.cell? ⟨sh,2,none⟩=some kv) (c3:w.cell? ⟨sh,3,none⟩=some (.int .i64 (wd:Nat))) (hwd:wd≤zs.length) :
  Calls Tryz.prog 192 #[.pointer (some ⟨sh,0,none⟩)] w fun e w'=>Hid (∃ y d,e=.returned (.slice y (zs.length-wd) d)∧Zi w' (.slice y (zs.length-wd) d) (zs.drop wd)∧Below w.heap.size w w'):=by
 obtain ⟨xa,xc,rfl,h1,h2,h3,h4⟩:=id hv
 obtain ⟨n,HNL⟩:∃ n,Hid (zs.length=n):=⟨_,rfl⟩
 rw[HNL.out] at hwd h1 hv c2 ⊢
 obtain ⟨y,d,hsl,hvv⟩:=Bp hv wd hwd
 have hlt:sh<w.heap.size:=World.block_lt_of_cell? w _ c2
 have hS:∀ u:World,(Instr.slice 22 (.slice xa n xc) (some (.int .i64 (wd:Nat))) (some (.int .i64 (n:Nat))) (some (.int .i64 (n:Nat)))).run Tryz.prog u=.ok (.slice y (n-wd) d) u:=fun u=>by
  have q:=run_slice_lhm (P:=Tryz.prog) u 22 xa n xc Dn .i64 .i64 .i64 (wd:Nat) (n:Nat) (n:Nat) (by omega) (by omega) (by omega) (by omega)
  rw[q,show Tryz.prog.elem 22=5 by kernel_rfl,sizeOf5]
  simp only[Result.andThen_ok,Int.toNat_natCast]
  rw[hsl]
 have HV:Hid (Zi w (.slice y (n-wd) d) (zs.drop wd)):=hvv
 have g0:(0:Int)≤(wd:Int):=by omega
 have g1:(wd:Int)≤(n:Int):=by omega
 clear hv h1 h2 h3 h4 hsl hvv hwd
 go_enter Tryz.func192,Tryz.ntmps192
 go_wp2
 go_quiet (fail)
 go_wp2
 go_ret
 exact ⟨y,d,rfl,HV.out.below (Below.drewN (Below.refl _ _) _),Below.drewN (Below.refl _ _) _⟩
set_option maxHeartbeats 3200000 in
set_option maxRecDepth 100000 in
theorem Pz (sh wd:Nat) (zs:List Int) (kv:Value) (s n k:Nat) (w:World) (hv:Zi w kv zs) (c2:w.cell? ⟨sh,2,none⟩=some kv) (c3:w.cell? ⟨sh,3,none⟩=some (.int .i64 (wd:Nat))) (hwd:wd+16≤zs.length) (hzl:zs.length≤1000) (hn:n=16*k) (hk:k≤64) (hs:s<18446744073709551616) (hb:Zg zs) :
   Calls Tryz.prog 231 #[.agg #[.pointer (some ⟨sh,0,none⟩),.func (.func 183) #[] #[]],.int .u64 (s:Nat),.int .i64 (n:Nat)] w fun e w'=>Hid (∃ x,e=.returned (.slice (some ⟨x,0,none⟩) k k)∧w.heap.size≤x∧Bx w' x 27 (bkL (fun j=>Pw (cutV (zs.drop wd) 0) (s*k+1+j)) k)∧Below w.heap.size w w'):=by
 obtain ⟨w1,hw1⟩:∃ w1,w1=w.alloc (.cells #[.pointer (some ⟨sh,0,none⟩),.func (.func 183) #[] #[]] 253):=⟨_,rfl⟩
 have hb1:Below w.heap.size w w1:=by rw[hw1];exact (Below.refl _ _).alloc (Nat.le_refl _) _
 have hB1:Bx w1 w.heap.size 253 [.pointer (some ⟨sh,0,none⟩),.func (.func 183) #[] #[]]:=by rw[hw1];exact Bx.new w 253 [.pointer (some ⟨sh,0,none⟩),.func (.func 183) #[] #[]]
 obtain ⟨F,HFc⟩:∃ F,Hid (F=cutV (zs.drop wd) 0):=⟨_,rfl⟩
 obtain ⟨L,HL⟩:∃ L,Hid (L=Fd.BL F):=⟨_,rfl⟩
 obtain ⟨f,Hf⟩:∃ f:Nat→BitVec 128,Hid (f=fun j=>Pw F (s*k+1+j)):=⟨_,rfl⟩
 obtain ⟨m,HM⟩:∃ m,Hid (zs.length-wd=m):=⟨_,rfl⟩
 have HR:Hid (Calls Tryz.prog 192 #[.pointer (some ⟨sh,0,none⟩)] w1 fun e w'=>Hid (∃ b off d,e=.returned (.slice (some ⟨b,off,none⟩) m d)∧(∀ u,Below w'.heap.size w' u→Calls Tryz.prog 197 #[.slice (some ⟨b,off,none⟩) m d,.int .i64 0] u fun e w'=>Hid (e=.returned (.agg L.toArray)∧Below u.heap.size u w'))∧Below w1.heap.size w1 w')):=by
   refine (Pg sh wd zs kv w1 (hv.below hb1) ((hb1.cell (World.block_lt_of_cell? w _ c2)).trans c2) ((hb1.cell (World.block_lt_of_cell? w _ c3)).trans c3) (by omega)).mono ?_
   intro e w' hh
   obtain ⟨y,d,rfl,hvv,hbb⟩:=hh.out
   have hld:(zs.drop wd).length=m:=by rw[List.length_drop,HM.out]
   obtain ⟨a,cc,he,p1,p2,p3,p4⟩:=hvv
   rw[hld] at he p1
   rw[HM.out] at he ⊢
   injection he with e1 e2 e3
   subst e1 e3
   rcases p4 with p4 | ⟨b,off,rfl,p4⟩
   ·rw[p4] at hld;simp at hld;have:=HM.out;omega
   refine ⟨b,off,d,rfl,fun u hu=>?_,hbb⟩
   have q:=He b off d 0 (zs.drop wd) u (by rw[hld,←HM.out];omega) (by rw[hld];exact p1) (by rw[hld,←HM.out];omega) (fun i=>by rw[List.getD_eq_getElem?_getD,List.getElem?_drop,←List.getD_eq_getElem?_getD];exact hb _) (fun i hi=>(hu.cell (World.block_lt_of_cell? w' _ (p4 i hi))).trans (p4 i hi))
   rw[hld,←HFc.out] at q
   rw[HL.out]
   exact q
 have HBen:Hid (∀ u,Calls Tryz.prog 183 #[.int .u64 (s:Nat),.int .i64 (n:Nat)] u fun e w'=>Hid (e=.returned (Fd.BV (Fd.rv (Jm s k)))∧Below u.heap.size u w')):=fun u=>by
   have q:=Is s n u hs (by omega)
   rw[hn,show 16*k/16=k by omega] at q
   rw[hn];exact q
 have HFb:Hid (∀ u,Calls Tryz.prog 244 #[Fd.BV (Fd.rv (Jm s k))] u fun e w'=>e=.returned (.tuple #[.int .u64 (Fd.hiV (Jm s k):Nat),.int .u64 (Fd.loV (Jm s k):Nat)])∧Below u.heap.size u w'):=fun u=>by
   have q:=Fd.F4 (Fd.rv (Jm s k)) u
   rw[Fd.Zd9] at q;exact q
 obtain ⟨hi,HHI⟩:∃ hi,Hid (Fd.hiV (Jm s k)=hi):=⟨_,rfl⟩
 obtain ⟨lo,HLO⟩:∃ lo,Hid (Fd.loV (Jm s k)=lo):=⟨_,rfl⟩
 have HAd:Hid (∀ u j,j<k→Calls Tryz.prog 185 #[.int .u64 (hi:Nat),.int .u64 (lo:Nat),.int .u64 (j:Nat)] u fun e w'=>e=.returned (.tuple #[.int .u64 (Fd.hiV (BitVec.ofNat 128 (s*k+1+j)):Nat),.int .u64 (Fd.loV (BitVec.ofNat 128 (s*k+1+j)):Nat)])∧w'=u):=fun u j hj=>by
   have q:=D4 (Fd.hiV (Jm s k)) (Fd.loV (Jm s k)) j u (Q7 _).1 (Q7 _).2 (by omega)
   rw[(Sj s k j hs hk (by omega)).1,(Sj s k j hs hk (by omega)).2,HHI.out,HLO.out] at q
   exact q
 have HT:Hid (∀ u j,j<k→Calls Tryz.prog 245 #[.agg L.toArray,Fd.BV (Fd.rv (BitVec.ofNat 128 (s*k+1+j)))] u fun e w'=>Hid (e=.returned (.agg (Fd.BL (f j)).toArray)∧Below u.heap.size u w')):=fun u j hj=>by
   rw[HL.out,Hf.out]
   exact (Fd.Vv F _ u).mono fun e w' hh=>hh
 rw[HHI.out,HLO.out] at HFb
 obtain ⟨i0,hi0,hz0,hz1,hz2⟩:=info_parts Tryz.info29b
 have HI0:Hid (Tryz.prog.info? 27=some i0∧i0.zero=some (.agg ZZ.toArray)∧i0.size=16∧i0.bytes=16):=⟨hi0,hz0,hz1,hz2⟩
 have HLN:Hid (L.length=16∧∀ x∈L,x.oneCell'=true):=by rw[HL.out];exact ⟨Fd.Zq _,Yt _⟩
 have q1:(n:Int).tdiv 16=(k:Int):=by rw[hn,Int.tdiv_eq_ediv_of_nonneg (by omega)];omega
 have q3:IntKind.i64.wrap (k:Int)=(k:Int):=by rw[IntKind.wrap_i64];omega
 have q4:(n:Int)/16=(k:Int):=by rw[hn];omega
 have HK:Hid (k≤64):=hk
 have HMF:Hid (i0.bytes*k≤281474976710656∧k≤maxLen):=Nb i0.bytes k k 16 (by decide) HI0.out.2.2.2 (by omega)
 have HW1:Hid (Below w.heap.size w w1∧Bx w1 w.heap.size 253 [.pointer (some ⟨sh,0,none⟩),.func (.func 183) #[] #[]]):=⟨hb1,hB1⟩
 rw[←HFc.out,←Hf.out]
 clear hv c2 c3 hwd hzl hn hk hs hb hb1 hB1 hi0 hz0 hz1 hz2
 go_enter Tryz.func231,Tryz.ntmps231
 go_upto_region 1 with fail
 rw[←hw1]
 clear hw1
 obtain ⟨M,HMM⟩:∃ M,Hid (w.heap.size=M):=⟨_,rfl⟩
 rw[HMM.out] at HW1 ⊢
 have c0:w1.cell? ⟨M,0,none⟩=some (.pointer (some ⟨sh,0,none⟩)):=HW1.out.2.cell 0 _ rfl
 go_upto_region 2 with (first
   | (go_at_call 192;refine HR.out.mono ?_;intro e2 w2 hh;obtain ⟨b,off,d,rfl,hcut,hb2⟩:=hh.out;have HC2:Hid ((∀ u,Below w2.heap.size w2 u→Calls Tryz.prog 197 #[.slice (some ⟨b,off,none⟩) m d,.int .i64 0] u fun e w'=>Hid (e=.returned (.agg L.toArray)∧Below u.heap.size u w'))∧Below w1.heap.size w1 w2):=⟨hcut,hb2⟩;clear hh hcut hb2)
   | (go_at_call 197;refine (HC2.out.1 _ (Below.refl _ _)).mono ?_;intro e3 w3 hh;obtain ⟨rfl,hb3⟩:=hh.out;have HB3:Hid (Below w2.heap.size w2 w3):=hb3;clear hh hb3)
   | (refine Zm (by rfl) 27 (.tmp 7) (.tmp 15) (by rfl) ZZ L w3.heap.size (by rfl) (by rfl) (Bx.new w3 27 ZZ) (by rw[HLN.out.1];rfl) (by rw[HLN.out.1];kernel_rfl) HLN.out.2 ?_;intro w4 hb4 hg4;have HB4:Hid (Bx w4 w3.heap.size 27 L∧Below w3.heap.size w3 w4):=⟨hb4,((Below.refl _ _).alloc (Nat.le_refl _) _).trans (Yi hg4 (by simp) (Nat.le_refl _))⟩;clear hb4 hg4))
 have hM4:Hid (Below M w w4∧Bx w4 M 253 [.pointer (some ⟨sh,0,none⟩),.func (.func 183) #[] #[]]∧M+1≤w3.heap.size):=by
   have s1:=HW1.out.2.lt
   have b2:=HC2.out.2
   have b3:=HB3.out
   have b4:=HB4.out.2
   have s2:=b2.size
   have s3:=b3.size
   refine ⟨HW1.out.1.trans ((b2.mono (by omega)).trans ((b3.mono (by omega)).trans (b4.mono (by omega)))),HW1.out.2.keep ?_,by omega⟩
   rw[b4.block M (by omega),b3.block M (by omega),b2.block M (by omega)]
 obtain ⟨y,HYY⟩:∃ y,Hid (w3.heap.size=y):=⟨_,rfl⟩
 rw[HYY.out] at HB4 hM4 ⊢
 clear HC2 HB3 HW1 c0 HR
 have c1:w4.cell? ⟨M,1,none⟩=some (.func (.func 183) #[] #[]):=hM4.out.2.1.cell 1 _ rfl
 go_upto_region 3 with (first
   | (go_at_call 183;refine (HBen.out _).mono ?_;intro e5 w5 hh;obtain ⟨rfl,hb5⟩:=hh.out;have HB5:Hid (Below w4.heap.size w4 w5):=hb5;clear hh hb5)
   | (go_at_call 244;refine (HFb.out _).mono ?_;rintro e6 w6 ⟨rfl,hb6⟩;have HB6:Hid (Below w5.heap.size w5 w6):=hb6;clear hb6))
 obtain ⟨x,HXX⟩:∃ x,Hid (w6.heap.size=x):=⟨_,rfl⟩
 have HB7:Hid (Below M w w6∧Bx w6 y 27 L∧M≤y∧y<x):=by
   have s4:=HB4.out.1.lt
   have s5:=HB5.out.size
   have s6:=HB6.out.size
   have s3:=hM4.out.2.2
   exact ⟨hM4.out.1.trans ((HB5.out.mono (by omega)).trans (HB6.out.mono (by omega))),(HB4.out.1.below HB5.out).below HB6.out,by omega,by rw[←HXX.out];omega⟩
 clear HB5 HB6 hM4 c1 HB4 HBen HFb
 go_upto_region 4 with (first
   | (at_make;go_must (refine wpList_make_full _ rfl _ _ 237 rfl w6.heap.size 27 i0 (.agg ZZ.toArray) 16 Tryz.underlying77b HI0.out.1 HI0.out.2.1 HI0.out.2.2.1 .i64 .i64 (k:Nat) (k:Nat) k rfl rfl rfl rfl HMF.out.1 HMF.out.2 (Nat.le_refl _) ?_;intro w7 hown hgrow;have HW7:Hid (LmI M f L y x k w w7 0):=⟨HB7.out.2.1.keep (hgrow.block y HB7.out.2.1.lt (by simp)),⟨_,by rw[←HXX.out];exact (Jv hown).1,(Jv hown).2⟩,HB7.out.1.trans ⟨hgrow.os,hgrow.tape,hgrow.output,hgrow.size,fun k hk=>hgrow.block k (by have:=HXX.out;have:=HB7.out;omega) (by simp)⟩⟩;clear hown hgrow)))
 rw[HXX.out]
 clear HXX
 have HXY:Hid (M≤y∧y<x):=HB7.out.2.2
 clear HB7
 go_upto_region 5 with fail
 go_loopw [30] (fun v wr=>∃ j:Nat,j≤k∧v=.int .i64 (j:Nat)∧Hid (LmI M f L y x k w wr j)) (fun v _=>k-(intOf v).toNat)
 case atStart=>exact ⟨0,Nat.zero_le _,rfl,HW7⟩
 case round=>
  as_aux_lemma=>
   obtain ⟨j,hj,rfl,HI⟩:=hrel
   by_cases hlt:j<k
   ·have HJ:Hid (j<k):=hlt
    obtain ⟨ej,ej2,g1⟩:=Rl j k hlt HK.out
    have hwj:IntKind.u64.wrap (j:Int)=(j:Int):=Yr j (by have:=HK.out;omega)
    go_upto_region 7 with fail
    have HIL:Hid (∀ u,LmI M f L y x k w u j→u.rangeAt y 0 L):=fun u hu=>hu.fac.range
    have hiL:(Tryz.prog.info? 27).map (·.size)=some L.length:=by rw[HLN.out.1];kernel_rfl
    have hS0:wr.drew.rangeAt y 0 L:=by simpa using HIL.out wr HI.out
    have HID:Hid (LmI M f L y x k w wr.drew j):=HI.out.below ((Below.refl _ _).drew) (by have:=HI.out.fac.lt;have:=HXY.out;omega)
    have k0:(0:Int)≤(j:Int):=by omega
    obtain ⟨a1,HA1⟩:∃ a1,Hid (Fd.hiV (BitVec.ofNat 128 (s*k+1+j))=a1):=⟨_,rfl⟩
    obtain ⟨a2,HA2⟩:∃ a2,Hid (Fd.loV (BitVec.ofNat 128 (s*k+1+j))=a2):=⟨_,rfl⟩
    obtain ⟨P,HP⟩:∃ P,Hid (Fd.BL (Fd.rv (BitVec.ofNat 128 (s*k+1+j)))=P):=⟨_,rfl⟩
    obtain ⟨L4,HL4⟩:∃ P,Hid (Fd.BL (f j)=P):=⟨_,rfl⟩
    have HC1:Hid (∀ u,Calls Tryz.prog 185 #[.int .u64 (hi:Nat),.int .u64 (lo:Nat),.int .u64 (j:Nat)] u fun e w'=>e=.returned (.tuple #[.int .u64 (a1:Nat),.int .u64 (a2:Nat)])∧w'=u):=fun u=>by
     have q:=HAd.out u j HJ.out;rw[HA1.out,HA2.out] at q;exact q
    have HC2:Hid (∀ u,Calls Tryz.prog 182 #[.int .u64 (a1:Nat),.int .u64 (a2:Nat)] u fun e w'=>Hid (e=.returned (.agg P.toArray)∧Below u.heap.size u w')):=fun u=>by
     rw[←HA1.out,←HA2.out,←HP.out];exact (Fd.Bh _ u).mono fun e w' hh=>hh
    have HC3:Hid (∀ u,Calls Tryz.prog 245 #[.agg L.toArray,.agg P.toArray] u fun e w'=>Hid (e=.returned (.agg L4.toArray)∧Below u.heap.size u w')):=fun u=>by
     rw[←HP.out,←HL4.out];exact HT.out u j HJ.out
    have h416:L4.length=16:=by rw[←HL4.out];exact Fd.Zq _
    have h41:∀ v∈L4,v.oneCell'=true:=by rw[←HL4.out];exact Yt _
    have hi4:(Tryz.prog.info? 27).map (·.size)=some L4.length:=by rw[h416];kernel_rfl
    refine wp_region_noPanic ?_
    refine Yb (fun u=>u.rangeAt y 0 L) 13 (by kernel_rfl) (by decide) (by decide +kernel) (by decide +kernel) (by decide +kernel) (fun inv=>?_)
    refine tT 0 33 (.slice (some ⟨x,0,none⟩) k k) inv rfl rfl (by decide +kernel) hS0 (Or.inl ⟨by rfl,fun w' hS'=>by go_simp⟩) (fun inv=>?_)
    simp only[pU]
    refine tT 1 34 (.int .i64 (j:Nat)) inv rfl rfl (by decide +kernel) hS0 (Or.inl ⟨by rfl,fun w' hS'=>by go_simp⟩) (fun inv=>?_)
    simp only[pU]
    refine tT 2 35 (.agg L.toArray) inv rfl rfl (by decide +kernel) hS0 (yieldsIf_load_mid (by rfl) 27 (.tmp 7) rfl y 0 rfl L _ (fun u hu=>hu) Tryz.underlying27 rfl hiL) (fun inv=>?_)
    simp only[pU]
    refine tT 3 36 (.int .u64 (hi:Nat)) inv rfl rfl (by decide +kernel) hS0 (Or.inl ⟨by rfl,fun w' hS'=>by go_simp⟩) (fun inv=>?_)
    simp only[pU]
    refine tT 4 37 (.int .u64 (lo:Nat)) inv rfl rfl (by decide +kernel) hS0 (Or.inl ⟨by rfl,fun w' hS'=>by go_simp⟩) (fun inv=>?_)
    simp only[pU]
    refine tT 5 38 (.int .i64 (j:Nat)) inv rfl rfl (by decide +kernel) hS0 (Or.inl ⟨by rfl,fun w' hS'=>by go_simp⟩) (fun inv=>?_)
    simp only[pU]
    refine tT 6 39 (.int .u64 (j:Nat)) inv rfl rfl (by decide +kernel) hS0 (Or.inl ⟨by rfl,fun w' hS'=>by go_simp⟩) (fun inv=>?_)
    simp only[pU]
    refine Zv (i:=7) inv (by decide +kernel) (by decide) rfl (fun KK hK=>?_)
    go_simp
    refine (HC1.out _).mono ?_
    rintro e2 w2 ⟨rfl,hw⟩
    obtain rfl:=hw.symm
    clear hw
    go_wp2_with fail
    refine hK.out _ _ hS0 (fun inv'=>?_)
    clear hK KK inv;have inv:=inv';clear inv'
    try simp only[pU]
    refine tT 8 41 (.int .u64 (a1:Nat)) inv rfl rfl (by decide +kernel) hS0 (Or.inl ⟨by rfl,fun w' hS'=>by go_simp⟩) (fun inv=>?_)
    simp only[pU]
    refine tT 9 42 (.int .u64 (a2:Nat)) inv rfl rfl (by decide +kernel) hS0 (Or.inl ⟨by rfl,fun w' hS'=>by go_simp⟩) (fun inv=>?_)
    simp only[pU]
    refine Zv (i:=10) inv (by decide +kernel) (by decide) rfl (fun KK hK=>?_)
    go_simp
    refine (HC2.out _).mono ?_
    intro e3 w3 hh
    obtain ⟨rfl,hb3⟩:=hh.out
    have HI3:Hid (LmI M f L y x k w w3 j):=HID.out.below hb3 (by have:=HID.out.fac.lt;have:=HXY.out;omega)
    clear hh hb3
    go_wp2_with fail
    refine hK.out _ _ (HIL.out w3 HI3.out) (fun inv'=>?_)
    clear hK KK inv;have inv:=inv';clear inv'
    try simp only[pU]
    refine Zv (i:=11) inv (by decide +kernel) (by decide) rfl (fun KK hK=>?_)
    go_simp
    refine (HC3.out _).mono ?_
    intro e4 w4 hh
    obtain ⟨rfl,hb4⟩:=hh.out
    have HI4:Hid (LmI M f L y x k w w4 j):=HI3.out.below hb4 (by have:=HI3.out.fac.lt;have:=HXY.out;omega)
    clear hh hb4
    go_wp2_with fail
    refine hK.out _ _ (HIL.out w4 HI4.out) (fun inv'=>?_)
    clear hK KK inv;have inv:=inv';clear inv'
    try simp only[pU]
    refine tT 12 45 (.pointer (some ⟨x,0+j*16,none⟩)) inv rfl rfl (by decide +kernel) (HIL.out w4 HI4.out) (Or.inl ⟨by rfl,fun w' hS'=>by go_simp⟩) (fun inv=>?_)
    simp only[pU]
    refine Z9 (i:=13) (by decide +kernel) (by decide) rfl (fun KK hK=>?_)
    rw[if_pos (by rfl)]
    refine wp_store_mid 27 (.tmp 45) (.tmp 44) rfl x (0+j*16) L4.toArray rfl rfl (by simpa [h416] using HI4.out.there HJ.out) (by rw[List.size_toArray];exact hi4) (all_oneCell_toArray h41) ?_
    refine hK.out _ _ ?_
    clear hK KK
    try simp only[pU]
    refine Y8 (by decide +kernel) ?_ _
    refine NoPanic.normal ?_
    have HI9:Hid (LmI M f L y x k w (w4.setCells x (0+j*16) L4.toArray.toList) (j+1)):=by
     have q:=HI4.out.store HJ.out (by have:=HXY.out;omega) (by have:=HXY.out;omega) (by have:=HI4.out.fac.lt;have:=HXY.out;omega)
     rw[HL4.out] at q;exact q
    obtain ⟨u9,hu9⟩:∃ u9,u9=w4.setCells x (0+j*16) L4.toArray.toList:=⟨_,rfl⟩
    rw[←hu9] at HI9 ⊢
    clear hu9 hS0 inv
    go_wp2
    exact ⟨⟨j+1,HJ.out,by first | rfl | simp,HI9⟩,by first | exact Q6 j k HJ.out | (simpa using Q6 j k HJ.out)⟩
   ·have g1:¬ (j:Int)<(k:Int):=by omega
    have HF:Hid (Bx wr x 27 (bkL f k)∧Below M w wr):=by
     obtain ⟨p1,⟨T,p2,p3⟩,p4⟩:=HI.out
     rw[show j=k by omega] at p2 p3
     have:T=[]:=List.eq_nil_of_length_eq_zero (by omega)
     rw[this,List.append_nil] at p2
     exact ⟨p2,p4⟩
    clear HI
    go_wp2
    go_ret
    exact ⟨x,rfl,by have:=HXY.out;have:=HMM.out;omega,HF.out.1,by rw[HMM.out];exact HF.out.2⟩
end Go.Proofs.YtehlppaidgkpaaaGreatDoor
