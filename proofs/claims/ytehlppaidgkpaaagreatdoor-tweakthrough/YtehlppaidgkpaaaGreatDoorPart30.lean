import Derived.Test.YtehlppaidgkpaaaGreatDoorPart28
import Derived.WalkSmall
import Derived.Test.YtehlppaidgkpaaaGreatDoorPart00
import Derived.Test.YtehlppaidgkpaaaGreatDoorDgRT32
import Derived.Test.YtehlppaidgkpaaaGreatDoorPart25
namespace Go.Proofs.YtehlppaidgkpaaaGreatDoor
open Go.RowKit
set_option linter.unusedVariables false
set_option linter.unusedSimpArgs false
def bV (n:Nat) (cs:List Value):Value:=.func (.func n) #[.agg cs.toArray] #[]
theorem Kq (p:Value) (w:World):Calls Tryz.prog 149 #[p] w fun e w'=>e=.returned (fV 179)∧w'=w:=by
 go_enter Tryz.func149,Tryz.ntmps149
 go_wp2
 go_ret
 exact ⟨rfl,rfl⟩
theorem Wz (p:Value) (w:World):Calls Tryz.prog 150 #[p] w fun e w'=>e=.returned (fV 180)∧w'=w:=by
 go_enter Tryz.func150,Tryz.ntmps150
 go_wp2
 go_ret
 exact ⟨rfl,rfl⟩
theorem Vy (p:Value) (w:World):Calls Tryz.prog 151 #[p] w fun e w'=>e=.returned (fV 181)∧w'=w:=by
 go_enter Tryz.func151,Tryz.ntmps151
 go_wp2
 go_ret
 exact ⟨rfl,rfl⟩
set_option maxHeartbeats 800000 in
set_option maxRecDepth 100000 in
theorem Be (sh:Nat) (f:Value) (w:World):Calls Tryz.prog 146 #[.pointer (some ⟨sh,0,none⟩),f] w fun e w'=>Hid (e=.returned (.tuple #[bV 174 [.pointer (some ⟨sh,0,none⟩)],bV 175 [.pointer (some ⟨sh,0,none⟩)]])∧Below w.heap.size w w'):=by
 go_enter Tryz.func146,Tryz.ntmps146
 go_upto_region 2 with fail
 obtain ⟨w1,hw1⟩:∃ w1,w1=w.alloc (.cells #[.pointer (some ⟨sh,0,none⟩)] 240):=⟨_,rfl⟩
 have HW:Hid (Bx w1 w.heap.size 240 [.pointer (some ⟨sh,0,none⟩)]∧Below w.heap.size w w1):=by rw[hw1];exact ⟨Bx.new w 240 _,(Below.refl _ _).alloc (Nat.le_refl _) _⟩
 rw[←hw1]
 clear hw1
 have d0:w1.cell? ⟨w.heap.size,0,none⟩=some (.pointer (some ⟨sh,0,none⟩)):=HW.out.1.cell 0 _ rfl
 go_region
 all_goals go_wp2
 all_goals go_ret2
 all_goals exact ⟨rfl,HW.out.2.drew⟩
set_option maxHeartbeats 800000 in
set_option maxRecDepth 100000 in
theorem Bf (sh:Nat) (fn:Nat) (xs ys:Array Value) (w:World):Calls Tryz.prog 148 #[.pointer (some ⟨sh,0,none⟩),.func (.func fn) xs ys] w fun e w'=>Hid (e=.returned (.tuple #[bV 177 [.pointer (some ⟨sh,0,none⟩),.func (.func fn) xs ys],bV 178 [.pointer (some ⟨sh,0,none⟩),.func (.func fn) xs ys]])∧Below w.heap.size w w'):=by
 go_enter Tryz.func148,Tryz.ntmps148
 go_upto_region 2 with fail
 obtain ⟨w1,hw1⟩:∃ w1,w1=w.alloc (.cells #[.pointer (some ⟨sh,0,none⟩),.func (.func fn) xs ys] 242):=⟨_,rfl⟩
 have HW:Hid (Bx w1 w.heap.size 242 [.pointer (some ⟨sh,0,none⟩),.func (.func fn) xs ys]∧Below w.heap.size w w1):=by rw[hw1];exact ⟨Bx.new w 242 _,(Below.refl _ _).alloc (Nat.le_refl _) _⟩
 rw[←hw1]
 clear hw1
 have d0:w1.cell? ⟨w.heap.size,0,none⟩=some (.pointer (some ⟨sh,0,none⟩)):=HW.out.1.cell 0 _ rfl
 have d1:w1.cell? ⟨w.heap.size,1,none⟩=some (.func (.func fn) xs ys):=HW.out.1.cell 1 _ rfl
 go_region
 all_goals go_wp2
 all_goals go_ret2
 all_goals exact ⟨rfl,HW.out.2.drew⟩
end Go.Proofs.YtehlppaidgkpaaaGreatDoor
namespace Go.Proofs.YtehlppaidgkpaaaGreatDoor.Dg
open Go.RowKit
set_option linter.unusedVariables false
set_option linter.unusedSimpArgs false
theorem Ey:∀ t,t<80→IntKind.u32.wrap (Zs t/4294967296)=Zs t/4294967296:=by decide +kernel
theorem Of:(Tryz.prog.info? 196).map (·.size)=some (Cl 64 (fun j=>.int .u32 (Zs j/4294967296))).length:=by rw[Xb];kernel_rfl
theorem I9 {wr:World} {a:Addr} {u:Value} {k:Nat} (h:wr.heap.size=k):Hid ((wr.setCell a u).heap.size=k):=by
 show (wr.setCell a u).heap.size=k
 simpa [World.setCell] using h
theorem Ui (s:Zb):s.cells=Cl 8 (fun j=>.int .u64 (fnz s.list j)):=rfl
def Zb.low (s:Zb):Zb:=s.map (·%4294967296)
theorem O8 (s:Zb) (j:Nat) (hj:j<8):fnz s.low.list j=fnz s.list j%4294967296:=by
 match j,hj with
 | 0,_ | 1,_ | 2,_ | 3,_ | 4,_ | 5,_ | 6,_ | 7,_=>rfl
theorem Rd (C B:Nat→Int) (s:Zb):Zb.zip (fun h x=>(h+x)%4294967296) s.low (Ys C (Zj B) 64 s.low)=Xu C B s:=by
 unfold Xu
 generalize hr:Ys C (Zj B) 64 s.low=r
 have hr':Ys C (Zj B) 64 ⟨s.a%4294967296,s.b%4294967296,s.c%4294967296,s.d%4294967296,s.e%4294967296,s.f%4294967296,s.g%4294967296,s.k%4294967296⟩=r:=hr
 rw[hr']
 simp only[Zb.zip,Zb.low,Zb.map,Int.emod_add_emod]
theorem M3 (C B:Nat→Int) (s:Zb):(Xu C B s).low=Xu C B s:=by
 unfold Xu Zb.zip Zb.low Zb.map
 simp only[Int.emod_emod]
theorem Pv (u:World) (b p n cap q k:Nat) (kk:Int) (hk:kk=(k:Nat)) (h0:0<k) (h1:q+k≤cap):(Instr.slice 22 (.slice (some ⟨b,p,none⟩) n cap) (some (.int .i64 (q:Nat))) (some (.int .i64 ((q:Int)+kk))) none).run Tryz.prog u=.ok (.slice (some ⟨b,p+q,none⟩) k (cap-q)) u:=by
 subst hk
 rw[run_slice_lh u 22 (some ⟨b,p,none⟩) n cap I5 .i64 .i64 q ((q:Int)+(k:Nat)) (by omega) (by omega) (by omega),Ev,Sp]
 have e1:((q:Int)+(k:Nat)).toNat-q=k:=by omega
 simp only[Result.andThen,sliced,Int.toNat_natCast,e1]
 rw[if_neg (by omega),Option.map_some,Nat.mul_one,Addr.add_mid]
set_option maxHeartbeats 3200000 in
set_option maxRecDepth 100000 in
theorem Dm (h0 h1 h2 h3 h4 h5 h6 h7:Int) (B:Nat→Int) (b p n m cap:Nat) (w:World) (hT:RTab w) (hn:n=64*m)
  (hcap:n≤cap) (hcm:cap≤9223372036854775807) (hbw:b<w.heap.size) (hB:∀ i,i<n→w.cell? ⟨b,p+i,none⟩=some (.int .u8 (B i))) :
  Calls Tryz.prog 71 #[.agg #[.int .u64 h0,.int .u64 h1,.int .u64 h2,.int .u64 h3,.int .u64 h4,.int .u64 h5,.int .u64 h6,.int .u64 h7],.slice (some ⟨b,p,none⟩) n cap] w fun e w'=>
   e=.returned (.agg (Zb.cells (Yg Zs B ⟨h0,h1,h2,h3,h4,h5,h6,h7⟩ m).low).toArray)∧Below w.heap.size w w':=by
 have hw1:=hT.size
 have HB:Hid (∀ i,i<n→w.cell? ⟨b,p+i,none⟩=some (.int .u8 (B i))):=hB
 have HT:Hid (RTab w):=hT
 have HN:Hid (n=64*m):=hn
 clear hB hT hn
 go_enter Tryz.func71,Tryz.ntmps71
 go_wp2
 go_loopw [6] (fun v wr=>∃ t:Nat,t≤64∧v=.int .i64 t∧Hid (wr.heap.size=w.heap.size+3)∧Hid (Mem w wr [(Cl 8 (fun j=>.int .u64 (fnz (Zb.list ⟨h0,h1,h2,h3,h4,h5,h6,h7⟩) j))),(Cl 8 (fun _=>.int .u64 0)),Cl 64 (fun j=>.int .u32 (if j<t then Zs j/4294967296 else 0))])) (fun v _=>64-(intOf v).toNat)
 case atStart=>
  refine ⟨0,by omega,rfl,(by simp:_=_),?_⟩
  exact ((((Mem.nil w).alloc (by simp) _ _).alloc (by simp) _ _).alloc (by simp) _ _).congr rfl
 case round=>
  obtain ⟨t,ht,rfl,HS,HM⟩:=hrel
  by_cases h64:t<64
  ·have f0:wr.cell? ⟨3,t,none⟩=some (.int .u64 (Zs t)):=(HT.out.below HM.out.below hw1).cubes t (by omega)
   have fw:wr.frozen? ⟨w.heap.size+2,t,none⟩=false:=HM.out.frozen 2 rfl t (by rw[Xb];exact h64)
   obtain ⟨u,fu⟩:∃ u,wr.cell? ⟨w.heap.size+2,t,none⟩=some u:=⟨_,HM.out.cell 2 rfl t _ (V0 _ _ t h64)⟩
   have hu32:IntKind.u32.wrap (Zs t/4294967296)=Zs t/4294967296:=Ey t (by omega)
   go_wp2
   go_roundw
   case rel=>
    refine ⟨t+1,by omega,by go_num,I9 HS.out,(HM.out.put 2 rfl t (by rw[Xb];exact h64) (.int .u32 (Zs t/4294967296))).congr ?_⟩
    rw[Mh]
    show [_,_,_]=[_,_,_]
    congr 3
    refine Fw fun j hj=>?_
    by_cases e:j=t
    ·subst e
     rw[if_pos rfl,if_pos (by omega)]
    ·rw[if_neg e]
     by_cases e2:j<t
     ·rw[if_pos e2,if_pos (by omega)]
     ·rw[if_neg e2,if_neg (by omega)]
   case measure=>simp [intOf];omega
  ·obtain rfl:t=64:=by omega
   clear h64 ht
   have HM2:Hid (Mem w (wr.alloc (.cells #[.int .u32 0,.int .u32 0,.int .u32 0,.int .u32 0,.int .u32 0,.int .u32 0,.int .u32 0,.int .u32 0] 198)) [(Cl 8 (fun j=>.int .u64 (fnz (Zb.list ⟨h0,h1,h2,h3,h4,h5,h6,h7⟩) j))),(Cl 8 (fun _=>.int .u64 0)),(Cl 64 (fun j=>.int .u32 (Zs j/4294967296))),Cl 8 (fun j=>.int .u32 0)]):=(HM.out.alloc (by rw[HS.out];rfl) _ _).congr (by
    show [_,_,_,_]=[_,_,_,_]
    congr 3)
   have hsz:=HS.out
   clear HM HS
   go_wp2
   generalize wr.alloc (.cells #[.int .u32 0,.int .u32 0,.int .u32 0,.int .u32 0,.int .u32 0,.int .u32 0,.int .u32 0,.int .u32 0] 198)=wa at HM2 ⊢
   clear hsz
   rw[show ((64:Nat):Int)=64 from rfl]
   go_loopw [8] (fun v wr=>∃ t:Nat,t≤8∧v=.int .i64 t∧Hid (Mem w wr [(Cl 8 (fun j=>.int .u64 (fnz (Zb.list ⟨h0,h1,h2,h3,h4,h5,h6,h7⟩) j))),(Cl 8 (fun _=>.int .u64 0)),(Cl 64 (fun j=>.int .u32 (Zs j/4294967296))),Cl 8 (fun j=>.int .u32 (if j<t then fnz (Zb.list ⟨h0,h1,h2,h3,h4,h5,h6,h7⟩) j%4294967296 else 0))])) (fun v _=>8-(intOf v).toNat)
   case atStart=>exact ⟨0,by omega,rfl,HM2⟩
   case round=>
    obtain ⟨t,ht,rfl,HM⟩:=hrel
    clear HM2
    by_cases h8:t<8
    ·have f0:wr.cell? ⟨w.heap.size,t,none⟩=some (.int .u64 (fnz (Zb.list ⟨h0,h1,h2,h3,h4,h5,h6,h7⟩) t)):=HM.out.cell 0 rfl t _ (V0 _ _ t h8)
     have fw:wr.frozen? ⟨w.heap.size+3,t,none⟩=false:=HM.out.frozen 3 rfl t (by rw[Xb];exact h8)
     obtain ⟨u,fu⟩:∃ u,wr.cell? ⟨w.heap.size+3,t,none⟩=some u:=⟨_,HM.out.cell 3 rfl t _ (V0 _ _ t h8)⟩
     obtain ⟨x,hx⟩:∃ x,Hid (x=fnz (Zb.list ⟨h0,h1,h2,h3,h4,h5,h6,h7⟩) t):=⟨_,rfl⟩
     rw[←hx.out] at f0
     go_wp2
     go_roundw
     case rel=>
      refine ⟨t+1,by omega,by go_num,(HM.out.put 3 rfl t (by rw[Xb];exact h8) (.int .u32 (x%4294967296))).congr ?_⟩
      rw[Mh]
      show [_,_,_,_]=[_,_,_,_]
      congr 4
      refine Fw fun j hj=>?_
      by_cases e:j=t
      ·subst e
       rw[if_pos rfl,if_pos (by omega),hx.out]
      ·rw[if_neg e]
       by_cases e2:j<t
       ·rw[if_pos e2,if_pos (by omega)]
       ·rw[if_neg e2,if_neg (by omega)]
     case measure=>simp [intOf];omega
    ·obtain rfl:t=8:=by omega
     clear h8 ht
     have HM3:Hid (Mem w wr [(Cl 8 (fun j=>.int .u64 (fnz (Zb.list ⟨h0,h1,h2,h3,h4,h5,h6,h7⟩) j))),(Cl 8 (fun _=>.int .u64 0)),(Cl 64 (fun j=>.int .u32 (Zs j/4294967296))),(Yg Zs B ⟨h0,h1,h2,h3,h4,h5,h6,h7⟩ 0).low.cells32]):=HM.out.congr (by
      show [_,_,_,_]=[_,_,_,_]
      congr 4)
     clear HM
     go_wp2
     rw[show ((8:Nat):Int)=8 from rfl]
     go_loopw [9] (fun v wr=>∃ i:Nat,i≤m∧v=.int .i64 ((64*i:Nat):Int)∧Hid (Mem w wr [(Cl 8 (fun j=>.int .u64 (fnz (Zb.list ⟨h0,h1,h2,h3,h4,h5,h6,h7⟩) j))),(Cl 8 (fun _=>.int .u64 0)),(Cl 64 (fun j=>.int .u32 (Zs j/4294967296))),(Yg Zs B ⟨h0,h1,h2,h3,h4,h5,h6,h7⟩ i).low.cells32])) (fun v _=>n-(intOf v).toNat)
     case atStart=>exact ⟨0,by omega,rfl,HM3⟩
     case round=>
      obtain ⟨i,hi,rfl,HM⟩:=hrel
      clear HM3
      obtain ⟨q,hq⟩:∃ q,q=64*i:=⟨_,rfl⟩
      obtain ⟨E,HE⟩:∃ E:Zb,Hid (E=(Yg Zs B ⟨h0,h1,h2,h3,h4,h5,h6,h7⟩ i).low):=⟨_,rfl⟩
      rw[←HE.out] at HM
      rw[←hq]
      have HQ:Hid (q=64*i):=hq
      clear hq
      by_cases hlt:i<m
      ·have hqn:q<n:=by have:=HQ.out;have:=HN.out;omega
       have hq64:IntKind.i64.wrap ((q:Int)+64)=(q:Int)+64:=by
        have:=HQ.out;have:=HN.out
        rw[IntKind.wrap_i64]
        omega
       have HSl:Hid (∀ u,(Instr.slice 22 (.slice (some ⟨b,p,none⟩) n cap) (some (.int .i64 (q:Nat))) (some (.int .i64 ((q:Int)+64))) none).run Tryz.prog u=.ok (.slice (some ⟨b,p+q,none⟩) 64 (cap-q)) u):=fun u=>Pv u b p n cap q 64 64 rfl (by omega) (by have:=HQ.out;have:=HN.out;omega)
       obtain ⟨E2,HE2⟩:∃ E2:Zb,Hid (E2=Yg Zs B ⟨h0,h1,h2,h3,h4,h5,h6,h7⟩ (i+1)):=⟨_,rfl⟩
       have HCall:Hid (∀ u,Below wr.heap.size wr u→Calls Tryz.prog 114 #[.agg E.cells32.toArray,.slice (some ⟨b,p+q,none⟩) 64 (cap-q),.agg (Cl 64 (fun j=>.int .u32 (Zs j/4294967296))).toArray] u fun e w'=>e=.returned (.agg E2.cells32.toArray)∧Below wr.heap.size wr w'):=fun u hu=>by
        have hbu:b<wr.heap.size:=Nat.lt_of_lt_of_le hbw HM.out.below.size
        refine (H6 E.a E.b E.c E.d E.e E.f E.g E.k (Cl 64 (fun j=>.int .u32 (Zs j/4294967296))).toArray Zs (fun j=>B (64*i+j)) b (p+q) (cap-q) u (fun t ht=>by rw[List.getElem?_toArray];exact V0 _ _ t ht) (by have:=HQ.out;have:=HN.out;omega) (by omega) (fun j hj=>?_)).mono fun e w' h=>⟨?_,hu.trans (h.2.mono hu.size)⟩
        ·rw[hu.cell hbu,HM.out.below.cell hbw,Nat.add_assoc,HB.out (q+j) (by have:=HQ.out;have:=HN.out;omega),HQ.out]
        ·rw[h.1,HE2.out]
         have e1:Yg Zs B ⟨h0,h1,h2,h3,h4,h5,h6,h7⟩ (i+1)=Xu Zs (fun j=>B (64*i+j)) (Yg Zs B ⟨h0,h1,h2,h3,h4,h5,h6,h7⟩ i):=rfl
         rw[e1,←Rd,←HE.out]
       have hS0:Below wr.heap.size wr wr.drew:=(Below.refl _ _).drew
       clear HE
       go_wp2
       refine wp_region_noPanic ?_
       refine Yl (fun u=>Below wr.heap.size wr u) 7 (by kernel_rfl) (by decide) (by decide +kernel) (by decide +kernel) (by decide +kernel) (fun inv=>?_)
       refine tT 0 38 (.agg (E.cells32).toArray) inv rfl rfl (by decide +kernel) (hS0) (yieldsIf_load_mid (by kernel_rfl) 198 (.tmp 7) rfl (w.heap.size+3) 0 rfl E.cells32 _ (fun u hu=>((HM.out.later hu).holds 3 _ rfl).1) Tryz.underlying198 rfl Dc) (fun inv=>?_)
       simp only[pU]
       refine tT 1 39 (.slice (some ⟨b,p,none⟩) n cap) inv rfl rfl (by decide +kernel) (hS0) (Or.inl ⟨by rfl,fun w' hS'=>by go_simp⟩) (fun inv=>?_)
       simp only[pU]
       refine tT 2 40 (.int .i64 (q:Nat)) inv rfl rfl (by decide +kernel) (hS0) (Or.inl ⟨by rfl,fun w' hS'=>by go_simp⟩) (fun inv=>?_)
       simp only[pU]
       refine tT 3 41 (.int .i64 (q:Nat)) inv rfl rfl (by decide +kernel) (hS0) (Or.inl ⟨by rfl,fun w' hS'=>by go_simp⟩) (fun inv=>?_)
       simp only[pU]
       refine tT 4 42 (.int .i64 ((q:Int)+64)) inv rfl rfl (by decide +kernel) (hS0) (Or.inl ⟨by rfl,fun w' hS'=>by go_simp⟩) (fun inv=>?_)
       simp only[pU]
       refine tT 5 43 (.slice (some ⟨b,p+q,none⟩) 64 (cap-q)) inv rfl rfl (by decide +kernel) (hS0) (Or.inl ⟨by rfl,fun w' hS'=>by have q:=HSl.out w';go_simp⟩) (fun inv=>?_)
       simp only[pU]
       refine tT 6 44 (.agg ((Cl 64 (fun j=>.int .u32 (Zs j/4294967296)))).toArray) inv rfl rfl (by decide +kernel) (hS0) (yieldsIf_load_mid (by kernel_rfl) 196 (.tmp 5) rfl (w.heap.size+2) 0 rfl (Cl 64 (fun j=>.int .u32 (Zs j/4294967296))) _ (fun u hu=>((HM.out.later hu).holds 2 _ rfl).1) Tryz.underlying196 rfl Of) (fun inv=>?_)
       simp only[pU]
       refine Z6 (i:=7) (by decide +kernel) (by decide) rfl (fun K hK=>?_)
       go_simp
       refine (HCall.out _ hS0).mono ?_
       rintro e1 w1 ⟨rfl,hw1⟩
       go_wp2_with fail
       refine hK.out _ _ ?_
       clear hK K
       try simp only[pU]
       refine Z6 (i:=8) (by decide +kernel) (by decide) rfl (fun K hK=>?_)
       rw[if_pos (by rfl)]
       refine wp_store_mid 198 (.tmp 7) (.tmp 45) rfl (w.heap.size+3) 0 (Zb.cells32 E2).toArray rfl rfl (((HM.out.later hw1).holds 3 _ rfl).2) (Dc) (Wr _) ?_
       refine hK.out _ _ ?_
       clear hK K
       try simp only[pU]
       refine X2 (by decide +kernel) ?_ _
       refine NoPanic.normal ?_
       go_wp2
       go_roundw
       case rel=>
        refine ⟨i+1,by omega,Ya (by have:=HQ.out;omega),((HM.out.later hw1).store 3 rfl E2.cells32 rfl).congr ?_⟩
        show [_,_,_,_]=[_,_,_,_]
        have e1:Yg Zs B ⟨h0,h1,h2,h3,h4,h5,h6,h7⟩ (i+1)=Xu Zs (fun j=>B (64*i+j)) (Yg Zs B ⟨h0,h1,h2,h3,h4,h5,h6,h7⟩ i):=rfl
        rw[HE2.out,e1,M3]
       case measure=>simp [intOf];omega
      ·have hqn:¬ q<n:=by have:=HQ.out;have:=HN.out;omega
       have him:i=m:=by omega
       go_wp2
       go_loopw [10] (fun v wr=>∃ t:Nat,t≤8∧v=.int .i64 t∧Hid (Mem w wr [Cl 8 (fun j=>.int .u64 (if j<t then fnz E.list j else fnz (Zb.list ⟨h0,h1,h2,h3,h4,h5,h6,h7⟩) j)),(Cl 8 (fun _=>.int .u64 0)),(Cl 64 (fun j=>.int .u32 (Zs j/4294967296))),Cl 8 (fun j=>.int .u32 (fnz E.list j))])) (fun v _=>8-(intOf v).toNat)
       case atStart=>exact ⟨0,by omega,rfl,HM⟩
       case round=>
        obtain ⟨t,ht,rfl,HM4⟩:=hrel
        clear HM
        by_cases h8:t<8
        ·have f0:wr.cell? ⟨w.heap.size+3,t,none⟩=some (.int .u32 (fnz E.list t)):=HM4.out.cell 3 rfl t _ (V0 _ _ t h8)
         have fw:wr.frozen? ⟨w.heap.size,t,none⟩=false:=HM4.out.frozen 0 rfl t (by rw[Xb];exact h8)
         obtain ⟨u,fu⟩:∃ u,wr.cell? ⟨w.heap.size,t,none⟩=some u:=⟨_,HM4.out.cell 0 rfl t _ (V0 _ _ t h8)⟩
         obtain ⟨x,hx⟩:∃ x,Hid (x=fnz E.list t):=⟨_,rfl⟩
         rw[←hx.out] at f0
         have hxw:IntKind.u64.wrap x=x:=by
          rw[IntKind.wrap_u64,hx.out,HE.out,O8 _ t h8]
          omega
         go_wp2
         go_roundw
         case rel=>
          refine ⟨t+1,by omega,by go_num,(HM4.out.put 0 rfl t (by rw[Xb];exact h8) (.int .u64 x)).congr ?_⟩
          rw[Mh]
          show [_,_,_,_]=[_,_,_,_]
          congr 1
          refine Fw fun j hj=>?_
          by_cases e:j=t
          ·subst e
           rw[if_pos rfl,if_pos (by omega),hx.out]
          ·rw[if_neg e]
           by_cases e2:j<t
           ·rw[if_pos e2,if_pos (by omega)]
           ·rw[if_neg e2,if_neg (by omega)]
         case measure=>simp [intOf];omega
        ·obtain rfl:t=8:=by omega
         have HM5:Hid (Mem w wr [E.cells,(Cl 8 (fun _=>.int .u64 0)),(Cl 64 (fun j=>.int .u32 (Zs j/4294967296))),Cl 8 (fun j=>.int .u32 (fnz E.list j))]):=HM4.out.congr (by
          show [_,_,_,_]=[_,_,_,_]
          congr 1)
         clear HM4 h8 ht
         have HY:Hid (wr.there (w.heap.size+1) 0 E.cells.toArray.size):=(HM5.out.holds 1 _ rfl).2
         have HR:Hid (wr.rangeAt w.heap.size 0 E.cells):=(HM5.out.holds 0 _ rfl).1
         go_wp2_with (first
          | (refine wpList_load_mid (by rfl) 137 (.tmp 2) (by rfl) w.heap.size 0 (by rfl) E.cells _ HR.out Tryz.underlying137 rfl Qo ?_)
          | (refine wpList_store_mid (by rfl) 137 (.tmp 4) (.tmp 56) (by rfl) (w.heap.size+1) 0 E.cells.toArray (by rfl) (by rfl) HY.out Qo (Xk E) ?_)
          | fail)
         have hl:=run_loadVar_mid (P:=Tryz.prog) (wr.setCells (w.heap.size+1) 0 E.cells) (w.heap.size+1) 0 137 E.cells _ (World.rangeAt_setCells_same wr (w.heap.size+1) 0 E.cells HY.out) Tryz.underlying137 rfl Qo
         refine bodyPost_ret (v:=.agg E.cells.toArray) ?_ rfl ⟨by rw[HE.out,him],below_setCells _ (by omega) _ _ _ HM5.out.below⟩
         rw[Zx Tryz.results71]
         simp [Act.put,asAddr,hl]
end Go.Proofs.YtehlppaidgkpaaaGreatDoor.Dg
