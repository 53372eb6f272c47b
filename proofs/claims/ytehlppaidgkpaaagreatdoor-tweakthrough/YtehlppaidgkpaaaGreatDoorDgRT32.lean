import Derived.Test.YtehlppaidgkpaaaGreatDoorPart00
import Derived.Test.YtehlppaidgkpaaaGreatDoorDgNarrow
import Derived.Test.YtehlppaidgkpaaaGreatDoorPart18
namespace Go.Proofs.YtehlppaidgkpaaaGreatDoor.Dg
open Go.RowKit
set_option linter.unusedVariables false
set_option linter.unusedSimpArgs false
theorem R6 {n:Nat} {Z:Array Value} {v:Value} (h:Z=Array.replicate n v) (j:Nat) (hj:j<n):Z[j]?=some v:=by
 rw[h]
 simp [hj]
def Kof (C:Nat→Int) (t:Nat):Option Value:=if t<64 then some (.int .u32 (C t/4294967296)) else none
theorem Xr (x:Int) (a b s:Nat) (hb:b=32-s) (ha:a=s):bits .or .u32 (x/2^b) (x*2^a%4294967296)=Y3 x s:=by
 subst hb ha
 rw[Y3,L7]
theorem Tq (x:Int):bits .xor .u32 (bits .xor .u32 (bits .or .u32 (x/128) (x*33554432%4294967296)) (bits .or .u32 (x/262144) (x*16384%4294967296))) (x/8)=Wa x:=by
 have h1:=Xr x 25 7 25 rfl rfl
 have h2:=Xr x 14 18 14 rfl rfl
 simp only[Int.reducePow] at h1 h2
 rw[h1,h2,Wa]
theorem Tp (x:Int):bits .xor .u32 (bits .xor .u32 (bits .or .u32 (x/131072) (x*32768%4294967296)) (bits .or .u32 (x/524288) (x*8192%4294967296))) (x/1024)=V9 x:=by
 have h1:=Xr x 15 17 15 rfl rfl
 have h2:=Xr x 13 19 13 rfl rfl
 simp only[Int.reducePow] at h1 h2
 rw[h1,h2,V9]
theorem Ij (x:Int):bits .xor .u32 (bits .xor .u32 (bits .or .u32 (x/64) (x*67108864%4294967296)) (bits .or .u32 (x/2048) (x*2097152%4294967296))) (bits .or .u32 (x/33554432) (x*128%4294967296))=bits .xor .u32 (bits .xor .u32 (Y3 x 26) (Y3 x 21)) (Y3 x 7):=by
 have h1:=Xr x 26 6 26 rfl rfl
 have h2:=Xr x 21 11 21 rfl rfl
 have h3:=Xr x 7 25 7 rfl rfl
 simp only[Int.reducePow] at h1 h2 h3
 rw[h1,h2,h3]
theorem Ik (x:Int):bits .xor .u32 (bits .xor .u32 (bits .or .u32 (x/4) (x*1073741824%4294967296)) (bits .or .u32 (x/8192) (x*524288%4294967296))) (bits .or .u32 (x/4194304) (x*1024%4294967296))=bits .xor .u32 (bits .xor .u32 (Y3 x 30) (Y3 x 19)) (Y3 x 10):=by
 have h1:=Xr x 30 2 30 rfl rfl
 have h2:=Xr x 19 13 19 rfl rfl
 have h3:=Xr x 10 22 10 rfl rfl
 simp only[Int.reducePow] at h1 h2 h3
 rw[h1,h2,h3]
def Zb.cells32 (s:Zb):List Value:=s.list.map (Value.int .u32)
theorem Wr (s:Zb):s.cells32.toArray.all (·.oneCell')=true:=all_oneCell_toArray (by
 intro v hv
 simp only[Zb.cells32,List.mem_map] at hv
 obtain ⟨x,_,rfl⟩:=hv
 rfl)
theorem Dc:(Tryz.prog.info? 198).map (·.size)=some 8:=by kernel_rfl
set_option maxHeartbeats 3200000 in
set_option maxRecDepth 100000 in
theorem H6 (h0 h1 h2 h3 h4 h5 h6 h7:Int) (Kc:Array Value) (C B:Nat→Int) (b p cap:Nat) (w:World) (hK:∀ t,t<64→Kc[t]?=some (.int .u32 (C t/4294967296)))
  (hcap:64≤cap) (hcm:cap≤9223372036854775807) (hB:∀ i,i<64→w.cell? ⟨b,p+i,none⟩=some (.int .u8 (B i))) :
  Calls Tryz.prog 114 #[.agg #[.int .u32 h0,.int .u32 h1,.int .u32 h2,.int .u32 h3,.int .u32 h4,.int .u32 h5,.int .u32 h6,.int .u32 h7],.slice (some ⟨b,p,none⟩) 64 cap,.agg Kc] w fun e w'=>
   e=.returned (.agg (Zb.cells32 (Zb.zip (fun h x=>(h+x)%4294967296) ⟨h0,h1,h2,h3,h4,h5,h6,h7⟩ (Ys C (Zj B) 64 ⟨h0,h1,h2,h3,h4,h5,h6,h7⟩))).toArray)∧Below w.heap.size w w':=by
 have hbw:b<w.heap.size:=lt_of_cell (hB 0 (by omega))
 have HB:Hid (∀ i,i<64→w.cell? ⟨b,p+i,none⟩=some (.int .u8 (B i))):=hB
 have HK:Hid (∀ t v,Kof C t=some v→Kc[t]?=some v):=fun t v hv=>by
  unfold Kof at hv
  split at hv
  ·rename_i ht
   rw[hK t ht]
   exact hv
  ·cases hv
 clear hB hK
 go_enter Tryz.func114,Tryz.ntmps114
 go_wp2
 go_loopw [8] (fun v wr=>∃ t:Nat,t≤16∧v=.int .i64 t∧Hid (TX w wr [.int .u32 h0,.int .u32 h1,.int .u32 h2,.int .u32 h3,.int .u32 h4,.int .u32 h5,.int .u32 h6,.int .u32 h7] (Kof C) (w.heap.size+2) (w.heap.size+3) 64 (fun j=>.int .u32 (if j<t then Zj B j else 0)))) (fun v _=>16-(intOf v).toNat)
 case atStart=>exact ⟨0,by omega,rfl,Pk w _ _ _ _ _ _ _ _ _ _ _ (by rfl) (by rfl) HK.out (fun j hj=>by rw[if_neg (by omega)];exact R6 (by rfl) j hj)⟩
 case round=>
  obtain ⟨t,ht,rfl,HX⟩:=hrel
  by_cases h16:t<16
  ·have f0:wr.cell? ⟨b,p+4*t,none⟩=some (.int .u8 (B (4*t))):=by rw[HX.out.below.cell hbw];exact HB.out (4*t) (by omega)
   have f1:wr.cell? ⟨b,p+(4*t+1),none⟩=some (.int .u8 (B (4*t+1))):=by rw[HX.out.below.cell hbw];exact HB.out (4*t+1) (by omega)
   have f2:wr.cell? ⟨b,p+(4*t+2),none⟩=some (.int .u8 (B (4*t+2))):=by rw[HX.out.below.cell hbw];exact HB.out (4*t+2) (by omega)
   have f3:wr.cell? ⟨b,p+(4*t+3),none⟩=some (.int .u8 (B (4*t+3))):=by rw[HX.out.below.cell hbw];exact HB.out (4*t+3) (by omega)
   have fw:wr.frozen? ⟨w.heap.size+3,t,none⟩=false:=by simpa using (HX.out.wth t (by omega)).2
   obtain ⟨u,fu⟩:∃ u,wr.cell? ⟨w.heap.size+3,t,none⟩=some u:=⟨_,HX.out.fill t (by omega)⟩
   go_wp2
   go_region
   go_wp2
   go_roundw
   case rel=>
    refine ⟨t+1,by omega,by go_num,((HX.out.put t (by omega) (.int .u32 (Hw B t))).drew).congr fun j hj=>?_⟩
    by_cases e:j=t
    ·subst e
     rw[if_pos rfl,if_pos (by omega),Zj,if_pos h16]
    ·rw[if_neg e]
     by_cases e2:j<t
     ·rw[if_pos e2,if_pos (by omega)]
     ·rw[if_neg e2,if_neg (by omega)]
   case measure=>simp [intOf];omega
  ·obtain rfl:t=16:=by omega
   clear h16 ht HB
   go_wp2
   go_loopw [9] (fun v wr=>∃ t:Nat,t≤48∧v=.int .i64 (16+(t:Int))∧Hid (TX w wr [.int .u32 h0,.int .u32 h1,.int .u32 h2,.int .u32 h3,.int .u32 h4,.int .u32 h5,.int .u32 h6,.int .u32 h7] (Kof C) (w.heap.size+2) (w.heap.size+3) 64 (fun j=>.int .u32 (if j<16+t then Zj B j else 0)))) (fun v _=>64-(intOf v).toNat)
   case atStart=>exact ⟨0,by omega,rfl,HX⟩
   case round=>
    obtain ⟨t,ht,rfl,HX2⟩:=hrel
    clear HX
    by_cases h48:t<48
    ·have f2:wr.cell? ⟨w.heap.size+3,t+14,none⟩=some (.int .u32 (Zj B (t+14))):=by rw[HX2.out.fill _ (by omega),if_pos (by omega)]
     have f15:wr.cell? ⟨w.heap.size+3,t+1,none⟩=some (.int .u32 (Zj B (t+1))):=by rw[HX2.out.fill _ (by omega),if_pos (by omega)]
     have f7:wr.cell? ⟨w.heap.size+3,t+9,none⟩=some (.int .u32 (Zj B (t+9))):=by rw[HX2.out.fill _ (by omega),if_pos (by omega)]
     have f16:wr.cell? ⟨w.heap.size+3,t,none⟩=some (.int .u32 (Zj B t)):=by rw[HX2.out.fill _ (by omega),if_pos (by omega)]
     have fw:wr.frozen? ⟨w.heap.size+3,t+16,none⟩=false:=by simpa using (HX2.out.wth (t+16) (by omega)).2
     obtain ⟨u,fu⟩:∃ u,wr.cell? ⟨w.heap.size+3,t+16,none⟩=some u:=⟨_,HX2.out.fill (t+16) (by omega)⟩
     have e2:(16+(t:Int)-2).toNat=t+14:=by omega
     have e15:(16+(t:Int)-15).toNat=t+1:=by omega
     have e7:(16+(t:Int)-7).toNat=t+9:=by omega
     have e16:(16+(t:Int)-16).toNat=t:=by omega
     have e0:(16+(t:Int)).toNat=t+16:=by omega
     go_wp2
     go_region
     go_wp2
     go_roundw
     case rel=>
      have hv:Zj B (t+16)=(V9 (Zj B (t+14))+Zj B (t+9)+Wa (Zj B (t+1))+Zj B t)%4294967296:=by
       rw[Zj,if_neg (by omega)]
       rw[show t+16-2=t+14 by omega,show t+16-7=t+9 by omega,show t+16-15=t+1 by omega,show t+16-16=t by omega]
      rw[Tq,Tp]
      refine ⟨t+1,by omega,by go_num,((HX2.out.put (t+16) (by omega) _).drew).congr fun j hj=>?_⟩
      by_cases e:j=t+16
      ·subst e
       rw[if_pos rfl,if_pos (by omega),hv]
      ·rw[if_neg e]
       by_cases e2:j<16+t
       ·rw[if_pos e2,if_pos (by omega)]
       ·rw[if_neg e2,if_neg (by omega)]
     case measure=>simp [intOf];omega
    ·obtain rfl:t=48:=by omega
     clear h48 ht
     have HX3:Hid (TX w wr [.int .u32 h0,.int .u32 h1,.int .u32 h2,.int .u32 h3,.int .u32 h4,.int .u32 h5,.int .u32 h6,.int .u32 h7] (Kof C) (w.heap.size+2) (w.heap.size+3) 64 (fun j=>.int .u32 (Zj B j))):=HX2.out.congr fun j hj=>by rw[if_pos (by omega)]
     clear HX2
     have c0:wr.cell? ⟨w.heap.size,0,none⟩=some (.int .u32 h0):=by simpa using HX3.out.h 0 _ rfl
     have c1:wr.cell? ⟨w.heap.size,1,none⟩=some (.int .u32 h1):=by simpa using HX3.out.h 1 _ rfl
     have c2:wr.cell? ⟨w.heap.size,2,none⟩=some (.int .u32 h2):=by simpa using HX3.out.h 2 _ rfl
     have c3:wr.cell? ⟨w.heap.size,3,none⟩=some (.int .u32 h3):=by simpa using HX3.out.h 3 _ rfl
     have c4:wr.cell? ⟨w.heap.size,4,none⟩=some (.int .u32 h4):=by simpa using HX3.out.h 4 _ rfl
     have c5:wr.cell? ⟨w.heap.size,5,none⟩=some (.int .u32 h5):=by simpa using HX3.out.h 5 _ rfl
     have c6:wr.cell? ⟨w.heap.size,6,none⟩=some (.int .u32 h6):=by simpa using HX3.out.h 6 _ rfl
     have c7:wr.cell? ⟨w.heap.size,7,none⟩=some (.int .u32 h7):=by simpa using HX3.out.h 7 _ rfl
     go_wp2
     go_quiet (fail)
     go_wp2
     go_quiet (fail)
     go_wp2
     clear c0 c1 c2 c3 c4 c5 c6 c7
     go_loopw [14,15,16,17,18,19,20,21,22] (fun va vb vc vd ve vf vg vk i wr=>∃ t:Nat,∃ s:Zb,t≤64∧i=.int .i64 t∧va=.int .u32 s.a∧vb=.int .u32 s.b∧vc=.int .u32 s.c∧vd=.int .u32 s.d∧ve=.int .u32 s.e∧vf=.int .u32 s.f∧vg=.int .u32 s.g∧vk=.int .u32 s.k∧Hid (s=Ys C (Zj B) t ⟨h0,h1,h2,h3,h4,h5,h6,h7⟩)∧Hid (TX w wr [.int .u32 h0,.int .u32 h1,.int .u32 h2,.int .u32 h3,.int .u32 h4,.int .u32 h5,.int .u32 h6,.int .u32 h7] (Kof C) (w.heap.size+2) (w.heap.size+3) 64 (fun j=>.int .u32 (Zj B j)))) (fun _ _ _ _ _ _ _ _ i _=>64-(intOf i).toNat)
     case atStart=>exact ⟨0,⟨h0,h1,h2,h3,h4,h5,h6,h7⟩,by omega,rfl,rfl,rfl,rfl,rfl,rfl,rfl,rfl,rfl,rfl,(HX3.out.drewN _).drewN _⟩
     case round=>
      obtain ⟨t,⟨a,b,c,d,e,f,g1,k⟩,ht,rfl,rfl,rfl,rfl,rfl,rfl,rfl,rfl,rfl,HS,HX4⟩:=hrel
      clear HX3
      by_cases hlt:t<64
      ·have hw:wr.cell? ⟨w.heap.size+3,t,none⟩=some (.int .u32 (Zj B t)):=HX4.out.fill t hlt
       have hc:wr.cell? ⟨w.heap.size+1,t,none⟩=some (.int .u32 (C t/4294967296)):=HX4.out.k t _ (by rw[Kof,if_pos hlt])
       go_wp2
       go_quiet (fail)
       go_wp2
       go_roundw
       case rel=>
        rw[Ij,Ik,Zcq,Zbu]
        refine ⟨t+1,Dk ⟨a,b,c,d,e,f,g1,k⟩ (C t) (Zj B t),by omega,by go_num,rfl,rfl,rfl,rfl,rfl,rfl,rfl,rfl,?_,HX4.out.drewN _⟩
        have:=HS.out
        rw[this]
        exact rfl
       case measure=>simp [intOf];omega
      ·obtain rfl:t=64:=by omega
       clear hlt ht
       obtain ⟨E,HE⟩:∃ E:Zb,E=⟨((h0+a)%4294967296),((h1+b)%4294967296),((h2+c)%4294967296),((h3+d)%4294967296),((h4+e)%4294967296),((h5+f)%4294967296),((h6+g1)%4294967296),((h7+k)%4294967296)⟩:=⟨_,rfl⟩
       have HEE:Hid (Zb.zip (fun h x=>(h+x)%4294967296) ⟨h0,h1,h2,h3,h4,h5,h6,h7⟩ (Ys C (Zj B) 64 ⟨h0,h1,h2,h3,h4,h5,h6,h7⟩)=⟨((h0+a)%4294967296),((h1+b)%4294967296),((h2+c)%4294967296),((h3+d)%4294967296),((h4+e)%4294967296),((h5+f)%4294967296),((h6+g1)%4294967296),((h7+k)%4294967296)⟩):=by
        rw[←HS.out]
        exact rfl
       clear HS HE E
       have c0:wr.cell? ⟨w.heap.size,0,none⟩=some (.int .u32 h0):=by simpa using HX4.out.h 0 _ rfl
       have c1:wr.cell? ⟨w.heap.size,1,none⟩=some (.int .u32 h1):=by simpa using HX4.out.h 1 _ rfl
       have c2:wr.cell? ⟨w.heap.size,2,none⟩=some (.int .u32 h2):=by simpa using HX4.out.h 2 _ rfl
       have c3:wr.cell? ⟨w.heap.size,3,none⟩=some (.int .u32 h3):=by simpa using HX4.out.h 3 _ rfl
       have c4:wr.cell? ⟨w.heap.size,4,none⟩=some (.int .u32 h4):=by simpa using HX4.out.h 4 _ rfl
       have c5:wr.cell? ⟨w.heap.size,5,none⟩=some (.int .u32 h5):=by simpa using HX4.out.h 5 _ rfl
       have c6:wr.cell? ⟨w.heap.size,6,none⟩=some (.int .u32 h6):=by simpa using HX4.out.h 6 _ rfl
       have c7:wr.cell? ⟨w.heap.size,7,none⟩=some (.int .u32 h7):=by simpa using HX4.out.h 7 _ rfl
       go_wp2_with (first
        | (refine wpList_store_mid (by rfl) 198 (.tmp 6) (.tmp 252) (by rfl) (w.heap.size+2) 0 (Zb.cells32 ⟨((h0+a)%4294967296),((h1+b)%4294967296),((h2+c)%4294967296),((h3+d)%4294967296),((h4+e)%4294967296),((h5+f)%4294967296),((h6+g1)%4294967296),((h7+k)%4294967296)⟩).toArray (by rfl) (by rfl) HX4.out.res Dc (Wr _) ?_)
        | fail)
       have hl:=run_loadVar_mid (P:=Tryz.prog) (wr.setCells (w.heap.size+2) 0 (Zb.cells32 ⟨((h0+a)%4294967296),((h1+b)%4294967296),((h2+c)%4294967296),((h3+d)%4294967296),((h4+e)%4294967296),((h5+f)%4294967296),((h6+g1)%4294967296),((h7+k)%4294967296)⟩)) (w.heap.size+2) 0 198 (Zb.cells32 ⟨((h0+a)%4294967296),((h1+b)%4294967296),((h2+c)%4294967296),((h3+d)%4294967296),((h4+e)%4294967296),((h5+f)%4294967296),((h6+g1)%4294967296),((h7+k)%4294967296)⟩) _ (World.rangeAt_setCells_same wr (w.heap.size+2) 0 _ HX4.out.res) Tryz.underlying198 rfl Dc
       refine bodyPost_ret (v:=.agg (Zb.cells32 ⟨((h0+a)%4294967296),((h1+b)%4294967296),((h2+c)%4294967296),((h3+d)%4294967296),((h4+e)%4294967296),((h5+f)%4294967296),((h6+g1)%4294967296),((h7+k)%4294967296)⟩).toArray) ?_ rfl ⟨by rw[HEE.out],below_setCells _ (by omega) _ _ _ HX4.out.below⟩
       rw[Zx Tryz.results114]
       simp [Act.put,asAddr,hl]
end Go.Proofs.YtehlppaidgkpaaaGreatDoor.Dg
