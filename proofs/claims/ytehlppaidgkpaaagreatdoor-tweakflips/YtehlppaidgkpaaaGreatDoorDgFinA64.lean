import Derived.Test.YtehlppaidgkpaaaGreatDoorPart15
namespace Go.Proofs.YtehlppaidgkpaaaGreatDoor.Dg
open Go.RowKit
set_option linter.unusedVariables false
set_option linter.unusedSimpArgs false
set_option maxHeartbeats 3200000 in
set_option maxRecDepth 100000 in
theorem Ny (g o:Nat) (h:Int) (s:Zb) (half:Nat→Int) (fed used u1:Nat) (w:World) (hblk:Z6 h=64) (HK:Hid (TK w g o h false s half fed)) (hfed:fed≤1152921504606846976) (hT:Hid (Tables w)) (hg:6≤g) (h0:Hid (fed%64=used)) (hu1:Hid (u1=used+1)) (hu:u1≤56) :
  Calls Tryz.prog 58 #[.pointer (some ⟨g,o,none⟩)] w fun e w'=>e=.returned (.agg (Ze 4 (TT false (Qf 64 half fed) s (X6 64 fed))).toArray)∧Touch w w' g o 139∧∃ half',TK w' g o h false (TT false (Qf 64 half fed) s (X6 64 fed)) half' fed:=by
 have c0:=HK.out.hash
 have c138:=HK.out.fed
 have hgw:g<w.heap.size:=lt_of_cell c0
 have e1:(used:Int)+1=(u1:Int):=by have:=hu1.out;omega
 have hu':(u1:Int)≤64:=by omega
 have hu'':(0:Int)≤(u1:Int):=by omega
 have hul:used<u1:=by have:=hu1.out;omega
 have hlim:(u1:Int)≤56:=by omega
 have r0:((fed:Int)%64)=(used:Int):=by have:=h0.out;omega
 go_enter Tryz.func58,Tryz.ntmps58
 go_upto_region 3 with (first | (go_at_call 91;refine (Xa _ _).mono ?_;rintro e1 w1 ⟨rfl,hw1⟩;obtain rfl:=hw1.symm;rw[hblk]))
 have HB0:Hid (Below w.heap.size w (w.alloc (.cells #[.int .u8 0,.int .u8 0,.int .u8 0,.int .u8 0,.int .u8 0,.int .u8 0,.int .u8 0,.int .u8 0,.int .u8 0,.int .u8 0,.int .u8 0,.int .u8 0,.int .u8 0,.int .u8 0,.int .u8 0,.int .u8 0,.int .u8 0,.int .u8 0,.int .u8 0,.int .u8 0,.int .u8 0,.int .u8 0,.int .u8 0,.int .u8 0,.int .u8 0,.int .u8 0,.int .u8 0,.int .u8 0,.int .u8 0,.int .u8 0,.int .u8 0,.int .u8 0,.int .u8 0,.int .u8 0,.int .u8 0,.int .u8 0,.int .u8 0,.int .u8 0,.int .u8 0,.int .u8 0,.int .u8 0,.int .u8 0,.int .u8 0,.int .u8 0,.int .u8 0,.int .u8 0,.int .u8 0,.int .u8 0,.int .u8 0,.int .u8 0,.int .u8 0,.int .u8 0,.int .u8 0,.int .u8 0,.int .u8 0,.int .u8 0,.int .u8 0,.int .u8 0,.int .u8 0,.int .u8 0,.int .u8 0,.int .u8 0,.int .u8 0,.int .u8 0] 147))∧(w.alloc (.cells #[.int .u8 0,.int .u8 0,.int .u8 0,.int .u8 0,.int .u8 0,.int .u8 0,.int .u8 0,.int .u8 0,.int .u8 0,.int .u8 0,.int .u8 0,.int .u8 0,.int .u8 0,.int .u8 0,.int .u8 0,.int .u8 0,.int .u8 0,.int .u8 0,.int .u8 0,.int .u8 0,.int .u8 0,.int .u8 0,.int .u8 0,.int .u8 0,.int .u8 0,.int .u8 0,.int .u8 0,.int .u8 0,.int .u8 0,.int .u8 0,.int .u8 0,.int .u8 0,.int .u8 0,.int .u8 0,.int .u8 0,.int .u8 0,.int .u8 0,.int .u8 0,.int .u8 0,.int .u8 0,.int .u8 0,.int .u8 0,.int .u8 0,.int .u8 0,.int .u8 0,.int .u8 0,.int .u8 0,.int .u8 0,.int .u8 0,.int .u8 0,.int .u8 0,.int .u8 0,.int .u8 0,.int .u8 0,.int .u8 0,.int .u8 0,.int .u8 0,.int .u8 0,.int .u8 0,.int .u8 0,.int .u8 0,.int .u8 0,.int .u8 0,.int .u8 0] 147)).there w.heap.size 0 64∧w.heap.size<(w.alloc (.cells #[.int .u8 0,.int .u8 0,.int .u8 0,.int .u8 0,.int .u8 0,.int .u8 0,.int .u8 0,.int .u8 0,.int .u8 0,.int .u8 0,.int .u8 0,.int .u8 0,.int .u8 0,.int .u8 0,.int .u8 0,.int .u8 0,.int .u8 0,.int .u8 0,.int .u8 0,.int .u8 0,.int .u8 0,.int .u8 0,.int .u8 0,.int .u8 0,.int .u8 0,.int .u8 0,.int .u8 0,.int .u8 0,.int .u8 0,.int .u8 0,.int .u8 0,.int .u8 0,.int .u8 0,.int .u8 0,.int .u8 0,.int .u8 0,.int .u8 0,.int .u8 0,.int .u8 0,.int .u8 0,.int .u8 0,.int .u8 0,.int .u8 0,.int .u8 0,.int .u8 0,.int .u8 0,.int .u8 0,.int .u8 0,.int .u8 0,.int .u8 0,.int .u8 0,.int .u8 0,.int .u8 0,.int .u8 0,.int .u8 0,.int .u8 0,.int .u8 0,.int .u8 0,.int .u8 0,.int .u8 0,.int .u8 0,.int .u8 0,.int .u8 0,.int .u8 0] 147)).heap.size):=⟨(Below.refl _ _).alloc (Nat.le_refl _) _,Zk w _ 147 64 (by decide),by simp⟩
 generalize w.alloc (.cells #[.int .u8 0,.int .u8 0,.int .u8 0,.int .u8 0,.int .u8 0,.int .u8 0,.int .u8 0,.int .u8 0,.int .u8 0,.int .u8 0,.int .u8 0,.int .u8 0,.int .u8 0,.int .u8 0,.int .u8 0,.int .u8 0,.int .u8 0,.int .u8 0,.int .u8 0,.int .u8 0,.int .u8 0,.int .u8 0,.int .u8 0,.int .u8 0,.int .u8 0,.int .u8 0,.int .u8 0,.int .u8 0,.int .u8 0,.int .u8 0,.int .u8 0,.int .u8 0,.int .u8 0,.int .u8 0,.int .u8 0,.int .u8 0,.int .u8 0,.int .u8 0,.int .u8 0,.int .u8 0,.int .u8 0,.int .u8 0,.int .u8 0,.int .u8 0,.int .u8 0,.int .u8 0,.int .u8 0,.int .u8 0,.int .u8 0,.int .u8 0,.int .u8 0,.int .u8 0,.int .u8 0,.int .u8 0,.int .u8 0,.int .u8 0,.int .u8 0,.int .u8 0,.int .u8 0,.int .u8 0,.int .u8 0,.int .u8 0,.int .u8 0,.int .u8 0] 147)=w0 at HB0 ⊢
 have HK0:Hid (TK w0 g o h false s half fed):=HK.out.below HB0.out.1
 have fu:w0.cell? ⟨g,o+10+used,none⟩=some (.int .u8 (half used)):=HK0.out.half used (by omega)
 have ff:w0.frozen? ⟨g,o+10+used,none⟩=false:=by
  have:=(HK0.out.there (10+used) (by omega)).2
  rw[←Nat.add_assoc] at this
  exact this
 have hx1:=HK0.out.setByte used 128 (by omega)
 have hcl:∀ ty,(Builtin.clear_ #[22] ty #[.slice (some ⟨g,o+10+u1,none⟩) (64-u1) (128-u1)]).run Tryz.prog (w0.setCell ⟨g,o+10+used,none⟩ (.int .u8 128))=.ok (.tuple #[]) ((w0.setCell ⟨g,o+10+used,none⟩ (.int .u8 128)).setCells g (o+10+u1) (List.replicate (64-u1) (.int .u8 0))):=fun ty=>Fg _ ty g _ _ _ (fun j hj=>by
  have:=hx1.1.there (10+u1+j) (by omega)
  rw[←Nat.add_assoc,←Nat.add_assoc] at this
  exact this)
 have hx2:=hx1.1.clear u1 (64-u1) (by omega)
 have HT1:Hid (Touch w ((w0.setCell ⟨g,o+10+used,none⟩ (.int .u8 128)).setCells g (o+10+u1) (List.replicate (64-u1) (.int .u8 0))) g o 139):=(((Touch.refl w g o 139).below HB0.out.1 hgw).trans hx1.2).trans hx2.2
 have HK1:Hid (TK ((w0.setCell ⟨g,o+10+used,none⟩ (.int .u8 128)).setCells g (o+10+u1) (List.replicate (64-u1) (.int .u8 0))) g o h false s (fun i=>if u1≤i∧i<u1+(64-u1) then 0 else (fun i=>if i=used then 128 else half i) i) fed):=hx2.1
 have HR1:Hid (((w0.setCell ⟨g,o+10+used,none⟩ (.int .u8 128)).setCells g (o+10+u1) (List.replicate (64-u1) (.int .u8 0))).there w.heap.size 0 64∧w.heap.size<((w0.setCell ⟨g,o+10+used,none⟩ (.int .u8 128)).setCells g (o+10+u1) (List.replicate (64-u1) (.int .u8 0))).heap.size):=⟨World.there_setCells (World.there_setCells HB0.out.2.1 g _ [_]) g _ _,by rw[size_setCells];simpa [World.setCell] using HB0.out.2.2⟩
 clear hx1 hx2
 go_upto_region 8 with fail
 rw[show decide ((56:Int)<(u1:Int))=false by simp;omega]
 generalize (w0.setCell ⟨g,o+10+used,none⟩ (.int .u8 128)).setCells g (o+10+u1) (List.replicate (64-u1) (.int .u8 0))=w2 at HT1 HK1 HR1 hcl ⊢
 have c138':w2.cell? ⟨g,o+138,none⟩=some (.int .u64 fed):=HK1.out.fed
 obtain ⟨H1,HH1⟩:∃ H1:Nat→Int,Hid ((fun i=>if u1≤i∧i<u1+(64-u1) then (0:Int) else (fun i=>if i=used then 128 else half i) i)=H1):=⟨_,(show _=_ from rfl)⟩
 rw[HH1.out] at HK1
 obtain ⟨P,HPP⟩:∃ P:Nat→Int,Hid (P=Qf 64 half fed):=⟨_,(show _=_ from rfl)⟩
 obtain ⟨s1,HS1⟩:∃ s1:Zb,Hid (s1=s):=⟨_,(show _=_ from rfl)⟩
 rw[←HS1.out] at HK1
 have hpn:X6 64 fed=1:=by rw[X6,if_pos (by have:=h0.out;have:=hu1.out;omega)]
 have HP1:Hid (∀ k,k<64-8→H1 k=P k):=by
  intro k hk
  have hu:=hu1.out
  have h00:=h0.out
  rw[←HH1.out,HPP.out]
  simp only[Qf,hpn,h00]
  by_cases k2:u1≤k
  ·rw[if_pos ⟨k2,by omega⟩,if_neg (by omega),if_neg (by omega),if_pos (by omega)]
  ·rw[if_neg (by omega)]
   by_cases k3:k=used
   ·rw[if_pos k3,if_neg (by omega),if_pos k3]
   ·rw[if_neg k3,if_pos (by omega)]
 have HPL:Hid (∀ k,64-8≤k→k<64→P k=((fed:Int)*8)/2^(8*(64-1-k))%256):=by
  intro k k1 hk
  have hu:=hu1.out
  have h00:=h0.out
  rw[HPP.out]
  simp only[Qf,hpn,h00]
  rw[if_neg (by omega),if_neg (by omega),if_neg (by omega)]
 have HE:Hid (TT false P s1 1=TT false (Qf 64 half fed) s (X6 64 fed)):=by show _=_;rw[HPP.out,HS1.out,hpn]
 clear hcl fu ff HK0 HB0 c0 c138 hpn HH1 HPP HS1
 go_wp2
 clear c138'
 go_loopw [62] (fun v wr=>∃ i:Nat,i≤8∧v=.int .i64 i∧Hid (Touch w wr g o 139)∧Hid (TK wr g o h false s1 (fun k=>if 64-i≤k∧k<64 then ((fed:Int)*8)/2^(8*(64-1-k))%256 else H1 k) fed)∧Hid (wr.there w.heap.size 0 64∧w.heap.size<wr.heap.size)) (fun v _=>8-(intOf v).toNat)
 case atStart=>exact ⟨0,by omega,rfl,HT1,HK1.out.fun_eq (fun i hi=>by rw[if_neg (by omega)]),HR1⟩
 case round=>
  obtain ⟨i,hi,rfl,HT2,HK2,HR2⟩:=hrel
  clear HT1 HK1 HR1
  by_cases h8:i<8
  ·obtain ⟨j,hj⟩:∃ j,j=64-1-i:=⟨_,rfl⟩
   have e2:(63:Int)-(i:Int)=(j:Int):=by omega
   have e3:(8*(i:Int)).toNat=8*i:=by omega
   have e4:min (8*i) 64=8*i:=by omega
   have e5:(0:Int)≤8*(i:Int):=by omega
   have e6:(j:Int)<128:=by omega
   have HJ:Hid (j=64-1-i):=hj
   have fc:=HK2.out.half j (by omega)
   have ff:wr.frozen? ⟨g,o+10+j,none⟩=false:=by
    have:=(HK2.out.there (10+j) (by omega)).2
    rw[←Nat.add_assoc] at this
    exact this
   clear hj
   go_wp2
   go_region
   go_wp2
   go_roundw
   case rel=>
    have hx:=HK2.out.setByte j ((fed:Int)*8/2^(8*i)%256) (by omega)
    refine ⟨i+1,by omega,by go_num,(HT2.out.trans hx.2).drew,(hx.1.sm (Sm.refl _).drew).fun_eq (fun k hk=>?_),⟨World.there_setCells HR2.out.1 g _ [_],by simpa [World.setCell] using HR2.out.2⟩⟩
    have hj:=HJ.out
    by_cases hkj:k=j
    ·subst hkj
     rw[if_pos rfl,if_pos (by omega),show 64-1-k=i by omega]
    ·rw[if_neg hkj]
     by_cases hc:64-i≤k∧k<64
     ·rw[if_pos hc,if_pos (by omega)]
     ·rw[if_neg hc,if_neg (by omega)]
   case measure=>simp [intOf];omega
  ·obtain rfl:i=8:=by omega
   have c1':wr.cell? ⟨g,o+1,none⟩=some (.func (.func 92) #[] #[]):=HK2.out.fn
   obtain ⟨H2,HH2⟩:∃ H2:Nat→Int,Hid ((fun k=>if 64-8≤k∧k<64 then ((fed:Int)*8)/2^(8*(64-1-k))%256 else H1 k)=H2):=⟨_,(show _=_ from rfl)⟩
   rw[HH2.out] at HK2
   have HP:Hid (∀ k,k<64→H2 k=P k):=by
    intro k hk
    rw[←HH2.out]
    dsimp only
    by_cases k1:64-8≤k
    ·rw[if_pos ⟨k1,hk⟩,HPL.out k k1 hk]
    ·rw[if_neg (by omega),HP1.out k (by omega)]
   obtain ⟨s',HS'⟩:∃ s':Zb,Hid (s'=TT false (Qf 64 half fed) s (X6 64 fed)):=⟨_,(show _=_ from rfl)⟩
   have HA:Hid (∀ v,Sm wr v→Calls Tryz.prog 92 #[.pointer (some ⟨g,o+2,none⟩),.slice (some ⟨g,o+10,none⟩) 64 128] v fun e w'=>e=.returned (.tuple #[])∧Touch wr w' g o 139∧TK w' g o h false s' H2 fed):=by
    intro v hsm
    have hs1:=HT2.out.size
    have hk':=HK2.out.sm hsm
    refine (Jh false rfl g (o+2) _ ((List.range 64).map H2) s1 v (by rw[hsm.heap];omega) hk'.st (fun j hj=>by have:=hk'.there (2+j) (by omega);rw[←Nat.add_assoc] at this;exact this) (Kj hk' 64 (by omega)) (fun _ _ _ _ e=>by injection e with e1 e2 e3;injection e1 with e1;injection e1 with e4 e5;omega) (hsm.tables (hT.out.touch HT2.out hg)) hg).mono ?_
    rintro e w' ⟨rfl,ht',hr'⟩
    rw[show ((List.range 64).map H2).length/bsz false=1 by simp [bsz],Y7 false (B':=P) s1 1 (fun j hj=>by simp [bsz] at hj;simp [List.getD,hj];exact HP.out j (by omega)),HE.out,←HS'.out] at hr'
    exact ⟨rfl,(hsm.touch g o 139).trans (ht'.mono o 139 (by omega) (by omega)),hk'.words ht' hr'⟩
   clear HH2 h8 HP HPL HP1 HE
   go_wp2
   go_region_held3 (fun v=>v.cell? ⟨g,o+1,none⟩=some (.func (.func 92) #[] #[])) (first | go_keep | exact hk3.fn) ((go_at_call 92;refine (HA.out wr.drew (Sm.refl wr).drew).mono ?_;rintro e3 w3 ⟨rfl,ht3,hk3⟩))
   have HT3:Hid (Touch w w3 g o 139):=HT2.out.trans ht3
   have HR3:Hid (w3.there w.heap.size 0 64∧w.heap.size<w3.heap.size):=⟨ht3.thereFar HR2.out.1 HR2.out.2 (by omega),Nat.lt_of_lt_of_le HR2.out.2 ht3.size⟩
   have HK3:Hid (TK w3 g o h false s' H2 fed):=hk3
   clear ht3 hk3 HA c1' HT2 HR2 HK2
   go_wp2_with (first | (go_at_call 96;refine (Mr g o h s' H2 fed _ hblk HK3).mono ?_))
   rintro e4 w4 ⟨rfl,hb4⟩
   have hs3:=HT3.out.size
   have HT4:Hid (Touch w w4 g o 139):=HT3.out.below hb4 hgw
   have HK4:Hid (TK w4 g o h false s' H2 fed):=HK3.out.below hb4
   have HR4:Hid (w4.there w.heap.size 0 64):=fun j hj=>by rw[hb4.cell (p:=⟨w.heap.size,0+j,none⟩) HR3.out.2,hb4.frozen (p:=⟨w.heap.size,0+j,none⟩) HR3.out.2];exact HR3.out.1 j hj
   have HY:Hid (w4.there w.heap.size 0 (Ze 4 s').toArray.size):=by rw[Y8];exact HR4.out
   have HZ:Hid ((Tryz.prog.info? 147).map (·.size)=some (Ze 4 s').toArray.size):=by rw[Y8];exact Jp
   clear HT3 HK3 HR3 hb4
   go_wp2_with (first
    | (refine wpList_store_mid (by rfl) 147 (.tmp 2) (.tmp 93) (by rfl) w.heap.size 0 (Ze 4 s').toArray (by rfl) (by rfl) HY.out HZ.out (Qx 4 s') ?_)
    | fail)
   have hl:=run_loadVar_mid (P:=Tryz.prog) (w4.setCells w.heap.size 0 (Ze 4 s')) w.heap.size 0 147 (Ze 4 s') _ (World.rangeAt_setCells_same w4 w.heap.size 0 (Ze 4 s') (by rw[Zz];exact HR4.out)) Tryz.underlying147 rfl (by rw[Zz];exact Jp)
   have hn:=Jf HT4.out (Nat.le_refl _) (Ze 4 s') 0 hgw
   have hs':=HS'.out
   refine bodyPost_ret (v:=.agg (Ze 4 s').toArray) ?_ rfl ⟨by rw[hs'],hn,H2,by rw[←hs'];exact HK4.out.newer (by omega) _ _⟩
   rw[Zt Tryz.results58]
   simp [Act.put,asAddr,hl]
end Go.Proofs.YtehlppaidgkpaaaGreatDoor.Dg
