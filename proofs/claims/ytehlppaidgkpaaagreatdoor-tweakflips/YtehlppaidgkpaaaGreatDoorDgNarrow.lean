import Derived.Test.YtehlppaidgkpaaaGreatDoorDgNR
namespace Go.Proofs.YtehlppaidgkpaaaGreatDoor.Dg
open Go.RowKit
set_option linter.unusedVariables false
theorem Touch.setNew {a b:World} {g o n:Nat} (h:Touch a b g o n) (k j:Nat) (u:Value) (hk:a.heap.size≤k) (hg:g<a.heap.size):Touch a (b.setCell ⟨k,j,none⟩ u) g o n:=by
 have hs:=h.size
 have hb:∀ i,i<a.heap.size→(b.setCell ⟨k,j,none⟩ u).heap[i]?=b.heap[i]?:=fun i hi=>Below.heap_setCell b ⟨k,j,none⟩ u i (by show i≠k;omega)
 refine ⟨h.os,h.tape,h.output,by simp [World.setCell];exact hs,fun i hi hne=>(hb i hi).trans (h.block i hi hne),fun i hi=>?_,fun o' n' ht i hi=>?_⟩
 ·rw[World.cell?_of_block (w:=b) (hb g hg)]
  exact h.cell i hi
 ·rw[World.cell?_of_block (w:=b) (a:=⟨g,o'+i,none⟩) (hb g hg),World.frozen?_of_block (w:=b) (a:=⟨g,o'+i,none⟩) (hb g hg)]
  exact h.there o' n' ht i hi
theorem lt_of_cell {w:World} {a:Addr} {v:Value} (h:w.cell? a=some v):a.block<w.heap.size:=by
 by_cases hb:a.block<w.heap.size
 ·exact hb
 ·simp [World.cell?,Array.getElem?_eq_none (Nat.le_of_not_lt hb)] at h
theorem Touch.outside {w v:World} {g o n:Nat} (h:Touch w v g o n) {b p:Nat} {x:Value} (hx:w.cell? ⟨b,p,none⟩=some x) (hs:b≠g∨p<o∨o+n≤p):v.cell? ⟨b,p,none⟩=some x:=by
 by_cases hb:b=g
 ·subst hb
  rw[h.cell p (by omega)]
  exact hx
 ·rw[h.far (p:=⟨b,p,none⟩) (lt_of_cell hx) hb]
  exact hx
theorem Touch.thereFar {w v:World} {g o n:Nat} (h:Touch w v g o n) {b o' n':Nat} (ht:w.there b o' n') (hb:b<w.heap.size) (hne:b≠g):v.there b o' n':=fun j hj=>by
 rw[h.far (p:=⟨b,o'+j,none⟩) hb hne,h.farFrozen (p:=⟨b,o'+j,none⟩) hb hne]
 exact ht j hj
theorem Xv {w:World} {k t N:Nat} {F:Nat→Value} (h:∀ j,j<t→w.cell? ⟨k,j,none⟩=some (F j)) (ht:w.there k 0 N) (htN:t<N) (u:Value) (hu:u=F t) :
  (∀ j,j<t+1→(w.setCell ⟨k,t,none⟩ u).drew.cell? ⟨k,j,none⟩=some (F j))∧(w.setCell ⟨k,t,none⟩ u).drew.there k 0 N:=by
 subst hu
 constructor
 ·intro j hj
  show (w.setCell ⟨k,t,none⟩ (F t)).cell? ⟨k,j,none⟩=some (F j)
  by_cases e:j=t
  ·subst e
   have:=(ht j htN).1
   rw[Nat.zero_add] at this
   exact World.cell?_setCell_same' _ _ _ this
  ·have:=World.cell?_setCells_out k [F t] t w ⟨k,j,none⟩ (fun _ _=>by show j<t∨t+1≤j;omega)
   exact this.trans (h j (by omega))
 ·exact World.there_setCells ht k t [F t]
theorem V7 {w:World} {g o k t:Nat} {cs:List Value} (h:w.rangeAt g o cs) (u:Value) (hne:g≠k):(w.setCell ⟨k,t,none⟩ u).drew.rangeAt g o cs:=
 World.rangeAt_setCells_apart h k t [u] (.inl hne)
theorem Cf {a:Option Addr} {b q n m c d:Nat} (h1:a=some ⟨b,q,none⟩) (h2:n=m) (h3:c=d):Value.slice a n c=.slice (some ⟨b,q,none⟩) m d:=by rw[h1,h2,h3]
def lenOf:Value→Nat
 | .slice _ l _=>l
 | _=>0
def Hs (B:Nat→Int) (t:Nat):Int:=bits .or .u32 (bits .or .u32 (bits .or .u32 (B (4*t)%4294967296*16777216%4294967296) (B (4*t+1)%4294967296*65536%4294967296)) (B (4*t+2)%4294967296*256%4294967296)) (B (4*t+3)%4294967296)
def V9 (x:Int):Int:=bits .xor .u32 (bits .xor .u32 (Yz x 15) (Yz x 13)) (x/1024)
def Wa (x:Int):Int:=bits .xor .u32 (bits .xor .u32 (Yz x 25) (Yz x 14)) (x/8)
def Zi (B:Nat→Int) (t:Nat):Int:=
 if t<16 then Hs B t else (V9 (Zi B (t-2))+Zi B (t-7)+Wa (Zi B (t-15))+Zi B (t-16))%4294967296
termination_by t
decreasing_by all_goals omega
def Xs (C B:Nat→Int) (s:Zb):Zb:=Zb.zip (fun h x=>(h+x)%4294967296) s (Yo C (Zi B) 64 ⟨s.a%4294967296,s.b%4294967296,s.c%4294967296,s.d%4294967296,s.e%4294967296,s.f%4294967296,s.g%4294967296,s.k%4294967296⟩)
def Z7 (C B:Nat→Int) (s:Zb):Nat→Zb
 | 0=>s
 | i+1=>Xs C (fun j=>B (64*i+j)) (Z7 C B s i)
set_option maxHeartbeats 6400000 in
set_option maxRecDepth 100000 in
theorem Wr (g o b p n cap:Nat) (s:Zb) (C B:Nat→Int) (w:World) (hg:g<w.heap.size) (hcap:n≤cap) (hcm:cap≤maxLen)
  (hr:w.rangeAt g o s.cells) (ht:w.there g o 8)
  (hB:∀ i,i<n→w.cell? ⟨b,p+i,none⟩=some (.int .u8 (B i)))
  (hsep:b≠g∨p+n≤o∨o+8≤p)
  (hC:∀ t,t<64→w.cell? ⟨5,t,none⟩=some (.int .u64 (C t))) (hg3:5≠g) :
  Calls Tryz.prog 92 #[.pointer (some ⟨g,o,none⟩),.slice (some ⟨b,p,none⟩) n cap] w fun e w'=>e=.returned (.tuple #[])∧Touch w w' g o 8∧w'.rangeAt g o (Z7 C B s (n/64)).cells:=by
 have HR:Hid (w.rangeAt g o s.cells):=hr
 have HT:Hid (w.there g o 8):=ht
 have HB:Hid (∀ i,i<n→w.cell? ⟨b,p+i,none⟩=some (.int .u8 (B i))):=hB
 have HC:Hid (∀ t,t<64→w.cell? ⟨5,t,none⟩=some (.int .u64 (C t))):=hC
 have HS:Hid (b≠g∨p+n≤o∨o+8≤p):=hsep
 have hcm':cap≤9223372036854775807:=by unfold maxLen at hcm;omega
 clear hr ht hB hC hcm hsep
 go_enter Tryz.func92,Tryz.ntmps92
 go_wp2
 go_loopw [1] (fun v wr=>∃ i q:Nat,64*i≤n∧(n=64*i∨q=p+64*i)∧v=.slice (some ⟨b,q,none⟩) (n-64*i) (cap-64*i)∧Hid (Touch w wr g o 8)∧Hid (wr.there w.heap.size 0 64∧w.heap.size<wr.heap.size)∧Hid (wr.rangeAt g o (Z7 C B s i).cells)) (fun v _=>lenOf v)
 case atStart=>exact ⟨0,p,by omega,.inr (by omega),rfl,(Touch.refl _ _ _ _).alloc _ hg,⟨Zk w _ 196 64 (by decide),by simp⟩,World.rangeAt_alloc HR.out _⟩
 case round=>
  obtain ⟨i,q,hi,hq0,rfl,HT1,HN1,HR1⟩:=hrel
  by_cases hlt:64≤n-64*i
  ·have hq:q=p+64*i:=by omega
   obtain ⟨m,hm⟩:∃ m,m=n-64*i:=⟨_,rfl⟩
   obtain ⟨c,hc⟩:∃ c,c=cap-64*i:=⟨_,rfl⟩
   have hmc:m≤c:=by omega
   have hcc:c≤9223372036854775807:=by omega
   rw[←hm,←hc]
   rw[←hm] at hlt
   have HQ:Hid (q=p+64*i∧m=n-64*i∧c=cap-64*i):=⟨hq,hm,hc⟩
   have HBq:Hid (∀ j,j<64→w.cell? ⟨b,q+j,none⟩=some (.int .u8 (B (64*i+j)))):=fun j hj=>by
    have:=HB.out (64*i+j) (by omega)
    rw[←Nat.add_assoc,←hq] at this
    exact this
   have HSq:Hid (b≠g∨q+64≤o∨o+8≤q):=by rcases HS.out with h | h;exact .inl h;exact .inr (by omega)
   clear hq hm hc hq0
   go_wp2
   rw[show decide ((64:Int)≤(m:Int))=true by simp;omega]
   go_loopw [17] (fun v wr=>∃ t:Nat,t≤16∧v=.int .i64 t∧Hid (Touch w wr g o 8)∧Hid (wr.there w.heap.size 0 64∧w.heap.size<wr.heap.size)∧Hid (wr.rangeAt g o (Z7 C B s i).cells)∧Hid (∀ j,j<t→wr.cell? ⟨w.heap.size,j,none⟩=some (.int .u32 (Zi (fun j=>B (64*i+j)) j)))) (fun v _=>16-(intOf v).toNat)
   case atStart=>exact ⟨0,by omega,rfl,HT1,HN1,HR1,fun j hj=>by omega⟩
   case round=>
    obtain ⟨t,ht,rfl,HT2,HN2,HR2,HF2⟩:=hrel
    clear HT1 HN1 HR1
    by_cases h16:t<16
    ·have f0:wr.cell? ⟨b,q+4*t,none⟩=some (.int .u8 (B (64*i+4*t))):=HT2.out.outside (HBq.out (4*t) (by omega)) (by rcases HSq.out with h | h;exact .inl h;exact .inr (by omega))
     have f1:wr.cell? ⟨b,q+4*t+1,none⟩=some (.int .u8 (B (64*i+(4*t+1)))):=HT2.out.outside (HBq.out (4*t+1) (by omega)) (by rcases HSq.out with h | h;exact .inl h;exact .inr (by omega))
     have f2:wr.cell? ⟨b,q+4*t+2,none⟩=some (.int .u8 (B (64*i+(4*t+2)))):=HT2.out.outside (HBq.out (4*t+2) (by omega)) (by rcases HSq.out with h | h;exact .inl h;exact .inr (by omega))
     have f3:wr.cell? ⟨b,q+4*t+3,none⟩=some (.int .u8 (B (64*i+(4*t+3)))):=HT2.out.outside (HBq.out (4*t+3) (by omega)) (by rcases HSq.out with h | h;exact .inl h;exact .inr (by omega))
     have fw:wr.frozen? ⟨w.heap.size,t,none⟩=false:=by simpa using (HN2.out.1 t (by omega)).2
     obtain ⟨u,fu⟩:∃ u,wr.cell? ⟨w.heap.size,t,none⟩=some u:=by simpa [Option.isSome_iff_exists] using (HN2.out.1 t (by omega)).1
     go_wp2
     go_region
     go_wp2
     go_roundw
     case rel=>
      have hfill:=Xv (F:=fun j=>.int .u32 (Zi (fun j=>B (64*i+j)) j)) HF2.out HN2.out.1 (show t<64 by omega) (.int .u32 (Hs (fun j=>B (64*i+j)) t)) (by rw[Zi,if_pos h16])
      exact ⟨t+1,by omega,by go_num,(HT2.out.setNew w.heap.size t _ (Nat.le_refl _) hg).drew,⟨hfill.2,by simpa using HN2.out.2⟩,V7 HR2.out _ (by omega),hfill.1⟩
     case measure=>simp [intOf];omega
    ·obtain rfl:t=16:=by omega
     clear h16 ht HBq HSq
     go_wp2
     rw[show ((16:Nat):Int)=16 from rfl]
     go_loopw [7] (fun v wr=>∃ t:Nat,t≤48∧v=.int .i64 (16+(t:Int))∧Hid (Touch w wr g o 8)∧Hid (wr.there w.heap.size 0 64∧w.heap.size<wr.heap.size)∧Hid (wr.rangeAt g o (Z7 C B s i).cells)∧Hid (∀ j,j<16+t→wr.cell? ⟨w.heap.size,j,none⟩=some (.int .u32 (Zi (fun j=>B (64*i+j)) j)))) (fun v _=>64-(intOf v).toNat)
     case atStart=>exact ⟨0,by omega,rfl,HT2,HN2,HR2,HF2⟩
     case round=>
      obtain ⟨t,ht,rfl,HT3,HN3,HR3,HF3⟩:=hrel
      clear HT2 HN2 HR2 HF2
      by_cases h48:t<48
      ·have f2:wr.cell? ⟨w.heap.size,t+14,none⟩=some (.int .u32 (Zi (fun j=>B (64*i+j)) (t+14))):=HF3.out _ (by omega)
       have f15:wr.cell? ⟨w.heap.size,t+1,none⟩=some (.int .u32 (Zi (fun j=>B (64*i+j)) (t+1))):=HF3.out _ (by omega)
       have f7:wr.cell? ⟨w.heap.size,t+9,none⟩=some (.int .u32 (Zi (fun j=>B (64*i+j)) (t+9))):=HF3.out _ (by omega)
       have f16:wr.cell? ⟨w.heap.size,t,none⟩=some (.int .u32 (Zi (fun j=>B (64*i+j)) t)):=HF3.out _ (by omega)
       have fw:wr.frozen? ⟨w.heap.size,t+16,none⟩=false:=by simpa using (HN3.out.1 (t+16) (by omega)).2
       obtain ⟨u,fu⟩:∃ u,wr.cell? ⟨w.heap.size,t+16,none⟩=some u:=by simpa [Option.isSome_iff_exists] using (HN3.out.1 (t+16) (by omega)).1
       have e2:(16+(t:Int)-2).toNat=t+14:=by omega
       have e15:(16+(t:Int)-15).toNat=t+1:=by omega
       have e7:(16+(t:Int)-7).toNat=t+9:=by omega
       have e16:(16+(t:Int)-16).toNat=t:=by omega
       have e0:(16+(t:Int)).toNat=t+16:=by omega
       go_wp2
       go_quiet (fail)
       go_wp2_with (first | (go_at_call 78;(first | refine (Yi 17 (by decide +kernel)).mono ?_ | refine (Yi 19 (by decide +kernel)).mono ?_ | refine (Yi 7 (by decide +kernel)).mono ?_ | refine (Yi 18 (by decide +kernel)).mono ?_);(rintro e1 w1 ⟨rfl,hw1⟩;obtain rfl:=hw1.symm)))
       go_region
       go_wp2
       go_roundw
       case rel=>
        have hv:Zi (fun j=>B (64*i+j)) (t+16)=(V9 (Zi (fun j=>B (64*i+j)) (t+14))+Zi (fun j=>B (64*i+j)) (t+9)+Wa (Zi (fun j=>B (64*i+j)) (t+1))+Zi (fun j=>B (64*i+j)) t)%4294967296:=by
         rw[Zi,if_neg (by omega)]
         rw[show t+16-2=t+14 by omega,show t+16-7=t+9 by omega,show t+16-15=t+1 by omega,show t+16-16=t by omega]
        have hF:∀ j,j<t+16→wr.cell? ⟨w.heap.size,j,none⟩=some (.int .u32 (Zi (fun j=>B (64*i+j)) j)):=fun j hj=>HF3.out j (by omega)
        have hfill:=Xv (w:=wr.drewN nq) (F:=fun j=>.int .u32 (Zi (fun j=>B (64*i+j)) j)) hF HN3.out.1 (show t+16<64 by omega) (.int .u32 ((V9 (Zi (fun j=>B (64*i+j)) (t+14))+Zi (fun j=>B (64*i+j)) (t+9)+Wa (Zi (fun j=>B (64*i+j)) (t+1))+Zi (fun j=>B (64*i+j)) t)%4294967296)) (by rw[hv])
        exact ⟨t+1,by omega,by go_num,((HT3.out.drewN nq).setNew w.heap.size (t+16) _ (Nat.le_refl _) hg).drew,⟨hfill.2,by simpa using HN3.out.2⟩,V7 (w:=wr.drewN nq) HR3.out _ (by omega),fun j hj=>hfill.1 j (by omega)⟩
       case measure=>simp [intOf];omega
      ·obtain rfl:t=48:=by omega
       clear h48 ht
       go_wp2_with fail
       have hs:=HT3.out.size
       refine (Fy g o w.heap.size _ _ _ _ _ _ _ _ (Zi (fun j=>B (64*i+j))) C wr HR3.out (HT3.out.there _ _ HT.out) (fun j hj=>HF3.out j (by omega)) (fun j hj=>HT3.out.outside (HC.out j hj) (.inl hg3))).mono ?_
       rintro e w4 ⟨rfl,ht4,hr4⟩
       have HT4:Hid (Touch w w4 g o 8):=HT3.out.trans ht4
       have HN4:Hid (w4.there w.heap.size 0 64∧w.heap.size<w4.heap.size):=⟨ht4.thereFar HN3.out.1 HN3.out.2 (by omega),Nat.lt_of_lt_of_le HN3.out.2 ht4.size⟩
       have HR4:Hid (w4.rangeAt g o (Z7 C B s (i+1)).cells):=hr4
       clear ht4 hr4 HT3 HN3 HR3 HF3 hs
       go_wp2
       go_roundw
       case rel=>
        obtain ⟨h1,h2,h3⟩:=HQ.out
        exact ⟨i+1,if c=64 then q else q+64,by omega,(by split<;>omega),Cf (by split<;>rfl) (by omega) (by omega),HT4,HN4,HR4⟩
       case measure=>simp [lenOf];omega
  ·go_wp2
   go_end0
   refine ⟨rfl,HT1.out,?_⟩
   rw[show n/64=i by omega]
   exact HR1.out
end Go.Proofs.YtehlppaidgkpaaaGreatDoor.Dg
