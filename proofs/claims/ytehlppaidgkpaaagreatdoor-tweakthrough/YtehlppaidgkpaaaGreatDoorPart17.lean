import Derived.Test.YtehlppaidgkpaaaGreatDoorDgAdd
import Derived.Deep.Cut
namespace Go.Proofs.YtehlppaidgkpaaaGreatDoor.Dg
open Go.RowKit
set_option linter.unusedVariables false
set_option linter.unusedSimpArgs false
theorem Hr (w:World) (x y:Option Addr) (dl dc c:Nat):(Builtin.copy_ #[22,22] 3 #[.slice x dl dc,.slice y 0 c]).run Tryz.prog w=.ok (.int .i64 0) w:=
 run_copy_none (P:=Tryz.prog) w 22 22 3 5 x y dl dc 0 c Tryz.underlying22 (by kernel_rfl) (by show min _ _=0;omega)
set_option maxHeartbeats 3200000 in
set_option maxRecDepth 100000 in
theorem Bm (g o:Nat) (h:Int) (s:Zb) (half:Nat→Int) (fed cap:Nat) (a:Option Addr) (w:World) (hblk:Yd h=64) (HK:Hid (TK w g o h false s half fed)) (hfn:fed≤4611686018427387904) (hcm:cap≤9223372036854775807) (ha:a=none→cap=0) :
  Calls Tryz.prog 95 #[.pointer (some ⟨g,o,none⟩),.slice a 0 cap] w fun e w'=>e=.returned (.tuple #[])∧Touch w w' g o 139∧TK w' g o h false s half fed:=by
 have c0:=HK.out.hash
 have c138:=HK.out.fed
 have f138:w.frozen? ⟨g,o+138,none⟩=false:=(HK.out.there 138 (by omega)).2
 have hgw:g<w.heap.size:=lt_of_cell c0
 have HT1:Hid (Touch w (w.setCell ⟨g,o+138,none⟩ (.int .u64 fed)) g o 139):=(Touch.refl _ _ _ _).setCell _ _ (by omega) (by omega)
 have HK1:Hid (TK (w.setCell ⟨g,o+138,none⟩ (.int .u64 fed)) g o h false s half fed):=HK.out.setFed _ _ rfl
 by_cases hu:fed%64=0
 ·have r0:((fed:Int)%64)=0:=by omega
  go_enter Tryz.func95,Tryz.ntmps95
  go_wp2_with (first | (go_at_call 91;refine (Xa _ _).mono ?_;rintro e1 w1 ⟨rfl,hw1⟩;obtain rfl:=hw1.symm;rw[hblk]))
  generalize w.setCell ⟨g,o+138,none⟩ (.int .u64 fed)=w1 at HT1 HK1 ⊢
  clear c0 c138 f138
  have c1':w1.cell? ⟨g,o+1,none⟩=some (.func (.func 92) #[] #[]):=HK1.out.fn
  have HA:Hid (∀ v,Sm w1 v→Calls Tryz.prog 92 #[.pointer (some ⟨g,o+2,none⟩),.slice a 0 cap] v fun e w'=>e=.returned (.tuple #[])∧Touch w w' g o 139∧TK w' g o h false s half fed):=by
   intro v hsm
   have hs1:=HT1.out.size
   have hgv:g<v.heap.size:=by rw[hsm.heap];omega
   refine (Kb _ a cap v).mono ?_
   rintro e w' ⟨rfl,hb⟩
   have ht:=(Touch.refl v g (o+2) 8).below hb hgv
   exact ⟨rfl,HT1.out.trans ((hsm.touch g o 139).trans ((Touch.refl v g o 139).below hb hgv)),(HK1.out.sm hsm).words ht (Y4 (HK1.out.sm hsm).st hb hgv)⟩
  go_region_held3 (fun v=>v.cell? ⟨g,o+1,none⟩=some (.func (.func 92) #[] #[])) (first | go_keep | exact hk2.fn) ((go_at_call 92;refine (HA.out w1.drew (Sm.refl w1).drew).mono ?_;rintro e2 w2 ⟨rfl,ht2,hk2⟩))
  have HT2:Hid (Touch w w2 g o 139):=ht2
  have HK2:Hid (TK w2 g o h false s half fed):=hk2
  have hcp:∀ x,(Builtin.copy_ #[22,22] 3 #[.slice (some ⟨g,o+10,none⟩) 64 128,.slice x 0 cap]).run Tryz.prog w2.drew=.ok (.int .i64 0) w2.drew:=fun x=>Hr w2.drew _ _ _ _ _
  clear ht2 hk2 HA c1' HT1 HK1
  go_wp2
  go_region
  go_wp2
  go_end0
  exact ⟨rfl,HT2.out.drew,HK2.out.sm (Sm.refl w2).drew⟩
 ·obtain ⟨used,hus⟩:∃ u,u=fed%64:=⟨_,rfl⟩
  have r0:((fed:Int)%64)=(used:Int):=by omega
  have hu2:(0:Int)<(used:Int):=by omega
  have hu3:(used:Int)<64:=by omega
  have hu4:(used:Int)≤64:=by omega
  have hcp:∀ w,(Builtin.copy_ #[22,22] 3 #[.slice (some ⟨g,o+10+used,none⟩) (64-used) (128-used),.slice a 0 cap]).run Tryz.prog w=.ok (.int .i64 0) w:=fun w=>Hr w _ _ _ _ _
  clear hus hu
  go_enter Tryz.func95,Tryz.ntmps95
  go_wp2_with (first | (go_at_call 91;refine (Xa _ _).mono ?_;rintro e1 w1 ⟨rfl,hw1⟩;obtain rfl:=hw1.symm;rw[hblk]))
  refine bodyPost_ret (results_none rfl _ _ _) rfl ?_
  exact ⟨rfl,HT1.out,HK1.out⟩
def fnz (zs:List Int) (i:Nat):Int:=zs.getD i 0
theorem Fb (zs ys:List Int) (i:Nat) (h:i<zs.length):fnz (zs++ys) i=fnz zs i:=by
 simp [fnz,List.getD,List.getElem?_append_left h]
theorem Ji (zs ys:List Int) (i:Nat):fnz (zs++ys) (zs.length+i)=fnz ys i:=by
 simp [fnz,List.getD,List.getElem?_append_right (Nat.le_add_right _ _)]
theorem Fa (ys:List Int) (k i:Nat) (h:i<k):fnz (ys.take k) i=fnz ys i:=by
 simp [fnz,List.getD,List.getElem?_take,h]
theorem Vq (ys:List Int) (k i:Nat):fnz (ys.drop k) i=fnz ys (k+i):=by
 simp [fnz,List.getD]
def Rep (w:World) (g o:Nat) (h:Int) (wd:Bool) (s0:Zb) (f0:Nat) (zs:List Int):Prop:=
 ∃ half,TK w g o h wd (TT wd (fnz zs) s0 (zs.length/bsz wd)) half (f0+zs.length)∧(∀ i,i<zs.length%bsz wd→half i=fnz zs (bsz wd*(zs.length/bsz wd)+i))∧f0%bsz wd=0
theorem Bl (wd:Bool) (g o:Nat) (h:Int) (s:Zb) (half:Nat→Int) (fed n used cap b p:Nat) (zs:List Int) (w:World) (hblk:Yd h=bsz wd∧wd=false) (HK:TK w g o h wd s half fed) (hn:zs.length=n) (hfn:fed+n≤4611686018427387904)
  (hv:Zf w (.slice (some ⟨b,p,none⟩) n cap) zs) (hsep:Apart (.slice (some ⟨b,p,none⟩) n cap) g o 139) (hg:6≤g) (h0:fed%bsz wd=used) (hu0:0<used) (hu1:used+n<bsz wd) :
  Calls Tryz.prog 95 #[.pointer (some ⟨g,o,none⟩),.slice (some ⟨b,p,none⟩) n cap] w fun e w'=>e=.returned (.tuple #[])∧Touch w w' g o 139∧TK w' g o h wd s (fun i=>if used≤i∧i<used+zs.length then zs.getD (i-used) 0 else half i) (fed+n):=by
 cases wd
 ·exact R3 g o h s half fed n used cap b p zs w hblk.1 HK hn hfn hv hsep hg h0 hu0 hu1
 ·exact absurd hblk.2 (by decide)
theorem Cd (wd:Bool) (g o:Nat) (h:Int) (s:Zb) (half:Nat→Int) (fed n wh cap b p:Nat) (zs:List Int) (w:World) (hblk:Yd h=bsz wd∧wd=false) (HK:TK w g o h wd s half fed) (hn:zs.length=n) (hfn:fed+n≤4611686018427387904)
  (hv:Zf w (.slice (some ⟨b,p,none⟩) n cap) zs) (hsep:Apart (.slice (some ⟨b,p,none⟩) n cap) g o 139) (hT:Tables w) (hg:6≤g) (h0:fed%bsz wd=0) (hq:n=wh+n%bsz wd) :
  Calls Tryz.prog 95 #[.pointer (some ⟨g,o,none⟩),.slice (some ⟨b,p,none⟩) n cap] w fun e w'=>e=.returned (.tuple #[])∧Touch w w' g o 139∧TK w' g o h wd (TT wd (fnz (zs.take wh)) s (wh/bsz wd)) (fun i=>if 0≤i∧i<0+(zs.drop wh).length then (zs.drop wh).getD (i-0) 0 else half i) (fed+n):=by
 cases wd
 ·exact Mf g o h s half fed n wh cap b p zs w hblk.1 HK hn hfn hv hsep hT hg h0 hq
 ·exact absurd hblk.2 (by decide)
theorem Ce (wd:Bool) (g o:Nat) (h:Int) (s:Zb) (half:Nat→Int) (fed k n wh used cap b p:Nat) (zs:List Int) (w:World) (hblk:Yd h=bsz wd∧wd=false) (HK:TK w g o h wd s half fed) (hn:zs.length=k+n) (hfn:fed+(k+n)≤4611686018427387904)
  (hv:Zf w (.slice (some ⟨b,p,none⟩) (k+n) (k+cap)) zs) (hsep:Apart (.slice (some ⟨b,p,none⟩) (k+n) (k+cap)) g o 139) (hT:Tables w) (hg:6≤g) (h0:fed%bsz wd=used) (hu0:0<used) (hu1:used+k=bsz wd) (hq:n=wh+n%bsz wd) :
  Calls Tryz.prog 95 #[.pointer (some ⟨g,o,none⟩),.slice (some ⟨b,p,none⟩) (k+n) (k+cap)] w fun e w'=>e=.returned (.tuple #[])∧Touch w w' g o 139∧∃ s1,s1=TT wd (fun i=>if used≤i∧i<used+(zs.take k).length then (zs.take k).getD (i-used) 0 else half i) s 1 ∧
   TK w' g o h wd (TT wd (fnz ((zs.drop k).take wh)) s1 (wh/bsz wd)) (fun i=>if 0≤i∧i<0+((zs.drop k).drop wh).length then ((zs.drop k).drop wh).getD (i-0) 0 else (fun i=>if used≤i∧i<used+(zs.take k).length then (zs.take k).getD (i-used) 0 else half i) i) (fed+(k+n)):=by
 cases wd
 ·exact Mg g o h s half fed k n wh used cap b p zs w hblk.1 HK hn hfn hv hsep hT hg h0 hu0 hu1 hq
 ·exact absurd hblk.2 (by decide)
theorem Kr (wd:Bool) (g o:Nat) (h:Int) (s:Zb) (half:Nat→Int) (fed cap:Nat) (a:Option Addr) (w:World) (hblk:Yd h=bsz wd∧wd=false) (HK:TK w g o h wd s half fed) (hfn:fed≤4611686018427387904) (hcm:cap≤9223372036854775807) (ha:a=none→cap=0) :
  Calls Tryz.prog 95 #[.pointer (some ⟨g,o,none⟩),.slice a 0 cap] w fun e w'=>e=.returned (.tuple #[])∧Touch w w' g o 139∧TK w' g o h wd s half fed:=by
 cases wd
 ·exact Bm g o h s half fed cap a w hblk.1 HK hfn hcm ha
 ·exact absurd hblk.2 (by decide)
theorem Ii (wd:Bool) (g o:Nat) (h:Int) (s0:Zb) (f0:Nat) (zs ys:List Int) (v:Value) (w:World) (hblk:Yd h=bsz wd∧wd=false) (hr:Rep w g o h wd s0 f0 zs) (hv:Zf w v ys) (hap:Apart v g o 139) (hT:Tables w) (hg:6≤g) (hfn:f0+zs.length+ys.length≤4611686018427387904) :
  Calls Tryz.prog 95 #[.pointer (some ⟨g,o,none⟩),v] w fun e w'=>e=.returned (.tuple #[])∧Touch w w' g o 139∧Rep w' g o h wd s0 f0 (zs++ys):=by
 obtain ⟨half,hk,hh,hf⟩:=hr
 have hb:=M7 wd
 have hvv:=hv
 obtain ⟨a,cap,rfl,h1,h2,h3,h4⟩:=hv
 by_cases hys:ys=[]
 ·subst hys
  refine (Kr wd g o h _ half _ cap a w hblk hk (by simpa using hfn) (by unfold maxLen at h2;omega) h3).mono ?_
  rintro e w' ⟨rfl,ht,hk'⟩
  rw[List.append_nil]
  exact ⟨rfl,ht,half,hk',hh,hf⟩
 have hL:(zs++ys).length=zs.length+ys.length:=by simp
 generalize hB:bsz wd=B at *
 generalize hn:ys.length=n at *
 generalize hl:zs.length=l at *
 rcases h4 with rfl | ⟨b,p,rfl,hc⟩
 ·exact absurd rfl hys
 have hZl:∀ i,i<l→fnz (zs++ys) i=fnz zs i:=fun i hi=>Fb zs ys i (by omega)
 have hZr:∀ i,fnz (zs++ys) (l+i)=fnz ys i:=fun i=>by rw[←hl];exact Ji zs ys i
 have hlq:l=B*(l/B)+l%B:=(Nat.div_add_mod l B).symm
 have hused:(f0+l)%B=l%B:=by
  obtain ⟨c,hc⟩:∃ c,f0=B*c:=⟨f0/B,by have:=Nat.div_add_mod f0 B;omega⟩
  rw[hc,Nat.mul_add_mod]
 have hTq:∀ s,TT wd (fnz (zs++ys)) s (l/B)=TT wd (fnz zs) s (l/B):=fun s=>Y8 wd s _ fun j hj=>hZl j (by rw[hB] at hj;omega)
 have hul:l%B<B:=Nat.mod_lt _ hb
 by_cases hu:l%B=0
 ·have hnq:n=B*(n/B)+n%B:=(Nat.div_add_mod n B).symm
  refine (Cd wd g o h _ half (f0+l) n (B*(n/B)) cap b p ys w (by rw[hB];exact hblk) hk hn (by omega) hvv hap hT hg (by rw[hB,hused,hu]) (by rw[hB];exact hnq)).mono ?_
  rintro e w' ⟨rfl,ht,hk'⟩
  have e1:(l+n)/B=l/B+n/B:=by
   rw[hlq,hu,Nat.add_zero,Nat.mul_add_div hb,Nat.mul_div_cancel_left _ hb]
  have e2:(l+n)%B=n%B:=by
   rw[hlq,hu,Nat.add_zero,Nat.mul_add_mod]
  refine ⟨rfl,ht,(fun i=>if 0≤i∧i<0+(ys.drop (B*(n/B))).length then (ys.drop (B*(n/B))).getD (i-0) 0 else half i),?_,?_,by rw[hB];exact hf⟩
  ·rw[hL,hB,e1,Wh wd _ s0 (l/B) (n/B),hTq]
   rw[hB,Nat.mul_div_cancel_left _ hb,Y8 wd (B':=fun k=>fnz (zs++ys) (bsz wd*(l/B)+k)) _ (n/B) (fun j hj=>by
    rw[hB] at hj ⊢
    rw[Fa ys _ j (by omega),show B*(l/B)+j=l+j by omega,hZr])] at hk'
   rw[show f0+(l+n)=f0+l+n by omega]
   exact hk'
  ·intro i hi
   dsimp only
   rw[hL,hB] at hi ⊢
   rw[e2] at hi
   rw[e1]
   have hdl:(ys.drop (B*(n/B))).length=n%B:=by simp;omega
   rw[if_pos ⟨Nat.zero_le _,by omega⟩]
   have:=Vq ys (B*(n/B)) i
   rw[show B*(l/B+n/B)+i=l+(B*(n/B)+i) by rw[Nat.mul_add];omega,hZr,←this]
   rfl
 ·by_cases hfew:l%B+n<B
  ·refine (Bl wd g o h _ half (f0+l) n (l%B) cap b p ys w (by rw[hB];exact hblk) hk hn (by omega) hvv hap hg (by rw[hB,hused]) (by omega) (by rw[hB];exact hfew)).mono ?_
   rintro e w' ⟨rfl,ht,hk'⟩
   have e1:(l+n)/B=l/B:=by
    have:l+n=B*(l/B)+(l%B+n):=by omega
    rw[this,Nat.mul_add_div hb,Nat.div_eq_of_lt hfew,Nat.add_zero]
   have e2:(l+n)%B=l%B+n:=by
    have:l+n=B*(l/B)+(l%B+n):=by omega
    rw[this,Nat.mul_add_mod,Nat.mod_eq_of_lt hfew]
   refine ⟨rfl,ht,(fun i=>if l%B≤i∧i<l%B+ys.length then ys.getD (i-l%B) 0 else half i),?_,?_,by rw[hB];exact hf⟩
   ·rw[hL,hB,e1,hTq,show f0+(l+n)=f0+l+n by omega]
    exact hk'
   ·intro i hi
    dsimp only
    rw[hL,hB] at hi ⊢
    rw[e2] at hi
    rw[e1]
    by_cases hil:l%B≤i
    ·rw[if_pos ⟨hil,by omega⟩,show B*(l/B)+i=l+(i-l%B) by omega,hZr]
     rfl
    ·rw[if_neg (by omega),hh i (by omega),hZl _ (by omega)]
  ·obtain ⟨k,hk0⟩:∃ k,k=B-l%B:=⟨_,rfl⟩
   obtain ⟨m,hm⟩:∃ m,n=k+m:=⟨n-k,by omega⟩
   obtain ⟨c,hcc⟩:∃ c,cap=k+c:=⟨cap-k,by omega⟩
   subst hm hcc
   have hnq:m=B*(m/B)+m%B:=(Nat.div_add_mod m B).symm
   refine (Ce wd g o h _ half (f0+l) k m (B*(m/B)) (l%B) c b p ys w (by rw[hB];exact hblk) hk hn (by omega) hvv hap hT hg (by rw[hB,hused]) (by omega) (by rw[hB];omega) (by rw[hB];exact hnq)).mono ?_
   rintro e w' ⟨rfl,ht,s1,hs1,hk'⟩
   have e1:(l+(k+m))/B=l/B+1+m/B:=by
    have:l+(k+m)=B*(l/B+1)+m:=by rw[Nat.mul_add];omega
    rw[this,Nat.mul_add_div hb]
   have e2:(l+(k+m))%B=m%B:=by
    have:l+(k+m)=B*(l/B+1)+m:=by rw[Nat.mul_add];omega
    rw[this,Nat.mul_add_mod]
   have hlt:(ys.take k).length=k:=by simp;omega
   have hs1':s1=TT wd (fnz (zs++ys)) s0 (l/B+1):=by
    rw[hs1,Wh wd _ s0 (l/B) 1,hTq]
    refine Y8 wd _ 1 fun j hj=>?_
    rw[hB] at hj ⊢
    by_cases hjl:l%B≤j
    ·rw[if_pos ⟨hjl,by omega⟩,show B*(l/B)+j=l+(j-l%B) by omega,hZr]
     exact Fa ys k _ (by omega)
    ·rw[if_neg (by omega),hh j (by omega),hZl _ (by omega)]
   refine ⟨rfl,ht,(fun i=>if 0≤i∧i<0+((ys.drop k).drop (B*(m/B))).length then ((ys.drop k).drop (B*(m/B))).getD (i-0) 0 else (fun i=>if l%B≤i∧i<l%B+(ys.take k).length then (ys.take k).getD (i-l%B) 0 else half i) i),?_,?_,by rw[hB];exact hf⟩
   ·rw[hL,hB,e1,Wh wd _ s0 (l/B+1) (m/B),←hs1']
    rw[hB,Nat.mul_div_cancel_left _ hb,Y8 wd (B':=fun k=>fnz (zs++ys) (bsz wd*(l/B+1)+k)) _ (m/B) (fun j hj=>by
     rw[hB] at hj ⊢
     rw[Fa _ _ j (by omega),Vq,show B*(l/B+1)+j=l+(k+j) by rw[Nat.mul_add];omega,hZr])] at hk'
    rw[show f0+(l+(k+m))=f0+l+(k+m) by omega]
    exact hk'
   ·intro i hi
    dsimp only
    rw[hL,hB] at hi ⊢
    rw[e2] at hi
    rw[e1]
    have hdl:((ys.drop k).drop (B*(m/B))).length=m%B:=by simp;omega
    rw[if_pos ⟨Nat.zero_le _,by omega⟩]
    have h5:=(Vq (ys.drop k) (B*(m/B)) i).trans (Vq ys k (B*(m/B)+i))
    rw[show B*(l/B+1+m/B)+i=l+(k+(B*(m/B)+i)) by rw[Nat.mul_add,Nat.mul_add];omega,hZr,←h5]
    rfl
theorem Jo:(Tryz.prog.info? 147).map (·.size)=some 64:=by kernel_rfl
def X8 (ws:Nat) (s:Zb) (k:Nat):Int:=if k<8*ws then fnz s.list (k/ws)/256^(ws-1-k%ws)%256 else 0
def Zh (ws:Nat) (s:Zb):List Value:=(List.range 64).map fun k=>.int .u8 (X8 ws s k)
theorem Z4 (ws:Nat) (s:Zb):(Zh ws s).length=64:=by simp [Zh]
theorem Y9 (ws:Nat) (s:Zb):(Zh ws s).toArray.size=64:=by simp [Zh]
theorem Qv (ws:Nat) (s:Zb):(Zh ws s).toArray.all (·.oneCell')=true:=all_oneCell_toArray (by
 intro v hv
 simp only[Zh,List.mem_map] at hv
 obtain ⟨z,_,rfl⟩:=hv
 rfl)
theorem Sr {w:World} {b k N:Nat} {F G:Nat→Int} (h:∀ j,j<N→w.cell? ⟨b,j,none⟩=some (.int .u8 (F j))) (hk:k<N) (u:Int) (hu:u=G k) (hFG:∀ j,j<N→j≠k→F j=G j) :
  ∀ j,j<N→(w.setCell ⟨b,k,none⟩ (.int .u8 u)).cell? ⟨b,j,none⟩=some (.int .u8 (G j)):=by
 intro j hj
 by_cases e:j=k
 ·subst e
  rw[World.cell?_setCell_same' _ _ _ (by rw[h j hj];rfl),hu]
 ·have:=World.cell?_setCells_out b [.int .u8 u] k w ⟨b,j,none⟩ (fun _ _=>by show j<k∨k+1≤j;omega)
  rw[←hFG j hj e,←h j hj]
  exact this
theorem Qf (w:World) (C D:Array Value) (t u:TypeId) (n:Nat) (hn:n≤D.size):((w.alloc (.cells C t)).alloc (.cells D u)).there (w.heap.size+1) 0 n:=by
 have:=Zi (w.alloc (.cells C t)) D u n hn
 simpa using this
theorem Se (w:World) (C D:Array Value) (t u:TypeId) (k:Nat):((w.alloc (.cells C t)).alloc (.cells D u)).cell? ⟨w.heap.size+1,k,none⟩=D[k]?:=
 World.cell?_alloc_at D u _ _ (by simp)
theorem Gj (n k:Nat) (hk:k<n):(List.replicate n (Value.int .u8 0)).toArray[k]?=some (.int .u8 0):=by simp [hk]
theorem Zx {fn:Func} {p:Tmp} {ty:TypeId} (h:fn.results=#[.cell p ty]) (tmps:Array Value) (P:Program) (w:World) :
  (results fn tmps).run P w=((asAddr (tmps.getD p undef)).run P w).andThen fun a w₁=>(loadVar ty a).run P w₁:=by
 simp only[results,h]
 simp [Sem.run_bind,Result.andThen]
theorem S8 (x:Int) (e:Nat):x/256^e/256=x/256^(e+1):=by
 rw[Int.pow_succ,Int.ediv_ediv_of_nonneg]
 exact Int.pow_nonneg (by omega)
set_option maxHeartbeats 3200000 in
set_option maxRecDepth 100000 in
theorem Mo (g o:Nat) (h:Int) (s:Zb) (half:Nat→Int) (fed:Nat) (w:World) (hblk:Yd h=64) (HK:Hid (TK w g o h false s half fed)) :
  Calls Tryz.prog 96 #[.pointer (some ⟨g,o,none⟩)] w fun e w'=>e=.returned (.agg (Zh 4 s).toArray)∧Below w.heap.size w w':=by
 have c0:=HK.out.hash
 have c2:w.cell? ⟨g,o+2,none⟩=some (.int .u64 s.a):=HK.out.st 0 _ rfl
 have c3:w.cell? ⟨g,o+2+1,none⟩=some (.int .u64 s.b):=HK.out.st 1 _ rfl
 have c4:w.cell? ⟨g,o+2+2,none⟩=some (.int .u64 s.c):=HK.out.st 2 _ rfl
 have c5:w.cell? ⟨g,o+2+3,none⟩=some (.int .u64 s.d):=HK.out.st 3 _ rfl
 have c6:w.cell? ⟨g,o+2+4,none⟩=some (.int .u64 s.e):=HK.out.st 4 _ rfl
 have c7:w.cell? ⟨g,o+2+5,none⟩=some (.int .u64 s.f):=HK.out.st 5 _ rfl
 have c8:w.cell? ⟨g,o+2+6,none⟩=some (.int .u64 s.g):=HK.out.st 6 _ rfl
 have c9:w.cell? ⟨g,o+2+7,none⟩=some (.int .u64 s.k):=HK.out.st 7 _ rfl
 have hgw:g<w.heap.size:=lt_of_cell c0
 go_enter Tryz.func96,Tryz.ntmps96
 go_wp2_with (first | (go_at_call 91;refine (Xa _ _).mono ?_;rintro e1 w1 ⟨rfl,hw1⟩;obtain rfl:=hw1.symm;rw[hblk]))
 clear c2 c3 c4 c5 c6 c7 c8 c9 c0
 go_loopw [18] (fun v wr=>∃ i:Nat,i≤8∧v=.int .i64 i∧Hid (Below w.heap.size w wr)∧Hid (wr.there w.heap.size 0 64∧wr.there (w.heap.size+1) 0 64)∧Hid (∀ k,k<64→wr.cell? ⟨w.heap.size+1,k,none⟩=some (.int .u8 (if k<4*i then X8 4 s k else 0)))) (fun v _=>8-(intOf v).toNat)
 case atStart=>
  refine ⟨0,by omega,rfl,?_,⟨?_,?_⟩,?_⟩
  ·exact ((Below.refl _ _).alloc (Nat.le_refl _) _).alloc (by simp) _
  ·exact World.there_alloc (Zi w _ 147 64 (by decide)) _
  ·exact Qf w _ _ 147 147 64 (by decide)
  ·intro k hk
   rw[if_neg (by omega)]
   exact (Se w _ _ 147 147 k).trans (Gj 64 k hk)
 case round=>
  obtain ⟨i,hi,rfl,HB,HN,HF⟩:=hrel
  by_cases h8:i<8
  ·have hidx:(Instr.index 138 (.agg #[.int .u64 s.a,.int .u64 s.b,.int .u64 s.c,.int .u64 s.d,.int .u64 s.e,.int .u64 s.f,.int .u64 s.g,.int .u64 s.k]) (.int .i64 i)).run Tryz.prog wr=.ok (.int .u64 (fnz s.list i)) wr:=by
    have:i=0∨i=1∨i=2∨i=3∨i=4∨i=5∨i=6∨i=7:=by omega
    rcases this with rfl | rfl | rfl | rfl | rfl | rfl | rfl | rfl<;>rfl
   go_wp2
   go_loopw [6,7] (fun x v wr=>∃ m:Nat,m≤4∧v=.int .i64 ((m:Int)-1)∧x=.int .u64 (fnz s.list i/256^(4-m))∧Hid (Below w.heap.size w wr)∧Hid (wr.there w.heap.size 0 64∧wr.there (w.heap.size+1) 0 64)∧Hid (∀ k,k<64→wr.cell? ⟨w.heap.size+1,k,none⟩=some (.int .u8 (if k<4*i∨(4*i+m≤k∧k<4*i+4) then X8 4 s k else 0)))) (fun _ v _=>(intOf v+1).toNat)
   case atStart=>
    refine ⟨4,by omega,rfl,by simp,HB,HN,fun k hk=>?_⟩
    rw[HF.out k hk]
    by_cases hk1:k<4*i
    ·rw[if_pos hk1,if_pos (.inl hk1)]
    ·rw[if_neg hk1,if_neg (by omega)]
   case round=>
    obtain ⟨m,hm,rfl,rfl,HB2,HN2,HF2⟩:=hrel
    clear HB HN HF hidx
    by_cases hm0:0<m
    ·obtain ⟨m',rfl⟩:∃ m',m=m'+1:=⟨m-1,by omega⟩
     rw[show ((m'+1:Nat):Int)-1=(m':Int) by omega]
     have e1:((i:Int)*4+(m':Int)).toNat=4*i+m':=by omega
     have fw:wr.frozen? ⟨w.heap.size+1,4*i+m',none⟩=false:=by simpa using (HN2.out.2 (4*i+m') (by omega)).2
     have fc:=HF2.out (4*i+m') (by omega)
     generalize hX:fnz s.list i/256^(4-(m'+1))=X at *
     go_wp2
     go_roundw
     case rel=>
      refine ⟨m',by omega,rfl,?_,HB2.out.setCell (by show _≤w.heap.size+1;omega) _,⟨World.there_setCells HN2.out.1 _ _ [_],World.there_setCells HN2.out.2 _ _ [_]⟩,?_⟩
      ·rw[←hX,S8,show 4-(m'+1)+1=4-m' by omega]
      ·refine Sr HF2.out (by omega) _ ?_ ?_
       ·rw[if_pos (.inr ⟨Nat.le_refl _,by omega⟩),X8,if_pos (by omega),show (4*i+m')/4=i by omega,show (4*i+m')%4=m' by omega,show 4-1-m'=4-(m'+1) by omega,hX]
       ·intro j hj hne
        by_cases hc:j<4*i∨(4*i+(m'+1)≤j∧j<4*i+4)
        ·rw[if_pos hc,if_pos (by omega)]
        ·rw[if_neg hc,if_neg (by omega)]
     case measure=>simp [intOf]
    ·obtain rfl:m=0:=by omega
     go_wp2
     go_roundw
     case rel=>
      refine ⟨i+1,by omega,by go_num,HB2,HN2,fun k hk=>?_⟩
      rw[HF2.out k hk]
      by_cases hc:k<4*(i+1)
      ·rw[if_pos hc,if_pos (by omega)]
      ·rw[if_neg hc,if_neg (by omega)]
     case measure=>simp [intOf];omega
  ·obtain rfl:i=8:=by omega
   have HR:Hid (wr.rangeAt (w.heap.size+1) 0 (Zh 4 s)):=fun j v hv=>by
    have hj:j<64:=by
     by_cases hj:j<(Zh 4 s).length
     ·rwa [Z4] at hj
     ·rw[List.getElem?_eq_none (by omega)] at hv;cases hv
    rw[Nat.zero_add,HF.out j hj]
    simp only[Zh,List.getElem?_map,List.getElem?_range hj,Option.map_some,Option.some.injEq] at hv
    rw[←hv]
    by_cases hc:j<4*8
    ·rw[if_pos hc]
    ·rw[if_neg hc,X8,if_neg (by omega)]
   have HY:Hid (wr.there w.heap.size 0 (Zh 4 s).toArray.size):=by rw[Y9];exact HN.out.1
   have HZ:Hid ((Tryz.prog.info? 147).map (·.size)=some (Zh 4 s).toArray.size):=by rw[Y9];exact Jo
   go_wp2_with (first
    | (refine wpList_load_mid (by rfl) 147 (.tmp 3) (by rfl) (w.heap.size+1) 0 (by rfl) (Zh 4 s) _ HR.out Tryz.underlying147 rfl (by rw[Z4];exact Jo) ?_)
    | (refine wpList_store_mid (by rfl) 147 (.tmp 2) (.tmp 39) (by rfl) w.heap.size 0 (Zh 4 s).toArray (by rfl) (by rfl) HY.out HZ.out (Qv 4 s) ?_)
    | fail)
   have hl:=run_loadVar_mid (P:=Tryz.prog) (wr.setCells w.heap.size 0 (Zh 4 s)) w.heap.size 0 147 (Zh 4 s) _ (World.rangeAt_setCells_same wr w.heap.size 0 (Zh 4 s) (by rw[Z4];exact HN.out.1)) Tryz.underlying147 rfl (by rw[Z4];exact Jo)
   refine bodyPost_ret (v:=.agg (Zh 4 s).toArray) ?_ rfl ⟨rfl,below_setCells _ (Nat.le_refl _) _ _ _ HB.out⟩
   rw[Zx Tryz.results96]
   simp [Act.put,asAddr,hl]
def Fu (w:World) (g:Nat) (v:Value) (yss:List (List Int)):Prop:=
 ∃ a c,v=.slice a yss.length c∧yss.length≤c∧c≤maxLen∧(yss=[]∨∃ b p,a=some ⟨b,p,none⟩∧b≠g∧∀ i,i<yss.length→∃ x,w.cell? ⟨b,p+i,none⟩=some x∧Zf w x (yss.getD i [])∧(yss.getD i []≠[]→∀ b' off l c',x=.slice (some ⟨b',off,none⟩) l c'→b'≠g))
theorem Co (yss:List (List Int)) (k:Nat) (hk:k<yss.length):(yss.take (k+1)).flatten=(yss.take k).flatten++yss.getD k []:=by
 rw[List.take_add_one,List.flatten_append]
 simp [List.getD,hk]
theorem So (yss:List (List Int)) (k:Nat):(yss.take k).flatten.length≤yss.flatten.length:=by
 have:=congrArg List.length (congrArg List.flatten (List.take_append_drop k yss))
 rw[List.flatten_append,List.length_append] at this
 omega
theorem U6 (wd:Bool) (g o:Nat) (h:Int) (s0:Zb) (f0:Nat) (zs ys:List Int) (v:Value) (w:World) (hblk:Yd h=bsz wd∧wd=false) (hr:Rep w g o h wd s0 f0 zs) (hv:Zf w v ys) (hap:ys≠[]→Apart v g o 139) (hT:Tables w) (hg:6≤g) (hfn:f0+zs.length+ys.length≤4611686018427387904) :
  Calls Tryz.prog 95 #[.pointer (some ⟨g,o,none⟩),v] w fun e w'=>e=.returned (.tuple #[])∧Touch w w' g o 139∧Rep w' g o h wd s0 f0 (zs++ys):=by
 by_cases hys:ys=[]
 ·subst hys
  obtain ⟨half,hk,hh,hf⟩:=hr
  obtain ⟨a,cap,rfl,h1,h2,h3,h4⟩:=hv
  refine (Kr wd g o h _ half _ cap a w hblk hk (by simpa using hfn) (by unfold maxLen at h2;omega) h3).mono ?_
  rintro e w' ⟨rfl,ht,hk'⟩
  rw[List.append_nil]
  exact ⟨rfl,ht,half,hk',hh,hf⟩
 ·exact Ii wd g o h s0 f0 zs ys v w hblk hr hv (hap hys) hT hg hfn
set_option maxHeartbeats 1600000 in
set_option maxRecDepth 100000 in
theorem Br (g o:Nat) (fed left c:Nat) (a:Option Addr) (most:Int) (w:World) (c1:w.cell? ⟨g,o+138,none⟩=some (.int .u64 fed)) (hm:most-(fed:Int)=(left:Int)) (hmm:fed+left≤4611686018427387904) (hc:c≤9223372036854775807) :
  Calls Tryz.prog 57 #[.pointer (some ⟨g,o,none⟩),.int .u64 most,.slice a 0 c] w fun e w'=>e=.returned (.int .i64 0)∧w'=w:=by
 have hl2:(left:Int)<18446744073709551616:=by omega
 go_enter Tryz.func57,Tryz.ntmps57
 go_wp2
 go_loop [20,7] (fun i l=>i=.int .i64 0∧l=.int .u64 left) (fun _ _=>0)
 case atStart=>exact ⟨rfl,rfl⟩
 case round=>
  obtain ⟨rfl,rfl⟩:=hrel
  go_wp2
  go_loop [37] (fun i=>i=.int .i64 0) (fun _=>0)
  case atStart=>exact rfl
  case round=>
   obtain rfl:=hrel
   go_wp2
   go_ret
   exact ⟨rfl,rfl⟩
set_option maxHeartbeats 3200000 in
set_option maxRecDepth 100000 in
theorem Bq (wd:Bool) (g o:Nat) (h:Int) (s0:Zb) (f0 n c b p:Nat) (zs:List Int) (yss:List (List Int)) (fed left:Nat) (most:Int) (w:World) (hblk:Yd h=bsz wd∧wd=false) (hr:Hid (Rep w g o h wd s0 f0 zs)) (hT:Hid (Tables w)) (hg:6≤g)
  (c1:w.cell? ⟨g,o+138,none⟩=some (.int .u64 fed)) (hfed:Hid (fed=f0+zs.length)) (hm:most-(fed:Int)=(left:Int)) (hmm:fed+left≤4611686018427387904) (hn:Hid (yss.length=n)) (hnc:n≤c) (hc:c≤9223372036854775807) (hbg:Hid (b≠g))
  (hx:Hid (∀ i,i<n→∃ x,w.cell? ⟨b,p+i,none⟩=some x∧Zf w x (yss.getD i [])∧(yss.getD i []≠[]→∀ b' off l c',x=.slice (some ⟨b',off,none⟩) l c'→b'≠g))) (hs:Hid (yss.flatten.length≤left)) :
  Calls Tryz.prog 57 #[.pointer (some ⟨g,o,none⟩),.int .u64 most,.slice (some ⟨b,p,none⟩) n c] w fun e w'=>e=.returned (.int .i64 0)∧Touch w w' g o 139∧Rep w' g o h wd s0 f0 (zs++yss.flatten):=by
 have hl2:(left:Int)<18446744073709551616:=by omega
 go_enter Tryz.func57,Tryz.ntmps57
 go_wp2
 go_loop [20,7] (fun i l=>∃ k r:Nat,k≤n∧i=.int .i64 k∧l=.int .u64 r∧Hid (r+(yss.take k).flatten.length=left)) (fun i _=>n-(intOf i).toNat)
 case atStart=>exact ⟨0,left,by omega,rfl,rfl,(by show _=_;simp)⟩
 case round=>
  obtain ⟨k,r,hk,rfl,rfl,HR⟩:=hrel
  by_cases hlt:k<n
  ·obtain ⟨x,hcx,hvx,hax⟩:=hx.out k hlt
   obtain ⟨a,cap,rfl,h1,h2,h3,h4⟩:=hvx
   have hst:=Co yss k (by rw[hn.out];exact hlt)
   have hle:=So yss (k+1)
   obtain ⟨l,hl⟩:∃ l,(yss.getD k []).length=l:=⟨_,rfl⟩
   rw[hl] at hcx h1
   obtain ⟨r2,hr2⟩:∃ r2,r=r2+l:=⟨r-l,by
    have h5:=HR.out
    have h6:=hs.out
    rw[hst,List.length_append,hl] at hle
    omega⟩
   have HR2:Hid (r2+(yss.take (k+1)).flatten.length=left):=by
    show _=_
    rw[hst,List.length_append,hl]
    have:=HR.out
    omega
   have hrl:(r:Int)<18446744073709551616:=by have:=HR.out;omega
   have e1:(r:Int)-(l:Int)=(r2:Int):=by omega
   have e2:(l:Int)≤(r:Int):=by omega
   have e3:(r2:Int)<18446744073709551616:=by omega
   have e4:(l:Int)<18446744073709551616:=by omega
   unfold maxLen at h2
   have e5:(k:Int)<n:=by omega
   clear hst hle hr2 HR h3 h4 hl hax
   go_upto_region 4 with fail
   go_upto_region 5 with fail
   have e2':¬ ((r:Int)<(l:Int)):=by omega
   have HE1:Hid ((r:Int)-(l:Int)=(r2:Int)):=e1
   have hkb:(k:Int)<9223372036854775807:=by omega
   clear hc hmm hl2 c1 hcx hnc hm hg h1 h2 hblk e2 e1
   go_wp2
   go_round
   case rel=>exact ⟨k+1,r2,by omega,by go_num,by rw[HE1.out],HR2⟩
   case measure=>simp [intOf];omega
  ·obtain rfl:k=n:=by omega
   clear hlt HR
   go_wp2
   go_loopw [37] (fun i wr=>∃ q:Nat,q≤k∧i=.int .i64 q∧Hid (Touch w wr g o 139)∧Hid (Rep wr g o h wd s0 f0 (zs++(yss.take q).flatten))) (fun i _=>k-(intOf i).toNat)
   case atStart=>exact ⟨0,by omega,rfl,Touch.refl _ _ _ _,(by show Rep _ _ _ _ _ _ _ _;simpa using hr.out)⟩
   case round=>
    obtain ⟨q,hq,rfl,HT,HP⟩:=hrel
    by_cases hlt:q<k
    ·obtain ⟨x,hcx,hvx,hax⟩:=hx.out q hlt
     have hst:=Co yss q (by rw[hn.out];exact hlt)
     have hle:=So yss (q+1)
     have hbw:b<w.heap.size:=lt_of_cell hcx
     have hcx':wr.cell? ⟨b,p+q,none⟩=some x:=by rw[HT.out.far (p:=⟨b,p+q,none⟩) hbw hbg.out];exact hcx
     have hap:yss.getD q []≠[]→Apart x g o 139:=fun h0 b' off l c' e=>.inl (hax h0 b' off l c' e)
     have hvw:Zf wr x (yss.getD q []):=by
      by_cases h0:yss.getD q []=[]
      ·obtain ⟨a,cap,e,h1,h2,h3,h4⟩:=hvx
       exact ⟨a,cap,e,h1,h2,h3,.inl h0⟩
      ·exact HT.out.view hvx (hap h0)
     have HA:Hid (Calls Tryz.prog 95 #[.pointer (some ⟨g,o,none⟩),x] wr fun e w'=>e=.returned (.tuple #[])∧Touch wr w' g o 139∧Rep w' g o h wd s0 f0 (zs++(yss.take (q+1)).flatten)):=by
      have:=U6 wd g o h s0 f0 (zs++(yss.take q).flatten) (yss.getD q []) x wr hblk HP.out hvw hap (hT.out.touch HT.out hg) hg (by
       rw[hst] at hle
       have h5:=hfed.out
       have h6:=hs.out
       simp only[List.length_append] at hle ⊢
       omega)
      rw[List.append_assoc,←hst] at this
      exact this
     have e5:(q:Int)<k:=by omega
     clear hvx hst hle hcx hap hax hvw
     go_wp2_with (first | (go_at_call 95;refine HA.out.mono ?_;rintro e3 w3 ⟨rfl,ht3,hp3⟩) | fail)
     have HT3:Hid (Touch w w3 g o 139):=HT.out.trans ht3
     have HP3:Hid (Rep w3 g o h wd s0 f0 (zs++(yss.take (q+1)).flatten)):=hp3
     clear ht3 hp3 HA HT HP
     go_wp2
     go_roundw
     case rel=>exact ⟨q+1,by omega,by go_num,HT3,HP3⟩
     case measure=>simp [intOf];omega
    ·obtain rfl:q=k:=by omega
     go_wp2
     go_ret
     refine ⟨rfl,HT,?_⟩
     have:=HP.out
     rw[List.take_of_length_le (by rw[hn.out];exact Nat.le_refl _)] at this
     exact this
theorem Le (wd:Bool) (g o:Nat) (h:Int) (s0:Zb) (f0:Nat) (zs:List Int) (yss:List (List Int)) (v:Value) (left:Nat) (most:Int) (w:World) (hblk:Yd h=bsz wd∧wd=false) (hr:Rep w g o h wd s0 f0 zs) (hp:Fu w g v yss) (hT:Tables w) (hg:6≤g)
  (hm:most=((f0+zs.length+left:Nat):Int)) (hmm:f0+zs.length+left≤4611686018427387904) (hs:yss.flatten.length≤left) :
  Calls Tryz.prog 57 #[.pointer (some ⟨g,o,none⟩),.int .u64 most,v] w fun e w'=>e=.returned (.int .i64 0)∧Touch w w' g o 139∧Rep w' g o h wd s0 f0 (zs++yss.flatten):=by
 obtain ⟨a,c,rfl,hn,hc,hx⟩:=hp
 unfold maxLen at hc
 have hc1:w.cell? ⟨g,o+138,none⟩=some (.int .u64 ((f0+zs.length:Nat):Int)):=by obtain ⟨_,hk,_⟩:=hr;exact hk.fed
 rcases hx with rfl | ⟨b,p,rfl,hb,hx⟩
 ·refine (Br g o (f0+zs.length) left c a most w hc1 (by omega) hmm hc).mono ?_
  rintro e w' ⟨rfl,rfl⟩
  exact ⟨rfl,Touch.refl _ _ _ _,by simpa using hr⟩
 ·exact Bq wd g o h s0 f0 yss.length c b p zs yss (f0+zs.length) left most w hblk hr hT hg hc1 rfl (by omega) hmm rfl hn hc hb hx hs
end Go.Proofs.YtehlppaidgkpaaaGreatDoor.Dg
