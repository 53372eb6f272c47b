import Derived.Test.YtehlppaidgkpaaaGreatDoorPart10
import Derived.Test.YtehlppaidgkpaaaGreatDoorPart02
import Derived.Deep.RegionHeld3
namespace Go.Proofs.YtehlppaidgkpaaaGreatDoor.Dg
open Go.RowKit
set_option linter.unusedVariables false
set_option linter.unusedSimpArgs false
structure TK (w:World) (g o:Nat) (h:Int) (wd:Bool) (s:Zb) (half:Nat→Int) (fed:Nat):Prop where
 hash:w.cell? ⟨g,o,none⟩=some (.int .i64 h)
 fn:w.cell? ⟨g,o+1,none⟩=some (fnV wd)
 st:w.rangeAt g (o+2) s.cells
 half:∀ i,i<128→w.cell? ⟨g,o+10+i,none⟩=some (.int .u8 (half i))
 fed:w.cell? ⟨g,o+138,none⟩=some (.int .u64 fed)
 there:w.there g o 139
theorem Zb.cells_length (s:Zb):s.cells.length=8:=rfl
theorem TK.words {w v:World} {g o:Nat} {h:Int} {wd:Bool} {s s':Zb} {half:Nat→Int} {fed:Nat} (k:TK w g o h wd s half fed) (t:Touch w v g (o+2) 8) (hr:v.rangeAt g (o+2) s'.cells):TK v g o h wd s' half fed:=
 ⟨by rw[t.cell _ (by omega)];exact k.hash,by rw[t.cell _ (by omega)];exact k.fn,hr,fun i hi=>by rw[t.cell _ (by omega)];exact k.half i hi,by rw[t.cell _ (by omega)];exact k.fed,t.there _ _ k.there⟩
theorem TK.setFed {w:World} {g o:Nat} {h:Int} {wd:Bool} {s:Zb} {half:Nat→Int} {fed:Nat} (k:TK w g o h wd s half fed) (fed':Nat) (x:Int) (hx:x=fed'):TK (w.setCell ⟨g,o+138,none⟩ (.int .u64 x)) g o h wd s half fed':=by
 subst hx
 have t:Touch w (w.setCell ⟨g,o+138,none⟩ (.int .u64 fed')) g (o+138) 1:=(Touch.refl _ _ _ _).setCell _ _ (by omega) (by omega)
 refine ⟨by rw[t.cell _ (by omega)];exact k.hash,by rw[t.cell _ (by omega)];exact k.fn,fun j v hv=>?_,fun i hi=>by rw[t.cell _ (by omega)];exact k.half i hi,World.cell?_setCell_same' _ _ _ (k.there 138 (by omega)).1,t.there _ _ k.there⟩
 have hj:j<8:=by
  by_cases hj:j<s.cells.length
  ·exact hj
  ·rw[List.getElem?_eq_none (by omega)] at hv;cases hv
 rw[t.cell _ (by omega)]
 exact k.st j v hv
theorem TK.setHalf {w:World} {g o:Nat} {h:Int} {wd:Bool} {s:Zb} {half:Nat→Int} {fed:Nat} (k:TK w g o h wd s half fed) (u:Nat) (xs:List Int) (hu:u+xs.length≤128) :
  TK (w.setCells g (o+10+u) (Za xs)) g o h wd s (fun i=>if u≤i∧i<u+xs.length then xs.getD (i-u) 0 else half i) fed∧Touch w (w.setCells g (o+10+u) (Za xs)) g o 139:=by
 have hl:=Zr xs
 have t:Touch w (w.setCells g (o+10+u) (Za xs)) g (o+10+u) xs.length:=(Touch.refl _ _ _ _).setCells _ _ (by omega) (by omega)
 refine ⟨⟨by rw[t.cell _ (by omega)];exact k.hash,by rw[t.cell _ (by omega)];exact k.fn,fun j v hv=>?_,fun i hi=>?_,by rw[t.cell _ (by omega)];exact k.fed,t.there _ _ k.there⟩,t.mono o 139 (by omega) (by omega)⟩
 ·have hj:j<8:=by
   by_cases hj:j<s.cells.length
   ·exact hj
   ·rw[List.getElem?_eq_none (by omega)] at hv;cases hv
  rw[t.cell _ (by omega)]
  exact k.st j v hv
 ·by_cases hin:u≤i∧i<u+xs.length
  ·rw[if_pos hin]
   have:=World.rangeAt_setCells_same w g (o+10+u) (Za xs) (fun j hj=>by have:=k.there (10+u+j) (by omega);rw[←Nat.add_assoc,←Nat.add_assoc] at this;exact this) (i-u) (.int .u8 (xs.getD (i-u) 0)) (by simp [Za,List.getD,List.getElem?_eq_getElem (show i-u<xs.length by omega)])
   rw[show o+10+u+(i-u)=o+10+i by omega] at this
   exact this
  ·rw[if_neg hin,t.cell _ (by omega)]
   exact k.half i hi
theorem TK.sm {w v:World} {g o:Nat} {h:Int} {wd:Bool} {s:Zb} {half:Nat→Int} {fed:Nat} (k:TK w g o h wd s half fed) (t:Sm w v):TK v g o h wd s half fed:=
 ⟨by rw[t.cell];exact k.hash,by rw[t.cell];exact k.fn,fun j v hv=>by rw[t.cell];exact k.st j v hv,fun i hi=>by rw[t.cell];exact k.half i hi,by rw[t.cell];exact k.fed,(t.touch g 0 0).there _ _ k.there⟩
theorem Sm.drew {w v:World} (h:Sm w v):Sm w v.drew:=⟨h.os,h.tape,h.output,h.heap⟩
theorem Sm.view {w v:World} {x:Value} {zs:List Int} (h:Sm w v) (hv:Zf w x zs):Zf v x zs:=hv.kept fun k _=>by rw[h.heap]
theorem Sm.tables {w v:World} (h:Sm w v) (hv:Tables w):Tables v:=hv.kept fun k _=>by rw[h.heap]
theorem Touch.view {w v:World} {g o n:Nat} (h:Touch w v g o n) {x:Value} {zs:List Int} (hv:Zf w x zs) (ha:Apart x g o n):Zf v x zs:=by
 obtain ⟨a,cap,rfl,h1,h2,h3,h4⟩:=hv
 refine ⟨a,cap,rfl,h1,h2,h3,?_⟩
 rcases h4 with rfl | ⟨b,p,rfl,hc⟩
 ·exact .inl rfl
 ·refine .inr ⟨b,p,rfl,fun i hi=>?_⟩
  exact h.outside (hc i hi) (by rcases ha _ _ _ _ rfl with e | e;exact .inl e;exact .inr (by omega))
theorem He {w:World} {b p n cap m:Nat} {zs:List Int} (hv:Zf w (.slice (some ⟨b,p,none⟩) n cap) zs) (hm:m≤n):Zf w (.slice (some ⟨b,p,none⟩) m cap) (zs.take m):=by
 obtain ⟨a,c,he,h1,h2,h3,h4⟩:=hv
 cases he
 have hl:(zs.take m).length=m:=by simp;omega
 refine ⟨some ⟨b,p,none⟩,cap,by rw[hl],by omega,h2,h3,?_⟩
 rcases h4 with rfl | ⟨b',p',e,hc⟩
 ·exact .inl (by simp)
 ·cases e
  refine .inr ⟨b,p,rfl,fun i hi=>?_⟩
  rw[hc i (by omega)]
  simp [List.getD,List.getElem?_take,show i<m by omega]
theorem V4 {w:World} {b p n cap m:Nat} {zs:List Int} (hv:Zf w (.slice (some ⟨b,p,none⟩) n cap) zs) (hm:m≤n):Zf w (.slice (if cap=m then some ⟨b,p,none⟩ else some ⟨b,p+m,none⟩) (n-m) (cap-m)) (zs.drop m):=by
 obtain ⟨a,c,he,h1,h2,h3,h4⟩:=hv
 cases he
 have hl:(zs.drop m).length=zs.length-m:=by simp
 refine ⟨_,cap-m,by rw[hl],by omega,by omega,(fun e=>by split at e<;>cases e),?_⟩
 by_cases hz:zs.length=m
 ·exact .inl (by rw[List.drop_eq_nil_iff];omega)
 ·rcases h4 with rfl | ⟨b',p',e,hc⟩
  ·exact .inl (by simp)
  ·cases e
   rw[if_neg (by omega)]
   refine .inr ⟨b,p+m,rfl,fun i hi=>?_⟩
   rw[Nat.add_assoc,hc (m+i) (by omega)]
   simp [List.getD]
theorem Kj {w:World} {g o:Nat} {h:Int} {wd:Bool} {s:Zb} {half:Nat→Int} {fed:Nat} (k:TK w g o h wd s half fed) (n:Nat) (hn:n≤128):Zf w (.slice (some ⟨g,o+10,none⟩) n 128) ((List.range n).map half):=by
 refine ⟨some ⟨g,o+10,none⟩,128,by simp,by simp;omega,by unfold maxLen;omega,(fun e=>by cases e),.inr ⟨g,o+10,rfl,fun i hi=>?_⟩⟩
 simp at hi
 rw[k.half i (by omega)]
 simp [List.getD,hi]
theorem Fp {v:Value} {g o n o' n':Nat} (h:Apart v g o n) (h1:o≤o') (h2:o'+n'≤o+n):Apart v g o' n':=fun b off l c e=>by
 rcases h b off l c e with h | h
 ·exact .inl h
 ·exact .inr (by omega)
theorem Br {w:World} {b p k n cap P:Nat} {zs:List Int} (hv:Zf w (.slice (some ⟨b,p,none⟩) (k+n) (k+cap)) zs) (hP:P=if cap=0 then p else p+k):Zf w (.slice (some ⟨b,P,none⟩) n cap) (zs.drop k):=by
 have h:=V4 hv (show k≤k+n by omega)
 rw[show k+n-k=n by omega,show k+cap-k=cap by omega] at h
 have e:(if k+cap=k then some (⟨b,p,none⟩:Addr) else some ⟨b,p+k,none⟩)=some ⟨b,P,none⟩:=by
  rw[hP]
  by_cases h0:cap=0
  ·rw[if_pos (by omega),if_pos h0]
  ·rw[if_neg (by omega),if_neg h0]
 rw[e] at h
 exact h
theorem Be {b p k n cap P g o m:Nat} (h:Apart (.slice (some ⟨b,p,none⟩) (k+n) (k+cap)) g o m) (hn:n≤cap) (hP:P=if cap=0 then p else p+k):Apart (.slice (some ⟨b,P,none⟩) n cap) g o m:=fun b' off l c e=>by
 injection e with e1 e2 e3
 injection e1 with e1
 injection e1 with e4 e5
 subst e4 e5 e2 e3
 rcases h _ _ _ _ rfl with h | h
 ·exact .inl h
 ·right
  subst hP
  split<;>omega
theorem Fo {b p n cap m g o k:Nat} (h:Apart (.slice (some ⟨b,p,none⟩) n cap) g o k) (hm:m≤n):Apart (.slice (some ⟨b,p,none⟩) m cap) g o k:=fun b' off l c e=>by
 cases e
 rcases h _ _ _ _ rfl with h | h
 ·exact .inl h
 ·exact .inr (by omega)
theorem Q7 {w:World} {a:Option Addr} {n c:Nat} {zs:List Int} (hv:Zf w (.slice a n c) zs):zs.length=n∧n≤c∧c≤9223372036854775807:=by
 obtain ⟨_,_,e,h1,h2,_⟩:=hv
 injection e with e1 e2 e3
 unfold maxLen at h2
 omega
theorem Kq (w:World) (g o dl dc:Nat) (x:Option Addr) (m c k:Nat) (xs:List Int) (hk:k=min m dl) (hv:Zf w (.slice x m c) xs) (ht:w.there g o k) :
  (Builtin.copy_ #[22,22] 3 #[.slice (some ⟨g,o,none⟩) dl dc,.slice x m c]).run Tryz.prog w=.ok (.int .i64 k) (w.setCells g o (Za (xs.take k))):=by
 obtain ⟨a,cap,he,h1,h2,h3,h4⟩:=hv
 cases he
 have hl:(Za (xs.take k)).length=k:=by rw[Zr];simp;omega
 by_cases h0:k=0
 ·subst h0
  exact run_copy_none (P:=Tryz.prog) w 22 22 3 5 (some ⟨g,o,none⟩) x dl dc xs.length c Tryz.underlying22 (by kernel_rfl) (by show min _ _=0;omega)
 ·rcases h4 with rfl | ⟨b,p,rfl,hc⟩
  ·exfalso;simp at hk;omega
  ·have:=run_copy_cells (P:=Tryz.prog) w 22 22 3 5 g o dl dc ⟨b,p,none⟩ xs.length c (Za (xs.take k)) Tryz.underlying22 (by kernel_rfl) (by rw[hl];show k=min _ _;omega) (by
    refine Q2 (xs.take k) w b p fun i hi=>?_
    rw[hc i (by simp at hi;omega)]
    simp at hi
    simp [List.getD,List.getElem?_take,show i<k by omega]) (fun j hj=>(ht j (by omega)).1) (fun j hj=>(ht j (by omega)).2) (by
    intro v hv
    simp only[Za,List.mem_map] at hv
    obtain ⟨z,_,rfl⟩:=hv
    rfl)
   rw[hl] at this
   exact this
set_option maxHeartbeats 3200000 in
set_option maxRecDepth 100000 in
theorem Mf (g o:Nat) (h:Int) (s:Zb) (half:Nat→Int) (fed n wh cap b p:Nat) (zs:List Int) (w:World) (hblk:Z6 h=64) (HK:Hid (TK w g o h false s half fed)) (hn:Hid (zs.length=n)) (hfn:fed+n≤4611686018427387904)
  (hv:Hid (Zf w (.slice (some ⟨b,p,none⟩) n cap) zs)) (hsep:Hid (Apart (.slice (some ⟨b,p,none⟩) n cap) g o 139)) (hT:Hid (Tables w)) (hg:6≤g) (h0:Hid (fed%64=0)) (hq:Hid (n=wh+n%64)) :
  Calls Tryz.prog 95 #[.pointer (some ⟨g,o,none⟩),.slice (some ⟨b,p,none⟩) n cap] w fun e w'=>e=.returned (.tuple #[])∧Touch w w' g o 139∧TK w' g o h false (TT false (fun i=>(zs.take wh).getD i 0) s (wh/64)) (fun i=>if 0≤i∧i<0+(zs.drop wh).length then (zs.drop wh).getD (i-0) 0 else half i) (fed+n):=by
 have c0:=HK.out.hash
 have c138:=HK.out.fed
 have f138:w.frozen? ⟨g,o+138,none⟩=false:=(HK.out.there 138 (by omega)).2
 have hgw:g<w.heap.size:=lt_of_cell c0
 have r0:((fed:Int)%64)=0:=by have:=h0.out;omega
 have r1:((n:Int)-(n:Int)%64)=(wh:Int):=by have:=hq.out;omega
 have hwn:(wh:Int)≤(n:Int):=by have:=hq.out;omega
 have hnc:n≤cap:=by have:=Q7 hv.out;omega
 have hwc:(wh:Int)≤(cap:Int):=by omega
 have hw0:(0:Int)≤(wh:Int):=by omega
 have hcm:cap≤9223372036854775807:=(Q7 hv.out).2.2
 go_enter Tryz.func95,Tryz.ntmps95
 go_wp2_with (first | (go_at_call 91;refine (Xa _ _).mono ?_;rintro e1 w1 ⟨rfl,hw1⟩;obtain rfl:=hw1.symm;rw[hblk]))
 have HT1:Hid (Touch w (w.setCell ⟨g,o+138,none⟩ (.int .u64 (fed+n))) g o 139):=(Touch.refl _ _ _ _).setCell _ _ (by omega) (by omega)
 have HK1:Hid (TK (w.setCell ⟨g,o+138,none⟩ (.int .u64 (fed+n))) g o h false s half (fed+n)):=HK.out.setFed _ _ (by simp)
 generalize w.setCell ⟨g,o+138,none⟩ (.int .u64 (fed+n))=w1 at HT1 HK1 ⊢
 clear c0 c138 f138
 have c1':w1.cell? ⟨g,o+1,none⟩=some (.func (.func 92) #[] #[]):=HK1.out.fn
 have HA:Hid (∀ v,Sm w1 v→Calls Tryz.prog 92 #[.pointer (some ⟨g,o+2,none⟩),.slice (some ⟨b,p,none⟩) wh cap] v fun e w'=>e=.returned (.tuple #[])∧Touch w w' g o 139∧TK w' g o h false (TT false (fun i=>(zs.take wh).getD i 0) s (wh/64)) half (fed+n)):=by
  intro v hsm
  have hs1:=HT1.out.size
  have hl:(zs.take wh).length=wh:=by have:=hn.out;simp;omega
  refine (Jh false rfl g (o+2) _ (zs.take wh) s v (by rw[hsm.heap];omega) (HK1.out.sm hsm).st (fun j hj=>by have:=(HK1.out.sm hsm).there (2+j) (by omega);rw[←Nat.add_assoc] at this;exact this) (He (hsm.view (HT1.out.view hv.out hsep.out)) (by omega)) (Fp (Fo hsep.out (by omega)) (by omega) (by omega)) (hsm.tables (hT.out.touch HT1.out hg)) hg).mono ?_
  rintro e w' ⟨rfl,ht',hr'⟩
  rw[hl] at hr'
  refine ⟨rfl,HT1.out.trans ((hsm.touch g o 139).trans (ht'.mono o 139 (by omega) (by omega))),(HK1.out.sm hsm).words ht' hr'⟩
 go_region_held3 (fun v=>v.cell? ⟨g,o+1,none⟩=some (.func (.func 92) #[] #[])) (first | go_keep | exact hk2.fn) ((go_at_call 92;refine (HA.out w1.drew (Sm.refl w1).drew).mono ?_;rintro e2 w2 ⟨rfl,ht2,hk2⟩))
 have HT2:Hid (Touch w w2 g o 139):=ht2
 have HK2:Hid (TK w2 g o h false (TT false (fun i=>(zs.take wh).getD i 0) s (wh/64)) half (fed+n)):=hk2
 obtain ⟨X,hX⟩:∃ X,X=(if cap=wh then some (⟨b,p,none⟩:Addr) else some ⟨b,p+wh,none⟩):=⟨_,rfl⟩
 have hcp:(Builtin.copy_ #[22,22] 3 #[.slice (some ⟨g,o+10,none⟩) 64 128,.slice X (n-wh) (cap-wh)]).run Tryz.prog w2.drew=.ok (.int .i64 ((n-wh:Nat):Int)) (w2.drew.setCells g (o+10) (Za ((zs.drop wh).take (n-wh)))):=by
  have hv2:=V4 (HT2.out.view hv.out hsep.out) (show wh≤n by omega)
  rw[←hX] at hv2
  refine Kq w2.drew g (o+10) 64 128 X (n-wh) (cap-wh) (n-wh) (zs.drop wh) ?_ hv2 (fun j hj=>?_)
  ·have:=hq.out;omega
  ·have:=HK2.out.there (10+j) (by have:=hq.out;omega)
   rw[←Nat.add_assoc] at this
   exact this
 rw[eq_comm] at hX
 clear ht2 hk2 HA c1' HT1 HK1
 go_wp2
 go_region
 go_wp2
 go_end0
 have hl:(zs.drop wh).length=n-wh:=by have:=hn.out;simp;omega
 have hx:=(HK2.out.sm (Sm.refl w2).drew).setHalf 0 (zs.drop wh) (by have:=hq.out;omega)
 rw[List.take_of_length_le (by omega)]
 exact ⟨rfl,(HT2.out.drew).trans hx.2,hx.1⟩
set_option maxHeartbeats 3200000 in
set_option maxRecDepth 100000 in
theorem R7 (g o:Nat) (h:Int) (s:Zb) (half:Nat→Int) (fed n used cap b p:Nat) (zs:List Int) (w:World) (hblk:Z6 h=64) (HK:Hid (TK w g o h false s half fed)) (hn:Hid (zs.length=n)) (hfn:fed+n≤4611686018427387904)
  (hv:Hid (Zf w (.slice (some ⟨b,p,none⟩) n cap) zs)) (hsep:Hid (Apart (.slice (some ⟨b,p,none⟩) n cap) g o 139)) (hg:6≤g) (h0:Hid (fed%64=used)) (hu0:0<used) (hu1:used+n<64) :
  Calls Tryz.prog 95 #[.pointer (some ⟨g,o,none⟩),.slice (some ⟨b,p,none⟩) n cap] w fun e w'=>e=.returned (.tuple #[])∧Touch w w' g o 139∧TK w' g o h false s (fun i=>if used≤i∧i<used+zs.length then zs.getD (i-used) 0 else half i) (fed+n):=by
 have c0:=HK.out.hash
 have c138:=HK.out.fed
 have f138:w.frozen? ⟨g,o+138,none⟩=false:=(HK.out.there 138 (by omega)).2
 have hgw:g<w.heap.size:=lt_of_cell c0
 have r0:((fed:Int)%64)=(used:Int):=by have:=h0.out;omega
 have hu2:(0:Int)<(used:Int):=by omega
 have hu3:(used:Int)+(n:Int)<64:=by omega
 have hu4:(used:Int)≤64:=by omega
 have HT1:Hid (Touch w (w.setCell ⟨g,o+138,none⟩ (.int .u64 (fed+n))) g o 139):=(Touch.refl _ _ _ _).setCell _ _ (by omega) (by omega)
 have HK1:Hid (TK (w.setCell ⟨g,o+138,none⟩ (.int .u64 (fed+n))) g o h false s half (fed+n)):=HK.out.setFed _ _ (by simp)
 have hcp:(Builtin.copy_ #[22,22] 3 #[.slice (some ⟨g,o+10+used,none⟩) (64-used) (128-used),.slice (some ⟨b,p,none⟩) n cap]).run Tryz.prog (w.setCell ⟨g,o+138,none⟩ (.int .u64 (fed+n)))=.ok (.int .i64 n) ((w.setCell ⟨g,o+138,none⟩ (.int .u64 (fed+n))).setCells g (o+10+used) (Za (zs.take n))):=by
  refine Kq _ g (o+10+used) _ _ _ n cap n zs (by omega) (HT1.out.view hv.out hsep.out) (fun j hj=>?_)
  have:=HK1.out.there (10+used+j) (by omega)
  rw[←Nat.add_assoc,←Nat.add_assoc] at this
  exact this
 go_enter Tryz.func95,Tryz.ntmps95
 go_wp2_with (first | (go_at_call 91;refine (Xa _ _).mono ?_;rintro e1 w1 ⟨rfl,hw1⟩;obtain rfl:=hw1.symm;rw[hblk]))
 refine bodyPost_ret (results_none rfl _ _ _) rfl ?_
 have hl:=hn.out
 rw[List.take_of_length_le (by omega)]
 have hx:=HK1.out.setHalf used zs (by omega)
 exact ⟨rfl,HT1.out.trans hx.2,hx.1⟩
set_option maxHeartbeats 3200000 in
set_option maxRecDepth 100000 in
theorem Mg (g o:Nat) (h:Int) (s:Zb) (half:Nat→Int) (fed k n wh used cap b p:Nat) (zs:List Int) (w:World) (hblk:Z6 h=64) (HK:Hid (TK w g o h false s half fed)) (hn:Hid (zs.length=k+n)) (hfn:fed+(k+n)≤4611686018427387904)
  (hv:Hid (Zf w (.slice (some ⟨b,p,none⟩) (k+n) (k+cap)) zs)) (hsep:Hid (Apart (.slice (some ⟨b,p,none⟩) (k+n) (k+cap)) g o 139)) (hT:Hid (Tables w)) (hg:6≤g) (h0:Hid (fed%64=used)) (hu0:0<used) (hu1:used+k=64) (hq:Hid (n=wh+n%64)) :
  Calls Tryz.prog 95 #[.pointer (some ⟨g,o,none⟩),.slice (some ⟨b,p,none⟩) (k+n) (k+cap)] w fun e w'=>e=.returned (.tuple #[])∧Touch w w' g o 139∧∃ s1,s1=TT false (fun i=>if used≤i∧i<used+(zs.take k).length then (zs.take k).getD (i-used) 0 else half i) s 1 ∧
   TK w' g o h false (TT false (fun i=>((zs.drop k).take wh).getD i 0) s1 (wh/64)) (fun i=>if 0≤i∧i<0+((zs.drop k).drop wh).length then ((zs.drop k).drop wh).getD (i-0) 0 else (fun i=>if used≤i∧i<used+(zs.take k).length then (zs.take k).getD (i-used) 0 else half i) i) (fed+(k+n)):=by
 have c0:=HK.out.hash
 have c138:=HK.out.fed
 have f138:w.frozen? ⟨g,o+138,none⟩=false:=(HK.out.there 138 (by omega)).2
 have hgw:g<w.heap.size:=lt_of_cell c0
 have hnc:n≤cap:=by have:=Q7 hv.out;omega
 have hcm:k+cap≤9223372036854775807:=(Q7 hv.out).2.2
 have r0:((fed:Int)%64)=(used:Int):=by have:=h0.out;omega
 have r1:((n:Int)-(n:Int)%64)=(wh:Int):=by have:=hq.out;omega
 have hwn:(wh:Int)≤(n:Int):=by have:=hq.out;omega
 have hwc:(wh:Int)≤(cap:Int):=by omega
 have hw0:(0:Int)≤(wh:Int):=by omega
 have hu2:(0:Int)<(used:Int):=by omega
 have hu3:¬ ((used:Int)+(k:Int)<64):=by omega
 have hu4:(used:Int)≤64:=by omega
 have hk0:(0:Int)≤(k:Int):=by omega
 have hk1:(k:Int)≤(k:Int)+(n:Int):=by omega
 have HT1:Hid (Touch w (w.setCell ⟨g,o+138,none⟩ (.int .u64 (fed+(k+n)))) g o 139):=(Touch.refl _ _ _ _).setCell _ _ (by omega) (by omega)
 have HK1:Hid (TK (w.setCell ⟨g,o+138,none⟩ (.int .u64 (fed+(k+n)))) g o h false s half (fed+(k+n))):=HK.out.setFed _ _ (by simp)
 have hl:(zs.take k).length=k:=by have:=hn.out;simp;omega
 have hcp:(Builtin.copy_ #[22,22] 3 #[.slice (some ⟨g,o+10+used,none⟩) (64-used) (128-used),.slice (some ⟨b,p,none⟩) (k+n) (k+cap)]).run Tryz.prog (w.setCell ⟨g,o+138,none⟩ (.int .u64 (fed+(k+n))))=.ok (.int .i64 k) ((w.setCell ⟨g,o+138,none⟩ (.int .u64 (fed+(k+n)))).setCells g (o+10+used) (Za (zs.take k))):=by
  refine Kq _ g (o+10+used) _ _ _ (k+n) _ k zs (by omega) (HT1.out.view hv.out hsep.out) (fun j hj=>?_)
  have:=HK1.out.there (10+used+j) (by omega)
  rw[←Nat.add_assoc,←Nat.add_assoc] at this
  exact this
 have hx:=HK1.out.setHalf used (zs.take k) (by omega)
 have HT2:Hid (Touch w ((w.setCell ⟨g,o+138,none⟩ (.int .u64 (fed+(k+n)))).setCells g (o+10+used) (Za (zs.take k))) g o 139):=HT1.out.trans hx.2
 have HK2:Hid (TK ((w.setCell ⟨g,o+138,none⟩ (.int .u64 (fed+(k+n)))).setCells g (o+10+used) (Za (zs.take k))) g o h false s (fun i=>if used≤i∧i<used+(zs.take k).length then (zs.take k).getD (i-used) 0 else half i) (fed+(k+n))):=hx.1
 clear hx
 obtain ⟨H2,hH2⟩:∃ H2,H2=(fun i=>if used≤i∧i<used+(zs.take k).length then (zs.take k).getD (i-used) 0 else half i):=⟨_,rfl⟩
 rw[←hH2] at HK2 ⊢
 clear hH2
 have hf0:(used:Int)<64→True:=fun _=>trivial
 go_enter Tryz.func95,Tryz.ntmps95
 go_wp2_with (first | (go_at_call 91;refine (Xa _ _).mono ?_;rintro e1 w1 ⟨rfl,hw1⟩;obtain rfl:=hw1.symm;rw[hblk]))
 generalize (w.setCell ⟨g,o+138,none⟩ (.int .u64 (fed+(k+n)))).setCells g (o+10+used) (Za (zs.take k))=w2 at HT2 HK2 hcp ⊢
 clear c0 c138 f138 hcp HT1 HK1
 have c1':w2.cell? ⟨g,o+1,none⟩=some (.func (.func 92) #[] #[]):=HK2.out.fn
 have HA:Hid (∀ v,Sm w2 v→Calls Tryz.prog 92 #[.pointer (some ⟨g,o+2,none⟩),.slice (some ⟨g,o+10,none⟩) 64 128] v fun e w'=>e=.returned (.tuple #[])∧Touch w w' g o 139∧TK w' g o h false (TT false H2 s 1) H2 (fed+(k+n))):=by
  intro v hsm
  have hs1:=HT2.out.size
  have hk':=HK2.out.sm hsm
  refine (Jh false rfl g (o+2) _ ((List.range 64).map H2) s v (by rw[hsm.heap];omega) hk'.st (fun j hj=>by have:=hk'.there (2+j) (by omega);rw[←Nat.add_assoc] at this;exact this) (Kj hk' 64 (by omega)) (fun _ _ _ _ e=>by injection e with e1 e2 e3;injection e1 with e1;injection e1 with e4 e5;omega) (hsm.tables (hT.out.touch HT2.out hg)) hg).mono ?_
  rintro e w' ⟨rfl,ht',hr'⟩
  rw[show ((List.range 64).map H2).length/bsz false=1 by simp [bsz],Y7 false (B':=H2) s 1 (fun j hj=>by simp [bsz] at hj;simp [List.getD,hj])] at hr'
  refine ⟨rfl,HT2.out.trans ((hsm.touch g o 139).trans (ht'.mono o 139 (by omega) (by omega))),hk'.words ht' hr'⟩
 go_region_held3 (fun v=>v.cell? ⟨g,o+1,none⟩=some (.func (.func 92) #[] #[])) (first | go_keep | exact hk3.fn) ((go_at_call 92;refine (HA.out w2.drew (Sm.refl w2).drew).mono ?_;rintro e3 w3 ⟨rfl,ht3,hk3⟩))
 have HT3:Hid (Touch w w3 g o 139):=ht3
 have HK3:Hid (TK w3 g o h false (TT false H2 s 1) H2 (fed+(k+n))):=hk3
 clear ht3 hk3 HA c1' HT2 HK2
 obtain ⟨s1,hs1⟩:∃ s1,s1=TT false H2 s 1:=⟨_,rfl⟩
 rw[←hs1] at HK3
 have HE1:Hid (s1=TT false H2 s 1):=hs1
 clear hs1
 obtain ⟨P,hP⟩:∃ P,P=(if cap=0 then p else p+k):=⟨_,rfl⟩
 have hX:(if cap=0 then some (⟨b,p,none⟩:Addr) else some ⟨b,p+k,none⟩)=some ⟨b,P,none⟩:=by rw[hP];split<;>rfl
 have HV3:Hid (Zf w3 (.slice (some ⟨b,P,none⟩) n cap) (zs.drop k)):=Br (HT3.out.view hv.out hsep.out) hP
 have HS3:Hid (Apart (.slice (some ⟨b,P,none⟩) n cap) g o 139):=Be hsep.out hnc hP
 have hN3:(zs.drop k).length=n:=by have:=hn.out;simp;omega
 have HN3:Hid ((zs.drop k).length=n):=hN3
 clear hN3
 clear hP
 obtain ⟨ys,hys⟩:∃ ys,ys=zs.drop k:=⟨_,rfl⟩
 rw[←hys] at HV3 HN3
 have HE2:Hid (ys=zs.drop k):=hys
 clear hys
 go_wp2
 have c1':w3.cell? ⟨g,o+1,none⟩=some (.func (.func 92) #[] #[]):=HK3.out.fn
 have HA:Hid (∀ v,Sm w3 v→Calls Tryz.prog 92 #[.pointer (some ⟨g,o+2,none⟩),.slice (some ⟨b,P,none⟩) wh cap] v fun e w'=>e=.returned (.tuple #[])∧Touch w3 w' g o 139∧TK w' g o h false (TT false (fun i=>(ys.take wh).getD i 0) s1 (wh/64)) H2 (fed+(k+n))):=by
  intro v hsm
  have hs1:=HT3.out.size
  have hk':=HK3.out.sm hsm
  have hl:(ys.take wh).length=wh:=by have:=HN3.out;simp;omega
  refine (Jh false rfl g (o+2) _ (ys.take wh) s1 v (by rw[hsm.heap];omega) hk'.st (fun j hj=>by have:=hk'.there (2+j) (by omega);rw[←Nat.add_assoc] at this;exact this) (He (hsm.view HV3.out) (by omega)) (Fp (Fo HS3.out (by omega)) (by omega) (by omega)) (hsm.tables (hT.out.touch HT3.out hg)) hg).mono ?_
  rintro e w' ⟨rfl,ht',hr'⟩
  rw[hl] at hr'
  refine ⟨rfl,(hsm.touch g o 139).trans (ht'.mono o 139 (by omega) (by omega)),hk'.words ht' hr'⟩
 go_region_held3 (fun v=>v.cell? ⟨g,o+1,none⟩=some (.func (.func 92) #[] #[])) (first | go_keep | exact hk4.fn) ((go_at_call 92;refine (HA.out w3.drew (Sm.refl w3).drew).mono ?_;rintro e4 w4 ⟨rfl,ht4,hk4⟩))
 have HT4:Hid (Touch w3 w4 g o 139):=ht4
 have HK4:Hid (TK w4 g o h false (TT false (fun i=>(ys.take wh).getD i 0) s1 (wh/64)) H2 (fed+(k+n))):=hk4
 obtain ⟨X,hX2⟩:∃ X,X=(if cap=wh then some (⟨b,P,none⟩:Addr) else some ⟨b,P+wh,none⟩):=⟨_,rfl⟩
 have hcp:(Builtin.copy_ #[22,22] 3 #[.slice (some ⟨g,o+10,none⟩) 64 128,.slice X (n-wh) (cap-wh)]).run Tryz.prog w4.drew=.ok (.int .i64 ((n-wh:Nat):Int)) (w4.drew.setCells g (o+10) (Za ((ys.drop wh).take (n-wh)))):=by
  have hv2:=V4 (HT4.out.view HV3.out HS3.out) (show wh≤n by omega)
  rw[←hX2] at hv2
  refine Kq w4.drew g (o+10) 64 128 X (n-wh) (cap-wh) (n-wh) (ys.drop wh) ?_ hv2 (fun j hj=>?_)
  ·have:=hq.out;omega
  ·have:=HK4.out.there (10+j) (by have:=hq.out;omega)
   rw[←Nat.add_assoc] at this
   exact this
 rw[eq_comm] at hX2
 clear ht4 hk4 HA c1'
 go_wp2
 go_region
 go_wp2
 go_end0
 have hl:(ys.drop wh).length=n-wh:=by have:=HN3.out;simp;omega
 have hx:=(HK4.out.sm (Sm.refl w4).drew).setHalf 0 (ys.drop wh) (by have:=hq.out;omega)
 rw[List.take_of_length_le (by omega)]
 have e1:=HE1.out
 have e2:=HE2.out
 subst e1 e2
 exact ⟨rfl,(HT3.out.trans HT4.out.drew).trans hx.2,_,rfl,hx.1⟩
end Go.Proofs.YtehlppaidgkpaaaGreatDoor.Dg
