import Derived.Test.YtehlppaidgkpaaaGreatDoorPart15
import Derived.Test.YtehlppaidgkpaaaGreatDoorPart18
import Derived.Laws.EntriesVeiled
import Derived.Deep.Cut
import Derived.Test.YtehlppaidgkpaaaGreatDoorPart22
import Derived.Deep.QuietTactic
import Derived.BigQuiet
import Derived.Test.YtehlppaidgkpaaaGreatDoorPart00
import Derived.Test.YtehlppaidgkpaaaGreatDoorPart02
import Derived.Laws.OwnMore
namespace Go.Proofs.YtehlppaidgkpaaaGreatDoor.Dg
open Go.RowKit
set_option linter.unusedVariables false
set_option linter.unusedSimpArgs false
theorem P6 (h:Int):(Ja h)[0]?=some (.int .i64 h)∧(Ja h)[1]?=some .nilFunc∧(∀ i,i<128→(Ja h)[10+i]?=some (.int .u8 0))∧(Ja h)[138]?=some (.int .u64 0):=by
 refine ⟨rfl,rfl,?_,rfl⟩
 intro i hi
 have e:(Ja h)[10+i]?=(List.replicate 128 (Value.int .u8 0)++[.int .u64 0])[i]?:=by
  rw[Ja,Vh,show 10+i=((8+i)+1)+1 by omega,List.getElem?_cons_succ,List.getElem?_cons_succ,List.getElem?_append_right (by simp),List.map_replicate]
  rw[List.length_map,List.length_replicate,show 8+i-8=i by omega]
 rw[e,List.getElem?_append_left (by rw[List.length_replicate];exact hi),List.getElem?_replicate,if_pos hi]
theorem Oz {W V:World} {L:Nat} (h:Int) (wd:Bool) (E:Zb) (hr:W.rangeAt L 0 (Ja h)) (ht:W.there L 0 139) (hb:∀ j,V.cell? ⟨L,j,none⟩=(W.setCell ⟨L,1,none⟩ (fnV wd)).cell? ⟨L,j,none⟩) (htV:V.there L 0 139) :
  (V.setCells L 2 E.cells).rangeAt L 0 (tkL h wd E (fun _=>0) 0):=by
 obtain ⟨h0,h1,h2,h3,h4⟩:=Bu h wd E (fun _=>0) 0
 obtain ⟨k0,k1,k3,k4⟩:=P6 h
 have hout:∀ j,(j<2∨10≤j)→(V.setCells L 2 E.cells).cell? ⟨L,j,none⟩=V.cell? ⟨L,j,none⟩:=fun j hj=>World.cell?_setCells_out L E.cells 2 V ⟨L,j,none⟩ (fun _ _=>by rcases hj with hj | hj;exact .inl hj;exact .inr hj)
 have hout1:∀ j,j≠1→(W.setCell ⟨L,1,none⟩ (fnV wd)).cell? ⟨L,j,none⟩=W.cell? ⟨L,j,none⟩:=fun j hj=>World.cell?_setCells_out L [fnV wd] 1 W ⟨L,j,none⟩ (fun _ _=>by show j<1∨1+1≤j;omega)
 intro j v hv
 have hj:j<139:=by
  by_cases hj:j<139
  ·exact hj
  ·rw[List.getElem?_eq_none (by rw[Qw];omega)] at hv;cases hv
 rw[Nat.zero_add]
 by_cases j0:j=0
 ·subst j0;rw[h0] at hv;cases hv;rw[hout 0 (by omega),hb,hout1 0 (by omega)];exact hr 0 _ k0
 by_cases j1:j=1
 ·subst j1;rw[h1] at hv;cases hv;rw[hout 1 (by omega),hb];exact World.cell?_setCell_same' _ _ _ (ht 1 (by omega)).1
 by_cases j2:j<10
 ·obtain ⟨i,rfl⟩:∃ i,j=2+i:=⟨j-2,by omega⟩
  rw[h2 i (by omega)] at hv
  exact World.rangeAt_setCells_same V L 2 E.cells (fun j hj=>by have:=htV (2+j) (by have:E.cells.length=8:=rfl;omega);rw[Nat.zero_add] at this;exact this) i v hv
 by_cases j3:j<138
 ·obtain ⟨i,rfl⟩:∃ i,j=10+i:=⟨j-10,by omega⟩
  rw[h3 i (by omega)] at hv
  cases hv
  rw[hout _ (by omega),hb,hout1 _ (by omega)]
  have:=hr (10+i) _ (k3 i (by omega))
  rw[Nat.zero_add] at this
  exact this
 ·obtain rfl:j=138:=by omega
  rw[h4] at hv;cases hv;rw[hout _ (by omega),hb,hout1 _ (by omega)];exact hr 138 _ k4
set_option maxHeartbeats 600000 in
set_option maxRecDepth 100000 in
theorem Dx (h:Int) (w:World) (hblk:Z6 h=64) (hfw:Hid (∀ v,Tables v→Calls Tryz.prog 94 #[.int .i64 h] v fun e w'=>e=.returned (.agg (Zq h).cells.toArray)∧Below v.heap.size v w')) (hT:Hid (Tables w)) :
  Calls Tryz.prog 56 #[.int .i64 h] w fun e w'=>e=.returned (.tuple #[.agg (tkL h false (Zq h) (fun _=>0) 0).toArray,.int .i64 0])∧Below w.heap.size w w':=by
 have e71:=Iw h
 have hz:Tryz.zeroCells141.size=139:=by rw[Vr];exact Gc
 have ht:((w.alloc (.cells Tryz.zeroCells141 141)).alloc (.cells Tryz.zeroCells141 141)).there (w.heap.size+1) 0 139:=by
  simpa using Zk (w.alloc (.cells Tryz.zeroCells141 141)) Tryz.zeroCells141 141 139 (by rw[hz];exact Nat.le_refl _)
 have HT:Hid (((w.alloc (.cells Tryz.zeroCells141 141)).alloc (.cells Tryz.zeroCells141 141)).there (w.heap.size+1) 0 139):=ht
 clear hz ht
 go_enter Tryz.func56,Tryz.ntmps56
 go_wp2_with (first
  | (refine wpList_store_mid (by rfl) 141 (.tmp 4) (.tmp 6) (by rfl) (w.heap.size+1) 0 (Ja h).toArray (by rfl) (by rfl) (by rw[Mt];exact HT.out) (by rw[Mt];exact Kz) (Sn h) ?_)
  | fail)
 refine (Xa h _).mono ?_
 rintro e w1 ⟨rfl,rfl⟩
 rw[hblk]
 have hb2:Below w.heap.size w (((w.alloc (.cells Tryz.zeroCells141 141)).alloc (.cells Tryz.zeroCells141 141)).setCells (w.heap.size+1) 0 (Ja h)):=
  below_setCells _ (by omega) _ _ _ (((Below.refl _ _).alloc (Nat.le_refl _) _).alloc (by simp) _)
 have ht2:(((w.alloc (.cells Tryz.zeroCells141 141)).alloc (.cells Tryz.zeroCells141 141)).setCells (w.heap.size+1) 0 (Ja h)).there w.heap.size 0 139:=
  World.there_setCells (World.there_alloc (Zk w Tryz.zeroCells141 141 139 (by rw[Vr,Gc];exact Nat.le_refl _)) _) _ _ _
 have ht3:(((w.alloc (.cells Tryz.zeroCells141 141)).alloc (.cells Tryz.zeroCells141 141)).setCells (w.heap.size+1) 0 (Ja h)).there (w.heap.size+1) 0 139:=World.there_setCells HT.out _ _ _
 have hr2:(((w.alloc (.cells Tryz.zeroCells141 141)).alloc (.cells Tryz.zeroCells141 141)).setCells (w.heap.size+1) 0 (Ja h)).rangeAt (w.heap.size+1) 0 (Ja h):=World.rangeAt_setCells_same _ _ _ _ (by rw[Wm];exact HT.out)
 have hs2:(((w.alloc (.cells Tryz.zeroCells141 141)).alloc (.cells Tryz.zeroCells141 141)).setCells (w.heap.size+1) 0 (Ja h)).heap.size=w.heap.size+2:=by rw[size_setCells];simp
 generalize (((w.alloc (.cells Tryz.zeroCells141 141)).alloc (.cells Tryz.zeroCells141 141)).setCells (w.heap.size+1) 0 (Ja h))=W2 at hb2 ht2 ht3 hr2 hs2 ⊢
 have HB2:Hid (Below w.heap.size w W2∧W2.there w.heap.size 0 139∧W2.there (w.heap.size+1) 0 139∧W2.rangeAt (w.heap.size+1) 0 (Ja h)∧W2.heap.size=w.heap.size+2):=⟨hb2,ht2,ht3,hr2,hs2⟩
 have c1:W2.cell? ⟨w.heap.size+1,1,none⟩=some .nilFunc:=hr2 1 _ rfl
 have f1:W2.frozen? ⟨w.heap.size+1,1,none⟩=false:=(ht3 1 (by omega)).2
 clear hb2 ht2 ht3 hr2 hs2 HT e71
 go_wp2_with (first
  | (go_at_call 94;refine (hfw.out _ ?_).mono ?_)
  | fail)
 ·exact ((hT.out.below HB2.out.1 hT.out.size).kept fun k hk=>World.heap_setCells_other W2 (w.heap.size+1) 1 [_] (by have:=hT.out.size;have:=HB2.out.2.2.2.2;omega) (by have:=hT.out.size;omega))
 rintro e5 w5 ⟨rfl,hb5⟩
 obtain ⟨E,HE⟩:∃ E:Zb,Hid (E=Zq h):=⟨_,rfl⟩
 rw[←HE.out]
 have hsz:(W2.setCell ⟨w.heap.size+1,1,none⟩ (fnV false)).heap.size=w.heap.size+2:=(size_setCells (w.heap.size+1) [fnV false] 1 W2).trans HB2.out.2.2.2.2
 have hst:=fun (b o n:Nat) (ht:W2.there b o n)=>World.there_setCells ht (w.heap.size+1) 1 [fnV false]
 have hb5':Below (w.heap.size+2) (W2.setCell ⟨w.heap.size+1,1,none⟩ (fnV false)) w5:=by rw[←hsz];exact hb5
 have hth:∀ b n,b<w.heap.size+2→W2.there b 0 n→w5.there b 0 n:=fun b n hb ht j hj=>by
  rw[hb5'.cell (p:=⟨b,0+j,none⟩) hb,hb5'.frozen (p:=⟨b,0+j,none⟩) hb]
  exact hst b 0 n ht j hj
 have HB5:Hid (Below w.heap.size w w5∧w5.there w.heap.size 0 139∧w5.there (w.heap.size+1) 0 139):=⟨(HB2.out.1.setCell (p:=⟨w.heap.size+1,1,none⟩) (by simp) _).trans (hb5'.mono (by omega)),hth _ _ (by omega) HB2.out.2.1,hth _ _ (by omega) HB2.out.2.2.1⟩
 have hr5:=Oz h false E HB2.out.2.2.2.1 HB2.out.2.2.1 (fun j=>hb5'.cell (p:=⟨w.heap.size+1,j,none⟩) (by simp)) HB5.out.2.2
 have HR5:Hid ((w5.setCells (w.heap.size+1) 2 E.cells).rangeAt (w.heap.size+1) 0 (tkL h false E (fun _=>0) 0)):=hr5
 have HX:Hid (w5.there (w.heap.size+1) 2 E.cells.toArray.size):=fun j hj=>by
  have:=HB5.out.2.2 (2+j) (by have:E.cells.toArray.size=8:=rfl;omega)
  rw[Nat.zero_add] at this
  exact this
 have HZ:Hid ((Tryz.prog.info? 138).map (·.size)=some E.cells.toArray.size):=Qy
 clear hr5 hth hb5' hst hsz hb5 HB2 c1 f1
 go_upto_region 9 with (first
  | (refine wpList_store_mid (by rfl) 138 (.tmp 18) (.tmp 17) (by rfl) (w.heap.size+1) 2 E.cells.toArray (by rfl) (by rfl) HX.out HZ.out (Xi E) ?_)
  | fail)
 have HB6:Hid (Below w.heap.size w (w5.setCells (w.heap.size+1) 2 E.cells)∧(w5.setCells (w.heap.size+1) 2 E.cells).there w.heap.size 0 139):=⟨below_setCells _ (by omega) _ _ _ HB5.out.1,World.there_setCells HB5.out.2.1 _ _ _⟩
 generalize w5.setCells (w.heap.size+1) 2 E.cells=w6 at HR5 HB6 ⊢
 obtain ⟨T,HTT⟩:∃ T:List Value,Hid (T=tkL h false E (fun _=>0) 0):=⟨_,rfl⟩
 rw[←HTT.out] at HR5
 have HLA:Hid (T.toArray.size=139):=by show _=_;rw[HTT.out];exact Bv _ _ _ _ _
 have HL:Hid (T.length=139):=by rw[HTT.out];exact Qw _ _ _ _ _
 have HY:Hid (w6.there w.heap.size 0 T.toArray.size):=by rw[HLA.out];exact HB6.out.2
 have HZ6:Hid ((Tryz.prog.info? 141).map (·.size)=some T.toArray.size):=by rw[HLA.out];exact Kz
 have HO:Hid (T.toArray.all (·.oneCell')=true):=by rw[HTT.out];exact Mn _ _ _ _ _
 clear HB5
 go_wp2_with (first
  | (refine wpList_load_mid (by rfl) 141 (.tmp 4) (by rfl) (w.heap.size+1) 0 (by rfl) T _ HR5.out Tryz.underlying141 rfl (by rw[HL.out];exact Kz) ?_)
  | (refine wpList_store_mid (by rfl) 141 (.tmp 2) (.tmp 19) (by rfl) w.heap.size 0 T.toArray (by rfl) (by rfl) HY.out HZ6.out HO.out ?_)
  | fail)
 have hl:=run_loadVar_mid (P:=Tryz.prog) (w6.setCells w.heap.size 0 T) w.heap.size 0 141 T _ (World.rangeAt_setCells_same w6 w.heap.size 0 T (by rw[HL.out];exact HB6.out.2)) Tryz.underlying141 rfl (by rw[HL.out];exact Kz)
 refine bodyPost_ret (v:=.tuple #[.agg T.toArray,.int .i64 0]) ?_ rfl ⟨by rw[HTT.out,HE.out],below_setCells _ (Nat.le_refl _) _ _ _ HB6.out.1⟩
 rw[results_cell_tmp Tryz.results56]
 simp [asAddr,hl]
def X8 (h:Int):Prop:=h=256
def Xe (h:Int):Bool:=decide (h=384∨h=512)
def Yr (h:Int):Nat:=(h/8).toNat
theorem X8.block {h:Int} (k:X8 h):Z6 h=bsz (Xe h)∧Xe h=false:=by obtain rfl:h=256:=k;exact ⟨rfl,rfl⟩
theorem Fc {h:Int} (k:X8 h) (w:World) (hT:Tables w) :
  Calls Tryz.prog 94 #[.int .i64 h] w fun e w'=>e=.returned (.agg (Zq h).cells.toArray)∧Below w.heap.size w w':=by
 obtain rfl:h=256:=k
 exact F2 w hT
theorem R5 {h:Int} (k:X8 h) (w:World) (hT:Tables w) :
  Calls Tryz.prog 56 #[.int .i64 h] w fun e w'=>e=.returned (.tuple #[.agg (tkL h (Xe h) (Zq h) (fun _=>0) 0).toArray,.int .i64 0])∧Below w.heap.size w w':=by
 have hb:=k.block.1
 have hw:=k.block.2
 rw[hw] at hb ⊢
 exact Dx h w hb (fun v hv=>Fc k v hv) hT
theorem Eo {w:World} {g o:Nat} {h:Int} {wd:Bool} {s:Zb} {half:Nat→Int} {f0:Nat} (k:TK w g o h wd s half f0) (hf:f0%bsz wd=0):Rep w g o h wd s f0 []:=
 ⟨half,by simpa [Gp] using k,fun i hi=>by simp at hi,hf⟩
theorem Za1 (h:Int) (wd:Bool) (E:Zb) (half:Nat→Int) (fed:Nat):List.foldl (fun (cs:Array Value) x=>cs.setIfInBounds x.snd x.fst) Tryz.zeroCells145 (tkL h wd E half fed).zipIdx=(tkL h wd E half fed).toArray:=by kernel_rfl
structure V1 (T:List Value):Prop where
 len:T.length=139
 one:T.toArray.all (·.oneCell')=true
 built:List.foldl (fun (cs:Array Value) x=>cs.setIfInBounds x.snd x.fst) Tryz.zeroCells145 T.zipIdx=T.toArray
theorem V1.size {T:List Value} (h:V1 T):T.toArray.size=139:=by simpa using h.len
theorem V1.info {T:List Value} (h:V1 T):(Tryz.prog.info? 141).map (·.size)=some T.toArray.size:=by rw[h.size];exact Kz
theorem Of (h:Int) (wd:Bool) (E:Zb) (half:Nat→Int) (fed:Nat):V1 (tkL h wd E half fed):=⟨Qw _ _ _ _ _,Mn _ _ _ _ _,Za1 _ _ _ _ _⟩
set_option maxHeartbeats 1600000 in
set_option maxRecDepth 100000 in
theorem To (h:Int) (w:World) (k:Hid (X8 h)) (hT:Hid (Tables w)) :
  Calls Tryz.prog 33 #[.int .i64 h] w fun e w'=>∃ g,e=.returned (.tuple #[.pointer (some ⟨g,0,none⟩),.int .i64 0])∧w.heap.size≤g∧Rep w' g 0 h (Xe h) (Zq h) 0 []∧Below w.heap.size w w':=by
 go_enter Tryz.func33,Tryz.ntmps33
 go_wp2_with (first | (go_at_call 56;refine (R5 k.out w hT.out).mono ?_))
 rintro e1 w1 ⟨rfl,hb1⟩
 obtain ⟨T,HTT⟩:∃ T:List Value,Hid (T=tkL h (Xe h) (Zq h) (fun _=>0) 0):=⟨_,rfl⟩
 rw[←HTT.out]
 have HG:Hid (V1 T):=by show V1 T;rw[HTT.out];exact Of _ _ _ _ _
 have HB1:Hid (Below w.heap.size w w1):=hb1
 have HX:Hid ((w1.alloc (.cells Tryz.zeroCells141 141)).there w1.heap.size 0 139):=Zk w1 Tryz.zeroCells141 141 139 (by rw[Vr,Gc];exact Nat.le_refl _)
 clear hb1
 go_upto_region 4 with (first
  | (refine wpList_store_mid (by rfl) 141 (.tmp 4) (.tmp 9) (by rfl) w1.heap.size 0 T.toArray (by rfl) (by rfl) (by rw[HG.out.size];exact HX.out) HG.out.info HG.out.one ?_)
  | fail)
 have HR2:Hid (((w1.alloc (.cells Tryz.zeroCells141 141)).setCells w1.heap.size 0 T).rangeAt w1.heap.size 0 T):=World.rangeAt_setCells_same _ _ _ _ (by rw[HG.out.len];exact HX.out)
 have HB2:Hid (Below w.heap.size w ((w1.alloc (.cells Tryz.zeroCells141 141)).setCells w1.heap.size 0 T)):=below_setCells _ HB1.out.size _ _ _ (HB1.out.alloc HB1.out.size _)
 generalize (w1.alloc (.cells Tryz.zeroCells141 141)).setCells w1.heap.size 0 T=w2 at HR2 HB2 ⊢
 clear HX
 have hlen:=HG.out.len
 have hfold:=HG.out.built
 go_wp2_with (first
  | (refine wpList_load_mid (by rfl) 141 (.tmp 4) (by rfl) w1.heap.size 0 (by rfl) T _ HR2.out Tryz.underlying141 rfl (by rw[HG.out.len];exact Kz) ?_)
  | fail)
 go_ret2
 have hr:=Yk w2 T.toArray 145
 have ht:=Zk w2 T.toArray 145 139 (by rw[HG.out.size];exact Nat.le_refl _)
 have hT':T=tkL h (Xe h) (Zq h) (fun _=>0) 0:=HTT.out
 refine ⟨w2.heap.size,rfl,HB2.out.size,Eo (TK.of (half:=fun _=>0) ?_ ht) (Nat.zero_mod _),HB2.out.alloc HB2.out.size _⟩
 rw[hT'] at hr ⊢
 exact hr
set_option maxHeartbeats 400000 in
theorem B3 {h:Int} (k:X8 h) (w:World):Calls Tryz.prog 97 #[.int .i64 h] w fun e w'=>e=.returned (.int .i64 (Yr h))∧w'=w:=by
 obtain rfl:h=256:=k
 go_enter Tryz.func97,Tryz.ntmps97
 go_wp2_with (first | (go_at_call 91;refine (Xa _ _).mono ?_;rintro e1 w1 ⟨rfl,hw1⟩;obtain rfl:=hw1.symm;rw[show Z6 256=64 from rfl]))
 go_ret
 exact ⟨rfl,rfl⟩
set_option maxHeartbeats 400000 in
theorem Zb9 (g:Nat) (h:Int) (w:World) (c:w.cell? ⟨g,0,none⟩=some (.int .i64 h)):Calls Tryz.prog 98 #[.pointer (some ⟨g,0,none⟩)] w fun e w'=>e=.returned (.int .i64 h)∧w'=w:=by
 go_enter Tryz.func98,Tryz.ntmps98
 go_wp2
 go_ret
 exact ⟨rfl,rfl⟩
set_option maxHeartbeats 400000 in
theorem Zb7 (g:Nat) (h:Int) (w:World) (k:Hid (X8 h)) (c:Hid (w.cell? ⟨g,0,none⟩=some (.int .i64 h))):Calls Tryz.prog 60 #[.pointer (some ⟨g,0,none⟩)] w fun e w'=>e=.returned (.int .i64 (Yr h))∧w'=w:=by
 go_enter Tryz.func60,Tryz.ntmps60
 go_wp2_with (first
  | (go_at_call 98;refine (Zb9 g h w c.out).mono ?_;rintro e1 w1 ⟨rfl,hw1⟩;obtain rfl:=hw1.symm)
  | (go_at_call 97;refine (B3 k.out _).mono ?_;rintro e1 w1 ⟨rfl,hw1⟩;obtain rfl:=hw1.symm))
 go_ret
 exact ⟨rfl,rfl⟩
set_option maxHeartbeats 800000 in
theorem O2 (g:Nat) (h:Int) (s0:Zb) (zs:List Int) (yss:List (List Int)) (v:Value) (w:World) (k:Hid (X8 h)) (hr:Hid (Rep w g 0 h (Xe h) s0 0 zs)) (hp:Hid (Hp w g v yss)) (hT:Hid (Tables w)) (hg:6≤g) (hs:Hid (zs.length+yss.flatten.length≤33554432)) :
  Calls Tryz.prog 34 #[.pointer (some ⟨g,0,none⟩),v] w fun e w'=>e=.returned (.int .i64 0)∧Touch w w' g 0 139∧Rep w' g 0 h (Xe h) s0 0 (zs++yss.flatten):=by
 have HA:Hid (Calls Tryz.prog 57 #[.pointer (some ⟨g,0,none⟩),.int .u64 33554432,v] w fun e w'=>e=.returned (.int .i64 0)∧Touch w w' g 0 139∧Rep w' g 0 h (Xe h) s0 0 (zs++yss.flatten)):=
  Lj (Xe h) g 0 h s0 0 zs yss v (33554432-zs.length) 33554432 w k.out.block hr.out hp.out hT.out hg (by have:=hs.out;omega) (by have:=hs.out;omega) (by have:=hs.out;omega)
 go_enter Tryz.func34,Tryz.ntmps34
 go_wp2_with (first | (go_at_call 57;refine HA.out.mono ?_;rintro e1 w1 ⟨rfl,ht1,hr1⟩))
 have HQ:Hid (Touch w w1 g 0 139∧Rep w1 g 0 h (Xe h) s0 0 (zs++yss.flatten)):=⟨ht1,hr1⟩
 clear ht1 hr1
 go_wp2
 go_ret
 exact ⟨rfl,HQ.out.1,HQ.out.2⟩
end Go.Proofs.YtehlppaidgkpaaaGreatDoor.Dg
namespace Go.Proofs.YtehlppaidgkpaaaGreatDoor
open Go.RowKit
set_option linter.unusedVariables false
theorem Pw:Tryz.zeroCells191.size=4611:=by kernel_rfl
theorem Zde:Tryz.prog.built 191 []=some Tryz.zeroCells191:=by kernel_rfl
theorem Mj:Tryz.zeroCells191.toList.take 2=[.slice none 0 0,.slice none 0 0]:=by kernel_rfl
theorem Py:Tryz.zeroCells191.toList.drop 4610=[.bool false]:=by kernel_rfl
theorem Gi:∀ a:Fin 256,Fu 8 0 a.1 2=Y1 a.1:=by decide +kernel
def byF:Nat→Nat→Nat
 | 1,j=>j
 | 2,j=>x2 j
 | 3,j=>x3 j
 | 9,j=>x9 j
 | 11,j=>x11 j
 | 13,j=>x13 j
 | _,j=>x14 j
def byR (r:Nat):Prop:=r=1∨r=2∨r=3∨r=9∨r=11∨r=13∨r=14
structure RkT (w:World) (g m:Nat) (v:World):Prop where
 old:Below g w v
 room:v.there g 0 4611
 lt:g<v.heap.size
 s:∀ j,j<256→v.cell? ⟨g,2+j,none⟩=some (.int .u8 (SB j:Nat))
 u:∀ j,j<256→v.cell? ⟨g,258+j,none⟩=some (.int .u8 (UB j:Nat))
 by':∀ r,byR r→∀ j,j<m→v.cell? ⟨g,514+256*r+j,none⟩=some (.int .u8 (byF r j:Nat))
 wiped:v.cell? ⟨g,4610,none⟩=some (.bool false)
theorem RkT.keep {w v v':World} {g m:Nat} (h:RkT w g m v) (hb:v'.heap[g]?=v.heap[g]?) (ho:Below g w v') (hs:v.heap.size≤v'.heap.size):RkT w g m v':=by
 have hc:∀ j,v'.cell? ⟨g,j,none⟩=v.cell? ⟨g,j,none⟩:=fun j=>World.cell?_of_block (a:=⟨g,j,none⟩) hb
 have hf:∀ j,v'.frozen? ⟨g,j,none⟩=v.frozen? ⟨g,j,none⟩:=fun j=>World.frozen?_of_block (a:=⟨g,j,none⟩) hb
 exact ⟨ho,fun j hj=>by rw[hc,hf];exact h.room j hj,Nat.lt_of_lt_of_le h.lt hs,fun j hj=>(hc _).trans (h.s j hj),fun j hj=>(hc _).trans (h.u j hj),fun r hr j hj=>(hc _).trans (h.by' r hr j hj),(hc _).trans h.wiped⟩
theorem RkT.set {w v:World} {g m:Nat} (h:RkT w g m v) (j:Nat) (x:Value) (hj:j<2):RkT w g m (v.setCell ⟨g,j,none⟩ x):=
 ⟨h.old.setCell (Nat.le_refl _) _,World.there_setCells h.room _ _ [_],by have:=h.lt;simpa [World.setCell] using this,fun i hi=>(Zc _ _ _ _ _ (by omega)).trans (h.s i hi),fun i hi=>(Zc _ _ _ _ _ (by omega)).trans (h.u i hi),fun r hr i hi=>(Zc _ _ _ _ _ (by omega)).trans (h.by' r hr i hi),(Zc _ _ _ _ _ (by omega)).trans h.wiped⟩
def Vu (v:World) (g k:Nat):World:=
 ((((((v.setCell ⟨g,770+k,none⟩ (.int .u8 (k:Nat))).setCell ⟨g,1026+k,none⟩ (.int .u8 (x2 k:Nat))).setCell ⟨g,1282+k,none⟩ (.int .u8 (x3 k:Nat))).setCell ⟨g,2818+k,none⟩ (.int .u8 (x9 k:Nat))).setCell ⟨g,3330+k,none⟩ (.int .u8 (x11 k:Nat))).setCell ⟨g,3842+k,none⟩ (.int .u8 (x13 k:Nat))).setCell ⟨g,4098+k,none⟩ (.int .u8 (x14 k:Nat))
theorem Qs (v:World) (g k j:Nat) (h:j≠770+k∧j≠1026+k∧j≠1282+k∧j≠2818+k∧j≠3330+k∧j≠3842+k∧j≠4098+k):(Vu v g k).cell? ⟨g,j,none⟩=v.cell? ⟨g,j,none⟩:=by
 unfold Vu
 rw[Zc _ _ _ _ _ (by omega),Zc _ _ _ _ _ (by omega),Zc _ _ _ _ _ (by omega),Zc _ _ _ _ _ (by omega),Zc _ _ _ _ _ (by omega),Zc _ _ _ _ _ (by omega),Zc _ _ _ _ _ (by omega)]
theorem C8 {v:World} {g o n:Nat} (k:Nat) (h:v.there g o n):(Vu v g k).there g o n:=
 World.there_setCells (World.there_setCells (World.there_setCells (World.there_setCells (World.there_setCells (World.there_setCells (World.there_setCells h _ _ [_]) _ _ [_]) _ _ [_]) _ _ [_]) _ _ [_]) _ _ [_]) _ _ [_]
theorem C9 {w v:World} {g:Nat} (k:Nat) (h:Below g w v):Below g w (Vu v g k):=
 ((((((h.setCell (Nat.le_refl _) _).setCell (Nat.le_refl _) _).setCell (Nat.le_refl _) _).setCell (Nat.le_refl _) _).setCell (Nat.le_refl _) _).setCell (Nat.le_refl _) _).setCell (Nat.le_refl _) _
theorem Ma (v:World) (g k:Nat):(Vu v g k).heap.size=v.heap.size:=by simp [Vu,World.setCell]
theorem U1 {v:World} {g k:Nat} (ht:v.there g 0 4611) (hk:k<256) (r:Nat) (hr:byR r):(Vu v g k).cell? ⟨g,514+256*r+k,none⟩=some (.int .u8 (byF r k:Nat)):=by
 unfold Vu
 rcases hr with rfl | rfl | rfl | rfl | rfl | rfl | rfl
 ·show World.cell? _ ⟨g,770+k,none⟩=_
  rw[Zc _ _ _ _ _ (by omega),Zc _ _ _ _ _ (by omega),Zc _ _ _ _ _ (by omega),Zc _ _ _ _ _ (by omega),Zc _ _ _ _ _ (by omega),Zc _ _ _ _ _ (by omega)]
  exact Yy _ ht (by omega)
 ·show World.cell? _ ⟨g,1026+k,none⟩=_
  rw[Zc _ _ _ _ _ (by omega),Zc _ _ _ _ _ (by omega),Zc _ _ _ _ _ (by omega),Zc _ _ _ _ _ (by omega),Zc _ _ _ _ _ (by omega)]
  exact Yy _ (World.there_setCells ht _ _ [_]) (by omega)
 ·show World.cell? _ ⟨g,1282+k,none⟩=_
  rw[Zc _ _ _ _ _ (by omega),Zc _ _ _ _ _ (by omega),Zc _ _ _ _ _ (by omega),Zc _ _ _ _ _ (by omega)]
  exact Yy _ (World.there_setCells (World.there_setCells ht _ _ [_]) _ _ [_]) (by omega)
 ·show World.cell? _ ⟨g,2818+k,none⟩=_
  rw[Zc _ _ _ _ _ (by omega),Zc _ _ _ _ _ (by omega),Zc _ _ _ _ _ (by omega)]
  exact Yy _ (World.there_setCells (World.there_setCells (World.there_setCells ht _ _ [_]) _ _ [_]) _ _ [_]) (by omega)
 ·show World.cell? _ ⟨g,3330+k,none⟩=_
  rw[Zc _ _ _ _ _ (by omega),Zc _ _ _ _ _ (by omega)]
  exact Yy _ (World.there_setCells (World.there_setCells (World.there_setCells (World.there_setCells ht _ _ [_]) _ _ [_]) _ _ [_]) _ _ [_]) (by omega)
 ·show World.cell? _ ⟨g,3842+k,none⟩=_
  rw[Zc _ _ _ _ _ (by omega)]
  exact Yy _ (World.there_setCells (World.there_setCells (World.there_setCells (World.there_setCells (World.there_setCells ht _ _ [_]) _ _ [_]) _ _ [_]) _ _ [_]) _ _ [_]) (by omega)
 ·show World.cell? _ ⟨g,4098+k,none⟩=_
  exact Yy _ (World.there_setCells (World.there_setCells (World.there_setCells (World.there_setCells (World.there_setCells (World.there_setCells ht _ _ [_]) _ _ [_]) _ _ [_]) _ _ [_]) _ _ [_]) _ _ [_]) (by omega)
theorem RkT.more {w v:World} {g k:Nat} (h:RkT w g k v) (hk:k<256):RkT w g (k+1) (Vu v g k):=by
 refine ⟨C9 k h.old,C8 k h.room,by rw[Ma];exact h.lt,fun j hj=>(Qs _ _ _ _ (by omega)).trans (h.s j hj),fun j hj=>(Qs _ _ _ _ (by omega)).trans (h.u j hj),fun r hr j hj=>?_,(Qs _ _ _ _ (by omega)).trans h.wiped⟩
 by_cases hjk:j=k
 ·subst hjk;exact U1 h.room hk r hr
 ·rw[Qs _ _ _ _ (by rcases hr with rfl | rfl | rfl | rfl | rfl | rfl | rfl<;>omega)]
  exact h.by' r hr j (by omega)
theorem M1 {w:World} {base e sz n g o:Nat} {v x:Value} {xs:List Value} (h:w.ownsRow base e sz v n xs) (hg:g<base):(w.setCell ⟨g,o,none⟩ x).ownsRow base e sz v n xs:=
 h.kept (row:=some g) ⟨rfl,rfl,rfl,by simp [World.setCell],fun k hk hne=>World.heap_setCells_other w g o [x] hk (fun q=>hne (by rw[q]))⟩ (by
  cases hv:v.ownBlock with
  | none=>exact .inl rfl
  | some k=>right;intro q;have:=(h.lt k hv).1;simp at q;omega)
end Go.Proofs.YtehlppaidgkpaaaGreatDoor
namespace Go.Proofs.YtehlppaidgkpaaaGreatDoor.Fd
open Go.RowKit
set_option linter.unusedVariables false
set_option linter.unusedSimpArgs false
set_option maxHeartbeats 1600000 in
set_option maxRecDepth 100000 in
theorem Pg (v:BitVec 128) (w:World):Calls Tryz.prog 182 #[.int .u64 (hiV v:Nat),.int .u64 (loV v:Nat)] w fun e w'=>e=.returned (BV (rv v))∧Below w.heap.size w w':=by
 have HA:Hid (Below w.heap.size w (w.alloc (.cells #[.int .u8 0,.int .u8 0,.int .u8 0,.int .u8 0,.int .u8 0,.int .u8 0,.int .u8 0,.int .u8 0,.int .u8 0,.int .u8 0,.int .u8 0,.int .u8 0,.int .u8 0,.int .u8 0,.int .u8 0,.int .u8 0] 27))∧(w.alloc (.cells #[.int .u8 0,.int .u8 0,.int .u8 0,.int .u8 0,.int .u8 0,.int .u8 0,.int .u8 0,.int .u8 0,.int .u8 0,.int .u8 0,.int .u8 0,.int .u8 0,.int .u8 0,.int .u8 0,.int .u8 0,.int .u8 0] 27)).there w.heap.size 0 16∧(w.alloc (.cells #[.int .u8 0,.int .u8 0,.int .u8 0,.int .u8 0,.int .u8 0,.int .u8 0,.int .u8 0,.int .u8 0,.int .u8 0,.int .u8 0,.int .u8 0,.int .u8 0,.int .u8 0,.int .u8 0,.int .u8 0,.int .u8 0] 27)).heap.size=w.heap.size+1):=⟨(Below.refl _ _).alloc (Nat.le_refl _) _,Zk w _ 27 16 (Nat.le_refl _),by simp⟩
 have KL:Hid (∀ u,Calls Tryz.prog 38 #[.int .u64 (hiV v:Nat),.int .u64 (loV v:Nat)] u fun e w'=>e=.returned (.agg (BL v).toArray)∧Below u.heap.size u w'):=fun u=>Wb v u
 have KT:Hid (∀ u,Calls Tryz.prog 217 #[.agg (BL v).toArray] u fun e w'=>e=.returned (.agg (BL (rv v)).toArray)∧Below u.heap.size u w'):=fun u=>Lp v u
 obtain ⟨hi,HH⟩:∃ x,Hid (x=hiV v):=⟨_,rfl⟩
 obtain ⟨lo,HLo⟩:∃ x,Hid (x=loV v):=⟨_,rfl⟩
 obtain ⟨L,HL⟩:∃ L,Hid (L=BL v):=⟨_,rfl⟩
 obtain ⟨LR,HLR⟩:∃ L,Hid (L=BL (rv v)):=⟨_,rfl⟩
 rw[←HH.out,←HLo.out,←HL.out] at KL
 rw[←HL.out,←HLR.out] at KT
 rw[←HH.out,←HLo.out]
 go_enter Tryz.func182,Tryz.ntmps182
 go_upto_region 1 with fail
 generalize w.alloc (.cells #[.int .u8 0,.int .u8 0,.int .u8 0,.int .u8 0,.int .u8 0,.int .u8 0,.int .u8 0,.int .u8 0,.int .u8 0,.int .u8 0,.int .u8 0,.int .u8 0,.int .u8 0,.int .u8 0,.int .u8 0,.int .u8 0] 27)=w2 at HA ⊢
 have hlr:Hid (LR.length=16):=by show _=_;rw[HLR.out];rfl
 have hor:Hid (LR.toArray.all (·.oneCell')=true):=by show _=_;rw[HLR.out];exact D5 _
 go_wp2_with (first
  | (go_at_call 38;refine (KL.out _).mono ?_;rintro e w3 ⟨rfl,hb3⟩)
  | (go_at_call 217;refine (KT.out _).mono ?_))
 rintro e w4 ⟨rfl,hb4⟩
 have HW:Hid (w4.there w.heap.size 0 LR.length∧Below w.heap.size w w4):=by
  obtain ⟨p1,p2,p3⟩:=HA.out
  have h3:=p1.trans (hb3.mono p1.size)
  have z3:=hb3.size
  have z4:=h3.size
  exact ⟨by rw[hlr.out];exact Zh (Zh p2 hb3 (by omega)) hb4 (by omega),h3.trans (hb4.mono (by omega))⟩
 clear hb3 hb4
 have hTH:=HW.out.1
 go_wp2_with (first
  | (refine wpList_store_mid (by rfl) 27 (.tmp 4) (.tmp 8) (by rfl) w.heap.size 0 LR.toArray (by rfl) (by rfl) (by simpa using hTH) (by rw[List.size_toArray,hlr.out];exact Q0) hor.out ?_))
 refine Yl LR Tryz.results182 rfl (World.rangeAt_setCells_same _ _ _ _ hTH) Tryz.underlying27 rfl (by rw[hlr.out];exact Q0) ⟨?_,Zl _ (Nat.le_refl _) _ _ _ HW.out.2⟩
 rw[HLR.out]
 rfl
end Go.Proofs.YtehlppaidgkpaaaGreatDoor.Fd
