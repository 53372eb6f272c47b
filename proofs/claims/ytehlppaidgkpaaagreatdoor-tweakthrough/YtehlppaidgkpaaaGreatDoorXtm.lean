import Derived.Test.YtehlppaidgkpaaaGreatDoorPart00
import Derived.Test.YtehlppaidgkpaaaGreatDoorPart43
import Derived.Test.YtehlppaidgkpaaaGreatDoorPart45
import Derived.Test.YtehlppaidgkpaaaGreatDoorLrm
import Derived.Test.YtehlppaidgkpaaaGreatDoorPart25
import Derived.Deep.Cut
namespace Go.Proofs.YtehlppaidgkpaaaGreatDoor
open Go.RowKit
set_option linter.unusedVariables false
set_option linter.unusedSimpArgs false
def dbN (t:BitVec 128):Nat→BitVec 128
 | 0=>t
 | j+1=>Fld.TX (dbN t j)
structure XmI (Ks:Nat→Prop) (I:World→Prop) (BX:List Value) (f:Nat→BitVec 128) (M x k:Nat) (w u:World) (j:Nat):Prop where
 inv:I u
 box:Bx u M 252 BX
 row:∃ T,Bx u x 27 (bkL f j++T)∧T.length=16*(k-j)
 gk:Gk Ks w u
 hM:w.heap.size≤M
 hx:w.heap.size≤x
 ne:M≠x
theorem XmI.grown {Ks:Nat→Prop} {I:World→Prop} {B:Nat} {BX:List Value} {f:Nat→BitVec 128} {M x k:Nat} {w u v:World} {j:Nat} (hC:Cst B Ks I) (hw:B≤w.heap.size) (h:XmI Ks I BX f M x k w u j) (hi:I v) (hk:Gk Ks u v):XmI Ks I BX f M x k w v j:=by
 obtain ⟨T,h1,h2⟩:=h.row
 exact ⟨hi,h.box.gk hk (hC.new (Nat.le_trans hw h.hM)),⟨T,h1.gk hk (hC.new (Nat.le_trans hw h.hx)),h2⟩,h.gk.trans hk,h.hM,h.hx,h.ne⟩
theorem XmI.below {Ks:Nat→Prop} {I:World→Prop} {B:Nat} {BX:List Value} {f:Nat→BitVec 128} {M x k:Nat} {w u v:World} {j:Nat} (hC:Cst B Ks I) (hw:B≤w.heap.size) (h:XmI Ks I BX f M x k w u j) (hb:Below u.heap.size u v):XmI Ks I BX f M x k w v j:=h.grown hC hw (hC.below h.inv hb) (Gk.of_below hb)
theorem XmI.put {Ks:Nat→Prop} {I:World→Prop} {B:Nat} {BX:List Value} {f:Nat→BitVec 128} {M x k:Nat} {w u v:World} {j:Nat} (hC:Cst B Ks I) (hw:B≤w.heap.size) (h:XmI Ks I BX f M x k w u j) {g:Nat} (hb:u.grownBy v (some g)) (hg:w.heap.size≤g) (g1:g≠M) (g2:g≠x):XmI Ks I BX f M x k w v j:=by
 obtain ⟨T,h1,h2⟩:=h.row
 exact ⟨hC.gb h.inv hb (Nat.le_trans hw hg),h.box.keep (hb.block M h.box.lt (fun e=>g1 (by injection e with e;exact e.symm))),⟨T,h1.keep (hb.block x h1.lt (fun e=>g2 (by injection e with e;exact e.symm))),h2⟩,h.gk.gb hb hg,h.hM,h.hx,h.ne⟩
theorem XmI.there {Ks:Nat→Prop} {I:World→Prop} {B:Nat} {BX:List Value} {f:Nat→BitVec 128} {M x k:Nat} {w u:World} {j:Nat} (hC:Cst B Ks I) (hw:B≤w.heap.size) (h:XmI Ks I BX f M x k w u j) (hj:j<k):u.there x (0+j*16) 16:=by
 obtain ⟨T,h1,h2⟩:=h.row
 intro i hi
 have hl:0+j*16+i<(bkL f j++T).length:=by rw[List.length_append,Z2,h2];omega
 exact ⟨by rw[h1.cell _ _ (List.getElem?_eq_getElem hl)];rfl,h1.frozen _⟩
theorem XmI.store {Ks:Nat→Prop} {I:World→Prop} {B:Nat} {BX:List Value} {f:Nat→BitVec 128} {M x k:Nat} {w u:World} {j:Nat} (hC:Cst B Ks I) (hw:B≤w.heap.size) (h:XmI Ks I BX f M x k w u j) (hj:j<k):XmI Ks I BX f M x k w (u.setCells x (0+j*16) (Fd.BL (f j))) (j+1):=by
 obtain ⟨T,h1,h2⟩:=h.row
 have hb:=Z5 x (Fd.BL (f j)) (0+j*16) u
 refine ⟨hC.gb h.inv hb (Nat.le_trans hw h.hx),h.box.keep (hb.block M h.box.lt (fun e=>h.ne (by injection e))),⟨T.drop 16,?_,by rw[List.length_drop,h2];omega⟩,h.gk.gb hb h.hx,h.hM,h.hx,h.ne⟩
 have q:=h1.storeAt (o:=0+j*16) (L:=Fd.BL (f j)) (by rw[Fd.Zl,List.length_append,Z2,h2];omega)
 have e:splice (bkL f j++T) (0+j*16) (Fd.BL (f j))=bkL f (j+1)++T.drop 16:=by
  simp only[splice,Fd.Zl]
  rw[Vx,List.take_append_of_le_length (by rw[Z2];omega),List.take_of_length_le (by rw[Z2];omega),List.drop_append,Z2,List.drop_of_length_le (by rw[Z2];omega),show 0+j*16+16-16*j=16 by omega]
  simp
 rw[e] at q
 exact q
set_option maxHeartbeats 3200000 in
set_option maxRecDepth 100000 in
theorem Ld {B:Nat} {Ks:Nat→Prop} {I:World→Prop} (hC:Cst B Ks I) (fn sh g2:Nat) (cs:Array Value) (hE:∀ args u,(callFunc fn args).run Tryz.prog u=.ok (.enter fn args) u) (U:BitVec 128→BitVec 128) (fi:BitVec 128) (s n k:Nat) (w:World) (hI:I w) (hn1:16*k<n+16) (hn2:n≤16*k) (hn3:n≤4096)
  (HF:∀ u,I u→Calls Tryz.prog fn (#[.int .u64 (s:Nat),.int .i64 (n:Nat)]++cs) u fun e w'=>Hid (e=.returned (Fd.BV fi)∧I w'∧Gk Ks u w'))
  (HU:DoI Ks I 188 (.pointer (some ⟨g2,0,none⟩)) U) :
  Calls Tryz.prog 230 #[.agg #[.pointer (some ⟨sh,0,none⟩),.func (.func fn) #[] cs,.pointer (some ⟨g2,0,none⟩)],.int .u64 (s:Nat),.int .i64 (n:Nat)] w fun e w'=>Hid (∃ x,e=.returned (.slice (some ⟨x,0,none⟩) k k)∧w.heap.size≤x∧Bx w' x 27 (bkL (dbN (U fi)) k)∧I w'∧Gk Ks w w'):=by
 obtain ⟨w1,hw1⟩:∃ w1,w1=w.alloc (.cells #[.pointer (some ⟨sh,0,none⟩),.func (.func fn) #[] cs,.pointer (some ⟨g2,0,none⟩)] 252):=⟨_,rfl⟩
 have hb1:Below w.heap.size w w1:=by rw[hw1];exact (Below.refl _ _).alloc (Nat.le_refl _) _
 have hB1:Bx w1 w.heap.size 252 [.pointer (some ⟨sh,0,none⟩),.func (.func fn) #[] cs,.pointer (some ⟨g2,0,none⟩)]:=by rw[hw1];exact Bx.new w 252 [.pointer (some ⟨sh,0,none⟩),.func (.func fn) #[] cs,.pointer (some ⟨g2,0,none⟩)]
 obtain ⟨f,Hf⟩:∃ f:Nat→BitVec 128,Hid (f=dbN (U fi)):=⟨_,rfl⟩
 obtain ⟨FI,HFI⟩:∃ L,Hid (L=Fd.BL fi):=⟨_,rfl⟩
 obtain ⟨N0,HN0⟩:∃ L,Hid (L=Fd.BL (f 0)):=⟨_,rfl⟩
 have HFN:Hid (∀ u,I u→Calls Tryz.prog fn (#[.int .u64 (s:Nat),.int .i64 (n:Nat)]++cs) u fun e w'=>Hid (e=.returned (.agg FI.toArray)∧I w'∧Gk Ks u w')):=fun u hu=>by rw[HFI.out];exact HF u hu
 have HUN:Hid (∀ u,I u→Calls Tryz.prog 188 #[.pointer (some ⟨g2,0,none⟩),.agg FI.toArray] u fun e w'=>Hid (e=.returned (.agg N0.toArray)∧I w'∧Gk Ks u w')):=fun u hu=>by rw[HFI.out,HN0.out,Hf.out];exact HU fi u hu
 have HDB:Hid (∀ u j,Calls Tryz.prog 24 #[.agg (Fd.BL (f j)).toArray] u fun e w'=>e=.returned (.agg (Fd.BL (f (j+1))).toArray)∧Below u.heap.size u w'):=fun u j=>by rw[Hf.out];exact Fd.Hq _ u
 obtain ⟨i0,hi0,hz0,hz1,hz2⟩:=info_parts Tryz.info29b
 have HI0:Hid (Tryz.prog.info? 27=some i0∧i0.zero=some (.agg ZZ.toArray)∧i0.size=16∧i0.bytes=16):=⟨hi0,hz0,hz1,hz2⟩
 have HLN:Hid (N0.length=16∧(∀ x∈N0,x.oneCell'=true)):=by rw[HN0.out];exact ⟨Fd.Zl _,Yh _⟩
 have e1:IntKind.i64.wrap ((n:Int)+16)=((n+16:Nat):Int):=by rw[IntKind.wrap_i64];omega
 have e1b:IntKind.i64.wrap ((n:Int)+16-1)=((n+15:Nat):Int):=by rw[IntKind.wrap_i64];omega
 have e2:IntKind.i64.wrap (((n+16:Nat):Int)-1)=((n+15:Nat):Int):=by rw[IntKind.wrap_i64];omega
 have q1:((n+15:Nat):Int).tdiv 16=(k:Int):=by rw[Int.tdiv_eq_ediv_of_nonneg (by omega)];omega
 have q1b:((n:Int)+15).tdiv 16=(k:Int):=by rw[Int.tdiv_eq_ediv_of_nonneg (by omega)];omega
 have q3b:wrap64 (k:Int)=(k:Int):=by unfold wrap64;omega
 have q3:IntKind.i64.wrap (k:Int)=(k:Int):=by rw[IntKind.wrap_i64];omega
 have q4:((n+15:Nat):Int)/16=(k:Int):=by omega
 have HK:Hid (k≤256):=(by omega:k≤256)
 have HMF:Hid (i0.bytes*k≤281474976710656∧k≤maxLen):=V8 i0.bytes k 16 (by decide) HI0.out.2.2.2 (by omega)
 have HW1:Hid (Below w.heap.size w w1∧Bx w1 w.heap.size 252 [.pointer (some ⟨sh,0,none⟩),.func (.func fn) #[] cs,.pointer (some ⟨g2,0,none⟩)]∧I w1):=⟨hb1,hB1,hC.below hI hb1⟩
 have HBW:Hid (B≤w.heap.size):=hC.size w hI
 obtain ⟨BX,HBX⟩:∃ BX:List Value,Hid (BX=[.pointer (some ⟨sh,0,none⟩),.func (.func fn) #[] cs,.pointer (some ⟨g2,0,none⟩)]):=⟨_,rfl⟩
 rw[←HBX.out] at HW1
 have HC1:Hid (∀ u b,Bx u b 252 BX→u.cell? ⟨b,1,none⟩=some (.func (.func fn) #[] cs)∧u.cell? ⟨b,2,none⟩=some (.pointer (some ⟨g2,0,none⟩))):=fun u b h=>by rw[HBX.out] at h;exact ⟨h.cell 1 _ rfl,h.cell 2 _ rfl⟩
 rw[←Hf.out]
 clear hI hn1 hn2 hn3 hb1 hB1 hi0 hz0 hz1 hz2 HF HU
 go_enter Tryz.func230,Tryz.ntmps230
 go_upto_region 1 with fail
 rw[←hw1]
 clear hw1
 obtain ⟨M,HMM⟩:∃ M,Hid (w.heap.size=M):=⟨_,rfl⟩
 rw[HMM.out] at HW1 ⊢
 obtain ⟨x,HXX⟩:∃ x,Hid (w1.heap.size=x):=⟨_,rfl⟩
 go_upto_region 2 with (first
  | (at_make;go_must (refine wpList_make_full _ rfl _ _ 237 rfl w1.heap.size 27 i0 (.agg ZZ.toArray) 16 Tryz.underlying77b HI0.out.1 HI0.out.2.1 HI0.out.2.2.1 .i64 .i64 (k:Nat) (k:Nat) k rfl rfl rfl rfl HMF.out.1 HMF.out.2 (Nat.le_refl _) ?_;intro w2 hown hgrow;have hlo:Below w1.heap.size w1 w2:=⟨hgrow.os,hgrow.tape,hgrow.output,hgrow.size,fun c hc=>hgrow.block c hc (by simp)⟩;have HX2:Hid (XmI Ks I BX f M x k w w2 0):=⟨hC.below HW1.out.2.2 hlo,HW1.out.2.1.below hlo,⟨_,by rw[←HXX.out];exact (Gy hown).1,(Gy hown).2⟩,(Gk.of_below (by rw[HMM.out];exact HW1.out.1)).below hlo,by rw[HMM.out];exact Nat.le_refl _,by rw[←HXX.out];exact HW1.out.1.size,by have:=HW1.out.2.1.lt;have:=HXX.out;omega⟩;clear hown hgrow hlo)))
 rw[HXX.out]
 clear e1 e1b e2 q1 q1b q3b q3 q4
 go_cut [8] from 15 to 22 (fun vb wx=>∃ y:Nat,vb=.pointer (some ⟨y,0,none⟩)∧Hid (XmI Ks I BX f M x k w wx 0∧Bx wx y 27 N0∧w.heap.size≤y∧y≠M∧y≠x))
 case first=>
  have HS0:Hid (XmI Ks I BX f M x k w w2.drew 0):=HX2.out.below hC HBW.out (Below.refl _ _).drew
  have hS0:=HC1.out _ _ HS0.out.box
  refine wp_region_noPanic ?_
  refine wp_region_held_drew (S:=(fun u=>u.cell? ⟨M,1,none⟩=some (.func (.func fn) #[] cs)∧u.cell? ⟨M,2,none⟩=some (.pointer (some ⟨g2,0,none⟩)))) (by kernel_rfl) (hS0) (fun _=>?_)
  refine tH 0 15 (.pointer (some ⟨M,2,none⟩)) rfl rfl (by kernel_rfl) (hS0) (Or.inl ⟨by rfl,fun w' hS'=>by first | go_simp | (obtain ⟨c1,c2⟩:=hS';go_simp) | (obtain ⟨c1,c2,c3⟩:=hS';go_simp)⟩) ?_
  try simp only[pU]
  refine tH 1 16 (.pointer (some ⟨g2,0,none⟩)) rfl rfl (by kernel_rfl) (hS0) (Or.inl ⟨by rfl,fun w' hS'=>by first | go_simp | (obtain ⟨c1,c2⟩:=hS';go_simp) | (obtain ⟨c1,c2,c3⟩:=hS';go_simp)⟩) ?_
  try simp only[pU]
  refine tH 2 17 (.pointer (some ⟨M,1,none⟩)) rfl rfl (by kernel_rfl) (hS0) (Or.inl ⟨by rfl,fun w' hS'=>by first | go_simp | (obtain ⟨c1,c2⟩:=hS';go_simp) | (obtain ⟨c1,c2,c3⟩:=hS';go_simp)⟩) ?_
  try simp only[pU]
  refine tH 3 18 (.func (.func fn) #[] cs) rfl rfl (by kernel_rfl) (hS0) (Or.inl ⟨by rfl,fun w' hS'=>by first | go_simp | (obtain ⟨c1,c2⟩:=hS';go_simp) | (obtain ⟨c1,c2,c3⟩:=hS';go_simp)⟩) ?_
  try simp only[pU]
  refine tH 4 19 (.int .u64 (s:Nat)) rfl rfl (by kernel_rfl) (hS0) (Or.inl ⟨by rfl,fun w' hS'=>by first | go_simp | (obtain ⟨c1,c2⟩:=hS';go_simp) | (obtain ⟨c1,c2,c3⟩:=hS';go_simp)⟩) ?_
  try simp only[pU]
  refine tH 5 20 (.int .i64 (n:Nat)) rfl rfl (by kernel_rfl) (hS0) (Or.inl ⟨by rfl,fun w' hS'=>by first | go_simp | (obtain ⟨c1,c2⟩:=hS';go_simp) | (obtain ⟨c1,c2,c3⟩:=hS';go_simp)⟩) ?_
  try simp only[pU]
  refine wpAnyH_ready (rs:=[6,8]) (by kernel_rfl) (by simp) ?_
  refine AllReadyH.cons rfl (fun KK hK=>?_) (AllReadyH.cons rfl (fun KK hK=>?_) AllReadyH.nil)
  · skip
    go_simp
    refine (HFN.out _ HS0.out.inv).mono ?_
    intro e w11 hh
    obtain ⟨rfl,hk,hg⟩:=hh.out
    have HS11:Hid (XmI Ks I BX f M x k w w11 0):=HS0.out.grown hC HBW.out hk hg
    clear hh hk hg
    go_wp2_with fail
    refine hK.out _ _ (HC1.out _ _ HS11.out.box) (fun _=>?_)
    clear hK KK
    try simp only[pU]
    refine wpAnyH_ready (rs:=[7,8]) (by kernel_rfl) (by simp) ?_
    refine AllReadyH.cons rfl (fun KK hK=>?_) (AllReadyH.cons rfl (fun KK hK=>?_) AllReadyH.nil)
    ·skip
     go_simp
     refine (HUN.out _ HS11.out.inv).mono ?_
     intro e w12 hh
     obtain ⟨rfl,hk,hg⟩:=hh.out
     have HS12:Hid (XmI Ks I BX f M x k w w12 0):=HS11.out.grown hC HBW.out hk hg
     clear hh hk hg
     go_wp2_with fail
     refine hK.out _ _ (HC1.out _ _ HS12.out.box) (fun _=>?_)
     clear hK KK
     try simp only[pU]
     refine wpAnyH_ready (rs:=[8]) (by kernel_rfl) (by simp) ?_
     refine AllReadyH.cons rfl (fun KK hK=>?_) AllReadyH.nil
     refine Yb rfl 8 rfl rfl ?_
     intro w13 b13 hu hb
     have HS13:Hid (XmI Ks I BX f M x k w w13 0):=by rw[hu.out];exact HS12.out.below hC HBW.out ((Below.refl _ _).alloc (Nat.le_refl _) _)
     have HZ13:Hid (Bx w13 b13 27 ZZ∧w.heap.size≤b13∧b13≠M∧b13≠x):=by
      obtain ⟨T,p1,p2⟩:=HS12.out.row
      have p3:=p1.lt
      have p4:=HS12.out.box.lt
      have p5:=HS12.out.gk.size
      rw[hu.out,hb.out];exact ⟨Bx.new _ 27 ZZ,p5,Nat.ne_of_gt p4,Nat.ne_of_gt p3⟩
     clear hu hb
     refine hK.out _ _ (HC1.out _ _ HS13.out.box) (fun _=>?_)
     clear hK KK
     try simp only[pU]
     refine wpAnyH_ready (rs:=[9]) (by kernel_rfl) (by simp) ?_
     refine AllReadyH.cons rfl (fun KK hK=>?_) AllReadyH.nil
     refine Zz rfl 27 (.tmp 8) (.tmp 22) rfl ZZ N0 b13 rfl rfl HZ13.out.1 (by rw[HLN.out.1];rfl) (by rw[HLN.out.1];kernel_rfl) HLN.out.2 ?_
     intro u9 HB9 HG9
     have H9:Hid (XmI Ks I BX f M x k w u9 0):=HS13.out.put hC HBW.out HG9.out HZ13.out.2.1 HZ13.out.2.2.1 HZ13.out.2.2.2
     refine hK.out _ _ (HC1.out _ _ H9.out.box) (fun _=>?_)
     clear hK KK
     try simp only[pU]
     refine wpAnyH_done (by kernel_rfl) ?_ _
     refine NoPanic.normal ?_
     go_wp2_with fail
     go_meet
     exact ⟨b13,rfl,H9.out,HB9.out,HZ13.out.2⟩
    ·skip
     refine Yb rfl 8 rfl rfl ?_
     intro w14 b14 hu hb
     have HS14:Hid (XmI Ks I BX f M x k w w14 0):=by rw[hu.out];exact HS11.out.below hC HBW.out ((Below.refl _ _).alloc (Nat.le_refl _) _)
     have HZ14:Hid (Bx w14 b14 27 ZZ∧w.heap.size≤b14∧b14≠M∧b14≠x):=by
      obtain ⟨T,p1,p2⟩:=HS11.out.row
      have p3:=p1.lt
      have p4:=HS11.out.box.lt
      have p5:=HS11.out.gk.size
      rw[hu.out,hb.out];exact ⟨Bx.new _ 27 ZZ,p5,Nat.ne_of_gt p4,Nat.ne_of_gt p3⟩
     clear hu hb
     refine hK.out _ _ (HC1.out _ _ HS14.out.box) (fun _=>?_)
     clear hK KK
     try simp only[pU]
     refine wpAnyH_ready (rs:=[7]) (by kernel_rfl) (by simp) ?_
     refine AllReadyH.cons rfl (fun KK hK=>?_) AllReadyH.nil
     go_simp
     refine (HUN.out _ HS14.out.inv).mono ?_
     intro e w15 hh
     obtain ⟨rfl,hk,hg⟩:=hh.out
     have HS15:Hid (XmI Ks I BX f M x k w w15 0):=HS14.out.grown hC HBW.out hk hg
     have HZ15:Hid (Bx w15 b14 27 ZZ∧w.heap.size≤b14∧b14≠M∧b14≠x):=⟨HZ14.out.1.gk hg (hC.new (Nat.le_trans HBW.out HZ14.out.2.1)),HZ14.out.2⟩
     clear hh hk hg
     go_wp2_with fail
     refine hK.out _ _ (HC1.out _ _ HS15.out.box) (fun _=>?_)
     clear hK KK
     try simp only[pU]
     refine wpAnyH_ready (rs:=[9]) (by kernel_rfl) (by simp) ?_
     refine AllReadyH.cons rfl (fun KK hK=>?_) AllReadyH.nil
     refine Zz rfl 27 (.tmp 8) (.tmp 22) rfl ZZ N0 b14 rfl rfl HZ15.out.1 (by rw[HLN.out.1];rfl) (by rw[HLN.out.1];kernel_rfl) HLN.out.2 ?_
     intro u9 HB9 HG9
     have H9:Hid (XmI Ks I BX f M x k w u9 0):=HS15.out.put hC HBW.out HG9.out HZ15.out.2.1 HZ15.out.2.2.1 HZ15.out.2.2.2
     refine hK.out _ _ (HC1.out _ _ H9.out.box) (fun _=>?_)
     clear hK KK
     try simp only[pU]
     refine wpAnyH_done (by kernel_rfl) ?_ _
     refine NoPanic.normal ?_
     go_wp2_with fail
     go_meet
     exact ⟨b14,rfl,H9.out,HB9.out,HZ15.out.2⟩
  · skip
    refine Yb rfl 8 rfl rfl ?_
    intro w16 b16 hu hb
    have HS16:Hid (XmI Ks I BX f M x k w w16 0):=by rw[hu.out];exact HS0.out.below hC HBW.out ((Below.refl _ _).alloc (Nat.le_refl _) _)
    have HZ16:Hid (Bx w16 b16 27 ZZ∧w.heap.size≤b16∧b16≠M∧b16≠x):=by
     obtain ⟨T,p1,p2⟩:=HS0.out.row
     have p3:=p1.lt
     have p4:=HS0.out.box.lt
     have p5:=HS0.out.gk.size
     rw[hu.out,hb.out];exact ⟨Bx.new _ 27 ZZ,p5,Nat.ne_of_gt p4,Nat.ne_of_gt p3⟩
    clear hu hb
    refine hK.out _ _ (HC1.out _ _ HS16.out.box) (fun _=>?_)
    clear hK KK
    try simp only[pU]
    refine wpAnyH_ready (rs:=[6]) (by kernel_rfl) (by simp) ?_
    refine AllReadyH.cons rfl (fun KK hK=>?_) AllReadyH.nil
    go_simp
    refine (HFN.out _ HS16.out.inv).mono ?_
    intro e w17 hh
    obtain ⟨rfl,hk,hg⟩:=hh.out
    have HS17:Hid (XmI Ks I BX f M x k w w17 0):=HS16.out.grown hC HBW.out hk hg
    have HZ17:Hid (Bx w17 b16 27 ZZ∧w.heap.size≤b16∧b16≠M∧b16≠x):=⟨HZ16.out.1.gk hg (hC.new (Nat.le_trans HBW.out HZ16.out.2.1)),HZ16.out.2⟩
    clear hh hk hg
    go_wp2_with fail
    refine hK.out _ _ (HC1.out _ _ HS17.out.box) (fun _=>?_)
    clear hK KK
    try simp only[pU]
    refine wpAnyH_ready (rs:=[7]) (by kernel_rfl) (by simp) ?_
    refine AllReadyH.cons rfl (fun KK hK=>?_) AllReadyH.nil
    go_simp
    refine (HUN.out _ HS17.out.inv).mono ?_
    intro e w18 hh
    obtain ⟨rfl,hk,hg⟩:=hh.out
    have HS18:Hid (XmI Ks I BX f M x k w w18 0):=HS17.out.grown hC HBW.out hk hg
    have HZ18:Hid (Bx w18 b16 27 ZZ∧w.heap.size≤b16∧b16≠M∧b16≠x):=⟨HZ17.out.1.gk hg (hC.new (Nat.le_trans HBW.out HZ17.out.2.1)),HZ17.out.2⟩
    clear hh hk hg
    go_wp2_with fail
    refine hK.out _ _ (HC1.out _ _ HS18.out.box) (fun _=>?_)
    clear hK KK
    try simp only[pU]
    refine wpAnyH_ready (rs:=[9]) (by kernel_rfl) (by simp) ?_
    refine AllReadyH.cons rfl (fun KK hK=>?_) AllReadyH.nil
    refine Zz rfl 27 (.tmp 8) (.tmp 22) rfl ZZ N0 b16 rfl rfl HZ18.out.1 (by rw[HLN.out.1];rfl) (by rw[HLN.out.1];kernel_rfl) HLN.out.2 ?_
    intro u9 HB9 HG9
    have H9:Hid (XmI Ks I BX f M x k w u9 0):=HS18.out.put hC HBW.out HG9.out HZ18.out.2.1 HZ18.out.2.2.1 HZ18.out.2.2.2
    refine hK.out _ _ (HC1.out _ _ H9.out.box) (fun _=>?_)
    clear hK KK
    try simp only[pU]
    refine wpAnyH_done (by kernel_rfl) ?_ _
    refine NoPanic.normal ?_
    go_wp2_with fail
    go_meet
    exact ⟨b16,rfl,H9.out,HB9.out,HZ18.out.2⟩
 case rest=>
  obtain ⟨y,rfl,HR1⟩:=hcut
  have HY:Hid (w.heap.size≤y∧y≠M∧y≠x):=HR1.out.2.2
  have HR2:Hid (XmI Ks I BX f M x k w wc 0∧Bx wc y 27 (Fd.BL (f 0))):=⟨HR1.out.1,by rw[←HN0.out];exact HR1.out.2.1⟩
  clear HR1 HX2 HW1 HFN HUN
  go_upto_region 4 with fail
  go_loopw [25] (fun v wr=>∃ j:Nat,j≤k∧v=.int .i64 (j:Nat)∧Hid (XmI Ks I BX f M x k w wr j∧Bx wr y 27 (Fd.BL (f j)))) (fun v _=>k-(intOf v).toNat)
  case atStart=>exact ⟨0,Nat.zero_le _,rfl,HR2⟩
  case round=>
   as_aux_lemma=>
    obtain ⟨j,hj,rfl,HI⟩:=hrel
    by_cases hlt:j<k
    ·have HJ:Hid (j<k):=hlt
     obtain ⟨ej,ej2,g1⟩:=Gn j k hlt HK.out
     have g0:(0:Int)≤(j:Int):=Int.natCast_nonneg j
     obtain ⟨N,HNN⟩:∃ L,Hid (L=Fd.BL (f j)):=⟨_,rfl⟩
     obtain ⟨N2,HN2⟩:∃ L,Hid (L=Fd.BL (f (j+1))):=⟨_,rfl⟩
     have HD:Hid (∀ u,Calls Tryz.prog 24 #[.agg N.toArray] u fun e w'=>e=.returned (.agg N2.toArray)∧Below u.heap.size u w'):=fun u=>by rw[HNN.out,HN2.out];exact HDB.out u j
     have HLL:Hid ((N.length=16∧∀ x∈N,x.oneCell'=true)∧(N2.length=16∧∀ x∈N2,x.oneCell'=true)):=by rw[HNN.out,HN2.out];exact ⟨⟨Fd.Zl _,Yh _⟩,⟨Fd.Zl _,Yh _⟩⟩
     have HB:Hid (XmI Ks I BX f M x k w wr j∧Bx wr y 27 N):=by rw[HNN.out];exact HI.out
     clear HI hlt hj
     go_upto_region 6 with fail
     have HBD:Hid (XmI Ks I BX f M x k w wr.drew j∧Bx wr.drew y 27 N):=⟨HB.out.1.below hC HBW.out (Below.refl _ _).drew,HB.out.2.below (Below.refl _ _).drew⟩
     have hiN:(Tryz.prog.info? 27).map (·.size)=some N.length:=by rw[HLL.out.1.1];kernel_rfl
     have hiN2:(Tryz.prog.info? 27).map (·.size)=some N2.length:=by rw[HLL.out.2.1];kernel_rfl
     have h16:N.length=16:=HLL.out.1.1
     have h162:N2.length=16:=HLL.out.2.1
     have hS0:wr.drew.rangeAt y 0 N:=HBD.out.2.range
     refine wp_region_noPanic ?_
     refine Yl (fun u=>u.rangeAt y 0 N) 6 (by kernel_rfl) (by decide) (by decide +kernel) (by decide +kernel) (by decide +kernel) (fun inv=>?_)
     refine tT 0 28 (.slice (some ⟨x,0,none⟩) k k) inv rfl rfl (by decide +kernel) hS0 (Or.inl ⟨by rfl,fun w' hS'=>by go_simp⟩) (fun inv=>?_)
     try simp only[pU]
     refine tT 1 29 (.int .i64 (j:Nat)) inv rfl rfl (by decide +kernel) hS0 (Or.inl ⟨by rfl,fun w' hS'=>by go_simp⟩) (fun inv=>?_)
     try simp only[pU]
     refine tT 2 30 (.agg N.toArray) inv rfl rfl (by decide +kernel) hS0 (yieldsIf_load_mid (by rfl) 27 (.tmp 8) rfl y 0 rfl N _ (fun u hu=>hu) Tryz.underlying27 rfl hiN) (fun inv=>?_)
     try simp only[pU]
     refine tT 3 31 (.agg N.toArray) inv rfl rfl (by decide +kernel) hS0 (yieldsIf_load_mid (by rfl) 27 (.tmp 8) rfl y 0 rfl N _ (fun u hu=>hu) Tryz.underlying27 rfl hiN) (fun inv=>?_)
     try simp only[pU]
     refine Ye (i:=4) inv (by decide +kernel) (by decide) rfl (fun KK hK=>?_)
     go_simp
     refine (HD.out _).mono ?_
     rintro e2 w3 ⟨rfl,hb3⟩
     have HB3:Hid (XmI Ks I BX f M x k w w3 j∧Bx w3 y 27 N):=⟨HBD.out.1.below hC HBW.out hb3,HBD.out.2.below hb3⟩
     clear hb3
     go_wp2_with fail
     refine hK.out _ _ (HB3.out.2.range) (fun inv'=>?_)
     clear hK KK inv;have inv:=inv';clear inv'
     try simp only[pU]
     refine tT 5 33 (.pointer (some ⟨x,0+j*16,none⟩)) inv rfl rfl (by decide +kernel) HB3.out.2.range (Or.inl ⟨by rfl,fun w' hS'=>by go_simp⟩) (fun inv=>?_)
     try simp only[pU]
     refine Z6 (i:=6) (by decide +kernel) (by decide) rfl (fun KK hK=>?_)
     rw[if_pos (by rfl)]
     refine wp_store_mid 27 (.tmp 33) (.tmp 30) rfl x (0+j*16) N.toArray rfl rfl (by simpa [h16] using HB3.out.1.there hC HBW.out HJ.out) (by rw[List.size_toArray];exact hiN) (all_oneCell_toArray HLL.out.1.2) ?_
     have HB4:Hid (XmI Ks I BX f M x k w (w3.setCells x (0+j*16) N.toArray.toList) (j+1)∧Bx (w3.setCells x (0+j*16) N.toArray.toList) y 27 N):=⟨by have q:=HB3.out.1.store hC HBW.out HJ.out;rw[←HNN.out] at q;exact q,HB3.out.2.keep ((Z5 x N.toArray.toList (0+j*16) w3).block y HB3.out.2.lt (fun e=>HY.out.2.2 (by injection e)))⟩
     obtain ⟨w4,hw4⟩:∃ u9,u9=w3.setCells x (0+j*16) N.toArray.toList:=⟨_,rfl⟩
     rw[←hw4] at HB4 ⊢
     clear hw4
     refine hK.out _ _ ?_
     clear hK KK
     try simp only[pU]
     refine Z6 (i:=7) (by decide +kernel) (by decide) rfl (fun KK hK=>?_)
     rw[if_pos (by rfl)]
     refine wp_store_mid 27 (.tmp 8) (.tmp 32) rfl y 0 N2.toArray rfl rfl (by simpa [h162] using Y7 HB4.out.2 h16) (by rw[List.size_toArray];exact hiN2) (all_oneCell_toArray HLL.out.2.2) ?_
     have HB5:Hid (XmI Ks I BX f M x k w (w4.setCells y 0 N2.toArray.toList) (j+1)∧Bx (w4.setCells y 0 N2.toArray.toList) y 27 N2):=⟨HB4.out.1.put hC HBW.out (Z5 y N2.toArray.toList 0 w4) HY.out.1 HY.out.2.1 HY.out.2.2,HB4.out.2.store N2 (by rw[h162,h16])⟩
     obtain ⟨w5,hw5⟩:∃ u9,u9=w4.setCells y 0 N2.toArray.toList:=⟨_,rfl⟩
     rw[←hw5] at HB5 ⊢
     clear hw5
     refine hK.out _ _ ?_
     clear hK KK
     try simp only[pU]
     refine X2 (by decide +kernel) ?_ _
     refine NoPanic.normal ?_
     have HI9:Hid (XmI Ks I BX f M x k w w5 (j+1)∧Bx w5 y 27 (Fd.BL (f (j+1)))):=by rw[←HN2.out];exact HB5.out
     clear hS0 inv
     go_wp2
     exact ⟨⟨j+1,HJ.out,by first | rfl | simp,HI9⟩,by first | exact V7 j k HJ.out | (simpa using V7 j k HJ.out)⟩
    ·have g1:¬ (j:Int)<(k:Int):=fun h=>hlt (Int.ofNat_lt.1 h)
     have HF:Hid (Bx wr x 27 (bkL f k)∧I wr∧Gk Ks w wr∧w.heap.size≤x):=by
      have p:=HI.out.1
      obtain ⟨T,p2,p3⟩:=p.row
      rw[show j=k by omega] at p2 p3
      have:T=[]:=List.eq_nil_of_length_eq_zero (by omega)
      rw[this,List.append_nil] at p2
      exact ⟨p2,p.inv,p.gk,p.hx⟩
     clear HI
     go_wp2
     go_ret
     exact ⟨x,rfl,by first | exact HF.out.2.2.2 | (rw[HMM.out] at HF;exact HF.out.2.2.2),HF.out.1,HF.out.2.1,HF.out.2.2.1⟩
end Go.Proofs.YtehlppaidgkpaaaGreatDoor
