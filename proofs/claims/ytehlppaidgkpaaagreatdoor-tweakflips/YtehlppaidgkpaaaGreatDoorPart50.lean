import Derived.Test.YtehlppaidgkpaaaGreatDoorPart00
import Derived.Test.YtehlppaidgkpaaaGreatDoorPart40
import Derived.Test.YtehlppaidgkpaaaGreatDoorPart49
import Derived.Test.YtehlppaidgkpaaaGreatDoorPart44
import Derived.Deep.Cut
import Derived.Test.YtehlppaidgkpaaaGreatDoorPart43
namespace Go.Proofs.YtehlppaidgkpaaaGreatDoor
open Go.RowKit
set_option linter.unusedVariables false
set_option linter.unusedSimpArgs false
theorem Zc1 (g nr:Nat) (K:Nat→Nat) (v:BitVec 128) (w:World) (h:Zm w g nr K) :
  Calls Tryz.prog 239 #[.pointer (some ⟨g,0,none⟩),Fd.BV v] w fun e w'=>Hid (e=.returned (.tuple #[Fd.BV (Kg nr K v),.int .i64 0])∧Zm w' g nr K∧w.grownBy w' (some g)):=by
 have q:=Ie g nr K (toW v) w h (Bt v)
 rw[Hv] at q
 refine q.mono ?_
 rintro e w' ⟨rfl,h1,h2⟩
 refine ⟨by rw[Dm];rfl,h1,h2.os,h2.tape,h2.output,h2.size,fun k hk hn=>h2.block k hk (fun e=>hn (by rw[e]))⟩
structure DeI (g nr:Nat) (K:Nat→Nat) (sh m:Nat) (L:List Value) (w u:World):Prop where
 key:Zm u g nr K
 csh:u.cell? ⟨sh,4,none⟩=some (.pointer (some ⟨g,0,none⟩))
 box:Bx u m 27 L
 res:Bx u (m+1) 27 ZZ
 gb:w.grownBy u (some g)
 hm:w.heap.size≤m
 hg:g<w.heap.size
 hs:sh<w.heap.size
 n1:sh≠g
theorem DeI.below {g nr:Nat} {K:Nat→Nat} {sh m:Nat} {L:List Value} {w u v:World} (h:DeI g nr K sh m L w u) (hb:Below u.heap.size u v):DeI g nr K sh m L w v:=
 ⟨h.key.below hb h.key.ciph.here,(hb.cell (World.block_lt_of_cell? u _ h.csh)).trans h.csh,h.box.below hb,h.res.below hb,⟨hb.os.trans h.gb.os,hb.tape.trans h.gb.tape,hb.output.trans h.gb.output,Nat.le_trans h.gb.size hb.size,fun c hc hn=>(hb.block c (Nat.lt_of_lt_of_le hc h.gb.size)).trans (h.gb.block c hc hn)⟩,h.hm,h.hg,h.hs,h.n1⟩
theorem DeI.key2 {g nr:Nat} {K:Nat→Nat} {sh m:Nat} {L:List Value} {w u v:World} (h:DeI g nr K sh m L w u) (hk:Zm v g nr K) (hb:u.grownBy v (some g)):DeI g nr K sh m L w v:=
 ⟨hk,by rw[World.cell?_of_block (a:=⟨sh,4,none⟩) (hb.block sh (World.block_lt_of_cell? u _ h.csh) (fun e=>h.n1 (by injection e)))];exact h.csh,h.box.keep (hb.block m h.box.lt (fun e=>by injection e with e;have:=h.hm;have:=h.hg;omega)),h.res.keep (hb.block (m+1) h.res.lt (fun e=>by injection e with e;have:=h.hm;have:=h.hg;omega)),⟨hb.os.trans h.gb.os,hb.tape.trans h.gb.tape,hb.output.trans h.gb.output,Nat.le_trans h.gb.size hb.size,fun c hc hn=>(hb.block c (Nat.lt_of_lt_of_le hc h.gb.size) hn).trans (h.gb.block c hc hn)⟩,h.hm,h.hg,h.hs,h.n1⟩
theorem DeI.put {g nr:Nat} {K:Nat→Nat} {sh m:Nat} {L:List Value} {w u v:World} {b:Nat} (h:DeI g nr K sh m L w u) (hb:u.grownBy v (some b)) (hb1:m+1<b):DeI g nr K sh m L w v:=
 ⟨h.key.sameK (hb.block g h.key.ciph.here (fun e=>by injection e with e;have:=h.hm;have:=h.hg;omega)) hb.size,by rw[World.cell?_of_block (a:=⟨sh,4,none⟩) (hb.block sh (World.block_lt_of_cell? u _ h.csh) (fun e=>by injection e with e;have:=h.hm;have:=h.hs;omega))];exact h.csh,h.box.keep (hb.block m h.box.lt (fun e=>by injection e with e;omega)),h.res.keep (hb.block (m+1) h.res.lt (fun e=>by injection e with e;omega)),⟨hb.os.trans h.gb.os,hb.tape.trans h.gb.tape,hb.output.trans h.gb.output,Nat.le_trans h.gb.size hb.size,fun c hc hn=>(hb.block c (Nat.lt_of_lt_of_le hc h.gb.size) (fun e=>by injection e with e;have:=h.hm;omega)).trans (h.gb.block c hc hn)⟩,h.hm,h.hg,h.hs,h.n1⟩
set_option maxHeartbeats 800000 in
set_option maxRecDepth 100000 in
theorem N4 (sh g nr:Nat) (K:Nat→Nat) (v:BitVec 128) (w:World) (hne:sh≠g) (hc:w.cell? ⟨sh,4,none⟩=some (.pointer (some ⟨g,0,none⟩))) (h:Zm w g nr K) :
  Calls Tryz.prog 214 #[.pointer (some ⟨sh,0,none⟩),Fd.BV v] w fun e w'=>Hid (e=.returned (Fd.BV (Kg nr K v))∧Zm w' g nr K∧w.grownBy w' (some g)):=by
 obtain ⟨L,HL⟩:∃ L,Hid (L=Fd.BL v):=⟨_,rfl⟩
 obtain ⟨M,HM⟩:∃ M,Hid (M=Fd.BL (Kg nr K v)):=⟨_,rfl⟩
 have HK:Hid (∀ u,Zm u g nr K→Calls Tryz.prog 239 #[.pointer (some ⟨g,0,none⟩),.agg L.toArray] u fun e w'=>Hid (e=.returned (.tuple #[.agg M.toArray,.int .i64 0])∧Zm w' g nr K∧u.grownBy w' (some g))):=fun u hu=>by
  have q:=Zc1 g nr K v u hu
  rw[HL.out,HM.out]
  exact q
 have HLN:Hid (L.length=16∧M.length=16∧(∀ x∈M,x.oneCell'=true)):=by rw[HL.out,HM.out];exact ⟨rfl,rfl,Ys _⟩
 show Calls Tryz.prog 214 #[_,.agg (Fd.BL v).toArray] w fun e w'=>Hid (e=.returned (.agg (Fd.BL (Kg nr K v)).toArray)∧_)
 rw[←HL.out,←HM.out]
 obtain ⟨w1,hw1⟩:∃ w1,w1=(w.alloc (.cells L.toArray 27)).alloc (.cells ZZ.toArray 27):=⟨_,rfl⟩
 have HI1:Hid (DeI g nr K sh w.heap.size L w w1):=by
  have hb:Below w.heap.size w w1:=by rw[hw1];exact ((Below.refl _ _).alloc (Nat.le_refl _) _).alloc (by simp) _
  refine ⟨h.below hb h.ciph.here,by rw[hb.cell (World.block_lt_of_cell? w _ hc),hc],?_,?_,⟨hb.os,hb.tape,hb.output,hb.size,fun k hk _=>hb.block k hk⟩,Nat.le_refl _,h.ciph.here,World.block_lt_of_cell? w _ hc,hne⟩
  ·rw[hw1];exact (Bx.new w 27 L).below ((Below.refl _ _).alloc (Nat.le_refl _) _)
  ·rw[hw1];have q:=Bx.new (w.alloc (.cells L.toArray 27)) 27 ZZ;simpa using q
 have hw2:w1=(w.alloc (.cells L.toArray 27)).alloc (.cells #[.int .u8 0,.int .u8 0,.int .u8 0,.int .u8 0,.int .u8 0,.int .u8 0,.int .u8 0,.int .u8 0,.int .u8 0,.int .u8 0,.int .u8 0,.int .u8 0,.int .u8 0,.int .u8 0,.int .u8 0,.int .u8 0] 27):=hw1
 clear hw1 h hc hne
 go_enter Tryz.func214,Tryz.ntmps214
 go_upto_region 1 with fail
 rw[←hw2]
 clear hw2
 obtain ⟨m,HMM⟩:∃ m,Hid (w.heap.size=m):=⟨_,rfl⟩
 rw[HMM.out] at HI1 ⊢
 have hiL:(Tryz.prog.info? 27).map (·.size)=some L.length:=by rw[HLN.out.1];kernel_rfl
 have hiM:(Tryz.prog.info? 27).map (·.size)=some M.length:=by rw[HLN.out.2.1];kernel_rfl
 go_cut [5,6] from 7 to 15 (fun vb v6 wx=>∃ b:Nat,vb=.pointer (some ⟨b,0,none⟩)∧v6=.int .i64 0∧Hid (DeI g nr K sh m L w wx∧Bx wx b 27 M))
 case first=>
  have HS0:Hid (DeI g nr K sh m L w w1.drew):=HI1.out.below (Below.refl _ _).drew
  have hS0:w1.drew.cell? ⟨sh,4,none⟩=some (.pointer (some ⟨g,0,none⟩))∧w1.drew.rangeAt m 0 L:=⟨HS0.out.csh,HS0.out.box.range⟩
  refine wp_region_noPanic ?_
  refine wp_region_held_drew (S:=(fun u=>u.cell? ⟨sh,4,none⟩=some (.pointer (some ⟨g,0,none⟩))∧u.rangeAt m 0 L)) (by kernel_rfl) (hS0) (fun _=>?_)
  refine tH 0 8 (.pointer (some ⟨sh,0,none⟩)) rfl rfl (by kernel_rfl) (hS0) (Or.inl ⟨by rfl,fun w' hS'=>by first | go_simp | (obtain ⟨c1,c2⟩:=hS';go_simp) | (obtain ⟨c1,c2,c3⟩:=hS';go_simp)⟩) ?_
  try simp only[pU]
  refine tH 1 9 (.pointer (some ⟨sh,0,none⟩)) rfl rfl (by kernel_rfl) (hS0) (Or.inl ⟨by rfl,fun w' hS'=>by first | go_simp | (obtain ⟨c1,c2⟩:=hS';go_simp) | (obtain ⟨c1,c2,c3⟩:=hS';go_simp)⟩) ?_
  try simp only[pU]
  refine tH 2 10 (.pointer (some ⟨sh,4,none⟩)) rfl rfl (by kernel_rfl) (hS0) (Or.inl ⟨by rfl,fun w' hS'=>by first | go_simp | (obtain ⟨c1,c2⟩:=hS';go_simp) | (obtain ⟨c1,c2,c3⟩:=hS';go_simp)⟩) ?_
  try simp only[pU]
  refine tH 3 11 (.pointer (some ⟨g,0,none⟩)) rfl rfl (by kernel_rfl) (hS0) (Or.inl ⟨by rfl,fun w' hS'=>by first | go_simp | (obtain ⟨c1,c2⟩:=hS';go_simp) | (obtain ⟨c1,c2,c3⟩:=hS';go_simp)⟩) ?_
  try simp only[pU]
  refine tH 4 12 (.agg L.toArray) rfl rfl (by kernel_rfl) (hS0) (yieldsIf_load_mid (by rfl) 27 (.tmp 3) rfl m 0 rfl L _ (fun u hu=>hu.2) Tryz.underlying27 rfl hiL) ?_
  try simp only[pU]
  refine wpAnyH_ready (rs:=[5,9]) (by kernel_rfl) (by simp) ?_
  refine AllReadyH.cons rfl (fun KK hK=>?_) (AllReadyH.cons rfl (fun KK hK=>?_) AllReadyH.nil)
  ·skip
   go_simp
   refine (HK.out _ HS0.out.key).mono ?_
   intro e w11 hh
   obtain ⟨rfl,hk,hg⟩:=hh.out
   have HS11:Hid (DeI g nr K sh m L w w11):=HS0.out.key2 hk hg
   clear hh hk hg
   go_wp2_with fail
   refine hK.out _ _ (⟨HS11.out.csh,HS11.out.box.range⟩) (fun _=>?_)
   clear hK KK
   try simp only[pU]
   refine tH 6 7 (.tuple #[.agg M.toArray,.int .i64 0]) rfl rfl (by kernel_rfl) (⟨HS11.out.csh,HS11.out.box.range⟩) (Or.inl ⟨by rfl,fun w' hS'=>by first | go_simp | (obtain ⟨c1,c2⟩:=hS';go_simp) | (obtain ⟨c1,c2,c3⟩:=hS';go_simp)⟩) ?_
   try simp only[pU]
   refine tH 7 14 (.agg M.toArray) rfl rfl (by kernel_rfl) (⟨HS11.out.csh,HS11.out.box.range⟩) (Or.inl ⟨by rfl,fun w' hS'=>by first | go_simp | (obtain ⟨c1,c2⟩:=hS';go_simp) | (obtain ⟨c1,c2,c3⟩:=hS';go_simp)⟩) ?_
   try simp only[pU]
   refine tH 8 15 (.int .i64 0) rfl rfl (by kernel_rfl) (⟨HS11.out.csh,HS11.out.box.range⟩) (Or.inl ⟨by rfl,fun w' hS'=>by first | go_simp | (obtain ⟨c1,c2⟩:=hS';go_simp) | (obtain ⟨c1,c2,c3⟩:=hS';go_simp)⟩) ?_
   try simp only[pU]
   refine wpAnyH_ready (rs:=[9]) (by kernel_rfl) (by simp) ?_
   refine AllReadyH.cons rfl (fun KK hK=>?_) AllReadyH.nil
   refine Xz rfl 5 rfl rfl ?_
   intro w12 b12 hu hb
   have HS12:Hid (DeI g nr K sh m L w w12):=by rw[hu.out];exact HS11.out.below ((Below.refl _ _).alloc (Nat.le_refl _) _)
   have HZ12:Hid (Bx w12 b12 27 ZZ∧m+1<b12):=by rw[hu.out,hb.out];exact ⟨Bx.new _ 27 ZZ,HS11.out.res.lt⟩
   clear hu hb
   refine hK.out _ _ (⟨HS12.out.csh,HS12.out.box.range⟩) (fun _=>?_)
   clear hK KK
   try simp only[pU]
   refine wpAnyH_ready (rs:=[10]) (by kernel_rfl) (by simp) ?_
   refine AllReadyH.cons rfl (fun KK hK=>?_) AllReadyH.nil
   refine Xn rfl 27 (.tmp 5) (.tmp 14) rfl ZZ M b12 rfl rfl HZ12.out.1 (by rw[HLN.out.2.1];rfl) hiM HLN.out.2.2 ?_
   intro u9 HB9 HG9
   have H9:Hid (DeI g nr K sh m L w u9):=HS12.out.put HG9.out HZ12.out.2
   refine hK.out _ _ (⟨H9.out.csh,H9.out.box.range⟩) (fun _=>?_)
   clear hK KK
   try simp only[pU]
   refine wpAnyH_ready (rs:=[11]) (by kernel_rfl) (by simp) ?_
   refine AllReadyH.cons rfl (fun KK hK=>?_) AllReadyH.nil
   rw[if_pos (by rfl)]
   go_simp
   refine hK.out _ _ (⟨H9.out.csh,H9.out.box.range⟩) (fun _=>?_)
   clear hK KK
   try simp only[pU]
   refine wpAnyH_done (by kernel_rfl) ?_ _
   refine NoPanic.normal ?_
   go_wp2_with fail
   go_meet
   exact ⟨b12,rfl,rfl,H9.out,HB9.out⟩
  ·skip
   refine Xz rfl 5 rfl rfl ?_
   intro w13 b13 hu hb
   have HS13:Hid (DeI g nr K sh m L w w13):=by rw[hu.out];exact HS0.out.below ((Below.refl _ _).alloc (Nat.le_refl _) _)
   have HZ13:Hid (Bx w13 b13 27 ZZ∧m+1<b13):=by rw[hu.out,hb.out];exact ⟨Bx.new _ 27 ZZ,HS0.out.res.lt⟩
   clear hu hb
   refine hK.out _ _ (⟨HS13.out.csh,HS13.out.box.range⟩) (fun _=>?_)
   clear hK KK
   try simp only[pU]
   refine wpAnyH_ready (rs:=[5]) (by kernel_rfl) (by simp) ?_
   refine AllReadyH.cons rfl (fun KK hK=>?_) AllReadyH.nil
   go_simp
   refine (HK.out _ HS13.out.key).mono ?_
   intro e w14 hh
   obtain ⟨rfl,hk,hg⟩:=hh.out
   have HS14:Hid (DeI g nr K sh m L w w14):=HS13.out.key2 hk hg
   have HZ14:Hid (Bx w14 b13 27 ZZ∧m+1<b13):=⟨HZ13.out.1.keep (hg.block _ HZ13.out.1.lt (fun e=>by injection e with e;have:=HZ13.out.2;have:=HS13.out.hm;have:=HS13.out.hg;omega)),HZ13.out.2⟩
   clear hh hk hg
   go_wp2_with fail
   refine hK.out _ _ (⟨HS14.out.csh,HS14.out.box.range⟩) (fun _=>?_)
   clear hK KK
   try simp only[pU]
   refine tH 6 7 (.tuple #[.agg M.toArray,.int .i64 0]) rfl rfl (by kernel_rfl) (⟨HS14.out.csh,HS14.out.box.range⟩) (Or.inl ⟨by rfl,fun w' hS'=>by first | go_simp | (obtain ⟨c1,c2⟩:=hS';go_simp) | (obtain ⟨c1,c2,c3⟩:=hS';go_simp)⟩) ?_
   try simp only[pU]
   refine tH 7 14 (.agg M.toArray) rfl rfl (by kernel_rfl) (⟨HS14.out.csh,HS14.out.box.range⟩) (Or.inl ⟨by rfl,fun w' hS'=>by first | go_simp | (obtain ⟨c1,c2⟩:=hS';go_simp) | (obtain ⟨c1,c2,c3⟩:=hS';go_simp)⟩) ?_
   try simp only[pU]
   refine tH 8 15 (.int .i64 0) rfl rfl (by kernel_rfl) (⟨HS14.out.csh,HS14.out.box.range⟩) (Or.inl ⟨by rfl,fun w' hS'=>by first | go_simp | (obtain ⟨c1,c2⟩:=hS';go_simp) | (obtain ⟨c1,c2,c3⟩:=hS';go_simp)⟩) ?_
   try simp only[pU]
   refine wpAnyH_ready (rs:=[10]) (by kernel_rfl) (by simp) ?_
   refine AllReadyH.cons rfl (fun KK hK=>?_) AllReadyH.nil
   refine Xn rfl 27 (.tmp 5) (.tmp 14) rfl ZZ M b13 rfl rfl HZ14.out.1 (by rw[HLN.out.2.1];rfl) hiM HLN.out.2.2 ?_
   intro u9 HB9 HG9
   have H9:Hid (DeI g nr K sh m L w u9):=HS14.out.put HG9.out HZ14.out.2
   refine hK.out _ _ (⟨H9.out.csh,H9.out.box.range⟩) (fun _=>?_)
   clear hK KK
   try simp only[pU]
   refine wpAnyH_ready (rs:=[11]) (by kernel_rfl) (by simp) ?_
   refine AllReadyH.cons rfl (fun KK hK=>?_) AllReadyH.nil
   rw[if_pos (by rfl)]
   go_simp
   refine hK.out _ _ (⟨H9.out.csh,H9.out.box.range⟩) (fun _=>?_)
   clear hK KK
   try simp only[pU]
   refine wpAnyH_done (by kernel_rfl) ?_ _
   refine NoPanic.normal ?_
   go_wp2_with fail
   go_meet
   exact ⟨b13,rfl,rfl,H9.out,HB9.out⟩
 case rest=>
  obtain ⟨b,rfl,rfl,HR⟩:=hcut
  clear HI1
  go_wp2_with (first
   | (refine wpList_load_mid (by rfl) 27 (.tmp 5) (by rfl) b 0 (by rfl) M _ HR.out.2.range Tryz.underlying27 rfl hiM ?_)
   | (refine Zg (by rfl) 27 (.tmp 4) (.tmp 16) (by rfl) ZZ M (m+1) (by rfl) (by rfl) HR.out.1.res (by rw[HLN.out.2.1];rfl) hiM HLN.out.2.2 ?_;intro u9 hb9 hg9))
  have hi:=HR.out.1
  have hm:=hi.hm
  have hg:=hi.hg
  refine Y4 (b:=m+1) M rfl rfl hb9.range Tryz.underlying27 rfl hiM ⟨rfl,hi.key.sameK (hg9.block g hi.key.ciph.here (fun e=>by injection e with e;omega)) hg9.size,?_⟩
  exact ⟨hg9.os.trans hi.gb.os,hg9.tape.trans hi.gb.tape,hg9.output.trans hi.gb.output,Nat.le_trans hi.gb.size hg9.size,fun k hk hn=>(hg9.block k (Nat.lt_of_lt_of_le hk hi.gb.size) (fun e=>by injection e with e;omega)).trans (hi.gb.block k hk hn)⟩
structure CoI (B:Nat) (Ks:Nat→Prop) (I:World→Prop) (sh p q m:Nat) (a:BitVec 128) (L:List Value) (w u:World):Prop where
 x:CbX B Ks I sh p q a u
 box:Bx u m 27 L
 res:Bx u (m+1) 27 ZZ
 gk:Gk Ks w u
 hm:w.heap.size≤m
 hB:B≤m
 hp:p<m
 hq:q<m
theorem CoI.grown {B:Nat} {Ks:Nat→Prop} {I:World→Prop} {sh p q m:Nat} {a:BitVec 128} {L:List Value} {w u v:World} (h:CoI B Ks I sh p q m a L w u) (hC:Cst B Ks I) (hk:Gk Ks u v) (hi:I v):CoI B Ks I sh p q m a L w v:=
 ⟨h.x.grown hC hk hi,h.box.gk hk (hC.new h.hB),h.res.gk hk (hC.new (Nat.le_succ_of_le h.hB)),h.gk.trans hk,h.hm,h.hB,h.hp,h.hq⟩
theorem CoI.below {B:Nat} {Ks:Nat→Prop} {I:World→Prop} {sh p q m:Nat} {a:BitVec 128} {L:List Value} {w u v:World} (h:CoI B Ks I sh p q m a L w u) (hC:Cst B Ks I) (hb:Below u.heap.size u v):CoI B Ks I sh p q m a L w v:=h.grown hC (Gk.of_below hb) (hC.below h.x.inv hb)
theorem CbX.off {B:Nat} {Ks:Nat→Prop} {I:World→Prop} {sh p q b:Nat} {a:BitVec 128} {u v:World} (h:CbX B Ks I sh p q a u) (hC:Cst B Ks I) (hb:u.grownBy v (some b)) (hB:B≤b) (hp:p<b) (hq:q<b):CbX B Ks I sh p q a v:=
 ⟨hC.gb h.inv hb hB,by rw[World.cell?_of_block (a:=⟨p,0,none⟩) (hb.block p (World.block_lt_of_cell? u _ h.cp) (fun e=>by injection e with e;omega))];exact h.cp,h.bq.keep (hb.block q h.bq.lt (fun e=>by injection e with e;omega)),h.pB,h.qB,h.ne⟩
theorem CoI.put {B:Nat} {Ks:Nat→Prop} {I:World→Prop} {sh p q m b:Nat} {a:BitVec 128} {L:List Value} {w u v:World} (h:CoI B Ks I sh p q m a L w u) (hC:Cst B Ks I) (hb:u.grownBy v (some b)) (hg:m+1<b):CoI B Ks I sh p q m a L w v:=
 ⟨h.x.off hC hb (by have:=h.hB;omega) (by have:=h.hp;omega) (by have:=h.hq;omega),h.box.keep (hb.block m h.box.lt (fun e=>by injection e with e;omega)),h.res.keep (hb.block (m+1) h.res.lt (fun e=>by injection e with e;omega)),h.gk.gb hb (by have:=h.hm;omega),h.hm,h.hB,h.hp,h.hq⟩
set_option maxHeartbeats 1600000 in
set_option maxRecDepth 100000 in
theorem Ix {B:Nat} {Ks:Nat→Prop} {I:World→Prop} (hC:Cst B Ks I) (sh p q:Nat) (j:Int) (D:BitVec 128→BitVec 128) (a v:BitVec 128) (w:World) (HDO:DoI Ks I 214 (.pointer (some ⟨sh,0,none⟩)) D) (h:CbX B Ks I sh p q a w) :
  Calls Tryz.prog 216 #[.int .i64 j,Fd.BV v,.pointer (some ⟨p,0,none⟩),.pointer (some ⟨q,0,none⟩)] w fun e w'=>Hid (e=.returned (Fd.BV (D v ^^^ a))∧CbX B Ks I sh p q v w'∧Gk (KsQ Ks q) w w'):=by
 obtain ⟨L,HL⟩:∃ L,Hid (L=Fd.BL v):=⟨_,rfl⟩
 obtain ⟨X,HX⟩:∃ X,Hid (X=Fd.BL a):=⟨_,rfl⟩
 obtain ⟨L2,HL2⟩:∃ X,Hid (X=Fd.BL (D v)):=⟨_,rfl⟩
 obtain ⟨L3,HL3⟩:∃ X,Hid (X=Fd.BL (D v ^^^ a)):=⟨_,rfl⟩
 have HX1:Hid (∀ u,Calls Tryz.prog 196 #[.agg L2.toArray,.agg X.toArray] u fun e w'=>Hid (e=.returned (.agg L3.toArray)∧Below u.heap.size u w')):=fun u=>by
  rw[HL2.out,HX.out,HL3.out];exact (Fd.Ou (D v) a u).mono fun e w' hh=>hh
 have HE:Hid (∀ u,I u→Calls Tryz.prog 214 #[.pointer (some ⟨sh,0,none⟩),.agg L.toArray] u fun e w'=>Hid (e=.returned (.agg L2.toArray)∧I w'∧Gk Ks u w')):=fun u hu=>by
  rw[HL.out,HL2.out];exact HDO v u hu
 have HLN:Hid (L.length=16∧X.length=16∧L3.length=16∧(∀ x∈L3,x.oneCell'=true)∧(∀ x∈L,x.oneCell'=true)):=by rw[HL.out,HX.out,HL3.out];exact ⟨rfl,rfl,rfl,Ys _,Ys _⟩
 show Calls Tryz.prog 216 #[_,.agg (Fd.BL v).toArray,_,_] w fun e w'=>Hid (e=.returned (.agg (Fd.BL (D v ^^^ a)).toArray)∧_)
 rw[←HL.out,←HL3.out]
 obtain ⟨w1,hw1⟩:∃ w1,w1=(w.alloc (.cells L.toArray 27)).alloc (.cells ZZ.toArray 27):=⟨_,rfl⟩
 have HI1:Hid (CoI B Ks I sh p q w.heap.size a L w w1):=by
  have hb:Below w.heap.size w w1:=by rw[hw1];exact ((Below.refl _ _).alloc (Nat.le_refl _) _).alloc (by simp) _
  refine ⟨h.below hC hb,?_,?_,Gk.of_below hb,Nat.le_refl _,hC.size w h.inv,World.block_lt_of_cell? w _ h.cp,h.bq.lt⟩
  ·rw[hw1];exact (Bx.new w 27 L).below ((Below.refl _ _).alloc (Nat.le_refl _) _)
  ·rw[hw1];have q:=Bx.new (w.alloc (.cells L.toArray 27)) 27 ZZ;simpa using q
 have hw2:w1=(w.alloc (.cells L.toArray 27)).alloc (.cells #[.int .u8 0,.int .u8 0,.int .u8 0,.int .u8 0,.int .u8 0,.int .u8 0,.int .u8 0,.int .u8 0,.int .u8 0,.int .u8 0,.int .u8 0,.int .u8 0,.int .u8 0,.int .u8 0,.int .u8 0,.int .u8 0] 27):=hw1
 clear hw1 h HDO
 go_enter Tryz.func216,Tryz.ntmps216
 go_upto_region 1 with fail
 rw[←hw2]
 clear hw2
 obtain ⟨m,HMM⟩:∃ m,Hid (w.heap.size=m):=⟨_,rfl⟩
 rw[HMM.out] at HI1 ⊢
 have hU:Tryz.prog.underlying 27=some (.array 16 5):=Tryz.underlying27
 have hiL:(Tryz.prog.info? 27).map (·.size)=some L.length:=by rw[HLN.out.1];kernel_rfl
 have hiX:(Tryz.prog.info? 27).map (·.size)=some X.length:=by rw[HLN.out.2.1];kernel_rfl
 have hi3:(Tryz.prog.info? 27).map (·.size)=some L3.length:=by rw[HLN.out.2.2.1];kernel_rfl
 have HXX:Hid (∀ u,CoI B Ks I sh p q m a L w u→u.cell? ⟨p,0,none⟩=some (.pointer (some ⟨sh,0,none⟩))∧u.rangeAt m 0 L∧u.rangeAt q 0 X):=fun u h=>by rw[HX.out];exact ⟨h.x.cp,h.box.range,h.x.bq.range⟩
 go_cut [7] from 8 to 13 (fun vb wx=>∃ b:Nat,vb=.pointer (some ⟨b,0,none⟩)∧Hid (CoI B Ks I sh p q m a L w wx∧Bx wx b 27 L3∧m+1<b))
 case first=>
  have HS0:Hid (CoI B Ks I sh p q m a L w w1.drew):=HI1.out.below hC (Below.refl _ _).drew
  have hS0:=HXX.out _ HS0.out
  refine wp_region_noPanic ?_
  refine wp_region_held_drew (S:=(fun u=>u.cell? ⟨p,0,none⟩=some (.pointer (some ⟨sh,0,none⟩))∧u.rangeAt m 0 L∧u.rangeAt q 0 X)) (by kernel_rfl) (hS0) (fun _=>?_)
  refine tH 0 8 (.pointer (some ⟨p,0,none⟩)) rfl rfl (by kernel_rfl) (hS0) (Or.inl ⟨by rfl,fun w' hS'=>by first | go_simp | (obtain ⟨c1,c2⟩:=hS';go_simp) | (obtain ⟨c1,c2,c3⟩:=hS';go_simp)⟩) ?_
  try simp only[pU]
  refine tH 1 9 (.pointer (some ⟨sh,0,none⟩)) rfl rfl (by kernel_rfl) (hS0) (Or.inl ⟨by rfl,fun w' hS'=>by first | go_simp | (obtain ⟨c1,c2⟩:=hS';go_simp) | (obtain ⟨c1,c2,c3⟩:=hS';go_simp)⟩) ?_
  try simp only[pU]
  refine tH 2 10 (.agg L.toArray) rfl rfl (by kernel_rfl) (hS0) (yieldsIf_load_mid (by rfl) 27 (.tmp 5) rfl m 0 rfl L _ (fun u hu=>hu.2.1) Tryz.underlying27 rfl hiL) ?_
  try simp only[pU]
  refine tH 4 12 (.agg X.toArray) rfl rfl (by kernel_rfl) (hS0) (yieldsIf_load_mid (by rfl) 27 (.tmp 3) rfl q 0 rfl X _ (fun u hu=>hu.2.2) Tryz.underlying27 rfl hiX) ?_
  try simp only[pU]
  refine wpAnyH_ready (rs:=[3,6]) (by kernel_rfl) (by simp) ?_
  refine AllReadyH.cons rfl (fun KK hK=>?_) (AllReadyH.cons rfl (fun KK hK=>?_) AllReadyH.nil)
  ·skip
   go_simp
   refine (HE.out _ HS0.out.x.inv).mono ?_
   intro e w11 hh
   obtain ⟨rfl,hk,hg⟩:=hh.out
   have HS11:Hid (CoI B Ks I sh p q m a L w w11):=HS0.out.grown hC hg hk
   clear hh hk hg
   go_wp2_with fail
   refine hK.out _ _ (HXX.out _ HS11.out) (fun _=>?_)
   clear hK KK
   try simp only[pU]
   refine wpAnyH_ready (rs:=[5,6]) (by kernel_rfl) (by simp) ?_
   refine AllReadyH.cons rfl (fun KK hK=>?_) (AllReadyH.cons rfl (fun KK hK=>?_) AllReadyH.nil)
   ·skip
    go_simp
    refine (HX1.out _).mono ?_
    intro e w12 hh
    obtain ⟨rfl,hk⟩:=hh.out
    have HS12:Hid (CoI B Ks I sh p q m a L w w12):=HS11.out.below hC hk
    clear hh hk
    go_wp2_with fail
    refine hK.out _ _ (HXX.out _ HS12.out) (fun _=>?_)
    clear hK KK
    try simp only[pU]
    refine wpAnyH_ready (rs:=[6]) (by kernel_rfl) (by simp) ?_
    refine AllReadyH.cons rfl (fun KK hK=>?_) AllReadyH.nil
    refine Xz rfl 7 rfl rfl ?_
    intro w13 b13 hu hb
    have HS13:Hid (CoI B Ks I sh p q m a L w w13):=by rw[hu.out];exact HS12.out.below hC ((Below.refl _ _).alloc (Nat.le_refl _) _)
    have HZ13:Hid (Bx w13 b13 27 ZZ∧m+1<b13):=by rw[hu.out,hb.out];exact ⟨Bx.new _ 27 ZZ,HS12.out.res.lt⟩
    clear hu hb
    refine hK.out _ _ (HXX.out _ HS13.out) (fun _=>?_)
    clear hK KK
    try simp only[pU]
    refine wpAnyH_ready (rs:=[7]) (by kernel_rfl) (by simp) ?_
    refine AllReadyH.cons rfl (fun KK hK=>?_) AllReadyH.nil
    refine Xn rfl 27 (.tmp 7) (.tmp 13) rfl ZZ L3 b13 rfl rfl HZ13.out.1 (by rw[HLN.out.2.2.1];rfl) hi3 HLN.out.2.2.2.1 ?_
    intro u9 HB9 HG9
    have H9:Hid (CoI B Ks I sh p q m a L w u9):=HS13.out.put hC HG9.out HZ13.out.2
    refine hK.out _ _ (HXX.out _ H9.out) (fun _=>?_)
    clear hK KK
    try simp only[pU]
    refine wpAnyH_done (by kernel_rfl) ?_ _
    refine NoPanic.normal ?_
    go_wp2_with fail
    go_meet
    exact ⟨b13,rfl,H9.out,HB9.out,HZ13.out.2⟩
   ·skip
    refine Xz rfl 7 rfl rfl ?_
    intro w14 b14 hu hb
    have HS14:Hid (CoI B Ks I sh p q m a L w w14):=by rw[hu.out];exact HS11.out.below hC ((Below.refl _ _).alloc (Nat.le_refl _) _)
    have HZ14:Hid (Bx w14 b14 27 ZZ∧m+1<b14):=by rw[hu.out,hb.out];exact ⟨Bx.new _ 27 ZZ,HS11.out.res.lt⟩
    clear hu hb
    refine hK.out _ _ (HXX.out _ HS14.out) (fun _=>?_)
    clear hK KK
    try simp only[pU]
    refine wpAnyH_ready (rs:=[5]) (by kernel_rfl) (by simp) ?_
    refine AllReadyH.cons rfl (fun KK hK=>?_) AllReadyH.nil
    go_simp
    refine (HX1.out _).mono ?_
    intro e w15 hh
    obtain ⟨rfl,hk⟩:=hh.out
    have HS15:Hid (CoI B Ks I sh p q m a L w w15):=HS14.out.below hC hk
    have HZ15:Hid (Bx w15 b14 27 ZZ∧m+1<b14):=⟨HZ14.out.1.below hk,HZ14.out.2⟩
    clear hh hk
    go_wp2_with fail
    refine hK.out _ _ (HXX.out _ HS15.out) (fun _=>?_)
    clear hK KK
    try simp only[pU]
    refine wpAnyH_ready (rs:=[7]) (by kernel_rfl) (by simp) ?_
    refine AllReadyH.cons rfl (fun KK hK=>?_) AllReadyH.nil
    refine Xn rfl 27 (.tmp 7) (.tmp 13) rfl ZZ L3 b14 rfl rfl HZ15.out.1 (by rw[HLN.out.2.2.1];rfl) hi3 HLN.out.2.2.2.1 ?_
    intro u9 HB9 HG9
    have H9:Hid (CoI B Ks I sh p q m a L w u9):=HS15.out.put hC HG9.out HZ15.out.2
    refine hK.out _ _ (HXX.out _ H9.out) (fun _=>?_)
    clear hK KK
    try simp only[pU]
    refine wpAnyH_done (by kernel_rfl) ?_ _
    refine NoPanic.normal ?_
    go_wp2_with fail
    go_meet
    exact ⟨b14,rfl,H9.out,HB9.out,HZ15.out.2⟩
  ·skip
   refine Xz rfl 7 rfl rfl ?_
   intro w16 b16 hu hb
   have HS16:Hid (CoI B Ks I sh p q m a L w w16):=by rw[hu.out];exact HS0.out.below hC ((Below.refl _ _).alloc (Nat.le_refl _) _)
   have HZ16:Hid (Bx w16 b16 27 ZZ∧m+1<b16):=by rw[hu.out,hb.out];exact ⟨Bx.new _ 27 ZZ,HS0.out.res.lt⟩
   clear hu hb
   refine hK.out _ _ (HXX.out _ HS16.out) (fun _=>?_)
   clear hK KK
   try simp only[pU]
   refine wpAnyH_ready (rs:=[3]) (by kernel_rfl) (by simp) ?_
   refine AllReadyH.cons rfl (fun KK hK=>?_) AllReadyH.nil
   go_simp
   refine (HE.out _ HS16.out.x.inv).mono ?_
   intro e w17 hh
   obtain ⟨rfl,hk,hg⟩:=hh.out
   have HS17:Hid (CoI B Ks I sh p q m a L w w17):=HS16.out.grown hC hg hk
   have HZ17:Hid (Bx w17 b16 27 ZZ∧m+1<b16):=⟨HZ16.out.1.gk hg (hC.new (by have:=HS16.out.hB;have:=HZ16.out.2;omega)),HZ16.out.2⟩
   clear hh hk hg
   go_wp2_with fail
   refine hK.out _ _ (HXX.out _ HS17.out) (fun _=>?_)
   clear hK KK
   try simp only[pU]
   refine wpAnyH_ready (rs:=[5]) (by kernel_rfl) (by simp) ?_
   refine AllReadyH.cons rfl (fun KK hK=>?_) AllReadyH.nil
   go_simp
   refine (HX1.out _).mono ?_
   intro e w18 hh
   obtain ⟨rfl,hk⟩:=hh.out
   have HS18:Hid (CoI B Ks I sh p q m a L w w18):=HS17.out.below hC hk
   have HZ18:Hid (Bx w18 b16 27 ZZ∧m+1<b16):=⟨HZ17.out.1.below hk,HZ17.out.2⟩
   clear hh hk
   go_wp2_with fail
   refine hK.out _ _ (HXX.out _ HS18.out) (fun _=>?_)
   clear hK KK
   try simp only[pU]
   refine wpAnyH_ready (rs:=[7]) (by kernel_rfl) (by simp) ?_
   refine AllReadyH.cons rfl (fun KK hK=>?_) AllReadyH.nil
   refine Xn rfl 27 (.tmp 7) (.tmp 13) rfl ZZ L3 b16 rfl rfl HZ18.out.1 (by rw[HLN.out.2.2.1];rfl) hi3 HLN.out.2.2.2.1 ?_
   intro u9 HB9 HG9
   have H9:Hid (CoI B Ks I sh p q m a L w u9):=HS18.out.put hC HG9.out HZ18.out.2
   refine hK.out _ _ (HXX.out _ H9.out) (fun _=>?_)
   clear hK KK
   try simp only[pU]
   refine wpAnyH_done (by kernel_rfl) ?_ _
   refine NoPanic.normal ?_
   go_wp2_with fail
   go_meet
   exact ⟨b16,rfl,H9.out,HB9.out,HZ18.out.2⟩
 case rest=>
  obtain ⟨b,rfl,HR⟩:=hcut
  clear HI1
  have HXQ:Hid (Bx wc q 27 X):=by rw[HX.out];exact HR.out.1.x.bq
  go_upto_region 3 with (first
   | (refine wpList_load_mid (by rfl) 27 (.tmp 5) (by rfl) m 0 (by rfl) L _ HR.out.1.box.range Tryz.underlying27 rfl hiL ?_)
   | (refine Zg (by rfl) 27 (.tmp 3) (.tmp 14) (by rfl) X L q (by rfl) (by rfl) HXQ.out (by rw[HLN.out.1,HLN.out.2.1]) hiL HLN.out.2.2.2.2 ?_;intro u3 hb3 hg3))
  have HU3:Hid (CbX B Ks I sh p q v u3∧Bx u3 b 27 L3∧Bx u3 (m+1) 27 ZZ∧Gk (KsQ Ks q) w u3):=by
   have hq:=HR.out.1.hq
   have hb:=HR.out.2.2
   refine ⟨HR.out.1.x.write hC hg3 (by rw[←HL.out];exact hb3),HR.out.2.1.keep (hg3.block b HR.out.2.1.lt (fun e=>by injection e with e;omega)),HR.out.1.res.keep (hg3.block (m+1) HR.out.1.res.lt (fun e=>by injection e with e;omega)),(HR.out.1.gk.wide q).trans (Gk.of_gb hg3 (.inr rfl))⟩
  clear hb3 hg3
  go_wp2_with (first
   | (refine wpList_load_mid (by rfl) 27 (.tmp 7) (by rfl) b 0 (by rfl) L3 _ HU3.out.2.1.range Tryz.underlying27 rfl hi3 ?_)
   | (refine Zg (by rfl) 27 (.tmp 6) (.tmp 15) (by rfl) ZZ L3 (m+1) (by rfl) (by rfl) HU3.out.2.2.1 (by rw[HLN.out.2.2.1];rfl) hi3 HLN.out.2.2.2.1 ?_;intro u9 hb9 hg9))
  have hi:=HR.out.1
  refine Y4 (b:=m+1) L3 rfl rfl hb9.range Tryz.underlying27 rfl hi3 ⟨rfl,HU3.out.1.off hC hg9 (by have:=hi.hB;omega) (by have:=hi.hp;omega) (by have:=hi.hq;omega),HU3.out.2.2.2.gb hg9 (by have:=hi.hm;omega)⟩
end Go.Proofs.YtehlppaidgkpaaaGreatDoor
