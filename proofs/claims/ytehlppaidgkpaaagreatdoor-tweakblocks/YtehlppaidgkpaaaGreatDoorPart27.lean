import Derived.Test.YtehlppaidgkpaaaGreatDoorPart25
import Derived.Test.YtehlppaidgkpaaaGreatDoorPart23
import Derived.Test.YtehlppaidgkpaaaGreatDoorPart16
import Derived.Deep.QuietTactic
import Derived.BigQuiet
import Derived.Deep.Cut
import Derived.Deep.RegionHeld3
import Derived.WalkKit
import Derived.Test.YtehlppaidgkpaaaGreatDoorPart03
import Derived.Deep.AppendLies
import Derived.Test.YtehlppaidgkpaaaGreatDoorPart17
import Derived.Test.YtehlppaidgkpaaaGreatDoorPart00
import Derived.Test.YtehlppaidgkpaaaGreatDoorPart13
import Derived.Test.YtehlppaidgkpaaaGreatDoorBlk
import Derived.Test.YtehlppaidgkpaaaGreatDoorPart02
import Derived.Laws.OwnMore
namespace Go.Proofs.YtehlppaidgkpaaaGreatDoor.Dg
open Go.RowKit
set_option linter.unusedVariables false
set_option linter.unusedSimpArgs false
def Qb (h:Int):Prop:=h=256
def Xi (h:Int):Bool:=decide (h=384∨h=512)
def Yy (h:Int):Nat:=(h/8).toNat
theorem Qb.block {h:Int} (k:Qb h):Yg h=bsz (Xi h)∧Xi h=false:=by obtain rfl:h=256:=k;exact ⟨rfl,rfl⟩
theorem F7 {h:Int} (k:Qb h) (w:World) (hT:Tables w) :
  Calls Tryz.prog 94 #[.int .i64 h] w fun e w'=>e=.returned (.agg (Zy h).cells.toArray)∧Below w.heap.size w w':=by
 obtain rfl:h=256:=k
 exact Dd w hT
theorem Ud {h:Int} (k:Qb h) (w:World) (hT:Tables w) :
  Calls Tryz.prog 56 #[.int .i64 h] w fun e w'=>e=.returned (.tuple #[.agg (tkL h (Xi h) (Zy h) (fun _=>0) 0).toArray,.int .i64 0])∧Below w.heap.size w w':=by
 have hb:=k.block.1
 have hw:=k.block.2
 rw[hw] at hb ⊢
 exact Bj h w hb (fun v hv=>F7 k v hv) hT
theorem O0 {w:World} {g o:Nat} {h:Int} {wd:Bool} {s:Zd} {half:Nat→Int} {f0:Nat} (k:TK w g o h wd s half f0) (hf:f0%bsz wd=0):Rep w g o h wd s f0 []:=
 ⟨half,by simpa [Fa] using k,fun i hi=>by simp at hi,hf⟩
theorem Zc4 (h:Int) (wd:Bool) (E:Zd) (half:Nat→Int) (fed:Nat):List.foldl (fun (cs:Array Value) x=>cs.setIfInBounds x.snd x.fst) Tryz.zeroCells145 (tkL h wd E half fed).zipIdx=(tkL h wd E half fed).toArray:=by kernel_rfl
structure Wl (T:List Value):Prop where
 len:T.length=139
 one:T.toArray.all (·.oneCell')=true
 built:List.foldl (fun (cs:Array Value) x=>cs.setIfInBounds x.snd x.fst) Tryz.zeroCells145 T.zipIdx=T.toArray
theorem Wl.size {T:List Value} (h:Wl T):T.toArray.size=139:=by simpa using h.len
theorem Wl.info {T:List Value} (h:Wl T):(Tryz.prog.info? 141).map (·.size)=some T.toArray.size:=by rw[h.size];exact Vf
theorem Zbi (h:Int) (wd:Bool) (E:Zd) (half:Nat→Int) (fed:Nat):Wl (tkL h wd E half fed):=⟨Qs _ _ _ _ _,Rf _ _ _ _ _,Zc4 _ _ _ _ _⟩
set_option maxHeartbeats 1600000 in
set_option maxRecDepth 100000 in
theorem Pt (h:Int) (w:World) (k:Hid (Qb h)) (hT:Hid (Tables w)) :
  Calls Tryz.prog 33 #[.int .i64 h] w fun e w'=>∃ g,e=.returned (.tuple #[.pointer (some ⟨g,0,none⟩),.int .i64 0])∧w.heap.size≤g∧Rep w' g 0 h (Xi h) (Zy h) 0 []∧Below w.heap.size w w':=by
 go_enter Tryz.func33,Tryz.ntmps33
 go_wp2_with (first | (go_at_call 56;refine (Ud k.out w hT.out).mono ?_))
 rintro e1 w1 ⟨rfl,hb1⟩
 obtain ⟨T,HTT⟩:∃ T:List Value,Hid (T=tkL h (Xi h) (Zy h) (fun _=>0) 0):=⟨_,rfl⟩
 rw[←HTT.out]
 have HG:Hid (Wl T):=by show Wl T;rw[HTT.out];exact Zbi _ _ _ _ _
 have HB1:Hid (Below w.heap.size w w1):=hb1
 have HX:Hid ((w1.alloc (.cells Tryz.zeroCells141 141)).there w1.heap.size 0 139):=Zf w1 Tryz.zeroCells141 141 139 (by rw[Wc,Gw];exact Nat.le_refl _)
 clear hb1
 go_upto_region 4 with (first
  | (refine wpList_store_mid (by rfl) 141 (.tmp 4) (.tmp 9) (by rfl) w1.heap.size 0 T.toArray (by rfl) (by rfl) (by rw[HG.out.size];exact HX.out) HG.out.info HG.out.one ?_)
  | fail)
 have HR2:Hid (((w1.alloc (.cells Tryz.zeroCells141 141)).setCells w1.heap.size 0 T).rangeAt w1.heap.size 0 T):=World.rangeAt_setCells_same _ _ _ _ (by rw[HG.out.len];exact HX.out)
 have HB2:Hid (Below w.heap.size w ((w1.alloc (.cells Tryz.zeroCells141 141)).setCells w1.heap.size 0 T)):=below_setCells _ HB1.out.size _ _ _ (HB1.out.alloc HB1.out.size _)
 generalize (w1.alloc (.cells Tryz.zeroCells141 141)).setCells w1.heap.size 0 T=w2 at HR2 HB2 ⊢
 clear HX
 have hlen:=HG.out.len
 have hfold:=HG.out.built
 go_wp2_with (first
  | (refine wpList_load_mid (by rfl) 141 (.tmp 4) (by rfl) w1.heap.size 0 (by rfl) T _ HR2.out Tryz.underlying141 rfl (by rw[HG.out.len];exact Vf) ?_)
  | fail)
 go_ret2
 have hr:=Zt w2 T.toArray 145
 have ht:=Zf w2 T.toArray 145 139 (by rw[HG.out.size];exact Nat.le_refl _)
 have hT':T=tkL h (Xi h) (Zy h) (fun _=>0) 0:=HTT.out
 refine ⟨w2.heap.size,rfl,HB2.out.size,O0 (TK.of (half:=fun _=>0) ?_ ht) (Nat.zero_mod _),HB2.out.alloc HB2.out.size _⟩
 rw[hT'] at hr ⊢
 exact hr
set_option maxHeartbeats 400000 in
theorem Mj {h:Int} (k:Qb h) (w:World):Calls Tryz.prog 97 #[.int .i64 h] w fun e w'=>e=.returned (.int .i64 (Yy h))∧w'=w:=by
 obtain rfl:h=256:=k
 go_enter Tryz.func97,Tryz.ntmps97
 go_wp2_with (first | (go_at_call 91;refine (Xa _ _).mono ?_;rintro e1 w1 ⟨rfl,hw1⟩;obtain rfl:=hw1.symm;rw[show Yg 256=64 from rfl]))
 go_ret
 exact ⟨rfl,rfl⟩
set_option maxHeartbeats 400000 in
theorem Zd6 (g:Nat) (h:Int) (w:World) (c:w.cell? ⟨g,0,none⟩=some (.int .i64 h)):Calls Tryz.prog 98 #[.pointer (some ⟨g,0,none⟩)] w fun e w'=>e=.returned (.int .i64 h)∧w'=w:=by
 go_enter Tryz.func98,Tryz.ntmps98
 go_wp2
 go_ret
 exact ⟨rfl,rfl⟩
set_option maxHeartbeats 400000 in
theorem Zd4 (g:Nat) (h:Int) (w:World) (k:Hid (Qb h)) (c:Hid (w.cell? ⟨g,0,none⟩=some (.int .i64 h))):Calls Tryz.prog 60 #[.pointer (some ⟨g,0,none⟩)] w fun e w'=>e=.returned (.int .i64 (Yy h))∧w'=w:=by
 go_enter Tryz.func60,Tryz.ntmps60
 go_wp2_with (first
  | (go_at_call 98;refine (Zd6 g h w c.out).mono ?_;rintro e1 w1 ⟨rfl,hw1⟩;obtain rfl:=hw1.symm)
  | (go_at_call 97;refine (Mj k.out _).mono ?_;rintro e1 w1 ⟨rfl,hw1⟩;obtain rfl:=hw1.symm))
 go_ret
 exact ⟨rfl,rfl⟩
set_option maxHeartbeats 800000 in
theorem Zb3 (g:Nat) (h:Int) (s0:Zd) (zs:List Int) (yss:List (List Int)) (v:Value) (w:World) (k:Hid (Qb h)) (hr:Hid (Rep w g 0 h (Xi h) s0 0 zs)) (hp:Hid (D5 w g v yss)) (hT:Hid (Tables w)) (hg:6≤g) (hs:Hid (zs.length+yss.flatten.length≤33554432)) :
  Calls Tryz.prog 34 #[.pointer (some ⟨g,0,none⟩),v] w fun e w'=>e=.returned (.int .i64 0)∧Touch w w' g 0 139∧Rep w' g 0 h (Xi h) s0 0 (zs++yss.flatten):=by
 have HA:Hid (Calls Tryz.prog 57 #[.pointer (some ⟨g,0,none⟩),.int .u64 33554432,v] w fun e w'=>e=.returned (.int .i64 0)∧Touch w w' g 0 139∧Rep w' g 0 h (Xi h) s0 0 (zs++yss.flatten)):=
  Sn (Xi h) g 0 h s0 0 zs yss v (33554432-zs.length) 33554432 w k.out.block hr.out hp.out hT.out hg (by have:=hs.out;omega) (by have:=hs.out;omega) (by have:=hs.out;omega)
 go_enter Tryz.func34,Tryz.ntmps34
 go_wp2_with (first | (go_at_call 57;refine HA.out.mono ?_;rintro e1 w1 ⟨rfl,ht1,hr1⟩))
 have HQ:Hid (Touch w w1 g 0 139∧Rep w1 g 0 h (Xi h) s0 0 (zs++yss.flatten)):=⟨ht1,hr1⟩
 clear ht1 hr1
 go_wp2
 go_ret
 exact ⟨rfl,HQ.out.1,HQ.out.2⟩
def Yx (wd:Bool) (s:Zd):List Int:=(List.range 64).map (X4 (wsz wd) s)
theorem K6 (wd:Bool) (s:Zd):(Yx wd s).length=64:=by simp [Yx]
theorem Hy (wd:Bool) (s:Zd):Zk (wsz wd) s=Za (Yx wd s):=by simp [Zk,Za,Yx]
theorem Ds {w:World} {B B':Nat} {e:TypeId} {s n:Nat} {v:Value} {xs:List Value} (h:w.ownsRow B e s v n xs) (hB:B'≤B):w.ownsRow B' e s v n xs:=by
 obtain ⟨h1,h2⟩:=h
 rcases h2 with h2 | ⟨g,c,cur,e1,e2,e3⟩
 ·exact ⟨h1,.inl h2⟩
 ·exact ⟨h1,.inr ⟨g,c,cur,e1,by omega,e3⟩⟩
theorem To {h:Int} (k:Qb h) (C:List Value) (zs:List Int) (w:World) (hC:C=Za zs) (hz:zs.length=64) :
  Calls Tryz.prog 59 #[.agg C.toArray,.int .i64 (Yy h)] w fun e w'=>∃ g,e=.returned (.slice (some ⟨g,0,none⟩) (Yy h) (Yy h))∧w'.ownsRow w.heap.size 5 1 (.slice (some ⟨g,0,none⟩) (Yy h) (Yy h)) (Yy h) (Za (zs.take (Yy h)))∧Below w.heap.size w w':=by
 obtain rfl:h=256:=k
 exact Zar C zs w hC hz
set_option maxHeartbeats 1600000 in
set_option maxRecDepth 100000 in
theorem Zfm (g:Nat) (h:Int) (s0:Zd) (zs:List Int) (w:World) (k:Hid (Qb h)) (hr:Hid (Rep w g 0 h (Xi h) s0 0 zs)) (hT:Hid (Tables w)) (hfed:Hid (zs.length≤1152921504606846976)) :
  Calls Tryz.prog 35 #[.pointer (some ⟨g,0,none⟩)] w fun e w'=>∃ b,e=.returned (.slice (some ⟨b,0,none⟩) (Yy h) (Yy h))∧w'.ownsRow w.heap.size 5 1 (.slice (some ⟨b,0,none⟩) (Yy h) (Yy h)) (Yy h) (Za ((Yx (Xi h) (Gn (Xi h) s0 0 zs)).take (Yy h)))∧Below w.heap.size w w':=by
 obtain ⟨half,hk,hh,hf⟩:=hr.out
 obtain ⟨T,HTT⟩:∃ T:List Value,Hid (T=tkL h (Xi h) (TT (Xi h) (fnz zs) s0 (zs.length/bsz (Xi h))) half (0+zs.length)):=⟨_,rfl⟩
 have HG:Hid (Wl T):=by show Wl T;rw[HTT.out];exact Zbi _ _ _ _ _
 have HR:Hid (w.rangeAt g 0 T):=by show w.rangeAt g 0 T;rw[HTT.out];exact hk.range
 have HX:Hid ((w.alloc (.cells Tryz.zeroCells141 141)).there w.heap.size 0 139):=Zf w Tryz.zeroCells141 141 139 (by rw[Wc,Gw];exact Nat.le_refl _)
 have HC0:Hid (g<w.heap.size∧w.cell? ⟨g,0,none⟩=some (.int .i64 h)):=⟨lt_of_cell hk.hash,hk.hash⟩
 have HREP:Hid (∀ v,v.rangeAt w.heap.size 0 T→v.there w.heap.size 0 139→Rep v w.heap.size 0 h (Xi h) s0 0 zs):=fun v hr ht=>⟨half,TK.of (by rw[←HTT.out];exact hr) ht,hh,hf⟩
 clear hk hh hf
 go_enter Tryz.func35,Tryz.ntmps35
 go_upto_region 4 with (first
  | (refine wpList_load_mid (by rfl) 141 (.tmp 9) (by rfl) g 0 (by rfl) T _ HR.out Tryz.underlying141 rfl (by rw[HG.out.len];exact Vf) ?_)
  | (refine wpList_store_mid (by rfl) 141 (.tmp 3) (.tmp 10) (by rfl) w.heap.size 0 T.toArray (by rfl) (by rfl) (by rw[HG.out.size];exact HX.out) HG.out.info HG.out.one ?_)
  | fail)
 have HR2:Hid (((w.alloc (.cells Tryz.zeroCells141 141)).setCells w.heap.size 0 T).rangeAt w.heap.size 0 T):=World.rangeAt_setCells_same _ _ _ _ (by rw[HG.out.len];exact HX.out)
 have HB2:Hid (Below w.heap.size w ((w.alloc (.cells Tryz.zeroCells141 141)).setCells w.heap.size 0 T)∧((w.alloc (.cells Tryz.zeroCells141 141)).setCells w.heap.size 0 T).there w.heap.size 0 139∧((w.alloc (.cells Tryz.zeroCells141 141)).setCells w.heap.size 0 T).heap.size=w.heap.size+1):=⟨below_setCells _ (Nat.le_refl _) _ _ _ ((Below.refl _ _).alloc (Nat.le_refl _) _),World.there_setCells HX.out _ _ _,by rw[size_setCells];simp⟩
 generalize (w.alloc (.cells Tryz.zeroCells141 141)).setCells w.heap.size 0 T=w2 at HR2 HB2 ⊢
 clear HX HR
 go_wp2_with (first | (go_at_call 58;refine (Lh (Xi h) w.heap.size 0 h s0 0 zs w2 k.out.block (HREP.out w2 HR2.out HB2.out.2.1) (by have:=hfed.out;omega) (hT.out.below HB2.out.1 hT.out.size) hT.out.size).mono ?_))
 rintro e3 w3 ⟨rfl,ht3,_⟩
 obtain ⟨C,HC⟩:∃ C:List Value,Hid (C=Za (Yx (Xi h) (Gn (Xi h) s0 0 zs))):=⟨_,(show _=_ from rfl)⟩
 rw[Hy,←HC.out]
 have HL:Hid (C.length=64):=by show C.length=64;rw[HC.out,Zz,K6]
 have HLA:Hid (C.toArray.size=64):=by show C.toArray.size=64;simpa using HL.out
 have HO:Hid (C.toArray.all (·.oneCell')=true):=all_oneCell_toArray (by rw[HC.out];exact X1 _)
 have HB3:Hid (Below w.heap.size w w3):=HB2.out.1.trans (ht3.toBelow (Nat.le_refl _) (by have:=HB2.out.2.2;omega))
 have HX:Hid ((w3.alloc (.cells #[.int .u8 0,.int .u8 0,.int .u8 0,.int .u8 0,.int .u8 0,.int .u8 0,.int .u8 0,.int .u8 0,.int .u8 0,.int .u8 0,.int .u8 0,.int .u8 0,.int .u8 0,.int .u8 0,.int .u8 0,.int .u8 0,.int .u8 0,.int .u8 0,.int .u8 0,.int .u8 0,.int .u8 0,.int .u8 0,.int .u8 0,.int .u8 0,.int .u8 0,.int .u8 0,.int .u8 0,.int .u8 0,.int .u8 0,.int .u8 0,.int .u8 0,.int .u8 0,.int .u8 0,.int .u8 0,.int .u8 0,.int .u8 0,.int .u8 0,.int .u8 0,.int .u8 0,.int .u8 0,.int .u8 0,.int .u8 0,.int .u8 0,.int .u8 0,.int .u8 0,.int .u8 0,.int .u8 0,.int .u8 0,.int .u8 0,.int .u8 0,.int .u8 0,.int .u8 0,.int .u8 0,.int .u8 0,.int .u8 0,.int .u8 0,.int .u8 0,.int .u8 0,.int .u8 0,.int .u8 0,.int .u8 0,.int .u8 0,.int .u8 0,.int .u8 0] 147)).there w3.heap.size 0 64):=Zf w3 _ 147 64 (by decide)
 clear ht3
 go_upto_region 5 with (first
  | (refine wpList_store_mid (by rfl) 147 (.tmp 4) (.tmp 11) (by rfl) w3.heap.size 0 C.toArray (by rfl) (by rfl) (by rw[HLA.out];exact HX.out) (by rw[HLA.out];exact Js) HO.out ?_)
  | fail)
 have HR4:Hid (((w3.alloc (.cells #[.int .u8 0,.int .u8 0,.int .u8 0,.int .u8 0,.int .u8 0,.int .u8 0,.int .u8 0,.int .u8 0,.int .u8 0,.int .u8 0,.int .u8 0,.int .u8 0,.int .u8 0,.int .u8 0,.int .u8 0,.int .u8 0,.int .u8 0,.int .u8 0,.int .u8 0,.int .u8 0,.int .u8 0,.int .u8 0,.int .u8 0,.int .u8 0,.int .u8 0,.int .u8 0,.int .u8 0,.int .u8 0,.int .u8 0,.int .u8 0,.int .u8 0,.int .u8 0,.int .u8 0,.int .u8 0,.int .u8 0,.int .u8 0,.int .u8 0,.int .u8 0,.int .u8 0,.int .u8 0,.int .u8 0,.int .u8 0,.int .u8 0,.int .u8 0,.int .u8 0,.int .u8 0,.int .u8 0,.int .u8 0,.int .u8 0,.int .u8 0,.int .u8 0,.int .u8 0,.int .u8 0,.int .u8 0,.int .u8 0,.int .u8 0,.int .u8 0,.int .u8 0,.int .u8 0,.int .u8 0,.int .u8 0,.int .u8 0,.int .u8 0,.int .u8 0] 147)).setCells w3.heap.size 0 C).rangeAt w3.heap.size 0 C):=World.rangeAt_setCells_same _ _ _ _ (by rw[HL.out];exact HX.out)
 have HB4:Hid (Below w.heap.size w ((w3.alloc (.cells #[.int .u8 0,.int .u8 0,.int .u8 0,.int .u8 0,.int .u8 0,.int .u8 0,.int .u8 0,.int .u8 0,.int .u8 0,.int .u8 0,.int .u8 0,.int .u8 0,.int .u8 0,.int .u8 0,.int .u8 0,.int .u8 0,.int .u8 0,.int .u8 0,.int .u8 0,.int .u8 0,.int .u8 0,.int .u8 0,.int .u8 0,.int .u8 0,.int .u8 0,.int .u8 0,.int .u8 0,.int .u8 0,.int .u8 0,.int .u8 0,.int .u8 0,.int .u8 0,.int .u8 0,.int .u8 0,.int .u8 0,.int .u8 0,.int .u8 0,.int .u8 0,.int .u8 0,.int .u8 0,.int .u8 0,.int .u8 0,.int .u8 0,.int .u8 0,.int .u8 0,.int .u8 0,.int .u8 0,.int .u8 0,.int .u8 0,.int .u8 0,.int .u8 0,.int .u8 0,.int .u8 0,.int .u8 0,.int .u8 0,.int .u8 0,.int .u8 0,.int .u8 0,.int .u8 0,.int .u8 0,.int .u8 0,.int .u8 0,.int .u8 0,.int .u8 0] 147)).setCells w3.heap.size 0 C)):=below_setCells _ HB3.out.size _ _ _ (HB3.out.alloc HB3.out.size _)
 have HS4:Hid (((w3.alloc (.cells #[.int .u8 0,.int .u8 0,.int .u8 0,.int .u8 0,.int .u8 0,.int .u8 0,.int .u8 0,.int .u8 0,.int .u8 0,.int .u8 0,.int .u8 0,.int .u8 0,.int .u8 0,.int .u8 0,.int .u8 0,.int .u8 0,.int .u8 0,.int .u8 0,.int .u8 0,.int .u8 0,.int .u8 0,.int .u8 0,.int .u8 0,.int .u8 0,.int .u8 0,.int .u8 0,.int .u8 0,.int .u8 0,.int .u8 0,.int .u8 0,.int .u8 0,.int .u8 0,.int .u8 0,.int .u8 0,.int .u8 0,.int .u8 0,.int .u8 0,.int .u8 0,.int .u8 0,.int .u8 0,.int .u8 0,.int .u8 0,.int .u8 0,.int .u8 0,.int .u8 0,.int .u8 0,.int .u8 0,.int .u8 0,.int .u8 0,.int .u8 0,.int .u8 0,.int .u8 0,.int .u8 0,.int .u8 0,.int .u8 0,.int .u8 0,.int .u8 0,.int .u8 0,.int .u8 0,.int .u8 0,.int .u8 0,.int .u8 0,.int .u8 0,.int .u8 0] 147)).setCells w3.heap.size 0 C).heap.size=w3.heap.size+1):=by show _=_;rw[size_setCells];simp
 generalize (w3.alloc (.cells #[.int .u8 0,.int .u8 0,.int .u8 0,.int .u8 0,.int .u8 0,.int .u8 0,.int .u8 0,.int .u8 0,.int .u8 0,.int .u8 0,.int .u8 0,.int .u8 0,.int .u8 0,.int .u8 0,.int .u8 0,.int .u8 0,.int .u8 0,.int .u8 0,.int .u8 0,.int .u8 0,.int .u8 0,.int .u8 0,.int .u8 0,.int .u8 0,.int .u8 0,.int .u8 0,.int .u8 0,.int .u8 0,.int .u8 0,.int .u8 0,.int .u8 0,.int .u8 0,.int .u8 0,.int .u8 0,.int .u8 0,.int .u8 0,.int .u8 0,.int .u8 0,.int .u8 0,.int .u8 0,.int .u8 0,.int .u8 0,.int .u8 0,.int .u8 0,.int .u8 0,.int .u8 0,.int .u8 0,.int .u8 0,.int .u8 0,.int .u8 0,.int .u8 0,.int .u8 0,.int .u8 0,.int .u8 0,.int .u8 0,.int .u8 0,.int .u8 0,.int .u8 0,.int .u8 0,.int .u8 0,.int .u8 0,.int .u8 0,.int .u8 0,.int .u8 0] 147)).setCells w3.heap.size 0 C=w4 at HR4 HB4 HS4 ⊢
 have HC4:Hid (w4.cell? ⟨g,0,none⟩=some (.int .i64 h)):=by rw[HB4.out.cell (p:=⟨g,0,none⟩) HC0.out.1];exact HC0.out.2
 clear HX HB3 HB2 HR2 HREP HC0
 have HZ:Hid ((Yx (Xi h) (Gn (Xi h) s0 0 zs)).length=64):=K6 _ _
 have hu75:=Tryz.underlying147
 have hi75:(Tryz.prog.info? 147).map (·.size)=some C.length:=by rw[HL.out];exact Js
 go_region_held3 (fun v=>v.rangeAt w3.heap.size 0 C∧v.cell? ⟨g,0,none⟩=some (.int .i64 h)) (first | exact ⟨HR4.out,HC4.out⟩ | go_keep | exact hS6) (first
  | (go_at_call 60;refine (Zd4 g h w4.drew k (show Hid (w4.drew.cell? ⟨g,0,none⟩=some (.int .i64 h)) from HC4)).mono ?_;rintro e5 w5 ⟨rfl,hw5⟩;obtain rfl:=hw5.symm)
  | (go_at_call 59;refine (To k.out C _ w4.drew HC.out HZ.out).mono ?_;rintro e6 w6 ⟨b,rfl,ho6,hb6⟩;have hS6:w6.rangeAt w3.heap.size 0 C∧w6.cell? ⟨g,0,none⟩=some (.int .i64 h):=⟨fun j v hv=>by rw[hb6.cell (p:=⟨w3.heap.size,0+j,none⟩) (show w3.heap.size<w4.heap.size by have:=HS4.out;omega)];exact HR4.out j v hv,by rw[hb6.cell (p:=⟨g,0,none⟩) (show g<w4.heap.size from lt_of_cell HC4.out)];exact HC4.out⟩))
 have HQ:Hid (w6.ownsRow w.heap.size 5 1 (.slice (some ⟨b,0,none⟩) (Yy h) (Yy h)) (Yy h) (Za ((Yx (Xi h) (Gn (Xi h) s0 0 zs)).take (Yy h)))∧Below w.heap.size w w6):=⟨Ds ho6 HB4.out.size,HB4.out.drew.trans (hb6.mono HB4.out.size)⟩
 clear ho6 hb6 hS6
 go_wp2
 go_ret
 exact ⟨b,rfl,HQ.out.1,HQ.out.2⟩
set_option maxHeartbeats 800000 in
theorem Zfp (h:Int) (yss:List (List Int)) (v:Value) (w:World) (k:Hid (Qb h)) (hp:Hid (∀ u g,Below w.heap.size w u→w.heap.size≤g→D5 u g v yss)) (hT:Hid (Tables w)) (hs:Hid (yss.flatten.length≤33554432)) :
  Calls Tryz.prog 21 #[.int .i64 h,v] w fun e w'=>∃ b,e=.returned (.tuple #[.slice (some ⟨b,0,none⟩) (Yy h) (Yy h),.int .i64 0])∧w'.ownsRow w.heap.size 5 1 (.slice (some ⟨b,0,none⟩) (Yy h) (Yy h)) (Yy h) (Za ((Yx (Xi h) (Gn (Xi h) (Zy h) 0 yss.flatten)).take (Yy h)))∧Below w.heap.size w w':=by
 go_enter Tryz.func21,Tryz.ntmps21
 go_wp2_with (first | (go_at_call 33;refine (Pt h w k hT).mono ?_))
 rintro e1 w1 ⟨g,rfl,hg,hr1,hb1⟩
 have HR1:Hid (Rep w1 g 0 h (Xi h) (Zy h) 0 []∧Below w.heap.size w w1∧w.heap.size≤g):=⟨hr1,hb1,hg⟩
 have HP1:Hid (D5 w1 g v yss):=hp.out w1 g hb1 hg
 have HT1:Hid (Tables w1):=hT.out.below hb1 hT.out.size
 have hg4:6≤g:=Nat.le_trans hT.out.size hg
 clear hr1 hb1 hg
 go_wp2_with (first | (go_at_call 34;refine (Zb3 g h (Zy h) [] yss v w1 k HR1.out.1 HP1 HT1 hg4 (by show _≤_;have:=hs.out;simpa using this)).mono ?_))
 rintro e2 w2 ⟨rfl,ht2,hr2⟩
 have HR2:Hid (Rep w2 g 0 h (Xi h) (Zy h) 0 yss.flatten∧Below w.heap.size w w2):=⟨hr2,HR1.out.2.1.trans (ht2.toBelow HR1.out.2.2 HR1.out.2.1.size)⟩
 have HT2:Hid (Tables w2):=HT1.out.touch ht2 hg4
 clear ht2 hr2 HR1 HP1
 go_wp2_with (first | (go_at_call 35;refine (Zfm g h (Zy h) yss.flatten w2 k HR2.out.1 HT2 (by show _≤_;have:=hs.out;omega)).mono ?_))
 rintro e3 w3 ⟨b,rfl,ho3,hb3⟩
 have HQ:Hid (w3.ownsRow w.heap.size 5 1 (.slice (some ⟨b,0,none⟩) (Yy h) (Yy h)) (Yy h) (Za ((Yx (Xi h) (Gn (Xi h) (Zy h) 0 yss.flatten)).take (Yy h)))∧Below w.heap.size w w3):=⟨Ds ho3 HR2.out.2.size,HR2.out.2.trans (hb3.mono HR2.out.2.size)⟩
 clear ho3 hb3
 go_wp2
 go_ret2
 exact ⟨b,rfl,HQ.out.1,HQ.out.2⟩
theorem Cw {u:World} (t:TypeId) (x:Value) (ys:List Int) (g:Nat) (hx:Zi u x ys) (hg:u.heap.size≠g) (hox:ys≠[]→∀ b off l c,x=.slice (some ⟨b,off,none⟩) l c→b≠g):D5 (u.alloc (.cells #[x] t)) g (.slice (some ⟨u.heap.size,0,none⟩) 1 1) [ys]:=by
 refine ⟨_,1,rfl,by simp,by simp [maxLen],.inr ⟨u.heap.size,0,rfl,hg,fun i hi=>?_⟩⟩
 obtain rfl:i=0:=by simpa using hi
 exact ⟨x,World.cell?_alloc_at _ _ _ _ rfl,hx.kept (fun q hq=>Below.heap_alloc u _ q hq),hox⟩
theorem Zav:Tryz.prog.elem 22=5:=by kernel_rfl
theorem Zby:Tryz.prog.underlying 22=some (.slice (Tryz.prog.elem 22)):=by kernel_rfl
theorem U1 (w:World):(Go.sizeOf 5).run Tryz.prog w=.ok 1 w:=by kernel_rfl
def Qg (h:Int) (zs:List Int):List Int:=(Yx (Xi h) (Gn (Xi h) (Zy h) 0 zs)).take (Yy h)
theorem Uw {h:Int} (k:Qb h):1≤Yy h∧Yy h≤64:=by obtain rfl:h=256:=k;decide
theorem Up {w:World} {B n:Nat} {v:Value} {zs:List Int} (h:w.ownsRow B 5 1 v n (Za zs)) (hn:zs.length=n):Zi w v zs:=by
 have h0:=h
 rcases h.2 with ⟨rfl,e0⟩ | ⟨g,c,cur,rfl,q1,q2,q3,q4,q5,q6⟩
 ·refine ⟨none,0,by rw[hn,e0],by omega,by simp [maxLen],fun _=>rfl,Or.inl (List.eq_nil_of_length_eq_zero (by omega))⟩
 ·refine ⟨some ⟨g,0,none⟩,c,by rw[hn],by omega,q4,(fun e=>by cases e),Or.inr ⟨g,0,rfl,fun i hi=>?_⟩⟩
  have hc:=h0.cells (g:=g) rfl i (.int .u8 (zs.getD i 0)) (by simp [Za,List.getD,List.getElem?_eq_getElem hi])
  rw[Addr.add_lit] at hc
  exact hc
theorem Bu (h:Int) (k:Qb h) (X:List Int):(Qg h X).length=Yy h:=by
 have:=Uw k
 simp [Qg,Yx]
 omega
end Go.Proofs.YtehlppaidgkpaaaGreatDoor.Dg
namespace Go.Proofs.YtehlppaidgkpaaaGreatDoor
open Go.RowKit
set_option linter.unusedVariables false
def btn (x:Nat):Nat→Nat
 | 0=>bt0 x
 | 1=>bt1 x
 | 2=>bt2 x
 | _=>bt3 x
def rb (K:Nat→Nat) (j:Nat):Nat:=btn (K (j/4)) (j%4)
def sbL:List Value:=(List.range 256).map fun j=>.int .u8 (SB j:Nat)
def ubL:List Value:=(List.range 256).map fun j=>.int .u8 (UB j:Nat)
theorem U5 (j:Nat) (h:j<256):sbL[j]?=some (.int .u8 (SB j:Nat)):=by simp [sbL,h]
theorem Uq (j:Nat) (h:j<256):ubL[j]?=some (.int .u8 (UB j:Nat)):=by simp [ubL,h]
theorem Co:sbL.length=256:=by simp [sbL]
theorem Ce:ubL.length=256:=by simp [ubL]
theorem Rq:sbL.toArray.all (·.oneCell')=true:=all_oneCell_toArray (fun v hv=>by
 simp only[sbL,List.mem_map] at hv
 obtain ⟨j,_,rfl⟩:=hv
 rfl)
theorem Rd:ubL.toArray.all (·.oneCell')=true:=all_oneCell_toArray (fun v hv=>by
 simp only[ubL,List.mem_map] at hv
 obtain ⟨j,_,rfl⟩:=hv
 rfl)
theorem S4 {w:World} {b o:Nat} (h:∀ j,j<256→w.cell? ⟨b,o+j,none⟩=some (.int .u8 (SB j:Nat))):w.rangeAt b o sbL:=fun j v hv=>by
 have hj:j<256:=by have:=(List.getElem?_eq_some_iff.1 hv).1;rw[Co] at this;exact this
 rw[U5 j hj] at hv
 rw[h j hj];exact hv
theorem Ss {w:World} {b o:Nat} (h:∀ j,j<256→w.cell? ⟨b,o+j,none⟩=some (.int .u8 (UB j:Nat))):w.rangeAt b o ubL:=fun j v hv=>by
 have hj:j<256:=by have:=(List.getElem?_eq_some_iff.1 hv).1;rw[Ce] at this;exact this
 rw[Uq j hj] at hv
 rw[h j hj];exact hv
theorem Cm:(Tryz.prog.info? 118).map (·.size)=some 256:=by kernel_rfl
theorem I6:Tryz.zeroCells118.size=256:=by kernel_rfl
structure BxS (w:World) (b1 b2 b3:Nat) (u:World):Prop where
 old:Below w.heap.size w u
 r0:u.there w.heap.size 0 256
 r1:u.there b1 0 256
 s:u.there b2 0 256
 t:u.there b3 0 256
theorem BxS.set {w u:World} {b1 b2 b3:Nat} (h:BxS w b1 b2 b3 u) (b j:Nat) (v:Value) (hb:w.heap.size≤b):BxS w b1 b2 b3 (u.setCell ⟨b,j,none⟩ v):=
 ⟨h.old.setCell hb _,World.there_setCells h.r0 _ _ [_],World.there_setCells h.r1 _ _ [_],World.there_setCells h.s _ _ [_],World.there_setCells h.t _ _ [_]⟩
theorem Ib (w:World) (C:Array Value) (hC:C.size=256):BxS w (w.heap.size+1) (w.heap.size+1+1) (w.heap.size+1+1+1) ((((w.alloc (.cells C 118)).alloc (.cells C 118)).alloc (.cells C 118)).alloc (.cells C 118)):=by
 have hl:256≤C.size:=by omega
 have s1:(w.alloc (.cells C 118)).heap.size=w.heap.size+1:=by simp
 have s2:((w.alloc (.cells C 118)).alloc (.cells C 118)).heap.size=w.heap.size+1+1:=by simp
 have s3:(((w.alloc (.cells C 118)).alloc (.cells C 118)).alloc (.cells C 118)).heap.size=w.heap.size+1+1+1:=by simp
 refine ⟨((((Below.refl _ w).alloc (Nat.le_refl _) _).alloc (by omega) _).alloc (by omega) _).alloc (by omega) _,?_,?_,?_,?_⟩
 ·exact World.there_alloc (World.there_alloc (World.there_alloc (Zf w C 118 256 hl) _) _) _
 ·have:=Zf (w.alloc (.cells C 118)) C 118 256 hl
  rw[s1] at this
  exact World.there_alloc (World.there_alloc this _) _
 ·have:=Zf ((w.alloc (.cells C 118)).alloc (.cells C 118)) C 118 256 hl
  rw[s2] at this
  exact World.there_alloc this _
 ·have:=Zf (((w.alloc (.cells C 118)).alloc (.cells C 118)).alloc (.cells C 118)) C 118 256 hl
  rw[s3] at this
  exact this
theorem Yn {w:World} {b n:Nat} (h:w.there b 0 n) (j:Nat) (hj:j<n):∃ v,w.cell? ⟨b,j,none⟩=some v:=by
 have:=(h j hj).1
 rw[Nat.zero_add] at this
 exact Option.isSome_iff_exists.1 this
theorem Yj {w:World} {b n:Nat} (h:w.there b 0 n) (j:Nat) (hj:j<n):w.frozen? ⟨b,j,none⟩=false:=by
 have:=(h j hj).2
 rw[Nat.zero_add] at this
 exact this
theorem Y0 {w:World} {b n j:Nat} (v:Value) (h:w.there b 0 n) (hj:j<n):(w.setCell ⟨b,j,none⟩ v).cell? ⟨b,j,none⟩=some v:=by
 have:=Jj (i:=j) v h hj
 rw[Nat.zero_add] at this
 exact this
theorem V4 {fn:Func} {p u:Tmp} {ty:TypeId} (h:fn.results=#[.cell p ty,.cell u ty]) (tmps:Array Value) (P:Program) (w:World) :
  (results fn tmps).run P w =
   ((asAddr (tmps.getD p undef)).run P w).andThen fun a w₁=>((loadVar ty a).run P w₁).andThen fun v w₂=>((asAddr (tmps.getD u undef)).run P w₂).andThen fun c w₃=>((loadVar ty c).run P w₃).andThen fun x w₄=>.ok (.tuple #[v,x]) w₄:=by
 simp only[results,h]
 simp [Sem.run_bind,Result.andThen]
theorem Mn {P:Program} {fn:Func} {p t:Tmp} {ty:TypeId} {d:TypeDesc} {Q:Ending→World→Prop} {tmps:Array Value} {w:World} {b c:Nat} (cs ds:List Value) (h:fn.results=#[.cell p ty,.cell t ty])
  (hp:tmps.getD p undef=.pointer (some ⟨b,0,none⟩)) (ht:tmps.getD t undef=.pointer (some ⟨c,0,none⟩)) (hr:w.rangeAt b 0 cs) (hs:w.rangeAt c 0 ds) (hu:P.underlying ty=some d) (hd:d.isRow=true) (hi:(P.info? ty).map (·.size)=some cs.length) (hj:(P.info? ty).map (·.size)=some ds.length)
  (hq:Q (.returned (.tuple #[.agg cs.toArray,.agg ds.toArray])) w):bodyPost P fn Q .ret ⟨tmps,[]⟩ w:=by
 refine bodyPost_ret (v:=.tuple #[.agg cs.toArray,.agg ds.toArray]) ?_ rfl hq
 rw[V4 h]
 have hl:=run_loadVar_mid (P:=P) w b 0 ty cs d hr hu hd hi
 have hm:=run_loadVar_mid (P:=P) w c 0 ty ds d hs hu hd hj
 simp [hp,ht,asAddr,hl,hm]
set_option maxHeartbeats 1600000 in
set_option maxRecDepth 100000 in
theorem Ii (w:World):Calls Tryz.prog 112 #[] w fun e w'=>e=.returned (.tuple #[.agg sbL.toArray,.agg ubL.toArray])∧Below w.heap.size w w':=by
 have HB:=Ib w Tryz.zeroCells118 I6
 go_enter Tryz.func112,Tryz.ntmps112
 go_wp2
 have HI:Hid (BxS w (w.heap.size+1) (w.heap.size+1+1) (w.heap.size+1+1+1) ((((w.alloc (.cells Tryz.zeroCells118 118)).alloc (.cells Tryz.zeroCells118 118)).alloc (.cells Tryz.zeroCells118 118)).alloc (.cells Tryz.zeroCells118 118))):=HB
 clear HB
 generalize ((((w.alloc (.cells Tryz.zeroCells118 118)).alloc (.cells Tryz.zeroCells118 118)).alloc (.cells Tryz.zeroCells118 118)).alloc (.cells Tryz.zeroCells118 118))=w4 at HI ⊢
 obtain ⟨b3,HB3⟩:∃ b,Hid (w.heap.size+1+1+1=b):=⟨_,rfl⟩
 obtain ⟨b2,HB2⟩:∃ b,Hid (w.heap.size+1+1=b):=⟨_,rfl⟩
 obtain ⟨b1,HB1⟩:∃ b,Hid (w.heap.size+1=b):=⟨_,rfl⟩
 rw[HB3.out,HB2.out,HB1.out] at HI ⊢
 have HBB:Hid (w.heap.size<b1∧b1<b2∧b2<b3):=⟨by have:=HB1.out;omega,by have:=HB1.out;have:=HB2.out;omega,by have:=HB2.out;have:=HB3.out;omega⟩
 clear HB1 HB2 HB3
 go_loopw [4,5,6] (fun b y i wr=>∃ k:Nat,k≤255∧i=.int .i64 k∧b=.int .u8 (pwT k:Nat)∧y=.int .u8 (ivT k:Nat)∧Hid (BxS w b1 b2 b3 wr∧∀ j,j<k→wr.cell? ⟨b2,pwT j,none⟩=some (.int .u8 (SB (pwT j):Nat)))) (fun _ _ i _=>255-(intOf i).toNat)
 case atStart=>exact ⟨0,by omega,rfl,rfl,rfl,HI.out,fun j hj=>by omega⟩
 case round=>
  obtain ⟨k,hk,rfl,rfl,rfl,HR⟩:=hrel
  by_cases hlt:k<255
  ·obtain ⟨e1,e2,e3⟩:=Rw ⟨k,hlt⟩
   simp only at e1 e2 e3
   obtain ⟨p,HP⟩:∃ p,Hid (p=pwT k):=⟨_,rfl⟩
   obtain ⟨v,HV⟩:∃ p,Hid (p=ivT k):=⟨_,rfl⟩
   have hp:p<256:=by rw[HP.out];exact Ms k
   have hv:v<256:=by rw[HV.out];exact Ec k
   have K1:Hid (∀ u,Calls Tryz.prog 162 #[.int .i64 (v:Nat)] u fun e u'=>e=.returned (.int .u8 (SB p:Nat))∧u'=u):=fun u=>(Fp v hv u).mono fun e u' ⟨z,_,hz,h1,h2⟩=>⟨by rw[h1,hz.out,HV.out,e3,HP.out],h2⟩
   have K3:Hid (∀ u,Calls Tryz.prog 113 #[.int .u8 (p:Nat),.int .u8 3] u fun e u'=>e=.returned (.int .u8 (pwT (k+1):Nat))∧u'=u):=fun u=>(Jf p 3 hp (by decide) u).mono fun e u' ⟨h1,h2⟩=>⟨by rw[h1,HP.out,e1],h2⟩
   have K4:Hid (∀ u,Calls Tryz.prog 113 #[.int .u8 (v:Nat),.int .u8 246] u fun e u'=>e=.returned (.int .u8 (ivT (k+1):Nat))∧u'=u):=fun u=>(Jf v 246 hv (by decide) u).mono fun e u' ⟨h1,h2⟩=>⟨by rw[h1,HV.out,e2],h2⟩
   clear e1 e2 e3
   obtain ⟨p',HP'⟩:∃ p,Hid (p=pwT (k+1)):=⟨_,rfl⟩
   obtain ⟨v',HV'⟩:∃ p,Hid (p=ivT (k+1)):=⟨_,rfl⟩
   rw[←HP'.out] at K3
   rw[←HV'.out] at K4
   rw[←HP.out,←HV.out]
   obtain ⟨c0,hc0⟩:=Yn HR.out.1.s p hp
   have hf0:=Yj HR.out.1.s p hp
   have hpi:((p:Nat):Int)<256:=by omega
   have hvi:IntKind.i64.wrap ((v:Nat):Int)=((v:Nat):Int):=Dk _ (by omega) (by omega)
   go_wp2_with (first | (go_at_call 162;(refine (K1.out _).mono ?_);(rintro e2 w2 ⟨rfl,hw2⟩;obtain rfl:=hw2.symm)) | (go_at_call 113;(refine (K3.out _).mono ?_)))
   rintro e4 w4 ⟨rfl,hw4⟩
   obtain rfl:=hw4.symm
   go_wp2_with (first | (go_at_call 113;(refine (K4.out _).mono ?_)))
   rintro e5 w5 ⟨rfl,hw5⟩
   obtain rfl:=hw5.symm
   go_wp2
   refine ⟨⟨k+1,by omega,rfl,by rw[HP'.out],by rw[HV'.out],HR.out.1.set _ _ _ (by have:=HBB.out;omega),fun j hj=>?_⟩,?_⟩
   ·by_cases hjk:p=pwT j
    ·rw[←hjk];exact Y0 _ HR.out.1.s hp
    ·have hj':j<k:=by
      rcases Nat.lt_or_ge j k with h | h
      ·exact h
      ·exact absurd (show p=pwT j by rw[show j=k by omega];exact HP.out) hjk
     rw[Ze _ _ _ _ _ hjk]
     exact HR.out.2 j hj'
   ·simp only[intOf];omega
  ·obtain rfl:k=255:=by omega
   clear hlt hk
   obtain ⟨p,HP⟩:∃ p,Hid (p=pwT 255):=⟨_,rfl⟩
   obtain ⟨v,HV⟩:∃ p,Hid (p=ivT 255):=⟨_,rfl⟩
   rw[←HP.out,←HV.out]
   have K1:Hid (∀ u,Calls Tryz.prog 162 #[.int .i64 0] u fun e u'=>e=.returned (.int .u8 (SB 0:Nat))∧u'=u):=fun u=>(Fp 0 (by decide) u).mono fun e u' ⟨z,_,hz,h1,h2⟩=>⟨by rw[h1,hz.out];exact congrArg (fun n:Nat=>Ending.returned (.int .u8 (n:Nat))) (by decide +kernel:Cj 0=SB 0),h2⟩
   obtain ⟨z0,HZ0⟩:∃ p,Hid (p=SB 0):=⟨_,rfl⟩
   rw[←HZ0.out] at K1
   obtain ⟨c0,hc0⟩:=Yn HR.out.1.s 0 (by decide)
   have hf0:=Yj HR.out.1.s 0 (by decide)
   go_wp2_with (first | (go_at_call 162;(refine (K1.out _).mono ?_);(rintro e2 w2 ⟨rfl,hw2⟩;obtain rfl:=hw2.symm)))
   have H2:Hid (BxS w b1 b2 b3 (wr.setCell ⟨b2,0,none⟩ (.int .u8 (z0:Nat)))∧∀ j,j<256→(wr.setCell ⟨b2,0,none⟩ (.int .u8 (z0:Nat))).cell? ⟨b2,j,none⟩=some (.int .u8 (SB j:Nat))):=by
    refine ⟨HR.out.1.set _ _ _ (by have:=HBB.out;omega),fun j hj=>?_⟩
    by_cases h0:j=0
    ·subst h0;rw[HZ0.out];exact Y0 _ HR.out.1.s (by decide)
    ·rw[Ze _ _ _ _ _ (fun h=>h0 h.symm)]
     rcases P7 ⟨j,hj⟩ with h | ⟨h1,h2⟩
     ·exact absurd h h0
     ·simp only at h1 h2
      have:=HR.out.2 _ h1
      rw[h2] at this
      exact this
   clear HR hc0 hf0 K1
   generalize wr.setCell ⟨b2,0,none⟩ (.int .u8 (z0:Nat))=w5 at H2 ⊢
   go_loopw [7] (fun i wr=>∃ k:Nat,k≤256∧i=.int .i64 k∧Hid (BxS w b1 b2 b3 wr∧(∀ j,j<256→wr.cell? ⟨b2,j,none⟩=some (.int .u8 (SB j:Nat)))∧∀ j,j<k→wr.cell? ⟨b3,SB j,none⟩=some (.int .u8 (j:Nat)))) (fun i _=>256-(intOf i).toNat)
   case atStart=>exact ⟨0,by omega,rfl,H2.out.1,H2.out.2,fun j hj=>by omega⟩
   case round=>
    obtain ⟨k,hk,rfl,HR⟩:=hrel
    by_cases hlt:k<256
    ·have ck:=HR.out.2.1 k hlt
     obtain ⟨q,HQ⟩:∃ q,Hid (q=SB k):=⟨_,rfl⟩
     rw[←HQ.out] at ck
     have hq:q<256:=by rw[HQ.out];exact Yw k
     have hqi:((q:Nat):Int)<256:=by omega
     have hki:((k:Nat):Int)<256:=by omega
     obtain ⟨c1,hc1⟩:=Yn HR.out.1.t q hq
     have hf1:=Yj HR.out.1.t q hq
     have hm:((k:Nat):Int)%256=((k:Nat):Int):=by omega
     go_wp2
     refine ⟨⟨k+1,by omega,rfl,HR.out.1.set _ _ _ (by have:=HBB.out;omega),fun j hj=>?_,fun j hj=>?_⟩,?_⟩
     ·rw[World.cell?_setCell_far _ _ _ _ (by have:=HBB.out;show b3≠b2;omega)]
      exact HR.out.2.1 j hj
     ·by_cases hjk:j=k
      ·subst hjk;rw[HQ.out] at hq ⊢;exact Y0 _ HR.out.1.t hq
      ·rw[Ze _ _ _ _ _ (fun h=>hjk (Iz (by omega) hlt (h.symm.trans HQ.out)))]
       exact HR.out.2.2 j (by omega)
     ·simp only[intOf];omega
    ·obtain rfl:k=256:=by omega
     have RS:Hid (wr.rangeAt b2 0 sbL):=S4 (fun j hj=>by rw[Nat.zero_add];exact HR.out.2.1 j hj)
     have RU:Hid (wr.rangeAt b3 0 ubL):=Ss (fun j hj=>by
      rw[Nat.zero_add]
      have:=HR.out.2.2 (UB j) (Zbp j)
      rw[(N3 ⟨j,hj⟩).2] at this
      exact this)
     clear hlt hk H2
     go_wp2
     obtain ⟨SL,HSL⟩:∃ L,Hid (L=sbL):=⟨_,rfl⟩
     obtain ⟨UL,HUL⟩:∃ L,Hid (L=ubL):=⟨_,rfl⟩
     rw[←HSL.out] at RS
     rw[←HUL.out] at RU
     have HSl:Hid (SL.toArray.size=256):=by show _=_;rw[HSL.out];exact Co
     have HUl:Hid (UL.toArray.size=256):=by show _=_;rw[HUL.out];exact Ce
     have HSo:Hid (SL.toArray.all (·.oneCell')=true):=by show _=_;rw[HSL.out];exact Rq
     have HUo:Hid (UL.toArray.all (·.oneCell')=true):=by show _=_;rw[HUL.out];exact Rd
     have hS0:∀ p:Addr,b2≤p.block→wr.drew.cell? p=wr.cell? p:=fun p _=>rfl
     have G2:Hid (∀ u:World,(∀ p:Addr,b2≤p.block→u.cell? p=wr.cell? p)→u.rangeAt b2 0 SL):=fun u hu j v hv=>(hu _ (Nat.le_refl _)).trans (RS.out j v hv)
     have G3:Hid (∀ u:World,(∀ p:Addr,b2≤p.block→u.cell? p=wr.cell? p)→u.rangeAt b3 0 UL):=fun u hu j v hv=>(hu _ (Nat.le_of_lt HBB.out.2.2)).trans (RU.out j v hv)
     have HT0:Hid (wr.drew.there w.heap.size 0 SL.toArray.size):=by show World.there _ _ _ _;rw[HSl.out];exact (World.there_drew _ _ _ _).2 HR.out.1.r0
     have HT1:Hid (wr.drew.there b1 0 UL.toArray.size):=by show World.there _ _ _ _;rw[HUl.out];exact (World.there_drew _ _ _ _).2 HR.out.1.r1
     have s65a:Hid ((Tryz.prog.info? 118).map (·.size)=some SL.toArray.size):=by show _=_;rw[HSl.out];exact Cm
     have s65b:Hid ((Tryz.prog.info? 118).map (·.size)=some UL.toArray.size):=by show _=_;rw[HUl.out];exact Cm
     refine wp_region_noPanic ?_
     refine wp_region_held_drew (S:=fun u=>∀ p:Addr,b2≤p.block→u.cell? p=wr.cell? p) (by kernel_rfl) (hS0) (fun _=>?_)
     refine tH 0 33 (.agg SL.toArray) rfl rfl (by kernel_rfl) (hS0) (yieldsIf_load_mid (by kernel_rfl) 118 (.tmp 2) rfl b2 0 rfl SL _ (fun u hu=>G2.out u hu) Tryz.underlying118 rfl s65a.out) ?_
     simp only[pU]
     refine tH 1 34 (.agg UL.toArray) rfl rfl (by kernel_rfl) (hS0) (yieldsIf_load_mid (by kernel_rfl) 118 (.tmp 3) rfl b3 0 rfl UL _ (fun u hu=>G3.out u hu) Tryz.underlying118 rfl s65b.out) ?_
     simp only[pU]
     refine wpAnyH_ready (rs:=[2]) (by kernel_rfl) (by simp) ?_
     refine AllReadyH.cons rfl (fun Kx hK=>?_) AllReadyH.nil
     rw[if_pos (by kernel_rfl)]
     refine wp_store_mid 118 (.tmp 0) (.tmp 33) rfl w.heap.size 0 SL.toArray rfl rfl HT0.out s65a.out HSo.out ?_
     have hS1:∀ p:Addr,b2≤p.block→(wr.drew.setCells w.heap.size 0 SL).cell? p=wr.cell? p:=fun p hp=>(World.cell?_setCells_out _ _ _ _ _ (fun e=>by have:=HBB.out;omega)).trans (hS0 p hp)
     refine hK.out _ _ hS1 (fun _=>?_)
     clear hK Kx
     try simp only[Act.put]
     refine wpAnyH_ready (rs:=[3]) (by kernel_rfl) (by simp) ?_
     refine AllReadyH.cons rfl (fun Kx hK=>?_) AllReadyH.nil
     rw[if_pos (by kernel_rfl)]
     refine wp_store_mid 118 (.tmp 1) (.tmp 34) rfl b1 0 UL.toArray rfl rfl (World.there_setCells HT1.out _ _ _) s65b.out HUo.out ?_
     have hS2:∀ p:Addr,b2≤p.block→((wr.drew.setCells w.heap.size 0 SL).setCells b1 0 UL).cell? p=wr.cell? p:=fun p hp=>(World.cell?_setCells_out _ _ _ _ _ (fun e=>by have:=HBB.out;omega)).trans (hS1 p hp)
     refine hK.out _ _ hS2 (fun _=>?_)
     clear hK Kx
     refine wpAnyH_done (by kernel_rfl) ?_ _
     refine NoPanic.normal ?_
     have hlast:Hid (((wr.drew.setCells w.heap.size 0 SL).setCells b1 0 UL).rangeAt w.heap.size 0 SL):=fun j v hv=>(World.cell?_setCells_out b1 _ _ _ _ (fun e=>by have h1:=HBB.out.1;have h2:w.heap.size=b1:=e;omega)).trans (World.rangeAt_setCells_same _ _ _ _ HT0.out j v hv)
     have hlast2:Hid (((wr.drew.setCells w.heap.size 0 SL).setCells b1 0 UL).rangeAt b1 0 UL):=World.rangeAt_setCells_same _ _ _ _ (World.there_setCells HT1.out _ _ _)
     have hbel:Hid (Below w.heap.size w ((wr.drew.setCells w.heap.size 0 SL).setCells b1 0 UL)):=Zb _ (by have:=HBB.out;omega) _ _ _ (Zb _ (Nat.le_refl _) _ _ _ HR.out.1.old.drew)
     go_wp2
     refine Mn SL UL Tryz.results112 rfl rfl hlast.out hlast2.out Tryz.underlying118 rfl s65a.out s65b.out ⟨by rw[HSL.out,HUL.out],hbel.out⟩
theorem I5:Tryz.zeroCells191.size=4611:=by kernel_rfl
theorem Zfj:Tryz.prog.built 191 []=some Tryz.zeroCells191:=by kernel_rfl
theorem Ra:Tryz.zeroCells191.toList.take 2=[.slice none 0 0,.slice none 0 0]:=by kernel_rfl
theorem I7:Tryz.zeroCells191.toList.drop 4610=[.bool false]:=by kernel_rfl
theorem G8:∀ a:Fin 256,Hw 8 0 a.1 2=Zo a.1:=by decide +kernel
def byF:Nat→Nat→Nat
 | 1,j=>j
 | 2,j=>x2 j
 | 3,j=>x3 j
 | 9,j=>x9 j
 | 11,j=>x11 j
 | 13,j=>x13 j
 | _,j=>x14 j
def byR (r:Nat):Prop:=r=1∨r=2∨r=3∨r=9∨r=11∨r=13∨r=14
structure RkT (w:World) (g m:Nat) (v:World):Prop where
 old:Below g w v
 room:v.there g 0 4611
 lt:g<v.heap.size
 s:∀ j,j<256→v.cell? ⟨g,2+j,none⟩=some (.int .u8 (SB j:Nat))
 u:∀ j,j<256→v.cell? ⟨g,258+j,none⟩=some (.int .u8 (UB j:Nat))
 by':∀ r,byR r→∀ j,j<m→v.cell? ⟨g,514+256*r+j,none⟩=some (.int .u8 (byF r j:Nat))
 wiped:v.cell? ⟨g,4610,none⟩=some (.bool false)
theorem RkT.keep {w v v':World} {g m:Nat} (h:RkT w g m v) (hb:v'.heap[g]?=v.heap[g]?) (ho:Below g w v') (hs:v.heap.size≤v'.heap.size):RkT w g m v':=by
 have hc:∀ j,v'.cell? ⟨g,j,none⟩=v.cell? ⟨g,j,none⟩:=fun j=>World.cell?_of_block (a:=⟨g,j,none⟩) hb
 have hf:∀ j,v'.frozen? ⟨g,j,none⟩=v.frozen? ⟨g,j,none⟩:=fun j=>World.frozen?_of_block (a:=⟨g,j,none⟩) hb
 exact ⟨ho,fun j hj=>by rw[hc,hf];exact h.room j hj,Nat.lt_of_lt_of_le h.lt hs,fun j hj=>(hc _).trans (h.s j hj),fun j hj=>(hc _).trans (h.u j hj),fun r hr j hj=>(hc _).trans (h.by' r hr j hj),(hc _).trans h.wiped⟩
theorem RkT.set {w v:World} {g m:Nat} (h:RkT w g m v) (j:Nat) (x:Value) (hj:j<2):RkT w g m (v.setCell ⟨g,j,none⟩ x):=
 ⟨h.old.setCell (Nat.le_refl _) _,World.there_setCells h.room _ _ [_],by have:=h.lt;simpa [World.setCell] using this,fun i hi=>(Ze _ _ _ _ _ (by omega)).trans (h.s i hi),fun i hi=>(Ze _ _ _ _ _ (by omega)).trans (h.u i hi),fun r hr i hi=>(Ze _ _ _ _ _ (by omega)).trans (h.by' r hr i hi),(Ze _ _ _ _ _ (by omega)).trans h.wiped⟩
def Wd (v:World) (g k:Nat):World:=
 ((((((v.setCell ⟨g,770+k,none⟩ (.int .u8 (k:Nat))).setCell ⟨g,1026+k,none⟩ (.int .u8 (x2 k:Nat))).setCell ⟨g,1282+k,none⟩ (.int .u8 (x3 k:Nat))).setCell ⟨g,2818+k,none⟩ (.int .u8 (x9 k:Nat))).setCell ⟨g,3330+k,none⟩ (.int .u8 (x11 k:Nat))).setCell ⟨g,3842+k,none⟩ (.int .u8 (x13 k:Nat))).setCell ⟨g,4098+k,none⟩ (.int .u8 (x14 k:Nat))
theorem Qp (v:World) (g k j:Nat) (h:j≠770+k∧j≠1026+k∧j≠1282+k∧j≠2818+k∧j≠3330+k∧j≠3842+k∧j≠4098+k):(Wd v g k).cell? ⟨g,j,none⟩=v.cell? ⟨g,j,none⟩:=by
 unfold Wd
 rw[Ze _ _ _ _ _ (by omega),Ze _ _ _ _ _ (by omega),Ze _ _ _ _ _ (by omega),Ze _ _ _ _ _ (by omega),Ze _ _ _ _ _ (by omega),Ze _ _ _ _ _ (by omega),Ze _ _ _ _ _ (by omega)]
theorem No {v:World} {g o n:Nat} (k:Nat) (h:v.there g o n):(Wd v g k).there g o n:=
 World.there_setCells (World.there_setCells (World.there_setCells (World.there_setCells (World.there_setCells (World.there_setCells (World.there_setCells h _ _ [_]) _ _ [_]) _ _ [_]) _ _ [_]) _ _ [_]) _ _ [_]) _ _ [_]
theorem Np {w v:World} {g:Nat} (k:Nat) (h:Below g w v):Below g w (Wd v g k):=
 ((((((h.setCell (Nat.le_refl _) _).setCell (Nat.le_refl _) _).setCell (Nat.le_refl _) _).setCell (Nat.le_refl _) _).setCell (Nat.le_refl _) _).setCell (Nat.le_refl _) _).setCell (Nat.le_refl _) _
theorem Lw (v:World) (g k:Nat):(Wd v g k).heap.size=v.heap.size:=by simp [Wd,World.setCell]
theorem Ia {v:World} {g k:Nat} (ht:v.there g 0 4611) (hk:k<256) (r:Nat) (hr:byR r):(Wd v g k).cell? ⟨g,514+256*r+k,none⟩=some (.int .u8 (byF r k:Nat)):=by
 unfold Wd
 rcases hr with rfl | rfl | rfl | rfl | rfl | rfl | rfl
 ·show World.cell? _ ⟨g,770+k,none⟩=_
  rw[Ze _ _ _ _ _ (by omega),Ze _ _ _ _ _ (by omega),Ze _ _ _ _ _ (by omega),Ze _ _ _ _ _ (by omega),Ze _ _ _ _ _ (by omega),Ze _ _ _ _ _ (by omega)]
  exact Y0 _ ht (by omega)
 ·show World.cell? _ ⟨g,1026+k,none⟩=_
  rw[Ze _ _ _ _ _ (by omega),Ze _ _ _ _ _ (by omega),Ze _ _ _ _ _ (by omega),Ze _ _ _ _ _ (by omega),Ze _ _ _ _ _ (by omega)]
  exact Y0 _ (World.there_setCells ht _ _ [_]) (by omega)
 ·show World.cell? _ ⟨g,1282+k,none⟩=_
  rw[Ze _ _ _ _ _ (by omega),Ze _ _ _ _ _ (by omega),Ze _ _ _ _ _ (by omega),Ze _ _ _ _ _ (by omega)]
  exact Y0 _ (World.there_setCells (World.there_setCells ht _ _ [_]) _ _ [_]) (by omega)
 ·show World.cell? _ ⟨g,2818+k,none⟩=_
  rw[Ze _ _ _ _ _ (by omega),Ze _ _ _ _ _ (by omega),Ze _ _ _ _ _ (by omega)]
  exact Y0 _ (World.there_setCells (World.there_setCells (World.there_setCells ht _ _ [_]) _ _ [_]) _ _ [_]) (by omega)
 ·show World.cell? _ ⟨g,3330+k,none⟩=_
  rw[Ze _ _ _ _ _ (by omega),Ze _ _ _ _ _ (by omega)]
  exact Y0 _ (World.there_setCells (World.there_setCells (World.there_setCells (World.there_setCells ht _ _ [_]) _ _ [_]) _ _ [_]) _ _ [_]) (by omega)
 ·show World.cell? _ ⟨g,3842+k,none⟩=_
  rw[Ze _ _ _ _ _ (by omega)]
  exact Y0 _ (World.there_setCells (World.there_setCells (World.there_setCells (World.there_setCells (World.there_setCells ht _ _ [_]) _ _ [_]) _ _ [_]) _ _ [_]) _ _ [_]) (by omega)
 ·show World.cell? _ ⟨g,4098+k,none⟩=_
  exact Y0 _ (World.there_setCells (World.there_setCells (World.there_setCells (World.there_setCells (World.there_setCells (World.there_setCells ht _ _ [_]) _ _ [_]) _ _ [_]) _ _ [_]) _ _ [_]) _ _ [_]) (by omega)
theorem RkT.more {w v:World} {g k:Nat} (h:RkT w g k v) (hk:k<256):RkT w g (k+1) (Wd v g k):=by
 refine ⟨Np k h.old,No k h.room,by rw[Lw];exact h.lt,fun j hj=>(Qp _ _ _ _ (by omega)).trans (h.s j hj),fun j hj=>(Qp _ _ _ _ (by omega)).trans (h.u j hj),fun r hr j hj=>?_,(Qp _ _ _ _ (by omega)).trans h.wiped⟩
 by_cases hjk:j=k
 ·subst hjk;exact Ia h.room hk r hr
 ·rw[Qp _ _ _ _ (by rcases hr with rfl | rfl | rfl | rfl | rfl | rfl | rfl<;>omega)]
  exact h.by' r hr j (by omega)
theorem Ry {w:World} {base e sz n g o:Nat} {v x:Value} {xs:List Value} (h:w.ownsRow base e sz v n xs) (hg:g<base):(w.setCell ⟨g,o,none⟩ x).ownsRow base e sz v n xs:=
 h.kept (row:=some g) ⟨rfl,rfl,rfl,by simp [World.setCell],fun k hk hne=>World.heap_setCells_other w g o [x] hk (fun q=>hne (by rw[q]))⟩ (by
  cases hv:v.ownBlock with
  | none=>exact .inl rfl
  | some k=>right;intro q;have:=(h.lt k hv).1;simp at q;omega)
structure Tr (v:World) (tb:Nat) (f:Nat→Nat):Prop where
 lt:tb<v.heap.size
 c:∀ j,j<4→v.cell? ⟨tb,j,none⟩=some (.int .u8 (f j:Nat))
theorem Tr.below {v v':World} {tb:Nat} {f:Nat→Nat} (h:Tr v tb f) (hb:Below v.heap.size v v'):Tr v' tb f:=
 ⟨Nat.lt_of_lt_of_le h.lt hb.size,fun j hj=>(hb.cell (p:=⟨tb,j,none⟩) h.lt).trans (h.c j hj)⟩
theorem Tr.new (v:World) (a b c d:Nat):Tr (v.alloc (.cells #[.int .u8 (a:Nat),.int .u8 (b:Nat),.int .u8 (c:Nat),.int .u8 (d:Nat)] 5)) v.heap.size (fun j=>if j=0 then a else if j=1 then b else if j=2 then c else d):=by
 refine ⟨by simp,fun j hj=>?_⟩
 rw[World.cell?_alloc_at _ 5 _ _ rfl]
 have hm:j=0∨j=1∨j=2∨j=3:=by omega
 rcases hm with rfl | rfl | rfl | rfl<;>rfl
theorem Tr.app {v v1 v2:World} {tb gr g:Nat} {f:Nat→Nat} {x:Value} (h:Tr v tb f) (hb:Below v.heap.size v v1) (hg:v1.grownBy v2 (some gr)) (hne:gr≠tb) (hg2:g≠tb):Tr (v2.setCell ⟨g,1,none⟩ x) tb f:=by
 have h1:=h.below hb
 refine ⟨by have:=Nat.lt_of_lt_of_le h1.lt hg.size;simpa [World.setCell] using this,fun j hj=>?_⟩
 rw[World.cell?_setCell_far _ _ _ _ (by exact hg2)]
 exact (World.cell?_of_block (a:=⟨tb,j,none⟩) (hg.block tb h1.lt (by simp;omega))).trans (h1.c j hj)
def fL (f:Nat→Nat) (m:Nat):List Value:=(List.range m).map fun j=>.int .u8 (f j:Nat)
theorem Ep (f:Nat→Nat) (m:Nat):(fL f m).length=m:=by simp [fL]
theorem Er (f:Nat→Nat) (m j:Nat) (h:j<m):(fL f m)[j]?=some (.int .u8 (f j:Nat)):=by simp [fL,h]
def fUp (f:Nat→Nat) (m x j:Nat):Nat:=if j=m then x else f j
theorem Zdb {f:Nat→Nat} (h:∀ j,f j<256) (m:Nat) {x:Nat} (hx:x<256) (j:Nat):fUp f m x j<256:=by unfold fUp;split;exact hx;exact h j
theorem Zey (f:Nat→Nat) (m x:Nat):fL (fUp f m x) (m+1)=fL f m++[.int .u8 (x:Nat)]:=by
 unfold fL
 rw[List.range_succ,List.map_append]
 congr 1
 ·apply List.map_congr_left
  intro j hj
  rw[List.mem_range] at hj
  unfold fUp
  rw[if_neg (by omega)]
 ·simp [fUp]
structure RkW (w:World) (g gr c m:Nat) (f:Nat→Nat) (v:World):Prop where
 t:RkT w g 256 v
 r:v.cell? ⟨g,1,none⟩=some (.slice (some ⟨gr,0,none⟩) m c)
 o:v.ownsRow (g+1) 5 1 (.slice (some ⟨gr,0,none⟩) m c) m (fL f m)
 b:∀ j,f j<256
theorem RkW.gr_lt {w v:World} {g gr c m:Nat} {f:Nat→Nat} (h:RkW w g gr c m f v):g<gr∧gr<v.heap.size:=by
 have:=h.o.lt gr rfl
 exact ⟨by omega,this.2⟩
theorem RkW.cell {w v:World} {g gr c m:Nat} {f:Nat→Nat} (h:RkW w g gr c m f v) (j:Nat) (hj:j<m):v.cell? ⟨gr,j,none⟩=some (.int .u8 (f j:Nat)):=by
 rw[h.o.cellAt j (by omega)]
 exact Er f m j hj
theorem RkW.below {w v v':World} {g gr c m:Nat} {f:Nat→Nat} (h:RkW w g gr c m f v) (hb:Below v.heap.size v v'):RkW w g gr c m f v':=
 ⟨h.t.keep (hb.block g h.t.lt) (h.t.old.trans (hb.mono (Nat.le_of_lt h.t.lt))) hb.size,(hb.cell (p:=⟨g,1,none⟩) h.t.lt).trans h.r,
  h.o.kept (row:=none) ⟨hb.os,hb.tape,hb.output,hb.size,fun k hk _=>hb.block k hk⟩ (by simp [Value.ownBlock]),h.b⟩
theorem RkW.app {w v v1 v2:World} {g gr c m g' c':Nat} {f:Nat→Nat} {x:Nat} (h:RkW w g gr c m f v) (hb:Below v.heap.size v v1) (hx:x<256) (ho:v2.ownsRow (g+1) 5 1 (.slice (some ⟨g',0,none⟩) (m+1) c') (m+1) (fL f m++[.int .u8 (x:Nat)])) (hg:v1.grownBy v2 (some gr)) :
  RkW w g g' c' (m+1) (fUp f m x) (v2.setCell ⟨g,1,none⟩ (.slice (some ⟨g',0,none⟩) (m+1) c')):=by
 have h1:=h.below hb
 have hne:some g≠some gr:=by have:=h.gr_lt;simp;omega
 have hgb:=hg.block g h1.t.lt hne
 have ht:RkT w g 256 v2:=h1.t.keep hgb (h1.t.old.grown hg (Nat.le_of_lt h1.t.lt) (by intro q hq;have:=h.gr_lt;simp at hq;omega)) hg.size
 refine ⟨ht.set 1 _ (by omega),Y0 _ ht.room (by omega),Ry ?_ (Nat.lt_succ_self g),Zdb h.b m hx⟩
 rw[Zey]
 exact ho
theorem Zcg (nk n:Nat) (h:nk=4∨nk=6∨nk=8) (hn:n=4*nk):(n:Int).tdiv 4=(nk:Int)∧(n:Int)/4=(nk:Int)∧IntKind.i64.wrap (nk:Int)=(nk:Int)∧IntKind.i64.wrap ((nk:Int)+7)=((nk+7:Nat):Int)∧IntKind.i64.wrap (4*((nk+7:Nat):Int))=((4*(nk+7):Nat):Int)∧((nk:Int)==0)=false∧(nk:Int)≠0∧¬ nk=0∧16≤n∧n≤32:=by
 refine ⟨?_,by omega,?_,?_,?_,by simp;omega,by omega,by omega,by omega,by omega⟩
 ·rw[Int.tdiv_eq_ediv_of_nonneg (by omega)];omega
 ·rw[IntKind.wrap_i64];omega
 ·rw[IntKind.wrap_i64];omega
 ·rw[IntKind.wrap_i64];omega
theorem RkT.sv {w v:World} {g m:Nat} (h:RkT w g m v) (b:Nat) (hb:b<256):∃ x:Nat,x<256∧v.cell? ⟨g,2+b,none⟩=some (.int .u8 (x:Nat)):=⟨SB b,Yw _,h.s b hb⟩
theorem Zei (ii:Nat) (h1:4≤ii) (h2:ii≤60):4*((ii:Nat):Int)-4=((4*ii-4:Nat):Int)∧4*((ii:Nat):Int)-3=((4*ii-3:Nat):Int)∧4*((ii:Nat):Int)-2=((4*ii-2:Nat):Int)∧4*((ii:Nat):Int)-1=((4*ii-1:Nat):Int)∧IntKind.i64.wrap ((4*ii-4:Nat):Int)=((4*ii-4:Nat):Int)∧IntKind.i64.wrap ((4*ii-3:Nat):Int)=((4*ii-3:Nat):Int)∧IntKind.i64.wrap ((4*ii-2:Nat):Int)=((4*ii-2:Nat):Int)∧IntKind.i64.wrap ((4*ii-1:Nat):Int)=((4*ii-1:Nat):Int)∧IntKind.i64.wrap (4*((ii:Nat):Int))=4*((ii:Nat):Int)∧IntKind.i64.wrap (((ii:Nat):Int)+1)=((ii+1:Nat):Int):=by
 refine ⟨by omega,by omega,by omega,by omega,?_,?_,?_,?_,?_,?_⟩<;>(rw[IntKind.wrap_i64];omega)
theorem Zej (ii nk jj:Nat) (h1:nk≤ii) (h2:ii≤60) (h3:jj<4):IntKind.i64.wrap (((ii:Nat):Int)-((nk:Nat):Int))=((ii-nk:Nat):Int)∧IntKind.i64.wrap (4*((ii-nk:Nat):Int))=((4*(ii-nk):Nat):Int)∧((4*(ii-nk):Nat):Int)+((jj:Nat):Int)=((4*(ii-nk)+jj:Nat):Int)∧IntKind.i64.wrap ((4*(ii-nk)+jj:Nat):Int)=((4*(ii-nk)+jj:Nat):Int)∧IntKind.i64.wrap (((jj:Nat):Int)+1)=((jj+1:Nat):Int):=by
 refine ⟨?_,?_,by omega,?_,?_⟩<;>(rw[IntKind.wrap_i64];omega)
theorem Zch (nk n:Nat) (h:nk=4∨nk=6∨nk=8) (hn:n=4*nk):((n:Int) != 16&&(n:Int) != 24&&(n:Int) != 32)=false:=by
 rcases h with rfl | rfl | rfl<;>subst hn<;>decide
end Go.Proofs.YtehlppaidgkpaaaGreatDoor
