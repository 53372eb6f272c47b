import Derived.Test.YtehlppaidgkpaaaGreatDoorPart24
import Derived.Deep.RegionHeld3
import Derived.WalkKit
import Derived.Test.YtehlppaidgkpaaaGreatDoorPart03
import Derived.Deep.AppendLies
namespace Go.Proofs.YtehlppaidgkpaaaGreatDoor.Dg
open Go.RowKit
set_option linter.unusedVariables false
set_option linter.unusedSimpArgs false
def Yq (wd:Bool) (s:Zb):List Int:=(List.range 64).map (X0 (wsz wd) s)
theorem Ku (wd:Bool) (s:Zb):(Yq wd s).length=64:=by simp [Yq]
theorem Fw (wd:Bool) (s:Zb):Ze (wsz wd) s=Za (Yq wd s):=by simp [Ze,Za,Yq]
theorem Hi {w:World} {B B':Nat} {e:TypeId} {s n:Nat} {v:Value} {xs:List Value} (h:w.ownsRow B e s v n xs) (hB:B'≤B):w.ownsRow B' e s v n xs:=by
 obtain ⟨h1,h2⟩:=h
 rcases h2 with h2 | ⟨g,c,cur,e1,e2,e3⟩
 ·exact ⟨h1,.inl h2⟩
 ·exact ⟨h1,.inr ⟨g,c,cur,e1,by omega,e3⟩⟩
theorem Rj {h:Int} (k:X8 h) (C:List Value) (zs:List Int) (w:World) (hC:C=Za zs) (hz:zs.length=64) :
  Calls Tryz.prog 59 #[.agg C.toArray,.int .i64 (Yr h)] w fun e w'=>∃ g,e=.returned (.slice (some ⟨g,0,none⟩) (Yr h) (Yr h))∧w'.ownsRow w.heap.size 5 1 (.slice (some ⟨g,0,none⟩) (Yr h) (Yr h)) (Yr h) (Za (zs.take (Yr h)))∧Below w.heap.size w w':=by
 obtain rfl:h=256:=k
 exact Im C zs w hC hz
set_option maxHeartbeats 1600000 in
set_option maxRecDepth 100000 in
theorem Zdf (g:Nat) (h:Int) (s0:Zb) (zs:List Int) (w:World) (k:Hid (X8 h)) (hr:Hid (Rep w g 0 h (Xe h) s0 0 zs)) (hT:Hid (Tables w)) (hfed:Hid (zs.length≤1152921504606846976)) :
  Calls Tryz.prog 35 #[.pointer (some ⟨g,0,none⟩)] w fun e w'=>∃ b,e=.returned (.slice (some ⟨b,0,none⟩) (Yr h) (Yr h))∧w'.ownsRow w.heap.size 5 1 (.slice (some ⟨b,0,none⟩) (Yr h) (Yr h)) (Yr h) (Za ((Yq (Xe h) (Wz (Xe h) s0 0 zs)).take (Yr h)))∧Below w.heap.size w w':=by
 obtain ⟨half,hk,hh,hf⟩:=hr.out
 obtain ⟨T,HTT⟩:∃ T:List Value,Hid (T=tkL h (Xe h) (TT (Xe h) (fnz zs) s0 (zs.length/bsz (Xe h))) half (0+zs.length)):=⟨_,rfl⟩
 have HG:Hid (V1 T):=by show V1 T;rw[HTT.out];exact Of _ _ _ _ _
 have HR:Hid (w.rangeAt g 0 T):=by show w.rangeAt g 0 T;rw[HTT.out];exact hk.range
 have HX:Hid ((w.alloc (.cells Tryz.zeroCells141 141)).there w.heap.size 0 139):=Zk w Tryz.zeroCells141 141 139 (by rw[Vr,Gc];exact Nat.le_refl _)
 have HC0:Hid (g<w.heap.size∧w.cell? ⟨g,0,none⟩=some (.int .i64 h)):=⟨lt_of_cell hk.hash,hk.hash⟩
 have HREP:Hid (∀ v,v.rangeAt w.heap.size 0 T→v.there w.heap.size 0 139→Rep v w.heap.size 0 h (Xe h) s0 0 zs):=fun v hr ht=>⟨half,TK.of (by rw[←HTT.out];exact hr) ht,hh,hf⟩
 clear hk hh hf
 go_enter Tryz.func35,Tryz.ntmps35
 go_upto_region 4 with (first
  | (refine wpList_load_mid (by rfl) 141 (.tmp 9) (by rfl) g 0 (by rfl) T _ HR.out Tryz.underlying141 rfl (by rw[HG.out.len];exact Kz) ?_)
  | (refine wpList_store_mid (by rfl) 141 (.tmp 3) (.tmp 10) (by rfl) w.heap.size 0 T.toArray (by rfl) (by rfl) (by rw[HG.out.size];exact HX.out) HG.out.info HG.out.one ?_)
  | fail)
 have HR2:Hid (((w.alloc (.cells Tryz.zeroCells141 141)).setCells w.heap.size 0 T).rangeAt w.heap.size 0 T):=World.rangeAt_setCells_same _ _ _ _ (by rw[HG.out.len];exact HX.out)
 have HB2:Hid (Below w.heap.size w ((w.alloc (.cells Tryz.zeroCells141 141)).setCells w.heap.size 0 T)∧((w.alloc (.cells Tryz.zeroCells141 141)).setCells w.heap.size 0 T).there w.heap.size 0 139∧((w.alloc (.cells Tryz.zeroCells141 141)).setCells w.heap.size 0 T).heap.size=w.heap.size+1):=⟨below_setCells _ (Nat.le_refl _) _ _ _ ((Below.refl _ _).alloc (Nat.le_refl _) _),World.there_setCells HX.out _ _ _,by rw[size_setCells];simp⟩
 generalize (w.alloc (.cells Tryz.zeroCells141 141)).setCells w.heap.size 0 T=w2 at HR2 HB2 ⊢
 clear HX HR
 go_wp2_with (first | (go_at_call 58;refine (Nv (Xe h) w.heap.size 0 h s0 0 zs w2 k.out.block (HREP.out w2 HR2.out HB2.out.2.1) (by have:=hfed.out;omega) (hT.out.below HB2.out.1 hT.out.size) hT.out.size).mono ?_))
 rintro e3 w3 ⟨rfl,ht3,_⟩
 obtain ⟨C,HC⟩:∃ C:List Value,Hid (C=Za (Yq (Xe h) (Wz (Xe h) s0 0 zs))):=⟨_,(show _=_ from rfl)⟩
 rw[Fw,←HC.out]
 have HL:Hid (C.length=64):=by show C.length=64;rw[HC.out,Zr,Ku]
 have HLA:Hid (C.toArray.size=64):=by show C.toArray.size=64;simpa using HL.out
 have HO:Hid (C.toArray.all (·.oneCell')=true):=all_oneCell_toArray (by rw[HC.out];exact Xw _)
 have HB3:Hid (Below w.heap.size w w3):=HB2.out.1.trans (ht3.toBelow (Nat.le_refl _) (by have:=HB2.out.2.2;omega))
 have HX:Hid ((w3.alloc (.cells #[.int .u8 0,.int .u8 0,.int .u8 0,.int .u8 0,.int .u8 0,.int .u8 0,.int .u8 0,.int .u8 0,.int .u8 0,.int .u8 0,.int .u8 0,.int .u8 0,.int .u8 0,.int .u8 0,.int .u8 0,.int .u8 0,.int .u8 0,.int .u8 0,.int .u8 0,.int .u8 0,.int .u8 0,.int .u8 0,.int .u8 0,.int .u8 0,.int .u8 0,.int .u8 0,.int .u8 0,.int .u8 0,.int .u8 0,.int .u8 0,.int .u8 0,.int .u8 0,.int .u8 0,.int .u8 0,.int .u8 0,.int .u8 0,.int .u8 0,.int .u8 0,.int .u8 0,.int .u8 0,.int .u8 0,.int .u8 0,.int .u8 0,.int .u8 0,.int .u8 0,.int .u8 0,.int .u8 0,.int .u8 0,.int .u8 0,.int .u8 0,.int .u8 0,.int .u8 0,.int .u8 0,.int .u8 0,.int .u8 0,.int .u8 0,.int .u8 0,.int .u8 0,.int .u8 0,.int .u8 0,.int .u8 0,.int .u8 0,.int .u8 0,.int .u8 0] 147)).there w3.heap.size 0 64):=Zk w3 _ 147 64 (by decide)
 clear ht3
 go_upto_region 5 with (first
  | (refine wpList_store_mid (by rfl) 147 (.tmp 4) (.tmp 11) (by rfl) w3.heap.size 0 C.toArray (by rfl) (by rfl) (by rw[HLA.out];exact HX.out) (by rw[HLA.out];exact Jp) HO.out ?_)
  | fail)
 have HR4:Hid (((w3.alloc (.cells #[.int .u8 0,.int .u8 0,.int .u8 0,.int .u8 0,.int .u8 0,.int .u8 0,.int .u8 0,.int .u8 0,.int .u8 0,.int .u8 0,.int .u8 0,.int .u8 0,.int .u8 0,.int .u8 0,.int .u8 0,.int .u8 0,.int .u8 0,.int .u8 0,.int .u8 0,.int .u8 0,.int .u8 0,.int .u8 0,.int .u8 0,.int .u8 0,.int .u8 0,.int .u8 0,.int .u8 0,.int .u8 0,.int .u8 0,.int .u8 0,.int .u8 0,.int .u8 0,.int .u8 0,.int .u8 0,.int .u8 0,.int .u8 0,.int .u8 0,.int .u8 0,.int .u8 0,.int .u8 0,.int .u8 0,.int .u8 0,.int .u8 0,.int .u8 0,.int .u8 0,.int .u8 0,.int .u8 0,.int .u8 0,.int .u8 0,.int .u8 0,.int .u8 0,.int .u8 0,.int .u8 0,.int .u8 0,.int .u8 0,.int .u8 0,.int .u8 0,.int .u8 0,.int .u8 0,.int .u8 0,.int .u8 0,.int .u8 0,.int .u8 0,.int .u8 0] 147)).setCells w3.heap.size 0 C).rangeAt w3.heap.size 0 C):=World.rangeAt_setCells_same _ _ _ _ (by rw[HL.out];exact HX.out)
 have HB4:Hid (Below w.heap.size w ((w3.alloc (.cells #[.int .u8 0,.int .u8 0,.int .u8 0,.int .u8 0,.int .u8 0,.int .u8 0,.int .u8 0,.int .u8 0,.int .u8 0,.int .u8 0,.int .u8 0,.int .u8 0,.int .u8 0,.int .u8 0,.int .u8 0,.int .u8 0,.int .u8 0,.int .u8 0,.int .u8 0,.int .u8 0,.int .u8 0,.int .u8 0,.int .u8 0,.int .u8 0,.int .u8 0,.int .u8 0,.int .u8 0,.int .u8 0,.int .u8 0,.int .u8 0,.int .u8 0,.int .u8 0,.int .u8 0,.int .u8 0,.int .u8 0,.int .u8 0,.int .u8 0,.int .u8 0,.int .u8 0,.int .u8 0,.int .u8 0,.int .u8 0,.int .u8 0,.int .u8 0,.int .u8 0,.int .u8 0,.int .u8 0,.int .u8 0,.int .u8 0,.int .u8 0,.int .u8 0,.int .u8 0,.int .u8 0,.int .u8 0,.int .u8 0,.int .u8 0,.int .u8 0,.int .u8 0,.int .u8 0,.int .u8 0,.int .u8 0,.int .u8 0,.int .u8 0,.int .u8 0] 147)).setCells w3.heap.size 0 C)):=below_setCells _ HB3.out.size _ _ _ (HB3.out.alloc HB3.out.size _)
 have HS4:Hid (((w3.alloc (.cells #[.int .u8 0,.int .u8 0,.int .u8 0,.int .u8 0,.int .u8 0,.int .u8 0,.int .u8 0,.int .u8 0,.int .u8 0,.int .u8 0,.int .u8 0,.int .u8 0,.int .u8 0,.int .u8 0,.int .u8 0,.int .u8 0,.int .u8 0,.int .u8 0,.int .u8 0,.int .u8 0,.int .u8 0,.int .u8 0,.int .u8 0,.int .u8 0,.int .u8 0,.int .u8 0,.int .u8 0,.int .u8 0,.int .u8 0,.int .u8 0,.int .u8 0,.int .u8 0,.int .u8 0,.int .u8 0,.int .u8 0,.int .u8 0,.int .u8 0,.int .u8 0,.int .u8 0,.int .u8 0,.int .u8 0,.int .u8 0,.int .u8 0,.int .u8 0,.int .u8 0,.int .u8 0,.int .u8 0,.int .u8 0,.int .u8 0,.int .u8 0,.int .u8 0,.int .u8 0,.int .u8 0,.int .u8 0,.int .u8 0,.int .u8 0,.int .u8 0,.int .u8 0,.int .u8 0,.int .u8 0,.int .u8 0,.int .u8 0,.int .u8 0,.int .u8 0] 147)).setCells w3.heap.size 0 C).heap.size=w3.heap.size+1):=by show _=_;rw[size_setCells];simp
 generalize (w3.alloc (.cells #[.int .u8 0,.int .u8 0,.int .u8 0,.int .u8 0,.int .u8 0,.int .u8 0,.int .u8 0,.int .u8 0,.int .u8 0,.int .u8 0,.int .u8 0,.int .u8 0,.int .u8 0,.int .u8 0,.int .u8 0,.int .u8 0,.int .u8 0,.int .u8 0,.int .u8 0,.int .u8 0,.int .u8 0,.int .u8 0,.int .u8 0,.int .u8 0,.int .u8 0,.int .u8 0,.int .u8 0,.int .u8 0,.int .u8 0,.int .u8 0,.int .u8 0,.int .u8 0,.int .u8 0,.int .u8 0,.int .u8 0,.int .u8 0,.int .u8 0,.int .u8 0,.int .u8 0,.int .u8 0,.int .u8 0,.int .u8 0,.int .u8 0,.int .u8 0,.int .u8 0,.int .u8 0,.int .u8 0,.int .u8 0,.int .u8 0,.int .u8 0,.int .u8 0,.int .u8 0,.int .u8 0,.int .u8 0,.int .u8 0,.int .u8 0,.int .u8 0,.int .u8 0,.int .u8 0,.int .u8 0,.int .u8 0,.int .u8 0,.int .u8 0,.int .u8 0] 147)).setCells w3.heap.size 0 C=w4 at HR4 HB4 HS4 ⊢
 have HC4:Hid (w4.cell? ⟨g,0,none⟩=some (.int .i64 h)):=by rw[HB4.out.cell (p:=⟨g,0,none⟩) HC0.out.1];exact HC0.out.2
 clear HX HB3 HB2 HR2 HREP HC0
 have HZ:Hid ((Yq (Xe h) (Wz (Xe h) s0 0 zs)).length=64):=Ku _ _
 have hu75:=Tryz.underlying147
 have hi75:(Tryz.prog.info? 147).map (·.size)=some C.length:=by rw[HL.out];exact Jp
 go_region_held3 (fun v=>v.rangeAt w3.heap.size 0 C∧v.cell? ⟨g,0,none⟩=some (.int .i64 h)) (first | exact ⟨HR4.out,HC4.out⟩ | go_keep | exact hS6) (first
  | (go_at_call 60;refine (Zb7 g h w4.drew k (show Hid (w4.drew.cell? ⟨g,0,none⟩=some (.int .i64 h)) from HC4)).mono ?_;rintro e5 w5 ⟨rfl,hw5⟩;obtain rfl:=hw5.symm)
  | (go_at_call 59;refine (Rj k.out C _ w4.drew HC.out HZ.out).mono ?_;rintro e6 w6 ⟨b,rfl,ho6,hb6⟩;have hS6:w6.rangeAt w3.heap.size 0 C∧w6.cell? ⟨g,0,none⟩=some (.int .i64 h):=⟨fun j v hv=>by rw[hb6.cell (p:=⟨w3.heap.size,0+j,none⟩) (show w3.heap.size<w4.heap.size by have:=HS4.out;omega)];exact HR4.out j v hv,by rw[hb6.cell (p:=⟨g,0,none⟩) (show g<w4.heap.size from lt_of_cell HC4.out)];exact HC4.out⟩))
 have HQ:Hid (w6.ownsRow w.heap.size 5 1 (.slice (some ⟨b,0,none⟩) (Yr h) (Yr h)) (Yr h) (Za ((Yq (Xe h) (Wz (Xe h) s0 0 zs)).take (Yr h)))∧Below w.heap.size w w6):=⟨Hi ho6 HB4.out.size,HB4.out.drew.trans (hb6.mono HB4.out.size)⟩
 clear ho6 hb6 hS6
 go_wp2
 go_ret
 exact ⟨b,rfl,HQ.out.1,HQ.out.2⟩
set_option maxHeartbeats 800000 in
theorem Zdh (h:Int) (yss:List (List Int)) (v:Value) (w:World) (k:Hid (X8 h)) (hp:Hid (∀ u g,Below w.heap.size w u→w.heap.size≤g→Hp u g v yss)) (hT:Hid (Tables w)) (hs:Hid (yss.flatten.length≤33554432)) :
  Calls Tryz.prog 21 #[.int .i64 h,v] w fun e w'=>∃ b,e=.returned (.tuple #[.slice (some ⟨b,0,none⟩) (Yr h) (Yr h),.int .i64 0])∧w'.ownsRow w.heap.size 5 1 (.slice (some ⟨b,0,none⟩) (Yr h) (Yr h)) (Yr h) (Za ((Yq (Xe h) (Wz (Xe h) (Zq h) 0 yss.flatten)).take (Yr h)))∧Below w.heap.size w w':=by
 go_enter Tryz.func21,Tryz.ntmps21
 go_wp2_with (first | (go_at_call 33;refine (To h w k hT).mono ?_))
 rintro e1 w1 ⟨g,rfl,hg,hr1,hb1⟩
 have HR1:Hid (Rep w1 g 0 h (Xe h) (Zq h) 0 []∧Below w.heap.size w w1∧w.heap.size≤g):=⟨hr1,hb1,hg⟩
 have HP1:Hid (Hp w1 g v yss):=hp.out w1 g hb1 hg
 have HT1:Hid (Tables w1):=hT.out.below hb1 hT.out.size
 have hg4:6≤g:=Nat.le_trans hT.out.size hg
 clear hr1 hb1 hg
 go_wp2_with (first | (go_at_call 34;refine (O2 g h (Zq h) [] yss v w1 k HR1.out.1 HP1 HT1 hg4 (by show _≤_;have:=hs.out;simpa using this)).mono ?_))
 rintro e2 w2 ⟨rfl,ht2,hr2⟩
 have HR2:Hid (Rep w2 g 0 h (Xe h) (Zq h) 0 yss.flatten∧Below w.heap.size w w2):=⟨hr2,HR1.out.2.1.trans (ht2.toBelow HR1.out.2.2 HR1.out.2.1.size)⟩
 have HT2:Hid (Tables w2):=HT1.out.touch ht2 hg4
 clear ht2 hr2 HR1 HP1
 go_wp2_with (first | (go_at_call 35;refine (Zdf g h (Zq h) yss.flatten w2 k HR2.out.1 HT2 (by show _≤_;have:=hs.out;omega)).mono ?_))
 rintro e3 w3 ⟨b,rfl,ho3,hb3⟩
 have HQ:Hid (w3.ownsRow w.heap.size 5 1 (.slice (some ⟨b,0,none⟩) (Yr h) (Yr h)) (Yr h) (Za ((Yq (Xe h) (Wz (Xe h) (Zq h) 0 yss.flatten)).take (Yr h)))∧Below w.heap.size w w3):=⟨Hi ho3 HR2.out.2.size,HR2.out.2.trans (hb3.mono HR2.out.2.size)⟩
 clear ho3 hb3
 go_wp2
 go_ret2
 exact ⟨b,rfl,HQ.out.1,HQ.out.2⟩
theorem Dk {u:World} (t:TypeId) (x:Value) (ys:List Int) (g:Nat) (hx:Zf u x ys) (hg:u.heap.size≠g) (hox:ys≠[]→∀ b off l c,x=.slice (some ⟨b,off,none⟩) l c→b≠g):Hp (u.alloc (.cells #[x] t)) g (.slice (some ⟨u.heap.size,0,none⟩) 1 1) [ys]:=by
 refine ⟨_,1,rfl,by simp,by simp [maxLen],.inr ⟨u.heap.size,0,rfl,hg,fun i hi=>?_⟩⟩
 obtain rfl:i=0:=by simpa using hi
 exact ⟨x,World.cell?_alloc_at _ _ _ _ rfl,hx.kept (fun q hq=>Below.heap_alloc u _ q hq),hox⟩
theorem Ir:Tryz.prog.elem 22=5:=by kernel_rfl
theorem Ox:Tryz.prog.underlying 22=some (.slice (Tryz.prog.elem 22)):=by kernel_rfl
theorem Sw (w:World):(Go.sizeOf 5).run Tryz.prog w=.ok 1 w:=by kernel_rfl
def Qd (h:Int) (zs:List Int):List Int:=(Yq (Xe h) (Wz (Xe h) (Zq h) 0 zs)).take (Yr h)
theorem Sr {h:Int} (k:X8 h):1≤Yr h∧Yr h≤64:=by obtain rfl:h=256:=k;decide
theorem Sh {w:World} {B n:Nat} {v:Value} {zs:List Int} (h:w.ownsRow B 5 1 v n (Za zs)) (hn:zs.length=n):Zf w v zs:=by
 have h0:=h
 rcases h.2 with ⟨rfl,e0⟩ | ⟨g,c,cur,rfl,q1,q2,q3,q4,q5,q6⟩
 ·refine ⟨none,0,by rw[hn,e0],by omega,by simp [maxLen],fun _=>rfl,Or.inl (List.eq_nil_of_length_eq_zero (by omega))⟩
 ·refine ⟨some ⟨g,0,none⟩,c,by rw[hn],by omega,q4,(fun e=>by cases e),Or.inr ⟨g,0,rfl,fun i hi=>?_⟩⟩
  have hc:=h0.cells (g:=g) rfl i (.int .u8 (zs.getD i 0)) (by simp [Za,List.getD,List.getElem?_eq_getElem hi])
  rw[Addr.add_lit] at hc
  exact hc
theorem Cc (h:Int) (k:X8 h) (X:List Int):(Qd h X).length=Yr h:=by
 have:=Sr k
 simp [Qd,Yq]
 omega
end Go.Proofs.YtehlppaidgkpaaaGreatDoor.Dg
namespace Go.Proofs.YtehlppaidgkpaaaGreatDoor
open Go.RowKit
set_option linter.unusedVariables false
structure Tr (v:World) (tb:Nat) (f:Nat→Nat):Prop where
 lt:tb<v.heap.size
 c:∀ j,j<4→v.cell? ⟨tb,j,none⟩=some (.int .u8 (f j:Nat))
theorem Tr.below {v v':World} {tb:Nat} {f:Nat→Nat} (h:Tr v tb f) (hb:Below v.heap.size v v'):Tr v' tb f:=
 ⟨Nat.lt_of_lt_of_le h.lt hb.size,fun j hj=>(hb.cell (p:=⟨tb,j,none⟩) h.lt).trans (h.c j hj)⟩
theorem Tr.new (v:World) (a b c d:Nat):Tr (v.alloc (.cells #[.int .u8 (a:Nat),.int .u8 (b:Nat),.int .u8 (c:Nat),.int .u8 (d:Nat)] 5)) v.heap.size (fun j=>if j=0 then a else if j=1 then b else if j=2 then c else d):=by
 refine ⟨by simp,fun j hj=>?_⟩
 rw[World.cell?_alloc_at _ 5 _ _ rfl]
 have hm:j=0∨j=1∨j=2∨j=3:=by omega
 rcases hm with rfl | rfl | rfl | rfl<;>rfl
theorem Tr.app {v v1 v2:World} {tb gr g:Nat} {f:Nat→Nat} {x:Value} (h:Tr v tb f) (hb:Below v.heap.size v v1) (hg:v1.grownBy v2 (some gr)) (hne:gr≠tb) (hg2:g≠tb):Tr (v2.setCell ⟨g,1,none⟩ x) tb f:=by
 have h1:=h.below hb
 refine ⟨by have:=Nat.lt_of_lt_of_le h1.lt hg.size;simpa [World.setCell] using this,fun j hj=>?_⟩
 rw[World.cell?_setCell_far _ _ _ _ (by exact hg2)]
 exact (World.cell?_of_block (a:=⟨tb,j,none⟩) (hg.block tb h1.lt (by simp;omega))).trans (h1.c j hj)
def fL (f:Nat→Nat) (m:Nat):List Value:=(List.range m).map fun j=>.int .u8 (f j:Nat)
theorem Uk (f:Nat→Nat) (m:Nat):(fL f m).length=m:=by simp [fL]
theorem Ul (f:Nat→Nat) (m j:Nat) (h:j<m):(fL f m)[j]?=some (.int .u8 (f j:Nat)):=by simp [fL,h]
def fUp (f:Nat→Nat) (m x j:Nat):Nat:=if j=m then x else f j
theorem Zba {f:Nat→Nat} (h:∀ j,f j<256) (m:Nat) {x:Nat} (hx:x<256) (j:Nat):fUp f m x j<256:=by unfold fUp;split;exact hx;exact h j
theorem Zc3 (f:Nat→Nat) (m x:Nat):fL (fUp f m x) (m+1)=fL f m++[.int .u8 (x:Nat)]:=by
 unfold fL
 rw[List.range_succ,List.map_append]
 congr 1
 ·apply List.map_congr_left
  intro j hj
  rw[List.mem_range] at hj
  unfold fUp
  rw[if_neg (by omega)]
 ·simp [fUp]
structure RkW (w:World) (g gr c m:Nat) (f:Nat→Nat) (v:World):Prop where
 t:RkT w g 256 v
 r:v.cell? ⟨g,1,none⟩=some (.slice (some ⟨gr,0,none⟩) m c)
 o:v.ownsRow (g+1) 5 1 (.slice (some ⟨gr,0,none⟩) m c) m (fL f m)
 b:∀ j,f j<256
theorem RkW.gr_lt {w v:World} {g gr c m:Nat} {f:Nat→Nat} (h:RkW w g gr c m f v):g<gr∧gr<v.heap.size:=by
 have:=h.o.lt gr rfl
 exact ⟨by omega,this.2⟩
theorem RkW.cell {w v:World} {g gr c m:Nat} {f:Nat→Nat} (h:RkW w g gr c m f v) (j:Nat) (hj:j<m):v.cell? ⟨gr,j,none⟩=some (.int .u8 (f j:Nat)):=by
 rw[h.o.cellAt j (by omega)]
 exact Ul f m j hj
theorem RkW.below {w v v':World} {g gr c m:Nat} {f:Nat→Nat} (h:RkW w g gr c m f v) (hb:Below v.heap.size v v'):RkW w g gr c m f v':=
 ⟨h.t.keep (hb.block g h.t.lt) (h.t.old.trans (hb.mono (Nat.le_of_lt h.t.lt))) hb.size,(hb.cell (p:=⟨g,1,none⟩) h.t.lt).trans h.r,
  h.o.kept (row:=none) ⟨hb.os,hb.tape,hb.output,hb.size,fun k hk _=>hb.block k hk⟩ (by simp [Value.ownBlock]),h.b⟩
theorem RkW.app {w v v1 v2:World} {g gr c m g' c':Nat} {f:Nat→Nat} {x:Nat} (h:RkW w g gr c m f v) (hb:Below v.heap.size v v1) (hx:x<256) (ho:v2.ownsRow (g+1) 5 1 (.slice (some ⟨g',0,none⟩) (m+1) c') (m+1) (fL f m++[.int .u8 (x:Nat)])) (hg:v1.grownBy v2 (some gr)) :
  RkW w g g' c' (m+1) (fUp f m x) (v2.setCell ⟨g,1,none⟩ (.slice (some ⟨g',0,none⟩) (m+1) c')):=by
 have h1:=h.below hb
 have hne:some g≠some gr:=by have:=h.gr_lt;simp;omega
 have hgb:=hg.block g h1.t.lt hne
 have ht:RkT w g 256 v2:=h1.t.keep hgb (h1.t.old.grown hg (Nat.le_of_lt h1.t.lt) (by intro q hq;have:=h.gr_lt;simp at hq;omega)) hg.size
 refine ⟨ht.set 1 _ (by omega),Yy _ ht.room (by omega),M1 ?_ (Nat.lt_succ_self g),Zba h.b m hx⟩
 rw[Zc3]
 exact ho
theorem Zac (nk n:Nat) (h:nk=4∨nk=6∨nk=8) (hn:n=4*nk):(n:Int).tdiv 4=(nk:Int)∧(n:Int)/4=(nk:Int)∧IntKind.i64.wrap (nk:Int)=(nk:Int)∧IntKind.i64.wrap ((nk:Int)+7)=((nk+7:Nat):Int)∧IntKind.i64.wrap (4*((nk+7:Nat):Int))=((4*(nk+7):Nat):Int)∧((nk:Int)==0)=false∧(nk:Int)≠0∧¬ nk=0∧16≤n∧n≤32:=by
 refine ⟨?_,by omega,?_,?_,?_,by simp;omega,by omega,by omega,by omega,by omega⟩
 ·rw[Int.tdiv_eq_ediv_of_nonneg (by omega)];omega
 ·rw[IntKind.wrap_i64];omega
 ·rw[IntKind.wrap_i64];omega
 ·rw[IntKind.wrap_i64];omega
theorem RkT.sv {w v:World} {g m:Nat} (h:RkT w g m v) (b:Nat) (hb:b<256):∃ x:Nat,x<256∧v.cell? ⟨g,2+b,none⟩=some (.int .u8 (x:Nat)):=⟨SB b,Yp _,h.s b hb⟩
theorem Zck (ii:Nat) (h1:4≤ii) (h2:ii≤60):4*((ii:Nat):Int)-4=((4*ii-4:Nat):Int)∧4*((ii:Nat):Int)-3=((4*ii-3:Nat):Int)∧4*((ii:Nat):Int)-2=((4*ii-2:Nat):Int)∧4*((ii:Nat):Int)-1=((4*ii-1:Nat):Int)∧IntKind.i64.wrap ((4*ii-4:Nat):Int)=((4*ii-4:Nat):Int)∧IntKind.i64.wrap ((4*ii-3:Nat):Int)=((4*ii-3:Nat):Int)∧IntKind.i64.wrap ((4*ii-2:Nat):Int)=((4*ii-2:Nat):Int)∧IntKind.i64.wrap ((4*ii-1:Nat):Int)=((4*ii-1:Nat):Int)∧IntKind.i64.wrap (4*((ii:Nat):Int))=4*((ii:Nat):Int)∧IntKind.i64.wrap (((ii:Nat):Int)+1)=((ii+1:Nat):Int):=by
 refine ⟨by omega,by omega,by omega,by omega,?_,?_,?_,?_,?_,?_⟩<;>(rw[IntKind.wrap_i64];omega)
theorem Zcl (ii nk jj:Nat) (h1:nk≤ii) (h2:ii≤60) (h3:jj<4):IntKind.i64.wrap (((ii:Nat):Int)-((nk:Nat):Int))=((ii-nk:Nat):Int)∧IntKind.i64.wrap (4*((ii-nk:Nat):Int))=((4*(ii-nk):Nat):Int)∧((4*(ii-nk):Nat):Int)+((jj:Nat):Int)=((4*(ii-nk)+jj:Nat):Int)∧IntKind.i64.wrap ((4*(ii-nk)+jj:Nat):Int)=((4*(ii-nk)+jj:Nat):Int)∧IntKind.i64.wrap (((jj:Nat):Int)+1)=((jj+1:Nat):Int):=by
 refine ⟨?_,?_,by omega,?_,?_⟩<;>(rw[IntKind.wrap_i64];omega)
theorem Zad (nk n:Nat) (h:nk=4∨nk=6∨nk=8) (hn:n=4*nk):((n:Int) != 16&&(n:Int) != 24&&(n:Int) != 32)=false:=by
 rcases h with rfl | rfl | rfl<;>subst hn<;>decide
end Go.Proofs.YtehlppaidgkpaaaGreatDoor
