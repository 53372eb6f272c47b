import Derived.Test.YtehlppaidgkpaaaGreatDoorRow
import Derived.Test.YtehlppaidgkpaaaGreatDoorPart03
import Derived.Test.YtehlppaidgkpaaaGreatDoorDgFinA64
import Derived.Test.YtehlppaidgkpaaaGreatDoorDgFinB64
import Derived.Test.YtehlppaidgkpaaaGreatDoorPart18
import Derived.Test.YtehlppaidgkpaaaGreatDoorPart17
import Derived.Deep.QuietTactic
import Derived.BigQuiet
import Derived.Deep.Cut
import Derived.Deep.RegionHeld3
import Derived.Test.YtehlppaidgkpaaaGreatDoorFdDot
import Derived.ProofKit
import Derived.OpenShut
import Derived.ChangeOld
import Derived.Deep.Slices
namespace Go.Proofs.YtehlppaidgkpaaaGreatDoor
open Go.RowKit
set_option linter.unusedVariables false
def pwT (j:Nat):Nat:=Nat.mod (Nat.shiftRight 247704880781559356684414323119999879637317647180040216102211349143305888774923398537951341803642731683984666991564019150676315804531779449815159115664189418245566988781254625896260912026622159780553349108386186142268315007856282091988200171439146255715840100601167723801170608095743514940052926055042184507632911811387723359914440662207451538163404716729158929845121383729837235901114109841630616474463024741216292666125260571984924724184385554713500007113061044175325657975136216706165622836048350080632971744177780693200859426168487707538171671676645432511882666690861394815764438377708986394032816479809277592321 (Nat.mul 8 j)) 256
def ivT (j:Nat):Nat:=Nat.mod (Nat.shiftRight 127727404692115426734198332805968219844573505114629208686901216293690186132462130931675081705992402874744649337146722143913163583643487276303943818893807190013751092806990287370556889600057311714676499800760749547103353651662433367294783190206880884813569237221343399581497263169989195187996008530110587099785212876728548450345268301970899227233349908984604527389233338265073456776979288885037749793268642272576260293033947624555608176220260351415492203342228236466557716880135026471476615524857486394512952861707819425159769229481997196826278555408639803976402068508913166242851432043694978610662015700264484533761 (Nat.mul 8 j)) 256
def lgT (b:Nat):Nat:=Nat.mod (Nat.shiftRight 939374623831894136699086600277250597547650664638770418422125146541797353646788332867483593573384618611044815625336497665827114626705134492515730415652478061620339993830966980270842846318821775850471098591710629241171812800746666233448222972174585295916389942636813666312872914849454985560152530477328703759683306625234997237483834721220409437442253146756845415190424543171129629468776480674528486868811725071010351012234056630775688111116293610821126543142160426617079940511630006820862697466582575257349116925728488930366609138264019883664906661504235885380294353134295748489096855100647154935187045898006656778240 (Nat.mul 8 b)) 256
theorem Nb (j:Nat):pwT j<256:=Nat.mod_lt _ (by decide)
theorem Tx (j:Nat):ivT j<256:=Nat.mod_lt _ (by decide)
theorem Mw:∀ j:Fin 255,Fy 8 0 (pwT j.1) 3=pwT (j.1+1)∧Fy 8 0 (ivT j.1) 246=ivT (j.1+1)∧Db (ivT j.1)=SB (pwT j.1):=by decide +kernel
theorem Ts:∀ b:Fin 256,b.1=0∨(lgT b.1<255∧pwT (lgT b.1)=b.1):=by decide +kernel
theorem U8 {b c:Nat} (hb:b<256) (hc:c<256) (h:SB b=SB c):b=c:=by
 have h1:=(Lb ⟨b,hb⟩).1
 have h2:=(Lb ⟨c,hc⟩).1
 simp only at h1 h2
 rw[←h1,←h2,h]
structure J2 (w:World) (g o b:Nat):Prop where
 s:w.cell? ⟨g,o+61+b,none⟩=some (.int .u8 (SB b:Nat))
 u:w.cell? ⟨g,o+317+SB b,none⟩=some (.int .u8 (b:Nat))
 m:w.cell? ⟨g,o+573+b,none⟩=some (.int .u32 (MX b:Nat))
 n:w.cell? ⟨g,o+829+b,none⟩=some (.int .u32 (UX b:Nat))
theorem Zc (w:World) (g i j:Nat) (v:Value) (h:i≠j):(w.setCell ⟨g,i,none⟩ v).cell? ⟨g,j,none⟩=w.cell? ⟨g,j,none⟩:=
 World.cell?_setCell_other w ⟨g,i,none⟩ ⟨g,j,none⟩ v (fun e=>h (by cases e;rfl))
theorem Jk {w:World} {g o i n:Nat} (v:Value) (ht:w.there g o n) (hi:i<n):(w.setCell ⟨g,o+i,none⟩ v).cell? ⟨g,o+i,none⟩=some v:=
 World.cell?_setCell_same' _ _ _ (ht i hi).1
theorem J5 {w:World} {g o b:Nat} (ht:w.there g o 1085) (hb:b<256):J2 (Jp w g o b (SB b)) g o b:=by
 have hs:=Xn b
 unfold Jp
 refine ⟨?_,?_,?_,?_⟩
 ·rw[Zc _ _ _ _ _ (by omega),Zc _ _ _ _ _ (by omega),Zc _ _ _ _ _ (by omega)]
  have:=Jk (i:=61+b) (.int .u8 (SB b:Nat)) ht (by omega)
  rw[←Nat.add_assoc] at this
  exact this
 ·rw[Zc _ _ _ _ _ (by omega),Zc _ _ _ _ _ (by omega)]
  have:=Jk (i:=317+SB b) (.int .u8 (b:Nat)) (World.there_setCells ht g (o+61+b) [.int .u8 (SB b:Nat)]) (by omega)
  rw[←Nat.add_assoc] at this
  exact this
 ·rw[Zc _ _ _ _ _ (by omega)]
  have:=Jk (i:=573+b) (.int .u32 (MX b:Nat)) (World.there_setCells (World.there_setCells ht g (o+61+b) [.int .u8 (SB b:Nat)]) g (o+317+SB b) [.int .u8 (b:Nat)]) (by omega)
  rw[←Nat.add_assoc] at this
  exact this
 ·have:=Jk (i:=829+b) (.int .u32 (UX b:Nat)) (World.there_setCells (World.there_setCells (World.there_setCells ht g (o+61+b) [.int .u8 (SB b:Nat)]) g (o+317+SB b) [.int .u8 (b:Nat)]) g (o+573+b) [.int .u32 (MX b:Nat)]) (by omega)
  rw[←Nat.add_assoc] at this
  exact this
theorem Vk {w:World} {g o b c:Nat} (hb:b<256) (hc:c<256) (hne:b≠c) (h:J2 w g o c):J2 (Jp w g o b (SB b)) g o c:=by
 have hs:=Xn b
 have hs':=Xn c
 have hsn:SB b≠SB c:=fun e=>hne (U8 hb hc e)
 unfold Jp
 refine ⟨?_,?_,?_,?_⟩
 ·rw[Zc _ _ _ _ _ (by omega),Zc _ _ _ _ _ (by omega),Zc _ _ _ _ _ (by omega),Zc _ _ _ _ _ (by omega)];exact h.s
 ·rw[Zc _ _ _ _ _ (by omega),Zc _ _ _ _ _ (by omega),Zc _ _ _ _ _ (by omega),Zc _ _ _ _ _ (by omega)];exact h.u
 ·rw[Zc _ _ _ _ _ (by omega),Zc _ _ _ _ _ (by omega),Zc _ _ _ _ _ (by omega),Zc _ _ _ _ _ (by omega)];exact h.m
 ·rw[Zc _ _ _ _ _ (by omega),Zc _ _ _ _ _ (by omega),Zc _ _ _ _ _ (by omega),Zc _ _ _ _ _ (by omega)];exact h.n
theorem J2.drewN {w:World} {g o b:Nat} (h:J2 w g o b) (m:Nat):J2 (w.drewN m) g o b:=⟨h.s,h.u,h.m,h.n⟩
theorem Vj {w v:World} {g o b:Nat} (hb:b<256) (h:Touch w v g (o+61) 1024) (m:Nat):Touch w ((Jp v g o b (SB b)).drewN m) g (o+61) 1024:=by
 have hs:=Xn b
 unfold Jp
 exact ((((h.setCell _ _ (by omega) (by omega)).setCell _ _ (by omega) (by omega)).setCell _ _ (by omega) (by omega)).setCell _ _ (by omega) (by omega)).drewN m
theorem Sz {w:World} {g o:Nat} (h:∀ b,b<256→J2 w g o b):Tab w g o:=
 ⟨fun b hb=>(h b hb).s,fun c hc=>by
  have h1:=(h (UB c) (Iz c)).u
  have h2:=(Lb ⟨c,hc⟩).2
  simp only at h2
  rw[h2] at h1
  exact h1,fun b hb=>(h b hb).m,fun b hb=>(h b hb).n⟩
set_option maxHeartbeats 3200000 in
set_option maxRecDepth 100000 in
theorem Hg (g o:Nat) (w:World) (ht:w.there g o 1085) :
  Calls Tryz.prog 75 #[.pointer (some ⟨g,o,none⟩)] w fun e w'=>e=.returned (.tuple #[])∧Touch w w' g (o+61) 1024∧Tab w' g o:=by
 have HT:Hid (w.there g o 1085):=ht
 clear ht
 have hz:SB 0=99:=by decide +kernel
 have H0:Hid (Calls Tryz.prog 115 #[.pointer (some ⟨g,o,none⟩),.int .u8 0,.int .u8 99] w fun e w'=>e=.returned (.tuple #[])∧∃ m,w'=(Jp w g o 0 99).drewN m):=Fe g o 0 99 w (by decide) (by decide) HT.out
 go_enter Tryz.func75,Tryz.ntmps75
 go_wp2_with (first | (go_at_call 115;(refine H0.out.mono ?_)))
 rintro e1 w1 ⟨rfl,m1,hw1⟩
 have HI:Hid (Touch w w1 g (o+61) 1024∧J2 w1 g o 0):=by
  rw[hw1,←hz]
  exact ⟨Vj (by decide) (Touch.refl _ _ _ _) m1,(J5 HT.out (by decide)).drewN m1⟩
 clear hw1 H0
 go_wp2
 go_loopw [2,3,6] (fun vp vi i wr=>∃ k:Nat,k≤255∧i=.int .i64 k∧vp=.int .u8 (pwT k:Nat)∧vi=.int .u8 (ivT k:Nat)∧Hid (Touch w wr g (o+61) 1024∧J2 wr g o 0∧∀ j,j<k→J2 wr g o (pwT j))) (fun _ _ i _=>255-(intOf i).toNat)
 case atStart=>exact ⟨0,by omega,rfl,rfl,rfl,HI.out.1,HI.out.2,fun j hj=>by omega⟩
 case round=>
  obtain ⟨k,hk,rfl,rfl,rfl,HR⟩:=hrel
  by_cases hlt:k<255
  ·obtain ⟨e1,e2,e3⟩:=Mw ⟨k,hlt⟩
   simp only at e1 e2 e3
   obtain ⟨p,HP⟩:∃ p,Hid (p=pwT k):=⟨_,rfl⟩
   obtain ⟨v,HV⟩:∃ p,Hid (p=ivT k):=⟨_,rfl⟩
   have hp:p<256:=by rw[HP.out];exact Nb k
   have hv:v<256:=by rw[HV.out];exact Tx k
   have K1:Hid (∀ u,Calls Tryz.prog 116 #[.int .u8 (v:Nat)] u fun e u'=>e=.returned (.int .u8 (SB p:Nat))∧u'=u):=fun u=>(Lp v hv u).mono fun e u' ⟨z,_,hz,h1,h2⟩=>⟨by rw[h1,hz.out,HV.out,e3,HP.out],h2⟩
   have K2:Hid (Calls Tryz.prog 115 #[.pointer (some ⟨g,o,none⟩),.int .u8 (p:Nat),.int .u8 (SB p:Nat)] wr fun e w'=>e=.returned (.tuple #[])∧∃ m,w'=(Jp wr g o p (SB p)).drewN m):=Fe g o p (SB p) wr hp (Xn p) (HR.out.1.there _ _ HT.out)
   have K3:Hid (∀ u,Calls Tryz.prog 117 #[.int .u8 (p:Nat),.int .u8 3] u fun e u'=>e=.returned (.int .u8 (pwT (k+1):Nat))∧u'=u):=fun u=>(Cm p 3 hp (by decide) u).mono fun e u' ⟨h1,h2⟩=>⟨by rw[h1,HP.out,e1],h2⟩
   have K4:Hid (∀ u,Calls Tryz.prog 117 #[.int .u8 (v:Nat),.int .u8 246] u fun e u'=>e=.returned (.int .u8 (ivT (k+1):Nat))∧u'=u):=fun u=>(Cm v 246 hv (by decide) u).mono fun e u' ⟨h1,h2⟩=>⟨by rw[h1,HV.out,e2],h2⟩
   clear e1 e2 e3
   obtain ⟨p',HP'⟩:∃ p,Hid (p=pwT (k+1)):=⟨_,rfl⟩
   obtain ⟨v',HV'⟩:∃ p,Hid (p=ivT (k+1)):=⟨_,rfl⟩
   rw[←HP'.out] at K3
   rw[←HV'.out] at K4
   rw[←HP.out,←HV.out]
   go_wp2_with (first | (go_at_call 116;(refine (K1.out _).mono ?_);(rintro e2 w2 ⟨rfl,hw2⟩;obtain rfl:=hw2.symm)) | (go_at_call 115;(refine K2.out.mono ?_)))
   rintro e3 w3 ⟨rfl,m3,hw3⟩
   have HR3:Hid (Touch w w3 g (o+61) 1024∧J2 w3 g o 0∧∀ j,j<k+1→J2 w3 g o (pwT j)):=by
    obtain ⟨r1,r2,r3⟩:=HR.out
    rw[hw3]
    refine ⟨Vj hp r1 m3,?_,fun j hj=>?_⟩
    ·by_cases h0:p=0
     ·subst h0;exact (J5 (r1.there _ _ HT.out) hp).drewN m3
     ·exact (Vk hp (by decide) h0 r2).drewN m3
    ·by_cases hjk:p=pwT j
     ·rw[←hjk];exact (J5 (r1.there _ _ HT.out) hp).drewN m3
     ·have hj':j<k:=by
       rcases Nat.lt_or_ge j k with h | h
       ·exact h
       ·exact absurd (show p=pwT j by rw[show j=k by omega];exact HP.out) hjk
      exact (Vk hp (Nb j) hjk (r3 j hj')).drewN m3
   clear hw3 K1 K2
   go_wp2_with (first | (go_at_call 117;(refine (K3.out _).mono ?_)))
   rintro e4 w4 ⟨rfl,hw4⟩
   obtain rfl:=hw4.symm
   go_wp2_with (first | (go_at_call 117;(refine (K4.out _).mono ?_)))
   rintro e5 w5 ⟨rfl,hw5⟩
   obtain rfl:=hw5.symm
   go_wp2
   refine ⟨⟨k+1,by omega,rfl,by rw[HP'.out],by rw[HV'.out],HR3.out⟩,?_⟩
   simp only[intOf];omega
  ·obtain rfl:k=255:=by omega
   go_wp2
   go_end0
   obtain ⟨r1,r2,r3⟩:=HR.out
   refine ⟨rfl,r1,Sz (fun b hb=>?_)⟩
   rcases Ts ⟨b,hb⟩ with h | ⟨h1,h2⟩
   ·simp only at h
    rw[h]
    exact r2
   ·simp only at h1 h2
    have:=r3 _ h1
    rw[h2] at this
    exact this
end Go.Proofs.YtehlppaidgkpaaaGreatDoor
namespace Go.Proofs.YtehlppaidgkpaaaGreatDoor.Dg
open Go.RowKit
set_option linter.unusedVariables false
set_option linter.unusedSimpArgs false
theorem Nf (bs fed:Nat) {half half':Nat→Int} (h:∀ i,i<fed%bs→half i=half' i):Qm bs half fed=Qm bs half' fed:=by
 funext i
 unfold Qm
 by_cases hi:i<fed%bs
 ·rw[if_pos hi,if_pos hi,h i hi]
 ·rw[if_neg hi,if_neg hi]
def wsz (wd:Bool):Nat:=if wd then 8 else 4
def Wx (wd:Bool) (s0:Zb) (f0:Nat) (zs:List Int):Zb:=
 TT wd (Qm (bsz wd) (fun i=>fnz zs (bsz wd*(zs.length/bsz wd)+i)) (f0+zs.length)) (TT wd (fnz zs) s0 (zs.length/bsz wd)) (Qc (bsz wd) (f0+zs.length))
theorem Nu (wd:Bool) (g o:Nat) (h:Int) (s:Zb) (half:Nat→Int) (fed:Nat) (w:World) (hblk:Yd h=bsz wd∧wd=false) (HK:TK w g o h wd s half fed) (hfed:fed≤1152921504606846976) (hT:Tables w) (hg:6≤g) :
  Calls Tryz.prog 58 #[.pointer (some ⟨g,o,none⟩)] w fun e w'=>e=.returned (.agg (Zh (wsz wd) (TT wd (Qm (bsz wd) half fed) s (Qc (bsz wd) fed))).toArray)∧Touch w w' g o 139∧∃ half',TK w' g o h wd (TT wd (Qm (bsz wd) half fed) s (Qc (bsz wd) fed)) half' fed:=by
 cases wd
 ·have hm:fed%64<64:=Nat.mod_lt _ (by omega)
  by_cases hu:fed%64+1≤56
  ·exact Nw g o h s half fed (fed%64) (fed%64+1) w hblk.1 HK hfed hT hg rfl rfl hu
  ·exact Nv g o h s half fed (fed%64) (fed%64+1) w hblk.1 HK hfed hT hg rfl rfl (by omega) (by omega)
 ·exact absurd hblk.2 (by decide)
theorem Nt (wd:Bool) (g o:Nat) (h:Int) (s0:Zb) (f0:Nat) (zs:List Int) (w:World) (hblk:Yd h=bsz wd∧wd=false) (hr:Rep w g o h wd s0 f0 zs) (hfed:f0+zs.length≤1152921504606846976) (hT:Tables w) (hg:6≤g) :
  Calls Tryz.prog 58 #[.pointer (some ⟨g,o,none⟩)] w fun e w'=>e=.returned (.agg (Zh (wsz wd) (Wx wd s0 f0 zs)).toArray)∧Touch w w' g o 139∧∃ half',TK w' g o h wd (Wx wd s0 f0 zs) half' (f0+zs.length):=by
 obtain ⟨half,hk,hh,hf⟩:=hr
 have hp:Qm (bsz wd) half (f0+zs.length)=Qm (bsz wd) (fun i=>fnz zs (bsz wd*(zs.length/bsz wd)+i)) (f0+zs.length):=Nf _ _ (fun i hi=>by
  obtain ⟨c,hc⟩:∃ c,f0=bsz wd*c:=⟨f0/bsz wd,by have:=Nat.div_add_mod f0 (bsz wd);omega⟩
  rw[hc,Nat.mul_add_mod] at hi
  exact hh i hi)
 have:=Nu wd g o h _ half _ w hblk hk hfed hT hg
 rw[hp] at this
 exact this
def Qe (h:Int):Prop:=h=256
def Xf (h:Int):Bool:=decide (h=384∨h=512)
def Yw (h:Int):Nat:=(h/8).toNat
theorem Qe.block {h:Int} (k:Qe h):Yd h=bsz (Xf h)∧Xf h=false:=by obtain rfl:h=256:=k;exact ⟨rfl,rfl⟩
theorem Fc {h:Int} (k:Qe h) (w:World) (hT:Tables w) :
  Calls Tryz.prog 94 #[.int .i64 h] w fun e w'=>e=.returned (.agg (Zt h).cells.toArray)∧Below w.heap.size w w':=by
 obtain rfl:h=256:=k
 exact He w hT
theorem R0 {h:Int} (k:Qe h) (w:World) (hT:Tables w) :
  Calls Tryz.prog 56 #[.int .i64 h] w fun e w'=>e=.returned (.tuple #[.agg (tkL h (Xf h) (Zt h) (fun _=>0) 0).toArray,.int .i64 0])∧Below w.heap.size w w':=by
 have hb:=k.block.1
 have hw:=k.block.2
 rw[hw] at hb ⊢
 exact D9 h w hb (fun v hv=>Fc k v hv) hT
theorem P3 {w:World} {g o:Nat} {h:Int} {wd:Bool} {s:Zb} {half:Nat→Int} {f0:Nat} (k:TK w g o h wd s half f0) (hf:f0%bsz wd=0):Rep w g o h wd s f0 []:=
 ⟨half,by simpa [Gi] using k,fun i hi=>by simp at hi,hf⟩
theorem Zae (h:Int) (wd:Bool) (E:Zb) (half:Nat→Int) (fed:Nat):List.foldl (fun (cs:Array Value) x=>cs.setIfInBounds x.snd x.fst) Tryz.zeroCells145 (tkL h wd E half fed).zipIdx=(tkL h wd E half fed).toArray:=by kernel_rfl
structure Vz (T:List Value):Prop where
 len:T.length=139
 one:T.toArray.all (·.oneCell')=true
 built:List.foldl (fun (cs:Array Value) x=>cs.setIfInBounds x.snd x.fst) Tryz.zeroCells145 T.zipIdx=T.toArray
theorem Vz.size {T:List Value} (h:Vz T):T.toArray.size=139:=by simpa using h.len
theorem Vz.info {T:List Value} (h:Vz T):(Tryz.prog.info? 141).map (·.size)=some T.toArray.size:=by rw[h.size];exact Kv
theorem Ip (h:Int) (wd:Bool) (E:Zb) (half:Nat→Int) (fed:Nat):Vz (tkL h wd E half fed):=⟨Qu _ _ _ _ _,Mk _ _ _ _ _,Zae _ _ _ _ _⟩
set_option maxHeartbeats 1600000 in
set_option maxRecDepth 100000 in
theorem Te (h:Int) (w:World) (k:Hid (Qe h)) (hT:Hid (Tables w)) :
  Calls Tryz.prog 33 #[.int .i64 h] w fun e w'=>∃ g,e=.returned (.tuple #[.pointer (some ⟨g,0,none⟩),.int .i64 0])∧w.heap.size≤g∧Rep w' g 0 h (Xf h) (Zt h) 0 []∧Below w.heap.size w w':=by
 go_enter Tryz.func33,Tryz.ntmps33
 go_wp2_with (first | (go_at_call 56;refine (R0 k.out w hT.out).mono ?_))
 rintro e1 w1 ⟨rfl,hb1⟩
 obtain ⟨T,HTT⟩:∃ T:List Value,Hid (T=tkL h (Xf h) (Zt h) (fun _=>0) 0):=⟨_,rfl⟩
 rw[←HTT.out]
 have HG:Hid (Vz T):=by show Vz T;rw[HTT.out];exact Ip _ _ _ _ _
 have HB1:Hid (Below w.heap.size w w1):=hb1
 have HX:Hid ((w1.alloc (.cells Tryz.zeroCells141 141)).there w1.heap.size 0 139):=Zi w1 Tryz.zeroCells141 141 139 (by rw[Vr,W7];exact Nat.le_refl _)
 clear hb1
 go_upto_region 4 with (first
  | (refine wpList_store_mid (by rfl) 141 (.tmp 4) (.tmp 9) (by rfl) w1.heap.size 0 T.toArray (by rfl) (by rfl) (by rw[HG.out.size];exact HX.out) HG.out.info HG.out.one ?_)
  | fail)
 have HR2:Hid (((w1.alloc (.cells Tryz.zeroCells141 141)).setCells w1.heap.size 0 T).rangeAt w1.heap.size 0 T):=World.rangeAt_setCells_same _ _ _ _ (by rw[HG.out.len];exact HX.out)
 have HB2:Hid (Below w.heap.size w ((w1.alloc (.cells Tryz.zeroCells141 141)).setCells w1.heap.size 0 T)):=below_setCells _ HB1.out.size _ _ _ (HB1.out.alloc HB1.out.size _)
 generalize (w1.alloc (.cells Tryz.zeroCells141 141)).setCells w1.heap.size 0 T=w2 at HR2 HB2 ⊢
 clear HX
 have hlen:=HG.out.len
 have hfold:=HG.out.built
 go_wp2_with (first
  | (refine wpList_load_mid (by rfl) 141 (.tmp 4) (by rfl) w1.heap.size 0 (by rfl) T _ HR2.out Tryz.underlying141 rfl (by rw[HG.out.len];exact Kv) ?_)
  | fail)
 go_ret2
 have hr:=Zy w2 T.toArray 145
 have ht:=Zi w2 T.toArray 145 139 (by rw[HG.out.size];exact Nat.le_refl _)
 have hT':T=tkL h (Xf h) (Zt h) (fun _=>0) 0:=HTT.out
 refine ⟨w2.heap.size,rfl,HB2.out.size,P3 (TK.of (half:=fun _=>0) ?_ ht) (Nat.zero_mod _),HB2.out.alloc HB2.out.size _⟩
 rw[hT'] at hr ⊢
 exact hr
set_option maxHeartbeats 400000 in
theorem B4 {h:Int} (k:Qe h) (w:World):Calls Tryz.prog 97 #[.int .i64 h] w fun e w'=>e=.returned (.int .i64 (Yw h))∧w'=w:=by
 obtain rfl:h=256:=k
 go_enter Tryz.func97,Tryz.ntmps97
 go_wp2_with (first | (go_at_call 91;refine (Xa _ _).mono ?_;rintro e1 w1 ⟨rfl,hw1⟩;obtain rfl:=hw1.symm;rw[show Yd 256=64 from rfl]))
 go_ret
 exact ⟨rfl,rfl⟩
set_option maxHeartbeats 400000 in
theorem Za8 (g:Nat) (h:Int) (w:World) (c:w.cell? ⟨g,0,none⟩=some (.int .i64 h)):Calls Tryz.prog 98 #[.pointer (some ⟨g,0,none⟩)] w fun e w'=>e=.returned (.int .i64 h)∧w'=w:=by
 go_enter Tryz.func98,Tryz.ntmps98
 go_wp2
 go_ret
 exact ⟨rfl,rfl⟩
set_option maxHeartbeats 400000 in
theorem Za6 (g:Nat) (h:Int) (w:World) (k:Hid (Qe h)) (c:Hid (w.cell? ⟨g,0,none⟩=some (.int .i64 h))):Calls Tryz.prog 60 #[.pointer (some ⟨g,0,none⟩)] w fun e w'=>e=.returned (.int .i64 (Yw h))∧w'=w:=by
 go_enter Tryz.func60,Tryz.ntmps60
 go_wp2_with (first
  | (go_at_call 98;refine (Za8 g h w c.out).mono ?_;rintro e1 w1 ⟨rfl,hw1⟩;obtain rfl:=hw1.symm)
  | (go_at_call 97;refine (B4 k.out _).mono ?_;rintro e1 w1 ⟨rfl,hw1⟩;obtain rfl:=hw1.symm))
 go_ret
 exact ⟨rfl,rfl⟩
set_option maxHeartbeats 800000 in
theorem Ob (g:Nat) (h:Int) (s0:Zb) (zs:List Int) (yss:List (List Int)) (v:Value) (w:World) (k:Hid (Qe h)) (hr:Hid (Rep w g 0 h (Xf h) s0 0 zs)) (hp:Hid (Fu w g v yss)) (hT:Hid (Tables w)) (hg:6≤g) (hs:Hid (zs.length+yss.flatten.length≤33554432)) :
  Calls Tryz.prog 34 #[.pointer (some ⟨g,0,none⟩),v] w fun e w'=>e=.returned (.int .i64 0)∧Touch w w' g 0 139∧Rep w' g 0 h (Xf h) s0 0 (zs++yss.flatten):=by
 have HA:Hid (Calls Tryz.prog 57 #[.pointer (some ⟨g,0,none⟩),.int .u64 33554432,v] w fun e w'=>e=.returned (.int .i64 0)∧Touch w w' g 0 139∧Rep w' g 0 h (Xf h) s0 0 (zs++yss.flatten)):=
  Le (Xf h) g 0 h s0 0 zs yss v (33554432-zs.length) 33554432 w k.out.block hr.out hp.out hT.out hg (by have:=hs.out;omega) (by have:=hs.out;omega) (by have:=hs.out;omega)
 go_enter Tryz.func34,Tryz.ntmps34
 go_wp2_with (first | (go_at_call 57;refine HA.out.mono ?_;rintro e1 w1 ⟨rfl,ht1,hr1⟩))
 have HQ:Hid (Touch w w1 g 0 139∧Rep w1 g 0 h (Xf h) s0 0 (zs++yss.flatten)):=⟨ht1,hr1⟩
 clear ht1 hr1
 go_wp2
 go_ret
 exact ⟨rfl,HQ.out.1,HQ.out.2⟩
def Yt (wd:Bool) (s:Zb):List Int:=(List.range 64).map (X8 (wsz wd) s)
theorem Km (wd:Bool) (s:Zb):(Yt wd s).length=64:=by simp [Yt]
theorem F1 (wd:Bool) (s:Zb):Zh (wsz wd) s=Za (Yt wd s):=by simp [Zh,Za,Yt]
theorem Hn {w:World} {B B':Nat} {e:TypeId} {s n:Nat} {v:Value} {xs:List Value} (h:w.ownsRow B e s v n xs) (hB:B'≤B):w.ownsRow B' e s v n xs:=by
 obtain ⟨h1,h2⟩:=h
 rcases h2 with h2 | ⟨g,c,cur,e1,e2,e3⟩
 ·exact ⟨h1,.inl h2⟩
 ·exact ⟨h1,.inr ⟨g,c,cur,e1,by omega,e3⟩⟩
theorem Rg {h:Int} (k:Qe h) (C:List Value) (zs:List Int) (w:World) (hC:C=Za zs) (hz:zs.length=64) :
  Calls Tryz.prog 59 #[.agg C.toArray,.int .i64 (Yw h)] w fun e w'=>∃ g,e=.returned (.slice (some ⟨g,0,none⟩) (Yw h) (Yw h))∧w'.ownsRow w.heap.size 5 1 (.slice (some ⟨g,0,none⟩) (Yw h) (Yw h)) (Yw h) (Za (zs.take (Yw h)))∧Below w.heap.size w w':=by
 obtain rfl:h=256:=k
 exact Et C zs w hC hz
set_option maxHeartbeats 1600000 in
set_option maxRecDepth 100000 in
theorem Zco (g:Nat) (h:Int) (s0:Zb) (zs:List Int) (w:World) (k:Hid (Qe h)) (hr:Hid (Rep w g 0 h (Xf h) s0 0 zs)) (hT:Hid (Tables w)) (hfed:Hid (zs.length≤1152921504606846976)) :
  Calls Tryz.prog 35 #[.pointer (some ⟨g,0,none⟩)] w fun e w'=>∃ b,e=.returned (.slice (some ⟨b,0,none⟩) (Yw h) (Yw h))∧w'.ownsRow w.heap.size 5 1 (.slice (some ⟨b,0,none⟩) (Yw h) (Yw h)) (Yw h) (Za ((Yt (Xf h) (Wx (Xf h) s0 0 zs)).take (Yw h)))∧Below w.heap.size w w':=by
 obtain ⟨half,hk,hh,hf⟩:=hr.out
 obtain ⟨T,HTT⟩:∃ T:List Value,Hid (T=tkL h (Xf h) (TT (Xf h) (fnz zs) s0 (zs.length/bsz (Xf h))) half (0+zs.length)):=⟨_,rfl⟩
 have HG:Hid (Vz T):=by show Vz T;rw[HTT.out];exact Ip _ _ _ _ _
 have HR:Hid (w.rangeAt g 0 T):=by show w.rangeAt g 0 T;rw[HTT.out];exact hk.range
 have HX:Hid ((w.alloc (.cells Tryz.zeroCells141 141)).there w.heap.size 0 139):=Zi w Tryz.zeroCells141 141 139 (by rw[Vr,W7];exact Nat.le_refl _)
 have HC0:Hid (g<w.heap.size∧w.cell? ⟨g,0,none⟩=some (.int .i64 h)):=⟨lt_of_cell hk.hash,hk.hash⟩
 have HREP:Hid (∀ v,v.rangeAt w.heap.size 0 T→v.there w.heap.size 0 139→Rep v w.heap.size 0 h (Xf h) s0 0 zs):=fun v hr ht=>⟨half,TK.of (by rw[←HTT.out];exact hr) ht,hh,hf⟩
 clear hk hh hf
 go_enter Tryz.func35,Tryz.ntmps35
 go_upto_region 4 with (first
  | (refine wpList_load_mid (by rfl) 141 (.tmp 9) (by rfl) g 0 (by rfl) T _ HR.out Tryz.underlying141 rfl (by rw[HG.out.len];exact Kv) ?_)
  | (refine wpList_store_mid (by rfl) 141 (.tmp 3) (.tmp 10) (by rfl) w.heap.size 0 T.toArray (by rfl) (by rfl) (by rw[HG.out.size];exact HX.out) HG.out.info HG.out.one ?_)
  | fail)
 have HR2:Hid (((w.alloc (.cells Tryz.zeroCells141 141)).setCells w.heap.size 0 T).rangeAt w.heap.size 0 T):=World.rangeAt_setCells_same _ _ _ _ (by rw[HG.out.len];exact HX.out)
 have HB2:Hid (Below w.heap.size w ((w.alloc (.cells Tryz.zeroCells141 141)).setCells w.heap.size 0 T)∧((w.alloc (.cells Tryz.zeroCells141 141)).setCells w.heap.size 0 T).there w.heap.size 0 139∧((w.alloc (.cells Tryz.zeroCells141 141)).setCells w.heap.size 0 T).heap.size=w.heap.size+1):=⟨below_setCells _ (Nat.le_refl _) _ _ _ ((Below.refl _ _).alloc (Nat.le_refl _) _),World.there_setCells HX.out _ _ _,by rw[size_setCells];simp⟩
 generalize (w.alloc (.cells Tryz.zeroCells141 141)).setCells w.heap.size 0 T=w2 at HR2 HB2 ⊢
 clear HX HR
 go_wp2_with (first | (go_at_call 58;refine (Nt (Xf h) w.heap.size 0 h s0 0 zs w2 k.out.block (HREP.out w2 HR2.out HB2.out.2.1) (by have:=hfed.out;omega) (hT.out.below HB2.out.1 hT.out.size) hT.out.size).mono ?_))
 rintro e3 w3 ⟨rfl,ht3,_⟩
 obtain ⟨C,HC⟩:∃ C:List Value,Hid (C=Za (Yt (Xf h) (Wx (Xf h) s0 0 zs))):=⟨_,(show _=_ from rfl)⟩
 rw[F1,←HC.out]
 have HL:Hid (C.length=64):=by show C.length=64;rw[HC.out,Zu,Km]
 have HLA:Hid (C.toArray.size=64):=by show C.toArray.size=64;simpa using HL.out
 have HO:Hid (C.toArray.all (·.oneCell')=true):=all_oneCell_toArray (by rw[HC.out];exact X4 _)
 have HB3:Hid (Below w.heap.size w w3):=HB2.out.1.trans (ht3.toBelow (Nat.le_refl _) (by have:=HB2.out.2.2;omega))
 have HX:Hid ((w3.alloc (.cells #[.int .u8 0,.int .u8 0,.int .u8 0,.int .u8 0,.int .u8 0,.int .u8 0,.int .u8 0,.int .u8 0,.int .u8 0,.int .u8 0,.int .u8 0,.int .u8 0,.int .u8 0,.int .u8 0,.int .u8 0,.int .u8 0,.int .u8 0,.int .u8 0,.int .u8 0,.int .u8 0,.int .u8 0,.int .u8 0,.int .u8 0,.int .u8 0,.int .u8 0,.int .u8 0,.int .u8 0,.int .u8 0,.int .u8 0,.int .u8 0,.int .u8 0,.int .u8 0,.int .u8 0,.int .u8 0,.int .u8 0,.int .u8 0,.int .u8 0,.int .u8 0,.int .u8 0,.int .u8 0,.int .u8 0,.int .u8 0,.int .u8 0,.int .u8 0,.int .u8 0,.int .u8 0,.int .u8 0,.int .u8 0,.int .u8 0,.int .u8 0,.int .u8 0,.int .u8 0,.int .u8 0,.int .u8 0,.int .u8 0,.int .u8 0,.int .u8 0,.int .u8 0,.int .u8 0,.int .u8 0,.int .u8 0,.int .u8 0,.int .u8 0,.int .u8 0] 147)).there w3.heap.size 0 64):=Zi w3 _ 147 64 (by decide)
 clear ht3
 go_upto_region 5 with (first
  | (refine wpList_store_mid (by rfl) 147 (.tmp 4) (.tmp 11) (by rfl) w3.heap.size 0 C.toArray (by rfl) (by rfl) (by rw[HLA.out];exact HX.out) (by rw[HLA.out];exact Jo) HO.out ?_)
  | fail)
 have HR4:Hid (((w3.alloc (.cells #[.int .u8 0,.int .u8 0,.int .u8 0,.int .u8 0,.int .u8 0,.int .u8 0,.int .u8 0,.int .u8 0,.int .u8 0,.int .u8 0,.int .u8 0,.int .u8 0,.int .u8 0,.int .u8 0,.int .u8 0,.int .u8 0,.int .u8 0,.int .u8 0,.int .u8 0,.int .u8 0,.int .u8 0,.int .u8 0,.int .u8 0,.int .u8 0,.int .u8 0,.int .u8 0,.int .u8 0,.int .u8 0,.int .u8 0,.int .u8 0,.int .u8 0,.int .u8 0,.int .u8 0,.int .u8 0,.int .u8 0,.int .u8 0,.int .u8 0,.int .u8 0,.int .u8 0,.int .u8 0,.int .u8 0,.int .u8 0,.int .u8 0,.int .u8 0,.int .u8 0,.int .u8 0,.int .u8 0,.int .u8 0,.int .u8 0,.int .u8 0,.int .u8 0,.int .u8 0,.int .u8 0,.int .u8 0,.int .u8 0,.int .u8 0,.int .u8 0,.int .u8 0,.int .u8 0,.int .u8 0,.int .u8 0,.int .u8 0,.int .u8 0,.int .u8 0] 147)).setCells w3.heap.size 0 C).rangeAt w3.heap.size 0 C):=World.rangeAt_setCells_same _ _ _ _ (by rw[HL.out];exact HX.out)
 have HB4:Hid (Below w.heap.size w ((w3.alloc (.cells #[.int .u8 0,.int .u8 0,.int .u8 0,.int .u8 0,.int .u8 0,.int .u8 0,.int .u8 0,.int .u8 0,.int .u8 0,.int .u8 0,.int .u8 0,.int .u8 0,.int .u8 0,.int .u8 0,.int .u8 0,.int .u8 0,.int .u8 0,.int .u8 0,.int .u8 0,.int .u8 0,.int .u8 0,.int .u8 0,.int .u8 0,.int .u8 0,.int .u8 0,.int .u8 0,.int .u8 0,.int .u8 0,.int .u8 0,.int .u8 0,.int .u8 0,.int .u8 0,.int .u8 0,.int .u8 0,.int .u8 0,.int .u8 0,.int .u8 0,.int .u8 0,.int .u8 0,.int .u8 0,.int .u8 0,.int .u8 0,.int .u8 0,.int .u8 0,.int .u8 0,.int .u8 0,.int .u8 0,.int .u8 0,.int .u8 0,.int .u8 0,.int .u8 0,.int .u8 0,.int .u8 0,.int .u8 0,.int .u8 0,.int .u8 0,.int .u8 0,.int .u8 0,.int .u8 0,.int .u8 0,.int .u8 0,.int .u8 0,.int .u8 0,.int .u8 0] 147)).setCells w3.heap.size 0 C)):=below_setCells _ HB3.out.size _ _ _ (HB3.out.alloc HB3.out.size _)
 have HS4:Hid (((w3.alloc (.cells #[.int .u8 0,.int .u8 0,.int .u8 0,.int .u8 0,.int .u8 0,.int .u8 0,.int .u8 0,.int .u8 0,.int .u8 0,.int .u8 0,.int .u8 0,.int .u8 0,.int .u8 0,.int .u8 0,.int .u8 0,.int .u8 0,.int .u8 0,.int .u8 0,.int .u8 0,.int .u8 0,.int .u8 0,.int .u8 0,.int .u8 0,.int .u8 0,.int .u8 0,.int .u8 0,.int .u8 0,.int .u8 0,.int .u8 0,.int .u8 0,.int .u8 0,.int .u8 0,.int .u8 0,.int .u8 0,.int .u8 0,.int .u8 0,.int .u8 0,.int .u8 0,.int .u8 0,.int .u8 0,.int .u8 0,.int .u8 0,.int .u8 0,.int .u8 0,.int .u8 0,.int .u8 0,.int .u8 0,.int .u8 0,.int .u8 0,.int .u8 0,.int .u8 0,.int .u8 0,.int .u8 0,.int .u8 0,.int .u8 0,.int .u8 0,.int .u8 0,.int .u8 0,.int .u8 0,.int .u8 0,.int .u8 0,.int .u8 0,.int .u8 0,.int .u8 0] 147)).setCells w3.heap.size 0 C).heap.size=w3.heap.size+1):=by show _=_;rw[size_setCells];simp
 generalize (w3.alloc (.cells #[.int .u8 0,.int .u8 0,.int .u8 0,.int .u8 0,.int .u8 0,.int .u8 0,.int .u8 0,.int .u8 0,.int .u8 0,.int .u8 0,.int .u8 0,.int .u8 0,.int .u8 0,.int .u8 0,.int .u8 0,.int .u8 0,.int .u8 0,.int .u8 0,.int .u8 0,.int .u8 0,.int .u8 0,.int .u8 0,.int .u8 0,.int .u8 0,.int .u8 0,.int .u8 0,.int .u8 0,.int .u8 0,.int .u8 0,.int .u8 0,.int .u8 0,.int .u8 0,.int .u8 0,.int .u8 0,.int .u8 0,.int .u8 0,.int .u8 0,.int .u8 0,.int .u8 0,.int .u8 0,.int .u8 0,.int .u8 0,.int .u8 0,.int .u8 0,.int .u8 0,.int .u8 0,.int .u8 0,.int .u8 0,.int .u8 0,.int .u8 0,.int .u8 0,.int .u8 0,.int .u8 0,.int .u8 0,.int .u8 0,.int .u8 0,.int .u8 0,.int .u8 0,.int .u8 0,.int .u8 0,.int .u8 0,.int .u8 0,.int .u8 0,.int .u8 0] 147)).setCells w3.heap.size 0 C=w4 at HR4 HB4 HS4 ⊢
 have HC4:Hid (w4.cell? ⟨g,0,none⟩=some (.int .i64 h)):=by rw[HB4.out.cell (p:=⟨g,0,none⟩) HC0.out.1];exact HC0.out.2
 clear HX HB3 HB2 HR2 HREP HC0
 have HZ:Hid ((Yt (Xf h) (Wx (Xf h) s0 0 zs)).length=64):=Km _ _
 have hu75:=Tryz.underlying147
 have hi75:(Tryz.prog.info? 147).map (·.size)=some C.length:=by rw[HL.out];exact Jo
 go_region_held3 (fun v=>v.rangeAt w3.heap.size 0 C∧v.cell? ⟨g,0,none⟩=some (.int .i64 h)) (first | exact ⟨HR4.out,HC4.out⟩ | go_keep | exact hS6) (first
  | (go_at_call 60;refine (Za6 g h w4.drew k (show Hid (w4.drew.cell? ⟨g,0,none⟩=some (.int .i64 h)) from HC4)).mono ?_;rintro e5 w5 ⟨rfl,hw5⟩;obtain rfl:=hw5.symm)
  | (go_at_call 59;refine (Rg k.out C _ w4.drew HC.out HZ.out).mono ?_;rintro e6 w6 ⟨b,rfl,ho6,hb6⟩;have hS6:w6.rangeAt w3.heap.size 0 C∧w6.cell? ⟨g,0,none⟩=some (.int .i64 h):=⟨fun j v hv=>by rw[hb6.cell (p:=⟨w3.heap.size,0+j,none⟩) (show w3.heap.size<w4.heap.size by have:=HS4.out;omega)];exact HR4.out j v hv,by rw[hb6.cell (p:=⟨g,0,none⟩) (show g<w4.heap.size from lt_of_cell HC4.out)];exact HC4.out⟩))
 have HQ:Hid (w6.ownsRow w.heap.size 5 1 (.slice (some ⟨b,0,none⟩) (Yw h) (Yw h)) (Yw h) (Za ((Yt (Xf h) (Wx (Xf h) s0 0 zs)).take (Yw h)))∧Below w.heap.size w w6):=⟨Hn ho6 HB4.out.size,HB4.out.drew.trans (hb6.mono HB4.out.size)⟩
 clear ho6 hb6 hS6
 go_wp2
 go_ret
 exact ⟨b,rfl,HQ.out.1,HQ.out.2⟩
set_option maxHeartbeats 800000 in
theorem Zb0 (h:Int) (yss:List (List Int)) (v:Value) (w:World) (k:Hid (Qe h)) (hp:Hid (∀ u g,Below w.heap.size w u→w.heap.size≤g→Fu u g v yss)) (hT:Hid (Tables w)) (hs:Hid (yss.flatten.length≤33554432)) :
  Calls Tryz.prog 21 #[.int .i64 h,v] w fun e w'=>∃ b,e=.returned (.tuple #[.slice (some ⟨b,0,none⟩) (Yw h) (Yw h),.int .i64 0])∧w'.ownsRow w.heap.size 5 1 (.slice (some ⟨b,0,none⟩) (Yw h) (Yw h)) (Yw h) (Za ((Yt (Xf h) (Wx (Xf h) (Zt h) 0 yss.flatten)).take (Yw h)))∧Below w.heap.size w w':=by
 go_enter Tryz.func21,Tryz.ntmps21
 go_wp2_with (first | (go_at_call 33;refine (Te h w k hT).mono ?_))
 rintro e1 w1 ⟨g,rfl,hg,hr1,hb1⟩
 have HR1:Hid (Rep w1 g 0 h (Xf h) (Zt h) 0 []∧Below w.heap.size w w1∧w.heap.size≤g):=⟨hr1,hb1,hg⟩
 have HP1:Hid (Fu w1 g v yss):=hp.out w1 g hb1 hg
 have HT1:Hid (Tables w1):=hT.out.below hb1 hT.out.size
 have hg4:6≤g:=Nat.le_trans hT.out.size hg
 clear hr1 hb1 hg
 go_wp2_with (first | (go_at_call 34;refine (Ob g h (Zt h) [] yss v w1 k HR1.out.1 HP1 HT1 hg4 (by show _≤_;have:=hs.out;simpa using this)).mono ?_))
 rintro e2 w2 ⟨rfl,ht2,hr2⟩
 have HR2:Hid (Rep w2 g 0 h (Xf h) (Zt h) 0 yss.flatten∧Below w.heap.size w w2):=⟨hr2,HR1.out.2.1.trans (ht2.toBelow HR1.out.2.2 HR1.out.2.1.size)⟩
 have HT2:Hid (Tables w2):=HT1.out.touch ht2 hg4
 clear ht2 hr2 HR1 HP1
 go_wp2_with (first | (go_at_call 35;refine (Zco g h (Zt h) yss.flatten w2 k HR2.out.1 HT2 (by show _≤_;have:=hs.out;omega)).mono ?_))
 rintro e3 w3 ⟨b,rfl,ho3,hb3⟩
 have HQ:Hid (w3.ownsRow w.heap.size 5 1 (.slice (some ⟨b,0,none⟩) (Yw h) (Yw h)) (Yw h) (Za ((Yt (Xf h) (Wx (Xf h) (Zt h) 0 yss.flatten)).take (Yw h)))∧Below w.heap.size w w3):=⟨Hn ho3 HR2.out.2.size,HR2.out.2.trans (hb3.mono HR2.out.2.size)⟩
 clear ho3 hb3
 go_wp2
 go_ret2
 exact ⟨b,rfl,HQ.out.1,HQ.out.2⟩
end Go.Proofs.YtehlppaidgkpaaaGreatDoor.Dg
namespace Go.Proofs.YtehlppaidgkpaaaGreatDoor.Fd
open Go.ChangeShapes Go.WideShapes Go.ChangeAt Go.RowKit
set_option linter.unusedVariables false
def pk (F:Nat→Nat):Nat→Nat
 | 0=>0
 | n+1=>pk F n+F n*256^n
theorem It (F : Nat → Nat) (hF : ∀ i, F i < 256) (n : Nat) : pk F n < 256 ^ n := by
  induction n with
  | zero => simp [pk]
  | succ n ih =>
    have h := hF n
    rw [pk, Nat.pow_succ]
    have : F n * 256 ^ n ≤ 255 * 256 ^ n := Nat.mul_le_mul_right _ (by omega)
    omega
theorem Zbk (F : Nat → Nat) (hF : ∀ i, F i < 256) (n i : Nat) (hi : i < n) : pk F n / 256 ^ i % 256 = F i := by
  induction n with
  | zero => omega
  | succ n ih =>
    rw [pk]
    by_cases h : i < n
    · have e : F n * 256 ^ n = (F n * 256 ^ (n - i - 1) * 256) * 256 ^ i := by
        rw [Nat.mul_assoc, Nat.mul_assoc, ← Nat.pow_succ', ← Nat.pow_add]
        congr 2
        omega
      rw [e, Nat.add_mul_div_right _ _ (Nat.pow_pos (by decide)), Nat.add_mul_mod_self_right]
      exact ih h
    · have e : i = n := by omega
      subst e
      rw [Nat.add_mul_div_right _ _ (Nat.pow_pos (by decide)), Nat.div_eq_of_lt (It F hF i), Nat.zero_add]
      exact Nat.mod_eq_of_lt (hF i)
theorem Fm (F:Nat→Nat) (hF:∀ i,F i<256) (i:Nat) (hi:i<16):byV (BitVec.ofNat 128 (pk F 16)) i=F i:=by
 have h:=It F hF 16
 unfold byV
 rw[BitVec.toNat_ofNat]
 have e:pk F 16%2^128=pk F 16:=Nat.mod_eq_of_lt (Nat.lt_of_lt_of_eq h (by decide))
 rw[e]
 exact Zbk F hF 16 i hi
open Go.RowKit Go.Proofs.YtehlppaidgkpaaaGreatDoor.Fld
set_option linter.unusedSimpArgs false
def rv (v:BitVec 128):BitVec 128:=BitVec.ofNat 128 (pk (fun i=>byV v (15-i)) 16)
theorem Zau (v:BitVec 128) (i:Nat) (hi:i<16):byV (rv v) i=byV v (15-i):=Fm _ (fun _=>Qi _ _) i hi
theorem R4 (j:Nat) (hj:j<16):(#[.int .u8 0,.int .u8 0,.int .u8 0,.int .u8 0,.int .u8 0,.int .u8 0,.int .u8 0,.int .u8 0,.int .u8 0,.int .u8 0,.int .u8 0,.int .u8 0,.int .u8 0,.int .u8 0,.int .u8 0,.int .u8 0]:Array Value).toList[j]?=some (.int .u8 0):=by
 have h16:j=0∨j=1∨j=2∨j=3∨j=4∨j=5∨j=6∨j=7∨j=8∨j=9∨j=10∨j=11∨j=12∨j=13∨j=14∨j=15:=by omega
 rcases h16 with rfl | rfl | rfl | rfl | rfl | rfl | rfl | rfl | rfl | rfl | rfl | rfl | rfl | rfl | rfl | rfl<;>rfl
theorem Rh {a b:BitVec 128} (h:∀ i,i<16→byV a i=byV b i):a=b:=by
 have e:a ^^^ b=0#128:=(Bn _).2 fun j hj=>by rw[Dz,h j hj];exact Nat.xor_self _
 have q:=congrArg (· ^^^ b) e
 simpa [BitVec.xor_assoc] using q
set_option maxHeartbeats 1600000 in
set_option maxRecDepth 100000 in
theorem Ll (v:BitVec 128) (w:World):Calls Tryz.prog 217 #[BV v] w fun e w'=>e=.returned (BV (rv v))∧Below w.heap.size w w':=by
 have HC:Hid (Below w.heap.size w (((w.alloc (.cells #[.int .u8 (byV v 0:Nat),.int .u8 (byV v 1:Nat),.int .u8 (byV v 2:Nat),.int .u8 (byV v 3:Nat),.int .u8 (byV v 4:Nat),.int .u8 (byV v 5:Nat),.int .u8 (byV v 6:Nat),.int .u8 (byV v 7:Nat),.int .u8 (byV v 8:Nat),.int .u8 (byV v 9:Nat),.int .u8 (byV v 10:Nat),.int .u8 (byV v 11:Nat),.int .u8 (byV v 12:Nat),.int .u8 (byV v 13:Nat),.int .u8 (byV v 14:Nat),.int .u8 (byV v 15:Nat)] 27)).alloc (.cells #[.int .u8 0,.int .u8 0,.int .u8 0,.int .u8 0,.int .u8 0,.int .u8 0,.int .u8 0,.int .u8 0,.int .u8 0,.int .u8 0,.int .u8 0,.int .u8 0,.int .u8 0,.int .u8 0,.int .u8 0,.int .u8 0] 27)).alloc (.cells #[.int .u8 0,.int .u8 0,.int .u8 0,.int .u8 0,.int .u8 0,.int .u8 0,.int .u8 0,.int .u8 0,.int .u8 0,.int .u8 0,.int .u8 0,.int .u8 0,.int .u8 0,.int .u8 0,.int .u8 0,.int .u8 0] 27))∧(∀ j,j<16→(((w.alloc (.cells #[.int .u8 (byV v 0:Nat),.int .u8 (byV v 1:Nat),.int .u8 (byV v 2:Nat),.int .u8 (byV v 3:Nat),.int .u8 (byV v 4:Nat),.int .u8 (byV v 5:Nat),.int .u8 (byV v 6:Nat),.int .u8 (byV v 7:Nat),.int .u8 (byV v 8:Nat),.int .u8 (byV v 9:Nat),.int .u8 (byV v 10:Nat),.int .u8 (byV v 11:Nat),.int .u8 (byV v 12:Nat),.int .u8 (byV v 13:Nat),.int .u8 (byV v 14:Nat),.int .u8 (byV v 15:Nat)] 27)).alloc (.cells #[.int .u8 0,.int .u8 0,.int .u8 0,.int .u8 0,.int .u8 0,.int .u8 0,.int .u8 0,.int .u8 0,.int .u8 0,.int .u8 0,.int .u8 0,.int .u8 0,.int .u8 0,.int .u8 0,.int .u8 0,.int .u8 0] 27)).alloc (.cells #[.int .u8 0,.int .u8 0,.int .u8 0,.int .u8 0,.int .u8 0,.int .u8 0,.int .u8 0,.int .u8 0,.int .u8 0,.int .u8 0,.int .u8 0,.int .u8 0,.int .u8 0,.int .u8 0,.int .u8 0,.int .u8 0] 27)).cell? ⟨w.heap.size,j,none⟩=some (.int .u8 (byV v j:Nat)))∧(((w.alloc (.cells #[.int .u8 (byV v 0:Nat),.int .u8 (byV v 1:Nat),.int .u8 (byV v 2:Nat),.int .u8 (byV v 3:Nat),.int .u8 (byV v 4:Nat),.int .u8 (byV v 5:Nat),.int .u8 (byV v 6:Nat),.int .u8 (byV v 7:Nat),.int .u8 (byV v 8:Nat),.int .u8 (byV v 9:Nat),.int .u8 (byV v 10:Nat),.int .u8 (byV v 11:Nat),.int .u8 (byV v 12:Nat),.int .u8 (byV v 13:Nat),.int .u8 (byV v 14:Nat),.int .u8 (byV v 15:Nat)] 27)).alloc (.cells #[.int .u8 0,.int .u8 0,.int .u8 0,.int .u8 0,.int .u8 0,.int .u8 0,.int .u8 0,.int .u8 0,.int .u8 0,.int .u8 0,.int .u8 0,.int .u8 0,.int .u8 0,.int .u8 0,.int .u8 0,.int .u8 0] 27)).alloc (.cells #[.int .u8 0,.int .u8 0,.int .u8 0,.int .u8 0,.int .u8 0,.int .u8 0,.int .u8 0,.int .u8 0,.int .u8 0,.int .u8 0,.int .u8 0,.int .u8 0,.int .u8 0,.int .u8 0,.int .u8 0,.int .u8 0] 27)).there (w.heap.size+1) 0 16∧(((w.alloc (.cells #[.int .u8 (byV v 0:Nat),.int .u8 (byV v 1:Nat),.int .u8 (byV v 2:Nat),.int .u8 (byV v 3:Nat),.int .u8 (byV v 4:Nat),.int .u8 (byV v 5:Nat),.int .u8 (byV v 6:Nat),.int .u8 (byV v 7:Nat),.int .u8 (byV v 8:Nat),.int .u8 (byV v 9:Nat),.int .u8 (byV v 10:Nat),.int .u8 (byV v 11:Nat),.int .u8 (byV v 12:Nat),.int .u8 (byV v 13:Nat),.int .u8 (byV v 14:Nat),.int .u8 (byV v 15:Nat)] 27)).alloc (.cells #[.int .u8 0,.int .u8 0,.int .u8 0,.int .u8 0,.int .u8 0,.int .u8 0,.int .u8 0,.int .u8 0,.int .u8 0,.int .u8 0,.int .u8 0,.int .u8 0,.int .u8 0,.int .u8 0,.int .u8 0,.int .u8 0] 27)).alloc (.cells #[.int .u8 0,.int .u8 0,.int .u8 0,.int .u8 0,.int .u8 0,.int .u8 0,.int .u8 0,.int .u8 0,.int .u8 0,.int .u8 0,.int .u8 0,.int .u8 0,.int .u8 0,.int .u8 0,.int .u8 0,.int .u8 0] 27)).there (w.heap.size+2) 0 16∧(∀ j,j<16→(((w.alloc (.cells #[.int .u8 (byV v 0:Nat),.int .u8 (byV v 1:Nat),.int .u8 (byV v 2:Nat),.int .u8 (byV v 3:Nat),.int .u8 (byV v 4:Nat),.int .u8 (byV v 5:Nat),.int .u8 (byV v 6:Nat),.int .u8 (byV v 7:Nat),.int .u8 (byV v 8:Nat),.int .u8 (byV v 9:Nat),.int .u8 (byV v 10:Nat),.int .u8 (byV v 11:Nat),.int .u8 (byV v 12:Nat),.int .u8 (byV v 13:Nat),.int .u8 (byV v 14:Nat),.int .u8 (byV v 15:Nat)] 27)).alloc (.cells #[.int .u8 0,.int .u8 0,.int .u8 0,.int .u8 0,.int .u8 0,.int .u8 0,.int .u8 0,.int .u8 0,.int .u8 0,.int .u8 0,.int .u8 0,.int .u8 0,.int .u8 0,.int .u8 0,.int .u8 0,.int .u8 0] 27)).alloc (.cells #[.int .u8 0,.int .u8 0,.int .u8 0,.int .u8 0,.int .u8 0,.int .u8 0,.int .u8 0,.int .u8 0,.int .u8 0,.int .u8 0,.int .u8 0,.int .u8 0,.int .u8 0,.int .u8 0,.int .u8 0,.int .u8 0] 27)).cell? ⟨w.heap.size+2,j,none⟩=some (.int .u8 0))∧(((w.alloc (.cells #[.int .u8 (byV v 0:Nat),.int .u8 (byV v 1:Nat),.int .u8 (byV v 2:Nat),.int .u8 (byV v 3:Nat),.int .u8 (byV v 4:Nat),.int .u8 (byV v 5:Nat),.int .u8 (byV v 6:Nat),.int .u8 (byV v 7:Nat),.int .u8 (byV v 8:Nat),.int .u8 (byV v 9:Nat),.int .u8 (byV v 10:Nat),.int .u8 (byV v 11:Nat),.int .u8 (byV v 12:Nat),.int .u8 (byV v 13:Nat),.int .u8 (byV v 14:Nat),.int .u8 (byV v 15:Nat)] 27)).alloc (.cells #[.int .u8 0,.int .u8 0,.int .u8 0,.int .u8 0,.int .u8 0,.int .u8 0,.int .u8 0,.int .u8 0,.int .u8 0,.int .u8 0,.int .u8 0,.int .u8 0,.int .u8 0,.int .u8 0,.int .u8 0,.int .u8 0] 27)).alloc (.cells #[.int .u8 0,.int .u8 0,.int .u8 0,.int .u8 0,.int .u8 0,.int .u8 0,.int .u8 0,.int .u8 0,.int .u8 0,.int .u8 0,.int .u8 0,.int .u8 0,.int .u8 0,.int .u8 0,.int .u8 0,.int .u8 0] 27)).heap.size=w.heap.size+3):=by
  refine ⟨Me w _ _ _,fun j hj=>?_,?_,?_,fun j hj=>?_,by simp⟩
  ·have h:=Zy w #[.int .u8 (byV v 0:Nat),.int .u8 (byV v 1:Nat),.int .u8 (byV v 2:Nat),.int .u8 (byV v 3:Nat),.int .u8 (byV v 4:Nat),.int .u8 (byV v 5:Nat),.int .u8 (byV v 6:Nat),.int .u8 (byV v 7:Nat),.int .u8 (byV v 8:Nat),.int .u8 (byV v 9:Nat),.int .u8 (byV v 10:Nat),.int .u8 (byV v 11:Nat),.int .u8 (byV v 12:Nat),.int .u8 (byV v 13:Nat),.int .u8 (byV v 14:Nat),.int .u8 (byV v 15:Nat)] 27 j _ (X5 v j hj)
   rw[Nat.zero_add] at h
   rw[World.cell?_alloc_lt _ _ _ (show w.heap.size<_ by simp;omega),World.cell?_alloc_lt _ _ _ (show w.heap.size<_ by simp)]
   exact h
  ·have h:=Zi (w.alloc (.cells #[.int .u8 (byV v 0:Nat),.int .u8 (byV v 1:Nat),.int .u8 (byV v 2:Nat),.int .u8 (byV v 3:Nat),.int .u8 (byV v 4:Nat),.int .u8 (byV v 5:Nat),.int .u8 (byV v 6:Nat),.int .u8 (byV v 7:Nat),.int .u8 (byV v 8:Nat),.int .u8 (byV v 9:Nat),.int .u8 (byV v 10:Nat),.int .u8 (byV v 11:Nat),.int .u8 (byV v 12:Nat),.int .u8 (byV v 13:Nat),.int .u8 (byV v 14:Nat),.int .u8 (byV v 15:Nat)] 27)) #[.int .u8 0,.int .u8 0,.int .u8 0,.int .u8 0,.int .u8 0,.int .u8 0,.int .u8 0,.int .u8 0,.int .u8 0,.int .u8 0,.int .u8 0,.int .u8 0,.int .u8 0,.int .u8 0,.int .u8 0,.int .u8 0] 27 16 (Nat.le_refl _)
   have q:=World.there_alloc h (.cells #[.int .u8 0,.int .u8 0,.int .u8 0,.int .u8 0,.int .u8 0,.int .u8 0,.int .u8 0,.int .u8 0,.int .u8 0,.int .u8 0,.int .u8 0,.int .u8 0,.int .u8 0,.int .u8 0,.int .u8 0,.int .u8 0] 27)
   simpa using q
  ·have h:=Zi ((w.alloc (.cells #[.int .u8 (byV v 0:Nat),.int .u8 (byV v 1:Nat),.int .u8 (byV v 2:Nat),.int .u8 (byV v 3:Nat),.int .u8 (byV v 4:Nat),.int .u8 (byV v 5:Nat),.int .u8 (byV v 6:Nat),.int .u8 (byV v 7:Nat),.int .u8 (byV v 8:Nat),.int .u8 (byV v 9:Nat),.int .u8 (byV v 10:Nat),.int .u8 (byV v 11:Nat),.int .u8 (byV v 12:Nat),.int .u8 (byV v 13:Nat),.int .u8 (byV v 14:Nat),.int .u8 (byV v 15:Nat)] 27)).alloc (.cells #[.int .u8 0,.int .u8 0,.int .u8 0,.int .u8 0,.int .u8 0,.int .u8 0,.int .u8 0,.int .u8 0,.int .u8 0,.int .u8 0,.int .u8 0,.int .u8 0,.int .u8 0,.int .u8 0,.int .u8 0,.int .u8 0] 27)) #[.int .u8 0,.int .u8 0,.int .u8 0,.int .u8 0,.int .u8 0,.int .u8 0,.int .u8 0,.int .u8 0,.int .u8 0,.int .u8 0,.int .u8 0,.int .u8 0,.int .u8 0,.int .u8 0,.int .u8 0,.int .u8 0] 27 16 (Nat.le_refl _)
   simpa using h
  ·have h:=Oq w (.cells #[.int .u8 (byV v 0:Nat),.int .u8 (byV v 1:Nat),.int .u8 (byV v 2:Nat),.int .u8 (byV v 3:Nat),.int .u8 (byV v 4:Nat),.int .u8 (byV v 5:Nat),.int .u8 (byV v 6:Nat),.int .u8 (byV v 7:Nat),.int .u8 (byV v 8:Nat),.int .u8 (byV v 9:Nat),.int .u8 (byV v 10:Nat),.int .u8 (byV v 11:Nat),.int .u8 (byV v 12:Nat),.int .u8 (byV v 13:Nat),.int .u8 (byV v 14:Nat),.int .u8 (byV v 15:Nat)] 27) (.cells #[.int .u8 0,.int .u8 0,.int .u8 0,.int .u8 0,.int .u8 0,.int .u8 0,.int .u8 0,.int .u8 0,.int .u8 0,.int .u8 0,.int .u8 0,.int .u8 0,.int .u8 0,.int .u8 0,.int .u8 0,.int .u8 0] 27) #[.int .u8 0,.int .u8 0,.int .u8 0,.int .u8 0,.int .u8 0,.int .u8 0,.int .u8 0,.int .u8 0,.int .u8 0,.int .u8 0,.int .u8 0,.int .u8 0,.int .u8 0,.int .u8 0,.int .u8 0,.int .u8 0] 27 j (.int .u8 0) (R4 j hj)
   rw[Nat.zero_add] at h
   exact h
 unfold BV
 show Calls Tryz.prog 217 #[.agg #[.int .u8 (byV v 0:Nat),.int .u8 (byV v 1:Nat),.int .u8 (byV v 2:Nat),.int .u8 (byV v 3:Nat),.int .u8 (byV v 4:Nat),.int .u8 (byV v 5:Nat),.int .u8 (byV v 6:Nat),.int .u8 (byV v 7:Nat),.int .u8 (byV v 8:Nat),.int .u8 (byV v 9:Nat),.int .u8 (byV v 10:Nat),.int .u8 (byV v 11:Nat),.int .u8 (byV v 12:Nat),.int .u8 (byV v 13:Nat),.int .u8 (byV v 14:Nat),.int .u8 (byV v 15:Nat)]] w _
 go_enter Tryz.func217,Tryz.ntmps217
 go_upto_region 2 with fail
 generalize ((w.alloc (.cells #[.int .u8 (byV v 0:Nat),.int .u8 (byV v 1:Nat),.int .u8 (byV v 2:Nat),.int .u8 (byV v 3:Nat),.int .u8 (byV v 4:Nat),.int .u8 (byV v 5:Nat),.int .u8 (byV v 6:Nat),.int .u8 (byV v 7:Nat),.int .u8 (byV v 8:Nat),.int .u8 (byV v 9:Nat),.int .u8 (byV v 10:Nat),.int .u8 (byV v 11:Nat),.int .u8 (byV v 12:Nat),.int .u8 (byV v 13:Nat),.int .u8 (byV v 14:Nat),.int .u8 (byV v 15:Nat)] 27)).alloc (.cells #[.int .u8 0,.int .u8 0,.int .u8 0,.int .u8 0,.int .u8 0,.int .u8 0,.int .u8 0,.int .u8 0,.int .u8 0,.int .u8 0,.int .u8 0,.int .u8 0,.int .u8 0,.int .u8 0,.int .u8 0,.int .u8 0] 27)).alloc (.cells #[.int .u8 0,.int .u8 0,.int .u8 0,.int .u8 0,.int .u8 0,.int .u8 0,.int .u8 0,.int .u8 0,.int .u8 0,.int .u8 0,.int .u8 0,.int .u8 0,.int .u8 0,.int .u8 0,.int .u8 0,.int .u8 0] 27)=w2 at HC ⊢
 go_wp2
 go_loopw [4,5] (fun s4 i wr=>∃ k:Nat,k≤16∧i=.int .i64 (k:Nat)∧Hid (Touch w2 wr (w.heap.size+2) 0 16∧∀ j,j<16→wr.cell? ⟨w.heap.size+2,j,none⟩=some (.int .u8 ((if 15-j<k then byV v (15-j) else 0:Nat):Int)))) (fun s4 i _=>16-(intOf i).toNat)
 case atStart=>exact ⟨0,by omega,rfl,Touch.refl _ _ _ _,fun j hj=>by rw[if_neg (by omega)];exact HC.out.2.2.2.2.1 j hj⟩
 case round=>
  obtain ⟨k,hk,rfl,HR⟩:=hrel
  by_cases hlt:k<16
  ·obtain ⟨r,hr⟩:∃ r,r+k=15:=⟨15-k,by omega⟩
   have c1:wr.cell? ⟨w.heap.size,k,none⟩=some (.int .u8 (byV v k:Nat)):=by
    have hz:=HC.out.2.2.2.2.2
    rw[HR.out.1.far (p:=⟨w.heap.size,k,none⟩) (show w.heap.size<_ by omega) (show w.heap.size≠_ by omega)]
    exact HC.out.2.1 k (by omega)
   have c2:=HR.out.2 r (by omega)
   rw[if_neg (by omega)] at c2
   have f1:=(HR.out.1.there _ _ HC.out.2.2.2.1 r (by omega)).2
   rw[Nat.zero_add] at f1
   obtain ⟨x1,HX1⟩:∃ x,Hid (x=byV v k):=⟨_,rfl⟩
   rw[←HX1.out] at c1
   have hki:((k:Nat):Int)<16:=by omega
   have hri:(15:Int)-((k:Nat):Int)=(r:Nat):=by omega
   have hrw:IntKind.i64.wrap ((r:Nat):Int)=(r:Nat):=by simp [IntKind.wrap,IntKind.bits,IntKind.signed];omega
   have hr16:((r:Nat):Int)<16:=by omega
   go_wp2
   refine ⟨⟨k+1,by omega,rfl,(HR.out.1.setCell r _ (by omega) (by omega)),fun j hj=>?_⟩,by simp only[intOf];omega⟩
   by_cases hjk:j=r
   ·subst hjk
    rw[if_pos (by omega),World.cell?_setCell_same' _ _ _ (by rw[c2];rfl),HX1.out,show k=15-j by omega]
   ·rw[Yz _ _ _ _ _ (by omega),HR.out.2 j hj]
    congr 3
    by_cases h:15-j<k
    ·rw[if_pos h,if_pos (by omega)]
    ·rw[if_neg h,if_neg (by omega)]
  ·obtain rfl:k=16:=by omega
   have H4:Hid (wr.rangeAt (w.heap.size+2) 0 (BL (rv v))∧wr.there (w.heap.size+1) 0 16∧Below w.heap.size w wr):=by
    obtain ⟨t1,t2,t3,t4,t5,t6⟩:=HC.out
    obtain ⟨p1,p2⟩:=HR.out
    refine ⟨V1 (fun j hj=>?_),fun j hj=>?_,t1.trans (p1.toBelow (by omega) (by omega))⟩
    ·have h:=p2 j hj
     rw[if_pos (by omega)] at h
     rw[h,Zau v j hj]
    ·rw[p1.far (p:=⟨w.heap.size+1,0+j,none⟩) (show w.heap.size+1<_ by omega) (show w.heap.size+1≠_ by omega),p1.farFrozen (p:=⟨w.heap.size+1,0+j,none⟩) (show w.heap.size+1<_ by omega) (show w.heap.size+1≠_ by omega)]
     exact t3 j hj
   clear HR hlt hk
   obtain ⟨L,HLL⟩:∃ L,Hid (L=BL (rv v)):=⟨_,rfl⟩
   rw[←HLL.out] at H4
   have HLl:Hid (L.length=16):=by show _=_;rw[HLL.out];rfl
   have HLo:Hid (L.toArray.all (·.oneCell')=true):=by show _=_;rw[HLL.out];exact Wi _
   have hTH:wr.there (w.heap.size+1) 0 L.length:=by rw[HLl.out];exact H4.out.2.1
   go_wp2_with (first
    | (refine wpList_load_mid (by rfl) 27 (.tmp 3) (by rfl) (w.heap.size+2) 0 (by rfl) L _ H4.out.1 Tryz.underlying27 rfl (by rw[HLl.out];exact Xc) ?_)
    | (refine wpList_store_mid (by rfl) 27 (.tmp 2) (.tmp 15) (by rfl) (w.heap.size+1) 0 L.toArray (by rfl) (by rfl) (by simpa using hTH) (by rw[List.size_toArray,HLl.out];exact Xc) HLo.out ?_))
   refine Yf L Tryz.results217 rfl (World.rangeAt_setCells_same _ _ _ _ hTH) Tryz.underlying27 rfl (by rw[HLl.out];exact Xc) ⟨?_,Zk _ (by omega) _ _ _ H4.out.2.2⟩
   rw[HLL.out]
   rfl
set_option maxHeartbeats 1600000 in
set_option maxRecDepth 100000 in
theorem Zax (v:BitVec 128) (w:World):Calls Tryz.prog 182 #[.int .u64 (hiV v:Nat),.int .u64 (loV v:Nat)] w fun e w'=>e=.returned (BV (rv v))∧Below w.heap.size w w':=by
 have HA:Hid (Below w.heap.size w (w.alloc (.cells #[.int .u8 0,.int .u8 0,.int .u8 0,.int .u8 0,.int .u8 0,.int .u8 0,.int .u8 0,.int .u8 0,.int .u8 0,.int .u8 0,.int .u8 0,.int .u8 0,.int .u8 0,.int .u8 0,.int .u8 0,.int .u8 0] 27))∧(w.alloc (.cells #[.int .u8 0,.int .u8 0,.int .u8 0,.int .u8 0,.int .u8 0,.int .u8 0,.int .u8 0,.int .u8 0,.int .u8 0,.int .u8 0,.int .u8 0,.int .u8 0,.int .u8 0,.int .u8 0,.int .u8 0,.int .u8 0] 27)).there w.heap.size 0 16∧(w.alloc (.cells #[.int .u8 0,.int .u8 0,.int .u8 0,.int .u8 0,.int .u8 0,.int .u8 0,.int .u8 0,.int .u8 0,.int .u8 0,.int .u8 0,.int .u8 0,.int .u8 0,.int .u8 0,.int .u8 0,.int .u8 0,.int .u8 0] 27)).heap.size=w.heap.size+1):=⟨(Below.refl _ _).alloc (Nat.le_refl _) _,Zi w _ 27 16 (Nat.le_refl _),by simp⟩
 have KL:Hid (∀ u,Calls Tryz.prog 38 #[.int .u64 (hiV v:Nat),.int .u64 (loV v:Nat)] u fun e w'=>e=.returned (.agg (BL v).toArray)∧Below u.heap.size u w'):=fun u=>Wb v u
 have KT:Hid (∀ u,Calls Tryz.prog 217 #[.agg (BL v).toArray] u fun e w'=>e=.returned (.agg (BL (rv v)).toArray)∧Below u.heap.size u w'):=fun u=>Ll v u
 obtain ⟨hi,HH⟩:∃ x,Hid (x=hiV v):=⟨_,rfl⟩
 obtain ⟨lo,HLo⟩:∃ x,Hid (x=loV v):=⟨_,rfl⟩
 obtain ⟨L,HL⟩:∃ L,Hid (L=BL v):=⟨_,rfl⟩
 obtain ⟨LR,HLR⟩:∃ L,Hid (L=BL (rv v)):=⟨_,rfl⟩
 rw[←HH.out,←HLo.out,←HL.out] at KL
 rw[←HL.out,←HLR.out] at KT
 rw[←HH.out,←HLo.out]
 go_enter Tryz.func182,Tryz.ntmps182
 go_upto_region 1 with fail
 generalize w.alloc (.cells #[.int .u8 0,.int .u8 0,.int .u8 0,.int .u8 0,.int .u8 0,.int .u8 0,.int .u8 0,.int .u8 0,.int .u8 0,.int .u8 0,.int .u8 0,.int .u8 0,.int .u8 0,.int .u8 0,.int .u8 0,.int .u8 0] 27)=w2 at HA ⊢
 have hlr:Hid (LR.length=16):=by show _=_;rw[HLR.out];rfl
 have hor:Hid (LR.toArray.all (·.oneCell')=true):=by show _=_;rw[HLR.out];exact Wi _
 go_wp2_with (first
  | (go_at_call 38;refine (KL.out _).mono ?_;rintro e w3 ⟨rfl,hb3⟩)
  | (go_at_call 217;refine (KT.out _).mono ?_))
 rintro e w4 ⟨rfl,hb4⟩
 have HW:Hid (w4.there w.heap.size 0 LR.length∧Below w.heap.size w w4):=by
  obtain ⟨p1,p2,p3⟩:=HA.out
  have h3:=p1.trans (hb3.mono p1.size)
  have z3:=hb3.size
  have z4:=h3.size
  exact ⟨by rw[hlr.out];exact Zq (Zq p2 hb3 (by omega)) hb4 (by omega),h3.trans (hb4.mono (by omega))⟩
 clear hb3 hb4
 have hTH:=HW.out.1
 go_wp2_with (first
  | (refine wpList_store_mid (by rfl) 27 (.tmp 4) (.tmp 8) (by rfl) w.heap.size 0 LR.toArray (by rfl) (by rfl) (by simpa using hTH) (by rw[List.size_toArray,hlr.out];exact Xc) hor.out ?_))
 refine Yf LR Tryz.results182 rfl (World.rangeAt_setCells_same _ _ _ _ hTH) Tryz.underlying27 rfl (by rw[hlr.out];exact Xc) ⟨?_,Zk _ (Nat.le_refl _) _ _ _ HW.out.2⟩
 rw[HLR.out]
 rfl
end Go.Proofs.YtehlppaidgkpaaaGreatDoor.Fd
