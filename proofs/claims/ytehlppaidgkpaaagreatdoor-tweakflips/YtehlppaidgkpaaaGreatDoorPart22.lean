import Derived.Test.YtehlppaidgkpaaaGreatDoorRow
import Derived.Test.YtehlppaidgkpaaaGreatDoorPart02
import Derived.Deep.CutRange
import Derived.Test.YtehlppaidgkpaaaGreatDoorDgFinA64
import Derived.Test.YtehlppaidgkpaaaGreatDoorDgFinB64
import Derived.Test.YtehlppaidgkpaaaGreatDoorPart15
import Derived.Test.YtehlppaidgkpaaaGreatDoorPart18
import Derived.Test.YtehlppaidgkpaaaGreatDoorPart00
import Derived.Test.YtehlppaidgkpaaaGreatDoorPart11
import Derived.Test.YtehlppaidgkpaaaGreatDoorBlk
namespace Go.Proofs.YtehlppaidgkpaaaGreatDoor
open Go.RowKit
set_option linter.unusedVariables false
def pwT (j:Nat):Nat:=Nat.mod (Nat.shiftRight 247704880781559356684414323119999879637317647180040216102211349143305888774923398537951341803642731683984666991564019150676315804531779449815159115664189418245566988781254625896260912026622159780553349108386186142268315007856282091988200171439146255715840100601167723801170608095743514940052926055042184507632911811387723359914440662207451538163404716729158929845121383729837235901114109841630616474463024741216292666125260571984924724184385554713500007113061044175325657975136216706165622836048350080632971744177780693200859426168487707538171671676645432511882666690861394815764438377708986394032816479809277592321 (Nat.mul 8 j)) 256
def ivT (j:Nat):Nat:=Nat.mod (Nat.shiftRight 127727404692115426734198332805968219844573505114629208686901216293690186132462130931675081705992402874744649337146722143913163583643487276303943818893807190013751092806990287370556889600057311714676499800760749547103353651662433367294783190206880884813569237221343399581497263169989195187996008530110587099785212876728548450345268301970899227233349908984604527389233338265073456776979288885037749793268642272576260293033947624555608176220260351415492203342228236466557716880135026471476615524857486394512952861707819425159769229481997196826278555408639803976402068508913166242851432043694978610662015700264484533761 (Nat.mul 8 j)) 256
def lgT (b:Nat):Nat:=Nat.mod (Nat.shiftRight 939374623831894136699086600277250597547650664638770418422125146541797353646788332867483593573384618611044815625336497665827114626705134492515730415652478061620339993830966980270842846318821775850471098591710629241171812800746666233448222972174585295916389942636813666312872914849454985560152530477328703759683306625234997237483834721220409437442253146756845415190424543171129629468776480674528486868811725071010351012234056630775688111116293610821126543142160426617079940511630006820862697466582575257349116925728488930366609138264019883664906661504235885380294353134295748489096855100647154935187045898006656778240 (Nat.mul 8 b)) 256
theorem Nb (j:Nat):pwT j<256:=Nat.mod_lt _ (by decide)
theorem T6 (j:Nat):ivT j<256:=Nat.mod_lt _ (by decide)
theorem Mz:∀ j:Fin 255,Fu 8 0 (pwT j.1) 3=pwT (j.1+1)∧Fu 8 0 (ivT j.1) 246=ivT (j.1+1)∧H6 (ivT j.1)=SB (pwT j.1):=by decide +kernel
theorem Tz:∀ b:Fin 256,b.1=0∨(lgT b.1<255∧pwT (lgT b.1)=b.1):=by decide +kernel
theorem Pr {b c:Nat} (hb:b<256) (hc:c<256) (h:SB b=SB c):b=c:=by
 have h1:=(Bk ⟨b,hb⟩).1
 have h2:=(Bk ⟨c,hc⟩).1
 simp only at h1 h2
 rw[←h1,←h2,h]
structure Jy (w:World) (g o b:Nat):Prop where
 s:w.cell? ⟨g,o+61+b,none⟩=some (.int .u8 (SB b:Nat))
 u:w.cell? ⟨g,o+317+SB b,none⟩=some (.int .u8 (b:Nat))
 m:w.cell? ⟨g,o+573+b,none⟩=some (.int .u32 (MX b:Nat))
 n:w.cell? ⟨g,o+829+b,none⟩=some (.int .u32 (UX b:Nat))
theorem Zc (w:World) (g i j:Nat) (v:Value) (h:i≠j):(w.setCell ⟨g,i,none⟩ v).cell? ⟨g,j,none⟩=w.cell? ⟨g,j,none⟩:=
 World.cell?_setCell_other w ⟨g,i,none⟩ ⟨g,j,none⟩ v (fun e=>h (by cases e;rfl))
theorem Jl {w:World} {g o i n:Nat} (v:Value) (ht:w.there g o n) (hi:i<n):(w.setCell ⟨g,o+i,none⟩ v).cell? ⟨g,o+i,none⟩=some v:=
 World.cell?_setCell_same' _ _ _ (ht i hi).1
theorem J6 {w:World} {g o b:Nat} (ht:w.there g o 1085) (hb:b<256):Jy (Jq w g o b (SB b)) g o b:=by
 have hs:=Yp b
 unfold Jq
 refine ⟨?_,?_,?_,?_⟩
 ·rw[Zc _ _ _ _ _ (by omega),Zc _ _ _ _ _ (by omega),Zc _ _ _ _ _ (by omega)]
  have:=Jl (i:=61+b) (.int .u8 (SB b:Nat)) ht (by omega)
  rw[←Nat.add_assoc] at this
  exact this
 ·rw[Zc _ _ _ _ _ (by omega),Zc _ _ _ _ _ (by omega)]
  have:=Jl (i:=317+SB b) (.int .u8 (b:Nat)) (World.there_setCells ht g (o+61+b) [.int .u8 (SB b:Nat)]) (by omega)
  rw[←Nat.add_assoc] at this
  exact this
 ·rw[Zc _ _ _ _ _ (by omega)]
  have:=Jl (i:=573+b) (.int .u32 (MX b:Nat)) (World.there_setCells (World.there_setCells ht g (o+61+b) [.int .u8 (SB b:Nat)]) g (o+317+SB b) [.int .u8 (b:Nat)]) (by omega)
  rw[←Nat.add_assoc] at this
  exact this
 ·have:=Jl (i:=829+b) (.int .u32 (UX b:Nat)) (World.there_setCells (World.there_setCells (World.there_setCells ht g (o+61+b) [.int .u8 (SB b:Nat)]) g (o+317+SB b) [.int .u8 (b:Nat)]) g (o+573+b) [.int .u32 (MX b:Nat)]) (by omega)
  rw[←Nat.add_assoc] at this
  exact this
theorem Vl {w:World} {g o b c:Nat} (hb:b<256) (hc:c<256) (hne:b≠c) (h:Jy w g o c):Jy (Jq w g o b (SB b)) g o c:=by
 have hs:=Yp b
 have hs':=Yp c
 have hsn:SB b≠SB c:=fun e=>hne (Pr hb hc e)
 unfold Jq
 refine ⟨?_,?_,?_,?_⟩
 ·rw[Zc _ _ _ _ _ (by omega),Zc _ _ _ _ _ (by omega),Zc _ _ _ _ _ (by omega),Zc _ _ _ _ _ (by omega)];exact h.s
 ·rw[Zc _ _ _ _ _ (by omega),Zc _ _ _ _ _ (by omega),Zc _ _ _ _ _ (by omega),Zc _ _ _ _ _ (by omega)];exact h.u
 ·rw[Zc _ _ _ _ _ (by omega),Zc _ _ _ _ _ (by omega),Zc _ _ _ _ _ (by omega),Zc _ _ _ _ _ (by omega)];exact h.m
 ·rw[Zc _ _ _ _ _ (by omega),Zc _ _ _ _ _ (by omega),Zc _ _ _ _ _ (by omega),Zc _ _ _ _ _ (by omega)];exact h.n
theorem Jy.drewN {w:World} {g o b:Nat} (h:Jy w g o b) (m:Nat):Jy (w.drewN m) g o b:=⟨h.s,h.u,h.m,h.n⟩
theorem Vk {w v:World} {g o b:Nat} (hb:b<256) (h:Touch w v g (o+61) 1024) (m:Nat):Touch w ((Jq v g o b (SB b)).drewN m) g (o+61) 1024:=by
 have hs:=Yp b
 unfold Jq
 exact ((((h.setCell _ _ (by omega) (by omega)).setCell _ _ (by omega) (by omega)).setCell _ _ (by omega) (by omega)).setCell _ _ (by omega) (by omega)).drewN m
theorem S8 {w:World} {g o:Nat} (h:∀ b,b<256→Jy w g o b):Tab w g o:=
 ⟨fun b hb=>(h b hb).s,fun c hc=>by
  have h1:=(h (UB c) (Q9 c)).u
  have h2:=(Bk ⟨c,hc⟩).2
  simp only at h2
  rw[h2] at h1
  exact h1,fun b hb=>(h b hb).m,fun b hb=>(h b hb).n⟩
set_option maxHeartbeats 3200000 in
set_option maxRecDepth 100000 in
theorem F3 (g o:Nat) (w:World) (ht:w.there g o 1085) :
  Calls Tryz.prog 75 #[.pointer (some ⟨g,o,none⟩)] w fun e w'=>e=.returned (.tuple #[])∧Touch w w' g (o+61) 1024∧Tab w' g o:=by
 have HT:Hid (w.there g o 1085):=ht
 clear ht
 have hz:SB 0=99:=by decide +kernel
 have H0:Hid (Calls Tryz.prog 115 #[.pointer (some ⟨g,o,none⟩),.int .u8 0,.int .u8 99] w fun e w'=>e=.returned (.tuple #[])∧∃ m,w'=(Jq w g o 0 99).drewN m):=Fe g o 0 99 w (by decide) (by decide) HT.out
 go_enter Tryz.func75,Tryz.ntmps75
 go_wp2_with (first | (go_at_call 115;(refine H0.out.mono ?_)))
 rintro e1 w1 ⟨rfl,m1,hw1⟩
 have HI:Hid (Touch w w1 g (o+61) 1024∧Jy w1 g o 0):=by
  rw[hw1,←hz]
  exact ⟨Vk (by decide) (Touch.refl _ _ _ _) m1,(J6 HT.out (by decide)).drewN m1⟩
 clear hw1 H0
 go_wp2
 go_loopw [2,3,6] (fun vp vi i wr=>∃ k:Nat,k≤255∧i=.int .i64 k∧vp=.int .u8 (pwT k:Nat)∧vi=.int .u8 (ivT k:Nat)∧Hid (Touch w wr g (o+61) 1024∧Jy wr g o 0∧∀ j,j<k→Jy wr g o (pwT j))) (fun _ _ i _=>255-(intOf i).toNat)
 case atStart=>exact ⟨0,by omega,rfl,rfl,rfl,HI.out.1,HI.out.2,fun j hj=>by omega⟩
 case round=>
  obtain ⟨k,hk,rfl,rfl,rfl,HR⟩:=hrel
  by_cases hlt:k<255
  ·obtain ⟨e1,e2,e3⟩:=Mz ⟨k,hlt⟩
   simp only at e1 e2 e3
   obtain ⟨p,HP⟩:∃ p,Hid (p=pwT k):=⟨_,rfl⟩
   obtain ⟨v,HV⟩:∃ p,Hid (p=ivT k):=⟨_,rfl⟩
   have hp:p<256:=by rw[HP.out];exact Nb k
   have hv:v<256:=by rw[HV.out];exact T6 k
   have K1:Hid (∀ u,Calls Tryz.prog 116 #[.int .u8 (v:Nat)] u fun e u'=>e=.returned (.int .u8 (SB p:Nat))∧u'=u):=fun u=>(Lr v hv u).mono fun e u' ⟨z,_,hz,h1,h2⟩=>⟨by rw[h1,hz.out,HV.out,e3,HP.out],h2⟩
   have K2:Hid (Calls Tryz.prog 115 #[.pointer (some ⟨g,o,none⟩),.int .u8 (p:Nat),.int .u8 (SB p:Nat)] wr fun e w'=>e=.returned (.tuple #[])∧∃ m,w'=(Jq wr g o p (SB p)).drewN m):=Fe g o p (SB p) wr hp (Yp p) (HR.out.1.there _ _ HT.out)
   have K3:Hid (∀ u,Calls Tryz.prog 117 #[.int .u8 (p:Nat),.int .u8 3] u fun e u'=>e=.returned (.int .u8 (pwT (k+1):Nat))∧u'=u):=fun u=>(D8 p 3 hp (by decide) u).mono fun e u' ⟨h1,h2⟩=>⟨by rw[h1,HP.out,e1],h2⟩
   have K4:Hid (∀ u,Calls Tryz.prog 117 #[.int .u8 (v:Nat),.int .u8 246] u fun e u'=>e=.returned (.int .u8 (ivT (k+1):Nat))∧u'=u):=fun u=>(D8 v 246 hv (by decide) u).mono fun e u' ⟨h1,h2⟩=>⟨by rw[h1,HV.out,e2],h2⟩
   clear e1 e2 e3
   obtain ⟨p',HP'⟩:∃ p,Hid (p=pwT (k+1)):=⟨_,rfl⟩
   obtain ⟨v',HV'⟩:∃ p,Hid (p=ivT (k+1)):=⟨_,rfl⟩
   rw[←HP'.out] at K3
   rw[←HV'.out] at K4
   rw[←HP.out,←HV.out]
   go_wp2_with (first | (go_at_call 116;(refine (K1.out _).mono ?_);(rintro e2 w2 ⟨rfl,hw2⟩;obtain rfl:=hw2.symm)) | (go_at_call 115;(refine K2.out.mono ?_)))
   rintro e3 w3 ⟨rfl,m3,hw3⟩
   have HR3:Hid (Touch w w3 g (o+61) 1024∧Jy w3 g o 0∧∀ j,j<k+1→Jy w3 g o (pwT j)):=by
    obtain ⟨r1,r2,r3⟩:=HR.out
    rw[hw3]
    refine ⟨Vk hp r1 m3,?_,fun j hj=>?_⟩
    ·by_cases h0:p=0
     ·subst h0;exact (J6 (r1.there _ _ HT.out) hp).drewN m3
     ·exact (Vl hp (by decide) h0 r2).drewN m3
    ·by_cases hjk:p=pwT j
     ·rw[←hjk];exact (J6 (r1.there _ _ HT.out) hp).drewN m3
     ·have hj':j<k:=by
       rcases Nat.lt_or_ge j k with h | h
       ·exact h
       ·exact absurd (show p=pwT j by rw[show j=k by omega];exact HP.out) hjk
      exact (Vl hp (Nb j) hjk (r3 j hj')).drewN m3
   clear hw3 K1 K2
   go_wp2_with (first | (go_at_call 117;(refine (K3.out _).mono ?_)))
   rintro e4 w4 ⟨rfl,hw4⟩
   obtain rfl:=hw4.symm
   go_wp2_with (first | (go_at_call 117;(refine (K4.out _).mono ?_)))
   rintro e5 w5 ⟨rfl,hw5⟩
   obtain rfl:=hw5.symm
   go_wp2
   refine ⟨⟨k+1,by omega,rfl,by rw[HP'.out],by rw[HV'.out],HR3.out⟩,?_⟩
   simp only[intOf];omega
  ·obtain rfl:k=255:=by omega
   go_wp2
   go_end0
   obtain ⟨r1,r2,r3⟩:=HR.out
   refine ⟨rfl,r1,S8 (fun b hb=>?_)⟩
   rcases Tz ⟨b,hb⟩ with h | ⟨h1,h2⟩
   ·simp only at h
    rw[h]
    exact r2
   ·simp only at h1 h2
    have:=r3 _ h1
    rw[h2] at this
    exact this
def Fh (nr:Nat) (K:Nat→Nat) (j:Nat):Value:=
 if j=0 then .int .i64 (nr:Nat) else if j<61 then .int .u32 (K (j-1):Nat) else if j<317 then .int .u8 (SB (j-61):Nat) else if j<573 then .int .u8 (UB (j-317):Nat)
 else if j<829 then .int .u32 (MX (j-573):Nat) else .int .u32 (UX (j-829):Nat)
def Wg (nr:Nat) (K:Nat→Nat):List Value:=(List.range 1085).map (Fh nr K)
theorem Kh (nr:Nat) (K:Nat→Nat):(Wg nr K).length=1085:=by simp [Wg]
theorem La (nr:Nat) (K:Nat→Nat) {j:Nat} (h:j<1085):(Wg nr K)[j]?=some (Fh nr K j):=by simp [Wg,h]
theorem Ux (nr:Nat) (K:Nat→Nat) (j:Nat):(Fh nr K j).oneCell'=true:=by
 unfold Fh
 repeat' split
 all_goals rfl
theorem Uw (nr:Nat) (K:Nat→Nat):(Wg nr K).toArray.all (·.oneCell')=true:=all_oneCell_toArray (fun v hv=>by
 simp only[Wg,List.mem_map] at hv
 obtain ⟨j,_,rfl⟩:=hv
 exact Ux nr K j)
theorem N6 {w:World} {g o nr:Nat} {K:Nat→Nat} (h0:w.cell? ⟨g,o,none⟩=some (.int .i64 (nr:Nat))) (hw:∀ i,i<60→w.cell? ⟨g,o+1+i,none⟩=some (.int .u32 (K i:Nat))) (ht:Tab w g o):w.rangeAt g o (Wg nr K):=fun j v hv=>by
 have hj:j<1085:=by
  have:=(List.getElem?_eq_some_iff.1 hv).1
  rw[Kh] at this
  exact this
 rw[La nr K hj] at hv
 obtain rfl:=Option.some.inj hv
 unfold Fh
 by_cases h1:j=0
 ·rw[if_pos h1,h1];exact h0
 rw[if_neg h1]
 by_cases h2:j<61
 ·rw[if_pos h2];have:=hw (j-1) (by omega);rw[show o+1+(j-1)=o+j by omega] at this;exact this
 rw[if_neg h2]
 by_cases h3:j<317
 ·rw[if_pos h3];have:=ht.s (j-61) (by omega);rw[show o+61+(j-61)=o+j by omega] at this;exact this
 rw[if_neg h3]
 by_cases h4:j<573
 ·rw[if_pos h4];have:=ht.u (j-317) (by omega);rw[show o+317+(j-317)=o+j by omega] at this;exact this
 rw[if_neg h4]
 by_cases h5:j<829
 ·rw[if_pos h5];have:=ht.m (j-573) (by omega);rw[show o+573+(j-573)=o+j by omega] at this;exact this
 rw[if_neg h5]
 have:=ht.n (j-829) (by omega)
 rw[show o+829+(j-829)=o+j by omega] at this
 exact this
theorem F4 {w:World} {g o nr:Nat} {K:Nat→Nat} (h:w.rangeAt g o (Wg nr K)) (hg:g<w.heap.size) (h1:1≤nr) (h14:nr≤14) (hK:∀ i,K i<4294967296):X5 w g o nr K:=by
 have e:∀ j,j<1085→w.cell? ⟨g,o+j,none⟩=some (Fh nr K j):=fun j hj=>h j _ (La nr K hj)
 refine ⟨?_,fun i hi=>?_,hK,⟨fun b hb=>?_,fun b hb=>?_,fun b hb=>?_,fun b hb=>?_⟩,hg,h1,h14⟩
 ·exact e 0 (by omega)
 ·have:=e (1+i) (by omega)
  rw[←Nat.add_assoc] at this
  rw[this]
  unfold Fh
  rw[if_neg (by omega),if_pos (by omega),show 1+i-1=i by omega]
 ·have:=e (61+b) (by omega)
  rw[←Nat.add_assoc] at this
  rw[this]
  unfold Fh
  rw[if_neg (by omega),if_neg (by omega),if_pos (by omega),show 61+b-61=b by omega]
 ·have:=e (317+b) (by omega)
  rw[←Nat.add_assoc] at this
  rw[this]
  unfold Fh
  rw[if_neg (by omega),if_neg (by omega),if_neg (by omega),if_pos (by omega),show 317+b-317=b by omega]
 ·have:=e (573+b) (by omega)
  rw[←Nat.add_assoc] at this
  rw[this]
  unfold Fh
  rw[if_neg (by omega),if_neg (by omega),if_neg (by omega),if_neg (by omega),if_pos (by omega),show 573+b-573=b by omega]
 ·have:=e (829+b) (by omega)
  rw[←Nat.add_assoc] at this
  rw[this]
  unfold Fh
  rw[if_neg (by omega),if_neg (by omega),if_neg (by omega),if_neg (by omega),if_neg (by omega),show 829+b-829=b by omega]
def upd (f:Nat→Nat) (i v:Nat):Nat→Nat:=fun j=>if j=i then v else f j
def By (x:Nat):Nat:=Jj x x x x
def Zcc (x:Nat):Nat:=wd (bt1 x) (bt2 x) (bt3 x) (bt0 x)
def rcT (i:Nat):Nat:=Nat.mod (Nat.shiftRight 255515093586639589736961 (Nat.mul 8 i)) 256
def Wq (nk i:Nat) (K:Nat→Nat):Nat:=
 Nat.xor (K (i-nk)) (if i%nk=0 then Nat.xor (By (Zcc (K (i-1)))) (rcT (i/nk-1)*16777216) else if nk=8∧i%8=4 then By (K (i-1)) else K (i-1))
def G7 (key:Nat→Nat):Nat→Nat→Nat
 | 0=>fun _=>0
 | i+1=>upd (G7 key i) (i/4) (G7 key i (i/4)*256%4294967296+key i)
def goW (nk:Nat) (K:Nat→Nat):Nat→Nat→Nat
 | 0=>K
 | m+1=>upd (goW nk K m) (nk+m) (Wq nk (nk+m) (goW nk K m))
def Yn (nk:Nat) (key:Nat→Nat):Nat→Nat:=goW nk (G7 key (4*nk)) (3*nk+28)
theorem Gh {key : Nat → Nat} (hk : ∀ i, key i < 256) : ∀ i j, G7 key i j < 4294967296
  | 0, j => by show 0 < _; decide
  | i + 1, j => by
    unfold G7 upd
    have := hk i
    split
    · omega
    · exact Gh hk i j
theorem Tg (i:Nat):rcT i<256:=Nat.mod_lt _ (by decide)
theorem Gb (x:Nat):By x<4294967296:=Kd _ _ _ _
theorem Tn {nk i:Nat} {K:Nat→Nat} (hK:∀ j,K j<4294967296):Wq nk i K<4294967296:=by
 unfold Wq
 refine Yg (hK _) ?_
 have:=Tg (i/nk-1)
 split
 ·exact Yg (Gb _) (by omega)
 ·split
  ·exact Gb _
  ·exact hK _
theorem G9 {nk : Nat} {K : Nat → Nat} (hK : ∀ j, K j < 4294967296) : ∀ m j, goW nk K m j < 4294967296
  | 0, j => hK j
  | m + 1, j => by
    unfold goW upd
    split
    · exact Tn (G9 hK m)
    · exact G9 hK m j
theorem Lv {nk:Nat} {key:Nat→Nat} (hk:∀ i,key i<256) (j:Nat):Yn nk key j<4294967296:=G9 (Gh hk _) _ j
structure Qm (w:World) (nr:Nat) (K:Nat→Nat) (u:World):Prop where
 old:Below w.heap.size w u
 size:w.heap.size+2≤u.heap.size
 res:u.there w.heap.size 0 1085
 room:u.there (w.heap.size+1) 0 1085
 rounds:u.cell? ⟨w.heap.size+1,0,none⟩=some (.int .i64 (nr:Nat))
 words:∀ j,j<60→u.cell? ⟨w.heap.size+1,1+j,none⟩=some (.int .u32 (K j:Nat))
theorem Qm.touch {w u u':World} {nr:Nat} {K:Nat→Nat} (h:Qm w nr K u) (ht:Touch u u' (w.heap.size+1) 61 1024):Qm w nr K u':=by
 have hs:=h.size
 refine ⟨h.old.trans (ht.toBelow (Nat.le_succ _) h.old.size),Nat.le_trans h.size ht.size,?_,ht.there _ _ h.room,(ht.cell 0 (by omega)).trans h.rounds,fun j hj=>(ht.cell (1+j) (by omega)).trans (h.words j hj)⟩
 intro j hj
 have:=h.res j hj
 rw[ht.far (p:=⟨w.heap.size,0+j,none⟩) (show w.heap.size<_ by omega) (show w.heap.size≠_ by omega),ht.farFrozen (p:=⟨w.heap.size,0+j,none⟩) (show w.heap.size<_ by omega) (show w.heap.size≠_ by omega)]
 exact this
theorem Qm.set {w u:World} {nr:Nat} {K:Nat→Nat} (h:Qm w nr K u) (i v:Nat) (hi:i<60):Qm w nr (upd K i v) (u.setCell ⟨w.heap.size+1,1+i,none⟩ (.int .u32 (v:Nat))):=by
 refine ⟨h.old.setCell (Nat.le_succ _) _,?_,World.there_setCells h.res _ _ [_],World.there_setCells h.room _ _ [_],?_,fun j hj=>?_⟩
 ·have:=h.size;simpa [World.setCell] using this
 ·rw[Zc _ _ _ _ _ (by omega)];exact h.rounds
 ·unfold upd
  by_cases hji:j=i
  ·subst hji
   rw[if_pos rfl]
   have:=h.room (1+j) (by omega)
   simp only[Nat.zero_add] at this
   exact World.cell?_setCell_same' _ _ _ this.1
  ·rw[if_neg hji,Zc _ _ _ _ _ (by omega)]
   exact h.words j hj
theorem Qm.drewN {w u:World} {nr:Nat} {K:Nat→Nat} (h:Qm w nr K u) (m:Nat):Qm w nr K (u.drewN m):=⟨Below.drewN h.old m,h.size,h.res,h.room,h.rounds,h.words⟩
theorem Tab.set {u:World} {g i:Nat} (h:Tab u g 0) (v:Value) (hi:i<61):Tab (u.setCell ⟨g,i,none⟩ v) g 0:=
 ⟨fun b hb=>by rw[Zc _ _ _ _ _ (by omega)];exact h.s b hb,fun b hb=>by rw[Zc _ _ _ _ _ (by omega)];exact h.u b hb,fun b hb=>by rw[Zc _ _ _ _ _ (by omega)];exact h.m b hb,fun b hb=>by rw[Zc _ _ _ _ _ (by omega)];exact h.n b hb⟩
theorem Tab.drewN {u:World} {g o:Nat} (h:Tab u g o) (m:Nat):Tab (u.drewN m) g o:=⟨h.s,h.u,h.m,h.n⟩
theorem Gw (g o x:Nat) (w:World) (hT:Tab w g o):Calls Tryz.prog 77 #[.pointer (some ⟨g,o,none⟩),.int .u32 (x:Nat)] w fun e w'=>e=.returned (.int .u32 (By x:Nat))∧∃ m,w'=w.drewN m:=by
 obtain ⟨y,HY⟩:∃ y,Hid (y=By x):=⟨_,rfl⟩
 have K1:Hid (Calls Tryz.prog 90 #[.pointer (some ⟨g,o,none⟩),.int .u32 (x:Nat),.int .u32 (x:Nat),.int .u32 (x:Nat),.int .u32 (x:Nat)] w fun e w'=>e=.returned (.int .u32 (y:Nat))∧∃ m,w'=w.drewN m):=by
  rw[HY.out]
  exact M6 g o x x x x _ _ _ _ w (Yw x) (Yv x) (Yu x) (Yt x) (Qq x) (Qp x) (Qo x) (Qn x) hT
 rw[←HY.out]
 clear hT
 go_enter Tryz.func77,Tryz.ntmps77
 go_wp2_with (first | (go_at_call 90;refine K1.out.mono ?_))
 rintro e1 w1 ⟨rfl,m,hw⟩
 go_wp2
 go_ret
 exact ⟨rfl,m,rfl⟩
theorem Hr (g o nr:Nat) (w:World) (h:w.cell? ⟨g,o,none⟩=some (.int .i64 (nr:Nat))) (hn:nr≤14):Calls Tryz.prog 76 #[.pointer (some ⟨g,o,none⟩)] w fun e w'=>e=.returned (.int .i64 (4*(nr+1):Nat))∧w'=w:=by
 go_enter Tryz.func76,Tryz.ntmps76
 go_wp2
 go_ret
 exact ⟨Xk (by omega),rfl⟩
end Go.Proofs.YtehlppaidgkpaaaGreatDoor
namespace Go.Proofs.YtehlppaidgkpaaaGreatDoor.Dg
open Go.RowKit
set_option linter.unusedVariables false
set_option linter.unusedSimpArgs false
theorem Nf (bs fed:Nat) {half half':Nat→Int} (h:∀ i,i<fed%bs→half i=half' i):Qf bs half fed=Qf bs half' fed:=by
 funext i
 unfold Qf
 by_cases hi:i<fed%bs
 ·rw[if_pos hi,if_pos hi,h i hi]
 ·rw[if_neg hi,if_neg hi]
def wsz (wd:Bool):Nat:=if wd then 8 else 4
def Wz (wd:Bool) (s0:Zb) (f0:Nat) (zs:List Int):Zb:=
 TT wd (Qf (bsz wd) (fun i=>fnz zs (bsz wd*(zs.length/bsz wd)+i)) (f0+zs.length)) (TT wd (fnz zs) s0 (zs.length/bsz wd)) (X6 (bsz wd) (f0+zs.length))
theorem Nw (wd:Bool) (g o:Nat) (h:Int) (s:Zb) (half:Nat→Int) (fed:Nat) (w:World) (hblk:Z6 h=bsz wd∧wd=false) (HK:TK w g o h wd s half fed) (hfed:fed≤1152921504606846976) (hT:Tables w) (hg:6≤g) :
  Calls Tryz.prog 58 #[.pointer (some ⟨g,o,none⟩)] w fun e w'=>e=.returned (.agg (Ze (wsz wd) (TT wd (Qf (bsz wd) half fed) s (X6 (bsz wd) fed))).toArray)∧Touch w w' g o 139∧∃ half',TK w' g o h wd (TT wd (Qf (bsz wd) half fed) s (X6 (bsz wd) fed)) half' fed:=by
 cases wd
 ·have hm:fed%64<64:=Nat.mod_lt _ (by omega)
  by_cases hu:fed%64+1≤56
  ·exact Ny g o h s half fed (fed%64) (fed%64+1) w hblk.1 HK hfed hT hg rfl rfl hu
  ·exact Nx g o h s half fed (fed%64) (fed%64+1) w hblk.1 HK hfed hT hg rfl rfl (by omega) (by omega)
 ·exact absurd hblk.2 (by decide)
theorem Nv (wd:Bool) (g o:Nat) (h:Int) (s0:Zb) (f0:Nat) (zs:List Int) (w:World) (hblk:Z6 h=bsz wd∧wd=false) (hr:Rep w g o h wd s0 f0 zs) (hfed:f0+zs.length≤1152921504606846976) (hT:Tables w) (hg:6≤g) :
  Calls Tryz.prog 58 #[.pointer (some ⟨g,o,none⟩)] w fun e w'=>e=.returned (.agg (Ze (wsz wd) (Wz wd s0 f0 zs)).toArray)∧Touch w w' g o 139∧∃ half',TK w' g o h wd (Wz wd s0 f0 zs) half' (f0+zs.length):=by
 obtain ⟨half,hk,hh,hf⟩:=hr
 have hp:Qf (bsz wd) half (f0+zs.length)=Qf (bsz wd) (fun i=>fnz zs (bsz wd*(zs.length/bsz wd)+i)) (f0+zs.length):=Nf _ _ (fun i hi=>by
  obtain ⟨c,hc⟩:∃ c,f0=bsz wd*c:=⟨f0/bsz wd,by have:=Nat.div_add_mod f0 (bsz wd);omega⟩
  rw[hc,Nat.mul_add_mod] at hi
  exact hh i hi)
 have:=Nw wd g o h _ half _ w hblk hk hfed hT hg
 rw[hp] at this
 exact this
end Go.Proofs.YtehlppaidgkpaaaGreatDoor.Dg
namespace Go.Proofs.YtehlppaidgkpaaaGreatDoor
open Go.RowKit
set_option linter.unusedVariables false
def btn (x:Nat):Nat→Nat
 | 0=>bt0 x
 | 1=>bt1 x
 | 2=>bt2 x
 | _=>bt3 x
def rb (K:Nat→Nat) (j:Nat):Nat:=btn (K (j/4)) (j%4)
def sbL:List Value:=(List.range 256).map fun j=>.int .u8 (SB j:Nat)
def ubL:List Value:=(List.range 256).map fun j=>.int .u8 (UB j:Nat)
theorem S3 (j:Nat) (h:j<256):sbL[j]?=some (.int .u8 (SB j:Nat)):=by simp [sbL,h]
theorem Sk (j:Nat) (h:j<256):ubL[j]?=some (.int .u8 (UB j:Nat)):=by simp [ubL,h]
theorem Db:sbL.length=256:=by simp [sbL]
theorem Hu:ubL.length=256:=by simp [ubL]
theorem Mu:sbL.toArray.all (·.oneCell')=true:=all_oneCell_toArray (fun v hv=>by
 simp only[sbL,List.mem_map] at hv
 obtain ⟨j,_,rfl⟩:=hv
 rfl)
theorem Mm:ubL.toArray.all (·.oneCell')=true:=all_oneCell_toArray (fun v hv=>by
 simp only[ubL,List.mem_map] at hv
 obtain ⟨j,_,rfl⟩:=hv
 rfl)
theorem Lx {w:World} {b o:Nat} (h:∀ j,j<256→w.cell? ⟨b,o+j,none⟩=some (.int .u8 (SB j:Nat))):w.rangeAt b o sbL:=fun j v hv=>by
 have hj:j<256:=by have:=(List.getElem?_eq_some_iff.1 hv).1;rw[Db] at this;exact this
 rw[S3 j hj] at hv
 rw[h j hj];exact hv
theorem Lo {w:World} {b o:Nat} (h:∀ j,j<256→w.cell? ⟨b,o+j,none⟩=some (.int .u8 (UB j:Nat))):w.rangeAt b o ubL:=fun j v hv=>by
 have hj:j<256:=by have:=(List.getElem?_eq_some_iff.1 hv).1;rw[Hu] at this;exact this
 rw[Sk j hj] at hv
 rw[h j hj];exact hv
theorem Da:(Tryz.prog.info? 118).map (·.size)=some 256:=by kernel_rfl
theorem Px:Tryz.zeroCells118.size=256:=by kernel_rfl
structure BxS (w:World) (b1 b2 b3:Nat) (u:World):Prop where
 old:Below w.heap.size w u
 r0:u.there w.heap.size 0 256
 r1:u.there b1 0 256
 s:u.there b2 0 256
 t:u.there b3 0 256
theorem BxS.set {w u:World} {b1 b2 b3:Nat} (h:BxS w b1 b2 b3 u) (b j:Nat) (v:Value) (hb:w.heap.size≤b):BxS w b1 b2 b3 (u.setCell ⟨b,j,none⟩ v):=
 ⟨h.old.setCell hb _,World.there_setCells h.r0 _ _ [_],World.there_setCells h.r1 _ _ [_],World.there_setCells h.s _ _ [_],World.there_setCells h.t _ _ [_]⟩
theorem U2 (w:World) (C:Array Value) (hC:C.size=256):BxS w (w.heap.size+1) (w.heap.size+1+1) (w.heap.size+1+1+1) ((((w.alloc (.cells C 118)).alloc (.cells C 118)).alloc (.cells C 118)).alloc (.cells C 118)):=by
 have hl:256≤C.size:=by omega
 have s1:(w.alloc (.cells C 118)).heap.size=w.heap.size+1:=by simp
 have s2:((w.alloc (.cells C 118)).alloc (.cells C 118)).heap.size=w.heap.size+1+1:=by simp
 have s3:(((w.alloc (.cells C 118)).alloc (.cells C 118)).alloc (.cells C 118)).heap.size=w.heap.size+1+1+1:=by simp
 refine ⟨((((Below.refl _ w).alloc (Nat.le_refl _) _).alloc (by omega) _).alloc (by omega) _).alloc (by omega) _,?_,?_,?_,?_⟩
 ·exact World.there_alloc (World.there_alloc (World.there_alloc (Zk w C 118 256 hl) _) _) _
 ·have:=Zk (w.alloc (.cells C 118)) C 118 256 hl
  rw[s1] at this
  exact World.there_alloc (World.there_alloc this _) _
 ·have:=Zk ((w.alloc (.cells C 118)).alloc (.cells C 118)) C 118 256 hl
  rw[s2] at this
  exact World.there_alloc this _
 ·have:=Zk (((w.alloc (.cells C 118)).alloc (.cells C 118)).alloc (.cells C 118)) C 118 256 hl
  rw[s3] at this
  exact this
theorem Yf {w:World} {b n:Nat} (h:w.there b 0 n) (j:Nat) (hj:j<n):∃ v,w.cell? ⟨b,j,none⟩=some v:=by
 have:=(h j hj).1
 rw[Nat.zero_add] at this
 exact Option.isSome_iff_exists.1 this
theorem Z9 {w:World} {b n:Nat} (h:w.there b 0 n) (j:Nat) (hj:j<n):w.frozen? ⟨b,j,none⟩=false:=by
 have:=(h j hj).2
 rw[Nat.zero_add] at this
 exact this
theorem Yy {w:World} {b n j:Nat} (v:Value) (h:w.there b 0 n) (hj:j<n):(w.setCell ⟨b,j,none⟩ v).cell? ⟨b,j,none⟩=some v:=by
 have:=Jl (i:=j) v h hj
 rw[Nat.zero_add] at this
 exact this
theorem Vm {fn:Func} {p u:Tmp} {ty:TypeId} (h:fn.results=#[.cell p ty,.cell u ty]) (tmps:Array Value) (P:Program) (w:World) :
  (results fn tmps).run P w =
   ((asAddr (tmps.getD p undef)).run P w).andThen fun a w₁=>((loadVar ty a).run P w₁).andThen fun v w₂=>((asAddr (tmps.getD u undef)).run P w₂).andThen fun c w₃=>((loadVar ty c).run P w₃).andThen fun x w₄=>.ok (.tuple #[v,x]) w₄:=by
 simp only[results,h]
 simp [Sem.run_bind,Result.andThen]
theorem B8 {P:Program} {fn:Func} {p t:Tmp} {ty:TypeId} {d:TypeDesc} {Q:Ending→World→Prop} {tmps:Array Value} {w:World} {b c:Nat} (cs ds:List Value) (h:fn.results=#[.cell p ty,.cell t ty])
  (hp:tmps.getD p undef=.pointer (some ⟨b,0,none⟩)) (ht:tmps.getD t undef=.pointer (some ⟨c,0,none⟩)) (hr:w.rangeAt b 0 cs) (hs:w.rangeAt c 0 ds) (hu:P.underlying ty=some d) (hd:d.isRow=true) (hi:(P.info? ty).map (·.size)=some cs.length) (hj:(P.info? ty).map (·.size)=some ds.length)
  (hq:Q (.returned (.tuple #[.agg cs.toArray,.agg ds.toArray])) w):bodyPost P fn Q .ret ⟨tmps,[]⟩ w:=by
 refine bodyPost_ret (v:=.tuple #[.agg cs.toArray,.agg ds.toArray]) ?_ rfl hq
 rw[Vm h]
 have hl:=run_loadVar_mid (P:=P) w b 0 ty cs d hr hu hd hi
 have hm:=run_loadVar_mid (P:=P) w c 0 ty ds d hs hu hd hj
 simp [hp,ht,asAddr,hl,hm]
set_option maxHeartbeats 1600000 in
set_option maxRecDepth 100000 in
theorem U9 (w:World):Calls Tryz.prog 112 #[] w fun e w'=>e=.returned (.tuple #[.agg sbL.toArray,.agg ubL.toArray])∧Below w.heap.size w w':=by
 have HB:=U2 w Tryz.zeroCells118 Px
 go_enter Tryz.func112,Tryz.ntmps112
 go_wp2
 have HI:Hid (BxS w (w.heap.size+1) (w.heap.size+1+1) (w.heap.size+1+1+1) ((((w.alloc (.cells Tryz.zeroCells118 118)).alloc (.cells Tryz.zeroCells118 118)).alloc (.cells Tryz.zeroCells118 118)).alloc (.cells Tryz.zeroCells118 118))):=HB
 clear HB
 generalize ((((w.alloc (.cells Tryz.zeroCells118 118)).alloc (.cells Tryz.zeroCells118 118)).alloc (.cells Tryz.zeroCells118 118)).alloc (.cells Tryz.zeroCells118 118))=w4 at HI ⊢
 obtain ⟨b3,HB3⟩:∃ b,Hid (w.heap.size+1+1+1=b):=⟨_,rfl⟩
 obtain ⟨b2,HB2⟩:∃ b,Hid (w.heap.size+1+1=b):=⟨_,rfl⟩
 obtain ⟨b1,HB1⟩:∃ b,Hid (w.heap.size+1=b):=⟨_,rfl⟩
 rw[HB3.out,HB2.out,HB1.out] at HI ⊢
 have HBB:Hid (w.heap.size<b1∧b1<b2∧b2<b3):=⟨by have:=HB1.out;omega,by have:=HB1.out;have:=HB2.out;omega,by have:=HB2.out;have:=HB3.out;omega⟩
 clear HB1 HB2 HB3
 go_loopw [4,5,6] (fun b y i wr=>∃ k:Nat,k≤255∧i=.int .i64 k∧b=.int .u8 (pwT k:Nat)∧y=.int .u8 (ivT k:Nat)∧Hid (BxS w b1 b2 b3 wr∧∀ j,j<k→wr.cell? ⟨b2,pwT j,none⟩=some (.int .u8 (SB (pwT j):Nat)))) (fun _ _ i _=>255-(intOf i).toNat)
 case atStart=>exact ⟨0,by omega,rfl,rfl,rfl,HI.out,fun j hj=>by omega⟩
 case round=>
  obtain ⟨k,hk,rfl,rfl,rfl,HR⟩:=hrel
  by_cases hlt:k<255
  ·obtain ⟨e1,e2,e3⟩:=Mz ⟨k,hlt⟩
   simp only at e1 e2 e3
   obtain ⟨p,HP⟩:∃ p,Hid (p=pwT k):=⟨_,rfl⟩
   obtain ⟨v,HV⟩:∃ p,Hid (p=ivT k):=⟨_,rfl⟩
   have hp:p<256:=by rw[HP.out];exact Nb k
   have hv:v<256:=by rw[HV.out];exact T6 k
   have K1:Hid (∀ u,Calls Tryz.prog 162 #[.int .i64 (v:Nat)] u fun e u'=>e=.returned (.int .u8 (SB p:Nat))∧u'=u):=fun u=>(Gy v hv u).mono fun e u' ⟨z,_,hz,h1,h2⟩=>⟨by rw[h1,hz.out,HV.out,e3,HP.out],h2⟩
   have K3:Hid (∀ u,Calls Tryz.prog 113 #[.int .u8 (p:Nat),.int .u8 3] u fun e u'=>e=.returned (.int .u8 (pwT (k+1):Nat))∧u'=u):=fun u=>(Ji p 3 hp (by decide) u).mono fun e u' ⟨h1,h2⟩=>⟨by rw[h1,HP.out,e1],h2⟩
   have K4:Hid (∀ u,Calls Tryz.prog 113 #[.int .u8 (v:Nat),.int .u8 246] u fun e u'=>e=.returned (.int .u8 (ivT (k+1):Nat))∧u'=u):=fun u=>(Ji v 246 hv (by decide) u).mono fun e u' ⟨h1,h2⟩=>⟨by rw[h1,HV.out,e2],h2⟩
   clear e1 e2 e3
   obtain ⟨p',HP'⟩:∃ p,Hid (p=pwT (k+1)):=⟨_,rfl⟩
   obtain ⟨v',HV'⟩:∃ p,Hid (p=ivT (k+1)):=⟨_,rfl⟩
   rw[←HP'.out] at K3
   rw[←HV'.out] at K4
   rw[←HP.out,←HV.out]
   obtain ⟨c0,hc0⟩:=Yf HR.out.1.s p hp
   have hf0:=Z9 HR.out.1.s p hp
   have hpi:((p:Nat):Int)<256:=by omega
   have hvi:IntKind.i64.wrap ((v:Nat):Int)=((v:Nat):Int):=F9 _ (by omega) (by omega)
   go_wp2_with (first | (go_at_call 162;(refine (K1.out _).mono ?_);(rintro e2 w2 ⟨rfl,hw2⟩;obtain rfl:=hw2.symm)) | (go_at_call 113;(refine (K3.out _).mono ?_)))
   rintro e4 w4 ⟨rfl,hw4⟩
   obtain rfl:=hw4.symm
   go_wp2_with (first | (go_at_call 113;(refine (K4.out _).mono ?_)))
   rintro e5 w5 ⟨rfl,hw5⟩
   obtain rfl:=hw5.symm
   go_wp2
   refine ⟨⟨k+1,by omega,rfl,by rw[HP'.out],by rw[HV'.out],HR.out.1.set _ _ _ (by have:=HBB.out;omega),fun j hj=>?_⟩,?_⟩
   ·by_cases hjk:p=pwT j
    ·rw[←hjk];exact Yy _ HR.out.1.s hp
    ·have hj':j<k:=by
      rcases Nat.lt_or_ge j k with h | h
      ·exact h
      ·exact absurd (show p=pwT j by rw[show j=k by omega];exact HP.out) hjk
     rw[Zc _ _ _ _ _ hjk]
     exact HR.out.2 j hj'
   ·simp only[intOf];omega
  ·obtain rfl:k=255:=by omega
   clear hlt hk
   obtain ⟨p,HP⟩:∃ p,Hid (p=pwT 255):=⟨_,rfl⟩
   obtain ⟨v,HV⟩:∃ p,Hid (p=ivT 255):=⟨_,rfl⟩
   rw[←HP.out,←HV.out]
   have K1:Hid (∀ u,Calls Tryz.prog 162 #[.int .i64 0] u fun e u'=>e=.returned (.int .u8 (SB 0:Nat))∧u'=u):=fun u=>(Gy 0 (by decide) u).mono fun e u' ⟨z,_,hz,h1,h2⟩=>⟨by rw[h1,hz.out];exact congrArg (fun n:Nat=>Ending.returned (.int .u8 (n:Nat))) (by decide +kernel:H6 0=SB 0),h2⟩
   obtain ⟨z0,HZ0⟩:∃ p,Hid (p=SB 0):=⟨_,rfl⟩
   rw[←HZ0.out] at K1
   obtain ⟨c0,hc0⟩:=Yf HR.out.1.s 0 (by decide)
   have hf0:=Z9 HR.out.1.s 0 (by decide)
   go_wp2_with (first | (go_at_call 162;(refine (K1.out _).mono ?_);(rintro e2 w2 ⟨rfl,hw2⟩;obtain rfl:=hw2.symm)))
   have H2:Hid (BxS w b1 b2 b3 (wr.setCell ⟨b2,0,none⟩ (.int .u8 (z0:Nat)))∧∀ j,j<256→(wr.setCell ⟨b2,0,none⟩ (.int .u8 (z0:Nat))).cell? ⟨b2,j,none⟩=some (.int .u8 (SB j:Nat))):=by
    refine ⟨HR.out.1.set _ _ _ (by have:=HBB.out;omega),fun j hj=>?_⟩
    by_cases h0:j=0
    ·subst h0;rw[HZ0.out];exact Yy _ HR.out.1.s (by decide)
    ·rw[Zc _ _ _ _ _ (fun h=>h0 h.symm)]
     rcases Tz ⟨j,hj⟩ with h | ⟨h1,h2⟩
     ·exact absurd h h0
     ·simp only at h1 h2
      have:=HR.out.2 _ h1
      rw[h2] at this
      exact this
   clear HR hc0 hf0 K1
   generalize wr.setCell ⟨b2,0,none⟩ (.int .u8 (z0:Nat))=w5 at H2 ⊢
   go_loopw [7] (fun i wr=>∃ k:Nat,k≤256∧i=.int .i64 k∧Hid (BxS w b1 b2 b3 wr∧(∀ j,j<256→wr.cell? ⟨b2,j,none⟩=some (.int .u8 (SB j:Nat)))∧∀ j,j<k→wr.cell? ⟨b3,SB j,none⟩=some (.int .u8 (j:Nat)))) (fun i _=>256-(intOf i).toNat)
   case atStart=>exact ⟨0,by omega,rfl,H2.out.1,H2.out.2,fun j hj=>by omega⟩
   case round=>
    obtain ⟨k,hk,rfl,HR⟩:=hrel
    by_cases hlt:k<256
    ·have ck:=HR.out.2.1 k hlt
     obtain ⟨q,HQ⟩:∃ q,Hid (q=SB k):=⟨_,rfl⟩
     rw[←HQ.out] at ck
     have hq:q<256:=by rw[HQ.out];exact Yp k
     have hqi:((q:Nat):Int)<256:=by omega
     have hki:((k:Nat):Int)<256:=by omega
     obtain ⟨c1,hc1⟩:=Yf HR.out.1.t q hq
     have hf1:=Z9 HR.out.1.t q hq
     have hm:((k:Nat):Int)%256=((k:Nat):Int):=by omega
     go_wp2
     refine ⟨⟨k+1,by omega,rfl,HR.out.1.set _ _ _ (by have:=HBB.out;omega),fun j hj=>?_,fun j hj=>?_⟩,?_⟩
     ·rw[World.cell?_setCell_far _ _ _ _ (by have:=HBB.out;show b3≠b2;omega)]
      exact HR.out.2.1 j hj
     ·by_cases hjk:j=k
      ·subst hjk;rw[HQ.out] at hq ⊢;exact Yy _ HR.out.1.t hq
      ·rw[Zc _ _ _ _ _ (fun h=>hjk (Pr (by omega) hlt (h.symm.trans HQ.out)))]
       exact HR.out.2.2 j (by omega)
     ·simp only[intOf];omega
    ·obtain rfl:k=256:=by omega
     have RS:Hid (wr.rangeAt b2 0 sbL):=Lx (fun j hj=>by rw[Nat.zero_add];exact HR.out.2.1 j hj)
     have RU:Hid (wr.rangeAt b3 0 ubL):=Lo (fun j hj=>by
      rw[Nat.zero_add]
      have:=HR.out.2.2 (UB j) (Q9 j)
      rw[(Bk ⟨j,hj⟩).2] at this
      exact this)
     clear hlt hk H2
     go_wp2
     obtain ⟨SL,HSL⟩:∃ L,Hid (L=sbL):=⟨_,rfl⟩
     obtain ⟨UL,HUL⟩:∃ L,Hid (L=ubL):=⟨_,rfl⟩
     rw[←HSL.out] at RS
     rw[←HUL.out] at RU
     have HSl:Hid (SL.toArray.size=256):=by show _=_;rw[HSL.out];exact Db
     have HUl:Hid (UL.toArray.size=256):=by show _=_;rw[HUL.out];exact Hu
     have HSo:Hid (SL.toArray.all (·.oneCell')=true):=by show _=_;rw[HSL.out];exact Mu
     have HUo:Hid (UL.toArray.all (·.oneCell')=true):=by show _=_;rw[HUL.out];exact Mm
     have hS0:∀ p:Addr,b2≤p.block→wr.drew.cell? p=wr.cell? p:=fun p _=>rfl
     have G2:Hid (∀ u:World,(∀ p:Addr,b2≤p.block→u.cell? p=wr.cell? p)→u.rangeAt b2 0 SL):=fun u hu j v hv=>(hu _ (Nat.le_refl _)).trans (RS.out j v hv)
     have G3:Hid (∀ u:World,(∀ p:Addr,b2≤p.block→u.cell? p=wr.cell? p)→u.rangeAt b3 0 UL):=fun u hu j v hv=>(hu _ (Nat.le_of_lt HBB.out.2.2)).trans (RU.out j v hv)
     have HT0:Hid (wr.drew.there w.heap.size 0 SL.toArray.size):=by show World.there _ _ _ _;rw[HSl.out];exact (World.there_drew _ _ _ _).2 HR.out.1.r0
     have HT1:Hid (wr.drew.there b1 0 UL.toArray.size):=by show World.there _ _ _ _;rw[HUl.out];exact (World.there_drew _ _ _ _).2 HR.out.1.r1
     have s65a:Hid ((Tryz.prog.info? 118).map (·.size)=some SL.toArray.size):=by show _=_;rw[HSl.out];exact Da
     have s65b:Hid ((Tryz.prog.info? 118).map (·.size)=some UL.toArray.size):=by show _=_;rw[HUl.out];exact Da
     refine wp_region_noPanic ?_
     refine wp_region_held_drew (S:=fun u=>∀ p:Addr,b2≤p.block→u.cell? p=wr.cell? p) (by kernel_rfl) (hS0) (fun _=>?_)
     refine tH 0 33 (.agg SL.toArray) rfl rfl (by kernel_rfl) (hS0) (yieldsIf_load_mid (by kernel_rfl) 118 (.tmp 2) rfl b2 0 rfl SL _ (fun u hu=>G2.out u hu) Tryz.underlying118 rfl s65a.out) ?_
     simp only[pU]
     refine tH 1 34 (.agg UL.toArray) rfl rfl (by kernel_rfl) (hS0) (yieldsIf_load_mid (by kernel_rfl) 118 (.tmp 3) rfl b3 0 rfl UL _ (fun u hu=>G3.out u hu) Tryz.underlying118 rfl s65b.out) ?_
     simp only[pU]
     refine wpAnyH_ready (rs:=[2]) (by kernel_rfl) (by simp) ?_
     refine AllReadyH.cons rfl (fun Kx hK=>?_) AllReadyH.nil
     rw[if_pos (by kernel_rfl)]
     refine wp_store_mid 118 (.tmp 0) (.tmp 33) rfl w.heap.size 0 SL.toArray rfl rfl HT0.out s65a.out HSo.out ?_
     have hS1:∀ p:Addr,b2≤p.block→(wr.drew.setCells w.heap.size 0 SL).cell? p=wr.cell? p:=fun p hp=>(World.cell?_setCells_out _ _ _ _ _ (fun e=>by have:=HBB.out;omega)).trans (hS0 p hp)
     refine hK.out _ _ hS1 (fun _=>?_)
     clear hK Kx
     try simp only[Act.put]
     refine wpAnyH_ready (rs:=[3]) (by kernel_rfl) (by simp) ?_
     refine AllReadyH.cons rfl (fun Kx hK=>?_) AllReadyH.nil
     rw[if_pos (by kernel_rfl)]
     refine wp_store_mid 118 (.tmp 1) (.tmp 34) rfl b1 0 UL.toArray rfl rfl (World.there_setCells HT1.out _ _ _) s65b.out HUo.out ?_
     have hS2:∀ p:Addr,b2≤p.block→((wr.drew.setCells w.heap.size 0 SL).setCells b1 0 UL).cell? p=wr.cell? p:=fun p hp=>(World.cell?_setCells_out _ _ _ _ _ (fun e=>by have:=HBB.out;omega)).trans (hS1 p hp)
     refine hK.out _ _ hS2 (fun _=>?_)
     clear hK Kx
     refine wpAnyH_done (by kernel_rfl) ?_ _
     refine NoPanic.normal ?_
     have hlast:Hid (((wr.drew.setCells w.heap.size 0 SL).setCells b1 0 UL).rangeAt w.heap.size 0 SL):=fun j v hv=>(World.cell?_setCells_out b1 _ _ _ _ (fun e=>by have h1:=HBB.out.1;have h2:w.heap.size=b1:=e;omega)).trans (World.rangeAt_setCells_same _ _ _ _ HT0.out j v hv)
     have hlast2:Hid (((wr.drew.setCells w.heap.size 0 SL).setCells b1 0 UL).rangeAt b1 0 UL):=World.rangeAt_setCells_same _ _ _ _ (World.there_setCells HT1.out _ _ _)
     have hbel:Hid (Below w.heap.size w ((wr.drew.setCells w.heap.size 0 SL).setCells b1 0 UL)):=Zl _ (by have:=HBB.out;omega) _ _ _ (Zl _ (Nat.le_refl _) _ _ _ HR.out.1.old.drew)
     go_wp2
     refine B8 SL UL Tryz.results112 rfl rfl hlast.out hlast2.out Tryz.underlying118 rfl s65a.out s65b.out ⟨by rw[HSL.out,HUL.out],hbel.out⟩
end Go.Proofs.YtehlppaidgkpaaaGreatDoor
