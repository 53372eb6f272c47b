import Derived.Test.YtehlppaidgkpaaaGreatDoorRow
import Derived.Test.YtehlppaidgkpaaaGreatDoorPart02
import Derived.Deep.CutRange
import Derived.Test.YtehlppaidgkpaaaGreatDoorDgFinA64
import Derived.Test.YtehlppaidgkpaaaGreatDoorDgFinB64
import Derived.Test.YtehlppaidgkpaaaGreatDoorPart17
import Derived.Test.YtehlppaidgkpaaaGreatDoorFdDot
import Derived.ProofKit
import Derived.OpenShut
import Derived.ChangeOld
import Derived.Deep.Slices
namespace Go.Proofs.YtehlppaidgkpaaaGreatDoor
open Go.RowKit
set_option linter.unusedVariables false
def pwT (j:Nat):Nat:=Nat.mod (Nat.shiftRight 247704880781559356684414323119999879637317647180040216102211349143305888774923398537951341803642731683984666991564019150676315804531779449815159115664189418245566988781254625896260912026622159780553349108386186142268315007856282091988200171439146255715840100601167723801170608095743514940052926055042184507632911811387723359914440662207451538163404716729158929845121383729837235901114109841630616474463024741216292666125260571984924724184385554713500007113061044175325657975136216706165622836048350080632971744177780693200859426168487707538171671676645432511882666690861394815764438377708986394032816479809277592321 (Nat.mul 8 j)) 256
def ivT (j:Nat):Nat:=Nat.mod (Nat.shiftRight 127727404692115426734198332805968219844573505114629208686901216293690186132462130931675081705992402874744649337146722143913163583643487276303943818893807190013751092806990287370556889600057311714676499800760749547103353651662433367294783190206880884813569237221343399581497263169989195187996008530110587099785212876728548450345268301970899227233349908984604527389233338265073456776979288885037749793268642272576260293033947624555608176220260351415492203342228236466557716880135026471476615524857486394512952861707819425159769229481997196826278555408639803976402068508913166242851432043694978610662015700264484533761 (Nat.mul 8 j)) 256
def lgT (b:Nat):Nat:=Nat.mod (Nat.shiftRight 939374623831894136699086600277250597547650664638770418422125146541797353646788332867483593573384618611044815625336497665827114626705134492515730415652478061620339993830966980270842846318821775850471098591710629241171812800746666233448222972174585295916389942636813666312872914849454985560152530477328703759683306625234997237483834721220409437442253146756845415190424543171129629468776480674528486868811725071010351012234056630775688111116293610821126543142160426617079940511630006820862697466582575257349116925728488930366609138264019883664906661504235885380294353134295748489096855100647154935187045898006656778240 (Nat.mul 8 b)) 256
theorem Ms (j:Nat):pwT j<256:=Nat.mod_lt _ (by decide)
theorem Ec (j:Nat):ivT j<256:=Nat.mod_lt _ (by decide)
theorem Rw:∀ j:Fin 255,Hw 8 0 (pwT j.1) 3=pwT (j.1+1)∧Hw 8 0 (ivT j.1) 246=ivT (j.1+1)∧Cj (ivT j.1)=SB (pwT j.1):=by decide +kernel
theorem P7:∀ b:Fin 256,b.1=0∨(lgT b.1<255∧pwT (lgT b.1)=b.1):=by decide +kernel
theorem Iz {b c:Nat} (hb:b<256) (hc:c<256) (h:SB b=SB c):b=c:=by
 have h1:=(N3 ⟨b,hb⟩).1
 have h2:=(N3 ⟨c,hc⟩).1
 simp only at h1 h2
 rw[←h1,←h2,h]
structure J6 (w:World) (g o b:Nat):Prop where
 s:w.cell? ⟨g,o+61+b,none⟩=some (.int .u8 (SB b:Nat))
 u:w.cell? ⟨g,o+317+SB b,none⟩=some (.int .u8 (b:Nat))
 m:w.cell? ⟨g,o+573+b,none⟩=some (.int .u32 (MX b:Nat))
 n:w.cell? ⟨g,o+829+b,none⟩=some (.int .u32 (UX b:Nat))
theorem Ze (w:World) (g i j:Nat) (v:Value) (h:i≠j):(w.setCell ⟨g,i,none⟩ v).cell? ⟨g,j,none⟩=w.cell? ⟨g,j,none⟩:=
 World.cell?_setCell_other w ⟨g,i,none⟩ ⟨g,j,none⟩ v (fun e=>h (by cases e;rfl))
theorem Jj {w:World} {g o i n:Nat} (v:Value) (ht:w.there g o n) (hi:i<n):(w.setCell ⟨g,o+i,none⟩ v).cell? ⟨g,o+i,none⟩=some v:=
 World.cell?_setCell_same' _ _ _ (ht i hi).1
theorem Ka {w:World} {g o b:Nat} (ht:w.there g o 1085) (hb:b<256):J6 (Jt w g o b (SB b)) g o b:=by
 have hs:=Yw b
 unfold Jt
 refine ⟨?_,?_,?_,?_⟩
 ·rw[Ze _ _ _ _ _ (by omega),Ze _ _ _ _ _ (by omega),Ze _ _ _ _ _ (by omega)]
  have:=Jj (i:=61+b) (.int .u8 (SB b:Nat)) ht (by omega)
  rw[←Nat.add_assoc] at this
  exact this
 ·rw[Ze _ _ _ _ _ (by omega),Ze _ _ _ _ _ (by omega)]
  have:=Jj (i:=317+SB b) (.int .u8 (b:Nat)) (World.there_setCells ht g (o+61+b) [.int .u8 (SB b:Nat)]) (by omega)
  rw[←Nat.add_assoc] at this
  exact this
 ·rw[Ze _ _ _ _ _ (by omega)]
  have:=Jj (i:=573+b) (.int .u32 (MX b:Nat)) (World.there_setCells (World.there_setCells ht g (o+61+b) [.int .u8 (SB b:Nat)]) g (o+317+SB b) [.int .u8 (b:Nat)]) (by omega)
  rw[←Nat.add_assoc] at this
  exact this
 ·have:=Jj (i:=829+b) (.int .u32 (UX b:Nat)) (World.there_setCells (World.there_setCells (World.there_setCells ht g (o+61+b) [.int .u8 (SB b:Nat)]) g (o+317+SB b) [.int .u8 (b:Nat)]) g (o+573+b) [.int .u32 (MX b:Nat)]) (by omega)
  rw[←Nat.add_assoc] at this
  exact this
theorem V3 {w:World} {g o b c:Nat} (hb:b<256) (hc:c<256) (hne:b≠c) (h:J6 w g o c):J6 (Jt w g o b (SB b)) g o c:=by
 have hs:=Yw b
 have hs':=Yw c
 have hsn:SB b≠SB c:=fun e=>hne (Iz hb hc e)
 unfold Jt
 refine ⟨?_,?_,?_,?_⟩
 ·rw[Ze _ _ _ _ _ (by omega),Ze _ _ _ _ _ (by omega),Ze _ _ _ _ _ (by omega),Ze _ _ _ _ _ (by omega)];exact h.s
 ·rw[Ze _ _ _ _ _ (by omega),Ze _ _ _ _ _ (by omega),Ze _ _ _ _ _ (by omega),Ze _ _ _ _ _ (by omega)];exact h.u
 ·rw[Ze _ _ _ _ _ (by omega),Ze _ _ _ _ _ (by omega),Ze _ _ _ _ _ (by omega),Ze _ _ _ _ _ (by omega)];exact h.m
 ·rw[Ze _ _ _ _ _ (by omega),Ze _ _ _ _ _ (by omega),Ze _ _ _ _ _ (by omega),Ze _ _ _ _ _ (by omega)];exact h.n
theorem J6.drewN {w:World} {g o b:Nat} (h:J6 w g o b) (m:Nat):J6 (w.drewN m) g o b:=⟨h.s,h.u,h.m,h.n⟩
theorem V2 {w v:World} {g o b:Nat} (hb:b<256) (h:Touch w v g (o+61) 1024) (m:Nat):Touch w ((Jt v g o b (SB b)).drewN m) g (o+61) 1024:=by
 have hs:=Yw b
 unfold Jt
 exact ((((h.setCell _ _ (by omega) (by omega)).setCell _ _ (by omega) (by omega)).setCell _ _ (by omega) (by omega)).setCell _ _ (by omega) (by omega)).drewN m
theorem Pc {w:World} {g o:Nat} (h:∀ b,b<256→J6 w g o b):Tab w g o:=
 ⟨fun b hb=>(h b hb).s,fun c hc=>by
  have h1:=(h (UB c) (Zbp c)).u
  have h2:=(N3 ⟨c,hc⟩).2
  simp only at h2
  rw[h2] at h1
  exact h1,fun b hb=>(h b hb).m,fun b hb=>(h b hb).n⟩
set_option maxHeartbeats 3200000 in
set_option maxRecDepth 100000 in
theorem De (g o:Nat) (w:World) (ht:w.there g o 1085) :
  Calls Tryz.prog 75 #[.pointer (some ⟨g,o,none⟩)] w fun e w'=>e=.returned (.tuple #[])∧Touch w w' g (o+61) 1024∧Tab w' g o:=by
 have HT:Hid (w.there g o 1085):=ht
 clear ht
 have hz:SB 0=99:=by decide +kernel
 have H0:Hid (Calls Tryz.prog 115 #[.pointer (some ⟨g,o,none⟩),.int .u8 0,.int .u8 99] w fun e w'=>e=.returned (.tuple #[])∧∃ m,w'=(Jt w g o 0 99).drewN m):=F8 g o 0 99 w (by decide) (by decide) HT.out
 go_enter Tryz.func75,Tryz.ntmps75
 go_wp2_with (first | (go_at_call 115;(refine H0.out.mono ?_)))
 rintro e1 w1 ⟨rfl,m1,hw1⟩
 have HI:Hid (Touch w w1 g (o+61) 1024∧J6 w1 g o 0):=by
  rw[hw1,←hz]
  exact ⟨V2 (by decide) (Touch.refl _ _ _ _) m1,(Ka HT.out (by decide)).drewN m1⟩
 clear hw1 H0
 go_wp2
 go_loopw [2,3,6] (fun vp vi i wr=>∃ k:Nat,k≤255∧i=.int .i64 k∧vp=.int .u8 (pwT k:Nat)∧vi=.int .u8 (ivT k:Nat)∧Hid (Touch w wr g (o+61) 1024∧J6 wr g o 0∧∀ j,j<k→J6 wr g o (pwT j))) (fun _ _ i _=>255-(intOf i).toNat)
 case atStart=>exact ⟨0,by omega,rfl,rfl,rfl,HI.out.1,HI.out.2,fun j hj=>by omega⟩
 case round=>
  obtain ⟨k,hk,rfl,rfl,rfl,HR⟩:=hrel
  by_cases hlt:k<255
  ·obtain ⟨e1,e2,e3⟩:=Rw ⟨k,hlt⟩
   simp only at e1 e2 e3
   obtain ⟨p,HP⟩:∃ p,Hid (p=pwT k):=⟨_,rfl⟩
   obtain ⟨v,HV⟩:∃ p,Hid (p=ivT k):=⟨_,rfl⟩
   have hp:p<256:=by rw[HP.out];exact Ms k
   have hv:v<256:=by rw[HV.out];exact Ec k
   have K1:Hid (∀ u,Calls Tryz.prog 116 #[.int .u8 (v:Nat)] u fun e u'=>e=.returned (.int .u8 (SB p:Nat))∧u'=u):=fun u=>(Sv v hv u).mono fun e u' ⟨z,_,hz,h1,h2⟩=>⟨by rw[h1,hz.out,HV.out,e3,HP.out],h2⟩
   have K2:Hid (Calls Tryz.prog 115 #[.pointer (some ⟨g,o,none⟩),.int .u8 (p:Nat),.int .u8 (SB p:Nat)] wr fun e w'=>e=.returned (.tuple #[])∧∃ m,w'=(Jt wr g o p (SB p)).drewN m):=F8 g o p (SB p) wr hp (Yw p) (HR.out.1.there _ _ HT.out)
   have K3:Hid (∀ u,Calls Tryz.prog 117 #[.int .u8 (p:Nat),.int .u8 3] u fun e u'=>e=.returned (.int .u8 (pwT (k+1):Nat))∧u'=u):=fun u=>(Vv p 3 hp (by decide) u).mono fun e u' ⟨h1,h2⟩=>⟨by rw[h1,HP.out,e1],h2⟩
   have K4:Hid (∀ u,Calls Tryz.prog 117 #[.int .u8 (v:Nat),.int .u8 246] u fun e u'=>e=.returned (.int .u8 (ivT (k+1):Nat))∧u'=u):=fun u=>(Vv v 246 hv (by decide) u).mono fun e u' ⟨h1,h2⟩=>⟨by rw[h1,HV.out,e2],h2⟩
   clear e1 e2 e3
   obtain ⟨p',HP'⟩:∃ p,Hid (p=pwT (k+1)):=⟨_,rfl⟩
   obtain ⟨v',HV'⟩:∃ p,Hid (p=ivT (k+1)):=⟨_,rfl⟩
   rw[←HP'.out] at K3
   rw[←HV'.out] at K4
   rw[←HP.out,←HV.out]
   go_wp2_with (first | (go_at_call 116;(refine (K1.out _).mono ?_);(rintro e2 w2 ⟨rfl,hw2⟩;obtain rfl:=hw2.symm)) | (go_at_call 115;(refine K2.out.mono ?_)))
   rintro e3 w3 ⟨rfl,m3,hw3⟩
   have HR3:Hid (Touch w w3 g (o+61) 1024∧J6 w3 g o 0∧∀ j,j<k+1→J6 w3 g o (pwT j)):=by
    obtain ⟨r1,r2,r3⟩:=HR.out
    rw[hw3]
    refine ⟨V2 hp r1 m3,?_,fun j hj=>?_⟩
    ·by_cases h0:p=0
     ·subst h0;exact (Ka (r1.there _ _ HT.out) hp).drewN m3
     ·exact (V3 hp (by decide) h0 r2).drewN m3
    ·by_cases hjk:p=pwT j
     ·rw[←hjk];exact (Ka (r1.there _ _ HT.out) hp).drewN m3
     ·have hj':j<k:=by
       rcases Nat.lt_or_ge j k with h | h
       ·exact h
       ·exact absurd (show p=pwT j by rw[show j=k by omega];exact HP.out) hjk
      exact (V3 hp (Ms j) hjk (r3 j hj')).drewN m3
   clear hw3 K1 K2
   go_wp2_with (first | (go_at_call 117;(refine (K3.out _).mono ?_)))
   rintro e4 w4 ⟨rfl,hw4⟩
   obtain rfl:=hw4.symm
   go_wp2_with (first | (go_at_call 117;(refine (K4.out _).mono ?_)))
   rintro e5 w5 ⟨rfl,hw5⟩
   obtain rfl:=hw5.symm
   go_wp2
   refine ⟨⟨k+1,by omega,rfl,by rw[HP'.out],by rw[HV'.out],HR3.out⟩,?_⟩
   simp only[intOf];omega
  ·obtain rfl:k=255:=by omega
   go_wp2
   go_end0
   obtain ⟨r1,r2,r3⟩:=HR.out
   refine ⟨rfl,r1,Pc (fun b hb=>?_)⟩
   rcases P7 ⟨b,hb⟩ with h | ⟨h1,h2⟩
   ·simp only at h
    rw[h]
    exact r2
   ·simp only at h1 h2
    have:=r3 _ h1
    rw[h2] at this
    exact this
def Hi (nr:Nat) (K:Nat→Nat) (j:Nat):Value:=
 if j=0 then .int .i64 (nr:Nat) else if j<61 then .int .u32 (K (j-1):Nat) else if j<317 then .int .u8 (SB (j-61):Nat) else if j<573 then .int .u8 (UB (j-317):Nat)
 else if j<829 then .int .u32 (MX (j-573):Nat) else .int .u32 (UX (j-829):Nat)
def Wz (nr:Nat) (K:Nat→Nat):List Value:=(List.range 1085).map (Hi nr K)
theorem Kk (nr:Nat) (K:Nat→Nat):(Wz nr K).length=1085:=by simp [Wz]
theorem Se (nr:Nat) (K:Nat→Nat) {j:Nat} (h:j<1085):(Wz nr K)[j]?=some (Hi nr K j):=by simp [Wz,h]
theorem E5 (nr:Nat) (K:Nat→Nat) (j:Nat):(Hi nr K j).oneCell'=true:=by
 unfold Hi
 repeat' split
 all_goals rfl
theorem E4 (nr:Nat) (K:Nat→Nat):(Wz nr K).toArray.all (·.oneCell')=true:=all_oneCell_toArray (fun v hv=>by
 simp only[Wz,List.mem_map] at hv
 obtain ⟨j,_,rfl⟩:=hv
 exact E5 nr K j)
theorem Ls {w:World} {g o nr:Nat} {K:Nat→Nat} (h0:w.cell? ⟨g,o,none⟩=some (.int .i64 (nr:Nat))) (hw:∀ i,i<60→w.cell? ⟨g,o+1+i,none⟩=some (.int .u32 (K i:Nat))) (ht:Tab w g o):w.rangeAt g o (Wz nr K):=fun j v hv=>by
 have hj:j<1085:=by
  have:=(List.getElem?_eq_some_iff.1 hv).1
  rw[Kk] at this
  exact this
 rw[Se nr K hj] at hv
 obtain rfl:=Option.some.inj hv
 unfold Hi
 by_cases h1:j=0
 ·rw[if_pos h1,h1];exact h0
 rw[if_neg h1]
 by_cases h2:j<61
 ·rw[if_pos h2];have:=hw (j-1) (by omega);rw[show o+1+(j-1)=o+j by omega] at this;exact this
 rw[if_neg h2]
 by_cases h3:j<317
 ·rw[if_pos h3];have:=ht.s (j-61) (by omega);rw[show o+61+(j-61)=o+j by omega] at this;exact this
 rw[if_neg h3]
 by_cases h4:j<573
 ·rw[if_pos h4];have:=ht.u (j-317) (by omega);rw[show o+317+(j-317)=o+j by omega] at this;exact this
 rw[if_neg h4]
 by_cases h5:j<829
 ·rw[if_pos h5];have:=ht.m (j-573) (by omega);rw[show o+573+(j-573)=o+j by omega] at this;exact this
 rw[if_neg h5]
 have:=ht.n (j-829) (by omega)
 rw[show o+829+(j-829)=o+j by omega] at this
 exact this
theorem Df {w:World} {g o nr:Nat} {K:Nat→Nat} (h:w.rangeAt g o (Wz nr K)) (hg:g<w.heap.size) (h1:1≤nr) (h14:nr≤14) (hK:∀ i,K i<4294967296):J7 w g o nr K:=by
 have e:∀ j,j<1085→w.cell? ⟨g,o+j,none⟩=some (Hi nr K j):=fun j hj=>h j _ (Se nr K hj)
 refine ⟨?_,fun i hi=>?_,hK,⟨fun b hb=>?_,fun b hb=>?_,fun b hb=>?_,fun b hb=>?_⟩,hg,h1,h14⟩
 ·exact e 0 (by omega)
 ·have:=e (1+i) (by omega)
  rw[←Nat.add_assoc] at this
  rw[this]
  unfold Hi
  rw[if_neg (by omega),if_pos (by omega),show 1+i-1=i by omega]
 ·have:=e (61+b) (by omega)
  rw[←Nat.add_assoc] at this
  rw[this]
  unfold Hi
  rw[if_neg (by omega),if_neg (by omega),if_pos (by omega),show 61+b-61=b by omega]
 ·have:=e (317+b) (by omega)
  rw[←Nat.add_assoc] at this
  rw[this]
  unfold Hi
  rw[if_neg (by omega),if_neg (by omega),if_neg (by omega),if_pos (by omega),show 317+b-317=b by omega]
 ·have:=e (573+b) (by omega)
  rw[←Nat.add_assoc] at this
  rw[this]
  unfold Hi
  rw[if_neg (by omega),if_neg (by omega),if_neg (by omega),if_neg (by omega),if_pos (by omega),show 573+b-573=b by omega]
 ·have:=e (829+b) (by omega)
  rw[←Nat.add_assoc] at this
  rw[this]
  unfold Hi
  rw[if_neg (by omega),if_neg (by omega),if_neg (by omega),if_neg (by omega),if_neg (by omega),show 829+b-829=b by omega]
def upd (f:Nat→Nat) (i v:Nat):Nat→Nat:=fun j=>if j=i then v else f j
def Mf (x:Nat):Nat:=J5 x x x x
def Zea (x:Nat):Nat:=wd (bt1 x) (bt2 x) (bt3 x) (bt0 x)
def rcT (i:Nat):Nat:=Nat.mod (Nat.shiftRight 255515093586639589736961 (Nat.mul 8 i)) 256
def Ga (nk i:Nat) (K:Nat→Nat):Nat:=
 Nat.xor (K (i-nk)) (if i%nk=0 then Nat.xor (Mf (Zea (K (i-1)))) (rcT (i/nk-1)*16777216) else if nk=8∧i%8=4 then Mf (K (i-1)) else K (i-1))
def F1 (key:Nat→Nat):Nat→Nat→Nat
 | 0=>fun _=>0
 | i+1=>upd (F1 key i) (i/4) (F1 key i (i/4)*256%4294967296+key i)
def goW (nk:Nat) (K:Nat→Nat):Nat→Nat→Nat
 | 0=>K
 | m+1=>upd (goW nk K m) (nk+m) (Ga nk (nk+m) (goW nk K m))
def Z6 (nk:Nat) (key:Nat→Nat):Nat→Nat:=goW nk (F1 key (4*nk)) (3*nk+28)
theorem G5 {key : Nat → Nat} (hk : ∀ i, key i < 256) : ∀ i j, F1 key i j < 4294967296
  | 0, j => by show 0 < _; decide
  | i + 1, j => by
    unfold F1 upd
    have := hk i
    split
    · omega
    · exact G5 hk i j
theorem Pj (i:Nat):rcT i<256:=Nat.mod_lt _ (by decide)
theorem Gv (x:Nat):Mf x<4294967296:=Ki _ _ _ _
theorem Ps {nk i:Nat} {K:Nat→Nat} (hK:∀ j,K j<4294967296):Ga nk i K<4294967296:=by
 unfold Ga
 refine Yo (hK _) ?_
 have:=Pj (i/nk-1)
 split
 ·exact Yo (Gv _) (by omega)
 ·split
  ·exact Gv _
  ·exact hK _
theorem F2 {nk : Nat} {K : Nat → Nat} (hK : ∀ j, K j < 4294967296) : ∀ m j, goW nk K m j < 4294967296
  | 0, j => hK j
  | m + 1, j => by
    unfold goW upd
    split
    · exact Ps (F2 hK m)
    · exact F2 hK m j
theorem S0 {nk:Nat} {key:Nat→Nat} (hk:∀ i,key i<256) (j:Nat):Z6 nk key j<4294967296:=F2 (G5 hk _) _ j
structure Qm (w:World) (nr:Nat) (K:Nat→Nat) (u:World):Prop where
 old:Below w.heap.size w u
 size:w.heap.size+2≤u.heap.size
 res:u.there w.heap.size 0 1085
 room:u.there (w.heap.size+1) 0 1085
 rounds:u.cell? ⟨w.heap.size+1,0,none⟩=some (.int .i64 (nr:Nat))
 words:∀ j,j<60→u.cell? ⟨w.heap.size+1,1+j,none⟩=some (.int .u32 (K j:Nat))
theorem Qm.touch {w u u':World} {nr:Nat} {K:Nat→Nat} (h:Qm w nr K u) (ht:Touch u u' (w.heap.size+1) 61 1024):Qm w nr K u':=by
 have hs:=h.size
 refine ⟨h.old.trans (ht.toBelow (Nat.le_succ _) h.old.size),Nat.le_trans h.size ht.size,?_,ht.there _ _ h.room,(ht.cell 0 (by omega)).trans h.rounds,fun j hj=>(ht.cell (1+j) (by omega)).trans (h.words j hj)⟩
 intro j hj
 have:=h.res j hj
 rw[ht.far (p:=⟨w.heap.size,0+j,none⟩) (show w.heap.size<_ by omega) (show w.heap.size≠_ by omega),ht.farFrozen (p:=⟨w.heap.size,0+j,none⟩) (show w.heap.size<_ by omega) (show w.heap.size≠_ by omega)]
 exact this
theorem Qm.set {w u:World} {nr:Nat} {K:Nat→Nat} (h:Qm w nr K u) (i v:Nat) (hi:i<60):Qm w nr (upd K i v) (u.setCell ⟨w.heap.size+1,1+i,none⟩ (.int .u32 (v:Nat))):=by
 refine ⟨h.old.setCell (Nat.le_succ _) _,?_,World.there_setCells h.res _ _ [_],World.there_setCells h.room _ _ [_],?_,fun j hj=>?_⟩
 ·have:=h.size;simpa [World.setCell] using this
 ·rw[Ze _ _ _ _ _ (by omega)];exact h.rounds
 ·unfold upd
  by_cases hji:j=i
  ·subst hji
   rw[if_pos rfl]
   have:=h.room (1+j) (by omega)
   simp only[Nat.zero_add] at this
   exact World.cell?_setCell_same' _ _ _ this.1
  ·rw[if_neg hji,Ze _ _ _ _ _ (by omega)]
   exact h.words j hj
theorem Qm.drewN {w u:World} {nr:Nat} {K:Nat→Nat} (h:Qm w nr K u) (m:Nat):Qm w nr K (u.drewN m):=⟨Below.drewN h.old m,h.size,h.res,h.room,h.rounds,h.words⟩
theorem Tab.set {u:World} {g i:Nat} (h:Tab u g 0) (v:Value) (hi:i<61):Tab (u.setCell ⟨g,i,none⟩ v) g 0:=
 ⟨fun b hb=>by rw[Ze _ _ _ _ _ (by omega)];exact h.s b hb,fun b hb=>by rw[Ze _ _ _ _ _ (by omega)];exact h.u b hb,fun b hb=>by rw[Ze _ _ _ _ _ (by omega)];exact h.m b hb,fun b hb=>by rw[Ze _ _ _ _ _ (by omega)];exact h.n b hb⟩
theorem Tab.drewN {u:World} {g o:Nat} (h:Tab u g o) (m:Nat):Tab (u.drewN m) g o:=⟨h.s,h.u,h.m,h.n⟩
theorem Fn (g o x:Nat) (w:World) (hT:Tab w g o):Calls Tryz.prog 77 #[.pointer (some ⟨g,o,none⟩),.int .u32 (x:Nat)] w fun e w'=>e=.returned (.int .u32 (Mf x:Nat))∧∃ m,w'=w.drewN m:=by
 obtain ⟨y,HY⟩:∃ y,Hid (y=Mf x):=⟨_,rfl⟩
 have K1:Hid (Calls Tryz.prog 90 #[.pointer (some ⟨g,o,none⟩),.int .u32 (x:Nat),.int .u32 (x:Nat),.int .u32 (x:Nat),.int .u32 (x:Nat)] w fun e w'=>e=.returned (.int .u32 (y:Nat))∧∃ m,w'=w.drewN m):=by
  rw[HY.out]
  exact R9 g o x x x x _ _ _ _ w (Xg x) (Xf x) (Xe x) (Xd x) (J0 x) (Jz x) (Jy x) (Jx x) hT
 rw[←HY.out]
 clear hT
 go_enter Tryz.func77,Tryz.ntmps77
 go_wp2_with (first | (go_at_call 90;refine K1.out.mono ?_))
 rintro e1 w1 ⟨rfl,m,hw⟩
 go_wp2
 go_ret
 exact ⟨rfl,m,rfl⟩
theorem Ca (g o nr:Nat) (w:World) (h:w.cell? ⟨g,o,none⟩=some (.int .i64 (nr:Nat))) (hn:nr≤14):Calls Tryz.prog 76 #[.pointer (some ⟨g,o,none⟩)] w fun e w'=>e=.returned (.int .i64 (4*(nr+1):Nat))∧w'=w:=by
 go_enter Tryz.func76,Tryz.ntmps76
 go_wp2
 go_ret
 exact ⟨Xu (by omega),rfl⟩
end Go.Proofs.YtehlppaidgkpaaaGreatDoor
namespace Go.Proofs.YtehlppaidgkpaaaGreatDoor.Dg
open Go.RowKit
set_option linter.unusedVariables false
set_option linter.unusedSimpArgs false
theorem Mv (bs fed:Nat) {half half':Nat→Int} (h:∀ i,i<fed%bs→half i=half' i):Qh bs half fed=Qh bs half' fed:=by
 funext i
 unfold Qh
 by_cases hi:i<fed%bs
 ·rw[if_pos hi,if_pos hi,h i hi]
 ·rw[if_neg hi,if_neg hi]
def wsz (wd:Bool):Nat:=if wd then 8 else 4
def Gn (wd:Bool) (s0:Zd) (f0:Nat) (zs:List Int):Zd:=
 TT wd (Qh (bsz wd) (fun i=>fnz zs (bsz wd*(zs.length/bsz wd)+i)) (f0+zs.length)) (TT wd (fnz zs) s0 (zs.length/bsz wd)) (X9 (bsz wd) (f0+zs.length))
theorem Li (wd:Bool) (g o:Nat) (h:Int) (s:Zd) (half:Nat→Int) (fed:Nat) (w:World) (hblk:Yg h=bsz wd∧wd=false) (HK:TK w g o h wd s half fed) (hfed:fed≤1152921504606846976) (hT:Tables w) (hg:6≤g) :
  Calls Tryz.prog 58 #[.pointer (some ⟨g,o,none⟩)] w fun e w'=>e=.returned (.agg (Zk (wsz wd) (TT wd (Qh (bsz wd) half fed) s (X9 (bsz wd) fed))).toArray)∧Touch w w' g o 139∧∃ half',TK w' g o h wd (TT wd (Qh (bsz wd) half fed) s (X9 (bsz wd) fed)) half' fed:=by
 cases wd
 ·have hm:fed%64<64:=Nat.mod_lt _ (by omega)
  by_cases hu:fed%64+1≤56
  ·exact Ll g o h s half fed (fed%64) (fed%64+1) w hblk.1 HK hfed hT hg rfl rfl hu
  ·exact Lj g o h s half fed (fed%64) (fed%64+1) w hblk.1 HK hfed hT hg rfl rfl (by omega) (by omega)
 ·exact absurd hblk.2 (by decide)
theorem Lh (wd:Bool) (g o:Nat) (h:Int) (s0:Zd) (f0:Nat) (zs:List Int) (w:World) (hblk:Yg h=bsz wd∧wd=false) (hr:Rep w g o h wd s0 f0 zs) (hfed:f0+zs.length≤1152921504606846976) (hT:Tables w) (hg:6≤g) :
  Calls Tryz.prog 58 #[.pointer (some ⟨g,o,none⟩)] w fun e w'=>e=.returned (.agg (Zk (wsz wd) (Gn wd s0 f0 zs)).toArray)∧Touch w w' g o 139∧∃ half',TK w' g o h wd (Gn wd s0 f0 zs) half' (f0+zs.length):=by
 obtain ⟨half,hk,hh,hf⟩:=hr
 have hp:Qh (bsz wd) half (f0+zs.length)=Qh (bsz wd) (fun i=>fnz zs (bsz wd*(zs.length/bsz wd)+i)) (f0+zs.length):=Mv _ _ (fun i hi=>by
  obtain ⟨c,hc⟩:∃ c,f0=bsz wd*c:=⟨f0/bsz wd,by have:=Nat.div_add_mod f0 (bsz wd);omega⟩
  rw[hc,Nat.mul_add_mod] at hi
  exact hh i hi)
 have:=Li wd g o h _ half _ w hblk hk hfed hT hg
 rw[hp] at this
 exact this
end Go.Proofs.YtehlppaidgkpaaaGreatDoor.Dg
namespace Go.Proofs.YtehlppaidgkpaaaGreatDoor.Fd
open Go.ChangeShapes Go.WideShapes Go.ChangeAt Go.RowKit
set_option linter.unusedVariables false
def pk (F:Nat→Nat):Nat→Nat
 | 0=>0
 | n+1=>pk F n+F n*256^n
theorem Zbm (F : Nat → Nat) (hF : ∀ i, F i < 256) (n : Nat) : pk F n < 256 ^ n := by
  induction n with
  | zero => simp [pk]
  | succ n ih =>
    have h := hF n
    rw [pk, Nat.pow_succ]
    have : F n * 256 ^ n ≤ 255 * 256 ^ n := Nat.mul_le_mul_right _ (by omega)
    omega
theorem Zek (F : Nat → Nat) (hF : ∀ i, F i < 256) (n i : Nat) (hi : i < n) : pk F n / 256 ^ i % 256 = F i := by
  induction n with
  | zero => omega
  | succ n ih =>
    rw [pk]
    by_cases h : i < n
    · have e : F n * 256 ^ n = (F n * 256 ^ (n - i - 1) * 256) * 256 ^ i := by
        rw [Nat.mul_assoc, Nat.mul_assoc, ← Nat.pow_succ', ← Nat.pow_add]
        congr 2
        omega
      rw [e, Nat.add_mul_div_right _ _ (Nat.pow_pos (by decide)), Nat.add_mul_mod_self_right]
      exact ih h
    · have e : i = n := by omega
      subst e
      rw [Nat.add_mul_div_right _ _ (Nat.pow_pos (by decide)), Nat.div_eq_of_lt (Zbm F hF i), Nat.zero_add]
      exact Nat.mod_eq_of_lt (hF i)
theorem Vm (F:Nat→Nat) (hF:∀ i,F i<256) (i:Nat) (hi:i<16):byV (BitVec.ofNat 128 (pk F 16)) i=F i:=by
 have h:=Zbm F hF 16
 unfold byV
 rw[BitVec.toNat_ofNat]
 have e:pk F 16%2^128=pk F 16:=Nat.mod_eq_of_lt (Nat.lt_of_lt_of_eq h (by decide))
 rw[e]
 exact Zek F hF 16 i hi
theorem Zcy {cs:List Value} {v:BitVec 128} (h:cs.length=16) (hf:∀ i,i<16→cs[i]?=some (.int .u8 (byV v i:Nat))):cs=BL v:=by
 apply List.ext_getElem?
 intro i
 by_cases hi:i<16
 ·rw[hf i hi,Qc v i hi]
 ·rw[List.getElem?_eq_none (by omega),List.getElem?_eq_none (by rw[Zq];omega)]
open Go.RowKit Go.Proofs.YtehlppaidgkpaaaGreatDoor.Fld
set_option linter.unusedSimpArgs false
def rv (v:BitVec 128):BitVec 128:=BitVec.ofNat 128 (pk (fun i=>byV v (15-i)) 16)
theorem Lv (v:BitVec 128) (i:Nat) (hi:i<16):byV (rv v) i=byV v (15-i):=Vm _ (fun _=>Qx _ _) i hi
theorem Ui (j:Nat) (hj:j<16):(#[.int .u8 0,.int .u8 0,.int .u8 0,.int .u8 0,.int .u8 0,.int .u8 0,.int .u8 0,.int .u8 0,.int .u8 0,.int .u8 0,.int .u8 0,.int .u8 0,.int .u8 0,.int .u8 0,.int .u8 0,.int .u8 0]:Array Value).toList[j]?=some (.int .u8 0):=by
 have h16:j=0∨j=1∨j=2∨j=3∨j=4∨j=5∨j=6∨j=7∨j=8∨j=9∨j=10∨j=11∨j=12∨j=13∨j=14∨j=15:=by omega
 rcases h16 with rfl | rfl | rfl | rfl | rfl | rfl | rfl | rfl | rfl | rfl | rfl | rfl | rfl | rfl | rfl | rfl<;>rfl
theorem Ji {a b:BitVec 128} (h:∀ i,i<16→byV a i=byV b i):a=b:=by
 have e:a ^^^ b=0#128:=(Fc _).2 fun j hj=>by rw[Sf,h j hj];exact Nat.xor_self _
 have q:=congrArg (· ^^^ b) e
 simpa [BitVec.xor_assoc] using q
theorem Zd9 (v:BitVec 128):rv (rv v)=v:=Ji fun i hi=>by
 rw[Lv _ i hi,Lv _ _ (by omega)]
 congr 1
 omega
set_option maxHeartbeats 1600000 in
set_option maxRecDepth 100000 in
theorem Do (v:BitVec 128) (w:World):Calls Tryz.prog 217 #[BV v] w fun e w'=>e=.returned (BV (rv v))∧Below w.heap.size w w':=by
 have HC:Hid (Below w.heap.size w (((w.alloc (.cells #[.int .u8 (byV v 0:Nat),.int .u8 (byV v 1:Nat),.int .u8 (byV v 2:Nat),.int .u8 (byV v 3:Nat),.int .u8 (byV v 4:Nat),.int .u8 (byV v 5:Nat),.int .u8 (byV v 6:Nat),.int .u8 (byV v 7:Nat),.int .u8 (byV v 8:Nat),.int .u8 (byV v 9:Nat),.int .u8 (byV v 10:Nat),.int .u8 (byV v 11:Nat),.int .u8 (byV v 12:Nat),.int .u8 (byV v 13:Nat),.int .u8 (byV v 14:Nat),.int .u8 (byV v 15:Nat)] 27)).alloc (.cells #[.int .u8 0,.int .u8 0,.int .u8 0,.int .u8 0,.int .u8 0,.int .u8 0,.int .u8 0,.int .u8 0,.int .u8 0,.int .u8 0,.int .u8 0,.int .u8 0,.int .u8 0,.int .u8 0,.int .u8 0,.int .u8 0] 27)).alloc (.cells #[.int .u8 0,.int .u8 0,.int .u8 0,.int .u8 0,.int .u8 0,.int .u8 0,.int .u8 0,.int .u8 0,.int .u8 0,.int .u8 0,.int .u8 0,.int .u8 0,.int .u8 0,.int .u8 0,.int .u8 0,.int .u8 0] 27))∧(∀ j,j<16→(((w.alloc (.cells #[.int .u8 (byV v 0:Nat),.int .u8 (byV v 1:Nat),.int .u8 (byV v 2:Nat),.int .u8 (byV v 3:Nat),.int .u8 (byV v 4:Nat),.int .u8 (byV v 5:Nat),.int .u8 (byV v 6:Nat),.int .u8 (byV v 7:Nat),.int .u8 (byV v 8:Nat),.int .u8 (byV v 9:Nat),.int .u8 (byV v 10:Nat),.int .u8 (byV v 11:Nat),.int .u8 (byV v 12:Nat),.int .u8 (byV v 13:Nat),.int .u8 (byV v 14:Nat),.int .u8 (byV v 15:Nat)] 27)).alloc (.cells #[.int .u8 0,.int .u8 0,.int .u8 0,.int .u8 0,.int .u8 0,.int .u8 0,.int .u8 0,.int .u8 0,.int .u8 0,.int .u8 0,.int .u8 0,.int .u8 0,.int .u8 0,.int .u8 0,.int .u8 0,.int .u8 0] 27)).alloc (.cells #[.int .u8 0,.int .u8 0,.int .u8 0,.int .u8 0,.int .u8 0,.int .u8 0,.int .u8 0,.int .u8 0,.int .u8 0,.int .u8 0,.int .u8 0,.int .u8 0,.int .u8 0,.int .u8 0,.int .u8 0,.int .u8 0] 27)).cell? ⟨w.heap.size,j,none⟩=some (.int .u8 (byV v j:Nat)))∧(((w.alloc (.cells #[.int .u8 (byV v 0:Nat),.int .u8 (byV v 1:Nat),.int .u8 (byV v 2:Nat),.int .u8 (byV v 3:Nat),.int .u8 (byV v 4:Nat),.int .u8 (byV v 5:Nat),.int .u8 (byV v 6:Nat),.int .u8 (byV v 7:Nat),.int .u8 (byV v 8:Nat),.int .u8 (byV v 9:Nat),.int .u8 (byV v 10:Nat),.int .u8 (byV v 11:Nat),.int .u8 (byV v 12:Nat),.int .u8 (byV v 13:Nat),.int .u8 (byV v 14:Nat),.int .u8 (byV v 15:Nat)] 27)).alloc (.cells #[.int .u8 0,.int .u8 0,.int .u8 0,.int .u8 0,.int .u8 0,.int .u8 0,.int .u8 0,.int .u8 0,.int .u8 0,.int .u8 0,.int .u8 0,.int .u8 0,.int .u8 0,.int .u8 0,.int .u8 0,.int .u8 0] 27)).alloc (.cells #[.int .u8 0,.int .u8 0,.int .u8 0,.int .u8 0,.int .u8 0,.int .u8 0,.int .u8 0,.int .u8 0,.int .u8 0,.int .u8 0,.int .u8 0,.int .u8 0,.int .u8 0,.int .u8 0,.int .u8 0,.int .u8 0] 27)).there (w.heap.size+1) 0 16∧(((w.alloc (.cells #[.int .u8 (byV v 0:Nat),.int .u8 (byV v 1:Nat),.int .u8 (byV v 2:Nat),.int .u8 (byV v 3:Nat),.int .u8 (byV v 4:Nat),.int .u8 (byV v 5:Nat),.int .u8 (byV v 6:Nat),.int .u8 (byV v 7:Nat),.int .u8 (byV v 8:Nat),.int .u8 (byV v 9:Nat),.int .u8 (byV v 10:Nat),.int .u8 (byV v 11:Nat),.int .u8 (byV v 12:Nat),.int .u8 (byV v 13:Nat),.int .u8 (byV v 14:Nat),.int .u8 (byV v 15:Nat)] 27)).alloc (.cells #[.int .u8 0,.int .u8 0,.int .u8 0,.int .u8 0,.int .u8 0,.int .u8 0,.int .u8 0,.int .u8 0,.int .u8 0,.int .u8 0,.int .u8 0,.int .u8 0,.int .u8 0,.int .u8 0,.int .u8 0,.int .u8 0] 27)).alloc (.cells #[.int .u8 0,.int .u8 0,.int .u8 0,.int .u8 0,.int .u8 0,.int .u8 0,.int .u8 0,.int .u8 0,.int .u8 0,.int .u8 0,.int .u8 0,.int .u8 0,.int .u8 0,.int .u8 0,.int .u8 0,.int .u8 0] 27)).there (w.heap.size+2) 0 16∧(∀ j,j<16→(((w.alloc (.cells #[.int .u8 (byV v 0:Nat),.int .u8 (byV v 1:Nat),.int .u8 (byV v 2:Nat),.int .u8 (byV v 3:Nat),.int .u8 (byV v 4:Nat),.int .u8 (byV v 5:Nat),.int .u8 (byV v 6:Nat),.int .u8 (byV v 7:Nat),.int .u8 (byV v 8:Nat),.int .u8 (byV v 9:Nat),.int .u8 (byV v 10:Nat),.int .u8 (byV v 11:Nat),.int .u8 (byV v 12:Nat),.int .u8 (byV v 13:Nat),.int .u8 (byV v 14:Nat),.int .u8 (byV v 15:Nat)] 27)).alloc (.cells #[.int .u8 0,.int .u8 0,.int .u8 0,.int .u8 0,.int .u8 0,.int .u8 0,.int .u8 0,.int .u8 0,.int .u8 0,.int .u8 0,.int .u8 0,.int .u8 0,.int .u8 0,.int .u8 0,.int .u8 0,.int .u8 0] 27)).alloc (.cells #[.int .u8 0,.int .u8 0,.int .u8 0,.int .u8 0,.int .u8 0,.int .u8 0,.int .u8 0,.int .u8 0,.int .u8 0,.int .u8 0,.int .u8 0,.int .u8 0,.int .u8 0,.int .u8 0,.int .u8 0,.int .u8 0] 27)).cell? ⟨w.heap.size+2,j,none⟩=some (.int .u8 0))∧(((w.alloc (.cells #[.int .u8 (byV v 0:Nat),.int .u8 (byV v 1:Nat),.int .u8 (byV v 2:Nat),.int .u8 (byV v 3:Nat),.int .u8 (byV v 4:Nat),.int .u8 (byV v 5:Nat),.int .u8 (byV v 6:Nat),.int .u8 (byV v 7:Nat),.int .u8 (byV v 8:Nat),.int .u8 (byV v 9:Nat),.int .u8 (byV v 10:Nat),.int .u8 (byV v 11:Nat),.int .u8 (byV v 12:Nat),.int .u8 (byV v 13:Nat),.int .u8 (byV v 14:Nat),.int .u8 (byV v 15:Nat)] 27)).alloc (.cells #[.int .u8 0,.int .u8 0,.int .u8 0,.int .u8 0,.int .u8 0,.int .u8 0,.int .u8 0,.int .u8 0,.int .u8 0,.int .u8 0,.int .u8 0,.int .u8 0,.int .u8 0,.int .u8 0,.int .u8 0,.int .u8 0] 27)).alloc (.cells #[.int .u8 0,.int .u8 0,.int .u8 0,.int .u8 0,.int .u8 0,.int .u8 0,.int .u8 0,.int .u8 0,.int .u8 0,.int .u8 0,.int .u8 0,.int .u8 0,.int .u8 0,.int .u8 0,.int .u8 0,.int .u8 0] 27)).heap.size=w.heap.size+3):=by
  refine ⟨Bi w _ _ _,fun j hj=>?_,?_,?_,fun j hj=>?_,by simp⟩
  ·have h:=Zt w #[.int .u8 (byV v 0:Nat),.int .u8 (byV v 1:Nat),.int .u8 (byV v 2:Nat),.int .u8 (byV v 3:Nat),.int .u8 (byV v 4:Nat),.int .u8 (byV v 5:Nat),.int .u8 (byV v 6:Nat),.int .u8 (byV v 7:Nat),.int .u8 (byV v 8:Nat),.int .u8 (byV v 9:Nat),.int .u8 (byV v 10:Nat),.int .u8 (byV v 11:Nat),.int .u8 (byV v 12:Nat),.int .u8 (byV v 13:Nat),.int .u8 (byV v 14:Nat),.int .u8 (byV v 15:Nat)] 27 j _ (Qc v j hj)
   rw[Nat.zero_add] at h
   rw[World.cell?_alloc_lt _ _ _ (show w.heap.size<_ by simp;omega),World.cell?_alloc_lt _ _ _ (show w.heap.size<_ by simp)]
   exact h
  ·have h:=Zf (w.alloc (.cells #[.int .u8 (byV v 0:Nat),.int .u8 (byV v 1:Nat),.int .u8 (byV v 2:Nat),.int .u8 (byV v 3:Nat),.int .u8 (byV v 4:Nat),.int .u8 (byV v 5:Nat),.int .u8 (byV v 6:Nat),.int .u8 (byV v 7:Nat),.int .u8 (byV v 8:Nat),.int .u8 (byV v 9:Nat),.int .u8 (byV v 10:Nat),.int .u8 (byV v 11:Nat),.int .u8 (byV v 12:Nat),.int .u8 (byV v 13:Nat),.int .u8 (byV v 14:Nat),.int .u8 (byV v 15:Nat)] 27)) #[.int .u8 0,.int .u8 0,.int .u8 0,.int .u8 0,.int .u8 0,.int .u8 0,.int .u8 0,.int .u8 0,.int .u8 0,.int .u8 0,.int .u8 0,.int .u8 0,.int .u8 0,.int .u8 0,.int .u8 0,.int .u8 0] 27 16 (Nat.le_refl _)
   have q:=World.there_alloc h (.cells #[.int .u8 0,.int .u8 0,.int .u8 0,.int .u8 0,.int .u8 0,.int .u8 0,.int .u8 0,.int .u8 0,.int .u8 0,.int .u8 0,.int .u8 0,.int .u8 0,.int .u8 0,.int .u8 0,.int .u8 0,.int .u8 0] 27)
   simpa using q
  ·have h:=Zf ((w.alloc (.cells #[.int .u8 (byV v 0:Nat),.int .u8 (byV v 1:Nat),.int .u8 (byV v 2:Nat),.int .u8 (byV v 3:Nat),.int .u8 (byV v 4:Nat),.int .u8 (byV v 5:Nat),.int .u8 (byV v 6:Nat),.int .u8 (byV v 7:Nat),.int .u8 (byV v 8:Nat),.int .u8 (byV v 9:Nat),.int .u8 (byV v 10:Nat),.int .u8 (byV v 11:Nat),.int .u8 (byV v 12:Nat),.int .u8 (byV v 13:Nat),.int .u8 (byV v 14:Nat),.int .u8 (byV v 15:Nat)] 27)).alloc (.cells #[.int .u8 0,.int .u8 0,.int .u8 0,.int .u8 0,.int .u8 0,.int .u8 0,.int .u8 0,.int .u8 0,.int .u8 0,.int .u8 0,.int .u8 0,.int .u8 0,.int .u8 0,.int .u8 0,.int .u8 0,.int .u8 0] 27)) #[.int .u8 0,.int .u8 0,.int .u8 0,.int .u8 0,.int .u8 0,.int .u8 0,.int .u8 0,.int .u8 0,.int .u8 0,.int .u8 0,.int .u8 0,.int .u8 0,.int .u8 0,.int .u8 0,.int .u8 0,.int .u8 0] 27 16 (Nat.le_refl _)
   simpa using h
  ·have h:=Mq w (.cells #[.int .u8 (byV v 0:Nat),.int .u8 (byV v 1:Nat),.int .u8 (byV v 2:Nat),.int .u8 (byV v 3:Nat),.int .u8 (byV v 4:Nat),.int .u8 (byV v 5:Nat),.int .u8 (byV v 6:Nat),.int .u8 (byV v 7:Nat),.int .u8 (byV v 8:Nat),.int .u8 (byV v 9:Nat),.int .u8 (byV v 10:Nat),.int .u8 (byV v 11:Nat),.int .u8 (byV v 12:Nat),.int .u8 (byV v 13:Nat),.int .u8 (byV v 14:Nat),.int .u8 (byV v 15:Nat)] 27) (.cells #[.int .u8 0,.int .u8 0,.int .u8 0,.int .u8 0,.int .u8 0,.int .u8 0,.int .u8 0,.int .u8 0,.int .u8 0,.int .u8 0,.int .u8 0,.int .u8 0,.int .u8 0,.int .u8 0,.int .u8 0,.int .u8 0] 27) #[.int .u8 0,.int .u8 0,.int .u8 0,.int .u8 0,.int .u8 0,.int .u8 0,.int .u8 0,.int .u8 0,.int .u8 0,.int .u8 0,.int .u8 0,.int .u8 0,.int .u8 0,.int .u8 0,.int .u8 0,.int .u8 0] 27 j (.int .u8 0) (Ui j hj)
   rw[Nat.zero_add] at h
   exact h
 unfold BV
 show Calls Tryz.prog 217 #[.agg #[.int .u8 (byV v 0:Nat),.int .u8 (byV v 1:Nat),.int .u8 (byV v 2:Nat),.int .u8 (byV v 3:Nat),.int .u8 (byV v 4:Nat),.int .u8 (byV v 5:Nat),.int .u8 (byV v 6:Nat),.int .u8 (byV v 7:Nat),.int .u8 (byV v 8:Nat),.int .u8 (byV v 9:Nat),.int .u8 (byV v 10:Nat),.int .u8 (byV v 11:Nat),.int .u8 (byV v 12:Nat),.int .u8 (byV v 13:Nat),.int .u8 (byV v 14:Nat),.int .u8 (byV v 15:Nat)]] w _
 go_enter Tryz.func217,Tryz.ntmps217
 go_upto_region 2 with fail
 generalize ((w.alloc (.cells #[.int .u8 (byV v 0:Nat),.int .u8 (byV v 1:Nat),.int .u8 (byV v 2:Nat),.int .u8 (byV v 3:Nat),.int .u8 (byV v 4:Nat),.int .u8 (byV v 5:Nat),.int .u8 (byV v 6:Nat),.int .u8 (byV v 7:Nat),.int .u8 (byV v 8:Nat),.int .u8 (byV v 9:Nat),.int .u8 (byV v 10:Nat),.int .u8 (byV v 11:Nat),.int .u8 (byV v 12:Nat),.int .u8 (byV v 13:Nat),.int .u8 (byV v 14:Nat),.int .u8 (byV v 15:Nat)] 27)).alloc (.cells #[.int .u8 0,.int .u8 0,.int .u8 0,.int .u8 0,.int .u8 0,.int .u8 0,.int .u8 0,.int .u8 0,.int .u8 0,.int .u8 0,.int .u8 0,.int .u8 0,.int .u8 0,.int .u8 0,.int .u8 0,.int .u8 0] 27)).alloc (.cells #[.int .u8 0,.int .u8 0,.int .u8 0,.int .u8 0,.int .u8 0,.int .u8 0,.int .u8 0,.int .u8 0,.int .u8 0,.int .u8 0,.int .u8 0,.int .u8 0,.int .u8 0,.int .u8 0,.int .u8 0,.int .u8 0] 27)=w2 at HC ⊢
 go_wp2
 go_loopw [4,5] (fun s4 i wr=>∃ k:Nat,k≤16∧i=.int .i64 (k:Nat)∧Hid (Touch w2 wr (w.heap.size+2) 0 16∧∀ j,j<16→wr.cell? ⟨w.heap.size+2,j,none⟩=some (.int .u8 ((if 15-j<k then byV v (15-j) else 0:Nat):Int)))) (fun s4 i _=>16-(intOf i).toNat)
 case atStart=>exact ⟨0,by omega,rfl,Touch.refl _ _ _ _,fun j hj=>by rw[if_neg (by omega)];exact HC.out.2.2.2.2.1 j hj⟩
 case round=>
  obtain ⟨k,hk,rfl,HR⟩:=hrel
  by_cases hlt:k<16
  ·obtain ⟨r,hr⟩:∃ r,r+k=15:=⟨15-k,by omega⟩
   have c1:wr.cell? ⟨w.heap.size,k,none⟩=some (.int .u8 (byV v k:Nat)):=by
    have hz:=HC.out.2.2.2.2.2
    rw[HR.out.1.far (p:=⟨w.heap.size,k,none⟩) (show w.heap.size<_ by omega) (show w.heap.size≠_ by omega)]
    exact HC.out.2.1 k (by omega)
   have c2:=HR.out.2 r (by omega)
   rw[if_neg (by omega)] at c2
   have f1:=(HR.out.1.there _ _ HC.out.2.2.2.1 r (by omega)).2
   rw[Nat.zero_add] at f1
   obtain ⟨x1,HX1⟩:∃ x,Hid (x=byV v k):=⟨_,rfl⟩
   rw[←HX1.out] at c1
   have hki:((k:Nat):Int)<16:=by omega
   have hri:(15:Int)-((k:Nat):Int)=(r:Nat):=by omega
   have hrw:IntKind.i64.wrap ((r:Nat):Int)=(r:Nat):=by simp [IntKind.wrap,IntKind.bits,IntKind.signed];omega
   have hr16:((r:Nat):Int)<16:=by omega
   go_wp2
   refine ⟨⟨k+1,by omega,rfl,(HR.out.1.setCell r _ (by omega) (by omega)),fun j hj=>?_⟩,by simp only[intOf];omega⟩
   by_cases hjk:j=r
   ·subst hjk
    rw[if_pos (by omega),World.cell?_setCell_same' _ _ _ (by rw[c2];rfl),HX1.out,show k=15-j by omega]
   ·rw[Y2 _ _ _ _ _ (by omega),HR.out.2 j hj]
    congr 3
    by_cases h:15-j<k
    ·rw[if_pos h,if_pos (by omega)]
    ·rw[if_neg h,if_neg (by omega)]
  ·obtain rfl:k=16:=by omega
   have H4:Hid (wr.rangeAt (w.heap.size+2) 0 (BL (rv v))∧wr.there (w.heap.size+1) 0 16∧Below w.heap.size w wr):=by
    obtain ⟨t1,t2,t3,t4,t5,t6⟩:=HC.out
    obtain ⟨p1,p2⟩:=HR.out
    refine ⟨Ht (fun j hj=>?_),fun j hj=>?_,t1.trans (p1.toBelow (by omega) (by omega))⟩
    ·have h:=p2 j hj
     rw[if_pos (by omega)] at h
     rw[h,Lv v j hj]
    ·rw[p1.far (p:=⟨w.heap.size+1,0+j,none⟩) (show w.heap.size+1<_ by omega) (show w.heap.size+1≠_ by omega),p1.farFrozen (p:=⟨w.heap.size+1,0+j,none⟩) (show w.heap.size+1<_ by omega) (show w.heap.size+1≠_ by omega)]
     exact t3 j hj
   clear HR hlt hk
   obtain ⟨L,HLL⟩:∃ L,Hid (L=BL (rv v)):=⟨_,rfl⟩
   rw[←HLL.out] at H4
   have HLl:Hid (L.length=16):=by show _=_;rw[HLL.out];rfl
   have HLo:Hid (L.toArray.all (·.oneCell')=true):=by show _=_;rw[HLL.out];exact W3 _
   have hTH:wr.there (w.heap.size+1) 0 L.length:=by rw[HLl.out];exact H4.out.2.1
   go_wp2_with (first
    | (refine wpList_load_mid (by rfl) 27 (.tmp 3) (by rfl) (w.heap.size+2) 0 (by rfl) L _ H4.out.1 Tryz.underlying27 rfl (by rw[HLl.out];exact Yl) ?_)
    | (refine wpList_store_mid (by rfl) 27 (.tmp 2) (.tmp 15) (by rfl) (w.heap.size+1) 0 L.toArray (by rfl) (by rfl) (by simpa using hTH) (by rw[List.size_toArray,HLl.out];exact Yl) HLo.out ?_))
   refine Z4 L Tryz.results217 rfl (World.rangeAt_setCells_same _ _ _ _ hTH) Tryz.underlying27 rfl (by rw[HLl.out];exact Yl) ⟨?_,Zb _ (by omega) _ _ _ H4.out.2.2⟩
   rw[HLL.out]
   rfl
set_option maxHeartbeats 1600000 in
set_option maxRecDepth 100000 in
theorem F4 (v:BitVec 128) (w:World):Calls Tryz.prog 244 #[BV v] w fun e w'=>e=.returned (.tuple #[.int .u64 (hiV (rv v):Nat),.int .u64 (loV (rv v):Nat)])∧Below w.heap.size w w':=by
 have HA:Hid (Below w.heap.size w (w.alloc (.cells #[.int .u8 (byV v 0:Nat),.int .u8 (byV v 1:Nat),.int .u8 (byV v 2:Nat),.int .u8 (byV v 3:Nat),.int .u8 (byV v 4:Nat),.int .u8 (byV v 5:Nat),.int .u8 (byV v 6:Nat),.int .u8 (byV v 7:Nat),.int .u8 (byV v 8:Nat),.int .u8 (byV v 9:Nat),.int .u8 (byV v 10:Nat),.int .u8 (byV v 11:Nat),.int .u8 (byV v 12:Nat),.int .u8 (byV v 13:Nat),.int .u8 (byV v 14:Nat),.int .u8 (byV v 15:Nat)] 27))∧(w.alloc (.cells #[.int .u8 (byV v 0:Nat),.int .u8 (byV v 1:Nat),.int .u8 (byV v 2:Nat),.int .u8 (byV v 3:Nat),.int .u8 (byV v 4:Nat),.int .u8 (byV v 5:Nat),.int .u8 (byV v 6:Nat),.int .u8 (byV v 7:Nat),.int .u8 (byV v 8:Nat),.int .u8 (byV v 9:Nat),.int .u8 (byV v 10:Nat),.int .u8 (byV v 11:Nat),.int .u8 (byV v 12:Nat),.int .u8 (byV v 13:Nat),.int .u8 (byV v 14:Nat),.int .u8 (byV v 15:Nat)] 27)).rangeAt w.heap.size 0 (BL v)):=⟨(Below.refl _ _).alloc (Nat.le_refl _) _,Zt w #[.int .u8 (byV v 0:Nat),.int .u8 (byV v 1:Nat),.int .u8 (byV v 2:Nat),.int .u8 (byV v 3:Nat),.int .u8 (byV v 4:Nat),.int .u8 (byV v 5:Nat),.int .u8 (byV v 6:Nat),.int .u8 (byV v 7:Nat),.int .u8 (byV v 8:Nat),.int .u8 (byV v 9:Nat),.int .u8 (byV v 10:Nat),.int .u8 (byV v 11:Nat),.int .u8 (byV v 12:Nat),.int .u8 (byV v 13:Nat),.int .u8 (byV v 14:Nat),.int .u8 (byV v 15:Nat)] 27⟩
 have KT:Hid (∀ u,Calls Tryz.prog 217 #[.agg (BL v).toArray] u fun e w'=>e=.returned (.agg (BL (rv v)).toArray)∧Below u.heap.size u w'):=fun u=>Do v u
 have KF:Hid (∀ u,Calls Tryz.prog 61 #[.agg (BL (rv v)).toArray] u fun e w'=>e=.returned (.tuple #[.int .u64 (hiV (rv v):Nat),.int .u64 (loV (rv v):Nat)])∧Below u.heap.size u w'):=fun u=>Va (rv v) u
 show Calls Tryz.prog 244 #[.agg #[.int .u8 (byV v 0:Nat),.int .u8 (byV v 1:Nat),.int .u8 (byV v 2:Nat),.int .u8 (byV v 3:Nat),.int .u8 (byV v 4:Nat),.int .u8 (byV v 5:Nat),.int .u8 (byV v 6:Nat),.int .u8 (byV v 7:Nat),.int .u8 (byV v 8:Nat),.int .u8 (byV v 9:Nat),.int .u8 (byV v 10:Nat),.int .u8 (byV v 11:Nat),.int .u8 (byV v 12:Nat),.int .u8 (byV v 13:Nat),.int .u8 (byV v 14:Nat),.int .u8 (byV v 15:Nat)]] w _
 go_enter Tryz.func244,Tryz.ntmps244
 go_upto_region 1 with fail
 generalize w.alloc (.cells #[.int .u8 (byV v 0:Nat),.int .u8 (byV v 1:Nat),.int .u8 (byV v 2:Nat),.int .u8 (byV v 3:Nat),.int .u8 (byV v 4:Nat),.int .u8 (byV v 5:Nat),.int .u8 (byV v 6:Nat),.int .u8 (byV v 7:Nat),.int .u8 (byV v 8:Nat),.int .u8 (byV v 9:Nat),.int .u8 (byV v 10:Nat),.int .u8 (byV v 11:Nat),.int .u8 (byV v 12:Nat),.int .u8 (byV v 13:Nat),.int .u8 (byV v 14:Nat),.int .u8 (byV v 15:Nat)] 27)=w2 at HA ⊢
 obtain ⟨L,HL⟩:∃ L,Hid (L=BL v):=⟨_,rfl⟩
 obtain ⟨L2,HL2⟩:∃ L,Hid (L=BL (rv v)):=⟨_,rfl⟩
 obtain ⟨hi,HH⟩:∃ x,Hid (x=hiV (rv v)):=⟨_,rfl⟩
 obtain ⟨lo,HLo⟩:∃ x,Hid (x=loV (rv v)):=⟨_,rfl⟩
 rw[←HL.out] at HA
 rw[←HL.out,←HL2.out] at KT
 rw[←HL2.out,←HH.out,←HLo.out] at KF
 have HLl:Hid (L.length=16):=by show _=_;rw[HL.out];rfl
 go_wp2_with (first
  | (refine wpList_load_mid (by rfl) 27 (.tmp 1) (by rfl) w.heap.size 0 (by rfl) L _ HA.out.2 Tryz.underlying27 rfl (by rw[HLl.out];exact Yl) ?_)
  | (go_at_call 217;refine (KT.out _).mono ?_;rintro e w3 ⟨rfl,hb3⟩)
  | (go_at_call 61;refine (KF.out _).mono ?_;rintro e w4 ⟨rfl,hb4⟩))
 have HB:Hid (Below w.heap.size w w4):=by
  have h3:=HA.out.1.trans (hb3.mono HA.out.1.size)
  exact h3.trans (hb4.mono h3.size)
 go_ret2
 exact ⟨by rw[HH.out,HLo.out];rfl,HB.out⟩
set_option maxHeartbeats 1600000 in
set_option maxRecDepth 100000 in
theorem Fq (v:BitVec 128) (w:World):Calls Tryz.prog 259 #[BV v] w fun e w'=>e=.returned (PV (rv v))∧Below w.heap.size w w':=by
 have HA:Hid (Below w.heap.size w ((w.alloc (.cells #[.int .u8 (byV v 0:Nat),.int .u8 (byV v 1:Nat),.int .u8 (byV v 2:Nat),.int .u8 (byV v 3:Nat),.int .u8 (byV v 4:Nat),.int .u8 (byV v 5:Nat),.int .u8 (byV v 6:Nat),.int .u8 (byV v 7:Nat),.int .u8 (byV v 8:Nat),.int .u8 (byV v 9:Nat),.int .u8 (byV v 10:Nat),.int .u8 (byV v 11:Nat),.int .u8 (byV v 12:Nat),.int .u8 (byV v 13:Nat),.int .u8 (byV v 14:Nat),.int .u8 (byV v 15:Nat)] 27)).alloc (.cells #[.int .u64 0,.int .u64 0] 82))∧((w.alloc (.cells #[.int .u8 (byV v 0:Nat),.int .u8 (byV v 1:Nat),.int .u8 (byV v 2:Nat),.int .u8 (byV v 3:Nat),.int .u8 (byV v 4:Nat),.int .u8 (byV v 5:Nat),.int .u8 (byV v 6:Nat),.int .u8 (byV v 7:Nat),.int .u8 (byV v 8:Nat),.int .u8 (byV v 9:Nat),.int .u8 (byV v 10:Nat),.int .u8 (byV v 11:Nat),.int .u8 (byV v 12:Nat),.int .u8 (byV v 13:Nat),.int .u8 (byV v 14:Nat),.int .u8 (byV v 15:Nat)] 27)).alloc (.cells #[.int .u64 0,.int .u64 0] 82)).rangeAt w.heap.size 0 (BL v)∧((w.alloc (.cells #[.int .u8 (byV v 0:Nat),.int .u8 (byV v 1:Nat),.int .u8 (byV v 2:Nat),.int .u8 (byV v 3:Nat),.int .u8 (byV v 4:Nat),.int .u8 (byV v 5:Nat),.int .u8 (byV v 6:Nat),.int .u8 (byV v 7:Nat),.int .u8 (byV v 8:Nat),.int .u8 (byV v 9:Nat),.int .u8 (byV v 10:Nat),.int .u8 (byV v 11:Nat),.int .u8 (byV v 12:Nat),.int .u8 (byV v 13:Nat),.int .u8 (byV v 14:Nat),.int .u8 (byV v 15:Nat)] 27)).alloc (.cells #[.int .u64 0,.int .u64 0] 82)).there (w.heap.size+1) 0 2∧((w.alloc (.cells #[.int .u8 (byV v 0:Nat),.int .u8 (byV v 1:Nat),.int .u8 (byV v 2:Nat),.int .u8 (byV v 3:Nat),.int .u8 (byV v 4:Nat),.int .u8 (byV v 5:Nat),.int .u8 (byV v 6:Nat),.int .u8 (byV v 7:Nat),.int .u8 (byV v 8:Nat),.int .u8 (byV v 9:Nat),.int .u8 (byV v 10:Nat),.int .u8 (byV v 11:Nat),.int .u8 (byV v 12:Nat),.int .u8 (byV v 13:Nat),.int .u8 (byV v 14:Nat),.int .u8 (byV v 15:Nat)] 27)).alloc (.cells #[.int .u64 0,.int .u64 0] 82)).heap.size=w.heap.size+2):=by
  refine ⟨Hn w _ _,Zn (Zt w #[.int .u8 (byV v 0:Nat),.int .u8 (byV v 1:Nat),.int .u8 (byV v 2:Nat),.int .u8 (byV v 3:Nat),.int .u8 (byV v 4:Nat),.int .u8 (byV v 5:Nat),.int .u8 (byV v 6:Nat),.int .u8 (byV v 7:Nat),.int .u8 (byV v 8:Nat),.int .u8 (byV v 9:Nat),.int .u8 (byV v 10:Nat),.int .u8 (byV v 11:Nat),.int .u8 (byV v 12:Nat),.int .u8 (byV v 13:Nat),.int .u8 (byV v 14:Nat),.int .u8 (byV v 15:Nat)] 27) ((Below.refl _ _).alloc (Nat.le_refl _) _) (by simp),?_,by simp⟩
  have h:=Zf (w.alloc (.cells #[.int .u8 (byV v 0:Nat),.int .u8 (byV v 1:Nat),.int .u8 (byV v 2:Nat),.int .u8 (byV v 3:Nat),.int .u8 (byV v 4:Nat),.int .u8 (byV v 5:Nat),.int .u8 (byV v 6:Nat),.int .u8 (byV v 7:Nat),.int .u8 (byV v 8:Nat),.int .u8 (byV v 9:Nat),.int .u8 (byV v 10:Nat),.int .u8 (byV v 11:Nat),.int .u8 (byV v 12:Nat),.int .u8 (byV v 13:Nat),.int .u8 (byV v 14:Nat),.int .u8 (byV v 15:Nat)] 27)) #[.int .u64 0,.int .u64 0] 82 2 (Nat.le_refl _)
  simpa using h
 have KF:Hid (∀ u,Calls Tryz.prog 244 #[.agg (BL v).toArray] u fun e w'=>e=.returned (.tuple #[.int .u64 (hiV (rv v):Nat),.int .u64 (loV (rv v):Nat)])∧Below u.heap.size u w'):=fun u=>F4 v u
 show Calls Tryz.prog 259 #[.agg #[.int .u8 (byV v 0:Nat),.int .u8 (byV v 1:Nat),.int .u8 (byV v 2:Nat),.int .u8 (byV v 3:Nat),.int .u8 (byV v 4:Nat),.int .u8 (byV v 5:Nat),.int .u8 (byV v 6:Nat),.int .u8 (byV v 7:Nat),.int .u8 (byV v 8:Nat),.int .u8 (byV v 9:Nat),.int .u8 (byV v 10:Nat),.int .u8 (byV v 11:Nat),.int .u8 (byV v 12:Nat),.int .u8 (byV v 13:Nat),.int .u8 (byV v 14:Nat),.int .u8 (byV v 15:Nat)]] w _
 go_enter Tryz.func259,Tryz.ntmps259
 go_upto_region 1 with fail
 generalize (w.alloc (.cells #[.int .u8 (byV v 0:Nat),.int .u8 (byV v 1:Nat),.int .u8 (byV v 2:Nat),.int .u8 (byV v 3:Nat),.int .u8 (byV v 4:Nat),.int .u8 (byV v 5:Nat),.int .u8 (byV v 6:Nat),.int .u8 (byV v 7:Nat),.int .u8 (byV v 8:Nat),.int .u8 (byV v 9:Nat),.int .u8 (byV v 10:Nat),.int .u8 (byV v 11:Nat),.int .u8 (byV v 12:Nat),.int .u8 (byV v 13:Nat),.int .u8 (byV v 14:Nat),.int .u8 (byV v 15:Nat)] 27)).alloc (.cells #[.int .u64 0,.int .u64 0] 82)=w2 at HA ⊢
 obtain ⟨L,HL⟩:∃ L,Hid (L=BL v):=⟨_,rfl⟩
 rw[←HL.out] at HA KF
 have HLl:Hid (L.length=16):=by show _=_;rw[HL.out];rfl
 go_wp2_with (first
  | (refine wpList_load_mid (by rfl) 27 (.tmp 1) (by rfl) w.heap.size 0 (by rfl) L _ HA.out.2.1 Tryz.underlying27 rfl (by rw[HLl.out];exact Yl) ?_)
  | (go_at_call 244;refine (KF.out _).mono ?_))
 rintro e w3 ⟨rfl,hb3⟩
 have H3:Hid (w3.there (w.heap.size+1) 0 2∧Below w.heap.size w w3):=by
  obtain ⟨p1,p2,p3,p4⟩:=HA.out
  exact ⟨Zc p3 hb3 (by omega),p1.trans (hb3.mono (by omega))⟩
 clear hb3 KF
 obtain ⟨hi,HH⟩:∃ x,Hid (x=hiV (rv v)):=⟨_,rfl⟩
 obtain ⟨lo,HLo⟩:∃ x,Hid (x=loV (rv v)):=⟨_,rfl⟩
 rw[←HH.out,←HLo.out]
 go_wp2_with (first
  | (refine wpList_store_mid (by rfl) 82 (.tmp 2) (.tmp 12) (by rfl) (w.heap.size+1) 0 #[.int .u64 (hi:Nat),.int .u64 (lo:Nat)] (by rfl) (by rfl) H3.out.1 Z3 (by kernel_rfl) ?_))
 refine Z4 [.int .u64 (hi:Nat),.int .u64 (lo:Nat)] Tryz.results259 rfl (World.rangeAt_setCells_same _ _ _ _ H3.out.1) Tryz.underlying82 rfl Z3 ⟨?_,Zb _ (by omega) _ _ _ H3.out.2⟩
 rw[HH.out,HLo.out]
 rfl
set_option maxHeartbeats 1600000 in
set_option maxRecDepth 100000 in
theorem Bh (v:BitVec 128) (w:World):Calls Tryz.prog 182 #[.int .u64 (hiV v:Nat),.int .u64 (loV v:Nat)] w fun e w'=>e=.returned (BV (rv v))∧Below w.heap.size w w':=by
 have HA:Hid (Below w.heap.size w (w.alloc (.cells #[.int .u8 0,.int .u8 0,.int .u8 0,.int .u8 0,.int .u8 0,.int .u8 0,.int .u8 0,.int .u8 0,.int .u8 0,.int .u8 0,.int .u8 0,.int .u8 0,.int .u8 0,.int .u8 0,.int .u8 0,.int .u8 0] 27))∧(w.alloc (.cells #[.int .u8 0,.int .u8 0,.int .u8 0,.int .u8 0,.int .u8 0,.int .u8 0,.int .u8 0,.int .u8 0,.int .u8 0,.int .u8 0,.int .u8 0,.int .u8 0,.int .u8 0,.int .u8 0,.int .u8 0,.int .u8 0] 27)).there w.heap.size 0 16∧(w.alloc (.cells #[.int .u8 0,.int .u8 0,.int .u8 0,.int .u8 0,.int .u8 0,.int .u8 0,.int .u8 0,.int .u8 0,.int .u8 0,.int .u8 0,.int .u8 0,.int .u8 0,.int .u8 0,.int .u8 0,.int .u8 0,.int .u8 0] 27)).heap.size=w.heap.size+1):=⟨(Below.refl _ _).alloc (Nat.le_refl _) _,Zf w _ 27 16 (Nat.le_refl _),by simp⟩
 have KL:Hid (∀ u,Calls Tryz.prog 38 #[.int .u64 (hiV v:Nat),.int .u64 (loV v:Nat)] u fun e w'=>e=.returned (.agg (BL v).toArray)∧Below u.heap.size u w'):=fun u=>Wx v u
 have KT:Hid (∀ u,Calls Tryz.prog 217 #[.agg (BL v).toArray] u fun e w'=>e=.returned (.agg (BL (rv v)).toArray)∧Below u.heap.size u w'):=fun u=>Do v u
 obtain ⟨hi,HH⟩:∃ x,Hid (x=hiV v):=⟨_,rfl⟩
 obtain ⟨lo,HLo⟩:∃ x,Hid (x=loV v):=⟨_,rfl⟩
 obtain ⟨L,HL⟩:∃ L,Hid (L=BL v):=⟨_,rfl⟩
 obtain ⟨LR,HLR⟩:∃ L,Hid (L=BL (rv v)):=⟨_,rfl⟩
 rw[←HH.out,←HLo.out,←HL.out] at KL
 rw[←HL.out,←HLR.out] at KT
 rw[←HH.out,←HLo.out]
 go_enter Tryz.func182,Tryz.ntmps182
 go_upto_region 1 with fail
 generalize w.alloc (.cells #[.int .u8 0,.int .u8 0,.int .u8 0,.int .u8 0,.int .u8 0,.int .u8 0,.int .u8 0,.int .u8 0,.int .u8 0,.int .u8 0,.int .u8 0,.int .u8 0,.int .u8 0,.int .u8 0,.int .u8 0,.int .u8 0] 27)=w2 at HA ⊢
 have hlr:Hid (LR.length=16):=by show _=_;rw[HLR.out];rfl
 have hor:Hid (LR.toArray.all (·.oneCell')=true):=by show _=_;rw[HLR.out];exact W3 _
 go_wp2_with (first
  | (go_at_call 38;refine (KL.out _).mono ?_;rintro e w3 ⟨rfl,hb3⟩)
  | (go_at_call 217;refine (KT.out _).mono ?_))
 rintro e w4 ⟨rfl,hb4⟩
 have HW:Hid (w4.there w.heap.size 0 LR.length∧Below w.heap.size w w4):=by
  obtain ⟨p1,p2,p3⟩:=HA.out
  have h3:=p1.trans (hb3.mono p1.size)
  have z3:=hb3.size
  have z4:=h3.size
  exact ⟨by rw[hlr.out];exact Zc (Zc p2 hb3 (by omega)) hb4 (by omega),h3.trans (hb4.mono (by omega))⟩
 clear hb3 hb4
 have hTH:=HW.out.1
 go_wp2_with (first
  | (refine wpList_store_mid (by rfl) 27 (.tmp 4) (.tmp 8) (by rfl) w.heap.size 0 LR.toArray (by rfl) (by rfl) (by simpa using hTH) (by rw[List.size_toArray,hlr.out];exact Yl) hor.out ?_))
 refine Z4 LR Tryz.results182 rfl (World.rangeAt_setCells_same _ _ _ _ hTH) Tryz.underlying27 rfl (by rw[hlr.out];exact Yl) ⟨?_,Zb _ (Nat.le_refl _) _ _ _ HW.out.2⟩
 rw[HLR.out]
 rfl
end Go.Proofs.YtehlppaidgkpaaaGreatDoor.Fd
