import Derived.Test.YtehlppaidgkpaaaGreatDoorPart30
namespace Go.Proofs.YtehlppaidgkpaaaGreatDoor
open Go.RowKit
set_option linter.unusedVariables false
set_option linter.unusedSimpArgs false
def Zdv (w:World) (S:ByteArray) (st wd:Nat) (zs:List Int) (Ψ:Nat→Value→Value→Value→Prop) (e:Ending) (w':World):Prop:=
 ∃ c sh kv mp ov fv sv pv,e=.returned (.tuple #[.pointer (some ⟨c,0,none⟩),.int .i64 0])∧w.heap.size≤c∧Bx w' c 70 [.pointer (some ⟨sh,0,none⟩),fv,sv,pv]∧ShA w.heap.size w' sh S st wd zs kv mp ov∧Ψ sh fv sv pv∧Below w.heap.size w w'
def Zff (B sh:Nat) (S:ByteArray) (st wd:Nat) (zs:List Int) (kv:Value) (mp:Option Addr) (Φ:Value→Prop) (u:World) (e:Ending) (u':World):Prop:=
 ∃ fn xs ys ov',e=.returned (.func (.func fn) xs ys)∧ShA B u' sh S st wd zs kv mp ov'∧(∃ n os,n≤1∧u'.ownsRow B 71 1 ov' n os)∧Fs B sh u u'∧Φ (.func (.func fn) xs ys)
def Zdx (B sh:Nat) (S:ByteArray) (st wd:Nat) (zs:List Int) (kv:Value) (mp:Option Addr) (Ψ:Nat→Value→Value→Value→Prop) (fv:Value) (u:World) (e:Ending) (u':World):Prop:=
 ∃ f1 x1 y1 f2 x2 y2 ov',e=.returned (.tuple #[.func (.func f1) x1 y1,.func (.func f2) x2 y2])∧ShA B u' sh S st wd zs kv mp ov'∧Fs B sh u u'∧Ψ sh fv (.func (.func f1) x1 y1) (.func (.func f2) x2 y2)
theorem ShA.other {B:Nat} {w w':World} {sh c:Nat} {S:ByteArray} {st wd:Nat} {zs:List Int} {kv:Value} {mp:Option Addr} {ov:Value} {cs:Array Value} {fr:Nat×Nat} (h:ShA B w sh S st wd zs kv mp ov) (hc:w.heap[c]?=some (.cells cs 70 fr)) (hk:∀ b,b≠c→w'.heap[b]?=w.heap[b]?) (hs:w.heap.size≤w'.heap.size):ShA B w' sh S st wd zs kv mp ov:=by
 refine ⟨h.le,h.box.keep (hk _ (Zs h.box hc (by decide))),Ys h.key fun g q=>?_,h.main.keep (fun g e=>?_) hs,?_⟩
 ·obtain ⟨cur,hg⟩:=Xk h.key q
  exact hk _ (Zs hg hc (by decide))
 ·obtain ⟨_,_,R,hR⟩:=h.main.lt g e
  exact hk _ (Zs hR hc (by decide))
 ·obtain ⟨n,os,hn,ho⟩:=h.oth
  exact ⟨n,os,hn,Ys ho fun g q=>by
   obtain ⟨cur,hg⟩:=Xk ho q
   exact hk _ (Zs hg hc (by decide))⟩
theorem Wy {B c:Nat} {w w':World} {ov:Value} {cs:Array Value} {fr:Nat×Nat} (h:∃ n os,n≤1∧w.ownsRow B 71 1 ov n os) (hc:w.heap[c]?=some (.cells cs 70 fr)) (hk:∀ b,b≠c→w'.heap[b]?=w.heap[b]?):∃ n os,n≤1∧w'.ownsRow B 71 1 ov n os:=by
 obtain ⟨n,os,hn,ho⟩:=h
 exact ⟨n,os,hn,Ys ho fun g q=>by
  obtain ⟨cur,hg⟩:=Xk ho q
  exact hk _ (Zs hg hc (by decide))⟩
theorem Zh {w:World} {c i b j:Nat} {x y:Value} (h:w.cell? ⟨b,j,none⟩=some x) (hne:b≠c∨j≠i):(w.setCell ⟨c,i,none⟩ y).cell? ⟨b,j,none⟩=some x:=by
 have q:=World.cell?_setCells_out c [y] i w ⟨b,j,none⟩ (fun e _=>by rcases hne with q | q;exact absurd e q;simp;omega)
 simp only[World.setCells] at q
 rw[q];exact h
theorem MK.base {w:World} {B B':Nat} {mp:Option Addr} {wd:Nat} {zs:List Int} (h:MK w B mp wd zs) (hb:B'≤B):MK w B' mp wd zs:=by
 rcases h with q | ⟨g,nk,e,hB,rest⟩
 ·exact .inl q
 ·exact .inr ⟨g,nk,e,Nat.le_trans hb hB,rest⟩
theorem ShA.base {B B':Nat} {w:World} {sh:Nat} {S:ByteArray} {st wd:Nat} {zs:List Int} {kv:Value} {mp:Option Addr} {ov:Value} (h:ShA B w sh S st wd zs kv mp ov) (hb:B'≤B):ShA B' w sh S st wd zs kv mp ov:=
 ⟨Nat.le_trans hb h.le,h.box,Fu h.key hb,h.main.base hb,by obtain ⟨n,os,hn,ho⟩:=h.oth;exact ⟨n,os,hn,Fu ho hb⟩⟩
set_option maxHeartbeats 1600000 in
set_option maxRecDepth 100000 in
theorem B8 (S T:ByteArray) (wd a b st bu:Nat) (f:Value) (v:Value) (zs:List Int) (w:World) (Φ:Value→Prop) (Ψ:Nat→Value→Value→Value→Prop) (hf:f=.nilFunc∨∃ bg,f=fV bg) (hv:Zi w v zs) (ha:a≤2) (hw:wd≤32) (hb:b≤32) (hl:zs.length=a*wd+b)
  (HFI:Hid (Calls Tryz.prog 42 #[.string S] w fun e w'=>Hid (e=.returned (.tuple #[.agg #[.string S,.int .i64 (wd:Nat),.string T,.int .i64 (a:Nat),.int .i64 (b:Nat),.int .i64 (st:Nat),f,fV bu],.bool true])∧Below w.heap.size w w')))
  (HSH:Hid (∀ u,Below w.heap.size w u→Calls Tryz.prog 44 #[.agg #[.string S,.int .i64 (wd:Nat),.string T,.int .i64 (a:Nat),.int .i64 (b:Nat),.int .i64 (st:Nat),f,fV bu],v] u fun e u'=>Hid (ShP u.heap.size u S st wd zs e u')))
  (hEu:∀ args w,(callFunc bu args).run Tryz.prog w=.ok (.enter bu args) w) (HEg:Hid (∀ bg,f=fV bg→∀ args w,(callFunc bg args).run Tryz.prog w=.ok (.enter bg args) w))
  (HNB:Hid (f=.nilFunc→Φ .nilFunc))
  (HBG:Hid (∀ bg,f=fV bg→∀ B sh kv mp u,Below w.heap.size w u→w.heap.size≤B→B≤u.heap.size→ShA B u sh S st wd zs kv mp (.slice none 0 0)→Calls Tryz.prog bg #[.pointer (some ⟨sh,0,none⟩)] u fun e u'=>Hid (Zff B sh S st wd zs kv mp Φ u e u')))
  (HBU:Hid (∀ fv B sh kv mp ov u,(fv=.nilFunc∨∃ fn xs ys,fv=.func (.func fn) xs ys)→Φ fv→Below w.heap.size w u→w.heap.size≤B→B≤u.heap.size→ShA B u sh S st wd zs kv mp ov→(∃ n os,n≤1∧u.ownsRow B 71 1 ov n os)→Calls Tryz.prog bu #[.pointer (some ⟨sh,0,none⟩),fv] u fun e u'=>Hid (Zdx B sh S st wd zs kv mp Ψ fv u e u'))) :
  Calls Tryz.prog 26 #[.string S,v] w fun e w'=>Zdv w S st wd zs Ψ e w':=by
 have hf1:f.oneCell'=true:=by rcases hf with rfl | ⟨bg,rfl⟩<;>rfl
 have hsF:∀ u ad md,(store ad f md).run Tryz.prog u=stored Tryz.prog u ad f md:=fun u ad md=>run_store Tryz.prog u ad f md hf1
 have HF:Hid (f=.nilFunc∨∃ bg,f=fV bg):=hf
 obtain ⟨va,vc,rfl,h1,h2,h3,h4⟩:=hv
 obtain ⟨n,HNL⟩:∃ n,Hid (zs.length=n):=⟨_,rfl⟩
 rw[HNL.out] at hl HSH ⊢
 have HK:Hid (∀ u:World,Calls Tryz.prog 43 #[.agg #[.string S,.int .i64 (wd:Nat),.string T,.int .i64 (a:Nat),.int .i64 (b:Nat),.int .i64 (st:Nat),f,fV bu]] u fun e w'=>e=.returned (.int .i64 (n:Nat))∧Below u.heap.size u w'):=fun u=>by rw[hl];exact Vj S T wd a b st f (fV bu) u ha hw hb hf1 rfl
 unfold fV at HK HFI HSH
 clear hf h1 h2 h3 h4 ha hw hb hl hf1
 go_enter Tryz.func26,Tryz.ntmps26
 go_upto_region 2 with (go_at_call 42;refine HFI.out.mono ?_;intro e1 w1 hh;obtain ⟨rfl,hb1⟩:=hh.out;have HB1:Hid (Below w.heap.size w w1):=hb1;clear hh hb1 HFI)
 obtain ⟨w2,hw2⟩:∃ w2,w2=w1.alloc (.cells #[.string S,.int .i64 (wd:Nat),.string T,.int .i64 (a:Nat),.int .i64 (b:Nat),.int .i64 (st:Nat),f,.func (.func bu) #[] #[]] 96):=⟨_,rfl⟩
 obtain ⟨m,HM⟩:∃ m,Hid (w1.heap.size=m):=⟨_,rfl⟩
 have HB2:Hid (Bx w2 m 96 [.string S,.int .i64 (wd:Nat),.string T,.int .i64 (a:Nat),.int .i64 (b:Nat),.int .i64 (st:Nat),f,.func (.func bu) #[] #[]]∧Below w.heap.size w w2∧w.heap.size≤m):=by
  rw[hw2,←HM.out];exact ⟨Bx.new w1 96 _,HB1.out.alloc HB1.out.size _,HB1.out.size⟩
 rw[←hw2,HM.out]
 clear hw2 hsF
 go_upto_region 6 with (first
  | (refine wpList_load_mid (by rfl) 96 (.tmp 6) (by rfl) m 0 (by rfl) [.string S,.int .i64 (wd:Nat),.string T,.int .i64 (a:Nat),.int .i64 (b:Nat),.int .i64 (st:Nat),f,.func (.func bu) #[] #[]] _ HB2.out.1.range Tryz.underlying96 rfl (by kernel_rfl) ?_)
  | (go_at_call 43;refine (HK.out _).mono ?_;rintro e3 w3 ⟨rfl,hb3⟩;have HB3:Hid (Below w2.heap.size w2 w3):=hb3;clear hb3 HK))
 have HB4:Hid (Bx w3 m 96 [.string S,.int .i64 (wd:Nat),.string T,.int .i64 (a:Nat),.int .i64 (b:Nat),.int .i64 (st:Nat),f,.func (.func bu) #[] #[]]∧Below w.heap.size w w3):=⟨HB2.out.1.below HB3.out,HB2.out.2.1.trans (HB3.out.mono HB2.out.2.1.size)⟩
 go_upto_region 7 with (first
  | (refine wpList_load_mid (by rfl) 96 (.tmp 6) (by rfl) m 0 (by rfl) [.string S,.int .i64 (wd:Nat),.string T,.int .i64 (a:Nat),.int .i64 (b:Nat),.int .i64 (st:Nat),f,.func (.func bu) #[] #[]] _ HB4.out.1.range Tryz.underlying96 rfl (by kernel_rfl) ?_)
  | (go_at_call 44;refine (HSH.out _ HB4.out.2).mono ?_;intro e5 w5 hh;obtain ⟨sh,kv,mp,rfl,hsh5,hS5,hb5⟩:=hh.out;have HS5:Hid (w3.heap.size≤sh∧ShA w3.heap.size w5 sh S st wd zs kv mp (.slice none 0 0)∧Below w3.heap.size w3 w5):=⟨hsh5,hS5,hb5⟩;clear hh hsh5 hS5 hb5 HSH))
 obtain ⟨w6,hw6⟩:∃ w6,w6=w5.alloc (.cells #[.pointer (some ⟨sh,0,none⟩),.nilFunc,.nilFunc,.nilFunc] 70):=⟨_,rfl⟩
 obtain ⟨c,HCC⟩:∃ c,Hid (w5.heap.size=c):=⟨_,rfl⟩
 obtain ⟨B,HBQ⟩:∃ B,Hid (w3.heap.size=B):=⟨_,rfl⟩
 rw[HBQ.out] at HS5
 have HX6:Hid (Bx w6 m 96 [.string S,.int .i64 (wd:Nat),.string T,.int .i64 (a:Nat),.int .i64 (b:Nat),.int .i64 (st:Nat),f,.func (.func bu) #[] #[]]∧Bx w6 c 70 [.pointer (some ⟨sh,0,none⟩),.nilFunc,.nilFunc,.nilFunc]):=by
  rw[hw6,←HCC.out]
  exact ⟨((HB4.out.1.below (by have q:=HS5.out.2.2;rw[←HBQ.out] at q;exact q)).below ((Below.refl _ _).alloc (Nat.le_refl _) _)),Bx.new w5 70 _⟩
 have HA6:Hid (ShA B w6 sh S st wd zs kv mp (.slice none 0 0)):=by rw[hw6];exact HS5.out.2.1.below ((Below.refl _ _).alloc (Nat.le_refl _) _)
 have HBE:Hid (w.heap.size≤B∧B≤w6.heap.size):=⟨by rw[←HBQ.out];exact HB4.out.2.size,by rw[hw6,←HBQ.out];have q:=HS5.out.2.2.size;simp;omega⟩
 have HB6:Hid (Below w.heap.size w w6):=by
  rw[hw6]
  have q:=HS5.out.2.2
  rw[←HBQ.out] at q
  have p:=HB4.out.2.trans (q.mono HB4.out.2.size)
  exact p.alloc p.size _
 have HNE:Hid (m≠sh∧c≠sh∧m≠c):=⟨Zs HX6.out.1 HA6.out.box (by decide),Zs HX6.out.2 HA6.out.box (by decide),Zs HX6.out.1 HX6.out.2 (by decide)⟩
 rw[←hw6,HCC.out]
 have HCL:Hid (w.heap.size≤c):=by rw[←HCC.out];have q:=HS5.out.2.2.size;have p:=HB4.out.2.size;show w.heap.size≤w5.heap.size;omega
 clear hw6
 have e6:w6.cell? ⟨m,6,none⟩=some f:=HX6.out.1.cell 6 _ rfl
 have hq0:∀ w,(binOp .neq 91 .nilFunc .nilFunc).run Tryz.prog w=.ok (.bool false) w:=fun w=>by kernel_rfl
 have hq1:∀ bg w,(binOp .neq 91 (.func (.func bg) #[] #[]) .nilFunc).run Tryz.prog w=.ok (.bool true) w:=fun bg w=>by kernel_rfl
 rcases HF.out with rfl | ⟨bg,rfl⟩
 ·go_upto_region 9 with fail
  clear e6
  have HX8:Hid (Bx w6 m 96 [.string S,.int .i64 (wd:Nat),.string T,.int .i64 (a:Nat),.int .i64 (b:Nat),.int .i64 (st:Nat),.nilFunc,.func (.func bu) #[] #[]]∧Bx w6 c 70 [.pointer (some ⟨sh,0,none⟩),.nilFunc,.nilFunc,.nilFunc]):=HX6
  have HS8:Hid (ShA B w6 sh S st wd zs kv mp (.slice none 0 0)∧(∃ n os,n≤1∧w6.ownsRow B 71 1 (.slice none 0 0) n os)∧Φ .nilFunc∧Below w.heap.size w w6):=⟨HA6.out,⟨0,[],by omega,World.ownsRow_nil _ _ _ _⟩,HNB.out (by first | rfl | trivial),HB6.out⟩
  have k7:w6.cell? ⟨m,7,none⟩=some (.func (.func bu) #[] #[]):=HX8.out.1.cell 7 _ rfl
  have k0:w6.cell? ⟨c,0,none⟩=some (.pointer (some ⟨sh,0,none⟩)):=HX8.out.2.cell 0 _ rfl
  have k1:w6.cell? ⟨c,1,none⟩=some (.nilFunc):=HX8.out.2.cell 1 _ rfl
  have hlc:c<w6.heap.size:=HX8.out.2.lt
  have K9:Hid (Calls Tryz.prog bu #[.pointer (some ⟨sh,0,none⟩),.nilFunc] w6.drew fun e u'=>Hid (Zdx B sh S st wd zs kv mp Ψ (.nilFunc) w6.drew e u')):=by
   have hd:Below w6.heap.size w6 w6.drew:=(Below.refl _ _).drew
   obtain ⟨n9,o9,hn9,ho9⟩:=HS8.out.2.1
   exact HBU.out _ B sh kv mp (.slice none 0 0) w6.drew (.inl rfl) HS8.out.2.2.1 (HS8.out.2.2.2.trans (hd.mono HS8.out.2.2.2.size)) HBE.out.1 (Nat.le_trans HBE.out.2 hd.size) (HS8.out.1.below hd) ⟨n9,o9,hn9,ownsRow_below ho9 hd⟩
  go_region_held3 (fun u=>u.cell? ⟨m,7,none⟩=some (.func (.func bu) #[] #[])∧u.cell? ⟨c,0,none⟩=some (.pointer (some ⟨sh,0,none⟩))∧u.cell? ⟨c,1,none⟩=some (.nilFunc)) (first | exact ⟨k7,k0,k1⟩ | exact hS9 | exact ⟨Zh hS9.1 (.inl HNE.out.2.2),Zh hS9.2.1 (.inr (by decide)),Zh hS9.2.2 (.inr (by decide))⟩ | exact ⟨Zh (Zh hS9.1 (.inl HNE.out.2.2)) (.inl HNE.out.2.2),Zh (Zh hS9.2.1 (.inr (by decide))) (.inr (by decide)),Zh (Zh hS9.2.2 (.inr (by decide))) (.inr (by decide))⟩ | go_keep)
   ((refine K9.out.mono ?_;intro e9 w9 hh;obtain ⟨f1,x1,y1,f2,x2,y2,ov9,rfl,hA9,hF9,hΨ9⟩:=hh.out;have hX9m:=hF9.bx (HX8.out.1.below (Below.refl _ _).drew) HNE.out.1 (by decide);have hX9c:=hF9.bx (HX8.out.2.below (Below.refl _ _).drew) HNE.out.2.1 (by decide);have hS9:w9.cell? ⟨m,7,none⟩=some (.func (.func bu) #[] #[])∧w9.cell? ⟨c,0,none⟩=some (.pointer (some ⟨sh,0,none⟩))∧w9.cell? ⟨c,1,none⟩=some (.nilFunc):=⟨hX9m.cell 7 _ rfl,hX9c.cell 0 _ rfl,hX9c.cell 1 _ rfl⟩;have j2:w9.cell? ⟨c,2,none⟩=some .nilFunc:=hX9c.cell 2 _ rfl;have j3:w9.cell? ⟨c,3,none⟩=some .nilFunc:=hX9c.cell 3 _ rfl;have r2:w9.frozen? ⟨c,2,none⟩=false:=hX9c.frozen 2;have r3:w9.frozen? ⟨c,3,none⟩=false:=hX9c.frozen 3;have HA9:Hid (ShA B w9 sh S st wd zs kv mp ov9∧Fs B sh w6.drew w9∧Ψ sh (.nilFunc) (.func (.func f1) x1 y1) (.func (.func f2) x2 y2)∧Bx w9 c 70 [.pointer (some ⟨sh,0,none⟩),.nilFunc,.nilFunc,.nilFunc]):=⟨hA9,hF9,hΨ9,hX9c⟩;clear hh hA9 hF9 hΨ9 hX9m hX9c))
  go_wp2
  go_ret2
  have hX:=((HA9.out.2.2.2.set 2 (.func (.func f1) x1 y1)).set 3 (.func (.func f2) x2 y2))
  have hbl:Below w.heap.size w w9:=HS8.out.2.2.2.trans ((Below.refl _ _).drew.trans (HA9.out.2.1.bel.mono HBE.out.1))
  have hcl:w.heap.size≤c:=by have:=HBE.out.1;have:=HS8.out.1.le;have:=HCL.out;omega
  refine ⟨c,sh,kv,mp,ov9,.nilFunc,.func (.func f1) x1 y1,.func (.func f2) x2 y2,rfl,hcl,hX,((HA9.out.1.other (c:=c) HA9.out.2.2.2 (fun b hb=>?_) ?_).base HBE.out.1),HA9.out.2.2.1,(hbl.setCell hcl _).setCell hcl _⟩
  ·rw[Below.heap_setCell _ ⟨c,3,none⟩ _ b hb,Below.heap_setCell _ ⟨c,2,none⟩ _ b hb]
  ·simp
 ·unfold fV at e6 HX6
  have hEg:=HEg.out bg rfl
  have k0:w6.cell? ⟨c,0,none⟩=some (.pointer (some ⟨sh,0,none⟩)):=HX6.out.2.cell 0 _ rfl
  have hlc:c<w6.heap.size:=HX6.out.2.lt
  have K8:Hid (Calls Tryz.prog bg #[.pointer (some ⟨sh,0,none⟩)] w6.drew fun e u'=>Hid (Zff B sh S st wd zs kv mp Φ w6.drew e u')):=by
   have hd:Below w6.heap.size w6 w6.drew:=(Below.refl _ _).drew
   exact HBG.out bg rfl B sh kv mp w6.drew (HB6.out.trans (hd.mono HB6.out.size)) HBE.out.1 (Nat.le_trans HBE.out.2 hd.size) (HA6.out.below hd)
  unfold fV
  go_upto_region 8 with fail
  go_region_held3 (fun u=>u.cell? ⟨m,6,none⟩=some (.func (.func bg) #[] #[])∧u.cell? ⟨c,0,none⟩=some (.pointer (some ⟨sh,0,none⟩))) (first | exact ⟨e6,k0⟩ | exact hS7 | exact ⟨Zh hS7.1 (.inl HNE.out.2.2),Zh hS7.2 (.inr (by decide))⟩ | go_keep)
   ((refine K8.out.mono ?_;intro e7 w7 hh;obtain ⟨fn,xs,ys,ov7,rfl,hA7,hW7,hF7,hΦ7⟩:=hh.out;have hX7m:=hF7.bx (HX6.out.1.below (Below.refl _ _).drew) HNE.out.1 (by decide);have hX7c:=hF7.bx (HX6.out.2.below (Below.refl _ _).drew) HNE.out.2.1 (by decide);have hS7:w7.cell? ⟨m,6,none⟩=some (.func (.func bg) #[] #[])∧w7.cell? ⟨c,0,none⟩=some (.pointer (some ⟨sh,0,none⟩)):=⟨hX7m.cell 6 _ rfl,hX7c.cell 0 _ rfl⟩;have j1:w7.cell? ⟨c,1,none⟩=some .nilFunc:=hX7c.cell 1 _ rfl;have r1:w7.frozen? ⟨c,1,none⟩=false:=hX7c.frozen 1;have HA7:Hid (ShA B w7 sh S st wd zs kv mp ov7∧(∃ n os,n≤1∧w7.ownsRow B 71 1 ov7 n os)∧Fs B sh w6.drew w7∧Φ (.func (.func fn) xs ys)∧Bx w7 m 96 [.string S,.int .i64 (wd:Nat),.string T,.int .i64 (a:Nat),.int .i64 (b:Nat),.int .i64 (st:Nat),.func (.func bg) #[] #[],.func (.func bu) #[] #[]]∧Bx w7 c 70 [.pointer (some ⟨sh,0,none⟩),.nilFunc,.nilFunc,.nilFunc]):=⟨hA7,hW7,hF7,hΦ7,hX7m,hX7c⟩;clear hh hA7 hW7 hF7 hΦ7 hX7m hX7c))
  go_upto_region 9 with fail
  obtain ⟨w8,hw8⟩:∃ w8,w8=w7.setCell ⟨c,1,none⟩ (.func (.func fn) xs ys):=⟨_,rfl⟩
  rw[←hw8]
  have hof:∀ b,b≠c→w8.heap[b]?=w7.heap[b]?:=fun b hb=>by rw[hw8];exact Below.heap_setCell _ ⟨c,1,none⟩ _ b hb
  have hsz:w7.heap.size≤w8.heap.size:=by rw[hw8];simp
  have HX8:Hid (Bx w8 m 96 [.string S,.int .i64 (wd:Nat),.string T,.int .i64 (a:Nat),.int .i64 (b:Nat),.int .i64 (st:Nat),.func (.func bg) #[] #[],.func (.func bu) #[] #[]]∧Bx w8 c 70 [.pointer (some ⟨sh,0,none⟩),.func (.func fn) xs ys,.nilFunc,.nilFunc]):=⟨HA7.out.2.2.2.2.1.keep (hof m HNE.out.2.2),by rw[hw8];exact HA7.out.2.2.2.2.2.set 1 _⟩
  have hb7:Below w.heap.size w w7:=HB6.out.trans ((Below.refl _ _).drew.trans (HA7.out.2.2.1.bel.mono HBE.out.1))
  have HS8:Hid (ShA B w8 sh S st wd zs kv mp ov7∧(∃ n os,n≤1∧w8.ownsRow B 71 1 ov7 n os)∧Φ (.func (.func fn) xs ys)∧Below w.heap.size w w8):=⟨HA7.out.1.other HA7.out.2.2.2.2.2 hof hsz,Wy HA7.out.2.1 HA7.out.2.2.2.2.2 hof,HA7.out.2.2.2.1,by rw[hw8];exact hb7.setCell HCL.out _⟩
  have HBE8:Hid (B≤w8.heap.size):=Nat.le_trans (Nat.le_trans HBE.out.2 (Nat.le_trans (by simp) HA7.out.2.2.1.bel.size)) hsz
  clear hw8 hof hsz hb7 e6 k0 hlc j1 r1 HA7
  have k7:w8.cell? ⟨m,7,none⟩=some (.func (.func bu) #[] #[]):=HX8.out.1.cell 7 _ rfl
  have k0:w8.cell? ⟨c,0,none⟩=some (.pointer (some ⟨sh,0,none⟩)):=HX8.out.2.cell 0 _ rfl
  have k1:w8.cell? ⟨c,1,none⟩=some (.func (.func fn) xs ys):=HX8.out.2.cell 1 _ rfl
  have hlc:c<w8.heap.size:=HX8.out.2.lt
  have K9:Hid (Calls Tryz.prog bu #[.pointer (some ⟨sh,0,none⟩),.func (.func fn) xs ys] w8.drew fun e u'=>Hid (Zdx B sh S st wd zs kv mp Ψ (.func (.func fn) xs ys) w8.drew e u')):=by
   have hd:Below w8.heap.size w8 w8.drew:=(Below.refl _ _).drew
   obtain ⟨n9,o9,hn9,ho9⟩:=HS8.out.2.1
   exact HBU.out _ B sh kv mp ov7 w8.drew (.inr ⟨_,_,_,rfl⟩) HS8.out.2.2.1 (HS8.out.2.2.2.trans (hd.mono HS8.out.2.2.2.size)) HBE.out.1 (Nat.le_trans HBE8.out hd.size) (HS8.out.1.below hd) ⟨n9,o9,hn9,ownsRow_below ho9 hd⟩
  go_region_held3 (fun u=>u.cell? ⟨m,7,none⟩=some (.func (.func bu) #[] #[])∧u.cell? ⟨c,0,none⟩=some (.pointer (some ⟨sh,0,none⟩))∧u.cell? ⟨c,1,none⟩=some (.func (.func fn) xs ys)) (first | exact ⟨k7,k0,k1⟩ | exact hS9 | exact ⟨Zh hS9.1 (.inl HNE.out.2.2),Zh hS9.2.1 (.inr (by decide)),Zh hS9.2.2 (.inr (by decide))⟩ | exact ⟨Zh (Zh hS9.1 (.inl HNE.out.2.2)) (.inl HNE.out.2.2),Zh (Zh hS9.2.1 (.inr (by decide))) (.inr (by decide)),Zh (Zh hS9.2.2 (.inr (by decide))) (.inr (by decide))⟩ | go_keep)
   ((refine K9.out.mono ?_;intro e9 w9 hh;obtain ⟨f1,x1,y1,f2,x2,y2,ov9,rfl,hA9,hF9,hΨ9⟩:=hh.out;have hX9m:=hF9.bx (HX8.out.1.below (Below.refl _ _).drew) HNE.out.1 (by decide);have hX9c:=hF9.bx (HX8.out.2.below (Below.refl _ _).drew) HNE.out.2.1 (by decide);have hS9:w9.cell? ⟨m,7,none⟩=some (.func (.func bu) #[] #[])∧w9.cell? ⟨c,0,none⟩=some (.pointer (some ⟨sh,0,none⟩))∧w9.cell? ⟨c,1,none⟩=some (.func (.func fn) xs ys):=⟨hX9m.cell 7 _ rfl,hX9c.cell 0 _ rfl,hX9c.cell 1 _ rfl⟩;have j2:w9.cell? ⟨c,2,none⟩=some .nilFunc:=hX9c.cell 2 _ rfl;have j3:w9.cell? ⟨c,3,none⟩=some .nilFunc:=hX9c.cell 3 _ rfl;have r2:w9.frozen? ⟨c,2,none⟩=false:=hX9c.frozen 2;have r3:w9.frozen? ⟨c,3,none⟩=false:=hX9c.frozen 3;have HA9:Hid (ShA B w9 sh S st wd zs kv mp ov9∧Fs B sh w8.drew w9∧Ψ sh (.func (.func fn) xs ys) (.func (.func f1) x1 y1) (.func (.func f2) x2 y2)∧Bx w9 c 70 [.pointer (some ⟨sh,0,none⟩),.func (.func fn) xs ys,.nilFunc,.nilFunc]):=⟨hA9,hF9,hΨ9,hX9c⟩;clear hh hA9 hF9 hΨ9 hX9m hX9c))
  go_wp2
  go_ret2
  have hX:=((HA9.out.2.2.2.set 2 (.func (.func f1) x1 y1)).set 3 (.func (.func f2) x2 y2))
  have hbl:Below w.heap.size w w9:=HS8.out.2.2.2.trans ((Below.refl _ _).drew.trans (HA9.out.2.1.bel.mono HBE.out.1))
  have hcl:w.heap.size≤c:=by have:=HBE.out.1;have:=HS8.out.1.le;have:=HCL.out;omega
  refine ⟨c,sh,kv,mp,ov9,.func (.func fn) xs ys,.func (.func f1) x1 y1,.func (.func f2) x2 y2,rfl,hcl,hX,((HA9.out.1.other (c:=c) HA9.out.2.2.2 (fun b hb=>?_) ?_).base HBE.out.1),HA9.out.2.2.1,(hbl.setCell hcl _).setCell hcl _⟩
  ·rw[Below.heap_setCell _ ⟨c,3,none⟩ _ b hb,Below.heap_setCell _ ⟨c,2,none⟩ _ b hb]
  ·simp
end Go.Proofs.YtehlppaidgkpaaaGreatDoor
