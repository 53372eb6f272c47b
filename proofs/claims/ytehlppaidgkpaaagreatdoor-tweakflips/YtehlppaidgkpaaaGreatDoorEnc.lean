import Derived.Test.YtehlppaidgkpaaaGreatDoorPart00
import Derived.Test.YtehlppaidgkpaaaGreatDoorPart18
namespace Go.Proofs.YtehlppaidgkpaaaGreatDoor
open Go.RowKit
set_option linter.unusedVariables false
set_option linter.unusedSimpArgs false
theorem below_setCells (b:Nat) {B:Nat} (hB:B≤b) {a:World}:∀ (vs:List Value) (o:Nat) (w:World),Below B a w→Below B a (w.setCells b o vs)
 | [],_,_,h=>h
 | v::r,o,w,h=>by rw[World.setCells];exact below_setCells b hB r (o+1) _ (h.setCell hB _)
theorem size_setCells (b:Nat):∀ (vs:List Value) (o:Nat) (w:World),(w.setCells b o vs).heap.size=w.heap.size
 | [],_,_=>rfl
 | v::r,o,w=>by rw[World.setCells,size_setCells b r (o+1)];simp [World.setCell]
theorem Y0 {w:World} {b:Nat} {x0 x1 x2 x3:Value} (h:w.rangeAt b 0 [x0,x1,x2,x3]):w.cell? ⟨b,0,none⟩=some x0∧w.cell? ⟨b,1,none⟩=some x1∧w.cell? ⟨b,2,none⟩=some x2∧w.cell? ⟨b,3,none⟩=some x3:=
 ⟨h 0 _ rfl,h 1 _ rfl,h 2 _ rfl,h 3 _ rfl⟩
theorem Kk (w:World) (A C:Array Value) (t t':TypeId) {n:Nat} (hn:C.size=n):((w.alloc (.cells A t)).alloc (.cells C t')).there (w.heap.size+1) 0 n:=fun j hj=>by
 subst hn
 have hsz:(w.alloc (.cells A t)).heap.size=w.heap.size+1:=by simp
 refine ⟨?_,World.frozen?_alloc_at C t' _ _ (by simp)⟩
 rw[World.cell?_alloc_at C t' _ _ (by simp)]
 simp
 exact hj
theorem Kn:(Tryz.prog.info? 177).map (·.size)=some 4:=by kernel_rfl
theorem Qz:(Tryz.prog.info? 27).map (·.size)=some 16:=by kernel_rfl
theorem Om {g o nr:Nat} {K:Nat→Nat} (r:Nat) (hr:r≤nr) (s t:W4) (hs:s.ok) (ht:t=Jw K r s):∀ u,X5 u g o nr K →
 Calls Tryz.prog 86 #[.pointer (some ⟨g,o,none⟩),s.val,.int .i64 (r:Nat)] u fun e u'=>e=.returned t.val∧Below u.heap.size u u':=fun u hC=>Bj hC hC.here (Nat.le_refl _) r hr s t hs ht u (Below.refl _ _)
set_option maxHeartbeats 6400000 in
set_option maxRecDepth 100000 in
theorem Zbc (g o nr:Nat) (K:Nat→Nat) (s:W4) (w:World) (hC:X5 w g o nr K) (hs:s.ok) :
  Calls Tryz.prog 55 #[.pointer (some ⟨g,o,none⟩),s.blk] w fun e w'=>e=.returned (N2 nr K s).blk∧Below w.heap.size w w':=by
 have HC:Hid (X5 w g o nr K):=hC
 have hnr:=hC.most
 have hn1:=hC.some
 clear hC
 have HS:Hid s.ok:=hs
 clear hs
 obtain ⟨⟨t0,t1,t2,t3⟩,HT⟩:∃ t,Hid (t=Jw K 0 s):=⟨_,rfl⟩
 have HTok:Hid (W4.ok ⟨t0,t1,t2,t3⟩):=by show W4.ok _;rw[HT.out];exact Kr HC.out.small _ HS.out
 have HFB:Hid (∀ u,Calls Tryz.prog 87 #[.agg #[.int .u8 (bt0 s.a:Nat),.int .u8 (bt1 s.a:Nat),.int .u8 (bt2 s.a:Nat),.int .u8 (bt3 s.a:Nat),.int .u8 (bt0 s.b:Nat),.int .u8 (bt1 s.b:Nat),.int .u8 (bt2 s.b:Nat),.int .u8 (bt3 s.b:Nat),.int .u8 (bt0 s.c:Nat),.int .u8 (bt1 s.c:Nat),.int .u8 (bt2 s.c:Nat),.int .u8 (bt3 s.c:Nat),.int .u8 (bt0 s.d:Nat),.int .u8 (bt1 s.d:Nat),.int .u8 (bt2 s.d:Nat),.int .u8 (bt3 s.d:Nat)]] u fun e u'=>e=.returned s.val∧Below u.heap.size u u'):=fun u=>Uc s HS.out u
 have HA0:Hid (∀ u,X5 u g o nr K→Calls Tryz.prog 86 #[.pointer (some ⟨g,o,none⟩),s.val,.int .i64 0] u fun e u'=>e=.returned (.agg #[.int .u32 (t0:Nat),.int .u32 (t1:Nat),.int .u32 (t2:Nat),.int .u32 (t3:Nat)])∧Below u.heap.size u u'):=Om 0 (Nat.zero_le _) s ⟨t0,t1,t2,t3⟩ HS.out HT.out
 show Calls Tryz.prog 55 #[.pointer (some ⟨g,o,none⟩),.agg #[.int .u8 (bt0 s.a:Nat),.int .u8 (bt1 s.a:Nat),.int .u8 (bt2 s.a:Nat),.int .u8 (bt3 s.a:Nat),.int .u8 (bt0 s.b:Nat),.int .u8 (bt1 s.b:Nat),.int .u8 (bt2 s.b:Nat),.int .u8 (bt3 s.b:Nat),.int .u8 (bt0 s.c:Nat),.int .u8 (bt1 s.c:Nat),.int .u8 (bt2 s.c:Nat),.int .u8 (bt3 s.c:Nat),.int .u8 (bt0 s.d:Nat),.int .u8 (bt1 s.d:Nat),.int .u8 (bt2 s.d:Nat),.int .u8 (bt3 s.d:Nat)]] w _
 go_enter Tryz.func55,Tryz.ntmps55
 go_wp2_with (first
  | (go_at_call 87;refine (HFB.out _).mono ?_)
  | fail)
 rintro e1 w1 ⟨rfl,hb1⟩
 have H1:Hid (Below w.heap.size w w1∧w.heap.size+2≤w1.heap.size∧w1.there (w.heap.size+1) 0 16):=by
  refine ⟨(Ym w _ _ 27 27).1.trans (hb1.mono (by simp;omega)),?_,Zh (Kk w _ _ 27 27 rfl) hb1 (by simp)⟩
  have:=hb1.size
  simpa using this
 clear hb1 HFB
 have HC1:Hid (X5 w1 g o nr K):=HC.out.below H1.out.1 HC.out.here
 go_wp2_with (first
  | (go_at_call 86;refine (HA0.out _ HC1.out).mono ?_)
  | fail)
 rintro e2 w2 ⟨rfl,hb2⟩
 have H2:Hid (Below w.heap.size w w2∧w.heap.size+2≤w2.heap.size∧w2.there (w.heap.size+1) 0 16):=by
  obtain ⟨p1,p2,p3⟩:=H1.out
  exact ⟨p1.trans (hb2.mono p1.size),Nat.le_trans p2 hb2.size,Zh p3 hb2 (by omega)⟩
 clear hb2 HA0 H1 HC1
 have HC2:Hid (X5 w2 g o nr K):=HC.out.below H2.out.1 HC.out.here
 go_wp2
 obtain ⟨A,HAw⟩:∃ A,Hid (w2.heap.size=A):=⟨_,rfl⟩
 rw[HAw.out]
 go_loopw [6] (fun i wr=>∃ r x0 x1 x2 x3:Nat,1≤r∧r≤nr∧i=.int .i64 r∧Hid ((⟨x0,x1,x2,x3⟩:W4)=G8 K (r-1) ⟨t0,t1,t2,t3⟩)∧Hid (W4.ok ⟨x0,x1,x2,x3⟩)∧Hid (Below A w2 wr∧A<wr.heap.size∧wr.rangeAt A 0 [.int .u32 (x0:Nat),.int .u32 (x1:Nat),.int .u32 (x2:Nat),.int .u32 (x3:Nat)]∧wr.there A 0 4)) (fun i _=>nr-(intOf i).toNat)
 case atStart=>
  rw[←HAw.out]
  refine ⟨1,t0,t1,t2,t3,by omega,hn1,rfl,(rfl:(⟨t0,t1,t2,t3⟩:W4)=_),HTok.out,(Below.refl _ w2).alloc (Nat.le_refl _) _,by simp,fun j v hv=>?_,fun j hj=>⟨?_,?_⟩⟩
  ·have h:=J9 w2 #[.int .u32 (t0:Nat),.int .u32 (t1:Nat),.int .u32 (t2:Nat),.int .u32 (t3:Nat)] 177 j v hv
   exact h
  ·rw[World.cell?_alloc_at _ _ _ _ rfl]
   simp
   omega
  ·exact World.frozen?_alloc_at _ _ _ _ rfl
 case round=>
  obtain ⟨r,x0,x1,x2,x3,hr1,hr2,rfl,HX,HXok,HW⟩:=hrel
  have HCr:Hid (X5 wr g o nr K):=HC2.out.below HW.out.1 (by rw[←HAw.out];exact HC2.out.here)
  have hrd:wr.cell? ⟨g,o,none⟩=some (.int .i64 (nr:Nat)):=HCr.out.rounds
  have HgA:Hid (g<A):=by show g<A;rw[←HAw.out];exact HC2.out.here
  by_cases hlt:r<nr
  ·obtain ⟨⟨m0,m1,m2,m3⟩,HM⟩:∃ m,Hid (m=Rd ⟨x0,x1,x2,x3⟩):=⟨_,rfl⟩
   obtain ⟨⟨n0,n1,n2,n3⟩,HN⟩:∃ m,Hid (m=Jw K r ⟨m0,m1,m2,m3⟩):=⟨_,rfl⟩
   have HMok:Hid (W4.ok ⟨m0,m1,m2,m3⟩):=by show W4.ok _;rw[HM.out];exact E4 _
   have HNok:Hid (W4.ok ⟨n0,n1,n2,n3⟩):=by show W4.ok _;rw[HN.out];exact Kr HCr.out.small _ HMok.out
   have hgA1:g<A+1:=Nat.lt_succ_of_lt HgA.out
   have k0:Hid (∀ u,Below (A+1) wr u→Calls Tryz.prog 88 #[.pointer (some ⟨g,o,none⟩),.int .u32 (x0:Nat),.int .u32 (x1:Nat),.int .u32 (x2:Nat),.int .u32 (x3:Nat)] u fun e u'=>e=.returned (.int .u32 (m0:Nat))∧Below (A+1) wr u'):=M2 HCr.out hgA1 x0 x1 x2 x3 m0 (congrArg W4.a HM.out)
   have k1:Hid (∀ u,Below (A+1) wr u→Calls Tryz.prog 88 #[.pointer (some ⟨g,o,none⟩),.int .u32 (x1:Nat),.int .u32 (x2:Nat),.int .u32 (x3:Nat),.int .u32 (x0:Nat)] u fun e u'=>e=.returned (.int .u32 (m1:Nat))∧Below (A+1) wr u'):=M2 HCr.out hgA1 x1 x2 x3 x0 m1 (congrArg W4.b HM.out)
   have k2:Hid (∀ u,Below (A+1) wr u→Calls Tryz.prog 88 #[.pointer (some ⟨g,o,none⟩),.int .u32 (x2:Nat),.int .u32 (x3:Nat),.int .u32 (x0:Nat),.int .u32 (x1:Nat)] u fun e u'=>e=.returned (.int .u32 (m2:Nat))∧Below (A+1) wr u'):=M2 HCr.out hgA1 x2 x3 x0 x1 m2 (congrArg W4.c HM.out)
   have k3:Hid (∀ u,Below (A+1) wr u→Calls Tryz.prog 88 #[.pointer (some ⟨g,o,none⟩),.int .u32 (x3:Nat),.int .u32 (x0:Nat),.int .u32 (x1:Nat),.int .u32 (x2:Nat)] u fun e u'=>e=.returned (.int .u32 (m3:Nat))∧Below (A+1) wr u'):=M2 HCr.out hgA1 x3 x0 x1 x2 m3 (congrArg W4.d HM.out)
   have ka:Hid (∀ u,Below (A+1) wr u→Calls Tryz.prog 86 #[.pointer (some ⟨g,o,none⟩),.agg #[.int .u32 (m0:Nat),.int .u32 (m1:Nat),.int .u32 (m2:Nat),.int .u32 (m3:Nat)],.int .i64 (r:Nat)] u fun e u'=>e=.returned (.agg #[.int .u32 (n0:Nat),.int .u32 (n1:Nat),.int .u32 (n2:Nat),.int .u32 (n3:Nat)])∧Below (A+1) wr u'):=Bj HCr.out hgA1 HW.out.2.1 r (Nat.le_of_lt hlt) ⟨m0,m1,m2,m3⟩ ⟨n0,n1,n2,n3⟩ HMok.out HN.out
   have g0:Hid (∀ u,Below (A+1) wr u→u.cell? ⟨A,0,none⟩=some (.int .u32 (x0:Nat))):=fun u hu=>(hu.cell (Nat.lt_succ_self A)).trans (Y0 HW.out.2.2.1).1
   have g1:Hid (∀ u,Below (A+1) wr u→u.cell? ⟨A,1,none⟩=some (.int .u32 (x1:Nat))):=fun u hu=>(hu.cell (Nat.lt_succ_self A)).trans (Y0 HW.out.2.2.1).2.1
   have g2:Hid (∀ u,Below (A+1) wr u→u.cell? ⟨A,2,none⟩=some (.int .u32 (x2:Nat))):=fun u hu=>(hu.cell (Nat.lt_succ_self A)).trans (Y0 HW.out.2.2.1).2.2.1
   have g3:Hid (∀ u,Below (A+1) wr u→u.cell? ⟨A,3,none⟩=some (.int .u32 (x3:Nat))):=fun u hu=>(hu.cell (Nat.lt_succ_self A)).trans (Y0 HW.out.2.2.1).2.2.2
   clear hgA1
   go_wp2
   have hS0:Below (A+1) wr wr.drew:=(Below.refl _ _).drew
   refine wp_region_noPanic ?_
   refine Z3 (fun u=>Below (A+1) wr u) 43 (by kernel_rfl) (by decide) (by kernel_rfl) (by kernel_rfl) (by kernel_rfl) (fun inv=>?_)
   refine tT 0 19 (.pointer (some ⟨g,o,none⟩)) inv rfl rfl (by decide +kernel) (hS0) (Or.inl ⟨by rfl,fun w' hS'=>by go_simp⟩) (fun inv=>?_)
   simp only[pU]
   refine tT 1 20 (.pointer (some ⟨g,o,none⟩)) inv rfl rfl (by decide +kernel) (hS0) (Or.inl ⟨by rfl,fun w' hS'=>by go_simp⟩) (fun inv=>?_)
   simp only[pU]
   refine tT 2 21 (.pointer (some ⟨A,0,none⟩)) inv rfl rfl (by decide +kernel) (hS0) (Or.inl ⟨by rfl,fun w' hS'=>by go_simp⟩) (fun inv=>?_)
   simp only[pU]
   refine tT 3 22 (.int .u32 (x0:Nat)) inv rfl rfl (by decide +kernel) (hS0) (Or.inl ⟨by rfl,fun w' hS'=>by have q:=g0.out w' hS';go_simp⟩) (fun inv=>?_)
   simp only[pU]
   refine tT 4 23 (.pointer (some ⟨A,1,none⟩)) inv rfl rfl (by decide +kernel) (hS0) (Or.inl ⟨by rfl,fun w' hS'=>by go_simp⟩) (fun inv=>?_)
   simp only[pU]
   refine tT 5 24 (.int .u32 (x1:Nat)) inv rfl rfl (by decide +kernel) (hS0) (Or.inl ⟨by rfl,fun w' hS'=>by have q:=g1.out w' hS';go_simp⟩) (fun inv=>?_)
   simp only[pU]
   refine tT 6 25 (.pointer (some ⟨A,2,none⟩)) inv rfl rfl (by decide +kernel) (hS0) (Or.inl ⟨by rfl,fun w' hS'=>by go_simp⟩) (fun inv=>?_)
   simp only[pU]
   refine tT 7 26 (.int .u32 (x2:Nat)) inv rfl rfl (by decide +kernel) (hS0) (Or.inl ⟨by rfl,fun w' hS'=>by have q:=g2.out w' hS';go_simp⟩) (fun inv=>?_)
   simp only[pU]
   refine tT 8 27 (.pointer (some ⟨A,3,none⟩)) inv rfl rfl (by decide +kernel) (hS0) (Or.inl ⟨by rfl,fun w' hS'=>by go_simp⟩) (fun inv=>?_)
   simp only[pU]
   refine tT 9 28 (.int .u32 (x3:Nat)) inv rfl rfl (by decide +kernel) (hS0) (Or.inl ⟨by rfl,fun w' hS'=>by have q:=g3.out w' hS';go_simp⟩) (fun inv=>?_)
   simp only[pU]
   refine tT 11 30 (.pointer (some ⟨g,o,none⟩)) inv rfl rfl (by decide +kernel) (hS0) (Or.inl ⟨by rfl,fun w' hS'=>by go_simp⟩) (fun inv=>?_)
   simp only[pU]
   refine tT 12 31 (.pointer (some ⟨A,1,none⟩)) inv rfl rfl (by decide +kernel) (hS0) (Or.inl ⟨by rfl,fun w' hS'=>by go_simp⟩) (fun inv=>?_)
   simp only[pU]
   refine tT 13 32 (.int .u32 (x1:Nat)) inv rfl rfl (by decide +kernel) (hS0) (Or.inl ⟨by rfl,fun w' hS'=>by have q:=g1.out w' hS';go_simp⟩) (fun inv=>?_)
   simp only[pU]
   refine tT 14 33 (.pointer (some ⟨A,2,none⟩)) inv rfl rfl (by decide +kernel) (hS0) (Or.inl ⟨by rfl,fun w' hS'=>by go_simp⟩) (fun inv=>?_)
   simp only[pU]
   refine tT 15 34 (.int .u32 (x2:Nat)) inv rfl rfl (by decide +kernel) (hS0) (Or.inl ⟨by rfl,fun w' hS'=>by have q:=g2.out w' hS';go_simp⟩) (fun inv=>?_)
   simp only[pU]
   refine tT 16 35 (.pointer (some ⟨A,3,none⟩)) inv rfl rfl (by decide +kernel) (hS0) (Or.inl ⟨by rfl,fun w' hS'=>by go_simp⟩) (fun inv=>?_)
   simp only[pU]
   refine tT 17 36 (.int .u32 (x3:Nat)) inv rfl rfl (by decide +kernel) (hS0) (Or.inl ⟨by rfl,fun w' hS'=>by have q:=g3.out w' hS';go_simp⟩) (fun inv=>?_)
   simp only[pU]
   refine tT 18 37 (.pointer (some ⟨A,0,none⟩)) inv rfl rfl (by decide +kernel) (hS0) (Or.inl ⟨by rfl,fun w' hS'=>by go_simp⟩) (fun inv=>?_)
   simp only[pU]
   refine tT 19 38 (.int .u32 (x0:Nat)) inv rfl rfl (by decide +kernel) (hS0) (Or.inl ⟨by rfl,fun w' hS'=>by have q:=g0.out w' hS';go_simp⟩) (fun inv=>?_)
   simp only[pU]
   refine tT 21 40 (.pointer (some ⟨g,o,none⟩)) inv rfl rfl (by decide +kernel) (hS0) (Or.inl ⟨by rfl,fun w' hS'=>by go_simp⟩) (fun inv=>?_)
   simp only[pU]
   refine tT 22 41 (.pointer (some ⟨A,2,none⟩)) inv rfl rfl (by decide +kernel) (hS0) (Or.inl ⟨by rfl,fun w' hS'=>by go_simp⟩) (fun inv=>?_)
   simp only[pU]
   refine tT 23 42 (.int .u32 (x2:Nat)) inv rfl rfl (by decide +kernel) (hS0) (Or.inl ⟨by rfl,fun w' hS'=>by have q:=g2.out w' hS';go_simp⟩) (fun inv=>?_)
   simp only[pU]
   refine tT 24 43 (.pointer (some ⟨A,3,none⟩)) inv rfl rfl (by decide +kernel) (hS0) (Or.inl ⟨by rfl,fun w' hS'=>by go_simp⟩) (fun inv=>?_)
   simp only[pU]
   refine tT 25 44 (.int .u32 (x3:Nat)) inv rfl rfl (by decide +kernel) (hS0) (Or.inl ⟨by rfl,fun w' hS'=>by have q:=g3.out w' hS';go_simp⟩) (fun inv=>?_)
   simp only[pU]
   refine tT 26 45 (.pointer (some ⟨A,0,none⟩)) inv rfl rfl (by decide +kernel) (hS0) (Or.inl ⟨by rfl,fun w' hS'=>by go_simp⟩) (fun inv=>?_)
   simp only[pU]
   refine tT 27 46 (.int .u32 (x0:Nat)) inv rfl rfl (by decide +kernel) (hS0) (Or.inl ⟨by rfl,fun w' hS'=>by have q:=g0.out w' hS';go_simp⟩) (fun inv=>?_)
   simp only[pU]
   refine tT 28 47 (.pointer (some ⟨A,1,none⟩)) inv rfl rfl (by decide +kernel) (hS0) (Or.inl ⟨by rfl,fun w' hS'=>by go_simp⟩) (fun inv=>?_)
   simp only[pU]
   refine tT 29 48 (.int .u32 (x1:Nat)) inv rfl rfl (by decide +kernel) (hS0) (Or.inl ⟨by rfl,fun w' hS'=>by have q:=g1.out w' hS';go_simp⟩) (fun inv=>?_)
   simp only[pU]
   refine tT 31 50 (.pointer (some ⟨g,o,none⟩)) inv rfl rfl (by decide +kernel) (hS0) (Or.inl ⟨by rfl,fun w' hS'=>by go_simp⟩) (fun inv=>?_)
   simp only[pU]
   refine tT 32 51 (.pointer (some ⟨A,3,none⟩)) inv rfl rfl (by decide +kernel) (hS0) (Or.inl ⟨by rfl,fun w' hS'=>by go_simp⟩) (fun inv=>?_)
   simp only[pU]
   refine tT 33 52 (.int .u32 (x3:Nat)) inv rfl rfl (by decide +kernel) (hS0) (Or.inl ⟨by rfl,fun w' hS'=>by have q:=g3.out w' hS';go_simp⟩) (fun inv=>?_)
   simp only[pU]
   refine tT 34 53 (.pointer (some ⟨A,0,none⟩)) inv rfl rfl (by decide +kernel) (hS0) (Or.inl ⟨by rfl,fun w' hS'=>by go_simp⟩) (fun inv=>?_)
   simp only[pU]
   refine tT 35 54 (.int .u32 (x0:Nat)) inv rfl rfl (by decide +kernel) (hS0) (Or.inl ⟨by rfl,fun w' hS'=>by have q:=g0.out w' hS';go_simp⟩) (fun inv=>?_)
   simp only[pU]
   refine tT 36 55 (.pointer (some ⟨A,1,none⟩)) inv rfl rfl (by decide +kernel) (hS0) (Or.inl ⟨by rfl,fun w' hS'=>by go_simp⟩) (fun inv=>?_)
   simp only[pU]
   refine tT 37 56 (.int .u32 (x1:Nat)) inv rfl rfl (by decide +kernel) (hS0) (Or.inl ⟨by rfl,fun w' hS'=>by have q:=g1.out w' hS';go_simp⟩) (fun inv=>?_)
   simp only[pU]
   refine tT 38 57 (.pointer (some ⟨A,2,none⟩)) inv rfl rfl (by decide +kernel) (hS0) (Or.inl ⟨by rfl,fun w' hS'=>by go_simp⟩) (fun inv=>?_)
   simp only[pU]
   refine tT 39 58 (.int .u32 (x2:Nat)) inv rfl rfl (by decide +kernel) (hS0) (Or.inl ⟨by rfl,fun w' hS'=>by have q:=g2.out w' hS';go_simp⟩) (fun inv=>?_)
   simp only[pU]
   refine tT 42 61 (.int .i64 (r:Nat)) inv rfl rfl (by decide +kernel) (hS0) (Or.inl ⟨by rfl,fun w' hS'=>by go_simp⟩) (fun inv=>?_)
   simp only[pU]
   refine Zo (i:=10) inv (by kernel_rfl) (by decide) rfl (fun K hK=>?_)
   go_simp
   refine (k0.out _ hS0).mono ?_
   rintro e1 u0 ⟨rfl,hu0⟩
   go_wp2_with fail
   refine hK.out _ _ hu0 (fun inv'=>?_)
   clear hK K inv;have inv:=inv';clear inv'
   try simp only[pU]
   refine Zo (i:=20) inv (by kernel_rfl) (by decide) rfl (fun K hK=>?_)
   go_simp
   refine (k1.out _ hu0).mono ?_
   rintro e1 u1 ⟨rfl,hu1⟩
   go_wp2_with fail
   refine hK.out _ _ hu1 (fun inv'=>?_)
   clear hK K inv;have inv:=inv';clear inv'
   try simp only[pU]
   refine Zo (i:=30) inv (by kernel_rfl) (by decide) rfl (fun K hK=>?_)
   go_simp
   refine (k2.out _ hu1).mono ?_
   rintro e1 u2 ⟨rfl,hu2⟩
   go_wp2_with fail
   refine hK.out _ _ hu2 (fun inv'=>?_)
   clear hK K inv;have inv:=inv';clear inv'
   try simp only[pU]
   refine Zo (i:=40) inv (by kernel_rfl) (by decide) rfl (fun K hK=>?_)
   go_simp
   refine (k3.out _ hu2).mono ?_
   rintro e1 u3 ⟨rfl,hu3⟩
   go_wp2_with fail
   refine hK.out _ _ hu3 (fun inv'=>?_)
   clear hK K inv;have inv:=inv';clear inv'
   try simp only[pU]
   refine tT 41 60 (.agg #[.int .u32 (m0:Nat),.int .u32 (m1:Nat),.int .u32 (m2:Nat),.int .u32 (m3:Nat)]) inv rfl rfl (by decide +kernel) (hu3) (Yx (by rfl) 177 #[(0,.tmp 29),(1,.tmp 39),(2,.tmp 49),(3,.tmp 59)] rfl _ (by simp only[List.map_toArray,List.map_cons,List.map_nil];kernel_rfl)) (fun inv=>?_)
   simp only[pU]
   refine Zn (i:=43) (by kernel_rfl) (by decide) rfl (fun K hK=>?_)
   go_simp
   refine (ka.out _ hu3).mono ?_
   rintro e1 u4 ⟨rfl,hu4⟩
   go_wp2_with fail
   refine hK.out _ _ ?_
   clear hK K
   try simp only[pU]
   refine Zn (i:=44) (by kernel_rfl) (by decide) rfl (fun K hK=>?_)
   rw[if_pos (by rfl)]
   refine wp_store_mid 177 (.tmp 5) (.tmp 62) rfl A 0 #[.int .u32 (n0:Nat),.int .u32 (n1:Nat),.int .u32 (n2:Nat),.int .u32 (n3:Nat)] rfl rfl (Zh HW.out.2.2.2 hu4 (Nat.lt_succ_self A)) (Kn) (by kernel_rfl) ?_
   refine hK.out _ _ ?_
   clear hK K
   try simp only[pU]
   refine Xj (by kernel_rfl) ?_ _
   refine NoPanic.normal ?_
   have HN2:Hid (Below A w2 (u4.setCells A 0 [.int .u32 (n0:Nat),.int .u32 (n1:Nat),.int .u32 (n2:Nat),.int .u32 (n3:Nat)])∧A<(u4.setCells A 0 [.int .u32 (n0:Nat),.int .u32 (n1:Nat),.int .u32 (n2:Nat),.int .u32 (n3:Nat)]).heap.size∧(u4.setCells A 0 [.int .u32 (n0:Nat),.int .u32 (n1:Nat),.int .u32 (n2:Nat),.int .u32 (n3:Nat)]).rangeAt A 0 [.int .u32 (n0:Nat),.int .u32 (n1:Nat),.int .u32 (n2:Nat),.int .u32 (n3:Nat)]∧(u4.setCells A 0 [.int .u32 (n0:Nat),.int .u32 (n1:Nat),.int .u32 (n2:Nat),.int .u32 (n3:Nat)]).there A 0 4):=by
    obtain ⟨p1,p2,p3,p4⟩:=HW.out
    have ht4:=Zh p4 hu4 (Nat.lt_succ_self A)
    refine ⟨below_setCells A (Nat.le_refl _) _ _ _ (p1.trans (hu4.mono (Nat.le_succ A))),?_,World.rangeAt_setCells_same _ _ _ _ ht4,World.there_setCells ht4 _ _ _⟩
    rw[size_setCells]
    exact Nat.lt_of_lt_of_le p2 hu4.size
   generalize u4.setCells A 0 [.int .u32 (n0:Nat),.int .u32 (n1:Nat),.int .u32 (n2:Nat),.int .u32 (n3:Nat)]=w5 at HN2 ⊢
   clear hu0 hu1 hu2 hu3 hu4 hS0 k0 k1 k2 k3 ka g0 g1 g2 g3
   go_wp2
   refine ⟨⟨r+1,n0,n1,n2,n3,by omega,by omega,rfl,?_,HNok.out,HN2.out⟩,?_⟩
   ·show _=_
    obtain ⟨q,rfl⟩:∃ q,r=q+1:=⟨r-1,by omega⟩
    rw[HN.out,HM.out,HX.out]
    exact rfl
   ·simp only[intOf];omega
  ·obtain rfl:r=nr:=by omega
   clear hlt
   obtain ⟨⟨m0,m1,m2,m3⟩,HM⟩:∃ m,Hid (m=Ws ⟨x0,x1,x2,x3⟩):=⟨_,rfl⟩
   obtain ⟨⟨n0,n1,n2,n3⟩,HN⟩:∃ m,Hid (m=Jw K r ⟨m0,m1,m2,m3⟩):=⟨_,rfl⟩
   have HMok:Hid (W4.ok ⟨m0,m1,m2,m3⟩):=by show W4.ok _;rw[HM.out];exact T3 _
   have hgA1:g<A+1:=Nat.lt_succ_of_lt HgA.out
   have k0:Hid (∀ u,Below (A+1) wr u→Calls Tryz.prog 90 #[.pointer (some ⟨g,o,none⟩),.int .u32 (x0:Nat),.int .u32 (x1:Nat),.int .u32 (x2:Nat),.int .u32 (x3:Nat)] u fun e u'=>e=.returned (.int .u32 (m0:Nat))∧Below (A+1) wr u'):=Dq HCr.out hgA1 x0 x1 x2 x3 m0 (congrArg W4.a HM.out)
   have k1:Hid (∀ u,Below (A+1) wr u→Calls Tryz.prog 90 #[.pointer (some ⟨g,o,none⟩),.int .u32 (x1:Nat),.int .u32 (x2:Nat),.int .u32 (x3:Nat),.int .u32 (x0:Nat)] u fun e u'=>e=.returned (.int .u32 (m1:Nat))∧Below (A+1) wr u'):=Dq HCr.out hgA1 x1 x2 x3 x0 m1 (congrArg W4.b HM.out)
   have k2:Hid (∀ u,Below (A+1) wr u→Calls Tryz.prog 90 #[.pointer (some ⟨g,o,none⟩),.int .u32 (x2:Nat),.int .u32 (x3:Nat),.int .u32 (x0:Nat),.int .u32 (x1:Nat)] u fun e u'=>e=.returned (.int .u32 (m2:Nat))∧Below (A+1) wr u'):=Dq HCr.out hgA1 x2 x3 x0 x1 m2 (congrArg W4.c HM.out)
   have k3:Hid (∀ u,Below (A+1) wr u→Calls Tryz.prog 90 #[.pointer (some ⟨g,o,none⟩),.int .u32 (x3:Nat),.int .u32 (x0:Nat),.int .u32 (x1:Nat),.int .u32 (x2:Nat)] u fun e u'=>e=.returned (.int .u32 (m3:Nat))∧Below (A+1) wr u'):=Dq HCr.out hgA1 x3 x0 x1 x2 m3 (congrArg W4.d HM.out)
   have ka:Hid (∀ u,Below (A+1) wr u→Calls Tryz.prog 86 #[.pointer (some ⟨g,o,none⟩),.agg #[.int .u32 (m0:Nat),.int .u32 (m1:Nat),.int .u32 (m2:Nat),.int .u32 (m3:Nat)],.int .i64 (r:Nat)] u fun e u'=>e=.returned (.agg #[.int .u32 (n0:Nat),.int .u32 (n1:Nat),.int .u32 (n2:Nat),.int .u32 (n3:Nat)])∧Below (A+1) wr u'):=Bj HCr.out hgA1 HW.out.2.1 r (Nat.le_refl r) ⟨m0,m1,m2,m3⟩ ⟨n0,n1,n2,n3⟩ HMok.out HN.out
   have kt:Hid (∀ u,Calls Tryz.prog 89 #[.agg #[.int .u32 (n0:Nat),.int .u32 (n1:Nat),.int .u32 (n2:Nat),.int .u32 (n3:Nat)]] u fun e u'=>e=.returned (.agg #[.int .u8 (bt0 n0:Nat),.int .u8 (bt1 n0:Nat),.int .u8 (bt2 n0:Nat),.int .u8 (bt3 n0:Nat),.int .u8 (bt0 n1:Nat),.int .u8 (bt1 n1:Nat),.int .u8 (bt2 n1:Nat),.int .u8 (bt3 n1:Nat),.int .u8 (bt0 n2:Nat),.int .u8 (bt1 n2:Nat),.int .u8 (bt2 n2:Nat),.int .u8 (bt3 n2:Nat),.int .u8 (bt0 n3:Nat),.int .u8 (bt1 n3:Nat),.int .u8 (bt2 n3:Nat),.int .u8 (bt3 n3:Nat)])∧Below u.heap.size u u'):=Zb4 ⟨n0,n1,n2,n3⟩
   have gr:Hid (∀ u,Below (A+1) wr u→u.cell? ⟨g,o,none⟩=some (.int .i64 (r:Nat))):=fun u hu=>(hu.cell hgA1).trans HCr.out.rounds
   have g0:Hid (∀ u,Below (A+1) wr u→u.cell? ⟨A,0,none⟩=some (.int .u32 (x0:Nat))):=fun u hu=>(hu.cell (Nat.lt_succ_self A)).trans (Y0 HW.out.2.2.1).1
   have g1:Hid (∀ u,Below (A+1) wr u→u.cell? ⟨A,1,none⟩=some (.int .u32 (x1:Nat))):=fun u hu=>(hu.cell (Nat.lt_succ_self A)).trans (Y0 HW.out.2.2.1).2.1
   have g2:Hid (∀ u,Below (A+1) wr u→u.cell? ⟨A,2,none⟩=some (.int .u32 (x2:Nat))):=fun u hu=>(hu.cell (Nat.lt_succ_self A)).trans (Y0 HW.out.2.2.1).2.2.1
   have g3:Hid (∀ u,Below (A+1) wr u→u.cell? ⟨A,3,none⟩=some (.int .u32 (x3:Nat))):=fun u hu=>(hu.cell (Nat.lt_succ_self A)).trans (Y0 HW.out.2.2.1).2.2.2
   clear hgA1
   go_wp2
   have hS0:Below (A+1) wr wr.drew:=(Below.refl _ _).drew
   refine wp_region_noPanic ?_
   refine Z3 (fun u=>Below (A+1) wr u) 46 (by kernel_rfl) (by decide) (by kernel_rfl) (by kernel_rfl) (by kernel_rfl) (fun inv=>?_)
   refine tT 0 63 (.pointer (some ⟨g,o,none⟩)) inv rfl rfl (by decide +kernel) (hS0) (Or.inl ⟨by rfl,fun w' hS'=>by go_simp⟩) (fun inv=>?_)
   simp only[pU]
   refine tT 1 64 (.pointer (some ⟨g,o,none⟩)) inv rfl rfl (by decide +kernel) (hS0) (Or.inl ⟨by rfl,fun w' hS'=>by go_simp⟩) (fun inv=>?_)
   simp only[pU]
   refine tT 2 65 (.pointer (some ⟨A,0,none⟩)) inv rfl rfl (by decide +kernel) (hS0) (Or.inl ⟨by rfl,fun w' hS'=>by go_simp⟩) (fun inv=>?_)
   simp only[pU]
   refine tT 3 66 (.int .u32 (x0:Nat)) inv rfl rfl (by decide +kernel) (hS0) (Or.inl ⟨by rfl,fun w' hS'=>by have q:=g0.out w' hS';go_simp⟩) (fun inv=>?_)
   simp only[pU]
   refine tT 4 67 (.pointer (some ⟨A,1,none⟩)) inv rfl rfl (by decide +kernel) (hS0) (Or.inl ⟨by rfl,fun w' hS'=>by go_simp⟩) (fun inv=>?_)
   simp only[pU]
   refine tT 5 68 (.int .u32 (x1:Nat)) inv rfl rfl (by decide +kernel) (hS0) (Or.inl ⟨by rfl,fun w' hS'=>by have q:=g1.out w' hS';go_simp⟩) (fun inv=>?_)
   simp only[pU]
   refine tT 6 69 (.pointer (some ⟨A,2,none⟩)) inv rfl rfl (by decide +kernel) (hS0) (Or.inl ⟨by rfl,fun w' hS'=>by go_simp⟩) (fun inv=>?_)
   simp only[pU]
   refine tT 7 70 (.int .u32 (x2:Nat)) inv rfl rfl (by decide +kernel) (hS0) (Or.inl ⟨by rfl,fun w' hS'=>by have q:=g2.out w' hS';go_simp⟩) (fun inv=>?_)
   simp only[pU]
   refine tT 8 71 (.pointer (some ⟨A,3,none⟩)) inv rfl rfl (by decide +kernel) (hS0) (Or.inl ⟨by rfl,fun w' hS'=>by go_simp⟩) (fun inv=>?_)
   simp only[pU]
   refine tT 9 72 (.int .u32 (x3:Nat)) inv rfl rfl (by decide +kernel) (hS0) (Or.inl ⟨by rfl,fun w' hS'=>by have q:=g3.out w' hS';go_simp⟩) (fun inv=>?_)
   simp only[pU]
   refine tT 11 74 (.pointer (some ⟨g,o,none⟩)) inv rfl rfl (by decide +kernel) (hS0) (Or.inl ⟨by rfl,fun w' hS'=>by go_simp⟩) (fun inv=>?_)
   simp only[pU]
   refine tT 12 75 (.pointer (some ⟨A,1,none⟩)) inv rfl rfl (by decide +kernel) (hS0) (Or.inl ⟨by rfl,fun w' hS'=>by go_simp⟩) (fun inv=>?_)
   simp only[pU]
   refine tT 13 76 (.int .u32 (x1:Nat)) inv rfl rfl (by decide +kernel) (hS0) (Or.inl ⟨by rfl,fun w' hS'=>by have q:=g1.out w' hS';go_simp⟩) (fun inv=>?_)
   simp only[pU]
   refine tT 14 77 (.pointer (some ⟨A,2,none⟩)) inv rfl rfl (by decide +kernel) (hS0) (Or.inl ⟨by rfl,fun w' hS'=>by go_simp⟩) (fun inv=>?_)
   simp only[pU]
   refine tT 15 78 (.int .u32 (x2:Nat)) inv rfl rfl (by decide +kernel) (hS0) (Or.inl ⟨by rfl,fun w' hS'=>by have q:=g2.out w' hS';go_simp⟩) (fun inv=>?_)
   simp only[pU]
   refine tT 16 79 (.pointer (some ⟨A,3,none⟩)) inv rfl rfl (by decide +kernel) (hS0) (Or.inl ⟨by rfl,fun w' hS'=>by go_simp⟩) (fun inv=>?_)
   simp only[pU]
   refine tT 17 80 (.int .u32 (x3:Nat)) inv rfl rfl (by decide +kernel) (hS0) (Or.inl ⟨by rfl,fun w' hS'=>by have q:=g3.out w' hS';go_simp⟩) (fun inv=>?_)
   simp only[pU]
   refine tT 18 81 (.pointer (some ⟨A,0,none⟩)) inv rfl rfl (by decide +kernel) (hS0) (Or.inl ⟨by rfl,fun w' hS'=>by go_simp⟩) (fun inv=>?_)
   simp only[pU]
   refine tT 19 82 (.int .u32 (x0:Nat)) inv rfl rfl (by decide +kernel) (hS0) (Or.inl ⟨by rfl,fun w' hS'=>by have q:=g0.out w' hS';go_simp⟩) (fun inv=>?_)
   simp only[pU]
   refine tT 21 84 (.pointer (some ⟨g,o,none⟩)) inv rfl rfl (by decide +kernel) (hS0) (Or.inl ⟨by rfl,fun w' hS'=>by go_simp⟩) (fun inv=>?_)
   simp only[pU]
   refine tT 22 85 (.pointer (some ⟨A,2,none⟩)) inv rfl rfl (by decide +kernel) (hS0) (Or.inl ⟨by rfl,fun w' hS'=>by go_simp⟩) (fun inv=>?_)
   simp only[pU]
   refine tT 23 86 (.int .u32 (x2:Nat)) inv rfl rfl (by decide +kernel) (hS0) (Or.inl ⟨by rfl,fun w' hS'=>by have q:=g2.out w' hS';go_simp⟩) (fun inv=>?_)
   simp only[pU]
   refine tT 24 87 (.pointer (some ⟨A,3,none⟩)) inv rfl rfl (by decide +kernel) (hS0) (Or.inl ⟨by rfl,fun w' hS'=>by go_simp⟩) (fun inv=>?_)
   simp only[pU]
   refine tT 25 88 (.int .u32 (x3:Nat)) inv rfl rfl (by decide +kernel) (hS0) (Or.inl ⟨by rfl,fun w' hS'=>by have q:=g3.out w' hS';go_simp⟩) (fun inv=>?_)
   simp only[pU]
   refine tT 26 89 (.pointer (some ⟨A,0,none⟩)) inv rfl rfl (by decide +kernel) (hS0) (Or.inl ⟨by rfl,fun w' hS'=>by go_simp⟩) (fun inv=>?_)
   simp only[pU]
   refine tT 27 90 (.int .u32 (x0:Nat)) inv rfl rfl (by decide +kernel) (hS0) (Or.inl ⟨by rfl,fun w' hS'=>by have q:=g0.out w' hS';go_simp⟩) (fun inv=>?_)
   simp only[pU]
   refine tT 28 91 (.pointer (some ⟨A,1,none⟩)) inv rfl rfl (by decide +kernel) (hS0) (Or.inl ⟨by rfl,fun w' hS'=>by go_simp⟩) (fun inv=>?_)
   simp only[pU]
   refine tT 29 92 (.int .u32 (x1:Nat)) inv rfl rfl (by decide +kernel) (hS0) (Or.inl ⟨by rfl,fun w' hS'=>by have q:=g1.out w' hS';go_simp⟩) (fun inv=>?_)
   simp only[pU]
   refine tT 31 94 (.pointer (some ⟨g,o,none⟩)) inv rfl rfl (by decide +kernel) (hS0) (Or.inl ⟨by rfl,fun w' hS'=>by go_simp⟩) (fun inv=>?_)
   simp only[pU]
   refine tT 32 95 (.pointer (some ⟨A,3,none⟩)) inv rfl rfl (by decide +kernel) (hS0) (Or.inl ⟨by rfl,fun w' hS'=>by go_simp⟩) (fun inv=>?_)
   simp only[pU]
   refine tT 33 96 (.int .u32 (x3:Nat)) inv rfl rfl (by decide +kernel) (hS0) (Or.inl ⟨by rfl,fun w' hS'=>by have q:=g3.out w' hS';go_simp⟩) (fun inv=>?_)
   simp only[pU]
   refine tT 34 97 (.pointer (some ⟨A,0,none⟩)) inv rfl rfl (by decide +kernel) (hS0) (Or.inl ⟨by rfl,fun w' hS'=>by go_simp⟩) (fun inv=>?_)
   simp only[pU]
   refine tT 35 98 (.int .u32 (x0:Nat)) inv rfl rfl (by decide +kernel) (hS0) (Or.inl ⟨by rfl,fun w' hS'=>by have q:=g0.out w' hS';go_simp⟩) (fun inv=>?_)
   simp only[pU]
   refine tT 36 99 (.pointer (some ⟨A,1,none⟩)) inv rfl rfl (by decide +kernel) (hS0) (Or.inl ⟨by rfl,fun w' hS'=>by go_simp⟩) (fun inv=>?_)
   simp only[pU]
   refine tT 37 100 (.int .u32 (x1:Nat)) inv rfl rfl (by decide +kernel) (hS0) (Or.inl ⟨by rfl,fun w' hS'=>by have q:=g1.out w' hS';go_simp⟩) (fun inv=>?_)
   simp only[pU]
   refine tT 38 101 (.pointer (some ⟨A,2,none⟩)) inv rfl rfl (by decide +kernel) (hS0) (Or.inl ⟨by rfl,fun w' hS'=>by go_simp⟩) (fun inv=>?_)
   simp only[pU]
   refine tT 39 102 (.int .u32 (x2:Nat)) inv rfl rfl (by decide +kernel) (hS0) (Or.inl ⟨by rfl,fun w' hS'=>by have q:=g2.out w' hS';go_simp⟩) (fun inv=>?_)
   simp only[pU]
   refine tT 42 105 (.pointer (some ⟨g,o,none⟩)) inv rfl rfl (by decide +kernel) (hS0) (Or.inl ⟨by rfl,fun w' hS'=>by go_simp⟩) (fun inv=>?_)
   simp only[pU]
   refine tT 43 106 (.pointer (some ⟨g,o,none⟩)) inv rfl rfl (by decide +kernel) (hS0) (Or.inl ⟨by rfl,fun w' hS'=>by go_simp⟩) (fun inv=>?_)
   simp only[pU]
   refine tT 44 107 (.pointer (some ⟨g,o,none⟩)) inv rfl rfl (by decide +kernel) (hS0) (Or.inl ⟨by rfl,fun w' hS'=>by go_simp⟩) (fun inv=>?_)
   simp only[pU]
   refine tT 45 108 (.int .i64 (r:Nat)) inv rfl rfl (by decide +kernel) (hS0) (Or.inl ⟨by rfl,fun w' hS'=>by have q:=gr.out w' hS';go_simp⟩) (fun inv=>?_)
   simp only[pU]
   refine Zo (i:=10) inv (by kernel_rfl) (by decide) rfl (fun K hK=>?_)
   go_simp
   refine (k0.out _ hS0).mono ?_
   rintro e1 u0 ⟨rfl,hu0⟩
   go_wp2_with fail
   refine hK.out _ _ hu0 (fun inv'=>?_)
   clear hK K inv;have inv:=inv';clear inv'
   try simp only[pU]
   refine Zo (i:=20) inv (by kernel_rfl) (by decide) rfl (fun K hK=>?_)
   go_simp
   refine (k1.out _ hu0).mono ?_
   rintro e1 u1 ⟨rfl,hu1⟩
   go_wp2_with fail
   refine hK.out _ _ hu1 (fun inv'=>?_)
   clear hK K inv;have inv:=inv';clear inv'
   try simp only[pU]
   refine Zo (i:=30) inv (by kernel_rfl) (by decide) rfl (fun K hK=>?_)
   go_simp
   refine (k2.out _ hu1).mono ?_
   rintro e1 u2 ⟨rfl,hu2⟩
   go_wp2_with fail
   refine hK.out _ _ hu2 (fun inv'=>?_)
   clear hK K inv;have inv:=inv';clear inv'
   try simp only[pU]
   refine Zo (i:=40) inv (by kernel_rfl) (by decide) rfl (fun K hK=>?_)
   go_simp
   refine (k3.out _ hu2).mono ?_
   rintro e1 u3 ⟨rfl,hu3⟩
   go_wp2_with fail
   refine hK.out _ _ hu3 (fun inv'=>?_)
   clear hK K inv;have inv:=inv';clear inv'
   try simp only[pU]
   refine tT 41 104 (.agg #[.int .u32 (m0:Nat),.int .u32 (m1:Nat),.int .u32 (m2:Nat),.int .u32 (m3:Nat)]) inv rfl rfl (by decide +kernel) (hu3) (Yx (by rfl) 177 #[(0,.tmp 73),(1,.tmp 83),(2,.tmp 93),(3,.tmp 103)] rfl _ (by simp only[List.map_toArray,List.map_cons,List.map_nil];kernel_rfl)) (fun inv=>?_)
   simp only[pU]
   refine Zn (i:=46) (by kernel_rfl) (by decide) rfl (fun K hK=>?_)
   go_simp
   refine (ka.out _ hu3).mono ?_
   rintro e1 u4 ⟨rfl,hu4⟩
   go_wp2_with fail
   refine hK.out _ _ ?_
   clear hK K
   try simp only[pU]
   refine Zn (i:=47) (by kernel_rfl) (by decide) rfl (fun K hK=>?_)
   go_simp
   refine (kt.out _).mono ?_
   rintro e1 u5 ⟨rfl,hu5⟩
   go_wp2_with fail
   refine hK.out _ _ ?_
   clear hK K
   try simp only[pU]
   have HT5:Hid (u5.there (w.heap.size+1) 0 16∧Below w.heap.size w u5):=by
    obtain ⟨p1,p2,p3,p4⟩:=HW.out
    obtain ⟨q1,q2,q3⟩:=H2.out
    have hA:=HAw.out
    have hs4:=hu4.size
    have e1:=Zh q3 p1 (by omega)
    have e2:=Zh e1 hu4 (by omega)
    exact ⟨Zh e2 hu5 (by omega),((q1.trans (p1.mono (by omega))).trans (hu4.mono (by omega))).trans (hu5.mono (by omega))⟩
   refine Zn (i:=48) (by kernel_rfl) (by decide) rfl (fun K hK=>?_)
   rw[if_pos (by rfl)]
   refine wp_store_mid 27 (.tmp 4) (.tmp 110) rfl (w.heap.size+1) 0 #[.int .u8 (bt0 n0:Nat),.int .u8 (bt1 n0:Nat),.int .u8 (bt2 n0:Nat),.int .u8 (bt3 n0:Nat),.int .u8 (bt0 n1:Nat),.int .u8 (bt1 n1:Nat),.int .u8 (bt2 n1:Nat),.int .u8 (bt3 n1:Nat),.int .u8 (bt0 n2:Nat),.int .u8 (bt1 n2:Nat),.int .u8 (bt2 n2:Nat),.int .u8 (bt3 n2:Nat),.int .u8 (bt0 n3:Nat),.int .u8 (bt1 n3:Nat),.int .u8 (bt2 n3:Nat),.int .u8 (bt3 n3:Nat)] rfl rfl (HT5.out.1) (Qz) (by kernel_rfl) ?_
   refine hK.out _ _ ?_
   clear hK K
   try simp only[pU]
   refine Xj (by kernel_rfl) ?_ _
   refine NoPanic.normal ?_
   have HR:Hid ((u5.setCells (w.heap.size+1) 0 [.int .u8 (bt0 n0:Nat),.int .u8 (bt1 n0:Nat),.int .u8 (bt2 n0:Nat),.int .u8 (bt3 n0:Nat),.int .u8 (bt0 n1:Nat),.int .u8 (bt1 n1:Nat),.int .u8 (bt2 n1:Nat),.int .u8 (bt3 n1:Nat),.int .u8 (bt0 n2:Nat),.int .u8 (bt1 n2:Nat),.int .u8 (bt2 n2:Nat),.int .u8 (bt3 n2:Nat),.int .u8 (bt0 n3:Nat),.int .u8 (bt1 n3:Nat),.int .u8 (bt2 n3:Nat),.int .u8 (bt3 n3:Nat)]).rangeAt (w.heap.size+1) 0 [.int .u8 (bt0 n0:Nat),.int .u8 (bt1 n0:Nat),.int .u8 (bt2 n0:Nat),.int .u8 (bt3 n0:Nat),.int .u8 (bt0 n1:Nat),.int .u8 (bt1 n1:Nat),.int .u8 (bt2 n1:Nat),.int .u8 (bt3 n1:Nat),.int .u8 (bt0 n2:Nat),.int .u8 (bt1 n2:Nat),.int .u8 (bt2 n2:Nat),.int .u8 (bt3 n2:Nat),.int .u8 (bt0 n3:Nat),.int .u8 (bt1 n3:Nat),.int .u8 (bt2 n3:Nat),.int .u8 (bt3 n3:Nat)]∧Below w.heap.size w (u5.setCells (w.heap.size+1) 0 [.int .u8 (bt0 n0:Nat),.int .u8 (bt1 n0:Nat),.int .u8 (bt2 n0:Nat),.int .u8 (bt3 n0:Nat),.int .u8 (bt0 n1:Nat),.int .u8 (bt1 n1:Nat),.int .u8 (bt2 n1:Nat),.int .u8 (bt3 n1:Nat),.int .u8 (bt0 n2:Nat),.int .u8 (bt1 n2:Nat),.int .u8 (bt2 n2:Nat),.int .u8 (bt3 n2:Nat),.int .u8 (bt0 n3:Nat),.int .u8 (bt1 n3:Nat),.int .u8 (bt2 n3:Nat),.int .u8 (bt3 n3:Nat)])):=
    ⟨World.rangeAt_setCells_same _ _ _ _ HT5.out.1,below_setCells _ (Nat.le_succ _) _ _ _ HT5.out.2⟩
   generalize u5.setCells (w.heap.size+1) 0 [.int .u8 (bt0 n0:Nat),.int .u8 (bt1 n0:Nat),.int .u8 (bt2 n0:Nat),.int .u8 (bt3 n0:Nat),.int .u8 (bt0 n1:Nat),.int .u8 (bt1 n1:Nat),.int .u8 (bt2 n1:Nat),.int .u8 (bt3 n1:Nat),.int .u8 (bt0 n2:Nat),.int .u8 (bt1 n2:Nat),.int .u8 (bt2 n2:Nat),.int .u8 (bt3 n2:Nat),.int .u8 (bt0 n3:Nat),.int .u8 (bt1 n3:Nat),.int .u8 (bt2 n3:Nat),.int .u8 (bt3 n3:Nat)]=w6 at HR ⊢
   have HE:Hid ((⟨n0,n1,n2,n3⟩:W4)=N2 r K s):=by
    show _=_
    rw[HN.out,HM.out,HX.out,HT.out]
    exact rfl
   clear hu0 hu1 hu2 hu3 hu4 hu5 hS0 k0 k1 k2 k3 ka kt gr g0 g1 g2 g3
   go_wp2
   refine Yl [.int .u8 (bt0 n0:Nat),.int .u8 (bt1 n0:Nat),.int .u8 (bt2 n0:Nat),.int .u8 (bt3 n0:Nat),.int .u8 (bt0 n1:Nat),.int .u8 (bt1 n1:Nat),.int .u8 (bt2 n1:Nat),.int .u8 (bt3 n1:Nat),.int .u8 (bt0 n2:Nat),.int .u8 (bt1 n2:Nat),.int .u8 (bt2 n2:Nat),.int .u8 (bt3 n2:Nat),.int .u8 (bt0 n3:Nat),.int .u8 (bt1 n3:Nat),.int .u8 (bt2 n3:Nat),.int .u8 (bt3 n3:Nat)] Tryz.results55 rfl HR.out.1 Tryz.underlying27 rfl Qz ⟨?_,HR.out.2⟩
   rw[←HE.out]
   exact rfl
end Go.Proofs.YtehlppaidgkpaaaGreatDoor
