import Derived.Test.YtehlppaidgkpaaaGreatDoorRfb
import Derived.Test.YtehlppaidgkpaaaGreatDoorPart34
namespace Go.Proofs.YtehlppaidgkpaaaGreatDoor
open Go.RowKit
set_option linter.unusedVariables false
set_option linter.unusedSimpArgs false
def Cb (w:World) (c:Nat):Prop:=∃ cs:Array Value,w.heap[c]?=some (.cells cs 108 (0,0))∧cs.size=42
theorem Cb.lt {w:World} {c:Nat} (h:Cb w c):c<w.heap.size:=by obtain ⟨cs,h,_⟩:=h;exact (Array.getElem?_eq_some_iff.1 h).1
theorem Cb.cell {w:World} {c:Nat} (h:Cb w c) (o:Nat) (ho:o<42):∃ u,w.cell? ⟨c,o,none⟩=some u:=by
 obtain ⟨cs,h,hs⟩:=h
 refine ⟨cs[o]'(by omega),?_⟩
 simp [World.cell?,h,hs,ho]
theorem Cb.frozen {w:World} {c:Nat} (h:Cb w c) (o:Nat):w.frozen? ⟨c,o,none⟩=false:=by
 obtain ⟨cs,h,hs⟩:=h
 simp [World.frozen?,h]
theorem Cb.there {w:World} {c:Nat} (h:Cb w c) (o n:Nat) (ho:o+n≤42):w.there c o n:=fun j hj=>by
 obtain ⟨u,hu⟩:=h.cell (o+j) (by omega)
 exact ⟨by rw[hu];rfl,h.frozen _⟩
theorem Cb.keep {w w':World} {c:Nat} (h:Cb w c) (e:w'.heap[c]?=w.heap[c]?):Cb w' c:=by
 obtain ⟨cs,h,hs⟩:=h
 exact ⟨cs,by rw[e];exact h,hs⟩
theorem Cb.below {w w':World} {c:Nat} (h:Cb w c) (b:Below w.heap.size w w'):Cb w' c:=h.keep (b.block c h.lt)
theorem Cb.sets {w:World} {c:Nat} (h:Cb w c) (o:Nat) (vs:List Value):Cb (w.setCells c o vs) c:=by
 obtain ⟨cs,h,hs⟩:=h
 obtain ⟨r,h1,h2,_⟩:=Q6 c 108 vs o w cs h
 exact ⟨r,h1,by rw[h2];exact hs⟩
structure Rn (w0 w:World) (m c:Nat) (row:List Value):Prop where
 row:Bx w m 59 row
 cb:Cb w c
 bel:Below w0.heap.size w0 w
 le:w0.heap.size≤c
 ne:m≠c
theorem Rn.below {w0 w w':World} {m c:Nat} {row:List Value} (h:Rn w0 w m c row) (b:Below w.heap.size w w'):Rn w0 w' m c row:=⟨h.row.below b,h.cb.below b,h.bel.trans (b.mono h.bel.size),h.le,h.ne⟩
theorem Rn.sets {w0 w:World} {m c:Nat} {row:List Value} (h:Rn w0 w m c row) (o:Nat) (vs:List Value):Rn w0 (w.setCells c o vs) m c row:=
 ⟨h.row.keep ((Z5 c vs o w).block m h.row.lt (by intro e;injection e with e;exact h.ne e)),h.cb.sets o vs,h.bel.trans (Zm (Z5 c vs o w) h.bel.size h.le),h.le,h.ne⟩
theorem Rn.set {w0 w:World} {m c:Nat} {row:List Value} (h:Rn w0 w m c row) (o:Nat) (v:Value):Rn w0 (w.setCell ⟨c,o,none⟩ v) m c row:=by
 have q:=h.sets o [v]
 simpa [World.setCells] using q
theorem Qn (S M T:ByteArray) (a b n:Int):Tryz.prog.built 108 [(0,.agg #[.string S,.string M,.string T,.int .i64 a,.int .i64 b]),(1,.int .i64 n)]=some #[.string S,.string M,.string T,.int .i64 a,.int .i64 b,.int .i64 n,.pointer none,.pointer none,.pointer none,.int .u8 0,.int .u8 0,.int .u8 0,.int .u8 0,.int .u8 0,.int .u8 0,.int .u8 0,.int .u8 0,.int .u8 0,.int .u8 0,.int .u8 0,.int .u8 0,.int .u8 0,.int .u8 0,.int .u8 0,.int .u8 0,.int .u8 0,.int .u8 0,.int .u8 0,.int .u8 0,.int .u8 0,.int .u8 0,.int .u8 0,.int .u8 0,.int .u8 0,.int .u8 0,.int .u8 0,.int .u8 0,.int .u8 0,.int .u8 0,.int .u8 0,.int .u8 0,.bool false]:=by kernel_rfl
def RnP (w:World) (e:Ending) (w':World):Prop:=∃ c,e=.returned (.tuple #[.pointer (some ⟨c,0,none⟩),.int .i64 0])∧Below w.heap.size w w'
def SkP (u:World) (e:Ending) (u':World):Prop:=∃ g,e=.returned (.pointer (some ⟨g,0,none⟩))∧Below u.heap.size u u'
def BkP (u:World) (e:Ending) (u':World):Prop:=∃ cs:List Value,e=.returned (.agg cs.toArray)∧cs.length=16∧(∀ v∈cs,v.oneCell'=true)∧Below u.heap.size u u'
set_option maxHeartbeats 1600000 in
set_option maxRecDepth 100000 in
theorem Zcg (S M T:ByteArray) (a:Int) (va:Option Addr) (n vc:Nat) (w:World) (hn:n≤1000) (h0:(M.toList==[110,117,108,108])=true)
  (HFI:Hid (Calls Tryz.prog 46 #[.string S] w fun e w'=>Hid (e=.returned (.tuple #[.agg #[.string S,.string M,.string T,.int .i64 a,.int .i64 (n:Nat)],.bool true])∧Below w.heap.size w w')))
  (hz:True) :
  Calls Tryz.prog 28 #[.string S,.slice va n vc] w fun e w'=>RnP w e w':=by
 have hbd:∀ w,(Instr.build 108 #[(0,.agg #[.string S,.string M,.string T,.int .i64 a,.int .i64 (n:Nat)]),(1,.int .i64 (n:Nat))]).run Tryz.prog w=.ok (.agg #[.string S,.string M,.string T,.int .i64 a,.int .i64 (n:Nat),.int .i64 (n:Nat),.pointer none,.pointer none,.pointer none,.int .u8 0,.int .u8 0,.int .u8 0,.int .u8 0,.int .u8 0,.int .u8 0,.int .u8 0,.int .u8 0,.int .u8 0,.int .u8 0,.int .u8 0,.int .u8 0,.int .u8 0,.int .u8 0,.int .u8 0,.int .u8 0,.int .u8 0,.int .u8 0,.int .u8 0,.int .u8 0,.int .u8 0,.int .u8 0,.int .u8 0,.int .u8 0,.int .u8 0,.int .u8 0,.int .u8 0,.int .u8 0,.int .u8 0,.int .u8 0,.int .u8 0,.int .u8 0,.bool false]) w:=fun w=>run_build w _ _ _ (Qn S M T a _ _)
 go_enter Tryz.func28,Tryz.ntmps28
 go_upto_region 2 with (go_at_call 46;refine HFI.out.mono ?_;intro e1 w1 hh;obtain ⟨rfl,hb1⟩:=hh.out;have HB1:Hid (Below w.heap.size w w1):=hb1;clear hh hb1 HFI)
 obtain ⟨w2,hw2⟩:∃ w2,w2=w1.alloc (.cells #[.string S,.string M,.string T,.int .i64 a,.int .i64 (n:Nat)] 59):=⟨_,rfl⟩
 obtain ⟨m,HM⟩:∃ m,Hid (w1.heap.size=m):=⟨_,rfl⟩
 have HB2:Hid (Bx w2 m 59 [.string S,.string M,.string T,.int .i64 a,.int .i64 (n:Nat)]∧Below w.heap.size w w2):=by
  rw[hw2,←HM.out];exact ⟨Bx.new w1 59 _,HB1.out.alloc HB1.out.size _⟩
 rw[←hw2,HM.out]
 clear hw2
 have s4:w2.cell? ⟨m,4,none⟩=some (.int .i64 (n:Nat)):=HB2.out.1.cell 4 _ rfl
 go_upto_region 8 with (first
  | (refine wpList_load_mid (by rfl) 59 (.tmp 6) (by rfl) m 0 (by rfl) [.string S,.string M,.string T,.int .i64 a,.int .i64 (n:Nat)] _ HB2.out.1.range Tryz.underlying59 rfl (by kernel_rfl) ?_))
 obtain ⟨w3,hw3⟩:∃ w3,w3=w2.alloc (.cells #[.string S,.string M,.string T,.int .i64 a,.int .i64 (n:Nat),.int .i64 (n:Nat),.pointer none,.pointer none,.pointer none,.int .u8 0,.int .u8 0,.int .u8 0,.int .u8 0,.int .u8 0,.int .u8 0,.int .u8 0,.int .u8 0,.int .u8 0,.int .u8 0,.int .u8 0,.int .u8 0,.int .u8 0,.int .u8 0,.int .u8 0,.int .u8 0,.int .u8 0,.int .u8 0,.int .u8 0,.int .u8 0,.int .u8 0,.int .u8 0,.int .u8 0,.int .u8 0,.int .u8 0,.int .u8 0,.int .u8 0,.int .u8 0,.int .u8 0,.int .u8 0,.int .u8 0,.int .u8 0,.bool false] 108):=⟨_,rfl⟩
 obtain ⟨c,HCC⟩:∃ c,Hid (w2.heap.size=c):=⟨_,rfl⟩
 have HR:Hid (Rn w w3 m c [.string S,.string M,.string T,.int .i64 a,.int .i64 (n:Nat)]):=by
  have hal:Below w2.heap.size w2 w3:=by rw[hw3];exact (Below.refl _ _).alloc (Nat.le_refl _) _
  refine ⟨HB2.out.1.below hal,⟨_,by rw[hw3,←HCC.out];exact heap_alloc_new w2 _,rfl⟩,HB2.out.2.trans (hal.mono HB2.out.2.size),by rw[←HCC.out];exact HB2.out.2.size,?_⟩
  have:=HB2.out.1.lt
  have:=HCC.out
  omega
 rw[←hw3,HCC.out]
 clear hw3 s4 hbd
 have q1:w3.cell? ⟨m,1,none⟩=some (.string M):=HR.out.row.cell 1 _ rfl
 go_wp2
 go_ret2
 exact ⟨c,rfl,HR.out.bel⟩
set_option maxHeartbeats 1600000 in
set_option maxRecDepth 100000 in
theorem Ox (S M T:ByteArray) (a:Int) (va:Option Addr) (n vc:Nat) (w:World) (hn:n≤1000) (h0:(M.toList==[110,117,108,108])=false) (h1:(M.toList==[101,108,101,112,104,97,110,116])=true) (hT:(T.toList==[101,115,115,105,118])=false)
  (HFI:Hid (Calls Tryz.prog 46 #[.string S] w fun e w'=>Hid (e=.returned (.tuple #[.agg #[.string S,.string M,.string T,.int .i64 a,.int .i64 (n:Nat)],.bool true])∧Below w.heap.size w w')))
  (h:Nat) (k1 k2:Option Addr) (c1 c2:Nat) (hh2:(n:Int)/2=(h:Int)) (hs1:∀ u,(Instr.slice 22 (.slice va n vc) none (some (.int .i64 (h:Nat))) none).run Tryz.prog u=.ok (.slice k1 h c1) u) (hs2:∀ u,(Instr.slice 22 (.slice va n vc) (some (.int .i64 (h:Nat))) none none).run Tryz.prog u=.ok (.slice k2 (n-h) c2) u)
  (HK1:Hid (∀ u,Below w.heap.size w u→Calls Tryz.prog 47 #[.slice k1 h c1] u fun e u'=>Hid (SkP u e u')))
  (HK2:Hid (∀ u,Below w.heap.size w u→Calls Tryz.prog 47 #[.slice k2 (n-h) c2] u fun e u'=>Hid (SkP u e u'))) :
  Calls Tryz.prog 28 #[.string S,.slice va n vc] w fun e w'=>RnP w e w':=by
 have hbd:∀ w,(Instr.build 108 #[(0,.agg #[.string S,.string M,.string T,.int .i64 a,.int .i64 (n:Nat)]),(1,.int .i64 (n:Nat))]).run Tryz.prog w=.ok (.agg #[.string S,.string M,.string T,.int .i64 a,.int .i64 (n:Nat),.int .i64 (n:Nat),.pointer none,.pointer none,.pointer none,.int .u8 0,.int .u8 0,.int .u8 0,.int .u8 0,.int .u8 0,.int .u8 0,.int .u8 0,.int .u8 0,.int .u8 0,.int .u8 0,.int .u8 0,.int .u8 0,.int .u8 0,.int .u8 0,.int .u8 0,.int .u8 0,.int .u8 0,.int .u8 0,.int .u8 0,.int .u8 0,.int .u8 0,.int .u8 0,.int .u8 0,.int .u8 0,.int .u8 0,.int .u8 0,.int .u8 0,.int .u8 0,.int .u8 0,.int .u8 0,.int .u8 0,.int .u8 0,.bool false]) w:=fun w=>run_build w _ _ _ (Qn S M T a _ _)
 have g0:(0:Int)≤(h:Int):=by omega
 go_enter Tryz.func28,Tryz.ntmps28
 go_upto_region 2 with (go_at_call 46;refine HFI.out.mono ?_;intro e1 w1 hh;obtain ⟨rfl,hb1⟩:=hh.out;have HB1:Hid (Below w.heap.size w w1):=hb1;clear hh hb1 HFI)
 obtain ⟨w2,hw2⟩:∃ w2,w2=w1.alloc (.cells #[.string S,.string M,.string T,.int .i64 a,.int .i64 (n:Nat)] 59):=⟨_,rfl⟩
 obtain ⟨m,HM⟩:∃ m,Hid (w1.heap.size=m):=⟨_,rfl⟩
 have HB2:Hid (Bx w2 m 59 [.string S,.string M,.string T,.int .i64 a,.int .i64 (n:Nat)]∧Below w.heap.size w w2):=by
  rw[hw2,←HM.out];exact ⟨Bx.new w1 59 _,HB1.out.alloc HB1.out.size _⟩
 rw[←hw2,HM.out]
 clear hw2
 have s4:w2.cell? ⟨m,4,none⟩=some (.int .i64 (n:Nat)):=HB2.out.1.cell 4 _ rfl
 go_upto_region 8 with (first
  | (refine wpList_load_mid (by rfl) 59 (.tmp 6) (by rfl) m 0 (by rfl) [.string S,.string M,.string T,.int .i64 a,.int .i64 (n:Nat)] _ HB2.out.1.range Tryz.underlying59 rfl (by kernel_rfl) ?_))
 obtain ⟨w3,hw3⟩:∃ w3,w3=w2.alloc (.cells #[.string S,.string M,.string T,.int .i64 a,.int .i64 (n:Nat),.int .i64 (n:Nat),.pointer none,.pointer none,.pointer none,.int .u8 0,.int .u8 0,.int .u8 0,.int .u8 0,.int .u8 0,.int .u8 0,.int .u8 0,.int .u8 0,.int .u8 0,.int .u8 0,.int .u8 0,.int .u8 0,.int .u8 0,.int .u8 0,.int .u8 0,.int .u8 0,.int .u8 0,.int .u8 0,.int .u8 0,.int .u8 0,.int .u8 0,.int .u8 0,.int .u8 0,.int .u8 0,.int .u8 0,.int .u8 0,.int .u8 0,.int .u8 0,.int .u8 0,.int .u8 0,.int .u8 0,.int .u8 0,.bool false] 108):=⟨_,rfl⟩
 obtain ⟨c,HCC⟩:∃ c,Hid (w2.heap.size=c):=⟨_,rfl⟩
 have HR:Hid (Rn w w3 m c [.string S,.string M,.string T,.int .i64 a,.int .i64 (n:Nat)]):=by
  have hal:Below w2.heap.size w2 w3:=by rw[hw3];exact (Below.refl _ _).alloc (Nat.le_refl _) _
  refine ⟨HB2.out.1.below hal,⟨_,by rw[hw3,←HCC.out];exact heap_alloc_new w2 _,rfl⟩,HB2.out.2.trans (hal.mono HB2.out.2.size),by rw[←HCC.out];exact HB2.out.2.size,?_⟩
  have:=HB2.out.1.lt
  have:=HCC.out
  omega
 rw[←hw3,HCC.out]
 clear hw3 s4 hbd
 have q1:w3.cell? ⟨m,1,none⟩=some (.string M):=HR.out.row.cell 1 _ rfl
 go_upto_region 14 with fail
 clear q1
 go_upto_region 15 with (go_at_call 47;refine (HK1.out _ HR.out.bel).mono ?_;intro e4 w4 hh;obtain ⟨g4,rfl,hb⟩:=hh.out;have HA:Hid (Rn w w4 m c [.string S,.string M,.string T,.int .i64 a,.int .i64 (n:Nat)]):=HR.out.below hb;obtain ⟨x4,hx⟩:=HA.out.cb.cell 6 (by decide);have hfz:=HA.out.cb.frozen 6;clear hh hb)
 obtain ⟨w5,hw⟩:∃ x,x=w4.setCell ⟨c,6,none⟩ (.pointer (some ⟨g4,0,none⟩)):=⟨_,rfl⟩
 have HR4:Hid (Rn w w5 m c [.string S,.string M,.string T,.int .i64 a,.int .i64 (n:Nat)]):=by rw[hw];exact HA.out.set 6 _
 rw[←hw]
 clear hw HA hx hfz HR
 go_upto_region 23 with (go_at_call 47;refine (HK2.out _ HR4.out.bel).mono ?_;intro e6 w6 hh;obtain ⟨g6,rfl,hb⟩:=hh.out;have HA:Hid (Rn w w6 m c [.string S,.string M,.string T,.int .i64 a,.int .i64 (n:Nat)]):=HR4.out.below hb;obtain ⟨x6,hx⟩:=HA.out.cb.cell 7 (by decide);have hfz:=HA.out.cb.frozen 7;clear hh hb)
 obtain ⟨w7,hw⟩:∃ x,x=w6.setCell ⟨c,7,none⟩ (.pointer (some ⟨g6,0,none⟩)):=⟨_,rfl⟩
 have HR6:Hid (Rn w w7 m c [.string S,.string M,.string T,.int .i64 a,.int .i64 (n:Nat)]):=by rw[hw];exact HA.out.set 7 _
 rw[←hw]
 clear hw HA hx hfz HR4
 have q2:w7.cell? ⟨m,2,none⟩=some (.string T):=HR6.out.row.cell 2 _ rfl
 go_wp2
 go_ret2
 exact ⟨c,rfl,HR6.out.bel⟩
set_option maxHeartbeats 1600000 in
set_option maxRecDepth 100000 in
theorem Na (S M T:ByteArray) (a:Int) (va:Option Addr) (n vc:Nat) (w:World) (hn:n≤1000) (h0:(M.toList==[110,117,108,108])=false) (h1:(M.toList==[101,108,101,112,104,97,110,116])=false) (h2:(M.toList==[120,116,115])=true) (hT:(T.toList==[101,115,115,105,118])=false)
  (HFI:Hid (Calls Tryz.prog 46 #[.string S] w fun e w'=>Hid (e=.returned (.tuple #[.agg #[.string S,.string M,.string T,.int .i64 a,.int .i64 (n:Nat)],.bool true])∧Below w.heap.size w w')))
  (h:Nat) (k1 k2:Option Addr) (c1 c2:Nat) (hh2:(n:Int)/2=(h:Int)) (hs1:∀ u,(Instr.slice 22 (.slice va n vc) none (some (.int .i64 (h:Nat))) none).run Tryz.prog u=.ok (.slice k1 h c1) u) (hs2:∀ u,(Instr.slice 22 (.slice va n vc) (some (.int .i64 (h:Nat))) none none).run Tryz.prog u=.ok (.slice k2 (n-h) c2) u)
  (HK1:Hid (∀ u,Below w.heap.size w u→Calls Tryz.prog 47 #[.slice k1 h c1] u fun e u'=>Hid (SkP u e u')))
  (HK2:Hid (∀ u,Below w.heap.size w u→Calls Tryz.prog 47 #[.slice k2 (n-h) c2] u fun e u'=>Hid (SkP u e u'))) :
  Calls Tryz.prog 28 #[.string S,.slice va n vc] w fun e w'=>RnP w e w':=by
 have hbd:∀ w,(Instr.build 108 #[(0,.agg #[.string S,.string M,.string T,.int .i64 a,.int .i64 (n:Nat)]),(1,.int .i64 (n:Nat))]).run Tryz.prog w=.ok (.agg #[.string S,.string M,.string T,.int .i64 a,.int .i64 (n:Nat),.int .i64 (n:Nat),.pointer none,.pointer none,.pointer none,.int .u8 0,.int .u8 0,.int .u8 0,.int .u8 0,.int .u8 0,.int .u8 0,.int .u8 0,.int .u8 0,.int .u8 0,.int .u8 0,.int .u8 0,.int .u8 0,.int .u8 0,.int .u8 0,.int .u8 0,.int .u8 0,.int .u8 0,.int .u8 0,.int .u8 0,.int .u8 0,.int .u8 0,.int .u8 0,.int .u8 0,.int .u8 0,.int .u8 0,.int .u8 0,.int .u8 0,.int .u8 0,.int .u8 0,.int .u8 0,.int .u8 0,.int .u8 0,.bool false]) w:=fun w=>run_build w _ _ _ (Qn S M T a _ _)
 have g0:(0:Int)≤(h:Int):=by omega
 go_enter Tryz.func28,Tryz.ntmps28
 go_upto_region 2 with (go_at_call 46;refine HFI.out.mono ?_;intro e1 w1 hh;obtain ⟨rfl,hb1⟩:=hh.out;have HB1:Hid (Below w.heap.size w w1):=hb1;clear hh hb1 HFI)
 obtain ⟨w2,hw2⟩:∃ w2,w2=w1.alloc (.cells #[.string S,.string M,.string T,.int .i64 a,.int .i64 (n:Nat)] 59):=⟨_,rfl⟩
 obtain ⟨m,HM⟩:∃ m,Hid (w1.heap.size=m):=⟨_,rfl⟩
 have HB2:Hid (Bx w2 m 59 [.string S,.string M,.string T,.int .i64 a,.int .i64 (n:Nat)]∧Below w.heap.size w w2):=by
  rw[hw2,←HM.out];exact ⟨Bx.new w1 59 _,HB1.out.alloc HB1.out.size _⟩
 rw[←hw2,HM.out]
 clear hw2
 have s4:w2.cell? ⟨m,4,none⟩=some (.int .i64 (n:Nat)):=HB2.out.1.cell 4 _ rfl
 go_upto_region 8 with (first
  | (refine wpList_load_mid (by rfl) 59 (.tmp 6) (by rfl) m 0 (by rfl) [.string S,.string M,.string T,.int .i64 a,.int .i64 (n:Nat)] _ HB2.out.1.range Tryz.underlying59 rfl (by kernel_rfl) ?_))
 obtain ⟨w3,hw3⟩:∃ w3,w3=w2.alloc (.cells #[.string S,.string M,.string T,.int .i64 a,.int .i64 (n:Nat),.int .i64 (n:Nat),.pointer none,.pointer none,.pointer none,.int .u8 0,.int .u8 0,.int .u8 0,.int .u8 0,.int .u8 0,.int .u8 0,.int .u8 0,.int .u8 0,.int .u8 0,.int .u8 0,.int .u8 0,.int .u8 0,.int .u8 0,.int .u8 0,.int .u8 0,.int .u8 0,.int .u8 0,.int .u8 0,.int .u8 0,.int .u8 0,.int .u8 0,.int .u8 0,.int .u8 0,.int .u8 0,.int .u8 0,.int .u8 0,.int .u8 0,.int .u8 0,.int .u8 0,.int .u8 0,.int .u8 0,.int .u8 0,.bool false] 108):=⟨_,rfl⟩
 obtain ⟨c,HCC⟩:∃ c,Hid (w2.heap.size=c):=⟨_,rfl⟩
 have HR:Hid (Rn w w3 m c [.string S,.string M,.string T,.int .i64 a,.int .i64 (n:Nat)]):=by
  have hal:Below w2.heap.size w2 w3:=by rw[hw3];exact (Below.refl _ _).alloc (Nat.le_refl _) _
  refine ⟨HB2.out.1.below hal,⟨_,by rw[hw3,←HCC.out];exact heap_alloc_new w2 _,rfl⟩,HB2.out.2.trans (hal.mono HB2.out.2.size),by rw[←HCC.out];exact HB2.out.2.size,?_⟩
  have:=HB2.out.1.lt
  have:=HCC.out
  omega
 rw[←hw3,HCC.out]
 clear hw3 s4 hbd
 have q1:w3.cell? ⟨m,1,none⟩=some (.string M):=HR.out.row.cell 1 _ rfl
 go_upto_region 14 with fail
 clear q1
 go_upto_region 15 with (go_at_call 47;refine (HK1.out _ HR.out.bel).mono ?_;intro e4 w4 hh;obtain ⟨g4,rfl,hb⟩:=hh.out;have HA:Hid (Rn w w4 m c [.string S,.string M,.string T,.int .i64 a,.int .i64 (n:Nat)]):=HR.out.below hb;obtain ⟨x4,hx⟩:=HA.out.cb.cell 6 (by decide);have hfz:=HA.out.cb.frozen 6;clear hh hb)
 obtain ⟨w5,hw⟩:∃ x,x=w4.setCell ⟨c,6,none⟩ (.pointer (some ⟨g4,0,none⟩)):=⟨_,rfl⟩
 have HR4:Hid (Rn w w5 m c [.string S,.string M,.string T,.int .i64 a,.int .i64 (n:Nat)]):=by rw[hw];exact HA.out.set 6 _
 rw[←hw]
 clear hw HA hx hfz HR
 go_upto_region 23 with (go_at_call 47;refine (HK2.out _ HR4.out.bel).mono ?_;intro e6 w6 hh;obtain ⟨g6,rfl,hb⟩:=hh.out;have HA:Hid (Rn w w6 m c [.string S,.string M,.string T,.int .i64 a,.int .i64 (n:Nat)]):=HR4.out.below hb;obtain ⟨x6,hx⟩:=HA.out.cb.cell 7 (by decide);have hfz:=HA.out.cb.frozen 7;clear hh hb)
 obtain ⟨w7,hw⟩:∃ x,x=w6.setCell ⟨c,7,none⟩ (.pointer (some ⟨g6,0,none⟩)):=⟨_,rfl⟩
 have HR6:Hid (Rn w w7 m c [.string S,.string M,.string T,.int .i64 a,.int .i64 (n:Nat)]):=by rw[hw];exact HA.out.set 7 _
 rw[←hw]
 clear hw HA hx hfz HR4
 have q2:w7.cell? ⟨m,2,none⟩=some (.string T):=HR6.out.row.cell 2 _ rfl
 go_wp2
 go_ret2
 exact ⟨c,rfl,HR6.out.bel⟩
set_option maxHeartbeats 1600000 in
set_option maxRecDepth 100000 in
theorem P7 (S M T:ByteArray) (a:Int) (va:Option Addr) (n vc:Nat) (w:World) (hn:n≤1000) (h0:(M.toList==[110,117,108,108])=false) (h1:(M.toList==[101,108,101,112,104,97,110,116])=false) (h2:(M.toList==[120,116,115])=true) (hT:(T.toList==[101,115,115,105,118])=true)
  (HFI:Hid (Calls Tryz.prog 46 #[.string S] w fun e w'=>Hid (e=.returned (.tuple #[.agg #[.string S,.string M,.string T,.int .i64 a,.int .i64 (n:Nat)],.bool true])∧Below w.heap.size w w')))
  (h:Nat) (k1 k2:Option Addr) (c1 c2:Nat) (hh2:(n:Int)/2=(h:Int)) (hs1:∀ u,(Instr.slice 22 (.slice va n vc) none (some (.int .i64 (h:Nat))) none).run Tryz.prog u=.ok (.slice k1 h c1) u) (hs2:∀ u,(Instr.slice 22 (.slice va n vc) (some (.int .i64 (h:Nat))) none none).run Tryz.prog u=.ok (.slice k2 (n-h) c2) u)
  (HK1:Hid (∀ u,Below w.heap.size w u→Calls Tryz.prog 47 #[.slice k1 h c1] u fun e u'=>Hid (SkP u e u')))
  (HK2:Hid (∀ u,Below w.heap.size w u→Calls Tryz.prog 47 #[.slice k2 (n-h) c2] u fun e u'=>Hid (SkP u e u')))
  (zs:List Int) (HCP:Hid (∀ u,Below w.heap.size w u→Calls Tryz.prog 50 #[.slice va n vc] u fun e u'=>Hid (∃ ya yl yc,e=.returned (.slice ya yl yc)∧Zf u' (.slice ya yl yc) zs∧Below u.heap.size u u')))
  (HSU:Hid (∀ u v,Below w.heap.size w u→Zf u v zs→Calls Tryz.prog 49 #[.int .i64 256,v] u fun e u'=>Hid (∃ ya yl yc,e=.returned (.slice ya yl yc)∧Zf u' (.slice ya yl yc) (Dg.Xw 256 zs)∧Below u.heap.size u u')))
  (HSK:Hid (∀ u v,Zf u v (Dg.Xw 256 zs)→Calls Tryz.prog 47 #[v] u fun e u'=>Hid (SkP u e u'))) :
  Calls Tryz.prog 28 #[.string S,.slice va n vc] w fun e w'=>RnP w e w':=by
 have hbd:∀ w,(Instr.build 108 #[(0,.agg #[.string S,.string M,.string T,.int .i64 a,.int .i64 (n:Nat)]),(1,.int .i64 (n:Nat))]).run Tryz.prog w=.ok (.agg #[.string S,.string M,.string T,.int .i64 a,.int .i64 (n:Nat),.int .i64 (n:Nat),.pointer none,.pointer none,.pointer none,.int .u8 0,.int .u8 0,.int .u8 0,.int .u8 0,.int .u8 0,.int .u8 0,.int .u8 0,.int .u8 0,.int .u8 0,.int .u8 0,.int .u8 0,.int .u8 0,.int .u8 0,.int .u8 0,.int .u8 0,.int .u8 0,.int .u8 0,.int .u8 0,.int .u8 0,.int .u8 0,.int .u8 0,.int .u8 0,.int .u8 0,.int .u8 0,.int .u8 0,.int .u8 0,.int .u8 0,.int .u8 0,.int .u8 0,.int .u8 0,.int .u8 0,.int .u8 0,.bool false]) w:=fun w=>run_build w _ _ _ (Qn S M T a _ _)
 have g0:(0:Int)≤(h:Int):=by omega
 go_enter Tryz.func28,Tryz.ntmps28
 go_upto_region 2 with (go_at_call 46;refine HFI.out.mono ?_;intro e1 w1 hh;obtain ⟨rfl,hb1⟩:=hh.out;have HB1:Hid (Below w.heap.size w w1):=hb1;clear hh hb1 HFI)
 obtain ⟨w2,hw2⟩:∃ w2,w2=w1.alloc (.cells #[.string S,.string M,.string T,.int .i64 a,.int .i64 (n:Nat)] 59):=⟨_,rfl⟩
 obtain ⟨m,HM⟩:∃ m,Hid (w1.heap.size=m):=⟨_,rfl⟩
 have HB2:Hid (Bx w2 m 59 [.string S,.string M,.string T,.int .i64 a,.int .i64 (n:Nat)]∧Below w.heap.size w w2):=by
  rw[hw2,←HM.out];exact ⟨Bx.new w1 59 _,HB1.out.alloc HB1.out.size _⟩
 rw[←hw2,HM.out]
 clear hw2
 have s4:w2.cell? ⟨m,4,none⟩=some (.int .i64 (n:Nat)):=HB2.out.1.cell 4 _ rfl
 go_upto_region 8 with (first
  | (refine wpList_load_mid (by rfl) 59 (.tmp 6) (by rfl) m 0 (by rfl) [.string S,.string M,.string T,.int .i64 a,.int .i64 (n:Nat)] _ HB2.out.1.range Tryz.underlying59 rfl (by kernel_rfl) ?_))
 obtain ⟨w3,hw3⟩:∃ w3,w3=w2.alloc (.cells #[.string S,.string M,.string T,.int .i64 a,.int .i64 (n:Nat),.int .i64 (n:Nat),.pointer none,.pointer none,.pointer none,.int .u8 0,.int .u8 0,.int .u8 0,.int .u8 0,.int .u8 0,.int .u8 0,.int .u8 0,.int .u8 0,.int .u8 0,.int .u8 0,.int .u8 0,.int .u8 0,.int .u8 0,.int .u8 0,.int .u8 0,.int .u8 0,.int .u8 0,.int .u8 0,.int .u8 0,.int .u8 0,.int .u8 0,.int .u8 0,.int .u8 0,.int .u8 0,.int .u8 0,.int .u8 0,.int .u8 0,.int .u8 0,.int .u8 0,.int .u8 0,.int .u8 0,.int .u8 0,.bool false] 108):=⟨_,rfl⟩
 obtain ⟨c,HCC⟩:∃ c,Hid (w2.heap.size=c):=⟨_,rfl⟩
 have HR:Hid (Rn w w3 m c [.string S,.string M,.string T,.int .i64 a,.int .i64 (n:Nat)]):=by
  have hal:Below w2.heap.size w2 w3:=by rw[hw3];exact (Below.refl _ _).alloc (Nat.le_refl _) _
  refine ⟨HB2.out.1.below hal,⟨_,by rw[hw3,←HCC.out];exact heap_alloc_new w2 _,rfl⟩,HB2.out.2.trans (hal.mono HB2.out.2.size),by rw[←HCC.out];exact HB2.out.2.size,?_⟩
  have:=HB2.out.1.lt
  have:=HCC.out
  omega
 rw[←hw3,HCC.out]
 clear hw3 s4 hbd
 have q1:w3.cell? ⟨m,1,none⟩=some (.string M):=HR.out.row.cell 1 _ rfl
 go_upto_region 14 with fail
 clear q1
 go_upto_region 15 with (go_at_call 47;refine (HK1.out _ HR.out.bel).mono ?_;intro e4 w4 hh;obtain ⟨g4,rfl,hb⟩:=hh.out;have HA:Hid (Rn w w4 m c [.string S,.string M,.string T,.int .i64 a,.int .i64 (n:Nat)]):=HR.out.below hb;obtain ⟨x4,hx⟩:=HA.out.cb.cell 6 (by decide);have hfz:=HA.out.cb.frozen 6;clear hh hb)
 obtain ⟨w5,hw⟩:∃ x,x=w4.setCell ⟨c,6,none⟩ (.pointer (some ⟨g4,0,none⟩)):=⟨_,rfl⟩
 have HR4:Hid (Rn w w5 m c [.string S,.string M,.string T,.int .i64 a,.int .i64 (n:Nat)]):=by rw[hw];exact HA.out.set 6 _
 rw[←hw]
 clear hw HA hx hfz HR
 go_upto_region 23 with (go_at_call 47;refine (HK2.out _ HR4.out.bel).mono ?_;intro e6 w6 hh;obtain ⟨g6,rfl,hb⟩:=hh.out;have HA:Hid (Rn w w6 m c [.string S,.string M,.string T,.int .i64 a,.int .i64 (n:Nat)]):=HR4.out.below hb;obtain ⟨x6,hx⟩:=HA.out.cb.cell 7 (by decide);have hfz:=HA.out.cb.frozen 7;clear hh hb)
 obtain ⟨w7,hw⟩:∃ x,x=w6.setCell ⟨c,7,none⟩ (.pointer (some ⟨g6,0,none⟩)):=⟨_,rfl⟩
 have HR6:Hid (Rn w w7 m c [.string S,.string M,.string T,.int .i64 a,.int .i64 (n:Nat)]):=by rw[hw];exact HA.out.set 7 _
 rw[←hw]
 clear hw HA hx hfz HR4
 have q2:w7.cell? ⟨m,2,none⟩=some (.string T):=HR6.out.row.cell 2 _ rfl
 go_upto_region 24 with fail
 clear q2
 go_upto_region 25 with (first
  | (go_at_call 50;refine (HCP.out _ HR6.out.bel).mono ?_;intro e20 w20 hh;obtain ⟨ya,yl,yc,rfl,hv20,hb⟩:=hh.out;have HA:Hid (Rn w w20 m c [.string S,.string M,.string T,.int .i64 a,.int .i64 (n:Nat)]∧Zf w20 (.slice ya yl yc) zs):=⟨HR6.out.below hb,hv20⟩;clear hh hb hv20)
  | (go_at_call 49;refine (HSU.out _ _ HA.out.1.bel HA.out.2).mono ?_;intro e21 w21 hh;obtain ⟨za,zl,zc,rfl,hv21,hb⟩:=hh.out;have HA2:Hid (Rn w w21 m c [.string S,.string M,.string T,.int .i64 a,.int .i64 (n:Nat)]∧Zf w21 (.slice za zl zc) (Dg.Xw 256 zs)):=⟨HA.out.1.below hb,hv21⟩;clear hh hb hv21)
  | (go_at_call 47;refine (HSK.out _ _ HA2.out.2).mono ?_;intro e22 w22 hh;obtain ⟨g22,rfl,hb⟩:=hh.out;have HA3:Hid (Rn w w22 m c [.string S,.string M,.string T,.int .i64 a,.int .i64 (n:Nat)]):=HA2.out.1.below hb;obtain ⟨x22,hx⟩:=HA3.out.cb.cell 8 (by decide);have hfz:=HA3.out.cb.frozen 8;clear hh hb))
 obtain ⟨w23,hw⟩:∃ x,x=w22.setCell ⟨c,8,none⟩ (.pointer (some ⟨g22,0,none⟩)):=⟨_,rfl⟩
 have HR99:Hid (Rn w w23 m c [.string S,.string M,.string T,.int .i64 a,.int .i64 (n:Nat)]):=by rw[hw];exact HA3.out.set 8 _
 rw[←hw]
 clear hw HA HA2 HA3 hx hfz HR6
 go_wp2
 go_ret2
 exact ⟨c,rfl,HR99.out.bel⟩
set_option maxHeartbeats 1600000 in
set_option maxRecDepth 100000 in
theorem Ov (S M T:ByteArray) (a:Int) (va:Option Addr) (n vc:Nat) (w:World) (hn:n≤1000) (h0:(M.toList==[110,117,108,108])=false) (h1:(M.toList==[101,108,101,112,104,97,110,116])=false) (h2:(M.toList==[120,116,115])=false) (h3:(M.toList==[116,99,119])=true) (hT:(T.toList==[101,115,115,105,118])=false)
  (HFI:Hid (Calls Tryz.prog 46 #[.string S] w fun e w'=>Hid (e=.returned (.tuple #[.agg #[.string S,.string M,.string T,.int .i64 a,.int .i64 (n:Nat)],.bool true])∧Below w.heap.size w w')))
  (h h2:Nat) (k1:Option Addr) (c1:Nat) (hw1:IntKind.i64.wrap ((n:Int)-32)=(h:Int)) (hw2:IntKind.i64.wrap ((n:Int)-16)=(h2:Int)) (hd1:(n:Int)-32=(h:Int)) (hd2:(n:Int)-16=(h2:Int)) (hs1:∀ u,(Instr.slice 22 (.slice va n vc) none (some (.int .i64 (h:Nat))) none).run Tryz.prog u=.ok (.slice k1 h c1) u)
  (HK1:Hid (∀ u,Below w.heap.size w u→Calls Tryz.prog 47 #[.slice k1 h c1] u fun e u'=>Hid (SkP u e u')))
  (HQ1:Hid (∀ u,Below w.heap.size w u→Calls Tryz.prog 48 #[.slice va n vc,.int .i64 (h:Nat)] u fun e u'=>Hid (BkP u e u')))
  (HQ2:Hid (∀ u,Below w.heap.size w u→Calls Tryz.prog 48 #[.slice va n vc,.int .i64 (h2:Nat)] u fun e u'=>Hid (BkP u e u'))) :
  Calls Tryz.prog 28 #[.string S,.slice va n vc] w fun e w'=>RnP w e w':=by
 have hbd:∀ w,(Instr.build 108 #[(0,.agg #[.string S,.string M,.string T,.int .i64 a,.int .i64 (n:Nat)]),(1,.int .i64 (n:Nat))]).run Tryz.prog w=.ok (.agg #[.string S,.string M,.string T,.int .i64 a,.int .i64 (n:Nat),.int .i64 (n:Nat),.pointer none,.pointer none,.pointer none,.int .u8 0,.int .u8 0,.int .u8 0,.int .u8 0,.int .u8 0,.int .u8 0,.int .u8 0,.int .u8 0,.int .u8 0,.int .u8 0,.int .u8 0,.int .u8 0,.int .u8 0,.int .u8 0,.int .u8 0,.int .u8 0,.int .u8 0,.int .u8 0,.int .u8 0,.int .u8 0,.int .u8 0,.int .u8 0,.int .u8 0,.int .u8 0,.int .u8 0,.int .u8 0,.int .u8 0,.int .u8 0,.int .u8 0,.int .u8 0,.int .u8 0,.int .u8 0,.bool false]) w:=fun w=>run_build w _ _ _ (Qn S M T a _ _)
 have g0:(0:Int)≤(h:Int):=by omega
 go_enter Tryz.func28,Tryz.ntmps28
 go_upto_region 2 with (go_at_call 46;refine HFI.out.mono ?_;intro e1 w1 hh;obtain ⟨rfl,hb1⟩:=hh.out;have HB1:Hid (Below w.heap.size w w1):=hb1;clear hh hb1 HFI)
 obtain ⟨w2,hw2⟩:∃ w2,w2=w1.alloc (.cells #[.string S,.string M,.string T,.int .i64 a,.int .i64 (n:Nat)] 59):=⟨_,rfl⟩
 obtain ⟨m,HM⟩:∃ m,Hid (w1.heap.size=m):=⟨_,rfl⟩
 have HB2:Hid (Bx w2 m 59 [.string S,.string M,.string T,.int .i64 a,.int .i64 (n:Nat)]∧Below w.heap.size w w2):=by
  rw[hw2,←HM.out];exact ⟨Bx.new w1 59 _,HB1.out.alloc HB1.out.size _⟩
 rw[←hw2,HM.out]
 clear hw2
 have s4:w2.cell? ⟨m,4,none⟩=some (.int .i64 (n:Nat)):=HB2.out.1.cell 4 _ rfl
 go_upto_region 8 with (first
  | (refine wpList_load_mid (by rfl) 59 (.tmp 6) (by rfl) m 0 (by rfl) [.string S,.string M,.string T,.int .i64 a,.int .i64 (n:Nat)] _ HB2.out.1.range Tryz.underlying59 rfl (by kernel_rfl) ?_))
 obtain ⟨w3,hw3⟩:∃ w3,w3=w2.alloc (.cells #[.string S,.string M,.string T,.int .i64 a,.int .i64 (n:Nat),.int .i64 (n:Nat),.pointer none,.pointer none,.pointer none,.int .u8 0,.int .u8 0,.int .u8 0,.int .u8 0,.int .u8 0,.int .u8 0,.int .u8 0,.int .u8 0,.int .u8 0,.int .u8 0,.int .u8 0,.int .u8 0,.int .u8 0,.int .u8 0,.int .u8 0,.int .u8 0,.int .u8 0,.int .u8 0,.int .u8 0,.int .u8 0,.int .u8 0,.int .u8 0,.int .u8 0,.int .u8 0,.int .u8 0,.int .u8 0,.int .u8 0,.int .u8 0,.int .u8 0,.int .u8 0,.int .u8 0,.int .u8 0,.bool false] 108):=⟨_,rfl⟩
 obtain ⟨c,HCC⟩:∃ c,Hid (w2.heap.size=c):=⟨_,rfl⟩
 have HR:Hid (Rn w w3 m c [.string S,.string M,.string T,.int .i64 a,.int .i64 (n:Nat)]):=by
  have hal:Below w2.heap.size w2 w3:=by rw[hw3];exact (Below.refl _ _).alloc (Nat.le_refl _) _
  refine ⟨HB2.out.1.below hal,⟨_,by rw[hw3,←HCC.out];exact heap_alloc_new w2 _,rfl⟩,HB2.out.2.trans (hal.mono HB2.out.2.size),by rw[←HCC.out];exact HB2.out.2.size,?_⟩
  have:=HB2.out.1.lt
  have:=HCC.out
  omega
 rw[←hw3,HCC.out]
 clear hw3 s4 hbd
 have q1:w3.cell? ⟨m,1,none⟩=some (.string M):=HR.out.row.cell 1 _ rfl
 go_upto_region 17 with fail
 clear q1
 go_upto_region 18 with (go_at_call 47;refine (HK1.out _ HR.out.bel).mono ?_;intro e4 w4 hh;obtain ⟨g4,rfl,hb⟩:=hh.out;have HA:Hid (Rn w w4 m c [.string S,.string M,.string T,.int .i64 a,.int .i64 (n:Nat)]):=HR.out.below hb;obtain ⟨x4,hx⟩:=HA.out.cb.cell 6 (by decide);have hfz:=HA.out.cb.frozen 6;clear hh hb)
 obtain ⟨w5,hw⟩:∃ x,x=w4.setCell ⟨c,6,none⟩ (.pointer (some ⟨g4,0,none⟩)):=⟨_,rfl⟩
 have HR4:Hid (Rn w w5 m c [.string S,.string M,.string T,.int .i64 a,.int .i64 (n:Nat)]):=by rw[hw];exact HA.out.set 6 _
 rw[←hw]
 clear hw HA hx hfz HR
 go_upto_region 19 with (first
  | (go_at_call 48;refine (HQ1.out _ HR4.out.bel).mono ?_;intro e6 w6 hh;obtain ⟨cs6,rfl,hl6,hc6,hb⟩:=hh.out;have HA:Hid (Rn w w6 m c [.string S,.string M,.string T,.int .i64 a,.int .i64 (n:Nat)]):=HR4.out.below hb;have HL:Hid (cs6.length=16∧∀ v∈cs6,v.oneCell'=true):=⟨hl6,hc6⟩;clear hh hb hl6 hc6)
  | (refine wpList_store_mid (by rfl) 27 (.tmp 72) (.tmp 70) (by rfl) c 9 cs6.toArray (by rfl) (by rfl) (by rw[List.size_toArray,HL.out.1];exact HA.out.cb.there 9 16 (by decide)) (by rw[List.size_toArray,HL.out.1];kernel_rfl) (all_oneCell_toArray HL.out.2) ?_))
 obtain ⟨w7,hw⟩:∃ x,x=w6.setCells c 9 cs6.toArray.toList:=⟨_,rfl⟩
 have HR6:Hid (Rn w w7 m c [.string S,.string M,.string T,.int .i64 a,.int .i64 (n:Nat)]):=by rw[hw];exact HA.out.sets 9 _
 rw[←hw]
 clear hw HA HL HR4
 go_upto_region 23 with (first
  | (go_at_call 48;refine (HQ2.out _ HR6.out.bel).mono ?_;intro e8 w8 hh;obtain ⟨cs8,rfl,hl8,hc8,hb⟩:=hh.out;have HA:Hid (Rn w w8 m c [.string S,.string M,.string T,.int .i64 a,.int .i64 (n:Nat)]):=HR6.out.below hb;have HL:Hid (cs8.length=16∧∀ v∈cs8,v.oneCell'=true):=⟨hl8,hc8⟩;clear hh hb hl8 hc8)
  | (refine wpList_store_mid (by rfl) 27 (.tmp 79) (.tmp 77) (by rfl) c 25 cs8.toArray (by rfl) (by rfl) (by rw[List.size_toArray,HL.out.1];exact HA.out.cb.there 25 16 (by decide)) (by rw[List.size_toArray,HL.out.1];kernel_rfl) (all_oneCell_toArray HL.out.2) ?_))
 obtain ⟨w9,hw⟩:∃ x,x=w8.setCells c 25 cs8.toArray.toList:=⟨_,rfl⟩
 have HR8:Hid (Rn w w9 m c [.string S,.string M,.string T,.int .i64 a,.int .i64 (n:Nat)]):=by rw[hw];exact HA.out.sets 25 _
 rw[←hw]
 clear hw HA HL HR6
 have q2:w9.cell? ⟨m,2,none⟩=some (.string T):=HR8.out.row.cell 2 _ rfl
 go_wp2
 go_ret2
 exact ⟨c,rfl,HR8.out.bel⟩
set_option maxHeartbeats 1600000 in
set_option maxRecDepth 100000 in
theorem Ow (S M T:ByteArray) (a:Int) (va:Option Addr) (n vc:Nat) (w:World) (hn:n≤1000) (h0:(M.toList==[110,117,108,108])=false) (h1:(M.toList==[101,108,101,112,104,97,110,116])=false) (h2:(M.toList==[120,116,115])=false) (h3:(M.toList==[116,99,119])=false) (h4:(M.toList==[108,114,119])=true) (hT:(T.toList==[101,115,115,105,118])=false)
  (HFI:Hid (Calls Tryz.prog 46 #[.string S] w fun e w'=>Hid (e=.returned (.tuple #[.agg #[.string S,.string M,.string T,.int .i64 a,.int .i64 (n:Nat)],.bool true])∧Below w.heap.size w w')))
  (h:Nat) (k1:Option Addr) (c1:Nat) (hw1:IntKind.i64.wrap ((n:Int)-16)=(h:Int)) (hd1:(n:Int)-16=(h:Int)) (hs1:∀ u,(Instr.slice 22 (.slice va n vc) none (some (.int .i64 (h:Nat))) none).run Tryz.prog u=.ok (.slice k1 h c1) u)
  (HK1:Hid (∀ u,Below w.heap.size w u→Calls Tryz.prog 47 #[.slice k1 h c1] u fun e u'=>Hid (SkP u e u')))
  (HQ1:Hid (∀ u,Below w.heap.size w u→Calls Tryz.prog 48 #[.slice va n vc,.int .i64 (h:Nat)] u fun e u'=>Hid (BkP u e u'))) :
  Calls Tryz.prog 28 #[.string S,.slice va n vc] w fun e w'=>RnP w e w':=by
 have hbd:∀ w,(Instr.build 108 #[(0,.agg #[.string S,.string M,.string T,.int .i64 a,.int .i64 (n:Nat)]),(1,.int .i64 (n:Nat))]).run Tryz.prog w=.ok (.agg #[.string S,.string M,.string T,.int .i64 a,.int .i64 (n:Nat),.int .i64 (n:Nat),.pointer none,.pointer none,.pointer none,.int .u8 0,.int .u8 0,.int .u8 0,.int .u8 0,.int .u8 0,.int .u8 0,.int .u8 0,.int .u8 0,.int .u8 0,.int .u8 0,.int .u8 0,.int .u8 0,.int .u8 0,.int .u8 0,.int .u8 0,.int .u8 0,.int .u8 0,.int .u8 0,.int .u8 0,.int .u8 0,.int .u8 0,.int .u8 0,.int .u8 0,.int .u8 0,.int .u8 0,.int .u8 0,.int .u8 0,.int .u8 0,.int .u8 0,.int .u8 0,.int .u8 0,.int .u8 0,.bool false]) w:=fun w=>run_build w _ _ _ (Qn S M T a _ _)
 have g0:(0:Int)≤(h:Int):=by omega
 go_enter Tryz.func28,Tryz.ntmps28
 go_upto_region 2 with (go_at_call 46;refine HFI.out.mono ?_;intro e1 w1 hh;obtain ⟨rfl,hb1⟩:=hh.out;have HB1:Hid (Below w.heap.size w w1):=hb1;clear hh hb1 HFI)
 obtain ⟨w2,hw2⟩:∃ w2,w2=w1.alloc (.cells #[.string S,.string M,.string T,.int .i64 a,.int .i64 (n:Nat)] 59):=⟨_,rfl⟩
 obtain ⟨m,HM⟩:∃ m,Hid (w1.heap.size=m):=⟨_,rfl⟩
 have HB2:Hid (Bx w2 m 59 [.string S,.string M,.string T,.int .i64 a,.int .i64 (n:Nat)]∧Below w.heap.size w w2):=by
  rw[hw2,←HM.out];exact ⟨Bx.new w1 59 _,HB1.out.alloc HB1.out.size _⟩
 rw[←hw2,HM.out]
 clear hw2
 have s4:w2.cell? ⟨m,4,none⟩=some (.int .i64 (n:Nat)):=HB2.out.1.cell 4 _ rfl
 go_upto_region 8 with (first
  | (refine wpList_load_mid (by rfl) 59 (.tmp 6) (by rfl) m 0 (by rfl) [.string S,.string M,.string T,.int .i64 a,.int .i64 (n:Nat)] _ HB2.out.1.range Tryz.underlying59 rfl (by kernel_rfl) ?_))
 obtain ⟨w3,hw3⟩:∃ w3,w3=w2.alloc (.cells #[.string S,.string M,.string T,.int .i64 a,.int .i64 (n:Nat),.int .i64 (n:Nat),.pointer none,.pointer none,.pointer none,.int .u8 0,.int .u8 0,.int .u8 0,.int .u8 0,.int .u8 0,.int .u8 0,.int .u8 0,.int .u8 0,.int .u8 0,.int .u8 0,.int .u8 0,.int .u8 0,.int .u8 0,.int .u8 0,.int .u8 0,.int .u8 0,.int .u8 0,.int .u8 0,.int .u8 0,.int .u8 0,.int .u8 0,.int .u8 0,.int .u8 0,.int .u8 0,.int .u8 0,.int .u8 0,.int .u8 0,.int .u8 0,.int .u8 0,.int .u8 0,.int .u8 0,.int .u8 0,.bool false] 108):=⟨_,rfl⟩
 obtain ⟨c,HCC⟩:∃ c,Hid (w2.heap.size=c):=⟨_,rfl⟩
 have HR:Hid (Rn w w3 m c [.string S,.string M,.string T,.int .i64 a,.int .i64 (n:Nat)]):=by
  have hal:Below w2.heap.size w2 w3:=by rw[hw3];exact (Below.refl _ _).alloc (Nat.le_refl _) _
  refine ⟨HB2.out.1.below hal,⟨_,by rw[hw3,←HCC.out];exact heap_alloc_new w2 _,rfl⟩,HB2.out.2.trans (hal.mono HB2.out.2.size),by rw[←HCC.out];exact HB2.out.2.size,?_⟩
  have:=HB2.out.1.lt
  have:=HCC.out
  omega
 rw[←hw3,HCC.out]
 clear hw3 s4 hbd
 have q1:w3.cell? ⟨m,1,none⟩=some (.string M):=HR.out.row.cell 1 _ rfl
 go_upto_region 21 with fail
 clear q1
 go_upto_region 22 with (go_at_call 47;refine (HK1.out _ HR.out.bel).mono ?_;intro e4 w4 hh;obtain ⟨g4,rfl,hb⟩:=hh.out;have HA:Hid (Rn w w4 m c [.string S,.string M,.string T,.int .i64 a,.int .i64 (n:Nat)]):=HR.out.below hb;obtain ⟨x4,hx⟩:=HA.out.cb.cell 6 (by decide);have hfz:=HA.out.cb.frozen 6;clear hh hb)
 obtain ⟨w5,hw⟩:∃ x,x=w4.setCell ⟨c,6,none⟩ (.pointer (some ⟨g4,0,none⟩)):=⟨_,rfl⟩
 have HR4:Hid (Rn w w5 m c [.string S,.string M,.string T,.int .i64 a,.int .i64 (n:Nat)]):=by rw[hw];exact HA.out.set 6 _
 rw[←hw]
 clear hw HA hx hfz HR
 go_upto_region 23 with (first
  | (go_at_call 48;refine (HQ1.out _ HR4.out.bel).mono ?_;intro e6 w6 hh;obtain ⟨cs6,rfl,hl6,hc6,hb⟩:=hh.out;have HA:Hid (Rn w w6 m c [.string S,.string M,.string T,.int .i64 a,.int .i64 (n:Nat)]):=HR4.out.below hb;have HL:Hid (cs6.length=16∧∀ v∈cs6,v.oneCell'=true):=⟨hl6,hc6⟩;clear hh hb hl6 hc6)
  | (refine wpList_store_mid (by rfl) 27 (.tmp 96) (.tmp 94) (by rfl) c 9 cs6.toArray (by rfl) (by rfl) (by rw[List.size_toArray,HL.out.1];exact HA.out.cb.there 9 16 (by decide)) (by rw[List.size_toArray,HL.out.1];kernel_rfl) (all_oneCell_toArray HL.out.2) ?_))
 obtain ⟨w7,hw⟩:∃ x,x=w6.setCells c 9 cs6.toArray.toList:=⟨_,rfl⟩
 have HR6:Hid (Rn w w7 m c [.string S,.string M,.string T,.int .i64 a,.int .i64 (n:Nat)]):=by rw[hw];exact HA.out.sets 9 _
 rw[←hw]
 clear hw HA HL HR4
 have q2:w7.cell? ⟨m,2,none⟩=some (.string T):=HR6.out.row.cell 2 _ rfl
 go_wp2
 go_ret2
 exact ⟨c,rfl,HR6.out.bel⟩
set_option maxHeartbeats 1600000 in
set_option maxRecDepth 100000 in
theorem Jq (S M T:ByteArray) (a:Int) (va:Option Addr) (n vc:Nat) (w:World) (hn:n≤1000) (h0:(M.toList==[110,117,108,108])=false) (h1:(M.toList==[101,108,101,112,104,97,110,116])=false) (h2:(M.toList==[120,116,115])=false) (h3:(M.toList==[116,99,119])=false) (h4:(M.toList==[108,114,119])=false) (hT:(T.toList==[101,115,115,105,118])=false)
  (HFI:Hid (Calls Tryz.prog 46 #[.string S] w fun e w'=>Hid (e=.returned (.tuple #[.agg #[.string S,.string M,.string T,.int .i64 a,.int .i64 (n:Nat)],.bool true])∧Below w.heap.size w w')))
  (HK1:Hid (∀ u,Below w.heap.size w u→Calls Tryz.prog 47 #[.slice va n vc] u fun e u'=>Hid (SkP u e u'))) :
  Calls Tryz.prog 28 #[.string S,.slice va n vc] w fun e w'=>RnP w e w':=by
 have hbd:∀ w,(Instr.build 108 #[(0,.agg #[.string S,.string M,.string T,.int .i64 a,.int .i64 (n:Nat)]),(1,.int .i64 (n:Nat))]).run Tryz.prog w=.ok (.agg #[.string S,.string M,.string T,.int .i64 a,.int .i64 (n:Nat),.int .i64 (n:Nat),.pointer none,.pointer none,.pointer none,.int .u8 0,.int .u8 0,.int .u8 0,.int .u8 0,.int .u8 0,.int .u8 0,.int .u8 0,.int .u8 0,.int .u8 0,.int .u8 0,.int .u8 0,.int .u8 0,.int .u8 0,.int .u8 0,.int .u8 0,.int .u8 0,.int .u8 0,.int .u8 0,.int .u8 0,.int .u8 0,.int .u8 0,.int .u8 0,.int .u8 0,.int .u8 0,.int .u8 0,.int .u8 0,.int .u8 0,.int .u8 0,.int .u8 0,.int .u8 0,.int .u8 0,.int .u8 0,.bool false]) w:=fun w=>run_build w _ _ _ (Qn S M T a _ _)
 go_enter Tryz.func28,Tryz.ntmps28
 go_upto_region 2 with (go_at_call 46;refine HFI.out.mono ?_;intro e1 w1 hh;obtain ⟨rfl,hb1⟩:=hh.out;have HB1:Hid (Below w.heap.size w w1):=hb1;clear hh hb1 HFI)
 obtain ⟨w2,hw2⟩:∃ w2,w2=w1.alloc (.cells #[.string S,.string M,.string T,.int .i64 a,.int .i64 (n:Nat)] 59):=⟨_,rfl⟩
 obtain ⟨m,HM⟩:∃ m,Hid (w1.heap.size=m):=⟨_,rfl⟩
 have HB2:Hid (Bx w2 m 59 [.string S,.string M,.string T,.int .i64 a,.int .i64 (n:Nat)]∧Below w.heap.size w w2):=by
  rw[hw2,←HM.out];exact ⟨Bx.new w1 59 _,HB1.out.alloc HB1.out.size _⟩
 rw[←hw2,HM.out]
 clear hw2
 have s4:w2.cell? ⟨m,4,none⟩=some (.int .i64 (n:Nat)):=HB2.out.1.cell 4 _ rfl
 go_upto_region 8 with (first
  | (refine wpList_load_mid (by rfl) 59 (.tmp 6) (by rfl) m 0 (by rfl) [.string S,.string M,.string T,.int .i64 a,.int .i64 (n:Nat)] _ HB2.out.1.range Tryz.underlying59 rfl (by kernel_rfl) ?_))
 obtain ⟨w3,hw3⟩:∃ w3,w3=w2.alloc (.cells #[.string S,.string M,.string T,.int .i64 a,.int .i64 (n:Nat),.int .i64 (n:Nat),.pointer none,.pointer none,.pointer none,.int .u8 0,.int .u8 0,.int .u8 0,.int .u8 0,.int .u8 0,.int .u8 0,.int .u8 0,.int .u8 0,.int .u8 0,.int .u8 0,.int .u8 0,.int .u8 0,.int .u8 0,.int .u8 0,.int .u8 0,.int .u8 0,.int .u8 0,.int .u8 0,.int .u8 0,.int .u8 0,.int .u8 0,.int .u8 0,.int .u8 0,.int .u8 0,.int .u8 0,.int .u8 0,.int .u8 0,.int .u8 0,.int .u8 0,.int .u8 0,.int .u8 0,.int .u8 0,.bool false] 108):=⟨_,rfl⟩
 obtain ⟨c,HCC⟩:∃ c,Hid (w2.heap.size=c):=⟨_,rfl⟩
 have HR:Hid (Rn w w3 m c [.string S,.string M,.string T,.int .i64 a,.int .i64 (n:Nat)]):=by
  have hal:Below w2.heap.size w2 w3:=by rw[hw3];exact (Below.refl _ _).alloc (Nat.le_refl _) _
  refine ⟨HB2.out.1.below hal,⟨_,by rw[hw3,←HCC.out];exact heap_alloc_new w2 _,rfl⟩,HB2.out.2.trans (hal.mono HB2.out.2.size),by rw[←HCC.out];exact HB2.out.2.size,?_⟩
  have:=HB2.out.1.lt
  have:=HCC.out
  omega
 rw[←hw3,HCC.out]
 clear hw3 s4 hbd
 have q1:w3.cell? ⟨m,1,none⟩=some (.string M):=HR.out.row.cell 1 _ rfl
 go_upto_region 9 with fail
 clear q1
 go_upto_region 23 with (go_at_call 47;refine (HK1.out _ HR.out.bel).mono ?_;intro e4 w4 hh;obtain ⟨g4,rfl,hb⟩:=hh.out;have HA:Hid (Rn w w4 m c [.string S,.string M,.string T,.int .i64 a,.int .i64 (n:Nat)]):=HR.out.below hb;obtain ⟨x4,hx⟩:=HA.out.cb.cell 6 (by decide);have hfz:=HA.out.cb.frozen 6;clear hh hb)
 obtain ⟨w5,hw⟩:∃ x,x=w4.setCell ⟨c,6,none⟩ (.pointer (some ⟨g4,0,none⟩)):=⟨_,rfl⟩
 have HR4:Hid (Rn w w5 m c [.string S,.string M,.string T,.int .i64 a,.int .i64 (n:Nat)]):=by rw[hw];exact HA.out.set 6 _
 rw[←hw]
 clear hw HA hx hfz HR
 have q2:w5.cell? ⟨m,2,none⟩=some (.string T):=HR4.out.row.cell 2 _ rfl
 go_wp2
 go_ret2
 exact ⟨c,rfl,HR4.out.bel⟩
set_option maxHeartbeats 1600000 in
set_option maxRecDepth 100000 in
theorem P8 (S M T:ByteArray) (a:Int) (va:Option Addr) (n vc:Nat) (w:World) (hn:n≤1000) (h0:(M.toList==[110,117,108,108])=false) (h1:(M.toList==[101,108,101,112,104,97,110,116])=false) (h2:(M.toList==[120,116,115])=false) (h3:(M.toList==[116,99,119])=false) (h4:(M.toList==[108,114,119])=false) (hT:(T.toList==[101,115,115,105,118])=true)
  (HFI:Hid (Calls Tryz.prog 46 #[.string S] w fun e w'=>Hid (e=.returned (.tuple #[.agg #[.string S,.string M,.string T,.int .i64 a,.int .i64 (n:Nat)],.bool true])∧Below w.heap.size w w')))
  (HK1:Hid (∀ u,Below w.heap.size w u→Calls Tryz.prog 47 #[.slice va n vc] u fun e u'=>Hid (SkP u e u')))
  (zs:List Int) (HCP:Hid (∀ u,Below w.heap.size w u→Calls Tryz.prog 50 #[.slice va n vc] u fun e u'=>Hid (∃ ya yl yc,e=.returned (.slice ya yl yc)∧Zf u' (.slice ya yl yc) zs∧Below u.heap.size u u')))
  (HSU:Hid (∀ u v,Below w.heap.size w u→Zf u v zs→Calls Tryz.prog 49 #[.int .i64 256,v] u fun e u'=>Hid (∃ ya yl yc,e=.returned (.slice ya yl yc)∧Zf u' (.slice ya yl yc) (Dg.Xw 256 zs)∧Below u.heap.size u u')))
  (HSK:Hid (∀ u v,Zf u v (Dg.Xw 256 zs)→Calls Tryz.prog 47 #[v] u fun e u'=>Hid (SkP u e u'))) :
  Calls Tryz.prog 28 #[.string S,.slice va n vc] w fun e w'=>RnP w e w':=by
 have hbd:∀ w,(Instr.build 108 #[(0,.agg #[.string S,.string M,.string T,.int .i64 a,.int .i64 (n:Nat)]),(1,.int .i64 (n:Nat))]).run Tryz.prog w=.ok (.agg #[.string S,.string M,.string T,.int .i64 a,.int .i64 (n:Nat),.int .i64 (n:Nat),.pointer none,.pointer none,.pointer none,.int .u8 0,.int .u8 0,.int .u8 0,.int .u8 0,.int .u8 0,.int .u8 0,.int .u8 0,.int .u8 0,.int .u8 0,.int .u8 0,.int .u8 0,.int .u8 0,.int .u8 0,.int .u8 0,.int .u8 0,.int .u8 0,.int .u8 0,.int .u8 0,.int .u8 0,.int .u8 0,.int .u8 0,.int .u8 0,.int .u8 0,.int .u8 0,.int .u8 0,.int .u8 0,.int .u8 0,.int .u8 0,.int .u8 0,.int .u8 0,.int .u8 0,.int .u8 0,.bool false]) w:=fun w=>run_build w _ _ _ (Qn S M T a _ _)
 go_enter Tryz.func28,Tryz.ntmps28
 go_upto_region 2 with (go_at_call 46;refine HFI.out.mono ?_;intro e1 w1 hh;obtain ⟨rfl,hb1⟩:=hh.out;have HB1:Hid (Below w.heap.size w w1):=hb1;clear hh hb1 HFI)
 obtain ⟨w2,hw2⟩:∃ w2,w2=w1.alloc (.cells #[.string S,.string M,.string T,.int .i64 a,.int .i64 (n:Nat)] 59):=⟨_,rfl⟩
 obtain ⟨m,HM⟩:∃ m,Hid (w1.heap.size=m):=⟨_,rfl⟩
 have HB2:Hid (Bx w2 m 59 [.string S,.string M,.string T,.int .i64 a,.int .i64 (n:Nat)]∧Below w.heap.size w w2):=by
  rw[hw2,←HM.out];exact ⟨Bx.new w1 59 _,HB1.out.alloc HB1.out.size _⟩
 rw[←hw2,HM.out]
 clear hw2
 have s4:w2.cell? ⟨m,4,none⟩=some (.int .i64 (n:Nat)):=HB2.out.1.cell 4 _ rfl
 go_upto_region 8 with (first
  | (refine wpList_load_mid (by rfl) 59 (.tmp 6) (by rfl) m 0 (by rfl) [.string S,.string M,.string T,.int .i64 a,.int .i64 (n:Nat)] _ HB2.out.1.range Tryz.underlying59 rfl (by kernel_rfl) ?_))
 obtain ⟨w3,hw3⟩:∃ w3,w3=w2.alloc (.cells #[.string S,.string M,.string T,.int .i64 a,.int .i64 (n:Nat),.int .i64 (n:Nat),.pointer none,.pointer none,.pointer none,.int .u8 0,.int .u8 0,.int .u8 0,.int .u8 0,.int .u8 0,.int .u8 0,.int .u8 0,.int .u8 0,.int .u8 0,.int .u8 0,.int .u8 0,.int .u8 0,.int .u8 0,.int .u8 0,.int .u8 0,.int .u8 0,.int .u8 0,.int .u8 0,.int .u8 0,.int .u8 0,.int .u8 0,.int .u8 0,.int .u8 0,.int .u8 0,.int .u8 0,.int .u8 0,.int .u8 0,.int .u8 0,.int .u8 0,.int .u8 0,.int .u8 0,.int .u8 0,.bool false] 108):=⟨_,rfl⟩
 obtain ⟨c,HCC⟩:∃ c,Hid (w2.heap.size=c):=⟨_,rfl⟩
 have HR:Hid (Rn w w3 m c [.string S,.string M,.string T,.int .i64 a,.int .i64 (n:Nat)]):=by
  have hal:Below w2.heap.size w2 w3:=by rw[hw3];exact (Below.refl _ _).alloc (Nat.le_refl _) _
  refine ⟨HB2.out.1.below hal,⟨_,by rw[hw3,←HCC.out];exact heap_alloc_new w2 _,rfl⟩,HB2.out.2.trans (hal.mono HB2.out.2.size),by rw[←HCC.out];exact HB2.out.2.size,?_⟩
  have:=HB2.out.1.lt
  have:=HCC.out
  omega
 rw[←hw3,HCC.out]
 clear hw3 s4 hbd
 have q1:w3.cell? ⟨m,1,none⟩=some (.string M):=HR.out.row.cell 1 _ rfl
 go_upto_region 9 with fail
 clear q1
 go_upto_region 23 with (go_at_call 47;refine (HK1.out _ HR.out.bel).mono ?_;intro e4 w4 hh;obtain ⟨g4,rfl,hb⟩:=hh.out;have HA:Hid (Rn w w4 m c [.string S,.string M,.string T,.int .i64 a,.int .i64 (n:Nat)]):=HR.out.below hb;obtain ⟨x4,hx⟩:=HA.out.cb.cell 6 (by decide);have hfz:=HA.out.cb.frozen 6;clear hh hb)
 obtain ⟨w5,hw⟩:∃ x,x=w4.setCell ⟨c,6,none⟩ (.pointer (some ⟨g4,0,none⟩)):=⟨_,rfl⟩
 have HR4:Hid (Rn w w5 m c [.string S,.string M,.string T,.int .i64 a,.int .i64 (n:Nat)]):=by rw[hw];exact HA.out.set 6 _
 rw[←hw]
 clear hw HA hx hfz HR
 have q2:w5.cell? ⟨m,2,none⟩=some (.string T):=HR4.out.row.cell 2 _ rfl
 go_upto_region 24 with fail
 clear q2
 go_upto_region 25 with (first
  | (go_at_call 50;refine (HCP.out _ HR4.out.bel).mono ?_;intro e20 w20 hh;obtain ⟨ya,yl,yc,rfl,hv20,hb⟩:=hh.out;have HA:Hid (Rn w w20 m c [.string S,.string M,.string T,.int .i64 a,.int .i64 (n:Nat)]∧Zf w20 (.slice ya yl yc) zs):=⟨HR4.out.below hb,hv20⟩;clear hh hb hv20)
  | (go_at_call 49;refine (HSU.out _ _ HA.out.1.bel HA.out.2).mono ?_;intro e21 w21 hh;obtain ⟨za,zl,zc,rfl,hv21,hb⟩:=hh.out;have HA2:Hid (Rn w w21 m c [.string S,.string M,.string T,.int .i64 a,.int .i64 (n:Nat)]∧Zf w21 (.slice za zl zc) (Dg.Xw 256 zs)):=⟨HA.out.1.below hb,hv21⟩;clear hh hb hv21)
  | (go_at_call 47;refine (HSK.out _ _ HA2.out.2).mono ?_;intro e22 w22 hh;obtain ⟨g22,rfl,hb⟩:=hh.out;have HA3:Hid (Rn w w22 m c [.string S,.string M,.string T,.int .i64 a,.int .i64 (n:Nat)]):=HA2.out.1.below hb;obtain ⟨x22,hx⟩:=HA3.out.cb.cell 8 (by decide);have hfz:=HA3.out.cb.frozen 8;clear hh hb))
 obtain ⟨w23,hw⟩:∃ x,x=w22.setCell ⟨c,8,none⟩ (.pointer (some ⟨g22,0,none⟩)):=⟨_,rfl⟩
 have HR99:Hid (Rn w w23 m c [.string S,.string M,.string T,.int .i64 a,.int .i64 (n:Nat)]):=by rw[hw];exact HA3.out.set 8 _
 rw[←hw]
 clear hw HA HA2 HA3 hx hfz HR4
 go_wp2
 go_ret2
 exact ⟨c,rfl,HR99.out.bel⟩
end Go.Proofs.YtehlppaidgkpaaaGreatDoor
