import Derived.Test.YtehlppaidgkpaaaGreatDoorFdEqZ
import Derived.Test.YtehlppaidgkpaaaGreatDoorPart00
namespace Go.Proofs.YtehlppaidgkpaaaGreatDoor.Fd
open Go.RowKit Go.Proofs.YtehlppaidgkpaaaGreatDoor.Fld
set_option linter.unusedVariables false
set_option linter.unusedSimpArgs false
theorem Vw {P:Program} {ops:Array Oper} {md:Region.Mode} {S:World→Prop} {Q:Exit→Act→World→Prop} (i d:Nat) (v:Value) {oi:Oper} {fuel:Nat} {listed:Array Bool} {tmps:Array Value} {ds:List Deferred} {w:World} (hi:ops[i]?=some oi) (hd:oi.dst=some d)
  (hs:Region.noSelect ops=true) (hf:Region.free md ops listed i=true) (hr:(Region.ready md ops listed).contains i=true)
  (hQ:∀ c a w,Q (.panic c) (a.put oi.dst v) w→Q (.panic c) a w) (hS:S w) (hy:YieldsIf P ops S oi v ⟨tmps,ds⟩)
  (h:wpAnyH P md ops Q S fuel (listed.setIfInBounds i true) ⟨tmps.setIfInBounds d v,ds⟩ w):wpAnyH P md ops Q S (fuel+1) listed ⟨tmps,ds⟩ w:=by
 refine wpAnyH_take hi hs hf hr hQ hy hS ?_
 rw[hd]
 exact h
theorem Zc {B:Nat} {w w':World} {g o n:Nat} (h:w.there g o n) (hb:Below B w w') (hg:g<B):w'.there g o n:=fun j hj=>by
 have e:w'.heap[g]?=w.heap[g]?:=hb.block g hg
 rw[World.cell?_of_block (a:=⟨g,o+j,none⟩) e,World.frozen?_of_block (a:=⟨g,o+j,none⟩) e]
 exact h j hj
theorem Zn {B:Nat} {w w':World} {g:Nat} {L:List Value} (h:w.rangeAt g 0 L) (hb:Below B w w') (hg:g<B):w'.rangeAt g 0 L:=fun j v hv=>(hb.cell (p:=⟨g,0+j,none⟩) hg).trans (h j v hv)
def PL (v:BitVec 128):List Value:=[.int .u64 (hiV v:Nat),.int .u64 (loV v:Nat)]
theorem Zbg:PL 0#128=[.int .u64 0,.int .u64 0]:=by simp [PL,hiV,loV]
theorem Mo (w:World):(w.alloc (.cells #[.int .u64 0,.int .u64 0] 82)).rangeAt w.heap.size 0 (PL 0#128):=by rw[Zbg];exact Zt w #[.int .u64 0,.int .u64 0] 82
theorem Nc {P:Program} {ops:Array Oper} {rest:List Oper} {op:Oper} {a:Act} {w:World} {Q:Exit→Act→World→Prop} (ty:TypeId) (x:Operand) (ho:op.op=.load ty x) (hw:Region.wanted op (yielded ops a.tmps)=true)
  (b o:Nat) (hx:a.eval x=.pointer (some ⟨b,o,none⟩)) (cs:List Value) (d:TypeDesc) (hc:w.rangeAt b o cs) (hu:P.underlying ty=some d) (hd:d.isRow=true) (hi:(P.info? ty).map (·.size)=some cs.length)
  (h:wpList P ops Q rest (a.put op.dst (.agg cs.toArray)) w):wpList P ops Q (op::rest) a w:=
 wpList_step fun K hK=>by
  rw[if_pos hw]
  exact wp_load_mid ty x ho b o hx cs d hc hu hd hi (hK _ _ h)
set_option maxHeartbeats 1600000 in
set_option maxRecDepth 100000 in
theorem Db (v:BitVec 128) (w:World):Calls Tryz.prog 36 #[BV v] w fun e w'=>e=.returned (PV v)∧Below w.heap.size w w':=by
 have HA:Hid (Below w.heap.size w ((w.alloc (.cells #[.int .u8 (byV v 0:Nat),.int .u8 (byV v 1:Nat),.int .u8 (byV v 2:Nat),.int .u8 (byV v 3:Nat),.int .u8 (byV v 4:Nat),.int .u8 (byV v 5:Nat),.int .u8 (byV v 6:Nat),.int .u8 (byV v 7:Nat),.int .u8 (byV v 8:Nat),.int .u8 (byV v 9:Nat),.int .u8 (byV v 10:Nat),.int .u8 (byV v 11:Nat),.int .u8 (byV v 12:Nat),.int .u8 (byV v 13:Nat),.int .u8 (byV v 14:Nat),.int .u8 (byV v 15:Nat)] 27)).alloc (.cells #[.int .u64 0,.int .u64 0] 82))∧((w.alloc (.cells #[.int .u8 (byV v 0:Nat),.int .u8 (byV v 1:Nat),.int .u8 (byV v 2:Nat),.int .u8 (byV v 3:Nat),.int .u8 (byV v 4:Nat),.int .u8 (byV v 5:Nat),.int .u8 (byV v 6:Nat),.int .u8 (byV v 7:Nat),.int .u8 (byV v 8:Nat),.int .u8 (byV v 9:Nat),.int .u8 (byV v 10:Nat),.int .u8 (byV v 11:Nat),.int .u8 (byV v 12:Nat),.int .u8 (byV v 13:Nat),.int .u8 (byV v 14:Nat),.int .u8 (byV v 15:Nat)] 27)).alloc (.cells #[.int .u64 0,.int .u64 0] 82)).rangeAt w.heap.size 0 (BL v)∧((w.alloc (.cells #[.int .u8 (byV v 0:Nat),.int .u8 (byV v 1:Nat),.int .u8 (byV v 2:Nat),.int .u8 (byV v 3:Nat),.int .u8 (byV v 4:Nat),.int .u8 (byV v 5:Nat),.int .u8 (byV v 6:Nat),.int .u8 (byV v 7:Nat),.int .u8 (byV v 8:Nat),.int .u8 (byV v 9:Nat),.int .u8 (byV v 10:Nat),.int .u8 (byV v 11:Nat),.int .u8 (byV v 12:Nat),.int .u8 (byV v 13:Nat),.int .u8 (byV v 14:Nat),.int .u8 (byV v 15:Nat)] 27)).alloc (.cells #[.int .u64 0,.int .u64 0] 82)).there (w.heap.size+1) 0 2∧((w.alloc (.cells #[.int .u8 (byV v 0:Nat),.int .u8 (byV v 1:Nat),.int .u8 (byV v 2:Nat),.int .u8 (byV v 3:Nat),.int .u8 (byV v 4:Nat),.int .u8 (byV v 5:Nat),.int .u8 (byV v 6:Nat),.int .u8 (byV v 7:Nat),.int .u8 (byV v 8:Nat),.int .u8 (byV v 9:Nat),.int .u8 (byV v 10:Nat),.int .u8 (byV v 11:Nat),.int .u8 (byV v 12:Nat),.int .u8 (byV v 13:Nat),.int .u8 (byV v 14:Nat),.int .u8 (byV v 15:Nat)] 27)).alloc (.cells #[.int .u64 0,.int .u64 0] 82)).heap.size=w.heap.size+2):=by
  refine ⟨Hn w _ _,Zn (Zt w #[.int .u8 (byV v 0:Nat),.int .u8 (byV v 1:Nat),.int .u8 (byV v 2:Nat),.int .u8 (byV v 3:Nat),.int .u8 (byV v 4:Nat),.int .u8 (byV v 5:Nat),.int .u8 (byV v 6:Nat),.int .u8 (byV v 7:Nat),.int .u8 (byV v 8:Nat),.int .u8 (byV v 9:Nat),.int .u8 (byV v 10:Nat),.int .u8 (byV v 11:Nat),.int .u8 (byV v 12:Nat),.int .u8 (byV v 13:Nat),.int .u8 (byV v 14:Nat),.int .u8 (byV v 15:Nat)] 27) ((Below.refl _ _).alloc (Nat.le_refl _) _) (by simp),?_,by simp⟩
  have h:=Zf (w.alloc (.cells #[.int .u8 (byV v 0:Nat),.int .u8 (byV v 1:Nat),.int .u8 (byV v 2:Nat),.int .u8 (byV v 3:Nat),.int .u8 (byV v 4:Nat),.int .u8 (byV v 5:Nat),.int .u8 (byV v 6:Nat),.int .u8 (byV v 7:Nat),.int .u8 (byV v 8:Nat),.int .u8 (byV v 9:Nat),.int .u8 (byV v 10:Nat),.int .u8 (byV v 11:Nat),.int .u8 (byV v 12:Nat),.int .u8 (byV v 13:Nat),.int .u8 (byV v 14:Nat),.int .u8 (byV v 15:Nat)] 27)) #[.int .u64 0,.int .u64 0] 82 2 (Nat.le_refl _)
  simpa using h
 have KF:Hid (∀ u,Calls Tryz.prog 61 #[.agg (BL v).toArray] u fun e w'=>e=.returned (.tuple #[.int .u64 (hiV v:Nat),.int .u64 (loV v:Nat)])∧Below u.heap.size u w'):=fun u=>Va v u
 show Calls Tryz.prog 36 #[.agg #[.int .u8 (byV v 0:Nat),.int .u8 (byV v 1:Nat),.int .u8 (byV v 2:Nat),.int .u8 (byV v 3:Nat),.int .u8 (byV v 4:Nat),.int .u8 (byV v 5:Nat),.int .u8 (byV v 6:Nat),.int .u8 (byV v 7:Nat),.int .u8 (byV v 8:Nat),.int .u8 (byV v 9:Nat),.int .u8 (byV v 10:Nat),.int .u8 (byV v 11:Nat),.int .u8 (byV v 12:Nat),.int .u8 (byV v 13:Nat),.int .u8 (byV v 14:Nat),.int .u8 (byV v 15:Nat)]] w _
 go_enter Tryz.func36,Tryz.ntmps36
 go_upto_region 1 with fail
 generalize (w.alloc (.cells #[.int .u8 (byV v 0:Nat),.int .u8 (byV v 1:Nat),.int .u8 (byV v 2:Nat),.int .u8 (byV v 3:Nat),.int .u8 (byV v 4:Nat),.int .u8 (byV v 5:Nat),.int .u8 (byV v 6:Nat),.int .u8 (byV v 7:Nat),.int .u8 (byV v 8:Nat),.int .u8 (byV v 9:Nat),.int .u8 (byV v 10:Nat),.int .u8 (byV v 11:Nat),.int .u8 (byV v 12:Nat),.int .u8 (byV v 13:Nat),.int .u8 (byV v 14:Nat),.int .u8 (byV v 15:Nat)] 27)).alloc (.cells #[.int .u64 0,.int .u64 0] 82)=w2 at HA ⊢
 obtain ⟨L,HL⟩:∃ L,Hid (L=BL v):=⟨_,rfl⟩
 rw[←HL.out] at HA KF
 have HLl:Hid (L.length=16):=by show _=_;rw[HL.out];rfl
 go_wp2_with (first
  | (refine wpList_load_mid (by rfl) 27 (.tmp 1) (by rfl) w.heap.size 0 (by rfl) L _ HA.out.2.1 Tryz.underlying27 rfl (by rw[HLl.out];exact Yl) ?_)
  | (go_at_call 61;refine (KF.out _).mono ?_))
 rintro e w3 ⟨rfl,hb3⟩
 have H3:Hid (w3.there (w.heap.size+1) 0 2∧Below w.heap.size w w3):=by
  obtain ⟨p1,p2,p3,p4⟩:=HA.out
  exact ⟨Zc p3 hb3 (by omega),p1.trans (hb3.mono (by omega))⟩
 clear hb3 KF
 obtain ⟨hi,HH⟩:∃ x,Hid (x=hiV v):=⟨_,rfl⟩
 obtain ⟨lo,HLo⟩:∃ x,Hid (x=loV v):=⟨_,rfl⟩
 rw[←HH.out,←HLo.out]
 go_wp2_with (first
  | (refine wpList_store_mid (by rfl) 82 (.tmp 2) (.tmp 12) (by rfl) (w.heap.size+1) 0 #[.int .u64 (hi:Nat),.int .u64 (lo:Nat)] (by rfl) (by rfl) H3.out.1 Z3 (by kernel_rfl) ?_))
 refine Z4 [.int .u64 (hi:Nat),.int .u64 (lo:Nat)] Tryz.results36 rfl (World.rangeAt_setCells_same _ _ _ _ H3.out.1) Tryz.underlying82 rfl Z3 ⟨?_,Zb _ (by omega) _ _ _ H3.out.2⟩
 rw[HH.out,HLo.out]
 rfl
structure Qz (w0:World) (A1 A2:Nat) (a b:BitVec 128) (u:World):Prop where
 old:Below w0.heap.size w0 u
 far1:w0.heap.size≤A1
 far2:w0.heap.size≤A2
 here1:A1<u.heap.size
 here2:A2<u.heap.size
 c1:u.rangeAt A1 0 (PL a)
 c2:u.rangeAt A2 0 (PL b)
theorem Qz.mk' {w0 u:World} {A1 A2:Nat} {a b:BitVec 128} (hS:Below w0.heap.size w0 u) (g1:w0.heap.size≤A1∧A1<u.heap.size) (g2:w0.heap.size≤A2∧A2<u.heap.size) (hne:A1≠A2) (t1:u.there A1 0 2) (t2:u.there A2 0 2) :
  Qz w0 A1 A2 a b ((u.setCells A1 0 (PL a)).setCells A2 0 (PL b)):=
 ⟨Zb _ g2.1 _ _ _ (Zb _ g1.1 _ _ _ hS),g1.1,g2.1,by rw[size_setCells,size_setCells];exact g1.2,by rw[size_setCells,size_setCells];exact g2.2,World.rangeAt_setCells_apart (World.rangeAt_setCells_same _ _ _ _ t1) _ _ _ (Or.inl hne),World.rangeAt_setCells_same _ _ _ _ (World.there_setCells t2 _ _ _)⟩
end Go.Proofs.YtehlppaidgkpaaaGreatDoor.Fd
