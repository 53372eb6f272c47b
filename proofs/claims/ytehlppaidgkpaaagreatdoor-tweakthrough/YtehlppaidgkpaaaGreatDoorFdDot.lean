import Derived.Test.YtehlppaidgkpaaaGreatDoorFdEqZ
import Derived.Test.YtehlppaidgkpaaaGreatDoorPart00
namespace Go.Proofs.YtehlppaidgkpaaaGreatDoor.Fd
open Go.RowKit Go.Proofs.YtehlppaidgkpaaaGreatDoor.Fld
set_option linter.unusedVariables false
set_option linter.unusedSimpArgs false
theorem Zq {B:Nat} {w w':World} {g o n:Nat} (h:w.there g o n) (hb:Below B w w') (hg:g<B):w'.there g o n:=fun j hj=>by
 have e:w'.heap[g]?=w.heap[g]?:=hb.block g hg
 rw[World.cell?_of_block (a:=⟨g,o+j,none⟩) e,World.frozen?_of_block (a:=⟨g,o+j,none⟩) e]
 exact h j hj
theorem Y4 {B:Nat} {w w':World} {g:Nat} {L:List Value} (h:w.rangeAt g 0 L) (hb:Below B w w') (hg:g<B):w'.rangeAt g 0 L:=fun j v hv=>(hb.cell (p:=⟨g,0+j,none⟩) hg).trans (h j v hv)
def PL (v:BitVec 128):List Value:=[.int .u64 (hiV v:Nat),.int .u64 (loV v:Nat)]
set_option maxHeartbeats 1600000 in
set_option maxRecDepth 100000 in
theorem F6 (v:BitVec 128) (w:World):Calls Tryz.prog 36 #[BV v] w fun e w'=>e=.returned (PV v)∧Below w.heap.size w w':=by
 have HA:Hid (Below w.heap.size w ((w.alloc (.cells #[.int .u8 (byV v 0:Nat),.int .u8 (byV v 1:Nat),.int .u8 (byV v 2:Nat),.int .u8 (byV v 3:Nat),.int .u8 (byV v 4:Nat),.int .u8 (byV v 5:Nat),.int .u8 (byV v 6:Nat),.int .u8 (byV v 7:Nat),.int .u8 (byV v 8:Nat),.int .u8 (byV v 9:Nat),.int .u8 (byV v 10:Nat),.int .u8 (byV v 11:Nat),.int .u8 (byV v 12:Nat),.int .u8 (byV v 13:Nat),.int .u8 (byV v 14:Nat),.int .u8 (byV v 15:Nat)] 27)).alloc (.cells #[.int .u64 0,.int .u64 0] 82))∧((w.alloc (.cells #[.int .u8 (byV v 0:Nat),.int .u8 (byV v 1:Nat),.int .u8 (byV v 2:Nat),.int .u8 (byV v 3:Nat),.int .u8 (byV v 4:Nat),.int .u8 (byV v 5:Nat),.int .u8 (byV v 6:Nat),.int .u8 (byV v 7:Nat),.int .u8 (byV v 8:Nat),.int .u8 (byV v 9:Nat),.int .u8 (byV v 10:Nat),.int .u8 (byV v 11:Nat),.int .u8 (byV v 12:Nat),.int .u8 (byV v 13:Nat),.int .u8 (byV v 14:Nat),.int .u8 (byV v 15:Nat)] 27)).alloc (.cells #[.int .u64 0,.int .u64 0] 82)).rangeAt w.heap.size 0 (BL v)∧((w.alloc (.cells #[.int .u8 (byV v 0:Nat),.int .u8 (byV v 1:Nat),.int .u8 (byV v 2:Nat),.int .u8 (byV v 3:Nat),.int .u8 (byV v 4:Nat),.int .u8 (byV v 5:Nat),.int .u8 (byV v 6:Nat),.int .u8 (byV v 7:Nat),.int .u8 (byV v 8:Nat),.int .u8 (byV v 9:Nat),.int .u8 (byV v 10:Nat),.int .u8 (byV v 11:Nat),.int .u8 (byV v 12:Nat),.int .u8 (byV v 13:Nat),.int .u8 (byV v 14:Nat),.int .u8 (byV v 15:Nat)] 27)).alloc (.cells #[.int .u64 0,.int .u64 0] 82)).there (w.heap.size+1) 0 2∧((w.alloc (.cells #[.int .u8 (byV v 0:Nat),.int .u8 (byV v 1:Nat),.int .u8 (byV v 2:Nat),.int .u8 (byV v 3:Nat),.int .u8 (byV v 4:Nat),.int .u8 (byV v 5:Nat),.int .u8 (byV v 6:Nat),.int .u8 (byV v 7:Nat),.int .u8 (byV v 8:Nat),.int .u8 (byV v 9:Nat),.int .u8 (byV v 10:Nat),.int .u8 (byV v 11:Nat),.int .u8 (byV v 12:Nat),.int .u8 (byV v 13:Nat),.int .u8 (byV v 14:Nat),.int .u8 (byV v 15:Nat)] 27)).alloc (.cells #[.int .u64 0,.int .u64 0] 82)).heap.size=w.heap.size+2):=by
  refine ⟨D8 w _ _,Y4 (Zy w #[.int .u8 (byV v 0:Nat),.int .u8 (byV v 1:Nat),.int .u8 (byV v 2:Nat),.int .u8 (byV v 3:Nat),.int .u8 (byV v 4:Nat),.int .u8 (byV v 5:Nat),.int .u8 (byV v 6:Nat),.int .u8 (byV v 7:Nat),.int .u8 (byV v 8:Nat),.int .u8 (byV v 9:Nat),.int .u8 (byV v 10:Nat),.int .u8 (byV v 11:Nat),.int .u8 (byV v 12:Nat),.int .u8 (byV v 13:Nat),.int .u8 (byV v 14:Nat),.int .u8 (byV v 15:Nat)] 27) ((Below.refl _ _).alloc (Nat.le_refl _) _) (by simp),?_,by simp⟩
  have h:=Zi (w.alloc (.cells #[.int .u8 (byV v 0:Nat),.int .u8 (byV v 1:Nat),.int .u8 (byV v 2:Nat),.int .u8 (byV v 3:Nat),.int .u8 (byV v 4:Nat),.int .u8 (byV v 5:Nat),.int .u8 (byV v 6:Nat),.int .u8 (byV v 7:Nat),.int .u8 (byV v 8:Nat),.int .u8 (byV v 9:Nat),.int .u8 (byV v 10:Nat),.int .u8 (byV v 11:Nat),.int .u8 (byV v 12:Nat),.int .u8 (byV v 13:Nat),.int .u8 (byV v 14:Nat),.int .u8 (byV v 15:Nat)] 27)) #[.int .u64 0,.int .u64 0] 82 2 (Nat.le_refl _)
  simpa using h
 have KF:Hid (∀ u,Calls Tryz.prog 61 #[.agg (BL v).toArray] u fun e w'=>e=.returned (.tuple #[.int .u64 (hiV v:Nat),.int .u64 (loV v:Nat)])∧Below u.heap.size u w'):=fun u=>F9 v u
 show Calls Tryz.prog 36 #[.agg #[.int .u8 (byV v 0:Nat),.int .u8 (byV v 1:Nat),.int .u8 (byV v 2:Nat),.int .u8 (byV v 3:Nat),.int .u8 (byV v 4:Nat),.int .u8 (byV v 5:Nat),.int .u8 (byV v 6:Nat),.int .u8 (byV v 7:Nat),.int .u8 (byV v 8:Nat),.int .u8 (byV v 9:Nat),.int .u8 (byV v 10:Nat),.int .u8 (byV v 11:Nat),.int .u8 (byV v 12:Nat),.int .u8 (byV v 13:Nat),.int .u8 (byV v 14:Nat),.int .u8 (byV v 15:Nat)]] w _
 go_enter Tryz.func36,Tryz.ntmps36
 go_upto_region 1 with fail
 generalize (w.alloc (.cells #[.int .u8 (byV v 0:Nat),.int .u8 (byV v 1:Nat),.int .u8 (byV v 2:Nat),.int .u8 (byV v 3:Nat),.int .u8 (byV v 4:Nat),.int .u8 (byV v 5:Nat),.int .u8 (byV v 6:Nat),.int .u8 (byV v 7:Nat),.int .u8 (byV v 8:Nat),.int .u8 (byV v 9:Nat),.int .u8 (byV v 10:Nat),.int .u8 (byV v 11:Nat),.int .u8 (byV v 12:Nat),.int .u8 (byV v 13:Nat),.int .u8 (byV v 14:Nat),.int .u8 (byV v 15:Nat)] 27)).alloc (.cells #[.int .u64 0,.int .u64 0] 82)=w2 at HA ⊢
 obtain ⟨L,HL⟩:∃ L,Hid (L=BL v):=⟨_,rfl⟩
 rw[←HL.out] at HA KF
 have HLl:Hid (L.length=16):=by show _=_;rw[HL.out];rfl
 go_wp2_with (first
  | (refine wpList_load_mid (by rfl) 27 (.tmp 1) (by rfl) w.heap.size 0 (by rfl) L _ HA.out.2.1 Tryz.underlying27 rfl (by rw[HLl.out];exact Xc) ?_)
  | (go_at_call 61;refine (KF.out _).mono ?_))
 rintro e w3 ⟨rfl,hb3⟩
 have H3:Hid (w3.there (w.heap.size+1) 0 2∧Below w.heap.size w w3):=by
  obtain ⟨p1,p2,p3,p4⟩:=HA.out
  exact ⟨Zq p3 hb3 (by omega),p1.trans (hb3.mono (by omega))⟩
 clear hb3 KF
 obtain ⟨hi,HH⟩:∃ x,Hid (x=hiV v):=⟨_,rfl⟩
 obtain ⟨lo,HLo⟩:∃ x,Hid (x=loV v):=⟨_,rfl⟩
 rw[←HH.out,←HLo.out]
 go_wp2_with (first
  | (refine wpList_store_mid (by rfl) 82 (.tmp 2) (.tmp 12) (by rfl) (w.heap.size+1) 0 #[.int .u64 (hi:Nat),.int .u64 (lo:Nat)] (by rfl) (by rfl) H3.out.1 De (by kernel_rfl) ?_))
 refine Yf [.int .u64 (hi:Nat),.int .u64 (lo:Nat)] Tryz.results36 rfl (World.rangeAt_setCells_same _ _ _ _ H3.out.1) Tryz.underlying82 rfl De ⟨?_,Zk _ (by omega) _ _ _ H3.out.2⟩
 rw[HH.out,HLo.out]
 rfl
end Go.Proofs.YtehlppaidgkpaaaGreatDoor.Fd
