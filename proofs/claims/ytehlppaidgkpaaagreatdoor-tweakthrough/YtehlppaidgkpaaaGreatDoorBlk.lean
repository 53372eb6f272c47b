import Derived.Test.YtehlppaidgkpaaaGreatDoorPart00
import Derived.Test.YtehlppaidgkpaaaGreatDoorPart14
namespace Go.Proofs.YtehlppaidgkpaaaGreatDoor
open Go.RowKit
set_option linter.unusedVariables false
def blk (b0 b1 b2 b3 b4 b5 b6 b7 b8 b9 b10 b11 b12 b13 b14 b15:Nat):Value:=.agg #[.int .u8 (b0:Nat),.int .u8 (b1:Nat),.int .u8 (b2:Nat),.int .u8 (b3:Nat),.int .u8 (b4:Nat),.int .u8 (b5:Nat),.int .u8 (b6:Nat),.int .u8 (b7:Nat),.int .u8 (b8:Nat),.int .u8 (b9:Nat),.int .u8 (b10:Nat),.int .u8 (b11:Nat),.int .u8 (b12:Nat),.int .u8 (b13:Nat),.int .u8 (b14:Nat),.int .u8 (b15:Nat)]
theorem below_alloc2 {b:World} {n:Nat} {o1 o2:Obj} (hn:b.heap.size=n):Below n (b.alloc o1) ((b.alloc o2).drew):=by
 subst hn
 exact ⟨rfl,rfl,rfl,by simp [World.drew],fun k hk=>by show (b.alloc o2).heap[k]?=_;rw[Below.heap_alloc _ _ _ hk,Below.heap_alloc _ _ _ hk]⟩
variable {P:Program} {ops:Array Oper} {md:Region.Mode} {S:World→Prop}
theorem Sh {Q:Exit→Act→World→Prop} (i d:Nat) (v:Value) {oi:Oper} {fuel:Nat} {listed:Array Bool} {tmps:Array Value} {ds:List Deferred} {w:World} (hi:ops[i]?=some oi) (hd:oi.dst=some d)
  (hs:Region.noSelect ops=true) (hf:Region.free md ops listed i=true) (hr:(Region.ready md ops listed).contains i=true)
  (hQ:∀ c a w,Q (.panic c) (a.put oi.dst v) w→Q (.panic c) a w) (hS:S w) (hy:YieldsIf P ops S oi v ⟨tmps,ds⟩)
  (h:wpAnyH P md ops Q S fuel (listed.setIfInBounds i true) ⟨tmps.setIfInBounds d v,ds⟩ w):wpAnyH P md ops Q S (fuel+1) listed ⟨tmps,ds⟩ w:=by
 refine wpAnyH_take hi hs hf hr hQ hy hS ?_
 rw[hd]
 exact h
theorem tH {Q:Exit→Act→World→Prop} (i d:Nat) (v:Value) {oi:Oper} {fuel:Nat} {listed:Array Bool} {tmps:Array Value} {ds:List Deferred} {w:World} (hi:ops[i]?=some oi) (hd:oi.dst=some d)
  (hb:(Region.noSelect ops&&(Region.free md ops listed i&&(Region.ready md ops listed).contains i))=true) (hS:S w) (hy:YieldsIf P ops S oi v ⟨tmps,ds⟩)
  (h:wpAnyH P md ops Q S fuel (listed.setIfInBounds i true) ⟨tmps.setIfInBounds d v,ds⟩ w) (hQ:∀ c a w,Q (.panic c) (a.put oi.dst v) w→Q (.panic c) a w:=by exact fun _ _ _ h=>h):wpAnyH P md ops Q S (fuel+1) listed ⟨tmps,ds⟩ w:=by
 rw[Bool.and_eq_true,Bool.and_eq_true] at hb
 exact Sh i d v hi hd hb.1 hb.2.1 hb.2.2 hQ hS hy h
theorem Qt {op:Oper} {a:Act} (hw:Region.wanted op (yielded ops a.tmps)=true) (ty:TypeId) (parts:Array (Nat×Operand)) (ho:op.op=.build ty parts) (cells:Array Value) (hb:P.built ty (parts.map fun (i,x)=>(i,a.eval x)).toList=some cells):YieldsIf P ops S op (.agg cells) a:=
 .inl ⟨hw,fun w _=>by
  have hrun:=run_build (P:=P) w ty (parts.map fun (i,x)=>(i,a.eval x)) cells hb
  unfold execOp
  simp only[ho,Sem.run_bind,hrun,Result.andThen_ok,Sem.run_pure]⟩
set_option maxHeartbeats 3200000 in
set_option maxRecDepth 100000 in
theorem Dt (b0 b1 b2 b3 b4 b5 b6 b7 b8 b9 b10 b11 b12 b13 b14 b15:Nat) (w:World) (l0:b0<256) (l1:b1<256) (l2:b2<256) (l3:b3<256) (l4:b4<256) (l5:b5<256) (l6:b6<256) (l7:b7<256) (l8:b8<256) (l9:b9<256) (l10:b10<256) (l11:b11<256) (l12:b12<256) (l13:b13<256) (l14:b14<256) (l15:b15<256) :
  Calls Tryz.prog 87 #[blk b0 b1 b2 b3 b4 b5 b6 b7 b8 b9 b10 b11 b12 b13 b14 b15] w fun e w'=>e=.returned (Rl (wd b0 b1 b2 b3) (wd b4 b5 b6 b7) (wd b8 b9 b10 b11) (wd b12 b13 b14 b15))∧Below w.heap.size w w':=by
 unfold blk Rl
 have H2:=Xv w #[.int .u8 (b0:Nat),.int .u8 (b1:Nat),.int .u8 (b2:Nat),.int .u8 (b3:Nat),.int .u8 (b4:Nat),.int .u8 (b5:Nat),.int .u8 (b6:Nat),.int .u8 (b7:Nat),.int .u8 (b8:Nat),.int .u8 (b9:Nat),.int .u8 (b10:Nat),.int .u8 (b11:Nat),.int .u8 (b12:Nat),.int .u8 (b13:Nat),.int .u8 (b14:Nat),.int .u8 (b15:Nat)] #[.int .u32 0,.int .u32 0,.int .u32 0,.int .u32 0] 27 177
 have HS2:=H2.2
 clear H2
 obtain ⟨v0,HV0⟩:∃ v:Nat,Hid (v=wd b0 b1 b2 b3):=⟨_,rfl⟩
 have hc0:Hid (∀ w',Calls Tryz.prog 123 #[.int .u8 (b0:Nat),.int .u8 (b1:Nat),.int .u8 (b2:Nat),.int .u8 (b3:Nat)] w' fun e w''=>e=.returned (.int .u32 (v0:Nat))∧w''=w'):=fun w'=>by rw[HV0.out];exact Jl b0 b1 b2 b3 l0 l1 l2 l3 w'
 rw[←HV0.out]
 obtain ⟨v1,HV1⟩:∃ v:Nat,Hid (v=wd b4 b5 b6 b7):=⟨_,rfl⟩
 have hc1:Hid (∀ w',Calls Tryz.prog 123 #[.int .u8 (b4:Nat),.int .u8 (b5:Nat),.int .u8 (b6:Nat),.int .u8 (b7:Nat)] w' fun e w''=>e=.returned (.int .u32 (v1:Nat))∧w''=w'):=fun w'=>by rw[HV1.out];exact Jl b4 b5 b6 b7 l4 l5 l6 l7 w'
 rw[←HV1.out]
 obtain ⟨v2,HV2⟩:∃ v:Nat,Hid (v=wd b8 b9 b10 b11):=⟨_,rfl⟩
 have hc2:Hid (∀ w',Calls Tryz.prog 123 #[.int .u8 (b8:Nat),.int .u8 (b9:Nat),.int .u8 (b10:Nat),.int .u8 (b11:Nat)] w' fun e w''=>e=.returned (.int .u32 (v2:Nat))∧w''=w'):=fun w'=>by rw[HV2.out];exact Jl b8 b9 b10 b11 l8 l9 l10 l11 w'
 rw[←HV2.out]
 obtain ⟨v3,HV3⟩:∃ v:Nat,Hid (v=wd b12 b13 b14 b15):=⟨_,rfl⟩
 have hc3:Hid (∀ w',Calls Tryz.prog 123 #[.int .u8 (b12:Nat),.int .u8 (b13:Nat),.int .u8 (b14:Nat),.int .u8 (b15:Nat)] w' fun e w''=>e=.returned (.int .u32 (v3:Nat))∧w''=w'):=fun w'=>by rw[HV3.out];exact Jl b12 b13 b14 b15 l12 l13 l14 l15 w'
 rw[←HV3.out]
 clear l0 l1 l2 l3 l4 l5 l6 l7 l8 l9 l10 l11 l12 l13 l14 l15
 have HF:Hid (∀ i v,#[.int .u8 (b0:Nat),.int .u8 (b1:Nat),.int .u8 (b2:Nat),.int .u8 (b3:Nat),.int .u8 (b4:Nat),.int .u8 (b5:Nat),.int .u8 (b6:Nat),.int .u8 (b7:Nat),.int .u8 (b8:Nat),.int .u8 (b9:Nat),.int .u8 (b10:Nat),.int .u8 (b11:Nat),.int .u8 (b12:Nat),.int .u8 (b13:Nat),.int .u8 (b14:Nat),.int .u8 (b15:Nat)][i]?=some v→∀ u,Below (w.heap.size+1) ((w.alloc (.cells #[.int .u8 (b0:Nat),.int .u8 (b1:Nat),.int .u8 (b2:Nat),.int .u8 (b3:Nat),.int .u8 (b4:Nat),.int .u8 (b5:Nat),.int .u8 (b6:Nat),.int .u8 (b7:Nat),.int .u8 (b8:Nat),.int .u8 (b9:Nat),.int .u8 (b10:Nat),.int .u8 (b11:Nat),.int .u8 (b12:Nat),.int .u8 (b13:Nat),.int .u8 (b14:Nat),.int .u8 (b15:Nat)] 27)).alloc (.cells #[.int .u32 0,.int .u32 0,.int .u32 0,.int .u32 0] 177)) u→u.cell? ⟨w.heap.size,i,none⟩=some v):=fun i v hv u hu=>(hu.cell (by simp)).trans (HS2 i v hv)
 have g0:Hid (∀ u,Below (w.heap.size+1) ((w.alloc (.cells #[.int .u8 (b0:Nat),.int .u8 (b1:Nat),.int .u8 (b2:Nat),.int .u8 (b3:Nat),.int .u8 (b4:Nat),.int .u8 (b5:Nat),.int .u8 (b6:Nat),.int .u8 (b7:Nat),.int .u8 (b8:Nat),.int .u8 (b9:Nat),.int .u8 (b10:Nat),.int .u8 (b11:Nat),.int .u8 (b12:Nat),.int .u8 (b13:Nat),.int .u8 (b14:Nat),.int .u8 (b15:Nat)] 27)).alloc (.cells #[.int .u32 0,.int .u32 0,.int .u32 0,.int .u32 0] 177)) u→u.cell? ⟨w.heap.size,0,none⟩=some (.int .u8 (b0:Nat))):=HF.out 0 _ rfl
 have g1:Hid (∀ u,Below (w.heap.size+1) ((w.alloc (.cells #[.int .u8 (b0:Nat),.int .u8 (b1:Nat),.int .u8 (b2:Nat),.int .u8 (b3:Nat),.int .u8 (b4:Nat),.int .u8 (b5:Nat),.int .u8 (b6:Nat),.int .u8 (b7:Nat),.int .u8 (b8:Nat),.int .u8 (b9:Nat),.int .u8 (b10:Nat),.int .u8 (b11:Nat),.int .u8 (b12:Nat),.int .u8 (b13:Nat),.int .u8 (b14:Nat),.int .u8 (b15:Nat)] 27)).alloc (.cells #[.int .u32 0,.int .u32 0,.int .u32 0,.int .u32 0] 177)) u→u.cell? ⟨w.heap.size,1,none⟩=some (.int .u8 (b1:Nat))):=HF.out 1 _ rfl
 have g2:Hid (∀ u,Below (w.heap.size+1) ((w.alloc (.cells #[.int .u8 (b0:Nat),.int .u8 (b1:Nat),.int .u8 (b2:Nat),.int .u8 (b3:Nat),.int .u8 (b4:Nat),.int .u8 (b5:Nat),.int .u8 (b6:Nat),.int .u8 (b7:Nat),.int .u8 (b8:Nat),.int .u8 (b9:Nat),.int .u8 (b10:Nat),.int .u8 (b11:Nat),.int .u8 (b12:Nat),.int .u8 (b13:Nat),.int .u8 (b14:Nat),.int .u8 (b15:Nat)] 27)).alloc (.cells #[.int .u32 0,.int .u32 0,.int .u32 0,.int .u32 0] 177)) u→u.cell? ⟨w.heap.size,2,none⟩=some (.int .u8 (b2:Nat))):=HF.out 2 _ rfl
 have g3:Hid (∀ u,Below (w.heap.size+1) ((w.alloc (.cells #[.int .u8 (b0:Nat),.int .u8 (b1:Nat),.int .u8 (b2:Nat),.int .u8 (b3:Nat),.int .u8 (b4:Nat),.int .u8 (b5:Nat),.int .u8 (b6:Nat),.int .u8 (b7:Nat),.int .u8 (b8:Nat),.int .u8 (b9:Nat),.int .u8 (b10:Nat),.int .u8 (b11:Nat),.int .u8 (b12:Nat),.int .u8 (b13:Nat),.int .u8 (b14:Nat),.int .u8 (b15:Nat)] 27)).alloc (.cells #[.int .u32 0,.int .u32 0,.int .u32 0,.int .u32 0] 177)) u→u.cell? ⟨w.heap.size,3,none⟩=some (.int .u8 (b3:Nat))):=HF.out 3 _ rfl
 have g4:Hid (∀ u,Below (w.heap.size+1) ((w.alloc (.cells #[.int .u8 (b0:Nat),.int .u8 (b1:Nat),.int .u8 (b2:Nat),.int .u8 (b3:Nat),.int .u8 (b4:Nat),.int .u8 (b5:Nat),.int .u8 (b6:Nat),.int .u8 (b7:Nat),.int .u8 (b8:Nat),.int .u8 (b9:Nat),.int .u8 (b10:Nat),.int .u8 (b11:Nat),.int .u8 (b12:Nat),.int .u8 (b13:Nat),.int .u8 (b14:Nat),.int .u8 (b15:Nat)] 27)).alloc (.cells #[.int .u32 0,.int .u32 0,.int .u32 0,.int .u32 0] 177)) u→u.cell? ⟨w.heap.size,4,none⟩=some (.int .u8 (b4:Nat))):=HF.out 4 _ rfl
 have g5:Hid (∀ u,Below (w.heap.size+1) ((w.alloc (.cells #[.int .u8 (b0:Nat),.int .u8 (b1:Nat),.int .u8 (b2:Nat),.int .u8 (b3:Nat),.int .u8 (b4:Nat),.int .u8 (b5:Nat),.int .u8 (b6:Nat),.int .u8 (b7:Nat),.int .u8 (b8:Nat),.int .u8 (b9:Nat),.int .u8 (b10:Nat),.int .u8 (b11:Nat),.int .u8 (b12:Nat),.int .u8 (b13:Nat),.int .u8 (b14:Nat),.int .u8 (b15:Nat)] 27)).alloc (.cells #[.int .u32 0,.int .u32 0,.int .u32 0,.int .u32 0] 177)) u→u.cell? ⟨w.heap.size,5,none⟩=some (.int .u8 (b5:Nat))):=HF.out 5 _ rfl
 have g6:Hid (∀ u,Below (w.heap.size+1) ((w.alloc (.cells #[.int .u8 (b0:Nat),.int .u8 (b1:Nat),.int .u8 (b2:Nat),.int .u8 (b3:Nat),.int .u8 (b4:Nat),.int .u8 (b5:Nat),.int .u8 (b6:Nat),.int .u8 (b7:Nat),.int .u8 (b8:Nat),.int .u8 (b9:Nat),.int .u8 (b10:Nat),.int .u8 (b11:Nat),.int .u8 (b12:Nat),.int .u8 (b13:Nat),.int .u8 (b14:Nat),.int .u8 (b15:Nat)] 27)).alloc (.cells #[.int .u32 0,.int .u32 0,.int .u32 0,.int .u32 0] 177)) u→u.cell? ⟨w.heap.size,6,none⟩=some (.int .u8 (b6:Nat))):=HF.out 6 _ rfl
 have g7:Hid (∀ u,Below (w.heap.size+1) ((w.alloc (.cells #[.int .u8 (b0:Nat),.int .u8 (b1:Nat),.int .u8 (b2:Nat),.int .u8 (b3:Nat),.int .u8 (b4:Nat),.int .u8 (b5:Nat),.int .u8 (b6:Nat),.int .u8 (b7:Nat),.int .u8 (b8:Nat),.int .u8 (b9:Nat),.int .u8 (b10:Nat),.int .u8 (b11:Nat),.int .u8 (b12:Nat),.int .u8 (b13:Nat),.int .u8 (b14:Nat),.int .u8 (b15:Nat)] 27)).alloc (.cells #[.int .u32 0,.int .u32 0,.int .u32 0,.int .u32 0] 177)) u→u.cell? ⟨w.heap.size,7,none⟩=some (.int .u8 (b7:Nat))):=HF.out 7 _ rfl
 have g8:Hid (∀ u,Below (w.heap.size+1) ((w.alloc (.cells #[.int .u8 (b0:Nat),.int .u8 (b1:Nat),.int .u8 (b2:Nat),.int .u8 (b3:Nat),.int .u8 (b4:Nat),.int .u8 (b5:Nat),.int .u8 (b6:Nat),.int .u8 (b7:Nat),.int .u8 (b8:Nat),.int .u8 (b9:Nat),.int .u8 (b10:Nat),.int .u8 (b11:Nat),.int .u8 (b12:Nat),.int .u8 (b13:Nat),.int .u8 (b14:Nat),.int .u8 (b15:Nat)] 27)).alloc (.cells #[.int .u32 0,.int .u32 0,.int .u32 0,.int .u32 0] 177)) u→u.cell? ⟨w.heap.size,8,none⟩=some (.int .u8 (b8:Nat))):=HF.out 8 _ rfl
 have g9:Hid (∀ u,Below (w.heap.size+1) ((w.alloc (.cells #[.int .u8 (b0:Nat),.int .u8 (b1:Nat),.int .u8 (b2:Nat),.int .u8 (b3:Nat),.int .u8 (b4:Nat),.int .u8 (b5:Nat),.int .u8 (b6:Nat),.int .u8 (b7:Nat),.int .u8 (b8:Nat),.int .u8 (b9:Nat),.int .u8 (b10:Nat),.int .u8 (b11:Nat),.int .u8 (b12:Nat),.int .u8 (b13:Nat),.int .u8 (b14:Nat),.int .u8 (b15:Nat)] 27)).alloc (.cells #[.int .u32 0,.int .u32 0,.int .u32 0,.int .u32 0] 177)) u→u.cell? ⟨w.heap.size,9,none⟩=some (.int .u8 (b9:Nat))):=HF.out 9 _ rfl
 have g10:Hid (∀ u,Below (w.heap.size+1) ((w.alloc (.cells #[.int .u8 (b0:Nat),.int .u8 (b1:Nat),.int .u8 (b2:Nat),.int .u8 (b3:Nat),.int .u8 (b4:Nat),.int .u8 (b5:Nat),.int .u8 (b6:Nat),.int .u8 (b7:Nat),.int .u8 (b8:Nat),.int .u8 (b9:Nat),.int .u8 (b10:Nat),.int .u8 (b11:Nat),.int .u8 (b12:Nat),.int .u8 (b13:Nat),.int .u8 (b14:Nat),.int .u8 (b15:Nat)] 27)).alloc (.cells #[.int .u32 0,.int .u32 0,.int .u32 0,.int .u32 0] 177)) u→u.cell? ⟨w.heap.size,10,none⟩=some (.int .u8 (b10:Nat))):=HF.out 10 _ rfl
 have g11:Hid (∀ u,Below (w.heap.size+1) ((w.alloc (.cells #[.int .u8 (b0:Nat),.int .u8 (b1:Nat),.int .u8 (b2:Nat),.int .u8 (b3:Nat),.int .u8 (b4:Nat),.int .u8 (b5:Nat),.int .u8 (b6:Nat),.int .u8 (b7:Nat),.int .u8 (b8:Nat),.int .u8 (b9:Nat),.int .u8 (b10:Nat),.int .u8 (b11:Nat),.int .u8 (b12:Nat),.int .u8 (b13:Nat),.int .u8 (b14:Nat),.int .u8 (b15:Nat)] 27)).alloc (.cells #[.int .u32 0,.int .u32 0,.int .u32 0,.int .u32 0] 177)) u→u.cell? ⟨w.heap.size,11,none⟩=some (.int .u8 (b11:Nat))):=HF.out 11 _ rfl
 have g12:Hid (∀ u,Below (w.heap.size+1) ((w.alloc (.cells #[.int .u8 (b0:Nat),.int .u8 (b1:Nat),.int .u8 (b2:Nat),.int .u8 (b3:Nat),.int .u8 (b4:Nat),.int .u8 (b5:Nat),.int .u8 (b6:Nat),.int .u8 (b7:Nat),.int .u8 (b8:Nat),.int .u8 (b9:Nat),.int .u8 (b10:Nat),.int .u8 (b11:Nat),.int .u8 (b12:Nat),.int .u8 (b13:Nat),.int .u8 (b14:Nat),.int .u8 (b15:Nat)] 27)).alloc (.cells #[.int .u32 0,.int .u32 0,.int .u32 0,.int .u32 0] 177)) u→u.cell? ⟨w.heap.size,12,none⟩=some (.int .u8 (b12:Nat))):=HF.out 12 _ rfl
 have g13:Hid (∀ u,Below (w.heap.size+1) ((w.alloc (.cells #[.int .u8 (b0:Nat),.int .u8 (b1:Nat),.int .u8 (b2:Nat),.int .u8 (b3:Nat),.int .u8 (b4:Nat),.int .u8 (b5:Nat),.int .u8 (b6:Nat),.int .u8 (b7:Nat),.int .u8 (b8:Nat),.int .u8 (b9:Nat),.int .u8 (b10:Nat),.int .u8 (b11:Nat),.int .u8 (b12:Nat),.int .u8 (b13:Nat),.int .u8 (b14:Nat),.int .u8 (b15:Nat)] 27)).alloc (.cells #[.int .u32 0,.int .u32 0,.int .u32 0,.int .u32 0] 177)) u→u.cell? ⟨w.heap.size,13,none⟩=some (.int .u8 (b13:Nat))):=HF.out 13 _ rfl
 have g14:Hid (∀ u,Below (w.heap.size+1) ((w.alloc (.cells #[.int .u8 (b0:Nat),.int .u8 (b1:Nat),.int .u8 (b2:Nat),.int .u8 (b3:Nat),.int .u8 (b4:Nat),.int .u8 (b5:Nat),.int .u8 (b6:Nat),.int .u8 (b7:Nat),.int .u8 (b8:Nat),.int .u8 (b9:Nat),.int .u8 (b10:Nat),.int .u8 (b11:Nat),.int .u8 (b12:Nat),.int .u8 (b13:Nat),.int .u8 (b14:Nat),.int .u8 (b15:Nat)] 27)).alloc (.cells #[.int .u32 0,.int .u32 0,.int .u32 0,.int .u32 0] 177)) u→u.cell? ⟨w.heap.size,14,none⟩=some (.int .u8 (b14:Nat))):=HF.out 14 _ rfl
 have g15:Hid (∀ u,Below (w.heap.size+1) ((w.alloc (.cells #[.int .u8 (b0:Nat),.int .u8 (b1:Nat),.int .u8 (b2:Nat),.int .u8 (b3:Nat),.int .u8 (b4:Nat),.int .u8 (b5:Nat),.int .u8 (b6:Nat),.int .u8 (b7:Nat),.int .u8 (b8:Nat),.int .u8 (b9:Nat),.int .u8 (b10:Nat),.int .u8 (b11:Nat),.int .u8 (b12:Nat),.int .u8 (b13:Nat),.int .u8 (b14:Nat),.int .u8 (b15:Nat)] 27)).alloc (.cells #[.int .u32 0,.int .u32 0,.int .u32 0,.int .u32 0] 177)) u→u.cell? ⟨w.heap.size,15,none⟩=some (.int .u8 (b15:Nat))):=HF.out 15 _ rfl
 clear HF HS2
 go_enter Tryz.func87,Tryz.ntmps87
 go_wp2
 refine wp_region_noPanic ?_
 refine wp_region_held_drew (S:=fun u=>Below (w.heap.size+1) ((w.alloc (.cells #[.int .u8 (b0:Nat),.int .u8 (b1:Nat),.int .u8 (b2:Nat),.int .u8 (b3:Nat),.int .u8 (b4:Nat),.int .u8 (b5:Nat),.int .u8 (b6:Nat),.int .u8 (b7:Nat),.int .u8 (b8:Nat),.int .u8 (b9:Nat),.int .u8 (b10:Nat),.int .u8 (b11:Nat),.int .u8 (b12:Nat),.int .u8 (b13:Nat),.int .u8 (b14:Nat),.int .u8 (b15:Nat)] 27)).alloc (.cells #[.int .u32 0,.int .u32 0,.int .u32 0,.int .u32 0] 177)) u) (by kernel_rfl) ((Below.refl _ _).drew) (fun _=>?_)
 refine tH 0 3 (.pointer (some ⟨w.heap.size,0,none⟩)) rfl rfl (by kernel_rfl) ((Below.refl _ _).drew) (Or.inl ⟨by rfl,fun w' hS'=>by go_simp⟩) ?_
 simp only[pU]
 refine tH 1 4 (.int .u8 (b0:Nat)) rfl rfl (by kernel_rfl) ((Below.refl _ _).drew) (Or.inl ⟨by rfl,fun w' hS'=>by have q:=g0.out w' hS';go_simp⟩) ?_
 simp only[pU]
 refine tH 2 5 (.pointer (some ⟨w.heap.size,1,none⟩)) rfl rfl (by kernel_rfl) ((Below.refl _ _).drew) (Or.inl ⟨by rfl,fun w' hS'=>by go_simp⟩) ?_
 simp only[pU]
 refine tH 3 6 (.int .u8 (b1:Nat)) rfl rfl (by kernel_rfl) ((Below.refl _ _).drew) (Or.inl ⟨by rfl,fun w' hS'=>by have q:=g1.out w' hS';go_simp⟩) ?_
 simp only[pU]
 refine tH 4 7 (.pointer (some ⟨w.heap.size,2,none⟩)) rfl rfl (by kernel_rfl) ((Below.refl _ _).drew) (Or.inl ⟨by rfl,fun w' hS'=>by go_simp⟩) ?_
 simp only[pU]
 refine tH 5 8 (.int .u8 (b2:Nat)) rfl rfl (by kernel_rfl) ((Below.refl _ _).drew) (Or.inl ⟨by rfl,fun w' hS'=>by have q:=g2.out w' hS';go_simp⟩) ?_
 simp only[pU]
 refine tH 6 9 (.pointer (some ⟨w.heap.size,3,none⟩)) rfl rfl (by kernel_rfl) ((Below.refl _ _).drew) (Or.inl ⟨by rfl,fun w' hS'=>by go_simp⟩) ?_
 simp only[pU]
 refine tH 7 10 (.int .u8 (b3:Nat)) rfl rfl (by kernel_rfl) ((Below.refl _ _).drew) (Or.inl ⟨by rfl,fun w' hS'=>by have q:=g3.out w' hS';go_simp⟩) ?_
 simp only[pU]
 refine tH 9 12 (.pointer (some ⟨w.heap.size,4,none⟩)) rfl rfl (by kernel_rfl) ((Below.refl _ _).drew) (Or.inl ⟨by rfl,fun w' hS'=>by go_simp⟩) ?_
 simp only[pU]
 refine tH 10 13 (.int .u8 (b4:Nat)) rfl rfl (by kernel_rfl) ((Below.refl _ _).drew) (Or.inl ⟨by rfl,fun w' hS'=>by have q:=g4.out w' hS';go_simp⟩) ?_
 simp only[pU]
 refine tH 11 14 (.pointer (some ⟨w.heap.size,5,none⟩)) rfl rfl (by kernel_rfl) ((Below.refl _ _).drew) (Or.inl ⟨by rfl,fun w' hS'=>by go_simp⟩) ?_
 simp only[pU]
 refine tH 12 15 (.int .u8 (b5:Nat)) rfl rfl (by kernel_rfl) ((Below.refl _ _).drew) (Or.inl ⟨by rfl,fun w' hS'=>by have q:=g5.out w' hS';go_simp⟩) ?_
 simp only[pU]
 refine tH 13 16 (.pointer (some ⟨w.heap.size,6,none⟩)) rfl rfl (by kernel_rfl) ((Below.refl _ _).drew) (Or.inl ⟨by rfl,fun w' hS'=>by go_simp⟩) ?_
 simp only[pU]
 refine tH 14 17 (.int .u8 (b6:Nat)) rfl rfl (by kernel_rfl) ((Below.refl _ _).drew) (Or.inl ⟨by rfl,fun w' hS'=>by have q:=g6.out w' hS';go_simp⟩) ?_
 simp only[pU]
 refine tH 15 18 (.pointer (some ⟨w.heap.size,7,none⟩)) rfl rfl (by kernel_rfl) ((Below.refl _ _).drew) (Or.inl ⟨by rfl,fun w' hS'=>by go_simp⟩) ?_
 simp only[pU]
 refine tH 16 19 (.int .u8 (b7:Nat)) rfl rfl (by kernel_rfl) ((Below.refl _ _).drew) (Or.inl ⟨by rfl,fun w' hS'=>by have q:=g7.out w' hS';go_simp⟩) ?_
 simp only[pU]
 refine tH 18 21 (.pointer (some ⟨w.heap.size,8,none⟩)) rfl rfl (by kernel_rfl) ((Below.refl _ _).drew) (Or.inl ⟨by rfl,fun w' hS'=>by go_simp⟩) ?_
 simp only[pU]
 refine tH 19 22 (.int .u8 (b8:Nat)) rfl rfl (by kernel_rfl) ((Below.refl _ _).drew) (Or.inl ⟨by rfl,fun w' hS'=>by have q:=g8.out w' hS';go_simp⟩) ?_
 simp only[pU]
 refine tH 20 23 (.pointer (some ⟨w.heap.size,9,none⟩)) rfl rfl (by kernel_rfl) ((Below.refl _ _).drew) (Or.inl ⟨by rfl,fun w' hS'=>by go_simp⟩) ?_
 simp only[pU]
 refine tH 21 24 (.int .u8 (b9:Nat)) rfl rfl (by kernel_rfl) ((Below.refl _ _).drew) (Or.inl ⟨by rfl,fun w' hS'=>by have q:=g9.out w' hS';go_simp⟩) ?_
 simp only[pU]
 refine tH 22 25 (.pointer (some ⟨w.heap.size,10,none⟩)) rfl rfl (by kernel_rfl) ((Below.refl _ _).drew) (Or.inl ⟨by rfl,fun w' hS'=>by go_simp⟩) ?_
 simp only[pU]
 refine tH 23 26 (.int .u8 (b10:Nat)) rfl rfl (by kernel_rfl) ((Below.refl _ _).drew) (Or.inl ⟨by rfl,fun w' hS'=>by have q:=g10.out w' hS';go_simp⟩) ?_
 simp only[pU]
 refine tH 24 27 (.pointer (some ⟨w.heap.size,11,none⟩)) rfl rfl (by kernel_rfl) ((Below.refl _ _).drew) (Or.inl ⟨by rfl,fun w' hS'=>by go_simp⟩) ?_
 simp only[pU]
 refine tH 25 28 (.int .u8 (b11:Nat)) rfl rfl (by kernel_rfl) ((Below.refl _ _).drew) (Or.inl ⟨by rfl,fun w' hS'=>by have q:=g11.out w' hS';go_simp⟩) ?_
 simp only[pU]
 refine tH 27 30 (.pointer (some ⟨w.heap.size,12,none⟩)) rfl rfl (by kernel_rfl) ((Below.refl _ _).drew) (Or.inl ⟨by rfl,fun w' hS'=>by go_simp⟩) ?_
 simp only[pU]
 refine tH 28 31 (.int .u8 (b12:Nat)) rfl rfl (by kernel_rfl) ((Below.refl _ _).drew) (Or.inl ⟨by rfl,fun w' hS'=>by have q:=g12.out w' hS';go_simp⟩) ?_
 simp only[pU]
 refine tH 29 32 (.pointer (some ⟨w.heap.size,13,none⟩)) rfl rfl (by kernel_rfl) ((Below.refl _ _).drew) (Or.inl ⟨by rfl,fun w' hS'=>by go_simp⟩) ?_
 simp only[pU]
 refine tH 30 33 (.int .u8 (b13:Nat)) rfl rfl (by kernel_rfl) ((Below.refl _ _).drew) (Or.inl ⟨by rfl,fun w' hS'=>by have q:=g13.out w' hS';go_simp⟩) ?_
 simp only[pU]
 refine tH 31 34 (.pointer (some ⟨w.heap.size,14,none⟩)) rfl rfl (by kernel_rfl) ((Below.refl _ _).drew) (Or.inl ⟨by rfl,fun w' hS'=>by go_simp⟩) ?_
 simp only[pU]
 refine tH 32 35 (.int .u8 (b14:Nat)) rfl rfl (by kernel_rfl) ((Below.refl _ _).drew) (Or.inl ⟨by rfl,fun w' hS'=>by have q:=g14.out w' hS';go_simp⟩) ?_
 simp only[pU]
 refine tH 33 36 (.pointer (some ⟨w.heap.size,15,none⟩)) rfl rfl (by kernel_rfl) ((Below.refl _ _).drew) (Or.inl ⟨by rfl,fun w' hS'=>by go_simp⟩) ?_
 simp only[pU]
 refine tH 34 37 (.int .u8 (b15:Nat)) rfl rfl (by kernel_rfl) ((Below.refl _ _).drew) (Or.inl ⟨by rfl,fun w' hS'=>by have q:=g15.out w' hS';go_simp⟩) ?_
 simp only[pU]
 refine wpAnyH_ready (rs:=[8]) (by kernel_rfl) (by simp) ?_
 refine AllReadyH.cons rfl (fun K hK=>?_) AllReadyH.nil
 go_simp
 refine (hc0.out _).mono ?_
 rintro e1 w1 ⟨rfl,hw1⟩
 obtain rfl:=hw1.symm
 go_wp2_with fail
 refine hK.out _ _ ((Below.refl _ _).drew) (fun _=>?_)
 clear hK K
 try simp only[pU]
 refine wpAnyH_ready (rs:=[17]) (by kernel_rfl) (by simp) ?_
 refine AllReadyH.cons rfl (fun K hK=>?_) AllReadyH.nil
 go_simp
 refine (hc1.out _).mono ?_
 rintro e1 w1 ⟨rfl,hw1⟩
 obtain rfl:=hw1.symm
 go_wp2_with fail
 refine hK.out _ _ ((Below.refl _ _).drew) (fun _=>?_)
 clear hK K
 try simp only[pU]
 refine wpAnyH_ready (rs:=[26]) (by kernel_rfl) (by simp) ?_
 refine AllReadyH.cons rfl (fun K hK=>?_) AllReadyH.nil
 go_simp
 refine (hc2.out _).mono ?_
 rintro e1 w1 ⟨rfl,hw1⟩
 obtain rfl:=hw1.symm
 go_wp2_with fail
 refine hK.out _ _ ((Below.refl _ _).drew) (fun _=>?_)
 clear hK K
 try simp only[pU]
 refine wpAnyH_ready (rs:=[35]) (by kernel_rfl) (by simp) ?_
 refine AllReadyH.cons rfl (fun K hK=>?_) AllReadyH.nil
 go_simp
 refine (hc3.out _).mono ?_
 rintro e1 w1 ⟨rfl,hw1⟩
 obtain rfl:=hw1.symm
 go_wp2_with fail
 refine hK.out _ _ ((Below.refl _ _).drew) (fun _=>?_)
 clear hK K
 try simp only[pU]
 refine tH 36 39 (.agg #[.int .u32 (v0:Nat),.int .u32 (v1:Nat),.int .u32 (v2:Nat),.int .u32 (v3:Nat)]) rfl rfl (by kernel_rfl) ((Below.refl _ _).drew) (Qt (by rfl) 177 #[(0,.tmp 11),(1,.tmp 20),(2,.tmp 29),(3,.tmp 38)] rfl _ (by simp only[List.map_toArray,List.map_cons,List.map_nil];kernel_rfl)) ?_
 simp only[pU]
 refine wpAnyH_ready (rs:=[37]) (by kernel_rfl) (by simp) ?_
 refine AllReadyH.cons rfl (fun K hK=>?_) AllReadyH.nil
 go_simp
 refine hK.out _ _ (below_alloc2 (by simp)) (fun _=>?_)
 clear hK K
 refine wpAnyH_done (by kernel_rfl) ?_ _
 refine NoPanic.normal ?_
 go_wp2
 refine Yf [.int .u32 (v0:Nat),.int .u32 (v1:Nat),.int .u32 (v2:Nat),.int .u32 (v3:Nat)] Tryz.results87 rfl ?_ Tryz.underlying177 rfl (by kernel_rfl) ⟨rfl,?_⟩
 ·have h:=J8 (w.alloc (.cells #[.int .u8 (b0:Nat),.int .u8 (b1:Nat),.int .u8 (b2:Nat),.int .u8 (b3:Nat),.int .u8 (b4:Nat),.int .u8 (b5:Nat),.int .u8 (b6:Nat),.int .u8 (b7:Nat),.int .u8 (b8:Nat),.int .u8 (b9:Nat),.int .u8 (b10:Nat),.int .u8 (b11:Nat),.int .u8 (b12:Nat),.int .u8 (b13:Nat),.int .u8 (b14:Nat),.int .u8 (b15:Nat)] 27)) #[.int .u32 (v0:Nat),.int .u32 (v1:Nat),.int .u32 (v2:Nat),.int .u32 (v3:Nat)] 177
  simpa using h
 ·exact (((Below.refl _ w).alloc (Nat.le_refl _) _).alloc (by simp) _).drew
def prt (b0 b1 b2 b3 b4 b5 b6 b7 b8 b9 b10 b11 b12 b13 b14 b15:Nat) (k:Nat):Array Value:=#[.int .u8 (if 0<k then (b0:Int) else 0),.int .u8 (if 1<k then (b1:Int) else 0),.int .u8 (if 2<k then (b2:Int) else 0),.int .u8 (if 3<k then (b3:Int) else 0),.int .u8 (if 4<k then (b4:Int) else 0),.int .u8 (if 5<k then (b5:Int) else 0),.int .u8 (if 6<k then (b6:Int) else 0),.int .u8 (if 7<k then (b7:Int) else 0),.int .u8 (if 8<k then (b8:Int) else 0),.int .u8 (if 9<k then (b9:Int) else 0),.int .u8 (if 10<k then (b10:Int) else 0),.int .u8 (if 11<k then (b11:Int) else 0),.int .u8 (if 12<k then (b12:Int) else 0),.int .u8 (if 13<k then (b13:Int) else 0),.int .u8 (if 14<k then (b14:Int) else 0),.int .u8 (if 15<k then (b15:Int) else 0)]
set_option maxHeartbeats 3200000 in
set_option maxRecDepth 100000 in
theorem Hy (x0 x1 x2 x3:Nat) (b0 b1 b2 b3 b4 b5 b6 b7 b8 b9 b10 b11 b12 b13 b14 b15:Nat) (w:World) (h0:(x0:Int)/16777216%256=(b0:Nat)) (h1:(x0:Int)/65536%256=(b1:Nat)) (h2:(x0:Int)/256%256=(b2:Nat)) (h3:(x0:Int)%256=(b3:Nat)) (h4:(x1:Int)/16777216%256=(b4:Nat)) (h5:(x1:Int)/65536%256=(b5:Nat)) (h6:(x1:Int)/256%256=(b6:Nat)) (h7:(x1:Int)%256=(b7:Nat)) (h8:(x2:Int)/16777216%256=(b8:Nat)) (h9:(x2:Int)/65536%256=(b9:Nat)) (h10:(x2:Int)/256%256=(b10:Nat)) (h11:(x2:Int)%256=(b11:Nat)) (h12:(x3:Int)/16777216%256=(b12:Nat)) (h13:(x3:Int)/65536%256=(b13:Nat)) (h14:(x3:Int)/256%256=(b14:Nat)) (h15:(x3:Int)%256=(b15:Nat)) :
  Calls Tryz.prog 89 #[.agg #[.int .u32 (x0:Nat),.int .u32 (x1:Nat),.int .u32 (x2:Nat),.int .u32 (x3:Nat)]] w fun e w'=>e=.returned (blk b0 b1 b2 b3 b4 b5 b6 b7 b8 b9 b10 b11 b12 b13 b14 b15)∧Below w.heap.size w w':=by
 unfold blk
 go_enter Tryz.func89,Tryz.ntmps89
 go_wp2
 go_loopw [5] (fun i wr=>∃ k:Nat,k≤16∧i=.int .i64 k∧wr=(((w.alloc (.cells #[.int .u32 (x0:Nat),.int .u32 (x1:Nat),.int .u32 (x2:Nat),.int .u32 (x3:Nat)] 177)).alloc (.cells #[.int .u8 0,.int .u8 0,.int .u8 0,.int .u8 0,.int .u8 0,.int .u8 0,.int .u8 0,.int .u8 0,.int .u8 0,.int .u8 0,.int .u8 0,.int .u8 0,.int .u8 0,.int .u8 0,.int .u8 0,.int .u8 0] 27)).alloc (.cells (prt b0 b1 b2 b3 b4 b5 b6 b7 b8 b9 b10 b11 b12 b13 b14 b15 k) 27))) (fun i _=>16-(intOf i).toNat)
 case atStart=>exact ⟨0,by omega,rfl,rfl⟩
 case round=>
  obtain ⟨k,hk,rfl,hw⟩:=hrel
  have h17:k=0∨k=1∨k=2∨k=3∨k=4∨k=5∨k=6∨k=7∨k=8∨k=9∨k=10∨k=11∨k=12∨k=13∨k=14∨k=15∨k=16:=by omega
  clear hk
  rcases h17 with rfl | rfl | rfl | rfl | rfl | rfl | rfl | rfl | rfl | rfl | rfl | rfl | rfl | rfl | rfl | rfl | rfl
  ·rw[show prt b0 b1 b2 b3 b4 b5 b6 b7 b8 b9 b10 b11 b12 b13 b14 b15 0=#[.int .u8 0,.int .u8 0,.int .u8 0,.int .u8 0,.int .u8 0,.int .u8 0,.int .u8 0,.int .u8 0,.int .u8 0,.int .u8 0,.int .u8 0,.int .u8 0,.int .u8 0,.int .u8 0,.int .u8 0,.int .u8 0] from rfl] at hw
   subst hw
   go_wp2
   exact ⟨⟨1,by omega,rfl,rfl⟩,by decide +kernel⟩
  ·rw[show prt b0 b1 b2 b3 b4 b5 b6 b7 b8 b9 b10 b11 b12 b13 b14 b15 1=#[.int .u8 (b0:Nat),.int .u8 0,.int .u8 0,.int .u8 0,.int .u8 0,.int .u8 0,.int .u8 0,.int .u8 0,.int .u8 0,.int .u8 0,.int .u8 0,.int .u8 0,.int .u8 0,.int .u8 0,.int .u8 0,.int .u8 0] from rfl] at hw
   subst hw
   go_wp2
   exact ⟨⟨2,by omega,rfl,rfl⟩,by decide +kernel⟩
  ·rw[show prt b0 b1 b2 b3 b4 b5 b6 b7 b8 b9 b10 b11 b12 b13 b14 b15 2=#[.int .u8 (b0:Nat),.int .u8 (b1:Nat),.int .u8 0,.int .u8 0,.int .u8 0,.int .u8 0,.int .u8 0,.int .u8 0,.int .u8 0,.int .u8 0,.int .u8 0,.int .u8 0,.int .u8 0,.int .u8 0,.int .u8 0,.int .u8 0] from rfl] at hw
   subst hw
   go_wp2
   exact ⟨⟨3,by omega,rfl,rfl⟩,by decide +kernel⟩
  ·rw[show prt b0 b1 b2 b3 b4 b5 b6 b7 b8 b9 b10 b11 b12 b13 b14 b15 3=#[.int .u8 (b0:Nat),.int .u8 (b1:Nat),.int .u8 (b2:Nat),.int .u8 0,.int .u8 0,.int .u8 0,.int .u8 0,.int .u8 0,.int .u8 0,.int .u8 0,.int .u8 0,.int .u8 0,.int .u8 0,.int .u8 0,.int .u8 0,.int .u8 0] from rfl] at hw
   subst hw
   go_wp2
   exact ⟨⟨4,by omega,rfl,rfl⟩,by decide +kernel⟩
  ·rw[show prt b0 b1 b2 b3 b4 b5 b6 b7 b8 b9 b10 b11 b12 b13 b14 b15 4=#[.int .u8 (b0:Nat),.int .u8 (b1:Nat),.int .u8 (b2:Nat),.int .u8 (b3:Nat),.int .u8 0,.int .u8 0,.int .u8 0,.int .u8 0,.int .u8 0,.int .u8 0,.int .u8 0,.int .u8 0,.int .u8 0,.int .u8 0,.int .u8 0,.int .u8 0] from rfl] at hw
   subst hw
   go_wp2
   exact ⟨⟨5,by omega,rfl,rfl⟩,by decide +kernel⟩
  ·rw[show prt b0 b1 b2 b3 b4 b5 b6 b7 b8 b9 b10 b11 b12 b13 b14 b15 5=#[.int .u8 (b0:Nat),.int .u8 (b1:Nat),.int .u8 (b2:Nat),.int .u8 (b3:Nat),.int .u8 (b4:Nat),.int .u8 0,.int .u8 0,.int .u8 0,.int .u8 0,.int .u8 0,.int .u8 0,.int .u8 0,.int .u8 0,.int .u8 0,.int .u8 0,.int .u8 0] from rfl] at hw
   subst hw
   go_wp2
   exact ⟨⟨6,by omega,rfl,rfl⟩,by decide +kernel⟩
  ·rw[show prt b0 b1 b2 b3 b4 b5 b6 b7 b8 b9 b10 b11 b12 b13 b14 b15 6=#[.int .u8 (b0:Nat),.int .u8 (b1:Nat),.int .u8 (b2:Nat),.int .u8 (b3:Nat),.int .u8 (b4:Nat),.int .u8 (b5:Nat),.int .u8 0,.int .u8 0,.int .u8 0,.int .u8 0,.int .u8 0,.int .u8 0,.int .u8 0,.int .u8 0,.int .u8 0,.int .u8 0] from rfl] at hw
   subst hw
   go_wp2
   exact ⟨⟨7,by omega,rfl,rfl⟩,by decide +kernel⟩
  ·rw[show prt b0 b1 b2 b3 b4 b5 b6 b7 b8 b9 b10 b11 b12 b13 b14 b15 7=#[.int .u8 (b0:Nat),.int .u8 (b1:Nat),.int .u8 (b2:Nat),.int .u8 (b3:Nat),.int .u8 (b4:Nat),.int .u8 (b5:Nat),.int .u8 (b6:Nat),.int .u8 0,.int .u8 0,.int .u8 0,.int .u8 0,.int .u8 0,.int .u8 0,.int .u8 0,.int .u8 0,.int .u8 0] from rfl] at hw
   subst hw
   go_wp2
   exact ⟨⟨8,by omega,rfl,rfl⟩,by decide +kernel⟩
  ·rw[show prt b0 b1 b2 b3 b4 b5 b6 b7 b8 b9 b10 b11 b12 b13 b14 b15 8=#[.int .u8 (b0:Nat),.int .u8 (b1:Nat),.int .u8 (b2:Nat),.int .u8 (b3:Nat),.int .u8 (b4:Nat),.int .u8 (b5:Nat),.int .u8 (b6:Nat),.int .u8 (b7:Nat),.int .u8 0,.int .u8 0,.int .u8 0,.int .u8 0,.int .u8 0,.int .u8 0,.int .u8 0,.int .u8 0] from rfl] at hw
   subst hw
   go_wp2
   exact ⟨⟨9,by omega,rfl,rfl⟩,by decide +kernel⟩
  ·rw[show prt b0 b1 b2 b3 b4 b5 b6 b7 b8 b9 b10 b11 b12 b13 b14 b15 9=#[.int .u8 (b0:Nat),.int .u8 (b1:Nat),.int .u8 (b2:Nat),.int .u8 (b3:Nat),.int .u8 (b4:Nat),.int .u8 (b5:Nat),.int .u8 (b6:Nat),.int .u8 (b7:Nat),.int .u8 (b8:Nat),.int .u8 0,.int .u8 0,.int .u8 0,.int .u8 0,.int .u8 0,.int .u8 0,.int .u8 0] from rfl] at hw
   subst hw
   go_wp2
   exact ⟨⟨10,by omega,rfl,rfl⟩,by decide +kernel⟩
  ·rw[show prt b0 b1 b2 b3 b4 b5 b6 b7 b8 b9 b10 b11 b12 b13 b14 b15 10=#[.int .u8 (b0:Nat),.int .u8 (b1:Nat),.int .u8 (b2:Nat),.int .u8 (b3:Nat),.int .u8 (b4:Nat),.int .u8 (b5:Nat),.int .u8 (b6:Nat),.int .u8 (b7:Nat),.int .u8 (b8:Nat),.int .u8 (b9:Nat),.int .u8 0,.int .u8 0,.int .u8 0,.int .u8 0,.int .u8 0,.int .u8 0] from rfl] at hw
   subst hw
   go_wp2
   exact ⟨⟨11,by omega,rfl,rfl⟩,by decide +kernel⟩
  ·rw[show prt b0 b1 b2 b3 b4 b5 b6 b7 b8 b9 b10 b11 b12 b13 b14 b15 11=#[.int .u8 (b0:Nat),.int .u8 (b1:Nat),.int .u8 (b2:Nat),.int .u8 (b3:Nat),.int .u8 (b4:Nat),.int .u8 (b5:Nat),.int .u8 (b6:Nat),.int .u8 (b7:Nat),.int .u8 (b8:Nat),.int .u8 (b9:Nat),.int .u8 (b10:Nat),.int .u8 0,.int .u8 0,.int .u8 0,.int .u8 0,.int .u8 0] from rfl] at hw
   subst hw
   go_wp2
   exact ⟨⟨12,by omega,rfl,rfl⟩,by decide +kernel⟩
  ·rw[show prt b0 b1 b2 b3 b4 b5 b6 b7 b8 b9 b10 b11 b12 b13 b14 b15 12=#[.int .u8 (b0:Nat),.int .u8 (b1:Nat),.int .u8 (b2:Nat),.int .u8 (b3:Nat),.int .u8 (b4:Nat),.int .u8 (b5:Nat),.int .u8 (b6:Nat),.int .u8 (b7:Nat),.int .u8 (b8:Nat),.int .u8 (b9:Nat),.int .u8 (b10:Nat),.int .u8 (b11:Nat),.int .u8 0,.int .u8 0,.int .u8 0,.int .u8 0] from rfl] at hw
   subst hw
   go_wp2
   exact ⟨⟨13,by omega,rfl,rfl⟩,by decide +kernel⟩
  ·rw[show prt b0 b1 b2 b3 b4 b5 b6 b7 b8 b9 b10 b11 b12 b13 b14 b15 13=#[.int .u8 (b0:Nat),.int .u8 (b1:Nat),.int .u8 (b2:Nat),.int .u8 (b3:Nat),.int .u8 (b4:Nat),.int .u8 (b5:Nat),.int .u8 (b6:Nat),.int .u8 (b7:Nat),.int .u8 (b8:Nat),.int .u8 (b9:Nat),.int .u8 (b10:Nat),.int .u8 (b11:Nat),.int .u8 (b12:Nat),.int .u8 0,.int .u8 0,.int .u8 0] from rfl] at hw
   subst hw
   go_wp2
   exact ⟨⟨14,by omega,rfl,rfl⟩,by decide +kernel⟩
  ·rw[show prt b0 b1 b2 b3 b4 b5 b6 b7 b8 b9 b10 b11 b12 b13 b14 b15 14=#[.int .u8 (b0:Nat),.int .u8 (b1:Nat),.int .u8 (b2:Nat),.int .u8 (b3:Nat),.int .u8 (b4:Nat),.int .u8 (b5:Nat),.int .u8 (b6:Nat),.int .u8 (b7:Nat),.int .u8 (b8:Nat),.int .u8 (b9:Nat),.int .u8 (b10:Nat),.int .u8 (b11:Nat),.int .u8 (b12:Nat),.int .u8 (b13:Nat),.int .u8 0,.int .u8 0] from rfl] at hw
   subst hw
   go_wp2
   exact ⟨⟨15,by omega,rfl,rfl⟩,by decide +kernel⟩
  ·rw[show prt b0 b1 b2 b3 b4 b5 b6 b7 b8 b9 b10 b11 b12 b13 b14 b15 15=#[.int .u8 (b0:Nat),.int .u8 (b1:Nat),.int .u8 (b2:Nat),.int .u8 (b3:Nat),.int .u8 (b4:Nat),.int .u8 (b5:Nat),.int .u8 (b6:Nat),.int .u8 (b7:Nat),.int .u8 (b8:Nat),.int .u8 (b9:Nat),.int .u8 (b10:Nat),.int .u8 (b11:Nat),.int .u8 (b12:Nat),.int .u8 (b13:Nat),.int .u8 (b14:Nat),.int .u8 0] from rfl] at hw
   subst hw
   go_wp2
   exact ⟨⟨16,by omega,rfl,rfl⟩,by decide +kernel⟩
  ·rw[show prt b0 b1 b2 b3 b4 b5 b6 b7 b8 b9 b10 b11 b12 b13 b14 b15 16=#[.int .u8 (b0:Nat),.int .u8 (b1:Nat),.int .u8 (b2:Nat),.int .u8 (b3:Nat),.int .u8 (b4:Nat),.int .u8 (b5:Nat),.int .u8 (b6:Nat),.int .u8 (b7:Nat),.int .u8 (b8:Nat),.int .u8 (b9:Nat),.int .u8 (b10:Nat),.int .u8 (b11:Nat),.int .u8 (b12:Nat),.int .u8 (b13:Nat),.int .u8 (b14:Nat),.int .u8 (b15:Nat)] from rfl] at hw
   subst hw
   go_wp2
   refine Yf [.int .u8 (b0:Nat),.int .u8 (b1:Nat),.int .u8 (b2:Nat),.int .u8 (b3:Nat),.int .u8 (b4:Nat),.int .u8 (b5:Nat),.int .u8 (b6:Nat),.int .u8 (b7:Nat),.int .u8 (b8:Nat),.int .u8 (b9:Nat),.int .u8 (b10:Nat),.int .u8 (b11:Nat),.int .u8 (b12:Nat),.int .u8 (b13:Nat),.int .u8 (b14:Nat),.int .u8 (b15:Nat)] Tryz.results89 rfl ?_ Tryz.underlying27 rfl (by kernel_rfl) ⟨rfl,?_⟩
   ·have h:=(Xv (w.alloc (.cells #[.int .u32 (x0:Nat),.int .u32 (x1:Nat),.int .u32 (x2:Nat),.int .u32 (x3:Nat)] 177)) #[.int .u8 (b0:Nat),.int .u8 (b1:Nat),.int .u8 (b2:Nat),.int .u8 (b3:Nat),.int .u8 (b4:Nat),.int .u8 (b5:Nat),.int .u8 (b6:Nat),.int .u8 (b7:Nat),.int .u8 (b8:Nat),.int .u8 (b9:Nat),.int .u8 (b10:Nat),.int .u8 (b11:Nat),.int .u8 (b12:Nat),.int .u8 (b13:Nat),.int .u8 (b14:Nat),.int .u8 (b15:Nat)] #[.int .u8 (b0:Nat),.int .u8 (b1:Nat),.int .u8 (b2:Nat),.int .u8 (b3:Nat),.int .u8 (b4:Nat),.int .u8 (b5:Nat),.int .u8 (b6:Nat),.int .u8 (b7:Nat),.int .u8 (b8:Nat),.int .u8 (b9:Nat),.int .u8 (b10:Nat),.int .u8 (b11:Nat),.int .u8 (b12:Nat),.int .u8 (b13:Nat),.int .u8 (b14:Nat),.int .u8 (b15:Nat)] 27 27).2
    intro j v hv
    have h':=h j v (by simpa using hv)
    simpa using h'
   ·exact (((Below.refl _ w).alloc (Nat.le_refl _) _).alloc (by simp) _).alloc (by simp;omega) _
end Go.Proofs.YtehlppaidgkpaaaGreatDoor
