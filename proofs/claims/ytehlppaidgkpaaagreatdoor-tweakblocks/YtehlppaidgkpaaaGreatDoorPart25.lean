import Derived.Test.YtehlppaidgkpaaaGreatDoorPart16
import Derived.Lib.LazyBuf
import Derived.Test.YtehlppaidgkpaaaGreatDoorPart17
import Derived.Laws.EntriesVeiled
import Derived.Deep.Cut
namespace Go.Proofs.YtehlppaidgkpaaaGreatDoor.Dg
open Go.RowKit
set_option linter.unusedVariables false
set_option linter.unusedSimpArgs false
def C9 (f:Nat→Int):Zd:=⟨f 0,f 1,f 2,f 3,f 4,f 5,f 6,f 7⟩
theorem J1 (f:Nat→Int) (j:Nat) (v:Value) (h:(C9 f).cells[j]?=some v):j<8∧v=.int .u64 (f j):=by
 have hj:j<8:=by
  by_cases hj:j<(C9 f).cells.length
  ·exact hj
  ·rw[List.getElem?_eq_none (by omega)] at h;cases h
 refine ⟨hj,?_⟩
 match j,hj with
 | 0,_=>exact (Option.some.inj h).symm
 | 1,_=>exact (Option.some.inj h).symm
 | 2,_=>exact (Option.some.inj h).symm
 | 3,_=>exact (Option.some.inj h).symm
 | 4,_=>exact (Option.some.inj h).symm
 | 5,_=>exact (Option.some.inj h).symm
 | 6,_=>exact (Option.some.inj h).symm
 | 7,_=>exact (Option.some.inj h).symm
theorem Xn (s:Zd):s.cells.toArray.all (·.oneCell')=true:=all_oneCell_toArray (by
 intro v hv
 simp only[Zd.cells,List.mem_map] at hv
 obtain ⟨x,_,rfl⟩:=hv
 rfl)
theorem Qu:(Tryz.prog.info? 138).map (·.size)=some 8:=by kernel_rfl
def Xh (h:Int) (i:Nat):Int:=if h=224 then bits .and .u64 (Vh (8+i)) 4294967295 else if h=256 then Vh i/4294967296 else if h=384 then Vh (8+i) else Vh i
def Zy (h:Int):Zd:=C9 (Xh h)
set_option maxHeartbeats 1600000 in
set_option maxRecDepth 100000 in
theorem I4 (w:World) (hT:Hid (Tables w)) :
  Calls Tryz.prog 94 #[.int .i64 224] w fun e w'=>e=.returned (.agg (Zy 224).cells.toArray)∧Below w.heap.size w w':=by
 have HB0:Hid (Below w.heap.size w ((w.alloc (.cells #[.int .u64 0,.int .u64 0,.int .u64 0,.int .u64 0,.int .u64 0,.int .u64 0,.int .u64 0,.int .u64 0] 138)).alloc (.cells #[.int .u64 0,.int .u64 0,.int .u64 0,.int .u64 0,.int .u64 0,.int .u64 0,.int .u64 0,.int .u64 0] 138))∧((w.alloc (.cells #[.int .u64 0,.int .u64 0,.int .u64 0,.int .u64 0,.int .u64 0,.int .u64 0,.int .u64 0,.int .u64 0] 138)).alloc (.cells #[.int .u64 0,.int .u64 0,.int .u64 0,.int .u64 0,.int .u64 0,.int .u64 0,.int .u64 0,.int .u64 0] 138)).there (w.heap.size+1) 0 8∧((w.alloc (.cells #[.int .u64 0,.int .u64 0,.int .u64 0,.int .u64 0,.int .u64 0,.int .u64 0,.int .u64 0,.int .u64 0] 138)).alloc (.cells #[.int .u64 0,.int .u64 0,.int .u64 0,.int .u64 0,.int .u64 0,.int .u64 0,.int .u64 0,.int .u64 0] 138)).there w.heap.size 0 8):=⟨((Below.refl _ _).alloc (Nat.le_refl _) _).alloc (by simp) _,Qd w _ _ 138 138 8 (by decide),World.there_alloc (Zf w _ 138 8 (by decide)) _⟩
 go_enter Tryz.func94,Tryz.ntmps94
 go_wp2
 go_loopw [5] (fun v wr=>∃ q:Nat,q≤8∧v=.int .i64 q∧Hid (Below w.heap.size w wr)∧Hid (wr.there (w.heap.size+1) 0 8∧wr.there w.heap.size 0 8)∧Hid (∀ j,j<q→wr.cell? ⟨w.heap.size+1,j,none⟩=some (.int .u64 (Xh 224 j)))) (fun v _=>8-(intOf v).toNat)
 case atStart=>exact ⟨0,by omega,rfl,HB0.out.1,HB0.out.2,fun j hj=>by omega⟩
 case round=>
  obtain ⟨q,hq,rfl,HB,HT,HF⟩:=hrel
  clear HB0
  by_cases hlt:q<8
  ·obtain ⟨jj,hjj⟩:∃ jj,jj=8+q:=⟨_,rfl⟩
   have hTr:=hT.out.below HB.out hT.out.size
   have c1:=hTr.roots (jj) (by omega)
   have hql:(q:Int)<8:=by omega
   have hq0:(0:Int)≤(q:Int):=by omega
   have e8:(8:Int)+(q:Int)=(jj:Int):=by omega
   have e9:(jj:Int)<16:=by omega
   have HJ:Hid (jj=8+q):=hjj
   clear hjj
   have ff:wr.frozen? ⟨w.heap.size+1,q,none⟩=false:=by have:=(HT.out.1 q hlt).2;rw[Nat.zero_add] at this;exact this
   have fs:(wr.cell? ⟨w.heap.size+1,q,none⟩).isSome=true:=by have:=(HT.out.1 q hlt).1;rw[Nat.zero_add] at this;exact this
   obtain ⟨z,hz⟩:=Option.isSome_iff_exists.1 fs
   clear fs hTr
   go_wp2
   go_roundw
   case rel=>
    have hf:=X0 (F:=fun j=>.int .u64 (Xh 224 j)) HF.out HT.out.1 hlt (.int .u64 (Xh 224 q)) rfl
    obtain rfl:=HJ.out
    refine ⟨q+1,by omega,by go_num,HB.out.setCell (by simp) _,⟨World.there_setCells HT.out.1 _ q [_],World.there_setCells HT.out.2 _ q [_]⟩,hf.1⟩
   case measure=>simp [intOf];omega
  ·obtain rfl:q=8:=by omega
   have HR:Hid (wr.rangeAt (w.heap.size+1) 0 (Zy 224).cells):=fun j v hv=>by
    obtain ⟨hj,rfl⟩:=J1 _ j v hv
    rw[Nat.zero_add]
    exact HF.out j hj
   have HY:Hid (wr.there w.heap.size 0 (Zy 224).cells.toArray.size):=HT.out.2
   have HZ:Hid ((Tryz.prog.info? 138).map (·.size)=some (Zy 224).cells.toArray.size):=Qu
   obtain ⟨E,HE⟩:∃ E:Zd,Hid (E=Zy 224):=⟨_,rfl⟩
   rw[←HE.out] at HR HY HZ
   clear HF
   go_wp2_with (first
    | (refine wpList_load_mid (by rfl) 138 (.tmp 3) (by rfl) (w.heap.size+1) 0 (by rfl) E.cells _ HR.out Tryz.underlying138 rfl Qu ?_)
    | (refine wpList_store_mid (by rfl) 138 (.tmp 2) (.tmp 40) (by rfl) w.heap.size 0 E.cells.toArray (by rfl) (by rfl) HY.out HZ.out (Xn E) ?_)
    | fail)
   have hl:=run_loadVar_mid (P:=Tryz.prog) (wr.setCells w.heap.size 0 E.cells) w.heap.size 0 138 E.cells _ (World.rangeAt_setCells_same wr w.heap.size 0 E.cells HT.out.2) Tryz.underlying138 rfl Qu
   refine bodyPost_ret (v:=.agg E.cells.toArray) ?_ rfl ⟨by rw[HE.out],below_setCells _ (Nat.le_refl _) _ _ _ HB.out⟩
   rw[Z1 Tryz.results94]
   simp [Act.put,asAddr,hl]
set_option maxHeartbeats 1600000 in
set_option maxRecDepth 100000 in
theorem Dd (w:World) (hT:Hid (Tables w)) :
  Calls Tryz.prog 94 #[.int .i64 256] w fun e w'=>e=.returned (.agg (Zy 256).cells.toArray)∧Below w.heap.size w w':=by
 have HB0:Hid (Below w.heap.size w ((w.alloc (.cells #[.int .u64 0,.int .u64 0,.int .u64 0,.int .u64 0,.int .u64 0,.int .u64 0,.int .u64 0,.int .u64 0] 138)).alloc (.cells #[.int .u64 0,.int .u64 0,.int .u64 0,.int .u64 0,.int .u64 0,.int .u64 0,.int .u64 0,.int .u64 0] 138))∧((w.alloc (.cells #[.int .u64 0,.int .u64 0,.int .u64 0,.int .u64 0,.int .u64 0,.int .u64 0,.int .u64 0,.int .u64 0] 138)).alloc (.cells #[.int .u64 0,.int .u64 0,.int .u64 0,.int .u64 0,.int .u64 0,.int .u64 0,.int .u64 0,.int .u64 0] 138)).there (w.heap.size+1) 0 8∧((w.alloc (.cells #[.int .u64 0,.int .u64 0,.int .u64 0,.int .u64 0,.int .u64 0,.int .u64 0,.int .u64 0,.int .u64 0] 138)).alloc (.cells #[.int .u64 0,.int .u64 0,.int .u64 0,.int .u64 0,.int .u64 0,.int .u64 0,.int .u64 0,.int .u64 0] 138)).there w.heap.size 0 8):=⟨((Below.refl _ _).alloc (Nat.le_refl _) _).alloc (by simp) _,Qd w _ _ 138 138 8 (by decide),World.there_alloc (Zf w _ 138 8 (by decide)) _⟩
 go_enter Tryz.func94,Tryz.ntmps94
 go_wp2
 go_loopw [5] (fun v wr=>∃ q:Nat,q≤8∧v=.int .i64 q∧Hid (Below w.heap.size w wr)∧Hid (wr.there (w.heap.size+1) 0 8∧wr.there w.heap.size 0 8)∧Hid (∀ j,j<q→wr.cell? ⟨w.heap.size+1,j,none⟩=some (.int .u64 (Xh 256 j)))) (fun v _=>8-(intOf v).toNat)
 case atStart=>exact ⟨0,by omega,rfl,HB0.out.1,HB0.out.2,fun j hj=>by omega⟩
 case round=>
  obtain ⟨q,hq,rfl,HB,HT,HF⟩:=hrel
  clear HB0
  by_cases hlt:q<8
  ·obtain ⟨jj,hjj⟩:∃ jj,jj=8+q:=⟨_,rfl⟩
   have hTr:=hT.out.below HB.out hT.out.size
   have c1:=hTr.roots (q) (by omega)
   have hql:(q:Int)<8:=by omega
   have hq0:(0:Int)≤(q:Int):=by omega
   skip
   have ff:wr.frozen? ⟨w.heap.size+1,q,none⟩=false:=by have:=(HT.out.1 q hlt).2;rw[Nat.zero_add] at this;exact this
   have fs:(wr.cell? ⟨w.heap.size+1,q,none⟩).isSome=true:=by have:=(HT.out.1 q hlt).1;rw[Nat.zero_add] at this;exact this
   obtain ⟨z,hz⟩:=Option.isSome_iff_exists.1 fs
   clear fs hTr
   go_wp2
   go_roundw
   case rel=>
    have hf:=X0 (F:=fun j=>.int .u64 (Xh 256 j)) HF.out HT.out.1 hlt (.int .u64 (Xh 256 q)) rfl
    skip
    refine ⟨q+1,by omega,by go_num,HB.out.setCell (by simp) _,⟨World.there_setCells HT.out.1 _ q [_],World.there_setCells HT.out.2 _ q [_]⟩,hf.1⟩
   case measure=>simp [intOf];omega
  ·obtain rfl:q=8:=by omega
   have HR:Hid (wr.rangeAt (w.heap.size+1) 0 (Zy 256).cells):=fun j v hv=>by
    obtain ⟨hj,rfl⟩:=J1 _ j v hv
    rw[Nat.zero_add]
    exact HF.out j hj
   have HY:Hid (wr.there w.heap.size 0 (Zy 256).cells.toArray.size):=HT.out.2
   have HZ:Hid ((Tryz.prog.info? 138).map (·.size)=some (Zy 256).cells.toArray.size):=Qu
   obtain ⟨E,HE⟩:∃ E:Zd,Hid (E=Zy 256):=⟨_,rfl⟩
   rw[←HE.out] at HR HY HZ
   clear HF
   go_wp2_with (first
    | (refine wpList_load_mid (by rfl) 138 (.tmp 3) (by rfl) (w.heap.size+1) 0 (by rfl) E.cells _ HR.out Tryz.underlying138 rfl Qu ?_)
    | (refine wpList_store_mid (by rfl) 138 (.tmp 2) (.tmp 40) (by rfl) w.heap.size 0 E.cells.toArray (by rfl) (by rfl) HY.out HZ.out (Xn E) ?_)
    | fail)
   have hl:=run_loadVar_mid (P:=Tryz.prog) (wr.setCells w.heap.size 0 E.cells) w.heap.size 0 138 E.cells _ (World.rangeAt_setCells_same wr w.heap.size 0 E.cells HT.out.2) Tryz.underlying138 rfl Qu
   refine bodyPost_ret (v:=.agg E.cells.toArray) ?_ rfl ⟨by rw[HE.out],below_setCells _ (Nat.le_refl _) _ _ _ HB.out⟩
   rw[Z1 Tryz.results94]
   simp [Act.put,asAddr,hl]
theorem W7 {w:World} {b n B:Nat} {zs:List Int} (hz:zs.length=n) (hB:B≤b) (hn:n≤maxLen) (h:w.rowIs b 5 n (fun j=>.int .u8 (zs.getD j 0))):w.ownsRow B 5 1 (.slice (some ⟨b,0,none⟩) n n) n (Za zs):=by
 obtain ⟨c,h1,h2,h3⟩:=h
 refine ⟨by rw[Zz];omega,.inr ⟨b,n,c,rfl,hB,h1,Nat.le_refl _,hn,by omega,?_⟩⟩
 rw[List.take_of_length_le (by simp;omega)]
 apply List.ext_getElem?
 intro i
 by_cases hi:i<n
 ·rw[Array.getElem?_toList,h3 i hi]
  simp [Za,List.getD,List.getElem?_eq_getElem (show i<zs.length by omega)]
 ·rw[List.getElem?_eq_none (by simp;omega),List.getElem?_eq_none (by rw[Zz];omega)]
set_option maxHeartbeats 1600000 in
set_option maxRecDepth 100000 in
theorem Zfi (C:List Value) (zs:List Int) (w:World) (hC:Hid (C=Za zs)) (hz:Hid (zs.length=64)) :
  Calls Tryz.prog 59 #[.agg C.toArray,.int .i64 28] w fun e w'=>∃ g,e=.returned (.slice (some ⟨g,0,none⟩) 28 28)∧w'.ownsRow w.heap.size 5 1 (.slice (some ⟨g,0,none⟩) 28 28) 28 (Za (zs.take 28))∧Below w.heap.size w w':=by
 have hmk:∀ w,(Instr.makeSlice 22 (.int .i64 28) (.int .i64 28)).run Tryz.prog w=.ok (.slice (some ⟨w.heap.size,0,none⟩) 28 28) (w.alloc (.cells #[.int .u8 0,.int .u8 0,.int .u8 0,.int .u8 0,.int .u8 0,.int .u8 0,.int .u8 0,.int .u8 0,.int .u8 0,.int .u8 0,.int .u8 0,.int .u8 0,.int .u8 0,.int .u8 0,.int .u8 0,.int .u8 0,.int .u8 0,.int .u8 0,.int .u8 0,.int .u8 0,.int .u8 0,.int .u8 0,.int .u8 0,.int .u8 0,.int .u8 0,.int .u8 0,.int .u8 0,.int .u8 0] 5)):=fun _=>by kernel_rfl
 have hlen:(zs.take 28).length=28:=by rw[List.length_take,hz.out];rfl
 have hv:Zi ((w.alloc (.cells C.toArray 147)).alloc (.cells #[.int .u8 0,.int .u8 0,.int .u8 0,.int .u8 0,.int .u8 0,.int .u8 0,.int .u8 0,.int .u8 0,.int .u8 0,.int .u8 0,.int .u8 0,.int .u8 0,.int .u8 0,.int .u8 0,.int .u8 0,.int .u8 0,.int .u8 0,.int .u8 0,.int .u8 0,.int .u8 0,.int .u8 0,.int .u8 0,.int .u8 0,.int .u8 0,.int .u8 0,.int .u8 0,.int .u8 0,.int .u8 0] 5)) (.slice (some ⟨w.heap.size,0,none⟩) 28 64) (zs.take 28):=by
  refine ⟨_,64,by rw[hlen],by rw[hlen];omega,by simp [maxLen],(fun e=>by cases e),.inr ⟨w.heap.size,0,rfl,fun i hi=>?_⟩⟩
  rw[hlen] at hi
  rw[World.cell?_alloc_past _ _ _ (by simp),World.cell?_alloc_at _ _ _ _ rfl,hC.out,Nat.zero_add]
  have h64:=hz.out
  simp [Za,List.getD,List.getElem?_take,hi,List.getElem?_eq_getElem (show i<zs.length by omega)]
 have hcp:=Kw _ (w.heap.size+1) 0 28 28 _ 28 64 28 _ rfl hv (Qd w _ _ 147 5 28 (by decide))
 rw[List.take_take,Nat.min_self] at hcp
 have HO:Hid ((((w.alloc (.cells C.toArray 147)).alloc (.cells #[.int .u8 0,.int .u8 0,.int .u8 0,.int .u8 0,.int .u8 0,.int .u8 0,.int .u8 0,.int .u8 0,.int .u8 0,.int .u8 0,.int .u8 0,.int .u8 0,.int .u8 0,.int .u8 0,.int .u8 0,.int .u8 0,.int .u8 0,.int .u8 0,.int .u8 0,.int .u8 0,.int .u8 0,.int .u8 0,.int .u8 0,.int .u8 0,.int .u8 0,.int .u8 0,.int .u8 0,.int .u8 0] 5)).setCells (w.heap.size+1) 0 (Za (zs.take 28))).ownsRow w.heap.size 5 1 (.slice (some ⟨w.heap.size+1,0,none⟩) 28 28) 28 (Za (zs.take 28))):=by
  refine W7 hlen (by omega) (by simp [maxLen]) ?_
  have hr:=World.rowIs_alloc (w.alloc (.cells C.toArray 147)) (List.replicate 28 (Value.int .u8 0)).toArray 5 (fun _=>.int .u8 0) (fun i hi=>Fb 28 i hi)
  have hs:(w.alloc (.cells C.toArray 147)).heap.size=w.heap.size+1:=by simp
  rw[hs] at hr
  refine (Go.rowIs_setCells (Za (zs.take 28)) 0 _ _ hr).congr (fun j hj=>?_)
  have hj':j<28:=hj
  rw[if_pos ⟨Nat.zero_le _,by rw[Zz,hlen];omega⟩]
  have h64:=hz.out
  simp [Za,List.getD,List.getElem?_take,hj',List.getElem?_eq_getElem (show j<zs.length by omega)]
 have HB:Hid (Below w.heap.size w (((w.alloc (.cells C.toArray 147)).alloc (.cells #[.int .u8 0,.int .u8 0,.int .u8 0,.int .u8 0,.int .u8 0,.int .u8 0,.int .u8 0,.int .u8 0,.int .u8 0,.int .u8 0,.int .u8 0,.int .u8 0,.int .u8 0,.int .u8 0,.int .u8 0,.int .u8 0,.int .u8 0,.int .u8 0,.int .u8 0,.int .u8 0,.int .u8 0,.int .u8 0,.int .u8 0,.int .u8 0,.int .u8 0,.int .u8 0,.int .u8 0,.int .u8 0] 5)).setCells (w.heap.size+1) 0 (Za (zs.take 28)))):=below_setCells _ (by omega) _ _ _ (((Below.refl _ _).alloc (Nat.le_refl _) _).alloc (by simp) _)
 clear hv hlen
 go_enter Tryz.func59,Tryz.ntmps59
 go_wp2
 go_ret
 exact ⟨_,rfl,HO,HB⟩
set_option maxHeartbeats 1600000 in
set_option maxRecDepth 100000 in
theorem Zar (C:List Value) (zs:List Int) (w:World) (hC:Hid (C=Za zs)) (hz:Hid (zs.length=64)) :
  Calls Tryz.prog 59 #[.agg C.toArray,.int .i64 32] w fun e w'=>∃ g,e=.returned (.slice (some ⟨g,0,none⟩) 32 32)∧w'.ownsRow w.heap.size 5 1 (.slice (some ⟨g,0,none⟩) 32 32) 32 (Za (zs.take 32))∧Below w.heap.size w w':=by
 have hmk:∀ w,(Instr.makeSlice 22 (.int .i64 32) (.int .i64 32)).run Tryz.prog w=.ok (.slice (some ⟨w.heap.size,0,none⟩) 32 32) (w.alloc (.cells #[.int .u8 0,.int .u8 0,.int .u8 0,.int .u8 0,.int .u8 0,.int .u8 0,.int .u8 0,.int .u8 0,.int .u8 0,.int .u8 0,.int .u8 0,.int .u8 0,.int .u8 0,.int .u8 0,.int .u8 0,.int .u8 0,.int .u8 0,.int .u8 0,.int .u8 0,.int .u8 0,.int .u8 0,.int .u8 0,.int .u8 0,.int .u8 0,.int .u8 0,.int .u8 0,.int .u8 0,.int .u8 0,.int .u8 0,.int .u8 0,.int .u8 0,.int .u8 0] 5)):=fun _=>by kernel_rfl
 have hlen:(zs.take 32).length=32:=by rw[List.length_take,hz.out];rfl
 have hv:Zi ((w.alloc (.cells C.toArray 147)).alloc (.cells #[.int .u8 0,.int .u8 0,.int .u8 0,.int .u8 0,.int .u8 0,.int .u8 0,.int .u8 0,.int .u8 0,.int .u8 0,.int .u8 0,.int .u8 0,.int .u8 0,.int .u8 0,.int .u8 0,.int .u8 0,.int .u8 0,.int .u8 0,.int .u8 0,.int .u8 0,.int .u8 0,.int .u8 0,.int .u8 0,.int .u8 0,.int .u8 0,.int .u8 0,.int .u8 0,.int .u8 0,.int .u8 0,.int .u8 0,.int .u8 0,.int .u8 0,.int .u8 0] 5)) (.slice (some ⟨w.heap.size,0,none⟩) 32 64) (zs.take 32):=by
  refine ⟨_,64,by rw[hlen],by rw[hlen];omega,by simp [maxLen],(fun e=>by cases e),.inr ⟨w.heap.size,0,rfl,fun i hi=>?_⟩⟩
  rw[hlen] at hi
  rw[World.cell?_alloc_past _ _ _ (by simp),World.cell?_alloc_at _ _ _ _ rfl,hC.out,Nat.zero_add]
  have h64:=hz.out
  simp [Za,List.getD,List.getElem?_take,hi,List.getElem?_eq_getElem (show i<zs.length by omega)]
 have hcp:=Kw _ (w.heap.size+1) 0 32 32 _ 32 64 32 _ rfl hv (Qd w _ _ 147 5 32 (by decide))
 rw[List.take_take,Nat.min_self] at hcp
 have HO:Hid ((((w.alloc (.cells C.toArray 147)).alloc (.cells #[.int .u8 0,.int .u8 0,.int .u8 0,.int .u8 0,.int .u8 0,.int .u8 0,.int .u8 0,.int .u8 0,.int .u8 0,.int .u8 0,.int .u8 0,.int .u8 0,.int .u8 0,.int .u8 0,.int .u8 0,.int .u8 0,.int .u8 0,.int .u8 0,.int .u8 0,.int .u8 0,.int .u8 0,.int .u8 0,.int .u8 0,.int .u8 0,.int .u8 0,.int .u8 0,.int .u8 0,.int .u8 0,.int .u8 0,.int .u8 0,.int .u8 0,.int .u8 0] 5)).setCells (w.heap.size+1) 0 (Za (zs.take 32))).ownsRow w.heap.size 5 1 (.slice (some ⟨w.heap.size+1,0,none⟩) 32 32) 32 (Za (zs.take 32))):=by
  refine W7 hlen (by omega) (by simp [maxLen]) ?_
  have hr:=World.rowIs_alloc (w.alloc (.cells C.toArray 147)) (List.replicate 32 (Value.int .u8 0)).toArray 5 (fun _=>.int .u8 0) (fun i hi=>Fb 32 i hi)
  have hs:(w.alloc (.cells C.toArray 147)).heap.size=w.heap.size+1:=by simp
  rw[hs] at hr
  refine (Go.rowIs_setCells (Za (zs.take 32)) 0 _ _ hr).congr (fun j hj=>?_)
  have hj':j<32:=hj
  rw[if_pos ⟨Nat.zero_le _,by rw[Zz,hlen];omega⟩]
  have h64:=hz.out
  simp [Za,List.getD,List.getElem?_take,hj',List.getElem?_eq_getElem (show j<zs.length by omega)]
 have HB:Hid (Below w.heap.size w (((w.alloc (.cells C.toArray 147)).alloc (.cells #[.int .u8 0,.int .u8 0,.int .u8 0,.int .u8 0,.int .u8 0,.int .u8 0,.int .u8 0,.int .u8 0,.int .u8 0,.int .u8 0,.int .u8 0,.int .u8 0,.int .u8 0,.int .u8 0,.int .u8 0,.int .u8 0,.int .u8 0,.int .u8 0,.int .u8 0,.int .u8 0,.int .u8 0,.int .u8 0,.int .u8 0,.int .u8 0,.int .u8 0,.int .u8 0,.int .u8 0,.int .u8 0,.int .u8 0,.int .u8 0,.int .u8 0,.int .u8 0] 5)).setCells (w.heap.size+1) 0 (Za (zs.take 32)))):=below_setCells _ (by omega) _ _ _ (((Below.refl _ _).alloc (Nat.le_refl _) _).alloc (by simp) _)
 clear hv hlen
 go_enter Tryz.func59,Tryz.ntmps59
 go_wp2
 go_ret
 exact ⟨_,rfl,HO,HB⟩
theorem Oi (h:Int):(Q3 h)[0]?=some (.int .i64 h)∧(Q3 h)[1]?=some .nilFunc∧(∀ i,i<128→(Q3 h)[10+i]?=some (.int .u8 0))∧(Q3 h)[138]?=some (.int .u64 0):=by
 refine ⟨rfl,rfl,?_,rfl⟩
 intro i hi
 have e:(Q3 h)[10+i]?=(List.replicate 128 (Value.int .u8 0)++[.int .u64 0])[i]?:=by
  rw[Q3,Vu,show 10+i=((8+i)+1)+1 by omega,List.getElem?_cons_succ,List.getElem?_cons_succ,List.getElem?_append_right (by simp),List.map_replicate]
  rw[List.length_map,List.length_replicate,show 8+i-8=i by omega]
 rw[e,List.getElem?_append_left (by rw[List.length_replicate];exact hi),List.getElem?_replicate,if_pos hi]
theorem Zb0 {W V:World} {L:Nat} (h:Int) (wd:Bool) (E:Zd) (hr:W.rangeAt L 0 (Q3 h)) (ht:W.there L 0 139) (hb:∀ j,V.cell? ⟨L,j,none⟩=(W.setCell ⟨L,1,none⟩ (fnV wd)).cell? ⟨L,j,none⟩) (htV:V.there L 0 139) :
  (V.setCells L 2 E.cells).rangeAt L 0 (tkL h wd E (fun _=>0) 0):=by
 obtain ⟨h0,h1,h2,h3,h4⟩:=Mc h wd E (fun _=>0) 0
 obtain ⟨k0,k1,k3,k4⟩:=Oi h
 have hout:∀ j,(j<2∨10≤j)→(V.setCells L 2 E.cells).cell? ⟨L,j,none⟩=V.cell? ⟨L,j,none⟩:=fun j hj=>World.cell?_setCells_out L E.cells 2 V ⟨L,j,none⟩ (fun _ _=>by rcases hj with hj | hj;exact .inl hj;exact .inr hj)
 have hout1:∀ j,j≠1→(W.setCell ⟨L,1,none⟩ (fnV wd)).cell? ⟨L,j,none⟩=W.cell? ⟨L,j,none⟩:=fun j hj=>World.cell?_setCells_out L [fnV wd] 1 W ⟨L,j,none⟩ (fun _ _=>by show j<1∨1+1≤j;omega)
 intro j v hv
 have hj:j<139:=by
  by_cases hj:j<139
  ·exact hj
  ·rw[List.getElem?_eq_none (by rw[Qs];omega)] at hv;cases hv
 rw[Nat.zero_add]
 by_cases j0:j=0
 ·subst j0;rw[h0] at hv;cases hv;rw[hout 0 (by omega),hb,hout1 0 (by omega)];exact hr 0 _ k0
 by_cases j1:j=1
 ·subst j1;rw[h1] at hv;cases hv;rw[hout 1 (by omega),hb];exact World.cell?_setCell_same' _ _ _ (ht 1 (by omega)).1
 by_cases j2:j<10
 ·obtain ⟨i,rfl⟩:∃ i,j=2+i:=⟨j-2,by omega⟩
  rw[h2 i (by omega)] at hv
  exact World.rangeAt_setCells_same V L 2 E.cells (fun j hj=>by have:=htV (2+j) (by have:E.cells.length=8:=rfl;omega);rw[Nat.zero_add] at this;exact this) i v hv
 by_cases j3:j<138
 ·obtain ⟨i,rfl⟩:∃ i,j=10+i:=⟨j-10,by omega⟩
  rw[h3 i (by omega)] at hv
  cases hv
  rw[hout _ (by omega),hb,hout1 _ (by omega)]
  have:=hr (10+i) _ (k3 i (by omega))
  rw[Nat.zero_add] at this
  exact this
 ·obtain rfl:j=138:=by omega
  rw[h4] at hv;cases hv;rw[hout _ (by omega),hb,hout1 _ (by omega)];exact hr 138 _ k4
set_option maxHeartbeats 600000 in
set_option maxRecDepth 100000 in
theorem Bj (h:Int) (w:World) (hblk:Yg h=64) (hfw:Hid (∀ v,Tables v→Calls Tryz.prog 94 #[.int .i64 h] v fun e w'=>e=.returned (.agg (Zy h).cells.toArray)∧Below v.heap.size v w')) (hT:Hid (Tables w)) :
  Calls Tryz.prog 56 #[.int .i64 h] w fun e w'=>e=.returned (.tuple #[.agg (tkL h false (Zy h) (fun _=>0) 0).toArray,.int .i64 0])∧Below w.heap.size w w':=by
 have e71:=Za0 h
 have hz:Tryz.zeroCells141.size=139:=by rw[Wc];exact Gw
 have ht:((w.alloc (.cells Tryz.zeroCells141 141)).alloc (.cells Tryz.zeroCells141 141)).there (w.heap.size+1) 0 139:=by
  simpa using Zf (w.alloc (.cells Tryz.zeroCells141 141)) Tryz.zeroCells141 141 139 (by rw[hz];exact Nat.le_refl _)
 have HT:Hid (((w.alloc (.cells Tryz.zeroCells141 141)).alloc (.cells Tryz.zeroCells141 141)).there (w.heap.size+1) 0 139):=ht
 clear hz ht
 go_enter Tryz.func56,Tryz.ntmps56
 go_wp2_with (first
  | (refine wpList_store_mid (by rfl) 141 (.tmp 4) (.tmp 6) (by rfl) (w.heap.size+1) 0 (Q3 h).toArray (by rfl) (by rfl) (by rw[Ro];exact HT.out) (by rw[Ro];exact Vf) (Ut h) ?_)
  | fail)
 refine (Xa h _).mono ?_
 rintro e w1 ⟨rfl,rfl⟩
 rw[hblk]
 have hb2:Below w.heap.size w (((w.alloc (.cells Tryz.zeroCells141 141)).alloc (.cells Tryz.zeroCells141 141)).setCells (w.heap.size+1) 0 (Q3 h)):=
  below_setCells _ (by omega) _ _ _ (((Below.refl _ _).alloc (Nat.le_refl _) _).alloc (by simp) _)
 have ht2:(((w.alloc (.cells Tryz.zeroCells141 141)).alloc (.cells Tryz.zeroCells141 141)).setCells (w.heap.size+1) 0 (Q3 h)).there w.heap.size 0 139:=
  World.there_setCells (World.there_alloc (Zf w Tryz.zeroCells141 141 139 (by rw[Wc,Gw];exact Nat.le_refl _)) _) _ _ _
 have ht3:(((w.alloc (.cells Tryz.zeroCells141 141)).alloc (.cells Tryz.zeroCells141 141)).setCells (w.heap.size+1) 0 (Q3 h)).there (w.heap.size+1) 0 139:=World.there_setCells HT.out _ _ _
 have hr2:(((w.alloc (.cells Tryz.zeroCells141 141)).alloc (.cells Tryz.zeroCells141 141)).setCells (w.heap.size+1) 0 (Q3 h)).rangeAt (w.heap.size+1) 0 (Q3 h):=World.rangeAt_setCells_same _ _ _ _ (by rw[W5];exact HT.out)
 have hs2:(((w.alloc (.cells Tryz.zeroCells141 141)).alloc (.cells Tryz.zeroCells141 141)).setCells (w.heap.size+1) 0 (Q3 h)).heap.size=w.heap.size+2:=by rw[size_setCells];simp
 generalize (((w.alloc (.cells Tryz.zeroCells141 141)).alloc (.cells Tryz.zeroCells141 141)).setCells (w.heap.size+1) 0 (Q3 h))=W2 at hb2 ht2 ht3 hr2 hs2 ⊢
 have HB2:Hid (Below w.heap.size w W2∧W2.there w.heap.size 0 139∧W2.there (w.heap.size+1) 0 139∧W2.rangeAt (w.heap.size+1) 0 (Q3 h)∧W2.heap.size=w.heap.size+2):=⟨hb2,ht2,ht3,hr2,hs2⟩
 have c1:W2.cell? ⟨w.heap.size+1,1,none⟩=some .nilFunc:=hr2 1 _ rfl
 have f1:W2.frozen? ⟨w.heap.size+1,1,none⟩=false:=(ht3 1 (by omega)).2
 clear hb2 ht2 ht3 hr2 hs2 HT e71
 go_wp2_with (first
  | (go_at_call 94;refine (hfw.out _ ?_).mono ?_)
  | fail)
 ·exact ((hT.out.below HB2.out.1 hT.out.size).kept fun k hk=>World.heap_setCells_other W2 (w.heap.size+1) 1 [_] (by have:=hT.out.size;have:=HB2.out.2.2.2.2;omega) (by have:=hT.out.size;omega))
 rintro e5 w5 ⟨rfl,hb5⟩
 obtain ⟨E,HE⟩:∃ E:Zd,Hid (E=Zy h):=⟨_,rfl⟩
 rw[←HE.out]
 have hsz:(W2.setCell ⟨w.heap.size+1,1,none⟩ (fnV false)).heap.size=w.heap.size+2:=(size_setCells (w.heap.size+1) [fnV false] 1 W2).trans HB2.out.2.2.2.2
 have hst:=fun (b o n:Nat) (ht:W2.there b o n)=>World.there_setCells ht (w.heap.size+1) 1 [fnV false]
 have hb5':Below (w.heap.size+2) (W2.setCell ⟨w.heap.size+1,1,none⟩ (fnV false)) w5:=by rw[←hsz];exact hb5
 have hth:∀ b n,b<w.heap.size+2→W2.there b 0 n→w5.there b 0 n:=fun b n hb ht j hj=>by
  rw[hb5'.cell (p:=⟨b,0+j,none⟩) hb,hb5'.frozen (p:=⟨b,0+j,none⟩) hb]
  exact hst b 0 n ht j hj
 have HB5:Hid (Below w.heap.size w w5∧w5.there w.heap.size 0 139∧w5.there (w.heap.size+1) 0 139):=⟨(HB2.out.1.setCell (p:=⟨w.heap.size+1,1,none⟩) (by simp) _).trans (hb5'.mono (by omega)),hth _ _ (by omega) HB2.out.2.1,hth _ _ (by omega) HB2.out.2.2.1⟩
 have hr5:=Zb0 h false E HB2.out.2.2.2.1 HB2.out.2.2.1 (fun j=>hb5'.cell (p:=⟨w.heap.size+1,j,none⟩) (by simp)) HB5.out.2.2
 have HR5:Hid ((w5.setCells (w.heap.size+1) 2 E.cells).rangeAt (w.heap.size+1) 0 (tkL h false E (fun _=>0) 0)):=hr5
 have HX:Hid (w5.there (w.heap.size+1) 2 E.cells.toArray.size):=fun j hj=>by
  have:=HB5.out.2.2 (2+j) (by have:E.cells.toArray.size=8:=rfl;omega)
  rw[Nat.zero_add] at this
  exact this
 have HZ:Hid ((Tryz.prog.info? 138).map (·.size)=some E.cells.toArray.size):=Qu
 clear hr5 hth hb5' hst hsz hb5 HB2 c1 f1
 go_upto_region 9 with (first
  | (refine wpList_store_mid (by rfl) 138 (.tmp 18) (.tmp 17) (by rfl) (w.heap.size+1) 2 E.cells.toArray (by rfl) (by rfl) HX.out HZ.out (Xn E) ?_)
  | fail)
 have HB6:Hid (Below w.heap.size w (w5.setCells (w.heap.size+1) 2 E.cells)∧(w5.setCells (w.heap.size+1) 2 E.cells).there w.heap.size 0 139):=⟨below_setCells _ (by omega) _ _ _ HB5.out.1,World.there_setCells HB5.out.2.1 _ _ _⟩
 generalize w5.setCells (w.heap.size+1) 2 E.cells=w6 at HR5 HB6 ⊢
 obtain ⟨T,HTT⟩:∃ T:List Value,Hid (T=tkL h false E (fun _=>0) 0):=⟨_,rfl⟩
 rw[←HTT.out] at HR5
 have HLA:Hid (T.toArray.size=139):=by show _=_;rw[HTT.out];exact Md _ _ _ _ _
 have HL:Hid (T.length=139):=by rw[HTT.out];exact Qs _ _ _ _ _
 have HY:Hid (w6.there w.heap.size 0 T.toArray.size):=by rw[HLA.out];exact HB6.out.2
 have HZ6:Hid ((Tryz.prog.info? 141).map (·.size)=some T.toArray.size):=by rw[HLA.out];exact Vf
 have HO:Hid (T.toArray.all (·.oneCell')=true):=by rw[HTT.out];exact Rf _ _ _ _ _
 clear HB5
 go_wp2_with (first
  | (refine wpList_load_mid (by rfl) 141 (.tmp 4) (by rfl) (w.heap.size+1) 0 (by rfl) T _ HR5.out Tryz.underlying141 rfl (by rw[HL.out];exact Vf) ?_)
  | (refine wpList_store_mid (by rfl) 141 (.tmp 2) (.tmp 19) (by rfl) w.heap.size 0 T.toArray (by rfl) (by rfl) HY.out HZ6.out HO.out ?_)
  | fail)
 have hl:=run_loadVar_mid (P:=Tryz.prog) (w6.setCells w.heap.size 0 T) w.heap.size 0 141 T _ (World.rangeAt_setCells_same w6 w.heap.size 0 T (by rw[HL.out];exact HB6.out.2)) Tryz.underlying141 rfl (by rw[HL.out];exact Vf)
 refine bodyPost_ret (v:=.tuple #[.agg T.toArray,.int .i64 0]) ?_ rfl ⟨by rw[HTT.out,HE.out],below_setCells _ (Nat.le_refl _) _ _ _ HB6.out.1⟩
 rw[results_cell_tmp Tryz.results56]
 simp [asAddr,hl]
end Go.Proofs.YtehlppaidgkpaaaGreatDoor.Dg
