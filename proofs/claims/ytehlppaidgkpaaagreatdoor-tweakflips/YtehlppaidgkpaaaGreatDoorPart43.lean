import Derived.Test.YtehlppaidgkpaaaGreatDoorPart41
namespace Go.Proofs.YtehlppaidgkpaaaGreatDoor
open Go.RowKit
set_option linter.unusedVariables false
set_option linter.unusedSimpArgs false
def bkZ (F:Nat→BitVec 128) (n k:Nat):List Int:=(List.range n).map fun i=>if i<16*k then ((Fd.byV (F (i/16)) (i%16):Nat):Int) else 0
theorem Gn (F:Nat→BitVec 128) (n k:Nat):(bkZ F n k).length=n:=by simp [bkZ]
theorem Jv (F:Nat→BitVec 128) (n k i:Nat) (hi:i<n):(bkZ F n k).getD i 0=if i<16*k then ((Fd.byV (F (i/16)) (i%16):Nat):Int) else 0:=by
 rw[List.getD_eq_getElem?_getD,bkZ,List.getElem?_map,List.getElem?_range hi];rfl
theorem Zbu (F:Nat→BitVec 128) (n k i:Nat) (hk:16*k≤n) (hi:i<n):(bkR F n k)[i]?=some (.int .u8 ((bkZ F n k).getD i 0)):=by
 rw[Jv F n k i hi,bkR]
 by_cases h:i<16*k
 ·rw[if_pos h,List.getElem?_append_left (by rw[Xt];exact h)]
  have q:=Zbv F k (i/16) (i%16) (by omega) (by omega)
  rw[show 16*(i/16)+i%16=i by omega] at q
  exact q
 ·rw[if_neg h,List.getElem?_append_right (by rw[Xt];omega),Xt,List.getElem?_replicate,if_pos (by omega)]
theorem Is {zs:List Int} {j:Nat} {v:BitVec 128} (h:∀ i,i<16→zs.getD (16*j+i) 0=((Fd.byV v i:Nat):Int)):cutV zs j=v:=by
 have e:cutV zs j=BitVec.ofNat 128 (Fd.pk (fun i=>Fd.byV v i) 16):=by
  unfold cutV
  rw[Gz _ (fun i=>Fd.byV v i) 16 fun i hi=>by unfold Ql;rw[h i hi];simp]
 rw[e]
 apply Fd.We
 intro i hi
 exact Fd.Wh _ (fun i=>Fd.Q3 v i) i hi
structure CbX (B:Nat) (Ks:Nat→Prop) (I:World→Prop) (sh p q:Nat) (a:BitVec 128) (u:World):Prop where
 inv:I u
 cp:u.cell? ⟨p,0,none⟩=some (.pointer (some ⟨sh,0,none⟩))
 bq:Bx u q 27 (Fd.BL a)
 pB:B≤p
 qB:B≤q
 ne:p≠q
theorem CbX.grown {B:Nat} {Ks:Nat→Prop} {I:World→Prop} {sh p q:Nat} {a:BitVec 128} {u v:World} (h:CbX B Ks I sh p q a u) (hC:Cst B Ks I) (hk:Gk Ks u v) (hi:I v):CbX B Ks I sh p q a v:=
 ⟨hi,hk.cell (hC.new h.pB) h.cp,h.bq.gk hk (hC.new h.qB),h.pB,h.qB,h.ne⟩
theorem CbX.below {B:Nat} {Ks:Nat→Prop} {I:World→Prop} {sh p q:Nat} {a:BitVec 128} {u v:World} (h:CbX B Ks I sh p q a u) (hC:Cst B Ks I) (hb:Below u.heap.size u v):CbX B Ks I sh p q a v:=h.grown hC (Gk.of_below hb) (hC.below h.inv hb)
def KsQ (Ks:Nat→Prop) (q:Nat) (c:Nat):Prop:=Ks c∨c=q
theorem Gk.wide {Ks:Nat→Prop} {u v:World} (h:Gk Ks u v) (q:Nat):Gk (KsQ Ks q) u v:=⟨h.os,h.tape,h.output,h.size,fun c hc hn=>h.block c hc (fun e=>hn (.inl e))⟩
theorem CbX.write {B:Nat} {Ks:Nat→Prop} {I:World→Prop} {sh p q:Nat} {a b:BitVec 128} {u v:World} (h:CbX B Ks I sh p q a u) (hC:Cst B Ks I) (hb:u.grownBy v (some q)) (hq:Bx v q 27 (Fd.BL b)):CbX B Ks I sh p q b v:=
 ⟨hC.gb h.inv hb h.qB,by rw[World.cell?_of_block (a:=⟨p,0,none⟩) (hb.block p (World.block_lt_of_cell? u _ h.cp) (fun e=>h.ne (by injection e)))];exact h.cp,hq,h.pB,h.qB,h.ne⟩
theorem Gk.narrow {Ks:Nat→Prop} {u v x:World} {q:Nat} (h:Gk Ks u v) (k:Gk (KsQ Ks q) v x) (hq:u.heap.size≤q):Gk Ks u x:=
 ⟨k.os.trans h.os,k.tape.trans h.tape,k.output.trans h.output,Nat.le_trans h.size k.size,fun c hc hn=>(k.block c (Nat.lt_of_lt_of_le hc h.size) (fun e=>e.elim hn (fun e=>by omega))).trans (h.block c hc hn)⟩
end Go.Proofs.YtehlppaidgkpaaaGreatDoor
