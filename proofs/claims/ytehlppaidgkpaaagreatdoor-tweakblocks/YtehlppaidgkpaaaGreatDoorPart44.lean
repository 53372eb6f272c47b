import Derived.Test.YtehlppaidgkpaaaGreatDoorPart00
import Derived.Test.YtehlppaidgkpaaaGreatDoorPart43
import Derived.OwnWalk
namespace Go.Proofs.YtehlppaidgkpaaaGreatDoor
open Go.RowKit
set_option linter.unusedVariables false
set_option linter.unusedSimpArgs false
structure MkW (g nr:Nat) (K:Nat→Nat) (sh p q r o n c:Nat) (f:Nat→BitVec 128) (u:World):Prop where
 key:Zp u g nr K
 csh:u.cell? ⟨sh,4,none⟩=some (.pointer (some ⟨g,0,none⟩))
 cp:u.cell? ⟨p,0,none⟩=some (.func (.func 190) #[.pointer (some ⟨sh,0,none⟩)] #[])
 cq:u.cell? ⟨q,0,none⟩=some (.slice (some ⟨r,o,none⟩) n c)
 rg:∀ j,j<n→u.rangeAt r (o+j*16) (Fd.BL (f j))
 n1:sh≠g
 n2:p≠g
 n3:q≠g
 n4:r≠g
theorem MkW.keep {g nr:Nat} {K:Nat→Nat} {sh p q r o n c:Nat} {f:Nat→BitVec 128} {u u':World} (h:MkW g nr K sh p q r o n c f u) (hk:∀ k,k<u.heap.size→k≠g→u'.heap[k]?=u.heap[k]?) (ha:Zp u' g nr K):MkW g nr K sh p q r o n c f u':=by
 have cc:∀ b o x,b≠g→u.cell? ⟨b,o,none⟩=some x→u'.cell? ⟨b,o,none⟩=some x:=fun b o x hb hx=>by
  rw[World.cell?_of_block (a:=⟨b,o,none⟩) (hk b (World.block_lt_of_cell? u _ hx) hb)];exact hx
 exact ⟨ha,cc _ _ _ h.n1 h.csh,cc _ _ _ h.n2 h.cp,cc _ _ _ h.n3 h.cq,fun j hj i x hx=>cc _ _ _ h.n4 (h.rg j hj i x hx),h.n1,h.n2,h.n3,h.n4⟩
theorem MkW.below {g nr:Nat} {K:Nat→Nat} {sh p q r o n c:Nat} {f:Nat→BitVec 128} {u u':World} (h:MkW g nr K sh p q r o n c f u) (hb:Below u.heap.size u u'):MkW g nr K sh p q r o n c f u':=
 h.keep (fun k hk _=>hb.block k hk) (h.key.below hb h.key.ciph.here)
theorem MkW.grown {g nr:Nat} {K:Nat→Nat} {sh p q r o n c:Nat} {f:Nat→BitVec 128} {u u':World} (h:MkW g nr K sh p q r o n c f u) (hb:u.grownBy u' (some g)) (ha:Zp u' g nr K):MkW g nr K sh p q r o n c f u':=
 h.keep (fun k hk hn=>hb.block k hk (fun e=>hn (by injection e))) ha
def MkT (p q r o n c j m sh:Nat) (L X:List Value) (u:World):Prop:=u.cell? ⟨p,0,none⟩=some (.func (.func 190) #[.pointer (some ⟨sh,0,none⟩)] #[])∧u.cell? ⟨q,0,none⟩=some (.slice (some ⟨r,o,none⟩) n c)∧u.rangeAt m 0 L∧u.rangeAt r (o+j*16) X∧u.there (m+1) 0 16
theorem MkW.reads {g nr:Nat} {K:Nat→Nat} {sh p q r o n c j m:Nat} {f:Nat→BitVec 128} {u:World} {L:List Value} (h:MkW g nr K sh p q r o n c f u) (hj:j<n) (h1:Bx u m 27 L) {Z:List Value} (h2:Bx u (m+1) 27 Z) (hZ:Z.length=16):MkT p q r o n c j m sh L (Fd.BL (f j)) u:=
 ⟨h.cp,h.cq,h1.range,h.rg j hj,Y6 h2 hZ⟩
set_option maxHeartbeats 1600000 in
set_option maxRecDepth 100000 in
theorem Zah (g nr:Nat) (K:Nat→Nat) (sh p q r o n c j:Nat) (f:Nat→BitVec 128) (v:BitVec 128) (w:World) (h:MkW g nr K sh p q r o n c f w) (hj:j<n) (hn:n≤c) :
  Calls Tryz.prog 243 #[.int .i64 (j:Nat),Fd.BV v,.pointer (some ⟨p,0,none⟩),.pointer (some ⟨q,0,none⟩)] w fun e w'=>Hid (e=.returned (Fd.BV (Yz nr K (v ^^^ f j) ^^^ f j))∧MkW g nr K sh p q r o n c f w'∧w.grownBy w' (some g)):=by
 obtain ⟨L,HL⟩:∃ L,Hid (L=Fd.BL v):=⟨_,rfl⟩
 obtain ⟨X,HX⟩:∃ X,Hid (X=Fd.BL (f j)):=⟨_,rfl⟩
 obtain ⟨L2,HL2⟩:∃ X,Hid (X=Fd.BL (v ^^^ f j)):=⟨_,rfl⟩
 obtain ⟨L3,HL3⟩:∃ X,Hid (X=Fd.BL (Yz nr K (v ^^^ f j))):=⟨_,rfl⟩
 obtain ⟨L4,HL4⟩:∃ X,Hid (X=Fd.BL (Yz nr K (v ^^^ f j) ^^^ f j)):=⟨_,rfl⟩
 have HX1:Hid (∀ u,Calls Tryz.prog 196 #[.agg L.toArray,.agg X.toArray] u fun e w'=>Hid (e=.returned (.agg L2.toArray)∧Below u.heap.size u w')):=fun u=>by
  rw[HL.out,HX.out,HL2.out];exact (Fd.D6 v (f j) u).mono fun e w' hh=>hh
 have HX2:Hid (∀ u,Calls Tryz.prog 196 #[.agg L3.toArray,.agg X.toArray] u fun e w'=>Hid (e=.returned (.agg L4.toArray)∧Below u.heap.size u w')):=fun u=>by
  rw[HL3.out,HX.out,HL4.out];exact (Fd.D6 _ (f j) u).mono fun e w' hh=>hh
 have HE:Hid (∀ u,MkW g nr K sh p q r o n c f u→Calls Tryz.prog 190 #[.pointer (some ⟨sh,0,none⟩),.agg L2.toArray] u fun e w'=>Hid (e=.returned (.agg L3.toArray)∧Zp w' g nr K∧u.grownBy w' (some g))):=fun u hu=>by
  rw[HL2.out,HL3.out];exact F9 sh g nr K (v ^^^ f j) u hu.n1 hu.csh hu.key
 have HLN:Hid (L.length=16∧X.length=16∧L4.length=16∧(∀ x∈L4,x.oneCell'=true)):=by rw[HL.out,HX.out,HL4.out];exact ⟨rfl,rfl,rfl,Yt _⟩
 show Calls Tryz.prog 243 #[_,.agg (Fd.BL v).toArray,_,_] w fun e w'=>Hid (e=.returned (.agg (Fd.BL (Yz nr K (v ^^^ f j) ^^^ f j)).toArray)∧_)
 rw[←HL.out,←HL4.out]
 obtain ⟨w1,hw1⟩:∃ w1,w1=(w.alloc (.cells L.toArray 27)).alloc (.cells ZZ.toArray 27):=⟨_,rfl⟩
 have HB1:Hid (Bx w1 w.heap.size 27 L∧Bx w1 (w.heap.size+1) 27 ZZ∧Below w.heap.size w w1∧MkW g nr K sh p q r o n c f w1∧g<w.heap.size):=by
  have hb:Below w.heap.size w w1:=by rw[hw1];exact ((Below.refl _ _).alloc (Nat.le_refl _) _).alloc (by simp) _
  refine ⟨?_,?_,hb,h.below hb,h.key.ciph.here⟩
  ·rw[hw1];exact (Bx.new w 27 L).below ((Below.refl _ _).alloc (Nat.le_refl _) _)
  ·rw[hw1];have q:=Bx.new (w.alloc (.cells L.toArray 27)) 27 ZZ;simpa using q
 have hw2:w1=(w.alloc (.cells L.toArray 27)).alloc (.cells #[.int .u8 0,.int .u8 0,.int .u8 0,.int .u8 0,.int .u8 0,.int .u8 0,.int .u8 0,.int .u8 0,.int .u8 0,.int .u8 0,.int .u8 0,.int .u8 0,.int .u8 0,.int .u8 0,.int .u8 0,.int .u8 0] 27):=hw1
 have HB0:Hid (MkW g nr K sh p q r o n c f w):=h
 clear hw1 h
 go_enter Tryz.func243,Tryz.ntmps243
 go_upto_region 1 with fail
 rw[←hw2]
 clear hw2
 obtain ⟨m,HMM⟩:∃ m,Hid (w.heap.size=m):=⟨_,rfl⟩
 rw[HMM.out] at HB1 ⊢
 have HW1:Hid (m+1<w1.heap.size):=HB1.out.2.1.lt
 have hU:Tryz.prog.underlying 27=some (.array 16 5):=Tryz.underlying27
 have hiL:(Tryz.prog.info? 27).map (·.size)=some L.length:=by rw[HLN.out.1];kernel_rfl
 have hiX:(Tryz.prog.info? 27).map (·.size)=some X.length:=by rw[HLN.out.2.1];kernel_rfl
 have hi4:(Tryz.prog.info? 27).map (·.size)=some L4.length:=by rw[HLN.out.2.2.1];kernel_rfl
 have h416:L4.length=16:=HLN.out.2.2.1
 have h41:∀ v∈L4,v.oneCell'=true:=HLN.out.2.2.2
 have HJ:Hid (j<n):=hj
 have g0:(0:Int)≤(j:Int):=by omega
 have g1:(j:Int)<(n:Int):=by omega
 have HR:Hid (∀ u Z,MkW g nr K sh p q r o n c f u→Bx u m 27 L→Bx u (m+1) 27 Z→Z.length=16→MkT p q r o n c j m sh L X u):=fun u Z a b d e=>by rw[HX.out];exact a.reads HJ.out b d e
 have hS1:=HR.out w1 ZZ HB1.out.2.2.2.1 HB1.out.1 HB1.out.2.1 rfl
 clear hj hn
 have hS0:MkT p q r o n c j m sh L X w1.drew:=by
  obtain ⟨c1,c2,c3,c4,c5⟩:=hS1
  exact ⟨by simpa using c1,by simpa using c2,by simpa using c3,by simpa using c4,by simpa using c5⟩
 refine wp_region_noPanic ?_
 refine Yb (fun u=>MkT p q r o n c j m sh L X u) 13 (by kernel_rfl) (by decide) (by decide +kernel) (by decide +kernel) (by decide +kernel) (fun inv=>?_)
 refine tT 0 7 (.func (.func 190) #[.pointer (some ⟨sh,0,none⟩)] #[]) inv rfl rfl (by decide +kernel) hS0 (Or.inl ⟨by rfl,fun w' hS'=>by obtain ⟨c1,c2,c3,c4,c5⟩:=hS';go_simp⟩) (fun inv=>?_)
 simp only[pU]
 refine tT 1 8 (.agg L.toArray) inv rfl rfl (by decide +kernel) hS0 (yieldsIf_load_mid (by rfl) 27 (.tmp 5) rfl m 0 rfl L _ (fun u hu=>hu.2.2.1) Tryz.underlying27 rfl hiL) (fun inv=>?_)
 simp only[pU]
 refine tT 2 9 (.slice (some ⟨r,o,none⟩) n c) inv rfl rfl (by decide +kernel) hS0 (Or.inl ⟨by rfl,fun w' hS'=>by obtain ⟨c1,c2,c3,c4,c5⟩:=hS';go_simp⟩) (fun inv=>?_)
 simp only[pU]
 refine tT 3 10 (.int .i64 (j:Nat)) inv rfl rfl (by decide +kernel) hS0 (Or.inl ⟨by rfl,fun w' hS'=>by obtain ⟨c1,c2,c3,c4,c5⟩:=hS';go_simp⟩) (fun inv=>?_)
 simp only[pU]
 refine tT 4 11 (.pointer (some ⟨r,o+j*16,none⟩)) inv rfl rfl (by decide +kernel) hS0 (Or.inl ⟨by rfl,fun w' hS'=>by obtain ⟨c1,c2,c3,c4,c5⟩:=hS';go_simp⟩) (fun inv=>?_)
 simp only[pU]
 refine tT 5 12 (.agg X.toArray) inv rfl rfl (by decide +kernel) hS0 (yieldsIf_load_mid (by rfl) 27 (.tmp 11) rfl r (o+j*16) rfl X _ (fun u hu=>hu.2.2.2.1) Tryz.underlying27 rfl hiX) (fun inv=>?_)
 simp only[pU]
 refine tT 8 15 (.slice (some ⟨r,o,none⟩) n c) inv rfl rfl (by decide +kernel) hS0 (Or.inl ⟨by rfl,fun w' hS'=>by obtain ⟨c1,c2,c3,c4,c5⟩:=hS';go_simp⟩) (fun inv=>?_)
 simp only[pU]
 refine tT 9 16 (.int .i64 (j:Nat)) inv rfl rfl (by decide +kernel) hS0 (Or.inl ⟨by rfl,fun w' hS'=>by obtain ⟨c1,c2,c3,c4,c5⟩:=hS';go_simp⟩) (fun inv=>?_)
 simp only[pU]
 refine tT 10 17 (.pointer (some ⟨r,o+j*16,none⟩)) inv rfl rfl (by decide +kernel) hS0 (Or.inl ⟨by rfl,fun w' hS'=>by obtain ⟨c1,c2,c3,c4,c5⟩:=hS';go_simp⟩) (fun inv=>?_)
 simp only[pU]
 refine tT 11 18 (.agg X.toArray) inv rfl rfl (by decide +kernel) hS0 (yieldsIf_load_mid (by rfl) 27 (.tmp 17) rfl r (o+j*16) rfl X _ (fun u hu=>hu.2.2.2.1) Tryz.underlying27 rfl hiX) (fun inv=>?_)
 simp only[pU]
 refine Zv (i:=6) inv (by decide +kernel) (by decide) rfl (fun KK hK=>?_)
 go_simp
 refine (HX1.out _).mono ?_
 intro e2 w2 hh
 obtain ⟨rfl,hb2⟩:=hh.out
 have HB2:Hid (Bx w2 m 27 L∧Bx w2 (m+1) 27 ZZ∧Below w1.heap.size w1 w2∧MkW g nr K sh p q r o n c f w2):=(have hb:=(Below.refl w1.heap.size w1).drew.trans hb2;⟨HB1.out.1.below hb,HB1.out.2.1.below hb,hb,HB1.out.2.2.2.1.below hb⟩)
 clear hh hb2
 go_wp2_with fail
 refine hK.out _ _ (HR.out w2 ZZ HB2.out.2.2.2 HB2.out.1 HB2.out.2.1 rfl) (fun inv'=>?_)
 clear hK KK inv;have inv:=inv';clear inv'
 try simp only[pU]
 refine Zv (i:=7) inv (by decide +kernel) (by decide) rfl (fun KK hK=>?_)
 go_simp
 refine (HE.out _ HB2.out.2.2.2).mono ?_
 intro e3 w3 hh
 obtain ⟨rfl,hk3,hg3⟩:=hh.out
 have HB3:Hid (Bx w3 m 27 L∧Bx w3 (m+1) 27 ZZ∧w2.grownBy w3 (some g)∧MkW g nr K sh p q r o n c f w3):=⟨(Ea hg3 HB2.out.1 HB2.out.2.1 HB1.out.2.2.2.2).1,(Ea hg3 HB2.out.1 HB2.out.2.1 HB1.out.2.2.2.2).2,hg3,HB2.out.2.2.2.grown hg3 hk3⟩
 clear hh hk3 hg3
 go_wp2_with fail
 refine hK.out _ _ (HR.out w3 ZZ HB3.out.2.2.2 HB3.out.1 HB3.out.2.1 rfl) (fun inv'=>?_)
 clear hK KK inv;have inv:=inv';clear inv'
 try simp only[pU]
 refine Zv (i:=12) inv (by decide +kernel) (by decide) rfl (fun KK hK=>?_)
 go_simp
 refine (HX2.out _).mono ?_
 intro e4 w4 hh
 obtain ⟨rfl,hb4⟩:=hh.out
 have HB4:Hid (Bx w4 m 27 L∧Bx w4 (m+1) 27 ZZ∧Below w3.heap.size w3 w4∧MkW g nr K sh p q r o n c f w4):=⟨HB3.out.1.below hb4,HB3.out.2.1.below hb4,hb4,HB3.out.2.2.2.below hb4⟩
 clear hh hb4
 go_wp2_with fail
 refine hK.out _ _ (HR.out w4 ZZ HB4.out.2.2.2 HB4.out.1 HB4.out.2.1 rfl) (fun inv'=>?_)
 clear hK KK inv;have inv:=inv';clear inv'
 try simp only[pU]
 refine Z9 (i:=13) (by decide +kernel) (by decide) rfl (fun KK hK=>?_)
 rw[if_pos (by rfl)]
 refine wp_store_mid 27 (.tmp 6) (.tmp 19) rfl (m+1) 0 L4.toArray rfl rfl (by simpa [h416] using Y6 HB4.out.2.1 rfl) (by rw[List.size_toArray];exact hi4) (all_oneCell_toArray h41) ?_
 refine hK.out _ _ ?_
 clear hK KK
 try simp only[pU]
 refine Y8 (by decide +kernel) ?_ _
 refine NoPanic.normal ?_
 have HB9:Hid (Bx (w4.setCells (m+1) 0 L4.toArray.toList) (m+1) 27 L4∧w4.grownBy (w4.setCells (m+1) 0 L4.toArray.toList) (some (m+1))):=⟨HB4.out.2.1.store L4 (by rw[h416];rfl),Z5 (m+1) L4 0 w4⟩
 obtain ⟨u9,hu9⟩:∃ u9,u9=w4.setCells (m+1) 0 L4.toArray.toList:=⟨_,rfl⟩
 rw[←hu9] at HB9 ⊢
 clear hu9 hS0 hS1 inv
 go_wp2
 have hgm:=HB1.out.2.2.2.2
 have hg9:=HB9.out.2
 have hb4:=HB4.out.2.2.1
 have hg3:=HB3.out.2.2.1
 have hb2:=HB2.out.2.2.1
 have hb1:=HB1.out.2.2.1
 have hw1:=HW1.out
 have s2:=hb2.size
 have s3:=hg3.size
 have s4:=hb4.size
 have e9:∀ k,k<m→k≠g→u9.heap[k]?=w.heap[k]?:=fun k hk hn=>by
  rw[hg9.block k (by omega) (fun e=>by injection e with e;omega),hb4.block k (by omega),hg3.block k (by omega) (fun e=>hn (by injection e)),hb2.block k (by omega),hb1.block k hk]
 have hk9:Zp u9 g nr K:=HB4.out.2.2.2.key.sameK (hg9.block g (by omega) (fun e=>by injection e with e;omega)) hg9.size
 refine Xo (b:=m+1) L4 rfl rfl HB9.out.1.range Tryz.underlying27 rfl hi4 ⟨rfl,HB0.out.keep (fun k hk hn=>e9 k (by rw[←HMM.out];exact hk) hn) hk9,?_⟩
 exact ⟨hg9.os.trans (hb4.os.trans (hg3.os.trans (hb2.os.trans hb1.os))),hg9.tape.trans (hb4.tape.trans (hg3.tape.trans (hb2.tape.trans hb1.tape))),hg9.output.trans (hb4.output.trans (hg3.output.trans (hb2.output.trans hb1.output))),Nat.le_trans hb1.size (Nat.le_trans s2 (Nat.le_trans s3 (Nat.le_trans s4 hg9.size))),fun k hk hn=>e9 k (by rw[←HMM.out];exact hk) (fun e=>hn (by rw[e]))⟩
def bkL (F:Nat→BitVec 128) (k:Nat):List Value:=(List.range k).flatMap fun j=>Fd.BL (F j)
theorem Km (F:Nat→BitVec 128) (k:Nat):bkL F (k+1)=bkL F k++Fd.BL (F k):=by simp [bkL,List.range_succ]
theorem Zu (F:Nat→BitVec 128) (k:Nat):(bkL F k).length=16*k:=by
 induction k with
 | zero=>rfl
 | succ k ih=>rw[Km,List.length_append,ih,Fd.Zq];omega
theorem Bg (F : Nat → BitVec 128) (k j i : Nat) (hj : j < k) (hi : i < 16) : (bkL F k)[16 * j + i]? = some (.int .u8 (Fd.byV (F j) i : Nat)) := by
  induction k with
  | zero => omega
  | succ k ih =>
    rw [Km]
    by_cases h : j < k
    · rw [List.getElem?_append_left (by rw [Zu]; omega)]; exact ih h
    · obtain rfl : j = k := by omega
      rw [List.getElem?_append_right (by rw [Zu]; omega), Zu, show 16 * j + i - 16 * j = i by omega, Fd.Qc _ i hi]
def bkR (F:Nat→BitVec 128) (n k:Nat):List Value:=bkL F k++List.replicate (n-16*k) (.int .u8 0)
theorem Wi (F:Nat→BitVec 128) (n k:Nat) (h:16*k≤n):(bkR F n k).length=n:=by
 rw[bkR,List.length_append,Zu,List.length_replicate];omega
theorem Nv (F:Nat→BitVec 128) (n k:Nat) (h:16*k+16≤n):splice (bkR F n k) (16*k) (Fd.BL (F k))=bkR F n (k+1):=by
 have e1:(bkR F n k).take (16*k)=bkL F k:=by rw[bkR,List.take_append_of_le_length (by rw[Zu];omega),List.take_of_length_le (by rw[Zu];omega)]
 have e2:(bkR F n k).drop (16*k+16)=List.replicate (n-16*(k+1)) (.int .u8 0):=by
  rw[bkR,List.drop_append,Zu,List.drop_of_length_le (by rw[Zu];omega),List.drop_replicate,List.nil_append,show n-16*k-(16*k+16-16*k)=n-16*(k+1) by omega]
 simp only[splice,Fd.Zq]
 rw[e1,e2,bkR,Km]
 simp
theorem Hl (F:Nat→BitVec 128) (n:Nat):bkR F n 0=List.replicate n (.int .u8 0):=by simp [bkR,bkL]
theorem G9 (F:Nat→BitVec 128) (n k:Nat) (h:n=16*k):bkR F n k=bkL F k:=by simp [bkR,h]
theorem Ft {w:World} {base n g:Nat} {e:TypeId} {xs:List Value} (h:w.ownsRow base e 1 (.slice (some ⟨g,0,none⟩) n n) n xs):Bx w g e xs:=by
 obtain ⟨h1,h2⟩:=h
 rcases h2 with ⟨q,_⟩ | ⟨g',cap,cur,q,_,hh,_,_,hs,ht⟩
 ·cases q
 ·injection q with q1 q2 q3
  injection q1 with q1
  injection q1 with q1
  subst q1 q3
  have:xs.toArray=cur:=by
   rw[←ht,List.take_of_length_le (by simp;omega)]
  unfold Bx;rw[hh,this]
theorem Rl (j k:Nat) (h:j<k) (hk:k≤64):wrap64 ((j:Int)+1)=((j+1:Nat):Int)∧IntKind.i64.wrap ((j:Int)+1)=((j+1:Nat):Int)∧(j:Int)<(k:Int):=by
 refine ⟨?_,?_,by omega⟩
 ·unfold wrap64;omega
 ·rw[IntKind.wrap_i64];omega
theorem Nb (i n k b:Nat) (hb:b≤64) (h:i=b) (hn:n≤1024):i*n≤281474976710656∧n≤maxLen:=by
 have:b*n≤64*1024:=Nat.mul_le_mul hb hn
 subst h
 refine ⟨by omega,by unfold maxLen;omega⟩
theorem Q6 (j k:Nat) (h:j<k):k-(intOf (.int .i64 ((j+1:Nat):Int))).toNat<k-(intOf (.int .i64 ((j:Nat):Int))).toNat:=by
 simp [intOf];omega
structure BkI (g nr:Nat) (K:Nat→Nat) (sh p q r o nn cc:Nat) (f:Nat→BitVec 128) (F:Nat→BitVec 128) (n:Nat) (w wr:World) (k:Nat):Prop where
 row:Bx wr w.heap.size 5 (bkR F n k)
 mw:MkW g nr K sh p q r o nn cc f wr
 gb:w.grownBy wr (some g)
theorem BkI.cell {g nr:Nat} {K:Nat→Nat} {sh p q r o nn cc:Nat} {f F:Nat→BitVec 128} {n:Nat} {w wr:World} {k:Nat} (h:BkI g nr K sh p q r o nn cc f F n w wr k) {b i:Nat} {x:Value} (hb:b≠g) (hx:w.cell? ⟨b,i,none⟩=some x):wr.cell? ⟨b,i,none⟩=some x:=by
 rw[World.cell?_of_block (a:=⟨b,i,none⟩) (h.gb.block b (World.block_lt_of_cell? w _ hx) (fun e=>hb (by injection e)))];exact hx
theorem BkI.below {g nr:Nat} {K:Nat→Nat} {sh p q r o nn cc:Nat} {f F:Nat→BitVec 128} {n:Nat} {w wr u:World} {k:Nat} (h:BkI g nr K sh p q r o nn cc f F n w wr k) (hb:Below wr.heap.size wr u):BkI g nr K sh p q r o nn cc f F n w u k:=
 ⟨h.row.below hb,h.mw.below hb,⟨hb.os.trans h.gb.os,hb.tape.trans h.gb.tape,hb.output.trans h.gb.output,Nat.le_trans h.gb.size hb.size,fun c hc hn=>(hb.block c (Nat.lt_of_lt_of_le hc h.gb.size)).trans (h.gb.block c hc hn)⟩⟩
theorem BkI.mask {g nr:Nat} {K:Nat→Nat} {sh p q r o nn cc:Nat} {f F:Nat→BitVec 128} {n:Nat} {w wr u:World} {k:Nat} (h:BkI g nr K sh p q r o nn cc f F n w wr k) (hg:g<w.heap.size) (hm:MkW g nr K sh p q r o nn cc f u) (hb:wr.grownBy u (some g)):BkI g nr K sh p q r o nn cc f F n w u k:=
 ⟨h.row.keep (hb.block _ h.row.lt (fun e=>by injection e with e;omega)),hm,F3 h.gb hb⟩
theorem BkI.lay {g nr:Nat} {K:Nat→Nat} {sh p q r o nn cc:Nat} {f F:Nat→BitVec 128} {n:Nat} {w wr u:World} {k:Nat} (h:BkI g nr K sh p q r o nn cc f F n w wr k) (hg:g<w.heap.size) (hk:16*k+16≤n) (h1:Bx u w.heap.size 5 (splice (bkR F n k) (16*k) (Fd.BL (F k)))) (hb:wr.grownBy u (some w.heap.size)) (hM:MkW g nr K sh p q r o nn cc f w):BkI g nr K sh p q r o nn cc f F n w u (k+1):=by
 have e:∀ c,c<w.heap.size→u.heap[c]?=wr.heap[c]?:=fun c hc=>hb.block c (Nat.lt_of_lt_of_le hc h.gb.size) (fun e=>by injection e with e;omega)
 have hG:w.grownBy u (some g):=⟨hb.os.trans h.gb.os,hb.tape.trans h.gb.tape,hb.output.trans h.gb.output,Nat.le_trans h.gb.size hb.size,fun c hc hn=>(e c hc).trans (h.gb.block c hc hn)⟩
 rw[Nv F n k hk] at h1
 exact ⟨h1,hM.grown hG (h.mw.key.sameK (e g hg) hb.size),hG⟩
set_option maxHeartbeats 1600000 in
set_option maxRecDepth 100000 in
theorem Bf (g nr:Nat) (K:Nat→Nat) (sh p q r o nn cc:Nat) (f:Nat→BitVec 128) (b off c k:Nat) (zs:List Int) (w:World) (h:MkW g nr K sh p q r o nn cc f w) (hnc:nn≤cc) (hl:zs.length=16*k) (hkn:k≤nn) (hk:k≤64) (hc1:zs.length≤c) (hb:Zg zs) (hbg:b≠g)
   (hz:∀ i,i<zs.length→w.cell? ⟨b,off+i,none⟩=some (.int .u8 (zs.getD i 0))) :
   Calls Tryz.prog 211 #[.slice (some ⟨b,off,none⟩) zs.length c,.func (.func 243) #[] #[.pointer (some ⟨p,0,none⟩),.pointer (some ⟨q,0,none⟩)]] w fun e w'=>Hid (e=.returned (.slice (some ⟨w.heap.size,0,none⟩) zs.length zs.length)∧Bx w' w.heap.size 5 (bkL (fun j=>Yz nr K (cutV zs j ^^^ f j) ^^^ f j) k)∧MkW g nr K sh p q r o nn cc f w'∧w.grownBy w' (some g)):=by
 obtain ⟨F,HF⟩:∃ F:Nat→BitVec 128,Hid (F=fun j=>Yz nr K (cutV zs j ^^^ f j) ^^^ f j):=⟨_,rfl⟩
 obtain ⟨n,HNL⟩:∃ n,Hid (zs.length=n):=⟨_,rfl⟩
 have HG:Hid (g<w.heap.size):=h.key.ciph.here
 have HM0:Hid (MkW g nr K sh p q r o nn cc f w):=h
 have HC:Hid (∀ u j,j<k→BkI g nr K sh p q r o nn cc f F n w u j→Calls Tryz.prog 197 #[.slice (some ⟨b,off,none⟩) n c,.int .i64 (j:Nat)] u fun e w'=>Hid (e=.returned (Fd.BV (cutV zs j))∧Below u.heap.size u w')):=fun u j hj hu=>by
   have q:=He b off c j zs u (by omega) hc1 (by omega) hb (fun i hi=>hu.cell hbg (hz i hi))
   rw[HNL.out] at q;exact q
 have HK:Hid (∀ u j,j<k→BkI g nr K sh p q r o nn cc f F n w u j→Calls Tryz.prog 243 #[.int .i64 (j:Nat),Fd.BV (cutV zs j),.pointer (some ⟨p,0,none⟩),.pointer (some ⟨q,0,none⟩)] u fun e w'=>Hid (e=.returned (Fd.BV (F j))∧MkW g nr K sh p q r o nn cc f w'∧u.grownBy w' (some g))):=fun u j hj hu=>by
   rw[HF.out];exact Zah g nr K sh p q r o nn cc j f _ u hu.mw (by omega) hnc
 have HLY:Hid (∀ u j,j<k→BkI g nr K sh p q r o nn cc f F n w u j→Calls Tryz.prog 234 #[.slice (some ⟨w.heap.size,0,none⟩) n n,.int .i64 (j:Nat),Fd.BV (F j)] u fun e w'=>Hid (e=.returned (.tuple #[])∧BkI g nr K sh p q r o nn cc f F n w w' (j+1))):=fun u j hj hu=>by
   have hle:16*j+16≤n:=by rw[←HNL.out];omega
   refine (C4 w.heap.size n n j (F j) (bkR F n j) u hle (Nat.le_refl _) (by rw[←HNL.out];omega) (by rw[Wi F n j (by omega)];omega) hu.row).mono ?_
   intro e w' hh
   obtain ⟨rfl,h1,h2⟩:=hh.out
   exact ⟨rfl,hu.lay HG.out hle h1 h2 HM0.out⟩
 have HN:Hid (n=16*k∧k≤64):=⟨by rw[←HNL.out];exact hl,hk⟩
 rw[HNL.out,←HF.out]
 obtain ⟨i0,hi0,hz0,hz1,hz2⟩:=info_parts Tryz.info5
 have HI0:Hid (Tryz.prog.info? 5=some i0∧i0.zero=some (.int .u8 0)∧i0.size=1∧i0.bytes=1):=⟨hi0,hz0,hz1,hz2⟩
 have q1:(n:Int).tdiv 16=(k:Int):=by rw[HN.out.1,Int.tdiv_eq_ediv_of_nonneg (by omega)];omega
 have q3:IntKind.i64.wrap (k:Int)=(k:Int):=by rw[IntKind.wrap_i64];omega
 have q4:(n:Int)/16=(k:Int):=by rw[HN.out.1];omega
 have HK64:Hid (k≤64):=hk
 have HMF:Hid (i0.bytes*n≤281474976710656∧n≤maxLen):=Nb i0.bytes n k 1 (by decide) HI0.out.2.2.2 (by have:=HN.out;omega)
 clear h hnc hl hkn hc1 hb hbg hz hi0 hz0 hz1 hz2 hk
 go_enter Tryz.func211,Tryz.ntmps211
 go_upto_region 2 with (first
   | (at_make;go_must (refine wpList_make_full _ rfl _ _ 22 rfl w.heap.size 5 i0 (.int .u8 0) 1 Tryz.underlying22 HI0.out.1 HI0.out.2.1 HI0.out.2.2.1 .i64 .i64 (n:Nat) (n:Nat) n rfl rfl rfl rfl HMF.out.1 HMF.out.2 (Nat.le_refl _) ?_;intro w1 hown hgrow;have HW1:Hid (BkI g nr K sh p q r o nn cc f F n w w1 0):=⟨by rw[Hl];have z:=Ft hown;rw[show (Value.int .u8 0).cells=#[.int .u8 0] from rfl,toList_madeCells_one,Nat.mul_one] at z;exact z,HM0.out.keep (fun k hk _=>hgrow.block k hk (by simp)) (HM0.out.key.sameK (hgrow.block g HG.out (by simp)) hgrow.size),⟨hgrow.os,hgrow.tape,hgrow.output,hgrow.size,fun k hk _=>hgrow.block k hk (by simp)⟩⟩;clear hown hgrow)))
 go_upto_region 3 with fail
 go_loopw [13] (fun v wr=>∃ j:Nat,j≤k∧v=.int .i64 (j:Nat)∧Hid (BkI g nr K sh p q r o nn cc f F n w wr j)) (fun v _=>k-(intOf v).toNat)
 case atStart=>exact ⟨0,Nat.zero_le _,rfl,HW1⟩
 case round=>
  as_aux_lemma=>
   obtain ⟨j,hj,rfl,HI⟩:=hrel
   by_cases hlt:j<k
   ·have HJ:Hid (j<k):=hlt
    obtain ⟨ej,ej2,g1⟩:=Rl j k hlt HK64.out
    go_wp2_with (first
     | (go_at_call 197;refine (HC.out _ _ HJ.out HI.out).mono ?_;intro e2 w2 hh;obtain ⟨rfl,hb2⟩:=hh.out;have HI2:Hid (BkI g nr K sh p q r o nn cc f F n w w2 j):=HI.out.below hb2;clear hh hb2)
     | (go_at_call 243;refine (HK.out _ _ HJ.out HI2.out).mono ?_;intro e3 w3 hh;obtain ⟨rfl,hm3,hg3⟩:=hh.out;have HI3:Hid (BkI g nr K sh p q r o nn cc f F n w w3 j):=HI2.out.mask HG.out hm3 hg3;clear hh hm3 hg3)
     | (go_at_call 234;refine (HLY.out _ _ HJ.out HI3.out).mono ?_;intro e4 w4 hh;obtain ⟨rfl,hi4⟩:=hh.out;have HI4:Hid (BkI g nr K sh p q r o nn cc f F n w w4 (j+1)):=hi4;clear hh hi4))
    exact ⟨⟨j+1,HJ.out,by first | rfl | simp,HI4⟩,by first | exact Q6 j k HJ.out | (simpa using Q6 j k HJ.out)⟩
   ·have g1:¬ (j:Int)<(k:Int):=by omega
    have HE:Hid (Bx wr w.heap.size 5 (bkL F k)∧MkW g nr K sh p q r o nn cc f wr∧w.grownBy wr (some g)):=by
     obtain ⟨p1,p2,p3⟩:=HI.out
     rw[show j=k by omega,G9 F n k HN.out.1] at p1
     exact ⟨p1,p2,p3⟩
    clear HI
    go_wp2
    go_ret
    exact ⟨rfl,HE.out.1,HE.out.2.1,HE.out.2.2⟩
end Go.Proofs.YtehlppaidgkpaaaGreatDoor
