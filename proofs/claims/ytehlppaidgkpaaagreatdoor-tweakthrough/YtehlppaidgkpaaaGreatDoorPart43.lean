import Derived.Test.YtehlppaidgkpaaaGreatDoorPart40
import Derived.Test.YtehlppaidgkpaaaGreatDoorLrm
import Derived.Test.YtehlppaidgkpaaaGreatDoorPart39
import Derived.Test.YtehlppaidgkpaaaGreatDoorFdDot
import Derived.Test.YtehlppaidgkpaaaGreatDoorPart00
import Derived.Test.YtehlppaidgkpaaaGreatDoorNwx
namespace Go.Proofs.YtehlppaidgkpaaaGreatDoor
open Go.RowKit
set_option linter.unusedVariables false
set_option linter.unusedSimpArgs false
def blB (v:BitVec 128):List Int:=(List.range 16).map fun i=>((Fd.byV v i:Nat):Int)
theorem Kl (v:BitVec 128):(blB v).length=16:=by simp [blB]
theorem Uy (v:BitVec 128) (i:Nat) (hi:i<16):(blB v).getD i 0=((Fd.byV v i:Nat):Int):=by
 rw[List.getD_eq_getElem?_getD,blB,List.getElem?_map,List.getElem?_range hi];rfl
theorem Gx (F G:Nat→Nat):∀ n,(∀ i,i<n→F i=G i)→Fd.pk F n=Fd.pk G n
 | 0,_=>rfl
 | n+1,h=>by rw[Fd.pk,Fd.pk,Gx F G n (fun i hi=>h i (by omega)),h n (by omega)]
theorem Rj (xs:List Int) (j:Nat):cutV ((xs.drop (16*j)).take 16) 0=cutV xs j:=by
 unfold cutV
 congr 1
 have e:∀ i,i<16→Yk ((xs.drop (16*j)).take 16) (16*0+i)=Yk xs (16*j+i):=fun i hi=>by
  unfold Yk
  rw[List.getD_eq_getElem?_getD,List.getElem?_take,if_pos (by omega),List.getElem?_drop,←List.getD_eq_getElem?_getD,show 16*j+(16*0+i)=16*j+i by omega]
 exact Gx _ _ 16 e
theorem G4 (n:Nat) (h:n<18446744073709551616):Fd.hiV (BitVec.ofNat 128 n)=0∧Fd.loV (BitVec.ofNat 128 n)=n:=by
 unfold Fd.hiV Fd.loV
 rw[BitVec.toNat_ofNat]
 constructor<;>omega
theorem Kz (n:Nat) (h:n<18446744073709551616) (w:World):Calls Tryz.prog 38 #[.int .u64 0,.int .u64 (n:Nat)] w fun e w'=>Hid (e=.returned (Fd.BV (BitVec.ofNat 128 n))∧Below w.heap.size w w'):=by
 have q:=Fd.Wb (BitVec.ofNat 128 n) w
 rw[(G4 n h).1,(G4 n h).2] at q
 exact q.mono fun e w' hh=>hh
def plV (b:Bool) (s:Nat):BitVec 128:=BitVec.ofNat 128 (if b then s else s%4294967296)
set_option maxHeartbeats 800000 in
set_option maxRecDepth 100000 in
theorem S9 (s:Nat) (n:Int) (w:World) (hs:s<18446744073709551616) :
  Calls Tryz.prog 179 #[.int .u64 (s:Nat),.int .i64 n] w fun e w'=>Hid (e=.returned (Fd.BV (plV false s))∧Below w.heap.size w w'):=by
 obtain ⟨x,HX⟩:∃ x,Hid (s%4294967296=x):=⟨_,rfl⟩
 have hx:bits BinOp.and IntKind.u64 (s:Int) 4294967295=(x:Int):=by rw[Lj s hs,HX.out]
 obtain ⟨M,HMM⟩:∃ M,Hid (M=Fd.BL (plV false s)):=⟨_,rfl⟩
 have HG:Hid (∀ u,Calls Tryz.prog 38 #[.int .u64 0,.int .u64 (x:Nat)] u fun e w'=>Hid (e=.returned (.agg M.toArray)∧Below u.heap.size u w')):=fun u=>by
  rw[HMM.out];unfold plV;rw[if_neg (by decide),HX.out];exact Kz x (by rw[←HX.out];omega) u
 have HLN:Hid (M.length=16∧(∀ x∈M,x.oneCell'=true)):=by rw[HMM.out];exact ⟨rfl,Yh _⟩
 show Calls Tryz.prog 179 #[_,_] w fun e w'=>Hid (e=.returned (.agg (Fd.BL (plV false s)).toArray)∧_)
 rw[←HMM.out]
 obtain ⟨w1,hw1⟩:∃ w1,w1=w.alloc (.cells ZZ.toArray 27):=⟨_,rfl⟩
 have HB1:Hid (Bx w1 w.heap.size 27 ZZ∧Below w.heap.size w w1):=by rw[hw1];exact ⟨Bx.new w 27 ZZ,(Below.refl _ _).alloc (Nat.le_refl _) _⟩
 clear hs
 go_enter Tryz.func179,Tryz.ntmps179
 go_upto_region 1 with fail
 rw[show w.alloc (.cells _ 27)=w1 from hw1.symm]
 clear hw1
 obtain ⟨m,HM2⟩:∃ m,Hid (w.heap.size=m):=⟨_,rfl⟩
 rw[HM2.out] at HB1 ⊢
 go_wp2_with (first
  | (go_at_call 38;refine (HG.out _).mono ?_;intro e4 w4 hh;obtain ⟨rfl,hb4⟩:=hh.out;have HB4:Hid (Bx w4 m 27 ZZ∧Below m w w4):=⟨HB1.out.1.below hb4,HB1.out.2.trans (hb4.mono (by have:=HB1.out.1.lt;omega))⟩;clear hh hb4)
  | (refine Ze (by rfl) 27 (.tmp 4) (.tmp 7) (by rfl) ZZ M m (by rfl) (by rfl) HB4.out.1 (by rw[HLN.out.1];rfl) (by rw[HLN.out.1];kernel_rfl) HLN.out.2 ?_;intro u9 hb9 hg9))
 refine Xl (b:=m) M rfl rfl hb9.range Tryz.underlying27 rfl (by rw[HLN.out.1];kernel_rfl) ⟨rfl,?_⟩
 have hfin:Below m w u9:=HB4.out.2.trans (Zm hg9 (by have:=HB4.out.1.lt;omega) (by omega))
 first | exact hfin | (rw[HM2.out];exact hfin)
set_option maxHeartbeats 800000 in
set_option maxRecDepth 100000 in
theorem Nd (s:Nat) (n:Int) (w:World) (hs:s<18446744073709551616) :
  Calls Tryz.prog 180 #[.int .u64 (s:Nat),.int .i64 n] w fun e w'=>Hid (e=.returned (Fd.BV (plV true s))∧Below w.heap.size w w'):=by
 obtain ⟨M,HMM⟩:∃ M,Hid (M=Fd.BL (plV true s)):=⟨_,rfl⟩
 have HG:Hid (∀ u,Calls Tryz.prog 38 #[.int .u64 0,.int .u64 (s:Nat)] u fun e w'=>Hid (e=.returned (.agg M.toArray)∧Below u.heap.size u w')):=fun u=>by
  rw[HMM.out];unfold plV;rw[if_pos rfl];exact Kz s hs u
 have HLN:Hid (M.length=16∧(∀ x∈M,x.oneCell'=true)):=by rw[HMM.out];exact ⟨rfl,Yh _⟩
 show Calls Tryz.prog 180 #[_,_] w fun e w'=>Hid (e=.returned (.agg (Fd.BL (plV true s)).toArray)∧_)
 rw[←HMM.out]
 obtain ⟨w1,hw1⟩:∃ w1,w1=w.alloc (.cells ZZ.toArray 27):=⟨_,rfl⟩
 have HB1:Hid (Bx w1 w.heap.size 27 ZZ∧Below w.heap.size w w1):=by rw[hw1];exact ⟨Bx.new w 27 ZZ,(Below.refl _ _).alloc (Nat.le_refl _) _⟩
 clear hs
 go_enter Tryz.func180,Tryz.ntmps180
 go_upto_region 1 with fail
 rw[show w.alloc (.cells _ 27)=w1 from hw1.symm]
 clear hw1
 obtain ⟨m,HM2⟩:∃ m,Hid (w.heap.size=m):=⟨_,rfl⟩
 rw[HM2.out] at HB1 ⊢
 go_wp2_with (first
  | (go_at_call 38;refine (HG.out _).mono ?_;intro e4 w4 hh;obtain ⟨rfl,hb4⟩:=hh.out;have HB4:Hid (Bx w4 m 27 ZZ∧Below m w w4):=⟨HB1.out.1.below hb4,HB1.out.2.trans (hb4.mono (by have:=HB1.out.1.lt;omega))⟩;clear hh hb4)
  | (refine Ze (by rfl) 27 (.tmp 4) (.tmp 6) (by rfl) ZZ M m (by rfl) (by rfl) HB4.out.1 (by rw[HLN.out.1];rfl) (by rw[HLN.out.1];kernel_rfl) HLN.out.2 ?_;intro u9 hb9 hg9))
 refine Xl (b:=m) M rfl rfl hb9.range Tryz.underlying27 rfl (by rw[HLN.out.1];kernel_rfl) ⟨rfl,?_⟩
 have hfin:Below m w u9:=HB4.out.2.trans (Zm hg9 (by have:=HB4.out.1.lt;omega) (by omega))
 first | exact hfin | (rw[HM2.out];exact hfin)
theorem In {zs : List Int} (hb : Zd zs) (n : Nat) (hn : n = Nat.min zs.length 16) : splice ZZ 0 ((Za zs).take n) = Fd.BL (cutV zs 0) := by
  have hl : (Za zs).length = zs.length := by simp [Za]
  have hn16 : n ≤ 16 := by rw [hn]; exact Nat.min_le_right _ _
  have hnl : n ≤ zs.length := by rw [hn]; exact Nat.min_le_left _ _
  apply List.ext_getElem?
  intro i
  by_cases hi : i < 16
  · rw [Fd.X5 _ i hi, M5 hb 0 i hi, Nat.mul_zero, Nat.zero_add, splice, List.take_zero, List.nil_append, List.length_take, Nat.min_eq_left (by omega), Nat.zero_add]
    by_cases h : i < n
    · rw [List.getElem?_append_left (by rw [List.length_take]; omega), List.getElem?_take, if_pos h]
      simp only [Za, List.getElem?_map, List.getD_eq_getElem?_getD]
      rw [List.getElem?_eq_getElem (by omega)]; rfl
    · have hz : zs.length ≤ i := by
        have : n = zs.length ∨ n = 16 := by rw [hn]; rcases Nat.le_total zs.length 16 with q | q
                                            · exact .inl (Nat.min_eq_left q)
                                            · exact .inr (Nat.min_eq_right q)
        omega
      rw [List.getElem?_append_right (by rw [List.length_take]; omega), List.length_take, hl, Nat.min_eq_left hnl, List.getElem?_drop, show n + (i - n) = i by omega, List.getD_eq_getElem?_getD, List.getElem?_eq_none hz]
      rw [show ZZ = List.replicate 16 (.int .u8 0) from rfl, List.getElem?_replicate, if_pos hi]; rfl
  · rw [List.getElem?_eq_none (by rw [length_splice _ _ _ (by rw [List.length_take]; simp; omega)]; simp; omega), List.getElem?_eq_none (by rw [Fd.Zl]; omega)]
set_option maxHeartbeats 800000 in
set_option maxRecDepth 100000 in
theorem Vt (v:Value) (zs:List Int) (w:World) (hv:Zf w v zs) (hb:Zd zs) :
  Calls Tryz.prog 19 #[v] w fun e w'=>Hid (e=.returned (Fd.BV (cutV zs 0))∧Below w.heap.size w w'):=by
 obtain ⟨a,c,rfl,h1,h2,h3,h4⟩:=id hv
 obtain ⟨L,HL⟩:∃ L,Hid (L=Fd.BL (cutV zs 0)):=⟨_,rfl⟩
 obtain ⟨n,HN⟩:∃ n,Hid (n=Nat.min zs.length 16):=⟨_,rfl⟩
 obtain ⟨cs,HCS⟩:∃ cs,Hid (cs=(Za zs).take n):=⟨_,rfl⟩
 obtain ⟨N,HNL⟩:∃ N,Hid (zs.length=N):=⟨_,rfl⟩
 have HLL:Hid (L.length=16∧∀ x∈L,x.oneCell'=true):=by rw[HL.out];exact ⟨Fd.Zl _,Yh _⟩
 have HSP:Hid (splice ZZ 0 cs=L):=by rw[HCS.out,HL.out];exact In hb n HN.out
 have hcl:cs.length=Nat.min N 16:=by rw[HCS.out,List.length_take,←HNL.out,HN.out,show (Za zs).length=zs.length by simp [Za]];simp only[Nat.min_def];split<;>split<;>omega
 have HCL:Hid (cs.length=Nat.min N 16∧cs.length≤16∧∀ v∈cs,v.oneCell'=true):=⟨hcl,by rw[hcl];exact Nat.min_le_right _ _,fun v hv=>by
  rw[HCS.out] at hv
  have hv:=List.mem_of_mem_take hv
  simp only[Za,List.mem_map] at hv
  obtain ⟨z,_,rfl⟩:=hv
  rfl⟩
 have HSR:Hid (∀ u,Below w.heap.size w u→0<cs.length→∃ ad,a=some ad∧∀ j v,cs[j]?=some v→u.cell? (ad.add j)=some v):=fun u hu hp=>by
  rcases h4 with h4 | ⟨b,off,rfl,h4⟩
  ·rw[hcl,←HNL.out,h4] at hp;simp at hp
  ·refine ⟨_,rfl,fun j v hj=>?_⟩
   rw[HCS.out] at hj
   have hj2:(Za zs)[j]?=some v:=by
    rw[List.getElem?_take] at hj;split at hj
    ·exact hj
    ·cases hj
   have q:=Sc (hv.below hu) j v hj2
   exact q
 rw[HNL.out]
 show Calls Tryz.prog 19 #[_] w fun e w'=>Hid (e=.returned (.agg (Fd.BL (cutV zs 0)).toArray)∧_)
 rw[←HL.out]
 clear hv hb h1 h2 h3 h4 hcl
 obtain ⟨w1,hw1⟩:∃ w1,w1=(w.alloc (.cells ZZ.toArray 27)).alloc (.cells ZZ.toArray 27):=⟨_,rfl⟩
 have HB1:Hid (Bx w1 w.heap.size 27 ZZ∧Bx w1 (w.heap.size+1) 27 ZZ∧Below w.heap.size w w1):=by
  refine ⟨?_,?_,?_⟩
  ·rw[hw1];exact (Bx.new w 27 ZZ).below ((Below.refl _ _).alloc (Nat.le_refl _) _)
  ·rw[hw1];have q:=Bx.new (w.alloc (.cells ZZ.toArray 27)) 27 ZZ;simpa using q
  ·rw[hw1];exact ((Below.refl _ _).alloc (Nat.le_refl _) _).alloc (by simp) _
 go_enter Tryz.func19,Tryz.ntmps19
 go_upto_region 2 with fail
 rw[show (w.alloc (.cells _ 27)).alloc (.cells _ 27)=w1 from hw1.symm]
 clear hw1
 obtain ⟨m,HM⟩:∃ m,Hid (w.heap.size=m):=⟨_,rfl⟩
 rw[HM.out] at HB1 HSR ⊢
 go_upto_region 3 with (refine wpList_copy_splice rfl (.tmp 4) (.tmp 5) 22 22 rfl 5 Tryz.underlying22 (by kernel_rfl) _ _ 16 16 N _ rfl rfl (m+1) 0 ZZ 27 HB1.out.2.1 cs HCL.out.1 (fun hp=>⟨rfl,HSR.out w1 HB1.out.2.2 hp⟩) (by have:=HCL.out.2.1;simp;omega) HCL.out.2.2 (m+1) w1 (Below.refl _ _) (Nat.le_refl _) ?_;intro w3 HG3 hb3;have HB3:Hid (Below (m+1) w1 w3):=hb3;clear hb3)
 have HX3:Hid (Bx w3 (m+1) 27 L∧Bx w3 m 27 ZZ∧Below m w w3):=by
  refine ⟨?_,HB1.out.1.keep (HB3.out.block m (by omega)),HB1.out.2.2.trans (HB3.out.mono (by omega))⟩
  have q:=HG3.out
  rw[HSP.out] at q
  exact q
 clear HG3 HB3 HB1
 go_wp2_with (first
  | (refine wpList_load_mid (by rfl) 27 (.tmp 3) (by rfl) (m+1) 0 (by rfl) L _ HX3.out.1.range Tryz.underlying27 rfl (by rw[HLL.out.1];kernel_rfl) ?_)
  | (refine Ze (by rfl) 27 (.tmp 2) (.tmp 7) (by rfl) ZZ L m (by rfl) (by rfl) HX3.out.2.1 (by rw[HLL.out.1];rfl) (by rw[HLL.out.1];kernel_rfl) HLL.out.2 ?_;intro u9 hb9 hg9))
 refine Xl (b:=m) L rfl rfl hb9.range Tryz.underlying27 rfl (by rw[HLL.out.1];kernel_rfl) ⟨rfl,?_⟩
 have hfin:Below m w u9:=HX3.out.2.2.trans (Zm hg9 (by have:=HX3.out.2.1.lt;omega) (by omega))
 first | exact hfin | (rw[HM.out];exact hfin)
structure Kp (B:Nat) (u v:World):Prop where
 os:v.os=u.os
 tape:v.tape=u.tape
 output:v.output=u.output
 size:u.heap.size≤v.heap.size
 block:∀ c,B≤c→c<u.heap.size→v.heap[c]?=u.heap[c]?
def Fv (B:Nat) (J:Nat→World→Prop):Prop:=∀ k u u',J k u→B≤u.heap.size→(∀ c,c<B→u'.heap[c]?=u.heap[c]?)→u.heap.size≤u'.heap.size→J k u'
structure BwI (J:Nat→World→Prop) (F:Nat→BitVec 128) (n:Nat) (w wr:World) (k:Nat):Prop where
 row:Bx wr w.heap.size 5 (bkR F n k)
 inv:J k wr
 os:wr.os=w.os
 tape:wr.tape=w.tape
 output:wr.output=w.output
 size:w.heap.size≤wr.heap.size
theorem BwI.below {J:Nat→World→Prop} {F:Nat→BitVec 128} {n:Nat} {w wr u:World} {k:Nat} (h:BwI J F n w wr k) (hJ:Fv w.heap.size J) (hb:Below wr.heap.size wr u):BwI J F n w u k:=
 ⟨h.row.below hb,hJ k wr u h.inv h.size (fun c hc=>hb.block c (Nat.lt_of_lt_of_le hc h.size)) hb.size,hb.os.trans h.os,hb.tape.trans h.tape,hb.output.trans h.output,Nat.le_trans h.size hb.size⟩
structure BwM (J:Nat→World→Prop) (F:Nat→BitVec 128) (n:Nat) (w wr:World) (k:Nat):Prop where
 row:Bx wr w.heap.size 5 (bkR F n k)
 inv:J (k+1) wr
 os:wr.os=w.os
 tape:wr.tape=w.tape
 output:wr.output=w.output
 size:w.heap.size≤wr.heap.size
theorem BwI.does {J:Nat→World→Prop} {F:Nat→BitVec 128} {n:Nat} {w wr u:World} {k:Nat} (h:BwI J F n w wr k) (h1:J (k+1) u) (hb:Kp w.heap.size wr u):BwM J F n w u k:=
 ⟨h.row.keep (hb.block _ (Nat.le_refl _) h.row.lt),h1,hb.os.trans h.os,hb.tape.trans h.tape,hb.output.trans h.output,Nat.le_trans h.size hb.size⟩
theorem BwM.lay {J:Nat→World→Prop} {F:Nat→BitVec 128} {n:Nat} {w wr u:World} {k:Nat} (h:BwM J F n w wr k) (hJ:Fv w.heap.size J) (hk:16*k+16≤n) (h1:Bx u w.heap.size 5 (splice (bkR F n k) (16*k) (Fd.BL (F k)))) (hb:wr.grownBy u (some w.heap.size)):BwI J F n w u (k+1):=by
 rw[U0 F n k hk] at h1
 exact ⟨h1,hJ (k+1) wr u h.inv h.size (fun c hc=>hb.block c (Nat.lt_of_lt_of_le hc h.size) (fun e=>by injection e with e;omega)) hb.size,hb.os.trans h.os,hb.tape.trans h.tape,hb.output.trans h.output,Nat.le_trans h.size hb.size⟩
theorem Gn (j k:Nat) (h:j<k) (hk:k≤256):wrap64 ((j:Int)+1)=((j+1:Nat):Int)∧IntKind.i64.wrap ((j:Int)+1)=((j+1:Nat):Int)∧(j:Int)<(k:Int):=by
 refine ⟨?_,?_,by omega⟩
 ·unfold wrap64;omega
 ·rw[IntKind.wrap_i64];omega
theorem V8 (i n b:Nat) (hb:b≤64) (h:i=b) (hn:n≤4096):i*n≤281474976710656∧n≤maxLen:=by
 have:b*n≤64*4096:=Nat.mul_le_mul hb hn
 subst h
 refine ⟨by omega,by unfold maxLen;omega⟩
set_option maxHeartbeats 1600000 in
set_option maxRecDepth 100000 in
theorem Mc (fn p:Nat) (hE:∀ args u,(callFunc fn args).run Tryz.prog u=.ok (.enter fn args) u) (J:Nat→World→Prop) (F:Nat→BitVec 128) (b off c k:Nat) (zs:List Int) (w:World) (hJ:Fv w.heap.size J) (h0:J 0 w) (hl1:16*k≤zs.length) (hl2:zs.length<16*k+16) (hl3:zs.length≤4096) (hc1:zs.length≤c) (hb:Zd zs)
   (hz:∀ j u,J j u→∀ i,i<zs.length→u.cell? ⟨b,off+i,none⟩=some (.int .u8 (zs.getD i 0)))
   (HD:∀ j u,j<k→J j u→w.heap.size≤u.heap.size→Calls Tryz.prog fn #[.int .i64 (j:Nat),Fd.BV (cutV zs j),.pointer (some ⟨p,0,none⟩)] u fun e w'=>Hid (e=.returned (Fd.BV (F j))∧J (j+1) w'∧Kp w.heap.size u w')) :
   Calls Tryz.prog 211 #[.slice (some ⟨b,off,none⟩) zs.length c,.func (.func fn) #[] #[.pointer (some ⟨p,0,none⟩)]] w fun e w'=>Hid (e=.returned (.slice (some ⟨w.heap.size,0,none⟩) zs.length zs.length)∧BwI J F zs.length w w' k):=by
 obtain ⟨n,HNL⟩:∃ n,Hid (zs.length=n):=⟨_,rfl⟩
 have HJ0:Hid (Fv w.heap.size J∧J 0 w):=⟨hJ,h0⟩
 have HC:Hid (∀ u j,j<k→BwI J F n w u j→Calls Tryz.prog 197 #[.slice (some ⟨b,off,none⟩) n c,.int .i64 (j:Nat)] u fun e w'=>Hid (e=.returned (Fd.BV (cutV zs j))∧Below u.heap.size u w')):=fun u j hj hu=>by
   have q:=N4 b off c j zs u (by omega) hc1 (by omega) hb (fun i hi=>hz j u hu.inv i hi)
   rw[HNL.out] at q;exact q
 have HK:Hid (∀ u j,j<k→BwI J F n w u j→Calls Tryz.prog fn #[.int .i64 (j:Nat),Fd.BV (cutV zs j),.pointer (some ⟨p,0,none⟩)] u fun e w'=>Hid (e=.returned (Fd.BV (F j))∧J (j+1) w'∧Kp w.heap.size u w')):=fun u j hj hu=>HD j u hj hu.inv hu.size
 have HLY:Hid (∀ u j,j<k→BwM J F n w u j→Calls Tryz.prog 234 #[.slice (some ⟨w.heap.size,0,none⟩) n n,.int .i64 (j:Nat),Fd.BV (F j)] u fun e w'=>Hid (e=.returned (.tuple #[])∧BwI J F n w w' (j+1))):=fun u j hj hu=>by
   have hle:16*j+16≤n:=by rw[←HNL.out];omega
   refine (Nq w.heap.size n n j (F j) (bkR F n j) u hle (Nat.le_refl _) (by rw[←HNL.out];omega) (by rw[Gg F n j (by omega)];omega) hu.row).mono ?_
   intro e w' hh
   obtain ⟨rfl,h1,h2⟩:=hh.out
   exact ⟨rfl,hu.lay HJ0.out.1 hle h1 h2⟩
 have HN:Hid (16*k≤n∧n<16*k+16∧n≤4096):=by rw[←HNL.out];exact ⟨hl1,hl2,hl3⟩
 rw[HNL.out]
 obtain ⟨i0,hi0,hz0,hz1,hz2⟩:=info_parts Tryz.info5
 have HI0:Hid (Tryz.prog.info? 5=some i0∧i0.zero=some (.int .u8 0)∧i0.size=1∧i0.bytes=1):=⟨hi0,hz0,hz1,hz2⟩
 have q1:(n:Int).tdiv 16=(k:Int):=by rw[Int.tdiv_eq_ediv_of_nonneg (by omega)];have:=HN.out;omega
 have q3:IntKind.i64.wrap (k:Int)=(k:Int):=by rw[IntKind.wrap_i64];have:=HN.out;omega
 have q4:(n:Int)/16=(k:Int):=by have:=HN.out;omega
 have HK64:Hid (k≤256):=(by have:=HN.out;omega:k≤256)
 have HMF:Hid (i0.bytes*n≤281474976710656∧n≤maxLen):=V8 i0.bytes n 1 (by decide) HI0.out.2.2.2 (by have:=HN.out;omega)
 clear hl1 hl2 hl3 hc1 hb hz hi0 hz0 hz1 hz2 hJ h0 HD
 go_enter Tryz.func211,Tryz.ntmps211
 go_upto_region 2 with (first
   | (at_make;go_must (refine wpList_make_full _ rfl _ _ 22 rfl w.heap.size 5 i0 (.int .u8 0) 1 Tryz.underlying22 HI0.out.1 HI0.out.2.1 HI0.out.2.2.1 .i64 .i64 (n:Nat) (n:Nat) n rfl rfl rfl rfl HMF.out.1 HMF.out.2 (Nat.le_refl _) ?_;intro w1 hown hgrow;have HW1:Hid (BwI J F n w w1 0):=⟨by rw[Bh];have z:=Cx hown;rw[show (Value.int .u8 0).cells=#[.int .u8 0] from rfl,toList_madeCells_one,Nat.mul_one] at z;exact z,HJ0.out.1 0 w w1 HJ0.out.2 (Nat.le_refl _) (fun c hc=>hgrow.block c hc (by simp)) hgrow.size,hgrow.os,hgrow.tape,hgrow.output,hgrow.size⟩;clear hown hgrow)))
 go_upto_region 3 with fail
 go_loopw [13] (fun v wr=>∃ j:Nat,j≤k∧v=.int .i64 (j:Nat)∧Hid (BwI J F n w wr j)) (fun v _=>k-(intOf v).toNat)
 case atStart=>exact ⟨0,Nat.zero_le _,rfl,HW1⟩
 case round=>
  as_aux_lemma=>
   obtain ⟨j,hj,rfl,HI⟩:=hrel
   by_cases hlt:j<k
   ·have HJ:Hid (j<k):=hlt
    obtain ⟨ej,ej2,g1⟩:=Gn j k hlt HK64.out
    go_wp2_with (first
     | (go_at_call 197;refine (HC.out _ _ HJ.out HI.out).mono ?_;intro e2 w2 hh;obtain ⟨rfl,hb2⟩:=hh.out;have HI2:Hid (BwI J F n w w2 j):=HI.out.below HJ0.out.1 hb2;clear hh hb2)
     | (go_at_call 234;refine (HLY.out _ _ HJ.out HI3.out).mono ?_;intro e4 w4 hh;obtain ⟨rfl,hi4⟩:=hh.out;have HI4:Hid (BwI J F n w w4 (j+1)):=hi4;clear hh hi4)
     | (refine (HK.out _ _ HJ.out HI2.out).mono ?_;intro e3 w3 hh;obtain ⟨rfl,hm3,hg3⟩:=hh.out;have HI3:Hid (BwM J F n w w3 j):=HI2.out.does hm3 hg3;clear hh hm3 hg3))
    exact ⟨⟨j+1,HJ.out,by first | rfl | simp,HI4⟩,by first | exact V7 j k HJ.out | (simpa using V7 j k HJ.out)⟩
   ·have g1:¬ (j:Int)<(k:Int):=by omega
    have HE:Hid (BwI J F n w wr k):=by
     have p:=HI.out
     rw[show j=k by omega] at p
     exact p
    clear HI
    go_wp2
    go_ret
    exact ⟨rfl,HE.out⟩
set_option maxHeartbeats 1600000 in
set_option maxRecDepth 100000 in
theorem Va (fn p q:Nat) (hE:∀ args u,(callFunc fn args).run Tryz.prog u=.ok (.enter fn args) u) (J:Nat→World→Prop) (F:Nat→BitVec 128) (b off c k:Nat) (zs:List Int) (w:World) (hJ:Fv w.heap.size J) (h0:J 0 w) (hl1:16*k≤zs.length) (hl2:zs.length<16*k+16) (hl3:zs.length≤4096) (hc1:zs.length≤c) (hb:Zd zs)
   (hz:∀ j u,J j u→∀ i,i<zs.length→u.cell? ⟨b,off+i,none⟩=some (.int .u8 (zs.getD i 0)))
   (HD:∀ j u,j<k→J j u→w.heap.size≤u.heap.size→Calls Tryz.prog fn #[.int .i64 (j:Nat),Fd.BV (cutV zs j),.pointer (some ⟨p,0,none⟩),.pointer (some ⟨q,0,none⟩)] u fun e w'=>Hid (e=.returned (Fd.BV (F j))∧J (j+1) w'∧Kp w.heap.size u w')) :
   Calls Tryz.prog 211 #[.slice (some ⟨b,off,none⟩) zs.length c,.func (.func fn) #[] #[.pointer (some ⟨p,0,none⟩),.pointer (some ⟨q,0,none⟩)]] w fun e w'=>Hid (e=.returned (.slice (some ⟨w.heap.size,0,none⟩) zs.length zs.length)∧BwI J F zs.length w w' k):=by
 obtain ⟨n,HNL⟩:∃ n,Hid (zs.length=n):=⟨_,rfl⟩
 have HJ0:Hid (Fv w.heap.size J∧J 0 w):=⟨hJ,h0⟩
 have HC:Hid (∀ u j,j<k→BwI J F n w u j→Calls Tryz.prog 197 #[.slice (some ⟨b,off,none⟩) n c,.int .i64 (j:Nat)] u fun e w'=>Hid (e=.returned (Fd.BV (cutV zs j))∧Below u.heap.size u w')):=fun u j hj hu=>by
   have q:=N4 b off c j zs u (by omega) hc1 (by omega) hb (fun i hi=>hz j u hu.inv i hi)
   rw[HNL.out] at q;exact q
 have HK:Hid (∀ u j,j<k→BwI J F n w u j→Calls Tryz.prog fn #[.int .i64 (j:Nat),Fd.BV (cutV zs j),.pointer (some ⟨p,0,none⟩),.pointer (some ⟨q,0,none⟩)] u fun e w'=>Hid (e=.returned (Fd.BV (F j))∧J (j+1) w'∧Kp w.heap.size u w')):=fun u j hj hu=>HD j u hj hu.inv hu.size
 have HLY:Hid (∀ u j,j<k→BwM J F n w u j→Calls Tryz.prog 234 #[.slice (some ⟨w.heap.size,0,none⟩) n n,.int .i64 (j:Nat),Fd.BV (F j)] u fun e w'=>Hid (e=.returned (.tuple #[])∧BwI J F n w w' (j+1))):=fun u j hj hu=>by
   have hle:16*j+16≤n:=by rw[←HNL.out];omega
   refine (Nq w.heap.size n n j (F j) (bkR F n j) u hle (Nat.le_refl _) (by rw[←HNL.out];omega) (by rw[Gg F n j (by omega)];omega) hu.row).mono ?_
   intro e w' hh
   obtain ⟨rfl,h1,h2⟩:=hh.out
   exact ⟨rfl,hu.lay HJ0.out.1 hle h1 h2⟩
 have HN:Hid (16*k≤n∧n<16*k+16∧n≤4096):=by rw[←HNL.out];exact ⟨hl1,hl2,hl3⟩
 rw[HNL.out]
 obtain ⟨i0,hi0,hz0,hz1,hz2⟩:=info_parts Tryz.info5
 have HI0:Hid (Tryz.prog.info? 5=some i0∧i0.zero=some (.int .u8 0)∧i0.size=1∧i0.bytes=1):=⟨hi0,hz0,hz1,hz2⟩
 have q1:(n:Int).tdiv 16=(k:Int):=by rw[Int.tdiv_eq_ediv_of_nonneg (by omega)];have:=HN.out;omega
 have q3:IntKind.i64.wrap (k:Int)=(k:Int):=by rw[IntKind.wrap_i64];have:=HN.out;omega
 have q4:(n:Int)/16=(k:Int):=by have:=HN.out;omega
 have HK64:Hid (k≤256):=(by have:=HN.out;omega:k≤256)
 have HMF:Hid (i0.bytes*n≤281474976710656∧n≤maxLen):=V8 i0.bytes n 1 (by decide) HI0.out.2.2.2 (by have:=HN.out;omega)
 clear hl1 hl2 hl3 hc1 hb hz hi0 hz0 hz1 hz2 hJ h0 HD
 go_enter Tryz.func211,Tryz.ntmps211
 go_upto_region 2 with (first
   | (at_make;go_must (refine wpList_make_full _ rfl _ _ 22 rfl w.heap.size 5 i0 (.int .u8 0) 1 Tryz.underlying22 HI0.out.1 HI0.out.2.1 HI0.out.2.2.1 .i64 .i64 (n:Nat) (n:Nat) n rfl rfl rfl rfl HMF.out.1 HMF.out.2 (Nat.le_refl _) ?_;intro w1 hown hgrow;have HW1:Hid (BwI J F n w w1 0):=⟨by rw[Bh];have z:=Cx hown;rw[show (Value.int .u8 0).cells=#[.int .u8 0] from rfl,toList_madeCells_one,Nat.mul_one] at z;exact z,HJ0.out.1 0 w w1 HJ0.out.2 (Nat.le_refl _) (fun c hc=>hgrow.block c hc (by simp)) hgrow.size,hgrow.os,hgrow.tape,hgrow.output,hgrow.size⟩;clear hown hgrow)))
 go_upto_region 3 with fail
 go_loopw [13] (fun v wr=>∃ j:Nat,j≤k∧v=.int .i64 (j:Nat)∧Hid (BwI J F n w wr j)) (fun v _=>k-(intOf v).toNat)
 case atStart=>exact ⟨0,Nat.zero_le _,rfl,HW1⟩
 case round=>
  as_aux_lemma=>
   obtain ⟨j,hj,rfl,HI⟩:=hrel
   by_cases hlt:j<k
   ·have HJ:Hid (j<k):=hlt
    obtain ⟨ej,ej2,g1⟩:=Gn j k hlt HK64.out
    go_wp2_with (first
     | (go_at_call 197;refine (HC.out _ _ HJ.out HI.out).mono ?_;intro e2 w2 hh;obtain ⟨rfl,hb2⟩:=hh.out;have HI2:Hid (BwI J F n w w2 j):=HI.out.below HJ0.out.1 hb2;clear hh hb2)
     | (go_at_call 234;refine (HLY.out _ _ HJ.out HI3.out).mono ?_;intro e4 w4 hh;obtain ⟨rfl,hi4⟩:=hh.out;have HI4:Hid (BwI J F n w w4 (j+1)):=hi4;clear hh hi4)
     | (refine (HK.out _ _ HJ.out HI2.out).mono ?_;intro e3 w3 hh;obtain ⟨rfl,hm3,hg3⟩:=hh.out;have HI3:Hid (BwM J F n w w3 j):=HI2.out.does hm3 hg3;clear hh hm3 hg3))
    exact ⟨⟨j+1,HJ.out,by first | rfl | simp,HI4⟩,by first | exact V7 j k HJ.out | (simpa using V7 j k HJ.out)⟩
   ·have g1:¬ (j:Int)<(k:Int):=by omega
    have HE:Hid (BwI J F n w wr k):=by
     have p:=HI.out
     rw[show j=k by omega] at p
     exact p
    clear HI
    go_wp2
    go_ret
    exact ⟨rfl,HE.out⟩
structure Gk (Ks:Nat→Prop) (u v:World):Prop where
 os:v.os=u.os
 tape:v.tape=u.tape
 output:v.output=u.output
 size:u.heap.size≤v.heap.size
 block:∀ c,c<u.heap.size→¬ Ks c→v.heap[c]?=u.heap[c]?
theorem Gk.trans {Ks:Nat→Prop} {u v x:World} (h:Gk Ks u v) (k:Gk Ks v x):Gk Ks u x:=
 ⟨k.os.trans h.os,k.tape.trans h.tape,k.output.trans h.output,Nat.le_trans h.size k.size,fun c hc hn=>(k.block c (Nat.lt_of_lt_of_le hc h.size) hn).trans (h.block c hc hn)⟩
theorem Gk.of_below {Ks:Nat→Prop} {u v:World} (h:Below u.heap.size u v):Gk Ks u v:=⟨h.os,h.tape,h.output,h.size,fun c hc _=>h.block c hc⟩
theorem Gk.of_gb {Ks:Nat→Prop} {u v:World} {g:Nat} (h:u.grownBy v (some g)) (hg:Ks g):Gk Ks u v:=⟨h.os,h.tape,h.output,h.size,fun c hc hn=>h.block c hc (fun e=>hn (by injection e with e;rw[e];exact hg))⟩
theorem Gk.below {Ks:Nat→Prop} {u v x:World} (h:Gk Ks u v) (hb:Below v.heap.size v x):Gk Ks u x:=h.trans (Gk.of_below hb)
theorem Gk.gb {Ks:Nat→Prop} {u v x:World} {g:Nat} (h:Gk Ks u v) (hb:v.grownBy x (some g)) (hg:u.heap.size≤g):Gk Ks u x:=
 ⟨hb.os.trans h.os,hb.tape.trans h.tape,hb.output.trans h.output,Nat.le_trans h.size hb.size,fun c hc hn=>(hb.block c (Nat.lt_of_lt_of_le hc h.size) (fun e=>by injection e with e;omega)).trans (h.block c hc hn)⟩
theorem Gk.cell {Ks:Nat→Prop} {u v:World} (h:Gk Ks u v) {b o:Nat} {x:Value} (hb:¬ Ks b) (hx:u.cell? ⟨b,o,none⟩=some x):v.cell? ⟨b,o,none⟩=some x:=by
 rw[World.cell?_of_block (a:=⟨b,o,none⟩) (h.block b (World.block_lt_of_cell? u _ hx) hb)];exact hx
theorem Bx.gk {Ks:Nat→Prop} {u v:World} {b:Nat} {t:TypeId} {cs:List Value} (h:Bx u b t cs) (hg:Gk Ks u v) (hb:¬ Ks b):Bx v b t cs:=h.keep (hg.block b h.lt hb)
theorem Kp.of_gk {Ks:Nat→Prop} {B:Nat} {u v:World} (h:Gk Ks u v) (hK:∀ c,Ks c→c<B):Kp B u v:=⟨h.os,h.tape,h.output,h.size,fun c hc hl=>h.block c hl (fun e=>by have:=hK c e;omega)⟩
structure Cst (B:Nat) (Ks:Nat→Prop) (I:World→Prop):Prop where
 low:∀ c,Ks c→c<B
 size:∀ u,I u→B≤u.heap.size
 stay:∀ u v,I u→(∀ c,c<B→v.heap[c]?=u.heap[c]?)→u.heap.size≤v.heap.size→I v
theorem Cst.below {B:Nat} {Ks:Nat→Prop} {I:World→Prop} (h:Cst B Ks I) {u v:World} (hu:I u) (hb:Below u.heap.size u v):I v:=h.stay u v hu (fun c hc=>hb.block c (Nat.lt_of_lt_of_le hc (h.size u hu))) hb.size
theorem Cst.gb {B:Nat} {Ks:Nat→Prop} {I:World→Prop} (h:Cst B Ks I) {u v:World} {g:Nat} (hu:I u) (hb:u.grownBy v (some g)) (hg:B≤g):I v:=h.stay u v hu (fun c hc=>hb.block c (Nat.lt_of_lt_of_le hc (h.size u hu)) (fun e=>by injection e with e;omega)) hb.size
theorem Cst.new {B:Nat} {Ks:Nat→Prop} {I:World→Prop} (h:Cst B Ks I) {c:Nat} (hc:B≤c):¬ Ks c:=fun e=>by have:=h.low c e;omega
def DoI (Ks:Nat→Prop) (I:World→Prop) (fn:Nat) (pre:Value) (E:BitVec 128→BitVec 128):Prop:=∀ v u,I u→Calls Tryz.prog fn #[pre,Fd.BV v] u fun e w'=>Hid (e=.returned (Fd.BV (E v))∧I w'∧Gk Ks u w')
structure MkX (Ks:Nat→Prop) (I:World→Prop) (fn sh p q r o n c:Nat) (f:Nat→BitVec 128) (u:World):Prop where
 inv:I u
 cp:u.cell? ⟨p,0,none⟩=some (.func (.func fn) #[.pointer (some ⟨sh,0,none⟩)] #[])
 cq:u.cell? ⟨q,0,none⟩=some (.slice (some ⟨r,o,none⟩) n c)
 rg:∀ j,j<n→u.rangeAt r (o+j*16) (Fd.BL (f j))
 n2:¬ Ks p
 n3:¬ Ks q
 n4:¬ Ks r
theorem MkX.grown {Ks:Nat→Prop} {I:World→Prop} {fn sh p q r o n c:Nat} {f:Nat→BitVec 128} {u u':World} (h:MkX Ks I fn sh p q r o n c f u) (hk:Gk Ks u u') (hi:I u'):MkX Ks I fn sh p q r o n c f u':=
 ⟨hi,hk.cell h.n2 h.cp,hk.cell h.n3 h.cq,fun j hj i x hx=>hk.cell h.n4 (h.rg j hj i x hx),h.n2,h.n3,h.n4⟩
theorem MkX.below {Ks:Nat→Prop} {I:World→Prop} {B fn sh p q r o n c:Nat} {f:Nat→BitVec 128} {u u':World} (h:MkX Ks I fn sh p q r o n c f u) (hC:Cst B Ks I) (hb:Below u.heap.size u u'):MkX Ks I fn sh p q r o n c f u':=h.grown (Gk.of_below hb) (hC.below h.inv hb)
def MkS (fn p q r o n c j m sh:Nat) (L X:List Value) (u:World):Prop:=u.cell? ⟨p,0,none⟩=some (.func (.func fn) #[.pointer (some ⟨sh,0,none⟩)] #[])∧u.cell? ⟨q,0,none⟩=some (.slice (some ⟨r,o,none⟩) n c)∧u.rangeAt m 0 L∧u.rangeAt r (o+j*16) X∧u.there (m+1) 0 16
theorem MkX.reads {Ks:Nat→Prop} {I:World→Prop} {fn sh p q r o n c j m:Nat} {f:Nat→BitVec 128} {u:World} {L:List Value} (h:MkX Ks I fn sh p q r o n c f u) (hj:j<n) (h1:Bx u m 27 L) {Z:List Value} (h2:Bx u (m+1) 27 Z) (hZ:Z.length=16):MkS fn p q r o n c j m sh L (Fd.BL (f j)) u:=
 ⟨h.cp,h.cq,h1.range,h.rg j hj,Y7 h2 hZ⟩
set_option maxHeartbeats 1600000 in
set_option maxRecDepth 100000 in
theorem C5 {B:Nat} {Ks:Nat→Prop} {I:World→Prop} (hC:Cst B Ks I) (fn sh p q r o n c j:Nat) (hE:∀ args u,(callFunc fn args).run Tryz.prog u=.ok (.enter fn args) u) (E:BitVec 128→BitVec 128) (f:Nat→BitVec 128) (v:BitVec 128) (w:World) (HDO:DoI Ks I fn (.pointer (some ⟨sh,0,none⟩)) E) (h:MkX Ks I fn sh p q r o n c f w) (hj:j<n) (hn:n≤c) :
  Calls Tryz.prog 243 #[.int .i64 (j:Nat),Fd.BV v,.pointer (some ⟨p,0,none⟩),.pointer (some ⟨q,0,none⟩)] w fun e w'=>Hid (e=.returned (Fd.BV (E (v ^^^ f j) ^^^ f j))∧MkX Ks I fn sh p q r o n c f w'∧Gk Ks w w'):=by
 obtain ⟨L,HL⟩:∃ L,Hid (L=Fd.BL v):=⟨_,rfl⟩
 obtain ⟨X,HX⟩:∃ X,Hid (X=Fd.BL (f j)):=⟨_,rfl⟩
 obtain ⟨L2,HL2⟩:∃ X,Hid (X=Fd.BL (v ^^^ f j)):=⟨_,rfl⟩
 obtain ⟨L3,HL3⟩:∃ X,Hid (X=Fd.BL (E (v ^^^ f j))):=⟨_,rfl⟩
 obtain ⟨L4,HL4⟩:∃ X,Hid (X=Fd.BL (E (v ^^^ f j) ^^^ f j)):=⟨_,rfl⟩
 have HX1:Hid (∀ u,Calls Tryz.prog 196 #[.agg L.toArray,.agg X.toArray] u fun e w'=>Hid (e=.returned (.agg L2.toArray)∧Below u.heap.size u w')):=fun u=>by
  rw[HL.out,HX.out,HL2.out];exact (Fd.Bo v (f j) u).mono fun e w' hh=>hh
 have HX2:Hid (∀ u,Calls Tryz.prog 196 #[.agg L3.toArray,.agg X.toArray] u fun e w'=>Hid (e=.returned (.agg L4.toArray)∧Below u.heap.size u w')):=fun u=>by
  rw[HL3.out,HX.out,HL4.out];exact (Fd.Bo _ (f j) u).mono fun e w' hh=>hh
 have HE:Hid (∀ u,MkX Ks I fn sh p q r o n c f u→Calls Tryz.prog fn #[.pointer (some ⟨sh,0,none⟩),.agg L2.toArray] u fun e w'=>Hid (e=.returned (.agg L3.toArray)∧I w'∧Gk Ks u w')):=fun u hu=>by
  rw[HL2.out,HL3.out];exact HDO (v ^^^ f j) u hu.inv
 have HLN:Hid (L.length=16∧X.length=16∧L4.length=16∧(∀ x∈L4,x.oneCell'=true)):=by rw[HL.out,HX.out,HL4.out];exact ⟨rfl,rfl,rfl,Yh _⟩
 show Calls Tryz.prog 243 #[_,.agg (Fd.BL v).toArray,_,_] w fun e w'=>Hid (e=.returned (.agg (Fd.BL (E (v ^^^ f j) ^^^ f j)).toArray)∧_)
 rw[←HL.out,←HL4.out]
 obtain ⟨w1,hw1⟩:∃ w1,w1=(w.alloc (.cells L.toArray 27)).alloc (.cells ZZ.toArray 27):=⟨_,rfl⟩
 have HB1:Hid (Bx w1 w.heap.size 27 L∧Bx w1 (w.heap.size+1) 27 ZZ∧Below w.heap.size w w1∧MkX Ks I fn sh p q r o n c f w1∧B≤w.heap.size):=by
  have hb:Below w.heap.size w w1:=by rw[hw1];exact ((Below.refl _ _).alloc (Nat.le_refl _) _).alloc (by simp) _
  refine ⟨?_,?_,hb,h.below hC hb,hC.size w h.inv⟩
  ·rw[hw1];exact (Bx.new w 27 L).below ((Below.refl _ _).alloc (Nat.le_refl _) _)
  ·rw[hw1];have q:=Bx.new (w.alloc (.cells L.toArray 27)) 27 ZZ;simpa using q
 have hw2:w1=(w.alloc (.cells L.toArray 27)).alloc (.cells #[.int .u8 0,.int .u8 0,.int .u8 0,.int .u8 0,.int .u8 0,.int .u8 0,.int .u8 0,.int .u8 0,.int .u8 0,.int .u8 0,.int .u8 0,.int .u8 0,.int .u8 0,.int .u8 0,.int .u8 0,.int .u8 0] 27):=hw1
 have HB0:Hid (MkX Ks I fn sh p q r o n c f w):=h
 clear hw1 h HDO
 go_enter Tryz.func243,Tryz.ntmps243
 go_upto_region 1 with fail
 rw[←hw2]
 clear hw2
 obtain ⟨m,HMM⟩:∃ m,Hid (w.heap.size=m):=⟨_,rfl⟩
 rw[HMM.out] at HB1 ⊢
 have HW1:Hid (m+1<w1.heap.size):=HB1.out.2.1.lt
 have hU:Tryz.prog.underlying 27=some (.array 16 5):=Tryz.underlying27
 have hiL:(Tryz.prog.info? 27).map (·.size)=some L.length:=by rw[HLN.out.1];kernel_rfl
 have hiX:(Tryz.prog.info? 27).map (·.size)=some X.length:=by rw[HLN.out.2.1];kernel_rfl
 have hi4:(Tryz.prog.info? 27).map (·.size)=some L4.length:=by rw[HLN.out.2.2.1];kernel_rfl
 have h416:L4.length=16:=HLN.out.2.2.1
 have h41:∀ v∈L4,v.oneCell'=true:=HLN.out.2.2.2
 have HJ:Hid (j<n):=hj
 have g0:(0:Int)≤(j:Int):=by omega
 have g1:(j:Int)<(n:Int):=by omega
 have HR:Hid (∀ u Z,MkX Ks I fn sh p q r o n c f u→Bx u m 27 L→Bx u (m+1) 27 Z→Z.length=16→MkS fn p q r o n c j m sh L X u):=fun u Z a b d e=>by rw[HX.out];exact a.reads HJ.out b d e
 have hS1:=HR.out w1 ZZ HB1.out.2.2.2.1 HB1.out.1 HB1.out.2.1 rfl
 clear hj hn
 have hS0:MkS fn p q r o n c j m sh L X w1.drew:=by
  obtain ⟨c1,c2,c3,c4,c5⟩:=hS1
  exact ⟨by simpa using c1,by simpa using c2,by simpa using c3,by simpa using c4,by simpa using c5⟩
 refine wp_region_noPanic ?_
 refine Yl (fun u=>MkS fn p q r o n c j m sh L X u) 13 (by kernel_rfl) (by decide) (by decide +kernel) (by decide +kernel) (by decide +kernel) (fun inv=>?_)
 refine tT 0 7 (.func (.func fn) #[.pointer (some ⟨sh,0,none⟩)] #[]) inv rfl rfl (by decide +kernel) hS0 (Or.inl ⟨by rfl,fun w' hS'=>by obtain ⟨c1,c2,c3,c4,c5⟩:=hS';go_simp⟩) (fun inv=>?_)
 simp only[pU]
 refine tT 1 8 (.agg L.toArray) inv rfl rfl (by decide +kernel) hS0 (yieldsIf_load_mid (by rfl) 27 (.tmp 5) rfl m 0 rfl L _ (fun u hu=>hu.2.2.1) Tryz.underlying27 rfl hiL) (fun inv=>?_)
 simp only[pU]
 refine tT 2 9 (.slice (some ⟨r,o,none⟩) n c) inv rfl rfl (by decide +kernel) hS0 (Or.inl ⟨by rfl,fun w' hS'=>by obtain ⟨c1,c2,c3,c4,c5⟩:=hS';go_simp⟩) (fun inv=>?_)
 simp only[pU]
 refine tT 3 10 (.int .i64 (j:Nat)) inv rfl rfl (by decide +kernel) hS0 (Or.inl ⟨by rfl,fun w' hS'=>by obtain ⟨c1,c2,c3,c4,c5⟩:=hS';go_simp⟩) (fun inv=>?_)
 simp only[pU]
 refine tT 4 11 (.pointer (some ⟨r,o+j*16,none⟩)) inv rfl rfl (by decide +kernel) hS0 (Or.inl ⟨by rfl,fun w' hS'=>by obtain ⟨c1,c2,c3,c4,c5⟩:=hS';go_simp⟩) (fun inv=>?_)
 simp only[pU]
 refine tT 5 12 (.agg X.toArray) inv rfl rfl (by decide +kernel) hS0 (yieldsIf_load_mid (by rfl) 27 (.tmp 11) rfl r (o+j*16) rfl X _ (fun u hu=>hu.2.2.2.1) Tryz.underlying27 rfl hiX) (fun inv=>?_)
 simp only[pU]
 refine tT 8 15 (.slice (some ⟨r,o,none⟩) n c) inv rfl rfl (by decide +kernel) hS0 (Or.inl ⟨by rfl,fun w' hS'=>by obtain ⟨c1,c2,c3,c4,c5⟩:=hS';go_simp⟩) (fun inv=>?_)
 simp only[pU]
 refine tT 9 16 (.int .i64 (j:Nat)) inv rfl rfl (by decide +kernel) hS0 (Or.inl ⟨by rfl,fun w' hS'=>by obtain ⟨c1,c2,c3,c4,c5⟩:=hS';go_simp⟩) (fun inv=>?_)
 simp only[pU]
 refine tT 10 17 (.pointer (some ⟨r,o+j*16,none⟩)) inv rfl rfl (by decide +kernel) hS0 (Or.inl ⟨by rfl,fun w' hS'=>by obtain ⟨c1,c2,c3,c4,c5⟩:=hS';go_simp⟩) (fun inv=>?_)
 simp only[pU]
 refine tT 11 18 (.agg X.toArray) inv rfl rfl (by decide +kernel) hS0 (yieldsIf_load_mid (by rfl) 27 (.tmp 17) rfl r (o+j*16) rfl X _ (fun u hu=>hu.2.2.2.1) Tryz.underlying27 rfl hiX) (fun inv=>?_)
 simp only[pU]
 refine Ye (i:=6) inv (by decide +kernel) (by decide) rfl (fun KK hK=>?_)
 go_simp
 refine (HX1.out _).mono ?_
 intro e2 w2 hh
 obtain ⟨rfl,hb2⟩:=hh.out
 have HB2:Hid (Bx w2 m 27 L∧Bx w2 (m+1) 27 ZZ∧Below w1.heap.size w1 w2∧MkX Ks I fn sh p q r o n c f w2):=(have hb:=(Below.refl w1.heap.size w1).drew.trans hb2;⟨HB1.out.1.below hb,HB1.out.2.1.below hb,hb,HB1.out.2.2.2.1.below hC hb⟩)
 clear hh hb2
 go_wp2_with fail
 refine hK.out _ _ (HR.out w2 ZZ HB2.out.2.2.2 HB2.out.1 HB2.out.2.1 rfl) (fun inv'=>?_)
 clear hK KK inv;have inv:=inv';clear inv'
 try simp only[pU]
 refine Ye (i:=7) inv (by decide +kernel) (by decide) rfl (fun KK hK=>?_)
 go_simp
 refine (HE.out _ HB2.out.2.2.2).mono ?_
 intro e3 w3 hh
 obtain ⟨rfl,hk3,hg3⟩:=hh.out
 have HB3:Hid (Bx w3 m 27 L∧Bx w3 (m+1) 27 ZZ∧Gk Ks w2 w3∧MkX Ks I fn sh p q r o n c f w3):=⟨HB2.out.1.gk hg3 (hC.new HB1.out.2.2.2.2),HB2.out.2.1.gk hg3 (hC.new (Nat.le_succ_of_le HB1.out.2.2.2.2)),hg3,HB2.out.2.2.2.grown hg3 hk3⟩
 clear hh hk3 hg3
 go_wp2_with fail
 refine hK.out _ _ (HR.out w3 ZZ HB3.out.2.2.2 HB3.out.1 HB3.out.2.1 rfl) (fun inv'=>?_)
 clear hK KK inv;have inv:=inv';clear inv'
 try simp only[pU]
 refine Ye (i:=12) inv (by decide +kernel) (by decide) rfl (fun KK hK=>?_)
 go_simp
 refine (HX2.out _).mono ?_
 intro e4 w4 hh
 obtain ⟨rfl,hb4⟩:=hh.out
 have HB4:Hid (Bx w4 m 27 L∧Bx w4 (m+1) 27 ZZ∧Below w3.heap.size w3 w4∧MkX Ks I fn sh p q r o n c f w4):=⟨HB3.out.1.below hb4,HB3.out.2.1.below hb4,hb4,HB3.out.2.2.2.below hC hb4⟩
 clear hh hb4
 go_wp2_with fail
 refine hK.out _ _ (HR.out w4 ZZ HB4.out.2.2.2 HB4.out.1 HB4.out.2.1 rfl) (fun inv'=>?_)
 clear hK KK inv;have inv:=inv';clear inv'
 try simp only[pU]
 refine Z6 (i:=13) (by decide +kernel) (by decide) rfl (fun KK hK=>?_)
 rw[if_pos (by rfl)]
 refine wp_store_mid 27 (.tmp 6) (.tmp 19) rfl (m+1) 0 L4.toArray rfl rfl (by simpa [h416] using Y7 HB4.out.2.1 rfl) (by rw[List.size_toArray];exact hi4) (all_oneCell_toArray h41) ?_
 refine hK.out _ _ ?_
 clear hK KK
 try simp only[pU]
 refine X2 (by decide +kernel) ?_ _
 refine NoPanic.normal ?_
 have HB9:Hid (Bx (w4.setCells (m+1) 0 L4.toArray.toList) (m+1) 27 L4∧w4.grownBy (w4.setCells (m+1) 0 L4.toArray.toList) (some (m+1))):=⟨HB4.out.2.1.store L4 (by rw[h416];rfl),Z5 (m+1) L4 0 w4⟩
 obtain ⟨u9,hu9⟩:∃ u9,u9=w4.setCells (m+1) 0 L4.toArray.toList:=⟨_,rfl⟩
 rw[←hu9] at HB9 ⊢
 clear hu9 hS0 hS1 inv
 go_wp2
 have hgm:=HB1.out.2.2.2.2
 have hg9:=HB9.out.2
 have hb4:=HB4.out.2.2.1
 have hg3:=HB3.out.2.2.1
 have hb2:=HB2.out.2.2.1
 have hb1:=HB1.out.2.2.1
 have hw1:=HW1.out
 have s2:=hb2.size
 have s3:=hg3.size
 have s4:=hb4.size
 have hgw:Gk Ks w w4:=(Gk.of_below (by rw[HMM.out];exact hb1)).trans ((Gk.of_below hb2).trans (hg3.trans (Gk.of_below hb4)))
 have hg:Gk Ks w u9:=hgw.gb hg9 (by rw[HMM.out];omega)
 refine Xl (b:=m+1) L4 rfl rfl HB9.out.1.range Tryz.underlying27 rfl hi4 ⟨rfl,HB0.out.grown hg (hC.gb HB4.out.2.2.2.inv hg9 (by omega)),hg⟩
structure EcX (Ks:Nat→Prop) (I:World→Prop) (sh p:Nat) (u:World):Prop where
 inv:I u
 cp:u.cell? ⟨p,0,none⟩=some (.pointer (some ⟨sh,0,none⟩))
 n2:¬ Ks p
theorem EcX.grown {Ks:Nat→Prop} {I:World→Prop} {sh p:Nat} {u v:World} (h:EcX Ks I sh p u) (hk:Gk Ks u v) (hi:I v):EcX Ks I sh p v:=⟨hi,hk.cell h.n2 h.cp,h.n2⟩
theorem EcX.below {Ks:Nat→Prop} {I:World→Prop} {B sh p:Nat} {u v:World} (h:EcX Ks I sh p u) (hC:Cst B Ks I) (hb:Below u.heap.size u v):EcX Ks I sh p v:=h.grown (Gk.of_below hb) (hC.below h.inv hb)
set_option maxHeartbeats 800000 in
set_option maxRecDepth 100000 in
theorem Ew {B:Nat} {Ks:Nat→Prop} {I:World→Prop} (hC:Cst B Ks I) (sh p:Nat) (j:Int) (E:BitVec 128→BitVec 128) (v:BitVec 128) (w:World) (HDO:DoI Ks I 190 (.pointer (some ⟨sh,0,none⟩)) E) (h:EcX Ks I sh p w) :
  Calls Tryz.prog 212 #[.int .i64 j,Fd.BV v,.pointer (some ⟨p,0,none⟩)] w fun e w'=>Hid (e=.returned (Fd.BV (E v))∧EcX Ks I sh p w'∧Gk Ks w w'):=by
 obtain ⟨L,HL⟩:∃ L,Hid (L=Fd.BL v):=⟨_,rfl⟩
 obtain ⟨M,HM⟩:∃ M,Hid (M=Fd.BL (E v)):=⟨_,rfl⟩
 have HK:Hid (∀ u,I u→Calls Tryz.prog 190 #[.pointer (some ⟨sh,0,none⟩),.agg L.toArray] u fun e w'=>Hid (e=.returned (.agg M.toArray)∧I w'∧Gk Ks u w')):=fun u hu=>by rw[HL.out,HM.out];exact HDO v u hu
 have HL16:Hid (L.length=16∧M.length=16∧(∀ x∈M,x.oneCell'=true)):=by rw[HL.out,HM.out];exact ⟨rfl,rfl,Yh _⟩
 show Calls Tryz.prog 212 #[_,.agg (Fd.BL v).toArray,_] w fun e w'=>Hid (e=.returned (.agg (Fd.BL (E v)).toArray)∧_)
 rw[←HL.out,←HM.out]
 obtain ⟨w1,hw1⟩:∃ w1,w1=(w.alloc (.cells L.toArray 27)).alloc (.cells ZZ.toArray 27):=⟨_,rfl⟩
 have HB1:Hid (Bx w1 w.heap.size 27 L∧Bx w1 (w.heap.size+1) 27 ZZ∧Below w.heap.size w w1∧EcX Ks I sh p w1∧B≤w.heap.size):=by
  have hb:Below w.heap.size w w1:=by rw[hw1];exact ((Below.refl _ _).alloc (Nat.le_refl _) _).alloc (by simp) _
  refine ⟨?_,?_,hb,h.below hC hb,hC.size w h.inv⟩
  ·rw[hw1];exact (Bx.new w 27 L).below ((Below.refl _ _).alloc (Nat.le_refl _) _)
  ·rw[hw1];have q:=Bx.new (w.alloc (.cells L.toArray 27)) 27 ZZ;simpa using q
 have hw2:w1=(w.alloc (.cells L.toArray 27)).alloc (.cells #[.int .u8 0,.int .u8 0,.int .u8 0,.int .u8 0,.int .u8 0,.int .u8 0,.int .u8 0,.int .u8 0,.int .u8 0,.int .u8 0,.int .u8 0,.int .u8 0,.int .u8 0,.int .u8 0,.int .u8 0,.int .u8 0] 27):=hw1
 clear hw1
 have H0:Hid (EcX Ks I sh p w):=h
 clear h HDO
 have c0:w1.cell? ⟨p,0,none⟩=some (.pointer (some ⟨sh,0,none⟩)):=HB1.out.2.2.2.1.cp
 go_enter Tryz.func212,Tryz.ntmps212
 go_upto_region 1 with fail
 rw[←hw2]
 clear hw2
 obtain ⟨m,HMM⟩:∃ m,Hid (w.heap.size=m):=⟨_,rfl⟩
 rw[HMM.out] at HB1 ⊢
 go_wp2_with (first
  | (refine wpList_load_mid (by rfl) 27 (.tmp 4) (by rfl) m 0 (by rfl) L _ HB1.out.1.range Tryz.underlying27 rfl (by rw[HL16.out.1];kernel_rfl) ?_)
  | (go_at_call 190;refine (HK.out _ HB1.out.2.2.2.1.inv).mono ?_;intro e2 w2 hh;obtain ⟨rfl,hk2,hg2⟩:=hh.out;have HB2:Hid (I w2∧Gk Ks w1 w2∧Bx w2 (m+1) 27 ZZ):=⟨hk2,hg2,HB1.out.2.1.gk hg2 (hC.new (Nat.le_succ_of_le HB1.out.2.2.2.2))⟩;clear hh hk2 hg2)
  | (refine Ze (by rfl) 27 (.tmp 5) (.tmp 9) (by rfl) ZZ M (m+1) (by rfl) (by rfl) HB2.out.2.2 (by rw[HL16.out.2.1];rfl) (by rw[HL16.out.2.1];kernel_rfl) HL16.out.2.2 ?_;intro u9 hb9 hg9))
 have hgk:Gk Ks w u9:=((Gk.of_below (by rw[HMM.out];exact HB1.out.2.2.1)).trans HB2.out.2.1).gb hg9 (by rw[HMM.out];omega)
 have hi9:I u9:=hC.gb HB2.out.1 hg9 (Nat.le_succ_of_le HB1.out.2.2.2.2)
 refine Xl (b:=m+1) M rfl rfl hb9.range Tryz.underlying27 rfl (by rw[HL16.out.2.1];kernel_rfl) ⟨rfl,H0.out.grown hgk hi9,hgk⟩
set_option maxHeartbeats 800000 in
set_option maxRecDepth 100000 in
theorem N3 {B:Nat} {Ks:Nat→Prop} {I:World→Prop} (hC:Cst B Ks I) (sh:Nat) (E:BitVec 128→BitVec 128) (s:Int) (b off cp k:Nat) (zs:List Int) (w:World) (hI:I w) (HDO:DoI Ks I 190 (.pointer (some ⟨sh,0,none⟩)) E)
  (hl:zs.length=16*k) (hk0:0<k) (hl3:zs.length≤4096) (hc1:zs.length≤cp) (hb:Zd zs) (hbg:¬ Ks b) (hz:∀ i,i<zs.length→w.cell? ⟨b,off+i,none⟩=some (.int .u8 (zs.getD i 0))) :
  Calls Tryz.prog 174 #[.agg #[.pointer (some ⟨sh,0,none⟩)],.int .u64 s,.slice (some ⟨b,off,none⟩) zs.length cp] w fun e w'=>Hid (∃ x,e=.returned (.slice (some ⟨x,0,none⟩) zs.length zs.length)∧w.heap.size≤x∧Bx w' x 5 (bkL (fun j=>E (cutV zs j)) k)∧I w'∧Gk Ks w w'):=by
 obtain ⟨w1,hw1⟩:∃ w1,w1=w.alloc (.cells #[.pointer (some ⟨sh,0,none⟩)] 240):=⟨_,rfl⟩
 have hBw:B≤w.heap.size:=hC.size w hI
 have hb1:Below w.heap.size w w1:=by rw[hw1];exact (Below.refl _ _).alloc (Nat.le_refl _) _
 have hs1:w1.heap.size=w.heap.size+1:=by rw[hw1];simp
 have hB1:Bx w1 w.heap.size 240 [.pointer (some ⟨sh,0,none⟩)]:=by rw[hw1];exact Bx.new w 240 [.pointer (some ⟨sh,0,none⟩)]
 have cc:∀ b o x,w.cell? ⟨b,o,none⟩=some x→w1.cell? ⟨b,o,none⟩=some x:=fun b o x hx=>(hb1.cell (World.block_lt_of_cell? w _ hx)).trans hx
 have hbl:b<w.heap.size:=World.block_lt_of_cell? w _ (hz 0 (by omega))
 obtain ⟨J,HJ⟩:∃ J:Nat→World→Prop,Hid (J=fun _ u=>EcX Ks I sh w.heap.size u∧(∀ i,i<zs.length→u.cell? ⟨b,off+i,none⟩=some (.int .u8 (zs.getD i 0)))∧(∀ c,c<w1.heap.size→¬ Ks c→u.heap[c]?=w1.heap[c]?)):=⟨_,rfl⟩
 obtain ⟨F,HF⟩:∃ F:Nat→BitVec 128,Hid (F=fun j=>E (cutV zs j)):=⟨_,rfl⟩
 have hLow:Fv w1.heap.size J:=by
  rw[HJ.out]
  intro k u u' h hz hk hsz
  obtain ⟨h1,h2,h3⟩:=h
  have cc:∀ b o x,b<w1.heap.size→u.cell? ⟨b,o,none⟩=some x→u'.cell? ⟨b,o,none⟩=some x:=fun b o x hb hx=>by
   rw[World.cell?_of_block (a:=⟨b,o,none⟩) (hk b hb)];exact hx
  exact ⟨⟨hC.stay u u' h1.inv (fun c hc=>hk c (by omega)) hsz,cc _ _ _ (by omega) h1.cp,h1.n2⟩,fun i hi=>cc _ _ _ (by omega) (h2 i hi),fun c hc hn=>(hk c hc).trans (h3 c hc hn)⟩
 have hJ0:J 0 w1:=by rw[HJ.out];exact ⟨⟨hC.below hI hb1,hB1.cell 0 _ rfl,hC.new hBw⟩,fun i hi=>cc _ _ _ (hz i hi),fun _ _ _=>rfl⟩
 have HB:Hid (Calls Tryz.prog 211 #[.slice (some ⟨b,off,none⟩) zs.length cp,.func (.func 212) #[] #[.pointer (some ⟨w.heap.size,0,none⟩)]] w1 fun e w'=>Hid (e=.returned (.slice (some ⟨w1.heap.size,0,none⟩) zs.length zs.length)∧BwI J F zs.length w1 w' k)):=by
  refine Mc 212 w.heap.size (fun args w=>Zp Tryz.func212 (by rfl) (by rfl) args w) J F b off cp k zs w1 hLow hJ0 (by omega) (by omega) hl3 hc1 hb (fun j u h i hi=>by rw[HJ.out] at h;exact h.2.1 i hi) (fun j u hj h hsz=>?_)
  rw[HJ.out] at h ⊢
  obtain ⟨h1,h2,h3⟩:=h
  refine (Ew hC sh w.heap.size j E (cutV zs j) u HDO h1).mono ?_
  intro e w' hh
  obtain ⟨rfl,k1,k2⟩:=hh.out
  exact ⟨by rw[HF.out],⟨k1,fun i hi=>k2.cell hbg (h2 i hi),fun c hc hn=>(k2.block c (by omega) hn).trans (h3 c hc hn)⟩,Kp.of_gk k2 (fun c hc=>by have:=hC.low c hc;omega)⟩
 have HJF:Hid (∀ u,BwI J F zs.length w1 u k→I u∧Gk Ks w u∧Bx u w1.heap.size 5 (bkL F k)):=fun u hu=>by
  have h:=hu.inv
  rw[HJ.out] at h
  refine ⟨h.1.inv,⟨hu.os.trans hb1.os,hu.tape.trans hb1.tape,hu.output.trans hb1.output,Nat.le_trans hb1.size hu.size,fun c hc hn=>(h.2.2 c (by omega) hn).trans (hb1.block c hc)⟩,?_⟩
  have z:=hu.row
  rw[Gh F _ k hl] at z
  exact z
 obtain ⟨N,HNL⟩:∃ n,Hid (zs.length=n):=⟨_,rfl⟩
 rw[HNL.out] at HB HJF ⊢
 rw[←HF.out]
 have HS1:Hid (w1.heap.size=w.heap.size+1):=hs1
 clear hI HDO hl hk0 hl3 hc1 hb hbg hz hb1 hB1 cc hbl hLow hJ0 hBw hs1
 go_enter Tryz.func174,Tryz.ntmps174
 go_upto_region 1 with fail
 rw[←hw1]
 clear hw1
 go_wp2_with (first
  | (go_at_call 211;refine HB.out.mono ?_;intro e2 w2 hh;obtain ⟨rfl,h2⟩:=hh.out;have HX:Hid (BwI J F N w1 w2 k):=h2;clear hh h2 HB))
 go_ret
 obtain ⟨z1,z2,z3⟩:=HJF.out _ HX.out
 exact ⟨_,rfl,by have:=HS1.out;omega,z3,z1,z2⟩
set_option maxHeartbeats 800000 in
set_option maxRecDepth 100000 in
theorem D5 (B sh:Nat) (S:ByteArray) (st nk:Nat) (zs:List Int) (kv:Value) (mp:Option Addr) (ov:Value) (fn:Nat) (xs ys:Array Value) (w:World) (h:ShA B w sh S st (4*nk) zs kv mp ov) (hB:B≤w.heap.size) (hfew:∃ n os,n≤1∧w.ownsRow B 71 1 ov n os)
  (hnk:nk=4∨nk=6∨nk=8) (hl:zs.length=2*(4*nk)) (hb:Zd zs) (hrc:RC w) (hpos:1<w.heap.size) :
  Calls Tryz.prog 158 #[.pointer (some ⟨sh,0,none⟩),.func (.func fn) xs ys] w fun e w'=>Hid (∃ go ov',e=.returned (.tuple #[bV 201 [.pointer (some ⟨sh,0,none⟩),.func (.func fn) xs ys,.pointer (some ⟨go,0,none⟩)],bV 202 [.pointer (some ⟨sh,0,none⟩),.func (.func fn) xs ys,.pointer (some ⟨go,0,none⟩)]])∧w.heap.size≤go∧Zr w' go (nk+6) (Zn nk (Yk (zs.drop (4*nk))))∧(∃ R:Array Value,w'.heap[go]?=some (.cells R 135 (0,0)))∧ShA B w' sh S st (4*nk) zs kv mp ov'∧Fs B sh w w'):=by
 have HR:Hid (Calls Tryz.prog 192 #[.pointer (some ⟨sh,0,none⟩)] w fun e w'=>Hid (∃ y d,e=.returned (.slice y (zs.length-4*nk) d)∧Zf w' (.slice y (zs.length-4*nk) d) (zs.drop (4*nk))∧Below w.heap.size w w')):=Mu B sh S st (4*nk) zs kv mp ov w h (by omega)
 have hb':Zd (zs.drop (4*nk)):=fun i=>by
  rw[List.getD_eq_getElem?_getD,List.getElem?_drop,←List.getD_eq_getElem?_getD];exact hb _
 have HK:Hid (∀ u v,Below w.heap.size w u→Zf u v (zs.drop (4*nk))→Calls Tryz.prog 186 #[.pointer (some ⟨sh,0,none⟩),v] u fun e w'=>Hid (∃ g ov',e=.returned (.pointer (some ⟨g,0,none⟩))∧u.heap.size≤g∧Zr w' g (nk+6) (Zn nk (Yk (zs.drop (4*nk))))∧(∃ R:Array Value,w'.heap[g]?=some (.cells R 135 (0,0)))∧ShA B w' sh S st (4*nk) zs kv mp ov'∧(∀ n os,u.ownsRow B 71 1 ov n os→∃ os',w'.ownsRow B 71 1 ov' (n+1) os')∧Fs B sh u w')):=fun u v hu hv=>by
  obtain ⟨n0,os0,hn0,ho0⟩:=hfew
  exact Wk B sh S st (4*nk) zs kv mp ov v (zs.drop (4*nk)) nk u (h.below hu) (Nat.le_trans hB hu.size) ⟨n0,os0,by omega,ownsRow_below ho0 hu⟩ hnk (by rw[List.length_drop];omega) hv hb' (fun i hi=>(hu.cell (p:=⟨1,i,none⟩) hpos).trans (hrc i hi)) (Nat.lt_of_lt_of_le hpos hu.size)
 have HB0:Hid (B≤w.heap.size):=hB
 clear h hfew hl hb hrc hpos hB hb'
 go_enter Tryz.func158,Tryz.ntmps158
 go_upto_region 2 with (first
  | (go_at_call 192;refine HR.out.mono ?_;intro e1 w1 hh;obtain ⟨y,d,rfl,hv1,hb1⟩:=hh.out;have HV1:Hid (Zf w1 (.slice y (zs.length-4*nk) d) (zs.drop (4*nk))∧Below w.heap.size w w1):=⟨hv1,hb1⟩;clear hh hv1 hb1)
  | (go_at_call 186;refine (HK.out _ _ HV1.out.2 HV1.out.1).mono ?_;intro e2 w2 hh;obtain ⟨go,ov',rfl,hg2,hK2,hR2,hS2,hO2,hF2⟩:=hh.out;have HS2:Hid (w1.heap.size≤go∧Zr w2 go (nk+6) (Zn nk (Yk (zs.drop (4*nk))))∧ShA B w2 sh S st (4*nk) zs kv mp ov'∧Fs B sh w1 w2∧∃ R:Array Value,w2.heap[go]?=some (.cells R 135 (0,0))):=⟨hg2,hK2,hS2,hF2,hR2⟩;clear hh hg2 hK2 hR2 hS2 hO2 hF2))
 obtain ⟨w3,hw3⟩:∃ w3,w3=w2.alloc (.cells #[.pointer (some ⟨sh,0,none⟩),.func (.func fn) xs ys,.pointer (some ⟨go,0,none⟩)] 252):=⟨_,rfl⟩
 have HW:Hid (Bx w3 w2.heap.size 252 [.pointer (some ⟨sh,0,none⟩),.func (.func fn) xs ys,.pointer (some ⟨go,0,none⟩)]∧Below w2.heap.size w2 w3):=by rw[hw3];exact ⟨Bx.new w2 252 _,(Below.refl _ _).alloc (Nat.le_refl _) _⟩
 rw[←hw3]
 clear hw3
 have d0:w3.cell? ⟨w2.heap.size,0,none⟩=some (.pointer (some ⟨sh,0,none⟩)):=HW.out.1.cell 0 _ rfl
 have d1:w3.cell? ⟨w2.heap.size,1,none⟩=some (.func (.func fn) xs ys):=HW.out.1.cell 1 _ rfl
 have d2:w3.cell? ⟨w2.heap.size,2,none⟩=some (.pointer (some ⟨go,0,none⟩)):=HW.out.1.cell 2 _ rfl
 go_region
 all_goals go_wp2
 all_goals go_ret2
 all_goals (
  have hb:=HW.out.2.drew
  exact ⟨go,ov',rfl,Nat.le_trans HV1.out.2.size HS2.out.1,HS2.out.2.1.sameK (hb.block go HS2.out.2.1.ciph.here) hb.size,(by obtain ⟨R,hR⟩:=HS2.out.2.2.2.2;exact ⟨R,(hb.block go HS2.out.2.1.ciph.here).trans hR⟩),HS2.out.2.2.1.below hb,(Fs.of_below HV1.out.2 HB0.out).trans (HS2.out.2.2.2.1.trans (Fs.of_below hb (Nat.le_trans (Nat.le_trans HB0.out HV1.out.2.size) HS2.out.2.2.2.1.bel.size)))⟩)
def xtV (B0 fn nk:Nat) (zs:List Int) (u:World) (sh:Nat) (fv sv pv:Value):Prop:=
 ∃ go,B0≤go∧fv=fV fn∧sv=bV 201 [.pointer (some ⟨sh,0,none⟩),fV fn,.pointer (some ⟨go,0,none⟩)]∧pv=bV 202 [.pointer (some ⟨sh,0,none⟩),fV fn,.pointer (some ⟨go,0,none⟩)]∧Zr u go (nk+6) (Zn nk (Yk (zs.drop (4*nk))))∧(∃ R:Array Value,u.heap[go]?=some (.cells R 135 (0,0)))∧∃ g,u.cell? ⟨sh,4,none⟩=some (.pointer (some ⟨g,0,none⟩))∧g≠go
theorem I4 {B0 fn nk:Nat} {zs:List Int} {u u':World} {sh:Nat} {fv sv pv:Value} (hs:∃ cs fr,u.heap[sh]?=some (.cells cs 115 fr)) (h:Oc u u') (k:xtV B0 fn nk zs u sh fv sv pv):xtV B0 fn nk zs u' sh fv sv pv:=by
 obtain ⟨hz,c,cs,fr,hc,hk⟩:=h
 obtain ⟨go,h0,h1,h2,h3,h4,⟨R,h5⟩,g,h6,h7⟩:=k
 obtain ⟨cs2,fr2,hs⟩:=hs
 have e:=hk go (Zo h5 hc (by decide))
 exact ⟨go,h0,h1,h2,h3,h4.sameK e hz,⟨R,e.trans h5⟩,g,(World.cell?_of_block (a:=⟨sh,4,none⟩) (hk sh (Zo hs hc (by decide)))).trans h6,h7⟩
theorem Zbq (i:Nat) (hi:i<3) (v:Value) (zs:List Int) (w:World) (hf:∀ j,j<1+17*i+10→spN j≠sxN i 10) (hv:Zf w v zs) (hb:Zd zs) (hl:zs.length=2*(16+8*i)+0) (hP:Pow w) (hrc:RC w) :
  Calls Tryz.prog 26 #[.string (sxN i 10),v] w fun e w'=>Hu w (sxN i 10) 1 (16+8*i) zs (fun u sh a b c=>(∃ cs fr,u.heap[sh]?=some (.cells cs 115 fr))∧xtV w.heap.size 179 (4+2*i) zs u sh a b c) e w':=by
 have q8:16+8*i=4*(4+2*i):=by omega
 have hpos:1<w.heap.size:=World.block_lt_of_cell? w ⟨1,0,none⟩ (hrc 0 (by decide))
 refine L9 (sxN i 10) (nmB 10) (16+8*i) 2 0 1 158 (fV 149) v zs w (fun _ fv=>fv=fV 179) _ (fun _ _ _ _ h=>h) (fun u u' sh a b c ho h=>?_) (.inr ⟨_,rfl⟩) hv (by omega) (by omega) (by omega) hl ?_ ?_ (fun args w=>Zp Tryz.func158 (by rfl) (by rfl) args w) ?_ ?_ ?_ ?_
 ·obtain ⟨⟨cs,fr,hs⟩,hx⟩:=h
  refine ⟨⟨cs,fr,?_⟩,I4 ⟨cs,fr,hs⟩ ho hx⟩
  obtain ⟨hz,c,cs2,fr2,hc,hk⟩:=ho
  exact (hk sh (Zo hs hc (by decide))).trans hs
 ·have q:=Dv (sxN i 10) (1+17*i+10) w hP (by omega) (Q5 i 10 (by omega)) hf
  rw[W5 i 10 (by omega)] at q
  exact q
 ·intro u hu
  have q:=Gq (sxN i 10) (nmB 10) (4+2*i) 2 0 1 (fV 149) (fV 158) v zs u rfl rfl (hv.below hu) hb (by omega) (by omega) (by omega) (hrc.belowB hu hpos) (Nat.lt_of_lt_of_le hpos hu.size)
  rw[←q8] at q
  exact q.mono fun e u' h=>h
 ·intro bg hbg
  obtain rfl:bg=149:=by injection hbg with e;injection e with e;exact e.symm
  exact fun args w=>Zp Tryz.func149 (by rfl) (by rfl) args w
 ·intro q;cases q
 ·intro bg hbg B sh kv mp u hu hB1 hB2 hA
  obtain rfl:bg=149:=by injection hbg with e;injection e with e;exact e.symm
  refine (Kq _ u).mono ?_
  rintro e u' ⟨rfl,hw⟩
  obtain rfl:=hw.symm
  exact ⟨_,_,_,_,rfl,hA,⟨0,[],by omega,World.ownsRow_nil _ _ _ _⟩,Fs.of_below (Below.refl _ _) hB2,rfl⟩
 ·intro fv B sh kv mp ov u _ hΦ hu hB1 hB2 hA few
  subst hΦ
  have hA2:=hA
  rw[q8] at hA2
  refine (D5 B sh (sxN i 10) 1 (4+2*i) zs kv mp ov 179 #[] #[] u hA2 hB2 few (by omega) (by omega) hb (hrc.belowB hu hpos) (Nat.lt_of_lt_of_le hpos hu.size)).mono ?_
  intro e u' hh
  obtain ⟨go,ov',rfl,hgo,hK,hR,hS,hF⟩:=hh.out
  rw[←q8] at hS
  refine ⟨_,_,_,_,_,_,ov',rfl,hS,hF,⟨_,_,hS.box⟩,go,Nat.le_trans hu.size hgo,rfl,rfl,rfl,hK,hR,?_⟩
  rcases hA.main with ⟨q,_⟩ | ⟨g,nk,hm,_,_,_,hg,_⟩
  ·omega
  ·refine ⟨g,?_,by have:=hg.ciph.here;omega⟩
   rw[←hm]
   exact hS.box.cell 4 _ rfl
def ecV (sh:Nat) (fv sv pv:Value):Prop:=fv=.nilFunc∧sv=bV 174 [.pointer (some ⟨sh,0,none⟩)]∧pv=bV 175 [.pointer (some ⟨sh,0,none⟩)]
theorem Ed (i:Nat) (hi:i<3) (v:Value) (zs:List Int) (w:World) (hf:∀ j,j<1+17*i+0→spN j≠sxN i 0) (hv:Zf w v zs) (hb:Zd zs) (hl:zs.length=1*(16+8*i)+0) (hP:Pow w) (hrc:RC w) :
  Calls Tryz.prog 26 #[.string (sxN i 0),v] w fun e w'=>Zca w (sxN i 0) 16 (16+8*i) zs ecV e w':=by
 have q8:16+8*i=4*(4+2*i):=by omega
 have hpos:1<w.heap.size:=World.block_lt_of_cell? w ⟨1,0,none⟩ (hrc 0 (by decide))
 refine Tf (sxN i 0) (nmB 0) (16+8*i) 1 0 16 146 .nilFunc v zs w (fun fv=>fv=.nilFunc) ecV (.inl rfl) hv (by omega) (by omega) (by omega) hl ?_ ?_ (fun args w=>Zp Tryz.func146 (by rfl) (by rfl) args w) ?_ ?_ ?_ ?_
 ·have q:=Dv (sxN i 0) (1+17*i+0) w hP (by omega) (Q5 i 0 (by omega)) hf
  rw[W5 i 0 (by omega)] at q
  exact q
 ·intro u hu
  have q:=Gq (sxN i 0) (nmB 0) (4+2*i) 1 0 16 .nilFunc (fV 146) v zs u rfl rfl (hv.below hu) hb (by omega) (by omega) (by omega) (hrc.belowB hu hpos) (Nat.lt_of_lt_of_le hpos hu.size)
  rw[←q8] at q
  exact q.mono fun e u' h=>h
 ·intro bg hbg;cases hbg
 ·intro _;rfl
 ·intro bg hbg;cases hbg
 ·intro fv B sh kv mp ov u _ hΦ hu hB1 hB2 hA few
  subst hΦ
  refine (Be sh .nilFunc u).mono ?_
  intro e u' hh
  obtain ⟨rfl,hb⟩:=hh.out
  exact ⟨_,_,_,_,_,_,_,rfl,hA.below hb,Fs.of_below hb hB2,rfl,rfl,rfl⟩
end Go.Proofs.YtehlppaidgkpaaaGreatDoor
