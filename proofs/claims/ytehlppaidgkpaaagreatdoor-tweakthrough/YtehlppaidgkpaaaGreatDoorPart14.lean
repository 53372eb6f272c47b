import Derived.Test.YtehlppaidgkpaaaGreatDoorPart13
import Derived.Laws.ResultCell
import Derived.Below
namespace Go.Proofs.YtehlppaidgkpaaaGreatDoor
open Go.RowKit
set_option linter.unusedVariables false
set_option maxHeartbeats 1600000 in
theorem M4 (g o:Nat) (x0 x1 x2 x3:Int) (a b c d:Nat) (w:World) (ha:a<256) (hb:b<256) (hc:c<256) (hd:d<256)
  (h0:x0/16777216%256=a) (h1:x1/65536%256=b) (h2:x2/256%256=c) (h3:x3%256=d) (hT:Tab w g o) :
  Calls Tryz.prog 90 #[.pointer (some ⟨g,o,none⟩),.int .u32 x0,.int .u32 x1,.int .u32 x2,.int .u32 x3] w fun e w'=>e=.returned (.int .u32 (wd (SB a) (SB b) (SB c) (SB d):Nat))∧∃ m,w'=w.drewN m:=by
 have c0:=hT.s a ha
 have c1:=hT.s b hb
 have c2:=hT.s c hc
 have c3:=hT.s d hd
 clear hT
 obtain ⟨sa,Ha⟩:∃ s,Hid (s=SB a):=⟨_,rfl⟩
 rw[←Ha.out] at c0
 rw[←Ha.out]
 have la:sa<256:=by rw[Ha.out];exact Xn a
 clear Ha
 obtain ⟨sb,Hb⟩:∃ s,Hid (s=SB b):=⟨_,rfl⟩
 rw[←Hb.out] at c1
 rw[←Hb.out]
 have lb:sb<256:=by rw[Hb.out];exact Xn b
 clear Hb
 obtain ⟨sc,Hc⟩:∃ s,Hid (s=SB c):=⟨_,rfl⟩
 rw[←Hc.out] at c2
 rw[←Hc.out]
 have lc:sc<256:=by rw[Hc.out];exact Xn c
 clear Hc
 obtain ⟨sd,Hd⟩:∃ s,Hid (s=SB d):=⟨_,rfl⟩
 rw[←Hd.out] at c3
 rw[←Hd.out]
 have ld:sd<256:=by rw[Hd.out];exact Xn d
 clear Hd
 go_enter Tryz.func90,Tryz.ntmps90
 go_wp2
 go_quiet ((go_at_call 123;exact Calls.quiet_of_same (Jl _ _ _ _ la lb lc ld _)))
 go_wp2
 go_ret
 exact ⟨rfl,_,rfl⟩
theorem Zbd {b m:Nat} {k:Int} {w:World} (hb:b<256) (hm:Hid (m=MX b)) (hk:k=-8):Calls Tryz.prog 78 #[.int .u32 m,.int .i64 k] w fun e w'=>e=.returned (.int .u32 (M8 b:Nat))∧w'=w:=by
 rw[hm.out,hk]
 have hS:=Xn b
 obtain ⟨l2,l3,_,_,_,_⟩:=Bp ⟨SB b,hS⟩
 exact Zbb l2 hS hS l3
theorem I1 {b:Nat} (hb:b<256):M8 b<4294967296:=by
 have hS:=Xn b
 obtain ⟨l2,l3,_,_,_,_⟩:=Bp ⟨SB b,hS⟩
 exact Vd l3 l2 hS hS
theorem Om {b m:Nat} {k:Int} {w:World} (hb:b<256) (hm:Hid (m=MX b)) (hk:k=-16):Calls Tryz.prog 78 #[.int .u32 m,.int .i64 k] w fun e w'=>e=.returned (.int .u32 (M16 b:Nat))∧w'=w:=by
 rw[hm.out,hk]
 have hS:=Xn b
 obtain ⟨l2,l3,_,_,_,_⟩:=Bp ⟨SB b,hS⟩
 exact Ok l2 hS hS l3
theorem Pb {b:Nat} (hb:b<256):M16 b<4294967296:=by
 have hS:=Xn b
 obtain ⟨l2,l3,_,_,_,_⟩:=Bp ⟨SB b,hS⟩
 exact Vd hS l3 l2 hS
theorem Ol {b m:Nat} {k:Int} {w:World} (hb:b<256) (hm:Hid (m=MX b)) (hk:k=-24):Calls Tryz.prog 78 #[.int .u32 m,.int .i64 k] w fun e w'=>e=.returned (.int .u32 (M24 b:Nat))∧w'=w:=by
 rw[hm.out,hk]
 have hS:=Xn b
 obtain ⟨l2,l3,_,_,_,_⟩:=Bp ⟨SB b,hS⟩
 exact Oj l2 hS hS l3
theorem Pa {b:Nat} (hb:b<256):M24 b<4294967296:=by
 have hS:=Xn b
 obtain ⟨l2,l3,_,_,_,_⟩:=Bp ⟨SB b,hS⟩
 exact Vd hS hS l3 l2
theorem I0 {b:Nat} (hb:b<256):MX b<4294967296:=by
 have hS:=Xn b
 obtain ⟨l2,l3,_,_,_,_⟩:=Bp ⟨SB b,hS⟩
 exact Vd l2 hS hS l3
theorem Y1 {a b:Nat} (ha:a<4294967296) (hb:b<4294967296):Nat.xor a b<4294967296:=Nat.xor_lt_two_pow (n:=32) ha hb
theorem Zcj {a b c d:Nat} (ha:a<4294967296) (hb:b<4294967296) (hc:c<4294967296) (hd:d<4294967296) :
  bits .xor .u32 (bits .xor .u32 (bits .xor .u32 (a:Int) b) c) d=(Nat.xor (Nat.xor (Nat.xor a b) c) d:Nat):=by
 rw[J1 _ _ ha hb,J1 _ _ (Y1 ha hb) hc,J1 _ _ (Y1 (Y1 ha hb) hc) hd]
set_option maxHeartbeats 1600000 in
theorem O3 (g o:Nat) (x0 x1 x2 x3:Int) (a b c d:Nat) (w:World) (ha:a<256) (hb:b<256) (hc:c<256) (hd:d<256)
  (h0:x0/16777216%256=a) (h1:x1/65536%256=b) (h2:x2/256%256=c) (h3:x3%256=d) (hT:Tab w g o) :
  Calls Tryz.prog 88 #[.pointer (some ⟨g,o,none⟩),.int .u32 x0,.int .u32 x1,.int .u32 x2,.int .u32 x3] w fun e w'=>e=.returned (.int .u32 (O2 a b c d:Nat))∧∃ m,w'=w.drewN m:=by
 have c0:=hT.m a ha
 have c1:=hT.m b hb
 have c2:=hT.m c hc
 have c3:=hT.m d hd
 clear hT
 obtain ⟨ma,Ha⟩:∃ s,Hid (s=MX a):=⟨_,rfl⟩
 rw[←Ha.out] at c0
 obtain ⟨mb,Hb⟩:∃ s,Hid (s=MX b):=⟨_,rfl⟩
 rw[←Hb.out] at c1
 obtain ⟨mc,Hc⟩:∃ s,Hid (s=MX c):=⟨_,rfl⟩
 rw[←Hc.out] at c2
 obtain ⟨md,Hd⟩:∃ s,Hid (s=MX d):=⟨_,rfl⟩
 rw[←Hd.out] at c3
 go_enter Tryz.func88,Tryz.ntmps88
 go_wp2
 go_quiet ((go_at_call 78;(first | exact Calls.quiet_of_same (Zbd hb Hb (by decide)) | exact Calls.quiet_of_same (Om hc Hc (by decide)) | exact Calls.quiet_of_same (Ol hd Hd (by decide)))))
 go_wp2
 go_ret
 refine ⟨Xt ?_,_,rfl⟩
 rw[Ha.out]
 have h:=Zcj (a:=MX a) (b:=M8 b) (c:=M16 c) (d:=M24 d) (I0 ha) (I1 hb) (Pb hc) (Pa hd)
 rw[h]
 unfold O2
 exact Eq.refl _
def Rl (a b c d:Nat):Value:=.agg #[.int .u32 (a:Nat),.int .u32 (b:Nat),.int .u32 (c:Nat),.int .u32 (d:Nat)]
theorem Zx {fn:Func} {p:Tmp} {ty:TypeId} (h:fn.results=#[.cell p ty]) (tmps:Array Value) (P:Program) (w:World) :
  (results fn tmps).run P w=((asAddr (tmps.getD p undef)).run P w).andThen fun a w₁=>(loadVar ty a).run P w₁:=by
 simp only[results,h]
 simp [Sem.run_bind,Result.andThen]
theorem Yf {P:Program} {fn:Func} {p:Tmp} {ty:TypeId} {d:TypeDesc} {Q:Ending→World→Prop} {tmps:Array Value} {w:World} {b:Nat} (cs:List Value) (h:fn.results=#[.cell p ty])
  (hp:tmps.getD p undef=.pointer (some ⟨b,0,none⟩)) (hr:w.rangeAt b 0 cs) (hu:P.underlying ty=some d) (hd:d.isRow=true) (hi:(P.info? ty).map (·.size)=some cs.length)
  (hq:Q (.returned (.agg cs.toArray)) w):bodyPost P fn Q .ret ⟨tmps,[]⟩ w:=by
 refine bodyPost_ret (v:=.agg cs.toArray) ?_ rfl hq
 rw[Zx h]
 have hl:=run_loadVar_mid (P:=P) w b 0 ty cs d hr hu hd hi
 simp [hp,asAddr,hl]
theorem J8 (w:World) (C:Array Value) (t:TypeId):((w.alloc (.cells C t)).drew).rangeAt w.heap.size 0 C.toList:=fun j v hv=>by
 show (w.alloc (.cells C t)).cell? _=_
 rw[World.cell?_alloc_at C t _ _ rfl]
 simpa using hv
theorem Xv (w:World) (A C:Array Value) (t t':TypeId):Below w.heap.size w ((w.alloc (.cells A t)).alloc (.cells C t')) ∧
  ∀ (i:Nat) (v:Value),A[i]?=some v→((w.alloc (.cells A t)).alloc (.cells C t')).cell? ⟨w.heap.size,i,none⟩=some v:=by
 refine ⟨((Below.refl _ w).alloc (Nat.le_refl _) _).alloc (by simp) _,fun i v hv=>?_⟩
 have hb:Below (w.alloc (.cells A t)).heap.size (w.alloc (.cells A t)) ((w.alloc (.cells A t)).alloc (.cells C t')):=(Below.refl _ _).alloc (Nat.le_refl _) _
 rw[hb.cell (by simp)]
 rw[World.cell?_alloc_at A t _ _ rfl]
 simpa using hv
set_option maxHeartbeats 1600000 in
set_option maxRecDepth 100000 in
theorem Zaz (g o r:Nat) (a0 a1 a2 a3 k0 k1 k2 k3:Nat) (w:World) (hr:r≤14) (hg:g<w.heap.size)
  (l0:a0<4294967296) (l1:a1<4294967296) (l2:a2<4294967296) (l3:a3<4294967296)
  (m0:k0<4294967296) (m1:k1<4294967296) (m2:k2<4294967296) (m3:k3<4294967296)
  (c0:w.cell? ⟨g,o+1+4*r,none⟩=some (.int .u32 k0)) (c1:w.cell? ⟨g,o+1+4*r+1,none⟩=some (.int .u32 k1))
  (c2:w.cell? ⟨g,o+1+4*r+2,none⟩=some (.int .u32 k2)) (c3:w.cell? ⟨g,o+1+4*r+3,none⟩=some (.int .u32 k3)) :
  Calls Tryz.prog 86 #[.pointer (some ⟨g,o,none⟩),Rl a0 a1 a2 a3,.int .i64 r] w fun e w'=>e=.returned (Rl (Nat.xor a0 k0) (Nat.xor a1 k1) (Nat.xor a2 k2) (Nat.xor a3 k3))∧Below w.heap.size w w':=by
 unfold Rl
 have L:Hid (a0<4294967296∧a1<4294967296∧a2<4294967296∧a3<4294967296∧k0<4294967296∧k1<4294967296∧k2<4294967296∧k3<4294967296):=⟨l0,l1,l2,l3,m0,m1,m2,m3⟩
 clear l0 l1 l2 l3 m0 m1 m2 m3
 have hsl:∀ w',Sem.run Tryz.prog (Instr.sliceAt 117 (.pointer (some ⟨g,o+1,none⟩)) (some (.int .i64 (4*(r:Int)))) (some (.int .i64 (4*(r:Int)+4))) none) w'=.ok (.slice (some ⟨g,o+1+4*r,none⟩) 4 (60-4*r)) w':=by
  intro w'
  have h:=run_sliceAt_array_lh (P:=Tryz.prog) w' 117 ⟨g,o+1,none⟩ (by kernel_rfl) .i64 .i64 (4*(r:Int)) (4*(r:Int)+4) (by omega) (by omega) (by rw[show Tryz.prog.arrayLen 117=60 by kernel_rfl];omega)
  rw[h,show Tryz.prog.arrayLen 117=60 by kernel_rfl,show Tryz.prog.elem 117=116 by kernel_rfl]
  have e1:(4*(r:Int)).toNat=4*r:=by omega
  have e2:(4*(r:Int)+4).toNat=4*r+4:=by omega
  have e3:(sizeOf 116).run Tryz.prog w'=.ok 1 w':=by kernel_rfl
  rw[e1,e2,e3]
  simp only[Result.andThen_ok,slicedAt]
  rw[if_neg (by omega),show 4*r+4-4*r=4 by omega,Nat.mul_one,Addr.add_mid]
 go_enter Tryz.func86,Tryz.ntmps86
 have H2:=Xv w #[.int .u32 (a0:Nat),.int .u32 (a1:Nat),.int .u32 (a2:Nat),.int .u32 (a3:Nat)] #[.int .u32 0,.int .u32 0,.int .u32 0,.int .u32 0] 177 177
 have HS:Hid ((fun u:World=>u.cell? ⟨g,o+1+4*r,none⟩=some (.int .u32 k0)∧u.cell? ⟨g,o+1+4*r+1,none⟩=some (.int .u32 k1)∧u.cell? ⟨g,o+1+4*r+2,none⟩=some (.int .u32 k2)∧u.cell? ⟨g,o+1+4*r+3,none⟩=some (.int .u32 k3) ∧
   u.cell? ⟨w.heap.size,0,none⟩=some (.int .u32 a0)∧u.cell? ⟨w.heap.size,1,none⟩=some (.int .u32 a1)∧u.cell? ⟨w.heap.size,2,none⟩=some (.int .u32 a2)∧u.cell? ⟨w.heap.size,3,none⟩=some (.int .u32 a3)) _):=
  ⟨(H2.1.cell hg).trans c0,(H2.1.cell hg).trans c1,(H2.1.cell hg).trans c2,(H2.1.cell hg).trans c3,H2.2 0 _ rfl,H2.2 1 _ rfl,H2.2 2 _ rfl,H2.2 3 _ rfl⟩
 have HB:Hid (Below w.heap.size w _):=H2.1
 clear H2
 go_wp2
 go_region_held3 (fun u:World=>u.cell? ⟨g,o+1+4*r,none⟩=some (.int .u32 k0)∧u.cell? ⟨g,o+1+4*r+1,none⟩=some (.int .u32 k1)∧u.cell? ⟨g,o+1+4*r+2,none⟩=some (.int .u32 k2)∧u.cell? ⟨g,o+1+4*r+3,none⟩=some (.int .u32 k3) ∧
   u.cell? ⟨w.heap.size,0,none⟩=some (.int .u32 a0)∧u.cell? ⟨w.heap.size,1,none⟩=some (.int .u32 a1)∧u.cell? ⟨w.heap.size,2,none⟩=some (.int .u32 a2)∧u.cell? ⟨w.heap.size,3,none⟩=some (.int .u32 a3)) (first | exact HS.out | go_keep) (fail)
 go_wp2
 obtain ⟨l0,l1,l2,l3,m0,m1,m2,m3⟩:=L.out
 rw[J1 _ _ l0 m0,J1 _ _ l1 m1,J1 _ _ l2 m2,J1 _ _ l3 m3]
 refine Yf [.int .u32 (Nat.xor a0 k0:Nat),.int .u32 (Nat.xor a1 k1:Nat),.int .u32 (Nat.xor a2 k2:Nat),.int .u32 (Nat.xor a3 k3:Nat)] Tryz.results86 rfl ?_ Tryz.underlying177 rfl (by kernel_rfl) ⟨rfl,?_⟩
 ·have h:=J8 (w.alloc (.cells #[.int .u32 (a0:Nat),.int .u32 (a1:Nat),.int .u32 (a2:Nat),.int .u32 (a3:Nat)] 177)) #[.int .u32 (Nat.xor a0 k0:Nat),.int .u32 (Nat.xor a1 k1:Nat),.int .u32 (Nat.xor a2 k2:Nat),.int .u32 (Nat.xor a3 k3:Nat)] 177
  simpa using h
 ·exact (((Below.refl _ w).alloc (Nat.le_refl _) _).alloc (by simp) _).drew
end Go.Proofs.YtehlppaidgkpaaaGreatDoor
