import Derived.Test.YtehlppaidgkpaaaGreatDoorPart30
import Derived.Test.YtehlppaidgkpaaaGreatDoorPart02
namespace Go.Proofs.YtehlppaidgkpaaaGreatDoor.Dg
open Go.RowKit
set_option linter.unusedVariables false
set_option linter.unusedSimpArgs false
theorem Yk {w:World} {B n:Nat} {v:Value} {cs:List Value} (h:w.ownsRow B 5 1 v n cs) (h0:0<n):∃ g c,v=.slice (some ⟨g,0,none⟩) n c:=by
 rcases h.2 with ⟨_,e⟩ | ⟨g,c,cur,rfl,_⟩
 ·omega
 ·exact ⟨g,c,rfl⟩
theorem one_cell (w:World) (x:Int) (t:TypeId):∀ j u,[Value.int .u8 x][j]?=some u→(w.alloc (.cells #[.int .u8 x] t)).cell? ((⟨w.heap.size,0,none⟩:Addr).add j)=some u:=by
 intro j u hj
 match j,hj with
 | 0,hj=>simp at hj;subst hj;simp [Addr.add]
theorem one_one (x:Int):∀ u∈[Value.int .u8 x],u.oneCell'=true:=by
 intro u hu;simp at hu;subst hu;rfl
def Y5 (bs n:Nat):Nat:=(bs-(n+1+bs/8)%bs)%bs
def Yc (bs n:Nat):List Int:=(List.range (bs/8)).map fun j=>if 8≤bs/8-1-j then 0 else ((n:Int)*8)/2^(8*(bs/8-1-j))%256
def Ym (bs:Nat) (zs:List Int):List Int:=zs++([128]++List.replicate (Y5 bs zs.length) 0)++Yc bs zs.length
theorem X7 (bs n:Nat):(Yc bs n).length=bs/8:=by simp [Yc]
theorem Qy (bs n j:Nat) (hj:j<bs/8):(Yc bs n)[j]?=some (if 8≤bs/8-1-j then 0 else ((n:Int)*8)/2^(8*(bs/8-1-j))%256):=by simp [Yc,hj]
theorem Xp (bs:Nat) (zs:List Int):(Ym bs zs).length=zs.length+1+Y5 bs zs.length+bs/8:=by
 simp [Ym,X7]
 omega
set_option maxHeartbeats 1600000 in
set_option maxRecDepth 100000 in
theorem Cu (x:Addr) (cap:Nat) (zs:List Int) (n:Nat) (w:World) (hz:Hid (zs.length=n)) (hn:n≤140737488351232) (h1:Hid (∀ j u,(Za zs)[j]?=some u→w.cell? (x.add j)=some u)) :
  Calls Tryz.prog 70 #[.slice (some x) n cap,.int .i64 64] w fun e w'=>∃ v,e=.returned v∧w'.ownsRow w.heap.size 5 1 v (Ym 64 zs).length (Za (Ym 64 zs))∧Below w.heap.size w w':=by
 obtain ⟨i0,hi,hz0,hz1,hz2⟩:=info_parts Tryz.info5
 go_enter Tryz.func70,Tryz.ntmps70
 go_wp2_with (first
  | (at_builtin;go_must (refine wpList_append_own _ rfl (.tmp 8) (.tmp 9) 22 rfl w.heap.size 5 i0 (.int .u8 0) 1 1 Tryz.underlying22 hi hz0 hz1 hz2 rfl (by decide) _ 0 [] rfl (World.ownsRow_nil _ _ _ _) x n cap (Za zs) rfl ?_ h1.out (X1 zs) ?_ ?_ (Nat.le_refl _) ?_)))
 ·rw[Zz,hz.out,Nat.mul_one]
 ·unfold maxLen;omega
 ·omega
 intro v1 w1 hown hgrow hnil
 have HB:Hid (Below w.heap.size w w1):=(Below.refl _ _).grown hgrow (Nat.le_refl _) (by intro k hk;cases hk)
 have hown1:w1.ownsRow w.heap.size 5 1 v1 n (Za zs):=by simpa using hown
 clear hgrow hown hnil
 go_wp2_with (first
  | (at_builtin;go_must (refine wpList_append_own _ rfl (.tmp 11) (.tmp 12) 22 rfl w.heap.size 5 i0 (.int .u8 0) 1 1 Tryz.underlying22 hi hz0 hz1 hz2 rfl (by decide) _ _ _ rfl (hown1.alloc _) ⟨w1.heap.size,0,none⟩ 1 1 [.int .u8 128] rfl rfl (one_cell _ _ _) (one_one _) (by unfold maxLen;omega) (by omega) (by have:=HB.out.size;rw[size_alloc];omega) ?_)))
 intro v2 w2 hown2 hgrow2 hnil2
 have HB2:Hid (Below w.heap.size w w2):=(HB.out.alloc HB.out.size _).grown hgrow2 (by have:=HB.out.size;rw[size_alloc];omega) (fun q hq=>(hown1.lt q hq).1)
 have ho2:w2.ownsRow w.heap.size 5 1 v2 (n+1) (Za (zs++[128])):=by
  have e:Za (zs++[128])=Za (zs)++[.int .u8 128]:=by simp [Za,List.replicate_succ']
  rw[e]
  simpa [Nat.add_assoc] using hown2
 clear hown2 hgrow2 hnil2
 obtain ⟨g2,c2,rfl⟩:=Yk ho2 (by omega)
 have HO2:Hid (w2.ownsRow w.heap.size 5 1 (.slice (some ⟨g2,0,none⟩) (n+1) c2) (n+1) (Za (zs++[128]))):=ho2
 have HK:Hid (Y5 64 n<64∧(n+1+Y5 64 n+8)%64=0):=by unfold Y5;exact ⟨by omega,by omega⟩
 obtain ⟨K,hK⟩:∃ K,Hid (K=Y5 64 n):=⟨_,rfl⟩
 rw[←hK.out] at HK
 clear ho2 hown1 HB
 go_wp2
 go_loopw [5] (fun v wr=>∃ k l g c:Nat,Hid (k≤K∧l=n+1+k)∧v=.slice (some ⟨g,0,none⟩) l c∧Hid (wr.ownsRow w.heap.size 5 1 (.slice (some ⟨g,0,none⟩) l c) l (Za (zs++([128]++List.replicate k 0))))∧Hid (Below w.heap.size w wr)) (fun v _=>n+1+K-lenOf v)
 case atStart=>exact ⟨0,n+1,g2,c2,⟨by omega,rfl⟩,rfl,HO2,HB2⟩
 case round=>
  obtain ⟨k,l,g,c,HL,rfl,HO3,HB3⟩:=hrel
  clear HO2 HB2
  have hlw:IntKind.i64.wrap ((l:Int)+8)=(l:Int)+8:=by
   have:=HL.out;have:=HK.out
   rw[IntKind.wrap_i64]
   omega
  by_cases hlt:k<K
  ·have d1:¬ ((l:Int)+8)%64=0:=by
    have:=HL.out;have:=HK.out
    omega
   have hl0:0<l:=by have:=HL.out;omega
   have hl1:l≤140737488352000:=by have:=HL.out;have:=HK.out;omega
   go_wp2_with (first
    | (at_builtin;go_must (refine wpList_append_own _ rfl (.tmp 22) (.tmp 23) 22 rfl w.heap.size 5 i0 (.int .u8 0) 1 1 Tryz.underlying22 hi hz0 hz1 hz2 rfl (by decide) _ _ _ rfl (HO3.out.alloc _) ⟨wr.heap.size,0,none⟩ 1 1 [.int .u8 0] rfl rfl (one_cell _ _ _) (one_one _) (by unfold maxLen;omega) (by omega) (by have:=HB3.out.size;rw[size_alloc];omega) ?_)))
   intro v4 w4 hown4 hgrow4 hnil4
   have HB4:Hid (Below w.heap.size w w4):=(HB3.out.alloc HB3.out.size _).grown hgrow4 (by have:=HB3.out.size;rw[size_alloc];omega) (fun q hq=>(HO3.out.lt q hq).1)
   have ho4:w4.ownsRow w.heap.size 5 1 v4 (l+1) (Za (zs++([128]++List.replicate (k+1) 0))):=by
    have e:Za (zs++([128]++List.replicate (k+1) 0))=Za (zs++([128]++List.replicate k 0))++[.int .u8 0]:=by simp [Za,List.replicate_succ']
    rw[e]
    simpa [Nat.add_assoc] using hown4
   clear hown4 hgrow4 hnil4
   obtain ⟨g4,c4,rfl⟩:=Yk ho4 (by omega)
   have HO4:Hid (w4.ownsRow w.heap.size 5 1 (.slice (some ⟨g4,0,none⟩) (l+1) c4) (l+1) (Za (zs++([128]++List.replicate (k+1) 0)))):=ho4
   clear ho4 HO3 HB3
   go_wp2
   go_roundw
   case rel=>exact ⟨k+1,l+1,g4,c4,⟨by omega,by have:=HL.out;omega⟩,rfl,HO4,HB4⟩
   case measure=>have:=HL.out;simp [lenOf];omega
  ·have d1:((l:Int)+8)%64=0:=by
    have:=HL.out;have:=HK.out
    omega
   have hkK:k=K:=by have:=HL.out;omega
   have hbits:IntKind.u64.wrap ((n:Int)*8)=(n:Int)*8:=by
    rw[IntKind.wrap_u64]
    omega
   have hl1:l≤140737488352000:=by have:=HL.out;have:=HK.out;omega
   go_wp2
   obtain rfl:=hkK
   clear d1 hlt hlw
   go_loopw [5,7] (fun v vi wr=>∃ m l2 g c:Nat,Hid (m≤8∧l2=l+(8-m))∧vi=.int .i64 ((m:Int)-1)∧v=.slice (some ⟨g,0,none⟩) l2 c∧Hid (wr.ownsRow w.heap.size 5 1 (.slice (some ⟨g,0,none⟩) l2 c) l2 (Za (zs++([128]++List.replicate k 0)++(Yc 64 n).take (8-m))))∧Hid (Below w.heap.size w wr)) (fun _ vi _=>(intOf vi+1).toNat)
   case atStart=>exact ⟨8,l,g,c,⟨by omega,by omega⟩,rfl,rfl,(by simpa using HO3.out:World.ownsRow _ _ _ _ _ _ _),HB3⟩
   case round=>
    obtain ⟨m,l2,g5,c5,HL2,rfl,rfl,HO5,HB5⟩:=hrel
    clear HO3 HB3
    rcases m with _ | i
    ·rw[show ((0:Nat):Int)-1=-1 from rfl]
     go_wp2
     go_ret
     refine ⟨_,rfl,?_,HB5.out⟩
     have hl2:l2=(Ym 64 zs).length:=by
      rw[Xp,hz.out]
      have h1:=HL2.out;have h2:=HL.out;have h3:=hK.out
      unfold Y5 at h3 ⊢
      omega
     have hc:Za (Ym 64 zs)=Za (zs++([128]++List.replicate k 0)++(Yc 64 n).take (8-0)):=by
      have h3:=hK.out
      rw[Ym,hz.out,←h3,List.take_of_length_le (by rw[X7];omega)]
     rw[←hl2,hc]
     exact HO5.out
    ·rw[show ((i+1:Nat):Int)-1=(i:Int) by omega]
     have hi8:i<8:=by have:=HL2.out;omega
     have hl0:0<l2:=by have:=HL.out;have:=HL2.out;omega
     have hl3:l2≤140737488352100:=by have:=HL2.out;omega
     have hw1:IntKind.i64.wrap (8*(i:Int))=8*(i:Int):=by rw[IntKind.wrap_i64];omega
     have hw2:IntKind.u64.wrap (8*(i:Int))=8*(i:Int):=by rw[IntKind.wrap_u64];omega
     have h8:¬ 8≤i:=by omega
     have d8:¬ (8:Int)≤(i:Int):=by omega
     go_wp2_with (first
      | (at_builtin;go_must (refine wpList_append_own _ rfl (.tmp 41) (.tmp 48) 22 rfl w.heap.size 5 i0 (.int .u8 0) 1 1 Tryz.underlying22 hi hz0 hz1 hz2 rfl (by decide) _ _ _ rfl (HO5.out.alloc _) ⟨wr.heap.size,0,none⟩ 1 1 [.int .u8 (((n:Int)*8)/2^(8*i)%256)] rfl rfl (one_cell _ _ _) (one_one _) (by unfold maxLen;omega) (by omega) (by have:=HB5.out.size;rw[size_alloc];omega) ?_)))
     intro v6 w6 hown6 hgrow6 hnil6
     have HB6:Hid (Below w.heap.size w w6):=(HB5.out.alloc HB5.out.size _).grown hgrow6 (by have:=HB5.out.size;rw[size_alloc];omega) (fun q hq=>(HO5.out.lt q hq).1)
     have ho6:w6.ownsRow w.heap.size 5 1 v6 (l2+1) (Za (zs++([128]++List.replicate k 0)++(Yc 64 n).take (8-i))):=by
      have e:Za (zs++([128]++List.replicate k 0)++(Yc 64 n).take (8-i))=Za (zs++([128]++List.replicate k 0)++(Yc 64 n).take (8-(i+1)))++[.int .u8 (((n:Int)*8)/2^(8*i)%256)]:=by rw[show 8-i=8-(i+1)+1 by omega,List.take_add_one,Qy 64 n (8-(i+1)) (by omega),show 64/8-1-(8-(i+1))=i by omega,if_neg h8];simp [Za]
      rw[e]
      simpa [Nat.add_assoc] using hown6
     clear hown6 hgrow6 hnil6
     obtain ⟨g6,c6,rfl⟩:=Yk ho6 (by omega)
     have HO6:Hid (w6.ownsRow w.heap.size 5 1 (.slice (some ⟨g6,0,none⟩) (l2+1) c6) (l2+1) (Za (zs++([128]++List.replicate k 0)++(Yc 64 n).take (8-i)))):=ho6
     clear ho6 HO5 HB5
     go_wp2
     go_roundw
     case rel=>exact ⟨i,l2+1,g6,c6,⟨by omega,by have:=HL2.out;omega⟩,rfl,rfl,HO6,HB6⟩
     case measure=>simp [intOf]
set_option maxHeartbeats 1600000 in
set_option maxRecDepth 100000 in
theorem Cv (cap:Nat) (zs:List Int) (n:Nat) (w:World) (hz:Hid (zs.length=n)) (hn:n≤140737488351232) (h0:Hid (n=0∧cap=0)) :
  Calls Tryz.prog 70 #[.slice none n cap,.int .i64 64] w fun e w'=>∃ v,e=.returned v∧w'.ownsRow w.heap.size 5 1 v (Ym 64 zs).length (Za (Ym 64 zs))∧Below w.heap.size w w':=by
 obtain ⟨i0,hi,hz0,hz1,hz2⟩:=info_parts Tryz.info5
 go_enter Tryz.func70,Tryz.ntmps70
 go_upto_region 3 with (first
  | (at_builtin;go_must (refine wpList_append_own_none rfl (.tmp 8) (.tmp 9) 22 rfl w.heap.size 5 i0 1 Tryz.underlying22 hi _ 0 [] rfl (World.ownsRow_nil _ _ _ _) (by show Value.slice none n cap=_;rw[h0.out.1,h0.out.2]) ?_)))
 have HB:Hid (Below w.heap.size w w):=Below.refl _ _
 have hown1:w.ownsRow w.heap.size 5 1 (.slice none 0 0) n (Za zs):=by
  have hz1:=hz.out
  rw[h0.out.1] at hz1 ⊢
  rw[List.eq_nil_of_length_eq_zero hz1]
  exact World.ownsRow_nil _ _ _ _
 go_wp2_with (first
  | (at_builtin;go_must (refine wpList_append_own _ rfl (.tmp 11) (.tmp 12) 22 rfl w.heap.size 5 i0 (.int .u8 0) 1 1 Tryz.underlying22 hi hz0 hz1 hz2 rfl (by decide) _ _ _ rfl (hown1.alloc _) ⟨w.heap.size,0,none⟩ 1 1 [.int .u8 128] rfl rfl (one_cell _ _ _) (one_one _) (by unfold maxLen;omega) (by omega) (by have:=HB.out.size;rw[size_alloc];omega) ?_)))
 intro v2 w2 hown2 hgrow2 hnil2
 have HB2:Hid (Below w.heap.size w w2):=(HB.out.alloc HB.out.size _).grown hgrow2 (by have:=HB.out.size;rw[size_alloc];omega) (fun q hq=>(hown1.lt q hq).1)
 have ho2:w2.ownsRow w.heap.size 5 1 v2 (n+1) (Za (zs++[128])):=by
  have e:Za (zs++[128])=Za (zs)++[.int .u8 128]:=by simp [Za,List.replicate_succ']
  rw[e]
  simpa [Nat.add_assoc] using hown2
 clear hown2 hgrow2 hnil2
 obtain ⟨g2,c2,rfl⟩:=Yk ho2 (by omega)
 have HO2:Hid (w2.ownsRow w.heap.size 5 1 (.slice (some ⟨g2,0,none⟩) (n+1) c2) (n+1) (Za (zs++[128]))):=ho2
 have HK:Hid (Y5 64 n<64∧(n+1+Y5 64 n+8)%64=0):=by unfold Y5;exact ⟨by omega,by omega⟩
 obtain ⟨K,hK⟩:∃ K,Hid (K=Y5 64 n):=⟨_,rfl⟩
 rw[←hK.out] at HK
 clear ho2 hown1 HB
 go_wp2
 go_loopw [5] (fun v wr=>∃ k l g c:Nat,Hid (k≤K∧l=n+1+k)∧v=.slice (some ⟨g,0,none⟩) l c∧Hid (wr.ownsRow w.heap.size 5 1 (.slice (some ⟨g,0,none⟩) l c) l (Za (zs++([128]++List.replicate k 0))))∧Hid (Below w.heap.size w wr)) (fun v _=>n+1+K-lenOf v)
 case atStart=>exact ⟨0,n+1,g2,c2,⟨by omega,rfl⟩,rfl,HO2,HB2⟩
 case round=>
  obtain ⟨k,l,g,c,HL,rfl,HO3,HB3⟩:=hrel
  clear HO2 HB2
  have hlw:IntKind.i64.wrap ((l:Int)+8)=(l:Int)+8:=by
   have:=HL.out;have:=HK.out
   rw[IntKind.wrap_i64]
   omega
  by_cases hlt:k<K
  ·have d1:¬ ((l:Int)+8)%64=0:=by
    have:=HL.out;have:=HK.out
    omega
   have hl0:0<l:=by have:=HL.out;omega
   have hl1:l≤140737488352000:=by have:=HL.out;have:=HK.out;omega
   go_wp2_with (first
    | (at_builtin;go_must (refine wpList_append_own _ rfl (.tmp 22) (.tmp 23) 22 rfl w.heap.size 5 i0 (.int .u8 0) 1 1 Tryz.underlying22 hi hz0 hz1 hz2 rfl (by decide) _ _ _ rfl (HO3.out.alloc _) ⟨wr.heap.size,0,none⟩ 1 1 [.int .u8 0] rfl rfl (one_cell _ _ _) (one_one _) (by unfold maxLen;omega) (by omega) (by have:=HB3.out.size;rw[size_alloc];omega) ?_)))
   intro v4 w4 hown4 hgrow4 hnil4
   have HB4:Hid (Below w.heap.size w w4):=(HB3.out.alloc HB3.out.size _).grown hgrow4 (by have:=HB3.out.size;rw[size_alloc];omega) (fun q hq=>(HO3.out.lt q hq).1)
   have ho4:w4.ownsRow w.heap.size 5 1 v4 (l+1) (Za (zs++([128]++List.replicate (k+1) 0))):=by
    have e:Za (zs++([128]++List.replicate (k+1) 0))=Za (zs++([128]++List.replicate k 0))++[.int .u8 0]:=by simp [Za,List.replicate_succ']
    rw[e]
    simpa [Nat.add_assoc] using hown4
   clear hown4 hgrow4 hnil4
   obtain ⟨g4,c4,rfl⟩:=Yk ho4 (by omega)
   have HO4:Hid (w4.ownsRow w.heap.size 5 1 (.slice (some ⟨g4,0,none⟩) (l+1) c4) (l+1) (Za (zs++([128]++List.replicate (k+1) 0)))):=ho4
   clear ho4 HO3 HB3
   go_wp2
   go_roundw
   case rel=>exact ⟨k+1,l+1,g4,c4,⟨by omega,by have:=HL.out;omega⟩,rfl,HO4,HB4⟩
   case measure=>have:=HL.out;simp [lenOf];omega
  ·have d1:((l:Int)+8)%64=0:=by
    have:=HL.out;have:=HK.out
    omega
   have hkK:k=K:=by have:=HL.out;omega
   have hbits:IntKind.u64.wrap ((n:Int)*8)=(n:Int)*8:=by
    rw[IntKind.wrap_u64]
    omega
   have hl1:l≤140737488352000:=by have:=HL.out;have:=HK.out;omega
   go_wp2
   obtain rfl:=hkK
   clear d1 hlt hlw
   go_loopw [5,7] (fun v vi wr=>∃ m l2 g c:Nat,Hid (m≤8∧l2=l+(8-m))∧vi=.int .i64 ((m:Int)-1)∧v=.slice (some ⟨g,0,none⟩) l2 c∧Hid (wr.ownsRow w.heap.size 5 1 (.slice (some ⟨g,0,none⟩) l2 c) l2 (Za (zs++([128]++List.replicate k 0)++(Yc 64 n).take (8-m))))∧Hid (Below w.heap.size w wr)) (fun _ vi _=>(intOf vi+1).toNat)
   case atStart=>exact ⟨8,l,g,c,⟨by omega,by omega⟩,rfl,rfl,(by simpa using HO3.out:World.ownsRow _ _ _ _ _ _ _),HB3⟩
   case round=>
    obtain ⟨m,l2,g5,c5,HL2,rfl,rfl,HO5,HB5⟩:=hrel
    clear HO3 HB3
    rcases m with _ | i
    ·rw[show ((0:Nat):Int)-1=-1 from rfl]
     go_wp2
     go_ret
     refine ⟨_,rfl,?_,HB5.out⟩
     have hl2:l2=(Ym 64 zs).length:=by
      rw[Xp,hz.out]
      have h1:=HL2.out;have h2:=HL.out;have h3:=hK.out
      unfold Y5 at h3 ⊢
      omega
     have hc:Za (Ym 64 zs)=Za (zs++([128]++List.replicate k 0)++(Yc 64 n).take (8-0)):=by
      have h3:=hK.out
      rw[Ym,hz.out,←h3,List.take_of_length_le (by rw[X7];omega)]
     rw[←hl2,hc]
     exact HO5.out
    ·rw[show ((i+1:Nat):Int)-1=(i:Int) by omega]
     have hi8:i<8:=by have:=HL2.out;omega
     have hl0:0<l2:=by have:=HL.out;have:=HL2.out;omega
     have hl3:l2≤140737488352100:=by have:=HL2.out;omega
     have hw1:IntKind.i64.wrap (8*(i:Int))=8*(i:Int):=by rw[IntKind.wrap_i64];omega
     have hw2:IntKind.u64.wrap (8*(i:Int))=8*(i:Int):=by rw[IntKind.wrap_u64];omega
     have h8:¬ 8≤i:=by omega
     have d8:¬ (8:Int)≤(i:Int):=by omega
     go_wp2_with (first
      | (at_builtin;go_must (refine wpList_append_own _ rfl (.tmp 41) (.tmp 48) 22 rfl w.heap.size 5 i0 (.int .u8 0) 1 1 Tryz.underlying22 hi hz0 hz1 hz2 rfl (by decide) _ _ _ rfl (HO5.out.alloc _) ⟨wr.heap.size,0,none⟩ 1 1 [.int .u8 (((n:Int)*8)/2^(8*i)%256)] rfl rfl (one_cell _ _ _) (one_one _) (by unfold maxLen;omega) (by omega) (by have:=HB5.out.size;rw[size_alloc];omega) ?_)))
     intro v6 w6 hown6 hgrow6 hnil6
     have HB6:Hid (Below w.heap.size w w6):=(HB5.out.alloc HB5.out.size _).grown hgrow6 (by have:=HB5.out.size;rw[size_alloc];omega) (fun q hq=>(HO5.out.lt q hq).1)
     have ho6:w6.ownsRow w.heap.size 5 1 v6 (l2+1) (Za (zs++([128]++List.replicate k 0)++(Yc 64 n).take (8-i))):=by
      have e:Za (zs++([128]++List.replicate k 0)++(Yc 64 n).take (8-i))=Za (zs++([128]++List.replicate k 0)++(Yc 64 n).take (8-(i+1)))++[.int .u8 (((n:Int)*8)/2^(8*i)%256)]:=by rw[show 8-i=8-(i+1)+1 by omega,List.take_add_one,Qy 64 n (8-(i+1)) (by omega),show 64/8-1-(8-(i+1))=i by omega,if_neg h8];simp [Za]
      rw[e]
      simpa [Nat.add_assoc] using hown6
     clear hown6 hgrow6 hnil6
     obtain ⟨g6,c6,rfl⟩:=Yk ho6 (by omega)
     have HO6:Hid (w6.ownsRow w.heap.size 5 1 (.slice (some ⟨g6,0,none⟩) (l2+1) c6) (l2+1) (Za (zs++([128]++List.replicate k 0)++(Yc 64 n).take (8-i)))):=ho6
     clear ho6 HO5 HB5
     go_wp2
     go_roundw
     case rel=>exact ⟨i,l2+1,g6,c6,⟨by omega,by have:=HL2.out;omega⟩,rfl,rfl,HO6,HB6⟩
     case measure=>simp [intOf]
set_option maxHeartbeats 1600000 in
set_option maxRecDepth 100000 in
theorem H7 (x:Addr) (cap:Nat) (zs:List Int) (n:Nat) (w:World) (hz:Hid (zs.length=n)) (hn:n≤140737488351232) (h1:Hid (∀ j u,(Za zs)[j]?=some u→w.cell? (x.add j)=some u)) :
  Calls Tryz.prog 70 #[.slice (some x) n cap,.int .i64 128] w fun e w'=>∃ v,e=.returned v∧w'.ownsRow w.heap.size 5 1 v (Ym 128 zs).length (Za (Ym 128 zs))∧Below w.heap.size w w':=by
 obtain ⟨i0,hi,hz0,hz1,hz2⟩:=info_parts Tryz.info5
 go_enter Tryz.func70,Tryz.ntmps70
 go_wp2_with (first
  | (at_builtin;go_must (refine wpList_append_own _ rfl (.tmp 8) (.tmp 9) 22 rfl w.heap.size 5 i0 (.int .u8 0) 1 1 Tryz.underlying22 hi hz0 hz1 hz2 rfl (by decide) _ 0 [] rfl (World.ownsRow_nil _ _ _ _) x n cap (Za zs) rfl ?_ h1.out (X1 zs) ?_ ?_ (Nat.le_refl _) ?_)))
 ·rw[Zz,hz.out,Nat.mul_one]
 ·unfold maxLen;omega
 ·omega
 intro v1 w1 hown hgrow hnil
 have HB:Hid (Below w.heap.size w w1):=(Below.refl _ _).grown hgrow (Nat.le_refl _) (by intro k hk;cases hk)
 have hown1:w1.ownsRow w.heap.size 5 1 v1 n (Za zs):=by simpa using hown
 clear hgrow hown hnil
 go_wp2_with (first
  | (at_builtin;go_must (refine wpList_append_own _ rfl (.tmp 11) (.tmp 12) 22 rfl w.heap.size 5 i0 (.int .u8 0) 1 1 Tryz.underlying22 hi hz0 hz1 hz2 rfl (by decide) _ _ _ rfl (hown1.alloc _) ⟨w1.heap.size,0,none⟩ 1 1 [.int .u8 128] rfl rfl (one_cell _ _ _) (one_one _) (by unfold maxLen;omega) (by omega) (by have:=HB.out.size;rw[size_alloc];omega) ?_)))
 intro v2 w2 hown2 hgrow2 hnil2
 have HB2:Hid (Below w.heap.size w w2):=(HB.out.alloc HB.out.size _).grown hgrow2 (by have:=HB.out.size;rw[size_alloc];omega) (fun q hq=>(hown1.lt q hq).1)
 have ho2:w2.ownsRow w.heap.size 5 1 v2 (n+1) (Za (zs++[128])):=by
  have e:Za (zs++[128])=Za (zs)++[.int .u8 128]:=by simp [Za,List.replicate_succ']
  rw[e]
  simpa [Nat.add_assoc] using hown2
 clear hown2 hgrow2 hnil2
 obtain ⟨g2,c2,rfl⟩:=Yk ho2 (by omega)
 have HO2:Hid (w2.ownsRow w.heap.size 5 1 (.slice (some ⟨g2,0,none⟩) (n+1) c2) (n+1) (Za (zs++[128]))):=ho2
 have HK:Hid (Y5 128 n<128∧(n+1+Y5 128 n+16)%128=0):=by unfold Y5;exact ⟨by omega,by omega⟩
 obtain ⟨K,hK⟩:∃ K,Hid (K=Y5 128 n):=⟨_,rfl⟩
 rw[←hK.out] at HK
 clear ho2 hown1 HB
 go_wp2
 go_loopw [5] (fun v wr=>∃ k l g c:Nat,Hid (k≤K∧l=n+1+k)∧v=.slice (some ⟨g,0,none⟩) l c∧Hid (wr.ownsRow w.heap.size 5 1 (.slice (some ⟨g,0,none⟩) l c) l (Za (zs++([128]++List.replicate k 0))))∧Hid (Below w.heap.size w wr)) (fun v _=>n+1+K-lenOf v)
 case atStart=>exact ⟨0,n+1,g2,c2,⟨by omega,rfl⟩,rfl,HO2,HB2⟩
 case round=>
  obtain ⟨k,l,g,c,HL,rfl,HO3,HB3⟩:=hrel
  clear HO2 HB2
  have hlw:IntKind.i64.wrap ((l:Int)+16)=(l:Int)+16:=by
   have:=HL.out;have:=HK.out
   rw[IntKind.wrap_i64]
   omega
  by_cases hlt:k<K
  ·have d1:¬ ((l:Int)+16)%128=0:=by
    have:=HL.out;have:=HK.out
    omega
   have hl0:0<l:=by have:=HL.out;omega
   have hl1:l≤140737488352000:=by have:=HL.out;have:=HK.out;omega
   go_wp2_with (first
    | (at_builtin;go_must (refine wpList_append_own _ rfl (.tmp 22) (.tmp 23) 22 rfl w.heap.size 5 i0 (.int .u8 0) 1 1 Tryz.underlying22 hi hz0 hz1 hz2 rfl (by decide) _ _ _ rfl (HO3.out.alloc _) ⟨wr.heap.size,0,none⟩ 1 1 [.int .u8 0] rfl rfl (one_cell _ _ _) (one_one _) (by unfold maxLen;omega) (by omega) (by have:=HB3.out.size;rw[size_alloc];omega) ?_)))
   intro v4 w4 hown4 hgrow4 hnil4
   have HB4:Hid (Below w.heap.size w w4):=(HB3.out.alloc HB3.out.size _).grown hgrow4 (by have:=HB3.out.size;rw[size_alloc];omega) (fun q hq=>(HO3.out.lt q hq).1)
   have ho4:w4.ownsRow w.heap.size 5 1 v4 (l+1) (Za (zs++([128]++List.replicate (k+1) 0))):=by
    have e:Za (zs++([128]++List.replicate (k+1) 0))=Za (zs++([128]++List.replicate k 0))++[.int .u8 0]:=by simp [Za,List.replicate_succ']
    rw[e]
    simpa [Nat.add_assoc] using hown4
   clear hown4 hgrow4 hnil4
   obtain ⟨g4,c4,rfl⟩:=Yk ho4 (by omega)
   have HO4:Hid (w4.ownsRow w.heap.size 5 1 (.slice (some ⟨g4,0,none⟩) (l+1) c4) (l+1) (Za (zs++([128]++List.replicate (k+1) 0)))):=ho4
   clear ho4 HO3 HB3
   go_wp2
   go_roundw
   case rel=>exact ⟨k+1,l+1,g4,c4,⟨by omega,by have:=HL.out;omega⟩,rfl,HO4,HB4⟩
   case measure=>have:=HL.out;simp [lenOf];omega
  ·have d1:((l:Int)+16)%128=0:=by
    have:=HL.out;have:=HK.out
    omega
   have hkK:k=K:=by have:=HL.out;omega
   have hbits:IntKind.u64.wrap ((n:Int)*8)=(n:Int)*8:=by
    rw[IntKind.wrap_u64]
    omega
   have hl1:l≤140737488352000:=by have:=HL.out;have:=HK.out;omega
   go_wp2
   obtain rfl:=hkK
   clear d1 hlt hlw
   go_loopw [5,7] (fun v vi wr=>∃ m l2 g c:Nat,Hid (m≤16∧l2=l+(16-m))∧vi=.int .i64 ((m:Int)-1)∧v=.slice (some ⟨g,0,none⟩) l2 c∧Hid (wr.ownsRow w.heap.size 5 1 (.slice (some ⟨g,0,none⟩) l2 c) l2 (Za (zs++([128]++List.replicate k 0)++(Yc 128 n).take (16-m))))∧Hid (Below w.heap.size w wr)) (fun _ vi _=>(intOf vi+1).toNat)
   case atStart=>exact ⟨16,l,g,c,⟨by omega,by omega⟩,rfl,rfl,(by simpa using HO3.out:World.ownsRow _ _ _ _ _ _ _),HB3⟩
   case round=>
    obtain ⟨m,l2,g5,c5,HL2,rfl,rfl,HO5,HB5⟩:=hrel
    clear HO3 HB3
    rcases m with _ | i
    ·rw[show ((0:Nat):Int)-1=-1 from rfl]
     go_wp2
     go_ret
     refine ⟨_,rfl,?_,HB5.out⟩
     have hl2:l2=(Ym 128 zs).length:=by
      rw[Xp,hz.out]
      have h1:=HL2.out;have h2:=HL.out;have h3:=hK.out
      unfold Y5 at h3 ⊢
      omega
     have hc:Za (Ym 128 zs)=Za (zs++([128]++List.replicate k 0)++(Yc 128 n).take (16-0)):=by
      have h3:=hK.out
      rw[Ym,hz.out,←h3,List.take_of_length_le (by rw[X7];omega)]
     rw[←hl2,hc]
     exact HO5.out
    ·rw[show ((i+1:Nat):Int)-1=(i:Int) by omega]
     have hi8:i<16:=by have:=HL2.out;omega
     have hl0:0<l2:=by have:=HL.out;have:=HL2.out;omega
     have hl3:l2≤140737488352100:=by have:=HL2.out;omega
     have hw1:IntKind.i64.wrap (8*(i:Int))=8*(i:Int):=by rw[IntKind.wrap_i64];omega
     have hw2:IntKind.u64.wrap (8*(i:Int))=8*(i:Int):=by rw[IntKind.wrap_u64];omega
     by_cases h8:8≤i
     ·have d8:(8:Int)≤(i:Int):=by omega
      go_wp2_with (first
       | (at_builtin;go_must (refine wpList_append_own _ rfl (.tmp 38) (.tmp 39) 22 rfl w.heap.size 5 i0 (.int .u8 0) 1 1 Tryz.underlying22 hi hz0 hz1 hz2 rfl (by decide) _ _ _ rfl (HO5.out.alloc _) ⟨wr.heap.size,0,none⟩ 1 1 [.int .u8 0] rfl rfl (one_cell _ _ _) (one_one _) (by unfold maxLen;omega) (by omega) (by have:=HB5.out.size;rw[size_alloc];omega) ?_)))
      intro v6 w6 hown6 hgrow6 hnil6
      have HB6:Hid (Below w.heap.size w w6):=(HB5.out.alloc HB5.out.size _).grown hgrow6 (by have:=HB5.out.size;rw[size_alloc];omega) (fun q hq=>(HO5.out.lt q hq).1)
      have ho6:w6.ownsRow w.heap.size 5 1 v6 (l2+1) (Za (zs++([128]++List.replicate k 0)++(Yc 128 n).take (16-i))):=by
       have e:Za (zs++([128]++List.replicate k 0)++(Yc 128 n).take (16-i))=Za (zs++([128]++List.replicate k 0)++(Yc 128 n).take (16-(i+1)))++[.int .u8 0]:=by rw[show 16-i=16-(i+1)+1 by omega,List.take_add_one,Qy 128 n (16-(i+1)) (by omega),show 128/8-1-(16-(i+1))=i by omega,if_pos h8];simp [Za]
       rw[e]
       simpa [Nat.add_assoc] using hown6
      clear hown6 hgrow6 hnil6
      obtain ⟨g6,c6,rfl⟩:=Yk ho6 (by omega)
      have HO6:Hid (w6.ownsRow w.heap.size 5 1 (.slice (some ⟨g6,0,none⟩) (l2+1) c6) (l2+1) (Za (zs++([128]++List.replicate k 0)++(Yc 128 n).take (16-i)))):=ho6
      clear ho6 HO5 HB5
      go_wp2
      go_roundw
      case rel=>exact ⟨i,l2+1,g6,c6,⟨by omega,by have:=HL2.out;omega⟩,rfl,rfl,HO6,HB6⟩
      case measure=>simp [intOf]
     ·have d8:¬ (8:Int)≤(i:Int):=by omega
      go_wp2_with (first
       | (at_builtin;go_must (refine wpList_append_own _ rfl (.tmp 41) (.tmp 48) 22 rfl w.heap.size 5 i0 (.int .u8 0) 1 1 Tryz.underlying22 hi hz0 hz1 hz2 rfl (by decide) _ _ _ rfl (HO5.out.alloc _) ⟨wr.heap.size,0,none⟩ 1 1 [.int .u8 (((n:Int)*8)/2^(8*i)%256)] rfl rfl (one_cell _ _ _) (one_one _) (by unfold maxLen;omega) (by omega) (by have:=HB5.out.size;rw[size_alloc];omega) ?_)))
      intro v6 w6 hown6 hgrow6 hnil6
      have HB6:Hid (Below w.heap.size w w6):=(HB5.out.alloc HB5.out.size _).grown hgrow6 (by have:=HB5.out.size;rw[size_alloc];omega) (fun q hq=>(HO5.out.lt q hq).1)
      have ho6:w6.ownsRow w.heap.size 5 1 v6 (l2+1) (Za (zs++([128]++List.replicate k 0)++(Yc 128 n).take (16-i))):=by
       have e:Za (zs++([128]++List.replicate k 0)++(Yc 128 n).take (16-i))=Za (zs++([128]++List.replicate k 0)++(Yc 128 n).take (16-(i+1)))++[.int .u8 (((n:Int)*8)/2^(8*i)%256)]:=by rw[show 16-i=16-(i+1)+1 by omega,List.take_add_one,Qy 128 n (16-(i+1)) (by omega),show 128/8-1-(16-(i+1))=i by omega,if_neg h8];simp [Za]
       rw[e]
       simpa [Nat.add_assoc] using hown6
      clear hown6 hgrow6 hnil6
      obtain ⟨g6,c6,rfl⟩:=Yk ho6 (by omega)
      have HO6:Hid (w6.ownsRow w.heap.size 5 1 (.slice (some ⟨g6,0,none⟩) (l2+1) c6) (l2+1) (Za (zs++([128]++List.replicate k 0)++(Yc 128 n).take (16-i)))):=ho6
      clear ho6 HO5 HB5
      go_wp2
      go_roundw
      case rel=>exact ⟨i,l2+1,g6,c6,⟨by omega,by have:=HL2.out;omega⟩,rfl,rfl,HO6,HB6⟩
      case measure=>simp [intOf]
set_option maxHeartbeats 1600000 in
set_option maxRecDepth 100000 in
theorem Da (cap:Nat) (zs:List Int) (n:Nat) (w:World) (hz:Hid (zs.length=n)) (hn:n≤140737488351232) (h0:Hid (n=0∧cap=0)) :
  Calls Tryz.prog 70 #[.slice none n cap,.int .i64 128] w fun e w'=>∃ v,e=.returned v∧w'.ownsRow w.heap.size 5 1 v (Ym 128 zs).length (Za (Ym 128 zs))∧Below w.heap.size w w':=by
 obtain ⟨i0,hi,hz0,hz1,hz2⟩:=info_parts Tryz.info5
 go_enter Tryz.func70,Tryz.ntmps70
 go_upto_region 3 with (first
  | (at_builtin;go_must (refine wpList_append_own_none rfl (.tmp 8) (.tmp 9) 22 rfl w.heap.size 5 i0 1 Tryz.underlying22 hi _ 0 [] rfl (World.ownsRow_nil _ _ _ _) (by show Value.slice none n cap=_;rw[h0.out.1,h0.out.2]) ?_)))
 have HB:Hid (Below w.heap.size w w):=Below.refl _ _
 have hown1:w.ownsRow w.heap.size 5 1 (.slice none 0 0) n (Za zs):=by
  have hz1:=hz.out
  rw[h0.out.1] at hz1 ⊢
  rw[List.eq_nil_of_length_eq_zero hz1]
  exact World.ownsRow_nil _ _ _ _
 go_wp2_with (first
  | (at_builtin;go_must (refine wpList_append_own _ rfl (.tmp 11) (.tmp 12) 22 rfl w.heap.size 5 i0 (.int .u8 0) 1 1 Tryz.underlying22 hi hz0 hz1 hz2 rfl (by decide) _ _ _ rfl (hown1.alloc _) ⟨w.heap.size,0,none⟩ 1 1 [.int .u8 128] rfl rfl (one_cell _ _ _) (one_one _) (by unfold maxLen;omega) (by omega) (by have:=HB.out.size;rw[size_alloc];omega) ?_)))
 intro v2 w2 hown2 hgrow2 hnil2
 have HB2:Hid (Below w.heap.size w w2):=(HB.out.alloc HB.out.size _).grown hgrow2 (by have:=HB.out.size;rw[size_alloc];omega) (fun q hq=>(hown1.lt q hq).1)
 have ho2:w2.ownsRow w.heap.size 5 1 v2 (n+1) (Za (zs++[128])):=by
  have e:Za (zs++[128])=Za (zs)++[.int .u8 128]:=by simp [Za,List.replicate_succ']
  rw[e]
  simpa [Nat.add_assoc] using hown2
 clear hown2 hgrow2 hnil2
 obtain ⟨g2,c2,rfl⟩:=Yk ho2 (by omega)
 have HO2:Hid (w2.ownsRow w.heap.size 5 1 (.slice (some ⟨g2,0,none⟩) (n+1) c2) (n+1) (Za (zs++[128]))):=ho2
 have HK:Hid (Y5 128 n<128∧(n+1+Y5 128 n+16)%128=0):=by unfold Y5;exact ⟨by omega,by omega⟩
 obtain ⟨K,hK⟩:∃ K,Hid (K=Y5 128 n):=⟨_,rfl⟩
 rw[←hK.out] at HK
 clear ho2 hown1 HB
 go_wp2
 go_loopw [5] (fun v wr=>∃ k l g c:Nat,Hid (k≤K∧l=n+1+k)∧v=.slice (some ⟨g,0,none⟩) l c∧Hid (wr.ownsRow w.heap.size 5 1 (.slice (some ⟨g,0,none⟩) l c) l (Za (zs++([128]++List.replicate k 0))))∧Hid (Below w.heap.size w wr)) (fun v _=>n+1+K-lenOf v)
 case atStart=>exact ⟨0,n+1,g2,c2,⟨by omega,rfl⟩,rfl,HO2,HB2⟩
 case round=>
  obtain ⟨k,l,g,c,HL,rfl,HO3,HB3⟩:=hrel
  clear HO2 HB2
  have hlw:IntKind.i64.wrap ((l:Int)+16)=(l:Int)+16:=by
   have:=HL.out;have:=HK.out
   rw[IntKind.wrap_i64]
   omega
  by_cases hlt:k<K
  ·have d1:¬ ((l:Int)+16)%128=0:=by
    have:=HL.out;have:=HK.out
    omega
   have hl0:0<l:=by have:=HL.out;omega
   have hl1:l≤140737488352000:=by have:=HL.out;have:=HK.out;omega
   go_wp2_with (first
    | (at_builtin;go_must (refine wpList_append_own _ rfl (.tmp 22) (.tmp 23) 22 rfl w.heap.size 5 i0 (.int .u8 0) 1 1 Tryz.underlying22 hi hz0 hz1 hz2 rfl (by decide) _ _ _ rfl (HO3.out.alloc _) ⟨wr.heap.size,0,none⟩ 1 1 [.int .u8 0] rfl rfl (one_cell _ _ _) (one_one _) (by unfold maxLen;omega) (by omega) (by have:=HB3.out.size;rw[size_alloc];omega) ?_)))
   intro v4 w4 hown4 hgrow4 hnil4
   have HB4:Hid (Below w.heap.size w w4):=(HB3.out.alloc HB3.out.size _).grown hgrow4 (by have:=HB3.out.size;rw[size_alloc];omega) (fun q hq=>(HO3.out.lt q hq).1)
   have ho4:w4.ownsRow w.heap.size 5 1 v4 (l+1) (Za (zs++([128]++List.replicate (k+1) 0))):=by
    have e:Za (zs++([128]++List.replicate (k+1) 0))=Za (zs++([128]++List.replicate k 0))++[.int .u8 0]:=by simp [Za,List.replicate_succ']
    rw[e]
    simpa [Nat.add_assoc] using hown4
   clear hown4 hgrow4 hnil4
   obtain ⟨g4,c4,rfl⟩:=Yk ho4 (by omega)
   have HO4:Hid (w4.ownsRow w.heap.size 5 1 (.slice (some ⟨g4,0,none⟩) (l+1) c4) (l+1) (Za (zs++([128]++List.replicate (k+1) 0)))):=ho4
   clear ho4 HO3 HB3
   go_wp2
   go_roundw
   case rel=>exact ⟨k+1,l+1,g4,c4,⟨by omega,by have:=HL.out;omega⟩,rfl,HO4,HB4⟩
   case measure=>have:=HL.out;simp [lenOf];omega
  ·have d1:((l:Int)+16)%128=0:=by
    have:=HL.out;have:=HK.out
    omega
   have hkK:k=K:=by have:=HL.out;omega
   have hbits:IntKind.u64.wrap ((n:Int)*8)=(n:Int)*8:=by
    rw[IntKind.wrap_u64]
    omega
   have hl1:l≤140737488352000:=by have:=HL.out;have:=HK.out;omega
   go_wp2
   obtain rfl:=hkK
   clear d1 hlt hlw
   go_loopw [5,7] (fun v vi wr=>∃ m l2 g c:Nat,Hid (m≤16∧l2=l+(16-m))∧vi=.int .i64 ((m:Int)-1)∧v=.slice (some ⟨g,0,none⟩) l2 c∧Hid (wr.ownsRow w.heap.size 5 1 (.slice (some ⟨g,0,none⟩) l2 c) l2 (Za (zs++([128]++List.replicate k 0)++(Yc 128 n).take (16-m))))∧Hid (Below w.heap.size w wr)) (fun _ vi _=>(intOf vi+1).toNat)
   case atStart=>exact ⟨16,l,g,c,⟨by omega,by omega⟩,rfl,rfl,(by simpa using HO3.out:World.ownsRow _ _ _ _ _ _ _),HB3⟩
   case round=>
    obtain ⟨m,l2,g5,c5,HL2,rfl,rfl,HO5,HB5⟩:=hrel
    clear HO3 HB3
    rcases m with _ | i
    ·rw[show ((0:Nat):Int)-1=-1 from rfl]
     go_wp2
     go_ret
     refine ⟨_,rfl,?_,HB5.out⟩
     have hl2:l2=(Ym 128 zs).length:=by
      rw[Xp,hz.out]
      have h1:=HL2.out;have h2:=HL.out;have h3:=hK.out
      unfold Y5 at h3 ⊢
      omega
     have hc:Za (Ym 128 zs)=Za (zs++([128]++List.replicate k 0)++(Yc 128 n).take (16-0)):=by
      have h3:=hK.out
      rw[Ym,hz.out,←h3,List.take_of_length_le (by rw[X7];omega)]
     rw[←hl2,hc]
     exact HO5.out
    ·rw[show ((i+1:Nat):Int)-1=(i:Int) by omega]
     have hi8:i<16:=by have:=HL2.out;omega
     have hl0:0<l2:=by have:=HL.out;have:=HL2.out;omega
     have hl3:l2≤140737488352100:=by have:=HL2.out;omega
     have hw1:IntKind.i64.wrap (8*(i:Int))=8*(i:Int):=by rw[IntKind.wrap_i64];omega
     have hw2:IntKind.u64.wrap (8*(i:Int))=8*(i:Int):=by rw[IntKind.wrap_u64];omega
     by_cases h8:8≤i
     ·have d8:(8:Int)≤(i:Int):=by omega
      go_wp2_with (first
       | (at_builtin;go_must (refine wpList_append_own _ rfl (.tmp 38) (.tmp 39) 22 rfl w.heap.size 5 i0 (.int .u8 0) 1 1 Tryz.underlying22 hi hz0 hz1 hz2 rfl (by decide) _ _ _ rfl (HO5.out.alloc _) ⟨wr.heap.size,0,none⟩ 1 1 [.int .u8 0] rfl rfl (one_cell _ _ _) (one_one _) (by unfold maxLen;omega) (by omega) (by have:=HB5.out.size;rw[size_alloc];omega) ?_)))
      intro v6 w6 hown6 hgrow6 hnil6
      have HB6:Hid (Below w.heap.size w w6):=(HB5.out.alloc HB5.out.size _).grown hgrow6 (by have:=HB5.out.size;rw[size_alloc];omega) (fun q hq=>(HO5.out.lt q hq).1)
      have ho6:w6.ownsRow w.heap.size 5 1 v6 (l2+1) (Za (zs++([128]++List.replicate k 0)++(Yc 128 n).take (16-i))):=by
       have e:Za (zs++([128]++List.replicate k 0)++(Yc 128 n).take (16-i))=Za (zs++([128]++List.replicate k 0)++(Yc 128 n).take (16-(i+1)))++[.int .u8 0]:=by rw[show 16-i=16-(i+1)+1 by omega,List.take_add_one,Qy 128 n (16-(i+1)) (by omega),show 128/8-1-(16-(i+1))=i by omega,if_pos h8];simp [Za]
       rw[e]
       simpa [Nat.add_assoc] using hown6
      clear hown6 hgrow6 hnil6
      obtain ⟨g6,c6,rfl⟩:=Yk ho6 (by omega)
      have HO6:Hid (w6.ownsRow w.heap.size 5 1 (.slice (some ⟨g6,0,none⟩) (l2+1) c6) (l2+1) (Za (zs++([128]++List.replicate k 0)++(Yc 128 n).take (16-i)))):=ho6
      clear ho6 HO5 HB5
      go_wp2
      go_roundw
      case rel=>exact ⟨i,l2+1,g6,c6,⟨by omega,by have:=HL2.out;omega⟩,rfl,rfl,HO6,HB6⟩
      case measure=>simp [intOf]
     ·have d8:¬ (8:Int)≤(i:Int):=by omega
      go_wp2_with (first
       | (at_builtin;go_must (refine wpList_append_own _ rfl (.tmp 41) (.tmp 48) 22 rfl w.heap.size 5 i0 (.int .u8 0) 1 1 Tryz.underlying22 hi hz0 hz1 hz2 rfl (by decide) _ _ _ rfl (HO5.out.alloc _) ⟨wr.heap.size,0,none⟩ 1 1 [.int .u8 (((n:Int)*8)/2^(8*i)%256)] rfl rfl (one_cell _ _ _) (one_one _) (by unfold maxLen;omega) (by omega) (by have:=HB5.out.size;rw[size_alloc];omega) ?_)))
      intro v6 w6 hown6 hgrow6 hnil6
      have HB6:Hid (Below w.heap.size w w6):=(HB5.out.alloc HB5.out.size _).grown hgrow6 (by have:=HB5.out.size;rw[size_alloc];omega) (fun q hq=>(HO5.out.lt q hq).1)
      have ho6:w6.ownsRow w.heap.size 5 1 v6 (l2+1) (Za (zs++([128]++List.replicate k 0)++(Yc 128 n).take (16-i))):=by
       have e:Za (zs++([128]++List.replicate k 0)++(Yc 128 n).take (16-i))=Za (zs++([128]++List.replicate k 0)++(Yc 128 n).take (16-(i+1)))++[.int .u8 (((n:Int)*8)/2^(8*i)%256)]:=by rw[show 16-i=16-(i+1)+1 by omega,List.take_add_one,Qy 128 n (16-(i+1)) (by omega),show 128/8-1-(16-(i+1))=i by omega,if_neg h8];simp [Za]
       rw[e]
       simpa [Nat.add_assoc] using hown6
      clear hown6 hgrow6 hnil6
      obtain ⟨g6,c6,rfl⟩:=Yk ho6 (by omega)
      have HO6:Hid (w6.ownsRow w.heap.size 5 1 (.slice (some ⟨g6,0,none⟩) (l2+1) c6) (l2+1) (Za (zs++([128]++List.replicate k 0)++(Yc 128 n).take (16-i)))):=ho6
      clear ho6 HO5 HB5
      go_wp2
      go_roundw
      case rel=>exact ⟨i,l2+1,g6,c6,⟨by omega,by have:=HL2.out;omega⟩,rfl,rfl,HO6,HB6⟩
      case measure=>simp [intOf]
theorem S9 (wd:Bool) (v:Value) (zs:List Int) (w:World) (hv:Zi w v zs) (hn:zs.length≤140737488351232) :
  Calls Tryz.prog 70 #[v,.int .i64 (bsz wd)] w fun e w'=>∃ v',e=.returned v'∧w'.ownsRow w.heap.size 5 1 v' (Ym (bsz wd) zs).length (Za (Ym (bsz wd) zs))∧Below w.heap.size w w':=by
 obtain ⟨a,cap,rfl,h1,h2,h3,h4⟩:=hv
 rcases a with _ | x
 ·obtain rfl:=h3 rfl
  have hz:zs=[]:=by
   rcases h4 with h | ⟨b,p,h,_⟩
   ·exact h
   ·cases h
  cases wd
  ·exact Cv 0 zs zs.length w rfl hn ⟨by rw[hz];rfl,rfl⟩
  ·exact Da 0 zs zs.length w rfl hn ⟨by rw[hz];rfl,rfl⟩
 ·have hc:∀ j u,(Za zs)[j]?=some u→w.cell? (x.add j)=some u:=by
   rcases h4 with rfl | ⟨b,p,h,hc⟩
   ·intro j u hu
    simp [Za] at hu
   ·injection h with h
    subst h
    exact Qw zs w b p hc
  cases wd
  ·exact Cu x cap zs zs.length w rfl hn hc
  ·exact H7 x cap zs zs.length w rfl hn hc
end Go.Proofs.YtehlppaidgkpaaaGreatDoor.Dg
