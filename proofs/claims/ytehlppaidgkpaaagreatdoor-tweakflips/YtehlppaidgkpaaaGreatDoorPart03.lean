import Derived.Test.YtehlppaidgkpaaaGreatDoorPart02
import Derived.Ground.NamesProg
import Derived.Shelf.Lay
import Derived.Shelf.Strconv.Itoa3
import Derived.WalkSmall
import Derived.Deep.AppendLies
import Derived.Lib.LaidTab
import Derived.Test.YtehlppaidgkpaaaGreatDoorProg
import Derived.Test.YtehlppaidgkpaaaGreatDoorPart00
import Derived.Lib.SliceRun
namespace Go.Proofs.YtehlppaidgkpaaaGreatDoor
open Go.RowKit
theorem Zf.kept {w w':World} {v:Value} {zs:List Int} (h:Zf w v zs) (hb:∀ k,k<w.heap.size→w'.heap[k]?=w.heap[k]?):Zf w' v zs:=by
 obtain ⟨a,c,rfl,h1,h2,h3,h4⟩:=h
 refine ⟨a,c,rfl,h1,h2,h3,?_⟩
 rcases h4 with h4 | ⟨b,off,rfl,hc⟩
 ·exact .inl h4
 ·refine .inr ⟨b,off,rfl,fun i hi=>?_⟩
  have:=hc i hi
  have hlt:=World.block_lt_of_cell? w _ this
  rw[World.cell?_of_block (w:=w) (hb b hlt)]
  exact this
def X4 (B:Nat) (w:World) (v:Value) (zs:List Int):Prop:=
 ∃ g c,v=.slice (some ⟨g,0,none⟩) zs.length c∧w.ownsRow B 5 1 (.slice (some ⟨g,0,none⟩) (zs.length+70) c) (zs.length+70) (Za (zs++marks 70))
theorem X4.kept {B:Nat} {w w':World} {v:Value} {zs:List Int} (h:X4 B w v zs) (hb:∀ k,k<w.heap.size→w'.heap[k]?=w.heap[k]?):X4 B w' v zs:=by
 obtain ⟨g,c,rfl,hl,h⟩:=h
 refine ⟨g,c,rfl,hl,?_⟩
 rcases h with ⟨h,_⟩ | ⟨g',c',cur,he,h1,h2,r⟩
 ·cases h
 ·refine .inr ⟨g',c',cur,he,h1,?_,r⟩
  rw[hb g' (Array.getElem?_eq_some_iff.1 h2).1]
  exact h2
theorem X4.cells {B:Nat} {w:World} {v:Value} {zs:List Int} (h:X4 B w v zs) :
  ∃ g c,v=.slice (some ⟨g,0,none⟩) zs.length c∧zs.length+70≤c∧c≤maxLen∧(∀ i,i<zs.length→w.cell? ⟨g,i,none⟩=some (.int .u8 (zs.getD i 0)))∧(∀ i,i<70→w.cell? ⟨g,zs.length+i,none⟩=some (.int .u8 (181+(i:Int)))):=by
 obtain ⟨g,c,rfl,ho⟩:=h
 have hc:=ho.cells (g:=g) rfl
 refine ⟨g,c,rfl,?_,?_,fun i hi=>?_,fun i hi=>?_⟩
 ·rcases ho.2 with ⟨h,_⟩ | ⟨g',c',cur,he,_,_,h1,_⟩
  ·cases h
  ·cases he;exact h1
 ·rcases ho.2 with ⟨h,_⟩ | ⟨g',c',cur,he,_,_,_,h1,_⟩
  ·cases h
  ·cases he;exact h1
 ·have:=hc i (.int .u8 (zs.getD i 0)) (by
   simp only[Za,List.getElem?_map]
   rw[List.getElem?_append_left hi]
   simp [List.getElem?_eq_getElem hi,List.getD])
  rw[Addr.add_lit] at this
  simpa using this
 ·have:=hc (zs.length+i) (.int .u8 (181+(i:Int))) (by
   simp only[Za,List.getElem?_map]
   rw[List.getElem?_append_right (by omega)]
   simp [marks,hi])
  rw[Addr.add_lit] at this
  simpa using this
theorem X4.view {B:Nat} {w:World} {v:Value} {zs:List Int} (h:X4 B w v zs):Zf w v zs:=by
 obtain ⟨g,c,rfl,h1,h2,h3,_⟩:=h.cells
 refine ⟨_,c,rfl,by omega,h2,?_,Or.inr ⟨g,0,rfl,fun i hi=>by simpa using h3 i hi⟩⟩
 intro h
 cases h
theorem C5 (v : Value) (zs : List Int) (w : World) (hn : zs.length + 70 ≤ 140737488355328) (h : Zf w v zs) :
    Calls Tryz.prog 12 #[v] w fun e w' => ∃ v', e = .returned v' ∧ X4 w.heap.size w' v' zs ∧ Below w.heap.size w w' := by
  obtain ⟨a, c, rfl, h1, h2, h3, h4⟩ := h
  cases a with
  | none =>
    obtain rfl := h3 rfl
    have hz : zs = [] := List.eq_nil_of_length_eq_zero (by omega)
    subst hz
    refine (Uu w).mono ?_
    rintro e w' ⟨g, c, rfl, ho, hb⟩
    exact ⟨_, rfl, ⟨g, c, rfl, by simpa using ho⟩, hb⟩
  | some x =>
    have hc : ∀ j u, (Za zs)[j]? = some u → w.cell? (x.add j) = some u := by
      rcases h4 with rfl | ⟨b, off, he, hcell⟩
      · intro j u hu
        simp [Za] at hu
      · cases he
        exact Q2 zs w b off hcell
    refine (Rm x zs.length c zs w rfl hn hc).mono ?_
    rintro e w' ⟨g, c, rfl, ho, hb⟩
    exact ⟨_, rfl, ⟨g, c, rfl, ho⟩, hb⟩
set_option maxHeartbeats 400000 in
theorem Bq (g c n:Nat) (v2:Value) (zs:List Int) (w:World) (hc:n+70≤c) (hm:c≤9223372036854775807)
  (h1:Hid (Zf w (.slice (some ⟨g,0,none⟩) n c) zs)) (h2:Hid (Zf w v2 zs))
  (h3:∀ i,i<70→w.cell? ⟨g,n+i,none⟩=some (.int .u8 (181+(i:Int)))) :
  Calls Tryz.prog 29 #[.slice (some ⟨g,0,none⟩) n c,v2] w fun e w'=>e=.returned (.bool true)∧∃ m,w'=w.drewN m:=by
 go_enter Tryz.func29,Tryz.ntmps29
 go_wp2_with fail
 refine (S4 _ _ zs zs _ h1.out h2.out).mono ?_
 rintro e w' ⟨rfl,m,rfl⟩
 simp only[decide_true]
 go_wp2
 go_loop [7] (fun i=>∃ k:Nat,k≤70∧i=.int .i64 k) (fun i=>70-(intOf i).toNat)
 case atStart=>exact ⟨0,by omega,rfl⟩
 case round=>
  obtain ⟨k,hk,rfl⟩:=hrel
  by_cases hlt:k<70
  ·have g3:=h3 k hlt
   clear h3
   go_wp2
   go_round
   case rel=>exact ⟨k+1,by omega,by go_num⟩
   case measure=>simp [intOf];omega
  ·go_wp2
   go_ret
   exact ⟨rfl,m,rfl⟩
theorem Ln (v1 v2:Value) (zs:List Int) (B:Nat) (w:World) (h1:X4 B w v1 zs) (h2:Zf w v2 zs) :
  Calls Tryz.prog 29 #[v1,v2] w fun e w'=>e=.returned (.bool true)∧∃ m,w'=w.drewN m:=by
 have hv:=h1.view
 obtain ⟨g,c,rfl,hc,hm,_,h4⟩:=h1.cells
 exact Bq g c zs.length v2 zs w hc (by unfold maxLen at hm;omega) hv h2 h4
end Go.Proofs.YtehlppaidgkpaaaGreatDoor
namespace Go.Proofs
open Go.RowKit Go.Shelf Go.Lib
shelf_lay LaysM.n171 Nm 171 at Tryz as Tryz.laysItoa
end Go.Proofs
namespace Go.Proofs.YtehlppaidgkpaaaGreatDoor
open Go.RowKit
set_option linter.unusedVariables false
def Pow (w:World):Prop:=Lib.TabIs Tryz.prog w "internal/strconv.uint64pow10" .u64 Lib.pow10Tab
theorem Pow.below {w v : World} (h : Pow w) (b : Below w.heap.size w v) : Pow v := by
  unfold Pow Lib.TabIs at h ⊢
  cases hgn : Tryz.prog.globalNamed "internal/strconv.uint64pow10" with
  | none => simp [World.var?, hgn] at h
  | some g =>
    refine var?_below b hgn ?_ h
    rcases Nat.lt_or_ge g w.heap.size with hlt | hge
    · exact hlt
    · simp [World.var?, hgn, Array.getElem?_eq_none hge] at h
theorem If (n:Nat) (hn:n≤1000) (w:World) (hT:Pow w) :
  Calls Tryz.prog 111 #[.int .i64 (n:Nat)] w fun e w'=>Hid (e=.returned (.string ⟨(Lib.itoa (n:Nat)).toArray⟩)∧Below w.heap.size w w'):=by
 refine (Any.strconv_Itoa Tryz.laysItoa (n:Nat) (by omega) (by omega) w hT).mono ?_
 rintro e w' ⟨rfl,k,os,rfl⟩
 exact ⟨rfl,rfl,rfl,rfl,by simp [Sort.grow],fun i hi=>Sort.heap_grow_old (w.drewN k) os hi⟩
def nmB (k:Nat):ByteArray:=match Xc.getD k [] with
 | .string s::_=>s
 | _=>⟨#[]⟩
theorem Gf (k:Nat) (hk:k<17):∃ (a b c:Int) (f:Value) (g:Nat),Xc.getD k []=[.string (nmB k),.int .i64 a,.int .i64 b,.int .i64 c,f,.func (.func g) #[] #[]]∧(f=.nilFunc∨∃ m,f=.func (.func m) #[] #[]):=by
 match k,hk with
 | 0,_=>exact ⟨_,_,_,_,_,rfl,.inl rfl⟩
 | 1,_=>exact ⟨_,_,_,_,_,rfl,.inr ⟨_,rfl⟩⟩
 | 2,_=>exact ⟨_,_,_,_,_,rfl,.inr ⟨_,rfl⟩⟩
 | 3,_=>exact ⟨_,_,_,_,_,rfl,.inr ⟨_,rfl⟩⟩
 | 4,_=>exact ⟨_,_,_,_,_,rfl,.inr ⟨_,rfl⟩⟩
 | 5,_=>exact ⟨_,_,_,_,_,rfl,.inr ⟨_,rfl⟩⟩
 | 6,_=>exact ⟨_,_,_,_,_,rfl,.inr ⟨_,rfl⟩⟩
 | 7,_=>exact ⟨_,_,_,_,_,rfl,.inr ⟨_,rfl⟩⟩
 | 8,_=>exact ⟨_,_,_,_,_,rfl,.inr ⟨_,rfl⟩⟩
 | 9,_=>exact ⟨_,_,_,_,_,rfl,.inr ⟨_,rfl⟩⟩
 | 10,_=>exact ⟨_,_,_,_,_,rfl,.inr ⟨_,rfl⟩⟩
 | 11,_=>exact ⟨_,_,_,_,_,rfl,.inr ⟨_,rfl⟩⟩
 | 12,_=>exact ⟨_,_,_,_,_,rfl,.inr ⟨_,rfl⟩⟩
 | 13,_=>exact ⟨_,_,_,_,_,rfl,.inr ⟨_,rfl⟩⟩
 | 14,_=>exact ⟨_,_,_,_,_,rfl,.inr ⟨_,rfl⟩⟩
 | 15,_=>exact ⟨_,_,_,_,_,rfl,.inr ⟨_,rfl⟩⟩
 | 16,_=>exact ⟨_,_,_,_,_,rfl,.inr ⟨_,rfl⟩⟩
 | n+17,h=>exact absurd h (by omega)
def fl (f:Nat→List Value):Nat→List Value
 | 0=>[]
 | n+1=>fl f n++f n
theorem Nu (f:Nat→List Value) (K:Nat) (hK:∀ i,(f i).length=K) (n:Nat):(fl f n).length=n*K:=by
 induction n with
 | zero=>simp [fl]
 | succ n ih=>rw[fl,List.length_append,ih,hK,Nat.succ_mul]
theorem Uf (f : Nat → List Value) (K : Nat) (hK : ∀ i, (f i).length = K) (n i j : Nat) (hi : i < n) (hj : j < K) : (fl f n)[i * K + j]? = (f i)[j]? := by
  induction n with
  | zero => omega
  | succ n ih =>
    rw [fl]
    by_cases h : i < n
    · have : i * K + K ≤ n * K := by rw [← Nat.succ_mul]; exact Nat.mul_le_mul_right K h
      rw [List.getElem?_append_left (by rw [Nu f K hK]; omega)]
      exact ih h
    · have e : i = n := by omega
      subst e
      rw [List.getElem?_append_right (by rw [Nu f K hK]; omega), Nu f K hK]
      congr 1
      omega
def itB (i:Nat):ByteArray:=⟨(Lib.itoa ((8*(16+8*i):Nat):Int)).toArray⟩
def sxN (i k:Nat):ByteArray:=((⟨#[97,101,115]⟩:ByteArray)++itB i++(⟨#[45]⟩:ByteArray))++nmB k
def sxF:Nat→List Value
 | 0=>[.string ⟨#[110,117,108,108]⟩,.int .i64 0,.string ⟨#[]⟩,.int .i64 0,.int .i64 0,.int .i64 1,.nilFunc,.func (.func 109) #[] #[]]
 | j+1=>.string (sxN (j/17) (j%17))::.int .i64 ((16+8*(j/17):Nat):Int)::Xc.getD (j%17) []
theorem Mq (j : Nat) : (sxF j).length = 8 := by
  cases j with
  | zero => rfl
  | succ j =>
    obtain ⟨a, b, c, f, g, h, _⟩ := Gf (j % 17) (Nat.mod_lt _ (by decide))
    rw [sxF, h]; rfl
theorem Su (i k:Nat) (hk:k<17):sxF (1+17*i+k)=.string (sxN i k)::.int .i64 ((16+8*i:Nat):Int)::Xc.getD k []:=by
 have e:1+17*i+k=(17*i+k)+1:=by omega
 rw[e,sxF,show (17*i+k)/17=i by omega,show (17*i+k)%17=k by omega]
theorem Zy {w:World} {base:Nat} {e:TypeId} {K:Nat} {v:Value} {n:Nat} {xs:List Value} (h:w.ownsRow base e K v n xs) {g:Nat} (hg:v.ownBlock=some g):base≤g∧g<w.heap.size:=by
 rcases h.2 with ⟨rfl,_⟩ | ⟨g',cap,cur,rfl,hb,hgg,_⟩
 ·simp [Value.ownBlock] at hg
 ·have e:g'=g:=by simpa [Value.ownBlock] using hg
  subst e
  refine ⟨hb,?_⟩
  rcases Nat.lt_or_ge g' w.heap.size with hlt | hge
  ·exact hlt
  ·rw[Array.getElem?_eq_none hge] at hgg;cases hgg
theorem Y5 {w w':World} {base:Nat} {e:TypeId} {K:Nat} {v:Value} {n:Nat} {xs:List Value} (h:w.ownsRow base e K v n xs) (hk:∀ g,v.ownBlock=some g→w'.heap[g]?=w.heap[g]?):w'.ownsRow base e K v n xs:=by
 refine ⟨h.1,?_⟩
 rcases h.2 with hn | ⟨g,cap,cur,hv,hb,hgg,rest⟩
 ·exact .inl hn
 ·exact .inr ⟨g,cap,cur,hv,hb,by rw[hk g (by rw[hv];rfl)];exact hgg,rest⟩
theorem ownsRow_below {w w':World} {base:Nat} {e:TypeId} {K:Nat} {v:Value} {n:Nat} {xs:List Value} (h:w.ownsRow base e K v n xs) (hb:Below w.heap.size w w'):w'.ownsRow base e K v n xs:=
 Y5 h fun g hg=>hb.block g (Zy h hg).2
theorem Wp (w:World) (base:Nat) (e:TypeId) (K n:Nat) (xs:List Value) (hb:base≤w.heap.size) (hn:n≤1000) (hl:xs.length=n*K):(w.alloc (.cells xs.toArray e)).ownsRow base e K (.slice (some ⟨w.heap.size,0,none⟩) n n) n xs:=by
 refine ⟨hl,.inr ⟨w.heap.size,n,xs.toArray,rfl,hb,heap_alloc_new w _,Nat.le_refl _,by unfold maxLen;omega,by simpa using hl,by simp [←hl]⟩⟩
end Go.Proofs.YtehlppaidgkpaaaGreatDoor
namespace Go.Proofs.YtehlppaidgkpaaaGreatDoor.Dg
open Go.RowKit
def Yz (x:Int) (s:Nat):Int:=bits .or .u32 (x*2^s%4294967296) (x/2^(32-s))
def Qj (x:Int) (s:Nat):Int:=bits .or .u64 (x*2^s%18446744073709551616) (x/2^(64-s))
theorem wrap64 (x:Int) (h0:0≤x) (h1:x≤64):IntKind.u64.wrap x=x:=by
 simp [IntKind.wrap,IntKind.bits,IntKind.signed]
 omega
set_option maxHeartbeats 400000 in
theorem Qc (x k s:Int) (w:World) (hb:bits .and .u64 (IntKind.u64.wrap k) 31=s) (h0:0≤s) (h1:s≤32):Calls Tryz.prog 78 #[.int .u32 x,.int .i64 k] w fun e w'=>e=.returned (.int .u32 (Yz x s.toNat))∧w'=w:=by
 have hs:IntKind.u64.wrap (32-s)=32-s:=wrap64 _ (by omega) (by omega)
 have h2:0≤32-s:=by omega
 go_enter Tryz.func78,Tryz.ntmps78
 go_wp2
 go_ret
 refine ⟨?_,rfl⟩
 have e2:(32-s).toNat=32-s.toNat:=by omega
 rw[e2]
 exact rfl
set_option maxHeartbeats 400000 in
theorem B6 (x k s:Int) (w:World) (hb:bits .and .u64 (IntKind.u64.wrap k) 63=s) (h0:0≤s) (h1:s≤64):Calls Tryz.prog 125 #[.int .u64 x,.int .i64 k] w fun e w'=>e=.returned (.int .u64 (Qj x s.toNat))∧w'=w:=by
 have hs:IntKind.u64.wrap (64-s)=64-s:=wrap64 _ (by omega) (by omega)
 have h2:0≤64-s:=by omega
 go_enter Tryz.func125,Tryz.ntmps125
 go_wp2
 go_ret
 refine ⟨?_,rfl⟩
 have e2:(64-s).toNat=64-s.toNat:=by omega
 rw[e2]
 exact rfl
theorem Yi {x k:Int} {w:World} (n:Nat) (hb:bits .and .u64 (IntKind.u64.wrap k) 31=((32-n:Nat):Int)):Calls Tryz.prog 78 #[.int .u32 x,.int .i64 k] w fun e w'=>e=.returned (.int .u32 (Yz x (32-n)))∧w'=w:=by
 have h:=Qc x k ((32-n:Nat):Int) w hb (by omega) (by omega)
 simpa using h
theorem Yh {x k:Int} {w:World} (n:Nat) (hb:bits .and .u64 (IntKind.u64.wrap k) 63=((64-n:Nat):Int)):Calls Tryz.prog 125 #[.int .u64 x,.int .i64 k] w fun e w'=>e=.returned (.int .u64 (Qj x (64-n)))∧w'=w:=by
 have h:=B6 x k ((64-n:Nat):Int) w hb (by omega) (by omega)
 simpa using h
theorem Zf.kept {w w':World} {v:Value} {zs:List Int} (h:Zf w v zs) (hb:∀ k,k<w.heap.size→w'.heap[k]?=w.heap[k]?):Zf w' v zs:=by
 obtain ⟨a,c,rfl,h1,h2,h3,h4⟩:=h
 refine ⟨a,c,rfl,h1,h2,h3,?_⟩
 rcases h4 with h4 | ⟨b,off,rfl,hc⟩
 ·exact .inl h4
 ·refine .inr ⟨b,off,rfl,fun i hi=>?_⟩
  have:=hc i hi
  have hlt:=World.block_lt_of_cell? w _ this
  rw[World.cell?_of_block (w:=w) (hb b hlt)]
  exact this
end Go.Proofs.YtehlppaidgkpaaaGreatDoor.Dg
namespace Go.Proofs.YtehlppaidgkpaaaGreatDoor.Fd
open Go.RowKit
set_option linter.unusedVariables false
def hiV (v:BitVec 128):Nat:=v.toNat/18446744073709551616
def loV (v:BitVec 128):Nat:=v.toNat%18446744073709551616
theorem Zaz (v:BitVec 128):hiV v<18446744073709551616:=by have:=v.isLt;unfold hiV;omega
theorem Zau (v:BitVec 128):loV v<18446744073709551616:=by unfold loV;omega
theorem Pi (w:World) (o1 o2 o3:Obj):Below w.heap.size w (((w.alloc o1).alloc o2).alloc o3):=(((Below.refl _ w).alloc (Nat.le_refl _) _).alloc (by simp) _).alloc (by simp;omega) _
theorem Zae (w:World) (o1 o2:Obj) (C:Array Value) (t:TypeId):(((w.alloc o1).alloc o2).alloc (.cells C t)).rangeAt (w.heap.size+1+1) 0 C.toList:=by have h:=Yk ((w.alloc o1).alloc o2) C t;simpa using h
theorem Zbw (w:World) (o1 o2:Obj):Below w.heap.size w ((w.alloc o1).alloc o2):=((Below.refl _ w).alloc (Nat.le_refl _) _).alloc (by simp) _
theorem Du (a k:Nat):((a:Nat):Int)/2^k=((a/2^k:Nat):Int):=by push_cast;rfl
end Go.Proofs.YtehlppaidgkpaaaGreatDoor.Fd
