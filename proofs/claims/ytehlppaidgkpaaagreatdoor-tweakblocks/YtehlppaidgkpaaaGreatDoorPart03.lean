import Derived.Test.YtehlppaidgkpaaaGreatDoorPart02
import Derived.Test.YtehlppaidgkpaaaGreatDoorProg
import Derived.WalkMore
import Derived.Below
import Derived.Deep.Cut
import Derived.Laws.Tables
import Derived.Great.BuildSlice
import Derived.KernelRfl
import Derived.Ground.NamesProg
import Derived.Shelf.Lay
import Derived.Shelf.Strconv.Itoa3
import Derived.WalkSmall
import Derived.Deep.AppendLies
import Derived.Lib.LaidTab
namespace Go.Proofs.YtehlppaidgkpaaaGreatDoor
open Go.RowKit
theorem Zi.kept {w w':World} {v:Value} {zs:List Int} (h:Zi w v zs) (hb:∀ k,k<w.heap.size→w'.heap[k]?=w.heap[k]?):Zi w' v zs:=by
 obtain ⟨a,c,rfl,h1,h2,h3,h4⟩:=h
 refine ⟨a,c,rfl,h1,h2,h3,?_⟩
 rcases h4 with h4 | ⟨b,off,rfl,hc⟩
 ·exact .inl h4
 ·refine .inr ⟨b,off,rfl,fun i hi=>?_⟩
  have:=hc i hi
  have hlt:=World.block_lt_of_cell? w _ this
  rw[World.cell?_of_block (w:=w) (hb b hlt)]
  exact this
def X8 (B:Nat) (w:World) (v:Value) (zs:List Int):Prop:=
 ∃ g c,v=.slice (some ⟨g,0,none⟩) zs.length c∧w.ownsRow B 5 1 (.slice (some ⟨g,0,none⟩) (zs.length+70) c) (zs.length+70) (Za (zs++marks 70))
theorem X8.kept {B:Nat} {w w':World} {v:Value} {zs:List Int} (h:X8 B w v zs) (hb:∀ k,k<w.heap.size→w'.heap[k]?=w.heap[k]?):X8 B w' v zs:=by
 obtain ⟨g,c,rfl,hl,h⟩:=h
 refine ⟨g,c,rfl,hl,?_⟩
 rcases h with ⟨h,_⟩ | ⟨g',c',cur,he,h1,h2,r⟩
 ·cases h
 ·refine .inr ⟨g',c',cur,he,h1,?_,r⟩
  rw[hb g' (Array.getElem?_eq_some_iff.1 h2).1]
  exact h2
theorem X8.cells {B:Nat} {w:World} {v:Value} {zs:List Int} (h:X8 B w v zs) :
  ∃ g c,v=.slice (some ⟨g,0,none⟩) zs.length c∧zs.length+70≤c∧c≤maxLen∧(∀ i,i<zs.length→w.cell? ⟨g,i,none⟩=some (.int .u8 (zs.getD i 0)))∧(∀ i,i<70→w.cell? ⟨g,zs.length+i,none⟩=some (.int .u8 (181+(i:Int)))):=by
 obtain ⟨g,c,rfl,ho⟩:=h
 have hc:=ho.cells (g:=g) rfl
 refine ⟨g,c,rfl,?_,?_,fun i hi=>?_,fun i hi=>?_⟩
 ·rcases ho.2 with ⟨h,_⟩ | ⟨g',c',cur,he,_,_,h1,_⟩
  ·cases h
  ·cases he;exact h1
 ·rcases ho.2 with ⟨h,_⟩ | ⟨g',c',cur,he,_,_,_,h1,_⟩
  ·cases h
  ·cases he;exact h1
 ·have:=hc i (.int .u8 (zs.getD i 0)) (by
   simp only[Za,List.getElem?_map]
   rw[List.getElem?_append_left hi]
   simp [List.getElem?_eq_getElem hi,List.getD])
  rw[Addr.add_lit] at this
  simpa using this
 ·have:=hc (zs.length+i) (.int .u8 (181+(i:Int))) (by
   simp only[Za,List.getElem?_map]
   rw[List.getElem?_append_right (by omega)]
   simp [marks,hi])
  rw[Addr.add_lit] at this
  simpa using this
theorem X8.view {B:Nat} {w:World} {v:Value} {zs:List Int} (h:X8 B w v zs):Zi w v zs:=by
 obtain ⟨g,c,rfl,h1,h2,h3,_⟩:=h.cells
 refine ⟨_,c,rfl,by omega,h2,?_,Or.inr ⟨g,0,rfl,fun i hi=>by simpa using h3 i hi⟩⟩
 intro h
 cases h
theorem Nl (v : Value) (zs : List Int) (w : World) (hn : zs.length + 70 ≤ 140737488355328) (h : Zi w v zs) :
    Calls Tryz.prog 12 #[v] w fun e w' => ∃ v', e = .returned v' ∧ X8 w.heap.size w' v' zs ∧ Below w.heap.size w w' := by
  obtain ⟨a, c, rfl, h1, h2, h3, h4⟩ := h
  cases a with
  | none =>
    obtain rfl := h3 rfl
    have hz : zs = [] := List.eq_nil_of_length_eq_zero (by omega)
    subst hz
    refine (Ey w).mono ?_
    rintro e w' ⟨g, c, rfl, ho, hb⟩
    exact ⟨_, rfl, ⟨g, c, rfl, by simpa using ho⟩, hb⟩
  | some x =>
    have hc : ∀ j u, (Za zs)[j]? = some u → w.cell? (x.add j) = some u := by
      rcases h4 with rfl | ⟨b, off, he, hcell⟩
      · intro j u hu
        simp [Za] at hu
      · cases he
        exact Qw zs w b off hcell
    refine (Tt x zs.length c zs w rfl hn hc).mono ?_
    rintro e w' ⟨g, c, rfl, ho, hb⟩
    exact ⟨_, rfl, ⟨g, c, rfl, ho⟩, hb⟩
set_option maxHeartbeats 400000 in
theorem Ma (g c n:Nat) (v2:Value) (zs:List Int) (w:World) (hc:n+70≤c) (hm:c≤9223372036854775807)
  (h1:Hid (Zi w (.slice (some ⟨g,0,none⟩) n c) zs)) (h2:Hid (Zi w v2 zs))
  (h3:∀ i,i<70→w.cell? ⟨g,n+i,none⟩=some (.int .u8 (181+(i:Int)))) :
  Calls Tryz.prog 29 #[.slice (some ⟨g,0,none⟩) n c,v2] w fun e w'=>e=.returned (.bool true)∧∃ m,w'=w.drewN m:=by
 go_enter Tryz.func29,Tryz.ntmps29
 go_wp2_with fail
 refine (U6 _ _ zs zs _ h1.out h2.out).mono ?_
 rintro e w' ⟨rfl,m,rfl⟩
 simp only[decide_true]
 go_wp2
 go_loop [7] (fun i=>∃ k:Nat,k≤70∧i=.int .i64 k) (fun i=>70-(intOf i).toNat)
 case atStart=>exact ⟨0,by omega,rfl⟩
 case round=>
  obtain ⟨k,hk,rfl⟩:=hrel
  by_cases hlt:k<70
  ·have g3:=h3 k hlt
   clear h3
   go_wp2
   go_round
   case rel=>exact ⟨k+1,by omega,by go_num⟩
   case measure=>simp [intOf];omega
  ·go_wp2
   go_ret
   exact ⟨rfl,m,rfl⟩
theorem Sq (v1 v2:Value) (zs:List Int) (B:Nat) (w:World) (h1:X8 B w v1 zs) (h2:Zi w v2 zs) :
  Calls Tryz.prog 29 #[v1,v2] w fun e w'=>e=.returned (.bool true)∧∃ m,w'=w.drewN m:=by
 have hv:=h1.view
 obtain ⟨g,c,rfl,hc,hm,_,h4⟩:=h1.cells
 exact Ma g c zs.length v2 zs w hc (by unfold maxLen at hm;omega) hv h2 h4
set_option linter.unusedVariables false
def Xc:List (List Value):=[[.string ⟨#[101,99,98]⟩,.int .i64 1,.int .i64 0,.int .i64 16,.nilFunc,.func (.func 146) #[] #[]],
 [.string ⟨#[99,98,99,45,110,117,108,108]⟩,.int .i64 1,.int .i64 0,.int .i64 16,.func (.func 147) #[] #[],.func (.func 148) #[] #[]],
 [.string ⟨#[99,98,99,45,112,108,97,105,110]⟩,.int .i64 1,.int .i64 0,.int .i64 16,.func (.func 149) #[] #[],.func (.func 148) #[] #[]],
 [.string ⟨#[99,98,99,45,112,108,97,105,110,54,52]⟩,.int .i64 1,.int .i64 0,.int .i64 16,.func (.func 150) #[] #[],.func (.func 148) #[] #[]],
 [.string ⟨#[99,98,99,45,112,108,97,105,110,54,52,98,101]⟩,.int .i64 1,.int .i64 0,.int .i64 16,.func (.func 151) #[] #[],.func (.func 148) #[] #[]],
 [.string ⟨#[99,98,99,45,98,101,110,98,105]⟩,.int .i64 1,.int .i64 0,.int .i64 16,.func (.func 152) #[] #[],.func (.func 148) #[] #[]],
 [.string ⟨#[99,98,99,45,101,115,115,105,118,58,115,104,97,50,53,54]⟩,.int .i64 1,.int .i64 0,.int .i64 16,.func (.func 153) #[] #[],.func (.func 148) #[] #[]],
 [.string ⟨#[99,98,99,45,101,98,111,105,118]⟩,.int .i64 1,.int .i64 0,.int .i64 16,.func (.func 154) #[] #[],.func (.func 148) #[] #[]],
 [.string ⟨#[99,98,99,45,101,108,101,112,104,97,110,116]⟩,.int .i64 2,.int .i64 0,.int .i64 16,.func (.func 154) #[] #[],.func (.func 155) #[] #[]],
 [.string ⟨#[99,98,99,45,116,99,119]⟩,.int .i64 1,.int .i64 32,.int .i64 16,.func (.func 156) #[] #[],.func (.func 157) #[] #[]],
 [.string ⟨#[120,116,115,45,112,108,97,105,110]⟩,.int .i64 2,.int .i64 0,.int .i64 1,.func (.func 149) #[] #[],.func (.func 158) #[] #[]],
 [.string ⟨#[120,116,115,45,112,108,97,105,110,54,52]⟩,.int .i64 2,.int .i64 0,.int .i64 1,.func (.func 150) #[] #[],.func (.func 158) #[] #[]],
 [.string ⟨#[120,116,115,45,112,108,97,105,110,54,52,98,101]⟩,.int .i64 2,.int .i64 0,.int .i64 1,.func (.func 151) #[] #[],.func (.func 158) #[] #[]],
 [.string ⟨#[120,116,115,45,101,115,115,105,118,58,115,104,97,50,53,54]⟩,.int .i64 2,.int .i64 0,.int .i64 1,.func (.func 153) #[] #[],.func (.func 158) #[] #[]],
 [.string ⟨#[108,114,119,45,98,101,110,98,105]⟩,.int .i64 1,.int .i64 16,.int .i64 16,.func (.func 152) #[] #[],.func (.func 159) #[] #[]],
 [.string ⟨#[104,99,116,114,50,45,112,108,97,105,110]⟩,.int .i64 1,.int .i64 0,.int .i64 1,.func (.func 149) #[] #[],.func (.func 160) #[] #[]],
 [.string ⟨#[104,99,116,114,50,45,112,108,97,105,110,54,52]⟩,.int .i64 1,.int .i64 0,.int .i64 1,.func (.func 150) #[] #[],.func (.func 160) #[] #[]]]
theorem Za4 (s:ByteArray) (a b c:Int) (g:Nat):Tryz.prog.built 94 [(0,.string s),(1,.int .i64 a),(2,.int .i64 b),(3,.int .i64 c),(4,.nilFunc),(5,.func (.func g) #[] #[])]=some #[.string s,.int .i64 a,.int .i64 b,.int .i64 c,.nilFunc,.func (.func g) #[] #[]]:=by kernel_rfl
theorem Ie (s:ByteArray) (a b c:Int) (f g:Nat):Tryz.prog.built 94 [(0,.string s),(1,.int .i64 a),(2,.int .i64 b),(3,.int .i64 c),(4,.func (.func f) #[] #[]),(5,.func (.func g) #[] #[])]=some #[.string s,.int .i64 a,.int .i64 b,.int .i64 c,.func (.func f) #[] #[],.func (.func g) #[] #[]]:=by kernel_rfl
theorem Zc0 : ∃ i z, Tryz.prog.info? 94 = some i ∧ i.size = 6 ∧ i.bytes = 56 ∧ i.zero = some z ∧ z = .agg #[.string ⟨#[]⟩, .int .i64 0, .int .i64 0, .int .i64 0, .nilFunc, .nilFunc] := by
  have h1 : (Tryz.prog.info? 94).map (·.size) = some 6 := by kernel_rfl
  have h2 : (Tryz.prog.info? 94).map (·.bytes) = some 56 := by kernel_rfl
  have h3 : (Tryz.prog.info? 94).bind (·.zero) = some (.agg #[.string ⟨#[]⟩, .int .i64 0, .int .i64 0, .int .i64 0, .nilFunc, .nilFunc]) := by kernel_rfl
  cases hi : Tryz.prog.info? 94 with
  | none => rw [hi] at h1; cases h1
  | some i =>
    rw [hi] at h1 h2 h3
    exact ⟨i, _, rfl, by simpa using h1, by simpa using h2, by simpa using h3, rfl⟩
def M1:List (Nat×Value):=(List.range 17).map fun k=>(k,.agg (Xc.getD k []).toArray)
theorem Ln:Instr.fill (fun i=>some (i*6,6)) ((Array.range (17*6)).map ((Value.agg #[.string ⟨#[]⟩,.int .i64 0,.int .i64 0,.int .i64 0,.nilFunc,.nilFunc]).cells[·%(Value.agg #[.string ⟨#[]⟩,.int .i64 0,.int .i64 0,.int .i64 0,.nilFunc,.nilFunc]).cells.size]!)) M1=some Xc.flatten.toArray:=by kernel_rfl
theorem S6 (w:World):(Instr.buildSlice 186 17 M1.toArray).run Tryz.prog w=.ok (.slice (some ⟨w.heap.size,0,none⟩) 17 17) (w.alloc (.cells Xc.flatten.toArray 94)):=by
 obtain ⟨i,z,hi,hs,_,hz,rfl⟩:=Zc0
 refine run_buildSlice w 186 94 17 _ _ i _ (by kernel_rfl) hi hz (by rw[hs];decide) (by rw[hs];decide) ?_
 rw[hs]
 exact Ln
set_option maxHeartbeats 1600000 in
set_option maxRecDepth 100000 in
theorem Px (w:World):Calls Tryz.prog 110 #[] w fun e w'=>Hid (e=.returned (.slice (some ⟨w.heap.size,0,none⟩) 17 17)∧w'=w.alloc (.cells Xc.flatten.toArray 94)):=by
 have r1:∀ (s:ByteArray) (a b c:Int) (g:Nat) (w:World),(Instr.build 94 #[(0,.string s),(1,.int .i64 a),(2,.int .i64 b),(3,.int .i64 c),(4,.nilFunc),(5,.func (.func g) #[] #[])]).run Tryz.prog w=.ok (.agg #[.string s,.int .i64 a,.int .i64 b,.int .i64 c,.nilFunc,.func (.func g) #[] #[]]) w:=fun s a b c g w=>run_build w _ _ _ (Za4 s a b c g)
 have r2:∀ (s:ByteArray) (a b c:Int) (f g:Nat) (w:World),(Instr.build 94 #[(0,.string s),(1,.int .i64 a),(2,.int .i64 b),(3,.int .i64 c),(4,.func (.func f) #[] #[]),(5,.func (.func g) #[] #[])]).run Tryz.prog w=.ok (.agg #[.string s,.int .i64 a,.int .i64 b,.int .i64 c,.func (.func f) #[] #[],.func (.func g) #[] #[]]) w:=fun s a b c f g w=>run_build w _ _ _ (Ie s a b c f g)
 have r3:=S6 w
 rw[show M1.toArray=#[(0,.agg #[.string ⟨#[101,99,98]⟩,.int .i64 1,.int .i64 0,.int .i64 16,.nilFunc,.func (.func 146) #[] #[]]),(1,.agg #[.string ⟨#[99,98,99,45,110,117,108,108]⟩,.int .i64 1,.int .i64 0,.int .i64 16,.func (.func 147) #[] #[],.func (.func 148) #[] #[]]),(2,.agg #[.string ⟨#[99,98,99,45,112,108,97,105,110]⟩,.int .i64 1,.int .i64 0,.int .i64 16,.func (.func 149) #[] #[],.func (.func 148) #[] #[]]),(3,.agg #[.string ⟨#[99,98,99,45,112,108,97,105,110,54,52]⟩,.int .i64 1,.int .i64 0,.int .i64 16,.func (.func 150) #[] #[],.func (.func 148) #[] #[]]),(4,.agg #[.string ⟨#[99,98,99,45,112,108,97,105,110,54,52,98,101]⟩,.int .i64 1,.int .i64 0,.int .i64 16,.func (.func 151) #[] #[],.func (.func 148) #[] #[]]),(5,.agg #[.string ⟨#[99,98,99,45,98,101,110,98,105]⟩,.int .i64 1,.int .i64 0,.int .i64 16,.func (.func 152) #[] #[],.func (.func 148) #[] #[]]),(6,.agg #[.string ⟨#[99,98,99,45,101,115,115,105,118,58,115,104,97,50,53,54]⟩,.int .i64 1,.int .i64 0,.int .i64 16,.func (.func 153) #[] #[],.func (.func 148) #[] #[]]),(7,.agg #[.string ⟨#[99,98,99,45,101,98,111,105,118]⟩,.int .i64 1,.int .i64 0,.int .i64 16,.func (.func 154) #[] #[],.func (.func 148) #[] #[]]),(8,.agg #[.string ⟨#[99,98,99,45,101,108,101,112,104,97,110,116]⟩,.int .i64 2,.int .i64 0,.int .i64 16,.func (.func 154) #[] #[],.func (.func 155) #[] #[]]),(9,.agg #[.string ⟨#[99,98,99,45,116,99,119]⟩,.int .i64 1,.int .i64 32,.int .i64 16,.func (.func 156) #[] #[],.func (.func 157) #[] #[]]),(10,.agg #[.string ⟨#[120,116,115,45,112,108,97,105,110]⟩,.int .i64 2,.int .i64 0,.int .i64 1,.func (.func 149) #[] #[],.func (.func 158) #[] #[]]),(11,.agg #[.string ⟨#[120,116,115,45,112,108,97,105,110,54,52]⟩,.int .i64 2,.int .i64 0,.int .i64 1,.func (.func 150) #[] #[],.func (.func 158) #[] #[]]),(12,.agg #[.string ⟨#[120,116,115,45,112,108,97,105,110,54,52,98,101]⟩,.int .i64 2,.int .i64 0,.int .i64 1,.func (.func 151) #[] #[],.func (.func 158) #[] #[]]),(13,.agg #[.string ⟨#[120,116,115,45,101,115,115,105,118,58,115,104,97,50,53,54]⟩,.int .i64 2,.int .i64 0,.int .i64 1,.func (.func 153) #[] #[],.func (.func 158) #[] #[]]),(14,.agg #[.string ⟨#[108,114,119,45,98,101,110,98,105]⟩,.int .i64 1,.int .i64 16,.int .i64 16,.func (.func 152) #[] #[],.func (.func 159) #[] #[]]),(15,.agg #[.string ⟨#[104,99,116,114,50,45,112,108,97,105,110]⟩,.int .i64 1,.int .i64 0,.int .i64 1,.func (.func 149) #[] #[],.func (.func 160) #[] #[]]),(16,.agg #[.string ⟨#[104,99,116,114,50,45,112,108,97,105,110,54,52]⟩,.int .i64 1,.int .i64 0,.int .i64 1,.func (.func 150) #[] #[],.func (.func 160) #[] #[]])] from rfl] at r3
 obtain ⟨CS,HCS⟩:∃ x,Hid (Xc.flatten.toArray=x):=⟨_,rfl⟩
 rw[HCS.out] at r3
 rw[HCS.out]
 go_enter Tryz.func110,Tryz.ntmps110
 go_wp2
 go_ret
 exact ⟨rfl,by rw[←HCS.out];rfl⟩
end Go.Proofs.YtehlppaidgkpaaaGreatDoor
namespace Go.Proofs
open Go.RowKit Go.Shelf Go.Lib
shelf_lay LaysM.n171 Nm 171 at Tryz as Tryz.laysItoa
end Go.Proofs
namespace Go.Proofs.YtehlppaidgkpaaaGreatDoor
open Go.RowKit
set_option linter.unusedVariables false
def Pow (w:World):Prop:=Lib.TabIs Tryz.prog w "internal/strconv.uint64pow10" .u64 Lib.pow10Tab
theorem Pow.below {w v : World} (h : Pow w) (b : Below w.heap.size w v) : Pow v := by
  unfold Pow Lib.TabIs at h ⊢
  cases hgn : Tryz.prog.globalNamed "internal/strconv.uint64pow10" with
  | none => simp [World.var?, hgn] at h
  | some g =>
    refine var?_below b hgn ?_ h
    rcases Nat.lt_or_ge g w.heap.size with hlt | hge
    · exact hlt
    · simp [World.var?, hgn, Array.getElem?_eq_none hge] at h
theorem Zam (n:Nat) (hn:n≤1000) (w:World) (hT:Pow w) :
  Calls Tryz.prog 111 #[.int .i64 (n:Nat)] w fun e w'=>Hid (e=.returned (.string ⟨(Lib.itoa (n:Nat)).toArray⟩)∧Below w.heap.size w w'):=by
 refine (Any.strconv_Itoa Tryz.laysItoa (n:Nat) (by omega) (by omega) w hT).mono ?_
 rintro e w' ⟨rfl,k,os,rfl⟩
 exact ⟨rfl,rfl,rfl,rfl,by simp [Sort.grow],fun i hi=>Sort.heap_grow_old (w.drewN k) os hi⟩
def nmB (k:Nat):ByteArray:=match Xc.getD k [] with
 | .string s::_=>s
 | _=>⟨#[]⟩
theorem G0 (k:Nat) (hk:k<17):∃ (a b c:Int) (f:Value) (g:Nat),Xc.getD k []=[.string (nmB k),.int .i64 a,.int .i64 b,.int .i64 c,f,.func (.func g) #[] #[]]∧(f=.nilFunc∨∃ m,f=.func (.func m) #[] #[]):=by
 match k,hk with
 | 0,_=>exact ⟨_,_,_,_,_,rfl,.inl rfl⟩
 | 1,_=>exact ⟨_,_,_,_,_,rfl,.inr ⟨_,rfl⟩⟩
 | 2,_=>exact ⟨_,_,_,_,_,rfl,.inr ⟨_,rfl⟩⟩
 | 3,_=>exact ⟨_,_,_,_,_,rfl,.inr ⟨_,rfl⟩⟩
 | 4,_=>exact ⟨_,_,_,_,_,rfl,.inr ⟨_,rfl⟩⟩
 | 5,_=>exact ⟨_,_,_,_,_,rfl,.inr ⟨_,rfl⟩⟩
 | 6,_=>exact ⟨_,_,_,_,_,rfl,.inr ⟨_,rfl⟩⟩
 | 7,_=>exact ⟨_,_,_,_,_,rfl,.inr ⟨_,rfl⟩⟩
 | 8,_=>exact ⟨_,_,_,_,_,rfl,.inr ⟨_,rfl⟩⟩
 | 9,_=>exact ⟨_,_,_,_,_,rfl,.inr ⟨_,rfl⟩⟩
 | 10,_=>exact ⟨_,_,_,_,_,rfl,.inr ⟨_,rfl⟩⟩
 | 11,_=>exact ⟨_,_,_,_,_,rfl,.inr ⟨_,rfl⟩⟩
 | 12,_=>exact ⟨_,_,_,_,_,rfl,.inr ⟨_,rfl⟩⟩
 | 13,_=>exact ⟨_,_,_,_,_,rfl,.inr ⟨_,rfl⟩⟩
 | 14,_=>exact ⟨_,_,_,_,_,rfl,.inr ⟨_,rfl⟩⟩
 | 15,_=>exact ⟨_,_,_,_,_,rfl,.inr ⟨_,rfl⟩⟩
 | 16,_=>exact ⟨_,_,_,_,_,rfl,.inr ⟨_,rfl⟩⟩
 | n+17,h=>exact absurd h (by omega)
def fl (f:Nat→List Value):Nat→List Value
 | 0=>[]
 | n+1=>fl f n++f n
theorem Lg (f:Nat→List Value) (K:Nat) (hK:∀ i,(f i).length=K) (n:Nat):(fl f n).length=n*K:=by
 induction n with
 | zero=>simp [fl]
 | succ n ih=>rw[fl,List.length_append,ih,hK,Nat.succ_mul]
theorem Eo (f : Nat → List Value) (K : Nat) (hK : ∀ i, (f i).length = K) (n i j : Nat) (hi : i < n) (hj : j < K) : (fl f n)[i * K + j]? = (f i)[j]? := by
  induction n with
  | zero => omega
  | succ n ih =>
    rw [fl]
    by_cases h : i < n
    · have : i * K + K ≤ n * K := by rw [← Nat.succ_mul]; exact Nat.mul_le_mul_right K h
      rw [List.getElem?_append_left (by rw [Lg f K hK]; omega)]
      exact ih h
    · have e : i = n := by omega
      subst e
      rw [List.getElem?_append_right (by rw [Lg f K hK]; omega), Lg f K hK]
      congr 1
      omega
def itB (i:Nat):ByteArray:=⟨(Lib.itoa ((8*(16+8*i):Nat):Int)).toArray⟩
def sxN (i k:Nat):ByteArray:=((⟨#[97,101,115]⟩:ByteArray)++itB i++(⟨#[45]⟩:ByteArray))++nmB k
def sxF:Nat→List Value
 | 0=>[.string ⟨#[110,117,108,108]⟩,.int .i64 0,.string ⟨#[]⟩,.int .i64 0,.int .i64 0,.int .i64 1,.nilFunc,.func (.func 109) #[] #[]]
 | j+1=>.string (sxN (j/17) (j%17))::.int .i64 ((16+8*(j/17):Nat):Int)::Xc.getD (j%17) []
theorem Rh (j : Nat) : (sxF j).length = 8 := by
  cases j with
  | zero => rfl
  | succ j =>
    obtain ⟨a, b, c, f, g, h, _⟩ := G0 (j % 17) (Nat.mod_lt _ (by decide))
    rw [sxF, h]; rfl
theorem Uz (i k:Nat) (hk:k<17):sxF (1+17*i+k)=.string (sxN i k)::.int .i64 ((16+8*i:Nat):Int)::Xc.getD k []:=by
 have e:1+17*i+k=(17*i+k)+1:=by omega
 rw[e,sxF,show (17*i+k)/17=i by omega,show (17*i+k)%17=k by omega]
theorem Z2 {w:World} {base:Nat} {e:TypeId} {K:Nat} {v:Value} {n:Nat} {xs:List Value} (h:w.ownsRow base e K v n xs) {g:Nat} (hg:v.ownBlock=some g):base≤g∧g<w.heap.size:=by
 rcases h.2 with ⟨rfl,_⟩ | ⟨g',cap,cur,rfl,hb,hgg,_⟩
 ·simp [Value.ownBlock] at hg
 ·have e:g'=g:=by simpa [Value.ownBlock] using hg
  subst e
  refine ⟨hb,?_⟩
  rcases Nat.lt_or_ge g' w.heap.size with hlt | hge
  ·exact hlt
  ·rw[Array.getElem?_eq_none hge] at hgg;cases hgg
theorem Ys {w w':World} {base:Nat} {e:TypeId} {K:Nat} {v:Value} {n:Nat} {xs:List Value} (h:w.ownsRow base e K v n xs) (hk:∀ g,v.ownBlock=some g→w'.heap[g]?=w.heap[g]?):w'.ownsRow base e K v n xs:=by
 refine ⟨h.1,?_⟩
 rcases h.2 with hn | ⟨g,cap,cur,hv,hb,hgg,rest⟩
 ·exact .inl hn
 ·exact .inr ⟨g,cap,cur,hv,hb,by rw[hk g (by rw[hv];rfl)];exact hgg,rest⟩
theorem ownsRow_below {w w':World} {base:Nat} {e:TypeId} {K:Nat} {v:Value} {n:Nat} {xs:List Value} (h:w.ownsRow base e K v n xs) (hb:Below w.heap.size w w'):w'.ownsRow base e K v n xs:=
 Ys h fun g hg=>hb.block g (Z2 h hg).2
theorem W9 (w:World) (base:Nat) (e:TypeId) (K n:Nat) (xs:List Value) (hb:base≤w.heap.size) (hn:n≤1000) (hl:xs.length=n*K):(w.alloc (.cells xs.toArray e)).ownsRow base e K (.slice (some ⟨w.heap.size,0,none⟩) n n) n xs:=by
 refine ⟨hl,.inr ⟨w.heap.size,n,xs.toArray,rfl,hb,heap_alloc_new w _,Nat.le_refl _,by unfold maxLen;omega,by simpa using hl,by simp [←hl]⟩⟩
end Go.Proofs.YtehlppaidgkpaaaGreatDoor
namespace Go.Proofs.YtehlppaidgkpaaaGreatDoor.Dg
open Go.RowKit
def Y1 (x:Int) (s:Nat):Int:=bits .or .u32 (x*2^s%4294967296) (x/2^(32-s))
def Qk (x:Int) (s:Nat):Int:=bits .or .u64 (x*2^s%18446744073709551616) (x/2^(64-s))
theorem wrap64 (x:Int) (h0:0≤x) (h1:x≤64):IntKind.u64.wrap x=x:=by
 simp [IntKind.wrap,IntKind.bits,IntKind.signed]
 omega
set_option maxHeartbeats 400000 in
theorem Qe (x k s:Int) (w:World) (hb:bits .and .u64 (IntKind.u64.wrap k) 31=s) (h0:0≤s) (h1:s≤32):Calls Tryz.prog 78 #[.int .u32 x,.int .i64 k] w fun e w'=>e=.returned (.int .u32 (Y1 x s.toNat))∧w'=w:=by
 have hs:IntKind.u64.wrap (32-s)=32-s:=wrap64 _ (by omega) (by omega)
 have h2:0≤32-s:=by omega
 go_enter Tryz.func78,Tryz.ntmps78
 go_wp2
 go_ret
 refine ⟨?_,rfl⟩
 have e2:(32-s).toNat=32-s.toNat:=by omega
 rw[e2]
 exact rfl
set_option maxHeartbeats 400000 in
theorem Ml (x k s:Int) (w:World) (hb:bits .and .u64 (IntKind.u64.wrap k) 63=s) (h0:0≤s) (h1:s≤64):Calls Tryz.prog 125 #[.int .u64 x,.int .i64 k] w fun e w'=>e=.returned (.int .u64 (Qk x s.toNat))∧w'=w:=by
 have hs:IntKind.u64.wrap (64-s)=64-s:=wrap64 _ (by omega) (by omega)
 have h2:0≤64-s:=by omega
 go_enter Tryz.func125,Tryz.ntmps125
 go_wp2
 go_ret
 refine ⟨?_,rfl⟩
 have e2:(64-s).toNat=64-s.toNat:=by omega
 rw[e2]
 exact rfl
theorem Yq {x k:Int} {w:World} (n:Nat) (hb:bits .and .u64 (IntKind.u64.wrap k) 31=((32-n:Nat):Int)):Calls Tryz.prog 78 #[.int .u32 x,.int .i64 k] w fun e w'=>e=.returned (.int .u32 (Y1 x (32-n)))∧w'=w:=by
 have h:=Qe x k ((32-n:Nat):Int) w hb (by omega) (by omega)
 simpa using h
theorem Yp {x k:Int} {w:World} (n:Nat) (hb:bits .and .u64 (IntKind.u64.wrap k) 63=((64-n:Nat):Int)):Calls Tryz.prog 125 #[.int .u64 x,.int .i64 k] w fun e w'=>e=.returned (.int .u64 (Qk x (64-n)))∧w'=w:=by
 have h:=Ml x k ((64-n:Nat):Int) w hb (by omega) (by omega)
 simpa using h
theorem Zi.kept {w w':World} {v:Value} {zs:List Int} (h:Zi w v zs) (hb:∀ k,k<w.heap.size→w'.heap[k]?=w.heap[k]?):Zi w' v zs:=by
 obtain ⟨a,c,rfl,h1,h2,h3,h4⟩:=h
 refine ⟨a,c,rfl,h1,h2,h3,?_⟩
 rcases h4 with h4 | ⟨b,off,rfl,hc⟩
 ·exact .inl h4
 ·refine .inr ⟨b,off,rfl,fun i hi=>?_⟩
  have:=hc i hi
  have hlt:=World.block_lt_of_cell? w _ this
  rw[World.cell?_of_block (w:=w) (hb b hlt)]
  exact this
end Go.Proofs.YtehlppaidgkpaaaGreatDoor.Dg
