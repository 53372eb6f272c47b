import Derived.Test.YtehlppaidgkpaaaGreatDoorSch
import Derived.Test.YtehlppaidgkpaaaGreatDoorPart10
import Derived.Deep.RegionHeld3
import Derived.Maps.AppendAt
import Derived.Test.YtehlppaidgkpaaaGreatDoorDgRT64
import Derived.Test.YtehlppaidgkpaaaGreatDoorPart24
import Derived.Test.YtehlppaidgkpaaaGreatDoorPart00
import Derived.Test.YtehlppaidgkpaaaGreatDoorDgRT32
import Derived.Test.YtehlppaidgkpaaaGreatDoorPart27
namespace Go.Proofs.YtehlppaidgkpaaaGreatDoor
open Go.RowKit
set_option linter.unusedVariables false
theorem Dl (off : Nat) : ∀ (L : List Value) (k : Nat) (z : Array Value) (i : Nat), ((L.zipIdx k).foldl (fun cs (x : Value × Nat) => cs.setIfInBounds (off + x.2) x.1) z)[i]? =
    if off + k ≤ i ∧ i < off + k + L.length ∧ i < z.size then L[i - (off + k)]? else z[i]?
  | [], k, z, i => by simp; omega
  | v :: r, k, z, i => by
    rw [List.zipIdx_cons, List.foldl_cons, Dl off r (k + 1)]
    simp only [Array.size_setIfInBounds, List.length_cons]
    by_cases h1 : off + (k + 1) ≤ i ∧ i < off + (k + 1) + r.length ∧ i < z.size
    · rw [if_pos h1, if_pos (by omega)]
      rw [show i - (off + k) = (i - (off + (k + 1))) + 1 by omega, List.getElem?_cons_succ]
    · rw [if_neg h1]
      by_cases h2 : i = off + k
      · subst h2
        by_cases h3 : off + k < z.size
        · rw [Array.getElem?_setIfInBounds_self_of_lt h3, if_pos (by omega), Nat.sub_self]; rfl
        · rw [if_neg (by omega)]
          rw [Array.getElem?_eq_none (by simp; omega), Array.getElem?_eq_none (by omega)]
      · rw [Array.getElem?_setIfInBounds_ne (by omega), if_neg (by omega)]
theorem Hj (off:Nat):∀ (L:List Value) (k:Nat) (z:Array Value),((L.zipIdx k).foldl (fun cs (x:Value×Nat)=>cs.setIfInBounds (off+x.2) x.1) z).size=z.size
 | [],k,z=>rfl
 | v::r,k,z=>by rw[List.zipIdx_cons,List.foldl_cons,Hj off r (k+1)];simp
theorem W3:Tryz.zeroCells135.size=1091:=by kernel_rfl
theorem Pz:Tryz.zeroCells135.toList.take 6=[.int .i32 0,.int .u32 0,.int .u32 0,.int .u32 0,.int .i32 0,.int .i32 0]:=by kernel_rfl
theorem Se:((Tryz.prog.info? 135).bind (·.zero)).map (·.cells)=some Tryz.zeroCells135:=by kernel_rfl
theorem Iz (L : List Value) (hL : L.length = 1085) : ∃ R, Tryz.prog.built 135 [(1, .agg L.toArray)] = some R ∧ R.size = 1091 ∧ (∀ i, i < 6 → R[i]? = Tryz.zeroCells135[i]?) ∧ ∀ j v, L[j]? = some v → R[6 + j]? = some v := by
  refine ⟨(L.zipIdx 0).foldl (fun cs (x : Value × Nat) => cs.setIfInBounds (6 + x.2) x.1) Tryz.zeroCells135, ?_, ?_, fun i hi => ?_, fun j v hv => ?_⟩
  · have hzc := Se
    have hu := Tryz.underlying135
    have hus : ∃ fs, Tryz.prog.underlying 135 = some (.struct fs) ∧ fs.toList.mapM (fun f => (Tryz.prog.info? f.type).map fun i => (f.offset, i.size)) = some [(0, 6), (6, 1085)] := ⟨_, hu, by kernel_rfl⟩
    obtain ⟨fs, hu', hp⟩ := hus
    cases hq : Tryz.prog.info? 135 with
    | none => rw [hq] at hzc; cases hzc
    | some it =>
      rw [hq] at hzc
      cases hz : it.zero with
      | none => simp [hz] at hzc
      | some z =>
        have hzz : z.cells = Tryz.zeroCells135 := by simpa [hz] using hzc
        have hsz : z.cells.size = 1091 := by rw [hzz]; exact W3
        unfold Program.built
        rw [hq, hu']
        simp only [hz, hp]
        rw [hzz]
        unfold Instr.fill
        simp only [List.getElem?_toArray, List.getElem?_cons_succ, List.getElem?_cons_zero, Value.cells, List.size_toArray, hL]
        rw [if_neg (by rw [W3]; decide)]
        unfold Instr.fill
        simp
  · rw [Hj]; exact W3
  · rw [Dl, if_neg (by omega)]
  · have hj : j < L.length := (List.getElem?_eq_some_iff.1 hv).1
    rw [Dl, if_pos (by rw [W3]; omega), show 6 + j - (6 + 0) = j by omega]
    exact hv
structure Zm (w:World) (g nr:Nat) (K:Nat→Nat):Prop where
 ciph:X5 w g 6 nr K
 count:w.cell? ⟨g,4,none⟩=some (.int .i32 0)
 room:w.there g 0 1091
theorem D9 {u u':World} {B o n:Nat} (h:u.there B o n) (e:u'.heap[B]?=u.heap[B]?):u'.there B o n:=fun j hj=>by
 rw[World.cell?_of_block (a:=⟨B,o+j,none⟩) e,World.frozen?_of_block (a:=⟨B,o+j,none⟩) e];exact h j hj
theorem Zm.sameK {u u':World} {g nr:Nat} {K:Nat→Nat} (h:Zm u g nr K) (e:u'.heap[g]?=u.heap[g]?) (hs:u.heap.size≤u'.heap.size):Zm u' g nr K:=by
 have c:∀ j:Nat,u'.cell? ⟨g,j,none⟩=u.cell? ⟨g,j,none⟩:=fun j=>World.cell?_of_block (a:=⟨g,j,none⟩) e
 exact ⟨⟨(c _).trans h.ciph.rounds,fun i hi=>(c _).trans (h.ciph.words i hi),h.ciph.small,⟨fun b hb=>(c _).trans (h.ciph.tab.s b hb),fun b hb=>(c _).trans (h.ciph.tab.u b hb),fun b hb=>(c _).trans (h.ciph.tab.m b hb),fun b hb=>(c _).trans (h.ciph.tab.n b hb)⟩,Nat.lt_of_lt_of_le h.ciph.here hs,h.ciph.some,h.ciph.most⟩,(c _).trans h.count,D9 h.room e⟩
theorem Zm.below {B:Nat} {w w':World} {g nr:Nat} {K:Nat→Nat} (h:Zm w g nr K) (hb:Below B w w') (hg:g<B):Zm w' g nr K:=
 ⟨h.ciph.below hb hg,(hb.cell hg).trans h.count,Zh h.room hb hg⟩
theorem Cu (w:World) (R:Array Value) (nr:Nat) (K:Nat→Nat) (hs:R.size=1091) (h6:∀ i,i<6→R[i]?=Tryz.zeroCells135[i]?) (hL:∀ j v,(Wg nr K)[j]?=some v→R[6+j]?=some v) (h1:1≤nr) (h14:nr≤14) (hK:∀ i,K i<4294967296) :
  Zm (w.alloc (.cells R 135)) w.heap.size nr K:=by
 have hc:∀ i:Nat,(w.alloc (.cells R 135)).cell? ⟨w.heap.size,i,none⟩=R[i]?:=fun i=>by
  rw[World.cell?_alloc_at R 135 _ _ rfl]
 refine ⟨F4 (fun j v hv=>?_) (by simp) h1 h14 hK,?_,Zk w R 135 1091 (by rw[hs];exact Nat.le_refl _)⟩
 ·rw[hc];exact hL j v hv
 ·rw[hc,h6 4 (by decide),←Array.getElem?_toList]
  have h:=congrArg (fun l=>l[4]?) Pz
  simp only[List.getElem?_take_of_lt (show 4<6 by decide)] at h
  rw[h];rfl
set_option maxHeartbeats 3200000 in
set_option maxRecDepth 100000 in
theorem Zak (kb ko n cap nk:Nat) (key:Nat→Nat) (w:World) (hnk:nk=4∨nk=6∨nk=8) (hn:n=4*nk) (hkb:kb<w.heap.size) (hcell:∀ i,i<n→w.cell? ⟨kb,ko+i,none⟩=some (.int .u8 (key i:Nat))) (hkey:∀ i,key i<256) (hrc:RC w) (hpos:1<w.heap.size) :
  Calls Tryz.prog 31 #[.slice (some ⟨kb,ko,none⟩) n cap] w fun e w'=>∃ g,e=.returned (.tuple #[.pointer (some ⟨g,0,none⟩),.int .i64 0])∧w.heap.size≤g∧Zm w' g (nk+6) (Yn nk key)∧Below w.heap.size w w'∧∃ R:Array Value,w'.heap[g]?=some (.cells R 135 (0,0)):=by
 obtain ⟨L,HL⟩:∃ L,Hid (L=Wg (nk+6) (Yn nk key)):=⟨_,rfl⟩
 have KS:Hid (Calls Tryz.prog 52 #[.slice (some ⟨kb,ko,none⟩) n cap] w fun e w'=>e=.returned (.agg L.toArray)∧Below w.heap.size w w'):=by
  rw[HL.out]
  exact Sz kb ko n cap nk key w hnk hn hkb hcell hkey hrc hpos
 obtain ⟨R,hR1,hR2,hR3,hR4⟩:=Iz L (by rw[HL.out];exact Kh _ _)
 have HR:Hid (Tryz.prog.built 135 [(1,.agg L.toArray)]=some R):=hR1
 have HR2:Hid (R.size=1091∧(∀ i,i<6→R[i]?=Tryz.zeroCells135[i]?)∧∀ j v,(Wg (nk+6) (Yn nk key))[j]?=some v→R[6+j]?=some v):=⟨hR2,hR3,by rw[←HL.out];exact hR4⟩
 have HKl:Hid (1≤nk+6∧nk+6≤14∧∀ i,Yn nk key i<4294967296):=⟨by omega,by omega,Lv hkey⟩
 clear hR1 hR2 hR3 hR4 hcell hkey hrc hkb hpos
 rcases hnk with rfl | rfl | rfl
 all_goals subst hn
 all_goals go_enter Tryz.func31,Tryz.ntmps31
 all_goals go_wp2_with (first
  | (go_at_call 52;refine KS.out.mono ?_)
  | fail)
 all_goals rintro e1 w1 ⟨rfl,hb1⟩
 all_goals (have HB:Hid (Below w.heap.size w w1):=hb1)
 all_goals clear hb1
 all_goals go_wp2_with (first
  | (refine Je (by rfl) 135 #[(1,.tmp 11)] (by rfl) R (by simp only[List.map_toArray,List.map_cons,List.map_nil];exact HR.out) ?_)
  | fail)
 all_goals go_ret2
 all_goals exact ⟨w1.heap.size,rfl,HB.out.size,Cu w1 R _ _ HR2.out.1 HR2.out.2.1 HR2.out.2.2 HKl.out.1 HKl.out.2.1 HKl.out.2.2,HB.out.alloc HB.out.size _,R,heap_alloc_new w1 _⟩
set_option linter.unusedSimpArgs false
theorem Cq (v:Value) (ys:List Int) (nk:Nat) (w:World) (hnk:nk=4∨nk=6∨nk=8) (hl:ys.length=4*nk) (hv:Zf w v ys) (hb:Zj ys) (hrc:RC w) (hpos:1<w.heap.size) :
  Calls Tryz.prog 31 #[v] w fun e w'=>Hid (∃ g,e=.returned (.tuple #[.pointer (some ⟨g,0,none⟩),.int .i64 0])∧w.heap.size≤g∧Zm w' g (nk+6) (Yn nk (Ql ys))∧Below w.heap.size w w'∧∃ R:Array Value,w'.heap[g]?=some (.cells R 135 (0,0))):=by
 have h0:ys≠[]:=by intro q;rw[q] at hl;simp at hl;omega
 have hlt:=Ht hv h0
 obtain ⟨a,c,rfl,h1,h2,h3,h4⟩:=hv
 rcases h4 with q | ⟨b,off,rfl,hc⟩
 ·exact absurd q h0
 ·rw[hl] at hc hlt ⊢
  exact (Zak b off (4*nk) c nk (Ql ys) w hnk rfl (hlt b off _ _ rfl) (fun i hi=>by rw[Dn hb];exact hc i hi) (Ge hb) hrc hpos).mono fun e w' hh=>hh
def shL (S:ByteArray) (st:Nat) (kv:Value) (wd:Nat) (mp:Option Addr) (ov:Value):List Value:=[.string S,.int .i64 (st:Nat),kv,.int .i64 (wd:Nat),.pointer mp,ov,.bool false]
def MK (w:World) (B:Nat) (mp:Option Addr) (wd:Nat) (zs:List Int):Prop:=
 (wd=0∧mp=none)∨∃ g nk,mp=some ⟨g,0,none⟩∧B≤g∧(nk=4∨nk=6∨nk=8)∧wd=4*nk∧Zm w g (nk+6) (Yn nk (Ql (zs.take wd)))∧∃ R:Array Value,w.heap[g]?=some (.cells R 135 (0,0))
structure ShA (B:Nat) (w:World) (sh:Nat) (S:ByteArray) (st wd:Nat) (zs:List Int) (kv:Value) (mp:Option Addr) (ov:Value):Prop where
 le:B≤sh
 box:Bx w sh 115 (shL S st kv wd mp ov)
 key:w.ownsRow B 5 1 kv zs.length (Za zs)
 main:MK w B mp wd zs
 oth:∃ n os,n≤4∧w.ownsRow B 71 1 ov n os
structure Fs (B sh:Nat) (w w':World):Prop where
 bel:Below B w w'
 blk:∀ b,b<w.heap.size→b≠sh→(∀ cs fr,w.heap[b]?≠some (.cells cs 71 fr))→w'.heap[b]?=w.heap[b]?
theorem Fs.of_below {B sh:Nat} {w w':World} (h:Below w.heap.size w w') (hB:B≤w.heap.size):Fs B sh w w':=⟨h.mono hB,fun b hb _ _=>h.block b hb⟩
theorem Fs.trans {B sh:Nat} {u v w:World} (h:Fs B sh u v) (k:Fs B sh v w):Fs B sh u w:=
 ⟨h.bel.trans k.bel,fun b hb hn ht=>by
  have e:=h.blk b hb hn ht
  rw[k.blk b (Nat.lt_of_lt_of_le hb h.bel.size) hn (by rw[e];exact ht),e]⟩
theorem Fs.bx {B sh b:Nat} {t:TypeId} {w w':World} {cs:List Value} (h:Fs B sh w w') (x:Bx w b t cs) (hn:b≠sh) (ht:t≠71):Bx w' b t cs:=
 x.keep (h.blk b x.lt hn (fun cs fr q=>by unfold Bx at x;rw[x] at q;injection q with q;injection q with _ q _;exact ht q))
theorem MK.keep {w w':World} {B:Nat} {mp:Option Addr} {wd:Nat} {zs:List Int} (h:MK w B mp wd zs) (hk:∀ g,mp=some ⟨g,0,none⟩→w'.heap[g]?=w.heap[g]?) (hs:w.heap.size≤w'.heap.size):MK w' B mp wd zs:=by
 rcases h with q | ⟨g,nk,e,hB,hn,hw,hK,R,hR⟩
 ·exact .inl q
 ·exact .inr ⟨g,nk,e,hB,hn,hw,hK.sameK (hk g e) hs,R,by rw[hk g e];exact hR⟩
theorem MK.lt {w:World} {B:Nat} {mp:Option Addr} {wd:Nat} {zs:List Int} (h:MK w B mp wd zs) (g:Nat) (e:mp=some ⟨g,0,none⟩):g<w.heap.size∧B≤g∧∃ R:Array Value,w.heap[g]?=some (.cells R 135 (0,0)):=by
 rcases h with ⟨_,q⟩ | ⟨g',nk,e',hB,hn,hw,hK,R,hR⟩
 ·rw[q] at e;cases e
 ·rw[e'] at e;injection e with e;injection e with e;subst e
  exact ⟨hK.ciph.here,hB,R,hR⟩
theorem Qg {w:World} {B:Nat} {e:TypeId} {K:Nat} {v:Value} {n:Nat} {xs:List Value} (h:w.ownsRow B e K v n xs) {g:Nat} (hg:v.ownBlock=some g):∃ cur,w.heap[g]?=some (.cells cur e (0,0)):=by
 rcases h.2 with ⟨rfl,_⟩ | ⟨g',cap,cur,rfl,_,hh,_⟩
 ·simp [Value.ownBlock] at hg
 ·have e:g'=g:=by simpa [Value.ownBlock] using hg
  subst e
  exact ⟨cur,hh⟩
theorem Z4 {w:World} {a b:Nat} {s t:TypeId} {cs ds:Array Value} {f g:Nat×Nat} (h:w.heap[a]?=some (.cells cs s f)) (k:w.heap[b]?=some (.cells ds t g)) (hst:s≠t):a≠b:=by
 intro e;subst e;rw[h] at k;injection k with k;injection k with _ k _;exact hst k
theorem ShA.below {B:Nat} {w w':World} {sh:Nat} {S:ByteArray} {st wd:Nat} {zs:List Int} {kv:Value} {mp:Option Addr} {ov:Value} (h:ShA B w sh S st wd zs kv mp ov) (b:Below w.heap.size w w'):ShA B w' sh S st wd zs kv mp ov:=
 ⟨h.le,h.box.below b,ownsRow_below h.key b,h.main.keep (fun g e=>b.block g (h.main.lt g e).1) b.size,by obtain ⟨n,os,hn,ho⟩:=h.oth;exact ⟨n,os,hn,ownsRow_below ho b⟩⟩
theorem ShA.sched {B:Nat} {w w1:World} {sh:Nat} {S:ByteArray} {st wd:Nat} {zs:List Int} {kv:Value} {mp:Option Addr} {ov ov':Value} {n:Nat} {os:List Value} (h:ShA B w sh S st wd zs kv mp ov) (hg:w.grownBy w1 ov.ownBlock) (ho:w1.ownsRow B 71 1 ov' n os) (hn:n≤4) (hB:B≤w.heap.size) :
  Bx w1 sh 115 (shL S st kv wd mp ov)∧ShA B (w1.setCell ⟨sh,5,none⟩ ov') sh S st wd zs kv mp ov'∧Fs B sh w (w1.setCell ⟨sh,5,none⟩ ov'):=by
 obtain ⟨n0,os0,_,ho0⟩:=h.oth
 have hne:∀ (b:Nat) (t:TypeId) (cs:Array Value) (fr:Nat×Nat),w.heap[b]?=some (Obj.cells cs t fr)→t≠71→w1.heap[b]?=w.heap[b]?:=fun b t cs fr hb ht=>by
  refine hg.block b (Array.getElem?_eq_some_iff.1 hb).1 ?_
  intro e
  obtain ⟨cur,q⟩:=Qg ho0 e.symm
  exact Z4 q hb (fun e=>ht e.symm) rfl
 have b1:Bx w1 sh 115 (shL S st kv wd mp ov):=h.box.keep (hne _ 115 _ _ h.box (by decide))
 have hst:∀ b,b≠sh→(w1.setCell ⟨sh,5,none⟩ ov').heap[b]?=w1.heap[b]?:=fun b hb=>Below.heap_setCell w1 ⟨sh,5,none⟩ ov' b (fun e=>hb e)
 have b2:=b1.set 5 ov'
 refine ⟨b1,⟨h.le,b2,?_,?_,n,os,hn,?_⟩,?_,?_⟩
 ·refine Y5 h.key fun g q=>?_
  obtain ⟨cur,hc⟩:=Qg h.key q
  rw[hst g (Z4 hc h.box (by decide)),hne g 5 _ _ hc (by decide)]
 ·refine h.main.keep (fun g e=>?_) ?_
  ·obtain ⟨_,_,R,hR⟩:=h.main.lt g e
   rw[hst g (Z4 hR h.box (by decide)),hne g 135 _ _ hR (by decide)]
  ·have:=hg.size;simpa using this
 ·refine Y5 ho fun g q=>?_
  obtain ⟨cur,hc⟩:=Qg ho q
  exact hst g (Z4 hc b1 (by decide))
 ·have q:Below B w w1:=(Below.refl _ _).grown hg hB (fun k hk=>(Zy ho0 hk).1)
  exact q.setCell h.le _
 ·intro b hb hn' ht
  rw[hst b hn']
  refine hg.block b hb ?_
  intro e
  obtain ⟨cur,q⟩:=Qg ho0 e.symm
  exact ht _ _ q
theorem Tryz.info105:(Tryz.prog.info? 71).map (fun i=>(i.zero,i.size,i.bytes))=some (some (.pointer none),1,8):=by kernel_rfl
set_option maxHeartbeats 1600000 in
set_option maxRecDepth 100000 in
theorem Cg (B sh:Nat) (S:ByteArray) (st wd:Nat) (zs:List Int) (kv:Value) (mp:Option Addr) (ov:Value) (v:Value) (ys:List Int) (nk:Nat) (w:World) (h:ShA B w sh S st wd zs kv mp ov) (hB:B≤w.heap.size) (hfew:∃ n os,n≤3∧w.ownsRow B 71 1 ov n os)
  (hnk:nk=4∨nk=6∨nk=8) (hl:ys.length=4*nk) (hv:Zf w v ys) (hb:Zj ys) (hrc:RC w) (hpos:1<w.heap.size) :
  Calls Tryz.prog 186 #[.pointer (some ⟨sh,0,none⟩),v] w fun e w'=>Hid (∃ g ov',e=.returned (.pointer (some ⟨g,0,none⟩))∧w.heap.size≤g∧Zm w' g (nk+6) (Yn nk (Ql ys))∧(∃ R:Array Value,w'.heap[g]?=some (.cells R 135 (0,0)))∧ShA B w' sh S st wd zs kv mp ov'∧(∀ n os,w.ownsRow B 71 1 ov n os→∃ os',w'.ownsRow B 71 1 ov' (n+1) os')∧Fs B sh w w'):=by
 have HN:Hid (Calls Tryz.prog 31 #[v] w fun e w'=>Hid (∃ g,e=.returned (.tuple #[.pointer (some ⟨g,0,none⟩),.int .i64 0])∧w.heap.size≤g∧Zm w' g (nk+6) (Yn nk (Ql ys))∧Below w.heap.size w w'∧∃ R:Array Value,w'.heap[g]?=some (.cells R 135 (0,0)))):=Cq v ys nk w hnk hl hv hb hrc hpos
 have HA:Hid (ShA B w sh S st wd zs kv mp ov):=h
 have HBB:Hid (B≤w.heap.size):=hB
 obtain ⟨n0,os0,hn0,ho0⟩:=hfew
 have HO0:Hid (n0≤3∧w.ownsRow B 71 1 ov n0 os0):=⟨hn0,ho0⟩
 clear h hB hnk hl hv hb hrc hpos hn0 ho0
 obtain ⟨i0,hi0,hz0,hz1,hz2⟩:=info_parts Tryz.info105
 have HI0:Hid (Tryz.prog.info? 71=some i0∧i0.zero=some (.pointer none)∧i0.size=1∧i0.bytes=8):=⟨hi0,hz0,hz1,hz2⟩
 clear hi0 hz0 hz1 hz2
 go_enter Tryz.func186,Tryz.ntmps186
 go_upto_region 2 with (go_at_call 31;refine HN.out.mono ?_;intro e1 w1 hh;obtain ⟨g,rfl,hg1,hK1,hb1,R1,hR1⟩:=hh.out;have HK1:Hid (w.heap.size≤g∧Zm w1 g (nk+6) (Yn nk (Ql ys))∧Below w.heap.size w w1∧w1.heap[g]?=some (.cells R1 135 (0,0))):=⟨hg1,hK1,hb1,hR1⟩;clear hh hg1 hK1 hb1 hR1 HN)
 have HA1:Hid (ShA B w1 sh S st wd zs kv mp ov):=HA.out.below HK1.out.2.2.1
 have HO1:Hid (w1.ownsRow B 71 1 ov n0 os0):=ownsRow_below HO0.out.2 HK1.out.2.2.1
 have hov:(∃ x a c,ov=.slice x a c):=by
  rcases HO1.out.2 with ⟨rfl,_⟩ | ⟨g',cap,cur,rfl,_⟩
  ·exact ⟨_,_,_,rfl⟩
  ·exact ⟨_,_,_,rfl⟩
 obtain ⟨xa,xl,xc,rfl⟩:=hov
 have c5:w1.cell? ⟨sh,5,none⟩=some (.slice xa xl xc):=HA1.out.box.cell 5 _ rfl
 have hlt:Hid (sh<w1.heap.size):=HA1.out.box.lt
 have HA2:Hid (ShA B (w1.alloc (.cells #[.pointer (some ⟨g,0,none⟩)] 71)) sh S st wd zs kv mp (.slice xa xl xc)):=HA1.out.below ((Below.refl _ _).alloc (Nat.le_refl _) _)
 go_wp2_with (first
  | (at_builtin;go_must (refine wpList_append_own_at _ rfl (.tmp 16) (.tmp 18) 113 rfl B 71 i0 (.pointer none) 1 8 Tryz.underlying113 HI0.out.1 HI0.out.2.1 HI0.out.2.2.1 HI0.out.2.2.2 rfl (by decide) _ n0 os0 rfl (HO1.out.alloc _) ⟨w1.heap.size,0,none⟩ 1 1 [.pointer (some ⟨g,0,none⟩)] rfl rfl ?_ ?_ ?_ ?_ ?_ ?_)))
 ·intro j u hj
  match j,hj with
  | 0,hj=>simp at hj;subst hj;simp [Addr.add]
 ·intro u hu;simp at hu;subst hu;rfl
 ·have:=HO0.out.1;unfold maxLen;omega
 ·have:=HO0.out.1;omega
 ·have:=HBB.out;have:=HK1.out.2.2.1.size;simp;omega
 intro v2 w2 hown hgrow hnil hat
 obtain ⟨hbx,hsh,hfs⟩:=HA2.out.sched hgrow hown (by have:=HO0.out.1;omega) (by have:=HBB.out;have:=HK1.out.2.2.1.size;simp;omega)
 have hv2:(∃ x a c,v2=.slice x a c):=by
  rcases hown.2 with ⟨rfl,_⟩ | ⟨g',cap,cur,rfl,_⟩
  ·exact ⟨_,_,_,rfl⟩
  ·exact ⟨_,_,_,rfl⟩
 obtain ⟨ya,yl,yc,rfl⟩:=hv2
 have HSH:Hid (ShA B (w2.setCell ⟨sh,5,none⟩ (.slice ya yl yc)) sh S st wd zs kv mp (.slice ya yl yc)):=hsh
 have HFS:Hid (Fs B sh (w1.alloc (.cells #[.pointer (some ⟨g,0,none⟩)] 71)) (w2.setCell ⟨sh,5,none⟩ (.slice ya yl yc))):=hfs
 have d5:w2.cell? ⟨sh,5,none⟩=some (.slice xa xl xc):=hbx.cell 5 _ rfl
 have f5:w2.frozen? ⟨sh,5,none⟩=false:=hbx.frozen 5
 have HOW:Hid (w2.ownsRow B 71 1 (.slice ya yl yc) (n0+1) (os0++[.pointer (some ⟨g,0,none⟩)])∧w2.heap[sh]?=some (.cells (shL S st kv wd mp (.slice xa xl xc)).toArray 115 (0,0))):=⟨hown,hbx⟩
 clear hown hgrow hnil hat hbx hsh hfs c5
 go_wp2
 go_ret
 have hF:Fs B sh w (w2.setCell ⟨sh,5,none⟩ (.slice ya yl yc)):=(Fs.of_below HK1.out.2.2.1 HBB.out).trans ((Fs.of_below ((Below.refl _ _).alloc (Nat.le_refl _) _) (Nat.le_trans HBB.out HK1.out.2.2.1.size)).trans HFS.out)
 have hgk:(w2.setCell ⟨sh,5,none⟩ (.slice ya yl yc)).heap[g]?=w1.heap[g]?:=by
  have l:g<w1.heap.size:=HK1.out.2.1.ciph.here
  have e:(w1.alloc (.cells #[.pointer (some ⟨g,0,none⟩)] 71)).heap[g]?=w1.heap[g]?:=Below.heap_alloc _ _ _ l
  rw[HFS.out.blk g (by simp;omega) (Z4 HK1.out.2.2.2 HA1.out.box (by decide)) (by rw[e,HK1.out.2.2.2];intro cs fr q;injection q with q;injection q with _ q _;exact absurd q (by decide)),e]
 refine ⟨g,.slice ya yl yc,rfl,HK1.out.1,HK1.out.2.1.sameK hgk (Nat.le_trans (by simp) HFS.out.bel.size),⟨R1,by rw[hgk];exact HK1.out.2.2.2⟩,HSH.out,fun n os ho=>?_,hF⟩
 have e:n=n0:=by
  have q1:=ho.2
  have q2:=HO0.out.2.2
  rcases q1 with ⟨q,r⟩ | ⟨_,_,_,q,_⟩<;>rcases q2 with ⟨q',r'⟩ | ⟨_,_,_,q',_⟩
  ·omega
  ·rw[q] at q';cases q'
  ·rw[q] at q';cases q'
  ·rw[q] at q';injection q' with _ q' _
 subst e
 exact ⟨_,Y5 HOW.out.1 fun b q=>by
  obtain ⟨cur,hc⟩:=Qg HOW.out.1 q
  exact Below.heap_setCell w2 ⟨sh,5,none⟩ _ b (fun e=>Z4 HOW.out.2 hc (by decide) e.symm)⟩
end Go.Proofs.YtehlppaidgkpaaaGreatDoor
namespace Go.Proofs.YtehlppaidgkpaaaGreatDoor.Dg
open Go.RowKit
set_option linter.unusedVariables false
set_option linter.unusedSimpArgs false
structure RTab (w:World):Prop where
 cubes:∀ t,t<80→w.cell? ⟨3,t,none⟩=some (.int .u64 (Zp t))
 roots:∀ t,t<16→w.cell? ⟨2,t,none⟩=some (.int .u64 (K6 t))
theorem RTab.kept {w w':World} (h:RTab w) (hb:∀ k,k<4→w'.heap[k]?=w.heap[k]?):RTab w':=
 ⟨fun t ht=>by rw[World.cell?_of_block (w:=w) (hb 3 (by omega))];exact h.cubes t ht,fun t ht=>by rw[World.cell?_of_block (w:=w) (hb 2 (by omega))];exact h.roots t ht⟩
theorem RTab.size {w:World} (h:RTab w):4≤w.heap.size:=lt_of_cell (h.cubes 0 (by omega))
theorem RTab.below {w w':World} {B:Nat} (h:RTab w) (b:Below B w w') (hB:4≤B):RTab w':=h.kept fun k hk=>b.block k (by omega)
theorem Ds:∀ q,q<8→(K6 (8+q)).tmod 4294967296=Xd 224 q:=by decide +kernel
set_option maxHeartbeats 1600000 in
set_option maxRecDepth 100000 in
theorem Zb0 (w:World) (hT:Hid (RTab w)) :
  Calls Tryz.prog 69 #[.int .i64 224] w fun e w'=>e=.returned (.agg (Zq 224).cells.toArray)∧Below w.heap.size w w':=by
 have HB0:Hid (Below w.heap.size w ((w.alloc (.cells #[.int .u64 0,.int .u64 0,.int .u64 0,.int .u64 0,.int .u64 0,.int .u64 0,.int .u64 0,.int .u64 0] 137)).alloc (.cells #[.int .u64 0,.int .u64 0,.int .u64 0,.int .u64 0,.int .u64 0,.int .u64 0,.int .u64 0,.int .u64 0] 137))∧((w.alloc (.cells #[.int .u64 0,.int .u64 0,.int .u64 0,.int .u64 0,.int .u64 0,.int .u64 0,.int .u64 0,.int .u64 0] 137)).alloc (.cells #[.int .u64 0,.int .u64 0,.int .u64 0,.int .u64 0,.int .u64 0,.int .u64 0,.int .u64 0,.int .u64 0] 137)).there (w.heap.size+1) 0 8∧((w.alloc (.cells #[.int .u64 0,.int .u64 0,.int .u64 0,.int .u64 0,.int .u64 0,.int .u64 0,.int .u64 0,.int .u64 0] 137)).alloc (.cells #[.int .u64 0,.int .u64 0,.int .u64 0,.int .u64 0,.int .u64 0,.int .u64 0,.int .u64 0,.int .u64 0] 137)).there w.heap.size 0 8):=⟨((Below.refl _ _).alloc (Nat.le_refl _) _).alloc (by simp) _,Qb w _ _ 137 137 8 (by decide),World.there_alloc (Zk w _ 137 8 (by decide)) _⟩
 go_enter Tryz.func69,Tryz.ntmps69
 go_wp2
 go_loopw [4] (fun v wr=>∃ q:Nat,q≤8∧v=.int .i64 q∧Hid (Below w.heap.size w wr)∧Hid (wr.there (w.heap.size+1) 0 8∧wr.there w.heap.size 0 8)∧Hid (∀ j,j<q→wr.cell? ⟨w.heap.size+1,j,none⟩=some (.int .u64 (Xd 224 j)))) (fun v _=>8-(intOf v).toNat)
 case atStart=>exact ⟨0,by omega,rfl,HB0.out.1,HB0.out.2,fun j hj=>by omega⟩
 case round=>
  obtain ⟨q,hq,rfl,HB,HT,HF⟩:=hrel
  clear HB0
  by_cases hlt:q<8
  ·obtain ⟨jj,hjj⟩:∃ jj,jj=8+q:=⟨_,rfl⟩
   have hTr:=hT.out.below HB.out hT.out.size
   have c1:=hTr.roots (jj) (by omega)
   have hql:(q:Int)<8:=by omega
   have hq0:(0:Int)≤(q:Int):=by omega
   have e8:(8:Int)+(q:Int)=(jj:Int):=by omega
   have e9:(jj:Int)<16:=by omega
   have HJ:Hid (jj=8+q):=hjj
   clear hjj
   have ff:wr.frozen? ⟨w.heap.size+1,q,none⟩=false:=by have:=(HT.out.1 q hlt).2;rw[Nat.zero_add] at this;exact this
   have fs:(wr.cell? ⟨w.heap.size+1,q,none⟩).isSome=true:=by have:=(HT.out.1 q hlt).1;rw[Nat.zero_add] at this;exact this
   obtain ⟨z,hz⟩:=Option.isSome_iff_exists.1 fs
   clear fs hTr
   go_wp2
   go_roundw
   case rel=>
    have hf:=Xv (F:=fun j=>.int .u64 (Xd 224 j)) HF.out HT.out.1 hlt (.int .u64 (Xd 224 q)) rfl
    obtain rfl:=HJ.out
    rw[Ds q hlt]
    refine ⟨q+1,by omega,by go_num,HB.out.setCell (by simp) _,⟨World.there_setCells HT.out.1 _ q [_],World.there_setCells HT.out.2 _ q [_]⟩,hf.1⟩
   case measure=>simp [intOf];omega
  ·obtain rfl:q=8:=by omega
   have HR:Hid (wr.rangeAt (w.heap.size+1) 0 (Zq 224).cells):=fun j v hv=>by
    obtain ⟨hj,rfl⟩:=Jt _ j v hv
    rw[Nat.zero_add]
    exact HF.out j hj
   have HY:Hid (wr.there w.heap.size 0 (Zq 224).cells.toArray.size):=HT.out.2
   have HZ:Hid ((Tryz.prog.info? 137).map (·.size)=some (Zq 224).cells.toArray.size):=Qi
   obtain ⟨E,HE⟩:∃ E:Zb,Hid (E=Zq 224):=⟨_,rfl⟩
   rw[←HE.out] at HR HY HZ
   clear HF
   go_wp2_with (first
    | (refine wpList_load_mid (by rfl) 137 (.tmp 3) (by rfl) (w.heap.size+1) 0 (by rfl) E.cells _ HR.out Tryz.underlying137 rfl Qi ?_)
    | (refine wpList_store_mid (by rfl) 137 (.tmp 2) (.tmp 42) (by rfl) w.heap.size 0 E.cells.toArray (by rfl) (by rfl) HY.out HZ.out (Xi E) ?_)
    | fail)
   have hl:=run_loadVar_mid (P:=Tryz.prog) (wr.setCells w.heap.size 0 E.cells) w.heap.size 0 137 E.cells _ (World.rangeAt_setCells_same wr w.heap.size 0 E.cells HT.out.2) Tryz.underlying137 rfl Qi
   refine bodyPost_ret (v:=.agg E.cells.toArray) ?_ rfl ⟨by rw[HE.out],below_setCells _ (Nat.le_refl _) _ _ _ HB.out⟩
   rw[Zt Tryz.results69]
   simp [Act.put,asAddr,hl]
set_option maxHeartbeats 1600000 in
set_option maxRecDepth 100000 in
theorem L5 (w:World) (hT:Hid (RTab w)) :
  Calls Tryz.prog 69 #[.int .i64 256] w fun e w'=>e=.returned (.agg (Zq 256).cells.toArray)∧Below w.heap.size w w':=by
 have HB0:Hid (Below w.heap.size w ((w.alloc (.cells #[.int .u64 0,.int .u64 0,.int .u64 0,.int .u64 0,.int .u64 0,.int .u64 0,.int .u64 0,.int .u64 0] 137)).alloc (.cells #[.int .u64 0,.int .u64 0,.int .u64 0,.int .u64 0,.int .u64 0,.int .u64 0,.int .u64 0,.int .u64 0] 137))∧((w.alloc (.cells #[.int .u64 0,.int .u64 0,.int .u64 0,.int .u64 0,.int .u64 0,.int .u64 0,.int .u64 0,.int .u64 0] 137)).alloc (.cells #[.int .u64 0,.int .u64 0,.int .u64 0,.int .u64 0,.int .u64 0,.int .u64 0,.int .u64 0,.int .u64 0] 137)).there (w.heap.size+1) 0 8∧((w.alloc (.cells #[.int .u64 0,.int .u64 0,.int .u64 0,.int .u64 0,.int .u64 0,.int .u64 0,.int .u64 0,.int .u64 0] 137)).alloc (.cells #[.int .u64 0,.int .u64 0,.int .u64 0,.int .u64 0,.int .u64 0,.int .u64 0,.int .u64 0,.int .u64 0] 137)).there w.heap.size 0 8):=⟨((Below.refl _ _).alloc (Nat.le_refl _) _).alloc (by simp) _,Qb w _ _ 137 137 8 (by decide),World.there_alloc (Zk w _ 137 8 (by decide)) _⟩
 go_enter Tryz.func69,Tryz.ntmps69
 go_wp2
 go_loopw [4] (fun v wr=>∃ q:Nat,q≤8∧v=.int .i64 q∧Hid (Below w.heap.size w wr)∧Hid (wr.there (w.heap.size+1) 0 8∧wr.there w.heap.size 0 8)∧Hid (∀ j,j<q→wr.cell? ⟨w.heap.size+1,j,none⟩=some (.int .u64 (Xd 256 j)))) (fun v _=>8-(intOf v).toNat)
 case atStart=>exact ⟨0,by omega,rfl,HB0.out.1,HB0.out.2,fun j hj=>by omega⟩
 case round=>
  obtain ⟨q,hq,rfl,HB,HT,HF⟩:=hrel
  clear HB0
  by_cases hlt:q<8
  ·obtain ⟨jj,hjj⟩:∃ jj,jj=8+q:=⟨_,rfl⟩
   have hTr:=hT.out.below HB.out hT.out.size
   have c1:=hTr.roots (q) (by omega)
   have hql:(q:Int)<8:=by omega
   have hq0:(0:Int)≤(q:Int):=by omega
   skip
   have ff:wr.frozen? ⟨w.heap.size+1,q,none⟩=false:=by have:=(HT.out.1 q hlt).2;rw[Nat.zero_add] at this;exact this
   have fs:(wr.cell? ⟨w.heap.size+1,q,none⟩).isSome=true:=by have:=(HT.out.1 q hlt).1;rw[Nat.zero_add] at this;exact this
   obtain ⟨z,hz⟩:=Option.isSome_iff_exists.1 fs
   clear fs hTr
   go_wp2
   go_roundw
   case rel=>
    have hf:=Xv (F:=fun j=>.int .u64 (Xd 256 j)) HF.out HT.out.1 hlt (.int .u64 (Xd 256 q)) rfl
    skip
    refine ⟨q+1,by omega,by go_num,HB.out.setCell (by simp) _,⟨World.there_setCells HT.out.1 _ q [_],World.there_setCells HT.out.2 _ q [_]⟩,hf.1⟩
   case measure=>simp [intOf];omega
  ·obtain rfl:q=8:=by omega
   have HR:Hid (wr.rangeAt (w.heap.size+1) 0 (Zq 256).cells):=fun j v hv=>by
    obtain ⟨hj,rfl⟩:=Jt _ j v hv
    rw[Nat.zero_add]
    exact HF.out j hj
   have HY:Hid (wr.there w.heap.size 0 (Zq 256).cells.toArray.size):=HT.out.2
   have HZ:Hid ((Tryz.prog.info? 137).map (·.size)=some (Zq 256).cells.toArray.size):=Qi
   obtain ⟨E,HE⟩:∃ E:Zb,Hid (E=Zq 256):=⟨_,rfl⟩
   rw[←HE.out] at HR HY HZ
   clear HF
   go_wp2_with (first
    | (refine wpList_load_mid (by rfl) 137 (.tmp 3) (by rfl) (w.heap.size+1) 0 (by rfl) E.cells _ HR.out Tryz.underlying137 rfl Qi ?_)
    | (refine wpList_store_mid (by rfl) 137 (.tmp 2) (.tmp 42) (by rfl) w.heap.size 0 E.cells.toArray (by rfl) (by rfl) HY.out HZ.out (Xi E) ?_)
    | fail)
   have hl:=run_loadVar_mid (P:=Tryz.prog) (wr.setCells w.heap.size 0 E.cells) w.heap.size 0 137 E.cells _ (World.rangeAt_setCells_same wr w.heap.size 0 E.cells HT.out.2) Tryz.underlying137 rfl Qi
   refine bodyPost_ret (v:=.agg E.cells.toArray) ?_ rfl ⟨by rw[HE.out],below_setCells _ (Nat.le_refl _) _ _ _ HB.out⟩
   rw[Zt Tryz.results69]
   simp [Act.put,asAddr,hl]
theorem B7 {h:Int} (k:X8 h) (w:World) (hT:Hid (RTab w)):Calls Tryz.prog 69 #[.int .i64 h] w fun e w'=>e=.returned (.agg (Zq h).cells.toArray)∧Below w.heap.size w w':=by
 obtain rfl:h=256:=k
 exact L5 w hT
theorem V6 (h:Int) (k:X8 h) (w:World):Calls Tryz.prog 68 #[.int .i64 h] w fun e w'=>e=.returned (.int .i64 (bsz (Xe h)))∧w'=w:=by
 obtain rfl:h=256:=k
 all_goals
  go_enter Tryz.func68,Tryz.ntmps68
  go_wp2
  go_ret
  exact ⟨rfl,rfl⟩
theorem Gv (h:Int) (k:X8 h) (w:World):Calls Tryz.prog 73 #[.int .i64 h] w fun e w'=>e=.returned (.int .i64 (Yr h))∧w'=w:=by
 obtain rfl:h=256:=k
 all_goals
  go_enter Tryz.func73,Tryz.ntmps73
  go_wp2
  go_ret
  exact ⟨rfl,rfl⟩
theorem Iv:∀ t,t<80→IntKind.u32.wrap (Zp t/4294967296)=Zp t/4294967296:=by decide +kernel
theorem O4:(Tryz.prog.info? 196).map (·.size)=some (Cl 64 (fun j=>.int .u32 (Zp j/4294967296))).length:=by rw[Xb];kernel_rfl
theorem O0 {wr:World} {a:Addr} {u:Value} {k:Nat} (h:wr.heap.size=k):Hid ((wr.setCell a u).heap.size=k):=by
 show (wr.setCell a u).heap.size=k
 simpa [World.setCell] using h
theorem Uy (s:Zb):s.cells=Cl 8 (fun j=>.int .u64 (fnz s.list j)):=rfl
def Zb.low (s:Zb):Zb:=s.map (·%4294967296)
theorem Zat (s:Zb) (j:Nat) (hj:j<8):fnz s.low.list j=fnz s.list j%4294967296:=by
 match j,hj with
 | 0,_ | 1,_ | 2,_ | 3,_ | 4,_ | 5,_ | 6,_ | 7,_=>rfl
theorem Re (C B:Nat→Int) (s:Zb):Zb.zip (fun h x=>(h+x)%4294967296) s.low (Yo C (Zi B) 64 s.low)=Xs C B s:=by
 unfold Xs
 generalize hr:Yo C (Zi B) 64 s.low=r
 have hr':Yo C (Zi B) 64 ⟨s.a%4294967296,s.b%4294967296,s.c%4294967296,s.d%4294967296,s.e%4294967296,s.f%4294967296,s.g%4294967296,s.k%4294967296⟩=r:=hr
 rw[hr']
 simp only[Zb.zip,Zb.low,Zb.map,Int.emod_add_emod]
theorem M5 (C B:Nat→Int) (s:Zb):(Xs C B s).low=Xs C B s:=by
 unfold Xs Zb.zip Zb.low Zb.map
 simp only[Int.emod_emod]
theorem Ei (u:World) (b p n cap q k:Nat) (kk:Int) (hk:kk=(k:Nat)) (h0:0<k) (h1:q+k≤cap):(Instr.slice 22 (.slice (some ⟨b,p,none⟩) n cap) (some (.int .i64 (q:Nat))) (some (.int .i64 ((q:Int)+kk))) none).run Tryz.prog u=.ok (.slice (some ⟨b,p+q,none⟩) k (cap-q)) u:=by
 subst hk
 rw[run_slice_lh u 22 (some ⟨b,p,none⟩) n cap Ox .i64 .i64 q ((q:Int)+(k:Nat)) (by omega) (by omega) (by omega),Ir,Sw]
 have e1:((q:Int)+(k:Nat)).toNat-q=k:=by omega
 simp only[Result.andThen,sliced,Int.toNat_natCast,e1]
 rw[if_neg (by omega),Option.map_some,Nat.mul_one,Addr.add_mid]
set_option maxHeartbeats 3200000 in
set_option maxRecDepth 100000 in
theorem Dh (h0 h1 h2 h3 h4 h5 h6 h7:Int) (B:Nat→Int) (b p n m cap:Nat) (w:World) (hT:RTab w) (hn:n=64*m)
  (hcap:n≤cap) (hcm:cap≤9223372036854775807) (hbw:b<w.heap.size) (hB:∀ i,i<n→w.cell? ⟨b,p+i,none⟩=some (.int .u8 (B i))) :
  Calls Tryz.prog 71 #[.agg #[.int .u64 h0,.int .u64 h1,.int .u64 h2,.int .u64 h3,.int .u64 h4,.int .u64 h5,.int .u64 h6,.int .u64 h7],.slice (some ⟨b,p,none⟩) n cap] w fun e w'=>
   e=.returned (.agg (Zb.cells (Z7 Zp B ⟨h0,h1,h2,h3,h4,h5,h6,h7⟩ m).low).toArray)∧Below w.heap.size w w':=by
 have hw1:=hT.size
 have HB:Hid (∀ i,i<n→w.cell? ⟨b,p+i,none⟩=some (.int .u8 (B i))):=hB
 have HT:Hid (RTab w):=hT
 have HN:Hid (n=64*m):=hn
 clear hB hT hn
 go_enter Tryz.func71,Tryz.ntmps71
 go_wp2
 go_loopw [6] (fun v wr=>∃ t:Nat,t≤64∧v=.int .i64 t∧Hid (wr.heap.size=w.heap.size+3)∧Hid (Mem w wr [(Cl 8 (fun j=>.int .u64 (fnz (Zb.list ⟨h0,h1,h2,h3,h4,h5,h6,h7⟩) j))),(Cl 8 (fun _=>.int .u64 0)),Cl 64 (fun j=>.int .u32 (if j<t then Zp j/4294967296 else 0))])) (fun v _=>64-(intOf v).toNat)
 case atStart=>
  refine ⟨0,by omega,rfl,(by simp:_=_),?_⟩
  exact ((((Mem.nil w).alloc (by simp) _ _).alloc (by simp) _ _).alloc (by simp) _ _).congr rfl
 case round=>
  obtain ⟨t,ht,rfl,HS,HM⟩:=hrel
  by_cases h64:t<64
  ·have f0:wr.cell? ⟨3,t,none⟩=some (.int .u64 (Zp t)):=(HT.out.below HM.out.below hw1).cubes t (by omega)
   have fw:wr.frozen? ⟨w.heap.size+2,t,none⟩=false:=HM.out.frozen 2 rfl t (by rw[Xb];exact h64)
   obtain ⟨u,fu⟩:∃ u,wr.cell? ⟨w.heap.size+2,t,none⟩=some u:=⟨_,HM.out.cell 2 rfl t _ (V2 _ _ t h64)⟩
   have hu32:IntKind.u32.wrap (Zp t/4294967296)=Zp t/4294967296:=Iv t (by omega)
   go_wp2
   go_roundw
   case rel=>
    refine ⟨t+1,by omega,by go_num,O0 HS.out,(HM.out.put 2 rfl t (by rw[Xb];exact h64) (.int .u32 (Zp t/4294967296))).congr ?_⟩
    rw[Mi]
    show [_,_,_]=[_,_,_]
    congr 3
    refine Fr fun j hj=>?_
    by_cases e:j=t
    ·subst e
     rw[if_pos rfl,if_pos (by omega)]
    ·rw[if_neg e]
     by_cases e2:j<t
     ·rw[if_pos e2,if_pos (by omega)]
     ·rw[if_neg e2,if_neg (by omega)]
   case measure=>simp [intOf];omega
  ·obtain rfl:t=64:=by omega
   clear h64 ht
   have HM2:Hid (Mem w (wr.alloc (.cells #[.int .u32 0,.int .u32 0,.int .u32 0,.int .u32 0,.int .u32 0,.int .u32 0,.int .u32 0,.int .u32 0] 198)) [(Cl 8 (fun j=>.int .u64 (fnz (Zb.list ⟨h0,h1,h2,h3,h4,h5,h6,h7⟩) j))),(Cl 8 (fun _=>.int .u64 0)),(Cl 64 (fun j=>.int .u32 (Zp j/4294967296))),Cl 8 (fun j=>.int .u32 0)]):=(HM.out.alloc (by rw[HS.out];rfl) _ _).congr (by
    show [_,_,_,_]=[_,_,_,_]
    congr 3)
   have hsz:=HS.out
   clear HM HS
   go_wp2
   generalize wr.alloc (.cells #[.int .u32 0,.int .u32 0,.int .u32 0,.int .u32 0,.int .u32 0,.int .u32 0,.int .u32 0,.int .u32 0] 198)=wa at HM2 ⊢
   clear hsz
   rw[show ((64:Nat):Int)=64 from rfl]
   go_loopw [8] (fun v wr=>∃ t:Nat,t≤8∧v=.int .i64 t∧Hid (Mem w wr [(Cl 8 (fun j=>.int .u64 (fnz (Zb.list ⟨h0,h1,h2,h3,h4,h5,h6,h7⟩) j))),(Cl 8 (fun _=>.int .u64 0)),(Cl 64 (fun j=>.int .u32 (Zp j/4294967296))),Cl 8 (fun j=>.int .u32 (if j<t then fnz (Zb.list ⟨h0,h1,h2,h3,h4,h5,h6,h7⟩) j%4294967296 else 0))])) (fun v _=>8-(intOf v).toNat)
   case atStart=>exact ⟨0,by omega,rfl,HM2⟩
   case round=>
    obtain ⟨t,ht,rfl,HM⟩:=hrel
    clear HM2
    by_cases h8:t<8
    ·have f0:wr.cell? ⟨w.heap.size,t,none⟩=some (.int .u64 (fnz (Zb.list ⟨h0,h1,h2,h3,h4,h5,h6,h7⟩) t)):=HM.out.cell 0 rfl t _ (V2 _ _ t h8)
     have fw:wr.frozen? ⟨w.heap.size+3,t,none⟩=false:=HM.out.frozen 3 rfl t (by rw[Xb];exact h8)
     obtain ⟨u,fu⟩:∃ u,wr.cell? ⟨w.heap.size+3,t,none⟩=some u:=⟨_,HM.out.cell 3 rfl t _ (V2 _ _ t h8)⟩
     obtain ⟨x,hx⟩:∃ x,Hid (x=fnz (Zb.list ⟨h0,h1,h2,h3,h4,h5,h6,h7⟩) t):=⟨_,rfl⟩
     rw[←hx.out] at f0
     go_wp2
     go_roundw
     case rel=>
      refine ⟨t+1,by omega,by go_num,(HM.out.put 3 rfl t (by rw[Xb];exact h8) (.int .u32 (x%4294967296))).congr ?_⟩
      rw[Mi]
      show [_,_,_,_]=[_,_,_,_]
      congr 4
      refine Fr fun j hj=>?_
      by_cases e:j=t
      ·subst e
       rw[if_pos rfl,if_pos (by omega),hx.out]
      ·rw[if_neg e]
       by_cases e2:j<t
       ·rw[if_pos e2,if_pos (by omega)]
       ·rw[if_neg e2,if_neg (by omega)]
     case measure=>simp [intOf];omega
    ·obtain rfl:t=8:=by omega
     clear h8 ht
     have HM3:Hid (Mem w wr [(Cl 8 (fun j=>.int .u64 (fnz (Zb.list ⟨h0,h1,h2,h3,h4,h5,h6,h7⟩) j))),(Cl 8 (fun _=>.int .u64 0)),(Cl 64 (fun j=>.int .u32 (Zp j/4294967296))),(Z7 Zp B ⟨h0,h1,h2,h3,h4,h5,h6,h7⟩ 0).low.cells32]):=HM.out.congr (by
      show [_,_,_,_]=[_,_,_,_]
      congr 4)
     clear HM
     go_wp2
     rw[show ((8:Nat):Int)=8 from rfl]
     go_loopw [9] (fun v wr=>∃ i:Nat,i≤m∧v=.int .i64 ((64*i:Nat):Int)∧Hid (Mem w wr [(Cl 8 (fun j=>.int .u64 (fnz (Zb.list ⟨h0,h1,h2,h3,h4,h5,h6,h7⟩) j))),(Cl 8 (fun _=>.int .u64 0)),(Cl 64 (fun j=>.int .u32 (Zp j/4294967296))),(Z7 Zp B ⟨h0,h1,h2,h3,h4,h5,h6,h7⟩ i).low.cells32])) (fun v _=>n-(intOf v).toNat)
     case atStart=>exact ⟨0,by omega,rfl,HM3⟩
     case round=>
      obtain ⟨i,hi,rfl,HM⟩:=hrel
      clear HM3
      obtain ⟨q,hq⟩:∃ q,q=64*i:=⟨_,rfl⟩
      obtain ⟨E,HE⟩:∃ E:Zb,Hid (E=(Z7 Zp B ⟨h0,h1,h2,h3,h4,h5,h6,h7⟩ i).low):=⟨_,rfl⟩
      rw[←HE.out] at HM
      rw[←hq]
      have HQ:Hid (q=64*i):=hq
      clear hq
      by_cases hlt:i<m
      ·have hqn:q<n:=by have:=HQ.out;have:=HN.out;omega
       have hq64:IntKind.i64.wrap ((q:Int)+64)=(q:Int)+64:=by
        have:=HQ.out;have:=HN.out
        rw[IntKind.wrap_i64]
        omega
       have HSl:Hid (∀ u,(Instr.slice 22 (.slice (some ⟨b,p,none⟩) n cap) (some (.int .i64 (q:Nat))) (some (.int .i64 ((q:Int)+64))) none).run Tryz.prog u=.ok (.slice (some ⟨b,p+q,none⟩) 64 (cap-q)) u):=fun u=>Ei u b p n cap q 64 64 rfl (by omega) (by have:=HQ.out;have:=HN.out;omega)
       obtain ⟨E2,HE2⟩:∃ E2:Zb,Hid (E2=Z7 Zp B ⟨h0,h1,h2,h3,h4,h5,h6,h7⟩ (i+1)):=⟨_,rfl⟩
       have HCall:Hid (∀ u,Below wr.heap.size wr u→Calls Tryz.prog 114 #[.agg E.cells32.toArray,.slice (some ⟨b,p+q,none⟩) 64 (cap-q),.agg (Cl 64 (fun j=>.int .u32 (Zp j/4294967296))).toArray] u fun e w'=>e=.returned (.agg E2.cells32.toArray)∧Below wr.heap.size wr w'):=fun u hu=>by
        have hbu:b<wr.heap.size:=Nat.lt_of_lt_of_le hbw HM.out.below.size
        refine (Hy E.a E.b E.c E.d E.e E.f E.g E.k (Cl 64 (fun j=>.int .u32 (Zp j/4294967296))).toArray Zp (fun j=>B (64*i+j)) b (p+q) (cap-q) u (fun t ht=>by rw[List.getElem?_toArray];exact V2 _ _ t ht) (by have:=HQ.out;have:=HN.out;omega) (by omega) (fun j hj=>?_)).mono fun e w' h=>⟨?_,hu.trans (h.2.mono hu.size)⟩
        ·rw[hu.cell hbu,HM.out.below.cell hbw,Nat.add_assoc,HB.out (q+j) (by have:=HQ.out;have:=HN.out;omega),HQ.out]
        ·rw[h.1,HE2.out]
         have e1:Z7 Zp B ⟨h0,h1,h2,h3,h4,h5,h6,h7⟩ (i+1)=Xs Zp (fun j=>B (64*i+j)) (Z7 Zp B ⟨h0,h1,h2,h3,h4,h5,h6,h7⟩ i):=rfl
         rw[e1,←Re,←HE.out]
       have hS0:Below wr.heap.size wr wr.drew:=(Below.refl _ _).drew
       clear HE
       go_wp2
       refine wp_region_noPanic ?_
       refine Z3 (fun u=>Below wr.heap.size wr u) 7 (by kernel_rfl) (by decide) (by decide +kernel) (by decide +kernel) (by decide +kernel) (fun inv=>?_)
       refine tT 0 38 (.agg (E.cells32).toArray) inv rfl rfl (by decide +kernel) (hS0) (yieldsIf_load_mid (by kernel_rfl) 198 (.tmp 7) rfl (w.heap.size+3) 0 rfl E.cells32 _ (fun u hu=>((HM.out.later hu).holds 3 _ rfl).1) Tryz.underlying198 rfl H7) (fun inv=>?_)
       simp only[pU]
       refine tT 1 39 (.slice (some ⟨b,p,none⟩) n cap) inv rfl rfl (by decide +kernel) (hS0) (Or.inl ⟨by rfl,fun w' hS'=>by go_simp⟩) (fun inv=>?_)
       simp only[pU]
       refine tT 2 40 (.int .i64 (q:Nat)) inv rfl rfl (by decide +kernel) (hS0) (Or.inl ⟨by rfl,fun w' hS'=>by go_simp⟩) (fun inv=>?_)
       simp only[pU]
       refine tT 3 41 (.int .i64 (q:Nat)) inv rfl rfl (by decide +kernel) (hS0) (Or.inl ⟨by rfl,fun w' hS'=>by go_simp⟩) (fun inv=>?_)
       simp only[pU]
       refine tT 4 42 (.int .i64 ((q:Int)+64)) inv rfl rfl (by decide +kernel) (hS0) (Or.inl ⟨by rfl,fun w' hS'=>by go_simp⟩) (fun inv=>?_)
       simp only[pU]
       refine tT 5 43 (.slice (some ⟨b,p+q,none⟩) 64 (cap-q)) inv rfl rfl (by decide +kernel) (hS0) (Or.inl ⟨by rfl,fun w' hS'=>by have q:=HSl.out w';go_simp⟩) (fun inv=>?_)
       simp only[pU]
       refine tT 6 44 (.agg ((Cl 64 (fun j=>.int .u32 (Zp j/4294967296)))).toArray) inv rfl rfl (by decide +kernel) (hS0) (yieldsIf_load_mid (by kernel_rfl) 196 (.tmp 5) rfl (w.heap.size+2) 0 rfl (Cl 64 (fun j=>.int .u32 (Zp j/4294967296))) _ (fun u hu=>((HM.out.later hu).holds 2 _ rfl).1) Tryz.underlying196 rfl O4) (fun inv=>?_)
       simp only[pU]
       refine Zn (i:=7) (by decide +kernel) (by decide) rfl (fun K hK=>?_)
       go_simp
       refine (HCall.out _ hS0).mono ?_
       rintro e1 w1 ⟨rfl,hw1⟩
       go_wp2_with fail
       refine hK.out _ _ ?_
       clear hK K
       try simp only[pU]
       refine Zn (i:=8) (by decide +kernel) (by decide) rfl (fun K hK=>?_)
       rw[if_pos (by rfl)]
       refine wp_store_mid 198 (.tmp 7) (.tmp 45) rfl (w.heap.size+3) 0 (Zb.cells32 E2).toArray rfl rfl (((HM.out.later hw1).holds 3 _ rfl).2) (H7) (Wu _) ?_
       refine hK.out _ _ ?_
       clear hK K
       try simp only[pU]
       refine Xj (by decide +kernel) ?_ _
       refine NoPanic.normal ?_
       go_wp2
       go_roundw
       case rel=>
        refine ⟨i+1,by omega,Yb (by have:=HQ.out;omega),((HM.out.later hw1).store 3 rfl E2.cells32 rfl).congr ?_⟩
        show [_,_,_,_]=[_,_,_,_]
        have e1:Z7 Zp B ⟨h0,h1,h2,h3,h4,h5,h6,h7⟩ (i+1)=Xs Zp (fun j=>B (64*i+j)) (Z7 Zp B ⟨h0,h1,h2,h3,h4,h5,h6,h7⟩ i):=rfl
        rw[HE2.out,e1,M5]
       case measure=>simp [intOf];omega
      ·have hqn:¬ q<n:=by have:=HQ.out;have:=HN.out;omega
       have him:i=m:=by omega
       go_wp2
       go_loopw [10] (fun v wr=>∃ t:Nat,t≤8∧v=.int .i64 t∧Hid (Mem w wr [Cl 8 (fun j=>.int .u64 (if j<t then fnz E.list j else fnz (Zb.list ⟨h0,h1,h2,h3,h4,h5,h6,h7⟩) j)),(Cl 8 (fun _=>.int .u64 0)),(Cl 64 (fun j=>.int .u32 (Zp j/4294967296))),Cl 8 (fun j=>.int .u32 (fnz E.list j))])) (fun v _=>8-(intOf v).toNat)
       case atStart=>exact ⟨0,by omega,rfl,HM⟩
       case round=>
        obtain ⟨t,ht,rfl,HM4⟩:=hrel
        clear HM
        by_cases h8:t<8
        ·have f0:wr.cell? ⟨w.heap.size+3,t,none⟩=some (.int .u32 (fnz E.list t)):=HM4.out.cell 3 rfl t _ (V2 _ _ t h8)
         have fw:wr.frozen? ⟨w.heap.size,t,none⟩=false:=HM4.out.frozen 0 rfl t (by rw[Xb];exact h8)
         obtain ⟨u,fu⟩:∃ u,wr.cell? ⟨w.heap.size,t,none⟩=some u:=⟨_,HM4.out.cell 0 rfl t _ (V2 _ _ t h8)⟩
         obtain ⟨x,hx⟩:∃ x,Hid (x=fnz E.list t):=⟨_,rfl⟩
         rw[←hx.out] at f0
         have hxw:IntKind.u64.wrap x=x:=by
          rw[IntKind.wrap_u64,hx.out,HE.out,Zat _ t h8]
          omega
         go_wp2
         go_roundw
         case rel=>
          refine ⟨t+1,by omega,by go_num,(HM4.out.put 0 rfl t (by rw[Xb];exact h8) (.int .u64 x)).congr ?_⟩
          rw[Mi]
          show [_,_,_,_]=[_,_,_,_]
          congr 1
          refine Fr fun j hj=>?_
          by_cases e:j=t
          ·subst e
           rw[if_pos rfl,if_pos (by omega),hx.out]
          ·rw[if_neg e]
           by_cases e2:j<t
           ·rw[if_pos e2,if_pos (by omega)]
           ·rw[if_neg e2,if_neg (by omega)]
         case measure=>simp [intOf];omega
        ·obtain rfl:t=8:=by omega
         have HM5:Hid (Mem w wr [E.cells,(Cl 8 (fun _=>.int .u64 0)),(Cl 64 (fun j=>.int .u32 (Zp j/4294967296))),Cl 8 (fun j=>.int .u32 (fnz E.list j))]):=HM4.out.congr (by
          show [_,_,_,_]=[_,_,_,_]
          congr 1)
         clear HM4 h8 ht
         have HY:Hid (wr.there (w.heap.size+1) 0 E.cells.toArray.size):=(HM5.out.holds 1 _ rfl).2
         have HR:Hid (wr.rangeAt w.heap.size 0 E.cells):=(HM5.out.holds 0 _ rfl).1
         go_wp2_with (first
          | (refine wpList_load_mid (by rfl) 137 (.tmp 2) (by rfl) w.heap.size 0 (by rfl) E.cells _ HR.out Tryz.underlying137 rfl Qi ?_)
          | (refine wpList_store_mid (by rfl) 137 (.tmp 4) (.tmp 56) (by rfl) (w.heap.size+1) 0 E.cells.toArray (by rfl) (by rfl) HY.out Qi (Xi E) ?_)
          | fail)
         have hl:=run_loadVar_mid (P:=Tryz.prog) (wr.setCells (w.heap.size+1) 0 E.cells) (w.heap.size+1) 0 137 E.cells _ (World.rangeAt_setCells_same wr (w.heap.size+1) 0 E.cells HY.out) Tryz.underlying137 rfl Qi
         refine bodyPost_ret (v:=.agg E.cells.toArray) ?_ rfl ⟨by rw[HE.out,him],below_setCells _ (by omega) _ _ _ HM5.out.below⟩
         rw[Zt Tryz.results71]
         simp [Act.put,asAddr,hl]
end Go.Proofs.YtehlppaidgkpaaaGreatDoor.Dg
