import Derived.Test.YtehlppaidgkpaaaGreatDoorSch
import Derived.Test.YtehlppaidgkpaaaGreatDoorPart13
import Derived.Deep.RegionHeld3
import Derived.Maps.AppendAt
import Derived.Deep.QuietTactic
import Derived.BigQuiet
import Derived.Deep.Draws
import Derived.Deep.RegionWith
import Derived.Laws.EntriesVeiled
import Derived.Test.YtehlppaidgkpaaaGreatDoorDgRT64
import Derived.Test.YtehlppaidgkpaaaGreatDoorPart24
namespace Go.Proofs.YtehlppaidgkpaaaGreatDoor
open Go.RowKit
set_option linter.unusedVariables false
theorem Dp (off : Nat) : ∀ (L : List Value) (k : Nat) (z : Array Value) (i : Nat), ((L.zipIdx k).foldl (fun cs (x : Value × Nat) => cs.setIfInBounds (off + x.2) x.1) z)[i]? =
    if off + k ≤ i ∧ i < off + k + L.length ∧ i < z.size then L[i - (off + k)]? else z[i]?
  | [], k, z, i => by simp; omega
  | v :: r, k, z, i => by
    rw [List.zipIdx_cons, List.foldl_cons, Dp off r (k + 1)]
    simp only [Array.size_setIfInBounds, List.length_cons]
    by_cases h1 : off + (k + 1) ≤ i ∧ i < off + (k + 1) + r.length ∧ i < z.size
    · rw [if_pos h1, if_pos (by omega)]
      rw [show i - (off + k) = (i - (off + (k + 1))) + 1 by omega, List.getElem?_cons_succ]
    · rw [if_neg h1]
      by_cases h2 : i = off + k
      · subst h2
        by_cases h3 : off + k < z.size
        · rw [Array.getElem?_setIfInBounds_self_of_lt h3, if_pos (by omega), Nat.sub_self]; rfl
        · rw [if_neg (by omega)]
          rw [Array.getElem?_eq_none (by simp; omega), Array.getElem?_eq_none (by omega)]
      · rw [Array.getElem?_setIfInBounds_ne (by omega), if_neg (by omega)]
theorem Ho (off:Nat):∀ (L:List Value) (k:Nat) (z:Array Value),((L.zipIdx k).foldl (fun cs (x:Value×Nat)=>cs.setIfInBounds (off+x.2) x.1) z).size=z.size
 | [],k,z=>rfl
 | v::r,k,z=>by rw[List.zipIdx_cons,List.foldl_cons,Ho off r (k+1)];simp
theorem W0:Tryz.zeroCells135.size=1091:=by kernel_rfl
theorem Pi:Tryz.zeroCells135.toList.take 6=[.int .i32 0,.int .u32 0,.int .u32 0,.int .u32 0,.int .i32 0,.int .i32 0]:=by kernel_rfl
theorem R7:((Tryz.prog.info? 135).bind (·.zero)).map (·.cells)=some Tryz.zeroCells135:=by kernel_rfl
theorem E6 (L : List Value) (hL : L.length = 1085) : ∃ R, Tryz.prog.built 135 [(1, .agg L.toArray)] = some R ∧ R.size = 1091 ∧ (∀ i, i < 6 → R[i]? = Tryz.zeroCells135[i]?) ∧ ∀ j v, L[j]? = some v → R[6 + j]? = some v := by
  refine ⟨(L.zipIdx 0).foldl (fun cs (x : Value × Nat) => cs.setIfInBounds (6 + x.2) x.1) Tryz.zeroCells135, ?_, ?_, fun i hi => ?_, fun j v hv => ?_⟩
  · have hzc := R7
    have hu := Tryz.underlying135
    have hus : ∃ fs, Tryz.prog.underlying 135 = some (.struct fs) ∧ fs.toList.mapM (fun f => (Tryz.prog.info? f.type).map fun i => (f.offset, i.size)) = some [(0, 6), (6, 1085)] := ⟨_, hu, by kernel_rfl⟩
    obtain ⟨fs, hu', hp⟩ := hus
    cases hq : Tryz.prog.info? 135 with
    | none => rw [hq] at hzc; cases hzc
    | some it =>
      rw [hq] at hzc
      cases hz : it.zero with
      | none => simp [hz] at hzc
      | some z =>
        have hzz : z.cells = Tryz.zeroCells135 := by simpa [hz] using hzc
        have hsz : z.cells.size = 1091 := by rw [hzz]; exact W0
        unfold Program.built
        rw [hq, hu']
        simp only [hz, hp]
        rw [hzz]
        unfold Instr.fill
        simp only [List.getElem?_toArray, List.getElem?_cons_succ, List.getElem?_cons_zero, Value.cells, List.size_toArray, hL]
        rw [if_neg (by rw [W0]; decide)]
        unfold Instr.fill
        simp
  · rw [Ho]; exact W0
  · rw [Dp, if_neg (by omega)]
  · have hj : j < L.length := (List.getElem?_eq_some_iff.1 hv).1
    rw [Dp, if_pos (by rw [W0]; omega), show 6 + j - (6 + 0) = j by omega]
    exact hv
structure Zr (w:World) (g nr:Nat) (K:Nat→Nat):Prop where
 ciph:J3 w g 6 nr K
 count:w.cell? ⟨g,4,none⟩=some (.int .i32 0)
 room:w.there g 0 1091
theorem Cn {u u':World} {B o n:Nat} (h:u.there B o n) (e:u'.heap[B]?=u.heap[B]?):u'.there B o n:=fun j hj=>by
 rw[World.cell?_of_block (a:=⟨B,o+j,none⟩) e,World.frozen?_of_block (a:=⟨B,o+j,none⟩) e];exact h j hj
theorem Zr.sameK {u u':World} {g nr:Nat} {K:Nat→Nat} (h:Zr u g nr K) (e:u'.heap[g]?=u.heap[g]?) (hs:u.heap.size≤u'.heap.size):Zr u' g nr K:=by
 have c:∀ j:Nat,u'.cell? ⟨g,j,none⟩=u.cell? ⟨g,j,none⟩:=fun j=>World.cell?_of_block (a:=⟨g,j,none⟩) e
 exact ⟨⟨(c _).trans h.ciph.rounds,fun i hi=>(c _).trans (h.ciph.words i hi),h.ciph.small,⟨fun b hb=>(c _).trans (h.ciph.tab.s b hb),fun b hb=>(c _).trans (h.ciph.tab.u b hb),fun b hb=>(c _).trans (h.ciph.tab.m b hb),fun b hb=>(c _).trans (h.ciph.tab.n b hb)⟩,Nat.lt_of_lt_of_le h.ciph.here hs,h.ciph.some,h.ciph.most⟩,(c _).trans h.count,Cn h.room e⟩
theorem Zr.below {B:Nat} {w w':World} {g nr:Nat} {K:Nat→Nat} (h:Zr w g nr K) (hb:Below B w w') (hg:g<B):Zr w' g nr K:=
 ⟨h.ciph.below hb hg,(hb.cell hg).trans h.count,Zq h.room hb hg⟩
theorem C7 (w:World) (R:Array Value) (nr:Nat) (K:Nat→Nat) (hs:R.size=1091) (h6:∀ i,i<6→R[i]?=Tryz.zeroCells135[i]?) (hL:∀ j v,(We nr K)[j]?=some v→R[6+j]?=some v) (h1:1≤nr) (h14:nr≤14) (hK:∀ i,K i<4294967296) :
  Zr (w.alloc (.cells R 135)) w.heap.size nr K:=by
 have hc:∀ i:Nat,(w.alloc (.cells R 135)).cell? ⟨w.heap.size,i,none⟩=R[i]?:=fun i=>by
  rw[World.cell?_alloc_at R 135 _ _ rfl]
 refine ⟨Hh (fun j v hv=>?_) (by simp) h1 h14 hK,?_,Zi w R 135 1091 (by rw[hs];exact Nat.le_refl _)⟩
 ·rw[hc];exact hL j v hv
 ·rw[hc,h6 4 (by decide),←Array.getElem?_toList]
  have h:=congrArg (fun l=>l[4]?) Pi
  simp only[List.getElem?_take_of_lt (show 4<6 by decide)] at h
  rw[h];rfl
set_option maxHeartbeats 3200000 in
set_option maxRecDepth 100000 in
theorem O1 (kb ko n cap nk:Nat) (key:Nat→Nat) (w:World) (hnk:nk=4∨nk=6∨nk=8) (hn:n=4*nk) (hkb:kb<w.heap.size) (hcell:∀ i,i<n→w.cell? ⟨kb,ko+i,none⟩=some (.int .u8 (key i:Nat))) (hkey:∀ i,key i<256) (hrc:RC w) (hpos:1<w.heap.size) :
  Calls Tryz.prog 31 #[.slice (some ⟨kb,ko,none⟩) n cap] w fun e w'=>∃ g,e=.returned (.tuple #[.pointer (some ⟨g,0,none⟩),.int .i64 0])∧w.heap.size≤g∧Zr w' g (nk+6) (Zn nk key)∧Below w.heap.size w w'∧∃ R:Array Value,w'.heap[g]?=some (.cells R 135 (0,0)):=by
 obtain ⟨L,HL⟩:∃ L,Hid (L=We (nk+6) (Zn nk key)):=⟨_,rfl⟩
 have KS:Hid (Calls Tryz.prog 52 #[.slice (some ⟨kb,ko,none⟩) n cap] w fun e w'=>e=.returned (.agg L.toArray)∧Below w.heap.size w w'):=by
  rw[HL.out]
  exact Ss kb ko n cap nk key w hnk hn hkb hcell hkey hrc hpos
 obtain ⟨R,hR1,hR2,hR3,hR4⟩:=E6 L (by rw[HL.out];exact Kf _ _)
 have HR:Hid (Tryz.prog.built 135 [(1,.agg L.toArray)]=some R):=hR1
 have HR2:Hid (R.size=1091∧(∀ i,i<6→R[i]?=Tryz.zeroCells135[i]?)∧∀ j v,(We (nk+6) (Zn nk key))[j]?=some v→R[6+j]?=some v):=⟨hR2,hR3,by rw[←HL.out];exact hR4⟩
 have HKl:Hid (1≤nk+6∧nk+6≤14∧∀ i,Zn nk key i<4294967296):=⟨by omega,by omega,Lu hkey⟩
 clear hR1 hR2 hR3 hR4 hcell hkey hrc hkb hpos
 rcases hnk with rfl | rfl | rfl
 all_goals subst hn
 all_goals go_enter Tryz.func31,Tryz.ntmps31
 all_goals go_wp2_with (first
  | (go_at_call 52;refine KS.out.mono ?_)
  | fail)
 all_goals rintro e1 w1 ⟨rfl,hb1⟩
 all_goals (have HB:Hid (Below w.heap.size w w1):=hb1)
 all_goals clear hb1
 all_goals go_wp2_with (first
  | (refine Jd (by rfl) 135 #[(1,.tmp 11)] (by rfl) R (by simp only[List.map_toArray,List.map_cons,List.map_nil];exact HR.out) ?_)
  | fail)
 all_goals go_ret2
 all_goals exact ⟨w1.heap.size,rfl,HB.out.size,C7 w1 R _ _ HR2.out.1 HR2.out.2.1 HR2.out.2.2 HKl.out.1 HKl.out.2.1 HKl.out.2.2,HB.out.alloc HB.out.size _,R,heap_alloc_new w1 _⟩
set_option linter.unusedSimpArgs false
theorem Vo (v:Value) (ys:List Int) (nk:Nat) (w:World) (hnk:nk=4∨nk=6∨nk=8) (hl:ys.length=4*nk) (hv:Zf w v ys) (hb:Zd ys) (hrc:RC w) (hpos:1<w.heap.size) :
  Calls Tryz.prog 31 #[v] w fun e w'=>Hid (∃ g,e=.returned (.tuple #[.pointer (some ⟨g,0,none⟩),.int .i64 0])∧w.heap.size≤g∧Zr w' g (nk+6) (Zn nk (Yk ys))∧Below w.heap.size w w'∧∃ R:Array Value,w'.heap[g]?=some (.cells R 135 (0,0))):=by
 have h0:ys≠[]:=by intro q;rw[q] at hl;simp at hl;omega
 have hlt:=W3 hv h0
 obtain ⟨a,c,rfl,h1,h2,h3,h4⟩:=hv
 rcases h4 with q | ⟨b,off,rfl,hc⟩
 ·exact absurd q h0
 ·rw[hl] at hc hlt ⊢
  exact (O1 b off (4*nk) c nk (Yk ys) w hnk rfl (hlt b off _ _ rfl) (fun i hi=>by rw[Gb hb];exact hc i hi) (Ga hb) hrc hpos).mono fun e w' hh=>hh
def shL (S:ByteArray) (st:Nat) (kv:Value) (wd:Nat) (mp:Option Addr) (ov:Value):List Value:=[.string S,.int .i64 (st:Nat),kv,.int .i64 (wd:Nat),.pointer mp,ov,.bool false]
def MK (w:World) (B:Nat) (mp:Option Addr) (wd:Nat) (zs:List Int):Prop:=
 (wd=0∧mp=none)∨∃ g nk,mp=some ⟨g,0,none⟩∧B≤g∧(nk=4∨nk=6∨nk=8)∧wd=4*nk∧Zr w g (nk+6) (Zn nk (Yk (zs.take wd)))∧∃ R:Array Value,w.heap[g]?=some (.cells R 135 (0,0))
structure ShA (B:Nat) (w:World) (sh:Nat) (S:ByteArray) (st wd:Nat) (zs:List Int) (kv:Value) (mp:Option Addr) (ov:Value):Prop where
 le:B≤sh
 box:Bx w sh 115 (shL S st kv wd mp ov)
 key:w.ownsRow B 5 1 kv zs.length (Za zs)
 main:MK w B mp wd zs
 oth:∃ n os,n≤4∧w.ownsRow B 71 1 ov n os
structure Fs (B sh:Nat) (w w':World):Prop where
 bel:Below B w w'
 blk:∀ b,b<w.heap.size→b≠sh→(∀ cs fr,w.heap[b]?≠some (.cells cs 71 fr))→w'.heap[b]?=w.heap[b]?
theorem Fs.of_below {B sh:Nat} {w w':World} (h:Below w.heap.size w w') (hB:B≤w.heap.size):Fs B sh w w':=⟨h.mono hB,fun b hb _ _=>h.block b hb⟩
theorem Fs.trans {B sh:Nat} {u v w:World} (h:Fs B sh u v) (k:Fs B sh v w):Fs B sh u w:=
 ⟨h.bel.trans k.bel,fun b hb hn ht=>by
  have e:=h.blk b hb hn ht
  rw[k.blk b (Nat.lt_of_lt_of_le hb h.bel.size) hn (by rw[e];exact ht),e]⟩
theorem Fs.bx {B sh b:Nat} {t:TypeId} {w w':World} {cs:List Value} (h:Fs B sh w w') (x:Bx w b t cs) (hn:b≠sh) (ht:t≠71):Bx w' b t cs:=
 x.keep (h.blk b x.lt hn (fun cs fr q=>by unfold Bx at x;rw[x] at q;injection q with q;injection q with _ q _;exact ht q))
theorem MK.keep {w w':World} {B:Nat} {mp:Option Addr} {wd:Nat} {zs:List Int} (h:MK w B mp wd zs) (hk:∀ g,mp=some ⟨g,0,none⟩→w'.heap[g]?=w.heap[g]?) (hs:w.heap.size≤w'.heap.size):MK w' B mp wd zs:=by
 rcases h with q | ⟨g,nk,e,hB,hn,hw,hK,R,hR⟩
 ·exact .inl q
 ·exact .inr ⟨g,nk,e,hB,hn,hw,hK.sameK (hk g e) hs,R,by rw[hk g e];exact hR⟩
theorem MK.lt {w:World} {B:Nat} {mp:Option Addr} {wd:Nat} {zs:List Int} (h:MK w B mp wd zs) (g:Nat) (e:mp=some ⟨g,0,none⟩):g<w.heap.size∧B≤g∧∃ R:Array Value,w.heap[g]?=some (.cells R 135 (0,0)):=by
 rcases h with ⟨_,q⟩ | ⟨g',nk,e',hB,hn,hw,hK,R,hR⟩
 ·rw[q] at e;cases e
 ·rw[e'] at e;injection e with e;injection e with e;subst e
  exact ⟨hK.ciph.here,hB,R,hR⟩
theorem Xs {w:World} {B:Nat} {e:TypeId} {K:Nat} {v:Value} {n:Nat} {xs:List Value} (h:w.ownsRow B e K v n xs) {g:Nat} (hg:v.ownBlock=some g):∃ cur,w.heap[g]?=some (.cells cur e (0,0)):=by
 rcases h.2 with ⟨rfl,_⟩ | ⟨g',cap,cur,rfl,_,hh,_⟩
 ·simp [Value.ownBlock] at hg
 ·have e:g'=g:=by simpa [Value.ownBlock] using hg
  subst e
  exact ⟨cur,hh⟩
theorem Zo {w:World} {a b:Nat} {s t:TypeId} {cs ds:Array Value} {f g:Nat×Nat} (h:w.heap[a]?=some (.cells cs s f)) (k:w.heap[b]?=some (.cells ds t g)) (hst:s≠t):a≠b:=by
 intro e;subst e;rw[h] at k;injection k with k;injection k with _ k _;exact hst k
theorem ShA.below {B:Nat} {w w':World} {sh:Nat} {S:ByteArray} {st wd:Nat} {zs:List Int} {kv:Value} {mp:Option Addr} {ov:Value} (h:ShA B w sh S st wd zs kv mp ov) (b:Below w.heap.size w w'):ShA B w' sh S st wd zs kv mp ov:=
 ⟨h.le,h.box.below b,ownsRow_below h.key b,h.main.keep (fun g e=>b.block g (h.main.lt g e).1) b.size,by obtain ⟨n,os,hn,ho⟩:=h.oth;exact ⟨n,os,hn,ownsRow_below ho b⟩⟩
theorem ShA.sched {B:Nat} {w w1:World} {sh:Nat} {S:ByteArray} {st wd:Nat} {zs:List Int} {kv:Value} {mp:Option Addr} {ov ov':Value} {n:Nat} {os:List Value} (h:ShA B w sh S st wd zs kv mp ov) (hg:w.grownBy w1 ov.ownBlock) (ho:w1.ownsRow B 71 1 ov' n os) (hn:n≤4) (hB:B≤w.heap.size) :
  Bx w1 sh 115 (shL S st kv wd mp ov)∧ShA B (w1.setCell ⟨sh,5,none⟩ ov') sh S st wd zs kv mp ov'∧Fs B sh w (w1.setCell ⟨sh,5,none⟩ ov'):=by
 obtain ⟨n0,os0,_,ho0⟩:=h.oth
 have hne:∀ (b:Nat) (t:TypeId) (cs:Array Value) (fr:Nat×Nat),w.heap[b]?=some (Obj.cells cs t fr)→t≠71→w1.heap[b]?=w.heap[b]?:=fun b t cs fr hb ht=>by
  refine hg.block b (Array.getElem?_eq_some_iff.1 hb).1 ?_
  intro e
  obtain ⟨cur,q⟩:=Xs ho0 e.symm
  exact Zo q hb (fun e=>ht e.symm) rfl
 have b1:Bx w1 sh 115 (shL S st kv wd mp ov):=h.box.keep (hne _ 115 _ _ h.box (by decide))
 have hst:∀ b,b≠sh→(w1.setCell ⟨sh,5,none⟩ ov').heap[b]?=w1.heap[b]?:=fun b hb=>Below.heap_setCell w1 ⟨sh,5,none⟩ ov' b (fun e=>hb e)
 have b2:=b1.set 5 ov'
 refine ⟨b1,⟨h.le,b2,?_,?_,n,os,hn,?_⟩,?_,?_⟩
 ·refine Yx h.key fun g q=>?_
  obtain ⟨cur,hc⟩:=Xs h.key q
  rw[hst g (Zo hc h.box (by decide)),hne g 5 _ _ hc (by decide)]
 ·refine h.main.keep (fun g e=>?_) ?_
  ·obtain ⟨_,_,R,hR⟩:=h.main.lt g e
   rw[hst g (Zo hR h.box (by decide)),hne g 135 _ _ hR (by decide)]
  ·have:=hg.size;simpa using this
 ·refine Yx ho fun g q=>?_
  obtain ⟨cur,hc⟩:=Xs ho q
  exact hst g (Zo hc b1 (by decide))
 ·have q:Below B w w1:=(Below.refl _ _).grown hg hB (fun k hk=>(Z3 ho0 hk).1)
  exact q.setCell h.le _
 ·intro b hb hn' ht
  rw[hst b hn']
  refine hg.block b hb ?_
  intro e
  obtain ⟨cur,q⟩:=Xs ho0 e.symm
  exact ht _ _ q
theorem Tryz.info105:(Tryz.prog.info? 71).map (fun i=>(i.zero,i.size,i.bytes))=some (some (.pointer none),1,8):=by kernel_rfl
set_option maxHeartbeats 1600000 in
set_option maxRecDepth 100000 in
theorem Wk (B sh:Nat) (S:ByteArray) (st wd:Nat) (zs:List Int) (kv:Value) (mp:Option Addr) (ov:Value) (v:Value) (ys:List Int) (nk:Nat) (w:World) (h:ShA B w sh S st wd zs kv mp ov) (hB:B≤w.heap.size) (hfew:∃ n os,n≤3∧w.ownsRow B 71 1 ov n os)
  (hnk:nk=4∨nk=6∨nk=8) (hl:ys.length=4*nk) (hv:Zf w v ys) (hb:Zd ys) (hrc:RC w) (hpos:1<w.heap.size) :
  Calls Tryz.prog 186 #[.pointer (some ⟨sh,0,none⟩),v] w fun e w'=>Hid (∃ g ov',e=.returned (.pointer (some ⟨g,0,none⟩))∧w.heap.size≤g∧Zr w' g (nk+6) (Zn nk (Yk ys))∧(∃ R:Array Value,w'.heap[g]?=some (.cells R 135 (0,0)))∧ShA B w' sh S st wd zs kv mp ov'∧(∀ n os,w.ownsRow B 71 1 ov n os→∃ os',w'.ownsRow B 71 1 ov' (n+1) os')∧Fs B sh w w'):=by
 have HN:Hid (Calls Tryz.prog 31 #[v] w fun e w'=>Hid (∃ g,e=.returned (.tuple #[.pointer (some ⟨g,0,none⟩),.int .i64 0])∧w.heap.size≤g∧Zr w' g (nk+6) (Zn nk (Yk ys))∧Below w.heap.size w w'∧∃ R:Array Value,w'.heap[g]?=some (.cells R 135 (0,0)))):=Vo v ys nk w hnk hl hv hb hrc hpos
 have HA:Hid (ShA B w sh S st wd zs kv mp ov):=h
 have HBB:Hid (B≤w.heap.size):=hB
 obtain ⟨n0,os0,hn0,ho0⟩:=hfew
 have HO0:Hid (n0≤3∧w.ownsRow B 71 1 ov n0 os0):=⟨hn0,ho0⟩
 clear h hB hnk hl hv hb hrc hpos hn0 ho0
 obtain ⟨i0,hi0,hz0,hz1,hz2⟩:=info_parts Tryz.info105
 have HI0:Hid (Tryz.prog.info? 71=some i0∧i0.zero=some (.pointer none)∧i0.size=1∧i0.bytes=8):=⟨hi0,hz0,hz1,hz2⟩
 clear hi0 hz0 hz1 hz2
 go_enter Tryz.func186,Tryz.ntmps186
 go_upto_region 2 with (go_at_call 31;refine HN.out.mono ?_;intro e1 w1 hh;obtain ⟨g,rfl,hg1,hK1,hb1,R1,hR1⟩:=hh.out;have HK1:Hid (w.heap.size≤g∧Zr w1 g (nk+6) (Zn nk (Yk ys))∧Below w.heap.size w w1∧w1.heap[g]?=some (.cells R1 135 (0,0))):=⟨hg1,hK1,hb1,hR1⟩;clear hh hg1 hK1 hb1 hR1 HN)
 have HA1:Hid (ShA B w1 sh S st wd zs kv mp ov):=HA.out.below HK1.out.2.2.1
 have HO1:Hid (w1.ownsRow B 71 1 ov n0 os0):=ownsRow_below HO0.out.2 HK1.out.2.2.1
 have hov:(∃ x a c,ov=.slice x a c):=by
  rcases HO1.out.2 with ⟨rfl,_⟩ | ⟨g',cap,cur,rfl,_⟩
  ·exact ⟨_,_,_,rfl⟩
  ·exact ⟨_,_,_,rfl⟩
 obtain ⟨xa,xl,xc,rfl⟩:=hov
 have c5:w1.cell? ⟨sh,5,none⟩=some (.slice xa xl xc):=HA1.out.box.cell 5 _ rfl
 have hlt:Hid (sh<w1.heap.size):=HA1.out.box.lt
 have HA2:Hid (ShA B (w1.alloc (.cells #[.pointer (some ⟨g,0,none⟩)] 71)) sh S st wd zs kv mp (.slice xa xl xc)):=HA1.out.below ((Below.refl _ _).alloc (Nat.le_refl _) _)
 go_wp2_with (first
  | (at_builtin;go_must (refine wpList_append_own_at _ rfl (.tmp 16) (.tmp 18) 113 rfl B 71 i0 (.pointer none) 1 8 Tryz.underlying113 HI0.out.1 HI0.out.2.1 HI0.out.2.2.1 HI0.out.2.2.2 rfl (by decide) _ n0 os0 rfl (HO1.out.alloc _) ⟨w1.heap.size,0,none⟩ 1 1 [.pointer (some ⟨g,0,none⟩)] rfl rfl ?_ ?_ ?_ ?_ ?_ ?_)))
 ·intro j u hj
  match j,hj with
  | 0,hj=>simp at hj;subst hj;simp [Addr.add]
 ·intro u hu;simp at hu;subst hu;rfl
 ·have:=HO0.out.1;unfold maxLen;omega
 ·have:=HO0.out.1;omega
 ·have:=HBB.out;have:=HK1.out.2.2.1.size;simp;omega
 intro v2 w2 hown hgrow hnil hat
 obtain ⟨hbx,hsh,hfs⟩:=HA2.out.sched hgrow hown (by have:=HO0.out.1;omega) (by have:=HBB.out;have:=HK1.out.2.2.1.size;simp;omega)
 have hv2:(∃ x a c,v2=.slice x a c):=by
  rcases hown.2 with ⟨rfl,_⟩ | ⟨g',cap,cur,rfl,_⟩
  ·exact ⟨_,_,_,rfl⟩
  ·exact ⟨_,_,_,rfl⟩
 obtain ⟨ya,yl,yc,rfl⟩:=hv2
 have HSH:Hid (ShA B (w2.setCell ⟨sh,5,none⟩ (.slice ya yl yc)) sh S st wd zs kv mp (.slice ya yl yc)):=hsh
 have HFS:Hid (Fs B sh (w1.alloc (.cells #[.pointer (some ⟨g,0,none⟩)] 71)) (w2.setCell ⟨sh,5,none⟩ (.slice ya yl yc))):=hfs
 have d5:w2.cell? ⟨sh,5,none⟩=some (.slice xa xl xc):=hbx.cell 5 _ rfl
 have f5:w2.frozen? ⟨sh,5,none⟩=false:=hbx.frozen 5
 have HOW:Hid (w2.ownsRow B 71 1 (.slice ya yl yc) (n0+1) (os0++[.pointer (some ⟨g,0,none⟩)])∧w2.heap[sh]?=some (.cells (shL S st kv wd mp (.slice xa xl xc)).toArray 115 (0,0))):=⟨hown,hbx⟩
 clear hown hgrow hnil hat hbx hsh hfs c5
 go_wp2
 go_ret
 have hF:Fs B sh w (w2.setCell ⟨sh,5,none⟩ (.slice ya yl yc)):=(Fs.of_below HK1.out.2.2.1 HBB.out).trans ((Fs.of_below ((Below.refl _ _).alloc (Nat.le_refl _) _) (Nat.le_trans HBB.out HK1.out.2.2.1.size)).trans HFS.out)
 have hgk:(w2.setCell ⟨sh,5,none⟩ (.slice ya yl yc)).heap[g]?=w1.heap[g]?:=by
  have l:g<w1.heap.size:=HK1.out.2.1.ciph.here
  have e:(w1.alloc (.cells #[.pointer (some ⟨g,0,none⟩)] 71)).heap[g]?=w1.heap[g]?:=Below.heap_alloc _ _ _ l
  rw[HFS.out.blk g (by simp;omega) (Zo HK1.out.2.2.2 HA1.out.box (by decide)) (by rw[e,HK1.out.2.2.2];intro cs fr q;injection q with q;injection q with _ q _;exact absurd q (by decide)),e]
 refine ⟨g,.slice ya yl yc,rfl,HK1.out.1,HK1.out.2.1.sameK hgk (Nat.le_trans (by simp) HFS.out.bel.size),⟨R1,by rw[hgk];exact HK1.out.2.2.2⟩,HSH.out,fun n os ho=>?_,hF⟩
 have e:n=n0:=by
  have q1:=ho.2
  have q2:=HO0.out.2.2
  rcases q1 with ⟨q,r⟩ | ⟨_,_,_,q,_⟩<;>rcases q2 with ⟨q',r'⟩ | ⟨_,_,_,q',_⟩
  ·omega
  ·rw[q] at q';cases q'
  ·rw[q] at q';cases q'
  ·rw[q] at q';injection q' with _ q' _
 subst e
 exact ⟨_,Yx HOW.out.1 fun b q=>by
  obtain ⟨cur,hc⟩:=Xs HOW.out.1 q
  exact Below.heap_setCell w2 ⟨sh,5,none⟩ _ b (fun e=>Zo HOW.out.2 hc (by decide) e.symm)⟩
def ShP (B:Nat) (w:World) (S:ByteArray) (st wd:Nat) (zs:List Int) (e:Ending) (w':World):Prop:=
 ∃ sh kv mp,e=.returned (.pointer (some ⟨sh,0,none⟩))∧w.heap.size≤sh∧ShA w.heap.size w' sh S st wd zs kv mp (.slice none 0 0)∧Below w.heap.size w w'
theorem Gz {w:World} {B B':Nat} {e:TypeId} {K:Nat} {v:Value} {n:Nat} {xs:List Value} (h:w.ownsRow B e K v n xs) (hb:B'≤B):w.ownsRow B' e K v n xs:=by
 refine ⟨h.1,?_⟩
 rcases h.2 with q | ⟨g,cap,cur,e1,e2,rest⟩
 ·exact .inl q
 ·exact .inr ⟨g,cap,cur,e1,Nat.le_trans hb e2,rest⟩
theorem Ut (S:ByteArray) (a b:Int) (x:Option Addr) (n c:Nat) (p:Option Addr):Tryz.prog.built 115 [(0,.string S),(1,.int .i64 a),(2,.slice x n c),(3,.int .i64 b),(4,.pointer p)]=some #[.string S,.int .i64 a,.slice x n c,.int .i64 b,.pointer p,.slice none 0 0,.bool false]:=by kernel_rfl
set_option maxHeartbeats 1600000 in
set_option maxRecDepth 100000 in
theorem Lr (S T:ByteArray) (wd a b st:Nat) (f g:Value) (v:Value) (zs:List Int) (w:World) (hf:f.oneCell'=true) (hg:g.oneCell'=true) (hv:Zf w v zs) (hn:zs.length≤100000) (hwd:wd≤zs.length)
  (HN:Hid (∀ u:World,Below w.heap.size w u→∀ x:Value,Zf u x (zs.take wd)→Calls Tryz.prog 31 #[x] u fun e u'=>Hid (∃ mp c,e=.returned (.tuple #[.pointer mp,.int .i64 c])∧MK u' w.heap.size mp wd zs∧Below u.heap.size u u'))) :
  Calls Tryz.prog 44 #[.agg #[.string S,.int .i64 (wd:Nat),.string T,.int .i64 (a:Nat),.int .i64 (b:Nat),.int .i64 (st:Nat),f,g],v] w fun e w'=>ShP w.heap.size w S st wd zs e w':=by
 have HF:Hid (f.oneCell'=true∧g.oneCell'=true):=⟨hf,hg⟩
 have hsF:∀ u ad md,(store ad f md).run Tryz.prog u=stored Tryz.prog u ad f md:=fun u ad md=>run_store Tryz.prog u ad f md hf
 have hsG:∀ u ad md,(store ad g md).run Tryz.prog u=stored Tryz.prog u ad g md:=fun u ad md=>run_store Tryz.prog u ad g md hg
 have HV:Hid (Zf w v zs):=hv
 obtain ⟨va,vc,rfl,h1,h2,h3,h4⟩:=hv
 obtain ⟨n,HNL⟩:∃ n,Hid (zs.length=n):=⟨_,rfl⟩
 rw[HNL.out] at hwd h1 hn HV ⊢
 obtain ⟨ka,kc,hk⟩:∃ ka kc,sliced va 0 wd vc 1=.slice ka wd kc:=⟨_,_,rfl⟩
 have HKV:Hid (sliced va 0 wd vc 1=.slice ka wd kc):=hk
 have hsl:=fun u:World=>Vh u va n vc wd (by omega)
 rw[hk] at hsl
 clear hk
 have HVC:Hid (n≤vc∧n≤100000∧wd≤n):=⟨h1,hn,hwd⟩
 clear hf hg h2 h3 h4 h1 hn hwd
 go_enter Tryz.func44,Tryz.ntmps44
 go_upto_region 1 with fail
 obtain ⟨w1,hw1⟩:∃ w1,w1=w.alloc (.cells #[.string S,.int .i64 (wd:Nat),.string T,.int .i64 (a:Nat),.int .i64 (b:Nat),.int .i64 (st:Nat),f,g] 96):=⟨_,rfl⟩
 have HB1:Hid (Bx w1 w.heap.size 96 [.string S,.int .i64 (wd:Nat),.string T,.int .i64 (a:Nat),.int .i64 (b:Nat),.int .i64 (st:Nat),f,g]∧Below w.heap.size w w1):=by
  rw[hw1];exact ⟨Bx.new w 96 _,(Below.refl _ _).alloc (Nat.le_refl _) _⟩
 rw[←hw1]
 clear hw1 hsF hsG
 obtain ⟨m,HM⟩:∃ m,Hid (w.heap.size=m):=⟨_,rfl⟩
 rw[HM.out] at HB1 HN ⊢
 have d1:w1.cell? ⟨m,1,none⟩=some (.int .i64 (wd:Nat)):=HB1.out.1.cell 1 _ rfl
 have g0:(0:Int)≤(wd:Int):=by omega
 have KN:Hid (Calls Tryz.prog 31 #[.slice ka wd kc] w1 fun e u'=>Hid (∃ mp c,e=.returned (.tuple #[.pointer mp,.int .i64 c])∧MK u' m mp wd zs∧Below w1.heap.size w1 u')):=by
  refine HN.out w1 HB1.out.2 _ ?_
  have q:=Yv (Zf.below HV.out (by rw[HM.out];exact HB1.out.2)) 0 wd (Nat.zero_le _) HVC.out.2.2
  rw[HKV.out] at q
  simpa using q
 go_upto_region 2 with (go_at_call 31;refine KN.out.mono ?_;intro e2 w2 hh;obtain ⟨mp,cc,rfl,hK2,hb2⟩:=hh.out;have HK2:Hid (MK w2 m mp wd zs∧Below w1.heap.size w1 w2):=⟨hK2,hb2⟩;clear hh hK2 hb2 KN)
 have HB2:Hid (Bx w2 m 96 [.string S,.int .i64 (wd:Nat),.string T,.int .i64 (a:Nat),.int .i64 (b:Nat),.int .i64 (st:Nat),f,g]∧Below m w w2):=⟨HB1.out.1.below HK2.out.2,HB1.out.2.trans (HK2.out.2.mono (by have:=HB1.out.1.lt;omega))⟩
 clear d1 hsl
 have HS2:Hid (∀ u:World,Below w2.heap.size w2 u→u.cell? ⟨m,0,none⟩=some (.string S)∧u.cell? ⟨m,1,none⟩=some (.int .i64 (wd:Nat))∧u.cell? ⟨m,5,none⟩=some (.int .i64 (st:Nat))):=fun u hu=>by
  have q:=HB2.out.1.below hu
  exact ⟨q.cell 0 _ rfl,q.cell 1 _ rfl,q.cell 5 _ rfl⟩
 obtain ⟨d0,d1,d5⟩:=HS2.out w2 (Below.refl _ _)
 have KC:Hid (∀ u:World,Below w2.heap.size w2 u→Calls Tryz.prog 66 #[.slice va n vc] u fun e u'=>Hid (∃ v',e=.returned v'∧u'.ownsRow u.heap.size 5 1 v' n (Za zs)∧Below u.heap.size u u')):=fun u hu=>by
  have hv:Zf u (.slice va n vc) zs:=Zf.kept HV.out (fun k hk=>by rw[hu.block k (Nat.lt_of_lt_of_le hk HB2.out.2.size)];exact HB2.out.2.block k (by rw[←HM.out];exact hk))
  have q:=Ro (.slice va n vc) zs u (by rw[HNL.out];exact HVC.out.2.1) hv
  rw[HNL.out] at q
  exact q.mono fun e u' hh=>hh
 have hbd:∀ (x:Option Addr) (l c:Nat) w,(Instr.build 115 #[(0,.string S),(1,.int .i64 (st:Nat)),(2,.slice x l c),(3,.int .i64 (wd:Nat)),(4,.pointer mp)]).run Tryz.prog w=.ok (.agg #[.string S,.int .i64 (st:Nat),.slice x l c,.int .i64 (wd:Nat),.pointer mp,.slice none 0 0,.bool false]) w:=fun x l c w=>run_build w _ _ _ (Ut S _ _ x l c mp)
 go_region_held3 (fun u=>u.cell? ⟨m,0,none⟩=some (.string S)∧u.cell? ⟨m,1,none⟩=some (.int .i64 (wd:Nat))∧u.cell? ⟨m,5,none⟩=some (.int .i64 (st:Nat))) (first | exact ⟨d0,d1,d5⟩ | exact hS3 | go_keep)
  ((go_at_call 66;refine (KC.out w2.drew (Below.refl _ _).drew).mono ?_;intro e3 w3 hh;obtain ⟨v3,rfl,ho3x,hb3x⟩:=hh.out;have hb3:Below w2.heap.size w2 w3:=⟨hb3x.os,hb3x.tape,hb3x.output,hb3x.size,hb3x.block⟩;have hS3:=HS2.out w3 hb3;have HO3:Hid (w3.ownsRow w2.heap.size 5 1 v3 n (Za zs)∧Below w2.heap.size w2 w3):=⟨ho3x,hb3⟩;obtain ⟨xa,xl,xc,rfl⟩:∃ x l c,v3=.slice x l c:=(by rcases HO3.out.1.2 with ⟨q,_⟩ | ⟨_,_,_,q,_⟩<;>exact ⟨_,_,_,q⟩)))
 go_wp2
 go_ret
 have hb3:=HO3.out.2
 have hbe:Below w.heap.size w w3:=by rw[HM.out];exact HB2.out.2.trans (hb3.mono (by have:=HB2.out.1.lt;omega))
 have hal:Below w3.heap.size w3 (w3.alloc (.cells #[.string S,.int .i64 (st:Nat),.slice xa xl xc,.int .i64 (wd:Nat),.pointer mp,.slice none 0 0,.bool false] 115)):=(Below.refl _ _).alloc (Nat.le_refl _) _
 have hlo:w.heap.size≤w2.heap.size:=by have:=HB2.out.1.lt;have:=HM.out;omega
 refine ⟨w3.heap.size,.slice xa xl xc,mp,rfl,hbe.size,⟨hbe.size,Bx.new w3 115 _,?_,?_,0,[],by omega,World.ownsRow_nil _ _ _ _⟩,hbe.trans (hal.mono hbe.size)⟩
 ·have q:=ownsRow_below HO3.out.1 hal
  rw[HNL.out]
  exact Gz q hlo
 ·rw[HM.out]
  exact (HK2.out.1.keep (fun g e=>hb3.block g (HK2.out.1.lt g e).1) hb3.size).keep (fun g e=>hal.block g (Nat.lt_of_lt_of_le (HK2.out.1.lt g e).1 hb3.size)) hal.size
theorem Gq (S T:ByteArray) (nk a b st:Nat) (f g:Value) (v:Value) (zs:List Int) (w:World) (hf:f.oneCell'=true) (hg:g.oneCell'=true) (hv:Zf w v zs) (hb:Zd zs) (hn:zs.length≤100000) (hnk:nk=4∨nk=6∨nk=8) (hwd:4*nk≤zs.length) (hrc:RC w) (hpos:1<w.heap.size) :
  Calls Tryz.prog 44 #[.agg #[.string S,.int .i64 ((4*nk:Nat):Int),.string T,.int .i64 (a:Nat),.int .i64 (b:Nat),.int .i64 (st:Nat),f,g],v] w fun e w'=>ShP w.heap.size w S st (4*nk) zs e w':=by
 refine Lr S T (4*nk) a b st f g v zs w hf hg hv hn hwd (fun u hu x hx=>?_)
 have hb':Zd (zs.take (4*nk)):=fun i=>by
  rw[List.getD_eq_getElem?_getD,List.getElem?_take]
  split
  ·exact hb i
  ·simp
 refine (Vo x (zs.take (4*nk)) nk u hnk (by simp;omega) hx hb' (fun i hi=>(hu.cell (p:=⟨1,i,none⟩) hpos).trans (hrc i hi)) (Nat.lt_of_lt_of_le hpos hu.size)).mono ?_
 intro e u' hh
 obtain ⟨g,rfl,hg1,hK,hb1,R,hR⟩:=hh.out
 exact ⟨_,_,rfl,.inr ⟨g,nk,rfl,Nat.le_trans hu.size hg1,hnk,rfl,hK,R,hR⟩,hb1⟩
theorem Sa {w:World} {x:Option Addr} {n c:Nat} {zs:List Int} (h:Zf w (.slice x n c) zs) (l:Nat) (hl:l≤n):∃ y d,sliced x l n n 1=.slice y (n-l) d∧Zf w (.slice y (n-l) d) (zs.drop l):=by
 obtain ⟨a,cc,he,h1,h2,h3,h4⟩:=h
 injection he with e1 e2 e3
 subst e1 e2 e3
 refine ⟨_,_,rfl,?_⟩
 refine ⟨_,_,by rw[List.length_drop],by simp,by omega,?_,?_⟩
 ·intro e
  split at e
  ·omega
  ·cases x with
   | none=>have:=h3 rfl;omega
   | some q=>cases e
 ·by_cases hz:zs.drop l=[]
  ·exact .inl hz
  ·right
   have hlt:l<zs.length:=by
    by_cases q:l<zs.length
    ·exact q
    ·exact absurd (List.drop_eq_nil_of_le (by omega)) hz
   rcases h4 with rfl | ⟨b,off,rfl,hc⟩
   ·simp at hlt
   ·refine ⟨b,off+l,?_,fun k hk=>?_⟩
    ·rw[if_neg (by omega),Option.map_some,Nat.mul_one,Addr.add_mid]
    ·rw[List.length_drop] at hk
     rw[Nat.add_assoc,hc (l+k) (by omega)]
     simp [List.getD]
theorem ShA.view {B:Nat} {w:World} {sh:Nat} {S:ByteArray} {st wd:Nat} {zs:List Int} {kv:Value} {mp:Option Addr} {ov:Value} (h:ShA B w sh S st wd zs kv mp ov):Zf w kv zs:=Xz h.key rfl
set_option maxHeartbeats 800000 in
set_option maxRecDepth 100000 in
theorem Mu (B sh:Nat) (S:ByteArray) (st wd:Nat) (zs:List Int) (kv:Value) (mp:Option Addr) (ov:Value) (w:World) (h:ShA B w sh S st wd zs kv mp ov) (hwd:wd≤zs.length) :
  Calls Tryz.prog 192 #[.pointer (some ⟨sh,0,none⟩)] w fun e w'=>Hid (∃ y d,e=.returned (.slice y (zs.length-wd) d)∧Zf w' (.slice y (zs.length-wd) d) (zs.drop wd)∧Below w.heap.size w w'):=by
 have hv:=h.view
 obtain ⟨xa,xc,rfl,h1,h2,h3,h4⟩:=h.view
 obtain ⟨n,HNL⟩:∃ n,Hid (zs.length=n):=⟨_,rfl⟩
 rw[HNL.out] at hwd h1 hv h ⊢
 obtain ⟨y,d,hsl,hvv⟩:=Sa hv wd hwd
 have c2:w.cell? ⟨sh,2,none⟩=some (.slice xa n xc):=h.box.cell 2 _ rfl
 have c3:w.cell? ⟨sh,3,none⟩=some (.int .i64 (wd:Nat)):=h.box.cell 3 _ rfl
 have hlt:sh<w.heap.size:=h.box.lt
 have hS:∀ u:World,(Instr.slice 22 (.slice xa n xc) (some (.int .i64 (wd:Nat))) (some (.int .i64 (n:Nat))) (some (.int .i64 (n:Nat)))).run Tryz.prog u=.ok (.slice y (n-wd) d) u:=fun u=>by
  have q:=run_slice_lhm (P:=Tryz.prog) u 22 xa n xc Ck .i64 .i64 .i64 (wd:Nat) (n:Nat) (n:Nat) (by omega) (by omega) (by omega) (by omega)
  rw[q,show Tryz.prog.elem 22=5 by kernel_rfl,sizeOf5]
  simp only[Result.andThen_ok,Int.toNat_natCast]
  rw[hsl]
 have HV:Hid (Zf w (.slice y (n-wd) d) (zs.drop wd)):=hvv
 have g0:(0:Int)≤(wd:Int):=by omega
 have g1:(wd:Int)≤(n:Int):=by omega
 clear hv h h1 h2 h3 h4 hsl hvv hwd
 go_enter Tryz.func192,Tryz.ntmps192
 go_wp2
 go_quiet (fail)
 go_wp2
 go_ret
 exact ⟨y,d,rfl,HV.out.below (Below.drewN (Below.refl _ _) _),Below.drewN (Below.refl _ _) _⟩
end Go.Proofs.YtehlppaidgkpaaaGreatDoor
namespace Go.Proofs.YtehlppaidgkpaaaGreatDoor.Dg
open Go.RowKit
set_option linter.unusedVariables false
set_option linter.unusedSimpArgs false
structure RTab (w:World):Prop where
 cubes:∀ t,t<80→w.cell? ⟨3,t,none⟩=some (.int .u64 (Zs t))
 roots:∀ t,t<16→w.cell? ⟨2,t,none⟩=some (.int .u64 (Ky t))
theorem RTab.kept {w w':World} (h:RTab w) (hb:∀ k,k<4→w'.heap[k]?=w.heap[k]?):RTab w':=
 ⟨fun t ht=>by rw[World.cell?_of_block (w:=w) (hb 3 (by omega))];exact h.cubes t ht,fun t ht=>by rw[World.cell?_of_block (w:=w) (hb 2 (by omega))];exact h.roots t ht⟩
theorem RTab.size {w:World} (h:RTab w):4≤w.heap.size:=lt_of_cell (h.cubes 0 (by omega))
theorem RTab.below {w w':World} {B:Nat} (h:RTab w) (b:Below B w w') (hB:4≤B):RTab w':=h.kept fun k hk=>b.block k (by omega)
theorem Du:∀ q,q<8→(Ky (8+q)).tmod 4294967296=Xe 224 q:=by decide +kernel
set_option maxHeartbeats 1600000 in
set_option maxRecDepth 100000 in
theorem Za1 (w:World) (hT:Hid (RTab w)) :
  Calls Tryz.prog 69 #[.int .i64 224] w fun e w'=>e=.returned (.agg (Zt 224).cells.toArray)∧Below w.heap.size w w':=by
 have HB0:Hid (Below w.heap.size w ((w.alloc (.cells #[.int .u64 0,.int .u64 0,.int .u64 0,.int .u64 0,.int .u64 0,.int .u64 0,.int .u64 0,.int .u64 0] 137)).alloc (.cells #[.int .u64 0,.int .u64 0,.int .u64 0,.int .u64 0,.int .u64 0,.int .u64 0,.int .u64 0,.int .u64 0] 137))∧((w.alloc (.cells #[.int .u64 0,.int .u64 0,.int .u64 0,.int .u64 0,.int .u64 0,.int .u64 0,.int .u64 0,.int .u64 0] 137)).alloc (.cells #[.int .u64 0,.int .u64 0,.int .u64 0,.int .u64 0,.int .u64 0,.int .u64 0,.int .u64 0,.int .u64 0] 137)).there (w.heap.size+1) 0 8∧((w.alloc (.cells #[.int .u64 0,.int .u64 0,.int .u64 0,.int .u64 0,.int .u64 0,.int .u64 0,.int .u64 0,.int .u64 0] 137)).alloc (.cells #[.int .u64 0,.int .u64 0,.int .u64 0,.int .u64 0,.int .u64 0,.int .u64 0,.int .u64 0,.int .u64 0] 137)).there w.heap.size 0 8):=⟨((Below.refl _ _).alloc (Nat.le_refl _) _).alloc (by simp) _,Qf w _ _ 137 137 8 (by decide),World.there_alloc (Zi w _ 137 8 (by decide)) _⟩
 go_enter Tryz.func69,Tryz.ntmps69
 go_wp2
 go_loopw [4] (fun v wr=>∃ q:Nat,q≤8∧v=.int .i64 q∧Hid (Below w.heap.size w wr)∧Hid (wr.there (w.heap.size+1) 0 8∧wr.there w.heap.size 0 8)∧Hid (∀ j,j<q→wr.cell? ⟨w.heap.size+1,j,none⟩=some (.int .u64 (Xe 224 j)))) (fun v _=>8-(intOf v).toNat)
 case atStart=>exact ⟨0,by omega,rfl,HB0.out.1,HB0.out.2,fun j hj=>by omega⟩
 case round=>
  obtain ⟨q,hq,rfl,HB,HT,HF⟩:=hrel
  clear HB0
  by_cases hlt:q<8
  ·obtain ⟨jj,hjj⟩:∃ jj,jj=8+q:=⟨_,rfl⟩
   have hTr:=hT.out.below HB.out hT.out.size
   have c1:=hTr.roots (jj) (by omega)
   have hql:(q:Int)<8:=by omega
   have hq0:(0:Int)≤(q:Int):=by omega
   have e8:(8:Int)+(q:Int)=(jj:Int):=by omega
   have e9:(jj:Int)<16:=by omega
   have HJ:Hid (jj=8+q):=hjj
   clear hjj
   have ff:wr.frozen? ⟨w.heap.size+1,q,none⟩=false:=by have:=(HT.out.1 q hlt).2;rw[Nat.zero_add] at this;exact this
   have fs:(wr.cell? ⟨w.heap.size+1,q,none⟩).isSome=true:=by have:=(HT.out.1 q hlt).1;rw[Nat.zero_add] at this;exact this
   obtain ⟨z,hz⟩:=Option.isSome_iff_exists.1 fs
   clear fs hTr
   go_wp2
   go_roundw
   case rel=>
    have hf:=X3 (F:=fun j=>.int .u64 (Xe 224 j)) HF.out HT.out.1 hlt (.int .u64 (Xe 224 q)) rfl
    obtain rfl:=HJ.out
    rw[Du q hlt]
    refine ⟨q+1,by omega,by go_num,HB.out.setCell (by simp) _,⟨World.there_setCells HT.out.1 _ q [_],World.there_setCells HT.out.2 _ q [_]⟩,hf.1⟩
   case measure=>simp [intOf];omega
  ·obtain rfl:q=8:=by omega
   have HR:Hid (wr.rangeAt (w.heap.size+1) 0 (Zt 224).cells):=fun j v hv=>by
    obtain ⟨hj,rfl⟩:=Jv _ j v hv
    rw[Nat.zero_add]
    exact HF.out j hj
   have HY:Hid (wr.there w.heap.size 0 (Zt 224).cells.toArray.size):=HT.out.2
   have HZ:Hid ((Tryz.prog.info? 137).map (·.size)=some (Zt 224).cells.toArray.size):=Qo
   obtain ⟨E,HE⟩:∃ E:Zb,Hid (E=Zt 224):=⟨_,rfl⟩
   rw[←HE.out] at HR HY HZ
   clear HF
   go_wp2_with (first
    | (refine wpList_load_mid (by rfl) 137 (.tmp 3) (by rfl) (w.heap.size+1) 0 (by rfl) E.cells _ HR.out Tryz.underlying137 rfl Qo ?_)
    | (refine wpList_store_mid (by rfl) 137 (.tmp 2) (.tmp 42) (by rfl) w.heap.size 0 E.cells.toArray (by rfl) (by rfl) HY.out HZ.out (Xk E) ?_)
    | fail)
   have hl:=run_loadVar_mid (P:=Tryz.prog) (wr.setCells w.heap.size 0 E.cells) w.heap.size 0 137 E.cells _ (World.rangeAt_setCells_same wr w.heap.size 0 E.cells HT.out.2) Tryz.underlying137 rfl Qo
   refine bodyPost_ret (v:=.agg E.cells.toArray) ?_ rfl ⟨by rw[HE.out],below_setCells _ (Nat.le_refl _) _ _ _ HB.out⟩
   rw[Zx Tryz.results69]
   simp [Act.put,asAddr,hl]
set_option maxHeartbeats 1600000 in
set_option maxRecDepth 100000 in
theorem L5 (w:World) (hT:Hid (RTab w)) :
  Calls Tryz.prog 69 #[.int .i64 256] w fun e w'=>e=.returned (.agg (Zt 256).cells.toArray)∧Below w.heap.size w w':=by
 have HB0:Hid (Below w.heap.size w ((w.alloc (.cells #[.int .u64 0,.int .u64 0,.int .u64 0,.int .u64 0,.int .u64 0,.int .u64 0,.int .u64 0,.int .u64 0] 137)).alloc (.cells #[.int .u64 0,.int .u64 0,.int .u64 0,.int .u64 0,.int .u64 0,.int .u64 0,.int .u64 0,.int .u64 0] 137))∧((w.alloc (.cells #[.int .u64 0,.int .u64 0,.int .u64 0,.int .u64 0,.int .u64 0,.int .u64 0,.int .u64 0,.int .u64 0] 137)).alloc (.cells #[.int .u64 0,.int .u64 0,.int .u64 0,.int .u64 0,.int .u64 0,.int .u64 0,.int .u64 0,.int .u64 0] 137)).there (w.heap.size+1) 0 8∧((w.alloc (.cells #[.int .u64 0,.int .u64 0,.int .u64 0,.int .u64 0,.int .u64 0,.int .u64 0,.int .u64 0,.int .u64 0] 137)).alloc (.cells #[.int .u64 0,.int .u64 0,.int .u64 0,.int .u64 0,.int .u64 0,.int .u64 0,.int .u64 0,.int .u64 0] 137)).there w.heap.size 0 8):=⟨((Below.refl _ _).alloc (Nat.le_refl _) _).alloc (by simp) _,Qf w _ _ 137 137 8 (by decide),World.there_alloc (Zi w _ 137 8 (by decide)) _⟩
 go_enter Tryz.func69,Tryz.ntmps69
 go_wp2
 go_loopw [4] (fun v wr=>∃ q:Nat,q≤8∧v=.int .i64 q∧Hid (Below w.heap.size w wr)∧Hid (wr.there (w.heap.size+1) 0 8∧wr.there w.heap.size 0 8)∧Hid (∀ j,j<q→wr.cell? ⟨w.heap.size+1,j,none⟩=some (.int .u64 (Xe 256 j)))) (fun v _=>8-(intOf v).toNat)
 case atStart=>exact ⟨0,by omega,rfl,HB0.out.1,HB0.out.2,fun j hj=>by omega⟩
 case round=>
  obtain ⟨q,hq,rfl,HB,HT,HF⟩:=hrel
  clear HB0
  by_cases hlt:q<8
  ·obtain ⟨jj,hjj⟩:∃ jj,jj=8+q:=⟨_,rfl⟩
   have hTr:=hT.out.below HB.out hT.out.size
   have c1:=hTr.roots (q) (by omega)
   have hql:(q:Int)<8:=by omega
   have hq0:(0:Int)≤(q:Int):=by omega
   skip
   have ff:wr.frozen? ⟨w.heap.size+1,q,none⟩=false:=by have:=(HT.out.1 q hlt).2;rw[Nat.zero_add] at this;exact this
   have fs:(wr.cell? ⟨w.heap.size+1,q,none⟩).isSome=true:=by have:=(HT.out.1 q hlt).1;rw[Nat.zero_add] at this;exact this
   obtain ⟨z,hz⟩:=Option.isSome_iff_exists.1 fs
   clear fs hTr
   go_wp2
   go_roundw
   case rel=>
    have hf:=X3 (F:=fun j=>.int .u64 (Xe 256 j)) HF.out HT.out.1 hlt (.int .u64 (Xe 256 q)) rfl
    skip
    refine ⟨q+1,by omega,by go_num,HB.out.setCell (by simp) _,⟨World.there_setCells HT.out.1 _ q [_],World.there_setCells HT.out.2 _ q [_]⟩,hf.1⟩
   case measure=>simp [intOf];omega
  ·obtain rfl:q=8:=by omega
   have HR:Hid (wr.rangeAt (w.heap.size+1) 0 (Zt 256).cells):=fun j v hv=>by
    obtain ⟨hj,rfl⟩:=Jv _ j v hv
    rw[Nat.zero_add]
    exact HF.out j hj
   have HY:Hid (wr.there w.heap.size 0 (Zt 256).cells.toArray.size):=HT.out.2
   have HZ:Hid ((Tryz.prog.info? 137).map (·.size)=some (Zt 256).cells.toArray.size):=Qo
   obtain ⟨E,HE⟩:∃ E:Zb,Hid (E=Zt 256):=⟨_,rfl⟩
   rw[←HE.out] at HR HY HZ
   clear HF
   go_wp2_with (first
    | (refine wpList_load_mid (by rfl) 137 (.tmp 3) (by rfl) (w.heap.size+1) 0 (by rfl) E.cells _ HR.out Tryz.underlying137 rfl Qo ?_)
    | (refine wpList_store_mid (by rfl) 137 (.tmp 2) (.tmp 42) (by rfl) w.heap.size 0 E.cells.toArray (by rfl) (by rfl) HY.out HZ.out (Xk E) ?_)
    | fail)
   have hl:=run_loadVar_mid (P:=Tryz.prog) (wr.setCells w.heap.size 0 E.cells) w.heap.size 0 137 E.cells _ (World.rangeAt_setCells_same wr w.heap.size 0 E.cells HT.out.2) Tryz.underlying137 rfl Qo
   refine bodyPost_ret (v:=.agg E.cells.toArray) ?_ rfl ⟨by rw[HE.out],below_setCells _ (Nat.le_refl _) _ _ _ HB.out⟩
   rw[Zx Tryz.results69]
   simp [Act.put,asAddr,hl]
theorem B7 {h:Int} (k:Qe h) (w:World) (hT:Hid (RTab w)):Calls Tryz.prog 69 #[.int .i64 h] w fun e w'=>e=.returned (.agg (Zt h).cells.toArray)∧Below w.heap.size w w':=by
 obtain rfl:h=256:=k
 exact L5 w hT
theorem V4 (h:Int) (k:Qe h) (w:World):Calls Tryz.prog 68 #[.int .i64 h] w fun e w'=>e=.returned (.int .i64 (bsz (Xf h)))∧w'=w:=by
 obtain rfl:h=256:=k
 all_goals
  go_enter Tryz.func68,Tryz.ntmps68
  go_wp2
  go_ret
  exact ⟨rfl,rfl⟩
theorem Gt (h:Int) (k:Qe h) (w:World):Calls Tryz.prog 73 #[.int .i64 h] w fun e w'=>e=.returned (.int .i64 (Yw h))∧w'=w:=by
 obtain rfl:h=256:=k
 all_goals
  go_enter Tryz.func73,Tryz.ntmps73
  go_wp2
  go_ret
  exact ⟨rfl,rfl⟩
end Go.Proofs.YtehlppaidgkpaaaGreatDoor.Dg
namespace Go.Proofs.YtehlppaidgkpaaaGreatDoor
open Go.RowKit
set_option linter.unusedVariables false
set_option linter.unusedSimpArgs false
set_option maxHeartbeats 1600000 in
set_option maxRecDepth 100000 in
theorem Df (B sh:Nat) (S:ByteArray) (st wd:Nat) (zs:List Int) (kv:Value) (mp:Option Addr) (ov:Value) (v:Value) (ys:List Int) (nk:Nat) (w:World) (h:ShA B w sh S st wd zs kv mp ov) (hB:B≤w.heap.size) (hfew:∃ n os,n≤3∧w.ownsRow B 71 1 ov n os)
  (hnk:nk=4∨nk=6∨nk=8) (hl:ys.length=4*nk) (hv:Zf w v ys) (hb:Zd ys) (hrc:RC w) (hpos:1<w.heap.size) :
  Calls Tryz.prog 186 #[.pointer (some ⟨sh,0,none⟩),v] w fun e w'=>Hid (∃ g ov',e=.returned (.pointer (some ⟨g,0,none⟩))∧w.heap.size≤g∧Zr w' g (nk+6) (Zn nk (Yk ys))∧(∃ R:Array Value,w'.heap[g]?=some (.cells R 135 (0,0)))∧ShA B w' sh S st wd zs kv mp ov'∧(∀ n os,w.ownsRow B 71 1 ov n os→∃ os',w'.ownsRow B 71 1 ov' (n+1) os')∧Fs B sh w w'∧∀ b,b<w.heap.size→b≠sh→ov.ownBlock≠some b→w'.heap[b]?=w.heap[b]?):=by
 have HN:Hid (Calls Tryz.prog 31 #[v] w fun e w'=>Hid (∃ g,e=.returned (.tuple #[.pointer (some ⟨g,0,none⟩),.int .i64 0])∧w.heap.size≤g∧Zr w' g (nk+6) (Zn nk (Yk ys))∧Below w.heap.size w w'∧∃ R:Array Value,w'.heap[g]?=some (.cells R 135 (0,0)))):=Vo v ys nk w hnk hl hv hb hrc hpos
 have HA:Hid (ShA B w sh S st wd zs kv mp ov):=h
 have HBB:Hid (B≤w.heap.size):=hB
 obtain ⟨n0,os0,hn0,ho0⟩:=hfew
 have HO0:Hid (n0≤3∧w.ownsRow B 71 1 ov n0 os0):=⟨hn0,ho0⟩
 clear h hB hnk hl hv hb hrc hpos hn0 ho0
 obtain ⟨i0,hi0,hz0,hz1,hz2⟩:=info_parts Tryz.info105
 have HI0:Hid (Tryz.prog.info? 71=some i0∧i0.zero=some (.pointer none)∧i0.size=1∧i0.bytes=8):=⟨hi0,hz0,hz1,hz2⟩
 clear hi0 hz0 hz1 hz2
 go_enter Tryz.func186,Tryz.ntmps186
 go_upto_region 2 with (go_at_call 31;refine HN.out.mono ?_;intro e1 w1 hh;obtain ⟨g,rfl,hg1,hK1,hb1,R1,hR1⟩:=hh.out;have HK1:Hid (w.heap.size≤g∧Zr w1 g (nk+6) (Zn nk (Yk ys))∧Below w.heap.size w w1∧w1.heap[g]?=some (.cells R1 135 (0,0))):=⟨hg1,hK1,hb1,hR1⟩;clear hh hg1 hK1 hb1 hR1 HN)
 have HA1:Hid (ShA B w1 sh S st wd zs kv mp ov):=HA.out.below HK1.out.2.2.1
 have HO1:Hid (w1.ownsRow B 71 1 ov n0 os0):=ownsRow_below HO0.out.2 HK1.out.2.2.1
 have hov:(∃ x a c,ov=.slice x a c):=by
  rcases HO1.out.2 with ⟨rfl,_⟩ | ⟨g',cap,cur,rfl,_⟩
  ·exact ⟨_,_,_,rfl⟩
  ·exact ⟨_,_,_,rfl⟩
 obtain ⟨xa,xl,xc,rfl⟩:=hov
 have c5:w1.cell? ⟨sh,5,none⟩=some (.slice xa xl xc):=HA1.out.box.cell 5 _ rfl
 have hlt:Hid (sh<w1.heap.size):=HA1.out.box.lt
 have HA2:Hid (ShA B (w1.alloc (.cells #[.pointer (some ⟨g,0,none⟩)] 71)) sh S st wd zs kv mp (.slice xa xl xc)):=HA1.out.below ((Below.refl _ _).alloc (Nat.le_refl _) _)
 go_wp2_with (first
  | (at_builtin;go_must (refine wpList_append_own_at _ rfl (.tmp 16) (.tmp 18) 113 rfl B 71 i0 (.pointer none) 1 8 Tryz.underlying113 HI0.out.1 HI0.out.2.1 HI0.out.2.2.1 HI0.out.2.2.2 rfl (by decide) _ n0 os0 rfl (HO1.out.alloc _) ⟨w1.heap.size,0,none⟩ 1 1 [.pointer (some ⟨g,0,none⟩)] rfl rfl ?_ ?_ ?_ ?_ ?_ ?_)))
 ·intro j u hj
  match j,hj with
  | 0,hj=>simp at hj;subst hj;simp [Addr.add]
 ·intro u hu;simp at hu;subst hu;rfl
 ·have:=HO0.out.1;unfold maxLen;omega
 ·have:=HO0.out.1;omega
 ·have:=HBB.out;have:=HK1.out.2.2.1.size;simp;omega
 intro v2 w2 hown hgrow hnil hat
 obtain ⟨hbx,hsh,hfs⟩:=HA2.out.sched hgrow hown (by have:=HO0.out.1;omega) (by have:=HBB.out;have:=HK1.out.2.2.1.size;simp;omega)
 have hv2:(∃ x a c,v2=.slice x a c):=by
  rcases hown.2 with ⟨rfl,_⟩ | ⟨g',cap,cur,rfl,_⟩
  ·exact ⟨_,_,_,rfl⟩
  ·exact ⟨_,_,_,rfl⟩
 obtain ⟨ya,yl,yc,rfl⟩:=hv2
 have HSH:Hid (ShA B (w2.setCell ⟨sh,5,none⟩ (.slice ya yl yc)) sh S st wd zs kv mp (.slice ya yl yc)):=hsh
 have HFS:Hid (Fs B sh (w1.alloc (.cells #[.pointer (some ⟨g,0,none⟩)] 71)) (w2.setCell ⟨sh,5,none⟩ (.slice ya yl yc))):=hfs
 have d5:w2.cell? ⟨sh,5,none⟩=some (.slice xa xl xc):=hbx.cell 5 _ rfl
 have f5:w2.frozen? ⟨sh,5,none⟩=false:=hbx.frozen 5
 have HOW:Hid (w2.ownsRow B 71 1 (.slice ya yl yc) (n0+1) (os0++[.pointer (some ⟨g,0,none⟩)])∧w2.heap[sh]?=some (.cells (shL S st kv wd mp (.slice xa xl xc)).toArray 115 (0,0))):=⟨hown,hbx⟩
 have HKP:Hid (∀ b,b<w.heap.size→b≠sh→(Value.slice xa xl xc).ownBlock≠some b→(w2.setCell ⟨sh,5,none⟩ (.slice ya yl yc)).heap[b]?=w.heap[b]?):=fun b hb hn ho=>by
  have l1:b<w1.heap.size:=Nat.lt_of_lt_of_le hb HK1.out.2.2.1.size
  rw[Below.heap_setCell w2 ⟨sh,5,none⟩ _ b hn,hgrow.block b (by simp;omega) (fun e=>ho e.symm),Below.heap_alloc _ _ _ l1]
  exact HK1.out.2.2.1.block b hb
 clear hown hgrow hnil hat hbx hsh hfs c5
 go_wp2
 go_ret
 have hF:Fs B sh w (w2.setCell ⟨sh,5,none⟩ (.slice ya yl yc)):=(Fs.of_below HK1.out.2.2.1 HBB.out).trans ((Fs.of_below ((Below.refl _ _).alloc (Nat.le_refl _) _) (Nat.le_trans HBB.out HK1.out.2.2.1.size)).trans HFS.out)
 have hgk:(w2.setCell ⟨sh,5,none⟩ (.slice ya yl yc)).heap[g]?=w1.heap[g]?:=by
  have l:g<w1.heap.size:=HK1.out.2.1.ciph.here
  have e:(w1.alloc (.cells #[.pointer (some ⟨g,0,none⟩)] 71)).heap[g]?=w1.heap[g]?:=Below.heap_alloc _ _ _ l
  rw[HFS.out.blk g (by simp;omega) (Zo HK1.out.2.2.2 HA1.out.box (by decide)) (by rw[e,HK1.out.2.2.2];intro cs fr q;injection q with q;injection q with _ q _;exact absurd q (by decide)),e]
 refine ⟨g,.slice ya yl yc,rfl,HK1.out.1,HK1.out.2.1.sameK hgk (Nat.le_trans (by simp) HFS.out.bel.size),⟨R1,by rw[hgk];exact HK1.out.2.2.2⟩,HSH.out,fun n os ho=>?_,hF,HKP.out⟩
 have e:n=n0:=by
  have q1:=ho.2
  have q2:=HO0.out.2.2
  rcases q1 with ⟨q,r⟩ | ⟨_,_,_,q,_⟩<;>rcases q2 with ⟨q',r'⟩ | ⟨_,_,_,q',_⟩
  ·omega
  ·rw[q] at q';cases q'
  ·rw[q] at q';cases q'
  ·rw[q] at q';injection q' with _ q' _
 subst e
 exact ⟨_,Yx HOW.out.1 fun b q=>by
  obtain ⟨cur,hc⟩:=Xs HOW.out.1 q
  exact Below.heap_setCell w2 ⟨sh,5,none⟩ _ b (fun e=>Zo HOW.out.2 hc (by decide) e.symm)⟩
end Go.Proofs.YtehlppaidgkpaaaGreatDoor
