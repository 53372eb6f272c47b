import Derived.Test.YtehlppaidgkpaaaGreatDoorPart10
namespace Go.Proofs.YtehlppaidgkpaaaGreatDoor
open Go.RowKit
set_option linter.unusedVariables false
def B4:List (List Value):=[[.string ⟨#[101,99,98]⟩,.string ⟨#[101,99,98]⟩,.string ⟨#[]⟩,.int .i64 0],
 [.string ⟨#[99,98,99,45,110,117,108,108]⟩,.string ⟨#[99,98,99]⟩,.string ⟨#[110,117,108,108]⟩,.int .i64 0],
 [.string ⟨#[99,98,99,45,112,108,97,105,110]⟩,.string ⟨#[99,98,99]⟩,.string ⟨#[112,108,97,105,110]⟩,.int .i64 0],
 [.string ⟨#[99,98,99,45,112,108,97,105,110,54,52]⟩,.string ⟨#[99,98,99]⟩,.string ⟨#[112,108,97,105,110,54,52]⟩,.int .i64 0],
 [.string ⟨#[99,98,99,45,112,108,97,105,110,54,52,98,101]⟩,.string ⟨#[99,98,99]⟩,.string ⟨#[112,108,97,105,110,54,52,98,101]⟩,.int .i64 0],
 [.string ⟨#[99,98,99,45,98,101,110,98,105]⟩,.string ⟨#[99,98,99]⟩,.string ⟨#[98,101,110,98,105]⟩,.int .i64 0],
 [.string ⟨#[99,98,99,45,101,115,115,105,118,58,115,104,97,50,53,54]⟩,.string ⟨#[99,98,99]⟩,.string ⟨#[101,115,115,105,118]⟩,.int .i64 0],
 [.string ⟨#[99,98,99,45,101,98,111,105,118]⟩,.string ⟨#[99,98,99]⟩,.string ⟨#[101,98,111,105,118]⟩,.int .i64 0],
 [.string ⟨#[99,98,99,45,101,108,101,112,104,97,110,116]⟩,.string ⟨#[101,108,101,112,104,97,110,116]⟩,.string ⟨#[101,98,111,105,118]⟩,.int .i64 (-1)],
 [.string ⟨#[99,98,99,45,116,99,119]⟩,.string ⟨#[116,99,119]⟩,.string ⟨#[116,99,119]⟩,.int .i64 32],
 [.string ⟨#[120,116,115,45,112,108,97,105,110]⟩,.string ⟨#[120,116,115]⟩,.string ⟨#[112,108,97,105,110]⟩,.int .i64 (-1)],
 [.string ⟨#[120,116,115,45,112,108,97,105,110,54,52]⟩,.string ⟨#[120,116,115]⟩,.string ⟨#[112,108,97,105,110,54,52]⟩,.int .i64 (-1)],
 [.string ⟨#[120,116,115,45,112,108,97,105,110,54,52,98,101]⟩,.string ⟨#[120,116,115]⟩,.string ⟨#[112,108,97,105,110,54,52,98,101]⟩,.int .i64 (-1)],
 [.string ⟨#[120,116,115,45,101,115,115,105,118,58,115,104,97,50,53,54]⟩,.string ⟨#[120,116,115]⟩,.string ⟨#[101,115,115,105,118]⟩,.int .i64 (-1)],
 [.string ⟨#[108,114,119,45,98,101,110,98,105]⟩,.string ⟨#[108,114,119]⟩,.string ⟨#[98,101,110,98,105]⟩,.int .i64 16],
 [.string ⟨#[104,99,116,114,50,45,112,108,97,105,110]⟩,.string ⟨#[104,99,116,114,50]⟩,.string ⟨#[112,108,97,105,110]⟩,.int .i64 0],
 [.string ⟨#[104,99,116,114,50,45,112,108,97,105,110,54,52]⟩,.string ⟨#[104,99,116,114,50]⟩,.string ⟨#[112,108,97,105,110,54,52]⟩,.int .i64 0]]
theorem Ph (k:Nat) (hk:k<17):∃ (mo:Int) (MB SB:ByteArray),B4.getD k []=[.string (nmB k),.string MB,.string SB,.int .i64 mo]∧-1≤mo∧mo≤32:=by
 match k,hk with
 | 0,_=>exact ⟨_,_,_,rfl,by decide,by decide⟩
 | 1,_=>exact ⟨_,_,_,rfl,by decide,by decide⟩
 | 2,_=>exact ⟨_,_,_,rfl,by decide,by decide⟩
 | 3,_=>exact ⟨_,_,_,rfl,by decide,by decide⟩
 | 4,_=>exact ⟨_,_,_,rfl,by decide,by decide⟩
 | 5,_=>exact ⟨_,_,_,rfl,by decide,by decide⟩
 | 6,_=>exact ⟨_,_,_,rfl,by decide,by decide⟩
 | 7,_=>exact ⟨_,_,_,rfl,by decide,by decide⟩
 | 8,_=>exact ⟨_,_,_,rfl,by decide,by decide⟩
 | 9,_=>exact ⟨_,_,_,rfl,by decide,by decide⟩
 | 10,_=>exact ⟨_,_,_,rfl,by decide,by decide⟩
 | 11,_=>exact ⟨_,_,_,rfl,by decide,by decide⟩
 | 12,_=>exact ⟨_,_,_,rfl,by decide,by decide⟩
 | 13,_=>exact ⟨_,_,_,rfl,by decide,by decide⟩
 | 14,_=>exact ⟨_,_,_,rfl,by decide,by decide⟩
 | 15,_=>exact ⟨_,_,_,rfl,by decide,by decide⟩
 | 16,_=>exact ⟨_,_,_,rfl,by decide,by decide⟩
 | n+17,h=>exact absurd h (by omega)
structure Vo (w:World) (G o cap:Nat):Prop where
 var:w.cell? ⟨0,0,none⟩=some (.slice (some ⟨G,o,none⟩) 17 cap)
 g0:0<w.heap.size
 gG:G<w.heap.size
 at_:∀ k,k<17→∀ j,j<4→w.cell? ⟨G,o+k*4+j,none⟩=(B4.getD k [])[j]?
theorem Vo.below {w v:World} {G o cap:Nat} (h:Vo w G o cap) (b:Below w.heap.size w v):Vo v G o cap:=
 ⟨by rw[b.cell (p:=⟨0,0,none⟩) h.g0];exact h.var,Nat.lt_of_lt_of_le h.g0 b.size,Nat.lt_of_lt_of_le h.gG b.size,fun k hk j hj=>by rw[b.cell (p:=⟨G,o+k*4+j,none⟩) h.gG];exact h.at_ k hk j hj⟩
def nsB (i:Nat):ByteArray:=if i=0 then ⟨#[97,101,115,49,50,56,45]⟩ else if i=1 then ⟨#[97,101,115,49,57,50,45]⟩ else ⟨#[97,101,115,50,53,54,45]⟩
def rwS (i k:Nat):List Value:=match B4.getD k [] with
 | [_,m,s,.int _ mo]=>[m,s,.int .i64 ((16+8*i:Nat):Int),.int .i64 (if mo<0 then 2*((16+8*i:Nat):Int) else ((16+8*i:Nat):Int)+mo)]
 | _=>[.nilFunc,.nilFunc,.nilFunc,.nilFunc]
def rwF:Nat→List Value
 | 0=>[.string ⟨#[110,117,108,108]⟩,.string ⟨#[110,117,108,108]⟩,.string ⟨#[]⟩,.int .i64 0,.int .i64 0]
 | j+1=>.string (nsB (j/17)++nmB (j%17))::rwS (j/17) (j%17)
theorem Rt (j : Nat) : (rwF j).length = 5 := by
  cases j with
  | zero => rfl
  | succ j =>
    obtain ⟨mo, MB, SB, h, _⟩ := Ph (j % 17) (Nat.mod_lt _ (by decide))
    rw [rwF, rwS, h]
    rfl
theorem Mk (i k:Nat) (hk:k<17):rwF (1+17*i+k)=.string (nsB i++nmB k)::rwS i k:=by
 have e:1+17*i+k=(17*i+k)+1:=by omega
 rw[e,rwF,show (17*i+k)/17=i by omega,show (17*i+k)%17=k by omega]
structure RwO (w0 wr:World) (v:Value) (n:Nat):Prop where
 own:wr.ownsRow w0.heap.size 59 5 v n (fl rwF n)
 bel:Below w0.heap.size w0 wr
 nms:wr.heap[w0.heap.size+1]?=some (.cells #[.string (nsB 0),.string (nsB 1),.string (nsB 2)] 9 (0,0))
 ne:v.ownBlock≠some (w0.heap.size+1)
theorem RwO.lt {w0 wr:World} {v:Value} {n:Nat} (h:RwO w0 wr v n):w0.heap.size+1<wr.heap.size:=by
 rcases Nat.lt_or_ge (w0.heap.size+1) wr.heap.size with q | q
 ·exact q
 ·have:=h.nms;rw[Array.getElem?_eq_none q] at this;cases this
theorem RwO.form {w0 wr:World} {v:Value} {n:Nat} (h:RwO w0 wr v n) (hn:0<n):∃ g cap,v=.slice (some ⟨g,0,none⟩) n cap:=by
 rcases h.own.2 with ⟨_,h0⟩ | ⟨g,cap,cur,hv,hb,hgg,_⟩
 ·omega
 ·exact ⟨g,cap,hv⟩
theorem RwO.below {w0 wr wx:World} {v:Value} {n:Nat} (h:RwO w0 wr v n) (b:Below wr.heap.size wr wx):RwO w0 wx v n:=
 ⟨ownsRow_below h.own b,h.bel.trans (b.mono h.bel.size),by rw[b.block _ h.lt];exact h.nms,h.ne⟩
theorem U9 (w0:World):RwO w0 ((w0.alloc (.cells #[.string ⟨#[110,117,108,108]⟩,.string ⟨#[110,117,108,108]⟩,.string ⟨#[]⟩,.int .i64 0,.int .i64 0] 59)).alloc (.cells #[.string (nsB 0),.string (nsB 1),.string (nsB 2)] 9)) (.slice (some ⟨w0.heap.size,0,none⟩) 1 1) (1+17*0):=by
 refine ⟨ownsRow_below (W9 w0 w0.heap.size 59 5 1 (fl rwF 1) (Nat.le_refl _) (by decide) rfl) ((Below.refl _ _).alloc (Nat.le_refl _) _),((Below.refl _ _).alloc (Nat.le_refl _) _).alloc (by simp) _,?_,?_⟩
 ·have q:=heap_alloc_new (w0.alloc (.cells #[.string ⟨#[110,117,108,108]⟩,.string ⟨#[110,117,108,108]⟩,.string ⟨#[]⟩,.int .i64 0,.int .i64 0] 59)) (.cells #[.string (nsB 0),.string (nsB 1),.string (nsB 2)] 9)
  simpa using q
 ·simp [Value.ownBlock]
theorem Rr {w0 w4 w5:World} {v:Value} {i k gg cap:Nat} {L:List Value} (h:RwO w0 w4 v (1+17*i+k)) (hk:k<17) (o:Obj) (hg:(w4.alloc o).drew.grownBy w5 v.ownBlock) (hown:w5.ownsRow w0.heap.size 59 5 (.slice (some ⟨gg,0,none⟩) (1+17*i+k+1) cap) (1+17*i+k+1) (fl rwF (1+17*i+k)++L)) (hL:rwF (1+17*i+k)=L) (hat:v.ownBlock=some gg∨gg=w4.heap.size+1):RwO w0 w5 (.slice (some ⟨gg,0,none⟩) (1+17*i+k+1) cap) (1+17*i+(k+1)):=by
 have hI:=h.lt
 have far:∀ b,b<w4.heap.size→v.ownBlock≠some b→w5.heap[b]?=w4.heap[b]?:=fun b hb hn=>by
  rw[hg.block b (by show b<(w4.alloc o).heap.size;simp;omega) (Ne.symm hn)]
  exact Below.heap_alloc _ _ _ hb
 have own2:∀ b,b<w4.heap.size→v.ownBlock≠some b→(Value.slice (some ⟨gg,0,none⟩) (1+17*i+k+1) cap).ownBlock≠some b:=fun b hb hn e=>by
  have e':gg=b:=by simpa [Value.ownBlock] using e
  rcases hat with q | q
  ·exact hn (by rw[q,e'])
  ·omega
 refine ⟨?_,?_,?_,own2 _ hI h.ne⟩
 ·have e:fl rwF (1+17*i+(k+1))=fl rwF (1+17*i+k)++L:=by rw[←hL];rfl
  rw[e]
  exact hown
 ·exact h.bel.trans ((((Below.refl _ _).alloc h.bel.size o).drew).grown hg (by have:=h.bel.size;show _≤(w4.alloc o).heap.size;simp;omega) fun b e=>(Z2 h.own e).1)
 ·rw[far _ hI h.ne];exact h.nms
theorem Zab {w0 wr:World} {v:Value} {n:Nat} (h:RwO w0 wr v n) {i:Nat} (hi:i<3):wr.cell? ⟨w0.heap.size+1,i,none⟩=some (.string (nsB i)):=by
 rcases (show i=0∨i=1∨i=2 by omega) with rfl | rfl | rfl<;>simp [World.cell?,h.nms]
theorem Y3 {i k:Nat} {mo:Int} {MB SB:ByteArray} {AES SZ:Int} {x:Value} (h:B4.getD k []=[x,.string MB,.string SB,.int .i64 mo]) (ha:((16+8*i:Nat):Int)=AES) (hs:(if mo<0 then 2*AES else AES+mo)=SZ):rwS i k=[.string MB,.string SB,.int .i64 AES,.int .i64 SZ]:=by
 rw[rwS,h]
 simp only[ha,hs]
theorem If:Tryz.prog.built 59 [(0,.string ⟨#[110,117,108,108]⟩),(1,.string ⟨#[110,117,108,108]⟩)]=some #[.string ⟨#[110,117,108,108]⟩,.string ⟨#[110,117,108,108]⟩,.string ⟨#[]⟩,.int .i64 0,.int .i64 0]:=by kernel_rfl
theorem Za5 (a b c:ByteArray) (x y:Int):Tryz.prog.built 59 [(0,.string a),(1,.string b),(2,.string c),(3,.int .i64 x),(4,.int .i64 y)]=some #[.string a,.string b,.string c,.int .i64 x,.int .i64 y]:=by kernel_rfl
theorem Ek:(Tryz.prog.info? 59).map (fun i=>(i.zero,i.size,i.bytes))=some (some (.agg #[.string ⟨#[]⟩,.string ⟨#[]⟩,.string ⟨#[]⟩,.int .i64 0,.int .i64 0]),5,64):=by kernel_rfl
theorem Zc8 (c0 c1 c2 c3 c4:Value):Instr.fill (fun i=>some (i*5,5)) ((Array.range (1*5)).map ((Value.agg #[.string ⟨#[]⟩,.string ⟨#[]⟩,.string ⟨#[]⟩,.int .i64 0,.int .i64 0]).cells[·%(Value.agg #[.string ⟨#[]⟩,.string ⟨#[]⟩,.string ⟨#[]⟩,.int .i64 0,.int .i64 0]).cells.size]!)) [(0,.agg #[c0,c1,c2,c3,c4])]=some #[c0,c1,c2,c3,c4]:=by kernel_rfl
theorem Oq (w:World) (c0 c1 c2 c3 c4:Value):(Instr.buildSlice 102 1 #[(0,.agg #[c0,c1,c2,c3,c4])]).run Tryz.prog w=.ok (.slice (some ⟨w.heap.size,0,none⟩) 1 1) (w.alloc (.cells #[c0,c1,c2,c3,c4] 59)):=by
 obtain ⟨i,hi,hz0,hz1,hz2⟩:=info_parts Ek
 refine run_buildSlice w 102 59 1 _ _ i _ Tryz.underlying102 hi hz0 (by rw[hz1];decide) (by rw[hz1];decide) ?_
 rw[hz1]
 exact Zc8 _ _ _ _ _
set_option maxHeartbeats 3200000 in
set_option maxRecDepth 100000 in
theorem rows_ok (w0 : World) (G o cp : Nat) (hD : Vo w0 G o cp) : Calls Tryz.prog 45 #[] w0 fun e w' => Hid (∃ g cap, e = .returned (.slice (some ⟨g, 0, none⟩) 52 cap) ∧ w'.ownsRow w0.heap.size 59 5 (.slice (some ⟨g, 0, none⟩) 52 cap) 52 (fl rwF 52) ∧ Below w0.heap.size w0 w') := by
  have HD : Hid (Vo w0 G o cp) := hD
  clear hD
  have b0 : ∀ w, (Instr.build 59 #[(0, .string ⟨#[110, 117, 108, 108]⟩), (1, .string ⟨#[110, 117, 108, 108]⟩)]).run Tryz.prog w = .ok (.agg #[.string ⟨#[110, 117, 108, 108]⟩, .string ⟨#[110, 117, 108, 108]⟩, .string ⟨#[]⟩, .int .i64 0, .int .i64 0]) w := fun w => run_build w _ _ _ If
  have b1 : ∀ (a b c : ByteArray) (x y : Int) w, (Instr.build 59 #[(0, .string a), (1, .string b), (2, .string c), (3, .int .i64 x), (4, .int .i64 y)]).run Tryz.prog w = .ok (.agg #[.string a, .string b, .string c, .int .i64 x, .int .i64 y]) w := fun a b c x y w => run_build w _ _ _ (Za5 a b c x y)
  have b2 := Oq
  obtain ⟨i0, hi0, hz0, hz1, hz2⟩ := info_parts Ek
  have HI0 : Hid (Tryz.prog.info? 59 = some i0 ∧ i0.zero = some (.agg #[.string ⟨#[]⟩, .string ⟨#[]⟩, .string ⟨#[]⟩, .int .i64 0, .int .i64 0]) ∧ i0.size = 5 ∧ i0.bytes = 64) := ⟨hi0, hz0, hz1, hz2⟩
  clear hi0 hz0 hz1 hz2
  go_enter Tryz.func45, Tryz.ntmps45
  go_wp2
  go_loopw [1, 3] (fun va vi wr => ∃ i : Nat, vi = .int .i64 (i : Nat) ∧ i ≤ 3 ∧ Hid (RwO w0 wr va (1 + 17 * i))) (fun _ vi _ => 3 - (intOf vi).toNat)
  case atStart => exact ⟨0, rfl, by omega, U9 w0⟩
  case round =>
    obtain ⟨i, rfl, hi, HR⟩ := hrel
    by_cases hlt : i < 3
    · obtain ⟨AES, HAES⟩ : ∃ W : Int, Hid (W = ((16 + 8 * i : Nat) : Int)) := ⟨_, rfl⟩
      have g0 : (0 : Int) ≤ (i : Int) := by omega
      have g1 : (i : Int) < 3 := by omega
      have ha1 : IntKind.i64.wrap (8 * (i : Int)) = 8 * (i : Int) := by rw [IntKind.wrap_i64]; omega
      have ha2 : IntKind.i64.wrap (16 + 8 * (i : Int)) = AES := by rw [IntKind.wrap_i64, HAES.out]; omega
      go_upto_region 8 with fail
      clear ha1 ha2
      go_loopw [1, 5] (fun va vk wx => ∃ k : Nat, vk = .int .i64 (k : Nat) ∧ k ≤ 17 ∧ Hid (RwO w0 wx va (1 + 17 * i + k))) (fun _ vk _ => 17 - (intOf vk).toNat)
      case atStart => exact ⟨0, rfl, by omega, HR⟩
      case round =>
        obtain ⟨k, rfl, hk, HK⟩ := hrel
        clear HR
        have HDx : Hid (Vo wr G o cp) := HD.out.below HK.out.bel
        have hv := HDx.out.var
        by_cases hkl : k < 17
        · obtain ⟨mo, MB, SB, hm, hmo1, hmo2⟩ := Ph k hkl
          have k0 : (0 : Int) ≤ (k : Int) := by omega
          have k1 : (k : Int) < 17 := by omega
          obtain ⟨NB, HNB⟩ : ∃ x, Hid (nmB k = x) := ⟨_, rfl⟩
          rw [HNB.out] at hm
          have cs := HDx.out.at_ k hkl
          rw [hm] at cs
          have c0 := cs 0 (by decide)
          have c1 := cs 1 (by decide)
          have c2 := cs 2 (by decide)
          have c3 := cs 3 (by decide)
          clear cs HDx
          simp only [List.getElem?_cons_zero, List.getElem?_cons_succ, Nat.add_zero] at c0 c1 c2 c3
          go_upto_region 11 with fail
          obtain ⟨w2, hw2⟩ : ∃ w2, w2 = wr.alloc (.cells #[.string NB, .string MB, .string SB, .int .i64 mo] 158) := ⟨_, rfl⟩
          have HK2 : Hid (RwO w0 w2 u1 (1 + 17 * i + k)) := by rw [hw2]; exact HK.out.below ((Below.refl _ _).alloc (Nat.le_refl _) _)
          have hb2 := heap_alloc_new wr (.cells #[.string NB, .string MB, .string SB, .int .i64 mo] 158)
          rw [← hw2] at hb2 ⊢
          have HL2 : Hid (w2.heap[wr.heap.size]? = some (.cells #[.string NB, .string MB, .string SB, .int .i64 mo] 158 (0, 0)) ∧ wr.heap.size < w2.heap.size) := ⟨hb2, by rw [hw2]; simp⟩
          have HUm : Hid (u1.ownBlock ≠ some wr.heap.size) := fun e => Nat.lt_irrefl _ (Z2 HK.out.own e).2
          clear hw2 hb2 c0 c1 c2 c3 hv
          generalize wr.heap.size = m at HL2 HUm ⊢
          clear HK
          obtain ⟨NS, HNS⟩ : ∃ x, Hid (nsB i = x) := ⟨_, rfl⟩
          have HSM : Hid (∀ u : World, u.heap[m]? = w2.heap[m]? → u.heap[w0.heap.size + 1]? = w2.heap[w0.heap.size + 1]? → u.cell? ⟨w0.heap.size + 1, i, none⟩ = some (.string NS) ∧ u.cell? ⟨m, 0, none⟩ = some (.string NB) ∧ u.cell? ⟨m, 1, none⟩ = some (.string MB) ∧ u.cell? ⟨m, 2, none⟩ = some (.string SB)) := fun u hu hn => by
            rw [HL2.out.1] at hu
            refine ⟨?_, by simp [World.cell?, hu], by simp [World.cell?, hu], by simp [World.cell?, hu]⟩
            rw [← HNS.out, ← Zab HK2.out hlt]
            exact World.cell?_of_block hn
          have d3 : w2.cell? ⟨m, 3, none⟩ = some (.int .i64 mo) := by simp [World.cell?, HL2.out.1]
          obtain ⟨hc, d0, d1, d2⟩ := HSM.out w2 rfl rfl
          have HMO : Hid (-1 ≤ mo ∧ mo ≤ 32) := ⟨hmo1, hmo2⟩
          have HMM : Hid (B4.getD k [] = [.string NB, .string MB, .string SB, .int .i64 mo]) := hm
          clear hmo1 hmo2 hm
          have zN : NB.size ≤ 100 := by rw [← HNB.out]; exact B7 k hkl
          have zS : NS.size = 7 := by rw [← HNS.out]; rcases (show i = 0 ∨ i = 1 ∨ i = 2 by omega) with rfl | rfl | rfl <;> rfl
          have z1 : ¬ (9223372036854775807 < NS.size + NB.size) := by omega
          have HN1 : Hid (1 + 17 * i + k + 1 ≤ maxLen) := by show 1 + 17 * i + k + 1 ≤ maxLen; unfold maxLen; omega
          have HN2 : Hid ((1 + 17 * i + k + 1) * 64 ≤ 140737488355328) := by show (1 + 17 * i + k + 1) * 64 ≤ 140737488355328; omega
          clear zS zN
          obtain ⟨S1, hS1⟩ : ∃ q, IntKind.i64.wrap (AES + mo) = q := ⟨_, rfl⟩
          obtain ⟨S2, hS2⟩ : ∃ q, IntKind.i64.wrap (2 * AES) = q := ⟨_, rfl⟩
          have HS1 : Hid (S1 = AES + mo) := by
            show S1 = AES + mo
            have q1 := HMO.out
            have q2 := HAES.out
            rw [← hS1, IntKind.wrap_i64]
            omega
          have HS2 : Hid (S2 = 2 * AES) := by
            show S2 = 2 * AES
            have q2 := HAES.out
            rw [← hS2, IntKind.wrap_i64]
            omega
          by_cases hneg : mo < 0
          · go_upto_region 14 with fail
            have HLa : Hid (∀ b, b < w2.heap.size → b < (w2.alloc (.cells #[.string (NS ++ NB), .string MB, .string SB, .int .i64 AES, .int .i64 S2] 59)).drew.heap.size) := fun b hb => by
              show b < (w2.alloc (.cells #[.string (NS ++ NB), .string MB, .string SB, .int .i64 AES, .int .i64 S2] 59)).heap.size
              simp
              omega
            have HLb : Hid (w0.heap.size ≤ (w2.alloc (.cells #[.string (NS ++ NB), .string MB, .string SB, .int .i64 AES, .int .i64 S2] 59)).drew.heap.size) := Nat.le_of_lt (HLa.out _ (Nat.lt_of_succ_lt HK2.out.lt))
            have HNW : Hid (∀ u ∈ ([.string (NS ++ NB), .string MB, .string SB, .int .i64 AES, .int .i64 S2] : List Value), u.oneCell' = true) := by
              intro u hu
              simp only [List.mem_cons, List.not_mem_nil, or_false] at hu
              rcases hu with rfl | rfl | rfl | rfl | rfl <;> rfl
            go_region_held3 (fun u => u.cell? ⟨w0.heap.size + 1, i, none⟩ = some (.string NS) ∧ u.cell? ⟨m, 0, none⟩ = some (.string NB) ∧ u.cell? ⟨m, 1, none⟩ = some (.string MB) ∧ u.cell? ⟨m, 2, none⟩ = some (.string SB)) (first | exact ⟨hc, d0, d1, d2⟩ | exact hS5 | go_keep)
              ((refine step_append_lies _ ?q1 (.tmp 37) (.tmp 52) 102 ?q2 w0.heap.size 59 i0 _ 5 64 Tryz.underlying102 HI0.out.1 HI0.out.2.1 HI0.out.2.2.1 HI0.out.2.2.2 ?q3 (Nat.succ_pos 4) u1 (1 + 17 * i + k) (fl rwF (1 + 17 * i + k)) ?q4 ((HK2.out.own.alloc _).drew)
                  ⟨w2.heap.size, 0, none⟩ 1 1 [.string (NS ++ NB), .string MB, .string SB, .int .i64 AES, .int .i64 S2] ?q5 ?q6 (World.news_of_block (cs := #[.string (NS ++ NB), .string MB, .string SB, .int .i64 AES, .int .i64 S2]) (t := 59) (fr := (0, 0)) (heap_alloc_new w2 _)) HNW.out
                  (Nat.succ_pos 0) HN1.out HN2.out ?q7 (w2.heap.size + 1) ?q8 ?q9
                case q1 => rfl
                case q2 => rfl
                case q3 => rfl
                case q4 => rfl
                case q5 => rfl
                case q6 => rfl
                case q7 => exact HLb.out
                case q8 => simp
                intro gg cap w5 hown5 hgrow hat hlt5
                have hS5 := HSM.out w5 ((hgrow.block m (HLa.out _ HL2.out.2) (Ne.symm HUm.out)).trans (Below.heap_alloc w2 _ _ HL2.out.2)) ((hgrow.block (w0.heap.size + 1) (HLa.out _ HK2.out.lt) (Ne.symm HK2.out.ne)).trans (Below.heap_alloc w2 _ _ HK2.out.lt))))
            have HK5 : Hid (RwO w0 w5 (.slice (some ⟨gg, 0, none⟩) (1 + 17 * i + k + 1) cap) (1 + 17 * i + (k + 1))) := Rr HK2.out hkl _ hgrow hown5 (by
              rw [Mk i k hkl, Y3 (SZ := S2) HMM.out HAES.out.symm (by rw [if_pos hneg]; exact HS2.out.symm), HNS.out, HNB.out]) hat
            clear hown5 hgrow hat hlt5 hS5 d0 d1 d2 d3 HSM HL2 HK2 HUm hc HLa HLb
            go_wp2
            exact ⟨⟨k + 1, by simp, by omega, HK5⟩, by simp [intOf]; omega⟩
          · go_upto_region 14 with fail
            have HLa : Hid (∀ b, b < w2.heap.size → b < (w2.alloc (.cells #[.string (NS ++ NB), .string MB, .string SB, .int .i64 AES, .int .i64 S1] 59)).drew.heap.size) := fun b hb => by
              show b < (w2.alloc (.cells #[.string (NS ++ NB), .string MB, .string SB, .int .i64 AES, .int .i64 S1] 59)).heap.size
              simp
              omega
            have HLb : Hid (w0.heap.size ≤ (w2.alloc (.cells #[.string (NS ++ NB), .string MB, .string SB, .int .i64 AES, .int .i64 S1] 59)).drew.heap.size) := Nat.le_of_lt (HLa.out _ (Nat.lt_of_succ_lt HK2.out.lt))
            have HNW : Hid (∀ u ∈ ([.string (NS ++ NB), .string MB, .string SB, .int .i64 AES, .int .i64 S1] : List Value), u.oneCell' = true) := by
              intro u hu
              simp only [List.mem_cons, List.not_mem_nil, or_false] at hu
              rcases hu with rfl | rfl | rfl | rfl | rfl <;> rfl
            go_region_held3 (fun u => u.cell? ⟨w0.heap.size + 1, i, none⟩ = some (.string NS) ∧ u.cell? ⟨m, 0, none⟩ = some (.string NB) ∧ u.cell? ⟨m, 1, none⟩ = some (.string MB) ∧ u.cell? ⟨m, 2, none⟩ = some (.string SB)) (first | exact ⟨hc, d0, d1, d2⟩ | exact hS5 | go_keep)
              ((refine step_append_lies _ ?r1 (.tmp 37) (.tmp 52) 102 ?r2 w0.heap.size 59 i0 _ 5 64 Tryz.underlying102 HI0.out.1 HI0.out.2.1 HI0.out.2.2.1 HI0.out.2.2.2 ?r3 (Nat.succ_pos 4) u1 (1 + 17 * i + k) (fl rwF (1 + 17 * i + k)) ?r4 ((HK2.out.own.alloc _).drew)
                  ⟨w2.heap.size, 0, none⟩ 1 1 [.string (NS ++ NB), .string MB, .string SB, .int .i64 AES, .int .i64 S1] ?r5 ?r6 (World.news_of_block (cs := #[.string (NS ++ NB), .string MB, .string SB, .int .i64 AES, .int .i64 S1]) (t := 59) (fr := (0, 0)) (heap_alloc_new w2 _)) HNW.out
                  (Nat.succ_pos 0) HN1.out HN2.out ?r7 (w2.heap.size + 1) ?r8 ?r9
                case r1 => rfl
                case r2 => rfl
                case r3 => rfl
                case r4 => rfl
                case r5 => rfl
                case r6 => rfl
                case r7 => exact HLb.out
                case r8 => simp
                intro gg cap w5 hown5 hgrow hat hlt5
                have hS5 := HSM.out w5 ((hgrow.block m (HLa.out _ HL2.out.2) (Ne.symm HUm.out)).trans (Below.heap_alloc w2 _ _ HL2.out.2)) ((hgrow.block (w0.heap.size + 1) (HLa.out _ HK2.out.lt) (Ne.symm HK2.out.ne)).trans (Below.heap_alloc w2 _ _ HK2.out.lt))))
            have HK5 : Hid (RwO w0 w5 (.slice (some ⟨gg, 0, none⟩) (1 + 17 * i + k + 1) cap) (1 + 17 * i + (k + 1))) := Rr HK2.out hkl _ hgrow hown5 (by
              rw [Mk i k hkl, Y3 (SZ := S1) HMM.out HAES.out.symm (by rw [if_neg hneg]; exact HS1.out.symm), HNS.out, HNB.out]) hat
            clear hown5 hgrow hat hlt5 hS5 d0 d1 d2 d3 HSM HL2 HK2 HUm hc HLa HLb
            go_wp2
            exact ⟨⟨k + 1, by simp, by omega, HK5⟩, by simp [intOf]; omega⟩
        · have k1 : ¬ (k : Int) < 17 := by omega
          have HK5 : Hid (RwO w0 wr u1 (1 + 17 * (i + 1))) := by
            have q := HK.out
            rw [show 1 + 17 * i + k = 1 + 17 * (i + 1) by omega] at q
            exact q
          clear HK HDx
          go_wp2
          exact ⟨⟨i + 1, by simp, by omega, HK5⟩, by simp [intOf]; omega⟩
    · have g1 : ¬ (i : Int) < 3 := by omega
      have HE : Hid (RwO w0 wr u1 52) := by
        have q := HR.out
        rw [show 1 + 17 * i = 52 by omega] at q
        exact q
      clear HR
      obtain ⟨gg, cap, rfl⟩ := HE.out.form (by decide)
      go_wp2
      go_ret
      exact ⟨gg, cap, rfl, HE.out.own, HE.out.bel⟩
end Go.Proofs.YtehlppaidgkpaaaGreatDoor
