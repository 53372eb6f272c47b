import Derived.Test.YtehlppaidgkpaaaGreatDoorPart03
import Derived.Deep.RegionHeld3
import Derived.Deep.RegionWith
import Derived.OwnWalk
import Derived.Laws.EntriesVeiled
import Derived.BigQuiet
import Derived.Deep.OwnRows
import Derived.Deep.CutRange
import Derived.BigRegion
import Derived.Deep.QuietTactic
namespace Go.Proofs.YtehlppaidgkpaaaGreatDoor
open Go.RowKit
set_option linter.unusedVariables false
def mdF (k:Nat):List Value:=if k<17 then Xc.getD k [] else List.replicate 6 .nilFunc
theorem E6 (k:Nat):(mdF k).length=6:=by
 unfold mdF
 by_cases h:k<17
 ·rw[if_pos h]
  obtain ⟨a,b,c,f,g,e,_⟩:=Gf k h
  rw[e];rfl
 ·rw[if_neg h];rfl
theorem Zan:Xc.flatten=fl mdF 17:=by kernel_rfl
theorem Rc (k j:Nat) (hk:k<17) (hj:j<6):Xc.flatten.toArray[k*6+j]?=(Xc.getD k [])[j]?:=by
 rw[List.getElem?_toArray,Zan,Uf mdF 6 E6 17 k j hk hj,mdF,if_pos hk]
theorem U4:Tryz.prog.built 94 [(3,.int .i64 1),(5,.func (.func 109) #[] #[])]=some #[.string ⟨#[]⟩,.int .i64 0,.int .i64 0,.int .i64 1,.nilFunc,.func (.func 109) #[] #[]]:=by kernel_rfl
theorem I0 (s:ByteArray) (a:Int) (c0 c1 c2 c3 c4 c5:Value):Tryz.prog.built 96 [(0,.string s),(1,.int .i64 a),(2,.agg #[c0,c1,c2,c3,c4,c5])]=some #[.string s,.int .i64 a,c0,c1,c2,c3,c4,c5]:=by kernel_rfl
theorem T9:(Tryz.prog.info? 96).map (fun i=>(i.zero,i.size,i.bytes))=some (some (.agg #[.string ⟨#[]⟩,.int .i64 0,.string ⟨#[]⟩,.int .i64 0,.int .i64 0,.int .i64 0,.nilFunc,.nilFunc]),8,80):=by kernel_rfl
theorem Za6 (c0 c1 c2 c3 c4 c5 c6 c7:Value):Instr.fill (fun i=>some (i*8,8)) ((Array.range (1*8)).map ((Value.agg #[.string ⟨#[]⟩,.int .i64 0,.string ⟨#[]⟩,.int .i64 0,.int .i64 0,.int .i64 0,.nilFunc,.nilFunc]).cells[·%(Value.agg #[.string ⟨#[]⟩,.int .i64 0,.string ⟨#[]⟩,.int .i64 0,.int .i64 0,.int .i64 0,.nilFunc,.nilFunc]).cells.size]!)) [(0,.agg #[c0,c1,c2,c3,c4,c5,c6,c7])]=some #[c0,c1,c2,c3,c4,c5,c6,c7]:=by kernel_rfl
theorem Eg (w:World) (c0 c1 c2 c3 c4 c5 c6 c7:Value):(Instr.buildSlice 154 1 #[(0,.agg #[c0,c1,c2,c3,c4,c5,c6,c7])]).run Tryz.prog w=.ok (.slice (some ⟨w.heap.size,0,none⟩) 1 1) (w.alloc (.cells #[c0,c1,c2,c3,c4,c5,c6,c7] 96)):=by
 obtain ⟨i,hi,hz0,hz1,hz2⟩:=info_parts T9
 refine run_buildSlice w 154 96 1 _ _ i _ Tryz.underlying154 hi hz0 (by rw[hz1];decide) (by rw[hz1];decide) ?_
 rw[hz1]
 exact Za6 _ _ _ _ _ _ _ _
structure SxO (w0 wr:World) (v:Value) (n:Nat):Prop where
 own:wr.ownsRow w0.heap.size 96 8 v n (fl sxF n)
 bel:Below w0.heap.size w0 wr
 ints:wr.heap[w0.heap.size+1]?=some (.cells #[.int .i64 16,.int .i64 24,.int .i64 32] 3 (0,0))
 ne:v.ownBlock≠some (w0.heap.size+1)
structure SxI (w0 wr:World) (v:Value) (n M:Nat):Prop where
 o:SxO w0 wr v n
 mods:wr.heap[M]?=some (.cells Xc.flatten.toArray 94 (0,0))
 ne:v.ownBlock≠some M
 hM:w0.heap.size+1<M
theorem SxO.form {w0 wr:World} {v:Value} {n:Nat} (h:SxO w0 wr v n) (hn:0<n):∃ g cap,v=.slice (some ⟨g,0,none⟩) n cap∧w0.heap.size≤g∧g<wr.heap.size∧g≠w0.heap.size+1:=by
 rcases h.own.2 with ⟨_,h0⟩ | ⟨g,cap,cur,hv,hb,hgg,_⟩
 ·omega
 ·refine ⟨g,cap,hv,hb,(Zy h.own (by rw[hv];rfl)).2,fun e=>h.ne (by rw[hv,←e];rfl)⟩
theorem SxO.below {w0 wr wx:World} {v:Value} {n:Nat} (h:SxO w0 wr v n) (b:Below wr.heap.size wr wx):SxO w0 wx v n:=by
 have hlt:w0.heap.size+1<wr.heap.size:=by
  rcases Nat.lt_or_ge (w0.heap.size+1) wr.heap.size with q | q
  ·exact q
  ·have:=h.ints;rw[Array.getElem?_eq_none q] at this;cases this
 exact ⟨ownsRow_below h.own b,h.bel.trans (b.mono h.bel.size),by rw[b.block _ hlt];exact h.ints,h.ne⟩
theorem SxI.below {w0 wr wx:World} {v:Value} {n M:Nat} (h:SxI w0 wr v n M) (b:Below wr.heap.size wr wx):SxI w0 wx v n M:=by
 have hlt:M<wr.heap.size:=by
  rcases Nat.lt_or_ge M wr.heap.size with q | q
  ·exact q
  ·have:=h.mods;rw[Array.getElem?_eq_none q] at this;cases this
 exact ⟨h.o.below b,by rw[b.block _ hlt];exact h.mods,h.ne,h.hM⟩
theorem St (w0:World):SxO w0 ((w0.alloc (.cells #[.string ⟨#[110,117,108,108]⟩,.int .i64 0,.string ⟨#[]⟩,.int .i64 0,.int .i64 0,.int .i64 1,.nilFunc,.func (.func 109) #[] #[]] 96)).alloc (.cells #[.int .i64 16,.int .i64 24,.int .i64 32] 3)) (.slice (some ⟨w0.heap.size,0,none⟩) 1 1) (1+17*0):=by
 refine ⟨ownsRow_below (Wp w0 w0.heap.size 96 8 1 (fl sxF 1) (Nat.le_refl _) (by decide) rfl) ((Below.refl _ _).alloc (Nat.le_refl _) _),((Below.refl _ _).alloc (Nat.le_refl _) _).alloc (by simp) _,?_,?_⟩
 ·have q:=heap_alloc_new (w0.alloc (.cells #[.string ⟨#[110,117,108,108]⟩,.int .i64 0,.string ⟨#[]⟩,.int .i64 0,.int .i64 0,.int .i64 1,.nilFunc,.func (.func 109) #[] #[]] 96)) (.cells #[.int .i64 16,.int .i64 24,.int .i64 32] 3)
  simpa using q
 ·simp [Value.ownBlock]
theorem T8 {w0 wr:World} (h:wr.heap[w0.heap.size+1]?=some (.cells #[.int .i64 16,.int .i64 24,.int .i64 32] 3 (0,0))) {i:Nat} (hi:i<3):wr.cell? ⟨w0.heap.size+1,i,none⟩=some (.int .i64 ((16+8*i:Nat):Int)):=by
 rcases (show i=0∨i=1∨i=2 by omega) with rfl | rfl | rfl<;>simp [World.cell?,h]
theorem Ss {w0 wr w1:World} {v:Value} {n:Nat} (h:SxO w0 wr v n) (hw:w1=wr.alloc (.cells Xc.flatten.toArray 94)):SxI w0 w1 v n wr.heap.size:=by
 subst hw
 have hlt:w0.heap.size+1<wr.heap.size:=by
  rcases Nat.lt_or_ge (w0.heap.size+1) wr.heap.size with q | q
  ·exact q
  ·have:=h.ints;rw[Array.getElem?_eq_none q] at this;cases this
 refine ⟨h.below ((Below.refl _ _).alloc (Nat.le_refl _) _),heap_alloc_new wr _,fun e=>?_,hlt⟩
 have:=(Zy h.own e).2
 omega
theorem SxI.lt {w0 wr:World} {v:Value} {n M:Nat} (h:SxI w0 wr v n M):M<wr.heap.size:=by
 rcases Nat.lt_or_ge M wr.heap.size with q | q
 ·exact q
 ·have:=h.mods;rw[Array.getElem?_eq_none q] at this;cases this
theorem Kl {w0 wr:World} {v:Value} {n M k:Nat} (h:SxI w0 wr v n M) (j:Nat) (hk:k<17) (hj:j<6):wr.cell? ⟨M,k*6+j,none⟩=(Xc.getD k [])[j]?:=by
 rw[←Rc k j hk hj]
 simp [World.cell?,h.mods]
theorem Zb3 (x:Nat) (h:x≤1000):IntKind.i64.wrap (8*(x:Int))=8*(x:Int):=by rw[IntKind.wrap_i64];omega
theorem P8 {w0 w4 w5:World} {v:Value} {i k M gg cap:Nat} {L:List Value} (h:SxI w0 w4 v (1+17*i+k) M) (hk:k<17) (o:Obj) (hg:(w4.alloc o).grownBy w5 v.ownBlock) (hown:w5.ownsRow w0.heap.size 96 8 (.slice (some ⟨gg,0,none⟩) (1+17*i+k+1) cap) (1+17*i+k+1) (fl sxF (1+17*i+k)++L)) (hL:sxF (1+17*i+k)=L) (hat:v.ownBlock=some gg∨gg=w4.heap.size+1):SxI w0 w5 (.slice (some ⟨gg,0,none⟩) (1+17*i+k+1) cap) (1+17*i+(k+1)) M:=by
 have hM:=h.lt
 have hI:w0.heap.size+1<w4.heap.size:=by have:=h.hM;omega
 have far:∀ b,b<w4.heap.size→v.ownBlock≠some b→w5.heap[b]?=w4.heap[b]?:=fun b hb hn=>by
  rw[hg.block b (by simp;omega) (Ne.symm hn)]
  exact Below.heap_alloc _ _ _ hb
 have own2:∀ b,b<w4.heap.size→v.ownBlock≠some b→(Value.slice (some ⟨gg,0,none⟩) (1+17*i+k+1) cap).ownBlock≠some b:=fun b hb hn e=>by
  have e':gg=b:=by simpa [Value.ownBlock] using e
  rcases hat with q | q
  ·exact hn (by rw[q,e'])
  ·omega
 refine ⟨⟨?_,?_,?_,own2 _ hI h.o.ne⟩,?_,own2 _ hM h.ne,h.hM⟩
 ·have e:fl sxF (1+17*i+(k+1))=fl sxF (1+17*i+k)++L:=by rw[←hL];rfl
  rw[e]
  exact hown
 ·exact h.o.bel.trans (((Below.refl _ _).alloc h.o.bel.size o).grown hg (by have:=h.o.bel.size;simp;omega) fun b e=>(Zy h.o.own e).1)
 ·rw[far _ hI h.o.ne];exact h.o.ints
 ·rw[far _ hM h.ne];exact h.mods
theorem T7 (i:Nat) (hi:i<3:=by omega):(itB i).size≤100:=by
 rcases (show i=0∨i=1∨i=2 by omega) with rfl | rfl | rfl<;>simp [itB,Lib.itoa,Lib.decDigits,ByteArray.size]
theorem Cp (k:Nat) (hk:k<17):(nmB k).size≤100:=by
 have:∀ k<17,(nmB k).size≤100:=by decide
 exact this k hk
set_option maxHeartbeats 3200000 in
set_option maxRecDepth 100000 in
theorem Lq (w0 : World) (hT : Pow w0) : Calls Tryz.prog 65 #[] w0 fun e w' => Hid (∃ g cap, e = .returned (.slice (some ⟨g, 0, none⟩) 52 cap) ∧ w'.ownsRow w0.heap.size 96 8 (.slice (some ⟨g, 0, none⟩) 52 cap) 52 (fl sxF 52) ∧ Below w0.heap.size w0 w') := by
  have HT : Hid (Pow w0) := hT
  clear hT
  have b0 : ∀ w, (Instr.build 94 #[(3, .int .i64 1), (5, .func (.func 109) #[] #[])]).run Tryz.prog w = .ok (.agg #[.string ⟨#[]⟩, .int .i64 0, .int .i64 0, .int .i64 1, .nilFunc, .func (.func 109) #[] #[]]) w := fun w => run_build w _ _ _ U4
  have b1 : ∀ (s : ByteArray) (a : Int) (c0 c1 c2 c3 c4 c5 : Value) w, (Instr.build 96 #[(0, .string s), (1, .int .i64 a), (2, .agg #[c0, c1, c2, c3, c4, c5])]).run Tryz.prog w = .ok (.agg #[.string s, .int .i64 a, c0, c1, c2, c3, c4, c5]) w := fun s a c0 c1 c2 c3 c4 c5 w => run_build w _ _ _ (I0 s a c0 c1 c2 c3 c4 c5)
  have b2 := Eg
  go_enter Tryz.func65, Tryz.ntmps65
  obtain ⟨i0, hi0, hz0, hz1, hz2⟩ := info_parts T9
  have HI0 : Hid (Tryz.prog.info? 96 = some i0 ∧ i0.zero = some (.agg #[.string ⟨#[]⟩, .int .i64 0, .string ⟨#[]⟩, .int .i64 0, .int .i64 0, .int .i64 0, .nilFunc, .nilFunc]) ∧ i0.size = 8 ∧ i0.bytes = 80) := ⟨hi0, hz0, hz1, hz2⟩
  clear hi0 hz0 hz1 hz2
  go_wp2
  go_loopw [1, 11] (fun va vi wr => ∃ i : Nat, vi = .int .i64 (i : Nat) ∧ i ≤ 3 ∧ Hid (SxO w0 wr va (1 + 17 * i))) (fun _ vi _ => 3 - (intOf vi).toNat)
  case atStart => exact ⟨0, rfl, by omega, St w0⟩
  case round =>
    obtain ⟨i, rfl, hi, HR⟩ := hrel
    by_cases hlt : i < 3
    · obtain ⟨WD, HWD⟩ : ∃ W : Int, Hid (W = ((16 + 8 * i : Nat) : Int)) := ⟨_, rfl⟩
      have hc : wr.cell? ⟨w0.heap.size + 1, i, none⟩ = some (.int .i64 WD) := by rw [HWD.out]; exact T8 HR.out.ints hlt
      have g0 : (0 : Int) ≤ (i : Int) := by omega
      have g1 : (i : Int) < 3 := by omega
      go_upto_region 6 with (go_at_call 110; refine (Tq _).mono ?_; intro e1 w1 hh; obtain ⟨rfl, hw1⟩ := hh.out; have HM : Hid (SxI w0 w1 u1 (1 + 17 * i) wr.heap.size) := Ss HR.out hw1; clear hw1 hh)
      obtain ⟨M, hMe⟩ : ∃ M, M = wr.heap.size := ⟨_, rfl⟩
      rw [← hMe] at HM ⊢
      clear hMe HR hc
      generalize u1 = v0 at HM ⊢
      go_loopw [1, 17] (fun va vk wx => ∃ k : Nat, vk = .int .i64 (k : Nat) ∧ k ≤ 17 ∧ Hid (SxI w0 wx va (1 + 17 * i + k) M)) (fun _ vk _ => 17 - (intOf vk).toNat)
      case atStart => exact ⟨0, rfl, by omega, HM⟩
      case round =>
        obtain ⟨k, rfl, hk, HK⟩ := hrel
        clear HM
        by_cases hkl : k < 17
        · obtain ⟨a, b, c, f, g, hm, hf⟩ := Gf k hkl
          have HM6 : Hid (Xc.getD k [] = [.string (nmB k), .int .i64 a, .int .i64 b, .int .i64 c, f, .func (.func g) #[] #[]]) := hm
          have k0 : (0 : Int) ≤ (k : Int) := by omega
          have k1 : (k : Int) < 17 := by omega
          obtain ⟨NB, HNB⟩ : ∃ x, Hid (nmB k = x) := ⟨_, rfl⟩
          rw [HNB.out] at hm
          have c0 := Kl HK.out 0 hkl (by decide)
          have c1 := Kl HK.out 1 hkl (by decide)
          have c2 := Kl HK.out 2 hkl (by decide)
          have c3 := Kl HK.out 3 hkl (by decide)
          have c4 := Kl HK.out 4 hkl (by decide)
          have c5 := Kl HK.out 5 hkl (by decide)
          rw [hm] at c0 c1 c2 c3 c4 c5
          simp only [List.getElem?_cons_zero, List.getElem?_cons_succ, Nat.add_zero] at c0 c1 c2 c3 c4 c5
          clear hm
          have hkM : Hid (M < wr.heap.size) := HK.out.lt
          have hf1 : f.oneCell' = true := by rcases hf with rfl | ⟨m, rfl⟩ <;> rfl
          have HF1 : Hid (f.oneCell' = true) := hf1
          have hsF : ∀ u ad md, (store ad f md).run Tryz.prog u = stored Tryz.prog u ad f md := fun u ad md => run_store Tryz.prog u ad f md hf1
          clear hf hf1
          go_upto_region 8 with fail
          obtain ⟨w2, hw2⟩ : ∃ w2, w2 = wr.alloc (.cells #[.string NB, .int .i64 a, .int .i64 b, .int .i64 c, f, .func (.func g) #[] #[]] 94) := ⟨_, rfl⟩
          have HK2 : Hid (SxI w0 w2 u1 (1 + 17 * i + k) M) := by rw [hw2]; exact HK.out.below ((Below.refl _ _).alloc (Nat.le_refl _) _)
          have hb2 := heap_alloc_new wr (.cells #[.string NB, .int .i64 a, .int .i64 b, .int .i64 c, f, .func (.func g) #[] #[]] 94)
          rw [← hw2] at hb2 ⊢
          have HL2 : Hid (w2.heap[wr.heap.size]? = some (.cells #[.string NB, .int .i64 a, .int .i64 b, .int .i64 c, f, .func (.func g) #[] #[]] 94 (0, 0)) ∧ wr.heap.size < w2.heap.size) := ⟨hb2, by rw [hw2]; simp⟩
          clear hw2 hb2 c0 c1 c2 c3 c4 c5 hsF
          have HUm : Hid (u1.ownBlock ≠ some wr.heap.size) := fun e => Nat.lt_irrefl _ (Zy HK.out.o.own e).2
          generalize wr.heap.size = m at HL2 HUm ⊢
          clear HK hkM
          have HSM : Hid (∀ u : World, u.heap[m]? = w2.heap[m]? → u.cell? ⟨m, 0, none⟩ = some (.string NB) ∧ u.cell? ⟨m, 1, none⟩ = some (.int .i64 a) ∧ u.cell? ⟨m, 2, none⟩ = some (.int .i64 b) ∧ u.cell? ⟨m, 3, none⟩ = some (.int .i64 c) ∧ u.cell? ⟨m, 4, none⟩ = some f ∧ u.cell? ⟨m, 5, none⟩ = some (.func (.func g) #[] #[])) := fun u hu => by
            have q := hu
            rw [HL2.out.1] at q
            simp [World.cell?, q]
          obtain ⟨d0, d1, d2, d3, d4, d5⟩ := HSM.out w2 rfl
          obtain ⟨W8, HW8⟩ : ∃ W : Int, Hid (W = ((8 * (16 + 8 * i) : Nat) : Int)) := ⟨_, rfl⟩
          have hw8 : IntKind.i64.wrap (8 * WD) = W8 := by rw [HWD.out, HW8.out, Zb3 _ (by omega)]; omega
          obtain ⟨IB, HIB⟩ : ∃ x, Hid (itB i = x) := ⟨_, rfl⟩
          have H9 : Hid (∀ u : World, Below w2.heap.size w2 u → Calls Tryz.prog 111 #[.int .i64 W8] u fun e w' => Hid (e = .returned (.string IB) ∧ Below u.heap.size u w')) := fun u hu => by
            have q := If (8 * (16 + 8 * i)) (by omega) u (HT.out.below (HK2.out.o.bel.trans (hu.mono HK2.out.o.bel.size)))
            rw [← HW8.out] at q
            rw [← HIB.out]
            rw [show itB i = ⟨(Lib.itoa W8).toArray⟩ by rw [HW8.out]; rfl]
            exact q
          have zI : IB.size ≤ 100 := by rw [← HIB.out]; exact T7 i
          have zN : NB.size ≤ 100 := by rw [← HNB.out]; exact Cp k hkl
          have z1 : ¬ (9223372036854775807 < 3 + IB.size) := by omega
          have z2 : ¬ (9223372036854775807 < 3 + IB.size + 1) := by omega
          have z3 : ¬ (9223372036854775807 < 3 + IB.size + 1 + NB.size) := by omega
          have HN1 : Hid (1 + 17 * i + k + 1 ≤ maxLen) := by show 1 + 17 * i + k + 1 ≤ maxLen; unfold maxLen; omega
          have HN2 : Hid ((1 + 17 * i + k + 1) * 80 ≤ 140737488355328) := by show (1 + 17 * i + k + 1) * 80 ≤ 140737488355328; omega
          have HNW : Hid (∀ u ∈ ([.string (({ data := #[97, 101, 115] } : ByteArray) ++ IB ++ { data := #[45] } ++ NB), .int .i64 WD, .string NB, .int .i64 a, .int .i64 b, .int .i64 c, f, .func (.func g) #[] #[]] : List Value), u.oneCell' = true) := by
            intro u hu
            simp only [List.mem_cons, List.not_mem_nil, or_false] at hu
            rcases hu with rfl | rfl | rfl | rfl | rfl | rfl | rfl | rfl <;> first | rfl | exact HF1.out
          go_region_held3 (fun u => u.cell? ⟨m, 0, none⟩ = some (.string NB) ∧ u.cell? ⟨m, 1, none⟩ = some (.int .i64 a) ∧ u.cell? ⟨m, 2, none⟩ = some (.int .i64 b) ∧ u.cell? ⟨m, 3, none⟩ = some (.int .i64 c) ∧ u.cell? ⟨m, 4, none⟩ = some f ∧ u.cell? ⟨m, 5, none⟩ = some (.func (.func g) #[] #[])) (first | exact ⟨d0, d1, d2, d3, d4, d5⟩ | exact hS4 | exact hS5 | go_keep)
            (first
              | (go_at_call 111; refine (H9.out w2.drew (Below.refl _ _).drew).mono ?_; intro e4 w4 hh; obtain ⟨rfl, r4x⟩ := hh.out; have r4 : Below w2.heap.size w2 w4 := ⟨r4x.os, r4x.tape, r4x.output, r4x.size, r4x.block⟩; have hS4 := HSM.out w4 (r4.block m HL2.out.2); have HE4 : Hid (w4.heap[m]? = w2.heap[m]?) := r4.block m HL2.out.2; have HK4 : Hid (SxI w0 w4 u1 (1 + 17 * i + k) M) := HK2.out.below r4; have HG4 : Hid (m < w4.heap.size) := Nat.lt_of_lt_of_le HL2.out.2 r4.size)
              | (refine step_append_lies _ ?q1 (.tmp 21) (.tmp 33) 154 ?q2 w0.heap.size 96 i0 _ 8 80 Tryz.underlying154 HI0.out.1 HI0.out.2.1 HI0.out.2.2.1 HI0.out.2.2.2 ?q3 (Nat.succ_pos 7) u1 (1 + 17 * i + k) (fl sxF (1 + 17 * i + k)) ?q4 (HK4.out.o.own.alloc _)
                  ⟨w4.heap.size, 0, none⟩ 1 1 [.string (({ data := #[97, 101, 115] } : ByteArray) ++ IB ++ { data := #[45] } ++ NB), .int .i64 WD, .string NB, .int .i64 a, .int .i64 b, .int .i64 c, f, .func (.func g) #[] #[]] ?q5 ?q6 (World.news_of_block (cs := #[.string (({ data := #[97, 101, 115] } : ByteArray) ++ IB ++ { data := #[45] } ++ NB), .int .i64 WD, .string NB, .int .i64 a, .int .i64 b, .int .i64 c, f, .func (.func g) #[] #[]]) (t := 96) (fr := (0, 0)) (heap_alloc_new w4 _)) HNW.out
                  (Nat.succ_pos 0) HN1.out HN2.out ?q7 (w4.heap.size + 1) ?q8 ?q9
                 case q1 => rfl
                 case q2 => rfl
                 case q3 => rfl
                 case q4 => rfl
                 case q5 => rfl
                 case q6 => rfl
                 case q7 => (have := HK4.out.o.bel.size; simp; omega)
                 case q8 => simp
                 intro gg cap w5 hown5 hgrow hat hlt5
                 have hS5 := HSM.out w5 ((hgrow.block m (Nat.lt_of_lt_of_le HG4.out (by simp)) (Ne.symm HUm.out)).trans ((Below.heap_alloc _ _ _ HG4.out).trans HE4.out))))
          have HK5 : Hid (SxI w0 w5 (.slice (some ⟨gg, 0, none⟩) (1 + 17 * i + k + 1) cap) (1 + 17 * i + (k + 1)) M) := P8 HK4.out hkl _ hgrow hown5 (by
            rw [Su i k hkl, HM6.out, ← HWD.out, sxN, HIB.out, HNB.out]) hat
          clear hown5 hgrow hat hlt5 HK4 HG4 hh hS4 hS5 HE4 HUm r4 r4x d0 d1 d2 d3 d4 d5 HSM HL2 HK2 H9
          go_wp2
          go_roundw
          case rel => exact ⟨k + 1, by go_num, by omega, HK5⟩
          case measure => simp [intOf]; omega
        · have k1 : ¬ (k : Int) < 17 := by omega
          have HK5 : Hid (SxO w0 wr u1 (1 + 17 * (i + 1))) := by
            have q := HK.out.o
            rw [show 1 + 17 * i + k = 1 + 17 * (i + 1) by omega] at q
            exact q
          clear HK
          go_wp2
          go_roundw
          case rel => exact ⟨i + 1, by go_num, by omega, HK5⟩
          case measure => simp [intOf]; omega
    · have g1 : ¬ (i : Int) < 3 := by omega
      have HE : Hid (SxO w0 wr u1 52) := by
        have q := HR.out
        rw [show 1 + 17 * i = 52 by omega] at q
        exact q
      clear HR
      obtain ⟨gg, cap, rfl, _, _, _⟩ := HE.out.form (by decide)
      go_wp2
      go_ret
      exact ⟨gg, cap, rfl, HE.out.own, HE.out.bel⟩
def spN (j:Nat):ByteArray:=match sxF j with
 | .string s::_=>s
 | _=>⟨#[]⟩
theorem O1 (j : Nat) : ∃ (a x y z : Int) (s : ByteArray) (f g : Value), sxF j = [.string (spN j), .int .i64 a, .string s, .int .i64 x, .int .i64 y, .int .i64 z, f, g] ∧ f.oneCell' = true ∧ g.oneCell' = true := by
  cases j with
  | zero => exact ⟨_, _, _, _, _, _, _, rfl, rfl, rfl⟩
  | succ j =>
    obtain ⟨a, b, c, f, g, h, hf⟩ := Gf (j % 17) (Nat.mod_lt _ (by decide))
    refine ⟨((16 + 8 * (j / 17) : Nat) : Int), a, b, c, nmB (j % 17), f, .func (.func g) #[] #[], ?_, by rcases hf with rfl | ⟨m, rfl⟩ <;> rfl, rfl⟩
    rw [spN, sxF, h]
theorem Ee {w0 w1 wr:World} {g cap i j:Nat} (h:w1.ownsRow w0.heap.size 96 8 (.slice (some ⟨g,0,none⟩) 52 cap) 52 (fl sxF 52)) (b:Below w1.heap.size w1 wr) (hi:i<52) (hj:j<8):wr.cell? ⟨g,i*8+j,none⟩=(sxF i)[j]?:=by
 have hlt:=(Zy h (g:=g) rfl).2
 rw[b.cell (p:=⟨g,i*8+j,none⟩) hlt]
 have e:=Uf sxF 8 Mq 52 i j hi hj
 have hx:j<(sxF i).length:=by rw[Mq];exact hj
 rw[List.getElem?_eq_getElem hx] at e ⊢
 have q:=World.ownsRow.cells h (g:=g) rfl (i*8+j) _ e
 rw[Addr.add_lit,Nat.zero_add] at q
 exact q
end Go.Proofs.YtehlppaidgkpaaaGreatDoor
namespace Go.Proofs.YtehlppaidgkpaaaGreatDoor.Fd
open Go.RowKit
set_option linter.unusedVariables false
set_option linter.unusedSimpArgs false
def byV (v:BitVec 128) (i:Nat):Nat:=v.toNat/256^i%256
theorem Q3 (v:BitVec 128) (i:Nat):byV v i<256:=Nat.mod_lt _ (by decide)
def BL (v:BitVec 128):List Value:=[.int .u8 (byV v 0:Nat),.int .u8 (byV v 1:Nat),.int .u8 (byV v 2:Nat),.int .u8 (byV v 3:Nat),.int .u8 (byV v 4:Nat),.int .u8 (byV v 5:Nat),.int .u8 (byV v 6:Nat),.int .u8 (byV v 7:Nat),.int .u8 (byV v 8:Nat),.int .u8 (byV v 9:Nat),.int .u8 (byV v 10:Nat),.int .u8 (byV v 11:Nat),.int .u8 (byV v 12:Nat),.int .u8 (byV v 13:Nat),.int .u8 (byV v 14:Nat),.int .u8 (byV v 15:Nat)]
def BV (v:BitVec 128):Value:=.agg #[.int .u8 (byV v 0:Nat),.int .u8 (byV v 1:Nat),.int .u8 (byV v 2:Nat),.int .u8 (byV v 3:Nat),.int .u8 (byV v 4:Nat),.int .u8 (byV v 5:Nat),.int .u8 (byV v 6:Nat),.int .u8 (byV v 7:Nat),.int .u8 (byV v 8:Nat),.int .u8 (byV v 9:Nat),.int .u8 (byV v 10:Nat),.int .u8 (byV v 11:Nat),.int .u8 (byV v 12:Nat),.int .u8 (byV v 13:Nat),.int .u8 (byV v 14:Nat),.int .u8 (byV v 15:Nat)]
theorem Jz (v:BitVec 128) (j:Nat) (hj:j<16):(BL v)[j]?=some (.int .u8 (byV v j:Nat)):=by
 have h16:j=0∨j=1∨j=2∨j=3∨j=4∨j=5∨j=6∨j=7∨j=8∨j=9∨j=10∨j=11∨j=12∨j=13∨j=14∨j=15:=by omega
 rcases h16 with rfl | rfl | rfl | rfl | rfl | rfl | rfl | rfl | rfl | rfl | rfl | rfl | rfl | rfl | rfl | rfl<;>rfl
theorem Do (x k:Nat):x%256^(k+1)=x%256^k+(x/256^k%256)*256^k:=by
 rw[Nat.pow_succ,Nat.mod_mul,Nat.mul_comm]
theorem Zbq (v:BitVec 128) (k:Nat):byV v (8+k)=hiV v/256^k%256:=by
 unfold byV hiV
 rw[Nat.pow_add,show (256:Nat)^8=18446744073709551616 from by decide,Nat.div_div_eq_div_mul]
theorem C7 (x k:Nat):(((x:Nat):Int)/2^(8*k))%256=((x/256^k%256:Nat):Int):=by
 rw[Du,Nat.pow_mul,show (2:Nat)^8=256 from by decide]
 omega
theorem Zbp (v:BitVec 128) (k:Nat) (hk:k<8):byV v k=loV v/256^k%256:=by
 unfold byV loV
 have e:(18446744073709551616:Nat)=256^k*(256*256^(7-k)):=by
  have:(18446744073709551616:Nat)=256^8:=by decide
  rw[this,show (8:Nat)=k+(1+(7-k)) by omega,Nat.pow_add,Nat.pow_add]
 rw[e,Nat.mod_mul_right_div_self,Nat.mod_mul_right_mod]
theorem Gj (a b:BitVec 128) (j:Nat):byV (a ^^^ b) j=Nat.xor (byV a j) (byV b j):=by
 unfold byV
 have h:∀ x:Nat,x/256^j=x >>> (8*j):=fun x=>by rw[Nat.shiftRight_eq_div_pow,Nat.pow_mul]
 rw[BitVec.toNat_xor,h,h,h,Nat.shiftRight_xor_distrib]
 exact Nat.xor_mod_two_pow (n:=8)
theorem Q5 (a b:Nat) (ha:a<256) (hb:b<256):bits .xor .u8 (a:Int) b=(Nat.xor a b:Nat):=by
 have ha':a%2^IntKind.u8.bits=a:=Nat.mod_eq_of_lt (by simpa [IntKind.bits] using ha)
 have hb':b%2^IntKind.u8.bits=b:=Nat.mod_eq_of_lt (by simpa [IntKind.bits] using hb)
 simp only[bits,BitVec.ofInt_natCast,BitVec.toNat_xor,BitVec.toNat_ofNat,ha',hb']
 have:a ^^^ b<256:=Nat.xor_lt_two_pow (n:=8) ha hb
 have hw:∀ n:Int,0≤n→n<256→IntKind.u8.wrap n=n:=fun n h0 h1=>by simp [IntKind.wrap,IntKind.bits,IntKind.signed];omega
 exact hw _ (Int.natCast_nonneg _) (by omega)
theorem Q0:(Tryz.prog.info? 27).map (·.size)=some 16:=by kernel_rfl
theorem Y2 (w:World) (g i j:Nat) (v:Value) (h:i≠j):(w.setCell ⟨g,i,none⟩ v).cell? ⟨g,j,none⟩=w.cell? ⟨g,j,none⟩:=
 World.cell?_setCell_other w ⟨g,i,none⟩ ⟨g,j,none⟩ v (fun e=>h (by cases e;rfl))
theorem Xm (v:BitVec 128):(BL v).length=16:=rfl
theorem D5 (v:BitVec 128):(BL v).toArray.all (·.oneCell')=true:=by kernel_rfl
theorem Ft {w:World} {B:Nat} {v:BitVec 128} (h:∀ j,j<16→w.cell? ⟨B,j,none⟩=some (.int .u8 (byV v j:Nat))):w.rangeAt B 0 (BL v):=fun j x hx=>by
 have hj:j<16:=(List.getElem?_eq_some_iff.1 hx).1
 rw[Jz v j hj] at hx
 rw[Nat.zero_add,h j hj]
 exact hx
set_option maxHeartbeats 1600000 in
set_option maxRecDepth 100000 in
theorem Wb (v:BitVec 128) (w:World):Calls Tryz.prog 38 #[.int .u64 (hiV v:Nat),.int .u64 (loV v:Nat)] w fun e w'=>e=.returned (BV v)∧Below w.heap.size w w':=by
 have h1:=Zaz v
 have h2:=Zau v
 obtain ⟨hi,HH⟩:∃ x,Hid (x=hiV v):=⟨_,rfl⟩
 obtain ⟨lo,HL⟩:∃ x,Hid (x=loV v):=⟨_,rfl⟩
 rw[←HH.out] at h1 ⊢
 rw[←HL.out] at h2 ⊢
 have HT:Hid (Below w.heap.size w ((w.alloc (.cells #[.int .u8 0,.int .u8 0,.int .u8 0,.int .u8 0,.int .u8 0,.int .u8 0,.int .u8 0,.int .u8 0,.int .u8 0,.int .u8 0,.int .u8 0,.int .u8 0,.int .u8 0,.int .u8 0,.int .u8 0,.int .u8 0] 27)).alloc (.cells #[.int .u8 0,.int .u8 0,.int .u8 0,.int .u8 0,.int .u8 0,.int .u8 0,.int .u8 0,.int .u8 0,.int .u8 0,.int .u8 0,.int .u8 0,.int .u8 0,.int .u8 0,.int .u8 0,.int .u8 0,.int .u8 0] 27))∧((w.alloc (.cells #[.int .u8 0,.int .u8 0,.int .u8 0,.int .u8 0,.int .u8 0,.int .u8 0,.int .u8 0,.int .u8 0,.int .u8 0,.int .u8 0,.int .u8 0,.int .u8 0,.int .u8 0,.int .u8 0,.int .u8 0,.int .u8 0] 27)).alloc (.cells #[.int .u8 0,.int .u8 0,.int .u8 0,.int .u8 0,.int .u8 0,.int .u8 0,.int .u8 0,.int .u8 0,.int .u8 0,.int .u8 0,.int .u8 0,.int .u8 0,.int .u8 0,.int .u8 0,.int .u8 0,.int .u8 0] 27)).there (w.heap.size+1) 0 16∧((w.alloc (.cells #[.int .u8 0,.int .u8 0,.int .u8 0,.int .u8 0,.int .u8 0,.int .u8 0,.int .u8 0,.int .u8 0,.int .u8 0,.int .u8 0,.int .u8 0,.int .u8 0,.int .u8 0,.int .u8 0,.int .u8 0,.int .u8 0] 27)).alloc (.cells #[.int .u8 0,.int .u8 0,.int .u8 0,.int .u8 0,.int .u8 0,.int .u8 0,.int .u8 0,.int .u8 0,.int .u8 0,.int .u8 0,.int .u8 0,.int .u8 0,.int .u8 0,.int .u8 0,.int .u8 0,.int .u8 0] 27)).there w.heap.size 0 16∧((w.alloc (.cells #[.int .u8 0,.int .u8 0,.int .u8 0,.int .u8 0,.int .u8 0,.int .u8 0,.int .u8 0,.int .u8 0,.int .u8 0,.int .u8 0,.int .u8 0,.int .u8 0,.int .u8 0,.int .u8 0,.int .u8 0,.int .u8 0] 27)).alloc (.cells #[.int .u8 0,.int .u8 0,.int .u8 0,.int .u8 0,.int .u8 0,.int .u8 0,.int .u8 0,.int .u8 0,.int .u8 0,.int .u8 0,.int .u8 0,.int .u8 0,.int .u8 0,.int .u8 0,.int .u8 0,.int .u8 0] 27)).heap.size=w.heap.size+2):=
  ⟨Zbw w _ _,by have h:=Zk (w.alloc (.cells #[.int .u8 0,.int .u8 0,.int .u8 0,.int .u8 0,.int .u8 0,.int .u8 0,.int .u8 0,.int .u8 0,.int .u8 0,.int .u8 0,.int .u8 0,.int .u8 0,.int .u8 0,.int .u8 0,.int .u8 0,.int .u8 0] 27)) #[.int .u8 0,.int .u8 0,.int .u8 0,.int .u8 0,.int .u8 0,.int .u8 0,.int .u8 0,.int .u8 0,.int .u8 0,.int .u8 0,.int .u8 0,.int .u8 0,.int .u8 0,.int .u8 0,.int .u8 0,.int .u8 0] 27 16 (Nat.le_refl _);simpa using h,World.there_alloc (Zk w _ 27 16 (Nat.le_refl _)) _,by simp⟩
 go_enter Tryz.func38,Tryz.ntmps38
 go_upto_region 2 with fail
 generalize (w.alloc (.cells #[.int .u8 0,.int .u8 0,.int .u8 0,.int .u8 0,.int .u8 0,.int .u8 0,.int .u8 0,.int .u8 0,.int .u8 0,.int .u8 0,.int .u8 0,.int .u8 0,.int .u8 0,.int .u8 0,.int .u8 0,.int .u8 0] 27)).alloc (.cells #[.int .u8 0,.int .u8 0,.int .u8 0,.int .u8 0,.int .u8 0,.int .u8 0,.int .u8 0,.int .u8 0,.int .u8 0,.int .u8 0,.int .u8 0,.int .u8 0,.int .u8 0,.int .u8 0,.int .u8 0,.int .u8 0] 27)=w2 at HT ⊢
 go_wp2
 go_loopw [7] (fun i wr=>∃ k:Nat,k≤8∧i=.int .i64 (k:Nat)∧Hid (Touch w2 wr (w.heap.size+1) 0 16∧∀ j,j<k→wr.cell? ⟨w.heap.size+1,j,none⟩=some (.int .u8 (byV v j:Nat))∧wr.cell? ⟨w.heap.size+1,8+j,none⟩=some (.int .u8 (byV v (8+j):Nat)))) (fun i _=>8-(intOf i).toNat)
 case atStart=>exact ⟨0,by omega,rfl,Touch.refl _ _ _ _,fun j hj=>by omega⟩
 case round=>
  obtain ⟨k,hk,rfl,HR⟩:=hrel
  by_cases hlt:k<8
  ·have t:=HR.out.1.there _ _ HT.out.2.1 k (by omega)
   have t':=HR.out.1.there _ _ HT.out.2.1 (8+k) (by omega)
   rw[Nat.zero_add] at t t'
   obtain ⟨t1,f1⟩:=t
   obtain ⟨t2,f2⟩:=t'
   obtain ⟨x1,c1⟩:=Option.isSome_iff_exists.1 t1
   obtain ⟨x2,c2⟩:=Option.isSome_iff_exists.1 t2
   clear t1 t2
   have hki:((k:Nat):Int)<8:=by omega
   have m1:=C7 lo k
   have m2:=C7 hi k
   obtain ⟨b1,HB1⟩:∃ x,Hid (x=lo/256^k%256):=⟨_,rfl⟩
   obtain ⟨b2,HB2⟩:∃ x,Hid (x=hi/256^k%256):=⟨_,rfl⟩
   rw[←HB1.out] at m1
   rw[←HB2.out] at m2
   go_wp2
   go_region
   go_wp2
   have e1:b1=byV v k:=by rw[HB1.out,HL.out,Zbp v k hlt]
   have e2:b2=byV v (8+k):=by rw[HB2.out,HH.out,Zbq]
   refine ⟨⟨k+1,by omega,rfl,(((HR.out.1).setCell k _ (by omega) (by omega)).setCell (8+k) _ (by omega) (by omega)).drew,fun j hj=>?_⟩,by simp only[intOf];omega⟩
   show ((wr.setCell _ _).setCell _ _).cell? _=_∧((wr.setCell _ _).setCell _ _).cell? _=_
   by_cases hjk:j=k
   ·subst hjk
    constructor
    ·rw[Y2 _ _ _ _ _ (by omega),World.cell?_setCell_same' _ _ _ (by rw[c1];rfl),e1]
    ·rw[World.cell?_setCell_same' _ _ _ (by rw[Y2 _ _ _ _ _ (by omega),c2];rfl),e2]
   ·have hj':=HR.out.2 j (by omega)
    constructor
    ·rw[Y2 _ _ _ _ _ (by omega),Y2 _ _ _ _ _ (by omega)];exact hj'.1
    ·rw[Y2 _ _ _ _ _ (by omega),Y2 _ _ _ _ _ (by omega)];exact hj'.2
  ·obtain rfl:k=8:=by omega
   have H4:Hid (wr.rangeAt (w.heap.size+1) 0 (BL v)∧wr.there w.heap.size 0 16∧Below w.heap.size w wr):=by
    obtain ⟨t1,t2,t3,t4⟩:=HT.out
    obtain ⟨p1,p2⟩:=HR.out
    refine ⟨Ft (fun j hj=>?_),fun j hj=>?_,t1.trans (p1.toBelow (Nat.le_succ _) (by omega))⟩
    ·by_cases h8:j<8
     ·exact (p2 j h8).1
     ·have h:=(p2 (j-8) (by omega)).2
      rwa [show 8+(j-8)=j by omega] at h
    ·rw[p1.far (p:=⟨w.heap.size,0+j,none⟩) (show w.heap.size<_ by omega) (show w.heap.size≠_ by omega),p1.farFrozen (p:=⟨w.heap.size,0+j,none⟩) (show w.heap.size<_ by omega) (show w.heap.size≠_ by omega)]
     exact t3 j hj
   clear HR hlt hk
   obtain ⟨L,HLL⟩:∃ L,Hid (L=BL v):=⟨_,rfl⟩
   rw[←HLL.out] at H4
   have HLl:Hid (L.length=16):=by show _=_;rw[HLL.out];rfl
   have HLo:Hid (L.toArray.all (·.oneCell')=true):=by show _=_;rw[HLL.out];exact D5 v
   have hTH:wr.there w.heap.size 0 L.length:=by rw[HLl.out];exact H4.out.2.1
   go_wp2_with (first
    | (refine wpList_load_mid (by rfl) 27 (.tmp 5) (by rfl) (w.heap.size+1) 0 (by rfl) L _ H4.out.1 Tryz.underlying27 rfl (by rw[HLl.out];exact Q0) ?_)
    | (refine wpList_store_mid (by rfl) 27 (.tmp 4) (.tmp 26) (by rfl) w.heap.size 0 L.toArray (by rfl) (by rfl) (by simpa using hTH) (by rw[List.size_toArray,HLl.out];exact Q0) HLo.out ?_))
   refine Yl L Tryz.results38 rfl (World.rangeAt_setCells_same _ _ _ _ hTH) Tryz.underlying27 rfl (by rw[HLl.out];exact Q0) ⟨?_,Zl _ (Nat.le_refl _) _ _ _ H4.out.2.2⟩
   rw[HLL.out]
   rfl
set_option maxHeartbeats 1600000 in
set_option maxRecDepth 100000 in
theorem Ou (a b:BitVec 128) (w:World):Calls Tryz.prog 196 #[BV a,BV b] w fun e w'=>e=.returned (BV (a ^^^ b))∧Below w.heap.size w w':=by
 have HC:Hid (Below w.heap.size w (((w.alloc (.cells #[.int .u8 (byV a 0:Nat),.int .u8 (byV a 1:Nat),.int .u8 (byV a 2:Nat),.int .u8 (byV a 3:Nat),.int .u8 (byV a 4:Nat),.int .u8 (byV a 5:Nat),.int .u8 (byV a 6:Nat),.int .u8 (byV a 7:Nat),.int .u8 (byV a 8:Nat),.int .u8 (byV a 9:Nat),.int .u8 (byV a 10:Nat),.int .u8 (byV a 11:Nat),.int .u8 (byV a 12:Nat),.int .u8 (byV a 13:Nat),.int .u8 (byV a 14:Nat),.int .u8 (byV a 15:Nat)] 27)).alloc (.cells #[.int .u8 (byV b 0:Nat),.int .u8 (byV b 1:Nat),.int .u8 (byV b 2:Nat),.int .u8 (byV b 3:Nat),.int .u8 (byV b 4:Nat),.int .u8 (byV b 5:Nat),.int .u8 (byV b 6:Nat),.int .u8 (byV b 7:Nat),.int .u8 (byV b 8:Nat),.int .u8 (byV b 9:Nat),.int .u8 (byV b 10:Nat),.int .u8 (byV b 11:Nat),.int .u8 (byV b 12:Nat),.int .u8 (byV b 13:Nat),.int .u8 (byV b 14:Nat),.int .u8 (byV b 15:Nat)] 27)).alloc (.cells #[.int .u8 0,.int .u8 0,.int .u8 0,.int .u8 0,.int .u8 0,.int .u8 0,.int .u8 0,.int .u8 0,.int .u8 0,.int .u8 0,.int .u8 0,.int .u8 0,.int .u8 0,.int .u8 0,.int .u8 0,.int .u8 0] 27))∧(∀ j,j<16→(((w.alloc (.cells #[.int .u8 (byV a 0:Nat),.int .u8 (byV a 1:Nat),.int .u8 (byV a 2:Nat),.int .u8 (byV a 3:Nat),.int .u8 (byV a 4:Nat),.int .u8 (byV a 5:Nat),.int .u8 (byV a 6:Nat),.int .u8 (byV a 7:Nat),.int .u8 (byV a 8:Nat),.int .u8 (byV a 9:Nat),.int .u8 (byV a 10:Nat),.int .u8 (byV a 11:Nat),.int .u8 (byV a 12:Nat),.int .u8 (byV a 13:Nat),.int .u8 (byV a 14:Nat),.int .u8 (byV a 15:Nat)] 27)).alloc (.cells #[.int .u8 (byV b 0:Nat),.int .u8 (byV b 1:Nat),.int .u8 (byV b 2:Nat),.int .u8 (byV b 3:Nat),.int .u8 (byV b 4:Nat),.int .u8 (byV b 5:Nat),.int .u8 (byV b 6:Nat),.int .u8 (byV b 7:Nat),.int .u8 (byV b 8:Nat),.int .u8 (byV b 9:Nat),.int .u8 (byV b 10:Nat),.int .u8 (byV b 11:Nat),.int .u8 (byV b 12:Nat),.int .u8 (byV b 13:Nat),.int .u8 (byV b 14:Nat),.int .u8 (byV b 15:Nat)] 27)).alloc (.cells #[.int .u8 0,.int .u8 0,.int .u8 0,.int .u8 0,.int .u8 0,.int .u8 0,.int .u8 0,.int .u8 0,.int .u8 0,.int .u8 0,.int .u8 0,.int .u8 0,.int .u8 0,.int .u8 0,.int .u8 0,.int .u8 0] 27)).cell? ⟨w.heap.size,j,none⟩=some (.int .u8 (byV a j:Nat)))∧(∀ j,j<16→(((w.alloc (.cells #[.int .u8 (byV a 0:Nat),.int .u8 (byV a 1:Nat),.int .u8 (byV a 2:Nat),.int .u8 (byV a 3:Nat),.int .u8 (byV a 4:Nat),.int .u8 (byV a 5:Nat),.int .u8 (byV a 6:Nat),.int .u8 (byV a 7:Nat),.int .u8 (byV a 8:Nat),.int .u8 (byV a 9:Nat),.int .u8 (byV a 10:Nat),.int .u8 (byV a 11:Nat),.int .u8 (byV a 12:Nat),.int .u8 (byV a 13:Nat),.int .u8 (byV a 14:Nat),.int .u8 (byV a 15:Nat)] 27)).alloc (.cells #[.int .u8 (byV b 0:Nat),.int .u8 (byV b 1:Nat),.int .u8 (byV b 2:Nat),.int .u8 (byV b 3:Nat),.int .u8 (byV b 4:Nat),.int .u8 (byV b 5:Nat),.int .u8 (byV b 6:Nat),.int .u8 (byV b 7:Nat),.int .u8 (byV b 8:Nat),.int .u8 (byV b 9:Nat),.int .u8 (byV b 10:Nat),.int .u8 (byV b 11:Nat),.int .u8 (byV b 12:Nat),.int .u8 (byV b 13:Nat),.int .u8 (byV b 14:Nat),.int .u8 (byV b 15:Nat)] 27)).alloc (.cells #[.int .u8 0,.int .u8 0,.int .u8 0,.int .u8 0,.int .u8 0,.int .u8 0,.int .u8 0,.int .u8 0,.int .u8 0,.int .u8 0,.int .u8 0,.int .u8 0,.int .u8 0,.int .u8 0,.int .u8 0,.int .u8 0] 27)).cell? ⟨w.heap.size+1,j,none⟩=some (.int .u8 (byV b j:Nat)))∧(((w.alloc (.cells #[.int .u8 (byV a 0:Nat),.int .u8 (byV a 1:Nat),.int .u8 (byV a 2:Nat),.int .u8 (byV a 3:Nat),.int .u8 (byV a 4:Nat),.int .u8 (byV a 5:Nat),.int .u8 (byV a 6:Nat),.int .u8 (byV a 7:Nat),.int .u8 (byV a 8:Nat),.int .u8 (byV a 9:Nat),.int .u8 (byV a 10:Nat),.int .u8 (byV a 11:Nat),.int .u8 (byV a 12:Nat),.int .u8 (byV a 13:Nat),.int .u8 (byV a 14:Nat),.int .u8 (byV a 15:Nat)] 27)).alloc (.cells #[.int .u8 (byV b 0:Nat),.int .u8 (byV b 1:Nat),.int .u8 (byV b 2:Nat),.int .u8 (byV b 3:Nat),.int .u8 (byV b 4:Nat),.int .u8 (byV b 5:Nat),.int .u8 (byV b 6:Nat),.int .u8 (byV b 7:Nat),.int .u8 (byV b 8:Nat),.int .u8 (byV b 9:Nat),.int .u8 (byV b 10:Nat),.int .u8 (byV b 11:Nat),.int .u8 (byV b 12:Nat),.int .u8 (byV b 13:Nat),.int .u8 (byV b 14:Nat),.int .u8 (byV b 15:Nat)] 27)).alloc (.cells #[.int .u8 0,.int .u8 0,.int .u8 0,.int .u8 0,.int .u8 0,.int .u8 0,.int .u8 0,.int .u8 0,.int .u8 0,.int .u8 0,.int .u8 0,.int .u8 0,.int .u8 0,.int .u8 0,.int .u8 0,.int .u8 0] 27)).there w.heap.size 0 16∧(((w.alloc (.cells #[.int .u8 (byV a 0:Nat),.int .u8 (byV a 1:Nat),.int .u8 (byV a 2:Nat),.int .u8 (byV a 3:Nat),.int .u8 (byV a 4:Nat),.int .u8 (byV a 5:Nat),.int .u8 (byV a 6:Nat),.int .u8 (byV a 7:Nat),.int .u8 (byV a 8:Nat),.int .u8 (byV a 9:Nat),.int .u8 (byV a 10:Nat),.int .u8 (byV a 11:Nat),.int .u8 (byV a 12:Nat),.int .u8 (byV a 13:Nat),.int .u8 (byV a 14:Nat),.int .u8 (byV a 15:Nat)] 27)).alloc (.cells #[.int .u8 (byV b 0:Nat),.int .u8 (byV b 1:Nat),.int .u8 (byV b 2:Nat),.int .u8 (byV b 3:Nat),.int .u8 (byV b 4:Nat),.int .u8 (byV b 5:Nat),.int .u8 (byV b 6:Nat),.int .u8 (byV b 7:Nat),.int .u8 (byV b 8:Nat),.int .u8 (byV b 9:Nat),.int .u8 (byV b 10:Nat),.int .u8 (byV b 11:Nat),.int .u8 (byV b 12:Nat),.int .u8 (byV b 13:Nat),.int .u8 (byV b 14:Nat),.int .u8 (byV b 15:Nat)] 27)).alloc (.cells #[.int .u8 0,.int .u8 0,.int .u8 0,.int .u8 0,.int .u8 0,.int .u8 0,.int .u8 0,.int .u8 0,.int .u8 0,.int .u8 0,.int .u8 0,.int .u8 0,.int .u8 0,.int .u8 0,.int .u8 0,.int .u8 0] 27)).there (w.heap.size+2) 0 16∧(((w.alloc (.cells #[.int .u8 (byV a 0:Nat),.int .u8 (byV a 1:Nat),.int .u8 (byV a 2:Nat),.int .u8 (byV a 3:Nat),.int .u8 (byV a 4:Nat),.int .u8 (byV a 5:Nat),.int .u8 (byV a 6:Nat),.int .u8 (byV a 7:Nat),.int .u8 (byV a 8:Nat),.int .u8 (byV a 9:Nat),.int .u8 (byV a 10:Nat),.int .u8 (byV a 11:Nat),.int .u8 (byV a 12:Nat),.int .u8 (byV a 13:Nat),.int .u8 (byV a 14:Nat),.int .u8 (byV a 15:Nat)] 27)).alloc (.cells #[.int .u8 (byV b 0:Nat),.int .u8 (byV b 1:Nat),.int .u8 (byV b 2:Nat),.int .u8 (byV b 3:Nat),.int .u8 (byV b 4:Nat),.int .u8 (byV b 5:Nat),.int .u8 (byV b 6:Nat),.int .u8 (byV b 7:Nat),.int .u8 (byV b 8:Nat),.int .u8 (byV b 9:Nat),.int .u8 (byV b 10:Nat),.int .u8 (byV b 11:Nat),.int .u8 (byV b 12:Nat),.int .u8 (byV b 13:Nat),.int .u8 (byV b 14:Nat),.int .u8 (byV b 15:Nat)] 27)).alloc (.cells #[.int .u8 0,.int .u8 0,.int .u8 0,.int .u8 0,.int .u8 0,.int .u8 0,.int .u8 0,.int .u8 0,.int .u8 0,.int .u8 0,.int .u8 0,.int .u8 0,.int .u8 0,.int .u8 0,.int .u8 0,.int .u8 0] 27)).heap.size=w.heap.size+3):=by
  refine ⟨Pi w _ _ _,fun j hj=>?_,fun j hj=>?_,World.there_alloc (World.there_alloc (Zk w _ 27 16 (Nat.le_refl _)) _) _,?_,by simp⟩
  ·have h:=Yk w #[.int .u8 (byV a 0:Nat),.int .u8 (byV a 1:Nat),.int .u8 (byV a 2:Nat),.int .u8 (byV a 3:Nat),.int .u8 (byV a 4:Nat),.int .u8 (byV a 5:Nat),.int .u8 (byV a 6:Nat),.int .u8 (byV a 7:Nat),.int .u8 (byV a 8:Nat),.int .u8 (byV a 9:Nat),.int .u8 (byV a 10:Nat),.int .u8 (byV a 11:Nat),.int .u8 (byV a 12:Nat),.int .u8 (byV a 13:Nat),.int .u8 (byV a 14:Nat),.int .u8 (byV a 15:Nat)] 27 j _ (Jz a j hj)
   rw[Nat.zero_add] at h
   rw[World.cell?_alloc_lt _ _ _ (show w.heap.size<_ by simp;omega),World.cell?_alloc_lt _ _ _ (show w.heap.size<_ by simp)]
   exact h
  ·have h:=Yk (w.alloc (.cells #[.int .u8 (byV a 0:Nat),.int .u8 (byV a 1:Nat),.int .u8 (byV a 2:Nat),.int .u8 (byV a 3:Nat),.int .u8 (byV a 4:Nat),.int .u8 (byV a 5:Nat),.int .u8 (byV a 6:Nat),.int .u8 (byV a 7:Nat),.int .u8 (byV a 8:Nat),.int .u8 (byV a 9:Nat),.int .u8 (byV a 10:Nat),.int .u8 (byV a 11:Nat),.int .u8 (byV a 12:Nat),.int .u8 (byV a 13:Nat),.int .u8 (byV a 14:Nat),.int .u8 (byV a 15:Nat)] 27)) #[.int .u8 (byV b 0:Nat),.int .u8 (byV b 1:Nat),.int .u8 (byV b 2:Nat),.int .u8 (byV b 3:Nat),.int .u8 (byV b 4:Nat),.int .u8 (byV b 5:Nat),.int .u8 (byV b 6:Nat),.int .u8 (byV b 7:Nat),.int .u8 (byV b 8:Nat),.int .u8 (byV b 9:Nat),.int .u8 (byV b 10:Nat),.int .u8 (byV b 11:Nat),.int .u8 (byV b 12:Nat),.int .u8 (byV b 13:Nat),.int .u8 (byV b 14:Nat),.int .u8 (byV b 15:Nat)] 27 j _ (Jz b j hj)
   rw[Nat.zero_add] at h
   rw[World.cell?_alloc_lt _ _ _ (show w.heap.size+1<_ by simp)]
   simpa using h
  ·have h:=Zk ((w.alloc (.cells #[.int .u8 (byV a 0:Nat),.int .u8 (byV a 1:Nat),.int .u8 (byV a 2:Nat),.int .u8 (byV a 3:Nat),.int .u8 (byV a 4:Nat),.int .u8 (byV a 5:Nat),.int .u8 (byV a 6:Nat),.int .u8 (byV a 7:Nat),.int .u8 (byV a 8:Nat),.int .u8 (byV a 9:Nat),.int .u8 (byV a 10:Nat),.int .u8 (byV a 11:Nat),.int .u8 (byV a 12:Nat),.int .u8 (byV a 13:Nat),.int .u8 (byV a 14:Nat),.int .u8 (byV a 15:Nat)] 27)).alloc (.cells #[.int .u8 (byV b 0:Nat),.int .u8 (byV b 1:Nat),.int .u8 (byV b 2:Nat),.int .u8 (byV b 3:Nat),.int .u8 (byV b 4:Nat),.int .u8 (byV b 5:Nat),.int .u8 (byV b 6:Nat),.int .u8 (byV b 7:Nat),.int .u8 (byV b 8:Nat),.int .u8 (byV b 9:Nat),.int .u8 (byV b 10:Nat),.int .u8 (byV b 11:Nat),.int .u8 (byV b 12:Nat),.int .u8 (byV b 13:Nat),.int .u8 (byV b 14:Nat),.int .u8 (byV b 15:Nat)] 27)) #[.int .u8 0,.int .u8 0,.int .u8 0,.int .u8 0,.int .u8 0,.int .u8 0,.int .u8 0,.int .u8 0,.int .u8 0,.int .u8 0,.int .u8 0,.int .u8 0,.int .u8 0,.int .u8 0,.int .u8 0,.int .u8 0] 27 16 (Nat.le_refl _)
   simpa using h
 unfold BV
 show Calls Tryz.prog 196 #[.agg #[.int .u8 (byV a 0:Nat),.int .u8 (byV a 1:Nat),.int .u8 (byV a 2:Nat),.int .u8 (byV a 3:Nat),.int .u8 (byV a 4:Nat),.int .u8 (byV a 5:Nat),.int .u8 (byV a 6:Nat),.int .u8 (byV a 7:Nat),.int .u8 (byV a 8:Nat),.int .u8 (byV a 9:Nat),.int .u8 (byV a 10:Nat),.int .u8 (byV a 11:Nat),.int .u8 (byV a 12:Nat),.int .u8 (byV a 13:Nat),.int .u8 (byV a 14:Nat),.int .u8 (byV a 15:Nat)],.agg #[.int .u8 (byV b 0:Nat),.int .u8 (byV b 1:Nat),.int .u8 (byV b 2:Nat),.int .u8 (byV b 3:Nat),.int .u8 (byV b 4:Nat),.int .u8 (byV b 5:Nat),.int .u8 (byV b 6:Nat),.int .u8 (byV b 7:Nat),.int .u8 (byV b 8:Nat),.int .u8 (byV b 9:Nat),.int .u8 (byV b 10:Nat),.int .u8 (byV b 11:Nat),.int .u8 (byV b 12:Nat),.int .u8 (byV b 13:Nat),.int .u8 (byV b 14:Nat),.int .u8 (byV b 15:Nat)]] w _
 go_enter Tryz.func196,Tryz.ntmps196
 go_upto_region 1 with fail
 generalize ((w.alloc (.cells #[.int .u8 (byV a 0:Nat),.int .u8 (byV a 1:Nat),.int .u8 (byV a 2:Nat),.int .u8 (byV a 3:Nat),.int .u8 (byV a 4:Nat),.int .u8 (byV a 5:Nat),.int .u8 (byV a 6:Nat),.int .u8 (byV a 7:Nat),.int .u8 (byV a 8:Nat),.int .u8 (byV a 9:Nat),.int .u8 (byV a 10:Nat),.int .u8 (byV a 11:Nat),.int .u8 (byV a 12:Nat),.int .u8 (byV a 13:Nat),.int .u8 (byV a 14:Nat),.int .u8 (byV a 15:Nat)] 27)).alloc (.cells #[.int .u8 (byV b 0:Nat),.int .u8 (byV b 1:Nat),.int .u8 (byV b 2:Nat),.int .u8 (byV b 3:Nat),.int .u8 (byV b 4:Nat),.int .u8 (byV b 5:Nat),.int .u8 (byV b 6:Nat),.int .u8 (byV b 7:Nat),.int .u8 (byV b 8:Nat),.int .u8 (byV b 9:Nat),.int .u8 (byV b 10:Nat),.int .u8 (byV b 11:Nat),.int .u8 (byV b 12:Nat),.int .u8 (byV b 13:Nat),.int .u8 (byV b 14:Nat),.int .u8 (byV b 15:Nat)] 27)).alloc (.cells #[.int .u8 0,.int .u8 0,.int .u8 0,.int .u8 0,.int .u8 0,.int .u8 0,.int .u8 0,.int .u8 0,.int .u8 0,.int .u8 0,.int .u8 0,.int .u8 0,.int .u8 0,.int .u8 0,.int .u8 0,.int .u8 0] 27)=w2 at HC ⊢
 go_wp2
 go_loopw [6] (fun i wr=>∃ k:Nat,k≤16∧i=.int .i64 (k:Nat)∧Hid (Touch w2 wr w.heap.size 0 16∧∀ j,j<16→wr.cell? ⟨w.heap.size,j,none⟩=some (.int .u8 ((if j<k then byV (a ^^^ b) j else byV a j:Nat):Int)))) (fun i _=>16-(intOf i).toNat)
 case atStart=>exact ⟨0,by omega,rfl,Touch.refl _ _ _ _,fun j hj=>by rw[if_neg (by omega)];exact HC.out.2.1 j hj⟩
 case round=>
  obtain ⟨k,hk,rfl,HR⟩:=hrel
  by_cases hlt:k<16
  ·have c1:=HR.out.2 k hlt
   rw[if_neg (Nat.lt_irrefl k)] at c1
   have f1:=(HR.out.1.there _ _ HC.out.2.2.2.1 k hlt).2
   rw[Nat.zero_add] at f1
   have c2:wr.cell? ⟨w.heap.size+1,k,none⟩=some (.int .u8 (byV b k:Nat)):=by
    have hz:=HC.out.2.2.2.2.2
    rw[HR.out.1.far (p:=⟨w.heap.size+1,k,none⟩) (show w.heap.size+1<_ by omega) (show w.heap.size+1≠_ by omega)]
    exact HC.out.2.2.1 k hlt
   have hx:bits .xor .u8 ((byV a k:Nat):Int) ((byV b k:Nat):Int)=((byV (a ^^^ b) k:Nat):Int):=by rw[Gj];exact Q5 _ _ (Q3 _ _) (Q3 _ _)
   obtain ⟨x1,HX1⟩:∃ x,Hid (x=byV a k):=⟨_,rfl⟩
   obtain ⟨x2,HX2⟩:∃ x,Hid (x=byV b k):=⟨_,rfl⟩
   obtain ⟨x3,HX3⟩:∃ x,Hid (x=byV (a ^^^ b) k):=⟨_,rfl⟩
   rw[←HX1.out] at c1 hx
   rw[←HX2.out] at c2 hx
   rw[←HX3.out] at hx
   have hki:((k:Nat):Int)<16:=by omega
   go_wp2
   go_region
   go_wp2
   refine ⟨⟨k+1,by omega,rfl,(HR.out.1.setCell k _ (by omega) (by omega)).drew,fun j hj=>?_⟩,by simp only[intOf];omega⟩
   show (wr.setCell _ _).cell? _=_
   by_cases hjk:j=k
   ·subst hjk
    rw[if_pos (by omega),World.cell?_setCell_same' _ _ _ (by rw[c1];rfl),HX3.out]
   ·rw[Y2 _ _ _ _ _ (by omega),HR.out.2 j hj]
    congr 3
    by_cases h:j<k
    ·rw[if_pos h,if_pos (by omega)]
    ·rw[if_neg h,if_neg (by omega)]
  ·obtain rfl:k=16:=by omega
   have H4:Hid (wr.rangeAt w.heap.size 0 (BL (a ^^^ b))∧wr.there (w.heap.size+2) 0 16∧Below w.heap.size w wr):=by
    obtain ⟨t1,t2,t3,t4,t5,t6⟩:=HC.out
    obtain ⟨p1,p2⟩:=HR.out
    refine ⟨Ft (fun j hj=>?_),fun j hj=>?_,t1.trans (p1.toBelow (Nat.le_refl _) (by omega))⟩
    ·have h:=p2 j hj
     rwa [if_pos hj] at h
    ·rw[p1.far (p:=⟨w.heap.size+2,0+j,none⟩) (show w.heap.size+2<_ by omega) (show w.heap.size+2≠_ by omega),p1.farFrozen (p:=⟨w.heap.size+2,0+j,none⟩) (show w.heap.size+2<_ by omega) (show w.heap.size+2≠_ by omega)]
     exact t5 j hj
   clear HR hlt hk
   obtain ⟨L,HLL⟩:∃ L,Hid (L=BL (a ^^^ b)):=⟨_,rfl⟩
   rw[←HLL.out] at H4
   have HLl:Hid (L.length=16):=by show _=_;rw[HLL.out];rfl
   have HLo:Hid (L.toArray.all (·.oneCell')=true):=by show _=_;rw[HLL.out];exact D5 _
   have hTH:wr.there (w.heap.size+2) 0 L.length:=by rw[HLl.out];exact H4.out.2.1
   go_wp2_with (first
    | (refine wpList_load_mid (by rfl) 27 (.tmp 2) (by rfl) w.heap.size 0 (by rfl) L _ H4.out.1 Tryz.underlying27 rfl (by rw[HLl.out];exact Q0) ?_)
    | (refine wpList_store_mid (by rfl) 27 (.tmp 4) (.tmp 18) (by rfl) (w.heap.size+2) 0 L.toArray (by rfl) (by rfl) (by simpa using hTH) (by rw[List.size_toArray,HLl.out];exact Q0) HLo.out ?_))
   refine Yl L Tryz.results196 rfl (World.rangeAt_setCells_same _ _ _ _ hTH) Tryz.underlying27 rfl (by rw[HLl.out];exact Q0) ⟨?_,Zl _ (by omega) _ _ _ H4.out.2.2⟩
   rw[HLL.out]
   rfl
end Go.Proofs.YtehlppaidgkpaaaGreatDoor.Fd
