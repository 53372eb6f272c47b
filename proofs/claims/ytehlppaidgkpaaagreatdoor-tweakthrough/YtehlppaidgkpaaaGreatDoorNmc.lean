import Derived.Test.YtehlppaidgkpaaaGreatDoorPart04
import Derived.Deep.RegionHeld3
import Derived.Deep.RegionWith
import Derived.OwnWalk
import Derived.Laws.EntriesVeiled
import Derived.BigQuiet
namespace Go.Proofs.YtehlppaidgkpaaaGreatDoor
open Go.RowKit
set_option linter.unusedVariables false
def mdF (k:Nat):List Value:=if k<17 then Xd.getD k [] else List.replicate 6 .nilFunc
theorem Ef (k:Nat):(mdF k).length=6:=by
 unfold mdF
 by_cases h:k<17
 ·rw[if_pos h]
  obtain ⟨a,b,c,f,g,e,_⟩:=Gc k h
  rw[e];rfl
 ·rw[if_neg h];rfl
theorem O5:Xd.flatten=fl mdF 17:=by kernel_rfl
theorem Rb (k j:Nat) (hk:k<17) (hj:j<6):Xd.flatten.toArray[k*6+j]?=(Xd.getD k [])[j]?:=by
 rw[List.getElem?_toArray,O5,T5 mdF 6 Ef 17 k j hk hj,mdF,if_pos hk]
theorem Uq:Tryz.prog.built 94 [(3,.int .i64 1),(5,.func (.func 109) #[] #[])]=some #[.string ⟨#[]⟩,.int .i64 0,.int .i64 0,.int .i64 1,.nilFunc,.func (.func 109) #[] #[]]:=by kernel_rfl
theorem E7 (s:ByteArray) (a:Int) (c0 c1 c2 c3 c4 c5:Value):Tryz.prog.built 96 [(0,.string s),(1,.int .i64 a),(2,.agg #[c0,c1,c2,c3,c4,c5])]=some #[.string s,.int .i64 a,c0,c1,c2,c3,c4,c5]:=by kernel_rfl
theorem T1:(Tryz.prog.info? 96).map (fun i=>(i.zero,i.size,i.bytes))=some (some (.agg #[.string ⟨#[]⟩,.int .i64 0,.string ⟨#[]⟩,.int .i64 0,.int .i64 0,.int .i64 0,.nilFunc,.nilFunc]),8,80):=by kernel_rfl
theorem Zah (c0 c1 c2 c3 c4 c5 c6 c7:Value):Instr.fill (fun i=>some (i*8,8)) ((Array.range (1*8)).map ((Value.agg #[.string ⟨#[]⟩,.int .i64 0,.string ⟨#[]⟩,.int .i64 0,.int .i64 0,.int .i64 0,.nilFunc,.nilFunc]).cells[·%(Value.agg #[.string ⟨#[]⟩,.int .i64 0,.string ⟨#[]⟩,.int .i64 0,.int .i64 0,.int .i64 0,.nilFunc,.nilFunc]).cells.size]!)) [(0,.agg #[c0,c1,c2,c3,c4,c5,c6,c7])]=some #[c0,c1,c2,c3,c4,c5,c6,c7]:=by kernel_rfl
theorem Pt (w:World) (c0 c1 c2 c3 c4 c5 c6 c7:Value):(Instr.buildSlice 154 1 #[(0,.agg #[c0,c1,c2,c3,c4,c5,c6,c7])]).run Tryz.prog w=.ok (.slice (some ⟨w.heap.size,0,none⟩) 1 1) (w.alloc (.cells #[c0,c1,c2,c3,c4,c5,c6,c7] 96)):=by
 obtain ⟨i,hi,hz0,hz1,hz2⟩:=info_parts T1
 refine run_buildSlice w 154 96 1 _ _ i _ Tryz.underlying154 hi hz0 (by rw[hz1];decide) (by rw[hz1];decide) ?_
 rw[hz1]
 exact Zah _ _ _ _ _ _ _ _
structure SxO (w0 wr:World) (v:Value) (n:Nat):Prop where
 own:wr.ownsRow w0.heap.size 96 8 v n (fl sxF n)
 bel:Below w0.heap.size w0 wr
 ints:wr.heap[w0.heap.size+1]?=some (.cells #[.int .i64 16,.int .i64 24,.int .i64 32] 3 (0,0))
 ne:v.ownBlock≠some (w0.heap.size+1)
structure SxI (w0 wr:World) (v:Value) (n M:Nat):Prop where
 o:SxO w0 wr v n
 mods:wr.heap[M]?=some (.cells Xd.flatten.toArray 94 (0,0))
 ne:v.ownBlock≠some M
 hM:w0.heap.size+1<M
theorem SxO.form {w0 wr:World} {v:Value} {n:Nat} (h:SxO w0 wr v n) (hn:0<n):∃ g cap,v=.slice (some ⟨g,0,none⟩) n cap∧w0.heap.size≤g∧g<wr.heap.size∧g≠w0.heap.size+1:=by
 rcases h.own.2 with ⟨_,h0⟩ | ⟨g,cap,cur,hv,hb,hgg,_⟩
 ·omega
 ·refine ⟨g,cap,hv,hb,(Z3 h.own (by rw[hv];rfl)).2,fun e=>h.ne (by rw[hv,←e];rfl)⟩
theorem SxO.below {w0 wr wx:World} {v:Value} {n:Nat} (h:SxO w0 wr v n) (b:Below wr.heap.size wr wx):SxO w0 wx v n:=by
 have hlt:w0.heap.size+1<wr.heap.size:=by
  rcases Nat.lt_or_ge (w0.heap.size+1) wr.heap.size with q | q
  ·exact q
  ·have:=h.ints;rw[Array.getElem?_eq_none q] at this;cases this
 exact ⟨ownsRow_below h.own b,h.bel.trans (b.mono h.bel.size),by rw[b.block _ hlt];exact h.ints,h.ne⟩
theorem SxI.below {w0 wr wx:World} {v:Value} {n M:Nat} (h:SxI w0 wr v n M) (b:Below wr.heap.size wr wx):SxI w0 wx v n M:=by
 have hlt:M<wr.heap.size:=by
  rcases Nat.lt_or_ge M wr.heap.size with q | q
  ·exact q
  ·have:=h.mods;rw[Array.getElem?_eq_none q] at this;cases this
 exact ⟨h.o.below b,by rw[b.block _ hlt];exact h.mods,h.ne,h.hM⟩
theorem Sl (w0:World):SxO w0 ((w0.alloc (.cells #[.string ⟨#[110,117,108,108]⟩,.int .i64 0,.string ⟨#[]⟩,.int .i64 0,.int .i64 0,.int .i64 1,.nilFunc,.func (.func 109) #[] #[]] 96)).alloc (.cells #[.int .i64 16,.int .i64 24,.int .i64 32] 3)) (.slice (some ⟨w0.heap.size,0,none⟩) 1 1) (1+17*0):=by
 refine ⟨ownsRow_below (Wm w0 w0.heap.size 96 8 1 (fl sxF 1) (Nat.le_refl _) (by decide) rfl) ((Below.refl _ _).alloc (Nat.le_refl _) _),((Below.refl _ _).alloc (Nat.le_refl _) _).alloc (by simp) _,?_,?_⟩
 ·have q:=heap_alloc_new (w0.alloc (.cells #[.string ⟨#[110,117,108,108]⟩,.int .i64 0,.string ⟨#[]⟩,.int .i64 0,.int .i64 0,.int .i64 1,.nilFunc,.func (.func 109) #[] #[]] 96)) (.cells #[.int .i64 16,.int .i64 24,.int .i64 32] 3)
  simpa using q
 ·simp [Value.ownBlock]
theorem T0 {w0 wr:World} (h:wr.heap[w0.heap.size+1]?=some (.cells #[.int .i64 16,.int .i64 24,.int .i64 32] 3 (0,0))) {i:Nat} (hi:i<3):wr.cell? ⟨w0.heap.size+1,i,none⟩=some (.int .i64 ((16+8*i:Nat):Int)):=by
 rcases (show i=0∨i=1∨i=2 by omega) with rfl | rfl | rfl<;>simp [World.cell?,h]
theorem Sk {w0 wr w1:World} {v:Value} {n:Nat} (h:SxO w0 wr v n) (hw:w1=wr.alloc (.cells Xd.flatten.toArray 94)):SxI w0 w1 v n wr.heap.size:=by
 subst hw
 have hlt:w0.heap.size+1<wr.heap.size:=by
  rcases Nat.lt_or_ge (w0.heap.size+1) wr.heap.size with q | q
  ·exact q
  ·have:=h.ints;rw[Array.getElem?_eq_none q] at this;cases this
 refine ⟨h.below ((Below.refl _ _).alloc (Nat.le_refl _) _),heap_alloc_new wr _,fun e=>?_,hlt⟩
 have:=(Z3 h.own e).2
 omega
theorem SxI.lt {w0 wr:World} {v:Value} {n M:Nat} (h:SxI w0 wr v n M):M<wr.heap.size:=by
 rcases Nat.lt_or_ge M wr.heap.size with q | q
 ·exact q
 ·have:=h.mods;rw[Array.getElem?_eq_none q] at this;cases this
theorem Kj {w0 wr:World} {v:Value} {n M k:Nat} (h:SxI w0 wr v n M) (j:Nat) (hk:k<17) (hj:j<6):wr.cell? ⟨M,k*6+j,none⟩=(Xd.getD k [])[j]?:=by
 rw[←Rb k j hk hj]
 simp [World.cell?,h.mods]
theorem Za3 (x:Nat) (h:x≤1000):IntKind.i64.wrap (8*(x:Int))=8*(x:Int):=by rw[IntKind.wrap_i64];omega
theorem Pp {w0 w4 w5:World} {v:Value} {i k M gg cap:Nat} {L:List Value} (h:SxI w0 w4 v (1+17*i+k) M) (hk:k<17) (o:Obj) (hg:(w4.alloc o).grownBy w5 v.ownBlock) (hown:w5.ownsRow w0.heap.size 96 8 (.slice (some ⟨gg,0,none⟩) (1+17*i+k+1) cap) (1+17*i+k+1) (fl sxF (1+17*i+k)++L)) (hL:sxF (1+17*i+k)=L) (hat:v.ownBlock=some gg∨gg=w4.heap.size+1):SxI w0 w5 (.slice (some ⟨gg,0,none⟩) (1+17*i+k+1) cap) (1+17*i+(k+1)) M:=by
 have hM:=h.lt
 have hI:w0.heap.size+1<w4.heap.size:=by have:=h.hM;omega
 have far:∀ b,b<w4.heap.size→v.ownBlock≠some b→w5.heap[b]?=w4.heap[b]?:=fun b hb hn=>by
  rw[hg.block b (by simp;omega) (Ne.symm hn)]
  exact Below.heap_alloc _ _ _ hb
 have own2:∀ b,b<w4.heap.size→v.ownBlock≠some b→(Value.slice (some ⟨gg,0,none⟩) (1+17*i+k+1) cap).ownBlock≠some b:=fun b hb hn e=>by
  have e':gg=b:=by simpa [Value.ownBlock] using e
  rcases hat with q | q
  ·exact hn (by rw[q,e'])
  ·omega
 refine ⟨⟨?_,?_,?_,own2 _ hI h.o.ne⟩,?_,own2 _ hM h.ne,h.hM⟩
 ·have e:fl sxF (1+17*i+(k+1))=fl sxF (1+17*i+k)++L:=by rw[←hL];rfl
  rw[e]
  exact hown
 ·exact h.o.bel.trans (((Below.refl _ _).alloc h.o.bel.size o).grown hg (by have:=h.o.bel.size;simp;omega) fun b e=>(Z3 h.o.own e).1)
 ·rw[far _ hI h.o.ne];exact h.o.ints
 ·rw[far _ hM h.ne];exact h.mods
theorem Tz (i:Nat) (hi:i<3:=by omega):(itB i).size≤100:=by
 rcases (show i=0∨i=1∨i=2 by omega) with rfl | rfl | rfl<;>simp [itB,Lib.itoa,Lib.decDigits,ByteArray.size]
theorem C4 (k:Nat) (hk:k<17):(nmB k).size≤100:=by
 have:∀ k<17,(nmB k).size≤100:=by decide
 exact this k hk
set_option maxHeartbeats 3200000 in
set_option maxRecDepth 100000 in
theorem Ln (w0 : World) (hT : Pow w0) : Calls Tryz.prog 65 #[] w0 fun e w' => Hid (∃ g cap, e = .returned (.slice (some ⟨g, 0, none⟩) 52 cap) ∧ w'.ownsRow w0.heap.size 96 8 (.slice (some ⟨g, 0, none⟩) 52 cap) 52 (fl sxF 52) ∧ Below w0.heap.size w0 w') := by
  have HT : Hid (Pow w0) := hT
  clear hT
  have b0 : ∀ w, (Instr.build 94 #[(3, .int .i64 1), (5, .func (.func 109) #[] #[])]).run Tryz.prog w = .ok (.agg #[.string ⟨#[]⟩, .int .i64 0, .int .i64 0, .int .i64 1, .nilFunc, .func (.func 109) #[] #[]]) w := fun w => run_build w _ _ _ Uq
  have b1 : ∀ (s : ByteArray) (a : Int) (c0 c1 c2 c3 c4 c5 : Value) w, (Instr.build 96 #[(0, .string s), (1, .int .i64 a), (2, .agg #[c0, c1, c2, c3, c4, c5])]).run Tryz.prog w = .ok (.agg #[.string s, .int .i64 a, c0, c1, c2, c3, c4, c5]) w := fun s a c0 c1 c2 c3 c4 c5 w => run_build w _ _ _ (E7 s a c0 c1 c2 c3 c4 c5)
  have b2 := Pt
  go_enter Tryz.func65, Tryz.ntmps65
  obtain ⟨i0, hi0, hz0, hz1, hz2⟩ := info_parts T1
  have HI0 : Hid (Tryz.prog.info? 96 = some i0 ∧ i0.zero = some (.agg #[.string ⟨#[]⟩, .int .i64 0, .string ⟨#[]⟩, .int .i64 0, .int .i64 0, .int .i64 0, .nilFunc, .nilFunc]) ∧ i0.size = 8 ∧ i0.bytes = 80) := ⟨hi0, hz0, hz1, hz2⟩
  clear hi0 hz0 hz1 hz2
  go_wp2
  go_loopw [1, 11] (fun va vi wr => ∃ i : Nat, vi = .int .i64 (i : Nat) ∧ i ≤ 3 ∧ Hid (SxO w0 wr va (1 + 17 * i))) (fun _ vi _ => 3 - (intOf vi).toNat)
  case atStart => exact ⟨0, rfl, by omega, Sl w0⟩
  case round =>
    obtain ⟨i, rfl, hi, HR⟩ := hrel
    by_cases hlt : i < 3
    · obtain ⟨WD, HWD⟩ : ∃ W : Int, Hid (W = ((16 + 8 * i : Nat) : Int)) := ⟨_, rfl⟩
      have hc : wr.cell? ⟨w0.heap.size + 1, i, none⟩ = some (.int .i64 WD) := by rw [HWD.out]; exact T0 HR.out.ints hlt
      have g0 : (0 : Int) ≤ (i : Int) := by omega
      have g1 : (i : Int) < 3 := by omega
      go_upto_region 6 with (go_at_call 110; refine (Ti _).mono ?_; intro e1 w1 hh; obtain ⟨rfl, hw1⟩ := hh.out; have HM : Hid (SxI w0 w1 u1 (1 + 17 * i) wr.heap.size) := Sk HR.out hw1; clear hw1 hh)
      obtain ⟨M, hMe⟩ : ∃ M, M = wr.heap.size := ⟨_, rfl⟩
      rw [← hMe] at HM ⊢
      clear hMe HR hc
      generalize u1 = v0 at HM ⊢
      go_loopw [1, 17] (fun va vk wx => ∃ k : Nat, vk = .int .i64 (k : Nat) ∧ k ≤ 17 ∧ Hid (SxI w0 wx va (1 + 17 * i + k) M)) (fun _ vk _ => 17 - (intOf vk).toNat)
      case atStart => exact ⟨0, rfl, by omega, HM⟩
      case round =>
        obtain ⟨k, rfl, hk, HK⟩ := hrel
        clear HM
        by_cases hkl : k < 17
        · obtain ⟨a, b, c, f, g, hm, hf⟩ := Gc k hkl
          have HM6 : Hid (Xd.getD k [] = [.string (nmB k), .int .i64 a, .int .i64 b, .int .i64 c, f, .func (.func g) #[] #[]]) := hm
          have k0 : (0 : Int) ≤ (k : Int) := by omega
          have k1 : (k : Int) < 17 := by omega
          obtain ⟨NB, HNB⟩ : ∃ x, Hid (nmB k = x) := ⟨_, rfl⟩
          rw [HNB.out] at hm
          have c0 := Kj HK.out 0 hkl (by decide)
          have c1 := Kj HK.out 1 hkl (by decide)
          have c2 := Kj HK.out 2 hkl (by decide)
          have c3 := Kj HK.out 3 hkl (by decide)
          have c4 := Kj HK.out 4 hkl (by decide)
          have c5 := Kj HK.out 5 hkl (by decide)
          rw [hm] at c0 c1 c2 c3 c4 c5
          simp only [List.getElem?_cons_zero, List.getElem?_cons_succ, Nat.add_zero] at c0 c1 c2 c3 c4 c5
          clear hm
          have hkM : Hid (M < wr.heap.size) := HK.out.lt
          have hf1 : f.oneCell' = true := by rcases hf with rfl | ⟨m, rfl⟩ <;> rfl
          have HF1 : Hid (f.oneCell' = true) := hf1
          have hsF : ∀ u ad md, (store ad f md).run Tryz.prog u = stored Tryz.prog u ad f md := fun u ad md => run_store Tryz.prog u ad f md hf1
          clear hf hf1
          go_upto_region 8 with fail
          obtain ⟨w2, hw2⟩ : ∃ w2, w2 = wr.alloc (.cells #[.string NB, .int .i64 a, .int .i64 b, .int .i64 c, f, .func (.func g) #[] #[]] 94) := ⟨_, rfl⟩
          have HK2 : Hid (SxI w0 w2 u1 (1 + 17 * i + k) M) := by rw [hw2]; exact HK.out.below ((Below.refl _ _).alloc (Nat.le_refl _) _)
          have hb2 := heap_alloc_new wr (.cells #[.string NB, .int .i64 a, .int .i64 b, .int .i64 c, f, .func (.func g) #[] #[]] 94)
          rw [← hw2] at hb2 ⊢
          have HL2 : Hid (w2.heap[wr.heap.size]? = some (.cells #[.string NB, .int .i64 a, .int .i64 b, .int .i64 c, f, .func (.func g) #[] #[]] 94 (0, 0)) ∧ wr.heap.size < w2.heap.size) := ⟨hb2, by rw [hw2]; simp⟩
          clear hw2 hb2 c0 c1 c2 c3 c4 c5 hsF
          have HUm : Hid (u1.ownBlock ≠ some wr.heap.size) := fun e => Nat.lt_irrefl _ (Z3 HK.out.o.own e).2
          generalize wr.heap.size = m at HL2 HUm ⊢
          clear HK hkM
          have HSM : Hid (∀ u : World, u.heap[m]? = w2.heap[m]? → u.cell? ⟨m, 0, none⟩ = some (.string NB) ∧ u.cell? ⟨m, 1, none⟩ = some (.int .i64 a) ∧ u.cell? ⟨m, 2, none⟩ = some (.int .i64 b) ∧ u.cell? ⟨m, 3, none⟩ = some (.int .i64 c) ∧ u.cell? ⟨m, 4, none⟩ = some f ∧ u.cell? ⟨m, 5, none⟩ = some (.func (.func g) #[] #[])) := fun u hu => by
            have q := hu
            rw [HL2.out.1] at q
            simp [World.cell?, q]
          obtain ⟨d0, d1, d2, d3, d4, d5⟩ := HSM.out w2 rfl
          obtain ⟨W8, HW8⟩ : ∃ W : Int, Hid (W = ((8 * (16 + 8 * i) : Nat) : Int)) := ⟨_, rfl⟩
          have hw8 : IntKind.i64.wrap (8 * WD) = W8 := by rw [HWD.out, HW8.out, Za3 _ (by omega)]; omega
          obtain ⟨IB, HIB⟩ : ∃ x, Hid (itB i = x) := ⟨_, rfl⟩
          have H9 : Hid (∀ u : World, Below w2.heap.size w2 u → Calls Tryz.prog 111 #[.int .i64 W8] u fun e w' => Hid (e = .returned (.string IB) ∧ Below u.heap.size u w')) := fun u hu => by
            have q := Em (8 * (16 + 8 * i)) (by omega) u (HT.out.below (HK2.out.o.bel.trans (hu.mono HK2.out.o.bel.size)))
            rw [← HW8.out] at q
            rw [← HIB.out]
            rw [show itB i = ⟨(Lib.itoa W8).toArray⟩ by rw [HW8.out]; rfl]
            exact q
          have zI : IB.size ≤ 100 := by rw [← HIB.out]; exact Tz i
          have zN : NB.size ≤ 100 := by rw [← HNB.out]; exact C4 k hkl
          have z1 : ¬ (9223372036854775807 < 3 + IB.size) := by omega
          have z2 : ¬ (9223372036854775807 < 3 + IB.size + 1) := by omega
          have z3 : ¬ (9223372036854775807 < 3 + IB.size + 1 + NB.size) := by omega
          have HN1 : Hid (1 + 17 * i + k + 1 ≤ maxLen) := by show 1 + 17 * i + k + 1 ≤ maxLen; unfold maxLen; omega
          have HN2 : Hid ((1 + 17 * i + k + 1) * 80 ≤ 140737488355328) := by show (1 + 17 * i + k + 1) * 80 ≤ 140737488355328; omega
          have HNW : Hid (∀ u ∈ ([.string (({ data := #[97, 101, 115] } : ByteArray) ++ IB ++ { data := #[45] } ++ NB), .int .i64 WD, .string NB, .int .i64 a, .int .i64 b, .int .i64 c, f, .func (.func g) #[] #[]] : List Value), u.oneCell' = true) := by
            intro u hu
            simp only [List.mem_cons, List.not_mem_nil, or_false] at hu
            rcases hu with rfl | rfl | rfl | rfl | rfl | rfl | rfl | rfl <;> first | rfl | exact HF1.out
          go_region_held3 (fun u => u.cell? ⟨m, 0, none⟩ = some (.string NB) ∧ u.cell? ⟨m, 1, none⟩ = some (.int .i64 a) ∧ u.cell? ⟨m, 2, none⟩ = some (.int .i64 b) ∧ u.cell? ⟨m, 3, none⟩ = some (.int .i64 c) ∧ u.cell? ⟨m, 4, none⟩ = some f ∧ u.cell? ⟨m, 5, none⟩ = some (.func (.func g) #[] #[])) (first | exact ⟨d0, d1, d2, d3, d4, d5⟩ | exact hS4 | exact hS5 | go_keep)
            (first
              | (go_at_call 111; refine (H9.out w2.drew (Below.refl _ _).drew).mono ?_; intro e4 w4 hh; obtain ⟨rfl, r4x⟩ := hh.out; have r4 : Below w2.heap.size w2 w4 := ⟨r4x.os, r4x.tape, r4x.output, r4x.size, r4x.block⟩; have hS4 := HSM.out w4 (r4.block m HL2.out.2); have HE4 : Hid (w4.heap[m]? = w2.heap[m]?) := r4.block m HL2.out.2; have HK4 : Hid (SxI w0 w4 u1 (1 + 17 * i + k) M) := HK2.out.below r4; have HG4 : Hid (m < w4.heap.size) := Nat.lt_of_lt_of_le HL2.out.2 r4.size)
              | (refine step_append_lies _ ?q1 (.tmp 21) (.tmp 33) 154 ?q2 w0.heap.size 96 i0 _ 8 80 Tryz.underlying154 HI0.out.1 HI0.out.2.1 HI0.out.2.2.1 HI0.out.2.2.2 ?q3 (Nat.succ_pos 7) u1 (1 + 17 * i + k) (fl sxF (1 + 17 * i + k)) ?q4 (HK4.out.o.own.alloc _)
                  ⟨w4.heap.size, 0, none⟩ 1 1 [.string (({ data := #[97, 101, 115] } : ByteArray) ++ IB ++ { data := #[45] } ++ NB), .int .i64 WD, .string NB, .int .i64 a, .int .i64 b, .int .i64 c, f, .func (.func g) #[] #[]] ?q5 ?q6 (World.news_of_block (cs := #[.string (({ data := #[97, 101, 115] } : ByteArray) ++ IB ++ { data := #[45] } ++ NB), .int .i64 WD, .string NB, .int .i64 a, .int .i64 b, .int .i64 c, f, .func (.func g) #[] #[]]) (t := 96) (fr := (0, 0)) (heap_alloc_new w4 _)) HNW.out
                  (Nat.succ_pos 0) HN1.out HN2.out ?q7 (w4.heap.size + 1) ?q8 ?q9
                 case q1 => rfl
                 case q2 => rfl
                 case q3 => rfl
                 case q4 => rfl
                 case q5 => rfl
                 case q6 => rfl
                 case q7 => (have := HK4.out.o.bel.size; simp; omega)
                 case q8 => simp
                 intro gg cap w5 hown5 hgrow hat hlt5
                 have hS5 := HSM.out w5 ((hgrow.block m (Nat.lt_of_lt_of_le HG4.out (by simp)) (Ne.symm HUm.out)).trans ((Below.heap_alloc _ _ _ HG4.out).trans HE4.out))))
          have HK5 : Hid (SxI w0 w5 (.slice (some ⟨gg, 0, none⟩) (1 + 17 * i + k + 1) cap) (1 + 17 * i + (k + 1)) M) := Pp HK4.out hkl _ hgrow hown5 (by
            rw [Sn i k hkl, HM6.out, ← HWD.out, sxN, HIB.out, HNB.out]) hat
          clear hown5 hgrow hat hlt5 HK4 HG4 hh hS4 hS5 HE4 HUm r4 r4x d0 d1 d2 d3 d4 d5 HSM HL2 HK2 H9
          go_wp2
          go_roundw
          case rel => exact ⟨k + 1, by go_num, by omega, HK5⟩
          case measure => simp [intOf]; omega
        · have k1 : ¬ (k : Int) < 17 := by omega
          have HK5 : Hid (SxO w0 wr u1 (1 + 17 * (i + 1))) := by
            have q := HK.out.o
            rw [show 1 + 17 * i + k = 1 + 17 * (i + 1) by omega] at q
            exact q
          clear HK
          go_wp2
          go_roundw
          case rel => exact ⟨i + 1, by go_num, by omega, HK5⟩
          case measure => simp [intOf]; omega
    · have g1 : ¬ (i : Int) < 3 := by omega
      have HE : Hid (SxO w0 wr u1 52) := by
        have q := HR.out
        rw [show 1 + 17 * i = 52 by omega] at q
        exact q
      clear HR
      obtain ⟨gg, cap, rfl, _, _, _⟩ := HE.out.form (by decide)
      go_wp2
      go_ret
      exact ⟨gg, cap, rfl, HE.out.own, HE.out.bel⟩
end Go.Proofs.YtehlppaidgkpaaaGreatDoor
