import Derived.Test.YtehlppaidgkpaaaGreatDoorRfn
import Derived.Test.YtehlppaidgkpaaaGreatDoorPart32
import Derived.Deep.DeepMust
import Derived.Deep.AppendLies
import Derived.Laws.AppendOwnNone
namespace Go.Proofs.YtehlppaidgkpaaaGreatDoor
open Go.RowKit
set_option linter.unusedVariables false
set_option linter.unusedSimpArgs false
theorem teq (B:ByteArray) (L:List UInt8) (b:Bool) (h:(B.data.toList==L)=b):(B.toList==L)=b:=by rw[Lib.toList_data];exact h
theorem Xu {zs:List Int} (h:Zj zs) (n:Nat):Zj (zs.take n):=fun i=>by
 rw[List.getD_eq_getElem?_getD,List.getElem?_take]
 split
 ·exact h i
 ·simp
theorem Q1 {zs:List Int} (h:Zj zs) (n:Nat):Zj (zs.drop n):=fun i=>by
 rw[List.getD_eq_getElem?_getD,List.getElem?_drop,←List.getD_eq_getElem?_getD];exact h _
theorem Td (S:ByteArray) (j:Nat) (w:World) (G o cp:Nat) (hD:Vc w G o cp) (hj:j<52) (h1:spN j=S) (h2:∀ i,i<j→spN i≠S):Calls Tryz.prog 46 #[.string S] w fun e w'=>Hid (e=.returned (.tuple #[.agg (rwF j).toArray,.bool true])∧Below w.heap.size w w'):=by
 refine (Tc S w G o cp hD).mono ?_
 rintro e w' ⟨⟨k,hk,e1,e2,rfl⟩ | ⟨hn,_⟩,hb⟩
 ·rw[C4 h1 h2 e1 e2];exact ⟨rfl,hb⟩
 ·exact absurd h1 (hn j hj)
theorem Xf (v:Value) (ys:List Int) (nk:Nat) (w u:World) (hu:Below w.heap.size w u) (hnk:nk=4∨nk=6∨nk=8) (hl:ys.length=4*nk) (hv:Zf w v ys) (hb:Zj ys):Calls Tryz.prog 47 #[v] u fun e u'=>Hid (SkP u e u'):=by
 refine (Dd v ys nk u hnk hl (hv.below hu) hb).mono ?_
 intro e u' hh
 obtain ⟨g,e1,h⟩:=hh.out
 exact ⟨g,e1,h⟩
theorem Pd (v:Value) (zs:List Int) (a:Nat) (w u:World) (hu:Below w.heap.size w u) (hv:Zf w v zs) (ha:a+16≤zs.length) (hm:zs.length≤1000):Calls Tryz.prog 48 #[v,.int .i64 (a:Nat)] u fun e u'=>Hid (BkP u e u'):=by
 refine (V6 v zs a u (hv.below hu) ha (by omega)).mono ?_
 intro e u' hh
 obtain ⟨e1,h⟩:=hh.out
 exact ⟨_,e1,Ki _ _,Bc _ _,h⟩
theorem slH (va:Option Addr) (n vc h:Nat) (w:World) (zs:List Int) (hv:Zf w (.slice va n vc) zs) (hh:h≤n):∃ k c,(∀ u,(Instr.slice 22 (.slice va n vc) none (some (.int .i64 (h:Nat))) none).run Tryz.prog u=.ok (.slice k h c) u)∧Zf w (.slice k h c) (zs.take h):=by
 obtain ⟨a,c',he,h1,h2,h3,h4⟩:=id hv
 injection he with e1 e2 e3
 refine ⟨_,_,fun u=>Ms u va n vc h (by omega),?_⟩
 have q:=J3 hv 0 h (Nat.zero_le _) hh
 rw[List.drop_zero,Nat.sub_zero] at q
 exact q
theorem slL (va:Option Addr) (n vc h:Nat) (w:World) (zs:List Int) (hv:Zf w (.slice va n vc) zs) (hh:h≤n):∃ k c,(∀ u,(Instr.slice 22 (.slice va n vc) (some (.int .i64 (h:Nat))) none none).run Tryz.prog u=.ok (.slice k (n-h) c) u)∧Zf w (.slice k (n-h) c) (zs.drop h):=by
 obtain ⟨a,c',he,h1,h2,h3,h4⟩:=id hv
 injection he with e1 e2 e3
 refine ⟨_,_,fun u=>Ef u va n vc h (by omega) (by omega),?_⟩
 have q:=J3 hv h n hh (Nat.le_refl _)
 rw[List.take_of_length_le (by rw[List.length_drop];omega)] at q
 exact q
theorem Uo (va:Option Addr) (n vc:Nat) (zs:List Int) (w:World) (hv:Zf w (.slice va n vc) zs) (hm:zs.length≤1000) (hT:Dg.RTab w) :
  (∀ u,Below w.heap.size w u→Calls Tryz.prog 50 #[.slice va n vc] u fun e u'=>Hid (∃ ya yl yc,e=.returned (.slice ya yl yc)∧Zf u' (.slice ya yl yc) zs∧Below u.heap.size u u')) ∧
  (∀ u v,Below w.heap.size w u→Zf u v zs→Calls Tryz.prog 49 #[.int .i64 256,v] u fun e u'=>Hid (∃ ya yl yc,e=.returned (.slice ya yl yc)∧Zf u' (.slice ya yl yc) (Dg.Qd 256 zs)∧Below u.heap.size u u')) ∧
  (∀ u v,Zf u v (Dg.Qd 256 zs)→Calls Tryz.prog 47 #[v] u fun e u'=>Hid (SkP u e u')):=by
 refine ⟨fun u hu=>?_,fun u v hu hv'=>?_,fun u v hv'=>?_⟩
 ·refine (Ff _ zs u (by omega) (hv.below hu)).mono ?_
  rintro e u' ⟨v',rfl,ho,hb⟩
  have q:=X9 ho rfl
  obtain ⟨a,c,rfl,_⟩:=id q
  exact ⟨_,_,_,rfl,q,hb⟩
 ·refine (Dg.El (h:=256) rfl v zs u (hT.kept fun k hk=>hu.block k (by have:=hT.size;omega)) hv' (by omega)).mono ?_
  rintro e u' ⟨v',rfl,ho,hb⟩
  have q:Zf u' v' (Dg.Qd 256 zs):=X9 (n:=32) ho (Jo zs)
  obtain ⟨a,c,rfl,_⟩:=id q
  exact ⟨_,_,_,rfl,q,hb⟩
 ·exact Xf v (Dg.Qd 256 zs) 8 u u (Below.refl _ _) (.inr (.inr rfl)) (Jo zs) hv' (Gu _ _)
theorem Zcg (i k : Nat) (hi : i < 3) (hk : k < 17) (v : Value) (zs : List Int) (w : World) (G o cp : Nat) (hf : ∀ j, j < 1 + 17 * i + k → spN j ≠ sxN i k) (hv : Zf w v zs) (hb : Zj zs) (hl : zs.length = mK k * (16 + 8 * i) + mM k) (hD : Vc w G o cp) (hT : Dg.RTab w) :
    Calls Tryz.prog 28 #[.string (sxN i k), v] w fun e w' => RnP w e w' := by
  obtain ⟨nk, hnk, hwd⟩ : ∃ nk, (nk = 4 ∨ nk = 6 ∨ nk = 8) ∧ 16 + 8 * i = 4 * nk := ⟨4 + 2 * i, by omega, by omega⟩
  obtain ⟨va, vc, he, hvr⟩ := id hv
  clear hvr
  obtain ⟨n, hn⟩ : ∃ n, zs.length = n := ⟨_, rfl⟩
  rw [hn] at he
  subst he
  have HFI : Hid (Calls Tryz.prog 46 #[.string (sxN i k)] w fun e w' => Hid (e = .returned (.tuple #[.agg #[.string (sxN i k), .string (rM k), .string (rS k), .int .i64 ((16 + 8 * i : Nat) : Int), .int .i64 (n : Nat)], .bool true]) ∧ Below w.heap.size w w')) := by
    have q := Td (sxN i k) (1 + 17 * i + k) w G o cp hD (by omega) (Km i k hk) hf
    rw [Dc i k hi hk] at q
    unfold rwL at q
    rw [← hl, hn] at q
    exact q
  have hm1 := M4 k
  have hm2 := M3 k
  have hx : mK k * (16 + 8 * i) ≤ 2 * 32 := Nat.mul_le_mul hm1 (by omega)
  have hm : n ≤ 1000 := by omega
  match k, hk with
  | 0, _ =>
    have hl' : n = 4 * nk := by rw [hwd] at hl; have e1 : mK 0 = 1 := rfl; have e2 : mM 0 = 0 := rfl; rw [e1, e2] at hl; omega
    exact Jr _ _ _ _ va n vc w hm (teq _ _ _ (by decide)) (teq _ _ _ (by decide)) (teq _ _ _ (by decide)) (teq _ _ _ (by decide)) (teq _ _ _ (by decide)) (teq _ _ _ (by decide)) HFI (fun u hu => Xf _ zs nk w u hu hnk (by omega) hv hb)
  | 1, _ =>
    have hl' : n = 4 * nk := by rw [hwd] at hl; have e1 : mK 1 = 1 := rfl; have e2 : mM 1 = 0 := rfl; rw [e1, e2] at hl; omega
    exact Jr _ _ _ _ va n vc w hm (teq _ _ _ (by decide)) (teq _ _ _ (by decide)) (teq _ _ _ (by decide)) (teq _ _ _ (by decide)) (teq _ _ _ (by decide)) (teq _ _ _ (by decide)) HFI (fun u hu => Xf _ zs nk w u hu hnk (by omega) hv hb)
  | 2, _ =>
    have hl' : n = 4 * nk := by rw [hwd] at hl; have e1 : mK 2 = 1 := rfl; have e2 : mM 2 = 0 := rfl; rw [e1, e2] at hl; omega
    exact Jr _ _ _ _ va n vc w hm (teq _ _ _ (by decide)) (teq _ _ _ (by decide)) (teq _ _ _ (by decide)) (teq _ _ _ (by decide)) (teq _ _ _ (by decide)) (teq _ _ _ (by decide)) HFI (fun u hu => Xf _ zs nk w u hu hnk (by omega) hv hb)
  | 3, _ =>
    have hl' : n = 4 * nk := by rw [hwd] at hl; have e1 : mK 3 = 1 := rfl; have e2 : mM 3 = 0 := rfl; rw [e1, e2] at hl; omega
    exact Jr _ _ _ _ va n vc w hm (teq _ _ _ (by decide)) (teq _ _ _ (by decide)) (teq _ _ _ (by decide)) (teq _ _ _ (by decide)) (teq _ _ _ (by decide)) (teq _ _ _ (by decide)) HFI (fun u hu => Xf _ zs nk w u hu hnk (by omega) hv hb)
  | 4, _ =>
    have hl' : n = 4 * nk := by rw [hwd] at hl; have e1 : mK 4 = 1 := rfl; have e2 : mM 4 = 0 := rfl; rw [e1, e2] at hl; omega
    exact Jr _ _ _ _ va n vc w hm (teq _ _ _ (by decide)) (teq _ _ _ (by decide)) (teq _ _ _ (by decide)) (teq _ _ _ (by decide)) (teq _ _ _ (by decide)) (teq _ _ _ (by decide)) HFI (fun u hu => Xf _ zs nk w u hu hnk (by omega) hv hb)
  | 5, _ =>
    have hl' : n = 4 * nk := by rw [hwd] at hl; have e1 : mK 5 = 1 := rfl; have e2 : mM 5 = 0 := rfl; rw [e1, e2] at hl; omega
    exact Jr _ _ _ _ va n vc w hm (teq _ _ _ (by decide)) (teq _ _ _ (by decide)) (teq _ _ _ (by decide)) (teq _ _ _ (by decide)) (teq _ _ _ (by decide)) (teq _ _ _ (by decide)) HFI (fun u hu => Xf _ zs nk w u hu hnk (by omega) hv hb)
  | 6, _ =>
    have hl' : n = 4 * nk := by rw [hwd] at hl; have e1 : mK 6 = 1 := rfl; have e2 : mM 6 = 0 := rfl; rw [e1, e2] at hl; omega
    obtain ⟨q1, q2, q3⟩ := Uo va n vc zs w hv (by omega) hT
    exact Eu _ _ _ _ va n vc w hm (teq _ _ _ (by decide)) (teq _ _ _ (by decide)) (teq _ _ _ (by decide)) (teq _ _ _ (by decide)) (teq _ _ _ (by decide)) (teq _ _ _ (by decide)) HFI (fun u hu => Xf _ zs nk w u hu hnk (by omega) hv hb) zs q1 q2 q3
  | 7, _ =>
    have hl' : n = 4 * nk := by rw [hwd] at hl; have e1 : mK 7 = 1 := rfl; have e2 : mM 7 = 0 := rfl; rw [e1, e2] at hl; omega
    exact Jr _ _ _ _ va n vc w hm (teq _ _ _ (by decide)) (teq _ _ _ (by decide)) (teq _ _ _ (by decide)) (teq _ _ _ (by decide)) (teq _ _ _ (by decide)) (teq _ _ _ (by decide)) HFI (fun u hu => Xf _ zs nk w u hu hnk (by omega) hv hb)
  | 8, _ =>
    have hl' : n = 2 * (4 * nk) := by rw [hwd] at hl; have e1 : mK 8 = 2 := rfl; have e2 : mM 8 = 0 := rfl; rw [e1, e2] at hl; omega
    obtain ⟨k1, c1, hs1, hv1⟩ := slH va n vc (4 * nk) w zs hv (by omega)
    obtain ⟨k2, c2, hs2, hv2⟩ := slL va n vc (4 * nk) w zs hv (by omega)
    exact Zah _ _ _ _ va n vc w hm (teq _ _ _ (by decide)) (teq _ _ _ (by decide)) (teq _ _ _ (by decide)) HFI (4 * nk) k1 k2 c1 c2 (by omega) hs1 hs2 (fun u hu => Xf _ (zs.take (4 * nk)) nk w u hu hnk (by simp; omega) hv1 (Xu hb _)) (fun u hu => Xf _ (zs.drop (4 * nk)) nk w u hu hnk (by simp; omega) hv2 (Q1 hb _))
  | 9, _ =>
    have hl' : n = 4 * nk + 32 := by rw [hwd] at hl; have e1 : mK 9 = 1 := rfl; have e2 : mM 9 = 32 := rfl; rw [e1, e2] at hl; omega
    obtain ⟨k1, c1, hs1, hv1⟩ := slH va n vc (4 * nk) w zs hv (by omega)
    exact Zaf _ _ _ _ va n vc w hm (teq _ _ _ (by decide)) (teq _ _ _ (by decide)) (teq _ _ _ (by decide)) (teq _ _ _ (by decide)) (teq _ _ _ (by decide)) HFI (4 * nk) (4 * nk + 16) k1 c1 (by rw [IntKind.wrap_i64]; omega) (by rw [IntKind.wrap_i64]; omega) (by omega) (by omega) hs1 (fun u hu => Xf _ (zs.take (4 * nk)) nk w u hu hnk (by simp; omega) hv1 (Xu hb _)) (fun u hu => Pd _ zs (4 * nk) w u hu hv (by omega) (by omega)) (fun u hu => Pd _ zs (4 * nk + 16) w u hu hv (by omega) (by omega))
  | 10, _ =>
    have hl' : n = 2 * (4 * nk) := by rw [hwd] at hl; have e1 : mK 10 = 2 := rfl; have e2 : mM 10 = 0 := rfl; rw [e1, e2] at hl; omega
    obtain ⟨k1, c1, hs1, hv1⟩ := slH va n vc (4 * nk) w zs hv (by omega)
    obtain ⟨k2, c2, hs2, hv2⟩ := slL va n vc (4 * nk) w zs hv (by omega)
    exact Na _ _ _ _ va n vc w hm (teq _ _ _ (by decide)) (teq _ _ _ (by decide)) (teq _ _ _ (by decide)) (teq _ _ _ (by decide)) HFI (4 * nk) k1 k2 c1 c2 (by omega) hs1 hs2 (fun u hu => Xf _ (zs.take (4 * nk)) nk w u hu hnk (by simp; omega) hv1 (Xu hb _)) (fun u hu => Xf _ (zs.drop (4 * nk)) nk w u hu hnk (by simp; omega) hv2 (Q1 hb _))
  | 11, _ =>
    have hl' : n = 2 * (4 * nk) := by rw [hwd] at hl; have e1 : mK 11 = 2 := rfl; have e2 : mM 11 = 0 := rfl; rw [e1, e2] at hl; omega
    obtain ⟨k1, c1, hs1, hv1⟩ := slH va n vc (4 * nk) w zs hv (by omega)
    obtain ⟨k2, c2, hs2, hv2⟩ := slL va n vc (4 * nk) w zs hv (by omega)
    exact Na _ _ _ _ va n vc w hm (teq _ _ _ (by decide)) (teq _ _ _ (by decide)) (teq _ _ _ (by decide)) (teq _ _ _ (by decide)) HFI (4 * nk) k1 k2 c1 c2 (by omega) hs1 hs2 (fun u hu => Xf _ (zs.take (4 * nk)) nk w u hu hnk (by simp; omega) hv1 (Xu hb _)) (fun u hu => Xf _ (zs.drop (4 * nk)) nk w u hu hnk (by simp; omega) hv2 (Q1 hb _))
  | 12, _ =>
    have hl' : n = 2 * (4 * nk) := by rw [hwd] at hl; have e1 : mK 12 = 2 := rfl; have e2 : mM 12 = 0 := rfl; rw [e1, e2] at hl; omega
    obtain ⟨k1, c1, hs1, hv1⟩ := slH va n vc (4 * nk) w zs hv (by omega)
    obtain ⟨k2, c2, hs2, hv2⟩ := slL va n vc (4 * nk) w zs hv (by omega)
    exact Na _ _ _ _ va n vc w hm (teq _ _ _ (by decide)) (teq _ _ _ (by decide)) (teq _ _ _ (by decide)) (teq _ _ _ (by decide)) HFI (4 * nk) k1 k2 c1 c2 (by omega) hs1 hs2 (fun u hu => Xf _ (zs.take (4 * nk)) nk w u hu hnk (by simp; omega) hv1 (Xu hb _)) (fun u hu => Xf _ (zs.drop (4 * nk)) nk w u hu hnk (by simp; omega) hv2 (Q1 hb _))
  | 13, _ =>
    have hl' : n = 2 * (4 * nk) := by rw [hwd] at hl; have e1 : mK 13 = 2 := rfl; have e2 : mM 13 = 0 := rfl; rw [e1, e2] at hl; omega
    obtain ⟨k1, c1, hs1, hv1⟩ := slH va n vc (4 * nk) w zs hv (by omega)
    obtain ⟨k2, c2, hs2, hv2⟩ := slL va n vc (4 * nk) w zs hv (by omega)
    obtain ⟨q1, q2, q3⟩ := Uo va n vc zs w hv (by omega) hT
    exact Et _ _ _ _ va n vc w hm (teq _ _ _ (by decide)) (teq _ _ _ (by decide)) (teq _ _ _ (by decide)) (teq _ _ _ (by decide)) HFI (4 * nk) k1 k2 c1 c2 (by omega) hs1 hs2 (fun u hu => Xf _ (zs.take (4 * nk)) nk w u hu hnk (by simp; omega) hv1 (Xu hb _)) (fun u hu => Xf _ (zs.drop (4 * nk)) nk w u hu hnk (by simp; omega) hv2 (Q1 hb _)) zs q1 q2 q3
  | 14, _ =>
    have hl' : n = 4 * nk + 16 := by rw [hwd] at hl; have e1 : mK 14 = 1 := rfl; have e2 : mM 14 = 16 := rfl; rw [e1, e2] at hl; omega
    obtain ⟨k1, c1, hs1, hv1⟩ := slH va n vc (4 * nk) w zs hv (by omega)
    exact Zag _ _ _ _ va n vc w hm (teq _ _ _ (by decide)) (teq _ _ _ (by decide)) (teq _ _ _ (by decide)) (teq _ _ _ (by decide)) (teq _ _ _ (by decide)) (teq _ _ _ (by decide)) HFI (4 * nk) k1 c1 (by rw [IntKind.wrap_i64]; omega) (by omega) hs1 (fun u hu => Xf _ (zs.take (4 * nk)) nk w u hu hnk (by simp; omega) hv1 (Xu hb _)) (fun u hu => Pd _ zs (4 * nk) w u hu hv (by omega) (by omega))
  | 15, _ =>
    have hl' : n = 4 * nk := by rw [hwd] at hl; have e1 : mK 15 = 1 := rfl; have e2 : mM 15 = 0 := rfl; rw [e1, e2] at hl; omega
    exact Jr _ _ _ _ va n vc w hm (teq _ _ _ (by decide)) (teq _ _ _ (by decide)) (teq _ _ _ (by decide)) (teq _ _ _ (by decide)) (teq _ _ _ (by decide)) (teq _ _ _ (by decide)) HFI (fun u hu => Xf _ zs nk w u hu hnk (by omega) hv hb)
  | 16, _ =>
    have hl' : n = 4 * nk := by rw [hwd] at hl; have e1 : mK 16 = 1 := rfl; have e2 : mM 16 = 0 := rfl; rw [e1, e2] at hl; omega
    exact Jr _ _ _ _ va n vc w hm (teq _ _ _ (by decide)) (teq _ _ _ (by decide)) (teq _ _ _ (by decide)) (teq _ _ _ (by decide)) (teq _ _ _ (by decide)) (teq _ _ _ (by decide)) HFI (fun u hu => Xf _ zs nk w u hu hnk (by omega) hv hb)
  | q + 17, h => exact absurd h (by omega)
theorem Mw (j:Nat) (hj:j<52):∃ (M S:ByteArray) (a:Int),rwF j=[.string (spN j),.string M,.string S,.int .i64 a,.int .i64 (kyN j:Nat)]:=by
 rcases Vi j hj with rfl | ⟨i,k,hi,hk,rfl⟩
 ·exact ⟨_,_,_,rfl⟩
 ·rw[Dc i k hi hk,Km i k hk,Vp i k hk];exact ⟨_,_,_,rfl⟩
structure Env (w:World) (G o cp:Nat):Prop where
 pow:Pow w
 md:Vc w G o cp
 tb:Dg.Tables w
 rt:Dg.RTab w
 rc:RC w
theorem Env.below {w w':World} {G o cp:Nat} (h:Env w G o cp) (b:Below w.heap.size w w'):Env w' G o cp:=
 ⟨h.pow.below b,h.md.below b,h.tb.below b h.tb.size,h.rt.kept fun k hk=>b.block k (by have:=h.rt.size;omega),h.rc.belowB b (by have:=h.tb.size;omega)⟩
theorem Y4 {P:Program} {fn:Func} {p:Tmp} {ty:TypeId} {d:TypeDesc} {Q:Ending→World→Prop} {tmps:Array Value} {w:World} {b:Nat} (cs:List Value) (h:fn.results=#[.cell p ty])
 (hp:tmps.getD p undef=.pointer (some ⟨b,0,none⟩)) (hr:w.rangeAt b 0 cs) (hu:P.underlying ty=some d) (hd:d.isRow=true) (hi:(P.info? ty).map (·.size)=some cs.length)
 (hq:Q (.returned (.agg cs.toArray)) w):bodyPost P fn Q .ret ⟨tmps,[]⟩ w:=Yl cs h hp hr hu hd hi hq
set_option maxHeartbeats 1600000 in
set_option maxRecDepth 100000 in
theorem M0 (nm:Int) (j:Nat) (a:Option Addr) (n c:Nat) (w:World) (G o cp:Nat) (hD:Vc w G o cp) (hj:j<52) (hc:IntKind.u64.wrap nm%52=(j:Int)) :
  Calls Tryz.prog 27 #[.agg #[.int .i64 nm,.slice a n c]] w fun e w'=>Hid (e=.returned (.agg (rwF j).toArray)∧Below w.heap.size w w'):=by
 obtain ⟨x,hx⟩:∃ x,IntKind.u64.wrap nm=x:=⟨_,rfl⟩
 rw[hx] at hc
 have hx0:0≤x:=by rw[←hx];unfold IntKind.wrap;simp [IntKind.signed,IntKind.bits];omega
 have htm:x.tmod 52=(j:Int):=by rw[Int.tmod_eq_emod_of_nonneg hx0];exact hc
 have hwj:wrap64 (j:Int)=(j:Int):=by unfold wrap64;omega
 clear hc hx0
 obtain ⟨w1,hw1⟩:∃ w1,w1=(w.alloc (.cells #[.int .i64 nm,.slice a n c] 24)).alloc (.cells zRw.toArray 59):=⟨_,rfl⟩
 have hb1:Below w.heap.size w w1:=by rw[hw1];exact ((Below.refl _ _).alloc (Nat.le_refl _) _).alloc (by simp) _
 have HB1:Hid (Bx w1 w.heap.size 24 [.int .i64 nm,.slice a n c]∧Bx w1 (w.heap.size+1) 59 zRw∧Below w.heap.size w w1):=by
  refine ⟨?_,?_,hb1⟩
  ·rw[hw1];exact (Bx.new w 24 [.int .i64 nm,.slice a n c]).below ((Below.refl _ _).alloc (Nat.le_refl _) _)
  ·rw[hw1];have q:=Bx.new (w.alloc (.cells #[.int .i64 nm,.slice a n c] 24)) 59 zRw;simpa using q
 have H42:Hid (Calls Tryz.prog 45 #[] ((w.alloc (.cells #[.int .i64 nm,.slice a n c] 24)).alloc (.cells #[.string ⟨#[]⟩,.string ⟨#[]⟩,.string ⟨#[]⟩,.int .i64 0,.int .i64 0] 59)) fun e w'=>Hid (∃ g cap,e=.returned (.slice (some ⟨g,0,none⟩) 52 cap)∧w'.ownsRow w1.heap.size 59 5 (.slice (some ⟨g,0,none⟩) 52 cap) 52 (fl rwF 52)∧Below w1.heap.size w1 w')):=by
  have q:=rows_ok w1 G o cp (hD.below hb1)
  have e:w1=(w.alloc (.cells #[.int .i64 nm,.slice a n c] 24)).alloc (.cells #[.string ⟨#[]⟩,.string ⟨#[]⟩,.string ⟨#[]⟩,.int .i64 0,.int .i64 0] 59):=hw1
  rw[←e]
  exact q
 have HW1:Hid (w1.heap.size=w.heap.size+1+1):=(by rw[hw1];simp:w1.heap.size=w.heap.size+1+1)
 clear hw1 hb1 hD
 go_enter Tryz.func27,Tryz.ntmps27
 go_upto_region 2 with (go_at_call 45;refine H42.out.mono ?_;intro e2 w2 hh;obtain ⟨g,cap,rfl,ho,hb⟩:=hh.out;have HB2:Hid (w2.ownsRow w1.heap.size 59 5 (.slice (some ⟨g,0,none⟩) 52 cap) 52 (fl rwF 52)∧Below w1.heap.size w1 w2):=⟨ho,hb⟩;clear hh ho hb H42)
 obtain ⟨m,HM⟩:∃ m,Hid (w.heap.size=m):=⟨_,rfl⟩
 rw[HM.out] at HB1 HW1 ⊢
 have HX2:Hid (Bx w2 m 24 [.int .i64 nm,.slice a n c]∧Bx w2 (m+1) 59 zRw∧Below m w w2):=⟨HB1.out.1.below HB2.out.2,HB1.out.2.1.below HB2.out.2,HB1.out.2.2.trans (HB2.out.2.mono (by have:=HB1.out.1.lt;omega))⟩
 have d0:w2.cell? ⟨m,0,none⟩=some (.int .i64 nm):=HX2.out.1.cell 0 _ rfl
 obtain ⟨M,T,aa,s,hrow⟩:=S5 j hj
 have HROW:Hid (rwF j=[.string (spN j),.string M,.string T,.int .i64 aa,.int .i64 s]):=hrow
 obtain ⟨NM,HNM⟩:∃ q,Hid (spN j=q):=⟨_,rfl⟩
 rw[HNM.out] at hrow
 have cs:∀ q,q<5→w2.cell? ⟨g,j*5+q,none⟩=(rwF j)[q]?:=fun q hq=>rwc HB2.out.1 (Below.refl _ _) hj hq
 rw[hrow] at cs
 have c0:=cs 0 (by decide)
 have c1:=cs 1 (by decide)
 have c2:=cs 2 (by decide)
 have c3:=cs 3 (by decide)
 have c4:=cs 4 (by decide)
 clear cs hrow
 simp only[List.getElem?_cons_zero,List.getElem?_cons_succ,Nat.add_zero] at c0 c1 c2 c3 c4
 have g0:(0:Int)≤(j:Int):=by omega
 have g1:(j:Int)<52:=by omega
 have e52:IntKind.u64.wrap 52=52:=by decide
 have ej:IntKind.i64.wrap (j:Int)=(j:Int):=by rw[IntKind.wrap_i64];omega
 go_wp2_with (refine Zg (by rfl) 59 (.tmp 2) (.tmp 15) (by rfl) zRw [.string NM,.string M,.string T,.int .i64 aa,.int .i64 s] (m+1) (by rfl) (by rfl) HX2.out.2.1 rfl (by kernel_rfl) (by simp [Value.oneCell']) ?_;intro u9 hb9 hg9)
 refine Y4 (b:=m+1) [.string NM,.string M,.string T,.int .i64 aa,.int .i64 s] rfl rfl hb9.range Tryz.underlying59 rfl (by kernel_rfl) ⟨by rw[HROW.out,HNM.out],?_⟩
 have hfin:Below m w u9:=HX2.out.2.2.trans (Yd hg9 (by have:=HX2.out.2.1.lt;omega) (by omega))
 first | exact hfin | (rw[HM.out];exact hfin)
theorem Za8 (A M T:ByteArray) (a b:Int) (w:World):(Instr.field 59 (.agg #[.string A,.string M,.string T,.int .i64 a,.int .i64 b]) 4).run Tryz.prog w=.ok (.int .i64 b) w:=by kernel_rfl
theorem Za9 (A M T:ByteArray) (a b:Int) (w:World):(Instr.field 59 (.agg #[.string A,.string M,.string T,.int .i64 a,.int .i64 b]) 0).run Tryz.prog w=.ok (.string A) w:=by kernel_rfl
theorem one_cell (w:World) (z:Value) (e:TypeId):∀ (j:Nat) (u:Value),[z][j]?=some u→(w.alloc (.cells #[z] e)).cell? ((⟨w.heap.size,0,none⟩:Addr).add j)=some u:=by
 intro j u hj
 match j,hj with
 | 0,hj=>simp at hj;subst hj;simp [Addr.add]
theorem V8 (z:Int):∀ u∈[Value.int .u8 z],u.oneCell'=true:=by intro u hu;simp at hu;subst hu;rfl
def kyL (bs:List Int) (m:Nat):List Int:=(List.range m).map fun i=>if bs=[] then ((7*i%256:Nat):Int) else bs.getD (i%bs.length) 0
theorem Ko (bs:List Int) (m:Nat):(kyL bs m).length=m:=by simp [kyL]
theorem T5 (bs:List Int) (m:Nat):kyL bs (m+1)=kyL bs m++[if bs=[] then ((7*m%256:Nat):Int) else bs.getD (m%bs.length) 0]:=by simp [kyL,List.range_succ]
theorem Wc {bs : List Int} (h : Zj bs) (m : Nat) : Zj (kyL bs m) := fun i => by
  rw [List.getD_eq_getElem?_getD, kyL, List.getElem?_map]
  cases (List.range m)[i]? with
  | none => simp
  | some q =>
    simp only [Option.map_some, Option.getD_some]
    split
    · omega
    · exact h _
structure KyI (w:World) (m:Nat) (nm:Int) (x:Value) (bs:List Int) (wr:World) (v:Value) (k:Nat):Prop where
 own:wr.ownsRow (m+1) 5 1 v k (Za (kyL bs k))
 box:Bx wr m 24 [.int .i64 nm,x]
 bel:Below m w wr
theorem KyI.step {w:World} {m:Nat} {nm:Int} {x:Value} {bs:List Int} {wr w2:World} {v v2:Value} {k:Nat} {z:Int} (h:KyI w m nm x bs wr v k) (o:Obj) (hz:(if bs=[] then ((7*k%256:Nat):Int) else bs.getD (k%bs.length) 0)=z) (ho:w2.ownsRow (m+1) 5 1 v2 (k+1) (Za (kyL bs k)++[.int .u8 z])) (hg:(wr.alloc o).grownBy w2 v.ownBlock):KyI w m nm x bs w2 v2 (k+1):=by
 have hm:=h.box.lt
 have hb:Below (m+1) wr w2:=((Below.refl (m+1) wr).alloc (by omega) o).grown hg (by simp;omega) (fun q hq=>(Zy h.own hq).1)
 refine ⟨?_,h.box.keep (hb.block m (by omega)),h.bel.trans (hb.mono (by omega))⟩
 rw[T5,hz,Xh]
 exact ho
set_option maxHeartbeats 1600000 in
set_option maxRecDepth 100000 in
theorem Ev (nm : Int) (j : Nat) (v : Value) (bs : List Int) (w : World) (G o cp : Nat) (hD : Vc w G o cp) (hj : j < 52) (hc : IntKind.u64.wrap nm % 52 = (j : Int)) (hv : Zf w v bs) :
    Calls Tryz.prog 18 #[.agg #[.int .i64 nm, v]] w fun e w' => Hid (∃ y d, e = .returned (.slice y (kyN j) d) ∧ Zf w' (.slice y (kyN j) d) (kyL bs (kyN j)) ∧ Below w.heap.size w w') := by
  obtain ⟨i0, hi, hz0, hz1, hz2⟩ := info_parts Tryz.info5
  have HI0 : Hid (Tryz.prog.info? 5 = some i0 ∧ i0.zero = some (.int .u8 0) ∧ i0.size = 1 ∧ i0.bytes = 1) := ⟨hi, hz0, hz1, hz2⟩
  clear hi hz0 hz1 hz2
  obtain ⟨M, T, aa, hrow⟩ := Mw j hj
  have HV : Hid (Zf w v bs) := hv
  obtain ⟨a, c, rfl, h1, h2, h3, h4⟩ := hv
  obtain ⟨n, HNL⟩ : ∃ n, Hid (bs.length = n) := ⟨_, rfl⟩
  have hky : kyN j ≤ 1000 := by
    rcases Vi j hj with rfl | ⟨i, k, hi, hk, rfl⟩
    · decide
    · rw [Vp i k hk]
      have : mK k * (16 + 8 * i) ≤ 2 * 32 := Nat.mul_le_mul (M4 k) (by omega)
      have := M3 k
      omega
  obtain ⟨kz, HKZ⟩ : ∃ kz, Hid (kyN j = kz) := ⟨_, rfl⟩
  rw [HKZ.out] at hky hrow ⊢
  rw [HNL.out] at h1 HV ⊢
  have H52 : Hid (∀ u, Below w.heap.size w u → Calls Tryz.prog 27 #[.agg #[.int .i64 nm, .slice a n c]] u fun e w' => Hid (e = .returned (.agg #[.string (spN j), .string M, .string T, .int .i64 aa, .int .i64 (kz : Nat)]) ∧ Below u.heap.size u w')) := fun u hu => by
    have q := M0 nm j a n c u G o cp (hD.below hu) hj hc
    rw [hrow] at q
    exact q
  have HCC : Hid (bs = [] ∨ ∃ b off, a = some ⟨b, off, none⟩ ∧ ∀ i, i < bs.length → w.cell? ⟨b, off + i, none⟩ = some (.int .u8 (bs.getD i 0))) := h4
  clear h1 h2 h3 h4 hD hj hc hrow
  obtain ⟨w1, hw1⟩ : ∃ w1, w1 = w.alloc (.cells #[.int .i64 nm, .slice a n c] 24) := ⟨_, rfl⟩
  have HB1 : Hid (Bx w1 w.heap.size 24 [.int .i64 nm, .slice a n c] ∧ Below w.heap.size w w1) := by rw [hw1]; exact ⟨Bx.new w 24 _, (Below.refl _ _).alloc (Nat.le_refl _) _⟩
  have hfl := fun u => Za8 (spN j) M T aa (kz : Nat) u
  go_enter Tryz.func18, Tryz.ntmps18
  go_upto_region 1 with fail
  rw [← hw1]
  clear hw1
  obtain ⟨m, HM⟩ : ∃ m, Hid (w.heap.size = m) := ⟨_, rfl⟩
  rw [HM.out] at HB1 H52 ⊢
  go_upto_region 4 with (first
    | (refine wpList_load_mid (by rfl) 24 (.tmp 1) (by rfl) m 0 (by rfl) [.int .i64 nm, .slice a n c] _ HB1.out.1.range Tryz.underlying24 rfl (by kernel_rfl) ?_)
    | (go_at_call 27; refine (H52.out _ HB1.out.2).mono ?_; intro e2 w2 hh; obtain ⟨rfl, hb⟩ := hh.out; have HB2 : Hid (Bx w2 m 24 [.int .i64 nm, .slice a n c] ∧ Below m w w2) := ⟨HB1.out.1.below hb, HB1.out.2.trans (hb.mono (by have := HB1.out.1.lt; omega))⟩; clear hh hb H52))
  clear hfl
  go_loopw [4, 5] (fun v vi wr => ∃ k : Nat, vi = .int .i64 (k : Nat) ∧ k ≤ kz ∧ Hid (KyI w m nm (.slice a n c) bs wr v k)) (fun _ vi _ => kz - (intOf vi).toNat)
  case atStart => exact ⟨0, rfl, by omega, World.ownsRow_nil _ _ _ _, HB2.out.1, HB2.out.2⟩
  case round =>
    obtain ⟨k, rfl, hk, HR⟩ := hrel
    clear HB2
    by_cases hlt : k < kz
    · have g1 : (k : Int) < (kz : Int) := by omega
      have d1 : wr.cell? ⟨m, 1, none⟩ = some (.slice a n c) := HR.out.box.cell 1 _ rfl
      have HLM : Hid (m < wr.heap.size) := HR.out.box.lt
      by_cases hb0 : bs = []
      · have HB0 : Hid (bs = []) := hb0
        have hn0 : n = 0 := by have := HNL.out; rw [hb0] at this; simpa using this.symm
        clear hb0
        subst hn0
        obtain ⟨z, HZ⟩ : ∃ z : Int, Hid (z = ((7 * k % 256 : Nat) : Int)) := ⟨_, rfl⟩
        have hz : IntKind.u8.wrap (7 * (k : Int)) = z := by rw [HZ.out, IntKind.wrap_u8]; omega
        have hw7 : IntKind.i64.wrap (7 * (k : Int)) = 7 * (k : Int) := by rw [IntKind.wrap_i64]; omega
        go_wp2_with (first
          | (at_builtin; go_must (refine wpList_append_own _ rfl (.tmp 18) (.tmp 22) 22 rfl (m + 1) 5 i0 (.int .u8 0) 1 1 Tryz.underlying22 HI0.out.1 HI0.out.2.1 HI0.out.2.2.1 HI0.out.2.2.2 rfl (by decide) _ _ _ rfl (HR.out.own.alloc _) ⟨wr.heap.size, 0, none⟩ 1 1 [.int .u8 z] rfl rfl (one_cell wr _ 5) (V8 z) (by unfold maxLen; omega) (by omega) (by have := HLM.out; simp; omega) ?_; intro v2 w2 hown hgrow hnil; have HX : Hid (KyI w m nm (.slice a 0 c) bs w2 v2 (k + 1)) := HR.out.step _ (by rw [if_pos HB0.out, HZ.out]) hown hgrow; clear hown hgrow hnil)))
        exact ⟨⟨k + 1, by simp, by omega, HX⟩, by simp [intOf]; omega⟩
      · obtain ⟨b, off, rfl, hcell⟩ := HCC.out.resolve_left hb0
        have HB0 : Hid (bs ≠ []) := hb0
        have hn1 : 0 < n := by have := HNL.out; cases bs with | nil => exact absurd rfl hb0 | cons _ _ => simp at this; omega
        clear hb0
        obtain ⟨q, HQ⟩ : ∃ q : Nat, Hid (q = k % n) := ⟨_, rfl⟩
        have hqn : q < n := by rw [HQ.out]; exact Nat.mod_lt _ hn1
        obtain ⟨z, HZ⟩ : ∃ z : Int, Hid (bs.getD q 0 = z) := ⟨_, rfl⟩
        have HCL : Hid (∀ u : World, Below m w u → u.cell? ⟨b, off + q, none⟩ = some (.int .u8 z)) := fun u hu => by
          have p := hcell q (by rw [HNL.out]; exact hqn)
          rw [hu.cell (by have := World.block_lt_of_cell? w _ p; rw [HM.out] at this; exact this), p, HZ.out]
        have c1 := HCL.out wr HR.out.bel
        clear hcell
        have hmod : (k : Int).tmod (n : Int) = (q : Int) := by rw [HQ.out, Int.tmod_eq_emod_of_nonneg (by omega)]; omega
        have hne : ((n : Int) == 0) = false := by simp; omega
        have hn2 : (n : Int) ≠ 0 := by omega
        have k0 : (0 : Int) ≤ (q : Int) := by omega
        have k1 : (q : Int) < (n : Int) := by omega
        have hn3 : ¬ n = 0 := by omega
        go_upto_region 8 with fail
        have HN1 : Hid (k + 1 ≤ maxLen) := (by unfold maxLen; omega : k + 1 ≤ maxLen)
        have HN2 : Hid ((k + 1) * 1 ≤ 140737488355328) := (by omega : (k + 1) * 1 ≤ 140737488355328)
        have HOD : Hid (wr.drew.ownsRow (m + 1) 5 1 u4 k (Za (kyL bs k))) := ownsRow_below HR.out.own (Below.refl _ _).drew
        go_region_held3 (fun u => u.cell? ⟨m, 1, none⟩ = some (.slice (some ⟨b, off, none⟩) n c) ∧ u.cell? ⟨b, off + q, none⟩ = some (.int .u8 z)) (first | exact ⟨d1, c1⟩ | exact hS5 | go_keep)
          ((refine step_append_lies _ ?q1 (.tmp 24) (.tmp 34) 22 ?q2 (m + 1) 5 i0 _ 1 1 Tryz.underlying22 HI0.out.1 HI0.out.2.1 HI0.out.2.2.1 HI0.out.2.2.2 ?q3 (Nat.succ_pos 0) u4 k (Za (kyL bs k)) ?q4 (HOD.out.alloc _) ⟨wr.drew.heap.size, 0, none⟩ 1 1 [.int .u8 z] ?q5 ?q6 (one_cell wr.drew _ 5) (V8 z) (Nat.succ_pos 0) HN1.out HN2.out ?q7 (wr.heap.size + 1) ?q8 ?q9
            case q1 => rfl
            case q2 => rfl
            case q3 => rfl
            case q4 => rfl
            case q5 => rfl
            case q6 => rfl
            case q7 => (have := HLM.out; simp; omega)
            case q8 => simp
            intro gg cap w5 hown5 hgrow hat hlt5
            have HX : Hid (KyI w m nm (.slice (some ⟨b, off, none⟩) n c) bs w5 (.slice (some ⟨gg, 0, none⟩) (k + 1) cap) (k + 1)) := (KyI.step (wr := wr.drew) ⟨HOD.out, HR.out.box.below (Below.refl _ _).drew, HR.out.bel.drew⟩ _ (by rw [if_neg HB0.out, HNL.out, ← HQ.out, HZ.out]) hown5 hgrow)
            have hS5 : w5.cell? ⟨m, 1, none⟩ = some (.slice (some ⟨b, off, none⟩) n c) ∧ w5.cell? ⟨b, off + q, none⟩ = some (.int .u8 z) := ⟨HX.out.box.cell 1 _ rfl, HCL.out w5 HX.out.bel⟩))
        clear hown5 hgrow hat hlt5 hS5
        go_wp2
        exact ⟨⟨k + 1, by simp, by omega, HX⟩, by simp [intOf]; omega⟩
    · have g1 : ¬ (k : Int) < (kz : Int) := by omega
      have HF : Hid (wr.ownsRow (m + 1) 5 1 u4 kz (Za (kyL bs kz)) ∧ Below m w wr) := by
        obtain ⟨p1, p2, p3⟩ := HR.out
        rw [show k = kz by omega] at p1
        exact ⟨p1, p3⟩
      clear HR
      obtain ⟨xa, xl, xc, rfl⟩ : ∃ x l c, u4 = .slice x l c := by rcases HF.out.1.2 with ⟨q, _⟩ | ⟨_, _, _, q, _⟩ <;> exact ⟨_, _, _, q⟩
      go_wp2
      go_ret
      have hv := X9 HF.out.1 (Ko bs kz)
      obtain ⟨a2, c2, e2, _⟩ := id hv
      rw [Ko] at e2
      injection e2 with e3 e4 e5
      subst e4
      exact ⟨xa, xc, rfl, hv, by first | exact HF.out.2 | (rw [HM.out]; exact HF.out.2)⟩
end Go.Proofs.YtehlppaidgkpaaaGreatDoor
