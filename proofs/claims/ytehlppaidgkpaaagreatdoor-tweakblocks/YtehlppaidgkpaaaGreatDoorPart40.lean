import Derived.Test.YtehlppaidgkpaaaGreatDoorRfn
import Derived.Test.YtehlppaidgkpaaaGreatDoorPart32
import Derived.Test.YtehlppaidgkpaaaGreatDoorRows
import Derived.ProofKit
import Derived.OpenShut
import Derived.ShutString
import Derived.ChangeOld
import Derived.SizedLaws
import Derived.Below
import Derived.Deep.DeepHandedRow
import Derived.Deep.Slices
import Derived.Lib.LaidTab
import Derived.Lib.LaidU8
import Derived.Deep.DeepWitnessRowRef
import Derived.Deep.DeepMust
import Derived.Deep.AppendLies
import Derived.Laws.AppendOwnNone
import Derived.OwnWalk
import Derived.Laws.OwnMore
namespace Go.Proofs.YtehlppaidgkpaaaGreatDoor
open Go.RowKit
set_option linter.unusedVariables false
set_option linter.unusedSimpArgs false
theorem teq (B:ByteArray) (L:List UInt8) (b:Bool) (h:(B.data.toList==L)=b):(B.toList==L)=b:=by rw[Lib.toList_data];exact h
theorem Xy {zs:List Int} (h:Zg zs) (n:Nat):Zg (zs.take n):=fun i=>by
 rw[List.getD_eq_getElem?_getD,List.getElem?_take]
 split
 ·exact h i
 ·simp
theorem Qv {zs:List Int} (h:Zg zs) (n:Nat):Zg (zs.drop n):=fun i=>by
 rw[List.getD_eq_getElem?_getD,List.getElem?_drop,←List.getD_eq_getElem?_getD];exact h _
theorem Pf (S:ByteArray) (j:Nat) (w:World) (G o cp:Nat) (hD:Vo w G o cp) (hj:j<52) (h1:spN j=S) (h2:∀ i,i<j→spN i≠S):Calls Tryz.prog 46 #[.string S] w fun e w'=>Hid (e=.returned (.tuple #[.agg (rwF j).toArray,.bool true])∧Below w.heap.size w w'):=by
 refine (Pe S w G o cp hD).mono ?_
 rintro e w' ⟨⟨k,hk,e1,e2,rfl⟩ | ⟨hn,_⟩,hb⟩
 ·rw[Ni h1 h2 e1 e2];exact ⟨rfl,hb⟩
 ·exact absurd h1 (hn j hj)
theorem Xj (v:Value) (ys:List Int) (nk:Nat) (w u:World) (hu:Below w.heap.size w u) (hnk:nk=4∨nk=6∨nk=8) (hl:ys.length=4*nk) (hv:Zi w v ys) (hb:Zg ys):Calls Tryz.prog 47 #[v] u fun e u'=>Hid (SkP u e u'):=by
 refine (Cq v ys nk u hnk hl (hv.below hu) hb).mono ?_
 intro e u' hh
 obtain ⟨g,e1,h⟩:=hh.out
 exact ⟨g,e1,h⟩
theorem Ip (v:Value) (zs:List Int) (a:Nat) (w u:World) (hu:Below w.heap.size w u) (hv:Zi w v zs) (ha:a+16≤zs.length) (hm:zs.length≤1000):Calls Tryz.prog 48 #[v,.int .i64 (a:Nat)] u fun e u'=>Hid (BkP u e u'):=by
 refine (Wq v zs a u (hv.below hu) ha (by omega)).mono ?_
 intro e u' hh
 obtain ⟨e1,h⟩:=hh.out
 exact ⟨_,e1,Kl _ _,Nu _ _,h⟩
theorem slH (va:Option Addr) (n vc h:Nat) (w:World) (zs:List Int) (hv:Zi w (.slice va n vc) zs) (hh:h≤n):∃ k c,(∀ u,(Instr.slice 22 (.slice va n vc) none (some (.int .i64 (h:Nat))) none).run Tryz.prog u=.ok (.slice k h c) u)∧Zi w (.slice k h c) (zs.take h):=by
 obtain ⟨a,c',he,h1,h2,h3,h4⟩:=id hv
 injection he with e1 e2 e3
 refine ⟨_,_,fun u=>Rm u va n vc h (by omega),?_⟩
 have q:=J9 hv 0 h (Nat.zero_le _) hh
 rw[List.drop_zero,Nat.sub_zero] at q
 exact q
theorem slL (va:Option Addr) (n vc h:Nat) (w:World) (zs:List Int) (hv:Zi w (.slice va n vc) zs) (hh:h≤n):∃ k c,(∀ u,(Instr.slice 22 (.slice va n vc) (some (.int .i64 (h:Nat))) none none).run Tryz.prog u=.ok (.slice k (n-h) c) u)∧Zi w (.slice k (n-h) c) (zs.drop h):=by
 obtain ⟨a,c',he,h1,h2,h3,h4⟩:=id hv
 injection he with e1 e2 e3
 refine ⟨_,_,fun u=>Ku u va n vc h (by omega) (by omega),?_⟩
 have q:=J9 hv h n hh (Nat.le_refl _)
 rw[List.take_of_length_le (by rw[List.length_drop];omega)] at q
 exact q
theorem Eu (va:Option Addr) (n vc:Nat) (zs:List Int) (w:World) (hv:Zi w (.slice va n vc) zs) (hm:zs.length≤1000) (hT:Dg.RTab w) :
  (∀ u,Below w.heap.size w u→Calls Tryz.prog 50 #[.slice va n vc] u fun e u'=>Hid (∃ ya yl yc,e=.returned (.slice ya yl yc)∧Zi u' (.slice ya yl yc) zs∧Below u.heap.size u u')) ∧
  (∀ u v,Below w.heap.size w u→Zi u v zs→Calls Tryz.prog 49 #[.int .i64 256,v] u fun e u'=>Hid (∃ ya yl yc,e=.returned (.slice ya yl yc)∧Zi u' (.slice ya yl yc) (Dg.Qg 256 zs)∧Below u.heap.size u u')) ∧
  (∀ u v,Zi u v (Dg.Qg 256 zs)→Calls Tryz.prog 47 #[v] u fun e u'=>Hid (SkP u e u')):=by
 refine ⟨fun u hu=>?_,fun u v hu hv'=>?_,fun u v hv'=>?_⟩
 ·refine (Hg _ zs u (by omega) (hv.below hu)).mono ?_
  rintro e u' ⟨v',rfl,ho,hb⟩
  have q:=Xz ho rfl
  obtain ⟨a,c,rfl,_⟩:=id q
  exact ⟨_,_,_,rfl,q,hb⟩
 ·refine (Dg.Ox (h:=256) rfl v zs u (hT.kept fun k hk=>hu.block k (by have:=hT.size;omega)) hv' (by omega)).mono ?_
  rintro e u' ⟨v',rfl,ho,hb⟩
  have q:Zi u' v' (Dg.Qg 256 zs):=Xz (n:=32) ho (Jp zs)
  obtain ⟨a,c,rfl,_⟩:=id q
  exact ⟨_,_,_,rfl,q,hb⟩
 ·exact Xj v (Dg.Qg 256 zs) 8 u u (Below.refl _ _) (.inr (.inr rfl)) (Jp zs) hv' (Fi _ _)
theorem Zee (i k : Nat) (hi : i < 3) (hk : k < 17) (v : Value) (zs : List Int) (w : World) (G o cp : Nat) (hf : ∀ j, j < 1 + 17 * i + k → spN j ≠ sxN i k) (hv : Zi w v zs) (hb : Zg zs) (hl : zs.length = mK k * (16 + 8 * i) + mM k) (hD : Vo w G o cp) (hT : Dg.RTab w) :
    Calls Tryz.prog 28 #[.string (sxN i k), v] w fun e w' => RnP w e w' := by
  obtain ⟨nk, hnk, hwd⟩ : ∃ nk, (nk = 4 ∨ nk = 6 ∨ nk = 8) ∧ 16 + 8 * i = 4 * nk := ⟨4 + 2 * i, by omega, by omega⟩
  obtain ⟨va, vc, he, hvr⟩ := id hv
  clear hvr
  obtain ⟨n, hn⟩ : ∃ n, zs.length = n := ⟨_, rfl⟩
  rw [hn] at he
  subst he
  have HFI : Hid (Calls Tryz.prog 46 #[.string (sxN i k)] w fun e w' => Hid (e = .returned (.tuple #[.agg #[.string (sxN i k), .string (rM k), .string (rS k), .int .i64 ((16 + 8 * i : Nat) : Int), .int .i64 (n : Nat)], .bool true]) ∧ Below w.heap.size w w')) := by
    have q := Pf (sxN i k) (1 + 17 * i + k) w G o cp hD (by omega) (Qn i k hk) hf
    rw [Cp i k hi hk] at q
    unfold rwL at q
    rw [← hl, hn] at q
    exact q
  have hm1 := R6 k
  have hm2 := R5 k
  have hx : mK k * (16 + 8 * i) ≤ 2 * 32 := Nat.mul_le_mul hm1 (by omega)
  have hm : n ≤ 1000 := by omega
  match k, hk with
  | 0, _ =>
    have hl' : n = 4 * nk := by rw [hwd] at hl; have e1 : mK 0 = 1 := rfl; have e2 : mM 0 = 0 := rfl; rw [e1, e2] at hl; omega
    exact Ju _ _ _ _ va n vc w hm (teq _ _ _ (by decide)) (teq _ _ _ (by decide)) (teq _ _ _ (by decide)) (teq _ _ _ (by decide)) (teq _ _ _ (by decide)) (teq _ _ _ (by decide)) HFI (fun u hu => Xj _ zs nk w u hu hnk (by omega) hv hb)
  | 1, _ =>
    have hl' : n = 4 * nk := by rw [hwd] at hl; have e1 : mK 1 = 1 := rfl; have e2 : mM 1 = 0 := rfl; rw [e1, e2] at hl; omega
    exact Ju _ _ _ _ va n vc w hm (teq _ _ _ (by decide)) (teq _ _ _ (by decide)) (teq _ _ _ (by decide)) (teq _ _ _ (by decide)) (teq _ _ _ (by decide)) (teq _ _ _ (by decide)) HFI (fun u hu => Xj _ zs nk w u hu hnk (by omega) hv hb)
  | 2, _ =>
    have hl' : n = 4 * nk := by rw [hwd] at hl; have e1 : mK 2 = 1 := rfl; have e2 : mM 2 = 0 := rfl; rw [e1, e2] at hl; omega
    exact Ju _ _ _ _ va n vc w hm (teq _ _ _ (by decide)) (teq _ _ _ (by decide)) (teq _ _ _ (by decide)) (teq _ _ _ (by decide)) (teq _ _ _ (by decide)) (teq _ _ _ (by decide)) HFI (fun u hu => Xj _ zs nk w u hu hnk (by omega) hv hb)
  | 3, _ =>
    have hl' : n = 4 * nk := by rw [hwd] at hl; have e1 : mK 3 = 1 := rfl; have e2 : mM 3 = 0 := rfl; rw [e1, e2] at hl; omega
    exact Ju _ _ _ _ va n vc w hm (teq _ _ _ (by decide)) (teq _ _ _ (by decide)) (teq _ _ _ (by decide)) (teq _ _ _ (by decide)) (teq _ _ _ (by decide)) (teq _ _ _ (by decide)) HFI (fun u hu => Xj _ zs nk w u hu hnk (by omega) hv hb)
  | 4, _ =>
    have hl' : n = 4 * nk := by rw [hwd] at hl; have e1 : mK 4 = 1 := rfl; have e2 : mM 4 = 0 := rfl; rw [e1, e2] at hl; omega
    exact Ju _ _ _ _ va n vc w hm (teq _ _ _ (by decide)) (teq _ _ _ (by decide)) (teq _ _ _ (by decide)) (teq _ _ _ (by decide)) (teq _ _ _ (by decide)) (teq _ _ _ (by decide)) HFI (fun u hu => Xj _ zs nk w u hu hnk (by omega) hv hb)
  | 5, _ =>
    have hl' : n = 4 * nk := by rw [hwd] at hl; have e1 : mK 5 = 1 := rfl; have e2 : mM 5 = 0 := rfl; rw [e1, e2] at hl; omega
    exact Ju _ _ _ _ va n vc w hm (teq _ _ _ (by decide)) (teq _ _ _ (by decide)) (teq _ _ _ (by decide)) (teq _ _ _ (by decide)) (teq _ _ _ (by decide)) (teq _ _ _ (by decide)) HFI (fun u hu => Xj _ zs nk w u hu hnk (by omega) hv hb)
  | 6, _ =>
    have hl' : n = 4 * nk := by rw [hwd] at hl; have e1 : mK 6 = 1 := rfl; have e2 : mM 6 = 0 := rfl; rw [e1, e2] at hl; omega
    obtain ⟨q1, q2, q3⟩ := Eu va n vc zs w hv (by omega) hT
    exact O5 _ _ _ _ va n vc w hm (teq _ _ _ (by decide)) (teq _ _ _ (by decide)) (teq _ _ _ (by decide)) (teq _ _ _ (by decide)) (teq _ _ _ (by decide)) (teq _ _ _ (by decide)) HFI (fun u hu => Xj _ zs nk w u hu hnk (by omega) hv hb) zs q1 q2 q3
  | 7, _ =>
    have hl' : n = 4 * nk := by rw [hwd] at hl; have e1 : mK 7 = 1 := rfl; have e2 : mM 7 = 0 := rfl; rw [e1, e2] at hl; omega
    exact Ju _ _ _ _ va n vc w hm (teq _ _ _ (by decide)) (teq _ _ _ (by decide)) (teq _ _ _ (by decide)) (teq _ _ _ (by decide)) (teq _ _ _ (by decide)) (teq _ _ _ (by decide)) HFI (fun u hu => Xj _ zs nk w u hu hnk (by omega) hv hb)
  | 8, _ =>
    have hl' : n = 2 * (4 * nk) := by rw [hwd] at hl; have e1 : mK 8 = 2 := rfl; have e2 : mM 8 = 0 := rfl; rw [e1, e2] at hl; omega
    obtain ⟨k1, c1, hs1, hv1⟩ := slH va n vc (4 * nk) w zs hv (by omega)
    obtain ⟨k2, c2, hs2, hv2⟩ := slL va n vc (4 * nk) w zs hv (by omega)
    exact Zck _ _ _ _ va n vc w hm (teq _ _ _ (by decide)) (teq _ _ _ (by decide)) (teq _ _ _ (by decide)) HFI (4 * nk) k1 k2 c1 c2 (by omega) hs1 hs2 (fun u hu => Xj _ (zs.take (4 * nk)) nk w u hu hnk (by simp; omega) hv1 (Xy hb _)) (fun u hu => Xj _ (zs.drop (4 * nk)) nk w u hu hnk (by simp; omega) hv2 (Qv hb _))
  | 9, _ =>
    have hl' : n = 4 * nk + 32 := by rw [hwd] at hl; have e1 : mK 9 = 1 := rfl; have e2 : mM 9 = 32 := rfl; rw [e1, e2] at hl; omega
    obtain ⟨k1, c1, hs1, hv1⟩ := slH va n vc (4 * nk) w zs hv (by omega)
    exact Zci _ _ _ _ va n vc w hm (teq _ _ _ (by decide)) (teq _ _ _ (by decide)) (teq _ _ _ (by decide)) (teq _ _ _ (by decide)) (teq _ _ _ (by decide)) HFI (4 * nk) (4 * nk + 16) k1 c1 (by rw [IntKind.wrap_i64]; omega) (by rw [IntKind.wrap_i64]; omega) (by omega) (by omega) hs1 (fun u hu => Xj _ (zs.take (4 * nk)) nk w u hu hnk (by simp; omega) hv1 (Xy hb _)) (fun u hu => Ip _ zs (4 * nk) w u hu hv (by omega) (by omega)) (fun u hu => Ip _ zs (4 * nk + 16) w u hu hv (by omega) (by omega))
  | 10, _ =>
    have hl' : n = 2 * (4 * nk) := by rw [hwd] at hl; have e1 : mK 10 = 2 := rfl; have e2 : mM 10 = 0 := rfl; rw [e1, e2] at hl; omega
    obtain ⟨k1, c1, hs1, hv1⟩ := slH va n vc (4 * nk) w zs hv (by omega)
    obtain ⟨k2, c2, hs2, hv2⟩ := slL va n vc (4 * nk) w zs hv (by omega)
    exact Mr _ _ _ _ va n vc w hm (teq _ _ _ (by decide)) (teq _ _ _ (by decide)) (teq _ _ _ (by decide)) (teq _ _ _ (by decide)) HFI (4 * nk) k1 k2 c1 c2 (by omega) hs1 hs2 (fun u hu => Xj _ (zs.take (4 * nk)) nk w u hu hnk (by simp; omega) hv1 (Xy hb _)) (fun u hu => Xj _ (zs.drop (4 * nk)) nk w u hu hnk (by simp; omega) hv2 (Qv hb _))
  | 11, _ =>
    have hl' : n = 2 * (4 * nk) := by rw [hwd] at hl; have e1 : mK 11 = 2 := rfl; have e2 : mM 11 = 0 := rfl; rw [e1, e2] at hl; omega
    obtain ⟨k1, c1, hs1, hv1⟩ := slH va n vc (4 * nk) w zs hv (by omega)
    obtain ⟨k2, c2, hs2, hv2⟩ := slL va n vc (4 * nk) w zs hv (by omega)
    exact Mr _ _ _ _ va n vc w hm (teq _ _ _ (by decide)) (teq _ _ _ (by decide)) (teq _ _ _ (by decide)) (teq _ _ _ (by decide)) HFI (4 * nk) k1 k2 c1 c2 (by omega) hs1 hs2 (fun u hu => Xj _ (zs.take (4 * nk)) nk w u hu hnk (by simp; omega) hv1 (Xy hb _)) (fun u hu => Xj _ (zs.drop (4 * nk)) nk w u hu hnk (by simp; omega) hv2 (Qv hb _))
  | 12, _ =>
    have hl' : n = 2 * (4 * nk) := by rw [hwd] at hl; have e1 : mK 12 = 2 := rfl; have e2 : mM 12 = 0 := rfl; rw [e1, e2] at hl; omega
    obtain ⟨k1, c1, hs1, hv1⟩ := slH va n vc (4 * nk) w zs hv (by omega)
    obtain ⟨k2, c2, hs2, hv2⟩ := slL va n vc (4 * nk) w zs hv (by omega)
    exact Mr _ _ _ _ va n vc w hm (teq _ _ _ (by decide)) (teq _ _ _ (by decide)) (teq _ _ _ (by decide)) (teq _ _ _ (by decide)) HFI (4 * nk) k1 k2 c1 c2 (by omega) hs1 hs2 (fun u hu => Xj _ (zs.take (4 * nk)) nk w u hu hnk (by simp; omega) hv1 (Xy hb _)) (fun u hu => Xj _ (zs.drop (4 * nk)) nk w u hu hnk (by simp; omega) hv2 (Qv hb _))
  | 13, _ =>
    have hl' : n = 2 * (4 * nk) := by rw [hwd] at hl; have e1 : mK 13 = 2 := rfl; have e2 : mM 13 = 0 := rfl; rw [e1, e2] at hl; omega
    obtain ⟨k1, c1, hs1, hv1⟩ := slH va n vc (4 * nk) w zs hv (by omega)
    obtain ⟨k2, c2, hs2, hv2⟩ := slL va n vc (4 * nk) w zs hv (by omega)
    obtain ⟨q1, q2, q3⟩ := Eu va n vc zs w hv (by omega) hT
    exact O4 _ _ _ _ va n vc w hm (teq _ _ _ (by decide)) (teq _ _ _ (by decide)) (teq _ _ _ (by decide)) (teq _ _ _ (by decide)) HFI (4 * nk) k1 k2 c1 c2 (by omega) hs1 hs2 (fun u hu => Xj _ (zs.take (4 * nk)) nk w u hu hnk (by simp; omega) hv1 (Xy hb _)) (fun u hu => Xj _ (zs.drop (4 * nk)) nk w u hu hnk (by simp; omega) hv2 (Qv hb _)) zs q1 q2 q3
  | 14, _ =>
    have hl' : n = 4 * nk + 16 := by rw [hwd] at hl; have e1 : mK 14 = 1 := rfl; have e2 : mM 14 = 16 := rfl; rw [e1, e2] at hl; omega
    obtain ⟨k1, c1, hs1, hv1⟩ := slH va n vc (4 * nk) w zs hv (by omega)
    exact Zcj _ _ _ _ va n vc w hm (teq _ _ _ (by decide)) (teq _ _ _ (by decide)) (teq _ _ _ (by decide)) (teq _ _ _ (by decide)) (teq _ _ _ (by decide)) (teq _ _ _ (by decide)) HFI (4 * nk) k1 c1 (by rw [IntKind.wrap_i64]; omega) (by omega) hs1 (fun u hu => Xj _ (zs.take (4 * nk)) nk w u hu hnk (by simp; omega) hv1 (Xy hb _)) (fun u hu => Ip _ zs (4 * nk) w u hu hv (by omega) (by omega))
  | 15, _ =>
    have hl' : n = 4 * nk := by rw [hwd] at hl; have e1 : mK 15 = 1 := rfl; have e2 : mM 15 = 0 := rfl; rw [e1, e2] at hl; omega
    exact Ju _ _ _ _ va n vc w hm (teq _ _ _ (by decide)) (teq _ _ _ (by decide)) (teq _ _ _ (by decide)) (teq _ _ _ (by decide)) (teq _ _ _ (by decide)) (teq _ _ _ (by decide)) HFI (fun u hu => Xj _ zs nk w u hu hnk (by omega) hv hb)
  | 16, _ =>
    have hl' : n = 4 * nk := by rw [hwd] at hl; have e1 : mK 16 = 1 := rfl; have e2 : mM 16 = 0 := rfl; rw [e1, e2] at hl; omega
    exact Ju _ _ _ _ va n vc w hm (teq _ _ _ (by decide)) (teq _ _ _ (by decide)) (teq _ _ _ (by decide)) (teq _ _ _ (by decide)) (teq _ _ _ (by decide)) (teq _ _ _ (by decide)) HFI (fun u hu => Xj _ zs nk w u hu hnk (by omega) hv hb)
  | q + 17, h => exact absurd h (by omega)
theorem Rs (j:Nat) (hj:j<52):∃ (M S:ByteArray) (a:Int),rwF j=[.string (spN j),.string M,.string S,.int .i64 a,.int .i64 (kyN j:Nat)]:=by
 rcases Vx j hj with rfl | ⟨i,k,hi,hk,rfl⟩
 ·exact ⟨_,_,_,rfl⟩
 ·rw[Cp i k hi hk,Qn i k hk,V8 i k hk];exact ⟨_,_,_,rfl⟩
structure Env (w:World) (G o cp:Nat):Prop where
 pow:Pow w
 md:Vo w G o cp
 tb:Dg.Tables w
 rt:Dg.RTab w
 rc:RC w
theorem Env.below {w w':World} {G o cp:Nat} (h:Env w G o cp) (b:Below w.heap.size w w'):Env w' G o cp:=
 ⟨h.pow.below b,h.md.below b,h.tb.below b h.tb.size,h.rt.kept fun k hk=>b.block k (by have:=h.rt.size;omega),h.rc.belowB b (by have:=h.tb.size;omega)⟩
open Go.ChangeShapes Go.WideShapes Go.ChangeAt Go.RowKit
theorem own:ownKnob Tryz.prog.godebug=none:=by kernel_rfl
theorem laidOut:laidOutB Tryz.prog=true:=by kernel_rfl
theorem E7:Tryz.prog.cellsOf 158=4:=by kernel_rfl
theorem Zdj:Tryz.prog.cellsOf 9=1:=by kernel_rfl
theorem cells3:Tryz.prog.cellsOf 3=1:=by kernel_rfl
theorem Zbz:Tryz.prog.underlying 157=some (.slice 158):=by kernel_rfl
theorem Nd {P : Program} {W : World} {laid : List (String × DataW Unit)} : ∀ {ps : List MemPlace}, DataW.LaidVars P W laid ps → ∀ n d, (n, d) ∈ laid → ∃ g t cs fuel p, P.globalNamed n = some g ∧ (P.globals[g]?).map (·.type) = some t ∧ W.var? P n = some cs ∧ DataW.trod (fun _ => ()) P W 0 (fun _ => true) false fuel t cs.toList = some (d, p) := by
  induction laid with
  | nil => intro ps h n d hm; cases hm
  | cons x r ih =>
    intro ps h n d hm
    obtain ⟨n', d'⟩ := x
    obtain ⟨g, t, cs, fuel, p, q, h1, h2, h3, h4, h5, _⟩ := h
    rcases List.mem_cons.1 hm with e | e
    · injection e with e1 e2
      subst e1 e2
      exact ⟨g, t, cs, fuel, p, h1, h2, h3, h4⟩
    · exact ih h5 n d e
def O2:List (DataW Unit):=match (Rows.laid_coffer_cofferref03_modes:DataW Unit) with
 | .slice l _=>l
 | _=>[]
theorem O1:(Rows.laid_coffer_cofferref03_modes:DataW Unit)=.slice O2 []:=rfl
theorem Pi:O2.length=17:=rfl
theorem row_of (k:Nat) (hk:k<17):∃ (n m s:List UInt8) (mo:Int),O2[k]?=some (.agg [.lit (.string n),.lit (.string m),.lit (.string s),.lit (.int .i64 mo)])∧B4.getD k []=[.string ⟨n.toArray⟩,.string ⟨m.toArray⟩,.string ⟨s.toArray⟩,.int .i64 mo]:=by
 match k,hk with
 | 0,_=>exact ⟨_,_,_,_,rfl,rfl⟩
 | 1,_=>exact ⟨_,_,_,_,rfl,rfl⟩
 | 2,_=>exact ⟨_,_,_,_,rfl,rfl⟩
 | 3,_=>exact ⟨_,_,_,_,rfl,rfl⟩
 | 4,_=>exact ⟨_,_,_,_,rfl,rfl⟩
 | 5,_=>exact ⟨_,_,_,_,rfl,rfl⟩
 | 6,_=>exact ⟨_,_,_,_,rfl,rfl⟩
 | 7,_=>exact ⟨_,_,_,_,rfl,rfl⟩
 | 8,_=>exact ⟨_,_,_,_,rfl,rfl⟩
 | 9,_=>exact ⟨_,_,_,_,rfl,rfl⟩
 | 10,_=>exact ⟨_,_,_,_,rfl,rfl⟩
 | 11,_=>exact ⟨_,_,_,_,rfl,rfl⟩
 | 12,_=>exact ⟨_,_,_,_,rfl,rfl⟩
 | 13,_=>exact ⟨_,_,_,_,rfl,rfl⟩
 | 14,_=>exact ⟨_,_,_,_,rfl,rfl⟩
 | 15,_=>exact ⟨_,_,_,_,rfl,rfl⟩
 | 16,_=>exact ⟨_,_,_,_,rfl,rfl⟩
 | n+17,h=>exact absurd h (by omega)
theorem Mg {H:Type} {enc:TypeId×Value→H} {W:World} {n:Nat} {c:Value} {y:DataW H×List MemPlace} {l:List UInt8} {held:Bool} (h:DataW.trod enc Tryz.prog W 0 (fun _=>true) held n 9 [c]=some y) (hy:y.1=.lit (.string l)):c=.string ⟨l.toArray⟩:=by
 obtain ⟨s,hz,hx,_⟩:=DataW.trod_string Tryz.underlying9 h
 rw[hx] at hy
 have e:s.data.toList=l:=by simpa using hy
 have hc:c=.string s:=by simpa using hz
 rw[hc,←e]
theorem Zcz {H:Type} {enc:TypeId×Value→H} {W:World} {n:Nat} {c:Value} {y:DataW H×List MemPlace} {z:Int} {held:Bool} (h:DataW.trod enc Tryz.prog W 0 (fun _=>true) held n 3 [c]=some y) (hy:y.1=.lit (.int .i64 z)):c=.int .i64 z:=by
 obtain ⟨s,hz,hx,_⟩:=DataW.trod_int Tryz.underlying3 h
 rw[hx] at hy
 have e:s=z:=by simpa using hy
 have hc:c=.int .i64 s:=by simpa using hz
 rw[hc,e]
set_option maxRecDepth 100000 in
theorem Zer {W : World} {laid : List (String × DataW Unit)} (h : laidMet Tryz.prog laid W) (hm : ("coffer/cofferref03.modes", Rows.laid_coffer_cofferref03_modes) ∈ laid) : ∃ G o cp, Vo W G o cp := by
  rw [O1] at hm
  obtain ⟨ps, hL, _⟩ := h
  obtain ⟨g', t', cs, fuel, p, hg', ht', hvar, hd⟩ := Nd hL _ _ hm
  have hg : Tryz.prog.globalNamed "coffer/cofferref03.modes" = some 0 := by kernel_rfl
  obtain rfl := Option.some.inj (hg.symm.trans hg')
  have hty : (Tryz.prog.globals[0]?).map (·.type) = some 157 := by kernel_rfl
  obtain rfl := Option.some.inj (hty.symm.trans ht')
  rcases Deep.open_slice Zbz hd with ⟨hcs, hx⟩ | ⟨a, len, cap, m, n, D, Pl, hcs, hb, hl, hm, hmm, hx, hc⟩
  · cases hx
  · simp only [if_true] at hmm
    subst hmm
    have hD : O2 = (List.range len).map D := by
      have := congrArg Prod.fst hx
      simp only [DataW.slice.injEq] at this
      exact this.1
    have hlen : len = 17 := by
      have := congrArg List.length hD
      simp [Pi] at this
      omega
    subst hlen
    have hcell : ∀ i, i < 17 → ∀ j, j < 4 → W.cell? ((a.add (i * 4)).add j) = (B4.getD i [])[j]? := fun i hi => by
      obtain ⟨cs', h1, h2⟩ := hc i (by omega)
      rw [E7] at h1
      obtain ⟨_, hlen, hcc⟩ := World.cells?_some h1
      obtain ⟨ys, k2, _, hx2, _, hyl, hfs⟩ := DataW.trod_struct Tryz.underlying158 h2
      obtain ⟨nm, md, st, mo, r1, r2⟩ := row_of i hi
      have hDi : D i = .agg [.lit (.string nm), .lit (.string md), .lit (.string st), .lit (.int .i64 mo)] := by
        rw [hD] at r1
        simpa [List.getElem?_map, List.getElem?_range hi] using r1
      match cs', hlen with
      | [v0, v1, v2, v3], _ =>
        match ys, hyl with
        | [y0, y1, y2, y3], _ =>
          have k0 := hfs 0 _ rfl
          have k1 := hfs 1 _ rfl
          have k2 := hfs 2 _ rfl
          have k3 := hfs 3 _ rfl
          simp [cells3, Zdj] at k0 k1 k2 k3
          have hDe : D i = .agg [y0.1, y1.1, y2.1, y3.1] := by simpa using congrArg Prod.fst hx2
          rw [hDi] at hDe
          simp only [DataW.agg.injEq, List.cons.injEq, and_true] at hDe
          obtain ⟨e0, e1, e2, e3⟩ := hDe
          obtain rfl := Mg k0 e0.symm
          obtain rfl := Mg k1 e1.symm
          obtain rfl := Mg k2 e2.symm
          obtain rfl := Zcz k3 e3.symm
          intro j hj
          rw [r2]
          exact hcc j (by omega)
    obtain ⟨G, o, spot⟩ := a
    have hc0 := hcell 0 (by decide) 0 (by decide)
    obtain ⟨_, _, _, _, _, r2⟩ := row_of 0 (by decide)
    rw [r2] at hc0
    have hspot : spot = none := by simpa [Addr.add] using World.cell?_spot hc0
    subst hspot
    have hv : W.cell? ⟨0, 0, none⟩ = some (.slice (some ⟨G, o, none⟩) 17 m) := by
      rw [World.var?_cell hg hvar 0]
      have : cs = #[.slice (some ⟨G, o, none⟩) 17 m] := by
        cases cs
        simpa using hcs
      rw [this]
      rfl
    refine ⟨G, o, m, hv, World.block_lt_of_cell? W _ hv, by simpa [Addr.add] using World.block_lt_of_cell? W _ hc0, fun k hk j hj => ?_⟩
    have q := hcell k hk j hj
    rw [Addr.add_lit, Addr.add_lit] at q
    exact q
theorem Wp {W:World} {laid:List (String×DataW Unit)} (h:laidMet Tryz.prog laid W) (k:IntKind) (name:String) (zs:List Int) (g:Nat) (t e:TypeId) (n:Nat) (hm:(name,Lib.tabData k zs)∈laid) (hg:Tryz.prog.globalNamed name=some g) (hty:(Tryz.prog.globals[g]?).map (·.type)=some t) (ht:Tryz.prog.underlying t=some (.array n e)) (he:Tryz.prog.underlying e=some (.int k)) (hc:Tryz.prog.cellsOf e=1) (hct:Tryz.prog.cellsOf t=n):Lib.TabIs Tryz.prog W name k zs:=by
 obtain ⟨ps,hL,_⟩:=h
 obtain ⟨g',t',cs,fuel,p,hg',ht',hvar,hd⟩:=Nd hL name _ hm
 obtain rfl:=Option.some.inj (hg.symm.trans hg')
 obtain rfl:=Option.some.inj (hty.symm.trans ht')
 unfold Lib.TabIs
 rw[hvar,←Lib.cells_of_tab (n:=n) (e:=e) ht he hc hct hd]
def Rv:List Int:=[1,2,4,8,16,32,64,128,27,54]
theorem O3:∀ i:Fin 10,Rv.getD i.1 0=(rcT i.1:Nat):=by decide +kernel
theorem Zdc {W:World} {laid:List (String×DataW Unit)} (h:laidMet Tryz.prog laid W) (h1:("coffer/digest.roots",Lib.tabData .u64 Dg.Vg)∈laid) (h2:("coffer/digest.cubes",Lib.tabData .u64 Dg.Vl)∈laid) (h3:("coffer/cofferref01.squares",Lib.tabData .u64 Dg.Vg)∈laid) (h4:("coffer/cofferref01.cubes",Lib.tabData .u64 Dg.Vl)∈laid)
  (h5:("coffer/rijndael.rcon",Lib.tabData .u8 Rv)∈laid) (h6:("internal/strconv.uint64pow10",Lib.tabData .u64 Lib.pow10Tab)∈laid) (h7:("coffer/cofferref03.modes",Rows.laid_coffer_cofferref03_modes)∈laid):∃ G o cp,Env W G o cp:=by
 obtain ⟨G,o,cp,hD⟩:=Zer h h7
 have r:=Wp h .u64 "coffer/digest.roots" Dg.Vg 4 195 25 16 h1 (by kernel_rfl) (by kernel_rfl) (by kernel_rfl) (by kernel_rfl) (by kernel_rfl) (by kernel_rfl)
 have c:=Wp h .u64 "coffer/digest.cubes" Dg.Vl 5 197 25 80 h2 (by kernel_rfl) (by kernel_rfl) (by kernel_rfl) (by kernel_rfl) (by kernel_rfl) (by kernel_rfl)
 have r':=Wp h .u64 "coffer/cofferref01.squares" Dg.Vg 2 195 25 16 h3 (by kernel_rfl) (by kernel_rfl) (by kernel_rfl) (by kernel_rfl) (by kernel_rfl) (by kernel_rfl)
 have c':=Wp h .u64 "coffer/cofferref01.cubes" Dg.Vl 3 197 25 80 h4 (by kernel_rfl) (by kernel_rfl) (by kernel_rfl) (by kernel_rfl) (by kernel_rfl) (by kernel_rfl)
 have rc:=Wp h .u8 "coffer/rijndael.rcon" Rv 1 167 5 10 h5 (by kernel_rfl) (by kernel_rfl) (by kernel_rfl) (by kernel_rfl) (by kernel_rfl) (by kernel_rfl)
 have pw:=Wp h .u64 "internal/strconv.uint64pow10" Lib.pow10Tab 6 280 25 20 h6 (by kernel_rfl) (by kernel_rfl) (by kernel_rfl) (by kernel_rfl) (by kernel_rfl) (by kernel_rfl)
 refine ⟨G,o,cp,pw,hD,⟨fun t ht=>c.cell (by kernel_rfl) t (by simpa [Dg.Vl] using ht),fun t ht=>r.cell (by kernel_rfl) t (by simpa [Dg.Vg] using ht)⟩,⟨fun t ht=>c'.cell (by kernel_rfl) t (by simpa [Dg.Vl] using ht),fun t ht=>r'.cell (by kernel_rfl) t (by simpa [Dg.Vg] using ht)⟩,fun i hi=>?_⟩
 have hc:=rc.cell (g:=1) (by kernel_rfl) i (by simpa [Rv] using hi)
 rw[hc,←O3 ⟨i,hi⟩]
theorem cells5:Tryz.prog.cellsOf 5=1:=by kernel_rfl
theorem Fv {H : Type} {enc : TypeId × Value → H} {W : World} {a : Option Addr} {len cap : Nat} {d : DataW H} {p : List MemPlace}
    (h : DataW.Trod enc Tryz.prog W 0 (fun _ => true) true 22 (.slice a len cap) d p) :
    ∃ xs : List Int, xs.length = len ∧ Zg xs ∧ Zi W (.slice a len cap) xs ∧ (d = .nil ∧ xs = [] ∨ ∃ sp, d = .slice (lits .u8 xs) sp) := by
  obtain ⟨fuel, hf⟩ := h
  rcases open_ints Tryz.underlying22 Tryz.underlying5 cells5 hf with ⟨hcs, hx⟩ | ⟨x, l, c, zs, hcs, _, hl, hm, hz, hx, hcell, hwz⟩
  · simp [Value.cells] at hcs
    obtain ⟨rfl, rfl, rfl⟩ := hcs
    simp only [Prod.mk.injEq] at hx
    refine ⟨[], rfl, fun i => by simp, ⟨none, 0, rfl, Nat.le_refl _, by simp, fun _ => rfl, .inl rfl⟩, .inl ⟨hx.1, rfl⟩⟩
  · simp [Value.cells] at hcs
    obtain ⟨rfl, rfl, rfl⟩ := hcs
    simp only [Prod.mk.injEq] at hx
    have hzl : zs.length = cap := by simpa using hz
    have hlen : (zs.take len).length = len := by simp; omega
    have hw : ∀ n ∈ zs, 0 ≤ n ∧ n < 256 := by
      intro n hn
      have := hwz n hn
      have h1 : IntKind.u8.min = 0 := rfl
      have h2 : IntKind.u8.max = 255 := rfl
      simp only [Lit.wf, Bool.and_eq_true, decide_eq_true_eq] at this
      omega
    refine ⟨zs.take len, hlen, ?_, ⟨some x, cap, by rw [hlen], by omega, hm, (fun h => by cases h), ?_⟩, .inr ⟨_, hx.1⟩⟩
    · intro i
      rw [List.getD_eq_getElem?_getD]
      cases hg : (zs.take len)[i]? with
      | none => simp
      | some n =>
        have hn : n ∈ zs := List.mem_of_mem_take (List.mem_of_getElem? hg)
        simpa using hw n hn
    · by_cases h0 : len = 0
      · left
        subst h0
        simp
      · right
        obtain ⟨b, off, spot⟩ := x
        have hc0 := hcell 0 (by omega)
        have hspot : spot = none := by simpa [Addr.add] using World.cell?_spot hc0
        subst hspot
        refine ⟨b, off, rfl, fun i hi => ?_⟩
        rw [hlen] at hi
        have := hcell i (by omega)
        rw [Addr.add_lit] at this
        rw [this]
        congr 2
        simp [List.getD_eq_getElem?_getD, hi]
theorem Xo {P:Program} {fn:Func} {p:Tmp} {ty:TypeId} {d:TypeDesc} {Q:Ending→World→Prop} {tmps:Array Value} {w:World} {b:Nat} (cs:List Value) (h:fn.results=#[.cell p ty])
 (hp:tmps.getD p undef=.pointer (some ⟨b,0,none⟩)) (hr:w.rangeAt b 0 cs) (hu:P.underlying ty=some d) (hd:d.isRow=true) (hi:(P.info? ty).map (·.size)=some cs.length)
 (hq:Q (.returned (.agg cs.toArray)) w):bodyPost P fn Q .ret ⟨tmps,[]⟩ w:=Z4 cs h hp hr hu hd hi hq
set_option maxHeartbeats 1600000 in
set_option maxRecDepth 100000 in
theorem Rx (nm:Int) (j:Nat) (a:Option Addr) (n c:Nat) (w:World) (G o cp:Nat) (hD:Vo w G o cp) (hj:j<52) (hc:IntKind.u64.wrap nm%52=(j:Int)) :
  Calls Tryz.prog 27 #[.agg #[.int .i64 nm,.slice a n c]] w fun e w'=>Hid (e=.returned (.agg (rwF j).toArray)∧Below w.heap.size w w'):=by
 obtain ⟨x,hx⟩:∃ x,IntKind.u64.wrap nm=x:=⟨_,rfl⟩
 rw[hx] at hc
 have hx0:0≤x:=by rw[←hx];unfold IntKind.wrap;simp [IntKind.signed,IntKind.bits];omega
 have htm:x.tmod 52=(j:Int):=by rw[Int.tmod_eq_emod_of_nonneg hx0];exact hc
 have hwj:wrap64 (j:Int)=(j:Int):=by unfold wrap64;omega
 clear hc hx0
 obtain ⟨w1,hw1⟩:∃ w1,w1=(w.alloc (.cells #[.int .i64 nm,.slice a n c] 24)).alloc (.cells zRw.toArray 59):=⟨_,rfl⟩
 have hb1:Below w.heap.size w w1:=by rw[hw1];exact ((Below.refl _ _).alloc (Nat.le_refl _) _).alloc (by simp) _
 have HB1:Hid (Bx w1 w.heap.size 24 [.int .i64 nm,.slice a n c]∧Bx w1 (w.heap.size+1) 59 zRw∧Below w.heap.size w w1):=by
  refine ⟨?_,?_,hb1⟩
  ·rw[hw1];exact (Bx.new w 24 [.int .i64 nm,.slice a n c]).below ((Below.refl _ _).alloc (Nat.le_refl _) _)
  ·rw[hw1];have q:=Bx.new (w.alloc (.cells #[.int .i64 nm,.slice a n c] 24)) 59 zRw;simpa using q
 have H42:Hid (Calls Tryz.prog 45 #[] ((w.alloc (.cells #[.int .i64 nm,.slice a n c] 24)).alloc (.cells #[.string ⟨#[]⟩,.string ⟨#[]⟩,.string ⟨#[]⟩,.int .i64 0,.int .i64 0] 59)) fun e w'=>Hid (∃ g cap,e=.returned (.slice (some ⟨g,0,none⟩) 52 cap)∧w'.ownsRow w1.heap.size 59 5 (.slice (some ⟨g,0,none⟩) 52 cap) 52 (fl rwF 52)∧Below w1.heap.size w1 w')):=by
  have q:=rows_ok w1 G o cp (hD.below hb1)
  have e:w1=(w.alloc (.cells #[.int .i64 nm,.slice a n c] 24)).alloc (.cells #[.string ⟨#[]⟩,.string ⟨#[]⟩,.string ⟨#[]⟩,.int .i64 0,.int .i64 0] 59):=hw1
  rw[←e]
  exact q
 have HW1:Hid (w1.heap.size=w.heap.size+1+1):=(by rw[hw1];simp:w1.heap.size=w.heap.size+1+1)
 clear hw1 hb1 hD
 go_enter Tryz.func27,Tryz.ntmps27
 go_upto_region 2 with (go_at_call 45;refine H42.out.mono ?_;intro e2 w2 hh;obtain ⟨g,cap,rfl,ho,hb⟩:=hh.out;have HB2:Hid (w2.ownsRow w1.heap.size 59 5 (.slice (some ⟨g,0,none⟩) 52 cap) 52 (fl rwF 52)∧Below w1.heap.size w1 w2):=⟨ho,hb⟩;clear hh ho hb H42)
 obtain ⟨m,HM⟩:∃ m,Hid (w.heap.size=m):=⟨_,rfl⟩
 rw[HM.out] at HB1 HW1 ⊢
 have HX2:Hid (Bx w2 m 24 [.int .i64 nm,.slice a n c]∧Bx w2 (m+1) 59 zRw∧Below m w w2):=⟨HB1.out.1.below HB2.out.2,HB1.out.2.1.below HB2.out.2,HB1.out.2.2.trans (HB2.out.2.mono (by have:=HB1.out.1.lt;omega))⟩
 have d0:w2.cell? ⟨m,0,none⟩=some (.int .i64 nm):=HX2.out.1.cell 0 _ rfl
 obtain ⟨M,T,aa,s,hrow⟩:=U7 j hj
 have HROW:Hid (rwF j=[.string (spN j),.string M,.string T,.int .i64 aa,.int .i64 s]):=hrow
 obtain ⟨NM,HNM⟩:∃ q,Hid (spN j=q):=⟨_,rfl⟩
 rw[HNM.out] at hrow
 have cs:∀ q,q<5→w2.cell? ⟨g,j*5+q,none⟩=(rwF j)[q]?:=fun q hq=>rwc HB2.out.1 (Below.refl _ _) hj hq
 rw[hrow] at cs
 have c0:=cs 0 (by decide)
 have c1:=cs 1 (by decide)
 have c2:=cs 2 (by decide)
 have c3:=cs 3 (by decide)
 have c4:=cs 4 (by decide)
 clear cs hrow
 simp only[List.getElem?_cons_zero,List.getElem?_cons_succ,Nat.add_zero] at c0 c1 c2 c3 c4
 have g0:(0:Int)≤(j:Int):=by omega
 have g1:(j:Int)<52:=by omega
 have e52:IntKind.u64.wrap 52=52:=by decide
 have ej:IntKind.i64.wrap (j:Int)=(j:Int):=by rw[IntKind.wrap_i64];omega
 go_wp2_with (refine Zm (by rfl) 59 (.tmp 2) (.tmp 15) (by rfl) zRw [.string NM,.string M,.string T,.int .i64 aa,.int .i64 s] (m+1) (by rfl) (by rfl) HX2.out.2.1 rfl (by kernel_rfl) (by simp [Value.oneCell']) ?_;intro u9 hb9 hg9)
 refine Xo (b:=m+1) [.string NM,.string M,.string T,.int .i64 aa,.int .i64 s] rfl rfl hb9.range Tryz.underlying59 rfl (by kernel_rfl) ⟨by rw[HROW.out,HNM.out],?_⟩
 have hfin:Below m w u9:=HX2.out.2.2.trans (Yi hg9 (by have:=HX2.out.2.1.lt;omega) (by omega))
 first | exact hfin | (rw[HM.out];exact hfin)
theorem Zc9 (A M T:ByteArray) (a b:Int) (w:World):(Instr.field 59 (.agg #[.string A,.string M,.string T,.int .i64 a,.int .i64 b]) 4).run Tryz.prog w=.ok (.int .i64 b) w:=by kernel_rfl
theorem Zda (A M T:ByteArray) (a b:Int) (w:World):(Instr.field 59 (.agg #[.string A,.string M,.string T,.int .i64 a,.int .i64 b]) 0).run Tryz.prog w=.ok (.string A) w:=by kernel_rfl
theorem one_cell (w:World) (z:Value) (e:TypeId):∀ (j:Nat) (u:Value),[z][j]?=some u→(w.alloc (.cells #[z] e)).cell? ((⟨w.heap.size,0,none⟩:Addr).add j)=some u:=by
 intro j u hj
 match j,hj with
 | 0,hj=>simp at hj;subst hj;simp [Addr.add]
theorem Ws (z:Int):∀ u∈[Value.int .u8 z],u.oneCell'=true:=by intro u hu;simp at hu;subst hu;rfl
def kyL (bs:List Int) (m:Nat):List Int:=(List.range m).map fun i=>if bs=[] then ((7*i%256:Nat):Int) else bs.getD (i%bs.length) 0
theorem Jw (bs:List Int) (m:Nat):(kyL bs m).length=m:=by simp [kyL]
theorem P9 (bs:List Int) (m:Nat):kyL bs (m+1)=kyL bs m++[if bs=[] then ((7*m%256:Nat):Int) else bs.getD (m%bs.length) 0]:=by simp [kyL,List.range_succ]
theorem Kv {bs : List Int} (h : Zg bs) (m : Nat) : Zg (kyL bs m) := fun i => by
  rw [List.getD_eq_getElem?_getD, kyL, List.getElem?_map]
  cases (List.range m)[i]? with
  | none => simp
  | some q =>
    simp only [Option.map_some, Option.getD_some]
    split
    · omega
    · exact h _
structure KyI (w:World) (m:Nat) (nm:Int) (x:Value) (bs:List Int) (wr:World) (v:Value) (k:Nat):Prop where
 own:wr.ownsRow (m+1) 5 1 v k (Za (kyL bs k))
 box:Bx wr m 24 [.int .i64 nm,x]
 bel:Below m w wr
theorem KyI.step {w:World} {m:Nat} {nm:Int} {x:Value} {bs:List Int} {wr w2:World} {v v2:Value} {k:Nat} {z:Int} (h:KyI w m nm x bs wr v k) (o:Obj) (hz:(if bs=[] then ((7*k%256:Nat):Int) else bs.getD (k%bs.length) 0)=z) (ho:w2.ownsRow (m+1) 5 1 v2 (k+1) (Za (kyL bs k)++[.int .u8 z])) (hg:(wr.alloc o).grownBy w2 v.ownBlock):KyI w m nm x bs w2 v2 (k+1):=by
 have hm:=h.box.lt
 have hb:Below (m+1) wr w2:=((Below.refl (m+1) wr).alloc (by omega) o).grown hg (by simp;omega) (fun q hq=>(Z2 h.own hq).1)
 refine ⟨?_,h.box.keep (hb.block m (by omega)),h.bel.trans (hb.mono (by omega))⟩
 rw[P9,hz,Xm]
 exact ho
set_option maxHeartbeats 1600000 in
set_option maxRecDepth 100000 in
theorem O7 (nm : Int) (j : Nat) (v : Value) (bs : List Int) (w : World) (G o cp : Nat) (hD : Vo w G o cp) (hj : j < 52) (hc : IntKind.u64.wrap nm % 52 = (j : Int)) (hv : Zi w v bs) :
    Calls Tryz.prog 18 #[.agg #[.int .i64 nm, v]] w fun e w' => Hid (∃ y d, e = .returned (.slice y (kyN j) d) ∧ Zi w' (.slice y (kyN j) d) (kyL bs (kyN j)) ∧ Below w.heap.size w w') := by
  obtain ⟨i0, hi, hz0, hz1, hz2⟩ := info_parts Tryz.info5
  have HI0 : Hid (Tryz.prog.info? 5 = some i0 ∧ i0.zero = some (.int .u8 0) ∧ i0.size = 1 ∧ i0.bytes = 1) := ⟨hi, hz0, hz1, hz2⟩
  clear hi hz0 hz1 hz2
  obtain ⟨M, T, aa, hrow⟩ := Rs j hj
  have HV : Hid (Zi w v bs) := hv
  obtain ⟨a, c, rfl, h1, h2, h3, h4⟩ := hv
  obtain ⟨n, HNL⟩ : ∃ n, Hid (bs.length = n) := ⟨_, rfl⟩
  have hky : kyN j ≤ 1000 := by
    rcases Vx j hj with rfl | ⟨i, k, hi, hk, rfl⟩
    · decide
    · rw [V8 i k hk]
      have : mK k * (16 + 8 * i) ≤ 2 * 32 := Nat.mul_le_mul (R6 k) (by omega)
      have := R5 k
      omega
  obtain ⟨kz, HKZ⟩ : ∃ kz, Hid (kyN j = kz) := ⟨_, rfl⟩
  rw [HKZ.out] at hky hrow ⊢
  rw [HNL.out] at h1 HV ⊢
  have H52 : Hid (∀ u, Below w.heap.size w u → Calls Tryz.prog 27 #[.agg #[.int .i64 nm, .slice a n c]] u fun e w' => Hid (e = .returned (.agg #[.string (spN j), .string M, .string T, .int .i64 aa, .int .i64 (kz : Nat)]) ∧ Below u.heap.size u w')) := fun u hu => by
    have q := Rx nm j a n c u G o cp (hD.below hu) hj hc
    rw [hrow] at q
    exact q
  have HCC : Hid (bs = [] ∨ ∃ b off, a = some ⟨b, off, none⟩ ∧ ∀ i, i < bs.length → w.cell? ⟨b, off + i, none⟩ = some (.int .u8 (bs.getD i 0))) := h4
  clear h1 h2 h3 h4 hD hj hc hrow
  obtain ⟨w1, hw1⟩ : ∃ w1, w1 = w.alloc (.cells #[.int .i64 nm, .slice a n c] 24) := ⟨_, rfl⟩
  have HB1 : Hid (Bx w1 w.heap.size 24 [.int .i64 nm, .slice a n c] ∧ Below w.heap.size w w1) := by rw [hw1]; exact ⟨Bx.new w 24 _, (Below.refl _ _).alloc (Nat.le_refl _) _⟩
  have hfl := fun u => Zc9 (spN j) M T aa (kz : Nat) u
  go_enter Tryz.func18, Tryz.ntmps18
  go_upto_region 1 with fail
  rw [← hw1]
  clear hw1
  obtain ⟨m, HM⟩ : ∃ m, Hid (w.heap.size = m) := ⟨_, rfl⟩
  rw [HM.out] at HB1 H52 ⊢
  go_upto_region 4 with (first
    | (refine wpList_load_mid (by rfl) 24 (.tmp 1) (by rfl) m 0 (by rfl) [.int .i64 nm, .slice a n c] _ HB1.out.1.range Tryz.underlying24 rfl (by kernel_rfl) ?_)
    | (go_at_call 27; refine (H52.out _ HB1.out.2).mono ?_; intro e2 w2 hh; obtain ⟨rfl, hb⟩ := hh.out; have HB2 : Hid (Bx w2 m 24 [.int .i64 nm, .slice a n c] ∧ Below m w w2) := ⟨HB1.out.1.below hb, HB1.out.2.trans (hb.mono (by have := HB1.out.1.lt; omega))⟩; clear hh hb H52))
  clear hfl
  go_loopw [4, 5] (fun v vi wr => ∃ k : Nat, vi = .int .i64 (k : Nat) ∧ k ≤ kz ∧ Hid (KyI w m nm (.slice a n c) bs wr v k)) (fun _ vi _ => kz - (intOf vi).toNat)
  case atStart => exact ⟨0, rfl, by omega, World.ownsRow_nil _ _ _ _, HB2.out.1, HB2.out.2⟩
  case round =>
    obtain ⟨k, rfl, hk, HR⟩ := hrel
    clear HB2
    by_cases hlt : k < kz
    · have g1 : (k : Int) < (kz : Int) := by omega
      have d1 : wr.cell? ⟨m, 1, none⟩ = some (.slice a n c) := HR.out.box.cell 1 _ rfl
      have HLM : Hid (m < wr.heap.size) := HR.out.box.lt
      by_cases hb0 : bs = []
      · have HB0 : Hid (bs = []) := hb0
        have hn0 : n = 0 := by have := HNL.out; rw [hb0] at this; simpa using this.symm
        clear hb0
        subst hn0
        obtain ⟨z, HZ⟩ : ∃ z : Int, Hid (z = ((7 * k % 256 : Nat) : Int)) := ⟨_, rfl⟩
        have hz : IntKind.u8.wrap (7 * (k : Int)) = z := by rw [HZ.out, IntKind.wrap_u8]; omega
        have hw7 : IntKind.i64.wrap (7 * (k : Int)) = 7 * (k : Int) := by rw [IntKind.wrap_i64]; omega
        go_wp2_with (first
          | (at_builtin; go_must (refine wpList_append_own _ rfl (.tmp 18) (.tmp 22) 22 rfl (m + 1) 5 i0 (.int .u8 0) 1 1 Tryz.underlying22 HI0.out.1 HI0.out.2.1 HI0.out.2.2.1 HI0.out.2.2.2 rfl (by decide) _ _ _ rfl (HR.out.own.alloc _) ⟨wr.heap.size, 0, none⟩ 1 1 [.int .u8 z] rfl rfl (one_cell wr _ 5) (Ws z) (by unfold maxLen; omega) (by omega) (by have := HLM.out; simp; omega) ?_; intro v2 w2 hown hgrow hnil; have HX : Hid (KyI w m nm (.slice a 0 c) bs w2 v2 (k + 1)) := HR.out.step _ (by rw [if_pos HB0.out, HZ.out]) hown hgrow; clear hown hgrow hnil)))
        exact ⟨⟨k + 1, by simp, by omega, HX⟩, by simp [intOf]; omega⟩
      · obtain ⟨b, off, rfl, hcell⟩ := HCC.out.resolve_left hb0
        have HB0 : Hid (bs ≠ []) := hb0
        have hn1 : 0 < n := by have := HNL.out; cases bs with | nil => exact absurd rfl hb0 | cons _ _ => simp at this; omega
        clear hb0
        obtain ⟨q, HQ⟩ : ∃ q : Nat, Hid (q = k % n) := ⟨_, rfl⟩
        have hqn : q < n := by rw [HQ.out]; exact Nat.mod_lt _ hn1
        obtain ⟨z, HZ⟩ : ∃ z : Int, Hid (bs.getD q 0 = z) := ⟨_, rfl⟩
        have HCL : Hid (∀ u : World, Below m w u → u.cell? ⟨b, off + q, none⟩ = some (.int .u8 z)) := fun u hu => by
          have p := hcell q (by rw [HNL.out]; exact hqn)
          rw [hu.cell (by have := World.block_lt_of_cell? w _ p; rw [HM.out] at this; exact this), p, HZ.out]
        have c1 := HCL.out wr HR.out.bel
        clear hcell
        have hmod : (k : Int).tmod (n : Int) = (q : Int) := by rw [HQ.out, Int.tmod_eq_emod_of_nonneg (by omega)]; omega
        have hne : ((n : Int) == 0) = false := by simp; omega
        have hn2 : (n : Int) ≠ 0 := by omega
        have k0 : (0 : Int) ≤ (q : Int) := by omega
        have k1 : (q : Int) < (n : Int) := by omega
        have hn3 : ¬ n = 0 := by omega
        go_upto_region 8 with fail
        have HN1 : Hid (k + 1 ≤ maxLen) := (by unfold maxLen; omega : k + 1 ≤ maxLen)
        have HN2 : Hid ((k + 1) * 1 ≤ 140737488355328) := (by omega : (k + 1) * 1 ≤ 140737488355328)
        have HOD : Hid (wr.drew.ownsRow (m + 1) 5 1 u4 k (Za (kyL bs k))) := ownsRow_below HR.out.own (Below.refl _ _).drew
        go_region_held3 (fun u => u.cell? ⟨m, 1, none⟩ = some (.slice (some ⟨b, off, none⟩) n c) ∧ u.cell? ⟨b, off + q, none⟩ = some (.int .u8 z)) (first | exact ⟨d1, c1⟩ | exact hS5 | go_keep)
          ((refine step_append_lies _ ?q1 (.tmp 24) (.tmp 34) 22 ?q2 (m + 1) 5 i0 _ 1 1 Tryz.underlying22 HI0.out.1 HI0.out.2.1 HI0.out.2.2.1 HI0.out.2.2.2 ?q3 (Nat.succ_pos 0) u4 k (Za (kyL bs k)) ?q4 (HOD.out.alloc _) ⟨wr.drew.heap.size, 0, none⟩ 1 1 [.int .u8 z] ?q5 ?q6 (one_cell wr.drew _ 5) (Ws z) (Nat.succ_pos 0) HN1.out HN2.out ?q7 (wr.heap.size + 1) ?q8 ?q9
            case q1 => rfl
            case q2 => rfl
            case q3 => rfl
            case q4 => rfl
            case q5 => rfl
            case q6 => rfl
            case q7 => (have := HLM.out; simp; omega)
            case q8 => simp
            intro gg cap w5 hown5 hgrow hat hlt5
            have HX : Hid (KyI w m nm (.slice (some ⟨b, off, none⟩) n c) bs w5 (.slice (some ⟨gg, 0, none⟩) (k + 1) cap) (k + 1)) := (KyI.step (wr := wr.drew) ⟨HOD.out, HR.out.box.below (Below.refl _ _).drew, HR.out.bel.drew⟩ _ (by rw [if_neg HB0.out, HNL.out, ← HQ.out, HZ.out]) hown5 hgrow)
            have hS5 : w5.cell? ⟨m, 1, none⟩ = some (.slice (some ⟨b, off, none⟩) n c) ∧ w5.cell? ⟨b, off + q, none⟩ = some (.int .u8 z) := ⟨HX.out.box.cell 1 _ rfl, HCL.out w5 HX.out.bel⟩))
        clear hown5 hgrow hat hlt5 hS5
        go_wp2
        exact ⟨⟨k + 1, by simp, by omega, HX⟩, by simp [intOf]; omega⟩
    · have g1 : ¬ (k : Int) < (kz : Int) := by omega
      have HF : Hid (wr.ownsRow (m + 1) 5 1 u4 kz (Za (kyL bs kz)) ∧ Below m w wr) := by
        obtain ⟨p1, p2, p3⟩ := HR.out
        rw [show k = kz by omega] at p1
        exact ⟨p1, p3⟩
      clear HR
      obtain ⟨xa, xl, xc, rfl⟩ : ∃ x l c, u4 = .slice x l c := by rcases HF.out.1.2 with ⟨q, _⟩ | ⟨_, _, _, q, _⟩ <;> exact ⟨_, _, _, q⟩
      go_wp2
      go_ret
      have hv := Xz HF.out.1 (Jw bs kz)
      obtain ⟨a2, c2, e2, _⟩ := id hv
      rw [Jw] at e2
      injection e2 with e3 e4 e5
      subst e4
      exact ⟨xa, xc, rfl, hv, by first | exact HF.out.2 | (rw [HM.out]; exact HF.out.2)⟩
theorem Zcm (x:Int) (N k:Nat) (h0:0≤x) (hN:x%3000=(N:Int)) (hk:0<k) (y:Nat) (hy:y≤17):N<3000∧x.tmod 3000=(N:Int)∧(N:Int).tmod (k:Int)=((N%k:Nat):Int)∧(N:Int).tdiv (k:Int)=((N/k:Nat):Int)∧N/k<3000∧((N/k:Nat):Int).tmod 3=((N/k%3:Nat):Int)∧N/k%3<3:=by
 have h1:N/k≤N:=Nat.div_le_self _ _
 refine ⟨by omega,?_,?_,?_,by omega,?_,by omega⟩
 ·rw[Int.tmod_eq_emod_of_nonneg h0];exact hN
 ·rw[Int.tmod_eq_emod_of_nonneg (Int.natCast_nonneg _)];rfl
 ·rw[Int.tdiv_eq_ediv_of_nonneg (Int.natCast_nonneg _)];rfl
 ·rw[Int.tmod_eq_emod_of_nonneg (Int.natCast_nonneg _)];rfl
theorem Zel (N r t y:Nat) (h1:N<3000) (h2:r<3000) (h3:t<3) (h4:y≤17):IntKind.i64.wrap (N:Int)=(N:Int)∧wrap64 (N:Int)=(N:Int)∧IntKind.i64.wrap (r:Int)=(r:Int)∧wrap64 (r:Int)=(r:Int)∧IntKind.i64.wrap (17*(t:Int))=17*(t:Int)∧IntKind.i64.wrap ((y:Int)+17*(t:Int))=(y:Int)+17*(t:Int)∧wrap64 (17*(t:Int))=17*(t:Int)∧wrap64 ((y:Int)+17*(t:Int))=(y:Int)+17*(t:Int):=by
 refine ⟨?_,?_,?_,?_,?_,?_,?_,?_⟩<;>first | (rw[IntKind.wrap_i64];omega) | (unfold wrap64;omega)
set_option maxHeartbeats 1600000 in
set_option maxRecDepth 100000 in
theorem Zem (nm:Int) (a:Option Addr) (n c:Nat) (g k cp:Nat) (xs:Nat→Nat) (w:World) (N:Nat) (hN:IntKind.u64.wrap nm%3000=(N:Int)) (hk:0<k) (hk2:k≤100) (hx:∀ i,i<k→w.cell? ⟨g,i,none⟩=some (.int .i64 (xs i:Nat))) (hx2:∀ i,i<k→xs i≤17) :
  Calls Tryz.prog 9 #[.agg #[.int .i64 nm,.slice a n c],.slice (some ⟨g,0,none⟩) k cp] w fun e w'=>Hid (e=.returned (.agg #[.int .i64 (xs (N%k)+17*(N/k%3):Nat),.slice a n c])∧Below w.heap.size w w'):=by
 obtain ⟨x,hxx⟩:∃ x,IntKind.u64.wrap nm=x:=⟨_,rfl⟩
 rw[hxx] at hN
 have hx0:0≤x:=by rw[←hxx];unfold IntKind.wrap;simp [IntKind.signed,IntKind.bits];omega
 obtain ⟨q,HQ⟩:∃ q:Nat,Hid (q=N%k):=⟨_,rfl⟩
 obtain ⟨r,HR⟩:∃ r:Nat,Hid (r=N/k):=⟨_,rfl⟩
 obtain ⟨t,HT⟩:∃ t:Nat,Hid (t=r%3):=⟨_,rfl⟩
 obtain ⟨y,HY⟩:∃ y:Nat,Hid (xs q=y):=⟨_,rfl⟩
 have hqk:q<k:=by rw[HQ.out];exact Nat.mod_lt _ hk
 have hy17:y≤17:=by rw[←HY.out];exact hx2 q hqk
 obtain ⟨hN2,htm,hmod,hquo,hr3,hmod3,ht3⟩:=Zcm x N k hx0 hN hk y hy17
 rw[←HQ.out] at hmod
 rw[←HR.out] at hquo hr3 hmod3 ht3
 rw[←HT.out] at hmod3 ht3
 obtain ⟨eN,hwN,er,hwr,eq17,esum,wq17,wsum⟩:=Zel N r t y hN2 hr3 ht3 hy17
 have hne:((k:Int)==0)=false:=by simp;omega
 have hk0:(k:Int)≠0:=by omega
 have k0:(0:Int)≤(q:Int):=by omega
 have k1:(q:Int)<(k:Int):=by omega
 have hkn:¬ k=0:=by omega
 have e3000:IntKind.u64.wrap 3000=3000:=by decide
 clear hN hx0 hy17 ht3 hr3 hN2
 obtain ⟨w1,hw1⟩:∃ w1,w1=(w.alloc (.cells #[.int .i64 nm,.slice a n c] 24)).alloc (.cells #[.int .i64 0,.slice none 0 0] 24):=⟨_,rfl⟩
 have hb1:Below w.heap.size w w1:=by rw[hw1];exact ((Below.refl _ _).alloc (Nat.le_refl _) _).alloc (by simp) _
 have HB1:Hid (Bx w1 w.heap.size 24 [.int .i64 nm,.slice a n c]∧Below w.heap.size w w1∧Bx w1 (w.heap.size+1) 24 [.int .i64 0,.slice none 0 0]):=by
  refine ⟨?_,hb1,?_⟩
  ·rw[hw1];exact (Bx.new w 24 [.int .i64 nm,.slice a n c]).below ((Below.refl _ _).alloc (Nat.le_refl _) _)
  ·rw[hw1];have q:=Bx.new (w.alloc (.cells #[.int .i64 nm,.slice a n c] 24)) 24 [.int .i64 0,.slice none 0 0];simpa using q
 have c0:w1.cell? ⟨g,q,none⟩=some (.int .i64 (y:Nat)):=by
  have p:=hx q hqk
  rw[hb1.cell (World.block_lt_of_cell? w _ p),p,HY.out]
 have hgm:g≠w.heap.size:=by have:=World.block_lt_of_cell? w _ (hx q hqk);intro e;rw[e] at this;exact absurd this (Nat.lt_irrefl _)
 clear hx hx2 hk hk2 hb1
 go_enter Tryz.func9,Tryz.ntmps9
 go_upto_region 1 with fail
 rw[←hw1]
 clear hw1
 obtain ⟨m,HM⟩:∃ m,Hid (w.heap.size=m):=⟨_,rfl⟩
 rw[HM.out] at HB1 hgm ⊢
 have d0:w1.cell? ⟨m,0,none⟩=some (.int .i64 nm):=HB1.out.1.cell 0 _ rfl
 have f0:w1.frozen? ⟨m,0,none⟩=false:=HB1.out.1.frozen 0
 go_upto_region 2 with fail
 have cset:Hid (∀ x:Int,(w1.setCell ⟨m,0,none⟩ (.int .i64 x)).cell? ⟨g,q,none⟩=some (.int .i64 (y:Nat))):=fun x=>by rw[World.cell?_setCell_far _ _ _ _ (Ne.symm hgm)];exact c0
 have fset:Hid (∀ x:Int,(w1.setCell ⟨m,0,none⟩ (.int .i64 x)).frozen? ⟨m,0,none⟩=false):=fun x=>by rw[World.frozen?_setCell];exact f0
 go_region_held3 (fun u=>u.cell? ⟨g,q,none⟩=some (.int .i64 (y:Nat))∧u.frozen? ⟨m,0,none⟩=false) (first | exact ⟨c0,f0⟩ | exact ⟨cset.out _,fset.out _⟩ | go_keep) (fail)
 obtain ⟨u2,hu2⟩:∃ u2,u2=(w1.setCell ⟨m,0,none⟩ (.int .i64 ((y:Int)+17*(t:Int)))).drew:=⟨_,rfl⟩
 have HX2:Hid (Bx u2 m 24 [.int .i64 ((y:Int)+17*(t:Int)),.slice a n c]∧Bx u2 (m+1) 24 [.int .i64 0,.slice none 0 0]∧Below m w u2):=by
  rw[hu2]
  refine ⟨(HB1.out.1.set 0 (.int .i64 ((y:Int)+17*(t:Int)))).below (Below.refl _ _).drew,?_,?_⟩
  ·refine Bx.below ?_ (Below.refl _ _).drew
   exact HB1.out.2.2.keep (Below.heap_setCell _ ⟨m,0,none⟩ _ (m+1) (by show m+1≠m;omega))
  ·exact (HB1.out.2.1.setCell (p:=⟨m,0,none⟩) (Nat.le_refl _) _).drew
 rw[←hu2]
 clear hu2 cset fset f0 c0 d0 HB1
 go_wp2_with (first
  | (refine wpList_load_mid (by rfl) 24 (.tmp 2) (by rfl) m 0 (by rfl) [.int .i64 ((y:Int)+17*(t:Int)),.slice a n c] _ HX2.out.1.range Tryz.underlying24 rfl (by kernel_rfl) ?_)
  | (refine Zm (by rfl) 24 (.tmp 4) (.tmp 26) (by rfl) [.int .i64 0,.slice none 0 0] [.int .i64 ((y:Int)+17*(t:Int)),.slice a n c] (m+1) (by rfl) (by rfl) HX2.out.2.1 rfl (by kernel_rfl) (by simp [Value.oneCell']) ?_;intro u9 hb9 hg9))
 refine Xo (b:=m+1) [.int .i64 ((y:Int)+17*(t:Int)),.slice a n c] rfl rfl hb9.range Tryz.underlying24 rfl (by kernel_rfl) ⟨?_,?_⟩
 ·rw[←HR.out,←HT.out,←HQ.out,HY.out];simp
 ·have hfin:Below m w u9:=HX2.out.2.2.trans (Yi hg9 (by have:=HX2.out.2.1.lt;omega) (by omega))
  first | exact hfin | (rw[HM.out];exact hfin)
theorem Uu (c sh:Nat) (w:World) (h0:w.cell? ⟨c,0,none⟩=some (.pointer (some ⟨sh,0,none⟩))) (h6:w.cell? ⟨sh,6,none⟩=some (.bool false)):Calls Tryz.prog 51 #[.pointer (some ⟨c,0,none⟩)] w fun e w'=>e=.returned (.int .i64 0)∧w'=w:=by
 go_enter Tryz.func51,Tryz.ntmps51
 go_wp2_with (go_at_call 74;refine (P2 c sh _ h0).mono ?_;rintro e1 w1 ⟨rfl,hw⟩;obtain rfl:=hw.symm)
 go_ret
 exact ⟨rfl,rfl⟩
set_option maxHeartbeats 800000 in
set_option maxRecDepth 100000 in
theorem Zct (c sh n st:Nat) (w:World) (h0:w.cell? ⟨c,0,none⟩=some (.pointer (some ⟨sh,0,none⟩))) (h1:w.cell? ⟨sh,1,none⟩=some (.int .i64 (st:Nat))) (h6:w.cell? ⟨sh,6,none⟩=some (.bool false)) (hn:16≤n) (hm:n≤4096) (hs:n%st=0) (hst:0<st):Calls Tryz.prog 30 #[.pointer (some ⟨c,0,none⟩),.int .i64 (n:Nat)] w fun e w'=>e=.returned (.int .i64 0)∧w'=w:=by
 have HT:Hid (Calls Tryz.prog 51 #[.pointer (some ⟨c,0,none⟩)] w fun e w'=>e=.returned (.int .i64 0)∧w'=w):=Uu c sh w h0 h6
 have g1:decide ((n:Int)<16)=false:=by simp;omega
 have g1':¬ (n:Int)<16:=by omega
 have g2:decide (4096<(n:Int))=false:=by simp;omega
 have g2':¬ (4096:Int)<(n:Int):=by omega
 have g3:¬ st=0:=by omega
 have g4:(n:Int).tmod (st:Int)=0:=by rw[Int.tmod_eq_emod_of_nonneg (by omega)];omega
 clear hn hm hs hst h6
 go_enter Tryz.func30,Tryz.ntmps30
 go_wp2_with (go_at_call 51;refine HT.out.mono ?_;rintro e1 w1 ⟨rfl,hw⟩;obtain rfl:=hw.symm;clear hw HT)
 go_ret
 exact ⟨rfl,rfl⟩
set_option maxHeartbeats 800000 in
set_option maxRecDepth 100000 in
theorem Fl (c sh:Nat) (f:Nat) (cs:List Value) (s:Int) (a:Option Addr) (n cp st:Nat) (w:World) (h0:w.cell? ⟨c,0,none⟩=some (.pointer (some ⟨sh,0,none⟩))) (h2:w.cell? ⟨c,2,none⟩=some (.func (.func f) #[.agg cs.toArray] #[])) (h1:w.cell? ⟨sh,1,none⟩=some (.int .i64 (st:Nat))) (h6:w.cell? ⟨sh,6,none⟩=some (.bool false)) (hn:16≤n) (hm:n≤4096) (hs:n%st=0) (hst:0<st)
  (hE:∀ args u,(callFunc f args).run Tryz.prog u=.ok (.enter f args) u) (Q:Value→World→Prop)
  (H:Hid (Calls Tryz.prog f #[.agg cs.toArray,.int .u64 s,.slice a n cp] w fun e w'=>Hid (∃ y k d,e=.returned (.slice y k d)∧Q (.slice y k d) w'))) :
  Calls Tryz.prog 13 #[.pointer (some ⟨c,0,none⟩),.int .u64 s,.slice a n cp] w fun e w'=>Hid (∃ y k d,e=.returned (.tuple #[.slice y k d,.int .i64 0])∧Q (.slice y k d) w'):=by
 have HM:Hid (Calls Tryz.prog 30 #[.pointer (some ⟨c,0,none⟩),.int .i64 (n:Nat)] w fun e w'=>e=.returned (.int .i64 0)∧w'=w):=Zct c sh n st w h0 h1 h6 hn hm hs hst
 clear h0 h1 h6 hn hm hs hst
 go_enter Tryz.func13,Tryz.ntmps13
 go_wp2_with (first
  | (go_at_call 30;refine HM.out.mono ?_;rintro e1 w1 ⟨rfl,hw⟩;obtain rfl:=hw.symm;clear hw HM)
  | (refine H.out.mono ?_;intro e2 w2 hh;obtain ⟨y,k,d,rfl,hq⟩:=hh.out;have HQ:Hid (Q (.slice y k d) w2):=hq;clear hh hq H))
 go_ret2
 exact ⟨y,k,d,rfl,HQ.out⟩
end Go.Proofs.YtehlppaidgkpaaaGreatDoor
