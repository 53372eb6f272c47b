import Derived.Test.YtehlppaidgkpaaaGreatDoorRows
import Derived.Test.YtehlppaidgkpaaaGreatDoorPart38
import Derived.ProofKit
import Derived.OpenShut
import Derived.ShutString
import Derived.ChangeOld
import Derived.SizedLaws
import Derived.Below
import Derived.Deep.DeepHandedRow
import Derived.Deep.Slices
import Derived.Lib.LaidTab
import Derived.Lib.LaidU8
import Derived.Deep.DeepWitnessRowRef
import Derived.Test.YtehlppaidgkpaaaGreatDoorCards
import Derived.Test.YtehlppaidgkpaaaGreatDoorTie
import Derived.Test.YtehlppaidgkpaaaGreatDoorPart18
import Derived.OwnWalk
import Derived.Laws.OwnMore
namespace Go.Proofs.YtehlppaidgkpaaaGreatDoor
open Go.ChangeShapes Go.WideShapes Go.ChangeAt Go.RowKit
set_option linter.unusedVariables false
set_option linter.unusedSimpArgs false
theorem own:ownKnob Tryz.prog.godebug=none:=by kernel_rfl
theorem laidOut:laidOutB Tryz.prog=true:=by kernel_rfl
theorem Uz:Tryz.prog.cellsOf 158=4:=by kernel_rfl
theorem Zbm:Tryz.prog.cellsOf 9=1:=by kernel_rfl
theorem cells3:Tryz.prog.cellsOf 3=1:=by kernel_rfl
theorem Oy:Tryz.prog.underlying 157=some (.slice 158):=by kernel_rfl
theorem Ct {P : Program} {W : World} {laid : List (String × DataW Unit)} : ∀ {ps : List MemPlace}, DataW.LaidVars P W laid ps → ∀ n d, (n, d) ∈ laid → ∃ g t cs fuel p, P.globalNamed n = some g ∧ (P.globals[g]?).map (·.type) = some t ∧ W.var? P n = some cs ∧ DataW.trod (fun _ => ()) P W 0 (fun _ => true) false fuel t cs.toList = some (d, p) := by
  induction laid with
  | nil => intro ps h n d hm; cases hm
  | cons x r ih =>
    intro ps h n d hm
    obtain ⟨n', d'⟩ := x
    obtain ⟨g, t, cs, fuel, p, q, h1, h2, h3, h4, h5, _⟩ := h
    rcases List.mem_cons.1 hm with e | e
    · injection e with e1 e2
      subst e1 e2
      exact ⟨g, t, cs, fuel, p, h1, h2, h3, h4⟩
    · exact ih h5 n d e
def Er:List (DataW Unit):=match (Rows.laid_coffer_cofferref03_modes:DataW Unit) with
 | .slice l _=>l
 | _=>[]
theorem Ep:(Rows.laid_coffer_cofferref03_modes:DataW Unit)=.slice Er []:=rfl
theorem Tf:Er.length=17:=rfl
theorem row_of (k:Nat) (hk:k<17):∃ (n m s:List UInt8) (mo:Int),Er[k]?=some (.agg [.lit (.string n),.lit (.string m),.lit (.string s),.lit (.int .i64 mo)])∧Cm.getD k []=[.string ⟨n.toArray⟩,.string ⟨m.toArray⟩,.string ⟨s.toArray⟩,.int .i64 mo]:=by
 match k,hk with
 | 0,_=>exact ⟨_,_,_,_,rfl,rfl⟩
 | 1,_=>exact ⟨_,_,_,_,rfl,rfl⟩
 | 2,_=>exact ⟨_,_,_,_,rfl,rfl⟩
 | 3,_=>exact ⟨_,_,_,_,rfl,rfl⟩
 | 4,_=>exact ⟨_,_,_,_,rfl,rfl⟩
 | 5,_=>exact ⟨_,_,_,_,rfl,rfl⟩
 | 6,_=>exact ⟨_,_,_,_,rfl,rfl⟩
 | 7,_=>exact ⟨_,_,_,_,rfl,rfl⟩
 | 8,_=>exact ⟨_,_,_,_,rfl,rfl⟩
 | 9,_=>exact ⟨_,_,_,_,rfl,rfl⟩
 | 10,_=>exact ⟨_,_,_,_,rfl,rfl⟩
 | 11,_=>exact ⟨_,_,_,_,rfl,rfl⟩
 | 12,_=>exact ⟨_,_,_,_,rfl,rfl⟩
 | 13,_=>exact ⟨_,_,_,_,rfl,rfl⟩
 | 14,_=>exact ⟨_,_,_,_,rfl,rfl⟩
 | 15,_=>exact ⟨_,_,_,_,rfl,rfl⟩
 | 16,_=>exact ⟨_,_,_,_,rfl,rfl⟩
 | n+17,h=>exact absurd h (by omega)
theorem Bz {H:Type} {enc:TypeId×Value→H} {W:World} {n:Nat} {c:Value} {y:DataW H×List MemPlace} {l:List UInt8} {held:Bool} (h:DataW.trod enc Tryz.prog W 0 (fun _=>true) held n 9 [c]=some y) (hy:y.1=.lit (.string l)):c=.string ⟨l.toArray⟩:=by
 obtain ⟨s,hz,hx,_⟩:=DataW.trod_string Tryz.underlying9 h
 rw[hx] at hy
 have e:s.data.toList=l:=by simpa using hy
 have hc:c=.string s:=by simpa using hz
 rw[hc,←e]
theorem Zax {H:Type} {enc:TypeId×Value→H} {W:World} {n:Nat} {c:Value} {y:DataW H×List MemPlace} {z:Int} {held:Bool} (h:DataW.trod enc Tryz.prog W 0 (fun _=>true) held n 3 [c]=some y) (hy:y.1=.lit (.int .i64 z)):c=.int .i64 z:=by
 obtain ⟨s,hz,hx,_⟩:=DataW.trod_int Tryz.underlying3 h
 rw[hx] at hy
 have e:s=z:=by simpa using hy
 have hc:c=.int .i64 s:=by simpa using hz
 rw[hc,e]
set_option maxRecDepth 100000 in
theorem Zcu {W : World} {laid : List (String × DataW Unit)} (h : laidMet Tryz.prog laid W) (hm : ("coffer/cofferref03.modes", Rows.laid_coffer_cofferref03_modes) ∈ laid) : ∃ G o cp, Vc W G o cp := by
  rw [Ep] at hm
  obtain ⟨ps, hL, _⟩ := h
  obtain ⟨g', t', cs, fuel, p, hg', ht', hvar, hd⟩ := Ct hL _ _ hm
  have hg : Tryz.prog.globalNamed "coffer/cofferref03.modes" = some 0 := by kernel_rfl
  obtain rfl := Option.some.inj (hg.symm.trans hg')
  have hty : (Tryz.prog.globals[0]?).map (·.type) = some 157 := by kernel_rfl
  obtain rfl := Option.some.inj (hty.symm.trans ht')
  rcases Deep.open_slice Oy hd with ⟨hcs, hx⟩ | ⟨a, len, cap, m, n, D, Pl, hcs, hb, hl, hm, hmm, hx, hc⟩
  · cases hx
  · simp only [if_true] at hmm
    subst hmm
    have hD : Er = (List.range len).map D := by
      have := congrArg Prod.fst hx
      simp only [DataW.slice.injEq] at this
      exact this.1
    have hlen : len = 17 := by
      have := congrArg List.length hD
      simp [Tf] at this
      omega
    subst hlen
    have hcell : ∀ i, i < 17 → ∀ j, j < 4 → W.cell? ((a.add (i * 4)).add j) = (Cm.getD i [])[j]? := fun i hi => by
      obtain ⟨cs', h1, h2⟩ := hc i (by omega)
      rw [Uz] at h1
      obtain ⟨_, hlen, hcc⟩ := World.cells?_some h1
      obtain ⟨ys, k2, _, hx2, _, hyl, hfs⟩ := DataW.trod_struct Tryz.underlying158 h2
      obtain ⟨nm, md, st, mo, r1, r2⟩ := row_of i hi
      have hDi : D i = .agg [.lit (.string nm), .lit (.string md), .lit (.string st), .lit (.int .i64 mo)] := by
        rw [hD] at r1
        simpa [List.getElem?_map, List.getElem?_range hi] using r1
      match cs', hlen with
      | [v0, v1, v2, v3], _ =>
        match ys, hyl with
        | [y0, y1, y2, y3], _ =>
          have k0 := hfs 0 _ rfl
          have k1 := hfs 1 _ rfl
          have k2 := hfs 2 _ rfl
          have k3 := hfs 3 _ rfl
          simp [cells3, Zbm] at k0 k1 k2 k3
          have hDe : D i = .agg [y0.1, y1.1, y2.1, y3.1] := by simpa using congrArg Prod.fst hx2
          rw [hDi] at hDe
          simp only [DataW.agg.injEq, List.cons.injEq, and_true] at hDe
          obtain ⟨e0, e1, e2, e3⟩ := hDe
          obtain rfl := Bz k0 e0.symm
          obtain rfl := Bz k1 e1.symm
          obtain rfl := Bz k2 e2.symm
          obtain rfl := Zax k3 e3.symm
          intro j hj
          rw [r2]
          exact hcc j (by omega)
    obtain ⟨G, o, spot⟩ := a
    have hc0 := hcell 0 (by decide) 0 (by decide)
    obtain ⟨_, _, _, _, _, r2⟩ := row_of 0 (by decide)
    rw [r2] at hc0
    have hspot : spot = none := by simpa [Addr.add] using World.cell?_spot hc0
    subst hspot
    have hv : W.cell? ⟨0, 0, none⟩ = some (.slice (some ⟨G, o, none⟩) 17 m) := by
      rw [World.var?_cell hg hvar 0]
      have : cs = #[.slice (some ⟨G, o, none⟩) 17 m] := by
        cases cs
        simpa using hcs
      rw [this]
      rfl
    refine ⟨G, o, m, hv, World.block_lt_of_cell? W _ hv, by simpa [Addr.add] using World.block_lt_of_cell? W _ hc0, fun k hk j hj => ?_⟩
    have q := hcell k hk j hj
    rw [Addr.add_lit, Addr.add_lit] at q
    exact q
theorem V5 {W:World} {laid:List (String×DataW Unit)} (h:laidMet Tryz.prog laid W) (k:IntKind) (name:String) (zs:List Int) (g:Nat) (t e:TypeId) (n:Nat) (hm:(name,Lib.tabData k zs)∈laid) (hg:Tryz.prog.globalNamed name=some g) (hty:(Tryz.prog.globals[g]?).map (·.type)=some t) (ht:Tryz.prog.underlying t=some (.array n e)) (he:Tryz.prog.underlying e=some (.int k)) (hc:Tryz.prog.cellsOf e=1) (hct:Tryz.prog.cellsOf t=n):Lib.TabIs Tryz.prog W name k zs:=by
 obtain ⟨ps,hL,_⟩:=h
 obtain ⟨g',t',cs,fuel,p,hg',ht',hvar,hd⟩:=Ct hL name _ hm
 obtain rfl:=Option.some.inj (hg.symm.trans hg')
 obtain rfl:=Option.some.inj (hty.symm.trans ht')
 unfold Lib.TabIs
 rw[hvar,←Lib.cells_of_tab (n:=n) (e:=e) ht he hc hct hd]
def My:List Int:=[1,2,4,8,16,32,64,128,27,54]
theorem Es:∀ i:Fin 10,My.getD i.1 0=(rcT i.1:Nat):=by decide +kernel
theorem Zbb {W:World} {laid:List (String×DataW Unit)} (h:laidMet Tryz.prog laid W) (h1:("coffer/digest.roots",Lib.tabData .u64 Dg.K5)∈laid) (h2:("coffer/digest.cubes",Lib.tabData .u64 Dg.Va)∈laid) (h3:("coffer/cofferref01.squares",Lib.tabData .u64 Dg.K5)∈laid) (h4:("coffer/cofferref01.cubes",Lib.tabData .u64 Dg.Va)∈laid)
  (h5:("coffer/rijndael.rcon",Lib.tabData .u8 My)∈laid) (h6:("internal/strconv.uint64pow10",Lib.tabData .u64 Lib.pow10Tab)∈laid) (h7:("coffer/cofferref03.modes",Rows.laid_coffer_cofferref03_modes)∈laid):∃ G o cp,Env W G o cp:=by
 obtain ⟨G,o,cp,hD⟩:=Zcu h h7
 have r:=V5 h .u64 "coffer/digest.roots" Dg.K5 4 195 25 16 h1 (by kernel_rfl) (by kernel_rfl) (by kernel_rfl) (by kernel_rfl) (by kernel_rfl) (by kernel_rfl)
 have c:=V5 h .u64 "coffer/digest.cubes" Dg.Va 5 197 25 80 h2 (by kernel_rfl) (by kernel_rfl) (by kernel_rfl) (by kernel_rfl) (by kernel_rfl) (by kernel_rfl)
 have r':=V5 h .u64 "coffer/cofferref01.squares" Dg.K5 2 195 25 16 h3 (by kernel_rfl) (by kernel_rfl) (by kernel_rfl) (by kernel_rfl) (by kernel_rfl) (by kernel_rfl)
 have c':=V5 h .u64 "coffer/cofferref01.cubes" Dg.Va 3 197 25 80 h4 (by kernel_rfl) (by kernel_rfl) (by kernel_rfl) (by kernel_rfl) (by kernel_rfl) (by kernel_rfl)
 have rc:=V5 h .u8 "coffer/rijndael.rcon" My 1 167 5 10 h5 (by kernel_rfl) (by kernel_rfl) (by kernel_rfl) (by kernel_rfl) (by kernel_rfl) (by kernel_rfl)
 have pw:=V5 h .u64 "internal/strconv.uint64pow10" Lib.pow10Tab 6 280 25 20 h6 (by kernel_rfl) (by kernel_rfl) (by kernel_rfl) (by kernel_rfl) (by kernel_rfl) (by kernel_rfl)
 refine ⟨G,o,cp,pw,hD,⟨fun t ht=>c.cell (by kernel_rfl) t (by simpa [Dg.Va] using ht),fun t ht=>r.cell (by kernel_rfl) t (by simpa [Dg.K5] using ht)⟩,⟨fun t ht=>c'.cell (by kernel_rfl) t (by simpa [Dg.Va] using ht),fun t ht=>r'.cell (by kernel_rfl) t (by simpa [Dg.K5] using ht)⟩,fun i hi=>?_⟩
 have hc:=rc.cell (g:=1) (by kernel_rfl) i (by simpa [My] using hi)
 rw[hc,←Es ⟨i,hi⟩]
theorem cells5:Tryz.prog.cellsOf 5=1:=by kernel_rfl
theorem G4 {H : Type} {enc : TypeId × Value → H} {W : World} {a : Option Addr} {len cap : Nat} {d : DataW H} {p : List MemPlace}
    (h : DataW.Trod enc Tryz.prog W 0 (fun _ => true) true 22 (.slice a len cap) d p) :
    ∃ xs : List Int, xs.length = len ∧ Zj xs ∧ Zf W (.slice a len cap) xs ∧ (d = .nil ∧ xs = [] ∨ ∃ sp, d = .slice (lits .u8 xs) sp) := by
  obtain ⟨fuel, hf⟩ := h
  rcases open_ints Tryz.underlying22 Tryz.underlying5 cells5 hf with ⟨hcs, hx⟩ | ⟨x, l, c, zs, hcs, _, hl, hm, hz, hx, hcell, hwz⟩
  · simp [Value.cells] at hcs
    obtain ⟨rfl, rfl, rfl⟩ := hcs
    simp only [Prod.mk.injEq] at hx
    refine ⟨[], rfl, fun i => by simp, ⟨none, 0, rfl, Nat.le_refl _, by simp, fun _ => rfl, .inl rfl⟩, .inl ⟨hx.1, rfl⟩⟩
  · simp [Value.cells] at hcs
    obtain ⟨rfl, rfl, rfl⟩ := hcs
    simp only [Prod.mk.injEq] at hx
    have hzl : zs.length = cap := by simpa using hz
    have hlen : (zs.take len).length = len := by simp; omega
    have hw : ∀ n ∈ zs, 0 ≤ n ∧ n < 256 := by
      intro n hn
      have := hwz n hn
      have h1 : IntKind.u8.min = 0 := rfl
      have h2 : IntKind.u8.max = 255 := rfl
      simp only [Lit.wf, Bool.and_eq_true, decide_eq_true_eq] at this
      omega
    refine ⟨zs.take len, hlen, ?_, ⟨some x, cap, by rw [hlen], by omega, hm, (fun h => by cases h), ?_⟩, .inr ⟨_, hx.1⟩⟩
    · intro i
      rw [List.getD_eq_getElem?_getD]
      cases hg : (zs.take len)[i]? with
      | none => simp
      | some n =>
        have hn : n ∈ zs := List.mem_of_mem_take (List.mem_of_getElem? hg)
        simpa using hw n hn
    · by_cases h0 : len = 0
      · left
        subst h0
        simp
      · right
        obtain ⟨b, off, spot⟩ := x
        have hc0 := hcell 0 (by omega)
        have hspot : spot = none := by simpa [Addr.add] using World.cell?_spot hc0
        subst hspot
        refine ⟨b, off, rfl, fun i hi => ?_⟩
        rw [hlen] at hi
        have := hcell i (by omega)
        rw [Addr.add_lit] at this
        rw [this]
        congr 2
        simp [List.getD_eq_getElem?_getD, hi]
theorem Zbl:Tryz.prog.cellsOf 22=1:=by kernel_rfl
theorem Zbj:Tryz.prog.cellsOf 24=2:=by kernel_rfl
theorem array2 {α:Type} {cs:Array α} (h:cs.size=2):∃ c0 c1,cs=#[c0,c1]:=by
 obtain ⟨l⟩:=cs
 match l,h with
 | [c0,c1],_=>exact ⟨c0,c1,rfl⟩
theorem U0 {H:Type} {enc:TypeId×Value→H} {W:World} {n:Nat} {c:Value} {y:DataW H×List MemPlace} (h:DataW.trod enc Tryz.prog W 0 (fun _=>true) true n 3 [c]=some y):∃ z,c=.int .i64 z:=by
 obtain ⟨z,hz,_⟩:=DataW.trod_int Tryz.underlying3 h
 exact ⟨z,by simpa using hz⟩
theorem N8 {H:Type} {enc:TypeId×Value→H} {W:World} {n:Nat} {c:Value} {y:DataW H×List MemPlace} (h:DataW.trod enc Tryz.prog W 0 (fun _=>true) true n 22 [c]=some y):∃ a l cap xs,c=.slice a l cap∧Zf W (.slice a l cap) xs∧Zj xs∧xs.length=l:=by
 have hc:∃ a l cap,c=.slice a l cap:=by
  rcases open_ints Tryz.underlying22 Tryz.underlying5 cells5 h with ⟨hcs,_⟩ | ⟨a,l,cap,zs,hcs,_⟩
  ·exact ⟨none,0,0,by simpa using hcs⟩
  ·exact ⟨some a,l,cap,by simpa using hcs⟩
 obtain ⟨a,l,cap,rfl⟩:=hc
 obtain ⟨xs,hl,hb,hv,_⟩:=G4 (enc:=enc) (W:=W) (a:=a) (len:=l) (cap:=cap) (d:=y.1) (p:=y.2) ⟨n,by simpa [Value.cells] using h⟩
 exact ⟨a,l,cap,xs,rfl,hv,hb,hl⟩
set_option maxRecDepth 100000 in
theorem L8 {H : Type} {enc : TypeId × Value → H} {W : World} {r : Reach} {b0 : Nat} {v : Value} {d : DataW H} {p : List MemPlace} (hv : Value.okWide Tryz.prog W r b0 24 v) (h : DataW.Trod enc Tryz.prog W 0 (fun _ => true) true 24 v d p) :
    ∃ (nm : Int) (za : Option Addr) (zn zc : Nat) (Z : List Int), v = .agg #[.int .i64 nm, .slice za zn zc] ∧ Zf W (.slice za zn zc) Z ∧ Zj Z ∧ Z.length = zn := by
  obtain ⟨cs, rfl, hsz⟩ := okWide_struct Tryz.underlying24 hv
  obtain ⟨c0, c1, rfl⟩ := array2 (hsz.trans Zbj)
  obtain ⟨fuel, hf⟩ := h
  obtain ⟨xs, n, _, hx, _, hlen, hfs⟩ := DataW.trod_struct Tryz.underlying24 hf
  match xs, hlen with
  | [y0, y1], _ =>
    have h0 := hfs 0 _ rfl
    have h1 := hfs 1 _ rfl
    simp [Value.cells, cells3, Zbl] at h0 h1
    obtain ⟨hh, rfl⟩ := U0 h0
    obtain ⟨za, zn, zc, Z, rfl, vZ, bZ, lZ⟩ := N8 h1
    exact ⟨hh, za, zn, zc, Z, rfl, vZ, bZ, lZ⟩
theorem Tk {H:Type} {enc:TypeId×Value→H} {W:World} {v:Value} {d:DataW H} {p:List MemPlace} (hv:∃ z,v=.int .u64 z) (h:DataW.Trod enc Tryz.prog W 0 (fun _=>true) true 25 v d p):∃ s:Nat,v=.int .u64 (s:Nat)∧s<18446744073709551616:=by
 obtain ⟨z,rfl⟩:=hv
 obtain ⟨fuel,hf⟩:=h
 obtain ⟨n,hn,_,hw⟩:=DataW.trod_int Tryz.underlying25 hf
 simp [Value.cells] at hn
 subst hn
 simp [Lit.wf,IntKind.min,IntKind.max,IntKind.signed,IntKind.bits] at hw
 exact ⟨z.toNat,by congr 1;omega,by omega⟩
theorem Zbk:Tryz.prog.cellsOf 27=16:=by kernel_rfl
theorem Nh {H:Type} {enc:TypeId×Value→H} {W:World} {spare:Nat→Bool} {fuel:Nat} {cs:List Value} {x:DataW H×List MemPlace} (hl:cs.length=16) (h:DataW.trod enc Tryz.prog W 0 spare true fuel 27 cs=some x):∃ v:BitVec 128,cs=Fd.BL v:=by
 obtain ⟨xs,m,_,_,_,hlen,hi⟩:=DataW.trod_array Tryz.underlying27 h
 have hc:∀ i,i<16→∃ z:Nat,z<256∧cs[i]?=some (.int .u8 (z:Nat)):=fun i h16=>by
  have hx:xs[i]?=some xs[i]:=List.getElem?_eq_getElem (by omega)
  have h1:=hi i h16
  rw[hx,cells5,Nat.mul_one] at h1
  obtain ⟨n,hn,_,hw⟩:=DataW.trod_int Tryz.underlying5 h1
  have h2:IntKind.u8.min=0:=rfl
  have h3:IntKind.u8.max=255:=rfl
  simp only[Lit.wf,Bool.and_eq_true,decide_eq_true_eq] at hw
  refine ⟨n.toNat,by omega,?_⟩
  have h6:cs[i]?=some (.int .u8 n):=by
   have:=congrArg (fun l=>l[0]?) hn
   simpa using this
  rw[h6]
  congr 2
  omega
 obtain ⟨F,hF1,hF2⟩:∃ F:Nat→Nat,(∀ i,F i<256)∧∀ i,i<16→cs[i]?=some (.int .u8 (F i:Nat)):=by
  refine ⟨fun i=>if h:i<16 then (hc i h).choose else 0,fun i=>?_,fun i h=>?_⟩
  ·by_cases h:i<16
   ·simp only[dif_pos h];exact (hc i h).choose_spec.1
   ·simp only[dif_neg h];decide
  ·simp only[dif_pos h]
   exact (hc i h).choose_spec.2
 exact ⟨BitVec.ofNat 128 (Fd.pk F 16),Fd.Zav hl fun i hi=>by rw[Fd.Wh F hF1 i hi];exact hF2 i hi⟩
set_option maxRecDepth 100000 in
theorem Ni {H:Type} {enc:TypeId×Value→H} {W:World} {r:Reach} {b0:Nat} {v:Value} {d:DataW H} {p:List MemPlace} (hv:Value.okWide Tryz.prog W r b0 27 v) (h:DataW.Trod enc Tryz.prog W 0 (fun _=>true) true 27 v d p) :
  ∃ x:BitVec 128,v=Fd.BV x:=by
 simp only[Value.okWide,Tryz.underlying27] at hv
 obtain ⟨cs,rfl,hsz,_⟩:=hv
 rw[Zbk] at hsz
 obtain ⟨fuel,hf⟩:=h
 have h4:(Value.agg cs).cells.toList=cs.toList:=by simp [Value.cells]
 rw[h4] at hf
 obtain ⟨x,hx⟩:=Nh (by simpa using hsz) hf
 refine ⟨x,?_⟩
 show Value.agg cs=Value.agg (Fd.BL x).toArray
 rw[←hx]
open Go.RowKit
theorem Zaj (x:Int) (N k:Nat) (h0:0≤x) (hN:x%3000=(N:Int)) (hk:0<k) (y:Nat) (hy:y≤17):N<3000∧x.tmod 3000=(N:Int)∧(N:Int).tmod (k:Int)=((N%k:Nat):Int)∧(N:Int).tdiv (k:Int)=((N/k:Nat):Int)∧N/k<3000∧((N/k:Nat):Int).tmod 3=((N/k%3:Nat):Int)∧N/k%3<3:=by
 have h1:N/k≤N:=Nat.div_le_self _ _
 refine ⟨by omega,?_,?_,?_,by omega,?_,by omega⟩
 ·rw[Int.tmod_eq_emod_of_nonneg h0];exact hN
 ·rw[Int.tmod_eq_emod_of_nonneg (Int.natCast_nonneg _)];rfl
 ·rw[Int.tdiv_eq_ediv_of_nonneg (Int.natCast_nonneg _)];rfl
 ·rw[Int.tmod_eq_emod_of_nonneg (Int.natCast_nonneg _)];rfl
theorem Zcn (N r t y:Nat) (h1:N<3000) (h2:r<3000) (h3:t<3) (h4:y≤17):IntKind.i64.wrap (N:Int)=(N:Int)∧wrap64 (N:Int)=(N:Int)∧IntKind.i64.wrap (r:Int)=(r:Int)∧wrap64 (r:Int)=(r:Int)∧IntKind.i64.wrap (17*(t:Int))=17*(t:Int)∧IntKind.i64.wrap ((y:Int)+17*(t:Int))=(y:Int)+17*(t:Int)∧wrap64 (17*(t:Int))=17*(t:Int)∧wrap64 ((y:Int)+17*(t:Int))=(y:Int)+17*(t:Int):=by
 refine ⟨?_,?_,?_,?_,?_,?_,?_,?_⟩<;>first | (rw[IntKind.wrap_i64];omega) | (unfold wrap64;omega)
set_option maxHeartbeats 1600000 in
set_option maxRecDepth 100000 in
theorem Zco (nm:Int) (a:Option Addr) (n c:Nat) (g k cp:Nat) (xs:Nat→Nat) (w:World) (N:Nat) (hN:IntKind.u64.wrap nm%3000=(N:Int)) (hk:0<k) (hk2:k≤100) (hx:∀ i,i<k→w.cell? ⟨g,i,none⟩=some (.int .i64 (xs i:Nat))) (hx2:∀ i,i<k→xs i≤17) :
  Calls Tryz.prog 9 #[.agg #[.int .i64 nm,.slice a n c],.slice (some ⟨g,0,none⟩) k cp] w fun e w'=>Hid (e=.returned (.agg #[.int .i64 (xs (N%k)+17*(N/k%3):Nat),.slice a n c])∧Below w.heap.size w w'):=by
 obtain ⟨x,hxx⟩:∃ x,IntKind.u64.wrap nm=x:=⟨_,rfl⟩
 rw[hxx] at hN
 have hx0:0≤x:=by rw[←hxx];unfold IntKind.wrap;simp [IntKind.signed,IntKind.bits];omega
 obtain ⟨q,HQ⟩:∃ q:Nat,Hid (q=N%k):=⟨_,rfl⟩
 obtain ⟨r,HR⟩:∃ r:Nat,Hid (r=N/k):=⟨_,rfl⟩
 obtain ⟨t,HT⟩:∃ t:Nat,Hid (t=r%3):=⟨_,rfl⟩
 obtain ⟨y,HY⟩:∃ y:Nat,Hid (xs q=y):=⟨_,rfl⟩
 have hqk:q<k:=by rw[HQ.out];exact Nat.mod_lt _ hk
 have hy17:y≤17:=by rw[←HY.out];exact hx2 q hqk
 obtain ⟨hN2,htm,hmod,hquo,hr3,hmod3,ht3⟩:=Zaj x N k hx0 hN hk y hy17
 rw[←HQ.out] at hmod
 rw[←HR.out] at hquo hr3 hmod3 ht3
 rw[←HT.out] at hmod3 ht3
 obtain ⟨eN,hwN,er,hwr,eq17,esum,wq17,wsum⟩:=Zcn N r t y hN2 hr3 ht3 hy17
 have hne:((k:Int)==0)=false:=by simp;omega
 have hk0:(k:Int)≠0:=by omega
 have k0:(0:Int)≤(q:Int):=by omega
 have k1:(q:Int)<(k:Int):=by omega
 have hkn:¬ k=0:=by omega
 have e3000:IntKind.u64.wrap 3000=3000:=by decide
 clear hN hx0 hy17 ht3 hr3 hN2
 obtain ⟨w1,hw1⟩:∃ w1,w1=(w.alloc (.cells #[.int .i64 nm,.slice a n c] 24)).alloc (.cells #[.int .i64 0,.slice none 0 0] 24):=⟨_,rfl⟩
 have hb1:Below w.heap.size w w1:=by rw[hw1];exact ((Below.refl _ _).alloc (Nat.le_refl _) _).alloc (by simp) _
 have HB1:Hid (Bx w1 w.heap.size 24 [.int .i64 nm,.slice a n c]∧Below w.heap.size w w1∧Bx w1 (w.heap.size+1) 24 [.int .i64 0,.slice none 0 0]):=by
  refine ⟨?_,hb1,?_⟩
  ·rw[hw1];exact (Bx.new w 24 [.int .i64 nm,.slice a n c]).below ((Below.refl _ _).alloc (Nat.le_refl _) _)
  ·rw[hw1];have q:=Bx.new (w.alloc (.cells #[.int .i64 nm,.slice a n c] 24)) 24 [.int .i64 0,.slice none 0 0];simpa using q
 have c0:w1.cell? ⟨g,q,none⟩=some (.int .i64 (y:Nat)):=by
  have p:=hx q hqk
  rw[hb1.cell (World.block_lt_of_cell? w _ p),p,HY.out]
 have hgm:g≠w.heap.size:=by have:=World.block_lt_of_cell? w _ (hx q hqk);intro e;rw[e] at this;exact absurd this (Nat.lt_irrefl _)
 clear hx hx2 hk hk2 hb1
 go_enter Tryz.func9,Tryz.ntmps9
 go_upto_region 1 with fail
 rw[←hw1]
 clear hw1
 obtain ⟨m,HM⟩:∃ m,Hid (w.heap.size=m):=⟨_,rfl⟩
 rw[HM.out] at HB1 hgm ⊢
 have d0:w1.cell? ⟨m,0,none⟩=some (.int .i64 nm):=HB1.out.1.cell 0 _ rfl
 have f0:w1.frozen? ⟨m,0,none⟩=false:=HB1.out.1.frozen 0
 go_upto_region 2 with fail
 have cset:Hid (∀ x:Int,(w1.setCell ⟨m,0,none⟩ (.int .i64 x)).cell? ⟨g,q,none⟩=some (.int .i64 (y:Nat))):=fun x=>by rw[World.cell?_setCell_far _ _ _ _ (Ne.symm hgm)];exact c0
 have fset:Hid (∀ x:Int,(w1.setCell ⟨m,0,none⟩ (.int .i64 x)).frozen? ⟨m,0,none⟩=false):=fun x=>by rw[World.frozen?_setCell];exact f0
 go_region_held3 (fun u=>u.cell? ⟨g,q,none⟩=some (.int .i64 (y:Nat))∧u.frozen? ⟨m,0,none⟩=false) (first | exact ⟨c0,f0⟩ | exact ⟨cset.out _,fset.out _⟩ | go_keep) (fail)
 obtain ⟨u2,hu2⟩:∃ u2,u2=(w1.setCell ⟨m,0,none⟩ (.int .i64 ((y:Int)+17*(t:Int)))).drew:=⟨_,rfl⟩
 have HX2:Hid (Bx u2 m 24 [.int .i64 ((y:Int)+17*(t:Int)),.slice a n c]∧Bx u2 (m+1) 24 [.int .i64 0,.slice none 0 0]∧Below m w u2):=by
  rw[hu2]
  refine ⟨(HB1.out.1.set 0 (.int .i64 ((y:Int)+17*(t:Int)))).below (Below.refl _ _).drew,?_,?_⟩
  ·refine Bx.below ?_ (Below.refl _ _).drew
   exact HB1.out.2.2.keep (Below.heap_setCell _ ⟨m,0,none⟩ _ (m+1) (by show m+1≠m;omega))
  ·exact (HB1.out.2.1.setCell (p:=⟨m,0,none⟩) (Nat.le_refl _) _).drew
 rw[←hu2]
 clear hu2 cset fset f0 c0 d0 HB1
 go_wp2_with (first
  | (refine wpList_load_mid (by rfl) 24 (.tmp 2) (by rfl) m 0 (by rfl) [.int .i64 ((y:Int)+17*(t:Int)),.slice a n c] _ HX2.out.1.range Tryz.underlying24 rfl (by kernel_rfl) ?_)
  | (refine Zg (by rfl) 24 (.tmp 4) (.tmp 26) (by rfl) [.int .i64 0,.slice none 0 0] [.int .i64 ((y:Int)+17*(t:Int)),.slice a n c] (m+1) (by rfl) (by rfl) HX2.out.2.1 rfl (by kernel_rfl) (by simp [Value.oneCell']) ?_;intro u9 hb9 hg9))
 refine Y4 (b:=m+1) [.int .i64 ((y:Int)+17*(t:Int)),.slice a n c] rfl rfl hb9.range Tryz.underlying24 rfl (by kernel_rfl) ⟨?_,?_⟩
 ·rw[←HR.out,←HT.out,←HQ.out,HY.out];simp
 ·have hfin:Below m w u9:=HX2.out.2.2.trans (Yd hg9 (by have:=HX2.out.2.1.lt;omega) (by omega))
  first | exact hfin | (rw[HM.out];exact hfin)
theorem So (c sh:Nat) (w:World) (h0:w.cell? ⟨c,0,none⟩=some (.pointer (some ⟨sh,0,none⟩))) (h6:w.cell? ⟨sh,6,none⟩=some (.bool false)):Calls Tryz.prog 51 #[.pointer (some ⟨c,0,none⟩)] w fun e w'=>e=.returned (.int .i64 0)∧w'=w:=by
 go_enter Tryz.func51,Tryz.ntmps51
 go_wp2_with (go_at_call 74;refine (Tu c sh _ h0).mono ?_;rintro e1 w1 ⟨rfl,hw⟩;obtain rfl:=hw.symm)
 go_ret
 exact ⟨rfl,rfl⟩
set_option maxHeartbeats 800000 in
set_option maxRecDepth 100000 in
theorem Zaq (c sh n st:Nat) (w:World) (h0:w.cell? ⟨c,0,none⟩=some (.pointer (some ⟨sh,0,none⟩))) (h1:w.cell? ⟨sh,1,none⟩=some (.int .i64 (st:Nat))) (h6:w.cell? ⟨sh,6,none⟩=some (.bool false)) (hn:16≤n) (hm:n≤4096) (hs:n%st=0) (hst:0<st):Calls Tryz.prog 30 #[.pointer (some ⟨c,0,none⟩),.int .i64 (n:Nat)] w fun e w'=>e=.returned (.int .i64 0)∧w'=w:=by
 have HT:Hid (Calls Tryz.prog 51 #[.pointer (some ⟨c,0,none⟩)] w fun e w'=>e=.returned (.int .i64 0)∧w'=w):=So c sh w h0 h6
 have g1:decide ((n:Int)<16)=false:=by simp;omega
 have g1':¬ (n:Int)<16:=by omega
 have g2:decide (4096<(n:Int))=false:=by simp;omega
 have g2':¬ (4096:Int)<(n:Int):=by omega
 have g3:¬ st=0:=by omega
 have g4:(n:Int).tmod (st:Int)=0:=by rw[Int.tmod_eq_emod_of_nonneg (by omega)];omega
 clear hn hm hs hst h6
 go_enter Tryz.func30,Tryz.ntmps30
 go_wp2_with (go_at_call 51;refine HT.out.mono ?_;rintro e1 w1 ⟨rfl,hw⟩;obtain rfl:=hw.symm;clear hw HT)
 go_ret
 exact ⟨rfl,rfl⟩
set_option maxHeartbeats 800000 in
set_option maxRecDepth 100000 in
theorem Tl (c sh:Nat) (f:Nat) (cs:List Value) (s:Int) (a:Option Addr) (n cp st:Nat) (w:World) (h0:w.cell? ⟨c,0,none⟩=some (.pointer (some ⟨sh,0,none⟩))) (h2:w.cell? ⟨c,3,none⟩=some (.func (.func f) #[.agg cs.toArray] #[])) (h1:w.cell? ⟨sh,1,none⟩=some (.int .i64 (st:Nat))) (h6:w.cell? ⟨sh,6,none⟩=some (.bool false)) (hn:16≤n) (hm:n≤4096) (hs:n%st=0) (hst:0<st)
  (hE:∀ args u,(callFunc f args).run Tryz.prog u=.ok (.enter f args) u) (Q:Value→World→Prop)
  (H:Hid (Calls Tryz.prog f #[.agg cs.toArray,.int .u64 s,.slice a n cp] w fun e w'=>Hid (∃ y k d,e=.returned (.slice y k d)∧Q (.slice y k d) w'))) :
  Calls Tryz.prog 15 #[.pointer (some ⟨c,0,none⟩),.int .u64 s,.slice a n cp] w fun e w'=>Hid (∃ y k d,e=.returned (.tuple #[.slice y k d,.int .i64 0])∧Q (.slice y k d) w'):=by
 have HM:Hid (Calls Tryz.prog 30 #[.pointer (some ⟨c,0,none⟩),.int .i64 (n:Nat)] w fun e w'=>e=.returned (.int .i64 0)∧w'=w):=Zaq c sh n st w h0 h1 h6 hn hm hs hst
 clear h0 h1 h6 hn hm hs hst
 go_enter Tryz.func15,Tryz.ntmps15
 go_wp2_with (first
  | (go_at_call 30;refine HM.out.mono ?_;rintro e1 w1 ⟨rfl,hw⟩;obtain rfl:=hw.symm;clear hw HM)
  | (refine H.out.mono ?_;intro e2 w2 hh;obtain ⟨y,k,d,rfl,hq⟩:=hh.out;have HQ:Hid (Q (.slice y k d) w2):=hq;clear hh hq H))
 go_ret2
 exact ⟨y,k,d,rfl,HQ.out⟩
def Zc9 (Ψ:Nat→Nat→World→Prop):Prop:=∀ A c u u',Ψ A c u→(∀ b,A≤b→b<u.heap.size→u'.heap[b]?=u.heap[b]?)→u.heap.size≤u'.heap.size→Ψ A c u'
def Zby (w:World) (Ψ:Nat→Nat→World→Prop) (e:Ending) (w':World):Prop:=
 ∃ c,e=.returned (.tuple #[.pointer (some ⟨c,0,none⟩),.int .i64 0])∧Ψ w.heap.size c w'∧Below w.heap.size w w'
def Ps (w:World) (Ψ:Nat→Nat→World→Prop) (e:Ending) (w':World):Prop:=
 ∃ A c r,e=.returned (.tuple #[.pointer (some ⟨c,0,none⟩),.pointer (some ⟨r,0,none⟩),.bool true])∧w.heap.size≤A∧Ψ A c w'∧Below w.heap.size w w'
set_option maxHeartbeats 3200000 in
set_option maxRecDepth 100000 in
theorem Tv (nm:Int) (j:Nat) (v:Value) (bs:List Int) (w:World) (G o cp:Nat) (Ψ:Nat→Nat→World→Prop) (hΨ:Hid (Zc9 Ψ)) (hD:Vc w G o cp) (hj:j<52) (hc:IntKind.u64.wrap nm%52=(j:Int)) (hv:Zf w v bs)
  (H21:Hid (∀ u x,Below w.heap.size w u→Zf u x (kyL bs (kyN j))→Calls Tryz.prog 26 #[.string (spN j),x] u fun e u'=>Zby u Ψ e u'))
  (H22:Hid (∀ u x,Below w.heap.size w u→Zf u x (kyL bs (kyN j))→Calls Tryz.prog 28 #[.string (spN j),x] u fun e u'=>RnP u e u')) :
  Calls Tryz.prog 10 #[.agg #[.int .i64 nm,v]] w fun e w'=>Ps w Ψ e w':=by
 obtain ⟨M,T,aa,hrow⟩:=Mw j hj
 have hky:kyN j≤1000:=by
  rcases Vi j hj with rfl | ⟨i,k,hi,hk,rfl⟩
  ·decide
  ·rw[Vp i k hk]
   have:mK k*(16+8*i)≤2*32:=Nat.mul_le_mul (M4 k) (by omega)
   have:=M3 k
   omega
 obtain ⟨zs,HZS⟩:∃ zs,Hid (kyL bs (kyN j)=zs):=⟨_,rfl⟩
 obtain ⟨S,HSS⟩:∃ S,Hid (spN j=S):=⟨_,rfl⟩
 have hlz:zs.length=kyN j:=by rw[←HZS.out,Ko]
 obtain ⟨kz,HKZ⟩:∃ kz,Hid (kyN j=kz):=⟨_,rfl⟩
 have H52:Hid (∀ u,Below w.heap.size w u→Calls Tryz.prog 27 #[.agg #[.int .i64 nm,v]] u fun e u'=>Hid (e=.returned (.agg #[.string S,.string M,.string T,.int .i64 aa,.int .i64 (kz:Nat)])∧Below u.heap.size u u')):=fun u hu=>by
  obtain ⟨va,vc,rfl,_⟩:=id hv
  have q:=M0 nm j va bs.length vc u G o cp (hD.below hu) hj hc
  rw[hrow,HSS.out,HKZ.out] at q
  exact q
 have H35:Hid (∀ u,Below w.heap.size w u→Calls Tryz.prog 18 #[.agg #[.int .i64 nm,v]] u fun e u'=>Hid (∃ y d,e=.returned (.slice y kz d)∧Zf u' (.slice y kz d) zs∧Below u.heap.size u u')):=fun u hu=>by
  have q:=Ev nm j v bs u G o cp (hD.below hu) hj hc (hv.below hu)
  rw[HZS.out,HKZ.out] at q
  exact q
 rw[HZS.out,HSS.out] at H21 H22
 rw[HKZ.out] at hlz hky
 obtain ⟨va,vn,vc,rfl⟩:∃ a n c,v=.slice a n c:=by obtain ⟨a,c,e,_⟩:=hv;exact ⟨_,_,_,e⟩
 have HLZ:Hid (zs.length=kz∧kz≤1000):=⟨hlz,hky⟩
 have hf0:=fun u=>Za9 S M T aa (kz:Nat) u
 clear hD hj hc hv hrow hky hlz
 obtain ⟨w1,hw1⟩:∃ w1,w1=w.alloc (.cells #[.int .i64 nm,.slice va vn vc] 24):=⟨_,rfl⟩
 have HB1:Hid (Bx w1 w.heap.size 24 [.int .i64 nm,.slice va vn vc]∧Below w.heap.size w w1):=by rw[hw1];exact ⟨Bx.new w 24 _,(Below.refl _ _).alloc (Nat.le_refl _) _⟩
 go_enter Tryz.func10,Tryz.ntmps10
 go_upto_region 1 with fail
 rw[←hw1]
 clear hw1
 obtain ⟨m,HM⟩:∃ m,Hid (w.heap.size=m):=⟨_,rfl⟩
 rw[HM.out] at HB1 H52 H35 H21 H22 ⊢
 go_upto_region 2 with (first
  | (refine wpList_load_mid (by rfl) 24 (.tmp 1) (by rfl) m 0 (by rfl) [.int .i64 nm,.slice va vn vc] _ HB1.out.1.range Tryz.underlying24 rfl (by kernel_rfl) ?_)
  | (go_at_call 18;refine (H35.out _ HB1.out.2).mono ?_;intro e2 w2 hh;obtain ⟨y2,d2,rfl,hv2,hb⟩:=hh.out;have HB2:Hid (Bx w2 m 24 [.int .i64 nm,.slice va vn vc]∧Below m w w2∧Zf w2 (.slice y2 kz d2) zs):=⟨HB1.out.1.below hb,HB1.out.2.trans (hb.mono (by have:=HB1.out.1.lt;omega)),hv2⟩;clear hh hb hv2)
  | (go_at_call 12;refine (C5 _ zs _ (by have:=HLZ.out;omega) HB2.out.2.2).mono ?_;rintro e3 w3 ⟨v3,rfl,hm3,hb⟩;have HB3:Hid (Bx w3 m 24 [.int .i64 nm,.slice va vn vc]∧Below m w w3∧X4 w2.heap.size w3 v3 zs∧m<w2.heap.size):=⟨HB2.out.1.below hb,HB2.out.2.1.trans (hb.mono (by have:=HB2.out.1.lt;omega)),hm3,HB2.out.1.lt⟩;obtain ⟨xg,xc,rfl⟩:∃ g c,v3=.slice (some ⟨g,0,none⟩) zs.length c:=(by obtain ⟨g,c,q,_⟩:=hm3;exact ⟨g,c,q⟩);clear hm3 hb))
 rw[HLZ.out.1] at HB3 ⊢
 go_upto_region 3 with (first
  | (refine wpList_load_mid (by rfl) 24 (.tmp 1) (by rfl) m 0 (by rfl) [.int .i64 nm,.slice va vn vc] _ HB3.out.1.range Tryz.underlying24 rfl (by kernel_rfl) ?_)
  | (go_at_call 27;refine (H52.out _ HB3.out.2.1).mono ?_;intro e4 w4 hh;obtain ⟨rfl,hb⟩:=hh.out;have HB4:Hid (Bx w4 m 24 [.int .i64 nm,.slice va vn vc]∧Below m w w4∧X4 w2.heap.size w4 (.slice (some ⟨xg,0,none⟩) kz xc) zs):=⟨HB3.out.1.below hb,HB3.out.2.1.trans (hb.mono (by have:=HB3.out.1.lt;omega)),HB3.out.2.2.1.kept hb.block⟩;clear hh hb)
  | (go_at_call 26;refine (H21.out _ _ HB4.out.2.1 HB4.out.2.2.view).mono ?_;rintro e5 w5 ⟨c,rfl,hp5,hb⟩;have HB5:Hid (Bx w5 m 24 [.int .i64 nm,.slice va vn vc]∧Below m w w5∧X4 w2.heap.size w5 (.slice (some ⟨xg,0,none⟩) kz xc) zs):=⟨HB4.out.1.below hb,HB4.out.2.1.trans (hb.mono (by have:=HB4.out.1.lt;omega)),HB4.out.2.2.kept hb.block⟩;have HC5:Hid (Ψ w4.heap.size c w5∧xg<w4.heap.size∧m<w4.heap.size):=⟨hp5,(by obtain ⟨g,cc,q,ho⟩:=HB4.out.2.2;injection q with q1 q2 q3;injection q1 with q1;injection q1 with q1;subst q1;exact (Zy ho rfl).2),HB4.out.1.lt⟩;clear hp5 hb))
 have s0:w5.cell? ⟨m,0,none⟩=some (.int .i64 nm):=HB5.out.1.cell 0 _ rfl
 have s1:w5.cell? ⟨m,1,none⟩=some (.slice va vn vc):=HB5.out.1.cell 1 _ rfl
 have K52:Hid (Calls Tryz.prog 27 #[.agg #[.int .i64 nm,.slice va vn vc]] w5.drew fun e u'=>Hid (e=.returned (.agg #[.string S,.string M,.string T,.int .i64 aa,.int .i64 (kz:Nat)])∧Below w5.heap.size w5 u')):=(H52.out w5.drew HB5.out.2.1.drew).mono fun e u' hh=>⟨hh.out.1,(Below.refl _ _).drew.trans hh.out.2⟩
 go_region_held3 (fun u=>u.cell? ⟨m,0,none⟩=some (.int .i64 nm)∧u.cell? ⟨m,1,none⟩=some (.slice va vn vc)) (first | exact ⟨s0,s1⟩ | exact hS6 | exact hS7 | exact hS8 | go_keep)
  (first
   | (go_at_call 27;refine K52.out.mono ?_;intro e6 w6 hh;obtain ⟨rfl,hb6⟩:=hh.out;have HB6:Hid (Below w5.heap.size w5 w6):=hb6;have hX6:=HB5.out.1.below hb6;have hS6:w6.cell? ⟨m,0,none⟩=some (.int .i64 nm)∧w6.cell? ⟨m,1,none⟩=some (.slice va vn vc):=⟨hX6.cell 0 _ rfl,hX6.cell 1 _ rfl⟩;clear hh hb6 hX6)
   | (go_at_call 18;refine (H35.out w6 (HB5.out.2.1.trans (HB6.out.mono (by have:=HB5.out.1.lt;omega)))).mono ?_;intro e7 w7 hh;obtain ⟨y7,d7,rfl,hv7,hb7⟩:=hh.out;have HB7:Hid (Below w5.heap.size w5 w7∧Zf w7 (.slice y7 kz d7) zs):=⟨HB6.out.trans (hb7.mono HB6.out.size),hv7⟩;have hX7:=HB5.out.1.below HB7.out.1;have hS7:w7.cell? ⟨m,0,none⟩=some (.int .i64 nm)∧w7.cell? ⟨m,1,none⟩=some (.slice va vn vc):=⟨hX7.cell 0 _ rfl,hX7.cell 1 _ rfl⟩;clear hh hb7 hv7 hX7)
   | (go_at_call 28;refine (H22.out w7 _ (HB5.out.2.1.trans (HB7.out.1.mono (by have:=HB5.out.1.lt;omega))) HB7.out.2).mono ?_;rintro e8 w8 ⟨rp,rfl,hb8⟩;have HB8:Hid (Below w5.heap.size w5 w8):=HB7.out.1.trans (hb8.mono HB7.out.1.size);have hX8:=HB5.out.1.below HB8.out;have hS8:w8.cell? ⟨m,0,none⟩=some (.int .i64 nm)∧w8.cell? ⟨m,1,none⟩=some (.slice va vn vc):=⟨hX8.cell 0 _ rfl,hX8.cell 1 _ rfl⟩;clear hb8 hX8))
 have HB9:Hid (Bx w8 m 24 [.int .i64 nm,.slice va vn vc]∧Below m w w8∧X4 w2.heap.size w8 (.slice (some ⟨xg,0,none⟩) kz xc) zs):=⟨HB5.out.1.below HB8.out,HB5.out.2.1.trans (HB8.out.mono (by have:=HB5.out.1.lt;omega)),HB5.out.2.2.kept HB8.out.block⟩
 have HC9:Hid (Ψ w4.heap.size c w8∧xg<w4.heap.size∧m<w4.heap.size):=⟨hΨ.out _ _ _ _ HC5.out.1 (fun b _ hb=>HB8.out.block b hb) HB8.out.size,HC5.out.2⟩
 clear s0 s1 hS6 hS7 hS8 HB5 HC5 K52
 go_upto_region 7 with (first
  | (refine wpList_load_mid (by rfl) 24 (.tmp 1) (by rfl) m 0 (by rfl) [.int .i64 nm,.slice va vn vc] _ HB9.out.1.range Tryz.underlying24 rfl (by kernel_rfl) ?_)
  | (go_at_call 18;refine (H35.out _ HB9.out.2.1).mono ?_;intro e9 w9 hh;obtain ⟨y9,d9,rfl,hv9,hb⟩:=hh.out;have HB10:Hid (Below w8.heap.size w8 w9∧Zf w9 (.slice y9 kz d9) zs):=⟨hb,hv9⟩;clear hh hb hv9)
  | (go_at_call 29;refine (Ln _ _ zs w2.heap.size _ (HB9.out.2.2.kept HB10.out.1.block) HB10.out.2).mono ?_;rintro e10 w10 ⟨rfl,hw⟩;have HB11:Hid (Below w8.heap.size w8 w10):=(by obtain ⟨q,rfl⟩:=hw;exact Below.drewN HB10.out.1 q);clear hw))
 have HI:Hid (∃ ys:List Int,ys.length=kz+70∧w10.ownsRow w2.heap.size 5 1 (.slice (some ⟨xg,0,none⟩) (kz+70) xc) (kz+70) (Za ys)):=by
  obtain ⟨g,cc,q,ho⟩:=HB9.out.2.2.kept HB11.out.block
  injection q with q1 q2 q3
  injection q1 with q1
  injection q1 with q1
  subst q1 q3
  rw[HLZ.out.1] at ho
  exact ⟨zs++marks 70,by simp [marks,HLZ.out.1],ho⟩
 have HC10:Hid (Ψ w4.heap.size c w10∧Below m w w10):=⟨hΨ.out _ _ _ _ HC9.out.1 (fun b _ hb=>HB11.out.block b hb) HB11.out.size,HB9.out.2.1.trans (HB11.out.mono (by have:=HB9.out.1.lt;omega))⟩
 have HXG:Hid (m≤xg):=by
  obtain ⟨g,cc,q,ho⟩:=HB9.out.2.2
  injection q with q1 q2 q3
  injection q1 with q1
  injection q1 with q1
  subst q1
  exact Nat.le_trans (Nat.le_of_lt HB3.out.2.2.2) (Zy ho rfl).1
 have hkz:kz≤1000:=HLZ.out.2
 go_loopw [10] (fun vi wr=>∃ k:Nat,vi=.int .i64 (k:Nat)∧k≤kz∧Hid ((∃ ys:List Int,ys.length=kz+70∧wr.ownsRow w2.heap.size 5 1 (.slice (some ⟨xg,0,none⟩) (kz+70) xc) (kz+70) (Za ys))∧Ψ w4.heap.size c wr∧Below m w wr)) (fun vi _=>kz-(intOf vi).toNat)
 case atStart=>exact ⟨0,rfl,by omega,HI.out,HC10.out⟩
 case round=>as_aux_lemma=>
  obtain ⟨k,rfl,hk,HR⟩:=hrel
  clear HI HC10
  by_cases hlt:k<kz
  ·obtain ⟨ys,hyl,hyo⟩:=HR.out.1
   obtain ⟨z,HZ⟩:∃ z,Hid (ys.getD k 0=z):=⟨_,rfl⟩
   have c0:wr.cell? ⟨xg,k,none⟩=some (.int .u8 z):=by
    have hk2:k<ys.length:=by omega
    have q:=World.ownsRow.cells hyo (g:=xg) rfl k (.int .u8 z) (by simp [Za,List.getElem?_map,List.getElem?_eq_getElem hk2,←HZ.out,List.getD,List.getElem?_eq_getElem hk2])
    rw[Addr.add_lit,Nat.zero_add] at q
    exact q
   have f0:wr.frozen? ⟨xg,k,none⟩=false:=hyo.frozenAt k
   have g0:(0:Int)≤(k:Int):=by omega
   have g1:(k:Int)<(kz:Int):=by omega
   have HST:Hid (∀ x:Int,(∃ ys:List Int,ys.length=kz+70∧(wr.setCell ⟨xg,k,none⟩ (.int .u8 x)).ownsRow w2.heap.size 5 1 (.slice (some ⟨xg,0,none⟩) (kz+70) xc) (kz+70) (Za ys))∧Ψ w4.heap.size c (wr.setCell ⟨xg,k,none⟩ (.int .u8 x))∧Below m w (wr.setCell ⟨xg,k,none⟩ (.int .u8 x))):=fun x=>by
    obtain ⟨p1,p2⟩:=hyo.stored k (.int .u8 x)
    have hne:∀ b,w4.heap.size≤b→(wr.setCell ⟨xg,k,none⟩ (.int .u8 x)).heap[b]?=wr.heap[b]?:=fun b hb=>Below.heap_setCell _ ⟨xg,k,none⟩ _ b (by show b≠xg;have:=HC9.out.2.1;omega)
    refine ⟨⟨ys.set k x,by simp [hyl],?_⟩,hΨ.out _ _ _ _ HR.out.2.1 (fun b hb _=>hne b hb) p2.size,HR.out.2.2.setCell HXG.out _⟩
    rw[show Za (ys.set k x)=(Za ys).set k (.int .u8 x) by simp [Za,List.map_set]]
    exact p1
   clear hyo
   go_wp2
   exact ⟨⟨k+1,by simp,by omega,HST.out _⟩,by simp [intOf];omega⟩
  ·have g1:¬ (k:Int)<(kz:Int):=by omega
   go_wp2_with (go_at_call 14;refine (Tm _ _).mono ?_;rintro e13 x13 ⟨rfl,hw⟩;obtain rfl:=hw.symm;clear hw)
   go_ret3
   refine ⟨w4.heap.size,c,rp,rfl,?_,HR.out.2.1,?_⟩
   ·have:=HC9.out.2.2;have:=HM.out;omega
   ·first | exact HR.out.2.2 | (rw[HM.out];exact HR.out.2.2)
end Go.Proofs.YtehlppaidgkpaaaGreatDoor
