import Derived.Test.YtcnikfikpnnblaaGreatDoorRows
import Derived.Test.YtcnikfikpnnblaaGreatDoorMak
import Derived.ProofKit
import Derived.OpenShut
import Derived.ShutString
import Derived.ChangeOld
import Derived.SizedLaws
import Derived.Below
import Derived.Deep.DeepHandedRow
import Derived.Deep.Slices
import Derived.Lib.LaidTab
import Derived.Lib.LaidU8
import Derived.Deep.DeepWitnessRowRef
namespace Go.Proofs.YtcnikfikpnnblaaGreatDoor
open Go.ChangeShapes Go.WideShapes Go.ChangeAt Go.RowKit
set_option linter.unusedVariables false
set_option linter.unusedSimpArgs false
theorem own : ownKnob Tryz.prog.godebug = none := by kernel_rfl
theorem laidOut : laidOutB Tryz.prog = true := by kernel_rfl
theorem cells129 : Tryz.prog.cellsOf 129 = 4 := by kernel_rfl
theorem cells9 : Tryz.prog.cellsOf 9 = 1 := by kernel_rfl
theorem cells3 : Tryz.prog.cellsOf 3 = 1 := by kernel_rfl
theorem und128 : Tryz.prog.underlying 128 = some (.slice 129) := by kernel_rfl
/-- A variable that is listed reads as its datum. -/
theorem laid_var {P : Program} {W : World} {laid : List (String × DataW Unit)} : ∀ {ps : List MemPlace}, DataW.LaidVars P W laid ps → ∀ n d, (n, d) ∈ laid → ∃ g t cs fuel p, P.globalNamed n = some g ∧ (P.globals[g]?).map (·.type) = some t ∧ W.var? P n = some cs ∧ DataW.trod (fun _ => ()) P W 0 (fun _ => true) false fuel t cs.toList = some (d, p) := by
 induction laid with
 | nil => intro ps h n d hm; cases hm
 | cons x r ih =>
  intro ps h n d hm
  obtain ⟨n', d'⟩ := x
  obtain ⟨g, t, cs, fuel, p, q, h1, h2, h3, h4, h5, _⟩ := h
  rcases List.mem_cons.1 hm with e | e
  ·injection e with e1 e2
   subst e1 e2
   exact ⟨g, t, cs, fuel, p, h1, h2, h3, h4⟩
  ·exact ih h5 n d e
def refD : List (DataW Unit) := match (Rows.laid_coffer_cofferref03_modes : DataW Unit) with
 | .slice l _ => l
 | _ => []
theorem refD_eq : (Rows.laid_coffer_cofferref03_modes : DataW Unit) = .slice refD [] := rfl
theorem refD_len : refD.length = 17 := rfl
theorem row_of (k : Nat) (hk : k < 17) : ∃ (n m s : List UInt8) (mo : Int), refD[k]? = some (.agg [.lit (.string n), .lit (.string m), .lit (.string s), .lit (.int .i64 mo)]) ∧ refL.getD k [] = [.string ⟨n.toArray⟩, .string ⟨m.toArray⟩, .string ⟨s.toArray⟩, .int .i64 mo] := by
 match k, hk with
 | 0, _ => exact ⟨_, _, _, _, rfl, rfl⟩
 | 1, _ => exact ⟨_, _, _, _, rfl, rfl⟩
 | 2, _ => exact ⟨_, _, _, _, rfl, rfl⟩
 | 3, _ => exact ⟨_, _, _, _, rfl, rfl⟩
 | 4, _ => exact ⟨_, _, _, _, rfl, rfl⟩
 | 5, _ => exact ⟨_, _, _, _, rfl, rfl⟩
 | 6, _ => exact ⟨_, _, _, _, rfl, rfl⟩
 | 7, _ => exact ⟨_, _, _, _, rfl, rfl⟩
 | 8, _ => exact ⟨_, _, _, _, rfl, rfl⟩
 | 9, _ => exact ⟨_, _, _, _, rfl, rfl⟩
 | 10, _ => exact ⟨_, _, _, _, rfl, rfl⟩
 | 11, _ => exact ⟨_, _, _, _, rfl, rfl⟩
 | 12, _ => exact ⟨_, _, _, _, rfl, rfl⟩
 | 13, _ => exact ⟨_, _, _, _, rfl, rfl⟩
 | 14, _ => exact ⟨_, _, _, _, rfl, rfl⟩
 | 15, _ => exact ⟨_, _, _, _, rfl, rfl⟩
 | 16, _ => exact ⟨_, _, _, _, rfl, rfl⟩
 | n + 17, h => exact absurd h (by omega)
theorem str_of {H : Type} {enc : TypeId × Value → H} {W : World} {n : Nat} {c : Value} {y : DataW H × List MemPlace} {l : List UInt8} {held : Bool} (h : DataW.trod enc Tryz.prog W 0 (fun _ => true) held n 9 [c] = some y) (hy : y.1 = .lit (.string l)) : c = .string ⟨l.toArray⟩ := by
 obtain ⟨s, hz, hx, _⟩ := DataW.trod_string Tryz.underlying9 h
 rw [hx] at hy
 have e : s.data.toList = l := by simpa using hy
 have hc : c = .string s := by simpa using hz
 rw [hc, ← e]
theorem int_of {H : Type} {enc : TypeId × Value → H} {W : World} {n : Nat} {c : Value} {y : DataW H × List MemPlace} {z : Int} {held : Bool} (h : DataW.trod enc Tryz.prog W 0 (fun _ => true) held n 3 [c] = some y) (hy : y.1 = .lit (.int .i64 z)) : c = .int .i64 z := by
 obtain ⟨s, hz, hx, _⟩ := DataW.trod_int Tryz.underlying3 h
 rw [hx] at hy
 have e : s = z := by simpa using hy
 have hc : c = .int .i64 s := by simpa using hz
 rw [hc, e]
set_option maxRecDepth 100000 in
theorem md_of {W : World} {laid : List (String × DataW Unit)} (h : laidMet Tryz.prog laid W) (hm : ("coffer/cofferref03.modes", Rows.laid_coffer_cofferref03_modes) ∈ laid) : ∃ G o cp, MdAt W G o cp := by
 rw [refD_eq] at hm
 obtain ⟨ps, hL, _⟩ := h
 obtain ⟨g', t', cs, fuel, p, hg', ht', hvar, hd⟩ := laid_var hL _ _ hm
 have hg : Tryz.prog.globalNamed "coffer/cofferref03.modes" = some 0 := by kernel_rfl
 obtain rfl := Option.some.inj (hg.symm.trans hg')
 have hty : (Tryz.prog.globals[0]?).map (·.type) = some 128 := by kernel_rfl
 obtain rfl := Option.some.inj (hty.symm.trans ht')
 rcases Deep.open_slice und128 hd with ⟨hcs, hx⟩ | ⟨a, len, cap, m, n, D, Pl, hcs, hb, hl, hm, hmm, hx, hc⟩
 ·cases hx
 ·simp only [if_true] at hmm
  subst hmm
  have hD : refD = (List.range len).map D := by
   have := congrArg Prod.fst hx
   simp only [DataW.slice.injEq] at this
   exact this.1
  have hlen : len = 17 := by
   have := congrArg List.length hD
   simp [refD_len] at this
   omega
  subst hlen
  have hcell : ∀ i, i < 17 → ∀ j, j < 4 → W.cell? ((a.add (i * 4)).add j) = (refL.getD i [])[j]? := fun i hi => by
   obtain ⟨cs', h1, h2⟩ := hc i (by omega)
   rw [cells129] at h1
   obtain ⟨_, hlen, hcc⟩ := World.cells?_some h1
   obtain ⟨ys, k2, _, hx2, _, hyl, hfs⟩ := DataW.trod_struct Tryz.underlying129 h2
   obtain ⟨nm, md, st, mo, r1, r2⟩ := row_of i hi
   have hDi : D i = .agg [.lit (.string nm), .lit (.string md), .lit (.string st), .lit (.int .i64 mo)] := by
    rw [hD] at r1
    simpa [List.getElem?_map, List.getElem?_range hi] using r1
   match cs', hlen with
   | [v0, v1, v2, v3], _ =>
    match ys, hyl with
    | [y0, y1, y2, y3], _ =>
     have k0 := hfs 0 _ rfl
     have k1 := hfs 1 _ rfl
     have k2 := hfs 2 _ rfl
     have k3 := hfs 3 _ rfl
     simp [cells3, cells9] at k0 k1 k2 k3
     have hDe : D i = .agg [y0.1, y1.1, y2.1, y3.1] := by simpa using congrArg Prod.fst hx2
     rw [hDi] at hDe
     simp only [DataW.agg.injEq, List.cons.injEq, and_true] at hDe
     obtain ⟨e0, e1, e2, e3⟩ := hDe
     obtain rfl := str_of k0 e0.symm
     obtain rfl := str_of k1 e1.symm
     obtain rfl := str_of k2 e2.symm
     obtain rfl := int_of k3 e3.symm
     intro j hj
     rw [r2]
     exact hcc j (by omega)
  obtain ⟨G, o, spot⟩ := a
  have hc0 := hcell 0 (by decide) 0 (by decide)
  obtain ⟨_, _, _, _, _, r2⟩ := row_of 0 (by decide)
  rw [r2] at hc0
  have hspot : spot = none := by simpa [Addr.add] using World.cell?_spot hc0
  subst hspot
  have hv : W.cell? ⟨0, 0, none⟩ = some (.slice (some ⟨G, o, none⟩) 17 m) := by
   rw [World.var?_cell hg hvar 0]
   have : cs = #[.slice (some ⟨G, o, none⟩) 17 m] := by
    cases cs
    simpa using hcs
   rw [this]
   rfl
  refine ⟨G, o, m, hv, World.block_lt_of_cell? W _ hv, by simpa [Addr.add] using World.block_lt_of_cell? W _ hc0, fun k hk j hj => ?_⟩
  have q := hcell k hk j hj
  rw [Addr.add_lit, Addr.add_lit] at q
  exact q
theorem tab_at {W : World} {laid : List (String × DataW Unit)} (h : laidMet Tryz.prog laid W) (k : IntKind) (name : String) (zs : List Int) (g : Nat) (t e : TypeId) (n : Nat) (hm : (name, Lib.tabData k zs) ∈ laid) (hg : Tryz.prog.globalNamed name = some g) (hty : (Tryz.prog.globals[g]?).map (·.type) = some t) (ht : Tryz.prog.underlying t = some (.array n e)) (he : Tryz.prog.underlying e = some (.int k)) (hc : Tryz.prog.cellsOf e = 1) (hct : Tryz.prog.cellsOf t = n) : Lib.TabIs Tryz.prog W name k zs := by
 obtain ⟨ps, hL, _⟩ := h
 obtain ⟨g', t', cs, fuel, p, hg', ht', hvar, hd⟩ := laid_var hL name _ hm
 obtain rfl := Option.some.inj (hg.symm.trans hg')
 obtain rfl := Option.some.inj (hty.symm.trans ht')
 unfold Lib.TabIs
 rw [hvar, ← Lib.cells_of_tab (n := n) (e := e) ht he hc hct hd]
def rconL : List Int := [1, 2, 4, 8, 16, 32, 64, 128, 27, 54]
theorem rcon_at : ∀ i : Fin 10, rconL.getD i.1 0 = (rcT i.1 : Nat) := by decide +kernel
/-- The tables as the rows list them. -/
theorem env_of {W : World} {laid : List (String × DataW Unit)} (h : laidMet Tryz.prog laid W) (h5 : ("coffer/rijndael.rcon", Lib.tabData .u8 rconL) ∈ laid) (h6 : ("internal/strconv.uint64pow10", Lib.tabData .u64 Lib.pow10Tab) ∈ laid) (h7 : ("coffer/cofferref03.modes", Rows.laid_coffer_cofferref03_modes) ∈ laid) : ∃ G o cp, Env W G o cp := by
 obtain ⟨G, o, cp, hD⟩ := md_of h h7
 have rc := tab_at h .u8 "coffer/rijndael.rcon" rconL 3 179 5 10 h5 (by kernel_rfl) (by kernel_rfl) (by kernel_rfl) (by kernel_rfl) (by kernel_rfl) (by kernel_rfl)
 have pw := tab_at h .u64 "internal/strconv.uint64pow10" Lib.pow10Tab 4 287 23 20 h6 (by kernel_rfl) (by kernel_rfl) (by kernel_rfl) (by kernel_rfl) (by kernel_rfl) (by kernel_rfl)
 refine ⟨G, o, cp, pw, hD, fun i hi => ?_⟩
 have hc := rc.cell (g := 3) (by kernel_rfl) i (by simpa [rconL] using hi)
 rw [hc, ← rcon_at ⟨i, hi⟩]
theorem cells5 : Tryz.prog.cellsOf 5 = 1 := by kernel_rfl
theorem bytes5 : Tryz.prog.bytesOf 5 = 1 := by kernel_rfl

/-- What came in as a list of bytes. -/
theorem open_bytes {H : Type} {enc : TypeId × Value → H} {W : World} {a : Option Addr} {len cap : Nat} {d : DataW H} {p : List MemPlace}
  (h : DataW.Trod enc Tryz.prog W 0 (fun _ => true) true 24 (.slice a len cap) d p) :
  ∃ xs : List Int, xs.length = len ∧ AllBytes xs ∧ View W (.slice a len cap) xs ∧ (d = .nil ∧ xs = [] ∨ ∃ sp, d = .slice (lits .u8 xs) sp) := by
 obtain ⟨fuel, hf⟩ := h
 rcases open_ints Tryz.underlying24 Tryz.underlying5 cells5 hf with ⟨hcs, hx⟩ | ⟨x, l, c, zs, hcs, _, hl, hm, hz, hx, hcell, hwz⟩
 ·simp [Value.cells] at hcs
  obtain ⟨rfl, rfl, rfl⟩ := hcs
  simp only [Prod.mk.injEq] at hx
  refine ⟨[], rfl, fun i => by simp, ⟨none, 0, rfl, Nat.le_refl _, by simp, fun _ => rfl, .inl rfl⟩, .inl ⟨hx.1, rfl⟩⟩
 ·simp [Value.cells] at hcs
  obtain ⟨rfl, rfl, rfl⟩ := hcs
  simp only [Prod.mk.injEq] at hx
  have hzl : zs.length = cap := by simpa using hz
  have hlen : (zs.take len).length = len := by simp; omega
  have hw : ∀ n ∈ zs, 0 ≤ n ∧ n < 256 := by
   intro n hn
   have := hwz n hn
   have h1 : IntKind.u8.min = 0 := rfl
   have h2 : IntKind.u8.max = 255 := rfl
   simp only [Lit.wf, Bool.and_eq_true, decide_eq_true_eq] at this
   omega
  refine ⟨zs.take len, hlen, ?_, ⟨some x, cap, by rw [hlen], by omega, hm, (fun h => by cases h), ?_⟩, .inr ⟨_, hx.1⟩⟩
  ·intro i
   rw [List.getD_eq_getElem?_getD]
   cases hg : (zs.take len)[i]? with
   | none => simp
   | some n =>
    have hn : n ∈ zs := List.mem_of_mem_take (List.mem_of_getElem? hg)
    simpa using hw n hn
  ·by_cases h0 : len = 0
   ·left
    subst h0
    simp
   ·right
    obtain ⟨b, off, spot⟩ := x
    have hc0 := hcell 0 (by omega)
    have hspot : spot = none := by simpa [Addr.add] using World.cell?_spot hc0
    subst hspot
    refine ⟨b, off, rfl, fun i hi => ?_⟩
    rw [hlen] at hi
    have := hcell i (by omega)
    rw [Addr.add_lit] at this
    rw [this]
    congr 2
    simp [List.getD_eq_getElem?_getD, hi]

/-- The reach of a list of bytes. -/
theorem reach_bytes {H : Type} {ts : List TypeId} {ds : List (DataW H)} (hsz : (DataW.weightsEach Tryz.prog ts ds).all (· ≤ reachBytes) = true) {j : Nat} {d : DataW H} {xs : List Int}
  (ht : ts[j]? = some 24) (hd : ds[j]? = some d) (h : d = .nil ∧ xs = [] ∨ ∃ sp, d = .slice (lits .u8 xs) sp) : xs.length ≤ 140737488351232 := by
 rcases h with ⟨_, rfl⟩ | ⟨sp, rfl⟩
 ·simp
 ·have := sized_slice hsz (j := j) (t := 24) (e := 5) ht hd Tryz.underlying24
  rw [bytes5] at this
  simp only [lits, List.length_map, reachBytes] at this
  omega
end Go.Proofs.YtcnikfikpnnblaaGreatDoor
