import Derived.Test.YtjcdhfkilnbjgaaDoorJuf
import Derived.Test.YtjcdhfkilnbjgaaDoorPart13
import Derived.Deep.Slices
import Derived.OpenShut
namespace Go.Proofs.YtjcdhfkilnbjgaaDoor
open Go.Deep Go.ChangeShapes Go.WideShapes Go.ChangeAt Go.RowKit
set_option linter.unusedVariables false
set_option maxRecDepth 100000
theorem und47 : Tryd.prog.underlying 47 = some (.slice 50) := by kernel_rfl
theorem cells50s : Tryd.prog.cellsOf 50 = 5 := by kernel_rfl
theorem cells5s : Tryd.prog.cellsOf 5 = 1 := by kernel_rfl

theorem cell_u8 {H : Type} {enc : TypeId × Value → H} {W : World} {n : Nat} {c : Value} {y : DataW H × List MemPlace} (h : DataW.trod enc Tryd.prog W 0 (fun _ => true) true n 5 [c] = some y) : ∃ z : F, c = .int .u8 (z.1 : Nat) := by
  obtain ⟨z, hz, _, hw⟩ := DataW.trod_int Tryd.underlying5 h
  simp [Lit.wf, IntKind.min, IntKind.max, IntKind.signed, IntKind.bits] at hw
  have e : c = .int .u8 z := by simpa using hz
  exact ⟨⟨z.toNat, by omega⟩, by rw [e]; congr 1; show z = ((z.toNat : Nat) : Int); omega⟩
/-- A pick's cells, opened. -/
theorem open_pk {H : Type} {enc : TypeId × Value → H} {W : World} {k : Nat} {cs : List Value} {y : DataW H × List MemPlace} (hl : cs.length = 5) (h : DataW.trod enc Tryd.prog W 0 (fun _ => true) true k 50 cs = some y) : ∃ (a i q : Int) (x z : F), cs = pkV a i q x z := by
  obtain ⟨ys, k2, _, hx, _, hyl, hfs⟩ := DataW.trod_struct Tryd.underlying50 h
  match cs, hl with
  | [v0, v1, v2, v3, v4], _ =>
    match ys, hyl with
    | [y0, y1, y2, y3, y4], _ =>
      have k0 := hfs 0 _ rfl
      have k1 := hfs 1 _ rfl
      have k2 := hfs 2 _ rfl
      have k3 := hfs 3 _ rfl
      have k4 := hfs 4 _ rfl
      simp [cells3, cells5s] at k0 k1 k2 k3 k4
      obtain ⟨a, rfl⟩ := cell_int k0
      obtain ⟨i, rfl⟩ := cell_int k1
      obtain ⟨q, rfl⟩ := cell_int k2
      obtain ⟨x, rfl⟩ := cell_u8 k3
      obtain ⟨z, rfl⟩ := cell_u8 k4
      exact ⟨a, i, q, x, z, rfl⟩
/-- A pick that came in. -/
theorem open_pick1 {H : Type} {enc : TypeId × Value → H} {W : World} {r : Reach} {b0 : Nat} {v : Value} {d : DataW H} {p : List MemPlace} (hv : Value.okWide Tryd.prog W r b0 50 v) (h : DataW.Trod enc Tryd.prog W 0 (fun _ => true) true 50 v d p) :
    ∃ (a i q : Int) (x z : F), v = .agg (pkV a i q x z).toArray := by
  obtain ⟨cs, rfl, hsz⟩ := okWide_struct Tryd.underlying50 hv
  obtain ⟨fuel, hf⟩ := h
  obtain ⟨a, i, q, x, z, e⟩ := open_pk (cs := cs.toList) (by simpa using hsz.trans cells50s) (by simpa [Value.cells] using hf)
  exact ⟨a, i, q, x, z, by rw [← e]⟩
/-- Picks that came in. -/
theorem open_picks {H : Type} {enc : TypeId × Value → H} {W : World} {a : Option Addr} {n c : Nat} {d : DataW H} {p : List MemPlace}
    (h : DataW.Trod enc Tryd.prog W 0 (fun _ => true) true 47 (.slice a n c) d p) :
    ∃ (pA pI pK : Nat → Int) (pB pT : Nat → F), ∀ i, i < n → i < 40 → ∃ b off, a = some ⟨b, off, none⟩ ∧ W.rangeAt b (off + i * 5) (pkV (pA i) (pI i) (pK i) (pB i) (pT i)) := by
  have key : ∀ i, ∃ t : (Int × Int × Int) × F × F, i < n → ∃ b off, a = some ⟨b, off, none⟩ ∧ W.rangeAt b (off + i * 5) (pkV t.1.1 t.1.2.1 t.1.2.2 t.2.1 t.2.2) := by
    obtain ⟨fuel, hf⟩ := h
    rcases open_slice und47 hf with ⟨hcs, hx⟩ | ⟨a', len, cap, m, k, D, Pl, hcs, hb, hl, hm, hmm, hx, hc⟩
    · simp [Value.cells] at hcs
      obtain ⟨rfl, rfl, rfl⟩ := hcs
      exact fun i => ⟨((0, 0, 0), 0, 0), fun hi => absurd hi (Nat.not_lt_zero _)⟩
    · simp [Value.cells] at hcs
      obtain ⟨rfl, rfl, rfl⟩ := hcs
      simp only [if_true] at hmm
      subst hmm
      intro i
      by_cases hi : i < n
      · obtain ⟨cs', h1, h2⟩ := hc i (by omega)
        rw [cells50s] at h1
        obtain ⟨_, hlen, hcell⟩ := World.cells?_some h1
        obtain ⟨xa, xi, xq, xx, xz, rfl⟩ := open_pk hlen h2
        obtain ⟨b, off, spot⟩ := a'
        have hspot : spot = none := by
          obtain ⟨cs0, z1, _⟩ := hc 0 (by omega)
          rw [cells50s] at z1
          obtain ⟨_, zl, zc⟩ := World.cells?_some z1
          have q := zc 0 (by omega)
          have hz : ∃ u, cs0[0]? = some u := ⟨_, List.getElem?_eq_getElem (by omega)⟩
          obtain ⟨u, hz⟩ := hz
          rw [hz] at q
          simpa [Addr.add] using World.cell?_spot q
        subst hspot
        refine ⟨((xa, xi, xq), xx, xz), fun _ => ⟨b, off, rfl, fun j v hv => ?_⟩⟩
        have hj : j < 5 := (List.getElem?_eq_some_iff.1 hv).1
        have q := hcell j hj
        rw [Addr.add_lit, Addr.add_lit, hv] at q
        exact q
      · exact ⟨((0, 0, 0), 0, 0), fun h => absurd h hi⟩
  obtain ⟨f, hf⟩ := Classical.axiomOfChoice key
  exact ⟨fun i => (f i).1.1, fun i => (f i).1.2.1, fun i => (f i).1.2.2, fun i => (f i).2.1, fun i => (f i).2.2, fun i hi _ => hf i hi⟩
end Go.Proofs.YtjcdhfkilnbjgaaDoor
