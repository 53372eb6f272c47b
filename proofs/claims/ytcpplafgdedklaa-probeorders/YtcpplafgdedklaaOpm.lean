import Derived.Test.YtcpplafgdedklaaLw
import Derived.Test.YtcpplafgdedklaaRows
import Derived.ProofKit
import Derived.OpenShut
import Derived.ShutString
import Derived.ChangeOld
import Derived.SizedLaws
import Derived.Deep.Slices
namespace Go.Proofs.Ytcpplafgdedklaa
open Go.Deep Go.ChangeShapes Go.WideShapes Go.ChangeAt Go.RowKit
set_option linter.unusedVariables false
set_option linter.unusedSimpArgs false
theorem cells2 : Try.prog.cellsOf 2 = 1 := by kernel_rfl
theorem cells3 : Try.prog.cellsOf 3 = 1 := by kernel_rfl
theorem cells4 : Try.prog.cellsOf 4 = 1 := by kernel_rfl
theorem cells9 : Try.prog.cellsOf 9 = 1 := by kernel_rfl
theorem cells24 : Try.prog.cellsOf 24 = 1 := by kernel_rfl
theorem cells26 : Try.prog.cellsOf 26 = 4 := by kernel_rfl
theorem cells28 : Try.prog.cellsOf 28 = 3 := by kernel_rfl
theorem cells29 : Try.prog.cellsOf 29 = 1 := by kernel_rfl
theorem cells30 : Try.prog.cellsOf 30 = 1 := by kernel_rfl
theorem cells31 : Try.prog.cellsOf 31 = 1 := by kernel_rfl
theorem cells33 : Try.prog.cellsOf 33 = 2 := by kernel_rfl
theorem cells35 : Try.prog.cellsOf 35 = 12 := by kernel_rfl
theorem cells36 : Try.prog.cellsOf 36 = 1 := by kernel_rfl
theorem cells38 : Try.prog.cellsOf 38 = 27 := by kernel_rfl
theorem cells44 : Try.prog.cellsOf 44 = 9 := by kernel_rfl
theorem list27 {α : Type} {cs : List α} (h : cs.length = 27) : ∃ c0 c1 c2 c3 c4 c5 c6 c7 c8 c9 c10 c11 c12 c13 c14 c15 c16 c17 c18 c19 c20 c21 c22 c23 c24 c25 c26, cs = [c0, c1, c2, c3, c4, c5, c6, c7, c8, c9, c10, c11, c12, c13, c14, c15, c16, c17, c18, c19, c20, c21, c22, c23, c24, c25, c26] := by
  match cs, h with
  | [c0, c1, c2, c3, c4, c5, c6, c7, c8, c9, c10, c11, c12, c13, c14, c15, c16, c17, c18, c19, c20, c21, c22, c23, c24, c25, c26], _ => exact ⟨c0, c1, c2, c3, c4, c5, c6, c7, c8, c9, c10, c11, c12, c13, c14, c15, c16, c17, c18, c19, c20, c21, c22, c23, c24, c25, c26, rfl⟩
theorem cell_i2 {H : Type} {enc : TypeId × Value → H} {W : World} {n : Nat} {c : Value} {y : DataW H × List MemPlace} (h : DataW.trod enc Try.prog W 0 (fun _ => true) true n 2 [c] = some y) : ∃ z, c = .int .i64 z := by
  obtain ⟨z, hz, _⟩ := DataW.trod_int Try.underlying2 h
  exact ⟨z, by simpa using hz⟩
theorem cell_i3 {H : Type} {enc : TypeId × Value → H} {W : World} {n : Nat} {c : Value} {y : DataW H × List MemPlace} (h : DataW.trod enc Try.prog W 0 (fun _ => true) true n 3 [c] = some y) : ∃ z, c = .int .i64 z := by
  obtain ⟨z, hz, _⟩ := DataW.trod_int Try.underlying3 h
  exact ⟨z, by simpa using hz⟩
theorem cell_u {H : Type} {enc : TypeId × Value → H} {W : World} {n : Nat} {c : Value} {y : DataW H × List MemPlace} (h : DataW.trod enc Try.prog W 0 (fun _ => true) true n 24 [c] = some y) : ∃ z, c = .int .u64 z := by
  obtain ⟨z, hz, _⟩ := DataW.trod_int Try.underlying24 h
  exact ⟨z, by simpa using hz⟩
theorem cell_b {H : Type} {enc : TypeId × Value → H} {W : World} {n : Nat} {c : Value} {y : DataW H × List MemPlace} (h : DataW.trod enc Try.prog W 0 (fun _ => true) true n 4 [c] = some y) : ∃ z, c = .bool z := by
  obtain ⟨z, hz, _⟩ := DataW.trod_bool Try.underlying4 h
  exact ⟨z, by simpa using hz⟩
theorem cell_s {H : Type} {enc : TypeId × Value → H} {W : World} {n : Nat} {c : Value} {y : DataW H × List MemPlace} (h : DataW.trod enc Try.prog W 0 (fun _ => true) true n 9 [c] = some y) : ∃ z, c = .string z := by
  obtain ⟨z, hz, _⟩ := DataW.trod_string Try.underlying9 h
  exact ⟨z, by simpa using hz⟩
theorem cell_sl {H : Type} {enc : TypeId × Value → H} {W : World} {n : Nat} {t e : TypeId} (hu : Try.prog.underlying t = some (.slice e)) {c : Value} {y : DataW H × List MemPlace} (h : DataW.trod enc Try.prog W 0 (fun _ => true) true n t [c] = some y) : ∃ a l k, c = .slice a l k := by
  rcases open_slice hu h with ⟨q, _⟩ | ⟨a2, l2, c2, _, _, _, _, q, _⟩
  · exact ⟨_, _, _, by simpa using q⟩
  · exact ⟨_, _, _, by simpa using q⟩
set_option maxRecDepth 100000 in
theorem cell_area {H : Type} {enc : TypeId × Value → H} {W : World} {n : Nat} {c0 c1 : Value} {y : DataW H × List MemPlace} (h : DataW.trod enc Try.prog W 0 (fun _ => true) true n 33 [c0, c1] = some y) : ∃ z0 z1, c0 = .int .i64 z0 ∧ c1 = .int .i64 z1 := by
  obtain ⟨d0, p0⟩ := y
  obtain ⟨xs, n, _, hx, _, hlen, hfs⟩ := DataW.trod_struct Try.underlying33 h
  match xs, hlen with
  | [y0, y1], _ =>
    have h0 := hfs 0 _ rfl
    have h1 := hfs 1 _ rfl
    simp [cells2, cells3, cells4, cells9, cells24, cells26, cells28, cells29, cells30, cells31, cells33, cells35, cells36] at h0 h1
    obtain ⟨z0, rfl⟩ := cell_i2 h0
    obtain ⟨z1, rfl⟩ := cell_i2 h1
    exact ⟨z0, z1, rfl, rfl⟩
set_option maxRecDepth 100000 in
theorem cell_shape {H : Type} {enc : TypeId × Value → H} {W : World} {n : Nat} {c0 c1 c2 c3 : Value} {y : DataW H × List MemPlace} (h : DataW.trod enc Try.prog W 0 (fun _ => true) true n 26 [c0, c1, c2, c3] = some y) : ∃ z0 z1 z2 z3, c0 = .int .i64 z0 ∧ c1 = .int .u64 z1 ∧ c2 = .int .i64 z2 ∧ c3 = .int .i64 z3 := by
  obtain ⟨d0, p0⟩ := y
  obtain ⟨xs, n, _, hx, _, hlen, hfs⟩ := DataW.trod_struct Try.underlying26 h
  match xs, hlen with
  | [y0, y1, y2, y3], _ =>
    have h0 := hfs 0 _ rfl
    have h1 := hfs 1 _ rfl
    have h2 := hfs 2 _ rfl
    have h3 := hfs 3 _ rfl
    simp [cells2, cells3, cells4, cells9, cells24, cells26, cells28, cells29, cells30, cells31, cells33, cells35, cells36] at h0 h1 h2 h3
    obtain ⟨z0, rfl⟩ := cell_i3 h0
    obtain ⟨z1, rfl⟩ := cell_u h1
    obtain ⟨z2, rfl⟩ := cell_i3 h2
    obtain ⟨z3, rfl⟩ := cell_i3 h3
    exact ⟨z0, z1, z2, z3, rfl, rfl, rfl, rfl⟩
set_option maxRecDepth 100000 in
theorem cell_dig {H : Type} {enc : TypeId × Value → H} {W : World} {n : Nat} {c0 c1 c2 : Value} {y : DataW H × List MemPlace} (h : DataW.trod enc Try.prog W 0 (fun _ => true) true n 28 [c0, c1, c2] = some y) : ∃ z0 z1 z2, c0 = .int .i64 z0 ∧ c1 = .string z1 ∧ c2 = .string z2 := by
  obtain ⟨d0, p0⟩ := y
  obtain ⟨xs, n, _, hx, _, hlen, hfs⟩ := DataW.trod_struct Try.underlying28 h
  match xs, hlen with
  | [y0, y1, y2], _ =>
    have h0 := hfs 0 _ rfl
    have h1 := hfs 1 _ rfl
    have h2 := hfs 2 _ rfl
    simp [cells2, cells3, cells4, cells9, cells24, cells26, cells28, cells29, cells30, cells31, cells33, cells35, cells36] at h0 h1 h2
    obtain ⟨z0, rfl⟩ := cell_i3 h0
    obtain ⟨z1, rfl⟩ := cell_s h1
    obtain ⟨z2, rfl⟩ := cell_s h2
    exact ⟨z0, z1, z2, rfl, rfl, rfl⟩
set_option maxRecDepth 100000 in
theorem cell_rot {H : Type} {enc : TypeId × Value → H} {W : World} {n : Nat} {c0 c1 c2 c3 c4 c5 c6 c7 c8 c9 c10 c11 : Value} {y : DataW H × List MemPlace} (h : DataW.trod enc Try.prog W 0 (fun _ => true) true n 35 [c0, c1, c2, c3, c4, c5, c6, c7, c8, c9, c10, c11] = some y) : ∃ z0 z1 z2 z3 z4 z5 z6 z7 z8 z9 z10 z11, c0 = .bool z0 ∧ c1 = .int .u64 z1 ∧ c2 = .int .u64 z2 ∧ c3 = .bool z3 ∧ c4 = .int .i64 z4 ∧ c5 = .int .u64 z5 ∧ c6 = .int .u64 z6 ∧ c7 = .int .i64 z7 ∧ c8 = .int .i64 z8 ∧ c9 = .bool z9 ∧ c10 = .int .u64 z10 ∧ c11 = .string z11 := by
  obtain ⟨d0, p0⟩ := y
  obtain ⟨xs, n, _, hx, _, hlen, hfs⟩ := DataW.trod_struct Try.underlying35 h
  match xs, hlen with
  | [y0, y1, y2, y3, y4, y5, y6, y7, y8, y9, y10], _ =>
    have h0 := hfs 0 _ rfl
    have h1 := hfs 1 _ rfl
    have h2 := hfs 2 _ rfl
    have h3 := hfs 3 _ rfl
    have h4 := hfs 4 _ rfl
    have h5 := hfs 5 _ rfl
    have h6 := hfs 6 _ rfl
    have h7 := hfs 7 _ rfl
    have h8 := hfs 8 _ rfl
    have h9 := hfs 9 _ rfl
    have h10 := hfs 10 _ rfl
    simp [cells2, cells3, cells4, cells9, cells24, cells26, cells28, cells29, cells30, cells31, cells33, cells35, cells36] at h0 h1 h2 h3 h4 h5 h6 h7 h8 h9 h10
    obtain ⟨z0, rfl⟩ := cell_b h0
    obtain ⟨z1, rfl⟩ := cell_u h1
    obtain ⟨z2, rfl⟩ := cell_u h2
    obtain ⟨z3, rfl⟩ := cell_b h3
    obtain ⟨z4, rfl⟩ := cell_i3 h4
    obtain ⟨z5, rfl⟩ := cell_u h5
    obtain ⟨z6, rfl⟩ := cell_u h6
    obtain ⟨z7, z8, rfl, rfl⟩ := cell_area h7
    obtain ⟨z9, rfl⟩ := cell_b h8
    obtain ⟨z10, rfl⟩ := cell_u h9
    obtain ⟨z11, rfl⟩ := cell_s h10
    exact ⟨z0, z1, z2, z3, z4, z5, z6, z7, z8, z9, z10, z11, rfl, rfl, rfl, rfl, rfl, rfl, rfl, rfl, rfl, rfl, rfl, rfl⟩
set_option maxRecDepth 100000 in
theorem cell_slot {H : Type} {enc : TypeId × Value → H} {W : World} {n : Nat} {c0 c1 c2 c3 c4 c5 c6 c7 c8 : Value} {y : DataW H × List MemPlace} (h : DataW.trod enc Try.prog W 0 (fun _ => true) true n 44 [c0, c1, c2, c3, c4, c5, c6, c7, c8] = some y) : ∃ z0 z1 z2 z3 z4 z5 z6 z7 z8, c0 = .int .i64 z0 ∧ c1 = .int .i64 z1 ∧ c2 = .int .i64 z2 ∧ c3 = .int .i64 z3 ∧ c4 = .string z4 ∧ c5 = .string z5 ∧ c6 = .int .i64 z6 ∧ c7 = .int .i64 z7 ∧ c8 = .int .i64 z8 := by
  obtain ⟨d0, p0⟩ := y
  obtain ⟨xs, n, _, hx, _, hlen, hfs⟩ := DataW.trod_struct Try.underlying44 h
  match xs, hlen with
  | [y0, y1, y2, y3, y4, y5, y6, y7], _ =>
    have h0 := hfs 0 _ rfl
    have h1 := hfs 1 _ rfl
    have h2 := hfs 2 _ rfl
    have h3 := hfs 3 _ rfl
    have h4 := hfs 4 _ rfl
    have h5 := hfs 5 _ rfl
    have h6 := hfs 6 _ rfl
    have h7 := hfs 7 _ rfl
    simp [cells2, cells3, cells4, cells9, cells24, cells26, cells28, cells29, cells30, cells31, cells33, cells35, cells36] at h0 h1 h2 h3 h4 h5 h6 h7
    obtain ⟨z0, rfl⟩ := cell_i3 h0
    obtain ⟨z1, rfl⟩ := cell_i3 h1
    obtain ⟨z2, rfl⟩ := cell_i3 h2
    obtain ⟨z3, rfl⟩ := cell_i3 h3
    obtain ⟨z4, rfl⟩ := cell_s h4
    obtain ⟨z5, rfl⟩ := cell_s h5
    obtain ⟨z6, rfl⟩ := cell_i3 h6
    obtain ⟨z7, z8, rfl, rfl⟩ := cell_area h7
    exact ⟨z0, z1, z2, z3, z4, z5, z6, z7, z8, rfl, rfl, rfl, rfl, rfl, rfl, rfl, rfl, rfl⟩

theorem choose_lt {n : Nat} {α : Type} {p : Nat → α → Prop} [Inhabited α] (h : ∀ i, i < n → ∃ x, p i x) : ∃ f : Nat → α, ∀ i, i < n → p i (f i) := by
  have h' : ∀ i, ∃ x, i < n → p i x := fun i => by
    by_cases hi : i < n
    · obtain ⟨x, hx⟩ := h i hi
      exact ⟨x, fun _ => hx⟩
    · exact ⟨default, fun hh => absurd hh hi⟩
  exact ⟨fun i => Classical.choose (h' i), fun i hi => Classical.choose_spec (h' i) hi⟩
instance : Inhabited Slo := ⟨⟨0, 0, 0, 0, ⟨#[]⟩, ⟨#[]⟩, 0, 0, 0⟩⟩
/-- Keyslots that came in. -/
theorem open_slots {H : Type} {enc : TypeId × Value → H} {W : World} {fuel : Nat} {c : Value} {y : DataW H × List MemPlace}
    (h : DataW.trod enc Try.prog W 0 (fun _ => true) true fuel 29 [c] = some y) (hw : ∀ x ∈ y.1.weights Try.prog 29, x ≤ reachBytes) : ∃ l, SloV W c l := by
  rcases open_slice Try.underlying29 h with ⟨hcs, hx⟩ | ⟨a, len, cap, m, k, D, Pl, hcs, hb, hl, hm, hmm, hx, hc⟩
  · have hcs' : c = .slice none 0 0 := by simpa using hcs
    exact ⟨[], none, 0, by simpa using hcs', by simp, .inl rfl⟩
  · have hcs' : c = .slice (some a) len cap := by simpa using hcs
    subst hcs'
    simp only [if_true] at hmm
    subst hmm
    have hbound : len ≤ 8796093022208 := by
      have hy : y.1 = .slice ((List.range len).map D) ((List.range (m - len)).map fun j => D (len + j)) := by rw [hx]
      rw [hy] at hw
      have hby : Try.prog.bytesOf 44 = 88 := by kernel_rfl
      have := hw ((((List.range len).map D).length + ((List.range (m - len)).map fun j => D (len + j)).length) * Try.prog.bytesOf 44) (by rw [DataW.weights, Try.underlying29]; exact List.mem_cons_self ..)
      rw [hby] at this
      have hr : reachBytes = 140737488351232 := by decide
      rw [hr] at this
      simp at this
      omega
    obtain ⟨f, hf⟩ := choose_lt (n := len) (α := Slo) (p := fun i x => ∀ j u, (sloL x)[j]? = some u → W.cell? ((a.add (i * 9)).add j) = some u) fun i hi => by
      obtain ⟨cs', h1, h2⟩ := hc i (by omega)
      rw [cells44] at h1
      obtain ⟨_, hlen, hcell⟩ := World.cells?_some h1
      match cs', hlen with
      | [v0, v1, v2, v3, v4, v5, v6, v7, v8], _ =>
        obtain ⟨z0, z1, z2, z3, z4, z5, z6, z7, z8, rfl, rfl, rfl, rfl, rfl, rfl, rfl, rfl, rfl⟩ := cell_slot h2
        refine ⟨⟨z0, z1, z2, z3, z4, z5, z6, z7, z8⟩, fun j u hu => ?_⟩
        have hj : j < 9 := by
          rcases Nat.lt_or_ge j 9 with h | h
          · exact h
          · rw [List.getElem?_eq_none (by simpa [sloL] using h)] at hu; cases hu
        have := hcell j hj
        rw [this]
        exact hu
    obtain ⟨b, off, spot⟩ := a
    refine ⟨(List.range len).map f, some ⟨b, off, spot⟩, m, by simp, by simpa using hbound, ?_⟩
    by_cases h0 : len = 0
    · left
      simp [h0]
    · right
      have c00 := hf 0 (by omega) 0 _ rfl
      have hspot : spot = none := by simpa [Addr.add] using World.cell?_spot c00
      subst hspot
      refine ⟨b, off, rfl, by simpa [Addr.add] using World.block_lt_of_cell? W _ c00, fun i x hx j u hu => ?_⟩
      simp only [List.getElem?_map, Option.map_eq_some_iff] at hx
      obtain ⟨i', hi', rfl⟩ := hx
      obtain ⟨hj1, rfl⟩ := List.getElem?_eq_some_iff.1 hi'
      simp only [List.length_range] at hj1
      simp only [List.getElem_range] at hu
      have := hf i hj1 j u hu
      rw [Addr.add_lit, Addr.add_lit] at this
      exact this
set_option maxRecDepth 100000 in
set_option maxHeartbeats 1000000 in
/-- Metadata that came in. -/
theorem open_meta {H : Type} {enc : TypeId × Value → H} {W : World} {r : Reach} {b0 : Nat} {v : Value} {d : DataW H} {p : List MemPlace} (hv : Value.okWide Try.prog W r b0 38 v) (h : DataW.Trod enc Try.prog W 0 (fun _ => true) true 38 v d p)
    (hw : ∀ x ∈ d.weights Try.prog 38, x ≤ reachBytes) : ∃ m v' l, v = .agg (metC m v') ∧ SloV W v' l := by
  obtain ⟨cs, rfl, hsz⟩ := okWide_struct Try.underlying38 hv
  rw [cells38] at hsz
  obtain ⟨l⟩ := cs
  obtain ⟨c0, c1, c2, c3, c4, c5, c6, c7, c8, c9, c10, c11, c12, c13, c14, c15, c16, c17, c18, c19, c20, c21, c22, c23, c24, c25, c26, rfl⟩ := list27 (cs := l) (by simpa using hsz)
  obtain ⟨fuel, hf⟩ := h
  obtain ⟨xs, n, _, hx, _, hlen, hfs⟩ := DataW.trod_struct Try.underlying38 hf
  match xs, hlen with
  | [y0, y1, y2, y3, y4, y5, y6, y7, y8, y9, y10], _ =>
    have h0 := hfs 0 _ rfl
    have h1 := hfs 1 _ rfl
    have h2 := hfs 2 _ rfl
    have h3 := hfs 3 _ rfl
    have h4 := hfs 4 _ rfl
    have h5 := hfs 5 _ rfl
    have h6 := hfs 6 _ rfl
    have h7 := hfs 7 _ rfl
    have h8 := hfs 8 _ rfl
    have h9 := hfs 9 _ rfl
    have h10 := hfs 10 _ rfl
    simp [Value.cells, cells9, cells26, cells28, cells29, cells30, cells31, cells35, cells36] at h0 h1 h2 h3 h4 h5 h6 h7 h8 h9 h10
    obtain ⟨s0, rfl⟩ := cell_s h0
    obtain ⟨s1, rfl⟩ := cell_s h1
    obtain ⟨s2, rfl⟩ := cell_s h2
    obtain ⟨s3, rfl⟩ := cell_s h3
    obtain ⟨a0, a1, a2, a3, rfl, rfl, rfl, rfl⟩ := cell_shape h4
    obtain ⟨d0, d1, d2, rfl, rfl, rfl⟩ := cell_dig h5
    obtain ⟨ea, en, ec, rfl⟩ := cell_sl Try.underlying30 h7
    obtain ⟨ga, gn, gc, rfl⟩ := cell_sl Try.underlying31 h8
    obtain ⟨r0, r1, r2, r3, r4, r5, r6, r7, r8, r9, r10, r11, rfl, rfl, rfl, rfl, rfl, rfl, rfl, rfl, rfl, rfl, rfl, rfl⟩ := cell_rot h9
    obtain ⟨ta, tn, tc, rfl⟩ := cell_sl Try.underlying36 h10
    have hd : d = .agg [y0.1, y1.1, y2.1, y3.1, y4.1, y5.1, y6.1, y7.1, y8.1, y9.1, y10.1] := by simpa using congrArg Prod.fst hx
    obtain ⟨l, hl⟩ := open_slots h6 (fun x hx => hw x (by
      rw [hd, DataW.weights, Try.underlying38]
      exact DataW.weights_mem_each (j := 6) rfl rfl x hx))
    exact ⟨⟨s0, s1, s2, s3, a0, a1, a2, a3, d0, d1, d2, ea, en, ec, ga, gn, gc, r0, r1, r2, r3, r4, r5, r6, r7, r8, r9, r10, r11, ta, tn, tc⟩, _, l, rfl, hl⟩
end Go.Proofs.Ytcpplafgdedklaa
