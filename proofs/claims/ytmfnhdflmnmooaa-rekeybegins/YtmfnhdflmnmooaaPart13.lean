import Derived.Test.YtmfnhdflmnmooaaPart09
import Derived.Test.YtmfnhdflmnmooaaRows
import Derived.ProofKit
import Derived.OpenShut
import Derived.ShutString
import Derived.ChangeOld
import Derived.SizedLaws
import Derived.Deep.Slices
import Derived.Test.YtmfnhdflmnmooaaPart12
namespace Go.Proofs.Ytmfnhdflmnmooaa
open Go.Deep Go.ChangeShapes Go.WideShapes Go.ChangeAt Go.RowKit
set_option linter.unusedVariables false
set_option linter.unusedSimpArgs false
theorem cells2 : Try.prog.cellsOf 2 = 1 := by kernel_rfl
theorem cells3 : Try.prog.cellsOf 3 = 1 := by kernel_rfl
theorem cells4 : Try.prog.cellsOf 4 = 1 := by kernel_rfl
theorem cells9 : Try.prog.cellsOf 9 = 1 := by kernel_rfl
theorem cells22 : Try.prog.cellsOf 22 = 1 := by kernel_rfl
theorem cells24 : Try.prog.cellsOf 24 = 4 := by kernel_rfl
theorem cells26 : Try.prog.cellsOf 26 = 3 := by kernel_rfl
theorem cells27 : Try.prog.cellsOf 27 = 1 := by kernel_rfl
theorem cells28 : Try.prog.cellsOf 28 = 1 := by kernel_rfl
theorem cells29 : Try.prog.cellsOf 29 = 1 := by kernel_rfl
theorem cells31 : Try.prog.cellsOf 31 = 2 := by kernel_rfl
theorem cells33 : Try.prog.cellsOf 33 = 12 := by kernel_rfl
theorem cells34 : Try.prog.cellsOf 34 = 1 := by kernel_rfl
theorem cells36 : Try.prog.cellsOf 36 = 27 := by kernel_rfl
theorem cells59 : Try.prog.cellsOf 59 = 1 := by kernel_rfl
theorem cells61 : Try.prog.cellsOf 61 = 4 := by kernel_rfl
theorem cells63 : Try.prog.cellsOf 63 = 9 := by kernel_rfl
theorem cells38 : Try.prog.cellsOf 38 = 5 := by kernel_rfl
theorem cells65 : Try.prog.cellsOf 65 = 3 := by kernel_rfl
theorem list27 {α : Type} {cs : List α} (h : cs.length = 27) : ∃ c0 c1 c2 c3 c4 c5 c6 c7 c8 c9 c10 c11 c12 c13 c14 c15 c16 c17 c18 c19 c20 c21 c22 c23 c24 c25 c26, cs = [c0, c1, c2, c3, c4, c5, c6, c7, c8, c9, c10, c11, c12, c13, c14, c15, c16, c17, c18, c19, c20, c21, c22, c23, c24, c25, c26] := by
  match cs, h with
  | [c0, c1, c2, c3, c4, c5, c6, c7, c8, c9, c10, c11, c12, c13, c14, c15, c16, c17, c18, c19, c20, c21, c22, c23, c24, c25, c26], _ => exact ⟨c0, c1, c2, c3, c4, c5, c6, c7, c8, c9, c10, c11, c12, c13, c14, c15, c16, c17, c18, c19, c20, c21, c22, c23, c24, c25, c26, rfl⟩
theorem list9 {α : Type} {cs : List α} (h : cs.length = 9) : ∃ c0 c1 c2 c3 c4 c5 c6 c7 c8, cs = [c0, c1, c2, c3, c4, c5, c6, c7, c8] := by
  match cs, h with
  | [c0, c1, c2, c3, c4, c5, c6, c7, c8], _ => exact ⟨c0, c1, c2, c3, c4, c5, c6, c7, c8, rfl⟩
theorem list5 {α : Type} {cs : List α} (h : cs.length = 5) : ∃ c0 c1 c2 c3 c4, cs = [c0, c1, c2, c3, c4] := by
  match cs, h with
  | [c0, c1, c2, c3, c4], _ => exact ⟨c0, c1, c2, c3, c4, rfl⟩
theorem list3 {α : Type} {cs : List α} (h : cs.length = 3) : ∃ c0 c1 c2, cs = [c0, c1, c2] := by
  match cs, h with
  | [c0, c1, c2], _ => exact ⟨c0, c1, c2, rfl⟩
theorem list4 {α : Type} {cs : List α} (h : cs.length = 4) : ∃ c0 c1 c2 c3, cs = [c0, c1, c2, c3] := by
  match cs, h with
  | [c0, c1, c2, c3], _ => exact ⟨c0, c1, c2, c3, rfl⟩
theorem u64_range {z : Int} (h : (Lit.int .u64 z).wf = true) : 0 ≤ z ∧ z ≤ 18446744073709551615 := by
  have q : IntKind.u64.min ≤ z ∧ z ≤ IntKind.u64.max := by simpa [Lit.wf] using h
  have e1 : IntKind.u64.min = 0 := by decide
  have e2 : IntKind.u64.max = 18446744073709551615 := by decide
  rw [e1, e2] at q
  exact q
theorem i64_range {z : Int} (h : (Lit.int .i64 z).wf = true) : z ≤ 9223372036854775807 := by
  have q : IntKind.i64.min ≤ z ∧ z ≤ IntKind.i64.max := by simpa [Lit.wf] using h
  have e2 : IntKind.i64.max = 9223372036854775807 := by decide
  rw [e2] at q
  exact q.2
theorem cell_i2 {H : Type} {enc : TypeId × Value → H} {W : World} {n : Nat} {c : Value} {y : DataW H × List MemPlace} (h : DataW.trod enc Try.prog W 0 (fun _ => true) true n 2 [c] = some y) : ∃ z, c = .int .i64 z ∧ z ≤ 9223372036854775807 := by
  obtain ⟨z, hz, _, hw⟩ := DataW.trod_int Try.underlying2 h
  exact ⟨z, by simpa using hz, i64_range hw⟩
theorem cell_i3 {H : Type} {enc : TypeId × Value → H} {W : World} {n : Nat} {c : Value} {y : DataW H × List MemPlace} (h : DataW.trod enc Try.prog W 0 (fun _ => true) true n 3 [c] = some y) : ∃ z, c = .int .i64 z := by
  obtain ⟨z, hz, _⟩ := DataW.trod_int Try.underlying3 h
  exact ⟨z, by simpa using hz⟩
theorem cell_b {H : Type} {enc : TypeId × Value → H} {W : World} {n : Nat} {c : Value} {y : DataW H × List MemPlace} (h : DataW.trod enc Try.prog W 0 (fun _ => true) true n 4 [c] = some y) : ∃ z, c = .bool z := by
  obtain ⟨z, hz, _⟩ := DataW.trod_bool Try.underlying4 h
  exact ⟨z, by simpa using hz⟩
theorem cell_s {H : Type} {enc : TypeId × Value → H} {W : World} {n : Nat} {c : Value} {y : DataW H × List MemPlace} (h : DataW.trod enc Try.prog W 0 (fun _ => true) true n 9 [c] = some y) : ∃ z : ByteArray, c = .string z ∧ z.size ≤ 9223372036854775807 := by
  obtain ⟨z, hz, _, hl⟩ := DataW.trod_string Try.underlying9 h
  exact ⟨z, by simpa using hz, by unfold maxLen at hl; omega⟩
theorem cell_u {H : Type} {enc : TypeId × Value → H} {W : World} {n : Nat} {c : Value} {y : DataW H × List MemPlace} (h : DataW.trod enc Try.prog W 0 (fun _ => true) true n 22 [c] = some y) : ∃ z : Nat, c = .int .u64 (z : Nat) ∧ z ≤ 18446744073709551615 := by
  obtain ⟨z, hz, _, hw⟩ := DataW.trod_int Try.underlying22 h
  have := u64_range hw
  exact ⟨z.toNat, by rw [show ((z.toNat : Nat) : Int) = z from by omega]; simpa using hz, by omega⟩
set_option maxRecDepth 100000 in
theorem cell_area {H : Type} {enc : TypeId × Value → H} {W : World} {n : Nat} {c0 c1 : Value} {y : DataW H × List MemPlace} (h : DataW.trod enc Try.prog W 0 (fun _ => true) true n 31 [c0, c1] = some y) : ∃ (z0 : Int) (z1 : Int), c0 = .int .i64 z0 ∧ c1 = .int .i64 z1 ∧ z1 ≤ 9223372036854775807 := by
  obtain ⟨d0, p0⟩ := y
  obtain ⟨xs, n, _, hx, _, hlen, hfs⟩ := DataW.trod_struct Try.underlying31 h
  match xs, hlen with
  | [y0, y1], _ =>
    have h0 := hfs 0 _ rfl
    have h1 := hfs 1 _ rfl
    simp [cells2, cells3, cells4, cells9, cells22, cells24, cells26, cells27, cells28, cells29, cells31, cells33, cells34, cells36, cells59, cells61, cells63, cells38, cells65] at h0 h1
    obtain ⟨z0, rfl, bh0⟩ := cell_i2 h0
    obtain ⟨z1, rfl, bh1⟩ := cell_i2 h1
    exact ⟨z0, z1, rfl, rfl, bh1⟩
set_option maxRecDepth 100000 in
theorem cell_shape {H : Type} {enc : TypeId × Value → H} {W : World} {n : Nat} {c0 c1 c2 c3 : Value} {y : DataW H × List MemPlace} (h : DataW.trod enc Try.prog W 0 (fun _ => true) true n 24 [c0, c1, c2, c3] = some y) : ∃ (z0 : Int) (z1 : Nat) (z2 : Int) (z3 : Int), c0 = .int .i64 z0 ∧ c1 = .int .u64 (z1 : Nat) ∧ c2 = .int .i64 z2 ∧ c3 = .int .i64 z3 ∧ z1 ≤ 18446744073709551615 := by
  obtain ⟨d0, p0⟩ := y
  obtain ⟨xs, n, _, hx, _, hlen, hfs⟩ := DataW.trod_struct Try.underlying24 h
  match xs, hlen with
  | [y0, y1, y2, y3], _ =>
    have h0 := hfs 0 _ rfl
    have h1 := hfs 1 _ rfl
    have h2 := hfs 2 _ rfl
    have h3 := hfs 3 _ rfl
    simp [cells2, cells3, cells4, cells9, cells22, cells24, cells26, cells27, cells28, cells29, cells31, cells33, cells34, cells36, cells59, cells61, cells63, cells38, cells65] at h0 h1 h2 h3
    obtain ⟨z0, rfl⟩ := cell_i3 h0
    obtain ⟨z1, rfl, bh1⟩ := cell_u h1
    obtain ⟨z2, rfl⟩ := cell_i3 h2
    obtain ⟨z3, rfl⟩ := cell_i3 h3
    exact ⟨z0, z1, z2, z3, rfl, rfl, rfl, rfl, bh1⟩
set_option maxRecDepth 100000 in
theorem cell_dig {H : Type} {enc : TypeId × Value → H} {W : World} {n : Nat} {c0 c1 c2 : Value} {y : DataW H × List MemPlace} (h : DataW.trod enc Try.prog W 0 (fun _ => true) true n 26 [c0, c1, c2] = some y) : ∃ (z0 : Int) (z1 : ByteArray) (z2 : ByteArray), c0 = .int .i64 z0 ∧ c1 = .string z1 ∧ c2 = .string z2 := by
  obtain ⟨d0, p0⟩ := y
  obtain ⟨xs, n, _, hx, _, hlen, hfs⟩ := DataW.trod_struct Try.underlying26 h
  match xs, hlen with
  | [y0, y1, y2], _ =>
    have h0 := hfs 0 _ rfl
    have h1 := hfs 1 _ rfl
    have h2 := hfs 2 _ rfl
    simp [cells2, cells3, cells4, cells9, cells22, cells24, cells26, cells27, cells28, cells29, cells31, cells33, cells34, cells36, cells59, cells61, cells63, cells38, cells65] at h0 h1 h2
    obtain ⟨z0, rfl⟩ := cell_i3 h0
    obtain ⟨z1, rfl, bh1⟩ := cell_s h1
    obtain ⟨z2, rfl, bh2⟩ := cell_s h2
    exact ⟨z0, z1, z2, rfl, rfl, rfl⟩
set_option maxRecDepth 100000 in
theorem cell_rot {H : Type} {enc : TypeId × Value → H} {W : World} {n : Nat} {c0 c1 c2 c3 c4 c5 c6 c7 c8 c9 c10 c11 : Value} {y : DataW H × List MemPlace} (h : DataW.trod enc Try.prog W 0 (fun _ => true) true n 33 [c0, c1, c2, c3, c4, c5, c6, c7, c8, c9, c10, c11] = some y) : ∃ (z0 : Bool) (z1 : Nat) (z2 : Nat) (z3 : Bool) (z4 : Int) (z5 : Nat) (z6 : Nat) (z7 : Int) (z8 : Int) (z9 : Bool) (z10 : Nat) (z11 : ByteArray), c0 = .bool z0 ∧ c1 = .int .u64 (z1 : Nat) ∧ c2 = .int .u64 (z2 : Nat) ∧ c3 = .bool z3 ∧ c4 = .int .i64 z4 ∧ c5 = .int .u64 (z5 : Nat) ∧ c6 = .int .u64 (z6 : Nat) ∧ c7 = .int .i64 z7 ∧ c8 = .int .i64 z8 ∧ c9 = .bool z9 ∧ c10 = .int .u64 (z10 : Nat) ∧ c11 = .string z11 ∧ z8 ≤ 9223372036854775807 ∧ z11.size ≤ 9223372036854775807 := by
  obtain ⟨d0, p0⟩ := y
  obtain ⟨xs, n, _, hx, _, hlen, hfs⟩ := DataW.trod_struct Try.underlying33 h
  match xs, hlen with
  | [y0, y1, y2, y3, y4, y5, y6, y7, y8, y9, y10], _ =>
    have h0 := hfs 0 _ rfl
    have h1 := hfs 1 _ rfl
    have h2 := hfs 2 _ rfl
    have h3 := hfs 3 _ rfl
    have h4 := hfs 4 _ rfl
    have h5 := hfs 5 _ rfl
    have h6 := hfs 6 _ rfl
    have h7 := hfs 7 _ rfl
    have h8 := hfs 8 _ rfl
    have h9 := hfs 9 _ rfl
    have h10 := hfs 10 _ rfl
    simp [cells2, cells3, cells4, cells9, cells22, cells24, cells26, cells27, cells28, cells29, cells31, cells33, cells34, cells36, cells59, cells61, cells63, cells38, cells65] at h0 h1 h2 h3 h4 h5 h6 h7 h8 h9 h10
    obtain ⟨z0, rfl⟩ := cell_b h0
    obtain ⟨z1, rfl, bh1⟩ := cell_u h1
    obtain ⟨z2, rfl, bh2⟩ := cell_u h2
    obtain ⟨z3, rfl⟩ := cell_b h3
    obtain ⟨z4, rfl⟩ := cell_i3 h4
    obtain ⟨z5, rfl, bh5⟩ := cell_u h5
    obtain ⟨z6, rfl, bh6⟩ := cell_u h6
    obtain ⟨z7, z8, rfl, rfl, ba⟩ := cell_area h7
    obtain ⟨z9, rfl⟩ := cell_b h8
    obtain ⟨z10, rfl, bh9⟩ := cell_u h9
    obtain ⟨z11, rfl, bh10⟩ := cell_s h10
    exact ⟨z0, z1, z2, z3, z4, z5, z6, z7, z8, z9, z10, z11, rfl, rfl, rfl, rfl, rfl, rfl, rfl, rfl, rfl, rfl, rfl, rfl, ba, bh10⟩
set_option maxRecDepth 100000 in
theorem cell_slot {H : Type} {enc : TypeId × Value → H} {W : World} {n : Nat} {c0 c1 c2 c3 c4 c5 c6 c7 c8 : Value} {y : DataW H × List MemPlace} (h : DataW.trod enc Try.prog W 0 (fun _ => true) true n 63 [c0, c1, c2, c3, c4, c5, c6, c7, c8] = some y) : ∃ (z0 : Int) (z1 : Int) (z2 : Int) (z3 : Int) (z4 : ByteArray) (z5 : ByteArray) (z6 : Int) (z7 : Int) (z8 : Int), c0 = .int .i64 z0 ∧ c1 = .int .i64 z1 ∧ c2 = .int .i64 z2 ∧ c3 = .int .i64 z3 ∧ c4 = .string z4 ∧ c5 = .string z5 ∧ c6 = .int .i64 z6 ∧ c7 = .int .i64 z7 ∧ c8 = .int .i64 z8 := by
  obtain ⟨d0, p0⟩ := y
  obtain ⟨xs, n, _, hx, _, hlen, hfs⟩ := DataW.trod_struct Try.underlying63 h
  match xs, hlen with
  | [y0, y1, y2, y3, y4, y5, y6, y7], _ =>
    have h0 := hfs 0 _ rfl
    have h1 := hfs 1 _ rfl
    have h2 := hfs 2 _ rfl
    have h3 := hfs 3 _ rfl
    have h4 := hfs 4 _ rfl
    have h5 := hfs 5 _ rfl
    have h6 := hfs 6 _ rfl
    have h7 := hfs 7 _ rfl
    simp [cells2, cells3, cells4, cells9, cells22, cells24, cells26, cells27, cells28, cells29, cells31, cells33, cells34, cells36, cells59, cells61, cells63, cells38, cells65] at h0 h1 h2 h3 h4 h5 h6 h7
    obtain ⟨z0, rfl⟩ := cell_i3 h0
    obtain ⟨z1, rfl⟩ := cell_i3 h1
    obtain ⟨z2, rfl⟩ := cell_i3 h2
    obtain ⟨z3, rfl⟩ := cell_i3 h3
    obtain ⟨z4, rfl, bh4⟩ := cell_s h4
    obtain ⟨z5, rfl, bh5⟩ := cell_s h5
    obtain ⟨z6, rfl⟩ := cell_i3 h6
    obtain ⟨z7, z8, rfl, rfl, ba⟩ := cell_area h7
    exact ⟨z0, z1, z2, z3, z4, z5, z6, z7, z8, rfl, rfl, rfl, rfl, rfl, rfl, rfl, rfl, rfl⟩
set_option maxRecDepth 100000 in
theorem cell_epoch {H : Type} {enc : TypeId × Value → H} {W : World} {n : Nat} {c0 c1 c2 c3 c4 : Value} {y : DataW H × List MemPlace} (h : DataW.trod enc Try.prog W 0 (fun _ => true) true n 38 [c0, c1, c2, c3, c4] = some y) : ∃ (z0 : Nat) (z1 : ByteArray) (z2 : ByteArray) (z3 : ByteArray) (z4 : ByteArray), c0 = .int .u64 (z0 : Nat) ∧ c1 = .string z1 ∧ c2 = .string z2 ∧ c3 = .string z3 ∧ c4 = .string z4 := by
  obtain ⟨d0, p0⟩ := y
  obtain ⟨xs, n, _, hx, _, hlen, hfs⟩ := DataW.trod_struct Try.underlying38 h
  match xs, hlen with
  | [y0, y1, y2, y3, y4], _ =>
    have h0 := hfs 0 _ rfl
    have h1 := hfs 1 _ rfl
    have h2 := hfs 2 _ rfl
    have h3 := hfs 3 _ rfl
    have h4 := hfs 4 _ rfl
    simp [cells2, cells3, cells4, cells9, cells22, cells24, cells26, cells27, cells28, cells29, cells31, cells33, cells34, cells36, cells59, cells61, cells63, cells38, cells65] at h0 h1 h2 h3 h4
    obtain ⟨z0, rfl, bh0⟩ := cell_u h0
    obtain ⟨z1, rfl, bh1⟩ := cell_s h1
    obtain ⟨z2, rfl, bh2⟩ := cell_s h2
    obtain ⟨z3, rfl, bh3⟩ := cell_s h3
    obtain ⟨z4, rfl, bh4⟩ := cell_s h4
    exact ⟨z0, z1, z2, z3, z4, rfl, rfl, rfl, rfl, rfl⟩
set_option maxRecDepth 100000 in
theorem cell_seg {H : Type} {enc : TypeId × Value → H} {W : World} {n : Nat} {c0 c1 c2 : Value} {y : DataW H × List MemPlace} (h : DataW.trod enc Try.prog W 0 (fun _ => true) true n 65 [c0, c1, c2] = some y) : ∃ (z0 : Nat) (z1 : Nat) (z2 : Nat), c0 = .int .u64 (z0 : Nat) ∧ c1 = .int .u64 (z1 : Nat) ∧ c2 = .int .u64 (z2 : Nat) := by
  obtain ⟨d0, p0⟩ := y
  obtain ⟨xs, n, _, hx, _, hlen, hfs⟩ := DataW.trod_struct Try.underlying65 h
  match xs, hlen with
  | [y0, y1, y2], _ =>
    have h0 := hfs 0 _ rfl
    have h1 := hfs 1 _ rfl
    have h2 := hfs 2 _ rfl
    simp [cells2, cells3, cells4, cells9, cells22, cells24, cells26, cells27, cells28, cells29, cells31, cells33, cells34, cells36, cells59, cells61, cells63, cells38, cells65] at h0 h1 h2
    obtain ⟨z0, rfl, bh0⟩ := cell_u h0
    obtain ⟨z1, rfl, bh1⟩ := cell_u h1
    obtain ⟨z2, rfl, bh2⟩ := cell_u h2
    exact ⟨z0, z1, z2, rfl, rfl, rfl⟩

theorem choose_lt {n : Nat} {α : Type} {p : Nat → α → Prop} [Inhabited α] (h : ∀ i, i < n → ∃ x, p i x) : ∃ f : Nat → α, ∀ i, i < n → p i (f i) := by
  have h' : ∀ i, ∃ x, i < n → p i x := fun i => by
    by_cases hi : i < n
    · obtain ⟨x, hx⟩ := h i hi
      exact ⟨x, fun _ => hx⟩
    · exact ⟨default, fun hh => absurd hh hi⟩
  exact ⟨fun i => Classical.choose (h' i), fun i hi => Classical.choose_spec (h' i) hi⟩
theorem reach_is : reachBytes = 140737488351232 := by decide
theorem weights_all {H : Type} {P : Program} {e : TypeId} : ∀ {ds : List (DataW H)} {d : DataW H}, d ∈ ds → ∀ x ∈ d.weights P e, x ∈ DataW.weightsAll P e ds
  | d0 :: ds, d, hd, x, hx => by
    simp only [DataW.weightsAll, List.mem_append]
    rcases List.mem_cons.1 hd with rfl | hd
    · exact .inl hx
    · exact .inr (weights_all hd x hx)
  | [], _, hd, _, _ => by simp at hd
/-- A list of structs that came in. -/
theorem open_rows {H : Type} {enc : TypeId × Value → H} {W : World} {α : Type} [Inhabited α] {L : α → List Value} {sz by' : Nat} {Pr : α → Prop} (t e : TypeId) (hu : Try.prog.underlying t = some (.slice e)) (hcl : Try.prog.cellsOf e = sz) (hby : Try.prog.bytesOf e = by') (hL : ∀ x, (L x).length = sz) (hpos : 0 < sz)
    (hone : ∀ (n : Nat) (cs : List Value) (y : DataW H × List MemPlace), cs.length = sz → DataW.trod enc Try.prog W 0 (fun _ => true) true n e cs = some y → (∀ x ∈ y.1.weights Try.prog e, x ≤ reachBytes) → ∃ x, cs = L x ∧ Pr x)
    {fuel : Nat} {c : Value} {y : DataW H × List MemPlace} (h : DataW.trod enc Try.prog W 0 (fun _ => true) true fuel t [c] = some y) (hw : ∀ x ∈ y.1.weights Try.prog t, x ≤ reachBytes) :
    ∃ p k cc l, c = .slice p k cc ∧ l.length = k ∧ k * by' ≤ reachBytes ∧ (p = none → cc = 0) ∧ (k ≤ cc ∧ cc ≤ 9223372036854775807) ∧ RV L sz W p l ∧ ∀ x ∈ l, Pr x := by
  rcases open_slice hu h with ⟨hcs, hx⟩ | ⟨a, len, cap, m, k, D, Pl, hcs, hb, hl, hm, hmm, hx, hc⟩
  · have hcs' : c = .slice none 0 0 := by simpa using hcs
    exact ⟨none, 0, 0, [], hcs', rfl, by simp, fun _ => rfl, ⟨Nat.le_refl _, by omega⟩, .inl rfl, by simp⟩
  · have hcs' : c = .slice (some a) len cap := by simpa using hcs
    subst hcs'
    simp only [if_true] at hmm
    subst hmm
    have hy : y.1 = .slice ((List.range len).map D) ((List.range (m - len)).map fun j => D (len + j)) := by rw [hx]
    rw [hy, DataW.weights, hu] at hw
    simp only [List.mem_cons, List.mem_append] at hw
    have hbound : len * by' ≤ reachBytes := by
      have := hw _ (.inl rfl)
      rw [hby] at this
      simp at this
      rw [show len + (m - len) = m by omega] at this
      exact Nat.le_trans (Nat.mul_le_mul_right _ hl) this
    obtain ⟨f, hf⟩ := choose_lt (n := len) (α := α) (p := fun i x => (∀ j u, (L x)[j]? = some u → W.cell? ((a.add (i * sz)).add j) = some u) ∧ Pr x) fun i hi => by
      obtain ⟨cs', h1, h2⟩ := hc i (by omega)
      rw [hcl] at h1
      obtain ⟨_, hlen, hcell⟩ := World.cells?_some h1
      obtain ⟨x, rfl, hp⟩ := hone k cs' _ hlen h2 (fun z hz => hw z (.inr (.inl (weights_all (List.mem_map.2 ⟨i, List.mem_range.2 hi, rfl⟩) z hz))))
      refine ⟨x, fun j u hu => ?_, hp⟩
      have hj : j < sz := by
        rcases Nat.lt_or_ge j sz with h | h
        · exact h
        · rw [List.getElem?_eq_none (by rw [hL]; exact h)] at hu; cases hu
      have := hcell j hj
      rw [this]
      exact hu
    obtain ⟨b, off, spot⟩ := a
    refine ⟨some ⟨b, off, spot⟩, len, m, (List.range len).map f, rfl, by simp, hbound, (by intro h; cases h), ⟨hl, by unfold maxLen at hm; omega⟩, ?_, ?_⟩
    · by_cases h0 : len = 0
      · left
        simp [h0]
      · right
        obtain ⟨v0, hv0⟩ : ∃ v0, (L (f 0))[0]? = some v0 := ⟨_, List.getElem?_eq_getElem (by rw [hL]; exact hpos)⟩
        have c00 := (hf 0 (by omega)).1 0 v0 hv0
        have hspot : spot = none := by simpa [Addr.add] using World.cell?_spot c00
        subst hspot
        refine ⟨b, off, rfl, by simpa [Addr.add] using World.block_lt_of_cell? W _ c00, fun i x hx j u hu => ?_⟩
        simp only [List.getElem?_map, Option.map_eq_some_iff] at hx
        obtain ⟨i', hi', rfl⟩ := hx
        obtain ⟨hj1, rfl⟩ := List.getElem?_eq_some_iff.1 hi'
        simp only [List.length_range] at hj1
        simp only [List.getElem_range] at hu
        have := (hf i hj1).1 j u hu
        rw [Addr.add_lit, Addr.add_lit] at this
        exact this
    · intro x hx
      obtain ⟨i, hi, rfl⟩ := List.mem_map.1 hx
      exact (hf i (List.mem_range.1 hi)).2
instance : Inhabited Slo := ⟨⟨0, 0, 0, 0, ⟨#[]⟩, ⟨#[]⟩, 0, 0, 0⟩⟩
instance : Inhabited Epo := ⟨⟨0, ⟨#[]⟩, ⟨#[]⟩, ⟨#[]⟩, ⟨#[]⟩⟩⟩
instance : Inhabited Tk := ⟨⟨0, ⟨#[]⟩, none, 0, 0, ⟨#[]⟩⟩⟩
set_option maxRecDepth 100000 in
theorem open_ints {H : Type} {enc : TypeId × Value → H} {W : World} {fuel : Nat} {c : Value} {y : DataW H × List MemPlace} (h : DataW.trod enc Try.prog W 0 (fun _ => true) true fuel 59 [c] = some y) (hw : ∀ x ∈ y.1.weights Try.prog 59, x ≤ reachBytes) :
    ∃ p k cc zs, c = .slice p k cc ∧ k ≤ 1000000000000000 ∧ zs.length = k ∧ View W c zs := by
  rcases open_slice1 Try.underlying59 cells3 h with ⟨hcs, hx⟩ | ⟨a, len, cap, m, k, V, D, Pl, hcs, hb, hl, hm, hmm, hx, hc⟩
  · have hcs' : c = .slice none 0 0 := by simpa using hcs
    exact ⟨none, 0, 0, [], hcs', by omega, rfl, none, 0, hcs', Nat.le_refl _, by unfold maxLen; omega, fun _ => rfl, .inl rfl⟩
  · have hcs' : c = .slice (some a) len cap := by simpa using hcs
    subst hcs'
    simp only [if_true] at hmm
    subst hmm
    have hy : y.1 = .slice ((List.range len).map D) ((List.range (m - len)).map fun j => D (len + j)) := by rw [hx]
    rw [hy, DataW.weights, Try.underlying59] at hw
    have hby : Try.prog.bytesOf 3 = 8 := by kernel_rfl
    have hbound := hw _ (List.mem_cons_self ..)
    rw [hby, reach_is] at hbound
    simp at hbound
    obtain ⟨f, hf⟩ := choose_lt (n := len) (α := Int) (p := fun i z => W.cell? (a.add i) = some (.int .i64 z)) fun i hi => by
      obtain ⟨h1, h2⟩ := hc i (by omega)
      obtain ⟨z, hz⟩ := cell_i3 h2
      exact ⟨z, by rw [h1, hz]⟩
    obtain ⟨b, off, spot⟩ := a
    refine ⟨some ⟨b, off, spot⟩, len, m, (List.range len).map f, rfl, by omega, by simp, some ⟨b, off, spot⟩, m, by simp, by simpa using hl, hm, (by intro h; cases h), ?_⟩
    by_cases h0 : len = 0
    · left
      simp [h0]
    · right
      have c00 := hf 0 (by omega)
      have hspot : spot = none := by simpa [Addr.add] using World.cell?_spot c00
      subst hspot
      refine ⟨b, off, rfl, fun i hi => ?_⟩
      have hi' : i < len := by simpa using hi
      have := hf i hi'
      rw [Addr.add_lit] at this
      rw [this]
      simp [List.getD_eq_getElem?_getD, hi']
set_option maxRecDepth 100000 in
theorem open_token {H : Type} {enc : TypeId × Value → H} {W : World} {n : Nat} {cs : List Value} {y : DataW H × List MemPlace} (hl : cs.length = 4) (h : DataW.trod enc Try.prog W 0 (fun _ => true) true n 61 cs = some y) (hw : ∀ x ∈ y.1.weights Try.prog 61, x ≤ reachBytes) :
    ∃ x : Tk, cs = tkL x ∧ x.l ≤ 1000000000000000 ∧ ∃ zs, zs.length = x.l ∧ View W (.slice x.p x.l x.c) zs := by
  obtain ⟨c0, c1, c2, c3, rfl⟩ := list4 hl
  obtain ⟨d0, p0⟩ := y
  obtain ⟨xs, n, _, hx, _, hlen, hfs⟩ := DataW.trod_struct Try.underlying61 h
  match xs, hlen with
  | [y0, y1, y2, y3], _ =>
    have h0 := hfs 0 _ rfl
    have h1 := hfs 1 _ rfl
    have h2 := hfs 2 _ rfl
    have h3 := hfs 3 _ rfl
    simp [cells3, cells9, cells59] at h0 h1 h2 h3
    obtain ⟨z0, rfl⟩ := cell_i3 h0
    obtain ⟨z1, rfl, bh1⟩ := cell_s h1
    obtain ⟨z3, rfl, bh3⟩ := cell_s h3
    have hd : d0 = .agg [y0.1, y1.1, y2.1, y3.1] := by simpa using congrArg Prod.fst hx
    obtain ⟨p, k, cc, zs, rfl, hk, hz, hv⟩ := open_ints h2 (fun x hx => hw x (by
      show x ∈ d0.weights Try.prog 61
      rw [hd, DataW.weights, Try.underlying61]
      exact DataW.weights_mem_each (j := 2) rfl rfl x hx))
    exact ⟨⟨z0, z1, p, k, cc, z3⟩, rfl, hk, zs, hz, hv⟩
set_option maxRecDepth 100000 in
set_option maxHeartbeats 1000000 in
theorem open_meta {H : Type} {enc : TypeId × Value → H} {W : World} {r : Reach} {b0 : Nat} {v : Value} {d : DataW H} {p : List MemPlace} (hv : Value.okWide Try.prog W r b0 36 v) (h : DataW.Trod enc Try.prog W 0 (fun _ => true) true 36 v d p)
    (hw : ∀ x ∈ d.weights Try.prog 36, x ≤ reachBytes) : ∃ m hot SL EL GL T, v = .agg (mtC m) ∧ MtO W m hot SL EL GL T := by
  obtain ⟨cs, rfl, hsz⟩ := okWide_struct Try.underlying36 hv
  rw [cells36] at hsz
  obtain ⟨l⟩ := cs
  obtain ⟨c0, c1, c2, c3, c4, c5, c6, c7, c8, c9, c10, c11, c12, c13, c14, c15, c16, c17, c18, c19, c20, c21, c22, c23, c24, c25, c26, rfl⟩ := list27 (cs := l) (by simpa using hsz)
  obtain ⟨fuel, hf⟩ := h
  obtain ⟨xs, n, _, hx, _, hlen, hfs⟩ := DataW.trod_struct Try.underlying36 hf
  match xs, hlen with
  | [y0, y1, y2, y3, y4, y5, y6, y7, y8, y9, y10], _ =>
    have h0 := hfs 0 _ rfl
    have h1 := hfs 1 _ rfl
    have h2 := hfs 2 _ rfl
    have h3 := hfs 3 _ rfl
    have h4 := hfs 4 _ rfl
    have h5 := hfs 5 _ rfl
    have h6 := hfs 6 _ rfl
    have h7 := hfs 7 _ rfl
    have h8 := hfs 8 _ rfl
    have h9 := hfs 9 _ rfl
    have h10 := hfs 10 _ rfl
    simp [Value.cells, cells2, cells3, cells4, cells9, cells22, cells24, cells26, cells27, cells28, cells29, cells31, cells33, cells34, cells36, cells59, cells61, cells63, cells38, cells65] at h0 h1 h2 h3 h4 h5 h6 h7 h8 h9 h10
    obtain ⟨s0, rfl, bh0⟩ := cell_s h0
    obtain ⟨s1, rfl, bh1⟩ := cell_s h1
    obtain ⟨s2, rfl, bh2⟩ := cell_s h2
    obtain ⟨s3, rfl, bh3⟩ := cell_s h3
    obtain ⟨a0, a1, a2, a3, rfl, rfl, rfl, rfl, bC⟩ := cell_shape h4
    obtain ⟨d0, d1, d2, rfl, rfl, rfl⟩ := cell_dig h5
    obtain ⟨r0, r1, r2, r3, r4, r5, r6, r7, r8, r9, r10, r11, rfl, rfl, rfl, rfl, rfl, rfl, rfl, rfl, rfl, rfl, rfl, rfl, bA, bS⟩ := cell_rot h9
    have hd : d = .agg [y0.1, y1.1, y2.1, y3.1, y4.1, y5.1, y6.1, y7.1, y8.1, y9.1, y10.1] := by simpa using congrArg Prod.fst hx
    have hwj : ∀ (j : Nat) (t : TypeId) (dj : DataW H), ([9, 9, 9, 9, 24, 26, 27, 28, 29, 33, 34] : List TypeId)[j]? = some t → [y0.1, y1.1, y2.1, y3.1, y4.1, y5.1, y6.1, y7.1, y8.1, y9.1, y10.1][j]? = some dj → ∀ x ∈ dj.weights Try.prog t, x ≤ reachBytes := fun j t dj ht hdj x hx => hw x (by
      rw [hd, DataW.weights, Try.underlying36]
      exact DataW.weights_mem_each (j := j) ht hdj x hx)
    obtain ⟨sp, sn, sc, SL, rfl, l1, k1, z1, u1, v1, _⟩ := open_rows (Pr := fun _ => True) (L := sloL) 27 63 Try.underlying27 cells63 (by kernel_rfl : Try.prog.bytesOf 63 = 88) sloL_len (by omega) (fun n cs y hl hy hw => by
      obtain ⟨q0, q1, q2, q3, q4, q5, q6, q7, q8, rfl⟩ := list9 hl
      obtain ⟨x0, x1, x2, x3, x4, x5, x6, x7, x8, rfl, rfl, rfl, rfl, rfl, rfl, rfl, rfl, rfl⟩ := cell_slot hy
      exact ⟨⟨x0, x1, x2, x3, x4, x5, x6, x7, x8⟩, rfl, trivial⟩) h6 (hwj 6 27 y6.1 rfl rfl)
    obtain ⟨ep, en, ec, EL, rfl, l2, k2, z2, u2, v2, pe⟩ := open_rows (Pr := fun x : Epo => 0 ≤ x.n) (L := epoL) 28 38 Try.underlying28 cells38 (by kernel_rfl : Try.prog.bytesOf 38 = 72) epoL_len (by omega) (fun n cs y hl hy hw => by
      obtain ⟨q0, q1, q2, q3, q4, rfl⟩ := list5 hl
      obtain ⟨x0, x1, x2, x3, x4, rfl, rfl, rfl, rfl, rfl⟩ := cell_epoch hy
      exact ⟨⟨(x0 : Nat), x1, x2, x3, x4⟩, rfl, by simp⟩) h7 (hwj 7 28 y7.1 rfl rfl)
    obtain ⟨gp, gn, gc, GL, rfl, l3, k3, z3, u3, v3, _⟩ := open_rows (Pr := fun _ => True) (L := sgZ) 29 65 Try.underlying29 cells65 (by kernel_rfl : Try.prog.bytesOf 65 = 24) sgZ_len (by omega) (fun n cs y hl hy hw => by
      obtain ⟨q0, q1, q2, rfl⟩ := list3 hl
      obtain ⟨x0, x1, x2, rfl, rfl, rfl⟩ := cell_seg hy
      exact ⟨((x0 : Nat), (x1 : Nat), (x2 : Nat)), rfl, trivial⟩) h8 (hwj 8 29 y8.1 rfl rfl)
    obtain ⟨tp, tn, tc, T, rfl, l4, k4, z4, u4, v4, pt⟩ := open_rows (Pr := fun x : Tk => x.l ≤ 1000000000000000 ∧ ∃ zs, zs.length = x.l ∧ View W (.slice x.p x.l x.c) zs) (L := tkL) 34 61 Try.underlying34 cells61 (by kernel_rfl : Try.prog.bytesOf 61 = 64) tkL_len (by omega) (fun n cs y hl hy hw => open_token hl hy hw) h10 (hwj 10 34 y10.1 rfl rfl)
    rw [reach_is] at k1 k2 k3 k4
    exact ⟨⟨s0, s1, s2, s3, a0, (a1 : Nat), a2, a3, d0, d1, d2, sp, sn, sc, ep, en, ec, gp, gn, gc, r0, r1, r2, r3, r4, (r5 : Nat), r6, r7, r8, r9, (r10 : Nat), r11, tp, tn, tc⟩, r5, SL, EL, GL, T, rfl, ⟨by simp, by simp only; omega, rfl, bA, bS, l1, l2, l3, l4, by simp only; omega, by simp only; omega, by simp only; omega, by simp only; omega, z1, z2, z3, z4, u3.1, u3.2, v1, v2, v3, v4, fun i x hx => pt x (List.mem_of_getElem? hx)⟩⟩
end Go.Proofs.Ytmfnhdflmnmooaa
namespace Go.Proofs.Ytmfnhdflmnmooaa
open Go.Deep Go.ChangeShapes Go.WideShapes Go.ChangeAt Go.RowKit
set_option linter.unusedVariables false
set_option linter.unusedSimpArgs false
set_option maxRecDepth 100000 in
set_option maxHeartbeats 1000000 in
theorem open_metac {H : Type} {enc : TypeId × Value → H} {W : World} {fuel : Nat} {c0 c1 c2 c3 c4 c5 c6 c7 c8 c9 c10 c11 c12 c13 c14 c15 c16 c17 c18 c19 c20 c21 c22 c23 c24 c25 c26 : Value} {y : DataW H × List MemPlace} (hf : DataW.trod enc Try.prog W 0 (fun _ => true) true fuel 36 [c0, c1, c2, c3, c4, c5, c6, c7, c8, c9, c10, c11, c12, c13, c14, c15, c16, c17, c18, c19, c20, c21, c22, c23, c24, c25, c26] = some y)
    (hw : ∀ x ∈ y.1.weights Try.prog 36, x ≤ reachBytes) : ∃ m hot SL EL GL T, [c0, c1, c2, c3, c4, c5, c6, c7, c8, c9, c10, c11, c12, c13, c14, c15, c16, c17, c18, c19, c20, c21, c22, c23, c24, c25, c26] = (mtC m).toList ∧ MtO W m hot SL EL GL T ∧ (∀ x ∈ GL, 0 ≤ x.2.2) ∧ m.sn * 88 ≤ 140737488351232 ∧ m.en * 72 ≤ 140737488351232 ∧ m.tn * 64 ≤ 140737488351232 := by
  obtain ⟨d, p0⟩ := y
  obtain ⟨xs, n, _, hx, _, hlen, hfs⟩ := DataW.trod_struct Try.underlying36 hf
  match xs, hlen with
  | [y0, y1, y2, y3, y4, y5, y6, y7, y8, y9, y10], _ =>
    have h0 := hfs 0 _ rfl
    have h1 := hfs 1 _ rfl
    have h2 := hfs 2 _ rfl
    have h3 := hfs 3 _ rfl
    have h4 := hfs 4 _ rfl
    have h5 := hfs 5 _ rfl
    have h6 := hfs 6 _ rfl
    have h7 := hfs 7 _ rfl
    have h8 := hfs 8 _ rfl
    have h9 := hfs 9 _ rfl
    have h10 := hfs 10 _ rfl
    simp [cells2, cells3, cells4, cells9, cells22, cells24, cells26, cells27, cells28, cells29, cells31, cells33, cells34, cells36, cells59, cells61, cells63, cells38, cells65] at h0 h1 h2 h3 h4 h5 h6 h7 h8 h9 h10
    obtain ⟨s0, rfl, bh0⟩ := cell_s h0
    obtain ⟨s1, rfl, bh1⟩ := cell_s h1
    obtain ⟨s2, rfl, bh2⟩ := cell_s h2
    obtain ⟨s3, rfl, bh3⟩ := cell_s h3
    obtain ⟨a0, a1, a2, a3, rfl, rfl, rfl, rfl, bC⟩ := cell_shape h4
    obtain ⟨d0, d1, d2, rfl, rfl, rfl⟩ := cell_dig h5
    obtain ⟨r0, r1, r2, r3, r4, r5, r6, r7, r8, r9, r10, r11, rfl, rfl, rfl, rfl, rfl, rfl, rfl, rfl, rfl, rfl, rfl, rfl, bA, bS⟩ := cell_rot h9
    have hd : d = .agg [y0.1, y1.1, y2.1, y3.1, y4.1, y5.1, y6.1, y7.1, y8.1, y9.1, y10.1] := by simpa using congrArg Prod.fst hx
    have hwj : ∀ (j : Nat) (t : TypeId) (dj : DataW H), ([9, 9, 9, 9, 24, 26, 27, 28, 29, 33, 34] : List TypeId)[j]? = some t → [y0.1, y1.1, y2.1, y3.1, y4.1, y5.1, y6.1, y7.1, y8.1, y9.1, y10.1][j]? = some dj → ∀ x ∈ dj.weights Try.prog t, x ≤ reachBytes := fun j t dj ht hdj x hx => hw x (by
      rw [hd, DataW.weights, Try.underlying36]
      exact DataW.weights_mem_each (j := j) ht hdj x hx)
    obtain ⟨sp, sn, sc, SL, rfl, l1, k1, z1, u1, v1, _⟩ := open_rows (Pr := fun _ => True) (L := sloL) 27 63 Try.underlying27 cells63 (by kernel_rfl : Try.prog.bytesOf 63 = 88) sloL_len (by omega) (fun n cs y hl hy hw => by
      obtain ⟨q0, q1, q2, q3, q4, q5, q6, q7, q8, rfl⟩ := list9 hl
      obtain ⟨x0, x1, x2, x3, x4, x5, x6, x7, x8, rfl, rfl, rfl, rfl, rfl, rfl, rfl, rfl, rfl⟩ := cell_slot hy
      exact ⟨⟨x0, x1, x2, x3, x4, x5, x6, x7, x8⟩, rfl, trivial⟩) h6 (hwj 6 27 y6.1 rfl rfl)
    obtain ⟨ep, en, ec, EL, rfl, l2, k2, z2, u2, v2, pe⟩ := open_rows (Pr := fun x : Epo => 0 ≤ x.n) (L := epoL) 28 38 Try.underlying28 cells38 (by kernel_rfl : Try.prog.bytesOf 38 = 72) epoL_len (by omega) (fun n cs y hl hy hw => by
      obtain ⟨q0, q1, q2, q3, q4, rfl⟩ := list5 hl
      obtain ⟨x0, x1, x2, x3, x4, rfl, rfl, rfl, rfl, rfl⟩ := cell_epoch hy
      exact ⟨⟨(x0 : Nat), x1, x2, x3, x4⟩, rfl, by simp⟩) h7 (hwj 7 28 y7.1 rfl rfl)
    obtain ⟨gp, gn, gc, GL, rfl, l3, k3, z3, u3, v3, pg⟩ := open_rows (Pr := fun x : Int × Int × Int => 0 ≤ x.2.2) (L := sgZ) 29 65 Try.underlying29 cells65 (by kernel_rfl : Try.prog.bytesOf 65 = 24) sgZ_len (by omega) (fun n cs y hl hy hw => by
      obtain ⟨q0, q1, q2, rfl⟩ := list3 hl
      obtain ⟨x0, x1, x2, rfl, rfl, rfl⟩ := cell_seg hy
      exact ⟨((x0 : Nat), (x1 : Nat), (x2 : Nat)), rfl, by simp⟩) h8 (hwj 8 29 y8.1 rfl rfl)
    obtain ⟨tp, tn, tc, T, rfl, l4, k4, z4, u4, v4, pt⟩ := open_rows (Pr := fun x : Tk => x.l ≤ 1000000000000000 ∧ ∃ zs, zs.length = x.l ∧ View W (.slice x.p x.l x.c) zs) (L := tkL) 34 61 Try.underlying34 cells61 (by kernel_rfl : Try.prog.bytesOf 61 = 64) tkL_len (by omega) (fun n cs y hl hy hw => open_token hl hy hw) h10 (hwj 10 34 y10.1 rfl rfl)
    rw [reach_is] at k1 k2 k3 k4
    exact ⟨⟨s0, s1, s2, s3, a0, (a1 : Nat), a2, a3, d0, d1, d2, sp, sn, sc, ep, en, ec, gp, gn, gc, r0, r1, r2, r3, r4, (r5 : Nat), r6, r7, r8, r9, (r10 : Nat), r11, tp, tn, tc⟩, r5, SL, EL, GL, T, rfl, ⟨by simp, by simp only; omega, rfl, bA, bS, l1, l2, l3, l4, by simp only; omega, by simp only; omega, by simp only; omega, by simp only; omega, z1, z2, z3, z4, u3.1, u3.2, v1, v2, v3, v4, fun i x hx => pt x (List.mem_of_getElem? hx)⟩, pg, k1, k2, k4⟩
set_option maxRecDepth 100000 in
theorem cell_turn {H : Type} {enc : TypeId × Value → H} {W : World} {n : Nat} {c0 c1 c2 c3 : Value} {y : DataW H × List MemPlace} (h : DataW.trod enc Try.prog W 0 (fun _ => true) true n 40 [c0, c1, c2, c3] = some y) : ∃ (z0 : ByteArray) (z1 : Int) (z2 : Bool) (z3 : Nat), c0 = .string z0 ∧ c1 = .int .i64 z1 ∧ c2 = .bool z2 ∧ c3 = .int .u64 (z3 : Nat) := by
  obtain ⟨d0, p0⟩ := y
  obtain ⟨xs, n, _, hx, _, hlen, hfs⟩ := DataW.trod_struct Try.underlying40 h
  match xs, hlen with
  | [y0, y1, y2, y3], _ =>
    have h0 := hfs 0 _ rfl
    have h1 := hfs 1 _ rfl
    have h2 := hfs 2 _ rfl
    have h3 := hfs 3 _ rfl
    simp [cells3, cells4, cells9, cells22] at h0 h1 h2 h3
    obtain ⟨z0, rfl, _⟩ := cell_s h0
    obtain ⟨z1, rfl⟩ := cell_i3 h1
    obtain ⟨z2, rfl⟩ := cell_b h2
    obtain ⟨z3, rfl, _⟩ := cell_u h3
    exact ⟨z0, z1, z2, z3, rfl, rfl, rfl, rfl⟩
theorem cells40 : Try.prog.cellsOf 40 = 4 := by kernel_rfl
theorem cells42 : Try.prog.cellsOf 42 = 38 := by kernel_rfl
theorem list38 {α : Type} {cs : List α} (h : cs.length = 38) : ∃ c0 c1 c2 c3 c4 c5 c6 c7 c8 c9 c10 c11 c12 c13 c14 c15 c16 c17 c18 c19 c20 c21 c22 c23 c24 c25 c26 c27 c28 c29 c30 c31 c32 c33 c34 c35 c36 c37, cs = [c0, c1, c2, c3, c4, c5, c6, c7, c8, c9, c10, c11, c12, c13, c14, c15, c16, c17, c18, c19, c20, c21, c22, c23, c24, c25, c26, c27, c28, c29, c30, c31, c32, c33, c34, c35, c36, c37] := by
  match cs, h with
  | c0 :: c1 :: c2 :: c3 :: c4 :: c5 :: c6 :: c7 :: c8 :: c9 :: c10 :: c11 :: c12 :: c13 :: c14 :: c15 :: c16 :: c17 :: c18 :: c19 :: c20 :: c21 :: c22 :: c23 :: c24 :: c25 :: c26 :: c27 :: c28 :: c29 :: c30 :: c31 :: c32 :: c33 :: c34 :: c35 :: c36 :: c37 :: [], _ => exact ⟨c0, c1, c2, c3, c4, c5, c6, c7, c8, c9, c10, c11, c12, c13, c14, c15, c16, c17, c18, c19, c20, c21, c22, c23, c24, c25, c26, c27, c28, c29, c30, c31, c32, c33, c34, c35, c36, c37, rfl⟩
set_option maxRecDepth 100000 in
set_option maxHeartbeats 1000000 in
theorem open_start {H : Type} {enc : TypeId × Value → H} {W : World} {r : Reach} {b0 : Nat} {v : Value} {d : DataW H} {p : List MemPlace} (hv : Value.okWide Try.prog W r b0 42 v) (h : DataW.Trod enc Try.prog W 0 (fun _ => true) true 42 v d p)
    (hw : ∀ x ∈ d.weights Try.prog 42, x ≤ reachBytes) : ∃ m hot SL EL GL T q, v = .agg (stC m q) ∧ AskW W m hot SL EL GL T q := by
  obtain ⟨cs, rfl, hsz⟩ := okWide_struct Try.underlying42 hv
  rw [cells42] at hsz
  obtain ⟨l⟩ := cs
  obtain ⟨c0, c1, c2, c3, c4, c5, c6, c7, c8, c9, c10, c11, c12, c13, c14, c15, c16, c17, c18, c19, c20, c21, c22, c23, c24, c25, c26, c27, c28, c29, c30, c31, c32, c33, c34, c35, c36, c37, rfl⟩ := list38 (cs := l) (by simpa using hsz)
  obtain ⟨fuel, hf⟩ := h
  obtain ⟨xs, n, _, hx, _, hlen, hfs⟩ := DataW.trod_struct Try.underlying42 hf
  match xs, hlen with
  | [y0, y1, y2, y3], _ =>
    have h0 := hfs 0 _ rfl
    have h1 := hfs 1 _ rfl
    have h2 := hfs 2 _ rfl
    have h3 := hfs 3 _ rfl
    simp [Value.cells, cells36, cells38, cells31, cells40] at h0 h1 h2 h3
    have hd : d = .agg [y0.1, y1.1, y2.1, y3.1] := by simpa using congrArg Prod.fst hx
    obtain ⟨m, hot, SL, EL, GL, T, em, hm, hg, v1, v2, v4⟩ := open_metac h0 (fun x hx => hw x (by
      rw [hd, DataW.weights, Try.underlying42]
      exact DataW.weights_mem_each (j := 0) rfl rfl x hx))
    obtain ⟨t0, t1, t2, t3, t4, rfl, rfl, rfl, rfl, rfl⟩ := cell_epoch h1
    obtain ⟨ao, az, rfl, rfl, ba⟩ := cell_area h2
    obtain ⟨u0, u1, u2, u3, rfl, rfl, rfl, rfl⟩ := cell_turn h3
    refine ⟨m, hot, SL, EL, GL, T, ⟨⟨(t0 : Nat), t1, t2, t3, t4⟩, ao, az, u0, u1, u2, u3⟩, ?_, ⟨hm, ba, by simp, hg, v1, v2, v4⟩⟩
    simp only [List.cons.injEq, and_true] at em
    obtain ⟨rfl, rfl, rfl, rfl, rfl, rfl, rfl, rfl, rfl, rfl, rfl, rfl, rfl, rfl, rfl, rfl, rfl, rfl, rfl, rfl, rfl, rfl, rfl, rfl, rfl, rfl, rfl⟩ := em
    rfl
end Go.Proofs.Ytmfnhdflmnmooaa
