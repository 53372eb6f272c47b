import Derived.Test.YtcnikfikpnnblaaGreatDoorPart06
import Derived.Laws.ResultCell
import Derived.Below
import Derived.Test.YtcnikfikpnnblaaGreatDoorPart07
import Derived.Laws.EntriesVeiled
import Derived.Deep.Cut
import Derived.Deep.QuietTactic
import Derived.BigQuiet
import Derived.Deep.RegionHeld3
import Derived.Test.YtcnikfikpnnblaaGreatDoorPart00
import Derived.Test.YtcnikfikpnnblaaGreatDoorPart01
import Derived.Deep.AppendLies
import Derived.Test.YtcnikfikpnnblaaGreatDoorPart03
import Derived.WalkKit
import Derived.Laws.BitsAllLaws
import Derived.Laws.Bits64
import Derived.Test.YtcnikfikpnnblaaGreatDoorPart04
namespace Go.Proofs.YtcnikfikpnnblaaGreatDoor
open Go.RowKit
set_option linter.unusedVariables false
/-- Four words as an array. -/
def cols (a b c d : Nat) : Value := .agg #[.int .u32 (a : Nat), .int .u32 (b : Nat), .int .u32 (c : Nat), .int .u32 (d : Nat)]
theorem results_cell1 {fn : Func} {p : Tmp} {ty : TypeId} (h : fn.results = #[.cell p ty]) (tmps : Array Value) (P : Program) (w : World) :
    (results fn tmps).run P w = ((asAddr (tmps.getD p undef)).run P w).andThen fun a w₁ => (loadVar ty a).run P w₁ := by
  simp only [results, h]
  simp [Sem.run_bind, Result.andThen]
/-- A function that ends with an array, which lies in a cell of its own. -/
theorem ret_array {P : Program} {fn : Func} {p : Tmp} {ty : TypeId} {d : TypeDesc} {Q : Ending → World → Prop} {tmps : Array Value} {w : World} {b : Nat} (cs : List Value) (h : fn.results = #[.cell p ty])
    (hp : tmps.getD p undef = .pointer (some ⟨b, 0, none⟩)) (hr : w.rangeAt b 0 cs) (hu : P.underlying ty = some d) (hd : d.isRow = true) (hi : (P.info? ty).map (·.size) = some cs.length)
    (hq : Q (.returned (.agg cs.toArray)) w) : bodyPost P fn Q .ret ⟨tmps, []⟩ w := by
  refine bodyPost_ret (v := .agg cs.toArray) ?_ rfl hq
  rw [results_cell1 h]
  have hl := run_loadVar_mid (P := P) w b 0 ty cs d hr hu hd hi
  simp [hp, asAddr, hl]
theorem range_alloc (w : World) (C : Array Value) (t : TypeId) : ((w.alloc (.cells C t)).drew).rangeAt w.heap.size 0 C.toList := fun j v hv => by
  show (w.alloc (.cells C t)).cell? _ = _
  rw [World.cell?_alloc_at C t _ _ rfl]
  simpa using hv
theorem two_allocs (w : World) (A C : Array Value) (t t' : TypeId) : Below w.heap.size w ((w.alloc (.cells A t)).alloc (.cells C t')) ∧
    ∀ (i : Nat) (v : Value), A[i]? = some v → ((w.alloc (.cells A t)).alloc (.cells C t')).cell? ⟨w.heap.size, i, none⟩ = some v := by
  refine ⟨((Below.refl _ w).alloc (Nat.le_refl _) _).alloc (by simp) _, fun i v hv => ?_⟩
  have hb : Below (w.alloc (.cells A t)).heap.size (w.alloc (.cells A t)) ((w.alloc (.cells A t)).alloc (.cells C t')) := (Below.refl _ _).alloc (Nat.le_refl _) _
  rw [hb.cell (by simp)]
  rw [World.cell?_alloc_at A t _ _ rfl]
  simpa using hv
set_option maxHeartbeats 1600000 in
set_option maxRecDepth 100000 in
theorem add_ok (g o r : Nat) (a0 a1 a2 a3 k0 k1 k2 k3 : Nat) (w : World) (hr : r ≤ 14) (hg : g < w.heap.size)
    (l0 : a0 < 4294967296) (l1 : a1 < 4294967296) (l2 : a2 < 4294967296) (l3 : a3 < 4294967296)
    (m0 : k0 < 4294967296) (m1 : k1 < 4294967296) (m2 : k2 < 4294967296) (m3 : k3 < 4294967296)
    (c0 : w.cell? ⟨g, o + 1 + 4 * r, none⟩ = some (.int .u32 k0)) (c1 : w.cell? ⟨g, o + 1 + 4 * r + 1, none⟩ = some (.int .u32 k1))
    (c2 : w.cell? ⟨g, o + 1 + 4 * r + 2, none⟩ = some (.int .u32 k2)) (c3 : w.cell? ⟨g, o + 1 + 4 * r + 3, none⟩ = some (.int .u32 k3)) :
    Calls Tryz.prog 116 #[.pointer (some ⟨g, o, none⟩), cols a0 a1 a2 a3, .int .i64 r] w fun e w' => e = .returned (cols (Nat.xor a0 k0) (Nat.xor a1 k1) (Nat.xor a2 k2) (Nat.xor a3 k3)) ∧ Below w.heap.size w w' := by
  unfold cols
  have L : Hid (a0 < 4294967296 ∧ a1 < 4294967296 ∧ a2 < 4294967296 ∧ a3 < 4294967296 ∧ k0 < 4294967296 ∧ k1 < 4294967296 ∧ k2 < 4294967296 ∧ k3 < 4294967296) := ⟨l0, l1, l2, l3, m0, m1, m2, m3⟩
  clear l0 l1 l2 l3 m0 m1 m2 m3
  have hsl : ∀ w', Sem.run Tryz.prog (Instr.sliceAt 142 (.pointer (some ⟨g, o + 1, none⟩)) (some (.int .i64 (4 * (r : Int)))) (some (.int .i64 (4 * (r : Int) + 4))) none) w' = .ok (.slice (some ⟨g, o + 1 + 4 * r, none⟩) 4 (60 - 4 * r)) w' := by
    intro w'
    have h := run_sliceAt_array_lh (P := Tryz.prog) w' 142 ⟨g, o + 1, none⟩ (by kernel_rfl) .i64 .i64 (4 * (r : Int)) (4 * (r : Int) + 4) (by omega) (by omega) (by rw [show Tryz.prog.arrayLen 142 = 60 by kernel_rfl]; omega)
    rw [h, show Tryz.prog.arrayLen 142 = 60 by kernel_rfl, show Tryz.prog.elem 142 = 141 by kernel_rfl]
    have e1 : (4 * (r : Int)).toNat = 4 * r := by omega
    have e2 : (4 * (r : Int) + 4).toNat = 4 * r + 4 := by omega
    have e3 : (sizeOf 141).run Tryz.prog w' = .ok 1 w' := by kernel_rfl
    rw [e1, e2, e3]
    simp only [Result.andThen_ok, slicedAt]
    rw [if_neg (by omega), show 4 * r + 4 - 4 * r = 4 by omega, Nat.mul_one, Addr.add_mid]
  go_enter Tryz.func116, Tryz.ntmps116
  have H2 := two_allocs w #[.int .u32 (a0 : Nat), .int .u32 (a1 : Nat), .int .u32 (a2 : Nat), .int .u32 (a3 : Nat)] #[.int .u32 0, .int .u32 0, .int .u32 0, .int .u32 0] 189 189
  have HS : Hid ((fun u : World => u.cell? ⟨g, o + 1 + 4 * r, none⟩ = some (.int .u32 k0) ∧ u.cell? ⟨g, o + 1 + 4 * r + 1, none⟩ = some (.int .u32 k1) ∧ u.cell? ⟨g, o + 1 + 4 * r + 2, none⟩ = some (.int .u32 k2) ∧ u.cell? ⟨g, o + 1 + 4 * r + 3, none⟩ = some (.int .u32 k3) ∧
      u.cell? ⟨w.heap.size, 0, none⟩ = some (.int .u32 a0) ∧ u.cell? ⟨w.heap.size, 1, none⟩ = some (.int .u32 a1) ∧ u.cell? ⟨w.heap.size, 2, none⟩ = some (.int .u32 a2) ∧ u.cell? ⟨w.heap.size, 3, none⟩ = some (.int .u32 a3)) _) :=
    ⟨(H2.1.cell hg).trans c0, (H2.1.cell hg).trans c1, (H2.1.cell hg).trans c2, (H2.1.cell hg).trans c3, H2.2 0 _ rfl, H2.2 1 _ rfl, H2.2 2 _ rfl, H2.2 3 _ rfl⟩
  have HB : Hid (Below w.heap.size w _) := H2.1
  clear H2
  go_wp2
  go_region_held3 (fun u : World => u.cell? ⟨g, o + 1 + 4 * r, none⟩ = some (.int .u32 k0) ∧ u.cell? ⟨g, o + 1 + 4 * r + 1, none⟩ = some (.int .u32 k1) ∧ u.cell? ⟨g, o + 1 + 4 * r + 2, none⟩ = some (.int .u32 k2) ∧ u.cell? ⟨g, o + 1 + 4 * r + 3, none⟩ = some (.int .u32 k3) ∧
      u.cell? ⟨w.heap.size, 0, none⟩ = some (.int .u32 a0) ∧ u.cell? ⟨w.heap.size, 1, none⟩ = some (.int .u32 a1) ∧ u.cell? ⟨w.heap.size, 2, none⟩ = some (.int .u32 a2) ∧ u.cell? ⟨w.heap.size, 3, none⟩ = some (.int .u32 a3)) (first | exact HS.out | go_keep) (fail)
  go_wp2
  obtain ⟨l0, l1, l2, l3, m0, m1, m2, m3⟩ := L.out
  rw [xor32 _ _ l0 m0, xor32 _ _ l1 m1, xor32 _ _ l2 m2, xor32 _ _ l3 m3]
  refine ret_array [.int .u32 (Nat.xor a0 k0 : Nat), .int .u32 (Nat.xor a1 k1 : Nat), .int .u32 (Nat.xor a2 k2 : Nat), .int .u32 (Nat.xor a3 k3 : Nat)] Tryz.results116 rfl ?_ Tryz.underlying189 rfl (by kernel_rfl) ⟨rfl, ?_⟩
  · have h := range_alloc (w.alloc (.cells #[.int .u32 (a0 : Nat), .int .u32 (a1 : Nat), .int .u32 (a2 : Nat), .int .u32 (a3 : Nat)] 189)) #[.int .u32 (Nat.xor a0 k0 : Nat), .int .u32 (Nat.xor a1 k1 : Nat), .int .u32 (Nat.xor a2 k2 : Nat), .int .u32 (Nat.xor a3 k3 : Nat)] 189
    simpa using h
  · exact (((Below.refl _ w).alloc (Nat.le_refl _) _).alloc (by simp) _).drew
end Go.Proofs.YtcnikfikpnnblaaGreatDoor
namespace Go.Proofs.YtcnikfikpnnblaaGreatDoor.Dg
open Go.RowKit
set_option linter.unusedVariables false
set_option linter.unusedSimpArgs false

/-- The digests that there are. -/
def Known (h : Int) : Prop := h = 224 ∨ h = 256 ∨ h = 384 ∨ h = 512
def wdOf (h : Int) : Bool := decide (h = 384 ∨ h = 512)
theorem Known.block {h : Int} (k : Known h) : blockOf h = bsz (wdOf h) := by rcases k with rfl | rfl | rfl | rfl <;> rfl
theorem Rep.below {w v : World} {g o : Nat} {h : Int} {wd : Bool} {s : Eight} {f0 : Nat} {zs : List Int} (k : Rep w g o h wd s f0 zs) (b : Below w.heap.size w v) : Rep v g o h wd s f0 zs := by
  obtain ⟨half, hk, h1, h2⟩ := k
  exact ⟨half, hk.below b, h1, h2⟩
theorem Rep.far {w v : World} {g o g' o' n : Nat} {h : Int} {wd : Bool} {s : Eight} {f0 : Nat} {zs : List Int} (k : Rep w g o h wd s f0 zs) (b : Touch w v g' o' n) (hne : g ≠ g') : Rep v g o h wd s f0 zs := by
  obtain ⟨half, hk, h1, h2⟩ := k
  have hg : g < w.heap.size := lt_of_cell hk.hash
  exact ⟨half, ⟨by rw [b.far hg hne]; exact hk.hash, by rw [b.far (p := ⟨g, o + 1, none⟩) hg hne]; exact hk.fn, fun j x hx => by rw [b.far (p := ⟨g, o + 2 + j, none⟩) hg hne]; exact hk.st j x hx, fun i hi => by rw [b.far (p := ⟨g, o + 10 + i, none⟩) hg hne]; exact hk.half i hi, by rw [b.far (p := ⟨g, o + 138, none⟩) hg hne]; exact hk.fed, b.thereFar hk.there hg hne⟩, h1, h2⟩
/-- What a taken's cells are, as a value. -/
structure TkBig (T : List Value) : Prop where
  len : T.length = 139
  one : T.toArray.all (·.oneCell') = true
  built : List.foldl (fun (cs : Array Value) x => cs.setIfInBounds x.snd x.fst) Tryz.zeroCells278 T.zipIdx = T.toArray
theorem TkBig.size {T : List Value} (h : TkBig T) : T.toArray.size = 139 := by simpa using h.len
theorem TkBig.info {T : List Value} (h : TkBig T) : (Tryz.prog.info? 274).map (·.size) = some T.toArray.size := by rw [h.size]; exact size71
end Go.Proofs.YtcnikfikpnnblaaGreatDoor.Dg
namespace Go.Proofs.YtcnikfikpnnblaaGreatDoor.Dg
open Go.RowKit
set_option linter.unusedVariables false
set_option linter.unusedSimpArgs false

theorem view_lt {w : World} {v : Value} {zs : List Int} (hv : View w v zs) (h0 : zs ≠ []) : ∀ b off l c, v = .slice (some ⟨b, off, none⟩) l c → b < w.heap.size := fun b off l c e => by
  obtain ⟨a, cap, e1, h1, h2, h3, h4⟩ := hv
  rcases h4 with h4 | ⟨b', p', e2, hc⟩
  · exact absurd h4 h0
  · rw [e] at e1
    injection e1 with e3 _ _
    rw [e2] at e3
    injection e3 with e3
    injection e3 with e4 _
    have := lt_of_cell (hc 0 (by cases zs with | nil => exact absurd rfl h0 | cons _ _ => simp))
    simp at this
    omega
theorem view_sliced {w : World} {a : Option Addr} {n cap : Nat} {zs : List Int} (hv : View w (.slice a n cap) zs) (i j : Nat) (hij : i ≤ j) (hj : j ≤ n) : View w (sliced a i j cap 1) ((zs.drop i).take (j - i)) := by
  obtain ⟨a', c, he, h1, h2, h3, h4⟩ := hv
  injection he with e1 e2 e3
  subst e1 e2 e3
  have hl : ((zs.drop i).take (j - i)).length = j - i := by simp; omega
  refine ⟨if cap = i then a else a.map (·.add (i * 1)), cap - i, by rw [sliced, hl], by omega, by omega, ?_, ?_⟩
  · intro e
    split at e
    · omega
    · have : a = none := by cases a with | none => rfl | some x => cases e
      have := h3 this
      omega
  · by_cases hz : (zs.drop i).take (j - i) = []
    · exact .inl hz
    · right
      have hlt : i < j := by
        by_cases hlt : i < j
        · exact hlt
        · exact absurd (by rw [show j - i = 0 by omega, List.take_zero]) hz
      rcases h4 with rfl | ⟨b, off, rfl, hc⟩
      · simp at hj; omega
      · refine ⟨b, off + i, ?_, fun k hk => ?_⟩
        · rw [if_neg (by omega), Option.map_some, Nat.mul_one, Addr.add_mid]
        · rw [hl] at hk
          rw [Nat.add_assoc, hc (i + k) (by omega)]
          simp [List.getD, List.getElem?_take, hk]
theorem elem22 : Tryz.prog.elem 24 = 5 := by kernel_rfl
theorem und22 : Tryz.prog.underlying 24 = some (.slice (Tryz.prog.elem 24)) := by kernel_rfl
theorem sizeOf5 (w : World) : (Go.sizeOf 5).run Tryz.prog w = .ok 1 w := by kernel_rfl
theorem slice_h (w : World) (a : Option Addr) (n cap j : Nat) (hj : j ≤ cap) : (Instr.slice 24 (.slice a n cap) none (some (.int .i64 j)) none).run Tryz.prog w = .ok (sliced a 0 j cap 1) w := by
  rw [run_slice_h w 24 a n cap und22 .i64 j (by omega) (by omega), elem22, sizeOf5]
  simp [Result.andThen]
theorem slice_l (w : World) (a : Option Addr) (n cap i : Nat) (hi : i ≤ n) (hn : n ≤ cap) : (Instr.slice 24 (.slice a n cap) (some (.int .i64 i)) none none).run Tryz.prog w = .ok (sliced a i n cap 1) w := by
  rw [run_slice_l w 24 a n cap und22 .i64 i (by omega) (by omega), elem22, sizeOf5]
  simp [Result.andThen]

end Go.Proofs.YtcnikfikpnnblaaGreatDoor.Dg
namespace Go.Proofs.YtcnikfikpnnblaaGreatDoor.Dg
open Go.RowKit
set_option linter.unusedVariables false
set_option linter.unusedSimpArgs false
/-- The two tables of the document's answer. -/
structure RTab (w : World) : Prop where
  cubes : ∀ t, t < 80 → w.cell? ⟨2, t, none⟩ = some (.int .u64 (cubeAt t))
  roots : ∀ t, t < 16 → w.cell? ⟨1, t, none⟩ = some (.int .u64 (rootAt t))
theorem RTab.kept {w w' : World} (h : RTab w) (hb : ∀ k, k < 3 → w'.heap[k]? = w.heap[k]?) : RTab w' :=
  ⟨fun t ht => by rw [World.cell?_of_block (w := w) (hb 2 (by omega))]; exact h.cubes t ht, fun t ht => by rw [World.cell?_of_block (w := w) (hb 1 (by omega))]; exact h.roots t ht⟩
theorem RTab.size {w : World} (h : RTab w) : 3 ≤ w.heap.size := lt_of_cell (h.cubes 0 (by omega))
theorem RTab.below {w w' : World} {B : Nat} (h : RTab w) (b : Below B w w') (hB : 3 ≤ B) : RTab w' := h.kept fun k hk => b.block k (by omega)
end Go.Proofs.YtcnikfikpnnblaaGreatDoor.Dg
