import Derived.Test.YtmfnhdflmnmooaaSpi
namespace Go.Proofs.Ytmfnhdflmnmooaa
open Go.RowKit
set_option linter.unusedVariables false
set_option linter.unusedSimpArgs false
theorem info47 : (Try.prog.info? 63).map (fun i => (i.zero, i.size, i.bytes)) = some (some (.agg #[.int .i64 0, .int .i64 0, .int .i64 0, .int .i64 0, .string ⟨#[]⟩, .string ⟨#[]⟩, .int .i64 0, .int .i64 0, .int .i64 0]), 9, 88) := by kernel_rfl
theorem info49 : (Try.prog.info? 38).map (fun i => (i.zero, i.size, i.bytes)) = some (some (.agg #[.int .u64 0, .string ⟨#[]⟩, .string ⟨#[]⟩, .string ⟨#[]⟩, .string ⟨#[]⟩]), 5, 72) := by kernel_rfl
theorem info45 : (Try.prog.info? 61).map (fun i => (i.zero, i.size, i.bytes)) = some (some (.agg #[.int .i64 0, .string ⟨#[]⟩, .slice none 0 0, .string ⟨#[]⟩]), 4, 64) := by kernel_rfl
/-- A token; its numbers' list as a slice. -/
structure Tk where
  n : Int
  s : ByteArray
  p : Option Addr
  l : Nat
  c : Nat
  z : ByteArray
def tkL (x : Tk) : List Value := [.int .i64 x.n, .string x.s, .slice x.p x.l x.c, .string x.z]
/-- Rows of structs of a size, as cells, behind a slice. -/
def RowV (w : World) (p : Option Addr) (n size : Nat) (cs : List Value) : Prop :=
  cs.length = n * size ∧ (n = 0 ∨ ∃ b off, p = some ⟨b, off, none⟩ ∧ b < w.heap.size ∧ ∀ j u, cs[j]? = some u → w.cell? ⟨b, off + j, none⟩ = some u)
theorem RowV.below {w w' : World} {p : Option Addr} {n size : Nat} {cs : List Value} (h : RowV w p n size cs) {B : Nat} (hs : w.heap.size ≤ B) (hB : Below B w w') : RowV w' p n size cs := by
  obtain ⟨hl, h | ⟨b, off, rfl, hb, hc⟩⟩ := h
  · exact ⟨hl, .inl h⟩
  · refine ⟨hl, .inr ⟨b, off, rfl, by have := hB.size; omega, fun j u hu => (hB.cell (p := ⟨b, off + j, none⟩) (Nat.lt_of_lt_of_le hb hs)).trans (hc j u hu)⟩⟩
def tkS (T : List Tk) : Nat := (T.map (·.l)).sum
theorem tkS_take (T : List Tk) (k : Nat) (x : Tk) (h : T[k]? = some x) : tkS (T.take (k + 1)) = tkS (T.take k) + x.l := by
  obtain ⟨hk, e⟩ := List.getElem?_eq_some_iff.1 h
  rw [tkS, tkS, List.take_succ_eq_append_getElem hk, List.map_append, List.sum_append, e]
  simp
def WideP (T : List Tk) (e : Ending) : Prop := ∃ r : Bool, e = .returned (.bool r) ∧ (r = false → tkS T ≤ 65536)
/-- The tokens' slices, where they lie. -/
def TkP (w : World) (m : Mt) (T : List Tk) : Prop := T.length = m.tn ∧ (m.tn = 0 ∨ ∃ b off, m.tp = some ⟨b, off, none⟩ ∧ b < w.heap.size ∧ ∀ (i : Nat) (x : Tk), T[i]? = some x → ∀ j u, (tkL x)[j]? = some u → w.cell? ⟨b, off + i * 4 + j, none⟩ = some u)
set_option maxHeartbeats 1600000 in
set_option maxRecDepth 100000 in
theorem wide_some (m : Mt) (T : List Tk) (b off n c : Nat) (hp : m.tp = some ⟨b, off, none⟩) (hn : m.tn = n) (hc0 : m.tc = c) (hn0 : n ≤ 1000000000000000) (hT : Hid (T.length = n)) (hl : Hid (∀ (i : Nat) (x : Tk), T[i]? = some x → x.l ≤ 1000000000000000)) (w : World) (hb : b < w.heap.size)
    (hc : Hid (∀ (i : Nat) (x : Tk), T[i]? = some x → ∀ j u, (tkL x)[j]? = some u → w.cell? ⟨b, off + i * 4 + j, none⟩ = some u)) :
    Calls Try.prog 5 #[.agg (mtC m)] w fun e w' => WideP T e ∧ Below w.heap.size w w' := by
  have bx : Bx (w.alloc (.cells (mtC m) 36)) w.heap.size m := World.alloc_heap_new w _
  have y26 := bx.c 26 (.slice m.tp m.tn m.tc) rfl
  rw [hp, hn, hc0] at y26
  go_enter Try.func5, Try.ntmps5
  go_wp2
  go_loop [3, 4] (fun s i => ∃ k : Nat, k ≤ n ∧ i = .int .i64 k ∧ ∃ q : Nat, s = .int .i64 (q : Int) ∧ q ≤ 1000000000100000 ∧ Hid (q = tkS (T.take k))) (fun _ i => n - (intOf i).toNat)
  case atStart => exact ⟨0, Nat.zero_le _, rfl, 0, rfl, by omega, (show (0:Nat) = tkS (T.take 0) from by simp [tkS])⟩
  case round =>
    obtain ⟨k, hk, rfl, q, rfl, hq, HQ⟩ := hrel
    by_cases hlt : k < n
    · by_cases hle : q ≤ 65536
      · obtain ⟨x, hx⟩ : ∃ x, T[k]? = some x := ⟨T[k]'(by have := hT.out; omega), List.getElem?_eq_getElem _⟩
        have hx2 := hl.out k x hx
        have hcell : (w.alloc (.cells (mtC m) 36)).cell? ⟨b, off + k * 4 + 2, none⟩ = some (.slice x.p x.l x.c) := by
          have := hc.out k x hx 2 _ rfl
          exact (((Below.refl w.heap.size w).alloc (Nat.le_refl _) _).cell (p := ⟨b, off + k * 4 + 2, none⟩) hb).trans this
        have HX : Hid (T[k]? = some x) := hx
        clear hx
        go_wp2
        go_round
        case rel => exact ⟨k + 1, by omega, by go_num, q + x.l, by go_num, by omega, (show q + x.l = tkS (T.take (k + 1)) from by rw [tkS_take T k x HX.out, HQ.out])⟩
        case measure => simp [intOf]; omega
      · go_wp2
        go_ret
        exact ⟨⟨_, rfl, fun h => by first | (simp at h; omega) | simp at h⟩, (Below.refl _ w).alloc (Nat.le_refl _) _⟩
    · go_wp2
      go_ret
      refine ⟨⟨_, rfl, fun h => ?_⟩, (Below.refl _ w).alloc (Nat.le_refl _) _⟩
      have h1 := HQ.out
      rw [List.take_of_length_le (by have := hT.out; omega)] at h1
      simp at h
      omega
set_option maxHeartbeats 1600000 in
set_option maxRecDepth 100000 in
theorem wide_none (m : Mt) (hn : m.tn = 0) (w : World) :
    Calls Try.prog 5 #[.agg (mtC m)] w fun e w' => WideP [] e ∧ Below w.heap.size w w' := by
  have bx : Bx (w.alloc (.cells (mtC m) 36)) w.heap.size m := World.alloc_heap_new w _
  have y26 := bx.c 26 (.slice m.tp m.tn m.tc) rfl
  rw [hn] at y26
  go_enter Try.func5, Try.ntmps5
  go_wp2
  go_loop [3, 4] (fun s i => i = .int .i64 (0 : Nat) ∧ s = .int .i64 (0 : Nat)) (fun _ i => 0)
  case atStart => exact ⟨rfl, rfl⟩
  case round =>
    obtain ⟨rfl, rfl⟩ := hrel
    go_wp2
    go_ret
    exact ⟨⟨_, rfl, fun h => by simp [tkS]⟩, (Below.refl _ w).alloc (Nat.le_refl _) _⟩
/-- cofferlaw09.wide: where it says no, there are few numbers. -/
theorem wide_any (m : Mt) (T : List Tk) (hn : m.tn ≤ 1000000000000000) (hl : ∀ (i : Nat) (x : Tk), T[i]? = some x → x.l ≤ 1000000000000000) (w : World) (hT : TkP w m T) :
    Calls Try.prog 5 #[.agg (mtC m)] w fun e w' => WideP T e ∧ Below w.heap.size w w' := by
  obtain ⟨h1, h2 | ⟨b, off, hp, hb, hc⟩⟩ := hT
  · obtain rfl : T = [] := List.eq_nil_of_length_eq_zero (by omega)
    exact wide_none m h2 w
  · exact wide_some m T b off m.tn m.tc hp rfl rfl hn h1 hl w hb hc
end Go.Proofs.Ytmfnhdflmnmooaa
