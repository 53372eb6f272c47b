import Derived.Test.YtcnikfikpnnblaaGreatDoorRfb
import Derived.Test.YtcnikfikpnnblaaGreatDoorPart30
namespace Go.Proofs.YtcnikfikpnnblaaGreatDoor
open Go.RowKit
set_option linter.unusedVariables false
set_option linter.unusedSimpArgs false
/-- The document's cipher in its box. -/
def Cb (w : World) (c : Nat) : Prop := ∃ cs : Array Value, w.heap[c]? = some (.cells cs 101 (0, 0)) ∧ cs.size = 42
theorem Cb.lt {w : World} {c : Nat} (h : Cb w c) : c < w.heap.size := by obtain ⟨cs, h, _⟩ := h; exact (Array.getElem?_eq_some_iff.1 h).1
theorem Cb.cell {w : World} {c : Nat} (h : Cb w c) (o : Nat) (ho : o < 42) : ∃ u, w.cell? ⟨c, o, none⟩ = some u := by
 obtain ⟨cs, h, hs⟩ := h
 refine ⟨cs[o]'(by omega), ?_⟩
 simp [World.cell?, h, hs, ho]
theorem Cb.frozen {w : World} {c : Nat} (h : Cb w c) (o : Nat) : w.frozen? ⟨c, o, none⟩ = false := by
 obtain ⟨cs, h, hs⟩ := h
 simp [World.frozen?, h]
theorem Cb.there {w : World} {c : Nat} (h : Cb w c) (o n : Nat) (ho : o + n ≤ 42) : w.there c o n := fun j hj => by
 obtain ⟨u, hu⟩ := h.cell (o + j) (by omega)
 exact ⟨by rw [hu]; rfl, h.frozen _⟩
theorem Cb.keep {w w' : World} {c : Nat} (h : Cb w c) (e : w'.heap[c]? = w.heap[c]?) : Cb w' c := by
 obtain ⟨cs, h, hs⟩ := h
 exact ⟨cs, by rw [e]; exact h, hs⟩
theorem Cb.below {w w' : World} {c : Nat} (h : Cb w c) (b : Below w.heap.size w w') : Cb w' c := h.keep (b.block c h.lt)
theorem Cb.sets {w : World} {c : Nat} (h : Cb w c) (o : Nat) (vs : List Value) : Cb (w.setCells c o vs) c := by
 obtain ⟨cs, h, hs⟩ := h
 obtain ⟨r, h1, h2, _⟩ := setCells_bo c 101 vs o w cs h
 exact ⟨r, h1, by rw [h2]; exact hs⟩
theorem Cb.set {w : World} {c : Nat} (h : Cb w c) (o : Nat) (v : Value) : Cb (w.setCell ⟨c, o, none⟩ v) c := by
 have q := h.sets o [v]
 simpa [World.setCells] using q
/-- Between two steps of New: the row's box, the cipher's box. -/
structure Rn (w0 w : World) (m c : Nat) (row : List Value) : Prop where
 row : Bx w m 35 row
 cb : Cb w c
 bel : Below w0.heap.size w0 w
 le : w0.heap.size ≤ c
 ne : m ≠ c
theorem Rn.below {w0 w w' : World} {m c : Nat} {row : List Value} (h : Rn w0 w m c row) (b : Below w.heap.size w w') : Rn w0 w' m c row := ⟨h.row.below b, h.cb.below b, h.bel.trans (b.mono h.bel.size), h.le, h.ne⟩
theorem Rn.sets {w0 w : World} {m c : Nat} {row : List Value} (h : Rn w0 w m c row) (o : Nat) (vs : List Value) : Rn w0 (w.setCells c o vs) m c row :=
 ⟨h.row.keep ((setCells_gb c vs o w).block m h.row.lt (by intro e; injection e with e; exact h.ne e)), h.cb.sets o vs, h.bel.trans (below_gb (setCells_gb c vs o w) h.bel.size h.le), h.le, h.ne⟩
theorem Rn.set {w0 w : World} {m c : Nat} {row : List Value} (h : Rn w0 w m c row) (o : Nat) (v : Value) : Rn w0 (w.setCell ⟨c, o, none⟩ v) m c row := by
 have q := h.sets o [v]
 simpa [World.setCells] using q
theorem built101 (S M T : ByteArray) (a b n : Int) : Tryz.prog.built 101 [(0, .agg #[.string S, .string M, .string T, .int .i64 a, .int .i64 b]), (1, .int .i64 n)] = some #[.string S, .string M, .string T, .int .i64 a, .int .i64 b, .int .i64 n, .pointer none, .pointer none, .pointer none, .int .u8 0, .int .u8 0, .int .u8 0, .int .u8 0, .int .u8 0, .int .u8 0, .int .u8 0, .int .u8 0, .int .u8 0, .int .u8 0, .int .u8 0, .int .u8 0, .int .u8 0, .int .u8 0, .int .u8 0, .int .u8 0, .int .u8 0, .int .u8 0, .int .u8 0, .int .u8 0, .int .u8 0, .int .u8 0, .int .u8 0, .int .u8 0, .int .u8 0, .int .u8 0, .int .u8 0, .int .u8 0, .int .u8 0, .int .u8 0, .int .u8 0, .int .u8 0, .bool false] := by kernel_rfl
def RnP (w : World) (e : Ending) (w' : World) : Prop := ∃ c, e = .returned (.tuple #[.pointer (some ⟨c, 0, none⟩), .int .i64 0]) ∧ Below w.heap.size w w'
def SkP (u : World) (e : Ending) (u' : World) : Prop := ∃ g, e = .returned (.pointer (some ⟨g, 0, none⟩)) ∧ Below u.heap.size u u'
def BkP (u : World) (e : Ending) (u' : World) : Prop := ∃ cs : List Value, e = .returned (.agg cs.toArray) ∧ cs.length = 16 ∧ (∀ v ∈ cs, v.oneCell' = true) ∧ Below u.heap.size u u'
set_option maxHeartbeats 1600000 in
set_option maxRecDepth 100000 in
theorem rN_def (S M T : ByteArray) (a : Int) (va : Option Addr) (n vc : Nat) (w : World) (hn : n ≤ 1000) (h0 : (M.toList == [110, 117, 108, 108]) = false) (h1 : (M.toList == [101, 108, 101, 112, 104, 97, 110, 116]) = false) (h2 : (M.toList == [120, 116, 115]) = false) (h3 : (M.toList == [116, 99, 119]) = false) (h4 : (M.toList == [108, 114, 119]) = false) (hT : (T.toList == [101, 115, 115, 105, 118]) = false)
  (HFI : Hid (Calls Tryz.prog 14 #[.string S] w fun e w' => Hid (e = .returned (.tuple #[.agg #[.string S, .string M, .string T, .int .i64 a, .int .i64 (n : Nat)], .bool true]) ∧ Below w.heap.size w w')))
  (HK1 : Hid (∀ u, Below w.heap.size w u → Calls Tryz.prog 47 #[.slice va n vc] u fun e u' => Hid (SkP u e u'))) :
  Calls Tryz.prog 22 #[.string S, .slice va n vc] w fun e w' => RnP w e w' := by
 have hbd : ∀ w, (Instr.build 101 #[(0, .agg #[.string S, .string M, .string T, .int .i64 a, .int .i64 (n : Nat)]), (1, .int .i64 (n : Nat))]).run Tryz.prog w = .ok (.agg #[.string S, .string M, .string T, .int .i64 a, .int .i64 (n : Nat), .int .i64 (n : Nat), .pointer none, .pointer none, .pointer none, .int .u8 0, .int .u8 0, .int .u8 0, .int .u8 0, .int .u8 0, .int .u8 0, .int .u8 0, .int .u8 0, .int .u8 0, .int .u8 0, .int .u8 0, .int .u8 0, .int .u8 0, .int .u8 0, .int .u8 0, .int .u8 0, .int .u8 0, .int .u8 0, .int .u8 0, .int .u8 0, .int .u8 0, .int .u8 0, .int .u8 0, .int .u8 0, .int .u8 0, .int .u8 0, .int .u8 0, .int .u8 0, .int .u8 0, .int .u8 0, .int .u8 0, .int .u8 0, .bool false]) w := fun w => run_build w _ _ _ (built101 S M T a _ _)
 go_enter Tryz.func22, Tryz.ntmps22
 go_upto_region 2 with (go_at_call 14; refine HFI.out.mono ?_; intro e1 w1 hh; obtain ⟨rfl, hb1⟩ := hh.out; have HB1 : Hid (Below w.heap.size w w1) := hb1; clear hh hb1 HFI)
 obtain ⟨w2, hw2⟩ : ∃ w2, w2 = w1.alloc (.cells #[.string S, .string M, .string T, .int .i64 a, .int .i64 (n : Nat)] 35) := ⟨_, rfl⟩
 obtain ⟨m, HM⟩ : ∃ m, Hid (w1.heap.size = m) := ⟨_, rfl⟩
 have HB2 : Hid (Bx w2 m 35 [.string S, .string M, .string T, .int .i64 a, .int .i64 (n : Nat)] ∧ Below w.heap.size w w2) := by
  rw [hw2, ← HM.out]; exact ⟨Bx.new w1 35 _, HB1.out.alloc HB1.out.size _⟩
 rw [← hw2, HM.out]
 clear hw2
 have s4 : w2.cell? ⟨m, 4, none⟩ = some (.int .i64 (n : Nat)) := HB2.out.1.cell 4 _ rfl
 go_upto_region 8 with (first
  | (refine wpList_load_mid (by rfl) 35 (.tmp 6) (by rfl) m 0 (by rfl) [.string S, .string M, .string T, .int .i64 a, .int .i64 (n : Nat)] _ HB2.out.1.range Tryz.underlying35 rfl (by kernel_rfl) ?_))
 obtain ⟨w3, hw3⟩ : ∃ w3, w3 = w2.alloc (.cells #[.string S, .string M, .string T, .int .i64 a, .int .i64 (n : Nat), .int .i64 (n : Nat), .pointer none, .pointer none, .pointer none, .int .u8 0, .int .u8 0, .int .u8 0, .int .u8 0, .int .u8 0, .int .u8 0, .int .u8 0, .int .u8 0, .int .u8 0, .int .u8 0, .int .u8 0, .int .u8 0, .int .u8 0, .int .u8 0, .int .u8 0, .int .u8 0, .int .u8 0, .int .u8 0, .int .u8 0, .int .u8 0, .int .u8 0, .int .u8 0, .int .u8 0, .int .u8 0, .int .u8 0, .int .u8 0, .int .u8 0, .int .u8 0, .int .u8 0, .int .u8 0, .int .u8 0, .int .u8 0, .bool false] 101) := ⟨_, rfl⟩
 obtain ⟨c, HCC⟩ : ∃ c, Hid (w2.heap.size = c) := ⟨_, rfl⟩
 have HR : Hid (Rn w w3 m c [.string S, .string M, .string T, .int .i64 a, .int .i64 (n : Nat)]) := by
  have hal : Below w2.heap.size w2 w3 := by rw [hw3]; exact (Below.refl _ _).alloc (Nat.le_refl _) _
  refine ⟨HB2.out.1.below hal, ⟨_, by rw [hw3, ← HCC.out]; exact heap_alloc_new w2 _, rfl⟩, HB2.out.2.trans (hal.mono HB2.out.2.size), by rw [← HCC.out]; exact HB2.out.2.size, ?_⟩
  have := HB2.out.1.lt
  have := HCC.out
  omega
 rw [← hw3, HCC.out]
 clear hw3 s4 hbd
 have q1 : w3.cell? ⟨m, 1, none⟩ = some (.string M) := HR.out.row.cell 1 _ rfl
 go_upto_region 9 with fail
 clear q1
 go_upto_region 23 with (go_at_call 47; refine (HK1.out _ HR.out.bel).mono ?_; intro e4 w4 hh; obtain ⟨g4, rfl, hb⟩ := hh.out; have HA : Hid (Rn w w4 m c [.string S, .string M, .string T, .int .i64 a, .int .i64 (n : Nat)]) := HR.out.below hb; obtain ⟨x4, hx⟩ := HA.out.cb.cell 6 (by decide); have hfz := HA.out.cb.frozen 6; clear hh hb)
 obtain ⟨w5, hw⟩ : ∃ x, x = w4.setCell ⟨c, 6, none⟩ (.pointer (some ⟨g4, 0, none⟩)) := ⟨_, rfl⟩
 have HR4 : Hid (Rn w w5 m c [.string S, .string M, .string T, .int .i64 a, .int .i64 (n : Nat)]) := by rw [hw]; exact HA.out.set 6 _
 rw [← hw]
 clear hw HA hx hfz HR
 have q2 : w5.cell? ⟨m, 2, none⟩ = some (.string T) := HR4.out.row.cell 2 _ rfl
 go_wp2
 go_ret2
 exact ⟨c, rfl, HR4.out.bel⟩
end Go.Proofs.YtcnikfikpnnblaaGreatDoor
