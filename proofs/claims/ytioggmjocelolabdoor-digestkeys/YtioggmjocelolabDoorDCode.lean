import Derived.Test.YtioggmjocelolabDoorNewMac
namespace Go.Proofs.YtioggmjocelolabDoor
open Go.RowKit
set_option linter.unusedVariables false
set_option linter.unusedSimpArgs false

/-- The HMAC of a key and bytes. -/
def hmac (h : Int) (key zs : List Int) : List Int := macL h (stateOf h key 54) (stateOf h key 92) zs
theorem newMac_any (h : Int) (v : Value) (key : List Int) (w : World) (k : Known h) (hv : View w v key) (hl : key.length ≤ 33554432) (hT : Tables w) :
    Calls Tryd.prog 18 #[.int .i64 h, v] w fun e w' => ∃ g, e = .returned (.tuple #[.pointer (some ⟨g, 0, none⟩), .int .i64 0]) ∧ w.heap.size ≤ g ∧ MRep w' g h (stateOf h key 54) (stateOf h key 92) [] ∧ Below w.heap.size w w' := by
  have hvv := hv
  obtain ⟨a, cap, hvn, _⟩ := hv
  exact newMac h v key key.length cap a w k hvn (by omega) hvv hT
theorem parts_keep {w u : World} {g : Nat} {v : Value} {yss : List (List Int)} (h : Parts w g v yss) (hb : ∀ q, q < w.heap.size → u.heap[q]? = w.heap[q]?) : Parts u g v yss := by
  obtain ⟨a, c, e, h1, h2, h3⟩ := h
  refine ⟨a, c, e, h1, h2, ?_⟩
  rcases h3 with h3 | ⟨b, p, e2, h4, h5⟩
  · exact .inl h3
  · refine .inr ⟨b, p, e2, h4, fun i hi => ?_⟩
    obtain ⟨x, hx1, hx2, hx3⟩ := h5 i hi
    exact ⟨x, by rw [World.cell?_of_block (hb b (lt_of_cell hx1))]; exact hx1, hx2.kept hb, hx3⟩
set_option maxHeartbeats 800000 in
/-- digest.Code of what fits. -/
theorem dcode (h : Int) (kv : Value) (key : List Int) (yss : List (List Int)) (v : Value) (w : World) (k : Hid (Known h)) (hkv : Hid (View w kv key)) (hkl : Hid (key.length ≤ 33554432)) (hp : Hid (∀ u g, Below w.heap.size w u → w.heap.size ≤ g → Parts u g v yss)) (hT : Hid (Tables w)) (hs : Hid (yss.flatten.length ≤ 33554432)) :
    Calls Tryd.prog 16 #[.int .i64 h, kv, v] w fun e w' => ∃ b, e = .returned (.tuple #[.slice (some ⟨b, 0, none⟩) (szOf h) (szOf h), .int .i64 0]) ∧ w'.ownsRow w.heap.size 5 1 (.slice (some ⟨b, 0, none⟩) (szOf h) (szOf h)) (szOf h) (cellsU8 (hmac h key yss.flatten)) ∧ Below w.heap.size w w' := by
  obtain ⟨si, HSI⟩ : ∃ E : Eight, Hid (E = stateOf h key 54) := ⟨_, (show _ = _ from rfl)⟩
  obtain ⟨so, HSO⟩ : ∃ E : Eight, Hid (E = stateOf h key 92) := ⟨_, (show _ = _ from rfl)⟩
  have HN : Hid (Calls Tryd.prog 18 #[.int .i64 h, kv] w fun e w' => ∃ g, e = .returned (.tuple #[.pointer (some ⟨g, 0, none⟩), .int .i64 0]) ∧ w.heap.size ≤ g ∧ MRep w' g h si so [] ∧ Below w.heap.size w w') := by
    show Calls _ _ _ _ _
    rw [HSI.out, HSO.out]
    exact newMac_any h kv key w k.out hkv.out hkl.out hT.out
  go_enter Tryd.func16, Tryd.ntmps16
  go_wp2_with (first | (go_at_call 18; refine HN.out.mono ?_))
  rintro e1 w1 ⟨g, rfl, hg, hr1, hb1⟩
  have HR1 : Hid (MRep w1 g h si so [] ∧ Below w.heap.size w w1 ∧ w.heap.size ≤ g) := ⟨hr1, hb1, hg⟩
  have HP1 : Hid (Parts w1 g v yss) := hp.out w1 g hb1 hg
  have HT1 : Hid (Tables w1) := hT.out.below hb1 hT.out.size
  have hg4 : 4 ≤ g := Nat.le_trans hT.out.size hg
  clear hr1 hb1 hg
  go_wp2_with (first | (go_at_call 19; refine (mwrite g h si so [] yss v w1 k HR1.out.1 HP1 HT1 hg4 (by show _ ≤ _; have := hs.out; simpa using this)).mono ?_))
  rintro e2 w2 ⟨rfl, ht2, hr2⟩
  have HR2 : Hid (MRep w2 g h si so yss.flatten ∧ Below w.heap.size w w2) := ⟨hr2, HR1.out.2.1.trans (ht2.toBelow HR1.out.2.2 HR1.out.2.1.size)⟩
  have HT2 : Hid (Tables w2) := HT1.out.touch ht2 hg4
  clear ht2 hr2 HR1 HP1
  go_wp2_with (first | (go_at_call 21; refine (msum g h si so yss.flatten w2 k HR2.out.1 HT2 (by show _ ≤ _; have := hs.out; omega)).mono ?_))
  rintro e3 w3 ⟨b, rfl, ho3, hb3⟩
  have HQ : Hid (w3.ownsRow w.heap.size 5 1 (.slice (some ⟨b, 0, none⟩) (szOf h) (szOf h)) (szOf h) (cellsU8 (hmac h key yss.flatten)) ∧ Below w.heap.size w w3) := ⟨by rw [hmac, ← HSI.out, ← HSO.out]; exact owns_mono ho3 HR2.out.2.size, HR2.out.2.trans (hb3.mono HR2.out.2.size)⟩
  clear ho3 hb3
  go_wp2
  go_ret2
  exact ⟨b, rfl, HQ.out.1, HQ.out.2⟩
end Go.Proofs.YtioggmjocelolabDoor
