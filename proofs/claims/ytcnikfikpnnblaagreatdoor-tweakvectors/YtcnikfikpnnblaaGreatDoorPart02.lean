import Derived.Test.YtcnikfikpnnblaaGreatDoorPart01
import Derived.Test.YtcnikfikpnnblaaGreatDoorChecked
import Derived.WalkKit
import Derived.Below
import Derived.ProofKit
import Derived.Deep.MidRow
import Derived.Deep.Draws
import Derived.Deep.Upon
import Derived.Laws.ResultCell
import Derived.Laws.BytesArg
import Derived.Laws.BitsLemmas
import Derived.Laws.MakeOwn
namespace Go.Proofs.YtcnikfikpnnblaaGreatDoor
open Go.RowKit
set_option linter.unusedVariables false
theorem rot8_core (x k s : Int) (w : World) (hb : bits .and .u64 (IntKind.u64.wrap k) 7 = s) (h0 : 0 ≤ s) (h1 : s ≤ 8) (h2 : IntKind.u64.wrap (8 - s) = 8 - s) : Calls Tryz.prog 225 #[.int .u8 x, .int .i64 k] w fun e w' => e = .returned (.int .u8 (bits .or .u8 (x * 2 ^ s.toNat % 256) (x / 2 ^ (8 - s).toNat))) ∧ w' = w := by
  have h3 : 0 ≤ 8 - s := by omega
  go_enter Tryz.func225, Tryz.ntmps225
  go_wp2
  go_ret
  exact ⟨rfl, rfl⟩
def rotN (x s : Nat) : Nat := Nat.lor (Nat.mod (Nat.mul x (Nat.pow 2 s)) 256) (Nat.div x (Nat.pow 2 (Nat.sub 8 s)))
theorem rot_all : ∀ x : Fin 256, ∀ s : Fin 8, bits .or .u8 ((x.1 : Int) * 2 ^ s.1 % 256) ((x.1 : Int) / 2 ^ (8 - s.1)) = (rotN x.1 s.1 : Nat) := by decide +kernel
theorem rot_k : ∀ s : Fin 8, bits .and .u64 (IntKind.u64.wrap (s.1 : Int)) 7 = (s.1 : Int) ∧ IntKind.u64.wrap (8 - (s.1 : Int)) = 8 - (s.1 : Int) := by decide +kernel
theorem rot8 {x : Nat} {w : World} (s : Nat) (hx : x < 256) (hs : s < 8) : Calls Tryz.prog 225 #[.int .u8 x, .int .i64 s] w fun e w' => e = .returned (.int .u8 (rotN x s : Nat)) ∧ w' = w := by
  have h := rot8_core x s s w (rot_k ⟨s, hs⟩).1 (by omega) (by omega) (rot_k ⟨s, hs⟩).2
  have e : bits .or .u8 ((x : Int) * 2 ^ (s : Int).toNat % 256) ((x : Int) / 2 ^ (8 - (s : Int)).toNat) = (rotN x s : Nat) := by
    rw [show (8 - (s : Int)).toNat = 8 - s by omega, show (s : Int).toNat = s by omega]
    exact rot_all ⟨x, hx⟩ ⟨s, hs⟩
  rw [e] at h
  exact h
theorem rot_ex {x : Nat} {w : World} (s : Nat) (hx : x < 256) (hs : s < 8) : Calls Tryz.prog 225 #[.int .u8 x, .int .i64 s] w fun e w' => ∃ y : Nat, Hid (y = rotN x s) ∧ e = .returned (.int .u8 y) ∧ w' = w :=
  (rot8 s hx hs).mono fun e w' ⟨h1, h2⟩ => ⟨_, rfl, h1, h2⟩
def sprN (y : Nat) : Nat := Nat.xor (Nat.xor (Nat.xor (Nat.xor (Nat.xor y (rotN y 1)) (rotN y 2)) (rotN y 3)) (rotN y 4)) 99
theorem spr_all : ∀ y : Fin 256, bits .xor .u8 (bits .xor .u8 (bits .xor .u8 (bits .xor .u8 (bits .xor .u8 (y.1 : Int) (rotN y.1 1 : Nat)) (rotN y.1 2 : Nat)) (rotN y.1 3 : Nat)) (rotN y.1 4 : Nat)) 99 = (sprN y.1 : Nat) := by decide +kernel
theorem spr_lt : ∀ y : Fin 256, sprN y.1 < 256 := by decide +kernel
theorem spread_ok (y : Nat) (hy : y < 256) (w : World) : Calls Tryz.prog 167 #[.int .u8 y] w fun e w' => ∃ z : Nat, z < 256 ∧ Hid (z = sprN y) ∧ e = .returned (.int .u8 z) ∧ w' = w := by
  go_enter Tryz.func167, Tryz.ntmps167
  go_wp2_with (first | (go_at_call 225; (refine (rot_ex 1 hy (by decide)).mono ?_)))
  rintro e1 w1 ⟨y1, H1, rfl, hw1⟩
  obtain rfl := hw1.symm
  go_wp2_with (first | (go_at_call 225; (refine (rot_ex 2 hy (by decide)).mono ?_)))
  rintro e1 w1 ⟨y2, H2, rfl, hw1⟩
  obtain rfl := hw1.symm
  go_wp2_with (first | (go_at_call 225; (refine (rot_ex 3 hy (by decide)).mono ?_)))
  rintro e1 w1 ⟨y3, H3, rfl, hw1⟩
  obtain rfl := hw1.symm
  go_wp2_with (first | (go_at_call 225; (refine (rot_ex 4 hy (by decide)).mono ?_)))
  rintro e1 w1 ⟨y4, H4, rfl, hw1⟩
  obtain rfl := hw1.symm
  go_wp2
  go_ret
  refine ⟨sprN y, spr_lt ⟨y, hy⟩, rfl, ret_int ?_, rfl⟩
  rw [H1.out, H2.out, H3.out, H4.out]
  exact spr_all ⟨y, hy⟩
end Go.Proofs.YtcnikfikpnnblaaGreatDoor
namespace Go.Proofs.YtcnikfikpnnblaaGreatDoor.Fd
open Go.RowKit
set_option linter.unusedVariables false
set_option linter.unusedSimpArgs false
theorem results_cell1 {fn : Func} {p : Tmp} {ty : TypeId} (h : fn.results = #[.cell p ty]) (tmps : Array Value) (P : Program) (w : World) :
    (results fn tmps).run P w = ((asAddr (tmps.getD p undef)).run P w).andThen fun a w₁ => (loadVar ty a).run P w₁ := by
  simp only [results, h]
  simp [Sem.run_bind, Result.andThen]
/-- A function that ends with an array, which lies in a cell of its own. -/
theorem ret_array {P : Program} {fn : Func} {p : Tmp} {ty : TypeId} {d : TypeDesc} {Q : Ending → World → Prop} {tmps : Array Value} {w : World} {b : Nat} (cs : List Value) (h : fn.results = #[.cell p ty])
    (hp : tmps.getD p undef = .pointer (some ⟨b, 0, none⟩)) (hr : w.rangeAt b 0 cs) (hu : P.underlying ty = some d) (hd : d.isRow = true) (hi : (P.info? ty).map (·.size) = some cs.length)
    (hq : Q (.returned (.agg cs.toArray)) w) : bodyPost P fn Q .ret ⟨tmps, []⟩ w := by
  refine bodyPost_ret (v := .agg cs.toArray) ?_ rfl hq
  rw [results_cell1 h]
  have hl := run_loadVar_mid (P := P) w b 0 ty cs d hr hu hd hi
  simp [hp, asAddr, hl]
theorem below_setCells (b : Nat) {B : Nat} (hB : B ≤ b) {a : World} : ∀ (vs : List Value) (o : Nat) (w : World), Below B a w → Below B a (w.setCells b o vs)
  | [], _, _, h => h
  | v :: r, o, w, h => by rw [World.setCells]; exact below_setCells b hB r (o + 1) _ (h.setCell hB _)
theorem size_setCells (b : Nat) : ∀ (vs : List Value) (o : Nat) (w : World), (w.setCells b o vs).heap.size = w.heap.size
  | [], _, _ => rfl
  | v :: r, o, w => by rw [World.setCells, size_setCells b r (o + 1)]; simp [World.setCell]
theorem sizeB_setCells (b : Nat) : ∀ (vs : List Value) (o : Nat) (w : World), (w.setCells b o vs).heap.size = w.heap.size
  | [], _, _ => rfl
  | v :: r, o, w => by rw [World.setCells, sizeB_setCells b r (o + 1)]; simp [World.setCell]
theorem belowB_setCells (b : Nat) {B : Nat} (hB : B ≤ b) {a : World} : ∀ (vs : List Value) (o : Nat) (w : World), Below B a w → Below B a (w.setCells b o vs)
  | [], _, _, h => h
  | v :: r, o, w, h => by rw [World.setCells]; exact belowB_setCells b hB r (o + 1) _ (h.setCell hB _)
theorem rangeAt_new (w : World) (C : Array Value) (t : TypeId) : (w.alloc (.cells C t)).rangeAt w.heap.size 0 C.toList := fun j v hv => by
  rw [World.cell?_alloc_at C t _ _ rfl]
  simpa using hv
theorem there_new (w : World) (C : Array Value) (t : TypeId) (n : Nat) (hn : n ≤ C.size) : (w.alloc (.cells C t)).there w.heap.size 0 n := fun j hj => by
  refine ⟨?_, World.frozen?_alloc_at C t _ _ rfl⟩
  rw [World.cell?_alloc_at C t _ _ rfl]
  simp
  omega
/-- A world that differs in what it drew alone. -/
structure Sm (w w' : World) : Prop where
  os : w'.os = w.os
  tape : w'.tape = w.tape
  output : w'.output = w.output
  heap : w'.heap = w.heap
theorem Sm.refl (w : World) : Sm w w := ⟨rfl, rfl, rfl, rfl⟩
theorem Sm.drewN {w v : World} (h : Sm w v) (m : Nat) : Sm w (v.drewN m) := ⟨h.os, h.tape, h.output, h.heap⟩
theorem Sm.trans {a b c : World} (h : Sm a b) (k : Sm b c) : Sm a c := ⟨k.os.trans h.os, k.tape.trans h.tape, k.output.trans h.output, k.heap.trans h.heap⟩
theorem Sm.cell {w v : World} (h : Sm w v) (p : Addr) : v.cell? p = w.cell? p := World.cell?_of_block (by rw [h.heap])
theorem Sm.frozen {w v : World} (h : Sm w v) (p : Addr) : v.frozen? p = w.frozen? p := World.frozen?_of_block (by rw [h.heap])

theorem setCells_os (b : Nat) : ∀ (vs : List Value) (o : Nat) (w : World), (w.setCells b o vs).os = w.os
  | [], _, _ => rfl
  | v :: r, o, w => by rw [World.setCells, setCells_os b r (o + 1)]; rfl
theorem setCells_tape (b : Nat) : ∀ (vs : List Value) (o : Nat) (w : World), (w.setCells b o vs).tape = w.tape
  | [], _, _ => rfl
  | v :: r, o, w => by rw [World.setCells, setCells_tape b r (o + 1)]; rfl
theorem setCells_output (b : Nat) : ∀ (vs : List Value) (o : Nat) (w : World), (w.setCells b o vs).output = w.output
  | [], _, _ => rfl
  | v :: r, o, w => by rw [World.setCells, setCells_output b r (o + 1)]; rfl

/-- From w to w' nothing of what was there is changed but n cells of block g from o on; what could be written there can be still. -/
structure Touch (w w' : World) (g o n : Nat) : Prop where
  os : w'.os = w.os
  tape : w'.tape = w.tape
  output : w'.output = w.output
  size : w.heap.size ≤ w'.heap.size
  block : ∀ k, k < w.heap.size → k ≠ g → w'.heap[k]? = w.heap[k]?
  cell : ∀ j, (j < o ∨ o + n ≤ j) → w'.cell? ⟨g, j, none⟩ = w.cell? ⟨g, j, none⟩
  there : ∀ o' n', w.there g o' n' → w'.there g o' n'

theorem Sm.touch {w v : World} (h : Sm w v) (g o n : Nat) : Touch w v g o n :=
  ⟨h.os, h.tape, h.output, by rw [h.heap]; exact Nat.le_refl _, fun k _ _ => by rw [h.heap], fun j _ => h.cell _, fun o' n' ht j hj => by rw [h.cell, h.frozen]; exact ht j hj⟩
theorem Touch.refl (w : World) (g o n : Nat) : Touch w w g o n := (Sm.refl w).touch g o n
theorem Touch.trans {a b c : World} {g o n : Nat} (h : Touch a b g o n) (k : Touch b c g o n) : Touch a c g o n :=
  ⟨k.os.trans h.os, k.tape.trans h.tape, k.output.trans h.output, Nat.le_trans h.size k.size, fun i hi hne => (k.block i (Nat.lt_of_lt_of_le hi h.size) hne).trans (h.block i hi hne), fun j hj => (k.cell j hj).trans (h.cell j hj), fun o' n' ht => k.there o' n' (h.there o' n' ht)⟩
theorem Touch.mono {a b : World} {g o n : Nat} (h : Touch a b g o n) (o' n' : Nat) (h1 : o' ≤ o) (h2 : o + n ≤ o' + n') : Touch a b g o' n' :=
  ⟨h.os, h.tape, h.output, h.size, h.block, fun j hj => h.cell j (by omega), h.there⟩
theorem Touch.setCells {a b : World} {g o n : Nat} (h : Touch a b g o n) (o' : Nat) (vs : List Value) (h1 : o ≤ o') (h2 : o' + vs.length ≤ o + n) : Touch a (b.setCells g o' vs) g o n := by
  refine h.trans ⟨?_, ?_, ?_, ?_, ?_, ?_, ?_⟩
  · exact setCells_os g vs o' b
  · exact setCells_tape g vs o' b
  · exact setCells_output g vs o' b
  · rw [sizeB_setCells]; exact Nat.le_refl _
  · intro k hk hne
    exact World.heap_setCells_other b g o' vs hk hne
  · intro j hj
    exact World.cell?_setCells_out g vs o' b ⟨g, j, none⟩ (fun _ _ => by rcases hj with h | h; exact .inl (by show j < o'; omega); exact .inr (by show o' + vs.length ≤ j; omega))
  · intro o2 n2 ht
    exact World.there_setCells ht g o' vs
theorem Touch.setCell {a b : World} {g o n : Nat} (h : Touch a b g o n) (j : Nat) (u : Value) (h1 : o ≤ j) (h2 : j < o + n) : Touch a (b.setCell ⟨g, j, none⟩ u) g o n :=
  h.setCells j [u] h1 (by simp; omega)
theorem Touch.alloc {a b : World} {g o n : Nat} (h : Touch a b g o n) (ob : Obj) (hg : g < a.heap.size) : Touch a (b.alloc ob) g o n := by
  have hs := h.size
  refine h.trans ⟨rfl, rfl, rfl, by simp, ?_, ?_, ?_⟩
  · intro k hk _
    exact Below.heap_alloc b ob k hk
  · intro j _
    exact World.cell?_alloc_past ob g j (by omega)
  · intro o' n' ht
    exact World.there_alloc ht ob
theorem Touch.drew {a b : World} {g o n : Nat} (h : Touch a b g o n) : Touch a b.drew g o n := ⟨h.os, h.tape, h.output, h.size, h.block, h.cell, h.there⟩
theorem Touch.drewN {a b : World} {g o n : Nat} (h : Touch a b g o n) (m : Nat) : Touch a (b.drewN m) g o n := ⟨h.os, h.tape, h.output, h.size, h.block, h.cell, h.there⟩
/-- What only makes new blocks touches nothing. -/
theorem Touch.below {a b c : World} {g o n : Nat} (h : Touch a b g o n) (k : Below b.heap.size b c) (hg : g < a.heap.size) : Touch a c g o n := by
  have hs := h.size
  refine h.trans ⟨k.os, k.tape, k.output, k.size, fun i hi _ => k.block i hi, fun j _ => k.cell (p := ⟨g, j, none⟩) (show g < _ by omega), ?_⟩
  intro o' n' ht j hj
  rw [k.cell (p := ⟨g, o' + j, none⟩) (show g < _ by omega), k.frozen (p := ⟨g, o' + j, none⟩) (show g < _ by omega)]
  exact ht j hj
theorem Touch.toBelow {a b : World} {g o n B : Nat} (h : Touch a b g o n) (hg : B ≤ g) (hB : B ≤ a.heap.size) : Below B a b :=
  ⟨h.os, h.tape, h.output, h.size, fun k hk => h.block k (by omega) (by omega)⟩
theorem Touch.far {a b : World} {g o n : Nat} (h : Touch a b g o n) {p : Addr} (hp : p.block < a.heap.size) (hne : p.block ≠ g) : b.cell? p = a.cell? p := World.cell?_of_block (h.block p.block hp hne)
theorem Touch.farFrozen {a b : World} {g o n : Nat} (h : Touch a b g o n) {p : Addr} (hp : p.block < a.heap.size) (hne : p.block ≠ g) : b.frozen? p = a.frozen? p := World.frozen?_of_block (h.block p.block hp hne)
theorem val_eq {k : IntKind} {x y : Int} (h : x = y) : Value.int k x = Value.int k y := by rw [h]
theorem ret_int {k : IntKind} {x y : Int} (h : x = y) : Ending.returned (.int k x) = .returned (.int k y) := by rw [h]
end Go.Proofs.YtcnikfikpnnblaaGreatDoor.Fd
namespace Go.Proofs.YtcnikfikpnnblaaGreatDoor.Hx

/-- A hexadecimal digit's letter. -/
def hexD (n : Nat) : Int := if n < 10 then 48 + n else 87 + n
/-- What Hex writes. -/
def hexBytes : List Int → List Int
  | [] => []
  | z :: r => hexD (z / 16).toNat :: hexD (z % 16).toNat :: hexBytes r
theorem hexBytes_append (a b : List Int) : hexBytes (a ++ b) = hexBytes a ++ hexBytes b := by
  induction a with
  | nil => rfl
  | cons z r ih => simp [hexBytes, ih]
theorem hexBytes_length (a : List Int) : (hexBytes a).length = 2 * a.length := by
  induction a with
  | nil => rfl
  | cons z r ih => simp [hexBytes, ih]; omega
theorem hexD_all : ∀ i : Fin 16, ((((ByteArray.mk #[48, 49, 50, 51, 52, 53, 54, 55, 56, 57, 97, 98, 99, 100, 101, 102])[i.1]'i.2).toNat : Nat) : Int) = hexD i.1 := by decide
theorem hexD_at (i : Nat) (h : i < (ByteArray.mk #[48, 49, 50, 51, 52, 53, 54, 55, 56, 57, 97, 98, 99, 100, 101, 102]).size) :
    ((((ByteArray.mk #[48, 49, 50, 51, 52, 53, 54, 55, 56, 57, 97, 98, 99, 100, 101, 102])[i]'h).toNat : Nat) : Int) = hexD i := hexD_all ⟨i, h⟩
theorem take_snoc (xs : List Int) (k : Nat) (h : k < xs.length) : xs.take (k + 1) = xs.take k ++ [xs.getD k 0] := by
  rw [List.take_succ_eq_append_getElem h]
  simp [List.getD, List.getElem?_eq_getElem h]
theorem strOfNums_nil : strOfNums [] = ByteArray.empty := rfl

/-- What a digit stands for; -1: it is none. -/
def hexV (c : Int) : Int := if 48 ≤ c ∧ c ≤ 57 then c - 48 else if 97 ≤ c ∧ c ≤ 102 then c - 87 else if 65 ≤ c ∧ c ≤ 70 then c - 55 else -1
theorem hexV_range (c : Int) : -1 ≤ hexV c ∧ hexV c ≤ 15 := by unfold hexV; split <;> (try split) <;> (try split) <;> omega
/-- A string's bytes as numbers. -/
def nums (s : ByteArray) : List Int := s.data.toList.map fun b => (b.toNat : Int)
theorem nums_length (s : ByteArray) : (nums s).length = s.size := by
  unfold nums
  rw [List.length_map, Array.length_toList]
  rfl
theorem nums_at (s : ByteArray) (i : Nat) (h : i < s.size) : (nums s).getD i 0 = ((s[i]'h).toNat : Int) := by
  have h' : i < (nums s).length := by rw [nums_length]; exact h
  rw [List.getD_eq_getElem?_getD, List.getElem?_eq_getElem h']
  simp [nums]
  rfl
theorem nums_range (s : ByteArray) (i : Nat) : 0 ≤ (nums s).getD i 0 ∧ (nums s).getD i 0 < 256 := by
  by_cases h : i < s.size
  · rw [nums_at s i h]
    have := (s[i]'h).toNat_lt
    omega
  · rw [List.getD_eq_getElem?_getD, List.getElem?_eq_none (by rw [nums_length]; omega)]
    simp
def unhex : List Int → List Int
  | a :: b :: r => (hexV a * 16 + hexV b) :: unhex r
  | _ => []

theorem wraps_i64 (n : Int) (h₀ : 0 ≤ n) (h₁ : n < 2 ^ 63) : IntKind.i64.wrap n = n := by rw [IntKind.wrap_i64]; omega
theorem hexPair (a b : Int) (a0 : 0 ≤ a) (a1 : a ≤ 15) (b0 : 0 ≤ b) (b1 : b ≤ 15) : IntKind.u8.wrap (bits .or .i64 (IntKind.i64.wrap (a * 16)) b) = a * 16 + b := by
  rw [wraps_i64 (a * 16) (by omega) (by omega), bits_join .i64 63 (by decide) wraps_i64 4 (a * 16) b (by omega) (by omega) (by omega) b0 (by omega) (by omega), IntKind.wrap_u8]
  omega
theorem unhex_length : ∀ (m : Nat) (l : List Int), l.length = 2 * m → (unhex l).length = m
  | 0, l, h => by
    obtain rfl : l = [] := List.eq_nil_of_length_eq_zero (by omega)
    rfl
  | m + 1, l, h => by
    match l, h with
    | a :: b :: r, h => simp [unhex, unhex_length m r (by simp at h; omega)]
    | [a], h => simp at h; omega
    | [], h => simp at h
theorem unhex_at : ∀ (j : Nat) (l : List Int), 2 * j + 1 < l.length → (unhex l).getD j 0 = hexV (l.getD (2 * j) 0) * 16 + hexV (l.getD (2 * j + 1) 0)
  | 0, l, h => by
    match l, h with
    | a :: b :: r, _ => simp [unhex]
    | [a], h => simp at h
    | [], h => simp at h
  | j + 1, l, h => by
    match l, h with
    | a :: b :: r, h =>
      have := unhex_at j r (by simp at h; omega)
      simp only [unhex, List.getD_cons_succ]
      rw [this, show 2 * (j + 1) = 2 * j + 1 + 1 by omega]
      simp only [List.getD_cons_succ]
    | [a], h => simp at h
    | [], h => simp at h
theorem made_u8 (m : Nat) : (madeCells #[Value.int .u8 0] m).toList = (List.replicate m (0 : Int)).map (Value.int .u8) := by
  apply List.ext_getElem
  · simp [madeCells]
  · intro i h1 h2
    simp [madeCells, Nat.mod_one]
theorem set_zero (xs : List Int) (j p : Nat) (z : Int) (h : xs.length = j) : (xs ++ List.replicate (p + 1) 0).set j z = (xs ++ [z]) ++ List.replicate p 0 := by
  rw [List.set_append_right _ _ (by omega), h, Nat.sub_self, List.replicate_succ, List.set_cons_zero]
  simp
end Go.Proofs.YtcnikfikpnnblaaGreatDoor.Hx
