import Derived.Test.YtinmhgackihakaaDoorPart01
import Derived.Lib.Strings
import Derived.Lib.Slices
import Derived.Lib.Walk
import Derived.Lib.Builder
import Derived.Lib.AppendStr
import Derived.Lib.UnsafeStr
import Derived.WalkKit
import Derived.Laws.Externs
import Derived.Test.YtinmhgackihakaaDoorPart00
import Derived.Deep.QuietTactic
import Derived.BigQuiet
import Derived.Deep.Draws
import Derived.Laws.BitsAllLaws
import Derived.Deep.RegionHeld3
import Derived.Deep.Cut
import Derived.Deep.CutBlock
import Derived.WalkMore
namespace Go.Proofs.YtinmhgackihakaaDoor
open Go.RowKit

set_option maxHeartbeats 1000000 in
set_option maxRecDepth 100000 in
theorem check_used (b : Nat) (w : World) (h0 : w.cell? ⟨b, 0, none⟩ = some (.pointer (some ⟨b, 0, none⟩))) :
    Calls Tryd.prog 59 #[.pointer (some ⟨b, 0, none⟩)] w fun e w' => e = .returned (.tuple #[]) ∧ w' = w := by
  obtain ⟨j, hj, _⟩ := Option.map_eq_some_iff.1 Tryd.Builder_Extra_169.sizeBuilder
  change Tryd.prog.info? 80 = some j at hj
  go_enter Tryd.func59, Tryd.ntmps59
  go_wp2
  rw [Lib.run_neq_ptr_same w _ Tryd.underlying78 hj]
  go_wp2
  go_end0
  exact ⟨rfl, rfl⟩

set_option maxHeartbeats 1000000 in
set_option maxRecDepth 100000 in
theorem check_fresh (b : Nat) (w : World) (h0 : w.cell? ⟨b, 0, none⟩ = some (.pointer none)) (hsh : w.shape? b = some (80, 2)) (hfz : w.frozen? ⟨b, 0, none⟩ = false) :
    Calls Tryd.prog 59 #[.pointer (some ⟨b, 0, none⟩)] w fun e w' => e = .returned (.tuple #[]) ∧ w' = w.setCell ⟨b, 0, none⟩ (.pointer (some ⟨b, 0, none⟩)) := by
  obtain ⟨j, hj, hjs⟩ := Option.map_eq_some_iff.1 Tryd.Builder_Extra_169.sizeBuilder
  change Tryd.prog.info? 80 = some j at hj
  go_enter Tryd.func59, Tryd.ntmps59
  go_wp2
  rw [Lib.run_to_unsafe w ⟨b, 0, none⟩ Tryd.underlying78 Tryd.underlying126 hj (by rw [hjs]; decide) hsh (Nat.zero_lt_succ 1)]
  simp only [Result.andThen]
  rw [Oper.upon_value]
  go_wp2
  rw [run_callFunc_extern Tryd.func75 (by kernel_rfl) (by kernel_rfl) (by kernel_rfl) (e := Extern.AbiNoEscape.same) (by kernel_rfl)]
  rw [Lib.run_noEscape]
  simp only [Result.andThen]
  rw [Oper.upon_value]
  go_wp2
  rw [Lib.run_from_unsafe w ⟨b, 0, none⟩ Tryd.underlying126 Tryd.underlying78 hj hsh Tryd.Builder_Extra_169.liesBuilder]
  simp only [Result.andThen]
  rw [Oper.upon_value]
  go_wp2
  go_end0
  exact ⟨rfl, rfl⟩

theorem check_any (B b : Nat) (bs : List Value) (w : World) (h : Lib.IsBuilder 80 5 B b bs w) :
    Calls Tryd.prog 59 #[.pointer (some ⟨b, 0, none⟩)] w fun e w' => e = .returned (.tuple #[]) ∧ (Lib.BuilderAt 80 5 B b (.pointer (some ⟨b, 0, none⟩)) bs w' ∧ Below B w w') := by
  rcases h with h | h
  · refine (check_fresh b w h.cell0 h.shape h.frozen0).mono ?_
    rintro e w' ⟨rfl, rfl⟩
    exact ⟨rfl, h.used _, (Below.refl B w).setCell (p := ⟨b, 0, none⟩) h.1 _⟩
  · refine (check_used b w h.cell0).mono ?_
    rintro e w' ⟨rfl, rfl⟩
    exact ⟨rfl, h, Below.refl B _⟩

theorem Tryd.infoByte : (Tryd.prog.info? 5).map (fun i => (i.zero, i.size, i.bytes)) = some (some (.int .u8 0), 1, 1) := by kernel_rfl

set_option maxHeartbeats 2000000 in
set_option maxRecDepth 100000 in
/-- (*strings.Builder).WriteByte. -/
theorem writeByte_ok (B b : Nat) (bs : List Value) (c : Int) (w : World) (h : Lib.IsBuilder 80 5 B b bs w) (hlen : bs.length + 1 ≤ 140737488355328) (hBw : B ≤ w.heap.size) :
    Calls Tryd.prog 41 #[.pointer (some ⟨b, 0, none⟩), .int .u8 c] w fun e w' => e = .returned .nilIface ∧ (Lib.BuilderAt 80 5 B b (.pointer (some ⟨b, 0, none⟩)) (bs ++ [.int .u8 c]) w' ∧ Below B w w') := by
  obtain ⟨i0, hi, hz0, hz1, hz2⟩ := info_parts Tryd.infoByte
  go_enter Tryd.func41, Tryd.ntmps41
  go_wp2_with (go_at_call 59; refine (check_any B b bs _ h).mono ?_)
  rintro e w1 ⟨rfl, h1, hb1⟩
  obtain ⟨hB, v, hbk, hown, hne⟩ := h1
  have c0 : w1.cell? ⟨b, 0, none⟩ = some (.pointer (some ⟨b, 0, none⟩)) := by rw [Lib.cell_of_heap hbk]; rfl
  have c1 : w1.cell? ⟨b, 1, none⟩ = some v := by rw [Lib.cell_of_heap hbk]; rfl
  go_wp2_with (at_builtin; refine wpList_append_own _ rfl _ _ 23 rfl B 5 i0 (.int .u8 0) 1 1 Tryd.underlying23 hi hz0 hz1 hz2 rfl (by decide) _ _ _ rfl (hown.alloc _) ⟨w1.heap.size, 0, none⟩ 1 1 [.int .u8 c] rfl rfl ?c1 ?c2 ?c3 ?c4 ?c5 ?_)
  case c1 =>
    intro j u hj
    match j, hj with
    | 0, hj => simp at hj; subst hj; simp [Addr.add]
  case c2 => intro u hu; simp at hu; subst hu; rfl
  case c3 => unfold maxLen; omega
  case c4 => omega
  case c5 => have := hb1.size; simp; omega
  intro v' w2 hown' hgrow _
  have hlt : b < w1.heap.size := by
    rcases Nat.lt_or_ge b w1.heap.size with h' | h'
    · exact h'
    · simp [Array.getElem?_eq_none h'] at hbk
  have hb2 : w2.heap[b]? = some (.cells #[.pointer (some ⟨b, 0, none⟩), v] 80 (0, 0)) := by
    rw [hgrow.block b (by simp; omega) (fun e => hne e.symm), Lib.alloc_old w1 _ b hlt]
    exact hbk
  have d0 : w2.cell? ⟨b, 0, none⟩ = some (.pointer (some ⟨b, 0, none⟩)) := by rw [Lib.cell_of_heap hb2]; rfl
  have d1 : w2.cell? ⟨b, 1, none⟩ = some v := by rw [Lib.cell_of_heap hb2]; rfl
  have f1 : w2.frozen? ⟨b, 1, none⟩ = false := Lib.frozen_of_heap hb2 1
  obtain ⟨g, cap, rfl⟩ : ∃ g cap, v' = .slice (some ⟨g, 0, none⟩) (bs.length + 1) cap := by
    rcases hown'.2 with ⟨_, h0⟩ | ⟨g, cap, cur, hv, _⟩
    · omega
    · exact ⟨g, cap, hv⟩
  go_wp2
  go_ret
  refine ⟨rfl, ?_, ?_⟩
  · exact Lib.BuilderAt.put (T := 80) (e := 5) hB hb2 (bs' := bs ++ [.int .u8 c]) (by simpa using hown') (by decide)
  · exact ((hb1.alloc (by have := hb1.size; omega) _).grown hgrow (by have := hb1.size; simp; omega) (fun k hk => (hown.lt k hk).1)).setCell (p := ⟨b, 1, none⟩) hB _
end Go.Proofs.YtinmhgackihakaaDoor
namespace Go.Proofs.YtinmhgackihakaaDoor
open Go.RowKit

/-- The consonants, the vowels. -/
def conU (i : Nat) : UInt8 := ([98, 100, 102, 103, 104, 106, 107, 108, 109, 110, 112, 114, 115, 116, 118, 122] : List UInt8).getD i 0
def vowU (i : Nat) : UInt8 := ([97, 105, 111, 117] : List UInt8).getD i 0
theorem con_all : ∀ i : Fin 16, (((ByteArray.mk #[98, 100, 102, 103, 104, 106, 107, 108, 109, 110, 112, 114, 115, 116, 118, 122])[i.1]'i.2).toNat : Int) = ((conU i.1).toNat : Int) := by decide +kernel
theorem vow_all : ∀ i : Fin 4, (((ByteArray.mk #[97, 105, 111, 117])[i.1]'i.2).toNat : Int) = ((vowU i.1).toNat : Int) := by decide +kernel
theorem con_at (i : Nat) (h : i < (ByteArray.mk #[98, 100, 102, 103, 104, 106, 107, 108, 109, 110, 112, 114, 115, 116, 118, 122]).size) :
    ((((ByteArray.mk #[98, 100, 102, 103, 104, 106, 107, 108, 109, 110, 112, 114, 115, 116, 118, 122])[i]'h).toNat : Nat) : Int) = ((conU i).toNat : Int) := con_all ⟨i, h⟩
theorem vow_at (i : Nat) (h : i < (ByteArray.mk #[97, 105, 111, 117]).size) :
    ((((ByteArray.mk #[97, 105, 111, 117])[i]'h).toNat : Nat) : Int) = ((vowU i).toNat : Int) := vow_all ⟨i, h⟩
/-- The word of a number. -/
def word (v : Int) : List UInt8 := [conU (v / 4096).toNat, vowU (v / 1024 % 4).toNat, conU (v / 64 % 16).toNat, vowU (v / 16 % 4).toNat, conU (v % 16).toNat]
/-- The words of the first k pairs of bytes. -/
def wl (xs : List Int) : Nat → List UInt8
  | 0 => []
  | k + 1 => wl xs k ++ ((if k = 0 then [] else [32]) ++ word (xs.getD (2 * k) 0 * 256 + xs.getD (2 * k + 1) 0))
theorem wl_length (xs : List Int) (k : Nat) : (wl xs k).length ≤ 6 * k := by
  induction k with
  | zero => simp [wl]
  | succ k ih =>
    simp only [wl, List.length_append, word]
    split <;> simp <;> omega

theorem wraps_u16' (n : Int) (h₀ : 0 ≤ n) (h₁ : n < 2 ^ 16) : IntKind.u16.wrap n = n := by simp [IntKind.wrap, IntKind.bits, IntKind.signed]; omega
theorem or16 (x y : Int) (x0 : 0 ≤ x) (x1 : x < 256) (y0 : 0 ≤ y) (y1 : y < 256) : bits .or .u16 (x * 256) y = x * 256 + y :=
  bits_join .u16 16 (by decide) wraps_u16' 8 (x * 256) y (by omega) (by omega) (by omega) (by omega) (by omega) (by omega)
theorem and16_3 (a : Int) (h0 : 0 ≤ a) (h1 : a < 65536) : bits .and .u16 a 3 = a % 4 := bits_mask .u16 16 (by decide) wraps_u16' 2 (by decide) a h0 h1
theorem and16_15 (a : Int) (h0 : 0 ≤ a) (h1 : a < 65536) : bits .and .u16 a 15 = a % 16 := bits_mask .u16 16 (by decide) wraps_u16' 4 (by decide) a h0 h1

set_option maxHeartbeats 400000 in
theorem number_ok (g o m c : Nat) (x y : Int) (w : World) (hm : 2 ≤ m) (x0 : 0 ≤ x) (x1 : x < 256) (y0 : 0 ≤ y) (y1 : y < 256)
    (h1 : w.cell? ⟨g, o, none⟩ = some (.int .u8 x)) (h2 : w.cell? ⟨g, o + 1, none⟩ = some (.int .u8 y)) :
    Calls Tryd.prog 43 #[.slice (some ⟨g, o, none⟩) m c] w fun e w' => e = .returned (.int .u16 (x * 256 + y)) ∧ ∃ k, w' = w.drewN k := by
  have q0 : (0 : Int) < (m : Int) := by omega
  have q1 : (1 : Int) < (m : Int) := by omega
  have ho := or16 x y x0 x1 y0 y1
  go_enter Tryd.func43, Tryd.ntmps43
  go_wp2
  go_quiet (fail)
  go_wp2
  go_ret
  exact ⟨rfl, _, rfl⟩

set_option maxHeartbeats 1000000 in
set_option maxRecDepth 100000 in
/-- escrow.writeWord. -/
theorem writeWord_ok (B b : Nat) (bs : List Value) (v : Int) (w : World) (v0 : 0 ≤ v) (v1 : v < 65536) (h : Lib.IsBuilder 80 5 B b bs w) (hlen : bs.length + 5 ≤ 140737488355328) (hBw : B ≤ w.heap.size) :
    Calls Tryd.prog 42 #[.pointer (some ⟨b, 0, none⟩), .int .u16 v] w fun e w' => e = .returned (.tuple #[]) ∧ (Lib.BuilderAt 80 5 B b (.pointer (some ⟨b, 0, none⟩)) (bs ++ Lib.byteCells (word v)) w' ∧ Below B w w') := by
  have hC := con_at
  have hV := vow_at
  have a1 := and16_3 (v / 1024) (by omega) (by omega)
  have a2 := and16_15 (v / 64) (by omega) (by omega)
  have a3 := and16_3 (v / 16) (by omega) (by omega)
  have a4 := and16_15 v (by omega) (by omega)
  have b0 : 0 ≤ v / 4096 := by omega
  have b1 : v / 4096 < 16 := by omega
  have b2 : 0 ≤ v / 1024 % 4 := by omega
  have b3 : v / 1024 % 4 < 4 := by omega
  have b4 : 0 ≤ v / 64 % 16 := by omega
  have b5 : v / 64 % 16 < 16 := by omega
  have b6 : 0 ≤ v / 16 % 4 := by omega
  have b7 : v / 16 % 4 < 4 := by omega
  have b8 : 0 ≤ v % 16 := by omega
  have b9 : v % 16 < 16 := by omega
  go_enter Tryd.func42, Tryd.ntmps42
  go_wp2_with (go_at_call 41; refine (writeByte_ok B b _ ((conU (v / 4096).toNat).toNat : Int) _ h (by simp; omega) hBw).mono ?_)
  rintro e w1 ⟨rfl, h1, g1⟩
  have k1 := g1
  clear g1
  go_wp2_with (go_at_call 41; refine (writeByte_ok B b _ ((vowU (v / 1024 % 4).toNat).toNat : Int) _ (.inr h1) (by simp; omega) (by have := k1.size; omega)).mono ?_)
  rintro e w2 ⟨rfl, h2, g2⟩
  have k2 := k1.trans g2
  clear g2 k1 h1
  go_wp2_with (go_at_call 41; refine (writeByte_ok B b _ ((conU (v / 64 % 16).toNat).toNat : Int) _ (.inr h2) (by simp; omega) (by have := k2.size; omega)).mono ?_)
  rintro e w3 ⟨rfl, h3, g3⟩
  have k3 := k2.trans g3
  clear g3 k2 h2
  go_wp2_with (go_at_call 41; refine (writeByte_ok B b _ ((vowU (v / 16 % 4).toNat).toNat : Int) _ (.inr h3) (by simp; omega) (by have := k3.size; omega)).mono ?_)
  rintro e w4 ⟨rfl, h4, g4⟩
  have k4 := k3.trans g4
  clear g4 k3 h3
  go_wp2_with (go_at_call 41; refine (writeByte_ok B b _ ((conU (v % 16).toNat).toNat : Int) _ (.inr h4) (by simp; omega) (by have := k4.size; omega)).mono ?_)
  rintro e w5 ⟨rfl, h5, g5⟩
  have k5 := k4.trans g5
  clear g5 k4 h4
  go_wp2
  go_end0
  refine ⟨rfl, ?_, k5⟩
  simpa [Lib.byteCells, word, List.append_assoc] using h5
end Go.Proofs.YtinmhgackihakaaDoor
namespace Go.Proofs.YtinmhgackihakaaDoor
open Go.RowKit
set_option linter.unusedVariables false
set_option linter.unusedSimpArgs false
theorem eqF (a b : F) : ((((a.1 : Nat) : Int)) == (((b.1 : Nat) : Int))) = decide (a = b) := by
  rw [Bool.eq_iff_iff]
  simp only [beq_iff_eq, decide_eq_true_eq]
  exact ⟨fun h => Fin.ext (by omega), fun h => by rw [h]⟩
theorem neF (a b : F) : ((((a.1 : Nat) : Int)) != (((b.1 : Nat) : Int))) = !decide (a = b) := by rw [bne, eqF]
theorem zF (a : F) : ((((a.1 : Nat) : Int)) == 0) = decide (a = 0) := eqF a 0
theorem own_below {w w' : World} {B n : Nat} {e : TypeId} {sz : Nat} {v : Value} {cs : List Value} (h : w.ownsRow B e sz v n cs) (b : Below w.heap.size w w') : w'.ownsRow B e sz v n cs := by
  refine ⟨h.1, ?_⟩
  rcases h.2 with q | ⟨g, cap, cur, q, h1, h2, h3⟩
  · exact .inl q
  · exact .inr ⟨g, cap, cur, q, h1, (b.block g (Array.getElem?_eq_some_iff.1 h2).1).trans h2, h3⟩
end Go.Proofs.YtinmhgackihakaaDoor

namespace Go.Proofs.YtinmhgackihakaaDoor
open Go.RowKit
set_option linter.unusedVariables false
set_option linter.unusedSimpArgs false
/-- A row of a matrix where it lies. -/
def rowV (n : Nat) (gs cs : Nat → Nat) (i : Nat) : Value := .slice (some ⟨gs i, 0, none⟩) (n + 1) (cs i)
structure MatI (B B1 G R n : Nat) (A : Nat → Nat → F) (gs cs : Nat → Nat) (u : World) : Prop where
  top : ∃ sp, Bx u G 23 ((List.range R).map (rowV n gs cs) ++ sp)
  row : ∀ i, i < R → Rx u (gs i) (rowL A n i)
  inj : ∀ i j, i < R → j < R → gs i = gs j → i = j
  lo : ∀ i, i < R → B ≤ gs i ∧ gs i < B1
  glo : B ≤ G ∧ G < B1
  cap : ∀ i, i < R → n + 1 ≤ cs i
variable {B B1 G R n : Nat} {A : Nat → Nat → F} {gs cs : Nat → Nat} {u v : World}
theorem MatI.ptr (h : MatI B B1 G R n A gs cs u) (i : Nat) (hi : i < R) : u.cell? ⟨G, i, none⟩ = some (.slice (some ⟨gs i, 0, none⟩) (n + 1) (cs i)) := by
  obtain ⟨sp, hs⟩ := h.top
  refine hs.cell i _ ?_
  rw [List.getElem?_append_left (by simpa using hi), List.getElem?_map, List.getElem?_range hi]
  rfl
theorem MatI.cell (h : MatI B B1 G R n A gs cs u) (i k : Nat) (hi : i < R) (hk : k ≤ n) : u.cell? ⟨gs i, k, none⟩ = some (.int .u8 ((A i k).1 : Nat)) := by
  have q := (h.row i hi).cell k (by rw [rowL_len]; omega)
  rw [rowL_at _ _ _ _ hk] at q
  exact q
theorem MatI.fr (h : MatI B B1 G R n A gs cs u) (i k : Nat) (hi : i < R) : u.frozen? ⟨gs i, k, none⟩ = false := (h.row i hi).frozen k
theorem MatI.frG (h : MatI B B1 G R n A gs cs u) (i : Nat) : u.frozen? ⟨G, i, none⟩ = false := h.top.choose_spec.frozen i
theorem MatI.ne (h : MatI B B1 G R n A gs cs u) (i : Nat) (hi : i < R) : gs i ≠ G := fun e => by
  obtain ⟨sp, hs⟩ := h.top
  obtain ⟨sp2, hr⟩ := h.row i hi
  rw [e] at hr
  have q := hs.symm.trans hr
  simp at q
theorem MatI.congr {A' : Nat → Nat → F} (h : MatI B B1 G R n A gs cs u) (e : ∀ i k, i < R → k ≤ n → A i k = A' i k) : MatI B B1 G R n A' gs cs u :=
  ⟨h.top, fun i hi => by rw [← rowL_congr A A' n i (fun k hk => e i k hi hk)]; exact h.row i hi, h.inj, h.lo, h.glo, h.cap⟩
theorem MatI.store (h : MatI B B1 G R n A gs cs u) (i k : Nat) (hi : i < R) (hk : k ≤ n) (a : F) : MatI B B1 G R n (rowU A i (fun k' => if k' = k then a else A i k')) gs cs (u.setCell ⟨gs i, k, none⟩ (.int .u8 (a.1 : Nat))) := by
  have hg := set_gb u (gs i) k (.int .u8 (a.1 : Nat))
  obtain ⟨sp, hs⟩ := h.top
  refine ⟨⟨sp, hs.keep (hg.block G hs.lt (fun e => h.ne i hi (by injection e with e; exact e.symm)))⟩, fun j hj => ?_, h.inj, h.lo, h.glo, h.cap⟩
  by_cases e : j = i
  · subst e
    have q := (h.row j hj).set k (by rw [rowL_len]; omega) a
    rw [rowL_set A n j k a hk] at q
    exact q
  · rw [show rowL (rowU A i (fun k' => if k' = k then a else A i k')) n j = rowL A n j from rowL_congr _ _ n j fun q _ => rowU_ne _ _ _ _ _ e]
    exact (h.row j hj).keep (hg.block _ (h.row j hj).lt (fun q => e (h.inj j i hj hi (by injection q with q))))
theorem MatI.far (h : MatI B B1 G R n A gs cs u) (hv : Below B1 u v) : MatI B B1 G R n A gs cs v := by
  obtain ⟨sp, hs⟩ := h.top
  exact ⟨⟨sp, hs.keep (hv.block G h.glo.2)⟩, fun i hi => (h.row i hi).keep (hv.block _ (h.lo i hi).2), h.inj, h.lo, h.glo, h.cap⟩
theorem MatI.drew (h : MatI B B1 G R n A gs cs u) : MatI B B1 G R n A gs cs u.drew := h.far (Below.refl _ _).drew
def swN (c a i : Nat) : Nat := if i = c then a else if i = a then c else i
theorem swN_lt {c a i R : Nat} (hc : c < R) (ha : a < R) (hi : i < R) : swN c a i < R := by unfold swN; split <;> (try split) <;> omega
theorem swN_inj {c a i j : Nat} (h : swN c a i = swN c a j) : i = j := by
  unfold swN at h
  split at h <;> split at h <;> (try split at h) <;> (try split at h) <;> omega
theorem MatI.swap (h : MatI B B1 G R n A gs cs u) (c a : Nat) (hc : c < R) (ha : a < R) : MatI B B1 G R n (swapR A c a) (fun i => gs (swN c a i)) (fun i => cs (swN c a i)) ((u.setCell ⟨G, c, none⟩ (.slice (some ⟨gs a, 0, none⟩) (n + 1) (cs a))).setCell ⟨G, a, none⟩ (.slice (some ⟨gs c, 0, none⟩) (n + 1) (cs c))) := by
  obtain ⟨sp, hs⟩ := h.top
  have hg1 := set_gb u G c (.slice (some ⟨gs a, 0, none⟩) (n + 1) (cs a))
  have hg2 := set_gb (u.setCell ⟨G, c, none⟩ (.slice (some ⟨gs a, 0, none⟩) (n + 1) (cs a))) G a (.slice (some ⟨gs c, 0, none⟩) (n + 1) (cs c))
  refine ⟨⟨sp, ?_⟩, fun i hi => ?_, fun i j hi hj e => swN_inj (h.inj _ _ (swN_lt hc ha hi) (swN_lt hc ha hj) e), fun i hi => h.lo _ (swN_lt hc ha hi), h.glo, fun i hi => h.cap _ (swN_lt hc ha hi)⟩
  · have q := (hs.set c (.slice (some ⟨gs a, 0, none⟩) (n + 1) (cs a))).set a (.slice (some ⟨gs c, 0, none⟩) (n + 1) (cs c))
    rw [List.set_append_left _ _ (by simpa using hc), List.set_append_left _ _ (by simpa using ha)] at q
    have e : (((List.range R).map (rowV n gs cs)).set c (.slice (some ⟨gs a, 0, none⟩) (n + 1) (cs a))).set a (.slice (some ⟨gs c, 0, none⟩) (n + 1) (cs c)) = (List.range R).map (rowV n (fun i => gs (swN c a i)) (fun i => cs (swN c a i))) := by
      apply List.ext_getElem?
      intro j
      by_cases hj : j < R
      · rw [List.getElem?_map, List.getElem?_range hj]
        by_cases e2 : a = j
        · subst e2
          rw [List.getElem?_set_self (by simpa using hj)]
          show _ = some (rowV n _ _ a)
          unfold rowV swN
          by_cases e3 : a = c
          · simp [e3]
          · simp [e3]
        · rw [List.getElem?_set_ne e2]
          by_cases e3 : c = j
          · subst e3
            rw [List.getElem?_set_self (by simpa using hj)]
            show _ = some (rowV n _ _ c)
            unfold rowV swN
            simp
          · rw [List.getElem?_set_ne e3, List.getElem?_map, List.getElem?_range hj]
            show some (rowV n gs cs j) = some (rowV n _ _ j)
            unfold rowV swN
            simp [Ne.symm e2, Ne.symm e3]
      · rw [List.getElem?_eq_none (by simp; omega), List.getElem?_eq_none (by simp; omega)]
    rw [e] at q
    exact q
  · have hr := h.row (swN c a i) (swN_lt hc ha hi)
    have hne := h.ne (swN c a i) (swN_lt hc ha hi)
    have e : rowL (swapR A c a) n i = rowL A n (swN c a i) := rfl
    rw [e]
    have hr1 := hr.keep (hg1.block _ hr.lt (fun q => hne (by injection q with q)))
    exact hr1.keep (hg2.block _ hr1.lt (fun q => hne (by injection q with q)))
/-- The matrix that comes in. -/
def InM (u : World) (G O R n : Nat) (A : Nat → Nat → F) : Prop := ∀ i, i < R → ∃ b o c, u.cell? ⟨G, O + i, none⟩ = some (.slice (some ⟨b, o, none⟩) (n + 1) c) ∧ n + 1 ≤ c ∧ Rw u b o (rowL A n i)
theorem InM.below {O : Nat} (h : InM u G O R n A) (hv : Below u.heap.size u v) : InM v G O R n A := fun i hi => by
  obtain ⟨b, o, c, h1, h2, h3⟩ := h i hi
  exact ⟨b, o, c, (hv.cell (World.block_lt_of_cell? _ _ h1)).trans h1, h2, h3.below hv⟩
/-- Rows that are copied already. -/
structure GlI (M n k : Nat) (A : Nat → Nat → F) (gs cs : Nat → Nat) (rv : Value) (u : World) : Prop where
  own : u.ownsRow M 23 1 rv k ((List.range k).map (rowV n gs cs))
  row : ∀ i, i < k → Rx u (gs i) (rowL A n i) ∧ n + 1 ≤ cs i ∧ M ≤ gs i
  inj : ∀ i j, i < k → j < k → gs i = gs j → i = j
theorem Rx.type_ne {b : Nat} {l : List F} {cu : Array Value} {fr : Nat × Nat} (h : Rx u b l) : u.heap[b]? ≠ some (.cells cu 23 fr) := fun e => by
  obtain ⟨sp, hs⟩ := h
  have q := hs.symm.trans e
  simp at q
theorem GlI.below {M k : Nat} {rv : Value} (h : GlI M n k A gs cs rv u) (hv : Below u.heap.size u v) : GlI M n k A gs cs rv v :=
  ⟨own_below h.own hv, fun i hi => ⟨(h.row i hi).1.below hv, (h.row i hi).2⟩, h.inj⟩
/-- One more. -/
theorem GlI.more {M k g c : Nat} {rv rv2 : Value} {w1 w2 : World} (h : GlI M n k A gs cs rv u) (hb : Below u.heap.size u w1) (hr : Rx w1 g (rowL A n k)) (hc : n + 1 ≤ c) (hg : u.heap.size ≤ g) (hM : M ≤ u.heap.size)
    (hown : w2.ownsRow M 23 1 rv2 (k + 1) ((List.range k).map (rowV n gs cs) ++ [.slice (some ⟨g, 0, none⟩) (n + 1) c])) (hgr : w1.grownBy w2 rv.ownBlock) :
    GlI M n (k + 1) A (fun i => if i = k then g else gs i) (fun i => if i = k then c else cs i) rv2 w2 := by
  have h1 := h.below hb
  have keep : ∀ b l, Rx w1 b l → Rx w2 b l := fun b l hx => by
    refine hx.keep (hgr.block b hx.lt fun e => ?_)
    rcases h1.own.2 with ⟨q, _⟩ | ⟨g', cap, cur, q, _, q3, _⟩
    · rw [q] at e; cases e
    · rw [q] at e
      injection e with e
      subst e
      exact hx.type_ne q3
  have e : (List.range (k + 1)).map (rowV n (fun i => if i = k then g else gs i) (fun i => if i = k then c else cs i)) = (List.range k).map (rowV n gs cs) ++ [.slice (some ⟨g, 0, none⟩) (n + 1) c] := by
    rw [List.range_succ, List.map_append]
    congr 1
    · apply List.map_congr_left
      intro i hi
      have := List.mem_range.1 hi
      unfold rowV
      simp only []
      rw [if_neg (by omega), if_neg (by omega)]
    · show [rowV n _ _ k] = _
      unfold rowV
      simp only [if_true]
  refine ⟨by rw [e]; exact hown, fun i hi => ?_, fun i j hi hj q => ?_⟩
  · by_cases e2 : i = k
    · subst e2
      rw [if_pos rfl, if_pos rfl]
      exact ⟨keep _ _ hr, hc, by omega⟩
    · rw [if_neg e2, if_neg e2]
      have := h1.row i (by omega)
      exact ⟨keep _ _ this.1, this.2⟩
  · by_cases e2 : i = k
    · by_cases e3 : j = k
      · omega
      · rw [if_pos e2, if_neg e3] at q
        have := (h.row j (by omega)).1.lt
        omega
    · by_cases e3 : j = k
      · rw [if_neg e2, if_pos e3] at q
        have := (h.row i (by omega)).1.lt
        omega
      · rw [if_neg e2, if_neg e3] at q
        exact h.inj i j (by omega) (by omega) q
theorem GlI.mat {M : Nat} {rv : Value} (h : GlI M n R A gs cs rv u) (hR : 1 ≤ R) : ∃ G cap, rv = .slice (some ⟨G, 0, none⟩) R cap ∧ Hid (R ≤ cap ∧ MatI M u.heap.size G R n A gs cs u) := by
  rcases h.own.2 with ⟨_, q⟩ | ⟨g, cap, cur, q, hB, hh, h3, h4, h5, h6⟩
  · omega
  · refine ⟨g, cap, q, h3, ⟨cur.toList.drop R, ?_⟩, fun i hi => (h.row i hi).1, h.inj, fun i hi => ⟨(h.row i hi).2.2, (h.row i hi).1.lt⟩, ⟨hB, (Array.getElem?_eq_some_iff.1 hh).1⟩, fun i hi => (h.row i hi).2.1⟩
    unfold Bx
    rw [hh, ← h6, Nat.mul_one, List.take_append_drop]
theorem Tryd.info25q : (Tryd.prog.info? 23).map (fun i => (i.zero, i.size, i.bytes)) = some (some (.slice none 0 0), 1, 24) := by kernel_rfl
theorem Tryd.und70 : Tryd.prog.underlying 39 = some (.slice 23) := by kernel_rfl
end Go.Proofs.YtinmhgackihakaaDoor
namespace Go.Proofs.YtinmhgackihakaaDoor
open Go.RowKit
set_option linter.unusedVariables false
set_option linter.unusedSimpArgs false
theorem mayNeed_ok (x : Nat) (w : World) : Calls Tryd.prog 25 #[.int .i64 (x : Nat)] w fun e w' => e = .returned (.bool (decide (1 ≤ x ∧ x ≤ 16))) ∧ w' = w := by
  by_cases h1 : 1 ≤ x
  · have g1 : (1 : Int) ≤ (x : Int) := by omega
    by_cases h2 : x ≤ 16
    · have g2 : (x : Int) ≤ 16 := by omega
      go_enter Tryd.func25, Tryd.ntmps25
      go_wp2
      go_ret
      simp [h1, h2]
    · have g2 : ¬ (x : Int) ≤ 16 := by omega
      go_enter Tryd.func25, Tryd.ntmps25
      go_wp2
      go_ret
      simp [h1, h2]
  · have g1 : ¬ (1 : Int) ≤ (x : Int) := by omega
    go_enter Tryd.func25, Tryd.ntmps25
    go_wp2
    go_ret
    simp [h1]
theorem mayShare_ok (x : Nat) (w : World) : Calls Tryd.prog 24 #[.int .i64 (x : Nat)] w fun e w' => e = .returned (.bool (decide (1 ≤ x ∧ x ≤ 64))) ∧ w' = w := by
  by_cases h1 : 1 ≤ x
  · have g1 : (1 : Int) ≤ (x : Int) := by omega
    by_cases h2 : x ≤ 64
    · have g2 : (x : Int) ≤ 64 := by omega
      go_enter Tryd.func24, Tryd.ntmps24
      go_wp2
      go_ret
      simp [h1, h2]
    · have g2 : ¬ (x : Int) ≤ 64 := by omega
      go_enter Tryd.func24, Tryd.ntmps24
      go_wp2
      go_ret
      simp [h1, h2]
  · have g1 : ¬ (1 : Int) ≤ (x : Int) := by omega
    go_enter Tryd.func24, Tryd.ntmps24
    go_wp2
    go_ret
    simp [h1]
/-- The bytes ahead of the code. -/
def unc (s : Nat) : Nat := 9 + s + (9 + s) % 2
theorem uncoded_ok (s : Nat) (hs : s ≤ 1000) (w : World) : Calls Tryd.prog 60 #[.int .i64 (s : Nat)] w fun e w' => e = .returned (.int .i64 (unc s : Nat)) ∧ w' = w := by
  have e1 : IntKind.i64.wrap (5 + (s : Int)) = ((5 + s : Nat) : Int) := by rw [IntKind.wrap_i64]; omega
  obtain ⟨a, HA⟩ : ∃ a, Hid (5 + s = a) := ⟨_, rfl⟩
  have ha := HA.out
  rw [ha] at e1
  have e2 : IntKind.i64.wrap ((a : Int) + 4) = ((a + 4 : Nat) : Int) := by rw [IntKind.wrap_i64]; omega
  obtain ⟨b, HB⟩ : ∃ b, Hid (a + 4 = b) := ⟨_, rfl⟩
  have hb := HB.out
  rw [hb] at e2
  obtain ⟨m, HM⟩ : ∃ m, Hid (b % 2 = m) := ⟨_, rfl⟩
  have hm := HM.out
  have e3 : (b : Int).tmod 2 = (m : Int) := by rw [Int.tmod_eq_emod_of_nonneg (by omega)]; omega
  have e4 : IntKind.i64.wrap (m : Int) = (m : Int) := by rw [IntKind.wrap_i64]; omega
  have e5 : IntKind.i64.wrap ((b : Int) + (m : Int)) = ((b + m : Nat) : Int) := by rw [IntKind.wrap_i64]; omega
  have HU : Hid (unc s = b + m) := by show 9 + s + (9 + s) % 2 = b + m; rw [show 9 + s = b by omega, hm]
  rw [HU.out]
  obtain ⟨r, HR⟩ : ∃ r, Hid (b + m = r) := ⟨_, rfl⟩
  rw [HR.out] at e5 ⊢
  clear ha hb hm
  go_enter Tryd.func60, Tryd.ntmps60
  go_wp2
  go_ret
  exact ⟨rfl, rfl⟩
theorem rowSize_ok (s : Nat) (hs : s ≤ 1000) (w : World) : Calls Tryd.prog 45 #[.int .i64 (s : Nat)] w fun e w' => e = .returned (.int .i64 (unc s + 4 : Nat)) ∧ w' = w := by
  have H1 : Hid (∀ u, Calls Tryd.prog 60 #[.int .i64 (s : Nat)] u fun e w' => e = .returned (.int .i64 (unc s : Nat)) ∧ w' = u) := fun u => uncoded_ok s hs u
  obtain ⟨r, HR⟩ : ∃ r, Hid (unc s = r) := ⟨_, rfl⟩
  have hr : r ≤ 2000 := by rw [← HR.out]; unfold unc; omega
  have e5 : IntKind.i64.wrap ((r : Int) + 4) = ((r + 4 : Nat) : Int) := by rw [IntKind.wrap_i64]; omega
  rw [HR.out] at H1 ⊢
  go_enter Tryd.func45, Tryd.ntmps45
  go_wp2_with (first
    | (go_at_call 60; refine (H1.out _).mono ?_; rintro e1 w5 ⟨rfl, hw⟩; obtain rfl := hw.symm; clear hw H1))
  go_ret
  exact ⟨rfl, rfl⟩
end Go.Proofs.YtinmhgackihakaaDoor
namespace Go.Proofs.YtinmhgackihakaaDoor
open Go.RowKit
set_option linter.unusedVariables false
set_option linter.unusedSimpArgs false
/-- What a row says beside its values. -/
def setN (l : List F) : Nat := (l.getD 0 0).1 * 256 + (l.getD 1 0).1
def tds (l : List F) : List Value := [.int .u16 (setN l : Nat), .int .i64 ((l.getD 2 0).1 : Nat), .int .i64 ((l.getD 3 0).1 : Nat), .int .i64 ((l.getD 4 0).1 : Nat)]
theorem bx_there {w : World} {b : Nat} {t : TypeId} {cs : List Value} {n : Nat} (h : Bx w b t cs) (hn : cs.length = n) : w.there b 0 n := by
  intro j hj
  rw [Nat.zero_add]
  refine ⟨?_, h.frozen j⟩
  rw [h.cell j _ (List.getElem?_eq_getElem (by rw [hn]; exact hj))]
  rfl
theorem num_ok (b off c n : Nat) (l : List F) (w : World) (hn : l.length = n) (h2 : 2 ≤ n) (h : Rw w b off l) : Calls Tryd.prog 43 #[.slice (some ⟨b, off, none⟩) n c] w fun e w' => e = .returned (.int .u16 (setN l : Nat)) ∧ ∃ k, w' = w.drewN k := by
  have c0 : w.cell? ⟨b, off + 0, none⟩ = some (.int .u8 ((l.getD 0 0).1 : Nat)) := h 0 (by omega)
  have c1 : w.cell? ⟨b, off + 1, none⟩ = some (.int .u8 ((l.getD 1 0).1 : Nat)) := h 1 (by omega)
  exact number_ok b off n c ((l.getD 0 0).1 : Nat) ((l.getD 1 0).1 : Nat) w h2 (by omega) (by have := (l.getD 0 0).2; omega) (by omega) (by have := (l.getD 1 0).2; omega) c0 c1
set_option maxHeartbeats 1600000 in
set_option maxRecDepth 100000 in
theorem told_ok (b off c n : Nat) (l : List F) (w : World) (hn : l.length = n) (h5 : 5 ≤ n) (h : Rw w b off l) : Calls Tryd.prog 48 #[.slice (some ⟨b, off, none⟩) n c] w fun e w' => Hid (e = .returned (.agg (tds l).toArray) ∧ Below w.heap.size w w') := by
  obtain ⟨M, HMM⟩ : ∃ M, Hid (w.heap.size = M) := ⟨_, rfl⟩
  obtain ⟨w1, hw1⟩ : ∃ w1, w1 = w.alloc (.cells #[.int .u16 0, .int .i64 0, .int .i64 0, .int .i64 0] 64) := ⟨_, rfl⟩
  have HB1 : Hid (Bx w1 M 64 [.int .u16 0, .int .i64 0, .int .i64 0, .int .i64 0] ∧ Below M w w1 ∧ Rw w1 b off l) := by
    rw [hw1, ← HMM.out]
    exact ⟨Bx.new w 64 _, (Below.refl _ _).alloc (Nat.le_refl _) _, h.below ((Below.refl _ _).alloc (Nat.le_refl _) _)⟩
  have c2 : w1.drew.cell? ⟨b, off + 2, none⟩ = some (.int .u8 ((l.getD 2 0).1 : Nat)) := HB1.out.2.2 2 (by omega)
  have c3 : w1.drew.cell? ⟨b, off + 3, none⟩ = some (.int .u8 ((l.getD 3 0).1 : Nat)) := HB1.out.2.2 3 (by omega)
  have c4 : w1.drew.cell? ⟨b, off + 4, none⟩ = some (.int .u8 ((l.getD 4 0).1 : Nat)) := HB1.out.2.2 4 (by omega)
  have H30 : Hid (∀ u, Rw u b off l → Calls Tryd.prog 43 #[.slice (some ⟨b, off, none⟩) n c] u fun e w' => e = .returned (.int .u16 (setN l : Nat)) ∧ ∃ k, w' = u.drewN k) := fun u hu => num_ok b off c n l u hn (by omega) hu
  obtain ⟨TD, HTD⟩ : ∃ q, Hid (tds l = q) := ⟨_, rfl⟩
  have HTL : Hid (TD.length = 4 ∧ ∀ v ∈ TD, v.oneCell' = true) := by rw [← HTD.out]; refine ⟨rfl, fun v hv => ?_⟩; simp [tds] at hv; rcases hv with rfl | rfl | rfl | rfl <;> rfl
  have HTV : Hid (TD = [.int .u16 (setN l : Nat), .int .i64 ((l.getD 2 0).1 : Nat), .int .i64 ((l.getD 3 0).1 : Nat), .int .i64 ((l.getD 4 0).1 : Nat)]) := HTD.out.symm
  rw [HTD.out]
  obtain ⟨sn, HSN⟩ : ∃ q, Hid (setN l = q) := ⟨_, rfl⟩
  rw [HSN.out] at H30 HTV
  obtain ⟨v2, HV2⟩ : ∃ q : Nat, Hid ((l.getD 2 0).1 = q) := ⟨_, rfl⟩
  obtain ⟨v3, HV3⟩ : ∃ q : Nat, Hid ((l.getD 3 0).1 = q) := ⟨_, rfl⟩
  obtain ⟨v4, HV4⟩ : ∃ q : Nat, Hid ((l.getD 4 0).1 = q) := ⟨_, rfl⟩
  rw [HV2.out] at c2 HTV
  rw [HV3.out] at c3 HTV
  rw [HV4.out] at c4 HTV
  have x2 : IntKind.i64.wrap (v2 : Int) = (v2 : Int) := by have := (l.getD 2 0).2; have := HV2.out; rw [IntKind.wrap_i64]; omega
  have x3 : IntKind.i64.wrap (v3 : Int) = (v3 : Int) := by have := (l.getD 3 0).2; have := HV3.out; rw [IntKind.wrap_i64]; omega
  have x4 : IntKind.i64.wrap (v4 : Int) = (v4 : Int) := by have := (l.getD 4 0).2; have := HV4.out; rw [IntKind.wrap_i64]; omega
  have g2 : (2 : Int) < (n : Int) := by omega
  have g3 : (3 : Int) < (n : Int) := by omega
  have g4 : (4 : Int) < (n : Int) := by omega
  have hi7 : (Tryd.prog.info? 64).map (·.size) = some TD.length := by rw [HTL.out.1]; kernel_rfl
  have hS0 : w1.drew.cell? ⟨b, off + 2, none⟩ = some (.int .u8 (v2 : Nat)) ∧ w1.drew.cell? ⟨b, off + 3, none⟩ = some (.int .u8 (v3 : Nat)) ∧ w1.drew.cell? ⟨b, off + 4, none⟩ = some (.int .u8 (v4 : Nat)) := ⟨c2, c3, c4⟩
  clear c2 c3 c4 h hn h5
  go_enter Tryd.func48, Tryd.ntmps48
  go_upto_region 1 with fail
  rw [← hw1, HMM.out]
  clear hw1
  refine wp_region_noPanic ?_
  refine wp_region_till (fun u => u.cell? ⟨b, off + 2, none⟩ = some (.int .u8 (v2 : Nat)) ∧ u.cell? ⟨b, off + 3, none⟩ = some (.int .u8 (v3 : Nat)) ∧ u.cell? ⟨b, off + 4, none⟩ = some (.int .u8 (v4 : Nat))) 15 (by kernel_rfl) (by decide) (by decide +kernel) (by decide +kernel) (by decide +kernel) (fun inv => ?_)
  refine till_at 0 3 (.slice (some ⟨b, off, none⟩) n c) inv rfl rfl (by decide) (by decide +kernel) (by decide +kernel) (fun _ _ _ h => h) hS0 (Or.inl ⟨by rfl, fun w' hS' => by obtain ⟨k1, k2, k3⟩ := hS'; go_simp⟩) (fun inv' => ?_)
  clear inv; have inv := inv'; clear inv'
  try simp only [List.setIfInBounds_toArray, List.set_cons_zero, List.set_cons_succ]
  refine till_at 2 5 (.slice (some ⟨b, off, none⟩) n c) inv rfl rfl (by decide) (by decide +kernel) (by decide +kernel) (fun _ _ _ h => h) hS0 (Or.inl ⟨by rfl, fun w' hS' => by obtain ⟨k1, k2, k3⟩ := hS'; go_simp⟩) (fun inv' => ?_)
  clear inv; have inv := inv'; clear inv'
  try simp only [List.setIfInBounds_toArray, List.set_cons_zero, List.set_cons_succ]
  refine till_at 3 6 (.pointer (some ⟨b, off + 2, none⟩)) inv rfl rfl (by decide) (by decide +kernel) (by decide +kernel) (fun _ _ _ h => h) hS0 (Or.inl ⟨by rfl, fun w' hS' => by obtain ⟨k1, k2, k3⟩ := hS'; go_simp⟩) (fun inv' => ?_)
  clear inv; have inv := inv'; clear inv'
  try simp only [List.setIfInBounds_toArray, List.set_cons_zero, List.set_cons_succ]
  refine till_at 4 7 (.int .u8 (v2 : Nat)) inv rfl rfl (by decide) (by decide +kernel) (by decide +kernel) (fun _ _ _ h => h) hS0 (Or.inl ⟨by rfl, fun w' hS' => by obtain ⟨k1, k2, k3⟩ := hS'; go_simp⟩) (fun inv' => ?_)
  clear inv; have inv := inv'; clear inv'
  try simp only [List.setIfInBounds_toArray, List.set_cons_zero, List.set_cons_succ]
  refine till_at 5 8 (.int .i64 (v2 : Nat)) inv rfl rfl (by decide) (by decide +kernel) (by decide +kernel) (fun _ _ _ h => h) hS0 (Or.inl ⟨by rfl, fun w' hS' => by obtain ⟨k1, k2, k3⟩ := hS'; go_simp⟩) (fun inv' => ?_)
  clear inv; have inv := inv'; clear inv'
  try simp only [List.setIfInBounds_toArray, List.set_cons_zero, List.set_cons_succ]
  refine till_at 6 9 (.slice (some ⟨b, off, none⟩) n c) inv rfl rfl (by decide) (by decide +kernel) (by decide +kernel) (fun _ _ _ h => h) hS0 (Or.inl ⟨by rfl, fun w' hS' => by obtain ⟨k1, k2, k3⟩ := hS'; go_simp⟩) (fun inv' => ?_)
  clear inv; have inv := inv'; clear inv'
  try simp only [List.setIfInBounds_toArray, List.set_cons_zero, List.set_cons_succ]
  refine till_at 7 10 (.pointer (some ⟨b, off + 3, none⟩)) inv rfl rfl (by decide) (by decide +kernel) (by decide +kernel) (fun _ _ _ h => h) hS0 (Or.inl ⟨by rfl, fun w' hS' => by obtain ⟨k1, k2, k3⟩ := hS'; go_simp⟩) (fun inv' => ?_)
  clear inv; have inv := inv'; clear inv'
  try simp only [List.setIfInBounds_toArray, List.set_cons_zero, List.set_cons_succ]
  refine till_at 8 11 (.int .u8 (v3 : Nat)) inv rfl rfl (by decide) (by decide +kernel) (by decide +kernel) (fun _ _ _ h => h) hS0 (Or.inl ⟨by rfl, fun w' hS' => by obtain ⟨k1, k2, k3⟩ := hS'; go_simp⟩) (fun inv' => ?_)
  clear inv; have inv := inv'; clear inv'
  try simp only [List.setIfInBounds_toArray, List.set_cons_zero, List.set_cons_succ]
  refine till_at 9 12 (.int .i64 (v3 : Nat)) inv rfl rfl (by decide) (by decide +kernel) (by decide +kernel) (fun _ _ _ h => h) hS0 (Or.inl ⟨by rfl, fun w' hS' => by obtain ⟨k1, k2, k3⟩ := hS'; go_simp⟩) (fun inv' => ?_)
  clear inv; have inv := inv'; clear inv'
  try simp only [List.setIfInBounds_toArray, List.set_cons_zero, List.set_cons_succ]
  refine till_at 10 13 (.slice (some ⟨b, off, none⟩) n c) inv rfl rfl (by decide) (by decide +kernel) (by decide +kernel) (fun _ _ _ h => h) hS0 (Or.inl ⟨by rfl, fun w' hS' => by obtain ⟨k1, k2, k3⟩ := hS'; go_simp⟩) (fun inv' => ?_)
  clear inv; have inv := inv'; clear inv'
  try simp only [List.setIfInBounds_toArray, List.set_cons_zero, List.set_cons_succ]
  refine till_at 11 14 (.pointer (some ⟨b, off + 4, none⟩)) inv rfl rfl (by decide) (by decide +kernel) (by decide +kernel) (fun _ _ _ h => h) hS0 (Or.inl ⟨by rfl, fun w' hS' => by obtain ⟨k1, k2, k3⟩ := hS'; go_simp⟩) (fun inv' => ?_)
  clear inv; have inv := inv'; clear inv'
  try simp only [List.setIfInBounds_toArray, List.set_cons_zero, List.set_cons_succ]
  refine till_at 12 15 (.int .u8 (v4 : Nat)) inv rfl rfl (by decide) (by decide +kernel) (by decide +kernel) (fun _ _ _ h => h) hS0 (Or.inl ⟨by rfl, fun w' hS' => by obtain ⟨k1, k2, k3⟩ := hS'; go_simp⟩) (fun inv' => ?_)
  clear inv; have inv := inv'; clear inv'
  try simp only [List.setIfInBounds_toArray, List.set_cons_zero, List.set_cons_succ]
  refine till_at 13 16 (.int .i64 (v4 : Nat)) inv rfl rfl (by decide) (by decide +kernel) (by decide +kernel) (fun _ _ _ h => h) hS0 (Or.inl ⟨by rfl, fun w' hS' => by obtain ⟨k1, k2, k3⟩ := hS'; go_simp⟩) (fun inv' => ?_)
  clear inv; have inv := inv'; clear inv'
  try simp only [List.setIfInBounds_toArray, List.set_cons_zero, List.set_cons_succ]
  refine till_head (i := 1) inv (by decide +kernel) (by decide) rfl (fun KK hK => ?_)
  go_simp
  refine (H30.out w1.drew (show Rw w1.drew b off l from HB1.out.2.2)).mono ?_
  rintro e7 w7 ⟨rfl, kk, hk7⟩
  have HB7 : Hid (Bx w7 M 64 [.int .u16 0, .int .i64 0, .int .i64 0, .int .i64 0] ∧ Below M w w7) := by rw [hk7]; exact ⟨HB1.out.1, HB1.out.2.1.trans ⟨rfl, rfl, rfl, Nat.le_refl _, fun _ _ => rfl⟩⟩
  have hS7 : w7.cell? ⟨b, off + 2, none⟩ = some (.int .u8 (v2 : Nat)) ∧ w7.cell? ⟨b, off + 3, none⟩ = some (.int .u8 (v3 : Nat)) ∧ w7.cell? ⟨b, off + 4, none⟩ = some (.int .u8 (v4 : Nat)) := by rw [hk7]; exact hS0
  clear hk7
  go_wp2_with fail
  refine hK.out _ _ (hS7) (fun inv' => ?_)
  clear hK KK inv; have inv := inv'; clear inv'
  try simp only [List.setIfInBounds_toArray, List.set_cons_zero, List.set_cons_succ]
  refine till_at 14 17 (.agg TD.toArray) inv rfl rfl (by decide) (by decide +kernel) (by decide +kernel) (fun _ _ _ h => h) hS7 (Or.inl ⟨by rfl, fun w' hS' => by rw [HTV.out]; go_simp⟩) (fun inv' => ?_)
  clear inv; have inv := inv'; clear inv'
  try simp only [List.setIfInBounds_toArray, List.set_cons_zero, List.set_cons_succ]
  refine till_tail (i := 15) (by decide +kernel) (by decide) rfl (fun KK hK => ?_)
  rw [if_pos (by rfl)]
  refine wp_store_mid 64 (.tmp 2) (.tmp 17) rfl M 0 TD.toArray rfl rfl (by rw [List.size_toArray, HTL.out.1]; exact bx_there HB7.out.1 rfl) (by rw [List.size_toArray]; exact hi7) (all_oneCell_toArray HTL.out.2) ?_
  refine hK.out _ _ ?_
  clear hK KK
  try simp only [List.setIfInBounds_toArray, List.set_cons_zero, List.set_cons_succ]
  refine till_done (by decide +kernel) ?_ _
  refine NoPanic.normal ?_
  have HB9 : Hid (Bx (w7.setCells M 0 TD.toArray.toList) M 64 TD ∧ w7.grownBy (w7.setCells M 0 TD.toArray.toList) (some M)) := ⟨HB7.out.1.store TD (by rw [HTL.out.1]; rfl), setCells_gb M TD 0 w7⟩
  obtain ⟨u9, hu9⟩ : ∃ u9, u9 = w7.setCells M 0 TD.toArray.toList := ⟨_, rfl⟩
  rw [← hu9] at HB9 ⊢
  clear hu9 hS0 hS7 inv
  go_wp2
  refine ret_array (b := M) TD rfl rfl HB9.out.1.range Tryd.underlying64 rfl hi7 ⟨rfl, ?_⟩
  have hf : Below M w u9 := HB7.out.2.trans (below_gb HB9.out.2 (Nat.le_of_lt HB7.out.1.lt) (Nat.le_refl _))
  first | exact hf | (rw [HMM.out]; exact hf)
end Go.Proofs.YtinmhgackihakaaDoor
namespace Go.Proofs.YtinmhgackihakaaDoor
open Go.RowKit

theorem isBuilder_drewN {T e : TypeId} {B b : Nat} {bs : List Value} {w : World} (h : Lib.IsBuilder T e B b bs w) (m : Nat) : Lib.IsBuilder T e B b bs (w.drewN m) := h
theorem below_drewN0 {B : Nat} {w w' : World} (h : Below B w w') (m : Nat) : Below B w (w'.drewN m) := h.trans ⟨rfl, rfl, rfl, Nat.le_refl _, fun _ _ => rfl⟩

set_option maxHeartbeats 1000000 in
set_option maxRecDepth 100000 in
theorem words_core (g o n c : Nat) (xs : List Int) (w : World) (hn : n ≤ 3000) (ax : Hid (∀ i, 0 ≤ xs.getD i 0 ∧ xs.getD i 0 < 256)) (hnc : n ≤ c) (hcm : c ≤ 9223372036854775807)
    (h1 : Hid (∀ i, i < n → w.cell? ⟨g, o + i, none⟩ = some (.int .u8 (xs.getD i 0)))) :
    Calls Tryd.prog 30 #[.slice (some ⟨g, o, none⟩) n c] w fun e w' => e = .returned (.string ⟨(wl xs (n / 2)).toArray⟩) ∧ Below w.heap.size w w' := by
  go_enter Tryd.func30, Tryd.ntmps30
  go_wp2
  go_loopw [4] (fun i wr => ∃ k : Nat, 2 * k ≤ n ∧ i = .int .i64 ((2 * k : Nat) : Int) ∧ Hid (Lib.IsBuilder 80 5 w.heap.size w.heap.size (Lib.byteCells (wl xs k)) wr) ∧ Hid (Below w.heap.size w wr)) (fun i _ => n - (intOf i).toNat)
  case atStart => exact ⟨0, by omega, rfl, Lib.fresh_isBuilder 80 5 w, (Below.refl _ _).alloc (Nat.le_refl _) _⟩
  case round =>
    obtain ⟨k, hk, rfl, HI, HB⟩ := hrel
    have HL := wl_length xs k
    by_cases hlt : 2 * k + 1 < n
    · have g1 := h1.out (2 * k) (by omega)
      have g2 := h1.out (2 * k + 1) (by omega)
      have hgb : g < w.heap.size := World.block_lt_of_cell? w _ g1
      obtain ⟨x0, x1⟩ := ax.out (2 * k)
      obtain ⟨y0, y1⟩ := ax.out (2 * k + 1)
      have HW : Hid (wl xs (k + 1) = wl xs k ++ ((if k = 0 then [] else [32]) ++ word (xs.getD (2 * k) 0 * 256 + xs.getD (2 * k + 1) 0))) := rfl
      generalize xs.getD (2 * k) 0 = x at g1 x0 x1 HW
      generalize xs.getD (2 * k + 1) 0 = y at g2 y0 y1 HW
      by_cases h0 : k = 0
      · subst h0
        have c1 : wr.cell? ⟨g, o, none⟩ = some (.int .u8 x) := (HB.out.cell hgb).trans g1
        have c2 : wr.cell? ⟨g, o + 1, none⟩ = some (.int .u8 y) := (HB.out.cell hgb).trans g2
        go_wp2_with (go_at_call 43; refine (number_ok g o n c x y _ (by omega) x0 x1 y0 y1 c1 c2).mono ?_; rintro e w1 ⟨rfl, m, rfl⟩)
        go_wp2_with (go_at_call 42; refine (writeWord_ok w.heap.size w.heap.size _ (x * 256 + y) _ (by omega) (by omega) (isBuilder_drewN HI.out m) (by rw [Lib.byteCells_length]; omega) (by simpa using HB.out.size)).mono ?_; rintro e w2 ⟨rfl, h2, b2⟩)
        have HI2 : Hid (Lib.IsBuilder 80 5 w.heap.size w.heap.size (Lib.byteCells (wl xs (0 + 1))) w2) := by
          refine .inr ?_
          rw [HW.out, Lib.byteCells_append, if_pos trivial, List.nil_append]
          exact h2
        have HB2 : Hid (Below w.heap.size w w2) := (below_drewN0 HB.out m).trans b2
        clear h2 b2 HI HB
        go_wp2
        go_roundw
        case rel => exact ⟨1, by omega, by go_num, HI2, HB2⟩
        case measure => simp [intOf]; omega
      · have c1 : wr.cell? ⟨g, o + 2 * k, none⟩ = some (.int .u8 x) := (HB.out.cell hgb).trans g1
        have c2 : wr.cell? ⟨g, o + 2 * k + 1, none⟩ = some (.int .u8 y) := (HB.out.cell hgb).trans g2
        go_wp2_with (go_at_call 41; refine (writeByte_ok w.heap.size w.heap.size _ 32 _ HI.out (by rw [Lib.byteCells_length]; omega) HB.out.size).mono ?_)
        rintro e w1 ⟨rfl, i1, b1⟩
        have c3 : w1.cell? ⟨g, o + 2 * k, none⟩ = some (.int .u8 x) := (b1.cell hgb).trans c1
        have c4 : w1.cell? ⟨g, o + 2 * k + 1, none⟩ = some (.int .u8 y) := (b1.cell hgb).trans c2
        go_wp2_with (go_at_call 43; refine (number_ok g (o + 2 * k) (n - 2 * k) (c - 2 * k) x y _ (by omega) x0 x1 y0 y1 c3 c4).mono ?_; rintro e w5 ⟨rfl, m, rfl⟩)
        go_wp2_with (go_at_call 42; refine (writeWord_ok w.heap.size w.heap.size _ (x * 256 + y) _ (by omega) (by omega) (isBuilder_drewN (.inr i1) m) (by rw [List.length_append, Lib.byteCells_length]; simp; omega) (by have := HB.out.size; have := b1.size; simp; omega)).mono ?_; rintro e w2 ⟨rfl, h2, b2⟩)
        have HI2 : Hid (Lib.IsBuilder 80 5 w.heap.size w.heap.size (Lib.byteCells (wl xs (k + 1))) w2) := by
          refine .inr ?_
          rw [HW.out, Lib.byteCells_append, if_neg h0, Lib.byteCells_append, ← List.append_assoc]
          exact h2
        have HB2 : Hid (Below w.heap.size w w2) := (below_drewN0 (HB.out.trans b1) m).trans b2
        clear h2 b2 HI HB i1 b1
        go_wp2
        go_roundw
        case rel => exact ⟨k + 1, by omega, by go_num, HI2, HB2⟩
        case measure => simp [intOf]; omega
    · obtain rfl : k = n / 2 := by omega
      go_wp2_with (go_at_call 44; refine (Tryd.Builder_String_any w.heap.size w.heap.size _ _ HI.out HB.out.size).mono ?_)
      rintro e w2 ⟨rfl, hb2⟩
      go_wp2
      go_ret
      exact ⟨rfl, HB.out.trans hb2⟩
end Go.Proofs.YtinmhgackihakaaDoor
namespace Go.Proofs.YtinmhgackihakaaDoor
open Go.RowKit
set_option linter.unusedVariables false
set_option linter.unusedSimpArgs false
set_option maxRecDepth 100000
/-- append([]byte{}, l...), as a row of one's own. -/
theorem wpList_clone_own {ops : Array Oper} {rest : List Oper} {o : Oper} {a : Act} {Q : Exit → Act → World → Prop} {w : World} (hgd : o.guard = none) (s x : Operand)
    (ho : o.op = .call { callee := .builtin .append, args := #[s, x], argTypes := #[23, 23] }) (k : Nat) (hs : a.eval s = .slice (some ⟨k, 0, none⟩) 0 0) (hk : w.heap[k]? = some (.cells #[] 5 (0, 0)))
    (b off n c : Nat) (l : List F) (hx : a.eval x = .slice (some ⟨b, off, none⟩) n c) (hl : l.length = n) (h1 : 1 ≤ n) (hn : n ≤ 4000) (hr : Rw w b off l)
    (h : ∀ v w', w'.ownsRow k 5 1 v n (fc l) → Below k w w' → wpList Tryd.prog ops Q rest (a.put o.dst v) w') : wpList Tryd.prog ops Q (o :: rest) a w :=
  wpList_plain hgd fun _ hK => by
    obtain ⟨i0, hi, hz0, hz1, hz2⟩ := info_parts Tryd.infoB
    have hlt : k < w.heap.size := (Array.getElem?_eq_some_iff.1 hk).1
    obtain ⟨g, cap, w', e, h2, h3, h4, h5⟩ := run_append_lies (P := Tryd.prog) w 23 o.type k 5 i0 (.int .u8 0) 1 1 Tryd.underlying23' hi hz0 hz1 hz2 rfl (by decide) _ 0 [] (own_none hk) ⟨b, off, none⟩ n c (fc l) (by rw [fc_len, hl, Nat.mul_one]) (fun j u hu => by
      have hj : j < l.length := by have := (List.getElem?_eq_some_iff.1 hu).1; rw [fc_len] at this; exact this
      rw [fc_at l j hj] at hu
      injection hu with hu
      rw [← hu, show (⟨b, off, none⟩ : Addr).add j = ⟨b, off + j, none⟩ by unfold Addr.add; split <;> simp_all]
      exact hr j hj) (fc_one l) h1 (Nat.le_trans (Nat.add_le_add_left hn 0) (by decide)) (by omega) (Nat.le_of_lt hlt) _ rfl
    rw [Nat.zero_add, List.nil_append] at h2
    rw [Nat.zero_add] at e
    have hb : Below k w w' := below_gb h3 (Nat.le_of_lt hlt) (Nat.le_refl _)
    unfold Oper.wp execOp
    simp only [ho, resolve, invoke, builtin, Sem.run_bind, Sem.run_pure, Result.andThen_ok, List.map_toArray, List.map_cons, List.map_nil, hs, hx, e]
    exact hK _ _ (h _ w' h2 hb)
/-- Words of a row. -/
def WLs (l : List F) : ByteArray := ⟨(wl (l.map fun a => (a.1 : Int)) (l.length / 2)).toArray⟩
theorem mapI_at (l : List F) (i : Nat) : (l.map fun a => (a.1 : Int)).getD i 0 = ((l.getD i 0).1 : Nat) := by
  by_cases h : i < l.length
  · simp [List.getD_eq_getElem?_getD, List.getElem?_map, List.getElem?_eq_getElem h]
  · simp [List.getD_eq_getElem?_getD, List.getElem?_map, List.getElem?_eq_none (Nat.le_of_not_lt h)]
theorem wordsF_ok (g o n c : Nat) (l : List F) (w : World) (hl : l.length = n) (hn : n ≤ 3000) (hnc : n ≤ c) (hcm : c ≤ 9223372036854775807) (h : Rw w g o l) : Calls Tryd.prog 30 #[.slice (some ⟨g, o, none⟩) n c] w fun e w' => e = .returned (.string (WLs l)) ∧ Below w.heap.size w w' := by
  have q := words_core g o n c (l.map fun a => (a.1 : Int)) w hn (fun i => by rw [mapI_at]; have := (l.getD i 0).2; omega) hnc hcm (fun i hi => by rw [mapI_at]; exact h i (by omega))
  unfold WLs
  rw [hl]
  exact q
/-- The code's bytes. -/
theorem four_more (l : List F) (a b c d : F) (j : Nat) : sumG (l ++ [a, b, c, d]) j = fa (sumG (l ++ [0, 0, 0, 0]) j) (fa (fm (Em (3 * j)) a) (fa (fm (Em (2 * j)) b) (fa (fm (Em j) c) d))) := by
  have e : ∀ a b c d : F, sumG (l ++ [a, b, c, d]) j = fa (fm (fa (fm (fa (fm (fa (fm (pv (Em j) l) (Em j)) a) (Em j)) b) (Em j)) c) (Em j)) d := fun a b c d => by
    unfold sumG
    rw [show l ++ [a, b, c, d] = (((l ++ [a]) ++ [b]) ++ [c]) ++ [d] by simp, pv_snoc, pv_snoc, pv_snoc, pv_snoc]
  rw [e, e]
  have e3 : Em (3 * j) = fm (fm (Em j) (Em j)) (Em j) := by rw [Em_mul, Em_mul]; congr 1; omega
  have e2 : Em (2 * j) = fm (Em j) (Em j) := by rw [Em_mul]; congr 1; omega
  rw [e3, e2]
  generalize Em j = E
  generalize pv E l = p
  simp only [fm_fa, fa_fm, fm_assoc, fa_assoc, fm_comm, fm_left, fa_comm, fa_left, fa_self, fa_canc, fa_zero, zero_fa, fm_zero, zero_fm]
/-- The equations for the code. -/
def codM (s : Nat → F) : Nat → Nat → F := fun j k => if k = 4 then s j else Em ((3 - k) * j)
theorem codM_sm (s z : Nat → F) (j : Nat) : sm 5 (fun k => fm (codM s j k) (z k)) = fa (fa (fa (fa (fm (Em (3 * j)) (z 0)) (fm (Em (2 * j)) (z 1))) (fm (Em j) (z 2))) (z 3)) (fm (s j) (z 4)) := by
  show fa (fa (fa (fa (fa 0 (fm (codM s j 0) (z 0))) (fm (codM s j 1) (z 1))) (fm (codM s j 2) (z 2))) (fm (codM s j 3) (z 3))) (fm (codM s j 4) (z 4)) = _
  unfold codM
  simp only [zero_fa, if_true, show ¬ (0 : Nat) = 4 by decide, show ¬ (1 : Nat) = 4 by decide, show ¬ (2 : Nat) = 4 by decide, show ¬ (3 : Nat) = 4 by decide, if_false]
  rw [show 3 - 0 = 3 from rfl, show 3 - 1 = 2 from rfl, show 3 - 2 = 1 from rfl, show 3 - 3 = 0 from rfl, Nat.zero_mul, Nat.one_mul, Em_zero, fm_1]
theorem cod_ind (s : Nat → F) : Ind (codM s) 4 4 := fun z hz h4 k hk => by
  refine uniq 4 (by decide) z [0, 1, 2, 3] (by decide) (fun i hi _ => ?_) (fun j hj => ?_) k hk
  · match i, hi with
    | 0, _ => simp
    | 1, _ => simp
    | 2, _ => simp
    | 3, _ => simp
  · have q := hz j hj
    rw [codM_sm, h4, fm_zero, fa_zero] at q
    show fa (fa (fa (fa 0 (fm (z 0) (P (X 4 0) j))) (fm (z 1) (P (X 4 1) j))) (fm (z 2) (P (X 4 2) j))) (fm (z 3) (P (X 4 3) j)) = 0
    unfold X
    rw [P_Em, P_Em, P_Em, P_Em, show 4 - 1 - 0 = 3 from rfl, show 4 - 1 - 1 = 2 from rfl, show 4 - 1 - 2 = 1 from rfl, show 4 - 1 - 3 = 0 from rfl, Nat.zero_mul, Nat.one_mul, Em_zero, fm_one, zero_fa, fm_comm (z 0), fm_comm (z 1), fm_comm (z 2)]
    exact q
theorem cod_null (l : List F) (a b c d : F) (hz : sumL (l ++ [a, b, c, d]) = [0, 0, 0, 0]) : Nz (codM (sumG (l ++ [0, 0, 0, 0]))) 4 4 (zOf [a, b, c, d]) := fun j hj => by
  rw [codM_sm]
  have e : sumG (l ++ [a, b, c, d]) j = 0 := by
    obtain ⟨s0, s1, s2', s3⟩ := four_at ((sumL_4 _).symm.trans hz)
    match j, hj with
    | 0, _ => exact s0
    | 1, _ => exact s1
    | 2, _ => exact s2'
    | 3, _ => exact s3
  rw [four_more] at e
  show fa (fa (fa (fa (fm (Em (3 * j)) a) (fm (Em (2 * j)) b)) (fm (Em j) c)) d) (fm (sumG (l ++ [0, 0, 0, 0]) j) 1) = 0
  rw [fm_one, fa_comm, fa_assoc, fa_assoc]
  exact e
theorem cod_only (l xs x0 : List F) (h : xs.length = 4) (h0 : x0.length = 4) (hn : Nz (codM (sumG (l ++ [0, 0, 0, 0]))) 4 4 (zOf xs)) (hz : sumL (l ++ x0) = [0, 0, 0, 0]) : xs = x0 := by
  obtain ⟨a, b, c, d, rfl⟩ := four x0 h0
  have hn0 := cod_null l a b c d hz
  refine list_same (by rw [h, h0]) fun q hq => ?_
  rw [h0] at hq
  have e := cod_ind (sumG (l ++ [0, 0, 0, 0])) (fun k => fa (zOf xs k) (zOf [a, b, c, d] k)) (fun i hi => by
    rw [sm_congr _ (fun k => fa (fm (codM (sumG (l ++ [0, 0, 0, 0])) i k) (zOf xs k)) (fm (codM (sumG (l ++ [0, 0, 0, 0])) i k) (zOf [a, b, c, d] k))) _ (fun k _ => fm_fa _ _ _), sm_fa, hn i hi, hn0 i hi, fa_zero]) (by
    show fa (zOf xs 4) (zOf [a, b, c, d] 4) = 0
    rw [zOf_n xs 4 h, zOf_n [a, b, c, d] 4 rfl, fa_self]) q hq
  rw [zOf_lt xs q (by omega), zOf_lt _ q (by rw [h0]; exact hq)] at e
  exact fa_eq_zero e
end Go.Proofs.YtinmhgackihakaaDoor
namespace Go.Proofs.YtinmhgackihakaaDoor
variable {P : Program} {ops : Array Oper} {Q : Exit → Act → World → Prop} {md : Region.Mode}

/-- An operation that yields in whatever world is taken first; its slot is written out. -/
theorem take_at (i d : Nat) (v : Value) {oi : Oper} {fuel : Nat} {listed : Array Bool} {tmps : Array Value} {ds : List Deferred} {w : World} (hi : ops[i]? = some oi) (hd : oi.dst = some d)
    (hs : Region.noSelect ops = true) (hf : Region.free md ops listed i = true) (hr : (Region.ready md ops listed).contains i = true)
    (hQ : ∀ c a w, Q (.panic c) (a.put oi.dst v) w → Q (.panic c) a w) (hy : Yields P ops oi v ⟨tmps, ds⟩)
    (h : wpAny P md ops Q fuel (listed.setIfInBounds i true) ⟨tmps.setIfInBounds d v, ds⟩ w) : wpAny P md ops Q (fuel + 1) listed ⟨tmps, ds⟩ w := by
  refine wpAny_take hi hs hf hr hQ hy ?_
  rw [hd]
  exact h
variable {S : World → Prop}
/-- The same under what every world of the region meets. -/
theorem takeH_at (i d : Nat) (v : Value) {oi : Oper} {fuel : Nat} {listed : Array Bool} {tmps : Array Value} {ds : List Deferred} {w : World} (hi : ops[i]? = some oi) (hd : oi.dst = some d)
    (hs : Region.noSelect ops = true) (hf : Region.free md ops listed i = true) (hr : (Region.ready md ops listed).contains i = true)
    (hQ : ∀ c a w, Q (.panic c) (a.put oi.dst v) w → Q (.panic c) a w) (hS : S w) (hy : YieldsIf P ops S oi v ⟨tmps, ds⟩)
    (h : wpAnyH P md ops Q S fuel (listed.setIfInBounds i true) ⟨tmps.setIfInBounds d v, ds⟩ w) : wpAnyH P md ops Q S (fuel + 1) listed ⟨tmps, ds⟩ w := by
  refine wpAnyH_take hi hs hf hr hQ hy hS ?_
  rw [hd]
  exact h
end Go.Proofs.YtinmhgackihakaaDoor
namespace Go.Proofs.YtinmhgackihakaaDoor
open Go.RowKit
set_option linter.unusedVariables false
set_option linter.unusedSimpArgs false
set_option maxRecDepth 100000
/-- What Solve says. -/
def SolQ (A : Nat → Nat → F) (R n M : Nat) (e : Ending) (w w' : World) : Prop :=
  ((∃ g c xs, e = .returned (.tuple #[.slice (some ⟨g, 0, none⟩) n c, .bool true]) ∧ xs.length = n ∧ Nz A R n (zOf xs) ∧ n ≤ c ∧ Rx w' g xs) ∨ ((∀ z, z n = 1 → ¬ Nz A R n z) ∧ e = .returned (.tuple #[.slice none 0 0, .bool false]))) ∧ Below M w w'
/-- What the loop over the columns keeps. -/
structure SoI (M B1 G R n : Nat) (A0 A : Nat → Nat → F) (c : Nat) (xv : Value) (gs cs : Nat → Nat) (w u : World) : Prop where
  mat : MatI M B1 G R n A gs cs u
  good : Good A0 A R n c
  own : u.ownsRow B1 5 1 xv c (fc (List.replicate c 0))
  bel : Below M w u
  sz : B1 ≤ u.heap.size
theorem below_row {M b : Nat} {w u : World} (h : Below M w u) (hM : M ≤ b) (k : Nat) (v : Value) : Below M w (u.setCell ⟨b, k, none⟩ v) := h.setCell hM v
theorem own_row {w : World} {B1 b k m : Nat} {xv x : Value} {l : List Value} (h : w.ownsRow B1 5 1 xv m l) (hb : b < B1) : (w.setCell ⟨b, k, none⟩ x).ownsRow B1 5 1 xv m l := by
  refine h.kept (set_gb w b k x) ?_
  cases q : xv.ownBlock with
  | none => exact Or.inl rfl
  | some g =>
    right
    intro e
    have := (h.lt g q).1
    injection e with e
    omega
theorem bel_size {M : Nat} {w u : World} (h : Below M w u) (hw : w.heap.size = M) : M ≤ u.heap.size := by rw [← hw]; exact h.size
theorem next64 (i n : Nat) (h : i < n) (hn : n ≤ 300) : IntKind.i64.wrap ((i : Int) + 1) = ((i + 1 : Nat) : Int) := by rw [IntKind.wrap_i64]; omega
theorem fc_rep (c : Nat) : fc (List.replicate (c + 1) 0) = fc (List.replicate c 0) ++ [.int .u8 0] := by
  rw [List.replicate_succ', fc_append]
  rfl
/-- What rides along: the list of zeros, and what lay there. -/
def OwS (B1 M m : Nat) (xv : Value) (w u : World) : Prop := u.ownsRow B1 5 1 xv m (fc (List.replicate m 0)) ∧ Below M w u ∧ B1 ≤ u.heap.size
theorem OwS.store {B1 M m : Nat} {xv : Value} {w u : World} (h : OwS B1 M m xv w u) {b : Nat} (hb : b < B1) (hM : M ≤ b) (k : Nat) (v : Value) : OwS B1 M m xv w (u.setCell ⟨b, k, none⟩ v) :=
  ⟨own_row h.1 hb, below_row h.2.1 hM k v, by rw [show (u.setCell ⟨b, k, none⟩ v).heap.size = u.heap.size by simp [World.setCell]]; exact h.2.2⟩
theorem OwS.drew {B1 M m : Nat} {xv : Value} {w u : World} (h : OwS B1 M m xv w u) : OwS B1 M m xv w u.drew := ⟨h.1, h.2.1.drew, h.2.2⟩
/-- A row that is scaled, a row that is taken away from, as far as column k. -/
def scP (A : Nat → Nat → F) (c : Nat) (b : F) (k : Nat) : Nat → Nat → F := rowU A c (fun k' => if k' < k then fm (A c k') b else A c k')
def elP (A : Nat → Nat → F) (i c k : Nat) : Nat → Nat → F := rowU A i (fun k' => if k' < k then fa (A i k') (fm (A i c) (A c k')) else A i k')
theorem scP_first (A : Nat → Nat → F) (c : Nat) (b : F) (i k : Nat) : A i k = scP A c b 0 i k := by
  unfold scP
  by_cases e : i = c
  · rw [e, rowU_at, if_neg (Nat.not_lt_zero k)]
  · rw [rowU_ne _ _ _ _ _ e]
theorem scP_at (A : Nat → Nat → F) (c : Nat) (b : F) (k : Nat) : scP A c b k c k = A c k := by unfold scP; rw [rowU_at, if_neg (Nat.lt_irrefl k)]
theorem scP_next (A : Nat → Nat → F) (c : Nat) (b : F) (k i q : Nat) : rowU (scP A c b k) c (fun k' => if k' = k then fm (A c k) b else scP A c b k c k') i q = scP A c b (k + 1) i q := by
  unfold scP
  by_cases e : i = c
  · subst e
    rw [rowU_at, rowU_at, rowU_at]
    by_cases h : q = k
    · subst h; rw [if_pos rfl, if_pos (by omega)]
    · rw [if_neg h]
      by_cases h2 : q < k
      · rw [if_pos h2, if_pos (by omega)]
      · rw [if_neg h2, if_neg (by omega)]
  · rw [rowU_ne _ _ _ _ _ e, rowU_ne _ _ _ _ _ e, rowU_ne _ _ _ _ _ e]
theorem scP_last (A : Nat → Nat → F) (c : Nat) (b : F) (n i k : Nat) (hk : k ≤ n) : scP A c b (n + 1) i k = scaleR A c b i k := by
  unfold scP scaleR
  by_cases e : i = c
  · subst e
    rw [rowU_at, rowU_at, if_pos (by omega)]
  · rw [rowU_ne _ _ _ _ _ e, rowU_ne _ _ _ _ _ e]
theorem elP_first (A : Nat → Nat → F) (i c j k : Nat) : A j k = elP A i c 0 j k := by
  unfold elP
  by_cases e : j = i
  · rw [e, rowU_at, if_neg (Nat.not_lt_zero k)]
  · rw [rowU_ne _ _ _ _ _ e]
theorem elP_at (A : Nat → Nat → F) (i c k : Nat) : elP A i c k i k = A i k := by unfold elP; rw [rowU_at, if_neg (Nat.lt_irrefl k)]
theorem elP_ne (A : Nat → Nat → F) (i c k q : Nat) (h : c ≠ i) : elP A i c k c q = A c q := rowU_ne _ _ _ _ _ h
theorem elP_next (A : Nat → Nat → F) (i c k j q : Nat) : rowU (elP A i c k) i (fun k' => if k' = k then fa (A i k) (fm (A i c) (A c k)) else elP A i c k i k') j q = elP A i c (k + 1) j q := by
  unfold elP
  by_cases e : j = i
  · subst e
    rw [rowU_at, rowU_at, rowU_at]
    by_cases h : q = k
    · subst h; rw [if_pos rfl, if_pos (by omega)]
    · rw [if_neg h]
      by_cases h2 : q < k
      · rw [if_pos h2, if_pos (by omega)]
      · rw [if_neg h2, if_neg (by omega)]
  · rw [rowU_ne _ _ _ _ _ e, rowU_ne _ _ _ _ _ e, rowU_ne _ _ _ _ _ e]
theorem elP_last (A : Nat → Nat → F) (i c n j k : Nat) (hk : k ≤ n) : elP A i c (n + 1) j k = elimR A i c j k := by
  unfold elP elimR
  by_cases e : j = i
  · subst e
    rw [rowU_at, rowU_at, if_pos (by omega)]
  · rw [rowU_ne _ _ _ _ _ e, rowU_ne _ _ _ _ _ e]
theorem cell_there {B B1 G R n : Nat} {A : Nat → Nat → F} {gs cs : Nat → Nat} {u : World} (h : MatI B B1 G R n A gs cs u) {a : Nat} (ha : a < R) (c : Nat) (x : Value) : ∃ y, (u.drew.setCell ⟨G, c, none⟩ x).cell? ⟨G, a, none⟩ = some y := by
  obtain ⟨sp, hs⟩ := h.top
  have q : Bx (u.drew.setCell ⟨G, c, none⟩ x) G 23 _ := Bx.set (w := u.drew) hs c x
  have hl : a < ((((List.range R).map (rowV n gs cs)) ++ sp).set c x).length := by simp; omega
  exact ⟨_, q.cell a _ (List.getElem?_eq_getElem hl)⟩
end Go.Proofs.YtinmhgackihakaaDoor
namespace Go.Proofs.YtinmhgackihakaaDoor
open Go.RowKit
set_option linter.unusedVariables false
set_option linter.unusedSimpArgs false
set_option maxRecDepth 100000
def z4 : List F := [0, 0, 0, 0]
theorem fc_app (a b : List F) : fc (a ++ b) = fc a ++ fc b := by simp [fc]
theorem four_cells (w : World) (x y z u : Value) (e : TypeId) : ∀ (j : Nat) (v : Value), [x, y, z, u][j]? = some v → (w.alloc (.cells #[x, y, z, u] e)).cell? ((⟨w.heap.size, 0, none⟩ : Addr).add j) = some v :=
  fun j v hv => World.news_of_block (w := w.alloc (.cells #[x, y, z, u] e)) (heap_alloc_new w _) j v (by simpa using hv)
theorem rx_cells {w : World} {g : Nat} {l : List F} (h : Rx w g l) : ∀ (j : Nat) (u : Value), (fc l)[j]? = some u → w.cell? ((⟨g, 0, none⟩ : Addr).add j) = some u := fun j u hu => by
  have hj : j < l.length := by have := (List.getElem?_eq_some_iff.1 hu).1; rw [fc_len] at this; exact this
  rw [fc_at l j hj] at hu
  injection hu with hu
  rw [← hu, show (⟨g, 0, none⟩ : Addr).add j = ⟨g, j, none⟩ by unfold Addr.add; split <;> simp_all]
  exact h.cell j hj
theorem row5 (s : Nat → F) (j : Nat) (hj : j < 4) (w : World) (a b c d : F) (ha : Em (3 * j) = a) (hb : Em (2 * j) = b) (hc : Em j = c) (hd : s j = d) : Rx (w.alloc (.cells #[.int .u8 (a.1 : Nat), .int .u8 (b.1 : Nat), .int .u8 (c.1 : Nat), .int .u8 1, .int .u8 (d.1 : Nat)] 5)) w.heap.size (rowL (codM s) 4 j) := by
  refine ⟨[], ?_⟩
  rw [List.append_nil]
  have e : fc (rowL (codM s) 4 j) = [.int .u8 (a.1 : Nat), .int .u8 (b.1 : Nat), .int .u8 (c.1 : Nat), .int .u8 1, .int .u8 (d.1 : Nat)] := by
    show fc [codM s j 0, codM s j 1, codM s j 2, codM s j 3, codM s j 4] = _
    unfold codM
    simp only [if_true, show ¬ (0 : Nat) = 4 by decide, show ¬ (1 : Nat) = 4 by decide, show ¬ (2 : Nat) = 4 by decide, show ¬ (3 : Nat) = 4 by decide, if_false]
    rw [show 3 - 0 = 3 from rfl, show 3 - 1 = 2 from rfl, show 3 - 2 = 1 from rfl, show 3 - 3 = 0 from rfl, Nat.zero_mul, Nat.one_mul, Em_zero, ha, hb, hc, hd]
    rfl
  rw [e]
  exact heap_alloc_new w _
theorem cod_num (j A B : Nat) (hj : j < 4) (hA : 3 * j = A) (hB : 2 * j = B) : IntKind.i64.wrap (3 * (j : Int)) = (A : Int) ∧ IntKind.i64.wrap (2 * (j : Int)) = (B : Int) ∧ (A : Int) < 255 ∧ (B : Int) < 255 ∧ (j : Int) < 255 ∧ (0 : Int) ≤ (j : Int) ∧ IntKind.i64.wrap ((j : Int) + 1) = ((j + 1 : Nat) : Int) ∧ (0 : Int) ≤ (A : Int) ∧ (0 : Int) ≤ (B : Int) := by
  refine ⟨?_, ?_, by omega, by omega, by omega, by omega, ?_, by omega, by omega⟩ <;> (rw [IntKind.wrap_i64]; omega)
/-- What Coded leaves. -/
def CodQ (l x0 : List F) (n M : Nat) (e : Ending) (w w' : World) : Prop := ∃ g c', e = .returned (.slice (some ⟨g, 0, none⟩) (n + 4) c') ∧ (n + 4 ≤ c' ∧ c' ≤ 9223372036854775807) ∧ Rx w' g (l ++ x0) ∧ Below M w w'
end Go.Proofs.YtinmhgackihakaaDoor
namespace Go.Proofs.YtinmhgackihakaaDoor
open Go.RowKit
set_option linter.unusedVariables false
set_option linter.unusedSimpArgs false
theorem wrap_next (j r : Nat) (h : j < r) (hr : r ≤ 1000) : wrap64 ((j : Int) + 1) = ((j + 1 : Nat) : Int) := by unfold wrap64; omega
theorem sub_next (j r : Nat) (h : j < r) : r - (intOf (.int .i64 ((j + 1 : Nat) : Int))).toNat < r - (intOf (.int .i64 (j : Nat))).toNat := by simp only [intOf, Int.toNat_natCast]; omega
theorem field24 (a b c d : Int) (w : World) : (Instr.field 64 (.agg #[.int .u16 a, .int .i64 b, .int .i64 c, .int .i64 d]) 3).run Tryd.prog w = .ok (.int .i64 d) w := by kernel_rfl
theorem valuesIn_ok (b off c n : Nat) (l : List F) (w : World) (hn : l.length = n) (h5 : 5 ≤ n) (hs : (l.getD 4 0).1 + 9 ≤ n) (hc : n ≤ c) (h : Rw w b off l) : Calls Tryd.prog 49 #[.slice (some ⟨b, off, none⟩) n c] w fun e w' => Hid (∃ a, e = .returned (.slice a ((l.getD 4 0).1 + 4) (c - 5)) ∧ Below w.heap.size w w') := by
  have H16 : Hid (Calls Tryd.prog 48 #[.slice (some ⟨b, off, none⟩) n c] w fun e w' => Hid (e = .returned (.agg (tds l).toArray) ∧ Below w.heap.size w w')) := told_ok b off c n l w hn h5 h
  obtain ⟨s, HS⟩ : ∃ s : Nat, Hid ((l.getD 4 0).1 = s) := ⟨_, rfl⟩
  have h256 : s < 256 := by rw [← HS.out]; exact (l.getD 4 0).2
  rw [HS.out] at hs ⊢
  have HT : Hid (tds l = [.int .u16 (setN l : Nat), .int .i64 ((l.getD 2 0).1 : Nat), .int .i64 ((l.getD 3 0).1 : Nat), .int .i64 (s : Nat)]) := by show _ = _; unfold tds; rw [HS.out]
  rw [HT.out] at H16
  have e1 : IntKind.i64.wrap (5 + (s : Int)) = ((5 + s : Nat) : Int) := by rw [IntKind.wrap_i64]; omega
  obtain ⟨a, HA⟩ : ∃ a, Hid (5 + s = a) := ⟨_, rfl⟩
  have ha := HA.out
  rw [ha] at e1
  have e2 : IntKind.i64.wrap ((a : Int) + 4) = ((a + 4 : Nat) : Int) := by rw [IntKind.wrap_i64]; omega
  obtain ⟨m, HM⟩ : ∃ b, Hid (a + 4 = b) := ⟨_, rfl⟩
  have hm := HM.out
  rw [hm] at e2
  have g1 : (5 : Int) ≤ (m : Int) := by omega
  have g2 : (m : Int) ≤ (c : Int) := by omega
  have g3 : (0 : Int) ≤ (m : Int) := by omega
  have HE : Hid (s + 4 = m - 5) := by show _ = _; omega
  have hc5 : ¬ c = 5 := by omega
  have hf := fun w => field24 (setN l : Nat) ((l.getD 2 0).1 : Nat) ((l.getD 3 0).1 : Nat) (s : Nat) w
  generalize (l.getD 2 0).1 = v2 at H16 hf
  generalize (l.getD 3 0).1 = v3 at H16 hf
  generalize setN l = sn at H16 hf
  clear h hn h5 ha hm hs HT
  go_enter Tryd.func49, Tryd.ntmps49
  go_wp2_with (first
    | (go_at_call 48; refine H16.out.mono ?_; intro e1 w1 hh; obtain ⟨rfl, q⟩ := hh.out; have HB1 : Hid (Below w.heap.size w w1) := q; clear hh q H16))
  go_ret
  rw [HE.out]
  exact ⟨_, rfl, HB1.out⟩
/-- Is it a share's row? -/
def okS (l : List F) : Prop := (1 ≤ (l.getD 2 0).1 ∧ (l.getD 2 0).1 ≤ 16) ∧ 1 ≤ (l.getD 3 0).1 ∧ (1 ≤ (l.getD 4 0).1 ∧ (l.getD 4 0).1 ≤ 64) ∧ l.length = unc (l.getD 4 0).1 + 4 ∧ (∀ j, j < (9 + (l.getD 4 0).1) % 2 → l.getD (9 + (l.getD 4 0).1 + j) 0 = 0) ∧ sumL l = [0, 0, 0, 0]
set_option maxHeartbeats 1600000 in
set_option maxRecDepth 100000 in
theorem isShare_ok (b off c n : Nat) (l : List F) (w : World) (hn : l.length = n) (h5 : 14 ≤ n) (h255 : n ≤ 255) (hc : n ≤ c) (h : Rw w b off l) (hb : b < w.heap.size) : Calls Tryd.prog 65 #[.slice (some ⟨b, off, none⟩) n c] w fun e w' => Hid (∃ d, e = .returned (.bool d) ∧ (d = true ↔ okS l) ∧ Below w.heap.size w w') := by
  obtain ⟨M, HMM⟩ : ∃ M, Hid (w.heap.size = M) := ⟨_, rfl⟩
  have H16 : Hid (Calls Tryd.prog 48 #[.slice (some ⟨b, off, none⟩) n c] w fun e w' => Hid (e = .returned (.agg (tds l).toArray) ∧ Below w.heap.size w w')) := told_ok b off c n l w hn (by omega) h
  have HR : Hid (Rw w b off l ∧ b < w.heap.size ∧ l.length = n ∧ 14 ≤ n ∧ n ≤ 255 ∧ n ≤ c) := ⟨h, hb, hn, h5, h255, hc⟩
  obtain ⟨TD, HTD⟩ : ∃ q, Hid (tds l = q) := ⟨_, rfl⟩
  have HTL : Hid (TD.length = 4 ∧ ∀ v ∈ TD, v.oneCell' = true) := by rw [← HTD.out]; refine ⟨rfl, fun v hv => ?_⟩; simp [tds] at hv; rcases hv with rfl | rfl | rfl | rfl <;> rfl
  have hi7 : (Tryd.prog.info? 64).map (·.size) = some TD.length := by rw [HTL.out.1]; kernel_rfl
  rw [HTD.out] at H16
  obtain ⟨nd, HND⟩ : ∃ s : Nat, Hid ((l.getD 2 0).1 = s) := ⟨_, rfl⟩
  obtain ⟨ix, HIX⟩ : ∃ s : Nat, Hid ((l.getD 3 0).1 = s) := ⟨_, rfl⟩
  obtain ⟨s, HS⟩ : ∃ s : Nat, Hid ((l.getD 4 0).1 = s) := ⟨_, rfl⟩
  have HTV : Hid (TD = [.int .u16 (setN l : Nat), .int .i64 (nd : Nat), .int .i64 (ix : Nat), .int .i64 (s : Nat)]) := by show _ = _; rw [← HTD.out, ← HND.out, ← HIX.out, ← HS.out]; rfl
  have HOK : Hid (okS l ↔ (1 ≤ nd ∧ nd ≤ 16) ∧ 1 ≤ ix ∧ (1 ≤ s ∧ s ≤ 64) ∧ n = unc s + 4 ∧ (∀ j, j < (9 + s) % 2 → l.getD (9 + s + j) 0 = 0) ∧ sumL l = [0, 0, 0, 0]) := by show _ ↔ _; unfold okS; rw [HND.out, HIX.out, HS.out, hn]
  have hs256 : s < 256 := by rw [← HS.out]; exact (l.getD 4 0).2
  have H45 : Hid (∀ u, Calls Tryd.prog 25 #[.int .i64 (nd : Nat)] u fun e w' => e = .returned (.bool (decide (1 ≤ nd ∧ nd ≤ 16))) ∧ w' = u) := fun u => mayNeed_ok nd u
  have H46 : Hid (∀ u, Calls Tryd.prog 24 #[.int .i64 (s : Nat)] u fun e w' => e = .returned (.bool (decide (1 ≤ s ∧ s ≤ 64))) ∧ w' = u) := fun u => mayShare_ok s u
  have H24 : Hid (∀ u, Calls Tryd.prog 45 #[.int .i64 (s : Nat)] u fun e w' => e = .returned (.int .i64 (unc s + 4 : Nat)) ∧ w' = u) := fun u => rowSize_ok s (by omega) u
  clear h hb hn h5 h255 hc
  go_enter Tryd.func65, Tryd.ntmps65
  go_upto_region 2 with (first
    | (go_at_call 48; refine H16.out.mono ?_; intro e1 w1 hh; obtain ⟨rfl, q⟩ := hh.out; have HB1 : Hid (Below w.heap.size w w1) := q; clear hh q H16)
    | (refine wpList_store_bx (by rfl) 64 (.tmp 3) (.tmp 7) (by rfl) [.int .u16 0, .int .i64 0, .int .i64 0, .int .i64 0] TD w1.heap.size (by rfl) (by rfl) (Bx.new w1 64 _) (by rw [HTL.out.1]; rfl) hi7 HTL.out.2 ?_; intro w2 hb2 hg2; have HB2 : Hid (Bx w2 w1.heap.size 64 TD ∧ (w1.alloc (.cells [Value.int .u16 0, .int .i64 0, .int .i64 0, .int .i64 0].toArray 64)).grownBy w2 (some w1.heap.size)) := ⟨hb2, hg2⟩; clear hb2 hg2))
  obtain ⟨Q, HQ⟩ : ∃ Q, Hid (w1.heap.size = Q) := ⟨_, rfl⟩
  rw [HQ.out] at HB2 ⊢
  have c1 : w2.cell? ⟨Q, 1, none⟩ = some (.int .i64 (nd : Nat)) := HB2.out.1.cell 1 _ (by rw [HTV.out]; rfl)
  have c2 : w2.cell? ⟨Q, 2, none⟩ = some (.int .i64 (ix : Nat)) := HB2.out.1.cell 2 _ (by rw [HTV.out]; rfl)
  have c3 : w2.cell? ⟨Q, 3, none⟩ = some (.int .i64 (s : Nat)) := HB2.out.1.cell 3 _ (by rw [HTV.out]; rfl)
  have HB : Hid (Below w.heap.size w w2) := HB1.out.trans ((((Below.refl _ _).alloc (by rw [HQ.out]; exact Nat.le_refl _) _).trans (below_gb HB2.out.2 (by simp) (Nat.le_of_eq HQ.out))).mono HB1.out.size)
  have HRW : Hid (Rw w2 b off l ∧ b < w2.heap.size) := ⟨HR.out.1.below HB.out, Nat.lt_of_lt_of_le HR.out.2.1 HB.out.size⟩
  have hno : ∀ p : Prop, ¬ p → (false = true ↔ p) := fun p hp => ⟨fun e => (by cases e), fun e => absurd e hp⟩
  have HNO : Hid (∀ p : Prop, ¬ p → (false = true ↔ p)) := hno
  clear hno HB1 HB2
  by_cases p1 : 1 ≤ nd ∧ nd ≤ 16
  case neg =>
    have HF : Hid (¬ okS l) := fun e => p1 (HOK.out.1 e).1
    rw [show decide (1 ≤ nd ∧ nd ≤ 16) = false from decide_eq_false p1] at H45
    clear p1
    go_wp2_with (first
      | (go_at_call 25; refine (H45.out _).mono ?_; rintro e3 w3 ⟨rfl, hw⟩; obtain rfl := hw.symm; clear hw)
      | (go_at_call 24; refine (H46.out _).mono ?_; rintro e3 w3 ⟨rfl, hw⟩; obtain rfl := hw.symm; clear hw)
      | (go_at_call 45; refine (H24.out _).mono ?_; rintro e3 w3 ⟨rfl, hw⟩; obtain rfl := hw.symm; clear hw))
    go_ret
    exact ⟨false, rfl, HNO.out _ HF.out, HB.out⟩
  case pos =>
  rw [show decide (1 ≤ nd ∧ nd ≤ 16) = true from decide_eq_true p1] at H45
  have HP1 : Hid (1 ≤ nd ∧ nd ≤ 16) := p1
  clear p1
  by_cases p2 : 1 ≤ ix
  case neg =>
    have HF : Hid (¬ okS l) := fun e => p2 (HOK.out.1 e).2.1
    have g2 : (ix : Int) < 1 := by omega
    clear p2
    go_wp2_with (first
      | (go_at_call 25; refine (H45.out _).mono ?_; rintro e3 w3 ⟨rfl, hw⟩; obtain rfl := hw.symm; clear hw)
      | (go_at_call 24; refine (H46.out _).mono ?_; rintro e3 w3 ⟨rfl, hw⟩; obtain rfl := hw.symm; clear hw)
      | (go_at_call 45; refine (H24.out _).mono ?_; rintro e3 w3 ⟨rfl, hw⟩; obtain rfl := hw.symm; clear hw))
    go_ret
    exact ⟨false, rfl, HNO.out _ HF.out, HB.out⟩
  case pos =>
  have g2 : decide ((ix : Int) < 1) = false := decide_eq_false (by omega)
  have HP2 : Hid (1 ≤ ix) := p2
  clear p2
  by_cases p3 : 1 ≤ s ∧ s ≤ 64
  case neg =>
    have HF : Hid (¬ okS l) := fun e => p3 (HOK.out.1 e).2.2.1
    rw [show decide (1 ≤ s ∧ s ≤ 64) = false from decide_eq_false p3] at H46
    clear p3
    go_wp2_with (first
      | (go_at_call 25; refine (H45.out _).mono ?_; rintro e3 w3 ⟨rfl, hw⟩; obtain rfl := hw.symm; clear hw)
      | (go_at_call 24; refine (H46.out _).mono ?_; rintro e3 w3 ⟨rfl, hw⟩; obtain rfl := hw.symm; clear hw)
      | (go_at_call 45; refine (H24.out _).mono ?_; rintro e3 w3 ⟨rfl, hw⟩; obtain rfl := hw.symm; clear hw))
    go_ret
    exact ⟨false, rfl, HNO.out _ HF.out, HB.out⟩
  case pos =>
  rw [show decide (1 ≤ s ∧ s ≤ 64) = true from decide_eq_true p3] at H46
  have HP3 : Hid (1 ≤ s ∧ s ≤ 64) := p3
  clear p3
  obtain ⟨U, HU⟩ : ∃ U, Hid (unc s = U) := ⟨_, rfl⟩
  rw [HU.out] at H24
  obtain ⟨U4, HU4⟩ : ∃ U4, Hid (U + 4 = U4) := ⟨_, rfl⟩
  rw [HU4.out] at H24
  by_cases p4 : n = U4
  case neg =>
    have HF : Hid (¬ okS l) := fun e => p4 (by rw [← HU4.out, ← HU.out]; exact (HOK.out.1 e).2.2.2.1)
    have g4 : ((n : Int) != (U4 : Int)) = true := by rw [bne_iff_ne]; omega
    clear p4
    go_wp2_with (first
      | (go_at_call 25; refine (H45.out _).mono ?_; rintro e3 w3 ⟨rfl, hw⟩; obtain rfl := hw.symm; clear hw)
      | (go_at_call 24; refine (H46.out _).mono ?_; rintro e3 w3 ⟨rfl, hw⟩; obtain rfl := hw.symm; clear hw)
      | (go_at_call 45; refine (H24.out _).mono ?_; rintro e3 w3 ⟨rfl, hw⟩; obtain rfl := hw.symm; clear hw))
    go_ret
    exact ⟨false, rfl, HNO.out _ HF.out, HB.out⟩
  case pos =>
  subst p4
  go_wp2_with (first
      | (go_at_call 25; refine (H45.out _).mono ?_; rintro e3 w3 ⟨rfl, hw⟩; obtain rfl := hw.symm; clear hw)
      | (go_at_call 24; refine (H46.out _).mono ?_; rintro e3 w3 ⟨rfl, hw⟩; obtain rfl := hw.symm; clear hw)
      | (go_at_call 45; refine (H24.out _).mono ?_; rintro e3 w3 ⟨rfl, hw⟩; obtain rfl := hw.symm; clear hw))
  clear c1 c2
  have H47 : Hid (∀ u, Rw u b off l → Calls Tryd.prog 49 #[.slice (some ⟨b, off, none⟩) n c] u fun e w' => Hid (∃ a, e = .returned (.slice a (s + 4) (c - 5)) ∧ Below u.heap.size u w')) := fun u hu => by
    have q := valuesIn_ok b off c n l u HR.out.2.2.1 (by have := HR.out.2.2.2.1; omega) (by have a1 := HU4.out; have a2 := HU.out; unfold unc at a2; rw [HS.out]; omega) HR.out.2.2.2.2.2 hu
    rw [HS.out] at q
    exact q
  have H38 : Hid (∀ u, Calls Tryd.prog 60 #[.int .i64 (s : Nat)] u fun e w' => e = .returned (.int .i64 (U : Nat)) ∧ w' = u) := fun u => by rw [← HU.out]; exact uncoded_ok s (by have := HP3.out; omega) u
  have H40 : Hid (∀ u, Rw u b off l → b < u.heap.size → Calls Tryd.prog 61 #[.slice (some ⟨b, off, none⟩) n c] u fun e w' => Hid (e = .returned (.agg (fc (sumL l)).toArray) ∧ Below u.heap.size u w')) := fun u hu hb => by
    have q := sumsOf_ok b off c l u (by have := HR.out; omega) hu hb
    rw [HR.out.2.2.1] at q
    exact q
  obtain ⟨V4, HV4⟩ : ∃ v, Hid (s + 4 = v) := ⟨_, rfl⟩
  obtain ⟨Z, HZ⟩ : ∃ z, Hid (9 + s = z) := ⟨_, rfl⟩
  obtain ⟨r, HRR⟩ : ∃ r, Hid (U - Z = r) := ⟨_, rfl⟩
  have HNUM : Hid (Z ≤ U ∧ U + 4 = n ∧ n ≤ c ∧ Z + r = U ∧ r = (9 + s) % 2 ∧ V4 + 5 = Z ∧ s ≤ 64 ∧ n ≤ 255) := by
    have a1 := HU4.out; have a2 := HU.out; have a3 := HZ.out; have a4 := HRR.out; have a5 := HV4.out; have a6 := HP3.out; have a7 := HR.out
    unfold unc at a2
    exact ⟨by omega, by omega, by omega, by omega, by omega, by omega, by omega, by omega⟩
  rw [HV4.out] at H47
  have e1 : IntKind.i64.wrap (5 + (V4 : Int)) = (Z : Int) := by have := HNUM.out; rw [IntKind.wrap_i64]; omega
  have e2 : (Z : Int) ≤ (U : Int) := by have := HNUM.out; omega
  have e3 : (U : Int) ≤ (c : Int) := by have := HNUM.out; omega
  have e4 : (0 : Int) ≤ (Z : Int) := by omega
  have e5 : ¬ c = Z := by have := HNUM.out; omega
  have hS0 : w2.drew.cell? ⟨Q, 3, none⟩ = some (.int .i64 (s : Nat)) ∧ Rw w2.drew b off l ∧ Below w.heap.size w w2.drew ∧ b < w2.drew.heap.size ∧ Q < w2.drew.heap.size := ⟨c3, HRW.out.1, HB.out.drew, HRW.out.2, World.block_lt_of_cell? _ _ c3⟩
  clear c3
  refine wp_region_noPanic ?_
  refine wp_region_held_drew (S := fun u => u.cell? ⟨Q, 3, none⟩ = some (.int .i64 (s : Nat)) ∧ Rw u b off l ∧ Below w.heap.size w u ∧ b < u.heap.size ∧ Q < u.heap.size) (by kernel_rfl) hS0 (fun _ => ?_)
  refine takeH_at 0 31 (.slice (some ⟨b, off, none⟩) n c) rfl rfl (by kernel_rfl) (by kernel_rfl) (by kernel_rfl) (fun _ _ _ h => h) hS0 (Or.inl ⟨by rfl, fun w' hS' => by obtain ⟨k1, k2, k3⟩ := hS'; clear k2 k3; go_simp⟩) ?_
  simp only [List.setIfInBounds_toArray, List.set_cons_zero, List.set_cons_succ]
  refine takeH_at 1 32 (.slice (some ⟨b, off, none⟩) n c) rfl rfl (by kernel_rfl) (by kernel_rfl) (by kernel_rfl) (fun _ _ _ h => h) hS0 (Or.inl ⟨by rfl, fun w' hS' => by obtain ⟨k1, k2, k3⟩ := hS'; clear k2 k3; go_simp⟩) ?_
  simp only [List.setIfInBounds_toArray, List.set_cons_zero, List.set_cons_succ]
  refine takeH_at 5 36 (.pointer (some ⟨Q, 3, none⟩)) rfl rfl (by kernel_rfl) (by kernel_rfl) (by kernel_rfl) (fun _ _ _ h => h) hS0 (Or.inl ⟨by rfl, fun w' hS' => by obtain ⟨k1, k2, k3⟩ := hS'; clear k2 k3; go_simp⟩) ?_
  simp only [List.setIfInBounds_toArray, List.set_cons_zero, List.set_cons_succ]
  refine takeH_at 6 37 (.int .i64 (s : Nat)) rfl rfl (by kernel_rfl) (by kernel_rfl) (by kernel_rfl) (fun _ _ _ h => h) hS0 (Or.inl ⟨by rfl, fun w' hS' => by obtain ⟨k1, k2, k3⟩ := hS'; clear k2 k3; go_simp⟩) ?_
  simp only [List.setIfInBounds_toArray, List.set_cons_zero, List.set_cons_succ]
  refine takeH_at 10 41 (.int .i64 0) rfl rfl (by kernel_rfl) (by kernel_rfl) (by kernel_rfl) (fun _ _ _ h => h) hS0 (Or.inl ⟨by rfl, fun w' hS' => by obtain ⟨k1, k2, k3⟩ := hS'; clear k2 k3; go_simp⟩) ?_
  simp only [List.setIfInBounds_toArray, List.set_cons_zero, List.set_cons_succ]
  refine wpAnyH_ready (rs := [2]) (by kernel_rfl) (by simp) ?_
  refine AllReadyH.cons rfl (fun K hK => ?_) AllReadyH.nil
  go_simp
  refine (H47.out _ hS0.2.1).mono ?_
  intro e91 q1 hh
  obtain ⟨av, rfl, hb1⟩ := hh.out
  have hS1 : q1.cell? ⟨Q, 3, none⟩ = some (.int .i64 (s : Nat)) ∧ Rw q1 b off l ∧ Below w.heap.size w q1 ∧ b < q1.heap.size ∧ Q < q1.heap.size := ⟨(hb1.cell hS0.2.2.2.2).trans hS0.1, hS0.2.1.below hb1, hS0.2.2.1.trans (hb1.mono hS0.2.2.1.size), Nat.lt_of_lt_of_le hS0.2.2.2.1 hb1.size, Nat.lt_of_lt_of_le hS0.2.2.2.2 hb1.size⟩
  clear hh hb1
  go_wp2_with fail
  refine hK.out _ _ hS1 (fun _ => ?_)
  clear hK K hS0
  try simp only [Act.put, List.setIfInBounds_toArray, List.set_cons_zero, List.set_cons_succ]
  refine takeH_at 3 34 (.int .i64 (V4 : Nat)) rfl rfl (by kernel_rfl) (by kernel_rfl) (by kernel_rfl) (fun _ _ _ h => h) hS1 (Or.inl ⟨by rfl, fun w' hS' => by obtain ⟨k1, k2, k3⟩ := hS'; clear k2 k3; go_simp⟩) ?_
  simp only [List.setIfInBounds_toArray, List.set_cons_zero, List.set_cons_succ]
  refine takeH_at 4 35 (.int .i64 (Z : Nat)) rfl rfl (by kernel_rfl) (by kernel_rfl) (by kernel_rfl) (fun _ _ _ h => h) hS1 (Or.inl ⟨by rfl, fun w' hS' => by obtain ⟨k1, k2, k3⟩ := hS'; clear k2 k3; go_simp⟩) ?_
  simp only [List.setIfInBounds_toArray, List.set_cons_zero, List.set_cons_succ]
  refine wpAnyH_ready (rs := [7]) (by kernel_rfl) (by simp) ?_
  refine AllReadyH.cons rfl (fun K hK => ?_) AllReadyH.nil
  go_simp
  refine (H38.out _).mono ?_
  rintro e92 q2 ⟨rfl, hw⟩
  obtain rfl := hw.symm
  clear hw
  go_wp2_with fail
  refine hK.out _ _ hS1 (fun _ => ?_)
  clear hK K
  try simp only [Act.put, List.setIfInBounds_toArray, List.set_cons_zero, List.set_cons_succ]
  refine takeH_at 8 39 (.slice (some ⟨b, off + Z, none⟩) (U - Z) (c - Z)) rfl rfl (by kernel_rfl) (by kernel_rfl) (by kernel_rfl) (fun _ _ _ h => h) hS1 (Or.inl ⟨by rfl, fun w' hS' => by obtain ⟨k1, k2, k3⟩ := hS'; clear k2 k3; go_simp⟩) ?_
  simp only [List.setIfInBounds_toArray, List.set_cons_zero, List.set_cons_succ]
  refine takeH_at 9 40 (.int .i64 (U - Z : Nat)) rfl rfl (by kernel_rfl) (by kernel_rfl) (by kernel_rfl) (fun _ _ _ h => h) hS1 (Or.inl ⟨by rfl, fun w' hS' => by obtain ⟨k1, k2, k3⟩ := hS'; clear k2 k3; go_simp⟩) ?_
  simp only [List.setIfInBounds_toArray, List.set_cons_zero, List.set_cons_succ]
  refine wpAnyH_done (by kernel_rfl) ?_ _
  refine NoPanic.normal ?_
  rw [HRR.out]
  have HI0 : Hid (Rw q1 b off l ∧ b < q1.heap.size ∧ Below w.heap.size w q1) := ⟨hS1.2.1, hS1.2.2.2.1, hS1.2.2.1⟩
  clear hS1 e1 e2 e3 e4 e5
  obtain ⟨L, HLL⟩ : ∃ L, Hid (fc (sumL l) = L) := ⟨_, rfl⟩
  rw [HLL.out] at H40
  obtain ⟨d, HD⟩ : ∃ d : Bool, Hid ((d = true ↔ sumL l = [0, 0, 0, 0]) ∧ ∀ u, (binOp .eql 104 (.agg L.toArray) (.agg #[.int .u8 0, .int .u8 0, .int .u8 0, .int .u8 0])).run Tryd.prog u = .ok (.bool d) u) := by
    refine ⟨decide (sumL l = [0, 0, 0, 0]), decide_eq_true_iff, fun u => ?_⟩
    rw [← HLL.out]
    exact eql4 104 Tryd.und77 (sumL l) [0, 0, 0, 0] rfl rfl u
  go_wp2
  go_loopw [41] (fun vi wr => ∃ j : Nat, j ≤ r ∧ vi = .int .i64 (j : Nat) ∧ Hid ((∀ q, q < j → l.getD (Z + q) 0 = 0) ∧ Rw wr b off l ∧ b < wr.heap.size ∧ Below w.heap.size w wr)) (fun vi _ => r - (intOf vi).toNat)
  case atStart => exact ⟨0, by omega, rfl, fun _ h => absurd h (by omega), HI0.out⟩
  case round =>
    obtain ⟨j, hj, rfl, HI⟩ := hrel
    clear HI0
    by_cases hlt : j < r
    · have HLT : Hid (j < r) := hlt
      have g1 : (j : Int) < (r : Int) := by omega
      have g0 : (0 : Int) ≤ (j : Int) := by omega
      have c1 : wr.cell? ⟨b, off + Z + j, none⟩ = some (.int .u8 ((l.getD (Z + j) 0).1 : Nat)) := by
        have q := HI.out.2.1 (Z + j) (by have := HNUM.out; have := HR.out; omega)
        rw [Nat.add_assoc]; exact q
      by_cases e : l.getD (Z + j) 0 = 0
      · have HNX : Hid ((∀ q, q < j + 1 → l.getD (Z + q) 0 = 0) ∧ Rw wr b off l ∧ b < wr.heap.size ∧ Below w.heap.size w wr) := by
          refine ⟨fun q hq => ?_, HI.out.2⟩
          by_cases e2 : q = j
          · rw [e2]; exact e
          · exact HI.out.1 q (by omega)
        rw [e] at c1
        have c2 : wr.cell? ⟨b, off + Z + j, none⟩ = some (.int .u8 0) := c1
        clear c1 e hj hlt HI
        go_wp2
        have wj := wrap_next j r HLT.out (by have := HNUM.out; omega)
        refine ⟨⟨j + 1, HLT.out, by rw [wj], HNX.out⟩, ?_⟩
        rw [wj]
        exact sub_next j r HLT.out
      · have HF : Hid (¬ okS l) := fun h => e (by rw [← HZ.out]; exact (HOK.out.1 h).2.2.2.2.1 j (by have := HNUM.out; omega))
        have ne : ¬ (((l.getD (Z + j) 0).1 : Nat) : Int) = 0 := fun q => e (Fin.ext (show _ = 0 by omega))
        generalize (l.getD (Z + j) 0).1 = x at c1 ne
        clear e hj hlt
        go_wp2
        go_ret
        exact ⟨false, rfl, HNO.out _ HF.out, HI.out.2.2.2⟩
    · obtain rfl : j = r := by omega
      have g2 : ¬ (j : Int) < (j : Int) := Int.lt_irrefl _
      have hq := HD.out.2
      go_wp2_with (first
        | (go_at_call 61; refine (H40.out wr HI.out.2.1 HI.out.2.2.1).mono ?_; intro e5 w5 hh; obtain ⟨rfl, q5⟩ := hh.out; have HB5 : Hid (Below wr.heap.size wr w5) := q5; clear hh q5))
      go_ret
      refine ⟨d, rfl, ?_, HI.out.2.2.2.trans (HB5.out.mono HI.out.2.2.2.size)⟩
      rw [HD.out.1, HOK.out]
      have hsm := HNUM.out
      constructor
      · intro h
        exact ⟨HP1.out, HP2.out, HP3.out, by rw [HU.out, HU4.out], fun q hq => by rw [HZ.out]; exact HI.out.1 q (by omega), h⟩
      · intro h
        exact h.2.2.2.2.2
end Go.Proofs.YtinmhgackihakaaDoor
namespace Go.Proofs.YtinmhgackihakaaDoor
open Go.RowKit
set_option linter.unusedVariables false
set_option linter.unusedSimpArgs false
theorem results_cell3 {fn : Func} {p t u : Tmp} {ty : TypeId} (h : fn.results = #[.cell p ty, .tmp t, .tmp u]) (tmps : Array Value) (P : Program) (w : World) :
    (results fn tmps).run P w = ((asAddr (tmps.getD p undef)).run P w).andThen fun a w₁ => ((loadVar ty a).run P w₁).andThen fun v w₂ => .ok (.tuple #[v, tmps.getD t undef, tmps.getD u undef]) w₂ := by
  simp only [results, h]
  simp [Sem.run_bind, Result.andThen]
/-- A function that ends with a struct in a cell of its own and two more. -/
theorem ret_cell3 {P : Program} {fn : Func} {p t u : Tmp} {ty : TypeId} {d : TypeDesc} {Q : Ending → World → Prop} {tmps : Array Value} {w : World} {b : Nat} (cs : List Value) (x y : Value) (h : fn.results = #[.cell p ty, .tmp t, .tmp u])
    (hp : tmps.getD p undef = .pointer (some ⟨b, 0, none⟩)) (hx : tmps.getD t undef = x) (hy : tmps.getD u undef = y) (hr : w.rangeAt b 0 cs) (hu : P.underlying ty = some d) (hd : d.isRow = true) (hi : (P.info? ty).map (·.size) = some cs.length)
    (hq : Q (.returned (.tuple #[.agg cs.toArray, x, y])) w) : bodyPost P fn Q .ret ⟨tmps, []⟩ w := by
  refine bodyPost_ret (v := .tuple #[.agg cs.toArray, x, y]) ?_ rfl hq
  rw [results_cell3 h]
  have hl := run_loadVar_mid (P := P) w b 0 ty cs d hr hu hd hi
  simp [hp, asAddr, hl, hx, hy, Result.andThen]
theorem fit_num (s V Z LL : Nat) (hs : s < 256) (hV : s + 4 = V) (hZ : 9 + s = Z) (hL : 13 + s = LL) : IntKind.i64.wrap ((s : Int) + 4) = (V : Int) ∧ IntKind.i64.wrap (5 + (V : Int)) = (Z : Int) ∧ IntKind.i64.wrap ((Z : Int) + 4) = (LL : Int) ∧ IntKind.i64.wrap ((LL : Int) + 1) = ((LL + 1 : Nat) : Int) := by
  refine ⟨?_, ?_, ?_, ?_⟩ <;> (rw [IntKind.wrap_i64]; omega)
theorem par_odd (s Z LL U : Nat) (hs : s < 256) (hZ : 9 + s = Z) (hL : 13 + s = LL) (hU : unc s + 4 = U) (h : (9 + s) % 2 = 1) : (LL : Int).tmod 2 = 1 ∧ (Z : Int).tmod 2 = 1 ∧ LL + 1 = U ∧ Z + 5 = U := by
  unfold unc at hU
  refine ⟨?_, ?_, by omega, by omega⟩ <;> (rw [Int.tmod_eq_emod_of_nonneg (by omega)]; omega)
theorem par_even (s Z LL U : Nat) (hs : s < 256) (hZ : 9 + s = Z) (hL : 13 + s = LL) (hU : unc s + 4 = U) (h : ¬ (9 + s) % 2 = 1) : (LL : Int).tmod 2 = 0 ∧ (Z : Int).tmod 2 = 0 ∧ LL = U ∧ Z + 4 = U := by
  unfold unc at hU
  refine ⟨?_, ?_, by omega, by omega⟩ <;> (rw [Int.tmod_eq_emod_of_nonneg (by omega)]; omega)
/-- Is it a share's row, but for its code? -/
def okF (l : List F) : Prop := (1 ≤ (l.getD 2 0).1 ∧ (l.getD 2 0).1 ≤ 16) ∧ 1 ≤ (l.getD 3 0).1 ∧ (1 ≤ (l.getD 4 0).1 ∧ (l.getD 4 0).1 ≤ 64) ∧ l.length = unc (l.getD 4 0).1 + 4 ∧ (∀ j, j < (9 + (l.getD 4 0).1) % 2 → l.getD (9 + (l.getD 4 0).1 + j) 0 = 0)
theorem okS_okF (l : List F) : okS l ↔ okF l ∧ sumL l = [0, 0, 0, 0] := by
  unfold okS okF
  constructor
  · intro h; exact ⟨⟨h.1, h.2.1, h.2.2.1, h.2.2.2.1, h.2.2.2.2.1⟩, h.2.2.2.2.2⟩
  · intro h; exact ⟨h.1.1, h.1.2.1, h.1.2.2.1, h.1.2.2.2.1, h.1.2.2.2.2, h.2⟩
theorem rw_mid {w : World} {b off : Nat} {l : List F} (h : Rw w b off l) (k m : Nat) (hk : k + m ≤ l.length) : Rw w b (off + k) ((l.drop k).take m) := fun i hi => by
  have hm : i < m := by rw [List.length_take] at hi; omega
  have q := h (k + i) (by omega)
  rw [show ((l.drop k).take m).getD i 0 = l.getD (k + i) 0 by simp only [List.getD_eq_getElem?_getD, List.getElem?_take, List.getElem?_drop, if_pos hm]]
  rw [Nat.add_assoc]
  exact q
end Go.Proofs.YtinmhgackihakaaDoor
namespace Go.Proofs.YtinmhgackihakaaDoor
open Go.RowKit
set_option linter.unusedVariables false
set_option linter.unusedSimpArgs false
set_option maxRecDepth 100000
theorem take_five (m : List F) (h : 5 ≤ m.length) : m.take 5 = [m.getD 0 0, m.getD 1 0, m.getD 2 0, m.getD 3 0, m.getD 4 0] := by
  match m, h with
  | a :: b :: c :: d :: e :: t, _ => rfl
theorem take_fill (m : List F) (k : Nat) : ∀ (r : Nat), k + r ≤ m.length → (∀ j, j < r → m.getD (k + j) 0 = 0) → (m.drop k).take r = List.replicate r 0 := fun r h hz => by
  refine list_same (by simp; omega) fun q hq => ?_
  rw [List.length_replicate] at hq
  simp only [List.getD_eq_getElem?_getD, List.getElem?_take, List.getElem?_drop, List.getElem?_replicate, if_pos hq, Option.getD_some]
  have := hz q hq
  rw [List.getD_eq_getElem?_getD] at this
  exact this
/-- A share's bytes ahead of its code. -/
def frontL (m : List F) (s : Nat) : List F := [m.getD 0 0, m.getD 1 0, m.getD 2 0, m.getD 3 0, m.getD 4 0] ++ (m.drop 5).take (s + 4)
theorem front_eq (m : List F) (s U : Nat) (hU : unc s = U) (hn : m.length = U + 4) (hz : ∀ j, j < (9 + s) % 2 → m.getD (9 + s + j) 0 = 0) : frontL m s ++ List.replicate ((9 + s) % 2) 0 = m.take U ∧ (m.take U).length = U ∧ (m.drop U).length = 4 ∧ m.take U ++ m.drop U = m ∧ (frontL m s).length = 9 + s := by
  have hU2 : U = 9 + s + (9 + s) % 2 := by rw [← hU]; unfold unc; omega
  refine ⟨?_, by rw [List.length_take]; omega, by rw [List.length_drop]; omega, List.take_append_drop U m, ?_⟩
  · rw [← take_fill m (9 + s) ((9 + s) % 2) (by omega) hz]
    unfold frontL
    rw [← take_five m (by omega), show 9 + s = 5 + (s + 4) by omega]
    rw [show m.take 5 ++ (m.drop 5).take (s + 4) = m.take (5 + (s + 4)) from (List.take_add ..).symm, ← List.take_add, hU2]
    congr 1
    omega
  · unfold frontL
    rw [List.length_append, List.length_take, List.length_drop]
    simp
    omega
theorem setN_parts (m : List F) (b0 b1 : Nat) (h0 : (m.getD 0 0).1 = b0) (h1 : (m.getD 1 0).1 = b1) : setN m = b0 * 256 + b1 := by unfold setN; rw [h0, h1]
theorem set_num (b0 b1 sn nd ix s : Nat) (h0 : b0 < 256) (h1 : b1 < 256) (hs : b0 * 256 + b1 = sn) (h2 : nd < 256) (h3 : ix < 256) (h4 : s < 256) : (sn : Int).tdiv 256 = (b0 : Int) ∧ (sn : Int).tmod 256 = (b1 : Int) ∧ (sn : Int) / 256 = (b0 : Int) ∧ (sn : Int) % 256 = (b1 : Int) ∧ IntKind.u8.wrap (b0 : Int) = (b0 : Int) ∧ IntKind.u8.wrap (b1 : Int) = (b1 : Int) ∧ IntKind.u8.wrap (nd : Int) = (nd : Int) ∧ IntKind.u8.wrap (ix : Int) = (ix : Int) ∧ IntKind.u8.wrap (s : Int) = (s : Int) := by
  refine ⟨?_, ?_, by omega, by omega, wraps_u8 _ (by omega) (by omega), wraps_u8 _ (by omega) (by omega), wraps_u8 _ (by omega) (by omega), wraps_u8 _ (by omega) (by omega), wraps_u8 _ (by omega) (by omega)⟩
  · rw [Int.tdiv_eq_ediv_of_nonneg (by omega)]; omega
  · rw [Int.tmod_eq_emod_of_nonneg (by omega)]; omega
end Go.Proofs.YtinmhgackihakaaDoor
