import Derived.Test.YtinmhgackihakaaDoorPart00
import Derived.Lib.FieldsP
import Derived.Lib.SpaceUEq
import Derived.Laws.RangeAny
import Derived.Test.YtinmhgackihakaaDoorPart01
import Derived.Test.YtinmhgackihakaaDoorPart02
import Derived.Laws.Externs
import Derived.Lib.Bytealg
import Derived.WalkKit
import Derived.Ground.NamesProg
import Derived.Laws.OwnMore
import Derived.Shelf.Lay
import Derived.Shelf.Strings.FieldsFuncGrows
import Derived.Deep.QuietTactic
import Derived.BigQuiet
namespace Go.Proofs.YtinmhgackihakaaDoor
open Go.Lib
set_option linter.unusedVariables false
set_option linter.unusedSimpArgs false
/-- Does it part words? -/
def gapN (r : Nat) : Bool := r == 32 || r == 9 || r == 10 || r == 13 || r == 45
def gapU (c : UInt8) : Bool := gapN c.toNat
theorem gap_high (r : Nat) (h : 128 ≤ r) : gapN r = false := by
  unfold gapN
  rw [show (r == 32) = false by simp; omega, show (r == 9) = false by simp; omega, show (r == 10) = false by simp; omega, show (r == 13) = false by simp; omega, show (r == 45) = false by simp; omega]
  rfl
/-- The words, byte by byte. -/
def wordsL : List UInt8 → List UInt8 → List (List UInt8)
  | cur, [] => if cur = [] then [] else [cur]
  | cur, c :: t => if gapU c then (if cur = [] then wordsL [] t else cur :: wordsL [] t) else wordsL (cur ++ [c]) t
theorem words_skip : ∀ (k : Nat) (cur l : List UInt8), k ≤ l.length → (∀ j, j < k → gapU (l.getD j 0) = false) → wordsL cur l = wordsL (cur ++ l.take k) (l.drop k)
  | 0, cur, l, _, _ => by simp
  | k + 1, cur, [], h, _ => by simp at h
  | k + 1, cur, b :: t, h, hz => by
    have h0 := hz 0 (by omega)
    simp only [List.getD_cons_zero] at h0
    simp only [wordsL, h0, Bool.false_eq_true, if_false, List.take_succ_cons, List.drop_succ_cons]
    rw [words_skip k (cur ++ [b]) t (by simp at h; omega) (fun j hj => by have := hz (j + 1) (by omega); simpa using this)]
    simp
/-- A rune that is no gap has no gap in its bytes. -/
theorem rune_bytes (s : ByteArray) (pos : Nat) (hp : pos < s.size) :
    (gapN (Utf8.decode s pos).1 = true → gapU (s.data.toList.getD pos 0) = true ∧ (Utf8.decode s pos).2 = 1) ∧ (gapN (Utf8.decode s pos).1 = false → ∀ j, j < (Utf8.decode s pos).2 → gapU (s.data.toList.getD (pos + j) 0) = false) := by
  have hg : s.data.toList.getD pos 0 = s[pos]'hp := by
    rw [List.getD_eq_getElem?_getD, List.getElem?_eq_getElem (by rw [← size_eq]; exact hp)]
    rfl
  by_cases h : (s[pos]'hp).toNat < 128
  · have e := decode_ascii s pos hp h
    rw [e]
    unfold gapU
    rw [hg]
    refine ⟨fun q => ⟨q, rfl⟩, fun q j hj => ?_⟩
    obtain rfl : j = 0 := by simp only at hj; omega
    rw [Nat.add_zero, hg]
    exact q
  · have hh := decode_high s pos hp (by omega)
    have hf := gap_high _ hh.1
    refine ⟨fun q => (by rw [hf] at q; cases q), fun _ j hj => ?_⟩
    have hc := decodeN_conts (s.data.toList.length - pos) (s.data.toList.getD pos 0).toNat (s.data.toList.getD (pos + 1) 0).toNat (s.data.toList.getD (pos + 2) 0).toNat (s.data.toList.getD (pos + 3) 0).toNat
    rw [← decode_N] at hc
    obtain ⟨c2, c3, c4, c5⟩ := hc
    unfold gapU
    apply gap_high
    match j, hj with
    | 0, _ => rw [Nat.add_zero, hg]; omega
    | 1, hj => have := (c2 (by omega)).1; omega
    | 2, hj => have := (c3 (by omega)).1; omega
    | 3, hj => have := (c4 (by omega)).1; omega
    | j + 4, hj => omega
theorem spans_words (s : ByteArray) : ∀ (f pos : Nat) (st : Option Nat) (acc : List (Nat × Nat)), s.size ≤ pos + f → pos ≤ s.size → (∀ a, st = some a → a < pos) →
    acc.map (fun p => pieceU s.data.toList p.1 p.2) ++ wordsL (openPiece s.data.toList st pos) (s.data.toList.drop pos) = (closeSpans s (spansFromP gapN s f pos st acc)).map (fun p => pieceU s.data.toList p.1 p.2) := by
  intro f
  induction f with
  | zero =>
    intro pos st acc h hp hst
    obtain rfl : pos = s.size := by omega
    have hd : s.data.toList.drop s.size = [] := List.drop_eq_nil_of_le (by rw [← size_eq]; exact Nat.le_refl _)
    rw [hd]
    cases st with
    | none => simp [spansFromP, closeSpans, openPiece, wordsL]
    | some a =>
      have := pieceU_ne s.data.toList a s.size (hst a rfl) (by rw [← size_eq]; exact Nat.le_refl _)
      simp [spansFromP, closeSpans, openPiece, wordsL, this]
  | succ f ih =>
    intro pos st acc h hp hst
    by_cases hlt : pos < s.size
    · have hw := width_pos s pos
      have hwn : pos + (Utf8.decode s pos).2 ≤ s.size := by
        have := decodeN_le_n' (s.size - pos) (s.get! pos).toNat (s.get! (pos + 1)).toNat (s.get! (pos + 2)).toNat (s.get! (pos + 3)).toNat (by omega)
        rw [← decode_at] at this
        omega
      have hll : pos < s.data.toList.length := by rw [← size_eq]; exact hlt
      obtain ⟨rb1, rb2⟩ := rune_bytes s pos hlt
      have hcons : s.data.toList.drop pos = s.data.toList.getD pos 0 :: s.data.toList.drop (pos + 1) := by
        rw [List.drop_eq_getElem_cons hll, List.getD_eq_getElem?_getD, List.getElem?_eq_getElem hll]
        rfl
      simp only [spansFromP, if_pos hlt]
      cases hsp : gapN (Utf8.decode s pos).1 with
      | true =>
        obtain ⟨g1, g2⟩ := rb1 hsp
        simp only [if_true, g2]
        rw [hcons]
        simp only [wordsL, g1, if_true]
        cases st with
        | none =>
          have i := ih (pos + 1) none acc (by omega) (by omega) (fun a h => by cases h)
          simpa [openPiece] using i
        | some a =>
          have hpn := pieceU_ne s.data.toList a pos (hst a rfl) (by rw [← size_eq]; omega)
          have i := ih (pos + 1) none (acc ++ [(a, pos)]) (by omega) (by omega) (fun a h => by cases h)
          simpa [openPiece, hpn] using i
      | false =>
        simp only [Bool.false_eq_true, if_false]
        have hsk := fun cur => words_skip (Utf8.decode s pos).2 cur (s.data.toList.drop pos) (by rw [List.length_drop, ← size_eq]; omega) (fun j hj => by
          rw [getD_dropU]; exact rb2 hsp j hj)
        cases st with
        | none =>
          have i := ih (pos + (Utf8.decode s pos).2) (some pos) acc (by omega) hwn (fun a h => by cases h; omega)
          have e : ([] : List UInt8) ++ (s.data.toList.drop pos).take (Utf8.decode s pos).2 = pieceU s.data.toList pos (pos + (Utf8.decode s pos).2) := by
            unfold pieceU
            rw [List.nil_append, Nat.add_sub_cancel_left]
          simp only [openPiece] at i ⊢
          rw [hsk, e, List.drop_drop]
          exact i
        | some a =>
          have i := ih (pos + (Utf8.decode s pos).2) (some a) acc (by omega) hwn (fun b h => by cases h; have := hst a rfl; omega)
          simp only [openPiece] at i ⊢
          rw [hsk, pieceU_grow _ _ _ _ (Nat.le_of_lt (hst a rfl)), List.drop_drop]
          exact i
    · obtain rfl : pos = s.size := by omega
      have hd : s.data.toList.drop s.size = [] := List.drop_eq_nil_of_le (by rw [← size_eq]; exact Nat.le_refl _)
      rw [hd, spansFromP_end gapN s _ _ _ _ hlt]
      cases st with
      | none => simp [closeSpans, openPiece, wordsL]
      | some a =>
        have := pieceU_ne s.data.toList a s.size (hst a rfl) (by rw [← size_eq]; exact Nat.le_refl _)
        simp [closeSpans, openPiece, wordsL, this]
/-- strings.FieldsFunc(s, isGap) gives the words. -/
theorem fields_words (s : ByteArray) : (goFieldsP gapN s).map (·.data.toList) = wordsL [] s.data.toList := by
  have h := spans_words s s.size 0 none [] (by omega) (Nat.zero_le _) (fun a h => by cases h)
  simp only [List.map_nil, List.nil_append, openPiece, List.drop_zero] at h
  rw [h]
  unfold goFieldsP spansOfP
  rw [List.map_map]
  apply List.map_congr_left
  intro p _
  simp only [Function.comp, pieceU]
  first | (rw [ByteArray.data_extract, Array.toList_extract]; done) | simp
/-- At a gap, and at a word. -/
theorem words_gap (l : List UInt8) (i : Nat) (hi : i < l.length) (h : gapU (l.getD i 0) = true) : wordsL [] (l.drop i) = wordsL [] (l.drop (i + 1)) := by
  rw [show l.drop i = l.getD i 0 :: l.drop (i + 1) by
    rw [List.drop_eq_getElem_cons hi, List.getD_eq_getElem?_getD, List.getElem?_eq_getElem hi]; rfl]
  simp only [wordsL, h, if_true]
theorem words_word (l : List UInt8) (i e : Nat) (hi : i < e) (he : e ≤ l.length) (h : ∀ j, i ≤ j → j < e → gapU (l.getD j 0) = false) (hg : e < l.length → gapU (l.getD e 0) = true) : wordsL [] (l.drop i) = pieceU l i e :: wordsL [] (l.drop e) := by
  rw [words_skip (e - i) [] (l.drop i) (by rw [List.length_drop]; omega) (fun j hj => by rw [getD_dropU]; exact h _ (by omega) (by omega))]
  rw [List.nil_append, List.drop_drop, show i + (e - i) = e by omega]
  have hne := pieceU_ne l i e hi he
  show wordsL (pieceU l i e) (l.drop e) = _
  by_cases hlt : e < l.length
  · have hc : l.drop e = l.getD e 0 :: l.drop (e + 1) := by
      rw [List.drop_eq_getElem_cons hlt, List.getD_eq_getElem?_getD, List.getElem?_eq_getElem hlt]; rfl
    rw [hc]
    simp only [wordsL, hg hlt, if_true, if_neg hne]
  · rw [show l.drop e = [] from List.drop_eq_nil_of_le (by omega)]
    simp only [wordsL, if_true, if_neg hne]
/-- The letters' places. -/
def conL : List Nat := [98, 100, 102, 103, 104, 106, 107, 108, 109, 110, 112, 114, 115, 116, 118, 122]
def vowL : List Nat := [97, 105, 111, 117]
def smallN (c : Nat) : Nat := if 65 ≤ c ∧ c ≤ 90 then c + 32 else c
/-- The place of a letter in a list; its length: none. -/
def idxN (L : List Nat) (c : Nat) : Nat := L.idxOf c
def letL (k : Nat) : List Nat := if k % 2 = 1 then vowL else conL
/-- A word's number, as far as k letters of it; none where a letter is none. -/
def wnum (w : List UInt8) : Nat → Option Nat
  | 0 => some 0
  | k + 1 => match wnum w k with
    | none => none
    | some v => if idxN (letL k) (smallN (w.getD k 0).toNat) < (letL k).length then some (v * (letL k).length + idxN (letL k) (smallN (w.getD k 0).toNat)) else none
def wordN (w : List UInt8) : Nat := (wnum w 5).getD 0
theorem letL_len (k : Nat) : (letL k).length = if k % 2 = 1 then 4 else 16 := by unfold letL; split <;> rfl
theorem wnum_lt (w : List UInt8) : (∀ v, wnum w 1 = some v → v < 16) ∧ (∀ v, wnum w 2 = some v → v < 64) ∧ (∀ v, wnum w 3 = some v → v < 1024) ∧ (∀ v, wnum w 4 = some v → v < 4096) ∧ (∀ v, wnum w 5 = some v → v < 65536) := by
  have step : ∀ (k B m : Nat), (letL k).length = m → (∀ v, wnum w k = some v → v < B) → ∀ v, wnum w (k + 1) = some v → v < B * m := by
    intro k B m hm hk v hv
    unfold wnum at hv
    rw [hm] at hv
    cases hw : wnum w k with
    | none => rw [hw] at hv; cases hv
    | some u =>
      rw [hw] at hv
      simp only at hv
      split at hv
      · injection hv with hv
        have := hk u hw
        have h1 : (u + 1) * m ≤ B * m := Nat.mul_le_mul_right m this
        rw [Nat.add_mul, Nat.one_mul] at h1
        omega
      · cases hv
  have h0 : ∀ v, wnum w 0 = some v → v < 1 := fun v hv => by unfold wnum at hv; injection hv with hv; omega
  have h1 := step 0 1 16 rfl h0
  have h2 := step 1 16 4 rfl h1
  have h3 := step 2 64 16 rfl h2
  have h4 := step 3 1024 4 rfl h3
  have h5 := step 4 4096 16 rfl h4
  exact ⟨h1, h2, h3, h4, h5⟩
theorem wnum_lt5 (w : List UInt8) (k v : Nat) (hk : k ≤ 5) (h : wnum w k = some v) : v < 65536 := by
  obtain ⟨a1, a2, a3, a4, a5⟩ := wnum_lt w
  match k, hk with
  | 0, _ => unfold wnum at h; injection h with h; omega
  | 1, _ => have := a1 v h; omega
  | 2, _ => have := a2 v h; omega
  | 3, _ => have := a3 v h; omega
  | 4, _ => have := a4 v h; omega
  | 5, _ => exact a5 v h
theorem wordN_lt (w : List UInt8) : wordN w < 65536 := by
  unfold wordN
  cases h : wnum w 5 with
  | none => simp
  | some v => exact wnum_lt5 w 5 v (Nat.le_refl _) h
/-- Two bytes. -/
def twoF (v : Nat) : List F := [⟨v / 256 % 256, Nat.mod_lt _ (by decide)⟩, ⟨v % 256, Nat.mod_lt _ (by decide)⟩]
/-- What some words say. -/
def saidW : List (List UInt8) → List F
  | [] => []
  | w :: t => twoF (wordN w) ++ saidW t
theorem saidW_append : ∀ a b, saidW (a ++ b) = saidW a ++ saidW b
  | [], b => rfl
  | w :: a, b => by show twoF _ ++ saidW (a ++ b) = (twoF _ ++ saidW a) ++ saidW b; rw [saidW_append a b, List.append_assoc]
theorem saidW_length : ∀ a, (saidW a).length = 2 * a.length
  | [] => rfl
  | w :: a => by show (twoF _ ++ saidW a).length = _; rw [List.length_append, saidW_length a]; simp [twoF]; omega
theorem words_few : ∀ (l cur : List UInt8), (wordsL cur l).length ≤ l.length + (if cur = [] then 0 else 1)
  | [], cur => by unfold wordsL; split <;> simp_all
  | c :: t, cur => by
    unfold wordsL
    have h0 := words_few t []
    have h1 := words_few t (cur ++ [c])
    have hne : ¬ cur ++ [c] = [] := by simp
    rw [if_pos rfl] at h0
    rw [if_neg hne] at h1
    simp only [List.length_cons]
    split
    · split
      · omega
      · simp only [List.length_cons]; omega
    · split <;> omega
end Go.Proofs.YtinmhgackihakaaDoor
namespace Go.Proofs.YtinmhgackihakaaDoor
open Go.RowKit
set_option maxRecDepth 100000
set_option linter.unusedVariables false
set_option linter.unusedSimpArgs false
/-- A letter's place as the library says it. -/
def plc (L : List Nat) (c : Nat) : Int := if idxN L c < L.length then (idxN L c : Nat) else -1
def conB : ByteArray := ⟨#[98, 100, 102, 103, 104, 106, 107, 108, 109, 110, 112, 114, 115, 116, 118, 122]⟩
def vowB : ByteArray := ⟨#[97, 105, 111, 117]⟩
theorem plc_con : ∀ c : Fin 256, Lib.indexByte conB.data.toList ((c.1 : Int).toNat.toUInt8) = plc conL c.1 := by decide +kernel
theorem plc_vow : ∀ c : Fin 256, Lib.indexByte vowB.data.toList ((c.1 : Int).toNat.toUInt8) = plc vowL c.1 := by decide +kernel
theorem index_any (s : ByteArray) (c : Int) (w : World) : Calls Tryd.prog 91 #[.string s, .int .u8 c] w fun e w' => e = .returned (.int .i64 (Lib.indexByte s.data.toList c.toNat.toUInt8)) ∧ w' = w := by
  go_enter Tryd.func91, Tryd.ntmps91
  go_wp2
  rw [run_callFunc_extern (e := Extern.BytealgIndexByte.indexByte) (fn := Tryd.f98) (by kernel_rfl) (by kernel_rfl) (by kernel_rfl) (by kernel_rfl) (by kernel_rfl), Lib.run_indexByteString]
  simp only [Result.andThen]
  rw [Oper.upon_value]
  go_wp2
  go_ret
  exact ⟨rfl, rfl⟩
theorem small_ok (c : Nat) (hc : c < 256) (w : World) : Calls Tryd.prog 92 #[.int .u8 (c : Nat)] w fun e w' => e = .returned (.int .u8 (smallN c : Nat)) ∧ w' = w := by
  by_cases h1 : 65 ≤ c
  · by_cases h2 : c ≤ 90
    · have e : smallN c = c + 32 := if_pos ⟨h1, h2⟩
      have hw : IntKind.u8.wrap ((c : Int) + 32) = ((c + 32 : Nat) : Int) := wraps_u8 _ (by omega) (by omega)
      have g1 : (65 : Int) ≤ (c : Int) := by omega
      have g2 : (c : Int) ≤ 90 := by omega
      rw [e]
      clear e h1 h2 hc
      go_enter Tryd.func92, Tryd.ntmps92
      go_wp2
      go_ret
      exact ⟨rfl, rfl⟩
    · have e : smallN c = c := if_neg (by omega)
      have g1 : (65 : Int) ≤ (c : Int) := by omega
      have g2 : ¬ (c : Int) ≤ 90 := by omega
      rw [e]
      clear e h1 h2 hc
      go_enter Tryd.func92, Tryd.ntmps92
      go_wp2
      go_ret
      exact ⟨rfl, rfl⟩
  · have e : smallN c = c := if_neg (by omega)
    have g1 : ¬ (65 : Int) ≤ (c : Int) := by omega
    rw [e]
    clear e h1 hc
    go_enter Tryd.func92, Tryd.ntmps92
    go_wp2
    go_ret
    exact ⟨rfl, rfl⟩
theorem small_lt (c : Nat) (hc : c < 256) : smallN c < 256 := by unfold smallN; split <;> omega
theorem two_lt (v : Nat) (h : v < 65536) : (v : Int) / 256 % 256 = ((v / 256 % 256 : Nat) : Int) ∧ (v : Int) % 256 = ((v % 256 : Nat) : Int) := by omega
theorem twoBytes_ok (v : Nat) (hv : v < 65536) (w : World) : Calls Tryd.prog 39 #[.int .u16 (v : Nat)] w fun e w' => Hid (e = .returned (.slice (some ⟨w.heap.size, 0, none⟩) 2 2) ∧ Below w.heap.size w w' ∧ w'.heap.size = w.heap.size + 1 ∧ ∀ j u, (fc (twoF v))[j]? = some u → w'.cell? ((⟨w.heap.size, 0, none⟩ : Addr).add j) = some u) := by
  have e1 : (v : Int) / 256 = ((v / 256 % 256 : Nat) : Int) := by omega
  have e2 : (v : Int) % 256 = ((v % 256 : Nat) : Int) := by omega
  have HE : Hid ((v : Int) / 256 = ((v / 256 % 256 : Nat) : Int) ∧ (v : Int) % 256 = ((v % 256 : Nat) : Int)) := ⟨e1, e2⟩
  clear e1 e2
  go_enter Tryd.func39, Tryd.ntmps39
  go_wp2
  go_ret
  rw [HE.out.1, HE.out.2]
  refine ⟨rfl, (Below.refl _ _).alloc (Nat.le_refl _) _, by simp, fun j u hu => ?_⟩
  exact World.news_of_block (w := w.alloc (.cells (fc (twoF v)).toArray 5)) (heap_alloc_new w _) j u (by simpa using hu)
theorem gap_ok (x : Nat) (w : World) : Calls Tryd.prog 77 #[.int .i32 (x : Nat)] w fun e w' => e = .returned (.bool (gapN x)) ∧ w' = w := by
  by_cases h1 : x = 32
  · subst h1
    go_enter Tryd.func77, Tryd.ntmps77
    go_wp2
    go_ret
    exact ⟨rfl, rfl⟩
  · by_cases h2 : x = 9
    · subst h2
      go_enter Tryd.func77, Tryd.ntmps77
      go_wp2
      go_ret
      exact ⟨rfl, rfl⟩
    · by_cases h3 : x = 10
      · subst h3
        go_enter Tryd.func77, Tryd.ntmps77
        go_wp2
        go_ret
        exact ⟨rfl, rfl⟩
      · by_cases h4 : x = 13
        · subst h4
          go_enter Tryd.func77, Tryd.ntmps77
          go_wp2
          go_ret
          exact ⟨rfl, rfl⟩
        · by_cases h5 : x = 45
          · subst h5
            go_enter Tryd.func77, Tryd.ntmps77
            go_wp2
            go_ret
            exact ⟨rfl, rfl⟩
          · have e : gapN x = false := by simp [gapN, h1, h2, h3, h4, h5]
            have g1 : ¬ (x : Int) = 32 := by omega
            have g2 : ¬ (x : Int) = 9 := by omega
            have g3 : ¬ (x : Int) = 10 := by omega
            have g4 : ¬ (x : Int) = 13 := by omega
            have g5 : ¬ (x : Int) = 45 := by omega
            rw [e]
            clear e h1 h2 h3 h4 h5
            go_enter Tryd.func77, Tryd.ntmps77
            go_wp2
            go_ret
            exact ⟨rfl, rfl⟩
theorem getU (s : ByteArray) (k : Nat) (h : k < s.size) : (s[k]'h).toNat = (s.data.toList.getD k 0).toNat := by
  rw [List.getD_eq_getElem?_getD, List.getElem?_eq_getElem (by rw [← Lib.size_eq]; exact h)]
  rfl
theorem index_str (s : ByteArray) (k : Nat) (h : k < s.size) (u : World) : (Instr.index 9 (.string s) (.int .i64 (k : Nat))).run Tryd.prog u = .ok (.int .u8 ((s.data.toList.getD k 0).toNat : Nat)) u := by
  rw [run_index_string u 9 s .i64 (k : Nat) (by kernel_rfl), dif_pos ⟨by omega, by omega⟩, ← getU s k h]
  rfl
theorem idx_con (c : Nat) (hc : c < 256) (w : World) : Calls Tryd.prog 91 #[.string conB, .int .u8 (c : Nat)] w fun e w' => e = .returned (.int .i64 (plc conL c)) ∧ w' = w := by
  have q := index_any conB (c : Nat) w
  rw [plc_con ⟨c, hc⟩] at q
  exact q
theorem idx_vow (c : Nat) (hc : c < 256) (w : World) : Calls Tryd.prog 91 #[.string vowB, .int .u8 (c : Nat)] w fun e w' => e = .returned (.int .i64 (plc vowL c)) ∧ w' = w := by
  have q := index_any vowB (c : Nat) w
  rw [plc_vow ⟨c, hc⟩] at q
  exact q
theorem wnum_step (w : List UInt8) (k v : Nat) (h : wnum w k = some v) : wnum w (k + 1) = if idxN (letL k) (smallN (w.getD k 0).toNat) < (letL k).length then some (v * (letL k).length + idxN (letL k) (smallN (w.getD k 0).toNat)) else none := by
  show (match wnum w k with | none => none | some v => _) = _
  rw [h]
theorem wnum_none (w : List UInt8) : ∀ (j k : Nat), wnum w k = none → wnum w (k + j) = none
  | 0, k, h => h
  | j + 1, k, h => by
    have q := wnum_none w j k h
    show (match wnum w (k + j) with | none => none | some v => _) = _
    rw [q]
set_option maxHeartbeats 1600000 in
set_option maxRecDepth 100000 in
theorem readWord_ok (s : ByteArray) (hs : s.size = 5) (w : World) : Calls Tryd.prog 78 #[.string s] w fun e w' => e = .returned (.int .u16 (wordN s.data.toList : Nat)) ∧ w' = w := by
  obtain ⟨l, HL⟩ : ∃ l, Hid (s.data.toList = l) := ⟨_, rfl⟩
  have H50c : Hid (∀ c u, c < 256 → Calls Tryd.prog 91 #[.string conB, .int .u8 (c : Nat)] u fun e w' => e = .returned (.int .i64 (plc conL c)) ∧ w' = u) := fun c u hc => idx_con c hc u
  have H50v : Hid (∀ c u, c < 256 → Calls Tryd.prog 91 #[.string vowB, .int .u8 (c : Nat)] u fun e w' => e = .returned (.int .i64 (plc vowL c)) ∧ w' = u) := fun c u hc => idx_vow c hc u
  have H51 : Hid (∀ c u, c < 256 → Calls Tryd.prog 92 #[.int .u8 (c : Nat)] u fun e w' => e = .returned (.int .u8 (smallN c : Nat)) ∧ w' = u) := fun c u hc => small_ok c hc u
  have HIX : Hid (∀ (k : Nat) u, k < 5 → (Instr.index 9 (.string s) (.int .i64 (k : Nat))).run Tryd.prog u = .ok (.int .u8 ((l.getD k 0).toNat : Nat)) u) := fun k u hk => by rw [← HL.out]; exact index_str s k (by omega) u
  rw [HL.out]
  clear hs HL
  go_enter Tryd.func78, Tryd.ntmps78
  go_wp2
  go_loopw [3, 7] (fun vn vi wr => ∃ k v : Nat, k ≤ 5 ∧ vn = .int .i64 (v : Nat) ∧ vi = .int .i64 (k : Nat) ∧ Hid (wnum l k = some v ∧ wr = w)) (fun _ vi _ => 5 - (intOf vi).toNat)
  case atStart => exact ⟨0, 0, by omega, rfl, rfl, rfl, rfl⟩
  case round =>
    obtain ⟨k, v, hk, rfl, rfl, HI⟩ := hrel
    obtain rfl := HI.out.2.symm
    by_cases hlt : k < 5
    · have HK : Hid (k < 5) := hlt
      have g1 : (k : Int) < 5 := by omega
      have g0 : (0 : Int) ≤ (k : Int) := by omega
      have hix := fun u => HIX.out k u hlt
      obtain ⟨c, HC⟩ : ∃ c, Hid ((l.getD k 0).toNat = c) := ⟨_, rfl⟩
      have hc : c < 256 := by rw [← HC.out]; exact UInt8.toNat_lt _
      rw [HC.out] at hix
      obtain ⟨z, HZ⟩ : ∃ z, Hid (smallN c = z) := ⟨_, rfl⟩
      have hz : z < 256 := by rw [← HZ.out]; exact small_lt c hc
      have HCC : Hid (c < 256 ∧ z < 256) := ⟨hc, hz⟩
      have HV : Hid (v < 65536) := wnum_lt5 l k v (by omega) HI.out.1
      have HST : Hid (wnum l (k + 1) = if idxN (letL k) z < (letL k).length then some (v * (letL k).length + idxN (letL k) z) else none) := by
        have q := wnum_step l k v HI.out.1
        rw [HC.out, HZ.out] at q
        exact q
      have wn : IntKind.i64.wrap ((k : Int) + 1) = ((k + 1 : Nat) : Int) := by rw [IntKind.wrap_i64]; omega
      have hkk : k % 2 = 0 ∨ k % 2 = 1 := by omega
      clear hc hz hlt hk
      rcases hkk with hm | hm
      · have HM : Hid (letL k = conL ∧ (conL).length = 16) := ⟨by unfold letL; rw [if_neg (by omega)], rfl⟩
        have r0 : (k : Int).tmod 2 = 0 := by rw [Int.tmod_eq_emod_of_nonneg (by omega)]; omega
        rw [HM.out.1, HM.out.2] at HST
        obtain ⟨p, HP⟩ : ∃ p, Hid (idxN conL z = p) := ⟨_, rfl⟩
        rw [HP.out] at HST
        clear hm
        by_cases hp : p < 16
        · have HPL : Hid (plc conL z = (p : Int)) := by show _ = _; unfold plc; rw [HP.out, if_pos (by rw [HM.out.2]; exact hp)]
          rw [if_pos hp] at HST
          obtain ⟨y, HY⟩ : ∃ y, Hid (v * 16 + p = y) := ⟨_, rfl⟩
          rw [HY.out] at HST
          have hv := HV.out
          have hy := HY.out
          have m1 : IntKind.i64.wrap ((v : Int) * 16) = ((v * 16 : Nat) : Int) := by rw [IntKind.wrap_i64]; omega
          obtain ⟨vm, HVM⟩ : ∃ x, Hid (v * 16 = x) := ⟨_, rfl⟩
          have m2 : IntKind.i64.wrap ((vm : Int) + (p : Int)) = (y : Int) := by have := HVM.out; rw [IntKind.wrap_i64]; omega
          rw [HVM.out] at m1
          have g3 : ¬ (p : Int) < 0 := by omega
          have g4 : (0 : Int) ≤ (p : Int) := by omega
          clear hy hv hp
          go_upto_region 9 with (first
            | (go_at_call 92; refine (H51.out c _ HCC.out.1).mono ?_; rintro e3 w3 ⟨rfl, hw⟩; obtain rfl := hw.symm; clear hw; rw [HZ.out])
            | (go_at_call 91; refine (H50c.out z _ HCC.out.2).mono ?_; rintro e3 w3 ⟨rfl, hw⟩; obtain rfl := hw.symm; clear hw; rw [HPL.out]))
          go_wp2
          have e0 := HK.out
          refine ⟨⟨k + 1, y, by omega, by first | rfl | (simp; done), by first | rfl | (simp; done), HST.out, by trivial⟩, ?_⟩
          simp [intOf]
          omega
        · have HPL : Hid (plc conL z = -1) := by show _ = _; unfold plc; rw [HP.out, if_neg (by rw [HM.out.2]; exact hp)]
          rw [if_neg hp] at HST
          have HW : Hid (wordN l = 0) := by
            have q := wnum_none l (5 - (k + 1)) (k + 1) HST.out
            rw [show k + 1 + (5 - (k + 1)) = 5 by have := HK.out; omega] at q
            show wordN l = 0
            unfold wordN
            rw [q]
            rfl
          clear hp
          go_upto_region 9 with (first
            | (go_at_call 92; refine (H51.out c _ HCC.out.1).mono ?_; rintro e3 w3 ⟨rfl, hw⟩; obtain rfl := hw.symm; clear hw; rw [HZ.out])
            | (go_at_call 91; refine (H50c.out z _ HCC.out.2).mono ?_; rintro e3 w3 ⟨rfl, hw⟩; obtain rfl := hw.symm; clear hw; rw [HPL.out]))
          go_wp2
          go_ret
          exact ⟨by rw [HW.out]; rfl, rfl⟩
      · have HM : Hid (letL k = vowL ∧ (vowL).length = 4) := ⟨by unfold letL; rw [if_pos hm], rfl⟩
        have r0 : (k : Int).tmod 2 = 1 := by rw [Int.tmod_eq_emod_of_nonneg (by omega)]; omega
        rw [HM.out.1, HM.out.2] at HST
        obtain ⟨p, HP⟩ : ∃ p, Hid (idxN vowL z = p) := ⟨_, rfl⟩
        rw [HP.out] at HST
        clear hm
        by_cases hp : p < 4
        · have HPL : Hid (plc vowL z = (p : Int)) := by show _ = _; unfold plc; rw [HP.out, if_pos (by rw [HM.out.2]; exact hp)]
          rw [if_pos hp] at HST
          obtain ⟨y, HY⟩ : ∃ y, Hid (v * 4 + p = y) := ⟨_, rfl⟩
          rw [HY.out] at HST
          have hv := HV.out
          have hy := HY.out
          have m1 : IntKind.i64.wrap ((v : Int) * 4) = ((v * 4 : Nat) : Int) := by rw [IntKind.wrap_i64]; omega
          obtain ⟨vm, HVM⟩ : ∃ x, Hid (v * 4 = x) := ⟨_, rfl⟩
          have m2 : IntKind.i64.wrap ((vm : Int) + (p : Int)) = (y : Int) := by have := HVM.out; rw [IntKind.wrap_i64]; omega
          rw [HVM.out] at m1
          have g3 : ¬ (p : Int) < 0 := by omega
          have g4 : (0 : Int) ≤ (p : Int) := by omega
          clear hy hv hp
          go_upto_region 9 with (first
            | (go_at_call 92; refine (H51.out c _ HCC.out.1).mono ?_; rintro e3 w3 ⟨rfl, hw⟩; obtain rfl := hw.symm; clear hw; rw [HZ.out])
            | (go_at_call 91; refine (H50v.out z _ HCC.out.2).mono ?_; rintro e3 w3 ⟨rfl, hw⟩; obtain rfl := hw.symm; clear hw; rw [HPL.out]))
          go_wp2
          have e0 := HK.out
          refine ⟨⟨k + 1, y, by omega, by first | rfl | (simp; done), by first | rfl | (simp; done), HST.out, by trivial⟩, ?_⟩
          simp [intOf]
          omega
        · have HPL : Hid (plc vowL z = -1) := by show _ = _; unfold plc; rw [HP.out, if_neg (by rw [HM.out.2]; exact hp)]
          rw [if_neg hp] at HST
          have HW : Hid (wordN l = 0) := by
            have q := wnum_none l (5 - (k + 1)) (k + 1) HST.out
            rw [show k + 1 + (5 - (k + 1)) = 5 by have := HK.out; omega] at q
            show wordN l = 0
            unfold wordN
            rw [q]
            rfl
          clear hp
          go_upto_region 9 with (first
            | (go_at_call 92; refine (H51.out c _ HCC.out.1).mono ?_; rintro e3 w3 ⟨rfl, hw⟩; obtain rfl := hw.symm; clear hw; rw [HZ.out])
            | (go_at_call 91; refine (H50v.out z _ HCC.out.2).mono ?_; rintro e3 w3 ⟨rfl, hw⟩; obtain rfl := hw.symm; clear hw; rw [HPL.out]))
          go_wp2
          go_ret
          exact ⟨by rw [HW.out]; rfl, rfl⟩
    · obtain rfl : k = 5 := by omega
      have HW : Hid (wordN l = v ∧ v < 65536) := ⟨by unfold wordN; rw [HI.out.1]; rfl, wnum_lt5 l 5 v (Nat.le_refl _) HI.out.1⟩
      have hv := HW.out.2
      have e : IntKind.u16.wrap (v : Int) = (v : Int) := wraps_u16' _ (by omega) (by omega)
      go_wp2
      go_ret
      exact ⟨by rw [HW.out.1]; rfl, rfl⟩
end Go.Proofs.YtinmhgackihakaaDoor
namespace Go.Proofs.YtinmhgackihakaaDoor
open Go.RowKit
set_option maxRecDepth 100000
set_option linter.unusedVariables false
set_option linter.unusedSimpArgs false
shelf_lay Lays.n229 Nm 229 at Tryd as Tryd.lays229
theorem fields_ok (s : ByteArray) (w : World) (hs : s.size ≤ 4294967296) : Calls Tryd.prog 76 #[.string s, .func (.func 77) #[] #[]] w fun e w' => Hid (∃ A, e = .returned (.slice (some ⟨A, 0, none⟩) (Lib.goFieldsP gapN s).length (Lib.goFieldsP gapN s).length) ∧ w.heap.size ≤ A ∧ (∀ k x, (Lib.goFieldsP gapN s)[k]? = some x → w'.cell? ⟨A, k, none⟩ = some (.string x)) ∧ Below w.heap.size w w' ∧ A < w'.heap.size) := by
  have q := Any.strings_FieldsFunc_grows Tryd.lays229 77 #[] (fun args u => by kernel_rfl) gapN s w hs (fun W x _ _ => (gap_ok x W).mono (by rintro e w' ⟨rfl, hw⟩; exact ⟨rfl, by rw [hw]; exact Below.refl _ _⟩)) (by kernel_rfl) (by kernel_rfl)
  refine Calls.mono (P := Tryd.prog) (f := 76) q ?_
  rintro e w' ⟨A, rfl, hA, ho, hb⟩
  refine ⟨A, rfl, hA, fun k x hx => ?_, hb, (ho.lt A rfl).2⟩
  have hl := (List.getElem?_eq_some_iff.1 hx).1
  rw [ho.cellAt k (by omega), List.getElem?_map, hx]
  rfl
theorem own_mono {w : World} {base base' : Nat} {e : TypeId} {size : Nat} {v : Value} {n : Nat} {xs : List Value} (h : w.ownsRow base e size v n xs) (hb : base' ≤ base) : w.ownsRow base' e size v n xs := by
  refine ⟨h.1, ?_⟩
  rcases h.2 with q | ⟨g, cap, cur, hv, hg, rest⟩
  · exact .inl q
  · exact .inr ⟨g, cap, cur, hv, by omega, rest⟩
/-- Are all words of five letters? -/
def all5 (ws : List (List UInt8)) : Prop := ∀ w, w ∈ ws → w.length = 5
def txL (s : ByteArray) : List (List UInt8) := wordsL [] s.data.toList
def ReadW (s : ByteArray) (e : Ending) (w w' : World) : Prop :=
  (1024 < s.size ∧ e = .returned (.tuple #[.slice none 0 0, .int .i64 4]) ∨ s.size ≤ 1024 ∧ (¬ all5 (txL s) ∧ e = .returned (.tuple #[.slice none 0 0, .int .i64 112]) ∨ all5 (txL s) ∧ ∃ v, e = .returned (.tuple #[v, .int .i64 0]) ∧ w'.ownsRow w.heap.size 5 1 v (saidW (txL s)).length (fc (saidW (txL s))))) ∧ Below w.heap.size w w'
set_option maxHeartbeats 1600000 in
set_option maxRecDepth 100000 in
theorem readWords_ok (s : ByteArray) (w : World) : Calls Tryd.prog 63 #[.string s] w fun e w' => ReadW s e w w' := by
  obtain ⟨M, HMM⟩ : ∃ M, Hid (w.heap.size = M) := ⟨_, rfl⟩
  by_cases hbig : 1024 < s.size
  · have g1 : (1024 : Int) < (s.size : Int) := by omega
    have HQ : Hid (ReadW s (.returned (.tuple #[.slice none 0 0, .int .i64 4])) w w) := ⟨Or.inl ⟨hbig, rfl⟩, Below.refl _ _⟩
    clear hbig
    go_enter Tryd.func63, Tryd.ntmps63
    go_wp2
    go_ret2
    exact HQ.out
  · have g1 : ¬ (1024 : Int) < (s.size : Int) := by omega
    have HS : Hid (s.size ≤ 1024) := by show s.size ≤ 1024; omega
    obtain ⟨fs, HF⟩ : ∃ fs, Hid (Lib.goFieldsP gapN s = fs) := ⟨_, rfl⟩
    have HW : Hid (fs.map (·.data.toList) = txL s) := by rw [← HF.out]; exact fields_words s
    have HN : Hid ((txL s).length = fs.length ∧ fs.length ≤ 1024) := by
      have e : (txL s).length = fs.length := by rw [← HW.out, List.length_map]
      have h2 := words_few s.data.toList []
      rw [if_pos rfl, ← Lib.size_eq] at h2
      refine ⟨e, ?_⟩
      have := HS.out
      unfold txL at e
      omega
    have H34 : Hid (∀ u, Calls Tryd.prog 76 #[.string s, .func (.func 77) #[] #[]] u fun e w' => Hid (∃ A, e = .returned (.slice (some ⟨A, 0, none⟩) fs.length fs.length) ∧ u.heap.size ≤ A ∧ (∀ k x, fs[k]? = some x → w'.cell? ⟨A, k, none⟩ = some (.string x)) ∧ Below u.heap.size u w' ∧ A < w'.heap.size)) := fun u => by
      have q := fields_ok s u (by have := HS.out; omega)
      rw [HF.out] at q
      exact q
    have H37 : Hid (∀ (x : ByteArray) u, x.size = 5 → Calls Tryd.prog 78 #[.string x] u fun e w' => e = .returned (.int .u16 (wordN x.data.toList : Nat)) ∧ w' = u) := fun x u hx => readWord_ok x hx u
    have H36 : Hid (∀ (v : Nat) u, v < 65536 → Calls Tryd.prog 39 #[.int .u16 (v : Nat)] u fun e w' => Hid (e = .returned (.slice (some ⟨u.heap.size, 0, none⟩) 2 2) ∧ Below u.heap.size u w' ∧ w'.heap.size = u.heap.size + 1 ∧ ∀ j z, (fc (twoF v))[j]? = some z → w'.cell? ((⟨u.heap.size, 0, none⟩ : Addr).add j) = some z)) := fun v u hv => twoBytes_ok v hv u
    obtain ⟨i0, hi, hz0, hz1, hz2⟩ := info_parts Tryd.infoB
    obtain ⟨N, HNN⟩ : ∃ n, Hid (fs.length = n) := ⟨_, rfl⟩
    rw [HNN.out] at H34 HN
    clear hbig
    go_enter Tryd.func63, Tryd.ntmps63
    go_wp2_with (first
      | (go_at_call 76; refine (H34.out w).mono ?_; intro e1 w1 hh; obtain ⟨A, rfl, q1, q2, q3, q4⟩ := hh.out; have H1 : Hid (w.heap.size ≤ A ∧ (∀ k x, fs[k]? = some x → w1.cell? ⟨A, k, none⟩ = some (.string x)) ∧ Below w.heap.size w w1 ∧ A < w1.heap.size) := ⟨q1, q2, q3, q4⟩; clear hh q1 q2 q3 q4))
    obtain ⟨B, HB⟩ : ∃ B, Hid (w1.heap.size = B) := ⟨_, rfl⟩
    go_loopw [4, 13] (fun vo vi wr => ∃ (ov : Value) (k : Nat), vo = ov ∧ k ≤ N ∧ vi = .int .i64 (k : Nat) ∧ Hid (wr.ownsRow B 5 1 ov (saidW ((txL s).take k)).length (fc (saidW ((txL s).take k))) ∧ (∀ x, x ∈ (txL s).take k → x.length = 5) ∧ Below B w1 wr)) (fun _ vi _ => N - (intOf vi).toNat)
    case atStart => exact ⟨_, 0, rfl, by omega, rfl, World.ownsRow_nil _ _ _ _, fun x hx => by simp at hx, Below.refl _ _⟩
    case round =>
      obtain ⟨ov, k, hvs, hk, rfl, HI⟩ := hrel
      obtain rfl := hvs.symm
      by_cases hlt : k < N
      · have HK : Hid (k < N) := hlt
        have g2 : (k : Int) < (N : Int) := by omega
        have g0 : (0 : Int) ≤ (k : Int) := by omega
        obtain ⟨x, hx⟩ : ∃ x, fs[k]? = some x := ⟨_, List.getElem?_eq_getElem (by rw [HNN.out]; exact hlt)⟩
        have c0 : wr.cell? ⟨A, k, none⟩ = some (.string x) := (HI.out.2.2.cell (by rw [← HB.out]; exact H1.out.2.2.2)).trans (H1.out.2.1 k x hx)
        have HTX : Hid ((txL s)[k]? = some x.data.toList) := by rw [← HW.out, List.getElem?_map, hx]; rfl
        have HSZ : Hid (x.data.toList.length = x.size) := (Lib.size_eq x).symm
        have HTK : Hid ((txL s).take (k + 1) = (txL s).take k ++ [x.data.toList]) := by rw [List.take_add_one, HTX.out]; rfl
        by_cases h5 : x.size = 5
        · have g5 : ((x.size : Int) != 5) = false := by rw [h5]; rfl
          obtain ⟨v, HV⟩ : ∃ v, Hid (wordN x.data.toList = v) := ⟨_, rfl⟩
          have hv : v < 65536 := by rw [← HV.out]; exact wordN_lt _
          have HX5 : Hid (x.size = 5 ∧ v < 65536) := ⟨h5, hv⟩
          have HSA : Hid (saidW ((txL s).take (k + 1)) = saidW ((txL s).take k) ++ twoF v) := by rw [HTK.out, saidW_append, ← HV.out]; show _ ++ (twoF _ ++ []) = _; rw [List.append_nil]
          have HA5 : Hid (∀ y, y ∈ (txL s).take (k + 1) → y.length = 5) := fun y hy => by
            rw [HTK.out, List.mem_append] at hy
            rcases hy with hy | hy
            · exact HI.out.2.1 y hy
            · rw [List.mem_singleton] at hy; rw [hy, HSZ.out]; exact HX5.out.1
          obtain ⟨n, HNL⟩ : ∃ n, Hid ((saidW ((txL s).take k)).length = n) := ⟨_, rfl⟩
          have HNS : Hid (n ≤ 2048) := by
            rw [← HNL.out, saidW_length, List.length_take]
            have := HN.out
            show 2 * min k _ ≤ 2048
            have := HK.out
            omega
          have HO : Hid (wr.ownsRow B 5 1 ov n (fc (saidW ((txL s).take k))) ∧ Below B w1 wr ∧ B ≤ wr.heap.size) := ⟨by rw [← HNL.out]; exact HI.out.1, HI.out.2.2, by rw [← HB.out]; exact HI.out.2.2.size⟩
          have wn : wrap64 ((k : Int) + 1) = ((k + 1 : Nat) : Int) := by have := HN.out; unfold wrap64; omega
          have HWN : Hid (wrap64 ((k : Int) + 1) = ((k + 1 : Nat) : Int)) := wn
          clear wn h5 hv hx hk hlt HI
          go_upto_region 10 with (first
            | (go_at_call 78; refine (H37.out x _ HX5.out.1).mono ?_; rintro e3 w3 ⟨rfl, hw⟩; obtain rfl := hw.symm; clear hw; rw [HV.out])
            | (go_at_call 39; refine (H36.out v _ HX5.out.2).mono ?_; intro e4 w4 hh; obtain ⟨rfl, q1, q2, q3⟩ := hh.out; have H4 : Hid (Below wr.heap.size wr w4 ∧ w4.heap.size = wr.heap.size + 1 ∧ ∀ j z, (fc (twoF v))[j]? = some z → w4.cell? ((⟨wr.heap.size, 0, none⟩ : Addr).add j) = some z) := ⟨q1, q2, q3⟩; clear hh q1 q2 q3)
            | (at_builtin; go_must (refine wpList_append_own _ rfl (.tmp 20) (.tmp 23) 23 rfl B 5 i0 (.int .u8 0) 1 1 Tryd.underlying23 hi hz0 hz1 hz2 rfl (by decide) _ n _ rfl (own_below HO.out.1 H4.out.1) ⟨wr.heap.size, 0, none⟩ 2 2 (fc (twoF v)) rfl rfl H4.out.2.2 (fc_one _) (by have := HNS.out; unfold maxLen; omega) (by have := HNS.out; omega) (by have := HO.out.2.2; have := H4.out.2.1; omega) ?_; intro v2 w5 hown hgrow hnil; have HX : Hid (w5.ownsRow B 5 1 v2 (n + 2) (fc (saidW ((txL s).take k)) ++ fc (twoF v)) ∧ Below B w1 w5) := ⟨hown, ((HO.out.2.1.trans (H4.out.1.mono HO.out.2.2))).grown hgrow (by have := HO.out.2.2; have := H4.out.2.1; omega) (fun q hq => (HO.out.1.lt q hq).1)⟩; clear hown hgrow hnil)))
          go_wp2
          have HX2 : Hid (w5.ownsRow B 5 1 v2 (saidW ((txL s).take (k + 1))).length (fc (saidW ((txL s).take (k + 1))))) := by
            rw [HSA.out, show fc (saidW ((txL s).take k) ++ twoF v) = fc (saidW ((txL s).take k)) ++ fc (twoF v) by simp [fc], List.length_append, HNL.out]
            exact HX.out.1
          have e0 := HK.out
          refine ⟨⟨v2, k + 1, by rfl, by omega, by first | rfl | (rw [HWN.out]), HX2.out, HA5.out, HX.out.2⟩, ?_⟩
          first | (rw [HWN.out]; simp [intOf]; omega) | (simp [intOf]; omega)
        · have g5 : ((x.size : Int) != 5) = true := by rw [bne_iff_ne]; omega
          have HQ : Hid (ReadW s (.returned (.tuple #[.slice none 0 0, .int .i64 112])) w wr) := by
            refine ⟨Or.inr ⟨HS.out, Or.inl ⟨fun h => h5 ?_, rfl⟩⟩, H1.out.2.2.1.trans (HI.out.2.2.mono (by rw [← HB.out]; exact H1.out.2.2.1.size))⟩
            rw [← HSZ.out]
            exact h _ (List.mem_of_getElem? HTX.out)
          clear h5 hx hk hlt HI
          go_wp2
          go_ret2
          exact HQ.out
      · obtain rfl : N = k := by omega
        have g2 : ¬ (N : Int) < (N : Int) := Int.lt_irrefl _
        have HT : Hid ((txL s).take N = txL s) := List.take_of_length_le (by rw [HN.out.1]; exact Nat.le_refl _)
        have hI := HI.out
        rw [HT.out] at hI
        have HQ : Hid (ReadW s (.returned (.tuple #[ov, .int .i64 0])) w wr) := by
          have hM : w.heap.size ≤ B := by rw [← HB.out]; exact H1.out.2.2.1.size
          refine ⟨Or.inr ⟨HS.out, Or.inr ⟨hI.2.1, ov, rfl, ?_⟩⟩, H1.out.2.2.1.trans (hI.2.2.mono hM)⟩
          exact own_mono hI.1 hM
        clear hI HI hk hlt
        go_wp2
        go_ret2
        exact HQ.out
end Go.Proofs.YtinmhgackihakaaDoor
namespace Go.Proofs.YtinmhgackihakaaDoor
open Go.RowKit
set_option maxRecDepth 100000
set_option linter.unusedVariables false
set_option linter.unusedSimpArgs false
/-- What a text's words say. -/
def tx (s : ByteArray) : List F := saidW (txL s)
/-- Why a text is no share. -/
def MBad (s : ByteArray) (k : Nat) : Prop := 1024 < s.size ∧ k = 4 ∨ s.size ≤ 1024 ∧ (¬ all5 (txL s) ∧ k = 112 ∨ all5 (txL s) ∧ k = 113 ∧ ((tx s).length < 14 ∨ 78 < (tx s).length ∨ 14 ≤ (tx s).length ∧ (tx s).length ≤ 78 ∧ ∀ m, Nr (tx s) m → ¬ okF m))
/-- What a text is mended to. -/
def MGood (s : ByteArray) (m : List F) (d : Nat) : Prop := s.size ≤ 1024 ∧ all5 (txL s) ∧ 14 ≤ (tx s).length ∧ (tx s).length ≤ 78 ∧ Nr (tx s) m ∧ okF m ∧ d = dif m (tx s) (tx s).length
theorem bad_only {s : ByteArray} {k k' : Nat} (h : MBad s k) (h' : MBad s k') : k = k' := by
  rcases h with ⟨a, b⟩ | ⟨a, ⟨b, c⟩ | ⟨b, c, d⟩⟩ <;> rcases h' with ⟨a', b'⟩ | ⟨a', ⟨b', c'⟩ | ⟨b', c', d'⟩⟩
  · omega
  · omega
  · omega
  · omega
  · omega
  · exact absurd b' b
  · omega
  · exact absurd b b'
  · omega
theorem bad_good {s : ByteArray} {k : Nat} {m : List F} {d : Nat} (h : MBad s k) (g : MGood s m d) : False := by
  obtain ⟨g1, g2, g3, g4, g5, g6, g7⟩ := g
  rcases h with ⟨a, b⟩ | ⟨a, ⟨b, c⟩ | ⟨b, c, d | d | ⟨d1, d2, d3⟩⟩⟩
  · omega
  · exact b g2
  · omega
  · omega
  · exact d3 m g5 g6
theorem bad_ne {s : ByteArray} {k : Nat} (h : MBad s k) : 0 < k ∧ k < 200 := by
  rcases h with ⟨a, b⟩ | ⟨a, ⟨b, c⟩ | ⟨b, c, d⟩⟩ <;> omega
theorem good_only {s : ByteArray} {m m' : List F} {d d' : Nat} (h : MGood s m d) (h' : MGood s m' d') : m = m' ∧ d = d' := by
  obtain ⟨g1, g2, g3, g4, g5, g6, g7⟩ := h
  obtain ⟨g1', g2', g3', g4', g5', g6', g7'⟩ := h'
  have e : m = m' := g5.only (by omega) g5'
  subst e
  exact ⟨rfl, by rw [g7, g7']⟩
/-- What readRow says. -/
def RowQ (s : ByteArray) (M : Nat) (e : Ending) (w w' : World) : Prop :=
  ((∃ k : Nat, MBad s k ∧ e = .returned (.tuple #[.slice none 0 0, .int .i64 0, .int .i64 (k : Nat)])) ∨ ∃ m d g c', MGood s m d ∧ e = .returned (.tuple #[.slice (some ⟨g, 0, none⟩) m.length c', .int .i64 (d : Nat), .int .i64 0]) ∧ Rx w' g m ∧ (m.length ≤ c' ∧ c' ≤ 9223372036854775807)) ∧ Below M w w'
theorem okF_len {m : List F} (h : okF m) : m.length = unc (m.getD 4 0).1 + 4 := h.2.2.2.1
theorem own_slice {w : World} {B e n : Nat} {v : Value} {l : List Value} (h : w.ownsRow B e 1 v n l) : ∃ a c, v = .slice a n c := by
  rcases h.2 with ⟨q, q2⟩ | ⟨g, cap, cur, q, _⟩
  · exact ⟨none, 0, by rw [q, q2]⟩
  · exact ⟨_, _, q⟩
theorem near_zero {l m : List F} (hn : l.length ≤ 255) (h14 : 2 ≤ l.length) (h : MR l m) : (okS m → Nr l m ∧ okF m) ∧ (¬ okS m → ∀ m0, Nr l m0 → ¬ okF m0) := by
  refine ⟨fun hs => ?_, fun hs m0 h0 hf => hs ?_⟩
  · have q := (okS_okF m).1 hs
    exact ⟨h.near hn h14 q.2, q.1⟩
  · have e := h.only hn h0
    subst e
    exact (okS_okF m).2 ⟨hf, h0.1⟩
theorem words_1 (s : ByteArray) (w : World) (h : 1024 < s.size) : Calls Tryd.prog 63 #[.string s] w fun e w' => Hid (e = .returned (.tuple #[.slice none 0 0, .int .i64 4]) ∧ Below w.heap.size w w') :=
  (readWords_ok s w).mono (by
    rintro e w' ⟨q, hb⟩
    rcases q with ⟨_, rfl⟩ | ⟨q, _⟩
    · exact ⟨rfl, hb⟩
    · omega)
theorem words_2 (s : ByteArray) (w : World) (h : s.size ≤ 1024) (h5 : ¬ all5 (txL s)) : Calls Tryd.prog 63 #[.string s] w fun e w' => Hid (e = .returned (.tuple #[.slice none 0 0, .int .i64 112]) ∧ Below w.heap.size w w') :=
  (readWords_ok s w).mono (by
    rintro e w' ⟨q, hb⟩
    rcases q with ⟨q, _⟩ | ⟨_, ⟨_, rfl⟩ | ⟨q, _⟩⟩
    · omega
    · exact ⟨rfl, hb⟩
    · exact absurd q h5)
theorem words_3 (s : ByteArray) (w : World) (h : s.size ≤ 1024) (h5 : all5 (txL s)) : Calls Tryd.prog 63 #[.string s] w fun e w' => Hid (∃ a c, e = .returned (.tuple #[.slice a (tx s).length c, .int .i64 0]) ∧ w'.ownsRow w.heap.size 5 1 (.slice a (tx s).length c) (tx s).length (fc (tx s)) ∧ Below w.heap.size w w') :=
  (readWords_ok s w).mono (by
    rintro e w' ⟨q, hb⟩
    rcases q with ⟨q, _⟩ | ⟨_, ⟨q, _⟩ | ⟨_, v, rfl, ho⟩⟩
    · omega
    · exact absurd h5 q
    · obtain ⟨a, c, rfl⟩ := own_slice ho
      exact ⟨a, c, rfl, ho, hb⟩)
set_option maxHeartbeats 3200000 in
set_option maxRecDepth 100000 in
theorem readRow_ok (s : ByteArray) (w : World) : Calls Tryd.prog 47 #[.string s] w fun e w' => RowQ s w.heap.size e w w' := by
  obtain ⟨M, HMM⟩ : ∃ M, Hid (w.heap.size = M) := ⟨_, rfl⟩
  by_cases h1 : 1024 < s.size
  case pos =>
    have HB : Hid (MBad s 4) := Or.inl ⟨h1, rfl⟩
    have H23 : Hid (Calls Tryd.prog 63 #[.string s] w fun e w' => Hid (e = .returned (.tuple #[.slice none 0 0, .int .i64 4]) ∧ Below w.heap.size w w')) := words_1 s w h1
    clear h1
    go_enter Tryd.func47, Tryd.ntmps47
    go_wp2_with (go_at_call 63; refine H23.out.mono ?_; intro e1 w1 hh; obtain ⟨rfl, q⟩ := hh.out; have HB1 : Hid (Below w.heap.size w w1) := q; clear hh q)
    go_ret3
    exact ⟨Or.inl ⟨4, HB.out, rfl⟩, HB1.out⟩
  case neg =>
  by_cases h5 : all5 (txL s)
  case neg =>
    have HB : Hid (MBad s 112) := Or.inr ⟨by omega, Or.inl ⟨h5, rfl⟩⟩
    have H23 : Hid (Calls Tryd.prog 63 #[.string s] w fun e w' => Hid (e = .returned (.tuple #[.slice none 0 0, .int .i64 112]) ∧ Below w.heap.size w w')) := words_2 s w (by omega) h5
    clear h1 h5
    go_enter Tryd.func47, Tryd.ntmps47
    go_wp2_with (go_at_call 63; refine H23.out.mono ?_; intro e1 w1 hh; obtain ⟨rfl, q⟩ := hh.out; have HB1 : Hid (Below w.heap.size w w1) := q; clear hh q)
    go_ret3
    exact ⟨Or.inl ⟨112, HB.out, rfl⟩, HB1.out⟩
  case pos =>
  have HS : Hid (s.size ≤ 1024 ∧ all5 (txL s)) := ⟨by omega, h5⟩
  have H23 : Hid (Calls Tryd.prog 63 #[.string s] w fun e w' => Hid (∃ a c, e = .returned (.tuple #[.slice a (tx s).length c, .int .i64 0]) ∧ w'.ownsRow w.heap.size 5 1 (.slice a (tx s).length c) (tx s).length (fc (tx s)) ∧ Below w.heap.size w w')) := words_3 s w (by omega) h5
  have H24a : Hid (∀ u, Calls Tryd.prog 45 #[.int .i64 1] u fun e w' => e = .returned (.int .i64 14) ∧ w' = u) := fun u => rowSize_ok 1 (by decide) u
  have H24b : Hid (∀ u, Calls Tryd.prog 45 #[.int .i64 64] u fun e w' => e = .returned (.int .i64 78) ∧ w' = u) := fun u => rowSize_ok 64 (by decide) u
  obtain ⟨l, HL⟩ : ∃ l, Hid (tx s = l) := ⟨_, rfl⟩
  obtain ⟨n, HN⟩ : ∃ n, Hid (l.length = n) := ⟨_, rfl⟩
  rw [HL.out, HN.out] at H23
  clear h1 h5
  by_cases ha : n < 14
  case pos =>
    have HB : Hid (MBad s 113) := Or.inr ⟨HS.out.1, Or.inr ⟨HS.out.2, rfl, Or.inl (by rw [HL.out, HN.out]; exact ha)⟩⟩
    have g1 : (n : Int) < 14 := by omega
    clear ha
    go_enter Tryd.func47, Tryd.ntmps47
    go_wp2_with (first
      | (go_at_call 63; refine H23.out.mono ?_; intro e1 w1 hh; obtain ⟨a, c, rfl, q1, q⟩ := hh.out; have HB1 : Hid (Below w.heap.size w w1) := q; clear hh q q1)
      | (go_at_call 45; refine (H24a.out _).mono ?_; rintro e2 w2 ⟨rfl, hw⟩; obtain rfl := hw.symm; clear hw))
    go_ret3
    exact ⟨Or.inl ⟨113, HB.out, rfl⟩, HB1.out⟩
  case neg =>
  by_cases hb : 78 < n
  case pos =>
    have HB : Hid (MBad s 113) := Or.inr ⟨HS.out.1, Or.inr ⟨HS.out.2, rfl, Or.inr (Or.inl (by rw [HL.out, HN.out]; exact hb))⟩⟩
    have g1 : ¬ (n : Int) < 14 := by omega
    have g2 : (78 : Int) < (n : Int) := by omega
    have HM : Hid True := trivial
    clear ha hb
    go_enter Tryd.func47, Tryd.ntmps47
    go_wp2_with (first
      | (go_at_call 63; refine H23.out.mono ?_; intro e1 w1 hh; obtain ⟨a, c, rfl, q1, q⟩ := hh.out; have HB1 : Hid (Below w.heap.size w w1) := q; clear hh q q1)
      | (go_at_call 45; refine (H24a.out _).mono ?_; rintro e2 w2 ⟨rfl, hw⟩; obtain rfl := hw.symm; clear hw H24a)
      | (go_at_call 45; refine (H24b.out _).mono ?_; rintro e2 w2 ⟨rfl, hw⟩; obtain rfl := hw.symm; clear hw))
    go_ret3
    exact ⟨Or.inl ⟨113, HB.out, rfl⟩, HB1.out⟩
  case neg =>
  have HNB : Hid (14 ≤ n ∧ n ≤ 78) := ⟨by omega, by omega⟩
  have g1 : ¬ (n : Int) < 14 := by omega
  have g2 : ¬ (78 : Int) < (n : Int) := by omega
  clear ha hb
  go_enter Tryd.func47, Tryd.ntmps47
  go_upto_region 6 with (first
    | (go_at_call 63; refine H23.out.mono ?_; intro e1 w1 hh; obtain ⟨a, c, rfl, q1, q⟩ := hh.out; have HB1 : Hid (w1.ownsRow w.heap.size 5 1 (.slice a n c) n (fc l) ∧ Below w.heap.size w w1) := ⟨q1, q⟩; clear hh q q1)
    | (go_at_call 45; refine (H24a.out _).mono ?_; rintro e2 w2 ⟨rfl, hw⟩; obtain rfl := hw.symm; clear hw H24a)
    | (go_at_call 45; refine (H24b.out _).mono ?_; rintro e2 w2 ⟨rfl, hw⟩; obtain rfl := hw.symm; clear hw))
  obtain ⟨g, c2, hge, HG⟩ := own_rx (l := l) (by rw [HN.out]; exact HB1.out.1) (by have := HNB.out; rw [HN.out]; omega)
  rw [HN.out] at hge
  have HCP : Hid (n ≤ c ∧ c ≤ 9223372036854775807) := own_cap HB1.out.1 (by have := HNB.out; omega)
  rw [hge] at HB1 ⊢
  injection hge with hg1 hg2 hg3
  rw [hg3] at HCP
  clear hg1 hg2 hg3 g1 g2 H23 H24b
  have H25 : Hid (Calls Tryd.prog 64 #[.slice (some ⟨g, 0, none⟩) n c2] w1 fun e w' => Hid (∃ g' c' m, e = .returned (.slice (some ⟨g', 0, none⟩) n c') ∧ (n ≤ c' ∧ c' ≤ 9223372036854775807) ∧ Rx w' g' m ∧ MR l m ∧ m.length = n ∧ Below w1.heap.size w1 w')) := by
    have q := mended_cap g 0 c2 l w1 (by rw [HN.out]; have := HNB.out; omega) (by rw [HN.out]; have := HNB.out; omega) HG.out.1.rw HG.out.1.lt
    rw [HN.out] at q
    exact q.mono (by
      intro e w' hh
      obtain ⟨g', c', m, q1, q2, q3, q4, q5, q6, q7⟩ := hh.out
      exact ⟨g', c', m, q1, q2, q4, q5, q6, q7⟩)
  go_upto_region 7 with (go_at_call 64; refine H25.out.mono ?_; intro e3 w3 hh; obtain ⟨g3, c3, m, rfl, q1, q2, q3, q4, q5⟩ := hh.out; have H3 : Hid ((n ≤ c3 ∧ c3 ≤ 9223372036854775807) ∧ Rx w3 g3 m ∧ MR l m ∧ m.length = n ∧ Below w1.heap.size w1 w3) := ⟨q1, q2, q3, q4, q5⟩; clear hh q1 q2 q3 q4 q5)
  have HB3 : Hid (Below M w w3) := by
    have e1 : Below M w w1 := by rw [← HMM.out]; exact HB1.out.2
    exact e1.trans (H3.out.2.2.2.2.mono (bel_size e1 HMM.out))
  have HNZ := near_zero (l := l) (m := m) (by rw [HN.out]; have := HNB.out; omega) (by rw [HN.out]; have := HNB.out; omega) H3.out.2.2.1
  have H26 := isShare_ok g3 0 c3 n m w3 H3.out.2.2.2.1 HNB.out.1 (by have := HNB.out; omega) H3.out.1.1 H3.out.2.1.rw H3.out.2.1.lt
  by_cases hok : okS m
  case neg =>
    have HB : Hid (MBad s 113) := Or.inr ⟨HS.out.1, Or.inr ⟨HS.out.2, rfl, Or.inr (Or.inr ⟨by rw [HL.out, HN.out]; exact HNB.out.1, by rw [HL.out, HN.out]; exact HNB.out.2, by rw [HL.out]; exact HNZ.2 hok⟩)⟩⟩
    have H26b : Hid (Calls Tryd.prog 65 #[.slice (some ⟨g3, 0, none⟩) n c3] w3 fun e w' => Hid (e = .returned (.bool false) ∧ Below w3.heap.size w3 w')) := H26.mono (by
      intro e w' hh
      obtain ⟨d, rfl, hd, hb⟩ := hh.out
      cases d with
      | false => exact ⟨rfl, hb⟩
      | true => exact absurd (hd.1 rfl) hok)
    clear H26 HNZ hok
    go_wp2_with (go_at_call 65; refine H26b.out.mono ?_; intro e4 w4 hh; obtain ⟨rfl, q⟩ := hh.out; have HB4 : Hid (Below w3.heap.size w3 w4) := q; clear hh q)
    go_ret3
    exact ⟨Or.inl ⟨113, HB.out, rfl⟩, by rw [HMM.out]; exact HB3.out.trans (HB4.out.mono (bel_size HB3.out HMM.out))⟩
  case pos =>
    have H26b : Hid (Calls Tryd.prog 65 #[.slice (some ⟨g3, 0, none⟩) n c3] w3 fun e w' => Hid (e = .returned (.bool true) ∧ Below w3.heap.size w3 w')) := H26.mono (by
      intro e w' hh
      obtain ⟨d, rfl, hd, hb⟩ := hh.out
      cases d with
      | false => have := hd.2 hok; cases this
      | true => exact ⟨rfl, hb⟩)
    have HGD : Hid (MGood s m (dif m l n)) := ⟨HS.out.1, HS.out.2, by rw [HL.out, HN.out]; exact HNB.out.1, by rw [HL.out, HN.out]; exact HNB.out.2, by rw [HL.out]; exact (HNZ.1 hok).1, (HNZ.1 hok).2, by rw [HL.out, HN.out]⟩
    have H27 : Hid (∀ u, Rw u g3 0 m → Rw u g 0 l → Calls Tryd.prog 66 #[.slice (some ⟨g3, 0, none⟩) n c3, .slice (some ⟨g, 0, none⟩) n c2] u fun e w' => Hid (e = .returned (.int .i64 (dif m l n : Nat)) ∧ Below u.heap.size u w')) := fun u h1 h2 => differing_ok g3 0 c3 g 0 c2 n m l u H3.out.2.2.2.1 HN.out (by have := HNB.out; omega) h1 h2
    have HRL : Hid (Rx w3 g l) := HG.out.1.below H3.out.2.2.2.2
    clear H26 HNZ hok
    go_wp2_with (first
      | (go_at_call 65; refine H26b.out.mono ?_; intro e4 w4 hh; obtain ⟨rfl, q⟩ := hh.out; have HB4 : Hid (Below w3.heap.size w3 w4) := q; clear hh q)
      | (go_at_call 66; refine (H27.out w4 (H3.out.2.1.below HB4.out).rw (HRL.out.below HB4.out).rw).mono ?_; intro e5 w5 hh; obtain ⟨rfl, q⟩ := hh.out; have HB5 : Hid (Below w4.heap.size w4 w5) := q; clear hh q))
    go_ret3
    refine ⟨Or.inr ⟨m, dif m l n, g3, c3, HGD.out, ?_, (H3.out.2.1.below HB4.out).below HB5.out, ?_⟩, ?_⟩
    · rw [H3.out.2.2.2.1]; rfl
    · rw [H3.out.2.2.2.1]; exact H3.out.1
    · rw [HMM.out]
      have e4 : Below M w w4 := HB3.out.trans (HB4.out.mono (bel_size HB3.out HMM.out))
      exact e4.trans (HB5.out.mono (bel_size e4 HMM.out))
end Go.Proofs.YtinmhgackihakaaDoor
namespace Go.Proofs.YtinmhgackihakaaDoor
open Go.RowKit
set_option maxRecDepth 100000
set_option linter.unusedVariables false
set_option linter.unusedSimpArgs false
/-- What Mend says. -/
def MenQ (s : ByteArray) (M : Nat) (e : Ending) (w w' : World) : Prop :=
  ((∃ k : Nat, MBad s k ∧ e = .returned (.tuple #[.string ⟨#[]⟩, .int .i64 0, .int .i64 (k : Nat)])) ∨ ∃ m d, MGood s m d ∧ e = .returned (.tuple #[.string (WLs m), .int .i64 (d : Nat), .int .i64 0])) ∧ Below M w w'
def Z4l : List Value := [.int .u16 0, .int .i64 0, .int .i64 0, .int .i64 0]
/-- What Tell says. -/
def TelQ (s : ByteArray) (M : Nat) (e : Ending) (w w' : World) : Prop :=
  ((∃ k : Nat, MBad s k ∧ e = .returned (.tuple #[.agg Z4l.toArray, .int .i64 (k : Nat)])) ∨ ∃ m d, MGood s m d ∧ e = .returned (.tuple #[.agg (tds m).toArray, .int .i64 0])) ∧ Below M w w'
theorem row_split {s : ByteArray} {M : Nat} {e : Ending} {w w' : World} (h : RowQ s M e w w') : (∃ k : Nat, Hid (MBad s k) ∧ ((k : Int) != 0) = true ∧ e = .returned (.tuple #[.slice none 0 0, .int .i64 0, .int .i64 (k : Nat)]) ∧ Hid (Below M w w')) ∨ ∃ m d g c' n, Hid (MGood s m d ∧ m.length = n ∧ 14 ≤ n ∧ n ≤ 78 ∧ Rx w' g m ∧ n ≤ c' ∧ c' ≤ 9223372036854775807) ∧ e = .returned (.tuple #[.slice (some ⟨g, 0, none⟩) n c', .int .i64 (d : Nat), .int .i64 0]) ∧ Hid (Below M w w') := by
  obtain ⟨h, hb⟩ := h
  rcases h with ⟨k, hk, rfl⟩ | ⟨m, d, g, c', hg, rfl, hr, h1, h2⟩
  · exact Or.inl ⟨k, hk, by have := bad_ne hk; rw [bne_iff_ne]; omega, rfl, hb⟩
  · refine Or.inr ⟨m, d, g, c', m.length, ⟨hg, rfl, ?_, ?_, hr, h1, h2⟩, rfl, hb⟩
    · rw [hg.2.2.2.2.1.len]; exact hg.2.2.1
    · rw [hg.2.2.2.2.1.len]; exact hg.2.2.2.1
end Go.Proofs.YtinmhgackihakaaDoor
namespace Go.Proofs.YtinmhgackihakaaDoor
set_option linter.unusedVariables false
set_option linter.unusedSimpArgs false
/-- Induction on a list from its end. -/
theorem snocI {p : List F → Prop} (h0 : p []) (h1 : ∀ l a, p l → p (l ++ [a])) : ∀ (n : Nat) (l : List F), l.length = n → p l
  | 0, l, h => by rw [List.eq_nil_of_length_eq_zero h]; exact h0
  | n + 1, l, h => by
    have hne : l ≠ [] := by intro e; rw [e] at h; cases h
    rw [← List.dropLast_concat_getLast hne]
    exact h1 _ _ (snocI h0 h1 n _ (by rw [List.length_dropLast]; omega))
theorem P_add (x : F) (a : Nat) : ∀ b, P x (a + b) = fm (P x a) (P x b)
  | 0 => by rw [Nat.add_zero, P_0, fm_one]
  | b + 1 => by
    show fm (P x (a + b)) x = fm (P x a) (fm (P x b) x)
    rw [P_add x a b, fm_assoc]
theorem pv_app (x : F) (a : List F) (b : List F) : pv x (a ++ b) = fa (fm (pv x a) (P x b.length)) (pv x b) := by
  refine snocI (p := fun b => pv x (a ++ b) = fa (fm (pv x a) (P x b.length)) (pv x b)) ?_ ?_ b.length b rfl
  · rw [List.append_nil]
    show pv x a = fa (fm (pv x a) 1) 0
    rw [fm_one, fa_zero]
  · intro l c ih
    rw [← List.append_assoc, pv_snoc, ih, pv_snoc, List.length_append]
    show fa (fm (fa (fm (pv x a) (P x l.length)) (pv x l)) x) c = fa (fm (pv x a) (fm (P x l.length) x)) (fa (fm (pv x l) x) c)
    rw [fa_fm, fm_assoc, fa_assoc]
theorem pv_zeros (x : F) : ∀ n, pv x (List.replicate n 0) = 0
  | 0 => rfl
  | n + 1 => by rw [List.replicate_succ', pv_snoc, pv_zeros x n, zero_fm, fa_zero]
/-- Two rows of one length, added; a row scaled. -/
def addL (a b : List F) : List F := (List.range a.length).map fun i => fa (a.getD i 0) (b.getD i 0)
def sclL (a : List F) (f : F) : List F := a.map fun c => fm c f
theorem pv_form (x : F) (l : List F) : pv x l = sm l.length (fun i => fm (l.getD i 0) (P x (l.length - 1 - i))) := by
  have h := pv_sm x l.length (fun i => l.getD i 0)
  rw [range_getD] at h
  exact h
theorem pv_addL (x : F) (a b : List F) (h : b.length = a.length) : pv x (addL a b) = fa (pv x a) (pv x b) := by
  unfold addL
  rw [pv_sm, pv_form x a, pv_form x b, h, ← sm_fa]
  exact sm_congr _ _ _ fun i _ => fa_fm _ _ _
theorem sclL_len (a : List F) (f : F) : (sclL a f).length = a.length := by simp [sclL]
theorem getD_map0 (l : List F) (g : F → F) (h0 : g 0 = 0) (i : Nat) : (l.map g).getD i 0 = g (l.getD i 0) := by
  by_cases h : i < l.length
  · simp [List.getD_eq_getElem?_getD, List.getElem?_map, List.getElem?_eq_getElem h]
  · simp [List.getD_eq_getElem?_getD, List.getElem?_map, List.getElem?_eq_none (Nat.le_of_not_lt h), h0]
theorem pv_sclL (x : F) (a : List F) (f : F) : pv x (sclL a f) = fm (pv x a) f := by
  rw [pv_form, pv_form x a, sclL_len, fm_comm, ← sm_fm]
  refine sm_congr _ _ _ fun i _ => ?_
  unfold sclL
  rw [getD_map0 a _ (zero_fm f), fm_comm (a.getD i 0) f, fm_assoc]
/-- A product with what is 0 at a root. -/
def wrL (l : List F) (r : F) : List F := addL (l ++ [0]) (0 :: sclL l r)
theorem wrL_len (l : List F) (r : F) : (wrL l r).length = l.length + 1 := by simp [wrL, addL]
theorem pv_cons0 (x : F) (l : List F) : pv x (0 :: l) = pv x l := by
  show List.foldl _ (fa (fm 0 x) 0) l = List.foldl _ 0 l
  rw [zero_fm, fa_zero]
theorem pv_wrL (x : F) (l : List F) (r : F) : pv x (wrL l r) = fm (pv x l) (fa x r) := by
  unfold wrL
  rw [pv_addL _ _ _ (by simp [sclL]), pv_snoc, pv_cons0, pv_sclL, fa_zero, fm_fa]
/-- The product over the other places, as far as number k, and what it is at the place itself. -/
def prdL (pl : List F) (i : Nat) : Nat → List F
  | 0 => [1]
  | k + 1 => if k = i then prdL pl i k else wrL (prdL pl i k) (pl.getD k 0)
def thrF (pl : List F) (i : Nat) : Nat → F
  | 0 => 1
  | k + 1 => if k = i then thrF pl i k else fm (thrF pl i k) (fa (pl.getD i 0) (pl.getD k 0))
theorem prdL_len (pl : List F) (i : Nat) : ∀ k, (prdL pl i k).length = if i < k then k else k + 1
  | 0 => by simp [prdL]
  | k + 1 => by
    unfold prdL
    by_cases e : k = i
    · rw [if_pos e, prdL_len pl i k, if_neg (by omega), if_pos (by omega)]
    · rw [if_neg e, wrL_len, prdL_len pl i k]
      by_cases h : i < k
      · rw [if_pos h, if_pos (by omega)]
      · rw [if_neg h, if_neg (by omega)]
theorem prdL_at (pl : List F) (i : Nat) : ∀ k, pv (pl.getD i 0) (prdL pl i k) = thrF pl i k
  | 0 => by
    show fa (fm 0 _) 1 = 1
    rw [zero_fm, zero_fa]
  | k + 1 => by
    unfold prdL thrF
    by_cases e : k = i
    · rw [if_pos e, if_pos e, prdL_at pl i k]
    · rw [if_neg e, if_neg e, pv_wrL, prdL_at pl i k]
theorem prdL_zero (pl : List F) (i q : Nat) (hq : q ≠ i) : ∀ k, q < k → pv (pl.getD q 0) (prdL pl i k) = 0
  | 0, h => by omega
  | k + 1, h => by
    unfold prdL
    by_cases e : k = i
    · rw [if_pos e, prdL_zero pl i q hq k (by omega)]
    · rw [if_neg e, pv_wrL]
      by_cases e2 : q = k
      · rw [e2, fa_self, fm_zero]
      · rw [prdL_zero pl i q hq k (by omega), zero_fm]
/-- Places without equal ones. -/
def ApartP (pl : List F) : Prop := ∀ i k, i < pl.length → k < pl.length → pl.getD i 0 = pl.getD k 0 → i = k
theorem thrF_ne (pl : List F) (hp : ApartP pl) (i : Nat) (hi : i < pl.length) : ∀ k, k ≤ pl.length → thrF pl i k ≠ 0
  | 0, _ => one_ne
  | k + 1, h => by
    unfold thrF
    by_cases e : k = i
    · rw [if_pos e]; exact thrF_ne pl hp i hi k (by omega)
    · rw [if_neg e]
      exact fm_ne (thrF_ne pl hp i hi k (by omega)) (fa_ne fun q => e (hp i k hi (by omega) q).symm)
/-- 1 at one place, 0 at the others. -/
def peakL (pl : List F) (i : Nat) : List F := sclL (prdL pl i pl.length) (invF (thrF pl i pl.length))
theorem peakL_len (pl : List F) (i : Nat) (hi : i < pl.length) : (peakL pl i).length = pl.length := by
  unfold peakL
  rw [sclL_len, prdL_len, if_pos hi]
theorem peakL_at (pl : List F) (hp : ApartP pl) (i q : Nat) (hi : i < pl.length) (hq : q < pl.length) : pv (pl.getD q 0) (peakL pl i) = if q = i then 1 else 0 := by
  unfold peakL
  rw [pv_sclL]
  by_cases e : q = i
  · rw [if_pos e, e, prdL_at]
    exact invF_mul _ (thrF_ne pl hp i hi _ (Nat.le_refl _))
  · rw [if_neg e, prdL_zero pl i q e _ hq, zero_fm]
/-- The polynomial through values at places, as far as number k. -/
def thruL (pl vs : List F) : Nat → List F
  | 0 => List.replicate pl.length 0
  | k + 1 => addL (thruL pl vs k) (sclL (peakL pl k) (vs.getD k 0))
theorem addL_len (a b : List F) : (addL a b).length = a.length := by simp [addL]
theorem thruL_len (pl vs : List F) : ∀ k, (thruL pl vs k).length = pl.length
  | 0 => by simp [thruL]
  | k + 1 => by unfold thruL; rw [addL_len, thruL_len pl vs k]
theorem thruL_pv (pl vs : List F) (x : F) : ∀ k, k ≤ pl.length → pv x (thruL pl vs k) = sm k (fun i => fm (pv x (peakL pl i)) (vs.getD i 0))
  | 0, _ => by unfold thruL; rw [pv_zeros]; rfl
  | k + 1, h => by
    unfold thruL
    rw [pv_addL _ _ _ (by rw [sclL_len, thruL_len, peakL_len _ _ (by omega)]), pv_sclL, thruL_pv pl vs x k (by omega)]
    rfl
theorem thru_at (pl vs : List F) (hp : ApartP pl) (q : Nat) (hq : q < pl.length) : pv (pl.getD q 0) (thruL pl vs pl.length) = vs.getD q 0 := by
  rw [thruL_pv _ _ _ _ (Nat.le_refl _), sm_one _ q _ hq fun i hi hne => ?_]
  · show fm (pv (pl.getD q 0) (peakL pl q)) _ = _
    rw [peakL_at pl hp q q hq hq, if_pos rfl, fm_1]
  · show fm (pv (pl.getD q 0) (peakL pl i)) _ = 0
    rw [peakL_at pl hp i q hi hq, if_neg (Ne.symm hne), zero_fm]
/-- The code that a row gets: with it the sums are zero. -/
def pw4 : List F := (List.range 4).map Em
theorem pw4_apart : ApartP pw4 := fun i k hi hk h => by
  have e : ∀ i, i < 4 → pw4.getD i 0 = Em i := fun i hi => by
    unfold pw4
    simp [List.getD_eq_getElem?_getD, List.getElem?_map, List.getElem?_range hi]
  rw [e i hi, e k hk] at h
  exact Em_inj i k (by have : pw4.length = 4 := rfl; omega) (by have : pw4.length = 4 := rfl; omega) h
def codeL (l : List F) : List F := thruL pw4 (sumL (l ++ [0, 0, 0, 0])) 4
theorem codeL_len (l : List F) : (codeL l).length = 4 := thruL_len _ _ _
theorem code_zero (l : List F) : sumL (l ++ codeL l) = [0, 0, 0, 0] := by
  have e : ∀ j, j < 4 → sumG (l ++ codeL l) j = 0 := fun j hj => by
    have h1 := thru_at pw4 (sumL (l ++ [0, 0, 0, 0])) pw4_apart j hj
    have h2 : pw4.getD j 0 = Em j := by
      unfold pw4
      simp [List.getD_eq_getElem?_getD, List.getElem?_map, List.getElem?_range hj]
    have h3 : (sumL (l ++ [0, 0, 0, 0])).getD j 0 = sumG (l ++ [0, 0, 0, 0]) j := by
      match j, hj with
      | 0, _ => rfl
      | 1, _ => rfl
      | 2, _ => rfl
      | 3, _ => rfl
    rw [h2, h3] at h1
    have h4 : sumG (l ++ [0, 0, 0, 0]) j = fm (pv (Em j) l) (P (Em j) 4) := by
      show pv (Em j) (l ++ List.replicate 4 0) = _
      rw [pv_app, pv_zeros, fa_zero]
      rfl
    show pv (Em j) (l ++ codeL l) = 0
    rw [pv_app, codeL_len, ← h4]
    show fa _ (pv (Em j) (thruL pw4 (sumL (l ++ [0, 0, 0, 0])) 4)) = 0
    rw [show (4 : Nat) = pw4.length from rfl, h1, fa_self]
  rw [sumL_4, e 0 (by decide), e 1 (by decide), e 2 (by decide), e 3 (by decide)]
end Go.Proofs.YtinmhgackihakaaDoor
namespace Go.Proofs.YtinmhgackihakaaDoor
set_option linter.unusedVariables false
set_option linter.unusedSimpArgs false
theorem sm_front (g : Nat → F) : ∀ n, sm (n + 1) g = fa (g 0) (sm n (fun i => g (i + 1)))
  | 0 => by show fa 0 (g 0) = fa (g 0) 0; rw [zero_fa, fa_zero]
  | n + 1 => by
    show fa (sm (n + 1) g) (g (n + 1)) = fa (g 0) (fa (sm n (fun i => g (i + 1))) (g (n + 1)))
    rw [sm_front g n, fa_assoc]
/-- The document's way of a polynomial's value, the constant first. -/
def valF (l : List F) (x : F) : F := sm l.length (fun j => fm (l.getD j 0) (P x j))
theorem valF_rev (x : F) : ∀ l : List F, pv x l.reverse = valF l x
  | [] => rfl
  | a :: l => by
    rw [List.reverse_cons, pv_snoc, valF_rev x l]
    unfold valF
    rw [List.length_cons, sm_front]
    show fa (fm (sm l.length (fun j => fm (l.getD j 0) (P x j))) x) a = fa (fm a 1) (sm l.length (fun i => fm (l.getD i 0) (fm (P x i) x)))
    rw [fm_one, fa_comm, fm_comm, ← sm_fm]
    congr 1
    exact sm_congr _ _ _ fun i _ => by rw [fm_comm x, fm_assoc]
theorem addL_at (a b : List F) (i : Nat) (h : i < a.length) : (addL a b).getD i 0 = fa (a.getD i 0) (b.getD i 0) := by
  unfold addL
  simp [List.getD_eq_getElem?_getD, List.getElem?_map, List.getElem?_range h]
/-- Division by a root. -/
def divL (r : F) (c : List F) (n : Nat) : List F := (List.range n).map fun i => pv r (c.take (i + 1))
theorem pv_take (r : F) (c : List F) (i : Nat) (h : i < c.length) : pv r (c.take (i + 1)) = fa (fm (pv r (c.take i)) r) (c.getD i 0) := by
  rw [List.take_add_one, List.getElem?_eq_getElem h]
  show pv r (c.take i ++ [c[i]]) = _
  rw [pv_snoc, List.getD_eq_getElem?_getD, List.getElem?_eq_getElem h]
  rfl
theorem divL_back (r : F) (c : List F) (n : Nat) (hn : c.length = n + 1) (h : pv r c = 0) : c = wrL (divL r c n) r := by
  have hd : ∀ i, i < n → (divL r c n).getD i 0 = pv r (c.take (i + 1)) := fun i hi => by
    unfold divL
    simp [List.getD_eq_getElem?_getD, List.getElem?_map, List.getElem?_range hi]
  have hlen : (divL r c n).length = n := by simp [divL]
  symm
  refine list_same (by rw [wrL_len, hlen, hn]) fun q hq => ?_
  rw [hn] at hq
  unfold wrL
  rw [addL_at _ _ q (by simp [hlen]; omega)]
  have e2 : (0 :: sclL (divL r c n) r).getD q 0 = fm (pv r (c.take q)) r := by
    match q with
    | 0 => show (0 : F) = fm (pv r []) r; show (0 : F) = fm 0 r; rw [zero_fm]
    | q + 1 =>
      show (sclL (divL r c n) r).getD q 0 = _
      unfold sclL
      rw [getD_map0 _ _ (zero_fm r), hd q (by omega)]
  rw [e2]
  by_cases e : q < n
  · have a1 : (divL r c n ++ [(0 : F)]).getD q 0 = (divL r c n).getD q 0 := by
      rw [List.getD_eq_getElem?_getD, List.getElem?_append_left (by rw [hlen]; exact e), ← List.getD_eq_getElem?_getD]
    rw [a1, hd q e, pv_take r c q (by omega)]
    rw [fa_comm, fa_canc]
  · obtain rfl : q = n := by omega
    have a1 : (divL r c q ++ [(0 : F)]).getD q 0 = 0 := by
      rw [List.getD_eq_getElem?_getD, List.getElem?_append_right (by rw [hlen]; exact Nat.le_refl _), hlen, Nat.sub_self]; rfl
    rw [a1]
    have e3 := pv_take r c q (by omega)
    rw [List.take_of_length_le (by omega), h] at e3
    rw [zero_fa]
    exact (fa_eq_zero e3.symm)
/-- A polynomial with as many roots as numbers is nothing. -/
theorem roots_zero : ∀ (n : Nat) (c pl : List F), c.length = n → pl.length = n → ApartP pl → (∀ i, i < n → pv (pl.getD i 0) c = 0) → c = List.replicate n 0
  | 0, c, pl, hc, _, _, _ => List.eq_nil_of_length_eq_zero hc
  | n + 1, c, pl, hc, hp, ha, hr => by
    have h0 := hr n (by omega)
    have hb := divL_back (pl.getD n 0) c n hc h0
    have hdl : (divL (pl.getD n 0) c n).length = n := by simp [divL]
    have gt : ∀ i, i < n → (pl.take n).getD i 0 = pl.getD i 0 := fun i hi => by
      simp [List.getD_eq_getElem?_getD, List.getElem?_take, hi]
    have ih := roots_zero n (divL (pl.getD n 0) c n) (pl.take n) hdl (by rw [List.length_take]; omega) (fun i k hi hk h => by
      rw [List.length_take] at hi hk
      rw [gt i (by omega), gt k (by omega)] at h
      exact ha i k (by omega) (by omega) h) (fun i hi => by
      rw [gt i hi]
      have h1 := hr i (by omega)
      rw [hb, pv_wrL] at h1
      exact fm_eq_zero h1 (fa_ne fun e => by have := ha i n (by omega) (by omega) e; omega))
    rw [hb, ih]
    refine list_same (by rw [wrL_len]; simp) fun q hq => ?_
    rw [List.length_replicate] at hq
    unfold wrL
    rw [addL_at _ _ q (by simp; omega)]
    have z1 : ∀ m k, (List.replicate m (0 : F)).getD k 0 = 0 := fun m k => by
      by_cases h : k < m
      · simp [List.getD_eq_getElem?_getD, List.getElem?_replicate, h]
      · simp [List.getD_eq_getElem?_getD, List.getElem?_replicate, h]
    rw [show List.replicate n (0 : F) ++ [0] = List.replicate (n + 1) 0 from List.replicate_succ'.symm, z1, zero_fa]
    match q with
    | 0 => rfl
    | q + 1 =>
      show (sclL (List.replicate n 0) (pl.getD n 0)).getD q 0 = 0
      unfold sclL
      rw [getD_map0 _ (fun c => fm c (pl.getD n 0)) (zero_fm _), z1, zero_fm]
/-- Two polynomials of one length that are the same at as many places are the same. -/
theorem poly_only (n : Nat) (a b pl : List F) (ha : a.length = n) (hb : b.length = n) (hp : pl.length = n) (hd : ApartP pl) (h : ∀ i, i < n → pv (pl.getD i 0) a = pv (pl.getD i 0) b) : a = b := by
  have z := roots_zero n (addL a b) pl (by rw [addL_len, ha]) hp hd (fun i hi => by rw [pv_addL _ _ _ (by rw [ha, hb]), h i hi, fa_self])
  refine list_same (by rw [ha, hb]) fun q hq => ?_
  rw [hb] at hq
  have e : (addL a b).getD q 0 = 0 := by
    rw [z]
    simp [List.getD_eq_getElem?_getD, List.getElem?_replicate, hq]
  rw [addL_at a b q (by omega)] at e
  exact fa_eq_zero e
/-- The equations of some shares: powers of the places, then the values. -/
def vanM (pl vs : List F) (n : Nat) : Nat → Nat → F := fun i k => if k = n then vs.getD i 0 else P (pl.getD i 0) k
theorem sm_last (g : Nat → F) (n : Nat) : sm (n + 1) g = fa (sm n g) (g n) := rfl
theorem van_ind (pl vs : List F) (R n : Nat) (hn : n ≤ R) (hR : pl.length = R) (hd : ApartP pl) : Ind (vanM pl vs n) R n := fun z hz h0 k hk => by
  have zl : ((List.range n).map z).length = n := by simp
  have gz : ∀ q, q < n → ((List.range n).map z).getD q 0 = z q := fun q hq => by simp [List.getD_eq_getElem?_getD, List.getElem?_map, List.getElem?_range hq]
  have e := roots_zero n ((List.range n).map z).reverse (pl.take n) (by rw [List.length_reverse, zl]) (by rw [List.length_take]; omega) (fun i j hi hj h => by
    rw [List.length_take] at hi hj
    have gt : ∀ i, i < n → (pl.take n).getD i 0 = pl.getD i 0 := fun i hi => by simp [List.getD_eq_getElem?_getD, List.getElem?_take, hi]
    rw [gt i (by omega), gt j (by omega)] at h
    exact hd i j (by omega) (by omega) h) (fun i hi => by
    have gt : (pl.take n).getD i 0 = pl.getD i 0 := by simp [List.getD_eq_getElem?_getD, List.getElem?_take, hi]
    rw [gt, valF_rev]
    unfold valF
    have q := hz i (by omega)
    rw [sm_last, h0, fm_zero, fa_zero] at q
    rw [zl]
    refine Eq.trans (sm_congr _ _ _ fun j hj => ?_) q
    rw [gz j hj]
    unfold vanM
    rw [if_neg (by omega), fm_comm])
  have e2 : (List.range n).map z = List.replicate n 0 := by
    have := congrArg List.reverse e
    rw [List.reverse_reverse, List.reverse_replicate] at this
    exact this
  rw [← gz k hk, e2]
  simp [List.getD_eq_getElem?_getD, List.getElem?_replicate, hk]
/-- What solves them. -/
theorem van_sol (pl vs xs : List F) (R n : Nat) (hx : xs.length = n) : Nz (vanM pl vs n) R n (zOf xs) ↔ ∀ i, i < R → valF xs (pl.getD i 0) = vs.getD i 0 := by
  have e : ∀ i, sm (n + 1) (fun k => fm (vanM pl vs n i k) (zOf xs k)) = fa (valF xs (pl.getD i 0)) (vs.getD i 0) := fun i => by
    rw [sm_last, zOf_n xs n hx, fm_one]
    show fa _ (vanM pl vs n i n) = _
    rw [show vanM pl vs n i n = vs.getD i 0 from if_pos rfl]
    congr 1
    unfold valF
    rw [hx]
    refine sm_congr _ _ _ fun j hj => ?_
    rw [zOf_lt xs j (by omega)]
    unfold vanM
    rw [if_neg (by omega), fm_comm]
  constructor
  · intro h i hi
    have := h i hi
    rw [e] at this
    exact fa_eq_zero this
  · intro h i hi
    rw [e, h i hi, fa_self]
end Go.Proofs.YtinmhgackihakaaDoor
namespace Go.Proofs.YtinmhgackihakaaDoor
open Go.RowKit
set_option linter.unusedVariables false
set_option linter.unusedSimpArgs false
set_option maxRecDepth 100000
/-- How many random bytes a sharing takes. -/
def rnd (a b : Int) : Int := if 1 ≤ a ∧ a ≤ 16 ∧ 1 ≤ b ∧ b ≤ 64 then (a - 1) * (b + 4) else 0
theorem mayNeedI (x : Int) (w : World) : Calls Tryd.prog 25 #[.int .i64 x] w fun e w' => e = .returned (.bool (decide (1 ≤ x ∧ x ≤ 16))) ∧ w' = w := by
  by_cases h1 : 1 ≤ x
  · by_cases h2 : x ≤ 16
    · go_enter Tryd.func25, Tryd.ntmps25
      go_wp2
      go_ret
      simp [h1, h2]
    · go_enter Tryd.func25, Tryd.ntmps25
      go_wp2
      go_ret
      simp [h1, h2]
  · go_enter Tryd.func25, Tryd.ntmps25
    go_wp2
    go_ret
    simp [h1]
    try omega
theorem mayShareI (x : Int) (w : World) : Calls Tryd.prog 24 #[.int .i64 x] w fun e w' => e = .returned (.bool (decide (1 ≤ x ∧ x ≤ 64))) ∧ w' = w := by
  by_cases h1 : 1 ≤ x
  · by_cases h2 : x ≤ 64
    · go_enter Tryd.func24, Tryd.ntmps24
      go_wp2
      go_ret
      simp [h1, h2]
    · go_enter Tryd.func24, Tryd.ntmps24
      go_wp2
      go_ret
      simp [h1, h2]
  · go_enter Tryd.func24, Tryd.ntmps24
    go_wp2
    go_ret
    simp [h1]
    try omega
theorem rnd_fit (a b : Int) (h : 1 ≤ a ∧ a ≤ 16 ∧ 1 ≤ b ∧ b ≤ 64) : IntKind.i64.wrap ((a - 1) * (b + 4)) = (a - 1) * (b + 4) ∧ IntKind.i64.wrap (a - 1) = a - 1 ∧ IntKind.i64.wrap (b + 4) = b + 4 := by
  have h1 : 0 ≤ (a - 1) * (b + 4) := Int.mul_nonneg (by omega) (by omega)
  have h2 : (a - 1) * (b + 4) ≤ 15 * 68 := Int.mul_le_mul (by omega) (by omega) (by omega) (by omega)
  refine ⟨?_, ?_, ?_⟩ <;> (rw [IntKind.wrap_i64]; omega)
set_option maxHeartbeats 800000 in
theorem random_ok (a b : Int) (w : World) : Calls Tryd.prog 16 #[.int .i64 a, .int .i64 b] w fun e w' => e = .returned (.int .i64 (rnd a b)) ∧ w' = w := by
  have HA : Hid (∀ u, Calls Tryd.prog 25 #[.int .i64 a] u fun e w' => e = .returned (.bool (decide (1 ≤ a ∧ a ≤ 16))) ∧ w' = u) := fun u => mayNeedI a u
  have HB : Hid (∀ u, Calls Tryd.prog 24 #[.int .i64 b] u fun e w' => e = .returned (.bool (decide (1 ≤ b ∧ b ≤ 64))) ∧ w' = u) := fun u => mayShareI b u
  by_cases h1 : 1 ≤ a ∧ a ≤ 16
  · rw [decide_eq_true h1] at HA
    by_cases h2 : 1 ≤ b ∧ b ≤ 64
    · rw [decide_eq_true h2] at HB
      have HF : Hid (rnd a b = (a - 1) * (b + 4) ∧ IntKind.i64.wrap ((a - 1) * (b + 4)) = (a - 1) * (b + 4) ∧ IntKind.i64.wrap (a - 1) = a - 1 ∧ IntKind.i64.wrap (b + 4) = b + 4) := ⟨if_pos ⟨h1.1, h1.2, h2⟩, rnd_fit a b ⟨h1.1, h1.2, h2⟩⟩
      go_enter Tryd.func16, Tryd.ntmps16
      go_wp2_with (first
        | (go_at_call 25; refine (HA.out _).mono ?_; rintro e1 w1 ⟨rfl, hw⟩; obtain rfl := hw.symm; clear hw)
        | (go_at_call 24; refine (HB.out _).mono ?_; rintro e1 w1 ⟨rfl, hw⟩; obtain rfl := hw.symm; clear hw))
      go_ret
      obtain ⟨e0, e1, e2, e3⟩ := HF.out
      first
        | exact ⟨ret_int (by rw [e0, e2, e3, e1]), rfl⟩
        | exact ⟨ret_int (by rw [e0]; simpa [IntKind.wrap_i64, wrap64] using e1), rfl⟩
    · rw [decide_eq_false h2] at HB
      have HF : Hid (rnd a b = 0) := if_neg (fun h => h2 h.2.2)
      go_enter Tryd.func16, Tryd.ntmps16
      go_wp2_with (first
        | (go_at_call 25; refine (HA.out _).mono ?_; rintro e1 w1 ⟨rfl, hw⟩; obtain rfl := hw.symm; clear hw)
        | (go_at_call 24; refine (HB.out _).mono ?_; rintro e1 w1 ⟨rfl, hw⟩; obtain rfl := hw.symm; clear hw))
      go_ret
      rw [HF.out]
      exact ⟨rfl, rfl⟩
  · rw [decide_eq_false h1] at HA
    have HF : Hid (rnd a b = 0) := if_neg (fun h => h1 ⟨h.1, h.2.1⟩)
    go_enter Tryd.func16, Tryd.ntmps16
    go_wp2_with (first
      | (go_at_call 25; refine (HA.out _).mono ?_; rintro e1 w1 ⟨rfl, hw⟩; obtain rfl := hw.symm; clear hw))
    go_ret
    rw [HF.out]
    exact ⟨rfl, rfl⟩
set_option maxHeartbeats 800000 in
theorem rrandom_ok (a b : Int) (w : World) : Calls Tryd.prog 21 #[.int .i64 a, .int .i64 b] w fun e w' => e = .returned (.int .i64 (rnd a b)) ∧ w' = w := by
  by_cases h : 1 ≤ a ∧ a ≤ 16 ∧ 1 ≤ b ∧ b ≤ 64
  · have HF : Hid (rnd a b = (a - 1) * (b + 4) ∧ IntKind.i64.wrap ((a - 1) * (b + 4)) = (a - 1) * (b + 4) ∧ IntKind.i64.wrap (a - 1) = a - 1 ∧ IntKind.i64.wrap (b + 4) = b + 4) := ⟨if_pos h, rnd_fit a b h⟩
    obtain ⟨h1, h2, h3, h4⟩ := h
    have k1 : ¬ a < 1 := by omega
    have k2 : ¬ 16 < a := by omega
    have k3 : ¬ b < 1 := by omega
    have k4 : ¬ 64 < b := by omega
    go_enter Tryd.func21, Tryd.ntmps21
    go_wp2
    go_ret
    obtain ⟨e0, e1, e2, e3⟩ := HF.out
    first
      | exact ⟨ret_int (by rw [e0, e2, e3, e1]), rfl⟩
      | exact ⟨ret_int (by rw [e0]; simpa [IntKind.wrap_i64, wrap64] using e1), rfl⟩
  · have HF : Hid (rnd a b = 0) := if_neg h
    by_cases h1 : a < 1
    · go_enter Tryd.func21, Tryd.ntmps21
      go_wp2
      go_ret
      rw [HF.out]; exact ⟨rfl, rfl⟩
    by_cases h2 : 16 < a
    · go_enter Tryd.func21, Tryd.ntmps21
      go_wp2
      go_ret
      rw [HF.out]; exact ⟨rfl, rfl⟩
    by_cases h3 : b < 1
    · go_enter Tryd.func21, Tryd.ntmps21
      go_wp2
      go_ret
      rw [HF.out]; exact ⟨rfl, rfl⟩
    have h4 : 64 < b := by omega
    go_enter Tryd.func21, Tryd.ntmps21
    go_wp2
    go_ret
    rw [HF.out]; exact ⟨rfl, rfl⟩
end Go.Proofs.YtinmhgackihakaaDoor
namespace Go.Proofs.YtinmhgackihakaaDoor
open Go.RowKit
set_option linter.unusedVariables false
set_option linter.unusedSimpArgs false
set_option maxRecDepth 100000
theorem scl_range (l : List F) (q : F) (n : Nat) (hl : l.length = n) : fc ((List.range n).map fun i => fm (l.getD i 0) q) = fc (sclL l q) := by
  congr 1
  apply List.ext_getElem?
  intro i
  unfold sclL
  by_cases hi : i < n
  · simp [List.getElem?_map, List.getElem?_range hi, List.getD_eq_getElem?_getD, List.getElem?_eq_getElem (show i < l.length by omega)]
  · rw [List.getElem?_eq_none (by simpa using hi), List.getElem?_eq_none (by simpa [hl] using hi)]
set_option maxHeartbeats 800000 in
/-- scaled. -/
theorem scaled_ok (b off n c : Nat) (q : F) (l : List F) (w : World) (hl : l.length = n) (hn : n ≤ 1000) (h : Rw w b off l) (hb : b < w.heap.size) :
    Calls Tryd.prog 68 #[.slice (some ⟨b, off, none⟩) n c, .int .u8 (q.1 : Nat)] w fun e w' => Hid (∃ g, e = .returned (.slice (some ⟨g, 0, none⟩) n n) ∧ w.heap.size ≤ g ∧ Bx w' g 5 (fc (sclL l q)) ∧ Below w.heap.size w w') := by
  obtain ⟨G, HG⟩ : ∃ G : Nat → F, Hid ((fun i => fm (l.getD i 0) q) = G) := ⟨_, rfl⟩
  have HSC : Hid (fc ((List.range n).map G) = fc (sclL l q)) := by rw [← HG.out]; exact scl_range l q n hl
  rw [← HSC.out]
  obtain ⟨i0, hi0, hz0, hz1, hz2⟩ := info_parts Tryd.infoB
  have HI0 : Hid (Tryd.prog.info? 5 = some i0 ∧ i0.zero = some (.int .u8 0) ∧ i0.size = 1 ∧ i0.bytes = 1) := ⟨hi0, hz0, hz1, hz2⟩
  have HMF : Hid (i0.bytes * n ≤ 281474976710656 ∧ n ≤ maxLen) := made_few i0.bytes n n 1 (by decide) HI0.out.2.2.2 (by omega)
  have q1 : wrap64 (n : Int) = (n : Int) := by unfold wrap64; omega
  have HRW : Hid (Rw w b off l ∧ b < w.heap.size ∧ l.length = n ∧ n ≤ 1000) := ⟨h, hb, hl, hn⟩
  clear hi0 hz0 hz1 hz2 h hb hl HSC
  go_enter Tryd.func68, Tryd.ntmps68
  go_wp2_with (first
    | (at_make; go_must (refine wpList_make_full _ rfl _ _ 23 rfl w.heap.size 5 i0 (.int .u8 0) 1 Tryd.underlying23 HI0.out.1 HI0.out.2.1 HI0.out.2.2.1 .i64 .i64 (n : Nat) (n : Nat) n rfl rfl rfl rfl HMF.out.1 HMF.out.2 (Nat.le_refl _) ?_; intro w2 hown hgrow; have hlo : Below w.heap.size w w2 := ⟨hgrow.os, hgrow.tape, hgrow.output, hgrow.size, fun c hc => hgrow.block c hc (by simp)⟩; have HX2 : Hid ((∃ cu, Bx w2 w.heap.size 5 cu ∧ Cu n 0 G cu) ∧ Below w.heap.size w w2) := ⟨⟨_, (own_full1 hown).1, by rw [show (Value.int .u8 0).cells = #[.int .u8 0] from rfl, Nat.mul_one, toList_madeCells_one]; exact Cu.zero n G⟩, hlo⟩; clear hown hgrow hlo)))
  obtain ⟨g, HBB⟩ : ∃ g, Hid (w.heap.size = g) := ⟨_, rfl⟩
  rw [HBB.out] at HX2 ⊢
  go_loopw [13] (fun vi wr => ∃ k : Nat, k ≤ n ∧ vi = .int .i64 (k : Nat) ∧ Hid ((∃ cu, Bx wr g 5 cu ∧ Cu n k G cu) ∧ Below g w wr)) (fun vi _ => n - (intOf vi).toNat)
  case atStart => exact ⟨0, by omega, rfl, HX2.out⟩
  case round =>
    obtain ⟨k, hk, rfl, HI⟩ := hrel
    clear HX2
    by_cases hlt : k < n
    · obtain ⟨⟨cu, hcu, hC⟩, hbl⟩ := HI.out
      obtain ⟨x, hx⟩ := hC.2.2 k hlt
      have c0 : wr.cell? ⟨g, k, none⟩ = some (.int .u8 x) := hcu.cell k _ hx
      have f0 : wr.frozen? ⟨g, k, none⟩ = false := hcu.frozen k
      obtain ⟨z, HZ⟩ : ∃ z : F, Hid (l.getD k 0 = z) := ⟨_, rfl⟩
      have c1 : wr.cell? ⟨b, off + k, none⟩ = some (.int .u8 (z.1 : Nat)) := by
        rw [← HZ.out, hbl.cell (by show b < g; have := HBB.out; have := HRW.out.2.1; omega)]
        exact HRW.out.1 k (by have := HRW.out.2.2.1; omega)
      have g0 : (0 : Int) ≤ (k : Int) := by omega
      have g1 : (k : Int) < (n : Int) := by omega
      have H1 : Hid (∀ u, Calls Tryd.prog 20 #[.int .u8 (z.1 : Nat), .int .u8 (q.1 : Nat)] u fun e w' => e = .returned (.int .u8 ((G k).1 : Nat)) ∧ w' = u) := fun u => by
        have e := timesF z q u
        rw [← HG.out]
        show Calls _ _ _ _ fun e w' => e = .returned (.int .u8 ((fm (l.getD k 0) q).1 : Nat)) ∧ w' = u
        rw [HZ.out]
        exact e
      have HN2 : Hid ((∃ cu, Bx (wr.setCell ⟨g, k, none⟩ (.int .u8 ((G k).1 : Nat))) g 5 cu ∧ Cu n (k + 1) G cu) ∧ Below g w (wr.setCell ⟨g, k, none⟩ (.int .u8 ((G k).1 : Nat)))) := ⟨⟨_, hcu.set k _, hC.next hlt⟩, hbl.setCell (Nat.le_refl _) _⟩
      generalize (G k).1 = ek at H1 HN2
      clear hcu hC hbl HI
      go_wp2_with (first
        | (go_at_call 20; refine (H1.out _).mono ?_; rintro e1 w1 ⟨rfl, hw⟩; obtain rfl := hw.symm; clear hw))
      go_roundw
      case rel => exact ⟨k + 1, by omega, by go_num, HN2.out⟩
      case measure => simp [intOf]; omega
    · obtain rfl : k = n := by omega
      obtain ⟨⟨cu, hcu, hC⟩, hbl⟩ := HI.out
      have h1 : ¬ (k : Int) < (k : Int) := Int.lt_irrefl _
      have HC : Hid (Bx wr g 5 (fc ((List.range k).map G)) ∧ Below g w wr) := by rw [← hC.all]; exact ⟨hcu, hbl⟩
      clear hcu hC hbl HI
      go_wp2
      go_ret
      exact ⟨g, rfl, by first | exact Nat.le_refl _ | (rw [HBB.out]; exact Nat.le_refl _), HC.out.1, by first | exact HC.out.2 | (rw [HBB.out]; exact HC.out.2)⟩
end Go.Proofs.YtinmhgackihakaaDoor
namespace Go.Proofs.YtinmhgackihakaaDoor
open Go.RowKit
set_option linter.unusedVariables false
set_option linter.unusedSimpArgs false
set_option maxRecDepth 100000
/-- withRoot's list as far as it is written. -/
def rtL (l : List F) (q : F) : Nat → List F
  | 0 => List.replicate (l.length + 1) 0
  | k + 1 => ((rtL l q k).set k (fa ((rtL l q k).getD k 0) (l.getD k 0))).set (k + 1) (fm (l.getD k 0) q)
theorem rtL_len (l : List F) (q : F) : ∀ k, (rtL l q k).length = l.length + 1
  | 0 => by simp [rtL]
  | k + 1 => by simp [rtL, rtL_len l q k]
theorem rtL_at (l : List F) (q : F) : ∀ k, k ≤ l.length → ∀ i, (rtL l q k).getD i 0 = if i < k then fa (l.getD i 0) (if i = 0 then 0 else fm (l.getD (i - 1) 0) q) else if i = k then (if i = 0 then 0 else fm (l.getD (i - 1) 0) q) else 0
  | 0, _, i => by
    simp only [rtL, Nat.not_lt_zero, if_false]
    have e : (List.replicate (l.length + 1) (0 : F)).getD i 0 = 0 := by
      rw [List.getD_eq_getElem?_getD, List.getElem?_replicate]
      split <;> rfl
    rw [e]
    by_cases h : i = 0
    · subst h; rfl
    · rw [if_neg h]
  | k + 1, hk, i => by
    have ih := rtL_at l q k (by omega)
    have hL := rtL_len l q k
    show (((rtL l q k).set k _).set (k + 1) _).getD i 0 = _
    rw [List.getD_eq_getElem?_getD, List.getElem?_set]
    by_cases h1 : k + 1 = i
    · subst h1
      rw [if_pos rfl, if_pos (by rw [List.length_set, hL]; omega), if_neg (by omega), if_pos rfl, if_neg (by omega)]
      rfl
    · rw [if_neg h1, List.getElem?_set]
      by_cases h2 : k = i
      · subst h2
        rw [if_pos rfl, if_pos (by rw [hL]; omega), if_pos (by omega)]
        show fa _ _ = _
        rw [ih k, if_neg (by omega), if_pos rfl, fa_comm]
      · rw [if_neg h2, ← List.getD_eq_getElem?_getD, ih i]
        by_cases h3 : i < k
        · rw [if_pos h3]; exact (if_pos (by omega)).symm
        · rw [if_neg h3, if_neg (show ¬ i = k by omega), if_neg (show ¬ i < k + 1 by omega), if_neg (show ¬ i = k + 1 by omega)]
theorem rtL_all (l : List F) (q : F) : rtL l q l.length = wrL l q := by
  apply List.ext_getElem?
  intro i
  by_cases hi : i < l.length + 1
  · have a : (rtL l q l.length)[i]? = some ((rtL l q l.length).getD i 0) := by
      rw [List.getD_eq_getElem?_getD, List.getElem?_eq_getElem (by rw [rtL_len]; exact hi)]; rfl
    have b : (wrL l q)[i]? = some ((wrL l q).getD i 0) := by
      rw [List.getD_eq_getElem?_getD, List.getElem?_eq_getElem (by rw [wrL_len]; exact hi)]; rfl
    rw [a, b]
    congr 1
    rw [rtL_at l q _ (Nat.le_refl _)]
    have e : (wrL l q).getD i 0 = fa ((l ++ [0]).getD i 0) ((0 :: sclL l q).getD i 0) := by
      unfold wrL addL
      rw [List.getD_eq_getElem?_getD, List.getElem?_map, List.getElem?_range (by simpa using hi)]
      rfl
    rw [e]
    have e2 : (0 :: sclL l q).getD i 0 = if i = 0 then 0 else fm (l.getD (i - 1) 0) q := by
      cases i with
      | zero => rfl
      | succ i =>
        rw [if_neg (by omega)]
        show (sclL l q).getD i 0 = _
        exact getD_map0 l (fun c => fm c q) (by first | exact zero_fm q | simp) i
    rw [e2]
    by_cases h1 : i < l.length
    · rw [if_pos h1]
      congr 1
      rw [List.getD_eq_getElem?_getD, List.getD_eq_getElem?_getD, List.getElem?_append_left h1]
    · obtain rfl : i = l.length := by omega
      rw [if_neg h1, if_pos rfl]
      have e3 : (l ++ [0]).getD l.length 0 = (0 : F) := by
        rw [List.getD_eq_getElem?_getD, List.getElem?_append_right (Nat.le_refl _), Nat.sub_self]; rfl
      rw [e3, zero_fa]
  · rw [List.getElem?_eq_none (by rw [rtL_len]; omega), List.getElem?_eq_none (by rw [wrL_len]; omega)]
theorem fc_repD (n : Nat) : fc (List.replicate n 0) = List.replicate n (.int .u8 0) := by unfold fc; rw [List.map_replicate]; rfl
set_option maxHeartbeats 1600000 in
/-- withRoot. -/
theorem root_ok (b off n c N : Nat) (q : F) (l : List F) (w : World) (hl : l.length = n) (hNN : N = n + 1) (hn : n ≤ 1000) (h : Rw w b off l) (hb : b < w.heap.size) :
    Calls Tryd.prog 67 #[.slice (some ⟨b, off, none⟩) n c, .int .u8 (q.1 : Nat)] w fun e w' => Hid (∃ g, e = .returned (.slice (some ⟨g, 0, none⟩) N N) ∧ w.heap.size ≤ g ∧ Bx w' g 5 (fc (wrL l q)) ∧ Below w.heap.size w w') := by
  obtain ⟨S, HS⟩ : ∃ S : Nat → List F, Hid (rtL l q = S) := ⟨_, rfl⟩
  have HSA : Hid (S n = wrL l q ∧ S 0 = List.replicate N 0 ∧ (∀ k, (S k).length = N) ∧ ∀ k, S (k + 1) = ((S k).set k (fa ((S k).getD k 0) (l.getD k 0))).set (k + 1) (fm (l.getD k 0) q)) := by
    rw [← HS.out, ← hl]
    exact ⟨rtL_all l q, by rw [hNN, ← hl]; rfl, fun k => by rw [rtL_len, hNN, hl], fun k => rfl⟩
  rw [← HSA.out.1]
  obtain ⟨i0, hi0, hz0, hz1, hz2⟩ := info_parts Tryd.infoB
  have HI0 : Hid (Tryd.prog.info? 5 = some i0 ∧ i0.zero = some (.int .u8 0) ∧ i0.size = 1 ∧ i0.bytes = 1) := ⟨hi0, hz0, hz1, hz2⟩
  have HMF : Hid (i0.bytes * N ≤ 281474976710656 ∧ N ≤ maxLen) := made_few i0.bytes N N 1 (by decide) HI0.out.2.2.2 (by omega)
  have HRW : Hid (Rw w b off l ∧ b < w.heap.size ∧ l.length = n ∧ n ≤ 1000 ∧ N = n + 1) := ⟨h, hb, hl, hn, hNN⟩
  have HN1 : Hid ((n : Int) + 1 = (N : Int)) := by show (n : Int) + 1 = (N : Int); omega
  clear hi0 hz0 hz1 hz2 h hb hl hNN
  go_enter Tryd.func67, Tryd.ntmps67
  go_wp2_with (first
    | (at_make; try rw [HN1.out]; go_must (refine wpList_make_full _ rfl _ _ 23 rfl w.heap.size 5 i0 (.int .u8 0) 1 Tryd.underlying23 HI0.out.1 HI0.out.2.1 HI0.out.2.2.1 .i64 .i64 (N : Nat) (N : Nat) N rfl rfl rfl rfl HMF.out.1 HMF.out.2 (Nat.le_refl _) ?_; intro w2 hown hgrow; have hlo : Below w.heap.size w w2 := ⟨hgrow.os, hgrow.tape, hgrow.output, hgrow.size, fun c hc => hgrow.block c hc (by simp)⟩; have HX2 : Hid (Bx w2 w.heap.size 5 (fc (S 0)) ∧ Below w.heap.size w w2) := ⟨by rw [HSA.out.2.1, fc_repD]; have q := (own_full1 hown).1; rw [show (Value.int .u8 0).cells = #[.int .u8 0] from rfl, Nat.mul_one, toList_madeCells_one] at q; exact q, hlo⟩; clear hown hgrow hlo)))
  obtain ⟨g, HBB⟩ : ∃ g, Hid (w.heap.size = g) := ⟨_, rfl⟩
  rw [HBB.out] at HX2 ⊢
  go_loopw [14] (fun vi wr => ∃ k : Nat, k ≤ n ∧ vi = .int .i64 (k : Nat) ∧ Hid (Bx wr g 5 (fc (S k)) ∧ Below g w wr)) (fun vi _ => n - (intOf vi).toNat)
  case atStart => exact ⟨0, by omega, rfl, HX2.out⟩
  case round =>
    obtain ⟨k, hk, rfl, HI⟩ := hrel
    clear HX2 HN1
    by_cases hlt : k < n
    · obtain ⟨hcu, hbl⟩ := HI.out
      obtain ⟨z, HZ⟩ : ∃ z : F, Hid (l.getD k 0 = z) := ⟨_, rfl⟩
      obtain ⟨x, HX⟩ : ∃ z : F, Hid ((S k).getD k 0 = z) := ⟨_, rfl⟩
      have hkN : k < N := by have := HRW.out.2.2.2.2; omega
      have hkN2 : k + 1 < N := by have := HRW.out.2.2.2.2; omega
      have hat : ∀ (m : List F) (j : Nat) (t : F), m.length = N → j < N → m.getD j 0 = t → (fc m)[j]? = some (.int .u8 (t.1 : Nat)) := fun m j t hm hj e => by rw [fc_at m j (by omega), e]
      have c0 : wr.cell? ⟨g, k, none⟩ = some (.int .u8 (x.1 : Nat)) := hcu.cell k _ (hat _ k x (HSA.out.2.2.1 k) hkN HX.out)
      have f0 : wr.frozen? ⟨g, k, none⟩ = false := hcu.frozen k
      have c1 : wr.cell? ⟨b, off + k, none⟩ = some (.int .u8 (z.1 : Nat)) := by
        rw [← HZ.out, hbl.cell (by show b < g; have := HBB.out; have := HRW.out.2.1; omega)]
        exact HRW.out.1 k (by have := HRW.out.2.2.1; omega)
      have HXZ : Hid (bits .xor .u8 ((x.1 : Nat) : Int) ((z.1 : Nat) : Int) = (((fa x z).1 : Nat) : Int)) := xorF x z
      obtain ⟨xz, HXZ2⟩ : ∃ q : F, Hid (fa x z = q) := ⟨_, rfl⟩
      rw [HXZ2.out] at HXZ
      obtain ⟨M1, HM1⟩ : ∃ q : List F, Hid ((S k).set k xz = q) := ⟨_, rfl⟩
      have HM1L : Hid (M1.length = N ∧ S (k + 1) = M1.set (k + 1) (fm z q)) := by
        rw [← HM1.out]
        refine ⟨by rw [List.length_set]; exact HSA.out.2.2.1 k, ?_⟩
        rw [HSA.out.2.2.2 k, HX.out, HZ.out, HXZ2.out]
      have HB1 : Hid (Bx (wr.setCell ⟨g, k, none⟩ (.int .u8 (xz.1 : Nat))) g 5 (fc M1) ∧ Below g w (wr.setCell ⟨g, k, none⟩ (.int .u8 (xz.1 : Nat)))) := ⟨by rw [← HM1.out, fc_set]; exact hcu.set k _, hbl.setCell (Nat.le_refl _) _⟩
      have g0 : (0 : Int) ≤ (k : Int) := by omega
      have g1 : (k : Int) < (n : Int) := by omega
      have g2 : (k : Int) < (N : Int) := by omega
      clear hcu hbl HI
      go_upto_region 6 with fail
      rw [HXZ.out]
      generalize wr.setCell ⟨g, k, none⟩ (.int .u8 (xz.1 : Nat)) = wq at HB1 ⊢
      clear c0 f0 c1
      obtain ⟨y, HY⟩ : ∃ z : F, Hid (M1.getD (k + 1) 0 = z) := ⟨_, rfl⟩
      have c3 : wq.cell? ⟨g, k + 1, none⟩ = some (.int .u8 (y.1 : Nat)) := HB1.out.1.cell (k + 1) _ (hat _ _ y HM1L.out.1 hkN2 HY.out)
      have f3 : wq.frozen? ⟨g, k + 1, none⟩ = false := HB1.out.1.frozen (k + 1)
      have H1 : Hid (∀ u, Calls Tryd.prog 20 #[.int .u8 (z.1 : Nat), .int .u8 (q.1 : Nat)] u fun e w' => e = .returned (.int .u8 ((fm z q).1 : Nat)) ∧ w' = u) := fun u => timesF z q u
      have HN2 : Hid (Bx (wq.setCell ⟨g, k + 1, none⟩ (.int .u8 ((fm z q).1 : Nat))) g 5 (fc (S (k + 1))) ∧ Below g w (wq.setCell ⟨g, k + 1, none⟩ (.int .u8 ((fm z q).1 : Nat)))) := ⟨by rw [HM1L.out.2, fc_set]; exact HB1.out.1.set (k + 1) _, HB1.out.2.setCell (Nat.le_refl _) _⟩
      generalize (fm z q).1 = zq at H1 HN2
      have g3 : (0 : Int) ≤ (k : Int) + 1 := by omega
      have g4 : (k : Int) + 1 < (N : Int) := by omega
      clear hat HM1L HXZ HB1
      go_upto_region 7 with (first
        | (go_at_call 20; refine (H1.out _).mono ?_; rintro e1 w1 ⟨rfl, hw⟩; obtain rfl := hw.symm; clear hw)
        | fail)
      go_wp2
      exact ⟨⟨k + 1, by omega, by go_num, HN2⟩, by simp [intOf]; omega⟩
    · obtain rfl : k = n := by omega
      have h1 : ¬ (k : Int) < (k : Int) := Int.lt_irrefl _
      go_wp2
      go_ret
      exact ⟨g, rfl, by first | exact Nat.le_refl _ | (rw [HBB.out]; exact Nat.le_refl _), HI.out.1, by first | exact HI.out.2 | (rw [HBB.out]; exact HI.out.2)⟩
end Go.Proofs.YtinmhgackihakaaDoor
