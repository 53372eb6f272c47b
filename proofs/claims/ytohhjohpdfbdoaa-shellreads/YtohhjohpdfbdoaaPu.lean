import Derived.Test.YtohhjohpdfbdoaaProg
import Derived.Laws.BytesArg
import Derived.WalkKit
import Derived.Below
namespace Go.Proofs.Ytohhjohpdfbdoaa
open Go.RowKit
set_option linter.unusedVariables false
/-- A string's bytes as numbers. -/
def nums (s : ByteArray) : List Int := s.data.toList.map fun b => (b.toNat : Int)
theorem nums_length (s : ByteArray) : (nums s).length = s.size := by
  unfold nums
  rw [List.length_map, Array.length_toList]
  rfl
theorem nums_at (s : ByteArray) (i : Nat) (h : i < s.size) : (nums s).getD i 0 = ((s[i]'h).toNat : Int) := by
  have h' : i < (nums s).length := by rw [nums_length]; exact h
  rw [List.getD_eq_getElem?_getD, List.getElem?_eq_getElem h']
  simp [nums]
  rfl
theorem nums_range (s : ByteArray) (i : Nat) : 0 ≤ (nums s).getD i 0 ∧ (nums s).getD i 0 < 256 := by
  by_cases h : i < s.size
  · rw [nums_at s i h]
    have := (s[i]'h).toNat_lt
    omega
  · rw [List.getD_eq_getElem?_getD, List.getElem?_eq_none (by rw [nums_length]; omega)]
    simp
/-- The byte that comes; 0 at the end. -/
def nx (s : ByteArray) (i : Nat) : Int := (nums s).getD i 0
theorem nx_end (s : ByteArray) : nx s s.size = 0 := by
  unfold nx
  rw [List.getD_eq_getElem?_getD, List.getElem?_eq_none (by rw [nums_length]; omega)]
  rfl
theorem nx_at (s : ByteArray) (i : Nat) (h : i < s.size) : nx s i = ((s[i]'h).toNat : Int) := nums_at s i h
theorem nx_range (s : ByteArray) (i : Nat) : 0 ≤ nx s i ∧ nx s i < 256 := nums_range s i
/-- What a line has said so far. -/
structure Acc where
  cmd : List Int
  name : List Int
  opts : List (List Int × List Int)
  f : Nat
inductive St where
  | ahead | command (w : List Int) | second (w : List Int) | named (w : List Int) | key (w : List Int) | begun (w : List Int)
  | bare (w v : List Int) | quoted (w v : List Int) | stroke (w v : List Int) | first (w v : List Int) | other (w v : List Int) (h : Int) | shut (w v : List Int) | comment
def fine (c : Int) : Prop := c = 9 ∨ 32 ≤ c ∧ c ≤ 126
instance (c : Int) : Decidable (fine c) := by unfold fine; infer_instance
def blank (c : Int) : Prop := c = 32 ∨ c = 9
instance (c : Int) : Decidable (blank c) := by unfold blank; infer_instance
def letter (c : Int) : Prop := 97 ≤ c ∧ c ≤ 122
instance (c : Int) : Decidable (letter c) := by unfold letter; infer_instance
def digit (c : Int) : Prop := 48 ≤ c ∧ c ≤ 57
instance (c : Int) : Decidable (digit c) := by unfold digit; infer_instance
/-- A digit or a low line. -/
def mark (c : Int) : Prop := digit c ∨ c = 95
instance (c : Int) : Decidable (mark c) := by unfold mark; infer_instance
def hexa (c : Int) : Int := if 48 ≤ c ∧ c ≤ 57 then c - 48 else if 97 ≤ c ∧ c ≤ 102 then c - 87 else if 65 ≤ c ∧ c ≤ 70 then c - 55 else -1
def Acc.opt (a : Acc) (w v : List Int) : Acc := { a with opts := a.opts ++ [(w, v)] }
def start (f : Nat) (w : List Int) : St := if f = 0 then .command w else if f = 1 then .second w else .key w
/-- A byte more. -/
def step (a : Acc) : St → Int → Option (Acc × St)
  | .ahead, c => if blank c then some (a, .ahead) else if c = 35 then some (a, .comment) else if letter c then some ({ a with f := a.f + 1 }, start a.f [c]) else none
  | .command w, c => if blank c then some ({ a with cmd := w }, .ahead) else if letter c ∧ w.length ≠ 16 then some (a, .command (w ++ [c])) else none
  | .second w, c => if blank c then some ({ a with name := w }, .ahead) else if c = 61 then some (a, .begun w) else
      if (letter c ∨ mark c) ∧ w.length ≠ 16 then some (a, if letter c then .second (w ++ [c]) else .named (w ++ [c])) else none
  | .named w, c => if blank c then some ({ a with name := w }, .ahead) else if (letter c ∨ mark c) ∧ w.length ≠ 16 then some (a, .named (w ++ [c])) else none
  | .key w, c => if c = 61 then some (a, .begun w) else if letter c ∧ w.length ≠ 16 then some (a, .key (w ++ [c])) else none
  | .begun w, c => if blank c then some (a.opt w [], .ahead) else if c = 34 then some (a, .quoted w []) else some (a, .bare w [c])
  | .bare w v, c => if blank c then some (a.opt w v, .ahead) else some (a, .bare w (v ++ [c]))
  | .quoted w v, c => if c = 34 then some (a, .shut w v) else if c = 92 then some (a, .stroke w v) else some (a, .quoted w (v ++ [c]))
  | .stroke w v, c => if c = 120 then some (a, .first w v) else if c = 34 ∨ c = 92 then some (a, .quoted w (v ++ [c])) else none
  | .first w v, c => if 0 ≤ hexa c then some (a, .other w v (hexa c)) else none
  | .other w v h, c => if 0 ≤ hexa c then some (a, .quoted w (v ++ [16 * h + hexa c])) else none
  | .shut w v, c => if blank c then some (a.opt w v, .ahead) else none
  | .comment, c => some (a, .comment)
/-- The line's end. -/
def fin (a : Acc) : St → Option Acc
  | .ahead => some a
  | .command w => some { a with cmd := w }
  | .second w => some { a with name := w }
  | .named w => some { a with name := w }
  | .begun w => some (a.opt w [])
  | .bare w v => some (a.opt w v)
  | .shut w v => some (a.opt w v)
  | .comment => some a
  | _ => none
inductive Res where
  | good (a : Acc)
  | bad (p : Nat)
def run : List Int → Nat → Acc → St → Res
  | [], p, a, st => match fin a st with
    | some a' => .good a'
    | none => .bad p
  | c :: r, p, a, st => if fine c then (match step a st c with
      | some x => run r (p + 1) x.1 x.2
      | none => .bad p) else .bad p
/-- What the line from byte i on says, to one who is in that state. -/
def R (s : ByteArray) (i : Nat) (a : Acc) (st : St) : Res := run ((nums s).drop i) (i + 1) a st
theorem drop_at (s : ByteArray) (i : Nat) (h : i < s.size) : (nums s).drop i = nx s i :: (nums s).drop (i + 1) := by
  have h' : i < (nums s).length := by rw [nums_length]; exact h
  rw [List.drop_eq_getElem_cons h', nx, List.getD_eq_getElem?_getD, List.getElem?_eq_getElem h']
  rfl
theorem R_go (s : ByteArray) (i : Nat) {a a' : Acc} {st st' : St} (h : i < s.size) (hf : fine (nx s i)) (hs : step a st (nx s i) = some (a', st')) : R s i a st = R s (i + 1) a' st' := by
  unfold R
  rw [drop_at s i h, run, if_pos hf, hs]
theorem R_foul (s : ByteArray) (i : Nat) (a : Acc) (st : St) (h : i < s.size) (hf : ¬ fine (nx s i)) : R s i a st = .bad (i + 1) := by
  unfold R
  rw [drop_at s i h, run, if_neg hf]
theorem R_none (s : ByteArray) (i : Nat) {a : Acc} {st : St} (h : i < s.size) (hs : step a st (nx s i) = none) : R s i a st = .bad (i + 1) := by
  by_cases hf : fine (nx s i)
  · unfold R
    rw [drop_at s i h, run, if_pos hf, hs]
  · exact R_foul s i a st h hf
theorem R_end (s : ByteArray) (i : Nat) (h : i = s.size) {a a' : Acc} {st : St} (hf : fin a st = some a') : R s i a st = .good a' := by
  unfold R
  rw [List.drop_of_length_le (by rw [nums_length]; omega), run, hf]
theorem R_short (s : ByteArray) (i : Nat) (h : i = s.size) {a : Acc} {st : St} (hf : fin a st = none) : R s i a st = .bad (i + 1) := by
  unfold R
  rw [List.drop_of_length_le (by rw [nums_length]; omega), run, hf]
/-- A field that a blank or the end follows is over. -/
theorem R_over (s : ByteArray) (i : Nat) {a a' : Acc} {st : St} (hi : i ≤ s.size) (h : i = s.size ∨ blank (nx s i)) (hf : fin a st = some a') (hs : ∀ c, blank c → step a st c = some (a', .ahead)) : R s i a st = R s i a' .ahead := by
  by_cases he : i = s.size
  · rw [R_end s i he hf, R_end s i he (a' := a') rfl]
  · have hb : blank (nx s i) := h.resolve_left he
    have hfi : fine (nx s i) := by unfold blank at hb; unfold fine; omega
    rw [R_go s i (by omega) hfi (hs _ hb), R_go s i (by omega) hfi (a' := a') (st' := .ahead) (by simp [step, hb])]
end Go.Proofs.Ytohhjohpdfbdoaa
