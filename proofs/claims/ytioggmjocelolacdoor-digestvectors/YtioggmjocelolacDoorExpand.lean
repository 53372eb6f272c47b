import Derived.Test.YtioggmjocelolacDoorPart06
import Derived.Laws.AppendOwnNone
import Derived.Laws.MakeOwn
import Derived.Deep.DeepMust
namespace Go.Proofs.YtioggmjocelolacDoor
open Go.RowKit
set_option linter.unusedVariables false
set_option linter.unusedSimpArgs false

/-- The blocks of Expand, and all of them so far. -/
def expT (h : Int) (key info : List Int) : Nat → List Int
  | 0 => []
  | i + 1 => hmac h key (expT h key info i ++ (info ++ [((i + 1 : Nat) : Int)]))
def expL (h : Int) (key info : List Int) : Nat → List Int
  | 0 => []
  | i + 1 => expL h key info i ++ expT h key info (i + 1)
theorem hmac_len2 {h : Int} (k : Known h) (key zs : List Int) : (hmac h key zs).length = szOf h := macL_length k _ _ _
theorem expL_length {h : Int} (k : Known h) (key info : List Int) : ∀ i, (expL h key info i).length = i * szOf h
  | 0 => by simp [expL]
  | i + 1 => by rw [expL, List.length_append, expL_length k key info i, expT, hmac_len2 k, Nat.succ_mul]
/-- Fewer are the beginning of more. -/
theorem expL_prefix {h : Int} (key info : List Int) (i : Nat) : ∀ j, ∃ r, expL h key info (i + j) = expL h key info i ++ r
  | 0 => ⟨[], by simp⟩
  | j + 1 => by
    obtain ⟨r, hr⟩ := expL_prefix key info i j
    exact ⟨r ++ expT h key info (i + j + 1), by rw [← Nat.add_assoc, expL, hr, List.append_assoc]⟩
theorem parts3_alloc {u : World} (t : TypeId) (x y z : Value) (xs ys zs : List Int) (g : Nat) (hx : View u x xs) (hy : View u y ys) (hz : View u z zs) (hg : u.heap.size ≠ g) (hox : xs ≠ [] → ∀ b off l c, x = .slice (some ⟨b, off, none⟩) l c → b ≠ g) (hoy : ys ≠ [] → ∀ b off l c, y = .slice (some ⟨b, off, none⟩) l c → b ≠ g) (hoz : zs ≠ [] → ∀ b off l c, z = .slice (some ⟨b, off, none⟩) l c → b ≠ g) : Parts (u.alloc (.cells #[x, y, z] t)) g (.slice (some ⟨u.heap.size, 0, none⟩) 3 3) [xs, ys, zs] := by
  refine ⟨_, 3, rfl, by simp, by simp [maxLen], .inr ⟨u.heap.size, 0, rfl, hg, fun i hi => ?_⟩⟩
  have hi' : i < 3 := by simpa using hi
  match i, hi' with
  | 0, _ => exact ⟨x, World.cell?_alloc_at _ _ _ _ rfl, hx.kept (fun q hq => Below.heap_alloc u _ q hq), hox⟩
  | 1, _ => exact ⟨y, World.cell?_alloc_at _ _ _ _ rfl, hy.kept (fun q hq => Below.heap_alloc u _ q hq), hoy⟩
  | 2, _ => exact ⟨z, World.cell?_alloc_at _ _ _ _ rfl, hz.kept (fun q hq => Below.heap_alloc u _ q hq), hoz⟩

set_option maxHeartbeats 800000 in
set_option maxRecDepth 100000 in
theorem mayExpand_ok (h : Int) (p i n : Nat) (w : World) (k : Hid (Known h)) (hp1 : Hid (szOf h ≤ p)) (hp : (p : Int) ≤ 33554432) (hi : (i : Int) ≤ 33554367) (hn1 : (1 : Int) ≤ n) (hn : Hid ((n : Int) ≤ 255 * szOf h)) :
    Calls Tryd.prog 63 #[.int .i64 h, .int .i64 p, .int .i64 i, .int .i64 n] w fun e w' => e = .returned (.int .i64 0) ∧ w' = w := by
  obtain ⟨sz, HSZ⟩ : ∃ sz : Nat, Hid (sz = szOf h) := ⟨_, (show _ = _ from rfl)⟩
  have hs0 : (0 : Int) < sz := by rw [HSZ.out]; rcases szOf_known k.out with e | e | e | e <;> rw [e] <;> decide
  have hs : (sz : Int) ≤ 64 := by rw [HSZ.out]; have := szOf_le k.out; omega
  have h1 : ¬ ((p : Int) < sz) := by rw [HSZ.out]; have := hp1.out; omega
  have h2 : ¬ ((255 : Int) * (sz : Int) < n) := by rw [HSZ.out]; have := hn.out; omega
  have h3 : ¬ ((n : Int) < 1) := by omega
  have h4 : ((sz : Int) == 0) = false := by simp; omega
  go_enter Tryd.func63, Tryd.ntmps63
  go_wp2_with (first | (go_at_call 46; refine (size_known k.out _).mono ?_; rintro e1 w1 ⟨rfl, hw1⟩; obtain rfl := hw1.symm; rw [← HSZ.out]) | fail)
  go_ret
  exact ⟨rfl, rfl⟩
end Go.Proofs.YtioggmjocelolacDoor
