import Derived.Test.YtmfnhdflmnmooaaSgb
import Derived.Below
import Derived.ProofKit
import Derived.Deep.RegionHeld3
import Derived.BigRegion
import Derived.BigQuiet
import Derived.Deep.QuietTactic
import Derived.Laws.Bits64
import Derived.Deep.Cut
namespace Go.Proofs.Ytmfnhdflmnmooaa.Sx
open Go.RowKit
set_option linter.unusedVariables false
set_option linter.unusedSimpArgs false
structure Rot where
  on : Bool
  fr : Nat
  to : Nat
  back : Bool
  mode : Int
  hot : Int
  done : Nat
  ao : Int
  az : Int
  act : Bool
  cnt : Int
  sum : ByteArray
abbrev rotC (r : Rot) : Array Value := #[.bool r.on, .int .u64 (r.fr : Nat), .int .u64 (r.to : Nat), .bool r.back, .int .i64 r.mode, .int .u64 r.hot, .int .u64 (r.done : Nat), .int .i64 r.ao, .int .i64 r.az, .bool r.act, .int .u64 r.cnt, .string r.sum]
def segX (n : Nat) (r : Rot) : Sg := if r.back then (0, n - r.done, r.fr) else (0, r.done, r.to)
def segY (n : Nat) (r : Rot) : Sg := if r.back then (n - r.done, r.done, r.to) else (r.done, n - r.done, r.fr)
/-- Two segments in a block. -/
structure Two (w : World) (g : Nat) (x y : Sg) : Prop where
  lt : g < w.heap.size
  c0 : w.cell? ⟨g, 0, none⟩ = some (.int .u64 (x.1 : Nat))
  c1 : w.cell? ⟨g, 1, none⟩ = some (.int .u64 (x.2.1 : Nat))
  c2 : w.cell? ⟨g, 2, none⟩ = some (.int .u64 (x.2.2 : Nat))
  c3 : w.cell? ⟨g, 3, none⟩ = some (.int .u64 (y.1 : Nat))
  c4 : w.cell? ⟨g, 4, none⟩ = some (.int .u64 (y.2.1 : Nat))
  c5 : w.cell? ⟨g, 5, none⟩ = some (.int .u64 (y.2.2 : Nat))
theorem two_new (w : World) (o : Obj) (x y : Sg) : Two ((w.alloc o).alloc (.cells #[.int .u64 (x.1 : Nat), .int .u64 (x.2.1 : Nat), .int .u64 (x.2.2 : Nat), .int .u64 (y.1 : Nat), .int .u64 (y.2.1 : Nat), .int .u64 (y.2.2 : Nat)] 97)) (w.heap.size + 1) x y := by
  have q := rangeNew (w.alloc o) #[.int .u64 (x.1 : Nat), .int .u64 (x.2.1 : Nat), .int .u64 (x.2.2 : Nat), .int .u64 (y.1 : Nat), .int .u64 (y.2.1 : Nat), .int .u64 (y.2.2 : Nat)] 97
  rw [World.size_alloc] at q
  exact ⟨by simp, q 0 _ rfl, q 1 _ rfl, q 2 _ rfl, q 3 _ rfl, q 4 _ rfl, q 5 _ rfl⟩
theorem below_two (w : World) (o p : Obj) : Below w.heap.size w ((w.alloc o).alloc p) := ((Below.refl _ w).alloc (Nat.le_refl _) _).alloc (by simp) _
set_option maxRecDepth 100000 in
set_option maxHeartbeats 4000000 in
theorem segments_ok (n : Nat) (r : Rot) (hn : n ≤ 4294967296) (hd : r.done ≤ n) (w : World) : Calls Try.prog 24 #[.int .u64 (n : Nat), .agg (rotC r)] w fun e w' => ∃ g, e = .returned (.func (.func 53) #[] #[.pointer (some ⟨g, 0, none⟩)]) ∧ Two w' g (segX n r) (segY n r) ∧ Below w.heap.size w w' := by
  obtain ⟨on, fr, to, back, mode, hot, done, ao, az, act, cnt, sum⟩ := r
  have hw : IntKind.u64.wrap ((n : Int) - (done : Nat)) = ((n - done : Nat) : Int) := by
    have hd' : done ≤ n := hd
    rw [IntKind.wrap_u64]
    omega
  obtain ⟨k, hk⟩ : ∃ k : Nat, k = n - done := ⟨_, rfl⟩
  rw [← hk] at hw
  simp only [segX, segY]
  rw [← hk]
  clear hk
  cases back with
  | false =>
    go_enter Try.func24, Try.ntmps24
    go_wp2
    go_ret
    exact ⟨_, rfl, two_new w _ (0, done, to) (done, k, fr), below_two _ _ _⟩
  | true =>
    go_enter Try.func24, Try.ntmps24
    go_wp2
    go_ret
    exact ⟨_, rfl, two_new w _ (0, k, fr) (k, done, to), below_two _ _ _⟩
end Go.Proofs.Ytmfnhdflmnmooaa.Sx
