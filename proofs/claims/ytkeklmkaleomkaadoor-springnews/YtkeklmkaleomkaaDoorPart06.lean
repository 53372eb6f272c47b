import Derived.Test.YtkeklmkaleomkaaDoorPart05
import Derived.Test.YtkeklmkaleomkaaDoorRows
import Derived.Test.YtkeklmkaleomkaaDoorPart00
import Derived.ProofKit
import Derived.OpenShut
import Derived.ShutString
import Derived.ChangeOld
import Derived.Below
import Derived.SizedLaws
import Derived.Lib.LaidTab
import Derived.Deep.DeepHandedRow
import Derived.Test.YtkeklmkaleomkaaDoorCards
import Derived.Test.YtkeklmkaleomkaaDoorTie
namespace Go.Proofs.YtkeklmkaleomkaaDoor
open Go.RowKit
set_option linter.unusedVariables false
set_option linter.unusedSimpArgs false
theorem num0 (w : World) : Calls Tryd.prog 10 #[.int .i64 0] w fun e w' => e = .returned (.int .i64 0) ∧ w' = w := by
  go_enter Tryd.func10, Tryd.ntmps10
  go_wp2
  go_ret
  exact ⟨rfl, rfl⟩
set_option maxHeartbeats 1600000 in
set_option maxRecDepth 100000 in
theorem sx_0 (h L n mo : Int) (ea na pa : Option Addr) (en ec nn nc pn pc : Nat) (w : World) (k : Hid (¬ Good h L en nn pn)) :
    Calls Tryd.prog 3 #[.agg #[.int .i64 h, .int .i64 L, .slice ea en ec, .slice na nn nc, .slice pa pn pc], .int .i64 n, .int .i64 mo] w fun e w' => e = .returned (.bool true) ∧ Below w.heap.size w w' := by
  obtain ⟨w0, hw0⟩ : ∃ w0, w0 = w.alloc (.cells #[.int .i64 h, .int .i64 L, .slice ea en ec, .slice na nn nc, .slice pa pn pc] 24) := ⟨_, rfl⟩
  have HB00 : Hid (Below w.heap.size w w0) := by rw [hw0]; exact (Below.refl _ _).alloc (Nat.le_refl _) _
  have HS0 : Hid (w0.heap.size = w.heap.size + 1) := by rw [hw0]; exact size_alloc1 _ _
  have F : ∀ j v, (#[.int .i64 h, .int .i64 L, .slice ea en ec, .slice na nn nc, .slice pa pn pc] : Array Value)[j]? = some v → w0.cell? ⟨w.heap.size, j, none⟩ = some v := fun j v hj => by
    rw [hw0, World.cell?_alloc_at _ 24 _ _ rfl]
    exact hj
  have f0 := F 0 _ rfl
  have f1 := F 1 _ rfl
  have f2 := F 2 _ rfl
  have f3 := F 3 _ rfl
  have f4 := F 4 _ rfl
  clear F
  have HG : Hid (Calls Tryd.prog 8 #[.agg #[.int .i64 h, .int .i64 L, .slice ea en ec, .slice na nn nc, .slice pa pn pc]] w0 fun e w' => Hid (e = .returned (.bool false) ∧ Below w0.heap.size w0 w')) := by
    refine (good_any h L ea na pa en ec nn nc pn pc w0).mono ?_
    rintro e w' ⟨G, q1, q2, q3⟩
    refine ⟨?_, q3⟩
    cases G
    · exact q1
    · exact absurd (q2.1 rfl) k.out
  go_enter Tryd.func3, Tryd.ntmps3
  go_upto_region 1 with fail
  rw [← hw0]
  clear hw0
  go_wp2_with (go_at_call 8; refine HG.out.mono ?_)
  intro e1 w1 hh
  obtain ⟨rfl, hb1⟩ := hh.out
  have HB1 : Hid (Below w.heap.size w w1) := HB00.out.trans (hb1.mono HB00.out.size)
  have g1 : w1.cell? ⟨w.heap.size, 1, none⟩ = some (.int .i64 L) := (World.cell?_of_block (a := ⟨w.heap.size, 1, none⟩) (hb1.block _ (by rw [HS0.out]; exact Nat.lt_succ_self _))).trans f1
  clear hh hb1 HG f0 f1 f2 f3 f4
  go_wp2
  go_ret
  exact ⟨rfl, HB1.out⟩
set_option maxHeartbeats 1600000 in
set_option maxRecDepth 100000 in
theorem sx_1 (h L n mo : Int) (ea na pa : Option Addr) (en ec nn nc pn pc : Nat) (w : World) (k : Hid (Good h L en nn pn)) (c0 : n < 0) :
    Calls Tryd.prog 3 #[.agg #[.int .i64 h, .int .i64 L, .slice ea en ec, .slice na nn nc, .slice pa pn pc], .int .i64 n, .int .i64 mo] w fun e w' => e = .returned (.bool true) ∧ Below w.heap.size w w' := by
  have q0 : decide (n < 0) = true := by simp; omega
  obtain ⟨w0, hw0⟩ : ∃ w0, w0 = w.alloc (.cells #[.int .i64 h, .int .i64 L, .slice ea en ec, .slice na nn nc, .slice pa pn pc] 24) := ⟨_, rfl⟩
  have HB00 : Hid (Below w.heap.size w w0) := by rw [hw0]; exact (Below.refl _ _).alloc (Nat.le_refl _) _
  have HS0 : Hid (w0.heap.size = w.heap.size + 1) := by rw [hw0]; exact size_alloc1 _ _
  have F : ∀ j v, (#[.int .i64 h, .int .i64 L, .slice ea en ec, .slice na nn nc, .slice pa pn pc] : Array Value)[j]? = some v → w0.cell? ⟨w.heap.size, j, none⟩ = some v := fun j v hj => by
    rw [hw0, World.cell?_alloc_at _ 24 _ _ rfl]
    exact hj
  have f0 := F 0 _ rfl
  have f1 := F 1 _ rfl
  have f2 := F 2 _ rfl
  have f3 := F 3 _ rfl
  have f4 := F 4 _ rfl
  clear F
  have HG : Hid (Calls Tryd.prog 8 #[.agg #[.int .i64 h, .int .i64 L, .slice ea en ec, .slice na nn nc, .slice pa pn pc]] w0 fun e w' => Hid (e = .returned (.bool true) ∧ Below w0.heap.size w0 w')) := by
    refine (good_any h L ea na pa en ec nn nc pn pc w0).mono ?_
    rintro e w' ⟨G, q1, q2, q3⟩
    refine ⟨?_, q3⟩
    cases G
    · exact absurd (q2.2 k.out) (by simp)
    · exact q1
  go_enter Tryd.func3, Tryd.ntmps3
  go_upto_region 1 with fail
  rw [← hw0]
  clear hw0
  go_wp2_with (go_at_call 8; refine HG.out.mono ?_)
  intro e1 w1 hh
  obtain ⟨rfl, hb1⟩ := hh.out
  have HB1 : Hid (Below w.heap.size w w1) := HB00.out.trans (hb1.mono HB00.out.size)
  have g1 : w1.cell? ⟨w.heap.size, 1, none⟩ = some (.int .i64 L) := (World.cell?_of_block (a := ⟨w.heap.size, 1, none⟩) (hb1.block _ (by rw [HS0.out]; exact Nat.lt_succ_self _))).trans f1
  clear hh hb1 HG f0 f1 f2 f3 f4
  go_wp2
  go_ret
  exact ⟨rfl, HB1.out⟩
set_option maxHeartbeats 1600000 in
set_option maxRecDepth 100000 in
theorem sx_2 (h L n mo : Int) (ea na pa : Option Addr) (en ec nn nc pn pc : Nat) (w : World) (k : Hid (Good h L en nn pn)) (c0 : ¬ n < 0) (c1 : 500 < n) :
    Calls Tryd.prog 3 #[.agg #[.int .i64 h, .int .i64 L, .slice ea en ec, .slice na nn nc, .slice pa pn pc], .int .i64 n, .int .i64 mo] w fun e w' => e = .returned (.bool true) ∧ Below w.heap.size w w' := by
  have q0 : decide (n < 0) = false := by simp; omega
  have q1 : decide (500 < n) = true := by simp; omega
  obtain ⟨w0, hw0⟩ : ∃ w0, w0 = w.alloc (.cells #[.int .i64 h, .int .i64 L, .slice ea en ec, .slice na nn nc, .slice pa pn pc] 24) := ⟨_, rfl⟩
  have HB00 : Hid (Below w.heap.size w w0) := by rw [hw0]; exact (Below.refl _ _).alloc (Nat.le_refl _) _
  have HS0 : Hid (w0.heap.size = w.heap.size + 1) := by rw [hw0]; exact size_alloc1 _ _
  have F : ∀ j v, (#[.int .i64 h, .int .i64 L, .slice ea en ec, .slice na nn nc, .slice pa pn pc] : Array Value)[j]? = some v → w0.cell? ⟨w.heap.size, j, none⟩ = some v := fun j v hj => by
    rw [hw0, World.cell?_alloc_at _ 24 _ _ rfl]
    exact hj
  have f0 := F 0 _ rfl
  have f1 := F 1 _ rfl
  have f2 := F 2 _ rfl
  have f3 := F 3 _ rfl
  have f4 := F 4 _ rfl
  clear F
  have HG : Hid (Calls Tryd.prog 8 #[.agg #[.int .i64 h, .int .i64 L, .slice ea en ec, .slice na nn nc, .slice pa pn pc]] w0 fun e w' => Hid (e = .returned (.bool true) ∧ Below w0.heap.size w0 w')) := by
    refine (good_any h L ea na pa en ec nn nc pn pc w0).mono ?_
    rintro e w' ⟨G, q1, q2, q3⟩
    refine ⟨?_, q3⟩
    cases G
    · exact absurd (q2.2 k.out) (by simp)
    · exact q1
  go_enter Tryd.func3, Tryd.ntmps3
  go_upto_region 1 with fail
  rw [← hw0]
  clear hw0
  go_wp2_with (go_at_call 8; refine HG.out.mono ?_)
  intro e1 w1 hh
  obtain ⟨rfl, hb1⟩ := hh.out
  have HB1 : Hid (Below w.heap.size w w1) := HB00.out.trans (hb1.mono HB00.out.size)
  have g1 : w1.cell? ⟨w.heap.size, 1, none⟩ = some (.int .i64 L) := (World.cell?_of_block (a := ⟨w.heap.size, 1, none⟩) (hb1.block _ (by rw [HS0.out]; exact Nat.lt_succ_self _))).trans f1
  clear hh hb1 HG f0 f1 f2 f3 f4
  go_wp2
  go_ret
  exact ⟨rfl, HB1.out⟩
set_option maxHeartbeats 1600000 in
set_option maxRecDepth 100000 in
theorem sx_3 (h L n mo : Int) (ea na pa : Option Addr) (en ec nn nc pn pc : Nat) (w : World) (k : Hid (Good h L en nn pn)) (c0 : ¬ n < 0) (c1 : ¬ 500 < n) (c2 : mo < 0) :
    Calls Tryd.prog 3 #[.agg #[.int .i64 h, .int .i64 L, .slice ea en ec, .slice na nn nc, .slice pa pn pc], .int .i64 n, .int .i64 mo] w fun e w' => e = .returned (.bool true) ∧ Below w.heap.size w w' := by
  have q0 : decide (n < 0) = false := by simp; omega
  have q1 : decide (500 < n) = false := by simp; omega
  have q2 : decide (mo < 0) = true := by simp; omega
  obtain ⟨w0, hw0⟩ : ∃ w0, w0 = w.alloc (.cells #[.int .i64 h, .int .i64 L, .slice ea en ec, .slice na nn nc, .slice pa pn pc] 24) := ⟨_, rfl⟩
  have HB00 : Hid (Below w.heap.size w w0) := by rw [hw0]; exact (Below.refl _ _).alloc (Nat.le_refl _) _
  have HS0 : Hid (w0.heap.size = w.heap.size + 1) := by rw [hw0]; exact size_alloc1 _ _
  have F : ∀ j v, (#[.int .i64 h, .int .i64 L, .slice ea en ec, .slice na nn nc, .slice pa pn pc] : Array Value)[j]? = some v → w0.cell? ⟨w.heap.size, j, none⟩ = some v := fun j v hj => by
    rw [hw0, World.cell?_alloc_at _ 24 _ _ rfl]
    exact hj
  have f0 := F 0 _ rfl
  have f1 := F 1 _ rfl
  have f2 := F 2 _ rfl
  have f3 := F 3 _ rfl
  have f4 := F 4 _ rfl
  clear F
  have HG : Hid (Calls Tryd.prog 8 #[.agg #[.int .i64 h, .int .i64 L, .slice ea en ec, .slice na nn nc, .slice pa pn pc]] w0 fun e w' => Hid (e = .returned (.bool true) ∧ Below w0.heap.size w0 w')) := by
    refine (good_any h L ea na pa en ec nn nc pn pc w0).mono ?_
    rintro e w' ⟨G, q1, q2, q3⟩
    refine ⟨?_, q3⟩
    cases G
    · exact absurd (q2.2 k.out) (by simp)
    · exact q1
  go_enter Tryd.func3, Tryd.ntmps3
  go_upto_region 1 with fail
  rw [← hw0]
  clear hw0
  go_wp2_with (go_at_call 8; refine HG.out.mono ?_)
  intro e1 w1 hh
  obtain ⟨rfl, hb1⟩ := hh.out
  have HB1 : Hid (Below w.heap.size w w1) := HB00.out.trans (hb1.mono HB00.out.size)
  have g1 : w1.cell? ⟨w.heap.size, 1, none⟩ = some (.int .i64 L) := (World.cell?_of_block (a := ⟨w.heap.size, 1, none⟩) (hb1.block _ (by rw [HS0.out]; exact Nat.lt_succ_self _))).trans f1
  clear hh hb1 HG f0 f1 f2 f3 f4
  go_wp2
  go_ret
  exact ⟨rfl, HB1.out⟩
set_option maxHeartbeats 1600000 in
set_option maxRecDepth 100000 in
theorem sx_4 (h L n mo : Int) (ea na pa : Option Addr) (en ec nn nc pn pc : Nat) (w : World) (k : Hid (Good h L en nn pn)) (c0 : ¬ n < 0) (c1 : ¬ 500 < n) (c2 : ¬ mo < 0) (c3 : 500 < mo) :
    Calls Tryd.prog 3 #[.agg #[.int .i64 h, .int .i64 L, .slice ea en ec, .slice na nn nc, .slice pa pn pc], .int .i64 n, .int .i64 mo] w fun e w' => e = .returned (.bool true) ∧ Below w.heap.size w w' := by
  have q0 : decide (n < 0) = false := by simp; omega
  have q1 : decide (500 < n) = false := by simp; omega
  have q2 : decide (mo < 0) = false := by simp; omega
  have q3 : decide (500 < mo) = true := by simp; omega
  obtain ⟨w0, hw0⟩ : ∃ w0, w0 = w.alloc (.cells #[.int .i64 h, .int .i64 L, .slice ea en ec, .slice na nn nc, .slice pa pn pc] 24) := ⟨_, rfl⟩
  have HB00 : Hid (Below w.heap.size w w0) := by rw [hw0]; exact (Below.refl _ _).alloc (Nat.le_refl _) _
  have HS0 : Hid (w0.heap.size = w.heap.size + 1) := by rw [hw0]; exact size_alloc1 _ _
  have F : ∀ j v, (#[.int .i64 h, .int .i64 L, .slice ea en ec, .slice na nn nc, .slice pa pn pc] : Array Value)[j]? = some v → w0.cell? ⟨w.heap.size, j, none⟩ = some v := fun j v hj => by
    rw [hw0, World.cell?_alloc_at _ 24 _ _ rfl]
    exact hj
  have f0 := F 0 _ rfl
  have f1 := F 1 _ rfl
  have f2 := F 2 _ rfl
  have f3 := F 3 _ rfl
  have f4 := F 4 _ rfl
  clear F
  have HG : Hid (Calls Tryd.prog 8 #[.agg #[.int .i64 h, .int .i64 L, .slice ea en ec, .slice na nn nc, .slice pa pn pc]] w0 fun e w' => Hid (e = .returned (.bool true) ∧ Below w0.heap.size w0 w')) := by
    refine (good_any h L ea na pa en ec nn nc pn pc w0).mono ?_
    rintro e w' ⟨G, q1, q2, q3⟩
    refine ⟨?_, q3⟩
    cases G
    · exact absurd (q2.2 k.out) (by simp)
    · exact q1
  go_enter Tryd.func3, Tryd.ntmps3
  go_upto_region 1 with fail
  rw [← hw0]
  clear hw0
  go_wp2_with (go_at_call 8; refine HG.out.mono ?_)
  intro e1 w1 hh
  obtain ⟨rfl, hb1⟩ := hh.out
  have HB1 : Hid (Below w.heap.size w w1) := HB00.out.trans (hb1.mono HB00.out.size)
  have g1 : w1.cell? ⟨w.heap.size, 1, none⟩ = some (.int .i64 L) := (World.cell?_of_block (a := ⟨w.heap.size, 1, none⟩) (hb1.block _ (by rw [HS0.out]; exact Nat.lt_succ_self _))).trans f1
  clear hh hb1 HG f0 f1 f2 f3 f4
  go_wp2
  go_ret
  exact ⟨rfl, HB1.out⟩
set_option maxHeartbeats 1600000 in
set_option maxRecDepth 100000 in
theorem sx_5 (h L n mo : Int) (ea na pa : Option Addr) (en ec nn nc pn pc : Nat) (w : World) (k : Hid (Good h L en nn pn)) (c0 : ¬ n < 0) (c1 : ¬ 500 < n) (c2 : ¬ mo < 0) (c3 : ¬ 500 < mo) (c4 : L < 2) :
    Calls Tryd.prog 3 #[.agg #[.int .i64 h, .int .i64 L, .slice ea en ec, .slice na nn nc, .slice pa pn pc], .int .i64 n, .int .i64 mo] w fun e w' => e = .returned (.bool true) ∧ Below w.heap.size w w' := by
  have q0 : decide (n < 0) = false := by simp; omega
  have q1 : decide (500 < n) = false := by simp; omega
  have q2 : decide (mo < 0) = false := by simp; omega
  have q3 : decide (500 < mo) = false := by simp; omega
  have q4 : decide (L < 2) = true := by simp; omega
  obtain ⟨w0, hw0⟩ : ∃ w0, w0 = w.alloc (.cells #[.int .i64 h, .int .i64 L, .slice ea en ec, .slice na nn nc, .slice pa pn pc] 24) := ⟨_, rfl⟩
  have HB00 : Hid (Below w.heap.size w w0) := by rw [hw0]; exact (Below.refl _ _).alloc (Nat.le_refl _) _
  have HS0 : Hid (w0.heap.size = w.heap.size + 1) := by rw [hw0]; exact size_alloc1 _ _
  have F : ∀ j v, (#[.int .i64 h, .int .i64 L, .slice ea en ec, .slice na nn nc, .slice pa pn pc] : Array Value)[j]? = some v → w0.cell? ⟨w.heap.size, j, none⟩ = some v := fun j v hj => by
    rw [hw0, World.cell?_alloc_at _ 24 _ _ rfl]
    exact hj
  have f0 := F 0 _ rfl
  have f1 := F 1 _ rfl
  have f2 := F 2 _ rfl
  have f3 := F 3 _ rfl
  have f4 := F 4 _ rfl
  clear F
  have HG : Hid (Calls Tryd.prog 8 #[.agg #[.int .i64 h, .int .i64 L, .slice ea en ec, .slice na nn nc, .slice pa pn pc]] w0 fun e w' => Hid (e = .returned (.bool true) ∧ Below w0.heap.size w0 w')) := by
    refine (good_any h L ea na pa en ec nn nc pn pc w0).mono ?_
    rintro e w' ⟨G, q1, q2, q3⟩
    refine ⟨?_, q3⟩
    cases G
    · exact absurd (q2.2 k.out) (by simp)
    · exact q1
  go_enter Tryd.func3, Tryd.ntmps3
  go_upto_region 1 with fail
  rw [← hw0]
  clear hw0
  go_wp2_with (go_at_call 8; refine HG.out.mono ?_)
  intro e1 w1 hh
  obtain ⟨rfl, hb1⟩ := hh.out
  have HB1 : Hid (Below w.heap.size w w1) := HB00.out.trans (hb1.mono HB00.out.size)
  have g1 : w1.cell? ⟨w.heap.size, 1, none⟩ = some (.int .i64 L) := (World.cell?_of_block (a := ⟨w.heap.size, 1, none⟩) (hb1.block _ (by rw [HS0.out]; exact Nat.lt_succ_self _))).trans f1
  clear hh hb1 HG f0 f1 f2 f3 f4
  go_wp2
  go_ret
  exact ⟨rfl, HB1.out⟩
end Go.Proofs.YtkeklmkaleomkaaDoor
namespace Go.Proofs.YtkeklmkaleomkaaDoor
open Go.RowKit
set_option linter.unusedVariables false
set_option linter.unusedSimpArgs false
set_option maxHeartbeats 6400000 in
set_option maxRecDepth 100000 in
theorem sx_good (h L : Int) (n m n2 : Nat) (ea na pa : Option Addr) (en ec nn nc pn pc : Nat) (E N P : List Int) (w : World) (k : Hid (Good h L en nn pn)) (hT : Hid (Tables w)) (he : Hid (View w (.slice ea en ec) E)) (hel : Hid (E.length = en)) (hn : Hid (View w (.slice na nn nc) N)) (hnl : Hid (N.length = nn)) (hp : Hid (View w (.slice pa pn pc) P)) (hpl : Hid (P.length = pn)) (hn5 : n ≤ 500) (hm : m ≤ 500) (hn2 : (n : Int) + (m : Int) = (n2 : Nat)) (hL : 2 ≤ L) :
    Calls Tryd.prog 3 #[.agg #[.int .i64 h, .int .i64 L, .slice ea en ec, .slice na nn nc, .slice pa pn pc], .int .i64 (n : Nat), .int .i64 (m : Nat)] w fun e w' => e = .returned (.bool true) ∧ Below w.heap.size w w' := by
  have hT4 := hT.out.size
  have HKn : Hid (Known h) := k.out.1
  have HL1 : Hid (1 ≤ L ∧ L ≤ 16777216) := ⟨k.out.2.1, k.out.2.2.1⟩
  have HEn : Hid (16 ≤ en ∧ en ≤ 65536 ∧ nn ≤ 65536 ∧ pn ≤ 65536) := k.out.2.2.2
  have hn2b : n ≤ n2 ∧ n2 ≤ 1000 := by omega
  have q0 : decide (((n : Nat) : Int) < 0) = false := by simp
  have q1 : decide ((500 : Int) < (n : Nat)) = false := by simp; omega
  have q2 : decide (((m : Nat) : Int) < 0) = false := by simp
  have q3 : decide ((500 : Int) < (m : Nat)) = false := by simp; omega
  have q4 : decide (L < 2) = false := by simp; omega
  obtain ⟨K, HK⟩ : ∃ K, Hid (K = updK h (fun _ => 0) (ones (szOf h)) (E ++ (N ++ P))) := ⟨_, rfl⟩
  obtain ⟨V, HV⟩ : ∃ V, Hid (V = updV h (fun _ => 0) (ones (szOf h)) (E ++ (N ++ P))) := ⟨_, rfl⟩
  obtain ⟨w0, hw0⟩ : ∃ w0, w0 = w.alloc (.cells #[.int .i64 h, .int .i64 L, .slice ea en ec, .slice na nn nc, .slice pa pn pc] 24) := ⟨_, rfl⟩
  have HB00 : Hid (Below w.heap.size w w0) := by rw [hw0]; exact (Below.refl _ _).alloc (Nat.le_refl _) _
  have HS0 : Hid (w0.heap.size = w.heap.size + 1) := by rw [hw0]; exact size_alloc1 _ _
  have F : ∀ j v, (#[.int .i64 h, .int .i64 L, .slice ea en ec, .slice na nn nc, .slice pa pn pc] : Array Value)[j]? = some v → w0.cell? ⟨w.heap.size, j, none⟩ = some v := fun j v hj => by
    rw [hw0, World.cell?_alloc_at _ 24 _ _ rfl]
    exact hj
  have f0 := F 0 _ rfl
  have f1 := F 1 _ rfl
  have f2 := F 2 _ rfl
  have f3 := F 3 _ rfl
  have f4 := F 4 _ rfl
  clear F
  have HG : Hid (Calls Tryd.prog 8 #[.agg #[.int .i64 h, .int .i64 L, .slice ea en ec, .slice na nn nc, .slice pa pn pc]] w0 fun e w' => Hid (e = .returned (.bool true) ∧ Below w0.heap.size w0 w')) := by
    refine (good_any h L ea na pa en ec nn nc pn pc w0).mono ?_
    rintro e w' ⟨G, q1, q2, q3⟩
    refine ⟨?_, q3⟩
    cases G
    · exact absurd (q2.2 k.out) (by simp)
    · exact q1
  have HNew : Hid (∀ u, Below w.heap.size w u → Calls Tryd.prog 9 #[.int .i64 h, .int .i64 L, .slice ea en ec, .slice na nn nc, .slice pa pn pc] u fun e w' => Hid (∃ g, e = .returned (.tuple #[.pointer (some ⟨g, 0, none⟩), .int .i64 0]) ∧ u.heap.size ≤ g ∧ SpAt w' g h K V L 0 ∧ Below u.heap.size u w')) := fun u hu => by
    rw [HK.out, HV.out]
    exact spnew h L ea na pa en ec nn nc pn pc E N P u HKn (hT.out.below hu hT4) HL1.out.1 HL1.out.2 (he.out.kept fun b hb => hu.block b hb) hel (hn.out.kept fun b hb => hu.block b hb) hnl (hp.out.kept fun b hb => hu.block b hb) hpl HEn.out.1 HEn.out.2.1 HEn.out.2.2.1 HEn.out.2.2.2
  have HDr : Hid (∀ (u : World) (g : Nat) (j : Nat) (t : TypeId), j ≤ 1000 → Below w.heap.size w u → w.heap.size ≤ g → SpAt u g h K V L 0 → Calls Tryd.prog 12 #[.pointer (some ⟨g, 0, none⟩), .int .i64 (j : Nat), .slice (some ⟨u.heap.size, 0, none⟩) 1 1] (u.alloc (.cells #[.slice pa pn pc] t)) fun e w' => Hid (∃ b, e = .returned (.tuple #[.slice (some ⟨b, 0, none⟩) j j, .int .i64 0]) ∧ u.heap.size ≤ b ∧ View w' (.slice (some ⟨b, 0, none⟩) j j) (fL (drO h K V P) j) ∧ Touch u w' g 0 131)) := fun u g j t hj hu hg hs => by
    have b1 := below_alloc1 u (.cells #[.slice pa pn pc] t)
    have b01 := hu.trans (b1.mono hu.size)
    have hvp : View u (.slice pa pn pc) P := hp.out.kept fun b hb => hu.block b hb
    have hpt := parts1_alloc (u := u) t (.slice pa pn pc) P g hvp (by have := hs.lt; omega) (fun h0 b off l c e => by have := view_lt hp.out h0 b off l c e; omega)
    have q := spdraw g h K V L 0 j (.slice (some ⟨u.heap.size, 0, none⟩) 1 1) [P] (u.alloc (.cells #[.slice pa pn pc] t)) HKn (hs.below b1) (hT.out.below b01 hT4) (.inr ⟨⟨_, _, _, rfl⟩, hpt⟩) (by show _ ≤ _; have h1 := hpl.out; have h2 := HEn.out; simp; omega) (by show (2 + 1) * 24 ≤ 140737488355328; decide) (by omega) (by omega) (by have := HL1.out; omega) (by omega) (by omega)
    have ef : ([P] : List (List Int)).flatten = P := by simp
    rw [ef] at q
    refine q.mono ?_
    rintro e w' ⟨b, r1, r2, r3, r4, r5⟩
    exact ⟨b, r1, Nat.le_trans b1.size r2, r3, ((Touch.refl u g 0 131).alloc _ hs.lt).trans r5⟩
  have HC : Hid (∀ u : World, (u.heap[w.heap.size]? = w0.heap[w.heap.size]?) → ∀ j v, w0.cell? ⟨w.heap.size, j, none⟩ = some v → u.cell? ⟨w.heap.size, j, none⟩ = some v) := fun u hu j v hv => (World.cell?_of_block (a := ⟨w.heap.size, j, none⟩) hu).trans hv
  have HF : Hid (w0.cell? ⟨w.heap.size, 0, none⟩ = some (.int .i64 h) ∧ w0.cell? ⟨w.heap.size, 1, none⟩ = some (.int .i64 L) ∧ w0.cell? ⟨w.heap.size, 2, none⟩ = some (.slice ea en ec) ∧ w0.cell? ⟨w.heap.size, 3, none⟩ = some (.slice na nn nc) ∧ w0.cell? ⟨w.heap.size, 4, none⟩ = some (.slice pa pn pc)) := ⟨f0, f1, f2, f3, f4⟩
  go_enter Tryd.func3, Tryd.ntmps3
  go_upto_region 1 with fail
  rw [← hw0]
  clear hw0
  go_wp2_with (go_at_call 8; refine HG.out.mono ?_)
  intro e1 w1 hh
  obtain ⟨rfl, hb1⟩ := hh.out
  have HB1 : Hid (Below w.heap.size w w1 ∧ w1.heap[w.heap.size]? = w0.heap[w.heap.size]? ∧ w.heap.size + 1 ≤ w1.heap.size) := ⟨HB00.out.trans (hb1.mono HB00.out.size), hb1.block _ (by rw [HS0.out]; exact Nat.lt_succ_self _), by rw [← HS0.out]; exact hb1.size⟩
  clear hh hb1 HG f0 f1 f2 f3 f4
  have g0 := HC.out w1 HB1.out.2.1 0 _ HF.out.1
  have g1 := HC.out w1 HB1.out.2.1 1 _ HF.out.2.1
  have g2 := HC.out w1 HB1.out.2.1 2 _ HF.out.2.2.1
  have g3 := HC.out w1 HB1.out.2.1 3 _ HF.out.2.2.2.1
  have g4 := HC.out w1 HB1.out.2.1 4 _ HF.out.2.2.2.2
  go_wp2_with (go_at_call 9; refine (HNew.out w1 HB1.out.1).mono ?_)
  intro e2 w2 hh
  obtain ⟨g, rfl, hg2, hs2, hb2⟩ := hh.out
  have HB2 : Hid (Below w.heap.size w w2 ∧ w2.heap[w.heap.size]? = w0.heap[w.heap.size]? ∧ w.heap.size + 1 ≤ g ∧ g < w2.heap.size) := ⟨HB1.out.1.trans (hb2.mono HB1.out.1.size), (hb2.block _ (by have := HB1.out.2.2; omega)).trans HB1.out.2.1, Nat.le_trans HB1.out.2.2 hg2, hs2.lt⟩
  have HS2 : Hid (SpAt w2 g h K V L 0) := hs2
  clear hh hg2 hs2 hb2 HB1 HNew g0 g1 g2 g3 g4
  have HCp : Hid (Calls Tryd.prog 11 #[.pointer (some ⟨g, 0, none⟩)] w2 fun e w' => Hid (∃ g', e = .returned (.pointer (some ⟨g', 0, none⟩)) ∧ w2.heap.size ≤ g' ∧ SpAt w' g' h K V L 0 ∧ Below w2.heap.size w2 w')) := spcopy g h K V L 0 w2 HS2
  go_wp2_with (first | (go_at_call 10; refine (num0 _).mono ?_; rintro e1 wx ⟨rfl, hwx⟩; obtain rfl := hwx.symm) | (go_at_call 11; refine HCp.out.mono ?_))
  intro e3 w3 hh
  obtain ⟨g', rfl, hg3, hs3, hb3⟩ := hh.out
  have HB3 : Hid (Below w.heap.size w w3 ∧ w3.heap[w.heap.size]? = w0.heap[w.heap.size]? ∧ g < g' ∧ g' < w3.heap.size) := ⟨HB2.out.1.trans (hb3.mono HB2.out.1.size), (hb3.block _ (by have := HB2.out.2.2; omega)).trans HB2.out.2.1, by have := HB2.out.2.2; omega, hs3.lt⟩
  have HS3 : Hid (SpAt w3 g h K V L 0 ∧ SpAt w3 g' h K V L 0) := ⟨HS2.out.below hb3, hs3⟩
  clear hh hg3 hs3 hb3 HCp HS2
  have g4 := HC.out w3 HB3.out.2.1 4 _ HF.out.2.2.2.2
  have HD3 : Hid (∀ t, Calls Tryd.prog 12 #[.pointer (some ⟨g, 0, none⟩), .int .i64 (n : Nat), .slice (some ⟨w3.heap.size, 0, none⟩) 1 1] (w3.alloc (.cells #[.slice pa pn pc] t)) fun e w' => Hid (∃ b, e = .returned (.tuple #[.slice (some ⟨b, 0, none⟩) n n, .int .i64 0]) ∧ w3.heap.size ≤ b ∧ View w' (.slice (some ⟨b, 0, none⟩) n n) (fL (drO h K V P) n) ∧ Touch w3 w' g 0 131)) := fun t => HDr.out w3 g n t (by omega) HB3.out.1 (by have := HB2.out.2.2; omega) HS3.out.1
  go_wp2_with (go_at_call 12; refine (HD3.out _).mono ?_)
  intro e4 w4 hh
  obtain ⟨b, rfl, hb4, hv4, ht4⟩ := hh.out
  have HB4 : Hid (Below w.heap.size w w4 ∧ w4.heap[w.heap.size]? = w0.heap[w.heap.size]?) := ⟨HB3.out.1.trans (ht4.toBelow (by have := HB2.out.2.2; omega) HB3.out.1.size), (ht4.block _ (by have := HB3.out.2.2; have := HB2.out.2.2; omega) (by have := HB2.out.2.2; omega)).trans HB3.out.2.1⟩
  have HS4 : Hid (SpAt w4 g' h K V L 0 ∧ g' < b) := ⟨HS3.out.2.block (ht4.block _ HB3.out.2.2.2 (by have := HB3.out.2.2; omega)), by have := HB3.out.2.2; omega⟩
  have HV4 : Hid (View w4 (.slice (some ⟨b, 0, none⟩) n n) (fL (drO h K V P) n)) := hv4
  clear hh hb4 hv4 ht4 HS3 HD3 g4
  have g4 := HC.out w4 HB4.out.2 4 _ HF.out.2.2.2.2
  have HD4 : Hid (∀ t, Calls Tryd.prog 12 #[.pointer (some ⟨g', 0, none⟩), .int .i64 (n2 : Nat), .slice (some ⟨w4.heap.size, 0, none⟩) 1 1] (w4.alloc (.cells #[.slice pa pn pc] t)) fun e w' => Hid (∃ b, e = .returned (.tuple #[.slice (some ⟨b, 0, none⟩) n2 n2, .int .i64 0]) ∧ w4.heap.size ≤ b ∧ View w' (.slice (some ⟨b, 0, none⟩) n2 n2) (fL (drO h K V P) n2) ∧ Touch w4 w' g' 0 131)) := fun t => HDr.out w4 g' n2 t (by omega) HB4.out.1 (by have := HB2.out.2.2; have := HB3.out.2.2; omega) HS4.out.1
  go_wp2_with (go_at_call 12; refine (HD4.out _).mono ?_)
  intro e5 w5 hh
  obtain ⟨b2, rfl, hb5, hv5, ht5⟩ := hh.out
  have HB5 : Hid (Below w.heap.size w w5) := HB4.out.1.trans (ht5.toBelow (by have := HB2.out.2.2; have := HB3.out.2.2; omega) HB4.out.1.size)
  have HVA : Hid (View w5 (.slice (some ⟨b, 0, none⟩) n n) (fL (drO h K V P) n)) := ht5.view HV4.out (fun b' off l c' e => .inl (by injection e with e1 _ _; injection e1 with e1; injection e1 with e2 _; have := HS4.out.2; omega))
  have HVB : Hid (View w5 (.slice (some ⟨b2, 0, none⟩) n n2) (fL (drO h K V P) n)) := by
    show View _ _ _
    rw [← fL_take (drO h K V P) n n2 hn2b.1]
    exact view_take hv5 hn2b.1
  have HS13 : Hid (∀ u : World, Sm w5 u → Calls Tryd.prog 13 #[.slice (some ⟨b, 0, none⟩) n n, .slice (some ⟨b2, 0, none⟩) n n2] u fun e w' => Hid (e = .returned (.bool true) ∧ Sm w5 w')) := fun u hu => by
    refine (same_yes _ _ _ u (hu.view HVA.out) (hu.view HVB.out)).mono ?_
    rintro e w' ⟨q1, q2⟩
    exact ⟨q1, hu.trans q2⟩
  have hnn2 : (n : Int) ≤ (n2 : Int) := by omega
  clear hh hb5 hv5 ht5 HD4 g4 HS4 HV4 HVA HVB
  go_wp2_with (first | (go_at_call 10; refine (num0 _).mono ?_; rintro e1 wx ⟨rfl, hwx⟩; obtain rfl := hwx.symm) | (go_at_call 13; refine (HS13.out _ ?_).mono ?_))
  · exact ⟨rfl, rfl, rfl, rfl⟩
  intro e6 w6 hh
  obtain ⟨rfl, hs6⟩ := hh.out
  have HB6 : Hid (Below w.heap.size w w6) := ⟨hs6.os.trans HB5.out.os, hs6.tape.trans HB5.out.tape, hs6.output.trans HB5.out.output, by rw [hs6.heap]; exact HB5.out.size, fun q hq => by rw [hs6.heap]; exact HB5.out.block q hq⟩
  clear hh hs6
  go_wp2
  go_ret
  exact ⟨rfl, HB6.out⟩
theorem sx_ok (h L n mo : Int) (ea na pa : Option Addr) (en ec nn nc pn pc : Nat) (E N P : List Int) (w : World) (hT : Tables w) (he : View w (.slice ea en ec) E) (hel : E.length = en) (hn : View w (.slice na nn nc) N) (hnl : N.length = nn) (hp : View w (.slice pa pn pc) P) (hpl : P.length = pn) :
    Calls Tryd.prog 3 #[.agg #[.int .i64 h, .int .i64 L, .slice ea en ec, .slice na nn nc, .slice pa pn pc], .int .i64 n, .int .i64 mo] w fun e w' => e = .returned (.bool true) ∧ Below w.heap.size w w' := by
  by_cases k : Good h L en nn pn
  · by_cases c0 : n < 0
    · exact sx_1 h L n mo ea na pa en ec nn nc pn pc w k c0
    by_cases c1 : 500 < n
    · exact sx_2 h L n mo ea na pa en ec nn nc pn pc w k c0 c1
    by_cases c2 : mo < 0
    · exact sx_3 h L n mo ea na pa en ec nn nc pn pc w k c0 c1 c2
    by_cases c3 : 500 < mo
    · exact sx_4 h L n mo ea na pa en ec nn nc pn pc w k c0 c1 c2 c3
    by_cases c4 : L < 2
    · exact sx_5 h L n mo ea na pa en ec nn nc pn pc w k c0 c1 c2 c3 c4
    obtain ⟨n', rfl⟩ : ∃ m : Nat, n = m := ⟨n.toNat, by omega⟩
    obtain ⟨m', rfl⟩ : ∃ m : Nat, mo = m := ⟨mo.toNat, by omega⟩
    exact sx_good h L n' m' (n' + m') ea na pa en ec nn nc pn pc E N P w k hT he hel hn hnl hp hpl (by omega) (by omega) (by omega) (by omega)
  · exact sx_0 h L n mo ea na pa en ec nn nc pn pc w k
end Go.Proofs.YtkeklmkaleomkaaDoor
namespace Go.Proofs.YtkeklmkaleomkaaDoor
open Go.ChangeShapes Go.WideShapes Go.ChangeAt Go.RowKit

theorem own : ownKnob Tryd.prog.godebug = none := by kernel_rfl
theorem laidOut : laidOutB Tryd.prog = true := by kernel_rfl
theorem cells5 : Tryd.prog.cellsOf 5 = 1 := by kernel_rfl
theorem bytes5 : Tryd.prog.bytesOf 5 = 1 := by kernel_rfl

/-- What came in as a list of bytes. -/
theorem open_bytes {H : Type} {enc : TypeId × Value → H} {W : World} {a : Option Addr} {len cap : Nat} {d : DataW H} {p : List MemPlace}
    (h : DataW.Trod enc Tryd.prog W 0 (fun _ => true) true 22 (.slice a len cap) d p) :
    ∃ xs : List Int, xs.length = len ∧ AllBytes xs ∧ View W (.slice a len cap) xs ∧ (d = .nil ∧ xs = [] ∨ ∃ sp, d = .slice (lits .u8 xs) sp) := by
  obtain ⟨fuel, hf⟩ := h
  rcases open_ints Tryd.underlying22 Tryd.underlying5 cells5 hf with ⟨hcs, hx⟩ | ⟨x, l, c, zs, hcs, _, hl, hm, hz, hx, hcell, hwz⟩
  · simp [Value.cells] at hcs
    obtain ⟨rfl, rfl, rfl⟩ := hcs
    simp only [Prod.mk.injEq] at hx
    refine ⟨[], rfl, fun i => by simp, ⟨none, 0, rfl, Nat.le_refl _, by simp, fun _ => rfl, .inl rfl⟩, .inl ⟨hx.1, rfl⟩⟩
  · simp [Value.cells] at hcs
    obtain ⟨rfl, rfl, rfl⟩ := hcs
    simp only [Prod.mk.injEq] at hx
    have hzl : zs.length = cap := by simpa using hz
    have hlen : (zs.take len).length = len := by simp; omega
    have hw : ∀ n ∈ zs, 0 ≤ n ∧ n < 256 := by
      intro n hn
      have := hwz n hn
      have h1 : IntKind.u8.min = 0 := rfl
      have h2 : IntKind.u8.max = 255 := rfl
      simp only [Lit.wf, Bool.and_eq_true, decide_eq_true_eq] at this
      omega
    refine ⟨zs.take len, hlen, ?_, ⟨some x, cap, by rw [hlen], by omega, hm, (fun h => by cases h), ?_⟩, .inr ⟨_, hx.1⟩⟩
    · intro i
      rw [List.getD_eq_getElem?_getD]
      cases hg : (zs.take len)[i]? with
      | none => simp
      | some n =>
        have hn : n ∈ zs := List.mem_of_mem_take (List.mem_of_getElem? hg)
        simpa using hw n hn
    · by_cases h0 : len = 0
      · left
        subst h0
        simp
      · right
        obtain ⟨b, off, spot⟩ := x
        have hc0 := hcell 0 (by omega)
        have hspot : spot = none := by simpa [Addr.add] using World.cell?_spot hc0
        subst hspot
        refine ⟨b, off, rfl, fun i hi => ?_⟩
        rw [hlen] at hi
        have := hcell i (by omega)
        rw [Addr.add_lit] at this
        rw [this]
        congr 2
        simp [List.getD_eq_getElem?_getD, hi]

/-- The reach of it. -/
theorem reach_bytes {H : Type} {ts : List TypeId} {ds : List (DataW H)} (hsz : (DataW.weightsEach Tryd.prog ts ds).all (· ≤ reachBytes) = true) {j : Nat} {d : DataW H} {xs : List Int}
    (ht : ts[j]? = some 22) (hd : ds[j]? = some d) (h : d = .nil ∧ xs = [] ∨ ∃ sp, d = .slice (lits .u8 xs) sp) : xs.length ≤ 140737488351232 := by
  rcases h with ⟨_, rfl⟩ | ⟨sp, rfl⟩
  · simp
  · have := sized_slice hsz (j := j) (t := 22) (e := 5) ht hd Tryd.underlying22
    rw [bytes5] at this
    simp only [lits, List.length_map, reachBytes] at this
    omega
end Go.Proofs.YtkeklmkaleomkaaDoor
namespace Go.Proofs.YtkeklmkaleomkaaDoor
open Go.ChangeShapes Go.WideShapes Go.ChangeAt Go.RowKit
set_option linter.unusedVariables false

theorem cells3 : Tryd.prog.cellsOf 3 = 1 := by kernel_rfl
theorem cells22 : Tryd.prog.cellsOf 22 = 1 := by kernel_rfl
theorem array5 {α : Type} {cs : Array α} (h : cs.size = 5) : ∃ c0 c1 c2 c3 c4, cs = #[c0, c1, c2, c3, c4] := by
  obtain ⟨l⟩ := cs
  match l, h with
  | [c0, c1, c2, c3, c4], _ => exact ⟨c0, c1, c2, c3, c4, rfl⟩
set_option maxRecDepth 100000 in
/-- An int's cell. -/
theorem cell_int {H : Type} {enc : TypeId × Value → H} {W : World} {n : Nat} {c : Value} {y : DataW H × List MemPlace} (h : DataW.trod enc Tryd.prog W 0 (fun _ => true) true n 3 [c] = some y) : ∃ z, c = .int .i64 z := by
  obtain ⟨z, hz, _⟩ := DataW.trod_int Tryd.underlying3 h
  exact ⟨z, by simpa using hz⟩
theorem cell_bytes {H : Type} {enc : TypeId × Value → H} {W : World} {n : Nat} {c : Value} {y : DataW H × List MemPlace} (h : DataW.trod enc Tryd.prog W 0 (fun _ => true) true n 22 [c] = some y) : ∃ a l cap xs, c = .slice a l cap ∧ View W (.slice a l cap) xs := by
  have hc : ∃ a l cap, c = .slice a l cap := by
    rcases open_ints Tryd.underlying22 Tryd.underlying5 cells5 h with ⟨hcs, _⟩ | ⟨a, l, cap, zs, hcs, _⟩
    · exact ⟨none, 0, 0, by simpa using hcs⟩
    · exact ⟨some a, l, cap, by simpa using hcs⟩
  obtain ⟨a, l, cap, rfl⟩ := hc
  obtain ⟨xs, _, _, hv, _⟩ := open_bytes (enc := enc) (W := W) (a := a) (len := l) (cap := cap) (d := y.1) (p := y.2) ⟨n, by simpa [Value.cells] using h⟩
  exact ⟨a, l, cap, xs, rfl, hv⟩
/-- The tables, as the row lays them. -/
theorem tables_of {W : World} (h : laidMet Tryd.prog [("coffer/digest.roots", Lib.tabData .u64 rootsL), ("coffer/digest.cubes", Lib.tabData .u64 cubesL)] W) : Tables W := by
  have hr : Lib.TabIs Tryd.prog W "coffer/digest.roots" .u64 rootsL := Lib.tabIs_of_head (g := 2) (t := 92) (e := 85) (n := 16) (by kernel_rfl) (by kernel_rfl) (by kernel_rfl) (by kernel_rfl) (by kernel_rfl) (by kernel_rfl) h
  have hc : Lib.TabIs Tryd.prog W "coffer/digest.cubes" .u64 cubesL := by
    obtain ⟨ps, ⟨g1, t1, cs1, fuel1, p1, q1, _, _, _, _, hrest, _⟩, _⟩ := h
    obtain ⟨g', t', cs, fuel, p, q, hg', ht', hvar, hd, _, _⟩ := hrest
    have hg : Tryd.prog.globalNamed "coffer/digest.cubes" = some 3 := by kernel_rfl
    obtain rfl := Option.some.inj (hg.symm.trans hg')
    have hty : (Tryd.prog.globals[3]?).map (·.type) = some 95 := by kernel_rfl
    obtain rfl := Option.some.inj (hty.symm.trans ht')
    unfold Lib.TabIs
    rw [hvar, ← Lib.cells_of_tab (n := 80) (e := 85) (by kernel_rfl) (by kernel_rfl) (by kernel_rfl) (by kernel_rfl) hd]
  exact ⟨fun t ht => hc.cell (by kernel_rfl) t (by simpa [cubesL] using ht), fun t ht => hr.cell (by kernel_rfl) t (by simpa [rootsL] using ht)⟩
end Go.Proofs.YtkeklmkaleomkaaDoor
namespace Go.Proofs.YtkeklmkaleomkaaDoor
open Go.ChangeShapes Go.WideShapes Go.ChangeAt Go.RowKit
set_option linter.unusedVariables false

/-- A block that holds a table. -/
def refilledP (zs : List Int) : Obj → Obj
  | .cells _ t frozen => .cells (zs.map (Value.int .u64)).toArray t frozen
  | o => o
theorem cells24s : Tryd.prog.cellsOf 24 = 5 := by kernel_rfl
theorem cell_bytes2s {H : Type} {enc : TypeId × Value → H} {W : World} {n : Nat} {c : Value} {y : DataW H × List MemPlace} (h : DataW.trod enc Tryd.prog W 0 (fun _ => true) true n 22 [c] = some y) : ∃ a l cap xs, c = .slice a l cap ∧ View W (.slice a l cap) xs ∧ xs.length = l ∧ (y.1 = .nil ∧ xs = [] ∨ ∃ sp, y.1 = .slice (lits .u8 xs) sp) := by
  have hc : ∃ a l cap, c = .slice a l cap := by
    rcases open_ints Tryd.underlying22 Tryd.underlying5 cells5 h with ⟨hcs, _⟩ | ⟨a, l, cap, zs, hcs, _⟩
    · exact ⟨none, 0, 0, by simpa using hcs⟩
    · exact ⟨some a, l, cap, by simpa using hcs⟩
  obtain ⟨a, l, cap, rfl⟩ := hc
  obtain ⟨xs, hl, hb, hv, hd⟩ := open_bytes (enc := enc) (W := W) (a := a) (len := l) (cap := cap) (d := y.1) (p := y.2) ⟨n, by simpa [Value.cells] using h⟩
  exact ⟨a, l, cap, xs, rfl, hv, hl, hd⟩
set_option maxRecDepth 100000 in
/-- A Seed that came in. -/
theorem open_seed {H : Type} {enc : TypeId × Value → H} {W : World} {r : Reach} {b0 : Nat} {v : Value} {d : DataW H} {p : List MemPlace} (hv : Value.okWide Tryd.prog W r b0 24 v) (h : DataW.Trod enc Tryd.prog W 0 (fun _ => true) true 24 v d p) :
    ∃ (hh L : Int) (ea na pa : Option Addr) (en ec nn nc pn pc : Nat) (E N P : List Int), v = .agg #[.int .i64 hh, .int .i64 L, .slice ea en ec, .slice na nn nc, .slice pa pn pc] ∧ View W (.slice ea en ec) E ∧ E.length = en ∧ View W (.slice na nn nc) N ∧ N.length = nn ∧ View W (.slice pa pn pc) P ∧ P.length = pn := by
  obtain ⟨cs, rfl, hsz⟩ := okWide_struct Tryd.underlying24 hv
  obtain ⟨c0, c1, c2, c3, c4, rfl⟩ := array5 (hsz.trans cells24s)
  obtain ⟨fuel, hf⟩ := h
  obtain ⟨xs, n, _, hx, _, hlen, hfs⟩ := DataW.trod_struct Tryd.underlying24 hf
  match xs, hlen with
  | [y0, y1, y2, y3, y4], _ =>
    have h0 := hfs 0 _ rfl
    have h1 := hfs 1 _ rfl
    have h2 := hfs 2 _ rfl
    have h3 := hfs 3 _ rfl
    have h4 := hfs 4 _ rfl
    simp [Value.cells, cells3, cells22] at h0 h1 h2 h3 h4
    obtain ⟨hh, rfl⟩ := cell_int h0
    obtain ⟨L, rfl⟩ := cell_int h1
    obtain ⟨ea, en, ec, E, rfl, vE, lE, dE⟩ := cell_bytes2s h2
    obtain ⟨na, nn, nc, N, rfl, vN, lN, dN⟩ := cell_bytes2s h3
    obtain ⟨pa, pn, pc, P, rfl, vP, lP, dP⟩ := cell_bytes2s h4
    exact ⟨hh, L, ea, na, pa, en, ec, nn, nc, pn, pc, E, N, P, rfl, vE, lE, vN, lN, vP, lP⟩
end Go.Proofs.YtkeklmkaleomkaaDoor
