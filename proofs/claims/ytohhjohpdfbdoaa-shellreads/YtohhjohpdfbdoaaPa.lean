import Derived.Test.YtohhjohpdfbdoaaFc
namespace Go.Proofs.Ytohhjohpdfbdoaa
open Go.RowKit
set_option linter.unusedVariables false
set_option linter.unusedSimpArgs false
variable {w w' : World} {g : Nat} {s : ByteArray} {i j : Nat}
theorem run_pos : ∀ (l : List Int) (p : Nat) (a : Acc) (st : St) (q : Nat), run l p a st = .bad q → p ≤ q
  | [], p, a, st, q, h => by
    simp only [run] at h
    split at h
    · cases h
    · cases h
      exact Nat.le_refl _
  | c :: r, p, a, st, q, h => by
    simp only [run] at h
    split at h
    · split at h
      · have := run_pos r (p + 1) _ _ q h
        omega
      · cases h
        exact Nat.le_refl _
    · cases h
      exact Nat.le_refl _
/-- What a line says. -/
def parse (s : ByteArray) : Res := if 4096 < s.size then .bad 4097 else R s 0 acc0 .ahead
def ParQ (s : ByteArray) (w : World) (e : Ending) (w' : World) : Prop :=
  (∃ a v, e = .returned (.tuple #[.agg #[.string (strOfNums a.cmd), .string (strOfNums a.name), v], .int .i64 0, .int .i64 0]) ∧ w'.ownsRow w.heap.size 31 2 v a.opts.length (optL a.opts) ∧ a.opts.length ≤ 4097 ∧ parse s = .good a ∧ Below w.heap.size w w') ∨
  (∃ p, e = .returned (.tuple #[.agg #[.string ⟨#[]⟩, .string ⟨#[]⟩, .slice none 0 0], .int .i64 160, .int .i64 (p : Nat)]) ∧ parse s = .bad p ∧ Below w.heap.size w w')
theorem results_par {w : World} {S : Nat} {x y z u v : Value} {tmps : Array Value} (hS : w.heap[S]? = some (.cells #[x, y, z] 25 (0, 0)))
    (h2 : tmps.getD 2 undef = .pointer (some ⟨S, 0, none⟩)) (h3 : tmps.getD 3 undef = u) (h4 : tmps.getD 4 undef = v) : (results Try.f7 tmps).run Try.prog w = .ok (.tuple #[.agg #[x, y, z], u, v]) w := by
  have h2' : tmps[2]?.getD undef = .pointer (some ⟨S, 0, none⟩) := by simpa using h2
  have h3' : tmps[3]?.getD undef = u := by simpa using h3
  have h4' : tmps[4]?.getD undef = v := by simpa using h4
  have c0 : w.cell? ⟨S, 0, none⟩ = some x := by simp [World.cell?, hS]
  have c1 : w.cell? ⟨S, 1, none⟩ = some y := by simp [World.cell?, hS]
  have c2 : w.cell? ⟨S, 2, none⟩ = some z := by simp [World.cell?, hS]
  simp [results, Try.results7, h2', h3', h4', asAddr, go_sem, c0, c1, c2]
set_option maxHeartbeats 4000000 in
set_option maxRecDepth 100000 in
theorem parse_ok (s : ByteArray) (w : World) (hs : s.size ≤ 140737488355328) : Calls Try.prog 7 #[.string s] w (ParQ s w) := by
  have n0 := World.alloc_heap_new w (.cells #[.string ⟨#[]⟩, .string ⟨#[]⟩, .slice none 0 0] 25)
  by_cases h : 4096 < s.size
  · have q : decide ((4096 : Int) < (s.size : Int)) = true := by simp; omega
    go_enter Try.func7, Try.ntmps7
    go_wp2
    refine bodyPost_ret (results_par n0 rfl rfl rfl) rfl ?_
    exact .inr ⟨4097, rfl, by unfold parse; rw [if_pos h], (Below.refl _ w).alloc (Nat.le_refl _) _⟩
  · have q : decide ((4096 : Int) < (s.size : Int)) = false := by simp; omega
    have hpar : parse s = R s 0 acc0 .ahead := by unfold parse; rw [if_neg h]
    obtain ⟨w1, hw1⟩ : ∃ w1, w1 = w.alloc (.cells #[.string ⟨#[]⟩, .string ⟨#[]⟩, .slice none 0 0] 25) := ⟨_, rfl⟩
    have b1 : Below w.heap.size w w1 := by rw [hw1]; exact (Below.refl _ w).alloc (Nat.le_refl _) _
    have s1 : w1.heap.size = w.heap.size + 1 := by rw [hw1]; simp
    rw [← hw1] at n0
    have n1 := World.alloc_heap_new w1 (.cells #[.string s, .int .i64 0] 41)
    have k0 : Rd (w1.alloc (.cells #[.string s, .int .i64 0] 41)) w1.heap.size s 0 := ⟨n1, by omega, by omega⟩
    have n2 := at_kept n0 (World.grownBy_alloc w1 (.cells #[.string s, .int .i64 0] 41) none) (by simp)
    have b2 : Below w.heap.size w (w1.alloc (.cells #[.string s, .int .i64 0] 41)) := b1.alloc (by omega) _
    have s2 : (w1.alloc (.cells #[.string s, .int .i64 0] 41)).heap.size = w.heap.size + 2 := by simp [s1]
    have hcall := (callsIn_wide (n := 1)).1 (read_in 1 k0)
    clear n1
    rw [s1] at k0 hcall
    have e1 : (w.alloc (.cells #[.string ⟨#[]⟩, .string ⟨#[]⟩, .slice none 0 0] 25)).alloc (.cells #[.string s, .int .i64 0] 41) = w1.alloc (.cells #[.string s, .int .i64 0] 41) := by rw [hw1]
    clear hw1
    generalize w1.alloc (.cells #[.string s, .int .i64 0] 41) = w2 at k0 hcall n2 b2 s2 e1
    clear n0 b1
    have HE1 : Hid ((w.alloc (.cells #[.string ⟨#[]⟩, .string ⟨#[]⟩, .slice none 0 0] 25)).alloc (.cells #[.string s, .int .i64 0] 41) = w2) := e1
    clear e1
    go_enter Try.func7, Try.ntmps7
    go_wp2_with (go_at_call 12; rw [HE1.out]; refine hcall.mono ?_)
    rintro e w3 (⟨a, v, rfl, hrow, hfew, hR, g3⟩ | ⟨p, rfl, hR, g3⟩)
    · obtain ⟨vp, vc, rfl⟩ := own_slice hrow
      have n3 := at_kept n2 g3 (fun e => by have := Option.some.inj e; omega)
      have b3 : Below w.heap.size w w3 := b2.grown g3 (by omega) (fun k e => by cases e; omega)
      have gZ := World.grownBy_alloc w3 (.cells #[.string (strOfNums a.cmd), .string (strOfNums a.name), .slice vp a.opts.length vc] 25) none
      have n4 := at_kept n3 gZ (by simp)
      have n5 := World.alloc_heap_new w3 (.cells #[.string (strOfNums a.cmd), .string (strOfNums a.name), .slice vp a.opts.length vc] 25)
      have b4 : Below w.heap.size w (w3.alloc (.cells #[.string (strOfNums a.cmd), .string (strOfNums a.name), .slice vp a.opts.length vc] 25)) := b3.alloc b3.size _
      have hrow4 := hrow.kept gZ (Classical.em _)
      have s3 := b3.size
      have uy0 : w3.cell? ⟨w.heap.size, 0, none⟩ = some (.string ⟨#[]⟩) := by simp [World.cell?, n3]
      have uz0 : w3.frozen? ⟨w.heap.size, 0, none⟩ = false := by simp [World.frozen?, n3]
      have uy1 : w3.cell? ⟨w.heap.size, 1, none⟩ = some (.string ⟨#[]⟩) := by simp [World.cell?, n3]
      have uz1 : w3.frozen? ⟨w.heap.size, 1, none⟩ = false := by simp [World.frozen?, n3]
      have uy2 : w3.cell? ⟨w.heap.size, 2, none⟩ = some (.slice none 0 0) := by simp [World.cell?, n3]
      have uz2 : w3.frozen? ⟨w.heap.size, 2, none⟩ = false := by simp [World.frozen?, n3]
      have vy0 : (w3.alloc (.cells #[.string (strOfNums a.cmd), .string (strOfNums a.name), .slice vp a.opts.length vc] 25)).cell? ⟨w.heap.size, 0, none⟩ = some (.string ⟨#[]⟩) := by simp [World.cell?, n4]
      have vz0 : (w3.alloc (.cells #[.string (strOfNums a.cmd), .string (strOfNums a.name), .slice vp a.opts.length vc] 25)).frozen? ⟨w.heap.size, 0, none⟩ = false := by simp [World.frozen?, n4]
      have vy1 : (w3.alloc (.cells #[.string (strOfNums a.cmd), .string (strOfNums a.name), .slice vp a.opts.length vc] 25)).cell? ⟨w.heap.size, 1, none⟩ = some (.string ⟨#[]⟩) := by simp [World.cell?, n4]
      have vz1 : (w3.alloc (.cells #[.string (strOfNums a.cmd), .string (strOfNums a.name), .slice vp a.opts.length vc] 25)).frozen? ⟨w.heap.size, 1, none⟩ = false := by simp [World.frozen?, n4]
      have vy2 : (w3.alloc (.cells #[.string (strOfNums a.cmd), .string (strOfNums a.name), .slice vp a.opts.length vc] 25)).cell? ⟨w.heap.size, 2, none⟩ = some (.slice none 0 0) := by simp [World.cell?, n4]
      have vz2 : (w3.alloc (.cells #[.string (strOfNums a.cmd), .string (strOfNums a.name), .slice vp a.opts.length vc] 25)).frozen? ⟨w.heap.size, 2, none⟩ = false := by simp [World.frozen?, n4]
      have hn := n4
      go_wp2
      have h3 := set_block (set_block (set_block hn 0 (.string (strOfNums a.cmd))) 1 (.string (strOfNums a.name))) 2 (.slice vp a.opts.length vc)
      simp only [List.setIfInBounds_toArray, List.set_cons_zero, List.set_cons_succ] at h3
      have gS := grown_set3 (w3.alloc (.cells #[.string (strOfNums a.cmd), .string (strOfNums a.name), .slice vp a.opts.length vc] 25)) w.heap.size (.string (strOfNums a.cmd)) (.string (strOfNums a.name)) (.slice vp a.opts.length vc)
      refine bodyPost_ret (results_par h3 rfl rfl rfl) rfl ?_
      exact .inl ⟨a, _, rfl, ownsRow_below (hrow4.kept gS (own_far hrow4 (by omega))) (by omega), hfew, hpar.trans hR, b4.grown gS (by simp; omega) (fun k e => by cases e; exact Nat.le_refl _)⟩
    · have hp : 1 ≤ p := run_pos _ _ _ _ _ hR
      have q2 : decide ((0 : Int) < (p : Int)) = true := by simp; omega
      have n3 := at_kept n2 g3 (fun e => by have := Option.some.inj e; omega)
      have b3 : Below w.heap.size w w3 := b2.grown g3 (by omega) (fun k e => by cases e; omega)
      have gZ := World.grownBy_alloc w3 (.cells #[.string ⟨#[]⟩, .string ⟨#[]⟩, .slice none 0 0] 25) none
      have n4 := at_kept n3 gZ (by simp)
      have b4 : Below w.heap.size w (w3.alloc (.cells #[.string ⟨#[]⟩, .string ⟨#[]⟩, .slice none 0 0] 25)) := b3.alloc b3.size _
      have s3 := b3.size
      have uy0 : w3.cell? ⟨w.heap.size, 0, none⟩ = some (.string ⟨#[]⟩) := by simp [World.cell?, n3]
      have uz0 : w3.frozen? ⟨w.heap.size, 0, none⟩ = false := by simp [World.frozen?, n3]
      have uy1 : w3.cell? ⟨w.heap.size, 1, none⟩ = some (.string ⟨#[]⟩) := by simp [World.cell?, n3]
      have uz1 : w3.frozen? ⟨w.heap.size, 1, none⟩ = false := by simp [World.frozen?, n3]
      have uy2 : w3.cell? ⟨w.heap.size, 2, none⟩ = some (.slice none 0 0) := by simp [World.cell?, n3]
      have uz2 : w3.frozen? ⟨w.heap.size, 2, none⟩ = false := by simp [World.frozen?, n3]
      have vy0 : (w3.alloc (.cells #[.string ⟨#[]⟩, .string ⟨#[]⟩, .slice none 0 0] 25)).cell? ⟨w.heap.size, 0, none⟩ = some (.string ⟨#[]⟩) := by simp [World.cell?, n4]
      have vz0 : (w3.alloc (.cells #[.string ⟨#[]⟩, .string ⟨#[]⟩, .slice none 0 0] 25)).frozen? ⟨w.heap.size, 0, none⟩ = false := by simp [World.frozen?, n4]
      have vy1 : (w3.alloc (.cells #[.string ⟨#[]⟩, .string ⟨#[]⟩, .slice none 0 0] 25)).cell? ⟨w.heap.size, 1, none⟩ = some (.string ⟨#[]⟩) := by simp [World.cell?, n4]
      have vz1 : (w3.alloc (.cells #[.string ⟨#[]⟩, .string ⟨#[]⟩, .slice none 0 0] 25)).frozen? ⟨w.heap.size, 1, none⟩ = false := by simp [World.frozen?, n4]
      have vy2 : (w3.alloc (.cells #[.string ⟨#[]⟩, .string ⟨#[]⟩, .slice none 0 0] 25)).cell? ⟨w.heap.size, 2, none⟩ = some (.slice none 0 0) := by simp [World.cell?, n4]
      have vz2 : (w3.alloc (.cells #[.string ⟨#[]⟩, .string ⟨#[]⟩, .slice none 0 0] 25)).frozen? ⟨w.heap.size, 2, none⟩ = false := by simp [World.frozen?, n4]
      have hn := n4
      go_wp2
      have h3 := set_block (set_block (set_block hn 0 (.string ⟨#[]⟩)) 1 (.string ⟨#[]⟩)) 2 (.slice none 0 0)
      simp only [List.setIfInBounds_toArray, List.set_cons_zero, List.set_cons_succ] at h3
      have gS := grown_set3 (w3.alloc (.cells #[.string ⟨#[]⟩, .string ⟨#[]⟩, .slice none 0 0] 25)) w.heap.size (.string ⟨#[]⟩) (.string ⟨#[]⟩) (.slice none 0 0)
      refine bodyPost_ret (results_par h3 rfl rfl rfl) rfl ?_
      exact .inr ⟨p, rfl, hpar.trans hR, b4.grown gS (by simp; omega) (fun k e => by cases e; exact Nat.le_refl _)⟩
end Go.Proofs.Ytohhjohpdfbdoaa
