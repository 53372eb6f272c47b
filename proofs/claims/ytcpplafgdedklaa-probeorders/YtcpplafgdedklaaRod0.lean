import Derived.Test.YtcpplafgdedklaaOrd
namespace Go.Proofs.Ytcpplafgdedklaa
theorem srt_pair (zs : List Int) : (srt zs).Pairwise (· ≤ ·) := by
  have h := List.pairwise_mergeSort (le := fun x y : Int => decide (x ≤ y)) (by intro a b c h1 h2; simp at *; omega) (by intro a b; simp; omega) zs
  exact h.imp (by intro a b h; simpa using h)
theorem srt_perm (zs : List Int) : (srt zs).Perm zs := List.mergeSort_perm zs _
theorem srt_eq (zs ys : List Int) (h : ys.Pairwise (· ≤ ·)) (hp : ys.Perm zs) : ys = srt zs :=
  List.Perm.eq_of_pairwise (le := fun x y : Int => x ≤ y) (by intro a b _ _ h1 h2; omega) h (srt_pair zs) (hp.trans (srt_perm zs).symm)
/-- One more number, put where it belongs. -/
theorem srt_ins (A : List Int) (z : Int) (X Y : List Int) (h : X ++ Y = srt A) (hY : ∀ y ∈ Y, z ≤ y) (hX : ∀ x ∈ X, x ≤ z) : X ++ z :: Y = srt (A ++ [z]) := by
  have hp := srt_pair A
  rw [← h] at hp
  rw [List.pairwise_append] at hp
  obtain ⟨h1, h2, h3⟩ := hp
  refine srt_eq _ _ ?_ ?_
  · rw [List.pairwise_append]
    refine ⟨h1, ?_, ?_⟩
    · rw [List.pairwise_cons]
      exact ⟨hY, h2⟩
    · intro a ha b hb
      rcases List.mem_cons.1 hb with rfl | hb
      · exact hX a ha
      · exact h3 a ha b hb
  · have q : (X ++ Y).Perm A := by rw [h]; exact srt_perm A
    refine (List.perm_middle).trans ?_
    refine (List.Perm.cons z q).trans ?_
    exact (List.perm_append_comm (l₁ := [z]) (l₂ := A))
/-- If the last of a sorted list's beginning is no greater, none of it is. -/
theorem srt_le (A : List Int) (z y : Int) (X Y : List Int) (h : (X ++ [y]) ++ Y = srt A) (hy : ¬ z < y) : ∀ x ∈ X ++ [y], x ≤ z := by
  have hp := srt_pair A
  rw [← h, List.pairwise_append, List.pairwise_append] at hp
  obtain ⟨⟨_, _, h3⟩, _, _⟩ := hp
  intro x hx
  rcases List.mem_append.1 hx with hx | hx
  · have := h3 x hx y (by simp)
    omega
  · have : x = y := by simpa using hx
    omega
end Go.Proofs.Ytcpplafgdedklaa
