import Derived.Test.YtioggmjocelolaaBack
namespace Go.Proofs.Ytioggmjocelolaa

theorem mf0 (k : Nat) (p c : Int) : mfc (4 * k) p c = (decide (0 ≤ letV c) && (decide (k = 0) || decide (0 ≤ letV p))) := by
  unfold mfc
  by_cases h : k = 0
  · subst h; simp
  · rw [if_neg (by omega), if_neg (by omega), if_neg (by omega)]
    simp [h]
theorem mf1 (k : Nat) (p c : Int) : mfc (4 * k + 1) p c = (decide (0 ≤ letV c) && decide (0 ≤ letV p)) := by
  unfold mfc
  rw [if_neg (by omega), if_neg (by omega), if_neg (by omega)]
theorem mf2 (k : Nat) (p c : Int) : mfc (4 * k + 2) p c = (decide (0 ≤ letV c) || (c == 61 && letV p % 16 == 0)) := by
  unfold mfc
  rw [if_neg (by omega), if_pos (by omega)]
theorem mf3 (k : Nat) (p c : Int) : mfc (4 * k + 3) p c = (if letV p < 0 then c == 61 else decide (0 ≤ letV c) || (c == 61 && letV p % 4 == 0)) := by
  unfold mfc
  rw [if_neg (by omega), if_neg (by omega), if_pos (by omega)]
theorem letV_61 : letV 61 = -1 := by decide

/-- The first four letters of some bytes. -/
theorem b64_head (ys : List Int) (hb : Bytes ys) (hn : ys ≠ []) :
    ∃ q0 q1 q2 q3 r, b64 ys = q0 :: q1 :: q2 :: q3 :: r ∧ 0 ≤ letV q0 ∧ 0 ≤ letV q1 ∧ (0 ≤ letV q2 ∨ q2 = 61 ∧ letV q1 % 16 = 0) ∧
      (if letV q2 < 0 then q3 = 61 else 0 ≤ letV q3 ∨ q3 = 61 ∧ letV q2 % 4 = 0) ∧ (3 ≤ ys.length → 0 ≤ letV q3) := by
  match ys, hb, hn with
  | [a], hb, _ =>
    have ha := hb a (by simp)
    have e1 := (letV_of (a / 4).toNat (by omega)).1
    have e2 := (letV_of (a % 4 * 16).toNat (by omega)).1
    refine ⟨_, _, _, _, [], rfl, by omega, by omega, .inr ⟨rfl, by omega⟩, ?_, by simp⟩
    rw [if_pos (by rw [letV_61]; omega)]
  | [a, b], hb, _ =>
    have ha := hb a (by simp)
    have hbb := hb b (by simp)
    have e1 := (letV_of (a / 4).toNat (by omega)).1
    have e2 := (letV_of (a % 4 * 16 + b / 16).toNat (by omega)).1
    have e3 := (letV_of (b % 16 * 4).toNat (by omega)).1
    refine ⟨_, _, _, _, [], rfl, by omega, by omega, .inl (by omega), ?_, by simp⟩
    rw [if_neg (by omega)]
    exact .inr ⟨rfl, by omega⟩
  | a :: b :: c :: r, hb, _ =>
    have ha := hb a (by simp)
    have hbb := hb b (by simp)
    have hc := hb c (by simp)
    have e1 := (letV_of ((a * 65536 + b * 256 + c) / 262144).toNat (by omega)).1
    have e2 := (letV_of ((a * 65536 + b * 256 + c) / 4096 % 64).toNat (by omega)).1
    have e3 := (letV_of ((a * 65536 + b * 256 + c) / 64 % 64).toNat (by omega)).1
    have e4 := (letV_of ((a * 65536 + b * 256 + c) % 64).toNat (by omega)).1
    refine ⟨_, _, _, _, b64 r, by rw [b64, grp]; rfl, by omega, by omega, .inl (by omega), ?_, fun _ => by omega⟩
    rw [if_neg (by omega)]
    exact .inl (by omega)

theorem b64_drop (k : Nat) (xs : List Int) (h : 3 * k ≤ xs.length) : (b64 xs).drop (4 * k) = b64 (xs.drop (3 * k)) := by
  rw [b64_split k xs h, List.drop_append_of_le_length (by rw [grps_length]; exact Nat.le_refl _), List.drop_of_length_le (by rw [grps_length]; exact Nat.le_refl _), List.nil_append]
theorem getD_drop (l : List Int) (a r : Nat) : l.getD (a + r) 0 = (l.drop a).getD r 0 := by
  rw [List.getD_eq_getElem?_getD, List.getD_eq_getElem?_getD, List.getElem?_drop]
theorem bytes_drop {xs : List Int} (h : Bytes xs) (k : Nat) : Bytes (xs.drop k) := fun c hc => h c (List.mem_of_mem_drop hc)

theorem mf_b64 (xs : List Int) (hb : Bytes xs) (i : Nat) (hi : i < (b64 xs).length) : mf (b64 xs) i = true := by
  rw [b64_length xs.length xs (Nat.le_refl _)] at hi
  obtain ⟨k, r, hr, rfl⟩ : ∃ k r, r < 4 ∧ i = 4 * k + r := ⟨i / 4, i % 4, by omega, by omega⟩
  have hk : 3 * k < xs.length := by omega
  have hne : xs.drop (3 * k) ≠ [] := by
    intro h
    have := congrArg List.length h
    simp at this
    omega
  obtain ⟨q0, q1, q2, q3, r', he, h0, h1, h2, h3, _⟩ := b64_head _ (bytes_drop hb (3 * k)) hne
  have hd : (b64 xs).drop (4 * k) = q0 :: q1 :: q2 :: q3 :: r' := by rw [b64_drop k xs (by omega), he]
  have g : ∀ j, (b64 xs).getD (4 * k + j) 0 = (q0 :: q1 :: q2 :: q3 :: r').getD j 0 := fun j => by rw [getD_drop, hd]
  have g0 := g 0
  have g1 := g 1
  have g2 := g 2
  have g3 := g 3
  simp only [List.getD_cons_zero, List.getD_cons_succ, Nat.add_zero] at g0 g1 g2 g3
  have hcase : r = 0 ∨ r = 1 ∨ r = 2 ∨ r = 3 := by omega
  rcases hcase with rfl | rfl | rfl | rfl
  · rw [mf, Nat.add_zero, mf0, g0]
    by_cases hk0 : k = 0
    · simp [hk0, h0]
    · have hne2 : xs.drop (3 * (k - 1)) ≠ [] := by
        intro h
        have := congrArg List.length h
        simp at this
        omega
      obtain ⟨p0, p1, p2, p3, r2, he2, _, _, _, _, hl⟩ := b64_head _ (bytes_drop hb (3 * (k - 1))) hne2
      have hp : (b64 xs).getD (4 * k - 1) 0 = p3 := by
        rw [show 4 * k - 1 = 4 * (k - 1) + 3 by omega, getD_drop, b64_drop (k - 1) xs (by omega), he2]
        rfl
      have := hl (by rw [List.length_drop]; omega)
      rw [hp]
      simp [h0, this]
  · rw [mf, mf1, g1, show 4 * k + 1 - 1 = 4 * k by omega, g0]
    simp [h0, h1]
  · rw [mf, mf2, g2, show 4 * k + 2 - 1 = 4 * k + 1 by omega, g1]
    rcases h2 with h2 | ⟨h2, h2'⟩
    · simp [h2]
    · simp [h2, h2']
  · rw [mf, mf3, g3, show 4 * k + 3 - 1 = 4 * k + 2 by omega, g2]
    by_cases h : letV q2 < 0
    · rw [if_pos h] at h3 ⊢
      simp [h3]
    · rw [if_neg h] at h3 ⊢
      rcases h3 with h3 | ⟨h3, h3'⟩
      · simp [h3]
      · simp [h3, h3']

/-- A right text. -/
def Good : List Int → Prop
  | [] => True
  | a :: b :: c :: d :: r => 0 ≤ letV a ∧ 0 ≤ letV b ∧ (0 ≤ letV c ∧ 0 ≤ letV d ∨ r = [] ∧ (0 ≤ letV c ∧ d = 61 ∧ letV c % 4 = 0 ∨ c = 61 ∧ d = 61 ∧ letV b % 16 = 0)) ∧ Good r
  | _ => False

theorem quadB_bytes (q : List Int) : Bytes (quadB q) := by
  intro c hc
  unfold quadB at hc
  split at hc <;> split at hc <;> simp at hc <;> omega
theorem unb64_bytes : ∀ (m : Nat) (l : List Int), l.length = 4 * m → Bytes (unb64 l)
  | 0, l, h => by
    obtain rfl : l = [] := List.eq_nil_of_length_eq_zero (by omega)
    intro c hc
    simp [unb64] at hc
  | m + 1, l, h => by
    match l, h with
    | a :: b :: c :: d :: r, h =>
      intro z hz
      rw [unb64, List.mem_append] at hz
      rcases hz with hz | hz
      · exact quadB_bytes _ z hz
      · exact unb64_bytes m r (by simp at h; omega) z hz
    | [a, b, c], h => simp at h; omega
    | [a, b], h => simp at h; omega
    | [a], h => simp at h; omega
    | [], h => simp at h

theorem mv_pos (c : Int) (h : 0 ≤ letV c) : mv c = letV c := by unfold mv; omega

theorem b64_unb64 : ∀ (m : Nat) (l : List Int), l.length = 4 * m → Bytes l → Good l → b64 (unb64 l) = l
  | 0, l, h, _, _ => by
    obtain rfl : l = [] := List.eq_nil_of_length_eq_zero (by omega)
    rfl
  | m + 1, l, h, hb, hg => by
    match l, h, hb, hg with
    | a :: b :: c :: d :: r, h, hb, hg =>
      obtain ⟨ga, gb, gcd, gr⟩ := hg
      have ba := hb a (by simp)
      have bb := hb b (by simp)
      have bc := hb c (by simp)
      have bd := hb d (by simp)
      have ra := letV_range a
      have rb := letV_range b
      have rc := letV_range c
      have rd := letV_range d
      have da := letD_of a ba.1 ba.2 ga
      have db := letD_of b bb.1 bb.2 gb
      have ma := mv_pos a ga
      have mb := mv_pos b gb
      rcases gcd with ⟨gc, gd⟩ | ⟨rfl, ⟨gc, rfl, hc4⟩ | ⟨rfl, rfl, hb16⟩⟩
      · have dc := letD_of c bc.1 bc.2 gc
        have dd := letD_of d bd.1 bd.2 gd
        have nc : c ≠ 61 := fun e => by rw [e, letV_61] at gc; omega
        have nd : d ≠ 61 := fun e => by rw [e, letV_61] at gd; omega
        have hq : quadB [a, b, c, d] = [(letV a * 262144 + letV b * 4096 + letV c * 64 + letV d) / 65536 % 256, (letV a * 262144 + letV b * 4096 + letV c * 64 + letV d) / 256 % 256, (letV a * 262144 + letV b * 4096 + letV c * 64 + letV d) % 256] := by
          simp only [quadB, acc4, ma, mb, mv_pos c gc, mv_pos d gd, List.getD_cons_succ, List.getD_cons_zero, if_neg nc, if_neg nd]
          rfl
        rw [unb64, hq, List.cons_append, List.cons_append, List.cons_append, List.nil_append, b64, b64_unb64 m r (by simp at h; omega) (fun z hz => hb z (by simp [hz])) gr]
        have hv : (letV a * 262144 + letV b * 4096 + letV c * 64 + letV d) / 65536 % 256 * 65536 + (letV a * 262144 + letV b * 4096 + letV c * 64 + letV d) / 256 % 256 * 256 + (letV a * 262144 + letV b * 4096 + letV c * 64 + letV d) % 256 = letV a * 262144 + letV b * 4096 + letV c * 64 + letV d := by omega
        rw [hv, grp]
        have i1 : (letV a * 262144 + letV b * 4096 + letV c * 64 + letV d) / 262144 = letV a := by omega
        have i2 : (letV a * 262144 + letV b * 4096 + letV c * 64 + letV d) / 4096 % 64 = letV b := by omega
        have i3 : (letV a * 262144 + letV b * 4096 + letV c * 64 + letV d) / 64 % 64 = letV c := by omega
        have i4 : (letV a * 262144 + letV b * 4096 + letV c * 64 + letV d) % 64 = letV d := by omega
        rw [i1, i2, i3, i4, da, db, dc, dd]
        rfl
      · have dc := letD_of c bc.1 bc.2 gc
        have nc : c ≠ 61 := fun e => by rw [e, letV_61] at gc; omega
        have hq : quadB [a, b, c, 61] = [(letV a * 262144 + letV b * 4096 + letV c * 64) / 65536 % 256, (letV a * 262144 + letV b * 4096 + letV c * 64) / 256 % 256] := by
          simp only [quadB, acc4, ma, mb, mv_pos c gc, mv_61, List.getD_cons_succ, List.getD_cons_zero, if_neg nc]
          simp
        rw [unb64, hq, show unb64 [] = [] from rfl, List.append_nil, b64]
        have i1 : (letV a * 262144 + letV b * 4096 + letV c * 64) / 65536 % 256 / 4 = letV a := by omega
        have i2 : (letV a * 262144 + letV b * 4096 + letV c * 64) / 65536 % 256 % 4 * 16 + (letV a * 262144 + letV b * 4096 + letV c * 64) / 256 % 256 / 16 = letV b := by omega
        have i3 : (letV a * 262144 + letV b * 4096 + letV c * 64) / 256 % 256 % 16 * 4 = letV c := by omega
        rw [i1, i2, i3, da, db, dc]
      · have hq : quadB [a, b, 61, 61] = [(letV a * 262144 + letV b * 4096) / 65536 % 256] := by
          simp only [quadB, acc4, ma, mb, mv_61, List.getD_cons_succ, List.getD_cons_zero]
          simp
        rw [unb64, hq, show unb64 [] = [] from rfl, List.append_nil, b64]
        have i1 : (letV a * 262144 + letV b * 4096) / 65536 % 256 / 4 = letV a := by omega
        have i2 : (letV a * 262144 + letV b * 4096) / 65536 % 256 % 4 * 16 = letV b := by omega
        rw [i1, i2, da, db]
    | [a, b, c], h, _, _ => simp at h; omega
    | [a, b], h, _, _ => simp at h; omega
    | [a], h, _, _ => simp at h; omega
    | [], h, _, _ => simp at h

theorem drop_four (l : List Int) (j : Nat) (h : 4 * j + 4 ≤ l.length) : l.drop (4 * j) = l.getD (4 * j) 0 :: l.getD (4 * j + 1) 0 :: l.getD (4 * j + 2) 0 :: l.getD (4 * j + 3) 0 :: l.drop (4 * (j + 1)) := by
  have e : ∀ k, k < l.length → l.drop k = l.getD k 0 :: l.drop (k + 1) := fun k hk => by
    rw [List.drop_eq_getElem_cons hk]
    simp [List.getD, List.getElem?_eq_getElem hk]
  rw [e _ (by omega), e _ (by omega), e _ (by omega), e _ (by omega)]
  rfl

theorem good_of (l : List Int) (m : Nat) (hl : l.length = 4 * m) (hm : ∀ i, i < 4 * m → mf l i = true) : ∀ t, t ≤ m → Good (l.drop (4 * (m - t)))
  | 0, _ => by rw [List.drop_of_length_le (by omega)]; trivial
  | t + 1, ht => by
    have ih := good_of l m hl hm t (by omega)
    obtain ⟨j, hj⟩ : ∃ j, m - (t + 1) = j := ⟨_, rfl⟩
    rw [show m - t = j + 1 by omega] at ih
    rw [hj, drop_four l j (by omega)]
    have m0 := hm (4 * j) (by omega)
    have m1 := hm (4 * j + 1) (by omega)
    have m2 := hm (4 * j + 2) (by omega)
    have m3 := hm (4 * j + 3) (by omega)
    rw [mf, mf0] at m0
    rw [mf, mf1, show 4 * j + 1 - 1 = 4 * j by omega] at m1
    rw [mf, mf2, show 4 * j + 2 - 1 = 4 * j + 1 by omega] at m2
    rw [mf, mf3, show 4 * j + 3 - 1 = 4 * j + 2 by omega] at m3
    have hlast : 4 * (j + 1) < l.length → 0 ≤ letV (l.getD (4 * j + 3) 0) := by
      intro h
      have m4 := hm (4 * (j + 1)) (by omega)
      rw [mf, mf0, show 4 * (j + 1) - 1 = 4 * j + 3 by omega] at m4
      simp at m4
      exact m4.2
    generalize l.getD (4 * j) 0 = a at m0 m1
    generalize l.getD (4 * j + 1) 0 = b at m1 m2
    generalize l.getD (4 * j + 2) 0 = c at m2 m3
    generalize l.getD (4 * j + 3) 0 = d at m3 hlast
    simp at m0 m1
    refine ⟨m0.1, m1.1, ?_, ih⟩
    by_cases hend : 4 * (j + 1) < l.length
    · have hd := hlast hend
      left
      by_cases hc : letV c < 0
      · rw [if_pos hc] at m3
        simp at m3
        rw [m3, letV_61] at hd
        omega
      · exact ⟨by omega, hd⟩
    · have hr : l.drop (4 * (j + 1)) = [] := List.drop_of_length_le (by omega)
      by_cases hc : letV c < 0
      · rw [if_pos hc] at m3
        simp at m3 m2
        right
        refine ⟨hr, .inr ?_⟩
        rcases m2 with m2 | m2
        · omega
        · exact ⟨m2.1, m3, m2.2⟩
      · rw [if_neg hc] at m3
        simp at m3
        rcases m3 with m3 | m3
        · exact .inl ⟨by omega, m3⟩
        · exact .inr ⟨hr, .inl ⟨by omega, m3.1, m3.2⟩⟩
theorem good_all (l : List Int) (m : Nat) (hl : l.length = 4 * m) (hm : ∀ i, i < 4 * m → mf l i = true) : Good l := by
  have := good_of l m hl hm m (Nat.le_refl _)
  simpa using this
end Go.Proofs.Ytioggmjocelolaa
