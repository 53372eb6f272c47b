import Derived.Test.YtcopkohklgbpgaaDoorAddEmpty
namespace Go.Proofs.YtcopkohklgbpgaaDoor
open Go.RowKit
set_option linter.unusedVariables false
set_option linter.unusedSimpArgs false

/-- A list's numbers, as a function. -/
def fnz (zs : List Int) (i : Nat) : Int := zs.getD i 0
theorem fnz_left (zs ys : List Int) (i : Nat) (h : i < zs.length) : fnz (zs ++ ys) i = fnz zs i := by
  simp [fnz, List.getD, List.getElem?_append_left h]
theorem fnz_right (zs ys : List Int) (i : Nat) : fnz (zs ++ ys) (zs.length + i) = fnz ys i := by
  simp [fnz, List.getD, List.getElem?_append_right (Nat.le_add_right _ _)]
theorem fnz_take (ys : List Int) (k i : Nat) (h : i < k) : fnz (ys.take k) i = fnz ys i := by
  simp [fnz, List.getD, List.getElem?_take, h]
theorem fnz_drop (ys : List Int) (k i : Nat) : fnz (ys.drop k) i = fnz ys (k + i) := by
  simp [fnz, List.getD]

/-- A taken that began with the words s0 (f0 bytes were counted ahead) and was fed zs. -/
def Rep (w : World) (g o : Nat) (h : Int) (wd : Bool) (s0 : Eight) (f0 : Nat) (zs : List Int) : Prop :=
  ∃ half, TK w g o h wd (TT wd (fnz zs) s0 (zs.length / bsz wd)) half (f0 + zs.length) ∧ (∀ i, i < zs.length % bsz wd → half i = fnz zs (bsz wd * (zs.length / bsz wd) + i)) ∧ f0 % bsz wd = 0

theorem add_few_any (wd : Bool) (g o : Nat) (h : Int) (s : Eight) (half : Nat → Int) (fed n used cap b p : Nat) (zs : List Int) (w : World) (hblk : blockOf h = bsz wd) (HK : TK w g o h wd s half fed) (hn : zs.length = n) (hfn : fed + n ≤ 4611686018427387904)
    (hv : View w (.slice (some ⟨b, p, none⟩) n cap) zs) (hsep : Apart (.slice (some ⟨b, p, none⟩) n cap) g o 139) (hg : 4 ≤ g) (h0 : fed % bsz wd = used) (hu0 : 0 < used) (hu1 : used + n < bsz wd) :
    Calls Tryd.prog 57 #[.pointer (some ⟨g, o, none⟩), .slice (some ⟨b, p, none⟩) n cap] w fun e w' => e = .returned (.tuple #[]) ∧ Touch w w' g o 139 ∧ TK w' g o h wd s (fun i => if used ≤ i ∧ i < used + zs.length then zs.getD (i - used) 0 else half i) (fed + n) := by
  cases wd
  · exact add_few64 g o h s half fed n used cap b p zs w hblk HK hn hfn hv hsep hg h0 hu0 hu1
  · exact add_few128 g o h s half fed n used cap b p zs w hblk HK hn hfn hv hsep hg h0 hu0 hu1
theorem add_zero_any (wd : Bool) (g o : Nat) (h : Int) (s : Eight) (half : Nat → Int) (fed n wh cap b p : Nat) (zs : List Int) (w : World) (hblk : blockOf h = bsz wd) (HK : TK w g o h wd s half fed) (hn : zs.length = n) (hfn : fed + n ≤ 4611686018427387904)
    (hv : View w (.slice (some ⟨b, p, none⟩) n cap) zs) (hsep : Apart (.slice (some ⟨b, p, none⟩) n cap) g o 139) (hT : Tables w) (hg : 4 ≤ g) (h0 : fed % bsz wd = 0) (hq : n = wh + n % bsz wd) :
    Calls Tryd.prog 57 #[.pointer (some ⟨g, o, none⟩), .slice (some ⟨b, p, none⟩) n cap] w fun e w' => e = .returned (.tuple #[]) ∧ Touch w w' g o 139 ∧ TK w' g o h wd (TT wd (fnz (zs.take wh)) s (wh / bsz wd)) (fun i => if 0 ≤ i ∧ i < 0 + (zs.drop wh).length then (zs.drop wh).getD (i - 0) 0 else half i) (fed + n) := by
  cases wd
  · exact add_zero64 g o h s half fed n wh cap b p zs w hblk HK hn hfn hv hsep hT hg h0 hq
  · exact add_zero128 g o h s half fed n wh cap b p zs w hblk HK hn hfn hv hsep hT hg h0 hq
theorem add_many_any (wd : Bool) (g o : Nat) (h : Int) (s : Eight) (half : Nat → Int) (fed k n wh used cap b p : Nat) (zs : List Int) (w : World) (hblk : blockOf h = bsz wd) (HK : TK w g o h wd s half fed) (hn : zs.length = k + n) (hfn : fed + (k + n) ≤ 4611686018427387904)
    (hv : View w (.slice (some ⟨b, p, none⟩) (k + n) (k + cap)) zs) (hsep : Apart (.slice (some ⟨b, p, none⟩) (k + n) (k + cap)) g o 139) (hT : Tables w) (hg : 4 ≤ g) (h0 : fed % bsz wd = used) (hu0 : 0 < used) (hu1 : used + k = bsz wd) (hq : n = wh + n % bsz wd) :
    Calls Tryd.prog 57 #[.pointer (some ⟨g, o, none⟩), .slice (some ⟨b, p, none⟩) (k + n) (k + cap)] w fun e w' => e = .returned (.tuple #[]) ∧ Touch w w' g o 139 ∧ ∃ s1, s1 = TT wd (fun i => if used ≤ i ∧ i < used + (zs.take k).length then (zs.take k).getD (i - used) 0 else half i) s 1 ∧
      TK w' g o h wd (TT wd (fnz ((zs.drop k).take wh)) s1 (wh / bsz wd)) (fun i => if 0 ≤ i ∧ i < 0 + ((zs.drop k).drop wh).length then ((zs.drop k).drop wh).getD (i - 0) 0 else (fun i => if used ≤ i ∧ i < used + (zs.take k).length then (zs.take k).getD (i - used) 0 else half i) i) (fed + (k + n)) := by
  cases wd
  · exact add_many64 g o h s half fed k n wh used cap b p zs w hblk HK hn hfn hv hsep hT hg h0 hu0 hu1 hq
  · exact add_many128 g o h s half fed k n wh used cap b p zs w hblk HK hn hfn hv hsep hT hg h0 hu0 hu1 hq
theorem add_empty_any (wd : Bool) (g o : Nat) (h : Int) (s : Eight) (half : Nat → Int) (fed cap : Nat) (a : Option Addr) (w : World) (hblk : blockOf h = bsz wd) (HK : TK w g o h wd s half fed) (hfn : fed ≤ 4611686018427387904) (hcm : cap ≤ 9223372036854775807) (ha : a = none → cap = 0) :
    Calls Tryd.prog 57 #[.pointer (some ⟨g, o, none⟩), .slice a 0 cap] w fun e w' => e = .returned (.tuple #[]) ∧ Touch w w' g o 139 ∧ TK w' g o h wd s half fed := by
  cases wd
  · exact add_empty64 g o h s half fed cap a w hblk HK hfn hcm ha
  · exact add_empty128 g o h s half fed cap a w hblk HK hfn hcm ha

/-- taken.add: what was fed before, and behind it the new bytes. -/
theorem add_rep (wd : Bool) (g o : Nat) (h : Int) (s0 : Eight) (f0 : Nat) (zs ys : List Int) (v : Value) (w : World) (hblk : blockOf h = bsz wd) (hr : Rep w g o h wd s0 f0 zs) (hv : View w v ys) (hap : Apart v g o 139) (hT : Tables w) (hg : 4 ≤ g) (hfn : f0 + zs.length + ys.length ≤ 4611686018427387904) :
    Calls Tryd.prog 57 #[.pointer (some ⟨g, o, none⟩), v] w fun e w' => e = .returned (.tuple #[]) ∧ Touch w w' g o 139 ∧ Rep w' g o h wd s0 f0 (zs ++ ys) := by
  obtain ⟨half, hk, hh, hf⟩ := hr
  have hb := bsz_pos wd
  have hvv := hv
  obtain ⟨a, cap, rfl, h1, h2, h3, h4⟩ := hv
  by_cases hys : ys = []
  · subst hys
    refine (add_empty_any wd g o h _ half _ cap a w hblk hk (by simpa using hfn) (by unfold maxLen at h2; omega) h3).mono ?_
    rintro e w' ⟨rfl, ht, hk'⟩
    rw [List.append_nil]
    exact ⟨rfl, ht, half, hk', hh, hf⟩
  have hL : (zs ++ ys).length = zs.length + ys.length := by simp
  generalize hB : bsz wd = B at *
  generalize hn : ys.length = n at *
  generalize hl : zs.length = l at *
  rcases h4 with rfl | ⟨b, p, rfl, hc⟩
  · exact absurd rfl hys
  have hZl : ∀ i, i < l → fnz (zs ++ ys) i = fnz zs i := fun i hi => fnz_left zs ys i (by omega)
  have hZr : ∀ i, fnz (zs ++ ys) (l + i) = fnz ys i := fun i => by rw [← hl]; exact fnz_right zs ys i
  have hlq : l = B * (l / B) + l % B := (Nat.div_add_mod l B).symm
  have hused : (f0 + l) % B = l % B := by
    obtain ⟨c, hc⟩ : ∃ c, f0 = B * c := ⟨f0 / B, by have := Nat.div_add_mod f0 B; omega⟩
    rw [hc, Nat.mul_add_mod]
  have hTq : ∀ s, TT wd (fnz (zs ++ ys)) s (l / B) = TT wd (fnz zs) s (l / B) := fun s => TT_congr wd s _ fun j hj => hZl j (by rw [hB] at hj; omega)
  have hul : l % B < B := Nat.mod_lt _ hb
  by_cases hu : l % B = 0
  · have hnq : n = B * (n / B) + n % B := (Nat.div_add_mod n B).symm
    refine (add_zero_any wd g o h _ half (f0 + l) n (B * (n / B)) cap b p ys w (by rw [hB]; exact hblk) hk hn (by omega) hvv hap hT hg (by rw [hB, hused, hu]) (by rw [hB]; exact hnq)).mono ?_
    rintro e w' ⟨rfl, ht, hk'⟩
    have e1 : (l + n) / B = l / B + n / B := by
      rw [hlq, hu, Nat.add_zero, Nat.mul_add_div hb, Nat.mul_div_cancel_left _ hb]
    have e2 : (l + n) % B = n % B := by
      rw [hlq, hu, Nat.add_zero, Nat.mul_add_mod]
    refine ⟨rfl, ht, (fun i => if 0 ≤ i ∧ i < 0 + (ys.drop (B * (n / B))).length then (ys.drop (B * (n / B))).getD (i - 0) 0 else half i), ?_, ?_, by rw [hB]; exact hf⟩
    · rw [hL, hB, e1, TT_add wd _ s0 (l / B) (n / B), hTq]
      rw [hB, Nat.mul_div_cancel_left _ hb, TT_congr wd (B' := fun k => fnz (zs ++ ys) (bsz wd * (l / B) + k)) _ (n / B) (fun j hj => by
        rw [hB] at hj ⊢
        rw [fnz_take ys _ j (by omega), show B * (l / B) + j = l + j by omega, hZr])] at hk'
      rw [show f0 + (l + n) = f0 + l + n by omega]
      exact hk'
    · intro i hi
      dsimp only
      rw [hL, hB] at hi ⊢
      rw [e2] at hi
      rw [e1]
      have hdl : (ys.drop (B * (n / B))).length = n % B := by simp; omega
      rw [if_pos ⟨Nat.zero_le _, by omega⟩]
      have := fnz_drop ys (B * (n / B)) i
      rw [show B * (l / B + n / B) + i = l + (B * (n / B) + i) by rw [Nat.mul_add]; omega, hZr, ← this]
      rfl
  · by_cases hfew : l % B + n < B
    · refine (add_few_any wd g o h _ half (f0 + l) n (l % B) cap b p ys w (by rw [hB]; exact hblk) hk hn (by omega) hvv hap hg (by rw [hB, hused]) (by omega) (by rw [hB]; exact hfew)).mono ?_
      rintro e w' ⟨rfl, ht, hk'⟩
      have e1 : (l + n) / B = l / B := by
        have : l + n = B * (l / B) + (l % B + n) := by omega
        rw [this, Nat.mul_add_div hb, Nat.div_eq_of_lt hfew, Nat.add_zero]
      have e2 : (l + n) % B = l % B + n := by
        have : l + n = B * (l / B) + (l % B + n) := by omega
        rw [this, Nat.mul_add_mod, Nat.mod_eq_of_lt hfew]
      refine ⟨rfl, ht, (fun i => if l % B ≤ i ∧ i < l % B + ys.length then ys.getD (i - l % B) 0 else half i), ?_, ?_, by rw [hB]; exact hf⟩
      · rw [hL, hB, e1, hTq, show f0 + (l + n) = f0 + l + n by omega]
        exact hk'
      · intro i hi
        dsimp only
        rw [hL, hB] at hi ⊢
        rw [e2] at hi
        rw [e1]
        by_cases hil : l % B ≤ i
        · rw [if_pos ⟨hil, by omega⟩, show B * (l / B) + i = l + (i - l % B) by omega, hZr]
          rfl
        · rw [if_neg (by omega), hh i (by omega), hZl _ (by omega)]
    · obtain ⟨k, hk0⟩ : ∃ k, k = B - l % B := ⟨_, rfl⟩
      obtain ⟨m, hm⟩ : ∃ m, n = k + m := ⟨n - k, by omega⟩
      obtain ⟨c, hcc⟩ : ∃ c, cap = k + c := ⟨cap - k, by omega⟩
      subst hm hcc
      have hnq : m = B * (m / B) + m % B := (Nat.div_add_mod m B).symm
      refine (add_many_any wd g o h _ half (f0 + l) k m (B * (m / B)) (l % B) c b p ys w (by rw [hB]; exact hblk) hk hn (by omega) hvv hap hT hg (by rw [hB, hused]) (by omega) (by rw [hB]; omega) (by rw [hB]; exact hnq)).mono ?_
      rintro e w' ⟨rfl, ht, s1, hs1, hk'⟩
      have e1 : (l + (k + m)) / B = l / B + 1 + m / B := by
        have : l + (k + m) = B * (l / B + 1) + m := by rw [Nat.mul_add]; omega
        rw [this, Nat.mul_add_div hb]
      have e2 : (l + (k + m)) % B = m % B := by
        have : l + (k + m) = B * (l / B + 1) + m := by rw [Nat.mul_add]; omega
        rw [this, Nat.mul_add_mod]
      have hlt : (ys.take k).length = k := by simp; omega
      have hs1' : s1 = TT wd (fnz (zs ++ ys)) s0 (l / B + 1) := by
        rw [hs1, TT_add wd _ s0 (l / B) 1, hTq]
        refine TT_congr wd _ 1 fun j hj => ?_
        rw [hB] at hj ⊢
        by_cases hjl : l % B ≤ j
        · rw [if_pos ⟨hjl, by omega⟩, show B * (l / B) + j = l + (j - l % B) by omega, hZr]
          exact fnz_take ys k _ (by omega)
        · rw [if_neg (by omega), hh j (by omega), hZl _ (by omega)]
      refine ⟨rfl, ht, (fun i => if 0 ≤ i ∧ i < 0 + ((ys.drop k).drop (B * (m / B))).length then ((ys.drop k).drop (B * (m / B))).getD (i - 0) 0 else (fun i => if l % B ≤ i ∧ i < l % B + (ys.take k).length then (ys.take k).getD (i - l % B) 0 else half i) i), ?_, ?_, by rw [hB]; exact hf⟩
      · rw [hL, hB, e1, TT_add wd _ s0 (l / B + 1) (m / B), ← hs1']
        rw [hB, Nat.mul_div_cancel_left _ hb, TT_congr wd (B' := fun k => fnz (zs ++ ys) (bsz wd * (l / B + 1) + k)) _ (m / B) (fun j hj => by
          rw [hB] at hj ⊢
          rw [fnz_take _ _ j (by omega), fnz_drop, show B * (l / B + 1) + j = l + (k + j) by rw [Nat.mul_add]; omega, hZr])] at hk'
        rw [show f0 + (l + (k + m)) = f0 + l + (k + m) by omega]
        exact hk'
      · intro i hi
        dsimp only
        rw [hL, hB] at hi ⊢
        rw [e2] at hi
        rw [e1]
        have hdl : ((ys.drop k).drop (B * (m / B))).length = m % B := by simp; omega
        rw [if_pos ⟨Nat.zero_le _, by omega⟩]
        have h5 := (fnz_drop (ys.drop k) (B * (m / B)) i).trans (fnz_drop ys k (B * (m / B) + i))
        rw [show B * (l / B + 1 + m / B) + i = l + (k + (B * (m / B) + i)) by rw [Nat.mul_add, Nat.mul_add]; omega, hZr, ← h5]
        rfl
end Go.Proofs.YtcopkohklgbpgaaDoor
