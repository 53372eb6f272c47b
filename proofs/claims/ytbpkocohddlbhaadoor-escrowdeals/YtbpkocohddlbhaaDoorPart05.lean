import Derived.Test.YtbpkocohddlbhaaDoorPart04
import Derived.Lib.LazyBuf
import Derived.Laws.EntriesVeiled
import Derived.Deep.Cut
namespace Go.Proofs.YtbpkocohddlbhaaDoor
open Go.RowKit
set_option linter.unusedVariables false
set_option linter.unusedSimpArgs false
theorem copy_zero (w : World) (x y : Option Addr) (dl dc c : Nat) : (Builtin.copy_ #[23, 23] 3 #[.slice x dl dc, .slice y 0 c]).run Tryd.prog w = .ok (.int .i64 0) w :=
  run_copy_none (P := Tryd.prog) w 23 23 3 5 x y dl dc 0 c Tryd.underlying23 (by kernel_rfl) (by show min _ _ = 0; omega)

set_option maxHeartbeats 3200000 in
set_option maxRecDepth 100000 in
theorem add_empty64 (g o : Nat) (h : Int) (s : Eight) (half : Nat → Int) (fed cap : Nat) (a : Option Addr) (w : World) (hblk : blockOf h = 64) (HK : Hid (TK w g o h false s half fed)) (hfn : fed ≤ 4611686018427387904) (hcm : cap ≤ 9223372036854775807) (ha : a = none → cap = 0) :
    Calls Tryd.prog 83 #[.pointer (some ⟨g, o, none⟩), .slice a 0 cap] w fun e w' => e = .returned (.tuple #[]) ∧ Touch w w' g o 139 ∧ TK w' g o h false s half fed := by
  have c0 := HK.out.hash
  have c138 := HK.out.fed
  have f138 : w.frozen? ⟨g, o + 138, none⟩ = false := (HK.out.there 138 (by omega)).2
  have hgw : g < w.heap.size := lt_of_cell c0
  have HT1 : Hid (Touch w (w.setCell ⟨g, o + 138, none⟩ (.int .u64 fed)) g o 139) := (Touch.refl _ _ _ _).setCell _ _ (by omega) (by omega)
  have HK1 : Hid (TK (w.setCell ⟨g, o + 138, none⟩ (.int .u64 fed)) g o h false s half fed) := HK.out.setFed _ _ rfl
  by_cases hu : fed % 64 = 0
  · have r0 : ((fed : Int) % 64) = 0 := by omega
    go_enter Tryd.func83, Tryd.ntmps83
    go_wp2_with (first | (go_at_call 79; refine (block_any _ _).mono ?_; rintro e1 w1 ⟨rfl, hw1⟩; obtain rfl := hw1.symm; rw [hblk]))
    generalize w.setCell ⟨g, o + 138, none⟩ (.int .u64 fed) = w1 at HT1 HK1 ⊢
    clear c0 c138 f138
    have c1' : w1.cell? ⟨g, o + 1, none⟩ = some (.func (.func 80) #[] #[]) := HK1.out.fn
    have HA : Hid (∀ v, Sm w1 v → Calls Tryd.prog 80 #[.pointer (some ⟨g, o + 2, none⟩), .slice a 0 cap] v fun e w' => e = .returned (.tuple #[]) ∧ Touch w w' g o 139 ∧ TK w' g o h false s half fed) := by
      intro v hsm
      have hs1 := HT1.out.size
      have hgv : g < v.heap.size := by rw [hsm.heap]; omega
      refine (narrow_zero _ a cap v).mono ?_
      rintro e w' ⟨rfl, hb⟩
      have ht := (Touch.refl v g (o + 2) 8).below hb hgv
      exact ⟨rfl, HT1.out.trans ((hsm.touch g o 139).trans ((Touch.refl v g o 139).below hb hgv)), (HK1.out.sm hsm).words ht (range_below (HK1.out.sm hsm).st hb hgv)⟩
    go_region_held3 (fun v => v.cell? ⟨g, o + 1, none⟩ = some (.func (.func 80) #[] #[])) (first | go_keep | exact hk2.fn) ((go_at_call 80; refine (HA.out w1.drew (Sm.refl w1).drew).mono ?_; rintro e2 w2 ⟨rfl, ht2, hk2⟩))
    have HT2 : Hid (Touch w w2 g o 139) := ht2
    have HK2 : Hid (TK w2 g o h false s half fed) := hk2
    have hcp : ∀ x, (Builtin.copy_ #[23, 23] 3 #[.slice (some ⟨g, o + 10, none⟩) 64 128, .slice x 0 cap]).run Tryd.prog w2.drew = .ok (.int .i64 0) w2.drew := fun x => copy_zero w2.drew _ _ _ _ _
    clear ht2 hk2 HA c1' HT1 HK1
    go_wp2
    go_region
    go_wp2
    go_end0
    exact ⟨rfl, HT2.out.drew, HK2.out.sm (Sm.refl w2).drew⟩
  · obtain ⟨used, hus⟩ : ∃ u, u = fed % 64 := ⟨_, rfl⟩
    have r0 : ((fed : Int) % 64) = (used : Int) := by omega
    have hu2 : (0 : Int) < (used : Int) := by omega
    have hu3 : (used : Int) < 64 := by omega
    have hu4 : (used : Int) ≤ 64 := by omega
    have hcp : ∀ w, (Builtin.copy_ #[23, 23] 3 #[.slice (some ⟨g, o + 10 + used, none⟩) (64 - used) (128 - used), .slice a 0 cap]).run Tryd.prog w = .ok (.int .i64 0) w := fun w => copy_zero w _ _ _ _ _
    clear hus hu
    go_enter Tryd.func83, Tryd.ntmps83
    go_wp2_with (first | (go_at_call 79; refine (block_any _ _).mono ?_; rintro e1 w1 ⟨rfl, hw1⟩; obtain rfl := hw1.symm; rw [hblk]))
    refine bodyPost_ret (results_none rfl _ _ _) rfl ?_
    exact ⟨rfl, HT1.out, HK1.out⟩

set_option maxHeartbeats 3200000 in
set_option maxRecDepth 100000 in
theorem add_empty128 (g o : Nat) (h : Int) (s : Eight) (half : Nat → Int) (fed cap : Nat) (a : Option Addr) (w : World) (hblk : blockOf h = 128) (HK : Hid (TK w g o h true s half fed)) (hfn : fed ≤ 4611686018427387904) (hcm : cap ≤ 9223372036854775807) (ha : a = none → cap = 0) :
    Calls Tryd.prog 83 #[.pointer (some ⟨g, o, none⟩), .slice a 0 cap] w fun e w' => e = .returned (.tuple #[]) ∧ Touch w w' g o 139 ∧ TK w' g o h true s half fed := by
  have c0 := HK.out.hash
  have c138 := HK.out.fed
  have f138 : w.frozen? ⟨g, o + 138, none⟩ = false := (HK.out.there 138 (by omega)).2
  have hgw : g < w.heap.size := lt_of_cell c0
  have HT1 : Hid (Touch w (w.setCell ⟨g, o + 138, none⟩ (.int .u64 fed)) g o 139) := (Touch.refl _ _ _ _).setCell _ _ (by omega) (by omega)
  have HK1 : Hid (TK (w.setCell ⟨g, o + 138, none⟩ (.int .u64 fed)) g o h true s half fed) := HK.out.setFed _ _ rfl
  by_cases hu : fed % 128 = 0
  · have r0 : ((fed : Int) % 128) = 0 := by omega
    go_enter Tryd.func83, Tryd.ntmps83
    go_wp2_with (first | (go_at_call 79; refine (block_any _ _).mono ?_; rintro e1 w1 ⟨rfl, hw1⟩; obtain rfl := hw1.symm; rw [hblk]))
    generalize w.setCell ⟨g, o + 138, none⟩ (.int .u64 fed) = w1 at HT1 HK1 ⊢
    clear c0 c138 f138
    have c1' : w1.cell? ⟨g, o + 1, none⟩ = some (.func (.func 81) #[] #[]) := HK1.out.fn
    have HA : Hid (∀ v, Sm w1 v → Calls Tryd.prog 81 #[.pointer (some ⟨g, o + 2, none⟩), .slice a 0 cap] v fun e w' => e = .returned (.tuple #[]) ∧ Touch w w' g o 139 ∧ TK w' g o h true s half fed) := by
      intro v hsm
      have hs1 := HT1.out.size
      have hgv : g < v.heap.size := by rw [hsm.heap]; omega
      refine (wide_zero _ a cap v).mono ?_
      rintro e w' ⟨rfl, hb⟩
      have ht := (Touch.refl v g (o + 2) 8).below hb hgv
      exact ⟨rfl, HT1.out.trans ((hsm.touch g o 139).trans ((Touch.refl v g o 139).below hb hgv)), (HK1.out.sm hsm).words ht (range_below (HK1.out.sm hsm).st hb hgv)⟩
    go_region_held3 (fun v => v.cell? ⟨g, o + 1, none⟩ = some (.func (.func 81) #[] #[])) (first | go_keep | exact hk2.fn) ((go_at_call 81; refine (HA.out w1.drew (Sm.refl w1).drew).mono ?_; rintro e2 w2 ⟨rfl, ht2, hk2⟩))
    have HT2 : Hid (Touch w w2 g o 139) := ht2
    have HK2 : Hid (TK w2 g o h true s half fed) := hk2
    have hcp : ∀ x, (Builtin.copy_ #[23, 23] 3 #[.slice (some ⟨g, o + 10, none⟩) 128 128, .slice x 0 cap]).run Tryd.prog w2.drew = .ok (.int .i64 0) w2.drew := fun x => copy_zero w2.drew _ _ _ _ _
    clear ht2 hk2 HA c1' HT1 HK1
    go_wp2
    go_region
    go_wp2
    go_end0
    exact ⟨rfl, HT2.out.drew, HK2.out.sm (Sm.refl w2).drew⟩
  · obtain ⟨used, hus⟩ : ∃ u, u = fed % 128 := ⟨_, rfl⟩
    have r0 : ((fed : Int) % 128) = (used : Int) := by omega
    have hu2 : (0 : Int) < (used : Int) := by omega
    have hu3 : (used : Int) < 128 := by omega
    have hu4 : (used : Int) ≤ 128 := by omega
    have hcp : ∀ w, (Builtin.copy_ #[23, 23] 3 #[.slice (some ⟨g, o + 10 + used, none⟩) (128 - used) (128 - used), .slice a 0 cap]).run Tryd.prog w = .ok (.int .i64 0) w := fun w => copy_zero w _ _ _ _ _
    clear hus hu
    go_enter Tryd.func83, Tryd.ntmps83
    go_wp2_with (first | (go_at_call 79; refine (block_any _ _).mono ?_; rintro e1 w1 ⟨rfl, hw1⟩; obtain rfl := hw1.symm; rw [hblk]))
    refine bodyPost_ret (results_none rfl _ _ _) rfl ?_
    exact ⟨rfl, HT1.out, HK1.out⟩
end Go.Proofs.YtbpkocohddlbhaaDoor
namespace Go.Proofs.YtbpkocohddlbhaaDoor
open Go.RowKit
set_option linter.unusedVariables false
set_option linter.unusedSimpArgs false

/-- A list's numbers, as a function. -/
def fnz (zs : List Int) (i : Nat) : Int := zs.getD i 0
theorem fnz_left (zs ys : List Int) (i : Nat) (h : i < zs.length) : fnz (zs ++ ys) i = fnz zs i := by
  simp [fnz, List.getD, List.getElem?_append_left h]
theorem fnz_right (zs ys : List Int) (i : Nat) : fnz (zs ++ ys) (zs.length + i) = fnz ys i := by
  simp [fnz, List.getD, List.getElem?_append_right (Nat.le_add_right _ _)]
theorem fnz_take (ys : List Int) (k i : Nat) (h : i < k) : fnz (ys.take k) i = fnz ys i := by
  simp [fnz, List.getD, List.getElem?_take, h]
theorem fnz_drop (ys : List Int) (k i : Nat) : fnz (ys.drop k) i = fnz ys (k + i) := by
  simp [fnz, List.getD]

/-- A taken that began with the words s0 (f0 bytes were counted ahead) and was fed zs. -/
def Rep (w : World) (g o : Nat) (h : Int) (wd : Bool) (s0 : Eight) (f0 : Nat) (zs : List Int) : Prop :=
  ∃ half, TK w g o h wd (TT wd (fnz zs) s0 (zs.length / bsz wd)) half (f0 + zs.length) ∧ (∀ i, i < zs.length % bsz wd → half i = fnz zs (bsz wd * (zs.length / bsz wd) + i)) ∧ f0 % bsz wd = 0

theorem add_few_any (wd : Bool) (g o : Nat) (h : Int) (s : Eight) (half : Nat → Int) (fed n used cap b p : Nat) (zs : List Int) (w : World) (hblk : blockOf h = bsz wd) (HK : TK w g o h wd s half fed) (hn : zs.length = n) (hfn : fed + n ≤ 4611686018427387904)
    (hv : View w (.slice (some ⟨b, p, none⟩) n cap) zs) (hsep : Apart (.slice (some ⟨b, p, none⟩) n cap) g o 139) (hg : 4 ≤ g) (h0 : fed % bsz wd = used) (hu0 : 0 < used) (hu1 : used + n < bsz wd) :
    Calls Tryd.prog 83 #[.pointer (some ⟨g, o, none⟩), .slice (some ⟨b, p, none⟩) n cap] w fun e w' => e = .returned (.tuple #[]) ∧ Touch w w' g o 139 ∧ TK w' g o h wd s (fun i => if used ≤ i ∧ i < used + zs.length then zs.getD (i - used) 0 else half i) (fed + n) := by
  cases wd
  · exact add_few64 g o h s half fed n used cap b p zs w hblk HK hn hfn hv hsep hg h0 hu0 hu1
  · exact add_few128 g o h s half fed n used cap b p zs w hblk HK hn hfn hv hsep hg h0 hu0 hu1
theorem add_zero_any (wd : Bool) (g o : Nat) (h : Int) (s : Eight) (half : Nat → Int) (fed n wh cap b p : Nat) (zs : List Int) (w : World) (hblk : blockOf h = bsz wd) (HK : TK w g o h wd s half fed) (hn : zs.length = n) (hfn : fed + n ≤ 4611686018427387904)
    (hv : View w (.slice (some ⟨b, p, none⟩) n cap) zs) (hsep : Apart (.slice (some ⟨b, p, none⟩) n cap) g o 139) (hT : Tables w) (hg : 4 ≤ g) (h0 : fed % bsz wd = 0) (hq : n = wh + n % bsz wd) :
    Calls Tryd.prog 83 #[.pointer (some ⟨g, o, none⟩), .slice (some ⟨b, p, none⟩) n cap] w fun e w' => e = .returned (.tuple #[]) ∧ Touch w w' g o 139 ∧ TK w' g o h wd (TT wd (fnz (zs.take wh)) s (wh / bsz wd)) (fun i => if 0 ≤ i ∧ i < 0 + (zs.drop wh).length then (zs.drop wh).getD (i - 0) 0 else half i) (fed + n) := by
  cases wd
  · exact add_zero64 g o h s half fed n wh cap b p zs w hblk HK hn hfn hv hsep hT hg h0 hq
  · exact add_zero128 g o h s half fed n wh cap b p zs w hblk HK hn hfn hv hsep hT hg h0 hq
theorem add_many_any (wd : Bool) (g o : Nat) (h : Int) (s : Eight) (half : Nat → Int) (fed k n wh used cap b p : Nat) (zs : List Int) (w : World) (hblk : blockOf h = bsz wd) (HK : TK w g o h wd s half fed) (hn : zs.length = k + n) (hfn : fed + (k + n) ≤ 4611686018427387904)
    (hv : View w (.slice (some ⟨b, p, none⟩) (k + n) (k + cap)) zs) (hsep : Apart (.slice (some ⟨b, p, none⟩) (k + n) (k + cap)) g o 139) (hT : Tables w) (hg : 4 ≤ g) (h0 : fed % bsz wd = used) (hu0 : 0 < used) (hu1 : used + k = bsz wd) (hq : n = wh + n % bsz wd) :
    Calls Tryd.prog 83 #[.pointer (some ⟨g, o, none⟩), .slice (some ⟨b, p, none⟩) (k + n) (k + cap)] w fun e w' => e = .returned (.tuple #[]) ∧ Touch w w' g o 139 ∧ ∃ s1, s1 = TT wd (fun i => if used ≤ i ∧ i < used + (zs.take k).length then (zs.take k).getD (i - used) 0 else half i) s 1 ∧
      TK w' g o h wd (TT wd (fnz ((zs.drop k).take wh)) s1 (wh / bsz wd)) (fun i => if 0 ≤ i ∧ i < 0 + ((zs.drop k).drop wh).length then ((zs.drop k).drop wh).getD (i - 0) 0 else (fun i => if used ≤ i ∧ i < used + (zs.take k).length then (zs.take k).getD (i - used) 0 else half i) i) (fed + (k + n)) := by
  cases wd
  · exact add_many64 g o h s half fed k n wh used cap b p zs w hblk HK hn hfn hv hsep hT hg h0 hu0 hu1 hq
  · exact add_many128 g o h s half fed k n wh used cap b p zs w hblk HK hn hfn hv hsep hT hg h0 hu0 hu1 hq
theorem add_empty_any (wd : Bool) (g o : Nat) (h : Int) (s : Eight) (half : Nat → Int) (fed cap : Nat) (a : Option Addr) (w : World) (hblk : blockOf h = bsz wd) (HK : TK w g o h wd s half fed) (hfn : fed ≤ 4611686018427387904) (hcm : cap ≤ 9223372036854775807) (ha : a = none → cap = 0) :
    Calls Tryd.prog 83 #[.pointer (some ⟨g, o, none⟩), .slice a 0 cap] w fun e w' => e = .returned (.tuple #[]) ∧ Touch w w' g o 139 ∧ TK w' g o h wd s half fed := by
  cases wd
  · exact add_empty64 g o h s half fed cap a w hblk HK hfn hcm ha
  · exact add_empty128 g o h s half fed cap a w hblk HK hfn hcm ha

/-- taken.add: what was fed before, and behind it the new bytes. -/
theorem add_rep (wd : Bool) (g o : Nat) (h : Int) (s0 : Eight) (f0 : Nat) (zs ys : List Int) (v : Value) (w : World) (hblk : blockOf h = bsz wd) (hr : Rep w g o h wd s0 f0 zs) (hv : View w v ys) (hap : Apart v g o 139) (hT : Tables w) (hg : 4 ≤ g) (hfn : f0 + zs.length + ys.length ≤ 4611686018427387904) :
    Calls Tryd.prog 83 #[.pointer (some ⟨g, o, none⟩), v] w fun e w' => e = .returned (.tuple #[]) ∧ Touch w w' g o 139 ∧ Rep w' g o h wd s0 f0 (zs ++ ys) := by
  obtain ⟨half, hk, hh, hf⟩ := hr
  have hb := bsz_pos wd
  have hvv := hv
  obtain ⟨a, cap, rfl, h1, h2, h3, h4⟩ := hv
  by_cases hys : ys = []
  · subst hys
    refine (add_empty_any wd g o h _ half _ cap a w hblk hk (by simpa using hfn) (by unfold maxLen at h2; omega) h3).mono ?_
    rintro e w' ⟨rfl, ht, hk'⟩
    rw [List.append_nil]
    exact ⟨rfl, ht, half, hk', hh, hf⟩
  have hL : (zs ++ ys).length = zs.length + ys.length := by simp
  generalize hB : bsz wd = B at *
  generalize hn : ys.length = n at *
  generalize hl : zs.length = l at *
  rcases h4 with rfl | ⟨b, p, rfl, hc⟩
  · exact absurd rfl hys
  have hZl : ∀ i, i < l → fnz (zs ++ ys) i = fnz zs i := fun i hi => fnz_left zs ys i (by omega)
  have hZr : ∀ i, fnz (zs ++ ys) (l + i) = fnz ys i := fun i => by rw [← hl]; exact fnz_right zs ys i
  have hlq : l = B * (l / B) + l % B := (Nat.div_add_mod l B).symm
  have hused : (f0 + l) % B = l % B := by
    obtain ⟨c, hc⟩ : ∃ c, f0 = B * c := ⟨f0 / B, by have := Nat.div_add_mod f0 B; omega⟩
    rw [hc, Nat.mul_add_mod]
  have hTq : ∀ s, TT wd (fnz (zs ++ ys)) s (l / B) = TT wd (fnz zs) s (l / B) := fun s => TT_congr wd s _ fun j hj => hZl j (by rw [hB] at hj; omega)
  have hul : l % B < B := Nat.mod_lt _ hb
  by_cases hu : l % B = 0
  · have hnq : n = B * (n / B) + n % B := (Nat.div_add_mod n B).symm
    refine (add_zero_any wd g o h _ half (f0 + l) n (B * (n / B)) cap b p ys w (by rw [hB]; exact hblk) hk hn (by omega) hvv hap hT hg (by rw [hB, hused, hu]) (by rw [hB]; exact hnq)).mono ?_
    rintro e w' ⟨rfl, ht, hk'⟩
    have e1 : (l + n) / B = l / B + n / B := by
      rw [hlq, hu, Nat.add_zero, Nat.mul_add_div hb, Nat.mul_div_cancel_left _ hb]
    have e2 : (l + n) % B = n % B := by
      rw [hlq, hu, Nat.add_zero, Nat.mul_add_mod]
    refine ⟨rfl, ht, (fun i => if 0 ≤ i ∧ i < 0 + (ys.drop (B * (n / B))).length then (ys.drop (B * (n / B))).getD (i - 0) 0 else half i), ?_, ?_, by rw [hB]; exact hf⟩
    · rw [hL, hB, e1, TT_add wd _ s0 (l / B) (n / B), hTq]
      rw [hB, Nat.mul_div_cancel_left _ hb, TT_congr wd (B' := fun k => fnz (zs ++ ys) (bsz wd * (l / B) + k)) _ (n / B) (fun j hj => by
        rw [hB] at hj ⊢
        rw [fnz_take ys _ j (by omega), show B * (l / B) + j = l + j by omega, hZr])] at hk'
      rw [show f0 + (l + n) = f0 + l + n by omega]
      exact hk'
    · intro i hi
      dsimp only
      rw [hL, hB] at hi ⊢
      rw [e2] at hi
      rw [e1]
      have hdl : (ys.drop (B * (n / B))).length = n % B := by simp; omega
      rw [if_pos ⟨Nat.zero_le _, by omega⟩]
      have := fnz_drop ys (B * (n / B)) i
      rw [show B * (l / B + n / B) + i = l + (B * (n / B) + i) by rw [Nat.mul_add]; omega, hZr, ← this]
      rfl
  · by_cases hfew : l % B + n < B
    · refine (add_few_any wd g o h _ half (f0 + l) n (l % B) cap b p ys w (by rw [hB]; exact hblk) hk hn (by omega) hvv hap hg (by rw [hB, hused]) (by omega) (by rw [hB]; exact hfew)).mono ?_
      rintro e w' ⟨rfl, ht, hk'⟩
      have e1 : (l + n) / B = l / B := by
        have : l + n = B * (l / B) + (l % B + n) := by omega
        rw [this, Nat.mul_add_div hb, Nat.div_eq_of_lt hfew, Nat.add_zero]
      have e2 : (l + n) % B = l % B + n := by
        have : l + n = B * (l / B) + (l % B + n) := by omega
        rw [this, Nat.mul_add_mod, Nat.mod_eq_of_lt hfew]
      refine ⟨rfl, ht, (fun i => if l % B ≤ i ∧ i < l % B + ys.length then ys.getD (i - l % B) 0 else half i), ?_, ?_, by rw [hB]; exact hf⟩
      · rw [hL, hB, e1, hTq, show f0 + (l + n) = f0 + l + n by omega]
        exact hk'
      · intro i hi
        dsimp only
        rw [hL, hB] at hi ⊢
        rw [e2] at hi
        rw [e1]
        by_cases hil : l % B ≤ i
        · rw [if_pos ⟨hil, by omega⟩, show B * (l / B) + i = l + (i - l % B) by omega, hZr]
          rfl
        · rw [if_neg (by omega), hh i (by omega), hZl _ (by omega)]
    · obtain ⟨k, hk0⟩ : ∃ k, k = B - l % B := ⟨_, rfl⟩
      obtain ⟨m, hm⟩ : ∃ m, n = k + m := ⟨n - k, by omega⟩
      obtain ⟨c, hcc⟩ : ∃ c, cap = k + c := ⟨cap - k, by omega⟩
      subst hm hcc
      have hnq : m = B * (m / B) + m % B := (Nat.div_add_mod m B).symm
      refine (add_many_any wd g o h _ half (f0 + l) k m (B * (m / B)) (l % B) c b p ys w (by rw [hB]; exact hblk) hk hn (by omega) hvv hap hT hg (by rw [hB, hused]) (by omega) (by rw [hB]; omega) (by rw [hB]; exact hnq)).mono ?_
      rintro e w' ⟨rfl, ht, s1, hs1, hk'⟩
      have e1 : (l + (k + m)) / B = l / B + 1 + m / B := by
        have : l + (k + m) = B * (l / B + 1) + m := by rw [Nat.mul_add]; omega
        rw [this, Nat.mul_add_div hb]
      have e2 : (l + (k + m)) % B = m % B := by
        have : l + (k + m) = B * (l / B + 1) + m := by rw [Nat.mul_add]; omega
        rw [this, Nat.mul_add_mod]
      have hlt : (ys.take k).length = k := by simp; omega
      have hs1' : s1 = TT wd (fnz (zs ++ ys)) s0 (l / B + 1) := by
        rw [hs1, TT_add wd _ s0 (l / B) 1, hTq]
        refine TT_congr wd _ 1 fun j hj => ?_
        rw [hB] at hj ⊢
        by_cases hjl : l % B ≤ j
        · rw [if_pos ⟨hjl, by omega⟩, show B * (l / B) + j = l + (j - l % B) by omega, hZr]
          exact fnz_take ys k _ (by omega)
        · rw [if_neg (by omega), hh j (by omega), hZl _ (by omega)]
      refine ⟨rfl, ht, (fun i => if 0 ≤ i ∧ i < 0 + ((ys.drop k).drop (B * (m / B))).length then ((ys.drop k).drop (B * (m / B))).getD (i - 0) 0 else (fun i => if l % B ≤ i ∧ i < l % B + (ys.take k).length then (ys.take k).getD (i - l % B) 0 else half i) i), ?_, ?_, by rw [hB]; exact hf⟩
      · rw [hL, hB, e1, TT_add wd _ s0 (l / B + 1) (m / B), ← hs1']
        rw [hB, Nat.mul_div_cancel_left _ hb, TT_congr wd (B' := fun k => fnz (zs ++ ys) (bsz wd * (l / B + 1) + k)) _ (m / B) (fun j hj => by
          rw [hB] at hj ⊢
          rw [fnz_take _ _ j (by omega), fnz_drop, show B * (l / B + 1) + j = l + (k + j) by rw [Nat.mul_add]; omega, hZr])] at hk'
        rw [show f0 + (l + (k + m)) = f0 + l + (k + m) by omega]
        exact hk'
      · intro i hi
        dsimp only
        rw [hL, hB] at hi ⊢
        rw [e2] at hi
        rw [e1]
        have hdl : ((ys.drop k).drop (B * (m / B))).length = m % B := by simp; omega
        rw [if_pos ⟨Nat.zero_le _, by omega⟩]
        have h5 := (fnz_drop (ys.drop k) (B * (m / B)) i).trans (fnz_drop ys k (B * (m / B) + i))
        rw [show B * (l / B + 1 + m / B) + i = l + (k + (B * (m / B) + i)) by rw [Nat.mul_add, Nat.mul_add]; omega, hZr, ← h5]
        rfl
end Go.Proofs.YtbpkocohddlbhaaDoor
namespace Go.Proofs.YtbpkocohddlbhaaDoor
open Go.RowKit
set_option linter.unusedVariables false
set_option linter.unusedSimpArgs false

theorem size75 : (Tryd.prog.info? 113).map (·.size) = some 64 := by kernel_rfl
/-- Byte number k of the words, of ws bytes each. -/
def spellAt (ws : Nat) (s : Eight) (k : Nat) : Int := if k < 8 * ws then fnz s.list (k / ws) / 256 ^ (ws - 1 - k % ws) % 256 else 0
def spellCells (ws : Nat) (s : Eight) : List Value := (List.range 64).map fun k => .int .u8 (spellAt ws s k)
theorem spellCells_length (ws : Nat) (s : Eight) : (spellCells ws s).length = 64 := by simp [spellCells]
theorem spellArr_size (ws : Nat) (s : Eight) : (spellCells ws s).toArray.size = 64 := by simp [spellCells]
theorem spellCells_one (ws : Nat) (s : Eight) : (spellCells ws s).toArray.all (·.oneCell') = true := all_oneCell_toArray (by
  intro v hv
  simp only [spellCells, List.mem_map] at hv
  obtain ⟨z, _, rfl⟩ := hv
  rfl)
theorem set_cell {w : World} {b k N : Nat} {F G : Nat → Int} (h : ∀ j, j < N → w.cell? ⟨b, j, none⟩ = some (.int .u8 (F j))) (hk : k < N) (u : Int) (hu : u = G k) (hFG : ∀ j, j < N → j ≠ k → F j = G j) :
    ∀ j, j < N → (w.setCell ⟨b, k, none⟩ (.int .u8 u)).cell? ⟨b, j, none⟩ = some (.int .u8 (G j)) := by
  intro j hj
  by_cases e : j = k
  · subst e
    rw [World.cell?_setCell_same' _ _ _ (by rw [h j hj]; rfl), hu]
  · have := World.cell?_setCells_out b [.int .u8 u] k w ⟨b, j, none⟩ (fun _ _ => by show j < k ∨ k + 1 ≤ j; omega)
    rw [← hFG j hj e, ← h j hj]
    exact this
theorem two_there (w : World) (C D : Array Value) (t u : TypeId) (n : Nat) (hn : n ≤ D.size) : ((w.alloc (.cells C t)).alloc (.cells D u)).there (w.heap.size + 1) 0 n := by
  have := there_new (w.alloc (.cells C t)) D u n hn
  simpa using this
theorem two_cell (w : World) (C D : Array Value) (t u : TypeId) (k : Nat) : ((w.alloc (.cells C t)).alloc (.cells D u)).cell? ⟨w.heap.size + 1, k, none⟩ = D[k]? :=
  World.cell?_alloc_at D u _ _ (by simp)
theorem zero_lit (n k : Nat) (hk : k < n) : (List.replicate n (Value.int .u8 0)).toArray[k]? = some (.int .u8 0) := by simp [hk]
theorem results_cell1D {fn : Func} {p : Tmp} {ty : TypeId} (h : fn.results = #[.cell p ty]) (tmps : Array Value) (P : Program) (w : World) :
    (results fn tmps).run P w = ((asAddr (tmps.getD p undef)).run P w).andThen fun a w₁ => (loadVar ty a).run P w₁ := by
  simp only [results, h]
  simp [Sem.run_bind, Result.andThen]
theorem pow_step (x : Int) (e : Nat) : x / 256 ^ e / 256 = x / 256 ^ (e + 1) := by
  rw [Int.pow_succ, Int.ediv_ediv_of_nonneg]
  exact Int.pow_nonneg (by omega)

set_option maxHeartbeats 3200000 in
set_option maxRecDepth 100000 in
theorem spell64 (g o : Nat) (h : Int) (s : Eight) (half : Nat → Int) (fed : Nat) (w : World) (hblk : blockOf h = 64) (HK : Hid (TK w g o h false s half fed)) :
    Calls Tryd.prog 84 #[.pointer (some ⟨g, o, none⟩)] w fun e w' => e = .returned (.agg (spellCells 4 s).toArray) ∧ Below w.heap.size w w' := by
  have c0 := HK.out.hash
  have c2 : w.cell? ⟨g, o + 2, none⟩ = some (.int .u64 s.a) := HK.out.st 0 _ rfl
  have c3 : w.cell? ⟨g, o + 2 + 1, none⟩ = some (.int .u64 s.b) := HK.out.st 1 _ rfl
  have c4 : w.cell? ⟨g, o + 2 + 2, none⟩ = some (.int .u64 s.c) := HK.out.st 2 _ rfl
  have c5 : w.cell? ⟨g, o + 2 + 3, none⟩ = some (.int .u64 s.d) := HK.out.st 3 _ rfl
  have c6 : w.cell? ⟨g, o + 2 + 4, none⟩ = some (.int .u64 s.e) := HK.out.st 4 _ rfl
  have c7 : w.cell? ⟨g, o + 2 + 5, none⟩ = some (.int .u64 s.f) := HK.out.st 5 _ rfl
  have c8 : w.cell? ⟨g, o + 2 + 6, none⟩ = some (.int .u64 s.g) := HK.out.st 6 _ rfl
  have c9 : w.cell? ⟨g, o + 2 + 7, none⟩ = some (.int .u64 s.k) := HK.out.st 7 _ rfl
  have hgw : g < w.heap.size := lt_of_cell c0
  go_enter Tryd.func84, Tryd.ntmps84
  go_wp2_with (first | (go_at_call 79; refine (block_any _ _).mono ?_; rintro e1 w1 ⟨rfl, hw1⟩; obtain rfl := hw1.symm; rw [hblk]))
  clear c2 c3 c4 c5 c6 c7 c8 c9 c0
  go_loopw [18] (fun v wr => ∃ i : Nat, i ≤ 8 ∧ v = .int .i64 i ∧ Hid (Below w.heap.size w wr) ∧ Hid (wr.there w.heap.size 0 64 ∧ wr.there (w.heap.size + 1) 0 64) ∧ Hid (∀ k, k < 64 → wr.cell? ⟨w.heap.size + 1, k, none⟩ = some (.int .u8 (if k < 4 * i then spellAt 4 s k else 0)))) (fun v _ => 8 - (intOf v).toNat)
  case atStart =>
    refine ⟨0, by omega, rfl, ?_, ⟨?_, ?_⟩, ?_⟩
    · exact ((Below.refl _ _).alloc (Nat.le_refl _) _).alloc (by simp) _
    · exact World.there_alloc (there_new w _ 113 64 (by decide)) _
    · exact two_there w _ _ 113 113 64 (by decide)
    · intro k hk
      rw [if_neg (by omega)]
      exact (two_cell w _ _ 113 113 k).trans (zero_lit 64 k hk)
  case round =>
    obtain ⟨i, hi, rfl, HB, HN, HF⟩ := hrel
    by_cases h8 : i < 8
    · have hidx : (Instr.index 104 (.agg #[.int .u64 s.a, .int .u64 s.b, .int .u64 s.c, .int .u64 s.d, .int .u64 s.e, .int .u64 s.f, .int .u64 s.g, .int .u64 s.k]) (.int .i64 i)).run Tryd.prog wr = .ok (.int .u64 (fnz s.list i)) wr := by
        have : i = 0 ∨ i = 1 ∨ i = 2 ∨ i = 3 ∨ i = 4 ∨ i = 5 ∨ i = 6 ∨ i = 7 := by omega
        rcases this with rfl | rfl | rfl | rfl | rfl | rfl | rfl | rfl <;> rfl
      go_wp2
      go_loopw [6, 7] (fun x v wr => ∃ m : Nat, m ≤ 4 ∧ v = .int .i64 ((m : Int) - 1) ∧ x = .int .u64 (fnz s.list i / 256 ^ (4 - m)) ∧ Hid (Below w.heap.size w wr) ∧ Hid (wr.there w.heap.size 0 64 ∧ wr.there (w.heap.size + 1) 0 64) ∧ Hid (∀ k, k < 64 → wr.cell? ⟨w.heap.size + 1, k, none⟩ = some (.int .u8 (if k < 4 * i ∨ (4 * i + m ≤ k ∧ k < 4 * i + 4) then spellAt 4 s k else 0)))) (fun _ v _ => (intOf v + 1).toNat)
      case atStart =>
        refine ⟨4, by omega, rfl, by simp, HB, HN, fun k hk => ?_⟩
        rw [HF.out k hk]
        by_cases hk1 : k < 4 * i
        · rw [if_pos hk1, if_pos (.inl hk1)]
        · rw [if_neg hk1, if_neg (by omega)]
      case round =>
        obtain ⟨m, hm, rfl, rfl, HB2, HN2, HF2⟩ := hrel
        clear HB HN HF hidx
        by_cases hm0 : 0 < m
        · obtain ⟨m', rfl⟩ : ∃ m', m = m' + 1 := ⟨m - 1, by omega⟩
          rw [show ((m' + 1 : Nat) : Int) - 1 = (m' : Int) by omega]
          have e1 : ((i : Int) * 4 + (m' : Int)).toNat = 4 * i + m' := by omega
          have fw : wr.frozen? ⟨w.heap.size + 1, 4 * i + m', none⟩ = false := by simpa using (HN2.out.2 (4 * i + m') (by omega)).2
          have fc := HF2.out (4 * i + m') (by omega)
          generalize hX : fnz s.list i / 256 ^ (4 - (m' + 1)) = X at *
          go_wp2
          go_roundw
          case rel =>
            refine ⟨m', by omega, rfl, ?_, HB2.out.setCell (by show _ ≤ w.heap.size + 1; omega) _, ⟨World.there_setCells HN2.out.1 _ _ [_], World.there_setCells HN2.out.2 _ _ [_]⟩, ?_⟩
            · rw [← hX, pow_step, show 4 - (m' + 1) + 1 = 4 - m' by omega]
            · refine set_cell HF2.out (by omega) _ ?_ ?_
              · rw [if_pos (.inr ⟨Nat.le_refl _, by omega⟩), spellAt, if_pos (by omega), show (4 * i + m') / 4 = i by omega, show (4 * i + m') % 4 = m' by omega, show 4 - 1 - m' = 4 - (m' + 1) by omega, hX]
              · intro j hj hne
                by_cases hc : j < 4 * i ∨ (4 * i + (m' + 1) ≤ j ∧ j < 4 * i + 4)
                · rw [if_pos hc, if_pos (by omega)]
                · rw [if_neg hc, if_neg (by omega)]
          case measure => simp [intOf]
        · obtain rfl : m = 0 := by omega
          go_wp2
          go_roundw
          case rel =>
            refine ⟨i + 1, by omega, by go_num, HB2, HN2, fun k hk => ?_⟩
            rw [HF2.out k hk]
            by_cases hc : k < 4 * (i + 1)
            · rw [if_pos hc, if_pos (by omega)]
            · rw [if_neg hc, if_neg (by omega)]
          case measure => simp [intOf]; omega
    · obtain rfl : i = 8 := by omega
      have HR : Hid (wr.rangeAt (w.heap.size + 1) 0 (spellCells 4 s)) := fun j v hv => by
        have hj : j < 64 := by
          by_cases hj : j < (spellCells 4 s).length
          · rwa [spellCells_length] at hj
          · rw [List.getElem?_eq_none (by omega)] at hv; cases hv
        rw [Nat.zero_add, HF.out j hj]
        simp only [spellCells, List.getElem?_map, List.getElem?_range hj, Option.map_some, Option.some.injEq] at hv
        rw [← hv]
        by_cases hc : j < 4 * 8
        · rw [if_pos hc]
        · rw [if_neg hc, spellAt, if_neg (by omega)]
      have HY : Hid (wr.there w.heap.size 0 (spellCells 4 s).toArray.size) := by rw [spellArr_size]; exact HN.out.1
      have HZ : Hid ((Tryd.prog.info? 113).map (·.size) = some (spellCells 4 s).toArray.size) := by rw [spellArr_size]; exact size75
      go_wp2_with (first
        | (refine wpList_load_mid (by rfl) 113 (.tmp 3) (by rfl) (w.heap.size + 1) 0 (by rfl) (spellCells 4 s) _ HR.out Tryd.underlying113 rfl (by rw [spellCells_length]; exact size75) ?_)
        | (refine wpList_store_mid (by rfl) 113 (.tmp 2) (.tmp 39) (by rfl) w.heap.size 0 (spellCells 4 s).toArray (by rfl) (by rfl) HY.out HZ.out (spellCells_one 4 s) ?_)
        | fail)
      have hl := run_loadVar_mid (P := Tryd.prog) (wr.setCells w.heap.size 0 (spellCells 4 s)) w.heap.size 0 113 (spellCells 4 s) _ (World.rangeAt_setCells_same wr w.heap.size 0 (spellCells 4 s) (by rw [spellCells_length]; exact HN.out.1)) Tryd.underlying113 rfl (by rw [spellCells_length]; exact size75)
      refine bodyPost_ret (v := .agg (spellCells 4 s).toArray) ?_ rfl ⟨rfl, below_setCells _ (Nat.le_refl _) _ _ _ HB.out⟩
      rw [results_cell1D Tryd.results84]
      simp [Act.put, asAddr, hl]

set_option maxHeartbeats 3200000 in
set_option maxRecDepth 100000 in
theorem spell128 (g o : Nat) (h : Int) (s : Eight) (half : Nat → Int) (fed : Nat) (w : World) (hblk : blockOf h = 128) (HK : Hid (TK w g o h true s half fed)) :
    Calls Tryd.prog 84 #[.pointer (some ⟨g, o, none⟩)] w fun e w' => e = .returned (.agg (spellCells 8 s).toArray) ∧ Below w.heap.size w w' := by
  have c0 := HK.out.hash
  have c2 : w.cell? ⟨g, o + 2, none⟩ = some (.int .u64 s.a) := HK.out.st 0 _ rfl
  have c3 : w.cell? ⟨g, o + 2 + 1, none⟩ = some (.int .u64 s.b) := HK.out.st 1 _ rfl
  have c4 : w.cell? ⟨g, o + 2 + 2, none⟩ = some (.int .u64 s.c) := HK.out.st 2 _ rfl
  have c5 : w.cell? ⟨g, o + 2 + 3, none⟩ = some (.int .u64 s.d) := HK.out.st 3 _ rfl
  have c6 : w.cell? ⟨g, o + 2 + 4, none⟩ = some (.int .u64 s.e) := HK.out.st 4 _ rfl
  have c7 : w.cell? ⟨g, o + 2 + 5, none⟩ = some (.int .u64 s.f) := HK.out.st 5 _ rfl
  have c8 : w.cell? ⟨g, o + 2 + 6, none⟩ = some (.int .u64 s.g) := HK.out.st 6 _ rfl
  have c9 : w.cell? ⟨g, o + 2 + 7, none⟩ = some (.int .u64 s.k) := HK.out.st 7 _ rfl
  have hgw : g < w.heap.size := lt_of_cell c0
  go_enter Tryd.func84, Tryd.ntmps84
  go_wp2_with (first | (go_at_call 79; refine (block_any _ _).mono ?_; rintro e1 w1 ⟨rfl, hw1⟩; obtain rfl := hw1.symm; rw [hblk]))
  clear c2 c3 c4 c5 c6 c7 c8 c9 c0
  go_loopw [18] (fun v wr => ∃ i : Nat, i ≤ 8 ∧ v = .int .i64 i ∧ Hid (Below w.heap.size w wr) ∧ Hid (wr.there w.heap.size 0 64 ∧ wr.there (w.heap.size + 1) 0 64) ∧ Hid (∀ k, k < 64 → wr.cell? ⟨w.heap.size + 1, k, none⟩ = some (.int .u8 (if k < 8 * i then spellAt 8 s k else 0)))) (fun v _ => 8 - (intOf v).toNat)
  case atStart =>
    refine ⟨0, by omega, rfl, ?_, ⟨?_, ?_⟩, ?_⟩
    · exact ((Below.refl _ _).alloc (Nat.le_refl _) _).alloc (by simp) _
    · exact World.there_alloc (there_new w _ 113 64 (by decide)) _
    · exact two_there w _ _ 113 113 64 (by decide)
    · intro k hk
      rw [if_neg (by omega)]
      exact (two_cell w _ _ 113 113 k).trans (zero_lit 64 k hk)
  case round =>
    obtain ⟨i, hi, rfl, HB, HN, HF⟩ := hrel
    by_cases h8 : i < 8
    · have hidx : (Instr.index 104 (.agg #[.int .u64 s.a, .int .u64 s.b, .int .u64 s.c, .int .u64 s.d, .int .u64 s.e, .int .u64 s.f, .int .u64 s.g, .int .u64 s.k]) (.int .i64 i)).run Tryd.prog wr = .ok (.int .u64 (fnz s.list i)) wr := by
        have : i = 0 ∨ i = 1 ∨ i = 2 ∨ i = 3 ∨ i = 4 ∨ i = 5 ∨ i = 6 ∨ i = 7 := by omega
        rcases this with rfl | rfl | rfl | rfl | rfl | rfl | rfl | rfl <;> rfl
      go_wp2
      go_loopw [6, 7] (fun x v wr => ∃ m : Nat, m ≤ 8 ∧ v = .int .i64 ((m : Int) - 1) ∧ x = .int .u64 (fnz s.list i / 256 ^ (8 - m)) ∧ Hid (Below w.heap.size w wr) ∧ Hid (wr.there w.heap.size 0 64 ∧ wr.there (w.heap.size + 1) 0 64) ∧ Hid (∀ k, k < 64 → wr.cell? ⟨w.heap.size + 1, k, none⟩ = some (.int .u8 (if k < 8 * i ∨ (8 * i + m ≤ k ∧ k < 8 * i + 8) then spellAt 8 s k else 0)))) (fun _ v _ => (intOf v + 1).toNat)
      case atStart =>
        refine ⟨8, by omega, rfl, by simp, HB, HN, fun k hk => ?_⟩
        rw [HF.out k hk]
        by_cases hk1 : k < 8 * i
        · rw [if_pos hk1, if_pos (.inl hk1)]
        · rw [if_neg hk1, if_neg (by omega)]
      case round =>
        obtain ⟨m, hm, rfl, rfl, HB2, HN2, HF2⟩ := hrel
        clear HB HN HF hidx
        by_cases hm0 : 0 < m
        · obtain ⟨m', rfl⟩ : ∃ m', m = m' + 1 := ⟨m - 1, by omega⟩
          rw [show ((m' + 1 : Nat) : Int) - 1 = (m' : Int) by omega]
          have e1 : ((i : Int) * 8 + (m' : Int)).toNat = 8 * i + m' := by omega
          have fw : wr.frozen? ⟨w.heap.size + 1, 8 * i + m', none⟩ = false := by simpa using (HN2.out.2 (8 * i + m') (by omega)).2
          have fc := HF2.out (8 * i + m') (by omega)
          generalize hX : fnz s.list i / 256 ^ (8 - (m' + 1)) = X at *
          go_wp2
          go_roundw
          case rel =>
            refine ⟨m', by omega, rfl, ?_, HB2.out.setCell (by show _ ≤ w.heap.size + 1; omega) _, ⟨World.there_setCells HN2.out.1 _ _ [_], World.there_setCells HN2.out.2 _ _ [_]⟩, ?_⟩
            · rw [← hX, pow_step, show 8 - (m' + 1) + 1 = 8 - m' by omega]
            · refine set_cell HF2.out (by omega) _ ?_ ?_
              · rw [if_pos (.inr ⟨Nat.le_refl _, by omega⟩), spellAt, if_pos (by omega), show (8 * i + m') / 8 = i by omega, show (8 * i + m') % 8 = m' by omega, show 8 - 1 - m' = 8 - (m' + 1) by omega, hX]
              · intro j hj hne
                by_cases hc : j < 8 * i ∨ (8 * i + (m' + 1) ≤ j ∧ j < 8 * i + 8)
                · rw [if_pos hc, if_pos (by omega)]
                · rw [if_neg hc, if_neg (by omega)]
          case measure => simp [intOf]
        · obtain rfl : m = 0 := by omega
          go_wp2
          go_roundw
          case rel =>
            refine ⟨i + 1, by omega, by go_num, HB2, HN2, fun k hk => ?_⟩
            rw [HF2.out k hk]
            by_cases hc : k < 8 * (i + 1)
            · rw [if_pos hc, if_pos (by omega)]
            · rw [if_neg hc, if_neg (by omega)]
          case measure => simp [intOf]; omega
    · obtain rfl : i = 8 := by omega
      have HR : Hid (wr.rangeAt (w.heap.size + 1) 0 (spellCells 8 s)) := fun j v hv => by
        have hj : j < 64 := by
          by_cases hj : j < (spellCells 8 s).length
          · rwa [spellCells_length] at hj
          · rw [List.getElem?_eq_none (by omega)] at hv; cases hv
        rw [Nat.zero_add, HF.out j hj]
        simp only [spellCells, List.getElem?_map, List.getElem?_range hj, Option.map_some, Option.some.injEq] at hv
        rw [← hv]
        by_cases hc : j < 8 * 8
        · rw [if_pos hc]
        · rw [if_neg hc, spellAt, if_neg (by omega)]
      have HY : Hid (wr.there w.heap.size 0 (spellCells 8 s).toArray.size) := by rw [spellArr_size]; exact HN.out.1
      have HZ : Hid ((Tryd.prog.info? 113).map (·.size) = some (spellCells 8 s).toArray.size) := by rw [spellArr_size]; exact size75
      go_wp2_with (first
        | (refine wpList_load_mid (by rfl) 113 (.tmp 3) (by rfl) (w.heap.size + 1) 0 (by rfl) (spellCells 8 s) _ HR.out Tryd.underlying113 rfl (by rw [spellCells_length]; exact size75) ?_)
        | (refine wpList_store_mid (by rfl) 113 (.tmp 2) (.tmp 39) (by rfl) w.heap.size 0 (spellCells 8 s).toArray (by rfl) (by rfl) HY.out HZ.out (spellCells_one 8 s) ?_)
        | fail)
      have hl := run_loadVar_mid (P := Tryd.prog) (wr.setCells w.heap.size 0 (spellCells 8 s)) w.heap.size 0 113 (spellCells 8 s) _ (World.rangeAt_setCells_same wr w.heap.size 0 (spellCells 8 s) (by rw [spellCells_length]; exact HN.out.1)) Tryd.underlying113 rfl (by rw [spellCells_length]; exact size75)
      refine bodyPost_ret (v := .agg (spellCells 8 s).toArray) ?_ rfl ⟨rfl, below_setCells _ (Nat.le_refl _) _ _ _ HB.out⟩
      rw [results_cell1D Tryd.results84]
      simp [Act.put, asAddr, hl]
end Go.Proofs.YtbpkocohddlbhaaDoor
namespace Go.Proofs.YtbpkocohddlbhaaDoor
open Go.RowKit
set_option linter.unusedVariables false
set_option linter.unusedSimpArgs false

/-- The cells of a taken, as a list. -/
def tkL (h : Int) (wd : Bool) (s : Eight) (half : Nat → Int) (fed : Nat) : List Value :=
  .int .i64 h :: fnV wd :: (s.cells ++ ((List.range 128).map (fun i => Value.int .u8 (half i)) ++ [.int .u64 fed]))
theorem tkL_length (h : Int) (wd : Bool) (s : Eight) (half : Nat → Int) (fed : Nat) : (tkL h wd s half fed).length = 139 := by simp [tkL, Eight.cells_length]
theorem tkL_at (h : Int) (wd : Bool) (s : Eight) (half : Nat → Int) (fed : Nat) :
    (tkL h wd s half fed)[0]? = some (.int .i64 h) ∧ (tkL h wd s half fed)[1]? = some (fnV wd) ∧ (∀ i, i < 8 → (tkL h wd s half fed)[2 + i]? = s.cells[i]?) ∧ (∀ i, i < 128 → (tkL h wd s half fed)[10 + i]? = some (.int .u8 (half i))) ∧ (tkL h wd s half fed)[138]? = some (.int .u64 fed) := by
  have hc := s.cells_length
  refine ⟨rfl, rfl, ?_, ?_, ?_⟩
  · intro i hi
    rw [tkL, show 2 + i = (i + 1) + 1 by omega, List.getElem?_cons_succ, List.getElem?_cons_succ, List.getElem?_append_left (by omega)]
  · intro i hi
    rw [tkL, show 10 + i = ((8 + i) + 1) + 1 by omega, List.getElem?_cons_succ, List.getElem?_cons_succ, List.getElem?_append_right (by omega), List.getElem?_append_left (by simp; omega)]
    rw [hc, show 8 + i - 8 = i by omega]
    simp [hi]
  · rw [tkL, show 138 = (136 + 1) + 1 by omega, List.getElem?_cons_succ, List.getElem?_cons_succ, List.getElem?_append_right (by omega), List.getElem?_append_right (by simp; omega)]
    simp [hc]
theorem TK.range {w : World} {g o : Nat} {h : Int} {wd : Bool} {s : Eight} {half : Nat → Int} {fed : Nat} (k : TK w g o h wd s half fed) : w.rangeAt g o (tkL h wd s half fed) := by
  obtain ⟨h0, h1, h2, h3, h4⟩ := tkL_at h wd s half fed
  intro j v hv
  have hj : j < 139 := by
    by_cases hj : j < 139
    · exact hj
    · rw [List.getElem?_eq_none (by rw [tkL_length]; omega)] at hv; cases hv
  by_cases j0 : j = 0
  · subst j0; rw [h0] at hv; cases hv; exact k.hash
  by_cases j1 : j = 1
  · subst j1; rw [h1] at hv; cases hv; exact k.fn
  by_cases j2 : j < 10
  · obtain ⟨i, rfl⟩ : ∃ i, j = 2 + i := ⟨j - 2, by omega⟩
    rw [h2 i (by omega)] at hv
    rw [← Nat.add_assoc]
    exact k.st i v hv
  by_cases j3 : j < 138
  · obtain ⟨i, rfl⟩ : ∃ i, j = 10 + i := ⟨j - 10, by omega⟩
    rw [h3 i (by omega)] at hv
    rw [← Nat.add_assoc]
    cases hv
    exact k.half i (by omega)
  · obtain rfl : j = 138 := by omega
    rw [h4] at hv; cases hv; exact k.fed
theorem TK.of {w : World} {g o : Nat} {h : Int} {wd : Bool} {s : Eight} {half : Nat → Int} {fed : Nat} (hr : w.rangeAt g o (tkL h wd s half fed)) (ht : w.there g o 139) : TK w g o h wd s half fed := by
  obtain ⟨h0, h1, h2, h3, h4⟩ := tkL_at h wd s half fed
  refine ⟨hr 0 _ h0, hr 1 _ h1, fun j v hv => ?_, fun i hi => ?_, hr 138 _ h4, ht⟩
  · have hj : j < 8 := by
      by_cases hj : j < s.cells.length
      · exact hj
      · rw [List.getElem?_eq_none (by omega)] at hv; cases hv
    have := hr (2 + j) v (by rw [h2 j hj]; exact hv)
    rw [← Nat.add_assoc] at this
    exact this
  · have := hr (10 + i) _ (h3 i hi)
    rw [← Nat.add_assoc] at this
    exact this
theorem cells_oneE (s : Eight) : ∀ v ∈ s.cells, v.oneCell' = true := by
  intro v hv
  simp only [Eight.cells, List.mem_map] at hv
  obtain ⟨x, _, rfl⟩ := hv
  rfl
theorem tkL_one (h : Int) (wd : Bool) (s : Eight) (half : Nat → Int) (fed : Nat) : (tkL h wd s half fed).toArray.all (·.oneCell') = true := all_oneCell_toArray (by
  intro v hv
  simp only [tkL, List.mem_cons, List.mem_append, List.mem_map, List.mem_singleton] at hv
  rcases hv with rfl | rfl | hv | ⟨i, _, rfl⟩ | rfl | hv
  · rfl
  · cases wd <;> rfl
  · exact cells_oneE s v hv
  · rfl
  · rfl
  · simp at hv)
theorem tkArr_size (h : Int) (wd : Bool) (s : Eight) (half : Nat → Int) (fed : Nat) : (tkL h wd s half fed).toArray.size = 139 := by simp [tkL_length]

end Go.Proofs.YtbpkocohddlbhaaDoor
namespace Go.Proofs.YtbpkocohddlbhaaDoor
open Go.RowKit
set_option linter.unusedVariables false
set_option linter.unusedSimpArgs false

def eightOf (f : Nat → Int) : Eight := ⟨f 0, f 1, f 2, f 3, f 4, f 5, f 6, f 7⟩
theorem eightOf_at (f : Nat → Int) (j : Nat) (v : Value) (h : (eightOf f).cells[j]? = some v) : j < 8 ∧ v = .int .u64 (f j) := by
  have hj : j < 8 := by
    by_cases hj : j < (eightOf f).cells.length
    · exact hj
    · rw [List.getElem?_eq_none (by omega)] at h; cases h
  refine ⟨hj, ?_⟩
  match j, hj with
  | 0, _ => exact (Option.some.inj h).symm
  | 1, _ => exact (Option.some.inj h).symm
  | 2, _ => exact (Option.some.inj h).symm
  | 3, _ => exact (Option.some.inj h).symm
  | 4, _ => exact (Option.some.inj h).symm
  | 5, _ => exact (Option.some.inj h).symm
  | 6, _ => exact (Option.some.inj h).symm
  | 7, _ => exact (Option.some.inj h).symm
theorem cellsE_one (s : Eight) : s.cells.toArray.all (·.oneCell') = true := all_oneCell_toArray (by
  intro v hv
  simp only [Eight.cells, List.mem_map] at hv
  obtain ⟨x, _, rfl⟩ := hv
  rfl)
theorem size68 : (Tryd.prog.info? 104).map (·.size) = some 8 := by kernel_rfl
/-- What a digest begins with. -/
def firstAt (h : Int) (i : Nat) : Int := if h = 224 then bits .and .u64 (rootAt (8 + i)) 4294967295 else if h = 256 then rootAt i / 4294967296 else if h = 384 then rootAt (8 + i) else rootAt i
def firstE (h : Int) : Eight := eightOf (firstAt h)

set_option maxHeartbeats 1600000 in
set_option maxRecDepth 100000 in
theorem firstWords224 (w : World) (hT : Hid (Tables w)) :
    Calls Tryd.prog 82 #[.int .i64 224] w fun e w' => e = .returned (.agg (firstE 224).cells.toArray) ∧ Below w.heap.size w w' := by
  have HB0 : Hid (Below w.heap.size w ((w.alloc (.cells #[.int .u64 0, .int .u64 0, .int .u64 0, .int .u64 0, .int .u64 0, .int .u64 0, .int .u64 0, .int .u64 0] 104)).alloc (.cells #[.int .u64 0, .int .u64 0, .int .u64 0, .int .u64 0, .int .u64 0, .int .u64 0, .int .u64 0, .int .u64 0] 104)) ∧ ((w.alloc (.cells #[.int .u64 0, .int .u64 0, .int .u64 0, .int .u64 0, .int .u64 0, .int .u64 0, .int .u64 0, .int .u64 0] 104)).alloc (.cells #[.int .u64 0, .int .u64 0, .int .u64 0, .int .u64 0, .int .u64 0, .int .u64 0, .int .u64 0, .int .u64 0] 104)).there (w.heap.size + 1) 0 8 ∧ ((w.alloc (.cells #[.int .u64 0, .int .u64 0, .int .u64 0, .int .u64 0, .int .u64 0, .int .u64 0, .int .u64 0, .int .u64 0] 104)).alloc (.cells #[.int .u64 0, .int .u64 0, .int .u64 0, .int .u64 0, .int .u64 0, .int .u64 0, .int .u64 0, .int .u64 0] 104)).there w.heap.size 0 8) := ⟨((Below.refl _ _).alloc (Nat.le_refl _) _).alloc (by simp) _, two_there w _ _ 104 104 8 (by decide), World.there_alloc (there_new w _ 104 8 (by decide)) _⟩
  go_enter Tryd.func82, Tryd.ntmps82
  go_wp2
  go_loopw [5] (fun v wr => ∃ q : Nat, q ≤ 8 ∧ v = .int .i64 q ∧ Hid (Below w.heap.size w wr) ∧ Hid (wr.there (w.heap.size + 1) 0 8 ∧ wr.there w.heap.size 0 8) ∧ Hid (∀ j, j < q → wr.cell? ⟨w.heap.size + 1, j, none⟩ = some (.int .u64 (firstAt 224 j)))) (fun v _ => 8 - (intOf v).toNat)
  case atStart => exact ⟨0, by omega, rfl, HB0.out.1, HB0.out.2, fun j hj => by omega⟩
  case round =>
    obtain ⟨q, hq, rfl, HB, HT, HF⟩ := hrel
    clear HB0
    by_cases hlt : q < 8
    · obtain ⟨jj, hjj⟩ : ∃ jj, jj = 8 + q := ⟨_, rfl⟩
      have hTr := hT.out.below HB.out hT.out.size
      have c1 := hTr.roots (jj) (by omega)
      have hql : (q : Int) < 8 := by omega
      have hq0 : (0 : Int) ≤ (q : Int) := by omega
      have e8 : (8 : Int) + (q : Int) = (jj : Int) := by omega
      have e9 : (jj : Int) < 16 := by omega
      have HJ : Hid (jj = 8 + q) := hjj
      clear hjj
      have ff : wr.frozen? ⟨w.heap.size + 1, q, none⟩ = false := by have := (HT.out.1 q hlt).2; rw [Nat.zero_add] at this; exact this
      have fs : (wr.cell? ⟨w.heap.size + 1, q, none⟩).isSome = true := by have := (HT.out.1 q hlt).1; rw [Nat.zero_add] at this; exact this
      obtain ⟨z, hz⟩ := Option.isSome_iff_exists.1 fs
      clear fs hTr
      go_wp2
      go_roundw
      case rel =>
        have hf := fill_step (F := fun j => .int .u64 (firstAt 224 j)) HF.out HT.out.1 hlt (.int .u64 (firstAt 224 q)) rfl
        obtain rfl := HJ.out
        refine ⟨q + 1, by omega, by go_num, HB.out.setCell (by simp) _, ⟨World.there_setCells HT.out.1 _ q [_], World.there_setCells HT.out.2 _ q [_]⟩, hf.1⟩
      case measure => simp [intOf]; omega
    · obtain rfl : q = 8 := by omega
      have HR : Hid (wr.rangeAt (w.heap.size + 1) 0 (firstE 224).cells) := fun j v hv => by
        obtain ⟨hj, rfl⟩ := eightOf_at _ j v hv
        rw [Nat.zero_add]
        exact HF.out j hj
      have HY : Hid (wr.there w.heap.size 0 (firstE 224).cells.toArray.size) := HT.out.2
      have HZ : Hid ((Tryd.prog.info? 104).map (·.size) = some (firstE 224).cells.toArray.size) := size68
      obtain ⟨E, HE⟩ : ∃ E : Eight, Hid (E = firstE 224) := ⟨_, rfl⟩
      rw [← HE.out] at HR HY HZ
      clear HF
      go_wp2_with (first
        | (refine wpList_load_mid (by rfl) 104 (.tmp 3) (by rfl) (w.heap.size + 1) 0 (by rfl) E.cells _ HR.out Tryd.underlying104 rfl size68 ?_)
        | (refine wpList_store_mid (by rfl) 104 (.tmp 2) (.tmp 40) (by rfl) w.heap.size 0 E.cells.toArray (by rfl) (by rfl) HY.out HZ.out (cellsE_one E) ?_)
        | fail)
      have hl := run_loadVar_mid (P := Tryd.prog) (wr.setCells w.heap.size 0 E.cells) w.heap.size 0 104 E.cells _ (World.rangeAt_setCells_same wr w.heap.size 0 E.cells HT.out.2) Tryd.underlying104 rfl size68
      refine bodyPost_ret (v := .agg E.cells.toArray) ?_ rfl ⟨by rw [HE.out], below_setCells _ (Nat.le_refl _) _ _ _ HB.out⟩
      rw [results_cell1D Tryd.results82]
      simp [Act.put, asAddr, hl]

set_option maxHeartbeats 1600000 in
set_option maxRecDepth 100000 in
theorem firstWords256 (w : World) (hT : Hid (Tables w)) :
    Calls Tryd.prog 82 #[.int .i64 256] w fun e w' => e = .returned (.agg (firstE 256).cells.toArray) ∧ Below w.heap.size w w' := by
  have HB0 : Hid (Below w.heap.size w ((w.alloc (.cells #[.int .u64 0, .int .u64 0, .int .u64 0, .int .u64 0, .int .u64 0, .int .u64 0, .int .u64 0, .int .u64 0] 104)).alloc (.cells #[.int .u64 0, .int .u64 0, .int .u64 0, .int .u64 0, .int .u64 0, .int .u64 0, .int .u64 0, .int .u64 0] 104)) ∧ ((w.alloc (.cells #[.int .u64 0, .int .u64 0, .int .u64 0, .int .u64 0, .int .u64 0, .int .u64 0, .int .u64 0, .int .u64 0] 104)).alloc (.cells #[.int .u64 0, .int .u64 0, .int .u64 0, .int .u64 0, .int .u64 0, .int .u64 0, .int .u64 0, .int .u64 0] 104)).there (w.heap.size + 1) 0 8 ∧ ((w.alloc (.cells #[.int .u64 0, .int .u64 0, .int .u64 0, .int .u64 0, .int .u64 0, .int .u64 0, .int .u64 0, .int .u64 0] 104)).alloc (.cells #[.int .u64 0, .int .u64 0, .int .u64 0, .int .u64 0, .int .u64 0, .int .u64 0, .int .u64 0, .int .u64 0] 104)).there w.heap.size 0 8) := ⟨((Below.refl _ _).alloc (Nat.le_refl _) _).alloc (by simp) _, two_there w _ _ 104 104 8 (by decide), World.there_alloc (there_new w _ 104 8 (by decide)) _⟩
  go_enter Tryd.func82, Tryd.ntmps82
  go_wp2
  go_loopw [5] (fun v wr => ∃ q : Nat, q ≤ 8 ∧ v = .int .i64 q ∧ Hid (Below w.heap.size w wr) ∧ Hid (wr.there (w.heap.size + 1) 0 8 ∧ wr.there w.heap.size 0 8) ∧ Hid (∀ j, j < q → wr.cell? ⟨w.heap.size + 1, j, none⟩ = some (.int .u64 (firstAt 256 j)))) (fun v _ => 8 - (intOf v).toNat)
  case atStart => exact ⟨0, by omega, rfl, HB0.out.1, HB0.out.2, fun j hj => by omega⟩
  case round =>
    obtain ⟨q, hq, rfl, HB, HT, HF⟩ := hrel
    clear HB0
    by_cases hlt : q < 8
    · obtain ⟨jj, hjj⟩ : ∃ jj, jj = 8 + q := ⟨_, rfl⟩
      have hTr := hT.out.below HB.out hT.out.size
      have c1 := hTr.roots (q) (by omega)
      have hql : (q : Int) < 8 := by omega
      have hq0 : (0 : Int) ≤ (q : Int) := by omega
      skip
      have ff : wr.frozen? ⟨w.heap.size + 1, q, none⟩ = false := by have := (HT.out.1 q hlt).2; rw [Nat.zero_add] at this; exact this
      have fs : (wr.cell? ⟨w.heap.size + 1, q, none⟩).isSome = true := by have := (HT.out.1 q hlt).1; rw [Nat.zero_add] at this; exact this
      obtain ⟨z, hz⟩ := Option.isSome_iff_exists.1 fs
      clear fs hTr
      go_wp2
      go_roundw
      case rel =>
        have hf := fill_step (F := fun j => .int .u64 (firstAt 256 j)) HF.out HT.out.1 hlt (.int .u64 (firstAt 256 q)) rfl
        skip
        refine ⟨q + 1, by omega, by go_num, HB.out.setCell (by simp) _, ⟨World.there_setCells HT.out.1 _ q [_], World.there_setCells HT.out.2 _ q [_]⟩, hf.1⟩
      case measure => simp [intOf]; omega
    · obtain rfl : q = 8 := by omega
      have HR : Hid (wr.rangeAt (w.heap.size + 1) 0 (firstE 256).cells) := fun j v hv => by
        obtain ⟨hj, rfl⟩ := eightOf_at _ j v hv
        rw [Nat.zero_add]
        exact HF.out j hj
      have HY : Hid (wr.there w.heap.size 0 (firstE 256).cells.toArray.size) := HT.out.2
      have HZ : Hid ((Tryd.prog.info? 104).map (·.size) = some (firstE 256).cells.toArray.size) := size68
      obtain ⟨E, HE⟩ : ∃ E : Eight, Hid (E = firstE 256) := ⟨_, rfl⟩
      rw [← HE.out] at HR HY HZ
      clear HF
      go_wp2_with (first
        | (refine wpList_load_mid (by rfl) 104 (.tmp 3) (by rfl) (w.heap.size + 1) 0 (by rfl) E.cells _ HR.out Tryd.underlying104 rfl size68 ?_)
        | (refine wpList_store_mid (by rfl) 104 (.tmp 2) (.tmp 40) (by rfl) w.heap.size 0 E.cells.toArray (by rfl) (by rfl) HY.out HZ.out (cellsE_one E) ?_)
        | fail)
      have hl := run_loadVar_mid (P := Tryd.prog) (wr.setCells w.heap.size 0 E.cells) w.heap.size 0 104 E.cells _ (World.rangeAt_setCells_same wr w.heap.size 0 E.cells HT.out.2) Tryd.underlying104 rfl size68
      refine bodyPost_ret (v := .agg E.cells.toArray) ?_ rfl ⟨by rw [HE.out], below_setCells _ (Nat.le_refl _) _ _ _ HB.out⟩
      rw [results_cell1D Tryd.results82]
      simp [Act.put, asAddr, hl]

set_option maxHeartbeats 1600000 in
set_option maxRecDepth 100000 in
theorem firstWords384 (w : World) (hT : Hid (Tables w)) :
    Calls Tryd.prog 82 #[.int .i64 384] w fun e w' => e = .returned (.agg (firstE 384).cells.toArray) ∧ Below w.heap.size w w' := by
  have HB0 : Hid (Below w.heap.size w ((w.alloc (.cells #[.int .u64 0, .int .u64 0, .int .u64 0, .int .u64 0, .int .u64 0, .int .u64 0, .int .u64 0, .int .u64 0] 104)).alloc (.cells #[.int .u64 0, .int .u64 0, .int .u64 0, .int .u64 0, .int .u64 0, .int .u64 0, .int .u64 0, .int .u64 0] 104)) ∧ ((w.alloc (.cells #[.int .u64 0, .int .u64 0, .int .u64 0, .int .u64 0, .int .u64 0, .int .u64 0, .int .u64 0, .int .u64 0] 104)).alloc (.cells #[.int .u64 0, .int .u64 0, .int .u64 0, .int .u64 0, .int .u64 0, .int .u64 0, .int .u64 0, .int .u64 0] 104)).there (w.heap.size + 1) 0 8 ∧ ((w.alloc (.cells #[.int .u64 0, .int .u64 0, .int .u64 0, .int .u64 0, .int .u64 0, .int .u64 0, .int .u64 0, .int .u64 0] 104)).alloc (.cells #[.int .u64 0, .int .u64 0, .int .u64 0, .int .u64 0, .int .u64 0, .int .u64 0, .int .u64 0, .int .u64 0] 104)).there w.heap.size 0 8) := ⟨((Below.refl _ _).alloc (Nat.le_refl _) _).alloc (by simp) _, two_there w _ _ 104 104 8 (by decide), World.there_alloc (there_new w _ 104 8 (by decide)) _⟩
  go_enter Tryd.func82, Tryd.ntmps82
  go_wp2
  go_loopw [5] (fun v wr => ∃ q : Nat, q ≤ 8 ∧ v = .int .i64 q ∧ Hid (Below w.heap.size w wr) ∧ Hid (wr.there (w.heap.size + 1) 0 8 ∧ wr.there w.heap.size 0 8) ∧ Hid (∀ j, j < q → wr.cell? ⟨w.heap.size + 1, j, none⟩ = some (.int .u64 (firstAt 384 j)))) (fun v _ => 8 - (intOf v).toNat)
  case atStart => exact ⟨0, by omega, rfl, HB0.out.1, HB0.out.2, fun j hj => by omega⟩
  case round =>
    obtain ⟨q, hq, rfl, HB, HT, HF⟩ := hrel
    clear HB0
    by_cases hlt : q < 8
    · obtain ⟨jj, hjj⟩ : ∃ jj, jj = 8 + q := ⟨_, rfl⟩
      have hTr := hT.out.below HB.out hT.out.size
      have c1 := hTr.roots (jj) (by omega)
      have hql : (q : Int) < 8 := by omega
      have hq0 : (0 : Int) ≤ (q : Int) := by omega
      have e8 : (8 : Int) + (q : Int) = (jj : Int) := by omega
      have e9 : (jj : Int) < 16 := by omega
      have HJ : Hid (jj = 8 + q) := hjj
      clear hjj
      have ff : wr.frozen? ⟨w.heap.size + 1, q, none⟩ = false := by have := (HT.out.1 q hlt).2; rw [Nat.zero_add] at this; exact this
      have fs : (wr.cell? ⟨w.heap.size + 1, q, none⟩).isSome = true := by have := (HT.out.1 q hlt).1; rw [Nat.zero_add] at this; exact this
      obtain ⟨z, hz⟩ := Option.isSome_iff_exists.1 fs
      clear fs hTr
      go_wp2
      go_roundw
      case rel =>
        have hf := fill_step (F := fun j => .int .u64 (firstAt 384 j)) HF.out HT.out.1 hlt (.int .u64 (firstAt 384 q)) rfl
        obtain rfl := HJ.out
        refine ⟨q + 1, by omega, by go_num, HB.out.setCell (by simp) _, ⟨World.there_setCells HT.out.1 _ q [_], World.there_setCells HT.out.2 _ q [_]⟩, hf.1⟩
      case measure => simp [intOf]; omega
    · obtain rfl : q = 8 := by omega
      have HR : Hid (wr.rangeAt (w.heap.size + 1) 0 (firstE 384).cells) := fun j v hv => by
        obtain ⟨hj, rfl⟩ := eightOf_at _ j v hv
        rw [Nat.zero_add]
        exact HF.out j hj
      have HY : Hid (wr.there w.heap.size 0 (firstE 384).cells.toArray.size) := HT.out.2
      have HZ : Hid ((Tryd.prog.info? 104).map (·.size) = some (firstE 384).cells.toArray.size) := size68
      obtain ⟨E, HE⟩ : ∃ E : Eight, Hid (E = firstE 384) := ⟨_, rfl⟩
      rw [← HE.out] at HR HY HZ
      clear HF
      go_wp2_with (first
        | (refine wpList_load_mid (by rfl) 104 (.tmp 3) (by rfl) (w.heap.size + 1) 0 (by rfl) E.cells _ HR.out Tryd.underlying104 rfl size68 ?_)
        | (refine wpList_store_mid (by rfl) 104 (.tmp 2) (.tmp 40) (by rfl) w.heap.size 0 E.cells.toArray (by rfl) (by rfl) HY.out HZ.out (cellsE_one E) ?_)
        | fail)
      have hl := run_loadVar_mid (P := Tryd.prog) (wr.setCells w.heap.size 0 E.cells) w.heap.size 0 104 E.cells _ (World.rangeAt_setCells_same wr w.heap.size 0 E.cells HT.out.2) Tryd.underlying104 rfl size68
      refine bodyPost_ret (v := .agg E.cells.toArray) ?_ rfl ⟨by rw [HE.out], below_setCells _ (Nat.le_refl _) _ _ _ HB.out⟩
      rw [results_cell1D Tryd.results82]
      simp [Act.put, asAddr, hl]

set_option maxHeartbeats 1600000 in
set_option maxRecDepth 100000 in
theorem firstWords512 (w : World) (hT : Hid (Tables w)) :
    Calls Tryd.prog 82 #[.int .i64 512] w fun e w' => e = .returned (.agg (firstE 512).cells.toArray) ∧ Below w.heap.size w w' := by
  have HB0 : Hid (Below w.heap.size w ((w.alloc (.cells #[.int .u64 0, .int .u64 0, .int .u64 0, .int .u64 0, .int .u64 0, .int .u64 0, .int .u64 0, .int .u64 0] 104)).alloc (.cells #[.int .u64 0, .int .u64 0, .int .u64 0, .int .u64 0, .int .u64 0, .int .u64 0, .int .u64 0, .int .u64 0] 104)) ∧ ((w.alloc (.cells #[.int .u64 0, .int .u64 0, .int .u64 0, .int .u64 0, .int .u64 0, .int .u64 0, .int .u64 0, .int .u64 0] 104)).alloc (.cells #[.int .u64 0, .int .u64 0, .int .u64 0, .int .u64 0, .int .u64 0, .int .u64 0, .int .u64 0, .int .u64 0] 104)).there (w.heap.size + 1) 0 8 ∧ ((w.alloc (.cells #[.int .u64 0, .int .u64 0, .int .u64 0, .int .u64 0, .int .u64 0, .int .u64 0, .int .u64 0, .int .u64 0] 104)).alloc (.cells #[.int .u64 0, .int .u64 0, .int .u64 0, .int .u64 0, .int .u64 0, .int .u64 0, .int .u64 0, .int .u64 0] 104)).there w.heap.size 0 8) := ⟨((Below.refl _ _).alloc (Nat.le_refl _) _).alloc (by simp) _, two_there w _ _ 104 104 8 (by decide), World.there_alloc (there_new w _ 104 8 (by decide)) _⟩
  go_enter Tryd.func82, Tryd.ntmps82
  go_wp2
  go_loopw [5] (fun v wr => ∃ q : Nat, q ≤ 8 ∧ v = .int .i64 q ∧ Hid (Below w.heap.size w wr) ∧ Hid (wr.there (w.heap.size + 1) 0 8 ∧ wr.there w.heap.size 0 8) ∧ Hid (∀ j, j < q → wr.cell? ⟨w.heap.size + 1, j, none⟩ = some (.int .u64 (firstAt 512 j)))) (fun v _ => 8 - (intOf v).toNat)
  case atStart => exact ⟨0, by omega, rfl, HB0.out.1, HB0.out.2, fun j hj => by omega⟩
  case round =>
    obtain ⟨q, hq, rfl, HB, HT, HF⟩ := hrel
    clear HB0
    by_cases hlt : q < 8
    · obtain ⟨jj, hjj⟩ : ∃ jj, jj = 8 + q := ⟨_, rfl⟩
      have hTr := hT.out.below HB.out hT.out.size
      have c1 := hTr.roots (q) (by omega)
      have hql : (q : Int) < 8 := by omega
      have hq0 : (0 : Int) ≤ (q : Int) := by omega
      skip
      have ff : wr.frozen? ⟨w.heap.size + 1, q, none⟩ = false := by have := (HT.out.1 q hlt).2; rw [Nat.zero_add] at this; exact this
      have fs : (wr.cell? ⟨w.heap.size + 1, q, none⟩).isSome = true := by have := (HT.out.1 q hlt).1; rw [Nat.zero_add] at this; exact this
      obtain ⟨z, hz⟩ := Option.isSome_iff_exists.1 fs
      clear fs hTr
      go_wp2
      go_roundw
      case rel =>
        have hf := fill_step (F := fun j => .int .u64 (firstAt 512 j)) HF.out HT.out.1 hlt (.int .u64 (firstAt 512 q)) rfl
        skip
        refine ⟨q + 1, by omega, by go_num, HB.out.setCell (by simp) _, ⟨World.there_setCells HT.out.1 _ q [_], World.there_setCells HT.out.2 _ q [_]⟩, hf.1⟩
      case measure => simp [intOf]; omega
    · obtain rfl : q = 8 := by omega
      have HR : Hid (wr.rangeAt (w.heap.size + 1) 0 (firstE 512).cells) := fun j v hv => by
        obtain ⟨hj, rfl⟩ := eightOf_at _ j v hv
        rw [Nat.zero_add]
        exact HF.out j hj
      have HY : Hid (wr.there w.heap.size 0 (firstE 512).cells.toArray.size) := HT.out.2
      have HZ : Hid ((Tryd.prog.info? 104).map (·.size) = some (firstE 512).cells.toArray.size) := size68
      obtain ⟨E, HE⟩ : ∃ E : Eight, Hid (E = firstE 512) := ⟨_, rfl⟩
      rw [← HE.out] at HR HY HZ
      clear HF
      go_wp2_with (first
        | (refine wpList_load_mid (by rfl) 104 (.tmp 3) (by rfl) (w.heap.size + 1) 0 (by rfl) E.cells _ HR.out Tryd.underlying104 rfl size68 ?_)
        | (refine wpList_store_mid (by rfl) 104 (.tmp 2) (.tmp 40) (by rfl) w.heap.size 0 E.cells.toArray (by rfl) (by rfl) HY.out HZ.out (cellsE_one E) ?_)
        | fail)
      have hl := run_loadVar_mid (P := Tryd.prog) (wr.setCells w.heap.size 0 E.cells) w.heap.size 0 104 E.cells _ (World.rangeAt_setCells_same wr w.heap.size 0 E.cells HT.out.2) Tryd.underlying104 rfl size68
      refine bodyPost_ret (v := .agg E.cells.toArray) ?_ rfl ⟨by rw [HE.out], below_setCells _ (Nat.le_refl _) _ _ _ HB.out⟩
      rw [results_cell1D Tryd.results82]
      simp [Act.put, asAddr, hl]

theorem owns_of_row {w : World} {b n B : Nat} {zs : List Int} (hz : zs.length = n) (hB : B ≤ b) (hn : n ≤ maxLen) (h : w.rowIs b 5 n (fun j => .int .u8 (zs.getD j 0))) : w.ownsRow B 5 1 (.slice (some ⟨b, 0, none⟩) n n) n (cellsU8 zs) := by
  obtain ⟨c, h1, h2, h3⟩ := h
  refine ⟨by rw [cellsU8_length]; omega, .inr ⟨b, n, c, rfl, hB, h1, Nat.le_refl _, hn, by omega, ?_⟩⟩
  rw [List.take_of_length_le (by simp; omega)]
  apply List.ext_getElem?
  intro i
  by_cases hi : i < n
  · rw [Array.getElem?_toList, h3 i hi]
    simp [cellsU8, List.getD, List.getElem?_eq_getElem (show i < zs.length by omega)]
  · rw [List.getElem?_eq_none (by simp; omega), List.getElem?_eq_none (by rw [cellsU8_length]; omega)]
theorem owns_view {w : World} {v : Value} {n B : Nat} {zs : List Int} (hz : zs.length = n) (h : w.ownsRow B 5 1 v n (cellsU8 zs)) : View w v zs := by
  subst hz
  rcases h.2 with ⟨rfl, h0⟩ | ⟨g, c, cur, rfl, _, _, h1, h2, _⟩
  · obtain rfl : zs = [] := List.length_eq_zero_iff.1 h0
    exact ⟨none, 0, rfl, by simp, by simp [maxLen], fun _ => rfl, .inl rfl⟩
  · have hc := h.cells (g := g) rfl
    refine ⟨_, c, rfl, h1, h2, (fun e => by cases e), .inr ⟨g, 0, rfl, fun i hi => ?_⟩⟩
    have := hc i (.int .u8 (zs.getD i 0)) (by simp [cellsU8, List.getElem?_eq_getElem hi, List.getD])
    rw [Addr.add_lit] at this
    exact this

set_option maxHeartbeats 1600000 in
set_option maxRecDepth 100000 in
theorem first28 (C : List Value) (zs : List Int) (w : World) (hC : Hid (C = cellsU8 zs)) (hz : Hid (zs.length = 64)) :
    Calls Tryd.prog 73 #[.agg C.toArray, .int .i64 28] w fun e w' => ∃ g, e = .returned (.slice (some ⟨g, 0, none⟩) 28 28) ∧ w'.ownsRow w.heap.size 5 1 (.slice (some ⟨g, 0, none⟩) 28 28) 28 (cellsU8 (zs.take 28)) ∧ Below w.heap.size w w' := by
  have hmk : ∀ w, (Instr.makeSlice 23 (.int .i64 28) (.int .i64 28)).run Tryd.prog w = .ok (.slice (some ⟨w.heap.size, 0, none⟩) 28 28) (w.alloc (.cells #[.int .u8 0, .int .u8 0, .int .u8 0, .int .u8 0, .int .u8 0, .int .u8 0, .int .u8 0, .int .u8 0, .int .u8 0, .int .u8 0, .int .u8 0, .int .u8 0, .int .u8 0, .int .u8 0, .int .u8 0, .int .u8 0, .int .u8 0, .int .u8 0, .int .u8 0, .int .u8 0, .int .u8 0, .int .u8 0, .int .u8 0, .int .u8 0, .int .u8 0, .int .u8 0, .int .u8 0, .int .u8 0] 5)) := fun _ => by kernel_rfl
  have hlen : (zs.take 28).length = 28 := by rw [List.length_take, hz.out]; rfl
  have hv : View ((w.alloc (.cells C.toArray 113)).alloc (.cells #[.int .u8 0, .int .u8 0, .int .u8 0, .int .u8 0, .int .u8 0, .int .u8 0, .int .u8 0, .int .u8 0, .int .u8 0, .int .u8 0, .int .u8 0, .int .u8 0, .int .u8 0, .int .u8 0, .int .u8 0, .int .u8 0, .int .u8 0, .int .u8 0, .int .u8 0, .int .u8 0, .int .u8 0, .int .u8 0, .int .u8 0, .int .u8 0, .int .u8 0, .int .u8 0, .int .u8 0, .int .u8 0] 5)) (.slice (some ⟨w.heap.size, 0, none⟩) 28 64) (zs.take 28) := by
    refine ⟨_, 64, by rw [hlen], by rw [hlen]; omega, by simp [maxLen], (fun e => by cases e), .inr ⟨w.heap.size, 0, rfl, fun i hi => ?_⟩⟩
    rw [hlen] at hi
    rw [World.cell?_alloc_past _ _ _ (by simp), World.cell?_alloc_at _ _ _ _ rfl, hC.out, Nat.zero_add]
    have h64 := hz.out
    simp [cellsU8, List.getD, List.getElem?_take, hi, List.getElem?_eq_getElem (show i < zs.length by omega)]
  have hcp := copy_eq _ (w.heap.size + 1) 0 28 28 _ 28 64 28 _ rfl hv (two_there w _ _ 113 5 28 (by decide))
  rw [List.take_take, Nat.min_self] at hcp
  have HO : Hid ((((w.alloc (.cells C.toArray 113)).alloc (.cells #[.int .u8 0, .int .u8 0, .int .u8 0, .int .u8 0, .int .u8 0, .int .u8 0, .int .u8 0, .int .u8 0, .int .u8 0, .int .u8 0, .int .u8 0, .int .u8 0, .int .u8 0, .int .u8 0, .int .u8 0, .int .u8 0, .int .u8 0, .int .u8 0, .int .u8 0, .int .u8 0, .int .u8 0, .int .u8 0, .int .u8 0, .int .u8 0, .int .u8 0, .int .u8 0, .int .u8 0, .int .u8 0] 5)).setCells (w.heap.size + 1) 0 (cellsU8 (zs.take 28))).ownsRow w.heap.size 5 1 (.slice (some ⟨w.heap.size + 1, 0, none⟩) 28 28) 28 (cellsU8 (zs.take 28))) := by
    refine owns_of_row hlen (by omega) (by simp [maxLen]) ?_
    have hr := World.rowIs_alloc (w.alloc (.cells C.toArray 113)) (List.replicate 28 (Value.int .u8 0)).toArray 5 (fun _ => .int .u8 0) (fun i hi => zero_lit 28 i hi)
    have hs : (w.alloc (.cells C.toArray 113)).heap.size = w.heap.size + 1 := by simp
    rw [hs] at hr
    refine (Go.rowIs_setCells (cellsU8 (zs.take 28)) 0 _ _ hr).congr (fun j hj => ?_)
    have hj' : j < 28 := hj
    rw [if_pos ⟨Nat.zero_le _, by rw [cellsU8_length, hlen]; omega⟩]
    have h64 := hz.out
    simp [cellsU8, List.getD, List.getElem?_take, hj', List.getElem?_eq_getElem (show j < zs.length by omega)]
  have HB : Hid (Below w.heap.size w (((w.alloc (.cells C.toArray 113)).alloc (.cells #[.int .u8 0, .int .u8 0, .int .u8 0, .int .u8 0, .int .u8 0, .int .u8 0, .int .u8 0, .int .u8 0, .int .u8 0, .int .u8 0, .int .u8 0, .int .u8 0, .int .u8 0, .int .u8 0, .int .u8 0, .int .u8 0, .int .u8 0, .int .u8 0, .int .u8 0, .int .u8 0, .int .u8 0, .int .u8 0, .int .u8 0, .int .u8 0, .int .u8 0, .int .u8 0, .int .u8 0, .int .u8 0] 5)).setCells (w.heap.size + 1) 0 (cellsU8 (zs.take 28)))) := below_setCells _ (by omega) _ _ _ (((Below.refl _ _).alloc (Nat.le_refl _) _).alloc (by simp) _)
  clear hv hlen
  go_enter Tryd.func73, Tryd.ntmps73
  go_wp2
  go_ret
  exact ⟨_, rfl, HO, HB⟩

set_option maxHeartbeats 1600000 in
set_option maxRecDepth 100000 in
theorem first32 (C : List Value) (zs : List Int) (w : World) (hC : Hid (C = cellsU8 zs)) (hz : Hid (zs.length = 64)) :
    Calls Tryd.prog 73 #[.agg C.toArray, .int .i64 32] w fun e w' => ∃ g, e = .returned (.slice (some ⟨g, 0, none⟩) 32 32) ∧ w'.ownsRow w.heap.size 5 1 (.slice (some ⟨g, 0, none⟩) 32 32) 32 (cellsU8 (zs.take 32)) ∧ Below w.heap.size w w' := by
  have hmk : ∀ w, (Instr.makeSlice 23 (.int .i64 32) (.int .i64 32)).run Tryd.prog w = .ok (.slice (some ⟨w.heap.size, 0, none⟩) 32 32) (w.alloc (.cells #[.int .u8 0, .int .u8 0, .int .u8 0, .int .u8 0, .int .u8 0, .int .u8 0, .int .u8 0, .int .u8 0, .int .u8 0, .int .u8 0, .int .u8 0, .int .u8 0, .int .u8 0, .int .u8 0, .int .u8 0, .int .u8 0, .int .u8 0, .int .u8 0, .int .u8 0, .int .u8 0, .int .u8 0, .int .u8 0, .int .u8 0, .int .u8 0, .int .u8 0, .int .u8 0, .int .u8 0, .int .u8 0, .int .u8 0, .int .u8 0, .int .u8 0, .int .u8 0] 5)) := fun _ => by kernel_rfl
  have hlen : (zs.take 32).length = 32 := by rw [List.length_take, hz.out]; rfl
  have hv : View ((w.alloc (.cells C.toArray 113)).alloc (.cells #[.int .u8 0, .int .u8 0, .int .u8 0, .int .u8 0, .int .u8 0, .int .u8 0, .int .u8 0, .int .u8 0, .int .u8 0, .int .u8 0, .int .u8 0, .int .u8 0, .int .u8 0, .int .u8 0, .int .u8 0, .int .u8 0, .int .u8 0, .int .u8 0, .int .u8 0, .int .u8 0, .int .u8 0, .int .u8 0, .int .u8 0, .int .u8 0, .int .u8 0, .int .u8 0, .int .u8 0, .int .u8 0, .int .u8 0, .int .u8 0, .int .u8 0, .int .u8 0] 5)) (.slice (some ⟨w.heap.size, 0, none⟩) 32 64) (zs.take 32) := by
    refine ⟨_, 64, by rw [hlen], by rw [hlen]; omega, by simp [maxLen], (fun e => by cases e), .inr ⟨w.heap.size, 0, rfl, fun i hi => ?_⟩⟩
    rw [hlen] at hi
    rw [World.cell?_alloc_past _ _ _ (by simp), World.cell?_alloc_at _ _ _ _ rfl, hC.out, Nat.zero_add]
    have h64 := hz.out
    simp [cellsU8, List.getD, List.getElem?_take, hi, List.getElem?_eq_getElem (show i < zs.length by omega)]
  have hcp := copy_eq _ (w.heap.size + 1) 0 32 32 _ 32 64 32 _ rfl hv (two_there w _ _ 113 5 32 (by decide))
  rw [List.take_take, Nat.min_self] at hcp
  have HO : Hid ((((w.alloc (.cells C.toArray 113)).alloc (.cells #[.int .u8 0, .int .u8 0, .int .u8 0, .int .u8 0, .int .u8 0, .int .u8 0, .int .u8 0, .int .u8 0, .int .u8 0, .int .u8 0, .int .u8 0, .int .u8 0, .int .u8 0, .int .u8 0, .int .u8 0, .int .u8 0, .int .u8 0, .int .u8 0, .int .u8 0, .int .u8 0, .int .u8 0, .int .u8 0, .int .u8 0, .int .u8 0, .int .u8 0, .int .u8 0, .int .u8 0, .int .u8 0, .int .u8 0, .int .u8 0, .int .u8 0, .int .u8 0] 5)).setCells (w.heap.size + 1) 0 (cellsU8 (zs.take 32))).ownsRow w.heap.size 5 1 (.slice (some ⟨w.heap.size + 1, 0, none⟩) 32 32) 32 (cellsU8 (zs.take 32))) := by
    refine owns_of_row hlen (by omega) (by simp [maxLen]) ?_
    have hr := World.rowIs_alloc (w.alloc (.cells C.toArray 113)) (List.replicate 32 (Value.int .u8 0)).toArray 5 (fun _ => .int .u8 0) (fun i hi => zero_lit 32 i hi)
    have hs : (w.alloc (.cells C.toArray 113)).heap.size = w.heap.size + 1 := by simp
    rw [hs] at hr
    refine (Go.rowIs_setCells (cellsU8 (zs.take 32)) 0 _ _ hr).congr (fun j hj => ?_)
    have hj' : j < 32 := hj
    rw [if_pos ⟨Nat.zero_le _, by rw [cellsU8_length, hlen]; omega⟩]
    have h64 := hz.out
    simp [cellsU8, List.getD, List.getElem?_take, hj', List.getElem?_eq_getElem (show j < zs.length by omega)]
  have HB : Hid (Below w.heap.size w (((w.alloc (.cells C.toArray 113)).alloc (.cells #[.int .u8 0, .int .u8 0, .int .u8 0, .int .u8 0, .int .u8 0, .int .u8 0, .int .u8 0, .int .u8 0, .int .u8 0, .int .u8 0, .int .u8 0, .int .u8 0, .int .u8 0, .int .u8 0, .int .u8 0, .int .u8 0, .int .u8 0, .int .u8 0, .int .u8 0, .int .u8 0, .int .u8 0, .int .u8 0, .int .u8 0, .int .u8 0, .int .u8 0, .int .u8 0, .int .u8 0, .int .u8 0, .int .u8 0, .int .u8 0, .int .u8 0, .int .u8 0] 5)).setCells (w.heap.size + 1) 0 (cellsU8 (zs.take 32)))) := below_setCells _ (by omega) _ _ _ (((Below.refl _ _).alloc (Nat.le_refl _) _).alloc (by simp) _)
  clear hv hlen
  go_enter Tryd.func73, Tryd.ntmps73
  go_wp2
  go_ret
  exact ⟨_, rfl, HO, HB⟩

set_option maxHeartbeats 1600000 in
set_option maxRecDepth 100000 in
theorem first48 (C : List Value) (zs : List Int) (w : World) (hC : Hid (C = cellsU8 zs)) (hz : Hid (zs.length = 64)) :
    Calls Tryd.prog 73 #[.agg C.toArray, .int .i64 48] w fun e w' => ∃ g, e = .returned (.slice (some ⟨g, 0, none⟩) 48 48) ∧ w'.ownsRow w.heap.size 5 1 (.slice (some ⟨g, 0, none⟩) 48 48) 48 (cellsU8 (zs.take 48)) ∧ Below w.heap.size w w' := by
  have hmk : ∀ w, (Instr.makeSlice 23 (.int .i64 48) (.int .i64 48)).run Tryd.prog w = .ok (.slice (some ⟨w.heap.size, 0, none⟩) 48 48) (w.alloc (.cells #[.int .u8 0, .int .u8 0, .int .u8 0, .int .u8 0, .int .u8 0, .int .u8 0, .int .u8 0, .int .u8 0, .int .u8 0, .int .u8 0, .int .u8 0, .int .u8 0, .int .u8 0, .int .u8 0, .int .u8 0, .int .u8 0, .int .u8 0, .int .u8 0, .int .u8 0, .int .u8 0, .int .u8 0, .int .u8 0, .int .u8 0, .int .u8 0, .int .u8 0, .int .u8 0, .int .u8 0, .int .u8 0, .int .u8 0, .int .u8 0, .int .u8 0, .int .u8 0, .int .u8 0, .int .u8 0, .int .u8 0, .int .u8 0, .int .u8 0, .int .u8 0, .int .u8 0, .int .u8 0, .int .u8 0, .int .u8 0, .int .u8 0, .int .u8 0, .int .u8 0, .int .u8 0, .int .u8 0, .int .u8 0] 5)) := fun _ => by kernel_rfl
  have hlen : (zs.take 48).length = 48 := by rw [List.length_take, hz.out]; rfl
  have hv : View ((w.alloc (.cells C.toArray 113)).alloc (.cells #[.int .u8 0, .int .u8 0, .int .u8 0, .int .u8 0, .int .u8 0, .int .u8 0, .int .u8 0, .int .u8 0, .int .u8 0, .int .u8 0, .int .u8 0, .int .u8 0, .int .u8 0, .int .u8 0, .int .u8 0, .int .u8 0, .int .u8 0, .int .u8 0, .int .u8 0, .int .u8 0, .int .u8 0, .int .u8 0, .int .u8 0, .int .u8 0, .int .u8 0, .int .u8 0, .int .u8 0, .int .u8 0, .int .u8 0, .int .u8 0, .int .u8 0, .int .u8 0, .int .u8 0, .int .u8 0, .int .u8 0, .int .u8 0, .int .u8 0, .int .u8 0, .int .u8 0, .int .u8 0, .int .u8 0, .int .u8 0, .int .u8 0, .int .u8 0, .int .u8 0, .int .u8 0, .int .u8 0, .int .u8 0] 5)) (.slice (some ⟨w.heap.size, 0, none⟩) 48 64) (zs.take 48) := by
    refine ⟨_, 64, by rw [hlen], by rw [hlen]; omega, by simp [maxLen], (fun e => by cases e), .inr ⟨w.heap.size, 0, rfl, fun i hi => ?_⟩⟩
    rw [hlen] at hi
    rw [World.cell?_alloc_past _ _ _ (by simp), World.cell?_alloc_at _ _ _ _ rfl, hC.out, Nat.zero_add]
    have h64 := hz.out
    simp [cellsU8, List.getD, List.getElem?_take, hi, List.getElem?_eq_getElem (show i < zs.length by omega)]
  have hcp := copy_eq _ (w.heap.size + 1) 0 48 48 _ 48 64 48 _ rfl hv (two_there w _ _ 113 5 48 (by decide))
  rw [List.take_take, Nat.min_self] at hcp
  have HO : Hid ((((w.alloc (.cells C.toArray 113)).alloc (.cells #[.int .u8 0, .int .u8 0, .int .u8 0, .int .u8 0, .int .u8 0, .int .u8 0, .int .u8 0, .int .u8 0, .int .u8 0, .int .u8 0, .int .u8 0, .int .u8 0, .int .u8 0, .int .u8 0, .int .u8 0, .int .u8 0, .int .u8 0, .int .u8 0, .int .u8 0, .int .u8 0, .int .u8 0, .int .u8 0, .int .u8 0, .int .u8 0, .int .u8 0, .int .u8 0, .int .u8 0, .int .u8 0, .int .u8 0, .int .u8 0, .int .u8 0, .int .u8 0, .int .u8 0, .int .u8 0, .int .u8 0, .int .u8 0, .int .u8 0, .int .u8 0, .int .u8 0, .int .u8 0, .int .u8 0, .int .u8 0, .int .u8 0, .int .u8 0, .int .u8 0, .int .u8 0, .int .u8 0, .int .u8 0] 5)).setCells (w.heap.size + 1) 0 (cellsU8 (zs.take 48))).ownsRow w.heap.size 5 1 (.slice (some ⟨w.heap.size + 1, 0, none⟩) 48 48) 48 (cellsU8 (zs.take 48))) := by
    refine owns_of_row hlen (by omega) (by simp [maxLen]) ?_
    have hr := World.rowIs_alloc (w.alloc (.cells C.toArray 113)) (List.replicate 48 (Value.int .u8 0)).toArray 5 (fun _ => .int .u8 0) (fun i hi => zero_lit 48 i hi)
    have hs : (w.alloc (.cells C.toArray 113)).heap.size = w.heap.size + 1 := by simp
    rw [hs] at hr
    refine (Go.rowIs_setCells (cellsU8 (zs.take 48)) 0 _ _ hr).congr (fun j hj => ?_)
    have hj' : j < 48 := hj
    rw [if_pos ⟨Nat.zero_le _, by rw [cellsU8_length, hlen]; omega⟩]
    have h64 := hz.out
    simp [cellsU8, List.getD, List.getElem?_take, hj', List.getElem?_eq_getElem (show j < zs.length by omega)]
  have HB : Hid (Below w.heap.size w (((w.alloc (.cells C.toArray 113)).alloc (.cells #[.int .u8 0, .int .u8 0, .int .u8 0, .int .u8 0, .int .u8 0, .int .u8 0, .int .u8 0, .int .u8 0, .int .u8 0, .int .u8 0, .int .u8 0, .int .u8 0, .int .u8 0, .int .u8 0, .int .u8 0, .int .u8 0, .int .u8 0, .int .u8 0, .int .u8 0, .int .u8 0, .int .u8 0, .int .u8 0, .int .u8 0, .int .u8 0, .int .u8 0, .int .u8 0, .int .u8 0, .int .u8 0, .int .u8 0, .int .u8 0, .int .u8 0, .int .u8 0, .int .u8 0, .int .u8 0, .int .u8 0, .int .u8 0, .int .u8 0, .int .u8 0, .int .u8 0, .int .u8 0, .int .u8 0, .int .u8 0, .int .u8 0, .int .u8 0, .int .u8 0, .int .u8 0, .int .u8 0, .int .u8 0] 5)).setCells (w.heap.size + 1) 0 (cellsU8 (zs.take 48)))) := below_setCells _ (by omega) _ _ _ (((Below.refl _ _).alloc (Nat.le_refl _) _).alloc (by simp) _)
  clear hv hlen
  go_enter Tryd.func73, Tryd.ntmps73
  go_wp2
  go_ret
  exact ⟨_, rfl, HO, HB⟩

set_option maxHeartbeats 1600000 in
set_option maxRecDepth 100000 in
theorem first64 (C : List Value) (zs : List Int) (w : World) (hC : Hid (C = cellsU8 zs)) (hz : Hid (zs.length = 64)) :
    Calls Tryd.prog 73 #[.agg C.toArray, .int .i64 64] w fun e w' => ∃ g, e = .returned (.slice (some ⟨g, 0, none⟩) 64 64) ∧ w'.ownsRow w.heap.size 5 1 (.slice (some ⟨g, 0, none⟩) 64 64) 64 (cellsU8 (zs.take 64)) ∧ Below w.heap.size w w' := by
  have hmk : ∀ w, (Instr.makeSlice 23 (.int .i64 64) (.int .i64 64)).run Tryd.prog w = .ok (.slice (some ⟨w.heap.size, 0, none⟩) 64 64) (w.alloc (.cells #[.int .u8 0, .int .u8 0, .int .u8 0, .int .u8 0, .int .u8 0, .int .u8 0, .int .u8 0, .int .u8 0, .int .u8 0, .int .u8 0, .int .u8 0, .int .u8 0, .int .u8 0, .int .u8 0, .int .u8 0, .int .u8 0, .int .u8 0, .int .u8 0, .int .u8 0, .int .u8 0, .int .u8 0, .int .u8 0, .int .u8 0, .int .u8 0, .int .u8 0, .int .u8 0, .int .u8 0, .int .u8 0, .int .u8 0, .int .u8 0, .int .u8 0, .int .u8 0, .int .u8 0, .int .u8 0, .int .u8 0, .int .u8 0, .int .u8 0, .int .u8 0, .int .u8 0, .int .u8 0, .int .u8 0, .int .u8 0, .int .u8 0, .int .u8 0, .int .u8 0, .int .u8 0, .int .u8 0, .int .u8 0, .int .u8 0, .int .u8 0, .int .u8 0, .int .u8 0, .int .u8 0, .int .u8 0, .int .u8 0, .int .u8 0, .int .u8 0, .int .u8 0, .int .u8 0, .int .u8 0, .int .u8 0, .int .u8 0, .int .u8 0, .int .u8 0] 5)) := fun _ => by kernel_rfl
  have hlen : (zs.take 64).length = 64 := by rw [List.length_take, hz.out]; rfl
  have hv : View ((w.alloc (.cells C.toArray 113)).alloc (.cells #[.int .u8 0, .int .u8 0, .int .u8 0, .int .u8 0, .int .u8 0, .int .u8 0, .int .u8 0, .int .u8 0, .int .u8 0, .int .u8 0, .int .u8 0, .int .u8 0, .int .u8 0, .int .u8 0, .int .u8 0, .int .u8 0, .int .u8 0, .int .u8 0, .int .u8 0, .int .u8 0, .int .u8 0, .int .u8 0, .int .u8 0, .int .u8 0, .int .u8 0, .int .u8 0, .int .u8 0, .int .u8 0, .int .u8 0, .int .u8 0, .int .u8 0, .int .u8 0, .int .u8 0, .int .u8 0, .int .u8 0, .int .u8 0, .int .u8 0, .int .u8 0, .int .u8 0, .int .u8 0, .int .u8 0, .int .u8 0, .int .u8 0, .int .u8 0, .int .u8 0, .int .u8 0, .int .u8 0, .int .u8 0, .int .u8 0, .int .u8 0, .int .u8 0, .int .u8 0, .int .u8 0, .int .u8 0, .int .u8 0, .int .u8 0, .int .u8 0, .int .u8 0, .int .u8 0, .int .u8 0, .int .u8 0, .int .u8 0, .int .u8 0, .int .u8 0] 5)) (.slice (some ⟨w.heap.size, 0, none⟩) 64 64) (zs.take 64) := by
    refine ⟨_, 64, by rw [hlen], by rw [hlen]; omega, by simp [maxLen], (fun e => by cases e), .inr ⟨w.heap.size, 0, rfl, fun i hi => ?_⟩⟩
    rw [hlen] at hi
    rw [World.cell?_alloc_past _ _ _ (by simp), World.cell?_alloc_at _ _ _ _ rfl, hC.out, Nat.zero_add]
    have h64 := hz.out
    simp [cellsU8, List.getD, List.getElem?_take, hi, List.getElem?_eq_getElem (show i < zs.length by omega)]
  have hcp := copy_eq _ (w.heap.size + 1) 0 64 64 _ 64 64 64 _ rfl hv (two_there w _ _ 113 5 64 (by decide))
  rw [List.take_take, Nat.min_self] at hcp
  have HO : Hid ((((w.alloc (.cells C.toArray 113)).alloc (.cells #[.int .u8 0, .int .u8 0, .int .u8 0, .int .u8 0, .int .u8 0, .int .u8 0, .int .u8 0, .int .u8 0, .int .u8 0, .int .u8 0, .int .u8 0, .int .u8 0, .int .u8 0, .int .u8 0, .int .u8 0, .int .u8 0, .int .u8 0, .int .u8 0, .int .u8 0, .int .u8 0, .int .u8 0, .int .u8 0, .int .u8 0, .int .u8 0, .int .u8 0, .int .u8 0, .int .u8 0, .int .u8 0, .int .u8 0, .int .u8 0, .int .u8 0, .int .u8 0, .int .u8 0, .int .u8 0, .int .u8 0, .int .u8 0, .int .u8 0, .int .u8 0, .int .u8 0, .int .u8 0, .int .u8 0, .int .u8 0, .int .u8 0, .int .u8 0, .int .u8 0, .int .u8 0, .int .u8 0, .int .u8 0, .int .u8 0, .int .u8 0, .int .u8 0, .int .u8 0, .int .u8 0, .int .u8 0, .int .u8 0, .int .u8 0, .int .u8 0, .int .u8 0, .int .u8 0, .int .u8 0, .int .u8 0, .int .u8 0, .int .u8 0, .int .u8 0] 5)).setCells (w.heap.size + 1) 0 (cellsU8 (zs.take 64))).ownsRow w.heap.size 5 1 (.slice (some ⟨w.heap.size + 1, 0, none⟩) 64 64) 64 (cellsU8 (zs.take 64))) := by
    refine owns_of_row hlen (by omega) (by simp [maxLen]) ?_
    have hr := World.rowIs_alloc (w.alloc (.cells C.toArray 113)) (List.replicate 64 (Value.int .u8 0)).toArray 5 (fun _ => .int .u8 0) (fun i hi => zero_lit 64 i hi)
    have hs : (w.alloc (.cells C.toArray 113)).heap.size = w.heap.size + 1 := by simp
    rw [hs] at hr
    refine (Go.rowIs_setCells (cellsU8 (zs.take 64)) 0 _ _ hr).congr (fun j hj => ?_)
    have hj' : j < 64 := hj
    rw [if_pos ⟨Nat.zero_le _, by rw [cellsU8_length, hlen]; omega⟩]
    have h64 := hz.out
    simp [cellsU8, List.getD, List.getElem?_take, hj', List.getElem?_eq_getElem (show j < zs.length by omega)]
  have HB : Hid (Below w.heap.size w (((w.alloc (.cells C.toArray 113)).alloc (.cells #[.int .u8 0, .int .u8 0, .int .u8 0, .int .u8 0, .int .u8 0, .int .u8 0, .int .u8 0, .int .u8 0, .int .u8 0, .int .u8 0, .int .u8 0, .int .u8 0, .int .u8 0, .int .u8 0, .int .u8 0, .int .u8 0, .int .u8 0, .int .u8 0, .int .u8 0, .int .u8 0, .int .u8 0, .int .u8 0, .int .u8 0, .int .u8 0, .int .u8 0, .int .u8 0, .int .u8 0, .int .u8 0, .int .u8 0, .int .u8 0, .int .u8 0, .int .u8 0, .int .u8 0, .int .u8 0, .int .u8 0, .int .u8 0, .int .u8 0, .int .u8 0, .int .u8 0, .int .u8 0, .int .u8 0, .int .u8 0, .int .u8 0, .int .u8 0, .int .u8 0, .int .u8 0, .int .u8 0, .int .u8 0, .int .u8 0, .int .u8 0, .int .u8 0, .int .u8 0, .int .u8 0, .int .u8 0, .int .u8 0, .int .u8 0, .int .u8 0, .int .u8 0, .int .u8 0, .int .u8 0, .int .u8 0, .int .u8 0, .int .u8 0, .int .u8 0] 5)).setCells (w.heap.size + 1) 0 (cellsU8 (zs.take 64)))) := below_setCells _ (by omega) _ _ _ (((Below.refl _ _).alloc (Nat.le_refl _) _).alloc (by simp) _)
  clear hv hlen
  go_enter Tryd.func73, Tryd.ntmps73
  go_wp2
  go_ret
  exact ⟨_, rfl, HO, HB⟩
end Go.Proofs.YtbpkocohddlbhaaDoor
namespace Go.Proofs.YtbpkocohddlbhaaDoor
open Go.RowKit
set_option linter.unusedVariables false
set_option linter.unusedSimpArgs false

theorem tkOf_at (h : Int) : (tkOf h)[0]? = some (.int .i64 h) ∧ (tkOf h)[1]? = some .nilFunc ∧ (∀ i, i < 128 → (tkOf h)[10 + i]? = some (.int .u8 0)) ∧ (tkOf h)[138]? = some (.int .u64 0) := by
  refine ⟨rfl, rfl, ?_, rfl⟩
  intro i hi
  have e : (tkOf h)[10 + i]? = (List.replicate 128 (Value.int .u8 0) ++ [.int .u64 0])[i]? := by
    rw [tkOf, tkCells, show 10 + i = ((8 + i) + 1) + 1 by omega, List.getElem?_cons_succ, List.getElem?_cons_succ, List.getElem?_append_right (by simp), List.map_replicate]
    rw [List.length_map, List.length_replicate, show 8 + i - 8 = i by omega]
  rw [e, List.getElem?_append_left (by rw [List.length_replicate]; exact hi), List.getElem?_replicate, if_pos hi]
/-- A taken that is put together: the digest's number, then the function, then the words. -/
theorem tk_put {W V : World} {L : Nat} (h : Int) (wd : Bool) (E : Eight) (hr : W.rangeAt L 0 (tkOf h)) (ht : W.there L 0 139) (hb : ∀ j, V.cell? ⟨L, j, none⟩ = (W.setCell ⟨L, 1, none⟩ (fnV wd)).cell? ⟨L, j, none⟩) (htV : V.there L 0 139) :
    (V.setCells L 2 E.cells).rangeAt L 0 (tkL h wd E (fun _ => 0) 0) := by
  obtain ⟨h0, h1, h2, h3, h4⟩ := tkL_at h wd E (fun _ => 0) 0
  obtain ⟨k0, k1, k3, k4⟩ := tkOf_at h
  have hout : ∀ j, (j < 2 ∨ 10 ≤ j) → (V.setCells L 2 E.cells).cell? ⟨L, j, none⟩ = V.cell? ⟨L, j, none⟩ := fun j hj => World.cell?_setCells_out L E.cells 2 V ⟨L, j, none⟩ (fun _ _ => by rcases hj with hj | hj; exact .inl hj; exact .inr hj)
  have hout1 : ∀ j, j ≠ 1 → (W.setCell ⟨L, 1, none⟩ (fnV wd)).cell? ⟨L, j, none⟩ = W.cell? ⟨L, j, none⟩ := fun j hj => World.cell?_setCells_out L [fnV wd] 1 W ⟨L, j, none⟩ (fun _ _ => by show j < 1 ∨ 1 + 1 ≤ j; omega)
  intro j v hv
  have hj : j < 139 := by
    by_cases hj : j < 139
    · exact hj
    · rw [List.getElem?_eq_none (by rw [tkL_length]; omega)] at hv; cases hv
  rw [Nat.zero_add]
  by_cases j0 : j = 0
  · subst j0; rw [h0] at hv; cases hv; rw [hout 0 (by omega), hb, hout1 0 (by omega)]; exact hr 0 _ k0
  by_cases j1 : j = 1
  · subst j1; rw [h1] at hv; cases hv; rw [hout 1 (by omega), hb]; exact World.cell?_setCell_same' _ _ _ (ht 1 (by omega)).1
  by_cases j2 : j < 10
  · obtain ⟨i, rfl⟩ : ∃ i, j = 2 + i := ⟨j - 2, by omega⟩
    rw [h2 i (by omega)] at hv
    exact World.rangeAt_setCells_same V L 2 E.cells (fun j hj => by have := htV (2 + j) (by have : E.cells.length = 8 := rfl; omega); rw [Nat.zero_add] at this; exact this) i v hv
  by_cases j3 : j < 138
  · obtain ⟨i, rfl⟩ : ∃ i, j = 10 + i := ⟨j - 10, by omega⟩
    rw [h3 i (by omega)] at hv
    cases hv
    rw [hout _ (by omega), hb, hout1 _ (by omega)]
    have := hr (10 + i) _ (k3 i (by omega))
    rw [Nat.zero_add] at this
    exact this
  · obtain rfl : j = 138 := by omega
    rw [h4] at hv; cases hv; rw [hout _ (by omega), hb, hout1 _ (by omega)]; exact hr 138 _ k4

set_option maxHeartbeats 600000 in
set_option maxRecDepth 100000 in
theorem begin_good64 (h : Int) (w : World) (hblk : blockOf h = 64) (hfw : Hid (∀ v, Tables v → Calls Tryd.prog 82 #[.int .i64 h] v fun e w' => e = .returned (.agg (firstE h).cells.toArray) ∧ Below v.heap.size v w')) (hT : Hid (Tables w)) :
    Calls Tryd.prog 70 #[.int .i64 h] w fun e w' => e = .returned (.tuple #[.agg (tkL h false (firstE h) (fun _ => 0) 0).toArray, .int .i64 0]) ∧ Below w.heap.size w w' := by
  have e71 := cells71 h
  have hz : Tryd.zeroCells107.size = 139 := by rw [cells71z]; exact size71z
  have ht : ((w.alloc (.cells Tryd.zeroCells107 107)).alloc (.cells Tryd.zeroCells107 107)).there (w.heap.size + 1) 0 139 := by
    simpa using there_new (w.alloc (.cells Tryd.zeroCells107 107)) Tryd.zeroCells107 107 139 (by rw [hz]; exact Nat.le_refl _)
  have HT : Hid (((w.alloc (.cells Tryd.zeroCells107 107)).alloc (.cells Tryd.zeroCells107 107)).there (w.heap.size + 1) 0 139) := ht
  clear hz ht
  go_enter Tryd.func70, Tryd.ntmps70
  go_wp2_with (first
    | (refine wpList_store_mid (by rfl) 107 (.tmp 4) (.tmp 6) (by rfl) (w.heap.size + 1) 0 (tkOf h).toArray (by rfl) (by rfl) (by rw [size71a]; exact HT.out) (by rw [size71a]; exact size71) (tkOf_one h) ?_)
    | fail)
  refine (block_any h _).mono ?_
  rintro e w1 ⟨rfl, rfl⟩
  rw [hblk]
  have hb2 : Below w.heap.size w (((w.alloc (.cells Tryd.zeroCells107 107)).alloc (.cells Tryd.zeroCells107 107)).setCells (w.heap.size + 1) 0 (tkOf h)) :=
    below_setCells _ (by omega) _ _ _ (((Below.refl _ _).alloc (Nat.le_refl _) _).alloc (by simp) _)
  have ht2 : (((w.alloc (.cells Tryd.zeroCells107 107)).alloc (.cells Tryd.zeroCells107 107)).setCells (w.heap.size + 1) 0 (tkOf h)).there w.heap.size 0 139 :=
    World.there_setCells (World.there_alloc (there_new w Tryd.zeroCells107 107 139 (by rw [cells71z, size71z]; exact Nat.le_refl _)) _) _ _ _
  have ht3 : (((w.alloc (.cells Tryd.zeroCells107 107)).alloc (.cells Tryd.zeroCells107 107)).setCells (w.heap.size + 1) 0 (tkOf h)).there (w.heap.size + 1) 0 139 := World.there_setCells HT.out _ _ _
  have hr2 : (((w.alloc (.cells Tryd.zeroCells107 107)).alloc (.cells Tryd.zeroCells107 107)).setCells (w.heap.size + 1) 0 (tkOf h)).rangeAt (w.heap.size + 1) 0 (tkOf h) := World.rangeAt_setCells_same _ _ _ _ (by rw [tkOf_length]; exact HT.out)
  have hs2 : (((w.alloc (.cells Tryd.zeroCells107 107)).alloc (.cells Tryd.zeroCells107 107)).setCells (w.heap.size + 1) 0 (tkOf h)).heap.size = w.heap.size + 2 := by rw [size_setCells]; simp
  generalize (((w.alloc (.cells Tryd.zeroCells107 107)).alloc (.cells Tryd.zeroCells107 107)).setCells (w.heap.size + 1) 0 (tkOf h)) = W2 at hb2 ht2 ht3 hr2 hs2 ⊢
  have HB2 : Hid (Below w.heap.size w W2 ∧ W2.there w.heap.size 0 139 ∧ W2.there (w.heap.size + 1) 0 139 ∧ W2.rangeAt (w.heap.size + 1) 0 (tkOf h) ∧ W2.heap.size = w.heap.size + 2) := ⟨hb2, ht2, ht3, hr2, hs2⟩
  have c1 : W2.cell? ⟨w.heap.size + 1, 1, none⟩ = some .nilFunc := hr2 1 _ rfl
  have f1 : W2.frozen? ⟨w.heap.size + 1, 1, none⟩ = false := (ht3 1 (by omega)).2
  clear hb2 ht2 ht3 hr2 hs2 HT e71
  go_wp2_with (first
    | (go_at_call 82; refine (hfw.out _ ?_).mono ?_)
    | fail)
  · exact ((hT.out.below HB2.out.1 hT.out.size).kept fun k hk => World.heap_setCells_other W2 (w.heap.size + 1) 1 [_] (by have := hT.out.size; have := HB2.out.2.2.2.2; omega) (by have := hT.out.size; omega))
  rintro e5 w5 ⟨rfl, hb5⟩
  obtain ⟨E, HE⟩ : ∃ E : Eight, Hid (E = firstE h) := ⟨_, rfl⟩
  rw [← HE.out]
  have hsz : (W2.setCell ⟨w.heap.size + 1, 1, none⟩ (fnV false)).heap.size = w.heap.size + 2 := (size_setCells (w.heap.size + 1) [fnV false] 1 W2).trans HB2.out.2.2.2.2
  have hst := fun (b o n : Nat) (ht : W2.there b o n) => World.there_setCells ht (w.heap.size + 1) 1 [fnV false]
  have hb5' : Below (w.heap.size + 2) (W2.setCell ⟨w.heap.size + 1, 1, none⟩ (fnV false)) w5 := by rw [← hsz]; exact hb5
  have hth : ∀ b n, b < w.heap.size + 2 → W2.there b 0 n → w5.there b 0 n := fun b n hb ht j hj => by
    rw [hb5'.cell (p := ⟨b, 0 + j, none⟩) hb, hb5'.frozen (p := ⟨b, 0 + j, none⟩) hb]
    exact hst b 0 n ht j hj
  have HB5 : Hid (Below w.heap.size w w5 ∧ w5.there w.heap.size 0 139 ∧ w5.there (w.heap.size + 1) 0 139) := ⟨(HB2.out.1.setCell (p := ⟨w.heap.size + 1, 1, none⟩) (by simp) _).trans (hb5'.mono (by omega)), hth _ _ (by omega) HB2.out.2.1, hth _ _ (by omega) HB2.out.2.2.1⟩
  have hr5 := tk_put h false E HB2.out.2.2.2.1 HB2.out.2.2.1 (fun j => hb5'.cell (p := ⟨w.heap.size + 1, j, none⟩) (by simp)) HB5.out.2.2
  have HR5 : Hid ((w5.setCells (w.heap.size + 1) 2 E.cells).rangeAt (w.heap.size + 1) 0 (tkL h false E (fun _ => 0) 0)) := hr5
  have HX : Hid (w5.there (w.heap.size + 1) 2 E.cells.toArray.size) := fun j hj => by
    have := HB5.out.2.2 (2 + j) (by have : E.cells.toArray.size = 8 := rfl; omega)
    rw [Nat.zero_add] at this
    exact this
  have HZ : Hid ((Tryd.prog.info? 104).map (·.size) = some E.cells.toArray.size) := size68
  clear hr5 hth hb5' hst hsz hb5 HB2 c1 f1
  go_upto_region 9 with (first
    | (refine wpList_store_mid (by rfl) 104 (.tmp 18) (.tmp 17) (by rfl) (w.heap.size + 1) 2 E.cells.toArray (by rfl) (by rfl) HX.out HZ.out (cellsE_one E) ?_)
    | fail)
  have HB6 : Hid (Below w.heap.size w (w5.setCells (w.heap.size + 1) 2 E.cells) ∧ (w5.setCells (w.heap.size + 1) 2 E.cells).there w.heap.size 0 139) := ⟨below_setCells _ (by omega) _ _ _ HB5.out.1, World.there_setCells HB5.out.2.1 _ _ _⟩
  generalize w5.setCells (w.heap.size + 1) 2 E.cells = w6 at HR5 HB6 ⊢
  obtain ⟨T, HTT⟩ : ∃ T : List Value, Hid (T = tkL h false E (fun _ => 0) 0) := ⟨_, rfl⟩
  rw [← HTT.out] at HR5
  have HLA : Hid (T.toArray.size = 139) := by show _ = _; rw [HTT.out]; exact tkArr_size _ _ _ _ _
  have HL : Hid (T.length = 139) := by rw [HTT.out]; exact tkL_length _ _ _ _ _
  have HY : Hid (w6.there w.heap.size 0 T.toArray.size) := by rw [HLA.out]; exact HB6.out.2
  have HZ6 : Hid ((Tryd.prog.info? 107).map (·.size) = some T.toArray.size) := by rw [HLA.out]; exact size71
  have HO : Hid (T.toArray.all (·.oneCell') = true) := by rw [HTT.out]; exact tkL_one _ _ _ _ _
  clear HB5
  go_wp2_with (first
    | (refine wpList_load_mid (by rfl) 107 (.tmp 4) (by rfl) (w.heap.size + 1) 0 (by rfl) T _ HR5.out Tryd.underlying107 rfl (by rw [HL.out]; exact size71) ?_)
    | (refine wpList_store_mid (by rfl) 107 (.tmp 2) (.tmp 19) (by rfl) w.heap.size 0 T.toArray (by rfl) (by rfl) HY.out HZ6.out HO.out ?_)
    | fail)
  have hl := run_loadVar_mid (P := Tryd.prog) (w6.setCells w.heap.size 0 T) w.heap.size 0 107 T _ (World.rangeAt_setCells_same w6 w.heap.size 0 T (by rw [HL.out]; exact HB6.out.2)) Tryd.underlying107 rfl (by rw [HL.out]; exact size71)
  refine bodyPost_ret (v := .tuple #[.agg T.toArray, .int .i64 0]) ?_ rfl ⟨by rw [HTT.out, HE.out], below_setCells _ (Nat.le_refl _) _ _ _ HB6.out.1⟩
  rw [results_cell_tmp Tryd.results70]
  simp [asAddr, hl]

set_option maxHeartbeats 600000 in
set_option maxRecDepth 100000 in
theorem begin_good128 (h : Int) (w : World) (hblk : blockOf h = 128) (hfw : Hid (∀ v, Tables v → Calls Tryd.prog 82 #[.int .i64 h] v fun e w' => e = .returned (.agg (firstE h).cells.toArray) ∧ Below v.heap.size v w')) (hT : Hid (Tables w)) :
    Calls Tryd.prog 70 #[.int .i64 h] w fun e w' => e = .returned (.tuple #[.agg (tkL h true (firstE h) (fun _ => 0) 0).toArray, .int .i64 0]) ∧ Below w.heap.size w w' := by
  have e71 := cells71 h
  have hz : Tryd.zeroCells107.size = 139 := by rw [cells71z]; exact size71z
  have ht : ((w.alloc (.cells Tryd.zeroCells107 107)).alloc (.cells Tryd.zeroCells107 107)).there (w.heap.size + 1) 0 139 := by
    simpa using there_new (w.alloc (.cells Tryd.zeroCells107 107)) Tryd.zeroCells107 107 139 (by rw [hz]; exact Nat.le_refl _)
  have HT : Hid (((w.alloc (.cells Tryd.zeroCells107 107)).alloc (.cells Tryd.zeroCells107 107)).there (w.heap.size + 1) 0 139) := ht
  clear hz ht
  go_enter Tryd.func70, Tryd.ntmps70
  go_wp2_with (first
    | (refine wpList_store_mid (by rfl) 107 (.tmp 4) (.tmp 6) (by rfl) (w.heap.size + 1) 0 (tkOf h).toArray (by rfl) (by rfl) (by rw [size71a]; exact HT.out) (by rw [size71a]; exact size71) (tkOf_one h) ?_)
    | fail)
  refine (block_any h _).mono ?_
  rintro e w1 ⟨rfl, rfl⟩
  rw [hblk]
  have hb2 : Below w.heap.size w (((w.alloc (.cells Tryd.zeroCells107 107)).alloc (.cells Tryd.zeroCells107 107)).setCells (w.heap.size + 1) 0 (tkOf h)) :=
    below_setCells _ (by omega) _ _ _ (((Below.refl _ _).alloc (Nat.le_refl _) _).alloc (by simp) _)
  have ht2 : (((w.alloc (.cells Tryd.zeroCells107 107)).alloc (.cells Tryd.zeroCells107 107)).setCells (w.heap.size + 1) 0 (tkOf h)).there w.heap.size 0 139 :=
    World.there_setCells (World.there_alloc (there_new w Tryd.zeroCells107 107 139 (by rw [cells71z, size71z]; exact Nat.le_refl _)) _) _ _ _
  have ht3 : (((w.alloc (.cells Tryd.zeroCells107 107)).alloc (.cells Tryd.zeroCells107 107)).setCells (w.heap.size + 1) 0 (tkOf h)).there (w.heap.size + 1) 0 139 := World.there_setCells HT.out _ _ _
  have hr2 : (((w.alloc (.cells Tryd.zeroCells107 107)).alloc (.cells Tryd.zeroCells107 107)).setCells (w.heap.size + 1) 0 (tkOf h)).rangeAt (w.heap.size + 1) 0 (tkOf h) := World.rangeAt_setCells_same _ _ _ _ (by rw [tkOf_length]; exact HT.out)
  have hs2 : (((w.alloc (.cells Tryd.zeroCells107 107)).alloc (.cells Tryd.zeroCells107 107)).setCells (w.heap.size + 1) 0 (tkOf h)).heap.size = w.heap.size + 2 := by rw [size_setCells]; simp
  generalize (((w.alloc (.cells Tryd.zeroCells107 107)).alloc (.cells Tryd.zeroCells107 107)).setCells (w.heap.size + 1) 0 (tkOf h)) = W2 at hb2 ht2 ht3 hr2 hs2 ⊢
  have HB2 : Hid (Below w.heap.size w W2 ∧ W2.there w.heap.size 0 139 ∧ W2.there (w.heap.size + 1) 0 139 ∧ W2.rangeAt (w.heap.size + 1) 0 (tkOf h) ∧ W2.heap.size = w.heap.size + 2) := ⟨hb2, ht2, ht3, hr2, hs2⟩
  have c1 : W2.cell? ⟨w.heap.size + 1, 1, none⟩ = some .nilFunc := hr2 1 _ rfl
  have f1 : W2.frozen? ⟨w.heap.size + 1, 1, none⟩ = false := (ht3 1 (by omega)).2
  clear hb2 ht2 ht3 hr2 hs2 HT e71
  go_wp2_with (first
    | (go_at_call 82; refine (hfw.out _ ?_).mono ?_)
    | fail)
  · exact ((hT.out.below HB2.out.1 hT.out.size).kept fun k hk => World.heap_setCells_other W2 (w.heap.size + 1) 1 [_] (by have := hT.out.size; have := HB2.out.2.2.2.2; omega) (by have := hT.out.size; omega))
  rintro e5 w5 ⟨rfl, hb5⟩
  obtain ⟨E, HE⟩ : ∃ E : Eight, Hid (E = firstE h) := ⟨_, rfl⟩
  rw [← HE.out]
  have hsz : (W2.setCell ⟨w.heap.size + 1, 1, none⟩ (fnV true)).heap.size = w.heap.size + 2 := (size_setCells (w.heap.size + 1) [fnV true] 1 W2).trans HB2.out.2.2.2.2
  have hst := fun (b o n : Nat) (ht : W2.there b o n) => World.there_setCells ht (w.heap.size + 1) 1 [fnV true]
  have hb5' : Below (w.heap.size + 2) (W2.setCell ⟨w.heap.size + 1, 1, none⟩ (fnV true)) w5 := by rw [← hsz]; exact hb5
  have hth : ∀ b n, b < w.heap.size + 2 → W2.there b 0 n → w5.there b 0 n := fun b n hb ht j hj => by
    rw [hb5'.cell (p := ⟨b, 0 + j, none⟩) hb, hb5'.frozen (p := ⟨b, 0 + j, none⟩) hb]
    exact hst b 0 n ht j hj
  have HB5 : Hid (Below w.heap.size w w5 ∧ w5.there w.heap.size 0 139 ∧ w5.there (w.heap.size + 1) 0 139) := ⟨(HB2.out.1.setCell (p := ⟨w.heap.size + 1, 1, none⟩) (by simp) _).trans (hb5'.mono (by omega)), hth _ _ (by omega) HB2.out.2.1, hth _ _ (by omega) HB2.out.2.2.1⟩
  have hr5 := tk_put h true E HB2.out.2.2.2.1 HB2.out.2.2.1 (fun j => hb5'.cell (p := ⟨w.heap.size + 1, j, none⟩) (by simp)) HB5.out.2.2
  have HR5 : Hid ((w5.setCells (w.heap.size + 1) 2 E.cells).rangeAt (w.heap.size + 1) 0 (tkL h true E (fun _ => 0) 0)) := hr5
  have HX : Hid (w5.there (w.heap.size + 1) 2 E.cells.toArray.size) := fun j hj => by
    have := HB5.out.2.2 (2 + j) (by have : E.cells.toArray.size = 8 := rfl; omega)
    rw [Nat.zero_add] at this
    exact this
  have HZ : Hid ((Tryd.prog.info? 104).map (·.size) = some E.cells.toArray.size) := size68
  clear hr5 hth hb5' hst hsz hb5 HB2 c1 f1
  go_upto_region 9 with (first
    | (refine wpList_store_mid (by rfl) 104 (.tmp 18) (.tmp 17) (by rfl) (w.heap.size + 1) 2 E.cells.toArray (by rfl) (by rfl) HX.out HZ.out (cellsE_one E) ?_)
    | fail)
  have HB6 : Hid (Below w.heap.size w (w5.setCells (w.heap.size + 1) 2 E.cells) ∧ (w5.setCells (w.heap.size + 1) 2 E.cells).there w.heap.size 0 139) := ⟨below_setCells _ (by omega) _ _ _ HB5.out.1, World.there_setCells HB5.out.2.1 _ _ _⟩
  generalize w5.setCells (w.heap.size + 1) 2 E.cells = w6 at HR5 HB6 ⊢
  obtain ⟨T, HTT⟩ : ∃ T : List Value, Hid (T = tkL h true E (fun _ => 0) 0) := ⟨_, rfl⟩
  rw [← HTT.out] at HR5
  have HLA : Hid (T.toArray.size = 139) := by show _ = _; rw [HTT.out]; exact tkArr_size _ _ _ _ _
  have HL : Hid (T.length = 139) := by rw [HTT.out]; exact tkL_length _ _ _ _ _
  have HY : Hid (w6.there w.heap.size 0 T.toArray.size) := by rw [HLA.out]; exact HB6.out.2
  have HZ6 : Hid ((Tryd.prog.info? 107).map (·.size) = some T.toArray.size) := by rw [HLA.out]; exact size71
  have HO : Hid (T.toArray.all (·.oneCell') = true) := by rw [HTT.out]; exact tkL_one _ _ _ _ _
  clear HB5
  go_wp2_with (first
    | (refine wpList_load_mid (by rfl) 107 (.tmp 4) (by rfl) (w.heap.size + 1) 0 (by rfl) T _ HR5.out Tryd.underlying107 rfl (by rw [HL.out]; exact size71) ?_)
    | (refine wpList_store_mid (by rfl) 107 (.tmp 2) (.tmp 19) (by rfl) w.heap.size 0 T.toArray (by rfl) (by rfl) HY.out HZ6.out HO.out ?_)
    | fail)
  have hl := run_loadVar_mid (P := Tryd.prog) (w6.setCells w.heap.size 0 T) w.heap.size 0 107 T _ (World.rangeAt_setCells_same w6 w.heap.size 0 T (by rw [HL.out]; exact HB6.out.2)) Tryd.underlying107 rfl (by rw [HL.out]; exact size71)
  refine bodyPost_ret (v := .tuple #[.agg T.toArray, .int .i64 0]) ?_ rfl ⟨by rw [HTT.out, HE.out], below_setCells _ (Nat.le_refl _) _ _ _ HB6.out.1⟩
  rw [results_cell_tmp Tryd.results70]
  simp [asAddr, hl]
end Go.Proofs.YtbpkocohddlbhaaDoor
