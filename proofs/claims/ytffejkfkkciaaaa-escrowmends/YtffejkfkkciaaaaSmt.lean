import Derived.Test.YtffejkfkkciaaaaSlv
import Derived.Test.YtffejkfkkciaaaaEcl
import Derived.Test.YtffejkfkkciaaaaRdd
namespace Go.Proofs.Ytffejkfkkciaaaa
open Go.RowKit
set_option linter.unusedVariables false
set_option linter.unusedSimpArgs false
/-- A row of a matrix where it lies. -/
def rowV (n : Nat) (gs cs : Nat → Nat) (i : Nat) : Value := .slice (some ⟨gs i, 0, none⟩) (n + 1) (cs i)
structure MatI (B B1 G R n : Nat) (A : Nat → Nat → F) (gs cs : Nat → Nat) (u : World) : Prop where
  top : ∃ sp, Bx u G 25 ((List.range R).map (rowV n gs cs) ++ sp)
  row : ∀ i, i < R → Rx u (gs i) (rowL A n i)
  inj : ∀ i j, i < R → j < R → gs i = gs j → i = j
  lo : ∀ i, i < R → B ≤ gs i ∧ gs i < B1
  glo : B ≤ G ∧ G < B1
  cap : ∀ i, i < R → n + 1 ≤ cs i
variable {B B1 G R n : Nat} {A : Nat → Nat → F} {gs cs : Nat → Nat} {u v : World}
theorem MatI.ptr (h : MatI B B1 G R n A gs cs u) (i : Nat) (hi : i < R) : u.cell? ⟨G, i, none⟩ = some (.slice (some ⟨gs i, 0, none⟩) (n + 1) (cs i)) := by
  obtain ⟨sp, hs⟩ := h.top
  refine hs.cell i _ ?_
  rw [List.getElem?_append_left (by simpa using hi), List.getElem?_map, List.getElem?_range hi]
  rfl
theorem MatI.cell (h : MatI B B1 G R n A gs cs u) (i k : Nat) (hi : i < R) (hk : k ≤ n) : u.cell? ⟨gs i, k, none⟩ = some (.int .u8 ((A i k).1 : Nat)) := by
  have q := (h.row i hi).cell k (by rw [rowL_len]; omega)
  rw [rowL_at _ _ _ _ hk] at q
  exact q
theorem MatI.fr (h : MatI B B1 G R n A gs cs u) (i k : Nat) (hi : i < R) : u.frozen? ⟨gs i, k, none⟩ = false := (h.row i hi).frozen k
theorem MatI.frG (h : MatI B B1 G R n A gs cs u) (i : Nat) : u.frozen? ⟨G, i, none⟩ = false := h.top.choose_spec.frozen i
theorem MatI.ne (h : MatI B B1 G R n A gs cs u) (i : Nat) (hi : i < R) : gs i ≠ G := fun e => by
  obtain ⟨sp, hs⟩ := h.top
  obtain ⟨sp2, hr⟩ := h.row i hi
  rw [e] at hr
  have q := hs.symm.trans hr
  simp at q
theorem MatI.congr {A' : Nat → Nat → F} (h : MatI B B1 G R n A gs cs u) (e : ∀ i k, i < R → k ≤ n → A i k = A' i k) : MatI B B1 G R n A' gs cs u :=
  ⟨h.top, fun i hi => by rw [← rowL_congr A A' n i (fun k hk => e i k hi hk)]; exact h.row i hi, h.inj, h.lo, h.glo, h.cap⟩
theorem MatI.store (h : MatI B B1 G R n A gs cs u) (i k : Nat) (hi : i < R) (hk : k ≤ n) (a : F) : MatI B B1 G R n (rowU A i (fun k' => if k' = k then a else A i k')) gs cs (u.setCell ⟨gs i, k, none⟩ (.int .u8 (a.1 : Nat))) := by
  have hg := set_gb u (gs i) k (.int .u8 (a.1 : Nat))
  obtain ⟨sp, hs⟩ := h.top
  refine ⟨⟨sp, hs.keep (hg.block G hs.lt (fun e => h.ne i hi (by injection e with e; exact e.symm)))⟩, fun j hj => ?_, h.inj, h.lo, h.glo, h.cap⟩
  by_cases e : j = i
  · subst e
    have q := (h.row j hj).set k (by rw [rowL_len]; omega) a
    rw [rowL_set A n j k a hk] at q
    exact q
  · rw [show rowL (rowU A i (fun k' => if k' = k then a else A i k')) n j = rowL A n j from rowL_congr _ _ n j fun q _ => rowU_ne _ _ _ _ _ e]
    exact (h.row j hj).keep (hg.block _ (h.row j hj).lt (fun q => e (h.inj j i hj hi (by injection q with q))))
theorem MatI.far (h : MatI B B1 G R n A gs cs u) (hv : Below B1 u v) : MatI B B1 G R n A gs cs v := by
  obtain ⟨sp, hs⟩ := h.top
  exact ⟨⟨sp, hs.keep (hv.block G h.glo.2)⟩, fun i hi => (h.row i hi).keep (hv.block _ (h.lo i hi).2), h.inj, h.lo, h.glo, h.cap⟩
theorem MatI.drew (h : MatI B B1 G R n A gs cs u) : MatI B B1 G R n A gs cs u.drew := h.far (Below.refl _ _).drew
def swN (c a i : Nat) : Nat := if i = c then a else if i = a then c else i
theorem swN_lt {c a i R : Nat} (hc : c < R) (ha : a < R) (hi : i < R) : swN c a i < R := by unfold swN; split <;> (try split) <;> omega
theorem swN_inj {c a i j : Nat} (h : swN c a i = swN c a j) : i = j := by
  unfold swN at h
  split at h <;> split at h <;> (try split at h) <;> (try split at h) <;> omega
theorem MatI.swap (h : MatI B B1 G R n A gs cs u) (c a : Nat) (hc : c < R) (ha : a < R) : MatI B B1 G R n (swapR A c a) (fun i => gs (swN c a i)) (fun i => cs (swN c a i)) ((u.setCell ⟨G, c, none⟩ (.slice (some ⟨gs a, 0, none⟩) (n + 1) (cs a))).setCell ⟨G, a, none⟩ (.slice (some ⟨gs c, 0, none⟩) (n + 1) (cs c))) := by
  obtain ⟨sp, hs⟩ := h.top
  have hg1 := set_gb u G c (.slice (some ⟨gs a, 0, none⟩) (n + 1) (cs a))
  have hg2 := set_gb (u.setCell ⟨G, c, none⟩ (.slice (some ⟨gs a, 0, none⟩) (n + 1) (cs a))) G a (.slice (some ⟨gs c, 0, none⟩) (n + 1) (cs c))
  refine ⟨⟨sp, ?_⟩, fun i hi => ?_, fun i j hi hj e => swN_inj (h.inj _ _ (swN_lt hc ha hi) (swN_lt hc ha hj) e), fun i hi => h.lo _ (swN_lt hc ha hi), h.glo, fun i hi => h.cap _ (swN_lt hc ha hi)⟩
  · have q := (hs.set c (.slice (some ⟨gs a, 0, none⟩) (n + 1) (cs a))).set a (.slice (some ⟨gs c, 0, none⟩) (n + 1) (cs c))
    rw [List.set_append_left _ _ (by simpa using hc), List.set_append_left _ _ (by simpa using ha)] at q
    have e : (((List.range R).map (rowV n gs cs)).set c (.slice (some ⟨gs a, 0, none⟩) (n + 1) (cs a))).set a (.slice (some ⟨gs c, 0, none⟩) (n + 1) (cs c)) = (List.range R).map (rowV n (fun i => gs (swN c a i)) (fun i => cs (swN c a i))) := by
      apply List.ext_getElem?
      intro j
      by_cases hj : j < R
      · rw [List.getElem?_map, List.getElem?_range hj]
        by_cases e2 : a = j
        · subst e2
          rw [List.getElem?_set_self (by simpa using hj)]
          show _ = some (rowV n _ _ a)
          unfold rowV swN
          by_cases e3 : a = c
          · simp [e3]
          · simp [e3]
        · rw [List.getElem?_set_ne e2]
          by_cases e3 : c = j
          · subst e3
            rw [List.getElem?_set_self (by simpa using hj)]
            show _ = some (rowV n _ _ c)
            unfold rowV swN
            simp
          · rw [List.getElem?_set_ne e3, List.getElem?_map, List.getElem?_range hj]
            show some (rowV n gs cs j) = some (rowV n _ _ j)
            unfold rowV swN
            simp [Ne.symm e2, Ne.symm e3]
      · rw [List.getElem?_eq_none (by simp; omega), List.getElem?_eq_none (by simp; omega)]
    rw [e] at q
    exact q
  · have hr := h.row (swN c a i) (swN_lt hc ha hi)
    have hne := h.ne (swN c a i) (swN_lt hc ha hi)
    have e : rowL (swapR A c a) n i = rowL A n (swN c a i) := rfl
    rw [e]
    have hr1 := hr.keep (hg1.block _ hr.lt (fun q => hne (by injection q with q)))
    exact hr1.keep (hg2.block _ hr1.lt (fun q => hne (by injection q with q)))
/-- The matrix that comes in. -/
def InM (u : World) (G O R n : Nat) (A : Nat → Nat → F) : Prop := ∀ i, i < R → ∃ b o c, u.cell? ⟨G, O + i, none⟩ = some (.slice (some ⟨b, o, none⟩) (n + 1) c) ∧ n + 1 ≤ c ∧ Rw u b o (rowL A n i)
theorem InM.below {O : Nat} (h : InM u G O R n A) (hv : Below u.heap.size u v) : InM v G O R n A := fun i hi => by
  obtain ⟨b, o, c, h1, h2, h3⟩ := h i hi
  exact ⟨b, o, c, (hv.cell (World.block_lt_of_cell? _ _ h1)).trans h1, h2, h3.below hv⟩
/-- Rows that are copied already. -/
structure GlI (M n k : Nat) (A : Nat → Nat → F) (gs cs : Nat → Nat) (rv : Value) (u : World) : Prop where
  own : u.ownsRow M 25 1 rv k ((List.range k).map (rowV n gs cs))
  row : ∀ i, i < k → Rx u (gs i) (rowL A n i) ∧ n + 1 ≤ cs i ∧ M ≤ gs i
  inj : ∀ i j, i < k → j < k → gs i = gs j → i = j
theorem Rx.type_ne {b : Nat} {l : List F} {cu : Array Value} {fr : Nat × Nat} (h : Rx u b l) : u.heap[b]? ≠ some (.cells cu 25 fr) := fun e => by
  obtain ⟨sp, hs⟩ := h
  have q := hs.symm.trans e
  simp at q
theorem GlI.below {M k : Nat} {rv : Value} (h : GlI M n k A gs cs rv u) (hv : Below u.heap.size u v) : GlI M n k A gs cs rv v :=
  ⟨own_below h.own hv, fun i hi => ⟨(h.row i hi).1.below hv, (h.row i hi).2⟩, h.inj⟩
/-- One more. -/
theorem GlI.more {M k g c : Nat} {rv rv2 : Value} {w1 w2 : World} (h : GlI M n k A gs cs rv u) (hb : Below u.heap.size u w1) (hr : Rx w1 g (rowL A n k)) (hc : n + 1 ≤ c) (hg : u.heap.size ≤ g) (hM : M ≤ u.heap.size)
    (hown : w2.ownsRow M 25 1 rv2 (k + 1) ((List.range k).map (rowV n gs cs) ++ [.slice (some ⟨g, 0, none⟩) (n + 1) c])) (hgr : w1.grownBy w2 rv.ownBlock) :
    GlI M n (k + 1) A (fun i => if i = k then g else gs i) (fun i => if i = k then c else cs i) rv2 w2 := by
  have h1 := h.below hb
  have keep : ∀ b l, Rx w1 b l → Rx w2 b l := fun b l hx => by
    refine hx.keep (hgr.block b hx.lt fun e => ?_)
    rcases h1.own.2 with ⟨q, _⟩ | ⟨g', cap, cur, q, _, q3, _⟩
    · rw [q] at e; cases e
    · rw [q] at e
      injection e with e
      subst e
      exact hx.type_ne q3
  have e : (List.range (k + 1)).map (rowV n (fun i => if i = k then g else gs i) (fun i => if i = k then c else cs i)) = (List.range k).map (rowV n gs cs) ++ [.slice (some ⟨g, 0, none⟩) (n + 1) c] := by
    rw [List.range_succ, List.map_append]
    congr 1
    · apply List.map_congr_left
      intro i hi
      have := List.mem_range.1 hi
      unfold rowV
      simp only []
      rw [if_neg (by omega), if_neg (by omega)]
    · show [rowV n _ _ k] = _
      unfold rowV
      simp only [if_true]
  refine ⟨by rw [e]; exact hown, fun i hi => ?_, fun i j hi hj q => ?_⟩
  · by_cases e2 : i = k
    · subst e2
      rw [if_pos rfl, if_pos rfl]
      exact ⟨keep _ _ hr, hc, by omega⟩
    · rw [if_neg e2, if_neg e2]
      have := h1.row i (by omega)
      exact ⟨keep _ _ this.1, this.2⟩
  · by_cases e2 : i = k
    · by_cases e3 : j = k
      · omega
      · rw [if_pos e2, if_neg e3] at q
        have := (h.row j (by omega)).1.lt
        omega
    · by_cases e3 : j = k
      · rw [if_neg e2, if_pos e3] at q
        have := (h.row i (by omega)).1.lt
        omega
      · rw [if_neg e2, if_neg e3] at q
        exact h.inj i j (by omega) (by omega) q
theorem GlI.mat {M : Nat} {rv : Value} (h : GlI M n R A gs cs rv u) (hR : 1 ≤ R) : ∃ G cap, rv = .slice (some ⟨G, 0, none⟩) R cap ∧ Hid (R ≤ cap ∧ MatI M u.heap.size G R n A gs cs u) := by
  rcases h.own.2 with ⟨_, q⟩ | ⟨g, cap, cur, q, hB, hh, h3, h4, h5, h6⟩
  · omega
  · refine ⟨g, cap, q, h3, ⟨cur.toList.drop R, ?_⟩, fun i hi => (h.row i hi).1, h.inj, fun i hi => ⟨(h.row i hi).2.2, (h.row i hi).1.lt⟩, ⟨hB, (Array.getElem?_eq_some_iff.1 hh).1⟩, fun i hi => (h.row i hi).2.1⟩
    unfold Bx
    rw [hh, ← h6, Nat.mul_one, List.take_append_drop]
theorem Try.info25q : (Try.prog.info? 25).map (fun i => (i.zero, i.size, i.bytes)) = some (some (.slice none 0 0), 1, 24) := by kernel_rfl
theorem Try.und70 : Try.prog.underlying 70 = some (.slice 25) := by kernel_rfl
set_option maxHeartbeats 800000 in
theorem over_ok (b : F) (hb : b ≠ 0) (w : World) : Calls Try.prog 49 #[.int .u8 1, .int .u8 (b.1 : Nat)] w fun e w' => e = .returned (.int .u8 ((invF b).1 : Nat)) ∧ w' = w := by
  obtain ⟨r, HR⟩ : ∃ r, Hid (invF b = r) := ⟨_, rfl⟩
  have HRM : Hid (fm r b = 1 ∧ ∀ v : F, fm v b = 1 → v = r) := by
    have e : fm b r = 1 := by rw [← HR.out]; exact invF_mul b hb
    exact ⟨by rw [fm_comm]; exact e, fun v hv => by rw [fm_comm] at hv; exact inv_only hv e⟩
  have H21 : Hid (∀ (x y : F) u, Calls Try.prog 21 #[.int .u8 (x.1 : Nat), .int .u8 (y.1 : Nat)] u fun e w' => e = .returned (.int .u8 ((fm x y).1 : Nat)) ∧ w' = u) := fun x y u => rtimesF x y u
  rw [HR.out]
  clear hb
  go_enter Try.func49, Try.ntmps49
  go_wp2
  go_loopw [5] (fun vi wr => ∃ i : Nat, i ≤ r.1 ∧ vi = .int .i64 (i : Nat) ∧ Hid (wr = w)) (fun vi _ => 256 - (intOf vi).toNat)
  case atStart => exact ⟨0, by omega, rfl, rfl⟩
  case round =>
    obtain ⟨i, hi, rfl, HI⟩ := hrel
    obtain rfl := HI.out.symm
    have hr256 := r.2
    have g1 : (i : Int) < 256 := by omega
    obtain ⟨z, hz⟩ : ∃ z : F, z.1 = i := ⟨⟨i, by omega⟩, rfl⟩
    subst hz
    have hu : IntKind.u8.wrap ((z.1 : Nat) : Int) = ((z.1 : Nat) : Int) := wraps_u8 _ (by omega) (by have := z.2; omega)
    have wn : IntKind.i64.wrap (((z.1 : Nat) : Int) + 1) = ((z.1 + 1 : Nat) : Int) := by rw [IntKind.wrap_i64]; omega
    have HH : Hid (z.1 ≤ r.1 ∧ r.1 < 256) := ⟨hi, hr256⟩
    obtain ⟨t, HT⟩ : ∃ t, Hid (fm z b = t) := ⟨_, rfl⟩
    clear hi hr256
    by_cases e : t = 1
    · have HZ : Hid (z = r) := HRM.out.2 z (by rw [HT.out]; exact e)
      have e1 : ((((t.1 : Nat) : Int)) == 1) = true := by rw [e]; rfl
      clear e
      go_wp2_with (go_at_call 21; refine (H21.out z b _).mono ?_; rintro e1 w1 ⟨rfl, hw⟩; obtain rfl := hw.symm; clear hw; rw [HT.out])
      go_ret
      exact ⟨by rw [← HZ.out]; rfl, rfl⟩
    · have HZ : Hid (z.1 + 1 ≤ r.1) := by
        show z.1 + 1 ≤ r.1
        have : z.1 ≠ r.1 := fun q => e (by rw [← HT.out, Fin.ext q]; exact HRM.out.1)
        have := HH.out
        omega
      have e1 : ((((t.1 : Nat) : Int)) == 1) = false := by
        rw [beq_eq_false_iff_ne]
        exact fun q => e (Fin.ext (by show t.1 = 1; omega))
      clear e
      go_wp2_with (go_at_call 21; refine (H21.out z b _).mono ?_; rintro e1 w1 ⟨rfl, hw⟩; obtain rfl := hw.symm; clear hw; rw [HT.out])
      have e0 := HZ.out
      have e2 := HH.out
      refine ⟨⟨z.1 + 1, e0, by first | rfl | (simp; done), by trivial⟩, ?_⟩
      simp [intOf]
      omega
end Go.Proofs.Ytffejkfkkciaaaa
