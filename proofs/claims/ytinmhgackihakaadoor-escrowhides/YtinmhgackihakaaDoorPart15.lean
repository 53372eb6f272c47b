import Derived.Test.YtinmhgackihakaaDoorPart13
import Derived.Deep.AppendLies
import Derived.Test.YtinmhgackihakaaDoorPart14
import Derived.Test.YtinmhgackihakaaDoorPart11
import Derived.Deep.Cut
import Derived.Deep.CutBlock
import Derived.BigQuiet
import Derived.Test.YtinmhgackihakaaDoorRows
import Derived.Test.YtinmhgackihakaaDoorPart05
import Derived.ProofKit
import Derived.OpenShut
import Derived.ShutString
import Derived.ChangeOld
import Derived.Below
import Derived.SizedLaws
import Derived.Lib.LaidTab
import Derived.Deep.DeepHandedRow
namespace Go.Proofs.YtinmhgackihakaaDoor
open Go.RowKit
set_option linter.unusedVariables false
set_option linter.unusedSimpArgs false
set_option maxRecDepth 100000
theorem Tryd.infoT23 : (Tryd.prog.info? 23).map (fun i => (i.zero, i.size, i.bytes)) = some (some (.slice none 0 0), 1, 24) := by kernel_rfl
theorem Tryd.underlying39' : Tryd.prog.underlying 39 = some (.slice 23) := by kernel_rfl
/-- append of one element onto a row of one's own. -/
theorem wpList_lies {P : Program} {ops : Array Oper} {rest : List Oper} {o : Oper} {a : Act} {Q : Exit → Act → World → Prop} {w : World} (hgd : o.guard = none) (s x : Operand) (t : TypeId)
    (ho : o.op = .call { callee := .builtin .append, args := #[s, x], argTypes := #[t, t] }) (B : Nat) (e : TypeId) (i : TypeInfo) (z : Value) (bytes : Nat) (ht : P.underlying t = some (.slice e)) (hi : P.info? e = some i) (hz : i.zero = some z) (hsize : i.size = 1) (hby : i.bytes = bytes) (hzs : z.cells.size = 1)
    (v : Value) (n : Nat) (xs : List Value) (hs : a.eval s = v) (hown : w.ownsRow B e 1 v n xs) (b : Nat) (u1 : Value) (hx : a.eval x = .slice (some ⟨b, 0, none⟩) 1 1) (hc : w.cell? ⟨b, 0, none⟩ = some u1) (h1 : u1.oneCell' = true) (hn : n + 1 ≤ 1000) (hb : bytes ≤ 64) (hB : B ≤ w.heap.size)
    (h : ∀ g cap w', w'.ownsRow B e 1 (.slice (some ⟨g, 0, none⟩) (n + 1) cap) (n + 1) (xs ++ [u1]) → w.grownBy w' v.ownBlock → (v.ownBlock = some g ∨ g = w.heap.size) → wpList P ops Q rest (a.put o.dst (.slice (some ⟨g, 0, none⟩) (n + 1) cap)) w') : wpList P ops Q (o :: rest) a w :=
  wpList_plain hgd fun _ hK => by
    obtain ⟨g, cap, w', he, q2, q3, q4, q5⟩ := run_append_lies (P := P) w t o.type B e i z 1 bytes ht hi hz hsize hby hzs (by decide) v n xs hown ⟨b, 0, none⟩ 1 1 [u1] rfl (fun j u hu => by
      cases j with
      | zero =>
        injection hu with hu
        rw [← hu]
        exact hc
      | succ j => cases hu) (by intro u hu; simp at hu; rw [hu]; exact h1) (by decide) (by unfold maxLen; omega) (by
        have : (n + 1) * bytes ≤ 1000 * 64 := Nat.mul_le_mul hn hb
        omega) hB _ rfl
    unfold Oper.wp execOp
    simp only [ho, resolve, invoke, builtin, Sem.run_bind, Sem.run_pure, Result.andThen_ok, List.map_toArray, List.map_cons, List.map_nil, hs, hx, he]
    exact hK _ _ (h g cap w' q2 q3 q4)
/-- The known numbers and the rows that were read: two rows of one's own. -/
structure Hs (w : World) (B n gK cK : Nat) (a : List F) (vr : Value) (m : Nat) (Ls : Nat → List F) : Prop where
  kn : w.ownsRow B 5 1 (.slice (some ⟨gK, 0, none⟩) a.length cK) a.length (fc a)
  rw : ∃ cells, w.ownsRow B 23 1 vr m cells ∧ ∀ q, q < m → ∃ g c, cells[q]? = some (.slice (some ⟨g, 5, none⟩) n c) ∧ n ≤ c ∧ Rx w g (Ls q) ∧ g ≠ gK
  sz : B ≤ w.heap.size
theorem Hs.klt {w : World} {B n gK cK m : Nat} {a : List F} {vr : Value} {Ls : Nat → List F} (h : Hs w B n gK cK a vr m Ls) : B ≤ gK ∧ gK < w.heap.size := h.kn.lt gK rfl
theorem own_type {w : World} {B t : Nat} {v : Value} {n g : Nat} {cs : List Value} (h : w.ownsRow B t 1 v n cs) (hv : v.ownBlock = some g) : ∃ cur, w.heap[g]? = some (.cells cur t (0, 0)) := by
  rcases h.2 with ⟨e, _⟩ | ⟨g', cap, cur, e, _, hh, _⟩
  · rw [e] at hv; cases hv
  · rw [e] at hv
    injection hv with hv
    exact ⟨cur, by rw [← hv]; exact hh⟩
theorem own_apart {w : World} {B1 B2 t1 t2 : Nat} {v1 v2 : Value} {n1 n2 : Nat} {c1 c2 : List Value} (h1 : w.ownsRow B1 t1 1 v1 n1 c1) (h2 : w.ownsRow B2 t2 1 v2 n2 c2) (ht : t1 ≠ t2) : v1.ownBlock = none ∨ v1.ownBlock ≠ v2.ownBlock := by
  cases hv : v1.ownBlock with
  | none => exact .inl rfl
  | some g =>
    right
    intro e
    obtain ⟨x1, y1⟩ := own_type h1 hv
    obtain ⟨x2, y2⟩ := own_type h2 e.symm
    rw [y1] at y2
    injection y2 with y2
    injection y2 with _ y2 _
    exact ht y2
theorem rx_apart23 {w : World} {B g n : Nat} {v : Value} {cs : List Value} {l : List F} (h : w.ownsRow B 23 1 v n cs) (hx : Rx w g l) : some g ≠ v.ownBlock := fun e => by
  obtain ⟨x2, y2⟩ := own_type h e.symm
  obtain ⟨sp, hs⟩ := hx
  unfold Bx at hs
  rw [y2] at hs
  injection hs with hs
  injection hs with _ hs _
  cases hs
theorem Hs.below {w u : World} {B n gK cK m : Nat} {a : List F} {vr : Value} {Ls : Nat → List F} (h : Hs w B n gK cK a vr m Ls) (hb : Below w.heap.size w u) : Hs u B n gK cK a vr m Ls := by
  obtain ⟨cells, h1, h2⟩ := h.rw
  have hg : w.grownBy u none := ⟨hb.os, hb.tape, hb.output, hb.size, fun k hk _ => hb.block k hk⟩
  refine ⟨h.kn.kept hg (.inr (fun e => by cases e)), ⟨cells, h1.kept hg (by cases hv : vr.ownBlock <;> simp), fun q hq => ?_⟩, Nat.le_trans h.sz hb.size⟩
  obtain ⟨g, c, q1, q2, q3, q4⟩ := h2 q hq
  exact ⟨g, c, q1, q2, q3.below hb, q4⟩
theorem Hs.app1 {w u : World} {B n gK cK m g' c' : Nat} {a : List F} {vr : Value} {Ls : Nat → List F} (h : Hs w B n gK cK a vr m Ls) (x : F) (hown : u.ownsRow B 5 1 (.slice (some ⟨g', 0, none⟩) (a.length + 1) c') (a.length + 1) (fc a ++ [.int .u8 (x.1 : Nat)])) (hg : w.grownBy u (some gK)) (hgb : some gK = some g' ∨ g' = w.heap.size) : Hs u B n g' c' (a ++ [x]) vr m Ls := by
  obtain ⟨cells, h1, h2⟩ := h.rw
  refine ⟨?_, ⟨cells, h1.kept hg ?_, fun q hq => ?_⟩, Nat.le_trans h.sz hg.size⟩
  · rw [List.length_append, fc_appD]
    exact hown
  · exact own_apart h1 h.kn (by decide)
  · obtain ⟨g, c, q1, q2, q3, q4⟩ := h2 q hq
    refine ⟨g, c, q1, q2, q3.keep (hg.block g q3.lt (fun e => q4 (by injection e))), ?_⟩
    rcases hgb with e | e
    · injection e with e
      omega
    · have := q3.lt
      omega
theorem Hs.app2 {w u : World} {B n gK cK m g c : Nat} {a : List F} {vr v' : Value} {Ls : Nat → List F} {cells : List Value} (h : Hs w B n gK cK a vr m Ls) (h1 : w.ownsRow B 23 1 vr m cells) (h2 : ∀ q, q < m → ∃ g c, cells[q]? = some (.slice (some ⟨g, 5, none⟩) n c) ∧ n ≤ c ∧ Rx w g (Ls q) ∧ g ≠ gK) (hx : Rx w g (Ls m)) (hgk : g ≠ gK) (hc : n ≤ c) (hown : u.ownsRow B 23 1 v' (m + 1) (cells ++ [.slice (some ⟨g, 5, none⟩) n c])) (hg : w.grownBy u vr.ownBlock) : Hs u B n gK cK a v' (m + 1) Ls := by
  have hl : cells.length = m := by have := h1.1; omega
  refine ⟨h.kn.kept hg (by rcases own_apart h.kn h1 (by decide) with e | e; exact .inl e; exact .inr e), ⟨_, hown, fun q hq => ?_⟩, Nat.le_trans h.sz hg.size⟩
  by_cases e : q = m
  · subst e
    exact ⟨g, c, by rw [← hl]; simp, hc, hx.keep (hg.block g hx.lt (rx_apart23 h1 hx)), hgk⟩
  · obtain ⟨g2, c2, q1, q2, q3, q4⟩ := h2 q (by omega)
    exact ⟨g2, c2, by rw [List.getElem?_append_left (by omega)]; exact q1, q2, q3.keep (hg.block g2 q3.lt (rx_apart23 h1 q3)), q4⟩
theorem Hs.vf {w : World} {B n gK cK m : Nat} {a : List F} {vr : Value} {Ls : Nat → List F} (h : Hs w B n gK cK a vr m Ls) : Vf w (.slice (some ⟨gK, 0, none⟩) a.length cK) a := own_zi h.kn rfl
theorem Hs.kcell {w : World} {B n gK cK m : Nat} {a : List F} {vr : Value} {Ls : Nat → List F} (h : Hs w B n gK cK a vr m Ls) (i : Nat) (hi : i < a.length) : w.cell? ⟨gK, i, none⟩ = some (.int .u8 ((a.getD i 0).1 : Nat)) := by
  have z := h.kn.cells (g := gK) rfl i _ (fc_at a i hi)
  rw [Addr.add_lit, Nat.zero_add] at z
  exact z
end Go.Proofs.YtinmhgackihakaaDoor
namespace Go.Proofs.YtinmhgackihakaaDoor
open Go.RowKit
set_option linter.unusedVariables false
set_option linter.unusedSimpArgs false
set_option maxRecDepth 100000
theorem own_more {w : World} {B i : Nat} {v : Value} {TT : Nat → ByteArray} {t : ByteArray} (h : w.ownsRow B 9 1 v (i + 1) (tcs TT i ++ [.string t])) (e : TT i = t) : w.ownsRow B 9 1 v (i + 1) (tcs TT (i + 1)) := by rw [tcs_succ, e]; exact h
/-- Deal of a secret that may be shared, with as many random bytes as it takes. -/
theorem deal_use (sn N W : Nat) (hsn : sn < 65536) (S2 R : List F) (T : Nat → ByteArray) (g c : Nat) (v : Value) (u : World) (hS : 1 ≤ S2.length ∧ S2.length ≤ 64) (hN : 1 ≤ N ∧ N ≤ 16 ∧ N ≤ W ∧ W ≤ 255) (hR : (R.length : Int) = rnd (N : Nat) (S2.length : Nat)) (hT : dealT sn S2 R N = T) (hTb : Tables u) (hc : S2.length ≤ c ∧ c ≤ maxLen) (hx : Rx u g S2) (hv : Vf u v R) :
    Calls Tryd.prog 9 #[.int .u16 (sn : Nat), .slice (some ⟨g, 0, none⟩) S2.length c, .int .i64 (N : Nat), .int .i64 (W : Nat), v] u fun e w' => Hid (∃ tg, e = .returned (.tuple #[.slice (some ⟨tg, 0, none⟩) W W, .int .i64 0]) ∧ u.heap.size ≤ tg ∧ Bx w' tg 9 (tcs T W) ∧ Below u.heap.size u w') := by
  have hvs : Vf u (.slice (some ⟨g, 0, none⟩) S2.length c) S2 := vf_mk rfl hc.1 hc.2 (fun e => by cases e) (.inr ⟨_, _, rfl, hx.rw⟩)
  have z := deal_any sn hsn (N : Nat) (W : Nat) _ v S2 R u hTb hvs hv
  have hm : mayN S2.length (N : Nat) (W : Nat) = 0 := by
    unfold mayN
    rw [if_pos (by omega), if_pos (by omega)]
  have hE : dealE S2.length (N : Nat) (W : Nat) R.length = 0 := by
    unfold dealE
    rw [if_neg (by rw [hm]; simp), if_neg (by rw [hR]; simp)]
  have hC : dealC S2.length (N : Nat) (W : Nat) R.length = W := by
    unfold dealC
    rw [if_pos hE]
    rfl
  rw [hE, hC, show ((N : Nat) : Int).toNat = N from rfl, hT] at z
  refine z.mono ?_
  rintro e w' ⟨v', rfl, h1, h2⟩
  rcases h1 with ⟨h0, _⟩ | ⟨tg, rfl, h3, h4⟩
  · exact absurd h0 (by omega)
  · exact ⟨tg, rfl, h3, h4, h2⟩
theorem rnd5_len (Rd : List F) (nd s : Int) : ((rnd5 false Rd nd s).length : Int) = rnd nd s := by
  unfold rnd5
  rw [if_neg (by decide), rndL_len]
  obtain ⟨z, hz, _⟩ := rnd_few nd s
  rw [hz]
  simp
/-- Join of shares of one sharing, as many as are needed. -/
theorem join_use (z : Shg) (T : Nat → ByteArray) (f : Nat → Nat) (n jg jo jc : Nat) (w : World) (hz : z.ok) (hT : ∀ i, i < 255 → MGood (T i) (z.at' (fN (i + 1))) 0) (hf : ∀ i, i < n → f i < 255) (hn : n ≤ 100000) (hc : ∀ k, k < n → w.cell? ⟨jg, jo + k, none⟩ = some (.string (T (f k)))) (hTb : Tables w) (hon : z.bn.1 ≤ onN (fun i => gR (T (f i))) n) :
    Calls Tryd.prog 13 #[.slice (some ⟨jg, jo, none⟩) n jc] w fun e w' => Hid (∃ b, e = .returned (.tuple #[.slice (some ⟨b, 0, none⟩) z.l.length z.l.length, .int .i64 0]) ∧ w.heap.size ≤ b ∧ Bx w' b 5 (fc z.l) ∧ Below w.heap.size w w') := by
  refine (Join_ok (some ⟨jg, jo, none⟩) n jc (fun k => T (f k)) w hn (show ∀ k, k < n → _ from fun k hk => ⟨jg, jo, rfl, hc k hk⟩) hTb).mono fun e w' hh => ?_
  obtain ⟨b, h1, h2, h3, h4⟩ := (lns_of hz hT n f hf).join hon hh
  exact ⟨b, h1, h2, h3, h4⟩
end Go.Proofs.YtinmhgackihakaaDoor
namespace Go.Proofs.YtinmhgackihakaaDoor
open Go.RowKit
set_option linter.unusedVariables false
set_option linter.unusedSimpArgs false
set_option maxRecDepth 100000
theorem u64_natH (n : Nat) (h : n < 9223372036854775807) : IntKind.u64.wrap ((n : Nat) : Int) = (n : Nat) := by simp [IntKind.wrap, IntKind.bits, IntKind.signed]; omega
theorem atI_tmod (x : Int) (K : Nat) (h : 0 < K) : (IntKind.u64.wrap x).tmod (K : Nat) = ((IntKind.u64.wrap x % K).toNat : Nat) := by
  have h0 := u64_wrap x
  rw [Int.tmod_eq_emod_of_nonneg h0]
  have := Int.emod_nonneg (IntKind.u64.wrap x) (show (K : Int) ≠ 0 by omega)
  omega
theorem ddF_congr (x y x' y' : Nat → F) : ∀ k a, (∀ i, i ≤ a + k → x i = x' i ∧ y i = y' i) → ddF x y k a = ddF x' y' k a
  | 0, a, h => (h a (Nat.le_refl _)).2
  | k + 1, a, h => by
    show fm (fa (ddF x y k (a + 1)) (ddF x y k a)) (invF (fa (x (a + k + 1)) (x a))) = fm (fa (ddF x' y' k (a + 1)) (ddF x' y' k a)) (invF (fa (x' (a + k + 1)) (x' a)))
    rw [ddF_congr x y x' y' k (a + 1) fun i hi => h i (by omega), ddF_congr x y x' y' k a fun i hi => h i (by omega), (h (a + k + 1) (by omega)).1, (h a (by omega)).1]
theorem hoL_congr (x d x' d' : Nat → F) (n : Nat) (h : ∀ i, i < n → x i = x' i ∧ d i = d' i) : ∀ t, t ≤ n → hoL x d n t = hoL x' d' n t
  | 0, _ => rfl
  | t + 1, ht => by
    show nxL (hoL x d n t) (x (n - (t + 1))) (d (n - (t + 1))) = nxL (hoL x' d' n t) (x' (n - (t + 1))) (d' (n - (t + 1)))
    rw [hoL_congr x d x' d' n h t (by omega), (h (n - (t + 1)) (by omega)).1, (h (n - (t + 1)) (by omega)).2]
theorem newt_congr (x y x' y' : Nat → F) (n : Nat) (h : ∀ i, i < n → x i = x' i ∧ y i = y' i) : newtL x y n = newtL x' y' n :=
  hoL_congr _ _ _ _ n (fun i hi => ⟨(h i hi).1, ddF_congr x y x' y' i 0 fun j hj => h j (by omega)⟩) n (Nat.le_refl _)
theorem genL_succ (n : Nat) (f : Nat → F) : genL (n + 1) f = genL n f ++ [f n] := by simp [genL, List.range_succ]
/-- The random bytes that are filled in so far. -/
def rnI (HP : Nat → List F) (n i m : Nat) : F := if m % n < i then (HP (m % n)).getD (m / n + 1) 0 else 0
def rnJ (HP : Nat → List F) (n i t m : Nat) : F := if m % n < i ∨ (m % n = i ∧ m / n + 1 < t) then (HP (m % n)).getD (m / n + 1) 0 else 0
theorem rnJ_start (HP : Nat → List F) (n i Z : Nat) : genL Z (rnJ HP n i 1) = genL Z (rnI HP n i) := genL_congr _ _ _ fun m _ => by
  unfold rnJ rnI
  by_cases h : m % n < i
  · rw [if_pos (.inl h), if_pos h]
  · rw [if_neg (fun e => e.elim h (fun e => Nat.not_lt_zero _ (Nat.lt_of_succ_lt_succ e.2))), if_neg h]
theorem rnJ_end (HP : Nat → List F) (n i N : Nat) (hn : 0 < n) : genL ((N - 1) * n) (rnJ HP n i N) = genL ((N - 1) * n) (rnI HP n (i + 1)) := genL_congr _ _ _ fun m hm => by
  have hd : m / n < N - 1 := (Nat.div_lt_iff_lt_mul hn).2 hm
  unfold rnJ rnI
  generalize m % n = r
  revert hd
  generalize m / n = q
  intro hd
  by_cases h : r < i + 1
  · rw [if_pos h, if_pos (by omega)]
  · rw [if_neg h, if_neg (by omega)]
theorem rnJ_step (HP : Nat → List F) (n i t Z u : Nat) (hi : i < n) (ht : u + 1 = t) (hp : u * n + i < Z) : (genL Z (rnJ HP n i t)).set (u * n + i) ((HP i).getD t 0) = genL Z (rnJ HP n i (t + 1)) := genL_set _ _ _ _ hp _ fun m hm => by
  unfold rnJ
  by_cases e : m = u * n + i
  · obtain ⟨h1, h2⟩ := mod_col u n i hi
    subst e
    rw [if_pos rfl, h1, h2, if_pos (by omega), ht]
  · rw [if_neg e]
    have hne : ¬ (m % n = i ∧ m / n = u) := fun ⟨h1, h2⟩ => by
      have z := Nat.div_add_mod m n
      rw [h1, h2, Nat.mul_comm] at z
      exact e z.symm
    by_cases h : m % n < i ∨ (m % n = i ∧ m / n + 1 < t)
    · rw [if_pos h, if_pos (by omega)]
    · rw [if_neg h, if_neg (by omega)]
theorem rnI_end (z : Shg) (row : List F) (a K N n : Nat) (hn : 0 < n) : genL ((N - 1) * n) (rnI (hpL z row a K N) n n) = hdR z row a K N n := genL_congr _ _ _ fun m hm => by
  unfold rnI
  rw [if_pos (Nat.mod_lt _ hn)]
theorem rnI_zero (HP : Nat → List F) (n Z : Nat) : genL Z (rnI HP n 0) = List.replicate Z 0 := by
  refine (genL_eq (by simp) fun i hi => ?_).symm
  unfold rnI
  rw [if_neg (by omega), List.getD_eq_getElem?_getD, List.getElem?_replicate, if_pos hi]
  rfl
set_option maxHeartbeats 6400000 in
/-- The law Hides. -/
theorem hides_ok (sn : Nat) (hsn : Hid (sn < 65536)) (nd ct : Int) (own : Bool) (sv : Value) (ra : Option Addr) (rl rc : Nat) (S Rd : List F) (ov : Value) (OL : List F) (fr : Int) (w : World) (hT : Hid (Tables w)) (h : Hid (Vf w sv S)) (hr : Hid (Vf w (.slice ra rl rc) Rd)) (hone : Hid (sv.oneCell' = true)) (hov : Hid (Vf w ov OL)) :
    Calls Tryd.prog 4 #[.agg #[.int .u16 (sn : Nat), sv, .int .i64 nd, .int .i64 ct, .bool own, .slice ra rl rc], ov, .int .i64 fr] w fun e w' => e = .returned (.bool true) ∧ Below w.heap.size w w' := by
  obtain ⟨M, HMM⟩ : ∃ M, Hid (w.heap.size = M) := ⟨_, rfl⟩
  obtain ⟨D1, HD1⟩ : ∃ z : List Value, Hid ([.int .u16 (sn : Nat), sv, .int .i64 nd, .int .i64 ct, .bool own, .slice ra rl rc] = z) := ⟨_, rfl⟩
  have hi1 : (Tryd.prog.info? 25).map (·.size) = some D1.length := by rw [← HD1.out]; kernel_rfl
  have HTB : Hid (∀ u, Below M w u → Tables u) := fun u hu => hT.out.below hu (by rw [← HMM.out]; exact hT.out.size)
  have HRV : Hid (∀ u, Below M w u → Vf u (.slice ra rl rc) Rd) := fun u hu => hr.out.below (by rw [HMM.out]; exact hu)
  obtain ⟨S2, HS2⟩ : ∃ z : List F, Hid (sec5 S = z) := ⟨_, rfl⟩
  have HSL : Hid (1 ≤ S2.length ∧ S2.length ≤ 64) := by rw [← HS2.out]; exact sec5_len S
  obtain ⟨N, HN⟩ : ∃ z, Hid (nd5 nd = z) := ⟨_, rfl⟩
  obtain ⟨K, HK⟩ : ∃ z, Hid (ct5 nd ct = z) := ⟨_, rfl⟩
  have HNK : Hid (1 ≤ N ∧ N ≤ 16 ∧ N ≤ K ∧ K ≤ 24) := by rw [← HN.out, ← HK.out]; exact ⟨(nd5_le nd).1, (nd5_le nd).2, (ct5_le nd ct).1, (ct5_le nd ct).2⟩
  obtain ⟨R, HRR⟩ : ∃ z : List F, Hid (rnd5 false Rd (N : Nat) (S2.length : Nat) = z) := ⟨_, rfl⟩
  obtain ⟨T, HTT⟩ : ∃ z, Hid (dealT sn S2 R N = z) := ⟨_, rfl⟩
  have HTG : Hid (∀ i, i < 255 → MGood (T i) ((shD sn S2 R N).at' (fN (i + 1))) 0) := by rw [← HTT.out]; exact deal_good_at sn S2 R N HSL.out.1 HSL.out.2 HNK.out.1 HNK.out.2.1
  have HZO : Hid ((shD sn S2 R N).ok) := shD_ok sn S2 R N HSL.out.1 HSL.out.2 HNK.out.1 HNK.out.2.1
  have HZN : Hid ((shD sn S2 R N).bn.1 = N) := fN_val _ (by have := HNK.out; omega)
  have H9 : Hid (∀ u, Below M w u → Calls Tryd.prog 7 #[] u fun e w' => Hid (e = .returned (.bool true) ∧ Below u.heap.size u w')) := fun u hu => live_ok u (HTB.out u hu)
  have H11 : Hid (∀ x u, Calls Tryd.prog 10 #[.int .i64 x] u fun e w' => e = .returned (.int .i64 x) ∧ w' = u) := fun x u => numE_ok x u
  obtain ⟨s, HSS⟩ : ∃ q, Hid (S2.length = q) := ⟨_, rfl⟩
  have HS1 : Hid (1 ≤ s ∧ s ≤ 64) := by rw [← HSS.out]; exact HSL.out
  obtain ⟨oa, oc, rfl, ho1, ho2, ho3, ho4⟩ := hov.out.parts
  obtain ⟨ol, HOL⟩ : ∃ q, Hid (OL.length = q) := ⟨_, rfl⟩
  have HOC : Hid (∀ i, i < ol → ∃ b off, oa = some ⟨b, off, none⟩ ∧ ∀ u, Below M w u → u.cell? ⟨b, off + i, none⟩ = some (.int .u8 ((OL.getD i 0).1 : Nat))) := fun i hi => by
    rcases ho4 with h4 | ⟨b, off, e, h5⟩
    · rw [h4] at HOL; have := HOL.out; simp at this; omega
    · refine ⟨b, off, e, fun u hu => ?_⟩
      have z := h5 i (by rw [HOL.out]; exact hi)
      exact (hu.cell (by rw [← HMM.out]; exact World.block_lt_of_cell? _ _ z)).trans z
  rw [HOL.out]
  clear ho1 ho2 ho3 ho4 hov
  obtain ⟨w1, hw1⟩ : ∃ u, u = w.alloc (.cells #[.int .u16 (sn : Nat), sv, .int .i64 nd, .int .i64 ct, .bool own, .slice ra rl rc] 25) := ⟨_, rfl⟩
  have H1 : Hid (Bx w1 M 25 D1 ∧ Below M w w1 ∧ M ≤ w1.heap.size) := by
    rw [← HD1.out, ← HMM.out, hw1]
    exact ⟨Bx.new w 25 _, (Below.refl _ _).alloc (Nat.le_refl _) _, by simp⟩
  have H8 : Hid (Calls Tryd.prog 5 #[.agg D1.toArray] w1 fun e w' => Hid (∃ g c tg, e = .returned (.tuple #[.agg #[.int .u16 (sn : Nat), .slice (some ⟨g, 0, none⟩) s c, .int .i64 (N : Nat), .int .i64 (K : Nat), .bool false, .slice ra rl rc], .slice (some ⟨tg, 0, none⟩) K K, .bool true]) ∧ s ≤ c ∧ c ≤ maxLen ∧ w1.heap.size ≤ g ∧ Rx w' g S2 ∧ w1.heap.size ≤ tg ∧ Bx w' tg 9 (tcs T K) ∧ Below w1.heap.size w1 w')) := by
    have z := dealt_ok sn hsn nd ct own sv ra rl rc S Rd w1 (HTB.out w1 H1.out.2.1) (h.out.below (by rw [HMM.out]; exact H1.out.2.1)) (HRV.out w1 H1.out.2.1)
    rw [HS2.out, HN.out, HK.out, HRR.out, HTT.out, HSS.out] at z
    rw [← HD1.out]
    exact z
  have HRG := H1.out.1.range
  obtain ⟨s5, HS5⟩ : ∃ q, Hid (q = s + 5) := ⟨s + 5, show _ = _ from rfl⟩
  obtain ⟨s9, HS9⟩ : ∃ q, Hid (q = s + 9) := ⟨s + 9, show _ = _ from rfl⟩
  obtain ⟨n, HNN⟩ : ∃ q, Hid (q = s + 4) := ⟨s + 4, show _ = _ from rfl⟩
  obtain ⟨i0, hi0, hz0, hz1, hz2⟩ := info_parts Tryd.infoB
  have HI0 : Hid (Tryd.prog.info? 5 = some i0 ∧ i0.zero = some (.int .u8 0) ∧ i0.size = 1 ∧ i0.bytes = 1) := ⟨hi0, hz0, hz1, hz2⟩
  clear hi0 hz0 hz1 hz2
  have HMF : Hid (i0.bytes * s ≤ 281474976710656 ∧ s ≤ maxLen) := made_few i0.bytes s s 1 (by decide) HI0.out.2.2.2 (by have := HS1.out; omega)
  obtain ⟨X2, HX2⟩ : ∃ z : List F, Hid (genL s (fun q => OL.getD q 0) = z) := ⟨_, rfl⟩
  have HXL : Hid (X2.length = s) := by rw [← HX2.out]; exact genL_len _ _
  rw [HMM.out]
  go_enter Tryd.func4, Tryd.ntmps4
  go_upto_region 1 with fail
  rw [← hw1, HMM.out]
  clear hw1
  go_upto_region 2 with (first
    | (refine wpList_load_mid (by rfl) 25 (.tmp 3) (by rfl) M 0 (by rfl) D1 _ HRG Tryd.underlying25 rfl hi1 ?_)
    | (go_at_call 5; refine H8.out.mono ?_; intro e2 w2 hh; obtain ⟨g, c, tg, rfl, q1, q2, q3, q4, q5, q6, q7⟩ := hh.out; have HCP : Hid (s ≤ c ∧ c ≤ maxLen ∧ M ≤ g ∧ M < tg) := ⟨q1, q2, Nat.le_trans H1.out.2.2 q3, Nat.lt_of_lt_of_le H1.out.1.lt q5⟩; have H2 : Hid (Rx w2 g S2 ∧ Bx w2 tg 9 (tcs T K) ∧ Below M w w2 ∧ Bx w2 M 25 D1) := ⟨q4, q6, H1.out.2.1.trans (q7.mono H1.out.2.2), H1.out.1.below q7⟩; clear hh q1 q2 q3 q4 q5 q6 q7)
    | (refine wpList_store_bx (by rfl) 25 (.tmp 3) (.tmp 34) (by rfl) D1 [.int .u16 (sn : Nat), .slice (some ⟨g, 0, none⟩) s c, .int .i64 (N : Nat), .int .i64 (K : Nat), .bool false, .slice ra rl rc] M (by rfl) (by rfl) H2.out.2.2.2 (by rw [← HD1.out]; rfl) (by kernel_rfl) (by intro v hv; simp at hv; rcases hv with rfl | rfl | rfl | rfl | rfl | rfl <;> rfl) ?_; intro w3 h7 h8; have H3 : Hid (Bx w3 M 25 [.int .u16 (sn : Nat), .slice (some ⟨g, 0, none⟩) s c, .int .i64 (N : Nat), .int .i64 (K : Nat), .bool false, .slice ra rl rc] ∧ Rx w3 g S2 ∧ Bx w3 tg 9 (tcs T K) ∧ Below M w w3) := (by
        have hne : ∀ {b t cs}, t ≠ 25 → Bx w2 b t cs → b ≠ M := fun ht hbx e => by
          subst e
          have a1 := H2.out.2.2.2
          unfold Bx at hbx a1
          rw [hbx] at a1
          injection a1 with z
          injection z with _ z _
          exact ht z
        obtain ⟨⟨sp, x1⟩, x2, x3, x4⟩ := H2.out
        exact ⟨h7, ⟨sp, x1.keep (h8.block _ x1.lt (fun e => hne (by decide) x1 (by injection e)))⟩, x2.keep (h8.block _ x2.lt (fun e => hne (by decide) x2 (by injection e))), x3.trans (below_gb h8 (Nat.le_of_lt x4.lt) (Nat.le_refl _))⟩); clear h7 h8)
    | fail)
  clear HRG H8 H2
  obtain ⟨D2, HD2⟩ : ∃ z : List Value, Hid ([.int .u16 (sn : Nat), .slice (some ⟨g, 0, none⟩) s c, .int .i64 (N : Nat), .int .i64 (K : Nat), .bool false, .slice ra rl rc] = z) := ⟨_, rfl⟩
  have hi2 : (Tryd.prog.info? 25).map (·.size) = some D2.length := by rw [← HD2.out]; kernel_rfl
  rw [HD2.out] at H3
  have HC : Hid (∀ u, Bx u M 25 D2 → u.cell? ⟨M, 0, none⟩ = some (.int .u16 (sn : Nat)) ∧ u.cell? ⟨M, 1, none⟩ = some (.slice (some ⟨g, 0, none⟩) s c) ∧ u.cell? ⟨M, 2, none⟩ = some (.int .i64 (N : Nat)) ∧ u.cell? ⟨M, 3, none⟩ = some (.int .i64 (K : Nat))) := fun u hu => by
    rw [← HD2.out] at hu
    exact ⟨hu.cell 0 _ rfl, hu.cell 1 _ rfl, hu.cell 2 _ rfl, hu.cell 3 _ rfl⟩
  have HL9 : Hid (Calls Tryd.prog 7 #[] w3 fun e w' => Hid (e = .returned (.bool true) ∧ Below w3.heap.size w3 w')) := H9.out w3 H3.out.2.2.2
  go_upto_region 4 with (first
    | (go_at_call 7; refine HL9.out.mono ?_; intro e4 w4 hh; obtain ⟨rfl, h4⟩ := hh.out; have H4 : Hid (Bx w4 M 25 D2 ∧ Rx w4 g S2 ∧ Bx w4 tg 9 (tcs T K) ∧ Below M w w4) := ⟨H3.out.1.below h4, H3.out.2.1.below h4, H3.out.2.2.1.below h4, H3.out.2.2.2.trans (h4.mono (Nat.le_of_lt H3.out.1.lt))⟩; clear hh h4)
    | fail)
  clear HL9 H3 H9
  obtain ⟨GX, HGX⟩ : ∃ z, Hid (w4.heap.size = z) := ⟨_, rfl⟩
  have HM4 : Hid (M < GX ∧ g < GX ∧ tg < GX) := ⟨by rw [← HGX.out]; exact H4.out.1.lt, by rw [← HGX.out]; exact H4.out.2.1.lt, by rw [← HGX.out]; exact H4.out.2.2.1.lt⟩
  obtain ⟨k0, k1, k2, k3⟩ := HC.out w4 H4.out.1
  go_upto_region 6 with (first
    | (at_make; go_must (refine wpList_make_full _ rfl _ _ 23 rfl w4.heap.size 5 i0 (.int .u8 0) 1 Tryd.underlying23 HI0.out.1 HI0.out.2.1 HI0.out.2.2.1 .i64 .i64 (s : Nat) (s : Nat) s rfl rfl rfl rfl HMF.out.1 HMF.out.2 (Nat.le_refl _) ?_; intro w5 hown hgrow; have hlo : Below w4.heap.size w4 w5 := ⟨hgrow.os, hgrow.tape, hgrow.output, hgrow.size, fun c hc => hgrow.block c hc (by simp)⟩; have H5 : Hid (Rx w5 GX (List.replicate s 0) ∧ Below GX w4 w5) := (by have q := (own_full1 hown).1; rw [show (Value.int .u8 0).cells = #[.int .u8 0] from rfl, Nat.mul_one, toList_madeCells_one] at q; rw [← HGX.out]; refine ⟨⟨[], ?_⟩, hlo⟩; rw [List.append_nil, fc_repD]; exact q); clear hown hgrow hlo))
    | fail)
  rw [HGX.out]
  clear k0 k1 k2 k3
  go_upto_block 0 with fail
  go_cut [10] from 48 to 65 (fun vx wx => vx = .slice (some ⟨GX, 0, none⟩) s s ∧ Hid (Rx wx GX X2 ∧ Below GX w4 wx))
  case first =>
    go_wp2_with fail
    go_loopw [11] (fun vi wr => ∃ i : Nat, i ≤ s ∧ i ≤ ol ∧ vi = .int .i64 (i : Nat) ∧ Hid (Rx wr GX (genL s (fun q => if q < i then OL.getD q 0 else 0)) ∧ Below GX w4 wr)) (fun vi _ => s - (intOf vi).toNat)
    case atStart =>
      refine ⟨0, Nat.zero_le _, Nat.zero_le _, rfl, ?_, H5.out.2⟩
      have e : List.replicate s (0 : F) = genL s (fun q => if q < 0 then OL.getD q 0 else 0) := genL_eq (by simp) fun i hi => by
        rw [if_neg (by omega), List.getD_eq_getElem?_getD, List.getElem?_replicate, if_pos hi]
        rfl
      rw [← e]
      exact H5.out.1
    case round =>
      obtain ⟨i, hi, hio, rfl, HI⟩ := hrel
      clear H5
      have g0 : (0 : Int) ≤ (i : Int) := by omega
      by_cases hs : i < s
      · have g1 : (i : Int) < (s : Int) := by omega
        by_cases ho : i < ol
        · obtain ⟨ob, oo, rfl, hoc⟩ := HOC.out i ho
          have g2 : (i : Int) < (ol : Int) := by omega
          have g3 : IntKind.i64.wrap ((i : Int) + 1) = ((i + 1 : Nat) : Int) := by rw [IntKind.wrap_i64]; have := HS1.out; omega
          have HIS : Hid (i < s ∧ i < ol) := ⟨hs, ho⟩
          obtain ⟨x, HX⟩ : ∃ z : F, Hid (OL.getD i 0 = z) := ⟨_, rfl⟩
          have c1 : wr.cell? ⟨ob, oo + i, none⟩ = some (.int .u8 (x.1 : Nat)) := by rw [← HX.out]; exact hoc wr (H4.out.2.2.2.trans (HI.out.2.mono (Nat.le_of_lt HM4.out.1)))
          obtain ⟨z0, c2⟩ : ∃ z0, wr.cell? ⟨GX, i, none⟩ = some z0 := ⟨_, HI.out.1.cell i (by rw [genL_len]; exact hs)⟩
          have f2 : wr.frozen? ⟨GX, i, none⟩ = false := HI.out.1.frozen i
          have HNX : Hid (Rx (wr.setCell ⟨GX, i, none⟩ (.int .u8 (x.1 : Nat))) GX (genL s (fun q => if q < i + 1 then OL.getD q 0 else 0)) ∧ Below GX w4 (wr.setCell ⟨GX, i, none⟩ (.int .u8 (x.1 : Nat)))) := by
            refine ⟨?_, HI.out.2.setCell (Nat.le_refl _) _⟩
            have e := genL_set s (fun q => if q < i then OL.getD q 0 else 0) (fun q => if q < i + 1 then OL.getD q 0 else 0) i hs x fun q hq => by
              by_cases e : q = i
              · subst e
                rw [if_pos rfl, if_pos (by omega), HX.out]
              · rw [if_neg e]
                by_cases h3 : q < i
                · rw [if_pos h3, if_pos (by omega)]
                · rw [if_neg h3, if_neg (by omega)]
            rw [← e]
            exact HI.out.1.set i (by rw [genL_len]; exact hs) x
          clear HI hi hio hs ho hoc HX
          go_wp2
          refine ⟨⟨i + 1, by have := HIS.out; omega, by have := HIS.out; omega, by first | rfl | (simp; done), HNX⟩, ?_⟩
          simp [intOf]
          have := HIS.out
          omega
        · have g2 : ¬ (i : Int) < (ol : Int) := by omega
          have HE : Hid (Rx wr GX X2 ∧ Below GX w4 wr) := by
            have e : X2 = genL s (fun q => if q < i then OL.getD q 0 else 0) := by
              rw [← HX2.out]
              refine genL_congr _ _ _ fun q hq => ?_
              by_cases h3 : q < i
              · rw [if_pos h3]
              · rw [if_neg h3, List.getD_eq_getElem?_getD, List.getElem?_eq_none (by have := HOL.out; omega)]
                rfl
            rw [e]
            exact HI.out
          clear HI
          go_wp2
          go_meet
          exact ⟨rfl, HE⟩
      · have g1 : ¬ (i : Int) < (s : Int) := by omega
        have HE : Hid (Rx wr GX X2 ∧ Below GX w4 wr) := by
          have e : X2 = genL s (fun q => if q < i then OL.getD q 0 else 0) := by
            rw [← HX2.out]
            exact genL_congr _ _ _ fun q hq => by rw [if_pos (by omega)]
          rw [e]
          exact HI.out
        clear HI
        go_wp2
        go_meet
        exact ⟨rfl, HE⟩
  case rest =>
  obtain ⟨rfl, H6⟩ := hcut
  clear H5 HOC HX2
  have HK6 : Hid (∀ u, Below GX w4 u → Bx u M 25 D2 ∧ Bx u tg 9 (tcs T K) ∧ Below M w u ∧ Tables u) := fun u hu => by
    have hb := H4.out.2.2.2.trans (hu.mono (Nat.le_of_lt HM4.out.1))
    exact ⟨H4.out.1.keep (hu.block M HM4.out.1), H4.out.2.2.1.keep (hu.block tg HM4.out.2.2), hb, HTB.out u hb⟩
  obtain ⟨k0, k1, k2, k3⟩ := HC.out _ (HK6.out _ H6.out.2).1
  rename World => wc
  by_cases hN1 : N = 1
  · have e1 : (N : Int) = 1 := by omega
    have e1b : ((N : Int) == 1) = true := by simp [e1]
    have HE : Hid (Below M w wc) := (HK6.out _ H6.out.2).2.2.1
    go_wp2
    go_ret
    exact ⟨rfl, HE.out⟩
  have HN2 : Hid (2 ≤ N ∧ N ≤ 16 ∧ N ≤ K ∧ K ≤ 24) := by have := HNK.out; exact ⟨by omega, this.2⟩
  have n1 : ¬ (N : Int) = 1 := by omega
  have n1b : ((N : Int) == 1) = false := by simp [n1]
  obtain ⟨sc, HSC⟩ : ∃ q, Hid (q = s) := ⟨s, show _ = _ from rfl⟩
  have HDe1 : Hid (Calls Tryd.prog 9 #[.int .u16 (sn : Nat), .slice (some ⟨GX, 0, none⟩) s s, .int .i64 1, .int .i64 1, .slice none 0 0] wc fun e w' => Hid (∃ t1, e = .returned (.tuple #[.slice (some ⟨t1, 0, none⟩) 1 1, .int .i64 0]) ∧ Bx w' t1 9 [.string (WLs ((shD sn X2 [] 1).at' (fN 1)))] ∧ Below wc.heap.size wc w')) := by
    have z := deal_use sn 1 1 hsn.out X2 [] _ GX s (.slice none 0 0) wc (by rw [HXL.out]; exact HS1.out) (by omega) (by rw [rnd_eq X2.length 1 0 (by rw [HXL.out]; exact HS1.out) (by omega) (by omega)]; rfl) rfl (HK6.out _ H6.out.2).2.2.2 (by rw [HXL.out]; exact ⟨Nat.le_refl _, HMF.out.2⟩) H6.out.1 (vf_mk rfl (Nat.le_refl _) (by decide) (fun _ => rfl) (.inl rfl))
    rw [HXL.out] at z
    refine z.mono fun e w' hh => ?_
    obtain ⟨t1, q1, q2, q3, q4⟩ := hh.out
    refine ⟨t1, q1, ?_, q4⟩
    have e2 := dealT_at sn X2 [] 1 0 (by decide)
    have e3 : tcs (dealT sn X2 [] 1) 1 = [.string (dealT sn X2 [] 1 0)] := rfl
    rw [e3, e2] at q3
    exact q3
  obtain ⟨RL, HRL⟩ : ∃ z : List F, Hid ((shD sn X2 [] 1).at' (fN 1) = z) := ⟨_, rfl⟩
  obtain ⟨RT, HRT⟩ : ∃ z, Hid (WLs RL = z) := ⟨_, rfl⟩
  have HRO : Hid (2 ≤ RL.length ∧ RL.length ≤ 78 ∧ RL.length % 2 = 0 ∧ s + 9 ≤ RL.length) := by
    have hok := Shg.okR (shD_ok sn X2 [] 1 (by rw [HXL.out]; exact HS1.out.1) (by rw [HXL.out]; exact HS1.out.2) (by decide) (by decide)) (fN 1) (by decide)
    have hs := okF_size hok
    have hl := at_len (shD sn X2 [] 1) (fN 1)
    rw [HRL.out] at hs hl
    have e : (shD sn X2 [] 1).l.length = s := HXL.out
    rw [e] at hl
    exact ⟨by omega, hs.2.1, hs.2.2, by omega⟩
  have HRV2 : Hid (∀ i, i < s + 4 → RL.getD (5 + i) 0 = (rowS (fN (sn / 256)) (fN (sn % 256)) X2).getD i 0) := fun i hi => by
    rw [← HRL.out]
    exact one_v (shD sn X2 [] 1) (fN 1) i rfl (by rw [show (shD sn X2 [] 1).l.length = s from HXL.out]; exact hi)
  rw [HRL.out, HRT.out] at HDe1
  have H8r : Hid (∀ u, Calls Tryd.prog 8 #[.string RT] u fun e w' => BytQ RL u.heap.size e u w') := fun u => bytes_ok RL RT ⟨HRO.out.1, HRO.out.2.1, HRO.out.2.2.1⟩ HRT u
  obtain ⟨LR, HLR⟩ : ∃ z, Hid (RL.length = z) := ⟨_, rfl⟩
  have HRO2 : Hid (s9 ≤ LR ∧ LR ≤ 78) := by have := HRO.out; have := HLR.out; have := HS9.out; exact ⟨by omega, by omega⟩
  have a1 : IntKind.i64.wrap (5 + (s : Int)) = (s5 : Int) := by rw [IntKind.wrap_i64]; have := HS5.out; have := HS1.out; omega
  have a2 : IntKind.i64.wrap ((s5 : Int) + 4) = (s9 : Int) := by rw [IntKind.wrap_i64]; have := HS5.out; have := HS9.out; have := HS1.out; omega
  have HB6 : Hid (GX < wc.heap.size) := H6.out.1.lt
  go_upto_region 13 with (first
    | (go_at_call 9; refine HDe1.out.mono ?_; intro e7 w7 hh; obtain ⟨t1, rfl, q2, q3⟩ := hh.out; have H7 : Hid (Bx w7 t1 9 [.string RT] ∧ Rx w7 GX X2 ∧ Below GX w4 w7) := ⟨q2, H6.out.1.below q3, H6.out.2.trans (q3.mono (Nat.le_of_lt HB6.out))⟩; clear hh q2 q3)
    | fail)
  clear k0 k1 k2 k3
  have c1 : w7.cell? ⟨t1, 0, none⟩ = some (.string RT) := H7.out.1.cell 0 _ rfl
  have HB7 : Hid (GX < w7.heap.size) := H7.out.2.1.lt
  go_upto_region 16 with (first
    | (go_at_call 10; refine (H11.out _ _).mono ?_; rintro e1 wn ⟨rfl, hw⟩; obtain rfl := hw.symm; clear hw)
    | (go_at_call 8; refine (H8r.out _).mono ?_; intro e8 w8 hh; obtain ⟨g8, c8, rfl, q1, q2, q3, q4, q5⟩ := hh; have H8 : Hid (Rx w8 g8 RL ∧ Rx w8 GX X2 ∧ Below GX w4 w8 ∧ LR ≤ c8 ∧ c8 ≤ maxLen) := ⟨q4, H7.out.2.1.below q5, H7.out.2.2.trans (q5.mono (Nat.le_of_lt HB7.out)), by rw [← HLR.out]; exact q1, q2⟩; clear q1 q2 q3 q4 q5)
    | fail)
  clear c1
  rw [HLR.out]
  have gl : ¬ (LR : Int) < (s9 : Int) := by have := HRO2.out; omega
  have v1 : (0 : Int) ≤ (s9 : Int) := by omega
  have v2 : (5 : Int) ≤ (s9 : Int) := by have := HS9.out; omega
  have v3 : (s9 : Int) ≤ (c8 : Int) := by have := HRO2.out; have := H8.out; omega
  have hc5 : ¬ c8 = 5 := by have := HRO2.out; have := H8.out.2.2.2; have := HS9.out; omega
  have e9 : s9 - 5 = n := by have := HS9.out; have := HNN.out; omega
  obtain ⟨cz, HCZ⟩ : ∃ q, Hid (c8 - 5 = q) := ⟨_, rfl⟩
  have e10 : c8 - 5 = cz := HCZ.out
  go_upto_region 19 with fail
  clear hc5 e9 e10 gl v1 v2 v3 H7 HB7 HDe1 H8r HB6
  obtain ⟨A, HA⟩ : ∃ q, Hid ((IntKind.u64.wrap fr % K).toNat = q) := ⟨_, rfl⟩
  obtain ⟨B, HB⟩ : ∃ q, Hid (w8.heap.size = q) := ⟨_, rfl⟩
  obtain ⟨Ls, HLs⟩ : ∃ z : Nat → List F, Hid ((fun q => (shD sn S2 R N).at' (fN (tkN A K q + 1))) = z) := ⟨_, rfl⟩
  obtain ⟨PL, HPLd⟩ : ∃ z : Nat → List F, Hid ((fun m => genL (m + 1) (ptF A K)) = z) := ⟨_, rfl⟩
  have HPL : Hid (PL 0 = [0] ∧ (∀ m, (PL m).length = m + 1) ∧ (∀ m, PL (m + 1) = PL m ++ [ptF A K (m + 1)]) ∧ ∀ m i, i < m + 1 → (PL m).getD i 0 = ptF A K i) := by
    rw [← HPLd.out]
    exact ⟨rfl, fun m => genL_len _ _, fun m => genL_succ _ _, fun m i hi => genL_at _ _ _ hi⟩
  have HGB : Hid (GX < B ∧ g8 < B ∧ M < B ∧ tg < B ∧ M < GX) := by
    rw [← HB.out]
    have h1 := H8.out.2.1.lt
    have h2 := HM4.out
    exact ⟨h1, H8.out.1.lt, by omega, by omega, h2.1⟩
  have HK8 : Hid (∀ u, Below B w8 u → Bx u M 25 D2 ∧ Bx u tg 9 (tcs T K) ∧ Rx u g8 RL ∧ Rx u GX X2 ∧ Below M w u ∧ Tables u) := fun u hu => by
    have hb := H8.out.2.2.1.trans (hu.mono (Nat.le_of_lt HGB.out.1))
    obtain ⟨q1, q2, q3, q4⟩ := HK6.out u hb
    exact ⟨q1, q2, H8.out.1.keep (hu.block g8 HGB.out.2.1), H8.out.2.1.keep (hu.block GX HGB.out.1), q3, q4⟩
  obtain ⟨w9, hw9⟩ : ∃ u, u = w8.alloc (.cells #[.int .u8 0] 5) := ⟨_, rfl⟩
  have H9 : Hid (Hs w9 B n B 1 (PL 0) (.slice none 0 0) 0 Ls ∧ Below B w8 w9) := by
    rw [hw9]
    refine ⟨⟨?_, ⟨[], World.ownsRow_nil _ _ _ _, fun q hq => absurd hq (Nat.not_lt_zero _)⟩, by simp; have := HB.out; omega⟩, (Below.refl _ _).alloc (Nat.le_of_eq HB.out.symm) _⟩
    rw [HPL.out.1, ← HB.out]
    exact ⟨rfl, .inr ⟨w8.heap.size, 1, #[.int .u8 0], rfl, Nat.le_refl _, heap_alloc_new w8 _, Nat.le_refl _, by decide, rfl, rfl⟩⟩
  go_upto_region 20 with fail
  rw [← hw9, HB.out]
  clear hw9
  obtain ⟨i3, hi3, hz30, hz31, hz32⟩ := info_parts Tryd.infoT23
  have HI3 : Hid (Tryd.prog.info? 23 = some i3 ∧ i3.zero = some (.slice none 0 0) ∧ i3.size = 1 ∧ i3.bytes = 24) := ⟨hi3, hz30, hz31, hz32⟩
  clear hi3 hz30 hz31 hz32
  obtain ⟨N1, HN1⟩ : ∃ q, Hid (q + 1 = N) := ⟨N - 1, show _ = _ by have := HN2.out; omega⟩
  have xn : IntKind.i64.wrap ((N : Int) - 1) = (N1 : Int) := by rw [IntKind.wrap_i64]; have := HN1.out; have := HN2.out; omega
  have a3 : IntKind.i64.wrap ((s : Int) + 4) = (n : Int) := by rw [IntKind.wrap_i64]; have := HNN.out; have := HS1.out; omega
  have HLN : Hid (∀ q, 2 ≤ (Ls q).length ∧ (Ls q).length ≤ 78 ∧ (Ls q).length % 2 = 0 ∧ s + 9 ≤ (Ls q).length) := fun q => by
    have e0 : Ls q = (shD sn S2 R N).at' (fN (tkN A K q + 1)) := by rw [← HLs.out]
    rw [e0]
    have hj := tkN_lt A K q (by have := HN2.out; omega)
    have hk := HN2.out
    have hok := Shg.okR HZO.out (fN (tkN A K q + 1)) (by rw [fN_val _ (by omega)]; omega)
    have hs := okF_size hok
    have hl := at_len (shD sn S2 R N) (fN (tkN A K q + 1))
    have e : (shD sn S2 R N).l.length = s := HSS.out
    rw [e] at hl
    exact ⟨by omega, hs.2.1, hs.2.2, by omega⟩
  have HLT3 : Hid (∀ q, T (tkN A K q) = WLs (Ls q) ∧ (Ls q).getD 3 0 = ptF A K (q + 1)) := fun q => by
    rw [← HLs.out, ← HTT.out]
    exact ⟨dealT_at sn S2 R N _ HN2.out.2.1, Shg.at_3 _ _⟩
  go_wp2
  go_loopw [16, 17, 18] (fun vk vr vi wr => ∃ (m gK cK : Nat), m + 1 ≤ N ∧ vk = .slice (some ⟨gK, 0, none⟩) (m + 1) cK ∧ vi = .int .i64 (m : Nat) ∧ Hid (Hs wr B n gK cK (PL m) vr m Ls ∧ Below B w8 wr)) (fun _ _ vi _ => N - (intOf vi).toNat)
  case atStart => exact ⟨0, B, 1, by have := HN2.out; omega, rfl, rfl, H9.out⟩
  case round =>
    obtain ⟨m, gK, cK, hm, rfl, rfl, HI⟩ := hrel
    rename World => wr
    clear H9
    obtain ⟨k0, k1, k2, k3⟩ := HC.out _ (HK8.out _ HI.out.2).1
    by_cases hlt : m < N1
    · have HLT : Hid (m < N1) := hlt
      have g1 : (m : Int) < (N1 : Int) := by omega
      obtain ⟨Z, HZ⟩ : ∃ q, Hid (A + m = q) := ⟨_, rfl⟩
      obtain ⟨J, HJ⟩ : ∃ q, Hid (tkN A K m = q) := ⟨_, rfl⟩
      have HJK : Hid (J < K ∧ A < K ∧ Z % K = J) := by
        have := HN2.out
        refine ⟨by rw [← HJ.out]; exact tkN_lt A K m (by omega), ?_, by rw [← HJ.out, ← HZ.out]; rfl⟩
        rw [← HA.out]
        have h0 := Int.emod_lt_of_pos (IntKind.u64.wrap fr) (show (0 : Int) < (K : Int) by omega)
        have h1 := Int.emod_nonneg (IntKind.u64.wrap fr) (show (K : Int) ≠ 0 by omega)
        omega
      have e1 : IntKind.u64.wrap ((K : Nat) : Int) = ((K : Nat) : Int) := u64_natH K (by have := HN2.out; omega)
      have e2 : (IntKind.u64.wrap fr).tmod (K : Nat) = (A : Nat) := by rw [atI_tmod fr K (by have := HN2.out; omega), HA.out]
      have e3 : IntKind.u64.wrap ((m : Nat) : Int) = ((m : Nat) : Int) := u64_natH m (by have := HN1.out; have := HN2.out; omega)
      have e4 : IntKind.u64.wrap ((A : Int) + (m : Int)) = (Z : Int) := by
        have z := u64_natH Z (by have := HZ.out; have := HJK.out; have := HN1.out; have := HN2.out; omega)
        rw [← HZ.out] at z ⊢
        exact z
      have e5 : IntKind.i64.wrap ((Z : Nat) : Int) = (Z : Int) := by rw [IntKind.wrap_i64]; have := HZ.out; have := HJK.out; have := HN1.out; have := HN2.out; omega
      have e6 : ((Z : Nat) : Int).tmod (K : Nat) = (J : Int) := by
        rw [Int.tmod_eq_emod_of_nonneg (by omega)]
        have := HJK.out.2.2
        omega
      have HKZ : ¬ ((K : Nat) : Int) = 0 := by have := HN2.out; omega
      go_upto_region 25 with fail
      clear e1 e2 e3 e4 e5 e6 HKZ g1 k0 k1 k2 k3
      obtain ⟨TJ, HTJ⟩ : ∃ z, Hid (T J = z) := ⟨_, rfl⟩
      obtain ⟨LJ, HLJ⟩ : ∃ z, Hid (Ls m = z) := ⟨_, rfl⟩
      obtain ⟨LN, HLL⟩ : ∃ z, Hid (LJ.length = z) := ⟨_, rfl⟩
      obtain ⟨J1, HJ1⟩ : ∃ q, Hid (q = J + 1) := ⟨J + 1, show _ = _ from rfl⟩
      have HLS : Hid (s9 ≤ LN ∧ LN ≤ 78) := by
        have z := HLN.out m
        rw [HLJ.out, HLL.out] at z
        have := HS9.out
        exact ⟨by omega, z.2.1⟩
      have HPT : Hid (ptF A K (m + 1) = fN J1) := by rw [HJ1.out, ← HJ.out]; rfl
      obtain ⟨xF, HXF⟩ : ∃ z : F, Hid (z = ptF A K (m + 1)) := ⟨_, show _ = _ from rfl⟩
      have HJV : Hid ((fN J1).1 = J1) := fN_val _ (by have := HJ1.out; have := HJK.out; have := HN2.out; omega)
      have H8j : Hid (∀ u, Calls Tryd.prog 8 #[.string TJ] u fun e w' => BytQ LJ u.heap.size e u w') := fun u => bytes_ok LJ TJ ⟨by rw [← HLJ.out]; exact (HLN.out m).1, by rw [← HLJ.out]; exact (HLN.out m).2.1, by rw [← HLJ.out]; exact (HLN.out m).2.2.1⟩ (show _ = _ by rw [← HTJ.out, ← HLJ.out, ← (HLT3.out m).1, HJ.out]) u
      have ct : wr.cell? ⟨tg, J, none⟩ = some (.string TJ) := by rw [← HTJ.out]; exact (HK8.out _ HI.out.2).2.1.cell J _ (tcs_at T K J HJK.out.1)
      have j0 : (0 : Int) ≤ (J : Int) := by omega
      have j1 : (J : Int) < (K : Int) := by have := HJK.out; omega
      have HWB : Hid (gK < wr.heap.size ∧ B ≤ wr.heap.size) := ⟨HI.out.1.klt.2, HI.out.1.sz⟩
      go_upto_region 26 with (first
        | (go_at_call 8; refine (H8j.out _).mono ?_; intro e6 w6 hh; obtain ⟨g5, c5, rfl, q1, q2, q3, q4, q5⟩ := hh; have H6b : Hid (Rx w6 g5 LJ ∧ LN ≤ c5 ∧ Hs w6 B n gK cK (PL m) u17 m Ls ∧ Below B w8 w6 ∧ g5 ≠ gK ∧ B ≤ w6.heap.size) := ⟨q4, by rw [← HLL.out]; exact q1, HI.out.1.below q5, HI.out.2.trans (q5.mono HWB.out.2), by have := HWB.out; omega, Nat.le_trans HWB.out.2 q5.size⟩; clear q1 q2 q3 q4 q5)
        | fail)
      clear ct
      rw [HLL.out]
      have c3 : w6.cell? ⟨g5, 3, none⟩ = some (.int .u8 (J1 : Nat)) := by
        have z := H6b.out.1.cell 3 (by rw [HLL.out]; have := HLS.out; have := HS9.out; omega)
        rw [← HLJ.out, (HLT3.out m).2, HPT.out, HJV.out] at z
        exact z
      have f3 : (3 : Int) < (LN : Int) := by have := HLS.out; have := HS9.out; omega
      have f3n : 3 < LN := by omega
      have gl : ¬ (LN : Int) < (s9 : Int) := by have := HLS.out; omega
      have y1 : IntKind.i64.wrap ((J : Int) + 1) = (J1 : Int) := by rw [IntKind.wrap_i64]; have := HJ1.out; have := HJK.out; have := HN2.out; omega
      have y2 : IntKind.i64.wrap ((J1 : Nat) : Int) = (J1 : Int) := by rw [IntKind.wrap_i64]; have := HJ1.out; have := HJK.out; have := HN2.out; omega
      obtain ⟨w6a, hw6a⟩ : ∃ u, u = w6.alloc (.cells #[.int .u8 (J1 : Nat)] 5) := ⟨_, rfl⟩
      obtain ⟨h6, HH6⟩ : ∃ q, Hid (w6.heap.size = q) := ⟨_, rfl⟩
      have H6c : Hid (Rx w6a g5 LJ ∧ Hs w6a B n gK cK (PL m) u17 m Ls ∧ Below B w8 w6a ∧ w6a.ownsRow B 5 1 (.slice (some ⟨gK, 0, none⟩) (m + 1) cK) (m + 1) (fc (PL m)) ∧ w6a.cell? ⟨h6, 0, none⟩ = some (.int .u8 (J1 : Nat)) ∧ B ≤ w6a.heap.size ∧ g5 < w6a.heap.size) := by
        have hb : Below w6.heap.size w6 w6a := by rw [hw6a]; exact (Below.refl _ _).alloc (Nat.le_refl _) _
        have z := (H6b.out.2.2.1.below hb).kn
        rw [HPL.out.2.1] at z
        refine ⟨H6b.out.1.below hb, H6b.out.2.2.1.below hb, H6b.out.2.2.2.1.trans (hb.mono H6b.out.2.2.2.2.2), z, ?_, Nat.le_trans H6b.out.2.2.2.2.2 hb.size, Nat.lt_of_lt_of_le H6b.out.1.lt hb.size⟩
        rw [hw6a, ← HH6.out]
        exact one_cell w6 _ 5 0 _ rfl
      go_upto_region 28 with fail
      go_upto_region 29 with (first
        | (at_builtin; rw [← hw6a, HH6.out]; go_must (refine wpList_lies rfl (.tmp 154) (.tmp 158) 23 rfl B 5 i0 (.int .u8 0) 1 Tryd.underlying23' HI0.out.1 HI0.out.2.1 HI0.out.2.2.1 HI0.out.2.2.2 rfl _ (m + 1) (fc (PL m)) rfl H6c.out.2.2.2.1 h6 (.int .u8 (J1 : Nat)) rfl H6c.out.2.2.2.2.1 rfl (by have := HN1.out; have := HN2.out; have := HLT.out; omega) (by decide) H6c.out.2.2.2.2.2.1 ?_; intro g7 c7 w7 hown hgrow hgb; have H7b : Hid (Hs w7 B n g7 c7 (PL (m + 1)) u17 m Ls ∧ Rx w7 g5 LJ ∧ g5 ≠ g7 ∧ Below B w8 w7 ∧ B ≤ w7.heap.size) := (by have ho2 := hown; rw [show (Value.int .u8 (J1 : Nat)) = .int .u8 (xF.1 : Nat) from by rw [HXF.out, HPT.out, HJV.out]] at ho2; have hl := HPL.out.2.1 m; rw [← hl] at ho2; refine ⟨by rw [HPL.out.2.2.1, ← HXF.out]; exact H6c.out.2.1.app1 xF ho2 hgrow hgb, H6c.out.1.keep (hgrow.block g5 H6c.out.2.2.2.2.2.2 (fun e => H6b.out.2.2.2.2.1 (by injection e))), ?_, H6c.out.2.2.1.trans (below_gb hgrow H6c.out.2.2.2.2.2.1 H6c.out.2.1.klt.1), Nat.le_trans H6c.out.2.2.2.2.2.1 hgrow.size⟩; rcases hgb with e | e; injection e with e; rw [← e]; exact H6b.out.2.2.2.2.1; have := H6c.out.2.2.2.2.2.2; omega); clear hown hgrow hgb))
        | fail)
      clear c3 f3 f3n gl y1 y2 hw6a
      have hc5 : ¬ c5 = 5 := by have := HLS.out; have := H6b.out.2.1; have := HS9.out; omega
      have e9 : s9 - 5 = n := by have := HS9.out; have := HNN.out; omega
      obtain ⟨cq, HCQ⟩ : ∃ q, Hid (c5 - 5 = q) := ⟨_, rfl⟩
      have e10 : c5 - 5 = cq := HCQ.out
      have v1 : (0 : Int) ≤ (s9 : Int) := by omega
      have v2 : (5 : Int) ≤ (s9 : Int) := by have := HS9.out; omega
      have v3 : (s9 : Int) ≤ (c5 : Int) := by have := HLS.out; have := H6b.out.2.1; omega
      obtain ⟨w7a, hw7a⟩ : ∃ u, u = w7.alloc (.cells #[.slice (some ⟨g5, 5, none⟩) n cq] 23) := ⟨_, rfl⟩
      obtain ⟨h7, HH7⟩ : ∃ q, Hid (w7.heap.size = q) := ⟨_, rfl⟩
      have H7c : Hid (Hs w7a B n g7 c7 (PL (m + 1)) u17 m Ls ∧ Rx w7a g5 (Ls m) ∧ Below B w8 w7a ∧ w7a.cell? ⟨h7, 0, none⟩ = some (.slice (some ⟨g5, 5, none⟩) n cq) ∧ B ≤ w7a.heap.size) := by
        have hb : Below w7.heap.size w7 w7a := by rw [hw7a]; exact (Below.refl _ _).alloc (Nat.le_refl _) _
        refine ⟨H7b.out.1.below hb, by rw [HLJ.out]; exact H7b.out.2.1.below hb, H7b.out.2.2.2.1.trans (hb.mono H7b.out.2.2.2.2), ?_, Nat.le_trans H7b.out.2.2.2.2 hb.size⟩
        rw [hw7a, ← HH7.out]
        exact one_cell w7 _ 23 0 _ rfl
      have HNC : Hid (n ≤ cq) := by
        show n ≤ cq
        have := HCQ.out
        have := HLS.out
        have := H6b.out.2.1
        have := HS9.out
        have := HNN.out
        omega
      obtain ⟨cells, hcl, hce⟩ := H7c.out.1.rw
      have HCL : Hid (w7a.ownsRow B 23 1 u17 m cells ∧ ∀ q, q < m → ∃ g c, cells[q]? = some (.slice (some ⟨g, 5, none⟩) n c) ∧ n ≤ c ∧ Rx w7a g (Ls q) ∧ g ≠ g7) := ⟨hcl, hce⟩
      clear hcl hce
      go_upto_region 23 with (first
        | (at_builtin; rw [← hw7a, HH7.out]; go_must (refine wpList_lies rfl (.tmp 160) (.tmp 166) 39 rfl B 23 i3 (.slice none 0 0) 24 Tryd.underlying39' HI3.out.1 HI3.out.2.1 HI3.out.2.2.1 HI3.out.2.2.2 rfl u17 m cells rfl HCL.out.1 h7 (.slice (some ⟨g5, 5, none⟩) n cq) rfl H7c.out.2.2.2.1 rfl (by have := HN1.out; have := HN2.out; have := HLT.out; omega) (by decide) H7c.out.2.2.2.2 ?_; intro g9 c9 w9 hown hgrow hgb; have H9 : Hid (Hs w9 B n g7 c7 (PL (m + 1)) (.slice (some ⟨g9, 0, none⟩) (m + 1) c9) (m + 1) Ls ∧ Below B w8 w9) := ⟨H7c.out.1.app2 HCL.out.1 HCL.out.2 H7c.out.2.1 H7b.out.2.2.1 HNC.out hown hgrow, H7c.out.2.2.1.trans ((Below.refl _ _).grown hgrow H7c.out.2.2.2.2 (fun q hq => (HCL.out.1.lt q hq).1))⟩; clear hown hgrow hgb))
        | fail)
      clear hc5 e9 e10 v1 v2 v3 hw7a
      have xm : IntKind.i64.wrap ((m : Int) + 1) = ((m + 1 : Nat) : Int) := by rw [IntKind.wrap_i64]; have := HN1.out; have := HN2.out; have := HLT.out; omega
      go_wp2_with fail
      go_roundw
      case rel => exact ⟨m + 1, g7, c7, by have := HN1.out; have := HLT.out; omega, rfl, by go_num, H9.out⟩
      case measure => simp [intOf]; have := HN1.out; have := HLT.out; omega
    · obtain rfl : N1 = m := by have := HN1.out; omega
      have g1 : ¬ (N1 : Int) < (N1 : Int) := Int.lt_irrefl _
      obtain ⟨gr, cr, rfl⟩ : ∃ gr cr, u17 = .slice (some ⟨gr, 0, none⟩) N1 cr := by
        obtain ⟨cells, hcl, _⟩ := HI.out.1.rw
        rcases hcl.2 with ⟨_, e⟩ | ⟨gr, cr, cur, e, _⟩
        · have := HN1.out; have := HN2.out; omega
        · exact ⟨gr, cr, e⟩
      have HROW : Hid (∀ u, Below wr.heap.size wr u → ∀ q, q < N1 → ∃ gq cq, u.cell? ⟨gr, q, none⟩ = some (.slice (some ⟨gq, 5, none⟩) n cq) ∧ n ≤ cq ∧ ∀ i, i < n → u.cell? ⟨gq, 5 + i, none⟩ = some (.int .u8 (((Ls q).getD (5 + i) 0).1 : Nat))) := fun u hu q hq => by
        obtain ⟨cells, hc, he⟩ := (HI.out.1.below hu).rw
        obtain ⟨gq, cq, q1, q2, q3, _⟩ := he q hq
        have z := hc.cells (g := gr) rfl q _ q1
        rw [Addr.add_lit, Nat.zero_add] at z
        exact ⟨gq, cq, z, q2, fun i hi => q3.cell (5 + i) (by have := (HLN.out q).2.2.2; have := HNN.out; omega)⟩
      obtain ⟨Z, HZ⟩ : ∃ q, Hid (q = N1 * n) := ⟨N1 * n, show _ = _ from rfl⟩
      have HZB : Hid (N1 ≤ 15 ∧ n ≤ 68 ∧ Z ≤ 1020 ∧ 1 ≤ N1 ∧ 5 ≤ n) := by
        have h1 := HN1.out
        have h2 := HN2.out
        have h3 := HNN.out
        have h4 := HS1.out
        have h5 : N1 * n ≤ 15 * 68 := Nat.mul_le_mul (by omega) (by omega)
        have h6 := HZ.out
        exact ⟨by omega, by omega, by omega, by omega, by omega⟩
      have y0 : IntKind.i64.wrap ((N1 : Int) * (n : Int)) = (Z : Int) := by
        have e : (N1 : Int) * (n : Int) = (Z : Int) := by rw [HZ.out, Int.natCast_mul]
        rw [e, IntKind.wrap_i64]
        have := HZB.out
        omega
      have HMZ : Hid (i0.bytes * Z ≤ 281474976710656 ∧ Z ≤ maxLen) := made_few i0.bytes Z Z 1 (by decide) HI0.out.2.2.2 (by have := HZB.out; omega)
      have HWR : Hid (gK < wr.heap.size ∧ B ≤ wr.heap.size) := ⟨HI.out.1.klt.2, HI.out.1.sz⟩
      obtain ⟨GR, HGR⟩ : ∃ q, Hid (wr.heap.size = q) := ⟨_, rfl⟩
      go_upto_region 31 with (first
        | (at_make; go_must (refine wpList_make_full _ rfl _ _ 23 rfl wr.heap.size 5 i0 (.int .u8 0) 1 Tryd.underlying23 HI0.out.1 HI0.out.2.1 HI0.out.2.2.1 .i64 .i64 (Z : Nat) (Z : Nat) Z rfl rfl rfl rfl HMZ.out.1 HMZ.out.2 (Nat.le_refl _) ?_; intro w10 hown hgrow; have hlo : Below wr.heap.size wr w10 := ⟨hgrow.os, hgrow.tape, hgrow.output, hgrow.size, fun c hc => hgrow.block c hc (by simp)⟩; have H10 : Hid (Rx w10 GR (List.replicate Z 0) ∧ Below GR wr w10) := (by have q := (own_full1 hown).1; rw [show (Value.int .u8 0).cells = #[.int .u8 0] from rfl, Nat.mul_one, toList_madeCells_one] at q; rw [← HGR.out]; refine ⟨⟨[], ?_⟩, hlo⟩; rw [List.append_nil, fc_repD]; exact q); clear hown hgrow hlo))
        | fail)
      rw [HGR.out]
      clear k0 k1 k2 k3 g1 y0
      have HKG : Hid (∀ u, Below GR wr u → Below wr.heap.size wr u ∧ Below B w8 u) := fun u hu => ⟨by rw [HGR.out]; exact hu, HI.out.2.trans (hu.mono (by rw [← HGR.out]; exact HWR.out.2))⟩
      obtain ⟨HP, HHP⟩ : ∃ z : Nat → List F, Hid (hpL (shD sn S2 R N) (rowS (fN (sn / 256)) (fN (sn % 256)) X2) A K N = z) := ⟨_, rfl⟩
      obtain ⟨Yf, HYf⟩ : ∃ z : Nat → Nat → F, Hid ((fun i => ptY (shD sn S2 R N) (rowS (fN (sn / 256)) (fN (sn % 256)) X2) A K i) = z) := ⟨_, rfl⟩
      have HY0 : Hid (∀ i, i < n → RL.getD (5 + i) 0 = Yf i 0) := fun i hi => by
        rw [HRV2.out i (by have := HNN.out; omega), ← HYf.out]
        rfl
      have HY1 : Hid (∀ i q, (Ls q).getD (5 + i) 0 = Yf i (q + 1)) := fun i q => by rw [← HYf.out, ← HLs.out]; rfl
      have HPN : Hid (∀ i, (HP i).length = N ∧ newtL (fun q => (PL N1).getD q 0) (fun q => (genL N (Yf i)).getD q 0) N = HP i) := fun i => by
        rw [← HHP.out]
        refine ⟨newt_len _ _ _, ?_⟩
        show _ = newtL _ _ _
        refine newt_congr _ _ _ _ N fun q hq => ⟨HPL.out.2.2.2 N1 q (by have := HN1.out; omega), ?_⟩
        rw [genL_at _ _ _ hq, ← HYf.out]
      have HTH : Hid (∀ i u gy cy, Below wr.heap.size wr u → Vf u (.slice (some ⟨gy, 0, none⟩) (N1 + 1) cy) (genL (N1 + 1) (Yf i)) → Calls Tryd.prog 11 #[.slice (some ⟨gK, 0, none⟩) (N1 + 1) cK, .slice (some ⟨gy, 0, none⟩) (N1 + 1) cy] u fun e w' => Hid (∃ g', e = .returned (.slice (some ⟨g', 0, none⟩) N N) ∧ u.heap.size ≤ g' ∧ Rx w' g' (HP i) ∧ Below u.heap.size u w')) := fun i u gy cy hu hy => by
        have hk := (HI.out.1.below hu).vf
        rw [HPL.out.2.1] at hk
        have eN : N1 + 1 = N := HN1.out
        have z := throughL_ok _ _ (PL N1) (genL (N1 + 1) (Yf i)) u hk hy ⟨by rw [HPL.out.2.1]; omega, by rw [HPL.out.2.1]; have := HZB.out; omega, by rw [genL_len, HPL.out.2.1]⟩ (show _ from fun i j h1 h2 => by
          rw [HPL.out.2.1] at h2
          rw [HPL.out.2.2.2 N1 j h2, HPL.out.2.2.2 N1 i (by omega)]
          exact ptF_apart A K N HN2.out.2.2.1 HN2.out.2.2.2 i j h1 (by omega))
        rw [HPL.out.2.1 N1, eN, (HPN.out i).2] at z
        rw [eN]
        exact z
      go_wp2
      go_loopw [23] (fun vi wx => ∃ i : Nat, i ≤ n ∧ vi = .int .i64 (i : Nat) ∧ Hid (Rx wx GR (genL Z (rnI HP n i)) ∧ Below GR wr wx)) (fun vi _ => n - (intOf vi).toNat)
      case atStart => exact ⟨0, Nat.zero_le _, rfl, by rw [rnI_zero]; exact H10.out.1, H10.out.2⟩
      case round =>
        obtain ⟨i, hi, rfl, HX⟩ := hrel
        rename World => wx
        clear H10
        by_cases hin : i < n
        · have HIN : Hid (i < n) := hin
          have g1 : (i : Int) < (n : Int) := by omega
          have g0 : (0 : Int) ≤ (i : Int) := by omega
          obtain ⟨yv, HYV⟩ : ∃ z : F, Hid (Yf i 0 = z) := ⟨_, rfl⟩
          have HSX : Hid (GR < wx.heap.size) := HX.out.1.lt
          have c1 : wx.cell? ⟨g8, 5 + i, none⟩ = some (.int .u8 (yv.1 : Nat)) := by
            have z := (HK8.out wx (HKG.out wx HX.out.2).2).2.2.1.cell (5 + i) (by rw [HLR.out]; have := HRO2.out; have := HS9.out; have := HNN.out; omega)
            rw [HY0.out i hin, HYV.out] at z
            exact z
          obtain ⟨w12, hw12⟩ : ∃ u, u = wx.alloc (.cells #[.int .u8 (yv.1 : Nat)] 5) := ⟨_, rfl⟩
          obtain ⟨B2, HB2⟩ : ∃ q, Hid (wx.heap.size = q) := ⟨_, rfl⟩
          have H12 : Hid (w12.ownsRow B2 5 1 (.slice (some ⟨B2, 0, none⟩) 1 1) 1 (fc (genL 1 (Yf i))) ∧ Below B2 wx w12 ∧ B2 ≤ w12.heap.size) := by
            have e : genL 1 (Yf i) = [yv] := by rw [← HYV.out]; rfl
            rw [e, hw12, ← HB2.out]
            exact ⟨⟨rfl, .inr ⟨wx.heap.size, 1, #[.int .u8 (yv.1 : Nat)], rfl, Nat.le_refl _, heap_alloc_new wx _, Nat.le_refl _, by decide, rfl, rfl⟩⟩, (Below.refl _ _).alloc (Nat.le_refl _) _, by simp⟩
          go_upto_region 35 with fail
          rw [← hw12, HB2.out]
          clear hw12 c1 g1
          have HGR2 : Hid (GR < B2) := by rw [← HB2.out]; exact HSX.out
          have HKB : Hid (∀ u, Below B2 wx u → Rx u GR (genL Z (rnI HP n i)) ∧ Below GR wr u) := fun u hu => ⟨HX.out.1.keep (hu.block GR HGR2.out), HX.out.2.trans (hu.mono (Nat.le_of_lt HGR2.out))⟩
          clear HX
          go_wp2
          go_loopw [24, 25] (fun vy vk wq => ∃ (k gy cy : Nat), k ≤ N1 ∧ vy = .slice (some ⟨gy, 0, none⟩) (k + 1) cy ∧ vk = .int .i64 (k : Nat) ∧ Hid (wq.ownsRow B2 5 1 (.slice (some ⟨gy, 0, none⟩) (k + 1) cy) (k + 1) (fc (genL (k + 1) (Yf i))) ∧ Below B2 wx wq ∧ B2 ≤ wq.heap.size)) (fun _ vk _ => N1 - (intOf vk).toNat)
          case atStart => exact ⟨0, B2, 1, Nat.zero_le _, rfl, rfl, H12.out⟩
          case round =>
            obtain ⟨k, gy, cy, hk, rfl, rfl, HQ⟩ := hrel
            rename World => wq
            clear H12
            by_cases hkn : k < N1
            · have HKN : Hid (k < N1) := hkn
              have g1 : (k : Int) < (N1 : Int) := by omega
              have g2 : (0 : Int) ≤ (k : Int) := by omega
              have g3 : (i : Int) < (n : Int) := by have := HIN.out; omega
              obtain ⟨gq, cq, d1, d2, d3⟩ := HROW.out wq (HKG.out wq (HKB.out wq HQ.out.2.1).2).1 k hkn
              obtain ⟨yk, HYK⟩ : ∃ z : F, Hid (Yf i (k + 1) = z) := ⟨_, rfl⟩
              have d4 : wq.cell? ⟨gq, 5 + i, none⟩ = some (.int .u8 (yk.1 : Nat)) := by
                have z := d3 i HIN.out
                rw [HY1.out i k, HYK.out] at z
                exact z
              have xk : IntKind.i64.wrap ((k : Int) + 1) = ((k + 1 : Nat) : Int) := by rw [IntKind.wrap_i64]; have := HZB.out; have := HKN.out; omega
              obtain ⟨wqa, hwqa⟩ : ∃ u, u = wq.alloc (.cells #[.int .u8 (yk.1 : Nat)] 5) := ⟨_, rfl⟩
              obtain ⟨hq, HHQ⟩ : ∃ q, Hid (wq.heap.size = q) := ⟨_, rfl⟩
              have HQa : Hid (wqa.ownsRow B2 5 1 (.slice (some ⟨gy, 0, none⟩) (k + 1) cy) (k + 1) (fc (genL (k + 1) (Yf i))) ∧ Below B2 wx wqa ∧ B2 ≤ wqa.heap.size ∧ wqa.cell? ⟨hq, 0, none⟩ = some (.int .u8 (yk.1 : Nat))) := by
                have hb : Below wq.heap.size wq wqa := by rw [hwqa]; exact (Below.refl _ _).alloc (Nat.le_refl _) _
                refine ⟨by rw [hwqa]; exact HQ.out.1.alloc _, HQ.out.2.1.trans (hb.mono HQ.out.2.2), Nat.le_trans HQ.out.2.2 hb.size, ?_⟩
                rw [hwqa, ← HHQ.out]
                exact one_cell wq _ 5 0 _ rfl
              clear d2 d3 hk hkn
              go_upto_region 37 with (first
                | (at_builtin; rw [← hwqa, HHQ.out]; go_must (refine wpList_lies rfl (.tmp 192) (.tmp 200) 23 rfl B2 5 i0 (.int .u8 0) 1 Tryd.underlying23' HI0.out.1 HI0.out.2.1 HI0.out.2.2.1 HI0.out.2.2.2 rfl _ (k + 1) (fc (genL (k + 1) (Yf i))) rfl HQa.out.1 hq (.int .u8 (yk.1 : Nat)) rfl HQa.out.2.2.2 rfl (by have := HZB.out; have := HKN.out; omega) (by decide) HQa.out.2.2.1 ?_; intro g9 c9 w9 hown hgrow hgb; have HQn : Hid (w9.ownsRow B2 5 1 (.slice (some ⟨g9, 0, none⟩) (k + 1 + 1) c9) (k + 1 + 1) (fc (genL (k + 1 + 1) (Yf i))) ∧ Below B2 wx w9 ∧ B2 ≤ w9.heap.size) := ⟨by rw [genL_succ (k + 1), fc_appD, HYK.out]; exact hown, HQa.out.2.1.trans ((Below.refl _ _).grown hgrow HQa.out.2.2.1 (fun q hq => (HQa.out.1.lt q hq).1)), Nat.le_trans HQa.out.2.2.1 hgrow.size⟩; clear hown hgrow hgb))
                | fail)
              clear d1 d4 hwqa g1
              go_wp2_with fail
              go_roundw
              case rel => exact ⟨k + 1, g9, c9, by have := HKN.out; omega, rfl, by go_num, HQn.out⟩
              case measure => simp [intOf]; have := HKN.out; omega
            · obtain rfl : N1 = k := by omega
              have g1 : ¬ (N1 : Int) < (N1 : Int) := Int.lt_irrefl _
              have HTc : Hid (Calls Tryd.prog 11 #[.slice (some ⟨gK, 0, none⟩) (N1 + 1) cK, .slice (some ⟨gy, 0, none⟩) (N1 + 1) cy] wq fun e w' => Hid (∃ g', e = .returned (.slice (some ⟨g', 0, none⟩) N N) ∧ wq.heap.size ≤ g' ∧ Rx w' g' (HP i) ∧ Below wq.heap.size wq w')) := HTH.out i wq gy cy (HKG.out wq (HKB.out wq HQ.out.2.1).2).1 (own_zi HQ.out.1 (genL_len _ _))
              go_upto_region 40 with (first
                | (go_at_call 11; refine HTc.out.mono ?_; intro e13 w13 hh; obtain ⟨g4, rfl, q1, q2, q3⟩ := hh.out; have H13 : Hid (Rx w13 GR (genL Z (rnJ HP n i 1)) ∧ Below GR wr w13 ∧ Rx w13 g4 (HP i)) := (by have hb := HQ.out.2.1.trans (q3.mono HQ.out.2.2); rw [rnJ_start]; exact ⟨(HKB.out w13 hb).1, (HKB.out w13 hb).2, q2⟩); have H4G : Hid (GR < g4) := (by show _ < _; have := HGR2.out; have := HQ.out.2.2; omega); clear hh q1 q2 q3)
                | fail)
              clear g1 HQ HTc
              go_wp2
              go_loopw [27] (fun vt wz => ∃ t : Nat, 1 ≤ t ∧ t ≤ N ∧ vt = .int .i64 (t : Nat) ∧ Hid (Rx wz GR (genL Z (rnJ HP n i t)) ∧ Below GR wr wz ∧ Rx wz g4 (HP i))) (fun vt _ => N - (intOf vt).toNat)
              case atStart => exact ⟨1, Nat.le_refl _, by have := HN2.out; omega, rfl, H13.out⟩
              case round =>
                obtain ⟨t, ht1, htN, rfl, HV⟩ := hrel
                rename World => wz
                clear H13
                obtain ⟨k0, k1, k2, k3⟩ := HC.out _ (HK8.out _ (HKG.out _ HV.out.2.1).2).1
                by_cases htl : t < N
                · obtain ⟨u, HU⟩ : ∃ q, Hid (q + 1 = t) := ⟨t - 1, show _ = _ by omega⟩
                  obtain ⟨un, HUN⟩ : ∃ q, Hid (q = u * n) := ⟨u * n, show _ = _ from rfl⟩
                  obtain ⟨p, HPo⟩ : ∃ q, Hid (q = un + i) := ⟨un + i, show _ = _ from rfl⟩
                  have HTN : Hid (t < N ∧ 1 ≤ t) := ⟨htl, ht1⟩
                  have HPZ : Hid (u * n + i < Z ∧ p < Z ∧ p = u * n + i) := by
                    have z := col_lt u n N i HIN.out (by have := HU.out; omega)
                    rw [show N - 1 = N1 by have := HN1.out; omega, ← HZ.out] at z
                    have := HPo.out
                    have := HUN.out
                    exact ⟨z, by omega, by omega⟩
                  have y1 : IntKind.i64.wrap ((t : Int) - 1) = (u : Int) := by rw [IntKind.wrap_i64]; have := HU.out; have := HN2.out; omega
                  have y2 : IntKind.i64.wrap ((u : Int) * (n : Int)) = (un : Int) := by
                    have e : (u : Int) * (n : Int) = (un : Int) := by rw [HUN.out, Int.natCast_mul]
                    rw [e, IntKind.wrap_i64]
                    have := HPZ.out
                    have := HPo.out
                    have := HZB.out
                    omega
                  have y3 : IntKind.i64.wrap ((un : Int) + (i : Int)) = (p : Int) := by rw [IntKind.wrap_i64]; have := HPo.out; have := HPZ.out; have := HZB.out; omega
                  have y4 : IntKind.i64.wrap ((t : Int) + 1) = ((t + 1 : Nat) : Int) := by rw [IntKind.wrap_i64]; have := HN2.out; have := HTN.out; omega
                  have g1 : (t : Int) < (N : Int) := by omega
                  have g2 : (0 : Int) ≤ (t : Int) := by omega
                  have g3 : (0 : Int) ≤ (p : Int) := by omega
                  have g4' : (p : Int) < (Z : Int) := by have := HPZ.out; omega
                  obtain ⟨v, HVv⟩ : ∃ z : F, Hid ((HP i).getD t 0 = z) := ⟨_, rfl⟩
                  have c1 : wz.cell? ⟨g4, t, none⟩ = some (.int .u8 (v.1 : Nat)) := by
                    rw [← HVv.out]
                    exact HV.out.2.2.cell t (by rw [(HPN.out i).1]; exact htl)
                  obtain ⟨z0, c2⟩ : ∃ z0, wz.cell? ⟨GR, p, none⟩ = some z0 := ⟨_, HV.out.1.cell p (by rw [genL_len]; exact HPZ.out.2.1)⟩
                  have f2 : wz.frozen? ⟨GR, p, none⟩ = false := HV.out.1.frozen p
                  have HNX : Hid (Rx (wz.setCell ⟨GR, p, none⟩ (.int .u8 (v.1 : Nat))) GR (genL Z (rnJ HP n i (t + 1))) ∧ Below GR wr (wz.setCell ⟨GR, p, none⟩ (.int .u8 (v.1 : Nat))) ∧ Rx (wz.setCell ⟨GR, p, none⟩ (.int .u8 (v.1 : Nat))) g4 (HP i)) := by
                    have e := rnJ_step HP n i t Z u HIN.out HU.out HPZ.out.1
                    rw [← HPZ.out.2.2, HVv.out] at e
                    rw [← e]
                    exact ⟨HV.out.1.set p (by rw [genL_len]; exact HPZ.out.2.1) v, HV.out.2.1.setCell (Nat.le_refl _) _, HV.out.2.2.keep ((set_gb _ _ _ _).block g4 HV.out.2.2.lt (fun e => by injection e with e; have := H4G.out; omega))⟩
                  clear HV ht1 htN htl
                  go_wp2
                  refine ⟨⟨t + 1, by omega, by have := HTN.out; omega, by first | rfl | (simp; done), HNX⟩, ?_⟩
                  simp [intOf]
                  have := HTN.out
                  omega
                · have e : t = N := by omega
                  have g1 : ¬ (t : Int) < (N : Int) := by omega
                  have xi : IntKind.i64.wrap ((i : Int) + 1) = ((i + 1 : Nat) : Int) := by rw [IntKind.wrap_i64]; have := HIN.out; have := HZB.out; omega
                  have HNX : Hid (Rx wz GR (genL Z (rnI HP n (i + 1))) ∧ Below GR wr wz) := by
                    have z := rnJ_end HP n i N (by have := HIN.out; omega)
                    rw [show N - 1 = N1 by have := HN1.out; omega, ← HZ.out] at z
                    rw [← z, ← e]
                    exact ⟨HV.out.1, HV.out.2.1⟩
                  clear HV e
                  go_wp2
                  refine ⟨⟨i + 1, by have := HIN.out; omega, by first | rfl | (simp; done), HNX⟩, ?_⟩
                  simp [intOf]
                  have := HIN.out
                  omega
        · obtain rfl : n = i := by omega
          have g1 : ¬ (n : Int) < (n : Int) := Int.lt_irrefl _
          obtain ⟨RN, HRN⟩ : ∃ z : List F, Hid (hdR (shD sn S2 R N) (rowS (fN (sn / 256)) (fN (sn % 256)) X2) A K N n = z) := ⟨_, rfl⟩
          have HRX : Hid (Rx wx GR RN ∧ RN.length = Z) := by
            have z := rnI_end (shD sn S2 R N) (rowS (fN (sn / 256)) (fN (sn % 256)) X2) A K N n (by have := HZB.out; omega)
            rw [HHP.out, show N - 1 = N1 by have := HN1.out; omega, ← HZ.out, HRN.out] at z
            rw [← z]
            exact ⟨HX.out.1, genL_len _ _⟩
          obtain ⟨T2, HT2⟩ : ∃ z, Hid (dealT sn X2 RN N = z) := ⟨_, rfl⟩
          have HSA : Hid (∀ q, q < N1 → T2 (tkN A K q) = T (tkN A K q)) := fun q hq => by
            have z := hides_same sn S2 X2 R N K A (by rw [HXL.out, HSS.out]) HNK.out q (by have := HN1.out; omega)
            rw [HSS.out, ← HNN.out, HRN.out, HT2.out, HTT.out] at z
            exact z
          have HKx : Hid (Bx wx M 25 D2 ∧ Rx wx GX X2 ∧ Below M w wx ∧ Tables wx) := by
            have z := HK8.out wx (HKG.out wx HX.out.2).2
            exact ⟨z.1, z.2.2.2.1, z.2.2.2.2⟩
          have HDe2 : Hid (Calls Tryd.prog 9 #[.int .u16 (sn : Nat), .slice (some ⟨GX, 0, none⟩) s s, .int .i64 (N : Nat), .int .i64 (K : Nat), .slice (some ⟨GR, 0, none⟩) Z Z] wx fun e w' => Hid (∃ t2, e = .returned (.tuple #[.slice (some ⟨t2, 0, none⟩) K K, .int .i64 0]) ∧ wx.heap.size ≤ t2 ∧ Bx w' t2 9 (tcs T2 K) ∧ Below wx.heap.size wx w')) := by
            have z := deal_use sn N K hsn.out X2 RN T2 GX s (.slice (some ⟨GR, 0, none⟩) Z Z) wx (by rw [HXL.out]; exact HS1.out) (by have := HN2.out; omega) (by rw [HRX.out.2, HXL.out, rnd_eq s N Z HS1.out (by have := HN2.out; omega) (by rw [HZ.out, HNN.out, show N - 1 = N1 by have := HN1.out; omega])]) HT2.out HKx.out.2.2.2 (by rw [HXL.out]; exact ⟨Nat.le_refl _, HMF.out.2⟩) HKx.out.2.1 (vf_mk HRX.out.2.symm (Nat.le_refl _) HMZ.out.2 (fun e => by cases e) (.inr ⟨_, _, rfl, HRX.out.1.rw⟩))
            rw [HXL.out] at z
            exact z
          obtain ⟨k0, k1, k2, k3⟩ := HC.out _ HKx.out.1
          have HXZ : Hid (GR < wx.heap.size) := HRX.out.1.lt
          go_upto_region 45 with (first
            | (go_at_call 9; refine HDe2.out.mono ?_; intro e14 w14 hh; obtain ⟨t2, rfl, q1, q2, q3⟩ := hh.out; have H14 : Hid (Bx w14 t2 9 (tcs T2 K) ∧ Below GR wr w14 ∧ Below M w w14) := ⟨q2, HX.out.2.trans (q3.mono (Nat.le_of_lt HXZ.out)), HKx.out.2.2.1.trans (q3.mono (by rw [← HMM.out]; exact HKx.out.2.2.1.size))⟩; clear hh q1 q2 q3)
            | fail)
          clear k0 k1 k2 k3 g1
          go_upto_region 47 with (first
            | (go_at_call 10; refine (H11.out _ _).mono ?_; rintro e1 wn ⟨rfl, hw⟩; obtain rfl := hw.symm; clear hw)
            | fail)
          go_wp2
          go_loopw [30] (fun vt wz => ∃ t : Nat, 1 ≤ t ∧ t ≤ N1 + 1 ∧ vt = .int .i64 (t : Nat) ∧ Hid (Below w14.heap.size w14 wz)) (fun vt _ => N1 + 1 - (intOf vt).toNat)
          case atStart => exact ⟨1, Nat.le_refl _, by omega, rfl, Below.refl _ _⟩
          case round =>
            obtain ⟨t, ht1, htN, rfl, HV⟩ := hrel
            rename World => wz
            have HKZ : Hid (Bx wz t2 9 (tcs T2 K) ∧ Bx wz tg 9 (tcs T K) ∧ Hs wz B n gK cK (PL N1) (.slice (some ⟨gr, 0, none⟩) N1 cr) N1 Ls ∧ Below M w wz) := by
              have hb : Below GR wr wz := H14.out.2.1.trans (HV.out.mono (by rw [← HGR.out]; exact (show Below wr.heap.size wr w14 from by rw [HGR.out]; exact H14.out.2.1).size))
              exact ⟨H14.out.1.below HV.out, (HK8.out wz (HKG.out wz hb).2).2.1, HI.out.1.below (HKG.out wz hb).1, (HK8.out wz (HKG.out wz hb).2).2.2.2.2.1⟩
            by_cases htl : t < N1 + 1
            · have HTN : Hid (t < N1 + 1 ∧ 1 ≤ t) := ⟨htl, ht1⟩
              obtain ⟨q, HQ⟩ : ∃ q, Hid (q + 1 = t) := ⟨t - 1, show _ = _ by omega⟩
              obtain ⟨J, HJ⟩ : ∃ j, Hid (tkN A K q = j) := ⟨_, rfl⟩
              obtain ⟨J1, HJ1⟩ : ∃ j, Hid (j = J + 1) := ⟨J + 1, show _ = _ from rfl⟩
              have HJK : Hid (J < K) := by rw [← HJ.out]; exact tkN_lt A K q (by have := HN2.out; omega)
              obtain ⟨TJ, HTJ⟩ : ∃ z, Hid (T J = z) := ⟨_, rfl⟩
              have c1 : wz.cell? ⟨gK, t, none⟩ = some (.int .u8 (J1 : Nat)) := by
                have z := HKZ.out.2.2.1.kcell t (by rw [HPL.out.2.1]; exact htl)
                rw [HPL.out.2.2.2 N1 t htl, ← HQ.out] at z
                have e : (ptF A K (q + 1)).1 = J1 := by
                  show (fN (tkN A K q + 1)).1 = J1
                  rw [HJ.out, HJ1.out]
                  exact fN_val _ (by have := HJK.out; have := HN2.out; omega)
                rw [e, HQ.out] at z
                exact z
              have c2 : wz.cell? ⟨t2, J, none⟩ = some (.string TJ) := by
                have z := HKZ.out.1.cell J _ (tcs_at T2 K J HJK.out)
                have e : T2 J = TJ := by rw [← HTJ.out, ← HJ.out]; exact HSA.out q (by have := HQ.out; omega)
                rw [e] at z
                exact z
              have c3 : wz.cell? ⟨tg, J, none⟩ = some (.string TJ) := by
                have z := HKZ.out.2.1.cell J _ (tcs_at T K J HJK.out)
                rw [HTJ.out] at z
                exact z
              have y1 : IntKind.i64.wrap ((J1 : Nat) : Int) = (J1 : Int) := by rw [IntKind.wrap_i64]; have := HJ1.out; have := HJK.out; have := HN2.out; omega
              have y2 : IntKind.i64.wrap ((J1 : Int) - 1) = (J : Int) := by rw [IntKind.wrap_i64]; have := HJ1.out; have := HJK.out; have := HN2.out; omega
              have y4 : IntKind.i64.wrap ((t : Int) + 1) = ((t + 1 : Nat) : Int) := by rw [IntKind.wrap_i64]; have := HTN.out; have := HZB.out; omega
              have g1 : (t : Int) < ((N1 + 1 : Nat) : Int) := by omega
              have g1b : (t : Int) < (N1 : Int) + 1 := by omega
              have g2 : (0 : Int) ≤ (t : Int) := by omega
              have g3 : (0 : Int) ≤ (J : Int) := by omega
              have g4 : (J : Int) < (K : Int) := by have := HJK.out; omega
              have HNX : Hid (∀ k, Below w14.heap.size w14 (wz.drewN k)) := fun k => below_drewN0 HV.out k
              clear HV HKZ ht1 htN htl
              go_upto_region 50 with fail
              go_quiet (fail)
              go_wp2
              refine ⟨⟨t + 1, by omega, by have := HTN.out; omega, by first | rfl | (simp; done), HNX.out _⟩, ?_⟩
              simp [intOf]
              have := HTN.out
              omega
            · obtain rfl : t = N1 + 1 := by omega
              have g1 : ¬ ((N1 + 1 : Nat) : Int) < ((N1 + 1 : Nat) : Int) := Int.lt_irrefl _
              have g1b : ¬ (N1 : Int) + 1 < (N1 : Int) + 1 := Int.lt_irrefl _
              have HE : Hid (Below M w wz) := HKZ.out.2.2.2
              clear HV HKZ
              go_wp2
              go_ret
              exact ⟨rfl, HE.out⟩
end Go.Proofs.YtinmhgackihakaaDoor
namespace Go.Proofs.YtinmhgackihakaaDoor
open Go.ChangeShapes Go.WideShapes Go.ChangeAt Go.RowKit

theorem own : ownKnob Tryd.prog.godebug = none := by kernel_rfl
theorem laidOut : laidOutB Tryd.prog = true := by kernel_rfl
theorem cells5 : Tryd.prog.cellsOf 5 = 1 := by kernel_rfl
theorem bytes5 : Tryd.prog.bytesOf 5 = 1 := by kernel_rfl

/-- What came in as a list of bytes. -/
theorem open_bytes {H : Type} {enc : TypeId × Value → H} {W : World} {a : Option Addr} {len cap : Nat} {d : DataW H} {p : List MemPlace}
    (h : DataW.Trod enc Tryd.prog W 0 (fun _ => true) true 23 (.slice a len cap) d p) :
    ∃ xs : List Int, xs.length = len ∧ AllBytes xs ∧ View W (.slice a len cap) xs ∧ (d = .nil ∧ xs = [] ∨ ∃ sp, d = .slice (lits .u8 xs) sp) := by
  obtain ⟨fuel, hf⟩ := h
  rcases open_ints Tryd.underlying23 Tryd.underlying5 cells5 hf with ⟨hcs, hx⟩ | ⟨x, l, c, zs, hcs, _, hl, hm, hz, hx, hcell, hwz⟩
  · simp [Value.cells] at hcs
    obtain ⟨rfl, rfl, rfl⟩ := hcs
    simp only [Prod.mk.injEq] at hx
    refine ⟨[], rfl, fun i => by simp, ⟨none, 0, rfl, Nat.le_refl _, by simp, fun _ => rfl, .inl rfl⟩, .inl ⟨hx.1, rfl⟩⟩
  · simp [Value.cells] at hcs
    obtain ⟨rfl, rfl, rfl⟩ := hcs
    simp only [Prod.mk.injEq] at hx
    have hzl : zs.length = cap := by simpa using hz
    have hlen : (zs.take len).length = len := by simp; omega
    have hw : ∀ n ∈ zs, 0 ≤ n ∧ n < 256 := by
      intro n hn
      have := hwz n hn
      have h1 : IntKind.u8.min = 0 := rfl
      have h2 : IntKind.u8.max = 255 := rfl
      simp only [Lit.wf, Bool.and_eq_true, decide_eq_true_eq] at this
      omega
    refine ⟨zs.take len, hlen, ?_, ⟨some x, cap, by rw [hlen], by omega, hm, (fun h => by cases h), ?_⟩, .inr ⟨_, hx.1⟩⟩
    · intro i
      rw [List.getD_eq_getElem?_getD]
      cases hg : (zs.take len)[i]? with
      | none => simp
      | some n =>
        have hn : n ∈ zs := List.mem_of_mem_take (List.mem_of_getElem? hg)
        simpa using hw n hn
    · by_cases h0 : len = 0
      · left
        subst h0
        simp
      · right
        obtain ⟨b, off, spot⟩ := x
        have hc0 := hcell 0 (by omega)
        have hspot : spot = none := by simpa [Addr.add] using World.cell?_spot hc0
        subst hspot
        refine ⟨b, off, rfl, fun i hi => ?_⟩
        rw [hlen] at hi
        have := hcell i (by omega)
        rw [Addr.add_lit] at this
        rw [this]
        congr 2
        simp [List.getD_eq_getElem?_getD, hi]

/-- The reach of it. -/
theorem reach_bytes {H : Type} {ts : List TypeId} {ds : List (DataW H)} (hsz : (DataW.weightsEach Tryd.prog ts ds).all (· ≤ reachBytes) = true) {j : Nat} {d : DataW H} {xs : List Int}
    (ht : ts[j]? = some 23) (hd : ds[j]? = some d) (h : d = .nil ∧ xs = [] ∨ ∃ sp, d = .slice (lits .u8 xs) sp) : xs.length ≤ 140737488351232 := by
  rcases h with ⟨_, rfl⟩ | ⟨sp, rfl⟩
  · simp
  · have := sized_slice hsz (j := j) (t := 23) (e := 5) ht hd Tryd.underlying23
    rw [bytes5] at this
    simp only [lits, List.length_map, reachBytes] at this
    omega
end Go.Proofs.YtinmhgackihakaaDoor
namespace Go.Proofs.YtinmhgackihakaaDoor
open Go.ChangeShapes Go.WideShapes Go.ChangeAt Go.RowKit
set_option linter.unusedVariables false

theorem cells3 : Tryd.prog.cellsOf 3 = 1 := by kernel_rfl
theorem cells23 : Tryd.prog.cellsOf 23 = 1 := by kernel_rfl
theorem array5 {α : Type} {cs : Array α} (h : cs.size = 5) : ∃ c0 c1 c2 c3 c4, cs = #[c0, c1, c2, c3, c4] := by
  obtain ⟨l⟩ := cs
  match l, h with
  | [c0, c1, c2, c3, c4], _ => exact ⟨c0, c1, c2, c3, c4, rfl⟩
set_option maxRecDepth 100000 in
/-- An int's cell. -/
theorem cell_int {H : Type} {enc : TypeId × Value → H} {W : World} {n : Nat} {c : Value} {y : DataW H × List MemPlace} (h : DataW.trod enc Tryd.prog W 0 (fun _ => true) true n 3 [c] = some y) : ∃ z, c = .int .i64 z := by
  obtain ⟨z, hz, _⟩ := DataW.trod_int Tryd.underlying3 h
  exact ⟨z, by simpa using hz⟩
theorem cell_bytes {H : Type} {enc : TypeId × Value → H} {W : World} {n : Nat} {c : Value} {y : DataW H × List MemPlace} (h : DataW.trod enc Tryd.prog W 0 (fun _ => true) true n 23 [c] = some y) : ∃ a l cap xs, c = .slice a l cap ∧ View W (.slice a l cap) xs := by
  have hc : ∃ a l cap, c = .slice a l cap := by
    rcases open_ints Tryd.underlying23 Tryd.underlying5 cells5 h with ⟨hcs, _⟩ | ⟨a, l, cap, zs, hcs, _⟩
    · exact ⟨none, 0, 0, by simpa using hcs⟩
    · exact ⟨some a, l, cap, by simpa using hcs⟩
  obtain ⟨a, l, cap, rfl⟩ := hc
  obtain ⟨xs, _, _, hv, _⟩ := open_bytes (enc := enc) (W := W) (a := a) (len := l) (cap := cap) (d := y.1) (p := y.2) ⟨n, by simpa [Value.cells] using h⟩
  exact ⟨a, l, cap, xs, rfl, hv⟩
/-- Bytes in a cell, all bytes. -/
theorem cell_bytesF {H : Type} {enc : TypeId × Value → H} {W : World} {n : Nat} {c : Value} {y : DataW H × List MemPlace} (h : DataW.trod enc Tryd.prog W 0 (fun _ => true) true n 23 [c] = some y) : ∃ a l cap xs, c = .slice a l cap ∧ AllBytes xs ∧ View W (.slice a l cap) xs := by
  have hc : ∃ a l cap, c = .slice a l cap := by
    rcases open_ints Tryd.underlying23 Tryd.underlying5 cells5 h with ⟨hcs, _⟩ | ⟨a, l, cap, zs, hcs, _⟩
    · exact ⟨none, 0, 0, by simpa using hcs⟩
    · exact ⟨some a, l, cap, by simpa using hcs⟩
  obtain ⟨a, l, cap, rfl⟩ := hc
  obtain ⟨xs, _, hb, hv, _⟩ := open_bytes (enc := enc) (W := W) (a := a) (len := l) (cap := cap) (d := y.1) (p := y.2) ⟨n, by simpa [Value.cells] using h⟩
  exact ⟨a, l, cap, xs, rfl, hb, hv⟩
theorem cell_u16 {H : Type} {enc : TypeId × Value → H} {W : World} {n : Nat} {c : Value} {y : DataW H × List MemPlace} (h : DataW.trod enc Tryd.prog W 0 (fun _ => true) true n 22 [c] = some y) : ∃ z : Nat, c = .int .u16 (z : Nat) ∧ z < 65536 := by
  obtain ⟨z, hz, _, hw⟩ := DataW.trod_int Tryd.underlying22 h
  simp [Lit.wf, IntKind.min, IntKind.max, IntKind.signed, IntKind.bits] at hw
  have e : c = .int .u16 z := by simpa using hz
  exact ⟨z.toNat, by rw [e]; congr 1; omega, by omega⟩
theorem cell_bool {H : Type} {enc : TypeId × Value → H} {W : World} {n : Nat} {c : Value} {y : DataW H × List MemPlace} (h : DataW.trod enc Tryd.prog W 0 (fun _ => true) true n 4 [c] = some y) : ∃ b, c = .bool b := by
  obtain ⟨z, hz, _⟩ := DataW.trod_bool Tryd.underlying4 h
  exact ⟨z, by simpa using hz⟩
theorem array6 {α : Type} {cs : Array α} (h : cs.size = 6) : ∃ c0 c1 c2 c3 c4 c5, cs = #[c0, c1, c2, c3, c4, c5] := by
  obtain ⟨l⟩ := cs
  match l, h with
  | [c0, c1, c2, c3, c4, c5], _ => exact ⟨c0, c1, c2, c3, c4, c5, rfl⟩
theorem zi_of (xs : List Int) (h : AllBytes xs) : ∃ l : List F, zi l = xs := by
  refine ⟨xs.map fI, ?_⟩
  unfold zi
  rw [List.map_map]
  refine (List.map_congr_left fun x hx => ?_).trans (List.map_id _)
  obtain ⟨i, hi, rfl⟩ := List.mem_iff_getElem.1 hx
  have q := h i
  rw [List.getD_eq_getElem?_getD, List.getElem?_eq_getElem hi] at q
  simp only [Option.getD_some] at q
  show ((xs[i].toNat % 256 : Nat) : Int) = _
  simp only [id_eq]
  omega
theorem cells25s : Tryd.prog.cellsOf 25 = 6 := by kernel_rfl
theorem cells22s : Tryd.prog.cellsOf 22 = 1 := by kernel_rfl
theorem cells4s : Tryd.prog.cellsOf 4 = 1 := by kernel_rfl
set_option maxRecDepth 100000 in
/-- A Deal that came in. -/
theorem open_deal {H : Type} {enc : TypeId × Value → H} {W : World} {r : Reach} {b0 : Nat} {v : Value} {d : DataW H} {p : List MemPlace} (hv : Value.okWide Tryd.prog W r b0 25 v) (h : DataW.Trod enc Tryd.prog W 0 (fun _ => true) true 25 v d p) :
    ∃ (sn : Nat) (nd ct : Int) (own : Bool) (sa ra : Option Addr) (sl sc rl rc : Nat) (S R : List F), sn < 65536 ∧ v = .agg #[.int .u16 (sn : Nat), .slice sa sl sc, .int .i64 nd, .int .i64 ct, .bool own, .slice ra rl rc] ∧ Vf W (.slice sa sl sc) S ∧ Vf W (.slice ra rl rc) R := by
  obtain ⟨cs, rfl, hsz⟩ := okWide_struct Tryd.underlying25 hv
  obtain ⟨c0, c1, c2, c3, c4, c5, rfl⟩ := array6 (hsz.trans cells25s)
  obtain ⟨fuel, hf⟩ := h
  obtain ⟨xs, n, _, hx, _, hlen, hfs⟩ := DataW.trod_struct Tryd.underlying25 hf
  match xs, hlen with
  | [y0, y1, y2, y3, y4, y5], _ =>
    have h0 := hfs 0 _ rfl
    have h1 := hfs 1 _ rfl
    have h2 := hfs 2 _ rfl
    have h3 := hfs 3 _ rfl
    have h4 := hfs 4 _ rfl
    have h5 := hfs 5 _ rfl
    simp [Value.cells, cells3, cells23, cells22s, cells4s] at h0 h1 h2 h3 h4 h5
    obtain ⟨sn, rfl, hsn⟩ := cell_u16 h0
    obtain ⟨sa, sl, sc, S, rfl, bS, vS⟩ := cell_bytesF h1
    obtain ⟨nd, rfl⟩ := cell_int h2
    obtain ⟨ct, rfl⟩ := cell_int h3
    obtain ⟨own, rfl⟩ := cell_bool h4
    obtain ⟨ra, rl, rc, R, rfl, bR, vR⟩ := cell_bytesF h5
    obtain ⟨S', rfl⟩ := zi_of S bS
    obtain ⟨R', rfl⟩ := zi_of R bR
    exact ⟨sn, nd, ct, own, sa, ra, sl, sc, rl, rc, S', R', hsn, rfl, vS, vR⟩
end Go.Proofs.YtinmhgackihakaaDoor
namespace Go.Proofs.YtinmhgackihakaaDoor
open Go.ChangeShapes Go.WideShapes Go.ChangeAt Go.RowKit
set_option linter.unusedVariables false
/-- A block that holds a table. -/
def refilled2 (zs : List Int) : Obj → Obj
  | .cells _ t frozen => .cells (zs.map (Value.int .u64)).toArray t frozen
  | o => o
/-- The tables, as the row lays them. -/
theorem tables_of {W : World} (h : laidMet Tryd.prog [("coffer/digest.roots", Lib.tabData .u64 rootsL), ("coffer/digest.cubes", Lib.tabData .u64 cubesL)] W) : Tables W := by
  have hr : Lib.TabIs Tryd.prog W "coffer/digest.roots" .u64 rootsL := Lib.tabIs_of_head (g := 0) (t := 150) (e := 112) (n := 16) (by kernel_rfl) (by kernel_rfl) (by kernel_rfl) (by kernel_rfl) (by kernel_rfl) (by kernel_rfl) h
  have hc : Lib.TabIs Tryd.prog W "coffer/digest.cubes" .u64 cubesL := by
    obtain ⟨ps, ⟨g1, t1, cs1, fuel1, p1, q1, _, _, _, _, hrest, _⟩, _⟩ := h
    obtain ⟨g', t', cs, fuel, p, q, hg', ht', hvar, hd, _, _⟩ := hrest
    have hg : Tryd.prog.globalNamed "coffer/digest.cubes" = some 1 := by kernel_rfl
    obtain rfl := Option.some.inj (hg.symm.trans hg')
    have hty : (Tryd.prog.globals[1]?).map (·.type) = some 146 := by kernel_rfl
    obtain rfl := Option.some.inj (hty.symm.trans ht')
    unfold Lib.TabIs
    rw [hvar, ← Lib.cells_of_tab (n := 80) (e := 112) (by kernel_rfl) (by kernel_rfl) (by kernel_rfl) (by kernel_rfl) hd]
  exact ⟨fun t ht => hc.cell (by kernel_rfl) t (by simpa [cubesL] using ht), fun t ht => hr.cell (by kernel_rfl) t (by simpa [rootsL] using ht)⟩
end Go.Proofs.YtinmhgackihakaaDoor
