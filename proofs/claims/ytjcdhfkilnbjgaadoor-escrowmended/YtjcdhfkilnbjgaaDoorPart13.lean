import Derived.Test.YtjcdhfkilnbjgaaDoorPart12
import Derived.Test.YtjcdhfkilnbjgaaDoorPart11
import Derived.Deep.DeepAppendWide
import Derived.Laws.IdiomCopy
import Derived.Test.YtjcdhfkilnbjgaaDoorRows
import Derived.Test.YtjcdhfkilnbjgaaDoorPart05
import Derived.ProofKit
import Derived.OpenShut
import Derived.ShutString
import Derived.ChangeOld
import Derived.Below
import Derived.SizedLaws
import Derived.Lib.LaidTab
import Derived.Deep.DeepHandedRow
namespace Go.Proofs.YtjcdhfkilnbjgaaDoor
open Go.RowKit
set_option linter.unusedVariables false
set_option linter.unusedSimpArgs false
set_option maxRecDepth 100000
theorem cyc_inj {a c n i j : Nat} (hn : n ≤ c) (hi : i < n) (hj : j < n) (h : (a + i) % c = (a + j) % c) : i = j := by
  have h1 := Nat.sub_mod_eq_zero_of_mod_eq h
  have h2 := Nat.sub_mod_eq_zero_of_mod_eq h.symm
  rw [show a + i - (a + j) = i - j by omega, Nat.mod_eq_of_lt (show i - j < c by omega)] at h1
  rw [show a + j - (a + i) = j - i by omega, Nat.mod_eq_of_lt (show j - i < c by omega)] at h2
  omega
/-- As many as the unlike numbers among them. -/
theorem some_on {z : Shg} {T : Nat → ByteArray} (hz : z.ok) (hT : ∀ i, i < 255 → MGood (T i) (z.at' (fN (i + 1))) 0) (n m : Nat) (f g : Nat → Nat) (hf : ∀ i, i < n → f i < 255) (hg : ∀ i, i < m → ∃ k, k < n ∧ f k = g i) (hi : ∀ i j, i < m → j < m → g i = g j → i = j) :
    m ≤ onN (fun i => gR (T (f i))) n := by
  have hl : ((List.range m).map fun i => g i + 1).length = m := by simp
  have hnd : ((List.range m).map fun i => g i + 1).Nodup := by
    unfold List.Nodup
    rw [List.pairwise_iff_getElem]
    intro i j hi' hj' hij e
    simp only [List.getElem_map, List.getElem_range] at e
    rw [hl] at hi' hj'
    have := hi i j hi' hj' (by omega)
    omega
  have z := onN_ge (R := fun i => gR (T (f i))) (n := n) _ hnd fun j hj => by
    obtain ⟨i, hi1, rfl⟩ := List.mem_map.1 hj
    obtain ⟨k, hk, e⟩ := hg i (List.mem_range.1 hi1)
    have h1 := lns_on hz hT n f hf k hk
    have h2 := hf k hk
    exact ⟨by omega, by omega, k, hk, by rw [h1, e]⟩
  rw [hl] at z
  exact z
/-- Shares that follow one another, round and round. -/
theorem cyc_on {z : Shg} {T : Nat → ByteArray} (hz : z.ok) (hT : ∀ i, i < 255 → MGood (T i) (z.at' (fN (i + 1))) 0) (a c n : Nat) (hn : n ≤ c) (hc : c ≤ 255) (h0 : 0 < c) : n ≤ onN (fun i => gR (T ((a + i) % c))) n :=
  some_on hz hT n n (fun i => (a + i) % c) (fun i => (a + i) % c) (fun i _ => Nat.lt_of_lt_of_le (Nat.mod_lt _ h0) hc) (fun i hi => ⟨i, hi, rfl⟩) fun i j hi hj h => cyc_inj hn hi hj h
/-- The lines that go round, without the first, one more behind them, the first. -/
def rndF2 (a c n x : Nat) : Nat → Nat := fun i => if i + 1 < n then (a + (i + 1)) % c else if i + 1 = n then x else (a + 0) % c
theorem rnd_on {z : Shg} {T : Nat → ByteArray} (hz : z.ok) (hT : ∀ i, i < 255 → MGood (T i) (z.at' (fN (i + 1))) 0) (a c n x : Nat) (hn : n ≤ c) (hc : c ≤ 255) (h0 : 0 < c) (h1 : 1 ≤ n) (hx : x < 255) : n ≤ onN (fun i => gR (T (rndF2 a c n x i))) (n + 1) := by
  have hf : ∀ i, rndF2 a c n x i < 255 := fun i => by
    have hm : ∀ q, q % c < 255 := fun q => Nat.lt_of_lt_of_le (Nat.mod_lt _ h0) hc
    unfold rndF2
    split
    · exact hm _
    · split
      · exact hx
      · exact hm _
  refine some_on hz hT (n + 1) n _ (fun i => (a + i) % c) (fun i _ => hf i) (fun i hi => ?_) fun i j hi hj h => cyc_inj hn hi hj h
  by_cases hz0 : i = 0
  · subst hz0
    exact ⟨n, by omega, by unfold rndF2; rw [if_neg (by omega), if_neg (by omega)]⟩
  · refine ⟨i - 1, by omega, ?_⟩
    unfold rndF2
    rw [if_pos (by omega), show i - 1 + 1 = i by omega]
/-- The lines of Deal are good. -/
theorem deal_good_at (sn : Nat) (l R : List F) (nd : Nat) (h1 : 1 ≤ l.length) (h2 : l.length ≤ 64) (h3 : 1 ≤ nd) (h4 : nd ≤ 16) : ∀ i, i < 255 → MGood (dealT sn l R nd i) ((shD sn l R nd).at' (fN (i + 1))) 0 := fun i hi => by
  rw [dealT_at sn l R nd i h4]
  exact Shg.good (shD_ok sn l R nd h1 h2 h3 h4) _ (by rw [fN_val _ (by omega)]; omega)
end Go.Proofs.YtjcdhfkilnbjgaaDoor
namespace Go.Proofs.YtjcdhfkilnbjgaaDoor
open Go.RowKit
set_option linter.unusedVariables false
set_option linter.unusedSimpArgs false
set_option maxRecDepth 100000
theorem own_more {w : World} {B i : Nat} {v : Value} {TT : Nat → ByteArray} {t : ByteArray} (h : w.ownsRow B 9 1 v (i + 1) (tcs TT i ++ [.string t])) (e : TT i = t) : w.ownsRow B 9 1 v (i + 1) (tcs TT (i + 1)) := by rw [tcs_succ, e]; exact h
theorem ext_use (x : Nat) (X : F) (hX : X.1 = x) (hx : 1 ≤ x) (z : Shg) (T : Nat → ByteArray) (f : Nat → Nat) (n mg mc : Nat) (w : World) (hz : z.ok) (hT : ∀ i, i < 255 → MGood (T i) (z.at' (fN (i + 1))) 0) (hf : ∀ i, i < n → f i < 255) (hn : n ≤ 100000) (hc : ∀ k, k < n → w.cell? ⟨mg, k, none⟩ = some (.string (T (f k)))) (hTb : Tables w) (hon : z.bn.1 ≤ onN (fun i => gR (T (f i))) n) (TX : ByteArray) (hTX : WLs (z.at' X) = TX) :
    Calls Tryd.prog 16 #[.int .i64 (x : Nat), .slice (some ⟨mg, 0, none⟩) n mc] w fun e w' => Hid (e = .returned (.tuple #[.string TX, .int .i64 0]) ∧ Below w.heap.size w w') := by
  subst hX
  have z2 := Extend_ok (X.1 : Int) (some ⟨mg, 0, none⟩) n mc (fun k => T (f k)) w hn (show ∀ k, k < n → _ from fun k hk => ⟨mg, 0, rfl, by rw [Nat.zero_add]; exact hc k hk⟩) hTb
  refine z2.mono fun e w' hh => ?_
  have q := (lns_of hz hT n f hf).ext hon X hx hh
  rw [hTX] at q
  exact q
/-- Deal of a secret that may be shared, with as many random bytes as it takes. -/
theorem deal_use (sn N W : Nat) (hsn : sn < 65536) (S2 R : List F) (T : Nat → ByteArray) (g c : Nat) (v : Value) (u : World) (hS : 1 ≤ S2.length ∧ S2.length ≤ 64) (hN : 1 ≤ N ∧ N ≤ 16 ∧ N ≤ W ∧ W ≤ 255) (hR : (R.length : Int) = rnd (N : Nat) (S2.length : Nat)) (hT : dealT sn S2 R N = T) (hTb : Tables u) (hc : S2.length ≤ c ∧ c ≤ maxLen) (hx : Rx u g S2) (hv : Vf u v R) :
    Calls Tryd.prog 12 #[.int .u16 (sn : Nat), .slice (some ⟨g, 0, none⟩) S2.length c, .int .i64 (N : Nat), .int .i64 (W : Nat), v] u fun e w' => Hid (∃ tg, e = .returned (.tuple #[.slice (some ⟨tg, 0, none⟩) W W, .int .i64 0]) ∧ u.heap.size ≤ tg ∧ Bx w' tg 9 (tcs T W) ∧ Below u.heap.size u w') := by
  have hvs : Vf u (.slice (some ⟨g, 0, none⟩) S2.length c) S2 := vf_mk rfl hc.1 hc.2 (fun e => by cases e) (.inr ⟨_, _, rfl, hx.rw⟩)
  have z := deal_any sn hsn (N : Nat) (W : Nat) _ v S2 R u hTb hvs hv
  have hm : mayN S2.length (N : Nat) (W : Nat) = 0 := by
    unfold mayN
    rw [if_pos (by omega), if_pos (by omega)]
  have hE : dealE S2.length (N : Nat) (W : Nat) R.length = 0 := by
    unfold dealE
    rw [if_neg (by rw [hm]; simp), if_neg (by rw [hR]; simp)]
  have hC : dealC S2.length (N : Nat) (W : Nat) R.length = W := by
    unfold dealC
    rw [if_pos hE]
    rfl
  rw [hE, hC, show ((N : Nat) : Int).toNat = N from rfl, hT] at z
  refine z.mono ?_
  rintro e w' ⟨v', rfl, h1, h2⟩
  rcases h1 with ⟨h0, _⟩ | ⟨tg, rfl, h3, h4⟩
  · exact absurd h0 (by omega)
  · exact ⟨tg, rfl, h3, h4, h2⟩
theorem rnd5_len (Rd : List F) (nd s : Int) : ((rnd5 false Rd nd s).length : Int) = rnd nd s := by
  unfold rnd5
  rw [if_neg (by decide), rndL_len]
  obtain ⟨z, hz, _⟩ := rnd_few nd s
  rw [hz]
  simp
/-- Join of shares of one sharing, as many as are needed. -/
theorem join_use (z : Shg) (T : Nat → ByteArray) (f : Nat → Nat) (n jg jo jc : Nat) (w : World) (hz : z.ok) (hT : ∀ i, i < 255 → MGood (T i) (z.at' (fN (i + 1))) 0) (hf : ∀ i, i < n → f i < 255) (hn : n ≤ 100000) (hc : ∀ k, k < n → w.cell? ⟨jg, jo + k, none⟩ = some (.string (T (f k)))) (hTb : Tables w) (hon : z.bn.1 ≤ onN (fun i => gR (T (f i))) n) :
    Calls Tryd.prog 10 #[.slice (some ⟨jg, jo, none⟩) n jc] w fun e w' => Hid (∃ b, e = .returned (.tuple #[.slice (some ⟨b, 0, none⟩) z.l.length z.l.length, .int .i64 0]) ∧ w.heap.size ≤ b ∧ Bx w' b 5 (fc z.l) ∧ Below w.heap.size w w') := by
  refine (Join_ok (some ⟨jg, jo, none⟩) n jc (fun k => T (f k)) w hn (show ∀ k, k < n → _ from fun k hk => ⟨jg, jo, rfl, hc k hk⟩) hTb).mono fun e w' hh => ?_
  obtain ⟨b, h1, h2, h3, h4⟩ := (lns_of hz hT n f hf).join hon hh
  exact ⟨b, h1, h2, h3, h4⟩
end Go.Proofs.YtjcdhfkilnbjgaaDoor
namespace Go.Proofs.YtjcdhfkilnbjgaaDoor
open Go.RowKit
set_option linter.unusedVariables false
set_option linter.unusedSimpArgs false
set_option maxRecDepth 100000
/-- The lines without the first, with two behind them. -/
def app2 (TT : Nat → ByteArray) (i : Nat) (t1 t2 : ByteArray) (k : Nat) : ByteArray := if k + 1 < i then TT (k + 1) else if k + 1 = i then t1 else t2
theorem app2_list (TT : Nat → ByteArray) (i : Nat) (t1 t2 : ByteArray) (h : 1 ≤ i) : (List.range (i - 1)).map (fun k => Value.string (TT (k + 1))) ++ [.string t1, .string t2] = tcs (app2 TT i t1 t2) (i + 1) := by
  refine List.ext_getElem? fun k => ?_
  by_cases hk : k < i + 1
  · rw [tcs_at _ _ _ hk]
    by_cases h1 : k < i - 1
    · rw [List.getElem?_append_left (by simpa using h1), List.getElem?_map, List.getElem?_range h1]
      unfold app2
      rw [if_pos (by omega)]
      rfl
    · rw [List.getElem?_append_right (by simp; omega)]
      simp only [List.length_map, List.length_range]
      unfold app2
      rw [if_neg (by omega)]
      by_cases h2 : k + 1 = i
      · rw [if_pos h2, show k - (i - 1) = 0 by omega]; rfl
      · rw [if_neg h2, show k - (i - 1) = 1 by omega]; rfl
  · rw [List.getElem?_eq_none (by simp; omega), List.getElem?_eq_none (by rw [tcs_len]; omega)]
theorem rnd_lt (a c n x k : Nat) (h0 : 0 < c) (hc : c ≤ 255) (hx : x < 255) : rndF2 a c n x k < 255 := by
  have hm : ∀ q, q % c < 255 := fun q => Nat.lt_of_lt_of_le (Nat.mod_lt _ h0) hc
  unfold rndF2
  split
  · exact hm _
  · split
    · exact hx
    · exact hm _
theorem app2_T (T : Nat → ByteArray) (A K i XM k : Nat) : app2 (fun q => T ((A + q) % K)) i (T XM) (T ((A + 0) % K)) k = T (rndF2 A K i XM k) := by
  unfold app2 rndF2
  split
  · rfl
  · split <;> rfl
/-- append onto all strings but the first. -/
theorem app2_run (W : World) (mg i mc sb ty : Nat) (ao : Option Addr) (cur : List Value) (t1 t2 : ByteArray) (TT : Nat → ByteArray) (hM : Bx W mg 9 cur) (hcl : cur.length = mc) (hi : 1 ≤ i ∧ i ≤ 16) (hic : i ≤ mc) (hc : ∀ k, k < i → W.cell? ⟨mg, k, none⟩ = some (.string (TT k))) (hao : ∃ a, ao = some a ∧ (1 < mc → a = ⟨mg, 1, none⟩)) (hsb : Bx W sb 9 [.string t1, .string t2]) :
    ∃ w' jg jo jc, (Builtin.append_ #[26, 26] ty #[.slice ao (i - 1) (mc - 1), .slice (some ⟨sb, 0, none⟩) 2 2]).run Tryd.prog W = .ok (.slice (some ⟨jg, jo, none⟩) (i + 1) jc) w' ∧
      (∀ k, k < i + 1 → w'.cell? ⟨jg, jo + k, none⟩ = some (.string (app2 TT i t1 t2 k))) ∧ (∀ b, b < W.heap.size → b ≠ mg → w'.heap[b]? = W.heap[b]?) ∧ Below mg W w' ∧ ∀ k, k < i → w'.cell? ⟨mg, k, none⟩ = some (.string (TT k)) := by
  obtain ⟨i9, hi9, hz9, hs9, hb9⟩ := info_parts Tryd.infoT9
  have hu26 : Tryd.prog.underlying 26 = some (.slice 9) := by kernel_rfl
  have hsrc : Src Tryd.prog i9.size 26 (.slice (some ⟨sb, 0, none⟩) 2 2) 2 [.string t1, .string t2] W := Src.ofSlice W hu26 ⟨sb, 0, none⟩ 2 2 _ (by simp [hs9]) (fun j u hu => by
    have z := hsb.cell j u hu
    rw [Addr.add_lit, Nat.zero_add]
    exact z) (by intro u hu; simp at hu; rcases hu with rfl | rfl <;> rfl)
  obtain ⟨a, rfl, ha⟩ := hao
  by_cases hroom : i + 2 ≤ mc
  · have e := ha (by omega)
    subst e
    have hin : ∀ j, j < mc → (W.cell? ⟨mg, j, none⟩).isSome = true := fun j hj => by
      rw [hM.cell j _ (List.getElem?_eq_getElem (by omega))]; rfl
    have z := run_append_room_src (P := Tryd.prog) (w := W) 26 26 ty 9 i9 hu26 hi9 mg 1 (i - 1) (mc - 1) _ 2 _ hsrc (by omega) (fun j hj => hin _ (by simp [hs9] at hj ⊢; omega)) (fun j hj => hM.frozen _)
    rw [hs9, show 1 + (i - 1) * 1 = i by omega, show i - 1 + 2 = i + 1 by omega] at z
    have hg := setCells_gb mg [Value.string t1, .string t2] i W
    refine ⟨_, mg, 1, mc - 1, z, fun k hk => ?_, fun b hb hne => hg.block b hb (fun e => hne (by injection e)), below_gb hg (Nat.le_of_lt hM.lt) (Nat.le_refl _), fun k hk => (World.cell?_setCells_out mg _ i W _ (fun _ _ => Or.inl hk)).trans (hc k hk)⟩
    by_cases h1 : k + 1 < i
    · rw [World.cell?_setCells_out mg _ i W _ (fun _ _ => Or.inl (by show 1 + k < i; omega)), Nat.add_comm 1 k, hc (k + 1) h1]
      unfold app2
      rw [if_pos h1]
    · have q := World.cell?_setCells_in mg [Value.string t1, .string t2] i W (fun j hj => hin _ (by simp at hj; omega)) (k + 1 - i) (by simp; omega)
      rw [show 1 + k = i + (k + 1 - i) by omega, q]
      unfold app2
      rw [if_neg h1]
      by_cases h2 : k + 1 = i
      · rw [if_pos h2]
        simp only [show k + 1 - i = 0 by omega]
        rfl
      · rw [if_neg h2]
        simp only [show k + 1 - i = 1 by omega]
        rfl
  · have hold : (Builtin.firstCells i9.size (i - 1) (.slice (some a) (i - 1) (mc - 1))).run Tryd.prog W.drew = .ok ((List.range (i - 1)).map (fun k => Value.string (TT (k + 1)))).toArray W.drew := by
      refine run_firstCells_some W.drew i9.size (i - 1) a (i - 1) (mc - 1) _ (by simp [hs9]) fun j v hj => ?_
      have hjl : j < i - 1 := by have := (List.getElem?_eq_some_iff.1 hj).1; simpa using this
      have e := ha (by omega)
      subst e
      rw [List.getElem?_map, List.getElem?_range hjl] at hj
      injection hj with hj
      rw [Addr.add_lit, ← hj, Nat.add_comm 1 j]
      exact hc (j + 1) (by omega)
    have z := run_append_grow_src (P := Tryd.prog) (w := W) 26 26 ty 9 i9 _ hu26 hi9 hz9 (some a) (i - 1) (mc - 1) _ hold _ 2 _ hsrc (by omega) (by omega) (by
      rw [hb9]
      exact growslice_fits_wide (by omega) (by omega))
    rw [show i - 1 + 2 = i + 1 by omega, app2_list TT i t1 t2 hi.1] at z
    refine ⟨_, _, 0, _, z, fun k hk => ?_, fun b hb hne => ?_, ?_, fun k hk => ?_⟩
    · rw [Nat.zero_add, World.cell?_alloc_at (w := W.drew) _ _ _ _ (show W.heap.size = W.drew.heap.size from rfl), Array.getElem?_append_left (by simp [tcs_len]; omega)]
      rw [List.getElem?_toArray, tcs_at _ _ _ hk]
    · exact ((Below.refl W.heap.size W).drew.alloc (Nat.le_refl _) _).block b hb
    · exact ((Below.refl W.heap.size W).drew.alloc (Nat.le_refl _) _).mono (Nat.le_of_lt hM.lt)
    · exact (((Below.refl W.heap.size W).drew.alloc (Nat.le_refl _) _).cell hM.lt).trans (hc k hk)
theorem step_app2 {ops : Array Oper} {o : Oper} {a : Act} {W : World} {K : Act → World → Prop} {Q : Exit → Act → World → Prop} {E : Prop} (hgd : o.guard = none) (s x : Operand) (ho : o.op = .call { callee := .builtin .append, args := #[s, x], argTypes := #[26, 26] })
    (mg i mc sb : Nat) (ao : Option Addr) (cur : List Value) (t1 t2 : ByteArray) (TT : Nat → ByteArray) (hs : a.eval s = .slice ao (i - 1) (mc - 1)) (hx : a.eval x = .slice (some ⟨sb, 0, none⟩) 2 2)
    (hM : Bx W mg 9 cur) (hcl : cur.length = mc) (hi : 1 ≤ i ∧ i ≤ 16) (hic : i ≤ mc) (hc : ∀ k, k < i → W.cell? ⟨mg, k, none⟩ = some (.string (TT k))) (hao : ∃ a, ao = some a ∧ (1 < mc → a = ⟨mg, 1, none⟩)) (hsb : Bx W sb 9 [.string t1, .string t2])
    (h : ∀ w' jg jo jc, Hid ((∀ k, k < i + 1 → w'.cell? ⟨jg, jo + k, none⟩ = some (.string (app2 TT i t1 t2 k))) ∧ (∀ b, b < W.heap.size → b ≠ mg → w'.heap[b]? = W.heap[b]?) ∧ Below mg W w' ∧ ∀ k, k < i → w'.cell? ⟨mg, k, none⟩ = some (.string (TT k))) → K (a.put o.dst (.slice (some ⟨jg, jo, none⟩) (i + 1) jc)) w') : if Region.wanted o (yielded ops a.tmps) = true then Oper.wp Tryd.prog o a W K Q else E := by
  have hw : Region.wanted o (yielded ops a.tmps) = true := by simp [Region.wanted, hgd]
  rw [if_pos hw]
  obtain ⟨w', jg, jo, jc, hrun, h2, h3, h4, h5⟩ := app2_run W mg i mc sb o.type ao cur t1 t2 TT hM hcl hi hic hc hao hsb
  unfold Oper.wp
  simp [execOp, ho, resolve, invoke, builtin, hs, hx, hrun, Result.andThen]
  exact h w' jg jo jc ⟨h2, h3, h4, h5⟩
end Go.Proofs.YtjcdhfkilnbjgaaDoor
namespace Go.Proofs.YtjcdhfkilnbjgaaDoor
open Go.RowKit
set_option linter.unusedVariables false
set_option linter.unusedSimpArgs false
set_option maxRecDepth 100000
set_option maxHeartbeats 1600000 in
/-- The law Extends. -/
theorem extends_ok (sn : Nat) (hsn : Hid (sn < 65536)) (nd ct : Int) (own : Bool) (sv : Value) (ra : Option Addr) (rl rc : Nat) (S Rd : List F) (from' : Int) (x : Nat) (hx : Hid (x < 256)) (w : World) (hT : Hid (Tables w)) (h : Hid (Vf w sv S)) (hr : Hid (Vf w (.slice ra rl rc) Rd)) (hone : Hid (sv.oneCell' = true)) :
    Calls Tryd.prog 5 #[.agg #[.int .u16 (sn : Nat), sv, .int .i64 nd, .int .i64 ct, .bool own, .slice ra rl rc], .int .i64 from', .int .u8 (x : Nat)] w fun e w' => e = .returned (.bool true) ∧ Below w.heap.size w w' := by
  obtain ⟨M, HMM⟩ : ∃ M, Hid (w.heap.size = M) := ⟨_, rfl⟩
  obtain ⟨D1, HD1⟩ : ∃ z : List Value, Hid ([.int .u16 (sn : Nat), sv, .int .i64 nd, .int .i64 ct, .bool own, .slice ra rl rc] = z) := ⟨_, rfl⟩
  have hi1 : (Tryd.prog.info? 25).map (·.size) = some D1.length := by rw [← HD1.out]; kernel_rfl
  obtain ⟨w1, hw1⟩ : ∃ u, u = w.alloc (.cells #[.int .u16 (sn : Nat), sv, .int .i64 nd, .int .i64 ct, .bool own, .slice ra rl rc] 25) := ⟨_, rfl⟩
  have H1 : Hid (Bx w1 M 25 D1 ∧ Below M w w1 ∧ M ≤ w1.heap.size) := by
    rw [← HD1.out, ← HMM.out, hw1]
    exact ⟨Bx.new w 25 _, (Below.refl _ _).alloc (Nat.le_refl _) _, by simp⟩
  have HTB : Hid (∀ u, Below M w u → Tables u) := fun u hu => hT.out.below hu (by rw [← HMM.out]; exact hT.out.size)
  have HRV : Hid (∀ u, Below M w u → Vf u (.slice ra rl rc) Rd) := fun u hu => hr.out.below (by rw [HMM.out]; exact hu)
  obtain ⟨S2, HS2⟩ : ∃ z : List F, Hid (sec5 S = z) := ⟨_, rfl⟩
  have HSL : Hid (1 ≤ S2.length ∧ S2.length ≤ 64) := by rw [← HS2.out]; exact sec5_len S
  obtain ⟨N, HN⟩ : ∃ z, Hid (nd5 nd = z) := ⟨_, rfl⟩
  obtain ⟨K, HK⟩ : ∃ z, Hid (ct5 nd ct = z) := ⟨_, rfl⟩
  have HNK : Hid (1 ≤ N ∧ N ≤ 16 ∧ N ≤ K ∧ K ≤ 24) := by rw [← HN.out, ← HK.out]; exact ⟨(nd5_le nd).1, (nd5_le nd).2, (ct5_le nd ct).1, (ct5_le nd ct).2⟩
  obtain ⟨R, HRR⟩ : ∃ z : List F, Hid (rnd5 false Rd (N : Nat) (S2.length : Nat) = z) := ⟨_, rfl⟩
  obtain ⟨T, HTT⟩ : ∃ z, Hid (dealT sn S2 R N = z) := ⟨_, rfl⟩
  have HTG : Hid (∀ i, i < 255 → MGood (T i) ((shD sn S2 R N).at' (fN (i + 1))) 0) := by rw [← HTT.out]; exact deal_good_at sn S2 R N HSL.out.1 HSL.out.2 HNK.out.1 HNK.out.2.1
  have H8 : Hid (Calls Tryd.prog 8 #[.agg D1.toArray] w1 fun e w' => Hid (∃ g c tg, e = .returned (.tuple #[.agg #[.int .u16 (sn : Nat), .slice (some ⟨g, 0, none⟩) S2.length c, .int .i64 (N : Nat), .int .i64 (K : Nat), .bool false, .slice ra rl rc], .slice (some ⟨tg, 0, none⟩) K K, .bool true]) ∧ S2.length ≤ c ∧ c ≤ maxLen ∧ w1.heap.size ≤ g ∧ Rx w' g S2 ∧ w1.heap.size ≤ tg ∧ Bx w' tg 9 (tcs T K) ∧ Below w1.heap.size w1 w')) := by
    have z := dealt_ok sn hsn nd ct own sv ra rl rc S Rd w1 (HTB.out w1 H1.out.2.1) (h.out.below (by rw [HMM.out]; exact H1.out.2.1)) (HRV.out w1 H1.out.2.1)
    rw [HS2.out, HN.out, HK.out, HRR.out, HTT.out] at z
    rw [← HD1.out]
    exact z
  have H9 : Hid (∀ u, Below M w u → Calls Tryd.prog 9 #[] u fun e w' => Hid (e = .returned (.bool true) ∧ Below u.heap.size u w')) := fun u hu => live_ok u (HTB.out u hu)
  have H11 : Hid (∀ x u, Calls Tryd.prog 11 #[.int .i64 x] u fun e w' => e = .returned (.int .i64 x) ∧ w' = u) := fun x u => numE_ok x u
  have HRG := H1.out.1.range
  rw [HMM.out]
  go_enter Tryd.func5, Tryd.ntmps5
  go_upto_region 1 with fail
  rw [← hw1, HMM.out]
  clear hw1
  go_upto_region 2 with (first
    | (refine wpList_load_mid (by rfl) 25 (.tmp 3) (by rfl) M 0 (by rfl) D1 _ HRG Tryd.underlying25 rfl hi1 ?_)
    | (go_at_call 8; refine H8.out.mono ?_; intro e2 w2 hh; obtain ⟨g, c, tg, rfl, q1, q2, q3, q4, q5, q6, q7⟩ := hh.out; have HCP : Hid (S2.length ≤ c ∧ c ≤ maxLen ∧ M ≤ g ∧ M < tg) := ⟨q1, q2, Nat.le_trans H1.out.2.2 q3, Nat.lt_of_lt_of_le H1.out.1.lt q5⟩; have H2 : Hid (Rx w2 g S2 ∧ Bx w2 tg 9 (tcs T K) ∧ Below M w w2 ∧ Bx w2 M 25 D1) := ⟨q4, q6, H1.out.2.1.trans (q7.mono H1.out.2.2), H1.out.1.below q7⟩; clear hh q1 q2 q3 q4 q5 q6 q7)
    | (refine wpList_store_bx (by rfl) 25 (.tmp 3) (.tmp 21) (by rfl) D1 [.int .u16 (sn : Nat), .slice (some ⟨g, 0, none⟩) S2.length c, .int .i64 (N : Nat), .int .i64 (K : Nat), .bool false, .slice ra rl rc] M (by rfl) (by rfl) H2.out.2.2.2 (by rw [← HD1.out]; rfl) (by kernel_rfl) (by intro v hv; simp at hv; rcases hv with rfl | rfl | rfl | rfl | rfl | rfl <;> rfl) ?_; intro w3 h7 h8; have H3 : Hid (Bx w3 M 25 [.int .u16 (sn : Nat), .slice (some ⟨g, 0, none⟩) S2.length c, .int .i64 (N : Nat), .int .i64 (K : Nat), .bool false, .slice ra rl rc] ∧ Rx w3 g S2 ∧ Bx w3 tg 9 (tcs T K) ∧ Below M w w3) := (by
        have hne : ∀ {b t cs}, t ≠ 25 → Bx w2 b t cs → b ≠ M := fun ht hbx e => by
          subst e
          have a1 := H2.out.2.2.2
          unfold Bx at hbx a1
          rw [hbx] at a1
          injection a1 with z
          injection z with _ z _
          exact ht z
        obtain ⟨⟨sp, x1⟩, x2, x3, x4⟩ := H2.out
        exact ⟨h7, ⟨sp, x1.keep (h8.block _ x1.lt (fun e => hne (by decide) x1 (by injection e)))⟩, x2.keep (h8.block _ x2.lt (fun e => hne (by decide) x2 (by injection e))), x3.trans (below_gb h8 (Nat.le_of_lt x4.lt) (Nat.le_refl _))⟩); clear h7 h8)
    | fail)
  clear HRG H8 H2
  obtain ⟨D2, HD2⟩ : ∃ z : List Value, Hid ([.int .u16 (sn : Nat), .slice (some ⟨g, 0, none⟩) S2.length c, .int .i64 (N : Nat), .int .i64 (K : Nat), .bool false, .slice ra rl rc] = z) := ⟨_, rfl⟩
  have hi2 : (Tryd.prog.info? 25).map (·.size) = some D2.length := by rw [← HD2.out]; kernel_rfl
  rw [HD2.out] at H3
  have HC : Hid (∀ u, Bx u M 25 D2 → u.cell? ⟨M, 0, none⟩ = some (.int .u16 (sn : Nat)) ∧ u.cell? ⟨M, 1, none⟩ = some (.slice (some ⟨g, 0, none⟩) S2.length c) ∧ u.cell? ⟨M, 2, none⟩ = some (.int .i64 (N : Nat)) ∧ u.cell? ⟨M, 3, none⟩ = some (.int .i64 (K : Nat))) := fun u hu => by
    rw [← HD2.out] at hu
    exact ⟨hu.cell 0 _ rfl, hu.cell 1 _ rfl, hu.cell 2 _ rfl, hu.cell 3 _ rfl⟩
  have HL9 : Hid (Calls Tryd.prog 9 #[] w3 fun e w' => Hid (e = .returned (.bool true) ∧ Below w3.heap.size w3 w')) := H9.out w3 H3.out.2.2.2
  by_cases hx0 : x = 0
  · subst hx0
    go_upto_region 3 with (first
      | (go_at_call 9; refine HL9.out.mono ?_; intro e4 w4 hh; obtain ⟨rfl, h4⟩ := hh.out; have H4 : Hid (Below M w w4) := H3.out.2.2.2.trans (h4.mono (Nat.le_of_lt H3.out.1.lt)); clear hh h4)
      | fail)
    go_wp2_with (first
      | (go_at_call 9; refine (H9.out w4 H4.out).mono ?_; intro e5 w5 hh; obtain ⟨rfl, h4⟩ := hh.out; have H5 : Hid (Below M w w5) := H4.out.trans (h4.mono (by rw [← HMM.out]; exact H4.out.size)); clear hh h4)
      | fail)
    go_ret
    exact ⟨rfl, H5.out⟩
  have hxb : (((x : Nat) : Int) == 0) = false := by simp; omega
  go_upto_region 4 with (first
    | (go_at_call 9; refine HL9.out.mono ?_; intro e4 w4 hh; obtain ⟨rfl, h4⟩ := hh.out; have H4 : Hid (Bx w4 M 25 D2 ∧ Rx w4 g S2 ∧ Bx w4 tg 9 (tcs T K) ∧ Below M w w4) := ⟨H3.out.1.below h4, H3.out.2.1.below h4, H3.out.2.2.1.below h4, H3.out.2.2.2.trans (h4.mono (Nat.le_of_lt H3.out.1.lt))⟩; clear hh h4)
    | fail)
  clear HL9 H3
  try rw [hxb]
  clear hxb
  obtain ⟨i9, hi9, hz9, hs9, hb9⟩ := info_parts Tryd.infoT9
  have HI9 : Hid (Tryd.prog.info? 9 = some i9 ∧ i9.zero = some (.string ⟨#[]⟩) ∧ i9.size = 1 ∧ i9.bytes = 16) := ⟨hi9, hz9, hs9, hb9⟩
  clear hi9 hz9 hs9 hb9
  obtain ⟨A, HA⟩ : ∃ z, Hid ((IntKind.u64.wrap from' % (K : Nat)).toNat = z) := ⟨_, rfl⟩
  have HAK : Hid ((IntKind.u64.wrap from').tmod (K : Nat) = (A : Nat) ∧ A < K) := by
    have h0 : (K : Int) ≠ 0 := by have := HNK.out; omega
    have z1 := Int.emod_lt_of_pos (IntKind.u64.wrap from') (show (0 : Int) < (K : Nat) by have := HNK.out; omega)
    have z2 := Int.emod_nonneg (IntKind.u64.wrap from') h0
    show _ ∧ _
    rw [Int.tmod_eq_emod_of_nonneg (u64_wrap from'), ← HA.out]
    omega
  obtain ⟨TT, HTT2⟩ : ∃ z : Nat → ByteArray, Hid ((fun i => T ((A + i) % K)) = z) := ⟨_, rfl⟩
  obtain ⟨B, HB⟩ : ∃ z, Hid (w4.heap.size = z) := ⟨_, rfl⟩
  go_wp2
  go_loopw [9, 10] (fun vv vi wr => ∃ i : Nat, i ≤ N ∧ vi = .int .i64 (i : Nat) ∧ Hid (wr.ownsRow B 9 1 vv i (tcs TT i) ∧ Below B w4 wr ∧ B ≤ wr.heap.size)) (fun _ vi _ => N - (intOf vi).toNat)
  case atStart => exact ⟨0, by omega, rfl, World.ownsRow_nil _ _ _ _, Below.refl _ _, Nat.le_of_eq HB.out.symm⟩
  case round =>
    obtain ⟨i, hi, rfl, HI⟩ := hrel
    rename World => wo
    have HB4 : Hid (Bx wo M 25 D2 ∧ Bx wo tg 9 (tcs T K)) := ⟨H4.out.1.keep (HI.out.2.1.block M (by rw [← HB.out]; exact H4.out.1.lt)), H4.out.2.2.1.keep (HI.out.2.1.block tg (by rw [← HB.out]; exact H4.out.2.2.1.lt))⟩
    obtain ⟨k0, k1, k2, k3⟩ := HC.out wo HB4.out.1
    by_cases hlt : i < N
    · have HLT : Hid (i < N) := hlt
      obtain ⟨J, HJ⟩ : ∃ z, Hid ((A + i) % K = z) := ⟨_, rfl⟩
      have HJK : Hid (J < K ∧ TT i = T J) := by
        rw [← HTT2.out, ← HJ.out]
        exact ⟨Nat.mod_lt _ (by have := HNK.out; omega), rfl⟩
      have cj : wo.cell? ⟨tg, J, none⟩ = some (.string (T J)) := HB4.out.2.cell J _ (tcs_at T K J HJK.out.1)
      have g0 : (0 : Int) ≤ (J : Int) := by omega
      have g1 : (J : Int) < (K : Int) := by have := HJK.out; omega
      have g2 : (i : Int) < (N : Int) := by omega
      have gi : IntKind.i64.wrap ((i : Int) + 1) = ((i + 1 : Nat) : Int) := by rw [IntKind.wrap_i64]; have := HNK.out; omega
      have e1 : IntKind.u64.wrap ((K : Nat) : Int) = ((K : Nat) : Int) := by have := HNK.out; simp [IntKind.wrap, IntKind.bits, IntKind.signed]; omega
      have e2 : IntKind.u64.wrap ((i : Nat) : Int) = ((i : Nat) : Int) := by have := HNK.out; simp [IntKind.wrap, IntKind.bits, IntKind.signed]; omega
      have HKZ : ¬ ((K : Nat) : Int) = 0 := by have := HNK.out; omega
      obtain ⟨Q, HQ⟩ : ∃ z, Hid (A + i = z) := ⟨_, rfl⟩
      have HQS : Hid (Q ≤ 100) := by show _ ≤ _; have := HQ.out; have := HNK.out; have := HAK.out.2; omega
      have e3 : IntKind.u64.wrap ((A : Nat) + (i : Nat) : Int) = (Q : Nat) := by have := HQ.out; have := HQS.out; simp [IntKind.wrap, IntKind.bits, IntKind.signed]; omega
      have e4 : IntKind.i64.wrap ((Q : Nat) : Int) = (Q : Nat) := by rw [IntKind.wrap_i64]; have := HQS.out; omega
      have e5 : ((Q : Nat) : Int).tmod ((K : Nat) : Int) = (J : Nat) := by
        rw [Int.tmod_eq_emod_of_nonneg (by omega), ← HJ.out, HQ.out]
        exact (Int.natCast_emod Q K).symm
      have e6 := HAK.out.1
      clear hlt hi
      go_upto_region 7 with (first
        | (at_builtin; go_must (refine wpList_append_own _ rfl (.tmp 44) (.tmp 61) 26 rfl B 9 i9 (.string ⟨#[]⟩) 1 16 (by kernel_rfl) HI9.out.1 HI9.out.2.1 HI9.out.2.2.1 HI9.out.2.2.2 rfl (by decide) _ i _ rfl (HI.out.1.alloc _) ⟨wo.heap.size, 0, none⟩ 1 1 [.string (T J)] rfl rfl (one_cell wo _ 9) (one_str _) (by have := HLT.out; have := HNK.out; unfold maxLen; omega) (by have := HLT.out; have := HNK.out; omega) (by have := HI.out.2.2; simp; omega) ?_; intro v9 w9 hown hgrow hnil; have H9' : Hid (w9.ownsRow B 9 1 v9 (i + 1) (tcs TT (i + 1)) ∧ Below B w4 w9 ∧ B ≤ w9.heap.size) := ⟨own_more hown HJK.out.2, (HI.out.2.1.alloc HI.out.2.2 (.cells #[.string (T J)] 9)).grown hgrow (by have := HI.out.2.2; simp; omega) (fun q hq => (HI.out.1.lt q hq).1), by rw [← HB.out]; exact ((HI.out.2.1.alloc HI.out.2.2 (.cells #[.string (T J)] 9)).grown hgrow (by have := HI.out.2.2; simp; omega) (fun q hq => (HI.out.1.lt q hq).1)).size⟩; clear hown hgrow hnil))
        | fail)
      go_wp2
      go_roundw
      case rel => exact ⟨i + 1, by have := HLT.out; omega, by go_num, H9'.out⟩
      case measure => simp [intOf]; have := HLT.out; omega
    · have hiN : i = N := by omega
      subst hiN
      have g2 : ¬ (i : Int) < (i : Int) := by omega
      obtain ⟨mg, mc, rfl, HMG⟩ : ∃ mg mc, u9 = .slice (some ⟨mg, 0, none⟩) i mc ∧ Hid (B ≤ mg ∧ i ≤ mc ∧ mc ≤ maxLen ∧ (∀ k, k < i → wo.cell? ⟨mg, k, none⟩ = some (.string (TT k))) ∧ ∃ cur, Bx wo mg 9 cur ∧ cur.length = mc) := by
        rcases HI.out.1.2 with ⟨_, e⟩ | ⟨mg, cap, cur, e, hB, hh, h3, h4, h5, h6⟩
        · exact absurd e (by have := HNK.out.1; omega)
        · refine ⟨mg, cap, e, hB, h3, h4, fun k hk => ?_, cur.toList, hh, by simpa using h5⟩
          have z := HI.out.1.cells (g := mg) (by rw [e]; rfl) k _ (tcs_at TT i k hk)
          rw [Addr.add_lit, Nat.zero_add] at z
          exact z
      obtain ⟨X, HX⟩ : ∃ X : F, Hid (X.1 = x) := ⟨⟨x, hx.out⟩, show _ = _ from rfl⟩
      have HX1 : Hid (1 ≤ x ∧ x < 256) := ⟨by omega, hx.out⟩
      obtain ⟨TX, HTX⟩ : ∃ z, Hid (T (x - 1) = z) := ⟨_, rfl⟩
      have HXT : Hid (WLs ((shD sn S2 R i).at' X) = TX) := by
        show _ = _
        rw [← HTX.out, ← HTT.out, dealT_at sn S2 R i (x - 1) HNK.out.2.1]
        have e : fN (x - 1 + 1) = X := Fin.ext (by rw [fN_val _ (by have := HX1.out; omega), HX.out]; have := HX1.out; omega)
        rw [e]
      have HZO : Hid ((shD sn S2 R i).ok) := shD_ok sn S2 R i HSL.out.1 HSL.out.2 HNK.out.1 HNK.out.2.1
      have HZN : Hid ((shD sn S2 R i).bn.1 = i) := fN_val _ (by have := HNK.out; omega)
      have HWB : Hid (Below M w wo ∧ Bx wo M 25 D2 ∧ Bx wo tg 9 (tcs T K) ∧ Rx wo g S2) := by
        obtain ⟨sp, z⟩ := H4.out.2.1
        exact ⟨H4.out.2.2.2.trans (HI.out.2.1.mono (by rw [← HB.out]; exact Nat.le_of_lt H4.out.1.lt)), HB4.out.1, HB4.out.2, sp, z.keep (HI.out.2.1.block g (by rw [← HB.out]; exact z.lt))⟩
      have H16 : Hid (Calls Tryd.prog 16 #[.int .i64 (x : Nat), .slice (some ⟨mg, 0, none⟩) i mc] wo fun e w' => Hid (e = .returned (.tuple #[.string TX, .int .i64 0]) ∧ Below wo.heap.size wo w')) := by
        have hc : ∀ k, k < i → wo.cell? ⟨mg, k, none⟩ = some (.string (T ((A + k) % K))) := fun k hk => by
          rw [HMG.out.2.2.2.1 k hk, ← HTT2.out]
        exact ext_use x X HX.out HX1.out.1 (shD sn S2 R i) T (fun k => (A + k) % K) i mg mc wo HZO.out HTG.out (fun k _ => by have := Nat.mod_lt (A + k) (show 0 < K by have := HNK.out; omega); have := HNK.out; omega) (by have := HNK.out; omega) hc (HTB.out wo HWB.out.1) (by rw [HZN.out]; exact cyc_on HZO.out HTG.out A K i HNK.out.2.2.1 (by have := HNK.out; omega) (by have := HNK.out; omega)) TX HXT.out
      obtain ⟨XM, HXM⟩ : ∃ z, Hid (x - 1 = z) := ⟨_, rfl⟩
      have ex : IntKind.i64.wrap ((x : Nat) : Int) = ((x : Nat) : Int) := by rw [IntKind.wrap_i64]; have := HX1.out; omega
      clear hlt hi
      go_upto_region 10 with (first
        | (go_at_call 16; refine H16.out.mono ?_; intro e5 w5 hh; obtain ⟨rfl, h5⟩ := hh.out; have H5 : Hid (Below M w w5 ∧ Bx w5 M 25 D2 ∧ Rx w5 g S2 ∧ (∀ k, k < i → w5.cell? ⟨mg, k, none⟩ = some (.string (TT k))) ∧ ∃ cur, Bx w5 mg 9 cur ∧ cur.length = mc) := ⟨HWB.out.1.trans (h5.mono (by rw [← HMM.out]; exact HWB.out.1.size)), HWB.out.2.1.below h5, HWB.out.2.2.2.below h5, fun k hk => (h5.cell (World.block_lt_of_cell? _ _ (HMG.out.2.2.2.1 k hk))).trans (HMG.out.2.2.2.1 k hk), (HMG.out.2.2.2.2.choose), HMG.out.2.2.2.2.choose_spec.1.below h5, HMG.out.2.2.2.2.choose_spec.2⟩; clear hh h5)
        | fail)
      clear k0 k1 k2 k3
      obtain ⟨k0, k1, k2, k3⟩ := HC.out w5 H5.out.2.1
      have H13 : Hid (∀ u, Below M w u → Calls Tryd.prog 13 #[.agg D2.toArray] u fun e w' => Hid (∃ v, e = .returned v ∧ Vf w' v R ∧ Below u.heap.size u w')) := fun u hu => by
        rw [← HD2.out, ← HRR.out]
        exact (random5_ok (sn : Int) (i : Nat) (K : Nat) false (some ⟨g, 0, none⟩) ra S2.length c rl rc Rd u (vf_rw hr.out).1 (HRV.out u hu)).mono fun e w' hh => hh
      by_cases hxn : x < i
      · have hxc : (x : Int) < (i : Int) := by omega
        have HWX : Hid (i ≤ i ∧ i ≤ 255 ∧ x ≤ i) := ⟨Nat.le_refl _, by have := HNK.out; omega, by omega⟩
        clear hxn
        go_upto_region 13 with fail
        clear hxc k0 k1 k2 k3
        have H12 : Hid (∀ u v, Below M w u → Vf u v R → Rx u g S2 → Calls Tryd.prog 12 #[.int .u16 (sn : Nat), .slice (some ⟨g, 0, none⟩) S2.length c, .int .i64 (i : Nat), .int .i64 (i : Nat), v] u fun e w' => Hid (∃ tg, e = .returned (.tuple #[.slice (some ⟨tg, 0, none⟩) i i, .int .i64 0]) ∧ u.heap.size ≤ tg ∧ Bx w' tg 9 (tcs T i) ∧ Below u.heap.size u w')) := fun u v hu hv hx2 => deal_use sn i i hsn.out S2 R T g c v u HSL.out ⟨HNK.out.1, HNK.out.2.1, HWX.out.1, HWX.out.2.1⟩ (by rw [← HRR.out]; exact rnd5_len _ _ _) HTT.out (HTB.out u hu) ⟨HCP.out.1, HCP.out.2.1⟩ hx2 hv
        have hS0 : Bx w5.drew M 25 D2 ∧ Below w5.heap.size w5 w5.drew := ⟨H5.out.2.1.keep rfl, (Below.refl _ _).drew⟩
        have HMW : Hid (∀ u, Below w5.heap.size w5 u → Below M w u) := fun u hu => H5.out.1.trans (hu.mono (by rw [← HMM.out]; exact H5.out.1.size))
        refine wp_region_noPanic ?_
        refine wp_region_held_drew (S := (fun u => Bx u M 25 D2 ∧ Below w5.heap.size w5 u)) (by kernel_rfl) (hS0) (fun _ => ?_)
        refine takeH_at 0 79 (.pointer (some ⟨M, 0, none⟩)) rfl rfl (by kernel_rfl) (by kernel_rfl) (by kernel_rfl) (fun _ _ _ h => h) (hS0) (Or.inl ⟨by rfl, fun w' hS' => by obtain ⟨k0, k1, k2, k3⟩ := HC.out _ hS'.1; go_simp⟩) ?_
        try simp only [List.setIfInBounds_toArray, List.set_cons_zero, List.set_cons_succ]
        refine takeH_at 1 80 (.int .u16 (sn : Nat)) rfl rfl (by kernel_rfl) (by kernel_rfl) (by kernel_rfl) (fun _ _ _ h => h) (hS0) (Or.inl ⟨by rfl, fun w' hS' => by obtain ⟨k0, k1, k2, k3⟩ := HC.out _ hS'.1; go_simp⟩) ?_
        try simp only [List.setIfInBounds_toArray, List.set_cons_zero, List.set_cons_succ]
        refine takeH_at 2 81 (.pointer (some ⟨M, 1, none⟩)) rfl rfl (by kernel_rfl) (by kernel_rfl) (by kernel_rfl) (fun _ _ _ h => h) (hS0) (Or.inl ⟨by rfl, fun w' hS' => by obtain ⟨k0, k1, k2, k3⟩ := HC.out _ hS'.1; go_simp⟩) ?_
        try simp only [List.setIfInBounds_toArray, List.set_cons_zero, List.set_cons_succ]
        refine takeH_at 3 82 (.slice (some ⟨g, 0, none⟩) S2.length c) rfl rfl (by kernel_rfl) (by kernel_rfl) (by kernel_rfl) (fun _ _ _ h => h) (hS0) (Or.inl ⟨by rfl, fun w' hS' => by obtain ⟨k0, k1, k2, k3⟩ := HC.out _ hS'.1; go_simp⟩) ?_
        try simp only [List.setIfInBounds_toArray, List.set_cons_zero, List.set_cons_succ]
        refine takeH_at 4 83 (.pointer (some ⟨M, 2, none⟩)) rfl rfl (by kernel_rfl) (by kernel_rfl) (by kernel_rfl) (fun _ _ _ h => h) (hS0) (Or.inl ⟨by rfl, fun w' hS' => by obtain ⟨k0, k1, k2, k3⟩ := HC.out _ hS'.1; go_simp⟩) ?_
        try simp only [List.setIfInBounds_toArray, List.set_cons_zero, List.set_cons_succ]
        refine takeH_at 5 84 (.int .i64 (i : Nat)) rfl rfl (by kernel_rfl) (by kernel_rfl) (by kernel_rfl) (fun _ _ _ h => h) (hS0) (Or.inl ⟨by rfl, fun w' hS' => by obtain ⟨k0, k1, k2, k3⟩ := HC.out _ hS'.1; go_simp⟩) ?_
        try simp only [List.setIfInBounds_toArray, List.set_cons_zero, List.set_cons_succ]
        refine takeH_at 6 85 (.int .i64 (i : Nat)) rfl rfl (by kernel_rfl) (by kernel_rfl) (by kernel_rfl) (fun _ _ _ h => h) (hS0) (Or.inl ⟨by rfl, fun w' hS' => by obtain ⟨k0, k1, k2, k3⟩ := HC.out _ hS'.1; go_simp⟩) ?_
        try simp only [List.setIfInBounds_toArray, List.set_cons_zero, List.set_cons_succ]
        refine takeH_at 7 86 (.agg D2.toArray) rfl rfl (by kernel_rfl) (by kernel_rfl) (by kernel_rfl) (fun _ _ _ h => h) (hS0) (yieldsIf_load_mid (by rfl) 25 (.tmp 3) rfl M 0 rfl D2 _ (fun u hu => hu.1.range) Tryd.underlying25 rfl hi2) ?_
        try simp only [List.setIfInBounds_toArray, List.set_cons_zero, List.set_cons_succ]
        refine wpAnyH_ready (rs := [8]) (by kernel_rfl) (by simp) ?_
        refine AllReadyH.cons rfl (fun KK hK => ?_) AllReadyH.nil
        go_simp
        refine (H13.out _ (HMW.out _ hS0.2)).mono ?_
        intro e w6 hh
        obtain ⟨vr, rfl, hv, hb⟩ := hh.out
        have H6 : Hid ((Bx w6 M 25 D2 ∧ Below w5.heap.size w5 w6) ∧ Vf w6 vr R) := ⟨⟨hS0.1.below hb, hS0.2.trans (hb.mono (Nat.le_refl _))⟩, hv⟩
        clear hh hb hv
        go_wp2_with fail
        refine hK.out _ _ (H6.out.1) (fun _ => ?_)
        clear hK KK
        try simp only [List.setIfInBounds_toArray, List.set_cons_zero, List.set_cons_succ]
        refine wpAnyH_ready (rs := [9]) (by kernel_rfl) (by simp) ?_
        refine AllReadyH.cons rfl (fun KK hK => ?_) AllReadyH.nil
        go_simp
        refine (H12.out _ _ (HMW.out _ H6.out.1.2) H6.out.2 (H5.out.2.2.1.below H6.out.1.2)).mono ?_
        intro e w7 hh
        obtain ⟨ag, rfl, hge, hv, hb⟩ := hh.out
        have H7 : Hid ((Bx w7 M 25 D2 ∧ Below w5.heap.size w5 w7) ∧ Bx w7 ag 9 (tcs T i)) := ⟨⟨H6.out.1.1.below hb, H6.out.1.2.trans (hb.mono H6.out.1.2.size)⟩, hv⟩
        clear hh hb hv hge
        go_wp2_with fail
        refine hK.out _ _ (H7.out.1) (fun _ => ?_)
        clear hK KK
        try simp only [List.setIfInBounds_toArray, List.set_cons_zero, List.set_cons_succ]
        refine takeH_at 10 78 (.tuple #[.slice (some ⟨ag, 0, none⟩) i i, .int .i64 0]) rfl rfl (by kernel_rfl) (by kernel_rfl) (by kernel_rfl) (fun _ _ _ h => h) (H7.out.1) (Or.inl ⟨by rfl, fun w' hS' => by go_simp⟩) ?_
        try simp only [List.setIfInBounds_toArray, List.set_cons_zero, List.set_cons_succ]
        refine takeH_at 11 89 (.slice (some ⟨ag, 0, none⟩) i i) rfl rfl (by kernel_rfl) (by kernel_rfl) (by kernel_rfl) (fun _ _ _ h => h) (H7.out.1) (Or.inl ⟨by rfl, fun w' hS' => by go_simp⟩) ?_
        try simp only [List.setIfInBounds_toArray, List.set_cons_zero, List.set_cons_succ]
        refine takeH_at 12 90 (.int .i64 0) rfl rfl (by kernel_rfl) (by kernel_rfl) (by kernel_rfl) (fun _ _ _ h => h) (H7.out.1) (Or.inl ⟨by rfl, fun w' hS' => by go_simp⟩) ?_
        try simp only [List.setIfInBounds_toArray, List.set_cons_zero, List.set_cons_succ]
        refine wpAnyH_ready (rs := [13]) (by kernel_rfl) (by simp) ?_
        refine AllReadyH.cons rfl (fun KK hK => ?_) AllReadyH.nil
        go_simp
        refine hK.out _ _ (H7.out.1) (fun _ => ?_)
        clear hK KK
        try simp only [List.setIfInBounds_toArray, List.set_cons_zero, List.set_cons_succ]
        refine wpAnyH_ready (rs := [14]) (by kernel_rfl) (by simp) ?_
        refine AllReadyH.cons rfl (fun KK hK => ?_) AllReadyH.nil
        go_simp
        refine hK.out _ _ (H7.out.1) (fun _ => ?_)
        clear hK KK
        try simp only [List.setIfInBounds_toArray, List.set_cons_zero, List.set_cons_succ]
        refine wpAnyH_done (by kernel_rfl) ?_ _
        refine NoPanic.normal ?_
        clear hS0 H6 H12
        have cs : w7.cell? ⟨ag, XM, none⟩ = some (.string TX) := by rw [← HTX.out, HXM.out]; exact H7.out.2.cell XM _ (tcs_at T i XM (by have := HX1.out; have := HWX.out; have := HXM.out; omega))
        have y0 : (0 : Int) ≤ (XM : Int) := by omega
        have y1 : (XM : Int) < (i : Int) := by have := HX1.out; have := HWX.out; have := HXM.out; omega
        have y2 : IntKind.i64.wrap ((x : Nat) - 1 : Int) = (XM : Nat) := by rw [IntKind.wrap_i64]; have := HX1.out; have := HXM.out; omega
        go_upto_region 16 with (first
          | (go_at_call 11; refine (H11.out _ _).mono ?_; rintro e1 wn ⟨rfl, hw⟩; obtain rfl := hw.symm; clear hw)
          | fail)
        clear cs y0 y1 y2
        have HM7 : Hid (Below M w w7) := HMW.out _ H7.out.1.2
        have HMB : Hid (M < mg ∧ g < mg) := ⟨Nat.lt_of_lt_of_le H4.out.1.lt (by rw [HB.out]; exact HMG.out.1), by obtain ⟨sp, z⟩ := H4.out.2.1; exact Nat.lt_of_lt_of_le z.lt (by rw [HB.out]; exact HMG.out.1)⟩
        have HG7 : Hid ((∀ k, k < i → w7.cell? ⟨mg, k, none⟩ = some (.string (TT k))) ∧ (∃ cur, Bx w7 mg 9 cur ∧ cur.length = mc) ∧ Rx w7 g S2 ∧ Bx w7 M 25 D2) := ⟨fun k hk => (H7.out.1.2.cell (World.block_lt_of_cell? _ _ (H5.out.2.2.2.1 k hk))).trans (H5.out.2.2.2.1 k hk), by obtain ⟨cur, z1, z2⟩ := H5.out.2.2.2.2; exact ⟨cur, z1.below H7.out.1.2, z2⟩, H5.out.2.2.1.below H7.out.1.2, H7.out.1.1⟩
        clear H7 HMW
        obtain ⟨ao, HAO, HAO2⟩ : ∃ ao : Option Addr, Hid ((if mc = 1 then some ⟨mg, 0, none⟩ else (some ⟨mg, 1, none⟩ : Option Addr)) = ao) ∧ Hid (∃ a, ao = some a ∧ (1 < mc → a = ⟨mg, 1, none⟩)) := by
          by_cases h1 : mc = 1
          · exact ⟨_, rfl, ⟨mg, 0, none⟩, by rw [if_pos h1], fun h2 => absurd h2 (by omega)⟩
          · exact ⟨_, rfl, ⟨mg, 1, none⟩, by rw [if_neg h1], fun _ => rfl⟩
        have z1 : (1 : Int) ≤ (i : Int) := by have := HNK.out; omega
        have z2 : (i : Int) ≤ (mc : Int) := by have := HMG.out.2.1; omega
        have z3 : (0 : Int) < (i : Int) := by have := HNK.out; omega
        have z4 : ¬ i = 0 := by have := HNK.out; omega
        have hS9 : Bx w7.drew M 25 D2 ∧ w7.drew.cell? ⟨mg, 0, none⟩ = some (.string (TT 0)) := ⟨HG7.out.2.2.2.keep rfl, HG7.out.1 0 (by have := HNK.out; omega)⟩
        refine wp_region_noPanic ?_
        refine wp_region_held_drew (S := (fun u => Bx u M 25 D2 ∧ u.cell? ⟨mg, 0, none⟩ = some (.string (TT 0)))) (by kernel_rfl) (hS9) (fun _ => ?_)
        refine takeH_at 0 116 (.slice (some ⟨mg, 0, none⟩) i mc) rfl rfl (by kernel_rfl) (by kernel_rfl) (by kernel_rfl) (fun _ _ _ h => h) (hS9) (Or.inl ⟨by rfl, fun w' hS' => by have kk := hS'.2; go_simp⟩) ?_
        try simp only [List.setIfInBounds_toArray, List.set_cons_zero, List.set_cons_succ]
        refine takeH_at 1 117 (.slice (if mc = 1 then some ⟨mg, 0, none⟩ else some ⟨mg, 1, none⟩) (i - 1) (mc - 1)) rfl rfl (by kernel_rfl) (by kernel_rfl) (by kernel_rfl) (fun _ _ _ h => h) (hS9) (Or.inl ⟨by rfl, fun w' hS' => by have kk := hS'.2; go_simp⟩) ?_
        try simp only [List.setIfInBounds_toArray, List.set_cons_zero, List.set_cons_succ]
        refine takeH_at 2 118 (.string TX) rfl rfl (by kernel_rfl) (by kernel_rfl) (by kernel_rfl) (fun _ _ _ h => h) (hS9) (Or.inl ⟨by rfl, fun w' hS' => by have kk := hS'.2; go_simp⟩) ?_
        try simp only [List.setIfInBounds_toArray, List.set_cons_zero, List.set_cons_succ]
        refine takeH_at 3 119 (.slice (some ⟨mg, 0, none⟩) i mc) rfl rfl (by kernel_rfl) (by kernel_rfl) (by kernel_rfl) (fun _ _ _ h => h) (hS9) (Or.inl ⟨by rfl, fun w' hS' => by have kk := hS'.2; go_simp⟩) ?_
        try simp only [List.setIfInBounds_toArray, List.set_cons_zero, List.set_cons_succ]
        refine takeH_at 4 120 (.pointer (some ⟨mg, 0, none⟩)) rfl rfl (by kernel_rfl) (by kernel_rfl) (by kernel_rfl) (fun _ _ _ h => h) (hS9) (Or.inl ⟨by rfl, fun w' hS' => by have kk := hS'.2; go_simp⟩) ?_
        try simp only [List.setIfInBounds_toArray, List.set_cons_zero, List.set_cons_succ]
        refine takeH_at 5 121 (.string (TT 0)) rfl rfl (by kernel_rfl) (by kernel_rfl) (by kernel_rfl) (fun _ _ _ h => h) (hS9) (Or.inl ⟨by rfl, fun w' hS' => by have kk := hS'.2; go_simp⟩) ?_
        try simp only [List.setIfInBounds_toArray, List.set_cons_zero, List.set_cons_succ]
        rw [HAO.out]
        refine wpAnyH_ready (rs := [6]) (by kernel_rfl) (by simp) ?_
        refine AllReadyH.cons rfl (fun KK hK => ?_) AllReadyH.nil
        go_simp
        obtain ⟨w8, hw8⟩ : ∃ u, u = w7.drew.alloc (.cells #[.string TX, .string (TT 0)] 9) := ⟨_, rfl⟩
        have hb8 : Below w7.heap.size w7.drew w8 := by rw [hw8]; exact (Below.refl w7.drew.heap.size w7.drew).alloc (Nat.le_refl _) _
        have H8 : Hid (Bx w8 M 25 D2 ∧ (∀ k, k < i → w8.cell? ⟨mg, k, none⟩ = some (.string (TT k))) ∧ (∃ cur, Bx w8 mg 9 cur ∧ cur.length = mc) ∧ Rx w8 g S2 ∧ Bx w8 w7.heap.size 9 [.string TX, .string (TT 0)] ∧ Below M w w8) := by
          obtain ⟨x1, ⟨cur, x2, x3⟩, ⟨sp, x4⟩, x5⟩ := HG7.out
          exact ⟨(x5.keep (w' := w7.drew) rfl).below hb8, fun k hk => (hb8.cell (World.block_lt_of_cell? _ _ (x1 k hk))).trans (x1 k hk), ⟨cur, (x2.keep (w' := w7.drew) rfl).below hb8, x3⟩, ⟨sp, (x4.keep (w' := w7.drew) rfl).below hb8⟩, by rw [hw8]; exact Bx.new w7.drew 9 [.string TX, .string (TT 0)], HM7.out.drew.trans (hb8.mono (by rw [← HMM.out]; exact HM7.out.size))⟩
        first | (rw [← hw8]) | (rw [show (w7.alloc (.cells #[.string TX, .string (TT 0)] 9)).drew = w8 from hw8.symm])
        clear hw8 hb8
        refine hK.out _ _ (⟨H8.out.1, H8.out.2.1 0 (by have := HNK.out; omega)⟩) (fun _ => ?_)
        clear hK KK
        try simp only [List.setIfInBounds_toArray, List.set_cons_zero, List.set_cons_succ]
        refine wpAnyH_ready (rs := [7]) (by kernel_rfl) (by simp) ?_
        refine AllReadyH.cons rfl (fun KK hK => ?_) AllReadyH.nil
        obtain ⟨cur, hcur⟩ := H8.out.2.2.1
        refine step_app2 rfl (.tmp 117) (.tmp 122) rfl mg i mc w7.heap.size ao cur TX (TT 0) TT rfl rfl hcur.1 hcur.2 ⟨HNK.out.1, HNK.out.2.1⟩ HMG.out.2.1 H8.out.2.1 HAO2.out H8.out.2.2.2.2.1 ?_
        intro w9 jg jo jc hap
        have H9x : Hid (Bx w9 M 25 D2 ∧ Rx w9 g S2 ∧ Below M w w9 ∧ (∀ k, k < i + 1 → w9.cell? ⟨jg, jo + k, none⟩ = some (.string (app2 TT i TX (TT 0) k))) ∧ w9.cell? ⟨mg, 0, none⟩ = some (.string (TT 0))) := by
          obtain ⟨q1, q2, q3, q4⟩ := hap.out
          obtain ⟨sp, x4⟩ := H8.out.2.2.2.1
          exact ⟨H8.out.1.keep (q2 M H8.out.1.lt (by have := HMB.out; omega)), ⟨sp, x4.keep (q2 g x4.lt (by have := HMB.out; omega))⟩, H8.out.2.2.2.2.2.trans (q3.mono (Nat.le_of_lt HMB.out.1)), q1, q4 0 (by have := HNK.out; omega)⟩
        clear hap hcur H8
        refine hK.out _ _ (⟨H9x.out.1, H9x.out.2.2.2.2⟩) (fun _ => ?_)
        clear hK KK
        try simp only [List.setIfInBounds_toArray, List.set_cons_zero, List.set_cons_succ]
        refine wpAnyH_ready (rs := [8]) (by kernel_rfl) (by simp) ?_
        refine AllReadyH.cons rfl (fun KK hK => ?_) AllReadyH.nil
        go_simp
        have HJ : Hid (Calls Tryd.prog 10 #[.slice (some ⟨jg, jo, none⟩) (i + 1) jc] w9 fun e w' => Hid (∃ b, e = .returned (.tuple #[.slice (some ⟨b, 0, none⟩) S2.length S2.length, .int .i64 0]) ∧ w9.heap.size ≤ b ∧ Bx w' b 5 (fc S2) ∧ Below w9.heap.size w9 w')) := join_use (shD sn S2 R i) T (rndF2 A K i XM) (i + 1) jg jo jc w9 HZO.out HTG.out (fun k _ => rnd_lt A K i XM k (by have := HNK.out; omega) (by have := HNK.out; omega) (by have := HX1.out; have := HXM.out; omega)) (by have := HNK.out; omega) (fun k hk => by rw [H9x.out.2.2.2.1 k hk, ← HTX.out, HXM.out, ← HTT2.out, app2_T]) (HTB.out w9 H9x.out.2.2.1) (by rw [HZN.out]; exact rnd_on HZO.out HTG.out A K i XM HNK.out.2.2.1 (by have := HNK.out; omega) (by have := HNK.out; omega) HNK.out.1 (by have := HX1.out; have := HXM.out; omega))
        refine HJ.out.mono ?_
        intro e w10 hh
        obtain ⟨jb, rfl, h1, h2, h3⟩ := hh.out
        have H10 : Hid ((Bx w10 M 25 D2 ∧ w10.cell? ⟨mg, 0, none⟩ = some (.string (TT 0))) ∧ Rx w10 g S2 ∧ Bx w10 jb 5 (fc S2) ∧ Below M w w10) := ⟨⟨H9x.out.1.below h3, (h3.cell (World.block_lt_of_cell? _ _ H9x.out.2.2.2.2)).trans H9x.out.2.2.2.2⟩, H9x.out.2.1.below h3, h2, H9x.out.2.2.1.trans (h3.mono (by rw [← HMM.out]; exact H9x.out.2.2.1.size))⟩
        clear hh h1 h2 h3 HJ
        go_wp2_with fail
        refine hK.out _ _ (H10.out.1) (fun _ => ?_)
        clear hK KK
        try simp only [List.setIfInBounds_toArray, List.set_cons_zero, List.set_cons_succ]
        refine takeH_at 9 115 (.tuple #[.slice (some ⟨jb, 0, none⟩) S2.length S2.length, .int .i64 0]) rfl rfl (by kernel_rfl) (by kernel_rfl) (by kernel_rfl) (fun _ _ _ h => h) (H10.out.1) (Or.inl ⟨by rfl, fun w' hS' => by go_simp⟩) ?_
        try simp only [List.setIfInBounds_toArray, List.set_cons_zero, List.set_cons_succ]
        refine takeH_at 10 125 (.slice (some ⟨jb, 0, none⟩) S2.length S2.length) rfl rfl (by kernel_rfl) (by kernel_rfl) (by kernel_rfl) (fun _ _ _ h => h) (H10.out.1) (Or.inl ⟨by rfl, fun w' hS' => by go_simp⟩) ?_
        try simp only [List.setIfInBounds_toArray, List.set_cons_zero, List.set_cons_succ]
        refine takeH_at 11 126 (.int .i64 0) rfl rfl (by kernel_rfl) (by kernel_rfl) (by kernel_rfl) (fun _ _ _ h => h) (H10.out.1) (Or.inl ⟨by rfl, fun w' hS' => by go_simp⟩) ?_
        try simp only [List.setIfInBounds_toArray, List.set_cons_zero, List.set_cons_succ]
        refine wpAnyH_ready (rs := [12]) (by kernel_rfl) (by simp) ?_
        refine AllReadyH.cons rfl (fun KK hK => ?_) AllReadyH.nil
        go_simp
        refine hK.out _ _ (H10.out.1) (fun _ => ?_)
        clear hK KK
        try simp only [List.setIfInBounds_toArray, List.set_cons_zero, List.set_cons_succ]
        refine wpAnyH_ready (rs := [13]) (by kernel_rfl) (by simp) ?_
        refine AllReadyH.cons rfl (fun KK hK => ?_) AllReadyH.nil
        go_simp
        refine hK.out _ _ (H10.out.1) (fun _ => ?_)
        clear hK KK
        try simp only [List.setIfInBounds_toArray, List.set_cons_zero, List.set_cons_succ]
        refine wpAnyH_done (by kernel_rfl) ?_ _
        refine NoPanic.normal ?_
        obtain ⟨k0, k1, k2, k3⟩ := HC.out _ H10.out.1.1
        have H17 : Hid (Calls Tryd.prog 17 #[.slice (some ⟨jb, 0, none⟩) S2.length S2.length, .slice (some ⟨g, 0, none⟩) S2.length c] w10 fun e w' => Hid (e = .returned (.bool true) ∧ Below M w w')) := by
          have v1 : Vf w10 (.slice (some ⟨jb, 0, none⟩) S2.length S2.length) S2 := vf_mk rfl (Nat.le_refl _) (by have := HSL.out; unfold maxLen; omega) (fun e => by cases e) (.inr ⟨_, _, rfl, bx_rw H10.out.2.2.1⟩)
          have v2 : Vf w10 (.slice (some ⟨g, 0, none⟩) S2.length c) S2 := vf_mk rfl HCP.out.1 HCP.out.2.1 (fun e => by cases e) (.inr ⟨_, _, rfl, H10.out.2.1.rw⟩)
          refine (same_any _ _ _ _ _ v1 v2).mono ?_
          rintro e w' ⟨he, k, hw⟩
          rw [decide_eq_true rfl] at he
          exact ⟨he, by rw [hw]; exact below_drewN0 H10.out.2.2.2 k⟩
        go_wp2_with (first
          | (go_at_call 17; refine H17.out.mono ?_; intro e w11 hh; obtain ⟨rfl, h6⟩ := hh.out; have H12 : Hid (Below M w w11) := h6; clear hh h6)
          | (go_at_call 11; refine (H11.out _ _).mono ?_; rintro e1 wn ⟨rfl, hw⟩; obtain rfl := hw.symm; clear hw)
          | fail)
        go_ret
        exact ⟨rfl, H12.out⟩
      · have hxc : ¬ (x : Int) < (i : Int) := by omega
        have HWX : Hid (i ≤ x ∧ x ≤ 255 ∧ x ≤ x) := ⟨by omega, by have := HX1.out; omega, Nat.le_refl _⟩
        clear hxn
        go_upto_region 13 with fail
        clear hxc k0 k1 k2 k3
        have H12 : Hid (∀ u v, Below M w u → Vf u v R → Rx u g S2 → Calls Tryd.prog 12 #[.int .u16 (sn : Nat), .slice (some ⟨g, 0, none⟩) S2.length c, .int .i64 (i : Nat), .int .i64 (x : Nat), v] u fun e w' => Hid (∃ tg, e = .returned (.tuple #[.slice (some ⟨tg, 0, none⟩) x x, .int .i64 0]) ∧ u.heap.size ≤ tg ∧ Bx w' tg 9 (tcs T x) ∧ Below u.heap.size u w')) := fun u v hu hv hx2 => deal_use sn i x hsn.out S2 R T g c v u HSL.out ⟨HNK.out.1, HNK.out.2.1, HWX.out.1, HWX.out.2.1⟩ (by rw [← HRR.out]; exact rnd5_len _ _ _) HTT.out (HTB.out u hu) ⟨HCP.out.1, HCP.out.2.1⟩ hx2 hv
        have hS0 : Bx w5.drew M 25 D2 ∧ Below w5.heap.size w5 w5.drew := ⟨H5.out.2.1.keep rfl, (Below.refl _ _).drew⟩
        have HMW : Hid (∀ u, Below w5.heap.size w5 u → Below M w u) := fun u hu => H5.out.1.trans (hu.mono (by rw [← HMM.out]; exact H5.out.1.size))
        refine wp_region_noPanic ?_
        refine wp_region_held_drew (S := (fun u => Bx u M 25 D2 ∧ Below w5.heap.size w5 u)) (by kernel_rfl) (hS0) (fun _ => ?_)
        refine takeH_at 0 79 (.pointer (some ⟨M, 0, none⟩)) rfl rfl (by kernel_rfl) (by kernel_rfl) (by kernel_rfl) (fun _ _ _ h => h) (hS0) (Or.inl ⟨by rfl, fun w' hS' => by obtain ⟨k0, k1, k2, k3⟩ := HC.out _ hS'.1; go_simp⟩) ?_
        try simp only [List.setIfInBounds_toArray, List.set_cons_zero, List.set_cons_succ]
        refine takeH_at 1 80 (.int .u16 (sn : Nat)) rfl rfl (by kernel_rfl) (by kernel_rfl) (by kernel_rfl) (fun _ _ _ h => h) (hS0) (Or.inl ⟨by rfl, fun w' hS' => by obtain ⟨k0, k1, k2, k3⟩ := HC.out _ hS'.1; go_simp⟩) ?_
        try simp only [List.setIfInBounds_toArray, List.set_cons_zero, List.set_cons_succ]
        refine takeH_at 2 81 (.pointer (some ⟨M, 1, none⟩)) rfl rfl (by kernel_rfl) (by kernel_rfl) (by kernel_rfl) (fun _ _ _ h => h) (hS0) (Or.inl ⟨by rfl, fun w' hS' => by obtain ⟨k0, k1, k2, k3⟩ := HC.out _ hS'.1; go_simp⟩) ?_
        try simp only [List.setIfInBounds_toArray, List.set_cons_zero, List.set_cons_succ]
        refine takeH_at 3 82 (.slice (some ⟨g, 0, none⟩) S2.length c) rfl rfl (by kernel_rfl) (by kernel_rfl) (by kernel_rfl) (fun _ _ _ h => h) (hS0) (Or.inl ⟨by rfl, fun w' hS' => by obtain ⟨k0, k1, k2, k3⟩ := HC.out _ hS'.1; go_simp⟩) ?_
        try simp only [List.setIfInBounds_toArray, List.set_cons_zero, List.set_cons_succ]
        refine takeH_at 4 83 (.pointer (some ⟨M, 2, none⟩)) rfl rfl (by kernel_rfl) (by kernel_rfl) (by kernel_rfl) (fun _ _ _ h => h) (hS0) (Or.inl ⟨by rfl, fun w' hS' => by obtain ⟨k0, k1, k2, k3⟩ := HC.out _ hS'.1; go_simp⟩) ?_
        try simp only [List.setIfInBounds_toArray, List.set_cons_zero, List.set_cons_succ]
        refine takeH_at 5 84 (.int .i64 (i : Nat)) rfl rfl (by kernel_rfl) (by kernel_rfl) (by kernel_rfl) (fun _ _ _ h => h) (hS0) (Or.inl ⟨by rfl, fun w' hS' => by obtain ⟨k0, k1, k2, k3⟩ := HC.out _ hS'.1; go_simp⟩) ?_
        try simp only [List.setIfInBounds_toArray, List.set_cons_zero, List.set_cons_succ]
        refine takeH_at 6 85 (.int .i64 (x : Nat)) rfl rfl (by kernel_rfl) (by kernel_rfl) (by kernel_rfl) (fun _ _ _ h => h) (hS0) (Or.inl ⟨by rfl, fun w' hS' => by obtain ⟨k0, k1, k2, k3⟩ := HC.out _ hS'.1; go_simp⟩) ?_
        try simp only [List.setIfInBounds_toArray, List.set_cons_zero, List.set_cons_succ]
        refine takeH_at 7 86 (.agg D2.toArray) rfl rfl (by kernel_rfl) (by kernel_rfl) (by kernel_rfl) (fun _ _ _ h => h) (hS0) (yieldsIf_load_mid (by rfl) 25 (.tmp 3) rfl M 0 rfl D2 _ (fun u hu => hu.1.range) Tryd.underlying25 rfl hi2) ?_
        try simp only [List.setIfInBounds_toArray, List.set_cons_zero, List.set_cons_succ]
        refine wpAnyH_ready (rs := [8]) (by kernel_rfl) (by simp) ?_
        refine AllReadyH.cons rfl (fun KK hK => ?_) AllReadyH.nil
        go_simp
        refine (H13.out _ (HMW.out _ hS0.2)).mono ?_
        intro e w6 hh
        obtain ⟨vr, rfl, hv, hb⟩ := hh.out
        have H6 : Hid ((Bx w6 M 25 D2 ∧ Below w5.heap.size w5 w6) ∧ Vf w6 vr R) := ⟨⟨hS0.1.below hb, hS0.2.trans (hb.mono (Nat.le_refl _))⟩, hv⟩
        clear hh hb hv
        go_wp2_with fail
        refine hK.out _ _ (H6.out.1) (fun _ => ?_)
        clear hK KK
        try simp only [List.setIfInBounds_toArray, List.set_cons_zero, List.set_cons_succ]
        refine wpAnyH_ready (rs := [9]) (by kernel_rfl) (by simp) ?_
        refine AllReadyH.cons rfl (fun KK hK => ?_) AllReadyH.nil
        go_simp
        refine (H12.out _ _ (HMW.out _ H6.out.1.2) H6.out.2 (H5.out.2.2.1.below H6.out.1.2)).mono ?_
        intro e w7 hh
        obtain ⟨ag, rfl, hge, hv, hb⟩ := hh.out
        have H7 : Hid ((Bx w7 M 25 D2 ∧ Below w5.heap.size w5 w7) ∧ Bx w7 ag 9 (tcs T x)) := ⟨⟨H6.out.1.1.below hb, H6.out.1.2.trans (hb.mono H6.out.1.2.size)⟩, hv⟩
        clear hh hb hv hge
        go_wp2_with fail
        refine hK.out _ _ (H7.out.1) (fun _ => ?_)
        clear hK KK
        try simp only [List.setIfInBounds_toArray, List.set_cons_zero, List.set_cons_succ]
        refine takeH_at 10 78 (.tuple #[.slice (some ⟨ag, 0, none⟩) x x, .int .i64 0]) rfl rfl (by kernel_rfl) (by kernel_rfl) (by kernel_rfl) (fun _ _ _ h => h) (H7.out.1) (Or.inl ⟨by rfl, fun w' hS' => by go_simp⟩) ?_
        try simp only [List.setIfInBounds_toArray, List.set_cons_zero, List.set_cons_succ]
        refine takeH_at 11 89 (.slice (some ⟨ag, 0, none⟩) x x) rfl rfl (by kernel_rfl) (by kernel_rfl) (by kernel_rfl) (fun _ _ _ h => h) (H7.out.1) (Or.inl ⟨by rfl, fun w' hS' => by go_simp⟩) ?_
        try simp only [List.setIfInBounds_toArray, List.set_cons_zero, List.set_cons_succ]
        refine takeH_at 12 90 (.int .i64 0) rfl rfl (by kernel_rfl) (by kernel_rfl) (by kernel_rfl) (fun _ _ _ h => h) (H7.out.1) (Or.inl ⟨by rfl, fun w' hS' => by go_simp⟩) ?_
        try simp only [List.setIfInBounds_toArray, List.set_cons_zero, List.set_cons_succ]
        refine wpAnyH_ready (rs := [13]) (by kernel_rfl) (by simp) ?_
        refine AllReadyH.cons rfl (fun KK hK => ?_) AllReadyH.nil
        go_simp
        refine hK.out _ _ (H7.out.1) (fun _ => ?_)
        clear hK KK
        try simp only [List.setIfInBounds_toArray, List.set_cons_zero, List.set_cons_succ]
        refine wpAnyH_ready (rs := [14]) (by kernel_rfl) (by simp) ?_
        refine AllReadyH.cons rfl (fun KK hK => ?_) AllReadyH.nil
        go_simp
        refine hK.out _ _ (H7.out.1) (fun _ => ?_)
        clear hK KK
        try simp only [List.setIfInBounds_toArray, List.set_cons_zero, List.set_cons_succ]
        refine wpAnyH_done (by kernel_rfl) ?_ _
        refine NoPanic.normal ?_
        clear hS0 H6 H12
        have cs : w7.cell? ⟨ag, XM, none⟩ = some (.string TX) := by rw [← HTX.out, HXM.out]; exact H7.out.2.cell XM _ (tcs_at T x XM (by have := HX1.out; have := HWX.out; have := HXM.out; omega))
        have y0 : (0 : Int) ≤ (XM : Int) := by omega
        have y1 : (XM : Int) < (x : Int) := by have := HX1.out; have := HWX.out; have := HXM.out; omega
        have y2 : IntKind.i64.wrap ((x : Nat) - 1 : Int) = (XM : Nat) := by rw [IntKind.wrap_i64]; have := HX1.out; have := HXM.out; omega
        go_upto_region 16 with (first
          | (go_at_call 11; refine (H11.out _ _).mono ?_; rintro e1 wn ⟨rfl, hw⟩; obtain rfl := hw.symm; clear hw)
          | fail)
        clear cs y0 y1 y2
        have HM7 : Hid (Below M w w7) := HMW.out _ H7.out.1.2
        have HMB : Hid (M < mg ∧ g < mg) := ⟨Nat.lt_of_lt_of_le H4.out.1.lt (by rw [HB.out]; exact HMG.out.1), by obtain ⟨sp, z⟩ := H4.out.2.1; exact Nat.lt_of_lt_of_le z.lt (by rw [HB.out]; exact HMG.out.1)⟩
        have HG7 : Hid ((∀ k, k < i → w7.cell? ⟨mg, k, none⟩ = some (.string (TT k))) ∧ (∃ cur, Bx w7 mg 9 cur ∧ cur.length = mc) ∧ Rx w7 g S2 ∧ Bx w7 M 25 D2) := ⟨fun k hk => (H7.out.1.2.cell (World.block_lt_of_cell? _ _ (H5.out.2.2.2.1 k hk))).trans (H5.out.2.2.2.1 k hk), by obtain ⟨cur, z1, z2⟩ := H5.out.2.2.2.2; exact ⟨cur, z1.below H7.out.1.2, z2⟩, H5.out.2.2.1.below H7.out.1.2, H7.out.1.1⟩
        clear H7 HMW
        obtain ⟨ao, HAO, HAO2⟩ : ∃ ao : Option Addr, Hid ((if mc = 1 then some ⟨mg, 0, none⟩ else (some ⟨mg, 1, none⟩ : Option Addr)) = ao) ∧ Hid (∃ a, ao = some a ∧ (1 < mc → a = ⟨mg, 1, none⟩)) := by
          by_cases h1 : mc = 1
          · exact ⟨_, rfl, ⟨mg, 0, none⟩, by rw [if_pos h1], fun h2 => absurd h2 (by omega)⟩
          · exact ⟨_, rfl, ⟨mg, 1, none⟩, by rw [if_neg h1], fun _ => rfl⟩
        have z1 : (1 : Int) ≤ (i : Int) := by have := HNK.out; omega
        have z2 : (i : Int) ≤ (mc : Int) := by have := HMG.out.2.1; omega
        have z3 : (0 : Int) < (i : Int) := by have := HNK.out; omega
        have z4 : ¬ i = 0 := by have := HNK.out; omega
        have hS9 : Bx w7.drew M 25 D2 ∧ w7.drew.cell? ⟨mg, 0, none⟩ = some (.string (TT 0)) := ⟨HG7.out.2.2.2.keep rfl, HG7.out.1 0 (by have := HNK.out; omega)⟩
        refine wp_region_noPanic ?_
        refine wp_region_held_drew (S := (fun u => Bx u M 25 D2 ∧ u.cell? ⟨mg, 0, none⟩ = some (.string (TT 0)))) (by kernel_rfl) (hS9) (fun _ => ?_)
        refine takeH_at 0 116 (.slice (some ⟨mg, 0, none⟩) i mc) rfl rfl (by kernel_rfl) (by kernel_rfl) (by kernel_rfl) (fun _ _ _ h => h) (hS9) (Or.inl ⟨by rfl, fun w' hS' => by have kk := hS'.2; go_simp⟩) ?_
        try simp only [List.setIfInBounds_toArray, List.set_cons_zero, List.set_cons_succ]
        refine takeH_at 1 117 (.slice (if mc = 1 then some ⟨mg, 0, none⟩ else some ⟨mg, 1, none⟩) (i - 1) (mc - 1)) rfl rfl (by kernel_rfl) (by kernel_rfl) (by kernel_rfl) (fun _ _ _ h => h) (hS9) (Or.inl ⟨by rfl, fun w' hS' => by have kk := hS'.2; go_simp⟩) ?_
        try simp only [List.setIfInBounds_toArray, List.set_cons_zero, List.set_cons_succ]
        refine takeH_at 2 118 (.string TX) rfl rfl (by kernel_rfl) (by kernel_rfl) (by kernel_rfl) (fun _ _ _ h => h) (hS9) (Or.inl ⟨by rfl, fun w' hS' => by have kk := hS'.2; go_simp⟩) ?_
        try simp only [List.setIfInBounds_toArray, List.set_cons_zero, List.set_cons_succ]
        refine takeH_at 3 119 (.slice (some ⟨mg, 0, none⟩) i mc) rfl rfl (by kernel_rfl) (by kernel_rfl) (by kernel_rfl) (fun _ _ _ h => h) (hS9) (Or.inl ⟨by rfl, fun w' hS' => by have kk := hS'.2; go_simp⟩) ?_
        try simp only [List.setIfInBounds_toArray, List.set_cons_zero, List.set_cons_succ]
        refine takeH_at 4 120 (.pointer (some ⟨mg, 0, none⟩)) rfl rfl (by kernel_rfl) (by kernel_rfl) (by kernel_rfl) (fun _ _ _ h => h) (hS9) (Or.inl ⟨by rfl, fun w' hS' => by have kk := hS'.2; go_simp⟩) ?_
        try simp only [List.setIfInBounds_toArray, List.set_cons_zero, List.set_cons_succ]
        refine takeH_at 5 121 (.string (TT 0)) rfl rfl (by kernel_rfl) (by kernel_rfl) (by kernel_rfl) (fun _ _ _ h => h) (hS9) (Or.inl ⟨by rfl, fun w' hS' => by have kk := hS'.2; go_simp⟩) ?_
        try simp only [List.setIfInBounds_toArray, List.set_cons_zero, List.set_cons_succ]
        rw [HAO.out]
        refine wpAnyH_ready (rs := [6]) (by kernel_rfl) (by simp) ?_
        refine AllReadyH.cons rfl (fun KK hK => ?_) AllReadyH.nil
        go_simp
        obtain ⟨w8, hw8⟩ : ∃ u, u = w7.drew.alloc (.cells #[.string TX, .string (TT 0)] 9) := ⟨_, rfl⟩
        have hb8 : Below w7.heap.size w7.drew w8 := by rw [hw8]; exact (Below.refl w7.drew.heap.size w7.drew).alloc (Nat.le_refl _) _
        have H8 : Hid (Bx w8 M 25 D2 ∧ (∀ k, k < i → w8.cell? ⟨mg, k, none⟩ = some (.string (TT k))) ∧ (∃ cur, Bx w8 mg 9 cur ∧ cur.length = mc) ∧ Rx w8 g S2 ∧ Bx w8 w7.heap.size 9 [.string TX, .string (TT 0)] ∧ Below M w w8) := by
          obtain ⟨x1, ⟨cur, x2, x3⟩, ⟨sp, x4⟩, x5⟩ := HG7.out
          exact ⟨(x5.keep (w' := w7.drew) rfl).below hb8, fun k hk => (hb8.cell (World.block_lt_of_cell? _ _ (x1 k hk))).trans (x1 k hk), ⟨cur, (x2.keep (w' := w7.drew) rfl).below hb8, x3⟩, ⟨sp, (x4.keep (w' := w7.drew) rfl).below hb8⟩, by rw [hw8]; exact Bx.new w7.drew 9 [.string TX, .string (TT 0)], HM7.out.drew.trans (hb8.mono (by rw [← HMM.out]; exact HM7.out.size))⟩
        first | (rw [← hw8]) | (rw [show (w7.alloc (.cells #[.string TX, .string (TT 0)] 9)).drew = w8 from hw8.symm])
        clear hw8 hb8
        refine hK.out _ _ (⟨H8.out.1, H8.out.2.1 0 (by have := HNK.out; omega)⟩) (fun _ => ?_)
        clear hK KK
        try simp only [List.setIfInBounds_toArray, List.set_cons_zero, List.set_cons_succ]
        refine wpAnyH_ready (rs := [7]) (by kernel_rfl) (by simp) ?_
        refine AllReadyH.cons rfl (fun KK hK => ?_) AllReadyH.nil
        obtain ⟨cur, hcur⟩ := H8.out.2.2.1
        refine step_app2 rfl (.tmp 117) (.tmp 122) rfl mg i mc w7.heap.size ao cur TX (TT 0) TT rfl rfl hcur.1 hcur.2 ⟨HNK.out.1, HNK.out.2.1⟩ HMG.out.2.1 H8.out.2.1 HAO2.out H8.out.2.2.2.2.1 ?_
        intro w9 jg jo jc hap
        have H9x : Hid (Bx w9 M 25 D2 ∧ Rx w9 g S2 ∧ Below M w w9 ∧ (∀ k, k < i + 1 → w9.cell? ⟨jg, jo + k, none⟩ = some (.string (app2 TT i TX (TT 0) k))) ∧ w9.cell? ⟨mg, 0, none⟩ = some (.string (TT 0))) := by
          obtain ⟨q1, q2, q3, q4⟩ := hap.out
          obtain ⟨sp, x4⟩ := H8.out.2.2.2.1
          exact ⟨H8.out.1.keep (q2 M H8.out.1.lt (by have := HMB.out; omega)), ⟨sp, x4.keep (q2 g x4.lt (by have := HMB.out; omega))⟩, H8.out.2.2.2.2.2.trans (q3.mono (Nat.le_of_lt HMB.out.1)), q1, q4 0 (by have := HNK.out; omega)⟩
        clear hap hcur H8
        refine hK.out _ _ (⟨H9x.out.1, H9x.out.2.2.2.2⟩) (fun _ => ?_)
        clear hK KK
        try simp only [List.setIfInBounds_toArray, List.set_cons_zero, List.set_cons_succ]
        refine wpAnyH_ready (rs := [8]) (by kernel_rfl) (by simp) ?_
        refine AllReadyH.cons rfl (fun KK hK => ?_) AllReadyH.nil
        go_simp
        have HJ : Hid (Calls Tryd.prog 10 #[.slice (some ⟨jg, jo, none⟩) (i + 1) jc] w9 fun e w' => Hid (∃ b, e = .returned (.tuple #[.slice (some ⟨b, 0, none⟩) S2.length S2.length, .int .i64 0]) ∧ w9.heap.size ≤ b ∧ Bx w' b 5 (fc S2) ∧ Below w9.heap.size w9 w')) := join_use (shD sn S2 R i) T (rndF2 A K i XM) (i + 1) jg jo jc w9 HZO.out HTG.out (fun k _ => rnd_lt A K i XM k (by have := HNK.out; omega) (by have := HNK.out; omega) (by have := HX1.out; have := HXM.out; omega)) (by have := HNK.out; omega) (fun k hk => by rw [H9x.out.2.2.2.1 k hk, ← HTX.out, HXM.out, ← HTT2.out, app2_T]) (HTB.out w9 H9x.out.2.2.1) (by rw [HZN.out]; exact rnd_on HZO.out HTG.out A K i XM HNK.out.2.2.1 (by have := HNK.out; omega) (by have := HNK.out; omega) HNK.out.1 (by have := HX1.out; have := HXM.out; omega))
        refine HJ.out.mono ?_
        intro e w10 hh
        obtain ⟨jb, rfl, h1, h2, h3⟩ := hh.out
        have H10 : Hid ((Bx w10 M 25 D2 ∧ w10.cell? ⟨mg, 0, none⟩ = some (.string (TT 0))) ∧ Rx w10 g S2 ∧ Bx w10 jb 5 (fc S2) ∧ Below M w w10) := ⟨⟨H9x.out.1.below h3, (h3.cell (World.block_lt_of_cell? _ _ H9x.out.2.2.2.2)).trans H9x.out.2.2.2.2⟩, H9x.out.2.1.below h3, h2, H9x.out.2.2.1.trans (h3.mono (by rw [← HMM.out]; exact H9x.out.2.2.1.size))⟩
        clear hh h1 h2 h3 HJ
        go_wp2_with fail
        refine hK.out _ _ (H10.out.1) (fun _ => ?_)
        clear hK KK
        try simp only [List.setIfInBounds_toArray, List.set_cons_zero, List.set_cons_succ]
        refine takeH_at 9 115 (.tuple #[.slice (some ⟨jb, 0, none⟩) S2.length S2.length, .int .i64 0]) rfl rfl (by kernel_rfl) (by kernel_rfl) (by kernel_rfl) (fun _ _ _ h => h) (H10.out.1) (Or.inl ⟨by rfl, fun w' hS' => by go_simp⟩) ?_
        try simp only [List.setIfInBounds_toArray, List.set_cons_zero, List.set_cons_succ]
        refine takeH_at 10 125 (.slice (some ⟨jb, 0, none⟩) S2.length S2.length) rfl rfl (by kernel_rfl) (by kernel_rfl) (by kernel_rfl) (fun _ _ _ h => h) (H10.out.1) (Or.inl ⟨by rfl, fun w' hS' => by go_simp⟩) ?_
        try simp only [List.setIfInBounds_toArray, List.set_cons_zero, List.set_cons_succ]
        refine takeH_at 11 126 (.int .i64 0) rfl rfl (by kernel_rfl) (by kernel_rfl) (by kernel_rfl) (fun _ _ _ h => h) (H10.out.1) (Or.inl ⟨by rfl, fun w' hS' => by go_simp⟩) ?_
        try simp only [List.setIfInBounds_toArray, List.set_cons_zero, List.set_cons_succ]
        refine wpAnyH_ready (rs := [12]) (by kernel_rfl) (by simp) ?_
        refine AllReadyH.cons rfl (fun KK hK => ?_) AllReadyH.nil
        go_simp
        refine hK.out _ _ (H10.out.1) (fun _ => ?_)
        clear hK KK
        try simp only [List.setIfInBounds_toArray, List.set_cons_zero, List.set_cons_succ]
        refine wpAnyH_ready (rs := [13]) (by kernel_rfl) (by simp) ?_
        refine AllReadyH.cons rfl (fun KK hK => ?_) AllReadyH.nil
        go_simp
        refine hK.out _ _ (H10.out.1) (fun _ => ?_)
        clear hK KK
        try simp only [List.setIfInBounds_toArray, List.set_cons_zero, List.set_cons_succ]
        refine wpAnyH_done (by kernel_rfl) ?_ _
        refine NoPanic.normal ?_
        obtain ⟨k0, k1, k2, k3⟩ := HC.out _ H10.out.1.1
        have H17 : Hid (Calls Tryd.prog 17 #[.slice (some ⟨jb, 0, none⟩) S2.length S2.length, .slice (some ⟨g, 0, none⟩) S2.length c] w10 fun e w' => Hid (e = .returned (.bool true) ∧ Below M w w')) := by
          have v1 : Vf w10 (.slice (some ⟨jb, 0, none⟩) S2.length S2.length) S2 := vf_mk rfl (Nat.le_refl _) (by have := HSL.out; unfold maxLen; omega) (fun e => by cases e) (.inr ⟨_, _, rfl, bx_rw H10.out.2.2.1⟩)
          have v2 : Vf w10 (.slice (some ⟨g, 0, none⟩) S2.length c) S2 := vf_mk rfl HCP.out.1 HCP.out.2.1 (fun e => by cases e) (.inr ⟨_, _, rfl, H10.out.2.1.rw⟩)
          refine (same_any _ _ _ _ _ v1 v2).mono ?_
          rintro e w' ⟨he, k, hw⟩
          rw [decide_eq_true rfl] at he
          exact ⟨he, by rw [hw]; exact below_drewN0 H10.out.2.2.2 k⟩
        go_wp2_with (first
          | (go_at_call 17; refine H17.out.mono ?_; intro e w11 hh; obtain ⟨rfl, h6⟩ := hh.out; have H12 : Hid (Below M w w11) := h6; clear hh h6)
          | (go_at_call 11; refine (H11.out _ _).mono ?_; rintro e1 wn ⟨rfl, hw⟩; obtain rfl := hw.symm; clear hw)
          | fail)
        go_ret
        exact ⟨rfl, H12.out⟩
end Go.Proofs.YtjcdhfkilnbjgaaDoor
namespace Go.Proofs.YtjcdhfkilnbjgaaDoor
open Go.ChangeShapes Go.WideShapes Go.ChangeAt Go.RowKit

theorem own : ownKnob Tryd.prog.godebug = none := by kernel_rfl
theorem laidOut : laidOutB Tryd.prog = true := by kernel_rfl
theorem cells5 : Tryd.prog.cellsOf 5 = 1 := by kernel_rfl
theorem bytes5 : Tryd.prog.bytesOf 5 = 1 := by kernel_rfl

/-- What came in as a list of bytes. -/
theorem open_bytes {H : Type} {enc : TypeId × Value → H} {W : World} {a : Option Addr} {len cap : Nat} {d : DataW H} {p : List MemPlace}
    (h : DataW.Trod enc Tryd.prog W 0 (fun _ => true) true 23 (.slice a len cap) d p) :
    ∃ xs : List Int, xs.length = len ∧ AllBytes xs ∧ View W (.slice a len cap) xs ∧ (d = .nil ∧ xs = [] ∨ ∃ sp, d = .slice (lits .u8 xs) sp) := by
  obtain ⟨fuel, hf⟩ := h
  rcases open_ints Tryd.underlying23 Tryd.underlying5 cells5 hf with ⟨hcs, hx⟩ | ⟨x, l, c, zs, hcs, _, hl, hm, hz, hx, hcell, hwz⟩
  · simp [Value.cells] at hcs
    obtain ⟨rfl, rfl, rfl⟩ := hcs
    simp only [Prod.mk.injEq] at hx
    refine ⟨[], rfl, fun i => by simp, ⟨none, 0, rfl, Nat.le_refl _, by simp, fun _ => rfl, .inl rfl⟩, .inl ⟨hx.1, rfl⟩⟩
  · simp [Value.cells] at hcs
    obtain ⟨rfl, rfl, rfl⟩ := hcs
    simp only [Prod.mk.injEq] at hx
    have hzl : zs.length = cap := by simpa using hz
    have hlen : (zs.take len).length = len := by simp; omega
    have hw : ∀ n ∈ zs, 0 ≤ n ∧ n < 256 := by
      intro n hn
      have := hwz n hn
      have h1 : IntKind.u8.min = 0 := rfl
      have h2 : IntKind.u8.max = 255 := rfl
      simp only [Lit.wf, Bool.and_eq_true, decide_eq_true_eq] at this
      omega
    refine ⟨zs.take len, hlen, ?_, ⟨some x, cap, by rw [hlen], by omega, hm, (fun h => by cases h), ?_⟩, .inr ⟨_, hx.1⟩⟩
    · intro i
      rw [List.getD_eq_getElem?_getD]
      cases hg : (zs.take len)[i]? with
      | none => simp
      | some n =>
        have hn : n ∈ zs := List.mem_of_mem_take (List.mem_of_getElem? hg)
        simpa using hw n hn
    · by_cases h0 : len = 0
      · left
        subst h0
        simp
      · right
        obtain ⟨b, off, spot⟩ := x
        have hc0 := hcell 0 (by omega)
        have hspot : spot = none := by simpa [Addr.add] using World.cell?_spot hc0
        subst hspot
        refine ⟨b, off, rfl, fun i hi => ?_⟩
        rw [hlen] at hi
        have := hcell i (by omega)
        rw [Addr.add_lit] at this
        rw [this]
        congr 2
        simp [List.getD_eq_getElem?_getD, hi]

/-- The reach of it. -/
theorem reach_bytes {H : Type} {ts : List TypeId} {ds : List (DataW H)} (hsz : (DataW.weightsEach Tryd.prog ts ds).all (· ≤ reachBytes) = true) {j : Nat} {d : DataW H} {xs : List Int}
    (ht : ts[j]? = some 23) (hd : ds[j]? = some d) (h : d = .nil ∧ xs = [] ∨ ∃ sp, d = .slice (lits .u8 xs) sp) : xs.length ≤ 140737488351232 := by
  rcases h with ⟨_, rfl⟩ | ⟨sp, rfl⟩
  · simp
  · have := sized_slice hsz (j := j) (t := 23) (e := 5) ht hd Tryd.underlying23
    rw [bytes5] at this
    simp only [lits, List.length_map, reachBytes] at this
    omega
end Go.Proofs.YtjcdhfkilnbjgaaDoor
namespace Go.Proofs.YtjcdhfkilnbjgaaDoor
open Go.ChangeShapes Go.WideShapes Go.ChangeAt Go.RowKit
set_option linter.unusedVariables false

theorem cells3 : Tryd.prog.cellsOf 3 = 1 := by kernel_rfl
theorem cells23 : Tryd.prog.cellsOf 23 = 1 := by kernel_rfl
theorem array5 {α : Type} {cs : Array α} (h : cs.size = 5) : ∃ c0 c1 c2 c3 c4, cs = #[c0, c1, c2, c3, c4] := by
  obtain ⟨l⟩ := cs
  match l, h with
  | [c0, c1, c2, c3, c4], _ => exact ⟨c0, c1, c2, c3, c4, rfl⟩
set_option maxRecDepth 100000 in
/-- An int's cell. -/
theorem cell_int {H : Type} {enc : TypeId × Value → H} {W : World} {n : Nat} {c : Value} {y : DataW H × List MemPlace} (h : DataW.trod enc Tryd.prog W 0 (fun _ => true) true n 3 [c] = some y) : ∃ z, c = .int .i64 z := by
  obtain ⟨z, hz, _⟩ := DataW.trod_int Tryd.underlying3 h
  exact ⟨z, by simpa using hz⟩
theorem cell_bytes {H : Type} {enc : TypeId × Value → H} {W : World} {n : Nat} {c : Value} {y : DataW H × List MemPlace} (h : DataW.trod enc Tryd.prog W 0 (fun _ => true) true n 23 [c] = some y) : ∃ a l cap xs, c = .slice a l cap ∧ View W (.slice a l cap) xs := by
  have hc : ∃ a l cap, c = .slice a l cap := by
    rcases open_ints Tryd.underlying23 Tryd.underlying5 cells5 h with ⟨hcs, _⟩ | ⟨a, l, cap, zs, hcs, _⟩
    · exact ⟨none, 0, 0, by simpa using hcs⟩
    · exact ⟨some a, l, cap, by simpa using hcs⟩
  obtain ⟨a, l, cap, rfl⟩ := hc
  obtain ⟨xs, _, _, hv, _⟩ := open_bytes (enc := enc) (W := W) (a := a) (len := l) (cap := cap) (d := y.1) (p := y.2) ⟨n, by simpa [Value.cells] using h⟩
  exact ⟨a, l, cap, xs, rfl, hv⟩
/-- Bytes in a cell, all bytes. -/
theorem cell_bytesF {H : Type} {enc : TypeId × Value → H} {W : World} {n : Nat} {c : Value} {y : DataW H × List MemPlace} (h : DataW.trod enc Tryd.prog W 0 (fun _ => true) true n 23 [c] = some y) : ∃ a l cap xs, c = .slice a l cap ∧ AllBytes xs ∧ View W (.slice a l cap) xs := by
  have hc : ∃ a l cap, c = .slice a l cap := by
    rcases open_ints Tryd.underlying23 Tryd.underlying5 cells5 h with ⟨hcs, _⟩ | ⟨a, l, cap, zs, hcs, _⟩
    · exact ⟨none, 0, 0, by simpa using hcs⟩
    · exact ⟨some a, l, cap, by simpa using hcs⟩
  obtain ⟨a, l, cap, rfl⟩ := hc
  obtain ⟨xs, _, hb, hv, _⟩ := open_bytes (enc := enc) (W := W) (a := a) (len := l) (cap := cap) (d := y.1) (p := y.2) ⟨n, by simpa [Value.cells] using h⟩
  exact ⟨a, l, cap, xs, rfl, hb, hv⟩
theorem cell_u16 {H : Type} {enc : TypeId × Value → H} {W : World} {n : Nat} {c : Value} {y : DataW H × List MemPlace} (h : DataW.trod enc Tryd.prog W 0 (fun _ => true) true n 22 [c] = some y) : ∃ z : Nat, c = .int .u16 (z : Nat) ∧ z < 65536 := by
  obtain ⟨z, hz, _, hw⟩ := DataW.trod_int Tryd.underlying22 h
  simp [Lit.wf, IntKind.min, IntKind.max, IntKind.signed, IntKind.bits] at hw
  have e : c = .int .u16 z := by simpa using hz
  exact ⟨z.toNat, by rw [e]; congr 1; omega, by omega⟩
theorem cell_bool {H : Type} {enc : TypeId × Value → H} {W : World} {n : Nat} {c : Value} {y : DataW H × List MemPlace} (h : DataW.trod enc Tryd.prog W 0 (fun _ => true) true n 4 [c] = some y) : ∃ b, c = .bool b := by
  obtain ⟨z, hz, _⟩ := DataW.trod_bool Tryd.underlying4 h
  exact ⟨z, by simpa using hz⟩
theorem array6 {α : Type} {cs : Array α} (h : cs.size = 6) : ∃ c0 c1 c2 c3 c4 c5, cs = #[c0, c1, c2, c3, c4, c5] := by
  obtain ⟨l⟩ := cs
  match l, h with
  | [c0, c1, c2, c3, c4, c5], _ => exact ⟨c0, c1, c2, c3, c4, c5, rfl⟩
theorem zi_of (xs : List Int) (h : AllBytes xs) : ∃ l : List F, zi l = xs := by
  refine ⟨xs.map fI, ?_⟩
  unfold zi
  rw [List.map_map]
  refine (List.map_congr_left fun x hx => ?_).trans (List.map_id _)
  obtain ⟨i, hi, rfl⟩ := List.mem_iff_getElem.1 hx
  have q := h i
  rw [List.getD_eq_getElem?_getD, List.getElem?_eq_getElem hi] at q
  simp only [Option.getD_some] at q
  show ((xs[i].toNat % 256 : Nat) : Int) = _
  simp only [id_eq]
  omega
theorem cells25s : Tryd.prog.cellsOf 25 = 6 := by kernel_rfl
theorem cells22s : Tryd.prog.cellsOf 22 = 1 := by kernel_rfl
theorem cells4s : Tryd.prog.cellsOf 4 = 1 := by kernel_rfl
set_option maxRecDepth 100000 in
/-- A Deal that came in. -/
theorem open_deal {H : Type} {enc : TypeId × Value → H} {W : World} {r : Reach} {b0 : Nat} {v : Value} {d : DataW H} {p : List MemPlace} (hv : Value.okWide Tryd.prog W r b0 25 v) (h : DataW.Trod enc Tryd.prog W 0 (fun _ => true) true 25 v d p) :
    ∃ (sn : Nat) (nd ct : Int) (own : Bool) (sa ra : Option Addr) (sl sc rl rc : Nat) (S R : List F), sn < 65536 ∧ v = .agg #[.int .u16 (sn : Nat), .slice sa sl sc, .int .i64 nd, .int .i64 ct, .bool own, .slice ra rl rc] ∧ Vf W (.slice sa sl sc) S ∧ Vf W (.slice ra rl rc) R := by
  obtain ⟨cs, rfl, hsz⟩ := okWide_struct Tryd.underlying25 hv
  obtain ⟨c0, c1, c2, c3, c4, c5, rfl⟩ := array6 (hsz.trans cells25s)
  obtain ⟨fuel, hf⟩ := h
  obtain ⟨xs, n, _, hx, _, hlen, hfs⟩ := DataW.trod_struct Tryd.underlying25 hf
  match xs, hlen with
  | [y0, y1, y2, y3, y4, y5], _ =>
    have h0 := hfs 0 _ rfl
    have h1 := hfs 1 _ rfl
    have h2 := hfs 2 _ rfl
    have h3 := hfs 3 _ rfl
    have h4 := hfs 4 _ rfl
    have h5 := hfs 5 _ rfl
    simp [Value.cells, cells3, cells23, cells22s, cells4s] at h0 h1 h2 h3 h4 h5
    obtain ⟨sn, rfl, hsn⟩ := cell_u16 h0
    obtain ⟨sa, sl, sc, S, rfl, bS, vS⟩ := cell_bytesF h1
    obtain ⟨nd, rfl⟩ := cell_int h2
    obtain ⟨ct, rfl⟩ := cell_int h3
    obtain ⟨own, rfl⟩ := cell_bool h4
    obtain ⟨ra, rl, rc, R, rfl, bR, vR⟩ := cell_bytesF h5
    obtain ⟨S', rfl⟩ := zi_of S bS
    obtain ⟨R', rfl⟩ := zi_of R bR
    exact ⟨sn, nd, ct, own, sa, ra, sl, sc, rl, rc, S', R', hsn, rfl, vS, vR⟩
end Go.Proofs.YtjcdhfkilnbjgaaDoor
namespace Go.Proofs.YtjcdhfkilnbjgaaDoor
open Go.ChangeShapes Go.WideShapes Go.ChangeAt Go.RowKit
set_option linter.unusedVariables false
/-- A block that holds a table. -/
def refilled2 (zs : List Int) : Obj → Obj
  | .cells _ t frozen => .cells (zs.map (Value.int .u64)).toArray t frozen
  | o => o
/-- The tables, as the row lays them. -/
theorem tables_of {W : World} (h : laidMet Tryd.prog [("coffer/digest.roots", Lib.tabData .u64 rootsL), ("coffer/digest.cubes", Lib.tabData .u64 cubesL)] W) : Tables W := by
  have hr : Lib.TabIs Tryd.prog W "coffer/digest.roots" .u64 rootsL := Lib.tabIs_of_head (g := 0) (t := 164) (e := 138) (n := 16) (by kernel_rfl) (by kernel_rfl) (by kernel_rfl) (by kernel_rfl) (by kernel_rfl) (by kernel_rfl) h
  have hc : Lib.TabIs Tryd.prog W "coffer/digest.cubes" .u64 cubesL := by
    obtain ⟨ps, ⟨g1, t1, cs1, fuel1, p1, q1, _, _, _, _, hrest, _⟩, _⟩ := h
    obtain ⟨g', t', cs, fuel, p, q, hg', ht', hvar, hd, _, _⟩ := hrest
    have hg : Tryd.prog.globalNamed "coffer/digest.cubes" = some 2 := by kernel_rfl
    obtain rfl := Option.some.inj (hg.symm.trans hg')
    have hty : (Tryd.prog.globals[2]?).map (·.type) = some 160 := by kernel_rfl
    obtain rfl := Option.some.inj (hty.symm.trans ht')
    unfold Lib.TabIs
    rw [hvar, ← Lib.cells_of_tab (n := 80) (e := 138) (by kernel_rfl) (by kernel_rfl) (by kernel_rfl) (by kernel_rfl) hd]
  exact ⟨fun t ht => hc.cell (by kernel_rfl) t (by simpa [cubesL] using ht), fun t ht => hr.cell (by kernel_rfl) t (by simpa [rootsL] using ht)⟩
end Go.Proofs.YtjcdhfkilnbjgaaDoor
