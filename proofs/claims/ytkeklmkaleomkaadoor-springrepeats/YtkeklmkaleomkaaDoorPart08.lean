import Derived.Test.YtkeklmkaleomkaaDoorPart07
import Derived.Test.YtkeklmkaleomkaaDoorPart04
import Derived.Test.YtkeklmkaleomkaaDoorPart06
import Derived.Deep.Slices
import Derived.ProofKit
import Derived.OpenShut
import Derived.ChangeOld
namespace Go.Proofs.YtkeklmkaleomkaaDoor
open Go.RowKit
set_option linter.unusedVariables false
set_option linter.unusedSimpArgs false
set_option maxHeartbeats 800000 in
set_option maxRecDepth 100000 in
/-- bytes: what lists hold together. -/
theorem bytes_ok (g : Nat) (v : Value) (yss : List (List Int)) (w : World) (hp : Hid (Parts w g v yss)) (hl : Hid (yss.flatten.length ≤ 140737488355328)) :
    Calls Tryd.prog 15 #[v] w fun e w' => e = .returned (.int .i64 (yss.flatten.length : Nat)) ∧ w' = w := by
  obtain ⟨N, HNN⟩ : ∃ N, Hid (N = yss.flatten.length) := ⟨_, rfl⟩
  rw [← HNN.out]
  obtain ⟨a, c, rfl, h1, h2, h3⟩ := hp.out
  obtain ⟨n, hn⟩ : ∃ n, n = yss.length := ⟨_, rfl⟩
  rw [← hn] at h1
  have HN : Hid (yss.length = n) := hn.symm
  rw [← hn]
  have h2b : c ≤ 9223372036854775807 := by unfold maxLen at h2; omega
  clear h2
  by_cases h0 : n = 0
  · subst h0
    have e0 : yss = [] := List.eq_nil_of_length_eq_zero hn.symm
    subst e0
    obtain rfl : N = 0 := HNN.out
    clear hn HN h1 HNN
    go_enter Tryd.func15, Tryd.ntmps15
    go_wp2
    go_loop [4, 3] (fun i l => i = .int .i64 0 ∧ l = .int .i64 0) (fun _ _ => 0)
    case atStart => exact ⟨rfl, rfl⟩
    case round =>
      obtain ⟨rfl, rfl⟩ := hrel
      go_wp2
      go_ret
      exact ⟨rfl, rfl⟩
  · obtain ⟨b, p, rfl, hb, hc⟩ : ∃ b p, a = some ⟨b, p, none⟩ ∧ b ≠ g ∧ ∀ i, i < yss.length → ∃ x, w.cell? ⟨b, p + i, none⟩ = some x ∧ View w x (yss.getD i []) ∧ (yss.getD i [] ≠ [] → ∀ b' off l c', x = .slice (some ⟨b', off, none⟩) l c' → b' ≠ g) := by
      rcases h3 with h3 | h3
      · have h5 := HN.out; rw [h3] at h5; simp at h5; omega
      · exact h3
    have HC : Hid (∀ i, i < n → ∃ a l c, w.cell? ⟨b, p + i, none⟩ = some (.slice a l c) ∧ l = (yss.getD i []).length ∧ l ≤ c ∧ c ≤ 9223372036854775807) := fun i hi => by
      obtain ⟨x, q1, ⟨a, c, q2, q3, q4, _⟩, _⟩ := hc i (by rw [HN.out]; exact hi)
      exact ⟨a, _, c, by rw [q1, q2], rfl, q3, by unfold maxLen at q4; omega⟩
    clear h3 hc hn
    go_enter Tryd.func15, Tryd.ntmps15
    go_wp2
    go_loop [4, 3] (fun i l => ∃ k r : Nat, k ≤ n ∧ i = .int .i64 k ∧ l = .int .i64 r ∧ Hid (r = (yss.take k).flatten.length)) (fun i _ => n - (intOf i).toNat)
    case atStart => exact ⟨0, 0, Nat.zero_le _, rfl, rfl, rfl⟩
    case round =>
      obtain ⟨k, r, hk, rfl, rfl, HR⟩ := hrel
      by_cases hlt : k < n
      · obtain ⟨xa, xl, xc, hcell, hxl, hxc, hxc2⟩ := HC.out k hlt
        have hst := sum_step yss k (by rw [HN.out]; exact hlt)
        have hle := sum_le yss (k + 1)
        have hsum : (yss.take (k + 1)).flatten.length = r + xl := by rw [hst, List.length_append, ← HR.out, hxl]
        have hrx : ((r + xl : Nat) : Int) ≤ 140737488355328 := by have := hl.out; omega
        have HS : Hid (r + xl = (yss.take (k + 1)).flatten.length) := hsum.symm
        clear hst hle hsum hxl HR
        go_wp2
        all_goals go_roundw
        all_goals first
          | (simp [intOf]; omega)
          | exact ⟨k + 1, r + xl, by omega, by go_num, by go_num, HS⟩
      · obtain rfl : k = n := by omega
        have HF : Hid (r = N) := by show _ = _; rw [HR.out, ← HN.out, List.take_length, HNN.out]
        clear HR HNN hl
        obtain rfl : r = N := HF.out
        go_wp2
        go_ret
        exact ⟨rfl, rfl⟩
set_option maxHeartbeats 400000 in
theorem feeds_few (a : Option Addr) (n c : Nat) (w : World) (h1 : n < 16) : Calls Tryd.prog 23 #[.slice a n c] w fun e w' => e = .returned (.bool false) ∧ w' = w := by
  have d1 : decide ((16 : Int) ≤ (n : Nat)) = false := by simp; omega
  go_enter Tryd.func23, Tryd.ntmps23
  go_wp2
  go_ret
  exact ⟨rfl, rfl⟩
set_option maxHeartbeats 400000 in
theorem feeds_many (a : Option Addr) (n c : Nat) (w : World) (h1 : 65536 < n) : Calls Tryd.prog 23 #[.slice a n c] w fun e w' => e = .returned (.bool false) ∧ w' = w := by
  have d1 : decide ((16 : Int) ≤ (n : Nat)) = true := by simp; omega
  have d2 : decide (((n : Nat) : Int) ≤ 65536) = false := by simp; omega
  go_enter Tryd.func23, Tryd.ntmps23
  go_wp2
  go_ret
  exact ⟨rfl, rfl⟩
/-- What Feed tells. -/
def feedE (en tot : Nat) : Int := if en < 16 ∨ 65536 < en then 60 else if 65536 < tot then 4 else 0
set_option maxHeartbeats 400000 in
theorem spfeed_60 (g : Nat) (ea : Option Addr) (en ec : Nat) (v : Value) (w : World) (h1 : en < 16 ∨ 65536 < en) :
    Calls Tryd.prog 14 #[.pointer (some ⟨g, 0, none⟩), .slice ea en ec, v] w fun e w' => e = .returned (.int .i64 60) ∧ w' = w := by
  have HF : Hid (∀ u, Calls Tryd.prog 23 #[.slice ea en ec] u fun e w' => e = .returned (.bool false) ∧ w' = u) := fun u => by
    rcases h1 with h1 | h1
    · exact feeds_few ea en ec u h1
    · exact feeds_many ea en ec u h1
  go_enter Tryd.func14, Tryd.ntmps14
  go_wp2_with (go_at_call 23; refine (HF.out _).mono ?_; rintro e5 w5 ⟨rfl, hw5⟩; obtain rfl := hw5.symm)
  go_ret
  exact ⟨rfl, rfl⟩
set_option maxHeartbeats 400000 in
theorem spfeed_4 (g : Nat) (ea : Option Addr) (en ec : Nat) (v : Value) (yss : List (List Int)) (w : World) (h1 : 16 ≤ en) (h2 : en ≤ 65536) (hp : Hid (Parts w g v yss)) (hl : Hid (yss.flatten.length ≤ 140737488355328)) (h3 : Hid (65536 < yss.flatten.length)) :
    Calls Tryd.prog 14 #[.pointer (some ⟨g, 0, none⟩), .slice ea en ec, v] w fun e w' => e = .returned (.int .i64 4) ∧ w' = w := by
  obtain ⟨N, HNN⟩ : ∃ N, Hid (N = yss.flatten.length) := ⟨_, rfl⟩
  have hN : (65536 : Int) < (N : Nat) := by have := h3.out; rw [← HNN.out] at this; omega
  have HJ : Hid (Calls Tryd.prog 25 #[v] w fun e w' => e = .returned (.int .i64 (N : Nat)) ∧ w' = w) := by
    have q := joined_ok g v yss w hp hl
    rw [← HNN.out] at q
    exact q
  go_enter Tryd.func14, Tryd.ntmps14
  go_wp2_with (first | (go_at_call 25; refine HJ.out.mono ?_; rintro e5 w5 ⟨rfl, hw5⟩; obtain rfl := hw5.symm) | (go_at_call 23; refine (feeds_ok ea en ec _ h1 h2).mono ?_; rintro e5 w5 ⟨rfl, hw5⟩; obtain rfl := hw5.symm))
  go_ret
  exact ⟨rfl, rfl⟩
theorem feed_bad (g : Nat) (ea : Option Addr) (en ec : Nat) (v : Value) (yss : List (List Int)) (w : World) (hp : Parts w g v yss) (hl : yss.flatten.length ≤ 140737488355328) (h : feedE en yss.flatten.length ≠ 0) :
    Calls Tryd.prog 14 #[.pointer (some ⟨g, 0, none⟩), .slice ea en ec, v] w fun e w' => e = .returned (.int .i64 (feedE en yss.flatten.length)) ∧ w' = w := by
  unfold feedE at h ⊢
  by_cases h1 : en < 16 ∨ 65536 < en
  · rw [if_pos h1]
    exact spfeed_60 g ea en ec v w h1
  · rw [if_neg h1] at h ⊢
    by_cases h2 : 65536 < yss.flatten.length
    · rw [if_pos h2]
      exact spfeed_4 g ea en ec v yss w (by omega) (by omega) hp hl h2
    · rw [if_neg h2] at h
      exact absurd rfl h
theorem feedE_zero {en tot : Nat} (h : feedE en tot = 0) : 16 ≤ en ∧ en ≤ 65536 ∧ tot ≤ 65536 := by
  unfold feedE at h
  by_cases h1 : en < 16 ∨ 65536 < en
  · rw [if_pos h1] at h; omega
  · rw [if_neg h1] at h
    by_cases h2 : 65536 < tot
    · rw [if_pos h2] at h; omega
    · omega
end Go.Proofs.YtkeklmkaleomkaaDoor
namespace Go.Proofs.YtkeklmkaleomkaaDoor
open Go.RowKit
set_option linter.unusedVariables false
set_option linter.unusedSimpArgs false
set_option maxHeartbeats 1600000 in
set_option maxRecDepth 100000 in
theorem rp_0 (dg L : Int) (ea na pa sa : Option Addr) (en ec nn nc pn pc sn sc : Nat) (w : World) (k : Hid (¬ Good dg L en nn pn)) :
    Calls Tryd.prog 4 #[.agg #[.int .i64 dg, .int .i64 L, .slice ea en ec, .slice na nn nc, .slice pa pn pc], .slice sa sn sc] w fun e w' => e = .returned (.bool true) ∧ Below w.heap.size w w' := by
  obtain ⟨w0, hw0⟩ : ∃ w0, w0 = w.alloc (.cells #[.int .i64 dg, .int .i64 L, .slice ea en ec, .slice na nn nc, .slice pa pn pc] 24) := ⟨_, rfl⟩
  have HB00 : Hid (Below w.heap.size w w0) := by rw [hw0]; exact (Below.refl _ _).alloc (Nat.le_refl _) _
  have HS0 : Hid (w0.heap.size = w.heap.size + 1) := by rw [hw0]; exact size_alloc1 _ _
  have F : ∀ j v, (#[.int .i64 dg, .int .i64 L, .slice ea en ec, .slice na nn nc, .slice pa pn pc] : Array Value)[j]? = some v → w0.cell? ⟨w.heap.size, j, none⟩ = some v := fun j v hj => by
    rw [hw0, World.cell?_alloc_at _ 24 _ _ rfl]
    exact hj
  have f0 := F 0 _ rfl
  have f1 := F 1 _ rfl
  have f2 := F 2 _ rfl
  have f3 := F 3 _ rfl
  have f4 := F 4 _ rfl
  clear F
  have HG : Hid (Calls Tryd.prog 8 #[.agg #[.int .i64 dg, .int .i64 L, .slice ea en ec, .slice na nn nc, .slice pa pn pc]] w0 fun e w' => Hid (e = .returned (.bool false) ∧ Below w0.heap.size w0 w')) := by
    refine (good_any dg L ea na pa en ec nn nc pn pc w0).mono ?_
    rintro e w' ⟨G, q1, q2, q3⟩
    refine ⟨?_, q3⟩
    cases G
    · exact q1
    · exact absurd (q2.1 rfl) k.out
  go_enter Tryd.func4, Tryd.ntmps4
  go_upto_region 1 with fail
  rw [← hw0]
  clear hw0
  go_wp2_with (go_at_call 8; refine HG.out.mono ?_)
  intro e1 w1 hh
  obtain ⟨rfl, hb1⟩ := hh.out
  have HB1 : Hid (Below w.heap.size w w1) := HB00.out.trans (hb1.mono HB00.out.size)
  clear hh hb1 HG f0 f1 f2 f3 f4
  go_wp2
  go_ret
  exact ⟨rfl, HB1.out⟩
theorem view_cases {w : World} {a : Option Addr} {m c : Nat} {A : List Int} (h : View w (.slice a m c) A) (hl : A.length = m) : (a = none ∧ m = 0 ∧ c = 0 ∧ A = []) ∨ ∃ x, a = some x ∧ ∀ j u, (cellsU8 A)[j]? = some u → w.cell? (x.add j) = some u := by
  obtain ⟨a', c', e, q1, q2, q3, q4⟩ := h
  injection e with e1 e2 e3
  subst e1 e3
  rcases a with _ | x
  · rcases q4 with q4 | ⟨b, p, e, _⟩
    · have := q3 rfl
      refine .inl ⟨rfl, by rw [← hl, q4]; rfl, this, q4⟩
    · cases e
  · refine .inr ⟨x, rfl, ?_⟩
    rcases q4 with rfl | ⟨b, p, e, hc⟩
    · intro j u hu
      simp [cellsU8] at hu
    · injection e with e
      subst e
      exact cellsU8_at A w b p hc
theorem owns_slice {w : World} {B n : Nat} {v : Value} {cs : List Value} (h : w.ownsRow B 5 1 v n cs) : ∃ a c, v = .slice a n c := by
  rcases h.2 with ⟨rfl, e⟩ | ⟨g, c, cur, rfl, _⟩
  · exact ⟨none, 0, by rw [e]⟩
  · exact ⟨some ⟨g, 0, none⟩, c, rfl⟩
theorem info5_parts : ∃ i, Tryd.prog.info? 5 = some i ∧ i.zero = some (.int .u8 0) ∧ i.size = 1 ∧ i.bytes = 1 := by
  have q : (Tryd.prog.info? 5).map (fun i => (i.zero, i.size, i.bytes)) = some (some (.int .u8 0), 1, 1) := by kernel_rfl
  cases hi : Tryd.prog.info? 5 with
  | none => rw [hi] at q; cases q
  | some i =>
    rw [hi] at q
    simp at q
    exact ⟨i, rfl, q.1, q.2.1, q.2.2⟩
/-- append of bytes to a row that is owned. -/
theorem append_bytes (w : World) (base : Nat) (v0 : Value) (n : Nat) (A : List Int) (hown : w.ownsRow base 5 1 v0 n (cellsU8 A)) (xa : Option Addr) (m c : Nat) (Z : List Int) (hv : View w (.slice xa m c) Z) (hm : Z.length = m) (hl : n + m ≤ 140737488355328) (hbase : base ≤ w.heap.size) (ty : TypeId) :
    ∃ v' w', (Builtin.append_ #[22, 22] ty #[v0, .slice xa m c]).run Tryd.prog w = .ok v' w' ∧ w'.ownsRow base 5 1 v' (n + m) (cellsU8 (A ++ Z)) ∧ w.grownBy w' v0.ownBlock := by
  obtain ⟨i, hi, hz0, hz1, hz2⟩ := info5_parts
  rcases view_cases hv hm with ⟨rfl, rfl, rfl, rfl⟩ | ⟨ad, rfl, hc⟩
  · exact ⟨v0, w, run_append_owned_none (P := Tryd.prog) (w := w) base 22 ty 5 i 1 Tryd.underlying22 hi v0 n (cellsU8 A) hown, by simpa using hown, ⟨rfl, rfl, rfl, Nat.le_refl _, fun _ _ _ => rfl⟩⟩
  · obtain ⟨v', w', r1, r2, r3, _, _⟩ := run_append_own_at (P := Tryd.prog) w base 22 ty 5 i (.int .u8 0) 1 1 Tryd.underlying22 hi hz0 hz1 hz2 rfl (by decide) v0 n (cellsU8 A) hown ad m c (cellsU8 Z) (by rw [cellsU8_length, hm, Nat.mul_one]) hc (cellsU8_one _) (by unfold maxLen; omega) (by omega) hbase
    rw [← cellsU8_append] at r2
    exact ⟨v', w', r1, r2, r3⟩
theorem wp_append_bytes {w w' : World} {v0 v v' : Value} {o : Oper} {a : Act} {K : Act → World → Prop} {Q : Exit → Act → World → Prop} (s x : Operand) (ho : o.op = .call { callee := .builtin .append, args := #[s, x], argTypes := #[22, 22] }) (hs : a.eval s = v0) (hx : a.eval x = v) (hrun : (Builtin.append_ #[22, 22] o.type #[v0, v]).run Tryd.prog w = .ok v' w') (h : K (a.put o.dst v') w') : o.wp Tryd.prog a w K Q := by
  unfold Oper.wp execOp
  simp only [ho, resolve, invoke, builtin, Sem.run_bind, Sem.run_pure, Result.andThen_ok, List.map_toArray, List.map_cons, List.map_nil, hs, hx, hrun]
  exact h
/-- One step of a script. -/
structure OpAt (w : World) (b o : Nat) (kd at_ n : Int) (ea : Option Addr) (en ec : Nat) (E : List Int) (xv : Value) (xs : List Value) (yss : List (List Int)) : Prop where
  c0 : w.cell? ⟨b, o, none⟩ = some (.int .i64 kd)
  c1 : w.cell? ⟨b, o + 1, none⟩ = some (.int .i64 at_)
  c2 : w.cell? ⟨b, o + 2, none⟩ = some (.int .i64 n)
  c3 : w.cell? ⟨b, o + 3, none⟩ = some (.slice ea en ec)
  c4 : w.cell? ⟨b, o + 4, none⟩ = some xv
  vE : View w (.slice ea en ec) E
  lE : E.length = en
  pv : PV w xv xs yss
  nl : xv = .slice none 0 0 ∨ ∃ ad m c, xv = .slice (some ad) m c
  few : yss.length ≤ 1048576 ∧ yss.flatten.length ≤ 1048576
/-- A script that came in. -/
def ScAt (w : World) (sa : Option Addr) (sn : Nat) : Prop := ∀ i, i < sn → ∃ b o, sa = some ⟨b, o, none⟩ ∧ ∃ kd at_ n ea en ec E xv xs yss, OpAt w b (o + i * 5) kd at_ n ea en ec E xv xs yss
theorem OpAt.pl {w u : World} {b o : Nat} {kd at_ n : Int} {ea : Option Addr} {en ec : Nat} {E : List Int} {xv : Value} {xs : List Value} {yss : List (List Int)} (h : OpAt w b o kd at_ n ea en ec E xv xs yss) (hu : Below w.heap.size w u) (g : Nat) (hg : w.heap.size ≤ g) : PL u g xv yss := by
  have hp : Parts u g xv yss := parts_keep (h.pv.parts g hg) (fun q hq => hu.block q hq)
  rcases h.nl with e | ⟨ad, m, c, e⟩
  · refine .inl ⟨e, ?_⟩
    obtain ⟨a, c, e2, _⟩ := hp
    rw [e] at e2
    injection e2 with _ e3 _
    exact List.eq_nil_of_length_eq_zero e3.symm
  · exact .inr ⟨⟨ad, m, c, e⟩, hp⟩
end Go.Proofs.YtkeklmkaleomkaaDoor
namespace Go.Proofs.YtkeklmkaleomkaaDoor
open Go.RowKit
set_option linter.unusedVariables false
set_option linter.unusedSimpArgs false
theorem hidI {p : Prop} (h : p) : Hid p := h
set_option maxHeartbeats 40000000 in
set_option maxRecDepth 100000 in
theorem rp_good (dg L : Int) (ea na pa sa : Option Addr) (en ec nn nc pn pc sn sc : Nat) (E N P : List Int) (w : World) (k : Hid (Good dg L en nn pn)) (hT : Hid (Tables w)) (he : Hid (View w (.slice ea en ec) E)) (hel : Hid (E.length = en)) (hn : Hid (View w (.slice na nn nc) N)) (hnl : Hid (N.length = nn)) (hp : Hid (View w (.slice pa pn pc) P)) (hpl : Hid (P.length = pn)) (HSc : Hid (ScAt w sa sn)) (hsn : sn ≤ sc) (hsc : sc ≤ 9223372036854775807) :
    Calls Tryd.prog 4 #[.agg #[.int .i64 dg, .int .i64 L, .slice ea en ec, .slice na nn nc, .slice pa pn pc], .slice sa sn sc] w fun e w' => e = .returned (.bool true) ∧ Below w.heap.size w w' := by
  have hT4 := hT.out.size
  have HKn : Hid (Known dg) := k.out.1
  have HEn : Hid (16 ≤ en ∧ en ≤ 65536) := ⟨k.out.2.2.2.1, k.out.2.2.2.2.1⟩
  have hNP : nn ≤ 65536 ∧ pn ≤ 65536 := k.out.2.2.2.2.2
  obtain ⟨K0, HK0⟩ : ∃ K, Hid (K = updK dg (fun _ => 0) (ones (szOf dg)) (E ++ (N ++ P))) := ⟨_, rfl⟩
  obtain ⟨V0, HV0⟩ : ∃ V, Hid (V = updV dg (fun _ => 0) (ones (szOf dg)) (E ++ (N ++ P))) := ⟨_, rfl⟩
  obtain ⟨w0, hw0⟩ : ∃ w0, w0 = w.alloc (.cells #[.int .i64 dg, .int .i64 L, .slice ea en ec, .slice na nn nc, .slice pa pn pc] 24) := ⟨_, rfl⟩
  have HB00 : Hid (Below w.heap.size w w0) := by rw [hw0]; exact (Below.refl _ _).alloc (Nat.le_refl _) _
  have HS0 : Hid (w0.heap.size = w.heap.size + 1) := by rw [hw0]; exact size_alloc1 _ _
  have F : ∀ j v, (#[.int .i64 dg, .int .i64 L, .slice ea en ec, .slice na nn nc, .slice pa pn pc] : Array Value)[j]? = some v → w0.cell? ⟨w.heap.size, j, none⟩ = some v := fun j v hj => by
    rw [hw0, World.cell?_alloc_at _ 24 _ _ rfl]
    exact hj
  have f0 := F 0 _ rfl
  have f1 := F 1 _ rfl
  have f2 := F 2 _ rfl
  have f3 := F 3 _ rfl
  have f4 := F 4 _ rfl
  clear F
  have HG : Hid (Calls Tryd.prog 8 #[.agg #[.int .i64 dg, .int .i64 L, .slice ea en ec, .slice na nn nc, .slice pa pn pc]] w0 fun e w' => Hid (e = .returned (.bool true) ∧ Below w0.heap.size w0 w')) := by
    refine (good_any dg L ea na pa en ec nn nc pn pc w0).mono ?_
    rintro e w' ⟨G, q1, q2, q3⟩
    refine ⟨?_, q3⟩
    cases G
    · exact absurd (q2.2 k.out) (by simp)
    · exact q1
  have HF : Hid (w0.cell? ⟨w.heap.size, 0, none⟩ = some (.int .i64 dg) ∧ w0.cell? ⟨w.heap.size, 1, none⟩ = some (.int .i64 L) ∧ w0.cell? ⟨w.heap.size, 2, none⟩ = some (.slice ea en ec) ∧ w0.cell? ⟨w.heap.size, 3, none⟩ = some (.slice na nn nc) ∧ w0.cell? ⟨w.heap.size, 4, none⟩ = some (.slice pa pn pc)) := ⟨f0, f1, f2, f3, f4⟩
  have HNew : Hid (∀ (u : World) (xa ya : Option Addr) (xn xc yn yc : Nat) (X Y : List Int), Below w.heap.size w u → View u (.slice xa xn xc) X → X.length = xn → View u (.slice ya yn yc) Y → Y.length = yn → xn ≤ 65536 → yn ≤ 65536 → X ++ Y = N ++ P → Calls Tryd.prog 9 #[.int .i64 dg, .int .i64 16777216, .slice ea en ec, .slice xa xn xc, .slice ya yn yc] u fun e w' => Hid (∃ g, e = .returned (.tuple #[.pointer (some ⟨g, 0, none⟩), .int .i64 0]) ∧ u.heap.size ≤ g ∧ SpAt w' g dg K0 V0 16777216 0 ∧ Below u.heap.size u w')) := fun u xa ya xn xc yn yc X Y hu hx hxl hy hyl hx2 hy2 hXY => by
    rw [HK0.out, HV0.out, ← hXY]
    exact spnew dg 16777216 ea xa ya en ec xn xc yn yc E X Y u HKn (hT.out.below hu hT4) (by omega) (by omega) (he.out.kept fun b hb => hu.block b hb) hel hx hxl hy hyl HEn.out.1 HEn.out.2 hx2 hy2
  go_enter Tryd.func4, Tryd.ntmps4
  go_upto_region 1 with fail
  rw [← hw0]
  clear hw0
  go_wp2_with (go_at_call 8; refine HG.out.mono ?_)
  intro e1 w1 hh
  obtain ⟨rfl, hb1⟩ := hh.out
  have HB1 : Hid (Kt w w0 w1 ∧ w.heap.size < w1.heap.size) := ⟨⟨HB00.out.trans (hb1.mono HB00.out.size), hb1.block _ (by rw [HS0.out]; exact Nat.lt_succ_self _)⟩, by have := hb1.size; rw [HS0.out] at this; omega⟩
  clear hh hb1 HG f0 f1 f2 f3 f4
  go_upto_region 3 with fail
  -- all := append(append([]byte{}, nonce...), personal...)
  obtain ⟨W, hW⟩ : ∃ W, W = w1.alloc (.cells #[] 5) := ⟨_, rfl⟩
  have hsW : W.heap.size = w1.heap.size + 1 := by rw [hW]; simp
  have hbW : Below w1.heap.size w1 W := by rw [hW]; exact below_alloc1 w1 _
  have howW : W.ownsRow w1.heap.size 5 1 (.slice (some ⟨w1.heap.size, 0, none⟩) 0 0) 0 (cellsU8 []) := by
    have q := World.ownsRow_lit (base := w1.heap.size) (e := 5) (size := 1) w1 #[] 0 (by omega) (by decide) rfl
    rw [← hW] at q
    exact q
  have b0W : Below w.heap.size w W.drew := by
    have q := HB1.out.1.1.trans (hbW.mono HB1.out.1.1.size)
    exact ⟨q.os, q.tape, q.output, q.size, q.block⟩
  have b1W : Below w1.heap.size w1 W.drew := ⟨hbW.os, hbW.tape, hbW.output, hbW.size, hbW.block⟩
  obtain ⟨v2, w2, hap1, hown1, hgrow1⟩ := append_bytes W.drew w1.heap.size _ 0 [] howW.drew na nn nc N (hn.out.kept fun b hb => b0W.block b hb) hnl.out (by omega) (by show _ ≤ W.heap.size; omega) 22
  have hb2 : Below w1.heap.size w1 w2 := b1W.grown hgrow1 b1W.size (fun b hb => by have hb' : some (w1.heap.size) = some b := hb; injection hb' with hb'; omega)
  have hb02 : Below w.heap.size w w2 := HB1.out.1.1.trans (hb2.mono HB1.out.1.1.size)
  obtain ⟨v3, w3, hap2, hown2, hgrow2⟩ := append_bytes w2 w1.heap.size v2 (0 + nn) ([] ++ N) hown1 pa pn pc P (hp.out.kept fun b hb => hb02.block b hb) hpl.out (by omega) hb2.size 22
  have hb3 : Below w1.heap.size w1 w3 := hb2.grown hgrow2 hb2.size (fun b hb => (hown1.lt b hb).1)
  obtain ⟨aa, ac, rfl⟩ := owns_slice hown2
  rw [hW] at hap1
  obtain ⟨an, HAN⟩ : ∃ an, Hid (an = 0 + nn + pn) := ⟨_, rfl⟩
  rw [← HAN.out] at hap2 hown2
  have hanb : an ≤ 131072 := by rw [HAN.out]; omega
  have HV3 : Hid (View w3 (.slice aa an ac) (N ++ P)) := viewOwns (by simpa using hown2) (by rw [HAN.out, List.length_append, hnl.out, hpl.out]; omega)
  have HAL : Hid ((N ++ P).length = an) := by show _ = _; rw [HAN.out, List.length_append, hnl.out, hpl.out]; omega
  have HB3 : Hid (Kt w w0 w3 ∧ w.heap.size < w3.heap.size) := ⟨HB1.out.1.below hb3 HB1.out.2, by have := HB1.out.2; have := hb3.size; omega⟩
  have HSW : Hid (∀ u, Below w1.heap.size w1 u → u.cell? ⟨w.heap.size, 3, none⟩ = some (.slice na nn nc) ∧ u.cell? ⟨w.heap.size, 4, none⟩ = some (.slice pa pn pc)) := fun u hu => by
    have q := HB1.out.1.below hu HB1.out.2
    exact ⟨q.cell HF.out.2.2.2.1, q.cell HF.out.2.2.2.2⟩
  have hS0 : w1.drew.cell? ⟨w.heap.size, 3, none⟩ = some (.slice na nn nc) ∧ w1.drew.cell? ⟨w.heap.size, 4, none⟩ = some (.slice pa pn pc) := HSW.out w1.drew ⟨rfl, rfl, rfl, Nat.le_refl _, fun _ _ => rfl⟩
  refine wp_region_noPanic ?_
  refine wp_region_held_drew (S := fun u => u.cell? ⟨w.heap.size, 3, none⟩ = some (.slice na nn nc) ∧ u.cell? ⟨w.heap.size, 4, none⟩ = some (.slice pa pn pc)) (by kernel_rfl) (hS0) (fun _ => ?_)
  refine takeH_at 1 27 (.pointer (some ⟨w.heap.size, 3, none⟩)) rfl rfl (by kernel_rfl) (by kernel_rfl) (by kernel_rfl) (fun _ _ _ h => h) (hS0) (Or.inl ⟨by kernel_rfl, fun w' hS' => by have hSa := hS'.1; have hSb := hS'.2; clear hS'; go_simp⟩) ?_
  simp only [List.setIfInBounds_toArray, List.set_cons_zero, List.set_cons_succ]
  refine takeH_at 2 28 (.slice na nn nc) rfl rfl (by kernel_rfl) (by kernel_rfl) (by kernel_rfl) (fun _ _ _ h => h) (hS0) (Or.inl ⟨by kernel_rfl, fun w' hS' => by have hSa := hS'.1; have hSb := hS'.2; clear hS'; go_simp⟩) ?_
  simp only [List.setIfInBounds_toArray, List.set_cons_zero, List.set_cons_succ]
  refine takeH_at 4 30 (.pointer (some ⟨w.heap.size, 4, none⟩)) rfl rfl (by kernel_rfl) (by kernel_rfl) (by kernel_rfl) (fun _ _ _ h => h) (hS0) (Or.inl ⟨by kernel_rfl, fun w' hS' => by have hSa := hS'.1; have hSb := hS'.2; clear hS'; go_simp⟩) ?_
  simp only [List.setIfInBounds_toArray, List.set_cons_zero, List.set_cons_succ]
  refine takeH_at 5 31 (.slice pa pn pc) rfl rfl (by kernel_rfl) (by kernel_rfl) (by kernel_rfl) (fun _ _ _ h => h) (hS0) (Or.inl ⟨by kernel_rfl, fun w' hS' => by have hSa := hS'.1; have hSb := hS'.2; clear hS'; go_simp⟩) ?_
  simp only [List.setIfInBounds_toArray, List.set_cons_zero, List.set_cons_succ]
  refine wpAnyH_ready (rs := [0]) (by kernel_rfl) (by simp) ?_
  refine AllReadyH.cons rfl (fun Kc hK => ?_) AllReadyH.nil
  go_simp
  refine hK.out _ _ (HSW.out _ (by rw [hW] at b1W; exact b1W)) (fun _ => ?_)
  clear hK Kc
  try simp only [List.setIfInBounds_toArray, List.set_cons_zero, List.set_cons_succ]
  refine wpAnyH_ready (rs := [3]) (by kernel_rfl) (by simp) ?_
  refine AllReadyH.cons rfl (fun Kc hK => ?_) AllReadyH.nil
  refine wp_append_bytes (.tmp 26) (.tmp 28) rfl rfl rfl hap1 ?_
  refine hK.out _ _ (HSW.out _ hb2) (fun _ => ?_)
  clear hK Kc
  try simp only [List.setIfInBounds_toArray, List.set_cons_zero, List.set_cons_succ]
  refine wpAnyH_ready (rs := [6]) (by kernel_rfl) (by simp) ?_
  refine AllReadyH.cons rfl (fun Kc hK => ?_) AllReadyH.nil
  refine wp_append_bytes (.tmp 29) (.tmp 31) rfl rfl rfl hap2 ?_
  refine hK.out _ _ (HSW.out _ hb3) (fun _ => ?_)
  clear hK Kc
  try simp only [List.setIfInBounds_toArray, List.set_cons_zero, List.set_cons_succ]
  refine wpAnyH_ready (rs := [7]) (by kernel_rfl) (by simp) ?_
  refine AllReadyH.cons rfl (fun Kc hK => ?_) AllReadyH.nil
  go_simp
  refine hK.out _ _ (HSW.out _ hb3) (fun _ => ?_)
  clear hK Kc
  try simp only [List.setIfInBounds_toArray, List.set_cons_zero, List.set_cons_succ]
  refine wpAnyH_done (by kernel_rfl) ?_ _
  refine NoPanic.normal ?_
  clear hap1 hap2 hown1 hown2 hgrow1 hgrow2 howW hbW b0W b1W hb2 hb02 hb3 hS0 HSW hW hsW HB1
  obtain ⟨m, hm2⟩ : ∃ m : Nat, m = an / 2 := ⟨_, rfl⟩
  have hmq : ((an : Nat) : Int).tdiv 2 = (m : Nat) := by rw [hm2, Int.tdiv_eq_ediv_of_nonneg (by omega)]; omega
  have hmq2 : ((an : Nat) : Int) / 2 = (m : Nat) := by omega
  have HM : Hid (m ≤ an ∧ an - m ≤ 65536 ∧ m ≤ 65536) := ⟨by omega, by omega, by omega⟩
  clear hm2
  have g0 := HB3.out.1.cell HF.out.1
  have g2 := HB3.out.1.cell HF.out.2.2.1
  have g3 := HB3.out.1.cell HF.out.2.2.2.1
  have g4 := HB3.out.1.cell HF.out.2.2.2.2
  have HN1 := HNew.out w3 na pa nn nc pn pc N P HB3.out.1.1 (hn.out.kept fun b hb => HB3.out.1.1.block b hb) hnl.out (hp.out.kept fun b hb => HB3.out.1.1.block b hb) hpl.out hNP.1 hNP.2 rfl
  have HN1H := hidI HN1
  clear HN1
  go_wp2_with (go_at_call 9; refine HN1H.out.mono ?_)
  intro e4 w4 hh
  obtain ⟨ga, rfl, hg4, hs4, hb4⟩ := hh.out
  have H4 : Hid (SpAt w4 ga dg K0 V0 16777216 0 ∧ Kt w w0 w4 ∧ w.heap.size < ga ∧ View w4 (.slice aa an ac) (N ++ P)) := ⟨hs4, HB3.out.1.below hb4 HB3.out.2, by have := HB3.out.2; omega, HV3.out.kept fun b hb => hb4.block b hb⟩
  clear hh hg4 hs4 hb4 HN1H HB3 HV3 g0 g2 g3 g4
  have g0 := H4.out.2.1.cell HF.out.1
  have g2 := H4.out.2.1.cell HF.out.2.2.1
  have g3 := H4.out.2.1.cell HF.out.2.2.2.1
  have g4 := H4.out.2.1.cell HF.out.2.2.2.2
  have HN1H := hidI (HNew.out w4 na pa nn nc pn pc N P H4.out.2.1.1 (hn.out.kept fun b hb => H4.out.2.1.1.block b hb) hnl.out (hp.out.kept fun b hb => H4.out.2.1.1.block b hb) hpl.out hNP.1 hNP.2 rfl)
  go_wp2_with (go_at_call 9; refine HN1H.out.mono ?_)
  intro e5 w5 hh
  obtain ⟨gb, rfl, hg5, hs5, hb5⟩ := hh.out
  have H5 : Hid (SpAt w5 ga dg K0 V0 16777216 0 ∧ SpAt w5 gb dg K0 V0 16777216 0 ∧ Kt w w0 w5 ∧ w.heap.size < ga ∧ ga < gb ∧ View w5 (.slice aa an ac) (N ++ P)) := ⟨H4.out.1.below hb5, hs5, H4.out.2.1.below hb5 (by have := H4.out.1.lt; have := H4.out.2.2.1; omega), H4.out.2.2.1, by have := H4.out.1.lt; omega, H4.out.2.2.2.kept fun b hb => hb5.block b hb⟩
  clear hh hg5 hs5 hb5 HN1H H4 g0 g2 g3 g4
  have g0 := H5.out.2.2.1.cell HF.out.1
  have g2 := H5.out.2.2.1.cell HF.out.2.2.1
  obtain ⟨x1, n1, c1, HX1⟩ : ∃ a l c, Hid (Value.slice a l c = sliced aa 0 m ac 1) := ⟨_, _, _, (show _ = _ from rfl)⟩
  obtain ⟨x2, n2, c2, HX2⟩ : ∃ a l c, Hid (Value.slice a l c = sliced aa m an ac 1) := ⟨_, _, _, (show _ = _ from rfl)⟩
  have hac : an ≤ ac := by obtain ⟨_, _, e, q1, _⟩ := H5.out.2.2.2.2.2; injection e with _ e2 e3; omega
  have hsl1 : Hid (∀ u, (Instr.slice 22 (.slice aa an ac) none (some (.int .i64 (m : Nat))) none).run Tryd.prog u = .ok (.slice x1 n1 c1) u) := fun u => by rw [HX1.out]; exact slice_h u aa an ac m (by have := HM.out; omega)
  have hsl2 : Hid (∀ u, (Instr.slice 22 (.slice aa an ac) (some (.int .i64 (m : Nat))) none none).run Tryd.prog u = .ok (.slice x2 n2 c2) u) := fun u => by rw [HX2.out]; exact slice_l u aa an ac m HM.out.1 hac
  have HV1 : Hid (View w5 (.slice x1 n1 c1) ((N ++ P).take m) ∧ n1 = m) := by
    refine ⟨?_, ?_⟩
    · rw [HX1.out]; have q := view_sliced H5.out.2.2.2.2.2 0 m (by omega) HM.out.1; simpa using q
    · have q := HX1.out; rw [sliced] at q; injection q
  have HV2 : Hid (View w5 (.slice x2 n2 c2) ((N ++ P).drop m) ∧ n2 = an - m) := by
    refine ⟨?_, ?_⟩
    · rw [HX2.out]
      have q := view_sliced H5.out.2.2.2.2.2 m an HM.out.1 (Nat.le_refl _)
      rw [List.take_of_length_le (by rw [List.length_drop, HAL.out]; omega)] at q
      exact q
    · have q := HX2.out; rw [sliced] at q; injection q
  have HN1H : Hid (∀ mm, Calls Tryd.prog 9 #[.int .i64 dg, .int .i64 16777216, .slice ea en ec, .slice x1 n1 c1, .slice x2 n2 c2] (w5.drewN mm) fun e w' => Hid (∃ g, e = .returned (.tuple #[.pointer (some ⟨g, 0, none⟩), .int .i64 0]) ∧ w5.heap.size ≤ g ∧ SpAt w' g dg K0 V0 16777216 0 ∧ Below w5.heap.size w5 w')) := fun mm => by
    have sm := (Sm.refl w5).drewN mm
    refine (HNew.out (w5.drewN mm) x1 x2 n1 c1 n2 c2 _ _ (Below.ofSm H5.out.2.2.1.1 sm) (sm.view HV1.out.1) (by rw [List.length_take, HAL.out, HV1.out.2]; have := HM.out; omega) (sm.view HV2.out.1) (by rw [List.length_drop, HAL.out, HV2.out.2]) (by have := HM.out; have := HV1.out.2; omega) (by have := HM.out; have := HV2.out.2; omega) (List.take_append_drop m (N ++ P))).mono ?_
    rintro e w' q
    obtain ⟨g, r1, r2, r3, r4⟩ := q.out
    exact ⟨g, r1, r2, r3, ⟨r4.os, r4.tape, r4.output, r4.size, r4.block⟩⟩
  have HNd : Hid (Calls Tryd.prog 9 #[.int .i64 dg, .int .i64 16777216, .slice ea en ec, .slice x1 n1 c1, .slice x2 n2 c2] w5.drew fun e w' => Hid (∃ g, e = .returned (.tuple #[.pointer (some ⟨g, 0, none⟩), .int .i64 0]) ∧ w5.heap.size ≤ g ∧ SpAt w' g dg K0 V0 16777216 0 ∧ Below w5.heap.size w5 w')) := HN1H.out 1
  go_upto_region 7 with fail
  have hS0 : w5.drew.cell? ⟨w.heap.size, 0, none⟩ = some (.int .i64 dg) ∧ w5.drew.cell? ⟨w.heap.size, 2, none⟩ = some (.slice ea en ec) := ⟨g0, g2⟩
  clear g0 g2
  refine wp_region_noPanic ?_
  refine wp_region_held_drew (S := fun u => u.cell? ⟨w.heap.size, 0, none⟩ = some (.int .i64 dg) ∧ u.cell? ⟨w.heap.size, 2, none⟩ = some (.slice ea en ec)) (by kernel_rfl) (hS0) (fun _ => ?_)
  refine takeH_at 0 61 (.pointer (some ⟨w.heap.size, 0, none⟩)) rfl rfl (by kernel_rfl) (by kernel_rfl) (by kernel_rfl) (fun _ _ _ h => h) (hS0) (Or.inl ⟨by kernel_rfl, fun w' hS' => by have hSa := hS'.1; have hSb := hS'.2; clear hS'; go_simp⟩) ?_
  simp only [List.setIfInBounds_toArray, List.set_cons_zero, List.set_cons_succ]
  refine takeH_at 1 62 (.int .i64 dg) rfl rfl (by kernel_rfl) (by kernel_rfl) (by kernel_rfl) (fun _ _ _ h => h) (hS0) (Or.inl ⟨by kernel_rfl, fun w' hS' => by have hSa := hS'.1; have hSb := hS'.2; clear hS'; go_simp⟩) ?_
  simp only [List.setIfInBounds_toArray, List.set_cons_zero, List.set_cons_succ]
  refine takeH_at 2 63 (.pointer (some ⟨w.heap.size, 2, none⟩)) rfl rfl (by kernel_rfl) (by kernel_rfl) (by kernel_rfl) (fun _ _ _ h => h) (hS0) (Or.inl ⟨by kernel_rfl, fun w' hS' => by have hSa := hS'.1; have hSb := hS'.2; clear hS'; go_simp⟩) ?_
  simp only [List.setIfInBounds_toArray, List.set_cons_zero, List.set_cons_succ]
  refine takeH_at 3 64 (.slice ea en ec) rfl rfl (by kernel_rfl) (by kernel_rfl) (by kernel_rfl) (fun _ _ _ h => h) (hS0) (Or.inl ⟨by kernel_rfl, fun w' hS' => by have hSa := hS'.1; have hSb := hS'.2; clear hS'; go_simp⟩) ?_
  simp only [List.setIfInBounds_toArray, List.set_cons_zero, List.set_cons_succ]
  refine takeH_at 4 65 (.slice aa an ac) rfl rfl (by kernel_rfl) (by kernel_rfl) (by kernel_rfl) (fun _ _ _ h => h) (hS0) (Or.inl ⟨by kernel_rfl, fun w' hS' => by have hSa := hS'.1; have hSb := hS'.2; clear hS'; go_simp⟩) ?_
  simp only [List.setIfInBounds_toArray, List.set_cons_zero, List.set_cons_succ]
  refine takeH_at 5 66 (.int .i64 (m : Nat)) rfl rfl (by kernel_rfl) (by kernel_rfl) (by kernel_rfl) (fun _ _ _ h => h) (hS0) (Or.inl ⟨by kernel_rfl, fun w' hS' => by have hSa := hS'.1; have hSb := hS'.2; clear hS'; go_simp⟩) ?_
  simp only [List.setIfInBounds_toArray, List.set_cons_zero, List.set_cons_succ]
  refine takeH_at 6 67 (.slice x1 n1 c1) rfl rfl (by kernel_rfl) (by kernel_rfl) (by kernel_rfl) (fun _ _ _ h => h) (hS0) (Or.inl ⟨by kernel_rfl, fun w' hS' => by have hSa := hS'.1; have hSb := hS'.2; have hq := hsl1.out w'; clear hS'; go_simp⟩) ?_
  simp only [List.setIfInBounds_toArray, List.set_cons_zero, List.set_cons_succ]
  refine takeH_at 7 68 (.slice aa an ac) rfl rfl (by kernel_rfl) (by kernel_rfl) (by kernel_rfl) (fun _ _ _ h => h) (hS0) (Or.inl ⟨by kernel_rfl, fun w' hS' => by have hSa := hS'.1; have hSb := hS'.2; clear hS'; go_simp⟩) ?_
  simp only [List.setIfInBounds_toArray, List.set_cons_zero, List.set_cons_succ]
  refine takeH_at 8 69 (.int .i64 (m : Nat)) rfl rfl (by kernel_rfl) (by kernel_rfl) (by kernel_rfl) (fun _ _ _ h => h) (hS0) (Or.inl ⟨by kernel_rfl, fun w' hS' => by have hSa := hS'.1; have hSb := hS'.2; clear hS'; go_simp⟩) ?_
  simp only [List.setIfInBounds_toArray, List.set_cons_zero, List.set_cons_succ]
  refine takeH_at 9 70 (.slice x2 n2 c2) rfl rfl (by kernel_rfl) (by kernel_rfl) (by kernel_rfl) (fun _ _ _ h => h) (hS0) (Or.inl ⟨by kernel_rfl, fun w' hS' => by have hSa := hS'.1; have hSb := hS'.2; have hq := hsl2.out w'; clear hS'; go_simp⟩) ?_
  simp only [List.setIfInBounds_toArray, List.set_cons_zero, List.set_cons_succ]
  refine wpAnyH_ready (rs := [10]) (by kernel_rfl) (by simp) ?_
  refine AllReadyH.cons rfl (fun Kc hK => ?_) AllReadyH.nil
  go_simp
  refine HNd.out.mono ?_
  intro e6 w6 hh
  obtain ⟨gd, rfl, hg6, hs6, hb6⟩ := hh.out
  have hS6 : w6.cell? ⟨w.heap.size, 0, none⟩ = some (.int .i64 dg) ∧ w6.cell? ⟨w.heap.size, 2, none⟩ = some (.slice ea en ec) := by
    have q := H5.out.2.2.1.below hb6 (by have := H5.out.2.2.2; have := H5.out.1.lt; omega)
    exact ⟨q.cell HF.out.1, q.cell HF.out.2.2.1⟩
  go_wp2_with fail
  refine hK.out _ _ hS6 (fun _ => ?_)
  clear hK Kc
  try simp only [List.setIfInBounds_toArray, List.set_cons_zero, List.set_cons_succ]
  refine takeH_at 11 60 (.tuple #[.pointer (some ⟨gd, 0, none⟩), .int .i64 0]) rfl rfl (by kernel_rfl) (by kernel_rfl) (by kernel_rfl) (fun _ _ _ h => h) (hS6) (Or.inl ⟨by kernel_rfl, fun w' hS' => by have hSa := hS'.1; have hSb := hS'.2; clear hS'; go_simp⟩) ?_
  simp only [List.setIfInBounds_toArray, List.set_cons_zero, List.set_cons_succ]
  refine takeH_at 12 72 (.pointer (some ⟨gd, 0, none⟩)) rfl rfl (by kernel_rfl) (by kernel_rfl) (by kernel_rfl) (fun _ _ _ h => h) (hS6) (Or.inl ⟨by kernel_rfl, fun w' hS' => by have hSa := hS'.1; have hSb := hS'.2; clear hS'; go_simp⟩) ?_
  simp only [List.setIfInBounds_toArray, List.set_cons_zero, List.set_cons_succ]
  refine takeH_at 13 73 (.int .i64 0) rfl rfl (by kernel_rfl) (by kernel_rfl) (by kernel_rfl) (fun _ _ _ h => h) (hS6) (Or.inl ⟨by kernel_rfl, fun w' hS' => by have hSa := hS'.1; have hSb := hS'.2; clear hS'; go_simp⟩) ?_
  simp only [List.setIfInBounds_toArray, List.set_cons_zero, List.set_cons_succ]
  refine takeH_at 14 11 (.pointer (some ⟨gd, 0, none⟩)) rfl rfl (by kernel_rfl) (by kernel_rfl) (by kernel_rfl) (fun _ _ _ h => h) (hS6) (Or.inl ⟨by kernel_rfl, fun w' hS' => by have hSa := hS'.1; have hSb := hS'.2; clear hS'; go_simp⟩) ?_
  simp only [List.setIfInBounds_toArray, List.set_cons_zero, List.set_cons_succ]
  refine takeH_at 15 12 (.int .i64 0) rfl rfl (by kernel_rfl) (by kernel_rfl) (by kernel_rfl) (fun _ _ _ h => h) (hS6) (Or.inl ⟨by kernel_rfl, fun w' hS' => by have hSa := hS'.1; have hSb := hS'.2; clear hS'; go_simp⟩) ?_
  simp only [List.setIfInBounds_toArray, List.set_cons_zero, List.set_cons_succ]
  refine wpAnyH_done (by kernel_rfl) ?_ _
  refine NoPanic.normal ?_
  have H6 : Hid (SpAt w6 ga dg K0 V0 16777216 0 ∧ SpAt w6 gb dg K0 V0 16777216 0 ∧ SpAt w6 gd dg K0 V0 16777216 0 ∧ Kt w w0 w6) := ⟨H5.out.1.below hb6, H5.out.2.1.below hb6, hs6, H5.out.2.2.1.below hb6 (by have := H5.out.2.2.2; have := H5.out.1.lt; omega)⟩
  have HGs : Hid (w.heap.size < ga ∧ ga < gb ∧ gb < gd) := ⟨H5.out.2.2.2.1, H5.out.2.2.2.2.1, by have := H5.out.2.1.lt; omega⟩
  clear hh hg6 hs6 hb6 hS0 hS6 HN1H HNd H5 HV1 HV2 HX1 HX2 hsl1 hsl2
  go_wp2_with (go_at_call 10; refine (num0 _).mono ?_; rintro e1 wx ⟨rfl, hwx⟩; obtain rfl := hwx.symm)
  go_loopw [13, 14] (fun vl vi wr => ∃ left i c : Nat, ∃ K V : Nat → Int, vl = .int .i64 (left : Nat) ∧ vi = .int .i64 (i : Nat) ∧ left ≤ 8192 ∧ i ≤ 30 ∧ c ≤ i ∧ Hid (SpAt wr ga dg K V 16777216 (c : Nat) ∧ SpAt wr gb dg K V 16777216 (c : Nat) ∧ SpAt wr gd dg K V 16777216 (c : Nat) ∧ Kt w w0 wr)) (fun _ vi _ => 30 - (intOf vi).toNat)
  case atStart => exact ⟨8192, 0, 0, K0, V0, rfl, rfl, by omega, by omega, by omega, H6.out⟩
  case round =>
    obtain ⟨left, i, c, K, V, rfl, rfl, hleft, hi, hc, HR⟩ := hrel
    clear H6
    by_cases h1 : (i : Int) < (sn : Nat)
    case neg =>
      have d1 : decide ((i : Int) < (sn : Nat)) = false := by simp; omega
      have HE : Hid (Below w.heap.size w wr) := HR.out.2.2.2.1
      clear HR
      go_wp2
      go_ret
      exact ⟨rfl, HE.out⟩
    by_cases h2 : (i : Int) < 30
    case neg =>
      have d1 : decide ((i : Int) < (sn : Nat)) = true := by simp; omega
      have d2 : decide ((i : Int) < 30) = false := by simp; omega
      have HE : Hid (Below w.heap.size w wr) := HR.out.2.2.2.1
      clear HR
      go_wp2
      go_ret
      exact ⟨rfl, HE.out⟩
    obtain ⟨b, o, rfl, kd, at_, N1, oa, on, oc, OE, xv, xs, yss, HO0⟩ := HSc.out i (by omega)
    have HO : Hid (OpAt w b (o + i * 5) kd at_ N1 oa on oc OE xv xs yss) := HO0
    clear HO0
    have HKb : Hid (∀ j v, w.cell? ⟨b, j, none⟩ = some v → wr.cell? ⟨b, j, none⟩ = some v) := fun j v hv => (World.cell?_of_block (a := ⟨b, j, none⟩) (HR.out.2.2.2.1.block b (lt_of_cell hv))).trans hv
    have e0 := HKb.out _ _ HO.out.c0
    have e1 := HKb.out _ _ HO.out.c1
    have e2 := HKb.out _ _ HO.out.c2
    have e3 := HKb.out _ _ HO.out.c3
    have e4 := HKb.out _ _ HO.out.c4
    clear HKb
    have hxv : ∃ xa xn xc, xv = .slice xa xn xc := by
      rcases HO.out.nl with q | ⟨ad, m, c, q⟩
      · exact ⟨_, _, _, q⟩
      · exact ⟨_, _, _, q⟩
    obtain ⟨xa, xn, xc, rfl⟩ := hxv
    go_upto_region 15 with fail
    clear e0 e1 e2 e3 e4
    have HSp : Hid (gd < wr.heap.size) := HR.out.2.2.1.lt
    have H7 : Hid (SpAt (wr.alloc (.cells #[.int .i64 kd, .int .i64 at_, .int .i64 N1, .slice oa on oc, .slice xa xn xc] 39)) ga dg K V 16777216 (c : Nat) ∧ SpAt (wr.alloc (.cells #[.int .i64 kd, .int .i64 at_, .int .i64 N1, .slice oa on oc, .slice xa xn xc] 39)) gb dg K V 16777216 (c : Nat) ∧ SpAt (wr.alloc (.cells #[.int .i64 kd, .int .i64 at_, .int .i64 N1, .slice oa on oc, .slice xa xn xc] 39)) gd dg K V 16777216 (c : Nat) ∧ Kt w w0 (wr.alloc (.cells #[.int .i64 kd, .int .i64 at_, .int .i64 N1, .slice oa on oc, .slice xa xn xc] 39)) ∧ (wr.alloc (.cells #[.int .i64 kd, .int .i64 at_, .int .i64 N1, .slice oa on oc, .slice xa xn xc] 39)).heap.size = wr.heap.size + 1) := by
      have b7 := below_alloc1 wr (.cells #[.int .i64 kd, .int .i64 at_, .int .i64 N1, .slice oa on oc, .slice xa xn xc] 39)
      exact ⟨HR.out.1.below b7, HR.out.2.1.below b7, HR.out.2.2.1.below b7, HR.out.2.2.2.below b7 (by have := HGs.out; have := HSp.out; omega), size_alloc1 _ _⟩
    have HC7 : Hid ((wr.alloc (.cells #[.int .i64 kd, .int .i64 at_, .int .i64 N1, .slice oa on oc, .slice xa xn xc] 39)).cell? ⟨wr.heap.size, 0, none⟩ = some (.int .i64 kd) ∧ (wr.alloc (.cells #[.int .i64 kd, .int .i64 at_, .int .i64 N1, .slice oa on oc, .slice xa xn xc] 39)).cell? ⟨wr.heap.size, 2, none⟩ = some (.int .i64 N1) ∧ (wr.alloc (.cells #[.int .i64 kd, .int .i64 at_, .int .i64 N1, .slice oa on oc, .slice xa xn xc] 39)).cell? ⟨wr.heap.size, 3, none⟩ = some (.slice oa on oc) ∧ (wr.alloc (.cells #[.int .i64 kd, .int .i64 at_, .int .i64 N1, .slice oa on oc, .slice xa xn xc] 39)).cell? ⟨wr.heap.size, 4, none⟩ = some (.slice xa xn xc)) := by
      refine ⟨?_, ?_, ?_, ?_⟩ <;> rw [World.cell?_alloc_at _ 39 _ _ rfl] <;> rfl
    generalize wr.alloc (.cells #[.int .i64 kd, .int .i64 at_, .int .i64 N1, .slice oa on oc, .slice xa xn xc] 39) = w7 at H7 HC7 ⊢
    clear HR
    have p0 := HC7.out.1
    have HCk : Hid (∀ (u v : World) (gg : Nat), Touch u v gg 0 131 → gg ≤ gd → wr.heap.size < u.heap.size → (u.cell? ⟨wr.heap.size, 0, none⟩ = some (.int .i64 kd) ∧ u.cell? ⟨wr.heap.size, 2, none⟩ = some (.int .i64 N1) ∧ u.cell? ⟨wr.heap.size, 3, none⟩ = some (.slice oa on oc) ∧ u.cell? ⟨wr.heap.size, 4, none⟩ = some (.slice xa xn xc)) → (v.cell? ⟨wr.heap.size, 0, none⟩ = some (.int .i64 kd) ∧ v.cell? ⟨wr.heap.size, 2, none⟩ = some (.int .i64 N1) ∧ v.cell? ⟨wr.heap.size, 3, none⟩ = some (.slice oa on oc) ∧ v.cell? ⟨wr.heap.size, 4, none⟩ = some (.slice xa xn xc))) := fun u v gg t hg hu hq => by
      have nb : wr.heap.size ≠ gg := by have := HSp.out; omega
      have e := t.block wr.heap.size hu nb
      have cc : ∀ j, v.cell? ⟨wr.heap.size, j, none⟩ = u.cell? ⟨wr.heap.size, j, none⟩ := fun j => World.cell?_of_block (a := ⟨wr.heap.size, j, none⟩) e
      rw [cc, cc, cc, cc]
      exact hq
    obtain ⟨ys, HYS⟩ : ∃ ys, Hid (ys = yss.flatten) := ⟨_, rfl⟩
    obtain ⟨tot, HTot⟩ : ∃ t, Hid (t = yss.flatten.length) := ⟨_, rfl⟩
    have htb : tot ≤ 1048576 := by rw [HTot.out]; exact HO.out.few.2
    by_cases hk : kd = 2
    · subst hk
      obtain ⟨X, HX⟩ : ∃ X, Hid (X = feedE on tot) := ⟨_, rfl⟩
      by_cases hX : X = 0
      · subst hX
        have HZ : Hid (16 ≤ on ∧ on ≤ 65536 ∧ tot ≤ 65536) := feedE_zero HX.out.symm
        have HFd : Hid (∀ (u : World) (gg : Nat), Kt w w0 u → w.heap.size < gg → SpAt u gg dg K V 16777216 (c : Nat) → Calls Tryd.prog 14 #[.pointer (some ⟨gg, 0, none⟩), .slice oa on oc, .slice xa xn xc] u fun e w' => Hid (e = .returned (.int .i64 0) ∧ SpAt w' gg dg (updK dg K V (OE ++ ys)) (updV dg K V (OE ++ ys)) 16777216 0 ∧ Touch u w' gg 0 131)) := fun u gg hu hg hs => by
          have q := spfeed gg dg K V 16777216 (c : Nat) oa on oc OE (.slice xa xn xc) yss u HKn hs (hT.out.below hu.1 hT4) (HO.out.vE.kept fun b hb => hu.1.block b hb) HO.out.lE (fun h0 b off l c e => by have := view_lt HO.out.vE h0 b off l c e; omega) HZ.out.1 HZ.out.2.1 (HO.out.pl hu.1 gg (by omega)) (by show _ ≤ _; rw [← HTot.out]; exact HZ.out.2.2) (by show _ ≤ _; have := HO.out.few.1; omega) (by omega)
          rw [← HYS.out] at q
          exact q
        have p3 := HC7.out.2.2.1
        have p4 := HC7.out.2.2.2
        have HF7 := hidI (HFd.out w7 ga H7.out.2.2.2.1 HGs.out.1 H7.out.1)
        go_wp2_with (go_at_call 14; refine HF7.out.mono ?_)
        intro e8 w8 hh
        obtain ⟨rfl, hs8, ht8⟩ := hh.out
        have H8 : Hid (SpAt w8 ga dg (updK dg K V (OE ++ ys)) (updV dg K V (OE ++ ys)) 16777216 0 ∧ SpAt w8 gb dg K V 16777216 (c : Nat) ∧ SpAt w8 gd dg K V 16777216 (c : Nat) ∧ Kt w w0 w8 ∧ wr.heap.size < w8.heap.size) := ⟨hs8, H7.out.2.1.block (ht8.block _ H7.out.2.1.lt (by have := HGs.out; omega)), H7.out.2.2.1.block (ht8.block _ H7.out.2.2.1.lt (by have := HGs.out; omega)), H7.out.2.2.2.1.touch ht8 HGs.out.1 H7.out.1.lt, by have := ht8.size; have := H7.out.2.2.2.2; omega⟩
        have HC8 : Hid (w8.cell? ⟨wr.heap.size, 0, none⟩ = some (.int .i64 2) ∧ w8.cell? ⟨wr.heap.size, 2, none⟩ = some (.int .i64 N1) ∧ w8.cell? ⟨wr.heap.size, 3, none⟩ = some (.slice oa on oc) ∧ w8.cell? ⟨wr.heap.size, 4, none⟩ = some (.slice xa xn xc)) := HCk.out w7 w8 ga ht8 (by have := HGs.out; omega) (by have := H7.out.2.2.2.2; omega) HC7.out
        clear hh hs8 ht8 HF7 H7 HC7 p0 p3 p4
        have p3 := HC8.out.2.2.1
        have p4 := HC8.out.2.2.2
        have HF8 := hidI (HFd.out w8 gb H8.out.2.2.2.1 (by have := HGs.out; omega) H8.out.2.1)
        go_wp2_with (go_at_call 14; refine HF8.out.mono ?_)
        intro e9 w9 hh
        obtain ⟨rfl, hs9, ht9⟩ := hh.out
        have H9 : Hid (SpAt w9 ga dg (updK dg K V (OE ++ ys)) (updV dg K V (OE ++ ys)) 16777216 0 ∧ SpAt w9 gb dg (updK dg K V (OE ++ ys)) (updV dg K V (OE ++ ys)) 16777216 0 ∧ SpAt w9 gd dg K V 16777216 (c : Nat) ∧ Kt w w0 w9 ∧ wr.heap.size < w9.heap.size) := ⟨H8.out.1.block (ht9.block _ H8.out.1.lt (by have := HGs.out; omega)), hs9, H8.out.2.2.1.block (ht9.block _ H8.out.2.2.1.lt (by have := HGs.out; omega)), H8.out.2.2.2.1.touch ht9 (by have := HGs.out; omega) H8.out.2.1.lt, by have := ht9.size; have := H8.out.2.2.2.2; omega⟩
        have HC9 : Hid (w9.cell? ⟨wr.heap.size, 0, none⟩ = some (.int .i64 2) ∧ w9.cell? ⟨wr.heap.size, 2, none⟩ = some (.int .i64 N1) ∧ w9.cell? ⟨wr.heap.size, 3, none⟩ = some (.slice oa on oc) ∧ w9.cell? ⟨wr.heap.size, 4, none⟩ = some (.slice xa xn xc)) := HCk.out w8 w9 gb ht9 (by have := HGs.out; omega) H8.out.2.2.2.2 HC8.out
        clear hh hs9 ht9 HF8 H8 HC8 p3 p4
        have p3 := HC9.out.2.2.1
        have p4 := HC9.out.2.2.2
        have HF9 := hidI (HFd.out w9 gd H9.out.2.2.2.1 (by have := HGs.out; omega) H9.out.2.2.1)
        go_wp2_with (go_at_call 14; refine HF9.out.mono ?_)
        intro e10 w10 hh
        obtain ⟨rfl, hs10, ht10⟩ := hh.out
        have H10 : Hid (SpAt w10 ga dg (updK dg K V (OE ++ ys)) (updV dg K V (OE ++ ys)) 16777216 ((0 : Nat) : Int) ∧ SpAt w10 gb dg (updK dg K V (OE ++ ys)) (updV dg K V (OE ++ ys)) 16777216 ((0 : Nat) : Int) ∧ SpAt w10 gd dg (updK dg K V (OE ++ ys)) (updV dg K V (OE ++ ys)) 16777216 ((0 : Nat) : Int) ∧ Kt w w0 w10) := ⟨H9.out.1.block (ht10.block _ H9.out.1.lt (by have := HGs.out; omega)), H9.out.2.1.block (ht10.block _ H9.out.2.1.lt (by have := HGs.out; omega)), hs10, H9.out.2.2.2.1.touch ht10 (by have := HGs.out; omega) H9.out.2.2.1.lt⟩
        clear hh hs10 ht10 HF9 H9 HC9 p3 p4
        go_wp2
        go_roundw
        case rel => exact ⟨left, i + 1, 0, _, _, rfl, by go_num, hleft, by omega, by omega, H10.out⟩
        case measure => simp [intOf]; omega
      · have HFb : Hid (∀ (gg : Nat), w.heap.size < gg → Calls Tryd.prog 14 #[.pointer (some ⟨gg, 0, none⟩), .slice oa on oc, .slice xa xn xc] w7 fun e w' => e = .returned (.int .i64 X) ∧ w' = w7) := fun gg hg => by
          have q := feed_bad gg oa on oc (.slice xa xn xc) yss w7 (HO.out.pl H7.out.2.2.2.1.1 gg (by omega)).parts (by have := HO.out.few.2; omega) (by rw [← HTot.out, ← HX.out]; exact hX)
          rw [← HTot.out, ← HX.out] at q
          exact q
        have p3 := HC7.out.2.2.1
        have p4 := HC7.out.2.2.2
        go_wp2_with (go_at_call 14; refine (HFb.out _ (by have := HGs.out; omega)).mono ?_; rintro e5 w5 ⟨rfl, hw5⟩; obtain rfl := hw5.symm)
        go_roundw
        case rel => exact ⟨left, i + 1, c, K, V, rfl, by go_num, hleft, by omega, by omega, H7.out.1, H7.out.2.1, H7.out.2.2.1, H7.out.2.2.2.1⟩
        case measure => simp [intOf]; omega
    · have hk2 : (kd == 2) = false := by simpa using hk
      have HBy : Hid (Calls Tryd.prog 15 #[.slice xa xn xc] w7 fun e w' => e = .returned (.int .i64 (tot : Nat)) ∧ w' = w7) := by
        have q := bytes_ok ga (.slice xa xn xc) yss w7 (HO.out.pl H7.out.2.2.2.1.1 ga (by have := HGs.out; omega)).parts (by show _ ≤ _; have := HO.out.few.2; omega)
        rw [← HTot.out] at q
        exact q
      have p2 := HC7.out.2.1
      have p4 := HC7.out.2.2.2
      by_cases t1 : N1 < 0
      · have d1 : decide (N1 < 0) = true := by simp; omega
        go_wp2_with (go_at_call 15; refine HBy.out.mono ?_; rintro e5 w5 ⟨rfl, hw5⟩; obtain rfl := hw5.symm)
        go_roundw
        case rel => exact ⟨left, i + 1, c, K, V, rfl, by go_num, hleft, by omega, by omega, H7.out.1, H7.out.2.1, H7.out.2.2.1, H7.out.2.2.2.1⟩
        case measure => simp [intOf]; omega
      by_cases t2 : (left : Int) < N1
      · have d1 : decide (N1 < 0) = false := by simp; omega
        have d2 : decide ((left : Int) < N1) = true := by simp; omega
        go_wp2_with (go_at_call 15; refine HBy.out.mono ?_; rintro e5 w5 ⟨rfl, hw5⟩; obtain rfl := hw5.symm)
        go_roundw
        case rel => exact ⟨left, i + 1, c, K, V, rfl, by go_num, hleft, by omega, by omega, H7.out.1, H7.out.2.1, H7.out.2.2.1, H7.out.2.2.2.1⟩
        case measure => simp [intOf]; omega
      obtain ⟨n, rfl⟩ : ∃ m : Nat, N1 = m := ⟨N1.toNat, by omega⟩
      have d1 : decide (((n : Nat) : Int) < 0) = false := by simp
      have d2 : decide ((left : Int) < (n : Nat)) = false := by simp; omega
      by_cases t3 : (65536 : Int) < (tot : Nat)
      · have d3 : decide ((65536 : Int) < (tot : Nat)) = true := by simp; omega
        go_wp2_with (go_at_call 15; refine HBy.out.mono ?_; rintro e5 w5 ⟨rfl, hw5⟩; obtain rfl := hw5.symm)
        go_roundw
        case rel => exact ⟨left, i + 1, c, K, V, rfl, by go_num, hleft, by omega, by omega, H7.out.1, H7.out.2.1, H7.out.2.2.1, H7.out.2.2.2.1⟩
        case measure => simp [intOf]; omega
      have d3 : decide ((65536 : Int) < (tot : Nat)) = false := by simp; omega
      have hnl2 : (n : Int) ≤ (left : Nat) := by omega
      have HDr : Hid (∀ (u : World) (gg : Nat), Kt w w0 u → w.heap.size < gg → SpAt u gg dg K V 16777216 (c : Nat) → Calls Tryd.prog 12 #[.pointer (some ⟨gg, 0, none⟩), .int .i64 (n : Nat), .slice xa xn xc] u fun e w' => Hid (∃ b, e = .returned (.tuple #[.slice (some ⟨b, 0, none⟩) n n, .int .i64 0]) ∧ u.heap.size ≤ b ∧ View w' (.slice (some ⟨b, 0, none⟩) n n) (fL (drO dg K V ys) n) ∧ SpAt w' gg dg (drK dg K V ys n) (drV dg K V ys n) 16777216 (((c : Nat) : Int) + 1) ∧ Touch u w' gg 0 131)) := fun u gg hu hg hs => by
        have q := spdraw gg dg K V 16777216 (c : Nat) n (.slice xa xn xc) yss u HKn hs (hT.out.below hu.1 hT4) (HO.out.pl hu.1 gg (by omega)) (by show _ ≤ _; rw [← HTot.out]; omega) (by show _ ≤ _; have := HO.out.few.1; omega) (by omega) (by omega) (by omega) (by omega) (by omega)
        rw [← HYS.out] at q
        exact q
      have HD7 := hidI (HDr.out w7 ga H7.out.2.2.2.1 HGs.out.1 H7.out.1)
      go_wp2_with (first | (go_at_call 15; refine HBy.out.mono ?_; rintro e5 w5 ⟨rfl, hw5⟩; obtain rfl := hw5.symm) | (go_at_call 12; refine HD7.out.mono ?_))
      intro e8 w8 hh
      obtain ⟨b8, rfl, hb8, hv8, hs8, ht8⟩ := hh.out
      have H8 : Hid (SpAt w8 ga dg (drK dg K V ys n) (drV dg K V ys n) 16777216 ((c : Nat) + 1) ∧ SpAt w8 gb dg K V 16777216 (c : Nat) ∧ SpAt w8 gd dg K V 16777216 (c : Nat) ∧ Kt w w0 w8 ∧ wr.heap.size < w8.heap.size) := ⟨hs8, H7.out.2.1.block (ht8.block _ H7.out.2.1.lt (by have := HGs.out; omega)), H7.out.2.2.1.block (ht8.block _ H7.out.2.2.1.lt (by have := HGs.out; omega)), H7.out.2.2.2.1.touch ht8 HGs.out.1 H7.out.1.lt, by have := ht8.size; have := H7.out.2.2.2.2; omega⟩
      have HC8 : Hid (w8.cell? ⟨wr.heap.size, 0, none⟩ = some (.int .i64 kd) ∧ w8.cell? ⟨wr.heap.size, 2, none⟩ = some (.int .i64 (n : Nat)) ∧ w8.cell? ⟨wr.heap.size, 3, none⟩ = some (.slice oa on oc) ∧ w8.cell? ⟨wr.heap.size, 4, none⟩ = some (.slice xa xn xc)) := HCk.out w7 w8 ga ht8 (by have := HGs.out; omega) (by have := H7.out.2.2.2.2; omega) HC7.out
      have HV8 : Hid (View w8 (.slice (some ⟨b8, 0, none⟩) n n) (fL (drO dg K V ys) n) ∧ wr.heap.size < b8) := ⟨hv8, by have := H7.out.2.2.2.2; omega⟩
      clear hh hb8 hv8 hs8 ht8 HD7 H7 HC7 p0 p2 p4 HBy
      have p2 := HC8.out.2.1
      have p4 := HC8.out.2.2.2
      have HD8 := hidI (HDr.out w8 gb H8.out.2.2.2.1 (by have := HGs.out; omega) H8.out.2.1)
      go_wp2_with (go_at_call 12; refine HD8.out.mono ?_)
      intro e9 w9 hh
      obtain ⟨b9, rfl, hb9, hv9, hs9, ht9⟩ := hh.out
      have H9 : Hid (SpAt w9 ga dg (drK dg K V ys n) (drV dg K V ys n) 16777216 ((c : Nat) + 1) ∧ SpAt w9 gb dg (drK dg K V ys n) (drV dg K V ys n) 16777216 ((c : Nat) + 1) ∧ SpAt w9 gd dg K V 16777216 (c : Nat) ∧ Kt w w0 w9 ∧ wr.heap.size < w9.heap.size) := ⟨H8.out.1.block (ht9.block _ H8.out.1.lt (by have := HGs.out; omega)), hs9, H8.out.2.2.1.block (ht9.block _ H8.out.2.2.1.lt (by have := HGs.out; omega)), H8.out.2.2.2.1.touch ht9 (by have := HGs.out; omega) H8.out.2.1.lt, by have := ht9.size; have := H8.out.2.2.2.2; omega⟩
      have HC9 : Hid (w9.cell? ⟨wr.heap.size, 0, none⟩ = some (.int .i64 kd) ∧ w9.cell? ⟨wr.heap.size, 2, none⟩ = some (.int .i64 (n : Nat)) ∧ w9.cell? ⟨wr.heap.size, 3, none⟩ = some (.slice oa on oc) ∧ w9.cell? ⟨wr.heap.size, 4, none⟩ = some (.slice xa xn xc)) := HCk.out w8 w9 gb ht9 (by have := HGs.out; omega) H8.out.2.2.2.2 HC8.out
      have HV9 : Hid (View w9 (.slice (some ⟨b8, 0, none⟩) n n) (fL (drO dg K V ys) n) ∧ View w9 (.slice (some ⟨b9, 0, none⟩) n n) (fL (drO dg K V ys) n) ∧ wr.heap.size < b8 ∧ wr.heap.size < b9) := ⟨ht9.view HV8.out.1 (fun b' off l c' e => .inl (by injection e with e1 _ _; injection e1 with e1; injection e1 with e2 _; have := HV8.out.2; have := HSp.out; have := HGs.out; omega)), hv9, HV8.out.2, by have := H8.out.2.2.2.2; omega⟩
      clear hh hb9 hv9 hs9 ht9 HD8 H8 HC8 HV8 p2 p4
      have p2 := HC9.out.2.1
      have p4 := HC9.out.2.2.2
      have HD9 := hidI (HDr.out w9 gd H9.out.2.2.2.1 (by have := HGs.out; omega) H9.out.2.2.1)
      go_wp2_with (go_at_call 12; refine HD9.out.mono ?_)
      intro e10 w10 hh
      obtain ⟨b10, rfl, hb10, hv10, hs10, ht10⟩ := hh.out
      have H10 : Hid (SpAt w10 ga dg (drK dg K V ys n) (drV dg K V ys n) 16777216 ((c + 1 : Nat) : Int) ∧ SpAt w10 gb dg (drK dg K V ys n) (drV dg K V ys n) 16777216 ((c + 1 : Nat) : Int) ∧ SpAt w10 gd dg (drK dg K V ys n) (drV dg K V ys n) 16777216 ((c + 1 : Nat) : Int) ∧ Kt w w0 w10) := by
        have ec : ((c + 1 : Nat) : Int) = ((c : Nat) : Int) + 1 := by omega
        rw [ec]
        exact ⟨H9.out.1.block (ht10.block _ H9.out.1.lt (by have := HGs.out; omega)), H9.out.2.1.block (ht10.block _ H9.out.2.1.lt (by have := HGs.out; omega)), hs10, H9.out.2.2.2.1.touch ht10 (by have := HGs.out; omega) H9.out.2.2.1.lt⟩
      have HC10 : Hid (w10.cell? ⟨wr.heap.size, 0, none⟩ = some (.int .i64 kd) ∧ w10.cell? ⟨wr.heap.size, 2, none⟩ = some (.int .i64 (n : Nat)) ∧ w10.cell? ⟨wr.heap.size, 3, none⟩ = some (.slice oa on oc) ∧ w10.cell? ⟨wr.heap.size, 4, none⟩ = some (.slice xa xn xc)) := HCk.out w9 w10 gd ht10 (Nat.le_refl _) H9.out.2.2.2.2 HC9.out
      have HV10 : Hid (View w10 (.slice (some ⟨b8, 0, none⟩) n n) (fL (drO dg K V ys) n) ∧ View w10 (.slice (some ⟨b9, 0, none⟩) n n) (fL (drO dg K V ys) n) ∧ View w10 (.slice (some ⟨b10, 0, none⟩) n n) (fL (drO dg K V ys) n)) := ⟨ht10.view HV9.out.1 (fun b' off l c' e => .inl (by injection e with e1 _ _; injection e1 with e1; injection e1 with e2 _; have := HV9.out.2.2; have := HSp.out; omega)), ht10.view HV9.out.2.1 (fun b' off l c' e => .inl (by injection e with e1 _ _; injection e1 with e1; injection e1 with e2 _; have := HV9.out.2.2; have := HSp.out; omega)), hv10⟩
      clear hh hb10 hv10 hs10 ht10 HD9 H9 HC9 HV9 p2 p4
      have p2 := HC10.out.2.1
      have HS1 : Hid (Calls Tryd.prog 13 #[.slice (some ⟨b8, 0, none⟩) n n, .slice (some ⟨b9, 0, none⟩) n n] w10 fun e w' => Hid (e = .returned (.bool true) ∧ Sm w10 w')) := same_yes _ _ _ w10 HV10.out.1 HV10.out.2.1
      go_wp2_with (first | (go_at_call 10; refine (num0 _).mono ?_; rintro e1 wx ⟨rfl, hwx⟩; obtain rfl := hwx.symm) | (go_at_call 13; refine HS1.out.mono ?_))
      intro e11 w11 hh
      obtain ⟨rfl, s11⟩ := hh.out
      have HS2 : Hid (Calls Tryd.prog 13 #[.slice (some ⟨b8, 0, none⟩) n n, .slice (some ⟨b10, 0, none⟩) n n] w11 fun e w' => Hid (e = .returned (.bool true) ∧ Sm w10 w')) := by
        refine (same_yes _ _ _ w11 (s11.view HV10.out.1) (s11.view HV10.out.2.2)).mono ?_
        rintro e w' ⟨q1, q2⟩
        exact ⟨q1, s11.trans q2⟩
      clear hh s11 HS1 HC10 p2
      go_wp2_with (go_at_call 13; refine HS2.out.mono ?_)
      intro e12 w12 hh
      obtain ⟨rfl, s12⟩ := hh.out
      have H12 : Hid (SpAt w12 ga dg (drK dg K V ys n) (drV dg K V ys n) 16777216 ((c + 1 : Nat) : Int) ∧ SpAt w12 gb dg (drK dg K V ys n) (drV dg K V ys n) 16777216 ((c + 1 : Nat) : Int) ∧ SpAt w12 gd dg (drK dg K V ys n) (drV dg K V ys n) 16777216 ((c + 1 : Nat) : Int) ∧ Kt w w0 w12) := ⟨H10.out.1.sm s12, H10.out.2.1.sm s12, H10.out.2.2.1.sm s12, H10.out.2.2.2.sm s12⟩
      clear hh s12 HS2 H10 HV10
      go_wp2
      go_roundw
      case rel => exact ⟨left - n, i + 1, c + 1, _, _, by congr 1; omega, by go_num, by omega, by omega, by omega, H12.out⟩
      case measure => simp [intOf]; omega
theorem rp_ok (dg L : Int) (ea na pa sa : Option Addr) (en ec nn nc pn pc sn sc : Nat) (E N P : List Int) (w : World) (hT : Tables w) (he : View w (.slice ea en ec) E) (hel : E.length = en) (hn : View w (.slice na nn nc) N) (hnl : N.length = nn) (hp : View w (.slice pa pn pc) P) (hpl : P.length = pn) (HSc : ScAt w sa sn) (hsn : sn ≤ sc) (hsc : sc ≤ 9223372036854775807) :
    Calls Tryd.prog 4 #[.agg #[.int .i64 dg, .int .i64 L, .slice ea en ec, .slice na nn nc, .slice pa pn pc], .slice sa sn sc] w fun e w' => e = .returned (.bool true) ∧ Below w.heap.size w w' := by
  by_cases k : Good dg L en nn pn
  · exact rp_good dg L ea na pa sa en ec nn nc pn pc sn sc E N P w k hT he hel hn hnl hp hpl HSc hsn hsc
  · exact rp_0 dg L ea na pa sa en ec nn nc pn pc sn sc w k
end Go.Proofs.YtkeklmkaleomkaaDoor
namespace Go.Proofs.YtkeklmkaleomkaaDoor
open Go.Deep Go.ChangeShapes Go.WideShapes Go.ChangeAt Go.RowKit
set_option linter.unusedVariables false
theorem und37 : Tryd.prog.underlying 37 = some (.slice 22) := by kernel_rfl
theorem bulk_pos {H : Type} : (d : DataW H) → 1 ≤ Rows.uptoBulk d
  | .lit l => by cases l <;> simp [Rows.uptoBulk]
  | .nil | .ptr _ | .slice _ _ | .agg _ | .iface _ _ | .map _ | .held _ => by simp [Rows.uptoBulk]
theorem bulk_lits {H : Type} (ys : List Int) : Rows.uptoBulkAll (H := H) (lits .u8 ys) = ys.length := by
  induction ys with
  | nil => rfl
  | cons y ys ih =>
    have : lits (H := H) .u8 (y :: ys) = .lit (.int .u8 y) :: lits .u8 ys := rfl
    rw [this]
    simp only [Rows.uptoBulkAll, Rows.uptoBulk, ih, List.length_cons]
    omega
theorem bulk_flat {H : Type} (Y : Nat → List Int) (D : Nat → DataW H) (l : List Nat) (h : ∀ i, i ∈ l → (Y i).length ≤ Rows.uptoBulk (D i)) : l.length ≤ Rows.uptoBulkAll (l.map D) ∧ (l.map Y).flatten.length ≤ Rows.uptoBulkAll (l.map D) := by
  induction l with
  | nil => exact ⟨Nat.le_refl _, Nat.le_refl _⟩
  | cons x l ih =>
    obtain ⟨h1, h2⟩ := ih fun i hi => h i (List.mem_cons_of_mem _ hi)
    have h3 := h x (List.mem_cons_self ..)
    have h4 := bulk_pos (D x)
    simp only [List.map_cons, Rows.uptoBulkAll, List.flatten_cons, List.length_append, List.length_cons]
    omega
theorem one_bytes {H : Type} {enc : TypeId × Value → H} {W : World} {n : Nat} {c : Value} {d : DataW H} {p : List MemPlace} (h : DataW.trod enc Tryd.prog W 0 (fun _ => true) true n 22 [c] = some (d, p)) : ∃ xs, View W c xs ∧ xs.length ≤ Rows.uptoBulk d := by
  have hc : ∃ a l cap, c = .slice a l cap := by
    rcases open_ints Tryd.underlying22 Tryd.underlying5 cells5 h with ⟨hcs, _⟩ | ⟨a, l, cap, zs, hcs, _⟩
    · exact ⟨none, 0, 0, by simpa using hcs⟩
    · exact ⟨some a, l, cap, by simpa using hcs⟩
  obtain ⟨a, l, cap, rfl⟩ := hc
  obtain ⟨xs, hl, hb, hv, hd⟩ := open_bytes (enc := enc) (W := W) (a := a) (len := l) (cap := cap) (d := d) (p := p) ⟨n, by simpa [Value.cells] using h⟩
  refine ⟨xs, hv, ?_⟩
  rcases hd with ⟨_, rfl⟩ | ⟨sp, rfl⟩
  · simp
  · simp only [Rows.uptoBulk, bulk_lits]
    omega
/-- What came in as a list of lists of bytes. -/
theorem open_parts {H : Type} {enc : TypeId × Value → H} {W : World} {a : Option Addr} {n c : Nat} {d : DataW H} {p : List MemPlace}
    (h : DataW.Trod enc Tryd.prog W 0 (fun _ => true) true 37 (.slice a n c) d p) :
    ∃ xs yss, xs.length = n ∧ PV W (.slice a n c) xs yss ∧ n ≤ Rows.uptoBulk d ∧ yss.flatten.length ≤ Rows.uptoBulk d ∧ ((.slice a n c : Value) = .slice none 0 0 ∨ ∃ ad m c', (.slice a n c : Value) = .slice (some ad) m c') := by
  obtain ⟨fuel, hf⟩ := h
  rcases open_slice1 und37 cells22 hf with ⟨hcs, hx⟩ | ⟨a', len, cap, m, k, V, D, Pl, hcs, hb, hl, hm, hmm, hx, hc⟩
  · simp [Value.cells] at hcs
    obtain ⟨rfl, rfl, rfl⟩ := hcs
    exact ⟨[], [], rfl, ⟨none, 0, rfl, Nat.le_refl _, by simp, rfl, fun i x hx => by simp at hx, .inl rfl⟩, by omega, by simp, .inl rfl⟩
  · simp [Value.cells] at hcs
    obtain ⟨rfl, rfl, rfl⟩ := hcs
    simp only [if_true] at hmm
    have hmm' := hmm.symm
    subst hmm'
    simp only [Prod.mk.injEq] at hx
    obtain ⟨rfl, _⟩ := hx
    obtain ⟨Y, hY⟩ := choose_lt (n := c) (α := List Int) (p := fun i ys => View W (V i) ys ∧ ys.length ≤ Rows.uptoBulk (D i)) fun i hi => one_bytes (hc i hi).2
    have hbf := bulk_flat Y D (List.range n) fun i hi => (hY i (by have := List.mem_range.1 hi; omega)).2
    rw [List.length_range] at hbf
    refine ⟨(List.range n).map V, (List.range n).map Y, by simp, ⟨some a', c, by simp, by simpa using hl, hm, by simp, fun i x hx => ?_, ?_⟩, ?_, ?_, .inr ⟨_, _, _, rfl⟩⟩
    · simp only [List.getElem?_map, Option.map_eq_some_iff] at hx
      obtain ⟨j, hj, rfl⟩ := hx
      obtain ⟨hj1, rfl⟩ := List.getElem?_eq_some_iff.1 hj
      simp only [List.length_range] at hj1
      have := (hY i (by omega)).1
      simpa [List.getD_eq_getElem?_getD, hj1] using this
    · by_cases h0 : n = 0
      · left
        subst h0
        rfl
      · right
        obtain ⟨b, off, spot⟩ := a'
        have hc0 := (hc 0 (by omega)).1
        have hspot : spot = none := by simpa [Addr.add] using World.cell?_spot hc0
        subst hspot
        refine ⟨b, off, rfl, fun i x hx => ?_⟩
        simp only [List.getElem?_map, Option.map_eq_some_iff] at hx
        obtain ⟨j, hj, rfl⟩ := hx
        obtain ⟨hj1, rfl⟩ := List.getElem?_eq_some_iff.1 hj
        simp only [List.length_range] at hj1
        have := (hc i (by omega)).1
        rw [Addr.add_lit] at this
        simpa using this
    · simp only [Rows.uptoBulk]; omega
    · simp only [Rows.uptoBulk]; omega
theorem und36 : Tryd.prog.underlying 36 = some (.slice 39) := by kernel_rfl
theorem cells39 : Tryd.prog.cellsOf 39 = 5 := by kernel_rfl
theorem cells37 : Tryd.prog.cellsOf 37 = 1 := by kernel_rfl
theorem bulk_mem {H : Type} (l : List (DataW H)) (x : DataW H) (h : x ∈ l) : Rows.uptoBulk x ≤ Rows.uptoBulkAll l := by
  induction l with
  | nil => cases h
  | cons y l ih =>
    simp only [Rows.uptoBulkAll]
    rcases List.mem_cons.1 h with rfl | h
    · omega
    · have := ih h
      omega
set_option maxRecDepth 100000 in
/-- A script that came in. -/
theorem open_script {H : Type} {enc : TypeId × Value → H} {W : World} {a : Option Addr} {n c : Nat} {d : DataW H} {p : List MemPlace}
    (h : DataW.Trod enc Tryd.prog W 0 (fun _ => true) true 36 (.slice a n c) d p) (hd : Rows.uptoBulk d ≤ 1048576) : ScAt W a n ∧ n ≤ c ∧ c ≤ 9223372036854775807 := by
  obtain ⟨fuel, hf⟩ := h
  rcases open_slice und36 hf with ⟨hcs, hx⟩ | ⟨a', len, cap, m, k, D, Pl, hcs, hb, hl, hm, hmm, hx, hc⟩
  · simp [Value.cells] at hcs
    obtain ⟨rfl, rfl, rfl⟩ := hcs
    exact ⟨fun i hi => absurd hi (Nat.not_lt_zero _), Nat.le_refl _, by omega⟩
  · simp [Value.cells] at hcs
    obtain ⟨rfl, rfl, rfl⟩ := hcs
    simp only [if_true] at hmm
    subst hmm
    simp only [Prod.mk.injEq] at hx
    obtain ⟨rfl, _⟩ := hx
    refine ⟨fun i hi => ?_, hl, by unfold maxLen at hm; omega⟩
    have hDi : Rows.uptoBulk (D i) ≤ 1048576 := by
      have q := bulk_mem ((List.range n).map D) (D i) (List.mem_map.2 ⟨i, List.mem_range.2 hi, rfl⟩)
      simp only [Rows.uptoBulk] at hd
      omega
    obtain ⟨cs', h1, h2⟩ := hc i (by omega)
    rw [cells39] at h1
    obtain ⟨_, hlen, hcell⟩ := World.cells?_some h1
    obtain ⟨ys, k2, _, hx, _, hyl, hfs⟩ := DataW.trod_struct Tryd.underlying39 h2
    match cs', hlen with
    | [v0, v1, v2, v3, v4], _ =>
      match ys, hyl with
      | [y0, y1, y2, y3, y4], _ =>
        have k0 := hfs 0 _ rfl
        have k1 := hfs 1 _ rfl
        have k2 := hfs 2 _ rfl
        have k3 := hfs 3 _ rfl
        have k4 := hfs 4 _ rfl
        simp [cells3, cells22, cells37] at k0 k1 k2 k3 k4
        obtain ⟨kd, rfl⟩ := cell_int k0
        obtain ⟨at_, rfl⟩ := cell_int k1
        obtain ⟨N1, rfl⟩ := cell_int k2
        obtain ⟨oa, on, oc, OE, rfl, vE, lE, dE⟩ := cell_bytes2s k3
        have hxs : ∃ xa xn xc, v4 = .slice xa xn xc := by
          rcases open_slice1 und37 cells22 k4 with ⟨q, _⟩ | ⟨a2, l2, c2, _, _, _, _, _, q, _⟩
          · exact ⟨_, _, _, by simpa using q⟩
          · exact ⟨_, _, _, by simpa using q⟩
        obtain ⟨xa, xn, xc, rfl⟩ := hxs
        obtain ⟨xs, yss, hxn, hpv, b1, b2, hnl⟩ := open_parts (enc := enc) (W := W) (a := xa) (n := xn) (c := xc) (d := y4.1) (p := y4.2) ⟨_, by simpa [Value.cells] using k4⟩
        have hDe : D i = .agg [y0.1, y1.1, y2.1, y3.1, y4.1] := by simpa using congrArg Prod.fst hx
        have h4 : Rows.uptoBulk y4.1 ≤ 1048576 := by
          rw [hDe] at hDi
          simp only [Rows.uptoBulk, Rows.uptoBulkAll] at hDi
          omega
        obtain ⟨b, off, spot⟩ := a'
        have hspot : spot = none := by
          obtain ⟨cs0, z1, _⟩ := hc 0 (by omega)
          rw [cells39] at z1
          obtain ⟨_, zl, zc⟩ := World.cells?_some z1
          have q := zc 0 (by omega)
          have hz : ∃ u, cs0[0]? = some u := ⟨_, List.getElem?_eq_getElem (by omega)⟩
          obtain ⟨u, hz⟩ := hz
          rw [hz] at q
          simpa [Addr.add] using World.cell?_spot q
        subst hspot
        have hq : ∀ j v, [Value.int .i64 kd, .int .i64 at_, .int .i64 N1, .slice oa on oc, .slice xa xn xc][j]? = some v → j < 5 → W.cell? ⟨b, off + i * 5 + j, none⟩ = some v := fun j v hv hj => by
          have q := hcell j hj
          rw [Addr.add_lit, Addr.add_lit, hv] at q
          exact q
        refine ⟨b, off, rfl, kd, at_, N1, oa, on, oc, OE, _, xs, yss, ⟨?_, ?_, ?_, ?_, ?_, vE, lE, hpv, hnl, ?_, by omega⟩⟩
        · exact hq 0 _ rfl (by omega)
        · exact hq 1 _ rfl (by omega)
        · exact hq 2 _ rfl (by omega)
        · exact hq 3 _ rfl (by omega)
        · exact hq 4 _ rfl (by omega)
        · obtain ⟨_, _, _, _, _, e, _⟩ := hpv
          omega
end Go.Proofs.YtkeklmkaleomkaaDoor
