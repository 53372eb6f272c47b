import Derived.Test.YtcpplafgdedklaaAsk
import Derived.Test.YtcpplafgdedklaaTake
import Derived.Deep.Onto
import Derived.Laws.AppendOwnNone
import Derived.Shelf.Spec.BytesMap
import Derived.Lib.SmallJoins
import Derived.Maps.AppendAt
namespace Go.Proofs.Ytcpplafgdedklaa
open Go.RowKit
set_option linter.unusedVariables false
set_option linter.unusedSimpArgs false
/-- Metadata, but for the keyslots. -/
structure Met where
  s0 : ByteArray
  s1 : ByteArray
  s2 : ByteArray
  s3 : ByteArray
  h0 : Int
  h1 : Int
  h2 : Int
  h3 : Int
  d0 : Int
  d1 : ByteArray
  d2 : ByteArray
  ea : Option Addr
  en : Nat
  ec : Nat
  ga : Option Addr
  gn : Nat
  gc : Nat
  r0 : Bool
  r1 : Int
  r2 : Int
  r3 : Bool
  r4 : Int
  r5 : Int
  r6 : Int
  r7 : Int
  r8 : Int
  r9 : Bool
  r10 : Int
  r11 : ByteArray
  ta : Option Addr
  tn : Nat
  tc : Nat
abbrev metC (m : Met) (v : Value) : Array Value := #[.string m.s0, .string m.s1, .string m.s2, .string m.s3, .int .i64 m.h0, .int .u64 m.h1, .int .i64 m.h2, .int .i64 m.h3, .int .i64 m.d0, .string m.d1, .string m.d2, v, .slice m.ea m.en m.ec, .slice m.ga m.gn m.gc, .bool m.r0, .int .u64 m.r1, .int .u64 m.r2, .bool m.r3, .int .i64 m.r4, .int .u64 m.r5, .int .u64 m.r6, .int .i64 m.r7, .int .i64 m.r8, .bool m.r9, .int .u64 m.r10, .string m.r11, .slice m.ta m.tn m.tc]
/-- What Order answers. -/
def ordL (l : List Slo) : List Int := srt (askN l 2) ++ srt (askN l 1)
theorem askN_sum (l : List Slo) : (askN l 2).length + (askN l 1).length ≤ l.length := by
  induction l with
  | nil => simp [askN]
  | cons x r ih =>
    simp only [askN, List.length_map, List.filter_cons, List.length_cons] at ih ⊢
    by_cases h2 : x.p = 2
    · simp [h2]; omega
    · by_cases h1 : x.p = 1
      · simp [h1]; omega
      · simp [h1, h2]; omega
theorem rangeNew (w : World) (cs : Array Value) (t : TypeId) (j : Nat) (v : Value) (h : cs[j]? = some v) : (w.alloc (.cells cs t)).cell? ⟨w.heap.size, j, none⟩ = some v := by
  have hh := heap_alloc_new w (.cells cs t)
  simp only [World.cell?]
  rw [hh]
  exact h
/-- append of a row that the call made, nil or not, to another one. -/
theorem wp_append_rows {w : World} {o : Oper} {a : Act} {K : Act → World → Prop} {Q : Exit → Act → World → Prop} (s x : Operand)
    (ho : o.op = .call { callee := .builtin .append, args := #[s, x], argTypes := #[39, 39] })
    (base base2 : Nat) (v v2 : Value) (n m : Nat) (xs ys : List Int) (hs : a.eval s = v) (hx : a.eval x = v2) (hown : w.ownsRow base 3 1 v n (cellsI xs)) (hown2 : w.ownsRow base2 3 1 v2 m (cellsI ys))
    (hlen : n + m ≤ 8796093022208) (hbase : base ≤ w.heap.size)
    (h : ∀ v' w', w'.ownsRow base 3 1 v' (n + m) (cellsI (xs ++ ys)) → w.grownBy w' v.ownBlock → (v'.ownBlock = v.ownBlock ∨ v'.ownBlock = some w.heap.size) → K (a.put o.dst v') w') : o.wp Try.prog a w K Q := by
  obtain ⟨i0, hi, hz0, hz1, hz2⟩ := info_parts info3
  rcases hown2.2 with ⟨rfl, h20⟩ | ⟨g2, c2, cur2, rfl, _, _, _, _, _, _⟩
  · subst h20
    have he : ys = [] := by simpa [cellsI] using hown2.1
    subst he
    have hrun := run_append_owned_none (P := Try.prog) (w := w) base 39 o.type 3 i0 1 Try.underlying39 hi v n (cellsI xs) hown
    have hK := h v w (by simpa using hown) ⟨rfl, rfl, rfl, Nat.le_refl _, fun _ _ _ => rfl⟩ (.inl rfl)
    unfold Oper.wp
    simp [execOp, ho, resolve, invoke, builtin, hs, hx, hrun, Result.andThen]
    exact hK
  · obtain ⟨v', w', hr, h2, h3, h4, h5⟩ := run_append_own_at (P := Try.prog) w base 39 o.type 3 i0 (.int .i64 0) 1 8 Try.underlying39 hi hz0 hz1 hz2 rfl (by decide) v n (cellsI xs) hown ⟨g2, 0, none⟩ m c2 (cellsI ys) hown2.1 (hown2.cells rfl) (cellsI_one _) (by unfold maxLen; omega) (by omega) hbase
    rw [← cellsI_append] at h2
    unfold Oper.wp execOp
    simp only [ho, resolve, invoke, builtin, Sem.run_bind, Sem.run_pure, Result.andThen_ok, List.map_toArray, List.map_cons, List.map_nil, hs, hx, hr]
    exact h v' w' h2 h3 h5
set_option maxHeartbeats 1600000 in
set_option maxRecDepth 100000 in
theorem order_ok (m : Met) (v : Value) (l : List Slo) (w : World) (h : SloV w v l) :
    Calls Try.prog 7 #[.agg (metC m v)] w fun e w' => ∃ r, e = .returned r ∧ w'.ownsRow w.heap.size 3 1 r (ordL l).length (cellsI (ordL l)) ∧ Below w.heap.size w w' := by
  obtain ⟨i0, hi, hz0, hz1, hz2⟩ := info_parts info3
  have h0 := h
  obtain ⟨a, cap, rfl, hm, _⟩ := h0
  obtain ⟨n, hn⟩ : ∃ n, n = l.length := ⟨_, rfl⟩
  rw [← hn] at h hm
  rw [← hn]
  have HN : Hid (n = l.length) := hn
  clear hn
  obtain ⟨W1, hW1⟩ : ∃ W1, W1 = w.alloc (.cells (metC m (.slice a n cap)) 38) := ⟨_, rfl⟩
  have hB1 : Below w.heap.size w W1 := by rw [hW1]; exact (Below.refl _ w).alloc (Nat.le_refl _) _
  have hsz : W1.heap.size = w.heap.size + 1 := by rw [hW1]; simp
  have hcell : W1.cell? ⟨w.heap.size, 11, none⟩ = some (.slice a n cap) := by rw [hW1]; exact rangeNew _ _ _ _ _ rfl
  have hld : ∀ u, Below (w.heap.size + 1) W1 u → u.cell? ⟨w.heap.size, 11, none⟩ = some (.slice a n cap) := fun u hu => (hu.cell (p := ⟨w.heap.size, 11, none⟩) (by simp)).trans hcell
  have HSv : Hid (∀ u, Below (w.heap.size + 1) W1 u → SloV u (.slice a n cap) l) := fun u hu => SloV.below h (hB1.trans (hu.mono (by omega)))
  have hS0 : Below (w.heap.size + 1) W1 W1.drew := (Below.refl _ _).drew
  go_enter Try.func7, Try.ntmps7
  go_upto_region 1 with fail
  rw [← hW1]
  clear hW1
  refine wp_region_noPanic ?_
  refine wp_region_held_drew (S := fun u => Below (w.heap.size + 1) W1 u) (by kernel_rfl) (hS0) (fun _ => ?_)
  refine takeH_at 0 3 (.pointer (some ⟨w.heap.size, 11, none⟩)) rfl rfl (by kernel_rfl) (by kernel_rfl) (by kernel_rfl) (fun _ _ _ h => h) (hS0) (Or.inl ⟨by rfl, fun w' hS' => by go_simp⟩) ?_
  simp only [List.setIfInBounds_toArray, List.set_cons_zero, List.set_cons_succ]
  refine takeH_at 1 4 (.slice a n cap) rfl rfl (by kernel_rfl) (by kernel_rfl) (by kernel_rfl) (fun _ _ _ h => h) (hS0) (Or.inl ⟨by rfl, fun w' hS' => by have q := hld w' hS'; go_simp⟩) ?_
  simp only [List.setIfInBounds_toArray, List.set_cons_zero, List.set_cons_succ]
  refine takeH_at 3 6 (.pointer (some ⟨w.heap.size, 11, none⟩)) rfl rfl (by kernel_rfl) (by kernel_rfl) (by kernel_rfl) (fun _ _ _ h => h) (hS0) (Or.inl ⟨by rfl, fun w' hS' => by go_simp⟩) ?_
  simp only [List.setIfInBounds_toArray, List.set_cons_zero, List.set_cons_succ]
  refine takeH_at 4 7 (.slice a n cap) rfl rfl (by kernel_rfl) (by kernel_rfl) (by kernel_rfl) (fun _ _ _ h => h) (hS0) (Or.inl ⟨by rfl, fun w' hS' => by have q := hld w' hS'; go_simp⟩) ?_
  simp only [List.setIfInBounds_toArray, List.set_cons_zero, List.set_cons_succ]
  refine wpAnyH_ready (rs := [2]) (by kernel_rfl) (by simp) ?_
  refine AllReadyH.cons rfl (fun K hK => ?_) AllReadyH.nil
  go_simp
  refine (asked_ok (.slice a n cap) l 2 _ (HSv.out _ hS0)).mono ?_
  rintro e1 q1 ⟨r1, rfl, ho1, hb1⟩
  have hS1 : Below (w.heap.size + 1) W1 q1 := (hS0).trans (hb1.mono (by have := (hS0).size; rw [hsz] at this; exact this))
  go_wp2_with fail
  refine hK.out _ _ hS1 (fun _ => ?_)
  clear hK K
  try simp only [List.setIfInBounds_toArray, List.set_cons_zero, List.set_cons_succ]
  refine wpAnyH_ready (rs := [5]) (by kernel_rfl) (by simp) ?_
  refine AllReadyH.cons rfl (fun K hK => ?_) AllReadyH.nil
  go_simp
  refine (asked_ok (.slice a n cap) l 1 _ (HSv.out _ hS1)).mono ?_
  rintro e1 q2 ⟨r2, rfl, ho2, hb2⟩
  have hS2 : Below (w.heap.size + 1) W1 q2 := (hS1).trans (hb2.mono (by have := (hS1).size; rw [hsz] at this; exact this))
  go_wp2_with fail
  refine hK.out _ _ hS2 (fun _ => ?_)
  clear hK K
  try simp only [List.setIfInBounds_toArray, List.set_cons_zero, List.set_cons_succ]
  have hle2 := askN_len l 2
  have hle1 := askN_len l 1
  have hnl := HN.out
  have hq2 : w.heap.size + 1 ≤ q2.heap.size := by have := hS2.size; omega
  have hoA : q2.ownsRow w.heap.size 3 1 r1 (askN l 2).length (cellsI (srt (askN l 2))) := (ownsRow_below ho1 hb2).mono (by have := hS0.size; rw [hsz] at this; omega)
  have hlen : (ordL l).length = (askN l 2).length + (askN l 1).length := by simp [ordL, srt_len]
  have hne : ∀ q, r1.ownBlock = some q → w.heap.size + 1 ≤ q := fun q hq => by have := (ho1.lt q hq).1; rw [show W1.drew.heap.size = W1.heap.size from rfl, hsz] at this; exact this
  refine wpAnyH_ready (rs := [6]) (by kernel_rfl) (by simp) ?_
  refine AllReadyH.cons rfl (fun K hK => ?_) AllReadyH.nil
  rw [if_pos (by kernel_rfl)]
  refine wp_append_rows (.tmp 5) (.tmp 8) rfl w.heap.size _ r1 r2 _ _ _ _ rfl rfl hoA ho2 (by have := askN_sum l; omega) (by omega) ?_
  intro r3 q3 hO hg hat
  have hS3 : Below (w.heap.size + 1) W1 q3 := hS2.grown hg hq2 hne
  refine hK.out _ _ hS3 (fun _ => ?_)
  clear hK K
  change wpAnyH _ _ _ _ _ _ _ ⟨Array.setIfInBounds _ 9 _, _⟩ _
  simp only [List.setIfInBounds_toArray, List.set_cons_zero, List.set_cons_succ]
  refine takeH_at 7 2 r3 rfl rfl (by kernel_rfl) (by kernel_rfl) (by kernel_rfl) (fun _ _ _ h => h) (hS3) (Or.inl ⟨by rfl, fun w' hS' => by go_simp⟩) ?_
  simp only [List.setIfInBounds_toArray, List.set_cons_zero, List.set_cons_succ]
  refine wpAnyH_done (by kernel_rfl) ?_ _
  refine NoPanic.normal ?_
  go_wp2
  go_ret
  exact ⟨_, rfl, by rw [hlen]; exact hO, hB1.trans (hS3.mono (by omega))⟩
end Go.Proofs.Ytcpplafgdedklaa
