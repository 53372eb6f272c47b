import Derived.Test.YtkeklmkaleomkaaDoorPart10
namespace Go.Proofs.YtkeklmkaleomkaaDoor
open Go.RowKit
set_option linter.unusedVariables false
set_option linter.unusedSimpArgs false
theorem PS.upd0 {w v : World} {B m n : Nat} {d0 d1 d' : Option Desc} {ov wv : Value} {os ws : List Value} {left : Int} (s : PS w B m d0 d1 ov wv n os ws left) (e1 : omb d' = omb d0) (e2 : optg d' = optg d0) (e3 : opth d' = opth d0) (fr : Fr w v (omb d0)) (hD : ∀ d, d' = some d → DAt v B d) (hr : ∀ b, b ∈ orb d' → b ∈ orb d0 ∨ w.heap.size ≤ b ∧ b < v.heap.size) : PS v B m d' d1 ov wv n os ws left := by
  have hs := s.nod
  rw [PMb, List.singleton_append, List.nodup_cons, List.nodup_append] at hs
  have hm : v.heap[m]? = w.heap[m]? := fr.block m (lt_of_cell s.s0) (fun q => hs.1 (List.mem_append_left _ q))
  have rest : Same w v (omb d1 ++ (vblk ov ++ vblk wv)) := fun b hb => fr.block b (s.lt b (List.mem_append_right _ (List.mem_append_right _ hb))).2 (fun q => hs.2.2.2 b q b hb rfl)
  have hro : Same w v (orb d0 ++ orb d1) := fun b hb => fr.block b (s.ro b hb).1 (fun q => (s.ro b hb).2.2 (List.mem_append_right _ (List.mem_append_left _ q)))
  have oro : Same w v (orb d1) := hro.right
  have oth : Same w v (omb d1) := rest.left
  have ro1 : Same w v (vblk ov) := rest.right.left
  have ro2 : Same w v (vblk wv) := rest.right.right
  have hc : ∀ j, v.cell? ⟨m, j, none⟩ = w.cell? ⟨m, j, none⟩ := fun j => World.cell?_of_block (a := ⟨m, j, none⟩) hm
  have hf : ∀ j, v.frozen? ⟨m, j, none⟩ = w.frozen? ⟨m, j, none⟩ := fun j => World.frozen?_of_block (a := ⟨m, j, none⟩) hm
  have ePM : PMb m d' d1 ov wv = PMb m d0 d1 ov wv := by rw [PMb, PMb, e1]
  refine ⟨by rw [hc, e2]; exact s.s0, by rw [hc]; exact s.s1, by rw [hc, e3]; exact s.t0, by rw [hc]; exact s.t1, by rw [hc]; exact s.co, by rw [hc]; exact s.cw, by rw [hc]; exact s.cl, fun j hj => by rw [hc, hf]; exact s.there j hj, hD, fun d e => ?_, owns_same s.out ro1, owns_same s.was ro2, s.mB, by rw [ePM]; exact s.nod, fun b hb => ?_, s.l0, s.l1⟩
  · subst e
    exact (s.D1 d rfl).keep oth oro
  · rw [ePM]
    rcases List.mem_append.1 hb with hb | hb
    · rcases hr b hb with q | ⟨q1, q2⟩
      · have z := s.ro b (List.mem_append_left _ q)
        exact ⟨Nat.lt_of_lt_of_le z.1 fr.size, z.2⟩
      · exact ⟨q2, by have := s.mB; have mlt : m < w.heap.size := lt_of_cell s.s0; omega, fun hx => by have := (s.lt b hx).2; omega⟩
    · have z := s.ro b (List.mem_append_right _ hb)
      exact ⟨Nat.lt_of_lt_of_le z.1 fr.size, z.2⟩
theorem PS.upd1 {w v : World} {B m n : Nat} {d0 d1 d' : Option Desc} {ov wv : Value} {os ws : List Value} {left : Int} (s : PS w B m d0 d1 ov wv n os ws left) (e1 : omb d' = omb d1) (e2 : optg d' = optg d1) (e3 : opth d' = opth d1) (fr : Fr w v (omb d1)) (hD : ∀ d, d' = some d → DAt v B d) (hr : ∀ b, b ∈ orb d' → b ∈ orb d1 ∨ w.heap.size ≤ b ∧ b < v.heap.size) : PS v B m d0 d' ov wv n os ws left := by
  have hs := s.nod
  rw [PMb, List.singleton_append, List.nodup_cons, List.nodup_append, List.nodup_append] at hs
  have hm : v.heap[m]? = w.heap[m]? := fr.block m (lt_of_cell s.s0) (fun q => hs.1 (List.mem_append_right _ (List.mem_append_left _ q)))
  have rest : Same w v (vblk ov ++ vblk wv) := fun b hb => fr.block b (s.lt b (List.mem_append_right _ (List.mem_append_right _ (List.mem_append_right _ hb)))).2 (fun q => hs.2.2.1.2.2 b q b hb rfl)
  have hro : Same w v (orb d0 ++ orb d1) := fun b hb => fr.block b (s.ro b hb).1 (fun q => (s.ro b hb).2.2 (List.mem_append_right _ (List.mem_append_right _ (List.mem_append_left _ q))))
  have oro : Same w v (orb d0) := hro.left
  have oth : Same w v (omb d0) := fun b hb => fr.block b (s.lt b (List.mem_append_right _ (List.mem_append_left _ hb))).2 (fun q => hs.2.2.2 b hb b (List.mem_append_left _ q) rfl)
  have ro1 : Same w v (vblk ov) := rest.left
  have ro2 : Same w v (vblk wv) := rest.right
  have hc : ∀ j, v.cell? ⟨m, j, none⟩ = w.cell? ⟨m, j, none⟩ := fun j => World.cell?_of_block (a := ⟨m, j, none⟩) hm
  have hf : ∀ j, v.frozen? ⟨m, j, none⟩ = w.frozen? ⟨m, j, none⟩ := fun j => World.frozen?_of_block (a := ⟨m, j, none⟩) hm
  have ePM : PMb m d0 d' ov wv = PMb m d0 d1 ov wv := by rw [PMb, PMb, e1]
  refine ⟨by rw [hc]; exact s.s0, by rw [hc, e2]; exact s.s1, by rw [hc]; exact s.t0, by rw [hc, e3]; exact s.t1, by rw [hc]; exact s.co, by rw [hc]; exact s.cw, by rw [hc]; exact s.cl, fun j hj => by rw [hc, hf]; exact s.there j hj, fun d e => ?_, hD, owns_same s.out ro1, owns_same s.was ro2, s.mB, by rw [ePM]; exact s.nod, fun b hb => ?_, s.l0, s.l1⟩
  · subst e
    exact (s.D0 d rfl).keep oth oro
  · rw [ePM]
    rcases List.mem_append.1 hb with hb | hb
    · have z := s.ro b (List.mem_append_left _ hb)
      exact ⟨Nat.lt_of_lt_of_le z.1 fr.size, z.2⟩
    · rcases hr b hb with q | ⟨q1, q2⟩
      · have z := s.ro b (List.mem_append_right _ q)
        exact ⟨Nat.lt_of_lt_of_le z.1 fr.size, z.2⟩
      · exact ⟨q2, by have := s.mB; have mlt : m < w.heap.size := lt_of_cell s.s0; omega, fun hx => by have := (s.lt b hx).2; omega⟩
theorem PSD.drawn0 {Pp : Prop} {w w2 w3 w4 w5 : World} {B m : Nat} {d0 d1 : Option Desc} {ov wv : Value} {ts : List (Value × Value × List Int)} {left : Int} {K' V' : Desc → Nat → Int} {c' : Desc → Int} {ka va : Option Addr} {kc vc : Nat} {l5 : List Nat} (s : PSD Pp w B m d0 d1 ov wv ts left) (b2 : Below w.heap.size w w2) (f3 : Fr w2 w3 (gOf d0)) (f4 : Fr w3 w4 (hOf d0)) (f5 : Fr w4 w5 l5) (hl5 : ∀ b, b ∈ l5 → w.heap.size ≤ b ∧ b < w2.heap.size) (h3 : ∀ q, d0 = some q → SpAt w3 q.g q.dg (K' q) (V' q) q.L (c' q)) (h4 : ∀ q, d0 = some q → RSp w4 q.h q.dg q.L (c' q) ka kc va vc (fL (K' q) (szOf q.dg)) (fL (V' q) (szOf q.dg)) ∧ ∀ b, b ∈ ablk ka ++ ablk va → b ∈ ablk q.ka ++ ablk q.va ∨ w3.heap.size ≤ b) (hc : ∀ q, d0 = some q → 0 ≤ c' q ∧ c' q ≤ q.L) :
    ∃ d', PSD Pp w5 B m d' d1 ov wv ts left ∧ omb d' = omb d0 ∧ (∀ b, b ∈ orb d' → b ∈ orb d0 ∨ w3.heap.size ≤ b) ∧ Fr w w5 (omb d0) := by
  have g1 : Fr w w3 (omb d0) := (below_fr b2 _).trans (f3.mono fun b hb => by cases d0 with
    | none => cases hb
    | some q => simp only [gOf, List.mem_singleton] at hb; subst hb; simp [omb])
  have g2 : Fr w w4 (omb d0) := g1.trans (f4.mono fun b hb => by cases d0 with
    | none => cases hb
    | some q => simp only [hOf, List.mem_singleton] at hb; subst hb; simp [omb])
  have g3 : Fr w w5 (omb d0) := g2.late f5 fun b hb => .inr (hl5 b hb).1
  have z3 := f3.size
  have z4 := f4.size
  have z5 := f5.size
  have z2 := b2.size
  have hmem : ∀ b, b ∈ omb d0 → b < w.heap.size := fun b hb => (s.ps.lt b (List.mem_append_right _ (List.mem_append_left _ hb))).2
  have hro : ∀ b, b ∈ orb d0 → b < w.heap.size := fun b hb => (s.ps.ro b (List.mem_append_left _ hb)).1
  have hD : ∀ d, (d0.map fun q => (⟨q.g, q.h, q.dg, K' q, V' q, q.L, c' q, ka, kc, va, vc⟩ : Desc)) = some d → DAt w5 B d := by
    intro d e
    obtain ⟨q, hq, rfl⟩ := Option.map_eq_some_iff.1 e
    subst hq
    have a := s.ps.D0 q rfl
    have hs := s.ps.nod
    rw [PMb, List.singleton_append, List.nodup_cons, List.nodup_append] at hs
    have gh : q.g ≠ q.h := by have z := hs.2.1; simp [omb] at z; exact z
    have ltg := hmem q.g (by simp [omb])
    have lth := hmem q.h (by simp [omb])
    have r4 := h4 q rfl
    have n5 : ∀ b, b < w.heap.size ∨ w2.heap.size ≤ b → b ∉ l5 := fun b hb hx => by have := hl5 b hx; omega
    refine ⟨((h3 q rfl).block (f4.block q.g (by omega) (by simp only [hOf, List.mem_singleton]; exact gh))).block (f5.block q.g (by omega) (n5 _ (.inl ltg))), r4.1.blk (f5.block q.h (by omega) (n5 _ (.inl lth))) (fun b off eb => ?_) (fun b off eb => ?_), a.kn, (hc q rfl).1, (hc q rfl).2, a.lL, a.gB, a.hB⟩
    · have hx : b ∈ ablk ka ++ ablk va := List.mem_append_left _ (by rw [eb]; exact List.mem_singleton.2 rfl)
      refine f5.block b (r4.1.rb a.kn b hx).1 (n5 b ?_)
      rcases r4.2 b hx with hy | hy
      · exact .inl (hro b hy)
      · exact .inr (by omega)
    · have hx : b ∈ ablk ka ++ ablk va := List.mem_append_right _ (by rw [eb]; exact List.mem_singleton.2 rfl)
      refine f5.block b (r4.1.rb a.kn b hx).1 (n5 b ?_)
      rcases r4.2 b hx with hy | hy
      · exact .inl (hro b hy)
      · exact .inr (by omega)
  have hor : ∀ b, b ∈ orb (d0.map fun q => (⟨q.g, q.h, q.dg, K' q, V' q, q.L, c' q, ka, kc, va, vc⟩ : Desc)) → b ∈ orb d0 ∨ w3.heap.size ≤ b ∧ b < w5.heap.size := by
    intro b hb
    cases d0 with
    | none => cases hb
    | some q =>
      have a := s.ps.D0 q rfl
      have r4 := h4 q rfl
      rcases r4.2 b hb with hy | hy
      · exact .inl hy
      · exact .inr ⟨hy, by have := (r4.1.rb a.kn b hb).1; omega⟩
  have e1 : omb (d0.map fun q => (⟨q.g, q.h, q.dg, K' q, V' q, q.L, c' q, ka, kc, va, vc⟩ : Desc)) = omb d0 := by cases d0 <;> rfl
  refine ⟨_, ⟨s.ps.upd0 e1 (by cases d0 <;> rfl) (by cases d0 <;> rfl) g3 hD (fun b hb => ?_), fun p => (s.dr p).fr g3 (fun b hb => .inl (List.mem_append_right _ (List.mem_append_left _ hb))) (fun b hb => .inl ?_) (fun b hb => ?_)⟩, e1, fun b hb => ?_, g3⟩
  · rcases hor b hb with h | h
    · exact .inl h
    · exact .inr (by omega)
  · rw [PMb, e1] at hb
    exact hb
  · rcases List.mem_append.1 hb with hb | hb
    · rcases hor b hb with h | h
      · exact .inl (List.mem_append_left _ h)
      · exact .inr (by omega)
    · exact .inl (List.mem_append_right _ hb)
  · rcases hor b hb with h | h
    · exact .inl h
    · exact .inr h.1
theorem PSD.drawn1 {Pp : Prop} {w w2 w3 w4 w5 : World} {B m : Nat} {d0 d1 : Option Desc} {ov wv : Value} {ts : List (Value × Value × List Int)} {left : Int} {K' V' : Desc → Nat → Int} {c' : Desc → Int} {ka va : Option Addr} {kc vc : Nat} {l5 : List Nat} (s : PSD Pp w B m d0 d1 ov wv ts left) (b2 : Below w.heap.size w w2) (f3 : Fr w2 w3 (gOf d1)) (f4 : Fr w3 w4 (hOf d1)) (f5 : Fr w4 w5 l5) (hl5 : ∀ b, b ∈ l5 → w.heap.size ≤ b ∧ b < w2.heap.size) (h3 : ∀ q, d1 = some q → SpAt w3 q.g q.dg (K' q) (V' q) q.L (c' q)) (h4 : ∀ q, d1 = some q → RSp w4 q.h q.dg q.L (c' q) ka kc va vc (fL (K' q) (szOf q.dg)) (fL (V' q) (szOf q.dg)) ∧ ∀ b, b ∈ ablk ka ++ ablk va → b ∈ ablk q.ka ++ ablk q.va ∨ w3.heap.size ≤ b) (hc : ∀ q, d1 = some q → 0 ≤ c' q ∧ c' q ≤ q.L) :
    ∃ d', PSD Pp w5 B m d0 d' ov wv ts left ∧ omb d' = omb d1 ∧ (∀ b, b ∈ orb d' → b ∈ orb d1 ∨ w3.heap.size ≤ b) ∧ Fr w w5 (omb d1) := by
  have g1 : Fr w w3 (omb d1) := (below_fr b2 _).trans (f3.mono fun b hb => by cases d1 with
    | none => cases hb
    | some q => simp only [gOf, List.mem_singleton] at hb; subst hb; simp [omb])
  have g2 : Fr w w4 (omb d1) := g1.trans (f4.mono fun b hb => by cases d1 with
    | none => cases hb
    | some q => simp only [hOf, List.mem_singleton] at hb; subst hb; simp [omb])
  have g3 : Fr w w5 (omb d1) := g2.late f5 fun b hb => .inr (hl5 b hb).1
  have z3 := f3.size
  have z4 := f4.size
  have z5 := f5.size
  have z2 := b2.size
  have hmem : ∀ b, b ∈ omb d1 → b < w.heap.size := fun b hb => (s.ps.lt b (List.mem_append_right _ (List.mem_append_right _ (List.mem_append_left _ hb)))).2
  have hro : ∀ b, b ∈ orb d1 → b < w.heap.size := fun b hb => (s.ps.ro b (List.mem_append_right _ hb)).1
  have hD : ∀ d, (d1.map fun q => (⟨q.g, q.h, q.dg, K' q, V' q, q.L, c' q, ka, kc, va, vc⟩ : Desc)) = some d → DAt w5 B d := by
    intro d e
    obtain ⟨q, hq, rfl⟩ := Option.map_eq_some_iff.1 e
    subst hq
    have a := s.ps.D1 q rfl
    have hs := s.ps.nod
    rw [PMb, List.singleton_append, List.nodup_cons, List.nodup_append, List.nodup_append] at hs
    have gh : q.g ≠ q.h := by have z := hs.2.2.1.1; simp [omb] at z; exact z
    have ltg := hmem q.g (by simp [omb])
    have lth := hmem q.h (by simp [omb])
    have r4 := h4 q rfl
    have n5 : ∀ b, b < w.heap.size ∨ w2.heap.size ≤ b → b ∉ l5 := fun b hb hx => by have := hl5 b hx; omega
    refine ⟨((h3 q rfl).block (f4.block q.g (by omega) (by simp only [hOf, List.mem_singleton]; exact gh))).block (f5.block q.g (by omega) (n5 _ (.inl ltg))), r4.1.blk (f5.block q.h (by omega) (n5 _ (.inl lth))) (fun b off eb => ?_) (fun b off eb => ?_), a.kn, (hc q rfl).1, (hc q rfl).2, a.lL, a.gB, a.hB⟩
    · have hx : b ∈ ablk ka ++ ablk va := List.mem_append_left _ (by rw [eb]; exact List.mem_singleton.2 rfl)
      refine f5.block b (r4.1.rb a.kn b hx).1 (n5 b ?_)
      rcases r4.2 b hx with hy | hy
      · exact .inl (hro b hy)
      · exact .inr (by omega)
    · have hx : b ∈ ablk ka ++ ablk va := List.mem_append_right _ (by rw [eb]; exact List.mem_singleton.2 rfl)
      refine f5.block b (r4.1.rb a.kn b hx).1 (n5 b ?_)
      rcases r4.2 b hx with hy | hy
      · exact .inl (hro b hy)
      · exact .inr (by omega)
  have hor : ∀ b, b ∈ orb (d1.map fun q => (⟨q.g, q.h, q.dg, K' q, V' q, q.L, c' q, ka, kc, va, vc⟩ : Desc)) → b ∈ orb d1 ∨ w3.heap.size ≤ b ∧ b < w5.heap.size := by
    intro b hb
    cases d1 with
    | none => cases hb
    | some q =>
      have a := s.ps.D1 q rfl
      have r4 := h4 q rfl
      rcases r4.2 b hb with hy | hy
      · exact .inl hy
      · exact .inr ⟨hy, by have := (r4.1.rb a.kn b hb).1; omega⟩
  have e1 : omb (d1.map fun q => (⟨q.g, q.h, q.dg, K' q, V' q, q.L, c' q, ka, kc, va, vc⟩ : Desc)) = omb d1 := by cases d1 <;> rfl
  refine ⟨_, ⟨s.ps.upd1 e1 (by cases d1 <;> rfl) (by cases d1 <;> rfl) g3 hD (fun b hb => ?_), fun p => (s.dr p).fr g3 (fun b hb => .inl (List.mem_append_right _ (List.mem_append_right _ (List.mem_append_left _ hb)))) (fun b hb => .inl ?_) (fun b hb => ?_)⟩, e1, fun b hb => ?_, g3⟩
  · rcases hor b hb with h | h
    · exact .inl h
    · exact .inr (by omega)
  · rw [PMb, e1] at hb
    exact hb
  · rcases List.mem_append.1 hb with hb | hb
    · exact .inl (List.mem_append_left _ hb)
    · rcases hor b hb with h | h
      · exact .inl (List.mem_append_right _ h)
      · exact .inr (by omega)
  · rcases hor b hb with h | h
    · exact .inl h
    · exact .inr h.1
/-- The rows, and the number that is left, are changed. -/
theorem PS.row {w v : World} {B m n n' : Nat} {d0 d1 : Option Desc} {ov wv ov' wv' : Value} {os ws os' ws' : List Value} {left left' : Int} (s : PS w B m d0 d1 ov wv n os ws left) (fr : Fr w v ([m] ++ (vblk ov ++ vblk wv))) (hc : ∀ j, j < 4 → v.cell? ⟨m, j, none⟩ = w.cell? ⟨m, j, none⟩) (c4 : v.cell? ⟨m, 4, none⟩ = some ov') (c5 : v.cell? ⟨m, 5, none⟩ = some wv') (c6 : v.cell? ⟨m, 6, none⟩ = some (.int .i64 left')) (th : v.there m 0 7) (ho : v.ownsRow B 22 1 ov' n' os') (hw : v.ownsRow B 22 1 wv' n' ws') (hob : ∀ b, b ∈ vblk ov' → b ∈ vblk ov ∨ w.heap.size ≤ b) (hwb : ∀ b, b ∈ vblk wv' → b ∈ vblk wv ∨ w.heap.size ≤ b) (hne : ∀ b, b ∈ vblk ov' → b ∉ vblk wv') (l0 : 0 ≤ left') (l1 : left' ≤ 1048576) : PS v B m d0 d1 ov' wv' n' os' ws' left' := by
  have hs := s.nod
  rw [PMb, List.singleton_append, List.nodup_cons, List.nodup_append, List.nodup_append, List.nodup_append] at hs
  obtain ⟨hm, n0, ⟨n1, ⟨n2, n3, n23⟩, n1r⟩, n0r⟩ := hs
  have mlt : m < w.heap.size := lt_of_cell s.s0
  have ltO : ∀ b, b ∈ vblk ov → b < w.heap.size := fun b hb => (s.lt b (List.mem_append_right _ (List.mem_append_right _ (List.mem_append_right _ (List.mem_append_left _ hb))))).2
  have ltW : ∀ b, b ∈ vblk wv → b < w.heap.size := fun b hb => (s.lt b (List.mem_append_right _ (List.mem_append_right _ (List.mem_append_right _ (List.mem_append_right _ hb))))).2
  have lt0 : ∀ b, b ∈ omb d0 → b < w.heap.size := fun b hb => (s.lt b (List.mem_append_right _ (List.mem_append_left _ hb))).2
  have lt1 : ∀ b, b ∈ omb d1 → b < w.heap.size := fun b hb => (s.lt b (List.mem_append_right _ (List.mem_append_right _ (List.mem_append_left _ hb)))).2
  have nin : ∀ b, b ∈ omb d0 ++ omb d1 → b ∉ [m] ++ (vblk ov ++ vblk wv) := by
    intro b hb hx
    rcases List.mem_append.1 hx with hx | hx
    · rw [List.mem_singleton] at hx
      subst hx
      rcases List.mem_append.1 hb with hb | hb
      · exact hm (List.mem_append_left _ hb)
      · exact hm (List.mem_append_right _ (List.mem_append_left _ hb))
    · rcases List.mem_append.1 hb with hb | hb
      · exact n0r b hb b (List.mem_append_right _ hx) rfl
      · exact n1r b hb b hx rfl
  have s0 : Same w v (omb d0) := fun b hb => fr.block b (lt0 b hb) (nin b (List.mem_append_left _ hb))
  have s1 : Same w v (omb d1) := fun b hb => fr.block b (lt1 b hb) (nin b (List.mem_append_right _ hb))
  have sr : Same w v (orb d0 ++ orb d1) := fun b hb => fr.block b (s.ro b hb).1 (fun hx => (s.ro b hb).2.2 (by
    rcases List.mem_append.1 hx with hx | hx
    · exact List.mem_append_left _ hx
    · exact List.mem_append_right _ (List.mem_append_right _ (List.mem_append_right _ hx))))
  have one : ∀ x : Value, (vblk x).Nodup := fun x => by unfold vblk; cases x.ownBlock <;> simp
  have news : ∀ b, b ∈ vblk ov' ++ vblk wv' → b ∈ vblk ov ++ vblk wv ∨ w.heap.size ≤ b := fun b hb => by
    rcases List.mem_append.1 hb with hb | hb
    · rcases hob b hb with h | h
      · exact .inl (List.mem_append_left _ h)
      · exact .inr h
    · rcases hwb b hb with h | h
      · exact .inl (List.mem_append_right _ h)
      · exact .inr h
  refine ⟨by rw [hc 0 (by omega)]; exact s.s0, by rw [hc 1 (by omega)]; exact s.s1, by rw [hc 2 (by omega)]; exact s.t0, by rw [hc 3 (by omega)]; exact s.t1, c4, c5, c6, th, fun d e => ?_, fun d e => ?_, ho, hw, s.mB, ?_, fun b hb => ⟨Nat.lt_of_lt_of_le (s.ro b hb).1 fr.size, (s.ro b hb).2.1, fun hx => ?_⟩, l0, l1⟩
  · subst e
    exact (s.D0 d rfl).keep s0 sr.left
  · subst e
    exact (s.D1 d rfl).keep s1 sr.right
  · rw [PMb, List.singleton_append, List.nodup_cons, List.nodup_append, List.nodup_append, List.nodup_append]
    refine ⟨fun hx => ?_, n0, ⟨n1, ⟨one _, one _, fun a ha b hb e => by subst e; exact hne a ha hb⟩, fun a ha b hb e => ?_⟩, fun a ha b hb e => ?_⟩
    · rcases List.mem_append.1 hx with hx | hx
      · exact hm (List.mem_append_left _ hx)
      · rcases List.mem_append.1 hx with hx | hx
        · exact hm (List.mem_append_right _ (List.mem_append_left _ hx))
        · rcases news m hx with h | h
          · exact hm (List.mem_append_right _ (List.mem_append_right _ h))
          · omega
    · subst e
      rcases news a hb with h | h
      · exact n1r a ha a h rfl
      · have := lt1 a ha; omega
    · subst e
      rcases List.mem_append.1 hb with hb | hb
      · exact n0r a ha a (List.mem_append_left _ hb) rfl
      · rcases news a hb with h | h
        · exact n0r a ha a (List.mem_append_right _ h) rfl
        · have := lt0 a ha; omega
  · have z := s.ro b hb
    rcases List.mem_append.1 hx with hx | hx
    · exact z.2.2 (List.mem_append_left _ hx)
    · rcases List.mem_append.1 hx with hx | hx
      · exact z.2.2 (List.mem_append_right _ (List.mem_append_left _ hx))
      · rcases List.mem_append.1 hx with hx | hx
        · exact z.2.2 (List.mem_append_right _ (List.mem_append_right _ (List.mem_append_left _ hx)))
        · rcases news b hx with h | h
          · exact z.2.2 (List.mem_append_right _ (List.mem_append_right _ (List.mem_append_right _ h)))
          · have := z.1; omega
end Go.Proofs.YtkeklmkaleomkaaDoor
namespace Go.Proofs.YtkeklmkaleomkaaDoor
open Go.RowKit
set_option linter.unusedVariables false
set_option linter.unusedSimpArgs false
/-- What a step leaves. -/
def StepP (Pp : Prop) (w w' : World) (e : Ending) (B m k : Nat) : Prop := e = .returned (.bool true) ∧ Below B w w' ∧ ∃ d0 d1 ov wv ts left, PSD Pp w' B m d0 d1 ov wv ts left ∧ ts.length ≤ k + 1
theorem pl_sm {w u : World} {g : Nat} {v : Value} {yss : List (List Int)} (h : PL w g v yss) (hu : Sm w u) : PL u g v yss := by
  rcases h with h | ⟨h1, h2⟩
  · exact .inl h
  · exact .inr ⟨h1, parts_keep h2 (fun q hq => by rw [hu.heap])⟩
theorem gOf_mem {d : Option Desc} {b : Nat} (h : b ∈ gOf d) : b ∈ omb d := by
  cases d with
  | none => cases h
  | some q => simp only [gOf, List.mem_singleton] at h; subst h; simp [omb]
theorem hOf_mem {d : Option Desc} {b : Nat} (h : b ∈ hOf d) : b ∈ omb d := by
  cases d with
  | none => cases h
  | some q => simp only [hOf, List.mem_singleton] at h; subst h; simp [omb]
theorem PS.side0 {w : World} {B m n : Nat} {d0 d1 : Option Desc} {ov wv : Value} {os ws : List Value} {left : Int} (s : PS w B m d0 d1 ov wv n os ws left) : ∀ b, b ∈ omb d0 → B ≤ b ∧ b < w.heap.size ∧ b ≠ m := fun b hb =>
  have z := s.lt b (List.mem_append_right _ (List.mem_append_left _ hb))
  ⟨z.1, z.2, s.notm b (List.mem_append_left _ hb)⟩
theorem PS.side1 {w : World} {B m n : Nat} {d0 d1 : Option Desc} {ov wv : Value} {os ws : List Value} {left : Int} (s : PS w B m d0 d1 ov wv n os ws left) : ∀ b, b ∈ omb d1 → B ≤ b ∧ b < w.heap.size ∧ b ≠ m := fun b hb =>
  have z := s.lt b (List.mem_append_right _ (List.mem_append_right _ (List.mem_append_left _ hb)))
  ⟨z.1, z.2, s.notm b (List.mem_append_right _ (List.mem_append_left _ hb))⟩
theorem PS.gh0 {w : World} {B m n : Nat} {d0 d1 : Option Desc} {ov wv : Value} {os ws : List Value} {left : Int} (s : PS w B m d0 d1 ov wv n os ws left) : ∀ q, d0 = some q → q.g ≠ q.h := by
  intro q e
  subst e
  have hs := s.nod
  rw [PMb, List.singleton_append, List.nodup_cons, List.nodup_append] at hs
  have z := hs.2.1
  simp [omb] at z
  exact z
theorem PS.gh1 {w : World} {B m n : Nat} {d0 d1 : Option Desc} {ov wv : Value} {os ws : List Value} {left : Int} (s : PS w B m d0 d1 ov wv n os ws left) : ∀ q, d1 = some q → q.g ≠ q.h := by
  intro q e
  subst e
  have hs := s.nod
  rw [PMb, List.singleton_append, List.nodup_cons, List.nodup_append, List.nodup_append] at hs
  have z := hs.2.2.1.1
  simp [omb] at z
  exact z
theorem PS.rnot0 {w : World} {B m n : Nat} {d0 d1 : Option Desc} {ov wv : Value} {os ws : List Value} {left : Int} (s : PS w B m d0 d1 ov wv n os ws left) : ∀ q, d0 = some q → ∀ b, b ∈ ablk q.ka ++ ablk q.va → b < w.heap.size ∧ b ≠ q.g := by
  intro q e b hb
  subst e
  have z := s.ro b (List.mem_append_left _ hb)
  exact ⟨z.1, fun x => z.2.2 (List.mem_append_right _ (List.mem_append_left _ (by rw [x]; simp [omb])))⟩
theorem PS.rnot1 {w : World} {B m n : Nat} {d0 d1 : Option Desc} {ov wv : Value} {os ws : List Value} {left : Int} (s : PS w B m d0 d1 ov wv n os ws left) : ∀ q, d1 = some q → ∀ b, b ∈ ablk q.ka ++ ablk q.va → b < w.heap.size ∧ b ≠ q.g := by
  intro q e b hb
  subst e
  have z := s.ro b (List.mem_append_right _ hb)
  exact ⟨z.1, fun x => z.2.2 (List.mem_append_right _ (List.mem_append_right _ (List.mem_append_left _ (by rw [x]; simp [omb]))))⟩
theorem lent_fr {w v : World} {B n : Nat} {x : Value} {vs : List Value} {yss : List (List Int)} {l : List Nat} (ho : w.ownsRow B 22 1 x n vs) (hL : Lent B w vs yss) (fr : Fr w v l) (hl : ∀ b, b ∈ l → b < B) : v.ownsRow B 22 1 x n vs ∧ Lent B v vs yss := by
  refine ⟨owns_same ho fun b hb => ?_, fun i y hy => (hL i y hy).blk2 fun g hg => ?_⟩
  · have z := ho.lt b (by simpa [vblk] using hb)
    exact fr.block b z.2 (fun hx => by have := hl b hx; omega)
  · have z := (hL i y hy).blk_lt hg
    exact fr.block g z.2 (fun hx => by have := hl g hx; omega)
theorem there_blk {w v : World} {m n : Nat} (h : w.there m 0 n) (hb : v.heap[m]? = w.heap[m]?) : v.there m 0 n := fun j hj => by
  rw [World.cell?_of_block (a := ⟨m, 0 + j, none⟩) hb, World.frozen?_of_block (a := ⟨m, 0 + j, none⟩) hb]
  exact h j hj
/-- The first row has grown. -/
structure PH (w v : World) (B m n : Nat) (ov wv ov' : Value) (os ws : List Value) (x : Value) (left' : Int) : Prop where
  fr : Fr w v ([m] ++ (vblk ov ++ vblk wv))
  cs : ∀ j, j < 4 → v.cell? ⟨m, j, none⟩ = w.cell? ⟨m, j, none⟩
  c4 : v.cell? ⟨m, 4, none⟩ = some ov'
  c5 : v.cell? ⟨m, 5, none⟩ = some wv
  c6 : v.cell? ⟨m, 6, none⟩ = some (.int .i64 left')
  th : v.there m 0 7
  ho : v.ownsRow B 22 1 ov' (n + 1) (os ++ [x])
  hw : v.ownsRow B 22 1 wv n ws
  ob : ∀ b, b ∈ vblk ov' → b ∈ vblk ov ∨ w.heap.size ≤ b
  ne : ∀ b, b ∈ vblk ov' → b ∉ vblk wv ∧ b ≠ m ∧ b < v.heap.size
theorem vblk_own {x : Value} {b : Nat} : b ∈ vblk x ↔ x.ownBlock = some b := by
  unfold vblk
  cases x.ownBlock with
  | none => simp
  | some q => simp [eq_comm]
theorem PS.apart {w : World} {B m n : Nat} {d0 d1 : Option Desc} {ov wv : Value} {os ws : List Value} {left : Int} (s : PS w B m d0 d1 ov wv n os ws left) : (∀ b, b ∈ vblk ov → b < w.heap.size ∧ b ≠ m ∧ b ∉ vblk wv) ∧ (∀ b, b ∈ vblk wv → b < w.heap.size ∧ b ≠ m) := by
  have hs := s.nod
  rw [PMb, List.singleton_append, List.nodup_cons, List.nodup_append, List.nodup_append, List.nodup_append] at hs
  refine ⟨fun b hb => ⟨(s.lt b (List.mem_append_right _ (List.mem_append_right _ (List.mem_append_right _ (List.mem_append_left _ hb))))).2, s.notm b (List.mem_append_right _ (List.mem_append_right _ (List.mem_append_left _ hb))), fun hx => hs.2.2.1.2.1.2.2 b hb b hx rfl⟩, fun b hb => ⟨(s.lt b (List.mem_append_right _ (List.mem_append_right _ (List.mem_append_right _ (List.mem_append_right _ hb))))).2, s.notm b (List.mem_append_right _ (List.mem_append_right _ (List.mem_append_right _ hb)))⟩⟩
theorem PS.half {w w9 : World} {B m n : Nat} {d0 d1 : Option Desc} {ov wv ov' : Value} {os ws : List Value} {left left' : Int} {x : Value} {o : Obj} (s : PS w B m d0 d1 ov wv n os ws left) (ho : w9.ownsRow B 22 1 ov' (n + 1) (os ++ [x])) (g9 : ((w.setCell ⟨m, 6, none⟩ (.int .i64 left')).alloc o).grownBy w9 ov.ownBlock) (a9 : ov'.ownBlock = ov.ownBlock ∨ ov'.ownBlock = some ((w.setCell ⟨m, 6, none⟩ (.int .i64 left')).alloc o).heap.size) : PH w (w9.setCell ⟨m, 4, none⟩ ov') B m n ov wv ov' os ws x left' := by
  have mlt : m < w.heap.size := lt_of_cell s.s0
  obtain ⟨ap, aw⟩ := s.apart
  have z7 : (w.setCell ⟨m, 6, none⟩ (.int .i64 left')).heap.size = w.heap.size := size_setCells m [.int .i64 left'] 6 w
  have z8 : ((w.setCell ⟨m, 6, none⟩ (.int .i64 left')).alloc o).heap.size = w.heap.size + 1 := by rw [size_alloc1, z7]
  have z9 := g9.size
  have z10 : (w9.setCell ⟨m, 4, none⟩ ov').heap.size = w9.heap.size := size_setCells m [ov'] 4 w9
  have f7 : Fr w (w.setCell ⟨m, 6, none⟩ (.int .i64 left')) [m] := touch_fr ((Touch.refl w m 0 7).setCell 6 _ (by omega) (by omega))
  have f8 : Fr w ((w.setCell ⟨m, 6, none⟩ (.int .i64 left')).alloc o) [m] := f7.trans (below_fr (below_alloc1 _ _) _)
  have f9 : Fr w w9 ([m] ++ vblk ov) := f8.then (grown_fr g9)
  have f10 : Fr w (w9.setCell ⟨m, 4, none⟩ ov') ([m] ++ vblk ov) := f9.trans ((touch_fr ((Touch.refl w9 m 0 7).setCell 4 _ (by omega) (by omega))).mono fun b hb => List.mem_append_left _ hb)
  have b8 : ((w.setCell ⟨m, 6, none⟩ (.int .i64 left')).alloc o).heap[m]? = (w.setCell ⟨m, 6, none⟩ (.int .i64 left')).heap[m]? := Below.heap_alloc _ _ m (by omega)
  have b9 : w9.heap[m]? = (w.setCell ⟨m, 6, none⟩ (.int .i64 left')).heap[m]? := (g9.block m (by omega) (fun e => (ap m (vblk_own.2 e.symm)).2.1 rfl)).trans b8
  have c9 : ∀ j, w9.cell? ⟨m, j, none⟩ = (w.setCell ⟨m, 6, none⟩ (.int .i64 left')).cell? ⟨m, j, none⟩ := fun j => World.cell?_of_block (a := ⟨m, j, none⟩) b9
  have o9 : ∀ j, j ≠ 6 → w9.cell? ⟨m, j, none⟩ = w.cell? ⟨m, j, none⟩ := fun j hj => by rw [c9]; exact set_cells j hj
  have th7 : (w.setCell ⟨m, 6, none⟩ (.int .i64 left')).there m 0 7 := World.there_setCells s.there m 6 [.int .i64 left']
  have th9 : w9.there m 0 7 := there_blk th7 b9
  have nb : ∀ b, b ∈ vblk ov' → (b ∈ vblk ov ∨ w.heap.size + 1 = b) := fun b hb => by
    rcases a9 with e | e
    · exact .inl (vblk_own.2 (by rw [← e]; exact vblk_own.1 hb))
    · have q := vblk_own.1 hb
      rw [e, z8] at q
      injection q with q
      exact .inr q
  have ne : ∀ b, b ∈ vblk ov' → b ∉ vblk wv ∧ b ≠ m ∧ b < (w9.setCell ⟨m, 4, none⟩ ov').heap.size := fun b hb => by
    have lt9 := (ho.lt b (vblk_own.1 hb)).2
    rw [z10]
    rcases nb b hb with h | h
    · exact ⟨(ap b h).2.2, (ap b h).2.1, lt9⟩
    · exact ⟨fun hx => by have := (aw b hx).1; omega, by omega, lt9⟩
  have s9 : Same w (w9.setCell ⟨m, 4, none⟩ ov') (vblk wv) := fun b hb => f10.block b (aw b hb).1 (fun hx => by
    rcases List.mem_append.1 hx with hx | hx
    · exact (aw b hb).2 (List.mem_singleton.1 hx)
    · exact (ap b hx).2.2 hb)
  refine ⟨f10.mono fun b hb => ?_, fun j hj => ?_, ?_, ?_, ?_, World.there_setCells th9 m 4 [ov'], owns_same ho fun b hb => ?_, owns_same s.was s9, fun b hb => ?_, ne⟩
  · rcases List.mem_append.1 hb with hb | hb
    · exact List.mem_append_left _ hb
    · exact List.mem_append_right _ (List.mem_append_left _ hb)
  · rw [set_cells j (by omega), o9 j (by omega)]
  · exact World.cell?_setCell_same' _ _ _ (by rw [o9 4 (by omega), s.co]; rfl)
  · rw [set_cells 5 (by omega), o9 5 (by omega)]; exact s.cw
  · rw [set_cells 6 (by omega), c9]; exact World.cell?_setCell_same' _ _ _ (by rw [s.cl]; rfl)
  · exact Below.heap_setCell _ _ _ b (ne b hb).2.1
  · rcases nb b hb with h | h
    · exact .inl h
    · exact .inr (by omega)
theorem PS.both {w v w12 : World} {B m n : Nat} {d0 d1 : Option Desc} {ov wv ov' wv' : Value} {os ws : List Value} {left left' : Int} {x y : Value} {o : Obj} (s : PS w B m d0 d1 ov wv n os ws left) (h : PH w v B m n ov wv ov' os ws x left') (hw : w12.ownsRow B 22 1 wv' (n + 1) (ws ++ [y])) (g12 : (v.alloc o).grownBy w12 wv.ownBlock) (a12 : wv'.ownBlock = wv.ownBlock ∨ wv'.ownBlock = some (v.alloc o).heap.size) (l0 : 0 ≤ left') (l1 : left' ≤ 1048576) : PS (w12.setCell ⟨m, 5, none⟩ wv') B m d0 d1 ov' wv' (n + 1) (os ++ [x]) (ws ++ [y]) left' ∧ Fr w (w12.setCell ⟨m, 5, none⟩ wv') ([m] ++ (vblk ov ++ vblk wv)) := by
  have mlt : m < w.heap.size := lt_of_cell s.s0
  obtain ⟨ap, aw⟩ := s.apart
  have zv := h.fr.size
  have z11 : (v.alloc o).heap.size = v.heap.size + 1 := size_alloc1 _ _
  have z12 := g12.size
  have z13 : (w12.setCell ⟨m, 5, none⟩ wv').heap.size = w12.heap.size := size_setCells m [wv'] 5 w12
  have f12 : Fr w w12 ([m] ++ (vblk ov ++ vblk wv)) := (h.fr.trans (below_fr (below_alloc1 _ _) _)).trans ((grown_fr g12).mono fun b hb => List.mem_append_right _ (List.mem_append_right _ hb))
  have f13 : Fr w (w12.setCell ⟨m, 5, none⟩ wv') ([m] ++ (vblk ov ++ vblk wv)) := f12.trans ((touch_fr ((Touch.refl w12 m 0 7).setCell 5 _ (by omega) (by omega))).mono fun b hb => List.mem_append_left _ hb)
  have keep : ∀ b, b < v.heap.size → b ∉ vblk wv → w12.heap[b]? = v.heap[b]? := fun b hb hn => (g12.block b (by omega) (fun e => hn (vblk_own.2 e.symm))).trans (Below.heap_alloc _ _ b hb)
  have b12 : w12.heap[m]? = v.heap[m]? := keep m (by omega) (fun hx => (aw m hx).2 rfl)
  have c12 : ∀ j, w12.cell? ⟨m, j, none⟩ = v.cell? ⟨m, j, none⟩ := fun j => World.cell?_of_block (a := ⟨m, j, none⟩) b12
  have nb : ∀ b, b ∈ vblk wv' → (b ∈ vblk wv ∨ v.heap.size + 1 = b) := fun b hb => by
    rcases a12 with e | e
    · exact .inl (vblk_own.2 (by rw [← e]; exact vblk_own.1 hb))
    · have q := vblk_own.1 hb
      rw [e, z11] at q
      injection q with q
      exact .inr q
  have nm : ∀ b, b ∈ vblk wv' → b ≠ m := fun b hb => by
    rcases nb b hb with h | h
    · exact (aw b h).2
    · omega
  refine ⟨s.row f13 (fun j hj => by rw [set_cells j (by omega), c12, h.cs j hj]) (by rw [set_cells 4 (by omega), c12]; exact h.c4) (World.cell?_setCell_same' _ _ _ (by rw [c12, h.c5]; rfl)) (by rw [set_cells 6 (by omega), c12]; exact h.c6) (World.there_setCells (there_blk h.th b12) m 5 [wv']) (owns_same h.ho fun b hb => ?_) (owns_same hw fun b hb => Below.heap_setCell _ _ _ b (nm b hb)) h.ob (fun b hb => ?_) (fun b hb hx => ?_) l0 l1, f13⟩
  · rw [Below.heap_setCell _ _ _ b (h.ne b hb).2.1]
    exact keep b (h.ne b hb).2.2 (h.ne b hb).1
  · rcases nb b hb with q | q
    · exact .inl q
    · exact .inr (by omega)
  · have q := h.ne b hb
    rcases nb b hx with q1 | q1
    · exact q.1 q1
    · omega
theorem PSD.item {Pp : Prop} {w w2 w3 w4 w6 : World} {B m : Nat} {d0 d1 e0 e1 : Option Desc} {ov wv : Value} {ts : List (Value × Value × List Int)} {left : Int} {l4 l6 : List Nat} {oa ba : Option Addr} {on bn bc : Nat} {Z : List Int} (s : PSD Pp w B m d0 d1 ov wv ts left) (s6 : PSD Pp w6 B m e0 e1 ov wv ts left) (hM : ∀ b, b ∈ PMb m e0 e1 ov wv → b < w.heap.size) (hR : ∀ b, b ∈ orb e0 ++ orb e1 → b < w.heap.size ∨ w3.heap.size ≤ b) (hB : B ≤ w.heap.size) (z2 : w.heap.size ≤ w2.heap.size) (z3 : w2.heap.size ≤ w3.heap.size) (f4 : Fr w3 w4 l4) (hl4 : ∀ b, b ∈ l4 → b < w.heap.size) (f6 : Fr w4 w6 l6) (hl6 : ∀ b, b ∈ l6 → b < w2.heap.size) (o : OV w3 w2.heap.size oa on Z) (v : View w4 (.slice ba bn bc) Z) (hb : ∀ b off, ba = some ⟨b, off, none⟩ → w3.heap.size ≤ b) (p : Pp) : Drw w6 B (PMb m e0 e1 ov wv) (orb e0 ++ orb e1) (ts ++ [(.slice oa on on, .slice ba bn bc, Z)]) := by
  have ob := o.blks
  have z4 := f4.size
  have vb : Z ≠ [] → ∀ b, b ∈ vblk (.slice ba bn bc) → w3.heap.size ≤ b ∧ b < w4.heap.size := fun h0 b hx => by
    obtain ⟨q, off, l, c, e⟩ := view_blks v h0 b hx
    injection e with e _ _
    exact ⟨hb b off e, q⟩
  refine (s6.dr p).push (C := w.heap.size) ⟨⟨oa, on, rfl, ((o.keep (fun b hx => f4.block b (ob b hx).2 (fun q => by have := hl4 b q; have := (ob b hx).1; omega)) f4.size).keep (fun b hx => f6.block b (by have := (ob b hx).2; omega) (fun q => by have := hl6 b q; have := (ob b hx).1; omega)) f6.size).base (by omega)⟩, view_keepP v (fun h0 b hx => f6.block b (vb h0 b hx).2 (fun q => by have := hl6 b q; have := (vb h0 b hx).1; omega)), fun b hx => ⟨fun q => by have := hM b q; have := (ob b hx).1; omega, fun q => ?_⟩, fun h0 b hx => ⟨by have := (vb h0 b hx).1; omega, fun q => by have := hM b q; have := (vb h0 b hx).1; omega⟩⟩ (s.dr p).old (fun b hx => by have := (ob b hx).1; omega) (fun h0 b hx => ⟨by have := (vb h0 b hx).1; omega, fun q => by have := (vb h0 b hx).1; have := (ob b q).2; omega⟩)
  have := ob b hx
  rcases hR b q with q | q <;> omega
theorem drZ_le {d : Option Desc} {N left : Int} {ys : List Int} (h : N ≤ left ∨ 65536 < N) (h0 : 0 ≤ left) : ((drZ d N ys).length : Int) ≤ left := by
  unfold drZ
  cases d with
  | none => simpa using h0
  | some q =>
    dsimp only
    split
    · rename_i hE
      have z := drE_zero hE
      rw [fL_length]
      omega
    · simpa using h0
theorem drNc_ok {q : Desc} {N : Int} {ys : List Int} (c0 : 0 ≤ q.c) (cL : q.c ≤ q.L) : 0 ≤ drNc q N ys ∧ drNc q N ys ≤ q.L := by
  unfold drNc
  split
  · rename_i hE
    have z := drE_zero hE
    omega
  · exact ⟨c0, cL⟩
theorem owns_sl22 {w : World} {B n : Nat} {v : Value} {cs : List Value} (h : w.ownsRow B 22 1 v n cs) : ∃ a c, v = .slice a n c := by
  rcases h.2 with ⟨e, e2⟩ | ⟨g, c, _, e, _⟩
  · exact ⟨none, 0, by rw [e, e2]⟩
  · exact ⟨_, c, e⟩
theorem one_sl (w : World) (x : Value) (t : TypeId) : ∀ j u, [x][j]? = some u → (w.alloc (.cells #[x] t)).cell? ((⟨w.heap.size, 0, none⟩ : Addr).add j) = some u := fun j u hj => by
  match j, hj with
  | 0, hj => simp at hj; subst hj; simp [Addr.add]
theorem one_sl1 (a : Option Addr) (n c : Nat) : ∀ u ∈ [(Value.slice a n c)], u.oneCell' = true := fun u hu => by
  simp at hu
  subst hu
  rfl
end Go.Proofs.YtkeklmkaleomkaaDoor
namespace Go.Proofs.YtkeklmkaleomkaaDoor
open Go.RowKit
set_option linter.unusedVariables false
set_option linter.unusedSimpArgs false
set_option maxHeartbeats 64000000 in
set_option maxRecDepth 100000 in
theorem plays_draw0 (Pp : Prop) (B m : Nat) (d0 d1 : Option Desc) (ov wv : Value) (ts : List (Value × Value × List Int)) (left : Int) (at_ n : Int) (ea xa : Option Addr) (en ec xn xc : Nat) (E : List Int) (xs : List Value) (yss : List (List Int)) (w : World) (hs : Hid (PSD Pp w B m d0 d1 ov wv ts left)) (hB : 4 ≤ B) (HP : Hid (∀ u, Below B w u → PV u (.slice xa xn xc) xs yss ∧ View u (.slice ea en ec) E ∧ Tables u ∧ RTab u)) (hxn : Hid (xs.length = xn)) (hl : Hid (yss.flatten.length ≤ 262144)) (hn : xn ≤ 1048576) (hel : Hid (E.length = en)) (hen : en ≤ 262144) (hts : ts.length ≤ 1000) (hat : at_.tmod 2 = 0) :
    Calls Tryd.prog 20 #[.pointer (some ⟨m, 0, none⟩), .agg #[.int .i64 1, .int .i64 at_, .int .i64 n, .slice ea en ec, .slice xa xn xc]] w fun e w' => Hid (StepP Pp w w' e B m ts.length) := by
  have HBs : Hid (B ≤ w.heap.size) := by show _ ≤ _; have := hs.out.ps.mB; have mlt : m < w.heap.size := lt_of_cell hs.out.ps.s0; omega
  go_enter Tryd.func20, Tryd.ntmps20
  go_upto_region 1 with fail
  have HA0 : Hid (OAt (w.alloc (.cells #[.int .i64 1, .int .i64 at_, .int .i64 n, .slice ea en ec, .slice xa xn xc] 39)) w.heap.size 1 at_ n (.slice ea en ec) (.slice xa xn xc) ∧ Below w.heap.size w (w.alloc (.cells #[.int .i64 1, .int .i64 at_, .int .i64 n, .slice ea en ec, .slice xa xn xc] 39)) ∧ (w.alloc (.cells #[.int .i64 1, .int .i64 at_, .int .i64 n, .slice ea en ec, .slice xa xn xc] 39)).heap.size = w.heap.size + 1) := ⟨OAt.new _ _ _ _ _ _ _, below_alloc1 _ _, size_alloc1 _ _⟩
  generalize w.alloc (.cells #[.int .i64 1, .int .i64 at_, .int .i64 n, .slice ea en ec, .slice xa xn xc] 39) = w0 at HA0 ⊢
  have c1 := HA0.out.1.c1
  have HP0 : Hid (PV w0 (.slice xa xn xc) xs yss) := (HP.out w0 (HA0.out.2.1.mono HBs.out)).1
  have c4 := HA0.out.1.c4
  have HL : Hid (Calls Tryd.prog 33 #[.slice xa xn xc] w0 fun e w' => e = .returned (.bool false) ∧ w' = w0) := long_ok xa xn xc xs yss w0 HP0 hxn hl (by omega)
  go_upto_region 6 with (go_at_call 33; refine HL.out.mono ?_; rintro e1 w1 ⟨rfl, hw1⟩; obtain rfl := hw1.symm)
  have H34 : Hid (Calls Tryd.prog 34 #[.slice xa xn xc] w0 fun e w' => Hid (∃ v', e = .returned v' ∧ ∃ vs, vs.length = xn ∧ w'.ownsRow w0.heap.size 22 1 v' xn vs ∧ Lent w0.heap.size w' vs yss ∧ Inc vs ∧ Below w0.heap.size w0 w')) := lent_ok xa xn xc xs yss w0 HP0 hxn (by show _ ≤ _; have := hl.out; omega) hn
  go_upto_region 7 with (go_at_call 34; refine H34.out.mono ?_; intro e2 w2 hh; obtain ⟨v', rfl, vs, hv1, hv2, hv3, hv4, hv5⟩ := hh.out)
  have HB2 : Hid (Below w.heap.size w w2) := HA0.out.2.1.trans (hv5.mono HA0.out.2.1.size)
  have HA2 : Hid (OAt w2 w.heap.size 1 at_ n (.slice ea en ec) (.slice xa xn xc)) := HA0.out.1.below hv5
  have HS2 : Hid (PSD Pp w2 B m d0 d1 ov wv ts left) := hs.out.below HB2.out
  have HLn : Hid (vs.length = xn ∧ w2.ownsRow w0.heap.size 22 1 v' xn vs ∧ Lent w0.heap.size w2 vs yss ∧ Inc vs ∧ w0.heap.size = w.heap.size + 1) := ⟨hv1, hv2, hv3, hv4, HA0.out.2.2⟩
  obtain ⟨va, vcap, rfl⟩ : ∃ a c, v' = .slice a xn c := by
    rcases HLn.out.2.1.2 with ⟨e, e2⟩ | ⟨g, c, _, e, _⟩
    · exact ⟨none, 0, by rw [e, e2]⟩
    · exact ⟨_, c, e⟩
  clear hh hv1 hv2 hv3 hv4 hv5 H34 c1 c4 HL HP0 HA0
  have c0 := HA2.out.c0
  have c2 := HA2.out.c2
  have k0 := HS2.out.ps.s0
  have k6 := HS2.out.ps.cl
  obtain ⟨N, HN⟩ : ∃ N, Hid (N = if left < n ∧ n ≤ 65536 then left else n) := ⟨_, rfl⟩
  obtain ⟨ys, HY⟩ : ∃ ys, Hid (ys = yss.flatten) := ⟨_, rfl⟩
  obtain ⟨EC, HEC⟩ : ∃ EC, Hid (EC = drC d0 N ys.length) := ⟨_, rfl⟩
  obtain ⟨Z, HZ⟩ : ∃ Z, Hid (Z = drZ d0 N ys) := ⟨_, rfl⟩
  have HBB : Hid (Below B w w2) := HB2.out.mono HBs.out
  have H12 : Hid (∀ u, Sm w2 u → ∀ M, M = N → Calls Tryd.prog 12 #[optg d0, .int .i64 M, .slice va xn vcap] u fun e w' => Hid (∃ oa on, e = .returned (.tuple #[.slice oa on on, .int .i64 EC]) ∧ OV w' w2.heap.size oa on Z ∧ (∀ q, d0 = some q → SpAt w' q.g q.dg (drNK q N ys) (drNV q N ys) q.L (drNc q N ys)) ∧ Fr w2 w' (gOf d0))) := fun u hu M hM => by
    have hyl : yss.length = xn := by obtain ⟨_, _, _, _, _, h3, _⟩ := (HP.out w2 HBB.out).1; rw [← h3, hxn.out]
    have q := pdraw_any HS2.out.ps.D0 N (.slice va xn vcap) yss u hu (by have t := (HP.out w2 HBB.out).2.2.1; exact t.below (Below.ofSm (Below.refl _ _) hu) (by have := t.size; omega)) hB (fun q e => by
      have hg := HS2.out.ps.D0 q e
      have lt : q.g < w.heap.size := by rw [e] at hs; exact (hs.out.ps.D0 q rfl).sp.lt
      have pl := lent_pl HLn.out.2.1 HLn.out.1 hyl HLn.out.2.2.1 (g := q.g) (by have := HLn.out.2.2.2.2; omega)
      exact pl_sm pl hu) hl.out (by omega)
    rw [← HY.out] at q
    rw [hM]
    refine q.mono ?_
    intro e w' hh
    obtain ⟨oa, on, h1, h2, h3, h4⟩ := hh.out
    rw [← HEC.out] at h1
    rw [← HZ.out] at h2
    exact ⟨oa, on, h1, by rw [← hu.heap]; exact h2, h3, ((sm_fr hu _).trans h4)⟩
  rcases (show (left < n ∧ n ≤ 65536) ∨ (left < n ∧ ¬ n ≤ 65536) ∨ ¬ left < n by omega) with ⟨hlt, hle⟩ | ⟨hlt, hle⟩ | hlt
  all_goals
    go_upto_region 12 with fail
    go_upto_region 13 with (go_at_call 12; refine (H12.out _ ⟨rfl, rfl, rfl, rfl⟩ _ (by rw [HN.out]; first | exact (if_pos ⟨hlt, hle⟩).symm | exact (if_neg (by omega)).symm)).mono ?_; intro e3 w3 hh; obtain ⟨oa, on, rfl, r1, r2, r3⟩ := hh.out)
    have HO3 : Hid (OV w3 w2.heap.size oa on Z ∧ (∀ q, d0 = some q → SpAt w3 q.g q.dg (drNK q N ys) (drNV q N ys) q.L (drNc q N ys)) ∧ Fr w2 w3 (gOf d0)) := ⟨r1, r2, r3⟩
    have HSI : Hid (∀ b, b ∈ omb d0 → B ≤ b ∧ b < w.heap.size ∧ b ≠ m) := hs.out.ps.side0
    have HF3 : Hid (Fr w w3 (omb d0)) := (below_fr HB2.out _).trans (r3.mono fun b hb => gOf_mem hb)
    have HA3 : Hid (OAt w3 w.heap.size 1 at_ n (.slice ea en ec) (.slice xa xn xc)) := HA2.out.blk (r3.block _ (lt_of_cell HA2.out.c0) (fun hx => by have := HSI.out _ (gOf_mem hx); omega))
    have HM3 : Hid (w3.heap[m]? = w2.heap[m]?) := r3.block m (lt_of_cell HS2.out.ps.s0) (fun hx => (HSI.out _ (gOf_mem hx)).2.2 rfl)
    have HL3 : Hid (w3.ownsRow w0.heap.size 22 1 (.slice va xn vcap) xn vs ∧ Lent w0.heap.size w3 vs yss) := lent_fr HLn.out.2.1 HLn.out.2.2.1 r3 (fun b hb => by have := HSI.out _ (gOf_mem hb); have := HLn.out.2.2.2.2; omega)
    clear hh r1 r2 r3 H12 c2 k0 k6 c0
    have k2 : w3.cell? ⟨m, 2, none⟩ = some (opth d0) := by rw [World.cell?_of_block (a := ⟨m, 2, none⟩) HM3.out]; exact HS2.out.ps.t0
    have c4 : w3.cell? ⟨w.heap.size, 4, none⟩ = some (.slice xa xn xc) := HA3.out.c4
    have H19 : Hid (∀ u, Sm w3 u → ∀ M, M = N → Calls Tryd.prog 19 #[opth d0, .int .i64 M, .slice xa xn xc] u fun e w' => Hid (∃ ba bn bc ka kc va vc, e = .returned (.tuple #[.slice ba bn bc, .int .i64 EC]) ∧ View w' (.slice ba bn bc) Z ∧ (∀ b off, ba = some ⟨b, off, none⟩ → w3.heap.size ≤ b) ∧ (∀ q, d0 = some q → RSp w' q.h q.dg q.L (drNc q N ys) ka kc va vc (fL (drNK q N ys) (szOf q.dg)) (fL (drNV q N ys) (szOf q.dg)) ∧ ∀ b, b ∈ ablk ka ++ ablk va → b ∈ ablk q.ka ++ ablk q.va ∨ w3.heap.size ≤ b) ∧ Fr w3 w' (hOf d0))) := fun u hu M hM => by
      have hb3 : Below B w u := (HF3.out.toBelow (fun b hb => (HSI.out b hb).1) HBs.out).trans (Below.ofSm (Below.refl _ _) hu |>.mono (by have := HF3.out.size; have := HBs.out; omega))
      have pp := HP.out u hb3
      have q := rdraw_any hs.out.ps.D0 N xa xn xc xs yss u (fun q e => by
        have a := hs.out.ps.D0 q e
        have e4 : u.heap = w3.heap := hu.heap
        have ne := hs.out.ps.gh0 q e
        have nr := hs.out.ps.rnot0 q e
        have f := HO3.out.2.2
        have g0 : ∀ b, b < w.heap.size → b ≠ q.g → u.heap[b]? = w.heap[b]? := fun b hb hx => by
          rw [e4, f.block b (Nat.lt_of_lt_of_le hb HB2.out.size) (by rw [e]; simp only [gOf, List.mem_singleton]; exact hx)]
          exact HB2.out.block b hb
        refine a.rs.blk (g0 q.h (a.rs.lt) (fun x => ne x.symm)) (fun b off eb => ?_) (fun b off eb => ?_)
        · have z := nr b (List.mem_append_left _ (by rw [eb]; exact List.mem_singleton.2 rfl))
          exact g0 b z.1 z.2
        · have z := nr b (List.mem_append_right _ (by rw [eb]; exact List.mem_singleton.2 rfl))
          exact g0 b z.1 z.2) pp.2.2.2 hB pp.1 hxn.out hl.out hn
      rw [← HY.out] at q
      rw [hM]
      refine q.mono ?_
      intro e w' hh
      obtain ⟨ba, bn, bc, ka, kc, va, vc, h1, h2, h3, h4, h5⟩ := hh.out
      rw [← HEC.out] at h1
      rw [← HZ.out] at h2
      rw [hu.heap] at h3 h4
      exact ⟨ba, bn, bc, ka, kc, va, vc, h1, h2, h3, h4, (sm_fr hu _).trans h5⟩
    have HK4 : Hid (∀ u, Fr w3 u (hOf d0) → u.cell? ⟨m, 2, none⟩ = some (opth d0) ∧ u.cell? ⟨w.heap.size, 4, none⟩ = some (.slice xa xn xc)) := fun u hu => by
      constructor
      · rw [World.cell?_of_block (a := ⟨m, 2, none⟩) (hu.block m (lt_of_cell k2) (fun hx => (HSI.out _ (hOf_mem hx)).2.2 rfl))]; exact k2
      · rw [World.cell?_of_block (a := ⟨w.heap.size, 4, none⟩) (hu.block _ (lt_of_cell c4) (fun hx => absurd (HSI.out w.heap.size (hOf_mem hx)).2.1 (Nat.lt_irrefl _)))]; exact c4
    go_region_held3 (fun u => u.cell? ⟨m, 2, none⟩ = some (opth d0) ∧ u.cell? ⟨w.heap.size, 4, none⟩ = some (.slice xa xn xc)) (first | exact ⟨k2, c4⟩ | exact hS4 | go_keep) ((go_at_call 19; refine (H19.out w3.drew ⟨rfl, rfl, rfl, rfl⟩ _ (by rw [HN.out]; first | exact (if_pos ⟨hlt, hle⟩).symm | exact (if_neg (by omega)).symm)).mono ?_; intro e4 w4 hh; obtain ⟨ba, bn, bc, ka, kc, va1, vc, rfl, r1, r2, r3, r4⟩ := hh.out; have hS4 : w4.cell? ⟨m, 2, none⟩ = some (opth d0) ∧ w4.cell? ⟨w.heap.size, 4, none⟩ = some (.slice xa xn xc) := HK4.out w4 r4))
    have HR4 : Hid (View w4 (.slice ba bn bc) Z ∧ (∀ b off, ba = some ⟨b, off, none⟩ → w3.heap.size ≤ b) ∧ (∀ q, d0 = some q → RSp w4 q.h q.dg q.L (drNc q N ys) ka kc va1 vc (fL (drNK q N ys) (szOf q.dg)) (fL (drNV q N ys) (szOf q.dg)) ∧ ∀ b, b ∈ ablk ka ++ ablk va1 → b ∈ ablk q.ka ++ ablk q.va ∨ w3.heap.size ≤ b) ∧ Fr w3 w4 (hOf d0)) := ⟨r1, r2, r3, r4⟩
    have HF4 : Hid (Fr w w4 (omb d0)) := HF3.out.trans (r4.mono fun b hb => hOf_mem hb)
    have HL4 : Hid (w4.ownsRow w0.heap.size 22 1 (.slice va xn vcap) xn vs ∧ Lent w0.heap.size w4 vs yss) := lent_fr HL3.out.1 HL3.out.2 r4 (fun b hb => by have := HSI.out _ (hOf_mem hb); have := HLn.out.2.2.2.2; omega)
    have HV4 : Hid (View w4 (.slice oa on on) Z) := view_keepP HO3.out.1.view fun h0 b hb => r4.block b (HO3.out.1.blks b hb).2 (fun hx => by have := HSI.out _ (hOf_mem hx); have := (HO3.out.1.blks b hb).1; have := HB2.out.size; omega)
    clear hh r1 r2 r3 r4 H19 HK4 k2 c4 hS4 HL3
    have c4 : w4.cell? ⟨w.heap.size, 4, none⟩ = some (.slice xa xn xc) := by
      rw [World.cell?_of_block (a := ⟨w.heap.size, 4, none⟩) (HR4.out.2.2.2.block _ (lt_of_cell HA3.out.c4) (fun hx => absurd (HSI.out w.heap.size (hOf_mem hx)).2.1 (Nat.lt_irrefl _)))]
      exact HA3.out.c4
    have H13 : Hid (∀ u, Sm w4 u → Calls Tryd.prog 13 #[.slice oa on on, .slice ba bn bc] u fun e w' => Hid (e = .returned (.bool true) ∧ Sm w4 w')) := fun u hu => by
      refine (same_yes _ _ _ u (hu.view HV4.out) (hu.view HR4.out.1)).mono ?_
      rintro e w' ⟨q1, q2⟩
      exact ⟨q1, hu.trans q2⟩
    have H35 : Hid (∀ u, Sm w4 u → Calls Tryd.prog 35 #[.slice va xn vcap, .slice xa xn xc] u fun e w' => Hid (e = .returned (.bool true) ∧ Kw w4 w' vs)) := fun u hu => by
      have ku : ∀ v, Kw u v vs → Kw w4 v vs := fun v k => ⟨k.os.trans hu.os, k.tape.trans hu.tape, k.output.trans hu.output, by rw [← hu.heap]; exact k.size, fun q hq hn => by rw [← hu.heap]; exact k.block q (by rw [hu.heap]; exact hq) hn⟩
      have lf := lent_fr HL4.out.1 HL4.out.2 (sm_fr hu []) (fun b hb => by cases hb)
      refine (kept_ok w0.heap.size va xa xn vcap xc vs xs yss u lf.1 HLn.out.1 lf.2 HLn.out.2.2.2.1 (fun v k => ?_) hxn hl (by omega) (by have := HLn.out.2.2.2.2; have := HF4.out.size; have := HB2.out.size; have := HR4.out.2.2.2.size; have := HO3.out.2.2.size; rw [hu.heap]; have z0 : w.heap.size < w2.heap.size := lt_of_cell HA2.out.c0; omega)).mono ?_
      · have f5 : Fr w v (omb d0) := HF4.out.late (kw_fr (ku v k) (vs.filterMap Value.ownBlock) (fun j x hx q e => List.mem_filterMap.2 ⟨x, List.mem_of_getElem? hx, e⟩)) (fun b hb => by
          obtain ⟨x, hx, e⟩ := List.mem_filterMap.1 hb
          obtain ⟨j, hj⟩ := List.getElem?_of_mem hx
          have z := (HL4.out.2 j x hj).blk_lt e
          exact .inr (by have := HLn.out.2.2.2.2; omega))
        exact (HP.out v (f5.toBelow (fun b hb => (HSI.out b hb).1) HBs.out)).1
      · intro e w' hh
        obtain ⟨h1, h2⟩ := hh.out
        exact ⟨h1, ku _ h2⟩
    go_wp2_with (first | (go_at_call 10; refine (num_ok _ _).mono ?_; rintro e1 wx ⟨rfl, hwx⟩; obtain rfl := hwx.symm) | (go_at_call 13; refine (H13.out _ ⟨rfl, rfl, rfl, rfl⟩).mono ?_))
    intro e5 w5 hh
    obtain ⟨rfl, s5⟩ := hh.out
    have c45 : w5.cell? ⟨w.heap.size, 4, none⟩ = some (.slice xa xn xc) := by rw [s5.cell]; exact c4
    have H35' : Hid (Calls Tryd.prog 35 #[.slice va xn vcap, .slice xa xn xc] w5 fun e w' => Hid (e = .returned (.bool true) ∧ Kw w4 w' vs)) := H35.out w5 s5
    clear hh s5 H13 H35 c4
    go_upto_region 16 with (go_at_call 35; refine H35'.out.mono ?_; intro e6 w6 hh; obtain ⟨rfl, kw6⟩ := hh.out)
    have HL6 : Hid (∀ b, b ∈ vs.filterMap Value.ownBlock → w.heap.size ≤ b ∧ b < w2.heap.size) := fun b hb => by
      obtain ⟨x, hx, e⟩ := List.mem_filterMap.1 hb
      obtain ⟨j, hj⟩ := List.getElem?_of_mem hx
      have z := (HLn.out.2.2.1 j x hj).blk_lt e
      have := HLn.out.2.2.2.2
      omega
    have HK6 : Hid (Fr w4 w6 (vs.filterMap Value.ownBlock)) := kw_fr kw6 _ (fun j x hx q e => List.mem_filterMap.2 ⟨x, List.mem_of_getElem? hx, e⟩)
    obtain ⟨d', HD6⟩ : ∃ d', Hid (PSD Pp w6 B m d' d1 ov wv ts left ∧ omb d' = omb d0 ∧ (∀ b, b ∈ orb d' → b ∈ orb d0 ∨ w3.heap.size ≤ b) ∧ Fr w w6 (omb d0)) := hs.out.drawn0 HB2.out HO3.out.2.2 HR4.out.2.2.2 HK6.out HL6.out HO3.out.2.1 HR4.out.2.2.1 (fun q e => drNc_ok (hs.out.ps.D0 q e).c0 (hs.out.ps.D0 q e).cL)
    have HI6 : Hid (Pp → Drw w6 B (PMb m d' d1 ov wv) (orb d' ++ orb d1) (ts ++ [(.slice oa on on, .slice ba bn bc, Z)])) := fun p => hs.out.item HD6.out.1 (fun b hb => by rw [PMb, HD6.out.2.1] at hb; exact (hs.out.ps.lt b hb).2) (fun b hb => by
        rcases List.mem_append.1 hb with hb | hb
        · rcases HD6.out.2.2.1 b hb with h | h
          · exact .inl (hs.out.ps.ro b (List.mem_append_left _ h)).1
          · exact .inr h
        · exact .inl (hs.out.ps.ro b (List.mem_append_right _ hb)).1) HBs.out HB2.out.size HO3.out.2.2.size HR4.out.2.2.2 (fun b hb => (HSI.out b (hOf_mem hb)).2.1) HK6.out (fun b hb => (HL6.out b hb).2) HO3.out.1 HR4.out.1 HR4.out.2.1 p
    have hbn : ((bn : Nat) : Int) ≤ left := by
      have e1 : bn = Z.length := by obtain ⟨_, _, e, _⟩ := HR4.out.1; injection e
      rw [e1, HZ.out]
      exact drZ_le (by rw [HN.out]; split <;> omega) hs.out.ps.l0
    have hl0 := hs.out.ps.l0
    have hl1 := hs.out.ps.l1
    clear hh kw6 H35' c45 HK6 HL6 HL4 HV4 HR4 HF4 HF3 HA3 HM3 HO3 HSI HLn HA2 HS2
    have k6 := HD6.out.1.ps.cl
    have f6 : w6.frozen? ⟨m, 6, none⟩ = false := by have := (HD6.out.1.ps.there 6 (by omega)).2; simpa using this
    go_upto_region 17 with fail
    obtain ⟨ova, ovc, hov⟩ := owns_sl22 HD6.out.1.ps.out
    obtain ⟨wva, wvc, hwv⟩ := owns_sl22 HD6.out.1.ps.was
    subst hov hwv
    obtain ⟨i0, hi, hz0, hz1, hz2⟩ := info_parts Tryd.info22L
    obtain ⟨LF, HLF⟩ : ∃ LF, Hid (LF = left - (bn : Nat)) := ⟨_, rfl⟩
    have hLF : 0 ≤ LF ∧ LF ≤ 1048576 := by rw [HLF.out]; omega
    have e7 := HLF.out
    rw [← e7]
    clear e7
    obtain ⟨w7, HW7⟩ : ∃ w7, Hid (w7 = w6.setCell ⟨m, 6, none⟩ (.int .i64 LF)) := ⟨_, rfl⟩
    have e7 := HW7.out
    rw [← e7]
    clear e7 k6 f6
    have HAP : Hid ((∀ b, b ∈ vblk (.slice ova ts.length ovc) → b < w6.heap.size ∧ b ≠ m ∧ b ∉ vblk (.slice wva ts.length wvc)) ∧ (∀ b, b ∈ vblk (.slice wva ts.length wvc) → b < w6.heap.size ∧ b ≠ m)) := HD6.out.1.ps.apart
    have hmw : m < w6.heap.size := lt_of_cell HD6.out.1.ps.s0
    have H7s : Hid (w7.heap.size = w6.heap.size) := by show _ = _; rw [HW7.out]; exact size_setCells m [.int .i64 LF] 6 w6
    have HB6 : Hid (B ≤ w6.heap.size) := by show _ ≤ _; have := HD6.out.1.ps.mB; omega
    have c4 : w7.cell? ⟨m, 4, none⟩ = some (.slice ova ts.length ovc) := by rw [HW7.out, set_cells 4 (by omega)]; exact HD6.out.1.ps.co
    obtain ⟨os, HOS⟩ : ∃ os, Hid (os = ts.map (·.1)) := ⟨_, rfl⟩
    obtain ⟨ws, HWS⟩ : ∃ ws, Hid (ws = ts.map (·.2.1)) := ⟨_, rfl⟩
    have HO8 : Hid ((w7.alloc (.cells #[.slice oa on on] 22)).ownsRow B 22 1 (.slice ova ts.length ovc) ts.length os) := owns_same (by rw [HOS.out]; exact HD6.out.1.ps.out) fun b hb => by
      have q := HAP.out.1 b hb
      rw [Below.heap_alloc _ _ b (by rw [H7s.out]; omega), HW7.out]
      exact Below.heap_setCell _ _ _ b q.2.1
    have HN8 : Hid (∀ j u, [(Value.slice oa on on)][j]? = some u → (w7.alloc (.cells #[.slice oa on on] 22)).cell? ((⟨w7.heap.size, 0, none⟩ : Addr).add j) = some u) := one_sl w7 _ _
    have HC8 : Hid (∀ u ∈ [(Value.slice oa on on)], u.oneCell' = true) := one_sl1 _ _ _
    have HS8 : Hid (B ≤ (w7.alloc (.cells #[.slice oa on on] 22)).heap.size) := by show _ ≤ _; have := HB6.out; rw [size_alloc1, H7s.out]; omega
    go_wp2_with (first | (at_builtin; go_must (refine wpList_append_own_at _ rfl (.tmp 104) (.tmp 106) 37 rfl B 22 i0 (.slice none 0 0) 1 24 Tryd.underlying37 hi hz0 hz1 hz2 rfl (by decide) _ ts.length os rfl HO8.out ⟨w7.heap.size, 0, none⟩ 1 1 [.slice oa on on] rfl rfl HN8.out HC8.out (by unfold maxLen; omega) (by omega) HS8.out ?_)))
    intro v9 w9 hown9 hgrow9 hnil9 hat9
    obtain ⟨a9, p9, rfl⟩ := owns_sl22 hown9
    have HG9 : Hid (w9.ownsRow B 22 1 (.slice a9 (ts.length + 1) p9) (ts.length + 1) (os ++ [.slice oa on on]) ∧ (w7.alloc (.cells #[.slice oa on on] 22)).grownBy w9 (Value.slice ova ts.length ovc).ownBlock ∧ ((Value.slice a9 (ts.length + 1) p9).ownBlock = (Value.slice ova ts.length ovc).ownBlock ∨ (Value.slice a9 (ts.length + 1) p9).ownBlock = some (w7.alloc (.cells #[.slice oa on on] 22)).heap.size)) := ⟨hown9, hgrow9, by rw [size_alloc1]; exact hat9⟩
    have b9 : w9.heap[m]? = w7.heap[m]? := (hgrow9.block m (by rw [size_alloc1, H7s.out]; omega) (fun e => (HAP.out.1 m (vblk_own.2 e.symm)).2.1 rfl)).trans (Below.heap_alloc _ _ m (by rw [H7s.out]; omega))
    have p4 : w9.cell? ⟨m, 4, none⟩ = some (.slice ova ts.length ovc) := by rw [World.cell?_of_block (a := ⟨m, 4, none⟩) b9]; exact c4
    have z4 : w9.frozen? ⟨m, 4, none⟩ = false := by
      rw [World.frozen?_of_block (a := ⟨m, 4, none⟩) b9, HW7.out]
      have := ((World.there_setCells HD6.out.1.ps.there m 6 [.int .i64 LF]) 4 (by omega)).2
      rw [Nat.zero_add] at this
      exact this
    clear hown9 hgrow9 hnil9 hat9 HO8 HN8 HC8 HS8 b9 c4
    go_upto_region 18 with fail
    have HPH : Hid (PH w6 (w9.setCell ⟨m, 4, none⟩ (.slice a9 (ts.length + 1) p9)) B m ts.length (.slice ova ts.length ovc) (.slice wva ts.length wvc) (.slice a9 (ts.length + 1) p9) os ws (.slice oa on on) LF) := by
      have g := HG9.out
      rw [HW7.out, HOS.out] at g
      rw [HOS.out, HWS.out]
      exact HD6.out.1.ps.half g.1 g.2.1 g.2.2
    generalize w9.setCell ⟨m, 4, none⟩ (.slice a9 (ts.length + 1) p9) = w10 at HPH ⊢
    clear HG9 p4 z4 HW7 H7s
    have hm10 : m < w10.heap.size := by have := HPH.out.fr.size; omega
    have c5 : w10.cell? ⟨m, 5, none⟩ = some (.slice wva ts.length wvc) := HPH.out.c5
    have HO11 : Hid ((w10.alloc (.cells #[.slice ba bn bc] 22)).ownsRow B 22 1 (.slice wva ts.length wvc) ts.length ws) := owns_same HPH.out.hw fun b hb => by
      have q := HAP.out.2 b hb
      have := HPH.out.fr.size
      exact Below.heap_alloc _ _ b (by omega)
    have HN11 : Hid (∀ j u, [(Value.slice ba bn bc)][j]? = some u → (w10.alloc (.cells #[.slice ba bn bc] 22)).cell? ((⟨w10.heap.size, 0, none⟩ : Addr).add j) = some u) := one_sl w10 _ _
    have HC11 : Hid (∀ u ∈ [(Value.slice ba bn bc)], u.oneCell' = true) := one_sl1 _ _ _
    have HS11 : Hid (B ≤ (w10.alloc (.cells #[.slice ba bn bc] 22)).heap.size) := by show _ ≤ _; have := HB6.out; have := HPH.out.fr.size; rw [size_alloc1]; omega
    go_wp2_with (first | (at_builtin; go_must (refine wpList_append_own_at _ rfl (.tmp 114) (.tmp 116) 37 rfl B 22 i0 (.slice none 0 0) 1 24 Tryd.underlying37 hi hz0 hz1 hz2 rfl (by decide) _ ts.length ws rfl HO11.out ⟨w10.heap.size, 0, none⟩ 1 1 [.slice ba bn bc] rfl rfl HN11.out HC11.out (by unfold maxLen; omega) (by omega) HS11.out ?_)))
    intro v12 w12 hown12 hgrow12 hnil12 hat12
    obtain ⟨a12, p12, rfl⟩ := owns_sl22 hown12
    have HG12 : Hid (w12.ownsRow B 22 1 (.slice a12 (ts.length + 1) p12) (ts.length + 1) (ws ++ [.slice ba bn bc]) ∧ (w10.alloc (.cells #[.slice ba bn bc] 22)).grownBy w12 (Value.slice wva ts.length wvc).ownBlock ∧ ((Value.slice a12 (ts.length + 1) p12).ownBlock = (Value.slice wva ts.length wvc).ownBlock ∨ (Value.slice a12 (ts.length + 1) p12).ownBlock = some (w10.alloc (.cells #[.slice ba bn bc] 22)).heap.size)) := ⟨hown12, hgrow12, by rw [size_alloc1]; exact hat12⟩
    have b12 : w12.heap[m]? = w10.heap[m]? := (hgrow12.block m (by rw [size_alloc1]; omega) (fun e => (HAP.out.2 m (vblk_own.2 e.symm)).2 rfl)).trans (Below.heap_alloc _ _ m (by omega))
    have p5 : w12.cell? ⟨m, 5, none⟩ = some (.slice wva ts.length wvc) := by rw [World.cell?_of_block (a := ⟨m, 5, none⟩) b12]; exact c5
    have z5 : w12.frozen? ⟨m, 5, none⟩ = false := by
      rw [World.frozen?_of_block (a := ⟨m, 5, none⟩) b12]
      have := (HPH.out.th 5 (by omega)).2
      rw [Nat.zero_add] at this
      exact this
    have HF : Hid (StepP Pp w (w12.setCell ⟨m, 5, none⟩ (.slice a12 (ts.length + 1) p12)) (.returned (.bool true)) B m ts.length) := by
      have g := HG12.out
      have ph := HPH.out
      rw [HWS.out] at g
      rw [HOS.out, HWS.out] at ph
      have q := HD6.out.1.ps.both ph g.1 g.2.1 g.2.2 hLF.1 hLF.2
      have fr := q.2
      refine ⟨rfl, (HD6.out.2.2.2.toBelow (fun b hb => (hs.out.ps.side0 b hb).1) HBs.out).trans (fr.toBelow (fun b hb => (HD6.out.1.ps.lt b (by
        rcases List.mem_append.1 hb with hb | hb
        · exact List.mem_append_left _ hb
        · exact List.mem_append_right _ (List.mem_append_right _ (List.mem_append_right _ hb)))).1) HB6.out), d', d1, .slice a9 (ts.length + 1) p9, .slice a12 (ts.length + 1) p12, ts ++ [(.slice oa on on, .slice ba bn bc, Z)], LF, ⟨?_, fun p => ?_⟩, by simp⟩
      · have r := q.1
        simp only [List.map_append, List.map_cons, List.map_nil, List.length_append, List.length_cons, List.length_nil, Nat.zero_add]
        exact r
      · refine (HI6.out p).fr fr (fun b hb => .inl ?_) (fun b hb => ?_) (fun b hb => .inl hb)
        · rcases List.mem_append.1 hb with hb | hb
          · exact List.mem_append_left _ hb
          · exact List.mem_append_right _ (List.mem_append_right _ (List.mem_append_right _ hb))
        · rcases List.mem_append.1 hb with hb | hb
          · exact .inl (List.mem_append_left _ hb)
          · rcases List.mem_append.1 hb with hb | hb
            · exact .inl (List.mem_append_right _ (List.mem_append_left _ hb))
            · rcases List.mem_append.1 hb with hb | hb
              · exact .inl (List.mem_append_right _ (List.mem_append_right _ (List.mem_append_left _ hb)))
              · rcases List.mem_append.1 hb with hb | hb
                · rcases ph.ob b hb with h | h
                  · exact .inl (List.mem_append_right _ (List.mem_append_right _ (List.mem_append_right _ (List.mem_append_left _ h))))
                  · exact .inr h
                · rcases g.2.2 with e | e
                  · exact .inl (List.mem_append_right _ (List.mem_append_right _ (List.mem_append_right _ (List.mem_append_right _ (vblk_own.2 (by rw [← e]; exact vblk_own.1 hb))))))
                  · have h := vblk_own.1 hb
                    rw [e, size_alloc1] at h
                    injection h with h
                    exact .inr (by have := ph.fr.size; omega)
    clear hown12 hgrow12 hnil12 hat12 HO11 HN11 HC11 HS11 b12 c5 HG12 HPH HI6 HAP
    go_wp2
    go_ret
    exact HF.out
end Go.Proofs.YtkeklmkaleomkaaDoor
namespace Go.Proofs.YtkeklmkaleomkaaDoor
open Go.RowKit
set_option linter.unusedVariables false
set_option linter.unusedSimpArgs false
set_option maxHeartbeats 64000000 in
set_option maxRecDepth 100000 in
theorem plays_draw1 (Pp : Prop) (B m : Nat) (d0 d1 : Option Desc) (ov wv : Value) (ts : List (Value × Value × List Int)) (left : Int) (at_ n : Int) (ea xa : Option Addr) (en ec xn xc : Nat) (E : List Int) (xs : List Value) (yss : List (List Int)) (w : World) (hs : Hid (PSD Pp w B m d0 d1 ov wv ts left)) (hB : 4 ≤ B) (HP : Hid (∀ u, Below B w u → PV u (.slice xa xn xc) xs yss ∧ View u (.slice ea en ec) E ∧ Tables u ∧ RTab u)) (hxn : Hid (xs.length = xn)) (hl : Hid (yss.flatten.length ≤ 262144)) (hn : xn ≤ 1048576) (hel : Hid (E.length = en)) (hen : en ≤ 262144) (hts : ts.length ≤ 1000) (hat : at_.tmod 2 = 1 ∨ at_.tmod 2 = -1) :
    Calls Tryd.prog 20 #[.pointer (some ⟨m, 0, none⟩), .agg #[.int .i64 1, .int .i64 at_, .int .i64 n, .slice ea en ec, .slice xa xn xc]] w fun e w' => Hid (StepP Pp w w' e B m ts.length) := by
  have HBs : Hid (B ≤ w.heap.size) := by show _ ≤ _; have := hs.out.ps.mB; have mlt : m < w.heap.size := lt_of_cell hs.out.ps.s0; omega
  rcases hat with hat | hat
  all_goals
    go_enter Tryd.func20, Tryd.ntmps20
    go_upto_region 1 with fail
    have HA0 : Hid (OAt (w.alloc (.cells #[.int .i64 1, .int .i64 at_, .int .i64 n, .slice ea en ec, .slice xa xn xc] 39)) w.heap.size 1 at_ n (.slice ea en ec) (.slice xa xn xc) ∧ Below w.heap.size w (w.alloc (.cells #[.int .i64 1, .int .i64 at_, .int .i64 n, .slice ea en ec, .slice xa xn xc] 39)) ∧ (w.alloc (.cells #[.int .i64 1, .int .i64 at_, .int .i64 n, .slice ea en ec, .slice xa xn xc] 39)).heap.size = w.heap.size + 1) := ⟨OAt.new _ _ _ _ _ _ _, below_alloc1 _ _, size_alloc1 _ _⟩
    generalize w.alloc (.cells #[.int .i64 1, .int .i64 at_, .int .i64 n, .slice ea en ec, .slice xa xn xc] 39) = w0 at HA0 ⊢
    have c1 := HA0.out.1.c1
    have HP0 : Hid (PV w0 (.slice xa xn xc) xs yss) := (HP.out w0 (HA0.out.2.1.mono HBs.out)).1
    have c4 := HA0.out.1.c4
    have HL : Hid (Calls Tryd.prog 33 #[.slice xa xn xc] w0 fun e w' => e = .returned (.bool false) ∧ w' = w0) := long_ok xa xn xc xs yss w0 HP0 hxn hl (by omega)
    go_upto_region 6 with (go_at_call 33; refine HL.out.mono ?_; rintro e1 w1 ⟨rfl, hw1⟩; obtain rfl := hw1.symm)
    have H34 : Hid (Calls Tryd.prog 34 #[.slice xa xn xc] w0 fun e w' => Hid (∃ v', e = .returned v' ∧ ∃ vs, vs.length = xn ∧ w'.ownsRow w0.heap.size 22 1 v' xn vs ∧ Lent w0.heap.size w' vs yss ∧ Inc vs ∧ Below w0.heap.size w0 w')) := lent_ok xa xn xc xs yss w0 HP0 hxn (by show _ ≤ _; have := hl.out; omega) hn
    go_upto_region 7 with (go_at_call 34; refine H34.out.mono ?_; intro e2 w2 hh; obtain ⟨v', rfl, vs, hv1, hv2, hv3, hv4, hv5⟩ := hh.out)
    have HB2 : Hid (Below w.heap.size w w2) := HA0.out.2.1.trans (hv5.mono HA0.out.2.1.size)
    have HA2 : Hid (OAt w2 w.heap.size 1 at_ n (.slice ea en ec) (.slice xa xn xc)) := HA0.out.1.below hv5
    have HS2 : Hid (PSD Pp w2 B m d0 d1 ov wv ts left) := hs.out.below HB2.out
    have HLn : Hid (vs.length = xn ∧ w2.ownsRow w0.heap.size 22 1 v' xn vs ∧ Lent w0.heap.size w2 vs yss ∧ Inc vs ∧ w0.heap.size = w.heap.size + 1) := ⟨hv1, hv2, hv3, hv4, HA0.out.2.2⟩
    obtain ⟨va, vcap, rfl⟩ : ∃ a c, v' = .slice a xn c := by
      rcases HLn.out.2.1.2 with ⟨e, e2⟩ | ⟨g, c, _, e, _⟩
      · exact ⟨none, 0, by rw [e, e2]⟩
      · exact ⟨_, c, e⟩
    clear hh hv1 hv2 hv3 hv4 hv5 H34 c1 c4 HL HP0 HA0
    have c0 := HA2.out.c0
    have c2 := HA2.out.c2
    have k0 := HS2.out.ps.s1
    have k6 := HS2.out.ps.cl
    obtain ⟨N, HN⟩ : ∃ N, Hid (N = if left < n ∧ n ≤ 65536 then left else n) := ⟨_, rfl⟩
    obtain ⟨ys, HY⟩ : ∃ ys, Hid (ys = yss.flatten) := ⟨_, rfl⟩
    obtain ⟨EC, HEC⟩ : ∃ EC, Hid (EC = drC d1 N ys.length) := ⟨_, rfl⟩
    obtain ⟨Z, HZ⟩ : ∃ Z, Hid (Z = drZ d1 N ys) := ⟨_, rfl⟩
    have HBB : Hid (Below B w w2) := HB2.out.mono HBs.out
    have H12 : Hid (∀ u, Sm w2 u → ∀ M, M = N → Calls Tryd.prog 12 #[optg d1, .int .i64 M, .slice va xn vcap] u fun e w' => Hid (∃ oa on, e = .returned (.tuple #[.slice oa on on, .int .i64 EC]) ∧ OV w' w2.heap.size oa on Z ∧ (∀ q, d1 = some q → SpAt w' q.g q.dg (drNK q N ys) (drNV q N ys) q.L (drNc q N ys)) ∧ Fr w2 w' (gOf d1))) := fun u hu M hM => by
      have hyl : yss.length = xn := by obtain ⟨_, _, _, _, _, h3, _⟩ := (HP.out w2 HBB.out).1; rw [← h3, hxn.out]
      have q := pdraw_any HS2.out.ps.D1 N (.slice va xn vcap) yss u hu (by have t := (HP.out w2 HBB.out).2.2.1; exact t.below (Below.ofSm (Below.refl _ _) hu) (by have := t.size; omega)) hB (fun q e => by
        have hg := HS2.out.ps.D1 q e
        have lt : q.g < w.heap.size := by rw [e] at hs; exact (hs.out.ps.D1 q rfl).sp.lt
        have pl := lent_pl HLn.out.2.1 HLn.out.1 hyl HLn.out.2.2.1 (g := q.g) (by have := HLn.out.2.2.2.2; omega)
        exact pl_sm pl hu) hl.out (by omega)
      rw [← HY.out] at q
      rw [hM]
      refine q.mono ?_
      intro e w' hh
      obtain ⟨oa, on, h1, h2, h3, h4⟩ := hh.out
      rw [← HEC.out] at h1
      rw [← HZ.out] at h2
      exact ⟨oa, on, h1, by rw [← hu.heap]; exact h2, h3, ((sm_fr hu _).trans h4)⟩
    rcases (show (left < n ∧ n ≤ 65536) ∨ (left < n ∧ ¬ n ≤ 65536) ∨ ¬ left < n by omega) with ⟨hlt, hle⟩ | ⟨hlt, hle⟩ | hlt
    all_goals
      go_upto_region 12 with fail
      go_upto_region 13 with (go_at_call 12; refine (H12.out _ ⟨rfl, rfl, rfl, rfl⟩ _ (by rw [HN.out]; first | exact (if_pos ⟨hlt, hle⟩).symm | exact (if_neg (by omega)).symm)).mono ?_; intro e3 w3 hh; obtain ⟨oa, on, rfl, r1, r2, r3⟩ := hh.out)
      have HO3 : Hid (OV w3 w2.heap.size oa on Z ∧ (∀ q, d1 = some q → SpAt w3 q.g q.dg (drNK q N ys) (drNV q N ys) q.L (drNc q N ys)) ∧ Fr w2 w3 (gOf d1)) := ⟨r1, r2, r3⟩
      have HSI : Hid (∀ b, b ∈ omb d1 → B ≤ b ∧ b < w.heap.size ∧ b ≠ m) := hs.out.ps.side1
      have HF3 : Hid (Fr w w3 (omb d1)) := (below_fr HB2.out _).trans (r3.mono fun b hb => gOf_mem hb)
      have HA3 : Hid (OAt w3 w.heap.size 1 at_ n (.slice ea en ec) (.slice xa xn xc)) := HA2.out.blk (r3.block _ (lt_of_cell HA2.out.c0) (fun hx => by have := HSI.out _ (gOf_mem hx); omega))
      have HM3 : Hid (w3.heap[m]? = w2.heap[m]?) := r3.block m (lt_of_cell HS2.out.ps.s0) (fun hx => (HSI.out _ (gOf_mem hx)).2.2 rfl)
      have HL3 : Hid (w3.ownsRow w0.heap.size 22 1 (.slice va xn vcap) xn vs ∧ Lent w0.heap.size w3 vs yss) := lent_fr HLn.out.2.1 HLn.out.2.2.1 r3 (fun b hb => by have := HSI.out _ (gOf_mem hb); have := HLn.out.2.2.2.2; omega)
      clear hh r1 r2 r3 H12 c2 k0 k6 c0
      have k2 : w3.cell? ⟨m, 3, none⟩ = some (opth d1) := by rw [World.cell?_of_block (a := ⟨m, 3, none⟩) HM3.out]; exact HS2.out.ps.t1
      have c4 : w3.cell? ⟨w.heap.size, 4, none⟩ = some (.slice xa xn xc) := HA3.out.c4
      have H19 : Hid (∀ u, Sm w3 u → ∀ M, M = N → Calls Tryd.prog 19 #[opth d1, .int .i64 M, .slice xa xn xc] u fun e w' => Hid (∃ ba bn bc ka kc va vc, e = .returned (.tuple #[.slice ba bn bc, .int .i64 EC]) ∧ View w' (.slice ba bn bc) Z ∧ (∀ b off, ba = some ⟨b, off, none⟩ → w3.heap.size ≤ b) ∧ (∀ q, d1 = some q → RSp w' q.h q.dg q.L (drNc q N ys) ka kc va vc (fL (drNK q N ys) (szOf q.dg)) (fL (drNV q N ys) (szOf q.dg)) ∧ ∀ b, b ∈ ablk ka ++ ablk va → b ∈ ablk q.ka ++ ablk q.va ∨ w3.heap.size ≤ b) ∧ Fr w3 w' (hOf d1))) := fun u hu M hM => by
        have hb3 : Below B w u := (HF3.out.toBelow (fun b hb => (HSI.out b hb).1) HBs.out).trans (Below.ofSm (Below.refl _ _) hu |>.mono (by have := HF3.out.size; have := HBs.out; omega))
        have pp := HP.out u hb3
        have q := rdraw_any hs.out.ps.D1 N xa xn xc xs yss u (fun q e => by
          have a := hs.out.ps.D1 q e
          have e4 : u.heap = w3.heap := hu.heap
          have ne := hs.out.ps.gh1 q e
          have nr := hs.out.ps.rnot1 q e
          have f := HO3.out.2.2
          have g0 : ∀ b, b < w.heap.size → b ≠ q.g → u.heap[b]? = w.heap[b]? := fun b hb hx => by
            rw [e4, f.block b (Nat.lt_of_lt_of_le hb HB2.out.size) (by rw [e]; simp only [gOf, List.mem_singleton]; exact hx)]
            exact HB2.out.block b hb
          refine a.rs.blk (g0 q.h (a.rs.lt) (fun x => ne x.symm)) (fun b off eb => ?_) (fun b off eb => ?_)
          · have z := nr b (List.mem_append_left _ (by rw [eb]; exact List.mem_singleton.2 rfl))
            exact g0 b z.1 z.2
          · have z := nr b (List.mem_append_right _ (by rw [eb]; exact List.mem_singleton.2 rfl))
            exact g0 b z.1 z.2) pp.2.2.2 hB pp.1 hxn.out hl.out hn
        rw [← HY.out] at q
        rw [hM]
        refine q.mono ?_
        intro e w' hh
        obtain ⟨ba, bn, bc, ka, kc, va, vc, h1, h2, h3, h4, h5⟩ := hh.out
        rw [← HEC.out] at h1
        rw [← HZ.out] at h2
        rw [hu.heap] at h3 h4
        exact ⟨ba, bn, bc, ka, kc, va, vc, h1, h2, h3, h4, (sm_fr hu _).trans h5⟩
      have HK4 : Hid (∀ u, Fr w3 u (hOf d1) → u.cell? ⟨m, 3, none⟩ = some (opth d1) ∧ u.cell? ⟨w.heap.size, 4, none⟩ = some (.slice xa xn xc)) := fun u hu => by
        constructor
        · rw [World.cell?_of_block (a := ⟨m, 3, none⟩) (hu.block m (lt_of_cell k2) (fun hx => (HSI.out _ (hOf_mem hx)).2.2 rfl))]; exact k2
        · rw [World.cell?_of_block (a := ⟨w.heap.size, 4, none⟩) (hu.block _ (lt_of_cell c4) (fun hx => absurd (HSI.out w.heap.size (hOf_mem hx)).2.1 (Nat.lt_irrefl _)))]; exact c4
      go_region_held3 (fun u => u.cell? ⟨m, 3, none⟩ = some (opth d1) ∧ u.cell? ⟨w.heap.size, 4, none⟩ = some (.slice xa xn xc)) (first | exact ⟨k2, c4⟩ | exact hS4 | go_keep) ((go_at_call 19; refine (H19.out w3.drew ⟨rfl, rfl, rfl, rfl⟩ _ (by rw [HN.out]; first | exact (if_pos ⟨hlt, hle⟩).symm | exact (if_neg (by omega)).symm)).mono ?_; intro e4 w4 hh; obtain ⟨ba, bn, bc, ka, kc, va1, vc, rfl, r1, r2, r3, r4⟩ := hh.out; have hS4 : w4.cell? ⟨m, 3, none⟩ = some (opth d1) ∧ w4.cell? ⟨w.heap.size, 4, none⟩ = some (.slice xa xn xc) := HK4.out w4 r4))
      have HR4 : Hid (View w4 (.slice ba bn bc) Z ∧ (∀ b off, ba = some ⟨b, off, none⟩ → w3.heap.size ≤ b) ∧ (∀ q, d1 = some q → RSp w4 q.h q.dg q.L (drNc q N ys) ka kc va1 vc (fL (drNK q N ys) (szOf q.dg)) (fL (drNV q N ys) (szOf q.dg)) ∧ ∀ b, b ∈ ablk ka ++ ablk va1 → b ∈ ablk q.ka ++ ablk q.va ∨ w3.heap.size ≤ b) ∧ Fr w3 w4 (hOf d1)) := ⟨r1, r2, r3, r4⟩
      have HF4 : Hid (Fr w w4 (omb d1)) := HF3.out.trans (r4.mono fun b hb => hOf_mem hb)
      have HL4 : Hid (w4.ownsRow w0.heap.size 22 1 (.slice va xn vcap) xn vs ∧ Lent w0.heap.size w4 vs yss) := lent_fr HL3.out.1 HL3.out.2 r4 (fun b hb => by have := HSI.out _ (hOf_mem hb); have := HLn.out.2.2.2.2; omega)
      have HV4 : Hid (View w4 (.slice oa on on) Z) := view_keepP HO3.out.1.view fun h0 b hb => r4.block b (HO3.out.1.blks b hb).2 (fun hx => by have := HSI.out _ (hOf_mem hx); have := (HO3.out.1.blks b hb).1; have := HB2.out.size; omega)
      clear hh r1 r2 r3 r4 H19 HK4 k2 c4 hS4 HL3
      have c4 : w4.cell? ⟨w.heap.size, 4, none⟩ = some (.slice xa xn xc) := by
        rw [World.cell?_of_block (a := ⟨w.heap.size, 4, none⟩) (HR4.out.2.2.2.block _ (lt_of_cell HA3.out.c4) (fun hx => absurd (HSI.out w.heap.size (hOf_mem hx)).2.1 (Nat.lt_irrefl _)))]
        exact HA3.out.c4
      have H13 : Hid (∀ u, Sm w4 u → Calls Tryd.prog 13 #[.slice oa on on, .slice ba bn bc] u fun e w' => Hid (e = .returned (.bool true) ∧ Sm w4 w')) := fun u hu => by
        refine (same_yes _ _ _ u (hu.view HV4.out) (hu.view HR4.out.1)).mono ?_
        rintro e w' ⟨q1, q2⟩
        exact ⟨q1, hu.trans q2⟩
      have H35 : Hid (∀ u, Sm w4 u → Calls Tryd.prog 35 #[.slice va xn vcap, .slice xa xn xc] u fun e w' => Hid (e = .returned (.bool true) ∧ Kw w4 w' vs)) := fun u hu => by
        have ku : ∀ v, Kw u v vs → Kw w4 v vs := fun v k => ⟨k.os.trans hu.os, k.tape.trans hu.tape, k.output.trans hu.output, by rw [← hu.heap]; exact k.size, fun q hq hn => by rw [← hu.heap]; exact k.block q (by rw [hu.heap]; exact hq) hn⟩
        have lf := lent_fr HL4.out.1 HL4.out.2 (sm_fr hu []) (fun b hb => by cases hb)
        refine (kept_ok w0.heap.size va xa xn vcap xc vs xs yss u lf.1 HLn.out.1 lf.2 HLn.out.2.2.2.1 (fun v k => ?_) hxn hl (by omega) (by have := HLn.out.2.2.2.2; have := HF4.out.size; have := HB2.out.size; have := HR4.out.2.2.2.size; have := HO3.out.2.2.size; rw [hu.heap]; have z0 : w.heap.size < w2.heap.size := lt_of_cell HA2.out.c0; omega)).mono ?_
        · have f5 : Fr w v (omb d1) := HF4.out.late (kw_fr (ku v k) (vs.filterMap Value.ownBlock) (fun j x hx q e => List.mem_filterMap.2 ⟨x, List.mem_of_getElem? hx, e⟩)) (fun b hb => by
            obtain ⟨x, hx, e⟩ := List.mem_filterMap.1 hb
            obtain ⟨j, hj⟩ := List.getElem?_of_mem hx
            have z := (HL4.out.2 j x hj).blk_lt e
            exact .inr (by have := HLn.out.2.2.2.2; omega))
          exact (HP.out v (f5.toBelow (fun b hb => (HSI.out b hb).1) HBs.out)).1
        · intro e w' hh
          obtain ⟨h1, h2⟩ := hh.out
          exact ⟨h1, ku _ h2⟩
      go_wp2_with (first | (go_at_call 10; refine (num_ok _ _).mono ?_; rintro e1 wx ⟨rfl, hwx⟩; obtain rfl := hwx.symm) | (go_at_call 13; refine (H13.out _ ⟨rfl, rfl, rfl, rfl⟩).mono ?_))
      intro e5 w5 hh
      obtain ⟨rfl, s5⟩ := hh.out
      have c45 : w5.cell? ⟨w.heap.size, 4, none⟩ = some (.slice xa xn xc) := by rw [s5.cell]; exact c4
      have H35' : Hid (Calls Tryd.prog 35 #[.slice va xn vcap, .slice xa xn xc] w5 fun e w' => Hid (e = .returned (.bool true) ∧ Kw w4 w' vs)) := H35.out w5 s5
      clear hh s5 H13 H35 c4
      go_upto_region 16 with (go_at_call 35; refine H35'.out.mono ?_; intro e6 w6 hh; obtain ⟨rfl, kw6⟩ := hh.out)
      have HL6 : Hid (∀ b, b ∈ vs.filterMap Value.ownBlock → w.heap.size ≤ b ∧ b < w2.heap.size) := fun b hb => by
        obtain ⟨x, hx, e⟩ := List.mem_filterMap.1 hb
        obtain ⟨j, hj⟩ := List.getElem?_of_mem hx
        have z := (HLn.out.2.2.1 j x hj).blk_lt e
        have := HLn.out.2.2.2.2
        omega
      have HK6 : Hid (Fr w4 w6 (vs.filterMap Value.ownBlock)) := kw_fr kw6 _ (fun j x hx q e => List.mem_filterMap.2 ⟨x, List.mem_of_getElem? hx, e⟩)
      obtain ⟨d', HD6⟩ : ∃ d', Hid (PSD Pp w6 B m d0 d' ov wv ts left ∧ omb d' = omb d1 ∧ (∀ b, b ∈ orb d' → b ∈ orb d1 ∨ w3.heap.size ≤ b) ∧ Fr w w6 (omb d1)) := hs.out.drawn1 HB2.out HO3.out.2.2 HR4.out.2.2.2 HK6.out HL6.out HO3.out.2.1 HR4.out.2.2.1 (fun q e => drNc_ok (hs.out.ps.D1 q e).c0 (hs.out.ps.D1 q e).cL)
      have HI6 : Hid (Pp → Drw w6 B (PMb m d0 d' ov wv) (orb d0 ++ orb d') (ts ++ [(.slice oa on on, .slice ba bn bc, Z)])) := fun p => hs.out.item HD6.out.1 (fun b hb => by rw [PMb, HD6.out.2.1] at hb; exact (hs.out.ps.lt b hb).2) (fun b hb => by
          rcases List.mem_append.1 hb with hb | hb
          · exact .inl (hs.out.ps.ro b (List.mem_append_left _ hb)).1
          · rcases HD6.out.2.2.1 b hb with h | h
            · exact .inl (hs.out.ps.ro b (List.mem_append_right _ h)).1
            · exact .inr h) HBs.out HB2.out.size HO3.out.2.2.size HR4.out.2.2.2 (fun b hb => (HSI.out b (hOf_mem hb)).2.1) HK6.out (fun b hb => (HL6.out b hb).2) HO3.out.1 HR4.out.1 HR4.out.2.1 p
      have hbn : ((bn : Nat) : Int) ≤ left := by
        have e1 : bn = Z.length := by obtain ⟨_, _, e, _⟩ := HR4.out.1; injection e
        rw [e1, HZ.out]
        exact drZ_le (by rw [HN.out]; split <;> omega) hs.out.ps.l0
      have hl0 := hs.out.ps.l0
      have hl1 := hs.out.ps.l1
      clear hh kw6 H35' c45 HK6 HL6 HL4 HV4 HR4 HF4 HF3 HA3 HM3 HO3 HSI HLn HA2 HS2
      have k6 := HD6.out.1.ps.cl
      have f6 : w6.frozen? ⟨m, 6, none⟩ = false := by have := (HD6.out.1.ps.there 6 (by omega)).2; simpa using this
      go_upto_region 17 with fail
      obtain ⟨ova, ovc, hov⟩ := owns_sl22 HD6.out.1.ps.out
      obtain ⟨wva, wvc, hwv⟩ := owns_sl22 HD6.out.1.ps.was
      subst hov hwv
      obtain ⟨i0, hi, hz0, hz1, hz2⟩ := info_parts Tryd.info22L
      obtain ⟨LF, HLF⟩ : ∃ LF, Hid (LF = left - (bn : Nat)) := ⟨_, rfl⟩
      have hLF : 0 ≤ LF ∧ LF ≤ 1048576 := by rw [HLF.out]; omega
      have e7 := HLF.out
      rw [← e7]
      clear e7
      obtain ⟨w7, HW7⟩ : ∃ w7, Hid (w7 = w6.setCell ⟨m, 6, none⟩ (.int .i64 LF)) := ⟨_, rfl⟩
      have e7 := HW7.out
      rw [← e7]
      clear e7 k6 f6
      have HAP : Hid ((∀ b, b ∈ vblk (.slice ova ts.length ovc) → b < w6.heap.size ∧ b ≠ m ∧ b ∉ vblk (.slice wva ts.length wvc)) ∧ (∀ b, b ∈ vblk (.slice wva ts.length wvc) → b < w6.heap.size ∧ b ≠ m)) := HD6.out.1.ps.apart
      have hmw : m < w6.heap.size := lt_of_cell HD6.out.1.ps.s0
      have H7s : Hid (w7.heap.size = w6.heap.size) := by show _ = _; rw [HW7.out]; exact size_setCells m [.int .i64 LF] 6 w6
      have HB6 : Hid (B ≤ w6.heap.size) := by show _ ≤ _; have := HD6.out.1.ps.mB; omega
      have c4 : w7.cell? ⟨m, 4, none⟩ = some (.slice ova ts.length ovc) := by rw [HW7.out, set_cells 4 (by omega)]; exact HD6.out.1.ps.co
      obtain ⟨os, HOS⟩ : ∃ os, Hid (os = ts.map (·.1)) := ⟨_, rfl⟩
      obtain ⟨ws, HWS⟩ : ∃ ws, Hid (ws = ts.map (·.2.1)) := ⟨_, rfl⟩
      have HO8 : Hid ((w7.alloc (.cells #[.slice oa on on] 22)).ownsRow B 22 1 (.slice ova ts.length ovc) ts.length os) := owns_same (by rw [HOS.out]; exact HD6.out.1.ps.out) fun b hb => by
        have q := HAP.out.1 b hb
        rw [Below.heap_alloc _ _ b (by rw [H7s.out]; omega), HW7.out]
        exact Below.heap_setCell _ _ _ b q.2.1
      have HN8 : Hid (∀ j u, [(Value.slice oa on on)][j]? = some u → (w7.alloc (.cells #[.slice oa on on] 22)).cell? ((⟨w7.heap.size, 0, none⟩ : Addr).add j) = some u) := one_sl w7 _ _
      have HC8 : Hid (∀ u ∈ [(Value.slice oa on on)], u.oneCell' = true) := one_sl1 _ _ _
      have HS8 : Hid (B ≤ (w7.alloc (.cells #[.slice oa on on] 22)).heap.size) := by show _ ≤ _; have := HB6.out; rw [size_alloc1, H7s.out]; omega
      go_wp2_with (first | (at_builtin; go_must (refine wpList_append_own_at _ rfl (.tmp 104) (.tmp 106) 37 rfl B 22 i0 (.slice none 0 0) 1 24 Tryd.underlying37 hi hz0 hz1 hz2 rfl (by decide) _ ts.length os rfl HO8.out ⟨w7.heap.size, 0, none⟩ 1 1 [.slice oa on on] rfl rfl HN8.out HC8.out (by unfold maxLen; omega) (by omega) HS8.out ?_)))
      intro v9 w9 hown9 hgrow9 hnil9 hat9
      obtain ⟨a9, p9, rfl⟩ := owns_sl22 hown9
      have HG9 : Hid (w9.ownsRow B 22 1 (.slice a9 (ts.length + 1) p9) (ts.length + 1) (os ++ [.slice oa on on]) ∧ (w7.alloc (.cells #[.slice oa on on] 22)).grownBy w9 (Value.slice ova ts.length ovc).ownBlock ∧ ((Value.slice a9 (ts.length + 1) p9).ownBlock = (Value.slice ova ts.length ovc).ownBlock ∨ (Value.slice a9 (ts.length + 1) p9).ownBlock = some (w7.alloc (.cells #[.slice oa on on] 22)).heap.size)) := ⟨hown9, hgrow9, by rw [size_alloc1]; exact hat9⟩
      have b9 : w9.heap[m]? = w7.heap[m]? := (hgrow9.block m (by rw [size_alloc1, H7s.out]; omega) (fun e => (HAP.out.1 m (vblk_own.2 e.symm)).2.1 rfl)).trans (Below.heap_alloc _ _ m (by rw [H7s.out]; omega))
      have p4 : w9.cell? ⟨m, 4, none⟩ = some (.slice ova ts.length ovc) := by rw [World.cell?_of_block (a := ⟨m, 4, none⟩) b9]; exact c4
      have z4 : w9.frozen? ⟨m, 4, none⟩ = false := by
        rw [World.frozen?_of_block (a := ⟨m, 4, none⟩) b9, HW7.out]
        have := ((World.there_setCells HD6.out.1.ps.there m 6 [.int .i64 LF]) 4 (by omega)).2
        rw [Nat.zero_add] at this
        exact this
      clear hown9 hgrow9 hnil9 hat9 HO8 HN8 HC8 HS8 b9 c4
      go_upto_region 18 with fail
      have HPH : Hid (PH w6 (w9.setCell ⟨m, 4, none⟩ (.slice a9 (ts.length + 1) p9)) B m ts.length (.slice ova ts.length ovc) (.slice wva ts.length wvc) (.slice a9 (ts.length + 1) p9) os ws (.slice oa on on) LF) := by
        have g := HG9.out
        rw [HW7.out, HOS.out] at g
        rw [HOS.out, HWS.out]
        exact HD6.out.1.ps.half g.1 g.2.1 g.2.2
      generalize w9.setCell ⟨m, 4, none⟩ (.slice a9 (ts.length + 1) p9) = w10 at HPH ⊢
      clear HG9 p4 z4 HW7 H7s
      have hm10 : m < w10.heap.size := by have := HPH.out.fr.size; omega
      have c5 : w10.cell? ⟨m, 5, none⟩ = some (.slice wva ts.length wvc) := HPH.out.c5
      have HO11 : Hid ((w10.alloc (.cells #[.slice ba bn bc] 22)).ownsRow B 22 1 (.slice wva ts.length wvc) ts.length ws) := owns_same HPH.out.hw fun b hb => by
        have q := HAP.out.2 b hb
        have := HPH.out.fr.size
        exact Below.heap_alloc _ _ b (by omega)
      have HN11 : Hid (∀ j u, [(Value.slice ba bn bc)][j]? = some u → (w10.alloc (.cells #[.slice ba bn bc] 22)).cell? ((⟨w10.heap.size, 0, none⟩ : Addr).add j) = some u) := one_sl w10 _ _
      have HC11 : Hid (∀ u ∈ [(Value.slice ba bn bc)], u.oneCell' = true) := one_sl1 _ _ _
      have HS11 : Hid (B ≤ (w10.alloc (.cells #[.slice ba bn bc] 22)).heap.size) := by show _ ≤ _; have := HB6.out; have := HPH.out.fr.size; rw [size_alloc1]; omega
      go_wp2_with (first | (at_builtin; go_must (refine wpList_append_own_at _ rfl (.tmp 114) (.tmp 116) 37 rfl B 22 i0 (.slice none 0 0) 1 24 Tryd.underlying37 hi hz0 hz1 hz2 rfl (by decide) _ ts.length ws rfl HO11.out ⟨w10.heap.size, 0, none⟩ 1 1 [.slice ba bn bc] rfl rfl HN11.out HC11.out (by unfold maxLen; omega) (by omega) HS11.out ?_)))
      intro v12 w12 hown12 hgrow12 hnil12 hat12
      obtain ⟨a12, p12, rfl⟩ := owns_sl22 hown12
      have HG12 : Hid (w12.ownsRow B 22 1 (.slice a12 (ts.length + 1) p12) (ts.length + 1) (ws ++ [.slice ba bn bc]) ∧ (w10.alloc (.cells #[.slice ba bn bc] 22)).grownBy w12 (Value.slice wva ts.length wvc).ownBlock ∧ ((Value.slice a12 (ts.length + 1) p12).ownBlock = (Value.slice wva ts.length wvc).ownBlock ∨ (Value.slice a12 (ts.length + 1) p12).ownBlock = some (w10.alloc (.cells #[.slice ba bn bc] 22)).heap.size)) := ⟨hown12, hgrow12, by rw [size_alloc1]; exact hat12⟩
      have b12 : w12.heap[m]? = w10.heap[m]? := (hgrow12.block m (by rw [size_alloc1]; omega) (fun e => (HAP.out.2 m (vblk_own.2 e.symm)).2 rfl)).trans (Below.heap_alloc _ _ m (by omega))
      have p5 : w12.cell? ⟨m, 5, none⟩ = some (.slice wva ts.length wvc) := by rw [World.cell?_of_block (a := ⟨m, 5, none⟩) b12]; exact c5
      have z5 : w12.frozen? ⟨m, 5, none⟩ = false := by
        rw [World.frozen?_of_block (a := ⟨m, 5, none⟩) b12]
        have := (HPH.out.th 5 (by omega)).2
        rw [Nat.zero_add] at this
        exact this
      have HF : Hid (StepP Pp w (w12.setCell ⟨m, 5, none⟩ (.slice a12 (ts.length + 1) p12)) (.returned (.bool true)) B m ts.length) := by
        have g := HG12.out
        have ph := HPH.out
        rw [HWS.out] at g
        rw [HOS.out, HWS.out] at ph
        have q := HD6.out.1.ps.both ph g.1 g.2.1 g.2.2 hLF.1 hLF.2
        have fr := q.2
        refine ⟨rfl, (HD6.out.2.2.2.toBelow (fun b hb => (hs.out.ps.side1 b hb).1) HBs.out).trans (fr.toBelow (fun b hb => (HD6.out.1.ps.lt b (by
          rcases List.mem_append.1 hb with hb | hb
          · exact List.mem_append_left _ hb
          · exact List.mem_append_right _ (List.mem_append_right _ (List.mem_append_right _ hb)))).1) HB6.out), d0, d', .slice a9 (ts.length + 1) p9, .slice a12 (ts.length + 1) p12, ts ++ [(.slice oa on on, .slice ba bn bc, Z)], LF, ⟨?_, fun p => ?_⟩, by simp⟩
        · have r := q.1
          simp only [List.map_append, List.map_cons, List.map_nil, List.length_append, List.length_cons, List.length_nil, Nat.zero_add]
          exact r
        · refine (HI6.out p).fr fr (fun b hb => .inl ?_) (fun b hb => ?_) (fun b hb => .inl hb)
          · rcases List.mem_append.1 hb with hb | hb
            · exact List.mem_append_left _ hb
            · exact List.mem_append_right _ (List.mem_append_right _ (List.mem_append_right _ hb))
          · rcases List.mem_append.1 hb with hb | hb
            · exact .inl (List.mem_append_left _ hb)
            · rcases List.mem_append.1 hb with hb | hb
              · exact .inl (List.mem_append_right _ (List.mem_append_left _ hb))
              · rcases List.mem_append.1 hb with hb | hb
                · exact .inl (List.mem_append_right _ (List.mem_append_right _ (List.mem_append_left _ hb)))
                · rcases List.mem_append.1 hb with hb | hb
                  · rcases ph.ob b hb with h | h
                    · exact .inl (List.mem_append_right _ (List.mem_append_right _ (List.mem_append_right _ (List.mem_append_left _ h))))
                    · exact .inr h
                  · rcases g.2.2 with e | e
                    · exact .inl (List.mem_append_right _ (List.mem_append_right _ (List.mem_append_right _ (List.mem_append_right _ (vblk_own.2 (by rw [← e]; exact vblk_own.1 hb))))))
                    · have h := vblk_own.1 hb
                      rw [e, size_alloc1] at h
                      injection h with h
                      exact .inr (by have := ph.fr.size; omega)
      clear hown12 hgrow12 hnil12 hat12 HO11 HN11 HC11 HS11 b12 c5 HG12 HPH HI6 HAP
      go_wp2
      go_ret
      exact HF.out
end Go.Proofs.YtkeklmkaleomkaaDoor
