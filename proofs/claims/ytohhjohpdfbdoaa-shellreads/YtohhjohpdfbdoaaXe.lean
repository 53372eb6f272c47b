import Derived.Test.YtohhjohpdfbdoaaXs1
import Derived.Test.YtohhjohpdfbdoaaXs2
import Derived.Test.YtohhjohpdfbdoaaXs3
import Derived.Test.YtohhjohpdfbdoaaXs4
import Derived.Test.YtohhjohpdfbdoaaXs5
import Derived.Test.YtohhjohpdfbdoaaXs6
import Derived.Test.YtohhjohpdfbdoaaXs7
namespace Go.Proofs.Ytohhjohpdfbdoaa
open Go.RowKit
attribute [local go_sem ↓] Go.wp_at_zero Go.wp_at_succ
set_option linter.unusedVariables false
set_option linter.unusedSimpArgs false
set_option maxHeartbeats 8000000 in
set_option maxRecDepth 100000 in
theorem round_foul (s : ByteArray) (n : Nat) (hn : Hid (s.size = n)) (hmo : n ≤ 4096) (w : World) (HP : Hid (parse s = R s 0 acc0 .ahead)) (C : Code) (hC : (Try.f9.body).bind loopBody = some C) (A : Act) (a : Acc) (st : St) (i : Nat) (wd vl : List Int) (hf kk : Int) (wr : World)
    (FX : Fx s w A) (SL : Sl A kk a.f wd vl hf i) (IV : Iv w s st a i wd vl hf wr) (hlt : i < s.size) (hF : ¬ fine (nx s i)) (Q : Exit → Act → World → Prop) (NX : Hid (Nx s w i Q)) : C.wp Try.prog Q A wr := by
  obtain rfl : _ = C := Option.some.inj ((rfl : (Try.f9.body).bind loopBody = some _).symm.trans hC)
  clear hC
  have hsn := hn.out
  obtain ⟨x, hx, hA⟩ := frame9 A FX.d FX.sz
  rw [hA]
  have x0 := (hx 0).trans FX.t0
  have x2 := (hx 2).trans FX.t2
  have x5 := (hx 5).trans FX.t5
  have x6 := (hx 6).trans FX.t6
  have x12 := (hx 12).trans SL.s12
  rw [x0, x2, x5, x6, x12]
  clear hA hx x0 x2 x5 x6 x12 FX SL A
  have lb := IV.lb
  obtain ⟨vp, vc, lc, hrow, hS⟩ := lb.lc
  have HR : Hid (R s 0 acc0 .ahead = R s i a st) := IV.R
  clear IV
  have hbd : R s i a st = .bad (i + 1) := R_foul s i a st hlt hF
  have qn : decide ((i : Int) ≤ (n : Int)) = true := by simp; omega
  have wri : IntKind.i64.wrap ((i : Int) + 1) = (i : Int) + 1 := by rw [IntKind.wrap_i64]; omega
  have qe : ((i : Int) == (n : Int)) = false := by rw [beq_eq_false_iff_ne]; omega
  obtain ⟨c, hc⟩ : ∃ c, nx s i = c := ⟨_, rfl⟩
  rw [hc] at hF
  have hcs : ((s[i]'hlt).toNat : Int) = c := by rw [← hc, nx_at s i hlt]
  clear hc
  obtain ⟨p0, p1, p2, q0, q1, q2, r0, r1, r2, _, _, _, _, _, _⟩ := lc
  go_wp2_with (go_at_call 13; refine (rfine_ok _ _).mono ?_; rintro e w9 ⟨rfl, rfl⟩; simp only [hF, decide_false])
  have hzz := lb.zero
  exact NX.out.hB _ _ rfl rfl rfl (by go_num) (HP.out.trans (HR.out.trans hbd)) hzz.1 hzz.2
set_option maxHeartbeats 8000000 in
set_option maxRecDepth 100000 in
theorem round_done (s : ByteArray) (n : Nat) (hn : Hid (s.size = n)) (hmo : n ≤ 4096) (w : World) (C : Code) (hC : (Try.f9.body).bind loopBody = some C) (A : Act) (wr : World)
    (FX : Fx s w A) (s12 : A.tmps.getD 12 undef = .int .i64 ((n + 1 : Nat) : Int)) (Q : Exit → Act → World → Prop) (hQ : Hid (∀ A' : Act, Fx s w A' → Q (.exit 0) A' wr)) : C.wp Try.prog Q A wr := by
  obtain rfl : _ = C := Option.some.inj ((rfl : (Try.f9.body).bind loopBody = some _).symm.trans hC)
  clear hC
  have hsn := hn.out
  obtain ⟨x, hx, hA⟩ := frame9 A FX.d FX.sz
  rw [hA]
  have x0 := (hx 0).trans FX.t0
  have x2 := (hx 2).trans FX.t2
  have x5 := (hx 5).trans FX.t5
  have x6 := (hx 6).trans FX.t6
  have x12 := (hx 12).trans s12
  rw [x0, x2, x5, x6, x12]
  clear hA hx x0 x2 x5 x6 x12 FX s12 A
  have qn : decide (((n + 1 : Nat) : Int) ≤ (n : Int)) = false := by simp; omega
  have qn2 : decide ((n : Int) + 1 ≤ (n : Int)) = false := by simp; omega
  go_wp2
  exact hQ.out _ ⟨rfl, rfl, rfl, rfl, rfl, rfl⟩
theorem end_any (s : ByteArray) (n : Nat) (hn : Hid (s.size = n)) (hmo : n ≤ 4096) (w : World) (HP : Hid (parse s = R s 0 acc0 .ahead)) (C : Code) (hC : (Try.f9.body).bind loopBody = some C) (A : Act) (a : Acc) (st : St) (i : Nat) (wd vl : List Int) (hf : Int) (wr : World)
    (FX : Fx s w A) (SL : Sl A st.code a.f wd vl hf i) (IV : Iv w s st a i wd vl hf wr) (HE : Hid (i = s.size)) (Q : Exit → Act → World → Prop) (NX : Hid (Nx s w i Q)) : C.wp Try.prog Q A wr := by
  cases st with
  | ahead =>
    exact end_ahead s n hn hmo w HP C hC A a i wd vl hf wr FX SL IV HE Q NX
  | command k =>
    obtain rfl := IV.rel.1
    exact end_command s n hn hmo w HP C hC A a i wd vl hf wr FX SL IV HE Q NX
  | second k =>
    obtain rfl := IV.rel.1
    exact end_second s n hn hmo w HP C hC A a i wd vl hf wr FX SL IV HE Q NX
  | named k =>
    obtain rfl := IV.rel.1
    exact end_named s n hn hmo w HP C hC A a i wd vl hf wr FX SL IV HE Q NX
  | key k =>
    obtain rfl := IV.rel.1
    exact end_key s n hn hmo w HP C hC A a i wd vl hf wr FX SL IV HE Q NX
  | begun k =>
    obtain rfl := IV.rel.1
    exact end_begun s n hn hmo w HP C hC A a i wd vl hf wr FX SL IV HE Q NX
  | bare k v =>
    obtain rfl := IV.rel.1
    obtain rfl := IV.rel.2
    exact end_bare s n hn hmo w HP C hC A a i wd vl hf wr FX SL IV HE Q NX
  | quoted k v =>
    obtain rfl := IV.rel.1
    obtain rfl := IV.rel.2
    exact end_quoted s n hn hmo w HP C hC A a i wd vl hf wr FX SL IV HE Q NX
  | stroke k v =>
    obtain rfl := IV.rel.1
    obtain rfl := IV.rel.2
    exact end_stroke s n hn hmo w HP C hC A a i wd vl hf wr FX SL IV HE Q NX
  | first k v =>
    obtain rfl := IV.rel.1
    obtain rfl := IV.rel.2
    exact end_first s n hn hmo w HP C hC A a i wd vl hf wr FX SL IV HE Q NX
  | other k v h =>
    obtain rfl := IV.rel.1
    obtain rfl := IV.rel.2.1
    obtain rfl := IV.rel.2.2.1
    exact end_other s n hn hmo w HP C hC A a i wd vl hf wr FX SL IV HE Q NX
  | shut k v =>
    obtain rfl := IV.rel.1
    obtain rfl := IV.rel.2
    exact end_shut s n hn hmo w HP C hC A a i wd vl hf wr FX SL IV HE Q NX
  | comment =>
    exact end_comment s n hn hmo w HP C hC A a i wd vl hf wr FX SL IV HE Q NX
theorem round_any (s : ByteArray) (n : Nat) (hn : Hid (s.size = n)) (hmo : n ≤ 4096) (w : World) (HP : Hid (parse s = R s 0 acc0 .ahead)) (C : Code) (hC : (Try.f9.body).bind loopBody = some C) (A : Act) (a : Acc) (st : St) (i : Nat) (wd vl : List Int) (hf : Int) (wr : World)
    (FX : Fx s w A) (SL : Sl A st.code a.f wd vl hf i) (IV : Iv w s st a i wd vl hf wr) (hi : i ≤ n) (Q : Exit → Act → World → Prop) (NX : Hid (Nx s w i Q)) : C.wp Try.prog Q A wr := by
  have hsn := hn.out
  by_cases he : i = n
  · have h1 : i = s.size := by omega
    exact end_any s n hn hmo w HP C hC A a st i wd vl hf wr FX SL IV h1 Q NX
  · have hlt : i < s.size := by omega
    by_cases hF : fine (nx s i)
    · cases st with
      | ahead =>
        exact round_ahead s n hn hmo w HP C hC A a i wd vl hf wr FX SL IV hlt hF Q NX
      | command k =>
        obtain rfl := IV.rel.1
        exact round_command s n hn hmo w HP C hC A a i wd vl hf wr FX SL IV hlt hF Q NX
      | second k =>
        obtain rfl := IV.rel.1
        exact round_second s n hn hmo w HP C hC A a i wd vl hf wr FX SL IV hlt hF Q NX
      | named k =>
        obtain rfl := IV.rel.1
        exact round_named s n hn hmo w HP C hC A a i wd vl hf wr FX SL IV hlt hF Q NX
      | key k =>
        obtain rfl := IV.rel.1
        exact round_key s n hn hmo w HP C hC A a i wd vl hf wr FX SL IV hlt hF Q NX
      | begun k =>
        obtain rfl := IV.rel.1
        exact round_begun s n hn hmo w HP C hC A a i wd vl hf wr FX SL IV hlt hF Q NX
      | bare k v =>
        obtain rfl := IV.rel.1
        obtain rfl := IV.rel.2
        exact round_bare s n hn hmo w HP C hC A a i wd vl hf wr FX SL IV hlt hF Q NX
      | quoted k v =>
        obtain rfl := IV.rel.1
        obtain rfl := IV.rel.2
        exact round_quoted s n hn hmo w HP C hC A a i wd vl hf wr FX SL IV hlt hF Q NX
      | stroke k v =>
        obtain rfl := IV.rel.1
        obtain rfl := IV.rel.2
        exact round_stroke s n hn hmo w HP C hC A a i wd vl hf wr FX SL IV hlt hF Q NX
      | first k v =>
        obtain rfl := IV.rel.1
        obtain rfl := IV.rel.2
        exact round_first s n hn hmo w HP C hC A a i wd vl hf wr FX SL IV hlt hF Q NX
      | other k v h =>
        obtain rfl := IV.rel.1
        obtain rfl := IV.rel.2.1
        obtain rfl := IV.rel.2.2.1
        exact round_other s n hn hmo w HP C hC A a i wd vl hf wr FX SL IV hlt hF Q NX
      | shut k v =>
        obtain rfl := IV.rel.1
        obtain rfl := IV.rel.2
        exact round_shut s n hn hmo w HP C hC A a i wd vl hf wr FX SL IV hlt hF Q NX
      | comment =>
        exact round_comment s n hn hmo w HP C hC A a i wd vl hf wr FX SL IV hlt hF Q NX
    · exact round_foul s n hn hmo w HP C hC A a st i wd vl hf st.code wr FX SL IV hlt hF Q NX
set_option maxHeartbeats 8000000 in
set_option maxRecDepth 100000 in
theorem rparse_ok (s : ByteArray) (n : Nat) (hn : Hid (s.size = n)) (w : World) : Calls Try.prog 9 #[.string s] w (ParQ s w) := by
  obtain ⟨i0, hi, hz0, hz1, hz2⟩ := info_parts info31
  have hsn := hn.out
  have n0 := World.alloc_heap_new w (.cells #[.string ⟨#[]⟩, .string ⟨#[]⟩, .slice none 0 0] 25)
  obtain ⟨w1, hw1⟩ : ∃ w1, w1 = w.alloc (.cells #[.string ⟨#[]⟩, .string ⟨#[]⟩, .slice none 0 0] 25) := ⟨_, rfl⟩
  have s1 : w1.heap.size = w.heap.size + 1 := by rw [hw1]; simp
  have n1 := World.alloc_heap_new w1 (.cells #[.string ⟨#[]⟩, .string ⟨#[]⟩, .slice none 0 0] 25)
  obtain ⟨w2, hw2⟩ : ∃ w2, w2 = w1.alloc (.cells #[.string ⟨#[]⟩, .string ⟨#[]⟩, .slice none 0 0] 25) := ⟨_, rfl⟩
  have s2 : w2.heap.size = w.heap.size + 2 := by rw [hw2]; simp [s1]
  have n2 := World.alloc_heap_new w2 (.cells #[.string ⟨#[]⟩, .string ⟨#[]⟩, .slice none 0 0] 25)
  have b2 : Below w.heap.size w w2 := by rw [hw2, hw1]; exact ((Below.refl _ w).alloc (Nat.le_refl _) _).alloc (by simp) _
  rw [← hw1] at n0
  rw [s1, ← hw2] at n1
  rw [s2] at n2
  have g2 : w1.grownBy w2 none := by rw [hw2]; exact World.grownBy_alloc _ _ none
  have n0' := at_kept n0 g2 (by simp)
  have LB0 : Lb w acc0 (w2.alloc (.cells #[.string ⟨#[]⟩, .string ⟨#[]⟩, .slice none 0 0] 25)) := ⟨b2.alloc (by omega) _, at_kept n0' (World.grownBy_alloc _ _ none) (by simp), at_kept n1 (World.grownBy_alloc _ _ none) (by simp), ⟨_, n2, World.ownsRow_nil _ _ _ _⟩⟩
  by_cases h : 4096 < n
  · have q : decide ((4096 : Int) < (n : Int)) = true := by simp; omega
    have e2 : Hid ((w.alloc (.cells #[.string ⟨#[]⟩, .string ⟨#[]⟩, .slice none 0 0] 25)).alloc (.cells #[.string ⟨#[]⟩, .string ⟨#[]⟩, .slice none 0 0] 25) = w2) := by
      have e3 : (w.alloc (.cells #[.string ⟨#[]⟩, .string ⟨#[]⟩, .slice none 0 0] 25)).alloc (.cells #[.string ⟨#[]⟩, .string ⟨#[]⟩, .slice none 0 0] 25) = w2 := by rw [hw2, hw1]
      exact e3
    have P : ∀ k v, #[Value.string ⟨#[]⟩, .string ⟨#[]⟩, .slice none 0 0][k]? = some v → ((w.alloc (.cells #[.string ⟨#[]⟩, .string ⟨#[]⟩, .slice none 0 0] 25)).alloc (.cells #[.string ⟨#[]⟩, .string ⟨#[]⟩, .slice none 0 0] 25)).cell? ⟨w.heap.size, k, none⟩ = some v ∧ ((w.alloc (.cells #[.string ⟨#[]⟩, .string ⟨#[]⟩, .slice none 0 0] 25)).alloc (.cells #[.string ⟨#[]⟩, .string ⟨#[]⟩, .slice none 0 0] 25)).frozen? ⟨w.heap.size, k, none⟩ = false := by
      intro k v hv
      rw [e2.out]
      constructor
      · simp only [World.cell?]; rw [n0']; exact hv
      · simp [World.frozen?, n0']
    have q0 := (P 0 _ rfl).1
    have q1 := (P 1 _ rfl).1
    have q2 := (P 2 _ rfl).1
    have r0 := (P 0 _ rfl).2
    have r1 := (P 1 _ rfl).2
    have r2 := (P 2 _ rfl).2
    clear P
    go_enter Try.func9, Try.ntmps9
    go_wp2
    rw [e2.out]
    refine bodyPost_ret (results_ref n0' rfl rfl rfl) rfl ?_
    exact .inr ⟨4097, rfl, by unfold parse; rw [if_pos (by omega)], b2⟩
  · have q : decide ((4096 : Int) < (n : Int)) = false := by simp; omega
    have HP : Hid (parse s = R s 0 acc0 .ahead) := by
      have h1 : parse s = R s 0 acc0 .ahead := by unfold parse; rw [if_neg (by omega)]
      exact h1
    have e2 : Hid (((w.alloc (.cells #[.string ⟨#[]⟩, .string ⟨#[]⟩, .slice none 0 0] 25)).alloc (.cells #[.string ⟨#[]⟩, .string ⟨#[]⟩, .slice none 0 0] 25)).alloc (.cells #[.string ⟨#[]⟩, .string ⟨#[]⟩, .slice none 0 0] 25) = w2.alloc (.cells #[.string ⟨#[]⟩, .string ⟨#[]⟩, .slice none 0 0] 25)) := by
      have e3 : ((w.alloc (.cells #[.string ⟨#[]⟩, .string ⟨#[]⟩, .slice none 0 0] 25)).alloc (.cells #[.string ⟨#[]⟩, .string ⟨#[]⟩, .slice none 0 0] 25)).alloc (.cells #[.string ⟨#[]⟩, .string ⟨#[]⟩, .slice none 0 0] 25) = w2.alloc (.cells #[.string ⟨#[]⟩, .string ⟨#[]⟩, .slice none 0 0] 25) := by rw [hw2, hw1]
      exact e3
    rw [← e2.out] at LB0
    clear hw1 hw2 n0 n1 n2 n0' g2 b2 s1 s2 e2
    go_enter Try.func9, Try.ntmps9
    go_wp2
    have HM : n ≤ 4096 := by omega
    refine wp_loop (fun A wr => Fx s w A ∧ ((∃ (a : Acc) (st : St) (i : Nat) (wd vl : List Int) (hf : Int), Sl A st.code a.f wd vl hf i ∧ i ≤ n ∧ Iv w s st a i wd vl hf wr) ∨ (∃ a, A.tmps.getD 12 undef = .int .i64 ((n + 1 : Nat) : Int) ∧ Gd w s a wr))) (fun A _ => n + 1 - (intOf (A.tmps.getD 12 undef)).toNat)
      ⟨⟨rfl, rfl, rfl, rfl, rfl, rfl⟩, .inl ⟨acc0, .ahead, 0, [], [], 0, ⟨rfl, rfl, rfl, rfl, rfl, rfl⟩, by omega, ⟨LB0, Nat.le_refl _, Nat.le_refl _, Nat.le_refl _, rfl, Nat.le_refl _, rfl⟩⟩⟩ ?_
    rintro A wr ⟨FX, ⟨a, st, i, wd, vl, hf, SL, hin, IV⟩ | ⟨a, s12, GD⟩⟩
    · have hmu : ∀ a' : Act, a'.tmps.getD 12 undef = .int .i64 ((i + 1 : Nat) : Int) → n + 1 - (intOf (a'.tmps.getD 12 undef)).toNat < n + 1 - (intOf (A.tmps.getD 12 undef)).toNat := by
        intro a' h12
        rw [h12, SL.s12]
        simp only [intOf]
        omega
      refine round_any s n hn HM w HP _ rfl A a st i wd vl hf wr FX SL IV hin _ ?_
      refine Nx.mk ?_ ?_ ?_
      · intro hlt a' W' acc st' wd' vl' hf' fx sl iv
        exact ⟨⟨fx, .inl ⟨acc, st', i + 1, wd', vl', hf', sl, by omega, iv⟩⟩, hmu a' sl.s12⟩
      · intro hie a' W' acc fx h12 gd
        have e : i = n := by omega
        exact ⟨⟨fx, .inr ⟨acc, by rw [h12, e], gd⟩⟩, hmu a' h12⟩
      · intro a' W' hd h2 h3 h4 hp hz hb
        exact bodyPost_ret (results_ref hz h2 h3 h4) hd (.inr ⟨i + 1, rfl, hp, hb⟩)
    · refine round_done s n hn HM w _ rfl A wr FX s12 _ ?_
      intro A' fx
      rename_i K hK
      refine hK _ _ ?_
      obtain ⟨x, hx, hA⟩ := frame9 A' fx.d fx.sz
      rw [hA]
      have x2 := (hx 2).trans fx.t2
      have x6 := (hx 6).trans fx.t6
      rw [x2, x6]
      clear hA hx x2 x6 fx s12 FX A'
      have lb := GD.lb
      obtain ⟨vp, vc, lc, hrow, _⟩ := lb.lc
      obtain ⟨p0, p1, p2, q0, q1, q2, r0, r1, r2, s0, s1, s2, _, _, _⟩ := lc
      have h3 := set_block (set_block (set_block lb.z0 0 (.string (strOfNums a.cmd))) 1 (.string (strOfNums a.name))) 2 (.slice vp a.opts.length vc)
      simp only [List.setIfInBounds_toArray, List.set_cons_zero, List.set_cons_succ] at h3
      have gS := grown_set3 wr w.heap.size (.string (strOfNums a.cmd)) (.string (strOfNums a.name)) (.slice vp a.opts.length vc)
      have hfin : ParQ s w (.returned (.tuple #[.agg #[.string (strOfNums a.cmd), .string (strOfNums a.name), .slice vp a.opts.length vc], .int .i64 0, .int .i64 0])) (((wr.setCell ⟨w.heap.size, 0, none⟩ (.string (strOfNums a.cmd))).setCell ⟨w.heap.size, 1, none⟩ (.string (strOfNums a.name))).setCell ⟨w.heap.size, 2, none⟩ (.slice vp a.opts.length vc)) :=
        .inl ⟨a, _, rfl, ownsRow_below (hrow.kept gS (own_far hrow (by omega))) (by omega), GD.ol, HP.out.trans GD.R, lb.b.grown gS (by have := lb.size; omega) (fun k e => by cases e; exact Nat.le_refl _)⟩
      go_wp2
      exact bodyPost_ret (results_ref h3 rfl rfl rfl) rfl hfin
end Go.Proofs.Ytohhjohpdfbdoaa
