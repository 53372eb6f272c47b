import Derived.Test.YtohhjohpdfbdoaaXc
namespace Go.Proofs.Ytohhjohpdfbdoaa
open Go.RowKit
attribute [local go_sem ↓] Go.wp_at_zero Go.wp_at_succ
set_option linter.unusedVariables false
set_option linter.unusedSimpArgs false
set_option maxHeartbeats 8000000 in
set_option maxRecDepth 100000 in
theorem end_begun (s : ByteArray) (n : Nat) (hn : Hid (s.size = n)) (hmo : n ≤ 4096) (w : World) (HP : Hid (parse s = R s 0 acc0 .ahead)) (C : Code) (hC : (Try.f9.body).bind loopBody = some C) (A : Act) (a : Acc) (i : Nat) (wd vl : List Int) (hf : Int) (wr : World)
    (FX : Fx s w A) (SL : Sl A 5 a.f wd vl hf i) (IV : Iv w s (.begun wd) a i wd vl hf wr) (HE : Hid (i = s.size)) (Q : Exit → Act → World → Prop) (NX : Hid (Nx s w i Q)) : C.wp Try.prog Q A wr := by
  obtain rfl : _ = C := Option.some.inj ((rfl : (Try.f9.body).bind loopBody = some _).symm.trans hC)
  clear hC
  obtain ⟨i0, hi, hz0, hz1, hz2⟩ := info_parts info31
  have hsn := hn.out
  obtain ⟨x, hx, hA⟩ := frame9 A FX.d FX.sz
  rw [hA]
  have x0 := (hx 0).trans FX.t0
  have x2 := (hx 2).trans FX.t2
  have x5 := (hx 5).trans FX.t5
  have x6 := (hx 6).trans FX.t6
  have x7 := (hx 7).trans SL.s7
  have x8 := (hx 8).trans SL.s8
  have x9 := (hx 9).trans SL.s9
  have x10 := (hx 10).trans SL.s10
  have x11 := (hx 11).trans SL.s11
  have x12 := (hx 12).trans SL.s12
  rw [x0, x2, x5, x6, x7, x8, x9, x10, x11, x12]
  clear hA hx x0 x2 x5 x6 x7 x8 x9 x10 x11 x12 FX SL A
  have lb := IV.lb
  have hsz := lb.size
  obtain ⟨vp, vc, lc, hrow, hS⟩ := lb.lc
  have haf := IV.af
  have hwl := IV.wlen
  have hvl := IV.vlen
  have hol := IV.ol
  have HR : Hid (R s 0 acc0 .ahead = R s i a (.begun wd)) := IV.R
  have hrel2 : vl = [] := IV.rel.2
  clear IV
  have hsw : (strOfNums wd).size = wd.length := strOfNums_size wd
  have hsv : (strOfNums vl).size = vl.length := strOfNums_size vl
  have hin : i ≤ n := by have := HE.out; omega
  have mw : ¬ 9223372036854775807 < wd.length + 1 := by omega
  have mv : ¬ 9223372036854775807 < vl.length + 1 := by omega
  have qn : decide ((i : Int) ≤ (n : Int)) = true := by simp; omega
  have wri : IntKind.i64.wrap ((i : Int) + 1) = (i : Int) + 1 := by rw [IntKind.wrap_i64]; omega
  have qe : ((i : Int) == (n : Int)) = true := by rw [beq_iff_eq]; have := HE.out; omega
  have hcv := conv1 0
  have hsc : (strOfNums [0]).size = 1 := rfl
  subst hrel2
  have s2 := lc.s2
  have hgo : Hid (R s i a (.begun wd) = .good (a.opt wd [])) := R_end s i HE.out (rfl)
  try clear h34
  try clear h35
  try clear h61
  try clear h92
  try clear h95
  try clear h120
  go_wp2_with (at_builtin; go_must (refine wpList_append_own _ rfl (.tmp 148) (.tmp 152) 23 rfl (w.heap.size + 3) 31 i0 (.agg #[.string ⟨#[]⟩, .string ⟨#[]⟩]) 2 32 Try.underlying23 hi hz0 hz1 hz2 rfl (by decide) _ a.opts.length (optL a.opts) rfl (hrow.alloc _) ⟨wr.heap.size, 0, none⟩ 1 1 [.string (strOfNums wd), .string (strOfNums [])] rfl rfl (two_new _ _ _ _) (by simp [Value.oneCell']) (by unfold maxLen; omega) (by omega) (by simp; omega) ?_); intro v6 w6 hown6 hgrow6 _; obtain ⟨g6, cap6, rfl⟩ := ownsRow_succ hown6; have LB6 := lb.opt wd [] hS hrow hown6 hgrow6; have hS6 := at_kept (at_kept hS (World.grownBy_alloc wr _ none) (by simp)) hgrow6 (fun e => by have := (hrow.lt _ e.symm).1; omega); have zz : w6.frozen? ⟨w.heap.size + 2, 2, none⟩ = false := (by simp [World.frozen?, hS6]); have yy : w6.cell? ⟨w.heap.size + 2, 2, none⟩ = some (.slice vp a.opts.length vc) := (by simp [World.cell?, hS6]))
  exact NX.out.hG HE.out _ _ (a.opt wd []) ⟨rfl, rfl, rfl, rfl, rfl, rfl⟩ (by go_num) ⟨LB6, by first | omega | (simp only [Acc.opt, List.length_append, List.length_cons, List.length_nil]; omega), HR.out.trans hgo.out⟩
set_option maxHeartbeats 8000000 in
set_option maxRecDepth 100000 in
theorem round_begun (s : ByteArray) (n : Nat) (hn : Hid (s.size = n)) (hmo : n ≤ 4096) (w : World) (HP : Hid (parse s = R s 0 acc0 .ahead)) (C : Code) (hC : (Try.f9.body).bind loopBody = some C) (A : Act) (a : Acc) (i : Nat) (wd vl : List Int) (hf : Int) (wr : World)
    (FX : Fx s w A) (SL : Sl A 5 a.f wd vl hf i) (IV : Iv w s (.begun wd) a i wd vl hf wr) (hlt : i < s.size) (hF : fine (nx s i)) (Q : Exit → Act → World → Prop) (NX : Hid (Nx s w i Q)) : C.wp Try.prog Q A wr := by
  obtain rfl : _ = C := Option.some.inj ((rfl : (Try.f9.body).bind loopBody = some _).symm.trans hC)
  clear hC
  obtain ⟨i0, hi, hz0, hz1, hz2⟩ := info_parts info31
  have hsn := hn.out
  obtain ⟨x, hx, hA⟩ := frame9 A FX.d FX.sz
  rw [hA]
  have x0 := (hx 0).trans FX.t0
  have x2 := (hx 2).trans FX.t2
  have x5 := (hx 5).trans FX.t5
  have x6 := (hx 6).trans FX.t6
  have x7 := (hx 7).trans SL.s7
  have x8 := (hx 8).trans SL.s8
  have x9 := (hx 9).trans SL.s9
  have x10 := (hx 10).trans SL.s10
  have x11 := (hx 11).trans SL.s11
  have x12 := (hx 12).trans SL.s12
  rw [x0, x2, x5, x6, x7, x8, x9, x10, x11, x12]
  clear hA hx x0 x2 x5 x6 x7 x8 x9 x10 x11 x12 FX SL A
  have lb := IV.lb
  have hsz := lb.size
  obtain ⟨vp, vc, lc, hrow, hS⟩ := lb.lc
  have haf := IV.af
  have hwl := IV.wlen
  have hvl := IV.vlen
  have hol := IV.ol
  have HR : Hid (R s 0 acc0 .ahead = R s i a (.begun wd)) := IV.R
  have hrel2 : vl = [] := IV.rel.2
  clear IV
  have hsw : (strOfNums wd).size = wd.length := strOfNums_size wd
  have hsv : (strOfNums vl).size = vl.length := strOfNums_size vl
  have mw : ¬ 9223372036854775807 < wd.length + 1 := by omega
  have mv : ¬ 9223372036854775807 < vl.length + 1 := by omega
  have qn : decide ((i : Int) ≤ (n : Int)) = true := by simp; omega
  have wri : IntKind.i64.wrap ((i : Int) + 1) = (i : Int) + 1 := by rw [IntKind.wrap_i64]; omega
  have qe : ((i : Int) == (n : Int)) = false := by rw [beq_eq_false_iff_ne]; omega
  obtain ⟨c, hc⟩ : ∃ c, nx s i = c := ⟨_, rfl⟩
  have hcr := nx_range s i
  rw [hc] at hcr hF
  obtain ⟨hc0, hc1⟩ := hcr
  have hcs : ((s[i]'hlt).toNat : Int) = c := by rw [← hc, nx_at s i hlt]
  have HC : Hid (nx s i = c) := hc
  clear hc
  have hcv := conv1 c
  have hsc : (strOfNums [c]).size = 1 := rfl
  subst hrel2
  by_cases hB : blank c
  · have s2 := lc.s2
    have hgo : Hid (R s i a (.begun wd) = R s (i + 1) (a.opt wd []) .ahead) := R_go s i hlt (by rw [HC.out]; exact hF) (by rw [HC.out]; simp only [step]; rw [if_pos hB])
    try clear h34
    try clear h35
    try clear h61
    try clear h92
    try clear h95
    try clear h120
    go_wp2_with (first
      | (go_at_call 13; refine (rfine_ok _ _).mono ?_; rintro e w9 ⟨rfl, rfl⟩; simp only [hF, decide_true])
      | (go_at_call 14; refine (rblank_ok _ _).mono ?_; rintro e w9 ⟨rfl, rfl⟩; simp only [hB, decide_true, decide_false])
      | (at_builtin; go_must (refine wpList_append_own _ rfl (.tmp 148) (.tmp 152) 23 rfl (w.heap.size + 3) 31 i0 (.agg #[.string ⟨#[]⟩, .string ⟨#[]⟩]) 2 32 Try.underlying23 hi hz0 hz1 hz2 rfl (by decide) _ a.opts.length (optL a.opts) rfl (hrow.alloc _) ⟨wr.heap.size, 0, none⟩ 1 1 [.string (strOfNums wd), .string (strOfNums [])] rfl rfl (two_new _ _ _ _) (by simp [Value.oneCell']) (by unfold maxLen; omega) (by omega) (by simp; omega) ?_); intro v6 w6 hown6 hgrow6 _; obtain ⟨g6, cap6, rfl⟩ := ownsRow_succ hown6; have LB6 := lb.opt wd [] hS hrow hown6 hgrow6; have hS6 := at_kept (at_kept hS (World.grownBy_alloc wr _ none) (by simp)) hgrow6 (fun e => by have := (hrow.lt _ e.symm).1; omega); have zz : w6.frozen? ⟨w.heap.size + 2, 2, none⟩ = false := (by simp [World.frozen?, hS6]); have yy : w6.cell? ⟨w.heap.size + 2, 2, none⟩ = some (.slice vp a.opts.length vc) := (by simp [World.cell?, hS6])))
    exact NX.out.hN hlt _ _ (a.opt wd []) .ahead wd [] hf ⟨rfl, rfl, rfl, rfl, rfl, rfl⟩ ⟨rfl, rfl, rfl, rfl, rfl, by go_num⟩ ⟨LB6, by first | omega | (simp only [Acc.opt]; omega), by omega, by simp, rfl, by first | omega | (simp only [Acc.opt, List.length_append, List.length_cons, List.length_nil]; omega), HR.out.trans hgo.out⟩
  · by_cases h34 : c = 34
    · have e34 : (c == 34) = true := by rw [beq_iff_eq]; exact h34
      have hgo : Hid (R s i a (.begun wd) = R s (i + 1) a (.quoted wd [])) := R_go s i hlt (by rw [HC.out]; exact hF) (by rw [HC.out]; simp only [step]; rw [if_neg hB, if_pos h34])
      try clear h34
      try clear h35
      try clear h61
      try clear h92
      try clear h95
      try clear h120
      go_wp2_with (first
        | (go_at_call 13; refine (rfine_ok _ _).mono ?_; rintro e w9 ⟨rfl, rfl⟩; simp only [hF, decide_true])
        | (go_at_call 14; refine (rblank_ok _ _).mono ?_; rintro e w9 ⟨rfl, rfl⟩; simp only [hB, decide_true, decide_false]))
      exact NX.out.hN hlt _ _ a (.quoted wd []) wd [] hf ⟨rfl, rfl, rfl, rfl, rfl, rfl⟩ ⟨rfl, rfl, rfl, rfl, rfl, by go_num⟩ ⟨lb, by first | omega | (simp only [Acc.opt]; omega), by omega, by simp, ⟨rfl, rfl⟩, by first | omega | (simp only [Acc.opt, List.length_append, List.length_cons, List.length_nil]; omega), HR.out.trans hgo.out⟩
    · have e34 : (c == 34) = false := by rw [beq_eq_false_iff_ne]; exact h34
      have hgo : Hid (R s i a (.begun wd) = R s (i + 1) a (.bare wd [c])) := R_go s i hlt (by rw [HC.out]; exact hF) (by rw [HC.out]; simp only [step]; rw [if_neg hB, if_neg h34])
      try clear h34
      try clear h35
      try clear h61
      try clear h92
      try clear h95
      try clear h120
      go_wp2_with (first
        | (go_at_call 13; refine (rfine_ok _ _).mono ?_; rintro e w9 ⟨rfl, rfl⟩; simp only [hF, decide_true])
        | (go_at_call 14; refine (rblank_ok _ _).mono ?_; rintro e w9 ⟨rfl, rfl⟩; simp only [hB, decide_true, decide_false]))
      exact NX.out.hN hlt _ _ a (.bare wd [c]) wd ([] ++ [c]) hf ⟨rfl, rfl, rfl, rfl, rfl, rfl⟩ ⟨rfl, rfl, rfl, congrArg Value.string (strOf_append [] [c]), rfl, by go_num⟩ ⟨lb.still (World.grownBy_alloc wr _ none), by first | omega | (simp only [Acc.opt]; omega), by omega, by simp, ⟨rfl, rfl⟩, by first | omega | (simp only [Acc.opt, List.length_append, List.length_cons, List.length_nil]; omega), HR.out.trans hgo.out⟩
set_option maxHeartbeats 8000000 in
set_option maxRecDepth 100000 in
theorem end_bare (s : ByteArray) (n : Nat) (hn : Hid (s.size = n)) (hmo : n ≤ 4096) (w : World) (HP : Hid (parse s = R s 0 acc0 .ahead)) (C : Code) (hC : (Try.f9.body).bind loopBody = some C) (A : Act) (a : Acc) (i : Nat) (wd vl : List Int) (hf : Int) (wr : World)
    (FX : Fx s w A) (SL : Sl A 6 a.f wd vl hf i) (IV : Iv w s (.bare wd vl) a i wd vl hf wr) (HE : Hid (i = s.size)) (Q : Exit → Act → World → Prop) (NX : Hid (Nx s w i Q)) : C.wp Try.prog Q A wr := by
  obtain rfl : _ = C := Option.some.inj ((rfl : (Try.f9.body).bind loopBody = some _).symm.trans hC)
  clear hC
  obtain ⟨i0, hi, hz0, hz1, hz2⟩ := info_parts info31
  have hsn := hn.out
  obtain ⟨x, hx, hA⟩ := frame9 A FX.d FX.sz
  rw [hA]
  have x0 := (hx 0).trans FX.t0
  have x2 := (hx 2).trans FX.t2
  have x5 := (hx 5).trans FX.t5
  have x6 := (hx 6).trans FX.t6
  have x7 := (hx 7).trans SL.s7
  have x8 := (hx 8).trans SL.s8
  have x9 := (hx 9).trans SL.s9
  have x10 := (hx 10).trans SL.s10
  have x11 := (hx 11).trans SL.s11
  have x12 := (hx 12).trans SL.s12
  rw [x0, x2, x5, x6, x7, x8, x9, x10, x11, x12]
  clear hA hx x0 x2 x5 x6 x7 x8 x9 x10 x11 x12 FX SL A
  have lb := IV.lb
  have hsz := lb.size
  obtain ⟨vp, vc, lc, hrow, hS⟩ := lb.lc
  have haf := IV.af
  have hwl := IV.wlen
  have hvl := IV.vlen
  have hol := IV.ol
  have HR : Hid (R s 0 acc0 .ahead = R s i a (.bare wd vl)) := IV.R
  clear IV
  have hsw : (strOfNums wd).size = wd.length := strOfNums_size wd
  have hsv : (strOfNums vl).size = vl.length := strOfNums_size vl
  have hin : i ≤ n := by have := HE.out; omega
  have mw : ¬ 9223372036854775807 < wd.length + 1 := by omega
  have mv : ¬ 9223372036854775807 < vl.length + 1 := by omega
  have qn : decide ((i : Int) ≤ (n : Int)) = true := by simp; omega
  have wri : IntKind.i64.wrap ((i : Int) + 1) = (i : Int) + 1 := by rw [IntKind.wrap_i64]; omega
  have qe : ((i : Int) == (n : Int)) = true := by rw [beq_iff_eq]; have := HE.out; omega
  have hcv := conv1 0
  have hsc : (strOfNums [0]).size = 1 := rfl
  have s2 := lc.s2
  have hgo : Hid (R s i a (.bare wd vl) = .good (a.opt wd vl)) := R_end s i HE.out (rfl)
  try clear h34
  try clear h35
  try clear h61
  try clear h92
  try clear h95
  try clear h120
  go_wp2_with (at_builtin; go_must (refine wpList_append_own _ rfl (.tmp 148) (.tmp 152) 23 rfl (w.heap.size + 3) 31 i0 (.agg #[.string ⟨#[]⟩, .string ⟨#[]⟩]) 2 32 Try.underlying23 hi hz0 hz1 hz2 rfl (by decide) _ a.opts.length (optL a.opts) rfl (hrow.alloc _) ⟨wr.heap.size, 0, none⟩ 1 1 [.string (strOfNums wd), .string (strOfNums vl)] rfl rfl (two_new _ _ _ _) (by simp [Value.oneCell']) (by unfold maxLen; omega) (by omega) (by simp; omega) ?_); intro v6 w6 hown6 hgrow6 _; obtain ⟨g6, cap6, rfl⟩ := ownsRow_succ hown6; have LB6 := lb.opt wd vl hS hrow hown6 hgrow6; have hS6 := at_kept (at_kept hS (World.grownBy_alloc wr _ none) (by simp)) hgrow6 (fun e => by have := (hrow.lt _ e.symm).1; omega); have zz : w6.frozen? ⟨w.heap.size + 2, 2, none⟩ = false := (by simp [World.frozen?, hS6]); have yy : w6.cell? ⟨w.heap.size + 2, 2, none⟩ = some (.slice vp a.opts.length vc) := (by simp [World.cell?, hS6]))
  exact NX.out.hG HE.out _ _ (a.opt wd vl) ⟨rfl, rfl, rfl, rfl, rfl, rfl⟩ (by go_num) ⟨LB6, by first | omega | (simp only [Acc.opt, List.length_append, List.length_cons, List.length_nil]; omega), HR.out.trans hgo.out⟩
set_option maxHeartbeats 8000000 in
set_option maxRecDepth 100000 in
theorem round_bare (s : ByteArray) (n : Nat) (hn : Hid (s.size = n)) (hmo : n ≤ 4096) (w : World) (HP : Hid (parse s = R s 0 acc0 .ahead)) (C : Code) (hC : (Try.f9.body).bind loopBody = some C) (A : Act) (a : Acc) (i : Nat) (wd vl : List Int) (hf : Int) (wr : World)
    (FX : Fx s w A) (SL : Sl A 6 a.f wd vl hf i) (IV : Iv w s (.bare wd vl) a i wd vl hf wr) (hlt : i < s.size) (hF : fine (nx s i)) (Q : Exit → Act → World → Prop) (NX : Hid (Nx s w i Q)) : C.wp Try.prog Q A wr := by
  obtain rfl : _ = C := Option.some.inj ((rfl : (Try.f9.body).bind loopBody = some _).symm.trans hC)
  clear hC
  obtain ⟨i0, hi, hz0, hz1, hz2⟩ := info_parts info31
  have hsn := hn.out
  obtain ⟨x, hx, hA⟩ := frame9 A FX.d FX.sz
  rw [hA]
  have x0 := (hx 0).trans FX.t0
  have x2 := (hx 2).trans FX.t2
  have x5 := (hx 5).trans FX.t5
  have x6 := (hx 6).trans FX.t6
  have x7 := (hx 7).trans SL.s7
  have x8 := (hx 8).trans SL.s8
  have x9 := (hx 9).trans SL.s9
  have x10 := (hx 10).trans SL.s10
  have x11 := (hx 11).trans SL.s11
  have x12 := (hx 12).trans SL.s12
  rw [x0, x2, x5, x6, x7, x8, x9, x10, x11, x12]
  clear hA hx x0 x2 x5 x6 x7 x8 x9 x10 x11 x12 FX SL A
  have lb := IV.lb
  have hsz := lb.size
  obtain ⟨vp, vc, lc, hrow, hS⟩ := lb.lc
  have haf := IV.af
  have hwl := IV.wlen
  have hvl := IV.vlen
  have hol := IV.ol
  have HR : Hid (R s 0 acc0 .ahead = R s i a (.bare wd vl)) := IV.R
  clear IV
  have hsw : (strOfNums wd).size = wd.length := strOfNums_size wd
  have hsv : (strOfNums vl).size = vl.length := strOfNums_size vl
  have mw : ¬ 9223372036854775807 < wd.length + 1 := by omega
  have mv : ¬ 9223372036854775807 < vl.length + 1 := by omega
  have qn : decide ((i : Int) ≤ (n : Int)) = true := by simp; omega
  have wri : IntKind.i64.wrap ((i : Int) + 1) = (i : Int) + 1 := by rw [IntKind.wrap_i64]; omega
  have qe : ((i : Int) == (n : Int)) = false := by rw [beq_eq_false_iff_ne]; omega
  obtain ⟨c, hc⟩ : ∃ c, nx s i = c := ⟨_, rfl⟩
  have hcr := nx_range s i
  rw [hc] at hcr hF
  obtain ⟨hc0, hc1⟩ := hcr
  have hcs : ((s[i]'hlt).toNat : Int) = c := by rw [← hc, nx_at s i hlt]
  have HC : Hid (nx s i = c) := hc
  clear hc
  have hcv := conv1 c
  have hsc : (strOfNums [c]).size = 1 := rfl
  by_cases hB : blank c
  · have s2 := lc.s2
    have hgo : Hid (R s i a (.bare wd vl) = R s (i + 1) (a.opt wd vl) .ahead) := R_go s i hlt (by rw [HC.out]; exact hF) (by rw [HC.out]; simp only [step]; rw [if_pos hB])
    try clear h34
    try clear h35
    try clear h61
    try clear h92
    try clear h95
    try clear h120
    go_wp2_with (first
      | (go_at_call 13; refine (rfine_ok _ _).mono ?_; rintro e w9 ⟨rfl, rfl⟩; simp only [hF, decide_true])
      | (go_at_call 14; refine (rblank_ok _ _).mono ?_; rintro e w9 ⟨rfl, rfl⟩; simp only [hB, decide_true, decide_false])
      | (at_builtin; go_must (refine wpList_append_own _ rfl (.tmp 148) (.tmp 152) 23 rfl (w.heap.size + 3) 31 i0 (.agg #[.string ⟨#[]⟩, .string ⟨#[]⟩]) 2 32 Try.underlying23 hi hz0 hz1 hz2 rfl (by decide) _ a.opts.length (optL a.opts) rfl (hrow.alloc _) ⟨wr.heap.size, 0, none⟩ 1 1 [.string (strOfNums wd), .string (strOfNums vl)] rfl rfl (two_new _ _ _ _) (by simp [Value.oneCell']) (by unfold maxLen; omega) (by omega) (by simp; omega) ?_); intro v6 w6 hown6 hgrow6 _; obtain ⟨g6, cap6, rfl⟩ := ownsRow_succ hown6; have LB6 := lb.opt wd vl hS hrow hown6 hgrow6; have hS6 := at_kept (at_kept hS (World.grownBy_alloc wr _ none) (by simp)) hgrow6 (fun e => by have := (hrow.lt _ e.symm).1; omega); have zz : w6.frozen? ⟨w.heap.size + 2, 2, none⟩ = false := (by simp [World.frozen?, hS6]); have yy : w6.cell? ⟨w.heap.size + 2, 2, none⟩ = some (.slice vp a.opts.length vc) := (by simp [World.cell?, hS6])))
    exact NX.out.hN hlt _ _ (a.opt wd vl) .ahead wd [] hf ⟨rfl, rfl, rfl, rfl, rfl, rfl⟩ ⟨rfl, rfl, rfl, rfl, rfl, by go_num⟩ ⟨LB6, by first | omega | (simp only [Acc.opt]; omega), by omega, by simp, rfl, by first | omega | (simp only [Acc.opt, List.length_append, List.length_cons, List.length_nil]; omega), HR.out.trans hgo.out⟩
  · have hgo : Hid (R s i a (.bare wd vl) = R s (i + 1) a (.bare wd (vl ++ [c]))) := R_go s i hlt (by rw [HC.out]; exact hF) (by rw [HC.out]; simp only [step]; rw [if_neg hB])
    try clear h34
    try clear h35
    try clear h61
    try clear h92
    try clear h95
    try clear h120
    go_wp2_with (first
      | (go_at_call 13; refine (rfine_ok _ _).mono ?_; rintro e w9 ⟨rfl, rfl⟩; simp only [hF, decide_true])
      | (go_at_call 14; refine (rblank_ok _ _).mono ?_; rintro e w9 ⟨rfl, rfl⟩; simp only [hB, decide_true, decide_false]))
    exact NX.out.hN hlt _ _ a (.bare wd (vl ++ [c])) wd (vl ++ [c]) hf ⟨rfl, rfl, rfl, rfl, rfl, rfl⟩ ⟨rfl, rfl, rfl, congrArg Value.string (strOf_append vl [c]), rfl, by go_num⟩ ⟨lb.still (World.grownBy_alloc wr _ none), by first | omega | (simp only [Acc.opt]; omega), by omega, by simp only [List.length_append, List.length_cons, List.length_nil]; omega, ⟨rfl, rfl⟩, by first | omega | (simp only [Acc.opt, List.length_append, List.length_cons, List.length_nil]; omega), HR.out.trans hgo.out⟩
set_option maxHeartbeats 8000000 in
set_option maxRecDepth 100000 in
theorem end_shut (s : ByteArray) (n : Nat) (hn : Hid (s.size = n)) (hmo : n ≤ 4096) (w : World) (HP : Hid (parse s = R s 0 acc0 .ahead)) (C : Code) (hC : (Try.f9.body).bind loopBody = some C) (A : Act) (a : Acc) (i : Nat) (wd vl : List Int) (hf : Int) (wr : World)
    (FX : Fx s w A) (SL : Sl A 11 a.f wd vl hf i) (IV : Iv w s (.shut wd vl) a i wd vl hf wr) (HE : Hid (i = s.size)) (Q : Exit → Act → World → Prop) (NX : Hid (Nx s w i Q)) : C.wp Try.prog Q A wr := by
  obtain rfl : _ = C := Option.some.inj ((rfl : (Try.f9.body).bind loopBody = some _).symm.trans hC)
  clear hC
  obtain ⟨i0, hi, hz0, hz1, hz2⟩ := info_parts info31
  have hsn := hn.out
  obtain ⟨x, hx, hA⟩ := frame9 A FX.d FX.sz
  rw [hA]
  have x0 := (hx 0).trans FX.t0
  have x2 := (hx 2).trans FX.t2
  have x5 := (hx 5).trans FX.t5
  have x6 := (hx 6).trans FX.t6
  have x7 := (hx 7).trans SL.s7
  have x8 := (hx 8).trans SL.s8
  have x9 := (hx 9).trans SL.s9
  have x10 := (hx 10).trans SL.s10
  have x11 := (hx 11).trans SL.s11
  have x12 := (hx 12).trans SL.s12
  rw [x0, x2, x5, x6, x7, x8, x9, x10, x11, x12]
  clear hA hx x0 x2 x5 x6 x7 x8 x9 x10 x11 x12 FX SL A
  have lb := IV.lb
  have hsz := lb.size
  obtain ⟨vp, vc, lc, hrow, hS⟩ := lb.lc
  have haf := IV.af
  have hwl := IV.wlen
  have hvl := IV.vlen
  have hol := IV.ol
  have HR : Hid (R s 0 acc0 .ahead = R s i a (.shut wd vl)) := IV.R
  clear IV
  have hsw : (strOfNums wd).size = wd.length := strOfNums_size wd
  have hsv : (strOfNums vl).size = vl.length := strOfNums_size vl
  have hin : i ≤ n := by have := HE.out; omega
  have mw : ¬ 9223372036854775807 < wd.length + 1 := by omega
  have mv : ¬ 9223372036854775807 < vl.length + 1 := by omega
  have qn : decide ((i : Int) ≤ (n : Int)) = true := by simp; omega
  have wri : IntKind.i64.wrap ((i : Int) + 1) = (i : Int) + 1 := by rw [IntKind.wrap_i64]; omega
  have qe : ((i : Int) == (n : Int)) = true := by rw [beq_iff_eq]; have := HE.out; omega
  have hcv := conv1 0
  have hsc : (strOfNums [0]).size = 1 := rfl
  have s2 := lc.s2
  have hgo : Hid (R s i a (.shut wd vl) = .good (a.opt wd vl)) := R_end s i HE.out (rfl)
  try clear h34
  try clear h35
  try clear h61
  try clear h92
  try clear h95
  try clear h120
  go_wp2_with (at_builtin; go_must (refine wpList_append_own _ rfl (.tmp 221) (.tmp 225) 23 rfl (w.heap.size + 3) 31 i0 (.agg #[.string ⟨#[]⟩, .string ⟨#[]⟩]) 2 32 Try.underlying23 hi hz0 hz1 hz2 rfl (by decide) _ a.opts.length (optL a.opts) rfl (hrow.alloc _) ⟨wr.heap.size, 0, none⟩ 1 1 [.string (strOfNums wd), .string (strOfNums vl)] rfl rfl (two_new _ _ _ _) (by simp [Value.oneCell']) (by unfold maxLen; omega) (by omega) (by simp; omega) ?_); intro v6 w6 hown6 hgrow6 _; obtain ⟨g6, cap6, rfl⟩ := ownsRow_succ hown6; have LB6 := lb.opt wd vl hS hrow hown6 hgrow6; have hS6 := at_kept (at_kept hS (World.grownBy_alloc wr _ none) (by simp)) hgrow6 (fun e => by have := (hrow.lt _ e.symm).1; omega); have zz : w6.frozen? ⟨w.heap.size + 2, 2, none⟩ = false := (by simp [World.frozen?, hS6]); have yy : w6.cell? ⟨w.heap.size + 2, 2, none⟩ = some (.slice vp a.opts.length vc) := (by simp [World.cell?, hS6]))
  exact NX.out.hG HE.out _ _ (a.opt wd vl) ⟨rfl, rfl, rfl, rfl, rfl, rfl⟩ (by go_num) ⟨LB6, by first | omega | (simp only [Acc.opt, List.length_append, List.length_cons, List.length_nil]; omega), HR.out.trans hgo.out⟩
set_option maxHeartbeats 8000000 in
set_option maxRecDepth 100000 in
theorem round_shut (s : ByteArray) (n : Nat) (hn : Hid (s.size = n)) (hmo : n ≤ 4096) (w : World) (HP : Hid (parse s = R s 0 acc0 .ahead)) (C : Code) (hC : (Try.f9.body).bind loopBody = some C) (A : Act) (a : Acc) (i : Nat) (wd vl : List Int) (hf : Int) (wr : World)
    (FX : Fx s w A) (SL : Sl A 11 a.f wd vl hf i) (IV : Iv w s (.shut wd vl) a i wd vl hf wr) (hlt : i < s.size) (hF : fine (nx s i)) (Q : Exit → Act → World → Prop) (NX : Hid (Nx s w i Q)) : C.wp Try.prog Q A wr := by
  obtain rfl : _ = C := Option.some.inj ((rfl : (Try.f9.body).bind loopBody = some _).symm.trans hC)
  clear hC
  obtain ⟨i0, hi, hz0, hz1, hz2⟩ := info_parts info31
  have hsn := hn.out
  obtain ⟨x, hx, hA⟩ := frame9 A FX.d FX.sz
  rw [hA]
  have x0 := (hx 0).trans FX.t0
  have x2 := (hx 2).trans FX.t2
  have x5 := (hx 5).trans FX.t5
  have x6 := (hx 6).trans FX.t6
  have x7 := (hx 7).trans SL.s7
  have x8 := (hx 8).trans SL.s8
  have x9 := (hx 9).trans SL.s9
  have x10 := (hx 10).trans SL.s10
  have x11 := (hx 11).trans SL.s11
  have x12 := (hx 12).trans SL.s12
  rw [x0, x2, x5, x6, x7, x8, x9, x10, x11, x12]
  clear hA hx x0 x2 x5 x6 x7 x8 x9 x10 x11 x12 FX SL A
  have lb := IV.lb
  have hsz := lb.size
  obtain ⟨vp, vc, lc, hrow, hS⟩ := lb.lc
  have haf := IV.af
  have hwl := IV.wlen
  have hvl := IV.vlen
  have hol := IV.ol
  have HR : Hid (R s 0 acc0 .ahead = R s i a (.shut wd vl)) := IV.R
  clear IV
  have hsw : (strOfNums wd).size = wd.length := strOfNums_size wd
  have hsv : (strOfNums vl).size = vl.length := strOfNums_size vl
  have mw : ¬ 9223372036854775807 < wd.length + 1 := by omega
  have mv : ¬ 9223372036854775807 < vl.length + 1 := by omega
  have qn : decide ((i : Int) ≤ (n : Int)) = true := by simp; omega
  have wri : IntKind.i64.wrap ((i : Int) + 1) = (i : Int) + 1 := by rw [IntKind.wrap_i64]; omega
  have qe : ((i : Int) == (n : Int)) = false := by rw [beq_eq_false_iff_ne]; omega
  obtain ⟨c, hc⟩ : ∃ c, nx s i = c := ⟨_, rfl⟩
  have hcr := nx_range s i
  rw [hc] at hcr hF
  obtain ⟨hc0, hc1⟩ := hcr
  have hcs : ((s[i]'hlt).toNat : Int) = c := by rw [← hc, nx_at s i hlt]
  have HC : Hid (nx s i = c) := hc
  clear hc
  have hcv := conv1 c
  have hsc : (strOfNums [c]).size = 1 := rfl
  by_cases hB : blank c
  · have s2 := lc.s2
    have hgo : Hid (R s i a (.shut wd vl) = R s (i + 1) (a.opt wd vl) .ahead) := R_go s i hlt (by rw [HC.out]; exact hF) (by rw [HC.out]; simp only [step]; rw [if_pos hB])
    try clear h34
    try clear h35
    try clear h61
    try clear h92
    try clear h95
    try clear h120
    go_wp2_with (first
      | (go_at_call 13; refine (rfine_ok _ _).mono ?_; rintro e w9 ⟨rfl, rfl⟩; simp only [hF, decide_true])
      | (go_at_call 14; refine (rblank_ok _ _).mono ?_; rintro e w9 ⟨rfl, rfl⟩; simp only [hB, decide_true, decide_false])
      | (at_builtin; go_must (refine wpList_append_own _ rfl (.tmp 221) (.tmp 225) 23 rfl (w.heap.size + 3) 31 i0 (.agg #[.string ⟨#[]⟩, .string ⟨#[]⟩]) 2 32 Try.underlying23 hi hz0 hz1 hz2 rfl (by decide) _ a.opts.length (optL a.opts) rfl (hrow.alloc _) ⟨wr.heap.size, 0, none⟩ 1 1 [.string (strOfNums wd), .string (strOfNums vl)] rfl rfl (two_new _ _ _ _) (by simp [Value.oneCell']) (by unfold maxLen; omega) (by omega) (by simp; omega) ?_); intro v6 w6 hown6 hgrow6 _; obtain ⟨g6, cap6, rfl⟩ := ownsRow_succ hown6; have LB6 := lb.opt wd vl hS hrow hown6 hgrow6; have hS6 := at_kept (at_kept hS (World.grownBy_alloc wr _ none) (by simp)) hgrow6 (fun e => by have := (hrow.lt _ e.symm).1; omega); have zz : w6.frozen? ⟨w.heap.size + 2, 2, none⟩ = false := (by simp [World.frozen?, hS6]); have yy : w6.cell? ⟨w.heap.size + 2, 2, none⟩ = some (.slice vp a.opts.length vc) := (by simp [World.cell?, hS6])))
    exact NX.out.hN hlt _ _ (a.opt wd vl) .ahead wd [] hf ⟨rfl, rfl, rfl, rfl, rfl, rfl⟩ ⟨rfl, rfl, rfl, rfl, rfl, by go_num⟩ ⟨LB6, by first | omega | (simp only [Acc.opt]; omega), by omega, by simp, rfl, by first | omega | (simp only [Acc.opt, List.length_append, List.length_cons, List.length_nil]; omega), HR.out.trans hgo.out⟩
  · have s2 := lc.s2
    have hbd : R s i a (.shut wd vl) = .bad (i + 1) := R_none s i hlt (by rw [HC.out]; simp only [step]; rw [if_neg hB])
    try clear h34
    try clear h35
    try clear h61
    try clear h92
    try clear h95
    try clear h120
    go_wp2_with (first
      | (go_at_call 13; refine (rfine_ok _ _).mono ?_; rintro e w9 ⟨rfl, rfl⟩; simp only [hF, decide_true])
      | (go_at_call 14; refine (rblank_ok _ _).mono ?_; rintro e w9 ⟨rfl, rfl⟩; simp only [hB, decide_true, decide_false])
      | (at_builtin; go_must (refine wpList_append_own _ rfl (.tmp 221) (.tmp 225) 23 rfl (w.heap.size + 3) 31 i0 (.agg #[.string ⟨#[]⟩, .string ⟨#[]⟩]) 2 32 Try.underlying23 hi hz0 hz1 hz2 rfl (by decide) _ a.opts.length (optL a.opts) rfl (hrow.alloc _) ⟨wr.heap.size, 0, none⟩ 1 1 [.string (strOfNums wd), .string (strOfNums vl)] rfl rfl (two_new _ _ _ _) (by simp [Value.oneCell']) (by unfold maxLen; omega) (by omega) (by simp; omega) ?_); intro v6 w6 hown6 hgrow6 _; obtain ⟨g6, cap6, rfl⟩ := ownsRow_succ hown6; have LB6 := lb.opt wd vl hS hrow hown6 hgrow6; have hS6 := at_kept (at_kept hS (World.grownBy_alloc wr _ none) (by simp)) hgrow6 (fun e => by have := (hrow.lt _ e.symm).1; omega); have zz : w6.frozen? ⟨w.heap.size + 2, 2, none⟩ = false := (by simp [World.frozen?, hS6]); have yy : w6.cell? ⟨w.heap.size + 2, 2, none⟩ = some (.slice vp a.opts.length vc) := (by simp [World.cell?, hS6]); obtain ⟨vp6, vc6, lc6, _⟩ := LB6.lc; obtain ⟨p0, p1, p2, q0, q1, q2, r0, r1, r2, _, _, _, _, _, _⟩ := lc6))
    all_goals
      have hzz := LB6.zero
      exact NX.out.hB _ _ rfl rfl rfl (by go_num) (HP.out.trans (HR.out.trans hbd)) hzz.1 hzz.2
end Go.Proofs.Ytohhjohpdfbdoaa
