import Derived.Test.YtohhjohpdfbdoaaXc
namespace Go.Proofs.Ytohhjohpdfbdoaa
open Go.RowKit
attribute [local go_sem ↓] Go.wp_at_zero Go.wp_at_succ
set_option linter.unusedVariables false
set_option linter.unusedSimpArgs false
set_option maxHeartbeats 8000000 in
set_option maxRecDepth 100000 in
theorem end_command (s : ByteArray) (n : Nat) (hn : Hid (s.size = n)) (hmo : n ≤ 4096) (w : World) (HP : Hid (parse s = R s 0 acc0 .ahead)) (C : Code) (hC : (Try.f9.body).bind loopBody = some C) (A : Act) (a : Acc) (i : Nat) (wd vl : List Int) (hf : Int) (wr : World)
    (FX : Fx s w A) (SL : Sl A 1 a.f wd vl hf i) (IV : Iv w s (.command wd) a i wd vl hf wr) (HE : Hid (i = s.size)) (Q : Exit → Act → World → Prop) (NX : Hid (Nx s w i Q)) : C.wp Try.prog Q A wr := by
  obtain rfl : _ = C := Option.some.inj ((rfl : (Try.f9.body).bind loopBody = some _).symm.trans hC)
  clear hC
  obtain ⟨i0, hi, hz0, hz1, hz2⟩ := info_parts info31
  have hsn := hn.out
  obtain ⟨x, hx, hA⟩ := frame9 A FX.d FX.sz
  rw [hA]
  have x0 := (hx 0).trans FX.t0
  have x2 := (hx 2).trans FX.t2
  have x5 := (hx 5).trans FX.t5
  have x6 := (hx 6).trans FX.t6
  have x7 := (hx 7).trans SL.s7
  have x8 := (hx 8).trans SL.s8
  have x9 := (hx 9).trans SL.s9
  have x10 := (hx 10).trans SL.s10
  have x11 := (hx 11).trans SL.s11
  have x12 := (hx 12).trans SL.s12
  rw [x0, x2, x5, x6, x7, x8, x9, x10, x11, x12]
  clear hA hx x0 x2 x5 x6 x7 x8 x9 x10 x11 x12 FX SL A
  have lb := IV.lb
  have hsz := lb.size
  obtain ⟨vp, vc, lc, hrow, hS⟩ := lb.lc
  have haf := IV.af
  have hwl := IV.wlen
  have hvl := IV.vlen
  have hol := IV.ol
  have HR : Hid (R s 0 acc0 .ahead = R s i a (.command wd)) := IV.R
  have hrel2 : Hid (vl = []) := IV.rel.2
  clear IV
  have hsw : (strOfNums wd).size = wd.length := strOfNums_size wd
  have hsv : (strOfNums vl).size = vl.length := strOfNums_size vl
  have hin : i ≤ n := by have := HE.out; omega
  have mw : ¬ 9223372036854775807 < wd.length + 1 := by omega
  have mv : ¬ 9223372036854775807 < vl.length + 1 := by omega
  have qn : decide ((i : Int) ≤ (n : Int)) = true := by simp; omega
  have wri : IntKind.i64.wrap ((i : Int) + 1) = (i : Int) + 1 := by rw [IntKind.wrap_i64]; omega
  have qe : ((i : Int) == (n : Int)) = true := by rw [beq_iff_eq]; have := HE.out; omega
  have hcv := conv1 0
  have hsc : (strOfNums [0]).size = 1 := rfl
  have t0 := lc.t0
  have s0 := lc.s0
  have hgo : Hid (R s i a (.command wd) = .good { a with cmd := wd }) := R_end s i HE.out (rfl)
  try clear h34
  try clear h35
  try clear h61
  try clear h92
  try clear h95
  try clear h120
  go_wp2
  exact NX.out.hG HE.out _ _ { a with cmd := wd } ⟨rfl, rfl, rfl, rfl, rfl, rfl⟩ (by go_num) ⟨lb.cmd wd, by first | omega | (simp only [Acc.opt, List.length_append, List.length_cons, List.length_nil]; omega), HR.out.trans hgo.out⟩
set_option maxHeartbeats 8000000 in
set_option maxRecDepth 100000 in
theorem round_command (s : ByteArray) (n : Nat) (hn : Hid (s.size = n)) (hmo : n ≤ 4096) (w : World) (HP : Hid (parse s = R s 0 acc0 .ahead)) (C : Code) (hC : (Try.f9.body).bind loopBody = some C) (A : Act) (a : Acc) (i : Nat) (wd vl : List Int) (hf : Int) (wr : World)
    (FX : Fx s w A) (SL : Sl A 1 a.f wd vl hf i) (IV : Iv w s (.command wd) a i wd vl hf wr) (hlt : i < s.size) (hF : fine (nx s i)) (Q : Exit → Act → World → Prop) (NX : Hid (Nx s w i Q)) : C.wp Try.prog Q A wr := by
  obtain rfl : _ = C := Option.some.inj ((rfl : (Try.f9.body).bind loopBody = some _).symm.trans hC)
  clear hC
  obtain ⟨i0, hi, hz0, hz1, hz2⟩ := info_parts info31
  have hsn := hn.out
  obtain ⟨x, hx, hA⟩ := frame9 A FX.d FX.sz
  rw [hA]
  have x0 := (hx 0).trans FX.t0
  have x2 := (hx 2).trans FX.t2
  have x5 := (hx 5).trans FX.t5
  have x6 := (hx 6).trans FX.t6
  have x7 := (hx 7).trans SL.s7
  have x8 := (hx 8).trans SL.s8
  have x9 := (hx 9).trans SL.s9
  have x10 := (hx 10).trans SL.s10
  have x11 := (hx 11).trans SL.s11
  have x12 := (hx 12).trans SL.s12
  rw [x0, x2, x5, x6, x7, x8, x9, x10, x11, x12]
  clear hA hx x0 x2 x5 x6 x7 x8 x9 x10 x11 x12 FX SL A
  have lb := IV.lb
  have hsz := lb.size
  obtain ⟨vp, vc, lc, hrow, hS⟩ := lb.lc
  have haf := IV.af
  have hwl := IV.wlen
  have hvl := IV.vlen
  have hol := IV.ol
  have HR : Hid (R s 0 acc0 .ahead = R s i a (.command wd)) := IV.R
  have hrel2 : Hid (vl = []) := IV.rel.2
  clear IV
  have hsw : (strOfNums wd).size = wd.length := strOfNums_size wd
  have hsv : (strOfNums vl).size = vl.length := strOfNums_size vl
  have mw : ¬ 9223372036854775807 < wd.length + 1 := by omega
  have mv : ¬ 9223372036854775807 < vl.length + 1 := by omega
  have qn : decide ((i : Int) ≤ (n : Int)) = true := by simp; omega
  have wri : IntKind.i64.wrap ((i : Int) + 1) = (i : Int) + 1 := by rw [IntKind.wrap_i64]; omega
  have qe : ((i : Int) == (n : Int)) = false := by rw [beq_eq_false_iff_ne]; omega
  obtain ⟨c, hc⟩ : ∃ c, nx s i = c := ⟨_, rfl⟩
  have hcr := nx_range s i
  rw [hc] at hcr hF
  obtain ⟨hc0, hc1⟩ := hcr
  have hcs : ((s[i]'hlt).toNat : Int) = c := by rw [← hc, nx_at s i hlt]
  have HC : Hid (nx s i = c) := hc
  clear hc
  have hcv := conv1 c
  have hsc : (strOfNums [c]).size = 1 := rfl
  by_cases hB : blank c
  · have t0 := lc.t0
    have s0 := lc.s0
    have hgo : Hid (R s i a (.command wd) = R s (i + 1) { a with cmd := wd } .ahead) := R_go s i hlt (by rw [HC.out]; exact hF) (by rw [HC.out]; simp only [step]; rw [if_pos hB])
    try clear h34
    try clear h35
    try clear h61
    try clear h92
    try clear h95
    try clear h120
    go_wp2_with (first
      | (go_at_call 13; refine (rfine_ok _ _).mono ?_; rintro e w9 ⟨rfl, rfl⟩; simp only [hF, decide_true])
      | (go_at_call 14; refine (rblank_ok _ _).mono ?_; rintro e w9 ⟨rfl, rfl⟩; simp only [hB, decide_true, decide_false]))
    exact NX.out.hN hlt _ _ { a with cmd := wd } .ahead wd vl hf ⟨rfl, rfl, rfl, rfl, rfl, rfl⟩ ⟨rfl, rfl, rfl, rfl, rfl, by go_num⟩ ⟨lb.cmd wd, by first | omega | (simp only [Acc.opt]; omega), by omega, by omega, hrel2.out, by first | omega | (simp only [Acc.opt, List.length_append, List.length_cons, List.length_nil]; omega), HR.out.trans hgo.out⟩
  · by_cases hL : letter c
    · by_cases h16 : wd.length = 16
      · have l16 : ((wd.length : Int) == 16) = true := by rw [beq_iff_eq]; omega
        have hbd : R s i a (.command wd) = .bad (i + 1) := R_none s i hlt (by rw [HC.out]; simp only [step]; rw [if_neg hB, if_neg (by omega)])
        obtain ⟨p0, p1, p2, q0, q1, q2, r0, r1, r2, _, _, _, _, _, _⟩ := lc.still hsz (.cells #[.int .u8 c] 5)
        try clear h34
        try clear h35
        try clear h61
        try clear h92
        try clear h95
        try clear h120
        go_wp2_with (first
          | (go_at_call 13; refine (rfine_ok _ _).mono ?_; rintro e w9 ⟨rfl, rfl⟩; simp only [hF, decide_true])
          | (go_at_call 14; refine (rblank_ok _ _).mono ?_; rintro e w9 ⟨rfl, rfl⟩; simp only [hB, decide_true, decide_false])
          | (go_at_call 15; refine (rletter_ok _ _).mono ?_; rintro e w9 ⟨rfl, rfl⟩; simp only [hL, decide_true, decide_false]))
        all_goals
          have hzz := (lb.still (World.grownBy_alloc wr (.cells #[.int .u8 c] 5) none)).zero
          exact NX.out.hB _ _ rfl rfl rfl (by go_num) (HP.out.trans (HR.out.trans hbd)) hzz.1 hzz.2
      · have l16 : ((wd.length : Int) == 16) = false := by rw [beq_eq_false_iff_ne]; omega
        have hgo : Hid (R s i a (.command wd) = R s (i + 1) a (.command (wd ++ [c]))) := R_go s i hlt (by rw [HC.out]; exact hF) (by rw [HC.out]; simp only [step]; rw [if_neg hB, if_pos ⟨hL, h16⟩])
        try clear h34
        try clear h35
        try clear h61
        try clear h92
        try clear h95
        try clear h120
        go_wp2_with (first
          | (go_at_call 13; refine (rfine_ok _ _).mono ?_; rintro e w9 ⟨rfl, rfl⟩; simp only [hF, decide_true])
          | (go_at_call 14; refine (rblank_ok _ _).mono ?_; rintro e w9 ⟨rfl, rfl⟩; simp only [hB, decide_true, decide_false])
          | (go_at_call 15; refine (rletter_ok _ _).mono ?_; rintro e w9 ⟨rfl, rfl⟩; simp only [hL, decide_true, decide_false]))
        exact NX.out.hN hlt _ _ a (.command (wd ++ [c])) (wd ++ [c]) vl hf ⟨rfl, rfl, rfl, rfl, rfl, rfl⟩ ⟨rfl, rfl, congrArg Value.string (strOf_append wd [c]), rfl, rfl, by go_num⟩ ⟨lb.still (World.grownBy_alloc wr _ none), by first | omega | (simp only [Acc.opt]; omega), by simp only [List.length_append, List.length_cons, List.length_nil]; omega, by omega, ⟨rfl, hrel2.out⟩, by first | omega | (simp only [Acc.opt, List.length_append, List.length_cons, List.length_nil]; omega), HR.out.trans hgo.out⟩
    · have hbd : R s i a (.command wd) = .bad (i + 1) := R_none s i hlt (by rw [HC.out]; simp only [step]; rw [if_neg hB, if_neg (fun h => hL h.1)])
      obtain ⟨p0, p1, p2, q0, q1, q2, r0, r1, r2, _, _, _, _, _, _⟩ := lc.still hsz (.cells #[.int .u8 c] 5)
      try clear h34
      try clear h35
      try clear h61
      try clear h92
      try clear h95
      try clear h120
      go_wp2_with (first
        | (go_at_call 13; refine (rfine_ok _ _).mono ?_; rintro e w9 ⟨rfl, rfl⟩; simp only [hF, decide_true])
        | (go_at_call 14; refine (rblank_ok _ _).mono ?_; rintro e w9 ⟨rfl, rfl⟩; simp only [hB, decide_true, decide_false])
        | (go_at_call 15; refine (rletter_ok _ _).mono ?_; rintro e w9 ⟨rfl, rfl⟩; simp only [hL, decide_true, decide_false]))
      all_goals
        have hzz := (lb.still (World.grownBy_alloc wr (.cells #[.int .u8 c] 5) none)).zero
        exact NX.out.hB _ _ rfl rfl rfl (by go_num) (HP.out.trans (HR.out.trans hbd)) hzz.1 hzz.2
set_option maxHeartbeats 8000000 in
set_option maxRecDepth 100000 in
theorem end_key (s : ByteArray) (n : Nat) (hn : Hid (s.size = n)) (hmo : n ≤ 4096) (w : World) (HP : Hid (parse s = R s 0 acc0 .ahead)) (C : Code) (hC : (Try.f9.body).bind loopBody = some C) (A : Act) (a : Acc) (i : Nat) (wd vl : List Int) (hf : Int) (wr : World)
    (FX : Fx s w A) (SL : Sl A 4 a.f wd vl hf i) (IV : Iv w s (.key wd) a i wd vl hf wr) (HE : Hid (i = s.size)) (Q : Exit → Act → World → Prop) (NX : Hid (Nx s w i Q)) : C.wp Try.prog Q A wr := by
  obtain rfl : _ = C := Option.some.inj ((rfl : (Try.f9.body).bind loopBody = some _).symm.trans hC)
  clear hC
  obtain ⟨i0, hi, hz0, hz1, hz2⟩ := info_parts info31
  have hsn := hn.out
  obtain ⟨x, hx, hA⟩ := frame9 A FX.d FX.sz
  rw [hA]
  have x0 := (hx 0).trans FX.t0
  have x2 := (hx 2).trans FX.t2
  have x5 := (hx 5).trans FX.t5
  have x6 := (hx 6).trans FX.t6
  have x7 := (hx 7).trans SL.s7
  have x8 := (hx 8).trans SL.s8
  have x9 := (hx 9).trans SL.s9
  have x10 := (hx 10).trans SL.s10
  have x11 := (hx 11).trans SL.s11
  have x12 := (hx 12).trans SL.s12
  rw [x0, x2, x5, x6, x7, x8, x9, x10, x11, x12]
  clear hA hx x0 x2 x5 x6 x7 x8 x9 x10 x11 x12 FX SL A
  have lb := IV.lb
  have hsz := lb.size
  obtain ⟨vp, vc, lc, hrow, hS⟩ := lb.lc
  have haf := IV.af
  have hwl := IV.wlen
  have hvl := IV.vlen
  have hol := IV.ol
  have HR : Hid (R s 0 acc0 .ahead = R s i a (.key wd)) := IV.R
  have hrel2 : Hid (vl = []) := IV.rel.2
  clear IV
  have hsw : (strOfNums wd).size = wd.length := strOfNums_size wd
  have hsv : (strOfNums vl).size = vl.length := strOfNums_size vl
  have hin : i ≤ n := by have := HE.out; omega
  have mw : ¬ 9223372036854775807 < wd.length + 1 := by omega
  have mv : ¬ 9223372036854775807 < vl.length + 1 := by omega
  have qn : decide ((i : Int) ≤ (n : Int)) = true := by simp; omega
  have wri : IntKind.i64.wrap ((i : Int) + 1) = (i : Int) + 1 := by rw [IntKind.wrap_i64]; omega
  have qe : ((i : Int) == (n : Int)) = true := by rw [beq_iff_eq]; have := HE.out; omega
  have hcv := conv1 0
  have hsc : (strOfNums [0]).size = 1 := rfl
  have hbd : R s i a (.key wd) = .bad (i + 1) := R_short s i HE.out rfl
  obtain ⟨p0, p1, p2, q0, q1, q2, r0, r1, r2, _, _, _, _, _, _⟩ := lc.still hsz (.cells #[.int .u8 0] 5)
  try clear h34
  try clear h35
  try clear h61
  try clear h92
  try clear h95
  try clear h120
  go_wp2
  all_goals
    have hzz := (lb.still (World.grownBy_alloc wr (.cells #[.int .u8 0] 5) none)).zero
    exact NX.out.hB _ _ rfl rfl rfl (by go_num) (HP.out.trans (HR.out.trans hbd)) hzz.1 hzz.2
set_option maxHeartbeats 8000000 in
set_option maxRecDepth 100000 in
theorem round_key (s : ByteArray) (n : Nat) (hn : Hid (s.size = n)) (hmo : n ≤ 4096) (w : World) (HP : Hid (parse s = R s 0 acc0 .ahead)) (C : Code) (hC : (Try.f9.body).bind loopBody = some C) (A : Act) (a : Acc) (i : Nat) (wd vl : List Int) (hf : Int) (wr : World)
    (FX : Fx s w A) (SL : Sl A 4 a.f wd vl hf i) (IV : Iv w s (.key wd) a i wd vl hf wr) (hlt : i < s.size) (hF : fine (nx s i)) (Q : Exit → Act → World → Prop) (NX : Hid (Nx s w i Q)) : C.wp Try.prog Q A wr := by
  obtain rfl : _ = C := Option.some.inj ((rfl : (Try.f9.body).bind loopBody = some _).symm.trans hC)
  clear hC
  obtain ⟨i0, hi, hz0, hz1, hz2⟩ := info_parts info31
  have hsn := hn.out
  obtain ⟨x, hx, hA⟩ := frame9 A FX.d FX.sz
  rw [hA]
  have x0 := (hx 0).trans FX.t0
  have x2 := (hx 2).trans FX.t2
  have x5 := (hx 5).trans FX.t5
  have x6 := (hx 6).trans FX.t6
  have x7 := (hx 7).trans SL.s7
  have x8 := (hx 8).trans SL.s8
  have x9 := (hx 9).trans SL.s9
  have x10 := (hx 10).trans SL.s10
  have x11 := (hx 11).trans SL.s11
  have x12 := (hx 12).trans SL.s12
  rw [x0, x2, x5, x6, x7, x8, x9, x10, x11, x12]
  clear hA hx x0 x2 x5 x6 x7 x8 x9 x10 x11 x12 FX SL A
  have lb := IV.lb
  have hsz := lb.size
  obtain ⟨vp, vc, lc, hrow, hS⟩ := lb.lc
  have haf := IV.af
  have hwl := IV.wlen
  have hvl := IV.vlen
  have hol := IV.ol
  have HR : Hid (R s 0 acc0 .ahead = R s i a (.key wd)) := IV.R
  have hrel2 : Hid (vl = []) := IV.rel.2
  clear IV
  have hsw : (strOfNums wd).size = wd.length := strOfNums_size wd
  have hsv : (strOfNums vl).size = vl.length := strOfNums_size vl
  have mw : ¬ 9223372036854775807 < wd.length + 1 := by omega
  have mv : ¬ 9223372036854775807 < vl.length + 1 := by omega
  have qn : decide ((i : Int) ≤ (n : Int)) = true := by simp; omega
  have wri : IntKind.i64.wrap ((i : Int) + 1) = (i : Int) + 1 := by rw [IntKind.wrap_i64]; omega
  have qe : ((i : Int) == (n : Int)) = false := by rw [beq_eq_false_iff_ne]; omega
  obtain ⟨c, hc⟩ : ∃ c, nx s i = c := ⟨_, rfl⟩
  have hcr := nx_range s i
  rw [hc] at hcr hF
  obtain ⟨hc0, hc1⟩ := hcr
  have hcs : ((s[i]'hlt).toNat : Int) = c := by rw [← hc, nx_at s i hlt]
  have HC : Hid (nx s i = c) := hc
  clear hc
  have hcv := conv1 c
  have hsc : (strOfNums [c]).size = 1 := rfl
  by_cases h61 : c = 61
  · have e61 : (c == 61) = true := by rw [beq_iff_eq]; exact h61
    have hB : ¬ blank c := by unfold blank; omega
    have hgo : Hid (R s i a (.key wd) = R s (i + 1) a (.begun wd)) := R_go s i hlt (by rw [HC.out]; exact hF) (by rw [HC.out]; simp only [step]; rw [if_pos h61])
    try clear h34
    try clear h35
    try clear h61
    try clear h92
    try clear h95
    try clear h120
    go_wp2_with (first
      | (go_at_call 13; refine (rfine_ok _ _).mono ?_; rintro e w9 ⟨rfl, rfl⟩; simp only [hF, decide_true])
      | (go_at_call 14; refine (rblank_ok _ _).mono ?_; rintro e w9 ⟨rfl, rfl⟩; simp only [hB, decide_true, decide_false]))
    exact NX.out.hN hlt _ _ a (.begun wd) wd vl hf ⟨rfl, rfl, rfl, rfl, rfl, rfl⟩ ⟨rfl, rfl, rfl, rfl, rfl, by go_num⟩ ⟨lb, by first | omega | (simp only [Acc.opt]; omega), by omega, by omega, ⟨rfl, hrel2.out⟩, by first | omega | (simp only [Acc.opt, List.length_append, List.length_cons, List.length_nil]; omega), HR.out.trans hgo.out⟩
  · have e61 : (c == 61) = false := by rw [beq_eq_false_iff_ne]; exact h61
    by_cases hB : blank c
    · have hL : ¬ letter c := by unfold blank at hB; unfold letter; omega
      have hbd : R s i a (.key wd) = .bad (i + 1) := R_none s i hlt (by rw [HC.out]; simp only [step]; rw [if_neg h61, if_neg (fun h => hL h.1)])
      obtain ⟨p0, p1, p2, q0, q1, q2, r0, r1, r2, _, _, _, _, _, _⟩ := lc.still hsz (.cells #[.int .u8 c] 5)
      try clear h34
      try clear h35
      try clear h61
      try clear h92
      try clear h95
      try clear h120
      go_wp2_with (first
        | (go_at_call 13; refine (rfine_ok _ _).mono ?_; rintro e w9 ⟨rfl, rfl⟩; simp only [hF, decide_true])
        | (go_at_call 14; refine (rblank_ok _ _).mono ?_; rintro e w9 ⟨rfl, rfl⟩; simp only [hB, decide_true, decide_false]))
      all_goals
        have hzz := (lb.still (World.grownBy_alloc wr (.cells #[.int .u8 c] 5) none)).zero
        exact NX.out.hB _ _ rfl rfl rfl (by go_num) (HP.out.trans (HR.out.trans hbd)) hzz.1 hzz.2
    · by_cases hL : letter c
      · by_cases h16 : wd.length = 16
        · have l16 : ((wd.length : Int) == 16) = true := by rw [beq_iff_eq]; omega
          have hbd : R s i a (.key wd) = .bad (i + 1) := R_none s i hlt (by rw [HC.out]; simp only [step]; rw [if_neg h61, if_neg (fun h => h.2 h16)])
          obtain ⟨p0, p1, p2, q0, q1, q2, r0, r1, r2, _, _, _, _, _, _⟩ := lc.still hsz (.cells #[.int .u8 c] 5)
          try clear h34
          try clear h35
          try clear h61
          try clear h92
          try clear h95
          try clear h120
          go_wp2_with (first
            | (go_at_call 13; refine (rfine_ok _ _).mono ?_; rintro e w9 ⟨rfl, rfl⟩; simp only [hF, decide_true])
            | (go_at_call 14; refine (rblank_ok _ _).mono ?_; rintro e w9 ⟨rfl, rfl⟩; simp only [hB, decide_true, decide_false])
            | (go_at_call 15; refine (rletter_ok _ _).mono ?_; rintro e w9 ⟨rfl, rfl⟩; simp only [hL, decide_true, decide_false]))
          all_goals
            have hzz := (lb.still (World.grownBy_alloc wr (.cells #[.int .u8 c] 5) none)).zero
            exact NX.out.hB _ _ rfl rfl rfl (by go_num) (HP.out.trans (HR.out.trans hbd)) hzz.1 hzz.2
        · have l16 : ((wd.length : Int) == 16) = false := by rw [beq_eq_false_iff_ne]; omega
          have hgo : Hid (R s i a (.key wd) = R s (i + 1) a (.key (wd ++ [c]))) := R_go s i hlt (by rw [HC.out]; exact hF) (by rw [HC.out]; simp only [step]; rw [if_neg h61, if_pos ⟨hL, h16⟩])
          try clear h34
          try clear h35
          try clear h61
          try clear h92
          try clear h95
          try clear h120
          go_wp2_with (first
            | (go_at_call 13; refine (rfine_ok _ _).mono ?_; rintro e w9 ⟨rfl, rfl⟩; simp only [hF, decide_true])
            | (go_at_call 14; refine (rblank_ok _ _).mono ?_; rintro e w9 ⟨rfl, rfl⟩; simp only [hB, decide_true, decide_false])
            | (go_at_call 15; refine (rletter_ok _ _).mono ?_; rintro e w9 ⟨rfl, rfl⟩; simp only [hL, decide_true, decide_false]))
          exact NX.out.hN hlt _ _ a (.key (wd ++ [c])) (wd ++ [c]) vl hf ⟨rfl, rfl, rfl, rfl, rfl, rfl⟩ ⟨rfl, rfl, congrArg Value.string (strOf_append wd [c]), rfl, rfl, by go_num⟩ ⟨lb.still (World.grownBy_alloc wr _ none), by first | omega | (simp only [Acc.opt]; omega), by simp only [List.length_append, List.length_cons, List.length_nil]; omega, by omega, ⟨rfl, hrel2.out⟩, by first | omega | (simp only [Acc.opt, List.length_append, List.length_cons, List.length_nil]; omega), HR.out.trans hgo.out⟩
      · have hbd : R s i a (.key wd) = .bad (i + 1) := R_none s i hlt (by rw [HC.out]; simp only [step]; rw [if_neg h61, if_neg (fun h => hL h.1)])
        obtain ⟨p0, p1, p2, q0, q1, q2, r0, r1, r2, _, _, _, _, _, _⟩ := lc.still hsz (.cells #[.int .u8 c] 5)
        try clear h34
        try clear h35
        try clear h61
        try clear h92
        try clear h95
        try clear h120
        go_wp2_with (first
          | (go_at_call 13; refine (rfine_ok _ _).mono ?_; rintro e w9 ⟨rfl, rfl⟩; simp only [hF, decide_true])
          | (go_at_call 14; refine (rblank_ok _ _).mono ?_; rintro e w9 ⟨rfl, rfl⟩; simp only [hB, decide_true, decide_false])
          | (go_at_call 15; refine (rletter_ok _ _).mono ?_; rintro e w9 ⟨rfl, rfl⟩; simp only [hL, decide_true, decide_false]))
        all_goals
          have hzz := (lb.still (World.grownBy_alloc wr (.cells #[.int .u8 c] 5) none)).zero
          exact NX.out.hB _ _ rfl rfl rfl (by go_num) (HP.out.trans (HR.out.trans hbd)) hzz.1 hzz.2
end Go.Proofs.Ytohhjohpdfbdoaa
