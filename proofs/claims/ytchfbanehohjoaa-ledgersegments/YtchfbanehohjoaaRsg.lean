import Derived.Test.YtchfbanehohjoaaSgm
namespace Go.Proofs.Ytchfbanehohjoaa
open Go.RowKit
set_option linter.unusedVariables false
set_option linter.unusedSimpArgs false
theorem sec_pos {U C H K : Int} (hm : mayB U C H K = true) : 0 < secN U C H K := by
  obtain ⟨hu, hh, k1, k2, _, hc, hlt⟩ := mayB_all hm
  have hr := headB_range hh
  unfold secN
  rw [if_pos hm]
  rcases unitB_cases hu with rfl | rfl | rfl | rfl <;> omega
theorem inRow_both (a b : Nat × Nat) : inRowF [a, b] 0 = (if 0 < a.1 then [(0, a.1, a.2)] else []) ++ (if 0 < b.1 then [(a.1, b.1, b.2)] else []) := by simp [inRowF]
theorem lit_row (W : World) (base : Nat) (x : Sg) (h : base ≤ W.heap.size) (g : Nat) (hg : W.heap.size = g) : (W.alloc (.cells #[.int .u64 (x.1 : Nat), .int .u64 (x.2.1 : Nat), .int .u64 (x.2.2 : Nat)] 51)).ownsRow base 51 3 (.slice (some ⟨g, 0, none⟩) 1 1) 1 (sgs [x]) := by
  subst hg
  exact World.ownsRow_lit W #[.int .u64 (x.1 : Nat), .int .u64 (x.2.1 : Nat), .int .u64 (x.2.2 : Nat)] 1 h (by decide) rfl
set_option maxHeartbeats 8000000 in
set_option maxRecDepth 100000 in
theorem rseg_ok (m : Mt) (E : Nat) (h0 : 0 ≤ m.C) (he : m.en ≤ 1000000000000000) (w : World) (hL : Last w m E) : Calls Try.prog 6 #[.agg (mtC m)] w fun e w' => ∃ v, e = .returned v ∧ w'.ownsRow w.heap.size 51 3 v (segF m E).length (sgs (segF m E)) ∧ Below w.heap.size w w' := by
  obtain ⟨i0, hi, hz0, hz1, hz2⟩ := info_parts info51
  have bx : Bx (w.alloc (.cells (mtC m) 36)) w.heap.size m := World.alloc_heap_new w _
  have b0 : Below w.heap.size w (w.alloc (.cells (mtC m) 36)) := (Below.refl _ w).alloc (Nat.le_refl _) _
  have y4 := bx.c 4 (.int .i64 m.U) rfl
  have y5 := bx.c 5 (.int .u64 m.C) rfl
  have y6 := bx.c 6 (.int .i64 m.H) rfl
  have y7 := bx.c 7 (.int .i64 m.K) rfl
  have hS := rsec_ok m.U m.C m.H m.K h0 (w.alloc (.cells (mtC m) 36))
  by_cases hm : mayB m.U m.C m.H m.K = true
  · have hE : secE m.U m.C m.H m.K = 0 := by unfold secE; rw [if_pos hm]
    have hr := sec_range hm h0
    have hp := sec_pos hm
    have hN : secN m.U m.C m.H m.K = ((secM m : Nat) : Int) := by unfold secM; omega
    have hM0 : 0 < secM m := by unfold secM; omega
    rw [hE, hN] at hS
    have hM : secM m ≤ 4294967296 := by unfold secM; omega
    by_cases hen : 0 < m.en
    · have qe : ((m.en : Int) == 0) = false := by rw [beq_eq_false_iff_ne]; omega
      by_cases hon : m.on = true
      · by_cases hd : m.done ≤ secM m
        · have qd : decide (((secM m : Nat) : Int) < (m.done : Int)) = false := by simp; omega
          by_cases hbk : m.back = true
          · obtain ⟨X, hX⟩ : ∃ X, secM m - m.done = X := ⟨_, rfl⟩
            have ws : IntKind.u64.wrap (((secM m : Nat) : Int) - (m.done : Int)) = (X : Int) := by rw [IntKind.wrap_u64]; omega
            have ws2 : IntKind.u64.wrap (((secM m : Nat) : Int) - (X : Int)) = (m.done : Int) := by rw [IntKind.wrap_u64]; omega
            have hF : segF m E = inRowF [(X, m.fr), (m.done, m.to)] 0 := by unfold segF; rw [if_pos ⟨hm, hen⟩, if_pos hon, if_pos hd, if_pos hbk, hX]
            rw [inRow_both] at hF
            simp only at hF
            by_cases hp1 : 0 < X
            · by_cases hq1 : X < secM m
              · have q1 : decide ((0 : Int) < ((X : Nat) : Int)) = true := by simp; omega
                have q2 : decide (((X : Nat) : Int) < ((secM m : Nat) : Int)) = true := by simp; omega
                rw [if_pos hp1, if_pos (by omega)] at hF
                rw [hF]
                clear hF hL
                go_enter Try.func6, Try.ntmps6
                go_wp2_with (first
                  | (go_at_call 12; refine hS.mono ?_; rintro e w1 ⟨he1, b1⟩; subst he1; have bx1 := bx.below b1; have y12 := bx1.c 12 (.slice m.ep m.en m.ec) rfl; have y14 := bx1.c 14 (.bool m.on) rfl; have y15 := bx1.c 15 (.int .u64 (m.fr : Nat)) rfl; have y16 := bx1.c 16 (.int .u64 (m.to : Nat)) rfl; have y17 := bx1.c 17 (.bool m.back) rfl; have y18 := bx1.c 18 (.int .i64 m.mode) rfl; have y19 := bx1.c 19 (.int .u64 m.hot) rfl; have y20 := bx1.c 20 (.int .u64 (m.done : Nat)) rfl; have y21 := bx1.c 21 (.int .i64 m.ao) rfl; have y22 := bx1.c 22 (.int .i64 m.az) rfl; have y23 := bx1.c 23 (.bool m.act) rfl; have y24 := bx1.c 24 (.int .u64 m.cnt) rfl; have y25 := bx1.c 25 (.string m.sum) rfl; have b2 : Below w.heap.size w w1 := b0.trans (b1.mono b0.size); have hs4 := b2.size; have hn1 := three_new (w1.alloc (.cells #[.bool true, .int .u64 (m.fr : Nat), .int .u64 (m.to : Nat), .bool true, .int .i64 m.mode, .int .u64 m.hot, .int .u64 (m.done : Nat), .int .i64 m.ao, .int .i64 m.az, .bool m.act, .int .u64 m.cnt, .string m.sum] 33)) (.int .u64 0) (.int .u64 ((X : Nat) : Int)) (.int .u64 ((m.fr : Nat) : Int)) 51; rw [World.size_alloc] at hn1)
                  | (at_builtin; (refine wpList_append_lies _ rfl (.tmp 72) (.tmp 79) 29 rfl w.heap.size 51 i0 (.agg #[.int .u64 0, .int .u64 0, .int .u64 0]) 3 24 Try.underlying29 hi hz0 hz1 hz2 rfl (by decide) _ 1 _ rfl (hown7.alloc _) ⟨w7.heap.size, 0, none⟩ 1 1 (sgL (X, m.done, m.to)) rfl rfl (three_new w7 _ _ _ _) (by simp [Value.oneCell']) (by decide) (by unfold maxLen; omega) (by omega) (by simp; omega) _ rfl ?_); intro g8 c8 w8 hown8 hgrow8 _ _)
                  | (at_builtin; (refine wpList_append_lies _ rfl (.tmp 63) (.tmp 67) 29 rfl w.heap.size 51 i0 (.agg #[.int .u64 0, .int .u64 0, .int .u64 0]) 3 24 Try.underlying29 hi hz0 hz1 hz2 rfl (by decide) _ 0 [] rfl (World.ownsRow_nil _ _ _ _) ⟨w1.heap.size + 1, 0, none⟩ 1 1 (sgL (0, X, m.fr)) rfl rfl hn1 (by simp [Value.oneCell']) (by decide) (by unfold maxLen; omega) (by omega) (by simp; omega) _ rfl ?_); intro g7 c7 w7 hown7 hgrow7 _ _; have b7 : Below w.heap.size w w7 := ((b2.alloc hs4 _).alloc (by simp; omega) _).grown hgrow7 (by simp; omega) (fun q hq => by cases hq); have hs7 := b7.size))
                go_ret
                exact ⟨_, rfl, hown8, (b7.alloc hs7 _).grown hgrow8 (by simp; omega) (fun q hq => (hown7.lt q hq).1)⟩
              · have q1 : decide ((0 : Int) < ((X : Nat) : Int)) = true := by simp; omega
                have q2 : decide (((X : Nat) : Int) < ((secM m : Nat) : Int)) = false := by simp; omega
                rw [if_pos hp1, if_neg (by omega)] at hF
                rw [hF]
                clear hF hL
                go_enter Try.func6, Try.ntmps6
                go_wp2_with (first
                  | (go_at_call 12; refine hS.mono ?_; rintro e w1 ⟨he1, b1⟩; subst he1; have bx1 := bx.below b1; have y12 := bx1.c 12 (.slice m.ep m.en m.ec) rfl; have y14 := bx1.c 14 (.bool m.on) rfl; have y15 := bx1.c 15 (.int .u64 (m.fr : Nat)) rfl; have y16 := bx1.c 16 (.int .u64 (m.to : Nat)) rfl; have y17 := bx1.c 17 (.bool m.back) rfl; have y18 := bx1.c 18 (.int .i64 m.mode) rfl; have y19 := bx1.c 19 (.int .u64 m.hot) rfl; have y20 := bx1.c 20 (.int .u64 (m.done : Nat)) rfl; have y21 := bx1.c 21 (.int .i64 m.ao) rfl; have y22 := bx1.c 22 (.int .i64 m.az) rfl; have y23 := bx1.c 23 (.bool m.act) rfl; have y24 := bx1.c 24 (.int .u64 m.cnt) rfl; have y25 := bx1.c 25 (.string m.sum) rfl; have b2 : Below w.heap.size w w1 := b0.trans (b1.mono b0.size); have hs4 := b2.size; have hn1 := three_new (w1.alloc (.cells #[.bool true, .int .u64 (m.fr : Nat), .int .u64 (m.to : Nat), .bool true, .int .i64 m.mode, .int .u64 m.hot, .int .u64 (m.done : Nat), .int .i64 m.ao, .int .i64 m.az, .bool m.act, .int .u64 m.cnt, .string m.sum] 33)) (.int .u64 0) (.int .u64 ((X : Nat) : Int)) (.int .u64 ((m.fr : Nat) : Int)) 51; rw [World.size_alloc] at hn1)
                  | (at_builtin; (refine wpList_append_lies _ rfl (.tmp 63) (.tmp 67) 29 rfl w.heap.size 51 i0 (.agg #[.int .u64 0, .int .u64 0, .int .u64 0]) 3 24 Try.underlying29 hi hz0 hz1 hz2 rfl (by decide) _ 0 [] rfl (World.ownsRow_nil _ _ _ _) ⟨w1.heap.size + 1, 0, none⟩ 1 1 (sgL (0, X, m.fr)) rfl rfl hn1 (by simp [Value.oneCell']) (by decide) (by unfold maxLen; omega) (by omega) (by simp; omega) _ rfl ?_); intro g7 c7 w7 hown7 hgrow7 _ _; have b7 : Below w.heap.size w w7 := ((b2.alloc hs4 _).alloc (by simp; omega) _).grown hgrow7 (by simp; omega) (fun q hq => by cases hq); have hs7 := b7.size))
                go_ret
                exact ⟨_, rfl, hown7, b7⟩
            · have q1 : decide ((0 : Int) < ((X : Nat) : Int)) = false := by simp; omega
              have q2 : decide (((X : Nat) : Int) < ((secM m : Nat) : Int)) = true := by simp; omega
              rw [if_neg hp1, if_pos (by omega)] at hF
              rw [hF]
              clear hF hL
              go_enter Try.func6, Try.ntmps6
              go_wp2_with (first
                | (go_at_call 12; refine hS.mono ?_; rintro e w1 ⟨he1, b1⟩; subst he1; have bx1 := bx.below b1; have y12 := bx1.c 12 (.slice m.ep m.en m.ec) rfl; have y14 := bx1.c 14 (.bool m.on) rfl; have y15 := bx1.c 15 (.int .u64 (m.fr : Nat)) rfl; have y16 := bx1.c 16 (.int .u64 (m.to : Nat)) rfl; have y17 := bx1.c 17 (.bool m.back) rfl; have y18 := bx1.c 18 (.int .i64 m.mode) rfl; have y19 := bx1.c 19 (.int .u64 m.hot) rfl; have y20 := bx1.c 20 (.int .u64 (m.done : Nat)) rfl; have y21 := bx1.c 21 (.int .i64 m.ao) rfl; have y22 := bx1.c 22 (.int .i64 m.az) rfl; have y23 := bx1.c 23 (.bool m.act) rfl; have y24 := bx1.c 24 (.int .u64 m.cnt) rfl; have y25 := bx1.c 25 (.string m.sum) rfl; have b2 : Below w.heap.size w w1 := b0.trans (b1.mono b0.size); have hs4 := b2.size; have hn1 := three_new (w1.alloc (.cells #[.bool true, .int .u64 (m.fr : Nat), .int .u64 (m.to : Nat), .bool true, .int .i64 m.mode, .int .u64 m.hot, .int .u64 (m.done : Nat), .int .i64 m.ao, .int .i64 m.az, .bool m.act, .int .u64 m.cnt, .string m.sum] 33)) (.int .u64 ((X : Nat) : Int)) (.int .u64 ((m.done : Nat) : Int)) (.int .u64 ((m.to : Nat) : Int)) 51; rw [World.size_alloc] at hn1)
                | (at_builtin; (refine wpList_append_lies _ rfl (.tmp 72) (.tmp 79) 29 rfl w.heap.size 51 i0 (.agg #[.int .u64 0, .int .u64 0, .int .u64 0]) 3 24 Try.underlying29 hi hz0 hz1 hz2 rfl (by decide) _ 0 [] rfl (World.ownsRow_nil _ _ _ _) ⟨w1.heap.size + 1, 0, none⟩ 1 1 (sgL (X, m.done, m.to)) rfl rfl hn1 (by simp [Value.oneCell']) (by decide) (by unfold maxLen; omega) (by omega) (by simp; omega) _ rfl ?_); intro g7 c7 w7 hown7 hgrow7 _ _; have b7 : Below w.heap.size w w7 := ((b2.alloc hs4 _).alloc (by simp; omega) _).grown hgrow7 (by simp; omega) (fun q hq => by cases hq)))
              go_ret
              exact ⟨_, rfl, hown7, b7⟩
          · obtain ⟨X, hX⟩ : ∃ X, secM m - m.done = X := ⟨_, rfl⟩
            have ws : IntKind.u64.wrap (((secM m : Nat) : Int) - (m.done : Int)) = (X : Int) := by rw [IntKind.wrap_u64]; omega
            have hbk2 : m.back = false := by simpa using hbk
            have hF : segF m E = inRowF [(m.done, m.to), (X, m.fr)] 0 := by unfold segF; rw [if_pos ⟨hm, hen⟩, if_pos hon, if_pos hd, if_neg hbk, hX]
            clear hbk
            rw [inRow_both] at hF
            simp only at hF
            by_cases hp1 : 0 < m.done
            · by_cases hq1 : m.done < secM m
              · have q1 : decide ((0 : Int) < ((m.done : Nat) : Int)) = true := by simp; omega
                have q2 : decide (((m.done : Nat) : Int) < ((secM m : Nat) : Int)) = true := by simp; omega
                rw [if_pos hp1, if_pos (by omega)] at hF
                rw [hF]
                clear hF hL
                go_enter Try.func6, Try.ntmps6
                go_wp2_with (first
                  | (go_at_call 12; refine hS.mono ?_; rintro e w1 ⟨he1, b1⟩; subst he1; have bx1 := bx.below b1; have y12 := bx1.c 12 (.slice m.ep m.en m.ec) rfl; have y14 := bx1.c 14 (.bool m.on) rfl; have y15 := bx1.c 15 (.int .u64 (m.fr : Nat)) rfl; have y16 := bx1.c 16 (.int .u64 (m.to : Nat)) rfl; have y17 := bx1.c 17 (.bool m.back) rfl; have y18 := bx1.c 18 (.int .i64 m.mode) rfl; have y19 := bx1.c 19 (.int .u64 m.hot) rfl; have y20 := bx1.c 20 (.int .u64 (m.done : Nat)) rfl; have y21 := bx1.c 21 (.int .i64 m.ao) rfl; have y22 := bx1.c 22 (.int .i64 m.az) rfl; have y23 := bx1.c 23 (.bool m.act) rfl; have y24 := bx1.c 24 (.int .u64 m.cnt) rfl; have y25 := bx1.c 25 (.string m.sum) rfl; have b2 : Below w.heap.size w w1 := b0.trans (b1.mono b0.size); have hs4 := b2.size; have hn1 := three_new (w1.alloc (.cells #[.bool true, .int .u64 (m.fr : Nat), .int .u64 (m.to : Nat), .bool false, .int .i64 m.mode, .int .u64 m.hot, .int .u64 (m.done : Nat), .int .i64 m.ao, .int .i64 m.az, .bool m.act, .int .u64 m.cnt, .string m.sum] 33)) (.int .u64 0) (.int .u64 ((m.done : Nat) : Int)) (.int .u64 ((m.to : Nat) : Int)) 51; rw [World.size_alloc] at hn1)
                  | (at_builtin; (refine wpList_append_lies _ rfl (.tmp 72) (.tmp 79) 29 rfl w.heap.size 51 i0 (.agg #[.int .u64 0, .int .u64 0, .int .u64 0]) 3 24 Try.underlying29 hi hz0 hz1 hz2 rfl (by decide) _ 1 _ rfl (hown7.alloc _) ⟨w7.heap.size, 0, none⟩ 1 1 (sgL (m.done, X, m.fr)) rfl rfl (three_new w7 _ _ _ _) (by simp [Value.oneCell']) (by decide) (by unfold maxLen; omega) (by omega) (by simp; omega) _ rfl ?_); intro g8 c8 w8 hown8 hgrow8 _ _)
                  | (at_builtin; (refine wpList_append_lies _ rfl (.tmp 63) (.tmp 67) 29 rfl w.heap.size 51 i0 (.agg #[.int .u64 0, .int .u64 0, .int .u64 0]) 3 24 Try.underlying29 hi hz0 hz1 hz2 rfl (by decide) _ 0 [] rfl (World.ownsRow_nil _ _ _ _) ⟨w1.heap.size + 1, 0, none⟩ 1 1 (sgL (0, m.done, m.to)) rfl rfl hn1 (by simp [Value.oneCell']) (by decide) (by unfold maxLen; omega) (by omega) (by simp; omega) _ rfl ?_); intro g7 c7 w7 hown7 hgrow7 _ _; have b7 : Below w.heap.size w w7 := ((b2.alloc hs4 _).alloc (by simp; omega) _).grown hgrow7 (by simp; omega) (fun q hq => by cases hq); have hs7 := b7.size))
                go_ret
                exact ⟨_, rfl, hown8, (b7.alloc hs7 _).grown hgrow8 (by simp; omega) (fun q hq => (hown7.lt q hq).1)⟩
              · have q1 : decide ((0 : Int) < ((m.done : Nat) : Int)) = true := by simp; omega
                have q2 : decide (((m.done : Nat) : Int) < ((secM m : Nat) : Int)) = false := by simp; omega
                rw [if_pos hp1, if_neg (by omega)] at hF
                rw [hF]
                clear hF hL
                go_enter Try.func6, Try.ntmps6
                go_wp2_with (first
                  | (go_at_call 12; refine hS.mono ?_; rintro e w1 ⟨he1, b1⟩; subst he1; have bx1 := bx.below b1; have y12 := bx1.c 12 (.slice m.ep m.en m.ec) rfl; have y14 := bx1.c 14 (.bool m.on) rfl; have y15 := bx1.c 15 (.int .u64 (m.fr : Nat)) rfl; have y16 := bx1.c 16 (.int .u64 (m.to : Nat)) rfl; have y17 := bx1.c 17 (.bool m.back) rfl; have y18 := bx1.c 18 (.int .i64 m.mode) rfl; have y19 := bx1.c 19 (.int .u64 m.hot) rfl; have y20 := bx1.c 20 (.int .u64 (m.done : Nat)) rfl; have y21 := bx1.c 21 (.int .i64 m.ao) rfl; have y22 := bx1.c 22 (.int .i64 m.az) rfl; have y23 := bx1.c 23 (.bool m.act) rfl; have y24 := bx1.c 24 (.int .u64 m.cnt) rfl; have y25 := bx1.c 25 (.string m.sum) rfl; have b2 : Below w.heap.size w w1 := b0.trans (b1.mono b0.size); have hs4 := b2.size; have hn1 := three_new (w1.alloc (.cells #[.bool true, .int .u64 (m.fr : Nat), .int .u64 (m.to : Nat), .bool false, .int .i64 m.mode, .int .u64 m.hot, .int .u64 (m.done : Nat), .int .i64 m.ao, .int .i64 m.az, .bool m.act, .int .u64 m.cnt, .string m.sum] 33)) (.int .u64 0) (.int .u64 ((m.done : Nat) : Int)) (.int .u64 ((m.to : Nat) : Int)) 51; rw [World.size_alloc] at hn1)
                  | (at_builtin; (refine wpList_append_lies _ rfl (.tmp 63) (.tmp 67) 29 rfl w.heap.size 51 i0 (.agg #[.int .u64 0, .int .u64 0, .int .u64 0]) 3 24 Try.underlying29 hi hz0 hz1 hz2 rfl (by decide) _ 0 [] rfl (World.ownsRow_nil _ _ _ _) ⟨w1.heap.size + 1, 0, none⟩ 1 1 (sgL (0, m.done, m.to)) rfl rfl hn1 (by simp [Value.oneCell']) (by decide) (by unfold maxLen; omega) (by omega) (by simp; omega) _ rfl ?_); intro g7 c7 w7 hown7 hgrow7 _ _; have b7 : Below w.heap.size w w7 := ((b2.alloc hs4 _).alloc (by simp; omega) _).grown hgrow7 (by simp; omega) (fun q hq => by cases hq); have hs7 := b7.size))
                go_ret
                exact ⟨_, rfl, hown7, b7⟩
            · have q1 : decide ((0 : Int) < ((m.done : Nat) : Int)) = false := by simp; omega
              have q2 : decide (((m.done : Nat) : Int) < ((secM m : Nat) : Int)) = true := by simp; omega
              rw [if_neg hp1, if_pos (by omega)] at hF
              rw [hF]
              clear hF hL
              go_enter Try.func6, Try.ntmps6
              go_wp2_with (first
                | (go_at_call 12; refine hS.mono ?_; rintro e w1 ⟨he1, b1⟩; subst he1; have bx1 := bx.below b1; have y12 := bx1.c 12 (.slice m.ep m.en m.ec) rfl; have y14 := bx1.c 14 (.bool m.on) rfl; have y15 := bx1.c 15 (.int .u64 (m.fr : Nat)) rfl; have y16 := bx1.c 16 (.int .u64 (m.to : Nat)) rfl; have y17 := bx1.c 17 (.bool m.back) rfl; have y18 := bx1.c 18 (.int .i64 m.mode) rfl; have y19 := bx1.c 19 (.int .u64 m.hot) rfl; have y20 := bx1.c 20 (.int .u64 (m.done : Nat)) rfl; have y21 := bx1.c 21 (.int .i64 m.ao) rfl; have y22 := bx1.c 22 (.int .i64 m.az) rfl; have y23 := bx1.c 23 (.bool m.act) rfl; have y24 := bx1.c 24 (.int .u64 m.cnt) rfl; have y25 := bx1.c 25 (.string m.sum) rfl; have b2 : Below w.heap.size w w1 := b0.trans (b1.mono b0.size); have hs4 := b2.size; have hn1 := three_new (w1.alloc (.cells #[.bool true, .int .u64 (m.fr : Nat), .int .u64 (m.to : Nat), .bool false, .int .i64 m.mode, .int .u64 m.hot, .int .u64 (m.done : Nat), .int .i64 m.ao, .int .i64 m.az, .bool m.act, .int .u64 m.cnt, .string m.sum] 33)) (.int .u64 ((m.done : Nat) : Int)) (.int .u64 ((X : Nat) : Int)) (.int .u64 ((m.fr : Nat) : Int)) 51; rw [World.size_alloc] at hn1)
                | (at_builtin; (refine wpList_append_lies _ rfl (.tmp 72) (.tmp 79) 29 rfl w.heap.size 51 i0 (.agg #[.int .u64 0, .int .u64 0, .int .u64 0]) 3 24 Try.underlying29 hi hz0 hz1 hz2 rfl (by decide) _ 0 [] rfl (World.ownsRow_nil _ _ _ _) ⟨w1.heap.size + 1, 0, none⟩ 1 1 (sgL (m.done, X, m.fr)) rfl rfl hn1 (by simp [Value.oneCell']) (by decide) (by unfold maxLen; omega) (by omega) (by simp; omega) _ rfl ?_); intro g7 c7 w7 hown7 hgrow7 _ _; have b7 : Below w.heap.size w w7 := ((b2.alloc hs4 _).alloc (by simp; omega) _).grown hgrow7 (by simp; omega) (fun q hq => by cases hq)))
              go_ret
              exact ⟨_, rfl, hown7, b7⟩
        · have hF : segF m E = [] := by unfold segF; rw [if_pos ⟨hm, hen⟩, if_pos hon, if_neg hd]
          have qd : decide (((secM m : Nat) : Int) < (m.done : Int)) = true := by simp; omega
          rw [hF]
          clear hF
          go_enter Try.func6, Try.ntmps6
          go_wp2_with (go_at_call 12; refine hS.mono ?_; rintro e w1 ⟨he1, b1⟩; subst he1; have bx1 := bx.below b1; have y12 := bx1.c 12 (.slice m.ep m.en m.ec) rfl; have y14 := bx1.c 14 (.bool m.on) rfl; have y15 := bx1.c 15 (.int .u64 (m.fr : Nat)) rfl; have y16 := bx1.c 16 (.int .u64 (m.to : Nat)) rfl; have y17 := bx1.c 17 (.bool m.back) rfl; have y18 := bx1.c 18 (.int .i64 m.mode) rfl; have y19 := bx1.c 19 (.int .u64 m.hot) rfl; have y20 := bx1.c 20 (.int .u64 (m.done : Nat)) rfl; have y21 := bx1.c 21 (.int .i64 m.ao) rfl; have y22 := bx1.c 22 (.int .i64 m.az) rfl; have y23 := bx1.c 23 (.bool m.act) rfl; have y24 := bx1.c 24 (.int .u64 m.cnt) rfl; have y25 := bx1.c 25 (.string m.sum) rfl; have b2 : Below w.heap.size w w1 := b0.trans (b1.mono b0.size))
          go_ret
          exact ⟨_, rfl, World.ownsRow_nil _ _ _ _, b2.alloc b2.size _⟩
      · have hF : segF m E = [(0, secM m, E)] := by unfold segF; rw [if_pos ⟨hm, hen⟩, if_neg hon]; simp [inRowF, hM0]
        have hon2 : m.on = false := by simpa using hon
        clear hon
        rw [hF]
        clear hF
        obtain ⟨bb, off, hep, hbb, hcell⟩ := hL hen
        have qi : IntKind.i64.wrap ((m.en : Int) - 1) = (m.en : Int) - 1 := by rw [IntKind.wrap_i64]; omega
        have qj : ((m.en : Int) - 1).toNat = m.en - 1 := by omega
        have qk : (m.en : Int) - 1 < (m.en : Int) := by omega
        have ql : (0 : Int) ≤ (m.en : Int) - 1 := by omega
        go_enter Try.func6, Try.ntmps6
        go_wp2_with (go_at_call 12; refine hS.mono ?_; rintro e w1 ⟨he1, b1⟩; subst he1; have bx1 := bx.below b1; have y12 := bx1.c 12 (.slice m.ep m.en m.ec) rfl; have y14 := bx1.c 14 (.bool m.on) rfl; have y15 := bx1.c 15 (.int .u64 (m.fr : Nat)) rfl; have y16 := bx1.c 16 (.int .u64 (m.to : Nat)) rfl; have y17 := bx1.c 17 (.bool m.back) rfl; have y18 := bx1.c 18 (.int .i64 m.mode) rfl; have y19 := bx1.c 19 (.int .u64 m.hot) rfl; have y20 := bx1.c 20 (.int .u64 (m.done : Nat)) rfl; have y21 := bx1.c 21 (.int .i64 m.ao) rfl; have y22 := bx1.c 22 (.int .i64 m.az) rfl; have y23 := bx1.c 23 (.bool m.act) rfl; have y24 := bx1.c 24 (.int .u64 m.cnt) rfl; have y25 := bx1.c 25 (.string m.sum) rfl; have b2 : Below w.heap.size w w1 := b0.trans (b1.mono b0.size); have y12b : (w1.alloc (.cells #[.bool false, .int .u64 (m.fr : Nat), .int .u64 (m.to : Nat), .bool m.back, .int .i64 m.mode, .int .u64 m.hot, .int .u64 (m.done : Nat), .int .i64 m.ao, .int .i64 m.az, .bool m.act, .int .u64 m.cnt, .string m.sum] 33)).cell? ⟨w.heap.size, 12, none⟩ = some (.slice m.ep m.en m.ec) := (World.grownBy_alloc w1 _ none).cell y12 (by simp); have yE : (w1.alloc (.cells #[.bool false, .int .u64 (m.fr : Nat), .int .u64 (m.to : Nat), .bool m.back, .int .i64 m.mode, .int .u64 m.hot, .int .u64 (m.done : Nat), .int .i64 m.ao, .int .i64 m.az, .bool m.act, .int .u64 m.cnt, .string m.sum] 33)).cell? ⟨bb, off + (m.en - 1) * 5, none⟩ = some (.int .u64 (E : Nat)) := (World.grownBy_alloc w1 _ none).cell ((b2.cell (p := ⟨bb, off + (m.en - 1) * 5, none⟩) hbb).trans hcell) (by simp))
        go_ret
        have hs4 := b2.size
        have hb4 := b2.alloc hs4 (.cells #[.bool false, .int .u64 (m.fr : Nat), .int .u64 (m.to : Nat), .bool m.back, .int .i64 m.mode, .int .u64 m.hot, .int .u64 (m.done : Nat), .int .i64 m.ao, .int .i64 m.az, .bool m.act, .int .u64 m.cnt, .string m.sum] 33)
        refine ⟨_, rfl, ?_, hb4.alloc (by simp; omega) _⟩
        exact lit_row (w1.alloc (.cells #[.bool false, .int .u64 (m.fr : Nat), .int .u64 (m.to : Nat), .bool m.back, .int .i64 m.mode, .int .u64 m.hot, .int .u64 (m.done : Nat), .int .i64 m.ao, .int .i64 m.az, .bool m.act, .int .u64 m.cnt, .string m.sum] 33)) w.heap.size (0, secM m, E) (by simp; omega) _ (by simp)
    · have hF : segF m E = [] := by unfold segF; rw [if_neg (fun h => hen h.2)]
      have qe : ((m.en : Int) == 0) = true := by rw [beq_iff_eq]; omega
      rw [hF]
      clear hF
      go_enter Try.func6, Try.ntmps6
      go_wp2_with (go_at_call 12; refine hS.mono ?_; rintro e w1 ⟨he1, b1⟩; subst he1; have bx1 := bx.below b1; have y12 := bx1.c 12 (.slice m.ep m.en m.ec) rfl; have y14 := bx1.c 14 (.bool m.on) rfl; have y15 := bx1.c 15 (.int .u64 (m.fr : Nat)) rfl; have y16 := bx1.c 16 (.int .u64 (m.to : Nat)) rfl; have y17 := bx1.c 17 (.bool m.back) rfl; have y18 := bx1.c 18 (.int .i64 m.mode) rfl; have y19 := bx1.c 19 (.int .u64 m.hot) rfl; have y20 := bx1.c 20 (.int .u64 (m.done : Nat)) rfl; have y21 := bx1.c 21 (.int .i64 m.ao) rfl; have y22 := bx1.c 22 (.int .i64 m.az) rfl; have y23 := bx1.c 23 (.bool m.act) rfl; have y24 := bx1.c 24 (.int .u64 m.cnt) rfl; have y25 := bx1.c 25 (.string m.sum) rfl; have b2 : Below w.heap.size w w1 := b0.trans (b1.mono b0.size))
      go_ret
      exact ⟨_, rfl, World.ownsRow_nil _ _ _ _, b2⟩
  · have hE : secE m.U m.C m.H m.K = 90 := by unfold secE; rw [if_neg hm]
    have hF : segF m E = [] := by unfold segF; rw [if_neg (fun h => hm h.1)]
    rw [hE] at hS
    rw [hF]
    clear hF
    go_enter Try.func6, Try.ntmps6
    go_wp2_with (go_at_call 12; refine hS.mono ?_; rintro e w1 ⟨he1, b1⟩; subst he1; have bx1 := bx.below b1; have y12 := bx1.c 12 (.slice m.ep m.en m.ec) rfl; have y14 := bx1.c 14 (.bool m.on) rfl; have y15 := bx1.c 15 (.int .u64 (m.fr : Nat)) rfl; have y16 := bx1.c 16 (.int .u64 (m.to : Nat)) rfl; have y17 := bx1.c 17 (.bool m.back) rfl; have y18 := bx1.c 18 (.int .i64 m.mode) rfl; have y19 := bx1.c 19 (.int .u64 m.hot) rfl; have y20 := bx1.c 20 (.int .u64 (m.done : Nat)) rfl; have y21 := bx1.c 21 (.int .i64 m.ao) rfl; have y22 := bx1.c 22 (.int .i64 m.az) rfl; have y23 := bx1.c 23 (.bool m.act) rfl; have y24 := bx1.c 24 (.int .u64 m.cnt) rfl; have y25 := bx1.c 25 (.string m.sum) rfl; have b2 : Below w.heap.size w w1 := b0.trans (b1.mono b0.size))
    go_ret
    exact ⟨_, rfl, World.ownsRow_nil _ _ _ _, b2⟩
end Go.Proofs.Ytchfbanehohjoaa
