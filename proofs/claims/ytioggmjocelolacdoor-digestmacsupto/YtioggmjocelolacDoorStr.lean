import Derived.Test.YtioggmjocelolacDoorStl
import Derived.Test.YtioggmjocelolacDoorStk
namespace Go.Proofs.YtioggmjocelolacDoor
open Go.RowKit
set_option linter.unusedVariables false
set_option linter.unusedSimpArgs false
set_option maxHeartbeats 6400000 in
set_option maxRecDepth 100000 in
theorem plays_t (B t left : Nat) (d : Nat → Sl) (kv wv : Value) (ts : List (Value × Value × List Int)) (ok oa of oh : Int) (ka : Option Addr) (kn kc : Nat) (key : List Int) (pa : Option Addr) (pn pc : Nat) (xs : List Value) (yss : List (List Int)) (u : World) (h0 : TSD u B t true d kv wv ts left) (hT : Tbs u) (hB : 4 ≤ B) (hBu : B ≤ u.heap.size) (hn : ts.length ≤ 99)
    (hP : ∀ v, Below B u v → PV v (.slice pa pn pc) xs yss) (hxn : xs.length = pn) (hs : yss.flatten.length ≤ 1048576) (hpn : pn ≤ 1048576) (hkey : (∀ v, Below B u v → View v (.slice ka kn kc) key) ∧ key.length = kn ∧ kn ≤ 1048576 ∧ (key ≠ [] → ∀ b, b ∈ vblk (.slice ka kn kc) → b < B)) :
    Calls Tryd.prog 48 #[.pointer (some ⟨t, 0, none⟩), .agg #[.int .i64 ok, .int .i64 oa, .int .i64 of, .int .i64 oh, (.slice ka kn kc), .slice pa pn pc], .bool true] u (StepP B t true ts.length u) := by
  have hb1 : Below u.heap.size u (u.alloc (.cells #[.int .i64 ok, .int .i64 oa, .int .i64 of, .int .i64 oh, (.slice ka kn kc), .slice pa pn pc] 92)) := (Below.refl _ _).alloc (Nat.le_refl _) _
  have H1 : Hid (TSD (u.alloc (.cells #[.int .i64 ok, .int .i64 oa, .int .i64 of, .int .i64 oh, (.slice ka kn kc), .slice pa pn pc] 92)) B t true d kv wv ts left) := h0.below hb1
  have HBu : Hid (B ≤ u.heap.size) := hBu
  have HB4 : Hid (4 ≤ B) := hB
  have HB1 : Hid (Below B u (u.alloc (.cells #[.int .i64 ok, .int .i64 oa, .int .i64 of, .int .i64 oh, (.slice ka kn kc), .slice pa pn pc] 92))) := hb1.mono hBu
  have HP : Hid (∀ v, Below B u v → PV v (.slice pa pn pc) xs yss) := hP
  have HXN : Hid (xs.length = pn) := hxn
  have HS : Hid (yss.flatten.length ≤ 1048576) := hs
  have HTb : Hid (Tbs (u.alloc (.cells #[.int .i64 ok, .int .i64 oa, .int .i64 of, .int .i64 oh, (.slice ka kn kc), .slice pa pn pc] 92))) := hT.below (hb1.mono hBu) hB
  have HN : Hid (ts.length ≤ 99) := hn
  have HKEY : Hid ((∀ v, Below B u v → View v (.slice ka kn kc) key) ∧ key.length = kn ∧ kn ≤ 1048576 ∧ (key ≠ [] → ∀ b, b ∈ vblk (.slice ka kn kc) → b < B)) := hkey
  clear hkey
  have HRG : Hid ((u.alloc (.cells #[.int .i64 ok, .int .i64 oa, .int .i64 of, .int .i64 oh, (.slice ka kn kc), .slice pa pn pc] 92)).rangeAt u.heap.size 0 [.int .i64 ok, .int .i64 oa, .int .i64 of, .int .i64 oh, (.slice ka kn kc), .slice pa pn pc]) := fun j v hv => by
    rw [World.cell?_alloc_at _ 92 _ _ rfl, Nat.zero_add]
    simpa using hv
  have HC : Hid ((u.alloc (.cells #[.int .i64 ok, .int .i64 oa, .int .i64 of, .int .i64 oh, (.slice ka kn kc), .slice pa pn pc] 92)).cell? ⟨u.heap.size, 0, none⟩ = some (.int .i64 ok) ∧ (u.alloc (.cells #[.int .i64 ok, .int .i64 oa, .int .i64 of, .int .i64 oh, (.slice ka kn kc), .slice pa pn pc] 92)).cell? ⟨u.heap.size, 1, none⟩ = some (.int .i64 oa) ∧ (u.alloc (.cells #[.int .i64 ok, .int .i64 oa, .int .i64 of, .int .i64 oh, (.slice ka kn kc), .slice pa pn pc] 92)).cell? ⟨u.heap.size, 2, none⟩ = some (.int .i64 of) ∧ (u.alloc (.cells #[.int .i64 ok, .int .i64 oa, .int .i64 of, .int .i64 oh, (.slice ka kn kc), .slice pa pn pc] 92)).cell? ⟨u.heap.size, 3, none⟩ = some (.int .i64 oh) ∧ (u.alloc (.cells #[.int .i64 ok, .int .i64 oa, .int .i64 of, .int .i64 oh, (.slice ka kn kc), .slice pa pn pc] 92)).cell? ⟨u.heap.size, 4, none⟩ = some (.slice ka kn kc) ∧ (u.alloc (.cells #[.int .i64 ok, .int .i64 oa, .int .i64 of, .int .i64 oh, (.slice ka kn kc), .slice pa pn pc] 92)).cell? ⟨u.heap.size, 5, none⟩ = some (.slice pa pn pc)) := ⟨HRG.out 0 _ rfl, HRG.out 1 _ rfl, HRG.out 2 _ rfl, HRG.out 3 _ rfl, HRG.out 4 _ rfl, HRG.out 5 _ rfl⟩
  clear h0 hT hB hBu hb1 hP hxn hs hn
  go_enter Tryd.func48, Tryd.ntmps48
  go_upto_region 1 with fail
  obtain ⟨OL, HOL⟩ : ∃ L : List Value, Hid (L = [.int .i64 ok, .int .i64 oa, .int .i64 of, .int .i64 oh, (.slice ka kn kc), .slice pa pn pc]) := ⟨_, rfl⟩
  rw [← HOL.out] at HRG
  have HOA : Hid (OL.toArray = #[.int .i64 ok, .int .i64 oa, .int .i64 of, .int .i64 oh, (.slice ka kn kc), .slice pa pn pc]) := by show _ = _; rw [HOL.out]
  have H92 : Hid ((Tryd.prog.info? 92).map (·.size) = some OL.length) := by show _ = _; rw [HOL.out]; exact size92o
  have HSz : Hid (B ≤ (u.alloc (.cells #[.int .i64 ok, .int .i64 oa, .int .i64 of, .int .i64 oh, (.slice ka kn kc), .slice pa pn pc] 92)).heap.size) := Nat.le_trans HBu.out HB1.out.size
  generalize (u.alloc (.cells #[.int .i64 ok, .int .i64 oa, .int .i64 of, .int .i64 oh, (.slice ka kn kc), .slice pa pn pc] 92)) = w1 at H1 HB1 HTb HRG HC HSz ⊢
  obtain ⟨hc0, hc1, hc2, hc3, hc4, hc5⟩ := HC.out
  clear HC
  go_wp2_with (first | (go_at_call 67; refine (place_p _ _).mono ?_))
  intro e1 w1' hp1
  obtain ⟨i, hi, rfl, hw1⟩ := hp1
  obtain rfl := hw1.symm
  clear hw1
  go_wp2_with (first | (go_at_call 67; refine (place_p _ _).mono ?_))
  intro e2 w1'' hp2
  obtain ⟨j, hj, rfl, hw2⟩ := hp2
  obtain rfl := hw2.symm
  clear hw2
  have HI3 : Hid (i < 3) := hi
  have HJ3 : Hid (j < 3) := hj
  have hi3 : ((i : Nat) : Int) < 3 := by omega
  have hj3 : ((j : Nat) : Int) < 3 := by omega
  by_cases k1 : ok = 1
  · subst k1
    have KW : Hid (Calls Tryd.prog 68 #[.pointer (some ⟨t, 0, none⟩), .int .i64 (i : Nat), .agg #[.int .i64 1, .int .i64 oa, .int .i64 of, .int .i64 oh, .slice ka kn kc, .slice pa pn pc]] w1 (StepP B t true ts.length w1)) :=
      keyed_ok B t i left d kv wv ts 1 oa of oh ka kn kc (.slice pa pn pc) key w1 H1.out hi HTb.out HB4.out HSz.out (fun v hv => HKEY.out.1 v (HB1.out.trans hv)) HKEY.out.2.1 HKEY.out.2.2.1 HKEY.out.2.2.2
    go_wp2_with (first
      | (go_at_call 68; refine KW.out.mono ?_))
    intro e3 w3 hp3
    obtain ⟨rfl, hp4⟩ := hp3
    go_wp2
    go_ret
    exact StepP.from ⟨rfl, hp4⟩ HB1.out
  · have k1' : (ok == 1) = false := by simpa using k1
    by_cases k2 : ok = 2
    · subst k2
      have KW : Hid (Calls Tryd.prog 70 #[.pointer (some ⟨t, 0, none⟩), .int .i64 (i : Nat), .agg #[.int .i64 2, .int .i64 oa, .int .i64 of, .int .i64 oh, (.slice ka kn kc), .slice pa pn pc], .bool true] w1 (StepP B t true ts.length w1)) :=
        writes_t B t i left d kv wv ts 2 oa of oh (.slice ka kn kc) pa pn pc xs yss w1 H1.out hi HTb.out HB4.out HSz.out (fun v hv => HP.out v (HB1.out.trans hv)) HXN.out HS.out hpn
      go_wp2_with (first
        | (go_at_call 70; refine KW.out.mono ?_))
      intro e3 w3 hp3
      obtain ⟨rfl, hp4⟩ := hp3
      go_wp2
      go_ret
      exact StepP.from ⟨rfl, hp4⟩ HB1.out
    · have k2' : (ok == 2) = false := by simpa using k2
      by_cases k3 : ok = 3
      · subst k3
        have hcp : w1.cell? ⟨t, 3 + i, none⟩ = some (gp (d i).g) := H1.out.s.cm i hi
        have hzs : (d i).zs.length ≤ 65536 := by have := H1.out.s.zl i hi; omega
        have KS : Hid (Calls Tryd.prog 36 #[gp (d i).g] w1 (SumP true (d i) w1)) := msum_any (d i) B w1 (H1.out.s.sl i hi) HTb.out.t hzs
        clear hzs
        go_wp2_with (first | (go_at_call 36; refine KS.out.mono ?_))
        intro e3 w3 hp3
        obtain ⟨v3, rfl, ho3, hb3⟩ := hp3
        have HB3 : Hid (Below w1.heap.size w1 w3) := hb3
        have KT : Hid (Calls Tryd.prog 71 #[.pointer (some ⟨t, 0, none⟩), .int .i64 (i : Nat), v3, .bool false] w3 (ToldP B t true d left ts.length w3)) := told_ok true false B t i left d kv wv ts v3 w1 w3 H1.out hb3 hi ho3 (HTb.out.below (hb3.mono HSz.out) HB4.out) HB4.out HSz.out (by have := HN.out; omega)
        clear ho3 hb3 KS hcp
        go_wp2_with (first | (go_at_call 71; refine KT.out.mono ?_))
        intro e4 w4 hp4
        obtain ⟨rfl, ⟨kv4, wv4, ts4, hl4, hT4⟩, hb4⟩ := hp4
        have HB4w : Hid (Below B w1 w4) := (HB3.out.mono HSz.out).trans hb4
        have H4 : Hid (TSD w4 B t true d kv4 wv4 ts4 left ∧ ts4.length ≤ ts.length + 1) := ⟨hT4, hl4⟩
        have HSz4 : Hid (B ≤ w4.heap.size) := Nat.le_trans HSz.out HB4w.out.size
        have HTb4 : Hid (Tbs w4) := HTb.out.below HB4w.out HB4.out
        have hcp4 : w4.cell? ⟨t, 3 + i, none⟩ = some (gp (d i).g) := H4.out.1.s.cm i HI3.out
        have KS4 : Hid (Calls Tryd.prog 36 #[gp (d i).g] w4 (SumP true (d i) w4)) := msum_any (d i) B w4 (H4.out.1.s.sl i HI3.out) HTb4.out.t (by have := H4.out.1.s.zl i HI3.out; omega)
        clear hb4 hT4 hl4 KT
        go_wp2_with (first | (go_at_call 36; refine KS4.out.mono ?_))
        intro e5 w5 hp5
        obtain ⟨v5, rfl, ho5, hb5⟩ := hp5
        have HB5 : Hid (Below w4.heap.size w4 w5) := hb5
        have KT5 : Hid (Calls Tryd.prog 71 #[.pointer (some ⟨t, 0, none⟩), .int .i64 (i : Nat), v5, .bool true] w5 (ToldP B t true d left ts4.length w5)) := told_ok true true B t i left d kv4 wv4 ts4 v5 w4 w5 H4.out.1 hb5 HI3.out ho5 (HTb4.out.below (hb5.mono HSz4.out) HB4.out) HB4.out HSz4.out (by have := HN.out; have := H4.out.2; omega)
        clear ho5 hb5 KS4 hcp4
        go_wp2_with (first | (go_at_call 71; refine KT5.out.mono ?_))
        intro e6 w6 hp6
        obtain ⟨rfl, ⟨kv6, wv6, ts6, hl6, hT6⟩, hb6⟩ := hp6
        have HE : Hid (TSD w6 B t true d kv6 wv6 ts6 left ∧ ts6.length ≤ ts.length + 2 ∧ Below B u w6) := ⟨hT6, by have := H4.out.2; omega, (HB1.out.trans HB4w.out).trans ((HB5.out.mono HSz4.out).trans hb6)⟩
        clear hT6 hb6 hl6 KT5
        go_wp2
        go_ret
        exact ⟨rfl, ⟨d, kv6, wv6, ts6, left, HE.out.2.1, HE.out.1⟩, HE.out.2.2⟩
      · have k3' : (ok == 3) = false := by simpa using k3
        by_cases k4 : ok = 4
        · subst k4
          have KW : Hid (Calls Tryd.prog 72 #[.pointer (some ⟨t, 0, none⟩), .int .i64 (i : Nat), .bool true] w1 (StepP B t true ts.length w1)) := reset_t B t i left d kv wv ts w1 H1.out hi HTb.out HB4.out HSz.out
          go_wp2_with (first | (go_at_call 72; refine KW.out.mono ?_))
          intro e3 w3 hp3
          obtain ⟨rfl, hp4⟩ := hp3
          go_wp2
          go_ret
          exact StepP.from ⟨rfl, hp4⟩ HB1.out
        · have k4' : (ok == 4) = false := by simpa using k4
          by_cases k5 : ok = 5
          · subst k5
            cases hgj : (d j).g with
            | none =>
              have hno : d j = Sl.no := (H1.out.s.sl j hj).nil hgj
              have hS0 : Below w1.heap.size w1 w1.drew := (Below.refl _ _).drew
              have KC : Hid (Calls Tryd.prog 56 #[.pointer none] w1.drew fun e v => e = .returned (.pointer none) ∧ Below w1.drew.heap.size w1.drew v) := by
                have h1 := mcopy_any (d j) B w1.drew ((H1.out.below hS0).s.sl j hj)
                rw [hgj] at h1
                exact h1.mono fun e v ⟨g', h1, h2, _, _, h4⟩ => by
                  rw [h2 hgj] at h1
                  exact ⟨h1, h4⟩
              have hcj : w1.cell? ⟨t, 3 + j, none⟩ = some (.pointer none) := by
                have := H1.out.s.cm j hj
                rw [hgj] at this
                exact this
              obtain ⟨C0, HC0⟩ : ∃ C, Hid (TC w1 t C) := tc_there H1.out.s.there
              have htl : t < w1.heap.size := (H1.out.s.lt t (mb_t _ _ _ _)).2
              obtain ⟨FL, HFE⟩ : ∃ L, Hid (L = fedL (d j)) := ⟨_, rfl⟩
              have HFR : Hid (w1.rangeAt t (6 + j * 4) FL) := by show World.rangeAt _ _ _ _; rw [HFE.out]; exact H1.out.s.fed hj
              have HFl : Hid ((Tryd.prog.info? 86).map (·.size) = some FL.length) := by show _ = _; rw [HFE.out]; exact size86
              have HFa : Hid ((Tryd.prog.info? 86).map (·.size) = some FL.toArray.size) := by show _ = _; rw [HFE.out]; exact size86
              have HFo : Hid (FL.toArray.all (·.oneCell') = true) := by
                show _ = _
                rw [HFE.out]
                exact fed_one (H1.out.s.sl j hj)
              go_upto_region 18 with fail
              refine wp_region_noPanic ?_
              refine wp_region_till (fun v => Below w1.heap.size w1 v) 11 (by kernel_rfl) (by decide) (by decide +kernel) (by decide +kernel) (by decide +kernel) (fun inv => ?_)
              refine till_at 0 91 (.pointer (some ⟨t, 0, none⟩)) inv rfl rfl (by decide) (by decide +kernel) (by decide +kernel) (fun _ _ _ h => h) (hS0) (Or.inl ⟨by rfl, fun w' hS' => by go_simp⟩) (fun inv' => ?_)
              clear inv; have inv := inv'; clear inv'
              simp only [List.setIfInBounds_toArray, List.set_cons_zero, List.set_cons_succ]
              refine till_at 1 92 (.int .i64 (i : Nat)) inv rfl rfl (by decide) (by decide +kernel) (by decide +kernel) (fun _ _ _ h => h) (hS0) (Or.inl ⟨by rfl, fun w' hS' => by go_simp⟩) (fun inv' => ?_)
              clear inv; have inv := inv'; clear inv'
              simp only [List.setIfInBounds_toArray, List.set_cons_zero, List.set_cons_succ]
              refine till_at 2 93 (.pointer (some ⟨t, 0, none⟩)) inv rfl rfl (by decide) (by decide +kernel) (by decide +kernel) (fun _ _ _ h => h) (hS0) (Or.inl ⟨by rfl, fun w' hS' => by go_simp⟩) (fun inv' => ?_)
              clear inv; have inv := inv'; clear inv'
              simp only [List.setIfInBounds_toArray, List.set_cons_zero, List.set_cons_succ]
              refine till_at 3 94 (.int .i64 (j : Nat)) inv rfl rfl (by decide) (by decide +kernel) (by decide +kernel) (fun _ _ _ h => h) (hS0) (Or.inl ⟨by rfl, fun w' hS' => by go_simp⟩) (fun inv' => ?_)
              clear inv; have inv := inv'; clear inv'
              simp only [List.setIfInBounds_toArray, List.set_cons_zero, List.set_cons_succ]
              refine till_at 4 95 (.pointer (some ⟨t, 0, none⟩)) inv rfl rfl (by decide) (by decide +kernel) (by decide +kernel) (fun _ _ _ h => h) (hS0) (Or.inl ⟨by rfl, fun w' hS' => by go_simp⟩) (fun inv' => ?_)
              clear inv; have inv := inv'; clear inv'
              simp only [List.setIfInBounds_toArray, List.set_cons_zero, List.set_cons_succ]
              refine till_at 5 96 (.pointer (some ⟨t, 3, none⟩)) inv rfl rfl (by decide) (by decide +kernel) (by decide +kernel) (fun _ _ _ h => h) (hS0) (Or.inl ⟨by rfl, fun w' hS' => by go_simp⟩) (fun inv' => ?_)
              clear inv; have inv := inv'; clear inv'
              simp only [List.setIfInBounds_toArray, List.set_cons_zero, List.set_cons_succ]
              refine till_at 6 97 (.pointer (some ⟨t, 3 + j, none⟩)) inv rfl rfl (by decide) (by decide +kernel) (by decide +kernel) (fun _ _ _ h => h) (hS0) (Or.inl ⟨by rfl, fun w' hS' => by go_simp⟩) (fun inv' => ?_)
              clear inv; have inv := inv'; clear inv'
              simp only [List.setIfInBounds_toArray, List.set_cons_zero, List.set_cons_succ]
              refine till_at 7 98 (.pointer none) inv rfl rfl (by decide) (by decide +kernel) (by decide +kernel) (fun _ _ _ h => h) (hS0) (Or.inl ⟨by rfl, fun w' hS' => by have q1 := (hS'.cell (p := ⟨t, 3 + j, none⟩) htl).trans hcj; go_simp⟩) (fun inv' => ?_)
              clear inv; have inv := inv'; clear inv'
              simp only [List.setIfInBounds_toArray, List.set_cons_zero, List.set_cons_succ]
              refine till_at 9 100 (.pointer (some ⟨t, 0, none⟩)) inv rfl rfl (by decide) (by decide +kernel) (by decide +kernel) (fun _ _ _ h => h) (hS0) (Or.inl ⟨by rfl, fun w' hS' => by go_simp⟩) (fun inv' => ?_)
              clear inv; have inv := inv'; clear inv'
              simp only [List.setIfInBounds_toArray, List.set_cons_zero, List.set_cons_succ]
              refine till_at 10 101 (.pointer (some ⟨t, 3, none⟩)) inv rfl rfl (by decide) (by decide +kernel) (by decide +kernel) (fun _ _ _ h => h) (hS0) (Or.inl ⟨by rfl, fun w' hS' => by go_simp⟩) (fun inv' => ?_)
              clear inv; have inv := inv'; clear inv'
              simp only [List.setIfInBounds_toArray, List.set_cons_zero, List.set_cons_succ]
              refine till_head (i := 8) inv (by decide +kernel) (by decide) rfl (fun Kx hK => ?_)
              go_simp
              refine KC.out.mono ?_
              intro e3 w3 hp3
              obtain ⟨rfl, hq3⟩ := hp3
              go_wp2_with fail
              have hS3 : Below w1.heap.size w1 w3 := hS0.trans hq3
              refine hK.out _ _ hS3 (fun inv' => ?_)
              clear hK Kx inv
              have inv := inv'
              clear inv'
              try simp only [Act.put, List.setIfInBounds_toArray, List.set_cons_zero, List.set_cons_succ]
              refine till_tail (i := 11) (by decide +kernel) (by decide) rfl (fun Kx hK => ?_)
              rw [if_pos (by kernel_rfl)]
              go_simp
              refine hK.out _ _ ?_
              clear hK Kx
              try simp only [Act.put, List.setIfInBounds_toArray, List.set_cons_zero, List.set_cons_succ]
              have HC3 : Hid (TC w3 t C0) := HC0.out.same (hS3.block t htl)
              have q1 : w3.cell? ⟨t, 3 + i, none⟩ = some (C0 (3 + i)) := HC3.out.c _ (by have := HI3.out; omega)
              have q2 : w3.frozen? ⟨t, 3 + i, none⟩ = false := HC3.out.froz _ (by have := HI3.out; omega)
              refine till_tail (i := 12) (by decide +kernel) (by decide) rfl (fun Kx hK => ?_)
              rw [if_pos (by kernel_rfl)]
              go_simp
              refine hK.out _ _ ?_
              clear hK Kx
              refine till_done (by decide +kernel) ?_ _
              refine NoPanic.normal ?_
              clear q1 q2
              have HB3 : Hid (Below w1.heap.size w1 w3) := hS3
              clear hq3 hS3
              obtain ⟨C4, HCE4⟩ : ∃ C, Hid (C = upC C0 (3 + i) (.pointer none)) := ⟨_, rfl⟩
              have HC4 : Hid (TC ((w3.setCell ⟨t, 3 + i, none⟩ (.pointer none))) t C4) := by show TC _ _ _; rw [HCE4.out]; exact HC3.out.set (3 + i) _ (by have := HI3.out; omega)
              have HF4 : Hid (Fr w3 (w3.setCell ⟨t, 3 + i, none⟩ (.pointer none)) [t]) := set_fr w3 t (3 + i) _
              have hR4 : (w3.setCell ⟨t, 3 + i, none⟩ (.pointer none)).rangeAt t (6 + j * 4) FL := fun z v hv => by
                have hz : z < 4 := by have := (List.getElem?_eq_some_iff.1 hv).1; have h4 : FL.length = 4 := by rw [HFE.out]; rfl
                                      omega
                rw [cell_other2 _ _ _ _ _ (by have := HI3.out; omega), HB3.out.cell (p := ⟨t, 6 + j * 4 + z, none⟩) htl]
                exact HFR.out z v hv
              generalize w3.setCell ⟨t, 3 + i, none⟩ (.pointer none) = w4 at HC4 HF4 hR4 ⊢
              clear hcj
              have hR0 : w4.drew.rangeAt t (6 + j * 4) FL := hR4
              have HTH : Hid (w4.drew.there t (6 + i * 4) FL.toArray.size) := by
                show World.there _ _ _ _
                rw [show FL.toArray.size = 4 by rw [HFE.out]; rfl]
                exact HC4.out.part (6 + i * 4) 4 (by have := HI3.out; omega)
              go_upto_region 20 with fail
              refine wp_region_noPanic ?_
              refine wp_region_till (fun v => v.rangeAt t (6 + j * 4) FL) 10 (by kernel_rfl) (by decide) (by decide +kernel) (by decide +kernel) (by decide +kernel) (fun inv => ?_)
              refine till_at 0 115 (.pointer (some ⟨t, 0, none⟩)) inv rfl rfl (by decide) (by decide +kernel) (by decide +kernel) (fun _ _ _ h => h) (hR0) (Or.inl ⟨by rfl, fun w' hS' => by go_simp⟩) (fun inv' => ?_)
              clear inv; have inv := inv'; clear inv'
              simp only [List.setIfInBounds_toArray, List.set_cons_zero, List.set_cons_succ]
              refine till_at 1 116 (.int .i64 (i : Nat)) inv rfl rfl (by decide) (by decide +kernel) (by decide +kernel) (fun _ _ _ h => h) (hR0) (Or.inl ⟨by rfl, fun w' hS' => by go_simp⟩) (fun inv' => ?_)
              clear inv; have inv := inv'; clear inv'
              simp only [List.setIfInBounds_toArray, List.set_cons_zero, List.set_cons_succ]
              refine till_at 2 117 (.pointer (some ⟨t, 0, none⟩)) inv rfl rfl (by decide) (by decide +kernel) (by decide +kernel) (fun _ _ _ h => h) (hR0) (Or.inl ⟨by rfl, fun w' hS' => by go_simp⟩) (fun inv' => ?_)
              clear inv; have inv := inv'; clear inv'
              simp only [List.setIfInBounds_toArray, List.set_cons_zero, List.set_cons_succ]
              refine till_at 3 118 (.int .i64 (j : Nat)) inv rfl rfl (by decide) (by decide +kernel) (by decide +kernel) (fun _ _ _ h => h) (hR0) (Or.inl ⟨by rfl, fun w' hS' => by go_simp⟩) (fun inv' => ?_)
              clear inv; have inv := inv'; clear inv'
              simp only [List.setIfInBounds_toArray, List.set_cons_zero, List.set_cons_succ]
              refine till_at 4 119 (.pointer (some ⟨t, 0, none⟩)) inv rfl rfl (by decide) (by decide +kernel) (by decide +kernel) (fun _ _ _ h => h) (hR0) (Or.inl ⟨by rfl, fun w' hS' => by go_simp⟩) (fun inv' => ?_)
              clear inv; have inv := inv'; clear inv'
              simp only [List.setIfInBounds_toArray, List.set_cons_zero, List.set_cons_succ]
              refine till_at 5 120 (.pointer (some ⟨t, 6, none⟩)) inv rfl rfl (by decide) (by decide +kernel) (by decide +kernel) (fun _ _ _ h => h) (hR0) (Or.inl ⟨by rfl, fun w' hS' => by go_simp⟩) (fun inv' => ?_)
              clear inv; have inv := inv'; clear inv'
              simp only [List.setIfInBounds_toArray, List.set_cons_zero, List.set_cons_succ]
              refine till_at 6 121 (.pointer (some ⟨t, 6 + j * 4, none⟩)) inv rfl rfl (by decide) (by decide +kernel) (by decide +kernel) (fun _ _ _ h => h) (hR0) (Or.inl ⟨by rfl, fun w' hS' => by go_simp⟩) (fun inv' => ?_)
              clear inv; have inv := inv'; clear inv'
              simp only [List.setIfInBounds_toArray, List.set_cons_zero, List.set_cons_succ]
              refine till_at 7 122 (.agg FL.toArray) inv rfl rfl (by decide) (by decide +kernel) (by decide +kernel) (fun _ _ _ h => h) (hR0) (yieldsIf_load_mid (by kernel_rfl) 86 (.tmp 121) rfl t (6 + j * 4) rfl FL _ (fun v hv => hv) Tryd.underlying86 rfl HFl.out) (fun inv' => ?_)
              clear inv; have inv := inv'; clear inv'
              simp only [List.setIfInBounds_toArray, List.set_cons_zero, List.set_cons_succ]
              refine till_at 8 123 (.pointer (some ⟨t, 0, none⟩)) inv rfl rfl (by decide) (by decide +kernel) (by decide +kernel) (fun _ _ _ h => h) (hR0) (Or.inl ⟨by rfl, fun w' hS' => by go_simp⟩) (fun inv' => ?_)
              clear inv; have inv := inv'; clear inv'
              simp only [List.setIfInBounds_toArray, List.set_cons_zero, List.set_cons_succ]
              refine till_at 9 124 (.pointer (some ⟨t, 6, none⟩)) inv rfl rfl (by decide) (by decide +kernel) (by decide +kernel) (fun _ _ _ h => h) (hR0) (Or.inl ⟨by rfl, fun w' hS' => by go_simp⟩) (fun inv' => ?_)
              clear inv; have inv := inv'; clear inv'
              simp only [List.setIfInBounds_toArray, List.set_cons_zero, List.set_cons_succ]
              refine till_tail (i := 10) (by decide +kernel) (by decide) rfl (fun Kx hK => ?_)
              rw [if_pos (by kernel_rfl)]
              go_simp
              refine hK.out _ _ ?_
              clear hK Kx
              try simp only [Act.put, List.setIfInBounds_toArray, List.set_cons_zero, List.set_cons_succ]
              refine till_tail (i := 11) (by decide +kernel) (by decide) rfl (fun Kx hK => ?_)
              rw [if_pos (by kernel_rfl)]
              refine wp_store_mid 86 (.tmp 125) (.tmp 122) rfl t (6 + i * 4) FL.toArray rfl rfl HTH.out HFa.out HFo.out ?_
              refine hK.out _ _ ?_
              clear hK Kx
              refine till_done (by decide +kernel) ?_ _
              refine NoPanic.normal ?_
              obtain ⟨C5, HCE5⟩ : ∃ C, Hid (C = upC (upC (upC (upC C4 (6 + i * 4) (.int .i64 (d j).h)) (6 + i * 4 + 1) (.bool (d j).kd)) (6 + i * 4 + 2) (d j).kv) (6 + i * 4 + 3) (d j).bv) := ⟨_, rfl⟩
              have HC5 : Hid (TC (w4.drew.setCells t (6 + i * 4) FL) t C5) := by
                show TC _ _ _
                rw [HCE5.out, HFE.out]
                exact TC.set4 HC4.out.drew (6 + i * 4) (.int .i64 (d j).h) (.bool (d j).kd) (d j).kv (d j).bv (by have := HI3.out; omega)
              have HF5 : Hid (Fr w1 (w4.drew.setCells t (6 + i * 4) FL) [t]) := (((below_fr HB3.out [t]).trans HF4.out).trans (drew_fr w4 1 [t])).trans (sets_fr w4.drew t (6 + i * 4) FL)
              generalize w4.drew.setCells t (6 + i * 4) FL = w5 at HC5 HF5 ⊢
              clear HTH hR0 hR4 HFl HFa HFo
              have HE : Hid (TSD w5 B t true (upd3 d i (cpS (d j) (none))) kv wv ts left ∧ Below B w1 w5) := by
                have h3 := HI3.out
                have hj := HJ3.out
                have htc := H1.out.s.tc HC0.out i h3
                have hkv : View w5 (d j).kv (d j).key := view_keepP (H1.out.s.sl j hj).kv (fun e b hb => HF5.out.block b (view_blks (H1.out.s.sl j hj).kv e b hb) (fun z => H1.out.s.rk j hj e b hb (by rw [List.mem_singleton.1 z]; exact mb_t _ _ _ _)))
                have hbv : View w5 (d j).bv (d j).zs := view_keepP (H1.out.s.sl j hj).bv (fun e b hb => HF5.out.block b (view_blks (H1.out.s.sl j hj).bv e b hb) (fun z => H1.out.s.rb j hj e b hb (by rw [List.mem_singleton.1 z]; exact mb_t _ _ _ _)))
                refine ⟨H1.out.slot h3 HF5.out (fun b hb => .inl (List.mem_singleton.1 hb)) HC0.out HC5.out (fun z h0 h1 h2 h4 h5 => ?_) ?_ ?_ ?_ ?_ ?_ ?_ ?_ ?_ (fun g' e => ?_) (fun e b hb => ⟨H1.out.s.rb j hj e b hb, fun z => ?_⟩) (fun e b hb => ⟨H1.out.s.rk j hj e b hb, fun z => ?_⟩) (Nat.le_refl _) (H1.out.s.zl j hj), ?_⟩
                · rw [HCE5.out, HCE4.out, upC_other _ _ _ _ (by omega), upC_other _ _ _ _ (by omega), upC_other _ _ _ _ (by omega), upC_other _ _ _ _ (by omega), upC_other _ _ _ _ (by omega)]
                · rw [HCE5.out, HCE4.out, upC_other _ _ _ _ (by omega), upC_other _ _ _ _ (by omega), upC_other _ _ _ _ (by omega), upC_other _ _ _ _ (by omega)]
                  rw [upC_other _ _ _ _ (by omega)]; exact htc.1
                · rw [HCE5.out, HCE4.out, upC_other _ _ _ _ (by omega), upC_other _ _ _ _ (by omega), upC_other _ _ _ _ (by omega), upC_other _ _ _ _ (by omega)]
                  rw [upC_same _ _ _ _ rfl]; rfl
                · rw [HCE5.out, upC_other _ _ _ _ (by omega), upC_other _ _ _ _ (by omega), upC_other _ _ _ _ (by omega), upC_same _ _ _ _ rfl]; rfl
                · rw [HCE5.out, upC_other _ _ _ _ (by omega), upC_other _ _ _ _ (by omega), upC_same _ _ _ _ rfl]; rfl
                · rw [HCE5.out, upC_other _ _ _ _ (by omega), upC_same _ _ _ _ rfl]; rfl
                · rw [HCE5.out, upC_same _ _ _ _ rfl]; rfl
                · rw [HCE5.out, HCE4.out, upC_other _ _ _ _ (by omega), upC_other _ _ _ _ (by omega), upC_other _ _ _ _ (by omega), upC_other _ _ _ _ (by omega), upC_other _ _ _ _ (by omega)]; exact H1.out.s.tcl HC0.out
                · rw [show cpS (d j) none = Sl.no by rw [hno]; rfl]; exact no_at _ _ _
                · cases e
                · cases z
                · cases z
                · exact HF5.out.toBelow (fun b hb => by rw [List.mem_singleton.1 hb]; exact H1.out.s.tB) HSz.out
              have htcE := HE.out.1.s
              have hci : w5.cell? ⟨t, 3 + i, none⟩ = some (.pointer none) := by
                have := htcE.cm i HI3.out
                rw [upd3_same] at this
                exact this
              have hfi : w5.cell? ⟨t, 6 + i * 4, none⟩ = some (.int .i64 0) := by
                have := htcE.fh i HI3.out
                rw [upd3_same] at this
                rw [this, show cpS (d j) none = Sl.no by rw [hno]; rfl]; rfl
              clear htcE
              go_upto_region 21 with fail
              have hSq : w5.drew.cell? ⟨t, 6 + i * 4, none⟩ = some (.int .i64 0) ∧ w5.drew.cell? ⟨t, 3 + i, none⟩ = some (.pointer none) := ⟨hfi, hci⟩
              refine wp_region_noPanic ?_
              refine wp_region_held_drew (S := fun v => v.cell? ⟨t, 6 + i * 4, none⟩ = some (.int .i64 0) ∧ v.cell? ⟨t, 3 + i, none⟩ = some (.pointer none)) (by kernel_rfl) (hSq) (fun _ => ?_)
              refine takeH_at 0 126 (.pointer (some ⟨t, 0, none⟩)) rfl rfl (by kernel_rfl) (by kernel_rfl) (by kernel_rfl) (fun _ _ _ h => h) (hSq) (Or.inl ⟨by kernel_rfl, fun w' hS' => by go_simp⟩) ?_
              simp only [List.setIfInBounds_toArray, List.set_cons_zero, List.set_cons_succ]
              refine takeH_at 1 127 (.int .i64 (i : Nat)) rfl rfl (by kernel_rfl) (by kernel_rfl) (by kernel_rfl) (fun _ _ _ h => h) (hSq) (Or.inl ⟨by kernel_rfl, fun w' hS' => by go_simp⟩) ?_
              simp only [List.setIfInBounds_toArray, List.set_cons_zero, List.set_cons_succ]
              refine takeH_at 2 128 (.pointer (some ⟨t, 0, none⟩)) rfl rfl (by kernel_rfl) (by kernel_rfl) (by kernel_rfl) (fun _ _ _ h => h) (hSq) (Or.inl ⟨by kernel_rfl, fun w' hS' => by go_simp⟩) ?_
              simp only [List.setIfInBounds_toArray, List.set_cons_zero, List.set_cons_succ]
              refine takeH_at 3 129 (.pointer (some ⟨t, 6, none⟩)) rfl rfl (by kernel_rfl) (by kernel_rfl) (by kernel_rfl) (fun _ _ _ h => h) (hSq) (Or.inl ⟨by kernel_rfl, fun w' hS' => by go_simp⟩) ?_
              simp only [List.setIfInBounds_toArray, List.set_cons_zero, List.set_cons_succ]
              refine takeH_at 4 130 (.pointer (some ⟨t, 6 + i * 4, none⟩)) rfl rfl (by kernel_rfl) (by kernel_rfl) (by kernel_rfl) (fun _ _ _ h => h) (hSq) (Or.inl ⟨by kernel_rfl, fun w' hS' => by go_simp⟩) ?_
              simp only [List.setIfInBounds_toArray, List.set_cons_zero, List.set_cons_succ]
              refine takeH_at 5 131 (.pointer (some ⟨t, 6 + i * 4, none⟩)) rfl rfl (by kernel_rfl) (by kernel_rfl) (by kernel_rfl) (fun _ _ _ h => h) (hSq) (Or.inl ⟨by kernel_rfl, fun w' hS' => by go_simp⟩) ?_
              simp only [List.setIfInBounds_toArray, List.set_cons_zero, List.set_cons_succ]
              refine takeH_at 6 132 (.int .i64 0) rfl rfl (by kernel_rfl) (by kernel_rfl) (by kernel_rfl) (fun _ _ _ h => h) (hSq) (Or.inl ⟨by kernel_rfl, fun w' hS' => by have q1 := hS'.1; go_simp⟩) ?_
              simp only [List.setIfInBounds_toArray, List.set_cons_zero, List.set_cons_succ]
              refine takeH_at 7 133 (.bool true) rfl rfl (by kernel_rfl) (by kernel_rfl) (by kernel_rfl) (fun _ _ _ h => h) (hSq) (Or.inl ⟨by kernel_rfl, fun w' hS' => by go_simp⟩) ?_
              simp only [List.setIfInBounds_toArray, List.set_cons_zero, List.set_cons_succ]
              refine takeH_at 8 134 (.bool true) rfl rfl (by kernel_rfl) (by kernel_rfl) (by kernel_rfl) (fun _ _ _ h => h) (hSq) (Or.inl ⟨by kernel_rfl, fun w' hS' => by go_simp⟩) ?_
              simp only [List.setIfInBounds_toArray, List.set_cons_zero, List.set_cons_succ]
              refine takeH_at 9 135 (.bool false) rfl rfl (by kernel_rfl) (by kernel_rfl) (by kernel_rfl) (fun _ _ _ h => h) (hSq) (Or.inl ⟨by kernel_rfl, fun w' hS' => by go_simp⟩) ?_
              simp only [List.setIfInBounds_toArray, List.set_cons_zero, List.set_cons_succ]
              refine takeH_at 10 136 (.bool false) rfl rfl (by kernel_rfl) (by kernel_rfl) (by kernel_rfl) (fun _ _ _ h => h) (hSq) (Or.inl ⟨by kernel_rfl, fun w' hS' => by go_simp⟩) ?_
              simp only [List.setIfInBounds_toArray, List.set_cons_zero, List.set_cons_succ]
              refine takeH_at 11 137 undef rfl rfl (by kernel_rfl) (by kernel_rfl) (by kernel_rfl) (fun _ _ _ h => h) (hSq) (Or.inr ⟨by kernel_rfl, rfl⟩) ?_
              simp only [List.setIfInBounds_toArray, List.set_cons_zero, List.set_cons_succ]
              refine takeH_at 12 138 undef rfl rfl (by kernel_rfl) (by kernel_rfl) (by kernel_rfl) (fun _ _ _ h => h) (hSq) (Or.inr ⟨by kernel_rfl, rfl⟩) ?_
              simp only [List.setIfInBounds_toArray, List.set_cons_zero, List.set_cons_succ]
              refine takeH_at 13 139 undef rfl rfl (by kernel_rfl) (by kernel_rfl) (by kernel_rfl) (fun _ _ _ h => h) (hSq) (Or.inr ⟨by kernel_rfl, rfl⟩) ?_
              simp only [List.setIfInBounds_toArray, List.set_cons_zero, List.set_cons_succ]
              refine takeH_at 14 140 undef rfl rfl (by kernel_rfl) (by kernel_rfl) (by kernel_rfl) (fun _ _ _ h => h) (hSq) (Or.inr ⟨by kernel_rfl, rfl⟩) ?_
              simp only [List.setIfInBounds_toArray, List.set_cons_zero, List.set_cons_succ]
              refine takeH_at 15 141 undef rfl rfl (by kernel_rfl) (by kernel_rfl) (by kernel_rfl) (fun _ _ _ h => h) (hSq) (Or.inr ⟨by kernel_rfl, rfl⟩) ?_
              simp only [List.setIfInBounds_toArray, List.set_cons_zero, List.set_cons_succ]
              refine takeH_at 16 142 undef rfl rfl (by kernel_rfl) (by kernel_rfl) (by kernel_rfl) (fun _ _ _ h => h) (hSq) (Or.inr ⟨by kernel_rfl, rfl⟩) ?_
              simp only [List.setIfInBounds_toArray, List.set_cons_zero, List.set_cons_succ]
              refine takeH_at 17 143 undef rfl rfl (by kernel_rfl) (by kernel_rfl) (by kernel_rfl) (fun _ _ _ h => h) (hSq) (Or.inr ⟨by kernel_rfl, rfl⟩) ?_
              simp only [List.setIfInBounds_toArray, List.set_cons_zero, List.set_cons_succ]
              refine takeH_at 18 144 (.bool false) rfl rfl (by kernel_rfl) (by kernel_rfl) (by kernel_rfl) (fun _ _ _ h => h) (hSq) (Or.inl ⟨by kernel_rfl, fun w' hS' => by go_simp⟩) ?_
              simp only [List.setIfInBounds_toArray, List.set_cons_zero, List.set_cons_succ]
              refine takeH_at 19 145 (.bool false) rfl rfl (by kernel_rfl) (by kernel_rfl) (by kernel_rfl) (fun _ _ _ h => h) (hSq) (Or.inl ⟨by kernel_rfl, fun w' hS' => by go_simp⟩) ?_
              simp only [List.setIfInBounds_toArray, List.set_cons_zero, List.set_cons_succ]
              refine takeH_at 20 146 (.bool true) rfl rfl (by kernel_rfl) (by kernel_rfl) (by kernel_rfl) (fun _ _ _ h => h) (hSq) (Or.inl ⟨by kernel_rfl, fun w' hS' => by go_simp⟩) ?_
              simp only [List.setIfInBounds_toArray, List.set_cons_zero, List.set_cons_succ]
              refine takeH_at 21 147 (.bool true) rfl rfl (by kernel_rfl) (by kernel_rfl) (by kernel_rfl) (fun _ _ _ h => h) (hSq) (Or.inl ⟨by kernel_rfl, fun w' hS' => by go_simp⟩) ?_
              simp only [List.setIfInBounds_toArray, List.set_cons_zero, List.set_cons_succ]
              refine takeH_at 22 148 (.pointer (some ⟨t, 0, none⟩)) rfl rfl (by kernel_rfl) (by kernel_rfl) (by kernel_rfl) (fun _ _ _ h => h) (hSq) (Or.inl ⟨by kernel_rfl, fun w' hS' => by go_simp⟩) ?_
              simp only [List.setIfInBounds_toArray, List.set_cons_zero, List.set_cons_succ]
              refine takeH_at 23 149 (.int .i64 (i : Nat)) rfl rfl (by kernel_rfl) (by kernel_rfl) (by kernel_rfl) (fun _ _ _ h => h) (hSq) (Or.inl ⟨by kernel_rfl, fun w' hS' => by go_simp⟩) ?_
              simp only [List.setIfInBounds_toArray, List.set_cons_zero, List.set_cons_succ]
              refine takeH_at 24 150 (.pointer (some ⟨t, 0, none⟩)) rfl rfl (by kernel_rfl) (by kernel_rfl) (by kernel_rfl) (fun _ _ _ h => h) (hSq) (Or.inl ⟨by kernel_rfl, fun w' hS' => by go_simp⟩) ?_
              simp only [List.setIfInBounds_toArray, List.set_cons_zero, List.set_cons_succ]
              refine takeH_at 25 151 (.pointer (some ⟨t, 3, none⟩)) rfl rfl (by kernel_rfl) (by kernel_rfl) (by kernel_rfl) (fun _ _ _ h => h) (hSq) (Or.inl ⟨by kernel_rfl, fun w' hS' => by go_simp⟩) ?_
              simp only [List.setIfInBounds_toArray, List.set_cons_zero, List.set_cons_succ]
              refine takeH_at 26 152 (.pointer (some ⟨t, 3 + i, none⟩)) rfl rfl (by kernel_rfl) (by kernel_rfl) (by kernel_rfl) (fun _ _ _ h => h) (hSq) (Or.inl ⟨by kernel_rfl, fun w' hS' => by go_simp⟩) ?_
              simp only [List.setIfInBounds_toArray, List.set_cons_zero, List.set_cons_succ]
              refine takeH_at 27 153 (.pointer none) rfl rfl (by kernel_rfl) (by kernel_rfl) (by kernel_rfl) (fun _ _ _ h => h) (hSq) (Or.inl ⟨by kernel_rfl, fun w' hS' => by have q1 := hS'.2; go_simp⟩) ?_
              simp only [List.setIfInBounds_toArray, List.set_cons_zero, List.set_cons_succ]
              refine takeH_at 28 154 (.bool true) rfl rfl (by kernel_rfl) (by kernel_rfl) (by kernel_rfl) (fun _ _ _ h => h) (hSq) (Or.inl ⟨by kernel_rfl, fun w' hS' => by go_simp⟩) ?_
              simp only [List.setIfInBounds_toArray, List.set_cons_zero, List.set_cons_succ]
              refine takeH_at 29 155 (.bool true) rfl rfl (by kernel_rfl) (by kernel_rfl) (by kernel_rfl) (fun _ _ _ h => h) (hSq) (Or.inl ⟨by kernel_rfl, fun w' hS' => by go_simp⟩) ?_
              simp only [List.setIfInBounds_toArray, List.set_cons_zero, List.set_cons_succ]
              refine takeH_at 30 156 (.bool true) rfl rfl (by kernel_rfl) (by kernel_rfl) (by kernel_rfl) (fun _ _ _ h => h) (hSq) (Or.inl ⟨by kernel_rfl, fun w' hS' => by go_simp⟩) ?_
              simp only [List.setIfInBounds_toArray, List.set_cons_zero, List.set_cons_succ]
              refine takeH_at 31 157 (.bool true) rfl rfl (by kernel_rfl) (by kernel_rfl) (by kernel_rfl) (fun _ _ _ h => h) (hSq) (Or.inl ⟨by kernel_rfl, fun w' hS' => by go_simp⟩) ?_
              simp only [List.setIfInBounds_toArray, List.set_cons_zero, List.set_cons_succ]
              refine takeH_at 32 6 (.bool true) rfl rfl (by kernel_rfl) (by kernel_rfl) (by kernel_rfl) (fun _ _ _ h => h) (hSq) (Or.inl ⟨by kernel_rfl, fun w' hS' => by go_simp⟩) ?_
              simp only [List.setIfInBounds_toArray, List.set_cons_zero, List.set_cons_succ]
              refine wpAnyH_done (by kernel_rfl) ?_ _
              refine NoPanic.normal ?_
              have HE2 : Hid (TSD w5.drew B t true (upd3 d i (cpS (d j) (none))) kv wv ts left ∧ Below B u w5.drew) := by
                have hb : Below w5.heap.size w5 w5.drew := (Below.refl _ _).drew
                exact ⟨HE.out.1.below hb, (HB1.out.trans HE.out.2).trans (hb.mono (Nat.le_trans HSz.out HE.out.2.size))⟩
              clear hSq hci hfi
              generalize w5.drew = w6 at HE2 ⊢
              go_wp2
              go_ret
              exact ⟨rfl, ⟨_, kv, wv, ts, left, by omega, HE2.out.1⟩, HE2.out.2⟩
            | some gj =>
              obtain ⟨hv, HHV⟩ : ∃ x, Hid (x = (d j).h) := ⟨_, rfl⟩
              have hvne : ¬ hv = 0 := by
                obtain ⟨kk, _⟩ := (H1.out.s.sl j hj).obj gj hgj
                rw [HHV.out]; rcases kk with e | e | e | e <;> omega
              obtain ⟨kk, hkd, hgB, _⟩ := (H1.out.s.sl j hj).obj gj hgj
              have HKJ : Hid (Known (d j).h ∧ (d j).kd = true) := ⟨kk, hkd⟩
              have hS0 : Below w1.heap.size w1 w1.drew := (Below.refl _ _).drew
              have KC : Hid (Calls Tryd.prog 56 #[.pointer (some ⟨gj, 0, none⟩)] w1.drew (CpG true (d j) w1.drew)) := by
                have h1 := mcopy_any (d j) B w1.drew ((H1.out.below hS0).s.sl j hj)
                rw [hgj] at h1
                exact h1.mono fun e v ⟨g', h1, _, h2, h3, h4⟩ => by
                  cases g' with
                  | none => exact absurd rfl (h2 (by rw [hgj]; exact fun q => by cases q))
                  | some q => exact ⟨q, h1, (h3 q rfl).1, (h3 q rfl).2, h4⟩
              have hcj : w1.cell? ⟨t, 3 + j, none⟩ = some (.pointer (some ⟨gj, 0, none⟩)) := by
                have := H1.out.s.cm j hj
                rw [hgj] at this
                exact this
              obtain ⟨C0, HC0⟩ : ∃ C, Hid (TC w1 t C) := tc_there H1.out.s.there
              have htl : t < w1.heap.size := (H1.out.s.lt t (mb_t _ _ _ _)).2
              obtain ⟨FL, HFE⟩ : ∃ L, Hid (L = fedL (d j)) := ⟨_, rfl⟩
              have HFR : Hid (w1.rangeAt t (6 + j * 4) FL) := by show World.rangeAt _ _ _ _; rw [HFE.out]; exact H1.out.s.fed hj
              have HFl : Hid ((Tryd.prog.info? 86).map (·.size) = some FL.length) := by show _ = _; rw [HFE.out]; exact size86
              have HFa : Hid ((Tryd.prog.info? 86).map (·.size) = some FL.toArray.size) := by show _ = _; rw [HFE.out]; exact size86
              have HFo : Hid (FL.toArray.all (·.oneCell') = true) := by
                show _ = _
                rw [HFE.out]
                exact fed_one (H1.out.s.sl j hj)
              go_upto_region 18 with fail
              refine wp_region_noPanic ?_
              refine wp_region_till (fun v => Below w1.heap.size w1 v) 11 (by kernel_rfl) (by decide) (by decide +kernel) (by decide +kernel) (by decide +kernel) (fun inv => ?_)
              refine till_at 0 91 (.pointer (some ⟨t, 0, none⟩)) inv rfl rfl (by decide) (by decide +kernel) (by decide +kernel) (fun _ _ _ h => h) (hS0) (Or.inl ⟨by rfl, fun w' hS' => by go_simp⟩) (fun inv' => ?_)
              clear inv; have inv := inv'; clear inv'
              simp only [List.setIfInBounds_toArray, List.set_cons_zero, List.set_cons_succ]
              refine till_at 1 92 (.int .i64 (i : Nat)) inv rfl rfl (by decide) (by decide +kernel) (by decide +kernel) (fun _ _ _ h => h) (hS0) (Or.inl ⟨by rfl, fun w' hS' => by go_simp⟩) (fun inv' => ?_)
              clear inv; have inv := inv'; clear inv'
              simp only [List.setIfInBounds_toArray, List.set_cons_zero, List.set_cons_succ]
              refine till_at 2 93 (.pointer (some ⟨t, 0, none⟩)) inv rfl rfl (by decide) (by decide +kernel) (by decide +kernel) (fun _ _ _ h => h) (hS0) (Or.inl ⟨by rfl, fun w' hS' => by go_simp⟩) (fun inv' => ?_)
              clear inv; have inv := inv'; clear inv'
              simp only [List.setIfInBounds_toArray, List.set_cons_zero, List.set_cons_succ]
              refine till_at 3 94 (.int .i64 (j : Nat)) inv rfl rfl (by decide) (by decide +kernel) (by decide +kernel) (fun _ _ _ h => h) (hS0) (Or.inl ⟨by rfl, fun w' hS' => by go_simp⟩) (fun inv' => ?_)
              clear inv; have inv := inv'; clear inv'
              simp only [List.setIfInBounds_toArray, List.set_cons_zero, List.set_cons_succ]
              refine till_at 4 95 (.pointer (some ⟨t, 0, none⟩)) inv rfl rfl (by decide) (by decide +kernel) (by decide +kernel) (fun _ _ _ h => h) (hS0) (Or.inl ⟨by rfl, fun w' hS' => by go_simp⟩) (fun inv' => ?_)
              clear inv; have inv := inv'; clear inv'
              simp only [List.setIfInBounds_toArray, List.set_cons_zero, List.set_cons_succ]
              refine till_at 5 96 (.pointer (some ⟨t, 3, none⟩)) inv rfl rfl (by decide) (by decide +kernel) (by decide +kernel) (fun _ _ _ h => h) (hS0) (Or.inl ⟨by rfl, fun w' hS' => by go_simp⟩) (fun inv' => ?_)
              clear inv; have inv := inv'; clear inv'
              simp only [List.setIfInBounds_toArray, List.set_cons_zero, List.set_cons_succ]
              refine till_at 6 97 (.pointer (some ⟨t, 3 + j, none⟩)) inv rfl rfl (by decide) (by decide +kernel) (by decide +kernel) (fun _ _ _ h => h) (hS0) (Or.inl ⟨by rfl, fun w' hS' => by go_simp⟩) (fun inv' => ?_)
              clear inv; have inv := inv'; clear inv'
              simp only [List.setIfInBounds_toArray, List.set_cons_zero, List.set_cons_succ]
              refine till_at 7 98 (.pointer (some ⟨gj, 0, none⟩)) inv rfl rfl (by decide) (by decide +kernel) (by decide +kernel) (fun _ _ _ h => h) (hS0) (Or.inl ⟨by rfl, fun w' hS' => by have q1 := (hS'.cell (p := ⟨t, 3 + j, none⟩) htl).trans hcj; go_simp⟩) (fun inv' => ?_)
              clear inv; have inv := inv'; clear inv'
              simp only [List.setIfInBounds_toArray, List.set_cons_zero, List.set_cons_succ]
              refine till_at 9 100 (.pointer (some ⟨t, 0, none⟩)) inv rfl rfl (by decide) (by decide +kernel) (by decide +kernel) (fun _ _ _ h => h) (hS0) (Or.inl ⟨by rfl, fun w' hS' => by go_simp⟩) (fun inv' => ?_)
              clear inv; have inv := inv'; clear inv'
              simp only [List.setIfInBounds_toArray, List.set_cons_zero, List.set_cons_succ]
              refine till_at 10 101 (.pointer (some ⟨t, 3, none⟩)) inv rfl rfl (by decide) (by decide +kernel) (by decide +kernel) (fun _ _ _ h => h) (hS0) (Or.inl ⟨by rfl, fun w' hS' => by go_simp⟩) (fun inv' => ?_)
              clear inv; have inv := inv'; clear inv'
              simp only [List.setIfInBounds_toArray, List.set_cons_zero, List.set_cons_succ]
              refine till_head (i := 8) inv (by decide +kernel) (by decide) rfl (fun Kx hK => ?_)
              go_simp
              refine KC.out.mono ?_
              intro e3 w3 hp3
              obtain ⟨q, rfl, hq1, hq2, hq3⟩ := hp3
              go_wp2_with fail
              have hS3 : Below w1.heap.size w1 w3 := hS0.trans hq3
              refine hK.out _ _ hS3 (fun inv' => ?_)
              clear hK Kx inv
              have inv := inv'
              clear inv'
              try simp only [Act.put, List.setIfInBounds_toArray, List.set_cons_zero, List.set_cons_succ]
              refine till_tail (i := 11) (by decide +kernel) (by decide) rfl (fun Kx hK => ?_)
              rw [if_pos (by kernel_rfl)]
              go_simp
              refine hK.out _ _ ?_
              clear hK Kx
              try simp only [Act.put, List.setIfInBounds_toArray, List.set_cons_zero, List.set_cons_succ]
              have HC3 : Hid (TC w3 t C0) := HC0.out.same (hS3.block t htl)
              have q1 : w3.cell? ⟨t, 3 + i, none⟩ = some (C0 (3 + i)) := HC3.out.c _ (by have := HI3.out; omega)
              have q2 : w3.frozen? ⟨t, 3 + i, none⟩ = false := HC3.out.froz _ (by have := HI3.out; omega)
              refine till_tail (i := 12) (by decide +kernel) (by decide) rfl (fun Kx hK => ?_)
              rw [if_pos (by kernel_rfl)]
              go_simp
              refine hK.out _ _ ?_
              clear hK Kx
              refine till_done (by decide +kernel) ?_ _
              refine NoPanic.normal ?_
              clear q1 q2
              have HB3 : Hid (Below w1.heap.size w1 w3) := hS3
              have HQ : Hid (w1.heap.size ≤ q ∧ Obj true w3 q (d j).h (d j).key (d j).zs) := ⟨hq1, hq2⟩
              clear hq1 hq2 hq3 hS3
              obtain ⟨C4, HCE4⟩ : ∃ C, Hid (C = upC C0 (3 + i) (.pointer (some ⟨q, 0, none⟩))) := ⟨_, rfl⟩
              have HC4 : Hid (TC ((w3.setCell ⟨t, 3 + i, none⟩ (.pointer (some ⟨q, 0, none⟩)))) t C4) := by show TC _ _ _; rw [HCE4.out]; exact HC3.out.set (3 + i) _ (by have := HI3.out; omega)
              have HF4 : Hid (Fr w3 (w3.setCell ⟨t, 3 + i, none⟩ (.pointer (some ⟨q, 0, none⟩))) [t]) := set_fr w3 t (3 + i) _
              have hR4 : (w3.setCell ⟨t, 3 + i, none⟩ (.pointer (some ⟨q, 0, none⟩))).rangeAt t (6 + j * 4) FL := fun z v hv => by
                have hz : z < 4 := by have := (List.getElem?_eq_some_iff.1 hv).1; have h4 : FL.length = 4 := by rw [HFE.out]; rfl
                                      omega
                rw [cell_other2 _ _ _ _ _ (by have := HI3.out; omega), HB3.out.cell (p := ⟨t, 6 + j * 4 + z, none⟩) htl]
                exact HFR.out z v hv
              generalize w3.setCell ⟨t, 3 + i, none⟩ (.pointer (some ⟨q, 0, none⟩)) = w4 at HC4 HF4 hR4 ⊢
              clear hcj
              have hR0 : w4.drew.rangeAt t (6 + j * 4) FL := hR4
              have HTH : Hid (w4.drew.there t (6 + i * 4) FL.toArray.size) := by
                show World.there _ _ _ _
                rw [show FL.toArray.size = 4 by rw [HFE.out]; rfl]
                exact HC4.out.part (6 + i * 4) 4 (by have := HI3.out; omega)
              go_upto_region 20 with fail
              refine wp_region_noPanic ?_
              refine wp_region_till (fun v => v.rangeAt t (6 + j * 4) FL) 10 (by kernel_rfl) (by decide) (by decide +kernel) (by decide +kernel) (by decide +kernel) (fun inv => ?_)
              refine till_at 0 115 (.pointer (some ⟨t, 0, none⟩)) inv rfl rfl (by decide) (by decide +kernel) (by decide +kernel) (fun _ _ _ h => h) (hR0) (Or.inl ⟨by rfl, fun w' hS' => by go_simp⟩) (fun inv' => ?_)
              clear inv; have inv := inv'; clear inv'
              simp only [List.setIfInBounds_toArray, List.set_cons_zero, List.set_cons_succ]
              refine till_at 1 116 (.int .i64 (i : Nat)) inv rfl rfl (by decide) (by decide +kernel) (by decide +kernel) (fun _ _ _ h => h) (hR0) (Or.inl ⟨by rfl, fun w' hS' => by go_simp⟩) (fun inv' => ?_)
              clear inv; have inv := inv'; clear inv'
              simp only [List.setIfInBounds_toArray, List.set_cons_zero, List.set_cons_succ]
              refine till_at 2 117 (.pointer (some ⟨t, 0, none⟩)) inv rfl rfl (by decide) (by decide +kernel) (by decide +kernel) (fun _ _ _ h => h) (hR0) (Or.inl ⟨by rfl, fun w' hS' => by go_simp⟩) (fun inv' => ?_)
              clear inv; have inv := inv'; clear inv'
              simp only [List.setIfInBounds_toArray, List.set_cons_zero, List.set_cons_succ]
              refine till_at 3 118 (.int .i64 (j : Nat)) inv rfl rfl (by decide) (by decide +kernel) (by decide +kernel) (fun _ _ _ h => h) (hR0) (Or.inl ⟨by rfl, fun w' hS' => by go_simp⟩) (fun inv' => ?_)
              clear inv; have inv := inv'; clear inv'
              simp only [List.setIfInBounds_toArray, List.set_cons_zero, List.set_cons_succ]
              refine till_at 4 119 (.pointer (some ⟨t, 0, none⟩)) inv rfl rfl (by decide) (by decide +kernel) (by decide +kernel) (fun _ _ _ h => h) (hR0) (Or.inl ⟨by rfl, fun w' hS' => by go_simp⟩) (fun inv' => ?_)
              clear inv; have inv := inv'; clear inv'
              simp only [List.setIfInBounds_toArray, List.set_cons_zero, List.set_cons_succ]
              refine till_at 5 120 (.pointer (some ⟨t, 6, none⟩)) inv rfl rfl (by decide) (by decide +kernel) (by decide +kernel) (fun _ _ _ h => h) (hR0) (Or.inl ⟨by rfl, fun w' hS' => by go_simp⟩) (fun inv' => ?_)
              clear inv; have inv := inv'; clear inv'
              simp only [List.setIfInBounds_toArray, List.set_cons_zero, List.set_cons_succ]
              refine till_at 6 121 (.pointer (some ⟨t, 6 + j * 4, none⟩)) inv rfl rfl (by decide) (by decide +kernel) (by decide +kernel) (fun _ _ _ h => h) (hR0) (Or.inl ⟨by rfl, fun w' hS' => by go_simp⟩) (fun inv' => ?_)
              clear inv; have inv := inv'; clear inv'
              simp only [List.setIfInBounds_toArray, List.set_cons_zero, List.set_cons_succ]
              refine till_at 7 122 (.agg FL.toArray) inv rfl rfl (by decide) (by decide +kernel) (by decide +kernel) (fun _ _ _ h => h) (hR0) (yieldsIf_load_mid (by kernel_rfl) 86 (.tmp 121) rfl t (6 + j * 4) rfl FL _ (fun v hv => hv) Tryd.underlying86 rfl HFl.out) (fun inv' => ?_)
              clear inv; have inv := inv'; clear inv'
              simp only [List.setIfInBounds_toArray, List.set_cons_zero, List.set_cons_succ]
              refine till_at 8 123 (.pointer (some ⟨t, 0, none⟩)) inv rfl rfl (by decide) (by decide +kernel) (by decide +kernel) (fun _ _ _ h => h) (hR0) (Or.inl ⟨by rfl, fun w' hS' => by go_simp⟩) (fun inv' => ?_)
              clear inv; have inv := inv'; clear inv'
              simp only [List.setIfInBounds_toArray, List.set_cons_zero, List.set_cons_succ]
              refine till_at 9 124 (.pointer (some ⟨t, 6, none⟩)) inv rfl rfl (by decide) (by decide +kernel) (by decide +kernel) (fun _ _ _ h => h) (hR0) (Or.inl ⟨by rfl, fun w' hS' => by go_simp⟩) (fun inv' => ?_)
              clear inv; have inv := inv'; clear inv'
              simp only [List.setIfInBounds_toArray, List.set_cons_zero, List.set_cons_succ]
              refine till_tail (i := 10) (by decide +kernel) (by decide) rfl (fun Kx hK => ?_)
              rw [if_pos (by kernel_rfl)]
              go_simp
              refine hK.out _ _ ?_
              clear hK Kx
              try simp only [Act.put, List.setIfInBounds_toArray, List.set_cons_zero, List.set_cons_succ]
              refine till_tail (i := 11) (by decide +kernel) (by decide) rfl (fun Kx hK => ?_)
              rw [if_pos (by kernel_rfl)]
              refine wp_store_mid 86 (.tmp 125) (.tmp 122) rfl t (6 + i * 4) FL.toArray rfl rfl HTH.out HFa.out HFo.out ?_
              refine hK.out _ _ ?_
              clear hK Kx
              refine till_done (by decide +kernel) ?_ _
              refine NoPanic.normal ?_
              obtain ⟨C5, HCE5⟩ : ∃ C, Hid (C = upC (upC (upC (upC C4 (6 + i * 4) (.int .i64 (d j).h)) (6 + i * 4 + 1) (.bool (d j).kd)) (6 + i * 4 + 2) (d j).kv) (6 + i * 4 + 3) (d j).bv) := ⟨_, rfl⟩
              have HC5 : Hid (TC (w4.drew.setCells t (6 + i * 4) FL) t C5) := by
                show TC _ _ _
                rw [HCE5.out, HFE.out]
                exact TC.set4 HC4.out.drew (6 + i * 4) (.int .i64 (d j).h) (.bool (d j).kd) (d j).kv (d j).bv (by have := HI3.out; omega)
              have HF5 : Hid (Fr w1 (w4.drew.setCells t (6 + i * 4) FL) [t]) := (((below_fr HB3.out [t]).trans HF4.out).trans (drew_fr w4 1 [t])).trans (sets_fr w4.drew t (6 + i * 4) FL)
              have HF35 : Hid (Fr w3 (w4.drew.setCells t (6 + i * 4) FL) [t]) := (HF4.out.trans (drew_fr w4 1 [t])).trans (sets_fr w4.drew t (6 + i * 4) FL)
              generalize w4.drew.setCells t (6 + i * 4) FL = w5 at HC5 HF5 HF35 ⊢
              clear HTH hR0 hR4 HFl HFa HFo
              have HE : Hid (TSD w5 B t true (upd3 d i (cpS (d j) (some q))) kv wv ts left ∧ Below B w1 w5) := by
                have h3 := HI3.out
                have hj := HJ3.out
                have htc := H1.out.s.tc HC0.out i h3
                have hkv : View w5 (d j).kv (d j).key := view_keepP (H1.out.s.sl j hj).kv (fun e b hb => HF5.out.block b (view_blks (H1.out.s.sl j hj).kv e b hb) (fun z => H1.out.s.rk j hj e b hb (by rw [List.mem_singleton.1 z]; exact mb_t _ _ _ _)))
                have hbv : View w5 (d j).bv (d j).zs := view_keepP (H1.out.s.sl j hj).bv (fun e b hb => HF5.out.block b (view_blks (H1.out.s.sl j hj).bv e b hb) (fun z => H1.out.s.rb j hj e b hb (by rw [List.mem_singleton.1 z]; exact mb_t _ _ _ _)))
                have hob : Obj true w5 q (d j).h (d j).key (d j).zs := by
                  have hqt : q ≠ t := by have := HQ.out.1; omega
                  have hq3 := HQ.out.2.lt
                  have hf35 : Fr w3 w5 [t] := HF35.out
                  exact HQ.out.2.same (hf35.block q hq3 (by simpa using hqt))
                refine ⟨H1.out.slot h3 HF5.out (fun b hb => .inl (List.mem_singleton.1 hb)) HC0.out HC5.out (fun z h0 h1 h2 h4 h5 => ?_) ?_ ?_ ?_ ?_ ?_ ?_ ?_ ?_ (fun g' e => ?_) (fun e b hb => ⟨H1.out.s.rb j hj e b hb, fun z => ?_⟩) (fun e b hb => ⟨H1.out.s.rk j hj e b hb, fun z => ?_⟩) (Nat.le_refl _) (H1.out.s.zl j hj), ?_⟩
                · rw [HCE5.out, HCE4.out, upC_other _ _ _ _ (by omega), upC_other _ _ _ _ (by omega), upC_other _ _ _ _ (by omega), upC_other _ _ _ _ (by omega), upC_other _ _ _ _ (by omega)]
                · rw [HCE5.out, HCE4.out, upC_other _ _ _ _ (by omega), upC_other _ _ _ _ (by omega), upC_other _ _ _ _ (by omega), upC_other _ _ _ _ (by omega)]
                  rw [upC_other _ _ _ _ (by omega)]; exact htc.1
                · rw [HCE5.out, HCE4.out, upC_other _ _ _ _ (by omega), upC_other _ _ _ _ (by omega), upC_other _ _ _ _ (by omega), upC_other _ _ _ _ (by omega)]
                  rw [upC_same _ _ _ _ rfl]; rfl
                · rw [HCE5.out, upC_other _ _ _ _ (by omega), upC_other _ _ _ _ (by omega), upC_other _ _ _ _ (by omega), upC_same _ _ _ _ rfl]; rfl
                · rw [HCE5.out, upC_other _ _ _ _ (by omega), upC_other _ _ _ _ (by omega), upC_same _ _ _ _ rfl]; rfl
                · rw [HCE5.out, upC_other _ _ _ _ (by omega), upC_same _ _ _ _ rfl]; rfl
                · rw [HCE5.out, upC_same _ _ _ _ rfl]; rfl
                · rw [HCE5.out, HCE4.out, upC_other _ _ _ _ (by omega), upC_other _ _ _ _ (by omega), upC_other _ _ _ _ (by omega), upC_other _ _ _ _ (by omega), upC_other _ _ _ _ (by omega)]; exact H1.out.s.tcl HC0.out
                · exact ⟨fun e => (by cases e), fun g' e => by injection e with e; subst e; exact ⟨HKJ.out.1, HKJ.out.2, Nat.le_trans HSz.out HQ.out.1, hob⟩, hkv, hbv, (H1.out.s.sl j hj).kl⟩
                · injection e with e; subst e; exact .inr HQ.out.1
                · injection z with z; subst z; have := view_blks (H1.out.s.sl j hj).bv e q hb; have := HQ.out.1; omega
                · injection z with z; subst z; have := view_blks (H1.out.s.sl j hj).kv e q hb; have := HQ.out.1; omega
                · exact HF5.out.toBelow (fun b hb => by rw [List.mem_singleton.1 hb]; exact H1.out.s.tB) HSz.out
              have htcE := HE.out.1.s
              have hci : w5.cell? ⟨t, 3 + i, none⟩ = some (.pointer (some ⟨q, 0, none⟩)) := by
                have := htcE.cm i HI3.out
                rw [upd3_same] at this
                exact this
              have hfi : w5.cell? ⟨t, 6 + i * 4, none⟩ = some (.int .i64 hv) := by
                have := htcE.fh i HI3.out
                rw [upd3_same] at this
                rw [this]; show some (Value.int .i64 (d j).h) = _; rw [HHV.out]
              clear htcE
              go_upto_region 21 with fail
              have hSq : w5.drew.cell? ⟨t, 6 + i * 4, none⟩ = some (.int .i64 hv) ∧ w5.drew.cell? ⟨t, 3 + i, none⟩ = some (.pointer (some ⟨q, 0, none⟩)) := ⟨hfi, hci⟩
              refine wp_region_noPanic ?_
              refine wp_region_held_drew (S := fun v => v.cell? ⟨t, 6 + i * 4, none⟩ = some (.int .i64 hv) ∧ v.cell? ⟨t, 3 + i, none⟩ = some (.pointer (some ⟨q, 0, none⟩))) (by kernel_rfl) (hSq) (fun _ => ?_)
              refine takeH_at 0 126 (.pointer (some ⟨t, 0, none⟩)) rfl rfl (by kernel_rfl) (by kernel_rfl) (by kernel_rfl) (fun _ _ _ h => h) (hSq) (Or.inl ⟨by kernel_rfl, fun w' hS' => by go_simp⟩) ?_
              simp only [List.setIfInBounds_toArray, List.set_cons_zero, List.set_cons_succ]
              refine takeH_at 1 127 (.int .i64 (i : Nat)) rfl rfl (by kernel_rfl) (by kernel_rfl) (by kernel_rfl) (fun _ _ _ h => h) (hSq) (Or.inl ⟨by kernel_rfl, fun w' hS' => by go_simp⟩) ?_
              simp only [List.setIfInBounds_toArray, List.set_cons_zero, List.set_cons_succ]
              refine takeH_at 2 128 (.pointer (some ⟨t, 0, none⟩)) rfl rfl (by kernel_rfl) (by kernel_rfl) (by kernel_rfl) (fun _ _ _ h => h) (hSq) (Or.inl ⟨by kernel_rfl, fun w' hS' => by go_simp⟩) ?_
              simp only [List.setIfInBounds_toArray, List.set_cons_zero, List.set_cons_succ]
              refine takeH_at 3 129 (.pointer (some ⟨t, 6, none⟩)) rfl rfl (by kernel_rfl) (by kernel_rfl) (by kernel_rfl) (fun _ _ _ h => h) (hSq) (Or.inl ⟨by kernel_rfl, fun w' hS' => by go_simp⟩) ?_
              simp only [List.setIfInBounds_toArray, List.set_cons_zero, List.set_cons_succ]
              refine takeH_at 4 130 (.pointer (some ⟨t, 6 + i * 4, none⟩)) rfl rfl (by kernel_rfl) (by kernel_rfl) (by kernel_rfl) (fun _ _ _ h => h) (hSq) (Or.inl ⟨by kernel_rfl, fun w' hS' => by go_simp⟩) ?_
              simp only [List.setIfInBounds_toArray, List.set_cons_zero, List.set_cons_succ]
              refine takeH_at 5 131 (.pointer (some ⟨t, 6 + i * 4, none⟩)) rfl rfl (by kernel_rfl) (by kernel_rfl) (by kernel_rfl) (fun _ _ _ h => h) (hSq) (Or.inl ⟨by kernel_rfl, fun w' hS' => by go_simp⟩) ?_
              simp only [List.setIfInBounds_toArray, List.set_cons_zero, List.set_cons_succ]
              refine takeH_at 6 132 (.int .i64 hv) rfl rfl (by kernel_rfl) (by kernel_rfl) (by kernel_rfl) (fun _ _ _ h => h) (hSq) (Or.inl ⟨by kernel_rfl, fun w' hS' => by have q1 := hS'.1; go_simp⟩) ?_
              simp only [List.setIfInBounds_toArray, List.set_cons_zero, List.set_cons_succ]
              refine takeH_at 7 133 (.bool false) rfl rfl (by kernel_rfl) (by kernel_rfl) (by kernel_rfl) (fun _ _ _ h => h) (hSq) (Or.inl ⟨by kernel_rfl, fun w' hS' => by go_simp⟩) ?_
              simp only [List.setIfInBounds_toArray, List.set_cons_zero, List.set_cons_succ]
              refine takeH_at 8 134 (.bool true) rfl rfl (by kernel_rfl) (by kernel_rfl) (by kernel_rfl) (fun _ _ _ h => h) (hSq) (Or.inl ⟨by kernel_rfl, fun w' hS' => by go_simp⟩) ?_
              simp only [List.setIfInBounds_toArray, List.set_cons_zero, List.set_cons_succ]
              refine takeH_at 9 135 (.bool false) rfl rfl (by kernel_rfl) (by kernel_rfl) (by kernel_rfl) (fun _ _ _ h => h) (hSq) (Or.inl ⟨by kernel_rfl, fun w' hS' => by go_simp⟩) ?_
              simp only [List.setIfInBounds_toArray, List.set_cons_zero, List.set_cons_succ]
              refine takeH_at 10 136 (.bool false) rfl rfl (by kernel_rfl) (by kernel_rfl) (by kernel_rfl) (fun _ _ _ h => h) (hSq) (Or.inl ⟨by kernel_rfl, fun w' hS' => by go_simp⟩) ?_
              simp only [List.setIfInBounds_toArray, List.set_cons_zero, List.set_cons_succ]
              refine takeH_at 11 137 undef rfl rfl (by kernel_rfl) (by kernel_rfl) (by kernel_rfl) (fun _ _ _ h => h) (hSq) (Or.inr ⟨by kernel_rfl, rfl⟩) ?_
              simp only [List.setIfInBounds_toArray, List.set_cons_zero, List.set_cons_succ]
              refine takeH_at 12 138 undef rfl rfl (by kernel_rfl) (by kernel_rfl) (by kernel_rfl) (fun _ _ _ h => h) (hSq) (Or.inr ⟨by kernel_rfl, rfl⟩) ?_
              simp only [List.setIfInBounds_toArray, List.set_cons_zero, List.set_cons_succ]
              refine takeH_at 13 139 undef rfl rfl (by kernel_rfl) (by kernel_rfl) (by kernel_rfl) (fun _ _ _ h => h) (hSq) (Or.inr ⟨by kernel_rfl, rfl⟩) ?_
              simp only [List.setIfInBounds_toArray, List.set_cons_zero, List.set_cons_succ]
              refine takeH_at 14 140 undef rfl rfl (by kernel_rfl) (by kernel_rfl) (by kernel_rfl) (fun _ _ _ h => h) (hSq) (Or.inr ⟨by kernel_rfl, rfl⟩) ?_
              simp only [List.setIfInBounds_toArray, List.set_cons_zero, List.set_cons_succ]
              refine takeH_at 15 141 undef rfl rfl (by kernel_rfl) (by kernel_rfl) (by kernel_rfl) (fun _ _ _ h => h) (hSq) (Or.inr ⟨by kernel_rfl, rfl⟩) ?_
              simp only [List.setIfInBounds_toArray, List.set_cons_zero, List.set_cons_succ]
              refine takeH_at 16 142 undef rfl rfl (by kernel_rfl) (by kernel_rfl) (by kernel_rfl) (fun _ _ _ h => h) (hSq) (Or.inr ⟨by kernel_rfl, rfl⟩) ?_
              simp only [List.setIfInBounds_toArray, List.set_cons_zero, List.set_cons_succ]
              refine takeH_at 17 143 undef rfl rfl (by kernel_rfl) (by kernel_rfl) (by kernel_rfl) (fun _ _ _ h => h) (hSq) (Or.inr ⟨by kernel_rfl, rfl⟩) ?_
              simp only [List.setIfInBounds_toArray, List.set_cons_zero, List.set_cons_succ]
              refine takeH_at 18 144 (.bool false) rfl rfl (by kernel_rfl) (by kernel_rfl) (by kernel_rfl) (fun _ _ _ h => h) (hSq) (Or.inl ⟨by kernel_rfl, fun w' hS' => by go_simp⟩) ?_
              simp only [List.setIfInBounds_toArray, List.set_cons_zero, List.set_cons_succ]
              refine takeH_at 19 145 (.bool false) rfl rfl (by kernel_rfl) (by kernel_rfl) (by kernel_rfl) (fun _ _ _ h => h) (hSq) (Or.inl ⟨by kernel_rfl, fun w' hS' => by go_simp⟩) ?_
              simp only [List.setIfInBounds_toArray, List.set_cons_zero, List.set_cons_succ]
              refine takeH_at 20 146 (.bool true) rfl rfl (by kernel_rfl) (by kernel_rfl) (by kernel_rfl) (fun _ _ _ h => h) (hSq) (Or.inl ⟨by kernel_rfl, fun w' hS' => by go_simp⟩) ?_
              simp only [List.setIfInBounds_toArray, List.set_cons_zero, List.set_cons_succ]
              refine takeH_at 21 147 (.bool true) rfl rfl (by kernel_rfl) (by kernel_rfl) (by kernel_rfl) (fun _ _ _ h => h) (hSq) (Or.inl ⟨by kernel_rfl, fun w' hS' => by go_simp⟩) ?_
              simp only [List.setIfInBounds_toArray, List.set_cons_zero, List.set_cons_succ]
              refine takeH_at 22 148 (.pointer (some ⟨t, 0, none⟩)) rfl rfl (by kernel_rfl) (by kernel_rfl) (by kernel_rfl) (fun _ _ _ h => h) (hSq) (Or.inl ⟨by kernel_rfl, fun w' hS' => by go_simp⟩) ?_
              simp only [List.setIfInBounds_toArray, List.set_cons_zero, List.set_cons_succ]
              refine takeH_at 23 149 (.int .i64 (i : Nat)) rfl rfl (by kernel_rfl) (by kernel_rfl) (by kernel_rfl) (fun _ _ _ h => h) (hSq) (Or.inl ⟨by kernel_rfl, fun w' hS' => by go_simp⟩) ?_
              simp only [List.setIfInBounds_toArray, List.set_cons_zero, List.set_cons_succ]
              refine takeH_at 24 150 (.pointer (some ⟨t, 0, none⟩)) rfl rfl (by kernel_rfl) (by kernel_rfl) (by kernel_rfl) (fun _ _ _ h => h) (hSq) (Or.inl ⟨by kernel_rfl, fun w' hS' => by go_simp⟩) ?_
              simp only [List.setIfInBounds_toArray, List.set_cons_zero, List.set_cons_succ]
              refine takeH_at 25 151 (.pointer (some ⟨t, 3, none⟩)) rfl rfl (by kernel_rfl) (by kernel_rfl) (by kernel_rfl) (fun _ _ _ h => h) (hSq) (Or.inl ⟨by kernel_rfl, fun w' hS' => by go_simp⟩) ?_
              simp only [List.setIfInBounds_toArray, List.set_cons_zero, List.set_cons_succ]
              refine takeH_at 26 152 (.pointer (some ⟨t, 3 + i, none⟩)) rfl rfl (by kernel_rfl) (by kernel_rfl) (by kernel_rfl) (fun _ _ _ h => h) (hSq) (Or.inl ⟨by kernel_rfl, fun w' hS' => by go_simp⟩) ?_
              simp only [List.setIfInBounds_toArray, List.set_cons_zero, List.set_cons_succ]
              refine takeH_at 27 153 (.pointer (some ⟨q, 0, none⟩)) rfl rfl (by kernel_rfl) (by kernel_rfl) (by kernel_rfl) (fun _ _ _ h => h) (hSq) (Or.inl ⟨by kernel_rfl, fun w' hS' => by have q1 := hS'.2; go_simp⟩) ?_
              simp only [List.setIfInBounds_toArray, List.set_cons_zero, List.set_cons_succ]
              refine takeH_at 28 154 (.bool false) rfl rfl (by kernel_rfl) (by kernel_rfl) (by kernel_rfl) (fun _ _ _ h => h) (hSq) (Or.inl ⟨by kernel_rfl, fun w' hS' => by go_simp⟩) ?_
              simp only [List.setIfInBounds_toArray, List.set_cons_zero, List.set_cons_succ]
              refine takeH_at 29 155 (.bool false) rfl rfl (by kernel_rfl) (by kernel_rfl) (by kernel_rfl) (fun _ _ _ h => h) (hSq) (Or.inl ⟨by kernel_rfl, fun w' hS' => by go_simp⟩) ?_
              simp only [List.setIfInBounds_toArray, List.set_cons_zero, List.set_cons_succ]
              refine takeH_at 30 156 (.bool false) rfl rfl (by kernel_rfl) (by kernel_rfl) (by kernel_rfl) (fun _ _ _ h => h) (hSq) (Or.inl ⟨by kernel_rfl, fun w' hS' => by go_simp⟩) ?_
              simp only [List.setIfInBounds_toArray, List.set_cons_zero, List.set_cons_succ]
              refine takeH_at 31 157 (.bool true) rfl rfl (by kernel_rfl) (by kernel_rfl) (by kernel_rfl) (fun _ _ _ h => h) (hSq) (Or.inl ⟨by kernel_rfl, fun w' hS' => by go_simp⟩) ?_
              simp only [List.setIfInBounds_toArray, List.set_cons_zero, List.set_cons_succ]
              refine takeH_at 32 6 (.bool true) rfl rfl (by kernel_rfl) (by kernel_rfl) (by kernel_rfl) (fun _ _ _ h => h) (hSq) (Or.inl ⟨by kernel_rfl, fun w' hS' => by go_simp⟩) ?_
              simp only [List.setIfInBounds_toArray, List.set_cons_zero, List.set_cons_succ]
              refine wpAnyH_done (by kernel_rfl) ?_ _
              refine NoPanic.normal ?_
              have HE2 : Hid (TSD w5.drew B t true (upd3 d i (cpS (d j) (some q))) kv wv ts left ∧ Below B u w5.drew) := by
                have hb : Below w5.heap.size w5 w5.drew := (Below.refl _ _).drew
                exact ⟨HE.out.1.below hb, (HB1.out.trans HE.out.2).trans (hb.mono (Nat.le_trans HSz.out HE.out.2.size))⟩
              clear hSq hci hfi
              generalize w5.drew = w6 at HE2 ⊢
              go_wp2
              go_ret
              exact ⟨rfl, ⟨_, kv, wv, ts, left, by omega, HE2.out.1⟩, HE2.out.2⟩
          · have k5' : (ok == 5) = false := by simpa using k5
            by_cases k6 : ok = 6
            · subst k6
              cases hgi : (d i).g with
              | none =>
                have hno : d i = Sl.no := (H1.out.s.sl i hi).nil hgi
                have K33 : Hid (Calls Tryd.prog 33 #[.pointer none] w1.drew fun e v => e = .returned (.int .i64 0) ∧ v = w1.drew) := msize_nil _
                have K16 : Hid (Calls Tryd.prog 16 #[.int .i64 0] w1.drew fun e v => e = .returned (.int .i64 0) ∧ v = w1.drew) := rsize_bad 0 (fun k => by rcases k with e | e | e | e <;> omega) _
                have hci : w1.cell? ⟨t, 3 + i, none⟩ = some (.pointer none) := by
                  have := H1.out.s.cm i hi
                  rw [hgi] at this
                  exact this
                have hfi : w1.cell? ⟨t, 6 + i * 4, none⟩ = some (.int .i64 0) := by
                  have := H1.out.s.fh i hi
                  rw [hno] at this
                  exact this
                go_upto_region 24 with fail
                have hSq : w1.drew.cell? ⟨t, 6 + i * 4, none⟩ = some (.int .i64 0) ∧ w1.drew.cell? ⟨t, 3 + i, none⟩ = some (.pointer none) := ⟨hfi, hci⟩
                refine wp_region_noPanic ?_
                refine wp_region_held_drew (S := fun v => v.cell? ⟨t, 6 + i * 4, none⟩ = some (.int .i64 0) ∧ v.cell? ⟨t, 3 + i, none⟩ = some (.pointer none)) (by kernel_rfl) (hSq) (fun _ => ?_)
                refine takeH_at 0 161 (.pointer (some ⟨t, 0, none⟩)) rfl rfl (by kernel_rfl) (by kernel_rfl) (by kernel_rfl) (fun _ _ _ h => h) (hSq) (Or.inl ⟨by kernel_rfl, fun w' hS' => by go_simp⟩) ?_
                simp only [List.setIfInBounds_toArray, List.set_cons_zero, List.set_cons_succ]
                refine takeH_at 1 162 (.int .i64 (i : Nat)) rfl rfl (by kernel_rfl) (by kernel_rfl) (by kernel_rfl) (fun _ _ _ h => h) (hSq) (Or.inl ⟨by kernel_rfl, fun w' hS' => by go_simp⟩) ?_
                simp only [List.setIfInBounds_toArray, List.set_cons_zero, List.set_cons_succ]
                refine takeH_at 2 163 (.pointer (some ⟨t, 0, none⟩)) rfl rfl (by kernel_rfl) (by kernel_rfl) (by kernel_rfl) (fun _ _ _ h => h) (hSq) (Or.inl ⟨by kernel_rfl, fun w' hS' => by go_simp⟩) ?_
                simp only [List.setIfInBounds_toArray, List.set_cons_zero, List.set_cons_succ]
                refine takeH_at 3 164 (.pointer (some ⟨t, 3, none⟩)) rfl rfl (by kernel_rfl) (by kernel_rfl) (by kernel_rfl) (fun _ _ _ h => h) (hSq) (Or.inl ⟨by kernel_rfl, fun w' hS' => by go_simp⟩) ?_
                simp only [List.setIfInBounds_toArray, List.set_cons_zero, List.set_cons_succ]
                refine takeH_at 4 165 (.pointer (some ⟨t, 3 + i, none⟩)) rfl rfl (by kernel_rfl) (by kernel_rfl) (by kernel_rfl) (fun _ _ _ h => h) (hSq) (Or.inl ⟨by kernel_rfl, fun w' hS' => by go_simp⟩) ?_
                simp only [List.setIfInBounds_toArray, List.set_cons_zero, List.set_cons_succ]
                refine takeH_at 5 166 (.pointer none) rfl rfl (by kernel_rfl) (by kernel_rfl) (by kernel_rfl) (fun _ _ _ h => h) (hSq) (Or.inl ⟨by kernel_rfl, fun w' hS' => by have q1 := hS'.2; go_simp⟩) ?_
                simp only [List.setIfInBounds_toArray, List.set_cons_zero, List.set_cons_succ]
                refine takeH_at 7 168 (.pointer (some ⟨t, 0, none⟩)) rfl rfl (by kernel_rfl) (by kernel_rfl) (by kernel_rfl) (fun _ _ _ h => h) (hSq) (Or.inl ⟨by kernel_rfl, fun w' hS' => by go_simp⟩) ?_
                simp only [List.setIfInBounds_toArray, List.set_cons_zero, List.set_cons_succ]
                refine takeH_at 8 169 (.int .i64 (i : Nat)) rfl rfl (by kernel_rfl) (by kernel_rfl) (by kernel_rfl) (fun _ _ _ h => h) (hSq) (Or.inl ⟨by kernel_rfl, fun w' hS' => by go_simp⟩) ?_
                simp only [List.setIfInBounds_toArray, List.set_cons_zero, List.set_cons_succ]
                refine takeH_at 9 170 (.pointer (some ⟨t, 0, none⟩)) rfl rfl (by kernel_rfl) (by kernel_rfl) (by kernel_rfl) (fun _ _ _ h => h) (hSq) (Or.inl ⟨by kernel_rfl, fun w' hS' => by go_simp⟩) ?_
                simp only [List.setIfInBounds_toArray, List.set_cons_zero, List.set_cons_succ]
                refine takeH_at 10 171 (.pointer (some ⟨t, 6, none⟩)) rfl rfl (by kernel_rfl) (by kernel_rfl) (by kernel_rfl) (fun _ _ _ h => h) (hSq) (Or.inl ⟨by kernel_rfl, fun w' hS' => by go_simp⟩) ?_
                simp only [List.setIfInBounds_toArray, List.set_cons_zero, List.set_cons_succ]
                refine takeH_at 11 172 (.pointer (some ⟨t, 6 + i * 4, none⟩)) rfl rfl (by kernel_rfl) (by kernel_rfl) (by kernel_rfl) (fun _ _ _ h => h) (hSq) (Or.inl ⟨by kernel_rfl, fun w' hS' => by go_simp⟩) ?_
                simp only [List.setIfInBounds_toArray, List.set_cons_zero, List.set_cons_succ]
                refine takeH_at 12 173 (.pointer (some ⟨t, 6 + i * 4, none⟩)) rfl rfl (by kernel_rfl) (by kernel_rfl) (by kernel_rfl) (fun _ _ _ h => h) (hSq) (Or.inl ⟨by kernel_rfl, fun w' hS' => by go_simp⟩) ?_
                simp only [List.setIfInBounds_toArray, List.set_cons_zero, List.set_cons_succ]
                refine takeH_at 13 174 (.int .i64 0) rfl rfl (by kernel_rfl) (by kernel_rfl) (by kernel_rfl) (fun _ _ _ h => h) (hSq) (Or.inl ⟨by kernel_rfl, fun w' hS' => by have q1 := hS'.1; go_simp⟩) ?_
                simp only [List.setIfInBounds_toArray, List.set_cons_zero, List.set_cons_succ]
                refine wpAnyH_ready (rs := [6]) (by kernel_rfl) (by simp) ?_
                refine AllReadyH.cons rfl (fun Kx hK => ?_) AllReadyH.nil
                rw [if_pos (by kernel_rfl)]
                go_simp
                refine (K33.out).mono ?_
                rintro e1 q1 ⟨rfl, hq1⟩
                obtain rfl := hq1.symm
                go_wp2_with fail
                refine hK.out _ _ hSq (fun _ => ?_)
                clear hK Kx
                try simp only [Act.put, List.setIfInBounds_toArray, List.set_cons_zero, List.set_cons_succ]
                refine wpAnyH_ready (rs := [14]) (by kernel_rfl) (by simp) ?_
                refine AllReadyH.cons rfl (fun Kx hK => ?_) AllReadyH.nil
                rw [if_pos (by kernel_rfl)]
                go_simp
                refine (K16.out).mono ?_
                rintro e1 q1 ⟨rfl, hq1⟩
                obtain rfl := hq1.symm
                go_wp2_with fail
                refine hK.out _ _ hSq (fun _ => ?_)
                clear hK Kx
                try simp only [Act.put, List.setIfInBounds_toArray, List.set_cons_zero, List.set_cons_succ]
                refine takeH_at 15 176 (.bool true) rfl rfl (by kernel_rfl) (by kernel_rfl) (by kernel_rfl) (fun _ _ _ h => h) (hSq) (Or.inl ⟨by kernel_rfl, fun w' hS' => by go_simp⟩) ?_
                simp only [List.setIfInBounds_toArray, List.set_cons_zero, List.set_cons_succ]
                refine takeH_at 16 6 (.bool true) rfl rfl (by kernel_rfl) (by kernel_rfl) (by kernel_rfl) (fun _ _ _ h => h) (hSq) (Or.inl ⟨by kernel_rfl, fun w' hS' => by go_simp⟩) ?_
                simp only [List.setIfInBounds_toArray, List.set_cons_zero, List.set_cons_succ]
                refine wpAnyH_done (by kernel_rfl) ?_ _
                refine NoPanic.normal ?_
                have HE : Hid (TSD w1.drew B t true d kv wv ts left ∧ Below B u w1.drew) := by
                  have hb : Below w1.heap.size w1 w1.drew := (Below.refl _ _).drew
                  exact ⟨H1.out.below hb, HB1.out.trans (hb.mono HSz.out)⟩
                clear hSq hci hfi K33 K16
                generalize w1.drew = w6 at HE ⊢
                go_wp2
                go_ret
                exact ⟨rfl, ⟨d, kv, wv, ts, left, by omega, HE.out.1⟩, HE.out.2⟩
              | some g =>
                obtain ⟨kk, _, _, hob⟩ := (H1.out.s.sl i hi).obj g hgi
                have hob' : MRep w1 g (d i).h (stateOf (d i).h (d i).key 54) (stateOf (d i).h (d i).key 92) (d i).zs := hob
                obtain ⟨hv, HHV⟩ : ∃ x, Hid (x = (d i).h) := ⟨_, rfl⟩
                obtain ⟨sz, HSZ⟩ : ∃ x, Hid (x = szOf (d i).h) := ⟨_, rfl⟩
                have K33 : Hid (Calls Tryd.prog 33 #[.pointer (some ⟨g, 0, none⟩)] w1.drew fun e v => e = .returned (.int .i64 (sz : Nat)) ∧ v = w1.drew) := by
                  rw [HSZ.out]
                  obtain ⟨half, hk, _⟩ := hob'.1
                  exact msize g (d i).h _ kk hk.hash
                have K16 : Hid (Calls Tryd.prog 16 #[.int .i64 hv] w1.drew fun e v => e = .returned (.int .i64 (sz : Nat)) ∧ v = w1.drew) := by rw [HHV.out, HSZ.out]; exact rsize_ok _ kk _
                have hci : w1.cell? ⟨t, 3 + i, none⟩ = some (.pointer (some ⟨g, 0, none⟩)) := by
                  have := H1.out.s.cm i hi
                  rw [hgi] at this
                  exact this
                have hfi : w1.cell? ⟨t, 6 + i * 4, none⟩ = some (.int .i64 hv) := by rw [HHV.out]; exact H1.out.s.fh i hi
                clear hob hob' kk
                go_upto_region 24 with fail
                have hSq : w1.drew.cell? ⟨t, 6 + i * 4, none⟩ = some (.int .i64 hv) ∧ w1.drew.cell? ⟨t, 3 + i, none⟩ = some (.pointer (some ⟨g, 0, none⟩)) := ⟨hfi, hci⟩
                refine wp_region_noPanic ?_
                refine wp_region_held_drew (S := fun v => v.cell? ⟨t, 6 + i * 4, none⟩ = some (.int .i64 hv) ∧ v.cell? ⟨t, 3 + i, none⟩ = some (.pointer (some ⟨g, 0, none⟩))) (by kernel_rfl) (hSq) (fun _ => ?_)
                refine takeH_at 0 161 (.pointer (some ⟨t, 0, none⟩)) rfl rfl (by kernel_rfl) (by kernel_rfl) (by kernel_rfl) (fun _ _ _ h => h) (hSq) (Or.inl ⟨by kernel_rfl, fun w' hS' => by go_simp⟩) ?_
                simp only [List.setIfInBounds_toArray, List.set_cons_zero, List.set_cons_succ]
                refine takeH_at 1 162 (.int .i64 (i : Nat)) rfl rfl (by kernel_rfl) (by kernel_rfl) (by kernel_rfl) (fun _ _ _ h => h) (hSq) (Or.inl ⟨by kernel_rfl, fun w' hS' => by go_simp⟩) ?_
                simp only [List.setIfInBounds_toArray, List.set_cons_zero, List.set_cons_succ]
                refine takeH_at 2 163 (.pointer (some ⟨t, 0, none⟩)) rfl rfl (by kernel_rfl) (by kernel_rfl) (by kernel_rfl) (fun _ _ _ h => h) (hSq) (Or.inl ⟨by kernel_rfl, fun w' hS' => by go_simp⟩) ?_
                simp only [List.setIfInBounds_toArray, List.set_cons_zero, List.set_cons_succ]
                refine takeH_at 3 164 (.pointer (some ⟨t, 3, none⟩)) rfl rfl (by kernel_rfl) (by kernel_rfl) (by kernel_rfl) (fun _ _ _ h => h) (hSq) (Or.inl ⟨by kernel_rfl, fun w' hS' => by go_simp⟩) ?_
                simp only [List.setIfInBounds_toArray, List.set_cons_zero, List.set_cons_succ]
                refine takeH_at 4 165 (.pointer (some ⟨t, 3 + i, none⟩)) rfl rfl (by kernel_rfl) (by kernel_rfl) (by kernel_rfl) (fun _ _ _ h => h) (hSq) (Or.inl ⟨by kernel_rfl, fun w' hS' => by go_simp⟩) ?_
                simp only [List.setIfInBounds_toArray, List.set_cons_zero, List.set_cons_succ]
                refine takeH_at 5 166 (.pointer (some ⟨g, 0, none⟩)) rfl rfl (by kernel_rfl) (by kernel_rfl) (by kernel_rfl) (fun _ _ _ h => h) (hSq) (Or.inl ⟨by kernel_rfl, fun w' hS' => by have q1 := hS'.2; go_simp⟩) ?_
                simp only [List.setIfInBounds_toArray, List.set_cons_zero, List.set_cons_succ]
                refine takeH_at 7 168 (.pointer (some ⟨t, 0, none⟩)) rfl rfl (by kernel_rfl) (by kernel_rfl) (by kernel_rfl) (fun _ _ _ h => h) (hSq) (Or.inl ⟨by kernel_rfl, fun w' hS' => by go_simp⟩) ?_
                simp only [List.setIfInBounds_toArray, List.set_cons_zero, List.set_cons_succ]
                refine takeH_at 8 169 (.int .i64 (i : Nat)) rfl rfl (by kernel_rfl) (by kernel_rfl) (by kernel_rfl) (fun _ _ _ h => h) (hSq) (Or.inl ⟨by kernel_rfl, fun w' hS' => by go_simp⟩) ?_
                simp only [List.setIfInBounds_toArray, List.set_cons_zero, List.set_cons_succ]
                refine takeH_at 9 170 (.pointer (some ⟨t, 0, none⟩)) rfl rfl (by kernel_rfl) (by kernel_rfl) (by kernel_rfl) (fun _ _ _ h => h) (hSq) (Or.inl ⟨by kernel_rfl, fun w' hS' => by go_simp⟩) ?_
                simp only [List.setIfInBounds_toArray, List.set_cons_zero, List.set_cons_succ]
                refine takeH_at 10 171 (.pointer (some ⟨t, 6, none⟩)) rfl rfl (by kernel_rfl) (by kernel_rfl) (by kernel_rfl) (fun _ _ _ h => h) (hSq) (Or.inl ⟨by kernel_rfl, fun w' hS' => by go_simp⟩) ?_
                simp only [List.setIfInBounds_toArray, List.set_cons_zero, List.set_cons_succ]
                refine takeH_at 11 172 (.pointer (some ⟨t, 6 + i * 4, none⟩)) rfl rfl (by kernel_rfl) (by kernel_rfl) (by kernel_rfl) (fun _ _ _ h => h) (hSq) (Or.inl ⟨by kernel_rfl, fun w' hS' => by go_simp⟩) ?_
                simp only [List.setIfInBounds_toArray, List.set_cons_zero, List.set_cons_succ]
                refine takeH_at 12 173 (.pointer (some ⟨t, 6 + i * 4, none⟩)) rfl rfl (by kernel_rfl) (by kernel_rfl) (by kernel_rfl) (fun _ _ _ h => h) (hSq) (Or.inl ⟨by kernel_rfl, fun w' hS' => by go_simp⟩) ?_
                simp only [List.setIfInBounds_toArray, List.set_cons_zero, List.set_cons_succ]
                refine takeH_at 13 174 (.int .i64 hv) rfl rfl (by kernel_rfl) (by kernel_rfl) (by kernel_rfl) (fun _ _ _ h => h) (hSq) (Or.inl ⟨by kernel_rfl, fun w' hS' => by have q1 := hS'.1; go_simp⟩) ?_
                simp only [List.setIfInBounds_toArray, List.set_cons_zero, List.set_cons_succ]
                refine wpAnyH_ready (rs := [6]) (by kernel_rfl) (by simp) ?_
                refine AllReadyH.cons rfl (fun Kx hK => ?_) AllReadyH.nil
                rw [if_pos (by kernel_rfl)]
                go_simp
                refine (K33.out).mono ?_
                rintro e1 q1 ⟨rfl, hq1⟩
                obtain rfl := hq1.symm
                go_wp2_with fail
                refine hK.out _ _ hSq (fun _ => ?_)
                clear hK Kx
                try simp only [Act.put, List.setIfInBounds_toArray, List.set_cons_zero, List.set_cons_succ]
                refine wpAnyH_ready (rs := [14]) (by kernel_rfl) (by simp) ?_
                refine AllReadyH.cons rfl (fun Kx hK => ?_) AllReadyH.nil
                rw [if_pos (by kernel_rfl)]
                go_simp
                refine (K16.out).mono ?_
                rintro e1 q1 ⟨rfl, hq1⟩
                obtain rfl := hq1.symm
                go_wp2_with fail
                refine hK.out _ _ hSq (fun _ => ?_)
                clear hK Kx
                try simp only [Act.put, List.setIfInBounds_toArray, List.set_cons_zero, List.set_cons_succ]
                refine takeH_at 15 176 (.bool true) rfl rfl (by kernel_rfl) (by kernel_rfl) (by kernel_rfl) (fun _ _ _ h => h) (hSq) (Or.inl ⟨by kernel_rfl, fun w' hS' => by go_simp⟩) ?_
                simp only [List.setIfInBounds_toArray, List.set_cons_zero, List.set_cons_succ]
                refine takeH_at 16 6 (.bool true) rfl rfl (by kernel_rfl) (by kernel_rfl) (by kernel_rfl) (fun _ _ _ h => h) (hSq) (Or.inl ⟨by kernel_rfl, fun w' hS' => by go_simp⟩) ?_
                simp only [List.setIfInBounds_toArray, List.set_cons_zero, List.set_cons_succ]
                refine wpAnyH_done (by kernel_rfl) ?_ _
                refine NoPanic.normal ?_
                have HE : Hid (TSD w1.drew B t true d kv wv ts left ∧ Below B u w1.drew) := by
                  have hb : Below w1.heap.size w1 w1.drew := (Below.refl _ _).drew
                  exact ⟨H1.out.below hb, HB1.out.trans (hb.mono HSz.out)⟩
                clear hSq hci hfi K33 K16
                generalize w1.drew = w6 at HE ⊢
                go_wp2
                go_ret
                exact ⟨rfl, ⟨d, kv, wv, ts, left, by omega, HE.out.1⟩, HE.out.2⟩
            · have k6' : (ok == 6) = false := by simpa using k6
              go_wp2
              go_ret
              exact ⟨rfl, ⟨d, kv, wv, ts, left, by omega, H1.out⟩, HB1.out⟩
end Go.Proofs.YtioggmjocelolacDoor
