import Derived.Test.YtioggmjocelolacDoorStlH
namespace Go.Proofs.YtioggmjocelolacDoor
open Go.RowKit
set_option linter.unusedVariables false
set_option linter.unusedSimpArgs false
set_option maxHeartbeats 800000 in
set_option maxRecDepth 100000 in
theorem stl_long (h t n : Int) (pa sa ia : Option Addr) (pn pc sn sc il ic : Nat) (w : World) (hp0 : pn ≤ 140737488355328) (hs0 : sn ≤ 140737488355328) (hc : 65536 < pn + sn) :
    Calls Tryd.prog 4 #[.agg #[.int .i64 h, .slice pa pn pc, .slice sa sn sc, .slice ia il ic, .int .i64 t, .int .i64 n]] w fun e w' => e = .returned (.bool true) ∧ Below w.heap.size w w' := by
  obtain ⟨w0, hw0⟩ : ∃ w0, w0 = w.alloc (.cells #[.int .i64 h, .slice pa pn pc, .slice sa sn sc, .slice ia il ic, .int .i64 t, .int .i64 n] 32) := ⟨_, rfl⟩
  have HB00 : Hid (Below w.heap.size w w0) := by rw [hw0]; exact (Below.refl _ _).alloc (Nat.le_refl _) _
  have F : ∀ j v, #[Value.int .i64 h, .slice pa pn pc, .slice sa sn sc, .slice ia il ic, .int .i64 t, .int .i64 n][j]? = some v → w0.cell? ⟨w.heap.size, j, none⟩ = some v := fun j v hj => by
    rw [hw0, World.cell?_alloc_mark]
    exact hj
  have f0 := F 0 _ rfl
  have f1 := F 1 _ rfl
  have f2 := F 2 _ rfl
  have f4 := F 4 _ rfl
  have f5 := F 5 _ rfl
  clear F
  have d1 : (65536 : Int) < (pn : Nat) + (sn : Nat) := by omega
  go_enter Tryd.func4, Tryd.ntmps4
  go_upto_region 1 with fail
  rw [← hw0]
  clear hw0
  go_wp2
  go_ret
  exact ⟨rfl, HB00.out⟩
theorem stl_ok (h t n : Int) (pa sa ia : Option Addr) (pn pc sn sc il ic : Nat) (pass salt : List Int) (w : World) (hT : Tables w) (hR : RTab w) (hpv : View w (.slice pa pn pc) pass) (HPl : pass.length = pn) (hsv : View w (.slice sa sn sc) salt) (HSl : salt.length = sn) (hp0 : pn ≤ 140737488355328) (hs0 : sn ≤ 140737488355328) (hn1 : -9223372036854775808 ≤ n) (hn2 : n ≤ 9223372036854775807) (ht1 : -9223372036854775808 ≤ t) (ht2 : t ≤ 9223372036854775807) :
    Calls Tryd.prog 4 #[.agg #[.int .i64 h, .slice pa pn pc, .slice sa sn sc, .slice ia il ic, .int .i64 t, .int .i64 n]] w fun e w' => e = .returned (.bool true) ∧ Below w.heap.size w w' := by
  by_cases c0 : 65536 < pn + sn
  · exact stl_long h t n pa sa ia pn pc sn sc il ic w hp0 hs0 c0
  have hps : pn + sn ≤ 65536 := by omega
  have err : ∀ E : Int, strE h t n = E → (E == 0) = false → 0 ≤ E → E ≤ 15 → Calls Tryd.prog 4 #[.agg #[.int .i64 h, .slice pa pn pc, .slice sa sn sc, .slice ia il ic, .int .i64 t, .int .i64 n]] w fun e w' => e = .returned (.bool true) ∧ Below w.heap.size w w' := fun E h1 h2 h3 h4 =>
    stl_err h t n E h1 h2 h3 h4 pa sa ia pn pc sn sc il ic pass salt w hT hR hpv HPl hsv HSl hps hn1 hn2 ht1 ht2
  by_cases k : Known h
  · have hs := szOf_pos k
    have hE : strE h t n = if t < 1 ∨ 1048576 < t then 11 else if n < 1 ∨ 65536 < n ∨ 2097152 < t * ((n + szOf h - 1).tdiv (szOf h)) then 12 else 0 := by
      unfold strE
      rw [if_neg (show ¬ ¬ (h = 224 ∨ h = 256 ∨ h = 384 ∨ h = 512) from fun q => q k)]
    by_cases c1 : t < 1 ∨ 1048576 < t
    · exact err 11 (by rw [hE, if_pos c1]) rfl (by decide) (by decide)
    by_cases c2 : n < 1 ∨ 65536 < n ∨ 2097152 < t * ((n + szOf h - 1).tdiv (szOf h))
    · exact err 12 (by rw [hE, if_neg c1, if_pos c2]) rfl (by decide) (by decide)
    rw [if_neg c1, if_neg c2] at hE
    obtain ⟨m, rfl⟩ : ∃ m : Nat, n = m := ⟨n.toNat, by omega⟩
    have hm : 1 ≤ m ∧ m ≤ 65536 := by omega
    have hD0 : 0 ≤ ((m : Nat) + (szOf h : Nat) - 1 : Int).tdiv (szOf h : Nat) ∧ ((m : Nat) + (szOf h : Nat) - 1 : Int).tdiv (szOf h : Nat) ≤ 65600 := by
      rw [Int.tdiv_eq_ediv_of_nonneg (by omega)]
      refine ⟨Int.ediv_nonneg (by omega) (by omega), ?_⟩
      have := Int.ediv_le_self (a := (m : Nat) + (szOf h : Nat) - 1) (szOf h : Nat) (by omega)
      omega
    obtain ⟨D, hD⟩ : ∃ D : Nat, ((m : Nat) + (szOf h : Nat) - 1 : Int).tdiv (szOf h : Nat) = (D : Nat) := ⟨(((m : Nat) + (szOf h : Nat) - 1 : Int).tdiv (szOf h : Nat)).toNat, by omega⟩
    have hM : 0 ≤ t * (D : Nat) ∧ t * (D : Nat) ≤ 2097152 := by
      refine ⟨Int.mul_nonneg (by omega) (by omega), ?_⟩
      rw [← hD]
      omega
    by_cases c3 : 600 < t
    · exact stl_b h t m D _ k hE (szOf h) rfl hs hD (by omega) rfl hM hm (by omega) c3 pa sa ia pn pc sn sc il ic pass salt w hT hR hpv HPl hsv HSl hps
    by_cases c4 : 600 < t * (D : Nat)
    · exact stl_c h t m D _ k hE (szOf h) rfl hs hD (by omega) rfl hM hm (by omega) c3 c4 pa sa ia pn pc sn sc il ic pass salt w hT hR hpv HPl hsv HSl hps
    · exact stl_a h t m D _ k hE (szOf h) rfl hs hD (by omega) rfl hM hm (by omega) c3 c4 pa sa ia pn pc sn sc il ic pass salt w hT hR hpv HPl hsv HSl hps
  · exact err 10 (by unfold strE; rw [if_pos (show ¬ (h = 224 ∨ h = 256 ∨ h = 384 ∨ h = 512) from k)]) rfl (by decide) (by decide)
end Go.Proofs.YtioggmjocelolacDoor
