import Derived.Test.YtehlppaidgkpaaaGreatDoorPart11
namespace Go.Proofs.YtehlppaidgkpaaaGreatDoor.Fd
open Go.RowKit Go.Proofs.YtehlppaidgkpaaaGreatDoor.Fld
set_option linter.unusedVariables false
set_option linter.unusedSimpArgs false
theorem Tryz.isAgg5 (w:World):(isAgg 5).run Tryz.prog w=.ok false w:=by kernel_rfl
theorem Tryz.sizeOf5 (w:World):(sizeOf 5).run Tryz.prog w=.ok 1 w:=by kernel_rfl
theorem Tryz.runUnderlying23 (w:World):(underlying 27).run Tryz.prog w=.ok (.array 16 5) w:=run_underlying Tryz.underlying27 w
set_option maxHeartbeats 3200000 in
set_option maxRecDepth 100000 in
theorem Eu (x0 x1 x2 x3 x4 x5 x6 x7 x8 x9 x10 x11 x12 x13 x14 x15:Int) (w:World):(Op.equalIn 10000 27 (.agg #[.int .u8 x0,.int .u8 x1,.int .u8 x2,.int .u8 x3,.int .u8 x4,.int .u8 x5,.int .u8 x6,.int .u8 x7,.int .u8 x8,.int .u8 x9,.int .u8 x10,.int .u8 x11,.int .u8 x12,.int .u8 x13,.int .u8 x14,.int .u8 x15]) (.agg #[.int .u8 x0,.int .u8 x1,.int .u8 x2,.int .u8 x3,.int .u8 x4,.int .u8 x5,.int .u8 x6,.int .u8 x7,.int .u8 x8,.int .u8 x9,.int .u8 x10,.int .u8 x11,.int .u8 x12,.int .u8 x13,.int .u8 x14,.int .u8 x15])).run Tryz.prog w=.ok true w:=by
 have u5:=Tryz.underlying5
 have a5:=Tryz.isAgg5
 have z5:=Tryz.sizeOf5
 have u23:=Tryz.runUnderlying23 w
 have e:∀ x:Int,(Op.equalIn 9999 5 (.int .u8 x) (.int .u8 x)).run Tryz.prog w=.ok true w:=fun x=>by
  rw[show (9999:Nat)=9998+1 from rfl,run_equalIn_int w 9998 5 .u8 .u8 x x u5]
  simp
 rw[show (10000:Nat)=9999+1 from rfl,Op.equalIn]
 simp only[Sem.run_bind,run_underlying Tryz.underlying27,Result.andThen_ok]
 simp only[Std.Legacy.Range.forIn_eq_forIn_range',Std.Legacy.Range.size,Nat.sub_zero,Nat.add_sub_cancel,Nat.div_one,List.range'_succ,List.range'_zero,List.forIn_cons,List.forIn_nil]
 go_simp
theorem Bn (v : BitVec 128) : v = 0#128 ↔ ∀ j, j < 16 → byV v j = 0 := by
  constructor
  · rintro rfl j hj
    simp [byV]
  · intro h
    apply BitVec.eq_of_toNat_eq
    have key : ∀ k, k ≤ 16 → v.toNat % 256 ^ k = 0 := by
      intro k
      induction k with
      | zero => intro _; simp [Nat.mod_one]
      | succ k ih =>
        intro hk
        have hb : v.toNat / 256 ^ k % 256 = 0 := h k (by omega)
        rw [Vp, ih (by omega), hb, Nat.zero_mul]
    have hk := key 16 (Nat.le_refl _)
    have hl : v.toNat < 256 ^ 16 := by have := v.isLt; rw [show (256 : Nat) ^ 16 = 2 ^ 128 from by decide]; exact this
    rw [Nat.mod_eq_of_lt hl] at hk
    rw [hk]
    rfl
theorem Jj (v:BitVec 128) (w:World):(Op.equalIn 10000 27 (BV v) (BV v)).run Tryz.prog w=.ok true w:=Eu _ _ _ _ _ _ _ _ _ _ _ _ _ _ _ _ w
end Go.Proofs.YtehlppaidgkpaaaGreatDoor.Fd
