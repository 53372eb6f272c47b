import Derived.Test.YtehlppaidgkpaaaGreatDoorPart08
namespace Go.Proofs.YtehlppaidgkpaaaGreatDoor.Fd
open Go.RowKit
set_option linter.unusedVariables false
set_option linter.unusedSimpArgs false
theorem Tryz.isAgg5 (w:World):(isAgg 5).run Tryz.prog w=.ok false w:=by kernel_rfl
theorem Tryz.sizeOf5 (w:World):(sizeOf 5).run Tryz.prog w=.ok 1 w:=by kernel_rfl
theorem Tryz.runUnderlying23 (w:World):(underlying 27).run Tryz.prog w=.ok (.array 16 5) w:=run_underlying Tryz.underlying27 w
set_option maxHeartbeats 3200000 in
set_option maxRecDepth 100000 in
theorem Ip (x0 x1 x2 x3 x4 x5 x6 x7 x8 x9 x10 x11 x12 x13 x14 x15:Int) (w:World):(Op.equalIn 10000 27 (.agg #[.int .u8 x0,.int .u8 x1,.int .u8 x2,.int .u8 x3,.int .u8 x4,.int .u8 x5,.int .u8 x6,.int .u8 x7,.int .u8 x8,.int .u8 x9,.int .u8 x10,.int .u8 x11,.int .u8 x12,.int .u8 x13,.int .u8 x14,.int .u8 x15]) (.agg #[.int .u8 x0,.int .u8 x1,.int .u8 x2,.int .u8 x3,.int .u8 x4,.int .u8 x5,.int .u8 x6,.int .u8 x7,.int .u8 x8,.int .u8 x9,.int .u8 x10,.int .u8 x11,.int .u8 x12,.int .u8 x13,.int .u8 x14,.int .u8 x15])).run Tryz.prog w=.ok true w:=by
 have u5:=Tryz.underlying5
 have a5:=Tryz.isAgg5
 have z5:=Tryz.sizeOf5
 have u23:=Tryz.runUnderlying23 w
 have e:∀ x:Int,(Op.equalIn 9999 5 (.int .u8 x) (.int .u8 x)).run Tryz.prog w=.ok true w:=fun x=>by
  rw[show (9999:Nat)=9998+1 from rfl,run_equalIn_int w 9998 5 .u8 .u8 x x u5]
  simp
 rw[show (10000:Nat)=9999+1 from rfl,Op.equalIn]
 simp only[Sem.run_bind,run_underlying Tryz.underlying27,Result.andThen_ok]
 simp only[Std.Legacy.Range.forIn_eq_forIn_range',Std.Legacy.Range.size,Nat.sub_zero,Nat.add_sub_cancel,Nat.div_one,List.range'_succ,List.range'_zero,List.forIn_cons,List.forIn_nil]
 go_simp
set_option maxHeartbeats 6400000 in
set_option maxRecDepth 100000 in
theorem Io (x0 x1 x2 x3 x4 x5 x6 x7 x8 x9 x10 x11 x12 x13 x14 x15:Int) (w:World) (h:¬ (x0=0∧x1=0∧x2=0∧x3=0∧x4=0∧x5=0∧x6=0∧x7=0∧x8=0∧x9=0∧x10=0∧x11=0∧x12=0∧x13=0∧x14=0∧x15=0)):(Op.equalIn 10000 27 (.agg #[.int .u8 x0,.int .u8 x1,.int .u8 x2,.int .u8 x3,.int .u8 x4,.int .u8 x5,.int .u8 x6,.int .u8 x7,.int .u8 x8,.int .u8 x9,.int .u8 x10,.int .u8 x11,.int .u8 x12,.int .u8 x13,.int .u8 x14,.int .u8 x15]) (.agg #[.int .u8 0,.int .u8 0,.int .u8 0,.int .u8 0,.int .u8 0,.int .u8 0,.int .u8 0,.int .u8 0,.int .u8 0,.int .u8 0,.int .u8 0,.int .u8 0,.int .u8 0,.int .u8 0,.int .u8 0,.int .u8 0])).run Tryz.prog w=.ok false w:=by
 have u5:=Tryz.underlying5
 have a5:=Tryz.isAgg5
 have z5:=Tryz.sizeOf5
 have u23:=Tryz.runUnderlying23 w
 have e:∀ x:Int,(Op.equalIn 9999 5 (.int .u8 x) (.int .u8 0)).run Tryz.prog w=.ok (x==0) w:=fun x=>by
  rw[show (9999:Nat)=9998+1 from rfl,run_equalIn_int w 9998 5 .u8 .u8 x 0 u5]
 rw[show (10000:Nat)=9999+1 from rfl,Op.equalIn]
 simp only[Sem.run_bind,run_underlying Tryz.underlying27,Result.andThen_ok]
 simp only[Std.Legacy.Range.forIn_eq_forIn_range',Std.Legacy.Range.size,Nat.sub_zero,Nat.add_sub_cancel,Nat.div_one,List.range'_succ,List.range'_zero,List.forIn_cons,List.forIn_nil]
 by_cases h0:¬ x0=0
 ·have q:(x0==0)=false:=by simp [h0]
  go_simp
 obtain rfl:=Decidable.not_not.1 h0
 clear h0
 by_cases h1:¬ x1=0
 ·have q:(x1==0)=false:=by simp [h1]
  go_simp
 obtain rfl:=Decidable.not_not.1 h1
 clear h1
 by_cases h2:¬ x2=0
 ·have q:(x2==0)=false:=by simp [h2]
  go_simp
 obtain rfl:=Decidable.not_not.1 h2
 clear h2
 by_cases h3:¬ x3=0
 ·have q:(x3==0)=false:=by simp [h3]
  go_simp
 obtain rfl:=Decidable.not_not.1 h3
 clear h3
 by_cases h4:¬ x4=0
 ·have q:(x4==0)=false:=by simp [h4]
  go_simp
 obtain rfl:=Decidable.not_not.1 h4
 clear h4
 by_cases h5:¬ x5=0
 ·have q:(x5==0)=false:=by simp [h5]
  go_simp
 obtain rfl:=Decidable.not_not.1 h5
 clear h5
 by_cases h6:¬ x6=0
 ·have q:(x6==0)=false:=by simp [h6]
  go_simp
 obtain rfl:=Decidable.not_not.1 h6
 clear h6
 by_cases h7:¬ x7=0
 ·have q:(x7==0)=false:=by simp [h7]
  go_simp
 obtain rfl:=Decidable.not_not.1 h7
 clear h7
 by_cases h8:¬ x8=0
 ·have q:(x8==0)=false:=by simp [h8]
  go_simp
 obtain rfl:=Decidable.not_not.1 h8
 clear h8
 by_cases h9:¬ x9=0
 ·have q:(x9==0)=false:=by simp [h9]
  go_simp
 obtain rfl:=Decidable.not_not.1 h9
 clear h9
 by_cases h10:¬ x10=0
 ·have q:(x10==0)=false:=by simp [h10]
  go_simp
 obtain rfl:=Decidable.not_not.1 h10
 clear h10
 by_cases h11:¬ x11=0
 ·have q:(x11==0)=false:=by simp [h11]
  go_simp
 obtain rfl:=Decidable.not_not.1 h11
 clear h11
 by_cases h12:¬ x12=0
 ·have q:(x12==0)=false:=by simp [h12]
  go_simp
 obtain rfl:=Decidable.not_not.1 h12
 clear h12
 by_cases h13:¬ x13=0
 ·have q:(x13==0)=false:=by simp [h13]
  go_simp
 obtain rfl:=Decidable.not_not.1 h13
 clear h13
 by_cases h14:¬ x14=0
 ·have q:(x14==0)=false:=by simp [h14]
  go_simp
 obtain rfl:=Decidable.not_not.1 h14
 clear h14
 by_cases h15:¬ x15=0
 ·have q:(x15==0)=false:=by simp [h15]
  go_simp
 obtain rfl:=Decidable.not_not.1 h15
 clear h15
 exact absurd (by simp) h
theorem Gr (v : BitVec 128) : v = 0#128 ↔ ∀ j, j < 16 → byV v j = 0 := by
  constructor
  · rintro rfl j hj
    simp [byV]
  · intro h
    apply BitVec.eq_of_toNat_eq
    have key : ∀ k, k ≤ 16 → v.toNat % 256 ^ k = 0 := by
      intro k
      induction k with
      | zero => intro _; simp [Nat.mod_one]
      | succ k ih =>
        intro hk
        have hb : v.toNat / 256 ^ k % 256 = 0 := h k (by omega)
        rw [Do, ih (by omega), hb, Nat.zero_mul]
    have hk := key 16 (Nat.le_refl _)
    have hl : v.toNat < 256 ^ 16 := by have := v.isLt; rw [show (256 : Nat) ^ 16 = 2 ^ 128 from by decide]; exact this
    rw [Nat.mod_eq_of_lt hl] at hk
    rw [hk]
    rfl
theorem Up (v:BitVec 128) (w:World):(Op.equalIn 10000 27 (BV v) (.agg #[.int .u8 0,.int .u8 0,.int .u8 0,.int .u8 0,.int .u8 0,.int .u8 0,.int .u8 0,.int .u8 0,.int .u8 0,.int .u8 0,.int .u8 0,.int .u8 0,.int .u8 0,.int .u8 0,.int .u8 0,.int .u8 0])).run Tryz.prog w=.ok (decide (v=0#128)) w:=by
 by_cases h:v=0#128
 ·subst h
  rw[decide_eq_true rfl]
  exact Ip 0 0 0 0 0 0 0 0 0 0 0 0 0 0 0 0 w
 ·rw[decide_eq_false h]
  refine Io _ _ _ _ _ _ _ _ _ _ _ _ _ _ _ _ w (fun hh=>h ((Gr v).2 (fun j hj=>?_)))
  have h16:j=0∨j=1∨j=2∨j=3∨j=4∨j=5∨j=6∨j=7∨j=8∨j=9∨j=10∨j=11∨j=12∨j=13∨j=14∨j=15:=by omega
  obtain ⟨q0,q1,q2,q3,q4,q5,q6,q7,q8,q9,q10,q11,q12,q13,q14,q15⟩:=hh
  rcases h16 with rfl | rfl | rfl | rfl | rfl | rfl | rfl | rfl | rfl | rfl | rfl | rfl | rfl | rfl | rfl | rfl<;>omega
end Go.Proofs.YtehlppaidgkpaaaGreatDoor.Fd
