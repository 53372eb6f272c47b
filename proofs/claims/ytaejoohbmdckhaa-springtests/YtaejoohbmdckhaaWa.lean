import Derived.Test.YtaejoohbmdckhaaWfl
import Derived.Test.YtaejoohbmdckhaaChecked
import Derived.WalkKit
import Derived.Below
import Derived.ProofKit
import Derived.Deep.RegionHeld3
import Derived.BigRegion
import Derived.BigQuiet
import Derived.Deep.QuietTactic
import Derived.Laws.Bits64
import Derived.Deep.Cut
namespace Go.Proofs.Ytaejoohbmdckhaa
open Go.RowKit
set_option linter.unusedVariables false
set_option linter.unusedSimpArgs false
section
variable {P : Program} {md : Region.Mode} {ops : Array Oper} {Q : Exit → Act → World → Prop} {S : World → Prop}
theorem takeH_at (i d : Nat) (v : Value) {oi : Oper} {fuel : Nat} {listed : Array Bool} {tmps : Array Value} {ds : List Deferred} {w : World} (hi : ops[i]? = some oi) (hd : oi.dst = some d)
    (hs : Region.noSelect ops = true) (hf : Region.free md ops listed i = true) (hr : (Region.ready md ops listed).contains i = true)
    (hQ : ∀ c a w, Q (.panic c) (a.put oi.dst v) w → Q (.panic c) a w) (hS : S w) (hy : YieldsIf P ops S oi v ⟨tmps, ds⟩)
    (h : wpAnyH P md ops Q S fuel (listed.setIfInBounds i true) ⟨tmps.setIfInBounds d v, ds⟩ w) : wpAnyH P md ops Q S (fuel + 1) listed ⟨tmps, ds⟩ w := by
  refine wpAnyH_take hi hs hf hr hQ hy hS ?_
  rw [hd]
  exact h
theorem step_load1 {o : Oper} {a : Act} {w : World} {K : Act → World → Prop} {Q : Exit → Act → World → Prop} {E : Prop} (hgd : o.guard = none) (d : Nat) (hd : o.dst = some d) (t : TypeId) (x : Operand) (ho : o.op = .load t x) (p v : Value) (hx : a.eval x = p)
    (hr : (Instr.loadAt t p).run P w = .ok v w) (h : K (a.put (some d) v) w) : if Region.wanted o (yielded ops a.tmps) = true then Oper.wp P o a w K Q else E := by
  have hw : Region.wanted o (yielded ops a.tmps) = true := by simp [Region.wanted, hgd]
  rw [if_pos hw]
  rw [← hd] at h
  unfold Oper.wp execOp
  simp only [ho, hx, Sem.run_bind, hr, Result.andThen_ok]
  exact h
theorem yields_bin {o : Oper} {a : Act} (hw : Region.wanted o (yielded ops a.tmps) = true) (op : BinOp) (t t2 : TypeId) (x y : Operand) (ho : o.op = .binOp op t x y t2) (vx vy v : Value) (hx : a.eval x = vx) (hy : a.eval y = vy)
    (hg : eqGuard op t x y vx vy = pure ()) (hr : ∀ u, (binOp op t vx vy).run P u = .ok v u) : YieldsIf P ops S o v a := by
  refine .inl ⟨hw, fun u _ => ?_⟩
  unfold execOp
  simp only [ho, hx, hy, hg, Sem.run_bind, Sem.run_pure, hr, Result.andThen_ok]
end
/-- How many bits of a byte are 1. -/
def pop (x : Nat) : Nat := x % 2 + x / 2 % 2 + x / 4 % 2 + x / 8 % 2 + x / 16 % 2 + x / 32 % 2 + x / 64 % 2 + x / 128 % 2
abbrev popT : ByteArray := ⟨#[0, 1, 1, 2, 1, 2, 2, 3, 1, 2, 2, 3, 2, 3, 3, 4, 1, 2, 2, 3, 2, 3, 3, 4, 2, 3, 3, 4, 3, 4, 4, 5, 1, 2, 2, 3, 2, 3, 3, 4, 2, 3, 3, 4, 3, 4, 4, 5, 2, 3, 3, 4, 3, 4, 4, 5, 3, 4, 4, 5, 4, 5, 5, 6, 1, 2, 2, 3, 2, 3, 3, 4, 2, 3, 3, 4, 3, 4, 4, 5, 2, 3, 3, 4, 3, 4, 4, 5, 3, 4, 4, 5, 4, 5, 5, 6, 2, 3, 3, 4, 3, 4, 4, 5, 3, 4, 4, 5, 4, 5, 5, 6, 3, 4, 4, 5, 4, 5, 5, 6, 4, 5, 5, 6, 5, 6, 6, 7, 1, 2, 2, 3, 2, 3, 3, 4, 2, 3, 3, 4, 3, 4, 4, 5, 2, 3, 3, 4, 3, 4, 4, 5, 3, 4, 4, 5, 4, 5, 5, 6, 2, 3, 3, 4, 3, 4, 4, 5, 3, 4, 4, 5, 4, 5, 5, 6, 3, 4, 4, 5, 4, 5, 5, 6, 4, 5, 5, 6, 5, 6, 6, 7, 2, 3, 3, 4, 3, 4, 4, 5, 3, 4, 4, 5, 4, 5, 5, 6, 3, 4, 4, 5, 4, 5, 5, 6, 4, 5, 5, 6, 5, 6, 6, 7, 3, 4, 4, 5, 4, 5, 5, 6, 4, 5, 5, 6, 5, 6, 6, 7, 4, 5, 5, 6, 5, 6, 6, 7, 5, 6, 6, 7, 6, 7, 7, 8]⟩
theorem popT_at (x : Nat) (h : x < popT.size) : (popT[x]'h).toNat = pop x := by
  have key : ∀ y : Fin popT.size, (popT[y.1]'y.2).toNat = pop y.1 := by decide +kernel
  exact key ⟨x, h⟩
theorem pop_le (x : Nat) : pop x ≤ 8 := by unfold pop; omega
set_option maxRecDepth 100000 in
set_option maxHeartbeats 1000000 in
theorem ones8 (x : Nat) (hx : x < 256) (w : World) : Calls Try.prog 33 #[.int .u8 (x : Nat)] w fun e w' => e = .returned (.int .i64 (pop x : Nat)) ∧ w' = w := by
  go_enter Try.func33, Try.ntmps33
  go_wp2
  go_ret
  refine ⟨?_, rfl⟩
  have key : ∀ h : x < popT.size, wrap64 (((popT[x]'h).toNat : Nat) : Int) = ((pop x : Nat) : Int) := fun h => by
    rw [popT_at x h]
    have := pop_le x
    unfold wrap64
    omega
  exact congrArg (fun z : Int => Ending.returned (.int .i64 z)) (key hx)
/-- The step of a pair of bits. -/
def stR (d : Nat) : Int := if d = 0 then 1 else if d = 2 then -1 else 0
def stI (d : Nat) : Int := if d = 1 then 1 else if d = 3 then -1 else 0
set_option maxRecDepth 100000 in
theorem powI (d : Nat) (hd : d < 4) (w : World) : Calls Try.prog 37 #[.int .u8 (d : Nat)] w fun e w' => e = .returned (.complex .f64 (fw (stR d)) (fw (stI d))) ∧ w' = w := by
  rcases (show d = 0 ∨ d = 1 ∨ d = 2 ∨ d = 3 by omega) with rfl | rfl | rfl | rfl
  all_goals
    have h0 : fw 0 = 0 := fw_zero
    have h1 : fw 1 = 4607182418800017408 := fw_one
    have h2 : fw (-1) = 13830554455654793216 := fw_neg
  · have hi : ∀ w, (Instr.index 65 (.agg #[.complex .f64 4607182418800017408 0, .complex .f64 0 4607182418800017408, .complex .f64 13830554455654793216 0, .complex .f64 0 13830554455654793216]) (.int .u8 0)).run Try.prog w = .ok (.complex .f64 4607182418800017408 0) w := fun w => by kernel_rfl
    have e : (Value.complex .f64 (fw (stR 0)) (fw (stI 0))) = .complex .f64 4607182418800017408 0 := by simp [stR, stI, h0, h1, h2]
    rw [e]
    clear e h0 h1 h2
    go_enter Try.func37, Try.ntmps37
    go_wp2
    go_ret
    exact ⟨rfl, rfl⟩
  · have hi : ∀ w, (Instr.index 65 (.agg #[.complex .f64 4607182418800017408 0, .complex .f64 0 4607182418800017408, .complex .f64 13830554455654793216 0, .complex .f64 0 13830554455654793216]) (.int .u8 1)).run Try.prog w = .ok (.complex .f64 0 4607182418800017408) w := fun w => by kernel_rfl
    have e : (Value.complex .f64 (fw (stR 1)) (fw (stI 1))) = .complex .f64 0 4607182418800017408 := by simp [stR, stI, h0, h1, h2]
    rw [e]
    clear e h0 h1 h2
    go_enter Try.func37, Try.ntmps37
    go_wp2
    go_ret
    exact ⟨rfl, rfl⟩
  · have hi : ∀ w, (Instr.index 65 (.agg #[.complex .f64 4607182418800017408 0, .complex .f64 0 4607182418800017408, .complex .f64 13830554455654793216 0, .complex .f64 0 13830554455654793216]) (.int .u8 2)).run Try.prog w = .ok (.complex .f64 13830554455654793216 0) w := fun w => by kernel_rfl
    have e : (Value.complex .f64 (fw (stR 2)) (fw (stI 2))) = .complex .f64 13830554455654793216 0 := by simp [stR, stI, h0, h1, h2]
    rw [e]
    clear e h0 h1 h2
    go_enter Try.func37, Try.ntmps37
    go_wp2
    go_ret
    exact ⟨rfl, rfl⟩
  · have hi : ∀ w, (Instr.index 65 (.agg #[.complex .f64 4607182418800017408 0, .complex .f64 0 4607182418800017408, .complex .f64 13830554455654793216 0, .complex .f64 0 13830554455654793216]) (.int .u8 3)).run Try.prog w = .ok (.complex .f64 0 13830554455654793216) w := fun w => by kernel_rfl
    have e : (Value.complex .f64 (fw (stR 3)) (fw (stI 3))) = .complex .f64 0 13830554455654793216 := by simp [stR, stI, h0, h1, h2]
    rw [e]
    clear e h0 h1 h2
    go_enter Try.func37, Try.ntmps37
    go_wp2
    go_ret
    exact ⟨rfl, rfl⟩
theorem wrap64_small (x : Int) (h1 : -9223372036854775808 ≤ x) (h2 : x ≤ 9223372036854775807) : wrap64 x = x := by
  unfold wrap64
  omega
theorem sq_bound {a : Int} (h : a.natAbs < 2 ^ 20) : 0 ≤ a * a ∧ a * a ≤ 1099511627776 := by
  have e : a * a = ((a.natAbs * a.natAbs : Nat) : Int) := by rw [Int.natCast_mul]; exact (Int.natAbs_mul_self' a).symm
  have : a.natAbs * a.natAbs ≤ 1048576 * 1048576 := Nat.mul_le_mul (by omega) (by omega)
  omega
set_option maxRecDepth 100000 in
set_option maxHeartbeats 1000000 in
theorem whole_ok (a b : Int) (ha : a.natAbs < 2 ^ 20) (hb : b.natAbs < 2 ^ 20) (w : World) : Calls Try.prog 31 #[.complex .f64 (fw a) (fw b)] w fun e w' => e = .returned (.agg #[.int .i64 a, .int .i64 b]) ∧ Below w.heap.size w w' := by
  have c1 : ∀ u, (convert 64 2 (.float .f64 (fw a))).run Try.prog u = .ok (.int .i64 a) u := fun u => run_convert_float_int u 64 2 .f64 .i64 (fw a) a (by kernel_rfl) Try.underlying2 (toInt_fw a ha)
  have c2 : ∀ u, (convert 64 2 (.float .f64 (fw b))).run Try.prog u = .ok (.int .i64 b) u := fun u => run_convert_float_int u 64 2 .f64 .i64 (fw b) b (by kernel_rfl) Try.underlying2 (toInt_fw b hb)
  go_enter Try.func31, Try.ntmps31
  go_wp2
  refine bodyPost_ret (results_cell_row (P := Try.prog) (p := 2) (ty := 24) rfl _ _ w.heap.size 24 #[.int .i64 a, .int .i64 b] (0, 0) _ rfl (heap_alloc_new w _) Try.underlying24 rfl (by kernel_rfl)) rfl ?_
  exact ⟨rfl, (Below.refl _ w).alloc (Nat.le_refl _) _⟩
set_option maxRecDepth 100000 in
set_option maxHeartbeats 1000000 in
theorem square_ok (a b : Int) (ha : a.natAbs < 2 ^ 20) (hb : b.natAbs < 2 ^ 20) (w : World) : Calls Try.prog 32 #[.agg #[.int .i64 a, .int .i64 b]] w fun e w' => e = .returned (.int .i64 (a * a + b * b)) ∧ Below w.heap.size w w' := by
  have q1 := sq_bound ha
  have q2 := sq_bound hb
  have e1 : wrap64 (a * a) = a * a := wrap64_small _ (by omega) (by omega)
  have e2 : wrap64 (b * b) = b * b := wrap64_small _ (by omega) (by omega)
  have e3 : wrap64 (a * a + b * b) = a * a + b * b := wrap64_small _ (by omega) (by omega)
  go_enter Try.func32, Try.ntmps32
  go_wp2
  go_ret
  exact ⟨rfl, (Below.refl _ w).alloc (Nat.le_refl _) _⟩
set_option maxRecDepth 100000 in
set_option maxHeartbeats 1000000 in
theorem walker_ok (k : Nat) (hk : k < 4) (w : World) : Calls Try.prog 30 #[.int .i64 (k : Nat)] w fun e w' => e = .returned (.func (.func 36) #[] #[.pointer (some ⟨w.heap.size, 0, none⟩), .pointer (some ⟨w.heap.size + 1, 0, none⟩)]) ∧ w' = ((w.alloc (.cells #[.complex .f64 0 0] 58)).alloc (.cells #[.int .i64 (6 - 2 * (k : Int))] 3)) := by
  have h1 : IntKind.i64.wrap (2 * (k : Int)) = 2 * (k : Int) := by rw [IntKind.wrap_i64]; omega
  have h2 : IntKind.i64.wrap (6 - 2 * (k : Int)) = 6 - 2 * (k : Int) := by rw [IntKind.wrap_i64]; omega
  go_enter Try.func30, Try.ntmps30
  go_wp2
  go_ret
  exact ⟨rfl, rfl⟩
/-- The bits of walk number k. -/
def dg (k x : Nat) : Nat := x / 2 ^ (6 - 2 * k) % 4
theorem dg_lt (k x : Nat) : dg k x < 4 := Nat.mod_lt _ (by omega)
theorem st_small (d : Nat) : (stR d).natAbs ≤ 1 ∧ (stI d).natAbs ≤ 1 := by
  unfold stR stI
  split <;> split <;> (try split) <;> (try split) <;> decide
set_option maxRecDepth 100000 in
set_option maxHeartbeats 2000000 in
theorem step_ok (k x : Nat) (hk : k < 4) (hx : x < 256) (a b : Int) (ha : a.natAbs + 1 < 2 ^ 20) (hb : b.natAbs + 1 < 2 ^ 20) (g h : Nat) (w : World) (hgh : g ≠ h) (c1 : w.cell? ⟨g, 0, none⟩ = some (.complex .f64 (fw a) (fw b))) (c2 : w.cell? ⟨h, 0, none⟩ = some (.int .i64 (6 - 2 * (k : Int)))) (f1 : w.frozen? ⟨g, 0, none⟩ = false) :
    Calls Try.prog 36 #[.int .u8 (x : Nat), .pointer (some ⟨g, 0, none⟩), .pointer (some ⟨h, 0, none⟩)] w fun e w' => e = .returned (.complex .f64 (fw (a + stR (dg k x))) (fw (b + stI (dg k x)))) ∧ w' = (w.setCell ⟨g, 0, none⟩ (.complex .f64 (fw (a + stR (dg k x))) (fw (b + stI (dg k x))))).drew := by
  obtain ⟨d, hd⟩ : ∃ d, d = dg k x := ⟨_, rfl⟩
  have hd4 : d < 4 := by rw [hd]; exact dg_lt k x
  rw [← hd]
  have hs := st_small d
  have H37 : Hid (∀ u, Calls Try.prog 37 #[.int .u8 (d : Nat)] u fun e w' => e = .returned (.complex .f64 (fw (stR d)) (fw (stI d))) ∧ w' = u) := fun u => powI d hd4 u
  have hadd : ∀ u, (binOp .add 58 (.complex .f64 (fw a) (fw b)) (.complex .f64 (fw (stR d)) (fw (stI d)))).run Try.prog u = .ok (.complex .f64 (fw (a + stR d)) (fw (b + stI d))) u := fun u => run_complex_sum u .add (.inl rfl) 58 .f64 _ _ _ _ _ _ (csum_fw a b (stR d) (stI d) (by omega) (by omega) (by omega) (by omega))
  have hn1 : (⟨g, 0, none⟩ : Addr) ≠ ⟨h, 0, none⟩ := by simp [hgh]
  generalize fw (a + stR d) = RE at hadd ⊢
  generalize fw (b + stI d) = IM at hadd ⊢
  generalize fw (stR d) = SR at H37 hadd ⊢
  generalize fw (stI d) = SI at H37 hadd ⊢
  generalize fw a = FA at c1 hadd ⊢
  generalize fw b = FB at c1 hadd ⊢
  obtain ⟨D, hD, hD0, hD8⟩ : ∃ D : Int, 6 - 2 * (k : Int) = D ∧ 0 ≤ D ∧ D ≤ 8 := ⟨_, rfl, by omega, by omega⟩
  obtain ⟨Y, hY, hY2⟩ : ∃ Y : Nat, ((x : Int) / 2 ^ D.toNat) = (Y : Int) ∧ Y % 4 = d := by
    refine ⟨x / 2 ^ (6 - 2 * k), ?_, by rw [hd]; rfl⟩
    rw [← hD, show (6 - 2 * (k : Int)).toNat = 6 - 2 * k by omega]
    rw [Int.natCast_ediv, Int.natCast_pow]
    rfl
  have hsh : Op.shift .shr .u8 (x : Int) .i64 D = pure (.int .u8 (Y : Int)) := by rw [shift_shr .u8 .i64 x D hD0 hD8, hY]
  have hY256 : Y < 256 := by have h1 : (Y : Int) ≤ x := by rw [← hY]; exact Int.ediv_le_self _ (by omega)
                             omega
  have hbb : bits .and .u8 ((Y : Nat) : Int) 3 = ((d : Nat) : Int) := by
    have : ∀ y : Fin 256, bits .and .u8 ((y.1 : Nat) : Int) 3 = ((y.1 % 4 : Nat) : Int) := by decide +kernel
    have h2 := this ⟨Y, hY256⟩
    rw [hY2] at h2
    exact h2
  rw [hD] at c2
  clear hD hY hd hs hD0 hD8
  go_enter Try.func36, Try.ntmps36
  go_upto_region 1 with fail
  have hS0 : w.drew.cell? ⟨h, 0, none⟩ = some (.int .i64 D) := by simpa using c2
  have hS1 : (w.setCell ⟨g, 0, none⟩ (.complex .f64 RE IM)).drew.cell? ⟨h, 0, none⟩ = some (.int .i64 D) := (World.cell?_of_block (w := w) (a := ⟨h, 0, none⟩) (Below.heap_setCell w ⟨g, 0, none⟩ _ h (Ne.symm hgh))).trans c2
  have hg1 : (w.setCell ⟨g, 0, none⟩ (.complex .f64 RE IM)).cell? ⟨g, 0, none⟩ = some (.complex .f64 RE IM) := World.cell?_setCell_same' w _ _ (by rw [c1]; rfl)
  have hst : (store ⟨g, 0, none⟩ (.complex .f64 RE IM)).run Try.prog w.drew = .ok () (w.drew.setCell ⟨g, 0, none⟩ (.complex .f64 RE IM)) := by
    rw [run_store Try.prog w.drew ⟨g, 0, none⟩ _ _ rfl]
    simp [stored, c1, f1]
  have hld : ∀ u : World, u.cell? ⟨h, 0, none⟩ = some (.int .i64 D) → u.cell? ⟨h, 0, none⟩ = some (.int .i64 D) := fun u q => q
  refine wp_region_noPanic ?_
  refine wp_region_held_drew (S := fun u => u.cell? ⟨h, 0, none⟩ = some (.int .i64 D)) (by kernel_rfl) (hS0) (fun _ => ?_)
  refine takeH_at 1 6 (.int .u8 (x : Nat)) rfl rfl (by kernel_rfl) (by kernel_rfl) (by kernel_rfl) (fun _ _ _ h => h) (hS0) (Or.inl ⟨by rfl, fun w' hS' => by go_simp⟩) ?_
  simp only [List.setIfInBounds_toArray, List.set_cons_zero, List.set_cons_succ]
  refine takeH_at 2 7 (.int .i64 D) rfl rfl (by kernel_rfl) (by kernel_rfl) (by kernel_rfl) (fun _ _ _ h => h) (hS0) (Or.inl ⟨by rfl, fun w' hS' => by have q := hld w' hS'; go_simp⟩) ?_
  simp only [List.setIfInBounds_toArray, List.set_cons_zero, List.set_cons_succ]
  refine takeH_at 3 8 (.int .u8 (Y : Nat)) rfl rfl (by kernel_rfl) (by kernel_rfl) (by kernel_rfl) (fun _ _ _ h => h) (hS0) (Or.inl ⟨by rfl, fun w' hS' => by go_simp⟩) ?_
  simp only [List.setIfInBounds_toArray, List.set_cons_zero, List.set_cons_succ]
  refine takeH_at 4 9 (.int .u8 (d : Nat)) rfl rfl (by kernel_rfl) (by kernel_rfl) (by kernel_rfl) (fun _ _ _ h => h) (hS0) (Or.inl ⟨by rfl, fun w' hS' => by go_simp⟩) ?_
  simp only [List.setIfInBounds_toArray, List.set_cons_zero, List.set_cons_succ]
  refine wpAnyH_ready (rs := [0, 5]) (by kernel_rfl) (by simp) ?_
  refine AllReadyH.cons rfl (fun K hK => ?_) (AllReadyH.cons rfl (fun K hK => ?_) AllReadyH.nil)
  · skip
    refine step_load1 rfl 5 rfl 58 (.tmp 1) rfl (.pointer (some ⟨g, 0, none⟩)) (.complex .f64 FA FB) rfl (by go_simp) ?_
    refine hK.out _ _ hS0 (fun _ => ?_)
    clear hK K
    simp only [Act.put, List.setIfInBounds_toArray, List.set_cons_zero, List.set_cons_succ]
    refine wpAnyH_ready (rs := [5]) (by kernel_rfl) (by simp) ?_
    refine AllReadyH.cons rfl (fun K hK => ?_) AllReadyH.nil
    go_simp
    refine (H37.out _).mono ?_
    rintro e1 u1 ⟨rfl, hu1⟩
    obtain rfl := hu1.symm
    go_wp2_with fail
    refine hK.out _ _ hS0 (fun _ => ?_)
    clear hK K
    try simp only [Act.put, List.setIfInBounds_toArray, List.set_cons_zero, List.set_cons_succ]
    refine takeH_at 6 11 (.complex .f64 RE IM) rfl rfl (by kernel_rfl) (by kernel_rfl) (by kernel_rfl) (fun _ _ _ h => h) hS0 (yields_bin (by rfl) .add 58 58 (.tmp 5) (.tmp 10) rfl (.complex .f64 FA FB) (.complex .f64 SR SI) _ rfl rfl rfl hadd) ?_
    simp only [List.setIfInBounds_toArray, List.set_cons_zero, List.set_cons_succ]
    refine wpAnyH_ready (rs := [7]) (by kernel_rfl) (by simp) ?_
    refine AllReadyH.cons rfl (fun K hK => ?_) AllReadyH.nil
    go_simp
    refine hK.out _ _ hS1 (fun _ => ?_)
    clear hK K
    try simp only [Act.put, List.setIfInBounds_toArray, List.set_cons_zero, List.set_cons_succ]
    refine wpAnyH_done (by kernel_rfl) ?_ _
    refine NoPanic.normal ?_
    go_wp2
    go_ret
    exact ⟨rfl, rfl⟩
  · skip
    go_simp
    refine (H37.out _).mono ?_
    rintro e1 u1 ⟨rfl, hu1⟩
    obtain rfl := hu1.symm
    go_wp2_with fail
    refine hK.out _ _ hS0 (fun _ => ?_)
    clear hK K
    try simp only [Act.put, List.setIfInBounds_toArray, List.set_cons_zero, List.set_cons_succ]
    refine wpAnyH_ready (rs := [0]) (by kernel_rfl) (by simp) ?_
    refine AllReadyH.cons rfl (fun K hK => ?_) AllReadyH.nil
    refine step_load1 rfl 5 rfl 58 (.tmp 1) rfl (.pointer (some ⟨g, 0, none⟩)) (.complex .f64 FA FB) rfl (by go_simp) ?_
    refine hK.out _ _ hS0 (fun _ => ?_)
    clear hK K
    simp only [Act.put, List.setIfInBounds_toArray, List.set_cons_zero, List.set_cons_succ]
    refine takeH_at 6 11 (.complex .f64 RE IM) rfl rfl (by kernel_rfl) (by kernel_rfl) (by kernel_rfl) (fun _ _ _ h => h) hS0 (yields_bin (by rfl) .add 58 58 (.tmp 5) (.tmp 10) rfl (.complex .f64 FA FB) (.complex .f64 SR SI) _ rfl rfl rfl hadd) ?_
    simp only [List.setIfInBounds_toArray, List.set_cons_zero, List.set_cons_succ]
    refine wpAnyH_ready (rs := [7]) (by kernel_rfl) (by simp) ?_
    refine AllReadyH.cons rfl (fun K hK => ?_) AllReadyH.nil
    go_simp
    refine hK.out _ _ hS1 (fun _ => ?_)
    clear hK K
    try simp only [Act.put, List.setIfInBounds_toArray, List.set_cons_zero, List.set_cons_succ]
    refine wpAnyH_done (by kernel_rfl) ?_ _
    refine NoPanic.normal ?_
    go_wp2
    go_ret
    exact ⟨rfl, rfl⟩
end Go.Proofs.Ytaejoohbmdckhaa
