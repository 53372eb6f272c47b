import Derived.Test.YtjcdhfkilnbjgaaDoorJuj
import Derived.Test.YtjcdhfkilnbjgaaDoorPart13
import Derived.Test.YtjcdhfkilnbjgaaDoorCards
import Derived.Test.YtjcdhfkilnbjgaaDoorTie
import Derived.ShutString
namespace Go.Proofs.YtjcdhfkilnbjgaaDoor
open Go.ChangeShapes Go.WideShapes Go.ChangeAt Go.RowKit
open Go.ChangeMaps (open_string shut_string)
set_option linter.unusedVariables false
namespace escrowStray

set_option maxRecDepth 100000 in
theorem contract (H : Type) (enc : TypeId × Value → H) (W : World) (base : Nat) (args : Array Value) (ds gs : List (DataW H)) (before : List MemPlace)
    (hval0 : ∀ (j : Nat) t v, Tryd.f3.params[j]? = some t → args[j]? = some v → Value.okWide Tryd.prog W .any base t v)
    (hW : DataW.Whole enc Tryd.prog Tryd.f3.params.toList Rows.escrowStraySpec.vars false W args.toList ds gs before) (hT : Tables W) :
    Calls Tryd.prog 3 args W fun e W' => ∃ v, e = .returned v ∧ Rows.escrowStraySpec.post enc Tryd.prog Tryd.f3 false true false false W args v W' := by
  have hval : ∀ (j : Nat) t v, Tryd.f3.params[j]? = some t → args[j]? = some v → Value.okWide Tryd.prog W .any base t v := hval0
  have hW' := hW
  obtain ⟨p, q, hA0, hV, rfl, hfz, hnd⟩ := hW
  have hA : DataW.TrodAll enc Tryd.prog W 0 (fun _ => true) true Tryd.f3.params.toList args.toList ds p := hA0
  rw [Tryd.params3] at hA hval
  obtain ⟨v0, vs0, d0, ds0, p0, q0, hargs, rfl, rfl, h0, r0⟩ := trodAll_cons hA
  obtain ⟨v1, vs1, d1, ds1, p1, q1, rfl, rfl, rfl, h1, r1⟩ := trodAll_cons r0
  obtain ⟨v2, vs2, d2, ds2, p2, q2, rfl, rfl, rfl, h2, r2⟩ := trodAll_cons r1
  obtain ⟨v3, vs3, d3, ds3, p3, q3, rfl, rfl, rfl, h3, r3⟩ := trodAll_cons r2
  obtain ⟨rfl, rfl, rfl⟩ := trodAll_nil r3
  obtain rfl : args = #[v0, v1, v2, v3] := by cases args; simp_all
  obtain ⟨rfl, rfl⟩ := trodVars_none hV
  have k0 := h0
  have k1 := h1
  have k2 := h2
  have k3 := h3
  have lt0 : ∀ x ∈ p0, x.block < W.heap.size := by obtain ⟨m, hm⟩ := k0; exact DataW.trod_lt m _ _ _ hm
  have lt1 : ∀ x ∈ p1, x.block < W.heap.size := by obtain ⟨m, hm⟩ := k1; exact DataW.trod_lt m _ _ _ hm
  have lt2 : ∀ x ∈ p2, x.block < W.heap.size := by obtain ⟨m, hm⟩ := k2; exact DataW.trod_lt m _ _ _ hm
  have lt3 : ∀ x ∈ p3, x.block < W.heap.size := by obtain ⟨m, hm⟩ := k3; exact DataW.trod_lt m _ _ _ hm
  obtain ⟨sn0, nd0, ct0, ow0, sa0, ra0, sl0, sc0, rl0, rc0, S0, R0, hsn0, rfl, vS0, vR0⟩ := open_deal (hval 0 25 v0 rfl rfl) h0
  obtain ⟨y1, rfl, rfl, rfl, wf1⟩ := open_int Tryd.underlying22 (hval 1 22 v1 rfl rfl) h1
  obtain ⟨z1, rfl, hz1⟩ : ∃ x : Nat, y1 = (x : Nat) ∧ x < 65536 := by
    simp [Lit.wf, IntKind.min, IntKind.max, IntKind.signed, IntKind.bits] at wf1
    exact ⟨y1.toNat, by omega, by omega⟩
  obtain ⟨z2, rfl, rfl, rfl, wf2⟩ := open_int Tryd.underlying3 (hval 2 3 v2 rfl rfl) h2
  obtain ⟨y3, rfl, rfl, rfl, wf3⟩ := open_int Tryd.underlying5 (hval 3 5 v3 rfl rfl) h3
  obtain ⟨z3, rfl, hz3⟩ : ∃ x : Nat, y3 = (x : Nat) ∧ x < 256 := by
    simp [Lit.wf, IntKind.min, IntKind.max, IntKind.signed, IntKind.bits] at wf3
    exact ⟨y3.toNat, by omega, by omega⟩
  clear hA0 hval0
  refine (stray_ok sn0 hsn0 nd0 ct0 ow0 (.slice sa0 sl0 sc0) ra0 rl0 rc0 S0 R0 z1 hz1 z2 z3 hz3 W hT vS0 vR0 rfl).mono fun e W' ⟨he, bel⟩ => ?_
  subst he
  exact ⟨_, rfl, _, _, _, [], _, [], hW', trodAll_mk1 (shut_bool Tryd.underlying4 _), (trodAll_cons_mk (Below.trod laidOut (by kernel_rfl) (of_decide_eq_true (by kernel_rfl)) k0 bel lt0) (trodAll_cons_mk (Below.trod laidOut (by kernel_rfl) (of_decide_eq_true (by kernel_rfl)) k1 bel lt1) (trodAll_cons_mk (Below.trod laidOut (by kernel_rfl) (of_decide_eq_true (by kernel_rfl)) k2 bel lt2) (trodAll_cons_mk (Below.trod laidOut (by kernel_rfl) (of_decide_eq_true (by kernel_rfl)) k3 bel lt3) trodAll_mk0)))), rfl, bel.frame _, fun h => by cases h⟩

def arg0 : Value := .agg #[.int .u16 0, .slice none 0 0, .int .i64 0, .int .i64 0, .bool false, .slice none 0 0]
def arg1 : Value := .int .u16 0
def arg2 : Value := .int .i64 0
def arg3 : Value := .int .u8 0
theorem start (os : Os) (H : Type) (enc : TypeId × Value → H) : ∃ w0 : World, w0.os = os ∧ (w0.forCall (fun _ _ => 0) ⟨#[], #[arg0, arg1, arg2, arg3], []⟩).variablesB Tryd.prog = true ∧
    ((w0.forCall (fun _ _ => 0) ⟨#[], #[arg0, arg1, arg2, arg3], []⟩).heap.toList.drop Tryd.prog.globals.size).take ((begin Tryd.prog (fun _ _ => 0) default).world.heap.size - Tryd.prog.globals.size) = (begin Tryd.prog (fun _ _ => 0) default).world.heap.toList.drop Tryd.prog.globals.size ∧
    Input.okWideB Tryd.prog (w0.forCall (fun _ _ => 0) ⟨#[], #[arg0, arg1, arg2, arg3], []⟩) 3 ⟨#[], #[arg0, arg1, arg2, arg3], []⟩ = true ∧
    laidMet Tryd.prog Rows.escrowStrayRow.laid (w0.forCall (fun _ _ => 0) ⟨#[], #[arg0, arg1, arg2, arg3], []⟩).memory ∧
    ∃ ds places, DataW.whole enc Tryd.prog (w0.forCall (fun _ _ => 0) ⟨#[], #[arg0, arg1, arg2, arg3], []⟩).memory Tryd.f3.params.toList Rows.escrowStraySpec.vars false ([arg0, arg1, arg2, arg3] : List Value) 8 = some (ds, [], places) := by
  exact ⟨{ World.holding Tryd.prog os ⟨#[], #[arg0, arg1, arg2, arg3], []⟩ with heap := ((World.holding Tryd.prog os ⟨#[], #[arg0, arg1, arg2, arg3], []⟩).heap.modify 0 (refilled2 rootsL)).modify 2 (refilled2 cubesL) },
    rfl, by kernel_rfl, by kernel_rfl, by kernel_rfl, laidMet_of_run' 8 (by kernel_rfl) (by kernel_rfl), [.agg [.lit (.int .u16 0), .nil, .lit (.int .i64 0), .lit (.int .i64 0), .lit (.bool false), .nil], .lit (.int .u16 0), .lit (.int .i64 0), .lit (.int .u8 0)], [], by kernel_rfl⟩

set_option maxRecDepth 100000 in
theorem lifted (os : Os) (started : os.Started) (H : Type) (enc : TypeId × Value → H) (F : Stop.Interp) :
    ReturnsInHanded {} Tryd.checked os 3 .any ((OpenSpec.ofChange Rows.escrowStraySpec).preRow enc Tryd.prog Tryd.f3 Rows.escrowStrayRow.domain false Rows.escrowStrayRow.laid) (((OpenSpec.ofChange Rows.escrowStraySpec).at F).post enc Tryd.prog Tryd.f3 false true false false) := by
  obtain ⟨w0, ho, hv, hr, hok, hmet, ds0, places, hx⟩ := start os H enc
  refine returnsInHanded_of_row (C := Tryd.checked) (s := OpenSpec.ofChange Rows.escrowStraySpec) own started (by kernel_rfl) Tryd.func3
    (witness_row_at (enc := enc) (C := Tryd.checked) false w0 #[arg0, arg1, arg2, arg3] ho hv hr hok
      (OpenSpec.preRow_of_cond 8 hx (by kernel_rfl) (fun k hk => by cases hk) (by kernel_rfl) hmet)) ?_
  intro W base args ds gs before hval hW _ _ hsz hL _ _
  exact contract H enc W base args ds gs before hval hW (tables_of hL)

theorem said : Rows.EscrowStraySaid :=
  OpenClaim.holds_of_cond 3 Tryd.f3 rfl rfl rfl rfl rfl rfl rfl ⟨rfl, rfl, rfl, rfl, rfl⟩ rfl rfl rfl rfl rfl (by kernel_rfl) Tryd.func3 (by kernel_rfl)
    (of_decide_eq_true (by kernel_rfl)) (by unfold Func.isWrapper; first | (rw [if_pos (by decide +kernel)]; kernel_rfl) | (rw [if_neg (by decide +kernel)]; exact ⟨rfl, rfl⟩))
    (fun os started H enc _ F => by rw [OpenClaim.pre_eq_preRow]; exact lifted os started H enc F)

theorem plain (f : FuncId) (fn : Func) (hf : Tryd.pinned.checked.prog.funcNamed "coffer/cofferlaw11.EscrowStray" = some f) (hfn : Tryd.pinned.checked.prog.funcs[f]? = some fn) :
    false = Tryd.pinned.checked.prog.looks [] ∧ ∀ (j : Nat) t, fn.params[j]? = some t → Tryd.pinned.checked.prog.wantsStandIn t = false := by
  obtain rfl : f = 3 := Option.some.inj ((show Tryd.prog.funcNamed "coffer/cofferlaw11.EscrowStray" = some 3 by kernel_rfl).symm.trans hf) |>.symm
  obtain rfl : fn = Tryd.f3 := (Option.some.inj (Tryd.func3.symm.trans hfn)).symm
  refine ⟨by kernel_rfl, fun j t ht => ?_⟩
  rw [Tryd.params3] at ht
  have h3 : Tryd.pinned.checked.prog.wantsStandIn 3 = false := by kernel_rfl
  have h5 : Tryd.pinned.checked.prog.wantsStandIn 5 = false := by kernel_rfl
  have h22 : Tryd.pinned.checked.prog.wantsStandIn 22 = false := by kernel_rfl
  have h25 : Tryd.pinned.checked.prog.wantsStandIn 25 = false := by kernel_rfl
  match j with
  | 0 =>
    have e : 25 = t := by simpa using ht
    rw [← e]
    exact h25
  | 1 =>
    have e : 22 = t := by simpa using ht
    rw [← e]
    exact h22
  | 2 =>
    have e : 3 = t := by simpa using ht
    rw [← e]
    exact h3
  | 3 =>
    have e : 5 = t := by simpa using ht
    rw [← e]
    exact h5
  | j + 4 => simp at ht

theorem proved : Rows.EscrowStrayCardSaid :=
  Claim7.holds_tied_plain_at .later [] _ _ _ _ said (fun _ h => by cases h) (by kernel_rfl) (fun _ h => by cases h) escrowStray_row_tie rfl ⟨rfl, rfl⟩ (by kernel_rfl) rfl plain (by kernel_rfl)
#print axioms proved
end escrowStray
end Go.Proofs.YtjcdhfkilnbjgaaDoor
