import Derived.Test.YtjcdhfkilnbjgaaDoorJul
import Derived.Test.YtjcdhfkilnbjgaaDoorOpk
import Derived.Test.YtjcdhfkilnbjgaaDoorPart13
import Derived.Test.YtjcdhfkilnbjgaaDoorCards
import Derived.Test.YtjcdhfkilnbjgaaDoorTie
import Derived.ShutString
namespace Go.Proofs.YtjcdhfkilnbjgaaDoor
open Go.ChangeShapes Go.WideShapes Go.ChangeAt Go.RowKit
open Go.ChangeMaps (open_string shut_string)
set_option linter.unusedVariables false
namespace escrowMended

set_option maxRecDepth 100000 in
theorem contract (H : Type) (enc : TypeId × Value → H) (W : World) (base : Nat) (args : Array Value) (ds gs : List (DataW H)) (before : List MemPlace)
    (hval0 : ∀ (j : Nat) t v, Tryd.f7.params[j]? = some t → args[j]? = some v → Value.okWide Tryd.prog W .any base t v)
    (hW : DataW.Whole enc Tryd.prog Tryd.f7.params.toList Rows.escrowMendedSpec.vars false W args.toList ds gs before) (hT : Tables W) :
    Calls Tryd.prog 7 args W fun e W' => ∃ v, e = .returned v ∧ Rows.escrowMendedSpec.post enc Tryd.prog Tryd.f7 false true false false W args v W' := by
  have hval : ∀ (j : Nat) t v, Tryd.f7.params[j]? = some t → args[j]? = some v → Value.okWide Tryd.prog W .any base t v := hval0
  have hW' := hW
  obtain ⟨p, q, hA0, hV, rfl, hfz, hnd⟩ := hW
  have hA : DataW.TrodAll enc Tryd.prog W 0 (fun _ => true) true Tryd.f7.params.toList args.toList ds p := hA0
  rw [Tryd.params7] at hA hval
  obtain ⟨v0, vs0, d0, ds0, p0, q0, hargs, rfl, rfl, h0, r0⟩ := trodAll_cons hA
  obtain ⟨v1, vs1, d1, ds1, p1, q1, rfl, rfl, rfl, h1, r1⟩ := trodAll_cons r0
  obtain ⟨v2, vs2, d2, ds2, p2, q2, rfl, rfl, rfl, h2, r2⟩ := trodAll_cons r1
  obtain ⟨rfl, rfl, rfl⟩ := trodAll_nil r2
  obtain rfl : args = #[v0, v1, v2] := by cases args; simp_all
  obtain ⟨rfl, rfl⟩ := trodVars_none hV
  have k0 := h0
  have k1 := h1
  have k2 := h2
  have lt0 : ∀ x ∈ p0, x.block < W.heap.size := by obtain ⟨m, hm⟩ := k0; exact DataW.trod_lt m _ _ _ hm
  have lt1 : ∀ x ∈ p1, x.block < W.heap.size := by obtain ⟨m, hm⟩ := k1; exact DataW.trod_lt m _ _ _ hm
  have lt2 : ∀ x ∈ p2, x.block < W.heap.size := by obtain ⟨m, hm⟩ := k2; exact DataW.trod_lt m _ _ _ hm
  obtain ⟨sn0, nd0, ct0, ow0, sa0, ra0, sl0, sc0, rl0, rc0, S0, R0, hsn0, rfl, vS0, vR0⟩ := open_deal (hval 0 25 v0 rfl rfl) h0
  obtain ⟨pa1, pi1, pq1, px1, pz1, rfl⟩ := open_pick1 (hval 1 50 v1 rfl rfl) h1
  obtain ⟨z2, rfl, rfl, rfl, wf2⟩ := open_string Tryd.underlying9 (hval 2 9 v2 rfl rfl) h2
  clear hA0 hval0
  refine (lawmended_ok sn0 hsn0 nd0 ct0 ow0 (.slice sa0 sl0 sc0) ra0 rl0 rc0 S0 R0 pa1 pi1 pq1 px1 pz1 z2 (Nat.le_trans wf2 (by decide)) W hT vS0 vR0 rfl).mono fun e W' ⟨he, bel⟩ => ?_
  subst he
  exact ⟨_, rfl, _, _, _, [], _, [], hW', trodAll_mk1 (shut_bool Tryd.underlying4 _), (trodAll_cons_mk (Below.trod laidOut (by kernel_rfl) (of_decide_eq_true (by kernel_rfl)) k0 bel lt0) (trodAll_cons_mk (Below.trod laidOut (by kernel_rfl) (of_decide_eq_true (by kernel_rfl)) k1 bel lt1) (trodAll_cons_mk (Below.trod laidOut (by kernel_rfl) (of_decide_eq_true (by kernel_rfl)) k2 bel lt2) trodAll_mk0))), rfl, bel.frame _, fun h => by cases h⟩

def arg0 : Value := .agg #[.int .u16 0, .slice none 0 0, .int .i64 0, .int .i64 0, .bool false, .slice none 0 0]
def arg1 : Value := .agg #[.int .i64 0, .int .i64 0, .int .i64 0, .int .u8 0, .int .u8 0]
def arg2 : Value := .string ⟨#[]⟩
theorem start (os : Os) (H : Type) (enc : TypeId × Value → H) : ∃ w0 : World, w0.os = os ∧ (w0.forCall (fun _ _ => 0) ⟨#[], #[arg0, arg1, arg2], []⟩).variablesB Tryd.prog = true ∧
    ((w0.forCall (fun _ _ => 0) ⟨#[], #[arg0, arg1, arg2], []⟩).heap.toList.drop Tryd.prog.globals.size).take ((begin Tryd.prog (fun _ _ => 0) default).world.heap.size - Tryd.prog.globals.size) = (begin Tryd.prog (fun _ _ => 0) default).world.heap.toList.drop Tryd.prog.globals.size ∧
    Input.okWideB Tryd.prog (w0.forCall (fun _ _ => 0) ⟨#[], #[arg0, arg1, arg2], []⟩) 7 ⟨#[], #[arg0, arg1, arg2], []⟩ = true ∧
    laidMet Tryd.prog Rows.escrowMendedRow.laid (w0.forCall (fun _ _ => 0) ⟨#[], #[arg0, arg1, arg2], []⟩).memory ∧
    ∃ ds places, DataW.whole enc Tryd.prog (w0.forCall (fun _ _ => 0) ⟨#[], #[arg0, arg1, arg2], []⟩).memory Tryd.f7.params.toList Rows.escrowMendedSpec.vars false ([arg0, arg1, arg2] : List Value) 8 = some (ds, [], places) := by
  exact ⟨{ World.holding Tryd.prog os ⟨#[], #[arg0, arg1, arg2], []⟩ with heap := ((World.holding Tryd.prog os ⟨#[], #[arg0, arg1, arg2], []⟩).heap.modify 0 (refilled2 rootsL)).modify 2 (refilled2 cubesL) },
    rfl, by kernel_rfl, by kernel_rfl, by kernel_rfl, laidMet_of_run' 8 (by kernel_rfl) (by kernel_rfl), [.agg [.lit (.int .u16 0), .nil, .lit (.int .i64 0), .lit (.int .i64 0), .lit (.bool false), .nil], .agg [.lit (.int .i64 0), .lit (.int .i64 0), .lit (.int .i64 0), .lit (.int .u8 0), .lit (.int .u8 0)], .lit (.string [])], [], by kernel_rfl⟩

set_option maxRecDepth 100000 in
theorem lifted (os : Os) (started : os.Started) (H : Type) (enc : TypeId × Value → H) (F : Stop.Interp) :
    ReturnsInHanded {} Tryd.checked os 7 .any ((OpenSpec.ofChange Rows.escrowMendedSpec).preRow enc Tryd.prog Tryd.f7 Rows.escrowMendedRow.domain false Rows.escrowMendedRow.laid) (((OpenSpec.ofChange Rows.escrowMendedSpec).at F).post enc Tryd.prog Tryd.f7 false true false false) := by
  obtain ⟨w0, ho, hv, hr, hok, hmet, ds0, places, hx⟩ := start os H enc
  refine returnsInHanded_of_row (C := Tryd.checked) (s := OpenSpec.ofChange Rows.escrowMendedSpec) own started (by kernel_rfl) Tryd.func7
    (witness_row_at (enc := enc) (C := Tryd.checked) false w0 #[arg0, arg1, arg2] ho hv hr hok
      (OpenSpec.preRow_of_cond 8 hx (by kernel_rfl) (fun k hk => by cases hk) (by kernel_rfl) hmet)) ?_
  intro W base args ds gs before hval hW _ _ hsz hL _ _
  exact contract H enc W base args ds gs before hval hW (tables_of hL)

theorem said : Rows.EscrowMendedSaid :=
  OpenClaim.holds_of_cond 7 Tryd.f7 rfl rfl rfl rfl rfl rfl rfl ⟨rfl, rfl, rfl, rfl, rfl⟩ rfl rfl rfl rfl rfl (by kernel_rfl) Tryd.func7 (by kernel_rfl)
    (of_decide_eq_true (by kernel_rfl)) (by unfold Func.isWrapper; first | (rw [if_pos (by decide +kernel)]; kernel_rfl) | (rw [if_neg (by decide +kernel)]; exact ⟨rfl, rfl⟩))
    (fun os started H enc _ F => by rw [OpenClaim.pre_eq_preRow]; exact lifted os started H enc F)

theorem plain (f : FuncId) (fn : Func) (hf : Tryd.pinned.checked.prog.funcNamed "coffer/cofferlaw11.EscrowMended" = some f) (hfn : Tryd.pinned.checked.prog.funcs[f]? = some fn) :
    false = Tryd.pinned.checked.prog.looks [] ∧ ∀ (j : Nat) t, fn.params[j]? = some t → Tryd.pinned.checked.prog.wantsStandIn t = false := by
  obtain rfl : f = 7 := Option.some.inj ((show Tryd.prog.funcNamed "coffer/cofferlaw11.EscrowMended" = some 7 by kernel_rfl).symm.trans hf) |>.symm
  obtain rfl : fn = Tryd.f7 := (Option.some.inj (Tryd.func7.symm.trans hfn)).symm
  refine ⟨by kernel_rfl, fun j t ht => ?_⟩
  rw [Tryd.params7] at ht
  have h9 : Tryd.pinned.checked.prog.wantsStandIn 9 = false := by kernel_rfl
  have h25 : Tryd.pinned.checked.prog.wantsStandIn 25 = false := by kernel_rfl
  have h50 : Tryd.pinned.checked.prog.wantsStandIn 50 = false := by kernel_rfl
  match j with
  | 0 =>
    have e : 25 = t := by simpa using ht
    rw [← e]
    exact h25
  | 1 =>
    have e : 50 = t := by simpa using ht
    rw [← e]
    exact h50
  | 2 =>
    have e : 9 = t := by simpa using ht
    rw [← e]
    exact h9
  | j + 3 => simp at ht

theorem proved : Rows.EscrowMendedCardSaid :=
  Claim7.holds_tied_plain_at .later [] _ _ _ _ said (fun _ h => by cases h) (by kernel_rfl) (fun _ h => by cases h) escrowMended_row_tie rfl ⟨rfl, rfl⟩ (by kernel_rfl) rfl plain (by kernel_rfl)
#print axioms proved
end escrowMended
end Go.Proofs.YtjcdhfkilnbjgaaDoor
