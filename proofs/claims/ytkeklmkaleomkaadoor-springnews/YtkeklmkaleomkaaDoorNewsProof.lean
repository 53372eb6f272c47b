import Derived.Test.YtkeklmkaleomkaaDoorPart12
import Derived.Test.YtkeklmkaleomkaaDoorPart06
namespace Go.Proofs.YtkeklmkaleomkaaDoor
open Go.ChangeShapes Go.WideShapes Go.ChangeAt Go.RowKit
set_option linter.unusedVariables false
theorem reach_seed {H : Type} {ts : List TypeId} {ds : List (DataW H)} (hsz : (DataW.weightsEach Tryd.prog ts ds).all (· ≤ reachBytes) = true) {j : Nat} {parts : List (DataW H)} (ht : ts[j]? = some 24) (hd : ds[j]? = some (.agg parts)) : (DataW.weightsEach Tryd.prog [3, 3, 22, 22, 22] parts).all (· ≤ reachBytes) = true := by
  refine List.all_eq_true.2 fun n hn => List.all_eq_true.1 hsz n (DataW.weights_mem_each ht hd n ?_)
  simp only [DataW.weights, Tryd.underlying24]
  exact hn
set_option maxRecDepth 100000 in
/-- A Seed that came in, with its parts. -/
theorem open_seed2 {H : Type} {enc : TypeId × Value → H} {W : World} {r : Reach} {b0 : Nat} {v : Value} {d : DataW H} {p : List MemPlace} (hv : Value.okWide Tryd.prog W r b0 24 v) (h : DataW.Trod enc Tryd.prog W 0 (fun _ => true) true 24 v d p) :
    ∃ (hh L : Int) (ea na pa : Option Addr) (en ec nn nc pn pc : Nat) (E N P : List Int), v = .agg #[.int .i64 hh, .int .i64 L, .slice ea en ec, .slice na nn nc, .slice pa pn pc] ∧ View W (.slice ea en ec) E ∧ E.length = en ∧ View W (.slice na nn nc) N ∧ N.length = nn ∧ View W (.slice pa pn pc) P ∧ P.length = pn ∧ ∃ y0 y1 y2 y3 y4 : DataW H, d = .agg [y0, y1, y2, y3, y4] ∧ (y2 = .nil ∧ E = [] ∨ ∃ sp, y2 = .slice (lits .u8 E) sp) ∧ (y3 = .nil ∧ N = [] ∨ ∃ sp, y3 = .slice (lits .u8 N) sp) ∧ (y4 = .nil ∧ P = [] ∨ ∃ sp, y4 = .slice (lits .u8 P) sp) := by
  obtain ⟨cs, rfl, hsz⟩ := okWide_struct Tryd.underlying24 hv
  obtain ⟨c0, c1, c2, c3, c4, rfl⟩ := array5 (hsz.trans cells24s)
  obtain ⟨fuel, hf⟩ := h
  obtain ⟨xs, n, _, hx, _, hlen, hfs⟩ := DataW.trod_struct Tryd.underlying24 hf
  match xs, hlen with
  | [y0, y1, y2, y3, y4], _ =>
    have h0 := hfs 0 _ rfl
    have h1 := hfs 1 _ rfl
    have h2 := hfs 2 _ rfl
    have h3 := hfs 3 _ rfl
    have h4 := hfs 4 _ rfl
    simp [Value.cells, cells3, cells22] at h0 h1 h2 h3 h4
    obtain ⟨hh, rfl⟩ := cell_int h0
    obtain ⟨L, rfl⟩ := cell_int h1
    obtain ⟨ea, en, ec, E, rfl, vE, lE, dE⟩ := cell_bytes2s h2
    obtain ⟨na, nn, nc, N, rfl, vN, lN, dN⟩ := cell_bytes2s h3
    obtain ⟨pa, pn, pc, P, rfl, vP, lP, dP⟩ := cell_bytes2s h4
    exact ⟨hh, L, ea, na, pa, en, ec, nn, nc, pn, pc, E, N, P, rfl, vE, lE, vN, lN, vP, lP, y0.1, y1.1, y2.1, y3.1, y4.1, by simpa using congrArg Prod.fst hx, dE, dN, dP⟩
namespace springNews

set_option maxRecDepth 100000 in
theorem contract (H : Type) (enc : TypeId × Value → H) (W : World) (base : Nat) (args : Array Value) (ds gs : List (DataW H)) (before : List MemPlace)
    (hval0 : ∀ (j : Nat) t v, Tryd.f6.params[j]? = some t → args[j]? = some v → Value.okWide Tryd.prog W .any base t v)
    (hW : DataW.Whole enc Tryd.prog Tryd.f6.params.toList Rows.springNewsSpec.vars false W args.toList ds gs before) (hsz0 : (DataW.weightsEach Tryd.prog (Tryd.f6.params.toList ++ Rows.springNewsSpec.plain.varTypes Tryd.prog) (ds ++ gs)).all (· ≤ reachBytes) = true) (hT : Tables W ∧ RTab W) :
    Calls Tryd.prog 6 args W fun e W' => ∃ v, e = .returned v ∧ Rows.springNewsSpec.post enc Tryd.prog Tryd.f6 false true false false W args v W' := by
  have hval : ∀ (j : Nat) t v, Tryd.f6.params[j]? = some t → args[j]? = some v → Value.okWide Tryd.prog W .any base t v := hval0
  have hsz : (DataW.weightsEach Tryd.prog (Tryd.f6.params.toList ++ Rows.springNewsSpec.plain.varTypes Tryd.prog) (ds ++ gs)).all (· ≤ reachBytes) = true := hsz0
  have hW' := hW
  obtain ⟨p, q, hA0, hV, rfl, hfz, hnd⟩ := hW
  have hA : DataW.TrodAll enc Tryd.prog W 0 (fun _ => true) true Tryd.f6.params.toList args.toList ds p := hA0
  rw [Tryd.params6] at hA hval hsz
  obtain ⟨v0, vs0, d0, ds0, p0, q0, hargs, rfl, rfl, h0, r0⟩ := trodAll_cons hA
  obtain ⟨rfl, rfl, rfl⟩ := trodAll_nil r0
  obtain rfl : args = #[v0] := by cases args; simp_all
  obtain ⟨rfl, rfl⟩ := trodVars_none hV
  have k0 := h0
  have lt0 : ∀ x ∈ p0, x.block < W.heap.size := by obtain ⟨m, hm⟩ := k0; exact DataW.trod_lt m _ _ _ hm
  obtain ⟨hh, L, ea, na, pa, en, ec, nn, nc, pn, pc, E, N, P, rfl, vE, lE, vN, lN, vP, lP, y0, y1, y2, y3, y4, rfl, dE, dN, dP⟩ := open_seed2 (hval 0 24 v0 rfl rfl) h0
  have rc0 := reach_seed hsz (j := 0) rfl rfl
  have rb2 := reach_bytes rc0 (j := 2) rfl rfl dE
  have rb3 := reach_bytes rc0 (j := 3) rfl rfl dN
  have rb4 := reach_bytes rc0 (j := 4) rfl rfl dP
  clear hA0 hval0
  refine (nw_ok hh L ea na pa en ec nn nc pn pc E N P W hT.1 hT.2 vE lE vN lN vP lP (by omega) (by omega) (by omega)).mono fun e W' ⟨he, bel⟩ => ?_
  subst he
  exact ⟨_, rfl, _, _, _, [], _, [], hW', trodAll_mk1 (shut_bool Tryd.underlying4 _), (trodAll_cons_mk (Below.trod laidOut (by kernel_rfl) (of_decide_eq_true (by kernel_rfl)) k0 bel lt0) trodAll_mk0), rfl, bel.frame _, fun h => by cases h⟩

def arg0 : Value := .agg #[.int .i64 0, .int .i64 0, .slice none 0 0, .slice none 0 0, .slice none 0 0]
theorem start (os : Os) (H : Type) (enc : TypeId × Value → H) : ∃ w0 : World, w0.os = os ∧ (w0.forCall (fun _ _ => 0) ⟨#[], #[arg0], []⟩).variablesB Tryd.prog = true ∧
    ((w0.forCall (fun _ _ => 0) ⟨#[], #[arg0], []⟩).heap.toList.drop Tryd.prog.globals.size).take ((begin Tryd.prog (fun _ _ => 0) default).world.heap.size - Tryd.prog.globals.size) = (begin Tryd.prog (fun _ _ => 0) default).world.heap.toList.drop Tryd.prog.globals.size ∧
    Input.okWideB Tryd.prog (w0.forCall (fun _ _ => 0) ⟨#[], #[arg0], []⟩) 6 ⟨#[], #[arg0], []⟩ = true ∧
    laidMet Tryd.prog Rows.springNewsRow.laid (w0.forCall (fun _ _ => 0) ⟨#[], #[arg0], []⟩).memory ∧
    ∃ ds places, DataW.whole enc Tryd.prog (w0.forCall (fun _ _ => 0) ⟨#[], #[arg0], []⟩).memory Tryd.f6.params.toList Rows.springNewsSpec.vars false ([arg0] : List Value) 8 = some (ds, [], places) := by
  exact ⟨{ World.holding Tryd.prog os ⟨#[], #[arg0], []⟩ with heap := ((World.holding Tryd.prog os ⟨#[], #[arg0], []⟩).heap.modify 2 (refilled2 rootsL)).modify 3 (refilled2 cubesL) |>.modify 0 (refilled2 rootsL) |>.modify 1 (refilled2 cubesL) },
    rfl, by kernel_rfl, by kernel_rfl, by kernel_rfl, laidMet_of_run' 8 (by kernel_rfl) (by kernel_rfl), [.agg [.lit (.int .i64 0), .lit (.int .i64 0), .nil, .nil, .nil]], [], by kernel_rfl⟩

set_option maxRecDepth 100000 in
theorem lifted (os : Os) (started : os.Started) (H : Type) (enc : TypeId × Value → H) (F : Stop.Interp) :
    ReturnsInHanded {} Tryd.checked os 6 .any ((OpenSpec.ofChange Rows.springNewsSpec).preRow enc Tryd.prog Tryd.f6 Rows.springNewsRow.domain false Rows.springNewsRow.laid) (((OpenSpec.ofChange Rows.springNewsSpec).at F).post enc Tryd.prog Tryd.f6 false true false false) := by
  obtain ⟨w0, ho, hv, hr, hok, hmet, ds0, places, hx⟩ := start os H enc
  refine returnsInHanded_of_row (C := Tryd.checked) (s := OpenSpec.ofChange Rows.springNewsSpec) own started (by kernel_rfl) Tryd.func6
    (witness_row_at (enc := enc) (C := Tryd.checked) false w0 #[arg0] ho hv hr hok
      (OpenSpec.preRow_of_cond 8 hx (by kernel_rfl) (fun k hk => by cases hk) (by kernel_rfl) hmet)) ?_
  intro W base args ds gs before hval hW _ _ hsz hL _ _
  exact contract H enc W base args ds gs before hval hW hsz (tables_of4 hL)

theorem said : Rows.SpringNewsSaid :=
  OpenClaim.holds_of_cond 6 Tryd.f6 rfl rfl rfl rfl rfl rfl rfl ⟨rfl, rfl, rfl, rfl, rfl⟩ rfl rfl rfl rfl rfl (by kernel_rfl) Tryd.func6 (by kernel_rfl)
    (of_decide_eq_true (by kernel_rfl)) (by unfold Func.isWrapper; first | (rw [if_pos (by decide +kernel)]; kernel_rfl) | (rw [if_neg (by decide +kernel)]; exact ⟨rfl, rfl⟩))
    (fun os started H enc _ F => by rw [OpenClaim.pre_eq_preRow]; exact lifted os started H enc F)

theorem plain (f : FuncId) (fn : Func) (hf : Tryd.pinned.checked.prog.funcNamed "coffer/cofferlaw06.SpringNews" = some f) (hfn : Tryd.pinned.checked.prog.funcs[f]? = some fn) :
    false = Tryd.pinned.checked.prog.looks [] ∧ ∀ (j : Nat) t, fn.params[j]? = some t → Tryd.pinned.checked.prog.wantsStandIn t = false := by
  obtain rfl : f = 6 := Option.some.inj ((show Tryd.prog.funcNamed "coffer/cofferlaw06.SpringNews" = some 6 by kernel_rfl).symm.trans hf) |>.symm
  obtain rfl : fn = Tryd.f6 := (Option.some.inj (Tryd.func6.symm.trans hfn)).symm
  refine ⟨by kernel_rfl, fun j t ht => ?_⟩
  rw [Tryd.params6] at ht
  have h24 : Tryd.pinned.checked.prog.wantsStandIn 24 = false := by kernel_rfl
  match j with
  | 0 =>
    have e : 24 = t := by simpa using ht
    rw [← e]
    exact h24
  | j + 1 => simp at ht

theorem proved : Rows.SpringNewsCardSaid :=
  Claim7.holds_tied_plain_at .later [] _ _ _ _ said (fun _ h => by cases h) (by kernel_rfl) (fun _ h => by cases h) springNews_row_tie rfl ⟨rfl, rfl⟩ (by kernel_rfl) rfl plain (by kernel_rfl)
#print axioms proved
end springNews
end Go.Proofs.YtkeklmkaleomkaaDoor
