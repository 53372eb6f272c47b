import Derived.Test.YtkeklmkaleomkaaDoorPart13
namespace Go.Proofs.YtkeklmkaleomkaaDoor
open Go.ChangeShapes Go.WideShapes Go.ChangeAt Go.RowKit
set_option linter.unusedVariables false
set_option maxRecDepth 100000 in
/-- A Seed that came in, with its parts. -/
theorem open_seed3 {H : Type} {enc : TypeId × Value → H} {W : World} {r : Reach} {b0 : Nat} {v : Value} {d : DataW H} {p : List MemPlace} (hv : Value.okWide Tryd.prog W r b0 24 v) (h : DataW.Trod enc Tryd.prog W 0 (fun _ => true) true 24 v d p) :
    ∃ (hh L : Int) (ea na pa : Option Addr) (en ec nn nc pn pc : Nat) (E N P : List Int), v = .agg #[.int .i64 hh, .int .i64 L, .slice ea en ec, .slice na nn nc, .slice pa pn pc] ∧ View W (.slice ea en ec) E ∧ E.length = en ∧ View W (.slice na nn nc) N ∧ N.length = nn ∧ View W (.slice pa pn pc) P ∧ P.length = pn ∧ ∃ y0 y1 y2 y3 y4 : DataW H, d = .agg [y0, y1, y2, y3, y4] ∧ (y2 = .nil ∧ E = [] ∨ ∃ sp, y2 = .slice (lits .u8 E) sp) ∧ (y3 = .nil ∧ N = [] ∨ ∃ sp, y3 = .slice (lits .u8 N) sp) ∧ (y4 = .nil ∧ P = [] ∨ ∃ sp, y4 = .slice (lits .u8 P) sp) := by
  obtain ⟨cs, rfl, hsz⟩ := okWide_struct Tryd.underlying24 hv
  obtain ⟨c0, c1, c2, c3, c4, rfl⟩ := array5 (hsz.trans cells24s)
  obtain ⟨fuel, hf⟩ := h
  obtain ⟨xs, n, _, hx, _, hlen, hfs⟩ := DataW.trod_struct Tryd.underlying24 hf
  match xs, hlen with
  | [y0, y1, y2, y3, y4], _ =>
    have h0 := hfs 0 _ rfl
    have h1 := hfs 1 _ rfl
    have h2 := hfs 2 _ rfl
    have h3 := hfs 3 _ rfl
    have h4 := hfs 4 _ rfl
    simp [Value.cells, cells3, cells22] at h0 h1 h2 h3 h4
    obtain ⟨hh, rfl⟩ := cell_int h0
    obtain ⟨L, rfl⟩ := cell_int h1
    obtain ⟨ea, en, ec, E, rfl, vE, lE, dE⟩ := cell_bytes2s h2
    obtain ⟨na, nn, nc, N, rfl, vN, lN, dN⟩ := cell_bytes2s h3
    obtain ⟨pa, pn, pc, P, rfl, vP, lP, dP⟩ := cell_bytes2s h4
    exact ⟨hh, L, ea, na, pa, en, ec, nn, nc, pn, pc, E, N, P, rfl, vE, lE, vN, lN, vP, lP, y0.1, y1.1, y2.1, y3.1, y4.1, by simpa using congrArg Prod.fst hx, dE, dN, dP⟩
theorem bulk_len {H : Type} {y : DataW H} {E : List Int} {n : Nat} (h : y = .nil ∧ E = [] ∨ ∃ sp, y = .slice (lits .u8 E) sp) (hb : Rows.uptoBulk y ≤ n) : E.length ≤ n := by
  rcases h with ⟨_, rfl⟩ | ⟨sp, rfl⟩
  · simp
  · simp only [Rows.uptoBulk, bulk_lits] at hb
    omega
namespace springPlays
theorem short {H : Type} {d0 d1 : DataW H} (hk : Rows.uptoSmall H [d0, d1] = true) : Rows.uptoBulk d0 ≤ 1048576 ∧ Rows.uptoBulk d1 ≤ 1048576 := by
  have h : Rows.uptoBulkAll [d0, d1] ≤ 1048576 := of_decide_eq_true hk
  simp only [Rows.uptoBulkAll] at h
  omega

set_option maxRecDepth 100000 in
theorem contract (H : Type) (enc : TypeId × Value → H) (W : World) (base : Nat) (args : Array Value) (ds gs : List (DataW H)) (before : List MemPlace)
    (hval0 : ∀ (j : Nat) t v, Tryd.f7.params[j]? = some t → args[j]? = some v → Value.okWide Tryd.prog W .any base t v)
    (hW : DataW.Whole enc Tryd.prog Tryd.f7.params.toList Rows.springPlaysSpec.vars false W args.toList ds gs before) (hk : Rows.uptoSmall H (ds ++ gs) = true) (hT : Tables W ∧ RTab W) :
    Calls Tryd.prog 7 args W fun e W' => ∃ v, e = .returned v ∧ Rows.springPlaysSpec.post enc Tryd.prog Tryd.f7 false true false false W args v W' := by
  have hval : ∀ (j : Nat) t v, Tryd.f7.params[j]? = some t → args[j]? = some v → Value.okWide Tryd.prog W .any base t v := hval0
  have hW' := hW
  obtain ⟨p, q, hA0, hV, rfl, hfz, hnd⟩ := hW
  have hA : DataW.TrodAll enc Tryd.prog W 0 (fun _ => true) true Tryd.f7.params.toList args.toList ds p := hA0
  rw [Tryd.params7] at hA hval
  obtain ⟨v0, vs0, d0, ds0, p0, q0, hargs, rfl, rfl, h0, r0⟩ := trodAll_cons hA
  obtain ⟨v1, vs1, d1, ds1, p1, q1, hargs1, rfl, rfl, h1, r1⟩ := trodAll_cons r0
  obtain ⟨hargsE, rfl, rfl⟩ := trodAll_nil r1
  obtain rfl : args = #[v0, v1] := by cases args; simp_all
  obtain ⟨rfl, rfl⟩ := trodVars_none hV
  have k0 := h0
  have k1 := h1
  have lt0 : ∀ x ∈ p0, x.block < W.heap.size := by obtain ⟨m, hm⟩ := k0; exact DataW.trod_lt m _ _ _ hm
  have lt1 : ∀ x ∈ p1, x.block < W.heap.size := by obtain ⟨m, hm⟩ := k1; exact DataW.trod_lt m _ _ _ hm
  obtain ⟨a1, len1, cap1, rfl⟩ := okWide_slice und36 (hval 1 36 v1 rfl rfl)
  obtain ⟨hh, L, ea, na, pa, en, ec, nn, nc, pn, pc, E, N, P, rfl, vE, lE, vN, lN, vP, lP, y0, y1, y2, y3, y4, rfl, dE, dN, dP⟩ := open_seed3 (hval 0 24 v0 rfl rfl) h0
  have hbl := short hk
  obtain ⟨hSc, hs1, hs2⟩ := open_script h1 hbl.2
  have hb0 := hbl.1
  simp only [Rows.uptoBulk, Rows.uptoBulkAll] at hb0
  have bE : en ≤ 1048576 := by rw [← lE]; exact bulk_len dE (by omega)
  have bN : nn ≤ 1048576 := by rw [← lN]; exact bulk_len dN (by omega)
  have bP : pn ≤ 1048576 := by rw [← lP]; exact bulk_len dP (by omega)
  clear hA0 hval0
  refine (pl_ok hh L ea na pa a1 en ec nn nc pn pc len1 cap1 E N P W hT.1 hT.2 vE lE vN lN vP lP hSc hs1 hs2 (by omega) (by omega) (by omega)).mono fun e W' ⟨he, bel⟩ => ?_
  subst he
  exact ⟨_, rfl, _, _, _, [], _, [], hW', trodAll_mk1 (shut_bool Tryd.underlying4 _), (trodAll_cons_mk (Below.trod laidOut (by kernel_rfl) (of_decide_eq_true (by kernel_rfl)) k0 bel lt0) (trodAll_cons_mk (Below.trod laidOut (by kernel_rfl) (of_decide_eq_true (by kernel_rfl)) k1 bel lt1) trodAll_mk0)), rfl, bel.frame _, fun h => by cases h⟩

def arg0 : Value := .agg #[.int .i64 0, .int .i64 0, .slice none 0 0, .slice none 0 0, .slice none 0 0]
theorem start (os : Os) (H : Type) (enc : TypeId × Value → H) : ∃ w0 : World, w0.os = os ∧ (w0.forCall (fun _ _ => 0) ⟨#[], #[arg0, .slice none 0 0], []⟩).variablesB Tryd.prog = true ∧
    ((w0.forCall (fun _ _ => 0) ⟨#[], #[arg0, .slice none 0 0], []⟩).heap.toList.drop Tryd.prog.globals.size).take ((begin Tryd.prog (fun _ _ => 0) default).world.heap.size - Tryd.prog.globals.size) = (begin Tryd.prog (fun _ _ => 0) default).world.heap.toList.drop Tryd.prog.globals.size ∧
    Input.okWideB Tryd.prog (w0.forCall (fun _ _ => 0) ⟨#[], #[arg0, .slice none 0 0], []⟩) 7 ⟨#[], #[arg0, .slice none 0 0], []⟩ = true ∧
    laidMet Tryd.prog Rows.springPlaysUptoRow.laid (w0.forCall (fun _ _ => 0) ⟨#[], #[arg0, .slice none 0 0], []⟩).memory ∧
    ∃ places, DataW.whole enc Tryd.prog (w0.forCall (fun _ _ => 0) ⟨#[], #[arg0, .slice none 0 0], []⟩).memory Tryd.f7.params.toList Rows.springPlaysSpec.vars false ([arg0, .slice none 0 0] : List Value) 8 = some ([.agg [.lit (.int .i64 0), .lit (.int .i64 0), .nil, .nil, .nil], .nil], [], places) := by
  exact ⟨{ World.holding Tryd.prog os ⟨#[], #[arg0, .slice none 0 0], []⟩ with heap := ((World.holding Tryd.prog os ⟨#[], #[arg0, .slice none 0 0], []⟩).heap.modify 2 (refilled2 rootsL)).modify 3 (refilled2 cubesL) |>.modify 0 (refilled2 rootsL) |>.modify 1 (refilled2 cubesL) },
    rfl, by kernel_rfl, by kernel_rfl, by kernel_rfl, laidMet_of_run' 8 (by kernel_rfl) (by kernel_rfl), [], by kernel_rfl⟩

set_option maxRecDepth 100000 in
theorem lifted (os : Os) (started : os.Started) (H : Type) (enc : TypeId × Value → H) (F : Stop.Interp) :
    ReturnsInHanded {} Tryd.checked os 7 .any ((Rows.OpenSpec.upto Rows.springPlaysSpec).preRow enc Tryd.prog Tryd.f7 Rows.springPlaysUptoRow.domain false Rows.springPlaysUptoRow.laid) (((Rows.OpenSpec.upto Rows.springPlaysSpec).at F).post enc Tryd.prog Tryd.f7 false true false false) := by
  obtain ⟨w0, ho, hv, hr, hok, hmet, places, hx⟩ := start os H enc
  refine returnsInHanded_of_row (C := Tryd.checked) (s := Rows.OpenSpec.upto Rows.springPlaysSpec) own started (by kernel_rfl) Tryd.func7
    (witness_row_at (enc := enc) (C := Tryd.checked) false w0 #[arg0, .slice none 0 0] ho hv hr hok
      (OpenSpec.preRow_of_cond 8 hx (by kernel_rfl) (fun k hk => by cases hk; kernel_rfl) (by kernel_rfl) hmet)) ?_
  intro W base args ds gs before hval hW _ hcond hsz hL _ _
  exact contract H enc W base args ds gs before hval hW (hcond _ rfl) (tables_of4 hL)

theorem said : Rows.SpringPlaysUptoSaid :=
  OpenClaim.holds_of_cond 7 Tryd.f7 rfl rfl rfl rfl rfl rfl rfl ⟨rfl, rfl, rfl, rfl, rfl⟩ rfl rfl rfl rfl rfl (by kernel_rfl) Tryd.func7 (by kernel_rfl)
    (of_decide_eq_true (by kernel_rfl)) (by unfold Func.isWrapper; first | (rw [if_pos (by decide +kernel)]; kernel_rfl) | (rw [if_neg (by decide +kernel)]; exact ⟨rfl, rfl⟩))
    (fun os started H enc _ F => by rw [OpenClaim.pre_eq_preRow]; exact lifted os started H enc F)

theorem plain (f : FuncId) (fn : Func) (hf : Tryd.pinned.checked.prog.funcNamed "coffer/cofferlaw06.SpringPlays" = some f) (hfn : Tryd.pinned.checked.prog.funcs[f]? = some fn) :
    false = Tryd.pinned.checked.prog.looks [] ∧ ∀ (j : Nat) t, fn.params[j]? = some t → Tryd.pinned.checked.prog.wantsStandIn t = false := by
  obtain rfl : f = 7 := Option.some.inj ((show Tryd.prog.funcNamed "coffer/cofferlaw06.SpringPlays" = some 7 by kernel_rfl).symm.trans hf) |>.symm
  obtain rfl : fn = Tryd.f7 := (Option.some.inj (Tryd.func7.symm.trans hfn)).symm
  refine ⟨by kernel_rfl, fun j t ht => ?_⟩
  rw [Tryd.params7] at ht
  have h24 : Tryd.pinned.checked.prog.wantsStandIn 24 = false := by kernel_rfl
  have h36 : Tryd.pinned.checked.prog.wantsStandIn 36 = false := by kernel_rfl
  match j with
  | 0 =>
    have e : 24 = t := by simpa using ht
    rw [← e]
    exact h24
  | 1 =>
    have e : 36 = t := by simpa using ht
    rw [← e]
    exact h36
  | j + 2 => simp at ht

theorem proved : Rows.SpringPlaysUptoCardSaid :=
  Claim7.holds_tied_plain_at .later [] _ _ _ _ said (fun _ h => by cases h) (by kernel_rfl) (fun _ h => by cases h) springPlaysUpto_row_tie rfl ⟨rfl, rfl⟩ (by kernel_rfl) rfl plain (by kernel_rfl)
#print axioms proved
end springPlays
end Go.Proofs.YtkeklmkaleomkaaDoor
