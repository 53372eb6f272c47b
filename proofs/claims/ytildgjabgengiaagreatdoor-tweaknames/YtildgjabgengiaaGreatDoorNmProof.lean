import Derived.Test.YtildgjabgengiaaGreatDoorCards
import Derived.Test.YtildgjabgengiaaGreatDoorTie
import Derived.Test.YtildgjabgengiaaGreatDoorNmf
import Derived.ProofKit
import Derived.OpenShut
import Derived.ChangeOld
import Derived.Deep.DeepHandedRow
import Derived.Deep.Slices
import Derived.Lib.LaidTab
import Derived.Lib.LaidU8
import Derived.Deep.DeepWitnessRowRef
namespace Go.Proofs.YtildgjabgengiaaGreatDoor
open Go.ChangeShapes Go.WideShapes Go.ChangeAt Go.RowKit
set_option linter.unusedVariables false
theorem own : ownKnob Tryz.prog.godebug = none := by kernel_rfl
theorem cells38 : Tryz.prog.cellsOf 38 = 4 := by kernel_rfl
theorem cells9 : Tryz.prog.cellsOf 9 = 1 := by kernel_rfl
theorem cells3 : Tryz.prog.cellsOf 3 = 1 := by kernel_rfl
theorem und37 : Tryz.prog.underlying 37 = some (.slice 38) := by kernel_rfl
def refD : List (DataW Unit) := match (Rows.laid_coffer_cofferref03_modes : DataW Unit) with
  | .slice l _ => l
  | _ => []
theorem refD_eq : (Rows.laid_coffer_cofferref03_modes : DataW Unit) = .slice refD [] := rfl
theorem refD_len : refD.length = 17 := rfl
theorem row_of (k : Nat) (hk : k < 17) : ∃ (n m s : List UInt8) (mo : Int), refD[k]? = some (.agg [.lit (.string n), .lit (.string m), .lit (.string s), .lit (.int .i64 mo)]) ∧ refL.getD k [] = [.string ⟨n.toArray⟩, .string ⟨m.toArray⟩, .string ⟨s.toArray⟩, .int .i64 mo] := by
  match k, hk with
  | 0, _ => exact ⟨_, _, _, _, rfl, rfl⟩
  | 1, _ => exact ⟨_, _, _, _, rfl, rfl⟩
  | 2, _ => exact ⟨_, _, _, _, rfl, rfl⟩
  | 3, _ => exact ⟨_, _, _, _, rfl, rfl⟩
  | 4, _ => exact ⟨_, _, _, _, rfl, rfl⟩
  | 5, _ => exact ⟨_, _, _, _, rfl, rfl⟩
  | 6, _ => exact ⟨_, _, _, _, rfl, rfl⟩
  | 7, _ => exact ⟨_, _, _, _, rfl, rfl⟩
  | 8, _ => exact ⟨_, _, _, _, rfl, rfl⟩
  | 9, _ => exact ⟨_, _, _, _, rfl, rfl⟩
  | 10, _ => exact ⟨_, _, _, _, rfl, rfl⟩
  | 11, _ => exact ⟨_, _, _, _, rfl, rfl⟩
  | 12, _ => exact ⟨_, _, _, _, rfl, rfl⟩
  | 13, _ => exact ⟨_, _, _, _, rfl, rfl⟩
  | 14, _ => exact ⟨_, _, _, _, rfl, rfl⟩
  | 15, _ => exact ⟨_, _, _, _, rfl, rfl⟩
  | 16, _ => exact ⟨_, _, _, _, rfl, rfl⟩
  | n + 17, h => exact absurd h (by omega)
theorem eP : (Rows.laid_internal_strconv_uint64pow10 : DataW Unit) = Lib.tabData .u64 Lib.pow10Tab := by kernel_rfl
theorem pow_of {W : World} (h : laidMet Tryz.prog Rows.tweakNamesRow.laid W) : Pow W := by
  have q := Lib.laidMet.reads h (.tail _ (.tail _ (.head _)))
  rw [eP] at q
  obtain ⟨g', t', cs, fuel, p, hg', ht', hvar, hd⟩ := q
  have hg : Tryz.prog.globalNamed "internal/strconv.uint64pow10" = some 1 := by kernel_rfl
  obtain rfl := Option.some.inj (hg.symm.trans hg')
  have hty : (Tryz.prog.globals[1]?).map (·.type) = some 165 := by kernel_rfl
  obtain rfl := Option.some.inj (hty.symm.trans ht')
  unfold Pow Lib.TabIs
  rw [hvar, ← Lib.cells_of_tab (n := 20) (e := 48) (by kernel_rfl) (by kernel_rfl) (by kernel_rfl) (by kernel_rfl) hd]
theorem str_of {H : Type} {enc : TypeId × Value → H} {W : World} {n : Nat} {c : Value} {y : DataW H × List MemPlace} {l : List UInt8} {held : Bool} (h : DataW.trod enc Tryz.prog W 0 (fun _ => true) held n 9 [c] = some y) (hy : y.1 = .lit (.string l)) : c = .string ⟨l.toArray⟩ := by
  obtain ⟨s, hz, hx, _⟩ := DataW.trod_string Tryz.underlying9 h
  rw [hx] at hy
  have e : s.data.toList = l := by simpa using hy
  have hc : c = .string s := by simpa using hz
  rw [hc, ← e]
theorem int_of {H : Type} {enc : TypeId × Value → H} {W : World} {n : Nat} {c : Value} {y : DataW H × List MemPlace} {z : Int} {held : Bool} (h : DataW.trod enc Tryz.prog W 0 (fun _ => true) held n 3 [c] = some y) (hy : y.1 = .lit (.int .i64 z)) : c = .int .i64 z := by
  obtain ⟨s, hz, hx, _⟩ := DataW.trod_int Tryz.underlying3 h
  rw [hx] at hy
  have e : s = z := by simpa using hy
  have hc : c = .int .i64 s := by simpa using hz
  rw [hc, e]
set_option maxRecDepth 100000 in
theorem md_of {W : World} (h : laidMet Tryz.prog Rows.tweakNamesRow.laid W) : ∃ G o cp, MdAt W G o cp := by
  have q := Lib.laidMet.reads h (.tail _ (.tail _ (.tail _ (.head _))))
  rw [refD_eq] at q
  obtain ⟨g', t', cs, fuel, p, hg', ht', hvar, hd⟩ := q
  have hg : Tryz.prog.globalNamed "coffer/cofferref03.modes" = some 0 := by kernel_rfl
  obtain rfl := Option.some.inj (hg.symm.trans hg')
  have hty : (Tryz.prog.globals[0]?).map (·.type) = some 37 := by kernel_rfl
  obtain rfl := Option.some.inj (hty.symm.trans ht')
  rcases Deep.open_slice und37 hd with ⟨hcs, hx⟩ | ⟨a, len, cap, m, n, D, Pl, hcs, hb, hl, hm, hmm, hx, hc⟩
  · cases hx
  · simp only [if_true] at hmm
    subst hmm
    have hD : refD = (List.range len).map D := by
      have := congrArg Prod.fst hx
      simp only [DataW.slice.injEq] at this
      exact this.1
    have hlen : len = 17 := by
      have := congrArg List.length hD
      simp [refD_len] at this
      omega
    subst hlen
    have hcell : ∀ i, i < 17 → ∀ j, j < 4 → W.cell? ((a.add (i * 4)).add j) = (refL.getD i [])[j]? := fun i hi => by
      obtain ⟨cs', h1, h2⟩ := hc i (by omega)
      rw [cells38] at h1
      obtain ⟨_, hlen, hcc⟩ := World.cells?_some h1
      obtain ⟨ys, k2, _, hx2, _, hyl, hfs⟩ := DataW.trod_struct Tryz.underlying38 h2
      obtain ⟨nm, md, st, mo, r1, r2⟩ := row_of i hi
      have hDi : D i = .agg [.lit (.string nm), .lit (.string md), .lit (.string st), .lit (.int .i64 mo)] := by
        rw [hD] at r1
        simpa [List.getElem?_map, List.getElem?_range hi] using r1
      match cs', hlen with
      | [v0, v1, v2, v3], _ =>
        match ys, hyl with
        | [y0, y1, y2, y3], _ =>
          have k0 := hfs 0 _ rfl
          have k1 := hfs 1 _ rfl
          have k2 := hfs 2 _ rfl
          have k3 := hfs 3 _ rfl
          simp [cells3, cells9] at k0 k1 k2 k3
          have hDe : D i = .agg [y0.1, y1.1, y2.1, y3.1] := by simpa using congrArg Prod.fst hx2
          rw [hDi] at hDe
          simp only [DataW.agg.injEq, List.cons.injEq, and_true] at hDe
          obtain ⟨e0, e1, e2, e3⟩ := hDe
          obtain rfl := str_of k0 e0.symm
          obtain rfl := str_of k1 e1.symm
          obtain rfl := str_of k2 e2.symm
          obtain rfl := int_of k3 e3.symm
          intro j hj
          rw [r2]
          exact hcc j (by omega)
    obtain ⟨G, o, spot⟩ := a
    have hc0 := hcell 0 (by decide) 0 (by decide)
    obtain ⟨_, _, _, _, _, r2⟩ := row_of 0 (by decide)
    rw [r2] at hc0
    have hspot : spot = none := by simpa [Addr.add] using World.cell?_spot hc0
    subst hspot
    have hv : W.cell? ⟨0, 0, none⟩ = some (.slice (some ⟨G, o, none⟩) 17 m) := by
      rw [World.var?_cell hg hvar 0]
      have : cs = #[.slice (some ⟨G, o, none⟩) 17 m] := by
        cases cs
        simpa using hcs
      rw [this]
      rfl
    refine ⟨G, o, m, hv, World.block_lt_of_cell? W _ hv, by simpa [Addr.add] using World.block_lt_of_cell? W _ hc0, fun k hk j hj => ?_⟩
    have q := hcell k hk j hj
    rw [Addr.add_lit, Addr.add_lit] at q
    exact q
namespace tweakNames

theorem contract (H : Type) (enc : TypeId × Value → H) (W : World) (args : Array Value) (ds gs : List (DataW H)) (before : List MemPlace)
    (hW : DataW.Whole enc Tryz.prog Tryz.f3.params.toList Rows.tweakNamesSpec.vars false W args.toList ds gs before) (hT : Pow W) (hM : ∃ G o cp, MdAt W G o cp) :
    Calls Tryz.prog 3 args W fun e W' => ∃ v, e = .returned v ∧ Rows.tweakNamesSpec.post enc Tryz.prog Tryz.f3 false true false false W args v W' := by
  have hW' := hW
  obtain ⟨p, q, hA0, hV, rfl, hfz, hnd⟩ := hW
  have hA : DataW.TrodAll enc Tryz.prog W 0 (fun _ => true) true Tryz.f3.params.toList args.toList ds p := hA0
  rw [Tryz.params3] at hA
  obtain ⟨hargs, rfl, rfl⟩ := trodAll_nil hA
  obtain rfl : args = #[] := by cases args; simp_all
  obtain ⟨rfl, rfl⟩ := trodVars_none hV
  clear hA0
  obtain ⟨G, o, cp, hD⟩ := hM
  refine (names_ok W hT G o cp hD).mono fun e W' hq => ?_
  obtain ⟨he, bel⟩ := hq.out
  subst he
  exact ⟨_, rfl, _, _, _, [], _, [], hW', trodAll_mk1 (shut_bool Tryz.underlying4 _), trodAll_mk0, rfl, bel.frame _, fun h => by cases h⟩

noncomputable def laidWorld (os : Os) : World :=
  let w0 := World.holding Tryz.prog os ⟨#[], #[], []⟩
  let put (h : Array Obj) (g : Nat) (cs : Array Value) : Array Obj := h.modify g fun
    | .cells _ t frozen => .cells cs t frozen
    | o => o
  let h0 := put w0.heap 0 #[.slice (some ⟨w0.heap.size, 0, none⟩) 17 17]
  let h1 := put h0 1 (([1, 10, 100, 1000, 10000, 100000, 1000000, 10000000, 100000000, 1000000000, 10000000000, 100000000000, 1000000000000, 10000000000000, 100000000000000, 1000000000000000, 10000000000000000, 100000000000000000, 1000000000000000000, 10000000000000000000] : List Int).map (Value.int .u64)).toArray
  let h2 := put h1 2 (([1, 2, 4, 8, 16, 32, 64, 128, 27, 54] : List Int).map (Value.int .u8)).toArray
  let h3 := put h2 3 (([7640891576956012808, 13503953896175478587, 4354685564936845355, 11912009170470909681, 5840696475078001361, 11170449401992604703, 2270897969802886507, 6620516959819538809, 14680500436340154072, 7105036623409894663, 10473403895298186519, 1526699215303891257, 7436329637833083697, 10282925794625328401, 15784041429090275239, 5167115440072839076] : List Int).map (Value.int .u64)).toArray
  let h4 := put h3 4 (([0, 1, 28, 2, 29, 14, 24, 3, 30, 22, 20, 15, 25, 17, 4, 8, 31, 27, 13, 23, 21, 19, 16, 7, 26, 12, 18, 6, 11, 5, 10, 9] : List Int).map (Value.int .u8)).toArray
  let h5 := put h4 5 (([0, 1, 56, 2, 57, 49, 28, 3, 61, 58, 42, 50, 38, 29, 17, 4, 62, 47, 59, 36, 45, 43, 51, 22, 53, 39, 33, 30, 24, 18, 12, 5, 63, 55, 48, 27, 60, 41, 37, 16, 46, 35, 44, 21, 52, 32, 23, 11, 54, 26, 40, 15, 34, 20, 31, 10, 25, 14, 19, 9, 13, 8, 7, 6] : List Int).map (Value.int .u8)).toArray
  let h6 := put h5 6 (([4794697086780616226, 8158064640168781261, 13096744586834688815, 16840607885511220156, 4131703408338449720, 6480981068601479193, 10538285296894168987, 12329834152419229976, 15566598209576043074, 1334009975649890238, 2608012711638119052, 6128411473006802146, 8268148722764581231, 9286055187155687089, 11230858885718282805, 13951009754708518548, 16472876342353939154, 17275323862435702243, 1135362057144423861, 2597628984639134821, 3308224258029322869, 5365058923640841347, 6679025012923562964, 8573033837759648693, 10970295158949994411, 12119686244451234320, 12683024718118986047, 13788192230050041572, 14330467153632333762, 15395433587784984357, 489312712824947311, 1452737877330783856, 2861767655752347644, 3322285676063803686, 5560940570517711597, 5996557281743188959, 7280758554555802590, 8532644243296465576, 9350256976987008742, 10552545826968843579, 11727347734174303076, 12113106623233404929, 14000437183269869457, 14369950271660146224, 15101387698204529176, 15463397548674623760, 17586052441742319658, 1182934255886127544, 1847814050463011016, 2177327727835720531, 2830643537854262169, 3796741975233480872, 4115178125766777443, 5681478168544905931, 6601373596472566643, 7507060721942968483, 8399075790359081724, 8693463985226723168, 9568029438360202098, 10144078919501101548, 10430055236837252648, 11840083180663258601, 13761210420658862357, 14299343276471374635, 14566680578165727644, 15097957966210449927, 16922976911328602910, 17689382322260857208, 500013540394364858, 748580250866718886, 1242879168328830382, 1977374033974150939, 2944078676154940804, 3659926193048069267, 4368137639120453308, 4836135668995329356, 5532061633213252278, 6448918945643986474, 6902733635092675308, 7801388544844847127] : List Int).map (Value.int .u64)).toArray
  { w0 with heap := h6.push (.cells refL.flatten.toArray 38) }
theorem start (os : Os) (H : Type) (enc : TypeId × Value → H) : ∃ w0 : World, w0.os = os ∧ (w0.forCall (fun _ _ => 0) ⟨#[], #[], []⟩).variablesRefB Tryz.prog = true ∧
    ((w0.forCall (fun _ _ => 0) ⟨#[], #[], []⟩).heap.toList.drop Tryz.prog.globals.size).take ((begin Tryz.prog (fun _ _ => 0) default).world.heap.size - Tryz.prog.globals.size) = (begin Tryz.prog (fun _ _ => 0) default).world.heap.toList.drop Tryz.prog.globals.size ∧
    Input.okWideB Tryz.prog (w0.forCall (fun _ _ => 0) ⟨#[], #[], []⟩) 3 ⟨#[], #[], []⟩ = true ∧
    laidMet Tryz.prog Rows.tweakNamesRow.laid (w0.forCall (fun _ _ => 0) ⟨#[], #[], []⟩).memory ∧
    ∃ places, DataW.whole enc Tryz.prog (w0.forCall (fun _ _ => 0) ⟨#[], #[], []⟩).memory Tryz.f3.params.toList Rows.tweakNamesSpec.vars false ([] : List Value) 8 = some ([], [], places) := by
  exact ⟨laidWorld os, rfl, by kernel_rfl, by kernel_rfl, by kernel_rfl, laidMet_of_run' 8 (by kernel_rfl) (by kernel_rfl), [], by kernel_rfl⟩

set_option maxRecDepth 100000 in
theorem lifted (os : Os) (started : os.Started) (H : Type) (enc : TypeId × Value → H) (F : Stop.Interp) :
    ReturnsInHanded {} Tryz.checked os 3 .any ((OpenSpec.ofChange Rows.tweakNamesSpec).preRow enc Tryz.prog Tryz.f3 Rows.tweakNamesRow.domain false Rows.tweakNamesRow.laid) (((OpenSpec.ofChange Rows.tweakNamesSpec).at F).post enc Tryz.prog Tryz.f3 false true false false) := by
  obtain ⟨w0, ho, hv, hr, hok, hmet, places, hx⟩ := start os H enc
  refine returnsInHanded_of_row (C := Tryz.checked) (s := OpenSpec.ofChange Rows.tweakNamesSpec) own started (by kernel_rfl) Tryz.func3
    (witness_row_atRef (enc := enc) (C := Tryz.checked) false w0 #[] ho hv hr hok
      (OpenSpec.preRow_of_cond 8 hx (by kernel_rfl) (fun k hk => by cases hk) (by kernel_rfl) hmet)) ?_
  intro W base args ds gs before hval hW _ _ _ hL _ _
  exact contract H enc W args ds gs before hW (pow_of hL) (md_of hL)

theorem said : Rows.TweakNamesSaid :=
  OpenClaim.holds_of_cond 3 Tryz.f3 rfl rfl rfl rfl rfl rfl rfl ⟨rfl, rfl, rfl, rfl, rfl⟩ rfl rfl rfl rfl rfl (by kernel_rfl) Tryz.func3 (by kernel_rfl)
    (of_decide_eq_true (by kernel_rfl)) (by unfold Func.isWrapper; first | (rw [if_pos (by decide +kernel)]; kernel_rfl) | (rw [if_neg (by decide +kernel)]; exact ⟨rfl, rfl⟩))
    (fun os started H enc _ F => by rw [OpenClaim.pre_eq_preRow]; exact lifted os started H enc F)

theorem plain (f : FuncId) (fn : Func) (hf : Tryz.pinned.checked.prog.funcNamed "coffer/cofferlaw03.TweakNames" = some f) (hfn : Tryz.pinned.checked.prog.funcs[f]? = some fn) :
    false = Tryz.pinned.checked.prog.looks [] ∧ ∀ (j : Nat) t, fn.params[j]? = some t → Tryz.pinned.checked.prog.wantsStandIn t = false := by
  obtain rfl : f = 3 := Option.some.inj ((show Tryz.prog.funcNamed "coffer/cofferlaw03.TweakNames" = some 3 by kernel_rfl).symm.trans hf) |>.symm
  obtain rfl : fn = Tryz.f3 := (Option.some.inj (Tryz.func3.symm.trans hfn)).symm
  refine ⟨by kernel_rfl, fun j t ht => ?_⟩
  rw [Tryz.params3] at ht
  simp at ht

theorem proved : Rows.TweakNamesCardSaid :=
  Claim7.holds_tied_plain_at .later [] _ _ _ _ said (fun _ h => by cases h) (by kernel_rfl) (fun _ h => by cases h) tweakNames_row_tie rfl ⟨rfl, rfl⟩ (by kernel_rfl) rfl plain (by kernel_rfl)
#print axioms proved
end tweakNames
end Go.Proofs.YtildgjabgengiaaGreatDoor
