import Derived.Test.YtcnikfikpnnblaaGreatDoorNwc
import Derived.Test.YtcnikfikpnnblaaGreatDoorPart08
import Derived.Test.YtcnikfikpnnblaaGreatDoorPart19
import Derived.Test.YtcnikfikpnnblaaGreatDoorPart21
import Derived.Test.YtcnikfikpnnblaaGreatDoorPart17
import Derived.Test.YtcnikfikpnnblaaGreatDoorPart23
import Derived.Test.YtcnikfikpnnblaaGreatDoorPart00
import Derived.Test.YtcnikfikpnnblaaGreatDoorPart07
import Derived.Test.YtcnikfikpnnblaaGreatDoorRows
import Derived.ProofKit
import Derived.OpenShut
import Derived.ShutString
import Derived.ChangeOld
import Derived.SizedLaws
import Derived.Below
import Derived.Deep.DeepHandedRow
import Derived.Deep.Slices
import Derived.Lib.LaidTab
import Derived.Lib.LaidU8
import Derived.Deep.DeepWitnessRowRef
import Derived.Deep.DeepMust
import Derived.Deep.AppendLies
import Derived.Laws.AppendOwnNone
import Derived.OwnWalk
import Derived.Laws.OwnMore
import Derived.Test.YtcnikfikpnnblaaGreatDoorFdPval
namespace Go.Proofs.YtcnikfikpnnblaaGreatDoor
open Go.RowKit
set_option linter.unusedVariables false
set_option linter.unusedSimpArgs false
theorem enter_ok {P : Program} {f : FuncId} {fn : Func} {c : Code} (hf : P.funcs[f]? = some fn) (hn : (fn.name == "runtime.NumGoroutine") = false) (hb : fn.body = some c) (args : Array Value) (w : World) : (callFunc f args).run P w = .ok (.enter f args) w := by
  have h1 : fn.name ≠ "runtime.NumGoroutine" := by simpa using hn
  simp [callFunc, hf, h1, hb]
theorem first_eq {S : ByteArray} {j k : Nat} (h1 : spN j = S) (h2 : ∀ i, i < j → spN i ≠ S) (k1 : spN k = S) (k2 : ∀ i, i < k → spN i ≠ S) : j = k := by
  rcases Nat.lt_trichotomy j k with q | q | q
  · exact absurd h1 (k2 j q)
  · exact q
  · exact absurd k1 (h2 k q)
theorem find_at (S : ByteArray) (j : Nat) (w : World) (hT : Pow w) (hj : j < 52) (h1 : spN j = S) (h2 : ∀ i, i < j → spN i ≠ S) : Calls Tryz.prog 43 #[.string S] w fun e w' => Hid (e = .returned (.tuple #[.agg (sxF j).toArray, .bool true]) ∧ Below w.heap.size w w') := by
  refine (find_ok S w hT).mono ?_
  rintro e w' ⟨⟨k, hk, e1, e2, rfl⟩ | ⟨hn, _⟩, hb⟩
  · rw [first_eq h1 h2 e1 e2]; exact ⟨rfl, hb⟩
  · exact absurd h1 (hn j hj)
theorem RC.belowB {B : Nat} {w w' : World} (h : RC w) (hb : Below B w w') (h0 : 3 < B) : RC w' := fun i hi => (hb.cell (p := ⟨3, i, none⟩) h0).trans (h i hi)
end Go.Proofs.YtcnikfikpnnblaaGreatDoor
namespace Go.Proofs.YtcnikfikpnnblaaGreatDoor
open Go.RowKit
set_option linter.unusedVariables false
set_option linter.unusedSimpArgs false
theorem made_yes (c sh : Nat) (w : World) (h : w.cell? ⟨c, 0, none⟩ = some (.pointer (some ⟨sh, 0, none⟩))) : Calls Tryz.prog 51 #[.pointer (some ⟨c, 0, none⟩)] w fun e w' => e = .returned (.bool true) ∧ w' = w := by
  go_enter Tryz.func51, Tryz.ntmps51
  go_wp2
  go_ret
  exact ⟨rfl, rfl⟩
theorem num_ok (x : Int) (w : World) : Calls Tryz.prog 17 #[.int .i64 x] w fun e w' => e = .returned (.int .i64 x) ∧ w' = w := by
  go_enter Tryz.func17, Tryz.ntmps17
  go_wp2
  go_ret
  exact ⟨rfl, rfl⟩
end Go.Proofs.YtcnikfikpnnblaaGreatDoor
namespace Go.Proofs.YtcnikfikpnnblaaGreatDoor
open Go.RowKit
set_option linter.unusedVariables false
set_option linter.unusedSimpArgs false
/-- The document's cipher in its box. -/
def Cb (w : World) (c : Nat) : Prop := ∃ cs : Array Value, w.heap[c]? = some (.cells cs 101 (0, 0)) ∧ cs.size = 42
theorem Cb.lt {w : World} {c : Nat} (h : Cb w c) : c < w.heap.size := by obtain ⟨cs, h, _⟩ := h; exact (Array.getElem?_eq_some_iff.1 h).1
theorem Cb.cell {w : World} {c : Nat} (h : Cb w c) (o : Nat) (ho : o < 42) : ∃ u, w.cell? ⟨c, o, none⟩ = some u := by
  obtain ⟨cs, h, hs⟩ := h
  refine ⟨cs[o]'(by omega), ?_⟩
  simp [World.cell?, h, hs, ho]
theorem Cb.frozen {w : World} {c : Nat} (h : Cb w c) (o : Nat) : w.frozen? ⟨c, o, none⟩ = false := by
  obtain ⟨cs, h, hs⟩ := h
  simp [World.frozen?, h]
theorem Cb.there {w : World} {c : Nat} (h : Cb w c) (o n : Nat) (ho : o + n ≤ 42) : w.there c o n := fun j hj => by
  obtain ⟨u, hu⟩ := h.cell (o + j) (by omega)
  exact ⟨by rw [hu]; rfl, h.frozen _⟩
theorem Cb.keep {w w' : World} {c : Nat} (h : Cb w c) (e : w'.heap[c]? = w.heap[c]?) : Cb w' c := by
  obtain ⟨cs, h, hs⟩ := h
  exact ⟨cs, by rw [e]; exact h, hs⟩
theorem Cb.below {w w' : World} {c : Nat} (h : Cb w c) (b : Below w.heap.size w w') : Cb w' c := h.keep (b.block c h.lt)
theorem Cb.sets {w : World} {c : Nat} (h : Cb w c) (o : Nat) (vs : List Value) : Cb (w.setCells c o vs) c := by
  obtain ⟨cs, h, hs⟩ := h
  obtain ⟨r, h1, h2, _⟩ := setCells_bo c 101 vs o w cs h
  exact ⟨r, h1, by rw [h2]; exact hs⟩
theorem Cb.set {w : World} {c : Nat} (h : Cb w c) (o : Nat) (v : Value) : Cb (w.setCell ⟨c, o, none⟩ v) c := by
  have q := h.sets o [v]
  simpa [World.setCells] using q
/-- Between two steps of New: the row's box, the cipher's box. -/
structure Rn (w0 w : World) (m c : Nat) (row : List Value) : Prop where
  row : Bx w m 35 row
  cb : Cb w c
  bel : Below w0.heap.size w0 w
  le : w0.heap.size ≤ c
  ne : m ≠ c
theorem Rn.below {w0 w w' : World} {m c : Nat} {row : List Value} (h : Rn w0 w m c row) (b : Below w.heap.size w w') : Rn w0 w' m c row := ⟨h.row.below b, h.cb.below b, h.bel.trans (b.mono h.bel.size), h.le, h.ne⟩
theorem Rn.sets {w0 w : World} {m c : Nat} {row : List Value} (h : Rn w0 w m c row) (o : Nat) (vs : List Value) : Rn w0 (w.setCells c o vs) m c row :=
  ⟨h.row.keep ((setCells_gb c vs o w).block m h.row.lt (by intro e; injection e with e; exact h.ne e)), h.cb.sets o vs, h.bel.trans (below_gb (setCells_gb c vs o w) h.bel.size h.le), h.le, h.ne⟩
theorem Rn.set {w0 w : World} {m c : Nat} {row : List Value} (h : Rn w0 w m c row) (o : Nat) (v : Value) : Rn w0 (w.setCell ⟨c, o, none⟩ v) m c row := by
  have q := h.sets o [v]
  simpa [World.setCells] using q
end Go.Proofs.YtcnikfikpnnblaaGreatDoor
namespace Go.Proofs.YtcnikfikpnnblaaGreatDoor
open Go.RowKit
set_option linter.unusedVariables false
set_option linter.unusedSimpArgs false
/-- What the program's tables hold. -/
structure Env (w : World) (G o cp : Nat) : Prop where
  pow : Pow w
  md : MdAt w G o cp
  tb : Dg.Tables w
  rt : Dg.RTab w
  rc : RC w
theorem Env.below {w w' : World} {G o cp : Nat} (h : Env w G o cp) (b : Below w.heap.size w w') : Env w' G o cp :=
  ⟨h.pow.below b, h.md.below b, h.tb.below b h.tb.size, h.rt.kept fun k hk => b.block k (by have := h.rt.size; omega), h.rc.belowB b (by have := h.tb.size; omega)⟩
end Go.Proofs.YtcnikfikpnnblaaGreatDoor
namespace Go.Proofs.YtcnikfikpnnblaaGreatDoor
open Go.ChangeShapes Go.WideShapes Go.ChangeAt Go.RowKit
set_option linter.unusedVariables false
set_option linter.unusedSimpArgs false
theorem own : ownKnob Tryz.prog.godebug = none := by kernel_rfl
/-- A variable that is listed reads as its datum. -/
theorem laid_var {P : Program} {W : World} {laid : List (String × DataW Unit)} : ∀ {ps : List MemPlace}, DataW.LaidVars P W laid ps → ∀ n d, (n, d) ∈ laid → ∃ g t cs fuel p, P.globalNamed n = some g ∧ (P.globals[g]?).map (·.type) = some t ∧ W.var? P n = some cs ∧ DataW.trod (fun _ => ()) P W 0 (fun _ => true) false fuel t cs.toList = some (d, p) := by
  induction laid with
  | nil => intro ps h n d hm; cases hm
  | cons x r ih =>
    intro ps h n d hm
    obtain ⟨n', d'⟩ := x
    obtain ⟨g, t, cs, fuel, p, q, h1, h2, h3, h4, h5, _⟩ := h
    rcases List.mem_cons.1 hm with e | e
    · injection e with e1 e2
      subst e1 e2
      exact ⟨g, t, cs, fuel, p, h1, h2, h3, h4⟩
    · exact ih h5 n d e
theorem tab_at {W : World} {laid : List (String × DataW Unit)} (h : laidMet Tryz.prog laid W) (k : IntKind) (name : String) (zs : List Int) (g : Nat) (t e : TypeId) (n : Nat) (hm : (name, Lib.tabData k zs) ∈ laid) (hg : Tryz.prog.globalNamed name = some g) (hty : (Tryz.prog.globals[g]?).map (·.type) = some t) (ht : Tryz.prog.underlying t = some (.array n e)) (he : Tryz.prog.underlying e = some (.int k)) (hc : Tryz.prog.cellsOf e = 1) (hct : Tryz.prog.cellsOf t = n) : Lib.TabIs Tryz.prog W name k zs := by
  obtain ⟨ps, hL, _⟩ := h
  obtain ⟨g', t', cs, fuel, p, hg', ht', hvar, hd⟩ := laid_var hL name _ hm
  obtain rfl := Option.some.inj (hg.symm.trans hg')
  obtain rfl := Option.some.inj (hty.symm.trans ht')
  unfold Lib.TabIs
  rw [hvar, ← Lib.cells_of_tab (n := n) (e := e) ht he hc hct hd]
def rconL : List Int := [1, 2, 4, 8, 16, 32, 64, 128, 27, 54]
theorem rcon_at : ∀ i : Fin 10, rconL.getD i.1 0 = (rcT i.1 : Nat) := by decide +kernel
end Go.Proofs.YtcnikfikpnnblaaGreatDoor
namespace Go.Proofs.YtcnikfikpnnblaaGreatDoor
open Go.RowKit
set_option linter.unusedVariables false
set_option linter.unusedSimpArgs false
theorem ret_agg {P : Program} {fn : Func} {p : Tmp} {ty : TypeId} {d : TypeDesc} {Q : Ending → World → Prop} {tmps : Array Value} {w : World} {b : Nat} (cs : List Value) (h : fn.results = #[.cell p ty])
    (hp : tmps.getD p undef = .pointer (some ⟨b, 0, none⟩)) (hr : w.rangeAt b 0 cs) (hu : P.underlying ty = some d) (hd : d.isRow = true) (hi : (P.info? ty).map (·.size) = some cs.length)
    (hq : Q (.returned (.agg cs.toArray)) w) : bodyPost P fn Q .ret ⟨tmps, []⟩ w := ret_array cs h hp hr hu hd hi hq
/-- A key's bytes. -/
def kyL (bs : List Int) (m : Nat) : List Int := (List.range m).map fun i => if bs = [] then ((7 * i % 256 : Nat) : Int) else bs.getD (i % bs.length) 0
theorem kyL_succ (bs : List Int) (m : Nat) : kyL bs (m + 1) = kyL bs m ++ [if bs = [] then ((7 * m % 256 : Nat) : Int) else bs.getD (m % bs.length) 0] := by simp [kyL, List.range_succ]
structure KyI (w : World) (m : Nat) (nm : Int) (x : Value) (bs : List Int) (wr : World) (v : Value) (k : Nat) : Prop where
  own : wr.ownsRow (m + 1) 5 1 v k (cellsU8 (kyL bs k))
  box : Bx wr m 57 [.int .i64 nm, x]
  bel : Below m w wr
theorem KyI.step {w : World} {m : Nat} {nm : Int} {x : Value} {bs : List Int} {wr w2 : World} {v v2 : Value} {k : Nat} {z : Int} (h : KyI w m nm x bs wr v k) (o : Obj) (hz : (if bs = [] then ((7 * k % 256 : Nat) : Int) else bs.getD (k % bs.length) 0) = z) (ho : w2.ownsRow (m + 1) 5 1 v2 (k + 1) (cellsU8 (kyL bs k) ++ [.int .u8 z])) (hg : (wr.alloc o).grownBy w2 v.ownBlock) : KyI w m nm x bs w2 v2 (k + 1) := by
  have hm := h.box.lt
  have hb : Below (m + 1) wr w2 := ((Below.refl (m + 1) wr).alloc (by omega) o).grown hg (by simp; omega) (fun q hq => (ownsRow_lt h.own hq).1)
  refine ⟨?_, h.box.keep (hb.block m (by omega)), h.bel.trans (hb.mono (by omega))⟩
  rw [kyL_succ, hz, cellsU8_append]
  exact ho
end Go.Proofs.YtcnikfikpnnblaaGreatDoor
namespace Go.Proofs.YtcnikfikpnnblaaGreatDoor
open Go.RowKit
set_option linter.unusedVariables false
set_option linter.unusedSimpArgs false
/-- What lies above B stays. -/
theorem ShA.far {B : Nat} {w w' : World} {sh : Nat} {S : ByteArray} {st wd : Nat} {zs : List Int} {kv : Value} {mp : Option Addr} {ov : Value} (h : ShA B w sh S st wd zs kv mp ov) (hk : ∀ b, B ≤ b → b < w.heap.size → w'.heap[b]? = w.heap[b]?) (hs : w.heap.size ≤ w'.heap.size) : ShA B w' sh S st wd zs kv mp ov := by
  refine ⟨h.le, h.box.keep (hk _ h.le h.box.lt), ownsRow_keep h.key fun g q => ?_, h.main.keep (fun g e => ?_) hs, ?_⟩
  · exact hk g (ownsRow_lt h.key q).1 (ownsRow_lt h.key q).2
  · exact hk g (h.main.lt g e).2.1 (h.main.lt g e).1
  · obtain ⟨n, os, hn, ho⟩ := h.oth
    exact ⟨n, os, hn, ownsRow_keep ho fun g q => hk g (ownsRow_lt ho q).1 (ownsRow_lt ho q).2⟩
end Go.Proofs.YtcnikfikpnnblaaGreatDoor
namespace Go.Proofs.YtcnikfikpnnblaaGreatDoor
open Go.RowKit
set_option linter.unusedVariables false
set_option linter.unusedSimpArgs false
/-- What fit makes. -/
def ftZ (bs : List Int) (i : Nat) : Int := if bs = [] then ((i * i % 256 : Nat) : Int) else bs.getD (i % bs.length) 0
def ftL (bs : List Int) (m : Nat) : List Int := (List.range m).map (ftZ bs)
theorem ftL_succ (bs : List Int) (m : Nat) : ftL bs (m + 1) = ftL bs m ++ [ftZ bs m] := by simp [ftL, List.range_succ]
structure FtI (w : World) (bs : List Int) (wr : World) (v : Value) (k : Nat) : Prop where
  own : wr.ownsRow w.heap.size 5 1 v k (cellsU8 (ftL bs k))
  bel : Below w.heap.size w wr
theorem FtI.step {w : World} {bs : List Int} {wr w2 : World} {v v2 : Value} {k : Nat} {z : Int} (h : FtI w bs wr v k) (o : Obj) (hz : ftZ bs k = z) (ho : w2.ownsRow w.heap.size 5 1 v2 (k + 1) (cellsU8 (ftL bs k) ++ [.int .u8 z])) (hg : (wr.alloc o).grownBy w2 v.ownBlock) : FtI w bs w2 v2 (k + 1) := by
  have hb : Below w.heap.size wr w2 := ((Below.refl w.heap.size wr).alloc h.bel.size o).grown hg (by have := h.bel.size; simp; omega) (fun q hq => (ownsRow_lt h.own hq).1)
  refine ⟨?_, h.bel.trans hb⟩
  rw [ftL_succ, hz, cellsU8_append]
  exact ho
end Go.Proofs.YtcnikfikpnnblaaGreatDoor
namespace Go.Proofs.YtcnikfikpnnblaaGreatDoor
open Go.RowKit
set_option linter.unusedVariables false
set_option linter.unusedSimpArgs false
/-- What a cipher of lrw seals and opens with. -/
def lrwV (sh : Nat) (fv sv pv : Value) : Prop := fv = fV 140 ∧ sv = bV 160 [.pointer (some ⟨sh, 0, none⟩), fV 140] ∧ pv = bV 161 [.pointer (some ⟨sh, 0, none⟩), fV 140]
end Go.Proofs.YtcnikfikpnnblaaGreatDoor
namespace Go.Proofs.YtcnikfikpnnblaaGreatDoor.Fd
open Go.ChangeShapes Go.WideShapes Go.ChangeAt Go.RowKit
set_option linter.unusedVariables false
def pk (F : Nat → Nat) : Nat → Nat
  | 0 => 0
  | n + 1 => pk F n + F n * 256 ^ n
theorem pk_lt (F : Nat → Nat) (hF : ∀ i, F i < 256) (n : Nat) : pk F n < 256 ^ n := by
  induction n with
  | zero => simp [pk]
  | succ n ih =>
    have h := hF n
    rw [pk, Nat.pow_succ]
    have : F n * 256 ^ n ≤ 255 * 256 ^ n := Nat.mul_le_mul_right _ (by omega)
    omega
theorem pk_at (F : Nat → Nat) (hF : ∀ i, F i < 256) (n i : Nat) (hi : i < n) : pk F n / 256 ^ i % 256 = F i := by
  induction n with
  | zero => omega
  | succ n ih =>
    rw [pk]
    by_cases h : i < n
    · have e : F n * 256 ^ n = (F n * 256 ^ (n - i - 1) * 256) * 256 ^ i := by
        rw [Nat.mul_assoc, Nat.mul_assoc, ← Nat.pow_succ', ← Nat.pow_add]
        congr 2
        omega
      rw [e, Nat.add_mul_div_right _ _ (Nat.pow_pos (by decide)), Nat.add_mul_mod_self_right]
      exact ih h
    · have e : i = n := by omega
      subst e
      rw [Nat.add_mul_div_right _ _ (Nat.pow_pos (by decide)), Nat.div_eq_of_lt (pk_lt F hF i), Nat.zero_add]
      exact Nat.mod_eq_of_lt (hF i)
theorem byV_pk (F : Nat → Nat) (hF : ∀ i, F i < 256) (i : Nat) (hi : i < 16) : byV (BitVec.ofNat 128 (pk F 16)) i = F i := by
  have h := pk_lt F hF 16
  unfold byV
  rw [BitVec.toNat_ofNat]
  have e : pk F 16 % 2 ^ 128 = pk F 16 := Nat.mod_eq_of_lt (Nat.lt_of_lt_of_eq h (by decide))
  rw [e]
  exact pk_at F hF 16 i hi
end Go.Proofs.YtcnikfikpnnblaaGreatDoor.Fd
namespace Go.Proofs.YtcnikfikpnnblaaGreatDoor
open Go.RowKit
set_option linter.unusedVariables false
set_option linter.unusedSimpArgs false
theorem there_ok (c sh : Nat) (w : World) (h0 : w.cell? ⟨c, 0, none⟩ = some (.pointer (some ⟨sh, 0, none⟩))) (h6 : w.cell? ⟨sh, 6, none⟩ = some (.bool false)) : Calls Tryz.prog 76 #[.pointer (some ⟨c, 0, none⟩)] w fun e w' => e = .returned (.int .i64 0) ∧ w' = w := by
  go_enter Tryz.func76, Tryz.ntmps76
  go_wp2_with (go_at_call 51; refine (made_yes c sh _ h0).mono ?_; rintro e1 w1 ⟨rfl, hw⟩; obtain rfl := hw.symm)
  go_ret
  exact ⟨rfl, rfl⟩
set_option maxHeartbeats 800000 in
set_option maxRecDepth 100000 in
theorem may_ok (c sh n st : Nat) (w : World) (h0 : w.cell? ⟨c, 0, none⟩ = some (.pointer (some ⟨sh, 0, none⟩))) (h1 : w.cell? ⟨sh, 1, none⟩ = some (.int .i64 (st : Nat))) (h6 : w.cell? ⟨sh, 6, none⟩ = some (.bool false)) (hn : 16 ≤ n) (hm : n ≤ 4096) (hs : n % st = 0) (hst : 0 < st) : Calls Tryz.prog 53 #[.pointer (some ⟨c, 0, none⟩), .int .i64 (n : Nat)] w fun e w' => e = .returned (.int .i64 0) ∧ w' = w := by
  have HT : Hid (Calls Tryz.prog 76 #[.pointer (some ⟨c, 0, none⟩)] w fun e w' => e = .returned (.int .i64 0) ∧ w' = w) := there_ok c sh w h0 h6
  have g1 : decide ((n : Int) < 16) = false := by simp; omega
  have g1' : ¬ (n : Int) < 16 := by omega
  have g2 : decide (4096 < (n : Int)) = false := by simp; omega
  have g2' : ¬ (4096 : Int) < (n : Int) := by omega
  have g3 : ¬ st = 0 := by omega
  have g4 : (n : Int).tmod (st : Int) = 0 := by rw [Int.tmod_eq_emod_of_nonneg (by omega)]; omega
  clear hn hm hs hst h6
  go_enter Tryz.func53, Tryz.ntmps53
  go_wp2_with (go_at_call 76; refine HT.out.mono ?_; rintro e1 w1 ⟨rfl, hw⟩; obtain rfl := hw.symm; clear hw HT)
  go_ret
  exact ⟨rfl, rfl⟩
set_option maxHeartbeats 800000 in
set_option maxRecDepth 100000 in
/-- Cipher.Seal of a sector that may be. -/
theorem seal_gen (c sh : Nat) (f : Nat) (cs : List Value) (s : Int) (a : Option Addr) (n cp st : Nat) (w : World) (h0 : w.cell? ⟨c, 0, none⟩ = some (.pointer (some ⟨sh, 0, none⟩))) (h2 : w.cell? ⟨c, 2, none⟩ = some (.func (.func f) #[.agg cs.toArray] #[])) (h1 : w.cell? ⟨sh, 1, none⟩ = some (.int .i64 (st : Nat))) (h6 : w.cell? ⟨sh, 6, none⟩ = some (.bool false)) (hn : 16 ≤ n) (hm : n ≤ 4096) (hs : n % st = 0) (hst : 0 < st)
    (hE : ∀ args u, (callFunc f args).run Tryz.prog u = .ok (.enter f args) u) (Q : Value → World → Prop)
    (H : Hid (Calls Tryz.prog f #[.agg cs.toArray, .int .u64 s, .slice a n cp] w fun e w' => Hid (∃ y k d, e = .returned (.slice y k d) ∧ Q (.slice y k d) w'))) :
    Calls Tryz.prog 29 #[.pointer (some ⟨c, 0, none⟩), .int .u64 s, .slice a n cp] w fun e w' => Hid (∃ y k d, e = .returned (.tuple #[.slice y k d, .int .i64 0]) ∧ Q (.slice y k d) w') := by
  have HM : Hid (Calls Tryz.prog 53 #[.pointer (some ⟨c, 0, none⟩), .int .i64 (n : Nat)] w fun e w' => e = .returned (.int .i64 0) ∧ w' = w) := may_ok c sh n st w h0 h1 h6 hn hm hs hst
  clear h0 h1 h6 hn hm hs hst
  go_enter Tryz.func29, Tryz.ntmps29
  go_wp2_with (first
    | (go_at_call 53; refine HM.out.mono ?_; rintro e1 w1 ⟨rfl, hw⟩; obtain rfl := hw.symm; clear hw HM)
    | (refine H.out.mono ?_; intro e2 w2 hh; obtain ⟨y, k, d, rfl, hq⟩ := hh.out; have HQ : Hid (Q (.slice y k d) w2) := hq; clear hh hq H))
  go_ret2
  exact ⟨y, k, d, rfl, HQ.out⟩
end Go.Proofs.YtcnikfikpnnblaaGreatDoor
