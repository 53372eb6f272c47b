import Derived.Test.YtehlppaidgkpaaaGreatDoorPart37
import Derived.WalkKit
import Derived.Deep.RegionHeld3
import Derived.Test.YtehlppaidgkpaaaGreatDoorPart05
import Derived.Deep.AppendLies
import Derived.Test.YtehlppaidgkpaaaGreatDoorNwc
import Derived.Test.YtehlppaidgkpaaaGreatDoorPart23
import Derived.Test.YtehlppaidgkpaaaGreatDoorDgRT32
import Derived.Test.YtehlppaidgkpaaaGreatDoorPart01
namespace Go.Proofs.YtehlppaidgkpaaaGreatDoor.Dg
open Go.RowKit
set_option linter.unusedVariables false
set_option linter.unusedSimpArgs false

/-- Slices of slices that are built. -/
theorem parts1_alloc {u : World} (t : TypeId) (x : Value) (ys : List Int) (g : Nat) (hx : View u x ys) (hg : u.heap.size ≠ g) (hox : ys ≠ [] → ∀ b off l c, x = .slice (some ⟨b, off, none⟩) l c → b ≠ g) : Parts (u.alloc (.cells #[x] t)) g (.slice (some ⟨u.heap.size, 0, none⟩) 1 1) [ys] := by
  refine ⟨_, 1, rfl, by simp, by simp [maxLen], .inr ⟨u.heap.size, 0, rfl, hg, fun i hi => ?_⟩⟩
  obtain rfl : i = 0 := by simpa using hi
  exact ⟨x, World.cell?_alloc_at _ _ _ _ rfl, hx.kept (fun q hq => Below.heap_alloc u _ q hq), hox⟩
end Go.Proofs.YtehlppaidgkpaaaGreatDoor.Dg
namespace Go.Proofs.YtehlppaidgkpaaaGreatDoor.Dg
open Go.RowKit
set_option linter.unusedVariables false
theorem elem22p : Tryz.prog.elem 22 = 5 := by kernel_rfl
theorem und22p : Tryz.prog.underlying 22 = some (.slice (Tryz.prog.elem 22)) := by kernel_rfl
theorem sizeOf5p (w : World) : (Go.sizeOf 5).run Tryz.prog w = .ok 1 w := by kernel_rfl
/-- A digest, as bytes. -/
def sumD (h : Int) (zs : List Int) : List Int := (spellL (wdOf h) (endW (wdOf h) (firstE h) 0 zs)).take (szOf h)
theorem szOf_pos {h : Int} (k : Known h) : 1 ≤ szOf h ∧ szOf h ≤ 64 := by obtain rfl : h = 256 := k; decide
theorem viewOwns {w : World} {B n : Nat} {v : Value} {zs : List Int} (h : w.ownsRow B 5 1 v n (cellsU8 zs)) (hn : zs.length = n) : View w v zs := by
  have h0 := h
  rcases h.2 with ⟨rfl, e0⟩ | ⟨g, c, cur, rfl, q1, q2, q3, q4, q5, q6⟩
  · refine ⟨none, 0, by rw [hn, e0], by omega, by simp [maxLen], fun _ => rfl, Or.inl (List.eq_nil_of_length_eq_zero (by omega))⟩
  · refine ⟨some ⟨g, 0, none⟩, c, by rw [hn], by omega, q4, (fun e => by cases e), Or.inr ⟨g, 0, rfl, fun i hi => ?_⟩⟩
    have hc := h0.cells (g := g) rfl i (.int .u8 (zs.getD i 0)) (by simp [cellsU8, List.getD, List.getElem?_eq_getElem hi])
    rw [Addr.add_lit] at hc
    exact hc
theorem sumD_length (h : Int) (k : Known h) (X : List Int) : (sumD h X).length = szOf h := by
  have := szOf_pos k
  simp [sumD, spellL]
  omega
end Go.Proofs.YtehlppaidgkpaaaGreatDoor.Dg
namespace Go.Proofs.YtehlppaidgkpaaaGreatDoor
open Go.RowKit
set_option linter.unusedVariables false
set_option linter.unusedSimpArgs false
theorem sumD_bytes (h : Int) (zs : List Int) : AllBytes (Dg.sumD h zs) := fun i => by
  unfold Dg.sumD
  rw [List.getD_eq_getElem?_getD, List.getElem?_take]
  split
  · unfold Dg.spellL
    rw [List.getElem?_map]
    cases (List.range 64)[i]? with
    | none => simp
    | some q => simp only [Option.map_some, Option.getD_some]; unfold Dg.spellAt; omega
  · simp
theorem sum256_len (zs : List Int) : (Dg.sumD 256 zs).length = 4 * 8 := Dg.sumD_length 256 rfl zs
end Go.Proofs.YtehlppaidgkpaaaGreatDoor
namespace Go.Proofs.YtehlppaidgkpaaaGreatDoor
open Go.RowKit
set_option linter.unusedVariables false
set_option linter.unusedSimpArgs false
theorem enter_ok {P : Program} {f : FuncId} {fn : Func} {c : Code} (hf : P.funcs[f]? = some fn) (hn : (fn.name == "runtime.NumGoroutine") = false) (hb : fn.body = some c) (args : Array Value) (w : World) : (callFunc f args).run P w = .ok (.enter f args) w := by
  have h1 : fn.name ≠ "runtime.NumGoroutine" := by simpa using hn
  simp [callFunc, hf, h1, hb]
theorem first_eq {S : ByteArray} {j k : Nat} (h1 : spN j = S) (h2 : ∀ i, i < j → spN i ≠ S) (k1 : spN k = S) (k2 : ∀ i, i < k → spN i ≠ S) : j = k := by
  rcases Nat.lt_trichotomy j k with q | q | q
  · exact absurd h1 (k2 j q)
  · exact q
  · exact absurd k1 (h2 k q)
theorem find_at (S : ByteArray) (j : Nat) (w : World) (hT : Pow w) (hj : j < 52) (h1 : spN j = S) (h2 : ∀ i, i < j → spN i ≠ S) : Calls Tryz.prog 42 #[.string S] w fun e w' => Hid (e = .returned (.tuple #[.agg (sxF j).toArray, .bool true]) ∧ Below w.heap.size w w') := by
  refine (find_ok S w hT).mono ?_
  rintro e w' ⟨⟨k, hk, e1, e2, rfl⟩ | ⟨hn, _⟩, hb⟩
  · rw [first_eq h1 h2 e1 e2]; exact ⟨rfl, hb⟩
  · exact absurd h1 (hn j hj)
/-- Any of the begins. -/
def isBeg (bg : Nat) : Prop := bg = 147 ∨ bg = 149 ∨ bg = 150 ∨ bg = 151 ∨ bg = 152 ∨ bg = 153 ∨ bg = 154 ∨ bg = 156
theorem mB_beg (k : Nat) (hk : k < 17) : mB k = .nilFunc ∨ ∃ bg, isBeg bg ∧ mB k = fV bg := by
  match k, hk with
  | 0, _ => exact .inl rfl
  | 1, _ => exact .inr ⟨147, by unfold isBeg; simp, rfl⟩
  | 2, _ => exact .inr ⟨149, by unfold isBeg; simp, rfl⟩
  | 3, _ => exact .inr ⟨150, by unfold isBeg; simp, rfl⟩
  | 4, _ => exact .inr ⟨151, by unfold isBeg; simp, rfl⟩
  | 5, _ => exact .inr ⟨152, by unfold isBeg; simp, rfl⟩
  | 6, _ => exact .inr ⟨153, by unfold isBeg; simp, rfl⟩
  | 7, _ => exact .inr ⟨154, by unfold isBeg; simp, rfl⟩
  | 8, _ => exact .inr ⟨154, by unfold isBeg; simp, rfl⟩
  | 9, _ => exact .inr ⟨156, by unfold isBeg; simp, rfl⟩
  | 10, _ => exact .inr ⟨149, by unfold isBeg; simp, rfl⟩
  | 11, _ => exact .inr ⟨150, by unfold isBeg; simp, rfl⟩
  | 12, _ => exact .inr ⟨151, by unfold isBeg; simp, rfl⟩
  | 13, _ => exact .inr ⟨153, by unfold isBeg; simp, rfl⟩
  | 14, _ => exact .inr ⟨152, by unfold isBeg; simp, rfl⟩
  | 15, _ => exact .inr ⟨149, by unfold isBeg; simp, rfl⟩
  | 16, _ => exact .inr ⟨150, by unfold isBeg; simp, rfl⟩
  | n + 17, h => exact absurd h (by omega)
theorem beg_enter (bg : Nat) (h : isBeg bg) (args : Array Value) (w : World) : (callFunc bg args).run Tryz.prog w = .ok (.enter bg args) w := by
  rcases h with rfl | rfl | rfl | rfl | rfl | rfl | rfl | rfl
  · exact enter_ok Tryz.func147 (by rfl) (by rfl) args w
  · exact enter_ok Tryz.func149 (by rfl) (by rfl) args w
  · exact enter_ok Tryz.func150 (by rfl) (by rfl) args w
  · exact enter_ok Tryz.func151 (by rfl) (by rfl) args w
  · exact enter_ok Tryz.func152 (by rfl) (by rfl) args w
  · exact enter_ok Tryz.func153 (by rfl) (by rfl) args w
  · exact enter_ok Tryz.func154 (by rfl) (by rfl) args w
  · exact enter_ok Tryz.func156 (by rfl) (by rfl) args w
theorem bld_enter (k : Nat) (hk : k < 17) (args : Array Value) (w : World) : (callFunc (mU k) args).run Tryz.prog w = .ok (.enter (mU k) args) w := by
  have : mU k = 146 ∨ mU k = 148 ∨ mU k = 155 ∨ mU k = 157 ∨ mU k = 158 ∨ mU k = 159 ∨ mU k = 160 := by
    have q : ∀ k, k < 17 → (mU k = 146 ∨ mU k = 148 ∨ mU k = 155 ∨ mU k = 157 ∨ mU k = 158 ∨ mU k = 159 ∨ mU k = 160) := by decide
    exact q k hk
  rcases this with h | h | h | h | h | h | h <;> rw [h]
  · exact enter_ok Tryz.func146 (by rfl) (by rfl) args w
  · exact enter_ok Tryz.func148 (by rfl) (by rfl) args w
  · exact enter_ok Tryz.func155 (by rfl) (by rfl) args w
  · exact enter_ok Tryz.func157 (by rfl) (by rfl) args w
  · exact enter_ok Tryz.func158 (by rfl) (by rfl) args w
  · exact enter_ok Tryz.func159 (by rfl) (by rfl) args w
  · exact enter_ok Tryz.func160 (by rfl) (by rfl) args w
theorem RC.belowB {B : Nat} {w w' : World} (h : RC w) (hb : Below B w w') (h0 : 1 < B) : RC w' := fun i hi => (hb.cell (p := ⟨1, i, none⟩) h0).trans (h i hi)
end Go.Proofs.YtehlppaidgkpaaaGreatDoor
namespace Go.Proofs.YtehlppaidgkpaaaGreatDoor
open Go.RowKit
set_option linter.unusedVariables false
set_option linter.unusedSimpArgs false
theorem made_yes (c sh : Nat) (w : World) (h : w.cell? ⟨c, 0, none⟩ = some (.pointer (some ⟨sh, 0, none⟩))) : Calls Tryz.prog 74 #[.pointer (some ⟨c, 0, none⟩)] w fun e w' => e = .returned (.bool true) ∧ w' = w := by
  go_enter Tryz.func74, Tryz.ntmps74
  go_wp2
  go_ret
  exact ⟨rfl, rfl⟩
theorem num_ok (x : Int) (w : World) : Calls Tryz.prog 14 #[.int .i64 x] w fun e w' => e = .returned (.int .i64 x) ∧ w' = w := by
  go_enter Tryz.func14, Tryz.ntmps14
  go_wp2
  go_ret
  exact ⟨rfl, rfl⟩
end Go.Proofs.YtehlppaidgkpaaaGreatDoor
namespace Go.Proofs.YtehlppaidgkpaaaGreatDoor.Dg
open Go.RowKit
set_option linter.unusedVariables false
set_option linter.unusedSimpArgs false
theorem cube_hi : ∀ t, t < 80 → IntKind.u32.wrap (cubeAt t / 4294967296) = cubeAt t / 4294967296 := by decide +kernel
theorem size92 : (Tryz.prog.info? 196).map (·.size) = some (Cl 64 (fun j => .int .u32 (cubeAt j / 4294967296))).length := by rw [Cl_length]; kernel_rfl
theorem sz_set {wr : World} {a : Addr} {u : Value} {k : Nat} (h : wr.heap.size = k) : Hid ((wr.setCell a u).heap.size = k) := by
  show (wr.setCell a u).heap.size = k
  simpa [World.setCell] using h
theorem cells_Cl (s : Eight) : s.cells = Cl 8 (fun j => .int .u64 (fnz s.list j)) := rfl
def Eight.low (s : Eight) : Eight := s.map (· % 4294967296)
theorem low_at (s : Eight) (j : Nat) (hj : j < 8) : fnz s.low.list j = fnz s.list j % 4294967296 := by
  match j, hj with
  | 0, _ | 1, _ | 2, _ | 3, _ | 4, _ | 5, _ | 6, _ | 7, _ => rfl
theorem low_block (C B : Nat → Int) (s : Eight) : Eight.zip (fun h x => (h + x) % 4294967296) s.low (rounds32 C (sched32 B) 64 s.low) = block32 C B s := by
  unfold block32
  generalize hr : rounds32 C (sched32 B) 64 s.low = r
  have hr' : rounds32 C (sched32 B) 64 ⟨s.a % 4294967296, s.b % 4294967296, s.c % 4294967296, s.d % 4294967296, s.e % 4294967296, s.f % 4294967296, s.g % 4294967296, s.k % 4294967296⟩ = r := hr
  rw [hr']
  simp only [Eight.zip, Eight.low, Eight.map, Int.emod_add_emod]
theorem low_low (C B : Nat → Int) (s : Eight) : (block32 C B s).low = block32 C B s := by
  unfold block32 Eight.zip Eight.low Eight.map
  simp only [Int.emod_emod]
theorem slice22 (u : World) (b p n cap q k : Nat) (kk : Int) (hk : kk = (k : Nat)) (h0 : 0 < k) (h1 : q + k ≤ cap) : (Instr.slice 22 (.slice (some ⟨b, p, none⟩) n cap) (some (.int .i64 (q : Nat))) (some (.int .i64 ((q : Int) + kk))) none).run Tryz.prog u = .ok (.slice (some ⟨b, p + q, none⟩) k (cap - q)) u := by
  subst hk
  rw [run_slice_lh u 22 (some ⟨b, p, none⟩) n cap und22p .i64 .i64 q ((q : Int) + (k : Nat)) (by omega) (by omega) (by omega), elem22p, sizeOf5p]
  have e1 : ((q : Int) + (k : Nat)).toNat - q = k := by omega
  simp only [Result.andThen, sliced, Int.toNat_natCast, e1]
  rw [if_neg (by omega), Option.map_some, Nat.mul_one, Addr.add_mid]
set_option maxHeartbeats 3200000 in
set_option maxRecDepth 100000 in
theorem rnarrow_walk (h0 h1 h2 h3 h4 h5 h6 h7 : Int) (B : Nat → Int) (b p n m cap : Nat) (w : World) (hT : RTab w) (hn : n = 64 * m)
    (hcap : n ≤ cap) (hcm : cap ≤ 9223372036854775807) (hbw : b < w.heap.size) (hB : ∀ i, i < n → w.cell? ⟨b, p + i, none⟩ = some (.int .u8 (B i))) :
    Calls Tryz.prog 71 #[.agg #[.int .u64 h0, .int .u64 h1, .int .u64 h2, .int .u64 h3, .int .u64 h4, .int .u64 h5, .int .u64 h6, .int .u64 h7], .slice (some ⟨b, p, none⟩) n cap] w fun e w' =>
      e = .returned (.agg (Eight.cells (takes32 cubeAt B ⟨h0, h1, h2, h3, h4, h5, h6, h7⟩ m).low).toArray) ∧ Below w.heap.size w w' := by
  have hw1 := hT.size
  have HB : Hid (∀ i, i < n → w.cell? ⟨b, p + i, none⟩ = some (.int .u8 (B i))) := hB
  have HT : Hid (RTab w) := hT
  have HN : Hid (n = 64 * m) := hn
  clear hB hT hn
  go_enter Tryz.func71, Tryz.ntmps71
  go_wp2
  go_loopw [6] (fun v wr => ∃ t : Nat, t ≤ 64 ∧ v = .int .i64 t ∧ Hid (wr.heap.size = w.heap.size + 3) ∧ Hid (Mem w wr [(Cl 8 (fun j => .int .u64 (fnz (Eight.list ⟨h0, h1, h2, h3, h4, h5, h6, h7⟩) j))), (Cl 8 (fun _ => .int .u64 0)), Cl 64 (fun j => .int .u32 (if j < t then cubeAt j / 4294967296 else 0))])) (fun v _ => 64 - (intOf v).toNat)
  case atStart =>
    refine ⟨0, by omega, rfl, (by simp : _ = _), ?_⟩
    exact ((((Mem.nil w).alloc (by simp) _ _).alloc (by simp) _ _).alloc (by simp) _ _).congr rfl
  case round =>
    obtain ⟨t, ht, rfl, HS, HM⟩ := hrel
    by_cases h64 : t < 64
    · have f0 : wr.cell? ⟨3, t, none⟩ = some (.int .u64 (cubeAt t)) := (HT.out.below HM.out.below hw1).cubes t (by omega)
      have fw : wr.frozen? ⟨w.heap.size + 2, t, none⟩ = false := HM.out.frozen 2 rfl t (by rw [Cl_length]; exact h64)
      obtain ⟨u, fu⟩ : ∃ u, wr.cell? ⟨w.heap.size + 2, t, none⟩ = some u := ⟨_, HM.out.cell 2 rfl t _ (Cl_at _ _ t h64)⟩
      have hu32 : IntKind.u32.wrap (cubeAt t / 4294967296) = cubeAt t / 4294967296 := cube_hi t (by omega)
      go_wp2
      go_roundw
      case rel =>
        refine ⟨t + 1, by omega, by go_num, sz_set HS.out, (HM.out.put 2 rfl t (by rw [Cl_length]; exact h64) (.int .u32 (cubeAt t / 4294967296))).congr ?_⟩
        rw [Cl_set]
        show [_, _, _] = [_, _, _]
        congr 3
        refine Cl_congr fun j hj => ?_
        by_cases e : j = t
        · subst e
          rw [if_pos rfl, if_pos (by omega)]
        · rw [if_neg e]
          by_cases e2 : j < t
          · rw [if_pos e2, if_pos (by omega)]
          · rw [if_neg e2, if_neg (by omega)]
      case measure => simp [intOf]; omega
    · obtain rfl : t = 64 := by omega
      clear h64 ht
      have HM2 : Hid (Mem w (wr.alloc (.cells #[.int .u32 0, .int .u32 0, .int .u32 0, .int .u32 0, .int .u32 0, .int .u32 0, .int .u32 0, .int .u32 0] 198)) [(Cl 8 (fun j => .int .u64 (fnz (Eight.list ⟨h0, h1, h2, h3, h4, h5, h6, h7⟩) j))), (Cl 8 (fun _ => .int .u64 0)), (Cl 64 (fun j => .int .u32 (cubeAt j / 4294967296))), Cl 8 (fun j => .int .u32 0)]) := (HM.out.alloc (by rw [HS.out]; rfl) _ _).congr (by
        show [_, _, _, _] = [_, _, _, _]
        congr 3)
      have hsz := HS.out
      clear HM HS
      go_wp2
      generalize wr.alloc (.cells #[.int .u32 0, .int .u32 0, .int .u32 0, .int .u32 0, .int .u32 0, .int .u32 0, .int .u32 0, .int .u32 0] 198) = wa at HM2 ⊢
      clear hsz
      rw [show ((64 : Nat) : Int) = 64 from rfl]
      go_loopw [8] (fun v wr => ∃ t : Nat, t ≤ 8 ∧ v = .int .i64 t ∧ Hid (Mem w wr [(Cl 8 (fun j => .int .u64 (fnz (Eight.list ⟨h0, h1, h2, h3, h4, h5, h6, h7⟩) j))), (Cl 8 (fun _ => .int .u64 0)), (Cl 64 (fun j => .int .u32 (cubeAt j / 4294967296))), Cl 8 (fun j => .int .u32 (if j < t then fnz (Eight.list ⟨h0, h1, h2, h3, h4, h5, h6, h7⟩) j % 4294967296 else 0))])) (fun v _ => 8 - (intOf v).toNat)
      case atStart => exact ⟨0, by omega, rfl, HM2⟩
      case round =>
        obtain ⟨t, ht, rfl, HM⟩ := hrel
        clear HM2
        by_cases h8 : t < 8
        · have f0 : wr.cell? ⟨w.heap.size, t, none⟩ = some (.int .u64 (fnz (Eight.list ⟨h0, h1, h2, h3, h4, h5, h6, h7⟩) t)) := HM.out.cell 0 rfl t _ (Cl_at _ _ t h8)
          have fw : wr.frozen? ⟨w.heap.size + 3, t, none⟩ = false := HM.out.frozen 3 rfl t (by rw [Cl_length]; exact h8)
          obtain ⟨u, fu⟩ : ∃ u, wr.cell? ⟨w.heap.size + 3, t, none⟩ = some u := ⟨_, HM.out.cell 3 rfl t _ (Cl_at _ _ t h8)⟩
          obtain ⟨x, hx⟩ : ∃ x, Hid (x = fnz (Eight.list ⟨h0, h1, h2, h3, h4, h5, h6, h7⟩) t) := ⟨_, rfl⟩
          rw [← hx.out] at f0
          go_wp2
          go_roundw
          case rel =>
            refine ⟨t + 1, by omega, by go_num, (HM.out.put 3 rfl t (by rw [Cl_length]; exact h8) (.int .u32 (x % 4294967296))).congr ?_⟩
            rw [Cl_set]
            show [_, _, _, _] = [_, _, _, _]
            congr 4
            refine Cl_congr fun j hj => ?_
            by_cases e : j = t
            · subst e
              rw [if_pos rfl, if_pos (by omega), hx.out]
            · rw [if_neg e]
              by_cases e2 : j < t
              · rw [if_pos e2, if_pos (by omega)]
              · rw [if_neg e2, if_neg (by omega)]
          case measure => simp [intOf]; omega
        · obtain rfl : t = 8 := by omega
          clear h8 ht
          have HM3 : Hid (Mem w wr [(Cl 8 (fun j => .int .u64 (fnz (Eight.list ⟨h0, h1, h2, h3, h4, h5, h6, h7⟩) j))), (Cl 8 (fun _ => .int .u64 0)), (Cl 64 (fun j => .int .u32 (cubeAt j / 4294967296))), (takes32 cubeAt B ⟨h0, h1, h2, h3, h4, h5, h6, h7⟩ 0).low.cells32]) := HM.out.congr (by
            show [_, _, _, _] = [_, _, _, _]
            congr 4)
          clear HM
          go_wp2
          rw [show ((8 : Nat) : Int) = 8 from rfl]
          go_loopw [9] (fun v wr => ∃ i : Nat, i ≤ m ∧ v = .int .i64 ((64 * i : Nat) : Int) ∧ Hid (Mem w wr [(Cl 8 (fun j => .int .u64 (fnz (Eight.list ⟨h0, h1, h2, h3, h4, h5, h6, h7⟩) j))), (Cl 8 (fun _ => .int .u64 0)), (Cl 64 (fun j => .int .u32 (cubeAt j / 4294967296))), (takes32 cubeAt B ⟨h0, h1, h2, h3, h4, h5, h6, h7⟩ i).low.cells32])) (fun v _ => n - (intOf v).toNat)
          case atStart => exact ⟨0, by omega, rfl, HM3⟩
          case round =>
            obtain ⟨i, hi, rfl, HM⟩ := hrel
            clear HM3
            obtain ⟨q, hq⟩ : ∃ q, q = 64 * i := ⟨_, rfl⟩
            obtain ⟨E, HE⟩ : ∃ E : Eight, Hid (E = (takes32 cubeAt B ⟨h0, h1, h2, h3, h4, h5, h6, h7⟩ i).low) := ⟨_, rfl⟩
            rw [← HE.out] at HM
            rw [← hq]
            have HQ : Hid (q = 64 * i) := hq
            clear hq
            by_cases hlt : i < m
            · have hqn : q < n := by have := HQ.out; have := HN.out; omega
              have hq64 : IntKind.i64.wrap ((q : Int) + 64) = (q : Int) + 64 := by
                have := HQ.out; have := HN.out
                rw [IntKind.wrap_i64]
                omega
              have HSl : Hid (∀ u, (Instr.slice 22 (.slice (some ⟨b, p, none⟩) n cap) (some (.int .i64 (q : Nat))) (some (.int .i64 ((q : Int) + 64))) none).run Tryz.prog u = .ok (.slice (some ⟨b, p + q, none⟩) 64 (cap - q)) u) := fun u => slice22 u b p n cap q 64 64 rfl (by omega) (by have := HQ.out; have := HN.out; omega)
              obtain ⟨E2, HE2⟩ : ∃ E2 : Eight, Hid (E2 = takes32 cubeAt B ⟨h0, h1, h2, h3, h4, h5, h6, h7⟩ (i + 1)) := ⟨_, rfl⟩
              have HCall : Hid (∀ u, Below wr.heap.size wr u → Calls Tryz.prog 114 #[.agg E.cells32.toArray, .slice (some ⟨b, p + q, none⟩) 64 (cap - q), .agg (Cl 64 (fun j => .int .u32 (cubeAt j / 4294967296))).toArray] u fun e w' => e = .returned (.agg E2.cells32.toArray) ∧ Below wr.heap.size wr w') := fun u hu => by
                have hbu : b < wr.heap.size := Nat.lt_of_lt_of_le hbw HM.out.below.size
                refine (taken32_walk E.a E.b E.c E.d E.e E.f E.g E.k (Cl 64 (fun j => .int .u32 (cubeAt j / 4294967296))).toArray cubeAt (fun j => B (64 * i + j)) b (p + q) (cap - q) u (fun t ht => by rw [List.getElem?_toArray]; exact Cl_at _ _ t ht) (by have := HQ.out; have := HN.out; omega) (by omega) (fun j hj => ?_)).mono fun e w' h => ⟨?_, hu.trans (h.2.mono hu.size)⟩
                · rw [hu.cell hbu, HM.out.below.cell hbw, Nat.add_assoc, HB.out (q + j) (by have := HQ.out; have := HN.out; omega), HQ.out]
                · rw [h.1, HE2.out]
                  have e1 : takes32 cubeAt B ⟨h0, h1, h2, h3, h4, h5, h6, h7⟩ (i + 1) = block32 cubeAt (fun j => B (64 * i + j)) (takes32 cubeAt B ⟨h0, h1, h2, h3, h4, h5, h6, h7⟩ i) := rfl
                  rw [e1, ← low_block, ← HE.out]
              have hS0 : Below wr.heap.size wr wr.drew := (Below.refl _ _).drew
              clear HE
              go_wp2
              refine wp_region_noPanic ?_
              refine wp_region_till (fun u => Below wr.heap.size wr u) 7 (by kernel_rfl) (by decide) (by decide +kernel) (by decide +kernel) (by decide +kernel) (fun inv => ?_)
              refine till_at 0 38 (.agg (E.cells32).toArray) inv rfl rfl (by decide) (by decide +kernel) (by decide +kernel) (fun _ _ _ h => h) (hS0) (yieldsIf_load_mid (by kernel_rfl) 198 (.tmp 7) rfl (w.heap.size + 3) 0 rfl E.cells32 _ (fun u hu => ((HM.out.later hu).holds 3 _ rfl).1) Tryz.underlying198 rfl size94) (fun inv' => ?_)
              clear inv; have inv := inv'; clear inv'
              simp only [List.setIfInBounds_toArray, List.set_cons_zero, List.set_cons_succ]
              refine till_at 1 39 (.slice (some ⟨b, p, none⟩) n cap) inv rfl rfl (by decide) (by decide +kernel) (by decide +kernel) (fun _ _ _ h => h) (hS0) (Or.inl ⟨by rfl, fun w' hS' => by go_simp⟩) (fun inv' => ?_)
              clear inv; have inv := inv'; clear inv'
              simp only [List.setIfInBounds_toArray, List.set_cons_zero, List.set_cons_succ]
              refine till_at 2 40 (.int .i64 (q : Nat)) inv rfl rfl (by decide) (by decide +kernel) (by decide +kernel) (fun _ _ _ h => h) (hS0) (Or.inl ⟨by rfl, fun w' hS' => by go_simp⟩) (fun inv' => ?_)
              clear inv; have inv := inv'; clear inv'
              simp only [List.setIfInBounds_toArray, List.set_cons_zero, List.set_cons_succ]
              refine till_at 3 41 (.int .i64 (q : Nat)) inv rfl rfl (by decide) (by decide +kernel) (by decide +kernel) (fun _ _ _ h => h) (hS0) (Or.inl ⟨by rfl, fun w' hS' => by go_simp⟩) (fun inv' => ?_)
              clear inv; have inv := inv'; clear inv'
              simp only [List.setIfInBounds_toArray, List.set_cons_zero, List.set_cons_succ]
              refine till_at 4 42 (.int .i64 ((q : Int) + 64)) inv rfl rfl (by decide) (by decide +kernel) (by decide +kernel) (fun _ _ _ h => h) (hS0) (Or.inl ⟨by rfl, fun w' hS' => by go_simp⟩) (fun inv' => ?_)
              clear inv; have inv := inv'; clear inv'
              simp only [List.setIfInBounds_toArray, List.set_cons_zero, List.set_cons_succ]
              refine till_at 5 43 (.slice (some ⟨b, p + q, none⟩) 64 (cap - q)) inv rfl rfl (by decide) (by decide +kernel) (by decide +kernel) (fun _ _ _ h => h) (hS0) (Or.inl ⟨by rfl, fun w' hS' => by have q := HSl.out w'; go_simp⟩) (fun inv' => ?_)
              clear inv; have inv := inv'; clear inv'
              simp only [List.setIfInBounds_toArray, List.set_cons_zero, List.set_cons_succ]
              refine till_at 6 44 (.agg ((Cl 64 (fun j => .int .u32 (cubeAt j / 4294967296)))).toArray) inv rfl rfl (by decide) (by decide +kernel) (by decide +kernel) (fun _ _ _ h => h) (hS0) (yieldsIf_load_mid (by kernel_rfl) 196 (.tmp 5) rfl (w.heap.size + 2) 0 rfl (Cl 64 (fun j => .int .u32 (cubeAt j / 4294967296))) _ (fun u hu => ((HM.out.later hu).holds 2 _ rfl).1) Tryz.underlying196 rfl size92) (fun inv' => ?_)
              clear inv; have inv := inv'; clear inv'
              simp only [List.setIfInBounds_toArray, List.set_cons_zero, List.set_cons_succ]
              refine till_tail (i := 7) (by decide +kernel) (by decide) rfl (fun K hK => ?_)
              go_simp
              refine (HCall.out _ hS0).mono ?_
              rintro e1 w1 ⟨rfl, hw1⟩
              go_wp2_with fail
              refine hK.out _ _ ?_
              clear hK K
              try simp only [List.setIfInBounds_toArray, List.set_cons_zero, List.set_cons_succ]
              refine till_tail (i := 8) (by decide +kernel) (by decide) rfl (fun K hK => ?_)
              rw [if_pos (by rfl)]
              refine wp_store_mid 198 (.tmp 7) (.tmp 45) rfl (w.heap.size + 3) 0 (Eight.cells32 E2).toArray rfl rfl (((HM.out.later hw1).holds 3 _ rfl).2) (size94) (cells32_one _) ?_
              refine hK.out _ _ ?_
              clear hK K
              try simp only [List.setIfInBounds_toArray, List.set_cons_zero, List.set_cons_succ]
              refine till_done (by decide +kernel) ?_ _
              refine NoPanic.normal ?_
              go_wp2
              go_roundw
              case rel =>
                refine ⟨i + 1, by omega, val_eq (by have := HQ.out; omega), ((HM.out.later hw1).store 3 rfl E2.cells32 rfl).congr ?_⟩
                show [_, _, _, _] = [_, _, _, _]
                have e1 : takes32 cubeAt B ⟨h0, h1, h2, h3, h4, h5, h6, h7⟩ (i + 1) = block32 cubeAt (fun j => B (64 * i + j)) (takes32 cubeAt B ⟨h0, h1, h2, h3, h4, h5, h6, h7⟩ i) := rfl
                rw [HE2.out, e1, low_low]
              case measure => simp [intOf]; omega
            · have hqn : ¬ q < n := by have := HQ.out; have := HN.out; omega
              have him : i = m := by omega
              go_wp2
              go_loopw [10] (fun v wr => ∃ t : Nat, t ≤ 8 ∧ v = .int .i64 t ∧ Hid (Mem w wr [Cl 8 (fun j => .int .u64 (if j < t then fnz E.list j else fnz (Eight.list ⟨h0, h1, h2, h3, h4, h5, h6, h7⟩) j)), (Cl 8 (fun _ => .int .u64 0)), (Cl 64 (fun j => .int .u32 (cubeAt j / 4294967296))), Cl 8 (fun j => .int .u32 (fnz E.list j))])) (fun v _ => 8 - (intOf v).toNat)
              case atStart => exact ⟨0, by omega, rfl, HM⟩
              case round =>
                obtain ⟨t, ht, rfl, HM4⟩ := hrel
                clear HM
                by_cases h8 : t < 8
                · have f0 : wr.cell? ⟨w.heap.size + 3, t, none⟩ = some (.int .u32 (fnz E.list t)) := HM4.out.cell 3 rfl t _ (Cl_at _ _ t h8)
                  have fw : wr.frozen? ⟨w.heap.size, t, none⟩ = false := HM4.out.frozen 0 rfl t (by rw [Cl_length]; exact h8)
                  obtain ⟨u, fu⟩ : ∃ u, wr.cell? ⟨w.heap.size, t, none⟩ = some u := ⟨_, HM4.out.cell 0 rfl t _ (Cl_at _ _ t h8)⟩
                  obtain ⟨x, hx⟩ : ∃ x, Hid (x = fnz E.list t) := ⟨_, rfl⟩
                  rw [← hx.out] at f0
                  have hxw : IntKind.u64.wrap x = x := by
                    rw [IntKind.wrap_u64, hx.out, HE.out, low_at _ t h8]
                    omega
                  go_wp2
                  go_roundw
                  case rel =>
                    refine ⟨t + 1, by omega, by go_num, (HM4.out.put 0 rfl t (by rw [Cl_length]; exact h8) (.int .u64 x)).congr ?_⟩
                    rw [Cl_set]
                    show [_, _, _, _] = [_, _, _, _]
                    congr 1
                    refine Cl_congr fun j hj => ?_
                    by_cases e : j = t
                    · subst e
                      rw [if_pos rfl, if_pos (by omega), hx.out]
                    · rw [if_neg e]
                      by_cases e2 : j < t
                      · rw [if_pos e2, if_pos (by omega)]
                      · rw [if_neg e2, if_neg (by omega)]
                  case measure => simp [intOf]; omega
                · obtain rfl : t = 8 := by omega
                  have HM5 : Hid (Mem w wr [E.cells, (Cl 8 (fun _ => .int .u64 0)), (Cl 64 (fun j => .int .u32 (cubeAt j / 4294967296))), Cl 8 (fun j => .int .u32 (fnz E.list j))]) := HM4.out.congr (by
                    show [_, _, _, _] = [_, _, _, _]
                    congr 1)
                  clear HM4 h8 ht
                  have HY : Hid (wr.there (w.heap.size + 1) 0 E.cells.toArray.size) := (HM5.out.holds 1 _ rfl).2
                  have HR : Hid (wr.rangeAt w.heap.size 0 E.cells) := (HM5.out.holds 0 _ rfl).1
                  go_wp2_with (first
                    | (refine wpList_load_mid (by rfl) 137 (.tmp 2) (by rfl) w.heap.size 0 (by rfl) E.cells _ HR.out Tryz.underlying137 rfl size70 ?_)
                    | (refine wpList_store_mid (by rfl) 137 (.tmp 4) (.tmp 56) (by rfl) (w.heap.size + 1) 0 E.cells.toArray (by rfl) (by rfl) HY.out size70 (cellsE_one E) ?_)
                    | fail)
                  have hl := run_loadVar_mid (P := Tryz.prog) (wr.setCells (w.heap.size + 1) 0 E.cells) (w.heap.size + 1) 0 137 E.cells _ (World.rangeAt_setCells_same wr (w.heap.size + 1) 0 E.cells HY.out) Tryz.underlying137 rfl size70
                  refine bodyPost_ret (v := .agg E.cells.toArray) ?_ rfl ⟨by rw [HE.out, him], below_setCells _ (by omega) _ _ _ HM5.out.below⟩
                  rw [results_cell1 Tryz.results71]
                  simp [Act.put, asAddr, hl]
end Go.Proofs.YtehlppaidgkpaaaGreatDoor.Dg
namespace Go.Proofs.YtehlppaidgkpaaaGreatDoor
open Go.RowKit
set_option linter.unusedVariables false
set_option linter.unusedSimpArgs false
set_option maxHeartbeats 1600000 in
set_option maxRecDepth 100000 in
/-- beginESSIV. -/
theorem beginESSIV2_ok (B sh : Nat) (S : ByteArray) (st wd : Nat) (zs : List Int) (kv : Value) (mp : Option Addr) (w : World) (h : ShA B w sh S st wd zs kv mp (.slice none 0 0)) (hB : B ≤ w.heap.size) (hn : zs.length ≤ 1000) (hT : Dg.Tables w) (hrc : RC w) :
    Calls Tryz.prog 153 #[.pointer (some ⟨sh, 0, none⟩)] w fun e w' => Hid (∃ go bx ov', e = .returned (.func (.func 187) #[] #[.pointer (some ⟨bx, 0, none⟩)]) ∧ w.heap.size ≤ go ∧ w.heap.size ≤ bx ∧ KeyAt w' go (8 + 6) (schedK 8 (nat8 (Dg.sumD 256 zs))) ∧ (∃ R : Array Value, w'.heap[go]? = some (.cells R 135 (0, 0))) ∧ Bx w' bx 71 [.pointer (some ⟨go, 0, none⟩)] ∧ ShA B w' sh S st wd zs kv mp ov' ∧ (∃ n os, n ≤ 1 ∧ w'.ownsRow B 71 1 ov' n os) ∧ Fs B sh w w' ∧ ov'.ownBlock ≠ some bx) := by
  have hpos : 1 < w.heap.size := by have := hT.size; omega
  have hv0 := h.view
  obtain ⟨xa, xc, hkv, _⟩ := h.view
  have c2 : w.cell? ⟨sh, 2, none⟩ = some kv := h.box.cell 2 _ rfl
  have HSM : Hid (Calls Tryz.prog 21 #[.int .i64 256, .slice (some ⟨w.heap.size, 0, none⟩) 1 1] (w.alloc (.cells #[kv] 22)) fun e w' => Hid (∃ b, e = .returned (.tuple #[.slice (some ⟨b, 0, none⟩) 32 32, .int .i64 0]) ∧ View w' (.slice (some ⟨b, 0, none⟩) 32 32) (Dg.sumD 256 zs) ∧ Below w.heap.size w w')) := by
    have hal : Below w.heap.size w (w.alloc (.cells #[kv] 22)) := (Below.refl _ _).alloc (Nat.le_refl _) _
    refine (Dg.dsum 256 [zs] _ _ (show _ = _ from rfl) (fun u g hu hg => ?_) (hT.below hal (by have := hT.size; omega)) ?_).mono ?_
    · have q : Dg.Parts (w.alloc (.cells #[kv] 22)) g (.slice (some ⟨w.heap.size, 0, none⟩) 1 1) [zs] := Dg.parts1_alloc 22 kv zs g hv0 (by simp at hg; omega) (fun h0 b off l c e => by
        have := view_lt hv0 h0 b off l c e
        simp at hg; omega)
      obtain ⟨a, c, e1, e2, e3, e4⟩ := q
      refine ⟨a, c, e1, e2, e3, ?_⟩
      rcases e4 with e4 | ⟨b, p, e5, e6, e7⟩
      · exact .inl e4
      · refine .inr ⟨b, p, e5, e6, fun i hi => ?_⟩
        obtain ⟨x, x1, x2, x3⟩ := e7 i hi
        exact ⟨x, by rw [hu.cell (World.block_lt_of_cell? _ _ x1)]; exact x1, Dg.View.kept x2 hu.block, x3⟩
    · show ([zs] : List (List Int)).flatten.length ≤ 33554432
      simp; omega
    · rintro e w' ⟨b, he, ho, hb⟩
      refine ⟨b, he, ?_, hal.trans (hb.mono hal.size)⟩
      rw [show ([zs] : List (List Int)).flatten = zs by simp] at ho
      exact view_owns (n := 32) ho (sum256_len zs)
  subst hkv
  have HK : Hid (∀ u v, Below w.heap.size w u → View u v (Dg.sumD 256 zs) → Calls Tryz.prog 186 #[.pointer (some ⟨sh, 0, none⟩), v] u fun e w' => Hid (∃ g ov', e = .returned (.pointer (some ⟨g, 0, none⟩)) ∧ u.heap.size ≤ g ∧ KeyAt w' g (8 + 6) (schedK 8 (nat8 (Dg.sumD 256 zs))) ∧ (∃ R : Array Value, w'.heap[g]? = some (.cells R 135 (0, 0))) ∧ ShA B w' sh S st wd zs (.slice xa zs.length xc) mp ov' ∧ (∀ n os, u.ownsRow B 71 1 (.slice none 0 0) n os → ∃ os', w'.ownsRow B 71 1 ov' (n + 1) os') ∧ Fs B sh u w')) := fun u v hu hv =>
    schedule_ok B sh S st wd zs _ mp _ v (Dg.sumD 256 zs) 8 u (h.below hu) (Nat.le_trans hB hu.size) ⟨0, [], by omega, World.ownsRow_nil _ _ _ _⟩ (.inr (.inr rfl)) (sum256_len zs) hv (sumD_bytes _ _) (fun i hi => (hu.cell (p := ⟨1, i, none⟩) hpos).trans (hrc i hi)) (Nat.lt_of_lt_of_le hpos hu.size)
  have HB0 : Hid (B ≤ w.heap.size) := hB
  have hlt : sh < w.heap.size := h.box.lt
  obtain ⟨n, HNL⟩ : ∃ n, Hid (zs.length = n) := ⟨_, rfl⟩
  rw [HNL.out] at c2 HSM HK
  clear h hB hT hrc hv0 hpos
  go_enter Tryz.func153, Tryz.ntmps153
  go_upto_region 3 with (first
    | (go_at_call 21; refine HSM.out.mono ?_; intro e1 w1 hh; obtain ⟨b1, rfl, hv1, hb1⟩ := hh.out; have HV1 : Hid (View w1 (.slice (some ⟨b1, 0, none⟩) 32 32) (Dg.sumD 256 zs) ∧ Below w.heap.size w w1) := ⟨hv1, hb1⟩; clear hh hv1 hb1)
    | (go_at_call 186; refine (HK.out _ _ HV1.out.2 HV1.out.1).mono ?_; intro e2 w2 hh; obtain ⟨go, ov', rfl, hg2, hK2, hR2, hS2, hO2, hF2⟩ := hh.out; have HS2 : Hid (w1.heap.size ≤ go ∧ KeyAt w2 go (8 + 6) (schedK 8 (nat8 (Dg.sumD 256 zs))) ∧ (∃ R : Array Value, w2.heap[go]? = some (.cells R 135 (0, 0))) ∧ ShA B w2 sh S st wd zs (.slice xa n xc) mp ov' ∧ (∃ os', w2.ownsRow B 71 1 ov' 1 os') ∧ Fs B sh w1 w2) := ⟨hg2, hK2, hR2, hS2, hO2 0 [] (World.ownsRow_nil _ _ _ _), hF2⟩; clear hh hg2 hK2 hR2 hS2 hO2 hF2))
  go_wp2
  go_ret
  have hal : Below w2.heap.size w2 (w2.alloc (.cells #[.pointer (some ⟨go, 0, none⟩)] 71)) := (Below.refl _ _).alloc (Nat.le_refl _) _
  obtain ⟨hg, hK, ⟨R, hR⟩, hS, ⟨os', ho'⟩, hF⟩ := HS2.out
  have hs2 : w.heap.size ≤ w2.heap.size := Nat.le_trans HV1.out.2.size hF.bel.size
  rw [HNL.out]
  exact ⟨go, w2.heap.size, ov', rfl, Nat.le_trans HV1.out.2.size hg, hs2, hK.sameK (hal.block go hK.ciph.here) hal.size, ⟨R, by rw [hal.block go hK.ciph.here]; exact hR⟩, Bx.new w2 71 _, hS.below hal, ⟨1, os', by omega, ownsRow_below ho' hal⟩, (Fs.of_below HV1.out.2 HB0.out).trans (hF.trans (Fs.of_below hal (Nat.le_trans HB0.out hs2))), fun e => by have := (ownsRow_lt ho' e).2; omega⟩
end Go.Proofs.YtehlppaidgkpaaaGreatDoor
