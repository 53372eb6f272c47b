import Derived.Test.YtehlppaidgkpaaaGreatDoorCards
import Derived.Test.YtehlppaidgkpaaaGreatDoorTie
import Derived.Test.YtehlppaidgkpaaaGreatDoorPart42
import Derived.Test.YtehlppaidgkpaaaGreatDoorPart25
import Derived.OwnWalk
import Derived.Laws.OwnMore
import Derived.Test.YtehlppaidgkpaaaGreatDoorPart26
import Derived.Laws.CopyOwn
import Derived.Test.YtehlppaidgkpaaaGreatDoorPart32
namespace Go.Proofs.YtehlppaidgkpaaaGreatDoor
open Go.ChangeShapes Go.WideShapes Go.ChangeAt Go.RowKit
set_option linter.unusedVariables false
theorem cellsB : Tryz.prog.cellsOf 22 = 1 := by kernel_rfl
theorem cellsP : Tryz.prog.cellsOf 24 = 2 := by kernel_rfl
theorem array2 {α : Type} {cs : Array α} (h : cs.size = 2) : ∃ c0 c1, cs = #[c0, c1] := by
  obtain ⟨l⟩ := cs
  match l, h with
  | [c0, c1], _ => exact ⟨c0, c1, rfl⟩
/-- An int's cell. -/
theorem cell_int {H : Type} {enc : TypeId × Value → H} {W : World} {n : Nat} {c : Value} {y : DataW H × List MemPlace} (h : DataW.trod enc Tryz.prog W 0 (fun _ => true) true n 3 [c] = some y) : ∃ z, c = .int .i64 z := by
  obtain ⟨z, hz, _⟩ := DataW.trod_int Tryz.underlying3 h
  exact ⟨z, by simpa using hz⟩
theorem cell_bytes {H : Type} {enc : TypeId × Value → H} {W : World} {n : Nat} {c : Value} {y : DataW H × List MemPlace} (h : DataW.trod enc Tryz.prog W 0 (fun _ => true) true n 22 [c] = some y) : ∃ a l cap xs, c = .slice a l cap ∧ View W (.slice a l cap) xs ∧ AllBytes xs ∧ xs.length = l := by
  have hc : ∃ a l cap, c = .slice a l cap := by
    rcases open_ints Tryz.underlying22 Tryz.underlying5 cells5 h with ⟨hcs, _⟩ | ⟨a, l, cap, zs, hcs, _⟩
    · exact ⟨none, 0, 0, by simpa using hcs⟩
    · exact ⟨some a, l, cap, by simpa using hcs⟩
  obtain ⟨a, l, cap, rfl⟩ := hc
  obtain ⟨xs, hl, hb, hv, _⟩ := open_bytes (enc := enc) (W := W) (a := a) (len := l) (cap := cap) (d := y.1) (p := y.2) ⟨n, by simpa [Value.cells] using h⟩
  exact ⟨a, l, cap, xs, rfl, hv, hb, hl⟩
set_option maxRecDepth 100000 in
/-- A Pick that came in. -/
theorem open_pick {H : Type} {enc : TypeId × Value → H} {W : World} {r : Reach} {b0 : Nat} {v : Value} {d : DataW H} {p : List MemPlace} (hv : Value.okWide Tryz.prog W r b0 24 v) (h : DataW.Trod enc Tryz.prog W 0 (fun _ => true) true 24 v d p) :
    ∃ (nm : Int) (za : Option Addr) (zn zc : Nat) (Z : List Int), v = .agg #[.int .i64 nm, .slice za zn zc] ∧ View W (.slice za zn zc) Z ∧ AllBytes Z ∧ Z.length = zn := by
  obtain ⟨cs, rfl, hsz⟩ := okWide_struct Tryz.underlying24 hv
  obtain ⟨c0, c1, rfl⟩ := array2 (hsz.trans cellsP)
  obtain ⟨fuel, hf⟩ := h
  obtain ⟨xs, n, _, hx, _, hlen, hfs⟩ := DataW.trod_struct Tryz.underlying24 hf
  match xs, hlen with
  | [y0, y1], _ =>
    have h0 := hfs 0 _ rfl
    have h1 := hfs 1 _ rfl
    simp [Value.cells, cells3, cellsB] at h0 h1
    obtain ⟨hh, rfl⟩ := cell_int h0
    obtain ⟨za, zn, zc, Z, rfl, vZ, bZ, lZ⟩ := cell_bytes h1
    exact ⟨hh, za, zn, zc, Z, rfl, vZ, bZ, lZ⟩
/-- A uint64 that came in. -/
theorem open_u64 {H : Type} {enc : TypeId × Value → H} {W : World} {v : Value} {d : DataW H} {p : List MemPlace} (hv : ∃ z, v = .int .u64 z) (h : DataW.Trod enc Tryz.prog W 0 (fun _ => true) true 25 v d p) : ∃ s : Nat, v = .int .u64 (s : Nat) ∧ s < 18446744073709551616 := by
  obtain ⟨z, rfl⟩ := hv
  obtain ⟨fuel, hf⟩ := h
  obtain ⟨n, hn, _, hw⟩ := DataW.trod_int Tryz.underlying25 hf
  simp [Value.cells] at hn
  subst hn
  simp [Lit.wf, IntKind.min, IntKind.max, IntKind.signed, IntKind.bits] at hw
  exact ⟨z.toNat, by congr 1; omega, by omega⟩
end Go.Proofs.YtehlppaidgkpaaaGreatDoor
namespace Go.Proofs.YtehlppaidgkpaaaGreatDoor
open Go.RowKit
set_option linter.unusedVariables false
set_option linter.unusedSimpArgs false
theorem of_num (x : Int) (N k : Nat) (h0 : 0 ≤ x) (hN : x % 3000 = (N : Int)) (hk : 0 < k) (y : Nat) (hy : y ≤ 17) : N < 3000 ∧ x.tmod 3000 = (N : Int) ∧ (N : Int).tmod (k : Int) = ((N % k : Nat) : Int) ∧ (N : Int).tdiv (k : Int) = ((N / k : Nat) : Int) ∧ N / k < 3000 ∧ ((N / k : Nat) : Int).tmod 3 = ((N / k % 3 : Nat) : Int) ∧ N / k % 3 < 3 := by
  have h1 : N / k ≤ N := Nat.div_le_self _ _
  refine ⟨by omega, ?_, ?_, ?_, by omega, ?_, by omega⟩
  · rw [Int.tmod_eq_emod_of_nonneg h0]; exact hN
  · rw [Int.tmod_eq_emod_of_nonneg (Int.natCast_nonneg _)]; rfl
  · rw [Int.tdiv_eq_ediv_of_nonneg (Int.natCast_nonneg _)]; rfl
  · rw [Int.tmod_eq_emod_of_nonneg (Int.natCast_nonneg _)]; rfl
theorem of_wr (N r t y : Nat) (h1 : N < 3000) (h2 : r < 3000) (h3 : t < 3) (h4 : y ≤ 17) : IntKind.i64.wrap (N : Int) = (N : Int) ∧ wrap64 (N : Int) = (N : Int) ∧ IntKind.i64.wrap (r : Int) = (r : Int) ∧ wrap64 (r : Int) = (r : Int) ∧ IntKind.i64.wrap (17 * (t : Int)) = 17 * (t : Int) ∧ IntKind.i64.wrap ((y : Int) + 17 * (t : Int)) = (y : Int) + 17 * (t : Int) ∧ wrap64 (17 * (t : Int)) = 17 * (t : Int) ∧ wrap64 ((y : Int) + 17 * (t : Int)) = (y : Int) + 17 * (t : Int) := by
  refine ⟨?_, ?_, ?_, ?_, ?_, ?_, ?_, ?_⟩ <;> first | (rw [IntKind.wrap_i64]; omega) | (unfold wrap64; omega)
set_option maxHeartbeats 1600000 in
set_option maxRecDepth 100000 in
/-- Pick.of. -/
theorem of_ok (nm : Int) (a : Option Addr) (n c : Nat) (g k cp : Nat) (xs : Nat → Nat) (w : World) (N : Nat) (hN : IntKind.u64.wrap nm % 3000 = (N : Int)) (hk : 0 < k) (hk2 : k ≤ 100) (hx : ∀ i, i < k → w.cell? ⟨g, i, none⟩ = some (.int .i64 (xs i : Nat))) (hx2 : ∀ i, i < k → xs i ≤ 17) :
    Calls Tryz.prog 9 #[.agg #[.int .i64 nm, .slice a n c], .slice (some ⟨g, 0, none⟩) k cp] w fun e w' => Hid (e = .returned (.agg #[.int .i64 (xs (N % k) + 17 * (N / k % 3) : Nat), .slice a n c]) ∧ Below w.heap.size w w') := by
  obtain ⟨x, hxx⟩ : ∃ x, IntKind.u64.wrap nm = x := ⟨_, rfl⟩
  rw [hxx] at hN
  have hx0 : 0 ≤ x := by rw [← hxx]; unfold IntKind.wrap; simp [IntKind.signed, IntKind.bits]; omega
  obtain ⟨q, HQ⟩ : ∃ q : Nat, Hid (q = N % k) := ⟨_, rfl⟩
  obtain ⟨r, HR⟩ : ∃ r : Nat, Hid (r = N / k) := ⟨_, rfl⟩
  obtain ⟨t, HT⟩ : ∃ t : Nat, Hid (t = r % 3) := ⟨_, rfl⟩
  obtain ⟨y, HY⟩ : ∃ y : Nat, Hid (xs q = y) := ⟨_, rfl⟩
  have hqk : q < k := by rw [HQ.out]; exact Nat.mod_lt _ hk
  have hy17 : y ≤ 17 := by rw [← HY.out]; exact hx2 q hqk
  obtain ⟨hN2, htm, hmod, hquo, hr3, hmod3, ht3⟩ := of_num x N k hx0 hN hk y hy17
  rw [← HQ.out] at hmod
  rw [← HR.out] at hquo hr3 hmod3 ht3
  rw [← HT.out] at hmod3 ht3
  obtain ⟨eN, hwN, er, hwr, eq17, esum, wq17, wsum⟩ := of_wr N r t y hN2 hr3 ht3 hy17
  have hne : ((k : Int) == 0) = false := by simp; omega
  have hk0 : (k : Int) ≠ 0 := by omega
  have k0 : (0 : Int) ≤ (q : Int) := by omega
  have k1 : (q : Int) < (k : Int) := by omega
  have hkn : ¬ k = 0 := by omega
  have e3000 : IntKind.u64.wrap 3000 = 3000 := by decide
  clear hN hx0 hy17 ht3 hr3 hN2
  obtain ⟨w1, hw1⟩ : ∃ w1, w1 = (w.alloc (.cells #[.int .i64 nm, .slice a n c] 24)).alloc (.cells #[.int .i64 0, .slice none 0 0] 24) := ⟨_, rfl⟩
  have hb1 : Below w.heap.size w w1 := by rw [hw1]; exact ((Below.refl _ _).alloc (Nat.le_refl _) _).alloc (by simp) _
  have HB1 : Hid (Bx w1 w.heap.size 24 [.int .i64 nm, .slice a n c] ∧ Below w.heap.size w w1 ∧ Bx w1 (w.heap.size + 1) 24 [.int .i64 0, .slice none 0 0]) := by
    refine ⟨?_, hb1, ?_⟩
    · rw [hw1]; exact (Bx.new w 24 [.int .i64 nm, .slice a n c]).below ((Below.refl _ _).alloc (Nat.le_refl _) _)
    · rw [hw1]; have q := Bx.new (w.alloc (.cells #[.int .i64 nm, .slice a n c] 24)) 24 [.int .i64 0, .slice none 0 0]; simpa using q
  have c0 : w1.cell? ⟨g, q, none⟩ = some (.int .i64 (y : Nat)) := by
    have p := hx q hqk
    rw [hb1.cell (World.block_lt_of_cell? w _ p), p, HY.out]
  have hgm : g ≠ w.heap.size := by have := World.block_lt_of_cell? w _ (hx q hqk); intro e; rw [e] at this; exact absurd this (Nat.lt_irrefl _)
  clear hx hx2 hk hk2 hb1
  go_enter Tryz.func9, Tryz.ntmps9
  go_upto_region 1 with fail
  rw [← hw1]
  clear hw1
  obtain ⟨m, HM⟩ : ∃ m, Hid (w.heap.size = m) := ⟨_, rfl⟩
  rw [HM.out] at HB1 hgm ⊢
  have d0 : w1.cell? ⟨m, 0, none⟩ = some (.int .i64 nm) := HB1.out.1.cell 0 _ rfl
  have f0 : w1.frozen? ⟨m, 0, none⟩ = false := HB1.out.1.frozen 0
  go_upto_region 2 with fail
  have cset : Hid (∀ x : Int, (w1.setCell ⟨m, 0, none⟩ (.int .i64 x)).cell? ⟨g, q, none⟩ = some (.int .i64 (y : Nat))) := fun x => by rw [World.cell?_setCell_far _ _ _ _ (Ne.symm hgm)]; exact c0
  have fset : Hid (∀ x : Int, (w1.setCell ⟨m, 0, none⟩ (.int .i64 x)).frozen? ⟨m, 0, none⟩ = false) := fun x => by rw [World.frozen?_setCell]; exact f0
  go_region_held3 (fun u => u.cell? ⟨g, q, none⟩ = some (.int .i64 (y : Nat)) ∧ u.frozen? ⟨m, 0, none⟩ = false) (first | exact ⟨c0, f0⟩ | exact ⟨cset.out _, fset.out _⟩ | go_keep) (fail)
  obtain ⟨u2, hu2⟩ : ∃ u2, u2 = (w1.setCell ⟨m, 0, none⟩ (.int .i64 ((y : Int) + 17 * (t : Int)))).drew := ⟨_, rfl⟩
  have HX2 : Hid (Bx u2 m 24 [.int .i64 ((y : Int) + 17 * (t : Int)), .slice a n c] ∧ Bx u2 (m + 1) 24 [.int .i64 0, .slice none 0 0] ∧ Below m w u2) := by
    rw [hu2]
    refine ⟨(HB1.out.1.set 0 (.int .i64 ((y : Int) + 17 * (t : Int)))).below (Below.refl _ _).drew, ?_, ?_⟩
    · refine Bx.below ?_ (Below.refl _ _).drew
      exact HB1.out.2.2.keep (Below.heap_setCell _ ⟨m, 0, none⟩ _ (m + 1) (by show m + 1 ≠ m; omega))
    · exact (HB1.out.2.1.setCell (p := ⟨m, 0, none⟩) (Nat.le_refl _) _).drew
  rw [← hu2]
  clear hu2 cset fset f0 c0 d0 HB1
  go_wp2_with (first
    | (refine wpList_load_mid (by rfl) 24 (.tmp 2) (by rfl) m 0 (by rfl) [.int .i64 ((y : Int) + 17 * (t : Int)), .slice a n c] _ HX2.out.1.range Tryz.underlying24 rfl (by kernel_rfl) ?_)
    | (refine wpList_store_bx (by rfl) 24 (.tmp 4) (.tmp 26) (by rfl) [.int .i64 0, .slice none 0 0] [.int .i64 ((y : Int) + 17 * (t : Int)), .slice a n c] (m + 1) (by rfl) (by rfl) HX2.out.2.1 rfl (by kernel_rfl) (by simp [Value.oneCell']) ?_; intro u9 hb9 hg9))
  refine ret_agg (b := m + 1) [.int .i64 ((y : Int) + 17 * (t : Int)), .slice a n c] rfl rfl hb9.range Tryz.underlying24 rfl (by kernel_rfl) ⟨?_, ?_⟩
  · rw [← HR.out, ← HT.out, ← HQ.out, HY.out]; simp
  · have hfin : Below m w u9 := HX2.out.2.2.trans (below_gb hg9 (by have := HX2.out.2.1.lt; omega) (by omega))
    first | exact hfin | (rw [HM.out]; exact hfin)
end Go.Proofs.YtehlppaidgkpaaaGreatDoor
namespace Go.Proofs.YtehlppaidgkpaaaGreatDoor
open Go.RowKit
set_option linter.unusedVariables false
set_option linter.unusedSimpArgs false
/-- What fit makes. -/
def ftZ (bs : List Int) (i : Nat) : Int := if bs = [] then ((i * i % 256 : Nat) : Int) else bs.getD (i % bs.length) 0
def ftL (bs : List Int) (m : Nat) : List Int := (List.range m).map (ftZ bs)
theorem ftL_len (bs : List Int) (m : Nat) : (ftL bs m).length = m := by simp [ftL]
theorem ftL_succ (bs : List Int) (m : Nat) : ftL bs (m + 1) = ftL bs m ++ [ftZ bs m] := by simp [ftL, List.range_succ]
theorem ftL_bytes {bs : List Int} (h : AllBytes bs) (m : Nat) : AllBytes (ftL bs m) := fun i => by
  rw [List.getD_eq_getElem?_getD, ftL, List.getElem?_map]
  cases (List.range m)[i]? with
  | none => simp
  | some q =>
    simp only [Option.map_some, Option.getD_some, ftZ]
    split
    · omega
    · exact h _
structure FtI (w : World) (bs : List Int) (wr : World) (v : Value) (k : Nat) : Prop where
  own : wr.ownsRow w.heap.size 5 1 v k (cellsU8 (ftL bs k))
  bel : Below w.heap.size w wr
theorem FtI.step {w : World} {bs : List Int} {wr w2 : World} {v v2 : Value} {k : Nat} {z : Int} (h : FtI w bs wr v k) (o : Obj) (hz : ftZ bs k = z) (ho : w2.ownsRow w.heap.size 5 1 v2 (k + 1) (cellsU8 (ftL bs k) ++ [.int .u8 z])) (hg : (wr.alloc o).grownBy w2 v.ownBlock) : FtI w bs w2 v2 (k + 1) := by
  have hb : Below w.heap.size wr w2 := ((Below.refl w.heap.size wr).alloc h.bel.size o).grown hg (by have := h.bel.size; simp; omega) (fun q hq => (ownsRow_lt h.own hq).1)
  refine ⟨?_, h.bel.trans hb⟩
  rw [ftL_succ, hz, cellsU8_append]
  exact ho
/-- The number of bytes. -/
def ftN (n : Int) (whole : Bool) : Nat := let s := 16 + (IntKind.u64.wrap n % 497).toNat; if whole then s / 16 * 16 else s
theorem ft_num (x : Int) (s : Nat) (h0 : 0 ≤ x) (hs : x % 497 = (s : Int)) : s < 497 ∧ x.tmod 497 = (s : Int) ∧ IntKind.i64.wrap (s : Int) = (s : Int) ∧ IntKind.i64.wrap (16 + (s : Int)) = 16 + (s : Int) ∧ wrap64 (16 + (s : Int)) = 16 + (s : Int) ∧ (16 + (s : Int)).tdiv 16 = (((16 + s) / 16 : Nat) : Int) ∧ IntKind.i64.wrap (((16 + s) / 16 : Nat) : Int) = (((16 + s) / 16 : Nat) : Int) ∧ IntKind.i64.wrap ((((16 + s) / 16 : Nat) : Int) * 16) = (((16 + s) / 16 * 16 : Nat) : Int) ∧ (16 + s) / 16 * 16 ≤ 512 := by
  have h1 : s < 497 := by omega
  refine ⟨h1, ?_, ?_, ?_, ?_, ?_, ?_, ?_, by omega⟩
  · rw [Int.tmod_eq_emod_of_nonneg h0]; exact hs
  · rw [IntKind.wrap_i64]; omega
  · rw [IntKind.wrap_i64]; omega
  · unfold wrap64; omega
  · rw [Int.tdiv_eq_ediv_of_nonneg (by omega)]; omega
  · rw [IntKind.wrap_i64]; omega
  · rw [IntKind.wrap_i64]; omega
theorem ft_sq (k : Nat) (hk : k ≤ 600) : IntKind.i64.wrap ((k : Int) * (k : Int)) = (k : Int) * (k : Int) ∧ IntKind.u8.wrap ((k : Int) * (k : Int)) = ((k * k % 256 : Nat) : Int) := by
  have h : k * k ≤ 600 * 600 := Nat.mul_le_mul hk hk
  obtain ⟨m, hm⟩ : ∃ m, k * k = m := ⟨_, rfl⟩
  have e : (k : Int) * (k : Int) = (m : Int) := by rw [← hm]; simp
  rw [hm] at h
  rw [e, hm, IntKind.wrap_i64, IntKind.wrap_u8]
  clear e hm hk
  constructor <;> omega
set_option maxHeartbeats 1600000 in
set_option maxRecDepth 100000 in
/-- fit. -/
theorem fit_ok (v : Value) (bs : List Int) (nn : Int) (wh : Bool) (w : World) (hv : View w v bs) :
    Calls Tryz.prog 11 #[v, .int .i64 nn, .bool wh] w fun e w' => Hid (∃ y d, e = .returned (.slice y (ftN nn wh) d) ∧ w'.ownsRow w.heap.size 5 1 (.slice y (ftN nn wh) d) (ftN nn wh) (cellsU8 (ftL bs (ftN nn wh))) ∧ Below w.heap.size w w') := by
  obtain ⟨i0, hi, hz0, hz1, hz2⟩ := info_parts Tryz.info5
  have HI0 : Hid (Tryz.prog.info? 5 = some i0 ∧ i0.zero = some (.int .u8 0) ∧ i0.size = 1 ∧ i0.bytes = 1) := ⟨hi, hz0, hz1, hz2⟩
  clear hi hz0 hz1 hz2
  obtain ⟨x, hxx⟩ : ∃ x, IntKind.u64.wrap nn = x := ⟨_, rfl⟩
  have hx0 : 0 ≤ x := by rw [← hxx]; unfold IntKind.wrap; simp [IntKind.signed, IntKind.bits]; omega
  obtain ⟨s, hs⟩ : ∃ s : Nat, x % 497 = (s : Int) := ⟨(x % 497).toNat, by omega⟩
  obtain ⟨hs1, htm, es, e16, w16, hq, eq1, eq2, hle⟩ := ft_num x s hx0 hs
  have HSZ : Hid (ftN nn wh = if wh then (16 + s) / 16 * 16 else 16 + s) := by unfold ftN; rw [hxx, hs]; rfl
  have e497 : IntKind.u64.wrap 497 = 497 := by decide
  obtain ⟨a, c, rfl, h1, h2, h3, h4⟩ := hv
  obtain ⟨n, HNL⟩ : ∃ n, Hid (bs.length = n) := ⟨_, rfl⟩
  rw [HNL.out] at h1 ⊢
  have HCC : Hid (bs = [] ∨ ∃ b off, a = some ⟨b, off, none⟩ ∧ ∀ i, i < bs.length → w.cell? ⟨b, off + i, none⟩ = some (.int .u8 (bs.getD i 0))) := h4
  clear h1 h2 h3 h4 hs hx0
  obtain ⟨kz, HKZ⟩ : ∃ kz, Hid (ftN nn wh = kz) := ⟨_, rfl⟩
  have hkz : kz ≤ 600 := by rw [← HKZ.out, HSZ.out]; split <;> omega
  rw [HKZ.out] at HSZ ⊢
  cases wh
  · go_enter Tryz.func11, Tryz.ntmps11
    go_upto_region 2 with fail
    have hkk : (16 : Int) + (s : Int) = (kz : Int) := by have := HSZ.out; simp at this; omega
    rw [hkk]
    clear hkk
    go_upto_region 6 with fail
    go_loopw [8, 9] (fun v vi wr => ∃ k : Nat, vi = .int .i64 (k : Nat) ∧ k ≤ kz ∧ Hid (FtI w bs wr v k)) (fun _ vi _ => kz - (intOf vi).toNat)
    case atStart => exact ⟨0, rfl, by omega, World.ownsRow_nil _ _ _ _, Below.refl _ _⟩
    case round =>
      obtain ⟨k, rfl, hk, HR⟩ := hrel
      by_cases hlt : k < kz
      · have g1 : (k : Int) < (kz : Int) := by omega
        have HLM : Hid (w.heap.size ≤ wr.heap.size) := HR.out.bel.size
        by_cases hb0 : bs = []
        · have HB0 : Hid (bs = []) := hb0
          have hn0 : n = 0 := by have := HNL.out; rw [hb0] at this; simpa using this.symm
          clear hb0
          subst hn0
          obtain ⟨z, HZ⟩ : ∃ z : Int, Hid (z = ((k * k % 256 : Nat) : Int)) := ⟨_, rfl⟩
          obtain ⟨hw7, hz⟩ := ft_sq k (by omega)
          rw [← HZ.out] at hz
          go_wp2_with (first
            | (at_builtin; go_must (refine wpList_append_own _ rfl (.tmp 27) (.tmp 32) 22 rfl w.heap.size 5 i0 (.int .u8 0) 1 1 Tryz.underlying22 HI0.out.1 HI0.out.2.1 HI0.out.2.2.1 HI0.out.2.2.2 rfl (by decide) _ _ _ rfl (HR.out.own.alloc _) ⟨wr.heap.size, 0, none⟩ 1 1 [.int .u8 z] rfl rfl (one_cell wr _ 5) (one_u8 z) (by unfold maxLen; omega) (by omega) (by have := HLM.out; simp; omega) ?_; intro v2 w2 hown hgrow hnil; have HX : Hid (FtI w bs w2 v2 (k + 1)) := HR.out.step _ (by rw [ftZ, if_pos HB0.out, HZ.out]) hown hgrow; clear hown hgrow hnil)))
          exact ⟨⟨k + 1, by simp, by omega, HX⟩, by simp [intOf]; omega⟩
        · obtain ⟨b, off, rfl, hcell⟩ := HCC.out.resolve_left hb0
          have HB0 : Hid (bs ≠ []) := hb0
          have hn1 : 0 < n := by have := HNL.out; cases bs with | nil => exact absurd rfl hb0 | cons _ _ => simp at this; omega
          clear hb0
          obtain ⟨q, HQ⟩ : ∃ q : Nat, Hid (q = k % n) := ⟨_, rfl⟩
          have hqn : q < n := by rw [HQ.out]; exact Nat.mod_lt _ hn1
          obtain ⟨z, HZ⟩ : ∃ z : Int, Hid (bs.getD q 0 = z) := ⟨_, rfl⟩
          have HCL : Hid (∀ u : World, Below w.heap.size w u → u.cell? ⟨b, off + q, none⟩ = some (.int .u8 z)) := fun u hu => by
            have p := hcell q (by rw [HNL.out]; exact hqn)
            rw [hu.cell (World.block_lt_of_cell? w _ p), p, HZ.out]
          have c1 := HCL.out wr HR.out.bel
          clear hcell
          have hmod : (k : Int).tmod (n : Int) = (q : Int) := by rw [HQ.out, Int.tmod_eq_emod_of_nonneg (Int.natCast_nonneg _)]; rfl
          have hne : ((n : Int) == 0) = false := by simp; omega
          have hn2 : (n : Int) ≠ 0 := by omega
          have k0 : (0 : Int) ≤ (q : Int) := by omega
          have k1 : (q : Int) < (n : Int) := by omega
          have hn3 : ¬ n = 0 := by omega
          go_wp2_with (first
            | (at_builtin; go_must (refine wpList_append_own _ rfl (.tmp 34) (.tmp 42) 22 rfl w.heap.size 5 i0 (.int .u8 0) 1 1 Tryz.underlying22 HI0.out.1 HI0.out.2.1 HI0.out.2.2.1 HI0.out.2.2.2 rfl (by decide) _ _ _ rfl (HR.out.own.alloc _) ⟨wr.heap.size, 0, none⟩ 1 1 [.int .u8 z] rfl rfl (one_cell wr _ 5) (one_u8 z) (by unfold maxLen; omega) (by omega) (by have := HLM.out; simp; omega) ?_; intro v2 w2 hown hgrow hnil; have HX : Hid (FtI w bs w2 v2 (k + 1)) := HR.out.step _ (by rw [ftZ, if_neg HB0.out, HNL.out, ← HQ.out, HZ.out]) hown hgrow; clear hown hgrow hnil)))
          exact ⟨⟨k + 1, by simp, by omega, HX⟩, by simp [intOf]; omega⟩
      · have g1 : ¬ (k : Int) < (kz : Int) := by omega
        have HF : Hid (wr.ownsRow w.heap.size 5 1 u8 kz (cellsU8 (ftL bs kz)) ∧ Below w.heap.size w wr) := by
          obtain ⟨p1, p3⟩ := HR.out
          rw [show k = kz by omega] at p1
          exact ⟨p1, p3⟩
        clear HR
        have hk0 : 0 < kz := by have := HSZ.out; first | (simp at this; omega) | omega
        obtain ⟨xg, xc, rfl⟩ : ∃ g c, u8 = .slice (some ⟨g, 0, none⟩) kz c := by
          rcases HF.out.1.2 with ⟨_, q⟩ | ⟨g, c, _, q, _⟩
          · omega
          · exact ⟨g, c, q⟩
        go_wp2
        go_ret
        exact ⟨_, xc, rfl, HF.out.1, HF.out.2⟩
  · go_enter Tryz.func11, Tryz.ntmps11
    go_upto_region 4 with fail
    have hkk : ((s : Int) / 16 + 1) * 16 = (kz : Int) := by have := HSZ.out; simp at this; omega
    rw [hkk]
    clear hkk
    go_upto_region 6 with fail
    go_loopw [8, 9] (fun v vi wr => ∃ k : Nat, vi = .int .i64 (k : Nat) ∧ k ≤ kz ∧ Hid (FtI w bs wr v k)) (fun _ vi _ => kz - (intOf vi).toNat)
    case atStart => exact ⟨0, rfl, by omega, World.ownsRow_nil _ _ _ _, Below.refl _ _⟩
    case round =>
      obtain ⟨k, rfl, hk, HR⟩ := hrel
      by_cases hlt : k < kz
      · have g1 : (k : Int) < (kz : Int) := by omega
        have HLM : Hid (w.heap.size ≤ wr.heap.size) := HR.out.bel.size
        by_cases hb0 : bs = []
        · have HB0 : Hid (bs = []) := hb0
          have hn0 : n = 0 := by have := HNL.out; rw [hb0] at this; simpa using this.symm
          clear hb0
          subst hn0
          obtain ⟨z, HZ⟩ : ∃ z : Int, Hid (z = ((k * k % 256 : Nat) : Int)) := ⟨_, rfl⟩
          obtain ⟨hw7, hz⟩ := ft_sq k (by omega)
          rw [← HZ.out] at hz
          go_wp2_with (first
            | (at_builtin; go_must (refine wpList_append_own _ rfl (.tmp 27) (.tmp 32) 22 rfl w.heap.size 5 i0 (.int .u8 0) 1 1 Tryz.underlying22 HI0.out.1 HI0.out.2.1 HI0.out.2.2.1 HI0.out.2.2.2 rfl (by decide) _ _ _ rfl (HR.out.own.alloc _) ⟨wr.heap.size, 0, none⟩ 1 1 [.int .u8 z] rfl rfl (one_cell wr _ 5) (one_u8 z) (by unfold maxLen; omega) (by omega) (by have := HLM.out; simp; omega) ?_; intro v2 w2 hown hgrow hnil; have HX : Hid (FtI w bs w2 v2 (k + 1)) := HR.out.step _ (by rw [ftZ, if_pos HB0.out, HZ.out]) hown hgrow; clear hown hgrow hnil)))
          exact ⟨⟨k + 1, by simp, by omega, HX⟩, by simp [intOf]; omega⟩
        · obtain ⟨b, off, rfl, hcell⟩ := HCC.out.resolve_left hb0
          have HB0 : Hid (bs ≠ []) := hb0
          have hn1 : 0 < n := by have := HNL.out; cases bs with | nil => exact absurd rfl hb0 | cons _ _ => simp at this; omega
          clear hb0
          obtain ⟨q, HQ⟩ : ∃ q : Nat, Hid (q = k % n) := ⟨_, rfl⟩
          have hqn : q < n := by rw [HQ.out]; exact Nat.mod_lt _ hn1
          obtain ⟨z, HZ⟩ : ∃ z : Int, Hid (bs.getD q 0 = z) := ⟨_, rfl⟩
          have HCL : Hid (∀ u : World, Below w.heap.size w u → u.cell? ⟨b, off + q, none⟩ = some (.int .u8 z)) := fun u hu => by
            have p := hcell q (by rw [HNL.out]; exact hqn)
            rw [hu.cell (World.block_lt_of_cell? w _ p), p, HZ.out]
          have c1 := HCL.out wr HR.out.bel
          clear hcell
          have hmod : (k : Int).tmod (n : Int) = (q : Int) := by rw [HQ.out, Int.tmod_eq_emod_of_nonneg (Int.natCast_nonneg _)]; rfl
          have hne : ((n : Int) == 0) = false := by simp; omega
          have hn2 : (n : Int) ≠ 0 := by omega
          have k0 : (0 : Int) ≤ (q : Int) := by omega
          have k1 : (q : Int) < (n : Int) := by omega
          have hn3 : ¬ n = 0 := by omega
          go_wp2_with (first
            | (at_builtin; go_must (refine wpList_append_own _ rfl (.tmp 34) (.tmp 42) 22 rfl w.heap.size 5 i0 (.int .u8 0) 1 1 Tryz.underlying22 HI0.out.1 HI0.out.2.1 HI0.out.2.2.1 HI0.out.2.2.2 rfl (by decide) _ _ _ rfl (HR.out.own.alloc _) ⟨wr.heap.size, 0, none⟩ 1 1 [.int .u8 z] rfl rfl (one_cell wr _ 5) (one_u8 z) (by unfold maxLen; omega) (by omega) (by have := HLM.out; simp; omega) ?_; intro v2 w2 hown hgrow hnil; have HX : Hid (FtI w bs w2 v2 (k + 1)) := HR.out.step _ (by rw [ftZ, if_neg HB0.out, HNL.out, ← HQ.out, HZ.out]) hown hgrow; clear hown hgrow hnil)))
          exact ⟨⟨k + 1, by simp, by omega, HX⟩, by simp [intOf]; omega⟩
      · have g1 : ¬ (k : Int) < (kz : Int) := by omega
        have HF : Hid (wr.ownsRow w.heap.size 5 1 u8 kz (cellsU8 (ftL bs kz)) ∧ Below w.heap.size w wr) := by
          obtain ⟨p1, p3⟩ := HR.out
          rw [show k = kz by omega] at p1
          exact ⟨p1, p3⟩
        clear HR
        have hk0 : 0 < kz := by have := HSZ.out; first | (simp at this; omega) | omega
        obtain ⟨xg, xc, rfl⟩ : ∃ g c, u8 = .slice (some ⟨g, 0, none⟩) kz c := by
          rcases HF.out.1.2 with ⟨_, q⟩ | ⟨g, c, _, q, _⟩
          · omega
          · exact ⟨g, c, q⟩
        go_wp2
        go_ret
        exact ⟨_, xc, rfl, HF.out.1, HF.out.2⟩
end Go.Proofs.YtehlppaidgkpaaaGreatDoor
namespace Go.Proofs.YtehlppaidgkpaaaGreatDoor
open Go.RowKit
set_option linter.unusedVariables false
set_option linter.unusedSimpArgs false
set_option maxHeartbeats 800000 in
set_option maxRecDepth 100000 in
/-- blockAt. -/
theorem blockAt_ok (b off n c j : Nat) (w : World) (hj : 16 * j + 16 ≤ n) (hn : n ≤ c) (hc : n ≤ 1000000) :
    Calls Tryz.prog 227 #[.slice (some ⟨b, off, none⟩) n c, .int .i64 (j : Nat)] w fun e w' => Hid (e = .returned (.slice (some ⟨b, off + 16 * j, none⟩) 16 16) ∧ Below w.heap.size w w') := by
  have hS : ∀ u : World, (Instr.slice 22 (.slice (some ⟨b, off, none⟩) n c) (some (.int .i64 ((j : Int) * 16))) (some (.int .i64 ((j : Int) * 16 + 16))) (some (.int .i64 ((j : Int) * 16 + 16)))).run Tryz.prog u = .ok (.slice (some ⟨b, off + 16 * j, none⟩) 16 16) u := fun u => by
    have q := run_slice_lhm (P := Tryz.prog) u 22 (some ⟨b, off, none⟩) n c und22 .i64 .i64 .i64 ((j : Int) * 16) ((j : Int) * 16 + 16) ((j : Int) * 16 + 16) (by omega) (by omega) (by omega) (by omega)
    rw [q, show Tryz.prog.elem 22 = 5 by kernel_rfl, sizeOf5]
    simp only [Result.andThen_ok, sliced]
    rw [show ((j : Int) * 16).toNat = 16 * j by omega, show ((j : Int) * 16 + 16).toNat = 16 * j + 16 by omega, if_neg (by omega), Option.map_some, Nat.mul_one, Addr.add_mid, show 16 * j + 16 - 16 * j = 16 by omega]
  have e1 : IntKind.i64.wrap ((j : Int) * 16) = (j : Int) * 16 := by rw [IntKind.wrap_i64]; omega
  have e2 : IntKind.i64.wrap ((j : Int) * 16 + 16) = (j : Int) * 16 + 16 := by rw [IntKind.wrap_i64]; omega
  clear hj hn hc
  go_enter Tryz.func227, Tryz.ntmps227
  go_wp2
  go_ret
  exact ⟨rfl, Below.refl _ _⟩
/-- Block j of a list. -/
def cutV (zs : List Int) (j : Nat) : BitVec 128 := BitVec.ofNat 128 (Fd.pk (fun i => nat8 zs (16 * j + i)) 16)
theorem cutV_at {zs : List Int} (h : AllBytes zs) (j i : Nat) (hi : i < 16) : ((Fd.byV (cutV zs j) i : Nat) : Int) = zs.getD (16 * j + i) 0 := by
  rw [cutV, Fd.byV_pk _ (fun i => nat8_lt h _) i hi, nat8_eq h]
theorem BL_one8 (v : BitVec 128) : ∀ x ∈ Fd.BL v, x.oneCell' = true := by
  intro x hx
  obtain ⟨i, hi⟩ := List.mem_iff_getElem?.1 hx
  by_cases h : i < 16
  · rw [Fd.BL_at v i h] at hi; injection hi with hi; subst hi; rfl
  · rw [List.getElem?_eq_none (by rw [Fd.BL_length]; omega)] at hi; cases hi
/-- Sixteen zeros. -/
abbrev ZZ : List Value := [.int .u8 0, .int .u8 0, .int .u8 0, .int .u8 0, .int .u8 0, .int .u8 0, .int .u8 0, .int .u8 0, .int .u8 0, .int .u8 0, .int .u8 0, .int .u8 0, .int .u8 0, .int .u8 0, .int .u8 0, .int .u8 0]
set_option maxHeartbeats 800000 in
set_option maxRecDepth 100000 in
/-- cut. -/
theorem cut_ok (b off c j : Nat) (zs : List Int) (w : World) (hj : 16 * j + 16 ≤ zs.length) (hn : zs.length ≤ c) (hc : zs.length ≤ 1000000) (hb : AllBytes zs) (hz : ∀ i, i < zs.length → w.cell? ⟨b, off + i, none⟩ = some (.int .u8 (zs.getD i 0))) :
    Calls Tryz.prog 197 #[.slice (some ⟨b, off, none⟩) zs.length c, .int .i64 (j : Nat)] w fun e w' => Hid (e = .returned (Fd.BV (cutV zs j)) ∧ Below w.heap.size w w') := by
  obtain ⟨n, HNL⟩ : ∃ n, Hid (zs.length = n) := ⟨_, rfl⟩
  have HA : Hid (∀ u, Calls Tryz.prog 227 #[.slice (some ⟨b, off, none⟩) n c, .int .i64 (j : Nat)] u fun e w' => Hid (e = .returned (.slice (some ⟨b, off + 16 * j, none⟩) 16 16) ∧ Below u.heap.size u w')) := fun u => blockAt_ok b off n c j u (by rw [← HNL.out]; exact hj) (by rw [← HNL.out]; exact hn) (by rw [← HNL.out]; exact hc)
  obtain ⟨L, HL⟩ : ∃ L, Hid (L = Fd.BL (cutV zs j)) := ⟨_, rfl⟩
  have HLC : Hid (∀ u, Below w.heap.size w u → ∀ i v, L[i]? = some v → u.cell? ((⟨b, off + 16 * j, none⟩ : Addr).add i) = some v) := fun u hu i v hv => by
    have h16 : i < 16 := by
      rw [HL.out] at hv
      have := (List.getElem?_eq_some_iff.1 hv).1
      rw [Fd.BL_length] at this; exact this
    rw [HL.out, Fd.BL_at _ i h16, cutV_at hb j i h16] at hv
    injection hv with hv
    subst hv
    have p := hz (16 * j + i) (by omega)
    rw [Addr.add_mid, Nat.add_assoc, hu.cell (World.block_lt_of_cell? w _ p), p]
  have HLL : Hid (L.length = 16 ∧ ∀ x ∈ L, x.oneCell' = true) := by rw [HL.out]; exact ⟨Fd.BL_length _, BL_one8 _⟩
  rw [HNL.out]
  clear hj hn hc hz hb
  go_enter Tryz.func197, Tryz.ntmps197
  obtain ⟨w1, hw1⟩ : ∃ w1, w1 = (w.alloc (.cells #[.int .u8 0, .int .u8 0, .int .u8 0, .int .u8 0, .int .u8 0, .int .u8 0, .int .u8 0, .int .u8 0, .int .u8 0, .int .u8 0, .int .u8 0, .int .u8 0, .int .u8 0, .int .u8 0, .int .u8 0, .int .u8 0] 27)).alloc (.cells #[.int .u8 0, .int .u8 0, .int .u8 0, .int .u8 0, .int .u8 0, .int .u8 0, .int .u8 0, .int .u8 0, .int .u8 0, .int .u8 0, .int .u8 0, .int .u8 0, .int .u8 0, .int .u8 0, .int .u8 0, .int .u8 0] 27) := ⟨_, rfl⟩
  have HB1 : Hid (Bx w1 w.heap.size 27 ZZ ∧ Bx w1 (w.heap.size + 1) 27 ZZ ∧ Below w.heap.size w w1) := by
    refine ⟨?_, ?_, ?_⟩
    · rw [hw1]; exact (Bx.new w 27 ZZ).below ((Below.refl _ _).alloc (Nat.le_refl _) _)
    · rw [hw1]; have q := Bx.new (w.alloc (.cells ZZ.toArray 27)) 27 ZZ; simpa using q
    · rw [hw1]; exact ((Below.refl _ _).alloc (Nat.le_refl _) _).alloc (by simp) _
  go_upto_region 2 with fail
  rw [← hw1]
  clear hw1
  obtain ⟨m, HM⟩ : ∃ m, Hid (w.heap.size = m) := ⟨_, rfl⟩
  rw [HM.out] at HB1 HLC ⊢
  have HW1 : Hid (m + 1 < w1.heap.size) := HB1.out.2.1.lt
  go_region_held3 (fun _ => True) (first | trivial | go_keep)
    (first
      | (go_at_call 227; refine (HA.out _).mono ?_; intro e2 w2 hh; obtain ⟨rfl, hb2⟩ := hh.out; have HB2 : Hid (Below w1.heap.size w1 w2) := (Below.refl _ _).drew.trans hb2; clear hh hb2)
      | (refine step_copy_splice rfl (.tmp 6) (.tmp 9) 22 22 rfl 5 Tryz.underlying22 (by kernel_rfl) _ _ 16 16 16 16 rfl rfl (m + 1) 0 ZZ 27 (HB1.out.2.1.below HB2.out) L HLL.out.1 (fun _ => ⟨rfl, _, rfl, HLC.out w2 (HB1.out.2.2.trans (HB2.out.mono (by have := HW1.out; omega)))⟩) (by rw [HLL.out.1]; decide) HLL.out.2 (m + 1) w2 (Below.refl _ _) (Nat.le_refl _) ?_; intro w3 HG3 hb3; have HB3 : Hid (Below (m + 1) w2 w3) := hb3; clear hb3))
  have HX3 : Hid (Bx w3 (m + 1) 27 L ∧ Bx w3 m 27 ZZ ∧ Below m w w3) := by
    refine ⟨?_, (HB1.out.1.below HB2.out).keep (HB3.out.block m (by omega)), HB1.out.2.2.trans ((HB2.out.mono (by have := HW1.out; omega)).trans (HB3.out.mono (by omega)))⟩
    have q := HG3.out
    have e : splice ZZ 0 L = L := by simp [splice, HLL.out.1]
    rw [e] at q
    exact q
  clear HG3 HB3 HB1
  go_wp2_with (first
    | (refine wpList_load_mid (by rfl) 27 (.tmp 5) (by rfl) (m + 1) 0 (by rfl) L _ HX3.out.1.range Tryz.underlying27 rfl (by rw [HLL.out.1]; kernel_rfl) ?_)
    | (refine wpList_store_bx (by rfl) 27 (.tmp 4) (.tmp 11) (by rfl) ZZ L m (by rfl) (by rfl) HX3.out.2.1 (by rw [HLL.out.1]; rfl) (by rw [HLL.out.1]; kernel_rfl) HLL.out.2 ?_; intro u9 hb9 hg9))
  refine ret_agg (b := m) L rfl rfl hb9.range Tryz.underlying27 rfl (by rw [HLL.out.1]; kernel_rfl) ⟨?_, ?_⟩
  · rw [HL.out]; rfl
  · have hfin : Below m w u9 := HX3.out.2.2.trans (below_gb hg9 (by have := HX3.out.2.1.lt; omega) (by omega))
    first | exact hfin | (rw [HM.out]; exact hfin)
theorem setRow_gb (w : World) (g : Nat) (cs : Array Value) : w.grownBy (w.setRow g cs) (some g) := ⟨rfl, rfl, rfl, by simp [World.setRow], fun k _ hk => setRow_other w g k cs (fun e => hk (by rw [e]))⟩
/-- A copy of cells into a row at g: only this row changes. -/
theorem step_copy_gb {P : Program} {ops : Array Oper} {o : Oper} {a : Act} {w : World} {K : Act → World → Prop} {Q : Exit → Act → World → Prop} {E : Prop} (hgd : o.guard = none) (d s : Operand)
    (ho : o.op = .call { callee := .builtin .copy, args := #[d, s], argTypes := #[22, 22] }) (hu : P.underlying 22 = some (.slice 5)) (hsz : (P.info? 5).map (·.size) = some 1)
    (g off dLen dCap sLen sCap : Nat) (ad : Addr) (hd : a.eval d = .slice (some ⟨g, off, none⟩) dLen dCap) (hs : a.eval s = .slice (some ad) sLen sCap)
    (cur : List Value) (t : TypeId) (hg : w.heap[g]? = some (.cells cur.toArray t (0, 0))) (cs : List Value) (hn : cs.length = Nat.min sLen dLen)
    (hsrc : ∀ j v, cs[j]? = some v → w.cell? (ad.add j) = some v) (hfit : off + cs.length ≤ cur.length) (h1 : ∀ v ∈ cs, v.oneCell' = true)
    (h : ∀ w', Hid (w'.heap[g]? = some (.cells (splice cur off cs).toArray t (0, 0))) → Hid (w.grownBy w' (some g)) → K (a.put o.dst (goInt cs.length)) w') :
    if Region.wanted o (yielded ops a.tmps) = true then Oper.wp P o a w K Q else E := by
  have hw : Region.wanted o (yielded ops a.tmps) = true := by simp [Region.wanted, hgd]
  rw [if_pos hw]
  have hrun := run_copy_row (P := P) w 22 22 o.type 5 g off dLen dCap ad sLen sCap cur.toArray t cs hu hsz hg hn hsrc (by simpa using hfit) h1
  unfold Oper.wp
  simp [execOp, ho, resolve, invoke, builtin, hd, hs, hrun, Result.andThen]
  exact h _ (show _ = _ by simpa [splice] using setRow_heap w g _ _ t _ hg) (setRow_gb w g _)
set_option maxHeartbeats 800000 in
set_option maxRecDepth 100000 in
/-- lay. -/
theorem lay_ok (g n c j : Nat) (v : BitVec 128) (cur : List Value) (w : World) (hj : 16 * j + 16 ≤ n) (hn : n ≤ c) (hc : n ≤ 1000000) (hcur : n ≤ cur.length) (hg : Bx w g 5 cur) :
    Calls Tryz.prog 234 #[.slice (some ⟨g, 0, none⟩) n c, .int .i64 (j : Nat), Fd.BV v] w fun e w' => Hid (e = .returned (.tuple #[]) ∧ Bx w' g 5 (splice cur (16 * j) (Fd.BL v)) ∧ w.grownBy w' (some g)) := by
  have HA : Hid (∀ u, Calls Tryz.prog 227 #[.slice (some ⟨g, 0, none⟩) n c, .int .i64 (j : Nat)] u fun e w' => Hid (e = .returned (.slice (some ⟨g, 0 + 16 * j, none⟩) 16 16) ∧ Below u.heap.size u w')) := fun u => blockAt_ok g 0 n c j u hj hn hc
  obtain ⟨L, HL⟩ : ∃ L, Hid (L = Fd.BL v) := ⟨_, rfl⟩
  have HLL : Hid (L.length = 16 ∧ ∀ x ∈ L, x.oneCell' = true) := by rw [HL.out]; exact ⟨Fd.BL_length _, BL_one8 _⟩
  have HF : Hid (16 * j + 16 ≤ cur.length) := (by omega : 16 * j + 16 ≤ cur.length)
  obtain ⟨w1, hw1⟩ : ∃ w1, w1 = w.alloc (.cells L.toArray 27) := ⟨_, rfl⟩
  have HB1 : Hid (Bx w1 w.heap.size 27 L ∧ Bx w1 g 5 cur ∧ Below w.heap.size w w1 ∧ g < w.heap.size) := by
    rw [hw1]; exact ⟨Bx.new w 27 L, hg.below ((Below.refl _ _).alloc (Nat.le_refl _) _), (Below.refl _ _).alloc (Nat.le_refl _) _, hg.lt⟩
  show Calls Tryz.prog 234 #[_, _, .agg (Fd.BL v).toArray] w _
  rw [← HL.out]
  clear hj hn hc hcur hg
  go_enter Tryz.func234, Tryz.ntmps234
  go_upto_region 1 with fail
  rw [← hw1]
  clear hw1
  obtain ⟨m, HM⟩ : ∃ m, Hid (w.heap.size = m) := ⟨_, rfl⟩
  rw [HM.out] at HB1 ⊢
  go_region_held3 (fun _ => True) (first | trivial | go_keep)
    (first
      | (go_at_call 227; refine (HA.out _).mono ?_; intro e2 w2 hh; obtain ⟨rfl, hb2⟩ := hh.out; have HB2 : Hid (Below w1.heap.size w1 w2) := (Below.refl _ _).drew.trans hb2; clear hh hb2)
      | (refine step_copy_gb rfl (.tmp 8) (.tmp 9) rfl Tryz.underlying22 (by kernel_rfl) g (16 * j) 16 16 16 16 ⟨m, 0, none⟩ (by first | rfl | simp) (by first | rfl | simp) cur 5 (HB1.out.2.1.below HB2.out) L HLL.out.1 (fun i v hv => by rw [Addr.add_mid]; exact (HB1.out.1.below HB2.out).range i v hv) (by rw [HLL.out.1]; exact HF.out) HLL.out.2 ?_; intro w3 HG3 HB3))
  go_end0
  refine ⟨rfl, ?_, ?_⟩
  · exact HG3.out
  · have e1 : w.grownBy w2 (some g) := by
      have q := HB1.out.2.2.1.trans (HB2.out.mono (by have := HB1.out.1.lt; omega))
      exact ⟨q.os, q.tape, q.output, q.size, fun k hk _ => q.block k (by rw [← HM.out]; exact hk)⟩
    exact gb_trans e1 HB3.out
end Go.Proofs.YtehlppaidgkpaaaGreatDoor
namespace Go.Proofs.YtehlppaidgkpaaaGreatDoor
open Go.RowKit
set_option linter.unusedVariables false
set_option linter.unusedSimpArgs false
theorem bt_wd4 {a b c d : Nat} (ha : a < 256) (hb : b < 256) (hc : c < 256) (hd : d < 256) : bt0 (wd a b c d) = a ∧ bt1 (wd a b c d) = b ∧ bt2 (wd a b c d) = c ∧ bt3 (wd a b c d) = d := by
  unfold wd bt0 bt1 bt2 bt3; omega
/-- A block as words. -/
def toW (v : BitVec 128) : W4 := ⟨wd (Fd.byV v 0) (Fd.byV v 1) (Fd.byV v 2) (Fd.byV v 3), wd (Fd.byV v 4) (Fd.byV v 5) (Fd.byV v 6) (Fd.byV v 7), wd (Fd.byV v 8) (Fd.byV v 9) (Fd.byV v 10) (Fd.byV v 11), wd (Fd.byV v 12) (Fd.byV v 13) (Fd.byV v 14) (Fd.byV v 15)⟩
theorem toW_ok (v : BitVec 128) : (toW v).ok := by
  have h := Fd.byV_lt v
  exact ⟨wd_lt (h _) (h _) (h _) (h _), wd_lt (h _) (h _) (h _) (h _), wd_lt (h _) (h _) (h _) (h _), wd_lt (h _) (h _) (h _) (h _)⟩
theorem toW_blk (v : BitVec 128) : (toW v).blk = Fd.BV v := by
  have h := Fd.byV_lt v
  obtain ⟨a0, a1, a2, a3⟩ := bt_wd4 (h 0) (h 1) (h 2) (h 3)
  obtain ⟨b0, b1, b2, b3⟩ := bt_wd4 (h 4) (h 5) (h 6) (h 7)
  obtain ⟨c0, c1, c2, c3⟩ := bt_wd4 (h 8) (h 9) (h 10) (h 11)
  obtain ⟨d0, d1, d2, d3⟩ := bt_wd4 (h 12) (h 13) (h 14) (h 15)
  unfold W4.blk blk Fd.BV toW
  simp only [a0, a1, a2, a3, b0, b1, b2, b3, c0, c1, c2, c3, d0, d1, d2, d3]
def byW (t : W4) : List Nat := [bt0 t.a, bt1 t.a, bt2 t.a, bt3 t.a, bt0 t.b, bt1 t.b, bt2 t.b, bt3 t.b, bt0 t.c, bt1 t.c, bt2 t.c, bt3 t.c, bt0 t.d, bt1 t.d, bt2 t.d, bt3 t.d]
theorem byW_lt (t : W4) (i : Nat) : (byW t).getD i 0 < 256 := by
  have h : ∀ x ∈ byW t, x < 256 := by
    intro x hx
    simp only [byW, List.mem_cons, List.not_mem_nil, or_false] at hx
    rcases hx with rfl | rfl | rfl | rfl | rfl | rfl | rfl | rfl | rfl | rfl | rfl | rfl | rfl | rfl | rfl | rfl <;> exact Nat.mod_lt _ (by decide)
  rw [List.getD_eq_getElem?_getD]
  cases e : (byW t)[i]? with
  | none => simp
  | some x => exact h x (List.mem_of_getElem? e)
/-- Words as a block. -/
def ofW (t : W4) : BitVec 128 := BitVec.ofNat 128 (Fd.pk (fun i => (byW t).getD i 0) 16)
theorem ofW_at (t : W4) (i : Nat) (hi : i < 16) : Fd.byV (ofW t) i = (byW t).getD i 0 := Fd.byV_pk _ (byW_lt t) i hi
theorem ofW_blk (t : W4) : t.blk = Fd.BV (ofW t) := by
  have h := ofW_at t
  unfold W4.blk blk Fd.BV
  rw [h 0 (by decide), h 1 (by decide), h 2 (by decide), h 3 (by decide), h 4 (by decide), h 5 (by decide), h 6 (by decide), h 7 (by decide), h 8 (by decide), h 9 (by decide), h 10 (by decide), h 11 (by decide), h 12 (by decide), h 13 (by decide), h 14 (by decide), h 15 (by decide)]
  rfl
/-- AES of a block. -/
def encV (nr : Nat) (K : Nat → Nat) (v : BitVec 128) : BitVec 128 := ofW (encW nr K (toW v))
theorem kencV (g nr : Nat) (K : Nat → Nat) (v : BitVec 128) (w : World) (h : KeyAt w g nr K) :
    Calls Tryz.prog 32 #[.pointer (some ⟨g, 0, none⟩), Fd.BV v] w fun e w' => Hid (e = .returned (.tuple #[Fd.BV (encV nr K v), .int .i64 0]) ∧ KeyAt w' g nr K ∧ w.grownBy w' (some g)) := by
  have q := kenc_ok g nr K (toW v) w h (toW_ok v)
  rw [toW_blk] at q
  refine q.mono ?_
  rintro e w' ⟨rfl, h1, h2⟩
  refine ⟨by rw [ofW_blk]; rfl, h1, h2.os, h2.tape, h2.output, h2.size, fun k hk hn => h2.block k hk (fun e => hn (by rw [e]))⟩
set_option maxHeartbeats 800000 in
set_option maxRecDepth 100000 in
/-- under. -/
theorem under_ok (g nr : Nat) (K : Nat → Nat) (v : BitVec 128) (w : World) (h : KeyAt w g nr K) :
    Calls Tryz.prog 188 #[.pointer (some ⟨g, 0, none⟩), Fd.BV v] w fun e w' => Hid (e = .returned (Fd.BV (encV nr K v)) ∧ KeyAt w' g nr K ∧ w.grownBy w' (some g)) := by
  obtain ⟨L, HL⟩ : ∃ L, Hid (L = Fd.BL v) := ⟨_, rfl⟩
  obtain ⟨M, HM⟩ : ∃ M, Hid (M = Fd.BL (encV nr K v)) := ⟨_, rfl⟩
  have HK : Hid (∀ u, KeyAt u g nr K → Calls Tryz.prog 32 #[.pointer (some ⟨g, 0, none⟩), .agg L.toArray] u fun e w' => Hid (e = .returned (.tuple #[.agg M.toArray, .int .i64 0]) ∧ KeyAt w' g nr K ∧ u.grownBy w' (some g))) := fun u hu => by
    have q := kencV g nr K v u hu
    rw [HL.out, HM.out]
    exact q
  have HL16 : Hid (L.length = 16 ∧ M.length = 16 ∧ (∀ x ∈ M, x.oneCell' = true)) := by rw [HL.out, HM.out]; exact ⟨rfl, rfl, BL_one8 _⟩
  show Calls Tryz.prog 188 #[_, .agg (Fd.BL v).toArray] w fun e w' => Hid (e = .returned (.agg (Fd.BL (encV nr K v)).toArray) ∧ _)
  rw [← HL.out, ← HM.out]
  obtain ⟨w1, hw1⟩ : ∃ w1, w1 = (w.alloc (.cells L.toArray 27)).alloc (.cells ZZ.toArray 27) := ⟨_, rfl⟩
  have HB1 : Hid (Bx w1 w.heap.size 27 L ∧ Bx w1 (w.heap.size + 1) 27 ZZ ∧ Below w.heap.size w w1 ∧ KeyAt w1 g nr K ∧ g < w.heap.size) := by
    have hb : Below w.heap.size w w1 := by rw [hw1]; exact ((Below.refl _ _).alloc (Nat.le_refl _) _).alloc (by simp) _
    refine ⟨?_, ?_, hb, h.below hb h.ciph.here, h.ciph.here⟩
    · rw [hw1]; exact (Bx.new w 27 L).below ((Below.refl _ _).alloc (Nat.le_refl _) _)
    · rw [hw1]; have q := Bx.new (w.alloc (.cells L.toArray 27)) 27 ZZ; simpa using q
  have hw2 : w1 = (w.alloc (.cells L.toArray 27)).alloc (.cells #[.int .u8 0, .int .u8 0, .int .u8 0, .int .u8 0, .int .u8 0, .int .u8 0, .int .u8 0, .int .u8 0, .int .u8 0, .int .u8 0, .int .u8 0, .int .u8 0, .int .u8 0, .int .u8 0, .int .u8 0, .int .u8 0] 27) := hw1
  clear hw1 h
  go_enter Tryz.func188, Tryz.ntmps188
  go_upto_region 1 with fail
  rw [← hw2]
  clear hw2
  obtain ⟨m, HMM⟩ : ∃ m, Hid (w.heap.size = m) := ⟨_, rfl⟩
  rw [HMM.out] at HB1 ⊢
  go_upto_region 2 with (first
    | (refine wpList_load_mid (by rfl) 27 (.tmp 3) (by rfl) m 0 (by rfl) L _ HB1.out.1.range Tryz.underlying27 rfl (by rw [HL16.out.1]; kernel_rfl) ?_)
    | (go_at_call 32; refine (HK.out _ HB1.out.2.2.2.1).mono ?_; intro e2 w2 hh; obtain ⟨rfl, hk2, hg2⟩ := hh.out; have HB2 : Hid (KeyAt w2 g nr K ∧ w1.grownBy w2 (some g)) := ⟨hk2, hg2⟩; clear hh hk2 hg2)
    | (refine wpList_store_bx (by rfl) 27 (.tmp 5) (.tmp 11) (by rfl) ZZ M w2.heap.size (by rfl) (by rfl) (Bx.new w2 27 ZZ) (by rw [HL16.out.2.1]; rfl) (by rw [HL16.out.2.1]; kernel_rfl) HL16.out.2.2 ?_; intro u3 hb3 hg3; have HB3 : Hid (Bx u3 w2.heap.size 27 M ∧ (w2.alloc (.cells ZZ.toArray 27)).grownBy u3 (some w2.heap.size)) := ⟨hb3, hg3⟩; clear hb3 hg3))
  have HS : Hid (m + 1 < w1.heap.size ∧ w1.heap.size ≤ w2.heap.size) := ⟨HB1.out.2.1.lt, HB2.out.2.size⟩
  have h23 : ∀ k, k < w2.heap.size → u3.heap[k]? = w2.heap[k]? := fun k hk => by
    rw [HB3.out.2.block k (by simp; omega) (fun e => by injection e with e; omega), Below.heap_alloc _ _ _ hk]
  have HX3 : Hid (Bx u3 (m + 1) 27 ZZ ∧ ∀ k, k < w2.heap.size → u3.heap[k]? = w2.heap[k]?) := by
    refine ⟨(HB1.out.2.1.keep (HB2.out.2.block (m + 1) HS.out.1 (fun e => by injection e with e; have := HB1.out.2.2.2.2; omega))).keep (h23 _ (by have := HS.out; omega)), h23⟩
  clear h23
  go_wp2_with (first
    | (refine wpList_load_mid (by rfl) 27 (.tmp 5) (by rfl) w2.heap.size 0 (by rfl) M _ HB3.out.1.range Tryz.underlying27 rfl (by rw [HL16.out.2.1]; kernel_rfl) ?_)
    | (refine wpList_store_bx (by rfl) 27 (.tmp 4) (.tmp 13) (by rfl) ZZ M (m + 1) (by rfl) (by rfl) HX3.out.1 (by rw [HL16.out.2.1]; rfl) (by rw [HL16.out.2.1]; kernel_rfl) HL16.out.2.2 ?_; intro u9 hb9 hg9))
  have e9 : ∀ k, k < w2.heap.size → k ≠ m + 1 → u9.heap[k]? = w2.heap[k]? := fun k hk hn => by
    rw [hg9.block k (by have := HB3.out.1.lt; omega) (fun e => by injection e with e; omega), HX3.out.2 k hk]
  have hsz : w2.heap.size ≤ u9.heap.size := by have := hg9.size; have := HB3.out.1.lt; omega
  have hgm := HB1.out.2.2.2.2
  refine ret_agg (b := m + 1) M rfl rfl hb9.range Tryz.underlying27 rfl (by rw [HL16.out.2.1]; kernel_rfl) ⟨rfl, HB2.out.1.sameK (e9 g (by have := HS.out; omega) (by omega)) hsz, ?_⟩
  have hb1 := HB1.out.2.2.1
  have hg2 := HB2.out.2
  have hg3 := HB3.out.2
  refine ⟨hg9.os.trans (hg3.os.trans (hg2.os.trans hb1.os)), hg9.tape.trans (hg3.tape.trans (hg2.tape.trans hb1.tape)), hg9.output.trans (hg3.output.trans (hg2.output.trans hb1.output)), Nat.le_trans hb1.size (Nat.le_trans hg2.size hsz), fun k hk hn => ?_⟩
  have hkm : k < m := by rw [← HMM.out]; exact hk
  rw [e9 k (by have := HS.out; omega) (by omega), hg2.block k (by have := HS.out; omega) hn, hb1.block k hkm]
end Go.Proofs.YtehlppaidgkpaaaGreatDoor
namespace Go.Proofs.YtehlppaidgkpaaaGreatDoor
open Go.RowKit
set_option linter.unusedVariables false
set_option linter.unusedSimpArgs false
theorem there_ok (c sh : Nat) (w : World) (h0 : w.cell? ⟨c, 0, none⟩ = some (.pointer (some ⟨sh, 0, none⟩))) (h6 : w.cell? ⟨sh, 6, none⟩ = some (.bool false)) : Calls Tryz.prog 51 #[.pointer (some ⟨c, 0, none⟩)] w fun e w' => e = .returned (.int .i64 0) ∧ w' = w := by
  go_enter Tryz.func51, Tryz.ntmps51
  go_wp2_with (go_at_call 74; refine (made_yes c sh _ h0).mono ?_; rintro e1 w1 ⟨rfl, hw⟩; obtain rfl := hw.symm)
  go_ret
  exact ⟨rfl, rfl⟩
set_option maxHeartbeats 800000 in
set_option maxRecDepth 100000 in
theorem may_ok (c sh n st : Nat) (w : World) (h0 : w.cell? ⟨c, 0, none⟩ = some (.pointer (some ⟨sh, 0, none⟩))) (h1 : w.cell? ⟨sh, 1, none⟩ = some (.int .i64 (st : Nat))) (h6 : w.cell? ⟨sh, 6, none⟩ = some (.bool false)) (hn : 16 ≤ n) (hm : n ≤ 4096) (hs : n % st = 0) (hst : 0 < st) : Calls Tryz.prog 30 #[.pointer (some ⟨c, 0, none⟩), .int .i64 (n : Nat)] w fun e w' => e = .returned (.int .i64 0) ∧ w' = w := by
  have HT : Hid (Calls Tryz.prog 51 #[.pointer (some ⟨c, 0, none⟩)] w fun e w' => e = .returned (.int .i64 0) ∧ w' = w) := there_ok c sh w h0 h6
  have g1 : decide ((n : Int) < 16) = false := by simp; omega
  have g1' : ¬ (n : Int) < 16 := by omega
  have g2 : decide (4096 < (n : Int)) = false := by simp; omega
  have g2' : ¬ (4096 : Int) < (n : Int) := by omega
  have g3 : ¬ st = 0 := by omega
  have g4 : (n : Int).tmod (st : Int) = 0 := by rw [Int.tmod_eq_emod_of_nonneg (by omega)]; omega
  clear hn hm hs hst h6
  go_enter Tryz.func30, Tryz.ntmps30
  go_wp2_with (go_at_call 51; refine HT.out.mono ?_; rintro e1 w1 ⟨rfl, hw⟩; obtain rfl := hw.symm; clear hw HT)
  go_ret
  exact ⟨rfl, rfl⟩
set_option maxHeartbeats 800000 in
set_option maxRecDepth 100000 in
/-- Cipher.Seal of a sector that may be. -/
theorem seal_gen (c sh : Nat) (f : Nat) (cs : List Value) (s : Int) (a : Option Addr) (n cp st : Nat) (w : World) (h0 : w.cell? ⟨c, 0, none⟩ = some (.pointer (some ⟨sh, 0, none⟩))) (h2 : w.cell? ⟨c, 2, none⟩ = some (.func (.func f) #[.agg cs.toArray] #[])) (h1 : w.cell? ⟨sh, 1, none⟩ = some (.int .i64 (st : Nat))) (h6 : w.cell? ⟨sh, 6, none⟩ = some (.bool false)) (hn : 16 ≤ n) (hm : n ≤ 4096) (hs : n % st = 0) (hst : 0 < st)
    (hE : ∀ args u, (callFunc f args).run Tryz.prog u = .ok (.enter f args) u) (Q : Value → World → Prop)
    (H : Hid (Calls Tryz.prog f #[.agg cs.toArray, .int .u64 s, .slice a n cp] w fun e w' => Hid (∃ y k d, e = .returned (.slice y k d) ∧ Q (.slice y k d) w'))) :
    Calls Tryz.prog 13 #[.pointer (some ⟨c, 0, none⟩), .int .u64 s, .slice a n cp] w fun e w' => Hid (∃ y k d, e = .returned (.tuple #[.slice y k d, .int .i64 0]) ∧ Q (.slice y k d) w') := by
  have HM : Hid (Calls Tryz.prog 30 #[.pointer (some ⟨c, 0, none⟩), .int .i64 (n : Nat)] w fun e w' => e = .returned (.int .i64 0) ∧ w' = w) := may_ok c sh n st w h0 h1 h6 hn hm hs hst
  clear h0 h1 h6 hn hm hs hst
  go_enter Tryz.func13, Tryz.ntmps13
  go_wp2_with (first
    | (go_at_call 30; refine HM.out.mono ?_; rintro e1 w1 ⟨rfl, hw⟩; obtain rfl := hw.symm; clear hw HM)
    | (refine H.out.mono ?_; intro e2 w2 hh; obtain ⟨y, k, d, rfl, hq⟩ := hh.out; have HQ : Hid (Q (.slice y k d) w2) := hq; clear hh hq H))
  go_ret2
  exact ⟨y, k, d, rfl, HQ.out⟩
end Go.Proofs.YtehlppaidgkpaaaGreatDoor
namespace Go.Proofs.YtehlppaidgkpaaaGreatDoor
open Go.RowKit
set_option linter.unusedVariables false
set_option linter.unusedSimpArgs false
/-- What hangs on blocks from A on alone. -/
def GenP (Ψ : Nat → Nat → World → Prop) : Prop := ∀ A c u u', Ψ A c u → (∀ b, A ≤ b → b < u.heap.size → u'.heap[b]? = u.heap[b]?) → u.heap.size ≤ u'.heap.size → Ψ A c u'
def NewG (w : World) (Ψ : Nat → Nat → World → Prop) (e : Ending) (w' : World) : Prop :=
  ∃ c, e = .returned (.tuple #[.pointer (some ⟨c, 0, none⟩), .int .i64 0]) ∧ Ψ w.heap.size c w' ∧ Below w.heap.size w w'
/-- What made answers. -/
def MadeG (w : World) (Ψ : Nat → Nat → World → Prop) (e : Ending) (w' : World) : Prop :=
  ∃ A c r, e = .returned (.tuple #[.pointer (some ⟨c, 0, none⟩), .pointer (some ⟨r, 0, none⟩), .bool true]) ∧ w.heap.size ≤ A ∧ Ψ A c w' ∧ Below w.heap.size w w'
set_option maxHeartbeats 3200000 in
set_option maxRecDepth 100000 in
/-- Pick.made. -/
theorem made_gen (nm : Int) (j : Nat) (v : Value) (bs : List Int) (w : World) (G o cp : Nat) (Ψ : Nat → Nat → World → Prop) (hΨ : Hid (GenP Ψ)) (hD : MdAt w G o cp) (hj : j < 52) (hc : IntKind.u64.wrap nm % 52 = (j : Int)) (hv : View w v bs)
    (H21 : Hid (∀ u x, Below w.heap.size w u → View u x (kyL bs (kyN j)) → Calls Tryz.prog 26 #[.string (spN j), x] u fun e u' => NewG u Ψ e u'))
    (H22 : Hid (∀ u x, Below w.heap.size w u → View u x (kyL bs (kyN j)) → Calls Tryz.prog 28 #[.string (spN j), x] u fun e u' => RnP u e u')) :
    Calls Tryz.prog 10 #[.agg #[.int .i64 nm, v]] w fun e w' => MadeG w Ψ e w' := by
  obtain ⟨M, T, aa, hrow⟩ := rw_size j hj
  have hky : kyN j ≤ 1000 := by
    rcases sx_cases j hj with rfl | ⟨i, k, hi, hk, rfl⟩
    · decide
    · rw [kyN_lit i k hk]
      have : mK k * (16 + 8 * i) ≤ 2 * 32 := Nat.mul_le_mul (mK_le k) (by omega)
      have := mM_le k
      omega
  obtain ⟨zs, HZS⟩ : ∃ zs, Hid (kyL bs (kyN j) = zs) := ⟨_, rfl⟩
  obtain ⟨S, HSS⟩ : ∃ S, Hid (spN j = S) := ⟨_, rfl⟩
  have hlz : zs.length = kyN j := by rw [← HZS.out, kyL_len]
  obtain ⟨kz, HKZ⟩ : ∃ kz, Hid (kyN j = kz) := ⟨_, rfl⟩
  have H52 : Hid (∀ u, Below w.heap.size w u → Calls Tryz.prog 27 #[.agg #[.int .i64 nm, v]] u fun e u' => Hid (e = .returned (.agg #[.string S, .string M, .string T, .int .i64 aa, .int .i64 (kz : Nat)]) ∧ Below u.heap.size u u')) := fun u hu => by
    obtain ⟨va, vc, rfl, _⟩ := id hv
    have q := prow_ok nm j va bs.length vc u G o cp (hD.below hu) hj hc
    rw [hrow, HSS.out, HKZ.out] at q
    exact q
  have H35 : Hid (∀ u, Below w.heap.size w u → Calls Tryz.prog 18 #[.agg #[.int .i64 nm, v]] u fun e u' => Hid (∃ y d, e = .returned (.slice y kz d) ∧ View u' (.slice y kz d) zs ∧ Below u.heap.size u u')) := fun u hu => by
    have q := pkey_ok nm j v bs u G o cp (hD.below hu) hj hc (hv.below hu)
    rw [HZS.out, HKZ.out] at q
    exact q
  rw [HZS.out, HSS.out] at H21 H22
  rw [HKZ.out] at hlz hky
  obtain ⟨va, vn, vc, rfl⟩ : ∃ a n c, v = .slice a n c := by obtain ⟨a, c, e, _⟩ := hv; exact ⟨_, _, _, e⟩
  have HLZ : Hid (zs.length = kz ∧ kz ≤ 1000) := ⟨hlz, hky⟩
  have hf0 := fun u => field0 S M T aa (kz : Nat) u
  clear hD hj hc hv hrow hky hlz
  obtain ⟨w1, hw1⟩ : ∃ w1, w1 = w.alloc (.cells #[.int .i64 nm, .slice va vn vc] 24) := ⟨_, rfl⟩
  have HB1 : Hid (Bx w1 w.heap.size 24 [.int .i64 nm, .slice va vn vc] ∧ Below w.heap.size w w1) := by rw [hw1]; exact ⟨Bx.new w 24 _, (Below.refl _ _).alloc (Nat.le_refl _) _⟩
  go_enter Tryz.func10, Tryz.ntmps10
  go_upto_region 1 with fail
  rw [← hw1]
  clear hw1
  obtain ⟨m, HM⟩ : ∃ m, Hid (w.heap.size = m) := ⟨_, rfl⟩
  rw [HM.out] at HB1 H52 H35 H21 H22 ⊢
  go_upto_region 2 with (first
    | (refine wpList_load_mid (by rfl) 24 (.tmp 1) (by rfl) m 0 (by rfl) [.int .i64 nm, .slice va vn vc] _ HB1.out.1.range Tryz.underlying24 rfl (by kernel_rfl) ?_)
    | (go_at_call 18; refine (H35.out _ HB1.out.2).mono ?_; intro e2 w2 hh; obtain ⟨y2, d2, rfl, hv2, hb⟩ := hh.out; have HB2 : Hid (Bx w2 m 24 [.int .i64 nm, .slice va vn vc] ∧ Below m w w2 ∧ View w2 (.slice y2 kz d2) zs) := ⟨HB1.out.1.below hb, HB1.out.2.trans (hb.mono (by have := HB1.out.1.lt; omega)), hv2⟩; clear hh hb hv2)
    | (go_at_call 12; refine (copy_any _ zs _ (by have := HLZ.out; omega) HB2.out.2.2).mono ?_; rintro e3 w3 ⟨v3, rfl, hm3, hb⟩; have HB3 : Hid (Bx w3 m 24 [.int .i64 nm, .slice va vn vc] ∧ Below m w w3 ∧ Marked w2.heap.size w3 v3 zs ∧ m < w2.heap.size) := ⟨HB2.out.1.below hb, HB2.out.2.1.trans (hb.mono (by have := HB2.out.1.lt; omega)), hm3, HB2.out.1.lt⟩; obtain ⟨xg, xc, rfl⟩ : ∃ g c, v3 = .slice (some ⟨g, 0, none⟩) zs.length c := (by obtain ⟨g, c, q, _⟩ := hm3; exact ⟨g, c, q⟩); clear hm3 hb))
  rw [HLZ.out.1] at HB3 ⊢
  go_upto_region 3 with (first
    | (refine wpList_load_mid (by rfl) 24 (.tmp 1) (by rfl) m 0 (by rfl) [.int .i64 nm, .slice va vn vc] _ HB3.out.1.range Tryz.underlying24 rfl (by kernel_rfl) ?_)
    | (go_at_call 27; refine (H52.out _ HB3.out.2.1).mono ?_; intro e4 w4 hh; obtain ⟨rfl, hb⟩ := hh.out; have HB4 : Hid (Bx w4 m 24 [.int .i64 nm, .slice va vn vc] ∧ Below m w w4 ∧ Marked w2.heap.size w4 (.slice (some ⟨xg, 0, none⟩) kz xc) zs) := ⟨HB3.out.1.below hb, HB3.out.2.1.trans (hb.mono (by have := HB3.out.1.lt; omega)), HB3.out.2.2.1.kept hb.block⟩; clear hh hb)
    | (go_at_call 26; refine (H21.out _ _ HB4.out.2.1 HB4.out.2.2.view).mono ?_; rintro e5 w5 ⟨c, rfl, hp5, hb⟩; have HB5 : Hid (Bx w5 m 24 [.int .i64 nm, .slice va vn vc] ∧ Below m w w5 ∧ Marked w2.heap.size w5 (.slice (some ⟨xg, 0, none⟩) kz xc) zs) := ⟨HB4.out.1.below hb, HB4.out.2.1.trans (hb.mono (by have := HB4.out.1.lt; omega)), HB4.out.2.2.kept hb.block⟩; have HC5 : Hid (Ψ w4.heap.size c w5 ∧ xg < w4.heap.size ∧ m < w4.heap.size) := ⟨hp5, (by obtain ⟨g, cc, q, ho⟩ := HB4.out.2.2; injection q with q1 q2 q3; injection q1 with q1; injection q1 with q1; subst q1; exact (ownsRow_lt ho rfl).2), HB4.out.1.lt⟩; clear hp5 hb))
  have s0 : w5.cell? ⟨m, 0, none⟩ = some (.int .i64 nm) := HB5.out.1.cell 0 _ rfl
  have s1 : w5.cell? ⟨m, 1, none⟩ = some (.slice va vn vc) := HB5.out.1.cell 1 _ rfl
  have K52 : Hid (Calls Tryz.prog 27 #[.agg #[.int .i64 nm, .slice va vn vc]] w5.drew fun e u' => Hid (e = .returned (.agg #[.string S, .string M, .string T, .int .i64 aa, .int .i64 (kz : Nat)]) ∧ Below w5.heap.size w5 u')) := (H52.out w5.drew HB5.out.2.1.drew).mono fun e u' hh => ⟨hh.out.1, (Below.refl _ _).drew.trans hh.out.2⟩
  go_region_held3 (fun u => u.cell? ⟨m, 0, none⟩ = some (.int .i64 nm) ∧ u.cell? ⟨m, 1, none⟩ = some (.slice va vn vc)) (first | exact ⟨s0, s1⟩ | exact hS6 | exact hS7 | exact hS8 | go_keep)
    (first
      | (go_at_call 27; refine K52.out.mono ?_; intro e6 w6 hh; obtain ⟨rfl, hb6⟩ := hh.out; have HB6 : Hid (Below w5.heap.size w5 w6) := hb6; have hX6 := HB5.out.1.below hb6; have hS6 : w6.cell? ⟨m, 0, none⟩ = some (.int .i64 nm) ∧ w6.cell? ⟨m, 1, none⟩ = some (.slice va vn vc) := ⟨hX6.cell 0 _ rfl, hX6.cell 1 _ rfl⟩; clear hh hb6 hX6)
      | (go_at_call 18; refine (H35.out w6 (HB5.out.2.1.trans (HB6.out.mono (by have := HB5.out.1.lt; omega)))).mono ?_; intro e7 w7 hh; obtain ⟨y7, d7, rfl, hv7, hb7⟩ := hh.out; have HB7 : Hid (Below w5.heap.size w5 w7 ∧ View w7 (.slice y7 kz d7) zs) := ⟨HB6.out.trans (hb7.mono HB6.out.size), hv7⟩; have hX7 := HB5.out.1.below HB7.out.1; have hS7 : w7.cell? ⟨m, 0, none⟩ = some (.int .i64 nm) ∧ w7.cell? ⟨m, 1, none⟩ = some (.slice va vn vc) := ⟨hX7.cell 0 _ rfl, hX7.cell 1 _ rfl⟩; clear hh hb7 hv7 hX7)
      | (go_at_call 28; refine (H22.out w7 _ (HB5.out.2.1.trans (HB7.out.1.mono (by have := HB5.out.1.lt; omega))) HB7.out.2).mono ?_; rintro e8 w8 ⟨rp, rfl, hb8⟩; have HB8 : Hid (Below w5.heap.size w5 w8) := HB7.out.1.trans (hb8.mono HB7.out.1.size); have hX8 := HB5.out.1.below HB8.out; have hS8 : w8.cell? ⟨m, 0, none⟩ = some (.int .i64 nm) ∧ w8.cell? ⟨m, 1, none⟩ = some (.slice va vn vc) := ⟨hX8.cell 0 _ rfl, hX8.cell 1 _ rfl⟩; clear hb8 hX8))
  have HB9 : Hid (Bx w8 m 24 [.int .i64 nm, .slice va vn vc] ∧ Below m w w8 ∧ Marked w2.heap.size w8 (.slice (some ⟨xg, 0, none⟩) kz xc) zs) := ⟨HB5.out.1.below HB8.out, HB5.out.2.1.trans (HB8.out.mono (by have := HB5.out.1.lt; omega)), HB5.out.2.2.kept HB8.out.block⟩
  have HC9 : Hid (Ψ w4.heap.size c w8 ∧ xg < w4.heap.size ∧ m < w4.heap.size) := ⟨hΨ.out _ _ _ _ HC5.out.1 (fun b _ hb => HB8.out.block b hb) HB8.out.size, HC5.out.2⟩
  clear s0 s1 hS6 hS7 hS8 HB5 HC5 K52
  go_upto_region 7 with (first
    | (refine wpList_load_mid (by rfl) 24 (.tmp 1) (by rfl) m 0 (by rfl) [.int .i64 nm, .slice va vn vc] _ HB9.out.1.range Tryz.underlying24 rfl (by kernel_rfl) ?_)
    | (go_at_call 18; refine (H35.out _ HB9.out.2.1).mono ?_; intro e9 w9 hh; obtain ⟨y9, d9, rfl, hv9, hb⟩ := hh.out; have HB10 : Hid (Below w8.heap.size w8 w9 ∧ View w9 (.slice y9 kz d9) zs) := ⟨hb, hv9⟩; clear hh hb hv9)
    | (go_at_call 29; refine (whole_any _ _ zs w2.heap.size _ (HB9.out.2.2.kept HB10.out.1.block) HB10.out.2).mono ?_; rintro e10 w10 ⟨rfl, hw⟩; have HB11 : Hid (Below w8.heap.size w8 w10) := (by obtain ⟨q, rfl⟩ := hw; exact Below.drewN HB10.out.1 q); clear hw))
  have HI : Hid (∃ ys : List Int, ys.length = kz + 70 ∧ w10.ownsRow w2.heap.size 5 1 (.slice (some ⟨xg, 0, none⟩) (kz + 70) xc) (kz + 70) (cellsU8 ys)) := by
    obtain ⟨g, cc, q, ho⟩ := HB9.out.2.2.kept HB11.out.block
    injection q with q1 q2 q3
    injection q1 with q1
    injection q1 with q1
    subst q1 q3
    rw [HLZ.out.1] at ho
    exact ⟨zs ++ marks 70, by simp [marks, HLZ.out.1], ho⟩
  have HC10 : Hid (Ψ w4.heap.size c w10 ∧ Below m w w10) := ⟨hΨ.out _ _ _ _ HC9.out.1 (fun b _ hb => HB11.out.block b hb) HB11.out.size, HB9.out.2.1.trans (HB11.out.mono (by have := HB9.out.1.lt; omega))⟩
  have HXG : Hid (m ≤ xg) := by
    obtain ⟨g, cc, q, ho⟩ := HB9.out.2.2
    injection q with q1 q2 q3
    injection q1 with q1
    injection q1 with q1
    subst q1
    exact Nat.le_trans (Nat.le_of_lt HB3.out.2.2.2) (ownsRow_lt ho rfl).1
  have hkz : kz ≤ 1000 := HLZ.out.2
  go_loopw [10] (fun vi wr => ∃ k : Nat, vi = .int .i64 (k : Nat) ∧ k ≤ kz ∧ Hid ((∃ ys : List Int, ys.length = kz + 70 ∧ wr.ownsRow w2.heap.size 5 1 (.slice (some ⟨xg, 0, none⟩) (kz + 70) xc) (kz + 70) (cellsU8 ys)) ∧ Ψ w4.heap.size c wr ∧ Below m w wr)) (fun vi _ => kz - (intOf vi).toNat)
  case atStart => exact ⟨0, rfl, by omega, HI.out, HC10.out⟩
  case round => as_aux_lemma =>
    obtain ⟨k, rfl, hk, HR⟩ := hrel
    clear HI HC10
    by_cases hlt : k < kz
    · obtain ⟨ys, hyl, hyo⟩ := HR.out.1
      obtain ⟨z, HZ⟩ : ∃ z, Hid (ys.getD k 0 = z) := ⟨_, rfl⟩
      have c0 : wr.cell? ⟨xg, k, none⟩ = some (.int .u8 z) := by
        have hk2 : k < ys.length := by omega
        have q := World.ownsRow.cells hyo (g := xg) rfl k (.int .u8 z) (by simp [cellsU8, List.getElem?_map, List.getElem?_eq_getElem hk2, ← HZ.out, List.getD, List.getElem?_eq_getElem hk2])
        rw [Addr.add_lit, Nat.zero_add] at q
        exact q
      have f0 : wr.frozen? ⟨xg, k, none⟩ = false := hyo.frozenAt k
      have g0 : (0 : Int) ≤ (k : Int) := by omega
      have g1 : (k : Int) < (kz : Int) := by omega
      have HST : Hid (∀ x : Int, (∃ ys : List Int, ys.length = kz + 70 ∧ (wr.setCell ⟨xg, k, none⟩ (.int .u8 x)).ownsRow w2.heap.size 5 1 (.slice (some ⟨xg, 0, none⟩) (kz + 70) xc) (kz + 70) (cellsU8 ys)) ∧ Ψ w4.heap.size c (wr.setCell ⟨xg, k, none⟩ (.int .u8 x)) ∧ Below m w (wr.setCell ⟨xg, k, none⟩ (.int .u8 x))) := fun x => by
        obtain ⟨p1, p2⟩ := hyo.stored k (.int .u8 x)
        have hne : ∀ b, w4.heap.size ≤ b → (wr.setCell ⟨xg, k, none⟩ (.int .u8 x)).heap[b]? = wr.heap[b]? := fun b hb => Below.heap_setCell _ ⟨xg, k, none⟩ _ b (by show b ≠ xg; have := HC9.out.2.1; omega)
        refine ⟨⟨ys.set k x, by simp [hyl], ?_⟩, hΨ.out _ _ _ _ HR.out.2.1 (fun b hb _ => hne b hb) p2.size, HR.out.2.2.setCell HXG.out _⟩
        rw [show cellsU8 (ys.set k x) = (cellsU8 ys).set k (.int .u8 x) by simp [cellsU8, List.map_set]]
        exact p1
      clear hyo
      go_wp2
      exact ⟨⟨k + 1, by simp, by omega, HST.out _⟩, by simp [intOf]; omega⟩
    · have g1 : ¬ (k : Int) < (kz : Int) := by omega
      go_wp2_with (go_at_call 14; refine (num_ok _ _).mono ?_; rintro e13 x13 ⟨rfl, hw⟩; obtain rfl := hw.symm; clear hw)
      go_ret3
      refine ⟨w4.heap.size, c, rp, rfl, ?_, HR.out.2.1, ?_⟩
      · have := HC9.out.2.2; have := HM.out; omega
      · first | exact HR.out.2.2 | (rw [HM.out]; exact HR.out.2.2)
end Go.Proofs.YtehlppaidgkpaaaGreatDoor
