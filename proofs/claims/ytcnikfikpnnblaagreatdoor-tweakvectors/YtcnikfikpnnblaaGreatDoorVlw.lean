import Derived.Test.YtcnikfikpnnblaaGreatDoorVnm
import Derived.Test.YtcnikfikpnnblaaGreatDoorPart40
import Derived.Lib.Strings
namespace Go.Proofs.YtcnikfikpnnblaaGreatDoor
open Go.RowKit
set_option linter.unusedVariables false
set_option linter.unusedSimpArgs false
set_option maxRecDepth 100000
def zs5 : List Int := [37, 98, 147, 71, 88, 146, 66, 118, 29, 49, 248, 38, 186, 75, 117, 123]
def zs6 : List Int := [79, 79, 149, 102, 140, 131, 223, 182, 64, 23, 98, 187, 45, 1, 162, 98]
def zs7 : List Int := [209, 162, 77, 221, 39, 33, 208, 6, 187, 228, 95, 32, 211, 201, 243, 98]
def ou5 : List Int := [247, 163, 180, 123, 132, 97, 25, 250, 229, 183, 134, 108, 245, 229, 183, 126]
def th5T : ByteArray := ⟨#[50, 53, 54, 50, 57, 51, 52, 55, 53, 56, 57, 50, 52, 50, 55, 54, 49, 100, 51, 49, 102, 56, 50, 54, 98, 97, 52, 98, 55, 53, 55, 98]⟩
theorem th5H : HexT th5T 16 zs5 := ⟨rfl, by decide +kernel, by decide +kernel, rfl, by decide, by decide, by
  have h : ∀ i : Fin 16, 0 ≤ zs5.getD i.1 0 ∧ zs5.getD i.1 0 < 256 := by decide +kernel
  intro i
  by_cases hi : i < 16
  · exact h ⟨i, hi⟩
  · rw [List.getD_eq_getElem?_getD, List.getElem?_eq_none (by show zs5.length ≤ i; rw [show zs5.length = 16 from rfl]; omega)]; simp⟩
def tx6T : ByteArray := ⟨#[52, 102, 52, 102, 57, 53, 54, 54, 56, 99, 56, 51, 100, 102, 98, 54, 52, 48, 49, 55, 54, 50, 98, 98, 50, 100, 48, 49, 97, 50, 54, 50]⟩
theorem tx6H : HexT tx6T 16 zs6 := ⟨rfl, by decide +kernel, by decide +kernel, rfl, by decide, by decide, by
  have h : ∀ i : Fin 16, 0 ≤ zs6.getD i.1 0 ∧ zs6.getD i.1 0 < 256 := by decide +kernel
  intro i
  by_cases hi : i < 16
  · exact h ⟨i, hi⟩
  · rw [List.getD_eq_getElem?_getD, List.getElem?_eq_none (by show zs6.length ≤ i; rw [show zs6.length = 16 from rfl]; omega)]; simp⟩
def ty7T : ByteArray := ⟨#[100, 49, 97, 50, 52, 100, 100, 100, 50, 55, 50, 49, 100, 48, 48, 54, 98, 98, 101, 52, 53, 102, 50, 48, 100, 51, 99, 57, 102, 51, 54, 50]⟩
theorem ty7H : HexT ty7T 16 zs7 := ⟨rfl, by decide +kernel, by decide +kernel, rfl, by decide, by decide, by
  have h : ∀ i : Fin 16, 0 ≤ zs7.getD i.1 0 ∧ zs7.getD i.1 0 < 256 := by decide +kernel
  intro i
  by_cases hi : i < 16
  · exact h ⟨i, hi⟩
  · rw [List.getD_eq_getElem?_getD, List.getElem?_eq_none (by show zs7.length ≤ i; rw [show zs7.length = 16 from rfl]; omega)]; simp⟩
theorem ou5B : AllBytes ou5 := by
  have h : ∀ i : Fin 16, 0 ≤ ou5.getD i.1 0 ∧ ou5.getD i.1 0 < 256 := by decide +kernel
  intro i
  by_cases hi : i < 16
  · exact h ⟨i, hi⟩
  · rw [List.getD_eq_getElem?_getD, List.getElem?_eq_none (by show ou5.length ≤ i; rw [show ou5.length = 16 from rfl]; omega)]; simp

theorem fill2 (c0 c1 c2 c3 c4 c5 c6 c7 c8 c9 c10 c11 c12 c13 c14 c15 d0 d1 d2 d3 d4 d5 d6 d7 d8 d9 d10 d11 d12 d13 d14 d15 : Value) : Instr.fill (fun i => some (i * 16, 16)) ((Array.range (2 * 16)).map ((Value.agg ZZ.toArray).cells[· % (Value.agg ZZ.toArray).cells.size]!)) [(0, .agg #[c0, c1, c2, c3, c4, c5, c6, c7, c8, c9, c10, c11, c12, c13, c14, c15]), (1, .agg #[d0, d1, d2, d3, d4, d5, d6, d7, d8, d9, d10, d11, d12, d13, d14, d15])] = some #[c0, c1, c2, c3, c4, c5, c6, c7, c8, c9, c10, c11, c12, c13, c14, c15, d0, d1, d2, d3, d4, d5, d6, d7, d8, d9, d10, d11, d12, d13, d14, d15] := by kernel_rfl
theorem slice2 (w : World) (c0 c1 c2 c3 c4 c5 c6 c7 c8 c9 c10 c11 c12 c13 c14 c15 d0 d1 d2 d3 d4 d5 d6 d7 d8 d9 d10 d11 d12 d13 d14 d15 : Value) : (Instr.buildSlice 77 2 #[(0, .agg #[c0, c1, c2, c3, c4, c5, c6, c7, c8, c9, c10, c11, c12, c13, c14, c15]), (1, .agg #[d0, d1, d2, d3, d4, d5, d6, d7, d8, d9, d10, d11, d12, d13, d14, d15])]).run Tryz.prog w = .ok (.slice (some ⟨w.heap.size, 0, none⟩) 2 2) (w.alloc (.cells #[c0, c1, c2, c3, c4, c5, c6, c7, c8, c9, c10, c11, c12, c13, c14, c15, d0, d1, d2, d3, d4, d5, d6, d7, d8, d9, d10, d11, d12, d13, d14, d15] 29)) := by
  obtain ⟨i, hi, hz0, hz1, hz2⟩ := info_parts Tryz.info29b
  refine run_buildSlice w 77 29 2 _ _ i _ Tryz.underlying77b hi hz0 (by rw [hz1]; decide) (by rw [hz1]; decide) ?_
  rw [hz1]; exact fill2 _ _ _ _ _ _ _ _ _ _ _ _ _ _ _ _ _ _ _ _ _ _ _ _ _ _ _ _ _ _ _ _
theorem slice2B (w : World) (a b : BitVec 128) : (Instr.buildSlice 77 2 #[(0, .agg (Fd.BL a).toArray), (1, .agg (Fd.BL b).toArray)]).run Tryz.prog w = .ok (.slice (some ⟨w.heap.size, 0, none⟩) 2 2) (w.alloc (.cells (Fd.BL a ++ Fd.BL b).toArray 29)) := slice2 w _ _ _ _ _ _ _ _ _ _ _ _ _ _ _ _ _ _ _ _ _ _ _ _ _ _ _ _ _ _ _ _
theorem fold32 (c0 c1 c2 c3 c4 c5 c6 c7 c8 c9 c10 c11 c12 c13 c14 c15 d0 d1 d2 d3 d4 d5 d6 d7 d8 d9 d10 d11 d12 d13 d14 d15 : Value) : List.foldl (fun (cs : Array Value) (x : Value × Nat) => cs.setIfInBounds (16 + x.snd) x.fst) (List.foldl (fun (cs : Array Value) (x : Value × Nat) => cs.setIfInBounds x.snd x.fst) #[.int .u8 0, .int .u8 0, .int .u8 0, .int .u8 0, .int .u8 0, .int .u8 0, .int .u8 0, .int .u8 0, .int .u8 0, .int .u8 0, .int .u8 0, .int .u8 0, .int .u8 0, .int .u8 0, .int .u8 0, .int .u8 0, .int .u8 0, .int .u8 0, .int .u8 0, .int .u8 0, .int .u8 0, .int .u8 0, .int .u8 0, .int .u8 0, .int .u8 0, .int .u8 0, .int .u8 0, .int .u8 0, .int .u8 0, .int .u8 0, .int .u8 0, .int .u8 0] [c0, c1, c2, c3, c4, c5, c6, c7, c8, c9, c10, c11, c12, c13, c14, c15].zipIdx) [d0, d1, d2, d3, d4, d5, d6, d7, d8, d9, d10, d11, d12, d13, d14, d15].zipIdx = #[c0, c1, c2, c3, c4, c5, c6, c7, c8, c9, c10, c11, c12, c13, c14, c15, d0, d1, d2, d3, d4, d5, d6, d7, d8, d9, d10, d11, d12, d13, d14, d15] := by kernel_rfl
theorem fold32s (c0 c1 c2 c3 c4 c5 c6 c7 c8 c9 c10 c11 c12 c13 c14 c15 : Value) : (List.foldl (fun (cs : Array Value) (x : Value × Nat) => cs.setIfInBounds x.snd x.fst) #[.int .u8 0, .int .u8 0, .int .u8 0, .int .u8 0, .int .u8 0, .int .u8 0, .int .u8 0, .int .u8 0, .int .u8 0, .int .u8 0, .int .u8 0, .int .u8 0, .int .u8 0, .int .u8 0, .int .u8 0, .int .u8 0, .int .u8 0, .int .u8 0, .int .u8 0, .int .u8 0, .int .u8 0, .int .u8 0, .int .u8 0, .int .u8 0, .int .u8 0, .int .u8 0, .int .u8 0, .int .u8 0, .int .u8 0, .int .u8 0, .int .u8 0, .int .u8 0] [c0, c1, c2, c3, c4, c5, c6, c7, c8, c9, c10, c11, c12, c13, c14, c15].zipIdx).size = 32 := by kernel_rfl
theorem fold32B (a b : BitVec 128) : List.foldl (fun (cs : Array Value) (x : Value × Nat) => cs.setIfInBounds (16 + x.snd) x.fst) (List.foldl (fun (cs : Array Value) (x : Value × Nat) => cs.setIfInBounds x.snd x.fst) #[.int .u8 0, .int .u8 0, .int .u8 0, .int .u8 0, .int .u8 0, .int .u8 0, .int .u8 0, .int .u8 0, .int .u8 0, .int .u8 0, .int .u8 0, .int .u8 0, .int .u8 0, .int .u8 0, .int .u8 0, .int .u8 0, .int .u8 0, .int .u8 0, .int .u8 0, .int .u8 0, .int .u8 0, .int .u8 0, .int .u8 0, .int .u8 0, .int .u8 0, .int .u8 0, .int .u8 0, .int .u8 0, .int .u8 0, .int .u8 0, .int .u8 0, .int .u8 0] (Fd.BL a).zipIdx) (Fd.BL b).zipIdx = (Fd.BL a ++ Fd.BL b).toArray := fold32 _ _ _ _ _ _ _ _ _ _ _ _ _ _ _ _ _ _ _ _ _ _ _ _ _ _ _ _ _ _ _ _
def bH : BitVec 128 := 164104078143212204644065238677877645861#128
def bX : BitVec 128 := 131105519583673595789072531873192038223#128
def bY : BitVec 128 := 131530165215037791570573044998824895185#128
def bP : BitVec 128 := 168437581910297571225116493124170195959#128
def fXY : Nat → BitVec 128
  | 0 => bX
  | _ => bY
theorem pv_lit : Fd.pvF bH fXY 2 = bP := by decide +kernel
theorem blks2 (u : World) : Fd.Blks (u.alloc (.cells (Fd.BL bX ++ Fd.BL bY).toArray 29)) (some ⟨u.heap.size, 0, none⟩) 2 fXY := by
  refine .inr ⟨u.heap.size, 0, rfl, by simp, fun i hi j v hv => ?_⟩
  have hj : j < 16 := by have := (List.getElem?_eq_some_iff.1 hv).1; rw [Fd.BL_length] at this; exact this
  have q := Bx.new u 29 (Fd.BL bX ++ Fd.BL bY)
  refine q.cell _ _ ?_
  match i, hi with
  | 0, _ =>
    rw [List.getElem?_append_left (by rw [Fd.BL_length]; omega), show 0 + 0 * 16 + j = j by omega]; exact hv
  | 1, _ =>
    rw [List.getElem?_append_right (by rw [Fd.BL_length]; omega), Fd.BL_length, show 0 + 1 * 16 + j - 16 = j by omega]; exact hv
theorem sx11 : sxN 0 11 = ⟨#[97, 101, 115, 49, 50, 56, 45, 120, 116, 115, 45, 112, 108, 97, 105, 110, 54, 52]⟩ := by kernel_rfl
theorem sx00 : sxN 0 0 = ⟨#[97, 101, 115, 49, 50, 56, 45, 101, 99, 98]⟩ := by kernel_rfl
theorem xts_first : ∀ j : Fin 12, spN j.1 ≠ sxN 0 11 := by decide +kernel
theorem ecb_first : ∀ j : Fin 1, spN j.1 ≠ sxN 0 0 := by decide +kernel
theorem seal1 (S : ByteArray) (hS : strOfNums (Hx.hexBytes ou1) = S) (w : World) (hP : Pow w) (hrc : RC w) : Calls Tryz.prog 9 #[.string ⟨#[97, 101, 115, 49, 50, 56, 45, 120, 116, 115, 45, 112, 108, 97, 105, 110, 54, 52]⟩, .string tk1T, .int .u64 0, .string tp1T] w fun e w' => Hid (e = .returned (.string S) ∧ Below w.heap.size w w') := by
  have q := sealed_gen (sxN 0 11) tk1T tp1T kz1 zs1 ou1 (0 : Nat) 32 32 w tk1H tp1H ou1B rfl (slX w kz1 zs1 ou1 0 32 (by decide) hP hrc (fun j hj => xts_first ⟨j, hj⟩) rfl tk1H.bytes rfl (by decide) (by decide) tp1H.bytes rfl v1o)
  rw [sx11, hS] at q
  exact q
theorem seal2 (S : ByteArray) (hS : strOfNums (Hx.hexBytes ou2) = S) (w : World) (hP : Pow w) (hrc : RC w) : Calls Tryz.prog 9 #[.string ⟨#[97, 101, 115, 49, 50, 56, 45, 120, 116, 115, 45, 112, 108, 97, 105, 110, 54, 52]⟩, .string tk2T, .int .u64 219902325555, .string tp2T] w fun e w' => Hid (e = .returned (.string S) ∧ Below w.heap.size w w') := by
  have q := sealed_gen (sxN 0 11) tk2T tp2T kz2 zs2 ou2 (219902325555 : Nat) 32 32 w tk2H tp2H ou2B rfl (slX w kz2 zs2 ou2 219902325555 32 (by decide) hP hrc (fun j hj => xts_first ⟨j, hj⟩) rfl tk2H.bytes rfl (by decide) (by decide) tp2H.bytes rfl v2o)
  rw [sx11, hS] at q
  exact q
theorem seal3 (S : ByteArray) (hS : strOfNums (Hx.hexBytes ou3) = S) (w : World) (hP : Pow w) (hrc : RC w) : Calls Tryz.prog 9 #[.string ⟨#[97, 101, 115, 49, 50, 56, 45, 120, 116, 115, 45, 112, 108, 97, 105, 110, 54, 52]⟩, .string tk3T, .int .u64 78187493530, .string tp3T] w fun e w' => Hid (e = .returned (.string S) ∧ Below w.heap.size w w') := by
  have q := sealed_gen (sxN 0 11) tk3T tp3T kz3 zs3 ou3 (78187493530 : Nat) 32 17 w tk3H tp3H ou3B rfl (slX w kz3 zs3 ou3 78187493530 17 (by decide) hP hrc (fun j hj => xts_first ⟨j, hj⟩) rfl tk3H.bytes rfl (by decide) (by decide) tp3H.bytes rfl v3o)
  rw [sx11, hS] at q
  exact q
theorem seal4 (S : ByteArray) (hS : strOfNums (Hx.hexBytes ou4) = S) (w : World) (hP : Pow w) (hrc : RC w) : Calls Tryz.prog 9 #[.string ⟨#[97, 101, 115, 49, 50, 56, 45, 101, 99, 98]⟩, .string tk4T, .int .u64 9, .string tp4T] w fun e w' => Hid (e = .returned (.string S) ∧ Below w.heap.size w w') := by
  have q := sealed_gen (sxN 0 0) tk4T tp4T kz4 zs4 ou4 9 16 16 w tk4H tp4H ou4B rfl (slE w kz4 zs4 ou4 9 1 hP hrc rfl tk4H.bytes rfl (by decide) (by decide) tp4H.bytes rfl (fun j hj => ecb_first ⟨j, hj⟩) v4o)
  rw [sx00, hS] at q
  exact q
set_option maxHeartbeats 1600000 in
/-- The law. -/
theorem vectors_ok (w : World) (hP : Pow w) (hrc : RC w) : Calls Tryz.prog 3 #[] w fun e w' => Hid (e = .returned (.bool true) ∧ Below w.heap.size w w') := by
  have hpos : 3 < w.heap.size := World.block_lt_of_cell? w ⟨3, 0, none⟩ (hrc 0 (by decide))
  have HT : Hid (∀ u, Below w.heap.size w u → Pow u ∧ RC u) := fun u hu => ⟨hP.below hu, hrc.belowB hu hpos⟩
  obtain ⟨S1, HS1⟩ : ∃ S, Hid (strOfNums (Hx.hexBytes ou1) = S) := ⟨_, rfl⟩
  have hs1 : S1.toList = ([57, 49, 55, 99, 102, 54, 57, 101, 98, 100, 54, 56, 98, 50, 101, 99, 57, 98, 57, 102, 101, 57, 97, 51, 101, 97, 100, 100, 97, 54, 57, 50, 99, 100, 52, 51, 100, 50, 102, 53, 57, 53, 57, 56, 101, 100, 56, 53, 56, 99, 48, 50, 99, 50, 54, 53, 50, 102, 98, 102, 57, 50, 50, 101] : List UInt8) := by rw [← HS1.out, Lib.toList_data]; kernel_rfl
  obtain ⟨S2, HS2⟩ : ∃ S, Hid (strOfNums (Hx.hexBytes ou2) = S) := ⟨_, rfl⟩
  have hs2 : S2.toList = ([99, 52, 53, 52, 49, 56, 53, 101, 54, 97, 49, 54, 57, 51, 54, 101, 51, 57, 51, 51, 52, 48, 51, 56, 97, 99, 101, 102, 56, 51, 56, 98, 102, 98, 49, 56, 54, 102, 102, 102, 55, 52, 56, 48, 97, 100, 99, 52, 50, 56, 57, 51, 56, 50, 101, 99, 100, 54, 100, 51, 57, 52, 102, 48] : List UInt8) := by rw [← HS2.out, Lib.toList_data]; kernel_rfl
  obtain ⟨S3, HS3⟩ : ∃ S, Hid (strOfNums (Hx.hexBytes ou3) = S) := ⟨_, rfl⟩
  have hs3 : S3.toList = ([54, 99, 49, 54, 50, 53, 100, 98, 52, 54, 55, 49, 53, 50, 50, 100, 51, 100, 55, 53, 57, 57, 54, 48, 49, 100, 101, 55, 99, 97, 48, 57, 101, 100] : List UInt8) := by rw [← HS3.out, Lib.toList_data]; kernel_rfl
  obtain ⟨S4, HS4⟩ : ∃ S, Hid (strOfNums (Hx.hexBytes ou4) = S) := ⟨_, rfl⟩
  have hs4 : S4.toList = ([51, 97, 100, 55, 55, 98, 98, 52, 48, 100, 55, 97, 51, 54, 54, 48, 97, 56, 57, 101, 99, 97, 102, 51, 50, 52, 54, 54, 101, 102, 57, 55] : List UInt8) := by rw [← HS4.out, Lib.toList_data]; kernel_rfl
  obtain ⟨S5, HS5⟩ : ∃ S, Hid (strOfNums (Hx.hexBytes ou5) = S) := ⟨_, rfl⟩
  have hs5 : S5.toList = ([102, 55, 97, 51, 98, 52, 55, 98, 56, 52, 54, 49, 49, 57, 102, 97, 101, 53, 98, 55, 56, 54, 54, 99, 102, 53, 101, 53, 98, 55, 55, 101] : List UInt8) := by rw [← HS5.out, Lib.toList_data]; kernel_rfl
  have HH5 : Hid (∀ u, Calls Tryz.prog 10 #[.string ⟨#[50, 53, 54, 50, 57, 51, 52, 55, 53, 56, 57, 50, 52, 50, 55, 54, 49, 100, 51, 49, 102, 56, 50, 54, 98, 97, 52, 98, 55, 53, 55, 98]⟩] u fun e w' => Hid (∃ b c, e = .returned (.tuple #[.slice (some ⟨b, 0, none⟩) 16 c, .int .i64 0, .int .i64 0]) ∧ w'.ownsRow u.heap.size 5 1 (.slice (some ⟨b, 0, none⟩) 16 c) 16 (cellsU8 zs5) ∧ Below u.heap.size u w')) := fun u => fromHexT th5H u
  have HH6 : Hid (∀ u, Calls Tryz.prog 10 #[.string ⟨#[52, 102, 52, 102, 57, 53, 54, 54, 56, 99, 56, 51, 100, 102, 98, 54, 52, 48, 49, 55, 54, 50, 98, 98, 50, 100, 48, 49, 97, 50, 54, 50]⟩] u fun e w' => Hid (∃ b c, e = .returned (.tuple #[.slice (some ⟨b, 0, none⟩) 16 c, .int .i64 0, .int .i64 0]) ∧ w'.ownsRow u.heap.size 5 1 (.slice (some ⟨b, 0, none⟩) 16 c) 16 (cellsU8 zs6) ∧ Below u.heap.size u w')) := fun u => fromHexT tx6H u
  have HH7 : Hid (∀ u, Calls Tryz.prog 10 #[.string ⟨#[100, 49, 97, 50, 52, 100, 100, 100, 50, 55, 50, 49, 100, 48, 48, 54, 98, 98, 101, 52, 53, 102, 50, 48, 100, 51, 99, 57, 102, 51, 54, 50]⟩] u fun e w' => Hid (∃ b c, e = .returned (.tuple #[.slice (some ⟨b, 0, none⟩) 16 c, .int .i64 0, .int .i64 0]) ∧ w'.ownsRow u.heap.size 5 1 (.slice (some ⟨b, 0, none⟩) 16 c) 16 (cellsU8 zs7) ∧ Below u.heap.size u w')) := fun u => fromHexT ty7H u
  obtain ⟨LH, HLH⟩ : ∃ L, Hid (L = Fd.BL bH) := ⟨_, rfl⟩
  obtain ⟨LX, HLX⟩ : ∃ L, Hid (L = Fd.BL bX) := ⟨_, rfl⟩
  obtain ⟨LY, HLY⟩ : ∃ L, Hid (L = Fd.BL bY) := ⟨_, rfl⟩
  obtain ⟨LP, HLP⟩ : ∃ L, Hid (L = Fd.BL bP) := ⟨_, rfl⟩
  have HB5 : Hid (∀ u v, View u v zs5 → Calls Tryz.prog 12 #[v] u fun e w' => Hid (e = .returned (.agg LH.toArray) ∧ Below u.heap.size u w')) := fun u v hv => by
    have q := block_ok v zs5 u hv th5H.bytes
    rw [show cutV zs5 0 = bH by decide +kernel] at q
    rw [HLH.out]; exact q
  have HB6 : Hid (∀ u v, View u v zs6 → Calls Tryz.prog 12 #[v] u fun e w' => Hid (e = .returned (.agg LX.toArray) ∧ Below u.heap.size u w')) := fun u v hv => by
    have q := block_ok v zs6 u hv tx6H.bytes
    rw [show cutV zs6 0 = bX by decide +kernel] at q
    rw [HLX.out]; exact q
  have HB7 : Hid (∀ u v, View u v zs7 → Calls Tryz.prog 12 #[v] u fun e w' => Hid (e = .returned (.agg LY.toArray) ∧ Below u.heap.size u w')) := fun u v hv => by
    have q := block_ok v zs7 u hv ty7H.bytes
    rw [show cutV zs7 0 = bY by decide +kernel] at q
    rw [HLY.out]; exact q
  have hLX : LX.length = 16 := by rw [HLX.out]; exact Fd.BL_length _
  have hLY : LY.length = 16 := by rw [HLY.out]; exact Fd.BL_length _
  have hfo : List.foldl (fun (cs : Array Value) (x : Value × Nat) => cs.setIfInBounds (16 + x.snd) x.fst) (List.foldl (fun (cs : Array Value) (x : Value × Nat) => cs.setIfInBounds x.snd x.fst) #[.int .u8 0, .int .u8 0, .int .u8 0, .int .u8 0, .int .u8 0, .int .u8 0, .int .u8 0, .int .u8 0, .int .u8 0, .int .u8 0, .int .u8 0, .int .u8 0, .int .u8 0, .int .u8 0, .int .u8 0, .int .u8 0, .int .u8 0, .int .u8 0, .int .u8 0, .int .u8 0, .int .u8 0, .int .u8 0, .int .u8 0, .int .u8 0, .int .u8 0, .int .u8 0, .int .u8 0, .int .u8 0, .int .u8 0, .int .u8 0, .int .u8 0, .int .u8 0] LX.zipIdx) LY.zipIdx = (LX ++ LY).toArray := by rw [HLX.out, HLY.out]; exact fold32B _ _
  have hsz : ¬ (List.foldl (fun (cs : Array Value) (x : Value × Nat) => cs.setIfInBounds x.snd x.fst) #[.int .u8 0, .int .u8 0, .int .u8 0, .int .u8 0, .int .u8 0, .int .u8 0, .int .u8 0, .int .u8 0, .int .u8 0, .int .u8 0, .int .u8 0, .int .u8 0, .int .u8 0, .int .u8 0, .int .u8 0, .int .u8 0, .int .u8 0, .int .u8 0, .int .u8 0, .int .u8 0, .int .u8 0, .int .u8 0, .int .u8 0, .int .u8 0, .int .u8 0, .int .u8 0, .int .u8 0, .int .u8 0, .int .u8 0, .int .u8 0, .int .u8 0, .int .u8 0] LX.zipIdx).size < 32 := by rw [HLX.out]; exact fun h => absurd h (by rw [show (List.foldl (fun (cs : Array Value) (x : Value × Nat) => cs.setIfInBounds x.snd x.fst) #[.int .u8 0, .int .u8 0, .int .u8 0, .int .u8 0, .int .u8 0, .int .u8 0, .int .u8 0, .int .u8 0, .int .u8 0, .int .u8 0, .int .u8 0, .int .u8 0, .int .u8 0, .int .u8 0, .int .u8 0, .int .u8 0, .int .u8 0, .int .u8 0, .int .u8 0, .int .u8 0, .int .u8 0, .int .u8 0, .int .u8 0, .int .u8 0, .int .u8 0, .int .u8 0, .int .u8 0, .int .u8 0, .int .u8 0, .int .u8 0, .int .u8 0, .int .u8 0] (Fd.BL bX).zipIdx).size = 32 from fold32s _ _ _ _ _ _ _ _ _ _ _ _ _ _ _ _]; decide)
  have hbs : ∀ u : World, (Instr.buildSlice 77 2 #[(0, .agg LX.toArray), (1, .agg LY.toArray)]).run Tryz.prog u = .ok (.slice (some ⟨u.heap.size, 0, none⟩) 2 2) (u.alloc (.cells (LX ++ LY).toArray 29)) := fun u => by rw [HLX.out, HLY.out]; exact slice2B u bX bY
  have HPV : Hid (∀ u : World, Calls Tryz.prog 11 #[.agg LH.toArray, .slice (some ⟨u.heap.size, 0, none⟩) 2 2] (u.alloc (.cells (LX ++ LY).toArray 29)) fun e w' => e = .returned (.agg LP.toArray) ∧ Below u.heap.size u w') := fun u => by
    rw [HLH.out, HLX.out, HLY.out, HLP.out]
    refine (Fd.polyval_ok bH _ 2 2 fXY _ (blks2 u) (Nat.le_refl _) (by decide)).mono ?_
    rintro e w' ⟨rfl, hb⟩
    rw [pv_lit]
    exact ⟨rfl, ((Below.refl _ _).alloc (Nat.le_refl _) _).trans (hb.mono (by simp))⟩
  have HLN : Hid (LP.length = 16 ∧ (∀ x ∈ LP, x.oneCell' = true) ∧ LP = cellsU8 ou5) := by rw [HLP.out]; exact ⟨Fd.BL_length _, BL_one8 _, by kernel_rfl⟩
  have HHX : Hid (∀ u x t, Bx u x t LP → Calls Tryz.prog 13 #[.slice (some ⟨x, 0, none⟩) 16 16] u fun e w' => e = .returned (.string S5) ∧ Below u.heap.size u w') := fun u x t hx => by
    have hv : View u (.slice (some ⟨x, 0, none⟩) 16 16) ou5 := by
      refine ⟨some ⟨x, 0, none⟩, 16, rfl, by decide, by unfold maxLen; omega, (fun e => by cases e), .inr ⟨x, 0, rfl, fun i hi => ?_⟩⟩
      rw [Nat.zero_add]
      refine hx.cell i _ ?_
      rw [HLN.out.2.2]
      simp [cellsU8, List.getElem?_eq_getElem hi, List.getD_eq_getElem?_getD]
    have q := Hx.hex_any _ ou5 u (by decide) ou5B hv
    rw [HS5.out] at q
    exact q
  clear hP hrc hpos
  go_enter Tryz.func3, Tryz.ntmps3
  go_upto_region 2 with fail
  obtain ⟨Z, HZ⟩ : ∃ Z, Hid ((⟨#[48, 48, 48, 48, 48, 48, 48, 48, 48, 48, 48, 48, 48, 48, 48, 48, 48, 48, 48, 48, 48, 48, 48, 48, 48, 48, 48, 48, 48, 48, 48, 48]⟩ : ByteArray) = Z) := ⟨_, rfl⟩
  have HC1 : Hid (∀ u, Below w.heap.size w u → Calls Tryz.prog 9 #[.string ⟨#[97, 101, 115, 49, 50, 56, 45, 120, 116, 115, 45, 112, 108, 97, 105, 110, 54, 52]⟩, .string (Z ++ Z), .int .u64 0, .string (Z ++ Z)] u fun e w' => Hid (e = .returned (.string S1) ∧ Below u.heap.size u w')) := fun u hu => by
    have q := seal1 S1 HS1.out u (HT.out u hu).1 (HT.out u hu).2
    rw [show tk1T = Z ++ Z by rw [← HZ.out]; kernel_rfl, show tp1T = Z ++ Z by rw [← HZ.out]; kernel_rfl] at q
    exact q
  have hzz : ¬ (9223372036854775807 < Z.size + Z.size) := by rw [← HZ.out]; decide
  rw [HZ.out]
  go_upto_region 4 with (go_at_call 9; refine (HC1.out _ (Below.refl _ _)).mono ?_; intro e1 w1 hh; obtain ⟨rfl, hb1⟩ := hh.out; have HW1 : Hid (Below w.heap.size w w1) := hb1; clear hh hb1 HC1)
  clear hzz hs1
  go_upto_region 7 with fail
  obtain ⟨Y1, HY1⟩ : ∃ Z, Hid ((⟨#[49, 49, 49, 49, 49, 49, 49, 49, 49, 49, 49, 49, 49, 49, 49, 49, 49, 49, 49, 49, 49, 49, 49, 49, 49, 49, 49, 49, 49, 49, 49, 49]⟩ : ByteArray) = Z) := ⟨_, rfl⟩
  obtain ⟨Y2, HY2⟩ : ∃ Z, Hid ((⟨#[50, 50, 50, 50, 50, 50, 50, 50, 50, 50, 50, 50, 50, 50, 50, 50, 50, 50, 50, 50, 50, 50, 50, 50, 50, 50, 50, 50, 50, 50, 50, 50]⟩ : ByteArray) = Z) := ⟨_, rfl⟩
  obtain ⟨Y4, HY4⟩ : ∃ Z, Hid ((⟨#[52, 52, 52, 52, 52, 52, 52, 52, 52, 52, 52, 52, 52, 52, 52, 52, 52, 52, 52, 52, 52, 52, 52, 52, 52, 52, 52, 52, 52, 52, 52, 52, 52, 52, 52, 52, 52, 52, 52, 52, 52, 52, 52, 52, 52, 52, 52, 52, 52, 52, 52, 52, 52, 52, 52, 52, 52, 52, 52, 52, 52, 52, 52, 52]⟩ : ByteArray) = Z) := ⟨_, rfl⟩
  have HC2 : Hid (∀ u, Below w.heap.size w u → Calls Tryz.prog 9 #[.string ⟨#[97, 101, 115, 49, 50, 56, 45, 120, 116, 115, 45, 112, 108, 97, 105, 110, 54, 52]⟩, .string (Y1 ++ Y2), .int .u64 219902325555, .string Y4] u fun e w' => Hid (e = .returned (.string S2) ∧ Below u.heap.size u w')) := fun u hu => by
    have q := seal2 S2 HS2.out u (HT.out u hu).1 (HT.out u hu).2
    rw [show tk2T = Y1 ++ Y2 by rw [← HY1.out, ← HY2.out]; kernel_rfl, show tp2T = Y4 by rw [← HY4.out]; rfl] at q
    exact q
  have hyy : ¬ (9223372036854775807 < Y1.size + Y2.size) := by rw [← HY1.out, ← HY2.out]; decide
  rw [HY1.out, HY2.out, HY4.out]
  go_upto_region 9 with (go_at_call 9; refine (HC2.out _ HW1.out).mono ?_; intro e2 w2 hh; obtain ⟨rfl, hb2⟩ := hh.out; have HW2 : Hid (Below w.heap.size w w2) := HW1.out.trans (hb2.mono HW1.out.size); clear hh hb2 HC2)
  clear hyy hs2
  have HC3 : Hid (∀ u, Below w.heap.size w u → Calls Tryz.prog 9 #[.string ⟨#[97, 101, 115, 49, 50, 56, 45, 120, 116, 115, 45, 112, 108, 97, 105, 110, 54, 52]⟩, .string ⟨#[102, 102, 102, 101, 102, 100, 102, 99, 102, 98, 102, 97, 102, 57, 102, 56, 102, 55, 102, 54, 102, 53, 102, 52, 102, 51, 102, 50, 102, 49, 102, 48, 98, 102, 98, 101, 98, 100, 98, 99, 98, 98, 98, 97, 98, 57, 98, 56, 98, 55, 98, 54, 98, 53, 98, 52, 98, 51, 98, 50, 98, 49, 98, 48]⟩, .int .u64 78187493530, .string ⟨#[48, 48, 48, 49, 48, 50, 48, 51, 48, 52, 48, 53, 48, 54, 48, 55, 48, 56, 48, 57, 48, 97, 48, 98, 48, 99, 48, 100, 48, 101, 48, 102, 49, 48]⟩] u fun e w' => Hid (e = .returned (.string S3) ∧ Below u.heap.size u w')) := fun u hu => seal3 S3 HS3.out u (HT.out u hu).1 (HT.out u hu).2
  go_upto_region 11 with (go_at_call 9; refine (HC3.out _ HW2.out).mono ?_; intro e3 w3 hh; obtain ⟨rfl, hb3⟩ := hh.out; have HW3 : Hid (Below w.heap.size w w3) := HW2.out.trans (hb3.mono HW2.out.size); clear hh hb3 HC3)
  clear hs3
  have HC4 : Hid (∀ u, Below w.heap.size w u → Calls Tryz.prog 9 #[.string ⟨#[97, 101, 115, 49, 50, 56, 45, 101, 99, 98]⟩, .string ⟨#[50, 98, 55, 101, 49, 53, 49, 54, 50, 56, 97, 101, 100, 50, 97, 54, 97, 98, 102, 55, 49, 53, 56, 56, 48, 57, 99, 102, 52, 102, 51, 99]⟩, .int .u64 9, .string ⟨#[54, 98, 99, 49, 98, 101, 101, 50, 50, 101, 52, 48, 57, 102, 57, 54, 101, 57, 51, 100, 55, 101, 49, 49, 55, 51, 57, 51, 49, 55, 50, 97]⟩] u fun e w' => Hid (e = .returned (.string S4) ∧ Below u.heap.size u w')) := fun u hu => seal4 S4 HS4.out u (HT.out u hu).1 (HT.out u hu).2
  go_upto_region 13 with (go_at_call 9; refine (HC4.out _ HW3.out).mono ?_; intro e4 w4 hh; obtain ⟨rfl, hb4⟩ := hh.out; have HW4 : Hid (Below w.heap.size w w4) := HW3.out.trans (hb4.mono HW3.out.size); clear hh hb4 HC4)
  clear hs4
  go_upto_region 14 with (go_at_call 10; refine (HH5.out _).mono ?_; intro e5 w5 hh; obtain ⟨b5, c5, rfl, ho5, hb5⟩ := hh.out; have HW5 : Hid (View w5 (.slice (some ⟨b5, 0, none⟩) 16 c5) zs5 ∧ Below w.heap.size w w5) := ⟨view_owns ho5 rfl, HW4.out.trans (hb5.mono HW4.out.size)⟩; clear hh ho5 hb5)
  go_upto_region 15 with (go_at_call 10; refine (HH6.out _).mono ?_; intro e6 w6 hh; obtain ⟨b6, c6, rfl, ho6, hb6⟩ := hh.out; have HW6 : Hid (View w6 (.slice (some ⟨b5, 0, none⟩) 16 c5) zs5 ∧ View w6 (.slice (some ⟨b6, 0, none⟩) 16 c6) zs6 ∧ Below w.heap.size w w6) := ⟨HW5.out.1.below hb6, view_owns ho6 rfl, HW5.out.2.trans (hb6.mono HW5.out.2.size)⟩; clear hh ho6 hb6)
  go_upto_region 16 with (go_at_call 10; refine (HH7.out _).mono ?_; intro e7 w7 hh; obtain ⟨b7, c7, rfl, ho7, hb7⟩ := hh.out; have HW7 : Hid (View w7 (.slice (some ⟨b5, 0, none⟩) 16 c5) zs5 ∧ View w7 (.slice (some ⟨b6, 0, none⟩) 16 c6) zs6 ∧ View w7 (.slice (some ⟨b7, 0, none⟩) 16 c7) zs7 ∧ Below w.heap.size w w7) := ⟨HW6.out.1.below hb7, HW6.out.2.1.below hb7, view_owns ho7 rfl, HW6.out.2.2.trans (hb7.mono HW6.out.2.2.size)⟩; clear hh ho7 hb7)
  have M1 : Hid True := trivial
  have M2 : Hid True := trivial
  go_wp2_with (first
    | (have _m := M1.out; go_at_call 12; refine (HB5.out _ _ HW7.out.1).mono ?_; intro e8 w8 hh; obtain ⟨rfl, hb8⟩ := hh.out; have HW8 : Hid (View w8 (.slice (some ⟨b6, 0, none⟩) 16 c6) zs6 ∧ View w8 (.slice (some ⟨b7, 0, none⟩) 16 c7) zs7 ∧ Below w.heap.size w w8) := ⟨HW7.out.2.1.below hb8, HW7.out.2.2.1.below hb8, HW7.out.2.2.2.trans (hb8.mono HW7.out.2.2.2.size)⟩; clear hh hb8 M1)
    | (have _m := M2.out; go_at_call 12; refine (HB6.out _ _ HW8.out.1).mono ?_; intro e9 w9 hh; obtain ⟨rfl, hb9⟩ := hh.out; have HW9 : Hid (View w9 (.slice (some ⟨b7, 0, none⟩) 16 c7) zs7 ∧ Below w.heap.size w w9) := ⟨HW8.out.2.1.below hb9, HW8.out.2.2.trans (hb9.mono HW8.out.2.2.size)⟩; clear hh hb9 M2)
    | (go_at_call 12; refine (HB7.out _ _ HW9.out.1).mono ?_; intro e10 w10 hh; obtain ⟨rfl, hb10⟩ := hh.out; have HW10 : Hid (Below w.heap.size w w10) := HW9.out.2.trans (hb10.mono HW9.out.2.size); clear hh hb10)
    | (go_at_call 11; refine (HPV.out _).mono ?_; rintro e11 w11 ⟨rfl, hb11⟩; have HW11 : Hid (Below w.heap.size w w11) := HW10.out.trans (hb11.mono HW10.out.size); clear hb11)
    | (refine wpList_store_bx (by rfl) 29 (.tmp 14) (.tmp 55) (by rfl) ZZ LP w11.heap.size (by rfl) (by rfl) (Bx.new w11 29 ZZ) (by rw [HLN.out.1]; rfl) (by rw [HLN.out.1]; kernel_rfl) HLN.out.2.1 ?_; intro w12 hb12 hg12; have HW12 : Hid (Bx w12 w11.heap.size 29 LP ∧ Below w.heap.size w w12) := ⟨hb12, HW11.out.trans ((((Below.refl w11.heap.size w11).alloc (Nat.le_refl _) _).trans (below_gb hg12 (by simp) (Nat.le_refl _))).mono HW11.out.size)⟩; clear hb12 hg12)
    | (go_at_call 13; refine (HHX.out _ _ _ HW12.out.1).mono ?_; rintro e13 w13 ⟨rfl, hb13⟩; have HW13 : Hid (Below w.heap.size w w13) := HW12.out.2.trans (hb13.mono HW12.out.2.size); clear hb13))
  go_ret
  exact ⟨by first | rfl | simp, HW13.out⟩
end Go.Proofs.YtcnikfikpnnblaaGreatDoor
