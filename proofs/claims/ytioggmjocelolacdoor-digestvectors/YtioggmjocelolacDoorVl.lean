import Derived.Test.YtioggmjocelolacDoorVh
import Derived.Lib.Strings
import Derived.Lib.SmallJoins
import Derived.Test.YtioggmjocelolacDoorStlE
namespace Go.Proofs.YtioggmjocelolacDoor
open Go.RowKit
set_option linter.unusedVariables false
set_option linter.unusedSimpArgs false
theorem allBytes_of {l : List Int} (h : ∀ x ∈ l, 0 ≤ x ∧ x < 256) : AllBytes l := fun i => by
  rw [List.getD_eq_getElem?_getD]
  cases hi : l[i]? with
  | none => simp
  | some x => simpa using h x (List.mem_of_getElem? hi)
/-- A text that is written out, as bytes. -/
theorem view_const (u : World) (b : Nat) (C : Array Value) (fr : Nat × Nat) (ys : List Int) (n : Nat) (hb : b = u.heap.size) (hn : ys.length = n) (hC : C = (cellsU8 ys).toArray) (hm : n ≤ 1000) : View (u.alloc (.cells C 5 fr)) (.slice (some ⟨b, 0, none⟩) n n) ys := by
  subst hb hn hC
  refine ⟨_, ys.length, rfl, Nat.le_refl _, by unfold maxLen; omega, (fun e => by cases e), .inr ⟨u.heap.size, 0, rfl, fun i hi => ?_⟩⟩
  rw [Nat.zero_add, World.cell?_alloc_mark]
  simp [cellsU8, List.getD, List.getElem?_eq_getElem hi]
theorem b64_view (b n cap : Nat) (xs : List Int) (w : World) (S : ByteArray) (hn : n ≤ 65536) (ax : AllBytes xs) (hv : View w (.slice (some ⟨b, 0, none⟩) n cap) xs) (h0 : xs ≠ []) (hS : strOfNums (b64 xs) = S) :
    Calls Tryd.prog 14 #[.slice (some ⟨b, 0, none⟩) n cap] w fun e w' => e = .returned (.string S) ∧ Below w.heap.size w w' := by
  obtain ⟨q1, q2, q3⟩ := view_bounds hv
  obtain ⟨_, _, e, _, _, _, q4⟩ := hv
  rcases q4 with q4 | ⟨b', off, e2, q5⟩
  · exact absurd q4 h0
  · injection e with e1 _ _
    rw [e2] at e1
    injection e1 with e1
    injection e1 with e3 e4
    subst e3 e4
    rw [← hS]
    exact b64_core b 0 n cap xs w q1 hn q2 q3 ax (fun i hi => q5 i (by rw [q1]; exact hi))
set_option maxHeartbeats 6400000 in
set_option maxRecDepth 100000 in
theorem vec_ok (w : World) (hT : Hid (Tables w)) :
    Calls Tryd.prog 3 #[] w fun e w' => e = .returned (.bool true) ∧ Below w.heap.size w w' := by
  have hT4 := hT.out.size
  obtain ⟨Sa, HSa⟩ : ∃ S, Hid (strOfNums (hexBytes [35, 9, 125, 34, 52, 5, 216, 34, 134, 66, 164, 119, 189, 162, 85, 179, 42, 173, 188, 228, 189, 160, 179, 247, 227, 108, 157, 167]) = S) := ⟨_, rfl⟩
  have hsa : Sa.toList = ([50, 51, 48, 57, 55, 100, 50, 50, 51, 52, 48, 53, 100, 56, 50, 50, 56, 54, 52, 50, 97, 52, 55, 55, 98, 100, 97, 50, 53, 53, 98, 51, 50, 97, 97, 100, 98, 99, 101, 52, 98, 100, 97, 48, 98, 51, 102, 55, 101, 51, 54, 99, 57, 100, 97, 55] : List UInt8) := by rw [← HSa.out, Lib.toList_data]; kernel_rfl
  obtain ⟨Sb, HSb⟩ : ∃ S, Hid (strOfNums (hexBytes [186, 120, 22, 191, 143, 1, 207, 234, 65, 65, 64, 222, 93, 174, 34, 35, 176, 3, 97, 163, 150, 23, 122, 156, 180, 16, 255, 97, 242, 0, 21, 173]) = S) := ⟨_, rfl⟩
  have hsb : Sb.toList = ([98, 97, 55, 56, 49, 54, 98, 102, 56, 102, 48, 49, 99, 102, 101, 97, 52, 49, 52, 49, 52, 48, 100, 101, 53, 100, 97, 101, 50, 50, 50, 51, 98, 48, 48, 51, 54, 49, 97, 51, 57, 54, 49, 55, 55, 97, 57, 99, 98, 52, 49, 48, 102, 102, 54, 49, 102, 50, 48, 48, 49, 53, 97, 100] : List UInt8) := by rw [← HSb.out, Lib.toList_data]; kernel_rfl
  obtain ⟨Sc, HSc⟩ : ∃ S, Hid (strOfNums (hexBytes [36, 141, 106, 97, 210, 6, 56, 184, 229, 192, 38, 147, 12, 62, 96, 57, 163, 60, 228, 89, 100, 255, 33, 103, 246, 236, 237, 212, 25, 219, 6, 193]) = S) := ⟨_, rfl⟩
  have hsc : Sc.toList = ([50, 52, 56, 100, 54, 97, 54, 49, 100, 50, 48, 54, 51, 56, 98, 56, 101, 53, 99, 48, 50, 54, 57, 51, 48, 99, 51, 101, 54, 48, 51, 57, 97, 51, 51, 99, 101, 52, 53, 57, 54, 52, 102, 102, 50, 49, 54, 55, 102, 54, 101, 99, 101, 100, 100, 52, 49, 57, 100, 98, 48, 54, 99, 49] : List UInt8) := by rw [← HSc.out, Lib.toList_data]; kernel_rfl
  obtain ⟨Sd, HSd⟩ : ∃ S, Hid (strOfNums (hexBytes [227, 176, 196, 66, 152, 252, 28, 20, 154, 251, 244, 200, 153, 111, 185, 36, 39, 174, 65, 228, 100, 155, 147, 76, 164, 149, 153, 27, 120, 82, 184, 85]) = S) := ⟨_, rfl⟩
  have hsd : Sd.toList = ([101, 51, 98, 48, 99, 52, 52, 50, 57, 56, 102, 99, 49, 99, 49, 52, 57, 97, 102, 98, 102, 52, 99, 56, 57, 57, 54, 102, 98, 57, 50, 52, 50, 55, 97, 101, 52, 49, 101, 52, 54, 52, 57, 98, 57, 51, 52, 99, 97, 52, 57, 53, 57, 57, 49, 98, 55, 56, 53, 50, 98, 56, 53, 53] : List UInt8) := by rw [← HSd.out, Lib.toList_data]; kernel_rfl
  obtain ⟨Se, HSe⟩ : ∃ S, Hid (strOfNums (hexBytes [203, 0, 117, 63, 69, 163, 94, 139, 181, 160, 61, 105, 154, 198, 80, 7, 39, 44, 50, 171, 14, 222, 209, 99, 26, 139, 96, 90, 67, 255, 91, 237, 128, 134, 7, 43, 161, 231, 204, 35, 88, 186, 236, 161, 52, 200, 37, 167]) = S) := ⟨_, rfl⟩
  have hse : Se.toList = ([99, 98, 48, 48, 55, 53, 51, 102, 52, 53, 97, 51, 53, 101, 56, 98, 98, 53, 97, 48, 51, 100, 54, 57, 57, 97, 99, 54, 53, 48, 48, 55, 50, 55, 50, 99, 51, 50, 97, 98, 48, 101, 100, 101, 100, 49, 54, 51, 49, 97, 56, 98, 54, 48, 53, 97, 52, 51, 102, 102, 53, 98, 101, 100, 56, 48, 56, 54, 48, 55, 50, 98, 97, 49, 101, 55, 99, 99, 50, 51, 53, 56, 98, 97, 101, 99, 97, 49, 51, 52, 99, 56, 50, 53, 97, 55] : List UInt8) := by rw [← HSe.out, Lib.toList_data]; kernel_rfl
  obtain ⟨Sf, HSf⟩ : ∃ S, Hid (strOfNums (hexBytes [221, 175, 53, 161, 147, 97, 122, 186, 204, 65, 115, 73, 174, 32, 65, 49, 18, 230, 250, 78, 137, 169, 126, 162, 10, 158, 238, 230, 75, 85, 211, 154, 33, 146, 153, 42, 39, 79, 193, 168, 54, 186, 60, 35, 163, 254, 235, 189, 69, 77, 68, 35, 100, 60, 232, 14, 42, 154, 201, 79, 165, 76, 164, 159]) = S) := ⟨_, rfl⟩
  have hsf : Sf.toList = ([100, 100, 97, 102, 51, 53, 97, 49, 57, 51, 54, 49, 55, 97, 98, 97, 99, 99, 52, 49, 55, 51, 52, 57, 97, 101, 50, 48, 52, 49, 51, 49, 49, 50, 101, 54, 102, 97, 52, 101, 56, 57, 97, 57, 55, 101, 97, 50, 48, 97, 57, 101, 101, 101, 101, 54, 52, 98, 53, 53, 100, 51, 57, 97, 50, 49, 57, 50, 57, 57, 50, 97, 50, 55, 52, 102, 99, 49, 97, 56, 51, 54, 98, 97, 51, 99, 50, 51, 97, 51, 102, 101, 101, 98, 98, 100, 52, 53, 52, 100, 52, 52, 50, 51, 54, 52, 51, 99, 101, 56, 48, 101, 50, 97, 57, 97, 99, 57, 52, 102, 97, 53, 52, 99, 97, 52, 57, 102] : List UInt8) := by rw [← HSf.out, Lib.toList_data]; kernel_rfl
  obtain ⟨Sg, HSg⟩ : ∃ S, Hid (strOfNums (hexBytes [91, 220, 193, 70, 191, 96, 117, 78, 106, 4, 36, 38, 8, 149, 117, 199, 90, 0, 63, 8, 157, 39, 57, 131, 157, 236, 88, 185, 100, 236, 56, 67]) = S) := ⟨_, rfl⟩
  have hsg : Sg.toList = ([53, 98, 100, 99, 99, 49, 52, 54, 98, 102, 54, 48, 55, 53, 52, 101, 54, 97, 48, 52, 50, 52, 50, 54, 48, 56, 57, 53, 55, 53, 99, 55, 53, 97, 48, 48, 51, 102, 48, 56, 57, 100, 50, 55, 51, 57, 56, 51, 57, 100, 101, 99, 53, 56, 98, 57, 54, 52, 101, 99, 51, 56, 52, 51] : List UInt8) := by rw [← HSg.out, Lib.toList_data]; kernel_rfl
  obtain ⟨Sh, HSh⟩ : ∃ S, Hid (strOfNums (hexBytes [174, 77, 12, 149, 175, 107, 70, 211, 45, 10, 223, 249, 40, 240, 109, 208, 42, 48, 63, 142, 243, 194, 81, 223, 214, 226, 216, 90, 149, 71, 76, 67]) = S) := ⟨_, rfl⟩
  have hsh : Sh.toList = ([97, 101, 52, 100, 48, 99, 57, 53, 97, 102, 54, 98, 52, 54, 100, 51, 50, 100, 48, 97, 100, 102, 102, 57, 50, 56, 102, 48, 54, 100, 100, 48, 50, 97, 51, 48, 51, 102, 56, 101, 102, 51, 99, 50, 53, 49, 100, 102, 100, 54, 101, 50, 100, 56, 53, 97, 57, 53, 52, 55, 52, 99, 52, 51] : List UInt8) := by rw [← HSh.out, Lib.toList_data]; kernel_rfl
  obtain ⟨Si, HSi⟩ : ∃ S, Hid (strOfNums (b64 [102, 111, 111, 98, 97, 114]) = S) := ⟨_, rfl⟩
  have hsi : Si.toList = ([90, 109, 57, 118, 89, 109, 70, 121] : List UInt8) := by rw [← HSi.out, Lib.toList_data]; kernel_rfl
  obtain ⟨Sj, HSj⟩ : ∃ S, Hid (strOfNums (b64 [102, 111, 111, 98, 97]) = S) := ⟨_, rfl⟩
  have hsj : Sj.toList = ([90, 109, 57, 118, 89, 109, 69, 61] : List UInt8) := by rw [← HSj.out, Lib.toList_data]; kernel_rfl
  obtain ⟨Sk, HSk⟩ : ∃ S, Hid (strOfNums (b64 [102, 111, 111, 98]) = S) := ⟨_, rfl⟩
  have hsk : Sk.toList = ([90, 109, 57, 118, 89, 103, 61, 61] : List UInt8) := by rw [← HSk.out, Lib.toList_data]; kernel_rfl
  have kd1 := Joins.run_convert_bytes_const_at (P := Tryd.prog) (w) 22 5 #[.int .u8 97, .int .u8 98, .int .u8 99] 3 3 (w.heap.size) rfl Tryd.underlying22 Tryd.underlying5
  have kd2 := Joins.run_convert_bytes_const_at (P := Tryd.prog) (w.alloc (.cells #[.int .u8 97, .int .u8 98, .int .u8 99] 5 (3, 4))) 22 5 #[.int .u8 97, .int .u8 98, .int .u8 99, .int .u8 100, .int .u8 98, .int .u8 99, .int .u8 100, .int .u8 101, .int .u8 99, .int .u8 100, .int .u8 101, .int .u8 102, .int .u8 100, .int .u8 101, .int .u8 102, .int .u8 103, .int .u8 101, .int .u8 102, .int .u8 103, .int .u8 104, .int .u8 102, .int .u8 103, .int .u8 104, .int .u8 105, .int .u8 103, .int .u8 104, .int .u8 105, .int .u8 106, .int .u8 104, .int .u8 105, .int .u8 106, .int .u8 107, .int .u8 105, .int .u8 106, .int .u8 107, .int .u8 108, .int .u8 106, .int .u8 107, .int .u8 108, .int .u8 109, .int .u8 107, .int .u8 108, .int .u8 109, .int .u8 110, .int .u8 108, .int .u8 109, .int .u8 110, .int .u8 111, .int .u8 109, .int .u8 110, .int .u8 111, .int .u8 112, .int .u8 110, .int .u8 111, .int .u8 112, .int .u8 113] 56 56 (w.heap.size + 1) (by simp) Tryd.underlying22 Tryd.underlying5
  have HW1 : Hid (Below w.heap.size w ((w.alloc (.cells #[.int .u8 97, .int .u8 98, .int .u8 99] 5 (3, 4))).alloc (.cells #[.int .u8 97, .int .u8 98, .int .u8 99, .int .u8 100, .int .u8 98, .int .u8 99, .int .u8 100, .int .u8 101, .int .u8 99, .int .u8 100, .int .u8 101, .int .u8 102, .int .u8 100, .int .u8 101, .int .u8 102, .int .u8 103, .int .u8 101, .int .u8 102, .int .u8 103, .int .u8 104, .int .u8 102, .int .u8 103, .int .u8 104, .int .u8 105, .int .u8 103, .int .u8 104, .int .u8 105, .int .u8 106, .int .u8 104, .int .u8 105, .int .u8 106, .int .u8 107, .int .u8 105, .int .u8 106, .int .u8 107, .int .u8 108, .int .u8 106, .int .u8 107, .int .u8 108, .int .u8 109, .int .u8 107, .int .u8 108, .int .u8 109, .int .u8 110, .int .u8 108, .int .u8 109, .int .u8 110, .int .u8 111, .int .u8 109, .int .u8 110, .int .u8 111, .int .u8 112, .int .u8 110, .int .u8 111, .int .u8 112, .int .u8 113] 5 (56, 57))) ∧ View ((w.alloc (.cells #[.int .u8 97, .int .u8 98, .int .u8 99] 5 (3, 4))).alloc (.cells #[.int .u8 97, .int .u8 98, .int .u8 99, .int .u8 100, .int .u8 98, .int .u8 99, .int .u8 100, .int .u8 101, .int .u8 99, .int .u8 100, .int .u8 101, .int .u8 102, .int .u8 100, .int .u8 101, .int .u8 102, .int .u8 103, .int .u8 101, .int .u8 102, .int .u8 103, .int .u8 104, .int .u8 102, .int .u8 103, .int .u8 104, .int .u8 105, .int .u8 103, .int .u8 104, .int .u8 105, .int .u8 106, .int .u8 104, .int .u8 105, .int .u8 106, .int .u8 107, .int .u8 105, .int .u8 106, .int .u8 107, .int .u8 108, .int .u8 106, .int .u8 107, .int .u8 108, .int .u8 109, .int .u8 107, .int .u8 108, .int .u8 109, .int .u8 110, .int .u8 108, .int .u8 109, .int .u8 110, .int .u8 111, .int .u8 109, .int .u8 110, .int .u8 111, .int .u8 112, .int .u8 110, .int .u8 111, .int .u8 112, .int .u8 113] 5 (56, 57))) (.slice (some ⟨w.heap.size, 0, none⟩) 3 3) [97, 98, 99] ∧ View ((w.alloc (.cells #[.int .u8 97, .int .u8 98, .int .u8 99] 5 (3, 4))).alloc (.cells #[.int .u8 97, .int .u8 98, .int .u8 99, .int .u8 100, .int .u8 98, .int .u8 99, .int .u8 100, .int .u8 101, .int .u8 99, .int .u8 100, .int .u8 101, .int .u8 102, .int .u8 100, .int .u8 101, .int .u8 102, .int .u8 103, .int .u8 101, .int .u8 102, .int .u8 103, .int .u8 104, .int .u8 102, .int .u8 103, .int .u8 104, .int .u8 105, .int .u8 103, .int .u8 104, .int .u8 105, .int .u8 106, .int .u8 104, .int .u8 105, .int .u8 106, .int .u8 107, .int .u8 105, .int .u8 106, .int .u8 107, .int .u8 108, .int .u8 106, .int .u8 107, .int .u8 108, .int .u8 109, .int .u8 107, .int .u8 108, .int .u8 109, .int .u8 110, .int .u8 108, .int .u8 109, .int .u8 110, .int .u8 111, .int .u8 109, .int .u8 110, .int .u8 111, .int .u8 112, .int .u8 110, .int .u8 111, .int .u8 112, .int .u8 113] 5 (56, 57))) (.slice (some ⟨w.heap.size + 1, 0, none⟩) 56 56) [97, 98, 99, 100, 98, 99, 100, 101, 99, 100, 101, 102, 100, 101, 102, 103, 101, 102, 103, 104, 102, 103, 104, 105, 103, 104, 105, 106, 104, 105, 106, 107, 105, 106, 107, 108, 106, 107, 108, 109, 107, 108, 109, 110, 108, 109, 110, 111, 109, 110, 111, 112, 110, 111, 112, 113]) :=
    ⟨((Below.refl _ w).alloc (Nat.le_refl _) _).alloc (by simp) _, (view_const w w.heap.size _ _ _ 3 rfl rfl rfl (by decide)).kept (fun q hq => Below.heap_alloc _ _ q hq), view_const (w.alloc (.cells #[.int .u8 97, .int .u8 98, .int .u8 99] 5 (3, 4))) (w.heap.size + 1) _ _ _ 56 (by simp) rfl rfl (by decide)⟩
  go_enter Tryd.func3, Tryd.ntmps3
  go_upto_region 3 with fail
  generalize (w.alloc (.cells #[.int .u8 97, .int .u8 98, .int .u8 99] 5 (3, 4))).alloc (.cells #[.int .u8 97, .int .u8 98, .int .u8 99, .int .u8 100, .int .u8 98, .int .u8 99, .int .u8 100, .int .u8 101, .int .u8 99, .int .u8 100, .int .u8 101, .int .u8 102, .int .u8 100, .int .u8 101, .int .u8 102, .int .u8 103, .int .u8 101, .int .u8 102, .int .u8 103, .int .u8 104, .int .u8 102, .int .u8 103, .int .u8 104, .int .u8 105, .int .u8 103, .int .u8 104, .int .u8 105, .int .u8 106, .int .u8 104, .int .u8 105, .int .u8 106, .int .u8 107, .int .u8 105, .int .u8 106, .int .u8 107, .int .u8 108, .int .u8 106, .int .u8 107, .int .u8 108, .int .u8 109, .int .u8 107, .int .u8 108, .int .u8 109, .int .u8 110, .int .u8 108, .int .u8 109, .int .u8 110, .int .u8 111, .int .u8 109, .int .u8 110, .int .u8 111, .int .u8 112, .int .u8 110, .int .u8 111, .int .u8 112, .int .u8 113] 5 (56, 57)) = w1 at HW1 ⊢
  clear kd1 kd2
  have HB1 : Hid (Below w1.heap.size w1 w1) := Below.refl _ _
  have H9a : Hid (Calls Tryd.prog 9 #[.int .i64 224, .slice (some ⟨w1.heap.size, 0, none⟩) 1 1] (w1.alloc (.cells #[.slice (some ⟨w.heap.size, 0, none⟩) 3 3] 22)) fun e w' => e = .returned (.string Sa) ∧ Below w1.heap.size w1 w') :=
    hexed1 224 _ [97, 98, 99] [35, 9, 125, 34, 52, 5, 216, 34, 134, 66, 164, 119, 189, 162, 85, 179, 42, 173, 188, 228, 189, 160, 179, 247, 227, 108, 157, 167] Sa w1 22 (show Known 224 by unfold Known; decide) (HW1.out.2.1.kept (fun q hq => HB1.out.block q hq)) (hT.out.below (HW1.out.1.trans (HB1.out.mono HW1.out.1.size)) hT4) (by decide) v224 (allBytes_of (by decide)) HSa.out
  go_wp2_with (go_at_call 9; refine H9a.out.mono ?_)
  first | (rintro e2 w2 rfl hb2) | (rintro e2 w2 ⟨rfl, hb2⟩)
  have HB2 : Hid (Below w1.heap.size w1 w2) := HB1.out.trans (hb2.mono HB1.out.size)
  clear hb2 H9a
  have H9b : Hid (Calls Tryd.prog 9 #[.int .i64 256, .slice (some ⟨w2.heap.size, 0, none⟩) 1 1] (w2.alloc (.cells #[.slice (some ⟨w.heap.size, 0, none⟩) 3 3] 22)) fun e w' => e = .returned (.string Sb) ∧ Below w2.heap.size w2 w') :=
    hexed1 256 _ [97, 98, 99] [186, 120, 22, 191, 143, 1, 207, 234, 65, 65, 64, 222, 93, 174, 34, 35, 176, 3, 97, 163, 150, 23, 122, 156, 180, 16, 255, 97, 242, 0, 21, 173] Sb w2 22 (show Known 256 by unfold Known; decide) (HW1.out.2.1.kept (fun q hq => HB2.out.block q hq)) (hT.out.below (HW1.out.1.trans (HB2.out.mono HW1.out.1.size)) hT4) (by decide) v256 (allBytes_of (by decide)) HSb.out
  go_wp2_with (go_at_call 9; refine H9b.out.mono ?_)
  first | (rintro e3 w3 rfl hb3) | (rintro e3 w3 ⟨rfl, hb3⟩)
  have HB3 : Hid (Below w1.heap.size w1 w3) := HB2.out.trans (hb3.mono HB2.out.size)
  clear hb3 H9b
  have H9c : Hid (Calls Tryd.prog 9 #[.int .i64 256, .slice (some ⟨w3.heap.size, 0, none⟩) 1 1] (w3.alloc (.cells #[.slice (some ⟨w.heap.size + 1, 0, none⟩) 56 56] 22)) fun e w' => e = .returned (.string Sc) ∧ Below w3.heap.size w3 w') :=
    hexed1 256 _ [97, 98, 99, 100, 98, 99, 100, 101, 99, 100, 101, 102, 100, 101, 102, 103, 101, 102, 103, 104, 102, 103, 104, 105, 103, 104, 105, 106, 104, 105, 106, 107, 105, 106, 107, 108, 106, 107, 108, 109, 107, 108, 109, 110, 108, 109, 110, 111, 109, 110, 111, 112, 110, 111, 112, 113] [36, 141, 106, 97, 210, 6, 56, 184, 229, 192, 38, 147, 12, 62, 96, 57, 163, 60, 228, 89, 100, 255, 33, 103, 246, 236, 237, 212, 25, 219, 6, 193] Sc w3 22 (show Known 256 by unfold Known; decide) (HW1.out.2.2.kept (fun q hq => HB3.out.block q hq)) (hT.out.below (HW1.out.1.trans (HB3.out.mono HW1.out.1.size)) hT4) (by decide) v256l (allBytes_of (by decide)) HSc.out
  go_wp2_with (go_at_call 9; refine H9c.out.mono ?_)
  first | (rintro e4 w4 rfl hb4) | (rintro e4 w4 ⟨rfl, hb4⟩)
  have HB4 : Hid (Below w1.heap.size w1 w4) := HB3.out.trans (hb4.mono HB3.out.size)
  clear hb4 H9c
  have H9d : Hid (Calls Tryd.prog 9 #[.int .i64 256, .slice none 0 0] w4 fun e w' => e = .returned (.string Sd) ∧ Below w4.heap.size w4 w') :=
    hexed_ok 256 [] _ w4 [227, 176, 196, 66, 152, 252, 28, 20, 154, 251, 244, 200, 153, 111, 185, 36, 39, 174, 65, 228, 100, 155, 147, 76, 164, 149, 153, 27, 120, 82, 184, 85] Sd (show Known 256 by unfold Known; decide) (fun v g _ _ => parts_none v g) (hT.out.below (HW1.out.1.trans (HB4.out.mono HW1.out.1.size)) hT4) (by show _ ≤ _; decide) v256e (allBytes_of (by decide)) HSd
  go_wp2_with (go_at_call 9; refine H9d.out.mono ?_)
  first | (rintro e5 w5 rfl hb5) | (rintro e5 w5 ⟨rfl, hb5⟩)
  have HB5 : Hid (Below w1.heap.size w1 w5) := HB4.out.trans (hb5.mono HB4.out.size)
  clear hb5 H9d
  have H9e : Hid (Calls Tryd.prog 9 #[.int .i64 384, .slice (some ⟨w5.heap.size, 0, none⟩) 1 1] (w5.alloc (.cells #[.slice (some ⟨w.heap.size, 0, none⟩) 3 3] 22)) fun e w' => e = .returned (.string Se) ∧ Below w5.heap.size w5 w') :=
    hexed1 384 _ [97, 98, 99] [203, 0, 117, 63, 69, 163, 94, 139, 181, 160, 61, 105, 154, 198, 80, 7, 39, 44, 50, 171, 14, 222, 209, 99, 26, 139, 96, 90, 67, 255, 91, 237, 128, 134, 7, 43, 161, 231, 204, 35, 88, 186, 236, 161, 52, 200, 37, 167] Se w5 22 (show Known 384 by unfold Known; decide) (HW1.out.2.1.kept (fun q hq => HB5.out.block q hq)) (hT.out.below (HW1.out.1.trans (HB5.out.mono HW1.out.1.size)) hT4) (by decide) v384 (allBytes_of (by decide)) HSe.out
  go_wp2_with (go_at_call 9; refine H9e.out.mono ?_)
  first | (rintro e6 w6 rfl hb6) | (rintro e6 w6 ⟨rfl, hb6⟩)
  have HB6 : Hid (Below w1.heap.size w1 w6) := HB5.out.trans (hb6.mono HB5.out.size)
  clear hb6 H9e
  have H9f : Hid (Calls Tryd.prog 9 #[.int .i64 512, .slice (some ⟨w6.heap.size, 0, none⟩) 1 1] (w6.alloc (.cells #[.slice (some ⟨w.heap.size, 0, none⟩) 3 3] 22)) fun e w' => e = .returned (.string Sf) ∧ Below w6.heap.size w6 w') :=
    hexed1 512 _ [97, 98, 99] [221, 175, 53, 161, 147, 97, 122, 186, 204, 65, 115, 73, 174, 32, 65, 49, 18, 230, 250, 78, 137, 169, 126, 162, 10, 158, 238, 230, 75, 85, 211, 154, 33, 146, 153, 42, 39, 79, 193, 168, 54, 186, 60, 35, 163, 254, 235, 189, 69, 77, 68, 35, 100, 60, 232, 14, 42, 154, 201, 79, 165, 76, 164, 159] Sf w6 22 (show Known 512 by unfold Known; decide) (HW1.out.2.1.kept (fun q hq => HB6.out.block q hq)) (hT.out.below (HW1.out.1.trans (HB6.out.mono HW1.out.1.size)) hT4) (by decide) v512 (allBytes_of (by decide)) HSf.out
  go_wp2_with (go_at_call 9; refine H9f.out.mono ?_)
  first | (rintro e7 w7 rfl hb7) | (rintro e7 w7 ⟨rfl, hb7⟩)
  have HB7 : Hid (Below w1.heap.size w1 w7) := HB6.out.trans (hb7.mono HB6.out.size)
  clear hb7 H9f
  have HTw7 : Hid (Tables w7 ∧ Below w.heap.size w w7) := ⟨hT.out.below (HW1.out.1.trans (HB7.out.mono HW1.out.1.size)) hT4, HW1.out.1.trans (HB7.out.mono HW1.out.1.size)⟩
  have kd3 := Joins.run_convert_bytes_const_at (P := Tryd.prog) (w7) 22 5 #[.int .u8 74, .int .u8 101, .int .u8 102, .int .u8 101] 4 4 (w7.heap.size) rfl Tryd.underlying22 Tryd.underlying5
  have kd4 := Joins.run_convert_bytes_const_at (P := Tryd.prog) (w7.alloc (.cells #[.int .u8 74, .int .u8 101, .int .u8 102, .int .u8 101] 5 (4, 5))) 22 5 #[.int .u8 119, .int .u8 104, .int .u8 97, .int .u8 116, .int .u8 32, .int .u8 100, .int .u8 111, .int .u8 32, .int .u8 121, .int .u8 97, .int .u8 32, .int .u8 119, .int .u8 97, .int .u8 110, .int .u8 116, .int .u8 32] 16 16 (w7.heap.size + 1) (by simp) Tryd.underlying22 Tryd.underlying5
  have kd5 := Joins.run_convert_bytes_const_at (P := Tryd.prog) ((w7.alloc (.cells #[.int .u8 74, .int .u8 101, .int .u8 102, .int .u8 101] 5 (4, 5))).alloc (.cells #[.int .u8 119, .int .u8 104, .int .u8 97, .int .u8 116, .int .u8 32, .int .u8 100, .int .u8 111, .int .u8 32, .int .u8 121, .int .u8 97, .int .u8 32, .int .u8 119, .int .u8 97, .int .u8 110, .int .u8 116, .int .u8 32] 5 (16, 17))) 22 5 #[.int .u8 102, .int .u8 111, .int .u8 114, .int .u8 32, .int .u8 110, .int .u8 111, .int .u8 116, .int .u8 104, .int .u8 105, .int .u8 110, .int .u8 103, .int .u8 63] 12 12 (w7.heap.size + 1 + 1) (by simp) Tryd.underlying22 Tryd.underlying5
  have HC : Hid (∀ t, Calls Tryd.prog 10 #[.int .i64 256, .slice (some ⟨w7.heap.size, 0, none⟩) 4 4, .slice (some ⟨w7.heap.size + 1 + 1 + 1, 0, none⟩) 2 2] ((((w7.alloc (.cells #[.int .u8 74, .int .u8 101, .int .u8 102, .int .u8 101] 5 (4, 5))).alloc (.cells #[.int .u8 119, .int .u8 104, .int .u8 97, .int .u8 116, .int .u8 32, .int .u8 100, .int .u8 111, .int .u8 32, .int .u8 121, .int .u8 97, .int .u8 32, .int .u8 119, .int .u8 97, .int .u8 110, .int .u8 116, .int .u8 32] 5 (16, 17))).alloc (.cells #[.int .u8 102, .int .u8 111, .int .u8 114, .int .u8 32, .int .u8 110, .int .u8 111, .int .u8 116, .int .u8 104, .int .u8 105, .int .u8 110, .int .u8 103, .int .u8 63] 5 (12, 13))).alloc (.cells #[.slice (some ⟨w7.heap.size + 1, 0, none⟩) 16 16, .slice (some ⟨w7.heap.size + 1 + 1, 0, none⟩) 12 12] t)) fun e w' => Hid (∃ b, e = .returned (.tuple #[.slice (some ⟨b, 0, none⟩) 32 32, .int .i64 0]) ∧ View w' (.slice (some ⟨b, 0, none⟩) 32 32) [91, 220, 193, 70, 191, 96, 117, 78, 106, 4, 36, 38, 8, 149, 117, 199, 90, 0, 63, 8, 157, 39, 57, 131, 157, 236, 88, 185, 100, 236, 56, 67] ∧ Below w7.heap.size w7 w')) := by
    intro t
    have b1 := below_alloc1 w7 (.cells #[.int .u8 74, .int .u8 101, .int .u8 102, .int .u8 101] 5 (4, 5))
    have b2 := below_alloc1 (w7.alloc (.cells #[.int .u8 74, .int .u8 101, .int .u8 102, .int .u8 101] 5 (4, 5))) (.cells #[.int .u8 119, .int .u8 104, .int .u8 97, .int .u8 116, .int .u8 32, .int .u8 100, .int .u8 111, .int .u8 32, .int .u8 121, .int .u8 97, .int .u8 32, .int .u8 119, .int .u8 97, .int .u8 110, .int .u8 116, .int .u8 32] 5 (16, 17))
    have b3 := below_alloc1 ((w7.alloc (.cells #[.int .u8 74, .int .u8 101, .int .u8 102, .int .u8 101] 5 (4, 5))).alloc (.cells #[.int .u8 119, .int .u8 104, .int .u8 97, .int .u8 116, .int .u8 32, .int .u8 100, .int .u8 111, .int .u8 32, .int .u8 121, .int .u8 97, .int .u8 32, .int .u8 119, .int .u8 97, .int .u8 110, .int .u8 116, .int .u8 32] 5 (16, 17))) (.cells #[.int .u8 102, .int .u8 111, .int .u8 114, .int .u8 32, .int .u8 110, .int .u8 111, .int .u8 116, .int .u8 104, .int .u8 105, .int .u8 110, .int .u8 103, .int .u8 63] 5 (12, 13))
    have s1 : (w7.alloc (.cells #[.int .u8 74, .int .u8 101, .int .u8 102, .int .u8 101] 5 (4, 5))).heap.size = w7.heap.size + 1 := by simp
    have s2 : ((w7.alloc (.cells #[.int .u8 74, .int .u8 101, .int .u8 102, .int .u8 101] 5 (4, 5))).alloc (.cells #[.int .u8 119, .int .u8 104, .int .u8 97, .int .u8 116, .int .u8 32, .int .u8 100, .int .u8 111, .int .u8 32, .int .u8 121, .int .u8 97, .int .u8 32, .int .u8 119, .int .u8 97, .int .u8 110, .int .u8 116, .int .u8 32] 5 (16, 17))).heap.size = w7.heap.size + 1 + 1 := by simp
    have s3 : (((w7.alloc (.cells #[.int .u8 74, .int .u8 101, .int .u8 102, .int .u8 101] 5 (4, 5))).alloc (.cells #[.int .u8 119, .int .u8 104, .int .u8 97, .int .u8 116, .int .u8 32, .int .u8 100, .int .u8 111, .int .u8 32, .int .u8 121, .int .u8 97, .int .u8 32, .int .u8 119, .int .u8 97, .int .u8 110, .int .u8 116, .int .u8 32] 5 (16, 17))).alloc (.cells #[.int .u8 102, .int .u8 111, .int .u8 114, .int .u8 32, .int .u8 110, .int .u8 111, .int .u8 116, .int .u8 104, .int .u8 105, .int .u8 110, .int .u8 103, .int .u8 63] 5 (12, 13))).heap.size = w7.heap.size + 1 + 1 + 1 := by simp
    have v1 := view_const w7 w7.heap.size #[.int .u8 74, .int .u8 101, .int .u8 102, .int .u8 101] (4, 5) [74, 101, 102, 101] 4 rfl rfl rfl (by decide)
    have v2 := view_const (w7.alloc (.cells #[.int .u8 74, .int .u8 101, .int .u8 102, .int .u8 101] 5 (4, 5))) (w7.heap.size + 1) #[.int .u8 119, .int .u8 104, .int .u8 97, .int .u8 116, .int .u8 32, .int .u8 100, .int .u8 111, .int .u8 32, .int .u8 121, .int .u8 97, .int .u8 32, .int .u8 119, .int .u8 97, .int .u8 110, .int .u8 116, .int .u8 32] (16, 17) [119, 104, 97, 116, 32, 100, 111, 32, 121, 97, 32, 119, 97, 110, 116, 32] 16 s1.symm rfl rfl (by decide)
    have v3 := view_const ((w7.alloc (.cells #[.int .u8 74, .int .u8 101, .int .u8 102, .int .u8 101] 5 (4, 5))).alloc (.cells #[.int .u8 119, .int .u8 104, .int .u8 97, .int .u8 116, .int .u8 32, .int .u8 100, .int .u8 111, .int .u8 32, .int .u8 121, .int .u8 97, .int .u8 32, .int .u8 119, .int .u8 97, .int .u8 110, .int .u8 116, .int .u8 32] 5 (16, 17))) (w7.heap.size + 1 + 1) #[.int .u8 102, .int .u8 111, .int .u8 114, .int .u8 32, .int .u8 110, .int .u8 111, .int .u8 116, .int .u8 104, .int .u8 105, .int .u8 110, .int .u8 103, .int .u8 63] (12, 13) [102, 111, 114, 32, 110, 111, 116, 104, 105, 110, 103, 63] 12 s2.symm rfl rfl (by decide)
    have v1' := (v1.kept (fun q hq => b2.block q hq)).kept (fun q hq => b3.block q hq)
    have v2' := v2.kept (fun q hq => b3.block q hq)
    have b4 := below_alloc1 (((w7.alloc (.cells #[.int .u8 74, .int .u8 101, .int .u8 102, .int .u8 101] 5 (4, 5))).alloc (.cells #[.int .u8 119, .int .u8 104, .int .u8 97, .int .u8 116, .int .u8 32, .int .u8 100, .int .u8 111, .int .u8 32, .int .u8 121, .int .u8 97, .int .u8 32, .int .u8 119, .int .u8 97, .int .u8 110, .int .u8 116, .int .u8 32] 5 (16, 17))).alloc (.cells #[.int .u8 102, .int .u8 111, .int .u8 114, .int .u8 32, .int .u8 110, .int .u8 111, .int .u8 116, .int .u8 104, .int .u8 105, .int .u8 110, .int .u8 103, .int .u8 63] 5 (12, 13))) (.cells #[.slice (some ⟨w7.heap.size + 1, 0, none⟩) 16 16, .slice (some ⟨w7.heap.size + 1 + 1, 0, none⟩) 12 12] t)
    have b13 : Below w7.heap.size w7 (((w7.alloc (.cells #[.int .u8 74, .int .u8 101, .int .u8 102, .int .u8 101] 5 (4, 5))).alloc (.cells #[.int .u8 119, .int .u8 104, .int .u8 97, .int .u8 116, .int .u8 32, .int .u8 100, .int .u8 111, .int .u8 32, .int .u8 121, .int .u8 97, .int .u8 32, .int .u8 119, .int .u8 97, .int .u8 110, .int .u8 116, .int .u8 32] 5 (16, 17))).alloc (.cells #[.int .u8 102, .int .u8 111, .int .u8 114, .int .u8 32, .int .u8 110, .int .u8 111, .int .u8 116, .int .u8 104, .int .u8 105, .int .u8 110, .int .u8 103, .int .u8 63] 5 (12, 13))) := b1.trans ((b2.mono (by omega)).trans (b3.mono (by omega)))
    have b14 := b13.trans (b4.mono (by omega))
    have key := dcode 256 (.slice (some ⟨w7.heap.size, 0, none⟩) 4 4) [74, 101, 102, 101] [[119, 104, 97, 116, 32, 100, 111, 32, 121, 97, 32, 119, 97, 110, 116, 32], [102, 111, 114, 32, 110, 111, 116, 104, 105, 110, 103, 63]] (.slice (some ⟨w7.heap.size + 1 + 1 + 1, 0, none⟩) 2 2) _ (show Known 256 by unfold Known; decide) (v1'.kept (fun q hq => b4.block q hq)) (by show _ ≤ _; decide) (fun x g hx hg => by
      have hp := parts2_alloc (u := ((w7.alloc (.cells #[.int .u8 74, .int .u8 101, .int .u8 102, .int .u8 101] 5 (4, 5))).alloc (.cells #[.int .u8 119, .int .u8 104, .int .u8 97, .int .u8 116, .int .u8 32, .int .u8 100, .int .u8 111, .int .u8 32, .int .u8 121, .int .u8 97, .int .u8 32, .int .u8 119, .int .u8 97, .int .u8 110, .int .u8 116, .int .u8 32] 5 (16, 17))).alloc (.cells #[.int .u8 102, .int .u8 111, .int .u8 114, .int .u8 32, .int .u8 110, .int .u8 111, .int .u8 116, .int .u8 104, .int .u8 105, .int .u8 110, .int .u8 103, .int .u8 63] 5 (12, 13))) t (.slice (some ⟨w7.heap.size + 1, 0, none⟩) 16 16) (.slice (some ⟨w7.heap.size + 1 + 1, 0, none⟩) 12 12) [119, 104, 97, 116, 32, 100, 111, 32, 121, 97, 32, 119, 97, 110, 116, 32] [102, 111, 114, 32, 110, 111, 116, 104, 105, 110, 103, 63] g v2' v3 (by rw [size_alloc1] at hg; omega) (fun h0 b off l c e => by have := view_lt v2' h0 b off l c e; rw [size_alloc1] at hg; omega) (fun h0 b off l c e => by have := view_lt v3 h0 b off l c e; rw [size_alloc1] at hg; omega)
      rw [s3] at hp
      exact parts_keep hp (fun q hq => hx.block q hq)) (hT.out.below (HTw7.out.2.trans (b14.mono HTw7.out.2.size)) hT4) (by show _ ≤ _; decide)
    refine key.mono ?_
    rintro e w' ⟨b, q1, q2, q3⟩
    refine ⟨b, q1, viewOwns (B := w7.heap.size) ?_ rfl, b14.trans (q3.mono (by rw [size_alloc1]; omega))⟩
    rw [show ([[119, 104, 97, 116, 32, 100, 111, 32, 121, 97, 32, 119, 97, 110, 116, 32], [102, 111, 114, 32, 110, 111, 116, 104, 105, 110, 103, 63]] : List (List Int)).flatten = [119, 104, 97, 116, 32, 100, 111, 32, 121, 97, 32, 119, 97, 110, 116, 32, 102, 111, 114, 32, 110, 111, 116, 104, 105, 110, 103, 63] from rfl, mj] at q2
    exact owns_mono q2 (by rw [size_alloc1]; omega)
  go_wp2_with (go_at_call 10; refine (HC.out _).mono ?_)
  intro e20 w20 hh
  obtain ⟨bc, rfl, hvc, hb20⟩ := hh.out
  have HB20 : Hid (Below w.heap.size w w20) := HTw7.out.2.trans (hb20.mono HTw7.out.2.size)
  have HX20 : Hid (Calls Tryd.prog 12 #[.slice (some ⟨bc, 0, none⟩) 32 32] w20 fun e w' => e = .returned (.string Sg) ∧ Below w20.heap.size w20 w') := by
    rw [← HSg.out]
    exact hex_any _ _ w20 (by decide) (allBytes_of (by decide)) hvc
  clear hh hvc hb20 HC kd3 kd4 kd5
  go_wp2_with (first
    | (go_at_call 11; refine (num_any _ _ (by decide) (by decide)).mono ?_; rintro e2 wx ⟨rfl, hwx⟩; obtain rfl := hwx.symm)
    | (go_at_call 12; refine HX20.out.mono ?_))
  first | (rintro e21 w21 rfl hb21) | (rintro e21 w21 ⟨rfl, hb21⟩)
  have HB21 : Hid (Below w.heap.size w w21) := HB20.out.trans (hb21.mono HB20.out.size)
  clear hb21 HX20
  have kd6 := Joins.run_convert_bytes_const_at (P := Tryd.prog) (w21) 22 5 #[.int .u8 112, .int .u8 97, .int .u8 115, .int .u8 115, .int .u8 119, .int .u8 111, .int .u8 114, .int .u8 100] 8 8 (w21.heap.size) rfl Tryd.underlying22 Tryd.underlying5
  have kd7 := Joins.run_convert_bytes_const_at (P := Tryd.prog) (w21.alloc (.cells #[.int .u8 112, .int .u8 97, .int .u8 115, .int .u8 115, .int .u8 119, .int .u8 111, .int .u8 114, .int .u8 100] 5 (8, 9))) 22 5 #[.int .u8 115, .int .u8 97, .int .u8 108, .int .u8 116] 4 4 (w21.heap.size + 1) (by simp) Tryd.underlying22 Tryd.underlying5
  have HP : Hid (Calls Tryd.prog 13 #[.int .i64 256, .slice (some ⟨w21.heap.size, 0, none⟩) 8 8, .slice (some ⟨w21.heap.size + 1, 0, none⟩) 4 4, .int .i64 2, .int .i64 32] ((w21.alloc (.cells #[.int .u8 112, .int .u8 97, .int .u8 115, .int .u8 115, .int .u8 119, .int .u8 111, .int .u8 114, .int .u8 100] 5 (8, 9))).alloc (.cells #[.int .u8 115, .int .u8 97, .int .u8 108, .int .u8 116] 5 (4, 5))) fun e w' => Hid (∃ a c, e = .returned (.tuple #[.slice a 32 c, .int .i64 0]) ∧ View w' (.slice a 32 c) [174, 77, 12, 149, 175, 107, 70, 211, 45, 10, 223, 249, 40, 240, 109, 208, 42, 48, 63, 142, 243, 194, 81, 223, 214, 226, 216, 90, 149, 71, 76, 67] ∧ Below w21.heap.size w21 w')) := by
    have b1 := below_alloc1 w21 (.cells #[.int .u8 112, .int .u8 97, .int .u8 115, .int .u8 115, .int .u8 119, .int .u8 111, .int .u8 114, .int .u8 100] 5 (8, 9))
    have b2 := below_alloc1 (w21.alloc (.cells #[.int .u8 112, .int .u8 97, .int .u8 115, .int .u8 115, .int .u8 119, .int .u8 111, .int .u8 114, .int .u8 100] 5 (8, 9))) (.cells #[.int .u8 115, .int .u8 97, .int .u8 108, .int .u8 116] 5 (4, 5))
    have s1 : (w21.alloc (.cells #[.int .u8 112, .int .u8 97, .int .u8 115, .int .u8 115, .int .u8 119, .int .u8 111, .int .u8 114, .int .u8 100] 5 (8, 9))).heap.size = w21.heap.size + 1 := by simp
    have v1 := view_const w21 w21.heap.size #[.int .u8 112, .int .u8 97, .int .u8 115, .int .u8 115, .int .u8 119, .int .u8 111, .int .u8 114, .int .u8 100] (8, 9) [112, 97, 115, 115, 119, 111, 114, 100] 8 rfl rfl rfl (by decide)
    have v2 := view_const (w21.alloc (.cells #[.int .u8 112, .int .u8 97, .int .u8 115, .int .u8 115, .int .u8 119, .int .u8 111, .int .u8 114, .int .u8 100] 5 (8, 9))) (w21.heap.size + 1) #[.int .u8 115, .int .u8 97, .int .u8 108, .int .u8 116] (4, 5) [115, 97, 108, 116] 4 s1.symm rfl rfl (by decide)
    have b12 := b1.trans (b2.mono (by omega))
    have k : Known 256 := by unfold Known; decide
    have q := stretch_ok 256 (some ⟨w21.heap.size, 0, none⟩) (some ⟨w21.heap.size + 1, 0, none⟩) 8 8 4 4 32 [112, 97, 115, 115, 119, 111, 114, 100] [115, 97, 108, 116] 2 1 ((w21.alloc (.cells #[.int .u8 112, .int .u8 97, .int .u8 115, .int .u8 115, .int .u8 119, .int .u8 111, .int .u8 114, .int .u8 100] 5 (8, 9))).alloc (.cells #[.int .u8 115, .int .u8 97, .int .u8 108, .int .u8 116] 5 (4, 5))) k (v1.kept (fun q hq => b2.block q hq)) v2 (hT.out.below (HB21.out.trans (b12.mono HB21.out.size)) hT4) (by decide) (by decide) (by decide) (by decide) (by decide) (by decide) (by show _ = _; kernel_rfl)
    refine q.mono ?_
    rintro e w' ⟨v, q, rfl, q1, q2, q3⟩
    rw [str_take k _ _ 1 32 q q1, ← str_take k _ _ 1 32 1 (by decide), vstr] at q2
    obtain ⟨a, c, rfl⟩ := owns_slice q2
    exact ⟨a, c, rfl, viewOwns q2 rfl, b12.trans (q3.mono (by simp; omega))⟩
  go_wp2_with (go_at_call 13; refine HP.out.mono ?_)
  intro e22 w22 hh
  obtain ⟨ap, cp, rfl, hvp, hb22⟩ := hh.out
  have HB22 : Hid (Below w.heap.size w w22) := HB21.out.trans (hb22.mono HB21.out.size)
  have HX22 : Hid (Calls Tryd.prog 12 #[.slice ap 32 cp] w22 fun e w' => e = .returned (.string Sh) ∧ Below w22.heap.size w22 w') := by
    rw [← HSh.out]
    exact hex_any _ _ w22 (by decide) (allBytes_of (by decide)) hvp
  clear hh hvp hb22 HP kd6 kd7
  go_wp2_with (first
    | (go_at_call 11; refine (num_any _ _ (by decide) (by decide)).mono ?_; rintro e2 wx ⟨rfl, hwx⟩; obtain rfl := hwx.symm)
    | (go_at_call 12; refine HX22.out.mono ?_))
  first | (rintro e23 w23 rfl hb23) | (rintro e23 w23 ⟨rfl, hb23⟩)
  have HB23 : Hid (Below w.heap.size w w23) := HB22.out.trans (hb23.mono HB22.out.size)
  clear hb23 HX22
  have kdx := Joins.run_convert_bytes_const_at (P := Tryd.prog) (w23) 22 5 #[.int .u8 102, .int .u8 111, .int .u8 111, .int .u8 98, .int .u8 97, .int .u8 114] 6 6 (w23.heap.size) rfl Tryd.underlying22 Tryd.underlying5
  have HY : Hid (Calls Tryd.prog 14 #[.slice (some ⟨w23.heap.size, 0, none⟩) 6 6] (w23.alloc (.cells #[.int .u8 102, .int .u8 111, .int .u8 111, .int .u8 98, .int .u8 97, .int .u8 114] 5 (6, 7))) fun e w' => e = .returned (.string Si) ∧ Below w23.heap.size w23 w') := by
    have b1 := below_alloc1 w23 (.cells #[.int .u8 102, .int .u8 111, .int .u8 111, .int .u8 98, .int .u8 97, .int .u8 114] 5 (6, 7))
    refine (b64_view w23.heap.size 6 6 [102, 111, 111, 98, 97, 114] _ Si (by decide) (allBytes_of (by decide)) (view_const w23 w23.heap.size #[.int .u8 102, .int .u8 111, .int .u8 111, .int .u8 98, .int .u8 97, .int .u8 114] (6, 7) [102, 111, 111, 98, 97, 114] 6 rfl rfl rfl (by decide)) (by simp) HSi.out).mono ?_
    rintro e w' ⟨q1, q2⟩
    exact ⟨q1, b1.trans (q2.mono (by simp))⟩
  go_wp2_with (go_at_call 14; refine HY.out.mono ?_)
  first | (rintro e24 w24 rfl hb24) | (rintro e24 w24 ⟨rfl, hb24⟩)
  have HB24 : Hid (Below w.heap.size w w24) := HB23.out.trans (hb24.mono HB23.out.size)
  clear hb24 HY kdx
  have kdx := Joins.run_convert_bytes_const_at (P := Tryd.prog) (w24) 22 5 #[.int .u8 102, .int .u8 111, .int .u8 111, .int .u8 98, .int .u8 97] 5 5 (w24.heap.size) rfl Tryd.underlying22 Tryd.underlying5
  have HY : Hid (Calls Tryd.prog 14 #[.slice (some ⟨w24.heap.size, 0, none⟩) 5 5] (w24.alloc (.cells #[.int .u8 102, .int .u8 111, .int .u8 111, .int .u8 98, .int .u8 97] 5 (5, 6))) fun e w' => e = .returned (.string Sj) ∧ Below w24.heap.size w24 w') := by
    have b1 := below_alloc1 w24 (.cells #[.int .u8 102, .int .u8 111, .int .u8 111, .int .u8 98, .int .u8 97] 5 (5, 6))
    refine (b64_view w24.heap.size 5 5 [102, 111, 111, 98, 97] _ Sj (by decide) (allBytes_of (by decide)) (view_const w24 w24.heap.size #[.int .u8 102, .int .u8 111, .int .u8 111, .int .u8 98, .int .u8 97] (5, 6) [102, 111, 111, 98, 97] 5 rfl rfl rfl (by decide)) (by simp) HSj.out).mono ?_
    rintro e w' ⟨q1, q2⟩
    exact ⟨q1, b1.trans (q2.mono (by simp))⟩
  go_wp2_with (go_at_call 14; refine HY.out.mono ?_)
  first | (rintro e25 w25 rfl hb25) | (rintro e25 w25 ⟨rfl, hb25⟩)
  have HB25 : Hid (Below w.heap.size w w25) := HB24.out.trans (hb25.mono HB24.out.size)
  clear hb25 HY kdx
  have kdx := Joins.run_convert_bytes_const_at (P := Tryd.prog) (w25) 22 5 #[.int .u8 102, .int .u8 111, .int .u8 111, .int .u8 98] 4 4 (w25.heap.size) rfl Tryd.underlying22 Tryd.underlying5
  have HY : Hid (Calls Tryd.prog 14 #[.slice (some ⟨w25.heap.size, 0, none⟩) 4 4] (w25.alloc (.cells #[.int .u8 102, .int .u8 111, .int .u8 111, .int .u8 98] 5 (4, 5))) fun e w' => e = .returned (.string Sk) ∧ Below w25.heap.size w25 w') := by
    have b1 := below_alloc1 w25 (.cells #[.int .u8 102, .int .u8 111, .int .u8 111, .int .u8 98] 5 (4, 5))
    refine (b64_view w25.heap.size 4 4 [102, 111, 111, 98] _ Sk (by decide) (allBytes_of (by decide)) (view_const w25 w25.heap.size #[.int .u8 102, .int .u8 111, .int .u8 111, .int .u8 98] (4, 5) [102, 111, 111, 98] 4 rfl rfl rfl (by decide)) (by simp) HSk.out).mono ?_
    rintro e w' ⟨q1, q2⟩
    exact ⟨q1, b1.trans (q2.mono (by simp))⟩
  go_wp2_with (go_at_call 14; refine HY.out.mono ?_)
  first | (rintro e26 w26 rfl hb26) | (rintro e26 w26 ⟨rfl, hb26⟩)
  have HB26 : Hid (Below w.heap.size w w26) := HB25.out.trans (hb26.mono HB25.out.size)
  clear hb26 HY kdx
  go_wp2
  go_ret
  exact ⟨rfl, HB26.out⟩
end Go.Proofs.YtioggmjocelolacDoor
