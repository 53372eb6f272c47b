import Derived.Test.YtgmfiljjogdccaaDoorJoin
import Derived.Laws.Externs
namespace Go.Proofs.YtgmfiljjogdccaaDoor
open Go.RowKit
set_option linter.unusedVariables false
/-- The bytes of a block. -/
def W4.bytes (s0 : W4) : List Value := [.int .u8 (bt0 s0.a : Nat), .int .u8 (bt1 s0.a : Nat), .int .u8 (bt2 s0.a : Nat), .int .u8 (bt3 s0.a : Nat), .int .u8 (bt0 s0.b : Nat), .int .u8 (bt1 s0.b : Nat), .int .u8 (bt2 s0.b : Nat), .int .u8 (bt3 s0.b : Nat), .int .u8 (bt0 s0.c : Nat), .int .u8 (bt1 s0.c : Nat), .int .u8 (bt2 s0.c : Nat), .int .u8 (bt3 s0.c : Nat), .int .u8 (bt0 s0.d : Nat), .int .u8 (bt1 s0.d : Nat), .int .u8 (bt2 s0.d : Nat), .int .u8 (bt3 s0.d : Nat)]
/-- A stream at t: its key at g, where it began, how far it is. -/
structure StreamAt (w : World) (t g : Nat) (s0 : W4) (n : Nat) : Prop where
  key : w.cell? ⟨t, 0, none⟩ = some (.pointer (some ⟨g, 0, none⟩))
  start : w.rangeAt t 1 s0.bytes
  pos : w.cell? ⟨t, 17, none⟩ = some (.int .u64 (n : Nat))
  room : w.there t 0 18
  here : t < w.heap.size
  ok : s0.ok
  most : n ≤ 1099511627776
theorem StreamAt.below {B : Nat} {w w' : World} {t g n : Nat} {s0 : W4} (h : StreamAt w t g s0 n) (hb : Below B w w') (ht : t < B) : StreamAt w' t g s0 n :=
  ⟨(hb.cell ht).trans h.key, fun j v hv => (hb.cell ht).trans (h.start j v hv), (hb.cell ht).trans h.pos, there_below h.room hb ht, Nat.lt_of_lt_of_le h.here hb.size, h.ok, h.most⟩
theorem left_ok (t g n : Nat) (s0 : W4) (w : World) (h : StreamAt w t g s0 n) : Calls Tryd.prog 47 #[.pointer (some ⟨t, 0, none⟩)] w fun e w' => e = .returned (.int .u64 (1099511627776 - n : Nat)) ∧ w' = w := by
  have c := h.pos
  have hn := h.most
  clear h
  go_enter Tryd.func47, Tryd.ntmps47
  go_wp2
  go_ret
  exact ⟨ret_int (by omega), rfl⟩
/-- The block whose encryption holds byte 16 k. -/
def ctrW (s0 : W4) (k : Nat) : W4 :=
  joinW ((s0.a * 4294967296 + s0.b + (s0.c * 4294967296 + s0.d + k) / 18446744073709551616) % 18446744073709551616) ((s0.c * 4294967296 + s0.d + k) % 18446744073709551616)
theorem ctrW_ok (s0 : W4) (k : Nat) : (ctrW s0 k).ok := joinW_ok (Nat.mod_lt _ (by decide)) (Nat.mod_lt _ (by decide))
theorem add64_run (x y : Nat) (w : World) : (callFunc 71 #[.int .u64 (x : Nat), .int .u64 (y : Nat), .int .u64 0]).run Tryd.prog w = .ok (.value (.tuple #[.int .u64 ((x + y) % 18446744073709551616 : Nat), .int .u64 ((x + y) / 18446744073709551616 : Nat)])) w := by
  have h := run_callFunc_extern (P := Tryd.prog) Tryd.func71 (by kernel_rfl) (by kernel_rfl) (by kernel_rfl) (e := add64Entry) (by kernel_rfl) #[.int .u64 (x : Nat), .int .u64 (y : Nat), .int .u64 0] w
  rw [h, run_add64 (P := Tryd.prog) (x : Nat) (y : Nat) 0 (by omega) (by omega) (by omega) (by omega) w]
  simp only [Result.andThen_ok]
  rw [show (((x : Nat) : Int) + ((y : Nat) : Int) + 0) % 18446744073709551616 = (((x + y) % 18446744073709551616 : Nat) : Int) by omega, show (((x : Nat) : Int) + ((y : Nat) : Int) + 0) / 18446744073709551616 = (((x + y) / 18446744073709551616 : Nat) : Int) by omega]
set_option maxHeartbeats 1600000 in
set_option maxRecDepth 100000 in
theorem counter_ok (t g n : Nat) (s0 : W4) (w : World) (h : StreamAt w t g s0 n) : Calls Tryd.prog 48 #[.pointer (some ⟨t, 0, none⟩)] w fun e w' => e = .returned (ctrW s0 (n / 16)).blk ∧ Below w.heap.size w w' := by
  obtain ⟨hi, HHI⟩ : ∃ x, Hid (x = s0.a * 4294967296 + s0.b) := ⟨_, rfl⟩
  obtain ⟨lo, HLO⟩ : ∃ x, Hid (x = s0.c * 4294967296 + s0.d) := ⟨_, rfl⟩
  obtain ⟨k, HK⟩ : ∃ x, Hid (x = n / 16) := ⟨_, rfl⟩
  have HW : Hid (StreamAt w t g s0 n) := h
  have HB1 : Hid (Below w.heap.size w (w.alloc (.cells #[.int .u8 0, .int .u8 0, .int .u8 0, .int .u8 0, .int .u8 0, .int .u8 0, .int .u8 0, .int .u8 0, .int .u8 0, .int .u8 0, .int .u8 0, .int .u8 0, .int .u8 0, .int .u8 0, .int .u8 0, .int .u8 0] 42))) := (Below.refl _ w).alloc (Nat.le_refl _) _
  have HS1 : Hid (StreamAt (w.alloc (.cells #[.int .u8 0, .int .u8 0, .int .u8 0, .int .u8 0, .int .u8 0, .int .u8 0, .int .u8 0, .int .u8 0, .int .u8 0, .int .u8 0, .int .u8 0, .int .u8 0, .int .u8 0, .int .u8 0, .int .u8 0, .int .u8 0] 42)) t g s0 n) := h.below HB1.out h.here
  have HR1 : Hid ((w.alloc (.cells #[.int .u8 0, .int .u8 0, .int .u8 0, .int .u8 0, .int .u8 0, .int .u8 0, .int .u8 0, .int .u8 0, .int .u8 0, .int .u8 0, .int .u8 0, .int .u8 0, .int .u8 0, .int .u8 0, .int .u8 0, .int .u8 0] 42)).there w.heap.size 0 16) := there_new w _ 42 16 (Nat.le_refl _)
  have HSZ : Hid ((w.alloc (.cells #[.int .u8 0, .int .u8 0, .int .u8 0, .int .u8 0, .int .u8 0, .int .u8 0, .int .u8 0, .int .u8 0, .int .u8 0, .int .u8 0, .int .u8 0, .int .u8 0, .int .u8 0, .int .u8 0, .int .u8 0, .int .u8 0] 42)).heap.size = w.heap.size + 1) := by show _ = _; simp
  have HV : Hid (∀ u, Calls Tryd.prog 70 #[.agg #[.int .u8 (bt0 s0.a : Nat), .int .u8 (bt1 s0.a : Nat), .int .u8 (bt2 s0.a : Nat), .int .u8 (bt3 s0.a : Nat), .int .u8 (bt0 s0.b : Nat), .int .u8 (bt1 s0.b : Nat), .int .u8 (bt2 s0.b : Nat), .int .u8 (bt3 s0.b : Nat), .int .u8 (bt0 s0.c : Nat), .int .u8 (bt1 s0.c : Nat), .int .u8 (bt2 s0.c : Nat), .int .u8 (bt3 s0.c : Nat), .int .u8 (bt0 s0.d : Nat), .int .u8 (bt1 s0.d : Nat), .int .u8 (bt2 s0.d : Nat), .int .u8 (bt3 s0.d : Nat)]] u fun e u' => e = .returned (.tuple #[.int .u64 (hi : Nat), .int .u64 (lo : Nat)]) ∧ Below u.heap.size u u') := fun u => by rw [HHI.out, HLO.out]; exact halves_ok s0 h.ok u
  have hadd : ∀ u, (callFunc 71 #[.int .u64 (lo : Nat), .int .u64 (k : Nat), .int .u64 0]).run Tryd.prog u = .ok (.value (.tuple #[.int .u64 ((lo + k) % 18446744073709551616 : Nat), .int .u64 ((lo + k) / 18446744073709551616 : Nat)])) u := add64_run lo k
  obtain ⟨lo', HLO'⟩ : ∃ x, Hid (x = (lo + k) % 18446744073709551616) := ⟨_, rfl⟩
  obtain ⟨cy, HCY⟩ : ∃ x, Hid (x = (lo + k) / 18446744073709551616) := ⟨_, rfl⟩
  rw [← HLO'.out, ← HCY.out] at hadd
  have hdiv : ((n : Nat) : Int) / 16 = (k : Nat) := by have := HK.out; omega
  have hn40 := h.most
  clear h
  go_enter Tryd.func48, Tryd.ntmps48
  go_upto_region 1 with fail
  generalize w.alloc (.cells #[.int .u8 0, .int .u8 0, .int .u8 0, .int .u8 0, .int .u8 0, .int .u8 0, .int .u8 0, .int .u8 0, .int .u8 0, .int .u8 0, .int .u8 0, .int .u8 0, .int .u8 0, .int .u8 0, .int .u8 0, .int .u8 0] 42) = w1 at HB1 HS1 HR1 HSZ ⊢
  have cp : w1.cell? ⟨t, 17, none⟩ = some (.int .u64 (n : Nat)) := HS1.out.pos
  go_wp2_with (first
    | (refine wpList_load_mid (by rfl) 42 (.tmp 9) (by rfl) t 1 (by rfl) [.int .u8 (bt0 s0.a : Nat), .int .u8 (bt1 s0.a : Nat), .int .u8 (bt2 s0.a : Nat), .int .u8 (bt3 s0.a : Nat), .int .u8 (bt0 s0.b : Nat), .int .u8 (bt1 s0.b : Nat), .int .u8 (bt2 s0.b : Nat), .int .u8 (bt3 s0.b : Nat), .int .u8 (bt0 s0.c : Nat), .int .u8 (bt1 s0.c : Nat), .int .u8 (bt2 s0.c : Nat), .int .u8 (bt3 s0.c : Nat), .int .u8 (bt0 s0.d : Nat), .int .u8 (bt1 s0.d : Nat), .int .u8 (bt2 s0.d : Nat), .int .u8 (bt3 s0.d : Nat)] _ HS1.out.start Tryd.underlying42 rfl size42 ?_)
    | (go_at_call 70; refine (HV.out _).mono ?_))
  rintro e2 w2 ⟨rfl, hb2⟩
  have HB2 : Hid (Below w1.heap.size w1 w2) := hb2
  have cp2 : w2.cell? ⟨t, 17, none⟩ = some (.int .u64 (n : Nat)) := (hb2.cell HS1.out.here).trans cp
  clear hb2
  obtain ⟨hi', HHI'⟩ : ∃ x, Hid (x = (hi + cy) % 18446744073709551616) := ⟨_, rfl⟩
  have hwr : IntKind.u64.wrap ((hi : Int) + (cy : Int)) = ((hi' : Nat) : Int) := by rw [HHI'.out]; simp [IntKind.wrap, IntKind.bits, IntKind.signed]
  have KJ : Hid (∀ u, Calls Tryd.prog 72 #[.int .u64 (hi' : Nat), .int .u64 (lo' : Nat)] u fun e u' => e = .returned (.agg (joinW hi' lo').bytes.toArray) ∧ Below u.heap.size u u') := fun u => join_ok hi' lo' (by rw [HHI'.out]; exact Nat.mod_lt _ (by decide)) (by rw [HLO'.out]; exact Nat.mod_lt _ (by decide)) u
  obtain ⟨L, HL⟩ : ∃ L, Hid (L = (joinW hi' lo').bytes) := ⟨_, rfl⟩
  rw [← HL.out] at KJ
  have HLl : Hid (L.length = 16) := by show _ = _; rw [HL.out]; rfl
  have HLo : Hid (L.toArray.all (·.oneCell') = true) := by show _ = _; rw [HL.out]; kernel_rfl
  go_wp2_with (first | (go_at_call 72; refine (KJ.out _).mono ?_))
  rintro e3 w3 ⟨rfl, hb3⟩
  have H3 : Hid (w3.there w.heap.size 0 L.length ∧ Below w.heap.size w w3) := by
    have hz := HSZ.out
    have h2 := HB2.out.size
    have hb : Below w1.heap.size w1 w3 := HB2.out.trans (hb3.mono h2)
    rw [HLl.out]
    exact ⟨there_below HR1.out hb (by omega), HB1.out.trans (hb.mono (by omega))⟩
  clear hb3 KJ
  have hst : Sem.run Tryd.prog (storeCells ⟨w.heap.size, 0, none⟩ L) w3 = .ok () (w3.setCells w.heap.size 0 L) :=
    run_storeCells_cells (P := Tryd.prog) w.heap.size 0 L 0 w3 (fun j hj => by have := (H3.out.1 j hj).1; simpa using this) (fun j hj => by have := (H3.out.1 j hj).2; simpa using this) (fun v hv => (Array.all_eq_true_iff_forall_mem.1 HLo.out) v (by simpa using hv))
  have hll := HLl.out
  go_wp2_with (first
    | (refine wpList_store_mid (by rfl) 42 (.tmp 2) (.tmp 28) (by rfl) w.heap.size 0 L.toArray (by rfl) (by rfl) H3.out.1 (by rw [List.size_toArray, HLl.out]; exact size42) HLo.out ?_)
    | fail)
  refine ret_array L Tryd.results48 rfl (World.rangeAt_setCells_same _ _ _ _ H3.out.1) Tryd.underlying42 rfl (by rw [HLl.out]; exact size42) ⟨?_, belowB_setCells _ (Nat.le_refl _) _ _ _ H3.out.2⟩
  rw [HL.out, HHI'.out, HLO'.out, HCY.out, HHI.out, HLO.out, HK.out]
  exact rfl
end Go.Proofs.YtgmfiljjogdccaaDoor
