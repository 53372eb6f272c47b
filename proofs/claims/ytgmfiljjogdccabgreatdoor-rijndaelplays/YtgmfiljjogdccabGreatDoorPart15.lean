import Derived.Test.YtgmfiljjogdccabGreatDoorPart14
import Derived.Laws.Externs
import Derived.Test.YtgmfiljjogdccabGreatDoorInv2
import Derived.Test.YtgmfiljjogdccabGreatDoorPart03
import Derived.Laws.CopyOwn
namespace Go.Proofs.YtgmfiljjogdccabGreatDoor
open Go.RowKit
set_option linter.unusedVariables false
/-- The bytes of a block. -/
def W4.bytes (s0 : W4) : List Value := [.int .u8 (bt0 s0.a : Nat), .int .u8 (bt1 s0.a : Nat), .int .u8 (bt2 s0.a : Nat), .int .u8 (bt3 s0.a : Nat), .int .u8 (bt0 s0.b : Nat), .int .u8 (bt1 s0.b : Nat), .int .u8 (bt2 s0.b : Nat), .int .u8 (bt3 s0.b : Nat), .int .u8 (bt0 s0.c : Nat), .int .u8 (bt1 s0.c : Nat), .int .u8 (bt2 s0.c : Nat), .int .u8 (bt3 s0.c : Nat), .int .u8 (bt0 s0.d : Nat), .int .u8 (bt1 s0.d : Nat), .int .u8 (bt2 s0.d : Nat), .int .u8 (bt3 s0.d : Nat)]
/-- A stream at t: its key at g, where it began, how far it is. -/
structure StreamAt (w : World) (t g : Nat) (s0 : W4) (n : Nat) : Prop where
 key : w.cell? ⟨t, 0, none⟩ = some (.pointer (some ⟨g, 0, none⟩))
 start : w.rangeAt t 1 s0.bytes
 pos : w.cell? ⟨t, 17, none⟩ = some (.int .u64 (n : Nat))
 room : w.there t 0 18
 here : t < w.heap.size
 ok : s0.ok
 most : n ≤ 1099511627776
theorem StreamAt.below {B : Nat} {w w' : World} {t g n : Nat} {s0 : W4} (h : StreamAt w t g s0 n) (hb : Below B w w') (ht : t < B) : StreamAt w' t g s0 n :=
 ⟨(hb.cell ht).trans h.key, fun j v hv => (hb.cell ht).trans (h.start j v hv), (hb.cell ht).trans h.pos, there_below h.room hb ht, Nat.lt_of_lt_of_le h.here hb.size, h.ok, h.most⟩
theorem left_ok (t g n : Nat) (s0 : W4) (w : World) (h : StreamAt w t g s0 n) : Calls Tryz.prog 43 #[.pointer (some ⟨t, 0, none⟩)] w fun e w' => e = .returned (.int .u64 (1099511627776 - n : Nat)) ∧ w' = w := by
 have c := h.pos
 have hn := h.most
 clear h
 go_enter Tryz.func43, Tryz.ntmps43
 go_wp2
 go_ret
 exact ⟨ret_int (by omega), rfl⟩
/-- The block whose encryption holds byte 16 k. -/
def ctrW (s0 : W4) (k : Nat) : W4 :=
 joinW ((s0.a * 4294967296 + s0.b + (s0.c * 4294967296 + s0.d + k) / 18446744073709551616) % 18446744073709551616) ((s0.c * 4294967296 + s0.d + k) % 18446744073709551616)
theorem ctrW_ok (s0 : W4) (k : Nat) : (ctrW s0 k).ok := joinW_ok (Nat.mod_lt _ (by decide)) (Nat.mod_lt _ (by decide))
theorem add64_run (x y : Nat) (w : World) : (callFunc 77 #[.int .u64 (x : Nat), .int .u64 (y : Nat), .int .u64 0]).run Tryz.prog w = .ok (.value (.tuple #[.int .u64 ((x + y) % 18446744073709551616 : Nat), .int .u64 ((x + y) / 18446744073709551616 : Nat)])) w := by
 have h := run_callFunc_extern (P := Tryz.prog) Tryz.func77 (by kernel_rfl) (by kernel_rfl) (by kernel_rfl) (e := add64Entry) (by kernel_rfl) #[.int .u64 (x : Nat), .int .u64 (y : Nat), .int .u64 0] w
 rw [h, run_add64 (P := Tryz.prog) (x : Nat) (y : Nat) 0 (by omega) (by omega) (by omega) (by omega) w]
 simp only [Result.andThen_ok]
 rw [show (((x : Nat) : Int) + ((y : Nat) : Int) + 0) % 18446744073709551616 = (((x + y) % 18446744073709551616 : Nat) : Int) by omega, show (((x : Nat) : Int) + ((y : Nat) : Int) + 0) / 18446744073709551616 = (((x + y) / 18446744073709551616 : Nat) : Int) by omega]
set_option maxHeartbeats 1600000 in
set_option maxRecDepth 100000 in
theorem counter_ok (t g n : Nat) (s0 : W4) (w : World) (h : StreamAt w t g s0 n) : Calls Tryz.prog 45 #[.pointer (some ⟨t, 0, none⟩)] w fun e w' => e = .returned (ctrW s0 (n / 16)).blk ∧ Below w.heap.size w w' := by
 obtain ⟨hi, HHI⟩ : ∃ x, Hid (x = s0.a * 4294967296 + s0.b) := ⟨_, rfl⟩
 obtain ⟨lo, HLO⟩ : ∃ x, Hid (x = s0.c * 4294967296 + s0.d) := ⟨_, rfl⟩
 obtain ⟨k, HK⟩ : ∃ x, Hid (x = n / 16) := ⟨_, rfl⟩
 have HW : Hid (StreamAt w t g s0 n) := h
 have HB1 : Hid (Below w.heap.size w (w.alloc (.cells #[.int .u8 0, .int .u8 0, .int .u8 0, .int .u8 0, .int .u8 0, .int .u8 0, .int .u8 0, .int .u8 0, .int .u8 0, .int .u8 0, .int .u8 0, .int .u8 0, .int .u8 0, .int .u8 0, .int .u8 0, .int .u8 0] 38))) := (Below.refl _ w).alloc (Nat.le_refl _) _
 have HS1 : Hid (StreamAt (w.alloc (.cells #[.int .u8 0, .int .u8 0, .int .u8 0, .int .u8 0, .int .u8 0, .int .u8 0, .int .u8 0, .int .u8 0, .int .u8 0, .int .u8 0, .int .u8 0, .int .u8 0, .int .u8 0, .int .u8 0, .int .u8 0, .int .u8 0] 38)) t g s0 n) := h.below HB1.out h.here
 have HR1 : Hid ((w.alloc (.cells #[.int .u8 0, .int .u8 0, .int .u8 0, .int .u8 0, .int .u8 0, .int .u8 0, .int .u8 0, .int .u8 0, .int .u8 0, .int .u8 0, .int .u8 0, .int .u8 0, .int .u8 0, .int .u8 0, .int .u8 0, .int .u8 0] 38)).there w.heap.size 0 16) := there_new w _ 38 16 (Nat.le_refl _)
 have HSZ : Hid ((w.alloc (.cells #[.int .u8 0, .int .u8 0, .int .u8 0, .int .u8 0, .int .u8 0, .int .u8 0, .int .u8 0, .int .u8 0, .int .u8 0, .int .u8 0, .int .u8 0, .int .u8 0, .int .u8 0, .int .u8 0, .int .u8 0, .int .u8 0] 38)).heap.size = w.heap.size + 1) := by show _ = _; simp
 have HV : Hid (∀ u, Calls Tryz.prog 76 #[.agg #[.int .u8 (bt0 s0.a : Nat), .int .u8 (bt1 s0.a : Nat), .int .u8 (bt2 s0.a : Nat), .int .u8 (bt3 s0.a : Nat), .int .u8 (bt0 s0.b : Nat), .int .u8 (bt1 s0.b : Nat), .int .u8 (bt2 s0.b : Nat), .int .u8 (bt3 s0.b : Nat), .int .u8 (bt0 s0.c : Nat), .int .u8 (bt1 s0.c : Nat), .int .u8 (bt2 s0.c : Nat), .int .u8 (bt3 s0.c : Nat), .int .u8 (bt0 s0.d : Nat), .int .u8 (bt1 s0.d : Nat), .int .u8 (bt2 s0.d : Nat), .int .u8 (bt3 s0.d : Nat)]] u fun e u' => e = .returned (.tuple #[.int .u64 (hi : Nat), .int .u64 (lo : Nat)]) ∧ Below u.heap.size u u') := fun u => by rw [HHI.out, HLO.out]; exact halves_ok s0 h.ok u
 have hadd : ∀ u, (callFunc 77 #[.int .u64 (lo : Nat), .int .u64 (k : Nat), .int .u64 0]).run Tryz.prog u = .ok (.value (.tuple #[.int .u64 ((lo + k) % 18446744073709551616 : Nat), .int .u64 ((lo + k) / 18446744073709551616 : Nat)])) u := add64_run lo k
 obtain ⟨lo', HLO'⟩ : ∃ x, Hid (x = (lo + k) % 18446744073709551616) := ⟨_, rfl⟩
 obtain ⟨cy, HCY⟩ : ∃ x, Hid (x = (lo + k) / 18446744073709551616) := ⟨_, rfl⟩
 rw [← HLO'.out, ← HCY.out] at hadd
 have hdiv : ((n : Nat) : Int) / 16 = (k : Nat) := by have := HK.out; omega
 have hn40 := h.most
 clear h
 go_enter Tryz.func45, Tryz.ntmps45
 go_upto_region 1 with fail
 generalize w.alloc (.cells #[.int .u8 0, .int .u8 0, .int .u8 0, .int .u8 0, .int .u8 0, .int .u8 0, .int .u8 0, .int .u8 0, .int .u8 0, .int .u8 0, .int .u8 0, .int .u8 0, .int .u8 0, .int .u8 0, .int .u8 0, .int .u8 0] 38) = w1 at HB1 HS1 HR1 HSZ ⊢
 have cp : w1.cell? ⟨t, 17, none⟩ = some (.int .u64 (n : Nat)) := HS1.out.pos
 go_wp2_with (first
  | (refine wpList_load_mid (by rfl) 38 (.tmp 9) (by rfl) t 1 (by rfl) [.int .u8 (bt0 s0.a : Nat), .int .u8 (bt1 s0.a : Nat), .int .u8 (bt2 s0.a : Nat), .int .u8 (bt3 s0.a : Nat), .int .u8 (bt0 s0.b : Nat), .int .u8 (bt1 s0.b : Nat), .int .u8 (bt2 s0.b : Nat), .int .u8 (bt3 s0.b : Nat), .int .u8 (bt0 s0.c : Nat), .int .u8 (bt1 s0.c : Nat), .int .u8 (bt2 s0.c : Nat), .int .u8 (bt3 s0.c : Nat), .int .u8 (bt0 s0.d : Nat), .int .u8 (bt1 s0.d : Nat), .int .u8 (bt2 s0.d : Nat), .int .u8 (bt3 s0.d : Nat)] _ HS1.out.start Tryz.underlying38 rfl size42 ?_)
  | (go_at_call 76; refine (HV.out _).mono ?_))
 rintro e2 w2 ⟨rfl, hb2⟩
 have HB2 : Hid (Below w1.heap.size w1 w2) := hb2
 have cp2 : w2.cell? ⟨t, 17, none⟩ = some (.int .u64 (n : Nat)) := (hb2.cell HS1.out.here).trans cp
 clear hb2
 obtain ⟨hi', HHI'⟩ : ∃ x, Hid (x = (hi + cy) % 18446744073709551616) := ⟨_, rfl⟩
 have hwr : IntKind.u64.wrap ((hi : Int) + (cy : Int)) = ((hi' : Nat) : Int) := by rw [HHI'.out]; simp [IntKind.wrap, IntKind.bits, IntKind.signed]
 have KJ : Hid (∀ u, Calls Tryz.prog 78 #[.int .u64 (hi' : Nat), .int .u64 (lo' : Nat)] u fun e u' => e = .returned (.agg (joinW hi' lo').bytes.toArray) ∧ Below u.heap.size u u') := fun u => join_ok hi' lo' (by rw [HHI'.out]; exact Nat.mod_lt _ (by decide)) (by rw [HLO'.out]; exact Nat.mod_lt _ (by decide)) u
 obtain ⟨L, HL⟩ : ∃ L, Hid (L = (joinW hi' lo').bytes) := ⟨_, rfl⟩
 rw [← HL.out] at KJ
 have HLl : Hid (L.length = 16) := by show _ = _; rw [HL.out]; rfl
 have HLo : Hid (L.toArray.all (·.oneCell') = true) := by show _ = _; rw [HL.out]; kernel_rfl
 go_wp2_with (first | (go_at_call 78; refine (KJ.out _).mono ?_))
 rintro e3 w3 ⟨rfl, hb3⟩
 have H3 : Hid (w3.there w.heap.size 0 L.length ∧ Below w.heap.size w w3) := by
  have hz := HSZ.out
  have h2 := HB2.out.size
  have hb : Below w1.heap.size w1 w3 := HB2.out.trans (hb3.mono h2)
  rw [HLl.out]
  exact ⟨there_below HR1.out hb (by omega), HB1.out.trans (hb.mono (by omega))⟩
 clear hb3 KJ
 have hst : Sem.run Tryz.prog (storeCells ⟨w.heap.size, 0, none⟩ L) w3 = .ok () (w3.setCells w.heap.size 0 L) :=
  run_storeCells_cells (P := Tryz.prog) w.heap.size 0 L 0 w3 (fun j hj => by have := (H3.out.1 j hj).1; simpa using this) (fun j hj => by have := (H3.out.1 j hj).2; simpa using this) (fun v hv => (Array.all_eq_true_iff_forall_mem.1 HLo.out) v (by simpa using hv))
 have hll := HLl.out
 go_wp2_with (first
  | (refine wpList_store_mid (by rfl) 38 (.tmp 2) (.tmp 28) (by rfl) w.heap.size 0 L.toArray (by rfl) (by rfl) H3.out.1 (by rw [List.size_toArray, HLl.out]; exact size42) HLo.out ?_)
  | fail)
 refine ret_array L Tryz.results45 rfl (World.rangeAt_setCells_same _ _ _ _ H3.out.1) Tryz.underlying38 rfl (by rw [HLl.out]; exact size42) ⟨?_, belowB_setCells _ (Nat.le_refl _) _ _ _ H3.out.2⟩
 rw [HL.out, HHI'.out, HLO'.out, HCY.out, HHI.out, HLO.out, HK.out]
 exact rfl
end Go.Proofs.YtgmfiljjogdccabGreatDoor
namespace Go.Proofs.YtgmfiljjogdccabGreatDoor
open Go.RowKit
set_option linter.unusedVariables false
/-- A block's halves. -/
def W4.hi (s : W4) : Nat := s.a * 4294967296 + s.b
def W4.lo (s : W4) : Nat := s.c * 4294967296 + s.d
theorem W4.hi_lt {s : W4} (h : s.ok) : s.hi < 18446744073709551616 := by unfold W4.ok at h; unfold W4.hi; omega
theorem W4.lo_lt {s : W4} (h : s.ok) : s.lo < 18446744073709551616 := by unfold W4.ok at h; unfold W4.lo; omega
theorem joinW_hi (h l : Nat) : (joinW h l).hi = h := by unfold joinW W4.hi; simp only; omega
theorem joinW_lo (h l : Nat) : (joinW h l).lo = l := by unfold joinW W4.lo; simp only; omega
theorem joinW_halves {s : W4} (h : s.ok) : joinW s.hi s.lo = s := by
 obtain ⟨a, b, c, d⟩ := s
 unfold W4.ok at h
 unfold joinW W4.hi W4.lo
 simp only at h ⊢
 congr 1 <;> omega
/-- A row of halves with one of them set. -/
def setR (R : Nat → Nat) (i v : Nat) : Nat → Nat := fun j => if j = i then v else R j
theorem setR_same (R : Nat → Nat) (i v : Nat) : setR R i v i = v := by simp [setR]
theorem setR_other (R : Nat → Nat) {i j : Nat} (v : Nat) (h : j ≠ i) : setR R i v j = R j := by simp [setR, h]
theorem setR_setR (R : Nat → Nat) (i v u : Nat) : setR (setR R i v) i u = setR R i u := by funext j; simp only [setR]; split <;> rfl
theorem setR_self (R : Nat → Nat) (i : Nat) : setR R i (R i) = R := by funext j; simp only [setR]; split <;> simp_all
/-- One step of wrapping: the number of the step from 0 on. -/
def wrStep (nr : Nat) (K : Nat → Nat) (n : Nat) (k : Nat) (x : Nat × (Nat → Nat)) : Nat × (Nat → Nat) :=
 ((encW nr K (joinW x.1 (x.2 (k % n)))).hi ^^^ (k + 1), setR x.2 (k % n) (encW nr K (joinW x.1 (x.2 (k % n)))).lo)
def unStep (nr : Nat) (K : Nat → Nat) (n : Nat) (k : Nat) (x : Nat × (Nat → Nat)) : Nat × (Nat → Nat) :=
 ((dcW nr K (joinW (x.1 ^^^ (k + 1)) (x.2 (k % n)))).hi, setR x.2 (k % n) (dcW nr K (joinW (x.1 ^^^ (k + 1)) (x.2 (k % n)))).lo)
/-- Steps 0, 1, .., k-1. -/
def fore {α : Type} (f : Nat → α → α) (x : α) : Nat → α
 | 0 => x
 | k + 1 => f k (fore f x k)
/-- Steps k-1, k-2, .., 0. -/
def aft {α : Type} (f : Nat → α → α) : Nat → α → α
 | 0, x => x
 | k + 1, x => aft f k (f k x)
theorem fore_succ {α : Type} (f : Nat → α → α) (x : α) (k : Nat) : fore f x (k + 1) = f k (fore f x k) := rfl
theorem aft_succ {α : Type} (f : Nat → α → α) (x : α) (k : Nat) : aft f (k + 1) x = aft f k (f k x) := rfl
theorem fore_zero {α : Type} (f : Nat → α → α) (x : α) : fore f x 0 = x := rfl
theorem aft_zero {α : Type} (f : Nat → α → α) (x : α) : aft f 0 x = x := rfl
theorem fore_all {α : Type} (f : Nat → α → α) (P : α → Prop) (B : Nat) (h : ∀ k x, k < B → P x → P (f k x)) (x : α) (hx : P x) (k : Nat) : k ≤ B → P (fore f x k) := by
 induction k with
 | zero => intro _; exact hx
 | succ k ih => intro hk; rw [fore_succ]; exact h k _ (by omega) (ih (by omega))
theorem aft_fore {α : Type} (f g : Nat → α → α) (P : α → Prop) (B : Nat) (h : ∀ k x, k < B → P x → P (f k x)) (hu : ∀ k x, k < B → P x → g k (f k x) = x) (x : α) (hx : P x) (k : Nat) : k ≤ B → aft g k (fore f x k) = x := by
 induction k with
 | zero => intro _; rfl
 | succ k ih => intro hk; rw [aft_succ, fore_succ, hu k _ (by omega) (fore_all f P B h x hx k (by omega))]; exact ih (by omega)
theorem fore_aft {α : Type} (f g : Nat → α → α) (P : α → Prop) (B : Nat) (h : ∀ k x, k < B → P x → P (g k x)) (hu : ∀ k x, k < B → P x → f k (g k x) = x) (k : Nat) : k ≤ B → ∀ x, P x → fore f (aft g k x) k = x := by
 induction k with
 | zero => intro _ _ _; rfl
 | succ k ih => intro hk x hx; rw [fore_succ, aft_succ, ih (by omega) _ (h k x (by omega) hx)]; exact hu k x (by omega) hx
def Rok (x : Nat × (Nat → Nat)) : Prop := x.1 < 18446744073709551616 ∧ ∀ i, x.2 i < 18446744073709551616
theorem setR_lt {R : Nat → Nat} {i v B : Nat} (h : ∀ j, R j < B) (hv : v < B) (j : Nat) : setR R i v j < B := by
 unfold setR; split <;> simp_all
theorem xor_back (a b : Nat) : (a ^^^ b) ^^^ b = a := by rw [Nat.xor_assoc, Nat.xor_self, Nat.xor_zero]
theorem wrStep_ok {K : Nat → Nat} (hK : ∀ i, K i < 4294967296) (nr n k : Nat) (hk : k < 4294967296) {x : Nat × (Nat → Nat)} (h : Rok x) : Rok (wrStep nr K n k x) := by
 have ho := encW_ok hK nr (joinW x.1 (x.2 (k % n)))
 exact ⟨Nat.xor_lt_two_pow (n := 64) (W4.hi_lt ho) (by omega), setR_lt h.2 (W4.lo_lt ho)⟩
theorem unStep_ok {K : Nat → Nat} (hK : ∀ i, K i < 4294967296) (nr n k : Nat) {x : Nat × (Nat → Nat)} (h : Rok x) : Rok (unStep nr K n k x) := by
 have ho := dcW_ok hK nr (joinW (x.1 ^^^ (k + 1)) (x.2 (k % n)))
 exact ⟨W4.hi_lt ho, setR_lt h.2 (W4.lo_lt ho)⟩
theorem unStep_wrStep {K : Nat → Nat} (hK : ∀ i, K i < 4294967296) (nr n k : Nat) {x : Nat × (Nat → Nat)} (h : Rok x) : unStep nr K n k (wrStep nr K n k x) = x := by
 obtain ⟨a, R⟩ := x
 have hj : (joinW a (R (k % n))).ok := joinW_ok h.1 (h.2 _)
 have ho := encW_ok hK nr (joinW a (R (k % n)))
 unfold unStep wrStep
 simp only [setR_same, xor_back, setR_setR, joinW_halves ho, dec_enc hK nr _ hj, joinW_hi, joinW_lo, setR_self]
theorem wrStep_unStep {K : Nat → Nat} (hK : ∀ i, K i < 4294967296) (nr n k : Nat) (hk : k < 4294967296) {x : Nat × (Nat → Nat)} (h : Rok x) : wrStep nr K n k (unStep nr K n k x) = x := by
 obtain ⟨a, R⟩ := x
 have hj : (joinW (a ^^^ (k + 1)) (R (k % n))).ok := joinW_ok (Nat.xor_lt_two_pow (n := 64) h.1 (by omega)) (h.2 _)
 have ho := dcW_ok hK nr (joinW (a ^^^ (k + 1)) (R (k % n)))
 unfold unStep wrStep
 simp only [setR_same, setR_setR, joinW_halves ho, enc_dec hK nr _ hj, joinW_hi, joinW_lo, setR_self, xor_back]
/-- Unwrapping undoes wrapping. -/
theorem un_wr {K : Nat → Nat} (hK : ∀ i, K i < 4294967296) (nr n : Nat) (x : Nat × (Nat → Nat)) (h : Rok x) (k : Nat) (hk : k ≤ 4294967296) : aft (unStep nr K n) k (fore (wrStep nr K n) x k) = x :=
 aft_fore (wrStep nr K n) (unStep nr K n) Rok 4294967296 (fun k x hk hx => wrStep_ok hK nr n k hk hx) (fun k x _ hx => unStep_wrStep hK nr n k hx) x h k hk
theorem wr_un {K : Nat → Nat} (hK : ∀ i, K i < 4294967296) (nr n : Nat) (x : Nat × (Nat → Nat)) (h : Rok x) (k : Nat) (hk : k ≤ 4294967296) : fore (wrStep nr K n) (aft (unStep nr K n) k x) k = x :=
 fore_aft (wrStep nr K n) (unStep nr K n) Rok 4294967296 (fun k x _ hx => unStep_ok hK nr n k hx) (fun k x hk hx => wrStep_unStep hK nr n k hk hx) k hk x h
theorem wr_ok {K : Nat → Nat} (hK : ∀ i, K i < 4294967296) (nr n : Nat) (x : Nat × (Nat → Nat)) (h : Rok x) (k : Nat) (hk : k ≤ 4294967296) : Rok (fore (wrStep nr K n) x k) :=
 fore_all (wrStep nr K n) Rok 4294967296 (fun k x hk hx => wrStep_ok hK nr n k hk hx) x h k hk
end Go.Proofs.YtgmfiljjogdccabGreatDoor
namespace Go.Proofs.YtgmfiljjogdccabGreatDoor
open Go.RowKit
set_option linter.unusedVariables false
/-- The halves R of n times 8 bytes at s from off on. -/
structure Halves (w : World) (s off n : Nat) (R : Nat → Nat) : Prop where
 here : s < w.heap.size
 room : w.there s 0 (off + 8 * n)
 cell : ∀ i k, i < n → k < 8 → w.cell? ⟨s, off + 8 * i + k, none⟩ = some (.int .u8 (byteK (R i) k : Nat))
theorem Halves.below {B : Nat} {w w' : World} {s off n : Nat} {R : Nat → Nat} (h : Halves w s off n R) (hb : Below B w w') (hs : s < B) : Halves w' s off n R :=
 ⟨Nat.lt_of_lt_of_le h.here hb.size, there_below h.room hb hs, fun i k hi hk => (hb.cell hs).trans (h.cell i k hi hk)⟩
theorem there_mid {w : World} {s a b : Nat} (h : w.there s 0 b) (o n : Nat) (hl : o + n ≤ b) : w.there s o n := fun j hj => by
 have := h (o + j) (by omega)
 rwa [Nat.zero_add] at this
theorem Halves.put {w w' : World} {s off n : Nat} {R : Nat → Nat} (h : Halves w s off n R) (i v : Nat) (hi : i < n) (ht : Touch w w' s (off + 8 * i) 8) (hc : ∀ k, k < 8 → w'.cell? ⟨s, off + 8 * i + k, none⟩ = some (.int .u8 (byteK v k : Nat))) : Halves w' s off n (setR R i v) := by
 refine ⟨Nat.lt_of_lt_of_le h.here ht.size, ht.there _ _ h.room, fun j k hj hk => ?_⟩
 by_cases e : j = i
 ·subst e; rw [setR_same]; exact hc k hk
 ·rw [setR_other _ _ e, ht.cell _ (by omega)]; exact h.cell j k hj hk
theorem byteK_numK (f : Nat → Nat) (hf : ∀ i, f i < 256) (k : Nat) (hk : k < 8) : byteK (numK f 8) k = f k := by
 have h0 := hf 0; have h1 := hf 1; have h2 := hf 2; have h3 := hf 3; have h4 := hf 4; have h5 := hf 5; have h6 := hf 6; have h7 := hf 7
 have e : numK f 8 = (((((((f 0 * 256 + f 1) * 256 + f 2) * 256 + f 3) * 256 + f 4) * 256 + f 5) * 256 + f 6) * 256 + f 7) := by simp only [numK]; omega
 rw [e]
 match k, hk with
 | 0, _ => show _ / 72057594037927936 % 256 = _; omega
 | 1, _ => show _ / 281474976710656 % 256 = _; omega
 | 2, _ => show _ / 1099511627776 % 256 = _; omega
 | 3, _ => show _ / 4294967296 % 256 = _; omega
 | 4, _ => show _ / 16777216 % 256 = _; omega
 | 5, _ => show _ / 65536 % 256 = _; omega
 | 6, _ => show _ / 256 % 256 = _; omega
 | 7, _ => show _ / 1 % 256 = _; omega
theorem numK_byteK (v : Nat) (hv : v < 18446744073709551616) : numK (byteK v) 8 = v := by
 have e0 : byteK v 0 = v / 72057594037927936 % 256 := rfl
 have e1 : byteK v 1 = v / 281474976710656 % 256 := rfl
 have e2 : byteK v 2 = v / 1099511627776 % 256 := rfl
 have e3 : byteK v 3 = v / 4294967296 % 256 := rfl
 have e4 : byteK v 4 = v / 16777216 % 256 := rfl
 have e5 : byteK v 5 = v / 65536 % 256 := rfl
 have e6 : byteK v 6 = v / 256 % 256 := rfl
 have e7 : byteK v 7 = v / 1 % 256 := rfl
 simp only [numK]
 omega
/-- The halves of n times 8 bytes that f tells. -/
def halfs (f : Nat → Nat) : Nat → Nat := fun i => numK (fun k => f (8 * i + k)) 8
theorem halfs_lt {f : Nat → Nat} (hf : ∀ i, f i < 256) (i : Nat) : halfs f i < 18446744073709551616 := numK_lt (fun k => hf _) 8
/-- A row of q cells behind a copy of the bytes f from off on. -/
theorem halves_copied {w : World} {s off n : Nat} {t : TypeId} (cur : Array Value) (f : Nat → Nat) (hf : ∀ i, f i < 256) (cs : List Value) (hcs : cs = (List.range (8 * n)).map fun i => .int .u8 (f i : Nat)) (hz : cur.size = off + 8 * n) (hg : w.heap[s]? = some (.cells cur t (0, 0))) :
  Halves (w.setRow s (cur.toList.take off ++ (cs ++ cur.toList.drop (off + cs.length))).toArray) s off n (halfs f) := by
 have hg' := setRow_heap w s cur (cur.toList.take off ++ (cs ++ cur.toList.drop (off + cs.length))).toArray t (0, 0) hg
 have hl : cs.length = 8 * n := by rw [hcs]; simp
 refine ⟨(Array.getElem?_eq_some_iff.1 hg').1, fun j hj => ⟨?_, frozen_of_row _ _ _ _ _ hg'⟩, fun i k hi hk => ?_⟩
 ·rw [cell_of_row _ _ _ _ _ _ hg']
  simp
  omega
 ·rw [cell_of_row _ _ _ _ _ _ hg', List.getElem?_toArray, List.getElem?_append_right (by simp; omega), List.getElem?_append_left (by simp; omega)]
  rw [show off + 8 * i + k - (cur.toList.take off).length = 8 * i + k by simp; omega, hcs]
  rw [List.getElem?_map, List.getElem?_range (by omega)]
  show some _ = _
  rw [halfs, byteK_numK _ (fun k => hf _) k hk]
end Go.Proofs.YtgmfiljjogdccabGreatDoor
