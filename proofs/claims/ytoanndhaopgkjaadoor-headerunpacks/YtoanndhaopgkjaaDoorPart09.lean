import Derived.Test.YtoanndhaopgkjaaDoorPart07
import Derived.Lib.ConvBytes
import Derived.Laws.Bits64
import Derived.Test.YtoanndhaopgkjaaDoorPart05
import Derived.Test.YtoanndhaopgkjaaDoorPart00
import Derived.Shelf.Bytes.SlIndexAt
import Derived.Shelf.Lay
import Derived.Ground.NamesProg
import Derived.WalkMore
import Derived.Deep.MidRow
namespace Go.Proofs.YtoanndhaopgkjaaDoor
open Go.RowKit
set_option linter.unusedVariables false
set_option linter.unusedSimpArgs false
/-- Bytes where they lie. -/
def By (w : World) (b o : Nat) (zs : List Int) : Prop := ∀ i, i < zs.length → w.cell? ⟨b, o + i, none⟩ = some (.int .u8 (zs.getD i 0))
theorem By.below {w w' : World} {B b o : Nat} {zs : List Int} (h : By w b o zs) (hb : Below B w w') (hB : b < B) : By w' b o zs := fun i hi => by rw [hb.cell (p := ⟨b, o + i, none⟩) hB]; exact h i hi
theorem By.drewN {w : World} {b o : Nat} {zs : List Int} (h : By w b o zs) (m : Nat) : By (w.drewN m) b o zs := fun i hi => h i hi
/-- A part of bytes. -/
def cutL (L : List Int) (a s : Nat) : List Int := (L.drop a).take s
theorem cutL_length {L : List Int} {a s : Nat} (h : a + s ≤ L.length) : (cutL L a s).length = s := by simp [cutL]; omega
theorem cutL_at (L : List Int) (a s i : Nat) (h : i < s) : (cutL L a s).getD i 0 = L.getD (a + i) 0 := by
  simp [cutL, List.getD_eq_getElem?_getD, List.getElem?_take, h]
theorem By.cut {w : World} {b o : Nat} {L : List Int} (h : By w b o L) (a s : Nat) (hs : a + s ≤ L.length) : By w b (o + a) (cutL L a s) := fun i hi => by
  rw [cutL_length hs] at hi
  rw [cutL_at L a s i hi, Nat.add_assoc]
  exact h (a + i) (by omega)
/-- Every number a byte's. -/
def Byt (zs : List Int) : Prop := ∀ z ∈ zs, 0 ≤ z ∧ z < 256
theorem Byt.at {zs : List Int} (h : Byt zs) (i : Nat) : 0 ≤ zs.getD i 0 ∧ zs.getD i 0 < 256 := by
  by_cases hi : i < zs.length
  · rw [getD_at _ _ _ hi]; exact h _ (List.getElem_mem hi)
  · rw [List.getD_eq_getElem?_getD, List.getElem?_eq_none (by omega)]; simp
theorem Byt.cut {L : List Int} (h : Byt L) (a s : Nat) : Byt (cutL L a s) := fun z hz => h z (List.mem_of_mem_drop (List.mem_of_mem_take hz))
/-- A number, highest byte first. -/
def beN (zs : List Int) : Int := zs.foldl (fun x z => x * 256 + z) 0
theorem beN_snoc (zs : List Int) (z : Int) : beN (zs ++ [z]) = beN zs * 256 + z := by simp [beN, List.foldl_append]
theorem take_snocI (zs : List Int) (k : Nat) (h : k < zs.length) : zs.take (k + 1) = zs.take k ++ [zs.getD k 0] := by
  rw [List.take_succ_eq_append_getElem h, getD_at _ _ _ h]
theorem beN_take (zs : List Int) (k : Nat) (h : k < zs.length) : beN (zs.take (k + 1)) = beN (zs.take k) * 256 + zs.getD k 0 := by
  rw [take_snocI zs k h, beN_snoc]
theorem beN_range (zs : List Int) (hz : Byt zs) (k : Nat) (hk : k ≤ zs.length) : 0 ≤ beN (zs.take k) ∧ beN (zs.take k) < 256 ^ k := by
  induction k with
  | zero => simp [beN]
  | succ k ih =>
    have := ih (by omega)
    have hb := hz.at k
    rw [beN_take zs k (by omega), Int.pow_succ]
    omega
theorem p256 (k : Nat) (h : k ≤ 8) : (256 : Int) ^ k ≤ 18446744073709551616 := by
  match k, h with
  | 0, _ | 1, _ | 2, _ | 3, _ | 4, _ | 5, _ | 6, _ | 7, _ | 8, _ => decide
theorem beN_u64 (zs : List Int) (hz : Byt zs) (h : zs.length ≤ 8) : 0 ≤ beN zs ∧ beN zs < 18446744073709551616 := by
  have := beN_range zs hz zs.length (Nat.le_refl _)
  rw [List.take_length] at this
  exact ⟨this.1, Int.lt_of_lt_of_le this.2 (p256 _ h)⟩
theorem ofInt_nat (a : Nat) (ha : a < 18446744073709551616) : (BitVec.ofInt 64 (a : Int)).toNat = a := by
  rw [BitVec.ofInt_natCast, BitVec.toNat_ofNat]; exact Nat.mod_eq_of_lt (by omega)
theorem or_nat (a z : Nat) (ha : a < 18446744073709551616) (hz : z < 18446744073709551616) (ho : a ||| z < 18446744073709551616) : bits .or .u64 (a : Int) (z : Int) = ((a ||| z : Nat) : Int) := by
  show IntKind.u64.wrap ((BitVec.ofInt 64 (a : Int) ||| BitVec.ofInt 64 (z : Int)).toNat : Int) = _
  rw [BitVec.toNat_or, ofInt_nat a ha, ofInt_nat z hz, IntKind.wrap_u64]
  omega
theorem or_byte (x z : Nat) (hz : z < 256) (hx : x * 256 + z < 18446744073709551616) : bits .or .u64 ((x : Int) * 256) (z : Int) = ((x * 256 + z : Nat) : Int) := by
  have a1 : x * 256 < 18446744073709551616 := Nat.lt_of_le_of_lt (Nat.le_add_right _ _) hx
  have a2 : z < 18446744073709551616 := Nat.lt_trans hz (by decide)
  have h3 : x * 256 ||| z = x * 256 + z := by
    rw [Nat.mul_comm x 256]
    exact (Nat.two_pow_add_eq_or_of_lt (i := 8) hz x).symm
  have q := or_nat (x * 256) z a1 a2 (by rw [h3]; exact hx)
  rw [h3] at q
  rw [← q, Int.natCast_mul]
  rfl
set_option maxRecDepth 100000 in
theorem number_ok (b o n c : Nat) (zs : List Int) (w : World) (hn : zs.length = n) (h8 : n ≤ 8) (hz : Byt zs) (hb : By w b o zs) :
    Calls Tryd.prog 38 #[.slice (some ⟨b, o, none⟩) n c] w fun e w' => e = .returned (.int .u64 (beN zs)) ∧ w = w' := by
  have HN : Hid (zs.length = n) := hn
  have HB : Hid (By w b o zs) := hb
  have HZ : Hid (Byt zs) := hz
  clear hn hz hb
  go_enter Tryd.func38, Tryd.ntmps38
  go_wp2
  go_loop [3, 5, 8] (fun v5 _ i => ∃ k : Nat, k ≤ n ∧ i = .int .i64 k ∧ v5 = .int .u64 (beN (zs.take k))) (fun _ _ i => n - (intOf i).toNat)
  case atStart => exact ⟨0, by omega, rfl, rfl⟩
  case round =>
    obtain ⟨k, hk, rfl, rfl⟩ := hrel
    by_cases hlt : k < n
    · have hr := beN_range zs HZ.out k (by rw [HN.out]; omega)
      have hr2 := beN_range zs HZ.out (k + 1) (by rw [HN.out]; omega)
      have hs := beN_take zs k (by rw [HN.out]; omega)
      have hp : (256 : Int) ^ (k + 1) ≤ 18446744073709551616 := p256 _ (by omega)
      have hc := HB.out k (by rw [HN.out]; exact hlt)
      have hz0 := HZ.out.at k
      obtain ⟨x, hx⟩ : ∃ x : Nat, beN (zs.take k) = (x : Int) := ⟨(beN (zs.take k)).toNat, by omega⟩
      obtain ⟨z, hzz⟩ : ∃ z : Nat, zs.getD k 0 = (z : Int) := ⟨(zs.getD k 0).toNat, by omega⟩
      rw [hx, hzz] at hs
      rw [hzz] at hc hz0
      rw [hx]
      have e1 : IntKind.u64.wrap ((x : Int) * 256) = (x : Int) * 256 := by rw [IntKind.wrap_u64]; omega
      have e2 : bits .or .u64 ((x : Int) * 256) (z : Int) = ((x * 256 + z : Nat) : Int) := or_byte x z (by omega) (by omega)
      have e3 : IntKind.u64.wrap (z : Int) = (z : Int) := by rw [IntKind.wrap_u64]; omega
      have HS : Hid (beN (zs.take (k + 1)) = ((x * 256 + z : Nat) : Int)) := by show _ = _; rw [hs]; omega
      clear hr hr2 hs hp hx hzz hz0
      go_wp2
      exact ⟨⟨k + 1, by omega, by simp, by rw [HS.out]; simp⟩, by simp [intOf]; omega⟩
    · have HE : Hid (beN (zs.take k) = beN zs) := by show _ = _; rw [List.take_of_length_le (by rw [HN.out]; omega)]
      go_wp2
      go_ret
      exact ⟨by rw [← HE.out]; rfl, rfl⟩
end Go.Proofs.YtoanndhaopgkjaaDoor
namespace Go.Proofs.YtoanndhaopgkjaaDoor
open Go.RowKit
set_option linter.unusedVariables false
set_option linter.unusedSimpArgs false
theorem strB_inj {a b : List Int} (ha : Byt a) (hb : Byt b) (h : strB a = strB b) : a = b := by
  rw [← nums_strB a ha, ← nums_strB b hb, h]
theorem conv_by (w : World) (b o n c : Nat) (zs : List Int) (hn : zs.length = n) (h : By w b o zs) :
    (convert 25 9 (.slice (some ⟨b, o, none⟩) n c)).run Tryd.prog w = .ok (.string (strB zs)) w := by
  rw [← strOfNums_eq]
  exact run_convert_bytes_arg w 25 5 Tryd.underlying25 Tryd.underlying5 b o n c zs hn (fun i hi => h i (by omega)) 9 Tryd.underlying9
theorem toList_beq (a b : ByteArray) : (a.toList == b.toList) = decide (a = b) := by
  by_cases h : a = b
  · subst h; simp
  · rw [decide_eq_false h]
    simp only [beq_eq_false_iff_ne, ne_eq]
    intro e
    apply h
    have e2 : a.data.toList = b.data.toList := by simpa [Lib.toList_data] using e
    cases a; cases b
    simp at e2
    rw [e2]
set_option maxRecDepth 100000 in
theorem equal_ok (b1 o1 n1 c1 b2 o2 n2 c2 : Nat) (xs ys : List Int) (w : World) (h1 : xs.length = n1) (h2 : ys.length = n2) (hx : Byt xs) (hy : Byt ys) (B1 : By w b1 o1 xs) (B2 : By w b2 o2 ys) :
    Calls Tryd.prog 39 #[.slice (some ⟨b1, o1, none⟩) n1 c1, .slice (some ⟨b2, o2, none⟩) n2 c2] w fun e w' => e = .returned (.bool (decide (xs = ys))) ∧ w = w' := by
  have cv1 := conv_by w b1 o1 n1 c1 xs h1 B1
  have cv2 := conv_by w b2 o2 n2 c2 ys h2 B2
  have HE : Hid (((strB xs).toList == (strB ys).toList) = decide (xs = ys)) := by
    show _ = _
    rw [toList_beq]
    by_cases h : xs = ys
    · rw [h]; simp
    · rw [decide_eq_false h, decide_eq_false (fun e => h (strB_inj hx hy e))]
  clear h1 h2
  go_enter Tryd.func39, Tryd.ntmps39
  go_wp2
  go_ret
  exact ⟨ret_bool' HE.out, rfl⟩
/-- How many of the first n are left without the zeros at their end. -/
def rtz (zs : List Int) : Nat → Nat
  | 0 => 0
  | n + 1 => if zs.getD n 0 = 0 then rtz zs n else n + 1
theorem rtz_le (zs : List Int) (n : Nat) : rtz zs n ≤ n := by
  induction n with
  | zero => simp [rtz]
  | succ n ih => unfold rtz; split <;> omega
theorem rtz_zero (zs : List Int) (n : Nat) : ∀ i, rtz zs n ≤ i → i < n → zs.getD i 0 = 0 := by
  induction n with
  | zero => intro i _ h; omega
  | succ n ih =>
    intro i h1 h2
    unfold rtz at h1
    split at h1
    · by_cases e : i = n
      · subst e; assumption
      · exact ih i h1 (by omega)
    · omega
theorem rtz_last (zs : List Int) (n : Nat) (h : 0 < rtz zs n) : zs.getD (rtz zs n - 1) 0 ≠ 0 := by
  induction n with
  | zero => simp [rtz] at h
  | succ n ih =>
    unfold rtz at h ⊢
    split
    · rename_i e; rw [if_pos e] at h; exact ih h
    · assumption
theorem rtz_iff (zs : List Int) (n k : Nat) : rtz zs n ≤ k ↔ ∀ i, k ≤ i → i < n → zs.getD i 0 = 0 := by
  constructor
  · intro h i h1 h2
    exact rtz_zero zs n i (by omega) h2
  · intro h
    by_cases c : rtz zs n ≤ k
    · exact c
    · have := rtz_last zs n (by omega)
      have hl := rtz_le zs n
      exact absurd (h (rtz zs n - 1) (by omega) (by omega)) this
set_option maxRecDepth 100000 in
theorem trimR_ok (b o n c : Nat) (zs : List Int) (w : World) (hn : n ≤ zs.length) (hc : n ≤ c) (hm : n ≤ 9223372036854775807) (hb : By w b o zs) :
    Calls Tryd.prog 56 #[.slice (some ⟨b, o, none⟩) n c, .int .u8 0] w fun e w' => e = .returned (.slice (some ⟨b, o, none⟩) (rtz zs n) c) ∧ w = w' := by
  have HB : Hid (By w b o zs) := hb
  have HN : Hid (n ≤ zs.length) := hn
  clear hb hn
  go_enter Tryd.func56, Tryd.ntmps56
  go_wp2
  go_loop [0] (fun s => ∃ k : Nat, k ≤ n ∧ s = .slice (some ⟨b, o, none⟩) k c ∧ Hid (rtz zs n = rtz zs k)) (fun s => match s with | .slice _ k _ => k | _ => 0)
  case atStart => exact ⟨n, Nat.le_refl _, rfl, rfl⟩
  case round =>
    obtain ⟨k, hk, rfl, HK⟩ := hrel
    by_cases h0 : 0 < k
    · obtain ⟨t, rfl⟩ : ∃ t, k = t + 1 := ⟨k - 1, by omega⟩
      have g := HB.out t (by have := HN.out; omega)
      have e1 : IntKind.i64.wrap (((t + 1 : Nat) : Int) - 1) = (t : Int) := by rw [IntKind.wrap_i64]; omega
      have e2 : IntKind.i64.wrap ((t : Int) + 1 - 1) = (t : Int) := by rw [IntKind.wrap_i64]; omega
      by_cases hz : zs.getD t 0 = 0
      · rw [hz] at g
        have HR : Hid (rtz zs n = rtz zs t) := by show _ = _; rw [HK.out, rtz, if_pos hz]
        clear hz HK
        go_wp2
        exact ⟨⟨t, by omega, rfl, HR⟩, by show t < t + 1; omega⟩
      · have d : (zs.getD t 0 == 0) = false := by simpa using hz
        have HR : Hid (rtz zs n = t + 1) := by show _ = _; rw [HK.out, rtz, if_neg hz]
        generalize zs.getD t 0 = z at g d
        clear hz HK
        go_wp2
        go_ret
        exact ⟨by rw [HR.out]; rfl, rfl⟩
    · obtain rfl : k = 0 := by omega
      go_wp2
      go_ret
      exact ⟨by rw [HK.out]; rfl, rfl⟩
end Go.Proofs.YtoanndhaopgkjaaDoor
namespace Go.Proofs
open Go.RowKit Go.Shelf Go.Lib
shelf_lay Lays.n187 Nm 187 at Tryd as Tryd.lays187
end Go.Proofs
namespace Go.Proofs.YtoanndhaopgkjaaDoor
open Go.RowKit
set_option linter.unusedVariables false
set_option linter.unusedSimpArgs false
def slLen : Value → Nat | .slice _ n _ => n | _ => 0
/-- A slice that is empty just where P holds. -/
def TrQ (p : Prop) (e : Ending) : Prop := ∃ a l c', e = .returned (.slice a l c') ∧ (l = 0 ↔ p)
set_option maxRecDepth 100000 in
theorem trimL_ok (a0 : Option Addr) (b o n c : Nat) (zs : List Int) (w : World) (ha : 0 < n → a0 = some ⟨b, o, none⟩) (hn : n ≤ zs.length) (hc : n ≤ c) (hm : c ≤ 9223372036854775807) (hb : By w b o zs) :
    Calls Tryd.prog 66 #[.slice a0 n c, .int .u8 0] w fun e w' => TrQ (∀ i, i < n → zs.getD i 0 = 0) e ∧ w = w' := by
  have HB : Hid (By w b o zs) := hb
  have HN : Hid (n ≤ zs.length) := hn
  have HA : Hid (0 < n → a0 = some ⟨b, o, none⟩) := ha
  clear hb hn ha
  go_enter Tryd.func66, Tryd.ntmps66
  go_wp2
  go_loop [0] (fun s => ∃ (k : Nat) (a : Option Addr), k ≤ n ∧ s = .slice a (n - k) (c - k) ∧ Hid ((k < n → a = some ⟨b, o + k, none⟩) ∧ ∀ i, i < k → zs.getD i 0 = 0)) (fun s => slLen s)
  case atStart => exact ⟨0, a0, Nat.zero_le _, rfl, HA.out, fun i hi => by omega⟩
  case round =>
    obtain ⟨k, a, hk, rfl, HK⟩ := hrel
    by_cases hlt : k < n
    · have ea := HK.out.1 hlt
      subst ea
      have g := HB.out k (by have := HN.out; omega)
      obtain ⟨l0, HL0⟩ : ∃ l : Nat, Hid (l = n - k) := ⟨_, rfl⟩
      obtain ⟨c0, HC0⟩ : ∃ l : Nat, Hid (l = c - k) := ⟨_, rfl⟩
      have h0 : 0 < l0 := by rw [HL0.out]; omega
      have h01 : l0 ≤ c0 := by rw [HL0.out, HC0.out]; omega
      rw [← HL0.out, ← HC0.out]
      by_cases hz : zs.getD k 0 = 0
      · have HZ : Hid (zs.getD k 0 = 0) := hz
        rw [hz] at g
        clear hz
        go_wp2
        refine ⟨⟨k + 1, (if c0 = 1 then some ⟨b, o + k, none⟩ else some ⟨b, o + k + 1, none⟩), by omega, by rw [HL0.out, HC0.out, Nat.sub_sub, Nat.sub_sub], fun h => by rw [if_neg (by rw [HC0.out]; omega)]; rfl, fun i hi => ?_⟩, by show l0 - 1 < l0; omega⟩
        by_cases e : i = k
        · subst e; exact HZ.out
        · exact HK.out.2 i (by omega)
      · have d : (zs.getD k 0 == 0) = false := by simpa using hz
        have HZ : Hid (zs.getD k 0 ≠ 0) := hz
        generalize zs.getD k 0 = z at g d
        have d2 : ((l0 : Int) == 0) = false := by simp; omega
        clear hz
        go_wp2
        go_ret
        exact ⟨⟨_, l0, c0, rfl, fun e => by omega, fun h => absurd (h k hlt) HZ.out⟩, rfl⟩
    · have e0 : n - k = 0 := by omega
      rw [e0]
      have hkn : k = n := by omega
      have HZ : Hid (∀ i, i < n → zs.getD i 0 = 0) := fun i hi => HK.out.2 i (by omega)
      clear hkn HK e0 hlt
      go_wp2
      go_ret
      exact ⟨⟨none, 0, 0, rfl, fun _ => HZ.out, fun _ => rfl⟩, rfl⟩
set_option maxRecDepth 100000 in
theorem trim_ok (a0 : Option Addr) (b o n c : Nat) (zs : List Int) (w : World) (ha : 0 < n → a0 = some ⟨b, o, none⟩) (hn : zs.length = n) (hc : n ≤ c) (hm : c ≤ 9223372036854775807) (hb : By w b o zs) :
    Calls Tryd.prog 54 #[.slice a0 n c, .string ⟨#[0]⟩] w fun e w' => TrQ (∀ i, i < n → zs.getD i 0 = 0) e ∧ Below w.heap.size w w' := by
  by_cases h0 : n = 0
  · subst h0
    clear hn
    go_enter Tryd.func54, Tryd.ntmps54
    go_wp2
    go_ret
    exact ⟨⟨none, 0, 0, rfl, fun _ i hi => by omega, fun _ => rfl⟩, Below.refl _ _⟩
  · have ea := ha (by omega)
    subst ea
    have d0 : ((n : Int) == 0) = false := by simp; omega
    have HB : Hid (By w b o zs) := hb
    have HN : Hid (zs.length = n) := hn
    have H1 : Hid (∀ u, Below w.heap.size w u → By u b o zs) := fun u hu i hi => by
      have q := HB.out i hi
      rw [hu.cell (p := ⟨b, o + i, none⟩) (World.block_lt_of_cell? w _ q)]
      exact q
    have H2 : Hid (∀ u, Below w.heap.size w u → Calls Tryd.prog 56 #[.slice (some ⟨b, o, none⟩) n c, .int .u8 0] u fun e w' => e = .returned (.slice (some ⟨b, o, none⟩) (rtz zs n) c) ∧ u = w') := fun u hu => trimR_ok b o n c zs u (by rw [HN.out]; exact Nat.le_refl _) hc (by omega) (H1.out u hu)
    have H3 : Hid (∀ u, Below w.heap.size w u → Calls Tryd.prog 66 #[.slice (some ⟨b, o, none⟩) (rtz zs n) c, .int .u8 0] u fun e w' => TrQ (∀ i, i < n → zs.getD i 0 = 0) e ∧ u = w') := fun u hu => by
      refine (trimL_ok (some ⟨b, o, none⟩) b o (rtz zs n) c zs u (fun _ => rfl) (by rw [HN.out]; exact rtz_le _ _) (Nat.le_trans (rtz_le _ _) hc) hm (H1.out u hu)).mono ?_
      rintro e w' ⟨⟨a, l, c', rfl, hl⟩, hw⟩
      refine ⟨⟨a, l, c', rfl, hl.trans ⟨fun h i hi => ?_, fun h i hi => h i (Nat.lt_of_lt_of_le hi (rtz_le _ _))⟩⟩, hw⟩
      by_cases q : i < rtz zs n
      · exact h i q
      · exact rtz_zero zs n i (by omega) hi
    generalize rtz zs n = rr at H2 H3
    have hS0 : Below w.heap.size w w.drew := (Below.refl _ _).drew
    clear hb hn ha
    go_enter Tryd.func54, Tryd.ntmps54
    go_upto_region 6 with fail
    refine wp_region_noPanic ?_
    refine wp_region_held_drew (S := fun u => Below w.heap.size w u) (by kernel_rfl) (hS0) (fun _ => ?_)
    refine takeH_at 0 21 (.slice (some ⟨b, o, none⟩) n c) rfl rfl (by kernel_rfl) (by kernel_rfl) (by kernel_rfl) (fun _ _ _ h => h) (hS0) (Or.inl ⟨by kernel_rfl, fun w' hS' => by go_simp⟩) ?_
    simp only [List.setIfInBounds_toArray, List.set_cons_zero, List.set_cons_succ]
    refine takeH_at 1 22 (.string ⟨#[0]⟩) rfl rfl (by kernel_rfl) (by kernel_rfl) (by kernel_rfl) (fun _ _ _ h => h) (hS0) (Or.inl ⟨by kernel_rfl, fun w' hS' => by go_simp⟩) ?_
    simp only [List.setIfInBounds_toArray, List.set_cons_zero, List.set_cons_succ]
    refine takeH_at 2 23 (.int .u8 0) rfl rfl (by kernel_rfl) (by kernel_rfl) (by kernel_rfl) (fun _ _ _ h => h) (hS0) (Or.inl ⟨by kernel_rfl, fun w' hS' => by go_simp; rfl⟩) ?_
    simp only [List.setIfInBounds_toArray, List.set_cons_zero, List.set_cons_succ]
    refine takeH_at 4 25 (.string ⟨#[0]⟩) rfl rfl (by kernel_rfl) (by kernel_rfl) (by kernel_rfl) (fun _ _ _ h => h) (hS0) (Or.inl ⟨by kernel_rfl, fun w' hS' => by go_simp⟩) ?_
    simp only [List.setIfInBounds_toArray, List.set_cons_zero, List.set_cons_succ]
    refine takeH_at 5 26 (.int .u8 0) rfl rfl (by kernel_rfl) (by kernel_rfl) (by kernel_rfl) (fun _ _ _ h => h) (hS0) (Or.inl ⟨by kernel_rfl, fun w' hS' => by go_simp; rfl⟩) ?_
    simp only [List.setIfInBounds_toArray, List.set_cons_zero, List.set_cons_succ]
    refine wpAnyH_ready (rs := [3]) (by kernel_rfl) (by simp) ?_
    refine AllReadyH.cons rfl (fun Kx hK => ?_) AllReadyH.nil
    rw [if_pos (by kernel_rfl)]
    go_simp
    refine (H2.out _ hS0).mono ?_
    rintro e1 q1 ⟨rfl, hw1⟩
    subst hw1
    go_wp2_with fail
    refine hK.out _ _ hS0 (fun _ => ?_)
    clear hK Kx
    try simp only [Act.put, List.setIfInBounds_toArray, List.set_cons_zero, List.set_cons_succ]
    refine wpAnyH_ready (rs := [6]) (by kernel_rfl) (by simp) ?_
    refine AllReadyH.cons rfl (fun Kx hK => ?_) AllReadyH.nil
    rw [if_pos (by kernel_rfl)]
    go_simp
    refine (H3.out _ hS0).mono ?_
    rintro e1 q1 ⟨⟨a, l, c', rfl, hl⟩, hw1⟩
    subst hw1
    have HL : Hid (l = 0 ↔ ∀ i, i < n → zs.getD i 0 = 0) := hl
    clear hl
    go_wp2_with fail
    refine hK.out _ _ hS0 (fun _ => ?_)
    clear hK Kx
    try simp only [Act.put, List.setIfInBounds_toArray, List.set_cons_zero, List.set_cons_succ]
    refine takeH_at 7 4 (.slice a l c') rfl rfl (by kernel_rfl) (by kernel_rfl) (by kernel_rfl) (fun _ _ _ h => h) (hS0) (Or.inl ⟨by kernel_rfl, fun w' hS' => by go_simp⟩) ?_
    simp only [List.setIfInBounds_toArray, List.set_cons_zero, List.set_cons_succ]
    refine wpAnyH_done (by kernel_rfl) ?_ _
    refine NoPanic.normal ?_
    go_wp2
    go_ret
    exact ⟨⟨a, l, c', rfl, HL.out⟩, hS0⟩
set_option maxRecDepth 100000 in
theorem trimRight_ok (b o n c : Nat) (zs : List Int) (w : World) (hn : zs.length = n) (hc : n ≤ c) (hm : c ≤ 9223372036854775807) (hb : By w b o zs) :
    Calls Tryd.prog 42 #[.slice (some ⟨b, o, none⟩) n c, .string ⟨#[0]⟩] w fun e w' => e = .returned (.slice (some ⟨b, o, none⟩) (rtz zs n) c) ∧ w = w' := by
  by_cases h0 : n = 0
  · subst h0
    clear hn
    go_enter Tryd.func42, Tryd.ntmps42
    go_wp2
    go_ret
    exact ⟨rfl, rfl⟩
  · have d0 : ((n : Int) == 0) = false := by simp; omega
    have H2 := trimR_ok b o n c zs w (by omega) hc (by omega) hb
    clear hn
    go_enter Tryd.func42, Tryd.ntmps42
    go_wp2_with (go_at_call 56; refine H2.mono ?_; rintro e w' ⟨rfl, hw⟩; obtain rfl := hw)
    go_ret
    exact ⟨rfl, rfl⟩
/-- The place of the first zero. -/
def fz : List Int → Nat
  | [] => 0
  | z :: zs => if z = 0 then 0 else fz zs + 1
theorem fz_le (zs : List Int) : fz zs ≤ zs.length := by
  induction zs with
  | nil => simp [fz]
  | cons z zs ih => unfold fz; split <;> simp; omega
theorem fz_at (zs : List Int) (h : fz zs < zs.length) : zs.getD (fz zs) 0 = 0 := by
  induction zs with
  | nil => simp [fz]
  | cons z zs ih =>
    unfold fz at h ⊢
    split
    · simpa
    · rename_i hz
      rw [if_neg hz] at h
      have := ih (by simpa using h)
      simpa using this
theorem fz_ne (zs : List Int) (i : Nat) (h : i < fz zs) : zs.getD i 0 ≠ 0 := by
  induction zs generalizing i with
  | nil => simp [fz] at h
  | cons z zs ih =>
    unfold fz at h
    split at h
    · omega
    · rename_i hz
      cases i with
      | zero => simpa using hz
      | succ i =>
        have := ih i (by omega)
        simpa using this
theorem index_fz (zs : List Int) (hz : Byt zs) : Lib.indexByte (Lib.bytesOf zs) 0 = if fz zs < zs.length then (fz zs : Int) else -1 := by
  induction zs with
  | nil => rfl
  | cons z zs ih =>
    have hz' : Byt zs := fun x hx => hz x (by simp [hx])
    have hr := hz z (by simp)
    have ih := ih hz'
    show (if UInt8.ofNat z.toNat == 0 then 0 else if Lib.indexByte (Lib.bytesOf zs) 0 == -1 then -1 else Lib.indexByte (Lib.bytesOf zs) 0 + 1) = _
    by_cases h0 : z = 0
    · subst h0
      simp [fz]
    · have e : (UInt8.ofNat z.toNat == 0) = false := by
        rw [beq_eq_false_iff_ne]
        intro e
        have := congrArg UInt8.toNat e
        simp at this
        omega
      have ef : fz (z :: zs) = fz zs + 1 := by rw [fz, if_neg h0]
      rw [e, ih, ef]
      have hl := fz_le zs
      simp only [Bool.false_eq_true, if_false, List.length_cons]
      by_cases c : fz zs < zs.length
      · have e1 : ((fz zs : Int) == -1) = false := beq_eq_false_iff_ne.2 (by omega)
        rw [if_pos c, e1, if_pos (show fz zs + 1 < zs.length + 1 by omega)]
        simp
      · rw [if_neg c, if_neg (show ¬ fz zs + 1 < zs.length + 1 by omega)]
        rfl
set_option maxRecDepth 100000 in
theorem index_ok (b o n c : Nat) (zs : List Int) (w : World) (hn : zs.length = n) (hz : Byt zs) (hb : By w b o zs) :
    Calls Tryd.prog 41 #[.slice (some ⟨b, o, none⟩) n c, .int .u8 0] w fun e w' => e = .returned (.int .i64 (if fz zs < n then (fz zs : Int) else -1)) ∧ w = w' := by
  refine (Any.bytes_IndexByte_at Tryd.lays187 ⟨b, o, none⟩ n c zs 0 w hn (fun i hi => by rw [Addr.add_mid]; exact hb i (by omega))).mono ?_
  rintro e w' ⟨rfl, hw⟩
  refine ⟨?_, hw.symm⟩
  rw [← hn, ← index_fz zs hz]
  rfl
/-- Does a room hold a text? -/
def txtB (zs : List Int) : Bool := decide (fz zs < zs.length ∧ rtz zs zs.length ≤ fz zs)
def txtS (zs : List Int) : ByteArray := if txtB zs = true then strB (zs.take (fz zs)) else ⟨#[]⟩
set_option maxRecDepth 100000 in
theorem textOf_ok (b o n c : Nat) (zs : List Int) (w : World) (hn : zs.length = n) (hc : n ≤ c) (hm : c ≤ 9223372036854775807) (hz : Byt zs) (hb : By w b o zs) :
    Calls Tryd.prog 19 #[.slice (some ⟨b, o, none⟩) n c] w fun e w' => e = .returned (.tuple #[.string (txtS zs), .bool (txtB zs)]) ∧ w = w' := by
  have HI := index_ok b o n c zs w hn hz hb
  have HR := trimRight_ok b o n c zs w hn hc hm hb
  have hl := fz_le zs
  have hrl := rtz_le zs n
  by_cases h1 : fz zs < n
  · rw [if_pos h1] at HI
    by_cases h2 : rtz zs n ≤ fz zs
    · have HT : Hid (txtB zs = true ∧ txtS zs = strB (zs.take (fz zs))) := by
        have e : txtB zs = true := by simp [txtB, hn]; omega
        exact ⟨e, by rw [txtS, if_pos e]⟩
      have sl := slice_h w (some ⟨b, o, none⟩) n c (fz zs) (by omega)
      rw [show sliced (some ⟨b, o, none⟩) 0 (fz zs) c 1 = .slice (some ⟨b, o, none⟩) (fz zs) c by rw [sliced, if_neg (by omega)]; rfl] at sl
      have cv := conv_by w b o (fz zs) c (zs.take (fz zs)) (by simp; omega) (fun i hi => by
        have hi' : i < fz zs := by simp at hi; omega
        have := hb i (by omega)
        simpa [List.getD_eq_getElem?_getD, List.getElem?_take, hi'] using this)
      generalize strB (zs.take (fz zs)) = st at HT cv
      obtain ⟨f, HF⟩ : ∃ f : Nat, Hid (f = fz zs) := ⟨_, rfl⟩
      obtain ⟨r, HRR⟩ : ∃ f : Nat, Hid (f = rtz zs n) := ⟨_, rfl⟩
      rw [← HF.out] at HI sl cv h1 h2
      rw [← HRR.out] at HR h2
      have d1 : decide ((f : Int) < 0) = false := decide_eq_false (by omega)
      have d2 : decide ((f : Int) < (r : Int)) = false := decide_eq_false (by omega)
      clear hn hl hrl
      go_enter Tryd.func19, Tryd.ntmps19
      go_wp2_with (first | (go_at_call 41; refine HI.mono ?_; rintro e w' ⟨rfl, hw⟩; obtain rfl := hw) | (go_at_call 42; refine HR.mono ?_; rintro e w' ⟨rfl, hw⟩; obtain rfl := hw))
      go_ret2
      exact ⟨by rw [HT.out.1, HT.out.2]; rfl, rfl⟩
    · have HT : Hid (txtB zs = false ∧ txtS zs = ⟨#[]⟩) := by
        have e : txtB zs = false := by simp [txtB, hn]; omega
        exact ⟨e, by rw [txtS, if_neg (by rw [e]; decide)]⟩
      obtain ⟨f, HF⟩ : ∃ f : Nat, Hid (f = fz zs) := ⟨_, rfl⟩
      obtain ⟨r, HRR⟩ : ∃ f : Nat, Hid (f = rtz zs n) := ⟨_, rfl⟩
      rw [← HF.out] at HI h1 h2
      rw [← HRR.out] at HR h2
      have d1 : decide ((f : Int) < 0) = false := decide_eq_false (by omega)
      have d2 : decide ((f : Int) < (r : Int)) = true := decide_eq_true (by omega)
      clear hn hl hrl
      go_enter Tryd.func19, Tryd.ntmps19
      go_wp2_with (first | (go_at_call 41; refine HI.mono ?_; rintro e w' ⟨rfl, hw⟩; obtain rfl := hw) | (go_at_call 42; refine HR.mono ?_; rintro e w' ⟨rfl, hw⟩; obtain rfl := hw))
      go_ret2
      exact ⟨by rw [HT.out.1, HT.out.2]; rfl, rfl⟩
  · rw [if_neg h1] at HI
    have HT : Hid (txtB zs = false ∧ txtS zs = ⟨#[]⟩) := by
      have e : txtB zs = false := by simp [txtB, hn]; omega
      exact ⟨e, by rw [txtS, if_neg (by rw [e]; decide)]⟩
    clear hn hl hrl h1
    go_enter Tryd.func19, Tryd.ntmps19
    go_wp2_with (first | (go_at_call 41; refine HI.mono ?_; rintro e w' ⟨rfl, hw⟩; obtain rfl := hw))
    go_ret2
    exact ⟨by rw [HT.out.1, HT.out.2]; rfl, rfl⟩
end Go.Proofs.YtoanndhaopgkjaaDoor
namespace Go.Proofs.YtoanndhaopgkjaaDoor
open Go.RowKit
set_option linter.unusedVariables false
set_option linter.unusedSimpArgs false
def preB (zs ys : List Int) : Bool := decide (ys.length ≤ zs.length ∧ zs.take ys.length = ys)
set_option maxRecDepth 100000 in
theorem hasPrefix_ok (b o n c b2 o2 m c2 : Nat) (zs ys : List Int) (w : World) (hn : zs.length = n) (hm : ys.length = m) (hc : n ≤ c) (hx : Byt zs) (hy : Byt ys) (B1 : By w b o zs) (B2 : By w b2 o2 ys) :
    Calls Tryd.prog 65 #[.slice (some ⟨b, o, none⟩) n c, .slice (some ⟨b2, o2, none⟩) m c2] w fun e w' => e = .returned (.bool (preB zs ys)) ∧ w = w' := by
  by_cases h : m ≤ n
  · have HE := equal_ok b o m c b2 o2 m c2 (zs.take m) ys w (by simp; omega) hm (fun z hz => hx z (List.mem_of_mem_take hz)) hy (fun i hi => by
      have hi' : i < m := by simp at hi; omega
      have := B1 i (by omega)
      simpa [List.getD_eq_getElem?_getD, List.getElem?_take, hi'] using this) B2
    have HR : Hid (decide (zs.take m = ys) = preB zs ys) := by
      show _ = _
      unfold preB
      rw [hm, hn]
      simp [h]
    have d : decide ((m : Int) ≤ (n : Int)) = true := decide_eq_true (by omega)
    generalize decide (zs.take m = ys) = r at HE HR
    clear hn hm
    go_enter Tryd.func65, Tryd.ntmps65
    go_wp2_with (go_at_call 39; refine HE.mono ?_; rintro e w' ⟨rfl, hw⟩; obtain rfl := hw)
    go_ret
    exact ⟨ret_bool' HR.out, rfl⟩
  · have HR : Hid (preB zs ys = false) := by
      show _ = _
      unfold preB
      rw [hm, hn]
      simp [h]
    have d : decide ((m : Int) ≤ (n : Int)) = false := decide_eq_false (by omega)
    clear hn hm
    go_enter Tryd.func65, Tryd.ntmps65
    go_wp2
    go_ret
    exact ⟨ret_bool' HR.out.symm, rfl⟩
set_option maxRecDepth 100000 in
theorem cutPrefix_ok (b o n c b2 o2 m c2 : Nat) (zs ys : List Int) (w : World) (hn : zs.length = n) (hm : ys.length = m) (hc : n ≤ c) (hmc : m < c) (hx : Byt zs) (hy : Byt ys) (B1 : By w b o zs) (B2 : By w b2 o2 ys) :
    Calls Tryd.prog 53 #[.slice (some ⟨b, o, none⟩) n c, .slice (some ⟨b2, o2, none⟩) m c2] w fun e w' => e = .returned (.tuple #[if preB zs ys = true then .slice (some ⟨b, o + m, none⟩) (n - m) (c - m) else .slice (some ⟨b, o, none⟩) n c, .bool (preB zs ys)]) ∧ w = w' := by
  have HP := hasPrefix_ok b o n c b2 o2 m c2 zs ys w hn hm hc hx hy B1 B2
  have HL : Hid (preB zs ys = true → m ≤ n) := fun h => by
    unfold preB at h
    simp only [decide_eq_true_eq] at h
    omega
  generalize preB zs ys = r at HP HL
  clear hn hm
  cases r
  · go_enter Tryd.func53, Tryd.ntmps53
    go_wp2_with (go_at_call 65; refine HP.mono ?_; rintro e w' ⟨rfl, hw⟩; obtain rfl := hw)
    go_ret2
    exact ⟨rfl, rfl⟩
  · have hmn := HL.out rfl
    have HS : Hid (c ≠ m) := by show _ ≠ _; omega
    have hcm : ¬ c = m := by omega
    go_enter Tryd.func53, Tryd.ntmps53
    go_wp2_with (go_at_call 65; refine HP.mono ?_; rintro e w' ⟨rfl, hw⟩; obtain rfl := hw)
    go_ret2
    exact ⟨rfl, rfl⟩
/-- Does a field hold t, and zeros behind it? -/
def holdsB (zs t : List Int) : Bool := decide (t.length ≤ zs.length ∧ zs.take t.length = t ∧ rtz zs zs.length ≤ t.length)
theorem bytes_below (w : World) (s : ByteArray) : Below w.heap.size w (Lib.bytesWorld w 5 s) := ⟨rfl, rfl, rfl, by rw [Lib.bytesWorld_size]; omega, fun k hk => Lib.bytesWorld_at_old w 5 s k hk⟩
theorem bytes_by (w : World) (s : ByteArray) : By (Lib.bytesWorld w 5 s) w.heap.size 0 (nums s) := fun i hi => by
  rw [nums_length] at hi
  rw [Nat.zero_add, Lib.bytesWorld_cell w 5 s i hi, nums_at s i hi]
  congr 2
  rw [List.getD_eq_getElem?_getD, List.getElem?_eq_getElem (by simpa using hi)]
  rfl
theorem nums_byt (s : ByteArray) : Byt (nums s) := fun z hz => by
  obtain ⟨i, hi, rfl⟩ := List.getElem_of_mem hz
  have := nums_range s i
  rwa [getD_at _ _ _ hi] at this
theorem By.lt {w : World} {b o : Nat} {zs : List Int} (h : By w b o zs) (h0 : 0 < zs.length) : b < w.heap.size := World.block_lt_of_cell? w _ (h 0 h0)
set_option maxRecDepth 100000 in
theorem holds_ok (n y : Int) (a s b o N cp : Nat) (L : List Int) (st : ByteArray) (w : World) (hN : L.length = N) (h1 : a + s ≤ N) (h2 : N ≤ cp) (h3 : a + st.size < cp) (h4 : a + s ≤ 4194304) (h5 : cp ≤ 9223372036854775807) (h6 : 0 < N) (hL : Byt L) (hb : By w b o L) :
    Calls Tryd.prog 40 #[.agg #[.int .i64 n, .int .i64 a, .int .i64 s, .int .i64 y], .slice (some ⟨b, o, none⟩) N cp, .string st] w fun e w' => e = .returned (.bool (holdsB (cutL L a s) (nums st))) ∧ Below w.heap.size w w' := by
  have hblt := hb.lt (by omega)
  have HOf : Hid (∀ u, Calls Tryd.prog 36 #[.agg #[.int .i64 n, .int .i64 a, .int .i64 s, .int .i64 y], .slice (some ⟨b, o, none⟩) N cp] u fun e w' => e = .returned (.slice (some ⟨b, o + a, none⟩) s (cp - a)) ∧ Below u.heap.size u w') := fun u => of_ok n y a s b o N cp u h1 h2 (by omega) h4
  have hcl : (cutL L a s).length = s := cutL_length (by omega)
  have hns := nums_length st
  have HCP : Hid (∀ u, Below w.heap.size w u → Calls Tryd.prog 53 #[.slice (some ⟨b, o + a, none⟩) s (cp - a), .slice (some ⟨u.heap.size, 0, none⟩) st.size (grownCap u st.size 0 5)] (Lib.bytesWorld u 5 st) fun e w' => e = .returned (.tuple #[if preB (cutL L a s) (nums st) = true then .slice (some ⟨b, o + a + st.size, none⟩) (s - st.size) (cp - a - st.size) else .slice (some ⟨b, o + a, none⟩) s (cp - a), .bool (preB (cutL L a s) (nums st))]) ∧ (Lib.bytesWorld u 5 st) = w') := fun u hu =>
    cutPrefix_ok b (o + a) s (cp - a) u.heap.size 0 st.size _ (cutL L a s) (nums st) _ hcl hns (by omega) (by omega) (hL.cut a s) (nums_byt st) ((hb.below (hu.trans ((bytes_below u st).mono hu.size)) hblt).cut a s (by omega)) (bytes_by u st)
  have HTr : Hid (∀ u, Below w.heap.size w u → preB (cutL L a s) (nums st) = true → Calls Tryd.prog 54 #[.slice (some ⟨b, o + a + st.size, none⟩) (s - st.size) (cp - a - st.size), .string ⟨#[0]⟩] u fun e w' => TrQ (rtz (cutL L a s) s ≤ st.size) e ∧ Below u.heap.size u w') := fun u hu hp => by
    have hle : st.size ≤ s := by
      unfold preB at hp
      simp only [decide_eq_true_eq] at hp
      omega
    have hby := ((hb.below hu hblt).cut a s (by omega)).cut st.size (s - st.size) (by omega)
    refine (trim_ok (some ⟨b, o + a + st.size, none⟩) b (o + a + st.size) (s - st.size) (cp - a - st.size) (cutL (cutL L a s) st.size (s - st.size)) u (fun _ => rfl) (cutL_length (by omega)) (by omega) (by omega) hby).mono ?_
    rintro e w' ⟨⟨x, l, c', rfl, hl⟩, hw⟩
    refine ⟨⟨x, l, c', rfl, hl.trans ?_⟩, hw⟩
    rw [rtz_iff]
    constructor
    · intro h i hi1 hi2
      have := h (i - st.size) (by omega)
      rw [cutL_at _ _ _ _ (by omega)] at this
      rw [← this]
      congr 1
      omega
    · intro h i hi
      rw [cutL_at _ _ _ _ hi]
      exact h _ (by omega) (by omega)
  have HR : Hid (holdsB (cutL L a s) (nums st) = (preB (cutL L a s) (nums st) && decide (rtz (cutL L a s) s ≤ st.size))) := by
    show _ = _
    unfold holdsB preB
    rw [hcl, hns, Bool.eq_iff_iff]
    simp [and_assoc]
  have hcv : ∀ u, (convert 9 25 (.string st)).run Tryd.prog u = .ok (.slice (some ⟨u.heap.size, 0, none⟩) st.size (grownCap u st.size 0 5)) (Lib.bytesWorld u 5 st) := fun u => Lib.run_convert_string_bytes u 9 25 5 st Tryd.underlying9 Tryd.underlying25 Tryd.underlying5
  have HA : Hid ((w.alloc (.cells #[.int .i64 n, .int .i64 a, .int .i64 s, .int .i64 y] 61)).heap.size = w.heap.size + 1 ∧ Below w.heap.size w (w.alloc (.cells #[.int .i64 n, .int .i64 a, .int .i64 s, .int .i64 y] 61))) := ⟨by simp, al1 w _⟩
  obtain ⟨p1, HP1⟩ : ∃ p : Nat, Hid (p = o + a) := ⟨_, rfl⟩
  obtain ⟨p2, HP2⟩ : ∃ p : Nat, Hid (p = cp - a) := ⟨_, rfl⟩
  rw [← HP1.out, ← HP2.out] at HOf HCP HTr
  obtain ⟨p3, HP3⟩ : ∃ p : Nat, Hid (p = p1 + st.size) := ⟨_, rfl⟩
  obtain ⟨p4, HP4⟩ : ∃ p : Nat, Hid (p = s - st.size) := ⟨_, rfl⟩
  obtain ⟨p5, HP5⟩ : ∃ p : Nat, Hid (p = p2 - st.size) := ⟨_, rfl⟩
  rw [← HP3.out, ← HP4.out, ← HP5.out] at HCP HTr
  generalize preB (cutL L a s) (nums st) = P at HCP HTr HR
  rw [HR.out]
  obtain ⟨zb, HZB⟩ : ∃ zb : Bool, Hid (zb = decide (rtz (cutL L a s) s ≤ st.size)) := ⟨_, rfl⟩
  rw [← HZB.out]
  have HT2 : Hid (∀ u, Below w.heap.size w u → P = true → Calls Tryd.prog 54 #[.slice (some ⟨b, p3, none⟩) p4 p5, .string ⟨#[0]⟩] u fun e w' => Hid (∃ (x : Option Addr) (l c' : Nat), e = .returned (.slice x l c') ∧ ((l : Int) == 0) = zb) ∧ Below u.heap.size u w') := fun u hu hp => (HTr.out u hu hp).mono (by
    rintro e w' ⟨⟨x, l, c', rfl, hl⟩, hw⟩
    refine ⟨⟨x, l, c', rfl, ?_⟩, hw⟩
    rw [HZB.out, Bool.eq_iff_iff, beq_iff_eq, decide_eq_true_eq, ← hl]
    omega)
  clear HTr HR hcl hns hL hb
  go_enter Tryd.func40, Tryd.ntmps40
  have HB2 : Hid (∀ u, Below w.heap.size w u → Below w.heap.size w (Lib.bytesWorld u 5 st)) := fun u hu => hu.trans ((bytes_below u st).mono hu.size)
  cases P
  · go_wp2_with (first | (go_at_call 36; refine (HOf.out _).mono ?_; rintro e1 w1 ⟨rfl, hb1⟩; have HW1 : Hid (Below w.heap.size w w1) := HA.out.2.trans (hb1.mono (by rw [HA.out.1]; omega)); clear hb1) | (go_at_call 53; refine (HCP.out _ HW1.out).mono ?_; rintro e2 w2 ⟨rfl, hw2⟩; have HW2 : Hid (Below w.heap.size w w2) := by (rw [← hw2]; exact HB2.out _ HW1.out)))
    go_ret
    exact ⟨rfl, HW2.out⟩
  · go_wp2_with (first | (go_at_call 36; refine (HOf.out _).mono ?_; rintro e1 w1 ⟨rfl, hb1⟩; have HW1 : Hid (Below w.heap.size w w1) := HA.out.2.trans (hb1.mono (by rw [HA.out.1]; omega)); clear hb1) | (go_at_call 53; refine (HCP.out _ HW1.out).mono ?_; rintro e2 w2 ⟨rfl, hw2⟩; have HW2 : Hid (Below w.heap.size w w2) := by (rw [← hw2]; exact HB2.out _ HW1.out)))
    refine (HT2.out _ HW2.out (by simp)).mono ?_
    rintro e3 w3 ⟨hq, hb3⟩
    obtain ⟨x, l, c', rfl, hl⟩ := hq.out
    have HW3 : Hid (Below w.heap.size w w3) := HW2.out.trans (hb3.mono HW2.out.size)
    clear hb3 hq hw2
    go_wp2
    go_ret
    exact ⟨by rw [← hl]; rfl, HW3.out⟩
end Go.Proofs.YtoanndhaopgkjaaDoor
namespace Go.Proofs.YtoanndhaopgkjaaDoor
open Go.RowKit
set_option linter.unusedVariables false
set_option linter.unusedSimpArgs false
/-- A HeadCopy in its box. -/
def Bo (w : World) (g : Nat) (c : Hc) : Prop := w.heap[g]? = some (.cells c.cells.toArray 24 (0, 0))
theorem Bo.lt {w : World} {g : Nat} {c : Hc} (h : Bo w g c) : g < w.heap.size := (Array.getElem?_eq_some_iff.1 h).1
theorem Bo.frozen {w : World} {g : Nat} {c : Hc} (h : Bo w g c) (i : Nat) : w.frozen? ⟨g, i, none⟩ = false := by
  unfold Bo at h
  simp [World.frozen?, h]
theorem Bo.cell {w : World} {g : Nat} {c : Hc} (h : Bo w g c) (i : Nat) (v : Value) (hv : c.cells[i]? = some v) : w.cell? ⟨g, i, none⟩ = some v := by
  unfold Bo at h
  rw [World.cell?, h]
  simpa using hv
theorem Bo.range {w : World} {g : Nat} {c : Hc} (h : Bo w g c) : w.rangeAt g 0 c.cells := fun j v hj => by rw [Nat.zero_add]; exact h.cell j v hj
theorem Bo.keep {w w' : World} {g : Nat} {c : Hc} (h : Bo w g c) (hk : w'.heap[g]? = w.heap[g]?) : Bo w' g c := by
  unfold Bo
  rw [hk]
  exact h
theorem Bo.below {w w' : World} {g : Nat} {c : Hc} (h : Bo w g c) (hb : Below w.heap.size w w') : Bo w' g c := h.keep (hb.block g h.lt)
theorem Bo.set {w : World} {g : Nat} {c c' : Hc} (h : Bo w g c) (i : Nat) (v : Value) (hc : c.cells.set i v = c'.cells) : Bo (w.setCell ⟨g, i, none⟩ v) g c' := by
  unfold Bo at h ⊢
  obtain ⟨hlt, hk⟩ := Array.getElem?_eq_some_iff.1 h
  show (w.heap.modify g _)[g]? = _
  rw [Array.getElem?_eq_getElem (by rw [Array.size_modify]; exact hlt), Array.getElem_modify_self, hk]
  simp [hc]
theorem Bo.new (w : World) (c : Hc) : Bo (w.alloc (.cells c.cells.toArray 24)) w.heap.size c := by
  unfold Bo
  rw [heap_alloc_new]
def zHc : Hc := ⟨false, 0, 0, ⟨#[]⟩, ⟨#[]⟩, ⟨#[]⟩, ⟨#[]⟩, ⟨#[]⟩⟩
/-- What a field says: the copy behind it. -/
def stepC (L : List Int) (k : Nat) (c : Hc) : Hc :=
  match k with
  | 2 => { c with head := beN (cutL L 8 8) }
  | 4 => { c with seq := beN (cutL L 16 8) }
  | 5 => { c with label := txtS (cutL L 24 48) }
  | 7 => { c with salt := strB (cutL L 104 64) }
  | 8 => { c with uuid := txtS (cutL L 168 40) }
  | 9 => { c with sub := txtS (cutL L 208 48) }
  | _ => c
/-- The copy behind the first k fields. -/
def rdC (L : List Int) (sec : Bool) : Nat → Hc
  | 0 => { zHc with second := sec }
  | k + 1 => stepC L k (rdC L sec k)
/-- Is a field right? -/
def rightB (L : List Int) (sec : Bool) (k : Nat) : Bool :=
  match k with
  | 2 => headB (beN (cutL L 8 8)) && decide ((L.length : Int) = beN (cutL L 8 8))
  | 3 => decide (cutL L 448 32 = sumI L)
  | 4 => seqB (beN (cutL L 16 8))
  | 5 => txtB (cutL L 24 48)
  | 7 => true
  | 8 => txtB (cutL L 168 40)
  | 9 => txtB (cutL L 208 48)
  | _ => holdsB (cutL L (fldA k) (fldS k)) (toldL (fldN k) (rdC L sec k))
/-- What readFixed answers. -/
def RdQ (L : List Int) (sec : Bool) (e : Ending) : Prop :=
  (∃ (k : Nat) (c : Hc), k < 13 ∧ (∀ j, j < k → rightB L sec j = true) ∧ rightB L sec k = false ∧ e = .returned (.tuple #[.agg c.cells.toArray, .int .i64 (fldE k : Nat)])) ∨
  ((∀ j, j < 13 → rightB L sec j = true) ∧ e = .returned (.tuple #[.agg (rdC L sec 13).cells.toArray, .int .i64 0]))
/-- What readFixed's loop keeps. -/
structure RdI (w : World) (gc gr : Nat) (c : Hc) (wr : World) : Prop where
  bc : Bo wr gc c
  br : Bo wr gr zHc
  below : Below w.heap.size w wr
  lc : w.heap.size ≤ gc
  lr : w.heap.size ≤ gr
  ne : gc ≠ gr
theorem rdC_head (L : List Int) (sec : Bool) (hL : Byt L) (hl : 4096 ≤ L.length) (k : Nat) (hk : k ≤ 13) (hr : ∀ j, j < k → rightB L sec j = true) : 0 ≤ (rdC L sec k).head ∧ (rdC L sec k).head ≤ 4194304 ∧ 0 ≤ (rdC L sec k).seq ∧ (rdC L sec k).seq < 18446744073709551616 := by
  induction k with
  | zero => exact ⟨Int.le_refl 0, (by decide : (0 : Int) ≤ 4194304), Int.le_refl 0, (by decide : (0 : Int) < 18446744073709551616)⟩
  | succ k ih =>
    have hi := ih (by omega) (fun j hj => hr j (by omega))
    clear ih
    have hk' := hr k (by omega)
    show 0 ≤ (stepC L k (rdC L sec k)).head ∧ (stepC L k (rdC L sec k)).head ≤ 4194304 ∧ 0 ≤ (stepC L k (rdC L sec k)).seq ∧ (stepC L k (rdC L sec k)).seq < 18446744073709551616
    clear hr
    have hk2 : k = 2 → headB (beN (cutL L 8 8)) = true := by
      intro e
      subst e
      have q : (headB (beN (cutL L 8 8)) && decide ((L.length : Int) = beN (cutL L 8 8))) = true := hk'
      rw [Bool.and_eq_true] at q
      exact q.1
    clear hk'
    generalize rdC L sec k = c at hi ⊢
    unfold stepC
    split
    · have := headB_le (hk2 rfl)
      exact ⟨by show 0 ≤ beN _; omega, this.2, hi.2.2⟩
    · have := beN_u64 (cutL L 16 8) (hL.cut 16 8) (by rw [cutL_length (by omega)]; decide)
      exact ⟨hi.1, hi.2.1, this⟩
    all_goals exact hi
end Go.Proofs.YtoanndhaopgkjaaDoor
namespace Go.Proofs.YtoanndhaopgkjaaDoor
open Go.RowKit
set_option linter.unusedVariables false
set_option linter.unusedSimpArgs false
theorem bo_same (w : World) (b o : Nat) (cur : Array Value) (t : TypeId) (v : Value) (h : w.heap[b]? = some (.cells cur t (0, 0))) : (w.setCell ⟨b, o, none⟩ v).heap[b]? = some (.cells (cur.setIfInBounds o v) t (0, 0)) := by
  obtain ⟨hlt, hk⟩ := Array.getElem?_eq_some_iff.1 h
  show (w.heap.modify b _)[b]? = _
  rw [Array.getElem?_eq_getElem (by rw [Array.size_modify]; exact hlt), Array.getElem_modify_self, hk]
  rfl
theorem set_gb (w : World) (b o : Nat) (v : Value) : w.grownBy (w.setCell ⟨b, o, none⟩ v) (some b) := ⟨rfl, rfl, rfl, by simp [World.setCell], fun k _ hk => Below.heap_setCell w ⟨b, o, none⟩ v k (fun e => hk (by rw [e]))⟩
theorem setCells_bo (b t : Nat) : ∀ (vs : List Value) (o : Nat) (w : World) (cur : Array Value), w.heap[b]? = some (.cells cur t (0, 0)) → ∃ r, (w.setCells b o vs).heap[b]? = some (.cells r t (0, 0)) ∧ r.size = cur.size ∧ ∀ j, r[j]? = if o ≤ j ∧ j < o + vs.length ∧ j < cur.size then vs[j - o]? else cur[j]?
  | [], o, w, cur, h => ⟨cur, by simpa [World.setCells] using h, rfl, fun j => by rw [if_neg (by simp; omega)]⟩
  | v :: r, o, w, cur, h => by
    obtain ⟨q, h1, h2, h3⟩ := setCells_bo b t r (o + 1) (w.setCell ⟨b, o, none⟩ v) _ (bo_same w b o cur t v h)
    refine ⟨q, h1, by rw [h2]; simp, fun j => ?_⟩
    rw [h3]
    simp only [Array.size_setIfInBounds, List.length_cons]
    by_cases c1 : o + 1 ≤ j ∧ j < o + 1 + r.length ∧ j < cur.size
    · rw [if_pos c1, if_pos (by omega), show j - o = (j - (o + 1)) + 1 by omega]
      simp
    · rw [if_neg c1]
      by_cases c2 : o = j ∧ j < cur.size
      · obtain ⟨rfl, c3⟩ := c2
        rw [if_pos (by omega)]
        simp [c3]
      · rw [if_neg (by omega)]
        rw [Array.getElem?_setIfInBounds]
        split
        · rename_i e
          subst e
          rw [if_neg (by omega)]
          rw [Array.getElem?_eq_none (by omega)]
        · rfl
theorem setCells_other (b : Nat) : ∀ (vs : List Value) (o : Nat) (w : World), w.grownBy (w.setCells b o vs) (some b)
  | [], _, w => grown_refl _ _
  | v :: r, o, w => by rw [World.setCells]; exact gb_trans (set_gb w b o v) (setCells_other b r (o + 1) _)
theorem Hc.cells_len (c : Hc) : c.cells.length = 8 := rfl
theorem Bo.store {w : World} {g : Nat} {c : Hc} (c' : Hc) (h : Bo w g c) : Bo (w.setCells g 0 c'.cells) g c' := by
  obtain ⟨r, h1, h2, h3⟩ := setCells_bo g 24 c'.cells 0 w _ h
  have hs : c.cells.toArray.size = 8 := rfl
  have e : r = c'.cells.toArray := by
    apply Array.ext_getElem?
    intro j
    rw [h3]
    by_cases hj : j < 8
    · rw [if_pos ⟨Nat.zero_le _, by rw [Hc.cells_len]; omega, by rw [hs]; exact hj⟩, Nat.sub_zero]
      simp
    · rw [if_neg (by rw [Hc.cells_len]; omega), Array.getElem?_eq_none (by rw [hs]; omega), Array.getElem?_eq_none (by show 8 ≤ j; omega)]
  unfold Bo
  rw [h1, e]
theorem wpList_store_bo {w : World} {ops : Array Oper} {rest : List Oper} {o : Oper} {a : Act} {Q : Exit → Act → World → Prop} (hgd : o.guard = none) (x y : Operand) (ho : o.op = .store 24 x y) (c c' : Hc) (g : Nat) (hx : a.eval x = .pointer (some ⟨g, 0, none⟩)) (hy : a.eval y = .agg c'.cells.toArray)
    (hb : Bo w g c) (h : ∀ u, Bo u g c' → w.grownBy u (some g) → wpList Tryd.prog ops Q rest (a.put o.dst undef) u) : wpList Tryd.prog ops Q (o :: rest) a w := by
  refine wpList_store_mid hgd 24 x y ho g 0 c'.cells.toArray hx hy (fun j hj => ?_) (by kernel_rfl) (by simp [Hc.cells, Value.oneCell']) (h _ (hb.store c') (setCells_other g _ 0 w))
  rw [Nat.zero_add]
  have hj' : j < 8 := hj
  refine ⟨?_, hb.frozen j⟩
  have e : c.cells[j]? = some (c.cells[j]'(by rw [Hc.cells_len]; omega)) := List.getElem?_eq_getElem _
  rw [hb.cell j _ e]
  rfl
theorem results_cell_tmp {fn : Func} {p t : Tmp} {ty : TypeId} (h : fn.results = #[.cell p ty, .tmp t]) (tmps : Array Value) (P : Program) (w : World) :
    (results fn tmps).run P w = ((asAddr (tmps.getD p undef)).run P w).andThen fun a w₁ => ((loadVar ty a).run P w₁).andThen fun v w₂ => .ok (.tuple #[v, tmps.getD t undef]) w₂ := by
  simp only [results, h]
  simp [Sem.run_bind, Result.andThen]
/-- A function that ends with an array, which lies in a cell of its own, and a value. -/
theorem ret_array2 {P : Program} {fn : Func} {p t : Tmp} {ty : TypeId} {d : TypeDesc} {Q : Ending → World → Prop} {tmps : Array Value} {w : World} {b : Nat} (cs : List Value) (v : Value) (h : fn.results = #[.cell p ty, .tmp t])
    (hp : tmps.getD p undef = .pointer (some ⟨b, 0, none⟩)) (ht : tmps.getD t undef = v) (hr : w.rangeAt b 0 cs) (hu : P.underlying ty = some d) (hd : d.isRow = true) (hi : (P.info? ty).map (·.size) = some cs.length)
    (hq : Q (.returned (.tuple #[.agg cs.toArray, v])) w) : bodyPost P fn Q .ret ⟨tmps, []⟩ w := by
  refine bodyPost_ret (v := .tuple #[.agg cs.toArray, v]) ?_ rfl hq
  rw [results_cell_tmp h]
  have hl := run_loadVar_mid (P := P) w b 0 ty cs d hr hu hd hi
  simp [hp, asAddr, hl, ht]
theorem fld_pos (k : Nat) (hk : k < 13) : 0 < fldS k := by
  match k, hk with
  | 0, _ | 1, _ | 2, _ | 3, _ | 4, _ | 5, _ | 6, _ | 7, _ | 8, _ | 9, _ | 10, _ | 11, _ | 12, _ => decide
theorem own_by {w : World} {B g : Nat} {L : List Int} (ho : w.ownsRow B 5 1 (.slice (some ⟨g, 0, none⟩) 32 32) 32 (cellsU8 (sumI L))) : By w g 0 (sumI L) := by
  obtain ⟨a', c', he, q1, q2, q3, q4⟩ := viewOwns ho (sumI_length L)
  rcases q4 with q4 | ⟨b2, o2, ha2, hc2⟩
  · have := sumI_length L
    rw [q4] at this
    cases this
  · injection he with e1 e2 e3
    rw [ha2] at e1
    injection e1 with e1
    injection e1 with e4 e5
    subst e4 e5
    exact hc2
theorem told_fit (c : Hc) (k : Nat) (hk : k < 13) (hd : k ≠ 2 ∧ k ≠ 3 ∧ k ≠ 4 ∧ k ≠ 5 ∧ k ≠ 7 ∧ k ≠ 8 ∧ k ≠ 9) : fldA k + (toldL (fldN k) c).length < 4096 := by
  match k, hk with
  | 0, _ => show 0 + (magicL c.second).length < 4096; cases c.second <;> decide
  | 1, _ => show 6 + (beL 2 2).length < 4096; rw [beL_length]; decide
  | 6, _ => show 72 + sha256L.length < 4096; decide
  | 10, _ => show 256 + (beL c.start 8).length < 4096; rw [beL_length]; decide
  | 11, _ => show 264 + ([] : List Int).length < 4096; decide
  | 12, _ => show 480 + ([] : List Int).length < 4096; decide
  | 2, _ | 3, _ | 4, _ | 5, _ | 7, _ | 8, _ | 9, _ => omega
end Go.Proofs.YtoanndhaopgkjaaDoor
namespace Go.Proofs.YtoanndhaopgkjaaDoor
open Go.RowKit
set_option linter.unusedVariables false
set_option linter.unusedSimpArgs false
theorem RdI.kept {w : World} {gc gr : Nat} {c : Hc} {wr u : World} (h : RdI w gc gr c wr) (hb : Below wr.heap.size wr u) : RdI w gc gr c u := ⟨h.bc.below hb, h.br.below hb, h.below.trans (hb.mono h.below.size), h.lc, h.lr, h.ne⟩
theorem RdI.set {w : World} {gc gr : Nat} {c c' : Hc} {wr : World} (h : RdI w gc gr c wr) (i : Nat) (v : Value) (hc : c.cells.set i v = c'.cells) : RdI w gc gr c' (wr.setCell ⟨gc, i, none⟩ v) :=
  ⟨h.bc.set i v hc, h.br.keep (Below.heap_setCell _ _ _ _ (fun e => h.ne e.symm)), h.below.setCell h.lc _, h.lc, h.lr, h.ne⟩
set_option maxHeartbeats 4000000 in
set_option maxRecDepth 100000 in
theorem readFixed_ok (b o N cp : Nat) (L : List Int) (sec : Bool) (w : World) (hF : FT w) (hT : Tables w) (hN : L.length = N) (h1 : 4096 ≤ N) (h2 : N ≤ cp) (h3 : cp ≤ 9223372036854775807) (hL : Byt L) (hb : By w b o L) :
    Calls Tryd.prog 18 #[.slice (some ⟨b, o, none⟩) N cp, .bool sec, .bool false] w fun e w' => RdQ L sec e ∧ Below w.heap.size w w' := by
  have hblt := hb.lt (by omega)
  have HF : Hid (FT w) := hF
  have HT : Hid (Tables w) := hT
  have HL : Hid (Byt L ∧ L.length = N) := ⟨hL, hN⟩
  have HBy : Hid (∀ u, Below w.heap.size w u → By u b o L) := fun u hu => hb.below hu hblt
  have hft := hF.lt
  obtain ⟨FA, HFA⟩ : ∃ FA : List Value, Hid (FA = fldL) := ⟨_, rfl⟩
  have HI0 : Hid (RdI w (w.heap.size + 1) w.heap.size (rdC L sec 0) ((w.alloc (.cells #[.bool false, .int .i64 0, .int .u64 0, .string ⟨#[]⟩, .string ⟨#[]⟩, .string ⟨#[]⟩, .string ⟨#[]⟩, .string ⟨#[]⟩] 24)).alloc (.cells #[.bool sec, .int .i64 0, .int .u64 0, .string ⟨#[]⟩, .string ⟨#[]⟩, .string ⟨#[]⟩, .string ⟨#[]⟩, .string ⟨#[]⟩] 24))) := by
    refine ⟨?_, ?_, (al1 w _).trans ((al1 _ _).mono (by simp)), by omega, Nat.le_refl _, by omega⟩
    · have q := Bo.new (w.alloc (.cells #[.bool false, .int .i64 0, .int .u64 0, .string ⟨#[]⟩, .string ⟨#[]⟩, .string ⟨#[]⟩, .string ⟨#[]⟩, .string ⟨#[]⟩] 24)) (rdC L sec 0)
      rw [World.size_alloc] at q
      exact q
    · exact (Bo.new w zHc).below (al1 _ _)
  have HR : Hid (((w.alloc (.cells #[.bool false, .int .i64 0, .int .u64 0, .string ⟨#[]⟩, .string ⟨#[]⟩, .string ⟨#[]⟩, .string ⟨#[]⟩, .string ⟨#[]⟩] 24)).alloc (.cells #[.bool sec, .int .i64 0, .int .u64 0, .string ⟨#[]⟩, .string ⟨#[]⟩, .string ⟨#[]⟩, .string ⟨#[]⟩, .string ⟨#[]⟩] 24)).rangeAt 0 0 FA ∧ (Tryd.prog.info? 62).map (·.size) = some FA.length) := by rw [HFA.out]; exact ⟨hF.below HI0.out.below hft, size62⟩
  clear hF hT hN hL hb
  go_enter Tryd.func18, Tryd.ntmps18
  go_wp2
  go_step3
  go_wp2
  go_step3
  generalize ((w.alloc (.cells #[.bool false, .int .i64 0, .int .u64 0, .string ⟨#[]⟩, .string ⟨#[]⟩, .string ⟨#[]⟩, .string ⟨#[]⟩, .string ⟨#[]⟩] 24)).alloc (.cells #[.bool sec, .int .i64 0, .int .u64 0, .string ⟨#[]⟩, .string ⟨#[]⟩, .string ⟨#[]⟩, .string ⟨#[]⟩, .string ⟨#[]⟩] 24)) = wA at HI0 HR ⊢
  go_wp2_with (refine wpList_load_mid (by rfl) 62 (.global 0) (by rfl) 0 0 (by rfl) FA _ HR.out.1 Tryd.underlying62 rfl HR.out.2 ?_)
  clear HR
  generalize w.heap.size + 1 = gc at HI0 ⊢
  go_loopw [9, 18] (fun v9 vi wr => ∃ k : Nat, vi = .int .i64 (k : Nat) ∧ v9 = .int .i64 0 ∧ k ≤ 13 ∧ Hid (RdI w gc w.heap.size (rdC L sec k) wr ∧ ∀ j, j < k → rightB L sec j = true)) (fun _ vi _ => 13 - (intOf vi).toNat)
  case atStart => exact ⟨0, rfl, rfl, by omega, HI0.out, fun j hj => by omega⟩
  case round =>
    obtain ⟨k, rfl, rfl, hk, HK⟩ := hrel
    clear HI0
    by_cases hlt : k < 13
    · have HHD : Hid (0 ≤ (rdC L sec k).head ∧ (rdC L sec k).head ≤ 4194304 ∧ 0 ≤ (rdC L sec k).seq ∧ (rdC L sec k).seq < 18446744073709551616) := rdC_head L sec HL.out.1 (by rw [HL.out.2]; exact h1) k hk HK.out.2
      obtain ⟨n, HFN⟩ : ∃ n : Int, Hid (n = (fldN k : Nat)) := ⟨_, rfl⟩
      obtain ⟨a, HA⟩ : ∃ n : Int, Hid (n = (fldA k : Nat)) := ⟨_, rfl⟩
      obtain ⟨s, HSz⟩ : ∃ n : Int, Hid (n = (fldS k : Nat)) := ⟨_, rfl⟩
      obtain ⟨y, HY⟩ : ∃ n : Int, Hid (n = (fldE k : Nat)) := ⟨_, rfl⟩
      have hix : ∀ u, (Instr.index 62 (.agg FA.toArray) (.int .i64 (k : Nat))).run Tryd.prog u = .ok (.agg #[.int .i64 n, .int .i64 a, .int .i64 s, .int .i64 y]) u := fun u => by
        rw [HFA.out, HFN.out, HA.out, HSz.out, HY.out]
        exact fld_at k hlt u
      go_upto_region 5 with fail
      have HW : Hid ((wr.alloc (.cells #[.int .i64 n, .int .i64 a, .int .i64 s, .int .i64 y] 61)).rangeAt wr.heap.size 0 [.int .i64 n, .int .i64 a, .int .i64 s, .int .i64 y] ∧ RdI w gc w.heap.size (rdC L sec k) (wr.alloc (.cells #[.int .i64 n, .int .i64 a, .int .i64 s, .int .i64 y] 61)) ∧ wr.heap.size < (wr.alloc (.cells #[.int .i64 n, .int .i64 a, .int .i64 s, .int .i64 y] 61)).heap.size ∧ gc < wr.heap.size) :=
        ⟨rangeAt_new wr _ 61, HK.out.1.kept (al1 wr _), by simp, HK.out.1.bc.lt⟩
      have HKR : Hid (∀ j, j < k → rightB L sec j = true) := HK.out.2
      clear HK hix
      generalize (wr.alloc (.cells #[.int .i64 n, .int .i64 a, .int .i64 s, .int .i64 y] 61)) = w0 at HW ⊢
      generalize wr.heap.size = gf at HW ⊢
      have HOf : Hid (∀ u, Calls Tryd.prog 36 #[.agg #[.int .i64 n, .int .i64 a, .int .i64 s, .int .i64 y], .slice (some ⟨b, o, none⟩) N cp] u fun e w' => e = .returned (.slice (some ⟨b, o + fldA k, none⟩) (fldS k) (cp - fldA k)) ∧ Below u.heap.size u w') := fun u => by
        have hff := fld_fit k hlt
        have hfp := fld_pos k hlt
        have q := of_ok n y (fldA k) (fldS k) b o N cp u (by omega) (by omega) (by omega) (by omega)
        rw [← HA.out, ← HSz.out] at q
        exact q
      have z0 : w0.cell? ⟨gf, 0, none⟩ = some (.int .i64 n) := HW.out.1 0 _ rfl
      have z1 : w0.cell? ⟨gf, 1, none⟩ = some (.int .i64 a) := HW.out.1 1 _ rfl
      have z2 : w0.cell? ⟨gf, 2, none⟩ = some (.int .i64 s) := HW.out.1 2 _ rfl
      have z3 : w0.cell? ⟨gf, 3, none⟩ = some (.int .i64 y) := HW.out.1 3 _ rfl
      obtain ⟨p1, HP1⟩ : ∃ p : Nat, Hid (p = o + fldA k) := ⟨_, rfl⟩
      obtain ⟨p2, HP2⟩ : ∃ p : Nat, Hid (p = fldS k) := ⟨_, rfl⟩
      obtain ⟨p3, HP3⟩ : ∃ p : Nat, Hid (p = cp - fldA k) := ⟨_, rfl⟩
      rw [← HP1.out, ← HP2.out, ← HP3.out] at HOf
      go_upto_region 6 with (go_at_call 36; refine (HOf.out _).mono ?_; rintro e1 w1 ⟨rfl, hb1⟩)
      have HW1 : Hid (w1.rangeAt gf 0 [.int .i64 n, .int .i64 a, .int .i64 s, .int .i64 y] ∧ RdI w gc w.heap.size (rdC L sec k) w1 ∧ gf < w1.heap.size ∧ gc < gf) :=
        ⟨fun j v hj => by rw [hb1.cell (p := ⟨gf, 0 + j, none⟩) HW.out.2.2.1]; exact HW.out.1 j v hj, HW.out.2.1.kept hb1, Nat.lt_of_lt_of_le HW.out.2.2.1 hb1.size, HW.out.2.2.2⟩
      have HPart : Hid (By w1 b p1 (cutL L (fldA k) (fldS k)) ∧ (cutL L (fldA k) (fldS k)).length = p2 ∧ Byt (cutL L (fldA k) (fldS k))) := by
        have hff := fld_fit k hlt
        refine ⟨?_, ?_, HL.out.1.cut _ _⟩
        · rw [HP1.out]
          exact (HBy.out w1 HW1.out.2.1.below).cut _ _ (by rw [HL.out.2]; omega)
        · rw [HP2.out]
          exact cutL_length (by rw [HL.out.2]; omega)
      clear hb1 z0 z1 z2 z3 HW HOf
      have y0 : w1.cell? ⟨gf, 0, none⟩ = some (.int .i64 n) := HW1.out.1 0 _ rfl
      by_cases hdef : k ≠ 2 ∧ k ≠ 3 ∧ k ≠ 4 ∧ k ≠ 5 ∧ k ≠ 7 ∧ k ≠ 8 ∧ k ≠ 9
      · have HDF : Hid (k ≠ 2 ∧ k ≠ 3 ∧ k ≠ 4 ∧ k ≠ 5 ∧ k ≠ 7 ∧ k ≠ 8 ∧ k ≠ 9) := hdef
        have HRt : Hid (rightB L sec k = holdsB (cutL L (fldA k) (fldS k)) (toldL (fldN k) (rdC L sec k)) ∧ rdC L sec (k + 1) = rdC L sec k ∧ n ≠ 2 ∧ n ≠ 3 ∧ n ≠ 4 ∧ n ≠ 5 ∧ n ≠ 7 ∧ n ≠ 8 ∧ n ≠ 9) := by
          have hn := HFN.out
          match k, hlt with
          | 0, _ | 1, _ | 6, _ | 10, _ | 11, _ | 12, _ => rw [hn]; exact ⟨rfl, rfl, by decide, by decide, by decide, by decide, by decide, by decide, by decide⟩
          | 2, _ | 3, _ | 4, _ | 5, _ | 7, _ | 8, _ | 9, _ => omega
        clear hdef
        have t2 : (n == 2) = false := beq_eq_false_iff_ne.2 HRt.out.2.2.1
        have t3 : (n == 3) = false := beq_eq_false_iff_ne.2 HRt.out.2.2.2.1
        have t4 : (n == 4) = false := beq_eq_false_iff_ne.2 HRt.out.2.2.2.2.1
        have t5 : (n == 5) = false := beq_eq_false_iff_ne.2 HRt.out.2.2.2.2.2.1
        have t7 : (n == 7) = false := beq_eq_false_iff_ne.2 HRt.out.2.2.2.2.2.2.1
        have t8 : (n == 8) = false := beq_eq_false_iff_ne.2 HRt.out.2.2.2.2.2.2.2.1
        have t9 : (n == 9) = false := beq_eq_false_iff_ne.2 HRt.out.2.2.2.2.2.2.2.2
        go_upto_region 7 with fail
        have hS0 : Below w1.heap.size w1 w1.drew := (Below.refl _ _).drew
        have g0 : ∀ u, Below w1.heap.size w1 u → u.cell? ⟨gf, 0, none⟩ = some (.int .i64 n) := fun u hu => by rw [hu.cell (p := ⟨gf, 0, none⟩) HW1.out.2.2.1]; exact HW1.out.1 0 _ rfl
        have g1 : ∀ u, Below w1.heap.size w1 u → u.cell? ⟨gf, 1, none⟩ = some (.int .i64 a) := fun u hu => by rw [hu.cell (p := ⟨gf, 1, none⟩) HW1.out.2.2.1]; exact HW1.out.1 1 _ rfl
        have g2 : ∀ u, Below w1.heap.size w1 u → u.cell? ⟨gf, 2, none⟩ = some (.int .i64 s) := fun u hu => by rw [hu.cell (p := ⟨gf, 2, none⟩) HW1.out.2.2.1]; exact HW1.out.1 2 _ rfl
        have g3 : ∀ u, Below w1.heap.size w1 u → u.cell? ⟨gf, 3, none⟩ = some (.int .i64 y) := fun u hu => by rw [hu.cell (p := ⟨gf, 3, none⟩) HW1.out.2.2.1]; exact HW1.out.1 3 _ rfl
        have hrs : ∀ u, Below w1.heap.size w1 u → u.rangeAt gc 0 (rdC L sec k).cells := fun u hu => (HW1.out.2.1.kept hu).bc.range
        have HTo : Hid (∀ u, Calls Tryd.prog 35 #[.int .i64 n, .agg (rdC L sec k).cells.toArray] u fun e w' => e = .returned (.string (strB (toldL (fldN k) (rdC L sec k)))) ∧ Below u.heap.size u w') := fun u => by
          rw [HFN.out]
          exact told_ok k hlt (rdC L sec k) u HHD.out.1 HHD.out.2.1 HHD.out.2.2.1 HHD.out.2.2.2
        have HHo : Hid (∀ u, Below w.heap.size w u → Calls Tryd.prog 40 #[.agg #[.int .i64 n, .int .i64 a, .int .i64 s, .int .i64 y], .slice (some ⟨b, o, none⟩) N cp, .string (strB (toldL (fldN k) (rdC L sec k)))] u fun e w' => e = .returned (.bool (rightB L sec k)) ∧ Below u.heap.size u w') := fun u hu => by
          have hff := fld_fit k hlt
          have ht := told_fit (rdC L sec k) k hlt HDF.out
          have q := holds_ok n y (fldA k) (fldS k) b o N cp L (strB (toldL (fldN k) (rdC L sec k))) u HL.out.2 (by omega) h2 (by rw [strB_size]; omega) (by omega) h3 (by omega) HL.out.1 (HBy.out u hu)
          rw [nums_strB _ (toldL_range _ _), ← HRt.out.1, ← HA.out, ← HSz.out] at q
          exact q
        obtain ⟨st, HST⟩ : ∃ p : ByteArray, Hid (p = strB (toldL (fldN k) (rdC L sec k))) := ⟨_, rfl⟩
        rw [← HST.out] at HTo HHo
        refine wp_region_noPanic ?_
        refine wp_region_held_drew (S := fun u => Below w1.heap.size w1 u) (by kernel_rfl) (hS0) (fun _ => ?_)
        refine takeH_at 0 26 (.agg #[.int .i64 n, .int .i64 a, .int .i64 s, .int .i64 y]) rfl rfl (by kernel_rfl) (by kernel_rfl) (by kernel_rfl) (fun _ _ _ h => h) (hS0) (Or.inl ⟨by kernel_rfl, fun w' hS' => by have q0 := g0 w' hS'; have q1 := g1 w' hS'; have q2 := g2 w' hS'; have q3 := g3 w' hS'; go_simp⟩) ?_
        simp only [List.setIfInBounds_toArray, List.set_cons_zero, List.set_cons_succ]
        refine takeH_at 1 27 (.slice (some ⟨b, o, none⟩) N cp) rfl rfl (by kernel_rfl) (by kernel_rfl) (by kernel_rfl) (fun _ _ _ h => h) (hS0) (Or.inl ⟨by kernel_rfl, fun w' hS' => by go_simp⟩) ?_
        simp only [List.setIfInBounds_toArray, List.set_cons_zero, List.set_cons_succ]
        refine takeH_at 2 28 (.pointer (some ⟨gf, 0, none⟩)) rfl rfl (by kernel_rfl) (by kernel_rfl) (by kernel_rfl) (fun _ _ _ h => h) (hS0) (Or.inl ⟨by kernel_rfl, fun w' hS' => by go_simp⟩) ?_
        simp only [List.setIfInBounds_toArray, List.set_cons_zero, List.set_cons_succ]
        refine takeH_at 3 29 (.int .i64 n) rfl rfl (by kernel_rfl) (by kernel_rfl) (by kernel_rfl) (fun _ _ _ h => h) (hS0) (Or.inl ⟨by kernel_rfl, fun w' hS' => by have q0 := g0 w' hS'; have q1 := g1 w' hS'; have q2 := g2 w' hS'; have q3 := g3 w' hS'; go_simp⟩) ?_
        simp only [List.setIfInBounds_toArray, List.set_cons_zero, List.set_cons_succ]
        refine takeH_at 4 30 (.agg (rdC L sec k).cells.toArray) rfl rfl (by kernel_rfl) (by kernel_rfl) (by kernel_rfl) (fun _ _ _ h => h) (hS0) (yieldsIf_load_mid (by kernel_rfl) 24 (.tmp 8) rfl gc 0 rfl (rdC L sec k).cells _ hrs Tryd.underlying24 rfl (by kernel_rfl)) ?_
        simp only [List.setIfInBounds_toArray, List.set_cons_zero, List.set_cons_succ]
        refine wpAnyH_ready (rs := [5]) (by kernel_rfl) (by simp) ?_
        refine AllReadyH.cons rfl (fun Kx hK => ?_) AllReadyH.nil
        rw [if_pos (by kernel_rfl)]
        go_simp
        refine (HTo.out _).mono ?_
        intro e1 q1 hh
        obtain ⟨he, hq1⟩ := hh
        subst he
        have hS1 : Below w1.heap.size w1 q1 := (hS0).trans (hq1.mono (hS0).size)
        go_wp2_with fail
        refine hK.out _ _ hS1 (fun _ => ?_)
        clear hK Kx
        try simp only [Act.put, List.setIfInBounds_toArray, List.set_cons_zero, List.set_cons_succ]
        refine wpAnyH_ready (rs := [6]) (by kernel_rfl) (by simp) ?_
        refine AllReadyH.cons rfl (fun Kx hK => ?_) AllReadyH.nil
        rw [if_pos (by kernel_rfl)]
        go_simp
        refine (HHo.out _ (HW1.out.2.1.below.trans (hS1.mono HW1.out.2.1.below.size))).mono ?_
        intro e1 q2 hh
        obtain ⟨he, hq2⟩ := hh
        subst he
        have hS2 : Below w1.heap.size w1 q2 := (hS1).trans (hq2.mono (hS1).size)
        go_wp2_with fail
        refine hK.out _ _ hS2 (fun _ => ?_)
        clear hK Kx
        try simp only [Act.put, List.setIfInBounds_toArray, List.set_cons_zero, List.set_cons_succ]
        cases hri : rightB L sec k
        · refine takeH_at 7 12 (.bool false) rfl rfl (by kernel_rfl) (by kernel_rfl) (by kernel_rfl) (fun _ _ _ h => h) (hS2) (Or.inl ⟨by kernel_rfl, fun w' hS' => by go_simp⟩) ?_
          simp only [List.setIfInBounds_toArray, List.set_cons_zero, List.set_cons_succ]
          refine wpAnyH_done (by kernel_rfl) ?_ _
          refine NoPanic.normal ?_
          have HWB : Hid (RdI w gc w.heap.size (rdC L sec k) q2 ∧ q2.cell? ⟨gf, 3, none⟩ = some (.int .i64 y)) := ⟨HW1.out.2.1.kept hS2, g3 _ hS2⟩
          have y3 := HWB.out.2
          go_wp2_with (first | (refine wpList_load_mid (by rfl) 24 (.tmp 8) (by rfl) gc 0 (by rfl) (rdC L sec k).cells _ HWB.out.1.bc.range Tryd.underlying24 rfl (by kernel_rfl) ?_) | (refine wpList_store_bo (by rfl) (.tmp 6) (.tmp 102) (by rfl) zHc (rdC L sec k) w.heap.size (by rfl) (by rfl) HWB.out.1.br ?_; intro u9 hb9 hg9))
          rw [Exit.noGoto_ret]
          refine ret_array2 (b := w.heap.size) (rdC L sec k).cells (.int .i64 y) rfl rfl rfl hb9.range Tryd.underlying24 rfl (by kernel_rfl) ⟨Or.inl ⟨k, rdC L sec k, hlt, HKR.out, hri, by rw [HY.out]⟩, HWB.out.1.below.trans (below_gb hg9 HWB.out.1.below.size (Nat.le_refl _))⟩
        · refine takeH_at 7 12 (.bool true) rfl rfl (by kernel_rfl) (by kernel_rfl) (by kernel_rfl) (fun _ _ _ h => h) (hS2) (Or.inl ⟨by kernel_rfl, fun w' hS' => by go_simp⟩) ?_
          simp only [List.setIfInBounds_toArray, List.set_cons_zero, List.set_cons_succ]
          refine wpAnyH_done (by kernel_rfl) ?_ _
          refine NoPanic.normal ?_
          go_wp2_with fail
          exact ⟨⟨k + 1, by simp, rfl, by omega, by rw [HRt.out.2.1]; exact HW1.out.2.1.kept hS2, fun j hj => by
            by_cases e : j = k
            · subst e; exact hri
            · exact HKR.out j (by omega)⟩, by simp [intOf]; omega⟩
      · have hcs : k = 2 ∨ k = 3 ∨ k = 4 ∨ k = 5 ∨ k = 7 ∨ k = 8 ∨ k = 9 := by omega
        clear hdef
        have y3a : w1.cell? ⟨gf, 3, none⟩ = some (.int .i64 y) := HW1.out.1 3 _ rfl
        have HY3 : Hid (w1.cell? ⟨gf, 3, none⟩ = some (.int .i64 y)) := y3a
        have HS3 : Hid (∀ i v, (w1.setCell ⟨gc, i, none⟩ v).cell? ⟨gf, 3, none⟩ = some (.int .i64 y)) := fun i v => by
          rw [World.cell?_of_block (w := w1) (Below.heap_setCell w1 ⟨gc, i, none⟩ v gf (by have := HW1.out.2.2.2; show gf ≠ gc; omega))]
          exact HY3.out
        clear y3a
        rcases hcs with rfl | rfl | rfl | rfl | rfl | rfl | rfl
        · obtain rfl : n = 2 := HFN.out
          have HNum : Hid (Calls Tryd.prog 38 #[.slice (some ⟨b, p1, none⟩) p2 p3] w1 fun e w' => e = .returned (.int .u64 (beN (cutL L 8 8))) ∧ w1 = w') := number_ok b p1 p2 p3 (cutL L 8 8) w1 HPart.out.2.1 (by rw [HP2.out]; decide) HPart.out.2.2 HPart.out.1
          have hx := beN_u64 (cutL L 8 8) HPart.out.2.2 (by rw [show (cutL L 8 8).length = p2 from HPart.out.2.1, HP2.out]; decide)
          have HRT : Hid (rightB L sec 2 = (headB (beN (cutL L 8 8)) && decide ((L.length : Int) = beN (cutL L 8 8))) ∧ rdC L sec 3 = { rdC L sec 2 with head := beN (cutL L 8 8) }) := ⟨rfl, rfl⟩
          generalize beN (cutL L 8 8) = x at HNum hx HRT
          have eN : IntKind.u64.wrap (N : Int) = (N : Int) := wrapU _ (by omega) (by omega)
          cases hhd : headB x
          · have hri : rightB L sec 2 = false := by rw [HRT.out.1, hhd]; rfl
            go_upto_region 27 with (first | (go_at_call 38; refine HNum.out.mono ?_; rintro e2 w2 ⟨rfl, hw2⟩; obtain rfl := hw2) | (go_at_call 31; refine (isHead_ok x _ hx.1 hx.2).mono ?_; rintro e3 w3 ⟨rfl, hw3⟩; obtain rfl := hw3; rw [hhd]))
            have HWB : Hid (RdI w gc w.heap.size (rdC L sec 2) w1 ∧ w1.cell? ⟨gf, 3, none⟩ = some (.int .i64 y)) := ⟨HW1.out.2.1, HY3.out⟩
            have y3 := HWB.out.2
            go_wp2_with (first | (refine wpList_load_mid (by rfl) 24 (.tmp 8) (by rfl) gc 0 (by rfl) (rdC L sec 2).cells _ HWB.out.1.bc.range Tryd.underlying24 rfl (by kernel_rfl) ?_) | (refine wpList_store_bo (by rfl) (.tmp 6) (.tmp 102) (by rfl) zHc (rdC L sec 2) w.heap.size (by rfl) (by rfl) HWB.out.1.br ?_; intro u9 hb9 hg9))
            rw [Exit.noGoto_ret]
            refine ret_array2 (b := w.heap.size) (rdC L sec 2).cells (.int .i64 y) rfl rfl rfl hb9.range Tryd.underlying24 rfl (by kernel_rfl) ⟨Or.inl ⟨2, (rdC L sec 2), hlt, HKR.out, hri, by rw [HY.out]⟩, HWB.out.1.below.trans (below_gb hg9 HWB.out.1.below.size (Nat.le_refl _))⟩
          · have hxl := headB_le hhd
            have eX : IntKind.i64.wrap x = x := by rw [IntKind.wrap_i64]; omega
            by_cases heq : (N : Int) = x
            · have deq : ((N : Int) == x) = true := by simpa using heq
              have hri : rightB L sec 2 = true := by rw [HRT.out.1, hhd, HL.out.2]; simpa using heq
              have f1 : w1.frozen? ⟨gc, 1, none⟩ = false := HW1.out.2.1.bc.frozen 1
              have c1 : w1.cell? ⟨gc, 1, none⟩ = some (.int .i64 (rdC L sec 2).head) := HW1.out.2.1.bc.cell 1 _ rfl
              generalize (rdC L sec 2).head = old at c1
              have HI : Hid (RdI w gc w.heap.size (rdC L sec 3) (w1.setCell ⟨gc, 1, none⟩ (.int .i64 x))) := HW1.out.2.1.set 1 _ (by rw [HRT.out.2]; rfl)
              clear heq
              go_upto_region 27 with (first | (go_at_call 38; refine HNum.out.mono ?_; rintro e2 w2 ⟨rfl, hw2⟩; obtain rfl := hw2) | (go_at_call 31; refine (isHead_ok x _ hx.1 hx.2).mono ?_; rintro e3 w3 ⟨rfl, hw3⟩; obtain rfl := hw3; rw [hhd]))
              go_wp2_with fail
              exact ⟨⟨2 + 1, by simp, rfl, by omega, HI.out, fun j hj => by
                by_cases e : j = 2
                · subst e; exact hri
                · exact HKR.out j (by omega)⟩, by simp [intOf]⟩
            · have deq : ((N : Int) == x) = false := by simpa using heq
              have hri : rightB L sec 2 = false := by rw [HRT.out.1, hhd, HL.out.2]; simpa using heq
              clear heq
              go_upto_region 27 with (first | (go_at_call 38; refine HNum.out.mono ?_; rintro e2 w2 ⟨rfl, hw2⟩; obtain rfl := hw2) | (go_at_call 31; refine (isHead_ok x _ hx.1 hx.2).mono ?_; rintro e3 w3 ⟨rfl, hw3⟩; obtain rfl := hw3; rw [hhd]))
              have HWB : Hid (RdI w gc w.heap.size (rdC L sec 2) w1 ∧ w1.cell? ⟨gf, 3, none⟩ = some (.int .i64 y)) := ⟨HW1.out.2.1, HY3.out⟩
              have y3 := HWB.out.2
              go_wp2_with (first | (refine wpList_load_mid (by rfl) 24 (.tmp 8) (by rfl) gc 0 (by rfl) (rdC L sec 2).cells _ HWB.out.1.bc.range Tryd.underlying24 rfl (by kernel_rfl) ?_) | (refine wpList_store_bo (by rfl) (.tmp 6) (.tmp 102) (by rfl) zHc (rdC L sec 2) w.heap.size (by rfl) (by rfl) HWB.out.1.br ?_; intro u9 hb9 hg9))
              rw [Exit.noGoto_ret]
              refine ret_array2 (b := w.heap.size) (rdC L sec 2).cells (.int .i64 y) rfl rfl rfl hb9.range Tryd.underlying24 rfl (by kernel_rfl) ⟨Or.inl ⟨2, (rdC L sec 2), hlt, HKR.out, hri, by rw [HY.out]⟩, HWB.out.1.below.trans (below_gb hg9 HWB.out.1.below.size (Nat.le_refl _))⟩
        · obtain rfl : n = 3 := HFN.out
          have hN4 : N ≤ 4194304 := by
            have q : (headB (beN (cutL L 8 8)) && decide ((L.length : Int) = beN (cutL L 8 8))) = true := HKR.out 2 (by omega)
            rw [Bool.and_eq_true, decide_eq_true_eq, HL.out.2] at q
            have := headB_le q.1
            omega
          have HV : Hid (View w1 (.slice (some ⟨b, o, none⟩) N cp) L) := ⟨some ⟨b, o, none⟩, cp, by rw [HL.out.2], by rw [HL.out.2]; exact h2, by simp [maxLen]; omega, (fun e => by cases e), .inr ⟨b, o, rfl, HBy.out w1 HW1.out.2.1.below⟩⟩
          have HSu := sumOf_ok b o N cp L w1 (HT.out.below HW1.out.2.1.below HT.out.size) HL.out.2 (by omega) HV.out (by omega)
          have HRT : Hid (rightB L sec 3 = decide (cutL L 448 32 = sumI L) ∧ rdC L sec 4 = rdC L sec 3) := ⟨rfl, rfl⟩
          go_upto_region 27 with (first | (go_at_call 37; refine HSu.mono ?_; rintro e2 w2 ⟨g, rfl, ho, hb2⟩; have HW2 : Hid (RdI w gc w.heap.size (rdC L sec 3) w2 ∧ By w2 b p1 (cutL L 448 32) ∧ w2.cell? ⟨gf, 3, none⟩ = some (.int .i64 y)) := ⟨HW1.out.2.1.kept hb2, HPart.out.1.below hb2 (HPart.out.1.lt (by rw [HPart.out.2.1, HP2.out]; decide)), by (rw [hb2.cell (p := ⟨gf, 3, none⟩) HW1.out.2.2.1]; exact HY3.out)⟩; have HSr : Hid (By w2 g 0 (sumI L)) := own_by ho; clear ho hb2) | (go_at_call 39; refine (equal_ok b p1 p2 p3 g 0 32 32 (cutL L 448 32) (sumI L) _ HPart.out.2.1 (sumI_length L) HPart.out.2.2 (sumD_range _) HW2.out.2.1 HSr.out).mono ?_; rintro e3 w3 ⟨rfl, hw3⟩; obtain rfl := hw3; rw [← HRT.out.1]))
          cases hri : rightB L sec 3
          · have HWB : Hid (RdI w gc w.heap.size (rdC L sec 3) w2 ∧ w2.cell? ⟨gf, 3, none⟩ = some (.int .i64 y)) := ⟨HW2.out.1, HW2.out.2.2⟩
            have y3 := HWB.out.2
            go_wp2_with (first | (refine wpList_load_mid (by rfl) 24 (.tmp 8) (by rfl) gc 0 (by rfl) (rdC L sec 3).cells _ HWB.out.1.bc.range Tryd.underlying24 rfl (by kernel_rfl) ?_) | (refine wpList_store_bo (by rfl) (.tmp 6) (.tmp 102) (by rfl) zHc (rdC L sec 3) w.heap.size (by rfl) (by rfl) HWB.out.1.br ?_; intro u9 hb9 hg9))
            rw [Exit.noGoto_ret]
            refine ret_array2 (b := w.heap.size) (rdC L sec 3).cells (.int .i64 y) rfl rfl rfl hb9.range Tryd.underlying24 rfl (by kernel_rfl) ⟨Or.inl ⟨3, (rdC L sec 3), hlt, HKR.out, hri, by rw [HY.out]⟩, HWB.out.1.below.trans (below_gb hg9 HWB.out.1.below.size (Nat.le_refl _))⟩
          · go_wp2_with fail
            exact ⟨⟨3 + 1, by simp, rfl, by omega, (by rw [HRT.out.2]; exact HW2.out.1), fun j hj => by
              by_cases e : j = 3
              · subst e; exact hri
              · exact HKR.out j (by omega)⟩, by simp [intOf]⟩
        · obtain rfl : n = 4 := HFN.out
          have HNum : Hid (Calls Tryd.prog 38 #[.slice (some ⟨b, p1, none⟩) p2 p3] w1 fun e w' => e = .returned (.int .u64 (beN (cutL L 16 8))) ∧ w1 = w') := number_ok b p1 p2 p3 (cutL L 16 8) w1 HPart.out.2.1 (by rw [HP2.out]; decide) HPart.out.2.2 HPart.out.1
          have HRT : Hid (rightB L sec 4 = seqB (beN (cutL L 16 8)) ∧ rdC L sec 5 = { rdC L sec 4 with seq := beN (cutL L 16 8) }) := ⟨rfl, rfl⟩
          generalize beN (cutL L 16 8) = x at HNum HRT
          have f1 : w1.frozen? ⟨gc, 2, none⟩ = false := HW1.out.2.1.bc.frozen 2
          have c1 : w1.cell? ⟨gc, 2, none⟩ = some (.int .u64 (rdC L sec 4).seq) := HW1.out.2.1.bc.cell 2 _ rfl
          generalize (rdC L sec 4).seq = old at c1
          have HI : Hid (RdI w gc w.heap.size (rdC L sec 5) (w1.setCell ⟨gc, 2, none⟩ (.int .u64 x))) := HW1.out.2.1.set 2 _ (by rw [HRT.out.2]; rfl)
          go_upto_region 27 with (first | (go_at_call 38; refine HNum.out.mono ?_; rintro e2 w2 ⟨rfl, hw2⟩; obtain rfl := hw2) | (go_at_call 32; refine (isSeq_ok x _).mono ?_; rintro e3 w3 ⟨rfl, hw3⟩; obtain rfl := hw3; rw [← HRT.out.1]))
          cases hri : rightB L sec 4
          · have HWB : Hid (RdI w gc w.heap.size (rdC L sec 5) (w1.setCell ⟨gc, 2, none⟩ (.int .u64 x)) ∧ (w1.setCell ⟨gc, 2, none⟩ (.int .u64 x)).cell? ⟨gf, 3, none⟩ = some (.int .i64 y)) := ⟨HI.out, HS3.out _ _⟩
            have y3 := HWB.out.2
            go_wp2_with (first | (refine wpList_load_mid (by rfl) 24 (.tmp 8) (by rfl) gc 0 (by rfl) (rdC L sec 5).cells _ HWB.out.1.bc.range Tryd.underlying24 rfl (by kernel_rfl) ?_) | (refine wpList_store_bo (by rfl) (.tmp 6) (.tmp 102) (by rfl) zHc (rdC L sec 5) w.heap.size (by rfl) (by rfl) HWB.out.1.br ?_; intro u9 hb9 hg9))
            rw [Exit.noGoto_ret]
            refine ret_array2 (b := w.heap.size) (rdC L sec 5).cells (.int .i64 y) rfl rfl rfl hb9.range Tryd.underlying24 rfl (by kernel_rfl) ⟨Or.inl ⟨4, (rdC L sec 5), hlt, HKR.out, hri, by rw [HY.out]⟩, HWB.out.1.below.trans (below_gb hg9 HWB.out.1.below.size (Nat.le_refl _))⟩
          · go_wp2_with fail
            exact ⟨⟨4 + 1, by simp, rfl, by omega, HI.out, fun j hj => by
              by_cases e : j = 4
              · subst e; exact hri
              · exact HKR.out j (by omega)⟩, by simp [intOf]⟩
        · obtain rfl : n = 5 := HFN.out
          have HTx : Hid (Calls Tryd.prog 19 #[.slice (some ⟨b, p1, none⟩) p2 p3] w1 fun e w' => e = .returned (.tuple #[.string (txtS (cutL L 24 48)), .bool (txtB (cutL L 24 48))]) ∧ w1 = w') := textOf_ok b p1 p2 p3 (cutL L 24 48) w1 HPart.out.2.1 (by rw [HP2.out, HP3.out]; show 48 ≤ cp - 24; omega) (by rw [HP3.out]; omega) HPart.out.2.2 HPart.out.1
          have HRT : Hid (rightB L sec 5 = txtB (cutL L 24 48) ∧ rdC L sec 6 = { rdC L sec 5 with label := txtS (cutL L 24 48) }) := ⟨rfl, rfl⟩
          generalize txtS (cutL L 24 48) = x at HTx HRT
          rw [← HRT.out.1] at HTx
          have f1 : w1.frozen? ⟨gc, 3, none⟩ = false := HW1.out.2.1.bc.frozen 3
          have c1 : w1.cell? ⟨gc, 3, none⟩ = some (.string (rdC L sec 5).label) := HW1.out.2.1.bc.cell 3 _ rfl
          generalize (rdC L sec 5).label = old at c1
          have HI : Hid (RdI w gc w.heap.size (rdC L sec 6) (w1.setCell ⟨gc, 3, none⟩ (.string x))) := HW1.out.2.1.set 3 _ (by rw [HRT.out.2]; rfl)
          go_upto_region 27 with (go_at_call 19; refine HTx.out.mono ?_; rintro e2 w2 ⟨rfl, hw2⟩; obtain rfl := hw2)
          cases hri : rightB L sec 5
          · have HWB : Hid (RdI w gc w.heap.size (rdC L sec 6) (w1.setCell ⟨gc, 3, none⟩ (.string x)) ∧ (w1.setCell ⟨gc, 3, none⟩ (.string x)).cell? ⟨gf, 3, none⟩ = some (.int .i64 y)) := ⟨HI.out, HS3.out _ _⟩
            have y3 := HWB.out.2
            go_wp2_with (first | (refine wpList_load_mid (by rfl) 24 (.tmp 8) (by rfl) gc 0 (by rfl) (rdC L sec 6).cells _ HWB.out.1.bc.range Tryd.underlying24 rfl (by kernel_rfl) ?_) | (refine wpList_store_bo (by rfl) (.tmp 6) (.tmp 102) (by rfl) zHc (rdC L sec 6) w.heap.size (by rfl) (by rfl) HWB.out.1.br ?_; intro u9 hb9 hg9))
            rw [Exit.noGoto_ret]
            refine ret_array2 (b := w.heap.size) (rdC L sec 6).cells (.int .i64 y) rfl rfl rfl hb9.range Tryd.underlying24 rfl (by kernel_rfl) ⟨Or.inl ⟨5, (rdC L sec 6), hlt, HKR.out, hri, by rw [HY.out]⟩, HWB.out.1.below.trans (below_gb hg9 HWB.out.1.below.size (Nat.le_refl _))⟩
          · go_wp2_with fail
            exact ⟨⟨5 + 1, by simp, rfl, by omega, HI.out, fun j hj => by
              by_cases e : j = 5
              · subst e; exact hri
              · exact HKR.out j (by omega)⟩, by simp [intOf]⟩
        · obtain rfl : n = 7 := HFN.out
          have hri : rightB L sec 7 = true := rfl
          have cv := conv_by w1 b p1 p2 p3 (cutL L 104 64) HPart.out.2.1 HPart.out.1
          have HRT : Hid (rdC L sec 8 = { rdC L sec 7 with salt := strB (cutL L 104 64) }) := rfl
          generalize strB (cutL L 104 64) = x at cv HRT
          have f1 : w1.frozen? ⟨gc, 6, none⟩ = false := HW1.out.2.1.bc.frozen 6
          have c1 : w1.cell? ⟨gc, 6, none⟩ = some (.string (rdC L sec 7).salt) := HW1.out.2.1.bc.cell 6 _ rfl
          generalize (rdC L sec 7).salt = old at c1
          have HI : Hid (RdI w gc w.heap.size (rdC L sec 8) (w1.setCell ⟨gc, 6, none⟩ (.string x))) := HW1.out.2.1.set 6 _ (by rw [HRT.out]; rfl)
          go_upto_region 27 with fail
          go_wp2_with fail
          exact ⟨⟨7 + 1, by simp, rfl, by omega, HI.out, fun j hj => by
            by_cases e : j = 7
            · subst e; exact hri
            · exact HKR.out j (by omega)⟩, by simp [intOf]⟩
        · obtain rfl : n = 8 := HFN.out
          have HTx : Hid (Calls Tryd.prog 19 #[.slice (some ⟨b, p1, none⟩) p2 p3] w1 fun e w' => e = .returned (.tuple #[.string (txtS (cutL L 168 40)), .bool (txtB (cutL L 168 40))]) ∧ w1 = w') := textOf_ok b p1 p2 p3 (cutL L 168 40) w1 HPart.out.2.1 (by rw [HP2.out, HP3.out]; show 40 ≤ cp - 168; omega) (by rw [HP3.out]; omega) HPart.out.2.2 HPart.out.1
          have HRT : Hid (rightB L sec 8 = txtB (cutL L 168 40) ∧ rdC L sec 9 = { rdC L sec 8 with uuid := txtS (cutL L 168 40) }) := ⟨rfl, rfl⟩
          generalize txtS (cutL L 168 40) = x at HTx HRT
          rw [← HRT.out.1] at HTx
          have f1 : w1.frozen? ⟨gc, 5, none⟩ = false := HW1.out.2.1.bc.frozen 5
          have c1 : w1.cell? ⟨gc, 5, none⟩ = some (.string (rdC L sec 8).uuid) := HW1.out.2.1.bc.cell 5 _ rfl
          generalize (rdC L sec 8).uuid = old at c1
          have HI : Hid (RdI w gc w.heap.size (rdC L sec 9) (w1.setCell ⟨gc, 5, none⟩ (.string x))) := HW1.out.2.1.set 5 _ (by rw [HRT.out.2]; rfl)
          go_upto_region 27 with (go_at_call 19; refine HTx.out.mono ?_; rintro e2 w2 ⟨rfl, hw2⟩; obtain rfl := hw2)
          cases hri : rightB L sec 8
          · have HWB : Hid (RdI w gc w.heap.size (rdC L sec 9) (w1.setCell ⟨gc, 5, none⟩ (.string x)) ∧ (w1.setCell ⟨gc, 5, none⟩ (.string x)).cell? ⟨gf, 3, none⟩ = some (.int .i64 y)) := ⟨HI.out, HS3.out _ _⟩
            have y3 := HWB.out.2
            go_wp2_with (first | (refine wpList_load_mid (by rfl) 24 (.tmp 8) (by rfl) gc 0 (by rfl) (rdC L sec 9).cells _ HWB.out.1.bc.range Tryd.underlying24 rfl (by kernel_rfl) ?_) | (refine wpList_store_bo (by rfl) (.tmp 6) (.tmp 102) (by rfl) zHc (rdC L sec 9) w.heap.size (by rfl) (by rfl) HWB.out.1.br ?_; intro u9 hb9 hg9))
            rw [Exit.noGoto_ret]
            refine ret_array2 (b := w.heap.size) (rdC L sec 9).cells (.int .i64 y) rfl rfl rfl hb9.range Tryd.underlying24 rfl (by kernel_rfl) ⟨Or.inl ⟨8, (rdC L sec 9), hlt, HKR.out, hri, by rw [HY.out]⟩, HWB.out.1.below.trans (below_gb hg9 HWB.out.1.below.size (Nat.le_refl _))⟩
          · go_wp2_with fail
            exact ⟨⟨8 + 1, by simp, rfl, by omega, HI.out, fun j hj => by
              by_cases e : j = 8
              · subst e; exact hri
              · exact HKR.out j (by omega)⟩, by simp [intOf]⟩
        · obtain rfl : n = 9 := HFN.out
          have HTx : Hid (Calls Tryd.prog 19 #[.slice (some ⟨b, p1, none⟩) p2 p3] w1 fun e w' => e = .returned (.tuple #[.string (txtS (cutL L 208 48)), .bool (txtB (cutL L 208 48))]) ∧ w1 = w') := textOf_ok b p1 p2 p3 (cutL L 208 48) w1 HPart.out.2.1 (by rw [HP2.out, HP3.out]; show 48 ≤ cp - 208; omega) (by rw [HP3.out]; omega) HPart.out.2.2 HPart.out.1
          have HRT : Hid (rightB L sec 9 = txtB (cutL L 208 48) ∧ rdC L sec 10 = { rdC L sec 9 with sub := txtS (cutL L 208 48) }) := ⟨rfl, rfl⟩
          generalize txtS (cutL L 208 48) = x at HTx HRT
          rw [← HRT.out.1] at HTx
          have f1 : w1.frozen? ⟨gc, 4, none⟩ = false := HW1.out.2.1.bc.frozen 4
          have c1 : w1.cell? ⟨gc, 4, none⟩ = some (.string (rdC L sec 9).sub) := HW1.out.2.1.bc.cell 4 _ rfl
          generalize (rdC L sec 9).sub = old at c1
          have HI : Hid (RdI w gc w.heap.size (rdC L sec 10) (w1.setCell ⟨gc, 4, none⟩ (.string x))) := HW1.out.2.1.set 4 _ (by rw [HRT.out.2]; rfl)
          go_upto_region 27 with (go_at_call 19; refine HTx.out.mono ?_; rintro e2 w2 ⟨rfl, hw2⟩; obtain rfl := hw2)
          cases hri : rightB L sec 9
          · have HWB : Hid (RdI w gc w.heap.size (rdC L sec 10) (w1.setCell ⟨gc, 4, none⟩ (.string x)) ∧ (w1.setCell ⟨gc, 4, none⟩ (.string x)).cell? ⟨gf, 3, none⟩ = some (.int .i64 y)) := ⟨HI.out, HS3.out _ _⟩
            have y3 := HWB.out.2
            go_wp2_with (first | (refine wpList_load_mid (by rfl) 24 (.tmp 8) (by rfl) gc 0 (by rfl) (rdC L sec 10).cells _ HWB.out.1.bc.range Tryd.underlying24 rfl (by kernel_rfl) ?_) | (refine wpList_store_bo (by rfl) (.tmp 6) (.tmp 102) (by rfl) zHc (rdC L sec 10) w.heap.size (by rfl) (by rfl) HWB.out.1.br ?_; intro u9 hb9 hg9))
            rw [Exit.noGoto_ret]
            refine ret_array2 (b := w.heap.size) (rdC L sec 10).cells (.int .i64 y) rfl rfl rfl hb9.range Tryd.underlying24 rfl (by kernel_rfl) ⟨Or.inl ⟨9, (rdC L sec 10), hlt, HKR.out, hri, by rw [HY.out]⟩, HWB.out.1.below.trans (below_gb hg9 HWB.out.1.below.size (Nat.le_refl _))⟩
          · go_wp2_with fail
            exact ⟨⟨9 + 1, by simp, rfl, by omega, HI.out, fun j hj => by
              by_cases e : j = 9
              · subst e; exact hri
              · exact HKR.out j (by omega)⟩, by simp [intOf]⟩
    · have hk13 : k = 13 := by omega
      subst hk13
      clear hlt
      have HI : Hid (RdI w gc w.heap.size (rdC L sec 13) wr ∧ ∀ j, j < 13 → rightB L sec j = true) := HK
      go_wp2_with (first | (refine wpList_load_mid (by rfl) 24 (.tmp 8) (by rfl) gc 0 (by rfl) (rdC L sec 13).cells _ HI.out.1.bc.range Tryd.underlying24 rfl (by kernel_rfl) ?_) | (refine wpList_store_bo (by rfl) (.tmp 6) (.tmp 102) (by rfl) zHc (rdC L sec 13) w.heap.size (by rfl) (by rfl) HI.out.1.br ?_; intro u9 hb9 hg9))
      rw [Exit.noGoto_ret]
      refine ret_array2 (b := w.heap.size) (rdC L sec 13).cells (.int .i64 0) rfl rfl rfl hb9.range Tryd.underlying24 rfl (by kernel_rfl) ⟨Or.inr ⟨HI.out.2, rfl⟩, HI.out.1.below.trans (below_gb hg9 HI.out.1.below.size (Nat.le_refl _))⟩
end Go.Proofs.YtoanndhaopgkjaaDoor
namespace Go.Proofs.YtoanndhaopgkjaaDoor
open Go.RowKit
set_option linter.unusedVariables false
set_option linter.unusedSimpArgs false
/-- The first field that is not right. -/
def badK (L : List Int) (sec : Bool) : Option Nat := (List.range 13).find? fun k => !rightB L sec k
theorem badK_some {L : List Int} {sec : Bool} {k : Nat} (hk : k < 13) (h1 : ∀ j, j < k → rightB L sec j = true) (h2 : rightB L sec k = false) : badK L sec = some k := by
  unfold badK
  rw [List.find?_range_eq_some]
  exact ⟨by rw [h2]; rfl, by simpa using hk, fun j hj => by rw [h1 j hj]; rfl⟩
theorem badK_none {L : List Int} {sec : Bool} (h : ∀ j, j < 13 → rightB L sec j = true) : badK L sec = none := by
  unfold badK
  rw [List.find?_eq_none]
  intro k hk
  rw [h k (by simpa using hk)]
  decide
/-- Unpack's error. -/
def unpE (L : List Int) (sec : Bool) : Int :=
  if L.length < 4096 then 5 else
  match badK L sec with
  | some k => (fldE k : Nat)
  | none => if txtB (L.drop 4096) = true then 0 else 86
/-- Unpack's copy. -/
def unpC (L : List Int) (sec : Bool) : Hc := if unpE L sec = 0 then { rdC L sec 13 with text := txtS (L.drop 4096) } else zHc
theorem fldE_ne (k : Nat) (hk : k < 13) : ((fldE k : Nat) : Int) ≠ 0 := by
  match k, hk with
  | 0, _ | 1, _ | 2, _ | 3, _ | 4, _ | 5, _ | 6, _ | 7, _ | 8, _ | 9, _ | 10, _ | 11, _ | 12, _ => decide
/-- What either Unpack answers. -/
def UnpR (L : List Int) (sec : Bool) (w : World) (e : Ending) (w' : World) : Prop := e = .returned (.tuple #[.agg (unpC L sec).cells.toArray, .int .i64 (unpE L sec)]) ∧ Below w.heap.size w w'
theorem build24 (u : World) : (Instr.build 24 #[]).run Tryd.prog u = .ok (.agg zHc.cells.toArray) u := by kernel_rfl
set_option maxRecDepth 100000 in
theorem unpack_short (a : Option Addr) (n c : Nat) (L : List Int) (sec : Bool) (w : World) (hn : L.length = n) (h : n < 4096) : Calls Tryd.prog 8 #[.slice a n c, .bool sec] w (UnpR L sec w) := by
  have HU : Hid (unpE L sec = 5 ∧ unpC L sec = zHc) := by
    have e : unpE L sec = 5 := by rw [unpE, if_pos (by omega)]
    exact ⟨e, by rw [unpC, if_neg (by rw [e]; decide)]⟩
  clear hn
  go_enter Tryd.func8, Tryd.ntmps8
  go_wp2
  refine bodyPost_ret (v := .tuple #[.agg zHc.cells.toArray, .int .i64 5]) (by simp [results, Tryd.results8, go_sem, zHc, Hc.cells]) rfl ⟨by rw [HU.out.1, HU.out.2], al1 w _⟩
theorem txt_drop (L : List Int) (N : Nat) (hN : L.length = N) (h : 4096 ≤ N) : cutL L 4096 (N - 4096) = L.drop 4096 := by
  unfold cutL
  rw [List.take_of_length_le (by simp; omega)]
set_option maxHeartbeats 1000000 in
set_option maxRecDepth 100000 in
theorem unpack_long (b o N cp : Nat) (L : List Int) (sec : Bool) (w : World) (hF : FT w) (hT : Tables w) (hN : L.length = N) (h1 : 4096 ≤ N) (h2 : N ≤ cp) (h3 : cp ≤ 9223372036854775807) (hL : Byt L) (hb : By w b o L) :
    Calls Tryd.prog 8 #[.slice (some ⟨b, o, none⟩) N cp, .bool sec] w (UnpR L sec w) := by
  have hblt := hb.lt (by omega)
  have HF : Hid (FT w) := hF
  have HT : Hid (Tables w) := hT
  have HL : Hid (Byt L ∧ L.length = N) := ⟨hL, hN⟩
  have HBy : Hid (∀ u, Below w.heap.size w u → By u b o L) := fun u hu => hb.below hu hblt
  have hft := hF.lt
  have HA : Hid (Bo (w.alloc (.cells zHc.cells.toArray 24)) w.heap.size zHc ∧ Below w.heap.size w (w.alloc (.cells zHc.cells.toArray 24))) := ⟨Bo.new w zHc, al1 w _⟩
  have HRd : Hid (∀ u, Below w.heap.size w u → Calls Tryd.prog 18 #[.slice (some ⟨b, o, none⟩) N cp, .bool sec, .bool false] u fun e w' => RdQ L sec e ∧ Below u.heap.size u w') := fun u hu =>
    readFixed_ok b o N cp L sec u (HF.out.below hu hft) (HT.out.below hu HT.out.size) HL.out.2 h1 h2 h3 HL.out.1 (HBy.out u hu)
  have bl := build24
  clear hF hT hN hL hb
  have hz : zHc.cells.toArray = #[.bool false, .int .i64 0, .int .u64 0, .string ⟨#[]⟩, .string ⟨#[]⟩, .string ⟨#[]⟩, .string ⟨#[]⟩, .string ⟨#[]⟩] := rfl
  rw [hz] at HA
  have d1 : decide ((N : Int) < 4096) = false := decide_eq_false (by omega)
  go_enter Tryd.func8, Tryd.ntmps8
  go_upto_region 3 with fail
  generalize (w.alloc (.cells #[.bool false, .int .i64 0, .int .u64 0, .string ⟨#[]⟩, .string ⟨#[]⟩, .string ⟨#[]⟩, .string ⟨#[]⟩, .string ⟨#[]⟩] 24)) = wA at HA ⊢
  go_wp2_with (go_at_call 18; refine (HRd.out _ HA.out.2).mono ?_)
  rintro e1 w1 ⟨hq, hb1⟩
  have HB1 : Hid (Bo w1 w.heap.size zHc ∧ Below w.heap.size w w1) := ⟨HA.out.1.below hb1, HA.out.2.trans (hb1.mono HA.out.2.size)⟩
  have HN1 : Hid (∀ c' : Hc, Bo (w1.alloc (.cells #[.bool false, .int .i64 0, .int .u64 0, .string ⟨#[]⟩, .string ⟨#[]⟩, .string ⟨#[]⟩, .string ⟨#[]⟩, .string ⟨#[]⟩] 24)) w1.heap.size zHc ∧ w1.heap.size ≠ w.heap.size) := fun _ => ⟨Bo.new w1 zHc, by have := HB1.out.1.lt; omega⟩
  clear hb1
  rcases hq with ⟨k, c, hk, hj, hr, rfl⟩ | ⟨hall, rfl⟩
  · have HU : Hid (unpE L sec = (fldE k : Nat) ∧ unpC L sec = zHc) := by
      have e : unpE L sec = (fldE k : Nat) := by rw [unpE, if_neg (by rw [HL.out.2]; omega), badK_some hk hj hr]
      exact ⟨e, by rw [unpC, if_neg (by rw [e]; exact fldE_ne k hk)]⟩
    have hne : (((fldE k : Nat) : Int) != 0) = true := by have := fldE_ne k hk; simpa using this
    generalize ((fldE k : Nat) : Int) = E at HU hne
    go_upto_region 5 with (refine wpList_store_bo (by rfl) (.tmp 6) (.tmp 18) (by rfl) zHc c w1.heap.size (by rfl) (by rfl) (HN1.out c).1 ?_; intro u2 hb2 hg2)
    have HB2 : Hid (Bo u2 w.heap.size zHc ∧ Below w.heap.size w u2) := ⟨(HB1.out.1.below (al1 w1 _)).keep (hg2.block _ (by have := HB1.out.1.lt; simp; omega) (fun e => (HN1.out c).2 (Option.some.inj e).symm)), HB1.out.2.trans (((al1 w1 _).trans (below_gb hg2 (by simp) (Nat.le_refl _))).mono HB1.out.2.size)⟩
    clear hb2 hg2
    go_wp2_with (refine wpList_store_bo (by rfl) (.tmp 4) (.tmp 22) (by rfl) zHc zHc w.heap.size (by rfl) (by rfl) HB2.out.1 ?_; intro u9 hb9 hg9)
    refine ret_array2 (b := w.heap.size) zHc.cells (.int .i64 E) rfl rfl rfl hb9.range Tryd.underlying24 rfl (by kernel_rfl) ⟨by rw [HU.out.1, HU.out.2], HB2.out.2.trans (below_gb hg9 HB2.out.2.size (Nat.le_refl _))⟩
  · have hN16 : 16384 ≤ N := by
      have q : (headB (beN (cutL L 8 8)) && decide ((L.length : Int) = beN (cutL L 8 8))) = true := hall 2 (by omega)
      rw [Bool.and_eq_true, decide_eq_true_eq, HL.out.2] at q
      have := headB_le q.1
      omega
    have HU : Hid (unpE L sec = if txtB (L.drop 4096) = true then 0 else 86) := by
      show _ = _
      rw [unpE, if_neg (by rw [HL.out.2]; omega), badK_none hall]
    have HTx : Hid (∀ u, Below w.heap.size w u → Calls Tryd.prog 19 #[.slice (some ⟨b, o + 4096, none⟩) (N - 4096) (cp - 4096)] u fun e w' => e = .returned (.tuple #[.string (txtS (L.drop 4096)), .bool (txtB (L.drop 4096))]) ∧ u = w') := fun u hu => by
      have q := (HBy.out u hu).cut 4096 (N - 4096) (by rw [HL.out.2]; omega)
      rw [txt_drop L N HL.out.2 h1] at q
      exact textOf_ok b (o + 4096) (N - 4096) (cp - 4096) (L.drop 4096) u (by simp [HL.out.2]) (by omega) (by omega) (fun z hz => HL.out.1 z (List.mem_of_mem_drop hz)) q
    have hcp : ¬ cp = 4096 := by omega
    have HC : Hid (unpC L sec = if txtB (L.drop 4096) = true then { rdC L sec 13 with text := txtS (L.drop 4096) } else zHc) := by
      show _ = _
      rw [unpC, HU.out]
      cases txtB (L.drop 4096) <;> rfl
    generalize txtS (L.drop 4096) = x at HTx HC
    cases htx : txtB (L.drop 4096)
    all_goals rw [htx] at HTx HC HU
    · go_upto_region 6 with (refine wpList_store_bo (by rfl) (.tmp 6) (.tmp 18) (by rfl) zHc (rdC L sec 13) w1.heap.size (by rfl) (by rfl) (HN1.out zHc).1 ?_; intro u2 hb2 hg2)
      have HB2 : Hid (Bo u2 w.heap.size zHc ∧ Below w.heap.size w u2) := ⟨(HB1.out.1.below (al1 w1 _)).keep (hg2.block _ (by have := HB1.out.1.lt; simp; omega) (fun e => (HN1.out zHc).2 (Option.some.inj e).symm)), HB1.out.2.trans (((al1 w1 _).trans (below_gb hg2 (by simp) (Nat.le_refl _))).mono HB1.out.2.size)⟩
      clear hb2 hg2
      go_wp2_with (first | (go_at_call 19; refine (HTx.out _ HB2.out.2).mono ?_; rintro e3 w3 ⟨rfl, hw3⟩; obtain rfl := hw3) | (refine wpList_store_bo (by rfl) (.tmp 4) (.tmp 32) (by rfl) zHc zHc w.heap.size (by rfl) (by rfl) HB2.out.1 ?_; intro u9 hb9 hg9))
      refine ret_array2 (b := w.heap.size) zHc.cells (.int .i64 86) rfl rfl rfl hb9.range Tryd.underlying24 rfl (by kernel_rfl) ⟨by rw [HU.out, HC.out]; rfl, HB2.out.2.trans (below_gb hg9 HB2.out.2.size (Nat.le_refl _))⟩
    · go_upto_region 6 with (refine wpList_store_bo (by rfl) (.tmp 6) (.tmp 18) (by rfl) zHc (rdC L sec 13) w1.heap.size (by rfl) (by rfl) (HN1.out zHc).1 ?_; intro u2 hb2 hg2)
      have HB2 : Hid (Bo u2 w.heap.size zHc ∧ Below w.heap.size w u2 ∧ Bo u2 w1.heap.size (rdC L sec 13)) := ⟨(HB1.out.1.below (al1 w1 _)).keep (hg2.block _ (by have := HB1.out.1.lt; simp; omega) (fun e => (HN1.out zHc).2 (Option.some.inj e).symm)), HB1.out.2.trans (((al1 w1 _).trans (below_gb hg2 (by simp) (Nat.le_refl _))).mono HB1.out.2.size), hb2⟩
      clear hb2 hg2
      have f7 : u2.frozen? ⟨w1.heap.size, 7, none⟩ = false := HB2.out.2.2.frozen 7
      have c7 : u2.cell? ⟨w1.heap.size, 7, none⟩ = some (.string (rdC L sec 13).text) := HB2.out.2.2.cell 7 _ rfl
      have HB3 : Hid (Bo (u2.setCell ⟨w1.heap.size, 7, none⟩ (.string x)) w1.heap.size { rdC L sec 13 with text := x } ∧ Bo (u2.setCell ⟨w1.heap.size, 7, none⟩ (.string x)) w.heap.size zHc ∧ Below w.heap.size w (u2.setCell ⟨w1.heap.size, 7, none⟩ (.string x))) :=
        ⟨HB2.out.2.2.set 7 _ rfl, HB2.out.1.keep (Below.heap_setCell _ _ _ _ (fun e => (HN1.out zHc).2 e.symm)), HB2.out.2.1.setCell HB1.out.2.size _⟩
      generalize (rdC L sec 13).text = old at c7
      go_upto_region 10 with (go_at_call 19; refine (HTx.out _ HB2.out.2.1).mono ?_; rintro e3 w3 ⟨rfl, hw3⟩; obtain rfl := hw3)
      generalize (u2.setCell ⟨w1.heap.size, 7, none⟩ (.string x)) = u3 at HB3 ⊢
      go_wp2_with (first | (refine wpList_load_mid (by rfl) 24 (.tmp 6) (by rfl) w1.heap.size 0 (by rfl) ({ rdC L sec 13 with text := x } : Hc).cells _ HB3.out.1.range Tryd.underlying24 rfl (by kernel_rfl) ?_) | (refine wpList_store_bo (by rfl) (.tmp 4) (.tmp 35) (by rfl) zHc { rdC L sec 13 with text := x } w.heap.size (by rfl) (by rfl) HB3.out.2.1 ?_; intro u9 hb9 hg9))
      refine ret_array2 (b := w.heap.size) ({ rdC L sec 13 with text := x } : Hc).cells (.int .i64 0) rfl rfl rfl hb9.range Tryd.underlying24 rfl (by kernel_rfl) ⟨by rw [HU.out, HC.out]; rfl, HB3.out.2.2.trans (below_gb hg9 HB3.out.2.2.size (Nat.le_refl _))⟩
/-- Unpack of any bytes. -/
theorem unpack_ok (v : Value) (L : List Int) (sec : Bool) (w : World) (hF : FT w) (hT : Tables w) (hL : Byt L) (hv : View w v L) : Calls Tryd.prog 8 #[v, .bool sec] w (UnpR L sec w) := by
  obtain ⟨a, cp, rfl, h1, h2, h3, h4⟩ := hv
  by_cases h : L.length < 4096
  · exact unpack_short a L.length cp L sec w rfl h
  · rcases h4 with rfl | ⟨b, o, rfl, hc⟩
    · simp at h
    · exact unpack_long b o L.length cp L sec w hF hT rfl (by omega) h1 (by simpa [maxLen] using h2) hL hc
end Go.Proofs.YtoanndhaopgkjaaDoor
