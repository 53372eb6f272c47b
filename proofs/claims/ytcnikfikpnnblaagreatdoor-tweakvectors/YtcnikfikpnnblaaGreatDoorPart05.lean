import Derived.Test.YtcnikfikpnnblaaGreatDoorPart03
import Derived.Ground.NamesProg
import Derived.Shelf.Lay
import Derived.Shelf.Strconv.Itoa3
import Derived.WalkSmall
import Derived.Deep.AppendLies
import Derived.Lib.LaidTab
import Derived.Test.YtcnikfikpnnblaaGreatDoorPart02
import Derived.Test.YtcnikfikpnnblaaGreatDoorPart01
import Derived.Deep.RegionHeld3
import Derived.Deep.DrawnRows
import Derived.Laws.BytesString
namespace Go.Proofs
open Go.RowKit Go.Shelf Go.Lib
shelf_lay LaysM.n171 Nm 171 at Tryz as Tryz.laysItoa
end Go.Proofs
namespace Go.Proofs.YtcnikfikpnnblaaGreatDoor
open Go.RowKit
set_option linter.unusedVariables false
/-- The table of strconv. -/
def Pow (w : World) : Prop := Lib.TabIs Tryz.prog w "internal/strconv.uint64pow10" .u64 Lib.pow10Tab
theorem Pow.below {w v : World} (h : Pow w) (b : Below w.heap.size w v) : Pow v := by
  unfold Pow Lib.TabIs at h ⊢
  cases hgn : Tryz.prog.globalNamed "internal/strconv.uint64pow10" with
  | none => simp [World.var?, hgn] at h
  | some g =>
    refine var?_below b hgn ?_ h
    rcases Nat.lt_or_ge g w.heap.size with hlt | hge
    · exact hlt
    · simp [World.var?, hgn, Array.getElem?_eq_none hge] at h
/-- strconv.Itoa. -/
theorem itoa_ok (n : Nat) (hn : n ≤ 1000) (w : World) (hT : Pow w) :
    Calls Tryz.prog 67 #[.int .i64 (n : Nat)] w fun e w' => Hid (e = .returned (.string ⟨(Lib.itoa (n : Nat)).toArray⟩) ∧ Below w.heap.size w w') := by
  refine (Any.strconv_Itoa Tryz.laysItoa (n : Nat) (by omega) (by omega) w hT).mono ?_
  rintro e w' ⟨rfl, k, os, rfl⟩
  exact ⟨rfl, rfl, rfl, rfl, by simp [Sort.grow], fun i hi => Sort.heap_grow_old (w.drewN k) os hi⟩
/-- A mode's name. -/
def nmB (k : Nat) : ByteArray := match modesL.getD k [] with
  | .string s :: _ => s
  | _ => ⟨#[]⟩
theorem mode_at (k : Nat) (hk : k < 17) : ∃ (a b c : Int) (f : Value) (g : Nat), modesL.getD k [] = [.string (nmB k), .int .i64 a, .int .i64 b, .int .i64 c, f, .func (.func g) #[] #[]] ∧ (f = .nilFunc ∨ ∃ m, f = .func (.func m) #[] #[]) := by
  match k, hk with
  | 0, _ => exact ⟨_, _, _, _, _, rfl, .inl rfl⟩
  | 1, _ => exact ⟨_, _, _, _, _, rfl, .inr ⟨_, rfl⟩⟩
  | 2, _ => exact ⟨_, _, _, _, _, rfl, .inr ⟨_, rfl⟩⟩
  | 3, _ => exact ⟨_, _, _, _, _, rfl, .inr ⟨_, rfl⟩⟩
  | 4, _ => exact ⟨_, _, _, _, _, rfl, .inr ⟨_, rfl⟩⟩
  | 5, _ => exact ⟨_, _, _, _, _, rfl, .inr ⟨_, rfl⟩⟩
  | 6, _ => exact ⟨_, _, _, _, _, rfl, .inr ⟨_, rfl⟩⟩
  | 7, _ => exact ⟨_, _, _, _, _, rfl, .inr ⟨_, rfl⟩⟩
  | 8, _ => exact ⟨_, _, _, _, _, rfl, .inr ⟨_, rfl⟩⟩
  | 9, _ => exact ⟨_, _, _, _, _, rfl, .inr ⟨_, rfl⟩⟩
  | 10, _ => exact ⟨_, _, _, _, _, rfl, .inr ⟨_, rfl⟩⟩
  | 11, _ => exact ⟨_, _, _, _, _, rfl, .inr ⟨_, rfl⟩⟩
  | 12, _ => exact ⟨_, _, _, _, _, rfl, .inr ⟨_, rfl⟩⟩
  | 13, _ => exact ⟨_, _, _, _, _, rfl, .inr ⟨_, rfl⟩⟩
  | 14, _ => exact ⟨_, _, _, _, _, rfl, .inr ⟨_, rfl⟩⟩
  | 15, _ => exact ⟨_, _, _, _, _, rfl, .inr ⟨_, rfl⟩⟩
  | 16, _ => exact ⟨_, _, _, _, _, rfl, .inr ⟨_, rfl⟩⟩
  | n + 17, h => exact absurd h (by omega)
/-- n rows, one behind the other. -/
def fl (f : Nat → List Value) : Nat → List Value
  | 0 => []
  | n + 1 => fl f n ++ f n
theorem fl_len (f : Nat → List Value) (K : Nat) (hK : ∀ i, (f i).length = K) (n : Nat) : (fl f n).length = n * K := by
  induction n with
  | zero => simp [fl]
  | succ n ih => rw [fl, List.length_append, ih, hK, Nat.succ_mul]
theorem fl_at (f : Nat → List Value) (K : Nat) (hK : ∀ i, (f i).length = K) (n i j : Nat) (hi : i < n) (hj : j < K) : (fl f n)[i * K + j]? = (f i)[j]? := by
  induction n with
  | zero => omega
  | succ n ih =>
    rw [fl]
    by_cases h : i < n
    · have : i * K + K ≤ n * K := by rw [← Nat.succ_mul]; exact Nat.mul_le_mul_right K h
      rw [List.getElem?_append_left (by rw [fl_len f K hK]; omega)]
      exact ih h
    · have e : i = n := by omega
      subst e
      rw [List.getElem?_append_right (by rw [fl_len f K hK]; omega), fl_len f K hK]
      congr 1
      omega
/-- The digits of 8 * (16 + 8 i). -/
def itB (i : Nat) : ByteArray := ⟨(Lib.itoa ((8 * (16 + 8 * i) : Nat) : Int)).toArray⟩
/-- The name with number 1 + 17 i + k. -/
def sxN (i k : Nat) : ByteArray := ((⟨#[97, 101, 115]⟩ : ByteArray) ++ itB i ++ (⟨#[45]⟩ : ByteArray)) ++ nmB k
/-- The suites: a row each. -/
def sxF : Nat → List Value
  | 0 => [.string ⟨#[110, 117, 108, 108]⟩, .int .i64 0, .string ⟨#[]⟩, .int .i64 0, .int .i64 0, .int .i64 1, .nilFunc, .func (.func 65) #[] #[]]
  | j + 1 => .string (sxN (j / 17) (j % 17)) :: .int .i64 ((16 + 8 * (j / 17) : Nat) : Int) :: modesL.getD (j % 17) []
theorem sxF_len (j : Nat) : (sxF j).length = 8 := by
  cases j with
  | zero => rfl
  | succ j =>
    obtain ⟨a, b, c, f, g, h, _⟩ := mode_at (j % 17) (Nat.mod_lt _ (by decide))
    rw [sxF, h]; rfl
theorem sxF_at (i k : Nat) (hk : k < 17) : sxF (1 + 17 * i + k) = .string (sxN i k) :: .int .i64 ((16 + 8 * i : Nat) : Int) :: modesL.getD k [] := by
  have e : 1 + 17 * i + k = (17 * i + k) + 1 := by omega
  rw [e, sxF, show (17 * i + k) / 17 = i by omega, show (17 * i + k) % 17 = k by omega]
theorem ownsRow_lt {w : World} {base : Nat} {e : TypeId} {K : Nat} {v : Value} {n : Nat} {xs : List Value} (h : w.ownsRow base e K v n xs) {g : Nat} (hg : v.ownBlock = some g) : base ≤ g ∧ g < w.heap.size := by
  rcases h.2 with ⟨rfl, _⟩ | ⟨g', cap, cur, rfl, hb, hgg, _⟩
  · simp [Value.ownBlock] at hg
  · have e : g' = g := by simpa [Value.ownBlock] using hg
    subst e
    refine ⟨hb, ?_⟩
    rcases Nat.lt_or_ge g' w.heap.size with hlt | hge
    · exact hlt
    · rw [Array.getElem?_eq_none hge] at hgg; cases hgg
theorem ownsRow_keep {w w' : World} {base : Nat} {e : TypeId} {K : Nat} {v : Value} {n : Nat} {xs : List Value} (h : w.ownsRow base e K v n xs) (hk : ∀ g, v.ownBlock = some g → w'.heap[g]? = w.heap[g]?) : w'.ownsRow base e K v n xs := by
  refine ⟨h.1, ?_⟩
  rcases h.2 with hn | ⟨g, cap, cur, hv, hb, hgg, rest⟩
  · exact .inl hn
  · exact .inr ⟨g, cap, cur, hv, hb, by rw [hk g (by rw [hv]; rfl)]; exact hgg, rest⟩
theorem ownsRow_below {w w' : World} {base : Nat} {e : TypeId} {K : Nat} {v : Value} {n : Nat} {xs : List Value} (h : w.ownsRow base e K v n xs) (hb : Below w.heap.size w w') : w'.ownsRow base e K v n xs :=
  ownsRow_keep h fun g hg => hb.block g (ownsRow_lt h hg).2
/-- A row that was just made. -/
theorem ownsRow_new (w : World) (base : Nat) (e : TypeId) (K n : Nat) (xs : List Value) (hb : base ≤ w.heap.size) (hn : n ≤ 1000) (hl : xs.length = n * K) : (w.alloc (.cells xs.toArray e)).ownsRow base e K (.slice (some ⟨w.heap.size, 0, none⟩) n n) n xs := by
  refine ⟨hl, .inr ⟨w.heap.size, n, xs.toArray, rfl, hb, heap_alloc_new w _, Nat.le_refl _, by unfold maxLen; omega, by simpa using hl, by simp [← hl]⟩⟩
end Go.Proofs.YtcnikfikpnnblaaGreatDoor
namespace Go.Proofs.YtcnikfikpnnblaaGreatDoor.Hx
open Go.RowKit
attribute [local go_sem ↓] Go.wp_at_zero Go.wp_at_succ

set_option maxHeartbeats 800000 in
set_option maxRecDepth 100000 in
theorem hex_core (b off n cap : Nat) (xs : List Int) (w : World) (hx : Hid (xs.length = n)) (hn : n ≤ 65536) (ax : Hid (AllBytes xs))
    (h1 : ∀ i, i < n → w.cell? ⟨b, off + i, none⟩ = some (.int .u8 (xs.getD i 0))) :
    Calls Tryz.prog 13 #[.slice (some ⟨b, off, none⟩) n cap] w fun e w' => e = .returned (.string (strOfNums (hexBytes xs))) ∧ Below w.heap.size w w' := by
  obtain ⟨i0, hi, hz0, hz1, hz2⟩ := info_parts Tryz.info5
  have h8 : decide ((8388608 : Int) < (n : Int)) = false := by simp; omega
  go_enter Tryz.func13, Tryz.ntmps13
  go_wp2_with (first
    | (at_make; go_must (refine wpList_make_own _ rfl _ _ 24 rfl w.heap.size 5 i0 (.int .u8 0) 1 Tryz.underlying24 hi hz0 hz1 .i64 .i64 (2 * (n : Int)) (2 * n) rfl rfl ?_ ?_ ?_ ?_ ?_)))
  · simp
  · rw [hz2]; omega
  · unfold maxLen; omega
  · omega
  intro w1 hown hgrow
  have hb0 : Below w.heap.size w w1 := (Below.refl _ _).grown hgrow (Nat.le_refl _) (by intro k hk; cases hk)
  have HB : Hid (Below w.heap.size w w1) := hb0
  clear hgrow hb0
  go_wp2
  go_loopw [3, 15] (fun v i wr => ∃ k : Nat, k ≤ n ∧ i = .int .i64 k ∧ wr.ownsRow w.heap.size 5 1 v (2 * k) (cellsU8 (hexBytes (xs.take k))) ∧ Hid (Below w.heap.size w wr)) (fun _ i _ => n - (intOf i).toNat)
  case atStart => exact ⟨0, by omega, rfl, hown, HB⟩
  case round =>
    obtain ⟨k, hk, rfl, hown2, HB2⟩ := hrel
    clear hown HB
    by_cases hlt : k < n
    · have hb := ax.out k
      obtain ⟨z, hz⟩ : ∃ z, z = xs.getD k 0 := ⟨_, rfl⟩
      have g1 : wr.cell? ⟨b, off + k, none⟩ = some (.int .u8 z) := by rw [hz, HB2.out.cell (World.block_lt_of_cell? w _ (h1 k hlt))]; exact h1 k hlt
      rw [← hz] at hb
      obtain ⟨hb1, hb2⟩ := hb
      have HZ : Hid (z = xs.getD k 0) := hz
      clear hz h1
      have ha : bits .and .u8 z 15 = z % 16 := u8_and15 _ hb1 hb2
      have hm1 : z % 16 < 16 := by omega
      have hm0 : 0 ≤ z % 16 := by omega
      go_wp2
      have hD := hexD_at
      go_region_held3 (fun _ => True) (trivial) ((refine step_append_lies _ (by rfl) _ _ _ (by rfl) w.heap.size 5 i0 (.int .u8 0) 1 1 Tryz.underlying24 hi hz0 hz1 hz2 (by rfl) (by decide) _ (2 * k) (cellsU8 (hexBytes (xs.take k))) (by rfl) (hown2.alloc _).drew ⟨wr.heap.size, 0, none⟩ 2 2 (cellsU8 [hexD (z / 16).toNat, hexD (z % 16).toNat]) (by rfl) (by rfl) (World.news_of_block (heap_alloc_new wr _)) (cellsU8_one _) (by decide) (by unfold maxLen; omega) (by omega) (by have := HB2.out.size; simp; omega) (wr.heap.size + 1) (by simp) ?_; intro g cp w2 hown3 hgrow2 hat hglt))
      all_goals
        have HB3 : Hid (Below w.heap.size w w2) := (HB2.out.alloc HB2.out.size _).drew.grown hgrow2 (by have := HB2.out.size; simp; omega) (fun q hq => (hown2.lt q hq).1)
        have ho3 : w2.ownsRow w.heap.size 5 1 (.slice (some ⟨g, 0, none⟩) (2 * k + 2) cp) (2 * (k + 1)) (cellsU8 (hexBytes (xs.take (k + 1)))) := by
          rw [take_snoc xs k (by rw [hx.out]; exact hlt), hexBytes_append, cellsU8_append, ← HZ.out]
          exact hown3
        have HO3 : Hid (w2.ownsRow w.heap.size 5 1 (.slice (some ⟨g, 0, none⟩) (2 * k + 2) cp) (2 * (k + 1)) (cellsU8 (hexBytes (xs.take (k + 1))))) := ho3
        clear ho3 hown3 hgrow2 hat hglt hown2 HB2
        go_wp2
        go_roundw
        case rel => exact ⟨k + 1, by omega, by go_num, HO3, HB3⟩
        case measure => simp [intOf]; omega
    · obtain rfl : k = n := by omega
      have htk : xs.take k = xs := List.take_of_length_le (by rw [hx.out]; exact Nat.le_refl _)
      rw [htk] at hown2
      have hlen : (hexBytes xs).length = 2 * k := by rw [hexBytes_length, hx.out]
      have hback : ∀ dst, Tryz.prog.underlying dst = some .string → (convert 24 dst u3).run Tryz.prog wr = .ok (.string (strOfNums (hexBytes xs))) wr := by
        rcases hown2.2 with ⟨rfl, h0⟩ | ⟨g, c, cur, rfl, hg1, hg2, hg3, hg4, hg5, hg6⟩
        · have hnil : hexBytes xs = [] := List.eq_nil_of_length_eq_zero (by omega)
          rw [hnil, strOfNums_nil]
          exact run_convert_bytes_nil wr 24 5 Tryz.underlying24 Tryz.underlying5 0 0
        · refine run_convert_bytes_arg wr 24 5 Tryz.underlying24 Tryz.underlying5 g 0 (2 * k) c (hexBytes xs) hlen (fun i hi => ?_)
          have hc := hown2.cells (g := g) rfl i (.int .u8 ((hexBytes xs).getD i 0)) (by simp [cellsU8, List.getD, List.getElem?_eq_getElem (show i < (hexBytes xs).length by omega)])
          rw [Addr.add_lit] at hc
          simpa using hc
      have hbk := hback 9 Tryz.underlying9
      clear hback hown2 htk hlen hlt hk
      go_wp2
      go_ret
      exact ⟨rfl, HB2⟩

set_option maxHeartbeats 800000 in
theorem hex_zero (a : Option Addr) (cap : Nat) (w : World) :
    Calls Tryz.prog 13 #[.slice a 0 cap] w fun e w' => e = .returned (.string ByteArray.empty) ∧ Below w.heap.size w w' := by
  obtain ⟨i0, hi, hz0, hz1, hz2⟩ := info_parts Tryz.info5
  go_enter Tryz.func13, Tryz.ntmps13
  go_wp2_with (first
    | (at_make; go_must (refine wpList_make_own _ rfl _ _ 24 rfl w.heap.size 5 i0 (.int .u8 0) 1 Tryz.underlying24 hi hz0 hz1 .i64 .i64 0 0 rfl rfl ?_ ?_ ?_ ?_ ?_)))
  · simp
  · rw [hz2]; omega
  · unfold maxLen; omega
  · omega
  intro w1 hown hgrow
  have hb0 : Below w.heap.size w w1 := (Below.refl _ _).grown hgrow (Nat.le_refl _) (by intro k hk; cases hk)
  have HB : Hid (Below w.heap.size w w1) := hb0
  clear hgrow hb0
  go_wp2
  go_loop [3, 15] (fun v i => v = .slice (some ⟨w.heap.size, 0, none⟩) 0 0 ∧ i = .int .i64 0) (fun _ _ => 0)
  case atStart => exact ⟨rfl, rfl⟩
  case round =>
    obtain ⟨rfl, rfl⟩ := hrel
    have hbk := run_convert_bytes_arg (P := Tryz.prog) w1 24 5 Tryz.underlying24 Tryz.underlying5 w.heap.size 0 0 0 [] rfl (fun i hi => by omega) 9 Tryz.underlying9
    rw [strOfNums_nil] at hbk
    clear hown
    go_wp2
    go_ret
    exact ⟨rfl, HB⟩

/-- digest.Hex. -/
theorem hex_any (v : Value) (xs : List Int) (w : World) (hn : xs.length ≤ 65536) (ax : AllBytes xs) (h : View w v xs) :
    Calls Tryz.prog 13 #[v] w fun e w' => e = .returned (.string (strOfNums (hexBytes xs))) ∧ Below w.heap.size w w' := by
  obtain ⟨a, c, rfl, h1, h2, h3, h4⟩ := h
  rcases h4 with rfl | ⟨b, off, rfl, hc⟩
  · exact hex_zero a c w
  · exact hex_core b off xs.length c xs w rfl hn ax hc
end Go.Proofs.YtcnikfikpnnblaaGreatDoor.Hx
