import Derived.Test.YtcnikfikpnnblaaGreatDoorPart04
import Derived.Test.YtcnikfikpnnblaaGreatDoorPart00
import Derived.Deep.RegionHeld3
import Derived.Test.YtcnikfikpnnblaaGreatDoorPart05
namespace Go.Proofs.YtcnikfikpnnblaaGreatDoor
open Go.RowKit
set_option linter.unusedVariables false
set_option maxHeartbeats 1600000 in
theorem last_ok (g o : Nat) (x0 x1 x2 x3 : Int) (a b c d : Nat) (w : World) (ha : a < 256) (hb : b < 256) (hc : c < 256) (hd : d < 256)
    (h0 : x0 / 16777216 % 256 = a) (h1 : x1 / 65536 % 256 = b) (h2 : x2 / 256 % 256 = c) (h3 : x3 % 256 = d) (hT : Tab w g o) :
    Calls Tryz.prog 120 #[.pointer (some ⟨g, o, none⟩), .int .u32 x0, .int .u32 x1, .int .u32 x2, .int .u32 x3] w fun e w' => e = .returned (.int .u32 (wd (SB a) (SB b) (SB c) (SB d) : Nat)) ∧ ∃ m, w' = w.drewN m := by
  have c0 := hT.s a ha
  have c1 := hT.s b hb
  have c2 := hT.s c hc
  have c3 := hT.s d hd
  clear hT
  obtain ⟨sa, Ha⟩ : ∃ s, Hid (s = SB a) := ⟨_, rfl⟩
  rw [← Ha.out] at c0
  rw [← Ha.out]
  have la : sa < 256 := by rw [Ha.out]; exact SB_lt a
  clear Ha
  obtain ⟨sb, Hb⟩ : ∃ s, Hid (s = SB b) := ⟨_, rfl⟩
  rw [← Hb.out] at c1
  rw [← Hb.out]
  have lb : sb < 256 := by rw [Hb.out]; exact SB_lt b
  clear Hb
  obtain ⟨sc, Hc⟩ : ∃ s, Hid (s = SB c) := ⟨_, rfl⟩
  rw [← Hc.out] at c2
  rw [← Hc.out]
  have lc : sc < 256 := by rw [Hc.out]; exact SB_lt c
  clear Hc
  obtain ⟨sd, Hd⟩ : ∃ s, Hid (s = SB d) := ⟨_, rfl⟩
  rw [← Hd.out] at c3
  rw [← Hd.out]
  have ld : sd < 256 := by rw [Hd.out]; exact SB_lt d
  clear Hd
  go_enter Tryz.func120, Tryz.ntmps120
  go_wp2
  go_quiet ((go_at_call 174; exact Calls.quiet_of_same (word_ok _ _ _ _ la lb lc ld _)))
  go_wp2
  go_ret
  exact ⟨rfl, _, rfl⟩
theorem rotM8 {b m : Nat} {k : Int} {w : World} (hb : b < 256) (hm : Hid (m = MX b)) (hk : k = -8) : Calls Tryz.prog 108 #[.int .u32 m, .int .i64 k] w fun e w' => e = .returned (.int .u32 (M8 b : Nat)) ∧ w' = w := by
  rw [hm.out, hk]
  have hS := SB_lt b
  obtain ⟨l2, l3, _, _, _, _⟩ := x_lt ⟨SB b, hS⟩
  exact rotr8 l2 hS hS l3
theorem M8_lt {b : Nat} (hb : b < 256) : M8 b < 4294967296 := by
  have hS := SB_lt b
  obtain ⟨l2, l3, _, _, _, _⟩ := x_lt ⟨SB b, hS⟩
  exact wd_lt l3 l2 hS hS
theorem rotM16 {b m : Nat} {k : Int} {w : World} (hb : b < 256) (hm : Hid (m = MX b)) (hk : k = -16) : Calls Tryz.prog 108 #[.int .u32 m, .int .i64 k] w fun e w' => e = .returned (.int .u32 (M16 b : Nat)) ∧ w' = w := by
  rw [hm.out, hk]
  have hS := SB_lt b
  obtain ⟨l2, l3, _, _, _, _⟩ := x_lt ⟨SB b, hS⟩
  exact rotr16 l2 hS hS l3
theorem M16_lt {b : Nat} (hb : b < 256) : M16 b < 4294967296 := by
  have hS := SB_lt b
  obtain ⟨l2, l3, _, _, _, _⟩ := x_lt ⟨SB b, hS⟩
  exact wd_lt hS l3 l2 hS
theorem rotM24 {b m : Nat} {k : Int} {w : World} (hb : b < 256) (hm : Hid (m = MX b)) (hk : k = -24) : Calls Tryz.prog 108 #[.int .u32 m, .int .i64 k] w fun e w' => e = .returned (.int .u32 (M24 b : Nat)) ∧ w' = w := by
  rw [hm.out, hk]
  have hS := SB_lt b
  obtain ⟨l2, l3, _, _, _, _⟩ := x_lt ⟨SB b, hS⟩
  exact rotr24 l2 hS hS l3
theorem M24_lt {b : Nat} (hb : b < 256) : M24 b < 4294967296 := by
  have hS := SB_lt b
  obtain ⟨l2, l3, _, _, _, _⟩ := x_lt ⟨SB b, hS⟩
  exact wd_lt hS hS l3 l2
theorem MX_lt {b : Nat} (hb : b < 256) : MX b < 4294967296 := by
  have hS := SB_lt b
  obtain ⟨l2, l3, _, _, _, _⟩ := x_lt ⟨SB b, hS⟩
  exact wd_lt l2 hS hS l3
theorem xor_lt32 {a b : Nat} (ha : a < 4294967296) (hb : b < 4294967296) : Nat.xor a b < 4294967296 := Nat.xor_lt_two_pow (n := 32) ha hb
theorem xor4 {a b c d : Nat} (ha : a < 4294967296) (hb : b < 4294967296) (hc : c < 4294967296) (hd : d < 4294967296) :
    bits .xor .u32 (bits .xor .u32 (bits .xor .u32 (a : Int) b) c) d = (Nat.xor (Nat.xor (Nat.xor a b) c) d : Nat) := by
  rw [xor32 _ _ ha hb, xor32 _ _ (xor_lt32 ha hb) hc, xor32 _ _ (xor_lt32 (xor_lt32 ha hb) hc) hd]
set_option maxHeartbeats 1600000 in
theorem mix_ok (g o : Nat) (x0 x1 x2 x3 : Int) (a b c d : Nat) (w : World) (ha : a < 256) (hb : b < 256) (hc : c < 256) (hd : d < 256)
    (h0 : x0 / 16777216 % 256 = a) (h1 : x1 / 65536 % 256 = b) (h2 : x2 / 256 % 256 = c) (h3 : x3 % 256 = d) (hT : Tab w g o) :
    Calls Tryz.prog 118 #[.pointer (some ⟨g, o, none⟩), .int .u32 x0, .int .u32 x1, .int .u32 x2, .int .u32 x3] w fun e w' => e = .returned (.int .u32 (mixc a b c d : Nat)) ∧ ∃ m, w' = w.drewN m := by
  have c0 := hT.m a ha
  have c1 := hT.m b hb
  have c2 := hT.m c hc
  have c3 := hT.m d hd
  clear hT
  obtain ⟨ma, Ha⟩ : ∃ s, Hid (s = MX a) := ⟨_, rfl⟩
  rw [← Ha.out] at c0
  obtain ⟨mb, Hb⟩ : ∃ s, Hid (s = MX b) := ⟨_, rfl⟩
  rw [← Hb.out] at c1
  obtain ⟨mc, Hc⟩ : ∃ s, Hid (s = MX c) := ⟨_, rfl⟩
  rw [← Hc.out] at c2
  obtain ⟨md, Hd⟩ : ∃ s, Hid (s = MX d) := ⟨_, rfl⟩
  rw [← Hd.out] at c3
  go_enter Tryz.func118, Tryz.ntmps118
  go_wp2
  go_quiet ((go_at_call 108; (first | exact Calls.quiet_of_same (rotM8 hb Hb (by decide)) | exact Calls.quiet_of_same (rotM16 hc Hc (by decide)) | exact Calls.quiet_of_same (rotM24 hd Hd (by decide)))))
  go_wp2
  go_ret
  refine ⟨ret_int ?_, _, rfl⟩
  rw [Ha.out]
  have h := xor4 (a := MX a) (b := M8 b) (c := M16 c) (d := M24 d) (MX_lt ha) (M8_lt hb) (M16_lt hc) (M24_lt hd)
  rw [h]
  unfold mixc
  exact Eq.refl _
end Go.Proofs.YtcnikfikpnnblaaGreatDoor
namespace Go.Proofs.YtcnikfikpnnblaaGreatDoor.Dg
open Go.RowKit
set_option linter.unusedVariables false
set_option linter.unusedSimpArgs false

/-- What lies where a taken lies: its digest, its words, the bytes of the half-full block, how much was fed. -/
structure TK (w : World) (g o : Nat) (h : Int) (wd : Bool) (s : Eight) (half : Nat → Int) (fed : Nat) : Prop where
  hash : w.cell? ⟨g, o, none⟩ = some (.int .i64 h)
  fn : w.cell? ⟨g, o + 1, none⟩ = some (fnV wd)
  st : w.rangeAt g (o + 2) s.cells
  half : ∀ i, i < 128 → w.cell? ⟨g, o + 10 + i, none⟩ = some (.int .u8 (half i))
  fed : w.cell? ⟨g, o + 138, none⟩ = some (.int .u64 fed)
  there : w.there g o 139
theorem Eight.cells_length (s : Eight) : s.cells.length = 8 := rfl
/-- The words are changed. -/
theorem TK.words {w v : World} {g o : Nat} {h : Int} {wd : Bool} {s s' : Eight} {half : Nat → Int} {fed : Nat} (k : TK w g o h wd s half fed) (t : Touch w v g (o + 2) 8) (hr : v.rangeAt g (o + 2) s'.cells) : TK v g o h wd s' half fed :=
  ⟨by rw [t.cell _ (by omega)]; exact k.hash, by rw [t.cell _ (by omega)]; exact k.fn, hr, fun i hi => by rw [t.cell _ (by omega)]; exact k.half i hi, by rw [t.cell _ (by omega)]; exact k.fed, t.there _ _ k.there⟩
/-- Bytes of the half-full block are changed. -/
theorem TK.setHalf {w : World} {g o : Nat} {h : Int} {wd : Bool} {s : Eight} {half : Nat → Int} {fed : Nat} (k : TK w g o h wd s half fed) (u : Nat) (xs : List Int) (hu : u + xs.length ≤ 128) :
    TK (w.setCells g (o + 10 + u) (cellsU8 xs)) g o h wd s (fun i => if u ≤ i ∧ i < u + xs.length then xs.getD (i - u) 0 else half i) fed ∧ Touch w (w.setCells g (o + 10 + u) (cellsU8 xs)) g o 139 := by
  have hl := cellsU8_length xs
  have t : Touch w (w.setCells g (o + 10 + u) (cellsU8 xs)) g (o + 10 + u) xs.length := (Touch.refl _ _ _ _).setCells _ _ (by omega) (by omega)
  refine ⟨⟨by rw [t.cell _ (by omega)]; exact k.hash, by rw [t.cell _ (by omega)]; exact k.fn, fun j v hv => ?_, fun i hi => ?_, by rw [t.cell _ (by omega)]; exact k.fed, t.there _ _ k.there⟩, t.mono o 139 (by omega) (by omega)⟩
  · have hj : j < 8 := by
      by_cases hj : j < s.cells.length
      · exact hj
      · rw [List.getElem?_eq_none (by omega)] at hv; cases hv
    rw [t.cell _ (by omega)]
    exact k.st j v hv
  · by_cases hin : u ≤ i ∧ i < u + xs.length
    · rw [if_pos hin]
      have := World.rangeAt_setCells_same w g (o + 10 + u) (cellsU8 xs) (fun j hj => by have := k.there (10 + u + j) (by omega); rw [← Nat.add_assoc, ← Nat.add_assoc] at this; exact this) (i - u) (.int .u8 (xs.getD (i - u) 0)) (by simp [cellsU8, List.getD, List.getElem?_eq_getElem (show i - u < xs.length by omega)])
      rw [show o + 10 + u + (i - u) = o + 10 + i by omega] at this
      exact this
    · rw [if_neg hin, t.cell _ (by omega)]
      exact k.half i hi
theorem Sm.drew {w v : World} (h : Sm w v) : Sm w v.drew := ⟨h.os, h.tape, h.output, h.heap⟩
theorem Sm.view {w v : World} {x : Value} {zs : List Int} (h : Sm w v) (hv : View w x zs) : View v x zs := hv.kept fun k _ => by rw [h.heap]
theorem Sm.tables {w v : World} (h : Sm w v) (hv : Tables w) : Tables v := hv.kept fun k _ => by rw [h.heap]
/-- A slice's bytes that lie outside what is touched. -/
theorem Touch.view {w v : World} {g o n : Nat} (h : Touch w v g o n) {x : Value} {zs : List Int} (hv : View w x zs) (ha : Apart x g o n) : View v x zs := by
  obtain ⟨a, cap, rfl, h1, h2, h3, h4⟩ := hv
  refine ⟨a, cap, rfl, h1, h2, h3, ?_⟩
  rcases h4 with rfl | ⟨b, p, rfl, hc⟩
  · exact .inl rfl
  · refine .inr ⟨b, p, rfl, fun i hi => ?_⟩
    exact h.outside (hc i hi) (by rcases ha _ _ _ _ rfl with e | e; exact .inl e; exact .inr (by omega))
end Go.Proofs.YtcnikfikpnnblaaGreatDoor.Dg
namespace Go.Proofs.YtcnikfikpnnblaaGreatDoor.Hx
open Go.RowKit

set_option maxHeartbeats 400000 in
theorem digit_any (c : Int) (w : World) (h0 : 0 ≤ c) (h1 : c ≤ 255) : Calls Tryz.prog 39 #[.int .u8 c] w fun e w' => e = .returned (.int .i64 (hexV c)) ∧ w' = w := by
  by_cases b0 : c ≤ 47
  · have hv : hexV c = -1 := by simp only [hexV]; (repeat rw [if_neg (by omega)]); (try rw [if_pos (by omega)])
    rw [hv]
    clear hv
    have lo : 0 ≤ c := by omega
    have hi : c ≤ 47 := by omega
    clear h0 h1 b0
    go_enter Tryz.func39, Tryz.ntmps39
    go_wp2
    go_ret
    exact ⟨by first | rfl | exact congrArg (fun z => Ending.returned (Value.int .i64 z)) (by first | rfl | omega), rfl⟩
  by_cases b1 : c ≤ 57
  · have hv : hexV c = c - 48 := by simp only [hexV]; (repeat rw [if_neg (by omega)]); (try rw [if_pos (by omega)])
    rw [hv]
    clear hv
    have lo : 48 ≤ c := by omega
    have hi : c ≤ 57 := by omega
    clear h0 h1 b0 b1
    go_enter Tryz.func39, Tryz.ntmps39
    go_wp2
    go_ret
    exact ⟨by first | rfl | exact congrArg (fun z => Ending.returned (Value.int .i64 z)) (by first | rfl | omega), rfl⟩
  by_cases b2 : c ≤ 64
  · have hv : hexV c = -1 := by simp only [hexV]; (repeat rw [if_neg (by omega)]); (try rw [if_pos (by omega)])
    rw [hv]
    clear hv
    have lo : 58 ≤ c := by omega
    have hi : c ≤ 64 := by omega
    clear h0 h1 b0 b1 b2
    go_enter Tryz.func39, Tryz.ntmps39
    go_wp2
    go_ret
    exact ⟨by first | rfl | exact congrArg (fun z => Ending.returned (Value.int .i64 z)) (by first | rfl | omega), rfl⟩
  by_cases b3 : c ≤ 70
  · have hv : hexV c = c - 55 := by simp only [hexV]; (repeat rw [if_neg (by omega)]); (try rw [if_pos (by omega)])
    rw [hv]
    clear hv
    have lo : 65 ≤ c := by omega
    have hi : c ≤ 70 := by omega
    clear h0 h1 b0 b1 b2 b3
    go_enter Tryz.func39, Tryz.ntmps39
    go_wp2
    go_ret
    exact ⟨by first | rfl | exact congrArg (fun z => Ending.returned (Value.int .i64 z)) (by first | rfl | omega), rfl⟩
  by_cases b4 : c ≤ 96
  · have hv : hexV c = -1 := by simp only [hexV]; (repeat rw [if_neg (by omega)]); (try rw [if_pos (by omega)])
    rw [hv]
    clear hv
    have lo : 71 ≤ c := by omega
    have hi : c ≤ 96 := by omega
    clear h0 h1 b0 b1 b2 b3 b4
    go_enter Tryz.func39, Tryz.ntmps39
    go_wp2
    go_ret
    exact ⟨by first | rfl | exact congrArg (fun z => Ending.returned (Value.int .i64 z)) (by first | rfl | omega), rfl⟩
  by_cases b5 : c ≤ 102
  · have hv : hexV c = c - 87 := by simp only [hexV]; (repeat rw [if_neg (by omega)]); (try rw [if_pos (by omega)])
    rw [hv]
    clear hv
    have lo : 97 ≤ c := by omega
    have hi : c ≤ 102 := by omega
    clear h0 h1 b0 b1 b2 b3 b4 b5
    go_enter Tryz.func39, Tryz.ntmps39
    go_wp2
    go_ret
    exact ⟨by first | rfl | exact congrArg (fun z => Ending.returned (Value.int .i64 z)) (by first | rfl | omega), rfl⟩
  have hv : hexV c = -1 := by simp only [hexV]; (repeat rw [if_neg (by omega)]); (try rw [if_pos (by omega)])
  rw [hv]
  clear hv
  have lo : 103 ≤ c := by omega
  have hi : c ≤ 255 := by omega
  clear h0 h1 b0 b1 b2 b3 b4 b5
  go_enter Tryz.func39, Tryz.ntmps39
  go_wp2
  go_ret
  exact ⟨by first | rfl | exact congrArg (fun z => Ending.returned (Value.int .i64 z)) (by first | rfl | omega), rfl⟩

end Go.Proofs.YtcnikfikpnnblaaGreatDoor.Hx
