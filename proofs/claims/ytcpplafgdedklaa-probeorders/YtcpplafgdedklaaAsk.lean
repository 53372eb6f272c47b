import Derived.Test.YtcpplafgdedklaaSrt
import Derived.Deep.AppendLies
import Derived.Deep.DeepMust
import Derived.Laws.BytesString
namespace Go.Proofs.Ytcpplafgdedklaa
open Go.RowKit
set_option linter.unusedVariables false
/-- A keyslot. -/
structure Slo where
  n : Int
  p : Int
  h : Int
  t : Int
  s : ByteArray
  c : ByteArray
  st : Int
  o : Int
  z : Int
def sloL (x : Slo) : List Value := [.int .i64 x.n, .int .i64 x.p, .int .i64 x.h, .int .i64 x.t, .string x.s, .string x.c, .int .i64 x.st, .int .i64 x.o, .int .i64 x.z]
/-- The numbers of those of a priority, in the list's order. -/
def askN (l : List Slo) (p : Int) : List Int := (l.filter fun x => x.p == p).map (·.n)
theorem askN_snoc_yes (l : List Slo) (x : Slo) (p : Int) (h : x.p = p) : askN (l ++ [x]) p = askN l p ++ [x.n] := by simp [askN, h]
theorem askN_snoc_no (l : List Slo) (x : Slo) (p : Int) (h : ¬ x.p = p) : askN (l ++ [x]) p = askN l p := by simp [askN, h]
theorem askN_len (l : List Slo) (p : Int) : (askN l p).length ≤ l.length := by simp [askN]; exact List.length_filter_le _ _
/-- The keyslots of a slice, in memory. -/
def SloC (w : World) (b off : Nat) (l : List Slo) : Prop := ∀ (i : Nat) (x : Slo), l[i]? = some x → ∀ j u, (sloL x)[j]? = some u → w.cell? ⟨b, off + i * 9 + j, none⟩ = some u
theorem SloC.below {w w' : World} {b off : Nat} {l : List Slo} (h : SloC w b off l) {B : Nat} (hB : Below B w w') (hb : b < B) : SloC w' b off l :=
  fun i x hx j u hu => (hB.cell (p := ⟨b, off + i * 9 + j, none⟩) hb).trans (h i x hx j u hu)
theorem info3 : (Try.prog.info? 3).map (fun i => (i.zero, i.size, i.bytes)) = some (some (.int .i64 0), 1, 8) := by kernel_rfl
theorem info44 : (Try.prog.info? 44).map (fun i => (i.zero, i.size, i.bytes)) = some (some (.agg #[.int .i64 0, .int .i64 0, .int .i64 0, .int .i64 0, .string ⟨#[]⟩, .string ⟨#[]⟩, .int .i64 0, .int .i64 0, .int .i64 0]), 9, 88) := by kernel_rfl
theorem cellsI_append (a b : List Int) : cellsI (a ++ b) = cellsI a ++ cellsI b := by simp [cellsI]
theorem cellsI_one (a : List Int) : ∀ u ∈ cellsI a, u.oneCell' = true := by
  intro u hu
  simp only [cellsI, List.mem_map] at hu
  obtain ⟨z, _, rfl⟩ := hu
  rfl
theorem take_more {α : Type} (l : List α) (k : Nat) (x : α) (h : l[k]? = some x) : l.take (k + 1) = l.take k ++ [x] := by
  obtain ⟨hk, e⟩ := List.getElem?_eq_some_iff.1 h
  rw [List.take_succ_eq_append_getElem hk, e]
theorem news_next (w : World) (A : Obj) (z : Int) : ∀ j u, (cellsI [z])[j]? = some u → ((w.alloc A).alloc (.cells #[.int .i64 z] 3)).cell? ((⟨w.heap.size + 1, 0, none⟩ : Addr).add j) = some u := by
  have h0 : (w.alloc A).heap.size = w.heap.size + 1 := by simp
  rw [← h0]
  exact World.news_of_block (heap_alloc_new (w.alloc A) (.cells #[.int .i64 z] 3))
set_option maxHeartbeats 1600000 in
set_option maxRecDepth 100000 in
theorem asked_core (b off n cap : Nat) (l : List Slo) (p : Int) (w : World) (hn : Hid (l.length = n)) (hmax : n ≤ 8796093022208) (hb : b < w.heap.size) (hc : Hid (SloC w b off l)) :
    Calls Try.prog 11 #[.slice (some ⟨b, off, none⟩) n cap, .int .i64 p] w fun e w' => ∃ v, e = .returned v ∧ w'.ownsRow w.heap.size 3 1 v (askN l p).length (cellsI (srt (askN l p))) ∧ Below w.heap.size w w' := by
  obtain ⟨i0, hi, hz0, hz1, hz2⟩ := info_parts info3
  go_enter Try.func11, Try.ntmps11
  go_wp2
  go_loopw [5, 10] (fun v i wr => ∃ k : Nat, k ≤ n ∧ i = .int .i64 k ∧ wr.ownsRow w.heap.size 3 1 v (askN (l.take k) p).length (cellsI (askN (l.take k) p)) ∧ Hid (Below w.heap.size w wr)) (fun _ i _ => n - (intOf i).toNat)
  case atStart => exact ⟨0, by omega, rfl, World.ownsRow_nil _ _ _ _, Below.refl _ _⟩
  case round =>
    obtain ⟨k, hk, rfl, hown2, HB2⟩ := hrel
    by_cases hlt : k < n
    · obtain ⟨x, hx⟩ : ∃ x, l[k]? = some x := ⟨l[k]'(by rw [hn.out]; exact hlt), List.getElem?_eq_getElem _⟩
      have hcs := hc.out.below HB2.out hb k x hx
      have c0 : wr.cell? ⟨b, off + k * 9, none⟩ = some (.int .i64 x.n) := hcs 0 _ rfl
      have c1 : wr.cell? ⟨b, off + k * 9 + 1, none⟩ = some (.int .i64 x.p) := hcs 1 _ rfl
      have c2 : wr.cell? ⟨b, off + k * 9 + 2, none⟩ = some (.int .i64 x.h) := hcs 2 _ rfl
      have c3 : wr.cell? ⟨b, off + k * 9 + 3, none⟩ = some (.int .i64 x.t) := hcs 3 _ rfl
      have c4 : wr.cell? ⟨b, off + k * 9 + 4, none⟩ = some (.string x.s) := hcs 4 _ rfl
      have c5 : wr.cell? ⟨b, off + k * 9 + 5, none⟩ = some (.string x.c) := hcs 5 _ rfl
      have c6 : wr.cell? ⟨b, off + k * 9 + 6, none⟩ = some (.int .i64 x.st) := hcs 6 _ rfl
      have c7 : wr.cell? ⟨b, off + k * 9 + 7, none⟩ = some (.int .i64 x.o) := hcs 7 _ rfl
      have c8 : wr.cell? ⟨b, off + k * 9 + 8, none⟩ = some (.int .i64 x.z) := hcs 8 _ rfl
      clear hcs
      have hle := askN_len (l.take k) p
      have hle2 : (l.take k).length ≤ n := by simp; omega
      obtain ⟨L, hL⟩ : ∃ L, L = (askN (l.take k) p).length := ⟨_, rfl⟩
      rw [← hL] at hle hown2
      have HL : Hid (L = (askN (l.take k) p).length) := hL
      clear hL
      by_cases he : x.p = p
      · have hE : (x.p == p) = true := by simp [he]
        have HE : Hid (x.p = p) := he
        clear he
        have hnews := news_next wr (.cells #[.int .i64 x.n, .int .i64 x.p, .int .i64 x.h, .int .i64 x.t, .string x.s, .string x.c, .int .i64 x.st, .int .i64 x.o, .int .i64 x.z] 44) x.n
        go_wp2_with (first
          | (at_builtin; go_must (refine wpList_append_lies _ rfl (.tmp 18) (.tmp 21) 39 rfl w.heap.size 3 i0 (.int .i64 0) 1 8 Try.underlying39 hi hz0 hz1 hz2 rfl (by decide) _ L (cellsI (askN (l.take k) p)) rfl ((hown2.alloc _).alloc _) ⟨wr.heap.size + 1, 0, none⟩ 1 1 (cellsI [x.n]) rfl rfl hnews (cellsI_one _) (by decide) (by unfold maxLen; omega) (by omega) (by have := HB2.out.size; simp; omega) (wr.heap.size + 2) (by simp) ?_)))
        intro g cp w2 hown3 hgrow2 hat hglt
        have HB3 : Hid (Below w.heap.size w w2) := ((HB2.out.alloc HB2.out.size _).alloc (by have := HB2.out.size; simp; omega) _).grown hgrow2 (by have := HB2.out.size; simp; omega) (fun q hq => (hown2.lt q hq).1)
        have hll : (askN (l.take (k + 1)) p).length = L + 1 := by rw [take_more l k x hx, askN_snoc_yes _ _ _ HE.out, HL.out]; simp
        have HO3 : Hid (w2.ownsRow w.heap.size 3 1 (.slice (some ⟨g, 0, none⟩) (L + 1) cp) (askN (l.take (k + 1)) p).length (cellsI (askN (l.take (k + 1)) p))) := by
          rw [hll, take_more l k x hx, askN_snoc_yes _ _ _ HE.out, cellsI_append]
          exact hown3
        clear hown3 hgrow2 hat hglt hown2 HB2 hll
        go_wp2
        go_roundw
        case rel => exact ⟨k + 1, by omega, by go_num, HO3, HB3⟩
        case measure => simp [intOf]; omega
      · have hE : (x.p == p) = false := by simp [he]
        have HE : Hid (¬ x.p = p) := he
        clear he
        have HO3 : Hid ((wr.alloc (.cells #[.int .i64 x.n, .int .i64 x.p, .int .i64 x.h, .int .i64 x.t, .string x.s, .string x.c, .int .i64 x.st, .int .i64 x.o, .int .i64 x.z] 44)).ownsRow w.heap.size 3 1 u5 (askN (l.take (k + 1)) p).length (cellsI (askN (l.take (k + 1)) p))) := by
          rw [take_more l k x hx, askN_snoc_no _ _ _ HE.out, ← HL.out]
          exact hown2.alloc _
        have HB3 : Hid (Below w.heap.size w (wr.alloc (.cells #[.int .i64 x.n, .int .i64 x.p, .int .i64 x.h, .int .i64 x.t, .string x.s, .string x.c, .int .i64 x.st, .int .i64 x.o, .int .i64 x.z] 44))) := HB2.out.alloc HB2.out.size _
        clear hown2 HB2
        go_wp2
        go_roundw
        case rel => exact ⟨k + 1, by omega, by go_num, HO3, HB3⟩
        case measure => simp [intOf]; omega
    · obtain rfl : k = n := by omega
      have htk : l.take k = l := List.take_of_length_le (by rw [hn.out]; exact Nat.le_refl _)
      rw [htk] at hown2
      have hle := askN_len l p
      have hnn := hn.out
      have hS := sort_ok wr w.heap.size u5 (askN l p) hown2 (by omega)
      go_wp2_with (first | (go_at_call 12; refine hS.mono ?_; rintro e w2 ⟨rfl, ho, hg⟩))
      go_ret
      exact ⟨_, rfl, ho, HB2.out.grown hg HB2.out.size (fun q hq => (hown2.lt q hq).1)⟩
/-- asked of no keyslot. -/
theorem asked_nil (a : Option Addr) (cap : Nat) (p : Int) (w : World) :
    Calls Try.prog 11 #[.slice a 0 cap, .int .i64 p] w fun e w' => e = .returned (.slice none 0 0) ∧ w' = w := by
  go_enter Try.func11, Try.ntmps11
  go_wp2
  refine wp_loop_rounds 1 ?_
  rw [rounds_succ]
  go_wp2_with (first | (go_at_call 12; refine (sort_nil none 0 _).mono ?_; rintro e w2 ⟨rfl, rfl⟩))
  go_ret
  exact ⟨rfl, rfl⟩
/-- Keyslots as a slice. -/
def SloV (w : World) (v : Value) (l : List Slo) : Prop := ∃ a cap, v = .slice a l.length cap ∧ l.length ≤ 8796093022208 ∧ (l = [] ∨ ∃ b off, a = some ⟨b, off, none⟩ ∧ b < w.heap.size ∧ SloC w b off l)
theorem asked_ok (v : Value) (l : List Slo) (p : Int) (w : World) (h : SloV w v l) :
    Calls Try.prog 11 #[v, .int .i64 p] w fun e w' => ∃ v, e = .returned v ∧ w'.ownsRow w.heap.size 3 1 v (askN l p).length (cellsI (srt (askN l p))) ∧ Below w.heap.size w w' := by
  obtain ⟨a, cap, rfl, hm, rfl | ⟨b, off, rfl, hb, hc⟩⟩ := h
  · refine (asked_nil a cap p w).mono ?_
    rintro e w' ⟨rfl, rfl⟩
    exact ⟨_, rfl, by simpa [askN, srt, cellsI] using World.ownsRow_nil _ _ _ _, Below.refl _ _⟩
  · exact asked_core b off _ cap l p w rfl hm hb hc
theorem SloV.below {w w' : World} {v : Value} {l : List Slo} (h : SloV w v l) (hB : Below w.heap.size w w') : SloV w' v l := by
  obtain ⟨a, cap, rfl, hm, rfl | ⟨b, off, rfl, hb, hc⟩⟩ := h
  · exact ⟨a, cap, rfl, hm, .inl rfl⟩
  · exact ⟨_, cap, rfl, hm, .inr ⟨b, off, rfl, Nat.lt_of_lt_of_le hb hB.size, hc.below hB hb⟩⟩
end Go.Proofs.Ytcpplafgdedklaa
