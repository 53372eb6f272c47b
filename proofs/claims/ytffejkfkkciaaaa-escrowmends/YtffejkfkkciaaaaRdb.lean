import Derived.Test.YtffejkfkkciaaaaRda
import Derived.Test.YtffejkfkkciaaaaEsc
import Derived.Ground.NamesProg
import Derived.Laws.OwnMore
import Derived.Shelf.Lay
import Derived.Shelf.Strings.FieldsFuncGrows
namespace Go.Proofs.Ytffejkfkkciaaaa
open Go.RowKit
set_option linter.unusedVariables false
set_option linter.unusedSimpArgs false
shelf_lay Lays.n229 Nm 229 at Try as Try.lays229
theorem fields_ok (s : ByteArray) (w : World) (hs : s.size ≤ 4294967296) : Calls Try.prog 34 #[.string s, .func (.func 35) #[] #[]] w fun e w' => Hid (∃ A, e = .returned (.slice (some ⟨A, 0, none⟩) (Lib.goFieldsP gapN s).length (Lib.goFieldsP gapN s).length) ∧ w.heap.size ≤ A ∧ (∀ k x, (Lib.goFieldsP gapN s)[k]? = some x → w'.cell? ⟨A, k, none⟩ = some (.string x)) ∧ Below w.heap.size w w' ∧ A < w'.heap.size) := by
  have q := Any.strings_FieldsFunc_grows Try.lays229 35 #[] (fun args u => by kernel_rfl) gapN s w hs (fun W x _ _ => (gap_ok x W).mono (by rintro e w' ⟨rfl, hw⟩; exact ⟨rfl, by rw [hw]; exact Below.refl _ _⟩)) (by kernel_rfl) (by kernel_rfl)
  refine Calls.mono (P := Try.prog) (f := 34) q ?_
  rintro e w' ⟨A, rfl, hA, ho, hb⟩
  refine ⟨A, rfl, hA, fun k x hx => ?_, hb, (ho.lt A rfl).2⟩
  have hl := (List.getElem?_eq_some_iff.1 hx).1
  rw [ho.cellAt k (by omega), List.getElem?_map, hx]
  rfl
theorem own_mono {w : World} {base base' : Nat} {e : TypeId} {size : Nat} {v : Value} {n : Nat} {xs : List Value} (h : w.ownsRow base e size v n xs) (hb : base' ≤ base) : w.ownsRow base' e size v n xs := by
  refine ⟨h.1, ?_⟩
  rcases h.2 with q | ⟨g, cap, cur, hv, hg, rest⟩
  · exact .inl q
  · exact .inr ⟨g, cap, cur, hv, by omega, rest⟩
/-- Are all words of five letters? -/
def all5 (ws : List (List UInt8)) : Prop := ∀ w, w ∈ ws → w.length = 5
def txL (s : ByteArray) : List (List UInt8) := wordsL [] s.data.toList
def ReadW (s : ByteArray) (e : Ending) (w w' : World) : Prop :=
  (1024 < s.size ∧ e = .returned (.tuple #[.slice none 0 0, .int .i64 4]) ∨ s.size ≤ 1024 ∧ (¬ all5 (txL s) ∧ e = .returned (.tuple #[.slice none 0 0, .int .i64 112]) ∨ all5 (txL s) ∧ ∃ v, e = .returned (.tuple #[v, .int .i64 0]) ∧ w'.ownsRow w.heap.size 5 1 v (saidW (txL s)).length (fc (saidW (txL s))))) ∧ Below w.heap.size w w'
set_option maxHeartbeats 1600000 in
set_option maxRecDepth 100000 in
theorem readWords_ok (s : ByteArray) (w : World) : Calls Try.prog 23 #[.string s] w fun e w' => ReadW s e w w' := by
  obtain ⟨M, HMM⟩ : ∃ M, Hid (w.heap.size = M) := ⟨_, rfl⟩
  by_cases hbig : 1024 < s.size
  · have g1 : (1024 : Int) < (s.size : Int) := by omega
    have HQ : Hid (ReadW s (.returned (.tuple #[.slice none 0 0, .int .i64 4])) w w) := ⟨Or.inl ⟨hbig, rfl⟩, Below.refl _ _⟩
    clear hbig
    go_enter Try.func23, Try.ntmps23
    go_wp2
    go_ret2
    exact HQ.out
  · have g1 : ¬ (1024 : Int) < (s.size : Int) := by omega
    have HS : Hid (s.size ≤ 1024) := by show s.size ≤ 1024; omega
    obtain ⟨fs, HF⟩ : ∃ fs, Hid (Lib.goFieldsP gapN s = fs) := ⟨_, rfl⟩
    have HW : Hid (fs.map (·.data.toList) = txL s) := by rw [← HF.out]; exact fields_words s
    have HN : Hid ((txL s).length = fs.length ∧ fs.length ≤ 1024) := by
      have e : (txL s).length = fs.length := by rw [← HW.out, List.length_map]
      have h2 := words_few s.data.toList []
      rw [if_pos rfl, ← Lib.size_eq] at h2
      refine ⟨e, ?_⟩
      have := HS.out
      unfold txL at e
      omega
    have H34 : Hid (∀ u, Calls Try.prog 34 #[.string s, .func (.func 35) #[] #[]] u fun e w' => Hid (∃ A, e = .returned (.slice (some ⟨A, 0, none⟩) fs.length fs.length) ∧ u.heap.size ≤ A ∧ (∀ k x, fs[k]? = some x → w'.cell? ⟨A, k, none⟩ = some (.string x)) ∧ Below u.heap.size u w' ∧ A < w'.heap.size)) := fun u => by
      have q := fields_ok s u (by have := HS.out; omega)
      rw [HF.out] at q
      exact q
    have H37 : Hid (∀ (x : ByteArray) u, x.size = 5 → Calls Try.prog 37 #[.string x] u fun e w' => e = .returned (.int .u16 (wordN x.data.toList : Nat)) ∧ w' = u) := fun x u hx => readWord_ok x hx u
    have H36 : Hid (∀ (v : Nat) u, v < 65536 → Calls Try.prog 36 #[.int .u16 (v : Nat)] u fun e w' => Hid (e = .returned (.slice (some ⟨u.heap.size, 0, none⟩) 2 2) ∧ Below u.heap.size u w' ∧ w'.heap.size = u.heap.size + 1 ∧ ∀ j z, (fc (twoF v))[j]? = some z → w'.cell? ((⟨u.heap.size, 0, none⟩ : Addr).add j) = some z)) := fun v u hv => twoBytes_ok v hv u
    obtain ⟨i0, hi, hz0, hz1, hz2⟩ := info_parts Try.infoB
    obtain ⟨N, HNN⟩ : ∃ n, Hid (fs.length = n) := ⟨_, rfl⟩
    rw [HNN.out] at H34 HN
    clear hbig
    go_enter Try.func23, Try.ntmps23
    go_wp2_with (first
      | (go_at_call 34; refine (H34.out w).mono ?_; intro e1 w1 hh; obtain ⟨A, rfl, q1, q2, q3, q4⟩ := hh.out; have H1 : Hid (w.heap.size ≤ A ∧ (∀ k x, fs[k]? = some x → w1.cell? ⟨A, k, none⟩ = some (.string x)) ∧ Below w.heap.size w w1 ∧ A < w1.heap.size) := ⟨q1, q2, q3, q4⟩; clear hh q1 q2 q3 q4))
    obtain ⟨B, HB⟩ : ∃ B, Hid (w1.heap.size = B) := ⟨_, rfl⟩
    go_loopw [4, 13] (fun vo vi wr => ∃ (ov : Value) (k : Nat), vo = ov ∧ k ≤ N ∧ vi = .int .i64 (k : Nat) ∧ Hid (wr.ownsRow B 5 1 ov (saidW ((txL s).take k)).length (fc (saidW ((txL s).take k))) ∧ (∀ x, x ∈ (txL s).take k → x.length = 5) ∧ Below B w1 wr)) (fun _ vi _ => N - (intOf vi).toNat)
    case atStart => exact ⟨_, 0, rfl, by omega, rfl, World.ownsRow_nil _ _ _ _, fun x hx => by simp at hx, Below.refl _ _⟩
    case round =>
      obtain ⟨ov, k, hvs, hk, rfl, HI⟩ := hrel
      obtain rfl := hvs.symm
      by_cases hlt : k < N
      · have HK : Hid (k < N) := hlt
        have g2 : (k : Int) < (N : Int) := by omega
        have g0 : (0 : Int) ≤ (k : Int) := by omega
        obtain ⟨x, hx⟩ : ∃ x, fs[k]? = some x := ⟨_, List.getElem?_eq_getElem (by rw [HNN.out]; exact hlt)⟩
        have c0 : wr.cell? ⟨A, k, none⟩ = some (.string x) := (HI.out.2.2.cell (by rw [← HB.out]; exact H1.out.2.2.2)).trans (H1.out.2.1 k x hx)
        have HTX : Hid ((txL s)[k]? = some x.data.toList) := by rw [← HW.out, List.getElem?_map, hx]; rfl
        have HSZ : Hid (x.data.toList.length = x.size) := (Lib.size_eq x).symm
        have HTK : Hid ((txL s).take (k + 1) = (txL s).take k ++ [x.data.toList]) := by rw [List.take_add_one, HTX.out]; rfl
        by_cases h5 : x.size = 5
        · have g5 : ((x.size : Int) != 5) = false := by rw [h5]; rfl
          obtain ⟨v, HV⟩ : ∃ v, Hid (wordN x.data.toList = v) := ⟨_, rfl⟩
          have hv : v < 65536 := by rw [← HV.out]; exact wordN_lt _
          have HX5 : Hid (x.size = 5 ∧ v < 65536) := ⟨h5, hv⟩
          have HSA : Hid (saidW ((txL s).take (k + 1)) = saidW ((txL s).take k) ++ twoF v) := by rw [HTK.out, saidW_append, ← HV.out]; show _ ++ (twoF _ ++ []) = _; rw [List.append_nil]
          have HA5 : Hid (∀ y, y ∈ (txL s).take (k + 1) → y.length = 5) := fun y hy => by
            rw [HTK.out, List.mem_append] at hy
            rcases hy with hy | hy
            · exact HI.out.2.1 y hy
            · rw [List.mem_singleton] at hy; rw [hy, HSZ.out]; exact HX5.out.1
          obtain ⟨n, HNL⟩ : ∃ n, Hid ((saidW ((txL s).take k)).length = n) := ⟨_, rfl⟩
          have HNS : Hid (n ≤ 2048) := by
            rw [← HNL.out, saidW_length, List.length_take]
            have := HN.out
            show 2 * min k _ ≤ 2048
            have := HK.out
            omega
          have HO : Hid (wr.ownsRow B 5 1 ov n (fc (saidW ((txL s).take k))) ∧ Below B w1 wr ∧ B ≤ wr.heap.size) := ⟨by rw [← HNL.out]; exact HI.out.1, HI.out.2.2, by rw [← HB.out]; exact HI.out.2.2.size⟩
          have wn : wrap64 ((k : Int) + 1) = ((k + 1 : Nat) : Int) := by have := HN.out; unfold wrap64; omega
          have HWN : Hid (wrap64 ((k : Int) + 1) = ((k + 1 : Nat) : Int)) := wn
          clear wn h5 hv hx hk hlt HI
          go_upto_region 10 with (first
            | (go_at_call 37; refine (H37.out x _ HX5.out.1).mono ?_; rintro e3 w3 ⟨rfl, hw⟩; obtain rfl := hw.symm; clear hw; rw [HV.out])
            | (go_at_call 36; refine (H36.out v _ HX5.out.2).mono ?_; intro e4 w4 hh; obtain ⟨rfl, q1, q2, q3⟩ := hh.out; have H4 : Hid (Below wr.heap.size wr w4 ∧ w4.heap.size = wr.heap.size + 1 ∧ ∀ j z, (fc (twoF v))[j]? = some z → w4.cell? ((⟨wr.heap.size, 0, none⟩ : Addr).add j) = some z) := ⟨q1, q2, q3⟩; clear hh q1 q2 q3)
            | (at_builtin; go_must (refine wpList_append_own _ rfl (.tmp 20) (.tmp 23) 25 rfl B 5 i0 (.int .u8 0) 1 1 Try.underlying25 hi hz0 hz1 hz2 rfl (by decide) _ n _ rfl (own_below HO.out.1 H4.out.1) ⟨wr.heap.size, 0, none⟩ 2 2 (fc (twoF v)) rfl rfl H4.out.2.2 (fc_one _) (by have := HNS.out; unfold maxLen; omega) (by have := HNS.out; omega) (by have := HO.out.2.2; have := H4.out.2.1; omega) ?_; intro v2 w5 hown hgrow hnil; have HX : Hid (w5.ownsRow B 5 1 v2 (n + 2) (fc (saidW ((txL s).take k)) ++ fc (twoF v)) ∧ Below B w1 w5) := ⟨hown, ((HO.out.2.1.trans (H4.out.1.mono HO.out.2.2))).grown hgrow (by have := HO.out.2.2; have := H4.out.2.1; omega) (fun q hq => (HO.out.1.lt q hq).1)⟩; clear hown hgrow hnil)))
          go_wp2
          have HX2 : Hid (w5.ownsRow B 5 1 v2 (saidW ((txL s).take (k + 1))).length (fc (saidW ((txL s).take (k + 1))))) := by
            rw [HSA.out, show fc (saidW ((txL s).take k) ++ twoF v) = fc (saidW ((txL s).take k)) ++ fc (twoF v) by simp [fc], List.length_append, HNL.out]
            exact HX.out.1
          have e0 := HK.out
          refine ⟨⟨v2, k + 1, by rfl, by omega, by first | rfl | (rw [HWN.out]), HX2.out, HA5.out, HX.out.2⟩, ?_⟩
          first | (rw [HWN.out]; simp [intOf]; omega) | (simp [intOf]; omega)
        · have g5 : ((x.size : Int) != 5) = true := by rw [bne_iff_ne]; omega
          have HQ : Hid (ReadW s (.returned (.tuple #[.slice none 0 0, .int .i64 112])) w wr) := by
            refine ⟨Or.inr ⟨HS.out, Or.inl ⟨fun h => h5 ?_, rfl⟩⟩, H1.out.2.2.1.trans (HI.out.2.2.mono (by rw [← HB.out]; exact H1.out.2.2.1.size))⟩
            rw [← HSZ.out]
            exact h _ (List.mem_of_getElem? HTX.out)
          clear h5 hx hk hlt HI
          go_wp2
          go_ret2
          exact HQ.out
      · obtain rfl : N = k := by omega
        have g2 : ¬ (N : Int) < (N : Int) := Int.lt_irrefl _
        have HT : Hid ((txL s).take N = txL s) := List.take_of_length_le (by rw [HN.out.1]; exact Nat.le_refl _)
        have hI := HI.out
        rw [HT.out] at hI
        have HQ : Hid (ReadW s (.returned (.tuple #[ov, .int .i64 0])) w wr) := by
          have hM : w.heap.size ≤ B := by rw [← HB.out]; exact H1.out.2.2.1.size
          refine ⟨Or.inr ⟨HS.out, Or.inr ⟨hI.2.1, ov, rfl, ?_⟩⟩, H1.out.2.2.1.trans (hI.2.2.mono hM)⟩
          exact own_mono hI.1 hM
        clear hI HI hk hlt
        go_wp2
        go_ret2
        exact HQ.out
end Go.Proofs.Ytffejkfkkciaaaa
