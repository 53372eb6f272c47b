import Derived.Test.YtcnikfikpnnblaaGreatDoorRfn
namespace Go.Proofs.YtcnikfikpnnblaaGreatDoor
open Go.RowKit
set_option linter.unusedVariables false
set_option linter.unusedSimpArgs false
theorem teq (B : ByteArray) (L : List UInt8) (b : Bool) (h : (B.data.toList == L) = b) : (B.toList == L) = b := by rw [Lib.toList_data]; exact h
theorem take_bytes {zs : List Int} (h : AllBytes zs) (n : Nat) : AllBytes (zs.take n) := fun i => by
 rw [List.getD_eq_getElem?_getD, List.getElem?_take]
 split
 ·exact h i
 ·simp
theorem drop_bytes {zs : List Int} (h : AllBytes zs) (n : Nat) : AllBytes (zs.drop n) := fun i => by
 rw [List.getD_eq_getElem?_getD, List.getElem?_drop, ← List.getD_eq_getElem?_getD]; exact h _
theorem rfind_at (S : ByteArray) (j : Nat) (w : World) (G o cp : Nat) (hD : MdAt w G o cp) (hj : j < 52) (h1 : spN j = S) (h2 : ∀ i, i < j → spN i ≠ S) : Calls Tryz.prog 14 #[.string S] w fun e w' => Hid (e = .returned (.tuple #[.agg (rwF j).toArray, .bool true]) ∧ Below w.heap.size w w') := by
 refine (rfind_ok S w G o cp hD).mono ?_
 rintro e w' ⟨⟨k, hk, e1, e2, rfl⟩ | ⟨hn, _⟩, hb⟩
 ·rw [first_eq h1 h2 e1 e2]; exact ⟨rfl, hb⟩
 ·exact absurd h1 (hn j hj)
theorem rfind_no (S : ByteArray) (w : World) (G o cp : Nat) (hD : MdAt w G o cp) (h : ∀ i, i < 52 → spN i ≠ S) : Calls Tryz.prog 14 #[.string S] w fun e w' => Hid (e = .returned (.tuple #[.agg zRw.toArray, .bool false]) ∧ Below w.heap.size w w') := by
 refine (rfind_ok S w G o cp hD).mono ?_
 rintro e w' ⟨⟨k, hk, e1, e2, rfl⟩ | ⟨hn, rfl⟩, hb⟩
 ·exact absurd e1 (h k hk)
 ·exact ⟨rfl, hb⟩
/-- A schedule of bytes that are seen. -/
theorem sk_of (v : Value) (ys : List Int) (nk : Nat) (w u : World) (hu : Below w.heap.size w u) (hnk : nk = 4 ∨ nk = 6 ∨ nk = 8) (hl : ys.length = 4 * nk) (hv : View w v ys) (hb : AllBytes ys) : Calls Tryz.prog 47 #[v] u fun e u' => Hid (SkP u e u') := by
 refine (rschedule_ok v ys nk u hnk hl (hv.below hu) hb).mono ?_
 intro e u' hh
 obtain ⟨g, gr, e1, _, _, h⟩ := hh.out
 exact ⟨g, e1, h⟩
theorem bk_of (v : Value) (zs : List Int) (a : Nat) (w u : World) (hu : Below w.heap.size w u) (hv : View w v zs) (ha : a + 16 ≤ zs.length) (hm : zs.length ≤ 1000) : Calls Tryz.prog 48 #[v, .int .i64 (a : Nat)] u fun e u' => Hid (BkP u e u') := by
 refine (rblock_ok v zs a u (hv.below hu) ha (by omega)).mono ?_
 intro e u' hh
 obtain ⟨e1, h⟩ := hh.out
 exact ⟨_, e1, blkL_len _ _, blkL_one _ _, h⟩
theorem slH (va : Option Addr) (n vc h : Nat) (w : World) (zs : List Int) (hv : View w (.slice va n vc) zs) (hh : h ≤ n) : ∃ k c, (∀ u, (Instr.slice 24 (.slice va n vc) none (some (.int .i64 (h : Nat))) none).run Tryz.prog u = .ok (.slice k h c) u) ∧ View w (.slice k h c) (zs.take h) := by
 obtain ⟨a, c', he, h1, h2, h3, h4⟩ := id hv
 injection he with e1 e2 e3
 refine ⟨_, _, fun u => slice_h u va n vc h (by omega), ?_⟩
 have q := view_sliced hv 0 h (Nat.zero_le _) hh
 rw [List.drop_zero, Nat.sub_zero] at q
 exact q
theorem slL (va : Option Addr) (n vc h : Nat) (w : World) (zs : List Int) (hv : View w (.slice va n vc) zs) (hh : h ≤ n) : ∃ k c, (∀ u, (Instr.slice 24 (.slice va n vc) (some (.int .i64 (h : Nat))) none none).run Tryz.prog u = .ok (.slice k (n - h) c) u) ∧ View w (.slice k (n - h) c) (zs.drop h) := by
 obtain ⟨a, c', he, h1, h2, h3, h4⟩ := id hv
 injection he with e1 e2 e3
 refine ⟨_, _, fun u => slice_l u va n vc h (by omega) (by omega), ?_⟩
 have q := view_sliced hv h n hh (Nat.le_refl _)
 rw [List.take_of_length_le (by rw [List.length_drop]; omega)] at q
 exact q
/-- essiv's parts. -/
theorem ess_of (va : Option Addr) (n vc : Nat) (zs : List Int) (w : World) (hv : View w (.slice va n vc) zs) (hm : zs.length ≤ 1000) (hT : Dg.RTab w) :
  (∀ u, Below w.heap.size w u → Calls Tryz.prog 50 #[.slice va n vc] u fun e u' => Hid (∃ ya yl yc, e = .returned (.slice ya yl yc) ∧ View u' (.slice ya yl yc) zs ∧ Below u.heap.size u u')) ∧
  (∀ u v, Below w.heap.size w u → View u v zs → Calls Tryz.prog 49 #[.int .i64 256, v] u fun e u' => Hid (∃ ya yl yc, e = .returned (.slice ya yl yc) ∧ View u' (.slice ya yl yc) (Dg.sumD 256 zs) ∧ Below u.heap.size u u')) ∧
  (∀ u v, View u v (Dg.sumD 256 zs) → Calls Tryz.prog 47 #[v] u fun e u' => Hid (SkP u e u')) := by
 refine ⟨fun u hu => ?_, fun u v hu hv' => ?_, fun u v hv' => ?_⟩
 ·refine (copied_any _ zs u (by omega) (hv.below hu)).mono ?_
  rintro e u' ⟨v', rfl, ho, hb⟩
  have q := view_owns ho rfl
  obtain ⟨a, c, rfl, _⟩ := id q
  exact ⟨_, _, _, rfl, q, hb⟩
 ·refine (Dg.rsum_ok (.inr (.inl rfl)) v zs u (hT.kept fun k hk => hu.block k (by have := hT.size; omega)) hv' (by omega)).mono ?_
  rintro e u' ⟨v', rfl, ho, hb⟩
  have q : View u' v' (Dg.sumD 256 zs) := view_owns (n := 32) ho (sum256_len zs)
  obtain ⟨a, c, rfl, _⟩ := id q
  exact ⟨_, _, _, rfl, q, hb⟩
 ·exact sk_of v (Dg.sumD 256 zs) 8 u u (Below.refl _ _) (.inr (.inr rfl)) (sum256_len zs) hv' (sumD_bytes _ _)
/-- cofferref03.New of a cipher with AES. -/
theorem rnewR (i k : Nat) (hi : i < 3) (hk : k < 17) (v : Value) (zs : List Int) (w : World) (G o cp : Nat) (hf : ∀ j, j < 1 + 17 * i + k → spN j ≠ sxN i k) (hv : View w v zs) (hb : AllBytes zs) (hl : zs.length = mK k * (16 + 8 * i) + mM k) (hD : MdAt w G o cp) (hT : Dg.RTab w) :
  Calls Tryz.prog 22 #[.string (sxN i k), v] w fun e w' => RnP w e w' := by
 obtain ⟨nk, hnk, hwd⟩ : ∃ nk, (nk = 4 ∨ nk = 6 ∨ nk = 8) ∧ 16 + 8 * i = 4 * nk := ⟨4 + 2 * i, by omega, by omega⟩
 obtain ⟨va, vc, he, hvr⟩ := id hv
 clear hvr
 obtain ⟨n, hn⟩ : ∃ n, zs.length = n := ⟨_, rfl⟩
 rw [hn] at he
 subst he
 have HFI : Hid (Calls Tryz.prog 14 #[.string (sxN i k)] w fun e w' => Hid (e = .returned (.tuple #[.agg #[.string (sxN i k), .string (rM k), .string (rS k), .int .i64 ((16 + 8 * i : Nat) : Int), .int .i64 (n : Nat)], .bool true]) ∧ Below w.heap.size w w')) := by
  have q := rfind_at (sxN i k) (1 + 17 * i + k) w G o cp hD (by omega) (spN_lit i k hk) hf
  rw [rwF_lit i k hi hk] at q
  unfold rwL at q
  rw [← hl, hn] at q
  exact q
 have hm1 := mK_le k
 have hm2 := mM_le k
 have hx : mK k * (16 + 8 * i) ≤ 2 * 32 := Nat.mul_le_mul hm1 (by omega)
 have hm : n ≤ 1000 := by omega
 match k, hk with
 | 0, _ =>
  have hl' : n = 4 * nk := by rw [hwd] at hl; have e1 : mK 0 = 1 := rfl; have e2 : mM 0 = 0 := rfl; rw [e1, e2] at hl; omega
  exact rN_def _ _ _ _ va n vc w hm (teq _ _ _ (by decide)) (teq _ _ _ (by decide)) (teq _ _ _ (by decide)) (teq _ _ _ (by decide)) (teq _ _ _ (by decide)) (teq _ _ _ (by decide)) HFI (fun u hu => sk_of _ zs nk w u hu hnk (by omega) hv hb)
 | 1, _ =>
  have hl' : n = 4 * nk := by rw [hwd] at hl; have e1 : mK 1 = 1 := rfl; have e2 : mM 1 = 0 := rfl; rw [e1, e2] at hl; omega
  exact rN_def _ _ _ _ va n vc w hm (teq _ _ _ (by decide)) (teq _ _ _ (by decide)) (teq _ _ _ (by decide)) (teq _ _ _ (by decide)) (teq _ _ _ (by decide)) (teq _ _ _ (by decide)) HFI (fun u hu => sk_of _ zs nk w u hu hnk (by omega) hv hb)
 | 2, _ =>
  have hl' : n = 4 * nk := by rw [hwd] at hl; have e1 : mK 2 = 1 := rfl; have e2 : mM 2 = 0 := rfl; rw [e1, e2] at hl; omega
  exact rN_def _ _ _ _ va n vc w hm (teq _ _ _ (by decide)) (teq _ _ _ (by decide)) (teq _ _ _ (by decide)) (teq _ _ _ (by decide)) (teq _ _ _ (by decide)) (teq _ _ _ (by decide)) HFI (fun u hu => sk_of _ zs nk w u hu hnk (by omega) hv hb)
 | 3, _ =>
  have hl' : n = 4 * nk := by rw [hwd] at hl; have e1 : mK 3 = 1 := rfl; have e2 : mM 3 = 0 := rfl; rw [e1, e2] at hl; omega
  exact rN_def _ _ _ _ va n vc w hm (teq _ _ _ (by decide)) (teq _ _ _ (by decide)) (teq _ _ _ (by decide)) (teq _ _ _ (by decide)) (teq _ _ _ (by decide)) (teq _ _ _ (by decide)) HFI (fun u hu => sk_of _ zs nk w u hu hnk (by omega) hv hb)
 | 4, _ =>
  have hl' : n = 4 * nk := by rw [hwd] at hl; have e1 : mK 4 = 1 := rfl; have e2 : mM 4 = 0 := rfl; rw [e1, e2] at hl; omega
  exact rN_def _ _ _ _ va n vc w hm (teq _ _ _ (by decide)) (teq _ _ _ (by decide)) (teq _ _ _ (by decide)) (teq _ _ _ (by decide)) (teq _ _ _ (by decide)) (teq _ _ _ (by decide)) HFI (fun u hu => sk_of _ zs nk w u hu hnk (by omega) hv hb)
 | 5, _ =>
  have hl' : n = 4 * nk := by rw [hwd] at hl; have e1 : mK 5 = 1 := rfl; have e2 : mM 5 = 0 := rfl; rw [e1, e2] at hl; omega
  exact rN_def _ _ _ _ va n vc w hm (teq _ _ _ (by decide)) (teq _ _ _ (by decide)) (teq _ _ _ (by decide)) (teq _ _ _ (by decide)) (teq _ _ _ (by decide)) (teq _ _ _ (by decide)) HFI (fun u hu => sk_of _ zs nk w u hu hnk (by omega) hv hb)
 | 6, _ =>
  have hl' : n = 4 * nk := by rw [hwd] at hl; have e1 : mK 6 = 1 := rfl; have e2 : mM 6 = 0 := rfl; rw [e1, e2] at hl; omega
  obtain ⟨q1, q2, q3⟩ := ess_of va n vc zs w hv (by omega) hT
  exact rN_defE _ _ _ _ va n vc w hm (teq _ _ _ (by decide)) (teq _ _ _ (by decide)) (teq _ _ _ (by decide)) (teq _ _ _ (by decide)) (teq _ _ _ (by decide)) (teq _ _ _ (by decide)) HFI (fun u hu => sk_of _ zs nk w u hu hnk (by omega) hv hb) zs q1 q2 q3
 | 7, _ =>
  have hl' : n = 4 * nk := by rw [hwd] at hl; have e1 : mK 7 = 1 := rfl; have e2 : mM 7 = 0 := rfl; rw [e1, e2] at hl; omega
  exact rN_def _ _ _ _ va n vc w hm (teq _ _ _ (by decide)) (teq _ _ _ (by decide)) (teq _ _ _ (by decide)) (teq _ _ _ (by decide)) (teq _ _ _ (by decide)) (teq _ _ _ (by decide)) HFI (fun u hu => sk_of _ zs nk w u hu hnk (by omega) hv hb)
 | 8, _ =>
  have hl' : n = 2 * (4 * nk) := by rw [hwd] at hl; have e1 : mK 8 = 2 := rfl; have e2 : mM 8 = 0 := rfl; rw [e1, e2] at hl; omega
  obtain ⟨k1, c1, hs1, hv1⟩ := slH va n vc (4 * nk) w zs hv (by omega)
  obtain ⟨k2, c2, hs2, hv2⟩ := slL va n vc (4 * nk) w zs hv (by omega)
  exact rN_ele _ _ _ _ va n vc w hm (teq _ _ _ (by decide)) (teq _ _ _ (by decide)) (teq _ _ _ (by decide)) HFI (4 * nk) k1 k2 c1 c2 (by omega) hs1 hs2 (fun u hu => sk_of _ (zs.take (4 * nk)) nk w u hu hnk (by simp; omega) hv1 (take_bytes hb _)) (fun u hu => sk_of _ (zs.drop (4 * nk)) nk w u hu hnk (by simp; omega) hv2 (drop_bytes hb _))
 | 9, _ =>
  have hl' : n = 4 * nk + 32 := by rw [hwd] at hl; have e1 : mK 9 = 1 := rfl; have e2 : mM 9 = 32 := rfl; rw [e1, e2] at hl; omega
  obtain ⟨k1, c1, hs1, hv1⟩ := slH va n vc (4 * nk) w zs hv (by omega)
  exact rN_tcw _ _ _ _ va n vc w hm (teq _ _ _ (by decide)) (teq _ _ _ (by decide)) (teq _ _ _ (by decide)) (teq _ _ _ (by decide)) (teq _ _ _ (by decide)) HFI (4 * nk) (4 * nk + 16) k1 c1 (by rw [IntKind.wrap_i64]; omega) (by rw [IntKind.wrap_i64]; omega) (by omega) (by omega) hs1 (fun u hu => sk_of _ (zs.take (4 * nk)) nk w u hu hnk (by simp; omega) hv1 (take_bytes hb _)) (fun u hu => bk_of _ zs (4 * nk) w u hu hv (by omega) (by omega)) (fun u hu => bk_of _ zs (4 * nk + 16) w u hu hv (by omega) (by omega))
 | 10, _ =>
  have hl' : n = 2 * (4 * nk) := by rw [hwd] at hl; have e1 : mK 10 = 2 := rfl; have e2 : mM 10 = 0 := rfl; rw [e1, e2] at hl; omega
  obtain ⟨k1, c1, hs1, hv1⟩ := slH va n vc (4 * nk) w zs hv (by omega)
  obtain ⟨k2, c2, hs2, hv2⟩ := slL va n vc (4 * nk) w zs hv (by omega)
  exact rN_xts _ _ _ _ va n vc w hm (teq _ _ _ (by decide)) (teq _ _ _ (by decide)) (teq _ _ _ (by decide)) (teq _ _ _ (by decide)) HFI (4 * nk) k1 k2 c1 c2 (by omega) hs1 hs2 (fun u hu => sk_of _ (zs.take (4 * nk)) nk w u hu hnk (by simp; omega) hv1 (take_bytes hb _)) (fun u hu => sk_of _ (zs.drop (4 * nk)) nk w u hu hnk (by simp; omega) hv2 (drop_bytes hb _))
 | 11, _ =>
  have hl' : n = 2 * (4 * nk) := by rw [hwd] at hl; have e1 : mK 11 = 2 := rfl; have e2 : mM 11 = 0 := rfl; rw [e1, e2] at hl; omega
  obtain ⟨k1, c1, hs1, hv1⟩ := slH va n vc (4 * nk) w zs hv (by omega)
  obtain ⟨k2, c2, hs2, hv2⟩ := slL va n vc (4 * nk) w zs hv (by omega)
  exact rN_xts _ _ _ _ va n vc w hm (teq _ _ _ (by decide)) (teq _ _ _ (by decide)) (teq _ _ _ (by decide)) (teq _ _ _ (by decide)) HFI (4 * nk) k1 k2 c1 c2 (by omega) hs1 hs2 (fun u hu => sk_of _ (zs.take (4 * nk)) nk w u hu hnk (by simp; omega) hv1 (take_bytes hb _)) (fun u hu => sk_of _ (zs.drop (4 * nk)) nk w u hu hnk (by simp; omega) hv2 (drop_bytes hb _))
 | 12, _ =>
  have hl' : n = 2 * (4 * nk) := by rw [hwd] at hl; have e1 : mK 12 = 2 := rfl; have e2 : mM 12 = 0 := rfl; rw [e1, e2] at hl; omega
  obtain ⟨k1, c1, hs1, hv1⟩ := slH va n vc (4 * nk) w zs hv (by omega)
  obtain ⟨k2, c2, hs2, hv2⟩ := slL va n vc (4 * nk) w zs hv (by omega)
  exact rN_xts _ _ _ _ va n vc w hm (teq _ _ _ (by decide)) (teq _ _ _ (by decide)) (teq _ _ _ (by decide)) (teq _ _ _ (by decide)) HFI (4 * nk) k1 k2 c1 c2 (by omega) hs1 hs2 (fun u hu => sk_of _ (zs.take (4 * nk)) nk w u hu hnk (by simp; omega) hv1 (take_bytes hb _)) (fun u hu => sk_of _ (zs.drop (4 * nk)) nk w u hu hnk (by simp; omega) hv2 (drop_bytes hb _))
 | 13, _ =>
  have hl' : n = 2 * (4 * nk) := by rw [hwd] at hl; have e1 : mK 13 = 2 := rfl; have e2 : mM 13 = 0 := rfl; rw [e1, e2] at hl; omega
  obtain ⟨k1, c1, hs1, hv1⟩ := slH va n vc (4 * nk) w zs hv (by omega)
  obtain ⟨k2, c2, hs2, hv2⟩ := slL va n vc (4 * nk) w zs hv (by omega)
  obtain ⟨q1, q2, q3⟩ := ess_of va n vc zs w hv (by omega) hT
  exact rN_xtsE _ _ _ _ va n vc w hm (teq _ _ _ (by decide)) (teq _ _ _ (by decide)) (teq _ _ _ (by decide)) (teq _ _ _ (by decide)) HFI (4 * nk) k1 k2 c1 c2 (by omega) hs1 hs2 (fun u hu => sk_of _ (zs.take (4 * nk)) nk w u hu hnk (by simp; omega) hv1 (take_bytes hb _)) (fun u hu => sk_of _ (zs.drop (4 * nk)) nk w u hu hnk (by simp; omega) hv2 (drop_bytes hb _)) zs q1 q2 q3
 | 14, _ =>
  have hl' : n = 4 * nk + 16 := by rw [hwd] at hl; have e1 : mK 14 = 1 := rfl; have e2 : mM 14 = 16 := rfl; rw [e1, e2] at hl; omega
  obtain ⟨k1, c1, hs1, hv1⟩ := slH va n vc (4 * nk) w zs hv (by omega)
  exact rN_lrw _ _ _ _ va n vc w hm (teq _ _ _ (by decide)) (teq _ _ _ (by decide)) (teq _ _ _ (by decide)) (teq _ _ _ (by decide)) (teq _ _ _ (by decide)) (teq _ _ _ (by decide)) HFI (4 * nk) k1 c1 (by rw [IntKind.wrap_i64]; omega) (by omega) hs1 (fun u hu => sk_of _ (zs.take (4 * nk)) nk w u hu hnk (by simp; omega) hv1 (take_bytes hb _)) (fun u hu => bk_of _ zs (4 * nk) w u hu hv (by omega) (by omega))
 | 15, _ =>
  have hl' : n = 4 * nk := by rw [hwd] at hl; have e1 : mK 15 = 1 := rfl; have e2 : mM 15 = 0 := rfl; rw [e1, e2] at hl; omega
  exact rN_def _ _ _ _ va n vc w hm (teq _ _ _ (by decide)) (teq _ _ _ (by decide)) (teq _ _ _ (by decide)) (teq _ _ _ (by decide)) (teq _ _ _ (by decide)) (teq _ _ _ (by decide)) HFI (fun u hu => sk_of _ zs nk w u hu hnk (by omega) hv hb)
 | 16, _ =>
  have hl' : n = 4 * nk := by rw [hwd] at hl; have e1 : mK 16 = 1 := rfl; have e2 : mM 16 = 0 := rfl; rw [e1, e2] at hl; omega
  exact rN_def _ _ _ _ va n vc w hm (teq _ _ _ (by decide)) (teq _ _ _ (by decide)) (teq _ _ _ (by decide)) (teq _ _ _ (by decide)) (teq _ _ _ (by decide)) (teq _ _ _ (by decide)) HFI (fun u hu => sk_of _ zs nk w u hu hnk (by omega) hv hb)
 | q + 17, h => exact absurd h (by omega)
theorem rnewN (v : Value) (w : World) (G o cp : Nat) (hv : View w v []) (hD : MdAt w G o cp) :
  Calls Tryz.prog 22 #[.string ⟨#[110, 117, 108, 108]⟩, v] w fun e w' => RnP w e w' := by
 obtain ⟨va, vc, rfl, _⟩ := id hv
 refine rN_null _ ⟨#[110, 117, 108, 108]⟩ ⟨#[]⟩ 0 va 0 vc w (by omega) (teq _ _ _ (by decide)) ?_ trivial
 exact rfind_at _ 0 w G o cp hD (by omega) rfl (fun i hi => by omega)
set_option maxHeartbeats 800000 in
set_option maxRecDepth 100000 in
theorem rnew_none (S : ByteArray) (v : Value) (w : World) (G o cp : Nat) (hD : MdAt w G o cp) (h : ∀ i, i < 52 → spN i ≠ S) : Calls Tryz.prog 22 #[.string S, v] w fun e w' => Hid (e = .returned (.tuple #[.pointer none, .int .i64 30]) ∧ Below w.heap.size w w') := by
 have HFI : Hid (Calls Tryz.prog 14 #[.string S] w fun e w' => Hid (e = .returned (.tuple #[.agg #[.string ⟨#[]⟩, .string ⟨#[]⟩, .string ⟨#[]⟩, .int .i64 0, .int .i64 0], .bool false]) ∧ Below w.heap.size w w')) := rfind_no S w G o cp hD h
 go_enter Tryz.func22, Tryz.ntmps22
 go_wp2_with (go_at_call 14; refine HFI.out.mono ?_; intro e1 w1 hh; obtain ⟨rfl, hb1⟩ := hh.out; have HB1 : Hid (Below w.heap.size w w1) := hb1; clear hh hb1 HFI)
 go_ret2
 exact ⟨rfl, HB1.out.alloc HB1.out.size _⟩
theorem rw_size (j : Nat) (hj : j < 52) : ∃ (M S : ByteArray) (a : Int), rwF j = [.string (spN j), .string M, .string S, .int .i64 a, .int .i64 (kyN j : Nat)] := by
 rcases sx_cases j hj with rfl | ⟨i, k, hi, hk, rfl⟩
 ·exact ⟨_, _, _, rfl⟩
 ·rw [rwF_lit i k hi hk, spN_lit i k hk, kyN_lit i k hk]; exact ⟨_, _, _, rfl⟩
set_option maxHeartbeats 800000 in
set_option maxRecDepth 100000 in
theorem rnew_len (S : ByteArray) (j : Nat) (va : Option Addr) (n vc : Nat) (w : World) (G o cp : Nat) (hD : MdAt w G o cp) (hj : j < 52) (h1 : spN j = S) (h2 : ∀ i, i < j → spN i ≠ S) (hn : n ≠ kyN j) : Calls Tryz.prog 22 #[.string S, .slice va n vc] w fun e w' => Hid (e = .returned (.tuple #[.pointer none, .int .i64 31]) ∧ Below w.heap.size w w') := by
 obtain ⟨M, T, a, hx⟩ := rw_size j hj
 obtain ⟨q, HQ⟩ : ∃ q, Hid (kyN j = q) := ⟨_, rfl⟩
 rw [HQ.out] at hn hx
 have HFI : Hid (Calls Tryz.prog 14 #[.string S] w fun e w' => Hid (e = .returned (.tuple #[.agg #[.string S, .string M, .string T, .int .i64 a, .int .i64 (q : Nat)], .bool true]) ∧ Below w.heap.size w w')) := by
  have p := rfind_at S j w G o cp hD hj h1 h2
  rw [hx, h1] at p
  exact p
 have hne : ((n : Int) != (q : Int)) = true := by simp; omega
 clear hx hn h1 h2 hD
 go_enter Tryz.func22, Tryz.ntmps22
 go_wp2_with (go_at_call 14; refine HFI.out.mono ?_; intro e1 w1 hh; obtain ⟨rfl, hb1⟩ := hh.out; have HB1 : Hid (Below w.heap.size w w1) := hb1; clear hh hb1 HFI)
 go_ret2
 exact ⟨rfl, HB1.out.alloc HB1.out.size _⟩
end Go.Proofs.YtcnikfikpnnblaaGreatDoor
