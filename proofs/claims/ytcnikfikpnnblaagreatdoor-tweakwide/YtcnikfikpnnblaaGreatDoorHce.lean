import Derived.Test.YtcnikfikpnnblaaGreatDoorPart00
import Derived.Test.YtcnikfikpnnblaaGreatDoorHcd
import Derived.Deep.Cut
namespace Go.Proofs.YtcnikfikpnnblaaGreatDoor
open Go.RowKit
set_option linter.unusedVariables false
set_option linter.unusedSimpArgs false
/-- The block that lies over the q-th one. -/
def ctE (nr : Nat) (K : Nat → Nat) (su : BitVec 128) (q : Nat) : BitVec 128 := encV nr K ((su ^^^ encV nr K (BitVec.ofNat 128 1)) ^^^ BitVec.ofNat 128 (q + 1))
/-- What count makes of a list. -/
def ctZ (E : Nat → BitVec 128) (zs : List Int) (i : Nat) : Int := ((nat8 zs i ^^^ Fd.byV (E (i / 16)) (i % 16) : Nat) : Int)
def ctL (E : Nat → BitVec 128) (zs : List Int) (m : Nat) : List Int := (List.range m).map (ctZ E zs)
theorem ctL_len (E : Nat → BitVec 128) (zs : List Int) (m : Nat) : (ctL E zs m).length = m := by simp [ctL]
theorem ctL_succ (E : Nat → BitVec 128) (zs : List Int) (m : Nat) : ctL E zs (m + 1) = ctL E zs m ++ [ctZ E zs m] := by simp [ctL, List.range_succ]
theorem ctL_bytes (E : Nat → BitVec 128) {zs : List Int} (h : AllBytes zs) (m : Nat) : AllBytes (ctL E zs m) := fun i => by
  rw [List.getD_eq_getElem?_getD, ctL, List.getElem?_map]
  cases (List.range m)[i]? with
  | none => simp
  | some q =>
    simp only [Option.map_some, Option.getD_some, ctZ]
    have : nat8 zs q ^^^ Fd.byV (E (q / 16)) (q % 16) < 2 ^ 8 := Nat.xor_lt_two_pow (nat8_lt h q) (Fd.byV_lt _ _)
    omega
/-- count's world: the receiver's box, the start's block; m bytes are done. -/
structure CtI (g nr : Nat) (K : Nat → Nat) (sh fn M : Nat) (ST : List Value) (b7 : Nat) (E : Nat → BitVec 128) (zs : List Int) (w u : World) (v : Value) (m : Nat) : Prop where
  hc : HcI g nr K sh fn M w u
  st : Bx u b7 29 ST
  own : u.ownsRow (M + 2) 5 1 v m (cellsU8 (ctL E zs m))
  hb7 : M + 2 ≤ b7
  hsh : sh < w.heap.size
  bg : M + 2 ≤ u.heap.size
theorem bs5 (u : World) (z : Int) : (Instr.buildSlice 24 1 #[(0, .int .u8 z)]).run Tryz.prog u = .ok (.slice (some ⟨u.heap.size, 0, none⟩) 1 1) (u.alloc (.cells #[.int .u8 z] 5)) := by
  obtain ⟨i, hi, hz0, hz1, hz2⟩ := info_parts Tryz.info5
  refine run_buildSlice u 24 5 1 _ _ i _ Tryz.underlying24 hi hz0 (by rw [hz1]; decide) (by rw [hz1]; decide) ?_
  rw [hz1]; kernel_rfl
theorem CtI.key {g nr : Nat} {K : Nat → Nat} {sh fn M : Nat} {ST : List Value} {b7 : Nat} {E : Nat → BitVec 128} {zs : List Int} {w u : World} {v : Value} {m : Nat} (h : CtI g nr K sh fn M ST b7 E zs w u v m) : KeyAt u g nr K := h.hc.key
theorem CtI.below {g nr : Nat} {K : Nat → Nat} {sh fn M : Nat} {ST : List Value} {b7 : Nat} {E : Nat → BitVec 128} {zs : List Int} {w u u2 : World} {v : Value} {m : Nat} (h : CtI g nr K sh fn M ST b7 E zs w u v m) (hb : Below u.heap.size u u2) : CtI g nr K sh fn M ST b7 E zs w u2 v m :=
  ⟨h.hc.below hb, h.st.below hb, ownsRow_below h.own hb, h.hb7, h.hsh, Nat.le_trans h.bg hb.size⟩
theorem CtI.enc {g nr : Nat} {K : Nat → Nat} {sh fn M : Nat} {ST : List Value} {b7 : Nat} {E : Nat → BitVec 128} {zs : List Int} {w u u2 : World} {v : Value} {m : Nat} (h : CtI g nr K sh fn M ST b7 E zs w u v m) (hk : KeyAt u2 g nr K) (hg : u.grownBy u2 (some g)) : CtI g nr K sh fn M ST b7 E zs w u2 v m := by
  have hM := h.hc.hM
  have hlt := h.hc.hg
  have h7 := h.hb7
  refine ⟨h.hc.enc hk hg, h.hc.bx h.st (by omega) hg, ownsRow_keep h.own fun q e => hg.block q (ownsRow_lt h.own e).2 (fun e2 => ?_), h.hb7, h.hsh, Nat.le_trans h.bg hg.size⟩
  injection e2 with e2
  have := (ownsRow_lt h.own e).1
  omega
theorem CtI.put {g nr : Nat} {K : Nat → Nat} {sh fn M : Nat} {ST : List Value} {b7 : Nat} {E : Nat → BitVec 128} {zs : List Int} {w u u2 : World} {v : Value} {m : Nat} (h : CtI g nr K sh fn M ST b7 E zs w u v m) {b : Nat} (hg : u.grownBy u2 (some b)) (hb : b7 < b) (hy : ∀ y, v.ownBlock = some y → y < b) : CtI g nr K sh fn M ST b7 E zs w u2 v m := by
  have hM := h.hc.hM
  have h7 := h.hb7
  refine ⟨h.hc.put hg (by omega) h.hsh, h.st.keep (hg.block b7 h.st.lt (fun e => by injection e with e; omega)), ownsRow_keep h.own fun q e => hg.block q (ownsRow_lt h.own e).2 (fun e2 => ?_), h.hb7, h.hsh, Nat.le_trans h.bg hg.size⟩
  injection e2 with e2
  have := hy q e
  omega
/-- A byte is appended. -/
theorem CtI.app {g nr : Nat} {K : Nat → Nat} {sh fn M : Nat} {ST : List Value} {b7 : Nat} {E : Nat → BitVec 128} {zs : List Int} {w u u2 : World} {v : Value} {m : Nat} (h : CtI g nr K sh fn M ST b7 E zs w u v m) {v2 : Value} {z : Int} (o : Obj) (hz : ctZ E zs m = z) (ho : u2.ownsRow (M + 2) 5 1 v2 (m + 1) (cellsU8 (ctL E zs m) ++ [.int .u8 z])) (hg : (u.alloc o).grownBy u2 v.ownBlock) (hn : ∀ y, v.ownBlock = some y → y ≠ b7) : CtI g nr K sh fn M ST b7 E zs w u2 v2 (m + 1) := by
  have hM := h.hc.hM
  have h7 := h.hb7
  have hk : ∀ k, k < u.heap.size → (∀ y, v.ownBlock = some y → k ≠ y) → u2.heap[k]? = u.heap[k]? := fun k hk hn => by
    rw [hg.block k (by simp; omega) (fun e => hn k e.symm rfl)]
    exact ((Below.refl u.heap.size u).alloc (Nat.le_refl _) o).block k hk
  have hs : u.heap.size ≤ u2.heap.size := Nat.le_trans (by simp) hg.size
  have far : ∀ y, v.ownBlock = some y → M + 2 ≤ y := fun y e => (ownsRow_lt h.own e).1
  have hbel : Below (M + 2) u u2 := ⟨hg.os, hg.tape, hg.output, hs, fun k hk' => hk k (by have := h.bg; omega) (fun y e => by have := far y e; omega)⟩
  have hgl := h.hc.hg
  refine ⟨⟨h.hc.key.sameK (hbel.block g (by omega)) hs, (hbel.cell (p := ⟨sh, 4, none⟩) (show sh < M + 2 by have := h.hsh; omega)).trans h.hc.csh, h.hc.box.keep (hbel.block M (by omega)), ⟨hg.os.trans h.hc.gb.os, hg.tape.trans h.hc.gb.tape, hg.output.trans h.hc.gb.output, Nat.le_trans h.hc.gb.size hs, fun c hc hn' => (hbel.block c (by omega)).trans (h.hc.gb.block c hc hn')⟩, h.hc.hM, h.hc.hg, h.hc.n1⟩, h.st.keep (hk b7 h.st.lt (fun y e => fun e2 => hn y e e2.symm)), ?_, h.hb7, h.hsh, Nat.le_trans h.bg hs⟩
  rw [ctL_succ, hz, cellsU8_append]
  exact ho
theorem ct_num (q n m : Nat) (hm : m = min (16 * q) n) (hn : n ≤ 4096) (hq : 16 * q < n + 16) : q ≤ 256 ∧ m ≤ n ∧ (m < n → m = 16 * q) := by
  rw [hm]
  rcases Nat.le_total (16 * q) n with h | h
  · rw [Nat.min_eq_left h]; omega
  · rw [Nat.min_eq_right h]; omega
theorem ct_in (q n m r i p D : Nat) (hr : r = min 16 (n - 16 * q)) (hD : D = n - 16 * q ∧ m = 16 * q ∧ 16 * q < n ∧ n ≤ 4096) (hi : i < r) (hp : m + i = p) : p < n ∧ p / 16 = q ∧ p % 16 = i ∧ i < 16 ∧ p ≤ 4096 ∧ p + 1 ≤ maxLen ∧ (p + 1) * 1 ≤ 140737488355328 ∧ i + 1 ≤ r ∧ m + (i + 1) = p + 1 := by
  have h1 : r ≤ n - 16 * q := by rw [hr]; exact Nat.min_le_right _ _
  have h2 : r ≤ 16 := by rw [hr]; exact Nat.min_le_left _ _
  unfold maxLen
  omega
theorem ct_int (p n i r : Nat) (h1 : p < n) (h2 : i < 16) (h3 : i < r) : (p : Int) < (n : Int) ∧ (0 : Int) ≤ (p : Int) ∧ (i : Int) < 16 ∧ (0 : Int) ≤ (i : Int) ∧ (i : Int) < (r : Int) ∧ wrap64 ((i : Int) + 1) = ((i + 1 : Nat) : Int) ∧ IntKind.i64.wrap ((i : Int) + 1) = ((i + 1 : Nat) : Int) := by
  refine ⟨by omega, by omega, by omega, by omega, by omega, ?_, ?_⟩
  · unfold wrap64; omega
  · rw [IntKind.wrap_i64]; omega
theorem ct_pos {n m q D : Nat} (h : D = n - 16 * q ∧ m = 16 * q ∧ 16 * q < n ∧ n ≤ 4096) : ¬ n = 0 := by omega
theorem ct_base {M : Nat} {u : World} {o : Obj} (h : M + 2 ≤ u.heap.size) : M + 2 ≤ (u.alloc o).heap.size := by simp; omega
theorem ct_lt {b : Nat} {u : World} {o : Obj} (h : b < u.heap.size) : b < (u.alloc o).heap.size := by simp; omega
theorem ct_next (q n r : Nat) (hr : r = min 16 (n - 16 * q)) (hq : 16 * q < n) (hn : n ≤ 4096) : 16 * q + r = min (16 * (q + 1)) n ∧ r ≤ 16 ∧ 0 < r ∧ 16 * (q + 1) < n + 16 := by
  rw [hr]
  rcases Nat.le_total 16 (n - 16 * q) with h | h
  · rw [Nat.min_eq_left h, Nat.min_eq_left (by omega)]; omega
  · rw [Nat.min_eq_right h, Nat.min_eq_right (by omega)]; omega
set_option maxHeartbeats 6400000 in
set_option maxRecDepth 100000 in
/-- hctr2.count. -/
theorem count_ok (g nr : Nat) (K : Nat → Nat) (sh fn : Nat) (su : BitVec 128) (v : Value) (zs : List Int) (w : World) (hK : KeyAt w g nr K) (csh : w.cell? ⟨sh, 4, none⟩ = some (.pointer (some ⟨g, 0, none⟩))) (n1 : sh ≠ g) (hv : View w v zs) (hb : AllBytes zs) (hm : zs.length ≤ 4096) (hvg : ∀ b off l c, v = .slice (some ⟨b, off, none⟩) l c → b ≠ g) :
    Calls Tryz.prog 218 #[.agg #[.pointer (some ⟨sh, 0, none⟩), .func (.func fn) #[] #[]], Fd.BV su, v] w fun e w' => Hid (∃ y d, e = .returned (.slice (some ⟨y, 0, none⟩) zs.length d) ∧ w'.ownsRow w.heap.size 5 1 (.slice (some ⟨y, 0, none⟩) zs.length d) zs.length (cellsU8 (ctL (ctE nr K su) zs zs.length)) ∧ KeyAt w' g nr K ∧ w.grownBy w' (some g)) := by
  obtain ⟨a, c, rfl, h1, h2, h3, h4⟩ := id hv
  obtain ⟨n, HNL⟩ : ∃ n, Hid (zs.length = n) := ⟨_, rfl⟩
  obtain ⟨SU, HSU⟩ : ∃ L, Hid (L = Fd.BL su) := ⟨_, rfl⟩
  obtain ⟨O, HO⟩ : ∃ L, Hid (L = Fd.BL (BitVec.ofNat 128 1)) := ⟨_, rfl⟩
  obtain ⟨E1, HE1⟩ : ∃ L, Hid (L = Fd.BL (encV nr K (BitVec.ofNat 128 1))) := ⟨_, rfl⟩
  obtain ⟨st, Hst⟩ : ∃ x, Hid (x = su ^^^ encV nr K (BitVec.ofNat 128 1)) := ⟨_, rfl⟩
  obtain ⟨ST, HST⟩ : ∃ L, Hid (L = Fd.BL st) := ⟨_, rfl⟩
  obtain ⟨E, HE⟩ : ∃ E, Hid (E = ctE nr K su) := ⟨_, rfl⟩
  have HL0 : Hid (∀ u, Calls Tryz.prog 64 #[.int .u64 0, .int .u64 1] u fun e w' => Hid (e = .returned (.agg O.toArray) ∧ Below u.heap.size u w')) := fun u => by rw [HO.out]; exact little0_ok 1 (by decide) u
  have HEN : Hid (∀ u, KeyAt u g nr K → u.cell? ⟨sh, 4, none⟩ = some (.pointer (some ⟨g, 0, none⟩)) → Calls Tryz.prog 148 #[.pointer (some ⟨sh, 0, none⟩), .agg O.toArray] u fun e w' => Hid (e = .returned (.agg E1.toArray) ∧ KeyAt w' g nr K ∧ u.grownBy w' (some g))) := fun u hu hc => by
    rw [HO.out, HE1.out]; exact encrypt_ok sh g nr K _ u n1 hc hu
  have HX1 : Hid (∀ u, Calls Tryz.prog 41 #[.agg SU.toArray, .agg E1.toArray] u fun e w' => Hid (e = .returned (.agg ST.toArray) ∧ Below u.heap.size u w')) := fun u => by
    rw [HSU.out, HE1.out, HST.out, Hst.out]; exact (Fd.xor_ok _ _ u).mono fun e w' hh => hh
  have HLN : Hid (ST.length = 16 ∧ (∀ x ∈ ST, x.oneCell' = true) ∧ SU.length = 16) := by rw [HST.out, HSU.out]; exact ⟨Fd.BL_length _, BL_one8 _, Fd.BL_length _⟩
  have HN : Hid (n ≤ 4096 ∧ n ≤ c ∧ zs.length = n ∧ AllBytes zs) := ⟨by rw [← HNL.out]; exact hm, by rw [← HNL.out]; exact h1, HNL.out, hb⟩
  have HV : Hid (n = 0 ∨ ∃ b off, a = some ⟨b, off, none⟩ ∧ b ≠ g ∧ b < w.heap.size ∧ ∀ i, i < n → w.cell? ⟨b, off + i, none⟩ = some (.int .u8 (zs.getD i 0))) := by
    rcases h4 with h4 | ⟨b, off, rfl, h4⟩
    · exact .inl (by rw [← HNL.out, h4]; rfl)
    · by_cases h0 : n = 0
      · exact .inl h0
      · exact .inr ⟨b, off, rfl, hvg b off _ _ rfl, World.block_lt_of_cell? w _ (h4 0 (by rw [HNL.out]; omega)), fun i hi => h4 i (by rw [HNL.out]; exact hi)⟩
  rw [HNL.out]
  show Calls Tryz.prog 218 #[_, .agg (Fd.BL su).toArray, _] w fun e w' => _
  rw [← HSU.out, ← HE.out]
  obtain ⟨w1, hw1⟩ : ∃ w1, w1 = (w.alloc (.cells #[.pointer (some ⟨sh, 0, none⟩), .func (.func fn) #[] #[]] 212)).alloc (.cells SU.toArray 29) := ⟨_, rfl⟩
  have HB1 : Hid (Bx w1 w.heap.size 212 [.pointer (some ⟨sh, 0, none⟩), .func (.func fn) #[] #[]] ∧ Bx w1 (w.heap.size + 1) 29 SU ∧ Below w.heap.size w w1 ∧ KeyAt w1 g nr K ∧ w1.cell? ⟨sh, 4, none⟩ = some (.pointer (some ⟨g, 0, none⟩)) ∧ g < w.heap.size) := by
    have hb : Below w.heap.size w w1 := by rw [hw1]; exact ((Below.refl _ _).alloc (Nat.le_refl _) _).alloc (by simp) _
    refine ⟨?_, ?_, hb, hK.below hb hK.ciph.here, (hb.cell (World.block_lt_of_cell? w _ csh)).trans csh, hK.ciph.here⟩
    · rw [hw1]; exact (Bx.new w 212 [.pointer (some ⟨sh, 0, none⟩), .func (.func fn) #[] #[]]).below ((Below.refl _ _).alloc (Nat.le_refl _) _)
    · rw [hw1]; have q := Bx.new (w.alloc (.cells #[.pointer (some ⟨sh, 0, none⟩), .func (.func fn) #[] #[]] 212)) 29 SU; simpa using q
  have N1 : Hid (sh ≠ g) := n1
  have HSL : Hid (sh < w.heap.size) := World.block_lt_of_cell? w _ csh
  clear hK csh n1 hv hb hm hvg h1 h2 h3 h4
  go_enter Tryz.func218, Tryz.ntmps218
  go_upto_region 1 with fail
  rw [← hw1]
  clear hw1
  obtain ⟨M, HMM⟩ : ∃ M, Hid (w.heap.size = M) := ⟨_, rfl⟩
  rw [HMM.out] at HB1 ⊢
  have HI1 : Hid (HcI g nr K sh fn M w w1) := ⟨HB1.out.2.2.2.1, HB1.out.2.2.2.2.1, HB1.out.1, ⟨HB1.out.2.2.1.os, HB1.out.2.2.1.tape, HB1.out.2.2.1.output, HB1.out.2.2.1.size, fun c hc _ => HB1.out.2.2.1.block c (by rw [← HMM.out]; exact hc)⟩, by rw [HMM.out]; exact Nat.le_refl _, by rw [HMM.out]; exact HB1.out.2.2.2.2.2, N1.out⟩
  have hiS : (Tryz.prog.info? 29).map (·.size) = some SU.length := by rw [HLN.out.2.2]; kernel_rfl
  go_cut [7] from 12 to 17 (fun vb wx => ∃ b : Nat, vb = .pointer (some ⟨b, 0, none⟩) ∧ Hid (HcI g nr K sh fn M w wx ∧ Bx wx b 29 ST ∧ M + 2 ≤ b))
  case first =>
    have hS0 : w1.drew.cell? ⟨M, 0, none⟩ = some (.pointer (some ⟨sh, 0, none⟩)) ∧ w1.drew.rangeAt (M + 1) 0 SU := ⟨HI1.out.drew.box.cell 0 _ rfl, by simpa using HB1.out.2.1.range⟩
    have HS0 : Hid (HcI g nr K sh fn M w w1.drew ∧ Bx w1.drew (M + 1) 29 SU) := ⟨HI1.out.drew, HB1.out.2.1.below (Below.refl _ _).drew⟩
    refine wp_region_noPanic ?_
    refine wp_region_held_drew (S := (fun u => u.cell? ⟨M, 0, none⟩ = some (.pointer (some ⟨sh, 0, none⟩)) ∧ u.rangeAt (M + 1) 0 SU)) (by kernel_rfl) (hS0) (fun _ => ?_)
    refine tH 0 12 (.agg SU.toArray) rfl rfl (by kernel_rfl) (hS0) (yieldsIf_load_mid (by rfl) 29 (.tmp 4) rfl (M + 1) 0 rfl SU _ (fun u hu => hu.2) Tryz.underlying29 rfl hiS) ?_
    try simp only [pU]
    refine tH 1 13 (.pointer (some ⟨M, 0, none⟩)) rfl rfl (by kernel_rfl) (hS0) (Or.inl ⟨by rfl, fun w' hS' => by first | go_simp | (obtain ⟨c1, c2⟩ := hS'; go_simp) | (obtain ⟨c1, c2, c3⟩ := hS'; go_simp)⟩) ?_
    try simp only [pU]
    refine tH 2 14 (.pointer (some ⟨sh, 0, none⟩)) rfl rfl (by kernel_rfl) (hS0) (Or.inl ⟨by rfl, fun w' hS' => by first | go_simp | (obtain ⟨c1, c2⟩ := hS'; go_simp) | (obtain ⟨c1, c2, c3⟩ := hS'; go_simp)⟩) ?_
    try simp only [pU]
    have HLO : Hid (w.heap.size ≤ M + 1) := by show _ ≤ _; rw [HMM.out]; omega
    have HLT : Hid (∀ b, M + 1 < b → M < b) := fun b hb => by omega
    refine wpAnyH_ready (rs := [3, 6]) (by kernel_rfl) (by simp) ?_
    refine AllReadyH.cons rfl (fun KK hK => ?_) (AllReadyH.cons rfl (fun KK hK => ?_) AllReadyH.nil)
    · skip
      go_simp
      refine (HL0.out _).mono ?_
      intro e w11 hh
      obtain ⟨rfl, hb⟩ := hh.out
      have HS11 : Hid (HcI g nr K sh fn M w w11 ∧ Bx w11 (M + 1) 29 SU) := ⟨HS0.out.1.below hb, HS0.out.2.below hb⟩
      clear hh hb
      go_wp2_with fail
      refine hK.out _ _ (⟨HS11.out.1.box.cell 0 _ rfl, HS11.out.2.range⟩) (fun _ => ?_)
      clear hK KK
      try simp only [pU]
      refine wpAnyH_ready (rs := [4, 6]) (by kernel_rfl) (by simp) ?_
      refine AllReadyH.cons rfl (fun KK hK => ?_) (AllReadyH.cons rfl (fun KK hK => ?_) AllReadyH.nil)
      · skip
        go_simp
        refine (HEN.out _ HS11.out.1.key HS11.out.1.csh).mono ?_
        intro e w12 hh
        obtain ⟨rfl, hk, hg⟩ := hh.out
        have HS12 : Hid (HcI g nr K sh fn M w w12 ∧ Bx w12 (M + 1) 29 SU) := ⟨HS11.out.1.enc hk hg, HS11.out.1.bx HS11.out.2 (HLO.out) hg⟩
        clear hh hk hg
        go_wp2_with fail
        refine hK.out _ _ (⟨HS12.out.1.box.cell 0 _ rfl, HS12.out.2.range⟩) (fun _ => ?_)
        clear hK KK
        try simp only [pU]
        refine wpAnyH_ready (rs := [5, 6]) (by kernel_rfl) (by simp) ?_
        refine AllReadyH.cons rfl (fun KK hK => ?_) (AllReadyH.cons rfl (fun KK hK => ?_) AllReadyH.nil)
        · skip
          go_simp
          refine (HX1.out _).mono ?_
          intro e w13 hh
          obtain ⟨rfl, hb⟩ := hh.out
          have HS13 : Hid (HcI g nr K sh fn M w w13 ∧ Bx w13 (M + 1) 29 SU) := ⟨HS12.out.1.below hb, HS12.out.2.below hb⟩
          clear hh hb
          go_wp2_with fail
          refine hK.out _ _ (⟨HS13.out.1.box.cell 0 _ rfl, HS13.out.2.range⟩) (fun _ => ?_)
          clear hK KK
          try simp only [pU]
          refine wpAnyH_ready (rs := [6]) (by kernel_rfl) (by simp) ?_
          refine AllReadyH.cons rfl (fun KK hK => ?_) AllReadyH.nil
          refine step_alloc29 rfl 7 rfl rfl ?_
          intro w14 b14 hu hb
          have HS14 : Hid (HcI g nr K sh fn M w w14 ∧ Bx w14 (M + 1) 29 SU) := by rw [hu.out]; exact ⟨HS13.out.1.alloc _, HS13.out.2.below ((Below.refl _ _).alloc (Nat.le_refl _) _)⟩
          have HZ14 : Hid (Bx w14 b14 29 ZZ ∧ w.heap.size ≤ b14 ∧ M + 1 < b14) := by rw [hu.out, hb.out]; exact ⟨Bx.new _ 29 ZZ, HS13.out.1.gb.size, HS13.out.2.lt⟩
          clear hu hb
          refine hK.out _ _ (⟨HS14.out.1.box.cell 0 _ rfl, HS14.out.2.range⟩) (fun _ => ?_)
          clear hK KK
          try simp only [pU]
          refine wpAnyH_ready (rs := [7]) (by kernel_rfl) (by simp) ?_
          refine AllReadyH.cons rfl (fun KK hK => ?_) AllReadyH.nil
          refine step_store_bx rfl 29 (.tmp 7) (.tmp 17) rfl ZZ ST b14 rfl rfl HZ14.out.1 (by rw [HLN.out.1]; rfl) (by rw [HLN.out.1]; kernel_rfl) HLN.out.2.1 ?_
          intro u9 HB9 HG9
          have H9 : Hid (HcI g nr K sh fn M w u9 ∧ Bx u9 (M + 1) 29 SU) := ⟨HS14.out.1.put HG9.out (HLT.out _ HZ14.out.2.2) HSL.out, HS14.out.2.keep (HG9.out.block _ HS14.out.2.lt (fun e => by injection e with e; exact absurd e (Nat.ne_of_lt HZ14.out.2.2)))⟩
          refine hK.out _ _ (⟨H9.out.1.box.cell 0 _ rfl, H9.out.2.range⟩) (fun _ => ?_)
          clear hK KK
          try simp only [pU]
          refine wpAnyH_done (by kernel_rfl) ?_ _
          refine NoPanic.normal ?_
          go_wp2_with fail
          go_meet
          exact ⟨b14, rfl, H9.out.1, HB9.out, HZ14.out.2.2⟩
        · skip
          refine step_alloc29 rfl 7 rfl rfl ?_
          intro w15 b15 hu hb
          have HS15 : Hid (HcI g nr K sh fn M w w15 ∧ Bx w15 (M + 1) 29 SU) := by rw [hu.out]; exact ⟨HS12.out.1.alloc _, HS12.out.2.below ((Below.refl _ _).alloc (Nat.le_refl _) _)⟩
          have HZ15 : Hid (Bx w15 b15 29 ZZ ∧ w.heap.size ≤ b15 ∧ M + 1 < b15) := by rw [hu.out, hb.out]; exact ⟨Bx.new _ 29 ZZ, HS12.out.1.gb.size, HS12.out.2.lt⟩
          clear hu hb
          refine hK.out _ _ (⟨HS15.out.1.box.cell 0 _ rfl, HS15.out.2.range⟩) (fun _ => ?_)
          clear hK KK
          try simp only [pU]
          refine wpAnyH_ready (rs := [5]) (by kernel_rfl) (by simp) ?_
          refine AllReadyH.cons rfl (fun KK hK => ?_) AllReadyH.nil
          go_simp
          refine (HX1.out _).mono ?_
          intro e w16 hh
          obtain ⟨rfl, hb⟩ := hh.out
          have HS16 : Hid (HcI g nr K sh fn M w w16 ∧ Bx w16 (M + 1) 29 SU) := ⟨HS15.out.1.below hb, HS15.out.2.below hb⟩
          have HZ16 : Hid (Bx w16 b15 29 ZZ ∧ w.heap.size ≤ b15 ∧ M + 1 < b15) := ⟨HZ15.out.1.below hb, HZ15.out.2⟩
          clear hh hb
          go_wp2_with fail
          refine hK.out _ _ (⟨HS16.out.1.box.cell 0 _ rfl, HS16.out.2.range⟩) (fun _ => ?_)
          clear hK KK
          try simp only [pU]
          refine wpAnyH_ready (rs := [7]) (by kernel_rfl) (by simp) ?_
          refine AllReadyH.cons rfl (fun KK hK => ?_) AllReadyH.nil
          refine step_store_bx rfl 29 (.tmp 7) (.tmp 17) rfl ZZ ST b15 rfl rfl HZ16.out.1 (by rw [HLN.out.1]; rfl) (by rw [HLN.out.1]; kernel_rfl) HLN.out.2.1 ?_
          intro u9 HB9 HG9
          have H9 : Hid (HcI g nr K sh fn M w u9 ∧ Bx u9 (M + 1) 29 SU) := ⟨HS16.out.1.put HG9.out (HLT.out _ HZ16.out.2.2) HSL.out, HS16.out.2.keep (HG9.out.block _ HS16.out.2.lt (fun e => by injection e with e; exact absurd e (Nat.ne_of_lt HZ16.out.2.2)))⟩
          refine hK.out _ _ (⟨H9.out.1.box.cell 0 _ rfl, H9.out.2.range⟩) (fun _ => ?_)
          clear hK KK
          try simp only [pU]
          refine wpAnyH_done (by kernel_rfl) ?_ _
          refine NoPanic.normal ?_
          go_wp2_with fail
          go_meet
          exact ⟨b15, rfl, H9.out.1, HB9.out, HZ16.out.2.2⟩
      · skip
        refine step_alloc29 rfl 7 rfl rfl ?_
        intro w17 b17 hu hb
        have HS17 : Hid (HcI g nr K sh fn M w w17 ∧ Bx w17 (M + 1) 29 SU) := by rw [hu.out]; exact ⟨HS11.out.1.alloc _, HS11.out.2.below ((Below.refl _ _).alloc (Nat.le_refl _) _)⟩
        have HZ17 : Hid (Bx w17 b17 29 ZZ ∧ w.heap.size ≤ b17 ∧ M + 1 < b17) := by rw [hu.out, hb.out]; exact ⟨Bx.new _ 29 ZZ, HS11.out.1.gb.size, HS11.out.2.lt⟩
        clear hu hb
        refine hK.out _ _ (⟨HS17.out.1.box.cell 0 _ rfl, HS17.out.2.range⟩) (fun _ => ?_)
        clear hK KK
        try simp only [pU]
        refine wpAnyH_ready (rs := [4]) (by kernel_rfl) (by simp) ?_
        refine AllReadyH.cons rfl (fun KK hK => ?_) AllReadyH.nil
        go_simp
        refine (HEN.out _ HS17.out.1.key HS17.out.1.csh).mono ?_
        intro e w18 hh
        obtain ⟨rfl, hk, hg⟩ := hh.out
        have HS18 : Hid (HcI g nr K sh fn M w w18 ∧ Bx w18 (M + 1) 29 SU) := ⟨HS17.out.1.enc hk hg, HS17.out.1.bx HS17.out.2 (HLO.out) hg⟩
        have HZ18 : Hid (Bx w18 b17 29 ZZ ∧ w.heap.size ≤ b17 ∧ M + 1 < b17) := ⟨HS17.out.1.bx HZ17.out.1 HZ17.out.2.1 hg, HZ17.out.2⟩
        clear hh hk hg
        go_wp2_with fail
        refine hK.out _ _ (⟨HS18.out.1.box.cell 0 _ rfl, HS18.out.2.range⟩) (fun _ => ?_)
        clear hK KK
        try simp only [pU]
        refine wpAnyH_ready (rs := [5]) (by kernel_rfl) (by simp) ?_
        refine AllReadyH.cons rfl (fun KK hK => ?_) AllReadyH.nil
        go_simp
        refine (HX1.out _).mono ?_
        intro e w19 hh
        obtain ⟨rfl, hb⟩ := hh.out
        have HS19 : Hid (HcI g nr K sh fn M w w19 ∧ Bx w19 (M + 1) 29 SU) := ⟨HS18.out.1.below hb, HS18.out.2.below hb⟩
        have HZ19 : Hid (Bx w19 b17 29 ZZ ∧ w.heap.size ≤ b17 ∧ M + 1 < b17) := ⟨HZ18.out.1.below hb, HZ18.out.2⟩
        clear hh hb
        go_wp2_with fail
        refine hK.out _ _ (⟨HS19.out.1.box.cell 0 _ rfl, HS19.out.2.range⟩) (fun _ => ?_)
        clear hK KK
        try simp only [pU]
        refine wpAnyH_ready (rs := [7]) (by kernel_rfl) (by simp) ?_
        refine AllReadyH.cons rfl (fun KK hK => ?_) AllReadyH.nil
        refine step_store_bx rfl 29 (.tmp 7) (.tmp 17) rfl ZZ ST b17 rfl rfl HZ19.out.1 (by rw [HLN.out.1]; rfl) (by rw [HLN.out.1]; kernel_rfl) HLN.out.2.1 ?_
        intro u9 HB9 HG9
        have H9 : Hid (HcI g nr K sh fn M w u9 ∧ Bx u9 (M + 1) 29 SU) := ⟨HS19.out.1.put HG9.out (HLT.out _ HZ19.out.2.2) HSL.out, HS19.out.2.keep (HG9.out.block _ HS19.out.2.lt (fun e => by injection e with e; exact absurd e (Nat.ne_of_lt HZ19.out.2.2)))⟩
        refine hK.out _ _ (⟨H9.out.1.box.cell 0 _ rfl, H9.out.2.range⟩) (fun _ => ?_)
        clear hK KK
        try simp only [pU]
        refine wpAnyH_done (by kernel_rfl) ?_ _
        refine NoPanic.normal ?_
        go_wp2_with fail
        go_meet
        exact ⟨b17, rfl, H9.out.1, HB9.out, HZ19.out.2.2⟩
    · skip
      refine step_alloc29 rfl 7 rfl rfl ?_
      intro w20 b20 hu hb
      have HS20 : Hid (HcI g nr K sh fn M w w20 ∧ Bx w20 (M + 1) 29 SU) := by rw [hu.out]; exact ⟨HS0.out.1.alloc _, HS0.out.2.below ((Below.refl _ _).alloc (Nat.le_refl _) _)⟩
      have HZ20 : Hid (Bx w20 b20 29 ZZ ∧ w.heap.size ≤ b20 ∧ M + 1 < b20) := by rw [hu.out, hb.out]; exact ⟨Bx.new _ 29 ZZ, HS0.out.1.gb.size, HS0.out.2.lt⟩
      clear hu hb
      refine hK.out _ _ (⟨HS20.out.1.box.cell 0 _ rfl, HS20.out.2.range⟩) (fun _ => ?_)
      clear hK KK
      try simp only [pU]
      refine wpAnyH_ready (rs := [3]) (by kernel_rfl) (by simp) ?_
      refine AllReadyH.cons rfl (fun KK hK => ?_) AllReadyH.nil
      go_simp
      refine (HL0.out _).mono ?_
      intro e w21 hh
      obtain ⟨rfl, hb⟩ := hh.out
      have HS21 : Hid (HcI g nr K sh fn M w w21 ∧ Bx w21 (M + 1) 29 SU) := ⟨HS20.out.1.below hb, HS20.out.2.below hb⟩
      have HZ21 : Hid (Bx w21 b20 29 ZZ ∧ w.heap.size ≤ b20 ∧ M + 1 < b20) := ⟨HZ20.out.1.below hb, HZ20.out.2⟩
      clear hh hb
      go_wp2_with fail
      refine hK.out _ _ (⟨HS21.out.1.box.cell 0 _ rfl, HS21.out.2.range⟩) (fun _ => ?_)
      clear hK KK
      try simp only [pU]
      refine wpAnyH_ready (rs := [4]) (by kernel_rfl) (by simp) ?_
      refine AllReadyH.cons rfl (fun KK hK => ?_) AllReadyH.nil
      go_simp
      refine (HEN.out _ HS21.out.1.key HS21.out.1.csh).mono ?_
      intro e w22 hh
      obtain ⟨rfl, hk, hg⟩ := hh.out
      have HS22 : Hid (HcI g nr K sh fn M w w22 ∧ Bx w22 (M + 1) 29 SU) := ⟨HS21.out.1.enc hk hg, HS21.out.1.bx HS21.out.2 (HLO.out) hg⟩
      have HZ22 : Hid (Bx w22 b20 29 ZZ ∧ w.heap.size ≤ b20 ∧ M + 1 < b20) := ⟨HS21.out.1.bx HZ21.out.1 HZ21.out.2.1 hg, HZ21.out.2⟩
      clear hh hk hg
      go_wp2_with fail
      refine hK.out _ _ (⟨HS22.out.1.box.cell 0 _ rfl, HS22.out.2.range⟩) (fun _ => ?_)
      clear hK KK
      try simp only [pU]
      refine wpAnyH_ready (rs := [5]) (by kernel_rfl) (by simp) ?_
      refine AllReadyH.cons rfl (fun KK hK => ?_) AllReadyH.nil
      go_simp
      refine (HX1.out _).mono ?_
      intro e w23 hh
      obtain ⟨rfl, hb⟩ := hh.out
      have HS23 : Hid (HcI g nr K sh fn M w w23 ∧ Bx w23 (M + 1) 29 SU) := ⟨HS22.out.1.below hb, HS22.out.2.below hb⟩
      have HZ23 : Hid (Bx w23 b20 29 ZZ ∧ w.heap.size ≤ b20 ∧ M + 1 < b20) := ⟨HZ22.out.1.below hb, HZ22.out.2⟩
      clear hh hb
      go_wp2_with fail
      refine hK.out _ _ (⟨HS23.out.1.box.cell 0 _ rfl, HS23.out.2.range⟩) (fun _ => ?_)
      clear hK KK
      try simp only [pU]
      refine wpAnyH_ready (rs := [7]) (by kernel_rfl) (by simp) ?_
      refine AllReadyH.cons rfl (fun KK hK => ?_) AllReadyH.nil
      refine step_store_bx rfl 29 (.tmp 7) (.tmp 17) rfl ZZ ST b20 rfl rfl HZ23.out.1 (by rw [HLN.out.1]; rfl) (by rw [HLN.out.1]; kernel_rfl) HLN.out.2.1 ?_
      intro u9 HB9 HG9
      have H9 : Hid (HcI g nr K sh fn M w u9 ∧ Bx u9 (M + 1) 29 SU) := ⟨HS23.out.1.put HG9.out (HLT.out _ HZ23.out.2.2) HSL.out, HS23.out.2.keep (HG9.out.block _ HS23.out.2.lt (fun e => by injection e with e; exact absurd e (Nat.ne_of_lt HZ23.out.2.2)))⟩
      refine hK.out _ _ (⟨H9.out.1.box.cell 0 _ rfl, H9.out.2.range⟩) (fun _ => ?_)
      clear hK KK
      try simp only [pU]
      refine wpAnyH_done (by kernel_rfl) ?_ _
      refine NoPanic.normal ?_
      go_wp2_with fail
      go_meet
      exact ⟨b20, rfl, H9.out.1, HB9.out, HZ23.out.2.2⟩
  case rest =>
    obtain ⟨b7, rfl, HR1⟩ := hcut
    obtain ⟨i0, hi0, hz0, hz1, hz2⟩ := info_parts Tryz.info5
    have HI0 : Hid (Tryz.prog.info? 5 = some i0 ∧ i0.zero = some (.int .u8 0) ∧ i0.size = 1 ∧ i0.bytes = 1) := ⟨hi0, hz0, hz1, hz2⟩
    clear hi0 hz0 hz1 hz2
    have HMF : Hid (i0.bytes * n ≤ 281474976710656 ∧ n ≤ maxLen) := by rw [HI0.out.2.2.2]; have := HN.out.1; exact ⟨by omega, by unfold maxLen; omega⟩
    have HWC : Hid (M + 2 ≤ wc.heap.size) := Nat.le_trans HR1.out.2.2 (Nat.le_of_lt HR1.out.2.1.lt)
    obtain ⟨X, HX⟩ : ∃ X, Hid (wc.heap.size = X) := ⟨_, rfl⟩
    go_upto_region 3 with (first
      | (at_make; go_must (refine wpList_make_own _ rfl _ _ 24 rfl (M + 2) 5 i0 (.int .u8 0) 1 Tryz.underlying24 HI0.out.1 HI0.out.2.1 HI0.out.2.2.1 .i64 .i64 (n : Nat) n rfl rfl rfl HMF.out.1 HMF.out.2 HWC.out ?_; intro w5 hown hgrow; have HW5 : Hid (CtI g nr K sh fn M ST b7 E zs w w5 (.slice (some ⟨wc.heap.size, 0, none⟩) 0 n) 0) := ⟨HR1.out.1.below ⟨hgrow.os, hgrow.tape, hgrow.output, hgrow.size, fun k hk => hgrow.block k hk (by simp)⟩, HR1.out.2.1.keep (hgrow.block b7 HR1.out.2.1.lt (by simp)), hown, HR1.out.2.2, HSL.out, Nat.le_trans HWC.out hgrow.size⟩; clear hown hgrow)))
    rw [HX.out] at HW5 ⊢
    have HXb : Hid (X ≠ b7) := by have := HR1.out.2.1.lt; have := HX.out; show X ≠ b7; omega
    clear HX HR1 HI1 HB1 HWC
    go_upto_region 4 with fail
    go_loopw [8, 9] (fun v vq wr => ∃ q m y d : Nat, vq = .int .u64 ((q + 1 : Nat) : Int) ∧ v = .slice (some ⟨y, 0, none⟩) m d ∧ Hid (m = min (16 * q) n ∧ 16 * q < n + 16 ∧ y ≠ b7 ∧ CtI g nr K sh fn M ST b7 E zs w wr (.slice (some ⟨y, 0, none⟩) m d) m)) (fun _ vq _ => 300 - (intOf vq).toNat)
    case atStart => exact ⟨0, 0, X, n, rfl, rfl, (Nat.min_eq_left (Nat.zero_le _)).symm, by omega, HXb.out, HW5.out⟩
    case round =>
     as_aux_lemma =>
      obtain ⟨q, m, y, d, rfl, rfl, HR⟩ := hrel
      obtain ⟨hq256, hmn, hm16⟩ := ct_num q n m HR.out.1 HN.out.1 HR.out.2.1
      by_cases hlt : m < n
      · skip
        have HMQ : Hid (m = 16 * q ∧ 16 * q < n) := ⟨hm16 hlt, by have := hm16 hlt; omega⟩
        have g1 : (m : Int) < (n : Int) := by omega
        obtain ⟨NQ, HNQ⟩ : ∃ L, Hid (L = Fd.BL (BitVec.ofNat 128 (q + 1))) := ⟨_, rfl⟩
        obtain ⟨XQ, HXQ⟩ : ∃ L, Hid (L = Fd.BL (st ^^^ BitVec.ofNat 128 (q + 1))) := ⟨_, rfl⟩
        obtain ⟨EQ, HEQ⟩ : ∃ L, Hid (L = Fd.BL (E q)) := ⟨_, rfl⟩
        obtain ⟨Q1, HQ1⟩ : ∃ Q1 : Nat, Hid (q + 1 = Q1) := ⟨_, rfl⟩
        have HL1 : Hid (∀ u, Calls Tryz.prog 64 #[.int .u64 0, .int .u64 (Q1 : Nat)] u fun e w' => Hid (e = .returned (.agg NQ.toArray) ∧ Below u.heap.size u w')) := fun u => by rw [HNQ.out, HQ1.out]; exact little0_ok Q1 (by rw [← HQ1.out]; omega) u
        have HX2 : Hid (∀ u, Calls Tryz.prog 41 #[.agg ST.toArray, .agg NQ.toArray] u fun e w' => Hid (e = .returned (.agg XQ.toArray) ∧ Below u.heap.size u w')) := fun u => by
          rw [HST.out, HNQ.out, HXQ.out]; exact (Fd.xor_ok _ _ u).mono fun e w' hh => hh
        have HEN2 : Hid (∀ u, KeyAt u g nr K → u.cell? ⟨sh, 4, none⟩ = some (.pointer (some ⟨g, 0, none⟩)) → Calls Tryz.prog 148 #[.pointer (some ⟨sh, 0, none⟩), .agg XQ.toArray] u fun e w' => Hid (e = .returned (.agg EQ.toArray) ∧ KeyAt w' g nr K ∧ u.grownBy w' (some g))) := fun u hu hc => by
          rw [HXQ.out, HEQ.out, HE.out, Hst.out]; exact encrypt_ok sh g nr K _ u N1.out hc hu
        have HLQ : Hid (EQ.length = 16 ∧ (∀ x ∈ EQ, x.oneCell' = true)) := by rw [HEQ.out]; exact ⟨Fd.BL_length _, BL_one8 _⟩
        have hiT : (Tryz.prog.info? 29).map (·.size) = some ST.length := by rw [HLN.out.1]; kernel_rfl
        rw [HQ1.out]
        have HRC : Hid (CtI g nr K sh fn M ST b7 E zs w wr (.slice (some ⟨y, 0, none⟩) m d) m ∧ y ≠ b7) := ⟨HR.out.2.2.2, HR.out.2.2.1⟩
        clear HR hmn hm16 hlt
        go_upto_region 6 with fail
        go_cut [10] from 21 to 56 (fun vb wx => ∃ b : Nat, vb = .pointer (some ⟨b, 0, none⟩) ∧ Hid (CtI g nr K sh fn M ST b7 E zs w wx (.slice (some ⟨y, 0, none⟩) m d) m ∧ Bx wx b 29 EQ ∧ b7 < b ∧ y < b ∧ w.heap.size ≤ b))
        case first =>
          have HS0 : Hid (CtI g nr K sh fn M ST b7 E zs w wr.drew (.slice (some ⟨y, 0, none⟩) m d) m) := HRC.out.1.below (Below.refl _ _).drew
          have hS0 : wr.drew.cell? ⟨M, 0, none⟩ = some (.pointer (some ⟨sh, 0, none⟩)) ∧ wr.drew.rangeAt b7 0 ST := ⟨HS0.out.hc.box.cell 0 _ rfl, HS0.out.st.range⟩
          refine wp_region_noPanic ?_
          refine wp_region_held_drew (S := (fun u => u.cell? ⟨M, 0, none⟩ = some (.pointer (some ⟨sh, 0, none⟩)) ∧ u.rangeAt b7 0 ST)) (by kernel_rfl) (hS0) (fun _ => ?_)
          refine tH 0 28 (.pointer (some ⟨M, 0, none⟩)) rfl rfl (by kernel_rfl) (hS0) (Or.inl ⟨by rfl, fun w' hS' => by first | go_simp | (obtain ⟨c1, c2⟩ := hS'; go_simp) | (obtain ⟨c1, c2, c3⟩ := hS'; go_simp)⟩) ?_
          try simp only [pU]
          refine tH 1 29 (.pointer (some ⟨sh, 0, none⟩)) rfl rfl (by kernel_rfl) (hS0) (Or.inl ⟨by rfl, fun w' hS' => by first | go_simp | (obtain ⟨c1, c2⟩ := hS'; go_simp) | (obtain ⟨c1, c2, c3⟩ := hS'; go_simp)⟩) ?_
          try simp only [pU]
          refine tH 2 30 (.agg ST.toArray) rfl rfl (by kernel_rfl) (hS0) (yieldsIf_load_mid (by rfl) 29 (.tmp 7) rfl b7 0 rfl ST _ (fun u hu => hu.2) Tryz.underlying29 rfl hiT) ?_
          try simp only [pU]
          refine tH 3 31 (.int .u64 (Q1 : Nat)) rfl rfl (by kernel_rfl) (hS0) (Or.inl ⟨by rfl, fun w' hS' => by first | go_simp | (obtain ⟨c1, c2⟩ := hS'; go_simp) | (obtain ⟨c1, c2, c3⟩ := hS'; go_simp)⟩) ?_
          try simp only [pU]
          refine wpAnyH_ready (rs := [4, 7]) (by kernel_rfl) (by simp) ?_
          refine AllReadyH.cons rfl (fun KK hK => ?_) (AllReadyH.cons rfl (fun KK hK => ?_) AllReadyH.nil)
          · skip
            go_simp
            refine (HL1.out _).mono ?_
            intro e w24 hh
            obtain ⟨rfl, hb⟩ := hh.out
            have HS24 : Hid (CtI g nr K sh fn M ST b7 E zs w w24 (.slice (some ⟨y, 0, none⟩) m d) m) := HS0.out.below hb
            clear hh hb
            go_wp2_with fail
            refine hK.out _ _ (⟨HS24.out.hc.box.cell 0 _ rfl, HS24.out.st.range⟩) (fun _ => ?_)
            clear hK KK
            try simp only [pU]
            refine wpAnyH_ready (rs := [5, 7]) (by kernel_rfl) (by simp) ?_
            refine AllReadyH.cons rfl (fun KK hK => ?_) (AllReadyH.cons rfl (fun KK hK => ?_) AllReadyH.nil)
            · skip
              go_simp
              refine (HX2.out _).mono ?_
              intro e w25 hh
              obtain ⟨rfl, hb⟩ := hh.out
              have HS25 : Hid (CtI g nr K sh fn M ST b7 E zs w w25 (.slice (some ⟨y, 0, none⟩) m d) m) := HS24.out.below hb
              clear hh hb
              go_wp2_with fail
              refine hK.out _ _ (⟨HS25.out.hc.box.cell 0 _ rfl, HS25.out.st.range⟩) (fun _ => ?_)
              clear hK KK
              try simp only [pU]
              refine wpAnyH_ready (rs := [6, 7]) (by kernel_rfl) (by simp) ?_
              refine AllReadyH.cons rfl (fun KK hK => ?_) (AllReadyH.cons rfl (fun KK hK => ?_) AllReadyH.nil)
              · skip
                go_simp
                refine (HEN2.out _ HS25.out.hc.key HS25.out.hc.csh).mono ?_
                intro e w26 hh
                obtain ⟨rfl, hk, hg⟩ := hh.out
                have HS26 : Hid (CtI g nr K sh fn M ST b7 E zs w w26 (.slice (some ⟨y, 0, none⟩) m d) m) := HS25.out.enc hk hg
                clear hh hk hg
                go_wp2_with fail
                refine hK.out _ _ (⟨HS26.out.hc.box.cell 0 _ rfl, HS26.out.st.range⟩) (fun _ => ?_)
                clear hK KK
                try simp only [pU]
                refine wpAnyH_ready (rs := [7]) (by kernel_rfl) (by simp) ?_
                refine AllReadyH.cons rfl (fun KK hK => ?_) AllReadyH.nil
                refine step_alloc29 rfl 10 rfl rfl ?_
                intro w27 b27 hu hb
                have HS27 : Hid (CtI g nr K sh fn M ST b7 E zs w w27 (.slice (some ⟨y, 0, none⟩) m d) m) := by rw [hu.out]; exact HS26.out.below ((Below.refl _ _).alloc (Nat.le_refl _) _)
                have HZ27 : Hid (Bx w27 b27 29 ZZ ∧ b7 < b27 ∧ y < b27 ∧ w.heap.size ≤ b27) := by rw [hu.out, hb.out]; exact ⟨Bx.new _ 29 ZZ, HS26.out.st.lt, (ownsRow_lt HS26.out.own rfl).2, HS26.out.hc.gb.size⟩
                clear hu hb
                refine hK.out _ _ (⟨HS27.out.hc.box.cell 0 _ rfl, HS27.out.st.range⟩) (fun _ => ?_)
                clear hK KK
                try simp only [pU]
                refine wpAnyH_ready (rs := [8]) (by kernel_rfl) (by simp) ?_
                refine AllReadyH.cons rfl (fun KK hK => ?_) AllReadyH.nil
                refine step_store_bx rfl 29 (.tmp 10) (.tmp 34) rfl ZZ EQ b27 rfl rfl HZ27.out.1 (by rw [HLQ.out.1]; rfl) (by rw [HLQ.out.1]; kernel_rfl) HLQ.out.2 ?_
                intro u9 HB9 HG9
                have H9 : Hid (CtI g nr K sh fn M ST b7 E zs w u9 (.slice (some ⟨y, 0, none⟩) m d) m) := HS27.out.put HG9.out HZ27.out.2.1 (fun z e => by injection e with e; subst e; exact HZ27.out.2.2.1)
                refine hK.out _ _ (⟨H9.out.hc.box.cell 0 _ rfl, H9.out.st.range⟩) (fun _ => ?_)
                clear hK KK
                try simp only [pU]
                refine wpAnyH_done (by kernel_rfl) ?_ _
                refine NoPanic.normal ?_
                go_wp2_with fail
                go_meet
                exact ⟨b27, rfl, H9.out, HB9.out, HZ27.out.2⟩
              · skip
                refine step_alloc29 rfl 10 rfl rfl ?_
                intro w28 b28 hu hb
                have HS28 : Hid (CtI g nr K sh fn M ST b7 E zs w w28 (.slice (some ⟨y, 0, none⟩) m d) m) := by rw [hu.out]; exact HS25.out.below ((Below.refl _ _).alloc (Nat.le_refl _) _)
                have HZ28 : Hid (Bx w28 b28 29 ZZ ∧ b7 < b28 ∧ y < b28 ∧ w.heap.size ≤ b28) := by rw [hu.out, hb.out]; exact ⟨Bx.new _ 29 ZZ, HS25.out.st.lt, (ownsRow_lt HS25.out.own rfl).2, HS25.out.hc.gb.size⟩
                clear hu hb
                refine hK.out _ _ (⟨HS28.out.hc.box.cell 0 _ rfl, HS28.out.st.range⟩) (fun _ => ?_)
                clear hK KK
                try simp only [pU]
                refine wpAnyH_ready (rs := [6]) (by kernel_rfl) (by simp) ?_
                refine AllReadyH.cons rfl (fun KK hK => ?_) AllReadyH.nil
                go_simp
                refine (HEN2.out _ HS28.out.hc.key HS28.out.hc.csh).mono ?_
                intro e w29 hh
                obtain ⟨rfl, hk, hg⟩ := hh.out
                have HS29 : Hid (CtI g nr K sh fn M ST b7 E zs w w29 (.slice (some ⟨y, 0, none⟩) m d) m) := HS28.out.enc hk hg
                have HZ29 : Hid (Bx w29 b28 29 ZZ ∧ b7 < b28 ∧ y < b28 ∧ w.heap.size ≤ b28) := ⟨HS28.out.hc.bx HZ28.out.1 HZ28.out.2.2.2 hg, HZ28.out.2⟩
                clear hh hk hg
                go_wp2_with fail
                refine hK.out _ _ (⟨HS29.out.hc.box.cell 0 _ rfl, HS29.out.st.range⟩) (fun _ => ?_)
                clear hK KK
                try simp only [pU]
                refine wpAnyH_ready (rs := [8]) (by kernel_rfl) (by simp) ?_
                refine AllReadyH.cons rfl (fun KK hK => ?_) AllReadyH.nil
                refine step_store_bx rfl 29 (.tmp 10) (.tmp 34) rfl ZZ EQ b28 rfl rfl HZ29.out.1 (by rw [HLQ.out.1]; rfl) (by rw [HLQ.out.1]; kernel_rfl) HLQ.out.2 ?_
                intro u9 HB9 HG9
                have H9 : Hid (CtI g nr K sh fn M ST b7 E zs w u9 (.slice (some ⟨y, 0, none⟩) m d) m) := HS29.out.put HG9.out HZ29.out.2.1 (fun z e => by injection e with e; subst e; exact HZ29.out.2.2.1)
                refine hK.out _ _ (⟨H9.out.hc.box.cell 0 _ rfl, H9.out.st.range⟩) (fun _ => ?_)
                clear hK KK
                try simp only [pU]
                refine wpAnyH_done (by kernel_rfl) ?_ _
                refine NoPanic.normal ?_
                go_wp2_with fail
                go_meet
                exact ⟨b28, rfl, H9.out, HB9.out, HZ29.out.2⟩
            · skip
              refine step_alloc29 rfl 10 rfl rfl ?_
              intro w30 b30 hu hb
              have HS30 : Hid (CtI g nr K sh fn M ST b7 E zs w w30 (.slice (some ⟨y, 0, none⟩) m d) m) := by rw [hu.out]; exact HS24.out.below ((Below.refl _ _).alloc (Nat.le_refl _) _)
              have HZ30 : Hid (Bx w30 b30 29 ZZ ∧ b7 < b30 ∧ y < b30 ∧ w.heap.size ≤ b30) := by rw [hu.out, hb.out]; exact ⟨Bx.new _ 29 ZZ, HS24.out.st.lt, (ownsRow_lt HS24.out.own rfl).2, HS24.out.hc.gb.size⟩
              clear hu hb
              refine hK.out _ _ (⟨HS30.out.hc.box.cell 0 _ rfl, HS30.out.st.range⟩) (fun _ => ?_)
              clear hK KK
              try simp only [pU]
              refine wpAnyH_ready (rs := [5]) (by kernel_rfl) (by simp) ?_
              refine AllReadyH.cons rfl (fun KK hK => ?_) AllReadyH.nil
              go_simp
              refine (HX2.out _).mono ?_
              intro e w31 hh
              obtain ⟨rfl, hb⟩ := hh.out
              have HS31 : Hid (CtI g nr K sh fn M ST b7 E zs w w31 (.slice (some ⟨y, 0, none⟩) m d) m) := HS30.out.below hb
              have HZ31 : Hid (Bx w31 b30 29 ZZ ∧ b7 < b30 ∧ y < b30 ∧ w.heap.size ≤ b30) := ⟨HZ30.out.1.below hb, HZ30.out.2⟩
              clear hh hb
              go_wp2_with fail
              refine hK.out _ _ (⟨HS31.out.hc.box.cell 0 _ rfl, HS31.out.st.range⟩) (fun _ => ?_)
              clear hK KK
              try simp only [pU]
              refine wpAnyH_ready (rs := [6]) (by kernel_rfl) (by simp) ?_
              refine AllReadyH.cons rfl (fun KK hK => ?_) AllReadyH.nil
              go_simp
              refine (HEN2.out _ HS31.out.hc.key HS31.out.hc.csh).mono ?_
              intro e w32 hh
              obtain ⟨rfl, hk, hg⟩ := hh.out
              have HS32 : Hid (CtI g nr K sh fn M ST b7 E zs w w32 (.slice (some ⟨y, 0, none⟩) m d) m) := HS31.out.enc hk hg
              have HZ32 : Hid (Bx w32 b30 29 ZZ ∧ b7 < b30 ∧ y < b30 ∧ w.heap.size ≤ b30) := ⟨HS31.out.hc.bx HZ31.out.1 HZ31.out.2.2.2 hg, HZ31.out.2⟩
              clear hh hk hg
              go_wp2_with fail
              refine hK.out _ _ (⟨HS32.out.hc.box.cell 0 _ rfl, HS32.out.st.range⟩) (fun _ => ?_)
              clear hK KK
              try simp only [pU]
              refine wpAnyH_ready (rs := [8]) (by kernel_rfl) (by simp) ?_
              refine AllReadyH.cons rfl (fun KK hK => ?_) AllReadyH.nil
              refine step_store_bx rfl 29 (.tmp 10) (.tmp 34) rfl ZZ EQ b30 rfl rfl HZ32.out.1 (by rw [HLQ.out.1]; rfl) (by rw [HLQ.out.1]; kernel_rfl) HLQ.out.2 ?_
              intro u9 HB9 HG9
              have H9 : Hid (CtI g nr K sh fn M ST b7 E zs w u9 (.slice (some ⟨y, 0, none⟩) m d) m) := HS32.out.put HG9.out HZ32.out.2.1 (fun z e => by injection e with e; subst e; exact HZ32.out.2.2.1)
              refine hK.out _ _ (⟨H9.out.hc.box.cell 0 _ rfl, H9.out.st.range⟩) (fun _ => ?_)
              clear hK KK
              try simp only [pU]
              refine wpAnyH_done (by kernel_rfl) ?_ _
              refine NoPanic.normal ?_
              go_wp2_with fail
              go_meet
              exact ⟨b30, rfl, H9.out, HB9.out, HZ32.out.2⟩
          · skip
            refine step_alloc29 rfl 10 rfl rfl ?_
            intro w33 b33 hu hb
            have HS33 : Hid (CtI g nr K sh fn M ST b7 E zs w w33 (.slice (some ⟨y, 0, none⟩) m d) m) := by rw [hu.out]; exact HS0.out.below ((Below.refl _ _).alloc (Nat.le_refl _) _)
            have HZ33 : Hid (Bx w33 b33 29 ZZ ∧ b7 < b33 ∧ y < b33 ∧ w.heap.size ≤ b33) := by rw [hu.out, hb.out]; exact ⟨Bx.new _ 29 ZZ, HS0.out.st.lt, (ownsRow_lt HS0.out.own rfl).2, HS0.out.hc.gb.size⟩
            clear hu hb
            refine hK.out _ _ (⟨HS33.out.hc.box.cell 0 _ rfl, HS33.out.st.range⟩) (fun _ => ?_)
            clear hK KK
            try simp only [pU]
            refine wpAnyH_ready (rs := [4]) (by kernel_rfl) (by simp) ?_
            refine AllReadyH.cons rfl (fun KK hK => ?_) AllReadyH.nil
            go_simp
            refine (HL1.out _).mono ?_
            intro e w34 hh
            obtain ⟨rfl, hb⟩ := hh.out
            have HS34 : Hid (CtI g nr K sh fn M ST b7 E zs w w34 (.slice (some ⟨y, 0, none⟩) m d) m) := HS33.out.below hb
            have HZ34 : Hid (Bx w34 b33 29 ZZ ∧ b7 < b33 ∧ y < b33 ∧ w.heap.size ≤ b33) := ⟨HZ33.out.1.below hb, HZ33.out.2⟩
            clear hh hb
            go_wp2_with fail
            refine hK.out _ _ (⟨HS34.out.hc.box.cell 0 _ rfl, HS34.out.st.range⟩) (fun _ => ?_)
            clear hK KK
            try simp only [pU]
            refine wpAnyH_ready (rs := [5]) (by kernel_rfl) (by simp) ?_
            refine AllReadyH.cons rfl (fun KK hK => ?_) AllReadyH.nil
            go_simp
            refine (HX2.out _).mono ?_
            intro e w35 hh
            obtain ⟨rfl, hb⟩ := hh.out
            have HS35 : Hid (CtI g nr K sh fn M ST b7 E zs w w35 (.slice (some ⟨y, 0, none⟩) m d) m) := HS34.out.below hb
            have HZ35 : Hid (Bx w35 b33 29 ZZ ∧ b7 < b33 ∧ y < b33 ∧ w.heap.size ≤ b33) := ⟨HZ34.out.1.below hb, HZ34.out.2⟩
            clear hh hb
            go_wp2_with fail
            refine hK.out _ _ (⟨HS35.out.hc.box.cell 0 _ rfl, HS35.out.st.range⟩) (fun _ => ?_)
            clear hK KK
            try simp only [pU]
            refine wpAnyH_ready (rs := [6]) (by kernel_rfl) (by simp) ?_
            refine AllReadyH.cons rfl (fun KK hK => ?_) AllReadyH.nil
            go_simp
            refine (HEN2.out _ HS35.out.hc.key HS35.out.hc.csh).mono ?_
            intro e w36 hh
            obtain ⟨rfl, hk, hg⟩ := hh.out
            have HS36 : Hid (CtI g nr K sh fn M ST b7 E zs w w36 (.slice (some ⟨y, 0, none⟩) m d) m) := HS35.out.enc hk hg
            have HZ36 : Hid (Bx w36 b33 29 ZZ ∧ b7 < b33 ∧ y < b33 ∧ w.heap.size ≤ b33) := ⟨HS35.out.hc.bx HZ35.out.1 HZ35.out.2.2.2 hg, HZ35.out.2⟩
            clear hh hk hg
            go_wp2_with fail
            refine hK.out _ _ (⟨HS36.out.hc.box.cell 0 _ rfl, HS36.out.st.range⟩) (fun _ => ?_)
            clear hK KK
            try simp only [pU]
            refine wpAnyH_ready (rs := [8]) (by kernel_rfl) (by simp) ?_
            refine AllReadyH.cons rfl (fun KK hK => ?_) AllReadyH.nil
            refine step_store_bx rfl 29 (.tmp 10) (.tmp 34) rfl ZZ EQ b33 rfl rfl HZ36.out.1 (by rw [HLQ.out.1]; rfl) (by rw [HLQ.out.1]; kernel_rfl) HLQ.out.2 ?_
            intro u9 HB9 HG9
            have H9 : Hid (CtI g nr K sh fn M ST b7 E zs w u9 (.slice (some ⟨y, 0, none⟩) m d) m) := HS36.out.put HG9.out HZ36.out.2.1 (fun z e => by injection e with e; subst e; exact HZ36.out.2.2.1)
            refine hK.out _ _ (⟨H9.out.hc.box.cell 0 _ rfl, H9.out.st.range⟩) (fun _ => ?_)
            clear hK KK
            try simp only [pU]
            refine wpAnyH_done (by kernel_rfl) ?_ _
            refine NoPanic.normal ?_
            go_wp2_with fail
            go_meet
            exact ⟨b33, rfl, H9.out, HB9.out, HZ36.out.2⟩
        case rest =>
          obtain ⟨b10, rfl, HR6⟩ := hcut
          obtain ⟨D, HD⟩ : ∃ D : Nat, Hid (n - m = D) := ⟨_, rfl⟩
          have HDD : Hid (D = n - 16 * q ∧ m = 16 * q ∧ 16 * q < n ∧ n ≤ 4096) := ⟨by rw [← HD.out, HMQ.out.1], HMQ.out.1, HMQ.out.2, HN.out.1⟩
          have ed : IntKind.i64.wrap ((n : Int) - (m : Int)) = (D : Int) := by have := HDD.out; rw [IntKind.wrap_i64]; omega
          have ed2 : wrap64 ((n : Int) - (m : Int)) = (D : Int) := by have := HDD.out; unfold wrap64; omega
          have ed3 : (n : Int) - (m : Int) = (D : Int) := by have := HDD.out; omega
          obtain ⟨r, HRr⟩ : ∃ r : Nat, Hid (r = min 16 (n - 16 * q)) := ⟨_, rfl⟩
          have HNX : Hid (16 * q + r = min (16 * (q + 1)) n ∧ r ≤ 16 ∧ 0 < r ∧ 16 * (q + 1) < n + 16) := ct_next q n r HRr.out HMQ.out.2 HN.out.1
          have ed4 : wrap64 (D : Int) = (D : Int) := by have := HDD.out; unfold wrap64; omega
          have hmin : min (16 : Int) (D : Int) = (r : Int) := by
            have e1 := HDD.out.1
            have e2 := HRr.out
            rw [← e1] at e2
            rw [e2]
            rcases Nat.le_total 16 D with h | h
            · rw [Nat.min_eq_left h, Int.min_eq_left (by omega)]; rfl
            · rw [Nat.min_eq_right h, Int.min_eq_right (by omega)]
          go_upto_region 8 with fail
          simp only [ed4]
          go_loopw [8, 41] (fun v vi wr => ∃ i y' d' : Nat, vi = .int .i64 (i : Nat) ∧ v = .slice (some ⟨y', 0, none⟩) (m + i) d' ∧ i ≤ r ∧ Hid (y' ≠ b7 ∧ y' ≠ b10 ∧ CtI g nr K sh fn M ST b7 E zs w wr (.slice (some ⟨y', 0, none⟩) (m + i) d') (m + i) ∧ Bx wr b10 29 EQ)) (fun _ vi _ => r - (intOf vi).toNat)
          case atStart => exact ⟨0, y, d, rfl, rfl, Nat.zero_le _, HRC.out.2, Nat.ne_of_lt HR6.out.2.2.2.1, HR6.out.1, HR6.out.2.1⟩
          case round =>
           as_aux_lemma =>
            obtain ⟨i, y', d', rfl, rfl, hi, HR⟩ := hrel
            by_cases hir : i < r
            · have HIR : Hid (i < r) := hir
              obtain ⟨lb, lo, rfl, hlg, hlw, hcell⟩ := HV.out.resolve_left (ct_pos HDD.out)
              obtain ⟨p, HP⟩ : ∃ p, Hid (m + i = p) := ⟨_, rfl⟩
              rw [HP.out] at HR
              simp only [HP.out]
              have HPN : Hid (p < n ∧ p / 16 = q ∧ p % 16 = i ∧ i < 16 ∧ p ≤ 4096 ∧ p + 1 ≤ maxLen ∧ (p + 1) * 1 ≤ 140737488355328 ∧ i + 1 ≤ r ∧ m + (i + 1) = p + 1) := ct_in q n m r i p D HRr.out HDD.out hir HP.out
              obtain ⟨x, HXx⟩ : ∃ x : Nat, Hid (nat8 zs p = x) := ⟨_, rfl⟩
              obtain ⟨yb, HYb⟩ : ∃ x : Nat, Hid (Fd.byV (E q) i = x) := ⟨_, rfl⟩
              obtain ⟨z, HZz⟩ : ∃ z : Nat, Hid (x ^^^ yb = z) := ⟨_, rfl⟩
              have hxr : bits .xor .u8 (x : Int) (yb : Int) = (z : Int) := by rw [← HZz.out, ← HXx.out, ← HYb.out]; exact Fd.xor8 _ _ (nat8_lt HN.out.2.2.2 _) (Fd.byV_lt _ _)
              have HCZ : Hid (ctZ E zs p = (z : Int)) := by show _ = _; unfold ctZ; rw [HPN.out.2.1, HPN.out.2.2.1, HXx.out, HYb.out, HZz.out]
              have HRd : Hid (CtI g nr K sh fn M ST b7 E zs w wr.drew (.slice (some ⟨y', 0, none⟩) p d') p ∧ Bx wr.drew b10 29 EQ) := ⟨HR.out.2.2.1.below (Below.refl _ _).drew, HR.out.2.2.2.below (Below.refl _ _).drew⟩
              have HLB : Hid (∀ u, HcI g nr K sh fn M w u → u.cell? ⟨lb, lo + p, none⟩ = some (.int .u8 (x : Nat))) := fun u hu => by
                rw [World.cell?_of_block (a := ⟨lb, lo + p, none⟩) (hu.gb.block lb hlw (fun e => hlg (by injection e))), hcell p HPN.out.1, ← HXx.out, nat8_eq HN.out.2.2.2]
              have HBE : Hid (∀ u, Bx u b10 29 EQ → u.cell? ⟨b10, i, none⟩ = some (.int .u8 (yb : Nat))) := fun u hu => by
                have e := Fd.BL_at (E q) i HPN.out.2.2.2.1
                rw [HYb.out] at e
                rw [HEQ.out] at hu
                exact hu.cell i _ e
              have hS0 : wr.drew.cell? ⟨lb, lo + p, none⟩ = some (.int .u8 (x : Nat)) ∧ wr.drew.cell? ⟨b10, i, none⟩ = some (.int .u8 (yb : Nat)) := ⟨HLB.out _ HRd.out.1.hc, HBE.out _ HRd.out.2⟩
              have hAL : Below wr.drew.heap.size wr.drew (wr.drew.alloc (.cells #[.int .u8 (z : Nat)] 5)) := (Below.refl _ _).alloc (Nat.le_refl _) _
              obtain ⟨k1, k0, k2, k3, g2, ei, ei2⟩ := ct_int p n i r HPN.out.1 HPN.out.2.2.2.1 hir
              clear hlg hlw hcell
              have HBS : Hid (∀ u : World, (Instr.buildSlice 24 1 #[(0, .int .u8 (z : Nat))]).run Tryz.prog u = .ok (.slice (some ⟨u.heap.size, 0, none⟩) 1 1) (u.alloc (.cells #[.int .u8 (z : Nat)] 5))) := fun u => bs5 u _
              have HAF : Hid (p + 1 ≤ maxLen ∧ (p + 1) * 1 ≤ 140737488355328) := ⟨HPN.out.2.2.2.2.2.1, HPN.out.2.2.2.2.2.2.1⟩
              go_upto_region 10 with fail
              refine wp_region_noPanic ?_
              refine wp_region_held_drew (S := (fun u => u.cell? ⟨lb, lo + p, none⟩ = some (.int .u8 (x : Nat)) ∧ u.cell? ⟨b10, i, none⟩ = some (.int .u8 (yb : Nat)))) (by kernel_rfl) (hS0) (fun _ => ?_)
              refine tH 0 44 (.slice (some ⟨y', 0, none⟩) p d') rfl rfl (by kernel_rfl) (hS0) (Or.inl ⟨by rfl, fun w' hS' => by obtain ⟨c1, c2⟩ := hS'; go_simp⟩) ?_
              try simp only [pU]
              refine tH 1 45 (.slice (some ⟨lb, lo, none⟩) n c) rfl rfl (by kernel_rfl) (hS0) (Or.inl ⟨by rfl, fun w' hS' => by obtain ⟨c1, c2⟩ := hS'; go_simp⟩) ?_
              try simp only [pU]
              refine tH 2 46 (.slice (some ⟨y', 0, none⟩) p d') rfl rfl (by kernel_rfl) (hS0) (Or.inl ⟨by rfl, fun w' hS' => by obtain ⟨c1, c2⟩ := hS'; go_simp⟩) ?_
              try simp only [pU]
              refine tH 3 47 (.int .i64 (p : Nat)) rfl rfl (by kernel_rfl) (hS0) (Or.inl ⟨by rfl, fun w' hS' => by obtain ⟨c1, c2⟩ := hS'; go_simp⟩) ?_
              try simp only [pU]
              refine tH 4 48 (.pointer (some ⟨lb, lo + p, none⟩)) rfl rfl (by kernel_rfl) (hS0) (Or.inl ⟨by rfl, fun w' hS' => by obtain ⟨c1, c2⟩ := hS'; go_simp⟩) ?_
              try simp only [pU]
              refine tH 5 49 (.int .u8 (x : Nat)) rfl rfl (by kernel_rfl) (hS0) (Or.inl ⟨by rfl, fun w' hS' => by obtain ⟨c1, c2⟩ := hS'; go_simp⟩) ?_
              try simp only [pU]
              refine tH 6 50 (.int .i64 (i : Nat)) rfl rfl (by kernel_rfl) (hS0) (Or.inl ⟨by rfl, fun w' hS' => by obtain ⟨c1, c2⟩ := hS'; go_simp⟩) ?_
              try simp only [pU]
              refine tH 7 51 (.pointer (some ⟨b10, i, none⟩)) rfl rfl (by kernel_rfl) (hS0) (Or.inl ⟨by rfl, fun w' hS' => by obtain ⟨c1, c2⟩ := hS'; go_simp⟩) ?_
              try simp only [pU]
              refine tH 8 52 (.int .u8 (yb : Nat)) rfl rfl (by kernel_rfl) (hS0) (Or.inl ⟨by rfl, fun w' hS' => by obtain ⟨c1, c2⟩ := hS'; go_simp⟩) ?_
              try simp only [pU]
              refine tH 9 53 (.int .u8 (z : Nat)) rfl rfl (by kernel_rfl) (hS0) (Or.inl ⟨by rfl, fun w' hS' => by obtain ⟨c1, c2⟩ := hS'; go_simp⟩) ?_
              try simp only [pU]
              refine wpAnyH_ready (rs := [10]) (by kernel_rfl) (by simp) ?_
              refine AllReadyH.cons rfl (fun KK hK => ?_) AllReadyH.nil
              refine step_bs rfl 54 rfl 24 5 1 #[(0, .tmp 53)] rfl #[(0, .int .u8 (z : Nat))] (by simp [Act.eval]) #[.int .u8 (z : Nat)] HBS.out ?_
              refine hK.out _ _ (⟨(hAL.cell (World.block_lt_of_cell? _ _ hS0.1)).trans hS0.1, (hAL.cell (World.block_lt_of_cell? _ _ hS0.2)).trans hS0.2⟩) (fun _ => ?_)
              clear hK KK
              try simp only [pU]
              refine wpAnyH_ready (rs := [11]) (by kernel_rfl) (by simp) ?_
              refine AllReadyH.cons rfl (fun KK hK => ?_) AllReadyH.nil
              refine step_append_own rfl (.tmp 44) (.tmp 54) 24 rfl (M + 2) 5 i0 (.int .u8 0) 1 1 Tryz.underlying24 HI0.out.1 HI0.out.2.1 HI0.out.2.2.1 HI0.out.2.2.2 rfl (by decide) (.slice (some ⟨y', 0, none⟩) p d') p (cellsU8 (ctL E zs p)) rfl (ownsRow_below HRd.out.1.own ((Below.refl _ _).alloc (Nat.le_refl _) _)) ⟨wr.drew.heap.size, 0, none⟩ 1 1 [.int .u8 (z : Nat)] rfl rfl (fun j u hj => by rw [Addr.add_mid]; exact (Bx.new wr.drew 5 [.int .u8 (z : Nat)]).range j u hj) (one_u8 _) HAF.out.1 HAF.out.2 (ct_base HRd.out.1.bg) ?_
              intro v2 w2 HO2 HG2
              have hne7 : ∀ yy, (Value.slice (some ⟨y', 0, none⟩) p d').ownBlock = some yy → yy ≠ b7 := fun yy e => by injection e with e; subst e; exact HR.out.1
              have HX2 : Hid (CtI g nr K sh fn M ST b7 E zs w w2 v2 (p + 1) ∧ Bx w2 b10 29 EQ) := ⟨HRd.out.1.app _ HCZ.out HO2.out HG2.out hne7, (HRd.out.2.below ((Below.refl _ _).alloc (Nat.le_refl _) _)).keep (HG2.out.block b10 (ct_lt HRd.out.2.lt) (fun e => by injection e with e; exact HR.out.2.1 e.symm))⟩
              clear hne7 HO2 HG2
              refine hK.out _ _ (⟨HLB.out _ HX2.out.1.hc, HBE.out _ HX2.out.2⟩) (fun _ => ?_)
              clear hK KK
              try simp only [pU]
              refine wpAnyH_ready (rs := [12]) (by kernel_rfl) (by simp) ?_
              refine AllReadyH.cons rfl (fun KK hK => ?_) AllReadyH.nil
              rw [if_pos (by rfl)]
              go_simp
              refine hK.out _ _ (⟨HLB.out _ HX2.out.1.hc, HBE.out _ HX2.out.2⟩) (fun _ => ?_)
              clear hK KK
              try simp only [pU]
              refine wpAnyH_done (by kernel_rfl) ?_ _
              refine NoPanic.normal ?_
              skip
              obtain ⟨y2, d2, rfl⟩ : ∃ y2 d2, v2 = .slice (some ⟨y2, 0, none⟩) (p + 1) d2 := by
                rcases HX2.out.1.own.2 with ⟨_, q⟩ | ⟨g, c, _, q, _⟩
                · omega
                · exact ⟨g, c, q⟩
              have HYY : Hid (y2 ≠ b7 ∧ y2 ≠ b10) := by
                obtain ⟨cur, hc⟩ := own_type HX2.out.1.own (g := y2) rfl
                exact ⟨type_ne hc HX2.out.1.st (by decide), type_ne hc HX2.out.2 (by decide)⟩
              go_wp2
              go_roundw
              case rel => exact ⟨i + 1, y2, d2, by first | rfl | simp, by rw [HPN.out.2.2.2.2.2.2.2.2], HPN.out.2.2.2.2.2.2.2.1, HYY.out.1, HYY.out.2, by rw [HPN.out.2.2.2.2.2.2.2.2]; exact HX2.out.1, HX2.out.2⟩
              case measure => first | exact meas_i i r HIR.out | (simpa using meas_i i r HIR.out)
            · have HIR : Hid (i = r) := (by omega : i = r)
              have g2 : ¬ (i : Int) < (r : Int) := by omega
              have eq1 : IntKind.u64.wrap ((Q1 : Int) + 1) = ((q + 1 + 1 : Nat) : Int) := by rw [← HQ1.out, show ((q + 1 : Nat) : Int) + 1 = ((q + 1 + 1 : Nat) : Int) by omega]; exact wrap_u64_nat _ (by omega)
              have HFE : Hid (m + i = min (16 * (q + 1)) n ∧ 16 * (q + 1) < n + 16) := ⟨by rw [HIR.out, HDD.out.2.1]; exact HNX.out.1, HNX.out.2.2.2⟩
              have HMS : Hid (300 - (intOf (.int .u64 ((q : Int) + 1 + 1))).toNat < 300 - (intOf (.int .u64 (Q1 : Int))).toNat) := by have := HQ1.out; simp only [intOf]; show _ < _; omega
              go_wp2
              exact ⟨⟨q + 1, m + i, y', d', by simp, rfl, HFE.out.1, HFE.out.2, HR.out.1, HR.out.2.2.1⟩, HMS.out⟩
      · have g1 : ¬ (m : Int) < (n : Int) := by omega
        have HF : Hid (CtI g nr K sh fn M ST b7 E zs w wr (.slice (some ⟨y, 0, none⟩) n d) n) := by
          have := HR.out.2.2.2
          rw [show m = n by omega] at this
          exact this
        have HMN : Hid (m = n) := (by omega : m = n)
        clear HR
        go_wp2
        go_ret
        have hh := HF.out
        refine ⟨y, d, by rw [HMN.out]; rfl, ?_, hh.hc.key, hh.hc.gb⟩
        have ho := hh.own
        exact ⟨ho.1, ho.2.imp id fun ⟨g', cap, cur, z1, z2, z3⟩ => ⟨g', cap, cur, z1, by have := hh.hc.hM; omega, z3⟩⟩
end Go.Proofs.YtcnikfikpnnblaaGreatDoor
