import Derived.Test.YtgmfiljjogdccabGreatDoorPart00
import Derived.Test.YtgmfiljjogdccabGreatDoorPart29
import Derived.Test.YtgmfiljjogdccabGreatDoorPart28
import Derived.Test.YtgmfiljjogdccabGreatDoorXor
namespace Go.Proofs.YtgmfiljjogdccabGreatDoor
open Go.RowKit
set_option linter.unusedVariables false
theorem rskip_nil (m : Nat) (w : World) : Calls Tryz.prog 18 #[.pointer none, .int .u64 (m : Nat)] w fun e w' => e = .returned (.int .i64 1) ∧ w' = w := by
 go_enter Tryz.func18, Tryz.ntmps18
 go_wp2
 go_ret
 exact ⟨rfl, rfl⟩
theorem rskip_gone (t g n m : Nat) (s0 : W4) (w : World) (hs : StreamAt w t g s0 n) (hw : w.cell? ⟨g, 4610, none⟩ = some (.bool true)) : Calls Tryz.prog 18 #[.pointer (some ⟨t, 0, none⟩), .int .u64 (m : Nat)] w fun e w' => e = .returned (.int .i64 21) ∧ w' = w := by
 have ck := hs.key
 clear hs
 go_enter Tryz.func18, Tryz.ntmps18
 go_wp2
 go_ret
 exact ⟨rfl, rfl⟩
theorem rskip_long (t g n m : Nat) (s0 : W4) (w : World) (hs : StreamAt w t g s0 n) (hw : w.cell? ⟨g, 4610, none⟩ = some (.bool false)) (hm : 1099511627776 < n + m) : Calls Tryz.prog 18 #[.pointer (some ⟨t, 0, none⟩), .int .u64 (m : Nat)] w fun e w' => e = .returned (.int .i64 4) ∧ w' = w := by
 have ck := hs.key
 have cp := hs.pos
 have hn40 := hs.most
 obtain ⟨lf, HLF⟩ : ∃ x, Hid (x = 1099511627776 - n) := ⟨_, rfl⟩
 have hsub : (1099511627776 : Int) - ((n : Nat) : Int) = ((lf : Nat) : Int) := by have := HLF.out; omega
 have hlt : ((lf : Nat) : Int) < ((m : Nat) : Int) := by have := HLF.out; omega
 have hlf : lf ≤ 1099511627776 := by have := HLF.out; omega
 clear hs hm
 go_enter Tryz.func18, Tryz.ntmps18
 go_wp2
 go_ret
 exact ⟨rfl, rfl⟩
theorem rskip_ok (t g n m : Nat) (s0 : W4) (w : World) (hs : StreamAt w t g s0 n) (hw : w.cell? ⟨g, 4610, none⟩ = some (.bool false)) (hm : n + m ≤ 1099511627776) : Calls Tryz.prog 18 #[.pointer (some ⟨t, 0, none⟩), .int .u64 (m : Nat)] w fun e w' => e = .returned (.int .i64 0) ∧ StreamAt w' t g s0 (n + m) ∧ Touch w w' t 17 1 := by
 have HS : Hid (StreamAt w t g s0 n) := hs
 have ck := hs.key
 have cp := hs.pos
 have cz : w.frozen? ⟨t, 17, none⟩ = false := by have := (hs.room 17 (by decide)).2; simpa using this
 have hn40 := hs.most
 obtain ⟨lf, HLF⟩ : ∃ x, Hid (x = 1099511627776 - n) := ⟨_, rfl⟩
 have hsub : (1099511627776 : Int) - ((n : Nat) : Int) = ((lf : Nat) : Int) := by have := HLF.out; omega
 have hle : ((m : Nat) : Int) ≤ (lf : Nat) := by have := HLF.out; omega
 have hlf : lf ≤ 1099511627776 := by have := HLF.out; omega
 clear hs
 go_enter Tryz.func18, Tryz.ntmps18
 go_wp2
 rw [show ((n : Int) + (m : Int)) = ((n + m : Nat) : Int) by omega]
 go_ret
 exact ⟨rfl, HS.out.move (n + m) hm, (Touch.refl w t 17 1).setCell 17 _ (by omega) (by omega)⟩
theorem rxor_nil (a : Option Addr) (m cap : Nat) (w : World) : Calls Tryz.prog 14 #[.pointer none, .slice a m cap] w fun e w' => e = .returned (.tuple #[.slice none 0 0, .int .i64 1]) ∧ w' = w := by
 go_enter Tryz.func14, Tryz.ntmps14
 go_wp2
 go_ret2
 exact ⟨rfl, rfl⟩
theorem rxor_gone (t g n m cap : Nat) (a : Option Addr) (s0 : W4) (w : World) (hs : StreamAt w t g s0 n) (hw : w.cell? ⟨g, 4610, none⟩ = some (.bool true)) : Calls Tryz.prog 14 #[.pointer (some ⟨t, 0, none⟩), .slice a m cap] w fun e w' => e = .returned (.tuple #[.slice none 0 0, .int .i64 21]) ∧ w' = w := by
 have ck := hs.key
 clear hs
 go_enter Tryz.func14, Tryz.ntmps14
 go_wp2
 go_ret2
 exact ⟨rfl, rfl⟩
theorem rxor_over (t g n m cap : Nat) (a : Option Addr) (s0 : W4) (w : World) (hs : StreamAt w t g s0 n) (hw : w.cell? ⟨g, 4610, none⟩ = some (.bool false)) (hm : 1048576 < m) : Calls Tryz.prog 14 #[.pointer (some ⟨t, 0, none⟩), .slice a m cap] w fun e w' => e = .returned (.tuple #[.slice none 0 0, .int .i64 4]) ∧ w' = w := by
 have ck := hs.key
 have hgt : (1048576 : Int) < (m : Nat) := by omega
 clear hs
 go_enter Tryz.func14, Tryz.ntmps14
 go_wp2
 go_ret2
 exact ⟨rfl, rfl⟩
theorem rxor_long (t g n m cap : Nat) (a : Option Addr) (s0 : W4) (w : World) (hs : StreamAt w t g s0 n) (hw : w.cell? ⟨g, 4610, none⟩ = some (.bool false)) (hm1 : m ≤ 1048576) (hm : 1099511627776 < n + m) : Calls Tryz.prog 14 #[.pointer (some ⟨t, 0, none⟩), .slice a m cap] w fun e w' => e = .returned (.tuple #[.slice none 0 0, .int .i64 4]) ∧ w' = w := by
 have ck := hs.key
 have cp := hs.pos
 have hn40 := hs.most
 obtain ⟨lf, HLF⟩ : ∃ x, Hid (x = 1099511627776 - n) := ⟨_, rfl⟩
 have hsub : (1099511627776 : Int) - ((n : Nat) : Int) = ((lf : Nat) : Int) := by have := HLF.out; omega
 have hlt : ((lf : Nat) : Int) < ((m : Nat) : Int) := by have := HLF.out; omega
 have hlf : lf ≤ 1099511627776 := by have := HLF.out; omega
 clear hs hm
 go_enter Tryz.func14, Tryz.ntmps14
 go_wp2
 go_ret2
 exact ⟨rfl, rfl⟩
/-- The document's stream while it gives. -/
structure XR (w u : World) (t g gr nk : Nat) (K : Nat → Nat) (s0 : W4) (p : Nat) : Prop where
 r : RefAt u g gr nk K
 str : StreamAt u t g s0 p
 fr : Fr w u [t]
theorem StreamAt.sameG {w v : World} {t g n : Nat} {s0 : W4} (h : StreamAt w t g s0 n) (e : v.heap[t]? = w.heap[t]?) (hs : w.heap.size ≤ v.heap.size) : StreamAt v t g s0 n :=
 ⟨(World.cell?_of_block (a := ⟨t, 0, none⟩) e).trans h.key, fun j x hx => (World.cell?_of_block (a := ⟨t, 1 + j, none⟩) e).trans (h.start j x hx), (World.cell?_of_block (a := ⟨t, 17, none⟩) e).trans h.pos, there_sameG h.room e, Nat.lt_of_lt_of_le h.here hs, h.ok, h.most⟩
theorem XR.below {w u u' : World} {t g gr nk p : Nat} {K : Nat → Nat} {s0 : W4} (h : XR w u t g gr nk K s0 p) (hb : Below w.heap.size u u') (hg : g < w.heap.size) (hgr : gr < w.heap.size) (ht : t < w.heap.size) : XR w u' t g gr nk K s0 p :=
 ⟨h.r.keep (hb.block g hg) (hb.block gr hgr) hb.size, h.str.sameG (hb.block t ht) hb.size, ⟨hb.os.trans h.fr.os, hb.tape.trans h.fr.tape, hb.output.trans h.fr.output, Nat.le_trans h.fr.size hb.size, fun b hb' hn => (hb.block b hb').trans (h.fr.block b hb' hn)⟩⟩
theorem XR.move {w u : World} {t g gr nk p : Nat} {K : Nat → Nat} {s0 : W4} (h : XR w u t g gr nk K s0 p) (hne : t ≠ g ∧ t ≠ gr) (p' : Nat) (hp : p' ≤ 1099511627776) : XR w (u.setCell ⟨t, 17, none⟩ (.int .u64 (p' : Nat))) t g gr nk K s0 p' := by
 have hf := set_fr u t 17 (.int .u64 (p' : Nat))
 refine ⟨h.r.keep (hf.block g h.r.lt (fun e => hne.1 (List.mem_singleton.1 e).symm)) (hf.block gr h.r.ltr (fun e => hne.2 (List.mem_singleton.1 e).symm)) hf.size, h.str.move p' hp, h.fr.trans hf⟩
theorem bytes_arL (s : W4) : s.bytes = arL (sb s) := rfl
set_option maxHeartbeats 6400000 in
set_option maxRecDepth 100000 in
theorem rxor_ok (t g gr n nk m b off cap : Nat) (K : Nat → Nat) (s0 : W4) (f : Nat → Nat) (w : World) (hr : RefAt w g gr nk K) (hnk : nk ≤ 8) (hK : ∀ i, K i < 4294967296) (hs : StreamAt w t g s0 n) (hne : t ≠ g ∧ t ≠ gr) (hm : m ≤ 1048576) (hroom : n + m ≤ 1099511627776) (hb : b < w.heap.size) (hbt : b ≠ t) (hcap : m ≤ cap) (hc62 : cap ≤ 9223372036854775807) (hp : ∀ i, i < m → w.cell? ⟨b, off + i, none⟩ = some (.int .u8 (f i : Nat))) (hf : ∀ i, f i < 256) :
  Calls Tryz.prog 14 #[.pointer (some ⟨t, 0, none⟩), .slice (some ⟨b, off, none⟩) m cap] w fun e w' => ∃ v, e = .returned (.tuple #[v, .int .i64 0]) ∧ w'.ownsRow w.heap.size 5 1 v m (cellsU8 (xorL (nk + 6) K s0 n f m)) ∧ XR w w' t g gr nk K s0 (n + m) := by
 obtain ⟨i0, hi, hz0, hz1, hz2⟩ := info_parts Tryz.info5
 have HX0 : Hid (XR w w t g gr nk K s0 n) := ⟨hr, hs, Fr.refl _ _⟩
 have HNE : Hid (t ≠ g ∧ t ≠ gr) := hne
 have HG : Hid (g < w.heap.size ∧ gr < w.heap.size ∧ t < w.heap.size) := ⟨hr.lt, hr.ltr, hs.here⟩
 have HKK : Hid (nk ≤ 8 ∧ ∀ i, K i < 4294967296) := ⟨hnk, hK⟩
 have HP : Hid (b < w.heap.size ∧ b ≠ t ∧ (∀ i, i < m → w.cell? ⟨b, off + i, none⟩ = some (.int .u8 (f i : Nat))) ∧ (∀ i, f i < 256)) := ⟨hb, hbt, hp, hf⟩
 have ck := hs.key
 have cw := hr.wiped
 have cp := hs.pos
 have hn40 := hs.most
 obtain ⟨lf, HLF⟩ : ∃ x, Hid (x = 1099511627776 - n) := ⟨_, rfl⟩
 have hsub : (1099511627776 : Int) - ((n : Nat) : Int) = ((lf : Nat) : Int) := by have := HLF.out; omega
 have hle : ((m : Nat) : Int) ≤ (lf : Nat) := by have := HLF.out; omega
 have hlf : lf ≤ 1099511627776 := by have := HLF.out; omega
 have h9 : ¬ lf < m := by have := HLF.out; omega
 have h8 : decide ((1048576 : Int) < (m : Int)) = false := by simp; omega
 clear hr hnk hK hs hne hb hbt hp hf
 go_enter Tryz.func14, Tryz.ntmps14
 go_wp2
 clear ck cw cp hsub hle hlf h8 h9
 go_loopw [6, 7] (fun v i wr => ∃ k : Nat, k ≤ m ∧ i = .int .i64 (k : Nat) ∧ wr.ownsRow w.heap.size 5 1 v k (cellsU8 (xorL (nk + 6) K s0 n f k)) ∧ Hid (XR w wr t g gr nk K s0 (n + k))) (fun _ i _ => m - (intOf i).toNat)
 case atStart => exact ⟨0, by omega, rfl, by simpa [xorL, cellsU8] using World.ownsRow_nil w w.heap.size 5 1, HX0⟩
 case round =>
  obtain ⟨k, hk, rfl, hown2, HX⟩ := hrel
  clear HX0
  have hlen : ∃ a c, u6 = .slice a k c := by
   rcases hown2.2 with ⟨rfl, h0⟩ | ⟨g', c', cur, rfl, _⟩
   ·exact ⟨none, 0, by rw [h0]⟩
   ·exact ⟨_, _, rfl⟩
  obtain ⟨va, vc, rfl⟩ := hlen
  by_cases hlt : k < m
  ·obtain ⟨p, HPP⟩ : ∃ p, Hid (p = n + k) := ⟨_, rfl⟩
   rw [← HPP.out] at HX
   obtain ⟨q, HQ⟩ : ∃ q, Hid (q = p / 16) := ⟨_, rfl⟩
   have hq : ((p : Nat) : Int) / 16 = ((q : Nat) : Int) := by have := HQ.out; omega
   have hqt : Int.tdiv ((p : Nat) : Int) 16 = ((q : Nat) : Int) := by rw [Int.tdiv_eq_ediv_of_nonneg (by omega)]; exact hq
   have hp40 : p ≤ 1099511627776 := by have := HPP.out; omega
   have hwq : IntKind.u64.wrap ((q : Nat) : Int) = ((q : Nat) : Int) := wraps_u64 _ (by omega) (by have := HQ.out; omega)
   obtain ⟨SL, HSL⟩ : ∃ L, Hid (L = arL (sb s0)) := ⟨_, rfl⟩
   obtain ⟨CL, HCL⟩ : ∃ L, Hid (L = arL (sb (ctrW s0 q))) := ⟨_, rfl⟩
   obtain ⟨LL, HLL⟩ : ∃ L, Hid (L = arL (sb (encW (nk + 6) K (ctrW s0 q)))) := ⟨_, rfl⟩
   have HSA : Hid (A16 SL) := by show A16 _; rw [HSL.out]; exact a16 _
   have HLA : Hid (A16 LL) := by show A16 _; rw [HLL.out]; exact a16 _
   have HC46 : Hid (∀ u, Below wr.heap.size wr u → Calls Tryz.prog 46 #[.agg SL.toArray, .int .u64 (q : Nat)] u fun e u' => e = .returned (.agg CL.toArray) ∧ Below u.heap.size u u') := fun u hu => by
    rw [HSL.out, HCL.out, arL_array, arL_array]
    exact rplus_ok s0 q u HX.out.str.ok (by have := HQ.out; omega)
   have HC23 : Hid (∀ u, Below wr.heap.size wr u → Calls Tryz.prog 23 #[.pointer (some ⟨g, 0, none⟩), .agg CL.toArray] u fun e u' => e = .returned (.agg LL.toArray) ∧ Below u.heap.size u u') := fun u hu => by
    rw [HCL.out, HLL.out, arL_array, arL_array]
    exact renc_ok g gr nk K _ u (HX.out.r.below hu) HKK.out.1 HKK.out.2 (ctrW_ok _ _)
   have gk : Hid (∀ u, Below wr.heap.size wr u → u.cell? ⟨t, 0, none⟩ = some (.pointer (some ⟨g, 0, none⟩))) := fun u hu => (hu.cell HX.out.str.here).trans HX.out.str.key
   have gp : Hid (∀ u, Below wr.heap.size wr u → u.cell? ⟨t, 17, none⟩ = some (.int .u64 (p : Nat))) := fun u hu => (hu.cell HX.out.str.here).trans HX.out.str.pos
   have gs : Hid (∀ u, Below wr.heap.size wr u → u.rangeAt t 1 SL) := fun u hu j x hx => (hu.cell (p := ⟨t, 1 + j, none⟩) HX.out.str.here).trans (HX.out.str.start j x (by rw [bytes_arL, ← HSL.out]; exact hx))
   have hki : ((k : Nat) : Int) < (m : Nat) := by omega
   go_upto_region 11 with fail
   go_cut [8] from 33 to 91 (fun pt wx => ∃ A, pt = .pointer (some ⟨A, 0, none⟩) ∧ Hid (BlkAt wr LL A wx))
   case first =>
    have hS0 : Below wr.heap.size wr wr.drew := (Below.refl _ _).drew
    refine wp_region_noPanic ?_
    refine wp_region_held_drew (S := fun u => Below wr.heap.size wr u) (by kernel_rfl) (hS0) (fun _ => ?_)
    refine tG 0 39 (.pointer (some ⟨t, 0, none⟩)) rfl rfl hS0 ?_
    simp only [pU]
    refine tG 1 40 (.pointer (some ⟨t, 0, none⟩)) rfl rfl hS0 ?_
    simp only [pU]
    refine tG 2 41 (.pointer (some ⟨t, 0, none⟩)) rfl rfl hS0 ?_
    simp only [pU]
    refine tQ 3 42 (.pointer (some ⟨g, 0, none⟩)) rfl rfl hS0 gk.out ?_
    simp only [pU]
    refine tG 4 43 (.pointer (some ⟨t, 0, none⟩)) rfl rfl hS0 ?_
    simp only [pU]
    refine tG 5 44 (.pointer (some ⟨t, 0, none⟩)) rfl rfl hS0 ?_
    simp only [pU]
    refine tG 6 45 (.pointer (some ⟨t, 1, none⟩)) rfl rfl hS0 ?_
    simp only [pU]
    refine tH 7 46 (.agg SL.toArray) rfl rfl (by kernel_rfl) (hS0) (yieldsIf_load_mid (by kernel_rfl) 37 (.tmp 45) rfl t 1 rfl SL _ (fun u hu => gs.out u hu) Tryz.underlying37 rfl HSA.out.sz) ?_
    simp only [pU]
    refine tG 8 47 (.pointer (some ⟨t, 0, none⟩)) rfl rfl hS0 ?_
    simp only [pU]
    refine tG 9 48 (.pointer (some ⟨t, 0, none⟩)) rfl rfl hS0 ?_
    simp only [pU]
    refine tG 10 49 (.pointer (some ⟨t, 17, none⟩)) rfl rfl hS0 ?_
    simp only [pU]
    refine tQ 11 50 (.int .u64 (p : Nat)) rfl rfl hS0 gp.out ?_
    simp only [pU]
    refine tG 12 51 (.int .u64 (q : Nat)) rfl rfl hS0 ?_
    simp only [pU]
    refine wpAnyH_ready (rs := [13, 15]) (by kernel_rfl) (by simp) ?_
    refine AllReadyH.cons rfl (fun K hK => ?_) (AllReadyH.cons rfl (fun K hK => ?_) AllReadyH.nil)
    ·skip
     go_simp
     refine (HC46.out _ hS0).mono ?_
     rintro e1 u1 ⟨rfl, hbu1⟩
     have hSu1 : Below wr.heap.size wr u1 := (hS0).trans (hbu1.mono (hS0).size)
     go_wp2_with fail
     refine hK.out _ _ hSu1 (fun _ => ?_)
     clear hK K
     try simp only [pU]
     refine wpAnyH_ready (rs := [14, 15]) (by kernel_rfl) (by simp) ?_
     refine AllReadyH.cons rfl (fun K hK => ?_) (AllReadyH.cons rfl (fun K hK => ?_) AllReadyH.nil)
     ·skip
      go_simp
      refine (HC23.out _ hSu1).mono ?_
      rintro e1 u2 ⟨rfl, hbu2⟩
      have hSu2 : Below wr.heap.size wr u2 := (hSu1).trans (hbu2.mono (hSu1).size)
      go_wp2_with fail
      refine hK.out _ _ hSu2 (fun _ => ?_)
      clear hK K
      try simp only [pU]
      refine wpAnyH_ready (rs := [15]) (by kernel_rfl) (by simp) ?_
      refine AllReadyH.cons rfl (fun K hK => ?_) AllReadyH.nil
      go_simp
      have hSa3 : Below wr.heap.size wr (World.alloc u2 (.cells #[.int .u8 0, .int .u8 0, .int .u8 0, .int .u8 0, .int .u8 0, .int .u8 0, .int .u8 0, .int .u8 0, .int .u8 0, .int .u8 0, .int .u8 0, .int .u8 0, .int .u8 0, .int .u8 0, .int .u8 0, .int .u8 0] 37)) := (hSu2).alloc (hSu2).size _
      refine hK.out _ _ hSa3 (fun _ => ?_)
      clear hK K
      try simp only [pU]
      refine wpAnyH_ready (rs := [16]) (by kernel_rfl) (by simp) ?_
      refine AllReadyH.cons rfl (fun K hK => ?_) AllReadyH.nil
      rw [if_pos (by rfl)]
      have htA := there_own16 u2 #[.int .u8 0, .int .u8 0, .int .u8 0, .int .u8 0, .int .u8 0, .int .u8 0, .int .u8 0, .int .u8 0, .int .u8 0, .int .u8 0, .int .u8 0, .int .u8 0, .int .u8 0, .int .u8 0, .int .u8 0, .int .u8 0] 37 (n := 16) rfl
      refine wp_store_mid 37 (.tmp 8) (.tmp 53) rfl _ 0 LL.toArray rfl rfl (by simpa [HLA.out.len] using htA) HLA.out.sza HLA.out.one ?_
      refine hK.out _ _ (below_setCells _ (hSu2.size) _ _ _ (hSa3)) (fun _ => ?_)
      clear hK K
      refine wpAnyH_done (by kernel_rfl) ?_ _
      refine NoPanic.normal ?_
      go_wp2_with fail
      go_meet
      exact ⟨_, rfl, BlkAt.mk' (hSa3) (hSu2.size) (by simp) (by simpa [HLA.out.len] using htA)⟩
     ·skip
      go_simp
      have hSa2 : Below wr.heap.size wr (World.alloc u1 (.cells #[.int .u8 0, .int .u8 0, .int .u8 0, .int .u8 0, .int .u8 0, .int .u8 0, .int .u8 0, .int .u8 0, .int .u8 0, .int .u8 0, .int .u8 0, .int .u8 0, .int .u8 0, .int .u8 0, .int .u8 0, .int .u8 0] 37)) := (hSu1).alloc (hSu1).size _
      refine hK.out _ _ hSa2 (fun _ => ?_)
      clear hK K
      try simp only [pU]
      refine wpAnyH_ready (rs := [14]) (by kernel_rfl) (by simp) ?_
      refine AllReadyH.cons rfl (fun K hK => ?_) AllReadyH.nil
      go_simp
      refine (HC23.out _ hSa2).mono ?_
      rintro e1 u3 ⟨rfl, hbu3⟩
      have hSu3 : Below wr.heap.size wr u3 := (hSa2).trans (hbu3.mono (hSa2).size)
      go_wp2_with fail
      refine hK.out _ _ hSu3 (fun _ => ?_)
      clear hK K
      try simp only [pU]
      refine wpAnyH_ready (rs := [16]) (by kernel_rfl) (by simp) ?_
      refine AllReadyH.cons rfl (fun K hK => ?_) AllReadyH.nil
      rw [if_pos (by rfl)]
      have htA := there_below (there_own16 u1 #[.int .u8 0, .int .u8 0, .int .u8 0, .int .u8 0, .int .u8 0, .int .u8 0, .int .u8 0, .int .u8 0, .int .u8 0, .int .u8 0, .int .u8 0, .int .u8 0, .int .u8 0, .int .u8 0, .int .u8 0, .int .u8 0] 37 (n := 16) rfl) hbu3 (by simp)
      refine wp_store_mid 37 (.tmp 8) (.tmp 53) rfl _ 0 LL.toArray rfl rfl (by simpa [HLA.out.len] using htA) HLA.out.sza HLA.out.one ?_
      refine hK.out _ _ (below_setCells _ (hSu1.size) _ _ _ (hSu3)) (fun _ => ?_)
      clear hK K
      refine wpAnyH_done (by kernel_rfl) ?_ _
      refine NoPanic.normal ?_
      go_wp2_with fail
      go_meet
      exact ⟨_, rfl, BlkAt.mk' (hSu3) (hSu1.size) (by have h4hbu3 := hbu3.size; simp at h4hbu3 ⊢; omega) (by simpa [HLA.out.len] using htA)⟩
    ·skip
     go_simp
     have hSa1 : Below wr.heap.size wr (World.alloc wr.drew (.cells #[.int .u8 0, .int .u8 0, .int .u8 0, .int .u8 0, .int .u8 0, .int .u8 0, .int .u8 0, .int .u8 0, .int .u8 0, .int .u8 0, .int .u8 0, .int .u8 0, .int .u8 0, .int .u8 0, .int .u8 0, .int .u8 0] 37)) := (hS0).alloc (hS0).size _
     refine hK.out _ _ hSa1 (fun _ => ?_)
     clear hK K
     try simp only [pU]
     refine wpAnyH_ready (rs := [13]) (by kernel_rfl) (by simp) ?_
     refine AllReadyH.cons rfl (fun K hK => ?_) AllReadyH.nil
     go_simp
     refine (HC46.out _ hSa1).mono ?_
     rintro e1 u2 ⟨rfl, hbu2⟩
     have hSu2 : Below wr.heap.size wr u2 := (hSa1).trans (hbu2.mono (hSa1).size)
     go_wp2_with fail
     refine hK.out _ _ hSu2 (fun _ => ?_)
     clear hK K
     try simp only [pU]
     refine wpAnyH_ready (rs := [14]) (by kernel_rfl) (by simp) ?_
     refine AllReadyH.cons rfl (fun K hK => ?_) AllReadyH.nil
     go_simp
     refine (HC23.out _ hSu2).mono ?_
     rintro e1 u3 ⟨rfl, hbu3⟩
     have hSu3 : Below wr.heap.size wr u3 := (hSu2).trans (hbu3.mono (hSu2).size)
     go_wp2_with fail
     refine hK.out _ _ hSu3 (fun _ => ?_)
     clear hK K
     try simp only [pU]
     refine wpAnyH_ready (rs := [16]) (by kernel_rfl) (by simp) ?_
     refine AllReadyH.cons rfl (fun K hK => ?_) AllReadyH.nil
     rw [if_pos (by rfl)]
     have htA := there_below (there_below (there_own16 wr.drew #[.int .u8 0, .int .u8 0, .int .u8 0, .int .u8 0, .int .u8 0, .int .u8 0, .int .u8 0, .int .u8 0, .int .u8 0, .int .u8 0, .int .u8 0, .int .u8 0, .int .u8 0, .int .u8 0, .int .u8 0, .int .u8 0] 37 (n := 16) rfl) hbu2 (by simp)) hbu3 (by have h3hbu2 := hbu2.size; simp at h3hbu2 ⊢;  omega)
     refine wp_store_mid 37 (.tmp 8) (.tmp 53) rfl _ 0 LL.toArray rfl rfl (by simpa [HLA.out.len] using htA) HLA.out.sza HLA.out.one ?_
     refine hK.out _ _ (below_setCells _ (hS0.size) _ _ _ (hSu3)) (fun _ => ?_)
     clear hK K
     refine wpAnyH_done (by kernel_rfl) ?_ _
     refine NoPanic.normal ?_
     go_wp2_with fail
     go_meet
     exact ⟨_, rfl, BlkAt.mk' (hSu3) (hS0.size) (by have h4hbu2 := hbu2.size; have h4hbu3 := hbu3.size; simp at h4hbu2 h4hbu3 ⊢; omega) (by simpa [HLA.out.len] using htA)⟩
   case rest =>
    obtain ⟨A, rfl, HD⟩ := hcut
    clear HC46 HC23 gk gp gs HCL HSA HSL hq hqt hwq
    obtain ⟨r, HRR⟩ : ∃ r, Hid (r = p % 16) := ⟨_, rfl⟩
    have hr16 : r < 16 := by have := HRR.out; omega
    have hri : ((p : Nat) : Int) % 16 = (r : Nat) := by have := HRR.out; omega
    have HXc : Hid (XR w wc t g gr nk K s0 p) := HX.out.below (HD.out.old.mono HX.out.fr.size) HG.out.1 HG.out.2.1 HG.out.2.2
    have cp : wc.cell? ⟨t, 17, none⟩ = some (.int .u64 (p : Nat)) := HXc.out.str.pos
    have HO : Hid (wc.ownsRow w.heap.size 5 1 (.slice va k vc) k (cellsU8 (xorL (nk + 6) K s0 n f k))) := ownsRow_same hown2 (fun q hq => HD.out.old.block q (hown2.lt q hq).2)
    have HOA : Hid (∀ q, (Value.slice va k vc).ownBlock = some q → q ≠ A) := fun q hq => by have h1 := (hown2.lt q hq).2; have h2 := HD.out.far; omega
    have HDA : Hid (A < wc.heap.size ∧ w.heap.size ≤ A ∧ wc.rangeAt A 0 LL) := ⟨HD.out.here, Nat.le_trans HX.out.fr.size HD.out.far, HD.out.cells⟩
    rw [HPP.out] at HXc
    clear hown2 HD HX
    go_wp2
    clear cp hri
    go_loopw [6, 7, 9] (fun v vi vj w5 => ∃ i j : Nat, i ≤ m ∧ j ≤ 16 ∧ k ≤ i ∧ vi = .int .i64 (i : Nat) ∧ vj = .int .i64 (j : Nat) ∧ Hid (j + k = r + i) ∧ w5.ownsRow w.heap.size 5 1 v i (cellsU8 (xorL (nk + 6) K s0 n f i)) ∧ Hid (XR w w5 t g gr nk K s0 (n + i) ∧ A < w5.heap.size ∧ (∀ q', v.ownBlock = some q' → q' ≠ A) ∧ w5.rangeAt A 0 LL)) (fun _ _ j _ => 16 - (intOf j).toNat)
    case atStart => exact ⟨k, r, hk, by omega, Nat.le_refl _, rfl, rfl, Nat.add_comm _ _ ▸ rfl, HO.out, HXc.out, HDA.out.1, HOA.out, HDA.out.2.2⟩
    case round =>
     obtain ⟨i, j, him, hj16, hki2, rfl, rfl, HJ, hown2, HI⟩ := hrel
     clear HO HOA HXc
     by_cases hlj : j < 16
     ·have hj1 : ((j : Nat) : Int) < 16 := by omega
      by_cases hli : i < m
      ·have hi1 : ((i : Nat) : Int) < (m : Nat) := by omega
       have hlen : ∃ a c, u6 = .slice a i c := by
        rcases hown2.2 with ⟨rfl, h0⟩ | ⟨g', c', cur, rfl, _⟩
        ·exact ⟨none, 0, by rw [h0]⟩
        ·exact ⟨_, _, rfl⟩
       obtain ⟨va2, vc2, rfl⟩ := hlen
       obtain ⟨c, HCC⟩ : ∃ c, Hid (c = sb (encW (nk + 6) K (ctrW s0 q)) j) := ⟨_, rfl⟩
       obtain ⟨x, HXX⟩ : ∃ x, Hid (x = f i) := ⟨_, rfl⟩
       obtain ⟨y, HY⟩ : ∃ y, Hid (y = Nat.xor x c) := ⟨_, rfl⟩
       have hxor : bits .xor .u8 ((x : Nat) : Int) ((c : Nat) : Int) = ((y : Nat) : Int) := by
        rw [HY.out]
        exact xor8 x c (by rw [HXX.out]; exact HP.out.2.2.2 _) (by rw [HCC.out]; exact sb_lt _ _)
       have g1 : wr.cell? ⟨b, off + i, none⟩ = some (.int .u8 (x : Nat)) := by
        obtain ⟨p1, p2, p3, p4⟩ := HP.out
        rw [World.cell?_of_block (a := ⟨b, off + i, none⟩) (HI.out.1.fr.block b p1 (by simpa using p2)), HXX.out]
        exact p3 i hli
       have g2 : wr.cell? ⟨A, j, none⟩ = some (.int .u8 (c : Nat)) := by
        have h1 := HI.out.2.2.2 j (.int .u8 (c : Nat)) (by rw [HLL.out, HCC.out]; exact arL_at _ _ hlj)
        rw [Nat.zero_add] at h1
        exact h1
       have HJX : Hid (Nat.xor (f i) (ksb (nk + 6) K s0 (n + i)) = y) := by
        show _ = _
        rw [HY.out, HXX.out, HCC.out, ksb]
        have h1 : (n + i) / 16 = q := by have := HPP.out; have := HRR.out; have := HQ.out; have := HJ.out; omega
        have h2 : (n + i) % 16 = j := by have := HPP.out; have := HRR.out; have := HQ.out; have := HJ.out; omega
        rw [h1, h2, by_sb _ _ hlj]
       have hsz : Hid (w.heap.size ≤ wr.heap.size) := HI.out.1.fr.size
       have HFAR : Hid (∀ q, (Value.slice va2 i vc2).ownBlock = some q → q ≠ b ∧ q ≠ A) := fun q hq => ⟨by have h1 := (hown2.lt q hq).1; have h2 := HP.out.1; omega, HI.out.2.2.1 q hq⟩
       go_upto_region 15 with fail
       go_region_held3 (fun v => v.cell? ⟨b, off + i, none⟩ = some (.int .u8 (x : Nat)) ∧ v.cell? ⟨A, j, none⟩ = some (.int .u8 (c : Nat))) (first | exact hS2 | exact ⟨g1, g2⟩ | go_keep) ((refine step_append_lies _ (by rfl) _ _ _ (by rfl) w.heap.size 5 i0 (.int .u8 0) 1 1 Tryz.underlying22 hi hz0 hz1 hz2 (by rfl) (by decide) _ i (cellsU8 (xorL (nk + 6) K s0 n f i)) (by rfl) (hown2.alloc _).drew ⟨wr.heap.size, 0, none⟩ 1 1 (cellsU8 [((y : Nat) : Int)]) (by rfl) (by rfl) (World.news_of_block (heap_alloc_new wr _)) (cellsU8_one _) (by decide) (by unfold maxLen; omega) (by omega) (by have := hsz.out; simp; omega) (wr.heap.size + 1) (by simp) ?_; intro g' cp' w2 hown3 hgrow2 hat hglt; have hS2 : w2.cell? ⟨b, off + i, none⟩ = some (.int .u8 (x : Nat)) ∧ w2.cell? ⟨A, j, none⟩ = some (.int .u8 (c : Nat)) := ⟨grown_cell hgrow2 g1 (fun q hq => (HFAR.out q hq).1), grown_cell hgrow2 g2 (fun q hq => (HFAR.out q hq).2)⟩))
       all_goals
        have HB3 : Hid (Below w.heap.size wr w2) := (((Below.refl _ _).alloc hsz.out _).drew).grown hgrow2 (by have := hsz.out; simp; omega) (fun q hq => (hown2.lt q hq).1)
        have HX3 : Hid (XR w w2 t g gr nk K s0 (n + i)) := HI.out.1.below HB3.out HG.out.1 HG.out.2.1 HG.out.2.2
        have HO3 : Hid (w2.ownsRow w.heap.size 5 1 (.slice (some ⟨g', 0, none⟩) (i + 1) cp') (i + 1) (cellsU8 (xorL (nk + 6) K s0 n f (i + 1)))) := by
         show World.ownsRow _ _ _ _ _ _ _
         rw [xorL_succ, cellsU8_append, HJX.out]
         exact hown3
        have HA3 : Hid (A < w2.heap.size ∧ (∀ q', (Value.slice (some ⟨g', 0, none⟩) (i + 1) cp').ownBlock = some q' → q' ≠ A) ∧ w2.rangeAt A 0 LL) := by
         obtain ⟨q1, q2, q3, q4⟩ := HI.out
         have hs := hgrow2.size
         simp at hs
         refine ⟨by omega, fun q' hq' => ?_, fun i v hv => ?_⟩
         ·cases hq'
          rcases hat with h | h
          ·exact q3 _ h
          ·show g' ≠ A; omega
         ·exact grown_cell hgrow2 (q4 i v hv) (fun q hq => (HFAR.out q hq).2)
        obtain ⟨p2, HP2⟩ : ∃ p2, Hid (p2 = n + i) := ⟨_, rfl⟩
        have cp2 : w2.cell? ⟨t, 17, none⟩ = some (.int .u64 (p2 : Nat)) := by rw [HP2.out]; exact HX3.out.str.pos
        have cz2 : w2.frozen? ⟨t, 17, none⟩ = false := by have := (HX3.out.str.room 17 (by decide)).2; simpa using this
        have hp2 : p2 < 1099511627776 := by have := HP2.out; omega
        clear hown3 hgrow2 hat hglt hown2 HI g1 g2
        go_wp2
        have HX4 : Hid (XR w (w2.setCell ⟨t, 17, none⟩ (.int .u64 ((n + (i + 1) : Nat) : Int))) t g gr nk K s0 (n + (i + 1))) := HX3.out.move HNE.out _ (by omega)
        have e4 : ((p2 : Nat) : Int) + 1 = ((n + (i + 1) : Nat) : Int) := by have := HP2.out; omega
        go_roundw
        case rel =>
         rw [e4]
         have hf4 := set_fr w2 t 17 (.int .u64 ((n + (i + 1) : Nat) : Int))
         have hAt : A ≠ t := by have h1 := HDA.out.2.1; have h2 := HG.out.2.2; omega
         refine ⟨i + 1, j + 1, by omega, by omega, by omega, by go_num, by go_num, by have := HJ.out; show _ = _; omega, ?_, HX4.out, Nat.lt_of_lt_of_le HA3.out.1 hf4.size, HA3.out.2.1, fun i' v hv => ?_⟩
         ·exact ownsRow_same HO3.out (fun q' hq' => hf4.block q' (HO3.out.lt q' hq').2 (by have h1 := (HO3.out.lt q' hq').1; have h2 := HG.out.2.2; simp; omega))
         ·exact (World.cell?_of_block (a := ⟨A, 0 + i', none⟩) (hf4.block A HA3.out.1 (by simpa using hAt))).trans (HA3.out.2.2 i' v hv)
        case measure => simp [intOf]; omega
      ·have hi1 : ¬ ((i : Nat) : Int) < (m : Nat) := by omega
       have hik : k < i ∧ i ≤ m := by have := HJ.out; omega
       obtain ⟨q1, HQ1⟩ : ∃ x, Hid (x = i - 1) := ⟨_, rfl⟩
       have hi1 : ((i : Nat) : Int) - 1 = ((q1 : Nat) : Int) := by have := HQ1.out; omega
       have HO5 : Hid (World.ownsRow wr w.heap.size 5 1 u6 i (cellsU8 (xorL (nk + 6) K s0 n f i))) := hown2
       have HX5 : Hid (XR w wr t g gr nk K s0 (n + i)) := HI.out.1
       have hq1m : q1 < m := by have := HQ1.out; omega
       clear hown2 HI
       go_wp2
       refine ⟨⟨i, by omega, val_eq (by have := HQ1.out; omega), HO5.out, HX5⟩, ?_⟩
       simp only [intOf]; have := HQ1.out; omega
     ·have hj1 : ¬ ((j : Nat) : Int) < 16 := by omega
      have hik : k < i ∧ i ≤ m := by have := HJ.out; omega
      obtain ⟨q1, HQ1⟩ : ∃ x, Hid (x = i - 1) := ⟨_, rfl⟩
      have hi1 : ((i : Nat) : Int) - 1 = ((q1 : Nat) : Int) := by have := HQ1.out; omega
      have HO5 : Hid (World.ownsRow wr w.heap.size 5 1 u6 i (cellsU8 (xorL (nk + 6) K s0 n f i))) := hown2
      have HX5 : Hid (XR w wr t g gr nk K s0 (n + i)) := HI.out.1
      have hq1m : q1 < m := by have := HQ1.out; omega
      clear hown2 HI
      go_wp2
      refine ⟨⟨i, by omega, val_eq (by have := HQ1.out; omega), HO5.out, HX5⟩, ?_⟩
      simp only [intOf]; have := HQ1.out; omega
  ·obtain rfl : k = m := by omega
   have HO5 : Hid (World.ownsRow wr w.heap.size 5 1 (.slice va k vc) k (cellsU8 (xorL (nk + 6) K s0 n f k))) := hown2
   clear hown2 hlt
   go_wp2
   go_ret2
   exact ⟨_, rfl, HO5.out, HX.out⟩
end Go.Proofs.YtgmfiljjogdccabGreatDoor
