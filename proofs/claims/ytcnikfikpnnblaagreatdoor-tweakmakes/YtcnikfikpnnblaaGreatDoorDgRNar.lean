import Derived.Test.YtcnikfikpnnblaaGreatDoorPart05
import Derived.Test.YtcnikfikpnnblaaGreatDoorDgRFst
import Derived.Test.YtcnikfikpnnblaaGreatDoorPart38
import Derived.Test.YtcnikfikpnnblaaGreatDoorPart01
import Derived.Test.YtcnikfikpnnblaaGreatDoorPart36
namespace Go.Proofs.YtcnikfikpnnblaaGreatDoor.Dg
open Go.RowKit
set_option linter.unusedVariables false
set_option linter.unusedSimpArgs false
theorem cube_hi : ∀ t, t < 80 → IntKind.u32.wrap (cubeAt t / 4294967296) = cubeAt t / 4294967296 := by decide +kernel
theorem size92 : (Tryz.prog.info? 173).map (·.size) = some (Cl 64 (fun j => .int .u32 (cubeAt j / 4294967296))).length := by rw [Cl_length]; kernel_rfl
theorem sz_set {wr : World} {a : Addr} {u : Value} {k : Nat} (h : wr.heap.size = k) : Hid ((wr.setCell a u).heap.size = k) := by
 show (wr.setCell a u).heap.size = k
 simpa [World.setCell] using h
theorem cells32_Cl (s : Eight) : s.cells32 = Cl 8 (fun j => .int .u32 (fnz s.list j)) := rfl
theorem cells_Cl (s : Eight) : s.cells = Cl 8 (fun j => .int .u64 (fnz s.list j)) := rfl
def Eight.low (s : Eight) : Eight := s.map (· % 4294967296)
theorem low_at (s : Eight) (j : Nat) (hj : j < 8) : fnz s.low.list j = fnz s.list j % 4294967296 := by
 match j, hj with
 | 0, _ | 1, _ | 2, _ | 3, _ | 4, _ | 5, _ | 6, _ | 7, _ => rfl
theorem low_block (C B : Nat → Int) (s : Eight) : Eight.zip (fun h x => (h + x) % 4294967296) s.low (rounds32 C (sched32 B) 64 s.low) = block32 C B s := by
 unfold block32
 generalize hr : rounds32 C (sched32 B) 64 s.low = r
 have hr' : rounds32 C (sched32 B) 64 ⟨s.a % 4294967296, s.b % 4294967296, s.c % 4294967296, s.d % 4294967296, s.e % 4294967296, s.f % 4294967296, s.g % 4294967296, s.k % 4294967296⟩ = r := hr
 rw [hr']
 simp only [Eight.zip, Eight.low, Eight.map, Int.emod_add_emod]
theorem low_low (C B : Nat → Int) (s : Eight) : (block32 C B s).low = block32 C B s := by
 unfold block32 Eight.zip Eight.low Eight.map
 simp only [Int.emod_emod]
theorem slice22 (u : World) (b p n cap q k : Nat) (kk : Int) (hk : kk = (k : Nat)) (h0 : 0 < k) (h1 : q + k ≤ cap) : (Instr.slice 24 (.slice (some ⟨b, p, none⟩) n cap) (some (.int .i64 (q : Nat))) (some (.int .i64 ((q : Int) + kk))) none).run Tryz.prog u = .ok (.slice (some ⟨b, p + q, none⟩) k (cap - q)) u := by
 subst hk
 rw [run_slice_lh u 24 (some ⟨b, p, none⟩) n cap und22p .i64 .i64 q ((q : Int) + (k : Nat)) (by omega) (by omega) (by omega), elem22p, sizeOf5p]
 have e1 : ((q : Int) + (k : Nat)).toNat - q = k := by omega
 simp only [Result.andThen, sliced, Int.toNat_natCast, e1]
 rw [if_neg (by omega), Option.map_some, Nat.mul_one, Addr.add_mid]
set_option maxHeartbeats 3200000 in
set_option maxRecDepth 100000 in
theorem rnarrow_walk (h0 h1 h2 h3 h4 h5 h6 h7 : Int) (B : Nat → Int) (b p n m cap : Nat) (w : World) (hT : RTab w) (hn : n = 64 * m)
  (hcap : n ≤ cap) (hcm : cap ≤ 9223372036854775807) (hbw : b < w.heap.size) (hB : ∀ i, i < n → w.cell? ⟨b, p + i, none⟩ = some (.int .u8 (B i))) :
  Calls Tryz.prog 73 #[.agg #[.int .u64 h0, .int .u64 h1, .int .u64 h2, .int .u64 h3, .int .u64 h4, .int .u64 h5, .int .u64 h6, .int .u64 h7], .slice (some ⟨b, p, none⟩) n cap] w fun e w' =>
   e = .returned (.agg (Eight.cells (takes32 cubeAt B ⟨h0, h1, h2, h3, h4, h5, h6, h7⟩ m).low).toArray) ∧ Below w.heap.size w w' := by
 have hw1 := hT.size
 have HB : Hid (∀ i, i < n → w.cell? ⟨b, p + i, none⟩ = some (.int .u8 (B i))) := hB
 have HT : Hid (RTab w) := hT
 have HN : Hid (n = 64 * m) := hn
 clear hB hT hn
 go_enter Tryz.func73, Tryz.ntmps73
 go_wp2
 go_loopw [6] (fun v wr => ∃ t : Nat, t ≤ 64 ∧ v = .int .i64 t ∧ Hid (wr.heap.size = w.heap.size + 3) ∧ Hid (Mem w wr [(Cl 8 (fun j => .int .u64 (fnz (Eight.list ⟨h0, h1, h2, h3, h4, h5, h6, h7⟩) j))), (Cl 8 (fun _ => .int .u64 0)), Cl 64 (fun j => .int .u32 (if j < t then cubeAt j / 4294967296 else 0))])) (fun v _ => 64 - (intOf v).toNat)
 case atStart =>
  refine ⟨0, by omega, rfl, (by simp : _ = _), ?_⟩
  exact ((((Mem.nil w).alloc (by simp) _ _).alloc (by simp) _ _).alloc (by simp) _ _).congr rfl
 case round =>
  obtain ⟨t, ht, rfl, HS, HM⟩ := hrel
  by_cases h64 : t < 64
  ·have f0 : wr.cell? ⟨2, t, none⟩ = some (.int .u64 (cubeAt t)) := (HT.out.below HM.out.below hw1).cubes t (by omega)
   have fw : wr.frozen? ⟨w.heap.size + 2, t, none⟩ = false := HM.out.frozen 2 rfl t (by rw [Cl_length]; exact h64)
   obtain ⟨u, fu⟩ : ∃ u, wr.cell? ⟨w.heap.size + 2, t, none⟩ = some u := ⟨_, HM.out.cell 2 rfl t _ (Cl_at _ _ t h64)⟩
   have hu32 : IntKind.u32.wrap (cubeAt t / 4294967296) = cubeAt t / 4294967296 := cube_hi t (by omega)
   go_wp2
   go_roundw
   case rel =>
    refine ⟨t + 1, by omega, by go_num, sz_set HS.out, (HM.out.put 2 rfl t (by rw [Cl_length]; exact h64) (.int .u32 (cubeAt t / 4294967296))).congr ?_⟩
    rw [Cl_set]
    show [_, _, _] = [_, _, _]
    congr 3
    refine Cl_congr fun j hj => ?_
    by_cases e : j = t
    ·subst e
     rw [if_pos rfl, if_pos (by omega)]
    ·rw [if_neg e]
     by_cases e2 : j < t
     ·rw [if_pos e2, if_pos (by omega)]
     ·rw [if_neg e2, if_neg (by omega)]
   case measure => simp [intOf]; omega
  ·obtain rfl : t = 64 := by omega
   clear h64 ht
   have HM2 : Hid (Mem w (wr.alloc (.cells #[.int .u32 0, .int .u32 0, .int .u32 0, .int .u32 0, .int .u32 0, .int .u32 0, .int .u32 0, .int .u32 0] 175)) [(Cl 8 (fun j => .int .u64 (fnz (Eight.list ⟨h0, h1, h2, h3, h4, h5, h6, h7⟩) j))), (Cl 8 (fun _ => .int .u64 0)), (Cl 64 (fun j => .int .u32 (cubeAt j / 4294967296))), Cl 8 (fun j => .int .u32 0)]) := (HM.out.alloc (by rw [HS.out]; rfl) _ _).congr (by
    show [_, _, _, _] = [_, _, _, _]
    congr 3)
   have hsz := HS.out
   clear HM HS
   go_wp2
   generalize wr.alloc (.cells #[.int .u32 0, .int .u32 0, .int .u32 0, .int .u32 0, .int .u32 0, .int .u32 0, .int .u32 0, .int .u32 0] 175) = wa at HM2 ⊢
   clear hsz
   rw [show ((64 : Nat) : Int) = 64 from rfl]
   go_loopw [8] (fun v wr => ∃ t : Nat, t ≤ 8 ∧ v = .int .i64 t ∧ Hid (Mem w wr [(Cl 8 (fun j => .int .u64 (fnz (Eight.list ⟨h0, h1, h2, h3, h4, h5, h6, h7⟩) j))), (Cl 8 (fun _ => .int .u64 0)), (Cl 64 (fun j => .int .u32 (cubeAt j / 4294967296))), Cl 8 (fun j => .int .u32 (if j < t then fnz (Eight.list ⟨h0, h1, h2, h3, h4, h5, h6, h7⟩) j % 4294967296 else 0))])) (fun v _ => 8 - (intOf v).toNat)
   case atStart => exact ⟨0, by omega, rfl, HM2⟩
   case round =>
    obtain ⟨t, ht, rfl, HM⟩ := hrel
    clear HM2
    by_cases h8 : t < 8
    ·have f0 : wr.cell? ⟨w.heap.size, t, none⟩ = some (.int .u64 (fnz (Eight.list ⟨h0, h1, h2, h3, h4, h5, h6, h7⟩) t)) := HM.out.cell 0 rfl t _ (Cl_at _ _ t h8)
     have fw : wr.frozen? ⟨w.heap.size + 3, t, none⟩ = false := HM.out.frozen 3 rfl t (by rw [Cl_length]; exact h8)
     obtain ⟨u, fu⟩ : ∃ u, wr.cell? ⟨w.heap.size + 3, t, none⟩ = some u := ⟨_, HM.out.cell 3 rfl t _ (Cl_at _ _ t h8)⟩
     obtain ⟨x, hx⟩ : ∃ x, Hid (x = fnz (Eight.list ⟨h0, h1, h2, h3, h4, h5, h6, h7⟩) t) := ⟨_, rfl⟩
     rw [← hx.out] at f0
     go_wp2
     go_roundw
     case rel =>
      refine ⟨t + 1, by omega, by go_num, (HM.out.put 3 rfl t (by rw [Cl_length]; exact h8) (.int .u32 (x % 4294967296))).congr ?_⟩
      rw [Cl_set]
      show [_, _, _, _] = [_, _, _, _]
      congr 4
      refine Cl_congr fun j hj => ?_
      by_cases e : j = t
      ·subst e
       rw [if_pos rfl, if_pos (by omega), hx.out]
      ·rw [if_neg e]
       by_cases e2 : j < t
       ·rw [if_pos e2, if_pos (by omega)]
       ·rw [if_neg e2, if_neg (by omega)]
     case measure => simp [intOf]; omega
    ·obtain rfl : t = 8 := by omega
     clear h8 ht
     have HM3 : Hid (Mem w wr [(Cl 8 (fun j => .int .u64 (fnz (Eight.list ⟨h0, h1, h2, h3, h4, h5, h6, h7⟩) j))), (Cl 8 (fun _ => .int .u64 0)), (Cl 64 (fun j => .int .u32 (cubeAt j / 4294967296))), (takes32 cubeAt B ⟨h0, h1, h2, h3, h4, h5, h6, h7⟩ 0).low.cells32]) := HM.out.congr (by
      show [_, _, _, _] = [_, _, _, _]
      congr 4)
     clear HM
     go_wp2
     rw [show ((8 : Nat) : Int) = 8 from rfl]
     go_loopw [9] (fun v wr => ∃ i : Nat, i ≤ m ∧ v = .int .i64 ((64 * i : Nat) : Int) ∧ Hid (Mem w wr [(Cl 8 (fun j => .int .u64 (fnz (Eight.list ⟨h0, h1, h2, h3, h4, h5, h6, h7⟩) j))), (Cl 8 (fun _ => .int .u64 0)), (Cl 64 (fun j => .int .u32 (cubeAt j / 4294967296))), (takes32 cubeAt B ⟨h0, h1, h2, h3, h4, h5, h6, h7⟩ i).low.cells32])) (fun v _ => n - (intOf v).toNat)
     case atStart => exact ⟨0, by omega, rfl, HM3⟩
     case round =>
      obtain ⟨i, hi, rfl, HM⟩ := hrel
      clear HM3
      obtain ⟨q, hq⟩ : ∃ q, q = 64 * i := ⟨_, rfl⟩
      obtain ⟨E, HE⟩ : ∃ E : Eight, Hid (E = (takes32 cubeAt B ⟨h0, h1, h2, h3, h4, h5, h6, h7⟩ i).low) := ⟨_, rfl⟩
      rw [← HE.out] at HM
      rw [← hq]
      have HQ : Hid (q = 64 * i) := hq
      clear hq
      by_cases hlt : i < m
      ·have hqn : q < n := by have := HQ.out; have := HN.out; omega
       have hq64 : IntKind.i64.wrap ((q : Int) + 64) = (q : Int) + 64 := by
        have := HQ.out; have := HN.out
        rw [IntKind.wrap_i64]
        omega
       have HSl : Hid (∀ u, (Instr.slice 24 (.slice (some ⟨b, p, none⟩) n cap) (some (.int .i64 (q : Nat))) (some (.int .i64 ((q : Int) + 64))) none).run Tryz.prog u = .ok (.slice (some ⟨b, p + q, none⟩) 64 (cap - q)) u) := fun u => slice22 u b p n cap q 64 64 rfl (by omega) (by have := HQ.out; have := HN.out; omega)
       obtain ⟨E2, HE2⟩ : ∃ E2 : Eight, Hid (E2 = takes32 cubeAt B ⟨h0, h1, h2, h3, h4, h5, h6, h7⟩ (i + 1)) := ⟨_, rfl⟩
       have HCall : Hid (∀ u, Below wr.heap.size wr u → Calls Tryz.prog 104 #[.agg E.cells32.toArray, .slice (some ⟨b, p + q, none⟩) 64 (cap - q), .agg (Cl 64 (fun j => .int .u32 (cubeAt j / 4294967296))).toArray] u fun e w' => e = .returned (.agg E2.cells32.toArray) ∧ Below wr.heap.size wr w') := fun u hu => by
        have hbu : b < wr.heap.size := Nat.lt_of_lt_of_le hbw HM.out.below.size
        refine (taken32_walk E.a E.b E.c E.d E.e E.f E.g E.k (Cl 64 (fun j => .int .u32 (cubeAt j / 4294967296))).toArray cubeAt (fun j => B (64 * i + j)) b (p + q) (cap - q) u (fun t ht => by rw [List.getElem?_toArray]; exact Cl_at _ _ t ht) (by have := HQ.out; have := HN.out; omega) (by omega) (fun j hj => ?_)).mono fun e w' h => ⟨?_, hu.trans (h.2.mono hu.size)⟩
        ·rw [hu.cell hbu, HM.out.below.cell hbw, Nat.add_assoc, HB.out (q + j) (by have := HQ.out; have := HN.out; omega), HQ.out]
        ·rw [h.1, HE2.out]
         have e1 : takes32 cubeAt B ⟨h0, h1, h2, h3, h4, h5, h6, h7⟩ (i + 1) = block32 cubeAt (fun j => B (64 * i + j)) (takes32 cubeAt B ⟨h0, h1, h2, h3, h4, h5, h6, h7⟩ i) := rfl
         rw [e1, ← low_block, ← HE.out]
       have hS0 : Below wr.heap.size wr wr.drew := (Below.refl _ _).drew
       clear HE
       go_wp2
       refine wp_region_noPanic ?_
       refine wp_region_till (fun u => Below wr.heap.size wr u) 7 (by kernel_rfl) (by decide) (by decide +kernel) (by decide +kernel) (by decide +kernel) (fun inv => ?_)
       refine till_at 0 38 (.agg (E.cells32).toArray) inv rfl rfl (by decide) (by decide +kernel) (by decide +kernel) (fun _ _ _ h => h) (hS0) (yieldsIf_load_mid (by kernel_rfl) 175 (.tmp 7) rfl (w.heap.size + 3) 0 rfl E.cells32 _ (fun u hu => ((HM.out.later hu).holds 3 _ rfl).1) Tryz.underlying175 rfl size94) (fun inv' => ?_)
       clear inv; have inv := inv'; clear inv'
       simp only [List.setIfInBounds_toArray, List.set_cons_zero, List.set_cons_succ]
       refine till_at 1 39 (.slice (some ⟨b, p, none⟩) n cap) inv rfl rfl (by decide) (by decide +kernel) (by decide +kernel) (fun _ _ _ h => h) (hS0) (Or.inl ⟨by rfl, fun w' hS' => by go_simp⟩) (fun inv' => ?_)
       clear inv; have inv := inv'; clear inv'
       simp only [List.setIfInBounds_toArray, List.set_cons_zero, List.set_cons_succ]
       refine till_at 2 40 (.int .i64 (q : Nat)) inv rfl rfl (by decide) (by decide +kernel) (by decide +kernel) (fun _ _ _ h => h) (hS0) (Or.inl ⟨by rfl, fun w' hS' => by go_simp⟩) (fun inv' => ?_)
       clear inv; have inv := inv'; clear inv'
       simp only [List.setIfInBounds_toArray, List.set_cons_zero, List.set_cons_succ]
       refine till_at 3 41 (.int .i64 (q : Nat)) inv rfl rfl (by decide) (by decide +kernel) (by decide +kernel) (fun _ _ _ h => h) (hS0) (Or.inl ⟨by rfl, fun w' hS' => by go_simp⟩) (fun inv' => ?_)
       clear inv; have inv := inv'; clear inv'
       simp only [List.setIfInBounds_toArray, List.set_cons_zero, List.set_cons_succ]
       refine till_at 4 42 (.int .i64 ((q : Int) + 64)) inv rfl rfl (by decide) (by decide +kernel) (by decide +kernel) (fun _ _ _ h => h) (hS0) (Or.inl ⟨by rfl, fun w' hS' => by go_simp⟩) (fun inv' => ?_)
       clear inv; have inv := inv'; clear inv'
       simp only [List.setIfInBounds_toArray, List.set_cons_zero, List.set_cons_succ]
       refine till_at 5 43 (.slice (some ⟨b, p + q, none⟩) 64 (cap - q)) inv rfl rfl (by decide) (by decide +kernel) (by decide +kernel) (fun _ _ _ h => h) (hS0) (Or.inl ⟨by rfl, fun w' hS' => by have q := HSl.out w'; go_simp⟩) (fun inv' => ?_)
       clear inv; have inv := inv'; clear inv'
       simp only [List.setIfInBounds_toArray, List.set_cons_zero, List.set_cons_succ]
       refine till_at 6 44 (.agg ((Cl 64 (fun j => .int .u32 (cubeAt j / 4294967296)))).toArray) inv rfl rfl (by decide) (by decide +kernel) (by decide +kernel) (fun _ _ _ h => h) (hS0) (yieldsIf_load_mid (by kernel_rfl) 173 (.tmp 5) rfl (w.heap.size + 2) 0 rfl (Cl 64 (fun j => .int .u32 (cubeAt j / 4294967296))) _ (fun u hu => ((HM.out.later hu).holds 2 _ rfl).1) Tryz.underlying173 rfl size92) (fun inv' => ?_)
       clear inv; have inv := inv'; clear inv'
       simp only [List.setIfInBounds_toArray, List.set_cons_zero, List.set_cons_succ]
       refine till_tail (i := 7) (by decide +kernel) (by decide) rfl (fun K hK => ?_)
       go_simp
       refine (HCall.out _ hS0).mono ?_
       rintro e1 w1 ⟨rfl, hw1⟩
       go_wp2_with fail
       refine hK.out _ _ ?_
       clear hK K
       try simp only [List.setIfInBounds_toArray, List.set_cons_zero, List.set_cons_succ]
       refine till_tail (i := 8) (by decide +kernel) (by decide) rfl (fun K hK => ?_)
       rw [if_pos (by rfl)]
       refine wp_store_mid 175 (.tmp 7) (.tmp 45) rfl (w.heap.size + 3) 0 (Eight.cells32 E2).toArray rfl rfl (((HM.out.later hw1).holds 3 _ rfl).2) (size94) (cells32_one _) ?_
       refine hK.out _ _ ?_
       clear hK K
       try simp only [List.setIfInBounds_toArray, List.set_cons_zero, List.set_cons_succ]
       refine till_done (by decide +kernel) ?_ _
       refine NoPanic.normal ?_
       go_wp2
       go_roundw
       case rel =>
        refine ⟨i + 1, by omega, val_eq (by have := HQ.out; omega), ((HM.out.later hw1).store 3 rfl E2.cells32 rfl).congr ?_⟩
        show [_, _, _, _] = [_, _, _, _]
        have e1 : takes32 cubeAt B ⟨h0, h1, h2, h3, h4, h5, h6, h7⟩ (i + 1) = block32 cubeAt (fun j => B (64 * i + j)) (takes32 cubeAt B ⟨h0, h1, h2, h3, h4, h5, h6, h7⟩ i) := rfl
        rw [HE2.out, e1, low_low]
       case measure => simp [intOf]; omega
      ·have hqn : ¬ q < n := by have := HQ.out; have := HN.out; omega
       have him : i = m := by omega
       go_wp2
       go_loopw [10] (fun v wr => ∃ t : Nat, t ≤ 8 ∧ v = .int .i64 t ∧ Hid (Mem w wr [Cl 8 (fun j => .int .u64 (if j < t then fnz E.list j else fnz (Eight.list ⟨h0, h1, h2, h3, h4, h5, h6, h7⟩) j)), (Cl 8 (fun _ => .int .u64 0)), (Cl 64 (fun j => .int .u32 (cubeAt j / 4294967296))), Cl 8 (fun j => .int .u32 (fnz E.list j))])) (fun v _ => 8 - (intOf v).toNat)
       case atStart => exact ⟨0, by omega, rfl, HM⟩
       case round =>
        obtain ⟨t, ht, rfl, HM4⟩ := hrel
        clear HM
        by_cases h8 : t < 8
        ·have f0 : wr.cell? ⟨w.heap.size + 3, t, none⟩ = some (.int .u32 (fnz E.list t)) := HM4.out.cell 3 rfl t _ (Cl_at _ _ t h8)
         have fw : wr.frozen? ⟨w.heap.size, t, none⟩ = false := HM4.out.frozen 0 rfl t (by rw [Cl_length]; exact h8)
         obtain ⟨u, fu⟩ : ∃ u, wr.cell? ⟨w.heap.size, t, none⟩ = some u := ⟨_, HM4.out.cell 0 rfl t _ (Cl_at _ _ t h8)⟩
         obtain ⟨x, hx⟩ : ∃ x, Hid (x = fnz E.list t) := ⟨_, rfl⟩
         rw [← hx.out] at f0
         have hxw : IntKind.u64.wrap x = x := by
          rw [IntKind.wrap_u64, hx.out, HE.out, low_at _ t h8]
          omega
         go_wp2
         go_roundw
         case rel =>
          refine ⟨t + 1, by omega, by go_num, (HM4.out.put 0 rfl t (by rw [Cl_length]; exact h8) (.int .u64 x)).congr ?_⟩
          rw [Cl_set]
          show [_, _, _, _] = [_, _, _, _]
          congr 1
          refine Cl_congr fun j hj => ?_
          by_cases e : j = t
          ·subst e
           rw [if_pos rfl, if_pos (by omega), hx.out]
          ·rw [if_neg e]
           by_cases e2 : j < t
           ·rw [if_pos e2, if_pos (by omega)]
           ·rw [if_neg e2, if_neg (by omega)]
         case measure => simp [intOf]; omega
        ·obtain rfl : t = 8 := by omega
         have HM5 : Hid (Mem w wr [E.cells, (Cl 8 (fun _ => .int .u64 0)), (Cl 64 (fun j => .int .u32 (cubeAt j / 4294967296))), Cl 8 (fun j => .int .u32 (fnz E.list j))]) := HM4.out.congr (by
          show [_, _, _, _] = [_, _, _, _]
          congr 1)
         clear HM4 h8 ht
         have HY : Hid (wr.there (w.heap.size + 1) 0 E.cells.toArray.size) := (HM5.out.holds 1 _ rfl).2
         have HR : Hid (wr.rangeAt w.heap.size 0 E.cells) := (HM5.out.holds 0 _ rfl).1
         go_wp2_with (first
          | (refine wpList_load_mid (by rfl) 136 (.tmp 2) (by rfl) w.heap.size 0 (by rfl) E.cells _ HR.out Tryz.underlying136 rfl size70 ?_)
          | (refine wpList_store_mid (by rfl) 136 (.tmp 4) (.tmp 56) (by rfl) (w.heap.size + 1) 0 E.cells.toArray (by rfl) (by rfl) HY.out size70 (cellsE_one E) ?_)
          | fail)
         have hl := run_loadVar_mid (P := Tryz.prog) (wr.setCells (w.heap.size + 1) 0 E.cells) (w.heap.size + 1) 0 136 E.cells _ (World.rangeAt_setCells_same wr (w.heap.size + 1) 0 E.cells HY.out) Tryz.underlying136 rfl size70
         refine bodyPost_ret (v := .agg E.cells.toArray) ?_ rfl ⟨by rw [HE.out, him], below_setCells _ (by omega) _ _ _ HM5.out.below⟩
         rw [results_cell1 Tryz.results73]
         simp [Act.put, asAddr, hl]
end Go.Proofs.YtcnikfikpnnblaaGreatDoor.Dg
