import Derived.Test.YtoanndhaopgkjaaDoorPart00
import Derived.Test.YtoanndhaopgkjaaDoorPart06
import Derived.Test.YtoanndhaopgkjaaDoorPart05
namespace Go.Proofs.YtoanndhaopgkjaaDoor
open Go.RowKit
set_option linter.unusedVariables false
set_option linter.unusedSimpArgs false
theorem make64 (u : World) : (Instr.makeSlice 25 (.int .i64 64) (.int .i64 64)).run Tryd.prog u = .ok (.slice (some ⟨u.heap.size, 0, none⟩) 64 64) (u.alloc (.cells (madeCells #[.int .u8 0] 64) 5)) := make_u8 u 64 (by decide)
theorem parts3_alloc {u : World} (t : TypeId) (x y z : Value) (xs ys zs : List Int) (g : Nat) (hx : View u x xs) (hy : View u y ys) (hz : View u z zs) (hg : u.heap.size ≠ g) (hox : xs ≠ [] → ∀ b off l c, x = .slice (some ⟨b, off, none⟩) l c → b ≠ g) (hoy : ys ≠ [] → ∀ b off l c, y = .slice (some ⟨b, off, none⟩) l c → b ≠ g) (hoz : zs ≠ [] → ∀ b off l c, z = .slice (some ⟨b, off, none⟩) l c → b ≠ g) : Parts (u.alloc (.cells #[x, y, z] t)) g (.slice (some ⟨u.heap.size, 0, none⟩) 3 3) [xs, ys, zs] := by
  refine ⟨_, 3, rfl, by simp, by simp [maxLen], .inr ⟨u.heap.size, 0, rfl, hg, fun i hi => ?_⟩⟩
  have hi' : i < 3 := by simpa using hi
  match i, hi' with
  | 0, _ => exact ⟨x, World.cell?_alloc_at _ _ _ _ rfl, hx.kept (fun q hq => Below.heap_alloc u _ q hq), hox⟩
  | 1, _ => exact ⟨y, World.cell?_alloc_at _ _ _ _ rfl, hy.kept (fun q hq => Below.heap_alloc u _ q hq), hoy⟩
  | 2, _ => exact ⟨z, World.cell?_alloc_at _ _ _ _ rfl, hz.kept (fun q hq => Below.heap_alloc u _ q hq), hoz⟩
theorem Parts.below {w w' : World} {g : Nat} {v : Value} {yss : List (List Int)} {B : Nat} (h : Parts w g v yss) (hb : Below B w w') (hB : ∀ b p l c, v = .slice (some ⟨b, p, none⟩) l c → b < B) (hv : ∀ i, i < yss.length → yss.getD i [] ≠ [] → ∀ x, View w x (yss.getD i []) → ∀ b p l c, x = .slice (some ⟨b, p, none⟩) l c → b < B) : Parts w' g v yss := by
  obtain ⟨a, c, he, h1, h2, h3⟩ := h
  refine ⟨a, c, he, h1, h2, h3.imp id ?_⟩
  rintro ⟨b, p, ha, hbg, hc⟩
  refine ⟨b, p, ha, hbg, fun i hi => ?_⟩
  obtain ⟨x, hx, hvx, hne⟩ := hc i hi
  refine ⟨x, ?_, ?_, hne⟩
  · rw [hb.cell (p := ⟨b, p + i, none⟩) (hB b p yss.length c (by rw [he, ha]))]
    exact hx
  · obtain ⟨a2, c2, e2, q1, q2, q3, q4⟩ := hvx
    refine ⟨a2, c2, e2, q1, q2, q3, ?_⟩
    rcases q4 with q4 | ⟨b2, o2, ha2, hc2⟩
    · exact .inl q4
    · by_cases hne2 : yss.getD i [] = []
      · exact .inl hne2
      · refine .inr ⟨b2, o2, ha2, fun j hj => ?_⟩
        rw [hb.cell (p := ⟨b2, o2 + j, none⟩) (hv i hi hne2 x ⟨a2, c2, e2, q1, q2, q3, .inr ⟨b2, o2, ha2, hc2⟩⟩ b2 o2 _ c2 (by rw [e2, ha2]))]
        exact hc2 j hj
/-- What the digest is of. -/
def sumI (L : List Int) : List Int := sumD 256 (L.take 448 ++ List.replicate 64 0 ++ L.drop 512)
theorem View.tables {w w' : World} {v : Value} {zs : List Int} (h : View w v zs) (hb : Below w.heap.size w w') : View w' v zs := h.kept (fun q hq => hb.block q hq)
set_option maxRecDepth 100000 in
theorem sumOf_ok (b o : Nat) (N cp : Nat) (L : List Int) (w : World) (hT : Tables w) (hN : L.length = N) (h5 : 512 < N) (hv : View w (.slice (some ⟨b, o, none⟩) N cp) L) (hm : N ≤ 33554432) :
    Calls Tryd.prog 37 #[.slice (some ⟨b, o, none⟩) N cp] w fun e w' => ∃ g, e = .returned (.slice (some ⟨g, 0, none⟩) 32 32) ∧ w'.ownsRow w.heap.size 5 1 (.slice (some ⟨g, 0, none⟩) 32 32) 32 (cellsU8 (sumI L)) ∧ Below w.heap.size w w' := by
  have hc : N ≤ cp := by
    obtain ⟨a', c', he, h1, h2, h3, h4⟩ := hv
    injection he with e1 e2 e3
    omega
  have hvlt : b < w.heap.size := view_lt hv (by intro e; rw [e] at hN; simp at hN; omega) b o N cp rfl
  have HX1 : Hid (sliced (some ⟨b, o, none⟩) 0 448 cp 1 = .slice (some ⟨b, o, none⟩) 448 cp) := by
    show _ = _
    rw [sliced, if_neg (by omega)]
    rfl
  have HX2 : Hid (sliced (some ⟨b, o, none⟩) 512 N cp 1 = .slice (some ⟨b, o + 512, none⟩) (N - 512) (cp - 512)) := by
    show _ = _
    rw [sliced, if_neg (by omega)]
    rfl
  have s1 : ∀ u, (Instr.slice 25 (.slice (some ⟨b, o, none⟩) N cp) none (some (.int .i64 448)) none).run Tryd.prog u = .ok (.slice (some ⟨b, o, none⟩) 448 cp) u := fun u => by rw [← HX1.out]; exact slice_h u _ N cp 448 (by omega)
  have s2 : ∀ u, (Instr.slice 25 (.slice (some ⟨b, o, none⟩) N cp) (some (.int .i64 512)) none none).run Tryd.prog u = .ok (.slice (some ⟨b, o + 512, none⟩) (N - 512) (cp - 512)) u := fun u => by rw [← HX2.out]; exact slice_l u _ N cp 512 (by omega) (by omega)
  have mk := make64
  have HV : Hid (View w (.slice (some ⟨b, o, none⟩) 448 cp) (L.take 448) ∧ View w (.slice (some ⟨b, o + 512, none⟩) (N - 512) (cp - 512)) (L.drop 512)) := by
    refine ⟨?_, ?_⟩
    · have q := view_sliced hv 0 448 (by omega) (by omega)
      rw [HX1.out] at q
      simpa using q
    · have q := view_sliced hv 512 N (by omega) (Nat.le_refl _)
      rw [HX2.out] at q
      rwa [List.take_of_length_le (by simp; omega)] at q
  obtain ⟨l2, HL2⟩ : ∃ l2 : Nat, Hid (l2 = N - 512) := ⟨_, rfl⟩
  obtain ⟨c2, HC2⟩ : ∃ l2 : Nat, Hid (l2 = cp - 512) := ⟨_, rfl⟩
  obtain ⟨o2, HO2⟩ : ∃ l2 : Nat, Hid (l2 = o + 512) := ⟨_, rfl⟩
  rw [← HL2.out, ← HC2.out, ← HO2.out] at HV s2
  have HT : Hid (Tables w) := hT
  clear hv hT HX1 HX2
  have hS0 : Below w.heap.size w w.drew := (Below.refl _ _).drew
  obtain ⟨R, HRR⟩ : ∃ R : List Int, Hid (R = sumI L) := ⟨_, rfl⟩
  rw [← HRR.out]
  go_enter Tryd.func37, Tryd.ntmps37
  go_upto_region 1 with fail
  refine wp_region_noPanic ?_
  refine wp_region_held_drew (S := fun u => Below w.heap.size w u) (by kernel_rfl) (hS0) (fun _ => ?_)
  refine takeH_at 0 6 (.slice (some ⟨b, o, none⟩) N cp) rfl rfl (by kernel_rfl) (by kernel_rfl) (by kernel_rfl) (fun _ _ _ h => h) (hS0) (Or.inl ⟨by kernel_rfl, fun w' hS' => by go_simp⟩) ?_
  simp only [List.setIfInBounds_toArray, List.set_cons_zero, List.set_cons_succ]
  refine takeH_at 1 7 (.slice (some ⟨b, o, none⟩) 448 cp) rfl rfl (by kernel_rfl) (by kernel_rfl) (by kernel_rfl) (fun _ _ _ h => h) (hS0) (Or.inl ⟨by kernel_rfl, fun w' hS' => by have q := s1 w'; go_simp⟩) ?_
  simp only [List.setIfInBounds_toArray, List.set_cons_zero, List.set_cons_succ]
  refine takeH_at 3 9 (.slice (some ⟨b, o, none⟩) N cp) rfl rfl (by kernel_rfl) (by kernel_rfl) (by kernel_rfl) (fun _ _ _ h => h) (hS0) (Or.inl ⟨by kernel_rfl, fun w' hS' => by go_simp⟩) ?_
  simp only [List.setIfInBounds_toArray, List.set_cons_zero, List.set_cons_succ]
  refine takeH_at 4 10 (.slice (some ⟨b, o2, none⟩) l2 c2) rfl rfl (by kernel_rfl) (by kernel_rfl) (by kernel_rfl) (fun _ _ _ h => h) (hS0) (Or.inl ⟨by kernel_rfl, fun w' hS' => by have q := s2 w'; go_simp⟩) ?_
  simp only [List.setIfInBounds_toArray, List.set_cons_zero, List.set_cons_succ]
  refine wpAnyH_ready (rs := [2]) (by kernel_rfl) (by simp) ?_
  refine AllReadyH.cons rfl (fun Kx hK => ?_) AllReadyH.nil
  rw [if_pos (by kernel_rfl)]
  go_simp
  have HA : Hid (Rw (w.alloc (.cells (madeCells #[.int .u8 0] 64) 5)).drew w.heap.size (List.replicate 64 0) ∧ Below w.heap.size w (w.alloc (.cells (madeCells #[.int .u8 0] 64) 5)).drew ∧ w.heap.size < (w.alloc (.cells (madeCells #[.int .u8 0] 64) 5)).drew.heap.size) := ⟨made_rw w 64, (al1 w _).drew, by simp⟩
  generalize (w.alloc (.cells (madeCells #[.int .u8 0] 64) 5)).drew = w1 at HA ⊢
  refine hK.out _ _ HA.out.2.1 (fun _ => ?_)
  clear hK Kx
  try simp only [Act.put, List.setIfInBounds_toArray, List.set_cons_zero, List.set_cons_succ]
  refine wpAnyH_ready (rs := [5]) (by kernel_rfl) (by simp) ?_
  refine AllReadyH.cons rfl (fun Kx hK => ?_) AllReadyH.nil
  rw [if_pos (by kernel_rfl)]
  go_simp
  have HB : Hid (Below w.heap.size w (w1.alloc (.cells #[.slice (some ⟨b, o, none⟩) 448 cp, .slice (some ⟨w.heap.size, 0, none⟩) 64 64, .slice (some ⟨b, o2, none⟩) l2 c2] 25)) ∧ ∀ u g, Below (w1.alloc (.cells #[.slice (some ⟨b, o, none⟩) 448 cp, .slice (some ⟨w.heap.size, 0, none⟩) 64 64, .slice (some ⟨b, o2, none⟩) l2 c2] 25)).heap.size (w1.alloc (.cells #[.slice (some ⟨b, o, none⟩) 448 cp, .slice (some ⟨w.heap.size, 0, none⟩) 64 64, .slice (some ⟨b, o2, none⟩) l2 c2] 25)) u → (w1.alloc (.cells #[.slice (some ⟨b, o, none⟩) 448 cp, .slice (some ⟨w.heap.size, 0, none⟩) 64 64, .slice (some ⟨b, o2, none⟩) l2 c2] 25)).heap.size ≤ g → Parts u g (.slice (some ⟨w1.heap.size, 0, none⟩) 3 3) [L.take 448, List.replicate 64 0, L.drop 512]) := by
    have hs1 := HA.out.2.2
    refine ⟨HA.out.2.1.trans ((al1 w1 _).mono HA.out.2.1.size), fun u g hu hg => ?_⟩
    simp only [World.size_alloc] at hg
    have v1 := HV.out.1.tables HA.out.2.1
    have v2 := HA.out.1.view (by simp [maxLen])
    have v3 := HV.out.2.tables HA.out.2.1
    rw [List.length_replicate] at v2
    refine Parts.below (parts3_alloc 25 _ _ _ _ _ _ g v1 v2 v3 (by omega) (fun _ b' p' l' c' e => ?_) (fun _ b' p' l' c' e => ?_) (fun _ b' p' l' c' e => ?_)) hu (fun b' p' l' c' e => ?_) (fun i hi hne x hx b' p' l' c' e => ?_)
    · injection e with e; injection e with e; injection e with e; omega
    · injection e with e; injection e with e; injection e with e; omega
    · injection e with e; injection e with e; injection e with e; omega
    · injection e with e; injection e with e; injection e with e; simp; omega
    · exact view_lt hx hne b' p' l' c' e
  have HZ : Hid (Tables (w1.alloc (.cells #[.slice (some ⟨b, o, none⟩) 448 cp, .slice (some ⟨w.heap.size, 0, none⟩) 64 64, .slice (some ⟨b, o2, none⟩) l2 c2] 25))) := HT.out.below HB.out.1 HT.out.size
  generalize (w1.alloc (.cells #[.slice (some ⟨b, o, none⟩) 448 cp, .slice (some ⟨w.heap.size, 0, none⟩) 64 64, .slice (some ⟨b, o2, none⟩) l2 c2] 25)) = w2 at HB HZ ⊢
  refine hK.out _ _ HB.out.1 (fun _ => ?_)
  clear hK Kx
  try simp only [Act.put, List.setIfInBounds_toArray, List.set_cons_zero, List.set_cons_succ]
  refine wpAnyH_ready (rs := [6]) (by kernel_rfl) (by simp) ?_
  refine AllReadyH.cons rfl (fun Kx hK => ?_) AllReadyH.nil
  rw [if_pos (by kernel_rfl)]
  go_simp
  refine (dsum 256 [L.take 448, List.replicate 64 0, L.drop 512] (.slice (some ⟨w1.heap.size, 0, none⟩) 3 3) _ (Or.inr (Or.inl rfl)) HB.out.2 HZ.out (by show _ ≤ _; simp; omega)).mono ?_
  rintro e1 w3 ⟨g, rfl, ho, hb⟩
  have HO : Hid (w3.ownsRow w2.heap.size 5 1 (.slice (some ⟨g, 0, none⟩) 32 32) 32 (cellsU8 R) ∧ Below w2.heap.size w2 w3) := by
    rw [HRR.out]
    refine ⟨?_, hb⟩
    have e : [L.take 448, List.replicate 64 0, L.drop 512].flatten = L.take 448 ++ List.replicate 64 0 ++ L.drop 512 := by simp
    rw [e] at ho
    exact ho
  clear ho hb
  have hS3 : Below w.heap.size w w3 := HB.out.1.trans (HO.out.2.mono HB.out.1.size)
  go_wp2_with fail
  refine hK.out _ _ hS3 (fun _ => ?_)
  clear hK Kx
  try simp only [Act.put, List.setIfInBounds_toArray, List.set_cons_zero, List.set_cons_succ]
  simp only [show szOf 256 = 32 from rfl]
  refine takeH_at 7 5 (.tuple #[.slice (some ⟨g, 0, none⟩) 32 32, .int .i64 0]) rfl rfl (by kernel_rfl) (by kernel_rfl) (by kernel_rfl) (fun _ _ _ h => h) (hS3) (Or.inl ⟨by kernel_rfl, fun w' hS' => by go_simp⟩) ?_
  simp only [List.setIfInBounds_toArray, List.set_cons_zero, List.set_cons_succ]
  refine takeH_at 8 13 (.slice (some ⟨g, 0, none⟩) 32 32) rfl rfl (by kernel_rfl) (by kernel_rfl) (by kernel_rfl) (fun _ _ _ h => h) (hS3) (Or.inl ⟨by kernel_rfl, fun w' hS' => by go_simp⟩) ?_
  simp only [List.setIfInBounds_toArray, List.set_cons_zero, List.set_cons_succ]
  refine takeH_at 9 14 (.int .i64 0) rfl rfl (by kernel_rfl) (by kernel_rfl) (by kernel_rfl) (fun _ _ _ h => h) (hS3) (Or.inl ⟨by kernel_rfl, fun w' hS' => by go_simp⟩) ?_
  simp only [List.setIfInBounds_toArray, List.set_cons_zero, List.set_cons_succ]
  refine takeH_at 10 3 (.slice (some ⟨g, 0, none⟩) 32 32) rfl rfl (by kernel_rfl) (by kernel_rfl) (by kernel_rfl) (fun _ _ _ h => h) (hS3) (Or.inl ⟨by kernel_rfl, fun w' hS' => by go_simp⟩) ?_
  simp only [List.setIfInBounds_toArray, List.set_cons_zero, List.set_cons_succ]
  refine takeH_at 11 4 (.int .i64 0) rfl rfl (by kernel_rfl) (by kernel_rfl) (by kernel_rfl) (fun _ _ _ h => h) (hS3) (Or.inl ⟨by kernel_rfl, fun w' hS' => by go_simp⟩) ?_
  simp only [List.setIfInBounds_toArray, List.set_cons_zero, List.set_cons_succ]
  refine wpAnyH_done (by kernel_rfl) ?_ _
  refine NoPanic.normal ?_
  go_wp2
  go_ret
  exact ⟨g, rfl, HO.out.1.mono HB.out.1.size, hS3⟩
end Go.Proofs.YtoanndhaopgkjaaDoor
namespace Go.Proofs.YtoanndhaopgkjaaDoor
open Go.RowKit
set_option linter.unusedVariables false
set_option linter.unusedSimpArgs false
/-- A copy that can be laid down. -/
structure Good (c : Hc) : Prop where
  head : headB c.head = true
  seq : seqB c.seq = true
  salt : c.salt.size = 64
  label : plainB c.label 48 = true
  uuid : plainB c.uuid 40 = true
  sub : plainB c.sub 48 = true
  text : plainB c.text (c.head - 4096) = true
theorem plainB_lt {s : ByteArray} {n : Int} (h : plainB s n = true) : (s.size : Int) < n := by
  unfold plainB at h
  simp at h
  exact h.1
theorem told_len (c : Hc) (hg : Good c) (k : Nat) (hk : k < 13) : (toldL (fldN k) c).length ≤ fldS k := by
  have h1 := plainB_lt hg.label
  have h2 := plainB_lt hg.uuid
  have h3 := plainB_lt hg.sub
  have h4 := hg.salt
  match k, hk with
  | 0, _ => show (magicL c.second).length ≤ 6; cases c.second <;> decide
  | 1, _ => show (beL 2 2).length ≤ 2; rw [beL_length]; decide
  | 2, _ => show (beL c.head 8).length ≤ 8; rw [beL_length]; decide
  | 3, _ => show ([] : List Int).length ≤ 32; decide
  | 4, _ => show (beL c.seq 8).length ≤ 8; rw [beL_length]; decide
  | 5, _ => show (nums c.label).length ≤ 48; rw [nums_length]; omega
  | 6, _ => show sha256L.length ≤ 32; decide
  | 7, _ => show (nums c.salt).length ≤ 64; rw [nums_length]; omega
  | 8, _ => show (nums c.uuid).length ≤ 40; rw [nums_length]; omega
  | 9, _ => show (nums c.sub).length ≤ 48; rw [nums_length]; omega
  | 10, _ => show (beL c.start 8).length ≤ 8; rw [beL_length]; decide
  | 11, _ => show ([] : List Int).length ≤ 184; decide
  | 12, _ => show ([] : List Int).length ≤ 3616; decide
theorem toldL_range (c : Hc) (n : Nat) : ∀ z ∈ toldL n c, 0 ≤ z ∧ z < 256 := by
  have hn : ∀ s : ByteArray, ∀ z ∈ nums s, 0 ≤ z ∧ z < 256 := fun s z hz => by
    obtain ⟨i, hi, rfl⟩ := List.getElem_of_mem hz
    have := nums_range s i
    simpa [List.getD_eq_getElem?_getD, List.getElem?_eq_getElem hi] using this
  unfold toldL
  split
  · intro z hz
    unfold magicL at hz
    split at hz <;> simp at hz <;> omega
  · exact beL_range _ _
  · exact beL_range _ _
  · exact beL_range _ _
  · exact hn _
  · intro z hz
    simp [sha256L] at hz
    omega
  · exact hn _
  · exact hn _
  · exact hn _
  · exact beL_range _ _
  · intro z hz
    cases hz
theorem fld_fit (k : Nat) (hk : k < 13) : fldA k + fldS k ≤ 4096 := by
  match k, hk with
  | 0, _ | 1, _ | 2, _ | 3, _ | 4, _ | 5, _ | 6, _ | 7, _ | 8, _ | 9, _ | 10, _ | 11, _ | 12, _ => decide
theorem laysL_length (c : Hc) (hg : Good c) (k : Nat) (hk : k ≤ 13) : (laysL c k).length = c.head.toNat := by
  have h := headB_le hg.head
  induction k with
  | zero => simp [laysL]
  | succ k ih =>
    have h1 := told_len c hg k (by omega)
    have h2 := fld_fit k (by omega)
    rw [laysL, layL_length (by rw [ih (by omega)]; omega), ih (by omega)]
theorem preL_length (c : Hc) (hg : Good c) : (preL c).length = c.head.toNat := by
  have h := headB_le hg.head
  have h1 := plainB_lt hg.text
  rw [preL, layL_length (by rw [laysL_length c hg 13 (by decide), nums_length]; omega), laysL_length c hg 13 (by decide)]
/-- All of a copy's bytes. -/
def packL (c : Hc) : List Int := layL (preL c) 448 (sumI (preL c))
theorem gb_of {w u : World} (g : Nat) (h : Below w.heap.size w u) : w.grownBy u (some g) := ⟨h.os, h.tape, h.output, h.size, fun k hk _ => h.block k hk⟩
theorem gb_below {w u v : World} {g : Nat} (h : w.grownBy u (some g)) (k : Below u.heap.size u v) : w.grownBy v (some g) :=
  ⟨k.os.trans h.os, k.tape.trans h.tape, k.output.trans h.output, Nat.le_trans h.size k.size, fun i hi hn => (k.block i (Nat.lt_of_lt_of_le hi h.size)).trans (h.block i hi hn)⟩
theorem gb_trans {w u v : World} {g : Nat} (h : w.grownBy u (some g)) (k : u.grownBy v (some g)) : w.grownBy v (some g) :=
  ⟨k.os.trans h.os, k.tape.trans h.tape, k.output.trans h.output, Nat.le_trans h.size k.size, fun i hi hn => (k.block i (Nat.lt_of_lt_of_le hi h.size) hn).trans (h.block i hi hn)⟩
theorem below_gb {w u : World} {B g : Nat} (h : w.grownBy u (some g)) (hB : B ≤ w.heap.size) (hg : B ≤ g) : Below B w u := ⟨h.os, h.tape, h.output, h.size, fun k hk => h.block k (by omega) (by intro e; injection e with e; omega)⟩
theorem gb_cell {w u : World} {g b o : Nat} (h : w.grownBy u (some g)) (hb : b < w.heap.size) (hn : b ≠ g) : u.cell? ⟨b, o, none⟩ = w.cell? ⟨b, o, none⟩ := World.cell?_of_block (w := w) (h.block b hb (by intro e; injection e with e; exact hn e))
/-- What laid's loop keeps. -/
structure LayI (w : World) (c : Hc) (gb : Nat) (wr : World) (L : List Int) : Prop where
  box : wr.rangeAt w.heap.size 0 c.cells
  below : Below w.heap.size w wr
  lt : w.heap.size < gb
  row : Rw wr gb L
theorem LayI.size {w : World} {c : Hc} {gb : Nat} {wr : World} {L : List Int} (h : LayI w c gb wr L) : gb < wr.heap.size := h.row.lt
set_option maxHeartbeats 1000000 in
set_option maxRecDepth 100000 in
theorem laid_ok (c : Hc) (w : World) (hF : FT w) (hT : Tables w) (hg : Good c) : Calls Tryd.prog 17 #[c.val] w fun e w' => ∃ gb, e = .returned (.slice (some ⟨gb, 0, none⟩) c.head.toNat c.head.toNat) ∧ w.heap.size ≤ gb ∧ Rw w' gb (packL c) ∧ Below w.heap.size w w' := by
  have HG : Hid (Good c) := hg
  have HHD : Hid (16384 ≤ c.head ∧ c.head ≤ 4194304) := headB_le hg.head
  have HSQ : Hid (0 ≤ c.seq ∧ c.seq < 18446744073709551616) := by
    have := hg.seq
    simp only [seqB, decide_eq_true_eq] at this
    exact ⟨by omega, by omega⟩
  obtain ⟨N, HN⟩ : ∃ N : Nat, Hid (c.head = (N : Int)) := ⟨c.head.toNat, by show c.head = _; have := HHD.out; omega⟩
  have HNN : Hid (16384 ≤ N ∧ N ≤ 4194304 ∧ c.head.toNat = N) := by have := HHD.out; have := HN.out; exact ⟨by omega, by omega, by omega⟩
  have mk := make_u8 (w.alloc (.cells #[.bool c.second, .int .i64 c.head, .int .u64 c.seq, .string c.label, .string c.sub, .string c.uuid, .string c.salt, .string c.text] 24)) N (by have := HNN.out; omega)
  rw [HNN.out.2.2]
  have HF : Hid (FT w) := hF
  have HT : Hid (Tables w) := hT
  have hft := hF.lt
  obtain ⟨FA, HFA⟩ : ∃ FA : List Value, Hid (FA = fldL) := ⟨_, rfl⟩
  have HL0 : Hid (LayI w c (w.heap.size + 1) ((w.alloc (.cells c.cells.toArray 24)).alloc (.cells (madeCells #[.int .u8 0] N) 5)) (laysL c 0)) := by
    refine ⟨fun j v hj => ?_, (al1 w _).trans ((al1 _ _).mono (by simp)), by omega, ?_⟩
    · rw [(al1 (w.alloc (.cells c.cells.toArray 24)) _).cell (p := ⟨w.heap.size, 0 + j, none⟩) (by simp)]
      exact rangeAt_new w c.cells.toArray 24 j v hj
    · have q := made_rw (w.alloc (.cells c.cells.toArray 24)) N
      rw [World.size_alloc] at q
      rw [laysL, HNN.out.2.2]
      exact q
  have HR : Hid (((w.alloc (.cells c.cells.toArray 24)).alloc (.cells (madeCells #[.int .u8 0] N) 5)).rangeAt 0 0 FA ∧ (Tryd.prog.info? 62).map (·.size) = some FA.length) := by rw [HFA.out]; exact ⟨hF.below HL0.out.below hft, size62⟩
  clear hF hT hg
  rw [Hc.val_eq]
  rw [Hc.cells_eq] at HR HL0
  have hcell : (w.alloc (.cells #[.bool c.second, .int .i64 c.head, .int .u64 c.seq, .string c.label, .string c.sub, .string c.uuid, .string c.salt, .string c.text] 24)).cell? ⟨w.heap.size, 1, none⟩ = some (.int .i64 N) := by
    rw [← HN.out]
    exact World.cell?_alloc_at _ _ _ _ rfl
  rw [World.size_alloc] at mk
  go_enter Tryd.func17, Tryd.ntmps17
  go_upto_region 2 with fail
  generalize ((w.alloc (.cells #[.bool c.second, .int .i64 c.head, .int .u64 c.seq, .string c.label, .string c.sub, .string c.uuid, .string c.salt, .string c.text] 24)).alloc (.cells (madeCells #[.int .u8 0] N) 5)) = wA at HL0 HR ⊢
  go_wp2_with (refine wpList_load_mid (by rfl) 62 (.global 0) (by rfl) 0 0 (by rfl) FA _ HR.out.1 Tryd.underlying62 rfl HR.out.2 ?_)
  clear HR mk hcell
  generalize w.heap.size + 1 = gb at HL0 ⊢
  go_loopw [10] (fun vi wr => ∃ k : Nat, vi = .int .i64 (k : Nat) ∧ k ≤ 13 ∧ Hid (LayI w c gb wr (laysL c k))) (fun vi _ => 13 - (intOf vi).toNat)
  case atStart => exact ⟨0, rfl, by omega, HL0⟩
  case round =>
    obtain ⟨k, rfl, hk, HK⟩ := hrel
    clear HL0
    by_cases hlt : k < 13
    · obtain ⟨n, HFN⟩ : ∃ n : Int, Hid (n = (fldN k : Nat)) := ⟨_, rfl⟩
      obtain ⟨a, HA⟩ : ∃ n : Int, Hid (n = (fldA k : Nat)) := ⟨_, rfl⟩
      obtain ⟨s, HSz⟩ : ∃ n : Int, Hid (n = (fldS k : Nat)) := ⟨_, rfl⟩
      obtain ⟨y, HY⟩ : ∃ n : Int, Hid (n = (fldE k : Nat)) := ⟨_, rfl⟩
      have hix : ∀ u, (Instr.index 62 (.agg FA.toArray) (.int .i64 (k : Nat))).run Tryd.prog u = .ok (.agg #[.int .i64 n, .int .i64 a, .int .i64 s, .int .i64 y]) u := fun u => by
        rw [HFA.out, HFN.out, HA.out, HSz.out, HY.out]
        exact fld_at k hlt u
      go_upto_region 5 with fail
      have HW : Hid ((wr.alloc (.cells #[.int .i64 n, .int .i64 a, .int .i64 s, .int .i64 y] 61)).rangeAt wr.heap.size 0 [.int .i64 n, .int .i64 a, .int .i64 s, .int .i64 y] ∧ LayI w c gb (wr.alloc (.cells #[.int .i64 n, .int .i64 a, .int .i64 s, .int .i64 y] 61)) (laysL c k) ∧ wr.heap.size < (wr.alloc (.cells #[.int .i64 n, .int .i64 a, .int .i64 s, .int .i64 y] 61)).heap.size ∧ gb < wr.heap.size) :=
        ⟨rangeAt_new wr _ 61, ⟨fun j v hj => by rw [(al1 wr _).cell (p := ⟨w.heap.size, 0 + j, none⟩) (Nat.lt_trans HK.out.lt HK.out.size)]; exact HK.out.box j v hj, HK.out.below.trans ((al1 wr _).mono HK.out.below.size), HK.out.lt, HK.out.row.alloc _⟩, by simp, HK.out.size⟩
      clear HK hix
      generalize (wr.alloc (.cells #[.int .i64 n, .int .i64 a, .int .i64 s, .int .i64 y] 61)) = w0 at HW ⊢
      generalize wr.heap.size = gf at HW ⊢
      have hS0 : w0.grownBy w0.drew (some gb) := gb_of gb ((Below.refl _ _).drew)
      have g0 : ∀ u, w0.grownBy u (some gb) → u.cell? ⟨gf, 0, none⟩ = some (.int .i64 n) := fun u hu => by rw [gb_cell hu HW.out.2.2.1 (by have := HW.out.2.2.2; omega)]; exact HW.out.1 0 _ rfl
      have g1 : ∀ u, w0.grownBy u (some gb) → u.cell? ⟨gf, 1, none⟩ = some (.int .i64 a) := fun u hu => by rw [gb_cell hu HW.out.2.2.1 (by have := HW.out.2.2.2; omega)]; exact HW.out.1 1 _ rfl
      have g2 : ∀ u, w0.grownBy u (some gb) → u.cell? ⟨gf, 2, none⟩ = some (.int .i64 s) := fun u hu => by rw [gb_cell hu HW.out.2.2.1 (by have := HW.out.2.2.2; omega)]; exact HW.out.1 2 _ rfl
      have g3 : ∀ u, w0.grownBy u (some gb) → u.cell? ⟨gf, 3, none⟩ = some (.int .i64 y) := fun u hu => by rw [gb_cell hu HW.out.2.2.1 (by have := HW.out.2.2.2; omega)]; exact HW.out.1 3 _ rfl
      have hrs : ∀ u, w0.grownBy u (some gb) → u.rangeAt w.heap.size 0 c.cells := fun u hu j v hj => by rw [gb_cell hu (Nat.lt_trans HW.out.2.1.lt HW.out.2.1.size) (Nat.ne_of_lt HW.out.2.1.lt)]; exact HW.out.2.1.box j v hj
      have HTo : Hid (∀ u, Calls Tryd.prog 35 #[.int .i64 n, c.val] u fun e w' => e = .returned (.string (strB (toldL (fldN k) c))) ∧ Below u.heap.size u w') := fun u => by
        rw [HFN.out]
        exact told_ok k hlt c u (by have := HHD.out; omega) HHD.out.2 HSQ.out.1 HSQ.out.2
      have HOf : Hid (∀ u, Calls Tryd.prog 36 #[.agg #[.int .i64 n, .int .i64 a, .int .i64 s, .int .i64 y], .slice (some ⟨gb, 0, none⟩) N N] u fun e w' => e = .returned (.slice (some ⟨gb, fldA k, none⟩) (fldS k) (N - fldA k)) ∧ Below u.heap.size u w') := fun u => by
        have h1 := fld_fit k hlt
        have h2 := HNN.out
        have q := of_ok n y (fldA k) (fldS k) gb 0 N N u (by omega) (Nat.le_refl _) (by omega) (by omega)
        rw [Nat.zero_add, ← HA.out, ← HSz.out] at q
        exact q
      have HCp : Hid (∀ u ty, Rw u gb (laysL c k) → ∃ w', (Builtin.copy_ #[25, 9] ty #[.slice (some ⟨gb, fldA k, none⟩) (fldS k) (N - fldA k), .string (strB (toldL (fldN k) c))]).run Tryd.prog u = .ok (goInt (strB (toldL (fldN k) c)).size) w' ∧ Rw w' gb (laysL c (k + 1)) ∧ u.grownBy w' (some gb)) := fun u ty hu => by
        have h1 := told_len c HG.out k hlt
        have h2 := fld_fit k hlt
        have h3 := laysL_length c HG.out k (by omega)
        have h4 := HNN.out
        have q := copy_str u gb (fldA k) (fldS k) (N - fldA k) (strB (toldL (fldN k) c)) (laysL c k) ty hu (by rw [strB_size]; exact h1) (by rw [strB_size]; omega)
        rw [nums_strB _ (toldL_range c _)] at q
        exact q
      obtain ⟨p1, HP1⟩ : ∃ p : Nat, Hid (p = fldA k) := ⟨_, rfl⟩
      obtain ⟨p2, HP2⟩ : ∃ p : Nat, Hid (p = fldS k) := ⟨_, rfl⟩
      obtain ⟨p3, HP3⟩ : ∃ p : Nat, Hid (p = N - fldA k) := ⟨_, rfl⟩
      obtain ⟨st, HST⟩ : ∃ p : ByteArray, Hid (p = strB (toldL (fldN k) c)) := ⟨_, rfl⟩
      rw [← HP1.out, ← HP2.out] at HOf HCp
      rw [← HP1.out] at HP3
      rw [← HP3.out] at HOf HCp
      rw [← HST.out] at HTo HCp
      refine wp_region_noPanic ?_
      refine wp_region_held_drew (S := fun u => w0.grownBy u (some gb)) (by kernel_rfl) (hS0) (fun _ => ?_)
      refine takeH_at 0 13 (.agg #[.int .i64 n, .int .i64 a, .int .i64 s, .int .i64 y]) rfl rfl (by kernel_rfl) (by kernel_rfl) (by kernel_rfl) (fun _ _ _ h => h) (hS0) (Or.inl ⟨by kernel_rfl, fun w' hS' => by have q0 := g0 w' hS'; have q1 := g1 w' hS'; have q2 := g2 w' hS'; have q3 := g3 w' hS'; go_simp⟩) ?_
      simp only [List.setIfInBounds_toArray, List.set_cons_zero, List.set_cons_succ]
      refine takeH_at 1 14 (.slice (some ⟨gb, 0, none⟩) N N) rfl rfl (by kernel_rfl) (by kernel_rfl) (by kernel_rfl) (fun _ _ _ h => h) (hS0) (Or.inl ⟨by kernel_rfl, fun w' hS' => by go_simp⟩) ?_
      simp only [List.setIfInBounds_toArray, List.set_cons_zero, List.set_cons_succ]
      refine takeH_at 3 16 (.pointer (some ⟨gf, 0, none⟩)) rfl rfl (by kernel_rfl) (by kernel_rfl) (by kernel_rfl) (fun _ _ _ h => h) (hS0) (Or.inl ⟨by kernel_rfl, fun w' hS' => by go_simp⟩) ?_
      simp only [List.setIfInBounds_toArray, List.set_cons_zero, List.set_cons_succ]
      refine takeH_at 4 17 (.int .i64 n) rfl rfl (by kernel_rfl) (by kernel_rfl) (by kernel_rfl) (fun _ _ _ h => h) (hS0) (Or.inl ⟨by kernel_rfl, fun w' hS' => by have q0 := g0 w' hS'; have q1 := g1 w' hS'; have q2 := g2 w' hS'; have q3 := g3 w' hS'; go_simp⟩) ?_
      simp only [List.setIfInBounds_toArray, List.set_cons_zero, List.set_cons_succ]
      refine takeH_at 5 18 (.agg c.cells.toArray) rfl rfl (by kernel_rfl) (by kernel_rfl) (by kernel_rfl) (fun _ _ _ h => h) (hS0) (yieldsIf_load_mid (by kernel_rfl) 24 (.tmp 1) rfl w.heap.size 0 rfl c.cells _ hrs Tryd.underlying24 rfl (by kernel_rfl)) ?_
      simp only [List.setIfInBounds_toArray, List.set_cons_zero, List.set_cons_succ]
      refine wpAnyH_ready (rs := [2]) (by kernel_rfl) (by simp) ?_
      refine AllReadyH.cons rfl (fun Kx hK => ?_) AllReadyH.nil
      rw [if_pos (by kernel_rfl)]
      go_simp
      refine (HOf.out _).mono ?_
      intro e1 q1 hh
      obtain ⟨he, hq1⟩ := hh
      subst he
      have hS1 : w0.grownBy q1 (some gb) := gb_below (hS0) hq1
      go_wp2_with fail
      refine hK.out _ _ hS1 (fun _ => ?_)
      clear hK Kx
      try simp only [Act.put, List.setIfInBounds_toArray, List.set_cons_zero, List.set_cons_succ]
      refine wpAnyH_ready (rs := [6]) (by kernel_rfl) (by simp) ?_
      refine AllReadyH.cons rfl (fun Kx hK => ?_) AllReadyH.nil
      rw [if_pos (by kernel_rfl)]
      go_simp
      refine (HTo.out _).mono ?_
      intro e1 q2 hh
      obtain ⟨he, hq2⟩ := hh
      subst he
      have hS2 : w0.grownBy q2 (some gb) := gb_below (hS1) hq2
      go_wp2_with fail
      refine hK.out _ _ hS2 (fun _ => ?_)
      clear hK Kx
      try simp only [Act.put, List.setIfInBounds_toArray, List.set_cons_zero, List.set_cons_succ]
      have HRq : Hid (Rw q2 gb (laysL c k)) := (HW.out.2.1.row.below (Below.refl _ _).drew |>.below hq1).below hq2
      refine wpAnyH_ready (rs := [7]) (by kernel_rfl) (by simp) ?_
      refine AllReadyH.cons rfl (fun Kx hK => ?_) AllReadyH.nil
      rw [if_pos (by kernel_rfl)]
      obtain ⟨w9, hcp, hr9, hg9⟩ := HCp.out q2 3 HRq.out
      go_simp
      refine hK.out _ _ (gb_trans hS2 hg9) (fun _ => ?_)
      clear hK Kx
      try simp only [Act.put, List.setIfInBounds_toArray, List.set_cons_zero, List.set_cons_succ]
      refine wpAnyH_done (by kernel_rfl) ?_ _
      refine NoPanic.normal ?_
      go_wp2_with fail
      exact ⟨⟨k + 1, by simp, by omega, hrs _ (gb_trans hS2 hg9), HW.out.2.1.below.trans (below_gb (gb_trans hS2 hg9) HW.out.2.1.below.size (Nat.le_of_lt HW.out.2.1.lt)), HW.out.2.1.lt, hr9⟩, by simp [intOf]; omega⟩
    · have hk13 : k = 13 := by omega
      subst hk13
      have HS1 : Hid ((sliced (some ⟨gb, 0, none⟩) 4096 N N 1 = .slice (some ⟨gb, 4096, none⟩) (N - 4096) (N - 4096)) ∧ (sliced (some ⟨gb, 0, none⟩) 448 512 N 1 = .slice (some ⟨gb, 448, none⟩) 64 (N - 448))) := by
        have := HNN.out
        refine ⟨?_, ?_⟩
        · rw [sliced, if_neg (by omega)]
          rfl
        · rw [sliced, if_neg (by omega)]
          rfl
      have s1 : ∀ u, (Instr.slice 25 (.slice (some ⟨gb, 0, none⟩) N N) (some (.int .i64 4096)) none none).run Tryd.prog u = .ok (.slice (some ⟨gb, 4096, none⟩) (N - 4096) (N - 4096)) u := fun u => by rw [← HS1.out.1]; exact slice_l u _ N N 4096 (by have := HNN.out; omega) (Nat.le_refl _)
      have s2 : ∀ u, (Instr.slice 25 (.slice (some ⟨gb, 0, none⟩) N N) (some (.int .i64 448)) (some (.int .i64 512)) none).run Tryd.prog u = .ok (.slice (some ⟨gb, 448, none⟩) 64 (N - 448)) u := fun u => by rw [← HS1.out.2]; exact slice_lh u _ N N 448 512 (by omega) (by have := HNN.out; omega)
      have HCp : Hid (∀ u ty, Rw u gb (laysL c 13) → ∃ w', (Builtin.copy_ #[25, 9] ty #[.slice (some ⟨gb, 4096, none⟩) (N - 4096) (N - 4096), .string c.text]).run Tryd.prog u = .ok (goInt c.text.size) w' ∧ Rw w' gb (preL c) ∧ u.grownBy w' (some gb)) := fun u ty hu => by
        have h1 := plainB_lt HG.out.text
        have h3 := laysL_length c HG.out 13 (by omega)
        have h4 := HNN.out
        have h5 := HN.out
        exact copy_str u gb 4096 (N - 4096) (N - 4096) c.text (laysL c 13) ty hu (by omega) (by omega)
      have HSu : Hid (∀ u, Rw u gb (preL c) → Tables u → Calls Tryd.prog 37 #[.slice (some ⟨gb, 0, none⟩) N N] u fun e w' => ∃ g, e = .returned (.slice (some ⟨g, 0, none⟩) 32 32) ∧ w'.ownsRow u.heap.size 5 1 (.slice (some ⟨g, 0, none⟩) 32 32) 32 (cellsU8 (sumI (preL c))) ∧ Below u.heap.size u w') := fun u hu hT => by
        have h3 := preL_length c HG.out
        have h4 := HNN.out
        rw [h4.2.2] at h3
        have v := hu.view (by rw [h3]; simp [maxLen]; omega)
        rw [h3] at v
        exact sumOf_ok gb 0 N N (preL c) u hT h3 (by omega) v (by omega)
      have HCq : Hid (∀ u g, Rw u gb (preL c) → u.ownsRow w.heap.size 5 1 (.slice (some ⟨g, 0, none⟩) 32 32) 32 (cellsU8 (sumI (preL c))) → ∃ w', (Builtin.copy_ #[25, 25] 3 #[.slice (some ⟨gb, 448, none⟩) 64 (N - 448), .slice (some ⟨g, 0, none⟩) 32 32]).run Tryd.prog u = .ok (goInt 32) w' ∧ Rw w' gb (packL c) ∧ u.grownBy w' (some gb)) := fun u g hu ho => by
        have h3 := preL_length c HG.out
        have h4 := HNN.out
        have hl := ho.1
        rw [cellsU8_length] at hl
        have hv := viewOwns ho (by omega)
        obtain ⟨a', c', he, q1, q2, q3, q4⟩ := hv
        rcases q4 with q4 | ⟨b2, o2, ha2, hc2⟩
        · rw [q4] at hl
          simp at hl
        · injection he with e1 e2 e3
          rw [ha2] at e1
          injection e1 with e1
          injection e1 with e4 e5
          subst e4 e5
          exact copy_bytes u gb 448 64 (N - 448) g 32 32 (sumI (preL c)) (preL c) 3 hu (fun i hi => by have := hc2 i hi; rwa [Nat.zero_add] at this) (by omega) (by omega) (by omega)
      obtain ⟨n1, HN1⟩ : ∃ p : Nat, Hid (p = N - 4096) := ⟨_, rfl⟩
      obtain ⟨n2, HN2⟩ : ∃ p : Nat, Hid (p = N - 448) := ⟨_, rfl⟩
      rw [← HN1.out] at s1 HCp
      rw [← HN2.out] at s2 HCq
      have HT2 : Hid (Tables wr) := HT.out.below HK.out.below HT.out.size
      clear HS1
      have hS0 : wr.grownBy wr.drew (some gb) := gb_of gb ((Below.refl _ _).drew)
      have c7 : ∀ u, wr.grownBy u (some gb) → u.cell? ⟨w.heap.size, 7, none⟩ = some (.string c.text) := fun u hu => by rw [gb_cell hu (Nat.lt_trans HK.out.lt HK.out.size) (Nat.ne_of_lt HK.out.lt)]; exact HK.out.box 7 _ rfl
      go_upto_region 7 with fail
      refine wp_region_noPanic ?_
      refine wp_region_held_drew (S := fun u => wr.grownBy u (some gb)) (by kernel_rfl) (hS0) (fun _ => ?_)
      refine takeH_at 0 22 (.slice (some ⟨gb, 0, none⟩) N N) rfl rfl (by kernel_rfl) (by kernel_rfl) (by kernel_rfl) (fun _ _ _ h => h) (hS0) (Or.inl ⟨by kernel_rfl, fun w' hS' => by go_simp⟩) ?_
      simp only [List.setIfInBounds_toArray, List.set_cons_zero, List.set_cons_succ]
      refine takeH_at 1 23 (.slice (some ⟨gb, 4096, none⟩) n1 n1) rfl rfl (by kernel_rfl) (by kernel_rfl) (by kernel_rfl) (fun _ _ _ h => h) (hS0) (Or.inl ⟨by kernel_rfl, fun w' hS' => by have q := s1 w'; go_simp⟩) ?_
      simp only [List.setIfInBounds_toArray, List.set_cons_zero, List.set_cons_succ]
      refine takeH_at 2 24 (.pointer (some ⟨w.heap.size, 7, none⟩)) rfl rfl (by kernel_rfl) (by kernel_rfl) (by kernel_rfl) (fun _ _ _ h => h) (hS0) (Or.inl ⟨by kernel_rfl, fun w' hS' => by go_simp⟩) ?_
      simp only [List.setIfInBounds_toArray, List.set_cons_zero, List.set_cons_succ]
      refine takeH_at 3 25 (.string c.text) rfl rfl (by kernel_rfl) (by kernel_rfl) (by kernel_rfl) (fun _ _ _ h => h) (hS0) (Or.inl ⟨by kernel_rfl, fun w' hS' => by have q := c7 w' hS'; go_simp⟩) ?_
      simp only [List.setIfInBounds_toArray, List.set_cons_zero, List.set_cons_succ]
      refine wpAnyH_ready (rs := [4]) (by kernel_rfl) (by simp) ?_
      refine AllReadyH.cons rfl (fun Kx hK => ?_) AllReadyH.nil
      rw [if_pos (by kernel_rfl)]
      obtain ⟨w7, hcp, hr7, hg7⟩ := HCp.out _ 3 (HK.out.row.below (Below.refl _ _).drew)
      go_simp
      have hS7 := gb_trans hS0 hg7
      refine hK.out _ _ hS7 (fun _ => ?_)
      clear hK Kx
      try simp only [Act.put, List.setIfInBounds_toArray, List.set_cons_zero, List.set_cons_succ]
      refine wpAnyH_done (by kernel_rfl) ?_ _
      refine NoPanic.normal ?_
      have HR7 : Hid (Rw w7 gb (preL c) ∧ Below w.heap.size w w7 ∧ Tables w7) := ⟨hr7, HK.out.below.trans (below_gb hS7 HK.out.below.size (Nat.le_of_lt HK.out.lt)), HT.out.below (HK.out.below.trans (below_gb hS7 HK.out.below.size (Nat.le_of_lt HK.out.lt))) HT.out.size⟩
      clear hcp hr7 hg7 hS0 c7
      have hS0 : w7.grownBy w7.drew (some gb) := gb_of gb ((Below.refl _ _).drew)
      go_upto_region 8 with fail
      refine wp_region_noPanic ?_
      refine wp_region_held_drew (S := fun u => w7.grownBy u (some gb)) (by kernel_rfl) (hS0) (fun _ => ?_)
      refine takeH_at 0 27 (.slice (some ⟨gb, 0, none⟩) N N) rfl rfl (by kernel_rfl) (by kernel_rfl) (by kernel_rfl) (fun _ _ _ h => h) (hS0) (Or.inl ⟨by kernel_rfl, fun w' hS' => by go_simp⟩) ?_
      simp only [List.setIfInBounds_toArray, List.set_cons_zero, List.set_cons_succ]
      refine takeH_at 1 28 (.slice (some ⟨gb, 448, none⟩) 64 n2) rfl rfl (by kernel_rfl) (by kernel_rfl) (by kernel_rfl) (fun _ _ _ h => h) (hS0) (Or.inl ⟨by kernel_rfl, fun w' hS' => by have q := s2 w'; go_simp⟩) ?_
      simp only [List.setIfInBounds_toArray, List.set_cons_zero, List.set_cons_succ]
      refine takeH_at 2 29 (.slice (some ⟨gb, 0, none⟩) N N) rfl rfl (by kernel_rfl) (by kernel_rfl) (by kernel_rfl) (fun _ _ _ h => h) (hS0) (Or.inl ⟨by kernel_rfl, fun w' hS' => by go_simp⟩) ?_
      simp only [List.setIfInBounds_toArray, List.set_cons_zero, List.set_cons_succ]
      refine wpAnyH_ready (rs := [3]) (by kernel_rfl) (by simp) ?_
      refine AllReadyH.cons rfl (fun Kx hK => ?_) AllReadyH.nil
      rw [if_pos (by kernel_rfl)]
      go_simp
      refine (HSu.out _ (HR7.out.1.below (Below.refl _ _).drew) (HR7.out.2.2.below (Below.refl _ _).drew HR7.out.2.2.size)).mono ?_
      rintro e1 w8 ⟨g, rfl, ho, hb⟩
      have HR8 : Hid (Rw w8 gb (preL c) ∧ w8.ownsRow w.heap.size 5 1 (.slice (some ⟨g, 0, none⟩) 32 32) 32 (cellsU8 (sumI (preL c))) ∧ Below w.heap.size w w8) := ⟨(HR7.out.1.below (Below.refl _ _).drew).below hb, ho.mono HR7.out.2.1.size, HR7.out.2.1.trans (((Below.refl _ _).drew.trans hb).mono HR7.out.2.1.size)⟩
      have hS8 : w7.grownBy w8 (some gb) := gb_below hS0 hb
      clear ho hb
      go_wp2_with fail
      refine hK.out _ _ hS8 (fun _ => ?_)
      clear hK Kx
      try simp only [Act.put, List.setIfInBounds_toArray, List.set_cons_zero, List.set_cons_succ]
      refine wpAnyH_ready (rs := [4]) (by kernel_rfl) (by simp) ?_
      refine AllReadyH.cons rfl (fun Kx hK => ?_) AllReadyH.nil
      rw [if_pos (by kernel_rfl)]
      obtain ⟨w9, hcp, hr9, hg9⟩ := HCq.out w8 g HR8.out.1 HR8.out.2.1
      go_simp
      refine hK.out _ _ (gb_trans hS8 hg9) (fun _ => ?_)
      clear hK Kx
      try simp only [Act.put, List.setIfInBounds_toArray, List.set_cons_zero, List.set_cons_succ]
      refine wpAnyH_done (by kernel_rfl) ?_ _
      refine NoPanic.normal ?_
      go_wp2
      go_ret
      exact ⟨gb, rfl, Nat.le_of_lt HK.out.lt, hr9, HR8.out.2.2.trans (below_gb hg9 HR8.out.2.2.size (Nat.le_of_lt HK.out.lt))⟩
end Go.Proofs.YtoanndhaopgkjaaDoor
namespace Go.Proofs.YtoanndhaopgkjaaDoor
open Go.RowKit
set_option linter.unusedVariables false
set_option linter.unusedSimpArgs false
/-- A copy's numbers as Go bears them. -/
structure Fit (c : Hc) : Prop where
  h0 : -9223372036854775808 ≤ c.head
  h1 : c.head < 9223372036854775808
  s0 : 0 ≤ c.seq
  s1 : c.seq < 18446744073709551616
theorem packE_0 {c : Hc} (hb : headB c.head = false) : packE c = 83 := by
  unfold packE
  rw [if_pos hb]
theorem packE_1 {c : Hc} (hb : headB c.head = true) (hq : seqB c.seq = false) : packE c = 85 := by
  unfold packE
  rw [if_neg (by rw [hb]; decide), if_pos]
  left
  simpa [seqB] using hq
theorem packE_2 {c : Hc} (hb : headB c.head = true) (hs : c.salt.size ≠ 64) : packE c = 85 := by
  unfold packE
  rw [if_neg (by rw [hb]; decide), if_pos (.inr (.inl hs))]
theorem packE_3 {c : Hc} (hb : headB c.head = true) (hq : seqB c.seq = true) (hs : c.salt.size = 64) : packE c = ansF c := by
  unfold packE ansF
  have hq' : 1 ≤ c.seq ∧ c.seq ≤ 4611686018427387904 := by simpa [seqB] using hq
  rw [if_neg (by rw [hb]; decide)]
  by_cases h : plainB c.label 48 = true ∧ plainB c.uuid 40 = true ∧ plainB c.sub 48 = true
  · rw [if_pos h, if_neg]
    · cases plainB c.text (c.head - 4096) <;> rfl
    · rintro (h1 | h1 | h1 | h1 | h1)
      · exact h1 hq'
      · exact h1 hs
      · rw [h.1] at h1; cases h1
      · rw [h.2.1] at h1; cases h1
      · rw [h.2.2] at h1; cases h1
  · rw [if_neg h, if_pos]
    right; right
    cases e1 : plainB c.label 48
    · exact .inl rfl
    · cases e2 : plainB c.uuid 40
      · exact .inr (.inl rfl)
      · cases e3 : plainB c.sub 48
        · exact .inr (.inr rfl)
        · exact absurd ⟨e1, e2, e3⟩ h
theorem good_iff (c : Hc) : packE c = 0 ↔ Good c := by
  constructor
  · intro h
    cases hb : headB c.head
    · rw [packE_0 hb] at h; cases h
    cases hq : seqB c.seq
    · rw [packE_1 hb hq] at h; cases h
    by_cases hs : c.salt.size = 64
    · rw [packE_3 hb hq hs] at h
      unfold ansF at h
      by_cases h1 : plainB c.label 48 = true ∧ plainB c.uuid 40 = true ∧ plainB c.sub 48 = true
      · rw [if_pos h1] at h
        by_cases h2 : plainB c.text (c.head - 4096) = true
        · exact ⟨hb, hq, hs, h1.1, h1.2.1, h1.2.2, h2⟩
        · rw [if_neg h2] at h; cases h
      · rw [if_neg h1] at h; cases h
    · rw [packE_2 hb hs] at h; cases h
  · intro h
    rw [packE_3 h.head h.seq h.salt]
    unfold ansF
    rw [if_pos ⟨h.label, h.uuid, h.sub⟩, if_pos h.text]
theorem refused_ok (c : Hc) (w : World) (hF : FT w) (hf : Fit c) : Calls Tryd.prog 16 #[c.val] w fun e w' => e = .returned (.int .i64 (packE c)) ∧ Below w.heap.size w w' := by
  cases hb : headB c.head
  · rw [packE_0 hb]; exact refused_0 c w hF hf.h0 hf.h1 hf.s0 hf.s1 hb
  cases hq : seqB c.seq
  · rw [packE_1 hb hq]; exact refused_1 c w hF hf.h0 hf.h1 hf.s0 hf.s1 hb hq
  by_cases hs : c.salt.size = 64
  · rw [packE_3 hb hq hs]; exact refused_3 c w hF hf.h0 hf.h1 hf.s0 hf.s1 hb hq hs
  · rw [packE_2 hb hs]; exact refused_2 c w hF hf.h0 hf.h1 hf.s0 hf.s1 hb hq hs
/-- What Pack answers. -/
def packB (c : Hc) : List Int := if packE c = 0 then packL c else []
theorem sumI_length (L : List Int) : (sumI L).length = 32 := sumD_length 256 (Or.inr (Or.inl rfl)) _
theorem packL_length (c : Hc) (hg : Good c) : (packL c).length = c.head.toNat := by
  have h := headB_le hg.head
  rw [packL, layL_length (by rw [preL_length c hg, sumI_length]; omega), preL_length c hg]
/-- The answer of either Pack. -/
def PackR (c : Hc) (w : World) (e : Ending) (w' : World) : Prop := ∃ v, e = .returned (.tuple #[v, .int .i64 (packE c)]) ∧ w'.ownsRow w.heap.size 5 1 v (packB c).length (cellsU8 (packB c)) ∧ Below w.heap.size w w'
theorem own_nil (w : World) (B : Nat) : w.ownsRow B 5 1 (.slice none 0 0) 0 (cellsU8 []) := ⟨by simp [cellsU8], .inl ⟨rfl, rfl⟩⟩
set_option maxRecDepth 100000 in
theorem pack_ok (c : Hc) (w : World) (hF : FT w) (hT : Tables w) (hf : Fit c) : Calls Tryd.prog 6 #[c.val] w (PackR c w) := by
  have HF : Hid (FT w) := hF
  have HT : Hid (Tables w) := hT
  have hrf : Hid (∀ u, FT u → Calls Tryd.prog 16 #[c.val] u fun e w' => e = .returned (.int .i64 (packE c)) ∧ Below u.heap.size u w') := fun u hu => refused_ok c u hu hf
  have hft := hF.lt
  have HC0 : Hid ((w.alloc (.cells c.cells.toArray 24)).rangeAt w.heap.size 0 c.cells ∧ Below w.heap.size w (w.alloc (.cells c.cells.toArray 24)) ∧ w.heap.size < (w.alloc (.cells c.cells.toArray 24)).heap.size) := ⟨rangeAt_new w c.cells.toArray 24, al1 w _, by simp⟩
  clear hF hT
  rw [Hc.val_eq]
  rw [Hc.cells_eq] at HC0
  go_enter Tryd.func6, Tryd.ntmps6
  go_upto_region 1 with fail
  generalize (w.alloc (.cells #[.bool c.second, .int .i64 c.head, .int .u64 c.seq, .string c.label, .string c.sub, .string c.uuid, .string c.salt, .string c.text] 24)) = wA at HC0 ⊢
  go_upto_region 2 with (first | (refine wpList_load_mid (by rfl) 24 (.tmp 1) (by rfl) w.heap.size 0 (by rfl) c.cells _ HC0.out.1 Tryd.underlying24 rfl (by kernel_rfl) ?_) | (go_at_call 16; refine (hrf.out _ (HF.out.below HC0.out.2.1 hft)).mono ?_; rintro e1 w1 ⟨rfl, hb1⟩))
  have HB1 : Hid (w1.rangeAt w.heap.size 0 c.cells ∧ Below w.heap.size w w1) := ⟨fun j v hj => by rw [hb1.cell (p := ⟨w.heap.size, 0 + j, none⟩) HC0.out.2.2]; exact HC0.out.1 j v hj, HC0.out.2.1.trans (hb1.mono HC0.out.2.1.size)⟩
  clear hb1
  by_cases h : packE c = 0
  · have hz : (packE c != 0) = false := by rw [h]; decide
    have hE : Hid (packE c = 0) := h
    clear h
    go_wp2_with (first | (refine wpList_load_mid (by rfl) 24 (.tmp 1) (by rfl) w.heap.size 0 (by rfl) c.cells _ HB1.out.1 Tryd.underlying24 rfl (by kernel_rfl) ?_) | (go_at_call 17; refine (laid_ok c _ (HF.out.below HB1.out.2 hft) (HT.out.below HB1.out.2 HT.out.size) ((good_iff c).1 hE.out)).mono ?_; rintro e2 w2 ⟨gb, rfl, hg1, hg2, hg3⟩))
    have HG : Hid (w1.heap.size ≤ gb ∧ Rw w2 gb (packL c) ∧ Below w1.heap.size w1 w2) := ⟨hg1, hg2, hg3⟩
    clear hg1 hg2 hg3
    go_ret2
    refine ⟨.slice (some ⟨gb, 0, none⟩) c.head.toNat c.head.toNat, by rw [hE.out]; rfl, ?_, HB1.out.2.trans (HG.out.2.2.mono HB1.out.2.size)⟩
    have hl := packL_length c ((good_iff c).1 hE.out)
    have hh := headB_le ((good_iff c).1 hE.out).head
    unfold packB
    rw [if_pos hE.out, ← hl]
    exact HG.out.2.1.owns _ (Nat.le_trans HB1.out.2.size HG.out.1) (by rw [hl]; simp [maxLen]; omega)
  · have hz : (packE c != 0) = true := by simpa using h
    have hE : Hid (packE c ≠ 0) := h
    clear h
    go_wp2_with fail
    go_ret2
    refine ⟨_, rfl, ?_, HB1.out.2⟩
    unfold packB
    rw [if_neg hE.out]
    exact own_nil _ _
end Go.Proofs.YtoanndhaopgkjaaDoor
namespace Go.Proofs.YtoanndhaopgkjaaDoor
open Go.RowKit
set_option linter.unusedVariables false
set_option linter.unusedSimpArgs false
theorem ret_bool' {a b : Bool} (h : a = b) : Ending.returned (.bool a) = .returned (.bool b) := by rw [h]
set_option maxRecDepth 100000 in
/-- The document's IsHead. -/
theorem risHead_ok (n : Int) (w : World) : Calls Tryd.prog 20 #[.int .i64 n] w fun e w' => e = .returned (.bool (headB n)) ∧ w = w' := by
  go_enter Tryd.func20, Tryd.ntmps20
  go_wp2
  go_loop [3] (fun h => ∃ j : Nat, j ≤ 9 ∧ h = .int .i64 (16384 * 2 ^ j : Nat) ∧ Hid (∀ i, i < j → n ≠ ((16384 * 2 ^ i : Nat) : Int))) (fun h => (9000000 - intOf h).toNat)
  case atStart => exact ⟨0, by omega, rfl, fun i hi => by omega⟩
  case round =>
    obtain ⟨j, hj, rfl, HJ⟩ := hrel
    by_cases hlt : j < 9
    · have hb : (16384 * 2 ^ j : Nat) ≤ 4194304 := by
        match j, hlt with
        | 0, _ | 1, _ | 2, _ | 3, _ | 4, _ | 5, _ | 6, _ | 7, _ | 8, _ => decide
      have hp : 2 * (16384 * 2 ^ j) = 16384 * 2 ^ (j + 1) := by rw [Nat.pow_succ]; omega
      have hpos : 0 < (16384 * 2 ^ j : Nat) := by
        have := Nat.pos_of_ne_zero (show (2 ^ j : Nat) ≠ 0 by simp)
        omega
      obtain ⟨m, HM⟩ : ∃ m : Nat, Hid (m = 16384 * 2 ^ j) := ⟨_, rfl⟩
      rw [← HM.out] at hb hp hpos ⊢
      have HP : Hid (2 * m = 16384 * 2 ^ (j + 1)) := hp
      clear hp
      by_cases he : n = (m : Int)
      · have d : (n == (m : Int)) = true := by simpa using he
        have HR : Hid (headB n = true) := by
          show headB n = true
          rw [he, HM.out]
          match j, hlt with
          | 0, _ | 1, _ | 2, _ | 3, _ | 4, _ | 5, _ | 6, _ | 7, _ | 8, _ => decide
        clear he
        go_wp2
        go_ret
        exact ⟨ret_bool' HR.out.symm, rfl⟩
      · have d : (n == (m : Int)) = false := by simpa using he
        have HE : Hid (n ≠ (m : Int)) := he
        have e1 : IntKind.i64.wrap (2 * (m : Int)) = 2 * (m : Int) := by rw [IntKind.wrap_i64]; omega
        clear he
        go_wp2
        go_round
        case rel => exact ⟨j + 1, by omega, by rw [← HP.out]; simp, fun i hi => by
          by_cases q : i = j
          · subst q; rw [← HM.out]; exact HE.out
          · exact HJ.out i (by omega)⟩
        case measure => simp [intOf]; omega
    · have h9 : j = 9 := by omega
      subst h9
      have HR : Hid (headB n = false) := by
        show headB n = false
        have h0 := HJ.out 0 (by omega)
        have h1 := HJ.out 1 (by omega)
        have h2 := HJ.out 2 (by omega)
        have h3 := HJ.out 3 (by omega)
        have h4 := HJ.out 4 (by omega)
        have h5 := HJ.out 5 (by omega)
        have h6 := HJ.out 6 (by omega)
        have h7 := HJ.out 7 (by omega)
        have h8 := HJ.out 8 (by omega)
        simp [headB] at *
        omega
      clear HJ
      go_wp2
      go_ret
      exact ⟨ret_bool' HR.out.symm, rfl⟩
set_option maxRecDepth 100000 in
/-- The document's plain. -/
theorem rplain_ok (s : ByteArray) (n : Int) (w : World) (hs : s.size ≤ maxLen) : Calls Tryd.prog 21 #[.string s, .int .i64 n] w fun e w' => e = .returned (.bool (plainB s (n + 1))) ∧ w = w' := by
  unfold maxLen at hs
  go_enter Tryd.func21, Tryd.ntmps21
  go_wp2
  go_loop [5] (fun i => ∃ k : Nat, k ≤ s.size ∧ i = .int .i64 k ∧ Hid (∀ j, j < k → (nums s).getD j 0 ≠ 0)) (fun i => s.size - (intOf i).toNat)
  case atStart => exact ⟨0, by omega, rfl, fun i hi => by omega⟩
  case round =>
    obtain ⟨k, hk, rfl, HK⟩ := hrel
    by_cases hlt : k < s.size
    · have hn := nums_at s k hlt
      by_cases hz : (s[k].toNat : Int) = 0
      · have d : ((s[k].toNat : Int) == 0) = true := by simpa using hz
        have HR : Hid (plainB s (n + 1) = false) := by
          show plainB s (n + 1) = false
          unfold plainB
          have : (nums s).contains 0 = true := by
            rw [List.contains_iff_mem]
            have h' : k < (nums s).length := by rw [nums_length]; exact hlt
            have e : (nums s)[k] = 0 := by rw [← getD_at _ 0 k h', hn, hz]
            rw [← e]
            exact List.getElem_mem h'
          rw [this]
          simp
        clear hz hn
        go_wp2
        go_ret
        exact ⟨ret_bool' HR.out.symm, rfl⟩
      · have d : ((s[k].toNat : Int) == 0) = false := by simpa using hz
        have HN : Hid ((nums s).getD k 0 ≠ 0) := by rw [hn]; exact hz
        clear hz hn
        go_wp2
        go_round
        case rel => exact ⟨k + 1, by omega, by go_num, fun j hj => by
          by_cases q : j = k
          · subst q; exact HN.out
          · exact HK.out j (by omega)⟩
        case measure => simp [intOf]; omega
    · have HR : Hid (plainB s (n + 1) = decide ((s.size : Int) ≤ n)) := by
        show plainB s (n + 1) = decide ((s.size : Int) ≤ n)
        unfold plainB
        have : (nums s).contains 0 = false := by
          rw [Bool.eq_false_iff]
          intro h
          rw [List.contains_iff_mem] at h
          obtain ⟨i, hi, e⟩ := List.getElem_of_mem h
          rw [nums_length] at hi
          exact HK.out i (by omega) (by rw [getD_at _ 0 i (by rw [nums_length]; exact hi), e])
        rw [this, Bool.not_false, Bool.and_true, Bool.eq_iff_iff]
        simp
        omega
      clear HK
      go_wp2
      go_ret
      exact ⟨ret_bool' HR.out.symm, rfl⟩
set_option maxRecDepth 100000 in
theorem rmagic_ok (b : Bool) (w : World) : Calls Tryd.prog 23 #[.bool b] w fun e w' => e = .returned (.string (strB (magicL b))) ∧ w = w' := by
  cases b
  all_goals
    go_enter Tryd.func23, Tryd.ntmps23
    go_wp2
    go_ret
    exact ⟨ret_str rfl, rfl⟩
set_option maxRecDepth 100000 in
theorem rbegin_ok (c : Hc) (w : World) : Calls Tryd.prog 25 #[c.val] w fun e w' => e = .returned (.int .i64 c.start) ∧ Below w.heap.size w w' := by
  obtain ⟨sec, hd, sq, l1, l2, l3, l4, l5⟩ := c
  unfold Hc.val Hc.cells Hc.start
  cases sec
  all_goals
    go_enter Tryd.func25, Tryd.ntmps25
    go_wp2
    go_ret
    exact ⟨rfl, al1 w _⟩
/-- A call that writes into block g alone. -/
theorem layL_zero (L : List Int) (k : Nat) : layL L k [] = L := layL_nil L k
set_option maxRecDepth 100000 in
/-- The document's lay. -/
theorem rlay_ok (g N at' : Nat) (s : ByteArray) (L : List Int) (w : World) (hL : L.length = N) (hN : N ≤ 4194304) (h : at' + s.size ≤ N) (hr : Rw w g L) :
    Calls Tryd.prog 22 #[.slice (some ⟨g, 0, none⟩) N N, .int .i64 at', .string s] w fun e w' => e = .returned (.tuple #[]) ∧ Rw w' g (layL L at' (nums s)) ∧ w.grownBy w' (some g) := by
  have HR : Hid (Rw w g L) := hr
  have HL : Hid (L.length = N) := hL
  clear hr hL
  go_enter Tryd.func22, Tryd.ntmps22
  go_wp2
  go_loopw [6] (fun i wr => ∃ k : Nat, k ≤ s.size ∧ i = .int .i64 k ∧ Hid (Rw wr g (layL L at' ((nums s).take k)) ∧ w.grownBy wr (some g))) (fun i _ => s.size - (intOf i).toNat)
  case atStart => exact ⟨0, by omega, rfl, by rw [List.take_zero, layL_nil]; exact ⟨HR.out, grown_refl _ _⟩⟩
  case round =>
    obtain ⟨k, hk, rfl, HK⟩ := hrel
    by_cases hlt : k < s.size
    · have hn := nums_at s k hlt
      have e1 : IntKind.i64.wrap ((at' : Int) + (k : Int)) = ((at' + k : Nat) : Int) := by rw [IntKind.wrap_i64]; omega
      have hlen : ((nums s).take k).length = k := by rw [List.length_take, nums_length]; omega
      have f0 : wr.frozen? ⟨g, at' + k, none⟩ = false := HK.out.1.frozen _
      have hl2 : (layL L at' ((nums s).take k)).length = N := by rw [layL_length (by rw [hlen, HL.out]; omega), HL.out]
      have c0 : wr.cell? ⟨g, at' + k, none⟩ = some (.int .u8 ((layL L at' ((nums s).take k)).getD (at' + k) 0)) := HK.out.1.cell _ (by omega)
      generalize (layL L at' ((nums s).take k)).getD (at' + k) 0 = z0 at c0
      have HS : Hid (Rw (wr.setCell ⟨g, at' + k, none⟩ (.int .u8 (s[k].toNat : Int))) g (layL L at' ((nums s).take (k + 1)))) := by
        have q := HK.out.1.set (at' + k) (s[k].toNat : Int)
        have q2 := layL_snoc (L := L) (k := at') (s := (nums s).take k) (z := (s[k].toNat : Int)) (by rw [hlen, HL.out]; omega)
        rw [hlen] at q2
        rw [q2] at q
        have e : (nums s).take (k + 1) = (nums s).take k ++ [(s[k].toNat : Int)] := by
          rw [List.take_succ_eq_append_getElem (by rw [nums_length]; exact hlt)]
          rw [← getD_at _ 0 k (by rw [nums_length]; exact hlt), hn]
        rw [e]
        exact q
      clear hn hlen hl2
      go_wp2
      refine ⟨⟨k + 1, by omega, by simp, HS.out, gb_trans HK.out.2 ⟨rfl, rfl, rfl, by simp [World.setCell], fun i _ hi => Below.heap_setCell _ _ _ _ (fun e => hi (by rw [e]))⟩⟩, by simp [intOf]; omega⟩
    · have hks : k = s.size := by omega
      have HE : Hid (Rw wr g (layL L at' (nums s)) ∧ w.grownBy wr (some g)) := by
        have q := HK.out
        rw [List.take_of_length_le (by rw [nums_length]; omega)] at q
        exact q
      clear hks HK
      go_wp2
      go_end0
      exact ⟨rfl, HE.out⟩
end Go.Proofs.YtoanndhaopgkjaaDoor
namespace Go.Proofs.YtoanndhaopgkjaaDoor
open Go.RowKit
set_option linter.unusedVariables false
set_option linter.unusedSimpArgs false
/-- One byte more ahead of s. -/
theorem layL_cons {L : List Int} {k : Nat} {s : List Int} {z : Int} (h : k + 1 + s.length ≤ L.length) : (layL L (k + 1) s).set k z = layL L k (z :: s) := by
  have h2 : k + (z :: s).length ≤ L.length := by simp; omega
  refine ext_at ?_ (fun j hj => ?_)
  · rw [List.length_set, layL_length h, layL_length h2]
  · rw [List.length_set, layL_length h] at hj
    rw [layL_at h2]
    rw [List.getD_eq_getElem?_getD, List.getElem?_set]
    by_cases e : k = j
    · subst e
      rw [if_pos rfl, if_pos (by rw [layL_length h]; omega), if_pos (by simp)]
      simp
    · rw [if_neg e, ← List.getD_eq_getElem?_getD, layL_at h]
      by_cases c : k + 1 ≤ j ∧ j < k + 1 + s.length
      · rw [if_pos c, if_pos (by simp; omega)]
        rw [show j - k = (j - (k + 1)) + 1 by omega]
        simp
      · rw [if_neg c, if_neg (by simp; omega)]
set_option maxRecDepth 100000 in
/-- The document's put. -/
theorem rput_ok (g N at' n : Nat) (x : Int) (L : List Int) (w : World) (hL : L.length = N) (hN : N ≤ 4194304) (hn : n ≤ 8) (h : at' + n ≤ N) (h0 : 0 ≤ x) (h1 : x < 18446744073709551616) (hr : Rw w g L) :
    Calls Tryd.prog 24 #[.slice (some ⟨g, 0, none⟩) N N, .int .i64 at', .int .i64 n, .int .u64 x] w fun e w' => e = .returned (.tuple #[]) ∧ Rw w' g (layL L at' (beL x n)) ∧ w.grownBy w' (some g) := by
  have HR : Hid (Rw w g L) := hr
  have HL : Hid (L.length = N) := hL
  clear hr hL
  have HS0 : Hid (Rw w g (layL L (at' + (n - 0)) ((beL x n).drop (n - 0))) ∧ w.grownBy w (some g)) := by
    rw [List.drop_of_length_le (by rw [beL_length]; omega), layL_nil]
    exact ⟨HR.out, grown_refl _ _⟩
  have e0 : IntKind.i64.wrap ((n : Int) - 1) = (n : Int) - 1 := by rw [IntKind.wrap_i64]; omega
  go_enter Tryd.func24, Tryd.ntmps24
  go_wp2
  go_loopw [3, 8] (fun v i wr => ∃ t : Nat, t ≤ n ∧ i = .int .i64 ((n : Int) - 1 - (t : Int)) ∧ v = .int .u64 (x / 256 ^ t) ∧ Hid (Rw wr g (layL L (at' + (n - t)) ((beL x n).drop (n - t))) ∧ w.grownBy wr (some g))) (fun _ i _ => (intOf i + 1).toNat)
  case atStart => exact ⟨0, by omega, by simp, by simp, HS0⟩
  case round =>
    clear HS0 e0
    obtain ⟨t, ht, rfl, rfl, HK⟩ := hrel
    obtain ⟨y, HY⟩ : ∃ y : Int, Hid (y = x / 256 ^ t) := ⟨_, rfl⟩
    have hpow : (0 : Int) < 256 ^ t := Int.pow_pos (by decide)
    have hy0 : 0 ≤ y := by rw [HY.out]; exact Int.ediv_nonneg h0 (Int.le_of_lt hpow)
    have hy1 : y < 18446744073709551616 := by
      rw [HY.out]
      have : x / 256 ^ t ≤ x := Int.ediv_le_self _ h0
      omega
    rw [← HY.out]
    clear hpow
    by_cases hlt : t < n
    · obtain ⟨m, HM⟩ : ∃ m : Nat, Hid (m = n - 1 - t) := ⟨_, rfl⟩
      have em : (n : Int) - 1 - (t : Int) = (m : Int) := by have := HM.out; omega
      rw [em]
      have hmn : at' + m < N := by have := HM.out; omega
      have e1 : IntKind.i64.wrap ((at' : Int) + (m : Int)) = ((at' + m : Nat) : Int) := by rw [IntKind.wrap_i64]; omega
      have e2 : IntKind.i64.wrap ((m : Int) - 1) = (m : Int) - 1 := by rw [IntKind.wrap_i64]; have := HM.out; omega
      have e3 : IntKind.u8.wrap (y % 256) = y % 256 := by rw [IntKind.wrap_u8]; omega
      have f0 : wr.frozen? ⟨g, at' + m, none⟩ = false := HK.out.1.frozen _
      have hdl : ((beL x n).drop (n - t)).length = t := by rw [List.length_drop, beL_length]; omega
      have hl2 : (layL L (at' + (n - t)) ((beL x n).drop (n - t))).length = N := by rw [layL_length (by rw [hdl, HL.out]; omega), HL.out]
      have c0 : wr.cell? ⟨g, at' + m, none⟩ = some (.int .u8 ((layL L (at' + (n - t)) ((beL x n).drop (n - t))).getD (at' + m) 0)) := HK.out.1.cell _ (by omega)
      generalize (layL L (at' + (n - t)) ((beL x n).drop (n - t))).getD (at' + m) 0 = z0 at c0
      have HS : Hid (Rw (wr.setCell ⟨g, at' + m, none⟩ (.int .u8 (y % 256))) g (layL L (at' + (n - (t + 1))) ((beL x n).drop (n - (t + 1))))) := by
        have q := HK.out.1.set (at' + m) (y % 256)
        have hm := HM.out
        have ea : at' + (n - t) = (at' + m) + 1 := by omega
        rw [ea, layL_cons (by rw [hdl, HL.out]; omega)] at q
        have eb : (beL x n).drop (n - (t + 1)) = (y % 256) :: (beL x n).drop (n - t) := by
          rw [show n - t = n - (t + 1) + 1 by omega, ← List.getElem_cons_drop (by rw [beL_length]; omega)]
          congr 1
          rw [← getD_at _ 0 _ (by rw [beL_length]; omega), beL_at x n _ (by omega), HY.out]
          congr 3
          omega
        rw [eb, show n - (t + 1) = m by omega]
        exact q
      have HD : Hid (y / 256 = x / 256 ^ (t + 1)) := by
        show y / 256 = x / 256 ^ (t + 1)
        rw [HY.out, Int.ediv_ediv_of_nonneg (by exact Int.le_of_lt (Int.pow_pos (by decide))), Int.pow_succ]
      have HMI : Hid ((m : Int) - 1 = (n : Int) - 1 - ((t + 1 : Nat) : Int)) := by show (m : Int) - 1 = _; have := HM.out; omega
      clear hdl hl2 em
      go_wp2
      refine ⟨⟨t + 1, by omega, by rw [HMI.out], by rw [HD.out], HS.out, gb_trans HK.out.2 ⟨rfl, rfl, rfl, by simp [World.setCell], fun i _ hi => Below.heap_setCell _ _ _ _ (fun e => hi (by rw [e]))⟩⟩, by simp [intOf]⟩
    · have hks : t = n := by omega
      have HE : Hid (Rw wr g (layL L at' (beL x n)) ∧ w.grownBy wr (some g)) := by
        have q := HK.out
        rw [hks, Nat.sub_self, List.drop_zero, Nat.add_zero] at q
        exact q
      have em : (n : Int) - 1 - (t : Int) = -1 := by omega
      rw [em]
      clear hks HK em
      go_wp2
      go_end0
      exact ⟨rfl, HE.out⟩
/-- The first k bytes without those of the digest. -/
def mskK (L : List Int) (k : Nat) : List Int := (List.range L.length).map fun j => if j < k ∧ (j < 448 ∨ 512 ≤ j) then L.getD j 0 else 0
theorem mskK_length (L : List Int) (k : Nat) : (mskK L k).length = L.length := by simp [mskK]
theorem mskK_at (L : List Int) (k j : Nat) (h : j < L.length) : (mskK L k).getD j 0 = if j < k ∧ (j < 448 ∨ 512 ≤ j) then L.getD j 0 else 0 := by
  rw [getD_at _ _ _ (by rw [mskK_length]; exact h)]
  simp [mskK]
theorem mskK_zero (L : List Int) : mskK L 0 = List.replicate L.length 0 := by
  refine ext_at (by simp [mskK_length]) (fun j hj => ?_)
  rw [mskK_length] at hj
  rw [mskK_at L 0 j hj, if_neg (by omega), getD_at _ _ _ (by simpa using hj)]
  simp
theorem mskK_set (L : List Int) (k : Nat) (h : k < L.length) (hk : k < 448 ∨ 512 ≤ k) : (mskK L k).set k (L.getD k 0) = mskK L (k + 1) := by
  refine ext_at (by simp [mskK_length]) (fun j hj => ?_)
  rw [List.length_set, mskK_length] at hj
  rw [mskK_at L (k + 1) j hj, List.getD_eq_getElem?_getD, List.getElem?_set]
  by_cases e : k = j
  · subst e
    rw [if_pos rfl, if_pos (by rw [mskK_length]; exact hj), if_pos ⟨by omega, hk⟩]
    rfl
  · rw [if_neg e, ← List.getD_eq_getElem?_getD, mskK_at L k j hj]
    by_cases c : j < k ∧ (j < 448 ∨ 512 ≤ j)
    · rw [if_pos c, if_pos ⟨by omega, c.2⟩]
    · rw [if_neg c, if_neg (by omega)]
theorem mskK_skip (L : List Int) (k : Nat) (hk : ¬ (k < 448 ∨ 512 ≤ k)) : mskK L k = mskK L (k + 1) := by
  refine ext_at (by simp [mskK_length]) (fun j hj => ?_)
  rw [mskK_length] at hj
  rw [mskK_at L _ j hj, mskK_at L _ j hj]
  by_cases c : j < k ∧ (j < 448 ∨ 512 ≤ j)
  · rw [if_pos c, if_pos ⟨by omega, c.2⟩]
  · rw [if_neg c, if_neg (by omega)]
theorem mskK_all (L : List Int) (h : 512 ≤ L.length) : mskK L L.length = L.take 448 ++ List.replicate 64 0 ++ L.drop 512 := by
  refine ext_at (by simp [mskK_length]; omega) (fun j hj => ?_)
  rw [mskK_length] at hj
  rw [mskK_at L _ j hj]
  have e1 : (L.take 448).length = 448 := by simp; omega
  simp only [List.getD_eq_getElem?_getD]
  by_cases c1 : j < 448
  · rw [if_pos ⟨hj, .inl c1⟩, List.append_assoc, List.getElem?_append_left (by omega), List.getElem?_take_of_lt c1]
  · by_cases c2 : 512 ≤ j
    · rw [if_pos ⟨hj, .inr c2⟩, List.getElem?_append_right (by simp; omega), List.getElem?_drop]
      congr 2
      simp
      omega
    · rw [if_neg (by omega), List.append_assoc, List.getElem?_append_right (by omega), List.getElem?_append_left (by simp; omega), List.getElem?_replicate]
      rw [e1]
      split <;> rfl
set_option maxRecDepth 100000 in
/-- The document's Sum of a copy's bytes. -/
theorem rsum8_ok (b o : Nat) (N cp : Nat) (L : List Int) (w : World) (hT : RTab w) (hN : L.length = N) (h5 : 512 ≤ N) (hv : View w (.slice (some ⟨b, o, none⟩) N cp) L) (hm : N ≤ 140737488351232) :
    Calls Tryd.prog 13 #[.slice (some ⟨b, o, none⟩) N cp] w fun e w' => ∃ v', e = .returned v' ∧ w'.ownsRow w.heap.size 5 1 v' 32 (cellsU8 (sumI L)) ∧ Below w.heap.size w w' := by
  have mk := make_u8 w N (by omega)
  have HT : Hid (RTab w) := hT
  have hvlt : b < w.heap.size := view_lt hv (by intro e; rw [e] at hN; simp at hN; omega) b o N cp rfl
  have HC : Hid (∀ i, i < N → w.cell? ⟨b, o + i, none⟩ = some (.int .u8 (L.getD i 0))) := by
    obtain ⟨a', c', he, q1, q2, q3, q4⟩ := hv
    rcases q4 with q4 | ⟨b2, o2, ha2, hc2⟩
    · rw [q4] at hN
      simp at hN
      omega
    · injection he with e1 e2 e3
      rw [ha2] at e1
      injection e1 with e1
      injection e1 with e4 e5
      subst e4 e5
      intro i hi
      exact hc2 i (by omega)
  have HL : Hid (L.length = N) := hN
  have HA : Hid (Rw (w.alloc (.cells (madeCells #[.int .u8 0] N) 5)) w.heap.size (mskK L 0) ∧ Below w.heap.size w (w.alloc (.cells (madeCells #[.int .u8 0] N) 5))) := by
    rw [mskK_zero, HL.out]
    exact ⟨made_rw w N, al1 w _⟩
  clear hN hT hv
  generalize (w.alloc (.cells (madeCells #[.int .u8 0] N) 5)) = wA at mk HA
  go_enter Tryd.func13, Tryd.ntmps13
  go_wp2
  clear mk
  go_loopw [4] (fun i wr => ∃ k : Nat, k ≤ N ∧ i = .int .i64 k ∧ Hid (Rw wr w.heap.size (mskK L k) ∧ Below w.heap.size w wr)) (fun i _ => N - (intOf i).toNat)
  case atStart => exact ⟨0, by omega, rfl, HA⟩
  case round =>
    clear HA
    obtain ⟨k, hk, rfl, HK⟩ := hrel
    by_cases hlt : k < N
    · by_cases hin : k < 448 ∨ 512 ≤ k
      · have f0 : wr.frozen? ⟨w.heap.size, k, none⟩ = false := HK.out.1.frozen _
        have c0 : wr.cell? ⟨w.heap.size, k, none⟩ = some (.int .u8 ((mskK L k).getD k 0)) := HK.out.1.cell _ (by rw [mskK_length, HL.out]; exact hlt)
        generalize (mskK L k).getD k 0 = z0 at c0
        have c1 : wr.cell? ⟨b, o + k, none⟩ = some (.int .u8 (L.getD k 0)) := by rw [HK.out.2.cell (p := ⟨b, o + k, none⟩) hvlt]; exact HC.out k hlt
        have HS : Hid (Rw (wr.setCell ⟨w.heap.size, k, none⟩ (.int .u8 (L.getD k 0))) w.heap.size (mskK L (k + 1))) := by
          have q := HK.out.1.set k (L.getD k 0)
          rw [mskK_set L k (by rw [HL.out]; exact hlt) hin] at q
          exact q
        generalize L.getD k 0 = z1 at c1 HS
        rcases hin with hin | hin
        · go_wp2
          exact ⟨⟨k + 1, by omega, by simp, HS.out, HK.out.2.setCell (Nat.le_refl _) _⟩, by simp [intOf]; omega⟩
        · have d1 : decide ((k : Int) < 448) = false := by simp; omega
          go_wp2
          exact ⟨⟨k + 1, by omega, by simp, HS.out, HK.out.2.setCell (Nat.le_refl _) _⟩, by simp [intOf]; omega⟩
      · have d1 : decide ((k : Int) < 448) = false := by simp; omega
        have d2 : decide (512 ≤ (k : Int)) = false := by simp; omega
        have HS : Hid (Rw wr w.heap.size (mskK L (k + 1))) := by rw [← mskK_skip L k hin]; exact HK.out.1
        clear hin
        go_wp2
        exact ⟨⟨k + 1, by omega, by simp, HS.out, HK.out.2⟩, by simp [intOf]; omega⟩
    · have HE : Hid (Rw wr w.heap.size (L.take 448 ++ List.replicate 64 0 ++ L.drop 512) ∧ Below w.heap.size w wr) := by
        have hkn : k = L.length := by rw [HL.out]; omega
        rw [← mskK_all L (by rw [HL.out]; exact h5), ← hkn]
        exact HK.out
      have HV : Hid (View wr (.slice (some ⟨w.heap.size, 0, none⟩) N N) (L.take 448 ++ List.replicate 64 0 ++ L.drop 512)) := by
        have hl : (L.take 448 ++ List.replicate 64 0 ++ L.drop 512).length = N := by simp [HL.out]; omega
        have q := HE.out.1.view (by rw [hl]; simp [maxLen]; omega)
        rw [hl] at q
        exact q
      clear HK
      go_wp2_with (go_at_call 26; refine (rsum_ok (h := 256) (.inr (.inl rfl)) _ _ _ (HT.out.below HE.out.2 HT.out.size) HV.out (by simp [HL.out]; omega)).mono ?_; rintro e1 w1 ⟨v1, rfl, ho, hb⟩)
      go_ret
      exact ⟨v1, rfl, ho.mono HE.out.2.size, HE.out.2.trans (hb.mono HE.out.2.size)⟩
end Go.Proofs.YtoanndhaopgkjaaDoor
namespace Go.Proofs.YtoanndhaopgkjaaDoor
open Go.RowKit
set_option linter.unusedVariables false
set_option linter.unusedSimpArgs false
theorem LayI.step {w : World} {c : Hc} {gb : Nat} {u u' : World} {L L' : List Int} (h : LayI w c gb u L) (hr : Rw u' gb L') (hg : u.grownBy u' (some gb)) : LayI w c gb u' L' :=
  ⟨fun j v hj => by rw [gb_cell hg (Nat.lt_trans h.lt h.size) (Nat.ne_of_lt h.lt)]; exact h.box j v hj, h.below.trans (below_gb hg h.below.size (Nat.le_of_lt h.lt)), h.lt, hr⟩
theorem LayI.keep {w : World} {c : Hc} {gb : Nat} {u u' : World} {L : List Int} (h : LayI w c gb u L) (hb : Below u.heap.size u u') : LayI w c gb u' L := h.step (h.row.below hb) (gb_of gb hb)
/-- The texts of a copy, as Go bears them. -/
structure Txt (c : Hc) : Prop where
  l : c.label.size ≤ maxLen
  s : c.sub.size ≤ maxLen
  u : c.uuid.size ≤ maxLen
  t : c.text.size ≤ maxLen
theorem packR_bad {c : Hc} {w w' : World} {e : Ending} (E : Int) (hE : packE c = E) (h0 : E ≠ 0) (he : e = .returned (.tuple #[.slice none 0 0, .int .i64 E])) (hb : Below w.heap.size w w') : PackR c w e w' := by
  refine ⟨.slice none 0 0, by rw [hE]; exact he, ?_, hb⟩
  unfold packB
  rw [if_neg (by rw [hE]; exact h0)]
  exact own_nil _ _
set_option maxRecDepth 100000 in
theorem rpack_0 (c : Hc) (w : World) (ht : Txt c) (hb : headB c.head = false) : Calls Tryd.prog 10 #[c.val] w (PackR c w) := by
  have Hpl : Hid (∀ s (n : Int) u, s ∈ [c.label, c.sub, c.uuid, c.text] → Calls Tryd.prog 21 #[.string s, .int .i64 n] u fun e w' => e = .returned (.bool (plainB s (n + 1))) ∧ u = w') := fun s n u hs => rplain_ok s n u (by
    simp only [List.mem_cons, List.not_mem_nil, or_false] at hs
    rcases hs with rfl | rfl | rfl | rfl
    · exact ht.l
    · exact ht.s
    · exact ht.u
    · exact ht.t)
  have HE : Hid (packE c = 83) := packE_0 hb
  rw [Hc.val_eq]
  go_enter Tryd.func10, Tryd.ntmps10
  go_wp2_with (first | (go_at_call 20; refine (risHead_ok c.head _).mono ?_; rintro e w1 ⟨rfl, hx⟩; obtain rfl := hx; rw [hb]))
  go_ret2
  exact packR_bad 83 HE.out (by decide) rfl (al1 w _)
set_option maxRecDepth 100000 in
theorem rpack_1 (c : Hc) (w : World) (ht : Txt c) (hb : headB c.head = true) (hq : c.seq < 1) : Calls Tryd.prog 10 #[c.val] w (PackR c w) := by
  have Hpl : Hid (∀ s (n : Int) u, s ∈ [c.label, c.sub, c.uuid, c.text] → Calls Tryd.prog 21 #[.string s, .int .i64 n] u fun e w' => e = .returned (.bool (plainB s (n + 1))) ∧ u = w') := fun s n u hs => rplain_ok s n u (by
    simp only [List.mem_cons, List.not_mem_nil, or_false] at hs
    rcases hs with rfl | rfl | rfl | rfl
    · exact ht.l
    · exact ht.s
    · exact ht.u
    · exact ht.t)
  have HE : Hid (packE c = 85) := by
    show packE c = 85
    unfold packE
    rw [if_neg (by rw [hb]; decide), if_pos (.inl (by omega))]
  have d1 : decide (c.seq < 1) = true := by simpa using hq
  clear hq
  rw [Hc.val_eq]
  go_enter Tryd.func10, Tryd.ntmps10
  go_wp2_with (first | (go_at_call 20; refine (risHead_ok c.head _).mono ?_; rintro e w1 ⟨rfl, hx⟩; obtain rfl := hx; rw [hb]) | (go_at_call 21; refine (Hpl.out _ _ _ (by simp)).mono ?_; rintro e w1 ⟨rfl, hx⟩; obtain rfl := hx))
  go_ret2
  exact packR_bad 85 HE.out (by decide) rfl (al1 w _)
set_option maxRecDepth 100000 in
theorem rpack_2 (c : Hc) (w : World) (ht : Txt c) (hb : headB c.head = true) (hq : 1 ≤ c.seq) (hq2 : 4611686018427387904 < c.seq) : Calls Tryd.prog 10 #[c.val] w (PackR c w) := by
  have Hpl : Hid (∀ s (n : Int) u, s ∈ [c.label, c.sub, c.uuid, c.text] → Calls Tryd.prog 21 #[.string s, .int .i64 n] u fun e w' => e = .returned (.bool (plainB s (n + 1))) ∧ u = w') := fun s n u hs => rplain_ok s n u (by
    simp only [List.mem_cons, List.not_mem_nil, or_false] at hs
    rcases hs with rfl | rfl | rfl | rfl
    · exact ht.l
    · exact ht.s
    · exact ht.u
    · exact ht.t)
  have HE : Hid (packE c = 85) := by
    show packE c = 85
    unfold packE
    rw [if_neg (by rw [hb]; decide), if_pos (.inl (by omega))]
  have d1 : decide (c.seq < 1) = false := by simp; omega
  have d2 : decide (4611686018427387904 < c.seq) = true := by simpa using hq2
  clear hq hq2
  rw [Hc.val_eq]
  go_enter Tryd.func10, Tryd.ntmps10
  go_wp2_with (first | (go_at_call 20; refine (risHead_ok c.head _).mono ?_; rintro e w1 ⟨rfl, hx⟩; obtain rfl := hx; rw [hb]) | (go_at_call 21; refine (Hpl.out _ _ _ (by simp)).mono ?_; rintro e w1 ⟨rfl, hx⟩; obtain rfl := hx))
  go_ret2
  exact packR_bad 85 HE.out (by decide) rfl (al1 w _)
set_option maxRecDepth 100000 in
theorem rpack_3 (c : Hc) (w : World) (ht : Txt c) (hb : headB c.head = true) (hq : 1 ≤ c.seq) (hq2 : c.seq ≤ 4611686018427387904) (h3 : plainB c.label 48 = false) : Calls Tryd.prog 10 #[c.val] w (PackR c w) := by
  have Hpl : Hid (∀ s (n : Int) u, s ∈ [c.label, c.sub, c.uuid, c.text] → Calls Tryd.prog 21 #[.string s, .int .i64 n] u fun e w' => e = .returned (.bool (plainB s (n + 1))) ∧ u = w') := fun s n u hs => rplain_ok s n u (by
    simp only [List.mem_cons, List.not_mem_nil, or_false] at hs
    rcases hs with rfl | rfl | rfl | rfl
    · exact ht.l
    · exact ht.s
    · exact ht.u
    · exact ht.t)
  have HE : Hid (packE c = 85) := by
    show packE c = 85
    unfold packE
    rw [if_neg (by rw [hb]; decide), if_pos (.inr (.inr (.inl h3)))]
  have d1 : decide (c.seq < 1) = false := by simp; omega
  have d2 : decide (4611686018427387904 < c.seq) = false := by simp; omega
  clear hq hq2
  rw [Hc.val_eq]
  go_enter Tryd.func10, Tryd.ntmps10
  go_wp2_with (first | (go_at_call 20; refine (risHead_ok c.head _).mono ?_; rintro e w1 ⟨rfl, hx⟩; obtain rfl := hx; rw [hb]) | (go_at_call 21; refine (Hpl.out _ _ _ (by simp)).mono ?_; rintro e w1 ⟨rfl, hx⟩; obtain rfl := hx))
  go_ret2
  exact packR_bad 85 HE.out (by decide) rfl (al1 w _)
set_option maxRecDepth 100000 in
theorem rpack_4 (c : Hc) (w : World) (ht : Txt c) (hb : headB c.head = true) (hq : 1 ≤ c.seq) (hq2 : c.seq ≤ 4611686018427387904) (h3 : plainB c.label 48 = true) (h4 : plainB c.sub 48 = false) : Calls Tryd.prog 10 #[c.val] w (PackR c w) := by
  have Hpl : Hid (∀ s (n : Int) u, s ∈ [c.label, c.sub, c.uuid, c.text] → Calls Tryd.prog 21 #[.string s, .int .i64 n] u fun e w' => e = .returned (.bool (plainB s (n + 1))) ∧ u = w') := fun s n u hs => rplain_ok s n u (by
    simp only [List.mem_cons, List.not_mem_nil, or_false] at hs
    rcases hs with rfl | rfl | rfl | rfl
    · exact ht.l
    · exact ht.s
    · exact ht.u
    · exact ht.t)
  have HE : Hid (packE c = 85) := by
    show packE c = 85
    unfold packE
    rw [if_neg (by rw [hb]; decide), if_pos (.inr (.inr (.inr (.inr h4))))]
  have d1 : decide (c.seq < 1) = false := by simp; omega
  have d2 : decide (4611686018427387904 < c.seq) = false := by simp; omega
  clear hq hq2
  rw [Hc.val_eq]
  go_enter Tryd.func10, Tryd.ntmps10
  go_wp2_with (first | (go_at_call 20; refine (risHead_ok c.head _).mono ?_; rintro e w1 ⟨rfl, hx⟩; obtain rfl := hx; rw [hb]) | (go_at_call 21; refine (Hpl.out _ _ _ (by simp)).mono ?_; rintro e w1 ⟨rfl, hx⟩; obtain rfl := hx))
  go_ret2
  exact packR_bad 85 HE.out (by decide) rfl (al1 w _)
set_option maxRecDepth 100000 in
theorem rpack_5 (c : Hc) (w : World) (ht : Txt c) (hb : headB c.head = true) (hq : 1 ≤ c.seq) (hq2 : c.seq ≤ 4611686018427387904) (h3 : plainB c.label 48 = true) (h4 : plainB c.sub 48 = true) (h5 : plainB c.uuid 40 = false) : Calls Tryd.prog 10 #[c.val] w (PackR c w) := by
  have Hpl : Hid (∀ s (n : Int) u, s ∈ [c.label, c.sub, c.uuid, c.text] → Calls Tryd.prog 21 #[.string s, .int .i64 n] u fun e w' => e = .returned (.bool (plainB s (n + 1))) ∧ u = w') := fun s n u hs => rplain_ok s n u (by
    simp only [List.mem_cons, List.not_mem_nil, or_false] at hs
    rcases hs with rfl | rfl | rfl | rfl
    · exact ht.l
    · exact ht.s
    · exact ht.u
    · exact ht.t)
  have HE : Hid (packE c = 85) := by
    show packE c = 85
    unfold packE
    rw [if_neg (by rw [hb]; decide), if_pos (.inr (.inr (.inr (.inl h5))))]
  have d1 : decide (c.seq < 1) = false := by simp; omega
  have d2 : decide (4611686018427387904 < c.seq) = false := by simp; omega
  clear hq hq2
  rw [Hc.val_eq]
  go_enter Tryd.func10, Tryd.ntmps10
  go_wp2_with (first | (go_at_call 20; refine (risHead_ok c.head _).mono ?_; rintro e w1 ⟨rfl, hx⟩; obtain rfl := hx; rw [hb]) | (go_at_call 21; refine (Hpl.out _ _ _ (by simp)).mono ?_; rintro e w1 ⟨rfl, hx⟩; obtain rfl := hx))
  go_ret2
  exact packR_bad 85 HE.out (by decide) rfl (al1 w _)
set_option maxRecDepth 100000 in
theorem rpack_6 (c : Hc) (w : World) (ht : Txt c) (hb : headB c.head = true) (hq : 1 ≤ c.seq) (hq2 : c.seq ≤ 4611686018427387904) (h3 : plainB c.label 48 = true) (h4 : plainB c.sub 48 = true) (h5 : plainB c.uuid 40 = true) (h6 : c.salt.size ≠ 64) : Calls Tryd.prog 10 #[c.val] w (PackR c w) := by
  have Hpl : Hid (∀ s (n : Int) u, s ∈ [c.label, c.sub, c.uuid, c.text] → Calls Tryd.prog 21 #[.string s, .int .i64 n] u fun e w' => e = .returned (.bool (plainB s (n + 1))) ∧ u = w') := fun s n u hs => rplain_ok s n u (by
    simp only [List.mem_cons, List.not_mem_nil, or_false] at hs
    rcases hs with rfl | rfl | rfl | rfl
    · exact ht.l
    · exact ht.s
    · exact ht.u
    · exact ht.t)
  have HE : Hid (packE c = 85) := by
    show packE c = 85
    unfold packE
    rw [if_neg (by rw [hb]; decide), if_pos (.inr (.inl h6))]
  have d1 : decide (c.seq < 1) = false := by simp; omega
  have d2 : decide (4611686018427387904 < c.seq) = false := by simp; omega
  clear hq hq2
  have d6 : ((c.salt.size : Int) != 64) = true := by simp; omega
  clear h6
  rw [Hc.val_eq]
  go_enter Tryd.func10, Tryd.ntmps10
  go_wp2_with (first | (go_at_call 20; refine (risHead_ok c.head _).mono ?_; rintro e w1 ⟨rfl, hx⟩; obtain rfl := hx; rw [hb]) | (go_at_call 21; refine (Hpl.out _ _ _ (by simp)).mono ?_; rintro e w1 ⟨rfl, hx⟩; obtain rfl := hx))
  go_ret2
  exact packR_bad 85 HE.out (by decide) rfl (al1 w _)
set_option maxRecDepth 100000 in
theorem rpack_7 (c : Hc) (w : World) (ht : Txt c) (hb : headB c.head = true) (hq : 1 ≤ c.seq) (hq2 : c.seq ≤ 4611686018427387904) (h3 : plainB c.label 48 = true) (h4 : plainB c.sub 48 = true) (h5 : plainB c.uuid 40 = true) (h6 : c.salt.size = 64) (h7 : plainB c.text (c.head - 4096) = false) : Calls Tryd.prog 10 #[c.val] w (PackR c w) := by
  have Hpl : Hid (∀ s (n : Int) u, s ∈ [c.label, c.sub, c.uuid, c.text] → Calls Tryd.prog 21 #[.string s, .int .i64 n] u fun e w' => e = .returned (.bool (plainB s (n + 1))) ∧ u = w') := fun s n u hs => rplain_ok s n u (by
    simp only [List.mem_cons, List.not_mem_nil, or_false] at hs
    rcases hs with rfl | rfl | rfl | rfl
    · exact ht.l
    · exact ht.s
    · exact ht.u
    · exact ht.t)
  have HE : Hid (packE c = 86) := by
    show packE c = 86
    rw [packE_3 hb (by simp [seqB]; omega) h6]
    unfold ansF
    rw [if_pos ⟨h3, h5, h4⟩, if_neg (by rw [h7]; decide)]
  have d1 : decide (c.seq < 1) = false := by simp; omega
  have d2 : decide (4611686018427387904 < c.seq) = false := by simp; omega
  clear hq hq2
  have d6 : ((c.salt.size : Int) != 64) = false := by simp; omega
  clear h6
  have HHD : Hid (16384 ≤ c.head ∧ c.head ≤ 4194304) := headB_le hb
  have e1 : IntKind.i64.wrap (c.head - 4096) = c.head - 4096 := by have := HHD.out; rw [IntKind.wrap_i64]; omega
  have e2 : IntKind.i64.wrap (c.head - 4096 - 1) = c.head - 4096 - 1 := by have := HHD.out; rw [IntKind.wrap_i64]; omega
  have h7b : plainB c.text (c.head - 4096 - 1 + 1) = false := by rw [show c.head - 4096 - 1 + 1 = c.head - 4096 by omega]; exact h7
  rw [Hc.val_eq]
  go_enter Tryd.func10, Tryd.ntmps10
  go_wp2_with (first | (go_at_call 20; refine (risHead_ok c.head _).mono ?_; rintro e w1 ⟨rfl, hx⟩; obtain rfl := hx; rw [hb]) | (go_at_call 21; refine (Hpl.out _ _ _ (by simp)).mono ?_; rintro e w1 ⟨rfl, hx⟩; obtain rfl := hx))
  go_ret2
  exact packR_bad 86 HE.out (by decide) rfl (al1 w _)
end Go.Proofs.YtoanndhaopgkjaaDoor
namespace Go.Proofs.YtoanndhaopgkjaaDoor
open Go.RowKit
set_option linter.unusedVariables false
set_option linter.unusedSimpArgs false
theorem conv_own {w : World} {B n : Nat} {v : Value} {zs : List Int} (h : w.ownsRow B 5 1 v n (cellsU8 zs)) (hn : 0 < n) : (convert 25 9 v).run Tryd.prog w = .ok (.string (strB zs)) w := by
  have hl := h.1
  rw [cellsU8_length] at hl
  obtain ⟨a', c', he, q1, q2, q3, q4⟩ := viewOwns h (by omega)
  rcases q4 with q4 | ⟨b2, o2, rfl, hc2⟩
  · rw [q4] at hl
    simp at hl
    omega
  · rw [he, ← strOfNums_eq]
    exact run_convert_bytes_arg w 25 5 Tryd.underlying25 Tryd.underlying5 b2 o2 zs.length c' zs rfl (fun i hi => hc2 i hi) 9 Tryd.underlying9
theorem sumD_range (zs : List Int) : ∀ z ∈ sumD 256 zs, 0 ≤ z ∧ z < 256 := by
  intro z hz
  have hz2 := List.mem_of_mem_take hz
  simp only [spellL, List.mem_map] at hz2
  obtain ⟨l, _, rfl⟩ := hz2
  unfold spellAt
  split
  · exact ⟨Int.emod_nonneg _ (by decide), Int.emod_lt_of_pos _ (by decide)⟩
  · exact ⟨by decide, by decide⟩
set_option maxHeartbeats 1000000 in
set_option maxRecDepth 100000 in
theorem rpack_good (c : Hc) (w : World) (hT : RTab w) (ht : Txt c) (hg : Good c) : Calls Tryd.prog 10 #[c.val] w (PackR c w) := by
  have Hpl : Hid (∀ s (n : Int) u, s ∈ [c.label, c.sub, c.uuid, c.text] → Calls Tryd.prog 21 #[.string s, .int .i64 n] u fun e w' => e = .returned (.bool (plainB s (n + 1))) ∧ u = w') := fun s n u hs => rplain_ok s n u (by
    simp only [List.mem_cons, List.not_mem_nil, or_false] at hs
    rcases hs with rfl | rfl | rfl | rfl
    · exact ht.l
    · exact ht.s
    · exact ht.u
    · exact ht.t)
  have HG : Hid (Good c) := hg
  have HT : Hid (RTab w) := hT
  have hb := hg.head
  have h3 := hg.label
  have h4 := hg.sub
  have h5 := hg.uuid
  have h7 := hg.text
  have HHD : Hid (16384 ≤ c.head ∧ c.head ≤ 4194304) := headB_le hb
  have HSQ : Hid (1 ≤ c.seq ∧ c.seq ≤ 4611686018427387904) := by
    have := hg.seq
    exact (by simpa only [seqB, decide_eq_true_eq] using this : 1 ≤ c.seq ∧ c.seq ≤ 4611686018427387904)
  have d1 : decide (c.seq < 1) = false := by have := HSQ.out; simp; omega
  have d2 : decide (4611686018427387904 < c.seq) = false := by have := HSQ.out; simp; omega
  have d6 : ((c.salt.size : Int) != 64) = false := by have := hg.salt; simp; omega
  have e1 : IntKind.i64.wrap (c.head - 4096) = c.head - 4096 := by have := HHD.out; rw [IntKind.wrap_i64]; omega
  have e2 : IntKind.i64.wrap (c.head - 4096 - 1) = c.head - 4096 - 1 := by have := HHD.out; rw [IntKind.wrap_i64]; omega
  have h7b : plainB c.text (c.head - 4096 - 1 + 1) = true := by rw [show c.head - 4096 - 1 + 1 = c.head - 4096 by omega]; exact hg.text
  have w1' := wrapU c.head (by have := HHD.out; omega) (by have := HHD.out; omega)
  have w2' := wrapU c.start (by have := HHD.out; unfold Hc.start; split <;> omega) (by have := HHD.out; unfold Hc.start; split <;> omega)
  obtain ⟨N, HN⟩ : ∃ N : Nat, Hid (c.head = (N : Int)) := ⟨c.head.toNat, by show c.head = _; have := HHD.out; omega⟩
  have HNN : Hid (16384 ≤ N ∧ N ≤ 4194304 ∧ c.head.toNat = N) := by have := HHD.out; have := HN.out; exact ⟨by omega, by omega, by omega⟩
  have mk := make_u8 (w.alloc (.cells #[.bool c.second, .int .i64 c.head, .int .u64 c.seq, .string c.label, .string c.sub, .string c.uuid, .string c.salt, .string c.text] 24)) N (by have := HNN.out; omega)
  rw [World.size_alloc, ← HN.out] at mk
  have HL0 : Hid (LayI w c (w.heap.size + 1) ((w.alloc (.cells c.cells.toArray 24)).alloc (.cells (madeCells #[.int .u8 0] N) 5)) (laysL c 0)) := by
    refine ⟨fun j v hj => ?_, (al1 w _).trans ((al1 _ _).mono (by simp)), by omega, ?_⟩
    · rw [(al1 (w.alloc (.cells c.cells.toArray 24)) _).cell (p := ⟨w.heap.size, 0 + j, none⟩) (by simp)]
      exact rangeAt_new w c.cells.toArray 24 j v hj
    · have q := made_rw (w.alloc (.cells c.cells.toArray 24)) N
      rw [World.size_alloc] at q
      rw [laysL, HNN.out.2.2]
      exact q
  clear hg hT
  rw [Hc.val_eq]
  rw [Hc.cells_eq] at HL0
  go_enter Tryd.func10, Tryd.ntmps10
  go_upto_region 8 with (first | (go_at_call 20; refine (risHead_ok c.head _).mono ?_; rintro e w1 ⟨rfl, hx⟩; obtain rfl := hx; rw [hb]) | (go_at_call 21; refine (Hpl.out _ _ _ (by simp)).mono ?_; rintro e w1 ⟨rfl, hx⟩; obtain rfl := hx))
  clear mk d1 d2 d6 e1 e2 h7b h7 hb h3 h4 h5 Hpl
  generalize ((w.alloc (.cells #[.bool c.second, .int .i64 c.head, .int .u64 c.seq, .string c.label, .string c.sub, .string c.uuid, .string c.salt, .string c.text] 24)).alloc (.cells (madeCells #[.int .u8 0] N) 5)) = u0 at HL0 ⊢
  generalize w.heap.size + 1 = gb at HL0 ⊢
  have HLN : Hid (∀ k, k ≤ 13 → (laysL c k).length = N) := fun k hk => by rw [laysL_length c HG.out k hk]; exact HNN.out.2.2
  have q0 : u0.cell? ⟨w.heap.size, 0, none⟩ = some (.bool c.second) := HL0.out.box 0 _ rfl
  have hl0 : Hid ((laysL c 0).length = N) := HLN.out 0 (by decide)
  have hf0 : 0 + (strB (magicL c.second)).size ≤ N := by
    have h1 := told_len c HG.out 0 (by decide)
    have h2 := HNN.out
    have h3 : (strB (magicL c.second)).size = (toldL (fldN 0) c).length := by rw [strB_size]; rfl
    have h4 : fldS 0 ≤ 64 := by decide
    omega
  go_upto_region 9 with (first | (go_at_call 23; refine (rmagic_ok c.second _).mono ?_; rintro e w1 ⟨rfl, hx⟩; obtain rfl := hx) | (go_at_call 22; go_loud (refine (rlay_ok gb N 0 (strB (magicL c.second)) (laysL c 0) _ hl0.out HNN.out.2.1 hf0 HL0.out.row).mono ?_); rintro e0 u1 ⟨rfl, hr0, hg0⟩))
  have HL1 : Hid (LayI w c gb u1 (laysL c 1)) := by
    rw [nums_strB (magicL c.second) (toldL_range c 0)] at hr0
    exact HL0.out.step hr0 hg0
  clear hr0 hg0 HL0 hl0 hf0
  clear q0
  have hl1 : Hid ((laysL c 1).length = N) := HLN.out 1 (by decide)
  go_upto_region 10 with (go_at_call 24; refine (rput_ok gb N 6 2 2 (laysL c 1) _ hl1.out HNN.out.2.1 (by decide) (by have := HNN.out; omega) (by decide) (by decide) (HL1.out.row)).mono ?_; rintro e1 u2 ⟨rfl, hr1, hg1⟩)
  have HL2 : Hid (LayI w c gb u2 (laysL c 2)) := HL1.out.step hr1 hg1
  clear hr1 hg1 HL1 hl1
  have q2 : u2.cell? ⟨w.heap.size, 1, none⟩ = some (.int .i64 c.head) := HL2.out.box 1 _ rfl
  have hl2 : Hid ((laysL c 2).length = N) := HLN.out 2 (by decide)
  go_upto_region 11 with (go_at_call 24; refine (rput_ok gb N 8 8 c.head (laysL c 2) _ hl2.out HNN.out.2.1 (by decide) (by have := HNN.out; omega) (by have := HHD.out; omega) (by have := HHD.out; omega) (HL2.out.row)).mono ?_; rintro e2 u3 ⟨rfl, hr2, hg2⟩)
  have HL3 : Hid (LayI w c gb u3 (laysL c 3)) := HL2.out.step hr2 hg2
  clear hr2 hg2 HL2 hl2
  clear q2
  have HL3 : Hid (LayI w c gb u3 (laysL c 4)) := by rw [show laysL c 4 = laysL c 3 from layL_nil _ _]; exact HL3
  have q3 : u3.cell? ⟨w.heap.size, 2, none⟩ = some (.int .u64 c.seq) := HL3.out.box 2 _ rfl
  have hl3 : Hid ((laysL c 4).length = N) := HLN.out 4 (by decide)
  go_upto_region 12 with (go_at_call 24; refine (rput_ok gb N 16 8 c.seq (laysL c 4) _ hl3.out HNN.out.2.1 (by decide) (by have := HNN.out; omega) (by have := HSQ.out; omega) (by have := HSQ.out; omega) (HL3.out.row)).mono ?_; rintro e3 u4 ⟨rfl, hr3, hg3⟩)
  have HL4 : Hid (LayI w c gb u4 (laysL c 5)) := HL3.out.step hr3 hg3
  clear hr3 hg3 HL3 hl3
  clear q3
  have q4 : u4.cell? ⟨w.heap.size, 3, none⟩ = some (.string c.label) := HL4.out.box 3 _ rfl
  have hl4 : Hid ((laysL c 5).length = N) := HLN.out 5 (by decide)
  have hf4 : 24 + c.label.size ≤ N := by
    have h1 := told_len c HG.out 5 (by decide)
    have h2 := HNN.out
    have h3 : c.label.size = (toldL (fldN 5) c).length := by exact (nums_length _).symm
    have h4 : fldS 5 ≤ 64 := by decide
    omega
  go_upto_region 13 with (first | (go_at_call 22; go_loud (refine (rlay_ok gb N 24 c.label (laysL c 5) _ hl4.out HNN.out.2.1 hf4 HL4.out.row).mono ?_); rintro e4 u5 ⟨rfl, hr4, hg4⟩))
  have HL5 : Hid (LayI w c gb u5 (laysL c 6)) := by
    skip
    exact HL4.out.step hr4 hg4
  clear hr4 hg4 HL4 hl4 hf4
  clear q4
  have hl5 : Hid ((laysL c 6).length = N) := HLN.out 6 (by decide)
  have hf5 : 72 + (strB sha256L).size ≤ N := by
    have h1 := told_len c HG.out 6 (by decide)
    have h2 := HNN.out
    have h3 : (strB sha256L).size = (toldL (fldN 6) c).length := by rw [strB_size]; rfl
    have h4 : fldS 6 ≤ 64 := by decide
    omega
  go_upto_region 14 with (first | (go_at_call 22; go_loud (refine (rlay_ok gb N 72 (strB sha256L) (laysL c 6) _ hl5.out HNN.out.2.1 hf5 HL5.out.row).mono ?_); rintro e5 u6 ⟨rfl, hr5, hg5⟩))
  have HL6 : Hid (LayI w c gb u6 (laysL c 7)) := by
    rw [nums_strB sha256L (toldL_range c 6)] at hr5
    exact HL5.out.step hr5 hg5
  clear hr5 hg5 HL5 hl5 hf5
  have q6 : u6.cell? ⟨w.heap.size, 6, none⟩ = some (.string c.salt) := HL6.out.box 6 _ rfl
  have hl6 : Hid ((laysL c 7).length = N) := HLN.out 7 (by decide)
  have hf6 : 104 + c.salt.size ≤ N := by
    have h1 := told_len c HG.out 7 (by decide)
    have h2 := HNN.out
    have h3 : c.salt.size = (toldL (fldN 7) c).length := by exact (nums_length _).symm
    have h4 : fldS 7 ≤ 64 := by decide
    omega
  go_upto_region 15 with (first | (go_at_call 22; go_loud (refine (rlay_ok gb N 104 c.salt (laysL c 7) _ hl6.out HNN.out.2.1 hf6 HL6.out.row).mono ?_); rintro e6 u7 ⟨rfl, hr6, hg6⟩))
  have HL7 : Hid (LayI w c gb u7 (laysL c 8)) := by
    skip
    exact HL6.out.step hr6 hg6
  clear hr6 hg6 HL6 hl6 hf6
  clear q6
  have q7 : u7.cell? ⟨w.heap.size, 5, none⟩ = some (.string c.uuid) := HL7.out.box 5 _ rfl
  have hl7 : Hid ((laysL c 8).length = N) := HLN.out 8 (by decide)
  have hf7 : 168 + c.uuid.size ≤ N := by
    have h1 := told_len c HG.out 8 (by decide)
    have h2 := HNN.out
    have h3 : c.uuid.size = (toldL (fldN 8) c).length := by exact (nums_length _).symm
    have h4 : fldS 8 ≤ 64 := by decide
    omega
  go_upto_region 16 with (first | (go_at_call 22; go_loud (refine (rlay_ok gb N 168 c.uuid (laysL c 8) _ hl7.out HNN.out.2.1 hf7 HL7.out.row).mono ?_); rintro e7 u8 ⟨rfl, hr7, hg7⟩))
  have HL8 : Hid (LayI w c gb u8 (laysL c 9)) := by
    skip
    exact HL7.out.step hr7 hg7
  clear hr7 hg7 HL7 hl7 hf7
  clear q7
  have q8 : u8.cell? ⟨w.heap.size, 4, none⟩ = some (.string c.sub) := HL8.out.box 4 _ rfl
  have hl8 : Hid ((laysL c 9).length = N) := HLN.out 9 (by decide)
  have hf8 : 208 + c.sub.size ≤ N := by
    have h1 := told_len c HG.out 9 (by decide)
    have h2 := HNN.out
    have h3 : c.sub.size = (toldL (fldN 9) c).length := by exact (nums_length _).symm
    have h4 : fldS 9 ≤ 64 := by decide
    omega
  go_upto_region 17 with (first | (go_at_call 22; go_loud (refine (rlay_ok gb N 208 c.sub (laysL c 9) _ hl8.out HNN.out.2.1 hf8 HL8.out.row).mono ?_); rintro e8 u9 ⟨rfl, hr8, hg8⟩))
  have HL9 : Hid (LayI w c gb u9 (laysL c 10)) := by
    skip
    exact HL8.out.step hr8 hg8
  clear hr8 hg8 HL8 hl8 hf8
  clear q8
  have HB9 : Hid (u9.rangeAt w.heap.size 0 c.cells) := HL9.out.box
  have hl9 : Hid ((laysL c 10).length = N) := HLN.out 10 (by decide)
  have HST : Hid (0 ≤ c.start ∧ c.start < 18446744073709551616) := by have := HHD.out; show _ ∧ _; unfold Hc.start; split <;> omega
  go_upto_region 18 with (first | (refine wpList_load_mid (by rfl) 24 (.tmp 1) (by rfl) w.heap.size 0 (by rfl) c.cells _ HB9.out Tryd.underlying24 rfl (by kernel_rfl) ?_) | (go_at_call 25; refine (rbegin_ok c _).mono ?_; rintro eb ub ⟨rfl, hbb⟩; have HLb : Hid (LayI w c gb ub (laysL c 10)) := HL9.out.keep hbb; clear hbb) | (go_at_call 24; refine (rput_ok gb N 256 8 c.start (laysL c 10) _ hl9.out HNN.out.2.1 (by decide) (by have := HNN.out; omega) HST.out.1 HST.out.2 (HLb.out.row)).mono ?_; rintro e9 u10 ⟨rfl, hr9, hg9⟩))
  have HL10 : Hid (LayI w c gb u10 (laysL c 11)) := HLb.out.step hr9 hg9
  clear hr9 hg9 HLb HL9 hl9 HB9
  have HL10 : Hid (LayI w c gb u10 (laysL c 13)) := by rw [show laysL c 13 = laysL c 12 from layL_nil _ _, show laysL c 12 = laysL c 11 from layL_nil _ _]; exact HL10
  have q10 : u10.cell? ⟨w.heap.size, 7, none⟩ = some (.string c.text) := HL10.out.box 7 _ rfl
  have hl10 : Hid ((laysL c 13).length = N) := HLN.out 13 (by decide)
  have hf10 : 4096 + c.text.size ≤ N := by
    have h1 := plainB_lt HG.out.text
    have h2 := HN.out
    omega
  have HLt : Hid (LayI w c gb u10 (laysL c 13)) := HL10
  go_upto_region 19 with (go_at_call 22; refine (rlay_ok gb N 4096 c.text (laysL c 13) _ hl10.out HNN.out.2.1 hf10 HLt.out.row).mono ?_; rintro e10 u11 ⟨rfl, hr10, hg10⟩)
  have HL11 : Hid (LayI w c gb u11 (preL c)) := HLt.out.step hr10 hg10
  clear hr10 hg10 HL10 HLt hl10 hf10 q10
  have hpl : Hid ((preL c).length = N) := by rw [preL_length c HG.out]; exact HNN.out.2.2
  have HV : Hid (View u11 (.slice (some ⟨gb, 0, none⟩) N N) (preL c)) := by
    have q := HL11.out.row.view (by rw [hpl.out]; have := HNN.out; simp [maxLen]; omega)
    rw [hpl.out] at q
    exact q
  go_wp2_with (go_at_call 13; refine (rsum8_ok gb 0 N N (preL c) _ (HT.out.below HL11.out.below HT.out.size) hpl.out (by have := HNN.out; omega) HV.out (by have := HNN.out; omega)).mono ?_; rintro e11 u12 ⟨v1, rfl, ho, hbs⟩; have cv := conv_own ho (by decide); have HL12 : Hid (LayI w c gb u12 (preL c)) := HL11.out.keep hbs; clear ho hbs)
  have hf9 : 448 + (strB (sumI (preL c))).size ≤ N := by rw [strB_size, sumI_length]; have := HNN.out; omega
  refine (rlay_ok gb N 448 (strB (sumI (preL c))) (preL c) _ hpl.out HNN.out.2.1 hf9 HL12.out.row).mono ?_
  rintro e9 u9 ⟨rfl, hr9, hg9⟩
  have HL9 : Hid (LayI w c gb u9 (packL c)) := by
    rw [nums_strB (sumI (preL c)) (sumD_range _)] at hr9
    exact HL12.out.step hr9 hg9
  clear hr9 hg9 cv hf9
  go_wp2
  go_ret2
  have hE := (good_iff c).2 HG.out
  have hpk := packL_length c HG.out
  rw [HNN.out.2.2] at hpk
  refine ⟨.slice (some ⟨gb, 0, none⟩) N N, by rw [hE]; rfl, ?_, HL9.out.below⟩
  unfold packB
  rw [if_pos hE, ← hpk]
  exact HL9.out.row.owns _ (Nat.le_of_lt HL9.out.lt) (by rw [hpk]; have := HNN.out; simp [maxLen]; omega)
/-- The document's Pack. -/
theorem rpack_ok (c : Hc) (w : World) (hT : RTab w) (ht : Txt c) (hf : Fit c) : Calls Tryd.prog 10 #[c.val] w (PackR c w) := by
  cases hb : headB c.head
  · exact rpack_0 c w ht hb
  by_cases hq : c.seq < 1
  · exact rpack_1 c w ht hb hq
  by_cases hq2 : 4611686018427387904 < c.seq
  · exact rpack_2 c w ht hb (by omega) hq2
  cases h3 : plainB c.label 48
  · exact rpack_3 c w ht hb (by omega) (by omega) h3
  cases h4 : plainB c.sub 48
  · exact rpack_4 c w ht hb (by omega) (by omega) h3 h4
  cases h5 : plainB c.uuid 40
  · exact rpack_5 c w ht hb (by omega) (by omega) h3 h4 h5
  by_cases h6 : c.salt.size = 64
  · cases h7 : plainB c.text (c.head - 4096)
    · exact rpack_7 c w ht hb (by omega) (by omega) h3 h4 h5 h6 h7
    · exact rpack_good c w hT ht ⟨hb, by simp [seqB]; omega, h6, h3, h5, h4, h7⟩
  · exact rpack_6 c w ht hb (by omega) (by omega) h3 h4 h5 h6
end Go.Proofs.YtoanndhaopgkjaaDoor
