import Derived.Test.YtgmfiljjogdccabGreatDoorPart43
import Derived.Test.YtgmfiljjogdccabGreatDoorPart00
import Derived.Test.YtgmfiljjogdccabGreatDoorPart24
import Derived.Test.YtgmfiljjogdccabGreatDoorPart28
namespace Go.Proofs.YtgmfiljjogdccabGreatDoor
open Go.RowKit Go.RwLone Go.Conc.Locks
set_option linter.unusedVariables false
variable {w u v : World} {B m : Nat} {kx : Option Kx} {gP gR : Bool} {an : Nat} {sx : Nat → Sx} {av lv : Value} {lz : List Int}
theorem Tryz.info73 : (Tryz.prog.info? 73).map (fun i => (i.zero, i.size, i.bytes)) = some (some (.agg #[.pointer none, .pointer none]), 2, 16) := by kernel_rfl
def addS (sx : Nat → Sx) (an : Nat) (s : Sx) (j : Nat) : Sx := if j = an then s else sx j
theorem addS_at (sx : Nat → Sx) (an : Nat) (s : Sx) : addS sx an s an = s := if_pos rfl
theorem addS_old (sx : Nat → Sx) (an : Nat) (s : Sx) (j : Nat) (h : j < an) : addS sx an s j = sx j := if_neg (by omega)
theorem prs_more (an : Nat) (sx : Nat → Sx) (s : Sx) : prs (an + 1) (addS sx an s) = prs an sx ++ [.pointer (some ⟨s.t, 0, none⟩), .pointer (some ⟨s.rt, 0, none⟩)] := by
 have e : prs (an + 1) (addS sx an s) = prs an (addS sx an s) ++ [.pointer (some ⟨(addS sx an s an).t, 0, none⟩), .pointer (some ⟨(addS sx an s an).rt, 0, none⟩)] := by unfold prs; rw [List.range_succ, List.flatMap_append]; rfl
 rw [e, addS_at]
 congr 1
 exact prs_congr (fun i hi => by rw [addS_old _ _ _ _ hi]; exact ⟨rfl, rfl⟩)
/-- One pair of streams more. -/
theorem BS.more {k : Kx} {g : Bool} {u' : World} {v' : Value} {s : Sx} (h0 : BS w B m (some k) g g an sx av lv lz) (h : BS u B m (some k) g g an sx av lv lz) (hwu : w.heap.size ≤ u.heap.size) (ht : StreamAt u s.t k.g s.s0 s.np) (hr : StreamAt u s.rt k.g2 s.s0 s.nr) (hNt : w.heap.size ≤ s.t) (htr : s.t < s.rt)
  (hg : u.grownBy u' av.ownBlock) (ho : u'.ownsRow B 73 2 v' (an + 1) (prs an sx ++ [.pointer (some ⟨s.t, 0, none⟩), .pointer (some ⟨s.rt, 0, none⟩)])) (hloc : ∀ b, b ∈ vblk v' → b ∈ vblk av ∨ u.heap.size ≤ b) :
  BS (u'.setCell ⟨m, 2, none⟩ v') B m (some k) g g (an + 1) (addS sx an s) v' lv lz ∧ Below B u (u'.setCell ⟨m, 2, none⟩ v') := by
 have f1 : Fr u u' (vblk av) := grown_fr hg
 have f2 := set_fr u' m 2 v'
 have hm := h0.mlt
 have hmav : m ∉ vblk av := fun q => (h.aa m q).1 rfl
 have hmu : u'.heap[m]? = u.heap[m]? := f1.block m (by omega) hmav
 have hc : ∀ j, u'.cell? ⟨m, j, none⟩ = u.cell? ⟨m, j, none⟩ := fun j => World.cell?_of_block (a := ⟨m, j, none⟩) hmu
 have hne : ∀ b, b < u.heap.size → b ≠ m → b ∉ vblk av → (u'.setCell ⟨m, 2, none⟩ v').heap[b]? = u.heap[b]? := fun b hb q1 q2 => (f2.block b (Nat.lt_of_lt_of_le hb f1.size) (fun q => q1 (List.mem_singleton.1 q))).trans (f1.block b hb q2)
 have hs : u.heap.size ≤ (u'.setCell ⟨m, 2, none⟩ v').heap.size := Nat.le_trans f1.size f2.size
 have hord := h.ord
 have hmt : m < s.t := by omega
 have hbw := h0.bw
 have hav : ∀ b, b ∈ vblk av → b < w.heap.size := fun b q => (owns_blks h0.ar b q).2
 have hmv : m ∉ vblk v' := fun q => by
  rcases hloc m q with q | q
  ·exact hmav q
  ·omega
 refine ⟨⟨?_, ?_, ?_, ?_, ?_, fun k' e => ?_, fun i hi => ?_, ?_, ?_, h.lb, h.ll, ?_, ?_, ?_⟩, ?_⟩
 ·exact (setCell_at _ _ _ _ _ (by omega)).trans ((hc 0).trans h.ck)
 ·exact (setCell_at _ _ _ _ _ (by omega)).trans ((hc 1).trans h.cr)
 ·exact World.cell?_setCell_same' _ _ _ (by rw [hc 2, h.ca]; rfl)
 ·exact (setCell_at _ _ _ _ _ (by omega)).trans ((hc 3).trans h.cl)
 ·exact World.there_setCells (there_sameG h.room hmu) m 2 [_]
 ·obtain ⟨q1, q2, q3, q4, q5⟩ := h.kk k' e
  obtain ⟨_, p2, p3, _, _⟩ := h0.kk k' e
  have := q1.g2; have := q1.gr
  refine ⟨q1, q2.same (hne _ q2.lt (by omega) (fun q => ((h.aa _ q).2.1 k' e).1 rfl)) hs, q3.same (hne _ q3.lt (by omega) (fun q => ((h.aa _ q).2.1 k' e).2.1 rfl)) (fun y => hne _ y (by omega) (fun q => ((h.aa _ q).2.1 k' e).2.2 rfl)) hs, q4, q5⟩
 ·by_cases hi2 : i < an
  ·rw [addS_old _ _ _ _ hi2]
   obtain ⟨k', e, q1, q2⟩ := h.st i hi2
   have := hord.2.1 i hi2
   exact ⟨k', e, q1.sameG (hne _ q1.here (by omega) (fun q => ((h.aa _ q).2.2 i hi2).1 rfl)) hs, q2.sameG (hne _ q2.here (by omega) (fun q => ((h.aa _ q).2.2 i hi2).2 rfl)) hs⟩
  ·obtain rfl : i = an := by omega
   rw [addS_at]
   exact ⟨k, rfl, ht.sameG (hne _ ht.here (by omega) (fun q => by have := hav _ q; omega)) hs, hr.sameG (hne _ hr.here (by omega) (fun q => by have := hav _ q; omega)) hs⟩
 ·rw [prs_more]
  exact owns_same ho (fun b q => f2.block b (owns_blks ho b q).2 (fun x => by have := List.mem_singleton.1 x; subst this; exact hmv q))
 ·refine view_keepP h.lw (fun e b q => hne b (view_blks h.lw e b q) (fun x => h.la e b q (.inl x)) (fun x => h.la e b q (.inr (.inr (.inr x)))))
 ·refine ⟨hord.1, fun i hi => ?_, fun i j hij hj => ?_⟩
  ·by_cases hi2 : i < an
   ·rw [addS_old _ _ _ _ hi2]; exact hord.2.1 i hi2
   ·obtain rfl : i = an := by omega
    rw [addS_at]; exact ⟨hmt, htr⟩
  ·by_cases hj2 : j < an
   ·rw [addS_old _ _ _ _ hj2, addS_old _ _ _ _ (by omega)]; exact hord.2.2 i j hij hj2
   ·obtain rfl : j = an := by omega
    rw [addS_at, addS_old _ _ _ _ hij]
    have := (hbw (sx i).rt (.inr (.inr (.inl ⟨i, hij, .inr rfl⟩)))).2
    omega
 ·intro b hb
  refine ⟨fun e => hmv (by rw [← e]; exact hb), fun k' e => ?_, fun i hi => ?_⟩
  ·rcases hloc b hb with q | q
   ·exact (h.aa b q).2.1 k' e
   ·obtain ⟨q1, q2, q3, q4, q5⟩ := h0.kk k' e
    have := q1.g2; have := q1.gr
    omega
  ·by_cases hi2 : i < an
   ·rw [addS_old _ _ _ _ hi2]
    rcases hloc b hb with q | q
    ·exact (h.aa b q).2.2 i hi2
    ·have h1 := (hbw (sx i).t (.inr (.inr (.inl ⟨i, hi2, .inl rfl⟩)))).2
     have h2 := (hbw (sx i).rt (.inr (.inr (.inl ⟨i, hi2, .inr rfl⟩)))).2
     omega
   ·obtain rfl : i = an := by omega
    rw [addS_at]
    have h1 := ht.here
    have h2 := hr.here
    rcases hloc b hb with q | q
    ·have := hav b q; omega
    ·omega
 ·intro e b hb q
  have hbl := view_blks h0.lw e b hb
  rcases q with q | q | ⟨i, hi, q⟩ | q
  ·exact h.la e b hb (.inl q)
  ·exact h.la e b hb (.inr (.inl q))
  ·by_cases hi2 : i < an
   ·rw [addS_old _ _ _ _ hi2] at q; exact h.la e b hb (.inr (.inr (.inl ⟨i, hi2, q⟩)))
   ·obtain rfl : i = an := by omega
    rw [addS_at] at q; omega
  ·rcases hloc b q with q | q
   ·exact h.la e b hb (.inr (.inr (.inr q)))
   ·omega
 ·refine ⟨f2.os.trans f1.os, f2.tape.trans f1.tape, f2.output.trans f1.output, hs, fun b hb => hne b (by have := hord.1; omega) (by have := hord.1; omega) (fun q => by have := (owns_blks h.ar b q).1; omega)⟩
/-- A new stream of the document's. -/
def zS : List Value := [.pointer none, .int .u8 0, .int .u8 0, .int .u8 0, .int .u8 0, .int .u8 0, .int .u8 0, .int .u8 0, .int .u8 0, .int .u8 0, .int .u8 0, .int .u8 0, .int .u8 0, .int .u8 0, .int .u8 0, .int .u8 0, .int .u8 0, .int .u64 0]
theorem new_rs (w : World) : Below w.heap.size w (w.alloc (.cells zS.toArray 87)) ∧ (w.alloc (.cells zS.toArray 87)).there w.heap.size 0 18 ∧ (w.alloc (.cells zS.toArray 87)).cell? ⟨w.heap.size, 0, none⟩ = some (.pointer none) ∧ (w.alloc (.cells zS.toArray 87)).cell? ⟨w.heap.size, 17, none⟩ = some (.int .u64 0) :=
 ⟨(Below.refl _ _).alloc (Nat.le_refl _) _, there_new w _ 87 18 (by show 18 ≤ 18; omega), range_new w zS 87 0 _ rfl, range_new w zS 87 17 _ rfl⟩
theorem rs_made {u : World} {rt g2 : Nat} {s : W4} (ht : u.there rt 0 18) (h0 : (u.setCell ⟨rt, 0, none⟩ (.pointer (some ⟨g2, 0, none⟩))).there rt 0 18) (h17 : u.cell? ⟨rt, 17, none⟩ = some (.int .u64 0)) (hl : rt < u.heap.size) (hs : s.ok) : StreamAt ((u.setCell ⟨rt, 0, none⟩ (.pointer (some ⟨g2, 0, none⟩))).setCells rt 1 (arL (sb s))) rt g2 s 0 := by
 obtain ⟨x, hx⟩ := Option.isSome_iff_exists.1 (ht 0 (by omega)).1
 refine ⟨?_, ?_, ?_, World.there_setCells h0 _ _ _, by rw [sizeB_setCells]; simpa [World.setCell] using hl, hs, Nat.zero_le _⟩
 ·rw [World.cell?_setCells_out rt (arL (sb s)) 1 _ ⟨rt, 0, none⟩ (fun _ _ => .inl (by show 0 < 1; omega))]
  exact World.cell?_setCell_same' _ _ _ (by rw [show (⟨rt, 0, none⟩ : Addr) = ⟨rt, 0 + 0, none⟩ from rfl, hx]; rfl)
 ·rw [bytes_arL]
  exact World.rangeAt_setCells_same _ _ _ _ (fun j hj => by
   have h16 : j < 16 := hj
   have := h0 (1 + j) (by omega)
   rwa [Nat.zero_add] at this)
 ·rw [World.cell?_setCells_out rt (arL (sb s)) 1 _ ⟨rt, 17, none⟩ (fun _ _ => .inr (by show 1 + 16 ≤ 17; omega)), setCell_at _ _ _ _ _ (by omega)]
  exact h17
end Go.Proofs.YtgmfiljjogdccabGreatDoor
namespace Go.Proofs.YtgmfiljjogdccabGreatDoor
open Go.RowKit Go.RwLone Go.Conc.Locks
set_option linter.unusedVariables false
set_option linter.unusedSimpArgs false
set_option maxHeartbeats 6400000 in
set_option maxRecDepth 100000 in
theorem one_stream0 (w : World) (B m : Nat) (kx : Option Kx) (g : Bool) (an : Nat) (sx : Nat → Sx) (av lv : Value) (lz : List Int) (o : OpV) (h : BS w B m kx g g an sx av lv lz) (he : Even an sx) (ho : OpOk o) (hd : Dat w (BW m kx an sx av) o.dv o.zs) (hk : o.k = 3) (han : an ≤ 1000) (hn : kE kx g ≠ 0) :
  Calls Tryz.prog 7 #[.pointer (some ⟨m, 0, none⟩), .agg o.L.toArray] w (OneP w B m kx an)   := by
 skip
 obtain ⟨ok, oa, on, os, da, dn, dc, zs⟩ := o
 simp only at hk
 subst hk
 obtain ⟨S, HS⟩ : ∃ S, Hid (S = BW m kx an sx av) := ⟨_, rfl⟩
 obtain ⟨h1, h2, h3, h4⟩ := os_start _ h hd
 have HOK : Hid (OpOk ⟨3, oa, on, os, da, dn, dc, zs⟩) := ho
 have HEV : Hid (Even an sx) := he
 have HBm : Hid (B ≤ w.heap.size) := Nat.le_trans h.ord.1 (Nat.le_of_lt h.mlt)
 obtain ⟨W1, HW1⟩ : ∃ W, Hid (W = w.alloc (.cells (OpV.L ⟨3, oa, on, os, da, dn, dc, zs⟩).toArray 40)) := ⟨_, rfl⟩
 rw [← HW1.out] at h1 h2 h3 h4
 have H1 : Hid (BS W1 B m kx g g an sx av lv lz) := h1
 have H2 : Hid (OpAt W1 (BW m kx an sx av) w.heap.size ⟨3, oa, on, os, da, dn, dc, zs⟩) := h2
 have H3 : Hid (Dat W1 (BW m kx an sx av) (.slice da dn dc) zs) := h3
 have H4 : Hid (Below w.heap.size w W1) := h4
 have c19 : W1.cell? ⟨w.heap.size, 19, none⟩ = some (.slice da dn dc) := H2.out.cell 19 _ rfl
 have c0 : W1.cell? ⟨w.heap.size, 0, none⟩ = some (.int .i64 3) := H2.out.cell 0 _ rfl
 have K11 : Hid (Calls Tryz.prog 11 #[.slice da dn dc] W1 fun e w' => ∃ v', e = .returned v' ∧ Marked W1.heap.size w' v' zs ∧ Below W1.heap.size W1 w') := copy_any _ zs W1 ho.mx h3.vw
 clear h1 h2 h3 h4 h he ho hd
 unfold OpV.L at HW1 ⊢
 simp only at HW1 ⊢
 generalize sb os 0 = s0 at HW1 ⊢
 generalize sb os 1 = s1 at HW1 ⊢
 generalize sb os 2 = s2 at HW1 ⊢
 generalize sb os 3 = s3 at HW1 ⊢
 generalize sb os 4 = s4 at HW1 ⊢
 generalize sb os 5 = s5 at HW1 ⊢
 generalize sb os 6 = s6 at HW1 ⊢
 generalize sb os 7 = s7 at HW1 ⊢
 generalize sb os 8 = s8 at HW1 ⊢
 generalize sb os 9 = s9 at HW1 ⊢
 generalize sb os 10 = s10 at HW1 ⊢
 generalize sb os 11 = s11 at HW1 ⊢
 generalize sb os 12 = s12 at HW1 ⊢
 generalize sb os 13 = s13 at HW1 ⊢
 generalize sb os 14 = s14 at HW1 ⊢
 generalize sb os 15 = s15 at HW1 ⊢
 obtain ⟨bo, HBO⟩ : ∃ b, Hid (w.heap.size = b) := ⟨_, rfl⟩
 go_enter Tryz.func7, Tryz.ntmps7
 go_upto_region 1 with fail
 rw [← HW1.out, HBO.out]
 rw [HBO.out] at H2 c19 c0
 go_wp2_with (first | (go_at_call 11; refine K11.out.mono ?_))
 rintro e2 w2 ⟨own, rfl, hm2, hb2⟩
 have H : Hid (OS w2 B m kx g g an sx av lv lz (BW m kx an sx av) bo ⟨3, oa, on, os, da, dn, dc, zs⟩ own) := os_copied H1.out H2.out H3.out hm2 hb2
 have HB : Hid (Below B w w2) := (H4.out.mono HBm.out).trans (hb2.mono (Nat.le_trans HBm.out H4.out.size))
 clear hm2 hb2 c19 c0 K11 H1 H2 H3 H4
 have c0 : w2.cell? ⟨bo, 0, none⟩ = some (.int .i64 3) := H.out.op.cell 0 _ rfl
 have HN : Hid (kE kx g ≠ 0) := hn
 obtain ⟨E, HE⟩ : ∃ E, Hid (E = kE kx g) := ⟨_, rfl⟩
 have hE0 : (E != 0) = true := by rw [HE.out]; simpa using hn
 clear hn
 obtain ⟨pg, HQg⟩ : ∃ p, Hid (gq (kx.map Kx.g) = .pointer p) := gq_ptr _
 obtain ⟨pr, HQr⟩ : ∃ p, Hid (gq (kx.map Kx.g2) = .pointer p) := gq_ptr _
 obtain ⟨SL, HSL⟩ : ∃ L, Hid (L = arL (sb os)) := ⟨_, rfl⟩
 have HSB : Hid (B16 SL) := by show B16 _; rw [HSL.out]; exact b16 _
 have K20 : Hid (∀ u, BS u B m kx g g an sx av lv lz → Calls Tryz.prog 20 #[.pointer (some ⟨m, 0, none⟩)] u fun e u' => e = .returned (.int .i64 E) ∧ u' = u) := fun u hu => by rw [HE.out]; exact gone_b hu
 have K6 : Hid (∀ u, Calls Tryz.prog 6 #[.int .i64 E] u fun e u' => e = .returned (.int .i64 E) ∧ u' = u) := num_o _
 have K19 : Hid (∀ u, SF w2 u B m kx g an sx av lv lz → Calls Tryz.prog 19 #[.pointer pg, .agg SL.toArray] u fun e u' => e = .returned (.tuple #[.pointer none, .int .i64 E]) ∧ SF w2 u' B m kx g an sx av lv lz) := fun u hu => by
  rw [HSL.out, arL_array, HE.out, ← HQg.out]
  refine (stream_b os HOK.out.s hu.s).mono ?_
  rintro e u' ⟨p, rfl, s1, f1, hp, _⟩
  obtain rfl := hp HN.out
  exact ⟨rfl, hu.then s1 f1⟩
 go_upto_region 12 with fail
 have hS0 : SF w2 w2.drew B m kx g an sx av lv lz := ⟨H.out.s.below ((Below.refl _ _).drew), below_frp ((Below.refl _ _).drew) _⟩
 refine wp_region_noPanic ?_
 refine wp_region_held_drew (S := fun u => SF w2 u B m kx g an sx av lv lz) (by kernel_rfl) (hS0) (fun _ => ?_)
 refine tG 0 97 (.pointer (some ⟨m, 0, none⟩)) rfl rfl hS0 ?_
 simp only [pU]
 refine tG 1 98 (.pointer (some ⟨m, 0, none⟩)) rfl rfl hS0 ?_
 simp only [pU]
 refine tG 2 99 (.pointer (some ⟨m, 0, none⟩)) rfl rfl hS0 ?_
 simp only [pU]
 refine tH 3 100 (.pointer pg) rfl rfl (by kernel_rfl) (hS0) (Or.inl ⟨by rfl, fun w' hS' => by have q1 : w'.cell? ⟨m, 0, none⟩ = some (.pointer pg) := hS'.s.ck.trans (congrArg some HQg.out); go_simp⟩) ?_
 simp only [pU]
 refine tG 4 101 (.pointer (some ⟨bo, 3, none⟩)) rfl rfl hS0 ?_
 simp only [pU]
 refine tH 5 102 (.agg SL.toArray) rfl rfl (by kernel_rfl) (hS0) (yieldsIf_load_mid (by kernel_rfl) 38 (.tmp 101) rfl bo 3 rfl SL _ (fun u hu => by rw [HSL.out]; exact (H.out.op.frp hu.f).start) Tryz.underlying38 rfl HSB.out.sz) ?_
 simp only [pU]
 refine wpAnyH_ready (rs := [6]) (by kernel_rfl) (by simp) ?_
 refine AllReadyH.cons rfl (fun K hK => ?_) AllReadyH.nil
 go_simp
 refine (K19.out _ hS0).mono ?_
 rintro e3 w3 ⟨rfl, hS3⟩
 go_wp2_with fail
 refine hK.out _ _ hS3 (fun _ => ?_)
 clear hK K
 try simp only [pU]
 refine tG 7 96 (.tuple #[.pointer none, .int .i64 E]) rfl rfl hS3 ?_
 simp only [pU]
 refine tG 8 104 (.pointer none) rfl rfl hS3 ?_
 simp only [pU]
 refine tG 9 105 (.int .i64 E) rfl rfl hS3 ?_
 simp only [pU]
 refine tG 10 12 (.pointer none) rfl rfl hS3 ?_
 simp only [pU]
 refine tG 11 13 (.int .i64 E) rfl rfl hS3 ?_
 simp only [pU]
 refine wpAnyH_done (by kernel_rfl) ?_ _
 refine NoPanic.normal ?_
 have H3 : Hid (OS w3 B m kx g g an sx av lv lz (BW m kx an sx av) bo ⟨3, oa, on, os, da, dn, dc, zs⟩ own) := H.out.to hS3.s hS3.f (fun i => ⟨rfl, rfl⟩)
 have HB3 : Hid (Below B w w3) := HB.out.trans (hS3.f.toBelow (fun b q => (H.out.s.bw b q).1) (Nat.le_trans HBm.out HB.out.size))
 clear hS3 hS0 K19
 go_wp2_with (first
  | (go_at_call 6; refine (K6.out _).mono ?_; rintro e6 w6 ⟨rfl, hw6⟩; obtain rfl := hw6.symm)
  | (go_at_call 20; refine (K20.out _ H3.out.s).mono ?_; rintro e7 w7 ⟨rfl, hw7⟩; obtain rfl := hw7.symm))
 go_ret
 exact H3.out.fin HEV.out HB3.out
end Go.Proofs.YtgmfiljjogdccabGreatDoor
namespace Go.Proofs.YtgmfiljjogdccabGreatDoor
open Go.RowKit Go.RwLone Go.Conc.Locks
set_option linter.unusedVariables false
set_option linter.unusedSimpArgs false
set_option maxHeartbeats 6400000 in
set_option maxRecDepth 100000 in
theorem one_stream2 (w : World) (B m : Nat) (kx : Option Kx) (g : Bool) (an : Nat) (sx : Nat → Sx) (av lv : Value) (lz : List Int) (o : OpV) (h : BS w B m kx g g an sx av lv lz) (he : Even an sx) (ho : OpOk o) (hd : Dat w (BW m kx an sx av) o.dv o.zs) (hk : o.k = 3) (han : an ≤ 1000) (k : Kx) (hx : kx = some k) (hg : g = false) :
  Calls Tryz.prog 7 #[.pointer (some ⟨m, 0, none⟩), .agg o.L.toArray] w (OneP w B m kx an)   := by
 subst hx hg
 obtain ⟨ok, oa, on, os, da, dn, dc, zs⟩ := o
 simp only at hk
 subst hk
 obtain ⟨S, HS⟩ : ∃ S, Hid (S = BW m (some k) an sx av) := ⟨_, rfl⟩
 obtain ⟨h1, h2, h3, h4⟩ := os_start _ h hd
 have HOK : Hid (OpOk ⟨3, oa, on, os, da, dn, dc, zs⟩) := ho
 have HEV : Hid (Even an sx) := he
 have HBm : Hid (B ≤ w.heap.size) := Nat.le_trans h.ord.1 (Nat.le_of_lt h.mlt)
 obtain ⟨W1, HW1⟩ : ∃ W, Hid (W = w.alloc (.cells (OpV.L ⟨3, oa, on, os, da, dn, dc, zs⟩).toArray 40)) := ⟨_, rfl⟩
 rw [← HW1.out] at h1 h2 h3 h4
 have H1 : Hid (BS W1 B m (some k) false false an sx av lv lz) := h1
 have H2 : Hid (OpAt W1 (BW m (some k) an sx av) w.heap.size ⟨3, oa, on, os, da, dn, dc, zs⟩) := h2
 have H3 : Hid (Dat W1 (BW m (some k) an sx av) (.slice da dn dc) zs) := h3
 have H4 : Hid (Below w.heap.size w W1) := h4
 have c19 : W1.cell? ⟨w.heap.size, 19, none⟩ = some (.slice da dn dc) := H2.out.cell 19 _ rfl
 have c0 : W1.cell? ⟨w.heap.size, 0, none⟩ = some (.int .i64 3) := H2.out.cell 0 _ rfl
 have K11 : Hid (Calls Tryz.prog 11 #[.slice da dn dc] W1 fun e w' => ∃ v', e = .returned v' ∧ Marked W1.heap.size w' v' zs ∧ Below W1.heap.size W1 w') := copy_any _ zs W1 ho.mx h3.vw
 clear h1 h2 h3 h4 h he ho hd
 unfold OpV.L at HW1 ⊢
 simp only at HW1 ⊢
 generalize sb os 0 = s0 at HW1 ⊢
 generalize sb os 1 = s1 at HW1 ⊢
 generalize sb os 2 = s2 at HW1 ⊢
 generalize sb os 3 = s3 at HW1 ⊢
 generalize sb os 4 = s4 at HW1 ⊢
 generalize sb os 5 = s5 at HW1 ⊢
 generalize sb os 6 = s6 at HW1 ⊢
 generalize sb os 7 = s7 at HW1 ⊢
 generalize sb os 8 = s8 at HW1 ⊢
 generalize sb os 9 = s9 at HW1 ⊢
 generalize sb os 10 = s10 at HW1 ⊢
 generalize sb os 11 = s11 at HW1 ⊢
 generalize sb os 12 = s12 at HW1 ⊢
 generalize sb os 13 = s13 at HW1 ⊢
 generalize sb os 14 = s14 at HW1 ⊢
 generalize sb os 15 = s15 at HW1 ⊢
 obtain ⟨bo, HBO⟩ : ∃ b, Hid (w.heap.size = b) := ⟨_, rfl⟩
 go_enter Tryz.func7, Tryz.ntmps7
 go_upto_region 1 with fail
 rw [← HW1.out, HBO.out]
 rw [HBO.out] at H2 c19 c0
 go_wp2_with (first | (go_at_call 11; refine K11.out.mono ?_))
 rintro e2 w2 ⟨own, rfl, hm2, hb2⟩
 have H : Hid (OS w2 B m (some k) false false an sx av lv lz (BW m (some k) an sx av) bo ⟨3, oa, on, os, da, dn, dc, zs⟩ own) := os_copied H1.out H2.out H3.out hm2 hb2
 have HB : Hid (Below B w w2) := (H4.out.mono HBm.out).trans (hb2.mono (Nat.le_trans HBm.out H4.out.size))
 clear hm2 hb2 c19 c0 K11 H1 H2 H3 H4
 have c0 : w2.cell? ⟨bo, 0, none⟩ = some (.int .i64 3) := H.out.op.cell 0 _ rfl
 obtain ⟨SL, HSL⟩ : ∃ L, Hid (L = arL (sb os)) := ⟨_, rfl⟩
 have HSB : Hid (B16 SL) := by show B16 _; rw [HSL.out]; exact b16 _
 have K20 : Hid (∀ u, BS u B m (some k) false false an sx av lv lz → Calls Tryz.prog 20 #[.pointer (some ⟨m, 0, none⟩)] u fun e u' => e = .returned (.int .i64 0) ∧ u' = u) := fun u hu => gone_b hu
 have K6 : Hid (∀ u, Calls Tryz.prog 6 #[.int .i64 0] u fun e u' => e = .returned (.int .i64 0) ∧ u' = u) := num_o _
 have K19 : Hid (∀ u, SF w2 u B m (some k) false an sx av lv lz → Calls Tryz.prog 19 #[.pointer (some ⟨k.g, 0, none⟩), .agg SL.toArray] u fun e u' => ∃ t, e = .returned (.tuple #[.pointer (some ⟨t, 0, none⟩), .int .i64 0]) ∧ SF w2 u' B m (some k) false an sx av lv lz ∧ w2.heap.size ≤ t ∧ StreamAt u' t k.g os 0) := fun u hu => by
  rw [HSL.out, arL_array]
  refine (stream_b os HOK.out.s hu.s).mono ?_
  rintro e u' ⟨p, rfl, s1, f1, _, hp⟩
  obtain ⟨t, rfl, h1, h2⟩ := hp k rfl rfl
  exact ⟨t, rfl, hu.then s1 f1, Nat.le_trans hu.f.size h1, h2⟩
 go_upto_region 12 with fail
 have hS0 : SF w2 w2.drew B m (some k) false an sx av lv lz := ⟨H.out.s.below ((Below.refl _ _).drew), below_frp ((Below.refl _ _).drew) _⟩
 refine wp_region_noPanic ?_
 refine wp_region_held_drew (S := fun u => SF w2 u B m (some k) false an sx av lv lz) (by kernel_rfl) (hS0) (fun _ => ?_)
 refine tG 0 97 (.pointer (some ⟨m, 0, none⟩)) rfl rfl hS0 ?_
 simp only [pU]
 refine tG 1 98 (.pointer (some ⟨m, 0, none⟩)) rfl rfl hS0 ?_
 simp only [pU]
 refine tG 2 99 (.pointer (some ⟨m, 0, none⟩)) rfl rfl hS0 ?_
 simp only [pU]
 refine tH 3 100 (.pointer (some ⟨k.g, 0, none⟩)) rfl rfl (by kernel_rfl) (hS0) (Or.inl ⟨by rfl, fun w' hS' => by have q1 : w'.cell? ⟨m, 0, none⟩ = some (.pointer (some ⟨k.g, 0, none⟩)) := hS'.s.ck; go_simp⟩) ?_
 simp only [pU]
 refine tG 4 101 (.pointer (some ⟨bo, 3, none⟩)) rfl rfl hS0 ?_
 simp only [pU]
 refine tH 5 102 (.agg SL.toArray) rfl rfl (by kernel_rfl) (hS0) (yieldsIf_load_mid (by kernel_rfl) 38 (.tmp 101) rfl bo 3 rfl SL _ (fun u hu => by rw [HSL.out]; exact (H.out.op.frp hu.f).start) Tryz.underlying38 rfl HSB.out.sz) ?_
 simp only [pU]
 refine wpAnyH_ready (rs := [6]) (by kernel_rfl) (by simp) ?_
 refine AllReadyH.cons rfl (fun K hK => ?_) AllReadyH.nil
 go_simp
 refine (K19.out _ hS0).mono ?_
 rintro e3 w3 ⟨t, rfl, hS3, ht3, hs3⟩
 go_wp2_with fail
 refine hK.out _ _ hS3 (fun _ => ?_)
 clear hK K
 try simp only [pU]
 refine tG 7 96 (.tuple #[.pointer (some ⟨t, 0, none⟩), .int .i64 0]) rfl rfl hS3 ?_
 simp only [pU]
 refine tG 8 104 (.pointer (some ⟨t, 0, none⟩)) rfl rfl hS3 ?_
 simp only [pU]
 refine tG 9 105 (.int .i64 0) rfl rfl hS3 ?_
 simp only [pU]
 refine tG 10 12 (.pointer (some ⟨t, 0, none⟩)) rfl rfl hS3 ?_
 simp only [pU]
 refine tG 11 13 (.int .i64 0) rfl rfl hS3 ?_
 simp only [pU]
 refine wpAnyH_done (by kernel_rfl) ?_ _
 refine NoPanic.normal ?_
 have H3 : Hid (OS w3 B m (some k) false false an sx av lv lz (BW m (some k) an sx av) bo ⟨3, oa, on, os, da, dn, dc, zs⟩ own) := H.out.to hS3.s hS3.f (fun i => ⟨rfl, rfl⟩)
 have HB3 : Hid (Below B w w3) := HB.out.trans (hS3.f.toBelow (fun b q => (H.out.s.bw b q).1) (Nat.le_trans HBm.out HB.out.size))
 have HT3 : Hid (w2.heap.size ≤ t ∧ t < w3.heap.size ∧ StreamAt w3 t k.g os 0 ∧ w2.heap.size ≤ w3.heap.size) := ⟨ht3, hs3.here, hs3, hS3.f.size⟩
 clear hS3 hS0 K19 ht3 hs3 c0
 obtain ⟨rt, HRT⟩ : ∃ x, Hid (w3.heap.size = x) := ⟨_, rfl⟩
 obtain ⟨n1, n2, n3, n4⟩ := new_rs w3
 unfold zS at n1 n2 n3 n4
 have H4 : Hid (OS (w3.alloc (.cells #[.pointer none, .int .u8 0, .int .u8 0, .int .u8 0, .int .u8 0, .int .u8 0, .int .u8 0, .int .u8 0, .int .u8 0, .int .u8 0, .int .u8 0, .int .u8 0, .int .u8 0, .int .u8 0, .int .u8 0, .int .u8 0, .int .u8 0, .int .u64 0] 87)) B m (some k) false false an sx av lv lz (BW m (some k) an sx av) bo ⟨3, oa, on, os, da, dn, dc, zs⟩ own) := H3.out.below n1
 have HN4 : Hid (Below w3.heap.size w3 (w3.alloc (.cells #[.pointer none, .int .u8 0, .int .u8 0, .int .u8 0, .int .u8 0, .int .u8 0, .int .u8 0, .int .u8 0, .int .u8 0, .int .u8 0, .int .u8 0, .int .u8 0, .int .u8 0, .int .u8 0, .int .u8 0, .int .u8 0, .int .u8 0, .int .u64 0] 87)) ∧ (w3.alloc (.cells #[.pointer none, .int .u8 0, .int .u8 0, .int .u8 0, .int .u8 0, .int .u8 0, .int .u8 0, .int .u8 0, .int .u8 0, .int .u8 0, .int .u8 0, .int .u8 0, .int .u8 0, .int .u8 0, .int .u8 0, .int .u8 0, .int .u8 0, .int .u64 0] 87)).there w3.heap.size 0 18 ∧ (w3.alloc (.cells #[.pointer none, .int .u8 0, .int .u8 0, .int .u8 0, .int .u8 0, .int .u8 0, .int .u8 0, .int .u8 0, .int .u8 0, .int .u8 0, .int .u8 0, .int .u8 0, .int .u8 0, .int .u8 0, .int .u8 0, .int .u8 0, .int .u8 0, .int .u64 0] 87)).cell? ⟨w3.heap.size, 17, none⟩ = some (.int .u64 0) ∧ w3.heap.size < (w3.alloc (.cells #[.pointer none, .int .u8 0, .int .u8 0, .int .u8 0, .int .u8 0, .int .u8 0, .int .u8 0, .int .u8 0, .int .u8 0, .int .u8 0, .int .u8 0, .int .u8 0, .int .u8 0, .int .u8 0, .int .u8 0, .int .u8 0, .int .u8 0, .int .u64 0] 87)).heap.size) := ⟨n1, n2, n4, by simp⟩
 have HT4 : Hid (StreamAt (w3.alloc (.cells #[.pointer none, .int .u8 0, .int .u8 0, .int .u8 0, .int .u8 0, .int .u8 0, .int .u8 0, .int .u8 0, .int .u8 0, .int .u8 0, .int .u8 0, .int .u8 0, .int .u8 0, .int .u8 0, .int .u8 0, .int .u8 0, .int .u8 0, .int .u64 0] 87)) t k.g os 0) := HT3.out.2.2.1.below n1 HT3.out.2.1
 have c5 : (w3.alloc (.cells #[.pointer none, .int .u8 0, .int .u8 0, .int .u8 0, .int .u8 0, .int .u8 0, .int .u8 0, .int .u8 0, .int .u8 0, .int .u8 0, .int .u8 0, .int .u8 0, .int .u8 0, .int .u8 0, .int .u8 0, .int .u8 0, .int .u8 0, .int .u64 0] 87)).cell? ⟨w3.heap.size, 0, none⟩ = some (.pointer none) := n3
 clear n1 n2 n3 n4
 go_upto_region 17 with (first
  | (go_at_call 6; refine (K6.out _).mono ?_; rintro e6 w6 ⟨rfl, hw6⟩; obtain rfl := hw6.symm)
  | (go_at_call 20; refine (K20.out _ H3.out.s).mono ?_; rintro e7 w7 ⟨rfl, hw7⟩; obtain rfl := hw7.symm))
 generalize (w3.alloc (.cells #[.pointer none, .int .u8 0, .int .u8 0, .int .u8 0, .int .u8 0, .int .u8 0, .int .u8 0, .int .u8 0, .int .u8 0, .int .u8 0, .int .u8 0, .int .u8 0, .int .u8 0, .int .u8 0, .int .u8 0, .int .u8 0, .int .u8 0, .int .u64 0] 87)) = w4 at H4 HN4 HT4 c5 ⊢
 rw [HRT.out] at HN4 c5 ⊢
 have HB4 : Hid (Below B w w4) := HB3.out.trans (HN4.out.1.mono (by rw [← HRT.out]; exact Nat.le_trans HBm.out HB3.out.size))
 have c6 : w4.cell? ⟨m, 1, none⟩ = some (.pointer (some ⟨k.g2, 0, none⟩)) := H4.out.s.cr
 have z5 : w4.frozen? ⟨rt, 0, none⟩ = false := by have := (HN4.out.2.1 0 (by omega)).2; simpa using this
 have HF5 : Hid (Fr w4 (w4.setCell ⟨rt, 0, none⟩ (.pointer (some ⟨k.g2, 0, none⟩))) [rt]) := set_fr _ _ _ _
 have HTH5 : Hid ((w4.setCell ⟨rt, 0, none⟩ (.pointer (some ⟨k.g2, 0, none⟩))).there rt 0 18) := World.there_setCells HN4.out.2.1 rt 0 [_]
 have HM5 : Hid (StreamAt ((w4.setCell ⟨rt, 0, none⟩ (.pointer (some ⟨k.g2, 0, none⟩))).setCells rt 1 SL) rt k.g2 os 0) := by show StreamAt _ _ _ _ _; rw [HSL.out]; exact rs_made HN4.out.2.1 HTH5.out HN4.out.2.2.1 HN4.out.2.2.2 HOK.out.s
 have HRA : Hid (w4.rangeAt bo 3 SL) := by show World.rangeAt _ _ _ _; rw [HSL.out]; exact H4.out.op.start
 have HBR : Hid (bo < rt ∧ t < rt ∧ m < rt ∧ w2.heap.size ≤ rt) := ⟨by rw [← HRT.out]; exact H3.out.op.lt, by rw [← HRT.out]; exact HT3.out.2.1, by rw [← HRT.out]; exact H3.out.s.mlt, by rw [← HRT.out]; exact HT3.out.2.2.2⟩
 go_upto_region 18 with fail
 generalize hw5 : (w4.setCell ⟨rt, 0, none⟩ (.pointer (some ⟨k.g2, 0, none⟩))) = w5 at HF5 HTH5 HM5 ⊢
 have HW5 : Hid (w4.setCell ⟨rt, 0, none⟩ (.pointer (some ⟨k.g2, 0, none⟩)) = w5) := hw5
 clear hw5 c5 c6 z5
 have HRA5 : Hid (w5.rangeAt bo 3 SL) := fun j x hx => (World.cell?_of_block (a := ⟨bo, 3 + j, none⟩) (HF5.out.block bo H4.out.op.lt (fun q => by have h1 := List.mem_singleton.1 q; have h2 := HBR.out.1; omega))).trans (HRA.out j x hx)
 have HTR5 : Hid (w5.there rt 1 SL.toArray.size) := by
  have ez : SL.toArray.size = 16 := by rw [List.size_toArray]; exact HSB.out.len
  show World.there _ _ _ _
  rw [ez]
  exact fun j hj => by have := HTH5.out (1 + j) (by omega); rwa [Nat.zero_add] at this
 have s37 : Hid ((Tryz.prog.info? 37).map (·.size) = some SL.toArray.size) := by
  have ez : SL.toArray.size = 16 := by rw [List.size_toArray]; exact HSB.out.len
  show _ = _
  rw [ez]; exact size41
 go_upto_region 19 with (first
  | (refine wpList_load_mid (by rfl) 38 (.tmp 131) (by rfl) bo 3 (by rfl) SL _ HRA5.out Tryz.underlying38 rfl HSB.out.sz ?_)
  | (refine wpList_store_mid (by rfl) 37 (.tmp 134) (.tmp 132) (by rfl) rt 1 SL.toArray (by rfl) (by rfl) HTR5.out s37.out HSB.out.one ?_))
 try rw [List.toList_toArray]
 have HF6 : Hid (Fr w4 (w5.setCells rt 1 SL) [rt]) := HF5.out.trans (setCells_frG w5 rt 1 SL)
 generalize (w5.setCells rt 1 SL) = w6 at HF6 HM5 ⊢
 clear HRA HRA5 HTR5 HTH5 HF5 HW5
 have hlt4 : Hid (∀ b, b < rt → w6.heap[b]? = w4.heap[b]?) := fun b hb => HF6.out.block b (by have := HN4.out.2.2.2; omega) (fun q => by have := List.mem_singleton.1 q; omega)
 have HS6 : Hid (BS w6 B m (some k) false false an sx av lv lz) := H3.out.s.keepN H4.out.s (fun b hb => hlt4.out b (by rw [← HRT.out]; exact hb)) HF6.out.size
 have HT6 : Hid (StreamAt w6 t k.g os 0) := HT4.out.sameG (hlt4.out t HBR.out.2.1) HF6.out.size
 have HB6 : Hid (Below B w w6) := HB4.out.trans (HF6.out.toBelow (fun b q => by have h1 := List.mem_singleton.1 q; have h2 := HBR.out.2.2.2; have h3 := HBm.out; have h4 := HB.out.size; omega) (Nat.le_trans HBm.out HB4.out.size))
 clear hlt4 HF6 HT4
 obtain ⟨i0, hi, hz0, hz1, hz2⟩ := info_parts Tryz.info73
 have hfm : ∃ a c, av = .slice a an c := by
  rcases HS6.out.ar.2 with ⟨rfl, h0⟩ | ⟨g', c', cur, rfl, _⟩
  ·exact ⟨none, 0, by rw [h0]⟩
  ·exact ⟨_, _, rfl⟩
 obtain ⟨ava, avc, rfl⟩ := hfm
 have cm : w6.cell? ⟨m, 2, none⟩ = some (.slice ava an avc) := HS6.out.ca
 have HB7 : Hid (Below w6.heap.size w6 (w6.alloc (.cells #[.pointer (some ⟨t, 0, none⟩), .pointer (some ⟨rt, 0, none⟩)] 73))) := (Below.refl _ _).alloc (Nat.le_refl _) _
 have hn7 : ∀ j x, ([.pointer (some ⟨t, 0, none⟩), .pointer (some ⟨rt, 0, none⟩)] : List Value)[j]? = some x → (w6.alloc (.cells #[.pointer (some ⟨t, 0, none⟩), .pointer (some ⟨rt, 0, none⟩)] 73)).cell? ((⟨w6.heap.size, 0, none⟩ : Addr).add j) = some x := fun j x hx => by rw [Addr.add_mid]; exact range_new w6 _ 73 j x hx
 have HO7 : Hid ((w6.alloc (.cells #[.pointer (some ⟨t, 0, none⟩), .pointer (some ⟨rt, 0, none⟩)] 73)).ownsRow B 73 2 (.slice ava an avc) an (prs an sx)) := (HS6.out.below HB7.out).ar
 go_wp2_with (first | (at_builtin; refine wpList_append_lies _ rfl _ _ 33 rfl B 73 i0 (.agg #[.pointer none, .pointer none]) 2 16 Tryz.underlying33 hi hz0 hz1 hz2 (by rfl) (by decide) (.slice ava an avc) an (prs an sx) rfl HO7.out ⟨w6.heap.size, 0, none⟩ 1 1 [.pointer (some ⟨t, 0, none⟩), .pointer (some ⟨rt, 0, none⟩)] rfl rfl hn7 (fun x hx => by simp at hx; rcases hx with rfl | rfl <;> rfl) (by decide) (by unfold maxLen; omega) (by omega) (by have h1 := HS6.out.ord.1; have h2 := HS6.out.mlt; simp; omega) (w6.heap.size + 1) (by simp) ?_))
 intro g8 c8 w8 hown8 hgrow8 hat8 hgl8
 have HS7 : Hid (BS (w6.alloc (.cells #[.pointer (some ⟨t, 0, none⟩), .pointer (some ⟨rt, 0, none⟩)] 73)) B m (some k) false false an sx (.slice ava an avc) lv lz) := HS6.out.below HB7.out
 have HT7 : Hid (StreamAt (w6.alloc (.cells #[.pointer (some ⟨t, 0, none⟩), .pointer (some ⟨rt, 0, none⟩)] 73)) t k.g os 0) := HT6.out.below HB7.out HT6.out.here
 have HM7 : Hid (StreamAt (w6.alloc (.cells #[.pointer (some ⟨t, 0, none⟩), .pointer (some ⟨rt, 0, none⟩)] 73)) rt k.g2 os 0) := HM5.out.below HB7.out HM5.out.here
 have HFIN : Hid (BS (w8.setCell ⟨m, 2, none⟩ (.slice (some ⟨g8, 0, none⟩) (an + 1) c8)) B m (some k) false false (an + 1) (addS sx an ⟨t, rt, os, 0, 0⟩) (.slice (some ⟨g8, 0, none⟩) (an + 1) c8) lv lz ∧ Below B (w6.alloc (.cells #[.pointer (some ⟨t, 0, none⟩), .pointer (some ⟨rt, 0, none⟩)] 73)) (w8.setCell ⟨m, 2, none⟩ (.slice (some ⟨g8, 0, none⟩) (an + 1) c8))) := by
  refine BS.more (s := ⟨t, rt, os, 0, 0⟩) H.out.s HS7.out (by have h1 := HBR.out.2.2.2; have h2 := HM5.out.here; simp; omega) HT7.out HM7.out HT3.out.1 HBR.out.2.1 hgrow8 hown8 (fun b hb => ?_)
  have e : b = g8 := by simpa [vblk, Value.ownBlock] using hb
  rcases hat8 with q | q
  ·exact .inl (by rw [e, vblk, q]; simp)
  ·exact .inr (by rw [e, q]; simp)
 have cm8 : w8.cell? ⟨m, 2, none⟩ = some (.slice ava an avc) := (World.cell?_of_block (a := ⟨m, 2, none⟩) (hgrow8.block m HS7.out.mlt (fun q => (HS7.out.aa m (by rw [vblk, ← q]; simp)).1 rfl))).trans HS7.out.ca
 have zm8 : w8.frozen? ⟨m, 2, none⟩ = false := (World.frozen?_of_block (a := ⟨m, 2, none⟩) (hgrow8.block m HS7.out.mlt (fun q => (HS7.out.aa m (by rw [vblk, ← q]; simp)).1 rfl))).trans (by have := (HS7.out.room 2 (by omega)).2; rwa [Nat.zero_add] at this)
 clear hown8 hgrow8 hat8 hgl8 cm
 go_wp2
 go_ret
 have hev : Even (an + 1) (addS sx an ⟨t, rt, os, 0, 0⟩) := fun j hj => by
  by_cases q : j < an
  ·rw [addS_old _ _ _ _ q]; exact HEV.out j q
  ·obtain rfl : j = an := by omega
   rw [addS_at]
 exact ⟨false, an + 1, _, _, lv, lz, rfl, HFIN.out.1, hev, HB6.out.trans ((HB7.out.mono (Nat.le_trans HBm.out HB6.out.size)).trans HFIN.out.2), Nat.le_refl _⟩
end Go.Proofs.YtgmfiljjogdccabGreatDoor
