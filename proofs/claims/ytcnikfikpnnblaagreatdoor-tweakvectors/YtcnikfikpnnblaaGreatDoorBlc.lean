import Derived.Test.YtcnikfikpnnblaaGreatDoorPart31
import Derived.Test.YtcnikfikpnnblaaGreatDoorFdTurn
import Derived.Laws.CopyOwn
namespace Go.Proofs.YtcnikfikpnnblaaGreatDoor
open Go.RowKit
set_option linter.unusedVariables false
set_option linter.unusedSimpArgs false
set_option maxHeartbeats 800000 in
set_option maxRecDepth 100000 in
/-- blockAt. -/
theorem blockAt_ok (b off n c j : Nat) (w : World) (hj : 16 * j + 16 ≤ n) (hn : n ≤ c) (hc : n ≤ 1000000) :
    Calls Tryz.prog 212 #[.slice (some ⟨b, off, none⟩) n c, .int .i64 (j : Nat)] w fun e w' => Hid (e = .returned (.slice (some ⟨b, off + 16 * j, none⟩) 16 16) ∧ Below w.heap.size w w') := by
  have hS : ∀ u : World, (Instr.slice 24 (.slice (some ⟨b, off, none⟩) n c) (some (.int .i64 ((j : Int) * 16))) (some (.int .i64 ((j : Int) * 16 + 16))) (some (.int .i64 ((j : Int) * 16 + 16)))).run Tryz.prog u = .ok (.slice (some ⟨b, off + 16 * j, none⟩) 16 16) u := fun u => by
    have q := run_slice_lhm (P := Tryz.prog) u 24 (some ⟨b, off, none⟩) n c und22 .i64 .i64 .i64 ((j : Int) * 16) ((j : Int) * 16 + 16) ((j : Int) * 16 + 16) (by omega) (by omega) (by omega) (by omega)
    rw [q, show Tryz.prog.elem 24 = 5 by kernel_rfl, sizeOf5]
    simp only [Result.andThen_ok, sliced]
    rw [show ((j : Int) * 16).toNat = 16 * j by omega, show ((j : Int) * 16 + 16).toNat = 16 * j + 16 by omega, if_neg (by omega), Option.map_some, Nat.mul_one, Addr.add_mid, show 16 * j + 16 - 16 * j = 16 by omega]
  have e1 : IntKind.i64.wrap ((j : Int) * 16) = (j : Int) * 16 := by rw [IntKind.wrap_i64]; omega
  have e2 : IntKind.i64.wrap ((j : Int) * 16 + 16) = (j : Int) * 16 + 16 := by rw [IntKind.wrap_i64]; omega
  clear hj hn hc
  go_enter Tryz.func212, Tryz.ntmps212
  go_wp2
  go_ret
  exact ⟨rfl, Below.refl _ _⟩
/-- Block j of a list. -/
def cutV (zs : List Int) (j : Nat) : BitVec 128 := BitVec.ofNat 128 (Fd.pk (fun i => nat8 zs (16 * j + i)) 16)
theorem cutV_at {zs : List Int} (h : AllBytes zs) (j i : Nat) (hi : i < 16) : ((Fd.byV (cutV zs j) i : Nat) : Int) = zs.getD (16 * j + i) 0 := by
  rw [cutV, Fd.byV_pk _ (fun i => nat8_lt h _) i hi, nat8_eq h]
theorem BL_one8 (v : BitVec 128) : ∀ x ∈ Fd.BL v, x.oneCell' = true := by
  intro x hx
  obtain ⟨i, hi⟩ := List.mem_iff_getElem?.1 hx
  by_cases h : i < 16
  · rw [Fd.BL_at v i h] at hi; injection hi with hi; subst hi; rfl
  · rw [List.getElem?_eq_none (by rw [Fd.BL_length]; omega)] at hi; cases hi
/-- Sixteen zeros. -/
abbrev ZZ : List Value := [.int .u8 0, .int .u8 0, .int .u8 0, .int .u8 0, .int .u8 0, .int .u8 0, .int .u8 0, .int .u8 0, .int .u8 0, .int .u8 0, .int .u8 0, .int .u8 0, .int .u8 0, .int .u8 0, .int .u8 0, .int .u8 0]
set_option maxHeartbeats 800000 in
set_option maxRecDepth 100000 in
/-- cut. -/
theorem cut_ok (b off c j : Nat) (zs : List Int) (w : World) (hj : 16 * j + 16 ≤ zs.length) (hn : zs.length ≤ c) (hc : zs.length ≤ 1000000) (hb : AllBytes zs) (hz : ∀ i, i < zs.length → w.cell? ⟨b, off + i, none⟩ = some (.int .u8 (zs.getD i 0))) :
    Calls Tryz.prog 154 #[.slice (some ⟨b, off, none⟩) zs.length c, .int .i64 (j : Nat)] w fun e w' => Hid (e = .returned (Fd.BV (cutV zs j)) ∧ Below w.heap.size w w') := by
  obtain ⟨n, HNL⟩ : ∃ n, Hid (zs.length = n) := ⟨_, rfl⟩
  have HA : Hid (∀ u, Calls Tryz.prog 212 #[.slice (some ⟨b, off, none⟩) n c, .int .i64 (j : Nat)] u fun e w' => Hid (e = .returned (.slice (some ⟨b, off + 16 * j, none⟩) 16 16) ∧ Below u.heap.size u w')) := fun u => blockAt_ok b off n c j u (by rw [← HNL.out]; exact hj) (by rw [← HNL.out]; exact hn) (by rw [← HNL.out]; exact hc)
  obtain ⟨L, HL⟩ : ∃ L, Hid (L = Fd.BL (cutV zs j)) := ⟨_, rfl⟩
  have HLC : Hid (∀ u, Below w.heap.size w u → ∀ i v, L[i]? = some v → u.cell? ((⟨b, off + 16 * j, none⟩ : Addr).add i) = some v) := fun u hu i v hv => by
    have h16 : i < 16 := by
      rw [HL.out] at hv
      have := (List.getElem?_eq_some_iff.1 hv).1
      rw [Fd.BL_length] at this; exact this
    rw [HL.out, Fd.BL_at _ i h16, cutV_at hb j i h16] at hv
    injection hv with hv
    subst hv
    have p := hz (16 * j + i) (by omega)
    rw [Addr.add_mid, Nat.add_assoc, hu.cell (World.block_lt_of_cell? w _ p), p]
  have HLL : Hid (L.length = 16 ∧ ∀ x ∈ L, x.oneCell' = true) := by rw [HL.out]; exact ⟨Fd.BL_length _, BL_one8 _⟩
  rw [HNL.out]
  clear hj hn hc hz hb
  go_enter Tryz.func154, Tryz.ntmps154
  obtain ⟨w1, hw1⟩ : ∃ w1, w1 = (w.alloc (.cells #[.int .u8 0, .int .u8 0, .int .u8 0, .int .u8 0, .int .u8 0, .int .u8 0, .int .u8 0, .int .u8 0, .int .u8 0, .int .u8 0, .int .u8 0, .int .u8 0, .int .u8 0, .int .u8 0, .int .u8 0, .int .u8 0] 29)).alloc (.cells #[.int .u8 0, .int .u8 0, .int .u8 0, .int .u8 0, .int .u8 0, .int .u8 0, .int .u8 0, .int .u8 0, .int .u8 0, .int .u8 0, .int .u8 0, .int .u8 0, .int .u8 0, .int .u8 0, .int .u8 0, .int .u8 0] 29) := ⟨_, rfl⟩
  have HB1 : Hid (Bx w1 w.heap.size 29 ZZ ∧ Bx w1 (w.heap.size + 1) 29 ZZ ∧ Below w.heap.size w w1) := by
    refine ⟨?_, ?_, ?_⟩
    · rw [hw1]; exact (Bx.new w 29 ZZ).below ((Below.refl _ _).alloc (Nat.le_refl _) _)
    · rw [hw1]; have q := Bx.new (w.alloc (.cells ZZ.toArray 29)) 29 ZZ; simpa using q
    · rw [hw1]; exact ((Below.refl _ _).alloc (Nat.le_refl _) _).alloc (by simp) _
  go_upto_region 2 with fail
  rw [← hw1]
  clear hw1
  obtain ⟨m, HM⟩ : ∃ m, Hid (w.heap.size = m) := ⟨_, rfl⟩
  rw [HM.out] at HB1 HLC ⊢
  have HW1 : Hid (m + 1 < w1.heap.size) := HB1.out.2.1.lt
  go_region_held3 (fun _ => True) (first | trivial | go_keep)
    (first
      | (go_at_call 212; refine (HA.out _).mono ?_; intro e2 w2 hh; obtain ⟨rfl, hb2⟩ := hh.out; have HB2 : Hid (Below w1.heap.size w1 w2) := (Below.refl _ _).drew.trans hb2; clear hh hb2)
      | (refine step_copy_splice rfl (.tmp 6) (.tmp 9) 24 24 rfl 5 Tryz.underlying24 (by kernel_rfl) _ _ 16 16 16 16 rfl rfl (m + 1) 0 ZZ 29 (HB1.out.2.1.below HB2.out) L HLL.out.1 (fun _ => ⟨rfl, _, rfl, HLC.out w2 (HB1.out.2.2.trans (HB2.out.mono (by have := HW1.out; omega)))⟩) (by rw [HLL.out.1]; decide) HLL.out.2 (m + 1) w2 (Below.refl _ _) (Nat.le_refl _) ?_; intro w3 HG3 hb3; have HB3 : Hid (Below (m + 1) w2 w3) := hb3; clear hb3))
  have HX3 : Hid (Bx w3 (m + 1) 29 L ∧ Bx w3 m 29 ZZ ∧ Below m w w3) := by
    refine ⟨?_, (HB1.out.1.below HB2.out).keep (HB3.out.block m (by omega)), HB1.out.2.2.trans ((HB2.out.mono (by have := HW1.out; omega)).trans (HB3.out.mono (by omega)))⟩
    have q := HG3.out
    have e : splice ZZ 0 L = L := by simp [splice, HLL.out.1]
    rw [e] at q
    exact q
  clear HG3 HB3 HB1
  go_wp2_with (first
    | (refine wpList_load_mid (by rfl) 29 (.tmp 5) (by rfl) (m + 1) 0 (by rfl) L _ HX3.out.1.range Tryz.underlying29 rfl (by rw [HLL.out.1]; kernel_rfl) ?_)
    | (refine wpList_store_bx (by rfl) 29 (.tmp 4) (.tmp 11) (by rfl) ZZ L m (by rfl) (by rfl) HX3.out.2.1 (by rw [HLL.out.1]; rfl) (by rw [HLL.out.1]; kernel_rfl) HLL.out.2 ?_; intro u9 hb9 hg9))
  refine ret_agg (b := m) L rfl rfl hb9.range Tryz.underlying29 rfl (by rw [HLL.out.1]; kernel_rfl) ⟨?_, ?_⟩
  · rw [HL.out]; rfl
  · have hfin : Below m w u9 := HX3.out.2.2.trans (below_gb hg9 (by have := HX3.out.2.1.lt; omega) (by omega))
    first | exact hfin | (rw [HM.out]; exact hfin)
theorem setRow_gb (w : World) (g : Nat) (cs : Array Value) : w.grownBy (w.setRow g cs) (some g) := ⟨rfl, rfl, rfl, by simp [World.setRow], fun k _ hk => setRow_other w g k cs (fun e => hk (by rw [e]))⟩
/-- A copy of cells into a row at g: only this row changes. -/
theorem step_copy_gb {P : Program} {ops : Array Oper} {o : Oper} {a : Act} {w : World} {K : Act → World → Prop} {Q : Exit → Act → World → Prop} {E : Prop} (hgd : o.guard = none) (d s : Operand)
    (ho : o.op = .call { callee := .builtin .copy, args := #[d, s], argTypes := #[24, 24] }) (hu : P.underlying 24 = some (.slice 5)) (hsz : (P.info? 5).map (·.size) = some 1)
    (g off dLen dCap sLen sCap : Nat) (ad : Addr) (hd : a.eval d = .slice (some ⟨g, off, none⟩) dLen dCap) (hs : a.eval s = .slice (some ad) sLen sCap)
    (cur : List Value) (t : TypeId) (hg : w.heap[g]? = some (.cells cur.toArray t (0, 0))) (cs : List Value) (hn : cs.length = Nat.min sLen dLen)
    (hsrc : ∀ j v, cs[j]? = some v → w.cell? (ad.add j) = some v) (hfit : off + cs.length ≤ cur.length) (h1 : ∀ v ∈ cs, v.oneCell' = true)
    (h : ∀ w', Hid (w'.heap[g]? = some (.cells (splice cur off cs).toArray t (0, 0))) → Hid (w.grownBy w' (some g)) → K (a.put o.dst (goInt cs.length)) w') :
    if Region.wanted o (yielded ops a.tmps) = true then Oper.wp P o a w K Q else E := by
  have hw : Region.wanted o (yielded ops a.tmps) = true := by simp [Region.wanted, hgd]
  rw [if_pos hw]
  have hrun := run_copy_row (P := P) w 24 24 o.type 5 g off dLen dCap ad sLen sCap cur.toArray t cs hu hsz hg hn hsrc (by simpa using hfit) h1
  unfold Oper.wp
  simp [execOp, ho, resolve, invoke, builtin, hd, hs, hrun, Result.andThen]
  exact h _ (show _ = _ by simpa [splice] using setRow_heap w g _ _ t _ hg) (setRow_gb w g _)
set_option maxHeartbeats 800000 in
set_option maxRecDepth 100000 in
/-- lay. -/
theorem lay_ok (g n c j : Nat) (v : BitVec 128) (cur : List Value) (w : World) (hj : 16 * j + 16 ≤ n) (hn : n ≤ c) (hc : n ≤ 1000000) (hcur : n ≤ cur.length) (hg : Bx w g 5 cur) :
    Calls Tryz.prog 219 #[.slice (some ⟨g, 0, none⟩) n c, .int .i64 (j : Nat), Fd.BV v] w fun e w' => Hid (e = .returned (.tuple #[]) ∧ Bx w' g 5 (splice cur (16 * j) (Fd.BL v)) ∧ w.grownBy w' (some g)) := by
  have HA : Hid (∀ u, Calls Tryz.prog 212 #[.slice (some ⟨g, 0, none⟩) n c, .int .i64 (j : Nat)] u fun e w' => Hid (e = .returned (.slice (some ⟨g, 0 + 16 * j, none⟩) 16 16) ∧ Below u.heap.size u w')) := fun u => blockAt_ok g 0 n c j u hj hn hc
  obtain ⟨L, HL⟩ : ∃ L, Hid (L = Fd.BL v) := ⟨_, rfl⟩
  have HLL : Hid (L.length = 16 ∧ ∀ x ∈ L, x.oneCell' = true) := by rw [HL.out]; exact ⟨Fd.BL_length _, BL_one8 _⟩
  have HF : Hid (16 * j + 16 ≤ cur.length) := (by omega : 16 * j + 16 ≤ cur.length)
  obtain ⟨w1, hw1⟩ : ∃ w1, w1 = w.alloc (.cells L.toArray 29) := ⟨_, rfl⟩
  have HB1 : Hid (Bx w1 w.heap.size 29 L ∧ Bx w1 g 5 cur ∧ Below w.heap.size w w1 ∧ g < w.heap.size) := by
    rw [hw1]; exact ⟨Bx.new w 29 L, hg.below ((Below.refl _ _).alloc (Nat.le_refl _) _), (Below.refl _ _).alloc (Nat.le_refl _) _, hg.lt⟩
  show Calls Tryz.prog 219 #[_, _, .agg (Fd.BL v).toArray] w _
  rw [← HL.out]
  clear hj hn hc hcur hg
  go_enter Tryz.func219, Tryz.ntmps219
  go_upto_region 1 with fail
  rw [← hw1]
  clear hw1
  obtain ⟨m, HM⟩ : ∃ m, Hid (w.heap.size = m) := ⟨_, rfl⟩
  rw [HM.out] at HB1 ⊢
  go_region_held3 (fun _ => True) (first | trivial | go_keep)
    (first
      | (go_at_call 212; refine (HA.out _).mono ?_; intro e2 w2 hh; obtain ⟨rfl, hb2⟩ := hh.out; have HB2 : Hid (Below w1.heap.size w1 w2) := (Below.refl _ _).drew.trans hb2; clear hh hb2)
      | (refine step_copy_gb rfl (.tmp 8) (.tmp 9) rfl Tryz.underlying24 (by kernel_rfl) g (16 * j) 16 16 16 16 ⟨m, 0, none⟩ (by first | rfl | simp) (by first | rfl | simp) cur 5 (HB1.out.2.1.below HB2.out) L HLL.out.1 (fun i v hv => by rw [Addr.add_mid]; exact (HB1.out.1.below HB2.out).range i v hv) (by rw [HLL.out.1]; exact HF.out) HLL.out.2 ?_; intro w3 HG3 HB3))
  go_end0
  refine ⟨rfl, ?_, ?_⟩
  · exact HG3.out
  · have e1 : w.grownBy w2 (some g) := by
      have q := HB1.out.2.2.1.trans (HB2.out.mono (by have := HB1.out.1.lt; omega))
      exact ⟨q.os, q.tape, q.output, q.size, fun k hk _ => q.block k (by rw [← HM.out]; exact hk)⟩
    exact gb_trans e1 HB3.out
end Go.Proofs.YtcnikfikpnnblaaGreatDoor
