import Derived.Test.YtcnikfikpnnblaaGreatDoorFill
import Derived.Deep.CutRange
import Derived.Test.YtcnikfikpnnblaaGreatDoorPart11
import Derived.Test.YtcnikfikpnnblaaGreatDoorPart08
import Derived.Test.YtcnikfikpnnblaaGreatDoorBlk
namespace Go.Proofs.YtcnikfikpnnblaaGreatDoor
open Go.RowKit
set_option linter.unusedVariables false
/-- A cipher's cells, by place. -/
def cipC (nr : Nat) (K : Nat → Nat) (j : Nat) : Value :=
  if j = 0 then .int .i64 (nr : Nat) else if j < 61 then .int .u32 (K (j - 1) : Nat) else if j < 317 then .int .u8 (SB (j - 61) : Nat) else if j < 573 then .int .u8 (UB (j - 317) : Nat)
  else if j < 829 then .int .u32 (MX (j - 573) : Nat) else .int .u32 (UX (j - 829) : Nat)
def cipL (nr : Nat) (K : Nat → Nat) : List Value := (List.range 1085).map (cipC nr K)
theorem cipL_length (nr : Nat) (K : Nat → Nat) : (cipL nr K).length = 1085 := by simp [cipL]
theorem cipL_at (nr : Nat) (K : Nat → Nat) {j : Nat} (h : j < 1085) : (cipL nr K)[j]? = some (cipC nr K j) := by simp [cipL, h]
theorem cipC_one (nr : Nat) (K : Nat → Nat) (j : Nat) : (cipC nr K j).oneCell' = true := by
  unfold cipC
  repeat' split
  all_goals rfl
theorem cipL_one (nr : Nat) (K : Nat → Nat) : (cipL nr K).toArray.all (·.oneCell') = true := all_oneCell_toArray (fun v hv => by
  simp only [cipL, List.mem_map] at hv
  obtain ⟨j, _, rfl⟩ := hv
  exact cipC_one nr K j)
theorem cipL_range {w : World} {g o nr : Nat} {K : Nat → Nat} (h0 : w.cell? ⟨g, o, none⟩ = some (.int .i64 (nr : Nat))) (hw : ∀ i, i < 60 → w.cell? ⟨g, o + 1 + i, none⟩ = some (.int .u32 (K i : Nat))) (ht : Tab w g o) : w.rangeAt g o (cipL nr K) := fun j v hv => by
  have hj : j < 1085 := by
    have := (List.getElem?_eq_some_iff.1 hv).1
    rw [cipL_length] at this
    exact this
  rw [cipL_at nr K hj] at hv
  obtain rfl := Option.some.inj hv
  unfold cipC
  by_cases h1 : j = 0
  · rw [if_pos h1, h1]; exact h0
  rw [if_neg h1]
  by_cases h2 : j < 61
  · rw [if_pos h2]; have := hw (j - 1) (by omega); rw [show o + 1 + (j - 1) = o + j by omega] at this; exact this
  rw [if_neg h2]
  by_cases h3 : j < 317
  · rw [if_pos h3]; have := ht.s (j - 61) (by omega); rw [show o + 61 + (j - 61) = o + j by omega] at this; exact this
  rw [if_neg h3]
  by_cases h4 : j < 573
  · rw [if_pos h4]; have := ht.u (j - 317) (by omega); rw [show o + 317 + (j - 317) = o + j by omega] at this; exact this
  rw [if_neg h4]
  by_cases h5 : j < 829
  · rw [if_pos h5]; have := ht.m (j - 573) (by omega); rw [show o + 573 + (j - 573) = o + j by omega] at this; exact this
  rw [if_neg h5]
  have := ht.n (j - 829) (by omega)
  rw [show o + 829 + (j - 829) = o + j by omega] at this
  exact this
theorem ciph_of_range {w : World} {g o nr : Nat} {K : Nat → Nat} (h : w.rangeAt g o (cipL nr K)) (hg : g < w.heap.size) (h1 : 1 ≤ nr) (h14 : nr ≤ 14) (hK : ∀ i, K i < 4294967296) : Ciph w g o nr K := by
  have e : ∀ j, j < 1085 → w.cell? ⟨g, o + j, none⟩ = some (cipC nr K j) := fun j hj => h j _ (cipL_at nr K hj)
  refine ⟨?_, fun i hi => ?_, hK, ⟨fun b hb => ?_, fun b hb => ?_, fun b hb => ?_, fun b hb => ?_⟩, hg, h1, h14⟩
  · exact e 0 (by omega)
  · have := e (1 + i) (by omega)
    rw [← Nat.add_assoc] at this
    rw [this]
    unfold cipC
    rw [if_neg (by omega), if_pos (by omega), show 1 + i - 1 = i by omega]
  · have := e (61 + b) (by omega)
    rw [← Nat.add_assoc] at this
    rw [this]
    unfold cipC
    rw [if_neg (by omega), if_neg (by omega), if_pos (by omega), show 61 + b - 61 = b by omega]
  · have := e (317 + b) (by omega)
    rw [← Nat.add_assoc] at this
    rw [this]
    unfold cipC
    rw [if_neg (by omega), if_neg (by omega), if_neg (by omega), if_pos (by omega), show 317 + b - 317 = b by omega]
  · have := e (573 + b) (by omega)
    rw [← Nat.add_assoc] at this
    rw [this]
    unfold cipC
    rw [if_neg (by omega), if_neg (by omega), if_neg (by omega), if_neg (by omega), if_pos (by omega), show 573 + b - 573 = b by omega]
  · have := e (829 + b) (by omega)
    rw [← Nat.add_assoc] at this
    rw [this]
    unfold cipC
    rw [if_neg (by omega), if_neg (by omega), if_neg (by omega), if_neg (by omega), if_neg (by omega), show 829 + b - 829 = b by omega]
/-- The schedule. -/
def upd (f : Nat → Nat) (i v : Nat) : Nat → Nat := fun j => if j = i then v else f j
def subw (x : Nat) : Nat := lastw x x x x
def rotw (x : Nat) : Nat := wd (bt1 x) (bt2 x) (bt3 x) (bt0 x)
def rcT (i : Nat) : Nat := Nat.mod (Nat.shiftRight 255515093586639589736961 (Nat.mul 8 i)) 256
def nextW (nk i : Nat) (K : Nat → Nat) : Nat :=
  Nat.xor (K (i - nk)) (if i % nk = 0 then Nat.xor (subw (rotw (K (i - 1)))) (rcT (i / nk - 1) * 16777216) else if nk = 8 ∧ i % 8 = 4 then subw (K (i - 1)) else K (i - 1))
def keyW (key : Nat → Nat) : Nat → Nat → Nat
  | 0 => fun _ => 0
  | i + 1 => upd (keyW key i) (i / 4) (keyW key i (i / 4) * 256 % 4294967296 + key i)
def goW (nk : Nat) (K : Nat → Nat) : Nat → Nat → Nat
  | 0 => K
  | m + 1 => upd (goW nk K m) (nk + m) (nextW nk (nk + m) (goW nk K m))
/-- The words of a key of 4 nk bytes. -/
def schedK (nk : Nat) (key : Nat → Nat) : Nat → Nat := goW nk (keyW key (4 * nk)) (3 * nk + 28)
theorem keyW_lt {key : Nat → Nat} (hk : ∀ i, key i < 256) : ∀ i j, keyW key i j < 4294967296
  | 0, j => by show 0 < _; decide
  | i + 1, j => by
    unfold keyW upd
    have := hk i
    split
    · omega
    · exact keyW_lt hk i j
theorem rcT_lt (i : Nat) : rcT i < 256 := Nat.mod_lt _ (by decide)
theorem subw_lt (x : Nat) : subw x < 4294967296 := lastw_lt _ _ _ _
theorem nextW_lt {nk i : Nat} {K : Nat → Nat} (hK : ∀ j, K j < 4294967296) : nextW nk i K < 4294967296 := by
  unfold nextW
  refine xor_lt32 (hK _) ?_
  have := rcT_lt (i / nk - 1)
  split
  · exact xor_lt32 (subw_lt _) (by omega)
  · split
    · exact subw_lt _
    · exact hK _
theorem goW_lt {nk : Nat} {K : Nat → Nat} (hK : ∀ j, K j < 4294967296) : ∀ m j, goW nk K m j < 4294967296
  | 0, j => hK j
  | m + 1, j => by
    unfold goW upd
    split
    · exact nextW_lt (goW_lt hK m)
    · exact goW_lt hK m j
theorem schedK_lt {nk : Nat} {key : Nat → Nat} (hk : ∀ i, key i < 256) (j : Nat) : schedK nk key j < 4294967296 := goW_lt (keyW_lt hk _) _ j
/-- What stands while a key is scheduled in block B + 1. -/
structure SchAt (w : World) (nr : Nat) (K : Nat → Nat) (u : World) : Prop where
  old : Below w.heap.size w u
  size : w.heap.size + 2 ≤ u.heap.size
  res : u.there w.heap.size 0 1085
  room : u.there (w.heap.size + 1) 0 1085
  rounds : u.cell? ⟨w.heap.size + 1, 0, none⟩ = some (.int .i64 (nr : Nat))
  words : ∀ j, j < 60 → u.cell? ⟨w.heap.size + 1, 1 + j, none⟩ = some (.int .u32 (K j : Nat))
theorem SchAt.touch {w u u' : World} {nr : Nat} {K : Nat → Nat} (h : SchAt w nr K u) (ht : Touch u u' (w.heap.size + 1) 61 1024) : SchAt w nr K u' := by
  have hs := h.size
  refine ⟨h.old.trans (ht.toBelow (Nat.le_succ _) h.old.size), Nat.le_trans h.size ht.size, ?_, ht.there _ _ h.room, (ht.cell 0 (by omega)).trans h.rounds, fun j hj => (ht.cell (1 + j) (by omega)).trans (h.words j hj)⟩
  intro j hj
  have := h.res j hj
  rw [ht.far (p := ⟨w.heap.size, 0 + j, none⟩) (show w.heap.size < _ by omega) (show w.heap.size ≠ _ by omega), ht.farFrozen (p := ⟨w.heap.size, 0 + j, none⟩) (show w.heap.size < _ by omega) (show w.heap.size ≠ _ by omega)]
  exact this
theorem SchAt.set {w u : World} {nr : Nat} {K : Nat → Nat} (h : SchAt w nr K u) (i v : Nat) (hi : i < 60) : SchAt w nr (upd K i v) (u.setCell ⟨w.heap.size + 1, 1 + i, none⟩ (.int .u32 (v : Nat))) := by
  refine ⟨h.old.setCell (Nat.le_succ _) _, ?_, World.there_setCells h.res _ _ [_], World.there_setCells h.room _ _ [_], ?_, fun j hj => ?_⟩
  · have := h.size; simpa [World.setCell] using this
  · rw [cell_other _ _ _ _ _ (by omega)]; exact h.rounds
  · unfold upd
    by_cases hji : j = i
    · subst hji
      rw [if_pos rfl]
      have := h.room (1 + j) (by omega)
      simp only [Nat.zero_add] at this
      exact World.cell?_setCell_same' _ _ _ this.1
    · rw [if_neg hji, cell_other _ _ _ _ _ (by omega)]
      exact h.words j hj
theorem SchAt.drewN {w u : World} {nr : Nat} {K : Nat → Nat} (h : SchAt w nr K u) (m : Nat) : SchAt w nr K (u.drewN m) := ⟨Below.drewN h.old m, h.size, h.res, h.room, h.rounds, h.words⟩
theorem Tab.set {u : World} {g i : Nat} (h : Tab u g 0) (v : Value) (hi : i < 61) : Tab (u.setCell ⟨g, i, none⟩ v) g 0 :=
  ⟨fun b hb => by rw [cell_other _ _ _ _ _ (by omega)]; exact h.s b hb, fun b hb => by rw [cell_other _ _ _ _ _ (by omega)]; exact h.u b hb, fun b hb => by rw [cell_other _ _ _ _ _ (by omega)]; exact h.m b hb, fun b hb => by rw [cell_other _ _ _ _ _ (by omega)]; exact h.n b hb⟩
theorem Tab.drewN {u : World} {g o : Nat} (h : Tab u g o) (m : Nat) : Tab (u.drewN m) g o := ⟨h.s, h.u, h.m, h.n⟩
/-- replace: S of each byte of a word. -/
theorem replace_ok (g o x : Nat) (w : World) (hT : Tab w g o) : Calls Tryz.prog 107 #[.pointer (some ⟨g, o, none⟩), .int .u32 (x : Nat)] w fun e w' => e = .returned (.int .u32 (subw x : Nat)) ∧ ∃ m, w' = w.drewN m := by
  obtain ⟨y, HY⟩ : ∃ y, Hid (y = subw x) := ⟨_, rfl⟩
  have K1 : Hid (Calls Tryz.prog 120 #[.pointer (some ⟨g, o, none⟩), .int .u32 (x : Nat), .int .u32 (x : Nat), .int .u32 (x : Nat), .int .u32 (x : Nat)] w fun e w' => e = .returned (.int .u32 (y : Nat)) ∧ ∃ m, w' = w.drewN m) := by
    rw [HY.out]
    exact last_ok g o x x x x _ _ _ _ w (bt0_lt x) (bt1_lt x) (bt2_lt x) (bt3_lt x) (int_bt0 x) (int_bt1 x) (int_bt2 x) (int_bt3 x) hT
  rw [← HY.out]
  clear hT
  go_enter Tryz.func107, Tryz.ntmps107
  go_wp2_with (first | (go_at_call 120; refine K1.out.mono ?_))
  rintro e1 w1 ⟨rfl, m, hw⟩
  go_wp2
  go_ret
  exact ⟨rfl, m, rfl⟩
theorem wordCount_ok (g o nr : Nat) (w : World) (h : w.cell? ⟨g, o, none⟩ = some (.int .i64 (nr : Nat))) (hn : nr ≤ 14) : Calls Tryz.prog 106 #[.pointer (some ⟨g, o, none⟩)] w fun e w' => e = .returned (.int .i64 (4 * (nr + 1) : Nat)) ∧ w' = w := by
  go_enter Tryz.func106, Tryz.ntmps106
  go_wp2
  go_ret
  exact ⟨ret_int (by omega), rfl⟩
end Go.Proofs.YtcnikfikpnnblaaGreatDoor
namespace Go.Proofs.YtcnikfikpnnblaaGreatDoor
theorem iterE_succ (K : Nat → Nat) (r : Nat) (s : W4) : iterE K (r + 1) s = addK K (r + 1) (mixS (iterE K r s)) := rfl
theorem iterE_zero (K : Nat → Nat) (s : W4) : iterE K 0 s = s := rfl
end Go.Proofs.YtcnikfikpnnblaaGreatDoor
namespace Go.Proofs.YtcnikfikpnnblaaGreatDoor
open Go.RowKit
set_option linter.unusedVariables false
/-- A schedule that is written down is that of the key, if each of its words follows from those ahead of it. -/
theorem goW_at {nk : Nat} {K0 F : Nat → Nat} (h0 : ∀ j, j < nk → K0 j = F j) (hn : 0 < nk) {M : Nat} (hs : ∀ m, m < M → nextW nk (nk + m) F = F (nk + m)) : ∀ m, m ≤ M → ∀ j, j < nk + m → goW nk K0 m j = F j := by
  intro m
  induction m with
  | zero => exact fun _ j hj => h0 j (by omega)
  | succ m ih =>
    intro hm j hj
    have ih' := ih (by omega)
    unfold goW upd
    by_cases hjm : j = nk + m
    · rw [if_pos hjm, hjm, ← hs m (by omega)]
      unfold nextW
      rw [ih' (nk + m - nk) (by omega), ih' (nk + m - 1) (by omega)]
    · rw [if_neg hjm]
      exact ih' j (by omega)
theorem addK_congr {K F : Nat → Nat} {r : Nat} (h : ∀ j, j < 4 * (r + 1) → K j = F j) (s : W4) : addK K r s = addK F r s := by
  unfold addK
  rw [h (4 * r) (by omega), h (4 * r + 1) (by omega), h (4 * r + 2) (by omega), h (4 * r + 3) (by omega)]
theorem iterE_congr {K F : Nat → Nat} (s : W4) (r : Nat) (h : ∀ j, j < 4 * (r + 1) → K j = F j) : iterE K r s = iterE F r s := by
  induction r with
  | zero => rw [iterE_zero, iterE_zero]
  | succ r ih => rw [iterE_succ, iterE_succ, ih (fun j hj => h j (by omega)), addK_congr h]
theorem encW_congr {K F : Nat → Nat} {nr : Nat} (h1 : 1 ≤ nr) (h : ∀ j, j < 4 * (nr + 1) → K j = F j) (s : W4) : encW nr K s = encW nr F s := by
  unfold encW
  rw [addK_congr (r := 0) (fun j hj => h j (by omega)), iterE_congr _ (nr - 1) (fun j hj => h j (by omega)), addK_congr h]
/-- A list of words out of one number. -/
def wordT (n j : Nat) : Nat := Nat.mod (Nat.shiftRight n (Nat.mul 32 j)) 4294967296
def W32 : Nat := 40588901833789785159217277571222803699713122000033715455120290826434294749228737489858619682393124213434237382448684798201429199859042181465691985922769736547614597994086458994488101378311087064657394489849946737440617656986741278393373241810245004935003052300679918820526303281682444060725392835778184555668714201509861331811386879129221345592586309791718563399891105740675620352127312404174940521730267585763785796873970309904313455019118516937793663314812563166091624445326649780233741323562049636414094104325048685980178953483258441415514281378694392646619490463384516755971
def key32 (i : Nat) : Nat := Nat.mod (Nat.shiftRight 14074904626401341155369551180448584754667373453244490859944217516317499064576 (Nat.mul 8 i)) 256
theorem W32_key : ∀ j : Fin 8, keyW key32 32 j.1 = wordT W32 j.1 := by decide +kernel
theorem W32_next : ∀ m : Fin 52, nextW 8 (8 + m.1) (wordT W32) = wordT W32 (8 + m.1) := by decide +kernel
theorem sched32 : ∀ j, j < 60 → schedK 8 key32 j = wordT W32 j := fun j hj =>
  goW_at (fun j hj => W32_key ⟨j, hj⟩) (by decide) (M := 52) (fun m hm => W32_next ⟨m, hm⟩) 52 (Nat.le_refl _) j (by omega)
def W3 : Nat := 5046468880051722124165138377573495752352814026446080871608016796122220429082579000232600314235784662476030427341372658306567627449033442801373289480869096360226894485099629028185229497190130648053266891598727969131253797210077642090429746202649527074628884158587131746570320957489095398094032979503431341887810050553743204897050105276776682016117297116796442808330014977125357325912016584471395215433345801901684693189661974
end Go.Proofs.YtcnikfikpnnblaaGreatDoor
namespace Go.Proofs.YtcnikfikpnnblaaGreatDoor
open Go.RowKit
set_option linter.unusedVariables false
/-- The bytes of a word, the highest first. -/
def btn (x : Nat) : Nat → Nat
  | 0 => bt0 x
  | 1 => bt1 x
  | 2 => bt2 x
  | _ => bt3 x
/-- A schedule's bytes, one behind the other. -/
def rb (K : Nat → Nat) (j : Nat) : Nat := btn (K (j / 4)) (j % 4)
end Go.Proofs.YtcnikfikpnnblaaGreatDoor
namespace Go.Proofs.YtcnikfikpnnblaaGreatDoor
open Go.RowKit
set_option linter.unusedVariables false
/-- What stands while the boxes are filled. -/
structure BxS (w : World) (b1 b2 b3 : Nat) (u : World) : Prop where
  old : Below w.heap.size w u
  r0 : u.there w.heap.size 0 256
  r1 : u.there b1 0 256
  s : u.there b2 0 256
  t : u.there b3 0 256
theorem BxS.set {w u : World} {b1 b2 b3 : Nat} (h : BxS w b1 b2 b3 u) (b j : Nat) (v : Value) (hb : w.heap.size ≤ b) : BxS w b1 b2 b3 (u.setCell ⟨b, j, none⟩ v) :=
  ⟨h.old.setCell hb _, World.there_setCells h.r0 _ _ [_], World.there_setCells h.r1 _ _ [_], World.there_setCells h.s _ _ [_], World.there_setCells h.t _ _ [_]⟩
theorem set_same {w : World} {b n j : Nat} (v : Value) (h : w.there b 0 n) (hj : j < n) : (w.setCell ⟨b, j, none⟩ v).cell? ⟨b, j, none⟩ = some v := by
  have := cell_same (i := j) v h hj
  rw [Nat.zero_add] at this
  exact this
end Go.Proofs.YtcnikfikpnnblaaGreatDoor
