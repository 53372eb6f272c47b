import Derived.Test.YtioggmjocelolacDoorStl
import Derived.Test.YtioggmjocelolacDoorPart07
namespace Go.Proofs.YtioggmjocelolacDoor
open Go.RowKit
set_option linter.unusedVariables false
set_option linter.unusedSimpArgs false
/-- One step of a script. -/
structure OpV where
  (k a f h : Int)
  (ka : Option Addr)
  (kn kc : Nat)
  (pa : Option Addr)
  (pn pc : Nat)
  key : List Int
  xs : List Value
  yss : List (List Int)
def OpV.L (o : OpV) : List Value := [.int .i64 o.k, .int .i64 o.a, .int .i64 o.f, .int .i64 o.h, .slice o.ka o.kn o.kc, .slice o.pa o.pn o.pc]
structure OpOk (w : World) (o : OpV) : Prop where
  key : View w (.slice o.ka o.kn o.kc) o.key
  kl : o.key.length = o.kn
  kb : o.kn ≤ 1048576
  pv : PV w (.slice o.pa o.pn o.pc) o.xs o.yss
  xl : o.xs.length = o.pn
  fl : o.yss.flatten.length ≤ 1048576
  pb : o.pn ≤ 1048576
/-- A script where it lies. -/
def ScAt (w : World) (sa : Option Addr) (sn : Nat) (os : Nat → OpV) : Prop := sn = 0 ∨ ∃ b off, sa = some ⟨b, off, none⟩ ∧ b < w.heap.size ∧ ∀ i, i < sn → OpOk w (os i) ∧ w.rangeAt b (off + i * 6) (os i).L
def noOp (k : Int) (i : Nat) : List Value := [.int .i64 k, .int .i64 (i : Nat), .int .i64 0, .int .i64 0, .slice none 0 0, .slice none 0 0]
theorem pv_nil (w : World) : PV w (.slice none 0 0) [] [] := ⟨none, 0, rfl, Nat.le_refl _, by simp [maxLen], rfl, fun i x hx => by simp at hx, .inl rfl⟩
def tz : List Value := [.pointer none, .pointer none, .pointer none, .pointer none, .pointer none, .pointer none, .int .i64 0, .bool false, .slice none 0 0, .slice none 0 0, .int .i64 0, .bool false, .slice none 0 0, .slice none 0 0, .int .i64 0, .bool false, .slice none 0 0, .slice none 0 0, .slice none 0 0, .slice none 0 0, .int .i64 65536]
theorem tsd_start (w : World) (mc : Bool) : TSD (w.alloc (.cells tz.toArray 89)) w.heap.size w.heap.size mc (fun _ => Sl.no) (.slice none 0 0) (.slice none 0 0) [] 65536 := by
  have hc : ∀ j v, tz[j]? = some v → (w.alloc (.cells tz.toArray 89)).cell? ⟨w.heap.size, j, none⟩ = some v := fun j v hv => by
    rw [World.cell?_alloc_at _ 89 _ _ rfl]
    simpa using hv
  have h3 : ∀ i, i < 3 → i = 0 ∨ i = 1 ∨ i = 2 := fun i hi => by omega
  refine ⟨⟨fun i hi => ?_, fun i hi => ?_, fun i hi => ?_, fun i hi => ?_, fun i hi => ?_, fun i hi => ?_, hc 18 _ rfl, hc 19 _ rfl, hc 20 _ rfl, there_new w _ 89 21 (by show 21 ≤ 21; omega), fun i hi => no_at _ _ _, World.ownsRow_nil _ _ _ _, World.ownsRow_nil _ _ _ _, Nat.le_refl _, ?_, fun i hi e => absurd rfl e, fun i hi e => absurd rfl e, fun i hi => by simp [Sl.no]⟩, ⟨fun t ht => by simp at ht, List.Pairwise.nil, fun s hs => by simp at hs⟩⟩
  · rcases h3 i hi with rfl | rfl | rfl <;> cases mc <;> exact hc _ _ rfl
  · rcases h3 i hi with rfl | rfl | rfl <;> cases mc <;> exact hc _ _ rfl
  · rcases h3 i hi with rfl | rfl | rfl <;> exact hc _ _ rfl
  · rcases h3 i hi with rfl | rfl | rfl <;> exact hc _ _ rfl
  · rcases h3 i hi with rfl | rfl | rfl <;> exact hc _ _ rfl
  · rcases h3 i hi with rfl | rfl | rfl <;> exact hc _ _ rfl
  · exact ⟨fun i j hi hj hij g e => (by cases e), fun i hi e => (by cases e), fun q => (by simp [vblk, Value.ownBlock] at q), fun q => (by simp [vblk, Value.ownBlock] at q), fun i hi g e => (by cases e), fun i hi g e => (by cases e), fun b hb => (by simp [vblk, Value.ownBlock] at hb)⟩
/-- The end: what is kept from i on is what it must be. -/
structure EndS (B t : Nat) (kv wv : Value) (ts : List (Value × Value × List Int)) (i : Nat) (u : World) : Prop where
  ck : u.cell? ⟨t, 18, none⟩ = some kv
  cw : u.cell? ⟨t, 19, none⟩ = some wv
  kr : u.ownsRow B 22 1 kv ts.length (ts.map (·.1))
  wr : u.ownsRow B 22 1 wv ts.length (ts.map (·.2.1))
  it : ∀ (j : Nat) (x : Value × Value × List Int), i ≤ j → ts[j]? = some x → u.ownsRow B 5 1 x.1 x.2.2.length (cellsU8 x.2.2) ∧ View u x.2.1 x.2.2
theorem TSD.ends {u : World} {B t left : Nat} {mc : Bool} {d : Nat → Sl} {kv wv : Value} {ts : List (Value × Value × List Int)} (h : TSD u B t mc d kv wv ts left) : EndS B t kv wv ts 0 u :=
  ⟨h.s.ck, h.s.cw, h.s.kr, h.s.wr, fun j x _ hx => ⟨(h.k.it x (List.mem_of_getElem? hx)).ow, (h.k.it x (List.mem_of_getElem? hx)).vw⟩⟩
/-- What holds of what is kept, whatever the world. -/
structure Kpt (t : Nat) (kv wv : Value) (ts : List (Value × Value × List Int)) : Prop where
  om : ∀ x, x ∈ ts → ∀ b, b ∈ vblk x.1 → b ≠ t ∧ b ∉ vblk kv ∧ b ∉ vblk wv
  oo : ts.Pairwise fun s x => ∀ b, b ∈ vblk s.1 → b ∉ vblk x.1
  ow : ∀ s, s ∈ ts → ∀ x, x ∈ ts → x.2.2 ≠ [] → ∀ b, b ∈ vblk s.1 → b ∉ vblk x.2.1
  ln : ∀ x, x ∈ ts → x.2.2.length ≤ 64
theorem TSD.kpt {u : World} {B t left : Nat} {mc : Bool} {d : Nat → Sl} {kv wv : Value} {ts : List (Value × Value × List Int)} (h : TSD u B t mc d kv wv ts left) : Kpt t kv wv ts :=
  ⟨fun x hx b hb => ⟨fun e => (h.k.it x hx).om b hb (by rw [e]; exact mb_t _ _ _ _), fun q => (h.k.it x hx).om b hb (mb_k q), fun q => (h.k.it x hx).om b hb (mb_w q)⟩, h.k.oo, h.k.ow, fun x hx => (h.k.it x hx).ln⟩
theorem EndS.drew {B t i : Nat} {kv wv : Value} {ts : List (Value × Value × List Int)} {u : World} (h : EndS B t kv wv ts i u) (n : Nat) : EndS B t kv wv ts i (u.drewN n) :=
  ⟨h.ck, h.cw, owns_same h.kr (fun b hb => rfl), owns_same h.wr (fun b hb => rfl), fun j x hj hx => ⟨owns_same (h.it j x hj hx).1 (fun b hb => rfl), view_keepP (h.it j x hj hx).2 (fun _ b hb => rfl)⟩⟩
theorem EndS.spoil {B t i : Nat} {kv wv : Value} {ts : List (Value × Value × List Int)} {u v : World} {x : Value × Value × List Int} (h : EndS B t kv wv ts i u) (k : Kpt t kv wv ts) (hx : ts[i]? = some x) (hg : u.grownBy v (Value.ownBlock x.1)) : EndS B t kv wv ts (i + 1) v := by
  have hm := List.mem_of_getElem? hx
  have hne : ∀ b, b ∉ vblk x.1 → b < u.heap.size → v.heap[b]? = u.heap[b]? := fun b hb hl => hg.block b hl (fun q => hb (by rw [vblk, ← q]; simp))
  have htl : t < u.heap.size := lt_of_cell h.ck
  have ht : v.heap[t]? = u.heap[t]? := hne t (fun q => (k.om x hm t q).1 rfl) htl
  refine ⟨(World.cell?_of_block (a := ⟨t, 18, none⟩) ht).trans h.ck, (World.cell?_of_block (a := ⟨t, 19, none⟩) ht).trans h.cw, owns_same h.kr (fun b hb => hne b (fun q => (k.om x hm b q).2.1 hb) (owns_blks h.kr b hb).2), owns_same h.wr (fun b hb => hne b (fun q => (k.om x hm b q).2.2 hb) (owns_blks h.wr b hb).2), fun j y hj hy => ?_⟩
  have hym := List.mem_of_getElem? hy
  have hi := h.it j y (by omega) hy
  have hpw : ∀ b, b ∈ vblk x.1 → b ∉ vblk y.1 := by
    have hil : i < ts.length := (List.getElem?_eq_some_iff.1 hx).1
    have hjl : j < ts.length := (List.getElem?_eq_some_iff.1 hy).1
    have := List.pairwise_iff_getElem.1 k.oo i j hil hjl (by omega)
    rw [List.getElem?_eq_getElem hil] at hx
    rw [List.getElem?_eq_getElem hjl] at hy
    injection hx with hx
    injection hy with hy
    rw [hx, hy] at this
    exact this
  exact ⟨owns_same hi.1 (fun b hb => hne b (fun q => hpw b q hb) (owns_blks hi.1 b hb).2), view_keepP hi.2 (fun e b hb => hne b (fun q => k.ow x hm y hym e b q hb) (view_blks hi.2 e b hb))⟩
def SpG (v : Value) (u : World) (e : Ending) (u' : World) : Prop := e = .returned (.tuple #[]) ∧ u.grownBy u' v.ownBlock
/-- A kept answer where it lies. -/
theorem EndS.at {B t i : Nat} {kv wv : Value} {ts : List (Value × Value × List Int)} {u : World} (h : EndS B t kv wv ts i u) (j : Nat) (hij : i ≤ j) (hj : j < ts.length) : ∃ kb kc wb wc xa xc ya yc Z, kv = .slice (some ⟨kb, 0, none⟩) ts.length kc ∧ wv = .slice (some ⟨wb, 0, none⟩) ts.length wc ∧ u.cell? ⟨kb, j, none⟩ = some (.slice xa Z.length xc) ∧ u.cell? ⟨wb, j, none⟩ = some (.slice ya Z.length yc) ∧ ts[j]? = some (.slice xa Z.length xc, .slice ya Z.length yc, Z) := by
  obtain ⟨x, hx⟩ : ∃ x, ts[j]? = some x := ⟨_, List.getElem?_eq_getElem hj⟩
  obtain ⟨x1, x2, Z⟩ := x
  have hi := h.it j _ hij hx
  obtain ⟨xa, xc, e1⟩ := owns_slice0 hi.1
  obtain ⟨ya, yc, e2, _⟩ := hi.2
  simp only at e1 e2
  subst e1 e2
  have hk : ∃ kb kc, kv = .slice (some ⟨kb, 0, none⟩) ts.length kc ∧ u.cell? ⟨kb, j, none⟩ = some (.slice xa Z.length xc) := by
    rcases h.kr.2 with ⟨_, e⟩ | ⟨b, c, cur, e, _⟩
    · omega
    · subst e
      have := h.kr.cells (g := b) rfl j (.slice xa Z.length xc) (by rw [List.getElem?_map, hx]; rfl)
      rw [Addr.add_lit, Nat.zero_add] at this
      exact ⟨b, c, rfl, this⟩
  have hw : ∃ wb wc, wv = .slice (some ⟨wb, 0, none⟩) ts.length wc ∧ u.cell? ⟨wb, j, none⟩ = some (.slice ya Z.length yc) := by
    rcases h.wr.2 with ⟨_, e⟩ | ⟨b, c, cur, e, _⟩
    · omega
    · subst e
      have := h.wr.cells (g := b) rfl j (.slice ya Z.length yc) (by rw [List.getElem?_map, hx]; rfl)
      rw [Addr.add_lit, Nat.zero_add] at this
      exact ⟨b, c, rfl, this⟩
  obtain ⟨kb, kc, hk1, hk2⟩ := hk
  obtain ⟨wb, wc, hw1, hw2⟩ := hw
  exact ⟨kb, kc, wb, wc, xa, xc, ya, yc, Z, hk1, hw1, hk2, hw2, hx⟩
set_option maxHeartbeats 6400000 in
set_option maxRecDepth 100000 in
theorem walk_f (sa : Option Addr) (sn sc : Nat) (os : Nat → OpV) (w : World) (hS : ScAt w sa sn os) (hsn : sn ≤ sc) (hsc : sc ≤ 9223372036854775807) (hT : Tbs w) :
    Calls Tryd.prog 31 #[.slice sa sn sc, .bool false] w fun e w' => e = .returned (.bool true) ∧ Below w.heap.size w w' := by
  have HS : Hid (ScAt w sa sn os) := hS
  have HT : Hid (Tbs w) := hT
  have HSZ : Hid (4 ≤ w.heap.size) := hT.t.size
  have hsi : ((sn : Nat) : Int) ≤ 9223372036854775807 := by omega
  obtain ⟨B, HB⟩ : ∃ B, Hid (w.heap.size = B) := ⟨_, rfl⟩
  have H0 : Hid (TSD (w.alloc (.cells tz.toArray 89)) w.heap.size w.heap.size false (fun _ => Sl.no) (.slice none 0 0) (.slice none 0 0) [] 65536) := tsd_start w false
  have HB0 : Hid (Below w.heap.size w (w.alloc (.cells tz.toArray 89))) := (Below.refl _ _).alloc (Nat.le_refl _) _
  have KP : Hid (∀ (o : OpV) (d : Nat → Sl) (kv wv : Value) (ts : List (Value × Value × List Int)) (left : Nat) (u : World), TSD u w.heap.size w.heap.size false d kv wv ts left → ts.length ≤ 99 → Below w.heap.size w u → (∀ v, Below w.heap.size w v → OpOk v o) → Calls Tryd.prog 48 #[.pointer (some ⟨w.heap.size, 0, none⟩), .agg o.L.toArray, .bool false] u (StepP w.heap.size w.heap.size false ts.length u)) := fun o d kv wv ts left u h hn hb ho => plays_f w.heap.size w.heap.size left d kv wv ts o.k o.a o.f o.h (.slice o.ka o.kn o.kc) o.pa o.pn o.pc o.xs o.yss u h (HT.out.below hb HSZ.out) HSZ.out hb.size hn (fun v hv => (ho v (hb.trans hv)).pv) (ho u hb).xl (ho u hb).fl (ho u hb).pb
  have KZ : Hid (∀ (k : Int) (i : Nat) (d : Nat → Sl) (kv wv : Value) (ts : List (Value × Value × List Int)) (left : Nat) (u : World), TSD u w.heap.size w.heap.size false d kv wv ts left → ts.length ≤ 99 → Below w.heap.size w u → Calls Tryd.prog 48 #[.pointer (some ⟨w.heap.size, 0, none⟩), .agg #[.int .i64 k, .int .i64 (i : Nat), .int .i64 0, .int .i64 0, .slice none 0 0, .slice none 0 0], .bool false] u (StepP w.heap.size w.heap.size false ts.length u)) := fun k i d kv wv ts left u h hn hb =>
    KP.out ⟨k, i, 0, 0, none, 0, 0, none, 0, 0, [], [], []⟩ d kv wv ts left u h hn hb (fun v _ => ⟨view_nil v, rfl, Nat.zero_le _, pv_nil v, rfl, by simp, Nat.zero_le _⟩)
  clear hS hsn hsc hT
  unfold tz at H0 HB0
  rw [HB.out] at H0 HB0 KP KZ HSZ ⊢
  go_enter Tryd.func31, Tryd.ntmps31
  go_upto_region 2 with fail
  rw [HB.out]
  generalize (w.alloc (.cells #[.pointer none, .pointer none, .pointer none, .pointer none, .pointer none, .pointer none, .int .i64 0, .bool false, .slice none 0 0, .slice none 0 0, .int .i64 0, .bool false, .slice none 0 0, .slice none 0 0, .int .i64 0, .bool false, .slice none 0 0, .slice none 0 0, .slice none 0 0, .slice none 0 0, .int .i64 65536] 89)) = w1 at H0 HB0 ⊢
  go_wp2
  go_loopw [6] (fun ii wr => ∃ i : Nat, i ≤ sn ∧ i ≤ 40 ∧ ii = .int .i64 (i : Nat) ∧ Hid (Below B w wr ∧ ∃ d kv wv ts left, ts.length ≤ 2 * i ∧ TSD wr B B false d kv wv ts left)) (fun ii _ => 40 - (intOf ii).toNat)
  case atStart => exact ⟨0, by omega, by omega, rfl, HB0.out, _, _, _, [], _, by simp, H0.out⟩
  case round =>
    obtain ⟨i, his, hi40, rfl, HR⟩ := hrel
    by_cases hlt : i < sn ∧ i < 40
    · have h1 : ((i : Nat) : Int) < ((sn : Nat) : Int) := by omega
      have h2 : ((i : Nat) : Int) < 40 := by omega
      obtain ⟨b, off, rfl, hbl, hop⟩ : ∃ b off, sa = some ⟨b, off, none⟩ ∧ b < w.heap.size ∧ ∀ i, i < sn → OpOk w (os i) ∧ w.rangeAt b (off + i * 6) (os i).L := by
        rcases HS.out with h | h
        · omega
        · exact h
      obtain ⟨OL, HOL⟩ : ∃ L, Hid (L = (os i).L) := ⟨_, rfl⟩
      have HRG : Hid (wr.rangeAt b (off + i * 6) OL) := fun j v hv => (HR.out.1.cell (p := ⟨b, off + i * 6 + j, none⟩) (by show b < B; rw [← HB.out]; exact hbl)).trans ((hop i hlt.1).2 j v (by rw [← HOL.out]; exact hv))
      have H92 : Hid ((Tryd.prog.info? 92).map (·.size) = some OL.length) := by show _ = _; rw [HOL.out]; exact size92o
      have HOP : Hid (∀ v, Below B w v → OpOk v (os i)) := fun v hv => by
        have ho := (hop i hlt.1).1
        have hvb : ∀ b, b < w.heap.size → v.heap[b]? = w.heap[b]? := fun b hb => hv.block b (by rw [← HB.out]; exact hb)
        exact ⟨ho.key.kept hvb, ho.kl, ho.kb, ho.pv.kept hvb, ho.xl, ho.fl, ho.pb⟩
      have HR2 : Hid (Below B w wr) := HR.out.1
      obtain ⟨d, kv, wv, ts, left, hl, hTs⟩ := HR.out.2
      have HTS : Hid (TSD wr B B false d kv wv ts left ∧ ts.length ≤ 2 * i) := ⟨hTs, hl⟩
      have KW : Hid (Calls Tryd.prog 48 #[.pointer (some ⟨B, 0, none⟩), .agg OL.toArray, .bool false] wr (StepP B B false ts.length wr)) := by rw [HOL.out]; exact KP.out (os i) d kv wv ts left wr hTs (by omega) HR2.out HOP.out
      clear hbl hop hl hTs
      go_wp2_with (first
        | (refine wpList_load_mid (by rfl) 92 (.tmp 25) (by rfl) b (off + i * 6) (by rfl) OL _ HRG.out Tryd.underlying92 rfl H92.out ?_)
        | (go_at_call 48; refine KW.out.mono ?_))
      intro e3 w3 hp3
      obtain ⟨rfl, ⟨d', kv', wv', ts', left', hl', hT'⟩, hb'⟩ := hp3
      have HN : Hid (Below B w w3 ∧ ∃ d kv wv ts left, ts.length ≤ 2 * (i + 1) ∧ TSD w3 B B false d kv wv ts left) := ⟨HR2.out.trans hb', d', kv', wv', ts', left', by have := HTS.out.2; omega, hT'⟩
      clear hb' hT' hl' KW
      go_wp2
      refine ⟨⟨i + 1, by omega, by omega, rfl, HN.out⟩, by simp only [intOf]; omega⟩
    · have HR1 : Hid (Below B w wr ∧ ∃ d kv wv ts left, ts.length ≤ 80 ∧ TSD wr B B false d kv wv ts left) := by
        obtain ⟨h1, d, kv, wv, ts, left, h2, h3⟩ := HR.out
        exact ⟨h1, d, kv, wv, ts, left, by omega, h3⟩
      have hend : (¬ ((i : Nat) : Int) < ((sn : Nat) : Int)) ∨ (((i : Nat) : Int) < ((sn : Nat) : Int) ∧ (40 : Int) ≤ ((i : Nat) : Int)) := by omega
      rcases hend with hend | ⟨hend, hend2⟩
      · have hle : ((sn : Nat) : Int) ≤ ((i : Nat) : Int) := by omega
        have hien : i = sn := by omega
        subst hien
        clear hlt hend
        go_wp2
        go_loopw [7] (fun ii wr => ∃ i : Nat, i ≤ 3 ∧ ii = .int .i64 (i : Nat) ∧ Hid (Below B w wr ∧ ∃ d kv wv ts left, ts.length ≤ 80 + 4 * i ∧ TSD wr B B false d kv wv ts left)) (fun ii _ => 3 - (intOf ii).toNat)
        case atStart => exact ⟨0, by omega, rfl, HR1.out⟩
        case round =>
          obtain ⟨i, hi, rfl, HQ⟩ := hrel
          by_cases hi3 : i < 3
          · have hii : ((i : Nat) : Int) < 3 := by omega
            have HQ1 : Hid (Below B w wr) := HQ.out.1
            obtain ⟨d, kv, wv, ts, left, hl, hTs⟩ := HQ.out.2
            have HTS : Hid (ts.length ≤ 80 + 4 * i) := hl
            have KW : Hid (Calls Tryd.prog 48 #[.pointer (some ⟨B, 0, none⟩), .agg #[.int .i64 3, .int .i64 (i : Nat), .int .i64 0, .int .i64 0, .slice none 0 0, .slice none 0 0], .bool false] wr (StepP B B false ts.length wr)) := KZ.out 3 i d kv wv ts left wr hTs (by omega) HQ1.out
            clear hl hTs
            go_wp2_with (first | (go_at_call 48; refine KW.out.mono ?_))
            intro e3 w3 hp3
            obtain ⟨rfl, ⟨d', kv', wv', ts', left', hl', hT'⟩, hb'⟩ := hp3
            have HB3 : Hid (Below B w w3) := HQ1.out.trans hb'
            have HL3 : Hid (ts'.length ≤ 82 + 4 * i) := by show _ ≤ _; have := HTS.out; omega
            have KW2 : Hid (Calls Tryd.prog 48 #[.pointer (some ⟨B, 0, none⟩), .agg #[.int .i64 6, .int .i64 (i : Nat), .int .i64 0, .int .i64 0, .slice none 0 0, .slice none 0 0], .bool false] w3 (StepP B B false ts'.length w3)) := KZ.out 6 i d' kv' wv' ts' left' w3 hT' (by have := HL3.out; omega) HB3.out
            clear hl' hT' hb' KW
            go_wp2_with (first | (go_at_call 48; refine KW2.out.mono ?_))
            intro e4 w4 hp4
            obtain ⟨rfl, ⟨d4, kv4, wv4, ts4, left4, hl4, hT4⟩, hb4⟩ := hp4
            have HN : Hid (Below B w w4 ∧ ∃ d kv wv ts left, ts.length ≤ 80 + 4 * (i + 1) ∧ TSD w4 B B false d kv wv ts left) := ⟨HB3.out.trans hb4, d4, kv4, wv4, ts4, left4, by have := HL3.out; omega, hT4⟩
            clear hb4 hT4 hl4 KW2
            go_wp2
            refine ⟨⟨i + 1, by omega, rfl, HN.out⟩, by simp only [intOf]; omega⟩
          · have hge : (3 : Int) ≤ ((i : Nat) : Int) := by omega
            have HQ1 : Hid (Below B w wr) := HQ.out.1
            obtain ⟨d, kv, wv, ts, left, hl, hTs⟩ := HQ.out.2
            have HK : Hid (Kpt B kv wv ts) := hTs.kpt
            have HE : Hid (EndS B B kv wv ts 0 wr) := hTs.ends
            have hBw : Hid (B ≤ wr.heap.size) := by show B ≤ _; rw [← HB.out]; exact HQ1.out.size
            obtain ⟨n, HN⟩ : ∃ n, Hid (n = ts.length) := ⟨_, rfl⟩
            have hn99 : n ≤ 99 := by rw [HN.out]; omega
            obtain ⟨ka, kc, hkv⟩ : ∃ a c, kv = .slice a n c := by rw [HN.out]; exact owns_slice0 hTs.s.kr
            clear hi hi3 hl hTs HQ
            go_wp2
            go_loopw [8] (fun ii wr => ∃ i : Nat, i ≤ n ∧ ii = .int .i64 (i : Nat) ∧ Hid (Below B w wr ∧ EndS B B kv wv ts i wr)) (fun ii _ => n - (intOf ii).toNat)
            case atStart => exact ⟨0, by omega, rfl, HQ1.out, HE.out⟩
            case round =>
              obtain ⟨i, hi, rfl, HW⟩ := hrel
              have hck : wr.cell? ⟨B, 18, none⟩ = some (.slice ka n kc) := by rw [← hkv]; exact HW.out.2.ck
              by_cases hin : i < n
              · have hii : ((i : Nat) : Int) < ((n : Nat) : Int) := by omega
                obtain ⟨kb, kc', wb, wc, xa, xc, ya, yc, Z, ek, ew, ck, cw, hx⟩ := HW.out.2.at i (Nat.le_refl _) (by rw [← HN.out]; exact hin)
                rw [← HN.out] at ek ew
                obtain ⟨L, HL⟩ : ∃ L, Hid (L = Z.length) := ⟨_, rfl⟩
                rw [← HL.out] at ck cw hx
                have hke : Value.slice ka n kc = .slice (some ⟨kb, 0, none⟩) n kc' := hkv.symm.trans ek
                injection hke with hk1 _ hk3
                subst hk1 hk3
                have hcw : wr.cell? ⟨B, 19, none⟩ = some (.slice (some ⟨wb, 0, none⟩) n wc) := by rw [← ew]; exact HW.out.2.cw
                have hit := HW.out.2.it i _ (Nat.le_refl _) hx
                have HIT : Hid (wr.ownsRow B 5 1 (.slice xa L xc) L (cellsU8 Z) ∧ View wr (.slice ya L yc) Z) := by
                  have := hit.1
                  simp only at this
                  rw [← HL.out] at this
                  exact ⟨this, hit.2⟩
                have HXX : Hid (ts[i]? = some (.slice xa L xc, .slice ya L yc, Z)) := hx
                have hL64 : L ≤ 64 := by rw [HL.out]; exact HK.out.ln _ (List.mem_of_getElem? hx)
                have KS : Hid (∀ m, Calls Tryd.prog 20 #[.slice xa L xc, .slice ya L yc] (wr.drewN m) fun e w' => e = .returned (.bool true) ∧ ∃ m', w' = (wr.drewN m).drewN m') := fun m => by
                  have h1 := same_any _ _ Z Z (wr.drewN m) (view_keepP (viewOwns HIT.out.1 HL.out.symm) (fun _ b hb => rfl)) (view_keepP HIT.out.2 (fun _ b hb => rfl))
                  rw [decide_eq_true (rfl : Z = Z)] at h1
                  exact h1
                clear hit hx ek ew hkv
                go_upto_region 15 with fail
                go_quiet ((go_at_call 20; exact Calls.quiet_of (KS.out _)))
                have HW2 : Hid (Below B w (wr.drewN nq) ∧ EndS B B kv wv ts i (wr.drewN nq)) := ⟨HW.out.1.trans (((drew_fr wr nq []).none).mono (by rw [← HB.out]; exact HW.out.1.size)), HW.out.2.drew nq⟩
                have HI2 : Hid ((wr.drewN nq).ownsRow B 5 1 (.slice xa L xc) L (cellsU8 Z)) := owns_same HIT.out.1 (fun b hb => rfl)
                have hck2 : (wr.drewN nq).cell? ⟨B, 18, none⟩ = some (.slice (some ⟨kb, 0, none⟩) n kc) := hck
                have hcx2 : (wr.drewN nq).cell? ⟨kb, i, none⟩ = some (.slice xa L xc) := ck
                clear hck hcw ck cw KS
                generalize wr.drewN nq = w5 at HW2 HI2 hck2 hcx2 ⊢
                have KSp : Hid (Calls Tryd.prog 21 #[.slice xa L xc] w5 (SpG (.slice xa L xc) w5)) := spoil_any B L _ Z w5 (by omega) (by rw [← HB.out]; exact HW2.out.1.size) HI2.out
                go_wp2_with (first | (go_at_call 21; refine KSp.out.mono ?_))
                intro e6 w6 hp6
                obtain ⟨rfl, hg6⟩ := hp6
                have H6 : Hid (Below B w w6 ∧ EndS B B kv wv ts (i + 1) w6) := by
                  refine ⟨HW2.out.1.trans ((grown_fr hg6).toBelow (fun b hb => (owns_blks HI2.out b (by simpa [vblk] using hb)).1) (by rw [← HB.out]; exact HW2.out.1.size)), HW2.out.2.spoil HK.out HXX.out hg6⟩
                clear hg6 KSp hck2 hcx2 HW HW2 HI2 HIT
                go_wp2
                go_loopw [9] (fun kk wr => ∃ k : Nat, i + 1 ≤ k ∧ k ≤ n ∧ kk = .int .i64 (k : Nat) ∧ Hid (Below B w wr ∧ EndS B B kv wv ts (i + 1) wr)) (fun kk _ => n - (intOf kk).toNat)
                case atStart => exact ⟨i + 1, by omega, by omega, by simp, H6.out⟩
                case round =>
                  obtain ⟨k, hk1, hk2, rfl, HV⟩ := hrel
                  have hck : wr.cell? ⟨B, 18, none⟩ = some kv := HV.out.2.ck
                  by_cases hkn : k < n
                  · have hki : ((k : Nat) : Int) < ((n : Nat) : Int) := by omega
                    obtain ⟨kb2, kc2, wb2, wc2, xa2, xc2, ya2, yc2, Z2, ek, ew, ck, cw, hx⟩ := HV.out.2.at k hk1 (by rw [← HN.out]; exact hkn)
                    rw [← HN.out] at ek ew
                    obtain ⟨L2, HL2⟩ : ∃ L, Hid (L = Z2.length) := ⟨_, rfl⟩
                    rw [← HL2.out] at ck cw hx
                    rw [ek] at hck
                    have hcw : wr.cell? ⟨B, 19, none⟩ = some (.slice (some ⟨wb2, 0, none⟩) n wc2) := by rw [← ew]; exact HV.out.2.cw
                    have hit := HV.out.2.it k _ hk1 hx
                    have HIT : Hid (wr.ownsRow B 5 1 (.slice xa2 L2 xc2) L2 (cellsU8 Z2) ∧ View wr (.slice ya2 L2 yc2) Z2) := by
                      have := hit.1
                      simp only at this
                      rw [← HL2.out] at this
                      exact ⟨this, hit.2⟩
                    have KS : Hid (∀ m, Calls Tryd.prog 20 #[.slice xa2 L2 xc2, .slice ya2 L2 yc2] (wr.drewN m) fun e w' => e = .returned (.bool true) ∧ ∃ m', w' = (wr.drewN m).drewN m') := fun m => by
                      have h1 := same_any _ _ Z2 Z2 (wr.drewN m) (view_keepP (viewOwns HIT.out.1 HL2.out.symm) (fun _ b hb => rfl)) (view_keepP HIT.out.2 (fun _ b hb => rfl))
                      rw [decide_eq_true (rfl : Z2 = Z2)] at h1
                      exact h1
                    clear hit hx ek ew
                    go_upto_region 21 with fail
                    go_quiet ((go_at_call 20; exact Calls.quiet_of (KS.out _)))
                    have HV2 : Hid (Below B w (wr.drewN nq) ∧ EndS B B kv wv ts (i + 1) (wr.drewN nq)) := ⟨HV.out.1.trans (((drew_fr wr nq []).none).mono (by rw [← HB.out]; exact HV.out.1.size)), HV.out.2.drew nq⟩
                    clear hck hcw ck cw KS
                    generalize wr.drewN nq = w7 at HV2 ⊢
                    go_wp2
                    refine ⟨⟨k + 1, by omega, by omega, rfl, HV2.out⟩, by simp only [intOf]; omega⟩
                  · obtain rfl : k = n := by omega
                    obtain ⟨ka3, kc3, hkv3⟩ : ∃ a c, kv = .slice a k c := by rw [HN.out]; exact owns_slice0 HV.out.2.kr
                    rw [hkv3] at hck
                    clear hk2 hkn
                    go_wp2
                    refine ⟨⟨i + 1, by omega, rfl, HV.out⟩, by simp only [intOf]; omega⟩
              · obtain rfl : i = n := by omega
                clear hi hin
                go_wp2
                go_ret
                exact ⟨rfl, HW.out.1⟩
      · clear hlt
        go_wp2
        go_loopw [7] (fun ii wr => ∃ i : Nat, i ≤ 3 ∧ ii = .int .i64 (i : Nat) ∧ Hid (Below B w wr ∧ ∃ d kv wv ts left, ts.length ≤ 80 + 4 * i ∧ TSD wr B B false d kv wv ts left)) (fun ii _ => 3 - (intOf ii).toNat)
        case atStart => exact ⟨0, by omega, rfl, HR1.out⟩
        case round =>
          obtain ⟨i, hi, rfl, HQ⟩ := hrel
          by_cases hi3 : i < 3
          · have hii : ((i : Nat) : Int) < 3 := by omega
            have HQ1 : Hid (Below B w wr) := HQ.out.1
            obtain ⟨d, kv, wv, ts, left, hl, hTs⟩ := HQ.out.2
            have HTS : Hid (ts.length ≤ 80 + 4 * i) := hl
            have KW : Hid (Calls Tryd.prog 48 #[.pointer (some ⟨B, 0, none⟩), .agg #[.int .i64 3, .int .i64 (i : Nat), .int .i64 0, .int .i64 0, .slice none 0 0, .slice none 0 0], .bool false] wr (StepP B B false ts.length wr)) := KZ.out 3 i d kv wv ts left wr hTs (by omega) HQ1.out
            clear hl hTs
            go_wp2_with (first | (go_at_call 48; refine KW.out.mono ?_))
            intro e3 w3 hp3
            obtain ⟨rfl, ⟨d', kv', wv', ts', left', hl', hT'⟩, hb'⟩ := hp3
            have HB3 : Hid (Below B w w3) := HQ1.out.trans hb'
            have HL3 : Hid (ts'.length ≤ 82 + 4 * i) := by show _ ≤ _; have := HTS.out; omega
            have KW2 : Hid (Calls Tryd.prog 48 #[.pointer (some ⟨B, 0, none⟩), .agg #[.int .i64 6, .int .i64 (i : Nat), .int .i64 0, .int .i64 0, .slice none 0 0, .slice none 0 0], .bool false] w3 (StepP B B false ts'.length w3)) := KZ.out 6 i d' kv' wv' ts' left' w3 hT' (by have := HL3.out; omega) HB3.out
            clear hl' hT' hb' KW
            go_wp2_with (first | (go_at_call 48; refine KW2.out.mono ?_))
            intro e4 w4 hp4
            obtain ⟨rfl, ⟨d4, kv4, wv4, ts4, left4, hl4, hT4⟩, hb4⟩ := hp4
            have HN : Hid (Below B w w4 ∧ ∃ d kv wv ts left, ts.length ≤ 80 + 4 * (i + 1) ∧ TSD w4 B B false d kv wv ts left) := ⟨HB3.out.trans hb4, d4, kv4, wv4, ts4, left4, by have := HL3.out; omega, hT4⟩
            clear hb4 hT4 hl4 KW2
            go_wp2
            refine ⟨⟨i + 1, by omega, rfl, HN.out⟩, by simp only [intOf]; omega⟩
          · have hge : (3 : Int) ≤ ((i : Nat) : Int) := by omega
            have HQ1 : Hid (Below B w wr) := HQ.out.1
            obtain ⟨d, kv, wv, ts, left, hl, hTs⟩ := HQ.out.2
            have HK : Hid (Kpt B kv wv ts) := hTs.kpt
            have HE : Hid (EndS B B kv wv ts 0 wr) := hTs.ends
            have hBw : Hid (B ≤ wr.heap.size) := by show B ≤ _; rw [← HB.out]; exact HQ1.out.size
            obtain ⟨n, HN⟩ : ∃ n, Hid (n = ts.length) := ⟨_, rfl⟩
            have hn99 : n ≤ 99 := by rw [HN.out]; omega
            obtain ⟨ka, kc, hkv⟩ : ∃ a c, kv = .slice a n c := by rw [HN.out]; exact owns_slice0 hTs.s.kr
            clear hi hi3 hl hTs HQ
            go_wp2
            go_loopw [8] (fun ii wr => ∃ i : Nat, i ≤ n ∧ ii = .int .i64 (i : Nat) ∧ Hid (Below B w wr ∧ EndS B B kv wv ts i wr)) (fun ii _ => n - (intOf ii).toNat)
            case atStart => exact ⟨0, by omega, rfl, HQ1.out, HE.out⟩
            case round =>
              obtain ⟨i, hi, rfl, HW⟩ := hrel
              have hck : wr.cell? ⟨B, 18, none⟩ = some (.slice ka n kc) := by rw [← hkv]; exact HW.out.2.ck
              by_cases hin : i < n
              · have hii : ((i : Nat) : Int) < ((n : Nat) : Int) := by omega
                obtain ⟨kb, kc', wb, wc, xa, xc, ya, yc, Z, ek, ew, ck, cw, hx⟩ := HW.out.2.at i (Nat.le_refl _) (by rw [← HN.out]; exact hin)
                rw [← HN.out] at ek ew
                obtain ⟨L, HL⟩ : ∃ L, Hid (L = Z.length) := ⟨_, rfl⟩
                rw [← HL.out] at ck cw hx
                have hke : Value.slice ka n kc = .slice (some ⟨kb, 0, none⟩) n kc' := hkv.symm.trans ek
                injection hke with hk1 _ hk3
                subst hk1 hk3
                have hcw : wr.cell? ⟨B, 19, none⟩ = some (.slice (some ⟨wb, 0, none⟩) n wc) := by rw [← ew]; exact HW.out.2.cw
                have hit := HW.out.2.it i _ (Nat.le_refl _) hx
                have HIT : Hid (wr.ownsRow B 5 1 (.slice xa L xc) L (cellsU8 Z) ∧ View wr (.slice ya L yc) Z) := by
                  have := hit.1
                  simp only at this
                  rw [← HL.out] at this
                  exact ⟨this, hit.2⟩
                have HXX : Hid (ts[i]? = some (.slice xa L xc, .slice ya L yc, Z)) := hx
                have hL64 : L ≤ 64 := by rw [HL.out]; exact HK.out.ln _ (List.mem_of_getElem? hx)
                have KS : Hid (∀ m, Calls Tryd.prog 20 #[.slice xa L xc, .slice ya L yc] (wr.drewN m) fun e w' => e = .returned (.bool true) ∧ ∃ m', w' = (wr.drewN m).drewN m') := fun m => by
                  have h1 := same_any _ _ Z Z (wr.drewN m) (view_keepP (viewOwns HIT.out.1 HL.out.symm) (fun _ b hb => rfl)) (view_keepP HIT.out.2 (fun _ b hb => rfl))
                  rw [decide_eq_true (rfl : Z = Z)] at h1
                  exact h1
                clear hit hx ek ew hkv
                go_upto_region 15 with fail
                go_quiet ((go_at_call 20; exact Calls.quiet_of (KS.out _)))
                have HW2 : Hid (Below B w (wr.drewN nq) ∧ EndS B B kv wv ts i (wr.drewN nq)) := ⟨HW.out.1.trans (((drew_fr wr nq []).none).mono (by rw [← HB.out]; exact HW.out.1.size)), HW.out.2.drew nq⟩
                have HI2 : Hid ((wr.drewN nq).ownsRow B 5 1 (.slice xa L xc) L (cellsU8 Z)) := owns_same HIT.out.1 (fun b hb => rfl)
                have hck2 : (wr.drewN nq).cell? ⟨B, 18, none⟩ = some (.slice (some ⟨kb, 0, none⟩) n kc) := hck
                have hcx2 : (wr.drewN nq).cell? ⟨kb, i, none⟩ = some (.slice xa L xc) := ck
                clear hck hcw ck cw KS
                generalize wr.drewN nq = w5 at HW2 HI2 hck2 hcx2 ⊢
                have KSp : Hid (Calls Tryd.prog 21 #[.slice xa L xc] w5 (SpG (.slice xa L xc) w5)) := spoil_any B L _ Z w5 (by omega) (by rw [← HB.out]; exact HW2.out.1.size) HI2.out
                go_wp2_with (first | (go_at_call 21; refine KSp.out.mono ?_))
                intro e6 w6 hp6
                obtain ⟨rfl, hg6⟩ := hp6
                have H6 : Hid (Below B w w6 ∧ EndS B B kv wv ts (i + 1) w6) := by
                  refine ⟨HW2.out.1.trans ((grown_fr hg6).toBelow (fun b hb => (owns_blks HI2.out b (by simpa [vblk] using hb)).1) (by rw [← HB.out]; exact HW2.out.1.size)), HW2.out.2.spoil HK.out HXX.out hg6⟩
                clear hg6 KSp hck2 hcx2 HW HW2 HI2 HIT
                go_wp2
                go_loopw [9] (fun kk wr => ∃ k : Nat, i + 1 ≤ k ∧ k ≤ n ∧ kk = .int .i64 (k : Nat) ∧ Hid (Below B w wr ∧ EndS B B kv wv ts (i + 1) wr)) (fun kk _ => n - (intOf kk).toNat)
                case atStart => exact ⟨i + 1, by omega, by omega, by simp, H6.out⟩
                case round =>
                  obtain ⟨k, hk1, hk2, rfl, HV⟩ := hrel
                  have hck : wr.cell? ⟨B, 18, none⟩ = some kv := HV.out.2.ck
                  by_cases hkn : k < n
                  · have hki : ((k : Nat) : Int) < ((n : Nat) : Int) := by omega
                    obtain ⟨kb2, kc2, wb2, wc2, xa2, xc2, ya2, yc2, Z2, ek, ew, ck, cw, hx⟩ := HV.out.2.at k hk1 (by rw [← HN.out]; exact hkn)
                    rw [← HN.out] at ek ew
                    obtain ⟨L2, HL2⟩ : ∃ L, Hid (L = Z2.length) := ⟨_, rfl⟩
                    rw [← HL2.out] at ck cw hx
                    rw [ek] at hck
                    have hcw : wr.cell? ⟨B, 19, none⟩ = some (.slice (some ⟨wb2, 0, none⟩) n wc2) := by rw [← ew]; exact HV.out.2.cw
                    have hit := HV.out.2.it k _ hk1 hx
                    have HIT : Hid (wr.ownsRow B 5 1 (.slice xa2 L2 xc2) L2 (cellsU8 Z2) ∧ View wr (.slice ya2 L2 yc2) Z2) := by
                      have := hit.1
                      simp only at this
                      rw [← HL2.out] at this
                      exact ⟨this, hit.2⟩
                    have KS : Hid (∀ m, Calls Tryd.prog 20 #[.slice xa2 L2 xc2, .slice ya2 L2 yc2] (wr.drewN m) fun e w' => e = .returned (.bool true) ∧ ∃ m', w' = (wr.drewN m).drewN m') := fun m => by
                      have h1 := same_any _ _ Z2 Z2 (wr.drewN m) (view_keepP (viewOwns HIT.out.1 HL2.out.symm) (fun _ b hb => rfl)) (view_keepP HIT.out.2 (fun _ b hb => rfl))
                      rw [decide_eq_true (rfl : Z2 = Z2)] at h1
                      exact h1
                    clear hit hx ek ew
                    go_upto_region 21 with fail
                    go_quiet ((go_at_call 20; exact Calls.quiet_of (KS.out _)))
                    have HV2 : Hid (Below B w (wr.drewN nq) ∧ EndS B B kv wv ts (i + 1) (wr.drewN nq)) := ⟨HV.out.1.trans (((drew_fr wr nq []).none).mono (by rw [← HB.out]; exact HV.out.1.size)), HV.out.2.drew nq⟩
                    clear hck hcw ck cw KS
                    generalize wr.drewN nq = w7 at HV2 ⊢
                    go_wp2
                    refine ⟨⟨k + 1, by omega, by omega, rfl, HV2.out⟩, by simp only [intOf]; omega⟩
                  · obtain rfl : k = n := by omega
                    obtain ⟨ka3, kc3, hkv3⟩ : ∃ a c, kv = .slice a k c := by rw [HN.out]; exact owns_slice0 HV.out.2.kr
                    rw [hkv3] at hck
                    clear hk2 hkn
                    go_wp2
                    refine ⟨⟨i + 1, by omega, rfl, HV.out⟩, by simp only [intOf]; omega⟩
              · obtain rfl : i = n := by omega
                clear hi hin
                go_wp2
                go_ret
                exact ⟨rfl, HW.out.1⟩
end Go.Proofs.YtioggmjocelolacDoor
namespace Go.Proofs.YtioggmjocelolacDoor
open Go.RowKit
set_option linter.unusedVariables false
set_option linter.unusedSimpArgs false
theorem OpOk.kept {w v : World} {o : OpV} (h : OpOk w o) (hb : ∀ b, b < w.heap.size → v.heap[b]? = w.heap[b]?) : OpOk v o := ⟨h.key.kept hb, h.kl, h.kb, h.pv.kept hb, h.xl, h.fl, h.pb⟩
theorem ScAt.below {w v : World} {sa : Option Addr} {sn : Nat} {os : Nat → OpV} (h : ScAt w sa sn os) (hb : Below w.heap.size w v) : ScAt v sa sn os := by
  rcases h with h | ⟨b, off, rfl, hl, h⟩
  · exact .inl h
  · exact .inr ⟨b, off, rfl, Nat.lt_of_lt_of_le hl hb.size, fun i hi => ⟨(h i hi).1.kept hb.block, fun j v hv => (hb.cell (p := ⟨b, off + i * 6 + j, none⟩) hl).trans ((h i hi).2 j v hv)⟩⟩
set_option maxHeartbeats 1600000 in
set_option maxRecDepth 100000 in
theorem streams_ok (sa : Option Addr) (sn sc : Nat) (os : Nat → OpV) (w : World) (hS : ScAt w sa sn os) (hsn : sn ≤ sc) (hsc : sc ≤ 9223372036854775807) (hT : Tbs w) :
    Calls Tryd.prog 7 #[.slice sa sn sc] w fun e w' => e = .returned (.bool true) ∧ Below w.heap.size w w' := by
  have KN : Hid (Calls Tryd.prog 29 #[.int .i64 256] w (NewG w 256)) := new_good 256 w (.inr (.inl rfl)) hT.t
  have HS : Hid (ScAt w sa sn os) := hS
  have HT : Hid (Tbs w) := hT
  have HL : Hid (sn ≤ sc ∧ sc ≤ 9223372036854775807) := ⟨hsn, hsc⟩
  clear hS hsn hsc hT
  go_enter Tryd.func7, Tryd.ntmps7
  go_wp2_with (first | (go_at_call 29; refine KN.out.mono ?_))
  intro e1 w1 hp1
  obtain ⟨g, rfl, hg, hr, hb⟩ := hp1
  have HB : Hid (Below w.heap.size w w1) := hb
  have KZ : Hid (Calls Tryd.prog 30 #[.pointer (some ⟨g, 0, none⟩)] w1 fun e w' => e = .returned (.int .i64 32) ∧ w' = w1) := by
    obtain ⟨half, hk, _⟩ := hr
    exact ssize g 256 w1 (.inr (.inl rfl)) hk.hash
  have KW : Hid (Calls Tryd.prog 31 #[.slice sa sn sc, .bool false] w1 fun e w' => e = .returned (.bool true) ∧ Below w1.heap.size w1 w') := walk_f sa sn sc os w1 (HS.out.below hb) HL.out.1 HL.out.2 (HT.out.below hb HT.out.t.size)
  clear hg hr hb KN
  go_wp2_with (first
    | (go_at_call 11; refine (num_u _ _).mono ?_; rintro e9 w9 ⟨rfl, hw9⟩; obtain rfl := hw9.symm)
    | (go_at_call 30; refine KZ.out.mono ?_; rintro e9 w9 ⟨rfl, hw9⟩; obtain rfl := hw9.symm)
    | (go_at_call 31; refine KW.out.mono ?_))
  rintro e2 w2 ⟨rfl, hb2⟩
  have HE : Hid (Below w.heap.size w w2) := HB.out.trans (hb2.mono HB.out.size)
  clear hb2 KW KZ
  go_wp2
  go_ret
  exact ⟨rfl, HE.out⟩
end Go.Proofs.YtioggmjocelolacDoor
namespace Go.Proofs.YtioggmjocelolacDoor
open Go.Deep Go.ChangeShapes Go.WideShapes Go.ChangeAt Go.RowKit
set_option linter.unusedVariables false
theorem und48 : Tryd.prog.underlying 48 = some (.slice 92) := by kernel_rfl
theorem cells92 : Tryd.prog.cellsOf 92 = 6 := by kernel_rfl
theorem cells40 : Tryd.prog.cellsOf 40 = 1 := by kernel_rfl
theorem bulk_mem {H : Type} (l : List (DataW H)) (x : DataW H) (h : x ∈ l) : Rows.uptoBulk x ≤ Rows.uptoBulkAll l := by
  induction l with
  | nil => cases h
  | cons y l ih =>
    simp only [Rows.uptoBulkAll]
    rcases List.mem_cons.1 h with rfl | h
    · omega
    · have := ih h
      omega
set_option maxRecDepth 100000 in
/-- A script that came in. -/
theorem open_script {H : Type} {enc : TypeId × Value → H} {W : World} {a : Option Addr} {n c : Nat} {d : DataW H} {p : List MemPlace}
    (h : DataW.Trod enc Tryd.prog W 0 (fun _ => true) true 48 (.slice a n c) d p) (hd : Rows.uptoBulk d ≤ 1048576) : (∃ os, ScAt W a n os) ∧ n ≤ c ∧ c ≤ 9223372036854775807 := by
  obtain ⟨fuel, hf⟩ := h
  rcases open_slice und48 hf with ⟨hcs, hx⟩ | ⟨a', len, cap, m, k, D, Pl, hcs, hb, hl, hm, hmm, hx, hc⟩
  · simp [Value.cells] at hcs
    obtain ⟨rfl, rfl, rfl⟩ := hcs
    exact ⟨⟨fun _ => ⟨0, 0, 0, 0, none, 0, 0, none, 0, 0, [], [], []⟩, .inl rfl⟩, Nat.le_refl _, by omega⟩
  · simp [Value.cells] at hcs
    obtain ⟨rfl, rfl, rfl⟩ := hcs
    simp only [if_true] at hmm
    subst hmm
    simp only [Prod.mk.injEq] at hx
    obtain ⟨rfl, _⟩ := hx
    refine ⟨?_, hl, by unfold maxLen at hm; omega⟩
    by_cases h0 : n = 0
    · exact ⟨fun _ => ⟨0, 0, 0, 0, none, 0, 0, none, 0, 0, [], [], []⟩, .inl h0⟩
    · obtain ⟨b, off, spot⟩ := a'
      have hspot : spot = none := by
        obtain ⟨cs0, z1, _⟩ := hc 0 (by omega)
        rw [cells92] at z1
        obtain ⟨_, zl, zc⟩ := World.cells?_some z1
        have q := zc 0 (by omega)
        have hz : ∃ u, cs0[0]? = some u := ⟨_, List.getElem?_eq_getElem (by omega)⟩
        obtain ⟨u, hz⟩ := hz
        rw [hz] at q
        simpa [Addr.add] using World.cell?_spot q
      subst hspot
      have hone : ∀ i, i < n → ∃ o : OpV, OpOk W o ∧ W.rangeAt b (off + i * 6) o.L := fun i hi => by
        have hDi : Rows.uptoBulk (D i) ≤ 1048576 := by
          have q := bulk_mem ((List.range n).map D) (D i) (List.mem_map.2 ⟨i, List.mem_range.2 hi, rfl⟩)
          simp only [Rows.uptoBulk] at hd
          omega
        obtain ⟨cs', h1, h2⟩ := hc i (by omega)
        rw [cells92] at h1
        obtain ⟨_, hlen, hcell⟩ := World.cells?_some h1
        obtain ⟨ys, k2, _, hx, _, hyl, hfs⟩ := DataW.trod_struct Tryd.underlying92 h2
        match cs', hlen with
        | [v0, v1, v2, v3, v4, v5], _ =>
          match ys, hyl with
          | [y0, y1, y2, y3, y4, y5], _ =>
            have k0 := hfs 0 _ rfl
            have k1 := hfs 1 _ rfl
            have k2 := hfs 2 _ rfl
            have k3 := hfs 3 _ rfl
            have k4 := hfs 4 _ rfl
            have k5 := hfs 5 _ rfl
            simp [cells3, cells22, cells40] at k0 k1 k2 k3 k4 k5
            obtain ⟨i0, rfl⟩ := cell_int k0
            obtain ⟨i1, rfl⟩ := cell_int k1
            obtain ⟨i2, rfl⟩ := cell_int k2
            obtain ⟨i3, rfl⟩ := cell_int k3
            obtain ⟨key, vK, bK⟩ := one_bytes (d := y4.1) (p := y4.2) k4
            obtain ⟨ka, kc, ek, _⟩ := id vK
            have hxs : ∃ xa xn xc, v5 = .slice xa xn xc := by
              rcases open_slice1 und56 cells22 k5 with ⟨q, _⟩ | ⟨a2, l2, c2, _, _, _, _, _, q, _⟩
              · exact ⟨_, _, _, by simpa using q⟩
              · exact ⟨_, _, _, by simpa using q⟩
            obtain ⟨xa, xn, xc, rfl⟩ := hxs
            obtain ⟨xs, yss, hxn, hpv, b1, b2⟩ := open_parts (enc := enc) (W := W) (a := xa) (n := xn) (c := xc) (d := y5.1) (p := y5.2) ⟨_, by simpa [Value.cells] using k5⟩
            have hDe : D i = .agg [y0.1, y1.1, y2.1, y3.1, y4.1, y5.1] := by simpa using congrArg Prod.fst hx
            rw [hDe] at hDi
            simp only [Rows.uptoBulk, Rows.uptoBulkAll] at hDi
            subst ek
            refine ⟨⟨i0, i1, i2, i3, ka, key.length, kc, xa, xn, xc, key, xs, yss⟩, ⟨vK, rfl, ?_, hpv, hxn, ?_, ?_⟩, fun j v hv => ?_⟩
            · show key.length ≤ 1048576
              omega
            · show yss.flatten.length ≤ 1048576
              omega
            · show xn ≤ 1048576
              omega
            · have hj : j < 6 := (List.getElem?_eq_some_iff.1 hv).1
              have q := hcell j hj
              rw [Addr.add_lit, Addr.add_lit] at q
              rw [q]
              exact hv
      refine ⟨fun i => if h : i < n then (hone i h).choose else ⟨0, 0, 0, 0, none, 0, 0, none, 0, 0, [], [], []⟩, .inr ⟨b, off, rfl, ?_, fun i hi => ?_⟩⟩
      · obtain ⟨o, _, hr⟩ := hone 0 (by omega)
        exact lt_of_cell (hr 0 _ rfl)
      · simp only [dif_pos hi]
        exact (hone i hi).choose_spec
end Go.Proofs.YtioggmjocelolacDoor
