import Derived.Test.YtioggmjocelolacDoorPart07
import Derived.Deep.AppendLies
namespace Go.Proofs.YtioggmjocelolacDoor
open Go.RowKit
set_option linter.unusedVariables false
set_option linter.unusedSimpArgs false
def vblk (x : Value) : List Nat := (Value.ownBlock x).toList
/-- Only blocks of a list, and new ones, changed. -/
structure Fr (w v : World) (l : List Nat) : Prop where
  os : v.os = w.os
  tape : v.tape = w.tape
  output : v.output = w.output
  size : w.heap.size ≤ v.heap.size
  block : ∀ b, b < w.heap.size → b ∉ l → v.heap[b]? = w.heap[b]?
theorem Fr.refl (w : World) (l : List Nat) : Fr w w l := ⟨rfl, rfl, rfl, Nat.le_refl _, fun _ _ _ => rfl⟩
theorem Fr.mono {w v : World} {l l' : List Nat} (h : Fr w v l) (hl : ∀ b, b ∈ l → b ∈ l') : Fr w v l' := ⟨h.os, h.tape, h.output, h.size, fun b hb hn => h.block b hb (fun e => hn (hl b e))⟩
/-- What is changed later was in the list, or was new. -/
theorem Fr.late {w u v : World} {l l' : List Nat} (h : Fr w u l) (k : Fr u v l') (hn : ∀ b, b ∈ l' → b ∈ l ∨ w.heap.size ≤ b) : Fr w v l :=
  ⟨k.os.trans h.os, k.tape.trans h.tape, k.output.trans h.output, Nat.le_trans h.size k.size, fun b hb hx => (k.block b (Nat.lt_of_lt_of_le hb h.size) (fun e => by rcases hn b e with q | q; exact hx q; omega)).trans (h.block b hb hx)⟩
theorem Fr.trans {w u v : World} {l : List Nat} (h : Fr w u l) (k : Fr u v l) : Fr w v l := h.late k fun b hb => .inl hb
theorem below_fr {w v : World} (h : Below w.heap.size w v) (l : List Nat) : Fr w v l := ⟨h.os, h.tape, h.output, h.size, fun b hb _ => h.block b hb⟩
theorem touch_fr {w v : World} {g o n : Nat} (h : Touch w v g o n) : Fr w v [g] := ⟨h.os, h.tape, h.output, h.size, fun b hb hn => h.block b hb (fun e => hn (List.mem_singleton.2 e))⟩
theorem grown_fr {w v : World} {x : Option Nat} (h : w.grownBy v x) : Fr w v x.toList := ⟨h.os, h.tape, h.output, h.size, fun b hb hn => h.block b hb (fun e => hn (by rw [← e]; exact List.mem_singleton.2 rfl))⟩
theorem Fr.toBelow {w v : World} {l : List Nat} (h : Fr w v l) {B : Nat} (hl : ∀ b, b ∈ l → B ≤ b) (hB : B ≤ w.heap.size) : Below B w v := ⟨h.os, h.tape, h.output, h.size, fun q hq => h.block q (by omega) (fun e => by have := hl q e; omega)⟩
theorem Fr.none {w v : World} (h : Fr w v []) : Below w.heap.size w v := h.toBelow (fun b hb => by cases hb) (Nat.le_refl _)
theorem set_fr (w : World) (b o : Nat) (x : Value) : Fr w (w.setCell ⟨b, o, none⟩ x) [b] :=
  ⟨rfl, rfl, rfl, by simp [World.setCell], fun q hq hn => World.heap_setCells_other w b o [x] hq (fun e => hn (List.mem_singleton.2 e))⟩
theorem drew_fr (w : World) (n : Nat) (l : List Nat) : Fr w (w.drewN n) l := ⟨rfl, rfl, rfl, Nat.le_refl _, fun _ _ _ => rfl⟩
def Same (w v : World) (l : List Nat) : Prop := ∀ b, b ∈ l → v.heap[b]? = w.heap[b]?
theorem owns_same {w v : World} {B e s n : Nat} {x : Value} {cs : List Value} (h : w.ownsRow B e s x n cs) (hb : Same w v (vblk x)) : v.ownsRow B e s x n cs := by
  refine ⟨h.1, ?_⟩
  rcases h.2 with hn | ⟨g, cap, cur, rfl, h1, h2, r⟩
  · exact .inl hn
  · exact .inr ⟨g, cap, cur, rfl, h1, (hb g (by simp [vblk, Value.ownBlock])).trans h2, r⟩
theorem view_keepP {w v : World} {y : Value} {zs : List Int} (h : View w y zs) (hb : zs ≠ [] → ∀ b, b ∈ vblk y → v.heap[b]? = w.heap[b]?) : View v y zs := by
  obtain ⟨a, c, e, h1, h2, h3, h4⟩ := h
  refine ⟨a, c, e, h1, h2, h3, ?_⟩
  rcases h4 with h4 | ⟨b, off, rfl, h5⟩
  · exact .inl h4
  · by_cases h0 : zs = []
    · exact .inl h0
    · refine .inr ⟨b, off, rfl, fun i hi => ?_⟩
      rw [World.cell?_of_block (a := ⟨b, off + i, none⟩) (hb h0 b (by rw [e]; simp [vblk, Value.ownBlock]))]
      exact h5 i hi
theorem view_blks {w : World} {y : Value} {zs : List Int} (h : View w y zs) (h0 : zs ≠ []) : ∀ b, b ∈ vblk y → b < w.heap.size := by
  obtain ⟨a, c, rfl, h1, h2, h3, h4⟩ := h
  rcases h4 with h4 | ⟨b, off, rfl, h5⟩
  · exact absurd h4 h0
  · intro b' hb
    simp [vblk, Value.ownBlock] at hb
    subst hb
    have : 0 < zs.length := List.length_pos_iff.2 h0
    exact lt_of_cell (h5 0 this)
theorem owns_blks {w : World} {B e s n : Nat} {x : Value} {cs : List Value} (h : w.ownsRow B e s x n cs) : ∀ b, b ∈ vblk x → B ≤ b ∧ b < w.heap.size := fun b hb => h.lt b (by simpa [vblk] using hb)
/-- An object: a stream or a Mac. -/
def Obj (mc : Bool) (w : World) (g : Nat) (h : Int) (key zs : List Int) : Prop := if mc = true then MRep w g h (stateOf h key 54) (stateOf h key 92) zs else Rep w g 0 h (wdOf h) (firstE h) 0 zs
theorem TK.same {w v : World} {g o : Nat} {h : Int} {wd : Bool} {s : Eight} {half : Nat → Int} {fed : Nat} (k : TK w g o h wd s half fed) (e : v.heap[g]? = w.heap[g]?) : TK v g o h wd s half fed := by
  have hc : ∀ j, v.cell? ⟨g, j, none⟩ = w.cell? ⟨g, j, none⟩ := fun j => World.cell?_of_block (a := ⟨g, j, none⟩) e
  have hf : ∀ j, v.frozen? ⟨g, j, none⟩ = w.frozen? ⟨g, j, none⟩ := fun j => World.frozen?_of_block (a := ⟨g, j, none⟩) e
  exact ⟨(hc _).trans k.hash, (hc _).trans k.fn, fun j x hx => (hc _).trans (k.st j x hx), fun i hi => (hc _).trans (k.half i hi), (hc _).trans k.fed, fun j hj => by rw [hc, hf]; exact k.there j hj⟩
theorem Rep.same {w v : World} {g o : Nat} {h : Int} {wd : Bool} {s : Eight} {f0 : Nat} {zs : List Int} (k : Rep w g o h wd s f0 zs) (e : v.heap[g]? = w.heap[g]?) : Rep v g o h wd s f0 zs := by
  obtain ⟨half, hk, h1, h2⟩ := k
  exact ⟨half, hk.same e, h1, h2⟩
theorem MacAt.same {w v : World} {g : Nat} {si so : Eight} (m : MacAt w g si so) (e : v.heap[g]? = w.heap[g]?) : MacAt v g si so := by
  have hc : ∀ j, v.cell? ⟨g, j, none⟩ = w.cell? ⟨g, j, none⟩ := fun j => World.cell?_of_block (a := ⟨g, j, none⟩) e
  have hf : ∀ j, v.frozen? ⟨g, j, none⟩ = w.frozen? ⟨g, j, none⟩ := fun j => World.frozen?_of_block (a := ⟨g, j, none⟩) e
  exact ⟨fun j x hx => (hc _).trans (m.inner j x hx), fun j x hx => (hc _).trans (m.outer j x hx), fun j hj => by rw [hc, hf]; exact m.there j hj⟩
theorem Obj.same {mc : Bool} {w v : World} {g : Nat} {h : Int} {key zs : List Int} (k : Obj mc w g h key zs) (e : v.heap[g]? = w.heap[g]?) : Obj mc v g h key zs := by
  unfold Obj at *
  split
  · rename_i hm; rw [if_pos hm] at k; exact ⟨k.1.same e, k.2.same e⟩
  · rename_i hm; rw [if_neg hm] at k; exact k.same e
theorem Obj.lt {mc : Bool} {w : World} {g : Nat} {h : Int} {key zs : List Int} (k : Obj mc w g h key zs) : g < w.heap.size := by
  unfold Obj at k
  split at k
  · exact k.1.lt
  · exact k.lt
/-- One of the three, as the document and the program know it. -/
structure Sl where
  g : Option Nat
  h : Int
  kd : Bool
  key : List Int
  zs : List Int
  kv : Value
  bv : Value
def Sl.no : Sl := ⟨none, 0, false, [], [], .slice none 0 0, .slice none 0 0⟩
def gp : Option Nat → Value
  | none => .pointer none
  | some g => .pointer (some ⟨g, 0, none⟩)
structure SlAt (w : World) (B : Nat) (mc : Bool) (s : Sl) : Prop where
  nil : s.g = none → s = Sl.no
  obj : ∀ g, s.g = some g → Known s.h ∧ s.kd = mc ∧ B ≤ g ∧ Obj mc w g s.h s.key s.zs
  kv : View w s.kv s.key
  bv : View w s.bv s.zs
  kl : s.key.length ≤ 65536
/-- What is written. -/
def Mb (t : Nat) (d : Nat → Sl) (kv wv : Value) : List Nat := [t] ++ ((d 0).g.toList ++ ((d 1).g.toList ++ ((d 2).g.toList ++ (vblk kv ++ vblk wv))))
theorem mb_t (t : Nat) (d : Nat → Sl) (kv wv : Value) : t ∈ Mb t d kv wv := by simp [Mb]
theorem mb_g {t : Nat} {d : Nat → Sl} {kv wv : Value} {i g : Nat} (hi : i < 3) (h : (d i).g = some g) : g ∈ Mb t d kv wv := by
  have : i = 0 ∨ i = 1 ∨ i = 2 := by omega
  rcases this with rfl | rfl | rfl <;> simp [Mb, h]
theorem mb_k {t : Nat} {d : Nat → Sl} {kv wv : Value} {b : Nat} (h : b ∈ vblk kv) : b ∈ Mb t d kv wv := by simp [Mb, h]
theorem mb_w {t : Nat} {d : Nat → Sl} {kv wv : Value} {b : Nat} (h : b ∈ vblk wv) : b ∈ Mb t d kv wv := by simp [Mb, h]
/-- All of it lies apart. -/
structure Apt (t : Nat) (d : Nat → Sl) (kv wv : Value) : Prop where
  gg : ∀ i j, i < 3 → j < 3 → i ≠ j → ∀ g, (d i).g = some g → (d j).g ≠ some g
  gt : ∀ i, i < 3 → (d i).g ≠ some t
  kt : t ∉ vblk kv
  wt : t ∉ vblk wv
  gk : ∀ i, i < 3 → ∀ g, (d i).g = some g → g ∉ vblk kv
  gw : ∀ i, i < 3 → ∀ g, (d i).g = some g → g ∉ vblk wv
  kw : ∀ b, b ∈ vblk kv → b ∉ vblk wv
structure TS (w : World) (B t : Nat) (mc : Bool) (d : Nat → Sl) (kv wv : Value) (n : Nat) (ks ws : List Value) (left : Nat) : Prop where
  cs : ∀ i, i < 3 → w.cell? ⟨t, i, none⟩ = some (if mc = true then .pointer none else gp (d i).g)
  cm : ∀ i, i < 3 → w.cell? ⟨t, 3 + i, none⟩ = some (if mc = true then gp (d i).g else .pointer none)
  fh : ∀ i, i < 3 → w.cell? ⟨t, 6 + i * 4, none⟩ = some (.int .i64 (d i).h)
  fd : ∀ i, i < 3 → w.cell? ⟨t, 6 + i * 4 + 1, none⟩ = some (.bool (d i).kd)
  fk : ∀ i, i < 3 → w.cell? ⟨t, 6 + i * 4 + 2, none⟩ = some (d i).kv
  fb : ∀ i, i < 3 → w.cell? ⟨t, 6 + i * 4 + 3, none⟩ = some (d i).bv
  ck : w.cell? ⟨t, 18, none⟩ = some kv
  cw : w.cell? ⟨t, 19, none⟩ = some wv
  cl : w.cell? ⟨t, 20, none⟩ = some (.int .i64 (left : Nat))
  there : w.there t 0 21
  sl : ∀ i, i < 3 → SlAt w B mc (d i)
  kr : w.ownsRow B 22 1 kv n ks
  wr : w.ownsRow B 22 1 wv n ws
  tB : B ≤ t
  ap : Apt t d kv wv
  rb : ∀ i, i < 3 → (d i).zs ≠ [] → ∀ b, b ∈ vblk (d i).bv → b ∉ Mb t d kv wv
  rk : ∀ i, i < 3 → (d i).key ≠ [] → ∀ b, b ∈ vblk (d i).kv → b ∉ Mb t d kv wv
  zl : ∀ i, i < 3 → (d i).zs.length + left ≤ 65536
theorem TS.lt {w : World} {B t n left : Nat} {mc : Bool} {d : Nat → Sl} {kv wv : Value} {ks ws : List Value} (s : TS w B t mc d kv wv n ks ws left) : ∀ b, b ∈ Mb t d kv wv → B ≤ b ∧ b < w.heap.size := by
  intro b hb
  have hg : ∀ i, i < 3 → b ∈ (d i).g.toList → B ≤ b ∧ b < w.heap.size := fun i hi h => by
    cases e : (d i).g with
    | none => rw [e] at h; cases h
    | some g =>
      rw [e] at h
      obtain rfl : b = g := by simpa using h
      obtain ⟨_, _, h3, h4⟩ := (s.sl i hi).obj b e
      exact ⟨h3, h4.lt⟩
  simp only [Mb, List.mem_append, List.mem_singleton] at hb
  rcases hb with rfl | hb | hb | hb | hb | hb
  · exact ⟨s.tB, lt_of_cell s.ck⟩
  · exact hg 0 (by omega) hb
  · exact hg 1 (by omega) hb
  · exact hg 2 (by omega) hb
  · exact owns_blks s.kr b hb
  · exact owns_blks s.wr b hb
theorem SlAt.keep {w v : World} {B : Nat} {mc : Bool} {s : Sl} (h : SlAt w B mc s) (hg : ∀ g, s.g = some g → v.heap[g]? = w.heap[g]?) (hk : s.key ≠ [] → ∀ b, b ∈ vblk s.kv → v.heap[b]? = w.heap[b]?) (hb : s.zs ≠ [] → ∀ b, b ∈ vblk s.bv → v.heap[b]? = w.heap[b]?) : SlAt v B mc s :=
  ⟨h.nil, fun g e => by obtain ⟨h1, h2, h3, h4⟩ := h.obj g e; exact ⟨h1, h2, h3, h4.same (hg g e)⟩, view_keepP h.kv hk, view_keepP h.bv hb, h.kl⟩
theorem mb_mem {t : Nat} {d : Nat → Sl} {kv wv : Value} {b : Nat} (h : b ∈ Mb t d kv wv) : b = t ∨ (∃ i, i < 3 ∧ (d i).g = some b) ∨ b ∈ vblk kv ∨ b ∈ vblk wv := by
  simp only [Mb, List.mem_append, List.mem_singleton, Option.mem_toList] at h
  rcases h with h | h | h | h | h | h
  · exact .inl h
  · exact .inr (.inl ⟨0, by omega, h⟩)
  · exact .inr (.inl ⟨1, by omega, h⟩)
  · exact .inr (.inl ⟨2, by omega, h⟩)
  · exact .inr (.inr (.inl h))
  · exact .inr (.inr (.inr h))
/-- A change outside. -/
theorem TS.fr {w v : World} {B t n left : Nat} {mc : Bool} {d : Nat → Sl} {kv wv : Value} {ks ws : List Value} {l : List Nat} (s : TS w B t mc d kv wv n ks ws left) (f : Fr w v l) (h1 : ∀ b, b ∈ l → b ∉ Mb t d kv wv) (h2 : ∀ i, i < 3 → (d i).zs ≠ [] → ∀ b, b ∈ vblk (d i).bv → b ∉ l) (h3 : ∀ i, i < 3 → (d i).key ≠ [] → ∀ b, b ∈ vblk (d i).kv → b ∉ l) : TS v B t mc d kv wv n ks ws left := by
  have hm : ∀ b, b ∈ Mb t d kv wv → v.heap[b]? = w.heap[b]? := fun b hb => f.block b (s.lt b hb).2 (fun q => h1 b q hb)
  have hb : v.heap[t]? = w.heap[t]? := hm t (mb_t _ _ _ _)
  have hc : ∀ j, v.cell? ⟨t, j, none⟩ = w.cell? ⟨t, j, none⟩ := fun j => World.cell?_of_block (a := ⟨t, j, none⟩) hb
  have hf : ∀ j, v.frozen? ⟨t, j, none⟩ = w.frozen? ⟨t, j, none⟩ := fun j => World.frozen?_of_block (a := ⟨t, j, none⟩) hb
  exact ⟨fun i hi => (hc _).trans (s.cs i hi), fun i hi => (hc _).trans (s.cm i hi), fun i hi => (hc _).trans (s.fh i hi), fun i hi => (hc _).trans (s.fd i hi), fun i hi => (hc _).trans (s.fk i hi), fun i hi => (hc _).trans (s.fb i hi), (hc _).trans s.ck, (hc _).trans s.cw, (hc _).trans s.cl, fun j hj => by rw [hc, hf]; exact s.there j hj,
    fun i hi => (s.sl i hi).keep (fun g e => hm g (mb_g hi e)) (fun h0 b q => f.block b (view_blks (s.sl i hi).kv h0 b q) (h3 i hi h0 b q)) (fun h0 b q => f.block b (view_blks (s.sl i hi).bv h0 b q) (h2 i hi h0 b q)),
    owns_same s.kr (fun b q => hm b (mb_k q)), owns_same s.wr (fun b q => hm b (mb_w q)), s.tB, s.ap, s.rb, s.rk, s.zl⟩
theorem TS.below {w v : World} {B t n left : Nat} {mc : Bool} {d : Nat → Sl} {kv wv : Value} {ks ws : List Value} (s : TS w B t mc d kv wv n ks ws left) (h : Below w.heap.size w v) : TS v B t mc d kv wv n ks ws left :=
  s.fr (below_fr h []) (fun b hb => by cases hb) (fun i hi h0 b hb q => by cases q) (fun i hi h0 b hb q => by cases q)
/-- New blocks alone. -/
theorem TS.new {w u v : World} {B t n left : Nat} {mc : Bool} {d : Nat → Sl} {kv wv : Value} {ks ws : List Value} {l : List Nat} (s : TS u B t mc d kv wv n ks ws left) (s0 : TS w B t mc d kv wv n ks ws left) (f : Fr u v l) (hn : ∀ b, b ∈ l → w.heap.size ≤ b) : TS v B t mc d kv wv n ks ws left :=
  s.fr f (fun b hb q => by have := hn b hb; have := (s0.lt b q).2; omega) (fun i hi h0 b hb q => by have := hn b q; have := view_blks (s0.sl i hi).bv h0 b hb; omega) (fun i hi h0 b hb q => by have := hn b q; have := view_blks (s0.sl i hi).kv h0 b hb; omega)
/-- Both rows are longer. -/
theorem TS.rows {u v : World} {B t n n' left : Nat} {mc : Bool} {d : Nat → Sl} {kv wv kv' wv' : Value} {ks ws ks' ws' : List Value} (s : TS u B t mc d kv wv n ks ws left) (f : Fr u v ([t] ++ (vblk kv ++ vblk wv))) (ht : v.there t 0 21)
    (hc : ∀ j, j ≠ 18 → j ≠ 19 → v.cell? ⟨t, j, none⟩ = u.cell? ⟨t, j, none⟩) (h18 : v.cell? ⟨t, 18, none⟩ = some kv') (h19 : v.cell? ⟨t, 19, none⟩ = some wv') (hk : v.ownsRow B 22 1 kv' n' ks') (hw : v.ownsRow B 22 1 wv' n' ws')
    (hkb : ∀ b, b ∈ vblk kv' → b ∈ vblk kv ∨ u.heap.size ≤ b) (hwb : ∀ b, b ∈ vblk wv' → b ∈ vblk wv ∨ u.heap.size ≤ b) (hne : ∀ b, b ∈ vblk kv' → b ∉ vblk wv') : TS v B t mc d kv' wv' n' ks' ws' left := by
  have hg : ∀ i, i < 3 → ∀ g, (d i).g = some g → v.heap[g]? = u.heap[g]? := fun i hi g e => f.block g (s.lt g (mb_g hi e)).2 (fun q => by
    simp only [List.mem_append, List.mem_singleton] at q
    rcases q with q | q | q
    · exact s.ap.gt i hi (by rw [e, q])
    · exact s.ap.gk i hi g e q
    · exact s.ap.gw i hi g e q)
  have hout : ∀ b, b ∉ Mb t d kv wv → b ∉ [t] ++ (vblk kv ++ vblk wv) := fun b hb q => hb (by
    simp only [List.mem_append, List.mem_singleton] at q
    rcases q with q | q | q
    · rw [q]; exact mb_t _ _ _ _
    · exact mb_k q
    · exact mb_w q)
  have hmb : ∀ b, b < u.heap.size → b ∉ Mb t d kv wv → b ∉ Mb t d kv' wv' := fun b hb hn q => by
    rcases mb_mem q with q | ⟨i, hi, q⟩ | q | q
    · exact hn (by rw [q]; exact mb_t _ _ _ _)
    · exact hn (mb_g hi q)
    · rcases hkb b q with q | q
      · exact hn (mb_k q)
      · omega
    · rcases hwb b q with q | q
      · exact hn (mb_w q)
      · omega
  refine ⟨fun i hi => (hc _ (by omega) (by omega)).trans (s.cs i hi), fun i hi => (hc _ (by omega) (by omega)).trans (s.cm i hi), fun i hi => (hc _ (by omega) (by omega)).trans (s.fh i hi), fun i hi => (hc _ (by omega) (by omega)).trans (s.fd i hi), fun i hi => (hc _ (by omega) (by omega)).trans (s.fk i hi), fun i hi => (hc _ (by omega) (by omega)).trans (s.fb i hi), h18, h19, (hc _ (by omega) (by omega)).trans s.cl, ht, fun i hi => ?_, hk, hw, s.tB, ?_, fun i hi h0 b hb => ?_, fun i hi h0 b hb => ?_, s.zl⟩
  · exact (s.sl i hi).keep (hg i hi) (fun h0 b q => f.block b (view_blks (s.sl i hi).kv h0 b q) (hout b (s.rk i hi h0 b q))) (fun h0 b q => f.block b (view_blks (s.sl i hi).bv h0 b q) (hout b (s.rb i hi h0 b q)))
  · have htl := (s.lt t (mb_t _ _ _ _)).2
    refine ⟨s.ap.gg, s.ap.gt, fun q => ?_, fun q => ?_, fun i hi g e q => ?_, fun i hi g e q => ?_, hne⟩
    · rcases hkb t q with q | q
      · exact s.ap.kt q
      · omega
    · rcases hwb t q with q | q
      · exact s.ap.wt q
      · omega
    · rcases hkb g q with q | q
      · exact s.ap.gk i hi g e q
      · have := (s.lt g (mb_g hi e)).2; omega
    · rcases hwb g q with q | q
      · exact s.ap.gw i hi g e q
      · have := (s.lt g (mb_g hi e)).2; omega
  · exact hmb b (view_blks (s.sl i hi).bv h0 b hb) (s.rb i hi h0 b hb)
  · exact hmb b (view_blks (s.sl i hi).kv h0 b hb) (s.rk i hi h0 b hb)
/-- One of the three is another. -/
def upd3 (d : Nat → Sl) (i : Nat) (s : Sl) (j : Nat) : Sl := if j = i then s else d j
theorem upd3_same (d : Nat → Sl) (i : Nat) (s : Sl) : upd3 d i s i = s := if_pos rfl
theorem upd3_other (d : Nat → Sl) (i j : Nat) (s : Sl) (h : j ≠ i) : upd3 d i s j = d j := if_neg h
/-- Slot i is another one: its object is the one it was, or new, or none. -/
theorem TS.slot {u v : World} {B t n left left' i : Nat} {mc : Bool} {d : Nat → Sl} {kv wv : Value} {ks ws : List Value} {s' : Sl} {l : List Nat} (s : TS u B t mc d kv wv n ks ws left) (hi : i < 3) (f : Fr u v l) (hl : ∀ b, b ∈ l → b = t ∨ (d i).g = some b ∨ u.heap.size ≤ b) (ht : v.there t 0 21)
    (hc : ∀ j, j < 21 → j ≠ i → j ≠ 3 + i → (j < 6 + i * 4 ∨ 6 + i * 4 + 4 ≤ j) → j ≠ 20 → v.cell? ⟨t, j, none⟩ = u.cell? ⟨t, j, none⟩)
    (c1 : v.cell? ⟨t, i, none⟩ = some (if mc = true then .pointer none else gp s'.g)) (c2 : v.cell? ⟨t, 3 + i, none⟩ = some (if mc = true then gp s'.g else .pointer none))
    (c3 : v.cell? ⟨t, 6 + i * 4, none⟩ = some (.int .i64 s'.h)) (c4 : v.cell? ⟨t, 6 + i * 4 + 1, none⟩ = some (.bool s'.kd)) (c5 : v.cell? ⟨t, 6 + i * 4 + 2, none⟩ = some s'.kv) (c6 : v.cell? ⟨t, 6 + i * 4 + 3, none⟩ = some s'.bv) (c7 : v.cell? ⟨t, 20, none⟩ = some (.int .i64 (left' : Nat)))
    (hs : SlAt v B mc s') (hg : ∀ g, s'.g = some g → (d i).g = some g ∨ u.heap.size ≤ g)
    (hb : s'.zs ≠ [] → ∀ b, b ∈ vblk s'.bv → (b ∉ Mb t d kv wv) ∧ s'.g ≠ some b) (hk : s'.key ≠ [] → ∀ b, b ∈ vblk s'.kv → (b ∉ Mb t d kv wv) ∧ s'.g ≠ some b) (hle : left' ≤ left) (hz : s'.zs.length + left' ≤ 65536) : TS v B t mc (upd3 d i s') kv wv n ks ws left' := by
  have hin : ∀ b, b ∈ Mb t d kv wv → b ≠ t → (d i).g ≠ some b → v.heap[b]? = u.heap[b]? := fun b hb h1 h2 => f.block b (s.lt b hb).2 (fun q => by
    rcases hl b q with q | q | q
    · exact h1 q
    · exact h2 q
    · have := (s.lt b hb).2; omega)
  have hout : ∀ b, b < u.heap.size → b ∉ Mb t d kv wv → v.heap[b]? = u.heap[b]? := fun b hb hn => f.block b hb (fun q => by
    rcases hl b q with q | q | q
    · exact hn (by rw [q]; exact mb_t _ _ _ _)
    · exact hn (mb_g hi q)
    · omega)
  have htn : t ∈ Mb t d kv wv := mb_t _ _ _ _
  have hgu : ∀ j, j < 3 → ∀ g, (upd3 d i s' j).g = some g → (∃ j', j' < 3 ∧ (j' = j) ∧ (d j').g = some g) ∨ (j = i ∧ u.heap.size ≤ g) := fun j hj g e => by
    by_cases q : j = i
    · subst q
      rw [upd3_same] at e
      rcases hg g e with h | h
      · exact .inl ⟨j, hj, rfl, h⟩
      · exact .inr ⟨rfl, h⟩
    · rw [upd3_other _ _ _ _ q] at e
      exact .inl ⟨j, hj, rfl, e⟩
  have hmb : ∀ b, b ∉ Mb t d kv wv → s'.g ≠ some b → b ∉ Mb t (upd3 d i s') kv wv := fun b hn h2 q => by
    rcases mb_mem q with q | ⟨j, hj, q⟩ | q | q
    · exact hn (by rw [q]; exact mb_t _ _ _ _)
    · by_cases e : j = i
      · subst e; rw [upd3_same] at q; exact h2 q
      · rw [upd3_other _ _ _ _ e] at q; exact hn (mb_g hj q)
    · exact hn (mb_k q)
    · exact hn (mb_w q)
  refine ⟨fun j hj => ?_, fun j hj => ?_, fun j hj => ?_, fun j hj => ?_, fun j hj => ?_, fun j hj => ?_, (hc _ (by omega) (by omega) (by omega) (by omega) (by omega)).trans s.ck, (hc _ (by omega) (by omega) (by omega) (by omega) (by omega)).trans s.cw, c7, ht, fun j hj => ?_, owns_same s.kr (fun b q => hin b (mb_k q) (fun e => s.ap.kt (by rw [← e]; exact q)) (fun e => s.ap.gk i hi b e q)), owns_same s.wr (fun b q => hin b (mb_w q) (fun e => s.ap.wt (by rw [← e]; exact q)) (fun e => s.ap.gw i hi b e q)), s.tB, ?_, fun j hj h0 b hb' => ?_, fun j hj h0 b hb' => ?_, fun j hj => ?_⟩
  · by_cases e : j = i
    · subst e; rw [upd3_same]; exact c1
    · rw [upd3_other _ _ _ _ e]; exact (hc _ (by omega) e (by omega) (by omega) (by omega)).trans (s.cs j hj)
  · by_cases e : j = i
    · subst e; rw [upd3_same]; exact c2
    · rw [upd3_other _ _ _ _ e]; exact (hc _ (by omega) (by omega) (by omega) (by omega) (by omega)).trans (s.cm j hj)
  · by_cases e : j = i
    · subst e; rw [upd3_same]; exact c3
    · rw [upd3_other _ _ _ _ e]; exact (hc _ (by omega) (by omega) (by omega) (by omega) (by omega)).trans (s.fh j hj)
  · by_cases e : j = i
    · subst e; rw [upd3_same]; exact c4
    · rw [upd3_other _ _ _ _ e]; exact (hc _ (by omega) (by omega) (by omega) (by omega) (by omega)).trans (s.fd j hj)
  · by_cases e : j = i
    · subst e; rw [upd3_same]; exact c5
    · rw [upd3_other _ _ _ _ e]; exact (hc _ (by omega) (by omega) (by omega) (by omega) (by omega)).trans (s.fk j hj)
  · by_cases e : j = i
    · subst e; rw [upd3_same]; exact c6
    · rw [upd3_other _ _ _ _ e]; exact (hc _ (by omega) (by omega) (by omega) (by omega) (by omega)).trans (s.fb j hj)
  · by_cases e : j = i
    · subst e; rw [upd3_same]; exact hs
    · rw [upd3_other _ _ _ _ e]
      exact (s.sl j hj).keep (fun g q => hin g (mb_g hj q) (fun x => s.ap.gt j hj (by rw [q, x])) (fun x => s.ap.gg j i hj hi e g q x)) (fun h0 b q => hout b (view_blks (s.sl j hj).kv h0 b q) (s.rk j hj h0 b q)) (fun h0 b q => hout b (view_blks (s.sl j hj).bv h0 b q) (s.rb j hj h0 b q))
  · have hold : ∀ b, b ∈ Mb t d kv wv → b < u.heap.size := fun b hb => (s.lt b hb).2
    refine ⟨fun a b ha hb' hab g e q => ?_, fun a ha q => ?_, s.ap.kt, s.ap.wt, fun a ha g e q => ?_, fun a ha g e q => ?_, s.ap.kw⟩
    · rcases hgu a ha g e with ⟨a', ha', rfl, e1⟩ | ⟨rfl, e1⟩
      · rcases hgu b hb' g q with ⟨b', hb'', rfl, e2⟩ | ⟨rfl, e2⟩
        · exact s.ap.gg a' b' ha hb' hab g e1 e2
        · have := hold g (mb_g ha e1); omega
      · rcases hgu b hb' g q with ⟨b', hb'', rfl, e2⟩ | ⟨rfl, e2⟩
        · have := hold g (mb_g hb' e2); omega
        · exact hab rfl
    · rcases hgu a ha t q with ⟨a', ha', rfl, e1⟩ | ⟨rfl, e1⟩
      · exact s.ap.gt a' ha e1
      · have := hold t htn; omega
    · rcases hgu a ha g e with ⟨a', ha', rfl, e1⟩ | ⟨rfl, e1⟩
      · exact s.ap.gk a' ha g e1 q
      · have := hold g (mb_k q); omega
    · rcases hgu a ha g e with ⟨a', ha', rfl, e1⟩ | ⟨rfl, e1⟩
      · exact s.ap.gw a' ha g e1 q
      · have := hold g (mb_w q); omega
  · by_cases e : j = i
    · subst e
      rw [upd3_same] at h0 hb'
      exact hmb b (hb h0 b hb').1 (hb h0 b hb').2
    · rw [upd3_other _ _ _ _ e] at h0 hb'
      refine hmb b (s.rb j hj h0 b hb') (fun q => ?_)
      rcases hg b q with q | q
      · exact s.rb j hj h0 b hb' (mb_g hi q)
      · have := view_blks (s.sl j hj).bv h0 b hb'; omega
  · by_cases e : j = i
    · subst e
      rw [upd3_same] at h0 hb'
      exact hmb b (hk h0 b hb').1 (hk h0 b hb').2
    · rw [upd3_other _ _ _ _ e] at h0 hb'
      refine hmb b (s.rk j hj h0 b hb') (fun q => ?_)
      rcases hg b q with q | q
      · exact s.rk j hj h0 b hb' (mb_g hi q)
      · have := view_blks (s.sl j hj).kv h0 b hb'; omega
  · by_cases e : j = i
    · subst e; rw [upd3_same]; exact hz
    · rw [upd3_other _ _ _ _ e]; have := s.zl j hj; omega
end Go.Proofs.YtioggmjocelolacDoor
namespace Go.Proofs.YtioggmjocelolacDoor
open Go.RowKit
set_option linter.unusedVariables false
set_option linter.unusedSimpArgs false
/-- One answer that is kept, with what it must be. -/
structure KtI (w : World) (B : Nat) (M : List Nat) (t : Value × Value × List Int) : Prop where
  ow : w.ownsRow B 5 1 t.1 t.2.2.length (cellsU8 t.2.2)
  vw : View w t.2.1 t.2.2
  om : ∀ b, b ∈ vblk t.1 → b ∉ M
  wm : t.2.2 ≠ [] → ∀ b, b ∈ vblk t.2.1 → b ∉ M
  ln : t.2.2.length ≤ 64
theorem KtI.fr {w v : World} {B : Nat} {M M' l : List Nat} {t : Value × Value × List Int} (h : KtI w B M t) (f : Fr w v l) (h1 : ∀ b, b ∈ vblk t.1 → b ∉ l) (h2 : t.2.2 ≠ [] → ∀ b, b ∈ vblk t.2.1 → b ∉ l) (hM : ∀ b, b ∈ M' → b ∈ M ∨ w.heap.size ≤ b) : KtI v B M' t := by
  refine ⟨owns_same h.ow (fun b hb => f.block b (owns_blks h.ow b hb).2 (h1 b hb)), view_keepP h.vw (fun h0 b hb => f.block b (view_blks h.vw h0 b hb) (h2 h0 b hb)), fun b hb q => ?_, fun h0 b hb q => ?_, h.ln⟩
  · rcases hM b q with q | q
    · exact h.om b hb q
    · have := (owns_blks h.ow b hb).2; omega
  · rcases hM b q with q | q
    · exact h.wm h0 b hb q
    · have := view_blks h.vw h0 b hb; omega
/-- All that is kept. -/
structure Kts (w : World) (B : Nat) (M : List Nat) (ts : List (Value × Value × List Int)) : Prop where
  it : ∀ t, t ∈ ts → KtI w B M t
  oo : ts.Pairwise fun s t => ∀ b, b ∈ vblk s.1 → b ∉ vblk t.1
  ow : ∀ s, s ∈ ts → ∀ t, t ∈ ts → t.2.2 ≠ [] → ∀ b, b ∈ vblk s.1 → b ∉ vblk t.2.1
theorem Kts.fr {w v : World} {B : Nat} {M M' l : List Nat} {ts : List (Value × Value × List Int)} (h : Kts w B M ts) (f : Fr w v l) (hl : ∀ b, b ∈ l → b ∈ M ∨ w.heap.size ≤ b) (hM : ∀ b, b ∈ M' → b ∈ M ∨ w.heap.size ≤ b) : Kts v B M' ts := by
  refine ⟨fun t ht => (h.it t ht).fr f (fun b hb q => ?_) (fun h0 b hb q => ?_) hM, h.oo, h.ow⟩
  · rcases hl b q with q | q
    · exact (h.it t ht).om b hb q
    · have := (owns_blks (h.it t ht).ow b hb).2; omega
  · rcases hl b q with q | q
    · exact (h.it t ht).wm h0 b hb q
    · have := view_blks (h.it t ht).vw h0 b hb; omega
theorem Kts.push {w : World} {B C : Nat} {M : List Nat} {ts : List (Value × Value × List Int)} {t : Value × Value × List Int} (h : Kts w B M ts) (ht : KtI w B M t) (hold : ∀ s, s ∈ ts → (∀ b, b ∈ vblk s.1 → b < C) ∧ (s.2.2 ≠ [] → ∀ b, b ∈ vblk s.2.1 → b < C)) (hn : ∀ b, b ∈ vblk t.1 → C ≤ b) (hw : t.2.2 ≠ [] → ∀ b, b ∈ vblk t.2.1 → C ≤ b ∧ b ∉ vblk t.1) : Kts w B M (ts ++ [t]) := by
  refine ⟨fun s hs => ?_, ?_, fun s hs r hr h0 b hb hx => ?_⟩
  · rcases List.mem_append.1 hs with hs | hs
    · exact h.it s hs
    · rw [List.mem_singleton.1 hs]; exact ht
  · refine List.pairwise_append.2 ⟨h.oo, List.pairwise_singleton _ _, fun s hs r hr b hb hx => ?_⟩
    rw [List.mem_singleton.1 hr] at hx
    have := (hold s hs).1 b hb
    have := hn b hx
    omega
  · rcases List.mem_append.1 hs with hs | hs
    · rcases List.mem_append.1 hr with hr | hr
      · exact h.ow s hs r hr h0 b hb hx
      · rw [List.mem_singleton.1 hr] at hx h0
        have := (hold s hs).1 b hb
        have := (hw h0 b hx).1
        omega
    · rw [List.mem_singleton.1 hs] at hb
      rcases List.mem_append.1 hr with hr | hr
      · have := (hold r hr).2 h0 b hx
        have := hn b hb
        omega
      · rw [List.mem_singleton.1 hr] at hx h0
        exact (hw h0 b hx).2 hb
theorem Kts.old {w : World} {B : Nat} {M : List Nat} {ts : List (Value × Value × List Int)} (h : Kts w B M ts) : ∀ s, s ∈ ts → (∀ b, b ∈ vblk s.1 → b < w.heap.size) ∧ (s.2.2 ≠ [] → ∀ b, b ∈ vblk s.2.1 → b < w.heap.size) :=
  fun s hs => ⟨fun b hb => (owns_blks (h.it s hs).ow b hb).2, fun h0 b hb => view_blks (h.it s hs).vw h0 b hb⟩
/-- The three with all that is kept. -/
structure TSD (w : World) (B t : Nat) (mc : Bool) (d : Nat → Sl) (kv wv : Value) (ts : List (Value × Value × List Int)) (left : Nat) : Prop where
  s : TS w B t mc d kv wv ts.length (ts.map (·.1)) (ts.map (·.2.1)) left
  k : Kts w B (Mb t d kv wv) ts
theorem TSD.below {w v : World} {B t left : Nat} {mc : Bool} {d : Nat → Sl} {kv wv : Value} {ts : List (Value × Value × List Int)} (h : TSD w B t mc d kv wv ts left) (hb : Below w.heap.size w v) : TSD v B t mc d kv wv ts left :=
  ⟨h.s.below hb, h.k.fr (below_fr hb []) (fun b q => by cases q) (fun b q => .inl q)⟩
/-- New blocks alone. -/
theorem TSD.new {w u v : World} {B t left : Nat} {mc : Bool} {d : Nat → Sl} {kv wv : Value} {ts : List (Value × Value × List Int)} {l : List Nat} (h : TSD u B t mc d kv wv ts left) (h0 : TSD w B t mc d kv wv ts left) (f : Fr u v l) (hn : ∀ b, b ∈ l → w.heap.size ≤ b) : TSD v B t mc d kv wv ts left :=
  ⟨h.s.new h0.s f hn, ⟨fun r hr => (h.k.it r hr).fr f (fun b hb q => by have := hn b q; have := (h0.k.old r hr).1 b hb; omega) (fun e b hb q => by have := hn b q; have := (h0.k.old r hr).2 e b hb; omega) (fun b q => .inl q), h.k.oo, h.k.ow⟩⟩
end Go.Proofs.YtioggmjocelolacDoor
namespace Go.Proofs.YtioggmjocelolacDoor
open Go.RowKit
set_option linter.unusedVariables false
set_option linter.unusedSimpArgs false
theorem place_ok (n : Int) (w : World) : Calls Tryd.prog 67 #[.int .i64 n] w fun e w' => ∃ r : Nat, r < 3 ∧ e = .returned (.int .i64 (r : Nat)) ∧ w' = w := by
  obtain ⟨t, HT⟩ : ∃ t, Hid (t = n.tmod 3) := ⟨_, rfl⟩
  have ht : n.tmod 3 = t := HT.out.symm
  have h1 : -3 < t ∧ t < 3 := by
    rw [HT.out]
    have a := Int.tmod_lt_of_pos n (b := 3) (by omega)
    have b := Int.tmod_lt_of_pos (-n) (b := 3) (by omega)
    rw [Int.neg_tmod] at b
    omega
  by_cases h0 : t < 0
  · have hw : IntKind.i64.wrap (t + 3) = t + 3 := by rw [IntKind.wrap_i64]; omega
    have hwt : IntKind.i64.wrap t = t := by rw [IntKind.wrap_i64]; omega
    go_enter Tryd.func67, Tryd.ntmps67
    go_wp2
    go_ret
    refine ⟨(t + 3).toNat, by omega, ?_, rfl⟩
    show Ending.returned (.int .i64 (t + 3)) = _
    congr 2
    omega
  · have hwt : IntKind.i64.wrap t = t := by rw [IntKind.wrap_i64]; omega
    go_enter Tryd.func67, Tryd.ntmps67
    go_wp2
    go_ret
    refine ⟨t.toNat, by omega, ?_, rfl⟩
    show Ending.returned (.int .i64 t) = _
    congr 2
    omega
theorem size0 (w : World) : Calls Tryd.prog 46 #[.int .i64 0] w fun e w' => e = .returned (.int .i64 0) ∧ w' = w := by
  go_enter Tryd.func46, Tryd.ntmps46
  go_wp2_with (first | (go_at_call 55; refine (block_any _ _).mono ?_; rintro e1 w1 ⟨rfl, hw1⟩; obtain rfl := hw1.symm; rw [show blockOf 0 = 0 from rfl]))
  go_ret
  exact ⟨rfl, rfl⟩
theorem swrite_nil (v : Value) (w : World) : Calls Tryd.prog 52 #[.pointer none, v] w fun e w' => e = .returned (.int .i64 1) ∧ w' = w := by
  go_enter Tryd.func52, Tryd.ntmps52
  go_wp2
  go_ret
  exact ⟨rfl, rfl⟩
theorem ssum_nil (w : World) : Calls Tryd.prog 53 #[.pointer none] w fun e w' => e = .returned (.slice none 0 0) ∧ w' = w := by
  go_enter Tryd.func53, Tryd.ntmps53
  go_wp2
  go_ret
  exact ⟨rfl, rfl⟩
theorem sreset_nil (w : World) : Calls Tryd.prog 83 #[.pointer none] w fun e w' => e = .returned (.int .i64 1) ∧ w' = w := by
  go_enter Tryd.func83, Tryd.ntmps83
  go_wp2
  go_ret
  exact ⟨rfl, rfl⟩
theorem scopy_nil (w : World) : Calls Tryd.prog 73 #[.pointer none] w fun e w' => e = .returned (.pointer none) ∧ w' = w := by
  go_enter Tryd.func73, Tryd.ntmps73
  go_wp2
  go_ret
  exact ⟨rfl, rfl⟩
theorem shash_nil (w : World) : Calls Tryd.prog 47 #[.pointer none] w fun e w' => e = .returned (.int .i64 0) ∧ w' = w := by
  go_enter Tryd.func47, Tryd.ntmps47
  go_wp2
  go_ret
  exact ⟨rfl, rfl⟩
theorem scount_nil (w : World) : Calls Tryd.prog 85 #[.pointer none] w fun e w' => e = .returned (.int .u64 0) ∧ w' = w := by
  go_enter Tryd.func85, Tryd.ntmps85
  go_wp2
  go_ret
  exact ⟨rfl, rfl⟩
theorem ssize_nil (w : World) : Calls Tryd.prog 30 #[.pointer none] w fun e w' => e = .returned (.int .i64 0) ∧ w' = w := by
  go_enter Tryd.func30, Tryd.ntmps30
  go_wp2_with (first
    | (go_at_call 47; refine (shash_nil _).mono ?_; rintro e1 w1 ⟨rfl, hw1⟩; obtain rfl := hw1.symm)
    | (go_at_call 46; refine (size0 _).mono ?_; rintro e1 w1 ⟨rfl, hw1⟩; obtain rfl := hw1.symm))
  go_ret
  exact ⟨rfl, rfl⟩
theorem sblock_nil (w : World) : Calls Tryd.prog 84 #[.pointer none] w fun e w' => e = .returned (.int .i64 0) ∧ w' = w := by
  go_enter Tryd.func84, Tryd.ntmps84
  go_wp2_with (first
    | (go_at_call 47; refine (shash_nil _).mono ?_; rintro e1 w1 ⟨rfl, hw1⟩; obtain rfl := hw1.symm)
    | (go_at_call 55; refine (block_any _ _).mono ?_; rintro e1 w1 ⟨rfl, hw1⟩; obtain rfl := hw1.symm; rw [show blockOf 0 = 0 from rfl]))
  go_ret
  exact ⟨rfl, rfl⟩
theorem sblock (g : Nat) (h : Int) (w : World) (c : Hid (w.cell? ⟨g, 0, none⟩ = some (.int .i64 h))) : Calls Tryd.prog 84 #[.pointer (some ⟨g, 0, none⟩)] w fun e w' => e = .returned (.int .i64 (blockOf h)) ∧ w' = w := by
  go_enter Tryd.func84, Tryd.ntmps84
  go_wp2_with (first
    | (go_at_call 47; refine (shash g h w c.out).mono ?_; rintro e1 w1 ⟨rfl, hw1⟩; obtain rfl := hw1.symm)
    | (go_at_call 55; refine (block_any _ _).mono ?_; rintro e1 w1 ⟨rfl, hw1⟩; obtain rfl := hw1.symm))
  go_ret
  exact ⟨rfl, rfl⟩
theorem mwrite_nil (v : Value) (w : World) : Calls Tryd.prog 35 #[.pointer none, v] w fun e w' => e = .returned (.int .i64 1) ∧ w' = w := by
  go_enter Tryd.func35, Tryd.ntmps35
  go_wp2
  go_ret
  exact ⟨rfl, rfl⟩
theorem msum_nil (w : World) : Calls Tryd.prog 36 #[.pointer none] w fun e w' => e = .returned (.slice none 0 0) ∧ w' = w := by
  go_enter Tryd.func36, Tryd.ntmps36
  go_wp2
  go_ret
  exact ⟨rfl, rfl⟩
theorem mreset_nil (w : World) : Calls Tryd.prog 82 #[.pointer none] w fun e w' => e = .returned (.int .i64 1) ∧ w' = w := by
  go_enter Tryd.func82, Tryd.ntmps82
  go_wp2
  go_ret
  exact ⟨rfl, rfl⟩
theorem mcopy_nil (w : World) : Calls Tryd.prog 56 #[.pointer none] w fun e w' => e = .returned (.pointer none) ∧ w' = w := by
  go_enter Tryd.func56, Tryd.ntmps56
  go_wp2
  go_ret
  exact ⟨rfl, rfl⟩
theorem msize_nil (w : World) : Calls Tryd.prog 33 #[.pointer none] w fun e w' => e = .returned (.int .i64 0) ∧ w' = w := by
  go_enter Tryd.func33, Tryd.ntmps33
  go_wp2
  go_ret
  exact ⟨rfl, rfl⟩
theorem rblock0 (w : World) : Calls Tryd.prog 40 #[.int .i64 0] w fun e w' => e = .returned (.int .i64 0) ∧ w' = w := by
  go_enter Tryd.func40, Tryd.ntmps40
  go_wp2
  go_ret
  exact ⟨rfl, rfl⟩
theorem zcTK : Tryd.zeroCells69.size = 139 := by kernel_rfl
set_option maxHeartbeats 1600000 in
set_option maxRecDepth 100000 in
/-- Stream.Reset. -/
theorem sreset (g : Nat) (h : Int) (s0 : Eight) (zs : List Int) (w : World) (k : Hid (Known h)) (hr : Hid (Rep w g 0 h (wdOf h) s0 0 zs)) (hT : Hid (Tables w)) :
    Calls Tryd.prog 83 #[.pointer (some ⟨g, 0, none⟩)] w fun e w' => e = .returned (.int .i64 0) ∧ Rep w' g 0 h (wdOf h) (firstE h) 0 [] ∧ Touch w w' g 0 139 := by
  obtain ⟨hc, HX3⟩ : w.cell? ⟨g, 0, none⟩ = some (.int .i64 h) ∧ Hid (w.there g 0 139) := by
    obtain ⟨half, hk, _, _⟩ := hr.out
    exact ⟨hk.hash, hk.there⟩
  have hg0 : g < w.heap.size := by have := World.block_lt_of_cell? w _ hc; simpa using this
  have hg : Hid (g < w.heap.size) := hg0
  clear hg0
  go_enter Tryd.func83, Tryd.ntmps83
  go_wp2_with (first | (go_at_call 45; refine (begin_any k.out w hT.out).mono ?_))
  rintro e1 w1 ⟨rfl, hb1⟩
  obtain ⟨T, HTT⟩ : ∃ T : List Value, Hid (T = tkL h (wdOf h) (firstE h) (fun _ => 0) 0) := ⟨_, rfl⟩
  rw [← HTT.out]
  have HG : Hid (TkBig T) := by show TkBig T; rw [HTT.out]; exact tkBig _ _ _ _ _
  have HB1 : Hid (Below w.heap.size w w1) := hb1
  have HX : Hid ((w1.alloc (.cells Tryd.zeroCells69 69)).there w1.heap.size 0 139) := there_new w1 Tryd.zeroCells69 69 139 (by rw [zcTK]; exact Nat.le_refl _)
  clear hb1 hc
  go_upto_region 4 with (first
    | (refine wpList_store_mid (by rfl) 69 (.tmp 3) (.tmp 14) (by rfl) w1.heap.size 0 T.toArray (by rfl) (by rfl) (by rw [HG.out.size]; exact HX.out) HG.out.info HG.out.one ?_)
    | fail)
  have HR2 : Hid (((w1.alloc (.cells Tryd.zeroCells69 69)).setCells w1.heap.size 0 T).rangeAt w1.heap.size 0 T) := World.rangeAt_setCells_same _ _ _ _ (by rw [HG.out.len]; exact HX.out)
  have HB2 : Hid (Below w.heap.size w ((w1.alloc (.cells Tryd.zeroCells69 69)).setCells w1.heap.size 0 T)) := below_setCells _ HB1.out.size _ _ _ (HB1.out.alloc HB1.out.size _)
  generalize (w1.alloc (.cells Tryd.zeroCells69 69)).setCells w1.heap.size 0 T = w2 at HR2 HB2 ⊢
  clear HX
  have HX2 : Hid (w2.there g 0 139) := fun j hj => by
    have q := HX3.out j hj
    rw [World.cell?_of_block (w := w) (HB2.out.block g hg.out), World.frozen?_of_block (w := w) (HB2.out.block g hg.out)]
    exact q
  go_wp2_with (first
    | (refine wpList_load_mid (by rfl) 69 (.tmp 3) (by rfl) w1.heap.size 0 (by rfl) T _ HR2.out Tryd.underlying69 rfl (by rw [HG.out.len]; kernel_rfl) ?_)
    | (refine wpList_store_mid (by rfl) 69 (.tmp 19) (.tmp 17) (by rfl) g 0 T.toArray (by rfl) (by rfl) (by rw [HG.out.size]; exact HX2.out) HG.out.info HG.out.one ?_)
    | fail)
  go_ret
  have hT' : T = tkL h (wdOf h) (firstE h) (fun _ => 0) 0 := HTT.out
  have hra : (w2.setCells g 0 T).rangeAt g 0 T := World.rangeAt_setCells_same _ _ _ _ (by rw [HG.out.len]; exact HX2.out)
  refine ⟨rfl, rep_nil (TK.of (half := fun _ => 0) ?_ (World.there_setCells HX2.out g 0 T)) (Nat.zero_mod _), ((Touch.refl w g 0 139).below HB2.out hg.out).setCells 0 T (Nat.le_refl _) (by rw [HG.out.len]; omega)⟩
  rw [hT'] at hra ⊢
  exact hra
end Go.Proofs.YtioggmjocelolacDoor
namespace Go.Proofs.YtioggmjocelolacDoor
open Go.RowKit
set_option linter.unusedVariables false
set_option linter.unusedSimpArgs false
/-- Both sides' tables. -/
structure Tbs (w : World) : Prop where
  t : Tables w
  r : RTab w
theorem Tbs.below {w w' : World} {B : Nat} (h : Tbs w) (b : Below B w w') (hB : 4 ≤ B) : Tbs w' := ⟨h.t.below b hB, h.r.below b (by omega)⟩
/-- What one of the three tells. -/
def ansS (mc : Bool) (s : Sl) : List Int :=
  match s.g with
  | none => []
  | some _ => if mc = true then hmac s.h s.key s.zs else sumD s.h s.zs
theorem ansS_none {mc : Bool} {s : Sl} (e : s.g = none) : ansS mc s = [] := by unfold ansS; rw [e]
theorem ansS_f {s : Sl} {g : Nat} (e : s.g = some g) : ansS false s = sumD s.h s.zs := by unfold ansS; rw [e]; rfl
theorem ansS_t {s : Sl} {g : Nat} (e : s.g = some g) : ansS true s = hmac s.h s.key s.zs := by unfold ansS; rw [e]; rfl
theorem ansS_len {w : World} {B : Nat} {mc : Bool} {s : Sl} (h : SlAt w B mc s) : (ansS mc s).length ≤ 64 := by
  cases e : s.g with
  | none => rw [ansS_none e]; simp
  | some g =>
    obtain ⟨k, _⟩ := h.obj g e
    have := szOf_le k
    cases mc
    · rw [ansS_f e, sumD_length _ k]; omega
    · rw [ansS_t e, hmac_length k]; omega
def SumP (mc : Bool) (s : Sl) (u : World) (e : Ending) (u' : World) : Prop := ∃ v, e = .returned v ∧ u'.ownsRow u.heap.size 5 1 v (ansS mc s).length (cellsU8 (ansS mc s)) ∧ Below u.heap.size u u'
theorem ssum_any (s : Sl) (B : Nat) (u : World) (h : SlAt u B false s) (hT : Tables u) (hz : s.zs.length ≤ 65536) : Calls Tryd.prog 53 #[gp s.g] u (SumP false s u) := by
  cases e : s.g with
  | none =>
    refine (ssum_nil u).mono ?_
    rintro e1 u1 ⟨rfl, hu⟩
    obtain rfl := hu.symm
    rw [SumP, ansS_none e]
    exact ⟨_, rfl, World.ownsRow_nil _ _ _ _, Below.refl _ _⟩
  | some g =>
    obtain ⟨k, _, _, ho⟩ := h.obj g e
    refine (ssum g s.h (firstE s.h) s.zs u k ho hT (show _ ≤ _ by omega)).mono ?_
    rintro e1 u1 ⟨b, rfl, ho1, hb⟩
    rw [SumP, ansS_f e, sumD_length _ k]
    exact ⟨_, rfl, ho1, hb⟩
theorem msum_any (s : Sl) (B : Nat) (u : World) (h : SlAt u B true s) (hT : Tables u) (hz : s.zs.length ≤ 65536) : Calls Tryd.prog 36 #[gp s.g] u (SumP true s u) := by
  cases e : s.g with
  | none =>
    refine (msum_nil u).mono ?_
    rintro e1 u1 ⟨rfl, hu⟩
    obtain rfl := hu.symm
    rw [SumP, ansS_none e]
    exact ⟨_, rfl, World.ownsRow_nil _ _ _ _, Below.refl _ _⟩
  | some g =>
    obtain ⟨k, _, _, ho⟩ := h.obj g e
    refine (msum g s.h (stateOf s.h s.key 54) (stateOf s.h s.key 92) s.zs u k ho hT (show _ ≤ _ by omega)).mono ?_
    rintro e1 u1 ⟨b, rfl, ho1, hb⟩
    rw [SumP, ansS_t e, hmac_length k]
    exact ⟨_, rfl, ho1, hb⟩
def erN (s : Sl) : Int := if s.g = none then 1 else 0
def WriP (mc : Bool) (s : Sl) (zs' : List Int) (u : World) (e : Ending) (u' : World) : Prop := e = .returned (.int .i64 (erN s)) ∧ Fr u u' s.g.toList ∧ ∀ g, s.g = some g → Obj mc u' g s.h s.key zs'
theorem swrite_any (s : Sl) (B : Nat) (yss : List (List Int)) (v : Value) (u : World) (h : SlAt u B false s) (hT : Tables u) (hB : 4 ≤ B) (hp : ∀ g, s.g = some g → Parts u g v yss) (hz : s.zs.length + yss.flatten.length ≤ 65536) : Calls Tryd.prog 52 #[gp s.g, v] u (WriP false s (s.zs ++ yss.flatten) u) := by
  cases e : s.g with
  | none =>
    refine (swrite_nil v u).mono ?_
    rintro e1 u1 ⟨rfl, hu⟩
    obtain rfl := hu.symm
    refine ⟨by rw [erN, if_pos e], Fr.refl _ _, fun g q => by rw [e] at q; cases q⟩
  | some g =>
    obtain ⟨k, _, hgB, ho⟩ := h.obj g e
    refine (swrite g s.h (firstE s.h) s.zs yss v u k ho (hp g e) hT (by omega) (show _ ≤ _ by omega)).mono ?_
    rintro e1 u1 ⟨rfl, ht, hr⟩
    refine ⟨by rw [erN, if_neg (by rw [e]; exact fun q => by cases q)], by rw [e]; exact touch_fr ht, fun g' q => ?_⟩
    rw [e] at q
    injection q with q
    subst q
    exact hr
theorem mwrite_any (s : Sl) (B : Nat) (yss : List (List Int)) (v : Value) (u : World) (h : SlAt u B true s) (hT : Tables u) (hB : 4 ≤ B) (hp : ∀ g, s.g = some g → Parts u g v yss) (hz : s.zs.length + yss.flatten.length ≤ 65536) : Calls Tryd.prog 35 #[gp s.g, v] u (WriP true s (s.zs ++ yss.flatten) u) := by
  cases e : s.g with
  | none =>
    refine (mwrite_nil v u).mono ?_
    rintro e1 u1 ⟨rfl, hu⟩
    obtain rfl := hu.symm
    refine ⟨by rw [erN, if_pos e], Fr.refl _ _, fun g q => by rw [e] at q; cases q⟩
  | some g =>
    obtain ⟨k, _, hgB, ho⟩ := h.obj g e
    refine (mwrite g s.h (stateOf s.h s.key 54) (stateOf s.h s.key 92) s.zs yss v u k ho (hp g e) hT (by omega) (show _ ≤ _ by omega)).mono ?_
    rintro e1 u1 ⟨rfl, ht, hr⟩
    refine ⟨by rw [erN, if_neg (by rw [e]; exact fun q => by cases q)], by rw [e]; exact touch_fr ht, fun g' q => ?_⟩
    rw [e] at q
    injection q with q
    subst q
    exact hr
theorem sreset_any (s : Sl) (B : Nat) (u : World) (h : SlAt u B false s) (hT : Tables u) : Calls Tryd.prog 83 #[gp s.g] u (WriP false s [] u) := by
  cases e : s.g with
  | none =>
    refine (sreset_nil u).mono ?_
    rintro e1 u1 ⟨rfl, hu⟩
    obtain rfl := hu.symm
    refine ⟨by rw [erN, if_pos e], Fr.refl _ _, fun g q => by rw [e] at q; cases q⟩
  | some g =>
    obtain ⟨k, _, hgB, ho⟩ := h.obj g e
    refine (sreset g s.h (firstE s.h) s.zs u k ho hT).mono ?_
    rintro e1 u1 ⟨rfl, hr, ht⟩
    refine ⟨by rw [erN, if_neg (by rw [e]; exact fun q => by cases q)], by rw [e]; exact touch_fr ht, fun g' q => ?_⟩
    rw [e] at q
    injection q with q
    subst q
    exact hr
theorem mreset_any (s : Sl) (B : Nat) (u : World) (h : SlAt u B true s) : Calls Tryd.prog 82 #[gp s.g] u (WriP true s [] u) := by
  cases e : s.g with
  | none =>
    refine (mreset_nil u).mono ?_
    rintro e1 u1 ⟨rfl, hu⟩
    obtain rfl := hu.symm
    refine ⟨by rw [erN, if_pos e], Fr.refl _ _, fun g q => by rw [e] at q; cases q⟩
  | some g =>
    obtain ⟨k, _, hgB, ho⟩ := h.obj g e
    refine (mreset g s.h (stateOf s.h s.key 54) (stateOf s.h s.key 92) s.zs u k ho).mono ?_
    rintro e1 u1 ⟨rfl, ht, hr⟩
    refine ⟨by rw [erN, if_neg (by rw [e]; exact fun q => by cases q)], by rw [e]; exact touch_fr ht, fun g' q => ?_⟩
    rw [e] at q
    injection q with q
    subst q
    exact hr
def CopP (mc : Bool) (s : Sl) (u : World) (e : Ending) (u' : World) : Prop := ∃ g', e = .returned (gp g') ∧ (s.g = none → g' = none) ∧ (s.g ≠ none → g' ≠ none) ∧ (∀ q, g' = some q → u.heap.size ≤ q ∧ Obj mc u' q s.h s.key s.zs) ∧ Below u.heap.size u u'
theorem scopy_any (s : Sl) (B : Nat) (u : World) (h : SlAt u B false s) : Calls Tryd.prog 73 #[gp s.g] u (CopP false s u) := by
  cases e : s.g with
  | none =>
    refine (scopy_nil u).mono ?_
    rintro e1 u1 ⟨rfl, hu⟩
    obtain rfl := hu.symm
    exact ⟨none, rfl, fun _ => rfl, fun q => absurd e q, fun q hq => (by cases hq), Below.refl _ _⟩
  | some g =>
    obtain ⟨k, _, hgB, ho⟩ := h.obj g e
    refine (scopy g s.h (firstE s.h) s.zs u ho).mono ?_
    rintro e1 u1 ⟨g', rfl, hg', hr, hb⟩
    refine ⟨some g', rfl, fun q => (by rw [e] at q; cases q), fun _ q => (by cases q), fun q hq => ?_, hb⟩
    injection hq with hq
    subst hq
    exact ⟨hg', hr⟩
theorem mcopy_any (s : Sl) (B : Nat) (u : World) (h : SlAt u B true s) : Calls Tryd.prog 56 #[gp s.g] u (CopP true s u) := by
  cases e : s.g with
  | none =>
    refine (mcopy_nil u).mono ?_
    rintro e1 u1 ⟨rfl, hu⟩
    obtain rfl := hu.symm
    exact ⟨none, rfl, fun _ => rfl, fun q => absurd e q, fun q hq => (by cases hq), Below.refl _ _⟩
  | some g =>
    obtain ⟨k, _, hgB, ho⟩ := h.obj g e
    refine (mcopy g s.h (stateOf s.h s.key 54) (stateOf s.h s.key 92) s.zs u ho).mono ?_
    rintro e1 u1 ⟨g', rfl, hg', hr, hb⟩
    refine ⟨some g', rfl, fun q => (by rw [e] at q; cases q), fun _ q => (by cases q), fun q hq => ?_, hb⟩
    injection hq with hq
    subst hq
    exact ⟨hg', hr⟩
set_option maxHeartbeats 800000 in
set_option maxRecDepth 100000 in
/-- What the document says that it tells. -/
theorem fsum_f (s : Sl) (g B : Nat) (u : World) (h : SlAt u B false s) (e : s.g = some g) (hT : RTab u) (hz : s.zs.length ≤ 65536) : Calls Tryd.prog 81 #[.agg #[.int .i64 s.h, .bool s.kd, s.kv, s.bv]] u (SumP false s u) := by
  obtain ⟨k, hkd, _, _⟩ := h.obj g e
  obtain ⟨hh, HHH⟩ : ∃ x, Hid (x = s.h) := ⟨_, rfl⟩
  obtain ⟨kv, HKV⟩ : ∃ x, Hid (x = s.kv) := ⟨_, rfl⟩
  obtain ⟨bv, HBV⟩ : ∃ x, Hid (x = s.bv) := ⟨_, rfl⟩
  rw [hkd, ← HHH.out, ← HKV.out, ← HBV.out]
  have hb : Below u.heap.size u (u.alloc (.cells #[.int .i64 hh, .bool false, kv, bv] 86)) := (Below.refl _ _).alloc (Nat.le_refl _) _
  have KS : Hid (Calls Tryd.prog 41 #[.int .i64 hh, bv] (u.alloc (.cells #[.int .i64 hh, .bool false, kv, bv] 86)) fun e w' => ∃ v', e = .returned v' ∧ w'.ownsRow (u.alloc (.cells #[.int .i64 hh, .bool false, kv, bv] 86)).heap.size 5 1 v' (szOf hh) (cellsU8 (sumD hh s.zs)) ∧ Below (u.alloc (.cells #[.int .i64 hh, .bool false, kv, bv] 86)).heap.size (u.alloc (.cells #[.int .i64 hh, .bool false, kv, bv] 86)) w') := by
    rw [HHH.out, HBV.out] at *
    exact rsum_ok k _ s.zs _ (hT.below hb (by have := hT.size; omega)) (h.bv.kept hb.block) (by omega)
  have HB : Hid (Below u.heap.size u (u.alloc (.cells #[.int .i64 hh, .bool false, kv, bv] 86))) := hb
  have HE : Hid (ansS false s = sumD hh s.zs ∧ (ansS false s).length = szOf hh) := by
    rw [HHH.out]
    exact ⟨ansS_f e, by rw [ansS_f e, sumD_length _ k]⟩
  clear hb h hT hz k
  go_enter Tryd.func81, Tryd.ntmps81
  go_wp2_with (first | (go_at_call 41; refine KS.out.mono ?_))
  rintro e1 u1 ⟨v', rfl, ho, hb1⟩
  have H1 : Hid (u1.ownsRow u.heap.size 5 1 v' (ansS false s).length (cellsU8 (ansS false s)) ∧ Below u.heap.size u u1) := by
    rw [HE.out.2, HE.out.1]
    exact ⟨owns_base ho HB.out.size, HB.out.trans (hb1.mono HB.out.size)⟩
  clear ho hb1 KS
  go_wp2
  go_ret
  exact ⟨v', rfl, H1.out.1, H1.out.2⟩
set_option maxHeartbeats 800000 in
set_option maxRecDepth 100000 in
theorem fsum_t (s : Sl) (g B : Nat) (u : World) (h : SlAt u B true s) (e : s.g = some g) (hT : RTab u) (hz : s.zs.length ≤ 65536) : Calls Tryd.prog 81 #[.agg #[.int .i64 s.h, .bool s.kd, s.kv, s.bv]] u (SumP true s u) := by
  obtain ⟨k, hkd, _, _⟩ := h.obj g e
  obtain ⟨hh, HHH⟩ : ∃ x, Hid (x = s.h) := ⟨_, rfl⟩
  obtain ⟨kv, HKV⟩ : ∃ x, Hid (x = s.kv) := ⟨_, rfl⟩
  obtain ⟨bv, HBV⟩ : ∃ x, Hid (x = s.bv) := ⟨_, rfl⟩
  rw [hkd, ← HHH.out, ← HKV.out, ← HBV.out]
  have hb : Below u.heap.size u (u.alloc (.cells #[.int .i64 hh, .bool true, kv, bv] 86)) := (Below.refl _ _).alloc (Nat.le_refl _) _
  have KS : Hid (Calls Tryd.prog 24 #[.int .i64 hh, kv, bv] (u.alloc (.cells #[.int .i64 hh, .bool true, kv, bv] 86)) fun e w' => ∃ v', e = .returned v' ∧ w'.ownsRow (u.alloc (.cells #[.int .i64 hh, .bool true, kv, bv] 86)).heap.size 5 1 v' (cmL hh s.key s.zs).length (cellsU8 (cmL hh s.key s.zs)) ∧ Below (u.alloc (.cells #[.int .i64 hh, .bool true, kv, bv] 86)).heap.size (u.alloc (.cells #[.int .i64 hh, .bool true, kv, bv] 86)) w') := by
    rw [HHH.out, HBV.out, HKV.out] at *
    have := h.kl
    exact rc_ok s.h _ s.key _ s.zs _ (hT.below hb (by have := hT.size; omega)) (h.kv.kept hb.block) (by omega) (h.bv.kept hb.block) (by omega)
  have HB : Hid (Below u.heap.size u (u.alloc (.cells #[.int .i64 hh, .bool true, kv, bv] 86))) := hb
  have HE : Hid (ansS true s = cmL hh s.key s.zs) := by
    show _ = _
    rw [HHH.out, ansS_t e]
    unfold cmL
    rw [if_pos k]
  clear hb h hT hz k
  go_enter Tryd.func81, Tryd.ntmps81
  go_wp2_with (first | (go_at_call 24; refine KS.out.mono ?_))
  rintro e1 u1 ⟨v', rfl, ho, hb1⟩
  have H1 : Hid (u1.ownsRow u.heap.size 5 1 v' (ansS true s).length (cellsU8 (ansS true s)) ∧ Below u.heap.size u u1) := by
    rw [HE.out]
    exact ⟨owns_base ho HB.out.size, HB.out.trans (hb1.mono HB.out.size)⟩
  clear ho hb1 KS
  go_wp2
  go_ret
  exact ⟨v', rfl, H1.out.1, H1.out.2⟩
theorem fsum_any (mc : Bool) (s : Sl) (g B : Nat) (u : World) (h : SlAt u B mc s) (e : s.g = some g) (hT : RTab u) (hz : s.zs.length ≤ 65536) : Calls Tryd.prog 81 #[.agg #[.int .i64 s.h, .bool s.kd, s.kv, s.bv]] u (SumP mc s u) := by
  cases mc
  · exact fsum_f s g B u h e hT hz
  · exact fsum_t s g B u h e hT hz
end Go.Proofs.YtioggmjocelolacDoor
namespace Go.Proofs.YtioggmjocelolacDoor
open Go.RowKit
set_option linter.unusedVariables false
set_option linter.unusedSimpArgs false
def ToldP (B t : Nat) (mc : Bool) (d : Nat → Sl) (left k : Nat) (u : World) (e : Ending) (u' : World) : Prop := e = .returned (.bool true) ∧ (∃ kv' wv' ts', ts'.length ≤ k + 1 ∧ TSD u' B t mc d kv' wv' ts' left) ∧ Below B u u'
theorem size86 : (Tryd.prog.info? 86).map (·.size) = some 4 := by kernel_rfl
def fedL (s : Sl) : List Value := [.int .i64 s.h, .bool s.kd, s.kv, s.bv]
theorem TS.fed {w : World} {B t n left i : Nat} {mc : Bool} {d : Nat → Sl} {kv wv : Value} {ks ws : List Value} (s : TS w B t mc d kv wv n ks ws left) (hi : i < 3) : w.rangeAt t (6 + i * 4) (fedL (d i)) := fun j v hv => by
  have hj : j < 4 := by have := (List.getElem?_eq_some_iff.1 hv).1; simpa [fedL] using this
  have h : j = 0 ∨ j = 1 ∨ j = 2 ∨ j = 3 := by omega
  rcases h with rfl | rfl | rfl | rfl
  · rw [← hv]; exact s.fh i hi
  · rw [← hv]; exact s.fd i hi
  · rw [← hv]; exact s.fk i hi
  · rw [← hv]; exact s.fb i hi
theorem there_blk {u u' : World} {B o n : Nat} (h : u.there B o n) (e : u'.heap[B]? = u.heap[B]?) : u'.there B o n := fun j hj => by
  rw [World.cell?_of_block (a := ⟨B, o + j, none⟩) e, World.frozen?_of_block (a := ⟨B, o + j, none⟩) e]; exact h j hj
theorem owns_len {w : World} {B e s n : Nat} {v : Value} {xs : List Value} (h : w.ownsRow B e s v n xs) (k : Nat) (hk : n = k) : w.ownsRow B e s v k xs := by subst hk; exact h
/-- Behind both appends. -/
theorem told_end {B t left n g1 c1 g2 c2 : Nat} {mc : Bool} {d : Nat → Sl} {kv wv A W : Value} {ts : List (Value × Value × List Int)} {Z : List Int} {u0 u u2 w4 w5 : World} {L : Nat} {wa : Option Addr} {wc : Nat}
    (hn : n = ts.length) (h0 : TSD u0 B t mc d kv wv ts left) (h2 : TSD u2 B t mc d kv wv ts left) (ha : u2.ownsRow u0.heap.size 5 1 A L (cellsU8 Z)) (hL : L = Z.length) (hZ : Z.length ≤ 64) (hw : View u2 W Z ∧ (Z ≠ [] → ∀ b, b ∈ vblk W → u0.heap.size ≤ b ∧ b ∉ vblk A))
    (hb2 : Below B u u2) (hBu : B ≤ u.heap.size) (hBs : B ≤ u0.heap.size) (hS : u0.heap.size ≤ u2.heap.size) (f4 : Fr u2 w4 ([t] ++ vblk kv)) (c4 : ∀ j, j ≠ 18 → w4.cell? ⟨t, j, none⟩ = u2.cell? ⟨t, j, none⟩) (d4 : w4.cell? ⟨t, 18, none⟩ = some (.slice (some ⟨g1, 0, none⟩) (n + 1) c1)) (t4 : w4.there t 0 21)
    (k4 : w4.ownsRow B 22 1 (.slice (some ⟨g1, 0, none⟩) (n + 1) c1) (n + 1) (ts.map (·.1) ++ [A])) (hg1 : g1 ∈ vblk kv ∨ u2.heap.size ≤ g1) (f5 : Fr w4 w5 (vblk wv)) (k5 : w5.ownsRow B 22 1 (.slice (some ⟨g2, 0, none⟩) (n + 1) c2) (n + 1) (ts.map (·.2.1) ++ [W])) (hg2 : g2 ∈ vblk wv ∨ w4.heap.size ≤ g2) (ht5 : w5.heap[t]? = w4.heap[t]?) (hc19 : w5.cell? ⟨t, 19, none⟩ = some (.slice wa n wc)) :
    (∃ kv' wv' ts', ts'.length ≤ ts.length + 1 ∧ TSD (w5.setCell ⟨t, 19, none⟩ (.slice (some ⟨g2, 0, none⟩) (n + 1) c2)) B t mc d kv' wv' ts' left) ∧ Below B u (w5.setCell ⟨t, 19, none⟩ (.slice (some ⟨g2, 0, none⟩) (n + 1) c2)) := by
  have s := h2.s
  have b1 : vblk (.slice (some ⟨g1, 0, none⟩) (n + 1) c1) = [g1] := rfl
  have b2 : vblk (.slice (some ⟨g2, 0, none⟩) (n + 1) c2) = [g2] := rfl
  have hg1w : g1 ∉ vblk wv := fun q => by
    rcases hg1 with e | e
    · exact s.ap.kw g1 e q
    · have := (owns_blks s.wr g1 q).2; omega
  have hg1l : g1 < w4.heap.size := (owns_blks k4 g1 (by rw [b1]; exact List.mem_singleton.2 rfl)).2
  have hg12 : g1 ≠ g2 := fun q => by
    rcases hg2 with e | e
    · exact hg1w (by rw [q]; exact e)
    · omega
  have hg1t : g1 ≠ t := fun q => by
    rcases hg1 with e | e
    · exact s.ap.kt (by rw [← q]; exact e)
    · have := (s.lt t (mb_t _ _ _ _)).2; omega
  have hg2t : g2 ≠ t := fun q => by
    rcases hg2 with e | e
    · exact s.ap.wt (by rw [← q]; exact e)
    · have := (s.lt t (mb_t _ _ _ _)).2; have := f4.size; omega
  have f6 : Fr w4 (w5.setCell ⟨t, 19, none⟩ (.slice (some ⟨g2, 0, none⟩) (n + 1) c2)) ([t] ++ vblk wv) :=
    (f5.mono (fun b hb => List.mem_append_right _ hb)).trans ((set_fr w5 t 19 _).mono (fun b hb => List.mem_append_left _ hb))
  have f : Fr u2 (w5.setCell ⟨t, 19, none⟩ (.slice (some ⟨g2, 0, none⟩) (n + 1) c2)) ([t] ++ (vblk kv ++ vblk wv)) := by
    refine (f4.mono (fun b hb => ?_)).trans (f6.mono (fun b hb => ?_)) <;> simp only [List.mem_append] at hb ⊢ <;> rcases hb with hb | hb
    · exact .inl hb
    · exact .inr (.inl hb)
    · exact .inl hb
    · exact .inr (.inr hb)
  have hcc : ∀ j, j ≠ 19 → (w5.setCell ⟨t, 19, none⟩ (.slice (some ⟨g2, 0, none⟩) (n + 1) c2)).cell? ⟨t, j, none⟩ = w4.cell? ⟨t, j, none⟩ := fun j hj => by
    rw [cell_other2 _ _ _ _ _ (fun e => hj e.symm)]
    exact World.cell?_of_block (a := ⟨t, j, none⟩) ht5
  have hk6 : (w5.setCell ⟨t, 19, none⟩ (.slice (some ⟨g2, 0, none⟩) (n + 1) c2)).ownsRow B 22 1 (.slice (some ⟨g1, 0, none⟩) (n + 1) c1) (n + 1) (ts.map (·.1) ++ [A]) := by
    refine owns_same k4 (fun b hb => ?_)
    rw [b1, List.mem_singleton] at hb
    subst hb
    exact f6.block b hg1l (fun q => by
      simp only [List.mem_append, List.mem_singleton] at q
      rcases q with q | q
      · exact hg1t q
      · exact hg1w q)
  have hw6 : (w5.setCell ⟨t, 19, none⟩ (.slice (some ⟨g2, 0, none⟩) (n + 1) c2)).ownsRow B 22 1 (.slice (some ⟨g2, 0, none⟩) (n + 1) c2) (n + 1) (ts.map (·.2.1) ++ [W]) := by
    refine owns_same k5 (fun b hb => ?_)
    rw [b2, List.mem_singleton] at hb
    subst hb
    exact World.heap_setCells_other w5 t 19 [_] ((owns_blks k5 b (by rw [b2]; exact List.mem_singleton.2 rfl)).2) hg2t
  have hS4 := f4.size
  have hkb : ∀ b, b ∈ vblk (.slice (some ⟨g1, 0, none⟩) (n + 1) c1) → b ∈ vblk kv ∨ u2.heap.size ≤ b := fun b hb => by
    rw [b1, List.mem_singleton] at hb
    subst hb
    exact hg1
  have hwb : ∀ b, b ∈ vblk (.slice (some ⟨g2, 0, none⟩) (n + 1) c2) → b ∈ vblk wv ∨ u2.heap.size ≤ b := fun b hb => by
    rw [b2, List.mem_singleton] at hb
    subst hb
    rcases hg2 with e | e
    · exact .inl e
    · exact .inr (by omega)
  have hTS := s.rows (n' := n + 1) (ks' := ts.map (·.1) ++ [A]) (ws' := ts.map (·.2.1) ++ [W]) f (World.there_setCells (there_blk t4 ht5) _ _ [_]) (fun j h18 h19 => (hcc j h19).trans (c4 j h18)) ((hcc 18 (by decide)).trans d4) (World.cell?_setCell_same' _ _ _ (by rw [hc19]; rfl)) hk6 hw6 hkb hwb (fun b hb q => by
    rw [b1, List.mem_singleton] at hb
    rw [b2, List.mem_singleton] at q
    exact hg12 (hb.symm.trans q))
  have hfm : ∀ b, b ∈ [t] ++ (vblk kv ++ vblk wv) → b ∈ Mb t d kv wv ∨ u2.heap.size ≤ b := fun b hb => by
    simp only [List.mem_append, List.mem_singleton] at hb
    rcases hb with hb | hb | hb
    · exact .inl (by rw [hb]; exact mb_t _ _ _ _)
    · exact .inl (mb_k hb)
    · exact .inl (mb_w hb)
  have hmm : ∀ b, b ∈ Mb t d (.slice (some ⟨g1, 0, none⟩) (n + 1) c1) (.slice (some ⟨g2, 0, none⟩) (n + 1) c2) → b ∈ Mb t d kv wv ∨ u2.heap.size ≤ b := fun b hb => by
    rcases mb_mem hb with q | ⟨i, hi, q⟩ | q | q
    · exact .inl (by rw [q]; exact mb_t _ _ _ _)
    · exact .inl (mb_g hi q)
    · rcases hkb b q with q | q
      · exact .inl (mb_k q)
      · exact .inr q
    · rcases hwb b q with q | q
      · exact .inl (mb_w q)
      · exact .inr q
  have hao : ∀ b, b ∈ vblk A → u0.heap.size ≤ b ∧ b < u2.heap.size := owns_blks ha
  have hMold : ∀ b, b ∈ Mb t d kv wv → b < u0.heap.size := fun b hb => (h0.s.lt b hb).2
  have hI : KtI (w5.setCell ⟨t, 19, none⟩ (.slice (some ⟨g2, 0, none⟩) (n + 1) c2)) B (Mb t d (.slice (some ⟨g1, 0, none⟩) (n + 1) c1) (.slice (some ⟨g2, 0, none⟩) (n + 1) c2)) (A, W, Z) := by
    have hi2 : KtI u2 B (Mb t d kv wv) (A, W, Z) := ⟨owns_len (owns_base ha hBs) _ hL, hw.1, fun b hb q => by have := hMold b q; have := (hao b hb).1; omega, fun e b hb q => by have := hMold b q; have := (hw.2 e b hb).1; omega, hZ⟩
    exact hi2.fr f (fun b hb q => by
      rcases hfm b q with q | q
      · exact hi2.om b hb q
      · have := (hao b hb).2; omega) (fun e b hb q => by
      rcases hfm b q with q | q
      · exact hi2.wm e b hb q
      · have := view_blks hw.1 e b hb; omega) hmm
  have hK := (h2.k.fr f hfm hmm).push (C := u0.heap.size) hI (h0.k.old) (fun b hb => (hao b hb).1) (fun e b hb => hw.2 e b hb)
  refine ⟨⟨_, _, ts ++ [(A, W, Z)], by simp, ?_, hK⟩, hb2.trans (f.toBelow (fun b hb => ?_) (Nat.le_trans hBu hb2.size))⟩
  · have e1 : (ts ++ [(A, W, Z)]).length = n + 1 := by rw [List.length_append, hn]; rfl
    rw [e1, List.map_append, List.map_append]
    exact hTS
  · simp only [List.mem_append, List.mem_singleton] at hb
    rcases hb with hb | hb | hb
    · rw [hb]; exact s.tB
    · exact (owns_blks s.kr b hb).1
    · exact (owns_blks s.wr b hb).1
set_option maxHeartbeats 3200000 in
set_option maxRecDepth 100000 in
/-- told. -/
theorem told_ok (mc sp : Bool) (B t i left : Nat) (d : Nat → Sl) (kv wv : Value) (ts : List (Value × Value × List Int)) (a : Value) (u0 u : World) (h0 : TSD u0 B t mc d kv wv ts left) (hb0 : Below u0.heap.size u0 u) (hi : i < 3) (ha : u.ownsRow u0.heap.size 5 1 a (ansS mc (d i)).length (cellsU8 (ansS mc (d i)))) (hT : Tbs u) (hB : 4 ≤ B) (hBu : B ≤ u0.heap.size) (hn : ts.length ≤ 100) :
    Calls Tryd.prog 71 #[.pointer (some ⟨t, 0, none⟩), .int .i64 (i : Nat), a, .bool sp] u (ToldP B t mc d left ts.length u) := by
  obtain ⟨i0, hii, hz0, hz1, hz2⟩ := info_parts Tryd.info22
  have H1 := h0.below hb0
  have hSL := H1.s.sl i hi
  have hfh := H1.s.fh i hi
  have HZL : Hid ((ansS mc (d i)).length ≤ 64) := ansS_len hSL
  have HZS : Hid ((d i).zs.length ≤ 65536) := by show _ ≤ _; have := H1.s.zl i hi; omega
  obtain ⟨aa, ac, haa⟩ : ∃ x c, a = .slice x (ansS mc (d i)).length c := owns_slice0 ha
  obtain ⟨L, HLL⟩ : ∃ L, Hid (L = (ansS mc (d i)).length) := ⟨_, rfl⟩
  rw [← HLL.out] at haa ha
  subst haa
  obtain ⟨Z, HZZ⟩ : ∃ Z, Hid (Z = ansS mc (d i)) := ⟨_, rfl⟩
  rw [← HZZ.out] at ha HLL HZL
  have hL64 : L ≤ 64 := by rw [HLL.out]; exact HZL.out
  obtain ⟨n, HNN⟩ : ∃ n, Hid (n = ts.length) := ⟨_, rfl⟩
  have hn1 : n ≤ 100 := by rw [HNN.out]; exact hn
  have H0 : Hid (TSD u0 B t mc d kv wv ts left) := h0
  have HA : Hid (u.ownsRow u0.heap.size 5 1 (.slice aa L ac) L (cellsU8 Z)) := ha
  have HH : Hid (TSD u B t mc d kv wv ts left) := H1
  have HBs : Hid (B ≤ u0.heap.size) := hBu
  have HBu : Hid (B ≤ u.heap.size) := Nat.le_trans hBu hb0.size
  have HS : Hid (u0.heap.size ≤ u.heap.size) := hb0.size
  have HTb : Hid (Tbs u) := hT
  have HB4 : Hid (4 ≤ B) := hB
  have hi3 : ((i : Nat) : Int) < 3 := by omega
  have HI3 : Hid (i < 3) := hi
  clear h0 hb0 hi ha hT hB hBu H1 hn
  cases hg : (d i).g with
  | none =>
    have hno : d i = Sl.no := hSL.nil hg
    have hZn : Z = [] := by rw [HZZ.out, ansS_none hg]
    rw [hno] at hfh
    have hfh' : u.cell? ⟨t, 6 + i * 4, none⟩ = some (.int .i64 0) := hfh
    clear hfh hSL hno
    have KS : Hid (Calls Tryd.prog 20 #[.slice aa L ac, .slice none 0 0] u fun e w' => e = .returned (.bool true) ∧ ∃ m, w' = u.drewN m) := by
      have h1 := same_any _ (.slice none 0 0) Z [] u (viewOwns HA.out HLL.out.symm) (view_nil u)
      rw [hZn] at h1
      exact h1
    go_enter Tryd.func71, Tryd.ntmps71
    go_wp2_with (first | (go_at_call 20; refine KS.out.mono ?_))
    rintro e2 u2 ⟨rfl, m2, hu2⟩
    have HD2 : Hid (Below u.heap.size u u2) := by rw [hu2]; exact ⟨rfl, rfl, rfl, Nat.le_refl _, fun _ _ => rfl⟩
    have H2 : Hid (TSD u2 B t mc d kv wv ts left) := HH.out.below HD2.out
    have HA2 : Hid (u2.ownsRow u0.heap.size 5 1 (.slice aa L ac) L (cellsU8 Z)) := owns_kept HA.out HD2.out
    have HW2 : Hid (View u2 (.slice none 0 0) Z ∧ (Z ≠ [] → ∀ b, b ∈ vblk (.slice none 0 0) → u0.heap.size ≤ b ∧ b ∉ vblk (.slice aa L ac))) := ⟨by rw [hZn]; exact view_nil u2, fun e => absurd hZn e⟩
    have HB2 : Hid (Below B u u2) := HD2.out.mono HBu.out
    have HS2 : Hid (u0.heap.size ≤ u2.heap.size) := Nat.le_trans HS.out HD2.out.size
    clear hu2 HD2 hfh' KS
    have hpa : ∀ b, b ∈ vblk (.slice aa L ac) → u0.heap.size ≤ b := fun b hb => (owns_blks HA2.out b hb).1
    cases sp with
    | true =>
      have KSp : Hid (Calls Tryd.prog 21 #[.slice aa L ac] u2 fun e w' => e = .returned (.tuple #[]) ∧ u2.grownBy w' (Value.ownBlock (.slice aa L ac))) := spoil_any u0.heap.size L _ Z u2 (by omega) HS2.out HA2.out
      go_wp2_with (first | (go_at_call 21; refine KSp.out.mono ?_))
      rintro e3 w3 ⟨rfl, hg3⟩
      have HX : Hid (TSD w3 B t mc d kv wv ts left ∧ Below B u w3) := by
        have hf := grown_fr hg3
        refine ⟨H2.out.new H0.out hf hpa, HB2.out.trans (hf.toBelow (fun b hb => ?_) (Nat.le_trans HBu.out HB2.out.size))⟩
        have := hpa b hb
        have := HBs.out
        omega
      clear hg3
      go_wp2
      go_ret
      exact ⟨rfl, ⟨kv, wv, ts, by omega, HX.out.1⟩, HX.out.2⟩
    | false =>
      have hc18 : u2.cell? ⟨t, 18, none⟩ = some kv := H2.out.s.ck
      obtain ⟨ka, kc, HKV⟩ : ∃ a c, Hid (kv = .slice a n c) := by
        obtain ⟨a, c, e⟩ := owns_slice0 H2.out.s.kr
        exact ⟨a, c, by rw [HNN.out]; exact e⟩
      obtain ⟨wa, wc, HWV⟩ : ∃ a c, Hid (wv = .slice a n c) := by
        obtain ⟨a, c, e⟩ := owns_slice0 H2.out.s.wr
        exact ⟨a, c, by rw [HNN.out]; exact e⟩
      rw [HKV.out] at hc18
      have HO5 : Hid ((u2.alloc (.cells #[.slice aa L ac] 22)).ownsRow B 22 1 (.slice ka n kc) n (ts.map (·.1))) := by
        show World.ownsRow _ _ _ _ _ _ _
        rw [← HKV.out, HNN.out]
        exact owns_kept H2.out.s.kr ((Below.refl _ _).alloc (Nat.le_refl _) _)
      have HN5 : Hid (∀ j v, [(Value.slice aa L ac)][j]? = some v → (u2.alloc (.cells #[.slice aa L ac] 22)).cell? ((⟨u2.heap.size, 0, none⟩ : Addr).add j) = some v) := fun j v hj => by
        match j, hj with
        | 0, hj => simp at hj; subst hj; simp [Addr.add]
      have HC5 : Hid (∀ v ∈ [(Value.slice aa L ac)], v.oneCell' = true) := fun v hv => by
        simp at hv
        subst hv
        rfl
      have HBs5 : Hid (B ≤ (u2.alloc (.cells #[.slice aa L ac] 22)).heap.size) := by
        have h1 := HBs.out
        have h2 := HS2.out
        show _ ≤ _
        simp
        omega
      go_wp2_with (first
        | (at_builtin; go_must (refine wpList_append_lies _ rfl (.tmp 36) (.tmp 38) 40 rfl B 22 i0 (.slice none 0 0) 1 24 Tryd.underlying40 hii hz0 hz1 hz2 rfl (by decide) _ _ _ rfl HO5.out ⟨u2.heap.size, 0, none⟩ 1 1 [(Value.slice aa L ac)] rfl rfl HN5.out HC5.out (by decide) (by unfold maxLen; omega) (by omega) HBs5.out (u2.heap.size + 1) (by simp) ?_)))
      intro g1 c1 w3 hown3 hgr3 hat3 hlt3
      have htk : t ∉ vblk (.slice ka n kc) := by rw [← HKV.out]; exact H2.out.s.ap.kt
      have htl : t < u2.heap.size := (H2.out.s.lt t (mb_t _ _ _ _)).2
      have HF3 : Hid (Fr u2 w3 (vblk kv)) := by
        show Fr u2 w3 (vblk kv)
        rw [HKV.out]
        have h1 : Fr u2 (u2.alloc (.cells #[.slice aa L ac] 22)) (vblk (.slice ka n kc)) := below_fr ((Below.refl _ _).alloc (Nat.le_refl _) _) _
        exact h1.trans (grown_fr hgr3)
      have ht3 : w3.heap[t]? = u2.heap[t]? := HF3.out.block t htl (by rw [HKV.out]; exact htk)
      have hc18' : w3.cell? ⟨t, 18, none⟩ = some (.slice ka n kc) := (World.cell?_of_block (a := ⟨t, 18, none⟩) ht3).trans hc18
      have hf18 : w3.frozen? ⟨t, 18, none⟩ = false := by
        rw [World.frozen?_of_block (a := ⟨t, 18, none⟩) ht3]
        have := (H2.out.s.there 18 (by omega)).2
        simpa using this
      have HK3 : Hid (w3.ownsRow B 22 1 (.slice (some ⟨g1, 0, none⟩) (n + 1) c1) (n + 1) (ts.map (·.1) ++ [(Value.slice aa L ac)])) := hown3
      have HG1 : Hid (g1 ∈ vblk kv ∨ u2.heap.size ≤ g1) := by
        show _ ∨ _
        rcases hat3 with q | q
        · exact .inl (by rw [HKV.out]; simpa [vblk] using q)
        · exact .inr (by omega)
      clear hown3 hgr3 hat3 hlt3 HO5 HN5 HC5 HBs5 htk hc18
      go_upto_region 9 with fail
      obtain ⟨KV, HKVV⟩ : ∃ v, Hid (v = Value.slice (some ⟨g1, 0, none⟩) (n + 1) c1) := ⟨_, rfl⟩
      have H4f : Hid (Fr u2 (w3.setCell ⟨t, 18, none⟩ (.slice (some ⟨g1, 0, none⟩) (n + 1) c1)) ([t] ++ vblk kv)) := by
        have h1 : Fr u2 w3 ([t] ++ vblk kv) := HF3.out.mono (fun b hb => List.mem_append_right _ hb)
        exact h1.trans ((set_fr w3 t 18 _).mono (fun b hb => List.mem_append_left _ hb))
      have H4c : Hid (∀ j, j ≠ 18 → (w3.setCell ⟨t, 18, none⟩ (.slice (some ⟨g1, 0, none⟩) (n + 1) c1)).cell? ⟨t, j, none⟩ = u2.cell? ⟨t, j, none⟩) := fun j hj => by
        rw [cell_other2 _ _ _ _ _ (fun e => hj e.symm)]
        exact World.cell?_of_block (a := ⟨t, j, none⟩) ht3
      have H4d : Hid ((w3.setCell ⟨t, 18, none⟩ (.slice (some ⟨g1, 0, none⟩) (n + 1) c1)).cell? ⟨t, 18, none⟩ = some (.slice (some ⟨g1, 0, none⟩) (n + 1) c1)) := World.cell?_setCell_same' _ _ _ (by rw [hc18']; rfl)
      have H4t : Hid ((w3.setCell ⟨t, 18, none⟩ (.slice (some ⟨g1, 0, none⟩) (n + 1) c1)).there t 0 21) := World.there_setCells (there_blk H2.out.s.there ht3) _ _ [_]
      have HT1 : Hid (g1 ≠ t) := by
        show g1 ≠ t
        rcases HG1.out with q | q
        · intro e; rw [e] at q; exact H2.out.s.ap.kt q
        · omega
      have H4k : Hid ((w3.setCell ⟨t, 18, none⟩ (.slice (some ⟨g1, 0, none⟩) (n + 1) c1)).ownsRow B 22 1 (.slice (some ⟨g1, 0, none⟩) (n + 1) c1) (n + 1) (ts.map (·.1) ++ [(Value.slice aa L ac)])) := by
        refine owns_same HK3.out (fun b hb => ?_)
        have : b = g1 := by simpa [vblk, Value.ownBlock] using hb
        subst this
        exact World.heap_setCells_other w3 t 18 [_] ((owns_blks HK3.out b hb).2) HT1.out
      generalize w3.setCell ⟨t, 18, none⟩ (.slice (some ⟨g1, 0, none⟩) (n + 1) c1) = w4 at H4f H4c H4d H4t H4k ⊢
      clear HK3 ht3 hc18' hf18 HF3
      have htl4 : t < w4.heap.size := Nat.lt_of_lt_of_le htl H4f.out.size
      have hc19 : w4.cell? ⟨t, 19, none⟩ = some (.slice wa n wc) := (H4c.out 19 (by decide)).trans (by rw [← HWV.out]; exact H2.out.s.cw)
      have HO6 : Hid ((w4.alloc (.cells #[(Value.slice none 0 0)] 22)).ownsRow B 22 1 (.slice wa n wc) n (ts.map (·.2.1))) := by
        show World.ownsRow _ _ _ _ _ _ _
        have h1 : w4.ownsRow B 22 1 wv ts.length (ts.map (·.2.1)) := owns_same H2.out.s.wr (fun b hb => H4f.out.block b (owns_blks H2.out.s.wr b hb).2 (fun q => by
          simp only [List.mem_append, List.mem_singleton] at q
          rcases q with q | q
          · exact H2.out.s.ap.wt (by rw [← q]; exact hb)
          · exact H2.out.s.ap.kw b q hb))
        rw [← HWV.out, HNN.out]
        exact owns_kept h1 ((Below.refl _ _).alloc (Nat.le_refl _) _)
      have HN6 : Hid (∀ j v, [(Value.slice none 0 0)][j]? = some v → (w4.alloc (.cells #[(Value.slice none 0 0)] 22)).cell? ((⟨w4.heap.size, 0, none⟩ : Addr).add j) = some v) := fun j v hj => by
        match j, hj with
        | 0, hj => simp at hj; subst hj; simp [Addr.add]
      have HC6 : Hid (∀ v ∈ [(Value.slice none 0 0)], v.oneCell' = true) := fun v hv => by
        simp at hv
        subst hv
        rfl
      have HBs6 : Hid (B ≤ (w4.alloc (.cells #[(Value.slice none 0 0)] 22)).heap.size) := by
        have h1 := HBs.out
        have h2 := HS2.out
        have h3 := H4f.out.size
        show _ ≤ _
        simp
        omega
      go_wp2_with (first
        | (at_builtin; go_must (refine wpList_append_lies _ rfl (.tmp 46) (.tmp 48) 40 rfl B 22 i0 (.slice none 0 0) 1 24 Tryd.underlying40 hii hz0 hz1 hz2 rfl (by decide) _ _ _ rfl HO6.out ⟨w4.heap.size, 0, none⟩ 1 1 [(Value.slice none 0 0)] rfl rfl HN6.out HC6.out (by decide) (by unfold maxLen; omega) (by omega) HBs6.out (w4.heap.size + 1) (by simp) ?_)))
      intro g2 c2 w5 hown5 hgr5 hat5 hlt5
      have htw : t ∉ vblk (.slice wa n wc) := by rw [← HWV.out]; exact H2.out.s.ap.wt
      have HF5 : Hid (Fr w4 w5 (vblk wv)) := by
        show Fr w4 w5 (vblk wv)
        rw [HWV.out]
        have h1 : Fr w4 (w4.alloc (.cells #[(Value.slice none 0 0)] 22)) (vblk (.slice wa n wc)) := below_fr ((Below.refl _ _).alloc (Nat.le_refl _) _) _
        exact h1.trans (grown_fr hgr5)
      have ht5 : w5.heap[t]? = w4.heap[t]? := HF5.out.block t htl4 (by rw [HWV.out]; exact htw)
      have hc19' : w5.cell? ⟨t, 19, none⟩ = some (.slice wa n wc) := (World.cell?_of_block (a := ⟨t, 19, none⟩) ht5).trans hc19
      have hf19 : w5.frozen? ⟨t, 19, none⟩ = false := by
        rw [World.frozen?_of_block (a := ⟨t, 19, none⟩) ht5]
        have := (H4t.out 19 (by omega)).2
        simpa using this
      have HK5 : Hid (w5.ownsRow B 22 1 (.slice (some ⟨g2, 0, none⟩) (n + 1) c2) (n + 1) (ts.map (·.2.1) ++ [(Value.slice none 0 0)])) := hown5
      have HG2 : Hid (g2 ∈ vblk wv ∨ w4.heap.size ≤ g2) := by
        show _ ∨ _
        rcases hat5 with q | q
        · exact .inl (by rw [HWV.out]; simpa [vblk] using q)
        · exact .inr (by omega)
      clear hown5 hgr5 hat5 hlt5 HO6 HN6 HC6 HBs6 htw hc19
      have HE : Hid ((∃ kv' wv' ts', ts'.length ≤ ts.length + 1 ∧ TSD (w5.setCell ⟨t, 19, none⟩ (.slice (some ⟨g2, 0, none⟩) (n + 1) c2)) B t mc d kv' wv' ts' left) ∧ Below B u (w5.setCell ⟨t, 19, none⟩ (.slice (some ⟨g2, 0, none⟩) (n + 1) c2))) := by
        exact told_end (B := B) (t := t) (mc := mc) (d := d) (kv := kv) (wv := wv) (ts := ts) (left := left) (n := n) (u0 := u0) (u := u) (u2 := u2) (w4 := w4) (w5 := w5) (A := .slice aa L ac) (W := (Value.slice none 0 0)) (Z := Z) HNN.out H0.out H2.out HA2.out HLL.out HZL.out HW2.out HB2.out HBu.out HBs.out HS2.out H4f.out H4c.out H4d.out H4t.out H4k.out HG1.out HF5.out HK5.out HG2.out ht5 hc19'
      go_wp2
      go_ret
      exact ⟨rfl, HE.out.1, HE.out.2⟩
  | some g =>
    obtain ⟨kk, _, _, _⟩ := hSL.obj g hg
    obtain ⟨hv, HHV⟩ : ∃ x, Hid (x = (d i).h) := ⟨_, rfl⟩
    have hne : ¬ hv = 0 := by rw [HHV.out]; rcases kk with e | e | e | e <;> omega
    rw [← HHV.out] at hfh
    have HFL : Hid (u.rangeAt t (6 + i * 4) (fedL (d i))) := HH.out.s.fed HI3.out
    have KF : Hid (Calls Tryd.prog 81 #[.agg (fedL (d i)).toArray] u (SumP mc (d i) u)) := fsum_any mc (d i) g B u hSL hg HTb.out.r HZS.out
    obtain ⟨FL, HFLE⟩ : ∃ L, Hid (L = fedL (d i)) := ⟨_, rfl⟩
    rw [← HFLE.out] at HFL KF
    have H86 : Hid ((Tryd.prog.info? 86).map (·.size) = some FL.length) := by show _ = _; rw [HFLE.out]; exact size86
    clear hSL kk
    go_enter Tryd.func71, Tryd.ntmps71
    go_wp2_with (first
      | (refine wpList_load_mid (by rfl) 86 (.tmp 22) (by rfl) t (6 + i * 4) (by rfl) FL _ HFL.out Tryd.underlying86 rfl H86.out ?_)
      | (go_at_call 81; refine KF.out.mono ?_))
    intro e1 u1 hp1
    obtain ⟨v1, rfl, ho1, hb1⟩ := hp1
    rw [← HZZ.out] at ho1
    obtain ⟨va, vc, hva⟩ : ∃ x c, v1 = .slice x Z.length c := owns_slice0 ho1
    rw [← HLL.out] at hva ho1
    subst hva
    have HV1 : Hid (View u1 (.slice va L vc) Z ∧ ∀ b, b ∈ vblk (.slice va L vc) → u.heap.size ≤ b) := ⟨viewOwns ho1 HLL.out.symm, fun b hb => (owns_blks ho1 b hb).1⟩
    have HB1 : Hid (Below u.heap.size u u1) := hb1
    have HA1 : Hid (u1.ownsRow u0.heap.size 5 1 (.slice aa L ac) L (cellsU8 Z)) := owns_kept HA.out hb1
    have KS : Hid (Calls Tryd.prog 20 #[.slice aa L ac, .slice va L vc] u1 fun e w' => e = .returned (.bool true) ∧ ∃ m, w' = u1.drewN m) := by
      have h1 := same_any _ _ Z Z u1 (viewOwns HA1.out HLL.out.symm) HV1.out.1
      rw [decide_eq_true (rfl : Z = Z)] at h1
      exact h1
    clear ho1 hb1 KF HFL
    go_wp2_with (first | (go_at_call 20; refine KS.out.mono ?_))
    rintro e2 u2 ⟨rfl, m2, hu2⟩
    have HD2 : Hid (Below u1.heap.size u1 u2) := by rw [hu2]; exact ⟨rfl, rfl, rfl, Nat.le_refl _, fun _ _ => rfl⟩
    have HD3 : Hid (Below u.heap.size u u2) := HB1.out.trans (HD2.out.mono HB1.out.size)
    have H2 : Hid (TSD u2 B t mc d kv wv ts left) := HH.out.below HD3.out
    have HA2 : Hid (u2.ownsRow u0.heap.size 5 1 (.slice aa L ac) L (cellsU8 Z)) := owns_kept HA1.out HD2.out
    have HW2 : Hid (View u2 (.slice va L vc) Z ∧ (Z ≠ [] → ∀ b, b ∈ vblk (.slice va L vc) → u0.heap.size ≤ b ∧ b ∉ vblk (.slice aa L ac))) := ⟨HV1.out.1.kept HD2.out.block, fun e b hb => by
      have h1 := HV1.out.2 b hb
      have h2 := HS.out
      refine ⟨by omega, fun q => ?_⟩
      have h3 := (owns_blks HA.out b q).2
      omega⟩
    have HB2 : Hid (Below B u u2) := HD3.out.mono HBu.out
    have HS2 : Hid (u0.heap.size ≤ u2.heap.size) := Nat.le_trans HS.out HD3.out.size
    clear hu2 HD2 HD3 hfh KS HV1 HB1 HA1
    have hpa : ∀ b, b ∈ vblk (.slice aa L ac) → u0.heap.size ≤ b := fun b hb => (owns_blks HA2.out b hb).1
    cases sp with
    | true =>
      have KSp : Hid (Calls Tryd.prog 21 #[.slice aa L ac] u2 fun e w' => e = .returned (.tuple #[]) ∧ u2.grownBy w' (Value.ownBlock (.slice aa L ac))) := spoil_any u0.heap.size L _ Z u2 (by omega) HS2.out HA2.out
      go_wp2_with (first | (go_at_call 21; refine KSp.out.mono ?_))
      rintro e3 w3 ⟨rfl, hg3⟩
      have HX : Hid (TSD w3 B t mc d kv wv ts left ∧ Below B u w3) := by
        have hf := grown_fr hg3
        refine ⟨H2.out.new H0.out hf hpa, HB2.out.trans (hf.toBelow (fun b hb => ?_) (Nat.le_trans HBu.out HB2.out.size))⟩
        have := hpa b hb
        have := HBs.out
        omega
      clear hg3
      go_wp2
      go_ret
      exact ⟨rfl, ⟨kv, wv, ts, by omega, HX.out.1⟩, HX.out.2⟩
    | false =>
      have hc18 : u2.cell? ⟨t, 18, none⟩ = some kv := H2.out.s.ck
      obtain ⟨ka, kc, HKV⟩ : ∃ a c, Hid (kv = .slice a n c) := by
        obtain ⟨a, c, e⟩ := owns_slice0 H2.out.s.kr
        exact ⟨a, c, by rw [HNN.out]; exact e⟩
      obtain ⟨wa, wc, HWV⟩ : ∃ a c, Hid (wv = .slice a n c) := by
        obtain ⟨a, c, e⟩ := owns_slice0 H2.out.s.wr
        exact ⟨a, c, by rw [HNN.out]; exact e⟩
      rw [HKV.out] at hc18
      have HO5 : Hid ((u2.alloc (.cells #[.slice aa L ac] 22)).ownsRow B 22 1 (.slice ka n kc) n (ts.map (·.1))) := by
        show World.ownsRow _ _ _ _ _ _ _
        rw [← HKV.out, HNN.out]
        exact owns_kept H2.out.s.kr ((Below.refl _ _).alloc (Nat.le_refl _) _)
      have HN5 : Hid (∀ j v, [(Value.slice aa L ac)][j]? = some v → (u2.alloc (.cells #[.slice aa L ac] 22)).cell? ((⟨u2.heap.size, 0, none⟩ : Addr).add j) = some v) := fun j v hj => by
        match j, hj with
        | 0, hj => simp at hj; subst hj; simp [Addr.add]
      have HC5 : Hid (∀ v ∈ [(Value.slice aa L ac)], v.oneCell' = true) := fun v hv => by
        simp at hv
        subst hv
        rfl
      have HBs5 : Hid (B ≤ (u2.alloc (.cells #[.slice aa L ac] 22)).heap.size) := by
        have h1 := HBs.out
        have h2 := HS2.out
        show _ ≤ _
        simp
        omega
      go_wp2_with (first
        | (at_builtin; go_must (refine wpList_append_lies _ rfl (.tmp 36) (.tmp 38) 40 rfl B 22 i0 (.slice none 0 0) 1 24 Tryd.underlying40 hii hz0 hz1 hz2 rfl (by decide) _ _ _ rfl HO5.out ⟨u2.heap.size, 0, none⟩ 1 1 [(Value.slice aa L ac)] rfl rfl HN5.out HC5.out (by decide) (by unfold maxLen; omega) (by omega) HBs5.out (u2.heap.size + 1) (by simp) ?_)))
      intro g1 c1 w3 hown3 hgr3 hat3 hlt3
      have htk : t ∉ vblk (.slice ka n kc) := by rw [← HKV.out]; exact H2.out.s.ap.kt
      have htl : t < u2.heap.size := (H2.out.s.lt t (mb_t _ _ _ _)).2
      have HF3 : Hid (Fr u2 w3 (vblk kv)) := by
        show Fr u2 w3 (vblk kv)
        rw [HKV.out]
        have h1 : Fr u2 (u2.alloc (.cells #[.slice aa L ac] 22)) (vblk (.slice ka n kc)) := below_fr ((Below.refl _ _).alloc (Nat.le_refl _) _) _
        exact h1.trans (grown_fr hgr3)
      have ht3 : w3.heap[t]? = u2.heap[t]? := HF3.out.block t htl (by rw [HKV.out]; exact htk)
      have hc18' : w3.cell? ⟨t, 18, none⟩ = some (.slice ka n kc) := (World.cell?_of_block (a := ⟨t, 18, none⟩) ht3).trans hc18
      have hf18 : w3.frozen? ⟨t, 18, none⟩ = false := by
        rw [World.frozen?_of_block (a := ⟨t, 18, none⟩) ht3]
        have := (H2.out.s.there 18 (by omega)).2
        simpa using this
      have HK3 : Hid (w3.ownsRow B 22 1 (.slice (some ⟨g1, 0, none⟩) (n + 1) c1) (n + 1) (ts.map (·.1) ++ [(Value.slice aa L ac)])) := hown3
      have HG1 : Hid (g1 ∈ vblk kv ∨ u2.heap.size ≤ g1) := by
        show _ ∨ _
        rcases hat3 with q | q
        · exact .inl (by rw [HKV.out]; simpa [vblk] using q)
        · exact .inr (by omega)
      clear hown3 hgr3 hat3 hlt3 HO5 HN5 HC5 HBs5 htk hc18
      go_upto_region 9 with fail
      obtain ⟨KV, HKVV⟩ : ∃ v, Hid (v = Value.slice (some ⟨g1, 0, none⟩) (n + 1) c1) := ⟨_, rfl⟩
      have H4f : Hid (Fr u2 (w3.setCell ⟨t, 18, none⟩ (.slice (some ⟨g1, 0, none⟩) (n + 1) c1)) ([t] ++ vblk kv)) := by
        have h1 : Fr u2 w3 ([t] ++ vblk kv) := HF3.out.mono (fun b hb => List.mem_append_right _ hb)
        exact h1.trans ((set_fr w3 t 18 _).mono (fun b hb => List.mem_append_left _ hb))
      have H4c : Hid (∀ j, j ≠ 18 → (w3.setCell ⟨t, 18, none⟩ (.slice (some ⟨g1, 0, none⟩) (n + 1) c1)).cell? ⟨t, j, none⟩ = u2.cell? ⟨t, j, none⟩) := fun j hj => by
        rw [cell_other2 _ _ _ _ _ (fun e => hj e.symm)]
        exact World.cell?_of_block (a := ⟨t, j, none⟩) ht3
      have H4d : Hid ((w3.setCell ⟨t, 18, none⟩ (.slice (some ⟨g1, 0, none⟩) (n + 1) c1)).cell? ⟨t, 18, none⟩ = some (.slice (some ⟨g1, 0, none⟩) (n + 1) c1)) := World.cell?_setCell_same' _ _ _ (by rw [hc18']; rfl)
      have H4t : Hid ((w3.setCell ⟨t, 18, none⟩ (.slice (some ⟨g1, 0, none⟩) (n + 1) c1)).there t 0 21) := World.there_setCells (there_blk H2.out.s.there ht3) _ _ [_]
      have HT1 : Hid (g1 ≠ t) := by
        show g1 ≠ t
        rcases HG1.out with q | q
        · intro e; rw [e] at q; exact H2.out.s.ap.kt q
        · omega
      have H4k : Hid ((w3.setCell ⟨t, 18, none⟩ (.slice (some ⟨g1, 0, none⟩) (n + 1) c1)).ownsRow B 22 1 (.slice (some ⟨g1, 0, none⟩) (n + 1) c1) (n + 1) (ts.map (·.1) ++ [(Value.slice aa L ac)])) := by
        refine owns_same HK3.out (fun b hb => ?_)
        have : b = g1 := by simpa [vblk, Value.ownBlock] using hb
        subst this
        exact World.heap_setCells_other w3 t 18 [_] ((owns_blks HK3.out b hb).2) HT1.out
      generalize w3.setCell ⟨t, 18, none⟩ (.slice (some ⟨g1, 0, none⟩) (n + 1) c1) = w4 at H4f H4c H4d H4t H4k ⊢
      clear HK3 ht3 hc18' hf18 HF3
      have htl4 : t < w4.heap.size := Nat.lt_of_lt_of_le htl H4f.out.size
      have hc19 : w4.cell? ⟨t, 19, none⟩ = some (.slice wa n wc) := (H4c.out 19 (by decide)).trans (by rw [← HWV.out]; exact H2.out.s.cw)
      have HO6 : Hid ((w4.alloc (.cells #[(Value.slice va L vc)] 22)).ownsRow B 22 1 (.slice wa n wc) n (ts.map (·.2.1))) := by
        show World.ownsRow _ _ _ _ _ _ _
        have h1 : w4.ownsRow B 22 1 wv ts.length (ts.map (·.2.1)) := owns_same H2.out.s.wr (fun b hb => H4f.out.block b (owns_blks H2.out.s.wr b hb).2 (fun q => by
          simp only [List.mem_append, List.mem_singleton] at q
          rcases q with q | q
          · exact H2.out.s.ap.wt (by rw [← q]; exact hb)
          · exact H2.out.s.ap.kw b q hb))
        rw [← HWV.out, HNN.out]
        exact owns_kept h1 ((Below.refl _ _).alloc (Nat.le_refl _) _)
      have HN6 : Hid (∀ j v, [(Value.slice va L vc)][j]? = some v → (w4.alloc (.cells #[(Value.slice va L vc)] 22)).cell? ((⟨w4.heap.size, 0, none⟩ : Addr).add j) = some v) := fun j v hj => by
        match j, hj with
        | 0, hj => simp at hj; subst hj; simp [Addr.add]
      have HC6 : Hid (∀ v ∈ [(Value.slice va L vc)], v.oneCell' = true) := fun v hv => by
        simp at hv
        subst hv
        rfl
      have HBs6 : Hid (B ≤ (w4.alloc (.cells #[(Value.slice va L vc)] 22)).heap.size) := by
        have h1 := HBs.out
        have h2 := HS2.out
        have h3 := H4f.out.size
        show _ ≤ _
        simp
        omega
      go_wp2_with (first
        | (at_builtin; go_must (refine wpList_append_lies _ rfl (.tmp 46) (.tmp 48) 40 rfl B 22 i0 (.slice none 0 0) 1 24 Tryd.underlying40 hii hz0 hz1 hz2 rfl (by decide) _ _ _ rfl HO6.out ⟨w4.heap.size, 0, none⟩ 1 1 [(Value.slice va L vc)] rfl rfl HN6.out HC6.out (by decide) (by unfold maxLen; omega) (by omega) HBs6.out (w4.heap.size + 1) (by simp) ?_)))
      intro g2 c2 w5 hown5 hgr5 hat5 hlt5
      have htw : t ∉ vblk (.slice wa n wc) := by rw [← HWV.out]; exact H2.out.s.ap.wt
      have HF5 : Hid (Fr w4 w5 (vblk wv)) := by
        show Fr w4 w5 (vblk wv)
        rw [HWV.out]
        have h1 : Fr w4 (w4.alloc (.cells #[(Value.slice va L vc)] 22)) (vblk (.slice wa n wc)) := below_fr ((Below.refl _ _).alloc (Nat.le_refl _) _) _
        exact h1.trans (grown_fr hgr5)
      have ht5 : w5.heap[t]? = w4.heap[t]? := HF5.out.block t htl4 (by rw [HWV.out]; exact htw)
      have hc19' : w5.cell? ⟨t, 19, none⟩ = some (.slice wa n wc) := (World.cell?_of_block (a := ⟨t, 19, none⟩) ht5).trans hc19
      have hf19 : w5.frozen? ⟨t, 19, none⟩ = false := by
        rw [World.frozen?_of_block (a := ⟨t, 19, none⟩) ht5]
        have := (H4t.out 19 (by omega)).2
        simpa using this
      have HK5 : Hid (w5.ownsRow B 22 1 (.slice (some ⟨g2, 0, none⟩) (n + 1) c2) (n + 1) (ts.map (·.2.1) ++ [(Value.slice va L vc)])) := hown5
      have HG2 : Hid (g2 ∈ vblk wv ∨ w4.heap.size ≤ g2) := by
        show _ ∨ _
        rcases hat5 with q | q
        · exact .inl (by rw [HWV.out]; simpa [vblk] using q)
        · exact .inr (by omega)
      clear hown5 hgr5 hat5 hlt5 HO6 HN6 HC6 HBs6 htw hc19
      have HE : Hid ((∃ kv' wv' ts', ts'.length ≤ ts.length + 1 ∧ TSD (w5.setCell ⟨t, 19, none⟩ (.slice (some ⟨g2, 0, none⟩) (n + 1) c2)) B t mc d kv' wv' ts' left) ∧ Below B u (w5.setCell ⟨t, 19, none⟩ (.slice (some ⟨g2, 0, none⟩) (n + 1) c2))) := by
        exact told_end (B := B) (t := t) (mc := mc) (d := d) (kv := kv) (wv := wv) (ts := ts) (left := left) (n := n) (u0 := u0) (u := u) (u2 := u2) (w4 := w4) (w5 := w5) (A := .slice aa L ac) (W := (Value.slice va L vc)) (Z := Z) HNN.out H0.out H2.out HA2.out HLL.out HZL.out HW2.out HB2.out HBu.out HBs.out HS2.out H4f.out H4c.out H4d.out H4t.out H4k.out HG1.out HF5.out HK5.out HG2.out ht5 hc19'
      go_wp2
      go_ret
      exact ⟨rfl, HE.out.1, HE.out.2⟩
end Go.Proofs.YtioggmjocelolacDoor
namespace Go.Proofs.YtioggmjocelolacDoor
open Go.RowKit
set_option linter.unusedVariables false
set_option linter.unusedSimpArgs false
/-- The cells of the three. -/
structure TC (w : World) (t : Nat) (C : Nat → Value) : Prop where
  c : ∀ j, j < 21 → w.cell? ⟨t, j, none⟩ = some (C j)
  t : w.there t 0 21
def upC (C : Nat → Value) (o : Nat) (x : Value) (j : Nat) : Value := if j = o then x else C j
theorem upC_same (C : Nat → Value) (o j : Nat) (x : Value) (h : j = o) : upC C o x j = x := if_pos h
theorem upC_other (C : Nat → Value) (o j : Nat) (x : Value) (h : j ≠ o) : upC C o x j = C j := if_neg h
theorem tc_there {w : World} {t : Nat} (h : w.there t 0 21) : ∃ C, TC w t C :=
  ⟨fun j => (w.cell? ⟨t, j, none⟩).getD undef, fun j hj => by
    have := (h j hj).1
    rw [Nat.zero_add] at this
    obtain ⟨x, hx⟩ := Option.isSome_iff_exists.1 this
    rw [hx]; rfl, h⟩
theorem TC.froz {w : World} {t : Nat} {C : Nat → Value} (h : TC w t C) (j : Nat) (hj : j < 21) : w.frozen? ⟨t, j, none⟩ = false := by
  have := (h.t j hj).2
  rw [Nat.zero_add] at this
  exact this
theorem TC.set {w : World} {t : Nat} {C : Nat → Value} (h : TC w t C) (o : Nat) (x : Value) (ho : o < 21) : TC (w.setCell ⟨t, o, none⟩ x) t (upC C o x) :=
  ⟨fun j hj => by
    by_cases e : j = o
    · subst e
      rw [upC_same _ _ _ _ rfl]
      exact World.cell?_setCell_same' _ _ _ (by rw [h.c j hj]; rfl)
    · rw [upC_other _ _ _ _ e, cell_other2 _ _ _ _ _ (fun q => e q.symm)]
      exact h.c j hj, World.there_setCells h.t _ _ [_]⟩
theorem TC.drew {w : World} {t : Nat} {C : Nat → Value} (h : TC w t C) : TC w.drew t C := ⟨h.c, h.t⟩
theorem TC.same {w v : World} {t : Nat} {C : Nat → Value} (h : TC w t C) (e : v.heap[t]? = w.heap[t]?) : TC v t C := ⟨fun j hj => (World.cell?_of_block (a := ⟨t, j, none⟩) e).trans (h.c j hj), there_blk h.t e⟩
theorem TC.set4 {w : World} {t : Nat} {C : Nat → Value} (h : TC w t C) (o : Nat) (a b c x : Value) (ho : o + 3 < 21) : TC (w.setCells t o [a, b, c, x]) t (upC (upC (upC (upC C o a) (o + 1) b) (o + 2) c) (o + 3) x) :=
  (((h.set o a (by omega)).set (o + 1) b (by omega)).set (o + 2) c (by omega)).set (o + 3) x (by omega)
theorem TC.part {w : World} {t : Nat} {C : Nat → Value} (h : TC w t C) (o n : Nat) (ho : o + n ≤ 21) : w.there t o n := fun j hj => by
  have := h.t (o + j) (by omega)
  rw [Nat.zero_add] at this
  exact this
theorem sets_fr (w : World) (t o : Nat) (L : List Value) : Fr w (w.setCells t o L) [t] := by
  have hs : ∀ (L : List Value) (o : Nat) (w : World), (w.setCells t o L).heap.size = w.heap.size := by
    intro L
    induction L with
    | nil => intro o w; rfl
    | cons x L ih => intro o w; rw [World.setCells, ih]; simp [World.setCell]
  have hq : ∀ (L : List Value) (o : Nat) (w : World), (w.setCells t o L).os = w.os ∧ (w.setCells t o L).tape = w.tape ∧ (w.setCells t o L).output = w.output := by
    intro L
    induction L with
    | nil => intro o w; exact ⟨rfl, rfl, rfl⟩
    | cons x L ih => intro o w; rw [World.setCells]; exact ih _ _
  exact ⟨(hq L o w).1, (hq L o w).2.1, (hq L o w).2.2, by rw [hs]; exact Nat.le_refl _, fun b hb hn => World.heap_setCells_other w t o L hb (fun e => hn (List.mem_singleton.2 e))⟩
/-- Another slot, by cells. -/
theorem TSD.slot {u v : World} {B t left left' i : Nat} {mc : Bool} {d : Nat → Sl} {kv wv : Value} {ts : List (Value × Value × List Int)} {s' : Sl} {l : List Nat} {C C' : Nat → Value} (s : TSD u B t mc d kv wv ts left) (hi : i < 3) (f : Fr u v l) (hl : ∀ b, b ∈ l → b = t ∨ (d i).g = some b ∨ u.heap.size ≤ b) (hC : TC u t C) (hC' : TC v t C')
    (hc : ∀ j, j < 21 → j ≠ i → j ≠ 3 + i → (j < 6 + i * 4 ∨ 6 + i * 4 + 4 ≤ j) → j ≠ 20 → C' j = C j)
    (c1 : C' i = (if mc = true then .pointer none else gp s'.g)) (c2 : C' (3 + i) = (if mc = true then gp s'.g else .pointer none))
    (c3 : C' (6 + i * 4) = .int .i64 s'.h) (c4 : C' (6 + i * 4 + 1) = .bool s'.kd) (c5 : C' (6 + i * 4 + 2) = s'.kv) (c6 : C' (6 + i * 4 + 3) = s'.bv) (c7 : C' 20 = .int .i64 (left' : Nat))
    (hs : SlAt v B mc s') (hg : ∀ g, s'.g = some g → (d i).g = some g ∨ u.heap.size ≤ g)
    (hb : s'.zs ≠ [] → ∀ b, b ∈ vblk s'.bv → (b ∉ Mb t d kv wv) ∧ s'.g ≠ some b) (hk : s'.key ≠ [] → ∀ b, b ∈ vblk s'.kv → (b ∉ Mb t d kv wv) ∧ s'.g ≠ some b) (hle : left' ≤ left) (hz : s'.zs.length + left' ≤ 65536) : TSD v B t mc (upd3 d i s') kv wv ts left' := by
  refine ⟨s.s.slot hi f hl hC'.t (fun j h0 h1 h2 h3 h4 => by rw [hC'.c j h0, hC.c j h0, hc j h0 h1 h2 h3 h4]) (by rw [hC'.c i (by omega), c1]) (by rw [hC'.c _ (by omega), c2]) (by rw [hC'.c _ (by omega), c3]) (by rw [hC'.c _ (by omega), c4]) (by rw [hC'.c _ (by omega), c5]) (by rw [hC'.c _ (by omega), c6]) (by rw [hC'.c _ (by omega), c7]) hs hg hb hk hle hz, s.k.fr f (fun b hb => ?_) (fun b hb => ?_)⟩
  · rcases hl b hb with q | q | q
    · exact .inl (by rw [q]; exact mb_t _ _ _ _)
    · exact .inl (mb_g hi q)
    · exact .inr q
  · rcases mb_mem hb with q | ⟨j, hj, q⟩ | q | q
    · exact .inl (by rw [q]; exact mb_t _ _ _ _)
    · by_cases e : j = i
      · subst e
        rw [upd3_same] at q
        rcases hg b q with q | q
        · exact .inl (mb_g hi q)
        · exact .inr q
      · rw [upd3_other _ _ _ _ e] at q
        exact .inl (mb_g hj q)
    · exact .inl (mb_k q)
    · exact .inl (mb_w q)
def StepP (B t : Nat) (mc : Bool) (k : Nat) (u : World) (e : Ending) (u' : World) : Prop := e = .returned (.bool true) ∧ (∃ d' kv' wv' ts' left', ts'.length ≤ k + 2 ∧ TSD u' B t mc d' kv' wv' ts' left') ∧ Below B u u'
/-- What a slot's cells are. -/
theorem TS.tc {w : World} {B t n left : Nat} {mc : Bool} {d : Nat → Sl} {kv wv : Value} {ks ws : List Value} {C : Nat → Value} (s : TS w B t mc d kv wv n ks ws left) (hC : TC w t C) : ∀ i, i < 3 → C i = (if mc = true then .pointer none else gp (d i).g) ∧ C (3 + i) = (if mc = true then gp (d i).g else .pointer none) ∧ C (6 + i * 4) = .int .i64 (d i).h ∧ C (6 + i * 4 + 1) = .bool (d i).kd ∧ C (6 + i * 4 + 2) = (d i).kv ∧ C (6 + i * 4 + 3) = (d i).bv := fun i hi => by
  have e : ∀ j, j < 21 → ∀ x, w.cell? ⟨t, j, none⟩ = some x → C j = x := fun j hj x hx => by
    have := hC.c j hj
    rw [hx] at this
    exact (Option.some.inj this).symm
  exact ⟨e _ (by omega) _ (s.cs i hi), e _ (by omega) _ (s.cm i hi), e _ (by omega) _ (s.fh i hi), e _ (by omega) _ (s.fd i hi), e _ (by omega) _ (s.fk i hi), e _ (by omega) _ (s.fb i hi)⟩
theorem TS.tcl {w : World} {B t n left : Nat} {mc : Bool} {d : Nat → Sl} {kv wv : Value} {ks ws : List Value} {C : Nat → Value} (s : TS w B t mc d kv wv n ks ws left) (hC : TC w t C) : C 20 = .int .i64 (left : Nat) := by
  have := hC.c 20 (by omega)
  rw [s.cl] at this
  exact (Option.some.inj this).symm
theorem no_at (w : World) (B : Nat) (mc : Bool) : SlAt w B mc Sl.no := ⟨fun _ => rfl, fun g e => (by cases e), view_nil w, view_nil w, Nat.zero_le _⟩
end Go.Proofs.YtioggmjocelolacDoor
