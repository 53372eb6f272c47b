import Derived.Test.YtcnikfikpnnblaaGreatDoorPart02
import Derived.Deep.RegionHeld3
import Derived.Deep.QuietTactic
import Derived.BigQuiet
import Derived.BigRegion
import Derived.Test.YtcnikfikpnnblaaGreatDoorPart03
import Derived.Test.YtcnikfikpnnblaaGreatDoorPart01
namespace Go.Proofs.YtcnikfikpnnblaaGreatDoor
open Go.RowKit
set_option linter.unusedVariables false
/-- Four bytes as a word, the first one highest. -/
def wd (a b c d : Nat) : Nat := a * 16777216 + b * 65536 + c * 256 + d
theorem wd_lt {a b c d : Nat} (ha : a < 256) (hb : b < 256) (hc : c < 256) (hd : d < 256) : wd a b c d < 4294967296 := by unfold wd; omega
theorem wraps_u32 (n : Int) (h₀ : 0 ≤ n) (h₁ : n < 2 ^ 32) : IntKind.u32.wrap n = n := by rw [IntKind.wrap_u32]; omega
theorem xor32 (a b : Nat) (ha : a < 4294967296) (hb : b < 4294967296) : bits .xor .u32 (a : Int) b = (Nat.xor a b : Nat) := bits_xor .u32 32 (by decide) wraps_u32 a b ha hb
theorem joins (i x y : Nat) (hx : x % 2 ^ i = 0) (hx1 : x < 4294967296) (hy : y < 2 ^ i) (hi : i ≤ 32) (hxy : x + y < 4294967296) : bits .or .u32 (x : Int) y = ((x + y : Nat) : Int) := by
  have := bits_join .u32 32 (by decide) wraps_u32 i x y (by omega) (by exact_mod_cast hx) (by omega) (by omega) (by exact_mod_cast hy) (by omega)
  simpa using this
theorem word_ok (a b c d : Nat) (ha : a < 256) (hb : b < 256) (hc : c < 256) (hd : d < 256) (w : World) : Calls Tryz.prog 174 #[.int .u8 a, .int .u8 b, .int .u8 c, .int .u8 d] w fun e w' => e = .returned (.int .u32 (wd a b c d : Nat)) ∧ w' = w := by
  go_enter Tryz.func174, Tryz.ntmps174
  go_wp2
  go_ret
  refine ⟨ret_int ?_, rfl⟩
  have e1 := joins 24 (a * 16777216) (b * 65536) (by omega) (by omega) (by omega) (by omega) (by omega)
  have e2 := joins 16 (a * 16777216 + b * 65536) (c * 256) (by omega) (by omega) (by omega) (by omega) (by omega)
  have e3 := joins 8 (a * 16777216 + b * 65536 + c * 256) d (by omega) (by omega) (by omega) (by omega) (by omega)
  rw [show ((a : Int) * 16777216) = ((a * 16777216 : Nat) : Int) by omega, show ((b : Int) * 65536) = ((b * 65536 : Nat) : Int) by omega, show ((c : Int) * 256) = ((c * 256 : Nat) : Int) by omega, e1, e2, e3]
  unfold wd
  omega
theorem rot32_core (x k s : Int) (w : World) (hb : bits .and .u64 (IntKind.u64.wrap k) 31 = s) (h0 : 0 ≤ s) (h1 : s ≤ 32) (hs : IntKind.u64.wrap (32 - s) = 32 - s) : Calls Tryz.prog 108 #[.int .u32 x, .int .i64 k] w fun e w' => e = .returned (.int .u32 (bits .or .u32 (x * 2 ^ s.toNat % 4294967296) (x / 2 ^ (32 - s).toNat))) ∧ w' = w := by
  have h2 : 0 ≤ 32 - s := by omega
  go_enter Tryz.func108, Tryz.ntmps108
  go_wp2
  go_ret
  exact ⟨rfl, rfl⟩
theorem rotr8 {a b c d : Nat} {w : World} (ha : a < 256) (hb : b < 256) (hc : c < 256) (hd : d < 256) : Calls Tryz.prog 108 #[.int .u32 (wd a b c d : Nat), .int .i64 (-8)] w fun e w' => e = .returned (.int .u32 (wd d a b c : Nat)) ∧ w' = w := by
  have h := rot32_core (wd a b c d : Nat) (-8) 24 w (by decide +kernel) (by decide) (by decide) (by decide +kernel)
  refine h.mono fun e w' ⟨h1, h2⟩ => ⟨h1.trans (ret_int ?_), h2⟩
  rw [show (24 : Int).toNat = 24 from rfl, show ((32 : Int) - 24).toNat = 8 from rfl]
  have := joins 24 (d * 16777216) (a * 65536 + b * 256 + c) (by omega) (by omega) (by omega) (by omega) (by omega)
  rw [show ((wd a b c d : Nat) : Int) * 2 ^ 24 % 4294967296 = ((d * 16777216 : Nat) : Int) by unfold wd; omega, show ((wd a b c d : Nat) : Int) / 2 ^ 8 = ((a * 65536 + b * 256 + c : Nat) : Int) by unfold wd; omega, this]
  unfold wd
  omega
theorem rotr16 {a b c d : Nat} {w : World} (ha : a < 256) (hb : b < 256) (hc : c < 256) (hd : d < 256) : Calls Tryz.prog 108 #[.int .u32 (wd a b c d : Nat), .int .i64 (-16)] w fun e w' => e = .returned (.int .u32 (wd c d a b : Nat)) ∧ w' = w := by
  have h := rot32_core (wd a b c d : Nat) (-16) 16 w (by decide +kernel) (by decide) (by decide) (by decide +kernel)
  refine h.mono fun e w' ⟨h1, h2⟩ => ⟨h1.trans (ret_int ?_), h2⟩
  rw [show (16 : Int).toNat = 16 from rfl, show ((32 : Int) - 16).toNat = 16 from rfl]
  have := joins 16 (c * 16777216 + d * 65536) (a * 256 + b) (by omega) (by omega) (by omega) (by omega) (by omega)
  rw [show ((wd a b c d : Nat) : Int) * 2 ^ 16 % 4294967296 = ((c * 16777216 + d * 65536 : Nat) : Int) by unfold wd; omega, show ((wd a b c d : Nat) : Int) / 2 ^ 16 = ((a * 256 + b : Nat) : Int) by unfold wd; omega, this]
  unfold wd
  omega
theorem rotr24 {a b c d : Nat} {w : World} (ha : a < 256) (hb : b < 256) (hc : c < 256) (hd : d < 256) : Calls Tryz.prog 108 #[.int .u32 (wd a b c d : Nat), .int .i64 (-24)] w fun e w' => e = .returned (.int .u32 (wd b c d a : Nat)) ∧ w' = w := by
  have h := rot32_core (wd a b c d : Nat) (-24) 8 w (by decide +kernel) (by decide) (by decide) (by decide +kernel)
  refine h.mono fun e w' ⟨h1, h2⟩ => ⟨h1.trans (ret_int ?_), h2⟩
  rw [show (8 : Int).toNat = 8 from rfl, show ((32 : Int) - 8).toNat = 24 from rfl]
  have := joins 8 (b * 16777216 + c * 65536 + d * 256) (a) (by omega) (by omega) (by omega) (by omega) (by omega)
  rw [show ((wd a b c d : Nat) : Int) * 2 ^ 8 % 4294967296 = ((b * 16777216 + c * 65536 + d * 256 : Nat) : Int) by unfold wd; omega, show ((wd a b c d : Nat) : Int) / 2 ^ 24 = ((a : Nat) : Int) by unfold wd; omega, this]
  unfold wd
  omega
theorem rotl8 {a b c d : Nat} {w : World} (ha : a < 256) (hb : b < 256) (hc : c < 256) (hd : d < 256) : Calls Tryz.prog 108 #[.int .u32 (wd a b c d : Nat), .int .i64 (8)] w fun e w' => e = .returned (.int .u32 (wd b c d a : Nat)) ∧ w' = w := by
  have h := rot32_core (wd a b c d : Nat) (8) 8 w (by decide +kernel) (by decide) (by decide) (by decide +kernel)
  refine h.mono fun e w' ⟨h1, h2⟩ => ⟨h1.trans (ret_int ?_), h2⟩
  rw [show (8 : Int).toNat = 8 from rfl, show ((32 : Int) - 8).toNat = 24 from rfl]
  have := joins 8 (b * 16777216 + c * 65536 + d * 256) (a) (by omega) (by omega) (by omega) (by omega) (by omega)
  rw [show ((wd a b c d : Nat) : Int) * 2 ^ 8 % 4294967296 = ((b * 16777216 + c * 65536 + d * 256 : Nat) : Int) by unfold wd; omega, show ((wd a b c d : Nat) : Int) / 2 ^ 24 = ((a : Nat) : Int) by unfold wd; omega, this]
  unfold wd
  omega
/-- S and its inverse, out of one number each. -/
def SB (b : Nat) : Nat := Nat.mod (Nat.shiftRight 2869618975290639062594974519597816386035077209210385677284518162336985023502962151465775969507961862820568736543004676439868535775640188584098917533413284844376797297285941524888791401501466624530423689326528054213168201056672989590893583853414110162539122864583953358348775951166211353578440977400428507475679327181038682772945817200201960445064847785221508011893952350688324234443749897213621340677040612747745615276448919507935121141307752692835344166708617454322778699219895865633266409040561742768581056182730443599545881830075941537620590442514083341749674612746994879540562701631131184186066652929592955206755 (Nat.mul 8 b)) 256
def UB (b : Nat) : Nat := Nat.mod (Nat.shiftRight 15785769749828884342349381641981096363179738000380205650940338083111619982568718420166261191398703005748170232611805704157196303061330872280026969925224128193193768962594508714770967646139604422718174787315048227180018877623049221087186576642191304514338137614235628241783007805847129270530950856841486400764657112140097236091222567730363620332611309375046737430203438830593833719428588466121688739068564421474273450162064709239629809347626728710072303178617319436726577534667237755444692000788692193415136619289353224918429728194544458916874716857284226411602766869706570927007876872095880586785662942963508062062930 (Nat.mul 8 b)) 256
theorem SB_lt (b : Nat) : SB b < 256 := Nat.mod_lt _ (by decide)
theorem UB_lt (b : Nat) : UB b < 256 := Nat.mod_lt _ (by decide)
theorem UB_SB : ∀ b : Fin 256, UB (SB b.1) = b.1 ∧ SB (UB b.1) = b.1 := by decide +kernel
/-- Products by 3, 9, 11, 13, 14. -/
def x2 (a : Nat) : Nat := dblN a
def x3 (a : Nat) : Nat := Nat.xor (dblN a) a
def x9 (a : Nat) : Nat := Nat.xor (dblN (dblN (dblN a))) a
def x11 (a : Nat) : Nat := Nat.xor (Nat.xor (dblN (dblN (dblN a))) (dblN a)) a
def x13 (a : Nat) : Nat := Nat.xor (Nat.xor (dblN (dblN (dblN a))) (dblN (dblN a))) a
def x14 (a : Nat) : Nat := Nat.xor (Nat.xor (dblN (dblN (dblN a))) (dblN (dblN a))) (dblN a)
theorem x_lt : ∀ a : Fin 256, x2 a.1 < 256 ∧ x3 a.1 < 256 ∧ x9 a.1 < 256 ∧ x11 a.1 < 256 ∧ x13 a.1 < 256 ∧ x14 a.1 < 256 := by decide +kernel
/-- The columns' tables. -/
def MX (b : Nat) : Nat := wd (x2 (SB b)) (SB b) (SB b) (x3 (SB b))
def UX (b : Nat) : Nat := wd (x14 b) (x9 b) (x13 b) (x11 b)
/-- A column through S and multiplied; one multiplied backwards. -/
def M8 (b : Nat) : Nat := wd (x3 (SB b)) (x2 (SB b)) (SB b) (SB b)
def M16 (b : Nat) : Nat := wd (SB b) (x3 (SB b)) (x2 (SB b)) (SB b)
def M24 (b : Nat) : Nat := wd (SB b) (SB b) (x3 (SB b)) (x2 (SB b))
def mixc (a b c d : Nat) : Nat := Nat.xor (Nat.xor (Nat.xor (MX a) (M8 b)) (M16 c)) (M24 d)
/-- The tables of a cipher at g, o. -/
structure Tab (w : World) (g o : Nat) : Prop where
  s : ∀ b, b < 256 → w.cell? ⟨g, o + 61 + b, none⟩ = some (.int .u8 (SB b : Nat))
  u : ∀ b, b < 256 → w.cell? ⟨g, o + 317 + b, none⟩ = some (.int .u8 (UB b : Nat))
  m : ∀ b, b < 256 → w.cell? ⟨g, o + 573 + b, none⟩ = some (.int .u32 (MX b : Nat))
  n : ∀ b, b < 256 → w.cell? ⟨g, o + 829 + b, none⟩ = some (.int .u32 (UX b : Nat))
end Go.Proofs.YtcnikfikpnnblaaGreatDoor
namespace Go.Proofs.YtcnikfikpnnblaaGreatDoor.Dg
open Go.RowKit
set_option linter.unusedVariables false

/-- The table of the cubes' roots, as a function. -/
def cubesL : List Int := [4794697086780616226, 8158064640168781261, 13096744586834688815, 16840607885511220156, 4131703408338449720, 6480981068601479193, 10538285296894168987, 12329834152419229976, 15566598209576043074, 1334009975649890238, 2608012711638119052, 6128411473006802146, 8268148722764581231, 9286055187155687089, 11230858885718282805, 13951009754708518548, 16472876342353939154, 17275323862435702243, 1135362057144423861, 2597628984639134821, 3308224258029322869, 5365058923640841347, 6679025012923562964, 8573033837759648693, 10970295158949994411, 12119686244451234320, 12683024718118986047, 13788192230050041572, 14330467153632333762, 15395433587784984357, 489312712824947311, 1452737877330783856, 2861767655752347644, 3322285676063803686, 5560940570517711597, 5996557281743188959, 7280758554555802590, 8532644243296465576, 9350256976987008742, 10552545826968843579, 11727347734174303076, 12113106623233404929, 14000437183269869457, 14369950271660146224, 15101387698204529176, 15463397548674623760, 17586052441742319658, 1182934255886127544, 1847814050463011016, 2177327727835720531, 2830643537854262169, 3796741975233480872, 4115178125766777443, 5681478168544905931, 6601373596472566643, 7507060721942968483, 8399075790359081724, 8693463985226723168, 9568029438360202098, 10144078919501101548, 10430055236837252648, 11840083180663258601, 13761210420658862357, 14299343276471374635, 14566680578165727644, 15097957966210449927, 16922976911328602910, 17689382322260857208, 500013540394364858, 748580250866718886, 1242879168328830382, 1977374033974150939, 2944078676154940804, 3659926193048069267, 4368137639120453308, 4836135668995329356, 5532061633213252278, 6448918945643986474, 6902733635092675308, 7801388544844847127]
def rootsL : List Int := [7640891576956012808, 13503953896175478587, 4354685564936845355, 11912009170470909681, 5840696475078001361, 11170449401992604703, 2270897969802886507, 6620516959819538809, 14680500436340154072, 7105036623409894663, 10473403895298186519, 1526699215303891257, 7436329637833083697, 10282925794625328401, 15784041429090275239, 5167115440072839076]
def cubeAt (t : Nat) : Int := cubesL.getD t 0
def rootAt (t : Nat) : Int := rootsL.getD t 0
/-- The two tables lie where the program laid them. -/
structure Tables (w : World) : Prop where
  cubes : ∀ t, t < 80 → w.cell? ⟨8, t, none⟩ = some (.int .u64 (cubeAt t))
  roots : ∀ t, t < 16 → w.cell? ⟨5, t, none⟩ = some (.int .u64 (rootAt t))
theorem Tables.kept {w w' : World} (h : Tables w) (hb : ∀ k, k < 9 → w'.heap[k]? = w.heap[k]?) : Tables w' :=
  ⟨fun t ht => by rw [World.cell?_of_block (w := w) (hb 8 (by omega))]; exact h.cubes t ht, fun t ht => by rw [World.cell?_of_block (w := w) (hb 5 (by omega))]; exact h.roots t ht⟩
theorem Tables.size {w : World} (h : Tables w) : 9 ≤ w.heap.size := lt_of_cell (h.cubes 0 (by omega))
theorem Tables.below {w w' : World} {B : Nat} (h : Tables w) (b : Below B w w') (hB : 9 ≤ B) : Tables w' := h.kept fun k hk => b.block k (by omega)
theorem Tables.touch {w w' : World} {g o n : Nat} (h : Tables w) (b : Touch w w' g o n) (hg : 9 ≤ g) : Tables w' := h.kept fun k hk => b.block k (by have := h.size; omega) (by omega)

def bsz (wd : Bool) : Nat := if wd then 128 else 64
def fnOf (wd : Bool) : FuncId := if wd then 262 else 261
def fnV (wd : Bool) : Value := .func (.func (fnOf wd)) #[] #[]
/-- The words behind n blocks. -/
def TT (wd : Bool) (B : Nat → Int) (s : Eight) (n : Nat) : Eight := if wd then takes64 cubeAt B s n else takes32 cubeAt B s n
/-- A slice of bytes that lies apart from n cells of block g from o on. -/
def Apart (v : Value) (g o n : Nat) : Prop := ∀ b off l c, v = .slice (some ⟨b, off, none⟩) l c → b ≠ g ∨ off + l ≤ o ∨ o + n ≤ off
theorem range_below {w w' : World} {g o : Nat} {cs : List Value} (h : w.rangeAt g o cs) (b : Below w.heap.size w w') (hg : g < w.heap.size) : w'.rangeAt g o cs := fun j v hv => by
  rw [b.cell (p := ⟨g, o + j, none⟩) hg]
  exact h j v hv

end Go.Proofs.YtcnikfikpnnblaaGreatDoor.Dg
namespace Go.Proofs.YtcnikfikpnnblaaGreatDoor.Dg
open Go.RowKit
set_option linter.unusedVariables false
/-- Blocks that a call made for itself, one behind the other, with what they hold. -/
structure Mem (w wr : World) (L : List (List Value)) : Prop where
  below : Below w.heap.size w wr
  size : w.heap.size + L.length ≤ wr.heap.size
  holds : ∀ i cs, L[i]? = some cs → wr.rangeAt (w.heap.size + i) 0 cs ∧ wr.there (w.heap.size + i) 0 cs.length
theorem Mem.nil (w : World) : Mem w w [] := ⟨Below.refl _ _, by simp, fun i cs h => by simp at h⟩
theorem Mem.kept {w wr wn : World} {L : List (List Value)} (h : Mem w wr L) (hb : Below w.heap.size w wn) (hs : wr.heap.size ≤ wn.heap.size) (hk : ∀ b, b < wr.heap.size → wn.heap[b]? = wr.heap[b]?) : Mem w wn L := by
  refine ⟨hb, Nat.le_trans h.size hs, fun i cs hi => ?_⟩
  have hl : i < L.length := (List.getElem?_eq_some_iff.1 hi).1
  have hlt : w.heap.size + i < wr.heap.size := by have := h.size; omega
  obtain ⟨h1, h2⟩ := h.holds i cs hi
  refine ⟨fun j v hv => ?_, fun j hj => ?_⟩
  · rw [World.cell?_of_block (w := wr) (hk _ hlt)]
    exact h1 j v hv
  · rw [World.cell?_of_block (w := wr) (a := ⟨w.heap.size + i, 0 + j, none⟩) (hk _ hlt), World.frozen?_of_block (w := wr) (a := ⟨w.heap.size + i, 0 + j, none⟩) (hk _ hlt)]
    exact h2 j hj
theorem Mem.later {w wr wn : World} {L : List (List Value)} (h : Mem w wr L) (hb : Below wr.heap.size wr wn) : Mem w wn L :=
  h.kept (h.below.trans (hb.mono h.below.size)) hb.size (fun b hb' => hb.block b hb')
theorem Mem.drewN {w wr : World} {L : List (List Value)} (h : Mem w wr L) (n : Nat) : Mem w (wr.drewN n) L := ⟨⟨h.below.os, h.below.tape, h.below.output, h.below.size, h.below.block⟩, h.size, h.holds⟩
theorem Mem.drew {w wr : World} {L : List (List Value)} (h : Mem w wr L) : Mem w wr.drew L := ⟨⟨h.below.os, h.below.tape, h.below.output, h.below.size, h.below.block⟩, h.size, h.holds⟩
theorem Mem.alloc {w wr : World} {L : List (List Value)} (h : Mem w wr L) (hs : wr.heap.size = w.heap.size + L.length) (C : Array Value) (t : TypeId) : Mem w (wr.alloc (.cells C t)) (L ++ [C.toList]) := by
  have h0 : Mem w (wr.alloc (.cells C t)) L := h.kept (h.below.alloc (by omega) _) (by simp) (fun b hb => Below.heap_alloc wr _ b hb)
  refine ⟨h0.below, by simp; omega, fun i cs hi => ?_⟩
  by_cases hl : i < L.length
  · rw [List.getElem?_append_left hl] at hi
    exact h0.holds i cs hi
  · have hil : i < (L ++ [C.toList]).length := (List.getElem?_eq_some_iff.1 hi).1
    simp at hil
    obtain rfl : i = L.length := by omega
    simp at hi
    subst hi
    rw [← hs]
    exact ⟨rangeAt_new wr C t, there_new wr C t _ (by simp)⟩
theorem Mem.put {w wr : World} {L : List (List Value)} (h : Mem w wr L) (i : Nat) {cs : List Value} (hi : L[i]? = some cs) (t : Nat) (ht : t < cs.length) (u : Value) : Mem w (wr.setCell ⟨w.heap.size + i, t, none⟩ u) (L.set i (cs.set t u)) := by
  have hl : i < L.length := (List.getElem?_eq_some_iff.1 hi).1
  refine ⟨h.below.setCell (by show _ ≤ w.heap.size + i; omega) u, by simpa [World.setCell] using h.size, fun k ds hk => ?_⟩
  by_cases e : i = k
  · subst e
    rw [List.getElem?_set_self hl] at hk
    injection hk with hk
    subst hk
    obtain ⟨h1, h2⟩ := h.holds i cs hi
    refine ⟨fun j v hv => ?_, ?_⟩
    · by_cases e : t = j
      · subst e
        rw [List.getElem?_set_self ht] at hv
        injection hv with hv
        subst hv
        rw [Nat.zero_add]
        have := (h2 t ht).1
        rw [Nat.zero_add] at this
        exact World.cell?_setCell_same' _ _ _ this
      · rw [List.getElem?_set_ne e] at hv
        have := World.cell?_setCells_out (w.heap.size + i) [u] t wr ⟨w.heap.size + i, 0 + j, none⟩ (fun _ _ => by show 0 + j < t ∨ t + 1 ≤ 0 + j; omega)
        exact this.trans (h1 j v hv)
    · rw [List.length_set]
      exact World.there_setCells h2 (w.heap.size + i) t [u]
  · rw [List.getElem?_set_ne e] at hk
    obtain ⟨h1, h2⟩ := h.holds k ds hk
    refine ⟨fun j v hv => ?_, World.there_setCells h2 (w.heap.size + i) t [u]⟩
    rw [setCell_other wr (w.heap.size + i) t _ _ u (by omega)]
    exact h1 j v hv
theorem Mem.store {w wr : World} {L : List (List Value)} (h : Mem w wr L) (i : Nat) {cs : List Value} (hi : L[i]? = some cs) (vs : List Value) (hv : vs.length = cs.length) : Mem w (wr.setCells (w.heap.size + i) 0 vs) (L.set i vs) := by
  have hl : i < L.length := (List.getElem?_eq_some_iff.1 hi).1
  refine ⟨below_setCells _ (by omega) _ _ _ h.below, by rw [size_setCells]; simpa using h.size, fun k ds hk => ?_⟩
  by_cases e : i = k
  · subst e
    rw [List.getElem?_set_self hl] at hk
    injection hk with hk
    subst hk
    obtain ⟨h1, h2⟩ := h.holds i cs hi
    rw [← hv] at h2
    exact ⟨World.rangeAt_setCells_same wr (w.heap.size + i) 0 vs h2, World.there_setCells h2 (w.heap.size + i) 0 vs⟩
  · rw [List.getElem?_set_ne e] at hk
    obtain ⟨h1, h2⟩ := h.holds k ds hk
    refine ⟨fun j v hv => ?_, World.there_setCells h2 (w.heap.size + i) 0 vs⟩
    rw [World.cell?_setCells_out (w.heap.size + i) vs 0 wr ⟨w.heap.size + k, 0 + j, none⟩ (fun e' _ => absurd e' (by simp; omega))]
    exact h1 j v hv
theorem Mem.cell {w wr : World} {L : List (List Value)} (h : Mem w wr L) (i : Nat) {cs : List Value} (hi : L[i]? = some cs) (t : Nat) (v : Value) (hv : cs[t]? = some v) : wr.cell? ⟨w.heap.size + i, t, none⟩ = some v := by
  have := (h.holds i cs hi).1 t v hv
  rwa [Nat.zero_add] at this
theorem Mem.frozen {w wr : World} {L : List (List Value)} (h : Mem w wr L) (i : Nat) {cs : List Value} (hi : L[i]? = some cs) (t : Nat) (ht : t < cs.length) : wr.frozen? ⟨w.heap.size + i, t, none⟩ = false := by
  have := ((h.holds i cs hi).2 t ht).2
  rwa [Nat.zero_add] at this
theorem Mem.congr {w wr : World} {L L' : List (List Value)} (h : Mem w wr L) (e : L = L') : Mem w wr L' := e ▸ h
end Go.Proofs.YtcnikfikpnnblaaGreatDoor.Dg
