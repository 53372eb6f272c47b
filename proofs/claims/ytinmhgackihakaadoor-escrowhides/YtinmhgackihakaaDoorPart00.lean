import Derived.Test.YtinmhgackihakaaDoorProg
import Derived.WalkKit
import Derived.Laws.BitsLemmas
import Derived.Deep.RegionHeld3
import Derived.OwnWalk
import Derived.Deep.Cut
import Derived.Laws.ResultCell
import Derived.Deep.MidRow
import Derived.Deep.DeepMust
import Derived.Deep.QuietTactic
import Derived.BigQuiet
import Derived.Laws.AppendOwnNone
import Derived.StillTail
namespace Go.Proofs.YtinmhgackihakaaDoor
open Go.RowKit
/-- The product by x. -/
def dblN (a : Nat) : Nat := Nat.xor (Nat.mod (Nat.mul a 2) 256) (Nat.mul (Nat.div a 128) 27)
/-- Times, k rounds of it. -/
def tmsN : Nat → Nat → Nat → Nat → Nat
  | 0, p, _, _ => p
  | k + 1, p, a, b => tmsN k (Nat.xor p (Nat.mul (Nat.mod b 2) a)) (dblN a) (Nat.div b 2)
def refP (a b : Nat) : Nat → Nat
  | 0 => 0
  | i + 1 => Nat.xor (refP a b i) (Nat.mul (Nat.mod (Nat.div b (Nat.pow 2 i)) 2) (Nat.mul a (Nat.pow 2 i)))
def refR : Nat → Nat → Nat
  | 0, p => p
  | i + 1, p => refR i (Nat.xor p (Nat.mul (Nat.mod (Nat.div p (Nat.pow 2 (Nat.add i 8))) 2) (Nat.mul 283 (Nat.pow 2 i))))
def allB (f : Nat → Bool) : Nat → Bool
  | 0 => true
  | n + 1 => and (f n) (allB f n)
theorem allB_at {f : Nat → Bool} : ∀ {n : Nat}, allB f n = true → ∀ {i}, i < n → f i = true
  | 0, _, i, h => by omega
  | n + 1, ha, i, h => by
    simp only [allB, Bool.and_eq_true] at ha
    by_cases hi : i = n
    · subst hi; exact ha.1
    · exact allB_at ha.2 (by omega)
theorem dbl_eq : ∀ a : Fin 256, bits .xor .u8 ((a.1 : Int) * 2 % 256) (bits .and .u8 27 (-((a.1 : Int) / 128) % 256)) = (dblN a.1 : Nat) := by decide +kernel
theorem dbl_lt : ∀ a : Fin 256, dblN a.1 < 256 := by decide +kernel
theorem and_one : ∀ b : Fin 256, bits .and .u8 (b.1 : Int) 1 = ((b.1 % 2 : Nat) : Int) := by decide +kernel
theorem and_all : ∀ b : Fin 256, bits .and .u8 (b.1 : Int) 255 = (b.1 : Int) := by decide +kernel
theorem and_none : ∀ b : Fin 256, bits .and .u8 (b.1 : Int) 0 = 0 := by decide +kernel
theorem bits_xor (k : IntKind) (j : Nat) (hj : j ≤ k.bits) (hk : ∀ n : Int, 0 ≤ n → n < 2 ^ j → k.wrap n = n) (a b : Nat) (ha : a < 2 ^ j) (hb : b < 2 ^ j) :
    bits .xor k a b = ((Nat.xor a b : Nat) : Int) := by
  have hp : 2 ^ j ≤ 2 ^ k.bits := Nat.pow_le_pow_right (by decide) hj
  have ha' : a % 2 ^ k.bits = a := Nat.mod_eq_of_lt (Nat.lt_of_lt_of_le ha hp)
  have hb' : b % 2 ^ k.bits = b := Nat.mod_eq_of_lt (Nat.lt_of_lt_of_le hb hp)
  have cast : ∀ n : Nat, n < 2 ^ j → ((n : Nat) : Int) < 2 ^ j := fun n h => by exact_mod_cast h
  simp only [bits, BitVec.ofInt_natCast, BitVec.toNat_xor, BitVec.toNat_ofNat, ha', hb']
  exact hk _ (Int.natCast_nonneg _) (cast _ (Nat.xor_lt_two_pow ha hb))
theorem wraps_i64 (n : Int) (h₀ : 0 ≤ n) (h₁ : n < 2 ^ 63) : IntKind.i64.wrap n = n := by rw [IntKind.wrap_i64]; omega
theorem xor8 (a b : Nat) (ha : a < 256) (hb : b < 256) : bits .xor .u8 (a : Int) b = (Nat.xor a b : Nat) := bits_xor .u8 8 (by decide) wraps_u8 a b ha hb
theorem xor15 (a b : Nat) (ha : a < 32768) (hb : b < 32768) : bits .xor .i64 (a : Int) b = (Nat.xor a b : Nat) := bits_xor .i64 15 (by decide) (fun n h0 h1 => wraps_i64 n h0 (by omega)) a b ha hb
theorem xor_lt15 {a b : Nat} (ha : a < 32768) (hb : b < 32768) : Nat.xor a b < 32768 := Nat.xor_lt_two_pow (n := 15) ha hb
theorem bit_eq (b k : Nat) : (((b : Int) / 2 ^ k).tmod 2 == 1) = (Nat.mod (Nat.div b (Nat.pow 2 k)) 2 == 1) := by
  have e : ((b : Int) / 2 ^ k) = ((b / 2 ^ k : Nat) : Int) := by push_cast; rfl
  rw [e, show (2 : Int) = ((2 : Nat) : Int) from rfl, ← Int.ofNat_tmod]
  show _ = (b / 2 ^ k % 2 == 1)
  have : b / 2 ^ k % 2 = 0 ∨ b / 2 ^ k % 2 = 1 := by omega
  rcases this with h | h <;> rw [h] <;> rfl
theorem bit_cases (n : Nat) : Nat.mod n 2 = 0 ∨ Nat.mod n 2 = 1 := by
  have : n % 2 = 0 ∨ n % 2 = 1 := by omega
  exact this
theorem xor_lt8 {a b : Nat} (ha : a < 256) (hb : b < 256) : Nat.xor a b < 256 := Nat.xor_lt_two_pow (n := 8) ha hb
theorem mask_eq (a b : Nat) (ha : a < 256) (hb : b < 256) : bits .and .u8 (a : Int) (-(bits .and .u8 (b : Int) 1) % 256) = (Nat.mul (Nat.mod b 2) a : Nat) := by
  have h1 := and_one ⟨b, hb⟩
  simp only at h1
  rw [h1]
  have : b % 2 = 0 ∨ b % 2 = 1 := by omega
  rcases this with h | h
  · rw [h]
    have := and_none ⟨a, ha⟩
    simp only at this
    have e : Nat.mod b 2 = 0 := h
    rw [e]
    simpa using this
  · rw [h]
    have := and_all ⟨a, ha⟩
    simp only at this
    have e : Nat.mod b 2 = 1 := h
    rw [e]
    simpa using this
theorem ret_int {k : IntKind} {x y : Int} (h : x = y) : Ending.returned (.int k x) = .returned (.int k y) := by rw [h]
theorem val_eq {k : IntKind} {x y : Int} (h : x = y) : Value.int k x = Value.int k y := by rw [h]
theorem dbl_ok (a : Nat) (h : a < 256) (w : World) : Calls Tryd.prog 33 #[.int .u8 a] w fun e w' => e = .returned (.int .u8 (dblN a : Nat)) ∧ w' = w := by
  go_enter Tryd.func33, Tryd.ntmps33
  go_wp2
  go_ret
  exact ⟨ret_int (dbl_eq ⟨a, h⟩), rfl⟩
theorem tms_lt : ∀ (k p a b : Nat), p < 256 → a < 256 → b < 256 → tmsN k p a b < 256
  | 0, p, a, b, hp, _, _ => hp
  | k + 1, p, a, b, hp, ha, hb => by
    have : Nat.mul (Nat.mod b 2) a < 256 := by
      have : b % 2 = 0 ∨ b % 2 = 1 := by omega
      rcases this with h | h
      · rw [show Nat.mod b 2 = 0 from h]; simp
      · rw [show Nat.mod b 2 = 1 from h]; simpa using ha
    exact tms_lt k _ _ _ (xor_lt8 hp this) (dbl_lt ⟨a, ha⟩) (by show b / 2 < 256; omega)
theorem times_ok (a b : Nat) (ha : a < 256) (hb : b < 256) (w : World) : Calls Tryd.prog 20 #[.int .u8 a, .int .u8 b] w fun e w' => e = .returned (.int .u8 (tmsN 8 0 a b : Nat)) ∧ w' = w := by
  go_enter Tryd.func20, Tryd.ntmps20
  go_wp2
  go_loopw [0, 1, 5, 6] (fun va vb vp i wr => ∃ k x y p : Nat, k ≤ 8 ∧ x < 256 ∧ y < 256 ∧ p < 256 ∧ i = .int .i64 k ∧ va = .int .u8 x ∧ vb = .int .u8 y ∧ vp = .int .u8 p ∧ Hid (tmsN 8 0 a b = tmsN (8 - k) p x y) ∧ wr = w) (fun _ _ _ i _ => 8 - (intOf i).toNat)
  case atStart => exact ⟨0, a, b, 0, by omega, ha, hb, by omega, rfl, rfl, rfl, rfl, rfl, rfl⟩
  case round =>
    obtain ⟨k, x, y, p, hk, hx, hy, hp, rfl, rfl, rfl, rfl, HS, hw⟩ := hrel
    obtain rfl := hw.symm
    by_cases hlt : k < 8
    · go_wp2_with (first | (go_at_call 33; (refine (dbl_ok x hx _).mono ?_); (rintro e1 w1 ⟨rfl, hw1⟩; obtain rfl := hw1.symm)))
      go_roundw
      case rel =>
        have hm : Nat.mul (Nat.mod y 2) x < 256 := by
          have : y % 2 = 0 ∨ y % 2 = 1 := by omega
          rcases this with h | h
          · rw [show Nat.mod y 2 = 0 from h]; simp
          · rw [show Nat.mod y 2 = 1 from h]; simpa using hx
        refine ⟨k + 1, dblN x, y / 2, Nat.xor p (Nat.mul (Nat.mod y 2) x), by omega, dbl_lt ⟨x, hx⟩, by omega, xor_lt8 hp hm, by go_num, rfl, val_eq (by omega), val_eq ?_, ?_, trivial⟩
        · rw [mask_eq x y hx hy, xor8 _ _ hp hm]
        · have := HS.out
          rw [show 8 - k = 8 - (k + 1) + 1 by omega] at this
          exact this
      case measure => simp [intOf]; omega
    · obtain rfl : k = 8 := by omega
      go_wp2
      go_ret
      exact ⟨ret_int (by rw [HS.out]; rfl), rfl⟩
end Go.Proofs.YtinmhgackihakaaDoor
namespace Go.Proofs.YtinmhgackihakaaDoor
/-- The powers of 3, and their numbers. -/
def pwT (j : Nat) : Nat := Nat.mod (Nat.shiftRight 121466575815500734415996836054882879791832871126464106601702187317037704638720699736399773789881350966450612456712855012027411276600174289287471020404625812305602624065235109912861702064162581238381248958448422203687095403783548669481020115429473714815130546491650907227391014769411226625179674495964331439187933946584331397333639979447433688574122779091165484305754955373075414835846686739481168846087332879005575464100018941681806164995707250399423063311368515928344698269234575261926727907427524598329539937222090466892085999338983806607642276495436692919915470849325341672618663070658392065151738926641076044545 (Nat.mul 8 j)) 256
def lgT (b : Nat) : Nat := Nat.mod (Nat.shiftRight 939374623831894136699086600277250597547650664638770418422125146541797353646788332867483593573384618611044815625336497665827114626705134492515730415652478061620339993830966980270842846318821775850471098591710629241171812800746666233448222972174585295916389942636813666312872914849454985560152530477328703759683306625234997237483834721220409437442253146756845415190424543171129629468776480674528486868811725071010351012234056630775688111116293610821126543142160426617079940511630006820862697466582575257349116925728488930366609138264019883664906661504235885380294353134295748489096855100647154935187045898006656778240 (Nat.mul 8 b)) 256
def logB (i j : Nat) : Bool := Nat.beq (tmsN 8 0 (pwT i) (pwT j)) (pwT (Nat.mod (Nat.add i j) 255))
set_option maxRecDepth 100000 in
theorem log_0 : allB (fun i => allB (logB i) 255) 64 = true := by decide +kernel
set_option maxRecDepth 100000 in
theorem log_1 : allB (fun i => allB (logB (Nat.add 64 i)) 255) 64 = true := by decide +kernel
set_option maxRecDepth 100000 in
theorem log_2 : allB (fun i => allB (logB (Nat.add 128 i)) 255) 64 = true := by decide +kernel
set_option maxRecDepth 100000 in
theorem log_3 : allB (fun i => allB (logB (Nat.add 192 i)) 255) 63 = true := by decide +kernel
theorem log_all (i j : Nat) (hi : i < 255) (hj : j < 255) : tmsN 8 0 (pwT i) (pwT j) = pwT ((i + j) % 255) := by
  have h : logB i j = true := by
    by_cases h0 : i < 64
    · exact allB_at (allB_at log_0 h0) hj
    · by_cases h1 : i < 128
      · have q := allB_at (allB_at log_1 (show i - 64 < 64 by omega)) hj
        rwa [show Nat.add 64 (i - 64) = i from Nat.add_sub_of_le (by omega)] at q
      · by_cases h2 : i < 192
        · have q := allB_at (allB_at log_2 (show i - 128 < 64 by omega)) hj
          rwa [show Nat.add 128 (i - 128) = i from Nat.add_sub_of_le (by omega)] at q
        · have q := allB_at (allB_at log_3 (show i - 192 < 63 by omega)) hj
          rwa [show Nat.add 192 (i - 192) = i from Nat.add_sub_of_le (by omega)] at q
  exact Nat.eq_of_beq_eq_true h
theorem pwT_lt (j : Nat) : pwT j < 256 := Nat.mod_lt _ (by decide)
theorem lg_pw : ∀ b : Fin 256, b.1 = 0 ∨ (lgT b.1 < 255 ∧ pwT (lgT b.1) = b.1) := by decide +kernel
theorem pw_ne : ∀ j : Fin 255, pwT j.1 ≠ 0 := by decide +kernel
theorem pw_lg : ∀ j : Fin 255, lgT (pwT j.1) = j.1 := by decide +kernel
/-- A byte as an element of the field. -/
abbrev F := Fin 256
def fa (a b : F) : F := ⟨Nat.xor a.1 b.1, xor_lt8 a.2 b.2⟩
def fm (a b : F) : F := ⟨tmsN 8 0 a.1 b.1, tms_lt 8 0 a.1 b.1 (by decide) a.2 b.2⟩
/-- 3 to the n. -/
def Em (n : Nat) : F := ⟨pwT (n % 255), pwT_lt _⟩
theorem fa_comm (a b : F) : fa a b = fa b a := Fin.ext (Nat.xor_comm _ _)
theorem fa_assoc (a b c : F) : fa (fa a b) c = fa a (fa b c) := Fin.ext (Nat.xor_assoc _ _ _)
theorem fa_self (a : F) : fa a a = 0 := Fin.ext (Nat.xor_self _)
theorem fa_zero (a : F) : fa a 0 = a := Fin.ext (Nat.xor_zero _)
theorem zero_fa (a : F) : fa 0 a = a := Fin.ext (Nat.zero_xor _)
theorem fa_left (a b c : F) : fa a (fa b c) = fa b (fa a c) := by rw [← fa_assoc, fa_comm a b, fa_assoc]
theorem fa_canc (a b : F) : fa a (fa a b) = b := by rw [← fa_assoc, fa_self, zero_fa]
theorem fa_eq_zero {a b : F} (h : fa a b = 0) : a = b := by rw [← fa_zero a, ← fa_self b, ← fa_assoc, h, zero_fa]
theorem fa_ne {a b : F} (h : a ≠ b) : fa a b ≠ 0 := fun e => h (fa_eq_zero e)
theorem fa_inj {a b c : F} (h : fa a c = fa b c) : a = b := by rw [← fa_canc c a, fa_comm c a, h, fa_comm b c, fa_canc]
theorem Em_mul (m n : Nat) : fm (Em m) (Em n) = Em (m + n) := Fin.ext (by
  show tmsN 8 0 (pwT (m % 255)) (pwT (n % 255)) = pwT ((m + n) % 255)
  rw [log_all _ _ (Nat.mod_lt _ (by decide)) (Nat.mod_lt _ (by decide)), ← Nat.add_mod])
theorem Em_ne (n : Nat) : Em n ≠ 0 := fun e => pw_ne ⟨n % 255, Nat.mod_lt _ (by decide)⟩ (congrArg Fin.val e)
theorem Em_inj (m n : Nat) (hm : m < 255) (hn : n < 255) (h : Em m = Em n) : m = n := by
  have h' : pwT (m % 255) = pwT (n % 255) := congrArg Fin.val h
  rw [Nat.mod_eq_of_lt hm, Nat.mod_eq_of_lt hn] at h'
  have a := pw_lg ⟨m, hm⟩
  have b := pw_lg ⟨n, hn⟩
  simp only at a b
  rw [← a, h', b]
theorem Em_zero : Em 0 = 1 := by decide +kernel
theorem Em_one : Em 1 = 3 := by decide +kernel
theorem Em_all (a : F) : a = 0 ∨ ∃ n, n < 255 ∧ a = Em n := by
  rcases lg_pw a with h | ⟨h1, h2⟩
  · exact .inl (Fin.ext h)
  · exact .inr ⟨lgT a.1, h1, Fin.ext (by show a.1 = pwT (lgT a.1 % 255); rw [Nat.mod_eq_of_lt h1, h2])⟩
theorem fm_zero : ∀ a : F, fm a 0 = 0 := by decide +kernel
theorem zero_fm : ∀ a : F, fm 0 a = 0 := by decide +kernel
theorem fm_comm (a b : F) : fm a b = fm b a := by
  rcases Em_all a with rfl | ⟨m, _, rfl⟩
  · rw [fm_zero, zero_fm]
  · rcases Em_all b with rfl | ⟨n, _, rfl⟩
    · rw [fm_zero, zero_fm]
    · rw [Em_mul, Em_mul, Nat.add_comm]
theorem fm_assoc (a b c : F) : fm (fm a b) c = fm a (fm b c) := by
  rcases Em_all a with rfl | ⟨m, _, rfl⟩
  · rw [zero_fm, zero_fm, zero_fm]
  · rcases Em_all b with rfl | ⟨n, _, rfl⟩
    · rw [fm_zero, zero_fm, fm_zero]
    · rcases Em_all c with rfl | ⟨k, _, rfl⟩
      · rw [fm_zero, fm_zero, fm_zero]
      · rw [Em_mul, Em_mul, Em_mul, Em_mul, Nat.add_assoc]
theorem fm_left (a b c : F) : fm a (fm b c) = fm b (fm a c) := by rw [← fm_assoc, fm_comm a b, fm_assoc]
theorem fm_one (a : F) : fm a 1 = a := by
  rcases Em_all a with rfl | ⟨m, _, rfl⟩
  · exact zero_fm _
  · rw [← Em_zero, Em_mul, Nat.add_zero]
theorem fm_ne {a b : F} (ha : a ≠ 0) (hb : b ≠ 0) : fm a b ≠ 0 := by
  rcases Em_all a with h | ⟨m, _, rfl⟩
  · exact absurd h ha
  · rcases Em_all b with h | ⟨n, _, rfl⟩
    · exact absurd h hb
    · rw [Em_mul]; exact Em_ne _
theorem fm_eq_zero {a b : F} (h : fm a b = 0) (hb : b ≠ 0) : a = 0 := by
  by_cases ha : a = 0
  · exact ha
  · exact absurd h (fm_ne ha hb)
/-- A factor that undoes. -/
theorem fm_inv (a : F) (ha : a ≠ 0) : ∃ b, b ≠ 0 ∧ fm a b = 1 := by
  rcases Em_all a with h | ⟨m, hm, rfl⟩
  · exact absurd h ha
  · refine ⟨Em (255 - m), Em_ne _, ?_⟩
    rw [Em_mul, show m + (255 - m) = 255 by omega]
    decide +kernel
theorem fm_canc {a b c : F} (hc : c ≠ 0) (h : fm a c = fm b c) : a = b := by
  obtain ⟨d, _, hd⟩ := fm_inv c hc
  have e : fm (fm a c) d = fm (fm b c) d := by rw [h]
  rwa [fm_assoc, fm_assoc, hd, fm_one, fm_one] at e
theorem mod2_xor (a b : Nat) : Nat.mod (Nat.xor a b) 2 = Nat.xor (Nat.mod a 2) (Nat.mod b 2) := Nat.xor_mod_two_pow (a := a) (b := b) (n := 1)
theorem div2_xor (a b : Nat) : Nat.div (Nat.xor a b) 2 = Nat.xor (Nat.div a 2) (Nat.div b 2) := by
  have h := Nat.shiftRight_xor_distrib (a := a) (b := b) (i := 1)
  show (a ^^^ b) / 2 = (a / 2) ^^^ (b / 2)
  simpa [Nat.shiftRight_eq_div_pow] using h
theorem mul_bit (x y a : Nat) (hx : x = 0 ∨ x = 1) (hy : y = 0 ∨ y = 1) : Nat.mul (Nat.xor x y) a = Nat.xor (Nat.mul x a) (Nat.mul y a) := by
  rcases hx with rfl | rfl <;> rcases hy with rfl | rfl
  · show 0 * a = (0 * a) ^^^ (0 * a); simp
  · show (0 ^^^ 1) * a = (0 * a) ^^^ (1 * a); simp
  · show (1 ^^^ 0) * a = (1 * a) ^^^ (0 * a); simp
  · show (1 ^^^ 1) * a = (1 * a) ^^^ (1 * a); simp
theorem tms_xor : ∀ (k p q a b c : Nat), tmsN k (Nat.xor p q) a (Nat.xor b c) = Nat.xor (tmsN k p a b) (tmsN k q a c)
  | 0, p, q, a, b, c => rfl
  | k + 1, p, q, a, b, c => by
    show tmsN k (Nat.xor (Nat.xor p q) (Nat.mul (Nat.mod (Nat.xor b c) 2) a)) (dblN a) (Nat.div (Nat.xor b c) 2) = Nat.xor (tmsN k (Nat.xor p (Nat.mul (Nat.mod b 2) a)) (dblN a) (Nat.div b 2)) (tmsN k (Nat.xor q (Nat.mul (Nat.mod c 2) a)) (dblN a) (Nat.div c 2))
    rw [← tms_xor k _ _ (dblN a) (Nat.div b 2) (Nat.div c 2), mod2_xor, div2_xor, mul_bit _ _ _ (bit_cases b) (bit_cases c)]
    congr 1
    show (p ^^^ q) ^^^ (_ ^^^ _) = (p ^^^ _) ^^^ (q ^^^ _)
    rw [Nat.xor_assoc, Nat.xor_assoc, ← Nat.xor_assoc q, Nat.xor_comm q, Nat.xor_assoc]
theorem fm_fa (a b c : F) : fm a (fa b c) = fa (fm a b) (fm a c) := Fin.ext (tms_xor 8 0 0 a.1 b.1 c.1)
theorem fa_fm (a b c : F) : fm (fa a b) c = fa (fm a c) (fm b c) := by rw [fm_comm, fm_fa, fm_comm c a, fm_comm c b]
end Go.Proofs.YtinmhgackihakaaDoor
namespace Go.Proofs.YtinmhgackihakaaDoor
/-- The sum of the first n of a row. -/
def sm (n : Nat) (g : Nat → F) : F := match n with
  | 0 => 0
  | k + 1 => fa (sm k g) (g k)
/-- The j-th power. -/
def P (x : F) : Nat → F
  | 0 => 1
  | j + 1 => fm (P x j) x
theorem fa_mid (a b c d : F) : fa (fa a b) (fa c d) = fa (fa a c) (fa b d) := by
  rw [fa_assoc, fa_assoc, fa_left b c d]
theorem sm_fa (g h : Nat → F) : ∀ n, sm n (fun i => fa (g i) (h i)) = fa (sm n g) (sm n h)
  | 0 => (fa_zero 0).symm
  | n + 1 => by
    show fa (sm n (fun i => fa (g i) (h i))) (fa (g n) (h n)) = fa (fa (sm n g) (g n)) (fa (sm n h) (h n))
    rw [sm_fa g h n, fa_mid]
theorem sm_fm (c : F) (g : Nat → F) : ∀ n, sm n (fun i => fm c (g i)) = fm c (sm n g)
  | 0 => (fm_zero c).symm
  | n + 1 => by
    show fa (sm n (fun i => fm c (g i))) (fm c (g n)) = fm c (fa (sm n g) (g n))
    rw [sm_fm c g n, fm_fa]
theorem sm_congr (g h : Nat → F) : ∀ n, (∀ i, i < n → g i = h i) → sm n g = sm n h
  | 0, _ => rfl
  | n + 1, hh => by
    show fa (sm n g) (g n) = fa (sm n h) (h n)
    rw [sm_congr g h n (fun i hi => hh i (by omega)), hh n (by omega)]
theorem sm_none (g : Nat → F) : ∀ n, (∀ i, i < n → g i = 0) → sm n g = 0
  | 0, _ => rfl
  | n + 1, hh => by
    show fa (sm n g) (g n) = 0
    rw [sm_none g n (fun i hi => hh i (by omega)), hh n (by omega), fa_zero]
theorem sm_one (g : Nat → F) (t : Nat) : ∀ n, t < n → (∀ i, i < n → i ≠ t → g i = 0) → sm n g = g t
  | 0, h, _ => by omega
  | n + 1, h, hh => by
    show fa (sm n g) (g n) = g t
    by_cases e : n = t
    · subst e
      rw [sm_none g n (fun i hi => hh i (by omega) (by omega)), zero_fa]
    · rw [sm_one g t n (by omega) (fun i hi he => hh i (by omega) he), hh n (by omega) e, fa_zero]
/-- What a place weighs. -/
def X (n i : Nat) : F := Em (n - 1 - i)
theorem X_inj (n i k : Nat) (hn : n ≤ 255) (hi : i < n) (hk : k < n) (h : X n i = X n k) : i = k := by
  have := Em_inj _ _ (by omega) (by omega) h
  omega
/-- A place is taken out. -/
def outE (n p : Nat) (d : Nat → F) (i : Nat) : F := fm (d i) (fa (X n i) (X n p))
/-- The first m sums are zero. -/
def Zs (n m : Nat) (d : Nat → F) : Prop := ∀ j, j < m → sm n (fun i => fm (d i) (P (X n i) j)) = 0
theorem Zs.out {n m p : Nat} {d : Nat → F} (h : Zs n (m + 1) d) : Zs n m (outE n p d) := fun j hj => by
  have e : ∀ i, fm (outE n p d i) (P (X n i) j) = fa (fm (d i) (P (X n i) (j + 1))) (fm (X n p) (fm (d i) (P (X n i) j))) := fun i => by
    show fm (fm (d i) (fa (X n i) (X n p))) (P (X n i) j) = fa (fm (d i) (fm (P (X n i) j) (X n i))) _
    rw [fm_assoc, fa_fm, fm_fa, fm_comm (X n i), fm_left (d i) (X n p)]
  rw [sm_congr _ _ n (fun i _ => e i), sm_fa, h (j + 1) (by omega), sm_fm, h j (by omega), fm_zero, fa_zero]
def outs (n : Nat) : List Nat → (Nat → F) → Nat → F
  | [], d => d
  | p :: l, d => outs n l (outE n p d)
theorem outs_zs (n : Nat) : ∀ (l : List Nat) (m : Nat) (d : Nat → F), Zs n (m + l.length) d → Zs n m (outs n l d)
  | [], m, d, h => h
  | p :: l, m, d, h => outs_zs n l m _ (Zs.out (p := p) (by rw [show m + l.length + 1 = m + (p :: l).length by simp; omega]; exact h))
theorem outs_zero (n i : Nat) : ∀ (l : List Nat) (d : Nat → F), (d i = 0 ∨ i ∈ l) → outs n l d i = 0
  | [], d, h => by rcases h with h | h; exact h; cases h
  | p :: l, d, h => by
    refine outs_zero n i l _ ?_
    by_cases e : i = p
    · left
      show fm (d i) (fa (X n i) (X n p)) = 0
      rw [e, fa_self, fm_zero]
    · rcases h with h | h
      · left
        show fm (d i) _ = 0
        rw [h, zero_fm]
      · right
        simpa [e] using h
theorem outs_ne (n t : Nat) (hn : n ≤ 255) (ht : t < n) : ∀ (l : List Nat) (d : Nat → F), d t ≠ 0 → (∀ p, p ∈ l → p < n ∧ p ≠ t) → outs n l d t ≠ 0
  | [], d, h, _ => h
  | p :: l, d, h, hl => by
    refine outs_ne n t hn ht l _ ?_ (fun q hq => hl q (by simp [hq]))
    have := hl p (by simp)
    exact fm_ne h (fa_ne (fun e => this.2 (X_inj n t p hn ht this.1 e).symm))
/-- What has four sums of zero and at most four places is zero. -/
theorem uniq (n : Nat) (hn : n ≤ 255) (d : Nat → F) (l : List Nat) (hl : l.length ≤ 4) (hs : ∀ i, i < n → d i ≠ 0 → i ∈ l) (hz : Zs n 4 d) : ∀ i, i < n → d i = 0 := fun t ht => by
  by_cases h : d t = 0
  · exact h
  · exfalso
    have hm := hs t ht h
    obtain ⟨l', hl'⟩ : ∃ l', l' = l.filter (fun p => decide (p ≠ t) && decide (p < n)) := ⟨_, rfl⟩
    have hlen : l'.length < l.length := by
      rw [hl']
      have := List.length_filter_lt_length_iff_exists (p := fun p => decide (p ≠ t) && decide (p < n)) (l := l)
      exact this.2 ⟨t, hm, by simp⟩
    have hz' : Zs n 1 (outs n l' d) := outs_zs n l' 1 d (fun j hj => hz j (by omega))
    have h1 := hz' 0 (by decide)
    rw [sm_one _ t n ht (fun i hi he => by
      have : outs n l' d i = 0 := outs_zero n i l' d (by
        by_cases hd : d i = 0
        · exact .inl hd
        · right
          rw [hl']
          simp [hs i hi hd, he, hi])
      rw [this, zero_fm])] at h1
    exact outs_ne n t hn ht l' d h (fun p hp => by rw [hl'] at hp; simp at hp; exact ⟨hp.2.2, hp.2.1⟩) (fm_eq_zero h1 (show (1 : F) ≠ 0 by decide))
/-- The value of a row as a polynomial, its last byte the constant one. -/
def pv (x : F) : List F → F := List.foldl (fun y c => fa (fm y x) c) 0
theorem pv_snoc (x : F) (l : List F) (c : F) : pv x (l ++ [c]) = fa (fm (pv x l) x) c := by simp [pv, List.foldl_append]
theorem P_Em (k : Nat) : ∀ j, P (Em k) j = Em (k * j)
  | 0 => by rw [Nat.mul_zero, Em_zero]; rfl
  | j + 1 => by show fm (P (Em k) j) (Em k) = _; rw [P_Em k j, Em_mul, Nat.mul_succ]
theorem pv_sm (x : F) : ∀ (m : Nat) (g : Nat → F), pv x ((List.range m).map g) = sm m (fun i => fm (g i) (P x (m - 1 - i)))
  | 0, g => rfl
  | m + 1, g => by
    rw [List.range_succ, List.map_append, List.map_singleton, pv_snoc, pv_sm x m g]
    show _ = fa (sm m (fun i => fm (g i) (P x (m + 1 - 1 - i)))) (fm (g m) (P x (m + 1 - 1 - m)))
    rw [show m + 1 - 1 - m = 0 by omega, show P x 0 = 1 from rfl, fm_one, fm_comm, ← sm_fm]
    congr 1
    refine sm_congr _ _ m fun i hi => ?_
    rw [show m + 1 - 1 - i = (m - 1 - i) + 1 by omega]
    show _ = fm (g i) (fm (P x (m - 1 - i)) x)
    rw [fm_comm (P x (m - 1 - i)) x, fm_left (g i) x]
/-- The sums of a row. -/
theorem pv_row (j m : Nat) (g : Nat → F) : pv (Em j) ((List.range m).map g) = sm m (fun i => fm (g i) (P (X m i) j)) := by
  rw [pv_sm]
  refine sm_congr _ _ m fun i _ => ?_
  rw [P_Em, X, P_Em, Nat.mul_comm]
end Go.Proofs.YtinmhgackihakaaDoor
namespace Go.Proofs.YtinmhgackihakaaDoor
set_option linter.unusedSimpArgs false
/-- The sums of a row of zeros but for two places. -/
def T0 (a b : F) : F := fa a b
def T1 (x y a b : F) : F := fa (fm a x) (fm b y)
def T2 (x y a b : F) : F := fa (fm a (fm x x)) (fm b (fm y y))
def T3 (x y a b : F) : F := fa (fm a (fm x (fm x x))) (fm b (fm y (fm y y)))
/-- Each sum follows from the two ahead of it. -/
theorem T2_eq (x y a b : F) : fa (fm (fa x y) (T1 x y a b)) (fm (fm x y) (T0 a b)) = T2 x y a b := by
  unfold T0 T1 T2
  simp only [fm_fa, fa_fm, fm_assoc, fa_assoc, fm_comm, fm_left, fa_comm, fa_left, fa_self, fa_canc, fa_zero, zero_fa]
theorem T3_eq (x y a b : F) : fa (fm (fa x y) (T2 x y a b)) (fm (fm x y) (T1 x y a b)) = T3 x y a b := by
  unfold T3 T1 T2
  simp only [fm_fa, fa_fm, fm_assoc, fa_assoc, fm_comm, fm_left, fa_comm, fa_left, fa_self, fa_canc, fa_zero, zero_fa]
/-- The bytes at the two places, by the first two sums. -/
theorem T_back (x y f0 f1 i a : F) (hi : fm (fa x y) i = 1) (ha : a = fm (fa (fm f0 y) f1) i) : T0 a (fa f0 a) = f0 ∧ T1 x y a (fa f0 a) = f1 := by
  have e : fm a (fa x y) = fa (fm f0 y) f1 := by rw [ha, fm_assoc, fm_comm i, hi, fm_one]
  refine ⟨by unfold T0; rw [fa_left, fa_self, fa_zero], ?_⟩
  unfold T1
  rw [fa_fm, fa_left, ← fm_fa, e, fa_canc]
theorem T_only (x y a b i : F) (hi : fm (fa x y) i = 1) : fm (fa (fm (T0 a b) y) (T1 x y a b)) i = a := by
  have e : fa (fm (T0 a b) y) (T1 x y a b) = fm a (fa x y) := by
    unfold T0 T1
    simp only [fm_fa, fa_fm, fa_assoc, fa_comm, fa_left, fa_self, fa_canc, fa_zero, zero_fa]
  rw [e, fm_assoc, hi, fm_one]
/-- x to the 254. -/
theorem inv_254 : ∀ a : F, a ≠ 0 → ∃ i, fm a i = 1 := fun a h => by
  obtain ⟨b, _, hb⟩ := fm_inv a h
  exact ⟨b, hb⟩
def invF (a : F) : F := if a = 0 then 0 else Em (255 - lgT a.1)
theorem invF_mul (a : F) (h : a ≠ 0) : fm a (invF a) = 1 := by
  rcases Em_all a with h0 | ⟨m, hm, rfl⟩
  · exact absurd h0 h
  · unfold invF
    rw [if_neg h, show lgT (Em m).1 = m by
      have := pw_lg ⟨m, hm⟩
      simp only at this
      show lgT (pwT (m % 255)) = m
      rw [Nat.mod_eq_of_lt hm, this], Em_mul, show m + (255 - m) = 255 by omega]
    decide +kernel
theorem inv_only {a i k : F} (h : fm a i = 1) (g : fm a k = 1) : i = k := by
  have e : fm (fm a i) k = fm (fm a k) i := by rw [fm_assoc, fm_assoc, fm_comm i k]
  rw [h, g, fm_comm 1 k, fm_comm 1 i, fm_one, fm_one] at e
  exact e.symm
/-- The program's inverse: seven squares. -/
def sqN : Nat → F → F → F
  | 0, _, p => p
  | k + 1, x, p => sqN k (fm x x) (fm p (fm x x))
theorem sq_all : ∀ a : F, sqN 7 a 1 = invF a := by decide +kernel
end Go.Proofs.YtinmhgackihakaaDoor
namespace Go.Proofs.YtinmhgackihakaaDoor
open Go.RowKit
set_option linter.unusedVariables false
set_option linter.unusedSimpArgs false
theorem timesF (a b : F) (w : World) : Calls Tryd.prog 20 #[.int .u8 (a.1 : Nat), .int .u8 (b.1 : Nat)] w fun e w' => e = .returned (.int .u8 ((fm a b).1 : Nat)) ∧ w' = w := times_ok a.1 b.1 a.2 b.2 w
theorem xorF (a b : F) : bits .xor .u8 ((a.1 : Nat) : Int) ((b.1 : Nat) : Int) = (((fa a b).1 : Nat) : Int) := xor8 a.1 b.1 a.2 b.2
/-- Bytes where they lie. -/
def Rw (w : World) (b off : Nat) (l : List F) : Prop := ∀ i, i < l.length → w.cell? ⟨b, off + i, none⟩ = some (.int .u8 ((l.getD i 0).1 : Nat))
theorem Rw.below {w w' : World} {b off : Nat} {l : List F} (h : Rw w b off l) (hb : Below w.heap.size w w') : Rw w' b off l := fun i hi => (hb.cell (World.block_lt_of_cell? w _ (h i hi))).trans (h i hi)
set_option maxHeartbeats 400000 in
/-- inverse. -/
theorem inverse_ok (a : F) (w : World) : Calls Tryd.prog 69 #[.int .u8 (a.1 : Nat)] w fun e w' => e = .returned (.int .u8 ((invF a).1 : Nat)) ∧ w' = w := by
  go_enter Tryd.func69, Tryd.ntmps69
  go_wp2
  go_loopw [0, 3, 4] (fun vx vp vi wr => ∃ (k : Nat) (x p : F), k ≤ 7 ∧ vi = .int .i64 (k : Nat) ∧ vx = .int .u8 (x.1 : Nat) ∧ vp = .int .u8 (p.1 : Nat) ∧ Hid (sqN 7 a 1 = sqN (7 - k) x p) ∧ wr = w) (fun _ _ vi _ => 7 - (intOf vi).toNat)
  case atStart => exact ⟨0, a, 1, by omega, rfl, rfl, rfl, rfl, rfl⟩
  case round =>
    obtain ⟨k, x, p, hk, rfl, rfl, rfl, HS, hw⟩ := hrel
    obtain rfl := hw.symm
    by_cases hlt : k < 7
    · have H1 : Hid (Calls Tryd.prog 20 #[.int .u8 (x.1 : Nat), .int .u8 (x.1 : Nat)] w fun e w' => e = .returned (.int .u8 ((fm x x).1 : Nat)) ∧ w' = w) := timesF x x w
      have H2 : Hid (Calls Tryd.prog 20 #[.int .u8 (p.1 : Nat), .int .u8 ((fm x x).1 : Nat)] w fun e w' => e = .returned (.int .u8 ((fm p (fm x x)).1 : Nat)) ∧ w' = w) := timesF p (fm x x) w
      have HQ : Hid (sqN 7 a 1 = sqN (7 - (k + 1)) (fm x x) (fm p (fm x x))) := by
        have := HS.out
        rw [show 7 - k = 7 - (k + 1) + 1 by omega] at this
        exact this
      generalize fm x x = xx at H1 H2 HQ
      generalize fm p xx = pp at H2 HQ
      go_wp2_with (first
        | (go_at_call 20; refine H1.out.mono ?_; rintro e1 w1 ⟨rfl, hw⟩; obtain rfl := hw.symm; clear H1 hw)
        | (go_at_call 20; refine H2.out.mono ?_; rintro e1 w1 ⟨rfl, hw⟩; obtain rfl := hw.symm; clear H2 hw))
      go_roundw
      case rel => exact ⟨k + 1, xx, pp, by omega, by go_num, rfl, rfl, HQ.out, trivial⟩
      case measure => simp [intOf]; omega
    · obtain rfl : k = 7 := by omega
      go_wp2
      go_ret
      have e : sqN (7 - 7) x p = p := rfl
      exact ⟨ret_int (by rw [← sq_all a, HS.out, e]), rfl⟩
set_option maxHeartbeats 400000 in
/-- withCoefficients' polynomial. -/
theorem poly_ok (x : F) (p b off c : Nat) (l : List F) (w : World) (hp : w.cell? ⟨p, 0, none⟩ = some (.slice (some ⟨b, off, none⟩) l.length c)) (hl : l.length ≤ 4000) (h : Hid (Rw w b off l)) :
    Calls Tryd.prog 40 #[.int .u8 (x.1 : Nat), .pointer (some ⟨p, 0, none⟩)] w fun e w' => e = .returned (.int .u8 ((pv x l).1 : Nat)) ∧ w' = w := by
  obtain ⟨n, HN⟩ : ∃ n, Hid (l.length = n) := ⟨_, rfl⟩
  rw [HN.out] at hp hl
  go_enter Tryd.func40, Tryd.ntmps40
  go_wp2
  go_loopw [4, 9] (fun vy vi wr => ∃ (k : Nat) (y : F), k ≤ n ∧ vi = .int .i64 (k : Nat) ∧ vy = .int .u8 (y.1 : Nat) ∧ Hid (y = pv x (l.take k)) ∧ wr = w) (fun _ vi _ => n - (intOf vi).toNat)
  case atStart => exact ⟨0, 0, by omega, rfl, rfl, rfl, rfl⟩
  case round =>
    obtain ⟨k, y, hk, rfl, rfl, HY, hw⟩ := hrel
    obtain rfl := hw.symm
    by_cases hlt : k < n
    · obtain ⟨z, HZ⟩ : ∃ z, Hid (l.getD k 0 = z) := ⟨_, rfl⟩
      have c1 : w.cell? ⟨b, off + k, none⟩ = some (.int .u8 (z.1 : Nat)) := by rw [← HZ.out]; exact h.out k (by rw [HN.out]; exact hlt)
      have HK : Hid (pv x (l.take (k + 1)) = fa (fm y x) z) := by
        have hk' : k < l.length := by rw [HN.out]; exact hlt
        show _ = _
        rw [List.take_succ_eq_append_getElem hk', pv_snoc, ← HY.out, ← HZ.out, List.getD_eq_getElem?_getD, List.getElem?_eq_getElem hk']
        rfl
      have H1 : Hid (Calls Tryd.prog 20 #[.int .u8 (y.1 : Nat), .int .u8 (x.1 : Nat)] w fun e w' => e = .returned (.int .u8 ((fm y x).1 : Nat)) ∧ w' = w) := timesF y x w
      generalize fm y x = yx at H1 HK
      go_wp2_with (first
        | (go_at_call 20; refine H1.out.mono ?_; rintro e1 w1 ⟨rfl, hw⟩; obtain rfl := hw.symm; clear H1 hw))
      go_roundw
      case rel => exact ⟨k + 1, fa yx z, by omega, by go_num, val_eq (xorF yx z), HK.out.symm, trivial⟩
      case measure => simp [intOf]; omega
    · obtain rfl : k = n := by omega
      go_wp2
      go_ret
      have e := HY.out
      rw [← HN.out, List.take_length] at e
      exact ⟨ret_int (by rw [e]), rfl⟩
end Go.Proofs.YtinmhgackihakaaDoor
namespace Go.Proofs.YtinmhgackihakaaDoor
open Go.RowKit
set_option linter.unusedVariables false
theorem ret_agg_tmp {P : Program} {fn : Func} {p t : Tmp} {ty : TypeId} {d : TypeDesc} {Q : Ending → World → Prop} {tmps : Array Value} {w : World} {b : Nat} (cs : List Value) (v : Value) (h : fn.results = #[.cell p ty, .tmp t])
    (hp : tmps.getD p undef = .pointer (some ⟨b, 0, none⟩)) (ht : tmps.getD t undef = v) (hr : w.rangeAt b 0 cs) (hu : P.underlying ty = some d) (hd : d.isRow = true) (hi : (P.info? ty).map (·.size) = some cs.length)
    (hq : Q (.returned (.tuple #[.agg cs.toArray, v])) w) : bodyPost P fn Q .ret ⟨tmps, []⟩ w := by
  refine bodyPost_ret (v := .tuple #[.agg cs.toArray, v]) ?_ rfl hq
  rw [results_cell_tmp h]
  have hl := run_loadVar_mid (P := P) w b 0 ty cs d hr hu hd hi
  simp [hp, asAddr, hl, ht]
/-- A box: cells of a type in a block of their own. -/
def Bx (w : World) (b : Nat) (t : TypeId) (cs : List Value) : Prop := w.heap[b]? = some (.cells cs.toArray t (0, 0))
theorem Bx.lt {w : World} {b : Nat} {t : TypeId} {cs : List Value} (h : Bx w b t cs) : b < w.heap.size := (Array.getElem?_eq_some_iff.1 h).1
theorem Bx.keep {w w' : World} {b : Nat} {t : TypeId} {cs : List Value} (h : Bx w b t cs) (e : w'.heap[b]? = w.heap[b]?) : Bx w' b t cs := by
  unfold Bx at *; rw [e]; exact h
theorem Bx.below {w w' : World} {b : Nat} {t : TypeId} {cs : List Value} (h : Bx w b t cs) (hb : Below w.heap.size w w') : Bx w' b t cs := h.keep (hb.block b h.lt)
theorem Bx.cell {w : World} {b : Nat} {t : TypeId} {cs : List Value} (h : Bx w b t cs) (i : Nat) (v : Value) (hv : cs[i]? = some v) : w.cell? ⟨b, i, none⟩ = some v := by
  unfold Bx at h
  simp [World.cell?, h, hv]
theorem Bx.frozen {w : World} {b : Nat} {t : TypeId} {cs : List Value} (h : Bx w b t cs) (i : Nat) : w.frozen? ⟨b, i, none⟩ = false := by
  unfold Bx at h
  simp [World.frozen?, h]
theorem Bx.range {w : World} {b : Nat} {t : TypeId} {cs : List Value} (h : Bx w b t cs) : w.rangeAt b 0 cs := fun j u hj => by rw [Nat.zero_add]; exact h.cell j u hj
theorem Bx.new (w : World) (t : TypeId) (cs : List Value) : Bx (w.alloc (.cells cs.toArray t)) w.heap.size t cs := heap_alloc_new w _
theorem Bx.set {w : World} {b : Nat} {t : TypeId} {cs : List Value} (h : Bx w b t cs) (i : Nat) (v : Value) : Bx (w.setCell ⟨b, i, none⟩ v) b t (cs.set i v) := by
  unfold Bx at *
  rw [setCell_eq_setRow w b i cs.toArray t (0, 0) v h]
  rw [setRow_heap w b cs.toArray _ t (0, 0) h]
  simp
theorem gb_refl (w : World) (g : Option Nat) : w.grownBy w g := ⟨rfl, rfl, rfl, Nat.le_refl _, fun _ _ _ => rfl⟩
theorem gb_trans {w u v : World} {g : Nat} (h : w.grownBy u (some g)) (k : u.grownBy v (some g)) : w.grownBy v (some g) :=
  ⟨k.os.trans h.os, k.tape.trans h.tape, k.output.trans h.output, Nat.le_trans h.size k.size, fun i hi hn => (k.block i (Nat.lt_of_lt_of_le hi h.size) hn).trans (h.block i hi hn)⟩
theorem below_gb {w u : World} {B g : Nat} (h : w.grownBy u (some g)) (hB : B ≤ w.heap.size) (hg : B ≤ g) : Below B w u := ⟨h.os, h.tape, h.output, h.size, fun k hk => h.block k (by omega) (by intro e; injection e with e; omega)⟩
theorem bo_same (w : World) (b o : Nat) (cur : Array Value) (t : TypeId) (v : Value) (h : w.heap[b]? = some (.cells cur t (0, 0))) : (w.setCell ⟨b, o, none⟩ v).heap[b]? = some (.cells (cur.setIfInBounds o v) t (0, 0)) := by
  obtain ⟨hlt, hk⟩ := Array.getElem?_eq_some_iff.1 h
  show (w.heap.modify b _)[b]? = _
  rw [Array.getElem?_eq_getElem (by rw [Array.size_modify]; exact hlt), Array.getElem_modify_self, hk]
  rfl
theorem set_gb (w : World) (b o : Nat) (v : Value) : w.grownBy (w.setCell ⟨b, o, none⟩ v) (some b) := ⟨rfl, rfl, rfl, by simp [World.setCell], fun k _ hk => Below.heap_setCell w ⟨b, o, none⟩ v k (fun e => hk (by rw [e]))⟩
theorem setCells_bo (b t : Nat) : ∀ (vs : List Value) (o : Nat) (w : World) (cur : Array Value), w.heap[b]? = some (.cells cur t (0, 0)) → ∃ r, (w.setCells b o vs).heap[b]? = some (.cells r t (0, 0)) ∧ r.size = cur.size ∧ ∀ j, r[j]? = if o ≤ j ∧ j < o + vs.length ∧ j < cur.size then vs[j - o]? else cur[j]?
  | [], o, w, cur, h => ⟨cur, by simpa [World.setCells] using h, rfl, fun j => by rw [if_neg (by simp; omega)]⟩
  | v :: r, o, w, cur, h => by
    obtain ⟨q, h1, h2, h3⟩ := setCells_bo b t r (o + 1) (w.setCell ⟨b, o, none⟩ v) _ (bo_same w b o cur t v h)
    refine ⟨q, h1, by rw [h2]; simp, fun j => ?_⟩
    rw [h3]
    simp only [Array.size_setIfInBounds, List.length_cons]
    by_cases c1 : o + 1 ≤ j ∧ j < o + 1 + r.length ∧ j < cur.size
    · rw [if_pos c1, if_pos (by omega), show j - o = (j - (o + 1)) + 1 by omega]
      simp
    · rw [if_neg c1]
      by_cases c2 : o = j ∧ j < cur.size
      · obtain ⟨rfl, c3⟩ := c2
        rw [if_pos (by omega)]
        simp [c3]
      · rw [if_neg (by omega)]
        rw [Array.getElem?_setIfInBounds]
        split
        · rename_i e
          subst e
          rw [if_neg (by omega)]
          rw [Array.getElem?_eq_none (by omega)]
        · rfl
theorem setCells_gb (b : Nat) : ∀ (vs : List Value) (o : Nat) (w : World), w.grownBy (w.setCells b o vs) (some b)
  | [], _, w => gb_refl _ _
  | v :: r, o, w => by rw [World.setCells]; exact gb_trans (set_gb w b o v) (setCells_gb b r (o + 1) _)
theorem Bx.store {w : World} {b : Nat} {t : TypeId} {cs : List Value} (cs' : List Value) (h : Bx w b t cs) (hl : cs'.length = cs.length) : Bx (w.setCells b 0 cs') b t cs' := by
  obtain ⟨r, h1, h2, h3⟩ := setCells_bo b t cs' 0 w _ h
  have e : r = cs'.toArray := by
    apply Array.ext_getElem?
    intro j
    rw [h3]
    by_cases hj : j < cs.length
    · rw [if_pos ⟨Nat.zero_le _, by omega, by simpa using hj⟩, Nat.sub_zero]
      simp
    · rw [if_neg (by simp; omega), Array.getElem?_eq_none (by simp; omega), Array.getElem?_eq_none (by simp; omega)]
  unfold Bx
  rw [h1, e]
/-- A whole box is written. -/
theorem wpList_store_bx {P : Program} {w : World} {ops : Array Oper} {rest : List Oper} {o : Oper} {a : Act} {Q : Exit → Act → World → Prop} (hgd : o.guard = none) (t : TypeId) (x y : Operand) (ho : o.op = .store t x y) {bt : TypeId} (c c' : List Value) (g : Nat) (hx : a.eval x = .pointer (some ⟨g, 0, none⟩)) (hy : a.eval y = .agg c'.toArray)
    (hb : Bx w g bt c) (hl : c'.length = c.length) (hi : (P.info? t).map (·.size) = some c'.length) (h1 : ∀ v ∈ c', v.oneCell' = true) (h : ∀ u, Bx u g bt c' → w.grownBy u (some g) → wpList P ops Q rest (a.put o.dst undef) u) : wpList P ops Q (o :: rest) a w := by
  refine wpList_store_mid hgd t x y ho g 0 c'.toArray hx hy (fun j hj => ?_) (by simpa using hi) (all_oneCell_toArray h1) (h _ (hb.store c' hl) (setCells_gb g _ 0 w))
  rw [Nat.zero_add]
  have hj' : j < c.length := by rw [← hl]; simpa using hj
  refine ⟨?_, hb.frozen j⟩
  rw [hb.cell j _ (List.getElem?_eq_getElem hj')]
  rfl
theorem results_cell1 {fn : Func} {p : Tmp} {ty : TypeId} (h : fn.results = #[.cell p ty]) (tmps : Array Value) (P : Program) (w : World) :
    (results fn tmps).run P w = ((asAddr (tmps.getD p undef)).run P w).andThen fun a w₁ => (loadVar ty a).run P w₁ := by
  simp only [results, h]
  simp [Sem.run_bind, Result.andThen]
/-- A function that ends with an array, which lies in a cell of its own. -/
theorem ret_array {P : Program} {fn : Func} {p : Tmp} {ty : TypeId} {d : TypeDesc} {Q : Ending → World → Prop} {tmps : Array Value} {w : World} {b : Nat} (cs : List Value) (h : fn.results = #[.cell p ty])
    (hp : tmps.getD p undef = .pointer (some ⟨b, 0, none⟩)) (hr : w.rangeAt b 0 cs) (hu : P.underlying ty = some d) (hd : d.isRow = true) (hi : (P.info? ty).map (·.size) = some cs.length)
    (hq : Q (.returned (.agg cs.toArray)) w) : bodyPost P fn Q .ret ⟨tmps, []⟩ w := by
  refine bodyPost_ret (v := .agg cs.toArray) ?_ rfl hq
  rw [results_cell1 h]
  have hl := run_loadVar_mid (P := P) w b 0 ty cs d hr hu hd hi
  simp [hp, asAddr, hl]
theorem own_full1 {w : World} {base n g : Nat} {e : TypeId} {xs : List Value} (h : w.ownsRow base e 1 (.slice (some ⟨g, 0, none⟩) n n) n xs) : Bx w g e xs ∧ xs.length = n := by
  obtain ⟨h1, h2⟩ := h
  rcases h2 with ⟨q, _⟩ | ⟨g', cap, cur, q, _, hh, _, _, hs, ht⟩
  · cases q
  · injection q with q1 q2 q3
    injection q1 with q1
    injection q1 with q1
    subst q1 q3
    have : xs.toArray = cur := by
      rw [← ht, List.take_of_length_le (by simp; omega)]
    refine ⟨?_, by omega⟩
    unfold Bx; rw [hh, this]
theorem made_few (i n k b : Nat) (hb : b ≤ 64) (h : i = b) (hn : n ≤ 1024) : i * n ≤ 281474976710656 ∧ n ≤ maxLen := by
  subst h
  have : i * n ≤ 64 * 1024 := Nat.mul_le_mul hb hn
  exact ⟨by omega, by unfold maxLen; omega⟩
/-- Bytes as cells. -/
def fc (l : List F) : List Value := l.map fun c => .int .u8 (c.1 : Nat)
theorem fc_len (l : List F) : (fc l).length = l.length := by simp [fc]
theorem fc_at (l : List F) (i : Nat) (h : i < l.length) : (fc l)[i]? = some (.int .u8 ((l.getD i 0).1 : Nat)) := by
  simp [fc, List.getElem?_map, List.getElem?_eq_getElem h, List.getD_eq_getElem?_getD]
theorem fc_one (l : List F) : ∀ v ∈ fc l, v.oneCell' = true := by
  intro v hv
  simp only [fc, List.mem_map] at hv
  obtain ⟨c, _, rfl⟩ := hv
  rfl
theorem Bx.rw {w : World} {b : Nat} {l : List F} {t : TypeId} (h : Bx w b t (fc l)) : Rw w b 0 l := fun i hi => by
  rw [Nat.zero_add]; exact h.cell i _ (fc_at l i hi)
theorem Tryd.infoB : (Tryd.prog.info? 5).map (fun i => (i.zero, i.size, i.bytes)) = some (some (.int .u8 0), 1, 1) := by kernel_rfl
end Go.Proofs.YtinmhgackihakaaDoor
namespace Go.Proofs.YtinmhgackihakaaDoor
open Go.RowKit
set_option linter.unusedVariables false
set_option linter.unusedSimpArgs false
/-- The first k bytes of a row of n are told. -/
def Cu (n k : Nat) (g : Nat → F) (cu : List Value) : Prop := cu.length = n ∧ (∀ i, i < k → cu[i]? = some (.int .u8 ((g i).1 : Nat))) ∧ ∀ i, i < n → ∃ x : Int, cu[i]? = some (.int .u8 x)
theorem Cu.next {n k : Nat} {g : Nat → F} {cu : List Value} (h : Cu n k g cu) (hk : k < n) : Cu n (k + 1) g (cu.set k (.int .u8 ((g k).1 : Nat))) := by
  obtain ⟨h1, h2, h3⟩ := h
  refine ⟨by simp [h1], fun i hi => ?_, fun i hi => ?_⟩
  · by_cases e : i = k
    · subst e; rw [List.getElem?_set_self (by omega)]
    · rw [List.getElem?_set_ne (by omega)]; exact h2 i (by omega)
  · by_cases e : i = k
    · subst e; exact ⟨_, by rw [List.getElem?_set_self (by omega)]⟩
    · obtain ⟨x, hx⟩ := h3 i hi
      exact ⟨x, by rw [List.getElem?_set_ne (by omega)]; exact hx⟩
theorem Cu.all {n : Nat} {g : Nat → F} {cu : List Value} (h : Cu n n g cu) : cu = fc ((List.range n).map g) := by
  apply List.ext_getElem?
  intro i
  by_cases hi : i < n
  · rw [h.2.1 i hi, fc_at _ i (by simpa using hi)]
    simp [List.getD_eq_getElem?_getD, List.getElem?_map, List.getElem?_range hi]
  · rw [List.getElem?_eq_none (by rw [h.1]; omega), List.getElem?_eq_none (by rw [fc_len]; simp; omega)]
theorem Cu.zero (n : Nat) (g : Nat → F) : Cu n 0 g (List.replicate n (.int .u8 0)) :=
  ⟨by simp, fun i hi => by omega, fun i hi => ⟨0, by rw [List.getElem?_replicate, if_pos hi]⟩⟩
set_option maxHeartbeats 800000 in
set_option maxRecDepth 100000 in
/-- powers. -/
theorem powers_ok (n : Nat) (hn : n ≤ 1000) (w : World) : Calls Tryd.prog 62 #[.int .i64 (n : Nat)] w fun e w' => Hid (∃ b, e = .returned (.slice (some ⟨b, 0, none⟩) n n) ∧ w.heap.size ≤ b ∧ Bx w' b 5 (fc ((List.range n).map Em)) ∧ Below w.heap.size w w') := by
  obtain ⟨i0, hi0, hz0, hz1, hz2⟩ := info_parts Tryd.infoB
  have HI0 : Hid (Tryd.prog.info? 5 = some i0 ∧ i0.zero = some (.int .u8 0) ∧ i0.size = 1 ∧ i0.bytes = 1) := ⟨hi0, hz0, hz1, hz2⟩
  have HMF : Hid (i0.bytes * n ≤ 281474976710656 ∧ n ≤ maxLen) := made_few i0.bytes n n 1 (by decide) HI0.out.2.2.2 (by omega)
  have q1 : wrap64 (n : Int) = (n : Int) := by unfold wrap64; omega
  have HN : Hid (n ≤ 1000) := hn
  clear hi0 hz0 hz1 hz2
  go_enter Tryd.func62, Tryd.ntmps62
  go_wp2_with (first
    | (at_make; go_must (refine wpList_make_full _ rfl _ _ 23 rfl w.heap.size 5 i0 (.int .u8 0) 1 Tryd.underlying23 HI0.out.1 HI0.out.2.1 HI0.out.2.2.1 .i64 .i64 (n : Nat) (n : Nat) n rfl rfl rfl rfl HMF.out.1 HMF.out.2 (Nat.le_refl _) ?_; intro w2 hown hgrow; have hlo : Below w.heap.size w w2 := ⟨hgrow.os, hgrow.tape, hgrow.output, hgrow.size, fun c hc => hgrow.block c hc (by simp)⟩; have HX2 : Hid ((∃ cu, Bx w2 w.heap.size 5 cu ∧ Cu n 0 Em cu) ∧ Below w.heap.size w w2) := ⟨⟨_, (own_full1 hown).1, by rw [show (Value.int .u8 0).cells = #[.int .u8 0] from rfl, Nat.mul_one, toList_madeCells_one]; exact Cu.zero n Em⟩, hlo⟩; clear hown hgrow hlo)))
  obtain ⟨b, HBB⟩ : ∃ b, Hid (w.heap.size = b) := ⟨_, rfl⟩
  rw [HBB.out] at HX2 ⊢
  go_loopw [4, 10] (fun vp vi wr => ∃ k : Nat, k ≤ n ∧ vi = .int .i64 (k : Nat) ∧ vp = .int .u8 ((Em k).1 : Nat) ∧ Hid ((∃ cu, Bx wr b 5 cu ∧ Cu n k Em cu) ∧ Below b w wr)) (fun _ vi _ => n - (intOf vi).toNat)
  case atStart => exact ⟨0, by omega, rfl, (by rw [Em_zero]; rfl), HX2.out⟩
  case round =>
    obtain ⟨k, hk, rfl, rfl, HI⟩ := hrel
    clear HX2
    by_cases hlt : k < n
    · obtain ⟨⟨cu, hcu, hC⟩, hbl⟩ := HI.out
      obtain ⟨x, hx⟩ := hC.2.2 k hlt
      have c0 : wr.cell? ⟨b, k, none⟩ = some (.int .u8 x) := hcu.cell k _ hx
      have f0 : wr.frozen? ⟨b, k, none⟩ = false := hcu.frozen k
      have g0 : (0 : Int) ≤ (k : Int) := by omega
      have g1 : (k : Int) < (n : Int) := by omega
      have H1 : Hid (∀ u, Calls Tryd.prog 20 #[.int .u8 ((Em k).1 : Nat), .int .u8 3] u fun e w' => e = .returned (.int .u8 ((Em (k + 1)).1 : Nat)) ∧ w' = u) := fun u => by
        have q := timesF (Em k) 3 u
        rw [← Em_one, Em_mul, Em_one] at q
        exact q
      have HN2 : Hid ((∃ cu, Bx (wr.setCell ⟨b, k, none⟩ (.int .u8 ((Em k).1 : Nat))) b 5 cu ∧ Cu n (k + 1) Em cu) ∧ Below b w (wr.setCell ⟨b, k, none⟩ (.int .u8 ((Em k).1 : Nat)))) := ⟨⟨_, hcu.set k _, hC.next hlt⟩, hbl.setCell (Nat.le_refl _) _⟩
      generalize (Em k).1 = ek at H1 HN2
      obtain ⟨ek1, HE1⟩ : ∃ e, Hid ((Em (k + 1)).1 = e) := ⟨_, rfl⟩
      rw [HE1.out] at H1
      have b0 : b ≤ wr.heap.size := Nat.le_of_lt hcu.lt
      clear hcu hC hbl HI
      go_wp2_with (first
        | (go_at_call 20; refine (H1.out _).mono ?_; rintro e1 w1 ⟨rfl, hw⟩; obtain rfl := hw.symm; clear hw))
      go_roundw
      case rel => exact ⟨k + 1, by omega, by go_num, by rw [HE1.out], HN2.out⟩
      case measure => simp [intOf]; omega
    · obtain rfl : k = n := by omega
      obtain ⟨⟨cu, hcu, hC⟩, hbl⟩ := HI.out
      have h1 : ¬ (k : Int) < (k : Int) := Int.lt_irrefl _
      have HC : Hid (Bx wr b 5 (fc ((List.range k).map Em)) ∧ Below b w wr) := by rw [← hC.all]; exact ⟨hcu, hbl⟩
      clear hcu hC hbl HI
      go_wp2
      go_ret
      exact ⟨b, rfl, by first | exact Nat.le_refl _ | (rw [HBB.out]; exact Nat.le_refl _), HC.out.1, by first | exact HC.out.2 | (rw [HBB.out]; exact HC.out.2)⟩
set_option maxHeartbeats 400000 in
theorem withC_ok (v : Value) (hv : ∃ a n c, v = .slice a n c) (w : World) : Calls Tryd.prog 28 #[v] w fun e w' => Hid (e = .returned (.func (.func 40) #[] #[.pointer (some ⟨w.heap.size, 0, none⟩)]) ∧ Bx w' w.heap.size 23 [v] ∧ Below w.heap.size w w') := by
  obtain ⟨a, n, c, rfl⟩ := hv
  go_enter Tryd.func28, Tryd.ntmps28
  go_wp2
  go_ret
  exact ⟨rfl, Bx.new w 23 [.slice a n c], (Below.refl _ _).alloc (Nat.le_refl _) _⟩
/-- The four sums of a row. -/
def sumG (l : List F) (j : Nat) : F := pv (Em j) l
def sumL (l : List F) : List F := (List.range 4).map (sumG l)
set_option maxHeartbeats 800000 in
set_option maxRecDepth 100000 in
/-- sumsOf. -/
theorem sumsOf_ok (b off c : Nat) (l : List F) (w : World) (hl : l.length ≤ 4000) (h : Rw w b off l) (hb : b < w.heap.size) : Calls Tryd.prog 61 #[.slice (some ⟨b, off, none⟩) l.length c] w fun e w' => Hid (e = .returned (.agg (fc (sumL l)).toArray) ∧ Below w.heap.size w w') := by
  obtain ⟨M, HMM⟩ : ∃ M, Hid (w.heap.size = M) := ⟨_, rfl⟩
  obtain ⟨w1, hw1⟩ : ∃ w1, w1 = (w.alloc (.cells #[.int .u8 0, .int .u8 0, .int .u8 0, .int .u8 0] 104)).alloc (.cells #[.int .u8 0, .int .u8 0, .int .u8 0, .int .u8 0] 104) := ⟨_, rfl⟩
  obtain ⟨n, HN⟩ : ∃ n, Hid (l.length = n) := ⟨_, rfl⟩
  have HB1 : Hid (Bx w1 M 104 (List.replicate 4 (.int .u8 0)) ∧ Bx w1 (M + 1) 104 (List.replicate 4 (.int .u8 0)) ∧ Below M w w1 ∧ Rw w1 b off l ∧ b < M) := by
    have hbl : Below w.heap.size w w1 := by rw [hw1]; exact ((Below.refl _ _).alloc (Nat.le_refl _) _).alloc (by simp) _
    rw [← HMM.out]
    refine ⟨?_, ?_, hbl, h.below hbl, hb⟩
    · rw [hw1]; exact (Bx.new w 104 _).below ((Below.refl _ _).alloc (Nat.le_refl _) _)
    · rw [hw1]; have q := Bx.new (w.alloc (.cells #[.int .u8 0, .int .u8 0, .int .u8 0, .int .u8 0] 104)) 104 (List.replicate 4 (.int .u8 0)); simpa using q
  have hn : n ≤ 4000 := by rw [← HN.out]; exact hl
  have H52 : Hid (∀ u, Calls Tryd.prog 28 #[.slice (some ⟨b, off, none⟩) n c] u fun e w' => Hid (e = .returned (.func (.func 40) #[] #[.pointer (some ⟨u.heap.size, 0, none⟩)]) ∧ Bx w' u.heap.size 23 [.slice (some ⟨b, off, none⟩) n c] ∧ Below u.heap.size u w')) := fun u => withC_ok _ ⟨_, _, _, rfl⟩ u
  have H41 : Hid (∀ u, Calls Tryd.prog 62 #[.int .i64 4] u fun e w' => Hid (∃ p, e = .returned (.slice (some ⟨p, 0, none⟩) 4 4) ∧ u.heap.size ≤ p ∧ Bx w' p 5 (fc ((List.range 4).map Em)) ∧ Below u.heap.size u w')) := fun u => powers_ok 4 (by decide) u
  rw [HN.out]
  clear h hl hb
  go_enter Tryd.func61, Tryd.ntmps61
  go_upto_region 2 with fail
  rw [show (w.alloc (.cells _ 104)).alloc (.cells _ 104) = w1 from hw1.symm, HMM.out]
  clear hw1
  go_wp2_with (first
    | (go_at_call 28; refine (H52.out _).mono ?_; intro e2 w2 hh; obtain ⟨rfl, h1, h2⟩ := hh.out; have HB2 : Hid (Bx w2 w1.heap.size 23 [.slice (some ⟨b, off, none⟩) n c] ∧ Below w1.heap.size w1 w2) := ⟨h1, h2⟩; clear hh h1 h2 H52)
    | (go_at_call 62; refine (H41.out _).mono ?_; intro e3 w3 hh; obtain ⟨p, rfl, h0, h1, h2⟩ := hh.out; have HB3 : Hid (Bx w3 p 5 (fc ((List.range 4).map Em)) ∧ Below w2.heap.size w2 w3 ∧ w2.heap.size ≤ p) := ⟨h1, h2, h0⟩; clear hh h0 h1 h2 H41))
  obtain ⟨Q, HQ⟩ : ∃ q, Hid (w1.heap.size = q) := ⟨_, rfl⟩
  rw [HQ.out] at HB2 ⊢
  have HI0 : Hid ((∃ cu, Bx w3 (M + 1) 104 cu ∧ Cu 4 0 (sumG l) cu) ∧ Bx w3 M 104 (List.replicate 4 (.int .u8 0)) ∧ Bx w3 Q 23 [.slice (some ⟨b, off, none⟩) n c] ∧ Bx w3 p 5 (fc ((List.range 4).map Em)) ∧ Rw w3 b off l ∧ Below M w w3) := by
    obtain ⟨h1, h2, h3, h4, h5⟩ := HB1.out
    obtain ⟨g1, g2⟩ := HB2.out
    obtain ⟨k1, k2, k3⟩ := HB3.out
    rw [← HQ.out] at g2
    have hs : M ≤ w1.heap.size := Nat.le_of_lt h1.lt
    have hb2 : Below w1.heap.size w1 w3 := g2.trans (k2.mono g2.size)
    exact ⟨⟨_, h2.below hb2, Cu.zero 4 _⟩, h1.below hb2, g1.below k2, k1, h4.below hb2, h3.trans (hb2.mono hs)⟩
  have HNE : Hid (M + 1 < Q ∧ Q < p ∧ b < M) := by
    have h2 := HB1.out.2.1.lt
    have g1 := HB2.out.1.lt
    have k3 := HB3.out.2.2
    have := HQ.out
    exact ⟨by omega, by omega, HB1.out.2.2.2.2⟩
  clear HB1 HB2 HB3
  go_loopw [11] (fun vi wr => ∃ k : Nat, k ≤ 4 ∧ vi = .int .i64 (k : Nat) ∧ Hid ((∃ cu, Bx wr (M + 1) 104 cu ∧ Cu 4 k (sumG l) cu) ∧ Bx wr M 104 (List.replicate 4 (.int .u8 0)) ∧ Bx wr Q 23 [.slice (some ⟨b, off, none⟩) n c] ∧ Bx wr p 5 (fc ((List.range 4).map Em)) ∧ Rw wr b off l ∧ Below M w wr)) (fun vi _ => 4 - (intOf vi).toNat)
  case atStart => exact ⟨0, by omega, rfl, HI0.out⟩
  case round =>
    obtain ⟨k, hk, rfl, HI⟩ := hrel
    clear HI0
    by_cases hlt : k < 4
    · obtain ⟨⟨cu, hcu, hC⟩, h1, h2, h3, h4, h5⟩ := HI.out
      obtain ⟨x, hx⟩ := hC.2.2 k hlt
      have c0 : wr.cell? ⟨M + 1, k, none⟩ = some (.int .u8 x) := hcu.cell k _ hx
      have f0 : wr.frozen? ⟨M + 1, k, none⟩ = false := hcu.frozen k
      have c1 : wr.cell? ⟨p, k, none⟩ = some (.int .u8 ((Em k).1 : Nat)) := h3.cell k _ (by rw [fc_at _ k (by simpa using hlt)]; simp [List.getD_eq_getElem?_getD, List.getElem?_map, List.getElem?_range hlt])
      have g0 : (0 : Int) ≤ (k : Int) := by omega
      have g1 : (k : Int) < 4 := by omega
      have H1 : Hid (Calls Tryd.prog 40 #[.int .u8 ((Em k).1 : Nat), .pointer (some ⟨Q, 0, none⟩)] wr fun e w' => e = .returned (.int .u8 ((sumG l k).1 : Nat)) ∧ w' = wr) := poly_ok (Em k) Q b off c l wr (by rw [HN.out]; exact h2.cell 0 _ rfl) (by rw [HN.out]; exact hn) h4
      have HN2 : Hid ((∃ cu, Bx (wr.setCell ⟨M + 1, k, none⟩ (.int .u8 ((sumG l k).1 : Nat))) (M + 1) 104 cu ∧ Cu 4 (k + 1) (sumG l) cu) ∧ Bx (wr.setCell ⟨M + 1, k, none⟩ (.int .u8 ((sumG l k).1 : Nat))) M 104 (List.replicate 4 (.int .u8 0)) ∧ Bx (wr.setCell ⟨M + 1, k, none⟩ (.int .u8 ((sumG l k).1 : Nat))) Q 23 [.slice (some ⟨b, off, none⟩) n c] ∧ Bx (wr.setCell ⟨M + 1, k, none⟩ (.int .u8 ((sumG l k).1 : Nat))) p 5 (fc ((List.range 4).map Em)) ∧ Rw (wr.setCell ⟨M + 1, k, none⟩ (.int .u8 ((sumG l k).1 : Nat))) b off l ∧ Below M w (wr.setCell ⟨M + 1, k, none⟩ (.int .u8 ((sumG l k).1 : Nat)))) := by
        have hg := set_gb wr (M + 1) k (.int .u8 ((sumG l k).1 : Nat))
        have hz := HNE.out
        refine ⟨⟨_, hcu.set k _, hC.next hlt⟩, h1.keep (hg.block M h1.lt (fun e => by injection e with e; omega)), h2.keep (hg.block Q h2.lt (fun e => by injection e with e; omega)), h3.keep (hg.block p h3.lt (fun e => by injection e with e; omega)), fun i hi => ?_, h5.setCell (by show M ≤ M + 1; omega) _⟩
        rw [World.cell?_of_block (a := ⟨b, off + i, none⟩) (hg.block b (World.block_lt_of_cell? wr _ (h4 i hi)) (fun e => by injection e with e; omega))]
        exact h4 i hi
      generalize (sumG l k).1 = sk at H1 HN2
      generalize (Em k).1 = ek at H1 c1
      clear hcu hC h1 h2 h3 h4 h5 HI hx
      go_wp2_with (first
        | (go_at_call 40; refine H1.out.mono ?_; rintro e1 w5 ⟨rfl, hw⟩; obtain rfl := hw.symm; clear hw H1))
      go_roundw
      case rel => exact ⟨k + 1, by omega, by go_num, HN2.out⟩
      case measure => simp [intOf]; omega
    · obtain rfl : k = 4 := by omega
      obtain ⟨⟨cu, hcu, hC⟩, h1, h2, h3, h4, h5⟩ := HI.out
      have HC : Hid (Bx wr (M + 1) 104 (fc (sumL l)) ∧ Bx wr M 104 (List.replicate 4 (.int .u8 0)) ∧ Below M w wr) := by unfold sumL; rw [← hC.all]; exact ⟨hcu, h1, h5⟩
      have HLN : Hid ((fc (sumL l)).length = 4 ∧ ∀ v ∈ fc (sumL l), v.oneCell' = true) := ⟨by rw [fc_len]; rfl, fc_one _⟩
      have hi7 : (Tryd.prog.info? 104).map (·.size) = some (fc (sumL l)).length := by rw [HLN.out.1]; kernel_rfl
      obtain ⟨R, HR⟩ : ∃ R, Hid (fc (sumL l) = R) := ⟨_, rfl⟩
      rw [HR.out] at HC HLN hi7
      clear hcu hC h1 h2 h3 h4 h5 HI
      go_wp2_with (first
        | (refine wpList_load_mid (by rfl) 104 (.tmp 3) (by rfl) (M + 1) 0 (by rfl) R _ HC.out.1.range Tryd.underlying104 rfl hi7 ?_)
        | (refine wpList_store_bx (by rfl) 104 (.tmp 2) (.tmp 22) (by rfl) (List.replicate 4 (.int .u8 0)) R M (by rfl) (by rfl) HC.out.2.1 (by rw [HLN.out.1]; rfl) hi7 HLN.out.2 ?_; intro u9 hb9 hg9))
      refine ret_array (b := M) R rfl rfl hb9.range Tryd.underlying104 rfl hi7 ⟨by rw [HR.out], ?_⟩
      have hf : Below M w u9 := HC.out.2.2.trans (below_gb hg9 (by have := HC.out.2.1.lt; omega) (Nat.le_refl _))
      first | exact hf | (rw [HMM.out]; exact hf)
end Go.Proofs.YtinmhgackihakaaDoor
namespace Go.Proofs.YtinmhgackihakaaDoor
open Go.RowKit
def both (a b : Nat) : Bool := Nat.beq (tmsN 8 0 a b) (Nat.mod (refR 7 (refP a b 8)) 256)
set_option maxRecDepth 100000 in
theorem both_0 : allB (fun a => allB (both a) 256) 64 = true := by decide +kernel
set_option maxRecDepth 100000 in
theorem both_1 : allB (fun a => allB (both (Nat.add 64 a)) 256) 64 = true := by decide +kernel
set_option maxRecDepth 100000 in
theorem both_2 : allB (fun a => allB (both (Nat.add 128 a)) 256) 64 = true := by decide +kernel
set_option maxRecDepth 100000 in
theorem both_3 : allB (fun a => allB (both (Nat.add 192 a)) 256) 64 = true := by decide +kernel
theorem both_eq (a b : Nat) (ha : a < 256) (hb : b < 256) : Nat.mod (refR 7 (refP a b 8)) 256 = tmsN 8 0 a b := by
  have h : both a b = true := by
    by_cases h0 : a < 64
    · exact allB_at (allB_at both_0 h0) hb
    · by_cases h1 : a < 128
      · have q := allB_at (allB_at both_1 (show a - 64 < 64 by omega)) hb
        rwa [show Nat.add 64 (a - 64) = a from Nat.add_sub_of_le (by omega)] at q
      · by_cases h2 : a < 192
        · have q := allB_at (allB_at both_2 (show a - 128 < 64 by omega)) hb
          rwa [show Nat.add 128 (a - 128) = a from Nat.add_sub_of_le (by omega)] at q
        · have q := allB_at (allB_at both_3 (show a - 192 < 64 by omega)) hb
          rwa [show Nat.add 192 (a - 192) = a from Nat.add_sub_of_le (by omega)] at q
  exact (Nat.eq_of_beq_eq_true h).symm
end Go.Proofs.YtinmhgackihakaaDoor
namespace Go.Proofs.YtinmhgackihakaaDoor
open Go.RowKit
set_option linter.unusedVariables false
set_option linter.unusedSimpArgs false
theorem one_cell (w : World) (z : Value) (e : TypeId) : ∀ (j : Nat) (u : Value), [z][j]? = some u → (w.alloc (.cells #[z] e)).cell? ((⟨w.heap.size, 0, none⟩ : Addr).add j) = some u := by
  intro j u hj
  match j, hj with
  | 0, hj => simp at hj; subst hj; simp [Addr.add]
theorem one_u8 (z : Int) : ∀ u ∈ [Value.int .u8 z], u.oneCell' = true := by intro u hu; simp at hu; subst hu; rfl
theorem fc_append (l : List F) (x : F) : fc (l ++ [x]) = fc l ++ [.int .u8 (x.1 : Nat)] := by simp [fc]
end Go.Proofs.YtinmhgackihakaaDoor
namespace Go.Proofs.YtinmhgackihakaaDoor
set_option linter.unusedVariables false
variable {P : Program} {ops : Array Oper} {Q : Exit → Act → World → Prop} {md : Region.Mode} {S : World → Prop} {n : Nat}

/-- Whatever order is picked; S holds behind every operation of the head (the first n); the tail may do as it likes. -/
def wpTill (P : Program) (md : Region.Mode) (ops : Array Oper) (Q : Exit → Act → World → Prop) (S : World → Prop) (n : Nat) : Nat → Array Bool → Act → World → Prop
  | 0, l, a, w => Region.ready md ops l = [] ∧ Q .normal a w
  | f + 1, l, a, w =>
    (Region.ready md ops l = [] → Q .normal a w) ∧
    ∀ i, i ∈ Region.ready md ops l → wpOp P ops Q i (fun b u => (i < n → S u) ∧ wpTill P md ops Q S n f (l.setIfInBounds i true) b u) a w

theorem any_of_till (f : Nat) : ∀ (l : Array Bool) (a : Act) (w : World), wpTill P md ops Q S n f l a w → wpAny P md ops Q f l a w := by
  induction f with
  | zero => exact fun _ _ _ h => h
  | succ f ih => exact fun l a w h => ⟨h.1, fun i hi => wpOp_mono (fun b u k => ih _ b u k.2) (h.2 i hi)⟩

theorem till_first {i : Nat} {oi : Oper} {v : Value} (hi : ops[i]? = some oi) (hin : i < n) (hn : n < ops.size) (hsk : Region.sinkB md ops n = true) (hch : Region.chainB md ops n = true)
    (hsel : ∀ (j : Nat) (o : Oper) cs b, ops[j]? = some o → o.op ≠ .select cs b) (hQ : ∀ c a w, Q (.panic c) (a.put oi.dst v) w → Q (.panic c) a w) (f : Nat) :
    ∀ (l : Array Bool) (a : Act) (w : World), HeadInv md ops n l →
      (∀ j oj, ops[j]? = some oj → j ≠ i → l.getD j true = false → (∀ e ∈ oj.after, Region.binds md e = true → e.on ≠ i) → oi.apart ops oj = true) →
      i ∈ Region.ready md ops l → YieldsIf P ops S oi v a → S w → wpTill P md ops Q S n f (l.setIfInBounds i true) (a.put oi.dst v) w → wpTill P md ops Q S n (f + 1) l a w := by
  induction f with
  | zero =>
    intro l a w inv _ hr hy hS H
    refine ⟨fun h => (by rw [h] at hr; cases hr), fun j hj => ?_⟩
    by_cases hji : j = i
    · subst hji
      exact hy.wpOp hi hS ⟨fun _ => hS, H⟩
    · have h := ready_mono hj hji
      rw [H.1] at h
      cases h
  | succ f ih =>
    intro l a w inv hfree hr hy hS H
    refine ⟨fun h => (by rw [h] at hr; cases hr), fun j hj => ?_⟩
    by_cases hji : j = i
    · subst hji
      exact hy.wpOp hi hS ⟨fun _ => hS, H⟩
    have hun := (mem_ready.1 hr).1
    have hjn : j < n := by
      rcases Nat.lt_or_ge j n with h | h
      · exact h
      · exact absurd hj (tail_waits hsk hch hn inv _ i rfl hin hun j h)
    have h1 := H.2 j (ready_mono hj hji)
    obtain ⟨hjun, oj, hoj, hall⟩ := mem_ready.1 hj
    have hnot : ∀ e ∈ oj.after, Region.binds md e = true → e.on ≠ i := fun e he hb heq => by
      have h2 := hall e he hb
      rw [heq] at h2
      rw [getD_both hun] at h2
      cases h2
    have h2 := wpOp_putIf hoj (hfree j oj hoj hji hjun hnot) (fun cs b => hsel i oi cs b hi) (fun cs b => hsel j oj cs b hoj) hQ hy h1
    refine wpOp_mono (fun b u h3 => ?_) h2
    have hSu := h3.2.1 hjn
    refine ⟨fun _ => hSu, ih (l.setIfInBounds j true) b u (inv.set hj hjn) (fun k ok hk hki hku hno => ?_) (ready_mono hr (Ne.symm hji)) h3.1 hSu ?_⟩
    · refine hfree k ok hk hki ?_ hno
      by_cases hjk : j = k
      · subst hjk; exact hjun
      · rw [getD_set_ne true hjk] at hku; exact hku
    · rw [Array.setIfInBounds_comm _ _ hji]
      exact h3.2.2

/-- What is carried along: the head's invariant, and what the region's form gives once. -/
structure Inv (md : Region.Mode) (ops : Array Oper) (n : Nat) (l : Array Bool) : Prop where
  head : HeadInv md ops n l
  lt : n < ops.size
  sink : Region.sinkB md ops n = true
  chain : Region.chainB md ops n = true
  sel : Region.noSelect ops = true
theorem Inv.set {l : Array Bool} {i : Nat} (inv : Inv md ops n l) (hi : i ∈ Region.ready md ops l) (hin : i < n) : Inv md ops n (l.setIfInBounds i true) := ⟨inv.head.set hi hin, inv.lt, inv.sink, inv.chain, inv.sel⟩

/-- An operation of the head that yields under S is taken first. -/
theorem till_at (i d : Nat) (v : Value) {oi : Oper} {f : Nat} {l : Array Bool} {tmps : Array Value} {ds : List Deferred} {w : World} (inv : Inv md ops n l) (hi : ops[i]? = some oi) (hd : oi.dst = some d)
    (hin : i < n) (hf : Region.free md ops l i = true) (hr : (Region.ready md ops l).contains i = true)
    (hQ : ∀ c a w, Q (.panic c) (a.put oi.dst v) w → Q (.panic c) a w) (hS : S w) (hy : YieldsIf P ops S oi v ⟨tmps, ds⟩)
    (h : Inv md ops n (l.setIfInBounds i true) → wpTill P md ops Q S n f (l.setIfInBounds i true) ⟨tmps.setIfInBounds d v, ds⟩ w) : wpTill P md ops Q S n (f + 1) l ⟨tmps, ds⟩ w := by
  have hr' : i ∈ Region.ready md ops l := by simpa using hr
  refine till_first hi hin inv.lt inv.sink inv.chain (Region.noSelect_spec inv.sel) hQ f l _ w inv.head (Region.free_spec hi hf) hr' hy hS ?_
  rw [hd]
  exact h (inv.set hr' hin)

/-- A lone operation of the head comes up. -/
theorem till_head {i : Nat} {o : Oper} {f : Nat} {l : Array Bool} {a : Act} {w : World} (inv : Inv md ops n l) (hr : Region.ready md ops l = [i]) (hin : i < n) (ho : ops[i]? = some o)
    (h : ∀ K' : Act → World → Prop, Shut (∀ a w, S w → (Inv md ops n (l.setIfInBounds i true) → wpTill P md ops Q S n f (l.setIfInBounds i true) a w) → K' a w) → if Region.wanted o (yielded ops a.tmps) = true then Oper.wp P o a w K' Q else K' (a.put o.dst undef) w) :
    wpTill P md ops Q S n (f + 1) l a w := by
  have hi : i ∈ Region.ready md ops l := by rw [hr]; simp
  refine ⟨fun h0 => (by rw [hr] at h0; cases h0), fun j hj => ?_⟩
  rw [hr] at hj
  obtain rfl : j = i := by simpa using hj
  exact wpOp_step ho (fun K' hK => h K' (fun a w hS hW => hK a w ⟨fun _ => hS, hW (inv.set hi hin)⟩))

/-- A lone operation of the tail comes up. -/
theorem till_tail {i : Nat} {o : Oper} {f : Nat} {l : Array Bool} {a : Act} {w : World} (hr : Region.ready md ops l = [i]) (hin : n ≤ i) (ho : ops[i]? = some o)
    (h : ∀ K' : Act → World → Prop, Shut (∀ a w, wpTill P md ops Q S n f (l.setIfInBounds i true) a w → K' a w) → if Region.wanted o (yielded ops a.tmps) = true then Oper.wp P o a w K' Q else K' (a.put o.dst undef) w) :
    wpTill P md ops Q S n (f + 1) l a w := by
  refine ⟨fun h0 => (by rw [hr] at h0; cases h0), fun j hj => ?_⟩
  rw [hr] at hj
  obtain rfl : j = i := by simpa using hj
  exact wpOp_step ho (fun K' hK => h K' (fun a w hW => hK a w ⟨fun h => by omega, hW⟩))

theorem till_done {l : Array Bool} {a : Act} {w : World} (hr : Region.ready md ops l = []) (h : Q .normal a w) : ∀ f, wpTill P md ops Q S n f l a w
  | 0 => ⟨hr, h⟩
  | _ + 1 => ⟨fun _ => h, fun i hi => by rw [hr] at hi; cases hi⟩

theorem wp_region_till {id : Nat} {a : Act} {w : World} (S : World → Prop) (n : Nat) (hm : P.follows .mixedOrders = true) (hn : n < ops.size) (hsk : Region.sinkB .any ops n = true) (hch : Region.chainB .any ops n = true) (hs : Region.noSelect ops = true)
    (h : Inv .any ops n (Array.replicate ops.size false) → wpTill P .any ops Q S n ops.size (Array.replicate ops.size false) a w.drew) : (Code.region id ops true).wp P Q a w := by
  refine wp_region_any hm (any_of_till _ _ _ _ (h ⟨⟨by simp, fun j oj _ hl => ?_, fun t _ ht => ?_⟩, hn, hsk, hch, hs⟩))
  · rw [getD_replicate_false] at hl; cases hl
  · simp [ht]
end Go.Proofs.YtinmhgackihakaaDoor
namespace Go.Proofs.YtinmhgackihakaaDoor
open Go.RowKit
set_option linter.unusedVariables false
set_option linter.unusedSimpArgs false
/-- The sum of the first i of a row. -/
def sI (l : List F) (i j : Nat) : F := sm i (fun q => fm (l.getD q 0) (P (X l.length q) j))
theorem sI_next (l : List F) (i j : Nat) : sI l (i + 1) j = fa (sI l i j) (fm (l.getD i 0) (P (X l.length i) j)) := rfl
theorem range_getD (l : List F) : (List.range l.length).map (fun i => l.getD i 0) = l := by
  apply List.ext_getElem
  · simp
  · intro i h1 h2
    simp [List.getD_eq_getElem?_getD, List.getElem?_eq_getElem h2]
theorem sI_all (l : List F) (j : Nat) : sI l l.length j = sumG l j := by
  have h := pv_row j l.length (fun i => l.getD i 0)
  rw [range_getD] at h
  exact h.symm
theorem X_pow (n i j : Nat) : P (X n i) j = Em (j * (n - 1 - i) % 255) := by
  unfold X
  rw [P_Em, Nat.mul_comm]
  exact Fin.ext (show pwT (j * (n - 1 - i) % 255) = pwT (j * (n - 1 - i) % 255 % 255) by rw [Nat.mod_mod])
/-- What the four cells hold: j of them one further. -/
def Cs (l : List F) (i j : Nat) (cu : List Value) : Prop := cu = fc ((List.range 4).map fun q => if q < j then sI l (i + 1) q else sI l i q)
theorem Cs.at {l : List F} {i j : Nat} {cu : List Value} (h : Cs l i j cu) (hj : j < 4) : cu[j]? = some (.int .u8 ((sI l i j).1 : Nat)) := by
  rw [h, fc_at _ j (by simpa using hj)]
  simp [List.getD_eq_getElem?_getD, List.getElem?_map, List.getElem?_range hj]
theorem Cs.next {l : List F} {i j : Nat} {cu : List Value} (h : Cs l i j cu) (hj : j < 4) : Cs l i (j + 1) (cu.set j (.int .u8 ((sI l (i + 1) j).1 : Nat))) := by
  unfold Cs
  apply List.ext_getElem?
  intro q
  by_cases hq : q < 4
  · rw [fc_at _ q (by simpa using hq)]
    by_cases e : q = j
    · subst e
      rw [List.getElem?_set_self (by rw [h, fc_len]; simpa using hq)]
      simp [List.getD_eq_getElem?_getD, List.getElem?_map, List.getElem?_range hq]
    · rw [List.getElem?_set_ne (by omega), h, fc_at _ q (by simpa using hq)]
      simp only [List.getD_eq_getElem?_getD, List.getElem?_map, List.getElem?_range hq, Option.map_some, Option.getD_some]
      by_cases hlt : q < j
      · rw [if_pos hlt, if_pos (by omega)]
      · rw [if_neg hlt, if_neg (by omega)]
  · rw [List.getElem?_eq_none (by rw [List.length_set, h, fc_len]; simp; omega), List.getElem?_eq_none (by rw [fc_len]; simp; omega)]
theorem Cs.done {l : List F} {i : Nat} {cu : List Value} (h : Cs l i 4 cu) : Cs l (i + 1) 0 cu := by
  rw [Cs, h]
  congr 1
theorem Cs.first (l : List F) : Cs l 0 0 (List.replicate 4 (.int .u8 0)) := rfl
theorem Cs.end {l : List F} {cu : List Value} (h : Cs l l.length 0 cu) : cu = fc (sumL l) := by
  rw [h]
  congr 1
  apply List.map_congr_left
  intro q _
  rw [if_neg (by omega)]
  exact sI_all l q
/-- What the two loops keep. -/
structure SuI (M p b off : Nat) (l : List F) (w : World) (i j : Nat) (u : World) : Prop where
  row : ∃ cu, Bx u (M + 1) 103 cu ∧ Cs l i j cu
  res : Bx u M 103 (List.replicate 4 (.int .u8 0))
  pw : ∀ q, q < 255 → u.cell? ⟨p, q, none⟩ = some (.int .u8 ((Em q).1 : Nat))
  rw : Rw u b off l
  bel : Below M w u
  hp : M + 1 < p
  hb : b < M
theorem SuI.step {M p b off : Nat} {l : List F} {w u : World} {i j : Nat} (h : SuI M p b off l w i j u) (hj : j < 4) : SuI M p b off l w i (j + 1) (u.setCell ⟨M + 1, j, none⟩ (.int .u8 ((sI l (i + 1) j).1 : Nat))) := by
  obtain ⟨cu, hcu, hC⟩ := h.row
  have hg := set_gb u (M + 1) j (.int .u8 ((sI l (i + 1) j).1 : Nat))
  have h1 := h.hp
  have h2 := h.hb
  refine ⟨⟨_, hcu.set j _, hC.next hj⟩, h.res.keep (hg.block M h.res.lt (fun e => by injection e with e; omega)), fun q hq => ?_, fun q hq => ?_, h.bel.setCell (by show M ≤ M + 1; omega) _, h1, h2⟩
  · rw [World.cell?_of_block (a := ⟨p, q, none⟩) (hg.block p (World.block_lt_of_cell? u _ (h.pw q hq)) (fun e => by injection e with e; omega))]; exact h.pw q hq
  · rw [World.cell?_of_block (a := ⟨b, off + q, none⟩) (hg.block b (World.block_lt_of_cell? u _ (h.rw q hq)) (fun e => by injection e with e; omega))]; exact h.rw q hq
theorem SuI.drew {M p b off : Nat} {l : List F} {w u : World} {i j : Nat} (h : SuI M p b off l w i j u) : SuI M p b off l w i j u.drew := ⟨h.row, h.res, h.pw, h.rw, h.bel.drew, h.hp, h.hb⟩
theorem SuI.turn {M p b off : Nat} {l : List F} {w u : World} {i : Nat} (h : SuI M p b off l w i 4 u) : SuI M p b off l w (i + 1) 0 u := by
  obtain ⟨cu, hcu, hC⟩ := h.row
  exact ⟨⟨cu, hcu, hC.done⟩, h.res, h.pw, h.rw, h.bel, h.hp, h.hb⟩
theorem su_num (n i j A B x : Nat) (hn : n ≤ 255) (hi : i < n) (hj : j < 4) (hA : n - 1 - i = A) (hB : j * A = B) (hx : B % 255 = x) : IntKind.i64.wrap ((n : Int) - 1) = ((n - 1 : Nat) : Int) ∧ IntKind.i64.wrap (((n - 1 : Nat) : Int) - (i : Int)) = (A : Int) ∧ IntKind.i64.wrap ((j : Int) * (A : Int)) = (B : Int) ∧ (B : Int).tmod 255 = (x : Int) ∧ (B : Int) % 255 = (x : Int) ∧ IntKind.i64.wrap (x : Int) = (x : Int) ∧ wrap64 (x : Int) = (x : Int) ∧ (0 : Int) ≤ (x : Int) ∧ (x : Int) < 255 := by
  have hb : j * A ≤ 3 * 255 := Nat.mul_le_mul (by omega) (by omega)
  have hBI : (j : Int) * (A : Int) = (B : Int) := by rw [← hB]; simp
  refine ⟨?_, ?_, ?_, ?_, by omega, ?_, ?_, by omega, by omega⟩
  · rw [IntKind.wrap_i64]; omega
  · rw [IntKind.wrap_i64]; omega
  · rw [hBI, IntKind.wrap_i64]; omega
  · rw [Int.tmod_eq_emod_of_nonneg (by omega)]; omega
  · rw [IntKind.wrap_i64]; omega
  · unfold wrap64; omega
theorem own_row255 {w : World} {B : Nat} {v : Value} (h : w.ownsRow B 5 1 v 255 (fc ((List.range 255).map Em))) : ∃ p pc, v = .slice (some ⟨p, 0, none⟩) 255 pc ∧ Hid ((∀ i, i < 255 → w.cell? ⟨p, i, none⟩ = some (.int .u8 ((Em i).1 : Nat))) ∧ B ≤ p) := by
  have h0 := h
  rcases h.2 with ⟨_, q⟩ | ⟨g, cap, cur, q, hB, _, _, _, _, _⟩
  · omega
  · refine ⟨g, cap, q, fun i hi => ?_, hB⟩
    have c := World.ownsRow.cells h0 (g := g) (by rw [q]; rfl) i (.int .u8 ((Em i).1 : Nat)) (by rw [fc_at _ i (by simpa using hi)]; simp [List.getD_eq_getElem?_getD, List.getElem?_map, List.getElem?_range hi])
    rw [Addr.add_lit, Nat.zero_add] at c
    exact c
end Go.Proofs.YtinmhgackihakaaDoor
namespace Go.Proofs.YtinmhgackihakaaDoor
open Go.RowKit
set_option linter.unusedVariables false
set_option linter.unusedSimpArgs false
/-- The sums of two places, by the first two. -/
def s2 (x y f s : F) : Nat → F
  | 0 => f
  | 1 => s
  | j + 2 => fa (fm (fa x y) (s2 x y f s (j + 1))) (fm (fm x y) (s2 x y f s j))
theorem Cu.two (g : Nat → F) (f s : F) (hf : g 0 = f) (hs : g 1 = s) : Cu 4 2 g [.int .u8 (f.1 : Nat), .int .u8 (s.1 : Nat), .int .u8 0, .int .u8 0] := by
  subst hf hs
  refine ⟨rfl, fun i hi => ?_, fun i hi => ?_⟩
  · match i, hi with
    | 0, _ => rfl
    | 1, _ => rfl
  · match i, hi with
    | 0, _ => exact ⟨_, rfl⟩
    | 1, _ => exact ⟨_, rfl⟩
    | 2, _ => exact ⟨_, rfl⟩
    | 3, _ => exact ⟨_, rfl⟩
theorem map4 (g : Nat → F) : (List.range 4).map g = [g 0, g 1, g 2, g 3] := rfl
set_option maxHeartbeats 1600000 in
set_option maxRecDepth 100000 in
theorem s2_ok (x y f s : F) (w : World) : Calls Tryd.prog 81 #[.int .u8 (x.1 : Nat), .int .u8 (y.1 : Nat), .int .u8 (f.1 : Nat), .int .u8 (s.1 : Nat)] w fun e w' => Hid (e = .returned (.agg (fc ((List.range 4).map (s2 x y f s))).toArray) ∧ Below w.heap.size w w') := by
  obtain ⟨M, HMM⟩ : ∃ M, Hid (w.heap.size = M) := ⟨_, rfl⟩
  obtain ⟨w1, hw1⟩ : ∃ w1, w1 = (w.alloc (.cells #[.int .u8 0, .int .u8 0, .int .u8 0, .int .u8 0] 104)).alloc (.cells #[.int .u8 0, .int .u8 0, .int .u8 0, .int .u8 0] 104) := ⟨_, rfl⟩
  have HB1 : Hid (Bx w1 M 104 (List.replicate 4 (.int .u8 0)) ∧ Bx w1 (M + 1) 104 (List.replicate 4 (.int .u8 0)) ∧ Below M w w1) := by
    have hbl : Below w.heap.size w w1 := by rw [hw1]; exact ((Below.refl _ _).alloc (Nat.le_refl _) _).alloc (by simp) _
    rw [← HMM.out]
    refine ⟨?_, ?_, hbl⟩
    · rw [hw1]; exact (Bx.new w 104 _).below ((Below.refl _ _).alloc (Nat.le_refl _) _)
    · rw [hw1]; have q := Bx.new (w.alloc (.cells #[.int .u8 0, .int .u8 0, .int .u8 0, .int .u8 0] 104)) 104 (List.replicate 4 (.int .u8 0)); simpa using q
  obtain ⟨pr, HPR⟩ : ∃ a, Hid (fm x y = a) := ⟨_, rfl⟩
  have H53 : Hid (∀ u, Calls Tryd.prog 20 #[.int .u8 (x.1 : Nat), .int .u8 (y.1 : Nat)] u fun e w' => e = .returned (.int .u8 (pr.1 : Nat)) ∧ w' = u) := fun u => by rw [← HPR.out]; exact timesF x y u
  have HXY : Hid (bits .xor .u8 ((x.1 : Nat) : Int) ((y.1 : Nat) : Int) = (((fa x y).1 : Nat) : Int)) := xorF x y
  obtain ⟨xy, HXYN⟩ : ∃ a, Hid (fa x y = a) := ⟨_, rfl⟩
  rw [HXYN.out] at HXY
  obtain ⟨x1, HX1⟩ : ∃ a, Hid (x.1 = a) := ⟨_, rfl⟩
  obtain ⟨y1, HY1⟩ : ∃ a, Hid (y.1 = a) := ⟨_, rfl⟩
  obtain ⟨f1, HF1⟩ : ∃ a, Hid (f.1 = a) := ⟨_, rfl⟩
  obtain ⟨s1, HS1⟩ : ∃ a, Hid (s.1 = a) := ⟨_, rfl⟩
  rw [HX1.out, HY1.out] at HXY H53 ⊢
  rw [HF1.out, HS1.out]
  have hi0 : (Tryd.prog.info? 104).map (·.size) = some [Value.int .u8 (f1 : Nat), .int .u8 (s1 : Nat), .int .u8 0, .int .u8 0].length := by kernel_rfl
  have hone : ∀ v ∈ [Value.int .u8 (f1 : Nat), .int .u8 (s1 : Nat), .int .u8 0, .int .u8 0], v.oneCell' = true := by intro v hv; simp at hv; rcases hv with rfl | rfl | rfl | rfl <;> rfl
  go_enter Tryd.func81, Tryd.ntmps81
  go_upto_region 2 with (first
    | (rw [show (w.alloc (.cells _ 104)).alloc (.cells _ 104) = w1 from hw1.symm, HMM.out]; refine wpList_store_bx (by rfl) 104 (.tmp 9) (.tmp 14) (by rfl) (List.replicate 4 (.int .u8 0)) [.int .u8 (f1 : Nat), .int .u8 (s1 : Nat), .int .u8 0, .int .u8 0] (M + 1) (by rfl) (by rfl) HB1.out.2.1 rfl hi0 hone ?_; intro w2 hb2 hg2; have HB2 : Hid (Bx w2 (M + 1) 104 [.int .u8 (f1 : Nat), .int .u8 (s1 : Nat), .int .u8 0, .int .u8 0] ∧ w1.grownBy w2 (some (M + 1))) := ⟨hb2, hg2⟩; clear hb2 hg2))
  go_upto_region 3 with (first
    | (go_at_call 20; refine (H53.out _).mono ?_; rintro e3 w3 ⟨rfl, hw⟩; obtain rfl := hw.symm; clear hw H53))
  have HI0 : Hid ((∃ cu, Bx w2 (M + 1) 104 cu ∧ Cu 4 2 (s2 x y f s) cu) ∧ Bx w2 M 104 (List.replicate 4 (.int .u8 0)) ∧ Below M w w2) := by
    obtain ⟨h1, h2, h3⟩ := HB1.out
    obtain ⟨g1, g2⟩ := HB2.out
    refine ⟨⟨_, g1, by rw [← HF1.out, ← HS1.out]; exact Cu.two _ f s rfl rfl⟩, h1.keep (g2.block M h1.lt (fun e => by injection e with e; omega)), h3.trans (below_gb g2 (by have := h2.lt; omega) (by omega))⟩
  clear HB1 HB2
  go_wp2
  go_loopw [11] (fun vi wr => ∃ j : Nat, 2 ≤ j ∧ j ≤ 4 ∧ vi = .int .i64 (j : Nat) ∧ Hid ((∃ cu, Bx wr (M + 1) 104 cu ∧ Cu 4 j (s2 x y f s) cu) ∧ Bx wr M 104 (List.replicate 4 (.int .u8 0)) ∧ Below M w wr)) (fun vi _ => 4 - (intOf vi).toNat)
  case atStart => exact ⟨2, by omega, by omega, rfl, HI0.out⟩
  case round =>
    obtain ⟨j, hj2, hj, rfl, HI⟩ := hrel
    clear HI0
    by_cases hlt : j < 4
    · obtain ⟨q, HJQ⟩ : ∃ q, Hid (j = q + 2) := ⟨j - 2, (by show j = j - 2 + 2; omega)⟩
      have ejq := HJQ.out
      obtain ⟨k, HKQ⟩ : ∃ k, Hid (k = q + 1) := ⟨q + 1, rfl⟩
      have ekq := HKQ.out
      have HQ : Hid (q < 2) := by show q < 2; omega
      have g1 : (j : Int) < 4 := by omega
      have n1 : IntKind.i64.wrap ((j : Int) - 1) = (k : Int) := by rw [IntKind.wrap_i64]; omega
      have n2 : IntKind.i64.wrap ((j : Int) - 2) = (q : Int) := by rw [IntKind.wrap_i64]; omega
      have g2 : (k : Int) < 4 := by omega
      have g3 : (q : Int) < 4 := by omega
      have g4 : (0 : Int) ≤ (q : Int) := by omega
      have g5 : (0 : Int) ≤ (k : Int) := by omega
      have g6 : (0 : Int) ≤ (j : Int) := by omega
      obtain ⟨a1, HA1⟩ : ∃ a, Hid (s2 x y f s k = a) := ⟨_, rfl⟩
      obtain ⟨a0, HA0⟩ : ∃ a, Hid (s2 x y f s q = a) := ⟨_, rfl⟩
      obtain ⟨r1, HR1⟩ : ∃ a, Hid (fm xy a1 = a) := ⟨_, rfl⟩
      obtain ⟨r0, HR0⟩ : ∃ a, Hid (fm pr a0 = a) := ⟨_, rfl⟩
      obtain ⟨cu, hcu, hC⟩ := HI.out.1
      obtain ⟨v0, hv0⟩ := hC.2.2 j hlt
      have c2 : wr.cell? ⟨M + 1, j, none⟩ = some (.int .u8 v0) := hcu.cell _ _ hv0
      have c1 : wr.cell? ⟨M + 1, k, none⟩ = some (.int .u8 (a1.1 : Nat)) := by rw [← HA1.out]; exact hcu.cell _ _ (hC.2.1 _ (by omega))
      have c0 : wr.cell? ⟨M + 1, q, none⟩ = some (.int .u8 (a0.1 : Nat)) := by rw [← HA0.out]; exact hcu.cell _ _ (hC.2.1 _ (by omega))
      have f0 : wr.frozen? ⟨M + 1, j, none⟩ = false := hcu.frozen _
      have H1 : Hid (∀ u, Calls Tryd.prog 20 #[.int .u8 (xy.1 : Nat), .int .u8 (a1.1 : Nat)] u fun e w' => e = .returned (.int .u8 (r1.1 : Nat)) ∧ w' = u) := fun u => by rw [← HR1.out]; exact timesF xy a1 u
      have H2 : Hid (∀ u, Calls Tryd.prog 20 #[.int .u8 (pr.1 : Nat), .int .u8 (a0.1 : Nat)] u fun e w' => e = .returned (.int .u8 (r0.1 : Nat)) ∧ w' = u) := fun u => by rw [← HR0.out]; exact timesF pr a0 u
      obtain ⟨sn, HSN⟩ : ∃ a, Hid (s2 x y f s j = a) := ⟨_, rfl⟩
      have HXR : Hid (bits .xor .u8 ((r1.1 : Nat) : Int) ((r0.1 : Nat) : Int) = ((sn.1 : Nat) : Int)) := by
        show _ = _
        rw [xorF, ← HSN.out, HJQ.out, s2, ← HKQ.out, HA1.out, HA0.out, HXYN.out, HPR.out, HR1.out, HR0.out]
      have HNX : Hid ((∃ cu, Bx (wr.setCell ⟨M + 1, j, none⟩ (.int .u8 (sn.1 : Nat))).drew (M + 1) 104 cu ∧ Cu 4 (j + 1) (s2 x y f s) cu) ∧ Bx (wr.setCell ⟨M + 1, j, none⟩ (.int .u8 (sn.1 : Nat))).drew M 104 (List.replicate 4 (.int .u8 0)) ∧ Below M w (wr.setCell ⟨M + 1, j, none⟩ (.int .u8 (sn.1 : Nat))).drew) := by
        have hg := set_gb wr (M + 1) j (.int .u8 (sn.1 : Nat))
        obtain ⟨_, h1, h2⟩ := HI.out
        exact ⟨⟨_, hcu.set _ _, by rw [← HSN.out]; exact hC.next hlt⟩, h1.keep (hg.block M h1.lt (fun e => by injection e with e; omega)), (h2.setCell (by show M ≤ M + 1; omega) _).drew⟩
      have hxr := HXR.out
      have hxy := HXY.out
      generalize sn.1 = sn1 at hxr HNX
      generalize r1.1 = r11 at hxr H1
      generalize r0.1 = r01 at hxr H2
      generalize a1.1 = a11 at c1 H1
      generalize a0.1 = a01 at c0 H2
      generalize xy.1 = xy1 at hxy H1
      have hS0 : wr.drew.cell? ⟨M + 1, j, none⟩ = some (.int .u8 v0) ∧ wr.drew.cell? ⟨M + 1, k, none⟩ = some (.int .u8 (a11 : Nat)) ∧ wr.drew.cell? ⟨M + 1, q, none⟩ = some (.int .u8 (a01 : Nat)) := ⟨c2, c1, c0⟩
      clear hlt hj hj2 ejq ekq hcu hC hv0 c0 c1 c2 HXR HI
      go_upto_region 6 with fail
      refine wp_region_noPanic ?_
      refine wp_region_till (fun u => u.cell? ⟨M + 1, j, none⟩ = some (.int .u8 v0) ∧ u.cell? ⟨M + 1, k, none⟩ = some (.int .u8 (a11 : Nat)) ∧ u.cell? ⟨M + 1, q, none⟩ = some (.int .u8 (a01 : Nat))) 17 (by kernel_rfl) (by decide) (by decide +kernel) (by decide +kernel) (by decide +kernel) (fun inv => ?_)
      refine till_at 0 22 (.int .i64 (j : Nat)) inv rfl rfl (by decide) (by decide +kernel) (by decide +kernel) (fun _ _ _ h => h) hS0 (Or.inl ⟨by rfl, fun w' hS' => by obtain ⟨k1, k2, k3⟩ := hS'; go_simp⟩) (fun inv' => ?_)
      clear inv; have inv := inv'; clear inv'
      try simp only [List.setIfInBounds_toArray, List.set_cons_zero, List.set_cons_succ]
      refine till_at 1 23 (.int .u8 (x1 : Nat)) inv rfl rfl (by decide) (by decide +kernel) (by decide +kernel) (fun _ _ _ h => h) hS0 (Or.inl ⟨by rfl, fun w' hS' => by obtain ⟨k1, k2, k3⟩ := hS'; go_simp⟩) (fun inv' => ?_)
      clear inv; have inv := inv'; clear inv'
      try simp only [List.setIfInBounds_toArray, List.set_cons_zero, List.set_cons_succ]
      refine till_at 2 24 (.int .u8 (y1 : Nat)) inv rfl rfl (by decide) (by decide +kernel) (by decide +kernel) (fun _ _ _ h => h) hS0 (Or.inl ⟨by rfl, fun w' hS' => by obtain ⟨k1, k2, k3⟩ := hS'; go_simp⟩) (fun inv' => ?_)
      clear inv; have inv := inv'; clear inv'
      try simp only [List.setIfInBounds_toArray, List.set_cons_zero, List.set_cons_succ]
      refine till_at 3 25 (.int .u8 (xy1 : Nat)) inv rfl rfl (by decide) (by decide +kernel) (by decide +kernel) (fun _ _ _ h => h) hS0 (Or.inl ⟨by rfl, fun w' hS' => by obtain ⟨k1, k2, k3⟩ := hS'; go_simp⟩) (fun inv' => ?_)
      clear inv; have inv := inv'; clear inv'
      try simp only [List.setIfInBounds_toArray, List.set_cons_zero, List.set_cons_succ]
      refine till_at 4 26 (.int .i64 (j : Nat)) inv rfl rfl (by decide) (by decide +kernel) (by decide +kernel) (fun _ _ _ h => h) hS0 (Or.inl ⟨by rfl, fun w' hS' => by obtain ⟨k1, k2, k3⟩ := hS'; go_simp⟩) (fun inv' => ?_)
      clear inv; have inv := inv'; clear inv'
      try simp only [List.setIfInBounds_toArray, List.set_cons_zero, List.set_cons_succ]
      refine till_at 5 27 (.int .i64 (k : Nat)) inv rfl rfl (by decide) (by decide +kernel) (by decide +kernel) (fun _ _ _ h => h) hS0 (Or.inl ⟨by rfl, fun w' hS' => by obtain ⟨k1, k2, k3⟩ := hS'; go_simp⟩) (fun inv' => ?_)
      clear inv; have inv := inv'; clear inv'
      try simp only [List.setIfInBounds_toArray, List.set_cons_zero, List.set_cons_succ]
      refine till_at 6 28 (.pointer (some ⟨M + 1, k, none⟩)) inv rfl rfl (by decide) (by decide +kernel) (by decide +kernel) (fun _ _ _ h => h) hS0 (Or.inl ⟨by rfl, fun w' hS' => by obtain ⟨k1, k2, k3⟩ := hS'; go_simp⟩) (fun inv' => ?_)
      clear inv; have inv := inv'; clear inv'
      try simp only [List.setIfInBounds_toArray, List.set_cons_zero, List.set_cons_succ]
      refine till_at 7 29 (.int .u8 (a11 : Nat)) inv rfl rfl (by decide) (by decide +kernel) (by decide +kernel) (fun _ _ _ h => h) hS0 (Or.inl ⟨by rfl, fun w' hS' => by obtain ⟨k1, k2, k3⟩ := hS'; go_simp⟩) (fun inv' => ?_)
      clear inv; have inv := inv'; clear inv'
      try simp only [List.setIfInBounds_toArray, List.set_cons_zero, List.set_cons_succ]
      refine till_at 9 31 (.int .u8 (pr.1 : Nat)) inv rfl rfl (by decide) (by decide +kernel) (by decide +kernel) (fun _ _ _ h => h) hS0 (Or.inl ⟨by rfl, fun w' hS' => by obtain ⟨k1, k2, k3⟩ := hS'; go_simp⟩) (fun inv' => ?_)
      clear inv; have inv := inv'; clear inv'
      try simp only [List.setIfInBounds_toArray, List.set_cons_zero, List.set_cons_succ]
      refine till_at 10 32 (.int .i64 (j : Nat)) inv rfl rfl (by decide) (by decide +kernel) (by decide +kernel) (fun _ _ _ h => h) hS0 (Or.inl ⟨by rfl, fun w' hS' => by obtain ⟨k1, k2, k3⟩ := hS'; go_simp⟩) (fun inv' => ?_)
      clear inv; have inv := inv'; clear inv'
      try simp only [List.setIfInBounds_toArray, List.set_cons_zero, List.set_cons_succ]
      refine till_at 11 33 (.int .i64 (q : Nat)) inv rfl rfl (by decide) (by decide +kernel) (by decide +kernel) (fun _ _ _ h => h) hS0 (Or.inl ⟨by rfl, fun w' hS' => by obtain ⟨k1, k2, k3⟩ := hS'; go_simp⟩) (fun inv' => ?_)
      clear inv; have inv := inv'; clear inv'
      try simp only [List.setIfInBounds_toArray, List.set_cons_zero, List.set_cons_succ]
      refine till_at 12 34 (.pointer (some ⟨M + 1, q, none⟩)) inv rfl rfl (by decide) (by decide +kernel) (by decide +kernel) (fun _ _ _ h => h) hS0 (Or.inl ⟨by rfl, fun w' hS' => by obtain ⟨k1, k2, k3⟩ := hS'; go_simp⟩) (fun inv' => ?_)
      clear inv; have inv := inv'; clear inv'
      try simp only [List.setIfInBounds_toArray, List.set_cons_zero, List.set_cons_succ]
      refine till_at 13 35 (.int .u8 (a01 : Nat)) inv rfl rfl (by decide) (by decide +kernel) (by decide +kernel) (fun _ _ _ h => h) hS0 (Or.inl ⟨by rfl, fun w' hS' => by obtain ⟨k1, k2, k3⟩ := hS'; go_simp⟩) (fun inv' => ?_)
      clear inv; have inv := inv'; clear inv'
      try simp only [List.setIfInBounds_toArray, List.set_cons_zero, List.set_cons_succ]
      refine till_head (i := 8) inv (by decide +kernel) (by decide) rfl (fun KK hK => ?_)
      go_simp
      refine (H1.out _).mono ?_
      rintro e5 w5 ⟨rfl, hw⟩
      obtain rfl := hw.symm
      clear hw
      go_wp2_with fail
      refine hK.out _ _ (hS0) (fun inv' => ?_)
      clear hK KK inv; have inv := inv'; clear inv'
      try simp only [List.setIfInBounds_toArray, List.set_cons_zero, List.set_cons_succ]
      refine till_head (i := 14) inv (by decide +kernel) (by decide) rfl (fun KK hK => ?_)
      go_simp
      refine (H2.out _).mono ?_
      rintro e5 w5 ⟨rfl, hw⟩
      obtain rfl := hw.symm
      clear hw
      go_wp2_with fail
      refine hK.out _ _ (hS0) (fun inv' => ?_)
      clear hK KK inv; have inv := inv'; clear inv'
      try simp only [List.setIfInBounds_toArray, List.set_cons_zero, List.set_cons_succ]
      refine till_at 15 37 (.int .u8 (sn1 : Nat)) inv rfl rfl (by decide) (by decide +kernel) (by decide +kernel) (fun _ _ _ h => h) hS0 (Or.inl ⟨by rfl, fun w' hS' => by obtain ⟨k1, k2, k3⟩ := hS'; go_simp⟩) (fun inv' => ?_)
      clear inv; have inv := inv'; clear inv'
      try simp only [List.setIfInBounds_toArray, List.set_cons_zero, List.set_cons_succ]
      refine till_at 16 38 (.pointer (some ⟨M + 1, j, none⟩)) inv rfl rfl (by decide) (by decide +kernel) (by decide +kernel) (fun _ _ _ h => h) hS0 (Or.inl ⟨by rfl, fun w' hS' => by obtain ⟨k1, k2, k3⟩ := hS'; go_simp⟩) (fun inv' => ?_)
      clear inv; have inv := inv'; clear inv'
      try simp only [List.setIfInBounds_toArray, List.set_cons_zero, List.set_cons_succ]
      refine till_tail (i := 17) (by decide +kernel) (by decide) rfl (fun KK hK => ?_)
      rw [if_pos (by rfl)]
      go_simp
      refine hK.out _ _ ?_
      clear hK KK
      try simp only [List.setIfInBounds_toArray, List.set_cons_zero, List.set_cons_succ]
      refine till_done (by decide +kernel) ?_ _
      refine NoPanic.normal ?_
      go_wp2
      refine ⟨⟨j + 1, by have := HJQ.out; omega, by have := HJQ.out; have := HQ.out; omega, by first | rfl | (simp; done), HNX.out⟩, ?_⟩
      have := HQ.out
      have := HJQ.out
      simp [intOf]
      omega
    · obtain rfl : j = 4 := by omega
      obtain ⟨⟨cu, hcu, hC⟩, h1, h5⟩ := HI.out
      have HC : Hid (Bx wr (M + 1) 104 (fc ((List.range 4).map (s2 x y f s))) ∧ Bx wr M 104 (List.replicate 4 (.int .u8 0)) ∧ Below M w wr) := by rw [← hC.all]; exact ⟨hcu, h1, h5⟩
      have HLN : Hid ((fc ((List.range 4).map (s2 x y f s))).length = 4 ∧ ∀ v ∈ fc ((List.range 4).map (s2 x y f s)), v.oneCell' = true) := ⟨by rw [fc_len]; rfl, fc_one _⟩
      have hi7 : (Tryd.prog.info? 104).map (·.size) = some (fc ((List.range 4).map (s2 x y f s))).length := by rw [HLN.out.1]; kernel_rfl
      obtain ⟨R, HR⟩ : ∃ R, Hid (fc ((List.range 4).map (s2 x y f s)) = R) := ⟨_, rfl⟩
      rw [HR.out] at HC HLN hi7
      clear hcu hC h1 h5 HI
      have g2 : ¬ ((4 : Nat) : Int) < 4 := by decide
      go_wp2_with (first
        | (refine wpList_load_mid (by rfl) 104 (.tmp 9) (by rfl) (M + 1) 0 (by rfl) R _ HC.out.1.range Tryd.underlying104 rfl hi7 ?_)
        | (refine wpList_store_bx (by rfl) 104 (.tmp 8) (.tmp 39) (by rfl) (List.replicate 4 (.int .u8 0)) R M (by rfl) (by rfl) HC.out.2.1 (by rw [HLN.out.1]; rfl) hi7 HLN.out.2 ?_; intro u9 hb9 hg9))
      refine ret_array (b := M) R rfl rfl hb9.range Tryd.underlying104 rfl hi7 ⟨by rw [← HR.out, map4], ?_⟩
      have hf : Below M w u9 := HC.out.2.2.trans (below_gb hg9 (by have := HC.out.2.1.lt; omega) (Nat.le_refl _))
      first | exact hf | (rw [HMM.out]; exact hf)
/-- The two bytes. -/
def wA (x y f0 f1 : F) : F := fm (fa (fm f0 y) f1) (invF (fa x y))
set_option maxHeartbeats 1600000 in
set_option maxRecDepth 100000 in
theorem wrong_ok (x y : F) (l : List F) (hl : l.length = 4) (w : World) : Calls Tryd.prog 82 #[.int .u8 (x.1 : Nat), .int .u8 (y.1 : Nat), .agg (fc l).toArray] w fun e w' => Hid (e = .returned (.tuple #[.int .u8 ((wA x y (l.getD 0 0) (l.getD 1 0)).1 : Nat), .int .u8 ((fa (l.getD 0 0) (wA x y (l.getD 0 0) (l.getD 1 0))).1 : Nat)]) ∧ Below w.heap.size w w') := by
  obtain ⟨M, HMM⟩ : ∃ M, Hid (w.heap.size = M) := ⟨_, rfl⟩
  obtain ⟨f0, HF0⟩ : ∃ a, Hid (l.getD 0 0 = a) := ⟨_, rfl⟩
  obtain ⟨f1, HF1⟩ : ∃ a, Hid (l.getD 1 0 = a) := ⟨_, rfl⟩
  obtain ⟨L, HL⟩ : ∃ a, Hid ((fc l) = a) := ⟨_, rfl⟩
  obtain ⟨w1, hw1⟩ : ∃ w1, w1 = w.alloc (.cells L.toArray 104) := ⟨_, rfl⟩
  have HB1 : Hid (Bx w1 M 104 L ∧ Below M w w1) := by
    rw [hw1, ← HMM.out]
    exact ⟨Bx.new w 104 _, (Below.refl _ _).alloc (Nat.le_refl _) _⟩
  have c0 : w1.drew.cell? ⟨M, 0, none⟩ = some (.int .u8 (f0.1 : Nat)) := by rw [← HF0.out]; refine HB1.out.1.cell 0 _ ?_; rw [← HL.out]; exact fc_at l 0 (by omega)
  have c1 : w1.drew.cell? ⟨M, 1, none⟩ = some (.int .u8 (f1.1 : Nat)) := by rw [← HF1.out]; refine HB1.out.1.cell 1 _ ?_; rw [← HL.out]; exact fc_at l 1 (by omega)
  obtain ⟨r1, HR1⟩ : ∃ a, Hid (fm f0 y = a) := ⟨_, rfl⟩
  obtain ⟨r2, HR2⟩ : ∃ a, Hid (fa r1 f1 = a) := ⟨_, rfl⟩
  obtain ⟨xy, HXY⟩ : ∃ a, Hid (fa x y = a) := ⟨_, rfl⟩
  obtain ⟨iv, HIV⟩ : ∃ a, Hid (invF xy = a) := ⟨_, rfl⟩
  obtain ⟨a, HA⟩ : ∃ a, Hid (fm r2 iv = a) := ⟨_, rfl⟩
  obtain ⟨b, HB⟩ : ∃ b, Hid (fa f0 a = b) := ⟨_, rfl⟩
  have HW : Hid (wA x y f0 f1 = a) := by show _ = _; rw [wA, HR1.out, HR2.out, HXY.out, HIV.out, HA.out]
  have H1 : Hid (∀ u, Calls Tryd.prog 20 #[.int .u8 (f0.1 : Nat), .int .u8 (y.1 : Nat)] u fun e w' => e = .returned (.int .u8 (r1.1 : Nat)) ∧ w' = u) := fun u => by rw [← HR1.out]; exact timesF f0 y u
  have H2 : Hid (∀ u, Calls Tryd.prog 69 #[.int .u8 (xy.1 : Nat)] u fun e w' => e = .returned (.int .u8 (iv.1 : Nat)) ∧ w' = u) := fun u => by rw [← HIV.out]; exact inverse_ok xy u
  have H3 : Hid (∀ u, Calls Tryd.prog 20 #[.int .u8 (r2.1 : Nat), .int .u8 (iv.1 : Nat)] u fun e w' => e = .returned (.int .u8 (a.1 : Nat)) ∧ w' = u) := fun u => by rw [← HA.out]; exact timesF r2 iv u
  have hx1 : bits .xor .u8 ((r1.1 : Nat) : Int) ((f1.1 : Nat) : Int) = ((r2.1 : Nat) : Int) := by rw [xorF, HR2.out]
  have hx2 : bits .xor .u8 ((x.1 : Nat) : Int) ((y.1 : Nat) : Int) = ((xy.1 : Nat) : Int) := by rw [xorF, HXY.out]
  have hx3 : bits .xor .u8 ((f0.1 : Nat) : Int) ((a.1 : Nat) : Int) = ((b.1 : Nat) : Int) := by rw [xorF, HB.out]
  have hi0 : (Tryd.prog.info? 104).map (·.size) = some L.length := by rw [← HL.out, fc_len, hl]; kernel_rfl
  have hone : ∀ v ∈ L, v.oneCell' = true := by rw [← HL.out]; exact fc_one l
  rw [HF0.out, HF1.out, HW.out, HB.out, HL.out]
  generalize x.1 = x1 at hx2 ⊢
  generalize y.1 = y1 at hx2 H1 ⊢
  generalize xy.1 = xy1 at hx2 H2
  generalize r2.1 = r21 at hx1 H3
  generalize r1.1 = r11 at hx1 H1
  generalize f1.1 = f11 at hx1 c1
  generalize f0.1 = f01 at hx3 H1 c0
  generalize iv.1 = iv1 at H2 H3
  generalize a.1 = a1 at hx3 H3 ⊢
  generalize b.1 = b1 at hx3 ⊢
  have hS0 : w1.drew.cell? ⟨M, 0, none⟩ = some (.int .u8 (f01 : Nat)) ∧ w1.drew.cell? ⟨M, 1, none⟩ = some (.int .u8 (f11 : Nat)) := ⟨c0, c1⟩
  clear c0 c1 HF0 HF1 HR1 HR2 HXY HIV HA HB HW HL hl
  go_enter Tryd.func82, Tryd.ntmps82
  go_upto_region 1 with fail
  rw [← hw1, HMM.out]
  clear hw1 hi0 hone
  refine wp_region_noPanic ?_
  refine wp_region_till (fun u => u.cell? ⟨M, 0, none⟩ = some (.int .u8 (f01 : Nat)) ∧ u.cell? ⟨M, 1, none⟩ = some (.int .u8 (f11 : Nat))) 12 (by kernel_rfl) (by decide) (by decide +kernel) (by decide +kernel) (by decide +kernel) (fun inv => ?_)
  refine till_at 0 9 (.pointer (some ⟨M, 0, none⟩)) inv rfl rfl (by decide) (by decide +kernel) (by decide +kernel) (fun _ _ _ h => h) hS0 (Or.inl ⟨by rfl, fun w' hS' => by obtain ⟨k1, k2⟩ := hS'; go_simp⟩) (fun inv' => ?_)
  clear inv; have inv := inv'; clear inv'
  try simp only [List.setIfInBounds_toArray, List.set_cons_zero, List.set_cons_succ]
  refine till_at 1 10 (.int .u8 (f01 : Nat)) inv rfl rfl (by decide) (by decide +kernel) (by decide +kernel) (fun _ _ _ h => h) hS0 (Or.inl ⟨by rfl, fun w' hS' => by obtain ⟨k1, k2⟩ := hS'; go_simp⟩) (fun inv' => ?_)
  clear inv; have inv := inv'; clear inv'
  try simp only [List.setIfInBounds_toArray, List.set_cons_zero, List.set_cons_succ]
  refine till_at 2 11 (.int .u8 (y1 : Nat)) inv rfl rfl (by decide) (by decide +kernel) (by decide +kernel) (fun _ _ _ h => h) hS0 (Or.inl ⟨by rfl, fun w' hS' => by obtain ⟨k1, k2⟩ := hS'; go_simp⟩) (fun inv' => ?_)
  clear inv; have inv := inv'; clear inv'
  try simp only [List.setIfInBounds_toArray, List.set_cons_zero, List.set_cons_succ]
  refine till_at 4 13 (.pointer (some ⟨M, 1, none⟩)) inv rfl rfl (by decide) (by decide +kernel) (by decide +kernel) (fun _ _ _ h => h) hS0 (Or.inl ⟨by rfl, fun w' hS' => by obtain ⟨k1, k2⟩ := hS'; go_simp⟩) (fun inv' => ?_)
  clear inv; have inv := inv'; clear inv'
  try simp only [List.setIfInBounds_toArray, List.set_cons_zero, List.set_cons_succ]
  refine till_at 5 14 (.int .u8 (f11 : Nat)) inv rfl rfl (by decide) (by decide +kernel) (by decide +kernel) (fun _ _ _ h => h) hS0 (Or.inl ⟨by rfl, fun w' hS' => by obtain ⟨k1, k2⟩ := hS'; go_simp⟩) (fun inv' => ?_)
  clear inv; have inv := inv'; clear inv'
  try simp only [List.setIfInBounds_toArray, List.set_cons_zero, List.set_cons_succ]
  refine till_at 7 16 (.int .u8 (x1 : Nat)) inv rfl rfl (by decide) (by decide +kernel) (by decide +kernel) (fun _ _ _ h => h) hS0 (Or.inl ⟨by rfl, fun w' hS' => by obtain ⟨k1, k2⟩ := hS'; go_simp⟩) (fun inv' => ?_)
  clear inv; have inv := inv'; clear inv'
  try simp only [List.setIfInBounds_toArray, List.set_cons_zero, List.set_cons_succ]
  refine till_at 8 17 (.int .u8 (y1 : Nat)) inv rfl rfl (by decide) (by decide +kernel) (by decide +kernel) (fun _ _ _ h => h) hS0 (Or.inl ⟨by rfl, fun w' hS' => by obtain ⟨k1, k2⟩ := hS'; go_simp⟩) (fun inv' => ?_)
  clear inv; have inv := inv'; clear inv'
  try simp only [List.setIfInBounds_toArray, List.set_cons_zero, List.set_cons_succ]
  refine till_at 9 18 (.int .u8 (xy1 : Nat)) inv rfl rfl (by decide) (by decide +kernel) (by decide +kernel) (fun _ _ _ h => h) hS0 (Or.inl ⟨by rfl, fun w' hS' => by obtain ⟨k1, k2⟩ := hS'; go_simp⟩) (fun inv' => ?_)
  clear inv; have inv := inv'; clear inv'
  try simp only [List.setIfInBounds_toArray, List.set_cons_zero, List.set_cons_succ]
  refine till_head (i := 3) inv (by decide +kernel) (by decide) rfl (fun KK hK => ?_)
  go_simp
  refine (H1.out _).mono ?_
  rintro e5 w5 ⟨rfl, hw⟩
  obtain rfl := hw.symm
  clear hw
  go_wp2_with fail
  refine hK.out _ _ (hS0) (fun inv' => ?_)
  clear hK KK inv; have inv := inv'; clear inv'
  try simp only [List.setIfInBounds_toArray, List.set_cons_zero, List.set_cons_succ]
  refine till_at 6 15 (.int .u8 (r21 : Nat)) inv rfl rfl (by decide) (by decide +kernel) (by decide +kernel) (fun _ _ _ h => h) hS0 (Or.inl ⟨by rfl, fun w' hS' => by obtain ⟨k1, k2⟩ := hS'; go_simp⟩) (fun inv' => ?_)
  clear inv; have inv := inv'; clear inv'
  try simp only [List.setIfInBounds_toArray, List.set_cons_zero, List.set_cons_succ]
  refine till_head (i := 10) inv (by decide +kernel) (by decide) rfl (fun KK hK => ?_)
  go_simp
  refine (H2.out _).mono ?_
  rintro e5 w5 ⟨rfl, hw⟩
  obtain rfl := hw.symm
  clear hw
  go_wp2_with fail
  refine hK.out _ _ (hS0) (fun inv' => ?_)
  clear hK KK inv; have inv := inv'; clear inv'
  try simp only [List.setIfInBounds_toArray, List.set_cons_zero, List.set_cons_succ]
  refine till_head (i := 11) inv (by decide +kernel) (by decide) rfl (fun KK hK => ?_)
  go_simp
  refine (H3.out _).mono ?_
  rintro e5 w5 ⟨rfl, hw⟩
  obtain rfl := hw.symm
  clear hw
  go_wp2_with fail
  refine hK.out _ _ (hS0) (fun inv' => ?_)
  clear hK KK inv; have inv := inv'; clear inv'
  try simp only [List.setIfInBounds_toArray, List.set_cons_zero, List.set_cons_succ]
  refine till_tail (i := 12) (by decide +kernel) (by decide) rfl (fun KK hK => ?_)
  go_simp
  refine hK.out _ _ ?_
  clear hK KK
  try simp only [List.setIfInBounds_toArray, List.set_cons_zero, List.set_cons_succ]
  refine till_done (by decide +kernel) ?_ _
  refine NoPanic.normal ?_
  have c0 : w1.drew.cell? ⟨M, 0, none⟩ = some (.int .u8 (f01 : Nat)) := hS0.1
  go_wp2
  go_region
  go_wp2
  refine ⟨rfl, _, results_tmp2 rfl _ _ _, rfl, ?_⟩
  rw [HMM.out]
  exact HB1.out.2.drew.drew
end Go.Proofs.YtinmhgackihakaaDoor
