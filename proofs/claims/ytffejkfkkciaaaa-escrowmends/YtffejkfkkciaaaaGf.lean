import Derived.Test.YtffejkfkkciaaaaPure
namespace Go.Proofs.Ytffejkfkkciaaaa
/-- The powers of 3, and their numbers. -/
def pwT (j : Nat) : Nat := Nat.mod (Nat.shiftRight 121466575815500734415996836054882879791832871126464106601702187317037704638720699736399773789881350966450612456712855012027411276600174289287471020404625812305602624065235109912861702064162581238381248958448422203687095403783548669481020115429473714815130546491650907227391014769411226625179674495964331439187933946584331397333639979447433688574122779091165484305754955373075414835846686739481168846087332879005575464100018941681806164995707250399423063311368515928344698269234575261926727907427524598329539937222090466892085999338983806607642276495436692919915470849325341672618663070658392065151738926641076044545 (Nat.mul 8 j)) 256
def lgT (b : Nat) : Nat := Nat.mod (Nat.shiftRight 939374623831894136699086600277250597547650664638770418422125146541797353646788332867483593573384618611044815625336497665827114626705134492515730415652478061620339993830966980270842846318821775850471098591710629241171812800746666233448222972174585295916389942636813666312872914849454985560152530477328703759683306625234997237483834721220409437442253146756845415190424543171129629468776480674528486868811725071010351012234056630775688111116293610821126543142160426617079940511630006820862697466582575257349116925728488930366609138264019883664906661504235885380294353134295748489096855100647154935187045898006656778240 (Nat.mul 8 b)) 256
def logB (i j : Nat) : Bool := Nat.beq (tmsN 8 0 (pwT i) (pwT j)) (pwT (Nat.mod (Nat.add i j) 255))
set_option maxRecDepth 100000 in
theorem log_0 : allB (fun i => allB (logB i) 255) 64 = true := by decide +kernel
set_option maxRecDepth 100000 in
theorem log_1 : allB (fun i => allB (logB (Nat.add 64 i)) 255) 64 = true := by decide +kernel
set_option maxRecDepth 100000 in
theorem log_2 : allB (fun i => allB (logB (Nat.add 128 i)) 255) 64 = true := by decide +kernel
set_option maxRecDepth 100000 in
theorem log_3 : allB (fun i => allB (logB (Nat.add 192 i)) 255) 63 = true := by decide +kernel
theorem log_all (i j : Nat) (hi : i < 255) (hj : j < 255) : tmsN 8 0 (pwT i) (pwT j) = pwT ((i + j) % 255) := by
  have h : logB i j = true := by
    by_cases h0 : i < 64
    · exact allB_at (allB_at log_0 h0) hj
    · by_cases h1 : i < 128
      · have q := allB_at (allB_at log_1 (show i - 64 < 64 by omega)) hj
        rwa [show Nat.add 64 (i - 64) = i from Nat.add_sub_of_le (by omega)] at q
      · by_cases h2 : i < 192
        · have q := allB_at (allB_at log_2 (show i - 128 < 64 by omega)) hj
          rwa [show Nat.add 128 (i - 128) = i from Nat.add_sub_of_le (by omega)] at q
        · have q := allB_at (allB_at log_3 (show i - 192 < 63 by omega)) hj
          rwa [show Nat.add 192 (i - 192) = i from Nat.add_sub_of_le (by omega)] at q
  exact Nat.eq_of_beq_eq_true h
theorem pwT_lt (j : Nat) : pwT j < 256 := Nat.mod_lt _ (by decide)
theorem lg_pw : ∀ b : Fin 256, b.1 = 0 ∨ (lgT b.1 < 255 ∧ pwT (lgT b.1) = b.1) := by decide +kernel
theorem pw_ne : ∀ j : Fin 255, pwT j.1 ≠ 0 := by decide +kernel
theorem pw_lg : ∀ j : Fin 255, lgT (pwT j.1) = j.1 := by decide +kernel
/-- A byte as an element of the field. -/
abbrev F := Fin 256
def fa (a b : F) : F := ⟨Nat.xor a.1 b.1, xor_lt8 a.2 b.2⟩
def fm (a b : F) : F := ⟨tmsN 8 0 a.1 b.1, tms_lt 8 0 a.1 b.1 (by decide) a.2 b.2⟩
/-- 3 to the n. -/
def Em (n : Nat) : F := ⟨pwT (n % 255), pwT_lt _⟩
theorem fa_comm (a b : F) : fa a b = fa b a := Fin.ext (Nat.xor_comm _ _)
theorem fa_assoc (a b c : F) : fa (fa a b) c = fa a (fa b c) := Fin.ext (Nat.xor_assoc _ _ _)
theorem fa_self (a : F) : fa a a = 0 := Fin.ext (Nat.xor_self _)
theorem fa_zero (a : F) : fa a 0 = a := Fin.ext (Nat.xor_zero _)
theorem zero_fa (a : F) : fa 0 a = a := Fin.ext (Nat.zero_xor _)
theorem fa_left (a b c : F) : fa a (fa b c) = fa b (fa a c) := by rw [← fa_assoc, fa_comm a b, fa_assoc]
theorem fa_canc (a b : F) : fa a (fa a b) = b := by rw [← fa_assoc, fa_self, zero_fa]
theorem fa_eq_zero {a b : F} (h : fa a b = 0) : a = b := by rw [← fa_zero a, ← fa_self b, ← fa_assoc, h, zero_fa]
theorem fa_ne {a b : F} (h : a ≠ b) : fa a b ≠ 0 := fun e => h (fa_eq_zero e)
theorem fa_inj {a b c : F} (h : fa a c = fa b c) : a = b := by rw [← fa_canc c a, fa_comm c a, h, fa_comm b c, fa_canc]
theorem Em_mul (m n : Nat) : fm (Em m) (Em n) = Em (m + n) := Fin.ext (by
  show tmsN 8 0 (pwT (m % 255)) (pwT (n % 255)) = pwT ((m + n) % 255)
  rw [log_all _ _ (Nat.mod_lt _ (by decide)) (Nat.mod_lt _ (by decide)), ← Nat.add_mod])
theorem Em_ne (n : Nat) : Em n ≠ 0 := fun e => pw_ne ⟨n % 255, Nat.mod_lt _ (by decide)⟩ (congrArg Fin.val e)
theorem Em_inj (m n : Nat) (hm : m < 255) (hn : n < 255) (h : Em m = Em n) : m = n := by
  have h' : pwT (m % 255) = pwT (n % 255) := congrArg Fin.val h
  rw [Nat.mod_eq_of_lt hm, Nat.mod_eq_of_lt hn] at h'
  have a := pw_lg ⟨m, hm⟩
  have b := pw_lg ⟨n, hn⟩
  simp only at a b
  rw [← a, h', b]
theorem Em_zero : Em 0 = 1 := by decide +kernel
theorem Em_one : Em 1 = 3 := by decide +kernel
theorem Em_all (a : F) : a = 0 ∨ ∃ n, n < 255 ∧ a = Em n := by
  rcases lg_pw a with h | ⟨h1, h2⟩
  · exact .inl (Fin.ext h)
  · exact .inr ⟨lgT a.1, h1, Fin.ext (by show a.1 = pwT (lgT a.1 % 255); rw [Nat.mod_eq_of_lt h1, h2])⟩
theorem fm_zero : ∀ a : F, fm a 0 = 0 := by decide +kernel
theorem zero_fm : ∀ a : F, fm 0 a = 0 := by decide +kernel
theorem fm_comm (a b : F) : fm a b = fm b a := by
  rcases Em_all a with rfl | ⟨m, _, rfl⟩
  · rw [fm_zero, zero_fm]
  · rcases Em_all b with rfl | ⟨n, _, rfl⟩
    · rw [fm_zero, zero_fm]
    · rw [Em_mul, Em_mul, Nat.add_comm]
theorem fm_assoc (a b c : F) : fm (fm a b) c = fm a (fm b c) := by
  rcases Em_all a with rfl | ⟨m, _, rfl⟩
  · rw [zero_fm, zero_fm, zero_fm]
  · rcases Em_all b with rfl | ⟨n, _, rfl⟩
    · rw [fm_zero, zero_fm, fm_zero]
    · rcases Em_all c with rfl | ⟨k, _, rfl⟩
      · rw [fm_zero, fm_zero, fm_zero]
      · rw [Em_mul, Em_mul, Em_mul, Em_mul, Nat.add_assoc]
theorem fm_left (a b c : F) : fm a (fm b c) = fm b (fm a c) := by rw [← fm_assoc, fm_comm a b, fm_assoc]
theorem fm_one (a : F) : fm a 1 = a := by
  rcases Em_all a with rfl | ⟨m, _, rfl⟩
  · exact zero_fm _
  · rw [← Em_zero, Em_mul, Nat.add_zero]
theorem fm_ne {a b : F} (ha : a ≠ 0) (hb : b ≠ 0) : fm a b ≠ 0 := by
  rcases Em_all a with h | ⟨m, _, rfl⟩
  · exact absurd h ha
  · rcases Em_all b with h | ⟨n, _, rfl⟩
    · exact absurd h hb
    · rw [Em_mul]; exact Em_ne _
theorem fm_eq_zero {a b : F} (h : fm a b = 0) (hb : b ≠ 0) : a = 0 := by
  by_cases ha : a = 0
  · exact ha
  · exact absurd h (fm_ne ha hb)
/-- A factor that undoes. -/
theorem fm_inv (a : F) (ha : a ≠ 0) : ∃ b, b ≠ 0 ∧ fm a b = 1 := by
  rcases Em_all a with h | ⟨m, hm, rfl⟩
  · exact absurd h ha
  · refine ⟨Em (255 - m), Em_ne _, ?_⟩
    rw [Em_mul, show m + (255 - m) = 255 by omega]
    decide +kernel
theorem fm_canc {a b c : F} (hc : c ≠ 0) (h : fm a c = fm b c) : a = b := by
  obtain ⟨d, _, hd⟩ := fm_inv c hc
  have e : fm (fm a c) d = fm (fm b c) d := by rw [h]
  rwa [fm_assoc, fm_assoc, hd, fm_one, fm_one] at e
theorem mod2_xor (a b : Nat) : Nat.mod (Nat.xor a b) 2 = Nat.xor (Nat.mod a 2) (Nat.mod b 2) := Nat.xor_mod_two_pow (a := a) (b := b) (n := 1)
theorem div2_xor (a b : Nat) : Nat.div (Nat.xor a b) 2 = Nat.xor (Nat.div a 2) (Nat.div b 2) := by
  have h := Nat.shiftRight_xor_distrib (a := a) (b := b) (i := 1)
  show (a ^^^ b) / 2 = (a / 2) ^^^ (b / 2)
  simpa [Nat.shiftRight_eq_div_pow] using h
theorem mul_bit (x y a : Nat) (hx : x = 0 ∨ x = 1) (hy : y = 0 ∨ y = 1) : Nat.mul (Nat.xor x y) a = Nat.xor (Nat.mul x a) (Nat.mul y a) := by
  rcases hx with rfl | rfl <;> rcases hy with rfl | rfl
  · show 0 * a = (0 * a) ^^^ (0 * a); simp
  · show (0 ^^^ 1) * a = (0 * a) ^^^ (1 * a); simp
  · show (1 ^^^ 0) * a = (1 * a) ^^^ (0 * a); simp
  · show (1 ^^^ 1) * a = (1 * a) ^^^ (1 * a); simp
theorem tms_xor : ∀ (k p q a b c : Nat), tmsN k (Nat.xor p q) a (Nat.xor b c) = Nat.xor (tmsN k p a b) (tmsN k q a c)
  | 0, p, q, a, b, c => rfl
  | k + 1, p, q, a, b, c => by
    show tmsN k (Nat.xor (Nat.xor p q) (Nat.mul (Nat.mod (Nat.xor b c) 2) a)) (dblN a) (Nat.div (Nat.xor b c) 2) = Nat.xor (tmsN k (Nat.xor p (Nat.mul (Nat.mod b 2) a)) (dblN a) (Nat.div b 2)) (tmsN k (Nat.xor q (Nat.mul (Nat.mod c 2) a)) (dblN a) (Nat.div c 2))
    rw [← tms_xor k _ _ (dblN a) (Nat.div b 2) (Nat.div c 2), mod2_xor, div2_xor, mul_bit _ _ _ (bit_cases b) (bit_cases c)]
    congr 1
    show (p ^^^ q) ^^^ (_ ^^^ _) = (p ^^^ _) ^^^ (q ^^^ _)
    rw [Nat.xor_assoc, Nat.xor_assoc, ← Nat.xor_assoc q, Nat.xor_comm q, Nat.xor_assoc]
theorem fm_fa (a b c : F) : fm a (fa b c) = fa (fm a b) (fm a c) := Fin.ext (tms_xor 8 0 0 a.1 b.1 c.1)
theorem fa_fm (a b c : F) : fm (fa a b) c = fa (fm a c) (fm b c) := by rw [fm_comm, fm_fa, fm_comm c a, fm_comm c b]
end Go.Proofs.Ytffejkfkkciaaaa
