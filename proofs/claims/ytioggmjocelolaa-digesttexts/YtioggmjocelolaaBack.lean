import Derived.Test.YtioggmjocelolaaMayFns
namespace Go.Proofs.Ytioggmjocelolaa

/-! ### Hexadecimal digits, there and back -/
theorem hexV_hexD_all : ∀ i : Fin 16, hexV (hexD i.1) = (i.1 : Int) ∧ 0 ≤ hexD i.1 ∧ hexD i.1 < 256 := by decide +kernel
theorem hexV_hexD (i : Nat) (h : i < 16) : hexV (hexD i) = (i : Int) ∧ 0 ≤ hexD i ∧ hexD i < 256 := hexV_hexD_all ⟨i, h⟩
def Bytes (l : List Int) : Prop := ∀ c ∈ l, 0 ≤ c ∧ c < 256
def lowS (c : Int) : Int := if 65 ≤ c ∧ c ≤ 70 then c + 32 else c
theorem hexD_hexV_all : ∀ c : Fin 256, 0 ≤ hexV (c.1 : Int) → hexD (hexV (c.1 : Int)).toNat = lowS (c.1 : Int) := by decide +kernel
theorem hexD_hexV (c : Int) (h0 : 0 ≤ c) (h1 : c < 256) (h : 0 ≤ hexV c) : hexD (hexV c).toNat = lowS c := by
  have hc : ((c.toNat : Nat) : Int) = c := by omega
  have := hexD_hexV_all ⟨c.toNat, by omega⟩
  simp only [hc] at this
  exact this h

theorem unhex_hexBytes : ∀ xs : List Int, Bytes xs → unhex (hexBytes xs) = xs
  | [], _ => rfl
  | z :: r, h => by
    have hz := h z (by simp)
    have h1 := (hexV_hexD (z / 16).toNat (by omega)).1
    have h2 := (hexV_hexD (z % 16).toNat (by omega)).1
    rw [hexBytes, unhex, unhex_hexBytes r (fun c hc => h c (by simp [hc])), h1, h2]
    congr 1
    omega
theorem hexBytes_digits : ∀ xs : List Int, Bytes xs → ∀ c ∈ hexBytes xs, 0 ≤ hexV c ∧ 0 ≤ c ∧ c < 256
  | [], _, c, hc => by simp [hexBytes] at hc
  | z :: r, h, c, hc => by
    have hz := h z (by simp)
    have h1 := hexV_hexD (z / 16).toNat (by omega)
    have h2 := hexV_hexD (z % 16).toNat (by omega)
    simp only [hexBytes, List.mem_cons] at hc
    rcases hc with rfl | rfl | hc
    · exact ⟨by omega, h1.2.1, h1.2.2⟩
    · exact ⟨by omega, h2.2.1, h2.2.2⟩
    · exact hexBytes_digits r (fun c hc => h c (by simp [hc])) c hc
theorem hexBytes_unhex : ∀ (m : Nat) (l : List Int), l.length = 2 * m → Bytes l → (∀ c ∈ l, 0 ≤ hexV c) → hexBytes (unhex l) = l.map lowS ∧ Bytes (unhex l)
  | 0, l, h, _, _ => by
    obtain rfl : l = [] := List.eq_nil_of_length_eq_zero (by omega)
    exact ⟨rfl, fun c hc => by simp [unhex] at hc⟩
  | m + 1, l, h, hb, hd => by
    match l, h, hb, hd with
    | a :: b :: r, h, hb, hd =>
      have ih := hexBytes_unhex m r (by simp at h; omega) (fun c hc => hb c (by simp [hc])) (fun c hc => hd c (by simp [hc]))
      have a0 := hb a (by simp)
      have b0 := hb b (by simp)
      have av := hd a (by simp)
      have bv := hd b (by simp)
      have ar := hexV_range a
      have br := hexV_range b
      have e1 : (hexV a * 16 + hexV b) / 16 = hexV a := by omega
      have e2 : (hexV a * 16 + hexV b) % 16 = hexV b := by omega
      refine ⟨?_, ?_⟩
      · rw [unhex, hexBytes, ih.1, e1, e2, hexD_hexV a a0.1 a0.2 av, hexD_hexV b b0.1 b0.2 bv]
        rfl
      · intro c hc
        rw [unhex, List.mem_cons] at hc
        rcases hc with rfl | hc
        · omega
        · exact ih.2 c hc
    | [a], h, _, _ => simp at h; omega
    | [], h, _, _ => simp at h

/-! ### Base64, there and back -/
theorem letV_of (i : Nat) (h : i < 64) : letV (letD i) = (i : Int) ∧ letD i ≠ 61 ∧ 0 ≤ letD i ∧ letD i < 256 := letV_letD ⟨i, h⟩
theorem letD_of (c : Int) (h0 : 0 ≤ c) (h1 : c < 256) (h : 0 ≤ letV c) : letD (letV c).toNat = c := by
  have hc : ((c.toNat : Nat) : Int) = c := by omega
  have := letD_letV ⟨c.toNat, by omega⟩
  simp only [hc] at this
  exact this h
theorem mv_letD (i : Nat) (h : i < 64) : mv (letD i) = (i : Int) := by
  unfold mv
  rw [(letV_of i h).1]
  omega
theorem mv_61 : mv 61 = 0 := by decide
theorem acc4 (a b c d : Int) : acc [a, b, c, d] 4 = mv a * 262144 + mv b * 4096 + mv c * 64 + mv d := by
  simp [acc]
  omega

def unb64 : List Int → List Int
  | a :: b :: c :: d :: r => quadB [a, b, c, d] ++ unb64 r
  | _ => []
theorem unq_cons (a b c d : Int) (r : List Int) : ∀ j, unq (a :: b :: c :: d :: r) (j + 1) = quadB [a, b, c, d] ++ unq r j
  | 0 => by simp [unq]
  | j + 1 => by
    rw [unq, unq_cons a b c d r j, unq, List.append_assoc, show 4 * (j + 1) = 4 * j + 1 + 1 + 1 + 1 by omega]
    simp
theorem unq_eq : ∀ (m : Nat) (l : List Int), l.length = 4 * m → unq l m = unb64 l
  | 0, l, h => by
    obtain rfl : l = [] := List.eq_nil_of_length_eq_zero (by omega)
    rfl
  | m + 1, l, h => by
    match l, h with
    | a :: b :: c :: d :: r, h => rw [unq_cons, unb64, unq_eq m r (by simp at h; omega)]
    | [a, b, c], h => simp at h; omega
    | [a, b], h => simp at h; omega
    | [a], h => simp at h; omega
    | [], h => simp at h

theorem quad_grpv (v : Int) (h0 : 0 ≤ v) (h1 : v < 16777216) : quadB (grp v) = [v / 65536 % 256, v / 256 % 256, v % 256] := by
  have e1 := mv_letD (v / 262144).toNat (by omega)
  have e2 := mv_letD (v / 4096 % 64).toNat (by omega)
  have e3 := mv_letD (v / 64 % 64).toNat (by omega)
  have e4 := mv_letD (v % 64).toNat (by omega)
  have n3 := (letV_of (v / 64 % 64).toNat (by omega)).2.1
  have n4 := (letV_of (v % 64).toNat (by omega)).2.1
  have hv : (((v / 262144).toNat : Nat) : Int) * 262144 + (((v / 4096 % 64).toNat : Nat) : Int) * 4096 + (((v / 64 % 64).toNat : Nat) : Int) * 64 + (((v % 64).toNat : Nat) : Int) = v := by omega
  simp only [grp, quadB, acc4, e1, e2, e3, e4, List.getD_cons_succ, List.getD_cons_zero, if_neg n3, if_neg n4, hv]
  rfl
theorem quad_grp (x y z : Int) (hx : 0 ≤ x ∧ x < 256) (hy : 0 ≤ y ∧ y < 256) (hz : 0 ≤ z ∧ z < 256) : quadB (grp (x * 65536 + y * 256 + z)) = [x, y, z] := by
  rw [quad_grpv _ (by omega) (by omega)]
  have a1 : (x * 65536 + y * 256 + z) / 65536 % 256 = x := by omega
  have a2 : (x * 65536 + y * 256 + z) / 256 % 256 = y := by omega
  have a3 : (x * 65536 + y * 256 + z) % 256 = z := by omega
  rw [a1, a2, a3]
theorem quad_two (x y : Int) (hx : 0 ≤ x ∧ x < 256) (hy : 0 ≤ y ∧ y < 256) : quadB [letD (x / 4).toNat, letD (x % 4 * 16 + y / 16).toNat, letD (y % 16 * 4).toNat, 61] = [x, y] := by
  have e1 := mv_letD (x / 4).toNat (by omega)
  have e2 := mv_letD (x % 4 * 16 + y / 16).toNat (by omega)
  have e3 := mv_letD (y % 16 * 4).toNat (by omega)
  have n3 := (letV_of (y % 16 * 4).toNat (by omega)).2.1
  simp only [quadB, acc4, e1, e2, e3, mv_61, List.getD_cons_succ, List.getD_cons_zero, if_neg n3]
  simp
  omega
theorem quad_one (x : Int) (hx : 0 ≤ x ∧ x < 256) : quadB [letD (x / 4).toNat, letD (x % 4 * 16).toNat, 61, 61] = [x] := by
  have e1 := mv_letD (x / 4).toNat (by omega)
  have e2 := mv_letD (x % 4 * 16).toNat (by omega)
  simp only [quadB, acc4, e1, e2, mv_61, List.getD_cons_succ, List.getD_cons_zero]
  simp
  omega
theorem unb64_b64 : ∀ (n : Nat) (xs : List Int), xs.length ≤ n → Bytes xs → unb64 (b64 xs) = xs
  | n, [], _, _ => rfl
  | n, [a], _, h => by rw [b64, unb64, quad_one a (h a (by simp))]; rfl
  | n, [a, b], _, h => by rw [b64, unb64, quad_two a b (h a (by simp)) (h b (by simp))]; rfl
  | 0, a :: b :: c :: r, hl, _ => by simp at hl
  | n + 1, a :: b :: c :: r, hl, h => by
    rw [b64]
    show unb64 (grp (a * 65536 + b * 256 + c) ++ b64 r) = _
    have hg := quad_grp a b c (h a (by simp)) (h b (by simp)) (h c (by simp))
    unfold grp at hg ⊢
    rw [List.cons_append, List.cons_append, List.cons_append, List.cons_append, List.nil_append, unb64, hg, unb64_b64 n r (by simp at hl; omega) (fun q hq => h q (by simp [hq]))]
    rfl
theorem b64_length (n : Nat) : ∀ xs : List Int, xs.length ≤ n → (b64 xs).length = (xs.length + 2) / 3 * 4 := by
  induction n with
  | zero => intro xs h; obtain rfl : xs = [] := List.eq_nil_of_length_eq_zero (by omega); rfl
  | succ n ih =>
    intro xs h
    match xs, h with
    | [], _ => rfl
    | [a], _ => simp [b64]
    | [a, b], _ => simp [b64]
    | a :: b :: c :: r, h =>
      rw [b64, List.length_append, ih r (by simp at h; omega)]
      simp [grp]
      omega
end Go.Proofs.Ytioggmjocelolaa
