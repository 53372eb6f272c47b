import Derived.Test.YtcnikfikpnnblaaGreatDoorPart16
import Derived.Deep.Cut
import Derived.Test.YtcnikfikpnnblaaGreatDoorPart15
namespace Go.Proofs.YtcnikfikpnnblaaGreatDoor.Dg
open Go.RowKit
set_option linter.unusedVariables false
set_option linter.unusedSimpArgs false

/-- A slice of slices of bytes that lie outside block g. -/
def Parts (w : World) (g : Nat) (v : Value) (yss : List (List Int)) : Prop :=
 ∃ a c, v = .slice a yss.length c ∧ yss.length ≤ c ∧ c ≤ maxLen ∧ (yss = [] ∨ ∃ b p, a = some ⟨b, p, none⟩ ∧ b ≠ g ∧ ∀ i, i < yss.length → ∃ x, w.cell? ⟨b, p + i, none⟩ = some x ∧ View w x (yss.getD i []) ∧ (yss.getD i [] ≠ [] → ∀ b' off l c', x = .slice (some ⟨b', off, none⟩) l c' → b' ≠ g))
theorem sum_step (yss : List (List Int)) (k : Nat) (hk : k < yss.length) : (yss.take (k + 1)).flatten = (yss.take k).flatten ++ yss.getD k [] := by
 rw [List.take_add_one, List.flatten_append]
 simp [List.getD, hk]
theorem sum_le (yss : List (List Int)) (k : Nat) : (yss.take k).flatten.length ≤ yss.flatten.length := by
 have := congrArg List.length (congrArg List.flatten (List.take_append_drop k yss))
 rw [List.flatten_append, List.length_append] at this
 omega

/-- taken.add, where bytes that are none may lie anywhere. -/
theorem add_rep2 (wd : Bool) (g o : Nat) (h : Int) (s0 : Eight) (f0 : Nat) (zs ys : List Int) (v : Value) (w : World) (hblk : blockOf h = bsz wd) (hr : Rep w g o h wd s0 f0 zs) (hv : View w v ys) (hap : ys ≠ [] → Apart v g o 139) (hT : Tables w) (hg : 9 ≤ g) (hfn : f0 + zs.length + ys.length ≤ 4611686018427387904) :
  Calls Tryz.prog 264 #[.pointer (some ⟨g, o, none⟩), v] w fun e w' => e = .returned (.tuple #[]) ∧ Touch w w' g o 139 ∧ Rep w' g o h wd s0 f0 (zs ++ ys) := by
 by_cases hys : ys = []
 ·subst hys
  obtain ⟨half, hk, hh, hf⟩ := hr
  obtain ⟨a, cap, rfl, h1, h2, h3, h4⟩ := hv
  refine (add_empty_any wd g o h _ half _ cap a w hblk hk (by simpa using hfn) (by unfold maxLen at h2; omega) h3).mono ?_
  rintro e w' ⟨rfl, ht, hk'⟩
  rw [List.append_nil]
  exact ⟨rfl, ht, half, hk', hh, hf⟩
 ·exact add_rep wd g o h s0 f0 zs ys v w hblk hr hv (hap hys) hT hg hfn

set_option maxHeartbeats 1600000 in
set_option maxRecDepth 100000 in
theorem write_none (g o : Nat) (fed left c : Nat) (a : Option Addr) (most : Int) (w : World) (c1 : w.cell? ⟨g, o + 138, none⟩ = some (.int .u64 fed)) (hm : most - (fed : Int) = (left : Int)) (hmm : fed + left ≤ 4611686018427387904) (hc : c ≤ 9223372036854775807) :
  Calls Tryz.prog 237 #[.pointer (some ⟨g, o, none⟩), .int .u64 most, .slice a 0 c] w fun e w' => e = .returned (.int .i64 0) ∧ w' = w := by
 have hl2 : (left : Int) < 18446744073709551616 := by omega
 go_enter Tryz.func237, Tryz.ntmps237
 go_wp2
 go_loop [20, 7] (fun i l => i = .int .i64 0 ∧ l = .int .u64 left) (fun _ _ => 0)
 case atStart => exact ⟨rfl, rfl⟩
 case round =>
  obtain ⟨rfl, rfl⟩ := hrel
  go_wp2
  go_loop [37] (fun i => i = .int .i64 0) (fun _ => 0)
  case atStart => exact rfl
  case round =>
   obtain rfl := hrel
   go_wp2
   go_ret
   exact ⟨rfl, rfl⟩

set_option maxHeartbeats 3200000 in
set_option maxRecDepth 100000 in
theorem write_some (wd : Bool) (g o : Nat) (h : Int) (s0 : Eight) (f0 n c b p : Nat) (zs : List Int) (yss : List (List Int)) (fed left : Nat) (most : Int) (w : World) (hblk : blockOf h = bsz wd) (hr : Hid (Rep w g o h wd s0 f0 zs)) (hT : Hid (Tables w)) (hg : 9 ≤ g)
  (c1 : w.cell? ⟨g, o + 138, none⟩ = some (.int .u64 fed)) (hfed : Hid (fed = f0 + zs.length)) (hm : most - (fed : Int) = (left : Int)) (hmm : fed + left ≤ 4611686018427387904) (hn : Hid (yss.length = n)) (hnc : n ≤ c) (hc : c ≤ 9223372036854775807) (hbg : Hid (b ≠ g))
  (hx : Hid (∀ i, i < n → ∃ x, w.cell? ⟨b, p + i, none⟩ = some x ∧ View w x (yss.getD i []) ∧ (yss.getD i [] ≠ [] → ∀ b' off l c', x = .slice (some ⟨b', off, none⟩) l c' → b' ≠ g))) (hs : Hid (yss.flatten.length ≤ left)) :
  Calls Tryz.prog 237 #[.pointer (some ⟨g, o, none⟩), .int .u64 most, .slice (some ⟨b, p, none⟩) n c] w fun e w' => e = .returned (.int .i64 0) ∧ Touch w w' g o 139 ∧ Rep w' g o h wd s0 f0 (zs ++ yss.flatten) := by
 have hl2 : (left : Int) < 18446744073709551616 := by omega
 go_enter Tryz.func237, Tryz.ntmps237
 go_wp2
 go_loop [20, 7] (fun i l => ∃ k r : Nat, k ≤ n ∧ i = .int .i64 k ∧ l = .int .u64 r ∧ Hid (r + (yss.take k).flatten.length = left)) (fun i _ => n - (intOf i).toNat)
 case atStart => exact ⟨0, left, by omega, rfl, rfl, (by show _ = _; simp)⟩
 case round =>
  obtain ⟨k, r, hk, rfl, rfl, HR⟩ := hrel
  by_cases hlt : k < n
  ·obtain ⟨x, hcx, hvx, hax⟩ := hx.out k hlt
   obtain ⟨a, cap, rfl, h1, h2, h3, h4⟩ := hvx
   have hst := sum_step yss k (by rw [hn.out]; exact hlt)
   have hle := sum_le yss (k + 1)
   obtain ⟨l, hl⟩ : ∃ l, (yss.getD k []).length = l := ⟨_, rfl⟩
   rw [hl] at hcx h1
   obtain ⟨r2, hr2⟩ : ∃ r2, r = r2 + l := ⟨r - l, by
    have h5 := HR.out
    have h6 := hs.out
    rw [hst, List.length_append, hl] at hle
    omega⟩
   have HR2 : Hid (r2 + (yss.take (k + 1)).flatten.length = left) := by
    show _ = _
    rw [hst, List.length_append, hl]
    have := HR.out
    omega
   have hrl : (r : Int) < 18446744073709551616 := by have := HR.out; omega
   have e1 : (r : Int) - (l : Int) = (r2 : Int) := by omega
   have e2 : (l : Int) ≤ (r : Int) := by omega
   have e3 : (r2 : Int) < 18446744073709551616 := by omega
   have e4 : (l : Int) < 18446744073709551616 := by omega
   unfold maxLen at h2
   have e5 : (k : Int) < n := by omega
   clear hst hle hr2 HR h3 h4 hl hax
   go_upto_region 4 with fail
   go_upto_region 5 with fail
   have e2' : ¬ ((r : Int) < (l : Int)) := by omega
   have HE1 : Hid ((r : Int) - (l : Int) = (r2 : Int)) := e1
   have hkb : (k : Int) < 9223372036854775807 := by omega
   clear hc hmm hl2 c1 hcx hnc hm hg h1 h2 hblk e2 e1
   go_wp2
   go_round
   case rel => exact ⟨k + 1, r2, by omega, by go_num, by rw [HE1.out], HR2⟩
   case measure => simp [intOf]; omega
  ·obtain rfl : k = n := by omega
   clear hlt HR
   go_wp2
   go_loopw [37] (fun i wr => ∃ q : Nat, q ≤ k ∧ i = .int .i64 q ∧ Hid (Touch w wr g o 139) ∧ Hid (Rep wr g o h wd s0 f0 (zs ++ (yss.take q).flatten))) (fun i _ => k - (intOf i).toNat)
   case atStart => exact ⟨0, by omega, rfl, Touch.refl _ _ _ _, (by show Rep _ _ _ _ _ _ _ _; simpa using hr.out)⟩
   case round =>
    obtain ⟨q, hq, rfl, HT, HP⟩ := hrel
    by_cases hlt : q < k
    ·obtain ⟨x, hcx, hvx, hax⟩ := hx.out q hlt
     have hst := sum_step yss q (by rw [hn.out]; exact hlt)
     have hle := sum_le yss (q + 1)
     have hbw : b < w.heap.size := lt_of_cell hcx
     have hcx' : wr.cell? ⟨b, p + q, none⟩ = some x := by rw [HT.out.far (p := ⟨b, p + q, none⟩) hbw hbg.out]; exact hcx
     have hap : yss.getD q [] ≠ [] → Apart x g o 139 := fun h0 b' off l c' e => .inl (hax h0 b' off l c' e)
     have hvw : View wr x (yss.getD q []) := by
      by_cases h0 : yss.getD q [] = []
      ·obtain ⟨a, cap, e, h1, h2, h3, h4⟩ := hvx
       exact ⟨a, cap, e, h1, h2, h3, .inl h0⟩
      ·exact HT.out.view hvx (hap h0)
     have HA : Hid (Calls Tryz.prog 264 #[.pointer (some ⟨g, o, none⟩), x] wr fun e w' => e = .returned (.tuple #[]) ∧ Touch wr w' g o 139 ∧ Rep w' g o h wd s0 f0 (zs ++ (yss.take (q + 1)).flatten)) := by
      have := add_rep2 wd g o h s0 f0 (zs ++ (yss.take q).flatten) (yss.getD q []) x wr hblk HP.out hvw hap (hT.out.touch HT.out hg) hg (by
       rw [hst] at hle
       have h5 := hfed.out
       have h6 := hs.out
       simp only [List.length_append] at hle ⊢
       omega)
      rw [List.append_assoc, ← hst] at this
      exact this
     have e5 : (q : Int) < k := by omega
     clear hvx hst hle hcx hap hax hvw
     go_wp2_with (first | (go_at_call 264; refine HA.out.mono ?_; rintro e3 w3 ⟨rfl, ht3, hp3⟩) | fail)
     have HT3 : Hid (Touch w w3 g o 139) := HT.out.trans ht3
     have HP3 : Hid (Rep w3 g o h wd s0 f0 (zs ++ (yss.take (q + 1)).flatten)) := hp3
     clear ht3 hp3 HA HT HP
     go_wp2
     go_roundw
     case rel => exact ⟨q + 1, by omega, by go_num, HT3, HP3⟩
     case measure => simp [intOf]; omega
    ·obtain rfl : q = k := by omega
     go_wp2
     go_ret
     refine ⟨rfl, HT, ?_⟩
     have := HP.out
     rw [List.take_of_length_le (by rw [hn.out]; exact Nat.le_refl _)] at this
     exact this

/-- taken.write of what fits. -/
theorem write_rep (wd : Bool) (g o : Nat) (h : Int) (s0 : Eight) (f0 : Nat) (zs : List Int) (yss : List (List Int)) (v : Value) (left : Nat) (most : Int) (w : World) (hblk : blockOf h = bsz wd) (hr : Rep w g o h wd s0 f0 zs) (hp : Parts w g v yss) (hT : Tables w) (hg : 9 ≤ g)
  (hm : most = ((f0 + zs.length + left : Nat) : Int)) (hmm : f0 + zs.length + left ≤ 4611686018427387904) (hs : yss.flatten.length ≤ left) :
  Calls Tryz.prog 237 #[.pointer (some ⟨g, o, none⟩), .int .u64 most, v] w fun e w' => e = .returned (.int .i64 0) ∧ Touch w w' g o 139 ∧ Rep w' g o h wd s0 f0 (zs ++ yss.flatten) := by
 obtain ⟨a, c, rfl, hn, hc, hx⟩ := hp
 unfold maxLen at hc
 have hc1 : w.cell? ⟨g, o + 138, none⟩ = some (.int .u64 ((f0 + zs.length : Nat) : Int)) := by obtain ⟨_, hk, _⟩ := hr; exact hk.fed
 rcases hx with rfl | ⟨b, p, rfl, hb, hx⟩
 ·refine (write_none g o (f0 + zs.length) left c a most w hc1 (by omega) hmm hc).mono ?_
  rintro e w' ⟨rfl, rfl⟩
  exact ⟨rfl, Touch.refl _ _ _ _, by simpa using hr⟩
 ·exact write_some wd g o h s0 f0 yss.length c b p zs yss (f0 + zs.length) left most w hblk hr hT hg hc1 rfl (by omega) hmm rfl hn hc hb hx hs
end Go.Proofs.YtcnikfikpnnblaaGreatDoor.Dg
namespace Go.Proofs.YtcnikfikpnnblaaGreatDoor
open Go.RowKit
set_option linter.unusedVariables false
/-- A schedule that is written down is that of the key, if each of its words follows from those ahead of it. -/
theorem goW_at {nk : Nat} {K0 F : Nat → Nat} (h0 : ∀ j, j < nk → K0 j = F j) (hn : 0 < nk) {M : Nat} (hs : ∀ m, m < M → nextW nk (nk + m) F = F (nk + m)) : ∀ m, m ≤ M → ∀ j, j < nk + m → goW nk K0 m j = F j := by
 intro m
 induction m with
 | zero => exact fun _ j hj => h0 j (by omega)
 | succ m ih =>
  intro hm j hj
  have ih' := ih (by omega)
  unfold goW upd
  by_cases hjm : j = nk + m
  ·rw [if_pos hjm, hjm, ← hs m (by omega)]
   unfold nextW
   rw [ih' (nk + m - nk) (by omega), ih' (nk + m - 1) (by omega)]
  ·rw [if_neg hjm]
   exact ih' j (by omega)
theorem addK_congr {K F : Nat → Nat} {r : Nat} (h : ∀ j, j < 4 * (r + 1) → K j = F j) (s : W4) : addK K r s = addK F r s := by
 unfold addK
 rw [h (4 * r) (by omega), h (4 * r + 1) (by omega), h (4 * r + 2) (by omega), h (4 * r + 3) (by omega)]
theorem iterE_congr {K F : Nat → Nat} (s : W4) (r : Nat) (h : ∀ j, j < 4 * (r + 1) → K j = F j) : iterE K r s = iterE F r s := by
 induction r with
 | zero => rw [iterE_zero, iterE_zero]
 | succ r ih => rw [iterE_succ, iterE_succ, ih (fun j hj => h j (by omega)), addK_congr h]
theorem encW_congr {K F : Nat → Nat} {nr : Nat} (h1 : 1 ≤ nr) (h : ∀ j, j < 4 * (nr + 1) → K j = F j) (s : W4) : encW nr K s = encW nr F s := by
 unfold encW
 rw [addK_congr (r := 0) (fun j hj => h j (by omega)), iterE_congr _ (nr - 1) (fun j hj => h j (by omega)), addK_congr h]
/-- A list of words out of one number. -/
def wordT (n j : Nat) : Nat := Nat.mod (Nat.shiftRight n (Nat.mul 32 j)) 4294967296
def W16 : Nat := 2135183411306450747924455776101631667317021435197242029516822643292385793394556178976294297568553652486272567026286629297947075971482648749057793986447198710817864160694422276215993401979832658662751292340275810678820517951599512784483112403130681781938724593781911744968406893768034920525865760486124286933107695541170726264261124972481373622074072336675592582977578699619304832075701685807426322995989797651311590042042883
def key16 (i : Nat) : Nat := Nat.mod (Nat.shiftRight 20011376718272490338853433276725592320 (Nat.mul 8 i)) 256
theorem W16_key : ∀ j : Fin 4, keyW key16 16 j.1 = wordT W16 j.1 := by decide +kernel
theorem W16_next : ∀ m : Fin 40, nextW 4 (4 + m.1) (wordT W16) = wordT W16 (4 + m.1) := by decide +kernel
theorem sched16 : ∀ j, j < 44 → schedK 4 key16 j = wordT W16 j := fun j hj =>
 goW_at (fun j hj => W16_key ⟨j, hj⟩) (by decide) (M := 40) (fun m hm => W16_next ⟨m, hm⟩) 40 (Nat.le_refl _) j (by omega)
def W24 : Nat := 729328934795255555490277851006730375856188269561163575406021219476903401627521025716984479554611303630301180246252225068864986183027940516296883972211032065994115010788029758665927779365528380332424018344531848639015454836505358409328253008345992468745886702614064518615513767017199666280190800970210691493213224184692499272855399702965942998223869555410042228926578153626562128278023057192759156250679943918747124702184545746189071564077277751059192648854853476604783356490128425658539062275606643203
def key24 (i : Nat) : Nat := Nat.mod (Nat.shiftRight 566073426779046459040877649791461066728553822781039575296 (Nat.mul 8 i)) 256
theorem W24_key : ∀ j : Fin 6, keyW key24 24 j.1 = wordT W24 j.1 := by decide +kernel
theorem W24_next : ∀ m : Fin 46, nextW 6 (6 + m.1) (wordT W24) = wordT W24 (6 + m.1) := by decide +kernel
theorem sched24 : ∀ j, j < 52 → schedK 6 key24 j = wordT W24 j := fun j hj =>
 goW_at (fun j hj => W24_key ⟨j, hj⟩) (by decide) (M := 46) (fun m hm => W24_next ⟨m, hm⟩) 46 (Nat.le_refl _) j (by omega)
def W32 : Nat := 40588901833789785159217277571222803699713122000033715455120290826434294749228737489858619682393124213434237382448684798201429199859042181465691985922769736547614597994086458994488101378311087064657394489849946737440617656986741278393373241810245004935003052300679918820526303281682444060725392835778184555668714201509861331811386879129221345592586309791718563399891105740675620352127312404174940521730267585763785796873970309904313455019118516937793663314812563166091624445326649780233741323562049636414094104325048685980178953483258441415514281378694392646619490463384516755971
def key32 (i : Nat) : Nat := Nat.mod (Nat.shiftRight 14074904626401341155369551180448584754667373453244490859944217516317499064576 (Nat.mul 8 i)) 256
theorem W32_key : ∀ j : Fin 8, keyW key32 32 j.1 = wordT W32 j.1 := by decide +kernel
theorem W32_next : ∀ m : Fin 52, nextW 8 (8 + m.1) (wordT W32) = wordT W32 (8 + m.1) := by decide +kernel
theorem sched32 : ∀ j, j < 60 → schedK 8 key32 j = wordT W32 j := fun j hj =>
 goW_at (fun j hj => W32_key ⟨j, hj⟩) (by decide) (M := 52) (fun m hm => W32_next ⟨m, hm⟩) 52 (Nat.le_refl _) j (by omega)
def W3 : Nat := 5046468880051722124165138377573495752352814026446080871608016796122220429082579000232600314235784662476030427341372658306567627449033442801373289480869096360226894485099629028185229497190130648053266891598727969131253797210077642090429746202649527074628884158587131746570320957489095398094032979503431341887810050553743204897050105276776682016117297116796442808330014977125357325912016584471395215433345801901684693189661974
def key3 (i : Nat) : Nat := Nat.mod (Nat.shiftRight 80168070412877140649889332058278690347 (Nat.mul 8 i)) 256
theorem W3_key : ∀ j : Fin 4, keyW key3 16 j.1 = wordT W3 j.1 := by decide +kernel
theorem W3_next : ∀ m : Fin 40, nextW 4 (4 + m.1) (wordT W3) = wordT W3 (4 + m.1) := by decide +kernel
theorem sched3 : ∀ j, j < 44 → schedK 4 key3 j = wordT W3 j := fun j hj =>
 goW_at (fun j hj => W3_key ⟨j, hj⟩) (by decide) (M := 40) (fun m hm => W3_next ⟨m, hm⟩) 40 (Nat.le_refl _) j (by omega)
theorem vec16 : encW 10 (wordT W16) ⟨1122867, 1146447479, 2291772091, 3437096703⟩ = ⟨1774510296, 1786446896, 3637360512, 1890895194⟩ := by
 have h : (encW 10 (wordT W16) ⟨1122867, 1146447479, 2291772091, 3437096703⟩).a = 1774510296 ∧ (encW 10 (wordT W16) ⟨1122867, 1146447479, 2291772091, 3437096703⟩).b = 1786446896 ∧ (encW 10 (wordT W16) ⟨1122867, 1146447479, 2291772091, 3437096703⟩).c = 3637360512 ∧ (encW 10 (wordT W16) ⟨1122867, 1146447479, 2291772091, 3437096703⟩).d = 1890895194 := by decide +kernel
 obtain ⟨a, b, c, d⟩ := h
 generalize encW 10 (wordT W16) ⟨1122867, 1146447479, 2291772091, 3437096703⟩ = x at a b c d
 cases x
 simp only at a b c d
 rw [a, b, c, d]
theorem vec24 : encW 12 (wordT W24) ⟨1122867, 1146447479, 2291772091, 3437096703⟩ = ⟨3718872228, 2253184992, 1856991392, 3960304017⟩ := by
 have h : (encW 12 (wordT W24) ⟨1122867, 1146447479, 2291772091, 3437096703⟩).a = 3718872228 ∧ (encW 12 (wordT W24) ⟨1122867, 1146447479, 2291772091, 3437096703⟩).b = 2253184992 ∧ (encW 12 (wordT W24) ⟨1122867, 1146447479, 2291772091, 3437096703⟩).c = 1856991392 ∧ (encW 12 (wordT W24) ⟨1122867, 1146447479, 2291772091, 3437096703⟩).d = 3960304017 := by decide +kernel
 obtain ⟨a, b, c, d⟩ := h
 generalize encW 12 (wordT W24) ⟨1122867, 1146447479, 2291772091, 3437096703⟩ = x at a b c d
 cases x
 simp only at a b c d
 rw [a, b, c, d]
theorem vec32 : encW 14 (wordT W32) ⟨1122867, 1146447479, 2291772091, 3437096703⟩ = ⟨2393028554, 1365722559, 3942402448, 1263100041⟩ := by
 have h : (encW 14 (wordT W32) ⟨1122867, 1146447479, 2291772091, 3437096703⟩).a = 2393028554 ∧ (encW 14 (wordT W32) ⟨1122867, 1146447479, 2291772091, 3437096703⟩).b = 1365722559 ∧ (encW 14 (wordT W32) ⟨1122867, 1146447479, 2291772091, 3437096703⟩).c = 3942402448 ∧ (encW 14 (wordT W32) ⟨1122867, 1146447479, 2291772091, 3437096703⟩).d = 1263100041 := by decide +kernel
 obtain ⟨a, b, c, d⟩ := h
 generalize encW 14 (wordT W32) ⟨1122867, 1146447479, 2291772091, 3437096703⟩ = x at a b c d
 cases x
 simp only at a b c d
 rw [a, b, c, d]
end Go.Proofs.YtcnikfikpnnblaaGreatDoor
