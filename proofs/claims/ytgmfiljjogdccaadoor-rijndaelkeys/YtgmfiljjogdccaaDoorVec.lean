import Derived.Test.YtgmfiljjogdccaaDoorSch0
import Derived.Test.YtgmfiljjogdccaaDoorItd
namespace Go.Proofs.YtgmfiljjogdccaaDoor
open Go.RowKit
set_option linter.unusedVariables false
/-- A schedule that is written down is that of the key, if each of its words follows from those ahead of it. -/
theorem goW_at {nk : Nat} {K0 F : Nat → Nat} (h0 : ∀ j, j < nk → K0 j = F j) (hn : 0 < nk) {M : Nat} (hs : ∀ m, m < M → nextW nk (nk + m) F = F (nk + m)) : ∀ m, m ≤ M → ∀ j, j < nk + m → goW nk K0 m j = F j := by
  intro m
  induction m with
  | zero => exact fun _ j hj => h0 j (by omega)
  | succ m ih =>
    intro hm j hj
    have ih' := ih (by omega)
    unfold goW upd
    by_cases hjm : j = nk + m
    · rw [if_pos hjm, hjm, ← hs m (by omega)]
      unfold nextW
      rw [ih' (nk + m - nk) (by omega), ih' (nk + m - 1) (by omega)]
    · rw [if_neg hjm]
      exact ih' j (by omega)
theorem addK_congr {K F : Nat → Nat} {r : Nat} (h : ∀ j, j < 4 * (r + 1) → K j = F j) (s : W4) : addK K r s = addK F r s := by
  unfold addK
  rw [h (4 * r) (by omega), h (4 * r + 1) (by omega), h (4 * r + 2) (by omega), h (4 * r + 3) (by omega)]
theorem iterE_congr {K F : Nat → Nat} (s : W4) (r : Nat) (h : ∀ j, j < 4 * (r + 1) → K j = F j) : iterE K r s = iterE F r s := by
  induction r with
  | zero => rw [iterE_zero, iterE_zero]
  | succ r ih => rw [iterE_succ, iterE_succ, ih (fun j hj => h j (by omega)), addK_congr h]
theorem encW_congr {K F : Nat → Nat} {nr : Nat} (h1 : 1 ≤ nr) (h : ∀ j, j < 4 * (nr + 1) → K j = F j) (s : W4) : encW nr K s = encW nr F s := by
  unfold encW
  rw [addK_congr (r := 0) (fun j hj => h j (by omega)), iterE_congr _ (nr - 1) (fun j hj => h j (by omega)), addK_congr h]
/-- A list of words out of one number. -/
def wordT (n j : Nat) : Nat := Nat.mod (Nat.shiftRight n (Nat.mul 32 j)) 4294967296
def W16 : Nat := 2135183411306450747924455776101631667317021435197242029516822643292385793394556178976294297568553652486272567026286629297947075971482648749057793986447198710817864160694422276215993401979832658662751292340275810678820517951599512784483112403130681781938724593781911744968406893768034920525865760486124286933107695541170726264261124972481373622074072336675592582977578699619304832075701685807426322995989797651311590042042883
def key16 (i : Nat) : Nat := Nat.mod (Nat.shiftRight 20011376718272490338853433276725592320 (Nat.mul 8 i)) 256
theorem W16_key : ∀ j : Fin 4, keyW key16 16 j.1 = wordT W16 j.1 := by decide +kernel
theorem W16_next : ∀ m : Fin 40, nextW 4 (4 + m.1) (wordT W16) = wordT W16 (4 + m.1) := by decide +kernel
theorem sched16 : ∀ j, j < 44 → schedK 4 key16 j = wordT W16 j := fun j hj =>
  goW_at (fun j hj => W16_key ⟨j, hj⟩) (by decide) (M := 40) (fun m hm => W16_next ⟨m, hm⟩) 40 (Nat.le_refl _) j (by omega)
def W24 : Nat := 729328934795255555490277851006730375856188269561163575406021219476903401627521025716984479554611303630301180246252225068864986183027940516296883972211032065994115010788029758665927779365528380332424018344531848639015454836505358409328253008345992468745886702614064518615513767017199666280190800970210691493213224184692499272855399702965942998223869555410042228926578153626562128278023057192759156250679943918747124702184545746189071564077277751059192648854853476604783356490128425658539062275606643203
def key24 (i : Nat) : Nat := Nat.mod (Nat.shiftRight 566073426779046459040877649791461066728553822781039575296 (Nat.mul 8 i)) 256
theorem W24_key : ∀ j : Fin 6, keyW key24 24 j.1 = wordT W24 j.1 := by decide +kernel
theorem W24_next : ∀ m : Fin 46, nextW 6 (6 + m.1) (wordT W24) = wordT W24 (6 + m.1) := by decide +kernel
theorem sched24 : ∀ j, j < 52 → schedK 6 key24 j = wordT W24 j := fun j hj =>
  goW_at (fun j hj => W24_key ⟨j, hj⟩) (by decide) (M := 46) (fun m hm => W24_next ⟨m, hm⟩) 46 (Nat.le_refl _) j (by omega)
def W32 : Nat := 40588901833789785159217277571222803699713122000033715455120290826434294749228737489858619682393124213434237382448684798201429199859042181465691985922769736547614597994086458994488101378311087064657394489849946737440617656986741278393373241810245004935003052300679918820526303281682444060725392835778184555668714201509861331811386879129221345592586309791718563399891105740675620352127312404174940521730267585763785796873970309904313455019118516937793663314812563166091624445326649780233741323562049636414094104325048685980178953483258441415514281378694392646619490463384516755971
def key32 (i : Nat) : Nat := Nat.mod (Nat.shiftRight 14074904626401341155369551180448584754667373453244490859944217516317499064576 (Nat.mul 8 i)) 256
theorem W32_key : ∀ j : Fin 8, keyW key32 32 j.1 = wordT W32 j.1 := by decide +kernel
theorem W32_next : ∀ m : Fin 52, nextW 8 (8 + m.1) (wordT W32) = wordT W32 (8 + m.1) := by decide +kernel
theorem sched32 : ∀ j, j < 60 → schedK 8 key32 j = wordT W32 j := fun j hj =>
  goW_at (fun j hj => W32_key ⟨j, hj⟩) (by decide) (M := 52) (fun m hm => W32_next ⟨m, hm⟩) 52 (Nat.le_refl _) j (by omega)
def W3 : Nat := 5046468880051722124165138377573495752352814026446080871608016796122220429082579000232600314235784662476030427341372658306567627449033442801373289480869096360226894485099629028185229497190130648053266891598727969131253797210077642090429746202649527074628884158587131746570320957489095398094032979503431341887810050553743204897050105276776682016117297116796442808330014977125357325912016584471395215433345801901684693189661974
def key3 (i : Nat) : Nat := Nat.mod (Nat.shiftRight 80168070412877140649889332058278690347 (Nat.mul 8 i)) 256
theorem W3_key : ∀ j : Fin 4, keyW key3 16 j.1 = wordT W3 j.1 := by decide +kernel
theorem W3_next : ∀ m : Fin 40, nextW 4 (4 + m.1) (wordT W3) = wordT W3 (4 + m.1) := by decide +kernel
theorem sched3 : ∀ j, j < 44 → schedK 4 key3 j = wordT W3 j := fun j hj =>
  goW_at (fun j hj => W3_key ⟨j, hj⟩) (by decide) (M := 40) (fun m hm => W3_next ⟨m, hm⟩) 40 (Nat.le_refl _) j (by omega)
theorem vec16 : encW 10 (wordT W16) ⟨1122867, 1146447479, 2291772091, 3437096703⟩ = ⟨1774510296, 1786446896, 3637360512, 1890895194⟩ := by
  have h : (encW 10 (wordT W16) ⟨1122867, 1146447479, 2291772091, 3437096703⟩).a = 1774510296 ∧ (encW 10 (wordT W16) ⟨1122867, 1146447479, 2291772091, 3437096703⟩).b = 1786446896 ∧ (encW 10 (wordT W16) ⟨1122867, 1146447479, 2291772091, 3437096703⟩).c = 3637360512 ∧ (encW 10 (wordT W16) ⟨1122867, 1146447479, 2291772091, 3437096703⟩).d = 1890895194 := by decide +kernel
  obtain ⟨a, b, c, d⟩ := h
  generalize encW 10 (wordT W16) ⟨1122867, 1146447479, 2291772091, 3437096703⟩ = x at a b c d
  cases x
  simp only at a b c d
  rw [a, b, c, d]
theorem vec24 : encW 12 (wordT W24) ⟨1122867, 1146447479, 2291772091, 3437096703⟩ = ⟨3718872228, 2253184992, 1856991392, 3960304017⟩ := by
  have h : (encW 12 (wordT W24) ⟨1122867, 1146447479, 2291772091, 3437096703⟩).a = 3718872228 ∧ (encW 12 (wordT W24) ⟨1122867, 1146447479, 2291772091, 3437096703⟩).b = 2253184992 ∧ (encW 12 (wordT W24) ⟨1122867, 1146447479, 2291772091, 3437096703⟩).c = 1856991392 ∧ (encW 12 (wordT W24) ⟨1122867, 1146447479, 2291772091, 3437096703⟩).d = 3960304017 := by decide +kernel
  obtain ⟨a, b, c, d⟩ := h
  generalize encW 12 (wordT W24) ⟨1122867, 1146447479, 2291772091, 3437096703⟩ = x at a b c d
  cases x
  simp only at a b c d
  rw [a, b, c, d]
theorem vec32 : encW 14 (wordT W32) ⟨1122867, 1146447479, 2291772091, 3437096703⟩ = ⟨2393028554, 1365722559, 3942402448, 1263100041⟩ := by
  have h : (encW 14 (wordT W32) ⟨1122867, 1146447479, 2291772091, 3437096703⟩).a = 2393028554 ∧ (encW 14 (wordT W32) ⟨1122867, 1146447479, 2291772091, 3437096703⟩).b = 1365722559 ∧ (encW 14 (wordT W32) ⟨1122867, 1146447479, 2291772091, 3437096703⟩).c = 3942402448 ∧ (encW 14 (wordT W32) ⟨1122867, 1146447479, 2291772091, 3437096703⟩).d = 1263100041 := by decide +kernel
  obtain ⟨a, b, c, d⟩ := h
  generalize encW 14 (wordT W32) ⟨1122867, 1146447479, 2291772091, 3437096703⟩ = x at a b c d
  cases x
  simp only at a b c d
  rw [a, b, c, d]
end Go.Proofs.YtgmfiljjogdccaaDoor
