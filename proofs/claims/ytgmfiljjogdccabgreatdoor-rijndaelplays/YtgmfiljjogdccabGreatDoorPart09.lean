import Derived.Test.YtgmfiljjogdccabGreatDoorPart07
import Derived.Test.YtgmfiljjogdccabGreatDoorPart06
import Derived.Test.YtgmfiljjogdccabGreatDoorPart00
import Derived.Test.YtgmfiljjogdccabGreatDoorPart04
import Derived.Test.YtgmfiljjogdccabGreatDoorBlk
import Derived.Test.YtgmfiljjogdccabGreatDoorPart03
import Derived.Test.YtgmfiljjogdccabGreatDoorEnc
namespace Go.Proofs.YtgmfiljjogdccabGreatDoor
open Go.RowKit
set_option linter.unusedVariables false
/-- A schedule that is written down is that of the key, if each of its words follows from those ahead of it. -/
theorem goW_at {nk : Nat} {K0 F : Nat → Nat} (h0 : ∀ j, j < nk → K0 j = F j) (hn : 0 < nk) {M : Nat} (hs : ∀ m, m < M → nextW nk (nk + m) F = F (nk + m)) : ∀ m, m ≤ M → ∀ j, j < nk + m → goW nk K0 m j = F j := by
 intro m
 induction m with
 | zero => exact fun _ j hj => h0 j (by omega)
 | succ m ih =>
  intro hm j hj
  have ih' := ih (by omega)
  unfold goW upd
  by_cases hjm : j = nk + m
  ·rw [if_pos hjm, hjm, ← hs m (by omega)]
   unfold nextW
   rw [ih' (nk + m - nk) (by omega), ih' (nk + m - 1) (by omega)]
  ·rw [if_neg hjm]
   exact ih' j (by omega)
theorem addK_congr {K F : Nat → Nat} {r : Nat} (h : ∀ j, j < 4 * (r + 1) → K j = F j) (s : W4) : addK K r s = addK F r s := by
 unfold addK
 rw [h (4 * r) (by omega), h (4 * r + 1) (by omega), h (4 * r + 2) (by omega), h (4 * r + 3) (by omega)]
theorem iterE_congr {K F : Nat → Nat} (s : W4) (r : Nat) (h : ∀ j, j < 4 * (r + 1) → K j = F j) : iterE K r s = iterE F r s := by
 induction r with
 | zero => rw [iterE_zero, iterE_zero]
 | succ r ih => rw [iterE_succ, iterE_succ, ih (fun j hj => h j (by omega)), addK_congr h]
theorem encW_congr {K F : Nat → Nat} {nr : Nat} (h1 : 1 ≤ nr) (h : ∀ j, j < 4 * (nr + 1) → K j = F j) (s : W4) : encW nr K s = encW nr F s := by
 unfold encW
 rw [addK_congr (r := 0) (fun j hj => h j (by omega)), iterE_congr _ (nr - 1) (fun j hj => h j (by omega)), addK_congr h]
/-- A list of words out of one number. -/
def wordT (n j : Nat) : Nat := Nat.mod (Nat.shiftRight n (Nat.mul 32 j)) 4294967296
def W16 : Nat := 2135183411306450747924455776101631667317021435197242029516822643292385793394556178976294297568553652486272567026286629297947075971482648749057793986447198710817864160694422276215993401979832658662751292340275810678820517951599512784483112403130681781938724593781911744968406893768034920525865760486124286933107695541170726264261124972481373622074072336675592582977578699619304832075701685807426322995989797651311590042042883
def key16 (i : Nat) : Nat := Nat.mod (Nat.shiftRight 20011376718272490338853433276725592320 (Nat.mul 8 i)) 256
theorem W16_key : ∀ j : Fin 4, keyW key16 16 j.1 = wordT W16 j.1 := by decide +kernel
theorem W16_next : ∀ m : Fin 40, nextW 4 (4 + m.1) (wordT W16) = wordT W16 (4 + m.1) := by decide +kernel
theorem sched16 : ∀ j, j < 44 → schedK 4 key16 j = wordT W16 j := fun j hj =>
 goW_at (fun j hj => W16_key ⟨j, hj⟩) (by decide) (M := 40) (fun m hm => W16_next ⟨m, hm⟩) 40 (Nat.le_refl _) j (by omega)
def W24 : Nat := 729328934795255555490277851006730375856188269561163575406021219476903401627521025716984479554611303630301180246252225068864986183027940516296883972211032065994115010788029758665927779365528380332424018344531848639015454836505358409328253008345992468745886702614064518615513767017199666280190800970210691493213224184692499272855399702965942998223869555410042228926578153626562128278023057192759156250679943918747124702184545746189071564077277751059192648854853476604783356490128425658539062275606643203
def key24 (i : Nat) : Nat := Nat.mod (Nat.shiftRight 566073426779046459040877649791461066728553822781039575296 (Nat.mul 8 i)) 256
theorem W24_key : ∀ j : Fin 6, keyW key24 24 j.1 = wordT W24 j.1 := by decide +kernel
theorem W24_next : ∀ m : Fin 46, nextW 6 (6 + m.1) (wordT W24) = wordT W24 (6 + m.1) := by decide +kernel
theorem sched24 : ∀ j, j < 52 → schedK 6 key24 j = wordT W24 j := fun j hj =>
 goW_at (fun j hj => W24_key ⟨j, hj⟩) (by decide) (M := 46) (fun m hm => W24_next ⟨m, hm⟩) 46 (Nat.le_refl _) j (by omega)
def W32 : Nat := 40588901833789785159217277571222803699713122000033715455120290826434294749228737489858619682393124213434237382448684798201429199859042181465691985922769736547614597994086458994488101378311087064657394489849946737440617656986741278393373241810245004935003052300679918820526303281682444060725392835778184555668714201509861331811386879129221345592586309791718563399891105740675620352127312404174940521730267585763785796873970309904313455019118516937793663314812563166091624445326649780233741323562049636414094104325048685980178953483258441415514281378694392646619490463384516755971
def key32 (i : Nat) : Nat := Nat.mod (Nat.shiftRight 14074904626401341155369551180448584754667373453244490859944217516317499064576 (Nat.mul 8 i)) 256
theorem W32_key : ∀ j : Fin 8, keyW key32 32 j.1 = wordT W32 j.1 := by decide +kernel
theorem W32_next : ∀ m : Fin 52, nextW 8 (8 + m.1) (wordT W32) = wordT W32 (8 + m.1) := by decide +kernel
theorem sched32 : ∀ j, j < 60 → schedK 8 key32 j = wordT W32 j := fun j hj =>
 goW_at (fun j hj => W32_key ⟨j, hj⟩) (by decide) (M := 52) (fun m hm => W32_next ⟨m, hm⟩) 52 (Nat.le_refl _) j (by omega)
def W3 : Nat := 5046468880051722124165138377573495752352814026446080871608016796122220429082579000232600314235784662476030427341372658306567627449033442801373289480869096360226894485099629028185229497190130648053266891598727969131253797210077642090429746202649527074628884158587131746570320957489095398094032979503431341887810050553743204897050105276776682016117297116796442808330014977125357325912016584471395215433345801901684693189661974
def key3 (i : Nat) : Nat := Nat.mod (Nat.shiftRight 80168070412877140649889332058278690347 (Nat.mul 8 i)) 256
theorem W3_key : ∀ j : Fin 4, keyW key3 16 j.1 = wordT W3 j.1 := by decide +kernel
theorem W3_next : ∀ m : Fin 40, nextW 4 (4 + m.1) (wordT W3) = wordT W3 (4 + m.1) := by decide +kernel
theorem sched3 : ∀ j, j < 44 → schedK 4 key3 j = wordT W3 j := fun j hj =>
 goW_at (fun j hj => W3_key ⟨j, hj⟩) (by decide) (M := 40) (fun m hm => W3_next ⟨m, hm⟩) 40 (Nat.le_refl _) j (by omega)
theorem vec16 : encW 10 (wordT W16) ⟨1122867, 1146447479, 2291772091, 3437096703⟩ = ⟨1774510296, 1786446896, 3637360512, 1890895194⟩ := by
 have h : (encW 10 (wordT W16) ⟨1122867, 1146447479, 2291772091, 3437096703⟩).a = 1774510296 ∧ (encW 10 (wordT W16) ⟨1122867, 1146447479, 2291772091, 3437096703⟩).b = 1786446896 ∧ (encW 10 (wordT W16) ⟨1122867, 1146447479, 2291772091, 3437096703⟩).c = 3637360512 ∧ (encW 10 (wordT W16) ⟨1122867, 1146447479, 2291772091, 3437096703⟩).d = 1890895194 := by decide +kernel
 obtain ⟨a, b, c, d⟩ := h
 generalize encW 10 (wordT W16) ⟨1122867, 1146447479, 2291772091, 3437096703⟩ = x at a b c d
 cases x
 simp only at a b c d
 rw [a, b, c, d]
theorem vec24 : encW 12 (wordT W24) ⟨1122867, 1146447479, 2291772091, 3437096703⟩ = ⟨3718872228, 2253184992, 1856991392, 3960304017⟩ := by
 have h : (encW 12 (wordT W24) ⟨1122867, 1146447479, 2291772091, 3437096703⟩).a = 3718872228 ∧ (encW 12 (wordT W24) ⟨1122867, 1146447479, 2291772091, 3437096703⟩).b = 2253184992 ∧ (encW 12 (wordT W24) ⟨1122867, 1146447479, 2291772091, 3437096703⟩).c = 1856991392 ∧ (encW 12 (wordT W24) ⟨1122867, 1146447479, 2291772091, 3437096703⟩).d = 3960304017 := by decide +kernel
 obtain ⟨a, b, c, d⟩ := h
 generalize encW 12 (wordT W24) ⟨1122867, 1146447479, 2291772091, 3437096703⟩ = x at a b c d
 cases x
 simp only at a b c d
 rw [a, b, c, d]
theorem vec32 : encW 14 (wordT W32) ⟨1122867, 1146447479, 2291772091, 3437096703⟩ = ⟨2393028554, 1365722559, 3942402448, 1263100041⟩ := by
 have h : (encW 14 (wordT W32) ⟨1122867, 1146447479, 2291772091, 3437096703⟩).a = 2393028554 ∧ (encW 14 (wordT W32) ⟨1122867, 1146447479, 2291772091, 3437096703⟩).b = 1365722559 ∧ (encW 14 (wordT W32) ⟨1122867, 1146447479, 2291772091, 3437096703⟩).c = 3942402448 ∧ (encW 14 (wordT W32) ⟨1122867, 1146447479, 2291772091, 3437096703⟩).d = 1263100041 := by decide +kernel
 obtain ⟨a, b, c, d⟩ := h
 generalize encW 14 (wordT W32) ⟨1122867, 1146447479, 2291772091, 3437096703⟩ = x at a b c d
 cases x
 simp only at a b c d
 rw [a, b, c, d]
end Go.Proofs.YtgmfiljjogdccabGreatDoor
namespace Go.Proofs.YtgmfiljjogdccabGreatDoor
open Go.RowKit
set_option linter.unusedVariables false
/-- S and its inverse as cells. -/
def sbL : List Value := (List.range 256).map fun j => .int .u8 (SB j : Nat)
def ubL : List Value := (List.range 256).map fun j => .int .u8 (UB j : Nat)
theorem sbL_at (j : Nat) (h : j < 256) : sbL[j]? = some (.int .u8 (SB j : Nat)) := by simp [sbL, h]
theorem ubL_at (j : Nat) (h : j < 256) : ubL[j]? = some (.int .u8 (UB j : Nat)) := by simp [ubL, h]
theorem sbL_len : sbL.length = 256 := by simp [sbL]
theorem ubL_len : ubL.length = 256 := by simp [ubL]
theorem sbL_one : sbL.toArray.all (·.oneCell') = true := all_oneCell_toArray (fun v hv => by
 simp only [sbL, List.mem_map] at hv
 obtain ⟨j, _, rfl⟩ := hv
 rfl)
theorem ubL_one : ubL.toArray.all (·.oneCell') = true := all_oneCell_toArray (fun v hv => by
 simp only [ubL, List.mem_map] at hv
 obtain ⟨j, _, rfl⟩ := hv
 rfl)
theorem sbL_range {w : World} {b o : Nat} (h : ∀ j, j < 256 → w.cell? ⟨b, o + j, none⟩ = some (.int .u8 (SB j : Nat))) : w.rangeAt b o sbL := fun j v hv => by
 have hj : j < 256 := by have := (List.getElem?_eq_some_iff.1 hv).1; rw [sbL_len] at this; exact this
 rw [sbL_at j hj] at hv
 rw [h j hj]; exact hv
theorem ubL_range {w : World} {b o : Nat} (h : ∀ j, j < 256 → w.cell? ⟨b, o + j, none⟩ = some (.int .u8 (UB j : Nat))) : w.rangeAt b o ubL := fun j v hv => by
 have hj : j < 256 := by have := (List.getElem?_eq_some_iff.1 hv).1; rw [ubL_len] at this; exact this
 rw [ubL_at j hj] at hv
 rw [h j hj]; exact hv
theorem size65 : (Tryz.prog.info? 45).map (·.size) = some 256 := by kernel_rfl
theorem zsize65 : Tryz.zeroCells45.size = 256 := by kernel_rfl
/-- What stands while the boxes are filled. -/
structure BxS (w : World) (b1 b2 b3 : Nat) (u : World) : Prop where
 old : Below w.heap.size w u
 r0 : u.there w.heap.size 0 256
 r1 : u.there b1 0 256
 s : u.there b2 0 256
 t : u.there b3 0 256
theorem BxS.set {w u : World} {b1 b2 b3 : Nat} (h : BxS w b1 b2 b3 u) (b j : Nat) (v : Value) (hb : w.heap.size ≤ b) : BxS w b1 b2 b3 (u.setCell ⟨b, j, none⟩ v) :=
 ⟨h.old.setCell hb _, World.there_setCells h.r0 _ _ [_], World.there_setCells h.r1 _ _ [_], World.there_setCells h.s _ _ [_], World.there_setCells h.t _ _ [_]⟩
theorem bx_start (w : World) (C : Array Value) (hC : C.size = 256) : BxS w (w.heap.size + 1) (w.heap.size + 1 + 1) (w.heap.size + 1 + 1 + 1) ((((w.alloc (.cells C 45)).alloc (.cells C 45)).alloc (.cells C 45)).alloc (.cells C 45)) := by
 have hl : 256 ≤ C.size := by omega
 have s1 : (w.alloc (.cells C 45)).heap.size = w.heap.size + 1 := by simp
 have s2 : ((w.alloc (.cells C 45)).alloc (.cells C 45)).heap.size = w.heap.size + 1 + 1 := by simp
 have s3 : (((w.alloc (.cells C 45)).alloc (.cells C 45)).alloc (.cells C 45)).heap.size = w.heap.size + 1 + 1 + 1 := by simp
 refine ⟨((((Below.refl _ w).alloc (Nat.le_refl _) _).alloc (by omega) _).alloc (by omega) _).alloc (by omega) _, ?_, ?_, ?_, ?_⟩
 ·exact World.there_alloc (World.there_alloc (World.there_alloc (there_new w C 45 256 hl) _) _) _
 ·have := there_new (w.alloc (.cells C 45)) C 45 256 hl
  rw [s1] at this
  exact World.there_alloc (World.there_alloc this _) _
 ·have := there_new ((w.alloc (.cells C 45)).alloc (.cells C 45)) C 45 256 hl
  rw [s2] at this
  exact World.there_alloc this _
 ·have := there_new (((w.alloc (.cells C 45)).alloc (.cells C 45)).alloc (.cells C 45)) C 45 256 hl
  rw [s3] at this
  exact this
theorem there_cell {w : World} {b n : Nat} (h : w.there b 0 n) (j : Nat) (hj : j < n) : ∃ v, w.cell? ⟨b, j, none⟩ = some v := by
 have := (h j hj).1
 rw [Nat.zero_add] at this
 exact Option.isSome_iff_exists.1 this
theorem there_froz {w : World} {b n : Nat} (h : w.there b 0 n) (j : Nat) (hj : j < n) : w.frozen? ⟨b, j, none⟩ = false := by
 have := (h j hj).2
 rw [Nat.zero_add] at this
 exact this
theorem set_same {w : World} {b n j : Nat} (v : Value) (h : w.there b 0 n) (hj : j < n) : (w.setCell ⟨b, j, none⟩ v).cell? ⟨b, j, none⟩ = some v := by
 have := cell_same (i := j) v h hj
 rw [Nat.zero_add] at this
 exact this
theorem results_cell_cell {fn : Func} {p u : Tmp} {ty : TypeId} (h : fn.results = #[.cell p ty, .cell u ty]) (tmps : Array Value) (P : Program) (w : World) :
  (results fn tmps).run P w =
   ((asAddr (tmps.getD p undef)).run P w).andThen fun a w₁ => ((loadVar ty a).run P w₁).andThen fun v w₂ => ((asAddr (tmps.getD u undef)).run P w₂).andThen fun c w₃ => ((loadVar ty c).run P w₃).andThen fun x w₄ => .ok (.tuple #[v, x]) w₄ := by
 simp only [results, h]
 simp [Sem.run_bind, Result.andThen]
theorem ret_cells2 {P : Program} {fn : Func} {p t : Tmp} {ty : TypeId} {d : TypeDesc} {Q : Ending → World → Prop} {tmps : Array Value} {w : World} {b c : Nat} (cs ds : List Value) (h : fn.results = #[.cell p ty, .cell t ty])
  (hp : tmps.getD p undef = .pointer (some ⟨b, 0, none⟩)) (ht : tmps.getD t undef = .pointer (some ⟨c, 0, none⟩)) (hr : w.rangeAt b 0 cs) (hs : w.rangeAt c 0 ds) (hu : P.underlying ty = some d) (hd : d.isRow = true) (hi : (P.info? ty).map (·.size) = some cs.length) (hj : (P.info? ty).map (·.size) = some ds.length)
  (hq : Q (.returned (.tuple #[.agg cs.toArray, .agg ds.toArray])) w) : bodyPost P fn Q .ret ⟨tmps, []⟩ w := by
 refine bodyPost_ret (v := .tuple #[.agg cs.toArray, .agg ds.toArray]) ?_ rfl hq
 rw [results_cell_cell h]
 have hl := run_loadVar_mid (P := P) w b 0 ty cs d hr hu hd hi
 have hm := run_loadVar_mid (P := P) w c 0 ty ds d hs hu hd hj
 simp [hp, ht, asAddr, hl, hm]
set_option maxHeartbeats 1600000 in
set_option maxRecDepth 100000 in
theorem boxes_ok (w : World) : Calls Tryz.prog 9 #[] w fun e w' => e = .returned (.tuple #[.agg sbL.toArray, .agg ubL.toArray]) ∧ Below w.heap.size w w' := by
 have HB := bx_start w Tryz.zeroCells45 zsize65
 go_enter Tryz.func9, Tryz.ntmps9
 go_wp2
 have HI : Hid (BxS w (w.heap.size + 1) (w.heap.size + 1 + 1) (w.heap.size + 1 + 1 + 1) ((((w.alloc (.cells Tryz.zeroCells45 45)).alloc (.cells Tryz.zeroCells45 45)).alloc (.cells Tryz.zeroCells45 45)).alloc (.cells Tryz.zeroCells45 45))) := HB
 clear HB
 generalize ((((w.alloc (.cells Tryz.zeroCells45 45)).alloc (.cells Tryz.zeroCells45 45)).alloc (.cells Tryz.zeroCells45 45)).alloc (.cells Tryz.zeroCells45 45)) = w4 at HI ⊢
 obtain ⟨b3, HB3⟩ : ∃ b, Hid (w.heap.size + 1 + 1 + 1 = b) := ⟨_, rfl⟩
 obtain ⟨b2, HB2⟩ : ∃ b, Hid (w.heap.size + 1 + 1 = b) := ⟨_, rfl⟩
 obtain ⟨b1, HB1⟩ : ∃ b, Hid (w.heap.size + 1 = b) := ⟨_, rfl⟩
 rw [HB3.out, HB2.out, HB1.out] at HI ⊢
 have HBB : Hid (w.heap.size < b1 ∧ b1 < b2 ∧ b2 < b3) := ⟨by have := HB1.out; omega, by have := HB1.out; have := HB2.out; omega, by have := HB2.out; have := HB3.out; omega⟩
 clear HB1 HB2 HB3
 go_loopw [4, 5, 6] (fun b y i wr => ∃ k : Nat, k ≤ 255 ∧ i = .int .i64 k ∧ b = .int .u8 (pwT k : Nat) ∧ y = .int .u8 (ivT k : Nat) ∧ Hid (BxS w b1 b2 b3 wr ∧ ∀ j, j < k → wr.cell? ⟨b2, pwT j, none⟩ = some (.int .u8 (SB (pwT j) : Nat)))) (fun _ _ i _ => 255 - (intOf i).toNat)
 case atStart => exact ⟨0, by omega, rfl, rfl, rfl, HI.out, fun j hj => by omega⟩
 case round =>
  obtain ⟨k, hk, rfl, rfl, rfl, HR⟩ := hrel
  by_cases hlt : k < 255
  ·obtain ⟨e1, e2, e3⟩ := pw_step ⟨k, hlt⟩
   simp only at e1 e2 e3
   obtain ⟨p, HP⟩ : ∃ p, Hid (p = pwT k) := ⟨_, rfl⟩
   obtain ⟨v, HV⟩ : ∃ p, Hid (p = ivT k) := ⟨_, rfl⟩
   have hp : p < 256 := by rw [HP.out]; exact pwT_lt k
   have hv : v < 256 := by rw [HV.out]; exact ivT_lt k
   have K1 : Hid (∀ u, Calls Tryz.prog 40 #[.int .i64 (v : Nat)] u fun e u' => e = .returned (.int .u8 (SB p : Nat)) ∧ u' = u) := fun u => (refBits_ok v hv u).mono fun e u' ⟨z, _, hz, h1, h2⟩ => ⟨by rw [h1, hz.out, HV.out, e3, HP.out], h2⟩
   have K3 : Hid (∀ u, Calls Tryz.prog 10 #[.int .u8 (p : Nat), .int .u8 3] u fun e u' => e = .returned (.int .u8 (pwT (k + 1) : Nat)) ∧ u' = u) := fun u => (refTimes p 3 hp (by decide) u).mono fun e u' ⟨h1, h2⟩ => ⟨by rw [h1, HP.out, e1], h2⟩
   have K4 : Hid (∀ u, Calls Tryz.prog 10 #[.int .u8 (v : Nat), .int .u8 246] u fun e u' => e = .returned (.int .u8 (ivT (k + 1) : Nat)) ∧ u' = u) := fun u => (refTimes v 246 hv (by decide) u).mono fun e u' ⟨h1, h2⟩ => ⟨by rw [h1, HV.out, e2], h2⟩
   clear e1 e2 e3
   obtain ⟨p', HP'⟩ : ∃ p, Hid (p = pwT (k + 1)) := ⟨_, rfl⟩
   obtain ⟨v', HV'⟩ : ∃ p, Hid (p = ivT (k + 1)) := ⟨_, rfl⟩
   rw [← HP'.out] at K3
   rw [← HV'.out] at K4
   rw [← HP.out, ← HV.out]
   obtain ⟨c0, hc0⟩ := there_cell HR.out.1.s p hp
   have hf0 := there_froz HR.out.1.s p hp
   have hpi : ((p : Nat) : Int) < 256 := by omega
   have hvi : IntKind.i64.wrap ((v : Nat) : Int) = ((v : Nat) : Int) := wraps_i64 _ (by omega) (by omega)
   go_wp2_with (first | (go_at_call 40; (refine (K1.out _).mono ?_); (rintro e2 w2 ⟨rfl, hw2⟩; obtain rfl := hw2.symm)) | (go_at_call 10; (refine (K3.out _).mono ?_)))
   rintro e4 w4 ⟨rfl, hw4⟩
   obtain rfl := hw4.symm
   go_wp2_with (first | (go_at_call 10; (refine (K4.out _).mono ?_)))
   rintro e5 w5 ⟨rfl, hw5⟩
   obtain rfl := hw5.symm
   go_wp2
   refine ⟨⟨k + 1, by omega, rfl, by rw [HP'.out], by rw [HV'.out], HR.out.1.set _ _ _ (by have := HBB.out; omega), fun j hj => ?_⟩, ?_⟩
   ·by_cases hjk : p = pwT j
    ·rw [← hjk]; exact set_same _ HR.out.1.s hp
    ·have hj' : j < k := by
      rcases Nat.lt_or_ge j k with h | h
      ·exact h
      ·exact absurd (show p = pwT j by rw [show j = k by omega]; exact HP.out) hjk
     rw [cell_other _ _ _ _ _ hjk]
     exact HR.out.2 j hj'
   ·simp only [intOf]; omega
  ·obtain rfl : k = 255 := by omega
   clear hlt hk
   obtain ⟨p, HP⟩ : ∃ p, Hid (p = pwT 255) := ⟨_, rfl⟩
   obtain ⟨v, HV⟩ : ∃ p, Hid (p = ivT 255) := ⟨_, rfl⟩
   rw [← HP.out, ← HV.out]
   have K1 : Hid (∀ u, Calls Tryz.prog 40 #[.int .i64 0] u fun e u' => e = .returned (.int .u8 (SB 0 : Nat)) ∧ u' = u) := fun u => (refBits_ok 0 (by decide) u).mono fun e u' ⟨z, _, hz, h1, h2⟩ => ⟨by rw [h1, hz.out]; exact congrArg (fun n : Nat => Ending.returned (.int .u8 (n : Nat))) (by decide +kernel : sprN 0 = SB 0), h2⟩
   obtain ⟨z0, HZ0⟩ : ∃ p, Hid (p = SB 0) := ⟨_, rfl⟩
   rw [← HZ0.out] at K1
   obtain ⟨c0, hc0⟩ := there_cell HR.out.1.s 0 (by decide)
   have hf0 := there_froz HR.out.1.s 0 (by decide)
   go_wp2_with (first | (go_at_call 40; (refine (K1.out _).mono ?_); (rintro e2 w2 ⟨rfl, hw2⟩; obtain rfl := hw2.symm)))
   have H2 : Hid (BxS w b1 b2 b3 (wr.setCell ⟨b2, 0, none⟩ (.int .u8 (z0 : Nat))) ∧ ∀ j, j < 256 → (wr.setCell ⟨b2, 0, none⟩ (.int .u8 (z0 : Nat))).cell? ⟨b2, j, none⟩ = some (.int .u8 (SB j : Nat))) := by
    refine ⟨HR.out.1.set _ _ _ (by have := HBB.out; omega), fun j hj => ?_⟩
    by_cases h0 : j = 0
    ·subst h0; rw [HZ0.out]; exact set_same _ HR.out.1.s (by decide)
    ·rw [cell_other _ _ _ _ _ (fun h => h0 h.symm)]
     rcases lg_all ⟨j, hj⟩ with h | ⟨h1, h2⟩
     ·exact absurd h h0
     ·simp only at h1 h2
      have := HR.out.2 _ h1
      rw [h2] at this
      exact this
   clear HR hc0 hf0 K1
   generalize wr.setCell ⟨b2, 0, none⟩ (.int .u8 (z0 : Nat)) = w5 at H2 ⊢
   go_loopw [7] (fun i wr => ∃ k : Nat, k ≤ 256 ∧ i = .int .i64 k ∧ Hid (BxS w b1 b2 b3 wr ∧ (∀ j, j < 256 → wr.cell? ⟨b2, j, none⟩ = some (.int .u8 (SB j : Nat))) ∧ ∀ j, j < k → wr.cell? ⟨b3, SB j, none⟩ = some (.int .u8 (j : Nat)))) (fun i _ => 256 - (intOf i).toNat)
   case atStart => exact ⟨0, by omega, rfl, H2.out.1, H2.out.2, fun j hj => by omega⟩
   case round =>
    obtain ⟨k, hk, rfl, HR⟩ := hrel
    by_cases hlt : k < 256
    ·have ck := HR.out.2.1 k hlt
     obtain ⟨q, HQ⟩ : ∃ q, Hid (q = SB k) := ⟨_, rfl⟩
     rw [← HQ.out] at ck
     have hq : q < 256 := by rw [HQ.out]; exact SB_lt k
     have hqi : ((q : Nat) : Int) < 256 := by omega
     have hki : ((k : Nat) : Int) < 256 := by omega
     obtain ⟨c1, hc1⟩ := there_cell HR.out.1.t q hq
     have hf1 := there_froz HR.out.1.t q hq
     have hm : ((k : Nat) : Int) % 256 = ((k : Nat) : Int) := by omega
     go_wp2
     refine ⟨⟨k + 1, by omega, rfl, HR.out.1.set _ _ _ (by have := HBB.out; omega), fun j hj => ?_, fun j hj => ?_⟩, ?_⟩
     ·rw [World.cell?_setCell_far _ _ _ _ (by have := HBB.out; show b3 ≠ b2; omega)]
      exact HR.out.2.1 j hj
     ·by_cases hjk : j = k
      ·subst hjk; rw [HQ.out] at hq ⊢; exact set_same _ HR.out.1.t hq
      ·rw [cell_other _ _ _ _ _ (fun h => hjk (SB_inj (by omega) hlt (h.symm.trans HQ.out)))]
       exact HR.out.2.2 j (by omega)
     ·simp only [intOf]; omega
    ·obtain rfl : k = 256 := by omega
     have RS : Hid (wr.rangeAt b2 0 sbL) := sbL_range (fun j hj => by rw [Nat.zero_add]; exact HR.out.2.1 j hj)
     have RU : Hid (wr.rangeAt b3 0 ubL) := ubL_range (fun j hj => by
      rw [Nat.zero_add]
      have := HR.out.2.2 (UB j) (UB_lt j)
      rw [(UB_SB ⟨j, hj⟩).2] at this
      exact this)
     clear hlt hk H2
     go_wp2
     obtain ⟨SL, HSL⟩ : ∃ L, Hid (L = sbL) := ⟨_, rfl⟩
     obtain ⟨UL, HUL⟩ : ∃ L, Hid (L = ubL) := ⟨_, rfl⟩
     rw [← HSL.out] at RS
     rw [← HUL.out] at RU
     have HSl : Hid (SL.toArray.size = 256) := by show _ = _; rw [HSL.out]; exact sbL_len
     have HUl : Hid (UL.toArray.size = 256) := by show _ = _; rw [HUL.out]; exact ubL_len
     have HSo : Hid (SL.toArray.all (·.oneCell') = true) := by show _ = _; rw [HSL.out]; exact sbL_one
     have HUo : Hid (UL.toArray.all (·.oneCell') = true) := by show _ = _; rw [HUL.out]; exact ubL_one
     have hS0 : ∀ p : Addr, b2 ≤ p.block → wr.drew.cell? p = wr.cell? p := fun p _ => rfl
     have G2 : Hid (∀ u : World, (∀ p : Addr, b2 ≤ p.block → u.cell? p = wr.cell? p) → u.rangeAt b2 0 SL) := fun u hu j v hv => (hu _ (Nat.le_refl _)).trans (RS.out j v hv)
     have G3 : Hid (∀ u : World, (∀ p : Addr, b2 ≤ p.block → u.cell? p = wr.cell? p) → u.rangeAt b3 0 UL) := fun u hu j v hv => (hu _ (Nat.le_of_lt HBB.out.2.2)).trans (RU.out j v hv)
     have HT0 : Hid (wr.drew.there w.heap.size 0 SL.toArray.size) := by show World.there _ _ _ _; rw [HSl.out]; exact (World.there_drew _ _ _ _).2 HR.out.1.r0
     have HT1 : Hid (wr.drew.there b1 0 UL.toArray.size) := by show World.there _ _ _ _; rw [HUl.out]; exact (World.there_drew _ _ _ _).2 HR.out.1.r1
     have s65a : Hid ((Tryz.prog.info? 45).map (·.size) = some SL.toArray.size) := by show _ = _; rw [HSl.out]; exact size65
     have s65b : Hid ((Tryz.prog.info? 45).map (·.size) = some UL.toArray.size) := by show _ = _; rw [HUl.out]; exact size65
     refine wp_region_noPanic ?_
     refine wp_region_held_drew (S := fun u => ∀ p : Addr, b2 ≤ p.block → u.cell? p = wr.cell? p) (by kernel_rfl) (hS0) (fun _ => ?_)
     refine tH 0 33 (.agg SL.toArray) rfl rfl (by kernel_rfl) (hS0) (yieldsIf_load_mid (by kernel_rfl) 45 (.tmp 2) rfl b2 0 rfl SL _ (fun u hu => G2.out u hu) Tryz.underlying45 rfl s65a.out) ?_
     simp only [pU]
     refine tH 1 34 (.agg UL.toArray) rfl rfl (by kernel_rfl) (hS0) (yieldsIf_load_mid (by kernel_rfl) 45 (.tmp 3) rfl b3 0 rfl UL _ (fun u hu => G3.out u hu) Tryz.underlying45 rfl s65b.out) ?_
     simp only [pU]
     refine wpAnyH_ready (rs := [2]) (by kernel_rfl) (by simp) ?_
     refine AllReadyH.cons rfl (fun Kx hK => ?_) AllReadyH.nil
     rw [if_pos (by kernel_rfl)]
     refine wp_store_mid 45 (.tmp 0) (.tmp 33) rfl w.heap.size 0 SL.toArray rfl rfl HT0.out s65a.out HSo.out ?_
     have hS1 : ∀ p : Addr, b2 ≤ p.block → (wr.drew.setCells w.heap.size 0 SL).cell? p = wr.cell? p := fun p hp => (World.cell?_setCells_out _ _ _ _ _ (fun e => by have := HBB.out; omega)).trans (hS0 p hp)
     refine hK.out _ _ hS1 (fun _ => ?_)
     clear hK Kx
     try simp only [Act.put]
     refine wpAnyH_ready (rs := [3]) (by kernel_rfl) (by simp) ?_
     refine AllReadyH.cons rfl (fun Kx hK => ?_) AllReadyH.nil
     rw [if_pos (by kernel_rfl)]
     refine wp_store_mid 45 (.tmp 1) (.tmp 34) rfl b1 0 UL.toArray rfl rfl (World.there_setCells HT1.out _ _ _) s65b.out HUo.out ?_
     have hS2 : ∀ p : Addr, b2 ≤ p.block → ((wr.drew.setCells w.heap.size 0 SL).setCells b1 0 UL).cell? p = wr.cell? p := fun p hp => (World.cell?_setCells_out _ _ _ _ _ (fun e => by have := HBB.out; omega)).trans (hS1 p hp)
     refine hK.out _ _ hS2 (fun _ => ?_)
     clear hK Kx
     refine wpAnyH_done (by kernel_rfl) ?_ _
     refine NoPanic.normal ?_
     have hlast : Hid (((wr.drew.setCells w.heap.size 0 SL).setCells b1 0 UL).rangeAt w.heap.size 0 SL) := fun j v hv => (World.cell?_setCells_out b1 _ _ _ _ (fun e => by have h1 := HBB.out.1; have h2 : w.heap.size = b1 := e; omega)).trans (World.rangeAt_setCells_same _ _ _ _ HT0.out j v hv)
     have hlast2 : Hid (((wr.drew.setCells w.heap.size 0 SL).setCells b1 0 UL).rangeAt b1 0 UL) := World.rangeAt_setCells_same _ _ _ _ (World.there_setCells HT1.out _ _ _)
     have hbel : Hid (Below w.heap.size w ((wr.drew.setCells w.heap.size 0 SL).setCells b1 0 UL)) := belowB_setCells _ (by have := HBB.out; omega) _ _ _ (belowB_setCells _ (Nat.le_refl _) _ _ _ HR.out.1.old.drew)
     go_wp2
     refine ret_cells2 SL UL Tryz.results9 rfl rfl hlast.out hlast2.out Tryz.underlying45 rfl s65a.out s65b.out ⟨by rw [HSL.out, HUL.out], hbel.out⟩
end Go.Proofs.YtgmfiljjogdccabGreatDoor
namespace Go.Proofs.YtgmfiljjogdccabGreatDoor
open Go.RowKit
set_option linter.unusedVariables false
/-- The first k bytes as a number. -/
def numK (f : Nat → Nat) : Nat → Nat
 | 0 => 0
 | k + 1 => numK f k * 256 + f k
theorem numK_lt {f : Nat → Nat} (hf : ∀ i, f i < 256) : ∀ k, numK f k < 256 ^ k
 | 0 => by show 0 < _; decide
 | k + 1 => by have h1 := numK_lt hf k; have h2 := hf k; unfold numK; rw [Nat.pow_succ]; omega
theorem wraps_u64 (n : Int) (h₀ : 0 ≤ n) (h₁ : n < 2 ^ 64) : IntKind.u64.wrap n = n := by simp [IntKind.wrap, IntKind.bits, IntKind.signed]; omega
theorem joins64 (x y : Nat) (hx1 : x < 72057594037927936) (hy : y < 256) : bits .or .u64 ((x : Int) * 256) (y : Int) = ((x * 256 + y : Nat) : Int) := by
 have := bits_join .u64 64 (by decide) wraps_u64 8 ((x : Int) * 256) (y : Int) (by omega) (by omega) (by omega) (by omega) (by omega) (by omega)
 rw [this]
 omega
set_option maxHeartbeats 800000 in
set_option maxRecDepth 100000 in
theorem number_ok (b o n cap : Nat) (f : Nat → Nat) (w : World) (h8 : 8 ≤ n) (hnc : n ≤ cap) (hc : ∀ i, i < 8 → w.cell? ⟨b, o + i, none⟩ = some (.int .u8 (f i : Nat))) (hf : ∀ i, f i < 256) :
  Calls Tryz.prog 88 #[.slice (some ⟨b, o, none⟩) n cap] w fun e w' => e = .returned (.int .u64 (numK f 8 : Nat)) ∧ w' = w := by
 have HC : Hid (∀ i, i < 8 → w.cell? ⟨b, o + i, none⟩ = some (.int .u8 (f i : Nat))) := hc
 have HF : Hid (∀ i, f i < 256) := hf
 have hcap : (8 : Int) ≤ (cap : Nat) := by omega
 clear hc hf
 go_enter Tryz.func88, Tryz.ntmps88
 go_wp2
 go_loopw [3, 9] (fun vn i wr => ∃ k : Nat, k ≤ 8 ∧ i = .int .i64 k ∧ vn = .int .u64 (numK f k : Nat) ∧ wr = w) (fun _ i _ => 8 - (intOf i).toNat)
 case atStart => exact ⟨0, by omega, rfl, rfl, rfl⟩
 case round =>
  obtain ⟨k, hk, rfl, rfl, hw⟩ := hrel
  obtain rfl := hw.symm
  by_cases hlt : k < 8
  ·have ck := HC.out k hlt
   obtain ⟨x, HX⟩ : ∃ x, Hid (x = numK f k) := ⟨_, rfl⟩
   obtain ⟨y, HY⟩ : ∃ x, Hid (x = f k) := ⟨_, rfl⟩
   rw [← HX.out]
   rw [← HY.out] at ck
   have hy : y < 256 := by rw [HY.out]; exact HF.out k
   have hx : x < 72057594037927936 := by
    have h1 := numK_lt HF.out k
    have h2 : 256 ^ k ≤ 256 ^ 7 := Nat.pow_le_pow_right (by decide) (by omega)
    rw [← HX.out] at h1
    have h3 : (256 : Nat) ^ 7 = 72057594037927936 := by decide
    omega
   go_wp2
   refine ⟨⟨k + 1, by omega, rfl, ?_, trivial⟩, ?_⟩
   ·refine val_eq ?_
    show _ = ((numK f k * 256 + f k : Nat) : Int)
    rw [← HX.out, ← HY.out]
    exact joins64 x y hx hy
   ·simp only [intOf]; omega
  ·obtain rfl : k = 8 := by omega
   go_wp2
   go_ret
   exact ⟨rfl, rfl⟩
/-- The bytes of a number, highest first. -/
def byteK (n k : Nat) : Nat := n / 256 ^ (7 - k) % 256
theorem byteK_lt (n k : Nat) : byteK n k < 256 := Nat.mod_lt _ (by decide)
set_option maxHeartbeats 800000 in
set_option maxRecDepth 100000 in
theorem put_ok (b o n cap m : Nat) (w : World) (h8 : 8 ≤ n) (hm : m < 18446744073709551616) (ht : w.there b o 8) :
  Calls Tryz.prog 89 #[.slice (some ⟨b, o, none⟩) n cap, .int .u64 (m : Nat)] w fun e w' => e = .returned (.tuple #[]) ∧ Touch w w' b o 8 ∧ ∀ k, k < 8 → w'.cell? ⟨b, o + k, none⟩ = some (.int .u8 (byteK m k : Nat)) := by
 have HT : Hid (w.there b o 8) := ht
 have hni : (8 : Int) ≤ (n : Nat) := by omega
 clear ht h8
 go_enter Tryz.func89, Tryz.ntmps89
 go_wp2
 go_loopw [1, 4] (fun vn i wr => ∃ j : Nat, j ≤ 8 ∧ i = .int .i64 ((j : Int) - 1) ∧ vn = .int .u64 (m / 256 ^ (8 - j) : Nat) ∧ Hid (Touch w wr b o 8 ∧ ∀ k, j ≤ k → k < 8 → wr.cell? ⟨b, o + k, none⟩ = some (.int .u8 (byteK m k : Nat)))) (fun _ i _ => (intOf i + 1).toNat)
 case atStart => exact ⟨8, Nat.le_refl _, rfl, by simp, Touch.refl _ _ _ _, fun k h1 h2 => by omega⟩
 case round =>
  obtain ⟨j, hj, rfl, rfl, HR⟩ := hrel
  cases j with
  | zero =>
   go_wp2
   go_end0
   exact ⟨rfl, HR.out.1, fun k hk => HR.out.2 k (Nat.zero_le _) hk⟩
  | succ q =>
   have hq1 : (((q + 1 : Nat) : Int) - 1) = (q : Nat) := by omega
   rw [hq1]
   obtain ⟨x, HX⟩ : ∃ x, Hid (x = m / 256 ^ (8 - (q + 1))) := ⟨_, rfl⟩
   rw [← HX.out]
   have hqn : ((q : Nat) : Int) < (n : Nat) := by omega
   have hq8 : ((q : Nat) : Int) < 8 := by omega
   have t := HR.out.1.there _ _ HT.out q (by omega)
   obtain ⟨t1, t2⟩ := t
   obtain ⟨v, c1⟩ := Option.isSome_iff_exists.1 t1
   clear t1
   go_wp2
   refine ⟨⟨q, by omega, rfl, val_eq ?_, ?_⟩, ?_⟩
   ·have e : m / 256 ^ (8 - q) = x / 256 := by
     rw [HX.out, Nat.div_div_eq_div_mul, ← Nat.pow_succ]
     rw [show (8 - (q + 1)).succ = 8 - q by omega]
    rw [e]
    omega
   ·refine ⟨HR.out.1.setCell (o + q) _ (by omega) (by omega), fun k h1 h2 => ?_⟩
    by_cases hkq : k = q
    ·subst hkq
     have hv : ((x : Int) % 256) = ((byteK m k : Nat) : Int) := by
      unfold byteK
      rw [HX.out, show 8 - (k + 1) = 7 - k by omega]
      omega
     rw [World.cell?_setCell_same' _ _ _ (by rw [c1]; rfl), hv]
    ·rw [World.cell?_setCell_other _ ⟨b, o + q, none⟩ ⟨b, o + k, none⟩ _ (fun e => hkq (by simp at e <;> omega))]
     exact HR.out.2 k (by omega) h2
   ·simp only [intOf]; omega
theorem numK_word (f : Nat → Nat) : numK f 8 = wd (f 0) (f 1) (f 2) (f 3) * 4294967296 + wd (f 4) (f 5) (f 6) (f 7) := by
 simp only [numK, wd]
 omega
theorem halves_at (b : Nat) (s : W4) (hs : s.ok) (w : World) (hr : w.rangeAt b 0 [.int .u8 (bt0 s.a : Nat), .int .u8 (bt1 s.a : Nat), .int .u8 (bt2 s.a : Nat), .int .u8 (bt3 s.a : Nat), .int .u8 (bt0 s.b : Nat), .int .u8 (bt1 s.b : Nat), .int .u8 (bt2 s.b : Nat), .int .u8 (bt3 s.b : Nat), .int .u8 (bt0 s.c : Nat), .int .u8 (bt1 s.c : Nat), .int .u8 (bt2 s.c : Nat), .int .u8 (bt3 s.c : Nat), .int .u8 (bt0 s.d : Nat), .int .u8 (bt1 s.d : Nat), .int .u8 (bt2 s.d : Nat), .int .u8 (bt3 s.d : Nat)]) :
  (∀ u, Below (b + 1) w u → Calls Tryz.prog 88 #[.slice (some ⟨b, 0, none⟩) 8 16] u fun e u' => e = .returned (.int .u64 (s.a * 4294967296 + s.b : Nat)) ∧ u' = u) ∧
  (∀ u, Below (b + 1) w u → Calls Tryz.prog 88 #[.slice (some ⟨b, 8, none⟩) 8 8] u fun e u' => e = .returned (.int .u64 (s.c * 4294967296 + s.d : Nat)) ∧ u' = u) := by
 refine ⟨fun u hu => ?_, fun u hu => ?_⟩
 ·have h := number_ok b 0 8 16 (fun i => if i = 0 then bt0 s.a else if i = 1 then bt1 s.a else if i = 2 then bt2 s.a else if i = 3 then bt3 s.a else if i = 4 then bt0 s.b else if i = 5 then bt1 s.b else if i = 6 then bt2 s.b else bt3 s.b) u (Nat.le_refl _) (by decide) (fun i hi => by
   rw [hu.cell (p := ⟨b, 0 + i, none⟩) (Nat.lt_succ_self b)]
   have h8 : i = 0 ∨ i = 1 ∨ i = 2 ∨ i = 3 ∨ i = 4 ∨ i = 5 ∨ i = 6 ∨ i = 7 := by omega
   rcases h8 with rfl | rfl | rfl | rfl | rfl | rfl | rfl | rfl <;> exact hr _ _ rfl) (fun i => by
   have := bt0_lt s.a; have := bt1_lt s.a; have := bt2_lt s.a; have := bt3_lt s.a; have := bt0_lt s.b; have := bt1_lt s.b; have := bt2_lt s.b; have := bt3_lt s.b
   repeat' split
   all_goals assumption)
  rw [numK_word] at h
  simp only [if_true, reduceIte, Nat.reduceEqDiff] at h
  rw [wd_bt hs.1, wd_bt hs.2.1] at h
  exact h
 ·have h := number_ok b 8 8 8 (fun i => if i = 0 then bt0 s.c else if i = 1 then bt1 s.c else if i = 2 then bt2 s.c else if i = 3 then bt3 s.c else if i = 4 then bt0 s.d else if i = 5 then bt1 s.d else if i = 6 then bt2 s.d else bt3 s.d) u (Nat.le_refl _) (by decide) (fun i hi => by
   rw [hu.cell (p := ⟨b, 8 + i, none⟩) (Nat.lt_succ_self b)]
   have h8 : i = 0 ∨ i = 1 ∨ i = 2 ∨ i = 3 ∨ i = 4 ∨ i = 5 ∨ i = 6 ∨ i = 7 := by omega
   have hr' := fun j v hv => (by simpa using hr (8 + j) v hv : w.cell? ⟨b, 8 + j, none⟩ = some v)
   rcases h8 with rfl | rfl | rfl | rfl | rfl | rfl | rfl | rfl <;> exact hr' _ _ rfl) (fun i => by
   have := bt0_lt s.c; have := bt1_lt s.c; have := bt2_lt s.c; have := bt3_lt s.c; have := bt0_lt s.d; have := bt1_lt s.d; have := bt2_lt s.d; have := bt3_lt s.d
   repeat' split
   all_goals assumption)
  rw [numK_word] at h
  simp only [if_true, reduceIte, Nat.reduceEqDiff] at h
  rw [wd_bt hs.2.2.1, wd_bt hs.2.2.2] at h
  exact h
end Go.Proofs.YtgmfiljjogdccabGreatDoor
