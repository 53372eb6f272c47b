import Derived.Test.YtgmfiljjogdccabGreatDoorPart00
import Derived.Test.YtgmfiljjogdccabGreatDoorEnc
import Derived.Test.YtgmfiljjogdccabGreatDoorDecA
import Derived.Test.YtgmfiljjogdccabGreatDoorPart10
import Derived.Test.YtgmfiljjogdccabGreatDoorDecC
import Derived.Test.YtgmfiljjogdccabGreatDoorPart06
import Derived.Deep.CutRange
namespace Go.Proofs.YtgmfiljjogdccabGreatDoor
open Go.RowKit
set_option linter.unusedVariables false
set_option linter.unusedSimpArgs false
theorem there_own (w : World) (C : Array Value) (t : TypeId) {n : Nat} (hn : C.size = n) : (w.alloc (.cells C t)).there w.heap.size 0 n := fun j hj => by
 subst hn
 refine ⟨?_, World.frozen?_alloc_at C t _ _ rfl⟩
 rw [World.cell?_alloc_at C t _ _ rfl]
 simp
 exact hj
/-- What stands behind the first statement of decrypt. -/
structure DecAt (w : World) (t0 t1 t2 t3 : Nat) (A : Nat) (u : World) : Prop where
 old : Below w.heap.size w u
 res : u.there (w.heap.size + 1) 0 16
 far : w.heap.size + 2 ≤ A
 here : A < u.heap.size
 cells : u.rangeAt A 0 [.int .u32 (t0 : Nat), .int .u32 (t1 : Nat), .int .u32 (t2 : Nat), .int .u32 (t3 : Nat)]
 room : u.there A 0 4
theorem DecAt.mk' {w u u' : World} {t0 t1 t2 t3 A : Nat} {W2 : World} (h2 : Below w.heap.size w W2) (ht : W2.there (w.heap.size + 1) 0 16) (hb : Below (w.heap.size + 2) W2 u) (hA : w.heap.size + 2 ≤ A) (hAu : A < u.heap.size) (htA : u.there A 0 4) :
  DecAt w t0 t1 t2 t3 A (u.setCells A 0 [.int .u32 (t0 : Nat), .int .u32 (t1 : Nat), .int .u32 (t2 : Nat), .int .u32 (t3 : Nat)]) :=
 ⟨below_setCells A (by omega) _ _ _ (h2.trans (hb.mono (by omega))), World.there_setCells (there_below ht hb (by omega)) _ _ _, hA, by rw [size_setCells]; exact hAu, World.rangeAt_setCells_same _ _ _ _ htA, World.there_setCells htA _ _ _⟩
set_option maxHeartbeats 6400000 in
set_option maxRecDepth 100000 in
theorem dec_ok (g o nr : Nat) (K : Nat → Nat) (s : W4) (w : World) (hC : Ciph w g o nr K) (hs : s.ok) :
  Calls Tryz.prog 50 #[.pointer (some ⟨g, o, none⟩), s.blk] w fun e w' => e = .returned (dcW nr K s).blk ∧ Below w.heap.size w w' := by
 have HC : Hid (Ciph w g o nr K) := hC
 have hnr := hC.most
 have hn1 := hC.some
 clear hC
 have HS : Hid s.ok := hs
 clear hs
 obtain ⟨⟨t0, t1, t2, t3⟩, HT⟩ : ∃ t, Hid (t = addK K nr s) := ⟨_, rfl⟩
 have HTok : Hid (W4.ok ⟨t0, t1, t2, t3⟩) := by show W4.ok _; rw [HT.out]; exact addK_ok HC.out.small _ HS.out
 have HFB : Hid (∀ u, Calls Tryz.prog 73 #[.agg #[.int .u8 (bt0 s.a : Nat), .int .u8 (bt1 s.a : Nat), .int .u8 (bt2 s.a : Nat), .int .u8 (bt3 s.a : Nat), .int .u8 (bt0 s.b : Nat), .int .u8 (bt1 s.b : Nat), .int .u8 (bt2 s.b : Nat), .int .u8 (bt3 s.b : Nat), .int .u8 (bt0 s.c : Nat), .int .u8 (bt1 s.c : Nat), .int .u8 (bt2 s.c : Nat), .int .u8 (bt3 s.c : Nat), .int .u8 (bt0 s.d : Nat), .int .u8 (bt1 s.d : Nat), .int .u8 (bt2 s.d : Nat), .int .u8 (bt3 s.d : Nat)]] u fun e u' => e = .returned s.val ∧ Below u.heap.size u u') := fun u => from_c s HS.out u
 have HA0 : Hid (∀ u, Ciph u g o nr K → Calls Tryz.prog 72 #[.pointer (some ⟨g, o, none⟩), s.val, .int .i64 (nr : Nat)] u fun e u' => e = .returned (.agg #[.int .u32 (t0 : Nat), .int .u32 (t1 : Nat), .int .u32 (t2 : Nat), .int .u32 (t3 : Nat)]) ∧ Below u.heap.size u u') := add_d nr (Nat.le_refl _) s ⟨t0, t1, t2, t3⟩ HS.out HT.out
 have H2 : Hid (Below w.heap.size w ((w.alloc (.cells #[.int .u8 (bt0 s.a : Nat), .int .u8 (bt1 s.a : Nat), .int .u8 (bt2 s.a : Nat), .int .u8 (bt3 s.a : Nat), .int .u8 (bt0 s.b : Nat), .int .u8 (bt1 s.b : Nat), .int .u8 (bt2 s.b : Nat), .int .u8 (bt3 s.b : Nat), .int .u8 (bt0 s.c : Nat), .int .u8 (bt1 s.c : Nat), .int .u8 (bt2 s.c : Nat), .int .u8 (bt3 s.c : Nat), .int .u8 (bt0 s.d : Nat), .int .u8 (bt1 s.d : Nat), .int .u8 (bt2 s.d : Nat), .int .u8 (bt3 s.d : Nat)] 38)).alloc (.cells #[.int .u8 0, .int .u8 0, .int .u8 0, .int .u8 0, .int .u8 0, .int .u8 0, .int .u8 0, .int .u8 0, .int .u8 0, .int .u8 0, .int .u8 0, .int .u8 0, .int .u8 0, .int .u8 0, .int .u8 0, .int .u8 0] 38)) ∧ ((w.alloc (.cells #[.int .u8 (bt0 s.a : Nat), .int .u8 (bt1 s.a : Nat), .int .u8 (bt2 s.a : Nat), .int .u8 (bt3 s.a : Nat), .int .u8 (bt0 s.b : Nat), .int .u8 (bt1 s.b : Nat), .int .u8 (bt2 s.b : Nat), .int .u8 (bt3 s.b : Nat), .int .u8 (bt0 s.c : Nat), .int .u8 (bt1 s.c : Nat), .int .u8 (bt2 s.c : Nat), .int .u8 (bt3 s.c : Nat), .int .u8 (bt0 s.d : Nat), .int .u8 (bt1 s.d : Nat), .int .u8 (bt2 s.d : Nat), .int .u8 (bt3 s.d : Nat)] 38)).alloc (.cells #[.int .u8 0, .int .u8 0, .int .u8 0, .int .u8 0, .int .u8 0, .int .u8 0, .int .u8 0, .int .u8 0, .int .u8 0, .int .u8 0, .int .u8 0, .int .u8 0, .int .u8 0, .int .u8 0, .int .u8 0, .int .u8 0] 38)).there (w.heap.size + 1) 0 16) := ⟨(two_allocs w _ _ 38 38).1, there_two w _ _ 38 38 rfl⟩
 have HSZ : Hid (((w.alloc (.cells #[.int .u8 (bt0 s.a : Nat), .int .u8 (bt1 s.a : Nat), .int .u8 (bt2 s.a : Nat), .int .u8 (bt3 s.a : Nat), .int .u8 (bt0 s.b : Nat), .int .u8 (bt1 s.b : Nat), .int .u8 (bt2 s.b : Nat), .int .u8 (bt3 s.b : Nat), .int .u8 (bt0 s.c : Nat), .int .u8 (bt1 s.c : Nat), .int .u8 (bt2 s.c : Nat), .int .u8 (bt3 s.c : Nat), .int .u8 (bt0 s.d : Nat), .int .u8 (bt1 s.d : Nat), .int .u8 (bt2 s.d : Nat), .int .u8 (bt3 s.d : Nat)] 38)).alloc (.cells #[.int .u8 0, .int .u8 0, .int .u8 0, .int .u8 0, .int .u8 0, .int .u8 0, .int .u8 0, .int .u8 0, .int .u8 0, .int .u8 0, .int .u8 0, .int .u8 0, .int .u8 0, .int .u8 0, .int .u8 0, .int .u8 0] 38)).heap.size = w.heap.size + 2) := by show _ = _; simp
 have HCS : Hid (∀ u, Below (w.heap.size + 2) ((w.alloc (.cells #[.int .u8 (bt0 s.a : Nat), .int .u8 (bt1 s.a : Nat), .int .u8 (bt2 s.a : Nat), .int .u8 (bt3 s.a : Nat), .int .u8 (bt0 s.b : Nat), .int .u8 (bt1 s.b : Nat), .int .u8 (bt2 s.b : Nat), .int .u8 (bt3 s.b : Nat), .int .u8 (bt0 s.c : Nat), .int .u8 (bt1 s.c : Nat), .int .u8 (bt2 s.c : Nat), .int .u8 (bt3 s.c : Nat), .int .u8 (bt0 s.d : Nat), .int .u8 (bt1 s.d : Nat), .int .u8 (bt2 s.d : Nat), .int .u8 (bt3 s.d : Nat)] 38)).alloc (.cells #[.int .u8 0, .int .u8 0, .int .u8 0, .int .u8 0, .int .u8 0, .int .u8 0, .int .u8 0, .int .u8 0, .int .u8 0, .int .u8 0, .int .u8 0, .int .u8 0, .int .u8 0, .int .u8 0, .int .u8 0, .int .u8 0] 38)) u → Ciph u g o nr K) := fun u hu => (HC.out.below H2.out.1 HC.out.here).below hu (by have := HC.out.here; omega)
 have gr : Hid (∀ u, Below (w.heap.size + 2) ((w.alloc (.cells #[.int .u8 (bt0 s.a : Nat), .int .u8 (bt1 s.a : Nat), .int .u8 (bt2 s.a : Nat), .int .u8 (bt3 s.a : Nat), .int .u8 (bt0 s.b : Nat), .int .u8 (bt1 s.b : Nat), .int .u8 (bt2 s.b : Nat), .int .u8 (bt3 s.b : Nat), .int .u8 (bt0 s.c : Nat), .int .u8 (bt1 s.c : Nat), .int .u8 (bt2 s.c : Nat), .int .u8 (bt3 s.c : Nat), .int .u8 (bt0 s.d : Nat), .int .u8 (bt1 s.d : Nat), .int .u8 (bt2 s.d : Nat), .int .u8 (bt3 s.d : Nat)] 38)).alloc (.cells #[.int .u8 0, .int .u8 0, .int .u8 0, .int .u8 0, .int .u8 0, .int .u8 0, .int .u8 0, .int .u8 0, .int .u8 0, .int .u8 0, .int .u8 0, .int .u8 0, .int .u8 0, .int .u8 0, .int .u8 0, .int .u8 0] 38)) u → u.cell? ⟨g, o, none⟩ = some (.int .i64 (nr : Nat))) := fun u hu => (HCS.out u hu).rounds
 have gl : Hid (∀ u, Below (w.heap.size + 2) ((w.alloc (.cells #[.int .u8 (bt0 s.a : Nat), .int .u8 (bt1 s.a : Nat), .int .u8 (bt2 s.a : Nat), .int .u8 (bt3 s.a : Nat), .int .u8 (bt0 s.b : Nat), .int .u8 (bt1 s.b : Nat), .int .u8 (bt2 s.b : Nat), .int .u8 (bt3 s.b : Nat), .int .u8 (bt0 s.c : Nat), .int .u8 (bt1 s.c : Nat), .int .u8 (bt2 s.c : Nat), .int .u8 (bt3 s.c : Nat), .int .u8 (bt0 s.d : Nat), .int .u8 (bt1 s.d : Nat), .int .u8 (bt2 s.d : Nat), .int .u8 (bt3 s.d : Nat)] 38)).alloc (.cells #[.int .u8 0, .int .u8 0, .int .u8 0, .int .u8 0, .int .u8 0, .int .u8 0, .int .u8 0, .int .u8 0, .int .u8 0, .int .u8 0, .int .u8 0, .int .u8 0, .int .u8 0, .int .u8 0, .int .u8 0, .int .u8 0] 38)) u → u.rangeAt w.heap.size 0 [.int .u8 (bt0 s.a : Nat), .int .u8 (bt1 s.a : Nat), .int .u8 (bt2 s.a : Nat), .int .u8 (bt3 s.a : Nat), .int .u8 (bt0 s.b : Nat), .int .u8 (bt1 s.b : Nat), .int .u8 (bt2 s.b : Nat), .int .u8 (bt3 s.b : Nat), .int .u8 (bt0 s.c : Nat), .int .u8 (bt1 s.c : Nat), .int .u8 (bt2 s.c : Nat), .int .u8 (bt3 s.c : Nat), .int .u8 (bt0 s.d : Nat), .int .u8 (bt1 s.d : Nat), .int .u8 (bt2 s.d : Nat), .int .u8 (bt3 s.d : Nat)]) := fun u hu j v hv => (hu.cell (by simp)).trans ((by simpa using (two_allocs w #[.int .u8 (bt0 s.a : Nat), .int .u8 (bt1 s.a : Nat), .int .u8 (bt2 s.a : Nat), .int .u8 (bt3 s.a : Nat), .int .u8 (bt0 s.b : Nat), .int .u8 (bt1 s.b : Nat), .int .u8 (bt2 s.b : Nat), .int .u8 (bt3 s.b : Nat), .int .u8 (bt0 s.c : Nat), .int .u8 (bt1 s.c : Nat), .int .u8 (bt2 s.c : Nat), .int .u8 (bt3 s.c : Nat), .int .u8 (bt0 s.d : Nat), .int .u8 (bt1 s.d : Nat), .int .u8 (bt2 s.d : Nat), .int .u8 (bt3 s.d : Nat)] #[.int .u8 0, .int .u8 0, .int .u8 0, .int .u8 0, .int .u8 0, .int .u8 0, .int .u8 0, .int .u8 0, .int .u8 0, .int .u8 0, .int .u8 0, .int .u8 0, .int .u8 0, .int .u8 0, .int .u8 0, .int .u8 0] 38 38).2 j v (by simpa using hv)))
 show Calls Tryz.prog 50 #[.pointer (some ⟨g, o, none⟩), .agg #[.int .u8 (bt0 s.a : Nat), .int .u8 (bt1 s.a : Nat), .int .u8 (bt2 s.a : Nat), .int .u8 (bt3 s.a : Nat), .int .u8 (bt0 s.b : Nat), .int .u8 (bt1 s.b : Nat), .int .u8 (bt2 s.b : Nat), .int .u8 (bt3 s.b : Nat), .int .u8 (bt0 s.c : Nat), .int .u8 (bt1 s.c : Nat), .int .u8 (bt2 s.c : Nat), .int .u8 (bt3 s.c : Nat), .int .u8 (bt0 s.d : Nat), .int .u8 (bt1 s.d : Nat), .int .u8 (bt2 s.d : Nat), .int .u8 (bt3 s.d : Nat)]] w _
 go_enter Tryz.func50, Tryz.ntmps50
 go_upto_region 1 with fail
 go_cut [5] from 7 to 14 (fun p wx => ∃ A, p = .pointer (some ⟨A, 0, none⟩) ∧ Hid (DecAt w t0 t1 t2 t3 A wx))
 case first =>
  have hS0 : Below (w.heap.size + 2) ((w.alloc (.cells #[.int .u8 (bt0 s.a : Nat), .int .u8 (bt1 s.a : Nat), .int .u8 (bt2 s.a : Nat), .int .u8 (bt3 s.a : Nat), .int .u8 (bt0 s.b : Nat), .int .u8 (bt1 s.b : Nat), .int .u8 (bt2 s.b : Nat), .int .u8 (bt3 s.b : Nat), .int .u8 (bt0 s.c : Nat), .int .u8 (bt1 s.c : Nat), .int .u8 (bt2 s.c : Nat), .int .u8 (bt3 s.c : Nat), .int .u8 (bt0 s.d : Nat), .int .u8 (bt1 s.d : Nat), .int .u8 (bt2 s.d : Nat), .int .u8 (bt3 s.d : Nat)] 38)).alloc (.cells #[.int .u8 0, .int .u8 0, .int .u8 0, .int .u8 0, .int .u8 0, .int .u8 0, .int .u8 0, .int .u8 0, .int .u8 0, .int .u8 0, .int .u8 0, .int .u8 0, .int .u8 0, .int .u8 0, .int .u8 0, .int .u8 0] 38)) (((w.alloc (.cells #[.int .u8 (bt0 s.a : Nat), .int .u8 (bt1 s.a : Nat), .int .u8 (bt2 s.a : Nat), .int .u8 (bt3 s.a : Nat), .int .u8 (bt0 s.b : Nat), .int .u8 (bt1 s.b : Nat), .int .u8 (bt2 s.b : Nat), .int .u8 (bt3 s.b : Nat), .int .u8 (bt0 s.c : Nat), .int .u8 (bt1 s.c : Nat), .int .u8 (bt2 s.c : Nat), .int .u8 (bt3 s.c : Nat), .int .u8 (bt0 s.d : Nat), .int .u8 (bt1 s.d : Nat), .int .u8 (bt2 s.d : Nat), .int .u8 (bt3 s.d : Nat)] 38)).alloc (.cells #[.int .u8 0, .int .u8 0, .int .u8 0, .int .u8 0, .int .u8 0, .int .u8 0, .int .u8 0, .int .u8 0, .int .u8 0, .int .u8 0, .int .u8 0, .int .u8 0, .int .u8 0, .int .u8 0, .int .u8 0, .int .u8 0] 38))).drew := (Below.refl _ _).drew
  refine wp_region_noPanic ?_
  refine wp_region_held_drew (S := fun u => Below (w.heap.size + 2) ((w.alloc (.cells #[.int .u8 (bt0 s.a : Nat), .int .u8 (bt1 s.a : Nat), .int .u8 (bt2 s.a : Nat), .int .u8 (bt3 s.a : Nat), .int .u8 (bt0 s.b : Nat), .int .u8 (bt1 s.b : Nat), .int .u8 (bt2 s.b : Nat), .int .u8 (bt3 s.b : Nat), .int .u8 (bt0 s.c : Nat), .int .u8 (bt1 s.c : Nat), .int .u8 (bt2 s.c : Nat), .int .u8 (bt3 s.c : Nat), .int .u8 (bt0 s.d : Nat), .int .u8 (bt1 s.d : Nat), .int .u8 (bt2 s.d : Nat), .int .u8 (bt3 s.d : Nat)] 38)).alloc (.cells #[.int .u8 0, .int .u8 0, .int .u8 0, .int .u8 0, .int .u8 0, .int .u8 0, .int .u8 0, .int .u8 0, .int .u8 0, .int .u8 0, .int .u8 0, .int .u8 0, .int .u8 0, .int .u8 0, .int .u8 0, .int .u8 0] 38)) u) (by kernel_rfl) ((Below.refl _ _).drew) (fun _ => ?_)
  refine tG 0 7 (.pointer (some ⟨g, o, none⟩)) rfl rfl hS0 ?_
  simp only [pU]
  refine tH 1 8 (.agg #[.int .u8 (bt0 s.a : Nat), .int .u8 (bt1 s.a : Nat), .int .u8 (bt2 s.a : Nat), .int .u8 (bt3 s.a : Nat), .int .u8 (bt0 s.b : Nat), .int .u8 (bt1 s.b : Nat), .int .u8 (bt2 s.b : Nat), .int .u8 (bt3 s.b : Nat), .int .u8 (bt0 s.c : Nat), .int .u8 (bt1 s.c : Nat), .int .u8 (bt2 s.c : Nat), .int .u8 (bt3 s.c : Nat), .int .u8 (bt0 s.d : Nat), .int .u8 (bt1 s.d : Nat), .int .u8 (bt2 s.d : Nat), .int .u8 (bt3 s.d : Nat)]) rfl rfl (by kernel_rfl) (hS0) (yieldsIf_load_mid (by rfl) 38 (.tmp 3) rfl w.heap.size 0 rfl [.int .u8 (bt0 s.a : Nat), .int .u8 (bt1 s.a : Nat), .int .u8 (bt2 s.a : Nat), .int .u8 (bt3 s.a : Nat), .int .u8 (bt0 s.b : Nat), .int .u8 (bt1 s.b : Nat), .int .u8 (bt2 s.b : Nat), .int .u8 (bt3 s.b : Nat), .int .u8 (bt0 s.c : Nat), .int .u8 (bt1 s.c : Nat), .int .u8 (bt2 s.c : Nat), .int .u8 (bt3 s.c : Nat), .int .u8 (bt0 s.d : Nat), .int .u8 (bt1 s.d : Nat), .int .u8 (bt2 s.d : Nat), .int .u8 (bt3 s.d : Nat)] _ (fun u hu => gl.out u hu) Tryz.underlying38 rfl size42) ?_
  simp only [pU]
  refine tG 3 10 (.pointer (some ⟨g, o, none⟩)) rfl rfl hS0 ?_
  simp only [pU]
  refine tG 4 11 (.pointer (some ⟨g, o, none⟩)) rfl rfl hS0 ?_
  simp only [pU]
  refine tG 5 12 (.pointer (some ⟨g, o, none⟩)) rfl rfl hS0 ?_
  simp only [pU]
  refine tQ 6 13 (.int .i64 (nr : Nat)) rfl rfl hS0 gr.out ?_
  simp only [pU]
  refine wpAnyH_ready (rs := [2, 8]) (by kernel_rfl) (by simp) ?_
  refine AllReadyH.cons rfl (fun K hK => ?_) (AllReadyH.cons rfl (fun K hK => ?_) AllReadyH.nil)
  ·skip
   go_simp
   refine (HFB.out _).mono ?_
   rintro e1 u1 ⟨rfl, hbu1⟩
   have hSu1 : Below (w.heap.size + 2) ((w.alloc (.cells #[.int .u8 (bt0 s.a : Nat), .int .u8 (bt1 s.a : Nat), .int .u8 (bt2 s.a : Nat), .int .u8 (bt3 s.a : Nat), .int .u8 (bt0 s.b : Nat), .int .u8 (bt1 s.b : Nat), .int .u8 (bt2 s.b : Nat), .int .u8 (bt3 s.b : Nat), .int .u8 (bt0 s.c : Nat), .int .u8 (bt1 s.c : Nat), .int .u8 (bt2 s.c : Nat), .int .u8 (bt3 s.c : Nat), .int .u8 (bt0 s.d : Nat), .int .u8 (bt1 s.d : Nat), .int .u8 (bt2 s.d : Nat), .int .u8 (bt3 s.d : Nat)] 38)).alloc (.cells #[.int .u8 0, .int .u8 0, .int .u8 0, .int .u8 0, .int .u8 0, .int .u8 0, .int .u8 0, .int .u8 0, .int .u8 0, .int .u8 0, .int .u8 0, .int .u8 0, .int .u8 0, .int .u8 0, .int .u8 0, .int .u8 0] 38)) u1 := (hS0).trans (hbu1.mono (Nat.le_trans (Nat.le_of_eq HSZ.out.symm) (hS0).size))
   go_wp2_with fail
   refine hK.out _ _ hSu1 (fun _ => ?_)
   clear hK K
   try simp only [pU]
   refine wpAnyH_ready (rs := [7, 8]) (by kernel_rfl) (by simp) ?_
   refine AllReadyH.cons rfl (fun K hK => ?_) (AllReadyH.cons rfl (fun K hK => ?_) AllReadyH.nil)
   ·skip
    go_simp
    refine (HA0.out _ (HCS.out _ (hSu1))).mono ?_
    rintro e2 u2 ⟨rfl, hbu2⟩
    have hSu2 : Below (w.heap.size + 2) ((w.alloc (.cells #[.int .u8 (bt0 s.a : Nat), .int .u8 (bt1 s.a : Nat), .int .u8 (bt2 s.a : Nat), .int .u8 (bt3 s.a : Nat), .int .u8 (bt0 s.b : Nat), .int .u8 (bt1 s.b : Nat), .int .u8 (bt2 s.b : Nat), .int .u8 (bt3 s.b : Nat), .int .u8 (bt0 s.c : Nat), .int .u8 (bt1 s.c : Nat), .int .u8 (bt2 s.c : Nat), .int .u8 (bt3 s.c : Nat), .int .u8 (bt0 s.d : Nat), .int .u8 (bt1 s.d : Nat), .int .u8 (bt2 s.d : Nat), .int .u8 (bt3 s.d : Nat)] 38)).alloc (.cells #[.int .u8 0, .int .u8 0, .int .u8 0, .int .u8 0, .int .u8 0, .int .u8 0, .int .u8 0, .int .u8 0, .int .u8 0, .int .u8 0, .int .u8 0, .int .u8 0, .int .u8 0, .int .u8 0, .int .u8 0, .int .u8 0] 38)) u2 := (hSu1).trans (hbu2.mono (Nat.le_trans (Nat.le_of_eq HSZ.out.symm) (hSu1).size))
    go_wp2_with fail
    refine hK.out _ _ hSu2 (fun _ => ?_)
    clear hK K
    try simp only [pU]
    refine wpAnyH_ready (rs := [8]) (by kernel_rfl) (by simp) ?_
    refine AllReadyH.cons rfl (fun K hK => ?_) AllReadyH.nil
    go_simp
    have hSa : Below (w.heap.size + 2) ((w.alloc (.cells #[.int .u8 (bt0 s.a : Nat), .int .u8 (bt1 s.a : Nat), .int .u8 (bt2 s.a : Nat), .int .u8 (bt3 s.a : Nat), .int .u8 (bt0 s.b : Nat), .int .u8 (bt1 s.b : Nat), .int .u8 (bt2 s.b : Nat), .int .u8 (bt3 s.b : Nat), .int .u8 (bt0 s.c : Nat), .int .u8 (bt1 s.c : Nat), .int .u8 (bt2 s.c : Nat), .int .u8 (bt3 s.c : Nat), .int .u8 (bt0 s.d : Nat), .int .u8 (bt1 s.d : Nat), .int .u8 (bt2 s.d : Nat), .int .u8 (bt3 s.d : Nat)] 38)).alloc (.cells #[.int .u8 0, .int .u8 0, .int .u8 0, .int .u8 0, .int .u8 0, .int .u8 0, .int .u8 0, .int .u8 0, .int .u8 0, .int .u8 0, .int .u8 0, .int .u8 0, .int .u8 0, .int .u8 0, .int .u8 0, .int .u8 0] 38)) (World.alloc u2 (.cells #[.int .u32 0, .int .u32 0, .int .u32 0, .int .u32 0] 131)) := (hSu2).alloc (by have h1 := (hSu2).size; have h2 := HSZ.out; omega) _
    refine hK.out _ _ hSa (fun _ => ?_)
    clear hK K
    try simp only [pU]
    refine wpAnyH_ready (rs := [9]) (by kernel_rfl) (by simp) ?_
    refine AllReadyH.cons rfl (fun K hK => ?_) AllReadyH.nil
    rw [if_pos (by rfl)]
    refine wp_store_mid 131 (.tmp 5) (.tmp 14) rfl _ 0 #[.int .u32 (t0 : Nat), .int .u32 (t1 : Nat), .int .u32 (t2 : Nat), .int .u32 (t3 : Nat)] rfl rfl (there_own u2 #[.int .u32 0, .int .u32 0, .int .u32 0, .int .u32 0] 131 rfl) size115 (by kernel_rfl) ?_
    refine hK.out _ _ (below_setCells _ (by have h1 := hSu2.size; have h2 := HSZ.out; omega) _ _ _ (hSa)) (fun _ => ?_)
    clear hK K
    refine wpAnyH_done (by kernel_rfl) ?_ _
    refine NoPanic.normal ?_
    go_wp2_with fail
    go_meet
    exact ⟨_, rfl, DecAt.mk' (u' := w) H2.out.1 H2.out.2 (hSa) (by have h1 := hSu2.size; have h2 := HSZ.out; omega) (by simp) (there_own u2 #[.int .u32 0, .int .u32 0, .int .u32 0, .int .u32 0] 131 rfl)⟩
   ·skip
    go_simp
    have hSa : Below (w.heap.size + 2) ((w.alloc (.cells #[.int .u8 (bt0 s.a : Nat), .int .u8 (bt1 s.a : Nat), .int .u8 (bt2 s.a : Nat), .int .u8 (bt3 s.a : Nat), .int .u8 (bt0 s.b : Nat), .int .u8 (bt1 s.b : Nat), .int .u8 (bt2 s.b : Nat), .int .u8 (bt3 s.b : Nat), .int .u8 (bt0 s.c : Nat), .int .u8 (bt1 s.c : Nat), .int .u8 (bt2 s.c : Nat), .int .u8 (bt3 s.c : Nat), .int .u8 (bt0 s.d : Nat), .int .u8 (bt1 s.d : Nat), .int .u8 (bt2 s.d : Nat), .int .u8 (bt3 s.d : Nat)] 38)).alloc (.cells #[.int .u8 0, .int .u8 0, .int .u8 0, .int .u8 0, .int .u8 0, .int .u8 0, .int .u8 0, .int .u8 0, .int .u8 0, .int .u8 0, .int .u8 0, .int .u8 0, .int .u8 0, .int .u8 0, .int .u8 0, .int .u8 0] 38)) (World.alloc u1 (.cells #[.int .u32 0, .int .u32 0, .int .u32 0, .int .u32 0] 131)) := (hSu1).alloc (by have h1 := (hSu1).size; have h2 := HSZ.out; omega) _
    refine hK.out _ _ hSa (fun _ => ?_)
    clear hK K
    try simp only [pU]
    refine wpAnyH_ready (rs := [7]) (by kernel_rfl) (by simp) ?_
    refine AllReadyH.cons rfl (fun K hK => ?_) AllReadyH.nil
    go_simp
    refine (HA0.out _ (HCS.out _ (hSa))).mono ?_
    rintro e2 u2 ⟨rfl, hbu2⟩
    have hSu2 : Below (w.heap.size + 2) ((w.alloc (.cells #[.int .u8 (bt0 s.a : Nat), .int .u8 (bt1 s.a : Nat), .int .u8 (bt2 s.a : Nat), .int .u8 (bt3 s.a : Nat), .int .u8 (bt0 s.b : Nat), .int .u8 (bt1 s.b : Nat), .int .u8 (bt2 s.b : Nat), .int .u8 (bt3 s.b : Nat), .int .u8 (bt0 s.c : Nat), .int .u8 (bt1 s.c : Nat), .int .u8 (bt2 s.c : Nat), .int .u8 (bt3 s.c : Nat), .int .u8 (bt0 s.d : Nat), .int .u8 (bt1 s.d : Nat), .int .u8 (bt2 s.d : Nat), .int .u8 (bt3 s.d : Nat)] 38)).alloc (.cells #[.int .u8 0, .int .u8 0, .int .u8 0, .int .u8 0, .int .u8 0, .int .u8 0, .int .u8 0, .int .u8 0, .int .u8 0, .int .u8 0, .int .u8 0, .int .u8 0, .int .u8 0, .int .u8 0, .int .u8 0, .int .u8 0] 38)) u2 := (hSa).trans (hbu2.mono (Nat.le_trans (Nat.le_of_eq HSZ.out.symm) (hSa).size))
    go_wp2_with fail
    refine hK.out _ _ hSu2 (fun _ => ?_)
    clear hK K
    try simp only [pU]
    refine wpAnyH_ready (rs := [9]) (by kernel_rfl) (by simp) ?_
    refine AllReadyH.cons rfl (fun K hK => ?_) AllReadyH.nil
    rw [if_pos (by rfl)]
    refine wp_store_mid 131 (.tmp 5) (.tmp 14) rfl _ 0 #[.int .u32 (t0 : Nat), .int .u32 (t1 : Nat), .int .u32 (t2 : Nat), .int .u32 (t3 : Nat)] rfl rfl (there_below (there_own u1 #[.int .u32 0, .int .u32 0, .int .u32 0, .int .u32 0] 131 rfl) hbu2 (by simp)) size115 (by kernel_rfl) ?_
    refine hK.out _ _ (below_setCells _ (by have h1 := hSu1.size; have h2 := HSZ.out; omega) _ _ _ (hSu2)) (fun _ => ?_)
    clear hK K
    refine wpAnyH_done (by kernel_rfl) ?_ _
    refine NoPanic.normal ?_
    go_wp2_with fail
    go_meet
    exact ⟨_, rfl, DecAt.mk' (u' := w) H2.out.1 H2.out.2 (hSu2) (by have h1 := hSu1.size; have h2 := HSZ.out; omega) (by have h1 := hbu2.size; simp at h1; omega) (there_below (there_own u1 #[.int .u32 0, .int .u32 0, .int .u32 0, .int .u32 0] 131 rfl) hbu2 (by simp))⟩
  ·skip
   go_simp
   have hSa : Below (w.heap.size + 2) ((w.alloc (.cells #[.int .u8 (bt0 s.a : Nat), .int .u8 (bt1 s.a : Nat), .int .u8 (bt2 s.a : Nat), .int .u8 (bt3 s.a : Nat), .int .u8 (bt0 s.b : Nat), .int .u8 (bt1 s.b : Nat), .int .u8 (bt2 s.b : Nat), .int .u8 (bt3 s.b : Nat), .int .u8 (bt0 s.c : Nat), .int .u8 (bt1 s.c : Nat), .int .u8 (bt2 s.c : Nat), .int .u8 (bt3 s.c : Nat), .int .u8 (bt0 s.d : Nat), .int .u8 (bt1 s.d : Nat), .int .u8 (bt2 s.d : Nat), .int .u8 (bt3 s.d : Nat)] 38)).alloc (.cells #[.int .u8 0, .int .u8 0, .int .u8 0, .int .u8 0, .int .u8 0, .int .u8 0, .int .u8 0, .int .u8 0, .int .u8 0, .int .u8 0, .int .u8 0, .int .u8 0, .int .u8 0, .int .u8 0, .int .u8 0, .int .u8 0] 38)) (World.alloc (((w.alloc (.cells #[.int .u8 (bt0 s.a : Nat), .int .u8 (bt1 s.a : Nat), .int .u8 (bt2 s.a : Nat), .int .u8 (bt3 s.a : Nat), .int .u8 (bt0 s.b : Nat), .int .u8 (bt1 s.b : Nat), .int .u8 (bt2 s.b : Nat), .int .u8 (bt3 s.b : Nat), .int .u8 (bt0 s.c : Nat), .int .u8 (bt1 s.c : Nat), .int .u8 (bt2 s.c : Nat), .int .u8 (bt3 s.c : Nat), .int .u8 (bt0 s.d : Nat), .int .u8 (bt1 s.d : Nat), .int .u8 (bt2 s.d : Nat), .int .u8 (bt3 s.d : Nat)] 38)).alloc (.cells #[.int .u8 0, .int .u8 0, .int .u8 0, .int .u8 0, .int .u8 0, .int .u8 0, .int .u8 0, .int .u8 0, .int .u8 0, .int .u8 0, .int .u8 0, .int .u8 0, .int .u8 0, .int .u8 0, .int .u8 0, .int .u8 0] 38))).drew (.cells #[.int .u32 0, .int .u32 0, .int .u32 0, .int .u32 0] 131)) := (hS0).alloc (by simp) _
   refine hK.out _ _ hSa (fun _ => ?_)
   clear hK K
   try simp only [pU]
   have hown : World.there (World.alloc (((w.alloc (.cells #[.int .u8 (bt0 s.a : Nat), .int .u8 (bt1 s.a : Nat), .int .u8 (bt2 s.a : Nat), .int .u8 (bt3 s.a : Nat), .int .u8 (bt0 s.b : Nat), .int .u8 (bt1 s.b : Nat), .int .u8 (bt2 s.b : Nat), .int .u8 (bt3 s.b : Nat), .int .u8 (bt0 s.c : Nat), .int .u8 (bt1 s.c : Nat), .int .u8 (bt2 s.c : Nat), .int .u8 (bt3 s.c : Nat), .int .u8 (bt0 s.d : Nat), .int .u8 (bt1 s.d : Nat), .int .u8 (bt2 s.d : Nat), .int .u8 (bt3 s.d : Nat)] 38)).alloc (.cells #[.int .u8 0, .int .u8 0, .int .u8 0, .int .u8 0, .int .u8 0, .int .u8 0, .int .u8 0, .int .u8 0, .int .u8 0, .int .u8 0, .int .u8 0, .int .u8 0, .int .u8 0, .int .u8 0, .int .u8 0, .int .u8 0] 38))).drew (.cells #[.int .u32 0, .int .u32 0, .int .u32 0, .int .u32 0] 131)) (w.heap.size + 1 + 1) 0 4 := by have h := there_own (((w.alloc (.cells #[.int .u8 (bt0 s.a : Nat), .int .u8 (bt1 s.a : Nat), .int .u8 (bt2 s.a : Nat), .int .u8 (bt3 s.a : Nat), .int .u8 (bt0 s.b : Nat), .int .u8 (bt1 s.b : Nat), .int .u8 (bt2 s.b : Nat), .int .u8 (bt3 s.b : Nat), .int .u8 (bt0 s.c : Nat), .int .u8 (bt1 s.c : Nat), .int .u8 (bt2 s.c : Nat), .int .u8 (bt3 s.c : Nat), .int .u8 (bt0 s.d : Nat), .int .u8 (bt1 s.d : Nat), .int .u8 (bt2 s.d : Nat), .int .u8 (bt3 s.d : Nat)] 38)).alloc (.cells #[.int .u8 0, .int .u8 0, .int .u8 0, .int .u8 0, .int .u8 0, .int .u8 0, .int .u8 0, .int .u8 0, .int .u8 0, .int .u8 0, .int .u8 0, .int .u8 0, .int .u8 0, .int .u8 0, .int .u8 0, .int .u8 0] 38))).drew #[.int .u32 0, .int .u32 0, .int .u32 0, .int .u32 0] 131 (n := 4) rfl; simpa using h
   refine wpAnyH_ready (rs := [2]) (by kernel_rfl) (by simp) ?_
   refine AllReadyH.cons rfl (fun K hK => ?_) AllReadyH.nil
   go_simp
   refine (HFB.out _).mono ?_
   rintro e1 u1 ⟨rfl, hbu1⟩
   have hSu1 : Below (w.heap.size + 2) ((w.alloc (.cells #[.int .u8 (bt0 s.a : Nat), .int .u8 (bt1 s.a : Nat), .int .u8 (bt2 s.a : Nat), .int .u8 (bt3 s.a : Nat), .int .u8 (bt0 s.b : Nat), .int .u8 (bt1 s.b : Nat), .int .u8 (bt2 s.b : Nat), .int .u8 (bt3 s.b : Nat), .int .u8 (bt0 s.c : Nat), .int .u8 (bt1 s.c : Nat), .int .u8 (bt2 s.c : Nat), .int .u8 (bt3 s.c : Nat), .int .u8 (bt0 s.d : Nat), .int .u8 (bt1 s.d : Nat), .int .u8 (bt2 s.d : Nat), .int .u8 (bt3 s.d : Nat)] 38)).alloc (.cells #[.int .u8 0, .int .u8 0, .int .u8 0, .int .u8 0, .int .u8 0, .int .u8 0, .int .u8 0, .int .u8 0, .int .u8 0, .int .u8 0, .int .u8 0, .int .u8 0, .int .u8 0, .int .u8 0, .int .u8 0, .int .u8 0] 38)) u1 := (hSa).trans (hbu1.mono (Nat.le_trans (Nat.le_of_eq HSZ.out.symm) (hSa).size))
   go_wp2_with fail
   refine hK.out _ _ hSu1 (fun _ => ?_)
   clear hK K
   try simp only [pU]
   refine wpAnyH_ready (rs := [7]) (by kernel_rfl) (by simp) ?_
   refine AllReadyH.cons rfl (fun K hK => ?_) AllReadyH.nil
   go_simp
   refine (HA0.out _ (HCS.out _ (hSu1))).mono ?_
   rintro e2 u2 ⟨rfl, hbu2⟩
   have hSu2 : Below (w.heap.size + 2) ((w.alloc (.cells #[.int .u8 (bt0 s.a : Nat), .int .u8 (bt1 s.a : Nat), .int .u8 (bt2 s.a : Nat), .int .u8 (bt3 s.a : Nat), .int .u8 (bt0 s.b : Nat), .int .u8 (bt1 s.b : Nat), .int .u8 (bt2 s.b : Nat), .int .u8 (bt3 s.b : Nat), .int .u8 (bt0 s.c : Nat), .int .u8 (bt1 s.c : Nat), .int .u8 (bt2 s.c : Nat), .int .u8 (bt3 s.c : Nat), .int .u8 (bt0 s.d : Nat), .int .u8 (bt1 s.d : Nat), .int .u8 (bt2 s.d : Nat), .int .u8 (bt3 s.d : Nat)] 38)).alloc (.cells #[.int .u8 0, .int .u8 0, .int .u8 0, .int .u8 0, .int .u8 0, .int .u8 0, .int .u8 0, .int .u8 0, .int .u8 0, .int .u8 0, .int .u8 0, .int .u8 0, .int .u8 0, .int .u8 0, .int .u8 0, .int .u8 0] 38)) u2 := (hSu1).trans (hbu2.mono (Nat.le_trans (Nat.le_of_eq HSZ.out.symm) (hSu1).size))
   go_wp2_with fail
   refine hK.out _ _ hSu2 (fun _ => ?_)
   clear hK K
   try simp only [pU]
   refine wpAnyH_ready (rs := [9]) (by kernel_rfl) (by simp) ?_
   refine AllReadyH.cons rfl (fun K hK => ?_) AllReadyH.nil
   rw [if_pos (by rfl)]
   refine wp_store_mid 131 (.tmp 5) (.tmp 14) rfl _ 0 #[.int .u32 (t0 : Nat), .int .u32 (t1 : Nat), .int .u32 (t2 : Nat), .int .u32 (t3 : Nat)] rfl rfl ((there_below (there_below hown hbu1 (by simp)) hbu2 (by have h3 := hbu1.size; simp at h3; omega))) size115 (by kernel_rfl) ?_
   refine hK.out _ _ (below_setCells _ (by simp) _ _ _ (hSu2)) (fun _ => ?_)
   clear hK K
   refine wpAnyH_done (by kernel_rfl) ?_ _
   refine NoPanic.normal ?_
   go_wp2_with fail
   go_meet
   exact ⟨_, rfl, DecAt.mk' (u' := w) H2.out.1 H2.out.2 (hSu2) (by simp) (by have h1 := hbu2.size; have h3 := hbu1.size; simp at h1 h3; omega) ((there_below (there_below hown hbu1 (by simp)) hbu2 (by have h3 := hbu1.size; simp at h3; omega)))⟩
 case rest =>
  obtain ⟨A, rfl, HD⟩ := hcut
  generalize (.agg #[.int .u8 (bt0 s.a : Nat), .int .u8 (bt1 s.a : Nat), .int .u8 (bt2 s.a : Nat), .int .u8 (bt3 s.a : Nat), .int .u8 (bt0 s.b : Nat), .int .u8 (bt1 s.b : Nat), .int .u8 (bt2 s.b : Nat), .int .u8 (bt3 s.b : Nat), .int .u8 (bt0 s.c : Nat), .int .u8 (bt1 s.c : Nat), .int .u8 (bt2 s.c : Nat), .int .u8 (bt3 s.c : Nat), .int .u8 (bt0 s.d : Nat), .int .u8 (bt1 s.d : Nat), .int .u8 (bt2 s.d : Nat), .int .u8 (bt3 s.d : Nat)] : Value) = bl
  clear HFB HA0 HSZ gr gl HCS H2
  have HCd : Hid (Ciph wc g o nr K) := HC.out.below HD.out.old HC.out.here
  have HgA : Hid (g < A) := by have h1 := HC.out.here; have h2 := HD.out.far; show g < A; omega
  have hrd0 : wc.cell? ⟨g, o, none⟩ = some (.int .i64 (nr : Nat)) := HCd.out.rounds
  go_wp2
  clear hrd0
  go_loopw [6] (fun i wr => ∃ r x0 x1 x2 x3 : Nat, r < nr ∧ i = .int .i64 (r : Nat) ∧ Hid (itD K (nr - 1) ⟨t0, t1, t2, t3⟩ = itD K r ⟨x0, x1, x2, x3⟩) ∧ Hid (Below A wc wr ∧ A < wr.heap.size ∧ wr.rangeAt A 0 [.int .u32 (x0 : Nat), .int .u32 (x1 : Nat), .int .u32 (x2 : Nat), .int .u32 (x3 : Nat)] ∧ wr.there A 0 4)) (fun i _ => (intOf i).toNat)
  case atStart => exact ⟨nr - 1, t0, t1, t2, t3, by omega, val_eq (by omega), (Eq.refl (itD K (nr - 1) ⟨t0, t1, t2, t3⟩)), Below.refl _ _, HD.out.here, HD.out.cells, HD.out.room⟩
  case round =>
   obtain ⟨r, x0, x1, x2, x3, hr, rfl, HX, HW⟩ := hrel
   have HCr : Hid (Ciph wr g o nr K) := HCd.out.below HW.out.1 HgA.out
   cases r with
   | succ r =>
    obtain ⟨⟨m0, m1, m2, m3⟩, HM⟩ : ∃ m, Hid (m = undoS ⟨x0, x1, x2, x3⟩) := ⟨_, rfl⟩
    obtain ⟨⟨n0, n1, n2, n3⟩, HN⟩ : ∃ m, Hid (m = addK K (r + 1) ⟨m0, m1, m2, m3⟩) := ⟨_, rfl⟩
    obtain ⟨⟨y0, y1, y2, y3⟩, HY⟩ : ∃ m, Hid (m = unmS ⟨n0, n1, n2, n3⟩) := ⟨_, rfl⟩
    have HMok : Hid (W4.ok ⟨m0, m1, m2, m3⟩) := by show W4.ok _; rw [HM.out]; exact undoS_ok _
    have hgA1 : g < A + 1 := Nat.lt_succ_of_lt HgA.out
    have k0 : Hid (∀ u, Below (A + 1) wr u → Calls Tryz.prog 79 #[.pointer (some ⟨g, o, none⟩), .int .u32 (x0 : Nat), .int .u32 (x3 : Nat), .int .u32 (x2 : Nat), .int .u32 (x1 : Nat)] u fun e u' => e = .returned (.int .u32 (m0 : Nat)) ∧ Below (A + 1) wr u') := undo_c HCr.out hgA1 x0 x3 x2 x1 m0 (congrArg W4.a HM.out)
    have k1 : Hid (∀ u, Below (A + 1) wr u → Calls Tryz.prog 79 #[.pointer (some ⟨g, o, none⟩), .int .u32 (x1 : Nat), .int .u32 (x0 : Nat), .int .u32 (x3 : Nat), .int .u32 (x2 : Nat)] u fun e u' => e = .returned (.int .u32 (m1 : Nat)) ∧ Below (A + 1) wr u') := undo_c HCr.out hgA1 x1 x0 x3 x2 m1 (congrArg W4.b HM.out)
    have k2 : Hid (∀ u, Below (A + 1) wr u → Calls Tryz.prog 79 #[.pointer (some ⟨g, o, none⟩), .int .u32 (x2 : Nat), .int .u32 (x1 : Nat), .int .u32 (x0 : Nat), .int .u32 (x3 : Nat)] u fun e u' => e = .returned (.int .u32 (m2 : Nat)) ∧ Below (A + 1) wr u') := undo_c HCr.out hgA1 x2 x1 x0 x3 m2 (congrArg W4.c HM.out)
    have k3 : Hid (∀ u, Below (A + 1) wr u → Calls Tryz.prog 79 #[.pointer (some ⟨g, o, none⟩), .int .u32 (x3 : Nat), .int .u32 (x2 : Nat), .int .u32 (x1 : Nat), .int .u32 (x0 : Nat)] u fun e u' => e = .returned (.int .u32 (m3 : Nat)) ∧ Below (A + 1) wr u') := undo_c HCr.out hgA1 x3 x2 x1 x0 m3 (congrArg W4.d HM.out)
    have ka : Hid (∀ u, Below (A + 1) wr u → Calls Tryz.prog 72 #[.pointer (some ⟨g, o, none⟩), .agg #[.int .u32 (m0 : Nat), .int .u32 (m1 : Nat), .int .u32 (m2 : Nat), .int .u32 (m3 : Nat)], .int .i64 ((r + 1 : Nat) : Int)] u fun e u' => e = .returned (.agg #[.int .u32 (n0 : Nat), .int .u32 (n1 : Nat), .int .u32 (n2 : Nat), .int .u32 (n3 : Nat)]) ∧ Below (A + 1) wr u') := add_c HCr.out hgA1 HW.out.2.1 (r + 1) (Nat.le_of_lt hr) ⟨m0, m1, m2, m3⟩ ⟨n0, n1, n2, n3⟩ HMok.out HN.out
    have g0 : Hid (∀ u, Below (A + 1) wr u → u.cell? ⟨A, 0, none⟩ = some (.int .u32 (x0 : Nat))) := fun u hu => (hu.cell (Nat.lt_succ_self A)).trans (range4 HW.out.2.2.1).1
    have g1 : Hid (∀ u, Below (A + 1) wr u → u.cell? ⟨A, 1, none⟩ = some (.int .u32 (x1 : Nat))) := fun u hu => (hu.cell (Nat.lt_succ_self A)).trans (range4 HW.out.2.2.1).2.1
    have g2 : Hid (∀ u, Below (A + 1) wr u → u.cell? ⟨A, 2, none⟩ = some (.int .u32 (x2 : Nat))) := fun u hu => (hu.cell (Nat.lt_succ_self A)).trans (range4 HW.out.2.2.1).2.2.1
    have g3 : Hid (∀ u, Below (A + 1) wr u → u.cell? ⟨A, 3, none⟩ = some (.int .u32 (x3 : Nat))) := fun u hu => (hu.cell (Nat.lt_succ_self A)).trans (range4 HW.out.2.2.1).2.2.2
    clear hgA1
    obtain ⟨r1, hr1⟩ : ∃ r1 : Nat, r1 = r + 1 := ⟨_, rfl⟩
    rw [← hr1] at ka ⊢
    have hpos : (0 : Int) < (r1 : Int) := by omega
    have HR1 : Hid (r1 = r + 1) := hr1
    clear hr1
    go_upto_region 5 with fail
    refine dec_r5 _ _ _ _ _ _ _ _ _ _ _ _ _ _ _ _ _ _ _ _ _ _ _ _ _ _ _ _ _ _ _ _ _ _ _ _ _ _ _ _ _ _ _ _ _ _ _ _ _ _ _ _ _ _ _ _ _ _ _ _ _ _ _ _ _ _ _ _ _ _ _ _ _ _ _ _ _ _ _ _ _ _ _ _ _ _ _ _ _ _ _ _ _ _ _ _ _ _ _ _ _ _ _ _ _ _ _ _ _ _ _ _ _ _ _ _ _ _ _ _ _ _ _ _ _ _ g o A r1 x0 x1 x2 x3 m0 m1 m2 m3 n0 n1 n2 n3 wr k0 k1 k2 k3 ka g0 g1 g2 g3 HW.out.2.2.2 (fun u4 hu4 => ?_)
    have Hw5 : Hid (Below A wc (u4.setCells A 0 [.int .u32 (n0 : Nat), .int .u32 (n1 : Nat), .int .u32 (n2 : Nat), .int .u32 (n3 : Nat)]) ∧ A < (u4.setCells A 0 [.int .u32 (n0 : Nat), .int .u32 (n1 : Nat), .int .u32 (n2 : Nat), .int .u32 (n3 : Nat)]).heap.size ∧ (u4.setCells A 0 [.int .u32 (n0 : Nat), .int .u32 (n1 : Nat), .int .u32 (n2 : Nat), .int .u32 (n3 : Nat)]).rangeAt A 0 [.int .u32 (n0 : Nat), .int .u32 (n1 : Nat), .int .u32 (n2 : Nat), .int .u32 (n3 : Nat)] ∧ (u4.setCells A 0 [.int .u32 (n0 : Nat), .int .u32 (n1 : Nat), .int .u32 (n2 : Nat), .int .u32 (n3 : Nat)]).there A 0 4) := by
     obtain ⟨p1, p2, p3, p4⟩ := HW.out
     have ht4 := there_below p4 hu4 (Nat.lt_succ_self A)
     refine ⟨below_setCells A (Nat.le_refl _) _ _ _ (p1.trans (hu4.mono (Nat.le_succ A))), ?_, World.rangeAt_setCells_same _ _ _ _ ht4, World.there_setCells ht4 _ _ _⟩
     rw [size_setCells]
     exact Nat.lt_of_lt_of_le p2 hu4.size
    generalize u4.setCells A 0 [.int .u32 (n0 : Nat), .int .u32 (n1 : Nat), .int .u32 (n2 : Nat), .int .u32 (n3 : Nat)] = w5 at Hw5 ⊢
    clear hu4 k0 k1 k2 k3 ka g0 g1 g2 g3
    have HC5 : Hid (Ciph w5 g o nr K) := HCd.out.below Hw5.out.1 HgA.out
    have hgA1 : g < A + 1 := Nat.lt_succ_of_lt HgA.out
    have k0 : Hid (∀ u, Below (A + 1) w5 u → Calls Tryz.prog 80 #[.pointer (some ⟨g, o, none⟩), .int .u32 (n0 : Nat)] u fun e u' => e = .returned (.int .u32 (y0 : Nat)) ∧ Below (A + 1) w5 u') := unmix_c HC5.out hgA1 n0 y0 (congrArg W4.a HY.out)
    have k1 : Hid (∀ u, Below (A + 1) w5 u → Calls Tryz.prog 80 #[.pointer (some ⟨g, o, none⟩), .int .u32 (n1 : Nat)] u fun e u' => e = .returned (.int .u32 (y1 : Nat)) ∧ Below (A + 1) w5 u') := unmix_c HC5.out hgA1 n1 y1 (congrArg W4.b HY.out)
    have k2 : Hid (∀ u, Below (A + 1) w5 u → Calls Tryz.prog 80 #[.pointer (some ⟨g, o, none⟩), .int .u32 (n2 : Nat)] u fun e u' => e = .returned (.int .u32 (y2 : Nat)) ∧ Below (A + 1) w5 u') := unmix_c HC5.out hgA1 n2 y2 (congrArg W4.c HY.out)
    have k3 : Hid (∀ u, Below (A + 1) w5 u → Calls Tryz.prog 80 #[.pointer (some ⟨g, o, none⟩), .int .u32 (n3 : Nat)] u fun e u' => e = .returned (.int .u32 (y3 : Nat)) ∧ Below (A + 1) w5 u') := unmix_c HC5.out hgA1 n3 y3 (congrArg W4.d HY.out)
    have g0 : Hid (∀ u, Below (A + 1) w5 u → u.cell? ⟨A, 0, none⟩ = some (.int .u32 (n0 : Nat))) := fun u hu => (hu.cell (Nat.lt_succ_self A)).trans (range4 Hw5.out.2.2.1).1
    have g1 : Hid (∀ u, Below (A + 1) w5 u → u.cell? ⟨A, 1, none⟩ = some (.int .u32 (n1 : Nat))) := fun u hu => (hu.cell (Nat.lt_succ_self A)).trans (range4 Hw5.out.2.2.1).2.1
    have g2 : Hid (∀ u, Below (A + 1) w5 u → u.cell? ⟨A, 2, none⟩ = some (.int .u32 (n2 : Nat))) := fun u hu => (hu.cell (Nat.lt_succ_self A)).trans (range4 Hw5.out.2.2.1).2.2.1
    have g3 : Hid (∀ u, Below (A + 1) w5 u → u.cell? ⟨A, 3, none⟩ = some (.int .u32 (n3 : Nat))) := fun u hu => (hu.cell (Nat.lt_succ_self A)).trans (range4 Hw5.out.2.2.1).2.2.2
    clear hgA1
    go_upto_region 6 with fail
    refine dec_r6 _ _ _ _ _ _ _ _ _ _ _ _ _ _ _ _ _ _ _ _ _ _ _ _ _ _ _ _ _ _ _ _ _ _ _ _ _ _ _ _ _ _ _ _ _ _ _ _ _ _ _ _ _ _ _ _ _ _ _ _ _ _ _ _ _ _ _ _ _ _ _ _ _ _ _ _ _ _ _ _ _ _ _ _ _ _ _ _ _ _ _ _ _ _ _ _ _ _ _ _ _ _ _ _ _ _ _ _ _ _ _ _ _ _ _ _ _ _ _ _ _ _ _ _ _ _ _ g o A n0 n1 n2 n3 y0 y1 y2 y3 w5 k0 k1 k2 k3 g0 g1 g2 g3 Hw5.out.2.2.2 (fun v3 hv3 => ?_)
    have Hw6 : Hid (Below A wc (v3.setCells A 0 [.int .u32 (y0 : Nat), .int .u32 (y1 : Nat), .int .u32 (y2 : Nat), .int .u32 (y3 : Nat)]) ∧ A < (v3.setCells A 0 [.int .u32 (y0 : Nat), .int .u32 (y1 : Nat), .int .u32 (y2 : Nat), .int .u32 (y3 : Nat)]).heap.size ∧ (v3.setCells A 0 [.int .u32 (y0 : Nat), .int .u32 (y1 : Nat), .int .u32 (y2 : Nat), .int .u32 (y3 : Nat)]).rangeAt A 0 [.int .u32 (y0 : Nat), .int .u32 (y1 : Nat), .int .u32 (y2 : Nat), .int .u32 (y3 : Nat)] ∧ (v3.setCells A 0 [.int .u32 (y0 : Nat), .int .u32 (y1 : Nat), .int .u32 (y2 : Nat), .int .u32 (y3 : Nat)]).there A 0 4) := by
     obtain ⟨p1, p2, p3, p4⟩ := Hw5.out
     have ht4 := there_below p4 hv3 (Nat.lt_succ_self A)
     refine ⟨below_setCells A (Nat.le_refl _) _ _ _ (p1.trans (hv3.mono (Nat.le_succ A))), ?_, World.rangeAt_setCells_same _ _ _ _ ht4, World.there_setCells ht4 _ _ _⟩
     rw [size_setCells]
     exact Nat.lt_of_lt_of_le p2 hv3.size
    generalize v3.setCells A 0 [.int .u32 (y0 : Nat), .int .u32 (y1 : Nat), .int .u32 (y2 : Nat), .int .u32 (y3 : Nat)] = w6 at Hw6 ⊢
    clear hv3 k0 k1 k2 k3 g0 g1 g2 g3
    go_wp2
    refine ⟨⟨r, y0, y1, y2, y3, by omega, val_eq (by have := HR1.out; unfold wrap64; omega), ?_, Hw6.out⟩, ?_⟩
    ·show _ = _
     rw [HX.out, HY.out, HN.out, HM.out, itD_succ, stepD]
    ·have := HR1.out; simp only [intOf]; unfold wrap64; omega
   | zero =>
    obtain ⟨⟨m0, m1, m2, m3⟩, HM⟩ : ∃ m, Hid (m = undoS ⟨x0, x1, x2, x3⟩) := ⟨_, rfl⟩
    obtain ⟨⟨n0, n1, n2, n3⟩, HN⟩ : ∃ m, Hid (m = addK K 0 ⟨m0, m1, m2, m3⟩) := ⟨_, rfl⟩
    have HMok : Hid (W4.ok ⟨m0, m1, m2, m3⟩) := by show W4.ok _; rw [HM.out]; exact undoS_ok _
    have hgA1 : g < A + 1 := Nat.lt_succ_of_lt HgA.out
    have k0 : Hid (∀ u, Below (A + 1) wr u → Calls Tryz.prog 79 #[.pointer (some ⟨g, o, none⟩), .int .u32 (x0 : Nat), .int .u32 (x3 : Nat), .int .u32 (x2 : Nat), .int .u32 (x1 : Nat)] u fun e u' => e = .returned (.int .u32 (m0 : Nat)) ∧ Below (A + 1) wr u') := undo_c HCr.out hgA1 x0 x3 x2 x1 m0 (congrArg W4.a HM.out)
    have k1 : Hid (∀ u, Below (A + 1) wr u → Calls Tryz.prog 79 #[.pointer (some ⟨g, o, none⟩), .int .u32 (x1 : Nat), .int .u32 (x0 : Nat), .int .u32 (x3 : Nat), .int .u32 (x2 : Nat)] u fun e u' => e = .returned (.int .u32 (m1 : Nat)) ∧ Below (A + 1) wr u') := undo_c HCr.out hgA1 x1 x0 x3 x2 m1 (congrArg W4.b HM.out)
    have k2 : Hid (∀ u, Below (A + 1) wr u → Calls Tryz.prog 79 #[.pointer (some ⟨g, o, none⟩), .int .u32 (x2 : Nat), .int .u32 (x1 : Nat), .int .u32 (x0 : Nat), .int .u32 (x3 : Nat)] u fun e u' => e = .returned (.int .u32 (m2 : Nat)) ∧ Below (A + 1) wr u') := undo_c HCr.out hgA1 x2 x1 x0 x3 m2 (congrArg W4.c HM.out)
    have k3 : Hid (∀ u, Below (A + 1) wr u → Calls Tryz.prog 79 #[.pointer (some ⟨g, o, none⟩), .int .u32 (x3 : Nat), .int .u32 (x2 : Nat), .int .u32 (x1 : Nat), .int .u32 (x0 : Nat)] u fun e u' => e = .returned (.int .u32 (m3 : Nat)) ∧ Below (A + 1) wr u') := undo_c HCr.out hgA1 x3 x2 x1 x0 m3 (congrArg W4.d HM.out)
    have ka : Hid (∀ u, Below (A + 1) wr u → Calls Tryz.prog 72 #[.pointer (some ⟨g, o, none⟩), .agg #[.int .u32 (m0 : Nat), .int .u32 (m1 : Nat), .int .u32 (m2 : Nat), .int .u32 (m3 : Nat)], .int .i64 0] u fun e u' => e = .returned (.agg #[.int .u32 (n0 : Nat), .int .u32 (n1 : Nat), .int .u32 (n2 : Nat), .int .u32 (n3 : Nat)]) ∧ Below (A + 1) wr u') := add_c HCr.out hgA1 HW.out.2.1 0 (Nat.zero_le _) ⟨m0, m1, m2, m3⟩ ⟨n0, n1, n2, n3⟩ HMok.out HN.out
    have kt : Hid (∀ u, Calls Tryz.prog 75 #[.agg #[.int .u32 (n0 : Nat), .int .u32 (n1 : Nat), .int .u32 (n2 : Nat), .int .u32 (n3 : Nat)]] u fun e u' => e = .returned (.agg #[.int .u8 (bt0 n0 : Nat), .int .u8 (bt1 n0 : Nat), .int .u8 (bt2 n0 : Nat), .int .u8 (bt3 n0 : Nat), .int .u8 (bt0 n1 : Nat), .int .u8 (bt1 n1 : Nat), .int .u8 (bt2 n1 : Nat), .int .u8 (bt3 n1 : Nat), .int .u8 (bt0 n2 : Nat), .int .u8 (bt1 n2 : Nat), .int .u8 (bt2 n2 : Nat), .int .u8 (bt3 n2 : Nat), .int .u8 (bt0 n3 : Nat), .int .u8 (bt1 n3 : Nat), .int .u8 (bt2 n3 : Nat), .int .u8 (bt3 n3 : Nat)]) ∧ Below u.heap.size u u') := to_c ⟨n0, n1, n2, n3⟩
    have g0 : Hid (∀ u, Below (A + 1) wr u → u.cell? ⟨A, 0, none⟩ = some (.int .u32 (x0 : Nat))) := fun u hu => (hu.cell (Nat.lt_succ_self A)).trans (range4 HW.out.2.2.1).1
    have g1 : Hid (∀ u, Below (A + 1) wr u → u.cell? ⟨A, 1, none⟩ = some (.int .u32 (x1 : Nat))) := fun u hu => (hu.cell (Nat.lt_succ_self A)).trans (range4 HW.out.2.2.1).2.1
    have g2 : Hid (∀ u, Below (A + 1) wr u → u.cell? ⟨A, 2, none⟩ = some (.int .u32 (x2 : Nat))) := fun u hu => (hu.cell (Nat.lt_succ_self A)).trans (range4 HW.out.2.2.1).2.2.1
    have g3 : Hid (∀ u, Below (A + 1) wr u → u.cell? ⟨A, 3, none⟩ = some (.int .u32 (x3 : Nat))) := fun u hu => (hu.cell (Nat.lt_succ_self A)).trans (range4 HW.out.2.2.1).2.2.2
    clear hgA1
    go_wp2
    have HT5 : Hid (∀ u4 u5, Below (A + 1) wr u4 → Below u4.heap.size u4 u5 → u5.there (w.heap.size + 1) 0 16 ∧ Below w.heap.size w u5) := fun u4 u5 hu4 hu5 => by
     obtain ⟨p1, p2, p3, p4⟩ := HW.out
     have hA := HD.out.far
     have hs4 := hu4.size
     have e1 := there_below HD.out.res p1 (by omega)
     have e2 := there_below e1 hu4 (by omega)
     exact ⟨there_below e2 hu5 (by omega), ((HD.out.old.trans (p1.mono (by omega))).trans (hu4.mono (by omega))).trans (hu5.mono (by omega))⟩
    refine dec_r7 _ _ _ _ _ _ _ _ _ _ _ _ _ _ _ _ _ _ _ _ _ _ _ _ _ _ _ _ _ _ _ _ _ _ _ _ _ _ _ _ _ _ _ _ _ _ _ _ _ _ _ _ _ _ _ _ _ _ _ _ _ _ _ _ _ _ _ _ _ _ _ _ _ _ _ _ _ _ _ _ _ _ _ _ _ _ _ _ _ _ _ _ _ _ _ _ _ _ _ _ _ _ _ _ _ _ _ _ _ _ _ _ _ _ _ _ _ _ _ _ _ _ _ _ _ _ g o A (w.heap.size + 1) x0 x1 x2 x3 m0 m1 m2 m3 n0 n1 n2 n3 wr k0 k1 k2 k3 ka kt g0 g1 g2 g3 (fun u4 u5 h4 h5 => (HT5.out u4 u5 h4 h5).1) (fun u4 u5 hu4 hu5 => ?_)
    have HR : Hid ((u5.setCells (w.heap.size + 1) 0 [.int .u8 (bt0 n0 : Nat), .int .u8 (bt1 n0 : Nat), .int .u8 (bt2 n0 : Nat), .int .u8 (bt3 n0 : Nat), .int .u8 (bt0 n1 : Nat), .int .u8 (bt1 n1 : Nat), .int .u8 (bt2 n1 : Nat), .int .u8 (bt3 n1 : Nat), .int .u8 (bt0 n2 : Nat), .int .u8 (bt1 n2 : Nat), .int .u8 (bt2 n2 : Nat), .int .u8 (bt3 n2 : Nat), .int .u8 (bt0 n3 : Nat), .int .u8 (bt1 n3 : Nat), .int .u8 (bt2 n3 : Nat), .int .u8 (bt3 n3 : Nat)]).rangeAt (w.heap.size + 1) 0 [.int .u8 (bt0 n0 : Nat), .int .u8 (bt1 n0 : Nat), .int .u8 (bt2 n0 : Nat), .int .u8 (bt3 n0 : Nat), .int .u8 (bt0 n1 : Nat), .int .u8 (bt1 n1 : Nat), .int .u8 (bt2 n1 : Nat), .int .u8 (bt3 n1 : Nat), .int .u8 (bt0 n2 : Nat), .int .u8 (bt1 n2 : Nat), .int .u8 (bt2 n2 : Nat), .int .u8 (bt3 n2 : Nat), .int .u8 (bt0 n3 : Nat), .int .u8 (bt1 n3 : Nat), .int .u8 (bt2 n3 : Nat), .int .u8 (bt3 n3 : Nat)] ∧ Below w.heap.size w (u5.setCells (w.heap.size + 1) 0 [.int .u8 (bt0 n0 : Nat), .int .u8 (bt1 n0 : Nat), .int .u8 (bt2 n0 : Nat), .int .u8 (bt3 n0 : Nat), .int .u8 (bt0 n1 : Nat), .int .u8 (bt1 n1 : Nat), .int .u8 (bt2 n1 : Nat), .int .u8 (bt3 n1 : Nat), .int .u8 (bt0 n2 : Nat), .int .u8 (bt1 n2 : Nat), .int .u8 (bt2 n2 : Nat), .int .u8 (bt3 n2 : Nat), .int .u8 (bt0 n3 : Nat), .int .u8 (bt1 n3 : Nat), .int .u8 (bt2 n3 : Nat), .int .u8 (bt3 n3 : Nat)])) :=
     ⟨World.rangeAt_setCells_same _ _ _ _ (HT5.out u4 u5 hu4 hu5).1, below_setCells _ (Nat.le_succ _) _ _ _ (HT5.out u4 u5 hu4 hu5).2⟩
    generalize u5.setCells (w.heap.size + 1) 0 [.int .u8 (bt0 n0 : Nat), .int .u8 (bt1 n0 : Nat), .int .u8 (bt2 n0 : Nat), .int .u8 (bt3 n0 : Nat), .int .u8 (bt0 n1 : Nat), .int .u8 (bt1 n1 : Nat), .int .u8 (bt2 n1 : Nat), .int .u8 (bt3 n1 : Nat), .int .u8 (bt0 n2 : Nat), .int .u8 (bt1 n2 : Nat), .int .u8 (bt2 n2 : Nat), .int .u8 (bt3 n2 : Nat), .int .u8 (bt0 n3 : Nat), .int .u8 (bt1 n3 : Nat), .int .u8 (bt2 n3 : Nat), .int .u8 (bt3 n3 : Nat)] = w6 at HR ⊢
    have HE : Hid ((⟨n0, n1, n2, n3⟩ : W4) = dcW nr K s) := by
     show _ = _
     have h := HX.out
     rw [HT.out] at h
     rw [HN.out, HM.out, dcW, h, itD_zero]
    clear hu4 hu5 k0 k1 k2 k3 ka kt g0 g1 g2 g3
    go_wp2
    refine ret_array [.int .u8 (bt0 n0 : Nat), .int .u8 (bt1 n0 : Nat), .int .u8 (bt2 n0 : Nat), .int .u8 (bt3 n0 : Nat), .int .u8 (bt0 n1 : Nat), .int .u8 (bt1 n1 : Nat), .int .u8 (bt2 n1 : Nat), .int .u8 (bt3 n1 : Nat), .int .u8 (bt0 n2 : Nat), .int .u8 (bt1 n2 : Nat), .int .u8 (bt2 n2 : Nat), .int .u8 (bt3 n2 : Nat), .int .u8 (bt0 n3 : Nat), .int .u8 (bt1 n3 : Nat), .int .u8 (bt2 n3 : Nat), .int .u8 (bt3 n3 : Nat)] Tryz.results50 rfl HR.out.1 Tryz.underlying38 rfl size42 ⟨?_, HR.out.2⟩
    rw [← HE.out]
    exact rfl
end Go.Proofs.YtgmfiljjogdccabGreatDoor
