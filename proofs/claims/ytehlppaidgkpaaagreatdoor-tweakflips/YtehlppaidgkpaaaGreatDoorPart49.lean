import Derived.Test.YtehlppaidgkpaaaGreatDoorPart00
import Derived.Test.YtehlppaidgkpaaaGreatDoorEnc
import Derived.Test.YtehlppaidgkpaaaGreatDoorDecA
import Derived.Test.YtehlppaidgkpaaaGreatDoorPart32
import Derived.Test.YtehlppaidgkpaaaGreatDoorDecC
import Derived.Test.YtehlppaidgkpaaaGreatDoorPart18
import Derived.Deep.CutRange
import Derived.Test.YtehlppaidgkpaaaGreatDoorPart36
namespace Go.Proofs.YtehlppaidgkpaaaGreatDoor
open Go.RowKit
set_option linter.unusedVariables false
set_option linter.unusedSimpArgs false
theorem Jg (w:World) (C:Array Value) (t:TypeId) {n:Nat} (hn:C.size=n):(w.alloc (.cells C t)).there w.heap.size 0 n:=fun j hj=>by
 subst hn
 refine ⟨?_,World.frozen?_alloc_at C t _ _ rfl⟩
 rw[World.cell?_alloc_at C t _ _ rfl]
 simp
 exact hj
structure Hq (w:World) (t0 t1 t2 t3:Nat) (A:Nat) (u:World):Prop where
 old:Below w.heap.size w u
 res:u.there (w.heap.size+1) 0 16
 far:w.heap.size+2≤A
 here:A<u.heap.size
 cells:u.rangeAt A 0 [.int .u32 (t0:Nat),.int .u32 (t1:Nat),.int .u32 (t2:Nat),.int .u32 (t3:Nat)]
 room:u.there A 0 4
theorem Hq.mk' {w u u':World} {t0 t1 t2 t3 A:Nat} {W2:World} (h2:Below w.heap.size w W2) (ht:W2.there (w.heap.size+1) 0 16) (hb:Below (w.heap.size+2) W2 u) (hA:w.heap.size+2≤A) (hAu:A<u.heap.size) (htA:u.there A 0 4) :
  Hq w t0 t1 t2 t3 A (u.setCells A 0 [.int .u32 (t0:Nat),.int .u32 (t1:Nat),.int .u32 (t2:Nat),.int .u32 (t3:Nat)]):=
 ⟨below_setCells A (by omega) _ _ _ (h2.trans (hb.mono (by omega))),World.there_setCells (Zh ht hb (by omega)) _ _ _,hA,by rw[size_setCells];exact hAu,World.rangeAt_setCells_same _ _ _ _ htA,World.there_setCells htA _ _ _⟩
set_option maxHeartbeats 6400000 in
set_option maxRecDepth 100000 in
theorem Zbg (g o nr : Nat) (K : Nat → Nat) (s : W4) (w : World) (hC : X5 w g o nr K) (hs : s.ok) :
    Calls Tryz.prog 255 #[.pointer (some ⟨g, o, none⟩), s.blk] w fun e w' => e = .returned (dcW nr K s).blk ∧ Below w.heap.size w w' := by
  have HC : Hid (X5 w g o nr K) := hC
  have hnr := hC.most
  have hn1 := hC.some
  clear hC
  have HS : Hid s.ok := hs
  clear hs
  obtain ⟨⟨t0, t1, t2, t3⟩, HT⟩ : ∃ t, Hid (t = Jw K nr s) := ⟨_, rfl⟩
  have HTok : Hid (W4.ok ⟨t0, t1, t2, t3⟩) := by show W4.ok _; rw [HT.out]; exact Kr HC.out.small _ HS.out
  have HFB : Hid (∀ u, Calls Tryz.prog 87 #[.agg #[.int .u8 (bt0 s.a : Nat), .int .u8 (bt1 s.a : Nat), .int .u8 (bt2 s.a : Nat), .int .u8 (bt3 s.a : Nat), .int .u8 (bt0 s.b : Nat), .int .u8 (bt1 s.b : Nat), .int .u8 (bt2 s.b : Nat), .int .u8 (bt3 s.b : Nat), .int .u8 (bt0 s.c : Nat), .int .u8 (bt1 s.c : Nat), .int .u8 (bt2 s.c : Nat), .int .u8 (bt3 s.c : Nat), .int .u8 (bt0 s.d : Nat), .int .u8 (bt1 s.d : Nat), .int .u8 (bt2 s.d : Nat), .int .u8 (bt3 s.d : Nat)]] u fun e u' => e = .returned s.val ∧ Below u.heap.size u u') := fun u => Uc s HS.out u
  have HA0 : Hid (∀ u, X5 u g o nr K → Calls Tryz.prog 86 #[.pointer (some ⟨g, o, none⟩), s.val, .int .i64 (nr : Nat)] u fun e u' => e = .returned (.agg #[.int .u32 (t0 : Nat), .int .u32 (t1 : Nat), .int .u32 (t2 : Nat), .int .u32 (t3 : Nat)]) ∧ Below u.heap.size u u') := Om nr (Nat.le_refl _) s ⟨t0, t1, t2, t3⟩ HS.out HT.out
  have H2 : Hid (Below w.heap.size w ((w.alloc (.cells #[.int .u8 (bt0 s.a : Nat), .int .u8 (bt1 s.a : Nat), .int .u8 (bt2 s.a : Nat), .int .u8 (bt3 s.a : Nat), .int .u8 (bt0 s.b : Nat), .int .u8 (bt1 s.b : Nat), .int .u8 (bt2 s.b : Nat), .int .u8 (bt3 s.b : Nat), .int .u8 (bt0 s.c : Nat), .int .u8 (bt1 s.c : Nat), .int .u8 (bt2 s.c : Nat), .int .u8 (bt3 s.c : Nat), .int .u8 (bt0 s.d : Nat), .int .u8 (bt1 s.d : Nat), .int .u8 (bt2 s.d : Nat), .int .u8 (bt3 s.d : Nat)] 27)).alloc (.cells #[.int .u8 0, .int .u8 0, .int .u8 0, .int .u8 0, .int .u8 0, .int .u8 0, .int .u8 0, .int .u8 0, .int .u8 0, .int .u8 0, .int .u8 0, .int .u8 0, .int .u8 0, .int .u8 0, .int .u8 0, .int .u8 0] 27)) ∧ ((w.alloc (.cells #[.int .u8 (bt0 s.a : Nat), .int .u8 (bt1 s.a : Nat), .int .u8 (bt2 s.a : Nat), .int .u8 (bt3 s.a : Nat), .int .u8 (bt0 s.b : Nat), .int .u8 (bt1 s.b : Nat), .int .u8 (bt2 s.b : Nat), .int .u8 (bt3 s.b : Nat), .int .u8 (bt0 s.c : Nat), .int .u8 (bt1 s.c : Nat), .int .u8 (bt2 s.c : Nat), .int .u8 (bt3 s.c : Nat), .int .u8 (bt0 s.d : Nat), .int .u8 (bt1 s.d : Nat), .int .u8 (bt2 s.d : Nat), .int .u8 (bt3 s.d : Nat)] 27)).alloc (.cells #[.int .u8 0, .int .u8 0, .int .u8 0, .int .u8 0, .int .u8 0, .int .u8 0, .int .u8 0, .int .u8 0, .int .u8 0, .int .u8 0, .int .u8 0, .int .u8 0, .int .u8 0, .int .u8 0, .int .u8 0, .int .u8 0] 27)).there (w.heap.size + 1) 0 16) := ⟨(Ym w _ _ 27 27).1, Kk w _ _ 27 27 rfl⟩
  have HSZ : Hid (((w.alloc (.cells #[.int .u8 (bt0 s.a : Nat), .int .u8 (bt1 s.a : Nat), .int .u8 (bt2 s.a : Nat), .int .u8 (bt3 s.a : Nat), .int .u8 (bt0 s.b : Nat), .int .u8 (bt1 s.b : Nat), .int .u8 (bt2 s.b : Nat), .int .u8 (bt3 s.b : Nat), .int .u8 (bt0 s.c : Nat), .int .u8 (bt1 s.c : Nat), .int .u8 (bt2 s.c : Nat), .int .u8 (bt3 s.c : Nat), .int .u8 (bt0 s.d : Nat), .int .u8 (bt1 s.d : Nat), .int .u8 (bt2 s.d : Nat), .int .u8 (bt3 s.d : Nat)] 27)).alloc (.cells #[.int .u8 0, .int .u8 0, .int .u8 0, .int .u8 0, .int .u8 0, .int .u8 0, .int .u8 0, .int .u8 0, .int .u8 0, .int .u8 0, .int .u8 0, .int .u8 0, .int .u8 0, .int .u8 0, .int .u8 0, .int .u8 0] 27)).heap.size = w.heap.size + 2) := by show _ = _; simp
  have HCS : Hid (∀ u, Below (w.heap.size + 2) ((w.alloc (.cells #[.int .u8 (bt0 s.a : Nat), .int .u8 (bt1 s.a : Nat), .int .u8 (bt2 s.a : Nat), .int .u8 (bt3 s.a : Nat), .int .u8 (bt0 s.b : Nat), .int .u8 (bt1 s.b : Nat), .int .u8 (bt2 s.b : Nat), .int .u8 (bt3 s.b : Nat), .int .u8 (bt0 s.c : Nat), .int .u8 (bt1 s.c : Nat), .int .u8 (bt2 s.c : Nat), .int .u8 (bt3 s.c : Nat), .int .u8 (bt0 s.d : Nat), .int .u8 (bt1 s.d : Nat), .int .u8 (bt2 s.d : Nat), .int .u8 (bt3 s.d : Nat)] 27)).alloc (.cells #[.int .u8 0, .int .u8 0, .int .u8 0, .int .u8 0, .int .u8 0, .int .u8 0, .int .u8 0, .int .u8 0, .int .u8 0, .int .u8 0, .int .u8 0, .int .u8 0, .int .u8 0, .int .u8 0, .int .u8 0, .int .u8 0] 27)) u → X5 u g o nr K) := fun u hu => (HC.out.below H2.out.1 HC.out.here).below hu (by have := HC.out.here; omega)
  have gr : Hid (∀ u, Below (w.heap.size + 2) ((w.alloc (.cells #[.int .u8 (bt0 s.a : Nat), .int .u8 (bt1 s.a : Nat), .int .u8 (bt2 s.a : Nat), .int .u8 (bt3 s.a : Nat), .int .u8 (bt0 s.b : Nat), .int .u8 (bt1 s.b : Nat), .int .u8 (bt2 s.b : Nat), .int .u8 (bt3 s.b : Nat), .int .u8 (bt0 s.c : Nat), .int .u8 (bt1 s.c : Nat), .int .u8 (bt2 s.c : Nat), .int .u8 (bt3 s.c : Nat), .int .u8 (bt0 s.d : Nat), .int .u8 (bt1 s.d : Nat), .int .u8 (bt2 s.d : Nat), .int .u8 (bt3 s.d : Nat)] 27)).alloc (.cells #[.int .u8 0, .int .u8 0, .int .u8 0, .int .u8 0, .int .u8 0, .int .u8 0, .int .u8 0, .int .u8 0, .int .u8 0, .int .u8 0, .int .u8 0, .int .u8 0, .int .u8 0, .int .u8 0, .int .u8 0, .int .u8 0] 27)) u → u.cell? ⟨g, o, none⟩ = some (.int .i64 (nr : Nat))) := fun u hu => (HCS.out u hu).rounds
  have gl : Hid (∀ u, Below (w.heap.size + 2) ((w.alloc (.cells #[.int .u8 (bt0 s.a : Nat), .int .u8 (bt1 s.a : Nat), .int .u8 (bt2 s.a : Nat), .int .u8 (bt3 s.a : Nat), .int .u8 (bt0 s.b : Nat), .int .u8 (bt1 s.b : Nat), .int .u8 (bt2 s.b : Nat), .int .u8 (bt3 s.b : Nat), .int .u8 (bt0 s.c : Nat), .int .u8 (bt1 s.c : Nat), .int .u8 (bt2 s.c : Nat), .int .u8 (bt3 s.c : Nat), .int .u8 (bt0 s.d : Nat), .int .u8 (bt1 s.d : Nat), .int .u8 (bt2 s.d : Nat), .int .u8 (bt3 s.d : Nat)] 27)).alloc (.cells #[.int .u8 0, .int .u8 0, .int .u8 0, .int .u8 0, .int .u8 0, .int .u8 0, .int .u8 0, .int .u8 0, .int .u8 0, .int .u8 0, .int .u8 0, .int .u8 0, .int .u8 0, .int .u8 0, .int .u8 0, .int .u8 0] 27)) u → u.rangeAt w.heap.size 0 [.int .u8 (bt0 s.a : Nat), .int .u8 (bt1 s.a : Nat), .int .u8 (bt2 s.a : Nat), .int .u8 (bt3 s.a : Nat), .int .u8 (bt0 s.b : Nat), .int .u8 (bt1 s.b : Nat), .int .u8 (bt2 s.b : Nat), .int .u8 (bt3 s.b : Nat), .int .u8 (bt0 s.c : Nat), .int .u8 (bt1 s.c : Nat), .int .u8 (bt2 s.c : Nat), .int .u8 (bt3 s.c : Nat), .int .u8 (bt0 s.d : Nat), .int .u8 (bt1 s.d : Nat), .int .u8 (bt2 s.d : Nat), .int .u8 (bt3 s.d : Nat)]) := fun u hu j v hv => (hu.cell (by simp)).trans ((by simpa using (Ym w #[.int .u8 (bt0 s.a : Nat), .int .u8 (bt1 s.a : Nat), .int .u8 (bt2 s.a : Nat), .int .u8 (bt3 s.a : Nat), .int .u8 (bt0 s.b : Nat), .int .u8 (bt1 s.b : Nat), .int .u8 (bt2 s.b : Nat), .int .u8 (bt3 s.b : Nat), .int .u8 (bt0 s.c : Nat), .int .u8 (bt1 s.c : Nat), .int .u8 (bt2 s.c : Nat), .int .u8 (bt3 s.c : Nat), .int .u8 (bt0 s.d : Nat), .int .u8 (bt1 s.d : Nat), .int .u8 (bt2 s.d : Nat), .int .u8 (bt3 s.d : Nat)] #[.int .u8 0, .int .u8 0, .int .u8 0, .int .u8 0, .int .u8 0, .int .u8 0, .int .u8 0, .int .u8 0, .int .u8 0, .int .u8 0, .int .u8 0, .int .u8 0, .int .u8 0, .int .u8 0, .int .u8 0, .int .u8 0] 27 27).2 j v (by simpa using hv)))
  show Calls Tryz.prog 255 #[.pointer (some ⟨g, o, none⟩), .agg #[.int .u8 (bt0 s.a : Nat), .int .u8 (bt1 s.a : Nat), .int .u8 (bt2 s.a : Nat), .int .u8 (bt3 s.a : Nat), .int .u8 (bt0 s.b : Nat), .int .u8 (bt1 s.b : Nat), .int .u8 (bt2 s.b : Nat), .int .u8 (bt3 s.b : Nat), .int .u8 (bt0 s.c : Nat), .int .u8 (bt1 s.c : Nat), .int .u8 (bt2 s.c : Nat), .int .u8 (bt3 s.c : Nat), .int .u8 (bt0 s.d : Nat), .int .u8 (bt1 s.d : Nat), .int .u8 (bt2 s.d : Nat), .int .u8 (bt3 s.d : Nat)]] w _
  go_enter Tryz.func255, Tryz.ntmps255
  go_upto_region 1 with fail
  go_cut [5] from 7 to 14 (fun p wx => ∃ A, p = .pointer (some ⟨A, 0, none⟩) ∧ Hid (Hq w t0 t1 t2 t3 A wx))
  case first =>
    have hS0 : Below (w.heap.size + 2) ((w.alloc (.cells #[.int .u8 (bt0 s.a : Nat), .int .u8 (bt1 s.a : Nat), .int .u8 (bt2 s.a : Nat), .int .u8 (bt3 s.a : Nat), .int .u8 (bt0 s.b : Nat), .int .u8 (bt1 s.b : Nat), .int .u8 (bt2 s.b : Nat), .int .u8 (bt3 s.b : Nat), .int .u8 (bt0 s.c : Nat), .int .u8 (bt1 s.c : Nat), .int .u8 (bt2 s.c : Nat), .int .u8 (bt3 s.c : Nat), .int .u8 (bt0 s.d : Nat), .int .u8 (bt1 s.d : Nat), .int .u8 (bt2 s.d : Nat), .int .u8 (bt3 s.d : Nat)] 27)).alloc (.cells #[.int .u8 0, .int .u8 0, .int .u8 0, .int .u8 0, .int .u8 0, .int .u8 0, .int .u8 0, .int .u8 0, .int .u8 0, .int .u8 0, .int .u8 0, .int .u8 0, .int .u8 0, .int .u8 0, .int .u8 0, .int .u8 0] 27)) (((w.alloc (.cells #[.int .u8 (bt0 s.a : Nat), .int .u8 (bt1 s.a : Nat), .int .u8 (bt2 s.a : Nat), .int .u8 (bt3 s.a : Nat), .int .u8 (bt0 s.b : Nat), .int .u8 (bt1 s.b : Nat), .int .u8 (bt2 s.b : Nat), .int .u8 (bt3 s.b : Nat), .int .u8 (bt0 s.c : Nat), .int .u8 (bt1 s.c : Nat), .int .u8 (bt2 s.c : Nat), .int .u8 (bt3 s.c : Nat), .int .u8 (bt0 s.d : Nat), .int .u8 (bt1 s.d : Nat), .int .u8 (bt2 s.d : Nat), .int .u8 (bt3 s.d : Nat)] 27)).alloc (.cells #[.int .u8 0, .int .u8 0, .int .u8 0, .int .u8 0, .int .u8 0, .int .u8 0, .int .u8 0, .int .u8 0, .int .u8 0, .int .u8 0, .int .u8 0, .int .u8 0, .int .u8 0, .int .u8 0, .int .u8 0, .int .u8 0] 27))).drew := (Below.refl _ _).drew
    refine wp_region_noPanic ?_
    refine wp_region_held_drew (S := fun u => Below (w.heap.size + 2) ((w.alloc (.cells #[.int .u8 (bt0 s.a : Nat), .int .u8 (bt1 s.a : Nat), .int .u8 (bt2 s.a : Nat), .int .u8 (bt3 s.a : Nat), .int .u8 (bt0 s.b : Nat), .int .u8 (bt1 s.b : Nat), .int .u8 (bt2 s.b : Nat), .int .u8 (bt3 s.b : Nat), .int .u8 (bt0 s.c : Nat), .int .u8 (bt1 s.c : Nat), .int .u8 (bt2 s.c : Nat), .int .u8 (bt3 s.c : Nat), .int .u8 (bt0 s.d : Nat), .int .u8 (bt1 s.d : Nat), .int .u8 (bt2 s.d : Nat), .int .u8 (bt3 s.d : Nat)] 27)).alloc (.cells #[.int .u8 0, .int .u8 0, .int .u8 0, .int .u8 0, .int .u8 0, .int .u8 0, .int .u8 0, .int .u8 0, .int .u8 0, .int .u8 0, .int .u8 0, .int .u8 0, .int .u8 0, .int .u8 0, .int .u8 0, .int .u8 0] 27)) u) (by kernel_rfl) ((Below.refl _ _).drew) (fun _ => ?_)
    refine tH 0 7 (.pointer (some ⟨g, o, none⟩)) rfl rfl (by kernel_rfl) (hS0) (Or.inl ⟨by rfl, fun w' hS' => by go_simp⟩) ?_
    simp only [pU]
    refine tH 1 8 (.agg #[.int .u8 (bt0 s.a : Nat), .int .u8 (bt1 s.a : Nat), .int .u8 (bt2 s.a : Nat), .int .u8 (bt3 s.a : Nat), .int .u8 (bt0 s.b : Nat), .int .u8 (bt1 s.b : Nat), .int .u8 (bt2 s.b : Nat), .int .u8 (bt3 s.b : Nat), .int .u8 (bt0 s.c : Nat), .int .u8 (bt1 s.c : Nat), .int .u8 (bt2 s.c : Nat), .int .u8 (bt3 s.c : Nat), .int .u8 (bt0 s.d : Nat), .int .u8 (bt1 s.d : Nat), .int .u8 (bt2 s.d : Nat), .int .u8 (bt3 s.d : Nat)]) rfl rfl (by kernel_rfl) (hS0) (yieldsIf_load_mid (by rfl) 27 (.tmp 3) rfl w.heap.size 0 rfl [.int .u8 (bt0 s.a : Nat), .int .u8 (bt1 s.a : Nat), .int .u8 (bt2 s.a : Nat), .int .u8 (bt3 s.a : Nat), .int .u8 (bt0 s.b : Nat), .int .u8 (bt1 s.b : Nat), .int .u8 (bt2 s.b : Nat), .int .u8 (bt3 s.b : Nat), .int .u8 (bt0 s.c : Nat), .int .u8 (bt1 s.c : Nat), .int .u8 (bt2 s.c : Nat), .int .u8 (bt3 s.c : Nat), .int .u8 (bt0 s.d : Nat), .int .u8 (bt1 s.d : Nat), .int .u8 (bt2 s.d : Nat), .int .u8 (bt3 s.d : Nat)] _ (fun u hu => gl.out u hu) Tryz.underlying27 rfl Qz) ?_
    simp only [pU]
    refine tH 3 10 (.pointer (some ⟨g, o, none⟩)) rfl rfl (by kernel_rfl) (hS0) (Or.inl ⟨by rfl, fun w' hS' => by go_simp⟩) ?_
    simp only [pU]
    refine tH 4 11 (.pointer (some ⟨g, o, none⟩)) rfl rfl (by kernel_rfl) (hS0) (Or.inl ⟨by rfl, fun w' hS' => by go_simp⟩) ?_
    simp only [pU]
    refine tH 5 12 (.pointer (some ⟨g, o, none⟩)) rfl rfl (by kernel_rfl) (hS0) (Or.inl ⟨by rfl, fun w' hS' => by go_simp⟩) ?_
    simp only [pU]
    refine tH 6 13 (.int .i64 (nr : Nat)) rfl rfl (by kernel_rfl) (hS0) (Or.inl ⟨by rfl, fun w' hS' => by have q := gr.out w' hS'; go_simp⟩) ?_
    simp only [pU]
    refine wpAnyH_ready (rs := [2, 8]) (by kernel_rfl) (by simp) ?_
    refine AllReadyH.cons rfl (fun K hK => ?_) (AllReadyH.cons rfl (fun K hK => ?_) AllReadyH.nil)
    · skip
      go_simp
      refine (HFB.out _).mono ?_
      rintro e1 u1 ⟨rfl, hbu1⟩
      have hSu1 : Below (w.heap.size + 2) ((w.alloc (.cells #[.int .u8 (bt0 s.a : Nat), .int .u8 (bt1 s.a : Nat), .int .u8 (bt2 s.a : Nat), .int .u8 (bt3 s.a : Nat), .int .u8 (bt0 s.b : Nat), .int .u8 (bt1 s.b : Nat), .int .u8 (bt2 s.b : Nat), .int .u8 (bt3 s.b : Nat), .int .u8 (bt0 s.c : Nat), .int .u8 (bt1 s.c : Nat), .int .u8 (bt2 s.c : Nat), .int .u8 (bt3 s.c : Nat), .int .u8 (bt0 s.d : Nat), .int .u8 (bt1 s.d : Nat), .int .u8 (bt2 s.d : Nat), .int .u8 (bt3 s.d : Nat)] 27)).alloc (.cells #[.int .u8 0, .int .u8 0, .int .u8 0, .int .u8 0, .int .u8 0, .int .u8 0, .int .u8 0, .int .u8 0, .int .u8 0, .int .u8 0, .int .u8 0, .int .u8 0, .int .u8 0, .int .u8 0, .int .u8 0, .int .u8 0] 27)) u1 := (hS0).trans (hbu1.mono (Nat.le_trans (Nat.le_of_eq HSZ.out.symm) (hS0).size))
      go_wp2_with fail
      refine hK.out _ _ hSu1 (fun _ => ?_)
      clear hK K
      try simp only [pU]
      refine wpAnyH_ready (rs := [7, 8]) (by kernel_rfl) (by simp) ?_
      refine AllReadyH.cons rfl (fun K hK => ?_) (AllReadyH.cons rfl (fun K hK => ?_) AllReadyH.nil)
      · skip
        go_simp
        refine (HA0.out _ (HCS.out _ (hSu1))).mono ?_
        rintro e2 u2 ⟨rfl, hbu2⟩
        have hSu2 : Below (w.heap.size + 2) ((w.alloc (.cells #[.int .u8 (bt0 s.a : Nat), .int .u8 (bt1 s.a : Nat), .int .u8 (bt2 s.a : Nat), .int .u8 (bt3 s.a : Nat), .int .u8 (bt0 s.b : Nat), .int .u8 (bt1 s.b : Nat), .int .u8 (bt2 s.b : Nat), .int .u8 (bt3 s.b : Nat), .int .u8 (bt0 s.c : Nat), .int .u8 (bt1 s.c : Nat), .int .u8 (bt2 s.c : Nat), .int .u8 (bt3 s.c : Nat), .int .u8 (bt0 s.d : Nat), .int .u8 (bt1 s.d : Nat), .int .u8 (bt2 s.d : Nat), .int .u8 (bt3 s.d : Nat)] 27)).alloc (.cells #[.int .u8 0, .int .u8 0, .int .u8 0, .int .u8 0, .int .u8 0, .int .u8 0, .int .u8 0, .int .u8 0, .int .u8 0, .int .u8 0, .int .u8 0, .int .u8 0, .int .u8 0, .int .u8 0, .int .u8 0, .int .u8 0] 27)) u2 := (hSu1).trans (hbu2.mono (Nat.le_trans (Nat.le_of_eq HSZ.out.symm) (hSu1).size))
        go_wp2_with fail
        refine hK.out _ _ hSu2 (fun _ => ?_)
        clear hK K
        try simp only [pU]
        refine wpAnyH_ready (rs := [8]) (by kernel_rfl) (by simp) ?_
        refine AllReadyH.cons rfl (fun K hK => ?_) AllReadyH.nil
        go_simp
        have hSa : Below (w.heap.size + 2) ((w.alloc (.cells #[.int .u8 (bt0 s.a : Nat), .int .u8 (bt1 s.a : Nat), .int .u8 (bt2 s.a : Nat), .int .u8 (bt3 s.a : Nat), .int .u8 (bt0 s.b : Nat), .int .u8 (bt1 s.b : Nat), .int .u8 (bt2 s.b : Nat), .int .u8 (bt3 s.b : Nat), .int .u8 (bt0 s.c : Nat), .int .u8 (bt1 s.c : Nat), .int .u8 (bt2 s.c : Nat), .int .u8 (bt3 s.c : Nat), .int .u8 (bt0 s.d : Nat), .int .u8 (bt1 s.d : Nat), .int .u8 (bt2 s.d : Nat), .int .u8 (bt3 s.d : Nat)] 27)).alloc (.cells #[.int .u8 0, .int .u8 0, .int .u8 0, .int .u8 0, .int .u8 0, .int .u8 0, .int .u8 0, .int .u8 0, .int .u8 0, .int .u8 0, .int .u8 0, .int .u8 0, .int .u8 0, .int .u8 0, .int .u8 0, .int .u8 0] 27)) (World.alloc u2 (.cells #[.int .u32 0, .int .u32 0, .int .u32 0, .int .u32 0] 177)) := (hSu2).alloc (by have h1 := (hSu2).size; have h2 := HSZ.out; omega) _
        refine hK.out _ _ hSa (fun _ => ?_)
        clear hK K
        try simp only [pU]
        refine wpAnyH_ready (rs := [9]) (by kernel_rfl) (by simp) ?_
        refine AllReadyH.cons rfl (fun K hK => ?_) AllReadyH.nil
        rw [if_pos (by rfl)]
        refine wp_store_mid 177 (.tmp 5) (.tmp 14) rfl _ 0 #[.int .u32 (t0 : Nat), .int .u32 (t1 : Nat), .int .u32 (t2 : Nat), .int .u32 (t3 : Nat)] rfl rfl (Jg u2 #[.int .u32 0, .int .u32 0, .int .u32 0, .int .u32 0] 177 rfl) Kn (by kernel_rfl) ?_
        refine hK.out _ _ (below_setCells _ (by have h1 := hSu2.size; have h2 := HSZ.out; omega) _ _ _ (hSa)) (fun _ => ?_)
        clear hK K
        refine wpAnyH_done (by kernel_rfl) ?_ _
        refine NoPanic.normal ?_
        go_wp2_with fail
        go_meet
        exact ⟨_, rfl, Hq.mk' (u' := w) H2.out.1 H2.out.2 (hSa) (by have h1 := hSu2.size; have h2 := HSZ.out; omega) (by simp) (Jg u2 #[.int .u32 0, .int .u32 0, .int .u32 0, .int .u32 0] 177 rfl)⟩
      · skip
        go_simp
        have hSa : Below (w.heap.size + 2) ((w.alloc (.cells #[.int .u8 (bt0 s.a : Nat), .int .u8 (bt1 s.a : Nat), .int .u8 (bt2 s.a : Nat), .int .u8 (bt3 s.a : Nat), .int .u8 (bt0 s.b : Nat), .int .u8 (bt1 s.b : Nat), .int .u8 (bt2 s.b : Nat), .int .u8 (bt3 s.b : Nat), .int .u8 (bt0 s.c : Nat), .int .u8 (bt1 s.c : Nat), .int .u8 (bt2 s.c : Nat), .int .u8 (bt3 s.c : Nat), .int .u8 (bt0 s.d : Nat), .int .u8 (bt1 s.d : Nat), .int .u8 (bt2 s.d : Nat), .int .u8 (bt3 s.d : Nat)] 27)).alloc (.cells #[.int .u8 0, .int .u8 0, .int .u8 0, .int .u8 0, .int .u8 0, .int .u8 0, .int .u8 0, .int .u8 0, .int .u8 0, .int .u8 0, .int .u8 0, .int .u8 0, .int .u8 0, .int .u8 0, .int .u8 0, .int .u8 0] 27)) (World.alloc u1 (.cells #[.int .u32 0, .int .u32 0, .int .u32 0, .int .u32 0] 177)) := (hSu1).alloc (by have h1 := (hSu1).size; have h2 := HSZ.out; omega) _
        refine hK.out _ _ hSa (fun _ => ?_)
        clear hK K
        try simp only [pU]
        refine wpAnyH_ready (rs := [7]) (by kernel_rfl) (by simp) ?_
        refine AllReadyH.cons rfl (fun K hK => ?_) AllReadyH.nil
        go_simp
        refine (HA0.out _ (HCS.out _ (hSa))).mono ?_
        rintro e2 u2 ⟨rfl, hbu2⟩
        have hSu2 : Below (w.heap.size + 2) ((w.alloc (.cells #[.int .u8 (bt0 s.a : Nat), .int .u8 (bt1 s.a : Nat), .int .u8 (bt2 s.a : Nat), .int .u8 (bt3 s.a : Nat), .int .u8 (bt0 s.b : Nat), .int .u8 (bt1 s.b : Nat), .int .u8 (bt2 s.b : Nat), .int .u8 (bt3 s.b : Nat), .int .u8 (bt0 s.c : Nat), .int .u8 (bt1 s.c : Nat), .int .u8 (bt2 s.c : Nat), .int .u8 (bt3 s.c : Nat), .int .u8 (bt0 s.d : Nat), .int .u8 (bt1 s.d : Nat), .int .u8 (bt2 s.d : Nat), .int .u8 (bt3 s.d : Nat)] 27)).alloc (.cells #[.int .u8 0, .int .u8 0, .int .u8 0, .int .u8 0, .int .u8 0, .int .u8 0, .int .u8 0, .int .u8 0, .int .u8 0, .int .u8 0, .int .u8 0, .int .u8 0, .int .u8 0, .int .u8 0, .int .u8 0, .int .u8 0] 27)) u2 := (hSa).trans (hbu2.mono (Nat.le_trans (Nat.le_of_eq HSZ.out.symm) (hSa).size))
        go_wp2_with fail
        refine hK.out _ _ hSu2 (fun _ => ?_)
        clear hK K
        try simp only [pU]
        refine wpAnyH_ready (rs := [9]) (by kernel_rfl) (by simp) ?_
        refine AllReadyH.cons rfl (fun K hK => ?_) AllReadyH.nil
        rw [if_pos (by rfl)]
        refine wp_store_mid 177 (.tmp 5) (.tmp 14) rfl _ 0 #[.int .u32 (t0 : Nat), .int .u32 (t1 : Nat), .int .u32 (t2 : Nat), .int .u32 (t3 : Nat)] rfl rfl (Zh (Jg u1 #[.int .u32 0, .int .u32 0, .int .u32 0, .int .u32 0] 177 rfl) hbu2 (by simp)) Kn (by kernel_rfl) ?_
        refine hK.out _ _ (below_setCells _ (by have h1 := hSu1.size; have h2 := HSZ.out; omega) _ _ _ (hSu2)) (fun _ => ?_)
        clear hK K
        refine wpAnyH_done (by kernel_rfl) ?_ _
        refine NoPanic.normal ?_
        go_wp2_with fail
        go_meet
        exact ⟨_, rfl, Hq.mk' (u' := w) H2.out.1 H2.out.2 (hSu2) (by have h1 := hSu1.size; have h2 := HSZ.out; omega) (by have h1 := hbu2.size; simp at h1; omega) (Zh (Jg u1 #[.int .u32 0, .int .u32 0, .int .u32 0, .int .u32 0] 177 rfl) hbu2 (by simp))⟩
    · skip
      go_simp
      have hSa : Below (w.heap.size + 2) ((w.alloc (.cells #[.int .u8 (bt0 s.a : Nat), .int .u8 (bt1 s.a : Nat), .int .u8 (bt2 s.a : Nat), .int .u8 (bt3 s.a : Nat), .int .u8 (bt0 s.b : Nat), .int .u8 (bt1 s.b : Nat), .int .u8 (bt2 s.b : Nat), .int .u8 (bt3 s.b : Nat), .int .u8 (bt0 s.c : Nat), .int .u8 (bt1 s.c : Nat), .int .u8 (bt2 s.c : Nat), .int .u8 (bt3 s.c : Nat), .int .u8 (bt0 s.d : Nat), .int .u8 (bt1 s.d : Nat), .int .u8 (bt2 s.d : Nat), .int .u8 (bt3 s.d : Nat)] 27)).alloc (.cells #[.int .u8 0, .int .u8 0, .int .u8 0, .int .u8 0, .int .u8 0, .int .u8 0, .int .u8 0, .int .u8 0, .int .u8 0, .int .u8 0, .int .u8 0, .int .u8 0, .int .u8 0, .int .u8 0, .int .u8 0, .int .u8 0] 27)) (World.alloc (((w.alloc (.cells #[.int .u8 (bt0 s.a : Nat), .int .u8 (bt1 s.a : Nat), .int .u8 (bt2 s.a : Nat), .int .u8 (bt3 s.a : Nat), .int .u8 (bt0 s.b : Nat), .int .u8 (bt1 s.b : Nat), .int .u8 (bt2 s.b : Nat), .int .u8 (bt3 s.b : Nat), .int .u8 (bt0 s.c : Nat), .int .u8 (bt1 s.c : Nat), .int .u8 (bt2 s.c : Nat), .int .u8 (bt3 s.c : Nat), .int .u8 (bt0 s.d : Nat), .int .u8 (bt1 s.d : Nat), .int .u8 (bt2 s.d : Nat), .int .u8 (bt3 s.d : Nat)] 27)).alloc (.cells #[.int .u8 0, .int .u8 0, .int .u8 0, .int .u8 0, .int .u8 0, .int .u8 0, .int .u8 0, .int .u8 0, .int .u8 0, .int .u8 0, .int .u8 0, .int .u8 0, .int .u8 0, .int .u8 0, .int .u8 0, .int .u8 0] 27))).drew (.cells #[.int .u32 0, .int .u32 0, .int .u32 0, .int .u32 0] 177)) := (hS0).alloc (by simp) _
      refine hK.out _ _ hSa (fun _ => ?_)
      clear hK K
      try simp only [pU]
      have hown : World.there (World.alloc (((w.alloc (.cells #[.int .u8 (bt0 s.a : Nat), .int .u8 (bt1 s.a : Nat), .int .u8 (bt2 s.a : Nat), .int .u8 (bt3 s.a : Nat), .int .u8 (bt0 s.b : Nat), .int .u8 (bt1 s.b : Nat), .int .u8 (bt2 s.b : Nat), .int .u8 (bt3 s.b : Nat), .int .u8 (bt0 s.c : Nat), .int .u8 (bt1 s.c : Nat), .int .u8 (bt2 s.c : Nat), .int .u8 (bt3 s.c : Nat), .int .u8 (bt0 s.d : Nat), .int .u8 (bt1 s.d : Nat), .int .u8 (bt2 s.d : Nat), .int .u8 (bt3 s.d : Nat)] 27)).alloc (.cells #[.int .u8 0, .int .u8 0, .int .u8 0, .int .u8 0, .int .u8 0, .int .u8 0, .int .u8 0, .int .u8 0, .int .u8 0, .int .u8 0, .int .u8 0, .int .u8 0, .int .u8 0, .int .u8 0, .int .u8 0, .int .u8 0] 27))).drew (.cells #[.int .u32 0, .int .u32 0, .int .u32 0, .int .u32 0] 177)) (w.heap.size + 1 + 1) 0 4 := by have h := Jg (((w.alloc (.cells #[.int .u8 (bt0 s.a : Nat), .int .u8 (bt1 s.a : Nat), .int .u8 (bt2 s.a : Nat), .int .u8 (bt3 s.a : Nat), .int .u8 (bt0 s.b : Nat), .int .u8 (bt1 s.b : Nat), .int .u8 (bt2 s.b : Nat), .int .u8 (bt3 s.b : Nat), .int .u8 (bt0 s.c : Nat), .int .u8 (bt1 s.c : Nat), .int .u8 (bt2 s.c : Nat), .int .u8 (bt3 s.c : Nat), .int .u8 (bt0 s.d : Nat), .int .u8 (bt1 s.d : Nat), .int .u8 (bt2 s.d : Nat), .int .u8 (bt3 s.d : Nat)] 27)).alloc (.cells #[.int .u8 0, .int .u8 0, .int .u8 0, .int .u8 0, .int .u8 0, .int .u8 0, .int .u8 0, .int .u8 0, .int .u8 0, .int .u8 0, .int .u8 0, .int .u8 0, .int .u8 0, .int .u8 0, .int .u8 0, .int .u8 0] 27))).drew #[.int .u32 0, .int .u32 0, .int .u32 0, .int .u32 0] 177 (n := 4) rfl; simpa using h
      refine wpAnyH_ready (rs := [2]) (by kernel_rfl) (by simp) ?_
      refine AllReadyH.cons rfl (fun K hK => ?_) AllReadyH.nil
      go_simp
      refine (HFB.out _).mono ?_
      rintro e1 u1 ⟨rfl, hbu1⟩
      have hSu1 : Below (w.heap.size + 2) ((w.alloc (.cells #[.int .u8 (bt0 s.a : Nat), .int .u8 (bt1 s.a : Nat), .int .u8 (bt2 s.a : Nat), .int .u8 (bt3 s.a : Nat), .int .u8 (bt0 s.b : Nat), .int .u8 (bt1 s.b : Nat), .int .u8 (bt2 s.b : Nat), .int .u8 (bt3 s.b : Nat), .int .u8 (bt0 s.c : Nat), .int .u8 (bt1 s.c : Nat), .int .u8 (bt2 s.c : Nat), .int .u8 (bt3 s.c : Nat), .int .u8 (bt0 s.d : Nat), .int .u8 (bt1 s.d : Nat), .int .u8 (bt2 s.d : Nat), .int .u8 (bt3 s.d : Nat)] 27)).alloc (.cells #[.int .u8 0, .int .u8 0, .int .u8 0, .int .u8 0, .int .u8 0, .int .u8 0, .int .u8 0, .int .u8 0, .int .u8 0, .int .u8 0, .int .u8 0, .int .u8 0, .int .u8 0, .int .u8 0, .int .u8 0, .int .u8 0] 27)) u1 := (hSa).trans (hbu1.mono (Nat.le_trans (Nat.le_of_eq HSZ.out.symm) (hSa).size))
      go_wp2_with fail
      refine hK.out _ _ hSu1 (fun _ => ?_)
      clear hK K
      try simp only [pU]
      refine wpAnyH_ready (rs := [7]) (by kernel_rfl) (by simp) ?_
      refine AllReadyH.cons rfl (fun K hK => ?_) AllReadyH.nil
      go_simp
      refine (HA0.out _ (HCS.out _ (hSu1))).mono ?_
      rintro e2 u2 ⟨rfl, hbu2⟩
      have hSu2 : Below (w.heap.size + 2) ((w.alloc (.cells #[.int .u8 (bt0 s.a : Nat), .int .u8 (bt1 s.a : Nat), .int .u8 (bt2 s.a : Nat), .int .u8 (bt3 s.a : Nat), .int .u8 (bt0 s.b : Nat), .int .u8 (bt1 s.b : Nat), .int .u8 (bt2 s.b : Nat), .int .u8 (bt3 s.b : Nat), .int .u8 (bt0 s.c : Nat), .int .u8 (bt1 s.c : Nat), .int .u8 (bt2 s.c : Nat), .int .u8 (bt3 s.c : Nat), .int .u8 (bt0 s.d : Nat), .int .u8 (bt1 s.d : Nat), .int .u8 (bt2 s.d : Nat), .int .u8 (bt3 s.d : Nat)] 27)).alloc (.cells #[.int .u8 0, .int .u8 0, .int .u8 0, .int .u8 0, .int .u8 0, .int .u8 0, .int .u8 0, .int .u8 0, .int .u8 0, .int .u8 0, .int .u8 0, .int .u8 0, .int .u8 0, .int .u8 0, .int .u8 0, .int .u8 0] 27)) u2 := (hSu1).trans (hbu2.mono (Nat.le_trans (Nat.le_of_eq HSZ.out.symm) (hSu1).size))
      go_wp2_with fail
      refine hK.out _ _ hSu2 (fun _ => ?_)
      clear hK K
      try simp only [pU]
      refine wpAnyH_ready (rs := [9]) (by kernel_rfl) (by simp) ?_
      refine AllReadyH.cons rfl (fun K hK => ?_) AllReadyH.nil
      rw [if_pos (by rfl)]
      refine wp_store_mid 177 (.tmp 5) (.tmp 14) rfl _ 0 #[.int .u32 (t0 : Nat), .int .u32 (t1 : Nat), .int .u32 (t2 : Nat), .int .u32 (t3 : Nat)] rfl rfl ((Zh (Zh hown hbu1 (by simp)) hbu2 (by have h3 := hbu1.size; simp at h3; omega))) Kn (by kernel_rfl) ?_
      refine hK.out _ _ (below_setCells _ (by simp) _ _ _ (hSu2)) (fun _ => ?_)
      clear hK K
      refine wpAnyH_done (by kernel_rfl) ?_ _
      refine NoPanic.normal ?_
      go_wp2_with fail
      go_meet
      exact ⟨_, rfl, Hq.mk' (u' := w) H2.out.1 H2.out.2 (hSu2) (by simp) (by have h1 := hbu2.size; have h3 := hbu1.size; simp at h1 h3; omega) ((Zh (Zh hown hbu1 (by simp)) hbu2 (by have h3 := hbu1.size; simp at h3; omega)))⟩
  case rest =>
    obtain ⟨A, rfl, HD⟩ := hcut
    generalize (.agg #[.int .u8 (bt0 s.a : Nat), .int .u8 (bt1 s.a : Nat), .int .u8 (bt2 s.a : Nat), .int .u8 (bt3 s.a : Nat), .int .u8 (bt0 s.b : Nat), .int .u8 (bt1 s.b : Nat), .int .u8 (bt2 s.b : Nat), .int .u8 (bt3 s.b : Nat), .int .u8 (bt0 s.c : Nat), .int .u8 (bt1 s.c : Nat), .int .u8 (bt2 s.c : Nat), .int .u8 (bt3 s.c : Nat), .int .u8 (bt0 s.d : Nat), .int .u8 (bt1 s.d : Nat), .int .u8 (bt2 s.d : Nat), .int .u8 (bt3 s.d : Nat)] : Value) = bl
    clear HFB HA0 HSZ gr gl HCS H2
    have HCd : Hid (X5 wc g o nr K) := HC.out.below HD.out.old HC.out.here
    have HgA : Hid (g < A) := by have h1 := HC.out.here; have h2 := HD.out.far; show g < A; omega
    have hrd0 : wc.cell? ⟨g, o, none⟩ = some (.int .i64 (nr : Nat)) := HCd.out.rounds
    go_wp2
    clear hrd0
    go_loopw [6] (fun i wr => ∃ r x0 x1 x2 x3 : Nat, r < nr ∧ i = .int .i64 (r : Nat) ∧ Hid (itD K (nr - 1) ⟨t0, t1, t2, t3⟩ = itD K r ⟨x0, x1, x2, x3⟩) ∧ Hid (Below A wc wr ∧ A < wr.heap.size ∧ wr.rangeAt A 0 [.int .u32 (x0 : Nat), .int .u32 (x1 : Nat), .int .u32 (x2 : Nat), .int .u32 (x3 : Nat)] ∧ wr.there A 0 4)) (fun i _ => (intOf i).toNat)
    case atStart => exact ⟨nr - 1, t0, t1, t2, t3, by omega, Yb (by omega), (Eq.refl (itD K (nr - 1) ⟨t0, t1, t2, t3⟩)), Below.refl _ _, HD.out.here, HD.out.cells, HD.out.room⟩
    case round =>
      obtain ⟨r, x0, x1, x2, x3, hr, rfl, HX, HW⟩ := hrel
      have HCr : Hid (X5 wr g o nr K) := HCd.out.below HW.out.1 HgA.out
      cases r with
      | succ r =>
        obtain ⟨⟨m0, m1, m2, m3⟩, HM⟩ : ∃ m, Hid (m = Vg ⟨x0, x1, x2, x3⟩) := ⟨_, rfl⟩
        obtain ⟨⟨n0, n1, n2, n3⟩, HN⟩ : ∃ m, Hid (m = Jw K (r + 1) ⟨m0, m1, m2, m3⟩) := ⟨_, rfl⟩
        obtain ⟨⟨y0, y1, y2, y3⟩, HY⟩ : ∃ m, Hid (m = Sj ⟨n0, n1, n2, n3⟩) := ⟨_, rfl⟩
        have HMok : Hid (W4.ok ⟨m0, m1, m2, m3⟩) := by show W4.ok _; rw [HM.out]; exact Vf _
        have hgA1 : g < A + 1 := Nat.lt_succ_of_lt HgA.out
        have k0 : Hid (∀ u, Below (A + 1) wr u → Calls Tryz.prog 265 #[.pointer (some ⟨g, o, none⟩), .int .u32 (x0 : Nat), .int .u32 (x3 : Nat), .int .u32 (x2 : Nat), .int .u32 (x1 : Nat)] u fun e u' => e = .returned (.int .u32 (m0 : Nat)) ∧ Below (A + 1) wr u') := J4 HCr.out hgA1 x0 x3 x2 x1 m0 (congrArg W4.a HM.out)
        have k1 : Hid (∀ u, Below (A + 1) wr u → Calls Tryz.prog 265 #[.pointer (some ⟨g, o, none⟩), .int .u32 (x1 : Nat), .int .u32 (x0 : Nat), .int .u32 (x3 : Nat), .int .u32 (x2 : Nat)] u fun e u' => e = .returned (.int .u32 (m1 : Nat)) ∧ Below (A + 1) wr u') := J4 HCr.out hgA1 x1 x0 x3 x2 m1 (congrArg W4.b HM.out)
        have k2 : Hid (∀ u, Below (A + 1) wr u → Calls Tryz.prog 265 #[.pointer (some ⟨g, o, none⟩), .int .u32 (x2 : Nat), .int .u32 (x1 : Nat), .int .u32 (x0 : Nat), .int .u32 (x3 : Nat)] u fun e u' => e = .returned (.int .u32 (m2 : Nat)) ∧ Below (A + 1) wr u') := J4 HCr.out hgA1 x2 x1 x0 x3 m2 (congrArg W4.c HM.out)
        have k3 : Hid (∀ u, Below (A + 1) wr u → Calls Tryz.prog 265 #[.pointer (some ⟨g, o, none⟩), .int .u32 (x3 : Nat), .int .u32 (x2 : Nat), .int .u32 (x1 : Nat), .int .u32 (x0 : Nat)] u fun e u' => e = .returned (.int .u32 (m3 : Nat)) ∧ Below (A + 1) wr u') := J4 HCr.out hgA1 x3 x2 x1 x0 m3 (congrArg W4.d HM.out)
        have ka : Hid (∀ u, Below (A + 1) wr u → Calls Tryz.prog 86 #[.pointer (some ⟨g, o, none⟩), .agg #[.int .u32 (m0 : Nat), .int .u32 (m1 : Nat), .int .u32 (m2 : Nat), .int .u32 (m3 : Nat)], .int .i64 ((r + 1 : Nat) : Int)] u fun e u' => e = .returned (.agg #[.int .u32 (n0 : Nat), .int .u32 (n1 : Nat), .int .u32 (n2 : Nat), .int .u32 (n3 : Nat)]) ∧ Below (A + 1) wr u') := Bj HCr.out hgA1 HW.out.2.1 (r + 1) (Nat.le_of_lt hr) ⟨m0, m1, m2, m3⟩ ⟨n0, n1, n2, n3⟩ HMok.out HN.out
        have g0 : Hid (∀ u, Below (A + 1) wr u → u.cell? ⟨A, 0, none⟩ = some (.int .u32 (x0 : Nat))) := fun u hu => (hu.cell (Nat.lt_succ_self A)).trans (Y0 HW.out.2.2.1).1
        have g1 : Hid (∀ u, Below (A + 1) wr u → u.cell? ⟨A, 1, none⟩ = some (.int .u32 (x1 : Nat))) := fun u hu => (hu.cell (Nat.lt_succ_self A)).trans (Y0 HW.out.2.2.1).2.1
        have g2 : Hid (∀ u, Below (A + 1) wr u → u.cell? ⟨A, 2, none⟩ = some (.int .u32 (x2 : Nat))) := fun u hu => (hu.cell (Nat.lt_succ_self A)).trans (Y0 HW.out.2.2.1).2.2.1
        have g3 : Hid (∀ u, Below (A + 1) wr u → u.cell? ⟨A, 3, none⟩ = some (.int .u32 (x3 : Nat))) := fun u hu => (hu.cell (Nat.lt_succ_self A)).trans (Y0 HW.out.2.2.1).2.2.2
        clear hgA1
        obtain ⟨r1, hr1⟩ : ∃ r1 : Nat, r1 = r + 1 := ⟨_, rfl⟩
        rw [← hr1] at ka ⊢
        have hpos : (0 : Int) < (r1 : Int) := by omega
        have HR1 : Hid (r1 = r + 1) := hr1
        clear hr1
        go_upto_region 5 with fail
        refine Zbf _ _ _ _ _ _ _ _ _ _ _ _ _ _ _ _ _ _ _ _ _ _ _ _ _ _ _ _ _ _ _ _ _ _ _ _ _ _ _ _ _ _ _ _ _ _ _ _ _ _ _ _ _ _ _ _ _ _ _ _ _ _ _ _ _ _ _ _ _ _ _ _ _ _ _ _ _ _ _ _ _ _ _ _ _ _ _ _ _ _ _ _ _ _ _ _ _ _ _ _ _ _ _ _ _ _ _ _ _ _ _ _ _ _ _ _ _ _ _ _ _ _ _ _ _ _ g o A r1 x0 x1 x2 x3 m0 m1 m2 m3 n0 n1 n2 n3 wr k0 k1 k2 k3 ka g0 g1 g2 g3 HW.out.2.2.2 (fun u4 hu4 => ?_)
        have Hw5 : Hid (Below A wc (u4.setCells A 0 [.int .u32 (n0 : Nat), .int .u32 (n1 : Nat), .int .u32 (n2 : Nat), .int .u32 (n3 : Nat)]) ∧ A < (u4.setCells A 0 [.int .u32 (n0 : Nat), .int .u32 (n1 : Nat), .int .u32 (n2 : Nat), .int .u32 (n3 : Nat)]).heap.size ∧ (u4.setCells A 0 [.int .u32 (n0 : Nat), .int .u32 (n1 : Nat), .int .u32 (n2 : Nat), .int .u32 (n3 : Nat)]).rangeAt A 0 [.int .u32 (n0 : Nat), .int .u32 (n1 : Nat), .int .u32 (n2 : Nat), .int .u32 (n3 : Nat)] ∧ (u4.setCells A 0 [.int .u32 (n0 : Nat), .int .u32 (n1 : Nat), .int .u32 (n2 : Nat), .int .u32 (n3 : Nat)]).there A 0 4) := by
          obtain ⟨p1, p2, p3, p4⟩ := HW.out
          have ht4 := Zh p4 hu4 (Nat.lt_succ_self A)
          refine ⟨below_setCells A (Nat.le_refl _) _ _ _ (p1.trans (hu4.mono (Nat.le_succ A))), ?_, World.rangeAt_setCells_same _ _ _ _ ht4, World.there_setCells ht4 _ _ _⟩
          rw [size_setCells]
          exact Nat.lt_of_lt_of_le p2 hu4.size
        generalize u4.setCells A 0 [.int .u32 (n0 : Nat), .int .u32 (n1 : Nat), .int .u32 (n2 : Nat), .int .u32 (n3 : Nat)] = w5 at Hw5 ⊢
        clear hu4 k0 k1 k2 k3 ka g0 g1 g2 g3
        have HC5 : Hid (X5 w5 g o nr K) := HCd.out.below Hw5.out.1 HgA.out
        have hgA1 : g < A + 1 := Nat.lt_succ_of_lt HgA.out
        have k0 : Hid (∀ u, Below (A + 1) w5 u → Calls Tryz.prog 266 #[.pointer (some ⟨g, o, none⟩), .int .u32 (n0 : Nat)] u fun e u' => e = .returned (.int .u32 (y0 : Nat)) ∧ Below (A + 1) w5 u') := Ga HC5.out hgA1 n0 y0 (congrArg W4.a HY.out)
        have k1 : Hid (∀ u, Below (A + 1) w5 u → Calls Tryz.prog 266 #[.pointer (some ⟨g, o, none⟩), .int .u32 (n1 : Nat)] u fun e u' => e = .returned (.int .u32 (y1 : Nat)) ∧ Below (A + 1) w5 u') := Ga HC5.out hgA1 n1 y1 (congrArg W4.b HY.out)
        have k2 : Hid (∀ u, Below (A + 1) w5 u → Calls Tryz.prog 266 #[.pointer (some ⟨g, o, none⟩), .int .u32 (n2 : Nat)] u fun e u' => e = .returned (.int .u32 (y2 : Nat)) ∧ Below (A + 1) w5 u') := Ga HC5.out hgA1 n2 y2 (congrArg W4.c HY.out)
        have k3 : Hid (∀ u, Below (A + 1) w5 u → Calls Tryz.prog 266 #[.pointer (some ⟨g, o, none⟩), .int .u32 (n3 : Nat)] u fun e u' => e = .returned (.int .u32 (y3 : Nat)) ∧ Below (A + 1) w5 u') := Ga HC5.out hgA1 n3 y3 (congrArg W4.d HY.out)
        have g0 : Hid (∀ u, Below (A + 1) w5 u → u.cell? ⟨A, 0, none⟩ = some (.int .u32 (n0 : Nat))) := fun u hu => (hu.cell (Nat.lt_succ_self A)).trans (Y0 Hw5.out.2.2.1).1
        have g1 : Hid (∀ u, Below (A + 1) w5 u → u.cell? ⟨A, 1, none⟩ = some (.int .u32 (n1 : Nat))) := fun u hu => (hu.cell (Nat.lt_succ_self A)).trans (Y0 Hw5.out.2.2.1).2.1
        have g2 : Hid (∀ u, Below (A + 1) w5 u → u.cell? ⟨A, 2, none⟩ = some (.int .u32 (n2 : Nat))) := fun u hu => (hu.cell (Nat.lt_succ_self A)).trans (Y0 Hw5.out.2.2.1).2.2.1
        have g3 : Hid (∀ u, Below (A + 1) w5 u → u.cell? ⟨A, 3, none⟩ = some (.int .u32 (n3 : Nat))) := fun u hu => (hu.cell (Nat.lt_succ_self A)).trans (Y0 Hw5.out.2.2.1).2.2.2
        clear hgA1
        go_upto_region 6 with fail
        refine Zbe _ _ _ _ _ _ _ _ _ _ _ _ _ _ _ _ _ _ _ _ _ _ _ _ _ _ _ _ _ _ _ _ _ _ _ _ _ _ _ _ _ _ _ _ _ _ _ _ _ _ _ _ _ _ _ _ _ _ _ _ _ _ _ _ _ _ _ _ _ _ _ _ _ _ _ _ _ _ _ _ _ _ _ _ _ _ _ _ _ _ _ _ _ _ _ _ _ _ _ _ _ _ _ _ _ _ _ _ _ _ _ _ _ _ _ _ _ _ _ _ _ _ _ _ _ _ _ g o A n0 n1 n2 n3 y0 y1 y2 y3 w5 k0 k1 k2 k3 g0 g1 g2 g3 Hw5.out.2.2.2 (fun v3 hv3 => ?_)
        have Hw6 : Hid (Below A wc (v3.setCells A 0 [.int .u32 (y0 : Nat), .int .u32 (y1 : Nat), .int .u32 (y2 : Nat), .int .u32 (y3 : Nat)]) ∧ A < (v3.setCells A 0 [.int .u32 (y0 : Nat), .int .u32 (y1 : Nat), .int .u32 (y2 : Nat), .int .u32 (y3 : Nat)]).heap.size ∧ (v3.setCells A 0 [.int .u32 (y0 : Nat), .int .u32 (y1 : Nat), .int .u32 (y2 : Nat), .int .u32 (y3 : Nat)]).rangeAt A 0 [.int .u32 (y0 : Nat), .int .u32 (y1 : Nat), .int .u32 (y2 : Nat), .int .u32 (y3 : Nat)] ∧ (v3.setCells A 0 [.int .u32 (y0 : Nat), .int .u32 (y1 : Nat), .int .u32 (y2 : Nat), .int .u32 (y3 : Nat)]).there A 0 4) := by
          obtain ⟨p1, p2, p3, p4⟩ := Hw5.out
          have ht4 := Zh p4 hv3 (Nat.lt_succ_self A)
          refine ⟨below_setCells A (Nat.le_refl _) _ _ _ (p1.trans (hv3.mono (Nat.le_succ A))), ?_, World.rangeAt_setCells_same _ _ _ _ ht4, World.there_setCells ht4 _ _ _⟩
          rw [size_setCells]
          exact Nat.lt_of_lt_of_le p2 hv3.size
        generalize v3.setCells A 0 [.int .u32 (y0 : Nat), .int .u32 (y1 : Nat), .int .u32 (y2 : Nat), .int .u32 (y3 : Nat)] = w6 at Hw6 ⊢
        clear hv3 k0 k1 k2 k3 g0 g1 g2 g3
        go_wp2
        refine ⟨⟨r, y0, y1, y2, y3, by omega, Yb (by have := HR1.out; unfold wrap64; omega), ?_, Hw6.out⟩, ?_⟩
        · show _ = _
          rw [HX.out, HY.out, HN.out, HM.out, Cx, Wn]
        · have := HR1.out; simp only [intOf]; unfold wrap64; omega
      | zero =>
        obtain ⟨⟨m0, m1, m2, m3⟩, HM⟩ : ∃ m, Hid (m = Vg ⟨x0, x1, x2, x3⟩) := ⟨_, rfl⟩
        obtain ⟨⟨n0, n1, n2, n3⟩, HN⟩ : ∃ m, Hid (m = Jw K 0 ⟨m0, m1, m2, m3⟩) := ⟨_, rfl⟩
        have HMok : Hid (W4.ok ⟨m0, m1, m2, m3⟩) := by show W4.ok _; rw [HM.out]; exact Vf _
        have hgA1 : g < A + 1 := Nat.lt_succ_of_lt HgA.out
        have k0 : Hid (∀ u, Below (A + 1) wr u → Calls Tryz.prog 265 #[.pointer (some ⟨g, o, none⟩), .int .u32 (x0 : Nat), .int .u32 (x3 : Nat), .int .u32 (x2 : Nat), .int .u32 (x1 : Nat)] u fun e u' => e = .returned (.int .u32 (m0 : Nat)) ∧ Below (A + 1) wr u') := J4 HCr.out hgA1 x0 x3 x2 x1 m0 (congrArg W4.a HM.out)
        have k1 : Hid (∀ u, Below (A + 1) wr u → Calls Tryz.prog 265 #[.pointer (some ⟨g, o, none⟩), .int .u32 (x1 : Nat), .int .u32 (x0 : Nat), .int .u32 (x3 : Nat), .int .u32 (x2 : Nat)] u fun e u' => e = .returned (.int .u32 (m1 : Nat)) ∧ Below (A + 1) wr u') := J4 HCr.out hgA1 x1 x0 x3 x2 m1 (congrArg W4.b HM.out)
        have k2 : Hid (∀ u, Below (A + 1) wr u → Calls Tryz.prog 265 #[.pointer (some ⟨g, o, none⟩), .int .u32 (x2 : Nat), .int .u32 (x1 : Nat), .int .u32 (x0 : Nat), .int .u32 (x3 : Nat)] u fun e u' => e = .returned (.int .u32 (m2 : Nat)) ∧ Below (A + 1) wr u') := J4 HCr.out hgA1 x2 x1 x0 x3 m2 (congrArg W4.c HM.out)
        have k3 : Hid (∀ u, Below (A + 1) wr u → Calls Tryz.prog 265 #[.pointer (some ⟨g, o, none⟩), .int .u32 (x3 : Nat), .int .u32 (x2 : Nat), .int .u32 (x1 : Nat), .int .u32 (x0 : Nat)] u fun e u' => e = .returned (.int .u32 (m3 : Nat)) ∧ Below (A + 1) wr u') := J4 HCr.out hgA1 x3 x2 x1 x0 m3 (congrArg W4.d HM.out)
        have ka : Hid (∀ u, Below (A + 1) wr u → Calls Tryz.prog 86 #[.pointer (some ⟨g, o, none⟩), .agg #[.int .u32 (m0 : Nat), .int .u32 (m1 : Nat), .int .u32 (m2 : Nat), .int .u32 (m3 : Nat)], .int .i64 0] u fun e u' => e = .returned (.agg #[.int .u32 (n0 : Nat), .int .u32 (n1 : Nat), .int .u32 (n2 : Nat), .int .u32 (n3 : Nat)]) ∧ Below (A + 1) wr u') := Bj HCr.out hgA1 HW.out.2.1 0 (Nat.zero_le _) ⟨m0, m1, m2, m3⟩ ⟨n0, n1, n2, n3⟩ HMok.out HN.out
        have kt : Hid (∀ u, Calls Tryz.prog 89 #[.agg #[.int .u32 (n0 : Nat), .int .u32 (n1 : Nat), .int .u32 (n2 : Nat), .int .u32 (n3 : Nat)]] u fun e u' => e = .returned (.agg #[.int .u8 (bt0 n0 : Nat), .int .u8 (bt1 n0 : Nat), .int .u8 (bt2 n0 : Nat), .int .u8 (bt3 n0 : Nat), .int .u8 (bt0 n1 : Nat), .int .u8 (bt1 n1 : Nat), .int .u8 (bt2 n1 : Nat), .int .u8 (bt3 n1 : Nat), .int .u8 (bt0 n2 : Nat), .int .u8 (bt1 n2 : Nat), .int .u8 (bt2 n2 : Nat), .int .u8 (bt3 n2 : Nat), .int .u8 (bt0 n3 : Nat), .int .u8 (bt1 n3 : Nat), .int .u8 (bt2 n3 : Nat), .int .u8 (bt3 n3 : Nat)]) ∧ Below u.heap.size u u') := Zb4 ⟨n0, n1, n2, n3⟩
        have g0 : Hid (∀ u, Below (A + 1) wr u → u.cell? ⟨A, 0, none⟩ = some (.int .u32 (x0 : Nat))) := fun u hu => (hu.cell (Nat.lt_succ_self A)).trans (Y0 HW.out.2.2.1).1
        have g1 : Hid (∀ u, Below (A + 1) wr u → u.cell? ⟨A, 1, none⟩ = some (.int .u32 (x1 : Nat))) := fun u hu => (hu.cell (Nat.lt_succ_self A)).trans (Y0 HW.out.2.2.1).2.1
        have g2 : Hid (∀ u, Below (A + 1) wr u → u.cell? ⟨A, 2, none⟩ = some (.int .u32 (x2 : Nat))) := fun u hu => (hu.cell (Nat.lt_succ_self A)).trans (Y0 HW.out.2.2.1).2.2.1
        have g3 : Hid (∀ u, Below (A + 1) wr u → u.cell? ⟨A, 3, none⟩ = some (.int .u32 (x3 : Nat))) := fun u hu => (hu.cell (Nat.lt_succ_self A)).trans (Y0 HW.out.2.2.1).2.2.2
        clear hgA1
        go_wp2
        have HT5 : Hid (∀ u4 u5, Below (A + 1) wr u4 → Below u4.heap.size u4 u5 → u5.there (w.heap.size + 1) 0 16 ∧ Below w.heap.size w u5) := fun u4 u5 hu4 hu5 => by
          obtain ⟨p1, p2, p3, p4⟩ := HW.out
          have hA := HD.out.far
          have hs4 := hu4.size
          have e1 := Zh HD.out.res p1 (by omega)
          have e2 := Zh e1 hu4 (by omega)
          exact ⟨Zh e2 hu5 (by omega), ((HD.out.old.trans (p1.mono (by omega))).trans (hu4.mono (by omega))).trans (hu5.mono (by omega))⟩
        refine Zbd _ _ _ _ _ _ _ _ _ _ _ _ _ _ _ _ _ _ _ _ _ _ _ _ _ _ _ _ _ _ _ _ _ _ _ _ _ _ _ _ _ _ _ _ _ _ _ _ _ _ _ _ _ _ _ _ _ _ _ _ _ _ _ _ _ _ _ _ _ _ _ _ _ _ _ _ _ _ _ _ _ _ _ _ _ _ _ _ _ _ _ _ _ _ _ _ _ _ _ _ _ _ _ _ _ _ _ _ _ _ _ _ _ _ _ _ _ _ _ _ _ _ _ _ _ _ g o A (w.heap.size + 1) x0 x1 x2 x3 m0 m1 m2 m3 n0 n1 n2 n3 wr k0 k1 k2 k3 ka kt g0 g1 g2 g3 (fun u4 u5 h4 h5 => (HT5.out u4 u5 h4 h5).1) (fun u4 u5 hu4 hu5 => ?_)
        have HR : Hid ((u5.setCells (w.heap.size + 1) 0 [.int .u8 (bt0 n0 : Nat), .int .u8 (bt1 n0 : Nat), .int .u8 (bt2 n0 : Nat), .int .u8 (bt3 n0 : Nat), .int .u8 (bt0 n1 : Nat), .int .u8 (bt1 n1 : Nat), .int .u8 (bt2 n1 : Nat), .int .u8 (bt3 n1 : Nat), .int .u8 (bt0 n2 : Nat), .int .u8 (bt1 n2 : Nat), .int .u8 (bt2 n2 : Nat), .int .u8 (bt3 n2 : Nat), .int .u8 (bt0 n3 : Nat), .int .u8 (bt1 n3 : Nat), .int .u8 (bt2 n3 : Nat), .int .u8 (bt3 n3 : Nat)]).rangeAt (w.heap.size + 1) 0 [.int .u8 (bt0 n0 : Nat), .int .u8 (bt1 n0 : Nat), .int .u8 (bt2 n0 : Nat), .int .u8 (bt3 n0 : Nat), .int .u8 (bt0 n1 : Nat), .int .u8 (bt1 n1 : Nat), .int .u8 (bt2 n1 : Nat), .int .u8 (bt3 n1 : Nat), .int .u8 (bt0 n2 : Nat), .int .u8 (bt1 n2 : Nat), .int .u8 (bt2 n2 : Nat), .int .u8 (bt3 n2 : Nat), .int .u8 (bt0 n3 : Nat), .int .u8 (bt1 n3 : Nat), .int .u8 (bt2 n3 : Nat), .int .u8 (bt3 n3 : Nat)] ∧ Below w.heap.size w (u5.setCells (w.heap.size + 1) 0 [.int .u8 (bt0 n0 : Nat), .int .u8 (bt1 n0 : Nat), .int .u8 (bt2 n0 : Nat), .int .u8 (bt3 n0 : Nat), .int .u8 (bt0 n1 : Nat), .int .u8 (bt1 n1 : Nat), .int .u8 (bt2 n1 : Nat), .int .u8 (bt3 n1 : Nat), .int .u8 (bt0 n2 : Nat), .int .u8 (bt1 n2 : Nat), .int .u8 (bt2 n2 : Nat), .int .u8 (bt3 n2 : Nat), .int .u8 (bt0 n3 : Nat), .int .u8 (bt1 n3 : Nat), .int .u8 (bt2 n3 : Nat), .int .u8 (bt3 n3 : Nat)])) :=
          ⟨World.rangeAt_setCells_same _ _ _ _ (HT5.out u4 u5 hu4 hu5).1, below_setCells _ (Nat.le_succ _) _ _ _ (HT5.out u4 u5 hu4 hu5).2⟩
        generalize u5.setCells (w.heap.size + 1) 0 [.int .u8 (bt0 n0 : Nat), .int .u8 (bt1 n0 : Nat), .int .u8 (bt2 n0 : Nat), .int .u8 (bt3 n0 : Nat), .int .u8 (bt0 n1 : Nat), .int .u8 (bt1 n1 : Nat), .int .u8 (bt2 n1 : Nat), .int .u8 (bt3 n1 : Nat), .int .u8 (bt0 n2 : Nat), .int .u8 (bt1 n2 : Nat), .int .u8 (bt2 n2 : Nat), .int .u8 (bt3 n2 : Nat), .int .u8 (bt0 n3 : Nat), .int .u8 (bt1 n3 : Nat), .int .u8 (bt2 n3 : Nat), .int .u8 (bt3 n3 : Nat)] = w6 at HR ⊢
        have HE : Hid ((⟨n0, n1, n2, n3⟩ : W4) = dcW nr K s) := by
          show _ = _
          have h := HX.out
          rw [HT.out] at h
          rw [HN.out, HM.out, dcW, h, Cw]
        clear hu4 hu5 k0 k1 k2 k3 ka kt g0 g1 g2 g3
        go_wp2
        refine Yl [.int .u8 (bt0 n0 : Nat), .int .u8 (bt1 n0 : Nat), .int .u8 (bt2 n0 : Nat), .int .u8 (bt3 n0 : Nat), .int .u8 (bt0 n1 : Nat), .int .u8 (bt1 n1 : Nat), .int .u8 (bt2 n1 : Nat), .int .u8 (bt3 n1 : Nat), .int .u8 (bt0 n2 : Nat), .int .u8 (bt1 n2 : Nat), .int .u8 (bt2 n2 : Nat), .int .u8 (bt3 n2 : Nat), .int .u8 (bt0 n3 : Nat), .int .u8 (bt1 n3 : Nat), .int .u8 (bt2 n3 : Nat), .int .u8 (bt3 n3 : Nat)] Tryz.results255 rfl HR.out.1 Tryz.underlying27 rfl Qz ⟨?_, HR.out.2⟩
        rw [← HE.out]
        exact rfl
open Go.RowKit Go.RwLone
set_option maxHeartbeats 3200000 in
set_option maxRecDepth 100000 in
theorem Ie (g nr:Nat) (K:Nat→Nat) (s:W4) (w:World) (h:Zm w g nr K) (hs:s.ok) :
  Calls Tryz.prog 239 #[.pointer (some ⟨g,0,none⟩),s.blk] w fun e w'=>e=.returned (.tuple #[(dcW nr K s).blk,.int .i64 0])∧Zm w' g nr K∧Touch w w' g 4 1:=by
 have HK:Hid (Zm w g nr K):=h
 have HG:Hid (g<w.heap.size):=h.ciph.here
 clear h
 obtain ⟨⟨n0,n1,n2,n3⟩,HN⟩:∃ t,Hid (t=dcW nr K s):=⟨_,rfl⟩
 have HB2:Hid (Below w.heap.size w ((w.alloc (.cells #[.int .u8 (bt0 s.a:Nat),.int .u8 (bt1 s.a:Nat),.int .u8 (bt2 s.a:Nat),.int .u8 (bt3 s.a:Nat),.int .u8 (bt0 s.b:Nat),.int .u8 (bt1 s.b:Nat),.int .u8 (bt2 s.b:Nat),.int .u8 (bt3 s.b:Nat),.int .u8 (bt0 s.c:Nat),.int .u8 (bt1 s.c:Nat),.int .u8 (bt2 s.c:Nat),.int .u8 (bt3 s.c:Nat),.int .u8 (bt0 s.d:Nat),.int .u8 (bt1 s.d:Nat),.int .u8 (bt2 s.d:Nat),.int .u8 (bt3 s.d:Nat)] 27)).alloc (.cells #[.int .u8 0,.int .u8 0,.int .u8 0,.int .u8 0,.int .u8 0,.int .u8 0,.int .u8 0,.int .u8 0,.int .u8 0,.int .u8 0,.int .u8 0,.int .u8 0,.int .u8 0,.int .u8 0,.int .u8 0,.int .u8 0] 27))):=(Ym w _ _ 27 27).1
 have HK2:Hid (Zm ((w.alloc (.cells #[.int .u8 (bt0 s.a:Nat),.int .u8 (bt1 s.a:Nat),.int .u8 (bt2 s.a:Nat),.int .u8 (bt3 s.a:Nat),.int .u8 (bt0 s.b:Nat),.int .u8 (bt1 s.b:Nat),.int .u8 (bt2 s.b:Nat),.int .u8 (bt3 s.b:Nat),.int .u8 (bt0 s.c:Nat),.int .u8 (bt1 s.c:Nat),.int .u8 (bt2 s.c:Nat),.int .u8 (bt3 s.c:Nat),.int .u8 (bt0 s.d:Nat),.int .u8 (bt1 s.d:Nat),.int .u8 (bt2 s.d:Nat),.int .u8 (bt3 s.d:Nat)] 27)).alloc (.cells #[.int .u8 0,.int .u8 0,.int .u8 0,.int .u8 0,.int .u8 0,.int .u8 0,.int .u8 0,.int .u8 0,.int .u8 0,.int .u8 0,.int .u8 0,.int .u8 0,.int .u8 0,.int .u8 0,.int .u8 0,.int .u8 0] 27)) g nr K):=HK.out.below HB2.out HG.out
 have HH:Hid (Calls Tryz.prog 53 #[.pointer (some ⟨g,0,none⟩)] ((w.alloc (.cells #[.int .u8 (bt0 s.a:Nat),.int .u8 (bt1 s.a:Nat),.int .u8 (bt2 s.a:Nat),.int .u8 (bt3 s.a:Nat),.int .u8 (bt0 s.b:Nat),.int .u8 (bt1 s.b:Nat),.int .u8 (bt2 s.b:Nat),.int .u8 (bt3 s.b:Nat),.int .u8 (bt0 s.c:Nat),.int .u8 (bt1 s.c:Nat),.int .u8 (bt2 s.c:Nat),.int .u8 (bt3 s.c:Nat),.int .u8 (bt0 s.d:Nat),.int .u8 (bt1 s.d:Nat),.int .u8 (bt2 s.d:Nat),.int .u8 (bt3 s.d:Nat)] 27)).alloc (.cells #[.int .u8 0,.int .u8 0,.int .u8 0,.int .u8 0,.int .u8 0,.int .u8 0,.int .u8 0,.int .u8 0,.int .u8 0,.int .u8 0,.int .u8 0,.int .u8 0,.int .u8 0,.int .u8 0,.int .u8 0,.int .u8 0] 27)) fun e w'=>e=.returned (.int .i64 0)∧w'=(((w.alloc (.cells #[.int .u8 (bt0 s.a:Nat),.int .u8 (bt1 s.a:Nat),.int .u8 (bt2 s.a:Nat),.int .u8 (bt3 s.a:Nat),.int .u8 (bt0 s.b:Nat),.int .u8 (bt1 s.b:Nat),.int .u8 (bt2 s.b:Nat),.int .u8 (bt3 s.b:Nat),.int .u8 (bt0 s.c:Nat),.int .u8 (bt1 s.c:Nat),.int .u8 (bt2 s.c:Nat),.int .u8 (bt3 s.c:Nat),.int .u8 (bt0 s.d:Nat),.int .u8 (bt1 s.d:Nat),.int .u8 (bt2 s.d:Nat),.int .u8 (bt3 s.d:Nat)] 27)).alloc (.cells #[.int .u8 0,.int .u8 0,.int .u8 0,.int .u8 0,.int .u8 0,.int .u8 0,.int .u8 0,.int .u8 0,.int .u8 0,.int .u8 0,.int .u8 0,.int .u8 0,.int .u8 0,.int .u8 0,.int .u8 0,.int .u8 0] 27))).setCell ⟨g,4,none⟩ (.int .i32 1)):=M7 g nr K _ HK2.out
 have HE:Hid (∀ u,X5 u g 6 nr K→Calls Tryz.prog 255 #[.pointer (some ⟨g,6,none⟩),.agg #[.int .u8 (bt0 s.a:Nat),.int .u8 (bt1 s.a:Nat),.int .u8 (bt2 s.a:Nat),.int .u8 (bt3 s.a:Nat),.int .u8 (bt0 s.b:Nat),.int .u8 (bt1 s.b:Nat),.int .u8 (bt2 s.b:Nat),.int .u8 (bt3 s.b:Nat),.int .u8 (bt0 s.c:Nat),.int .u8 (bt1 s.c:Nat),.int .u8 (bt2 s.c:Nat),.int .u8 (bt3 s.c:Nat),.int .u8 (bt0 s.d:Nat),.int .u8 (bt1 s.d:Nat),.int .u8 (bt2 s.d:Nat),.int .u8 (bt3 s.d:Nat)]] u fun e u'=>e=.returned (.agg #[.int .u8 (bt0 n0:Nat),.int .u8 (bt1 n0:Nat),.int .u8 (bt2 n0:Nat),.int .u8 (bt3 n0:Nat),.int .u8 (bt0 n1:Nat),.int .u8 (bt1 n1:Nat),.int .u8 (bt2 n1:Nat),.int .u8 (bt3 n1:Nat),.int .u8 (bt0 n2:Nat),.int .u8 (bt1 n2:Nat),.int .u8 (bt2 n2:Nat),.int .u8 (bt3 n2:Nat),.int .u8 (bt0 n3:Nat),.int .u8 (bt1 n3:Nat),.int .u8 (bt2 n3:Nat),.int .u8 (bt3 n3:Nat)])∧Below u.heap.size u u'):=fun u hu=>by
  have:=Zbg g 6 nr K s u hu hs
  rw[←HN.out] at this
  exact this
 clear hs
 have HSZ:Hid (((w.alloc (.cells #[.int .u8 (bt0 s.a:Nat),.int .u8 (bt1 s.a:Nat),.int .u8 (bt2 s.a:Nat),.int .u8 (bt3 s.a:Nat),.int .u8 (bt0 s.b:Nat),.int .u8 (bt1 s.b:Nat),.int .u8 (bt2 s.b:Nat),.int .u8 (bt3 s.b:Nat),.int .u8 (bt0 s.c:Nat),.int .u8 (bt1 s.c:Nat),.int .u8 (bt2 s.c:Nat),.int .u8 (bt3 s.c:Nat),.int .u8 (bt0 s.d:Nat),.int .u8 (bt1 s.d:Nat),.int .u8 (bt2 s.d:Nat),.int .u8 (bt3 s.d:Nat)] 27)).alloc (.cells #[.int .u8 0,.int .u8 0,.int .u8 0,.int .u8 0,.int .u8 0,.int .u8 0,.int .u8 0,.int .u8 0,.int .u8 0,.int .u8 0,.int .u8 0,.int .u8 0,.int .u8 0,.int .u8 0,.int .u8 0,.int .u8 0] 27)).heap.size=w.heap.size+2):=by show _=_;simp
 have HTH:Hid (((w.alloc (.cells #[.int .u8 (bt0 s.a:Nat),.int .u8 (bt1 s.a:Nat),.int .u8 (bt2 s.a:Nat),.int .u8 (bt3 s.a:Nat),.int .u8 (bt0 s.b:Nat),.int .u8 (bt1 s.b:Nat),.int .u8 (bt2 s.b:Nat),.int .u8 (bt3 s.b:Nat),.int .u8 (bt0 s.c:Nat),.int .u8 (bt1 s.c:Nat),.int .u8 (bt2 s.c:Nat),.int .u8 (bt3 s.c:Nat),.int .u8 (bt0 s.d:Nat),.int .u8 (bt1 s.d:Nat),.int .u8 (bt2 s.d:Nat),.int .u8 (bt3 s.d:Nat)] 27)).alloc (.cells #[.int .u8 0,.int .u8 0,.int .u8 0,.int .u8 0,.int .u8 0,.int .u8 0,.int .u8 0,.int .u8 0,.int .u8 0,.int .u8 0,.int .u8 0,.int .u8 0,.int .u8 0,.int .u8 0,.int .u8 0,.int .u8 0] 27)).there (w.heap.size+1) 0 16):=Kk w _ _ 27 27 rfl
 have HRG:Hid (((w.alloc (.cells #[.int .u8 (bt0 s.a:Nat),.int .u8 (bt1 s.a:Nat),.int .u8 (bt2 s.a:Nat),.int .u8 (bt3 s.a:Nat),.int .u8 (bt0 s.b:Nat),.int .u8 (bt1 s.b:Nat),.int .u8 (bt2 s.b:Nat),.int .u8 (bt3 s.b:Nat),.int .u8 (bt0 s.c:Nat),.int .u8 (bt1 s.c:Nat),.int .u8 (bt2 s.c:Nat),.int .u8 (bt3 s.c:Nat),.int .u8 (bt0 s.d:Nat),.int .u8 (bt1 s.d:Nat),.int .u8 (bt2 s.d:Nat),.int .u8 (bt3 s.d:Nat)] 27)).alloc (.cells #[.int .u8 0,.int .u8 0,.int .u8 0,.int .u8 0,.int .u8 0,.int .u8 0,.int .u8 0,.int .u8 0,.int .u8 0,.int .u8 0,.int .u8 0,.int .u8 0,.int .u8 0,.int .u8 0,.int .u8 0,.int .u8 0] 27)).rangeAt w.heap.size 0 [.int .u8 (bt0 s.a:Nat),.int .u8 (bt1 s.a:Nat),.int .u8 (bt2 s.a:Nat),.int .u8 (bt3 s.a:Nat),.int .u8 (bt0 s.b:Nat),.int .u8 (bt1 s.b:Nat),.int .u8 (bt2 s.b:Nat),.int .u8 (bt3 s.b:Nat),.int .u8 (bt0 s.c:Nat),.int .u8 (bt1 s.c:Nat),.int .u8 (bt2 s.c:Nat),.int .u8 (bt3 s.c:Nat),.int .u8 (bt0 s.d:Nat),.int .u8 (bt1 s.d:Nat),.int .u8 (bt2 s.d:Nat),.int .u8 (bt3 s.d:Nat)]):=fun j v hv=>by simpa using (Ym w #[.int .u8 (bt0 s.a:Nat),.int .u8 (bt1 s.a:Nat),.int .u8 (bt2 s.a:Nat),.int .u8 (bt3 s.a:Nat),.int .u8 (bt0 s.b:Nat),.int .u8 (bt1 s.b:Nat),.int .u8 (bt2 s.b:Nat),.int .u8 (bt3 s.b:Nat),.int .u8 (bt0 s.c:Nat),.int .u8 (bt1 s.c:Nat),.int .u8 (bt2 s.c:Nat),.int .u8 (bt3 s.c:Nat),.int .u8 (bt0 s.d:Nat),.int .u8 (bt1 s.d:Nat),.int .u8 (bt2 s.d:Nat),.int .u8 (bt3 s.d:Nat)] #[.int .u8 0,.int .u8 0,.int .u8 0,.int .u8 0,.int .u8 0,.int .u8 0,.int .u8 0,.int .u8 0,.int .u8 0,.int .u8 0,.int .u8 0,.int .u8 0,.int .u8 0,.int .u8 0,.int .u8 0,.int .u8 0] 27 27).2 j v (by simpa using hv)
 show Calls Tryz.prog 239 #[.pointer (some ⟨g,0,none⟩),.agg #[.int .u8 (bt0 s.a:Nat),.int .u8 (bt1 s.a:Nat),.int .u8 (bt2 s.a:Nat),.int .u8 (bt3 s.a:Nat),.int .u8 (bt0 s.b:Nat),.int .u8 (bt1 s.b:Nat),.int .u8 (bt2 s.b:Nat),.int .u8 (bt3 s.b:Nat),.int .u8 (bt0 s.c:Nat),.int .u8 (bt1 s.c:Nat),.int .u8 (bt2 s.c:Nat),.int .u8 (bt3 s.c:Nat),.int .u8 (bt0 s.d:Nat),.int .u8 (bt1 s.d:Nat),.int .u8 (bt2 s.d:Nat),.int .u8 (bt3 s.d:Nat)]] w _
 go_enter_defers Tryz.func239,Tryz.ntmps239
 go_wp2_with (first | (go_at_call 53;refine HH.out.mono ?_))
 rintro e1 w1 ⟨rfl,hw1⟩
 have H1:Hid (X5 w1 g 6 nr K∧Touch ((w.alloc (.cells #[.int .u8 (bt0 s.a:Nat),.int .u8 (bt1 s.a:Nat),.int .u8 (bt2 s.a:Nat),.int .u8 (bt3 s.a:Nat),.int .u8 (bt0 s.b:Nat),.int .u8 (bt1 s.b:Nat),.int .u8 (bt2 s.b:Nat),.int .u8 (bt3 s.b:Nat),.int .u8 (bt0 s.c:Nat),.int .u8 (bt1 s.c:Nat),.int .u8 (bt2 s.c:Nat),.int .u8 (bt3 s.c:Nat),.int .u8 (bt0 s.d:Nat),.int .u8 (bt1 s.d:Nat),.int .u8 (bt2 s.d:Nat),.int .u8 (bt3 s.d:Nat)] 27)).alloc (.cells #[.int .u8 0,.int .u8 0,.int .u8 0,.int .u8 0,.int .u8 0,.int .u8 0,.int .u8 0,.int .u8 0,.int .u8 0,.int .u8 0,.int .u8 0,.int .u8 0,.int .u8 0,.int .u8 0,.int .u8 0,.int .u8 0] 27)) w1 g 4 1∧w1.cell? ⟨g,4,none⟩=some (.int .i32 1)):=by
  rw[hw1]
  refine ⟨Wd HK2.out 1,(Touch.refl _ g 4 1).setCell 4 _ (by omega) (by omega),?_⟩
  have:=(HK2.out.room 4 (by decide)).1
  exact World.cell?_setCell_same' _ _ _ (by simpa using this)
 clear hw1 HH
 have gl:Hid (∀ u,Below w1.heap.size w1 u→u.rangeAt w.heap.size 0 [.int .u8 (bt0 s.a:Nat),.int .u8 (bt1 s.a:Nat),.int .u8 (bt2 s.a:Nat),.int .u8 (bt3 s.a:Nat),.int .u8 (bt0 s.b:Nat),.int .u8 (bt1 s.b:Nat),.int .u8 (bt2 s.b:Nat),.int .u8 (bt3 s.b:Nat),.int .u8 (bt0 s.c:Nat),.int .u8 (bt1 s.c:Nat),.int .u8 (bt2 s.c:Nat),.int .u8 (bt3 s.c:Nat),.int .u8 (bt0 s.d:Nat),.int .u8 (bt1 s.d:Nat),.int .u8 (bt2 s.d:Nat),.int .u8 (bt3 s.d:Nat)]):=fun u hu j v hv=>by
  have hs:=H1.out.2.1.size
  have hz:=HSZ.out
  have hgw:=HG.out
  rw[hu.cell (p:=⟨w.heap.size,0+j,none⟩) (show w.heap.size<_ by omega),H1.out.2.1.far (p:=⟨w.heap.size,0+j,none⟩) (show w.heap.size<_ by omega) (show w.heap.size≠g by omega)]
  exact HRG.out j v hv
 go_wp2_with fail
 have hS0:Below w1.heap.size w1 w1.drew:=(Below.refl _ _).drew
 refine wp_region_noPanic ?_
 refine Z3 (fun u=>Below w1.heap.size w1 u) 4 (by kernel_rfl) (by decide) (by decide +kernel) (by decide +kernel) (by decide +kernel) (fun inv=>?_)
 refine tT 0 16 (.pointer (some ⟨g,0,none⟩)) inv rfl rfl (by decide +kernel) (hS0) (Or.inl ⟨by rfl,fun w' hS'=>by go_simp⟩) (fun inv=>?_)
 simp only[pU]
 refine tT 1 17 (.pointer (some ⟨g,0,none⟩)) inv rfl rfl (by decide +kernel) (hS0) (Or.inl ⟨by rfl,fun w' hS'=>by go_simp⟩) (fun inv=>?_)
 simp only[pU]
 refine tT 2 18 (.pointer (some ⟨g,6,none⟩)) inv rfl rfl (by decide +kernel) (hS0) (Or.inl ⟨by rfl,fun w' hS'=>by go_simp⟩) (fun inv=>?_)
 simp only[pU]
 refine tT 3 19 (.agg #[.int .u8 (bt0 s.a:Nat),.int .u8 (bt1 s.a:Nat),.int .u8 (bt2 s.a:Nat),.int .u8 (bt3 s.a:Nat),.int .u8 (bt0 s.b:Nat),.int .u8 (bt1 s.b:Nat),.int .u8 (bt2 s.b:Nat),.int .u8 (bt3 s.b:Nat),.int .u8 (bt0 s.c:Nat),.int .u8 (bt1 s.c:Nat),.int .u8 (bt2 s.c:Nat),.int .u8 (bt3 s.c:Nat),.int .u8 (bt0 s.d:Nat),.int .u8 (bt1 s.d:Nat),.int .u8 (bt2 s.d:Nat),.int .u8 (bt3 s.d:Nat)]) inv rfl rfl (by decide +kernel) (hS0) (yieldsIf_load_mid (by rfl) 27 (.tmp 3) rfl w.heap.size 0 rfl [.int .u8 (bt0 s.a:Nat),.int .u8 (bt1 s.a:Nat),.int .u8 (bt2 s.a:Nat),.int .u8 (bt3 s.a:Nat),.int .u8 (bt0 s.b:Nat),.int .u8 (bt1 s.b:Nat),.int .u8 (bt2 s.b:Nat),.int .u8 (bt3 s.b:Nat),.int .u8 (bt0 s.c:Nat),.int .u8 (bt1 s.c:Nat),.int .u8 (bt2 s.c:Nat),.int .u8 (bt3 s.c:Nat),.int .u8 (bt0 s.d:Nat),.int .u8 (bt1 s.d:Nat),.int .u8 (bt2 s.d:Nat),.int .u8 (bt3 s.d:Nat)] _ (fun u hu=>gl.out u hu) Tryz.underlying27 rfl Qz) (fun inv=>?_)
 simp only[pU]
 refine Zn (i:=4) (by decide +kernel) (by decide) rfl (fun K hK=>?_)
 go_simp
 refine (HE.out _ (H1.out.1.below hS0 H1.out.1.here)).mono ?_
 rintro e1 u2 ⟨rfl,hu2⟩
 go_wp2_with fail
 refine hK.out _ _ ?_
 clear hK K
 try simp only[pU]
 have HT2:Hid (u2.there (w.heap.size+1) 0 16∧Touch w u2 g 4 1∧u2.cell? ⟨g,4,none⟩=some (.int .i32 1)):=by
  have hs:=H1.out.2.1.size
  have hz:=HSZ.out
  have hgw:=HG.out
  have hg1:=H1.out.1.here
  have hb:Below w1.heap.size w1 u2:=hS0.trans (hu2.mono (Nat.le_refl _))
  refine ⟨Zh (fun j hj=>?_) hb (by omega),?_,(hb.cell hg1).trans H1.out.2.2⟩
  ·rw[H1.out.2.1.far (p:=⟨w.heap.size+1,0+j,none⟩) (show w.heap.size+1<_ by omega) (show w.heap.size+1≠g by omega),H1.out.2.1.farFrozen (p:=⟨w.heap.size+1,0+j,none⟩) (show w.heap.size+1<_ by omega) (show w.heap.size+1≠g by omega)]
   exact HTH.out j hj
  ·exact ((((Touch.refl w g 4 1).alloc _ hgw).alloc _ hgw).trans H1.out.2.1).below hb hgw
 refine Zn (i:=5) (by decide +kernel) (by decide) rfl (fun K hK=>?_)
 rw[if_pos (by rfl)]
 refine wp_store_mid 27 (.tmp 4) (.tmp 20) rfl (w.heap.size+1) 0 #[.int .u8 (bt0 n0:Nat),.int .u8 (bt1 n0:Nat),.int .u8 (bt2 n0:Nat),.int .u8 (bt3 n0:Nat),.int .u8 (bt0 n1:Nat),.int .u8 (bt1 n1:Nat),.int .u8 (bt2 n1:Nat),.int .u8 (bt3 n1:Nat),.int .u8 (bt0 n2:Nat),.int .u8 (bt1 n2:Nat),.int .u8 (bt2 n2:Nat),.int .u8 (bt3 n2:Nat),.int .u8 (bt0 n3:Nat),.int .u8 (bt1 n3:Nat),.int .u8 (bt2 n3:Nat),.int .u8 (bt3 n3:Nat)] rfl rfl (HT2.out.1) (Qz) (by kernel_rfl) ?_
 refine hK.out _ _ ?_
 clear hK K
 try simp only[pU]
 refine Zn (i:=6) (by kernel_rfl) (by decide) rfl (fun K hK=>?_)
 go_simp
 refine hK.out _ _ ?_
 clear hK K
 try simp only[pU]
 refine Xj (by decide +kernel) ?_ _
 refine NoPanic.normal ?_
 have HF:Hid ((u2.setCells (w.heap.size+1) 0 [.int .u8 (bt0 n0:Nat),.int .u8 (bt1 n0:Nat),.int .u8 (bt2 n0:Nat),.int .u8 (bt3 n0:Nat),.int .u8 (bt0 n1:Nat),.int .u8 (bt1 n1:Nat),.int .u8 (bt2 n1:Nat),.int .u8 (bt3 n1:Nat),.int .u8 (bt0 n2:Nat),.int .u8 (bt1 n2:Nat),.int .u8 (bt2 n2:Nat),.int .u8 (bt3 n2:Nat),.int .u8 (bt0 n3:Nat),.int .u8 (bt1 n3:Nat),.int .u8 (bt2 n3:Nat),.int .u8 (bt3 n3:Nat)]).rangeAt (w.heap.size+1) 0 [.int .u8 (bt0 n0:Nat),.int .u8 (bt1 n0:Nat),.int .u8 (bt2 n0:Nat),.int .u8 (bt3 n0:Nat),.int .u8 (bt0 n1:Nat),.int .u8 (bt1 n1:Nat),.int .u8 (bt2 n1:Nat),.int .u8 (bt3 n1:Nat),.int .u8 (bt0 n2:Nat),.int .u8 (bt1 n2:Nat),.int .u8 (bt2 n2:Nat),.int .u8 (bt3 n2:Nat),.int .u8 (bt0 n3:Nat),.int .u8 (bt1 n3:Nat),.int .u8 (bt2 n3:Nat),.int .u8 (bt3 n3:Nat)]∧Touch w (u2.setCells (w.heap.size+1) 0 [.int .u8 (bt0 n0:Nat),.int .u8 (bt1 n0:Nat),.int .u8 (bt2 n0:Nat),.int .u8 (bt3 n0:Nat),.int .u8 (bt0 n1:Nat),.int .u8 (bt1 n1:Nat),.int .u8 (bt2 n1:Nat),.int .u8 (bt3 n1:Nat),.int .u8 (bt0 n2:Nat),.int .u8 (bt1 n2:Nat),.int .u8 (bt2 n2:Nat),.int .u8 (bt3 n2:Nat),.int .u8 (bt0 n3:Nat),.int .u8 (bt1 n3:Nat),.int .u8 (bt2 n3:Nat),.int .u8 (bt3 n3:Nat)]) g 4 1∧(u2.setCells (w.heap.size+1) 0 [.int .u8 (bt0 n0:Nat),.int .u8 (bt1 n0:Nat),.int .u8 (bt2 n0:Nat),.int .u8 (bt3 n0:Nat),.int .u8 (bt0 n1:Nat),.int .u8 (bt1 n1:Nat),.int .u8 (bt2 n1:Nat),.int .u8 (bt3 n1:Nat),.int .u8 (bt0 n2:Nat),.int .u8 (bt1 n2:Nat),.int .u8 (bt2 n2:Nat),.int .u8 (bt3 n2:Nat),.int .u8 (bt0 n3:Nat),.int .u8 (bt1 n3:Nat),.int .u8 (bt2 n3:Nat),.int .u8 (bt3 n3:Nat)]).cell? ⟨g,4,none⟩=some (.int .i32 1)):=by
  have hgw:=HG.out
  refine ⟨World.rangeAt_setCells_same _ _ _ _ HT2.out.1,Jf HT2.out.2.1 (Nat.le_succ _) _ _ hgw,?_⟩
  rw[World.cell?_setCells_out (w.heap.size+1) _ 0 u2 ⟨g,4,none⟩ (fun e _=>absurd e (by simp;omega))]
  exact HT2.out.2.2
 generalize u2.setCells (w.heap.size+1) 0 [.int .u8 (bt0 n0:Nat),.int .u8 (bt1 n0:Nat),.int .u8 (bt2 n0:Nat),.int .u8 (bt3 n0:Nat),.int .u8 (bt0 n1:Nat),.int .u8 (bt1 n1:Nat),.int .u8 (bt2 n1:Nat),.int .u8 (bt3 n1:Nat),.int .u8 (bt0 n2:Nat),.int .u8 (bt1 n2:Nat),.int .u8 (bt2 n2:Nat),.int .u8 (bt3 n2:Nat),.int .u8 (bt0 n3:Nat),.int .u8 (bt1 n3:Nat),.int .u8 (bt2 n3:Nat),.int .u8 (bt3 n3:Nat)]=w3 at HF ⊢
 clear hu2 hS0 gl
 go_wp2
 have hroom:w3.there g 0 1091:=HF.out.2.1.there _ _ HK.out.room
 obtain ⟨x0,c0⟩:=Y9 hroom 0 (by decide)
 obtain ⟨x2,c2⟩:=Y9 hroom 2 (by decide)
 have hz:=(hroom 4 (by decide)).2
 have hcnt:=HF.out.2.2
 refine leaves_cons (f:=54) (args:=#[.pointer (some ⟨g,0,none⟩)]) (by simp) (by simp [go_sem]) ?_
 refine (runlock_deferred B4 g 0 1 x0 x2 .returning _ c0 c2 hcnt hz (by decide +kernel)).mono ?_
 rintro e5 u5 w5 ⟨rfl,rfl,hw5⟩
 rw[show wrap32 (1+-1)=0 by decide +kernel] at hw5
 have hw5':w5=w3.setCells g 4 [.int .i32 0]:=hw5
 have hg:g≠w.heap.size+1:=by have:=HG.out;omega
 have ht5:Touch w w5 g 4 1:=by rw[hw5'];exact HF.out.2.1.setCells 4 _ (by omega) (by simp)
 have hc5:w5.cell? ⟨g,4,none⟩=some (.int .i32 0):=by
  rw[hw5]
  exact World.cell?_setCell_same' _ _ _ (by rw[show (0+4)=4 from rfl,hcnt];rfl)
 have hr5:w5.rangeAt (w.heap.size+1) 0 [.int .u8 (bt0 n0:Nat),.int .u8 (bt1 n0:Nat),.int .u8 (bt2 n0:Nat),.int .u8 (bt3 n0:Nat),.int .u8 (bt0 n1:Nat),.int .u8 (bt1 n1:Nat),.int .u8 (bt2 n1:Nat),.int .u8 (bt3 n1:Nat),.int .u8 (bt0 n2:Nat),.int .u8 (bt1 n2:Nat),.int .u8 (bt2 n2:Nat),.int .u8 (bt3 n2:Nat),.int .u8 (bt0 n3:Nat),.int .u8 (bt1 n3:Nat),.int .u8 (bt2 n3:Nat),.int .u8 (bt3 n3:Nat)]:=by rw[hw5'];exact World.rangeAt_setCells_apart HF.out.1 _ _ _ (Or.inl (Ne.symm hg))
 have hl:=run_loadVar_mid (P:=Tryz.prog) w5 (w.heap.size+1) 0 27 [.int .u8 (bt0 n0:Nat),.int .u8 (bt1 n0:Nat),.int .u8 (bt2 n0:Nat),.int .u8 (bt3 n0:Nat),.int .u8 (bt0 n1:Nat),.int .u8 (bt1 n1:Nat),.int .u8 (bt2 n1:Nat),.int .u8 (bt3 n1:Nat),.int .u8 (bt0 n2:Nat),.int .u8 (bt1 n2:Nat),.int .u8 (bt2 n2:Nat),.int .u8 (bt3 n2:Nat),.int .u8 (bt0 n3:Nat),.int .u8 (bt1 n3:Nat),.int .u8 (bt2 n3:Nat),.int .u8 (bt3 n3:Nat)] _ hr5 Tryz.underlying27 rfl Qz
 refine ⟨.tuple #[.agg #[.int .u8 (bt0 n0:Nat),.int .u8 (bt1 n0:Nat),.int .u8 (bt2 n0:Nat),.int .u8 (bt3 n0:Nat),.int .u8 (bt0 n1:Nat),.int .u8 (bt1 n1:Nat),.int .u8 (bt2 n1:Nat),.int .u8 (bt3 n1:Nat),.int .u8 (bt0 n2:Nat),.int .u8 (bt1 n2:Nat),.int .u8 (bt2 n2:Nat),.int .u8 (bt3 n2:Nat),.int .u8 (bt0 n3:Nat),.int .u8 (bt1 n3:Nat),.int .u8 (bt2 n3:Nat),.int .u8 (bt3 n3:Nat)],.int .i64 0],?_,?_,HK.out.touch ht5 hc5,ht5⟩
 ·rw[results_cell_tmp Tryz.results239]
  simp [asAddr,hl]
 ·rw[←HN.out]
  exact rfl
end Go.Proofs.YtehlppaidgkpaaaGreatDoor
