import Derived.WalkKit
import Derived.Test.YtehlppaidgkpaaaGreatDoorProg
import Derived.Laws.BitsLemmas
import Derived.Deep.RegionHeld3
import Derived.StillTail
import Derived.Deep.MidRow
import Derived.Laws.ResultCell
import Derived.Below
import Derived.Deep.Draws
import Derived.Deep.Upon
import Derived.Deep.QuietTactic
import Derived.BigQuiet
import Derived.Great.BuildSlice
import Derived.Maps.AppendAt
import Derived.Laws.BitsAllLaws
import Derived.Laws.Bits64
import Derived.Test.YtehlppaidgkpaaaGreatDoorChecked
import Derived.ProofKit
import Derived.Conc.RwLone
import Derived.KernelRfl
namespace Go.Proofs.YtehlppaidgkpaaaGreatDoor
theorem pU {α : Type}:(∀ (l:List α)(i:Nat)(a:α),l.toArray.setIfInBounds i a=(l.set i a).toArray)∧(∀ (x:α)(l:List α)(a:α),(x::l).set 0 a=a::l)∧(∀ (x:α)(l:List α)(n:Nat)(a:α),(x::l).set (n+1) a=x::l.set n a):=
  ⟨fun l i a=>by simp,fun x l a=>rfl,fun x l n a=>rfl⟩
open Go.RowKit
def Y1 (a:Nat):Nat:=Nat.xor (Nat.mod (Nat.mul a 2) 256) (Nat.mul (Nat.div a 128) 27)
def Fu:Nat→Nat→Nat→Nat→Nat
 | 0,p,_,_=>p
 | k+1,p,a,b=>Fu k (Nat.xor p (Nat.mul (Nat.mod b 2) a)) (Y1 a) (Nat.div b 2)
def Gx (a b:Nat):Nat→Nat
 | 0=>0
 | i+1=>Nat.xor (Gx a b i) (Nat.mul (Nat.mod (Nat.div b (Nat.pow 2 i)) 2) (Nat.mul a (Nat.pow 2 i)))
def Wy:Nat→Nat→Nat
 | 0,p=>p
 | i+1,p=>Wy i (Nat.xor p (Nat.mul (Nat.mod (Nat.div p (Nat.pow 2 (Nat.add i 8))) 2) (Nat.mul 283 (Nat.pow 2 i))))
def Me (f:Nat→Bool):Nat→Bool
 | 0=>true
 | n+1=>and (f n) (Me f n)
theorem V0 {f : Nat → Bool} : ∀ {n : Nat}, Me f n = true → ∀ {i}, i < n → f i = true
  | 0, _, i, h => by omega
  | n + 1, ha, i, h => by
    simp only [Me, Bool.and_eq_true] at ha
    by_cases hi : i = n
    · subst hi; exact ha.1
    · exact V0 ha.2 (by omega)
theorem Zbi:∀ a:Fin 256,bits .xor .u8 ((a.1:Int)*2%256) (bits .and .u8 27 (-((a.1:Int)/128)%256))=(Y1 a.1:Nat):=by decide +kernel
theorem Wf:∀ a:Fin 256,Y1 a.1<256:=by decide +kernel
theorem and_one:∀ b:Fin 256,bits .and .u8 (b.1:Int) 1=((b.1%2:Nat):Int):=by decide +kernel
theorem I8:∀ b:Fin 256,bits .and .u8 (b.1:Int) 255=(b.1:Int):=by decide +kernel
theorem Pk:∀ b:Fin 256,bits .and .u8 (b.1:Int) 0=0:=by decide +kernel
theorem Fm (k:IntKind) (j:Nat) (hj:j≤k.bits) (hk:∀ n:Int,0≤n→n<2^j→k.wrap n=n) (a b:Nat) (ha:a<2^j) (hb:b<2^j) :
  bits .xor k a b=((Nat.xor a b:Nat):Int):=by
 have hp:2^j≤2^k.bits:=Nat.pow_le_pow_right (by decide) hj
 have ha':a%2^k.bits=a:=Nat.mod_eq_of_lt (Nat.lt_of_lt_of_le ha hp)
 have hb':b%2^k.bits=b:=Nat.mod_eq_of_lt (Nat.lt_of_lt_of_le hb hp)
 have cast:∀ n:Nat,n<2^j→((n:Nat):Int)<2^j:=fun n h=>by exact_mod_cast h
 simp only[bits,BitVec.ofInt_natCast,BitVec.toNat_xor,BitVec.toNat_ofNat,ha',hb']
 exact hk _ (Int.natCast_nonneg _) (cast _ (Nat.xor_lt_two_pow ha hb))
theorem F9 (n:Int) (h₀:0≤n) (h₁:n<2^63):IntKind.i64.wrap n=n:=by rw[IntKind.wrap_i64];omega
theorem Q5 (a b:Nat) (ha:a<256) (hb:b<256):bits .xor .u8 (a:Int) b=(Nat.xor a b:Nat):=Fm .u8 8 (by decide) wraps_u8 a b ha hb
theorem Oe (a b:Nat) (ha:a<32768) (hb:b<32768):bits .xor .i64 (a:Int) b=(Nat.xor a b:Nat):=Fm .i64 15 (by decide) (fun n h0 h1=>F9 n h0 (by omega)) a b ha hb
theorem D6 {a b:Nat} (ha:a<32768) (hb:b<32768):Nat.xor a b<32768:=Nat.xor_lt_two_pow (n:=15) ha hb
theorem Pf (b k:Nat):(((b:Int)/2^k).tmod 2==1)=(Nat.mod (Nat.div b (Nat.pow 2 k)) 2==1):=by
 have e:((b:Int)/2^k)=((b/2^k:Nat):Int):=by push_cast;rfl
 rw[e,show (2:Int)=((2:Nat):Int) from rfl,←Int.ofNat_tmod]
 show _=(b/2^k%2==1)
 have:b/2^k%2=0∨b/2^k%2=1:=by omega
 rcases this with h | h<;>rw[h]<;>rfl
theorem Ho (n:Nat):Nat.mod n 2=0∨Nat.mod n 2=1:=by
 have:n%2=0∨n%2=1:=by omega
 exact this
theorem Zd {a b:Nat} (ha:a<256) (hb:b<256):Nat.xor a b<256:=Nat.xor_lt_two_pow (n:=8) ha hb
theorem Ib (a b:Nat) (ha:a<256) (hb:b<256):bits .and .u8 (a:Int) (-(bits .and .u8 (b:Int) 1)%256)=(Nat.mul (Nat.mod b 2) a:Nat):=by
 have h1:=and_one ⟨b,hb⟩
 simp only at h1
 rw[h1]
 have:b%2=0∨b%2=1:=by omega
 rcases this with h | h
 ·rw[h]
  have:=Pk ⟨a,ha⟩
  simp only at this
  have e:Nat.mod b 2=0:=h
  rw[e]
  simpa using this
 ·rw[h]
  have:=I8 ⟨a,ha⟩
  simp only at this
  have e:Nat.mod b 2=1:=h
  rw[e]
  simpa using this
theorem Xk {k:IntKind} {x y:Int} (h:x=y):Ending.returned (.int k x)=.returned (.int k y):=by rw[h]
theorem Yb {k:IntKind} {x y:Int} (h:x=y):Value.int k x=Value.int k y:=by rw[h]
theorem Us (a:Nat) (h:a<256) (w:World):Calls Tryz.prog 163 #[.int .u8 a] w fun e w'=>e=.returned (.int .u8 (Y1 a:Nat))∧w'=w:=by
 go_enter Tryz.func163,Tryz.ntmps163
 go_wp2
 go_ret
 exact ⟨Xk (Zbi ⟨a,h⟩),rfl⟩
theorem D8 (a b:Nat) (ha:a<256) (hb:b<256) (w:World):Calls Tryz.prog 117 #[.int .u8 a,.int .u8 b] w fun e w'=>e=.returned (.int .u8 (Fu 8 0 a b:Nat))∧w'=w:=by
 go_enter Tryz.func117,Tryz.ntmps117
 go_wp2
 go_loopw [0,1,5,6] (fun va vb vp i wr=>∃ k x y p:Nat,k≤8∧x<256∧y<256∧p<256∧i=.int .i64 k∧va=.int .u8 x∧vb=.int .u8 y∧vp=.int .u8 p∧Hid (Fu 8 0 a b=Fu (8-k) p x y)∧wr=w) (fun _ _ _ i _=>8-(intOf i).toNat)
 case atStart=>exact ⟨0,a,b,0,by omega,ha,hb,by omega,rfl,rfl,rfl,rfl,rfl,rfl⟩
 case round=>
  obtain ⟨k,x,y,p,hk,hx,hy,hp,rfl,rfl,rfl,rfl,HS,hw⟩:=hrel
  obtain rfl:=hw.symm
  by_cases hlt:k<8
  ·go_wp2_with (first | (go_at_call 163;(refine (Us x hx _).mono ?_);(rintro e1 w1 ⟨rfl,hw1⟩;obtain rfl:=hw1.symm)))
   go_roundw
   case rel=>
    have hm:Nat.mul (Nat.mod y 2) x<256:=by
     have:y%2=0∨y%2=1:=by omega
     rcases this with h | h
     ·rw[show Nat.mod y 2=0 from h];simp
     ·rw[show Nat.mod y 2=1 from h];simpa using hx
    refine ⟨k+1,Y1 x,y/2,Nat.xor p (Nat.mul (Nat.mod y 2) x),by omega,Wf ⟨x,hx⟩,by omega,Zd hp hm,by go_num,rfl,Yb (by omega),Yb ?_,?_,trivial⟩
    ·rw[Ib x y hx hy,Q5 _ _ hp hm]
    ·have:=HS.out
     rw[show 8-k=8-(k+1)+1 by omega] at this
     exact this
   case measure=>simp [intOf];omega
  ·obtain rfl:k=8:=by omega
   go_wp2
   go_ret
   exact ⟨Xk (by rw[HS.out];rfl),rfl⟩
theorem Ck (a b : Nat) (ha : a < 256) (hb : b < 256) (w : World) : Calls Tryz.prog 113 #[.int .u8 a, .int .u8 b] w fun e w' => e = .returned (.int .u8 (Nat.mod (Wy 7 (Gx a b 8)) 256 : Nat)) ∧ w' = w := by
  go_enter Tryz.func113, Tryz.ntmps113
  go_wp2
  go_loopw [5, 6] (fun vp i wr => ∃ k p : Nat, k ≤ 8 ∧ i = .int .i64 k ∧ vp = .int .i64 p ∧ p < 32768 ∧ Hid (p = Gx a b k) ∧ wr = w) (fun _ i _ => 8 - (intOf i).toNat)
  case atStart => exact ⟨0, 0, by omega, rfl, rfl, by omega, rfl, rfl⟩
  case round =>
    obtain ⟨k, p, hk, rfl, rfl, hp, HS, hw⟩ := hrel
    obtain rfl := hw.symm
    by_cases hlt : k < 8
    · have hsh : wrap64 ((a : Int) * 2 ^ k) = (Nat.mul a (Nat.pow 2 k) : Nat) ∧ Nat.mul a (Nat.pow 2 k) < 32768 := by
        have h8 : k = 0 ∨ k = 1 ∨ k = 2 ∨ k = 3 ∨ k = 4 ∨ k = 5 ∨ k = 6 ∨ k = 7 := by omega
        show wrap64 ((a : Int) * 2 ^ k) = (a * 2 ^ k : Nat) ∧ a * 2 ^ k < 32768
        rcases h8 with rfl | rfl | rfl | rfl | rfl | rfl | rfl | rfl <;> (unfold wrap64; omega)
      have hbit := Pf b k
      have HB : Hid ((((b : Int) / 2 ^ k).tmod 2 == 1) = (Nat.mod (Nat.div b (Nat.pow 2 k)) 2 == 1)) := hbit
      have HSH : Hid (wrap64 ((a : Int) * 2 ^ k) = (Nat.mul a (Nat.pow 2 k) : Nat) ∧ Nat.mul a (Nat.pow 2 k) < 32768) := hsh
      clear hbit hsh
      go_wp2
      · have hc : (((b : Int) / 2 ^ k).tmod 2 == 1) = true := by assumption
        have h1 : Nat.mod (Nat.div b (Nat.pow 2 k)) 2 = 1 := by
          rw [HB.out] at hc
          exact eq_of_beq hc
        obtain ⟨e1, e2⟩ := HSH.out
        refine ⟨⟨k + 1, Nat.xor p (Nat.mul a (Nat.pow 2 k)), by omega, rfl, Yb ?_, D6 hp e2, ?_, trivial⟩, ?_⟩
        · rw [e1, Oe _ _ hp e2]
        · show Nat.xor p (Nat.mul a (Nat.pow 2 k)) = _
          rw [HS.out]
          show _ = Nat.xor (Gx a b k) (Nat.mul (Nat.mod (Nat.div b (Nat.pow 2 k)) 2) (Nat.mul a (Nat.pow 2 k)))
          rw [h1]
          simp
        · simp [intOf]; omega
      · have hc : (((b : Int) / 2 ^ k).tmod 2 == 1) = false := by assumption
        have h1 : Nat.mod (Nat.div b (Nat.pow 2 k)) 2 = 0 := by
          rw [HB.out] at hc
          rcases Ho (Nat.div b (Nat.pow 2 k)) with h | h
          · exact h
          · rw [h] at hc; cases hc
        refine ⟨⟨k + 1, p, by omega, rfl, rfl, hp, ?_, trivial⟩, ?_⟩
        · show p = _
          rw [HS.out]
          show _ = Nat.xor (Gx a b k) (Nat.mul (Nat.mod (Nat.div b (Nat.pow 2 k)) 2) (Nat.mul a (Nat.pow 2 k)))
          rw [h1]
          simp
        · simp [intOf]; omega
    · obtain rfl : k = 8 := by omega
      clear hlt hk
      go_wp2
      go_loopw [5, 7] (fun vp i wr => ∃ j p : Nat, j ≤ 7 ∧ i = .int .i64 (j + 7) ∧ vp = .int .i64 p ∧ p < 32768 ∧ Hid (Wy 7 (Gx a b 8) = Wy j p) ∧ wr = w) (fun _ i _ => (intOf i).toNat)
      case atStart => exact ⟨7, p, by omega, rfl, rfl, hp, (by rw [← HS.out] : Wy 7 (Gx a b 8) = Wy 7 p), rfl⟩
      case round =>
        clear HS hp
        obtain ⟨j, p, hj, rfl, rfl, hp, HS, hw⟩ := hrel
        obtain rfl := hw.symm
        cases j with
        | zero =>
          go_wp2
          go_ret
          refine ⟨Xk ?_, rfl⟩
          rw [HS.out]
          show _ = ((p % 256 : Nat) : Int)
          omega
        | succ j =>
          have HB : Hid ((((p : Int) / 2 ^ (j + 1 + 7)).tmod 2 == 1) = (Nat.mod (Nat.div p (Nat.pow 2 (Nat.add j 8))) 2 == 1)) := Pf p (j + 8)
          have HSH : Hid (wrap64 (283 * 2 ^ j) = (Nat.mul 283 (Nat.pow 2 j) : Nat) ∧ Nat.mul 283 (Nat.pow 2 j) < 32768) := by
            have h8 : j = 0 ∨ j = 1 ∨ j = 2 ∨ j = 3 ∨ j = 4 ∨ j = 5 ∨ j = 6 := by omega
            rcases h8 with rfl | rfl | rfl | rfl | rfl | rfl | rfl <;> exact ⟨by decide +kernel, by decide⟩
          have HR : Hid (Wy (j + 1) p = Wy j (Nat.xor p (Nat.mul (Nat.mod (Nat.div p (Nat.pow 2 (Nat.add j 8))) 2) (Nat.mul 283 (Nat.pow 2 j))))) := rfl
          go_wp2
          · have hc : (((p : Int) / 2 ^ (j + 1 + 7)).tmod 2 == 1) = true := by assumption
            have h1 : Nat.mod (Nat.div p (Nat.pow 2 (Nat.add j 8))) 2 = 1 := by
              rw [HB.out] at hc
              exact eq_of_beq hc
            obtain ⟨e1, e2⟩ := HSH.out
            refine ⟨⟨j, Nat.xor p (Nat.mul 283 (Nat.pow 2 j)), by omega, Yb (by omega), Yb ?_, D6 hp e2, ?_, trivial⟩, ?_⟩
            · rw [e1, Oe _ _ hp e2]
            · show Wy 7 (Gx a b 8) = _
              rw [HS.out, HR.out, h1]
              simp
            · simp only [intOf]; omega
          · have hc : (((p : Int) / 2 ^ (j + 1 + 7)).tmod 2 == 1) = false := by assumption
            have h1 : Nat.mod (Nat.div p (Nat.pow 2 (Nat.add j 8))) 2 = 0 := by
              rw [HB.out] at hc
              rcases Ho (Nat.div p (Nat.pow 2 (Nat.add j 8))) with h | h
              · exact h
              · rw [h] at hc; cases hc
            refine ⟨⟨j, p, by omega, Yb (by omega), rfl, hp, ?_, trivial⟩, ?_⟩
            · show Wy 7 (Gx a b 8) = _
              rw [HS.out, HR.out, h1]
              simp
            · simp only [intOf]; omega
set_option linter.unusedVariables false
variable {P:Program} {ops:Array Oper} {Q:Exit→Act→World→Prop} {md:Region.Mode} {S:World→Prop} {n:Nat}
def Xx (P : Program) (md : Region.Mode) (ops : Array Oper) (Q : Exit → Act → World → Prop) (S : World → Prop) (n : Nat) : Nat → Array Bool → Act → World → Prop
  | 0, l, a, w => Region.ready md ops l = [] ∧ Q .normal a w
  | f + 1, l, a, w =>
    (Region.ready md ops l = [] → Q .normal a w) ∧
    ∀ i, i ∈ Region.ready md ops l → wpOp P ops Q i (fun b u => (i < n → S u) ∧ Xx P md ops Q S n f (l.setIfInBounds i true) b u) a w
theorem Bf (f:Nat):∀ (l:Array Bool) (a:Act) (w:World),Xx P md ops Q S n f l a w→wpAny P md ops Q f l a w:=by
 induction f with
 | zero=>exact fun _ _ _ h=>h
 | succ f ih=>exact fun l a w h=>⟨h.1,fun i hi=>wpOp_mono (fun b u k=>ih _ b u k.2) (h.2 i hi)⟩
theorem Bw {i : Nat} {oi : Oper} {v : Value} (hi : ops[i]? = some oi) (hin : i < n) (hn : n < ops.size) (hsk : Region.sinkB md ops n = true) (hch : Region.chainB md ops n = true)
    (hsel : ∀ (j : Nat) (o : Oper) cs b, ops[j]? = some o → o.op ≠ .select cs b) (hQ : ∀ c a w, Q (.panic c) (a.put oi.dst v) w → Q (.panic c) a w) (f : Nat) :
    ∀ (l : Array Bool) (a : Act) (w : World), HeadInv md ops n l →
      (∀ j oj, ops[j]? = some oj → j ≠ i → l.getD j true = false → (∀ e ∈ oj.after, Region.binds md e = true → e.on ≠ i) → oi.apart ops oj = true) →
      i ∈ Region.ready md ops l → YieldsIf P ops S oi v a → S w → Xx P md ops Q S n f (l.setIfInBounds i true) (a.put oi.dst v) w → Xx P md ops Q S n (f + 1) l a w := by
  induction f with
  | zero =>
    intro l a w inv _ hr hy hS H
    refine ⟨fun h => (by rw [h] at hr; cases hr), fun j hj => ?_⟩
    by_cases hji : j = i
    · subst hji
      exact hy.wpOp hi hS ⟨fun _ => hS, H⟩
    · have h := ready_mono hj hji
      rw [H.1] at h
      cases h
  | succ f ih =>
    intro l a w inv hfree hr hy hS H
    refine ⟨fun h => (by rw [h] at hr; cases hr), fun j hj => ?_⟩
    by_cases hji : j = i
    · subst hji
      exact hy.wpOp hi hS ⟨fun _ => hS, H⟩
    have hun := (mem_ready.1 hr).1
    have hjn : j < n := by
      rcases Nat.lt_or_ge j n with h | h
      · exact h
      · exact absurd hj (tail_waits hsk hch hn inv _ i rfl hin hun j h)
    have h1 := H.2 j (ready_mono hj hji)
    obtain ⟨hjun, oj, hoj, hall⟩ := mem_ready.1 hj
    have hnot : ∀ e ∈ oj.after, Region.binds md e = true → e.on ≠ i := fun e he hb heq => by
      have h2 := hall e he hb
      rw [heq] at h2
      rw [getD_both hun] at h2
      cases h2
    have h2 := wpOp_putIf hoj (hfree j oj hoj hji hjun hnot) (fun cs b => hsel i oi cs b hi) (fun cs b => hsel j oj cs b hoj) hQ hy h1
    refine wpOp_mono (fun b u h3 => ?_) h2
    have hSu := h3.2.1 hjn
    refine ⟨fun _ => hSu, ih (l.setIfInBounds j true) b u (inv.set hj hjn) (fun k ok hk hki hku hno => ?_) (ready_mono hr (Ne.symm hji)) h3.1 hSu ?_⟩
    · refine hfree k ok hk hki ?_ hno
      by_cases hjk : j = k
      · subst hjk; exact hjun
      · rw [getD_set_ne true hjk] at hku; exact hku
    · rw [Array.setIfInBounds_comm _ _ hji]
      exact h3.2.2
structure Inv (md:Region.Mode) (ops:Array Oper) (n:Nat) (l:Array Bool):Prop where
 head:HeadInv md ops n l
 lt:n<ops.size
 sink:Region.sinkB md ops n=true
 chain:Region.chainB md ops n=true
 sel:Region.noSelect ops=true
theorem Inv.set {l:Array Bool} {i:Nat} (inv:Inv md ops n l) (hi:i∈Region.ready md ops l) (hin:i<n):Inv md ops n (l.setIfInBounds i true):=⟨inv.head.set hi hin,inv.lt,inv.sink,inv.chain,inv.sel⟩
theorem P7 (i d:Nat) (v:Value) {oi:Oper} {f:Nat} {l:Array Bool} {tmps:Array Value} {ds:List Deferred} {w:World} (inv:Inv md ops n l) (hi:ops[i]?=some oi) (hd:oi.dst=some d)
  (hin:i<n) (hf:Region.free md ops l i=true) (hr:(Region.ready md ops l).contains i=true)
  (hQ:∀ c a w,Q (.panic c) (a.put oi.dst v) w→Q (.panic c) a w) (hS:S w) (hy:YieldsIf P ops S oi v ⟨tmps,ds⟩)
  (h:Inv md ops n (l.setIfInBounds i true)→Xx P md ops Q S n f (l.setIfInBounds i true) ⟨tmps.setIfInBounds d v,ds⟩ w):Xx P md ops Q S n (f+1) l ⟨tmps,ds⟩ w:=by
 have hr':i∈Region.ready md ops l:=by simpa using hr
 refine Bw hi hin inv.lt inv.sink inv.chain (Region.noSelect_spec inv.sel) hQ f l _ w inv.head (Region.free_spec hi hf) hr' hy hS ?_
 rw[hd]
 exact h (inv.set hr' hin)
theorem tT (i d:Nat) (v:Value) {oi:Oper} {f:Nat} {l:Array Bool} {tmps:Array Value} {ds:List Deferred} {w:World} (inv:Inv md ops n l) (hi:ops[i]?=some oi) (hd:oi.dst=some d)
  (hb:(decide (i<n)&&(Region.free md ops l i&&(Region.ready md ops l).contains i))=true) (hS:S w) (hy:YieldsIf P ops S oi v ⟨tmps,ds⟩)
  (h:Inv md ops n (l.setIfInBounds i true)→Xx P md ops Q S n f (l.setIfInBounds i true) ⟨tmps.setIfInBounds d v,ds⟩ w) (hQ:∀ c a w,Q (.panic c) (a.put oi.dst v) w→Q (.panic c) a w:=by exact fun _ _ _ h=>h):Xx P md ops Q S n (f+1) l ⟨tmps,ds⟩ w:=by
 rw[Bool.and_eq_true,Bool.and_eq_true] at hb
 exact P7 i d v inv hi hd (of_decide_eq_true hb.1) hb.2.1 hb.2.2 hQ hS hy h
theorem Zo {i:Nat} {o:Oper} {f:Nat} {l:Array Bool} {a:Act} {w:World} (inv:Inv md ops n l) (hr:Region.ready md ops l=[i]) (hin:i<n) (ho:ops[i]?=some o)
  (h:∀ K':Act→World→Prop,Shut (∀ a w,S w→(Inv md ops n (l.setIfInBounds i true)→Xx P md ops Q S n f (l.setIfInBounds i true) a w)→K' a w)→if Region.wanted o (yielded ops a.tmps)=true then Oper.wp P o a w K' Q else K' (a.put o.dst undef) w) :
  Xx P md ops Q S n (f+1) l a w:=by
 have hi:i∈Region.ready md ops l:=by rw[hr];simp
 refine ⟨fun h0=>(by rw[hr] at h0;cases h0),fun j hj=>?_⟩
 rw[hr] at hj
 obtain rfl:j=i:=by simpa using hj
 exact wpOp_step ho (fun K' hK=>h K' (fun a w hS hW=>hK a w ⟨fun _=>hS,hW (inv.set hi hin)⟩))
theorem Zn {i:Nat} {o:Oper} {f:Nat} {l:Array Bool} {a:Act} {w:World} (hr:Region.ready md ops l=[i]) (hin:n≤i) (ho:ops[i]?=some o)
  (h:∀ K':Act→World→Prop,Shut (∀ a w,Xx P md ops Q S n f (l.setIfInBounds i true) a w→K' a w)→if Region.wanted o (yielded ops a.tmps)=true then Oper.wp P o a w K' Q else K' (a.put o.dst undef) w) :
  Xx P md ops Q S n (f+1) l a w:=by
 refine ⟨fun h0=>(by rw[hr] at h0;cases h0),fun j hj=>?_⟩
 rw[hr] at hj
 obtain rfl:j=i:=by simpa using hj
 exact wpOp_step ho (fun K' hK=>h K' (fun a w hW=>hK a w ⟨fun h=>by omega,hW⟩))
theorem Xj {l:Array Bool} {a:Act} {w:World} (hr:Region.ready md ops l=[]) (h:Q .normal a w):∀ f,Xx P md ops Q S n f l a w
 | 0=>⟨hr,h⟩
 | _+1=>⟨fun _=>h,fun i hi=>by rw[hr] at hi;cases hi⟩
theorem Z3 {id:Nat} {a:Act} {w:World} (S:World→Prop) (n:Nat) (hm:P.follows .mixedOrders=true) (hn:n<ops.size) (hsk:Region.sinkB .any ops n=true) (hch:Region.chainB .any ops n=true) (hs:Region.noSelect ops=true)
  (h:Inv .any ops n (Array.replicate ops.size false)→Xx P .any ops Q S n ops.size (Array.replicate ops.size false) a w.drew):(Code.region id ops true).wp P Q a w:=by
 refine wp_region_any hm (Bf _ _ _ _ (h ⟨⟨by simp,fun j oj _ hl=>?_,fun t _ ht=>?_⟩,hn,hsk,hch,hs⟩))
 ·rw[getD_replicate_false] at hl;cases hl
 ·simp [ht]
variable {P:Program}
theorem Je {ops:Array Oper} {rest:List Oper} {op:Oper} {a:Act} {w:World} {Q:Exit→Act→World→Prop} (hgd:op.guard=none) (ty:TypeId) (parts:Array (Nat×Operand)) (ho:op.op=.build ty parts)
  (cells:Array Value) (hb:P.built ty (parts.map fun (i,x)=>(i,a.eval x)).toList=some cells)
  (h:wpList P ops Q rest (a.put op.dst (.agg cells)) w):wpList P ops Q (op::rest) a w:=by
 refine wpList_plain hgd fun K hK=>?_
 have hrun:=run_build (P:=P) w ty (parts.map fun (i,x)=>(i,a.eval x)) cells hb
 unfold Oper.wp execOp
 simp only[ho,Sem.run_bind,hrun,Result.andThen_ok,Sem.run_pure]
 exact hK _ _ h
theorem Z5 (b:Nat):∀ (vs:List Value) (o:Nat) (w:World),(w.setCells b o vs).heap.size=w.heap.size
 | [],_,_=>rfl
 | v::r,o,w=>by rw[World.setCells,Z5 b r (o+1)];simp [World.setCell]
theorem Zl (b:Nat) {B:Nat} (hB:B≤b) {a:World}:∀ (vs:List Value) (o:Nat) (w:World),Below B a w→Below B a (w.setCells b o vs)
 | [],_,_,h=>h
 | v::r,o,w,h=>by rw[World.setCells];exact Zl b hB r (o+1) _ (h.setCell hB _)
theorem Zk (w:World) (C:Array Value) (t:TypeId) (n:Nat) (hn:n≤C.size):(w.alloc (.cells C t)).there w.heap.size 0 n:=fun j hj=>by
 refine ⟨?_,World.frozen?_alloc_at C t _ _ rfl⟩
 rw[World.cell?_alloc_at C t _ _ rfl]
 simp
 omega
end Go.Proofs.YtehlppaidgkpaaaGreatDoor
namespace Go.Proofs.YtehlppaidgkpaaaGreatDoor.Dg
open Go.RowKit
variable {P:Program}
theorem size_setCells (b:Nat):∀ (vs:List Value) (o:Nat) (w:World),(w.setCells b o vs).heap.size=w.heap.size
 | [],_,_=>rfl
 | v::r,o,w=>by rw[World.setCells,size_setCells b r (o+1)];simp [World.setCell]
theorem below_setCells (b:Nat) {B:Nat} (hB:B≤b) {a:World}:∀ (vs:List Value) (o:Nat) (w:World),Below B a w→Below B a (w.setCells b o vs)
 | [],_,_,h=>h
 | v::r,o,w,h=>by rw[World.setCells];exact below_setCells b hB r (o+1) _ (h.setCell hB _)
theorem Yk (w:World) (C:Array Value) (t:TypeId):(w.alloc (.cells C t)).rangeAt w.heap.size 0 C.toList:=fun j v hv=>by
 rw[World.cell?_alloc_at C t _ _ rfl]
 simpa using hv
theorem Zk (w:World) (C:Array Value) (t:TypeId) (n:Nat) (hn:n≤C.size):(w.alloc (.cells C t)).there w.heap.size 0 n:=fun j hj=>by
 refine ⟨?_,World.frozen?_alloc_at C t _ _ rfl⟩
 rw[World.cell?_alloc_at C t _ _ rfl]
 simp
 omega
structure Sm (w w':World):Prop where
 os:w'.os=w.os
 tape:w'.tape=w.tape
 output:w'.output=w.output
 heap:w'.heap=w.heap
theorem Sm.refl (w:World):Sm w w:=⟨rfl,rfl,rfl,rfl⟩
theorem Sm.drewN {w v:World} (h:Sm w v) (m:Nat):Sm w (v.drewN m):=⟨h.os,h.tape,h.output,h.heap⟩
theorem Sm.cell {w v:World} (h:Sm w v) (p:Addr):v.cell? p=w.cell? p:=World.cell?_of_block (by rw[h.heap])
theorem Sm.frozen {w v:World} (h:Sm w v) (p:Addr):v.frozen? p=w.frozen? p:=World.frozen?_of_block (by rw[h.heap])
theorem Yj (b:Nat):∀ (vs:List Value) (o:Nat) (w:World),(w.setCells b o vs).os=w.os
 | [],_,_=>rfl
 | v::r,o,w=>by rw[World.setCells,Yj b r (o+1)];rfl
theorem Z2 (b:Nat):∀ (vs:List Value) (o:Nat) (w:World),(w.setCells b o vs).tape=w.tape
 | [],_,_=>rfl
 | v::r,o,w=>by rw[World.setCells,Z2 b r (o+1)];rfl
theorem Zv (b:Nat):∀ (vs:List Value) (o:Nat) (w:World),(w.setCells b o vs).output=w.output
 | [],_,_=>rfl
 | v::r,o,w=>by rw[World.setCells,Zv b r (o+1)];rfl
structure Touch (w w':World) (g o n:Nat):Prop where
 os:w'.os=w.os
 tape:w'.tape=w.tape
 output:w'.output=w.output
 size:w.heap.size≤w'.heap.size
 block:∀ k,k<w.heap.size→k≠g→w'.heap[k]?=w.heap[k]?
 cell:∀ j,(j<o∨o+n≤j)→w'.cell? ⟨g,j,none⟩=w.cell? ⟨g,j,none⟩
 there:∀ o' n',w.there g o' n'→w'.there g o' n'
theorem Sm.touch {w v:World} (h:Sm w v) (g o n:Nat):Touch w v g o n:=
 ⟨h.os,h.tape,h.output,by rw[h.heap];exact Nat.le_refl _,fun k _ _=>by rw[h.heap],fun j _=>h.cell _,fun o' n' ht j hj=>by rw[h.cell,h.frozen];exact ht j hj⟩
theorem Touch.refl (w:World) (g o n:Nat):Touch w w g o n:=(Sm.refl w).touch g o n
theorem Touch.trans {a b c:World} {g o n:Nat} (h:Touch a b g o n) (k:Touch b c g o n):Touch a c g o n:=
 ⟨k.os.trans h.os,k.tape.trans h.tape,k.output.trans h.output,Nat.le_trans h.size k.size,fun i hi hne=>(k.block i (Nat.lt_of_lt_of_le hi h.size) hne).trans (h.block i hi hne),fun j hj=>(k.cell j hj).trans (h.cell j hj),fun o' n' ht=>k.there o' n' (h.there o' n' ht)⟩
theorem Touch.mono {a b:World} {g o n:Nat} (h:Touch a b g o n) (o' n':Nat) (h1:o'≤o) (h2:o+n≤o'+n'):Touch a b g o' n':=
 ⟨h.os,h.tape,h.output,h.size,h.block,fun j hj=>h.cell j (by omega),h.there⟩
theorem Touch.setCells {a b:World} {g o n:Nat} (h:Touch a b g o n) (o':Nat) (vs:List Value) (h1:o≤o') (h2:o'+vs.length≤o+n):Touch a (b.setCells g o' vs) g o n:=by
 refine h.trans ⟨?_,?_,?_,?_,?_,?_,?_⟩
 ·exact Yj g vs o' b
 ·exact Z2 g vs o' b
 ·exact Zv g vs o' b
 ·rw[size_setCells];exact Nat.le_refl _
 ·intro k hk hne
  exact World.heap_setCells_other b g o' vs hk hne
 ·intro j hj
  exact World.cell?_setCells_out g vs o' b ⟨g,j,none⟩ (fun _ _=>by rcases hj with h | h;exact .inl (by show j<o';omega);exact .inr (by show o'+vs.length≤j;omega))
 ·intro o2 n2 ht
  exact World.there_setCells ht g o' vs
theorem Touch.setCell {a b:World} {g o n:Nat} (h:Touch a b g o n) (j:Nat) (u:Value) (h1:o≤j) (h2:j<o+n):Touch a (b.setCell ⟨g,j,none⟩ u) g o n:=
 h.setCells j [u] h1 (by simp;omega)
theorem Touch.alloc {a b:World} {g o n:Nat} (h:Touch a b g o n) (ob:Obj) (hg:g<a.heap.size):Touch a (b.alloc ob) g o n:=by
 have hs:=h.size
 refine h.trans ⟨rfl,rfl,rfl,by simp,?_,?_,?_⟩
 ·intro k hk _
  exact Below.heap_alloc b ob k hk
 ·intro j _
  exact World.cell?_alloc_past ob g j (by omega)
 ·intro o' n' ht
  exact World.there_alloc ht ob
theorem Touch.drew {a b:World} {g o n:Nat} (h:Touch a b g o n):Touch a b.drew g o n:=⟨h.os,h.tape,h.output,h.size,h.block,h.cell,h.there⟩
theorem Touch.drewN {a b:World} {g o n:Nat} (h:Touch a b g o n) (m:Nat):Touch a (b.drewN m) g o n:=⟨h.os,h.tape,h.output,h.size,h.block,h.cell,h.there⟩
theorem Touch.below {a b c:World} {g o n:Nat} (h:Touch a b g o n) (k:Below b.heap.size b c) (hg:g<a.heap.size):Touch a c g o n:=by
 have hs:=h.size
 refine h.trans ⟨k.os,k.tape,k.output,k.size,fun i hi _=>k.block i hi,fun j _=>k.cell (p:=⟨g,j,none⟩) (show g<_ by omega),?_⟩
 intro o' n' ht j hj
 rw[k.cell (p:=⟨g,o'+j,none⟩) (show g<_ by omega),k.frozen (p:=⟨g,o'+j,none⟩) (show g<_ by omega)]
 exact ht j hj
theorem Touch.toBelow {a b:World} {g o n B:Nat} (h:Touch a b g o n) (hg:B≤g) (hB:B≤a.heap.size):Below B a b:=
 ⟨h.os,h.tape,h.output,h.size,fun k hk=>h.block k (by omega) (by omega)⟩
theorem Touch.far {a b:World} {g o n:Nat} (h:Touch a b g o n) {p:Addr} (hp:p.block<a.heap.size) (hne:p.block≠g):b.cell? p=a.cell? p:=World.cell?_of_block (h.block p.block hp hne)
theorem Touch.farFrozen {a b:World} {g o n:Nat} (h:Touch a b g o n) {p:Addr} (hp:p.block<a.heap.size) (hne:p.block≠g):b.frozen? p=a.frozen? p:=World.frozen?_of_block (h.block p.block hp hne)
def Zf (w:World) (v:Value) (zs:List Int):Prop:=
 ∃ a cap,v=.slice a zs.length cap∧zs.length≤cap∧cap≤maxLen∧(a=none→cap=0) ∧
  (zs=[]∨∃ b off,a=some ⟨b,off,none⟩∧∀ i,i<zs.length→w.cell? ⟨b,off+i,none⟩=some (.int .u8 (zs.getD i 0)))
end Go.Proofs.YtehlppaidgkpaaaGreatDoor.Dg
namespace Go.Proofs.YtehlppaidgkpaaaGreatDoor
open Go.RowKit
set_option linter.unusedVariables false
section
variable {P:Program} {ops:Array Oper}
theorem Ci (w:World) (t ty e:TypeId) (i:TypeInfo) (z:Value) (bytes:Nat) (ht:P.underlying t=some (.slice e)) (hi:P.info? e=some i) (hz:i.zero=some z)
  (hsize:i.size=1) (hby:i.bytes=bytes) (hzs:z.cells.size=1) (base n:Nat) (v:Value) (xs:List Value) (hown:w.ownsRow base e 1 v n xs) (ad c:Nat) (x:Value) (hx:w.cell? ⟨ad,0,none⟩=some x) (hx1:x.oneCell'=true)
  (h63:n+1≤maxLen) (hbytes:(n+1)*bytes≤140737488355328) (hbase:base≤w.heap.size) :
  ∃ g cap w',(Builtin.append_ #[t,t] ty #[v,.slice (some ⟨ad,0,none⟩) 1 c]).run P w=.ok (.slice (some ⟨g,0,none⟩) (n+1) cap) w' ∧
   w'.ownsRow base e 1 (.slice (some ⟨g,0,none⟩) (n+1) cap) (n+1) (xs++[x])∧w.grownBy w' v.ownBlock∧(v.ownBlock=some g∨g=w.heap.size)∧(∀ g0,v.ownBlock=some g0→∀ j u,xs[j]?=some u→w'.cell? ⟨g0,j,none⟩=some u):=by
 have hnews:∀ j u,[x][j]?=some u→w.cell? ((⟨ad,0,none⟩:Addr).add j)=some u:=by
  intro j u hj
  match j,hj with
  | 0,hj=>simp at hj;subst hj;simpa [Addr.add] using hx
  | _+1,hj=>simp at hj
 have h1:∀ u∈[x],u.oneCell'=true:=by intro u hu;simp at hu;subst hu;exact hx1
 obtain ⟨v',w',hr,h2,h3,h4,h5⟩:=run_append_own_at (P:=P) w base t ty e i z 1 bytes ht hi hz hsize hby hzs (by decide) v n xs hown ⟨ad,0,none⟩ 1 c [x] (by simp) hnews h1 h63 hbytes hbase
 rcases h2.2 with ⟨_,h⟩ | ⟨g,cap,cur,rfl,_⟩
 ·omega
 refine ⟨g,cap,w',hr,h2,h3,?_,?_⟩
 ·rcases h5 with h5 | h5
  ·left;exact h5.symm
  ·right;simpa [Value.ownBlock] using h5
 ·intro g0 hg0 j u hj
  rcases hown.2 with ⟨rfl,_⟩ | ⟨g1,c1,cur1,rfl,hbg,hg,hnc,hcm,hcs,htake⟩
  ·simp [Value.ownBlock] at hg0
  ·obtain rfl:g1=g0:=by simpa [Value.ownBlock] using hg0
   by_cases hroom:n+1≤c1
   ·have hfit:n*i.size+[x].length≤cur1.size:=by rw[hcs,hsize];simp;omega
    have hr2:=run_append_room (P:=P) w t ty e i ht hi g1 n c1 cur1 hg ⟨ad,0,none⟩ 1 c [x] (by simp [hsize]) hnews h1 hroom hfit
    rw[hr] at hr2
    injection hr2 with e1 e2
    injection e1 with e3 e4 e5
    injection e3 with e6
    injection e6 with e7
    subst e7
    have:=h2.cells (g:=g) rfl j u (by rw[List.getElem?_append_left (List.getElem?_eq_some_iff.1 hj).1];exact hj)
    rw[Addr.add_lit,Nat.zero_add] at this
    exact this
   ·have holds:∀ j u,xs[j]?=some u→w.cell? ((⟨g1,0,none⟩:Addr).add j)=some u:=hown.cells (g:=g1) rfl
    have hr2:=run_append_grow (P:=P) w t ty e i z ht hi hz ⟨g1,0,none⟩ n c1 xs (by rw[hsize];exact hown.1) holds ⟨ad,0,none⟩ 1 c [x] (by simp [hsize]) hnews (by omega) (by simp only[maxLen] at h63;omega) (growslice_fits (by omega) (by rw[hby];exact hbytes))
    rw[hr] at hr2
    injection hr2 with e1 e2
    rw[e2]
    have hlt:g1<w.heap.size:=(Array.getElem?_eq_some_iff.1 hg).1
    have:=holds j u hj
    have h0:w.cell? ⟨g1,j,none⟩=some u:=by rw[Addr.add_lit,Nat.zero_add] at this;exact this
    exact (World.cell?_alloc_past (w:=w.drew) _ g1 j hlt).trans h0
theorem Bp {w:World} {o:Oper} {a:Act} {K:Act→World→Prop} {Q:Exit→Act→World→Prop} (s x:Operand) (t:TypeId)
  (ho:o.op=.call { callee:=.builtin .append,args:=#[s,x],argTypes:=#[t,t] }) (e:TypeId) (i:TypeInfo) (z:Value) (bytes:Nat) (ht:P.underlying t=some (.slice e)) (hi:P.info? e=some i) (hz:i.zero=some z)
  (hsize:i.size=1) (hby:i.bytes=bytes) (hzs:z.cells.size=1) (base n:Nat) (v:Value) (xs:List Value) (hs:a.eval s=v) (hown:w.ownsRow base e 1 v n xs) (ad c:Nat) (y:Value) (hx:a.eval x=.slice (some ⟨ad,0,none⟩) 1 c) (hy:w.cell? ⟨ad,0,none⟩=some y) (hy1:y.oneCell'=true)
  (h63:n+1≤maxLen) (hbytes:(n+1)*bytes≤140737488355328) (hbase:base≤w.heap.size)
  (h:∀ g cap w',w'.ownsRow base e 1 (.slice (some ⟨g,0,none⟩) (n+1) cap) (n+1) (xs++[y])→w.grownBy w' v.ownBlock→(v.ownBlock=some g∨g=w.heap.size)→(∀ g0,v.ownBlock=some g0→∀ j u,xs[j]?=some u→w'.cell? ⟨g0,j,none⟩=some u)→K (a.put o.dst (.slice (some ⟨g,0,none⟩) (n+1) cap)) w'):o.wp P a w K Q:=by
 obtain ⟨g,cap,w',hr,h2,h3,h4,h5⟩:=Ci (P:=P) w t o.type e i z bytes ht hi hz hsize hby hzs base n v xs hown ad c y hy hy1 h63 hbytes hbase
 unfold Oper.wp execOp
 simp only[ho,resolve,invoke,builtin,Sem.run_bind,Sem.run_pure,Result.andThen_ok,List.map_toArray,List.map_cons,List.map_nil,hs,hx,hr]
 exact h g cap w' h2 h3 h4 h5
theorem H5 {w:World} {o:Oper} {a:Act} {K:Act→World→Prop} {Q:Exit→Act→World→Prop} {E:Prop} (hgd:o.guard=none) (d:Nat) (hd:o.dst=some d) (s x:Operand) (t:TypeId)
  (ho:o.op=.call { callee:=.builtin .append,args:=#[s,x],argTypes:=#[t,t] }) (e:TypeId) (i:TypeInfo) (z:Value) (bytes:Nat) (ht:P.underlying t=some (.slice e)) (hi:P.info? e=some i) (hz:i.zero=some z)
  (hsize:i.size=1) (hby:i.bytes=bytes) (hzs:z.cells.size=1) (base n:Nat) (v:Value) (xs:List Value) (hs:a.eval s=v) (hown:w.ownsRow base e 1 v n xs) (ad c:Nat) (y:Value) (hx:a.eval x=.slice (some ⟨ad,0,none⟩) 1 c) (hy:w.cell? ⟨ad,0,none⟩=some y) (hy1:y.oneCell'=true)
  (h63:n+1≤maxLen) (hbytes:(n+1)*bytes≤140737488355328) (hbase:base≤w.heap.size)
  (h:∀ g cap w',w'.ownsRow base e 1 (.slice (some ⟨g,0,none⟩) (n+1) cap) (n+1) (xs++[y])→w.grownBy w' v.ownBlock→(v.ownBlock=some g∨g=w.heap.size)→(∀ g0,v.ownBlock=some g0→∀ j u,xs[j]?=some u→w'.cell? ⟨g0,j,none⟩=some u)→K (a.put (some d) (.slice (some ⟨g,0,none⟩) (n+1) cap)) w') :
  if Region.wanted o (yielded ops a.tmps)=true then Oper.wp P o a w K Q else E:=by
 have hw:Region.wanted o (yielded ops a.tmps)=true:=by simp [Region.wanted,hgd]
 rw[if_pos hw]
 rw[←hd] at h
 exact Bp s x t ho e i z bytes ht hi hz hsize hby hzs base n v xs hs hown ad c y hx hy hy1 h63 hbytes hbase h
end
end Go.Proofs.YtehlppaidgkpaaaGreatDoor
namespace Go.Proofs.YtehlppaidgkpaaaGreatDoor.Dg
open Go.RowKit
set_option linter.unusedVariables false
structure TX (w wr:World) (H:List Value) (K:Nat→Option Value) (rb wb M:Nat) (G:Nat→Value):Prop where
 below:Below w.heap.size w wr
 nb:w.heap.size<rb∧w.heap.size<wb∧rb≠wb∧wb≠w.heap.size+1∨w.heap.size<rb∧w.heap.size<wb∧rb≠wb∧∀ t,K t=none
 sz:rb<wr.heap.size∧wb<wr.heap.size∧w.heap.size<wr.heap.size
 h:wr.rangeAt w.heap.size 0 H
 k:∀ t v,K t=some v→wr.cell? ⟨w.heap.size+1,t,none⟩=some v
 res:wr.there rb 0 8
 wth:wr.there wb 0 M
 fill:∀ j,j<M→wr.cell? ⟨wb,j,none⟩=some (G j)
theorem TX.drewN {w wr:World} {H:List Value} {K:Nat→Option Value} {rb wb M:Nat} {G:Nat→Value} (h:TX w wr H K rb wb M G) (n:Nat):TX w (wr.drewN n) H K rb wb M G:=
 ⟨⟨h.below.os,h.below.tape,h.below.output,h.below.size,h.below.block⟩,h.nb,h.sz,h.h,h.k,h.res,h.wth,h.fill⟩
theorem TX.drew {w wr:World} {H:List Value} {K:Nat→Option Value} {rb wb M:Nat} {G:Nat→Value} (h:TX w wr H K rb wb M G):TX w wr.drew H K rb wb M G:=
 ⟨⟨h.below.os,h.below.tape,h.below.output,h.below.size,h.below.block⟩,h.nb,h.sz,h.h,h.k,h.res,h.wth,h.fill⟩
theorem TX.congr {w wr:World} {H:List Value} {K:Nat→Option Value} {rb wb M:Nat} {G G':Nat→Value} (h:TX w wr H K rb wb M G) (e:∀ j,j<M→G j=G' j):TX w wr H K rb wb M G':=
 ⟨h.below,h.nb,h.sz,h.h,h.k,h.res,h.wth,fun j hj=>by rw[←e j hj];exact h.fill j hj⟩
theorem Jb (w:World) (b o b' o':Nat) (u:Value) (hne:b'≠b):(w.setCell ⟨b,o,none⟩ u).cell? ⟨b',o',none⟩=w.cell? ⟨b',o',none⟩:=
 World.cell?_of_block (w:=w) (Below.heap_setCell w ⟨b,o,none⟩ u b' (by simpa using hne))
theorem TX.put {w wr:World} {H:List Value} {K:Nat→Option Value} {rb wb M:Nat} {G:Nat→Value} (h:TX w wr H K rb wb M G) (t:Nat) (ht:t<M) (u:Value):TX w (wr.setCell ⟨wb,t,none⟩ u) H K rb wb M (fun j=>if j=t then u else G j):=by
 have n1:w.heap.size<rb∧w.heap.size<wb∧rb≠wb:=by rcases h.nb with q | q<;>exact ⟨q.1,q.2.1,q.2.2.1⟩
 refine ⟨h.below.setCell (by show _≤wb;omega) u,h.nb,by simpa [World.setCell] using h.sz,fun j v hv=>?_,fun j v hv=>?_,World.there_setCells h.res wb t [u],World.there_setCells h.wth wb t [u],fun j hj=>?_⟩
 ·rw[Jb wr wb t _ _ u (by omega)]
  exact h.h j v hv
 ·rcases h.nb with q | q
  ·rw[Jb wr wb t _ _ u (by omega)]
   exact h.k j v hv
  ·rw[q.2.2.2 j] at hv
   cases hv
 ·by_cases e:j=t
  ·subst e
   rw[if_pos rfl]
   have:=(h.wth j hj).1
   rw[Nat.zero_add] at this
   exact World.cell?_setCell_same' _ _ _ this
  ·rw[if_neg e]
   have:=World.cell?_setCells_out wb [u] t wr ⟨wb,j,none⟩ (fun _ _=>by show j<t∨t+1≤j;omega)
   exact this.trans (h.fill j hj)
theorem X2 (w:World) (o:Obj) (b j:Nat) (hb:b<w.heap.size):(w.alloc o).cell? ⟨b,j,none⟩=w.cell? ⟨b,j,none⟩:=World.cell?_of_block (w:=w) (Below.heap_alloc w o b hb)
theorem Ww {w:World} {b o n:Nat} (h:w.there b o n) (hb:b<w.heap.size) (ob:Obj):(w.alloc ob).there b o n:=fun j hj=>by
 rw[X2 w ob b (o+j) hb,World.frozen?_of_block (w:=w) (a:=⟨b,o+j,none⟩) (Below.heap_alloc w ob b hb)]
 exact h j hj
theorem Qk {w:World} {b o:Nat} {cs:List Value} (h:w.rangeAt b o cs) (hb:b<w.heap.size) (ob:Obj):(w.alloc ob).rangeAt b o cs:=fun j v hv=>by
 rw[X2 w ob b (o+j) hb]
 exact h j v hv
theorem size_alloc (w:World) (o:Obj):(w.alloc o).heap.size=w.heap.size+1:=by simp
theorem P4 (w:World) (H Kc Z8 Zw:Array Value) (t1 t2 t3 t4:TypeId) (K:Nat→Option Value) (M:Nat) (G:Nat→Value) (h8:Z8.size=8) (hM:Zw.size=M) (hK:∀ t v,K t=some v→Kc[t]?=some v) (hG:∀ j,j<M→Zw[j]?=some (G j)) :
  TX w ((((w.alloc (.cells H t1)).alloc (.cells Kc t2)).alloc (.cells Z8 t3)).alloc (.cells Zw t4)) H.toList K (w.heap.size+2) (w.heap.size+3) M G:=by
 obtain ⟨w1,e1⟩:∃ w1,w1=w.alloc (.cells H t1):=⟨_,rfl⟩
 obtain ⟨w2,e2⟩:∃ w2,w2=w1.alloc (.cells Kc t2):=⟨_,rfl⟩
 obtain ⟨w3,e3⟩:∃ w3,w3=w2.alloc (.cells Z8 t3):=⟨_,rfl⟩
 have s1:w1.heap.size=w.heap.size+1:=by rw[e1,size_alloc]
 have s2:w2.heap.size=w.heap.size+2:=by rw[e2,size_alloc,s1]
 have s3:w3.heap.size=w.heap.size+3:=by rw[e3,size_alloc,s2]
 rw[←e1,←e2,←e3]
 have b1:Below w.heap.size w w1:=by rw[e1];exact (Below.refl _ _).alloc (Nat.le_refl _) _
 have b2:Below w.heap.size w w2:=by rw[e2];exact b1.alloc (by omega) _
 have b3:Below w.heap.size w w3:=by rw[e3];exact b2.alloc (by omega) _
 refine ⟨b3.alloc (by omega) _,.inl (by omega),by rw[size_alloc];omega,?_,fun t v hv=>?_,?_,?_,fun j hj=>?_⟩
 ·have r1:w1.rangeAt w.heap.size 0 H.toList:=by rw[e1];exact Yk w H t1
  have r2:w2.rangeAt w.heap.size 0 H.toList:=by rw[e2];exact Qk r1 (by omega) _
  have r3:w3.rangeAt w.heap.size 0 H.toList:=by rw[e3];exact Qk r2 (by omega) _
  exact Qk r3 (by omega) _
 ·rw[X2 w3 _ _ _ (by omega),e3,X2 w2 _ _ _ (by omega),e2]
  have:=Yk w1 Kc t2 t v (by simpa using hK t v hv)
  rw[s1,Nat.zero_add] at this
  exact this
 ·have:=Zk w2 Z8 t3 8 (by omega)
  rw[s2,←e3] at this
  exact Ww this (by omega) _
 ·have:=Zk w3 Zw t4 M (by omega)
  rw[s3] at this
  exact this
 ·have:=Yk w3 Zw t4 j (G j) (by simpa using hG j hj)
  rw[s3,Nat.zero_add] at this
  exact this
def Cl (M:Nat) (G:Nat→Value):List Value:=(List.range M).map G
theorem Xb (M:Nat) (G:Nat→Value):(Cl M G).length=M:=by simp [Cl]
theorem V2 (M:Nat) (G:Nat→Value) (j:Nat) (hj:j<M):(Cl M G)[j]?=some (G j):=by simp [Cl,hj]
theorem Fr {M:Nat} {G G':Nat→Value} (h:∀ j,j<M→G j=G' j):Cl M G=Cl M G':=by
 unfold Cl
 apply List.map_congr_left
 intro j hj
 exact h j (by simpa using hj)
theorem Mi (M:Nat) (G:Nat→Value) (t:Nat) (u:Value):(Cl M G).set t u=Cl M (fun j=>if j=t then u else G j):=by
 apply List.ext_getElem?
 intro j
 by_cases hj:j<M
 ·rw[V2 _ _ j hj]
  by_cases e:t=j
  ·subst e
   rw[List.getElem?_set_self (by rw[Xb];exact hj),if_pos rfl]
  ·rw[List.getElem?_set_ne e,V2 _ _ j hj,if_neg (fun h=>e h.symm)]
 ·rw[List.getElem?_eq_none (by rw[List.length_set,Xb];omega),List.getElem?_eq_none (by rw[Xb];omega)]
structure Mem (w wr:World) (L:List (List Value)):Prop where
 below:Below w.heap.size w wr
 size:w.heap.size+L.length≤wr.heap.size
 holds:∀ i cs,L[i]?=some cs→wr.rangeAt (w.heap.size+i) 0 cs∧wr.there (w.heap.size+i) 0 cs.length
theorem Mem.nil (w:World):Mem w w []:=⟨Below.refl _ _,by simp,fun i cs h=>by simp at h⟩
theorem Mem.kept {w wr wn:World} {L:List (List Value)} (h:Mem w wr L) (hb:Below w.heap.size w wn) (hs:wr.heap.size≤wn.heap.size) (hk:∀ b,b<wr.heap.size→wn.heap[b]?=wr.heap[b]?):Mem w wn L:=by
 refine ⟨hb,Nat.le_trans h.size hs,fun i cs hi=>?_⟩
 have hl:i<L.length:=(List.getElem?_eq_some_iff.1 hi).1
 have hlt:w.heap.size+i<wr.heap.size:=by have:=h.size;omega
 obtain ⟨h1,h2⟩:=h.holds i cs hi
 refine ⟨fun j v hv=>?_,fun j hj=>?_⟩
 ·rw[World.cell?_of_block (w:=wr) (hk _ hlt)]
  exact h1 j v hv
 ·rw[World.cell?_of_block (w:=wr) (a:=⟨w.heap.size+i,0+j,none⟩) (hk _ hlt),World.frozen?_of_block (w:=wr) (a:=⟨w.heap.size+i,0+j,none⟩) (hk _ hlt)]
  exact h2 j hj
theorem Mem.later {w wr wn:World} {L:List (List Value)} (h:Mem w wr L) (hb:Below wr.heap.size wr wn):Mem w wn L:=
 h.kept (h.below.trans (hb.mono h.below.size)) hb.size (fun b hb'=>hb.block b hb')
theorem Mem.alloc {w wr:World} {L:List (List Value)} (h:Mem w wr L) (hs:wr.heap.size=w.heap.size+L.length) (C:Array Value) (t:TypeId):Mem w (wr.alloc (.cells C t)) (L++[C.toList]):=by
 have h0:Mem w (wr.alloc (.cells C t)) L:=h.kept (h.below.alloc (by omega) _) (by simp) (fun b hb=>Below.heap_alloc wr _ b hb)
 refine ⟨h0.below,by simp;omega,fun i cs hi=>?_⟩
 by_cases hl:i<L.length
 ·rw[List.getElem?_append_left hl] at hi
  exact h0.holds i cs hi
 ·have hil:i<(L++[C.toList]).length:=(List.getElem?_eq_some_iff.1 hi).1
  simp at hil
  obtain rfl:i=L.length:=by omega
  simp at hi
  subst hi
  rw[←hs]
  exact ⟨Yk wr C t,Zk wr C t _ (by simp)⟩
theorem Mem.put {w wr:World} {L:List (List Value)} (h:Mem w wr L) (i:Nat) {cs:List Value} (hi:L[i]?=some cs) (t:Nat) (ht:t<cs.length) (u:Value):Mem w (wr.setCell ⟨w.heap.size+i,t,none⟩ u) (L.set i (cs.set t u)):=by
 have hl:i<L.length:=(List.getElem?_eq_some_iff.1 hi).1
 refine ⟨h.below.setCell (by show _≤w.heap.size+i;omega) u,by simpa [World.setCell] using h.size,fun k ds hk=>?_⟩
 by_cases e:i=k
 ·subst e
  rw[List.getElem?_set_self hl] at hk
  injection hk with hk
  subst hk
  obtain ⟨h1,h2⟩:=h.holds i cs hi
  refine ⟨fun j v hv=>?_,?_⟩
  ·by_cases e:t=j
   ·subst e
    rw[List.getElem?_set_self ht] at hv
    injection hv with hv
    subst hv
    rw[Nat.zero_add]
    have:=(h2 t ht).1
    rw[Nat.zero_add] at this
    exact World.cell?_setCell_same' _ _ _ this
   ·rw[List.getElem?_set_ne e] at hv
    have:=World.cell?_setCells_out (w.heap.size+i) [u] t wr ⟨w.heap.size+i,0+j,none⟩ (fun _ _=>by show 0+j<t∨t+1≤0+j;omega)
    exact this.trans (h1 j v hv)
  ·rw[List.length_set]
   exact World.there_setCells h2 (w.heap.size+i) t [u]
 ·rw[List.getElem?_set_ne e] at hk
  obtain ⟨h1,h2⟩:=h.holds k ds hk
  refine ⟨fun j v hv=>?_,World.there_setCells h2 (w.heap.size+i) t [u]⟩
  rw[Jb wr (w.heap.size+i) t _ _ u (by omega)]
  exact h1 j v hv
theorem Mem.store {w wr:World} {L:List (List Value)} (h:Mem w wr L) (i:Nat) {cs:List Value} (hi:L[i]?=some cs) (vs:List Value) (hv:vs.length=cs.length):Mem w (wr.setCells (w.heap.size+i) 0 vs) (L.set i vs):=by
 have hl:i<L.length:=(List.getElem?_eq_some_iff.1 hi).1
 refine ⟨below_setCells _ (by omega) _ _ _ h.below,by rw[size_setCells];simpa using h.size,fun k ds hk=>?_⟩
 by_cases e:i=k
 ·subst e
  rw[List.getElem?_set_self hl] at hk
  injection hk with hk
  subst hk
  obtain ⟨h1,h2⟩:=h.holds i cs hi
  rw[←hv] at h2
  exact ⟨World.rangeAt_setCells_same wr (w.heap.size+i) 0 vs h2,World.there_setCells h2 (w.heap.size+i) 0 vs⟩
 ·rw[List.getElem?_set_ne e] at hk
  obtain ⟨h1,h2⟩:=h.holds k ds hk
  refine ⟨fun j v hv=>?_,World.there_setCells h2 (w.heap.size+i) 0 vs⟩
  rw[World.cell?_setCells_out (w.heap.size+i) vs 0 wr ⟨w.heap.size+k,0+j,none⟩ (fun e' _=>absurd e' (by simp;omega))]
  exact h1 j v hv
theorem Mem.cell {w wr:World} {L:List (List Value)} (h:Mem w wr L) (i:Nat) {cs:List Value} (hi:L[i]?=some cs) (t:Nat) (v:Value) (hv:cs[t]?=some v):wr.cell? ⟨w.heap.size+i,t,none⟩=some v:=by
 have:=(h.holds i cs hi).1 t v hv
 rwa [Nat.zero_add] at this
theorem Mem.frozen {w wr:World} {L:List (List Value)} (h:Mem w wr L) (i:Nat) {cs:List Value} (hi:L[i]?=some cs) (t:Nat) (ht:t<cs.length):wr.frozen? ⟨w.heap.size+i,t,none⟩=false:=by
 have:=((h.holds i cs hi).2 t ht).2
 rwa [Nat.zero_add] at this
theorem Mem.congr {w wr:World} {L L':List (List Value)} (h:Mem w wr L) (e:L=L'):Mem w wr L':=e ▸ h
theorem Iy (a b:Int):bits .xor .u32 a b=(((BitVec.ofInt 32 a ^^^ BitVec.ofInt 32 b).toNat:Nat):Int):=by
 show IntKind.u32.wrap ((BitVec.ofInt 32 a ^^^ BitVec.ofInt 32 b).toNat:Int)=_
 have:=(BitVec.ofInt 32 a ^^^ BitVec.ofInt 32 b).isLt
 rw[IntKind.wrap_u32']
 omega
theorem Pb (a b:Int):bits .or .u32 a b=(((BitVec.ofInt 32 a ||| BitVec.ofInt 32 b).toNat:Nat):Int):=by
 show IntKind.u32.wrap ((BitVec.ofInt 32 a ||| BitVec.ofInt 32 b).toNat:Int)=_
 have:=(BitVec.ofInt 32 a ||| BitVec.ofInt 32 b).isLt
 rw[IntKind.wrap_u32']
 omega
theorem Pj (a b:Int):bits .and .u32 a b=(((BitVec.ofInt 32 a &&& BitVec.ofInt 32 b).toNat:Nat):Int):=by
 show IntKind.u32.wrap ((BitVec.ofInt 32 a &&& BitVec.ofInt 32 b).toNat:Int)=_
 have:=(BitVec.ofInt 32 a &&& BitVec.ofInt 32 b).isLt
 rw[IntKind.wrap_u32']
 omega
theorem Co (v:BitVec 32):BitVec.ofInt 32 ((v.toNat:Nat):Int)=v:=by
 apply BitVec.eq_of_toNat_eq
 simp
theorem L7 (a b:Int):bits .or .u32 a b=bits .or .u32 b a:=by rw[Pb,Pb,BitVec.or_comm]
theorem Zcq (e:Int):BitVec.ofInt 32 (bits .xor .u32 (if IntKind.u32.signed=true then -1 else IntKind.u32.max) e) = ~~~ (BitVec.ofInt 32 e):=by
 rw[Iy,Co,show (if IntKind.u32.signed=true then (-1:Int) else IntKind.u32.max)=4294967295 by decide,show BitVec.ofInt 32 4294967295=BitVec.allOnes 32 by decide,BitVec.allOnes_xor]
theorem Zc7 {n:Nat} (e f g:BitVec n):(e &&& f) ||| (~~~ e &&& g)=(e &&& f) ^^^ (~~~ e &&& g):=by
 apply BitVec.eq_of_getLsbD_eq
 intro i hi
 simp only[BitVec.getLsbD_or,BitVec.getLsbD_and,BitVec.getLsbD_xor,BitVec.getLsbD_not,hi,decide_true,Bool.true_and]
 cases e.getLsbD i<;>cases f.getLsbD i<;>cases g.getLsbD i<;>rfl
theorem Zar {n:Nat} (a b c:BitVec n):((a &&& b) ||| (a &&& c)) ||| (b &&& c)=((a &&& b) ^^^ (a &&& c)) ^^^ (b &&& c):=by
 apply BitVec.eq_of_getLsbD_eq
 intro i hi
 simp only[BitVec.getLsbD_or,BitVec.getLsbD_and,BitVec.getLsbD_xor]
 cases a.getLsbD i<;>cases b.getLsbD i<;>cases c.getLsbD i<;>rfl
theorem Zdi (e f g:Int):bits .or .u32 (bits .and .u32 e f) (bits .and .u32 (bits .xor .u32 (if IntKind.u32.signed=true then -1 else IntKind.u32.max) e) g)=bits .xor .u32 (bits .and .u32 e f) (bits .and .u32 (bits .xor .u32 (if IntKind.u32.signed=true then -1 else IntKind.u32.max) e) g):=by
 rw[Pb,Iy (bits .and .u32 e f),Pj,Pj,Co,Co,Zcq,Zc7]
theorem Zcv (a b c:Int):bits .or .u32 (bits .or .u32 (bits .and .u32 a b) (bits .and .u32 a c)) (bits .and .u32 b c)=bits .xor .u32 (bits .xor .u32 (bits .and .u32 a b) (bits .and .u32 a c)) (bits .and .u32 b c):=by
 rw[Pb,Pb,Iy,Iy,Pj,Pj,Pj,Co,Co,Co,Co,Co,Zar]
end Go.Proofs.YtehlppaidgkpaaaGreatDoor.Dg
namespace Go.Proofs.YtehlppaidgkpaaaGreatDoor.Fd
open Go.RowKit
set_option linter.unusedVariables false
set_option linter.unusedSimpArgs false
theorem Zt {fn:Func} {p:Tmp} {ty:TypeId} (h:fn.results=#[.cell p ty]) (tmps:Array Value) (P:Program) (w:World) :
  (results fn tmps).run P w=((asAddr (tmps.getD p undef)).run P w).andThen fun a w₁=>(loadVar ty a).run P w₁:=by
 simp only[results,h]
 simp [Sem.run_bind,Result.andThen]
theorem Yl {P:Program} {fn:Func} {p:Tmp} {ty:TypeId} {d:TypeDesc} {Q:Ending→World→Prop} {tmps:Array Value} {w:World} {b:Nat} (cs:List Value) (h:fn.results=#[.cell p ty])
  (hp:tmps.getD p undef=.pointer (some ⟨b,0,none⟩)) (hr:w.rangeAt b 0 cs) (hu:P.underlying ty=some d) (hd:d.isRow=true) (hi:(P.info? ty).map (·.size)=some cs.length)
  (hq:Q (.returned (.agg cs.toArray)) w):bodyPost P fn Q .ret ⟨tmps,[]⟩ w:=by
 refine bodyPost_ret (v:=.agg cs.toArray) ?_ rfl hq
 rw[Zt h]
 have hl:=run_loadVar_mid (P:=P) w b 0 ty cs d hr hu hd hi
 simp [hp,asAddr,hl]
theorem below_setCells (b:Nat) {B:Nat} (hB:B≤b) {a:World}:∀ (vs:List Value) (o:Nat) (w:World),Below B a w→Below B a (w.setCells b o vs)
 | [],_,_,h=>h
 | v::r,o,w,h=>by rw[World.setCells];exact below_setCells b hB r (o+1) _ (h.setCell hB _)
theorem size_setCells (b:Nat):∀ (vs:List Value) (o:Nat) (w:World),(w.setCells b o vs).heap.size=w.heap.size
 | [],_,_=>rfl
 | v::r,o,w=>by rw[World.setCells,size_setCells b r (o+1)];simp [World.setCell]
theorem Z5 (b:Nat):∀ (vs:List Value) (o:Nat) (w:World),(w.setCells b o vs).heap.size=w.heap.size
 | [],_,_=>rfl
 | v::r,o,w=>by rw[World.setCells,Z5 b r (o+1)];simp [World.setCell]
theorem Zl (b:Nat) {B:Nat} (hB:B≤b) {a:World}:∀ (vs:List Value) (o:Nat) (w:World),Below B a w→Below B a (w.setCells b o vs)
 | [],_,_,h=>h
 | v::r,o,w,h=>by rw[World.setCells];exact Zl b hB r (o+1) _ (h.setCell hB _)
theorem Yk (w:World) (C:Array Value) (t:TypeId):(w.alloc (.cells C t)).rangeAt w.heap.size 0 C.toList:=fun j v hv=>by
 rw[World.cell?_alloc_at C t _ _ rfl]
 simpa using hv
theorem Zk (w:World) (C:Array Value) (t:TypeId) (n:Nat) (hn:n≤C.size):(w.alloc (.cells C t)).there w.heap.size 0 n:=fun j hj=>by
 refine ⟨?_,World.frozen?_alloc_at C t _ _ rfl⟩
 rw[World.cell?_alloc_at C t _ _ rfl]
 simp
 omega
structure Sm (w w':World):Prop where
 os:w'.os=w.os
 tape:w'.tape=w.tape
 output:w'.output=w.output
 heap:w'.heap=w.heap
theorem Sm.refl (w:World):Sm w w:=⟨rfl,rfl,rfl,rfl⟩
theorem Sm.cell {w v:World} (h:Sm w v) (p:Addr):v.cell? p=w.cell? p:=World.cell?_of_block (by rw[h.heap])
theorem Sm.frozen {w v:World} (h:Sm w v) (p:Addr):v.frozen? p=w.frozen? p:=World.frozen?_of_block (by rw[h.heap])
theorem Yj (b:Nat):∀ (vs:List Value) (o:Nat) (w:World),(w.setCells b o vs).os=w.os
 | [],_,_=>rfl
 | v::r,o,w=>by rw[World.setCells,Yj b r (o+1)];rfl
theorem Z2 (b:Nat):∀ (vs:List Value) (o:Nat) (w:World),(w.setCells b o vs).tape=w.tape
 | [],_,_=>rfl
 | v::r,o,w=>by rw[World.setCells,Z2 b r (o+1)];rfl
theorem Zv (b:Nat):∀ (vs:List Value) (o:Nat) (w:World),(w.setCells b o vs).output=w.output
 | [],_,_=>rfl
 | v::r,o,w=>by rw[World.setCells,Zv b r (o+1)];rfl
structure Touch (w w':World) (g o n:Nat):Prop where
 os:w'.os=w.os
 tape:w'.tape=w.tape
 output:w'.output=w.output
 size:w.heap.size≤w'.heap.size
 block:∀ k,k<w.heap.size→k≠g→w'.heap[k]?=w.heap[k]?
 cell:∀ j,(j<o∨o+n≤j)→w'.cell? ⟨g,j,none⟩=w.cell? ⟨g,j,none⟩
 there:∀ o' n',w.there g o' n'→w'.there g o' n'
theorem Sm.touch {w v:World} (h:Sm w v) (g o n:Nat):Touch w v g o n:=
 ⟨h.os,h.tape,h.output,by rw[h.heap];exact Nat.le_refl _,fun k _ _=>by rw[h.heap],fun j _=>h.cell _,fun o' n' ht j hj=>by rw[h.cell,h.frozen];exact ht j hj⟩
theorem Touch.refl (w:World) (g o n:Nat):Touch w w g o n:=(Sm.refl w).touch g o n
theorem Touch.trans {a b c:World} {g o n:Nat} (h:Touch a b g o n) (k:Touch b c g o n):Touch a c g o n:=
 ⟨k.os.trans h.os,k.tape.trans h.tape,k.output.trans h.output,Nat.le_trans h.size k.size,fun i hi hne=>(k.block i (Nat.lt_of_lt_of_le hi h.size) hne).trans (h.block i hi hne),fun j hj=>(k.cell j hj).trans (h.cell j hj),fun o' n' ht=>k.there o' n' (h.there o' n' ht)⟩
theorem Touch.setCells {a b:World} {g o n:Nat} (h:Touch a b g o n) (o':Nat) (vs:List Value) (h1:o≤o') (h2:o'+vs.length≤o+n):Touch a (b.setCells g o' vs) g o n:=by
 refine h.trans ⟨?_,?_,?_,?_,?_,?_,?_⟩
 ·exact Yj g vs o' b
 ·exact Z2 g vs o' b
 ·exact Zv g vs o' b
 ·rw[Z5];exact Nat.le_refl _
 ·intro k hk hne
  exact World.heap_setCells_other b g o' vs hk hne
 ·intro j hj
  exact World.cell?_setCells_out g vs o' b ⟨g,j,none⟩ (fun _ _=>by rcases hj with h | h;exact .inl (by show j<o';omega);exact .inr (by show o'+vs.length≤j;omega))
 ·intro o2 n2 ht
  exact World.there_setCells ht g o' vs
theorem Touch.setCell {a b:World} {g o n:Nat} (h:Touch a b g o n) (j:Nat) (u:Value) (h1:o≤j) (h2:j<o+n):Touch a (b.setCell ⟨g,j,none⟩ u) g o n:=
 h.setCells j [u] h1 (by simp;omega)
theorem Touch.drew {a b:World} {g o n:Nat} (h:Touch a b g o n):Touch a b.drew g o n:=⟨h.os,h.tape,h.output,h.size,h.block,h.cell,h.there⟩
theorem Touch.toBelow {a b:World} {g o n B:Nat} (h:Touch a b g o n) (hg:B≤g) (hB:B≤a.heap.size):Below B a b:=
 ⟨h.os,h.tape,h.output,h.size,fun k hk=>h.block k (by omega) (by omega)⟩
theorem Touch.far {a b:World} {g o n:Nat} (h:Touch a b g o n) {p:Addr} (hp:p.block<a.heap.size) (hne:p.block≠g):b.cell? p=a.cell? p:=World.cell?_of_block (h.block p.block hp hne)
theorem Touch.farFrozen {a b:World} {g o n:Nat} (h:Touch a b g o n) {p:Addr} (hp:p.block<a.heap.size) (hne:p.block≠g):b.frozen? p=a.frozen? p:=World.frozen?_of_block (h.block p.block hp hne)
end Go.Proofs.YtehlppaidgkpaaaGreatDoor.Fd
namespace Go.Proofs.YtehlppaidgkpaaaGreatDoor
abbrev S7:Go.Conc.Locks.RwLink:={ lock:=288,unlock:=9999,ilock:=9999,iunlock:=9999,lockSlow:=9999,unlockSlow:=9999,disable:=82,enable:=85,acquire:=119,relMerge:=81,cas32:=9999,add32:=120,tMutex:=128,tIMutex:=126,tPMutex:=171,tPIMutex:=171,tPI32:=205,tUP:=170,tNoCopy:=124,tU32:=116,rlock:=79,runlock:=54,wlock:=287,wunlock:=9999,i32add:=83,raceRead:=80,release:=9999,rUnlockSlow:=84,semacqR:=118,semacqW:=9999,semrel:=122,sfatal:=121,tRW:=133,tPRW:=168,tAI32:=131,tPAI32:=203,tPU32:=172,tANoCopy:=129 }
theorem O6:Go.Conc.Locks.RwCore Tryz.prog S7:=
 ⟨Tryz.func83,Tryz.func80,Tryz.func82,Tryz.func85,Tryz.func119,Tryz.func81,Tryz.func120,Tryz.underlying133,Tryz.runUnderlying133,Tryz.sizeOf133,Tryz.isAgg133,Tryz.zeroValue133,Tryz.underlying131,Tryz.runUnderlying131,Tryz.sizeOf131,Tryz.isAgg131,Tryz.zeroValue131,Tryz.underlying168,Tryz.runUnderlying168,Tryz.sizeOf168,Tryz.isAgg168,Tryz.zeroValue168,Tryz.underlying203,Tryz.runUnderlying203,Tryz.sizeOf203,Tryz.isAgg203,Tryz.zeroValue203,Tryz.underlying172,Tryz.runUnderlying172,Tryz.sizeOf172,Tryz.isAgg172,Tryz.zeroValue172,Tryz.underlying129,Tryz.runUnderlying129,Tryz.sizeOf129,Tryz.isAgg129,Tryz.zeroValue129,Tryz.underlying116,Tryz.runUnderlying116,Tryz.sizeOf116,Tryz.isAgg116,Tryz.zeroValue116,Tryz.underlying128,Tryz.runUnderlying128,Tryz.sizeOf128,Tryz.isAgg128,Tryz.zeroValue128,Tryz.underlying171,Tryz.runUnderlying171,Tryz.sizeOf171,Tryz.isAgg171,Tryz.zeroValue171,Tryz.underlying205,Tryz.runUnderlying205,Tryz.sizeOf205,Tryz.isAgg205,Tryz.zeroValue205,Tryz.underlying170,Tryz.runUnderlying170,Tryz.sizeOf170,Tryz.isAgg170,Tryz.zeroValue170,Tryz.underlying21,Tryz.runUnderlying21,Tryz.sizeOf21,Tryz.isAgg21,Tryz.zeroValue21,(by kernel_rfl),(by kernel_rfl)⟩
theorem B4:Go.Conc.Locks.RwRLib Tryz.prog S7:=⟨O6,Tryz.func79,Tryz.func54⟩
end Go.Proofs.YtehlppaidgkpaaaGreatDoor
