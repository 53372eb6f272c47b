import Derived.Test.YtehlppaidgkpaaaGreatDoorProg
namespace Go.Proofs.YtehlppaidgkpaaaGreatDoor.Fld
set_option linter.unusedVariables false
def itr (T:BitVec 128→BitVec 128):Nat→BitVec 128→BitVec 128
 | 0,a=>a
 | k+1,a=>T (itr T k a)
def S (f:Nat→BitVec 128) (a:BitVec 128):Nat→BitVec 128
 | 0=>0#128
 | k+1=>S f a k ^^^ (if a.getLsbD k then f k else 0#128)
def Lin (f:BitVec 128→BitVec 128):Prop:=∀ a b,f (a ^^^ b)=f a ^^^ f b
theorem Lin.zero {f:BitVec 128→BitVec 128} (h:Lin f):f 0#128=0#128:=by
 have:=h 0#128 0#128
 simp only[BitVec.xor_self] at this
 exact this
theorem x4 (a b c d:BitVec 128):(a ^^^ b) ^^^ (c ^^^ d)=(a ^^^ c) ^^^ (b ^^^ d):=by
 rw[BitVec.xor_assoc,BitVec.xor_assoc,←BitVec.xor_assoc b,←BitVec.xor_assoc c,BitVec.xor_comm b c]
theorem Zbd {f g:Nat→BitVec 128} (a:BitVec 128) (n:Nat) (h:∀ k,k<n→f k=g k):S f a n=S g a n:=by
 induction n with
 | zero=>rfl
 | succ n ih=>rw[S,S,ih (fun k hk=>h k (by omega)),h n (by omega)]
theorem Ze9 (f g : Nat → BitVec 128) (a : BitVec 128) (n : Nat) : S (fun k => f k ^^^ g k) a n = S f a n ^^^ S g a n := by
  induction n with
  | zero => simp [S]
  | succ n ih =>
    rw [S, S, S, ih, x4]
    congr 1
    split <;> simp
theorem Zfa (f : Nat → BitVec 128) (n : Nat) : Lin (fun a => S f a n) := by
  intro a b
  induction n with
  | zero => simp [S]
  | succ n ih =>
    show S f (a ^^^ b) (n + 1) = S f a (n + 1) ^^^ S f b (n + 1)
    have ih' : S f (a ^^^ b) n = S f a n ^^^ S f b n := ih
    rw [S, S, S, ih', x4, BitVec.getLsbD_xor]
    congr 1
    cases a.getLsbD n <;> cases b.getLsbD n <;> simp
theorem G6 {T:BitVec 128→BitVec 128} (h:Lin T) (k:Nat):Lin (itr T k):=by
 intro a b
 induction k with
 | zero=>rfl
 | succ k ih=>rw[itr,itr,itr,ih,h]
theorem Ed (T:BitVec 128→BitVec 128) (k:Nat) (a:BitVec 128):itr T k (T a)=T (itr T k a):=by
 induction k with
 | zero=>rfl
 | succ k ih=>rw[itr,ih,itr]
def M (T:BitVec 128→BitVec 128) (b a:BitVec 128):BitVec 128:=S (fun k=>itr T k a) b 128
theorem Zfb {T:BitVec 128→BitVec 128} (h:Lin T) (b:BitVec 128):Lin (M T b):=by
 intro x y
 unfold M
 rw[←Ze9]
 exact Zbd b 128 fun k _=>G6 h k x y
theorem Zdw (T:BitVec 128→BitVec 128) (a:BitVec 128):Lin (fun b=>M T b a):=Zfa _ 128
def horner (T:BitVec 128→BitVec 128) (q p:BitVec 128):Nat→BitVec 128→BitVec 128
 | 0,s=>s
 | k+1,s=>horner T q p k (T s ^^^ (if q.getLsbD k then p else 0#128))
theorem Lf {T : BitVec 128 → BitVec 128} (h : Lin T) (q p : BitVec 128) (k : Nat) (s : BitVec 128) : horner T q p k s = itr T k s ^^^ S (fun i => itr T i p) q k := by
  induction k generalizing s with
  | zero => simp [horner, itr, S]
  | succ k ih =>
    rw [horner, ih, G6 h, Ed, itr, S, BitVec.xor_assoc, BitVec.xor_comm (itr T k _)]
    congr 2
    split
    · rfl
    · exact (G6 h k).zero
theorem El {T:BitVec 128→BitVec 128} (h:Lin T) (q p:BitVec 128):horner T q p 128 0#128=M T q p:=by
 rw[Lf h,(G6 h 128).zero,BitVec.zero_xor]
 rfl
def TX (v:BitVec 128):BitVec 128:=(v <<< 1) ^^^ (if v.getLsbD 127 then 0x87#128 else 0#128)
theorem Zb8 (a b:BitVec 128):(a ^^^ b) <<< 1=a <<< 1 ^^^ b <<< 1:=BitVec.shiftLeft_xor_distrib a b 1
theorem Zc1 (a b:BitVec 128) (i:Nat) (c:BitVec 128):(if (a ^^^ b).getLsbD i then c else 0#128)=(if a.getLsbD i then c else 0#128) ^^^ (if b.getLsbD i then c else 0#128):=by
 rw[BitVec.getLsbD_xor]
 cases a.getLsbD i<;>cases b.getLsbD i<;>simp
theorem Iy:Lin TX:=fun a b=>by rw[TX,Zb8,Zc1,x4];rfl
end Go.Proofs.YtehlppaidgkpaaaGreatDoor.Fld
