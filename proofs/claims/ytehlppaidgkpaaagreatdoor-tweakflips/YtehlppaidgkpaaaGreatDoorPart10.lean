import Derived.Test.YtehlppaidgkpaaaGreatDoorPart07
import Derived.Deep.RegionHeld3
import Derived.Deep.QuietTactic
import Derived.BigQuiet
import Derived.BigRegion
import Derived.Test.YtehlppaidgkpaaaGreatDoorNme
import Derived.Laws.ResultCell
import Derived.Deep.MidRow
import Derived.Deep.Cut
import Derived.Test.YtehlppaidgkpaaaGreatDoorPart03
import Derived.Lib.LazyBuf
import Derived.Laws.Concat
namespace Go.Proofs.YtehlppaidgkpaaaGreatDoor
open Go.RowKit
set_option linter.unusedVariables false
def wd (a b c d:Nat):Nat:=a*16777216+b*65536+c*256+d
theorem Qt {a b c d:Nat} (ha:a<256) (hb:b<256) (hc:c<256) (hd:d<256):wd a b c d<4294967296:=by unfold wd;omega
theorem wraps_u32 (n:Int) (h₀:0≤n) (h₁:n<2^32):IntKind.u32.wrap n=n:=by rw[IntKind.wrap_u32];omega
theorem Jx (a b:Nat) (ha:a<4294967296) (hb:b<4294967296):bits .xor .u32 (a:Int) b=(Nat.xor a b:Nat):=Fm .u32 32 (by decide) wraps_u32 a b ha hb
theorem B2 (a b x y:Nat) (hx:x<256) (hy:y<256):Nat.xor (a*256+x) (b*256+y)=Nat.xor a b*256+Nat.xor x y:=by
 have h1:Nat.xor (a*256+x) (b*256+y)/2^8=Nat.xor ((a*256+x)/2^8) ((b*256+y)/2^8):=Nat.xor_div_two_pow
 have h2:Nat.xor (a*256+x) (b*256+y)%2^8=Nat.xor ((a*256+x)%2^8) ((b*256+y)%2^8):=Nat.xor_mod_two_pow
 rw[show (a*256+x)/2^8=a by omega,show (b*256+y)/2^8=b by omega] at h1
 rw[show (a*256+x)%2^8=x by omega,show (b*256+y)%2^8=y by omega] at h2
 omega
theorem V3 (a b c d a' b' c' d':Nat) (hb:b<256) (hc:c<256) (hd:d<256) (hb':b'<256) (hc':c'<256) (hd':d'<256) :
  Nat.xor (wd a b c d) (wd a' b' c' d')=wd (Nat.xor a a') (Nat.xor b b') (Nat.xor c c') (Nat.xor d d'):=by
 have e:∀ a b c d,wd a b c d=((a*256+b)*256+c)*256+d:=fun a b c d=>by unfold wd;omega
 rw[e,e,B2 _ _ _ _ hd hd',B2 _ _ _ _ hc hc',B2 _ _ _ _ hb hb',e]
theorem Wt (i x y:Nat) (hx:x%2^i=0) (hx1:x<4294967296) (hy:y<2^i) (hi:i≤32) (hxy:x+y<4294967296):bits .or .u32 (x:Int) y=((x+y:Nat):Int):=by
 have:=bits_join .u32 32 (by decide) wraps_u32 i x y (by omega) (by exact_mod_cast hx) (by omega) (by omega) (by exact_mod_cast hy) (by omega)
 simpa using this
theorem Q6 (a b c d:Nat) (ha:a<256) (hb:b<256) (hc:c<256) (hd:d<256) (w:World):Calls Tryz.prog 123 #[.int .u8 a,.int .u8 b,.int .u8 c,.int .u8 d] w fun e w'=>e=.returned (.int .u32 (wd a b c d:Nat))∧w'=w:=by
 go_enter Tryz.func123,Tryz.ntmps123
 go_wp2
 go_ret
 refine ⟨Xk ?_,rfl⟩
 have e1:=Wt 24 (a*16777216) (b*65536) (by omega) (by omega) (by omega) (by omega) (by omega)
 have e2:=Wt 16 (a*16777216+b*65536) (c*256) (by omega) (by omega) (by omega) (by omega) (by omega)
 have e3:=Wt 8 (a*16777216+b*65536+c*256) d (by omega) (by omega) (by omega) (by omega) (by omega)
 rw[show ((a:Int)*16777216)=((a*16777216:Nat):Int) by omega,show ((b:Int)*65536)=((b*65536:Nat):Int) by omega,show ((c:Int)*256)=((c*256:Nat):Int) by omega,e1,e2,e3]
 unfold wd
 omega
theorem Qc (x k s:Int) (w:World) (hb:bits .and .u64 (IntKind.u64.wrap k) 31=s) (h0:0≤s) (h1:s≤32) (hs:IntKind.u64.wrap (32-s)=32-s):Calls Tryz.prog 78 #[.int .u32 x,.int .i64 k] w fun e w'=>e=.returned (.int .u32 (bits .or .u32 (x*2^s.toNat%4294967296) (x/2^(32-s).toNat)))∧w'=w:=by
 have h2:0≤32-s:=by omega
 go_enter Tryz.func78,Tryz.ntmps78
 go_wp2
 go_ret
 exact ⟨rfl,rfl⟩
theorem Oh {a b c d:Nat} {w:World} (ha:a<256) (hb:b<256) (hc:c<256) (hd:d<256):Calls Tryz.prog 78 #[.int .u32 (wd a b c d:Nat),.int .i64 (-8)] w fun e w'=>e=.returned (.int .u32 (wd d a b c:Nat))∧w'=w:=by
 have h:=Qc (wd a b c d:Nat) (-8) 24 w (by decide +kernel) (by decide) (by decide) (by decide +kernel)
 refine h.mono fun e w' ⟨h1,h2⟩=>⟨h1.trans (Xk ?_),h2⟩
 rw[show (24:Int).toNat=24 from rfl,show ((32:Int)-24).toNat=8 from rfl]
 have:=Wt 24 (d*16777216) (a*65536+b*256+c) (by omega) (by omega) (by omega) (by omega) (by omega)
 rw[show ((wd a b c d:Nat):Int)*2^24%4294967296=((d*16777216:Nat):Int) by unfold wd;omega,show ((wd a b c d:Nat):Int)/2^8=((a*65536+b*256+c:Nat):Int) by unfold wd;omega,this]
 unfold wd
 omega
theorem Ta {a b c d:Nat} {w:World} (ha:a<256) (hb:b<256) (hc:c<256) (hd:d<256):Calls Tryz.prog 78 #[.int .u32 (wd a b c d:Nat),.int .i64 (-16)] w fun e w'=>e=.returned (.int .u32 (wd c d a b:Nat))∧w'=w:=by
 have h:=Qc (wd a b c d:Nat) (-16) 16 w (by decide +kernel) (by decide) (by decide) (by decide +kernel)
 refine h.mono fun e w' ⟨h1,h2⟩=>⟨h1.trans (Xk ?_),h2⟩
 rw[show (16:Int).toNat=16 from rfl,show ((32:Int)-16).toNat=16 from rfl]
 have:=Wt 16 (c*16777216+d*65536) (a*256+b) (by omega) (by omega) (by omega) (by omega) (by omega)
 rw[show ((wd a b c d:Nat):Int)*2^16%4294967296=((c*16777216+d*65536:Nat):Int) by unfold wd;omega,show ((wd a b c d:Nat):Int)/2^16=((a*256+b:Nat):Int) by unfold wd;omega,this]
 unfold wd
 omega
theorem S9 {a b c d:Nat} {w:World} (ha:a<256) (hb:b<256) (hc:c<256) (hd:d<256):Calls Tryz.prog 78 #[.int .u32 (wd a b c d:Nat),.int .i64 (-24)] w fun e w'=>e=.returned (.int .u32 (wd b c d a:Nat))∧w'=w:=by
 have h:=Qc (wd a b c d:Nat) (-24) 8 w (by decide +kernel) (by decide) (by decide) (by decide +kernel)
 refine h.mono fun e w' ⟨h1,h2⟩=>⟨h1.trans (Xk ?_),h2⟩
 rw[show (8:Int).toNat=8 from rfl,show ((32:Int)-8).toNat=24 from rfl]
 have:=Wt 8 (b*16777216+c*65536+d*256) (a) (by omega) (by omega) (by omega) (by omega) (by omega)
 rw[show ((wd a b c d:Nat):Int)*2^8%4294967296=((b*16777216+c*65536+d*256:Nat):Int) by unfold wd;omega,show ((wd a b c d:Nat):Int)/2^24=((a:Nat):Int) by unfold wd;omega,this]
 unfold wd
 omega
theorem Zcd {a b c d:Nat} {w:World} (ha:a<256) (hb:b<256) (hc:c<256) (hd:d<256):Calls Tryz.prog 78 #[.int .u32 (wd a b c d:Nat),.int .i64 (8)] w fun e w'=>e=.returned (.int .u32 (wd b c d a:Nat))∧w'=w:=by
 have h:=Qc (wd a b c d:Nat) (8) 8 w (by decide +kernel) (by decide) (by decide) (by decide +kernel)
 refine h.mono fun e w' ⟨h1,h2⟩=>⟨h1.trans (Xk ?_),h2⟩
 rw[show (8:Int).toNat=8 from rfl,show ((32:Int)-8).toNat=24 from rfl]
 have:=Wt 8 (b*16777216+c*65536+d*256) (a) (by omega) (by omega) (by omega) (by omega) (by omega)
 rw[show ((wd a b c d:Nat):Int)*2^8%4294967296=((b*16777216+c*65536+d*256:Nat):Int) by unfold wd;omega,show ((wd a b c d:Nat):Int)/2^24=((a:Nat):Int) by unfold wd;omega,this]
 unfold wd
 omega
def SB (b:Nat):Nat:=Nat.mod (Nat.shiftRight 2869618975290639062594974519597816386035077209210385677284518162336985023502962151465775969507961862820568736543004676439868535775640188584098917533413284844376797297285941524888791401501466624530423689326528054213168201056672989590893583853414110162539122864583953358348775951166211353578440977400428507475679327181038682772945817200201960445064847785221508011893952350688324234443749897213621340677040612747745615276448919507935121141307752692835344166708617454322778699219895865633266409040561742768581056182730443599545881830075941537620590442514083341749674612746994879540562701631131184186066652929592955206755 (Nat.mul 8 b)) 256
def UB (b:Nat):Nat:=Nat.mod (Nat.shiftRight 15785769749828884342349381641981096363179738000380205650940338083111619982568718420166261191398703005748170232611805704157196303061330872280026969925224128193193768962594508714770967646139604422718174787315048227180018877623049221087186576642191304514338137614235628241783007805847129270530950856841486400764657112140097236091222567730363620332611309375046737430203438830593833719428588466121688739068564421474273450162064709239629809347626728710072303178617319436726577534667237755444692000788692193415136619289353224918429728194544458916874716857284226411602766869706570927007876872095880586785662942963508062062930 (Nat.mul 8 b)) 256
theorem Yp (b:Nat):SB b<256:=Nat.mod_lt _ (by decide)
theorem Q9 (b:Nat):UB b<256:=Nat.mod_lt _ (by decide)
theorem Bk:∀ b:Fin 256,UB (SB b.1)=b.1∧SB (UB b.1)=b.1:=by decide +kernel
def x2 (a:Nat):Nat:=Y1 a
def x3 (a:Nat):Nat:=Nat.xor (Y1 a) a
def x9 (a:Nat):Nat:=Nat.xor (Y1 (Y1 (Y1 a))) a
def x11 (a:Nat):Nat:=Nat.xor (Nat.xor (Y1 (Y1 (Y1 a))) (Y1 a)) a
def x13 (a:Nat):Nat:=Nat.xor (Nat.xor (Y1 (Y1 (Y1 a))) (Y1 (Y1 a))) a
def x14 (a:Nat):Nat:=Nat.xor (Nat.xor (Y1 (Y1 (Y1 a))) (Y1 (Y1 a))) (Y1 a)
theorem Jd:∀ a:Fin 256,x2 a.1<256∧x3 a.1<256∧x9 a.1<256∧x11 a.1<256∧x13 a.1<256∧x14 a.1<256:=by decide +kernel
def MX (b:Nat):Nat:=wd (x2 (SB b)) (SB b) (SB b) (x3 (SB b))
def UX (b:Nat):Nat:=wd (x14 b) (x9 b) (x13 b) (x11 b)
def M8 (b:Nat):Nat:=wd (x3 (SB b)) (x2 (SB b)) (SB b) (SB b)
def M16 (b:Nat):Nat:=wd (SB b) (x3 (SB b)) (x2 (SB b)) (SB b)
def M24 (b:Nat):Nat:=wd (SB b) (SB b) (x3 (SB b)) (x2 (SB b))
def U8 (b:Nat):Nat:=wd (x11 b) (x14 b) (x9 b) (x13 b)
def U16 (b:Nat):Nat:=wd (x13 b) (x11 b) (x14 b) (x9 b)
def U24 (b:Nat):Nat:=wd (x9 b) (x13 b) (x11 b) (x14 b)
def Ez (a b c d:Nat):Nat:=Nat.xor (Nat.xor (Nat.xor (MX a) (M8 b)) (M16 c)) (M24 d)
def Si (a b c d:Nat):Nat:=Nat.xor (Nat.xor (Nat.xor (UX a) (U8 b)) (U16 c)) (U24 d)
structure Tab (w:World) (g o:Nat):Prop where
 s:∀ b,b<256→w.cell? ⟨g,o+61+b,none⟩=some (.int .u8 (SB b:Nat))
 u:∀ b,b<256→w.cell? ⟨g,o+317+b,none⟩=some (.int .u8 (UB b:Nat))
 m:∀ b,b<256→w.cell? ⟨g,o+573+b,none⟩=some (.int .u32 (MX b:Nat))
 n:∀ b,b<256→w.cell? ⟨g,o+829+b,none⟩=some (.int .u32 (UX b:Nat))
theorem Q8 {P:Program} {fn:Func} {p t:Tmp} {ty:TypeId} {d:TypeDesc} {Q:Ending→World→Prop} {tmps:Array Value} {w:World} {b:Nat} (cs:List Value) (v:Value) (h:fn.results=#[.cell p ty,.tmp t])
  (hp:tmps.getD p undef=.pointer (some ⟨b,0,none⟩)) (ht:tmps.getD t undef=v) (hr:w.rangeAt b 0 cs) (hu:P.underlying ty=some d) (hd:d.isRow=true) (hi:(P.info? ty).map (·.size)=some cs.length)
  (hq:Q (.returned (.tuple #[.agg cs.toArray,v])) w):bodyPost P fn Q .ret ⟨tmps,[]⟩ w:=by
 refine bodyPost_ret (v:=.tuple #[.agg cs.toArray,v]) ?_ rfl hq
 rw[results_cell_tmp h]
 have hl:=run_loadVar_mid (P:=P) w b 0 ty cs d hr hu hd hi
 simp [hp,asAddr,hl,ht]
theorem bytes_inj {a b:ByteArray} (h:a.toList=b.toList):a=b:=by
 rw[Lib.toList_data,Lib.toList_data] at h
 cases a;cases b
 simp at h
 rw[h]
def Bx (w:World) (b:Nat) (t:TypeId) (cs:List Value):Prop:=w.heap[b]?=some (.cells cs.toArray t (0,0))
theorem Bx.lt {w:World} {b:Nat} {t:TypeId} {cs:List Value} (h:Bx w b t cs):b<w.heap.size:=(Array.getElem?_eq_some_iff.1 h).1
theorem Bx.keep {w w':World} {b:Nat} {t:TypeId} {cs:List Value} (h:Bx w b t cs) (e:w'.heap[b]?=w.heap[b]?):Bx w' b t cs:=by
 unfold Bx at *;rw[e];exact h
theorem Bx.below {w w':World} {b:Nat} {t:TypeId} {cs:List Value} (h:Bx w b t cs) (hb:Below w.heap.size w w'):Bx w' b t cs:=h.keep (hb.block b h.lt)
theorem Bx.cell {w:World} {b:Nat} {t:TypeId} {cs:List Value} (h:Bx w b t cs) (i:Nat) (v:Value) (hv:cs[i]?=some v):w.cell? ⟨b,i,none⟩=some v:=by
 unfold Bx at h
 simp [World.cell?,h,hv]
theorem Bx.frozen {w:World} {b:Nat} {t:TypeId} {cs:List Value} (h:Bx w b t cs) (i:Nat):w.frozen? ⟨b,i,none⟩=false:=by
 unfold Bx at h
 simp [World.frozen?,h]
theorem Bx.range {w:World} {b:Nat} {t:TypeId} {cs:List Value} (h:Bx w b t cs):w.rangeAt b 0 cs:=fun j u hj=>by rw[Nat.zero_add];exact h.cell j u hj
theorem Bx.new (w:World) (t:TypeId) (cs:List Value):Bx (w.alloc (.cells cs.toArray t)) w.heap.size t cs:=heap_alloc_new w _
theorem Bx.set {w:World} {b:Nat} {t:TypeId} {cs:List Value} (h:Bx w b t cs) (i:Nat) (v:Value):Bx (w.setCell ⟨b,i,none⟩ v) b t (cs.set i v):=by
 unfold Bx at *
 rw[setCell_eq_setRow w b i cs.toArray t (0,0) v h]
 rw[setRow_heap w b cs.toArray _ t (0,0) h]
 simp
theorem Ig (w:World) (g:Option Nat):w.grownBy w g:=⟨rfl,rfl,rfl,Nat.le_refl _,fun _ _ _=>rfl⟩
theorem Cy {w u v:World} {g:Nat} (h:w.grownBy u (some g)) (k:u.grownBy v (some g)):w.grownBy v (some g):=
 ⟨k.os.trans h.os,k.tape.trans h.tape,k.output.trans h.output,Nat.le_trans h.size k.size,fun i hi hn=>(k.block i (Nat.lt_of_lt_of_le hi h.size) hn).trans (h.block i hi hn)⟩
theorem Yd {w u:World} {B g:Nat} (h:w.grownBy u (some g)) (hB:B≤w.heap.size) (hg:B≤g):Below B w u:=⟨h.os,h.tape,h.output,h.size,fun k hk=>h.block k (by omega) (by intro e;injection e with e;omega)⟩
theorem I5 (w:World) (b o:Nat) (cur:Array Value) (t:TypeId) (v:Value) (h:w.heap[b]?=some (.cells cur t (0,0))):(w.setCell ⟨b,o,none⟩ v).heap[b]?=some (.cells (cur.setIfInBounds o v) t (0,0)):=by
 obtain ⟨hlt,hk⟩:=Array.getElem?_eq_some_iff.1 h
 show (w.heap.modify b _)[b]?=_
 rw[Array.getElem?_eq_getElem (by rw[Array.size_modify];exact hlt),Array.getElem_modify_self,hk]
 rfl
theorem O5 (w:World) (b o:Nat) (v:Value):w.grownBy (w.setCell ⟨b,o,none⟩ v) (some b):=⟨rfl,rfl,rfl,by simp [World.setCell],fun k _ hk=>Below.heap_setCell w ⟨b,o,none⟩ v k (fun e=>hk (by rw[e]))⟩
theorem J5 (b t : Nat) : ∀ (vs : List Value) (o : Nat) (w : World) (cur : Array Value), w.heap[b]? = some (.cells cur t (0, 0)) → ∃ r, (w.setCells b o vs).heap[b]? = some (.cells r t (0, 0)) ∧ r.size = cur.size ∧ ∀ j, r[j]? = if o ≤ j ∧ j < o + vs.length ∧ j < cur.size then vs[j - o]? else cur[j]?
  | [], o, w, cur, h => ⟨cur, by simpa [World.setCells] using h, rfl, fun j => by rw [if_neg (by simp; omega)]⟩
  | v :: r, o, w, cur, h => by
    obtain ⟨q, h1, h2, h3⟩ := J5 b t r (o + 1) (w.setCell ⟨b, o, none⟩ v) _ (I5 w b o cur t v h)
    refine ⟨q, h1, by rw [h2]; simp, fun j => ?_⟩
    rw [h3]
    simp only [Array.size_setIfInBounds, List.length_cons]
    by_cases c1 : o + 1 ≤ j ∧ j < o + 1 + r.length ∧ j < cur.size
    · rw [if_pos c1, if_pos (by omega), show j - o = (j - (o + 1)) + 1 by omega]
      simp
    · rw [if_neg c1]
      by_cases c2 : o = j ∧ j < cur.size
      · obtain ⟨rfl, c3⟩ := c2
        rw [if_pos (by omega)]
        simp [c3]
      · rw [if_neg (by omega)]
        rw [Array.getElem?_setIfInBounds]
        split
        · rename_i e
          subst e
          rw [if_neg (by omega)]
          rw [Array.getElem?_eq_none (by omega)]
        · rfl
theorem Yc (b:Nat):∀ (vs:List Value) (o:Nat) (w:World),w.grownBy (w.setCells b o vs) (some b)
 | [],_,w=>Ig _ _
 | v::r,o,w=>by rw[World.setCells];exact Cy (O5 w b o v) (Yc b r (o+1) _)
theorem Bx.store {w:World} {b:Nat} {t:TypeId} {cs:List Value} (cs':List Value) (h:Bx w b t cs) (hl:cs'.length=cs.length):Bx (w.setCells b 0 cs') b t cs':=by
 obtain ⟨r,h1,h2,h3⟩:=J5 b t cs' 0 w _ h
 have e:r=cs'.toArray:=by
  apply Array.ext_getElem?
  intro j
  rw[h3]
  by_cases hj:j<cs.length
  ·rw[if_pos ⟨Nat.zero_le _,by omega,by simpa using hj⟩,Nat.sub_zero]
   simp
  ·rw[if_neg (by simp;omega),Array.getElem?_eq_none (by simp;omega),Array.getElem?_eq_none (by simp;omega)]
 unfold Bx
 rw[h1,e]
theorem Zg {P:Program} {w:World} {ops:Array Oper} {rest:List Oper} {o:Oper} {a:Act} {Q:Exit→Act→World→Prop} (hgd:o.guard=none) (t:TypeId) (x y:Operand) (ho:o.op=.store t x y) {bt:TypeId} (c c':List Value) (g:Nat) (hx:a.eval x=.pointer (some ⟨g,0,none⟩)) (hy:a.eval y=.agg c'.toArray)
  (hb:Bx w g bt c) (hl:c'.length=c.length) (hi:(P.info? t).map (·.size)=some c'.length) (h1:∀ v∈c',v.oneCell'=true) (h:∀ u,Bx u g bt c'→w.grownBy u (some g)→wpList P ops Q rest (a.put o.dst undef) u):wpList P ops Q (o::rest) a w:=by
 refine wpList_store_mid hgd t x y ho g 0 c'.toArray hx hy (fun j hj=>?_) (by simpa using hi) (all_oneCell_toArray h1) (h _ (hb.store c' hl) (Yc g _ 0 w))
 rw[Nat.zero_add]
 have hj':j<c.length:=by rw[←hl];simpa using hj
 refine ⟨?_,hb.frozen j⟩
 rw[hb.cell j _ (List.getElem?_eq_getElem hj')]
 rfl
set_option linter.unusedSimpArgs false
theorem Ht {w:World} {v:Value} {zs:List Int} (hv:Zf w v zs) (h0:zs≠[]):∀ b off l c,v=.slice (some ⟨b,off,none⟩) l c→b<w.heap.size:=fun b off l c e=>by
 obtain ⟨a,cap,e1,h1,h2,h3,h4⟩:=hv
 rcases h4 with h4 | ⟨b',p',e2,hc⟩
 ·exact absurd h4 h0
 ·rw[e] at e1
  injection e1 with e3 _ _
  rw[e2] at e3
  injection e3 with e3
  injection e3 with e4 _
  have:=World.block_lt_of_cell? w _ (hc 0 (by cases zs with | nil=>exact absurd rfl h0 | cons _ _=>simp))
  simp at this
  omega
theorem J3 {w:World} {a:Option Addr} {n cap:Nat} {zs:List Int} (hv:Zf w (.slice a n cap) zs) (i j:Nat) (hij:i≤j) (hj:j≤n):Zf w (sliced a i j cap 1) ((zs.drop i).take (j-i)):=by
 obtain ⟨a',c,he,h1,h2,h3,h4⟩:=hv
 injection he with e1 e2 e3
 subst e1 e2 e3
 have hl:((zs.drop i).take (j-i)).length=j-i:=by simp;omega
 refine ⟨if cap=i then a else a.map (·.add (i*1)),cap-i,by rw[sliced,hl],by omega,by omega,?_,?_⟩
 ·intro e
  split at e
  ·omega
  ·have:a=none:=by cases a with | none=>rfl | some x=>cases e
   have:=h3 this
   omega
 ·by_cases hz:(zs.drop i).take (j-i)=[]
  ·exact .inl hz
  ·right
   have hlt:i<j:=by
    by_cases hlt:i<j
    ·exact hlt
    ·exact absurd (by rw[show j-i=0 by omega,List.take_zero]) hz
   rcases h4 with rfl | ⟨b,off,rfl,hc⟩
   ·simp at hj;omega
   ·refine ⟨b,off+i,?_,fun k hk=>?_⟩
    ·rw[if_neg (by omega),Option.map_some,Nat.mul_one,Addr.add_mid]
    ·rw[hl] at hk
     rw[Nat.add_assoc,hc (i+k) (by omega)]
     simp [List.getD,List.getElem?_take,hk]
theorem N3:Tryz.prog.elem 22=5:=by kernel_rfl
theorem Ml:Tryz.prog.underlying 22=some (.slice (Tryz.prog.elem 22)):=by kernel_rfl
theorem sizeOf5 (w:World):(Go.sizeOf 5).run Tryz.prog w=.ok 1 w:=by kernel_rfl
theorem Zb8 (w:World) (a:Option Addr) (n cap i j:Nat) (hij:i≤j) (hj:j≤cap):(Instr.slice 22 (.slice a n cap) (some (.int .i64 i)) (some (.int .i64 j)) none).run Tryz.prog w=.ok (sliced a i j cap 1) w:=by
 rw[run_slice_lh w 22 a n cap Ml .i64 .i64 i j (by omega) (by omega) (by omega),N3,sizeOf5]
 simp [Result.andThen]
theorem Ms (w:World) (a:Option Addr) (n cap j:Nat) (hj:j≤cap):(Instr.slice 22 (.slice a n cap) none (some (.int .i64 j)) none).run Tryz.prog w=.ok (sliced a 0 j cap 1) w:=by
 rw[run_slice_h w 22 a n cap Ml .i64 j (by omega) (by omega),N3,sizeOf5]
 simp [Result.andThen]
theorem Ef (w:World) (a:Option Addr) (n cap i:Nat) (hi:i≤n) (hn:n≤cap):(Instr.slice 22 (.slice a n cap) (some (.int .i64 i)) none none).run Tryz.prog w=.ok (sliced a i n cap 1) w:=by
 rw[run_slice_l w 22 a n cap Ml .i64 i (by omega) (by omega),N3,sizeOf5]
 simp [Result.andThen]
def Ql (zs:List Int) (i:Nat):Nat:=(zs.getD i 0).toNat
theorem Ge {zs:List Int} (h:Zj zs) (i:Nat):Ql zs i<256:=by have:=h i;unfold Ql;omega
theorem Dn {zs:List Int} (h:Zj zs) (i:Nat):((Ql zs i:Nat):Int)=zs.getD i 0:=by have:=h i;unfold Ql;omega
theorem Zf.below {w u:World} {v:Value} {zs:List Int} (h:Zf w v zs) (hb:Below w.heap.size w u):Zf u v zs:=h.kept hb.block
theorem X9 {w:World} {B n:Nat} {v:Value} {zs:List Int} (h:w.ownsRow B 5 1 v n (Za zs)) (hn:zs.length=n):Zf w v zs:=by
 have h0:=h
 rcases h.2 with ⟨rfl,e0⟩ | ⟨g,c,cur,rfl,q1,q2,q3,q4,q5,q6⟩
 ·refine ⟨none,0,by rw[hn,e0],by omega,by simp [maxLen],fun _=>rfl,Or.inl (List.eq_nil_of_length_eq_zero (by omega))⟩
 ·refine ⟨some ⟨g,0,none⟩,c,by rw[hn],by omega,q4,(fun e=>by cases e),Or.inr ⟨g,0,rfl,fun i hi=>?_⟩⟩
  have hc:=h0.cells (g:=g) rfl i (.int .u8 (zs.getD i 0)) (by simp [Za,List.getD,List.getElem?_eq_getElem hi])
  rw[Addr.add_lit] at hc
  exact hc
theorem Ov {w:World} {x:Addr} {n c:Nat} {zs:List Int} (h:Zf w (.slice (some x) n c) zs):∀ j u,(Za zs)[j]?=some u→w.cell? (x.add j)=some u:=by
 obtain ⟨a,c',he,h1,h2,h3,h4⟩:=h
 injection he with e1 e2 e3
 rcases h4 with rfl | ⟨b,off,he,hcell⟩
 ·intro j u hu
  simp [Za] at hu
 ·rw[←e1] at he
  cases he
  exact Q2 zs w b off hcell
set_option maxHeartbeats 800000 in
set_option maxRecDepth 100000 in
theorem N5 (x:Addr) (n cap:Nat) (zs:List Int) (w:World) (hl:Hid (zs.length=n)) (hn:n≤100000) (hc:Hid (∀ j u,(Za zs)[j]?=some u→w.cell? (x.add j)=some u)) :
  Calls Tryz.prog 66 #[.slice (some x) n cap] w fun e w'=>∃ v,e=.returned v∧w'.ownsRow w.heap.size 5 1 v n (Za zs)∧Below w.heap.size w w':=by
 obtain ⟨i0,hi,hz0,hz1,hz2⟩:=info_parts Tryz.info5
 have hnl:∀ w,(binOp .eql 22 (.slice (some x) n cap) (.slice none 0 0)).run Tryz.prog w=.ok (.bool false) w:=fun w=>run_eql_slice_nil w 22 5 (some x) n cap Tryz.underlying22
 go_enter Tryz.func66,Tryz.ntmps66
 go_wp2_with (first
  | (at_builtin;go_must (refine wpList_append_own _ rfl (.tmp 5) (.tmp 6) 22 rfl w.heap.size 5 i0 (.int .u8 0) 1 1 Tryz.underlying22 hi hz0 hz1 hz2 rfl (by decide) _ 0 [] rfl (World.ownsRow_made w #[] 0 (Nat.le_refl _) (by unfold maxLen;omega) rfl) x n cap (Za zs) rfl ?_ ?_ (Xw zs) ?_ ?_ ?_ ?_)))
 ·rw[Zr,hl.out,Nat.mul_one]
 ·intro j u hu
  have:=hc.out j u hu
  rw[World.cell?_alloc_lt w _ _ (World.block_lt_of_cell? w _ this)]
  exact this
 ·unfold maxLen;omega
 ·omega
 ·simp
 intro v1 w1 hown hgrow hnil
 have HO:Hid (w1.ownsRow w.heap.size 5 1 v1 n (Za zs)):=by
  show w1.ownsRow w.heap.size 5 1 v1 n (Za zs)
  simpa using hown
 have HB:Hid (Below w.heap.size w w1):=((Below.refl _ _).alloc (Nat.le_refl _) _).grown hgrow (by simp) (by intro k hk;cases hk;exact Nat.le_refl _)
 clear hown hgrow hnil
 go_wp2
 go_ret
 exact ⟨_,rfl,HO.out,HB.out⟩
set_option maxHeartbeats 800000 in
theorem Rp (w:World):Calls Tryz.prog 66 #[.slice none 0 0] w fun e w'=>e=.returned (.slice none 0 0)∧w'=w:=by
 have hnl:∀ w,(binOp .eql 22 (.slice none 0 0) (.slice none 0 0)).run Tryz.prog w=.ok (.bool true) w:=fun w=>run_eql_slice_nil w 22 5 none 0 0 Tryz.underlying22
 go_enter Tryz.func66,Tryz.ntmps66
 go_wp2
 go_ret
 exact ⟨rfl,rfl⟩
theorem Rq (v : Value) (zs : List Int) (w : World) (hn : zs.length ≤ 100000) (h : Zf w v zs) :
    Calls Tryz.prog 66 #[v] w fun e w' => ∃ v', e = .returned v' ∧ w'.ownsRow w.heap.size 5 1 v' zs.length (Za zs) ∧ Below w.heap.size w w' := by
  have h0 := h
  obtain ⟨a, c, rfl, h1, h2, h3, h4⟩ := h
  cases a with
  | none =>
    obtain rfl := h3 rfl
    have hz : zs = [] := List.eq_nil_of_length_eq_zero (by omega)
    subst hz
    refine (Rp w).mono ?_
    rintro e w' ⟨rfl, hw⟩
    subst hw
    exact ⟨_, rfl, World.ownsRow_nil _ _ _ _, Below.refl _ _⟩
  | some x => exact N5 x zs.length c zs w rfl hn (Ov h0)
set_option maxHeartbeats 800000 in
set_option maxRecDepth 100000 in
theorem Ff (v:Value) (zs:List Int) (w:World) (hn:zs.length≤100000) (h:Zf w v zs) :
  Calls Tryz.prog 50 #[v] w fun e w'=>∃ v',e=.returned v'∧w'.ownsRow w.heap.size 5 1 v' zs.length (Za zs)∧Below w.heap.size w w':=by
 obtain ⟨i0,hi,hz0,hz1,hz2⟩:=info_parts Tryz.info5
 have HI0:Hid (Tryz.prog.info? 5=some i0∧i0.zero=some (.int .u8 0)∧i0.size=1∧i0.bytes=1):=⟨hi,hz0,hz1,hz2⟩
 clear hi hz0 hz1 hz2
 obtain ⟨a,c,rfl,h1,h2,h3,h4⟩:=h
 have HC:Hid (zs=[]∨∃ b off,a=some ⟨b,off,none⟩∧∀ i,i<zs.length→w.cell? ⟨b,off+i,none⟩=some (.int .u8 (zs.getD i 0))):=h4
 obtain ⟨n,HN⟩:∃ n,Hid (zs.length=n):=⟨_,rfl⟩
 rw[HN.out] at hn ⊢
 clear h1 h2 h3 h4
 go_enter Tryz.func50,Tryz.ntmps50
 go_wp2
 go_loopw [3,4] (fun v i wr=>∃ k:Nat,k≤n∧i=.int .i64 k∧wr.ownsRow w.heap.size 5 1 v k (Za (zs.take k))∧Hid (Below w.heap.size w wr)) (fun _ i _=>n-(intOf i).toNat)
 case atStart=>exact ⟨0,by omega,rfl,World.ownsRow_nil _ _ _ _,Below.refl _ _⟩
 case round=>
  obtain ⟨k,hk,rfl,hown2,HB2⟩:=hrel
  by_cases hlt:k<n
  ·obtain ⟨b,off,rfl,hcell⟩:∃ b off,a=some ⟨b,off,none⟩∧∀ i,i<zs.length→w.cell? ⟨b,off+i,none⟩=some (.int .u8 (zs.getD i 0)):=by
    rcases HC.out with q | q
    ·have:=HN.out;rw[q] at this;simp at this;omega
    ·exact q
   obtain ⟨z,HZ⟩:∃ z,Hid (zs.getD k 0=z):=⟨_,rfl⟩
   have hc:wr.cell? ⟨b,off+k,none⟩=some (.int .u8 z):=by
    have q:=hcell k (by rw[HN.out];exact hlt)
    rw[HB2.out.cell (World.block_lt_of_cell? w _ q),q,HZ.out]
   clear hcell
   have g0:(0:Int)≤(k:Int):=by omega
   have g1:(k:Int)<n:=by omega
   have HO2:Hid (wr.ownsRow w.heap.size 5 1 u3 k (Za (zs.take k))):=hown2
   clear hown2
   obtain ⟨hi,hz0,hz1,hz2⟩:=HI0.out
   go_wp2_with (first
    | (at_builtin;go_must (refine wpList_append_own _ rfl (.tmp 11) (.tmp 16) 22 rfl w.heap.size 5 i0 (.int .u8 0) 1 1 Tryz.underlying22 hi hz0 hz1 hz2 rfl (by decide) _ _ _ rfl (HO2.out.alloc _) ⟨wr.heap.size,0,none⟩ 1 1 [.int .u8 z] rfl rfl ?_ ?_ ?_ ?_ ?_ ?_)))
   ·intro j u hj
    match j,hj with
    | 0,hj=>simp at hj;subst hj;simp [Addr.add]
   ·intro u hu;simp at hu;subst hu;rfl
   ·unfold maxLen;omega
   ·omega
   ·have:=HB2.out.size;simp;omega
   intro v1 w1 hown hgrow hnil
   have HO3:Hid (w1.ownsRow w.heap.size 5 1 v1 (k+1) (Za (zs.take (k+1)))):=by
    have e:Za (zs.take (k+1))=Za (zs.take k)++[.int .u8 z]:=by
     rw[List.take_add_one,Xh]
     have hk':k<zs.length:=by rw[HN.out];exact hlt
     rw[List.getElem?_eq_getElem hk']
     have:zs[k]=z:=by rw[←HZ.out,List.getD_eq_getElem?_getD,List.getElem?_eq_getElem hk'];rfl
     rw[this];rfl
    show w1.ownsRow _ _ _ _ _ _
    rw[e];exact hown
   have HB3:Hid (Below w.heap.size w w1):=(HB2.out.alloc HB2.out.size _).grown hgrow (by have:=HB2.out.size;simp;omega) (by
    intro q hq
    exact (Zy HO2.out hq).1)
   clear hown hgrow hnil HO2 hc
   go_wp2
   exact ⟨⟨k+1,by omega,by simp,HO3.out,HB3⟩,by simp [intOf];omega⟩
  ·have HO2:Hid (wr.ownsRow w.heap.size 5 1 u3 n (Za zs)):=by
    have e:k=n:=by omega
    have q:=hown2
    rw[e,List.take_of_length_le (by rw[HN.out];exact Nat.le_refl _)] at q
    exact q
   clear hown2
   go_wp2
   go_ret
   exact ⟨_,rfl,HO2.out,HB2.out⟩
def zSx:List Value:=[.string ⟨#[]⟩,.int .i64 0,.string ⟨#[]⟩,.int .i64 0,.int .i64 0,.int .i64 0,.nilFunc,.nilFunc]
def Zdb (S:ByteArray) (w0:World) (e:Ending) (w':World):Prop:=
 ((∃ j,j<52∧spN j=S∧(∀ i,i<j→spN i≠S)∧e=.returned (.tuple #[.agg (sxF j).toArray,.bool true]))∨((∀ i,i<52→spN i≠S)∧e=.returned (.tuple #[.agg zSx.toArray,.bool false])))∧Below w0.heap.size w0 w'
structure FnI (w0 w1 w2 wr:World) (g cap:Nat):Prop where
 own:w2.ownsRow w1.heap.size 96 8 (.slice (some ⟨g,0,none⟩) 52 cap) 52 (fl sxF 52)
 b2:Below w1.heap.size w1 w2
 br:Below w2.heap.size w2 wr
 w1:w1=w0.alloc (.cells zSx.toArray 96)
theorem FnI.box {w0 w1 w2 wr:World} {g cap:Nat} (h:FnI w0 w1 w2 wr g cap):Bx wr w0.heap.size 96 zSx:=by
 have e1:w1.heap[w0.heap.size]?=some (.cells zSx.toArray 96 (0,0)):=by rw[h.w1];exact heap_alloc_new w0 _
 have l1:w0.heap.size<w1.heap.size:=by rw[h.w1];simp
 unfold Bx
 rw[h.br.block _ (Nat.lt_of_lt_of_le l1 h.b2.size),h.b2.block _ l1,e1]
theorem FnI.bel {w0 w1 w2 wr:World} {g cap:Nat} (h:FnI w0 w1 w2 wr g cap):Below w0.heap.size w0 wr:=by
 have b0:Below w0.heap.size w0 w1:=by rw[h.w1];exact (Below.refl _ _).alloc (Nat.le_refl _) _
 have b1:=b0.trans (h.b2.mono b0.size)
 exact b1.trans (h.br.mono b1.size)
theorem FnI.more {w0 w1 w2 wr wx:World} {g cap:Nat} (h:FnI w0 w1 w2 wr g cap) (b:Below wr.heap.size wr wx):FnI w0 w1 w2 wx g cap:=⟨h.own,h.b2,h.br.trans (b.mono h.br.size),h.w1⟩
set_option maxHeartbeats 3200000 in
set_option maxRecDepth 100000 in
theorem find_ok (S:ByteArray) (w0:World) (hT:Pow w0):Calls Tryz.prog 42 #[.string S] w0 fun e w'=>Zdb S w0 e w':=by
 have HT:Hid (Pow w0):=hT
 clear hT
 obtain ⟨w1,hw1⟩:∃ w1,w1=w0.alloc (.cells zSx.toArray 96):=⟨_,rfl⟩
 have HT1:Hid (Pow w1):=by rw[hw1];exact HT.out.below ((Below.refl _ _).alloc (Nat.le_refl _) _)
 have HW1:Hid (w1=w0.alloc (.cells zSx.toArray 96)):=hw1
 have H45:Hid (Calls Tryz.prog 65 #[] (w0.alloc (.cells #[.string ⟨#[]⟩,.int .i64 0,.string ⟨#[]⟩,.int .i64 0,.int .i64 0,.int .i64 0,.nilFunc,.nilFunc] 96)) fun e w'=>Hid (∃ g cap,e=.returned (.slice (some ⟨g,0,none⟩) 52 cap)∧FnI w0 w1 w' w' g cap)):=by
  have q:=Lq w1 HT1.out
  rw[hw1] at q
  refine q.mono ?_
  rintro e w2 hh
  obtain ⟨g,cap,rfl,ho,hb⟩:=hh.out
  exact ⟨g,cap,rfl,by rw[hw1];exact ho,by rw[hw1];exact hb,Below.refl _ _,hw1⟩
 clear hw1 HT1
 go_enter Tryz.func42,Tryz.ntmps42
 go_wp2_with (go_at_call 65;refine H45.out.mono ?_;intro e1 w2 hh;obtain ⟨g,cap,rfl,hI⟩:=hh.out;have HI:Hid (FnI w0 w1 w2 w2 g cap):=hI;clear hh hI H45)
 obtain ⟨b0,hb0⟩:∃ b0,b0=w0.heap.size:=⟨_,rfl⟩
 have HB0:Hid (b0=w0.heap.size):=hb0
 rw[←hb0]
 clear hb0
 go_loopw [8] (fun vi wr=>∃ i:Nat,vi=.int .i64 (i:Nat)∧i≤52∧Hid (FnI w0 w1 w2 wr g cap)∧Hid (∀ k,k<i→spN k≠S)) (fun vi _=>52-(intOf vi).toNat)
 case atStart=>exact ⟨0,rfl,by omega,HI,fun k hk=>by omega⟩
 case round=>
  obtain ⟨i,rfl,hi,HR,HN⟩:=hrel
  clear HI
  by_cases hlt:i<52
  ·obtain ⟨a,x,y,z,s,f,h,hrow,hf1,hg1⟩:=O1 i
   have HROW:Hid (sxF i=[.string (spN i),.int .i64 a,.string s,.int .i64 x,.int .i64 y,.int .i64 z,f,h]):=hrow
   have g0:(0:Int)≤(i:Int):=by omega
   have g1:(i:Int)<52:=by omega
   have hsF:∀ u ad md,(store ad f md).run Tryz.prog u=stored Tryz.prog u ad f md:=fun u ad md=>run_store Tryz.prog u ad f md hf1
   have hsG:∀ u ad md,(store ad h md).run Tryz.prog u=stored Tryz.prog u ad h md:=fun u ad md=>run_store Tryz.prog u ad h md hg1
   have HO1:Hid (f.oneCell'=true∧h.oneCell'=true):=⟨hf1,hg1⟩
   clear hf1 hg1
   obtain ⟨NM,HNM⟩:∃ q,Hid (spN i=q):=⟨_,rfl⟩
   rw[HNM.out] at hrow
   have cs:∀ j,j<8→wr.cell? ⟨g,i*8+j,none⟩=(sxF i)[j]?:=fun j hj=>Ee HR.out.own HR.out.br hlt hj
   rw[hrow] at cs
   have c0:=cs 0 (by decide)
   have c1:=cs 1 (by decide)
   have c2:=cs 2 (by decide)
   have c3:=cs 3 (by decide)
   have c4:=cs 4 (by decide)
   have c5:=cs 5 (by decide)
   have c6:=cs 6 (by decide)
   have c7:=cs 7 (by decide)
   clear cs hrow
   simp only[List.getElem?_cons_zero,List.getElem?_cons_succ,Nat.add_zero] at c0 c1 c2 c3 c4 c5 c6 c7
   go_upto_region 4 with fail
   obtain ⟨w3,hw3⟩:∃ w3,w3=wr.alloc (.cells #[.string NM,.int .i64 a,.string s,.int .i64 x,.int .i64 y,.int .i64 z,f,h] 96):=⟨_,rfl⟩
   have HR2:Hid (FnI w0 w1 w2 w3 g cap):=by rw[hw3];exact HR.out.more ((Below.refl _ _).alloc (Nat.le_refl _) _)
   have hb2:=heap_alloc_new wr (.cells #[.string NM,.int .i64 a,.string s,.int .i64 x,.int .i64 y,.int .i64 z,f,h] 96)
   rw[←hw3] at hb2 ⊢
   have d0:w3.cell? ⟨wr.heap.size,0,none⟩=some (.string NM):=by simp [World.cell?,hb2]
   have HBX:Hid (Bx w3 wr.heap.size 96 [.string NM,.int .i64 a,.string s,.int .i64 x,.int .i64 y,.int .i64 z,f,h]):=hb2
   clear hw3 hb2 c0 c1 c2 c3 c4 c5 c6 c7 hsF hsG
   generalize wr.heap.size=m at d0 HBX ⊢
   clear HR
   by_cases hE:NM=S
   ·subst hE
    have HF:Hid (∀ v∈sxF i,v.oneCell'=true):=by
     rw[HROW.out];intro v hv;simp at hv;rcases hv with rfl | rfl | rfl | rfl | rfl | rfl | rfl | rfl<;>first | rfl | exact HO1.out.1 | exact HO1.out.2
    have hrow2:sxF i=[.string NM,.int .i64 a,.string s,.int .i64 x,.int .i64 y,.int .i64 z,f,h]:=by rw[HROW.out,HNM.out]
    rw[hrow2] at HF
    have HB2:Hid (Bx w3 b0 96 zSx):=by rw[HB0.out];exact HR2.out.box
    go_wp2_with (first
     | (refine wpList_load_mid (by rfl) 96 (.tmp 5) (by rfl) m 0 (by rfl) [.string NM,.int .i64 a,.string s,.int .i64 x,.int .i64 y,.int .i64 z,f,h] _ HBX.out.range Tryz.underlying96 rfl (by kernel_rfl) ?_)
     | (refine Zg (by rfl) 96 (.tmp 2) (.tmp 16) (by rfl) zSx [.string NM,.int .i64 a,.string s,.int .i64 x,.int .i64 y,.int .i64 z,f,h] b0 (by rfl) (by rfl) HB2.out rfl (by kernel_rfl) HF.out ?_;intro u9 hb9 hg9))
    refine Q8 (b:=b0) [.string NM,.int .i64 a,.string s,.int .i64 x,.int .i64 y,.int .i64 z,f,h] (.bool true) rfl rfl rfl hb9.range Tryz.underlying96 rfl (by kernel_rfl) ⟨Or.inl ⟨i,hlt,HNM.out,HN.out,by rw[hrow2]⟩,?_⟩
    exact HR2.out.bel.trans (Yd hg9 HR2.out.bel.size (by rw[HB0.out];exact Nat.le_refl _))
   ·have hne:(NM.toList==S.toList)=false:=by
     rw[beq_eq_false_iff_ne];intro q;exact hE (bytes_inj q)
    have HNE:Hid (spN i≠S):=by rw[HNM.out];exact hE
    clear hE
    go_wp2
    refine ⟨⟨i+1,by simp,by omega,HR2,fun k hk=>?_⟩,by simp [intOf];omega⟩
    by_cases q:k<i
    ·exact HN.out k q
    ·obtain rfl:k=i:=by omega
     exact HNE.out
  ·have g1:¬ (i:Int)<52:=by omega
   have HB2:Hid (Bx wr b0 96 zSx):=by rw[HB0.out];exact HR.out.box
   have hbd:∀ w,(Instr.build 96 #[]).run Tryz.prog w=.ok (.agg #[.string ⟨#[]⟩,.int .i64 0,.string ⟨#[]⟩,.int .i64 0,.int .i64 0,.int .i64 0,.nilFunc,.nilFunc]) w:=fun w=>run_build w _ _ _ (by kernel_rfl)
   go_wp2_with (refine Zg (by rfl) 96 (.tmp 2) (.tmp 18) (by rfl) zSx zSx b0 (by rfl) (by rfl) HB2.out rfl (by kernel_rfl) (by simp [zSx,Value.oneCell']) ?_;intro u9 hb9 hg9)
   refine Q8 (b:=b0) zSx (.bool false) rfl rfl rfl hb9.range Tryz.underlying96 rfl (by kernel_rfl) ⟨Or.inr ⟨fun k hk=>HN.out k (by omega),rfl⟩,?_⟩
   exact HR.out.bel.trans (Yd hg9 HR.out.bel.size (by rw[HB0.out];exact Nat.le_refl _))
def mK (k:Nat):Nat:=[1,1,1,1,1,1,1,1,2,1,2,2,2,2,1,1,1].getD k 0
def mM (k:Nat):Nat:=[0,0,0,0,0,0,0,0,0,32,0,0,0,0,16,0,0].getD k 0
def mS (k:Nat):Nat:=[16,16,16,16,16,16,16,16,16,16,1,1,1,1,16,1,1].getD k 0
def fV (n:Nat):Value:=.func (.func n) #[] #[]
def mB (k:Nat):Value:=[.nilFunc,fV 147,fV 149,fV 150,fV 151,fV 152,fV 153,fV 154,fV 154,fV 156,fV 149,fV 150,fV 151,fV 153,fV 152,fV 149,fV 150].getD k .nilFunc
def mU (k:Nat):Nat:=[146,148,148,148,148,148,148,148,155,157,158,158,158,158,159,160,160].getD k 0
theorem Ts (k:Nat) (hk:k<17):Xc.getD k []=[.string (nmB k),.int .i64 (mK k:Nat),.int .i64 (mM k:Nat),.int .i64 (mS k:Nat),mB k,fV (mU k)]:=by
 match k,hk with
 | 0,_=>rfl
 | 1,_=>rfl
 | 2,_=>rfl
 | 3,_=>rfl
 | 4,_=>rfl
 | 5,_=>rfl
 | 6,_=>rfl
 | 7,_=>rfl
 | 8,_=>rfl
 | 9,_=>rfl
 | 10,_=>rfl
 | 11,_=>rfl
 | 12,_=>rfl
 | 13,_=>rfl
 | 14,_=>rfl
 | 15,_=>rfl
 | 16,_=>rfl
 | n+17,h=>exact absurd h (by omega)
def sxL (i k:Nat):List Value:=[.string (sxN i k),.int .i64 ((16+8*i:Nat):Int),.string (nmB k),.int .i64 (mK k:Nat),.int .i64 (mM k:Nat),.int .i64 (mS k:Nat),mB k,fV (mU k)]
theorem Mp (i k:Nat) (hk:k<17):sxF (1+17*i+k)=sxL i k:=by rw[Su i k hk,Ts k hk];rfl
theorem Km (i k:Nat) (hk:k<17):spN (1+17*i+k)=sxN i k:=by rw[spN,Mp i k hk];rfl
theorem Zas (k:Nat):(mB k).oneCell'=true:=by
 have:∀ v∈[Value.nilFunc,fV 147,fV 149,fV 150,fV 151,fV 152,fV 153,fV 154,fV 154,fV 156,fV 149,fV 150,fV 151,fV 153,fV 152,fV 149,fV 150],v.oneCell'=true:=by
  intro v hv;simp [fV] at hv;rcases hv with rfl | rfl | rfl | rfl | rfl | rfl | rfl | rfl | rfl | rfl | rfl | rfl | rfl | rfl | rfl | rfl | rfl<;>rfl
 unfold mB
 rw[List.getD_eq_getElem?_getD]
 cases h:([Value.nilFunc,fV 147,fV 149,fV 150,fV 151,fV 152,fV 153,fV 154,fV 154,fV 156,fV 149,fV 150,fV 151,fV 153,fV 152,fV 149,fV 150])[k]? with
 | none=>rfl
 | some v=>exact this v (List.mem_of_getElem? h)
def kyN:Nat→Nat
 | 0=>0
 | j+1=>mK (j%17)*(16+8*(j/17))+mM (j%17)
theorem Vp (i k:Nat) (hk:k<17):kyN (1+17*i+k)=mK k*(16+8*i)+mM k:=by
 rw[show 1+17*i+k=(17*i+k)+1 by omega,kyN,show (17*i+k)/17=i by omega,show (17*i+k)%17=k by omega]
theorem M4 (k:Nat):mK k≤2:=by
 have:∀ k,k<17→mK k≤2:=by decide
 by_cases h:k<17
 ·exact this k h
 ·unfold mK;rw[List.getD_eq_getElem?_getD,List.getElem?_eq_none (by simp;omega)];decide
theorem M3 (k:Nat):mM k≤32:=by
 have:∀ k,k<17→mM k≤32:=by decide
 by_cases h:k<17
 ·exact this k h
 ·unfold mM;rw[List.getD_eq_getElem?_getD,List.getElem?_eq_none (by simp;omega)];decide
theorem Vi (j:Nat) (hj:j<52):j=0∨∃ i k,i<3∧k<17∧j=1+17*i+k:=by
 rcases Nat.eq_zero_or_pos j with h | h
 ·exact .inl h
 ·exact .inr ⟨(j-1)/17,(j-1)%17,by omega,by omega,by omega⟩
set_option maxHeartbeats 800000 in
set_option maxRecDepth 100000 in
theorem Np (S T:ByteArray) (wd a b c:Nat) (f g:Value) (w:World) (ha:a≤2) (hw:wd≤32) (hb:b≤32) (hf:f.oneCell'=true) (hg:g.oneCell'=true) :
  Calls Tryz.prog 43 #[.agg #[.string S,.int .i64 (wd:Nat),.string T,.int .i64 (a:Nat),.int .i64 (b:Nat),.int .i64 (c:Nat),f,g]] w fun e w'=>e=.returned (.int .i64 ((a*wd+b:Nat):Int))∧Below w.heap.size w w':=by
 have h1:a*wd≤64:=Nat.le_trans (Nat.mul_le_mul ha hw) (by decide)
 have e1:IntKind.i64.wrap ((a:Int)*(wd:Int))=((a*wd:Nat):Int):=by rw[IntKind.wrap_i64];push_cast;have:=h1;omega
 have E2:Hid (wrap64 ((a:Int)*(wd:Int)+(b:Int))=((a*wd+b:Nat):Int)):=by
  show wrap64 ((a:Int)*(wd:Int)+(b:Int))=((a*wd+b:Nat):Int)
  rw[←Int.natCast_mul];unfold wrap64;omega
 have hsF:∀ u ad md,(store ad f md).run Tryz.prog u=stored Tryz.prog u ad f md:=fun u ad md=>run_store Tryz.prog u ad f md hf
 have hsG:∀ u ad md,(store ad g md).run Tryz.prog u=stored Tryz.prog u ad g md:=fun u ad md=>run_store Tryz.prog u ad g md hg
 clear ha hw hb hf hg h1
 go_enter Tryz.func43,Tryz.ntmps43
 go_wp2
 go_ret
 refine ⟨?_,(Below.refl _ _).alloc (Nat.le_refl _) _⟩
 show Ending.returned (.int .i64 (wrap64 ((a:Int)*(wd:Int)+(b:Int))))=_
 rw[E2.out]
end Go.Proofs.YtehlppaidgkpaaaGreatDoor
namespace Go.Proofs.YtehlppaidgkpaaaGreatDoor.Dg
open Go.RowKit
set_option linter.unusedVariables false
def Va:List Int:=[4794697086780616226,8158064640168781261,13096744586834688815,16840607885511220156,4131703408338449720,6480981068601479193,10538285296894168987,12329834152419229976,15566598209576043074,1334009975649890238,2608012711638119052,6128411473006802146,8268148722764581231,9286055187155687089,11230858885718282805,13951009754708518548,16472876342353939154,17275323862435702243,1135362057144423861,2597628984639134821,3308224258029322869,5365058923640841347,6679025012923562964,8573033837759648693,10970295158949994411,12119686244451234320,12683024718118986047,13788192230050041572,14330467153632333762,15395433587784984357,489312712824947311,1452737877330783856,2861767655752347644,3322285676063803686,5560940570517711597,5996557281743188959,7280758554555802590,8532644243296465576,9350256976987008742,10552545826968843579,11727347734174303076,12113106623233404929,14000437183269869457,14369950271660146224,15101387698204529176,15463397548674623760,17586052441742319658,1182934255886127544,1847814050463011016,2177327727835720531,2830643537854262169,3796741975233480872,4115178125766777443,5681478168544905931,6601373596472566643,7507060721942968483,8399075790359081724,8693463985226723168,9568029438360202098,10144078919501101548,10430055236837252648,11840083180663258601,13761210420658862357,14299343276471374635,14566680578165727644,15097957966210449927,16922976911328602910,17689382322260857208,500013540394364858,748580250866718886,1242879168328830382,1977374033974150939,2944078676154940804,3659926193048069267,4368137639120453308,4836135668995329356,5532061633213252278,6448918945643986474,6902733635092675308,7801388544844847127]
def K5:List Int:=[7640891576956012808,13503953896175478587,4354685564936845355,11912009170470909681,5840696475078001361,11170449401992604703,2270897969802886507,6620516959819538809,14680500436340154072,7105036623409894663,10473403895298186519,1526699215303891257,7436329637833083697,10282925794625328401,15784041429090275239,5167115440072839076]
def Zp (t:Nat):Int:=Va.getD t 0
def K6 (t:Nat):Int:=K5.getD t 0
structure Tables (w:World):Prop where
 cubes:∀ t,t<80→w.cell? ⟨5,t,none⟩=some (.int .u64 (Zp t))
 roots:∀ t,t<16→w.cell? ⟨4,t,none⟩=some (.int .u64 (K6 t))
theorem Tables.kept {w w':World} (h:Tables w) (hb:∀ k,k<6→w'.heap[k]?=w.heap[k]?):Tables w':=
 ⟨fun t ht=>by rw[World.cell?_of_block (w:=w) (hb 5 (by omega))];exact h.cubes t ht,fun t ht=>by rw[World.cell?_of_block (w:=w) (hb 4 (by omega))];exact h.roots t ht⟩
theorem Tables.size {w:World} (h:Tables w):6≤w.heap.size:=lt_of_cell (h.cubes 0 (by omega))
theorem Tables.below {w w':World} {B:Nat} (h:Tables w) (b:Below B w w') (hB:6≤B):Tables w':=h.kept fun k hk=>b.block k (by omega)
theorem Tables.touch {w w':World} {g o n:Nat} (h:Tables w) (b:Touch w w' g o n) (hg:6≤g):Tables w':=h.kept fun k hk=>b.block k (by have:=h.size;omega) (by omega)
def bsz (wd:Bool):Nat:=if wd then 128 else 64
def Za2 (wd:Bool):FuncId:=if wd then 93 else 92
def fnV (wd:Bool):Value:=.func (.func (Za2 wd)) #[] #[]
def TT (wd:Bool) (B:Nat→Int) (s:Zb) (n:Nat):Zb:=if wd then Xy Zp B s n else Z7 Zp B s n
theorem Lc (wd:Bool):0<bsz wd:=by cases wd<;>decide
theorem Gp (wd:Bool) (B:Nat→Int) (s:Zb):TT wd B s 0=s:=by cases wd<;>rfl
theorem Xp {B B' : Nat → Int} (h : ∀ j, j < 64 → B j = B' j) : ∀ n t, t < n → t < 64 → Zi B t = Zi B' t
  | 0, t, h0, _ => by omega
  | n + 1, t, h0, h1 => by
    rw [Zi.eq_def B t, Zi.eq_def B' t]
    by_cases h16 : t < 16
    · rw [if_pos h16, if_pos h16]
      simp only [Hs]
      rw [h (4 * t) (by omega), h (4 * t + 1) (by omega), h (4 * t + 2) (by omega), h (4 * t + 3) (by omega)]
    · rw [if_neg h16, if_neg h16, Xp h n (t - 2) (by omega) (by omega), Xp h n (t - 7) (by omega) (by omega), Xp h n (t - 15) (by omega) (by omega), Xp h n (t - 16) (by omega) (by omega)]
theorem J8 {C W W':Nat→Int} (s:Zb):∀ n,(∀ t,t<n→W t=W' t)→Yo C W n s=Yo C W' n s
 | 0,_=>rfl
 | n+1,h=>by rw[Yo,Yo,J8 s n (fun t ht=>h t (by omega)),h n (by omega)]
theorem Kw {C B B':Nat→Int} (s:Zb) (h:∀ j,j<64→B j=B' j):Xs C B s=Xs C B' s:=by
 rw[Xs,Xs,J8 _ 64 (fun t ht=>Xp h 64 t ht ht)]
theorem Vn {B B':Nat→Int} (t:Nat):∀ k,(∀ j,j<k→B (8*t+j)=B' (8*t+j))→Ka B t k=Ka B' t k
 | 0,_=>rfl
 | k+1,h=>by rw[Ka,Ka,Vn t k (fun j hj=>h j (by omega)),h k (by omega)]
theorem Xo {B B' : Nat → Int} (h : ∀ j, j < 128 → B j = B' j) : ∀ n t, t < n → t < 80 → Zs B t = Zs B' t
  | 0, t, h0, _ => by omega
  | n + 1, t, h0, h1 => by
    rw [Zs.eq_def B t, Zs.eq_def B' t]
    by_cases h16 : t < 16
    · rw [if_pos h16, if_pos h16, Vn t 8 (fun j hj => h _ (by omega))]
    · rw [if_neg h16, if_neg h16, Xo h n (t - 2) (by omega) (by omega), Xo h n (t - 7) (by omega) (by omega), Xo h n (t - 15) (by omega) (by omega), Xo h n (t - 16) (by omega) (by omega)]
theorem J7 {C W W':Nat→Int} (s:Zb):∀ n,(∀ t,t<n→W t=W' t)→X1 C W n s=X1 C W' n s
 | 0,_=>rfl
 | n+1,h=>by rw[X1,X1,J7 s n (fun t ht=>h t (by omega)),h n (by omega)]
theorem Kv {C B B':Nat→Int} (s:Zb) (h:∀ j,j<128→B j=B' j):Vv C B s=Vv C B' s:=by
 rw[Vv,Vv,J7 _ 80 (fun t ht=>Xo h 80 t ht ht)]
theorem Y7 (wd : Bool) {B B' : Nat → Int} (s : Zb) : ∀ n, (∀ j, j < bsz wd * n → B j = B' j) → TT wd B s n = TT wd B' s n
  | 0, _ => by rw [Gp, Gp]
  | n + 1, h => by
    have ih := Y7 wd s n (B := B) (B' := B') (fun j hj => h j (by rw [Nat.mul_succ]; omega))
    cases wd
    · simp only [TT, bsz, Bool.false_eq_true, if_false] at ih h ⊢
      rw [Z7, Z7, ih]
      exact Kw _ fun j hj => h _ (by omega)
    · simp only [TT, bsz, if_true] at ih h ⊢
      rw [Xy, Xy, ih]
      exact Kv _ fun j hj => h _ (by omega)
theorem Wl (wd : Bool) (B : Nat → Int) (s : Zb) (i : Nat) : ∀ j, TT wd B s (i + j) = TT wd (fun k => B (bsz wd * i + k)) (TT wd B s i) j
  | 0 => by rw [Gp]; rfl
  | j + 1 => by
    have ih := Wl wd B s i j
    cases wd
    · simp only [TT, bsz, Bool.false_eq_true, if_false] at ih ⊢
      rw [← Nat.add_assoc, Z7, Z7, ← ih]
      exact Kw _ fun k hk => by rw [Nat.mul_add, Nat.add_assoc]
    · simp only [TT, bsz, if_true] at ih ⊢
      rw [← Nat.add_assoc, Xy, Xy, ← ih]
      exact Kv _ fun k hk => by rw [Nat.mul_add, Nat.add_assoc]
set_option maxHeartbeats 400000 in
theorem Kb (a:Value) (p:Option Addr) (cap:Nat) (w:World) :
  Calls Tryz.prog 92 #[a,.slice p 0 cap] w fun e w'=>e=.returned (.tuple #[])∧Below w.heap.size w w':=by
 have hb:Hid (∀ o,Below w.heap.size w (w.alloc o)):=fun o=>(Below.refl _ _).alloc (Nat.le_refl _) o
 go_enter Tryz.func92,Tryz.ntmps92
 go_wp2
 go_loop [1] (fun v=>v=.slice p 0 cap) (fun _=>0)
 case atStart=>exact rfl
 case round=>
  obtain rfl:=hrel
  go_wp2
  go_end0
  exact ⟨rfl,hb.out _⟩
set_option maxHeartbeats 400000 in
theorem Ll (a:Value) (p:Option Addr) (cap:Nat) (w:World) :
  Calls Tryz.prog 93 #[a,.slice p 0 cap] w fun e w'=>e=.returned (.tuple #[])∧Below w.heap.size w w':=by
 have hb:Hid (∀ o,Below w.heap.size w (w.alloc o)):=fun o=>(Below.refl _ _).alloc (Nat.le_refl _) o
 go_enter Tryz.func93,Tryz.ntmps93
 go_wp2
 go_loop [1] (fun v=>v=.slice p 0 cap) (fun _=>0)
 case atStart=>exact rfl
 case round=>
  obtain rfl:=hrel
  go_wp2
  go_end0
  exact ⟨rfl,hb.out _⟩
def Apart (v:Value) (g o n:Nat):Prop:=∀ b off l c,v=.slice (some ⟨b,off,none⟩) l c→b≠g∨off+l≤o∨o+n≤off
theorem Qe {w w':World} {g o:Nat} {cs:List Value} (h:w.rangeAt g o cs) (b:Below w.heap.size w w') (hg:g<w.heap.size):w'.rangeAt g o cs:=fun j v hv=>by
 rw[b.cell (p:=⟨g,o+j,none⟩) hg]
 exact h j v hv
theorem Zb5 (wd:Bool) (g o:Nat) (v:Value) (zs:List Int) (s:Zb) (w:World) (hg:g<w.heap.size) (hr:w.rangeAt g o s.cells) (ht:w.there g o 8) (hv:Zf w v zs) (hsep:Apart v g o 8) (hT:Tables w) (hg3:6≤g) :
  Calls Tryz.prog (Za2 wd) #[.pointer (some ⟨g,o,none⟩),v] w fun e w'=>e=.returned (.tuple #[])∧Touch w w' g o 8∧w'.rangeAt g o (TT wd (fun i=>zs.getD i 0) s (zs.length/bsz wd)).cells:=by
 obtain ⟨a,cap,rfl,h1,h2,h3,h4⟩:=hv
 rcases h4 with rfl | ⟨b,p,rfl,hc⟩
 ·cases wd
  ·refine (Kb _ a cap w).mono ?_
   rintro e w' ⟨rfl,hb⟩
   exact ⟨rfl,(Touch.refl _ _ _ _).below hb hg,Qe hr hb hg⟩
  ·refine (Ll _ a cap w).mono ?_
   rintro e w' ⟨rfl,hb⟩
   exact ⟨rfl,(Touch.refl _ _ _ _).below hb hg,Qe hr hb hg⟩
 ·have hs:=hsep _ _ _ _ rfl
  cases wd
  ·exact Wr g o b p zs.length cap s Zp (fun i=>zs.getD i 0) w hg h1 h2 hr ht hc hs (fun t ht=>hT.cubes t (by omega)) (by omega)
  ·exact Lm g o b p zs.length cap s Zp (fun i=>zs.getD i 0) w hg h1 h2 hr ht hc hs hT.cubes (by omega)
theorem Jh (wd:Bool) (hwd:wd=false) (g o:Nat) (v:Value) (zs:List Int) (s:Zb) (w:World) (hg:g<w.heap.size) (hr:w.rangeAt g o s.cells) (ht:w.there g o 8) (hv:Zf w v zs) (hsep:Apart v g o 8) (hT:Tables w) (hg3:6≤g) :
  Calls Tryz.prog (Za2 wd) #[.pointer (some ⟨g,o,none⟩),v] w fun e w'=>e=.returned (.tuple #[])∧Touch w w' g o 8∧w'.rangeAt g o (TT wd (fun i=>zs.getD i 0) s (zs.length/bsz wd)).cells:=by
 obtain ⟨a,cap,rfl,h1,h2,h3,h4⟩:=hv
 rcases h4 with rfl | ⟨b,p,rfl,hc⟩
 ·cases wd
  ·refine (Kb _ a cap w).mono ?_
   rintro e w' ⟨rfl,hb⟩
   exact ⟨rfl,(Touch.refl _ _ _ _).below hb hg,Qe hr hb hg⟩
  ·exact absurd hwd (by decide)
 ·have hs:=hsep _ _ _ _ rfl
  cases wd
  ·exact Wr g o b p zs.length cap s Zp (fun i=>zs.getD i 0) w hg h1 h2 hr ht hc hs (fun t ht=>hT.cubes t (by omega)) (by omega)
  ·exact absurd hwd (by decide)
end Go.Proofs.YtehlppaidgkpaaaGreatDoor.Dg
namespace Go.Proofs.YtehlppaidgkpaaaGreatDoor
open Go.RowKit
set_option linter.unusedVariables false
theorem Zcp (i:Nat) (hi:i<3):nsB i=(⟨#[97,101,115]⟩:ByteArray)++itB i++(⟨#[45]⟩:ByteArray):=by
 rcases (show i=0∨i=1∨i=2 by omega) with rfl | rfl | rfl<;>simp [nsB,itB,Lib.itoa,Lib.decDigits,ByteArray.mk_append_mk]
def rM (k:Nat):ByteArray:=([⟨#[101,99,98]⟩,⟨#[99,98,99]⟩,⟨#[99,98,99]⟩,⟨#[99,98,99]⟩,⟨#[99,98,99]⟩,⟨#[99,98,99]⟩,⟨#[99,98,99]⟩,⟨#[99,98,99]⟩,⟨#[101,108,101,112,104,97,110,116]⟩,⟨#[116,99,119]⟩,⟨#[120,116,115]⟩,⟨#[120,116,115]⟩,⟨#[120,116,115]⟩,⟨#[120,116,115]⟩,⟨#[108,114,119]⟩,⟨#[104,99,116,114,50]⟩,⟨#[104,99,116,114,50]⟩]:List ByteArray).getD k ⟨#[]⟩
def rS (k:Nat):ByteArray:=([⟨#[]⟩,⟨#[110,117,108,108]⟩,⟨#[112,108,97,105,110]⟩,⟨#[112,108,97,105,110,54,52]⟩,⟨#[112,108,97,105,110,54,52,98,101]⟩,⟨#[98,101,110,98,105]⟩,⟨#[101,115,115,105,118]⟩,⟨#[101,98,111,105,118]⟩,⟨#[101,98,111,105,118]⟩,⟨#[116,99,119]⟩,⟨#[112,108,97,105,110]⟩,⟨#[112,108,97,105,110,54,52]⟩,⟨#[112,108,97,105,110,54,52,98,101]⟩,⟨#[101,115,115,105,118]⟩,⟨#[98,101,110,98,105]⟩,⟨#[112,108,97,105,110]⟩,⟨#[112,108,97,105,110,54,52]⟩]:List ByteArray).getD k ⟨#[]⟩
def rwL (i k:Nat):List Value:=[.string (sxN i k),.string (rM k),.string (rS k),.int .i64 ((16+8*i:Nat):Int),.int .i64 ((mK k*(16+8*i)+mM k:Nat):Int)]
theorem Ek (i k : Nat) (hk : k < 17) : rwS i k = [.string (rM k), .string (rS k), .int .i64 ((16 + 8 * i : Nat) : Int), .int .i64 ((mK k * (16 + 8 * i) + mM k : Nat) : Int)] := by
  match k, hk with
  | 0, _ =>
    refine (Y3 (i := i) (k := 0) (mo := 0) (AES := ((16 + 8 * i : Nat) : Int)) rfl rfl rfl).trans ?_
    congr 4 <;> (have e1 : mK 0 = 1 := rfl; have e2 : mM 0 = 0 := rfl; rw [e1, e2]; simp; try omega)
  | 1, _ =>
    refine (Y3 (i := i) (k := 1) (mo := 0) (AES := ((16 + 8 * i : Nat) : Int)) rfl rfl rfl).trans ?_
    congr 4 <;> (have e1 : mK 1 = 1 := rfl; have e2 : mM 1 = 0 := rfl; rw [e1, e2]; simp; try omega)
  | 2, _ =>
    refine (Y3 (i := i) (k := 2) (mo := 0) (AES := ((16 + 8 * i : Nat) : Int)) rfl rfl rfl).trans ?_
    congr 4 <;> (have e1 : mK 2 = 1 := rfl; have e2 : mM 2 = 0 := rfl; rw [e1, e2]; simp; try omega)
  | 3, _ =>
    refine (Y3 (i := i) (k := 3) (mo := 0) (AES := ((16 + 8 * i : Nat) : Int)) rfl rfl rfl).trans ?_
    congr 4 <;> (have e1 : mK 3 = 1 := rfl; have e2 : mM 3 = 0 := rfl; rw [e1, e2]; simp; try omega)
  | 4, _ =>
    refine (Y3 (i := i) (k := 4) (mo := 0) (AES := ((16 + 8 * i : Nat) : Int)) rfl rfl rfl).trans ?_
    congr 4 <;> (have e1 : mK 4 = 1 := rfl; have e2 : mM 4 = 0 := rfl; rw [e1, e2]; simp; try omega)
  | 5, _ =>
    refine (Y3 (i := i) (k := 5) (mo := 0) (AES := ((16 + 8 * i : Nat) : Int)) rfl rfl rfl).trans ?_
    congr 4 <;> (have e1 : mK 5 = 1 := rfl; have e2 : mM 5 = 0 := rfl; rw [e1, e2]; simp; try omega)
  | 6, _ =>
    refine (Y3 (i := i) (k := 6) (mo := 0) (AES := ((16 + 8 * i : Nat) : Int)) rfl rfl rfl).trans ?_
    congr 4 <;> (have e1 : mK 6 = 1 := rfl; have e2 : mM 6 = 0 := rfl; rw [e1, e2]; simp; try omega)
  | 7, _ =>
    refine (Y3 (i := i) (k := 7) (mo := 0) (AES := ((16 + 8 * i : Nat) : Int)) rfl rfl rfl).trans ?_
    congr 4 <;> (have e1 : mK 7 = 1 := rfl; have e2 : mM 7 = 0 := rfl; rw [e1, e2]; simp; try omega)
  | 8, _ =>
    refine (Y3 (i := i) (k := 8) (mo := -1) (AES := ((16 + 8 * i : Nat) : Int)) rfl rfl rfl).trans ?_
    congr 4 <;> (have e1 : mK 8 = 2 := rfl; have e2 : mM 8 = 0 := rfl; rw [e1, e2]; simp; try omega)
  | 9, _ =>
    refine (Y3 (i := i) (k := 9) (mo := 32) (AES := ((16 + 8 * i : Nat) : Int)) rfl rfl rfl).trans ?_
    congr 4 <;> (have e1 : mK 9 = 1 := rfl; have e2 : mM 9 = 32 := rfl; rw [e1, e2]; simp; try omega)
  | 10, _ =>
    refine (Y3 (i := i) (k := 10) (mo := -1) (AES := ((16 + 8 * i : Nat) : Int)) rfl rfl rfl).trans ?_
    congr 4 <;> (have e1 : mK 10 = 2 := rfl; have e2 : mM 10 = 0 := rfl; rw [e1, e2]; simp; try omega)
  | 11, _ =>
    refine (Y3 (i := i) (k := 11) (mo := -1) (AES := ((16 + 8 * i : Nat) : Int)) rfl rfl rfl).trans ?_
    congr 4 <;> (have e1 : mK 11 = 2 := rfl; have e2 : mM 11 = 0 := rfl; rw [e1, e2]; simp; try omega)
  | 12, _ =>
    refine (Y3 (i := i) (k := 12) (mo := -1) (AES := ((16 + 8 * i : Nat) : Int)) rfl rfl rfl).trans ?_
    congr 4 <;> (have e1 : mK 12 = 2 := rfl; have e2 : mM 12 = 0 := rfl; rw [e1, e2]; simp; try omega)
  | 13, _ =>
    refine (Y3 (i := i) (k := 13) (mo := -1) (AES := ((16 + 8 * i : Nat) : Int)) rfl rfl rfl).trans ?_
    congr 4 <;> (have e1 : mK 13 = 2 := rfl; have e2 : mM 13 = 0 := rfl; rw [e1, e2]; simp; try omega)
  | 14, _ =>
    refine (Y3 (i := i) (k := 14) (mo := 16) (AES := ((16 + 8 * i : Nat) : Int)) rfl rfl rfl).trans ?_
    congr 4 <;> (have e1 : mK 14 = 1 := rfl; have e2 : mM 14 = 16 := rfl; rw [e1, e2]; simp; try omega)
  | 15, _ =>
    refine (Y3 (i := i) (k := 15) (mo := 0) (AES := ((16 + 8 * i : Nat) : Int)) rfl rfl rfl).trans ?_
    congr 4 <;> (have e1 : mK 15 = 1 := rfl; have e2 : mM 15 = 0 := rfl; rw [e1, e2]; simp; try omega)
  | 16, _ =>
    refine (Y3 (i := i) (k := 16) (mo := 0) (AES := ((16 + 8 * i : Nat) : Int)) rfl rfl rfl).trans ?_
    congr 4 <;> (have e1 : mK 16 = 1 := rfl; have e2 : mM 16 = 0 := rfl; rw [e1, e2]; simp; try omega)
  | n + 17, h => exact absurd h (by omega)
theorem Dc (i k:Nat) (hi:i<3) (hk:k<17):rwF (1+17*i+k)=rwL i k:=by
 rw[B5 i k hk,Ek i k hk,Zcp i hi];rfl
def zRw:List Value:=[.string ⟨#[]⟩,.string ⟨#[]⟩,.string ⟨#[]⟩,.int .i64 0,.int .i64 0]
theorem S5 (j:Nat) (hj:j<52):∃ (M S:ByteArray) (a s:Int),rwF j=[.string (spN j),.string M,.string S,.int .i64 a,.int .i64 s]:=by
 rcases Vi j hj with rfl | ⟨i,k,hi,hk,rfl⟩
 ·exact ⟨_,_,_,_,rfl⟩
 ·rw[Dc i k hi hk,Km i k hk];exact ⟨_,_,_,_,rfl⟩
def Zda (S:ByteArray) (w0:World) (e:Ending) (w':World):Prop:=
 ((∃ j,j<52∧spN j=S∧(∀ i,i<j→spN i≠S)∧e=.returned (.tuple #[.agg (rwF j).toArray,.bool true]))∨((∀ i,i<52→spN i≠S)∧e=.returned (.tuple #[.agg zRw.toArray,.bool false])))∧Below w0.heap.size w0 w'
structure FrI (w0 w1 w2 wr:World) (g cap:Nat):Prop where
 own:w2.ownsRow w1.heap.size 59 5 (.slice (some ⟨g,0,none⟩) 52 cap) 52 (fl rwF 52)
 b2:Below w1.heap.size w1 w2
 br:Below w2.heap.size w2 wr
 w1:w1=w0.alloc (.cells zRw.toArray 59)
theorem FrI.box {w0 w1 w2 wr:World} {g cap:Nat} (h:FrI w0 w1 w2 wr g cap):Bx wr w0.heap.size 59 zRw:=by
 have e1:w1.heap[w0.heap.size]?=some (.cells zRw.toArray 59 (0,0)):=by rw[h.w1];exact heap_alloc_new w0 _
 have l1:w0.heap.size<w1.heap.size:=by rw[h.w1];simp
 unfold Bx
 rw[h.br.block _ (Nat.lt_of_lt_of_le l1 h.b2.size),h.b2.block _ l1,e1]
theorem FrI.bel {w0 w1 w2 wr:World} {g cap:Nat} (h:FrI w0 w1 w2 wr g cap):Below w0.heap.size w0 wr:=by
 have b0:Below w0.heap.size w0 w1:=by rw[h.w1];exact (Below.refl _ _).alloc (Nat.le_refl _) _
 have b1:=b0.trans (h.b2.mono b0.size)
 exact b1.trans (h.br.mono b1.size)
theorem rwc {w1 w2 wr:World} {g cap i j:Nat} (h:w2.ownsRow w1.heap.size 59 5 (.slice (some ⟨g,0,none⟩) 52 cap) 52 (fl rwF 52)) (b:Below w2.heap.size w2 wr) (hi:i<52) (hj:j<5):wr.cell? ⟨g,i*5+j,none⟩=(rwF i)[j]?:=by
 have hlt:=(Zy h (g:=g) rfl).2
 rw[b.cell (p:=⟨g,i*5+j,none⟩) hlt]
 have e:=Uf rwF 5 Mx 52 i j hi hj
 have hx:j<(rwF i).length:=by rw[Mx];exact hj
 rw[List.getElem?_eq_getElem hx] at e ⊢
 have q:=World.ownsRow.cells h (g:=g) rfl (i*5+j) _ e
 rw[Addr.add_lit,Nat.zero_add] at q
 exact q
set_option maxHeartbeats 3200000 in
set_option maxRecDepth 100000 in
theorem Tc (S:ByteArray) (w0:World) (G o cp:Nat) (hD:Vc w0 G o cp):Calls Tryz.prog 46 #[.string S] w0 fun e w'=>Zda S w0 e w':=by
 obtain ⟨w1,hw1⟩:∃ w1,w1=w0.alloc (.cells zRw.toArray 59):=⟨_,rfl⟩
 have HT1:Hid (Vc w1 G o cp):=by rw[hw1];exact hD.below ((Below.refl _ _).alloc (Nat.le_refl _) _)
 have HW1:Hid (w1=w0.alloc (.cells zRw.toArray 59)):=hw1
 clear hD
 have H45:Hid (Calls Tryz.prog 45 #[] (w0.alloc (.cells #[.string ⟨#[]⟩,.string ⟨#[]⟩,.string ⟨#[]⟩,.int .i64 0,.int .i64 0] 59)) fun e w'=>Hid (∃ g cap,e=.returned (.slice (some ⟨g,0,none⟩) 52 cap)∧FrI w0 w1 w' w' g cap)):=by
  have q:=rows_ok w1 G o cp HT1.out
  rw[hw1] at q
  refine q.mono ?_
  rintro e w2 hh
  obtain ⟨g,cap,rfl,ho,hb⟩:=hh.out
  exact ⟨g,cap,rfl,by rw[hw1];exact ho,by rw[hw1];exact hb,Below.refl _ _,hw1⟩
 clear hw1 HT1
 go_enter Tryz.func46,Tryz.ntmps46
 go_wp2_with (go_at_call 45;refine H45.out.mono ?_;intro e1 w2 hh;obtain ⟨g,cap,rfl,hI⟩:=hh.out;have HI:Hid (FrI w0 w1 w2 w2 g cap):=hI;clear hh hI H45)
 obtain ⟨b0,hb0⟩:∃ b0,b0=w0.heap.size:=⟨_,rfl⟩
 have HB0:Hid (b0=w0.heap.size):=hb0
 rw[←hb0]
 clear hb0
 go_loopw [5] (fun vi wr=>∃ i:Nat,vi=.int .i64 (i:Nat)∧i≤52∧Hid (FrI w0 w1 w2 wr g cap)∧Hid (∀ k,k<i→spN k≠S)) (fun vi _=>52-(intOf vi).toNat)
 case atStart=>exact ⟨0,rfl,by omega,HI,fun k hk=>by omega⟩
 case round=>
  obtain ⟨i,rfl,hi,HR,HN⟩:=hrel
  clear HI
  by_cases hlt:i<52
  ·obtain ⟨M,T,a,s,hrow⟩:=S5 i hlt
   have HROW:Hid (rwF i=[.string (spN i),.string M,.string T,.int .i64 a,.int .i64 s]):=hrow
   have g0:(0:Int)≤(i:Int):=by omega
   have g1:(i:Int)<52:=by omega
   obtain ⟨NM,HNM⟩:∃ q,Hid (spN i=q):=⟨_,rfl⟩
   rw[HNM.out] at hrow
   have cs:∀ j,j<5→wr.cell? ⟨g,i*5+j,none⟩=(rwF i)[j]?:=fun j hj=>rwc HR.out.own HR.out.br hlt hj
   rw[hrow] at cs
   have c0:=cs 0 (by decide)
   have c1:=cs 1 (by decide)
   have c2:=cs 2 (by decide)
   have c3:=cs 3 (by decide)
   have c4:=cs 4 (by decide)
   clear cs hrow
   simp only[List.getElem?_cons_zero,List.getElem?_cons_succ,Nat.add_zero] at c0 c1 c2 c3 c4
   by_cases hE:NM=S
   ·subst hE
    have hrow2:rwF i=[.string NM,.string M,.string T,.int .i64 a,.int .i64 s]:=by rw[HROW.out,HNM.out]
    have HRW:Hid (rwF i=[.string NM,.string M,.string T,.int .i64 a,.int .i64 s]):=hrow2
    clear hrow2
    have HB2:Hid (Bx wr b0 59 zRw):=by rw[HB0.out];exact HR.out.box
    go_wp2_with (refine Zg (by rfl) 59 (.tmp 2) (.tmp 23) (by rfl) zRw [.string NM,.string M,.string T,.int .i64 a,.int .i64 s] b0 (by rfl) (by rfl) HB2.out rfl (by kernel_rfl) (by simp [Value.oneCell']) ?_;intro u9 hb9 hg9)
    refine Q8 (b:=b0) [.string NM,.string M,.string T,.int .i64 a,.int .i64 s] (.bool true) rfl rfl rfl hb9.range Tryz.underlying59 rfl (by kernel_rfl) ⟨Or.inl ⟨i,hlt,HNM.out,HN.out,by rw[HRW.out]⟩,?_⟩
    exact HR.out.bel.trans (Yd hg9 HR.out.bel.size (by rw[HB0.out];exact Nat.le_refl _))
   ·have hne:(NM.toList==S.toList)=false:=by
     rw[beq_eq_false_iff_ne];intro q;exact hE (bytes_inj q)
    have HNE:Hid (spN i≠S):=by rw[HNM.out];exact hE
    clear hE
    go_wp2
    refine ⟨⟨i+1,by simp,by omega,HR,fun k hk=>?_⟩,by simp [intOf];omega⟩
    by_cases q:k<i
    ·exact HN.out k q
    ·obtain rfl:k=i:=by omega
     exact HNE.out
  ·have g1:¬ (i:Int)<52:=by omega
   have HB2:Hid (Bx wr b0 59 zRw):=by rw[HB0.out];exact HR.out.box
   have hbd:∀ w,(Instr.build 59 #[]).run Tryz.prog w=.ok (.agg #[.string ⟨#[]⟩,.string ⟨#[]⟩,.string ⟨#[]⟩,.int .i64 0,.int .i64 0]) w:=fun w=>run_build w _ _ _ (by kernel_rfl)
   go_wp2_with (refine Zg (by rfl) 59 (.tmp 2) (.tmp 24) (by rfl) zRw zRw b0 (by rfl) (by rfl) HB2.out rfl (by kernel_rfl) (by simp [zRw,Value.oneCell']) ?_;intro u9 hb9 hg9)
   refine Q8 (b:=b0) zRw (.bool false) rfl rfl rfl hb9.range Tryz.underlying59 rfl (by kernel_rfl) ⟨Or.inr ⟨fun k hk=>HN.out k (by omega),rfl⟩,?_⟩
   exact HR.out.bel.trans (Yd hg9 HR.out.bel.size (by rw[HB0.out];exact Nat.le_refl _))
end Go.Proofs.YtehlppaidgkpaaaGreatDoor
