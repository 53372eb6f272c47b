import Derived.Test.YtehlppaidgkpaaaGreatDoorPart23
namespace Go.Proofs.YtehlppaidgkpaaaGreatDoor
open Go.RowKit
set_option linter.unusedVariables false
def RC (w:World):Prop:=∀ i,i<10→w.cell? ⟨1,i,none⟩=some (.int .u8 (rcT i:Nat))
theorem Qu:(Tryz.prog.info? 121).map (·.size)=some 1085:=by kernel_rfl
theorem Q9:Tryz.zeroCells121.size=1085:=by kernel_rfl
theorem Vn (x:Int):(Tryz.zeroCells121.setIfInBounds 0 (.int .i64 x)).size=1085:=by rw[Array.size_setIfInBounds];exact Q9
theorem Uj:Tryz.zeroCells121.toList.all (·.oneCell')=true:=by kernel_rfl
theorem Tx (x:Int):(Tryz.zeroCells121.setIfInBounds 0 (.int .i64 x)).all (·.oneCell')=true:=by
 refine Array.all_eq_true_iff_forall_mem.2 (fun v hv=>?_)
 rcases Array.mem_or_eq_of_mem_setIfInBounds hv with h | h
 ·exact List.all_eq_true.1 Uj v (by simpa using h)
 ·rw[h];rfl
theorem Nq:Tryz.zeroCells121.toList.take 61=.int .i64 0::List.replicate 60 (.int .u32 0):=by kernel_rfl
theorem Ic (x:Int) (j:Nat) (h:j<60):(Tryz.zeroCells121.setIfInBounds 0 (.int .i64 x))[1+j]?=some (.int .u32 0):=by
 rw[Array.getElem?_setIfInBounds_ne (by omega),←Array.getElem?_toList]
 have h1:=congrArg (fun l=>l[j+1]?) Nq
 simp only[List.getElem?_take_of_lt (show j+1<61 by omega),List.getElem?_cons_succ,List.getElem?_replicate,if_pos h] at h1
 rw[Nat.add_comm 1 j]
 exact h1
theorem Lx (x:Int):(Tryz.zeroCells121.setIfInBounds 0 (.int .i64 x))[0]?=some (.int .i64 x):=by
 rw[Array.getElem?_setIfInBounds_self_of_lt (by rw[Q9];decide)]
theorem S3 (w:World) (nr:Nat):Qm w nr (fun _=>0) (((w.alloc (.cells Tryz.zeroCells121 121)).alloc (.cells Tryz.zeroCells121 121)).setCells (w.heap.size+1) 0 (Tryz.zeroCells121.setIfInBounds 0 (.int .i64 (nr:Nat))).toList):=by
 have hb:=(Xx w Tryz.zeroCells121 Tryz.zeroCells121 121 121)
 have h2:=Zf (w.alloc (.cells Tryz.zeroCells121 121)) Tryz.zeroCells121 121 1085 (by rw[Q9];exact Nat.le_refl _)
 have h2':((w.alloc (.cells Tryz.zeroCells121 121)).alloc (.cells Tryz.zeroCells121 121)).there (w.heap.size+1) 0 1085:=by simpa using h2
 have h1:((w.alloc (.cells Tryz.zeroCells121 121)).alloc (.cells Tryz.zeroCells121 121)).there w.heap.size 0 1085:=World.there_alloc (Zf w Tryz.zeroCells121 121 1085 (by rw[Q9];exact Nat.le_refl _)) _
 have hl:(Tryz.zeroCells121.setIfInBounds 0 (.int .i64 (nr:Nat))).toList.length=1085:=by rw[Array.length_toList];exact Vn _
 have hr:=World.rangeAt_setCells_same ((w.alloc (.cells Tryz.zeroCells121 121)).alloc (.cells Tryz.zeroCells121 121)) (w.heap.size+1) 0 (Tryz.zeroCells121.setIfInBounds 0 (.int .i64 (nr:Nat))).toList (by rw[hl];exact h2')
 refine ⟨Zb _ (Nat.le_succ _) _ _ _ hb.1,by rw[Yf];simp,World.there_setCells h1 _ _ _,World.there_setCells h2' _ _ _,?_,fun j hj=>?_⟩
 ·exact hr 0 _ (by rw[Array.getElem?_toList];exact Lx _)
 ·have:=hr (1+j) _ (by rw[Array.getElem?_toList];exact Ic _ j hj)
  rw[Nat.zero_add] at this
  exact this
theorem V1 {w u:World} {nr nk m ii v:Nat} {K0:Nat→Nat} (h:Qm w nr (goW nk K0 m) u∧Tab u (w.heap.size+1) 0) (hi:ii=nk+m) (h60:ii<60) (x:Int) (hx:x=(v:Nat)) (hv:v=Ga nk (nk+m) (goW nk K0 m)) :
  Qm w nr (goW nk K0 (m+1)) (u.setCell ⟨w.heap.size+1,1+ii,none⟩ (.int .u32 x))∧Tab (u.setCell ⟨w.heap.size+1,1+ii,none⟩ (.int .u32 x)) (w.heap.size+1) 0:=by
 subst hx hi
 refine ⟨?_,h.2.set _ (by omega)⟩
 have:=h.1.set (nk+m) v h60
 rw[hv] at this ⊢
 exact this
set_option maxHeartbeats 6400000 in
set_option maxRecDepth 100000 in
theorem U3 (kb ko n cap nk:Nat) (key:Nat→Nat) (w:World) (hnk:nk=4∨nk=6∨nk=8) (hn:n=4*nk) (hkb:kb<w.heap.size) (hcell:∀ i,i<n→w.cell? ⟨kb,ko+i,none⟩=some (.int .u8 (key i:Nat))) (hkey:∀ i,key i<256) (hrc:RC w) (hpos:1<w.heap.size) :
  Calls Tryz.prog 52 #[.slice (some ⟨kb,ko,none⟩) n cap] w fun e w'=>e=.returned (.agg (Wz (nk+6) (Z6 nk key)).toArray)∧Below w.heap.size w w':=by
 have HK:Hid (nk=4∨nk=6∨nk=8):=hnk
 have HN:Hid (n=4*nk):=hn
 have HCELL:Hid (∀ i,i<n→w.cell? ⟨kb,ko+i,none⟩=some (.int .u8 (key i:Nat))):=hcell
 have HKEY:Hid (∀ i,key i<256):=hkey
 have HRC:Hid (RC w):=hrc
 have HPOS:Hid (1<w.heap.size):=hpos
 have HKB:Hid (kb<w.heap.size):=hkb
 have hq:((n:Int)).tdiv 4=(nk:Nat):=by rw[Int.tdiv_eq_ediv_of_nonneg (by omega)];omega
 have hnk8:(nk:Int)≤8:=by omega
 have HST:=S3 w (nk+6)
 have HSt:Hid (Qm w (nk+6) (fun _=>0) (((w.alloc (.cells Tryz.zeroCells121 121)).alloc (.cells Tryz.zeroCells121 121)).setCells (w.heap.size+1) 0 (Tryz.zeroCells121.setIfInBounds 0 (.int .i64 ((nk:Int)+6))).toList)):=by
  have:=HST
  rw[show (((nk+6:Nat)):Int)=(nk:Int)+6 by omega] at this
  exact this
 have HT1:Hid (((w.alloc (.cells Tryz.zeroCells121 121)).alloc (.cells Tryz.zeroCells121 121)).there (w.heap.size+1) 0 1085):=by
  have h2:=Zf (w.alloc (.cells Tryz.zeroCells121 121)) Tryz.zeroCells121 121 1085 (by rw[Q9];exact Nat.le_refl _)
  show World.there _ _ _ _
  simpa using h2
 clear HST hnk hn hcell hkey hrc hpos hkb
 go_enter Tryz.func52,Tryz.ntmps52
 go_upto_region 3 with (first
  | (refine wpList_store_mid (by rfl) 121 (.tmp 4) (.tmp 14) (by rfl) (w.heap.size+1) 0 (Tryz.zeroCells121.setIfInBounds 0 (.int .i64 ((nk:Int)+6))) (by rfl) (by rfl) (by rw[Vn];exact HT1.out) (by rw[Vn];exact Qu) (Tx _) ?_)
  | fail)
 obtain ⟨w2,HW2⟩:∃ w2,Hid (w2=((w.alloc (.cells Tryz.zeroCells121 121)).alloc (.cells Tryz.zeroCells121 121)).setCells (w.heap.size+1) 0 (Tryz.zeroCells121.setIfInBounds 0 (.int .i64 ((nk:Int)+6))).toList):=⟨_,rfl⟩
 rw[←HW2.out] at HSt ⊢
 clear HW2 HT1
 generalize Value.agg (Tryz.zeroCells121.setIfInBounds 0 (.int .i64 ((nk:Int)+6)))=zz
 have KF:Hid (Calls Tryz.prog 75 #[.pointer (some ⟨w.heap.size+1,0,none⟩)] w2 fun e w'=>e=.returned (.tuple #[])∧Touch w2 w' (w.heap.size+1) 61 1024∧Tab w' (w.heap.size+1) 0):=by
  have:=De (w.heap.size+1) 0 w2 HSt.out.room
  show Calls _ _ _ _ _
  simpa using this
 go_wp2_with (first | (go_at_call 75;refine KF.out.mono ?_))
 rintro e3 w3 ⟨rfl,ht3,htab3⟩
 have H3:Hid (Qm w (nk+6) (fun _=>0) w3∧Tab w3 (w.heap.size+1) 0):=⟨HSt.out.touch ht3,htab3⟩
 clear ht3 htab3 KF HSt
 go_wp2
 go_loopw [18] (fun i wr=>∃ k:Nat,k≤n∧i=.int .i64 k∧Hid (Qm w (nk+6) (F1 key k) wr∧Tab wr (w.heap.size+1) 0)) (fun i _=>n-(intOf i).toNat)
 case atStart=>exact ⟨0,Nat.zero_le _,rfl,H3.out⟩
 case round=>
  obtain ⟨k,hk,rfl,HR⟩:=hrel
  by_cases hlt:k<n
  ·have hn32:n≤32:=by have h1:=HN.out;have h2:=HK.out;omega
   have ck:wr.cell? ⟨kb,ko+k,none⟩=some (.int .u8 (key k:Nat)):=(HR.out.1.old.cell HKB.out).trans (HCELL.out k hlt)
   have hd4:((k:Nat):Int).tdiv 4=((k/4:Nat):Int):=by rw[Int.tdiv_eq_ediv_of_nonneg (by omega)];omega
   obtain ⟨q,HQ⟩:∃ q,Hid (q=k/4):=⟨_,rfl⟩
   rw[←HQ.out] at hd4
   have hq60:((q:Nat):Int)<60:=by rw[HQ.out];omega
   have hq60':q<60:=by omega
   have cw:wr.cell? ⟨w.heap.size+1,1+q,none⟩=some (.int .u32 (F1 key k q:Nat)):=HR.out.1.words q hq60'
   have cf:wr.frozen? ⟨w.heap.size+1,1+q,none⟩=false:=by
    have:=(HR.out.1.room (1+q) (by omega)).2
    simpa using this
   obtain ⟨x,HX⟩:∃ x,Hid (x=F1 key k q):=⟨_,rfl⟩
   rw[←HX.out] at cw
   go_wp2
   have hxl:x<4294967296:=by rw[HX.out];exact G5 HKEY.out _ _
   have hkl:=HKEY.out k
   have hv:bits .or .u32 ((x:Int)*256%4294967296) ((key k:Nat)%4294967296)=((x*256%4294967296+key k:Nat):Int):=by
    have:=Gc 8 (x*256%4294967296) (key k) (by omega) (by omega) (by omega) (by omega) (by omega)
    rw[show ((x:Int)*256%4294967296)=((x*256%4294967296:Nat):Int) by omega,show (((key k:Nat):Int)%4294967296)=((key k:Nat):Int) by omega]
    exact this
   refine ⟨⟨k+1,by omega,rfl,?_⟩,?_⟩
   ·rw[hv]
    refine ⟨?_,HR.out.2.set _ (by omega)⟩
    have h:=HR.out.1.set q (x*256%4294967296+key k) hq60'
    have e:F1 key (k+1)=upd (F1 key k) q (x*256%4294967296+key k):=by
     rw[HX.out,HQ.out]
     exact rfl
    rw[e]
    exact h
   ·simp only[intOf];omega
  ·obtain rfl:k=n:=by omega
   obtain ⟨K0,HK0⟩:∃ K0,Hid (K0=F1 key k):=⟨_,rfl⟩
   have HK0l:Hid (∀ j,K0 j<4294967296):=by show ∀ j,_;rw[HK0.out];exact G5 HKEY.out _
   rw[←HK0.out] at HR
   clear hlt hk
   go_wp2
   go_loopw [7] (fun i wr=>∃ m:Nat,m≤3*nk+28∧i=.int .i64 ((nk+m:Nat):Int)∧Hid (Qm w (nk+6) (goW nk K0 m) wr∧Tab wr (w.heap.size+1) 0)) (fun i _=>4*nk+28-(intOf i).toNat)
   case atStart=>exact ⟨0,Nat.zero_le _,rfl,HR.out⟩
   case round=>
    clear HR
    obtain ⟨m,hm,rfl,HR⟩:=hrel
    obtain ⟨ii,HI⟩:∃ ii,Hid (ii=nk+m):=⟨_,rfl⟩
    rw[←HI.out]
    have KW:Hid (Calls Tryz.prog 76 #[.pointer (some ⟨w.heap.size+1,0,none⟩)] wr fun e w'=>e=.returned (.int .i64 (4*(nk+6+1):Nat))∧w'=wr):=Ca (w.heap.size+1) 0 (nk+6) wr HR.out.1.rounds (by have:=HK.out;omega)
    obtain ⟨tot,HTOT⟩:∃ t,Hid (t=4*(nk+6+1)):=⟨_,rfl⟩
    rw[←HTOT.out] at KW
    by_cases hlt:m<3*nk+28
    ·have hit:((ii:Nat):Int)<(tot:Nat):=by have h1:=HI.out;have h2:=HTOT.out;omega
     have hnz:1≤nk:=by have:=HK.out;omega
     have hi1:1≤ii:=by have h1:=HI.out;omega
     have hi60:ii<60:=by have h1:=HI.out;have:=HK.out;omega
     obtain ⟨p,HP⟩:∃ p,Hid (p=ii-1):=⟨_,rfl⟩
     have hp:((ii:Nat):Int)-1=(p:Nat):=by have:=HP.out;omega
     have hmn:((ii:Nat):Int)-(nk:Nat)=(m:Nat):=by have:=HI.out;omega
     have hmod:((ii:Nat):Int).tmod (nk:Nat)=((ii%nk:Nat):Int):=Int.ofNat_tmod ii nk |>.symm
     have hp60:((p:Nat):Int)<60:=by have:=HP.out;omega
     have hm60:((m:Nat):Int)<60:=by have:=HI.out;omega
     have hii60:((ii:Nat):Int)<60:=by omega
     have cp:wr.cell? ⟨w.heap.size+1,1+p,none⟩=some (.int .u32 (goW nk K0 m p:Nat)):=HR.out.1.words p (by omega)
     have cm:wr.cell? ⟨w.heap.size+1,1+m,none⟩=some (.int .u32 (goW nk K0 m m:Nat)):=HR.out.1.words m (by omega)
     have ci:wr.cell? ⟨w.heap.size+1,1+ii,none⟩=some (.int .u32 (goW nk K0 m ii:Nat)):=HR.out.1.words ii (by omega)
     have cf:wr.frozen? ⟨w.heap.size+1,1+ii,none⟩=false:=by
      have:=(HR.out.1.room (1+ii) (by omega)).2
      simpa using this
     obtain ⟨xp,HXP⟩:∃ x,Hid (x=goW nk K0 m p):=⟨_,rfl⟩
     obtain ⟨xm,HXM⟩:∃ x,Hid (x=goW nk K0 m m):=⟨_,rfl⟩
     obtain ⟨xi,HXI⟩:∃ x,Hid (x=goW nk K0 m ii):=⟨_,rfl⟩
     rw[←HXP.out] at cp
     rw[←HXM.out] at cm
     rw[←HXI.out] at ci
     have HLp:Hid (xp<4294967296):=by show _<_;rw[HXP.out];exact F2 HK0l.out _ _
     have HLm:Hid (xm<4294967296):=by show _<_;rw[HXM.out];exact F2 HK0l.out _ _
     by_cases hz:ii%nk=0
     ·have hz':((ii%nk:Nat):Int)=0:=by omega
      rw[hz'] at hmod
      go_wp2_with (first | (go_at_call 76;refine KW.out.mono ?_;rintro e4 w4 ⟨rfl,hw4⟩;obtain rfl:=hw4.symm))
      obtain ⟨d,HD⟩:∃ d,Hid (d=ii/nk):=⟨_,rfl⟩
      obtain ⟨e,HE⟩:∃ e,Hid (e=d-1):=⟨_,rfl⟩
      have hbnd:1≤d∧e<10:=by
       have h1:=HD.out;have h2:=HE.out;have h3:=HI.out;have h4:=HTOT.out
       rcases HK.out with h | h | h<;>subst h<;>omega
      obtain ⟨hd1,he10⟩:=hbnd
      have hdiv:((ii:Nat):Int).tdiv (nk:Nat)=((d:Nat):Int):=by rw[HD.out];exact (Int.ofNat_tdiv ii nk).symm
      have hde:((d:Nat):Int)-1=((e:Nat):Int):=by have:=HE.out;omega
      have he10':((e:Nat):Int)<10:=by omega
      have hd60:((d:Nat):Int)≤60:=by have h1:=HD.out;have h2:ii/nk≤ii:=Nat.div_le_self _ _;omega
      have ce:wr.cell? ⟨1,e,none⟩=some (.int .u8 (rcT e:Nat)):=(HR.out.1.old.cell HPOS.out).trans (HRC.out e he10)
      obtain ⟨rc,HRc⟩:∃ r,Hid (r=rcT e):=⟨_,rfl⟩
      rw[←HRc.out] at ce
      have hrc:rc<256:=by rw[HRc.out];exact Pj e
      obtain ⟨y,HY⟩:∃ y,Hid (y=Zea xp):=⟨_,rfl⟩
      obtain ⟨z,HZ⟩:∃ z,Hid (z=Mf y):=⟨_,rfl⟩
      have K54:Hid (∀ u,Calls Tryz.prog 78 #[.int .u32 (xp:Nat),.int .i64 8] u fun e u'=>e=.returned (.int .u32 (y:Nat))∧u'=u):=fun u=>by
       have h:=Zec (w:=u) (Xg xp) (Xf xp) (Xe xp) (Xd xp)
       rw[Qr HLp.out] at h
       rw[HY.out]
       exact h
      have K53:Hid (∀ u,Tab u (w.heap.size+1) 0→Calls Tryz.prog 77 #[.pointer (some ⟨w.heap.size+1,0,none⟩),.int .u32 (y:Nat)] u fun e u'=>e=.returned (.int .u32 (z:Nat))∧∃ m,u'=u.drewN m):=fun u hu=>by
       rw[HZ.out]
       exact Fn (w.heap.size+1) 0 y u hu
      go_quiet ((first | (go_at_call 78;exact Calls.quiet_of_same (K54.out _)) | (go_at_call 77;exact Calls.quiet_of (K53.out _ (Tab.drewN HR.out.2 _)))))
      go_wp2
      refine ⟨⟨m+1,by omega,Ye (by have:=HI.out;omega),?_⟩,?_⟩
      ·have hzl:z<4294967296:=by rw[HZ.out];exact Gv _
       refine V1 ⟨HR.out.1.drewN _,Tab.drewN HR.out.2 _⟩ HI.out hi60 _ (v:=Nat.xor xm (Nat.xor z (rc*16777216))) ?_ ?_
       ·rw[show ((rc:Int)*16777216)=((rc*16777216:Nat):Int) by omega,J4 _ _ hzl (by omega),J4 _ _ HLm.out (Yo hzl (by omega))]
       ·unfold Ga
        rw[←HI.out,if_pos hz,show ii-nk=m by have:=HI.out;omega,←HXM.out,←HP.out,←HXP.out,←HY.out,←HZ.out,←HD.out,←HE.out,←HRc.out]
      ·simp only[intOf];have:=HI.out;omega
     ·obtain ⟨r,HRr⟩:∃ r,Hid (r=ii%nk):=⟨_,rfl⟩
      rw[←HRr.out] at hmod
      have hr0:(((r:Nat):Int)==0)=false:=by have:=HRr.out;simp;omega
      obtain ⟨r8,HR8⟩:∃ r,Hid (r=ii%8):=⟨_,rfl⟩
      have hmod8:((ii:Nat):Int).tmod 8=((r8:Nat):Int):=by rw[HR8.out];exact (Int.ofNat_tmod ii 8).symm
      by_cases h8:nk=8
      ·have hb8:(((nk:Nat):Int)==8)=true:=by simp;omega
       have H8:Hid (nk=8):=h8
       clear h8
       by_cases h4:r8=4
       ·have hb4:(((r8:Nat):Int)==4)=true:=by simp;omega
        have H4:Hid (r8=4):=h4
        clear h4
        obtain ⟨z,HZ⟩:∃ z,Hid (z=Mf xp):=⟨_,rfl⟩
        have K53:Hid (Calls Tryz.prog 77 #[.pointer (some ⟨w.heap.size+1,0,none⟩),.int .u32 (xp:Nat)] wr fun e u'=>e=.returned (.int .u32 (z:Nat))∧∃ m,u'=wr.drewN m):=by
         rw[HZ.out]
         exact Fn (w.heap.size+1) 0 xp wr HR.out.2
        go_wp2_with (first | (go_at_call 76;refine KW.out.mono ?_;rintro e4 w4 ⟨rfl,hw4⟩;obtain rfl:=hw4.symm) | (go_at_call 77;refine K53.out.mono ?_;rintro e5 w5 ⟨rfl,q5,rfl⟩))
        refine ⟨⟨m+1,by omega,Ye (by have:=HI.out;omega),?_⟩,?_⟩
        ·have hzl:z<4294967296:=by rw[HZ.out];exact Gv _
         refine V1 ⟨HR.out.1.drewN _,Tab.drewN HR.out.2 _⟩ HI.out hi60 _ (v:=Nat.xor xm z) ?_ ?_
         ·rw[J4 _ _ HLm.out hzl]
         ·unfold Ga
          rw[←HI.out,if_neg hz,if_pos ⟨H8.out,by rw[←HR8.out];exact H4.out⟩,show ii-nk=m by have:=HI.out;omega,←HXM.out,←HP.out,←HXP.out,←HZ.out]
        ·simp only[intOf];have:=HI.out;omega
       ·have hb4:(((r8:Nat):Int)==4)=false:=by simp;omega
        go_wp2_with (first | (go_at_call 76;refine KW.out.mono ?_;rintro e4 w4 ⟨rfl,hw4⟩;obtain rfl:=hw4.symm))
        refine ⟨⟨m+1,by omega,Ye (by have:=HI.out;omega),?_⟩,?_⟩
        ·refine V1 HR.out HI.out hi60 _ (v:=Nat.xor xm xp) ?_ ?_
         ·rw[J4 _ _ HLm.out HLp.out]
         ·unfold Ga
          rw[←HI.out,if_neg hz,if_neg (fun h=>h4 (by rw[HR8.out];exact h.2)),show ii-nk=m by have:=HI.out;omega,←HXM.out,←HP.out,←HXP.out]
        ·simp only[intOf];have:=HI.out;omega
      ·have hb8:(((nk:Nat):Int)==8)=false:=by simp;omega
       go_wp2_with (first | (go_at_call 76;refine KW.out.mono ?_;rintro e4 w4 ⟨rfl,hw4⟩;obtain rfl:=hw4.symm))
       refine ⟨⟨m+1,by omega,Ye (by have:=HI.out;omega),?_⟩,?_⟩
       ·refine V1 HR.out HI.out hi60 _ (v:=Nat.xor xm xp) ?_ ?_
        ·rw[J4 _ _ HLm.out HLp.out]
        ·unfold Ga
         rw[←HI.out,if_neg hz,if_neg (fun h=>h8 h.1),show ii-nk=m by have:=HI.out;omega,←HXM.out,←HP.out,←HXP.out]
       ·simp only[intOf];have:=HI.out;omega
    ·have hit:((tot:Nat):Int)≤((ii:Nat):Int):=by have h1:=HI.out;have h2:=HTOT.out;omega
     have hm':m=3*nk+28:=by omega
     obtain ⟨L,HL⟩:∃ L,Hid (L=Wz (nk+6) (Z6 nk key)):=⟨_,rfl⟩
     have HLr:Hid (wr.rangeAt (w.heap.size+1) 0 L):=by
      show World.rangeAt _ _ _ _
      rw[HL.out]
      have e:Z6 nk key=goW nk K0 m:=by rw[HK0.out,hm'];unfold Z6;rw[←HN.out]
      rw[e]
      exact Ls HR.out.1.rounds (fun i hi=>by rw[Nat.zero_add];exact HR.out.1.words i hi) HR.out.2
     have HLl:Hid (L.length=1085):=by show _=_;rw[HL.out];exact Kk _ _
     have HLo:Hid (L.toArray.all (·.oneCell')=true):=by show _=_;rw[HL.out];exact E4 _ _
     have HST:Hid (wr.there w.heap.size 0 L.length):=by show World.there _ _ _ _;rw[HLl.out];exact HR.out.1.res
     have hst:Sem.run Tryz.prog (storeCells ⟨w.heap.size,0,none⟩ L) wr=.ok () (wr.setCells w.heap.size 0 L):=
      run_storeCells_cells (P:=Tryz.prog) w.heap.size 0 L 0 wr (fun j hj=>by have:=(HST.out j hj).1;simpa using this) (fun j hj=>by have:=(HST.out j hj).2;simpa using this) (fun v hv=>(Array.all_eq_true_iff_forall_mem.1 HLo.out) v (by simpa using hv))
     clear hm hlt
     go_wp2_with (first
      | (go_at_call 76;refine KW.out.mono ?_;rintro e4 w4 ⟨rfl,hw4⟩;obtain rfl:=hw4.symm)
      | (refine wpList_load_mid (by rfl) 121 (.tmp 4) (by rfl) (w.heap.size+1) 0 (by rfl) L _ HLr.out Tryz.underlying121 rfl (by rw[HLl.out];exact Qu) ?_)
      | fail)
     refine Z4 L Tryz.results52 rfl (World.rangeAt_setCells_same _ _ _ _ HST.out) Tryz.underlying121 rfl (by rw[HLl.out];exact Qu) ⟨by rw[HL.out],Zb _ (Nat.le_refl _) _ _ _ HR.out.1.old⟩
end Go.Proofs.YtehlppaidgkpaaaGreatDoor
