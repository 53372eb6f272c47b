import Derived.Test.YtehlppaidgkpaaaGreatDoorPart40
namespace Go.Proofs.YtehlppaidgkpaaaGreatDoor
open Go.RowKit
set_option linter.unusedVariables false
set_option linter.unusedSimpArgs false
theorem Tryz.info29b:(Tryz.prog.info? 27).map (fun i=>(i.zero,i.size,i.bytes))=some (some (.agg ZZ.toArray),16,16):=by kernel_rfl
theorem Tryz.underlying77b:Tryz.prog.underlying 237=some (.slice 27):=by kernel_rfl
theorem Bx.storeAt {w:World} {b o:Nat} {t:TypeId} {cur L:List Value} (h:Bx w b t cur) (hl:o+L.length≤cur.length):Bx (w.setCells b o L) b t (splice cur o L):=by
 obtain ⟨r,h1,h2,h3⟩:=Q6 b t L o w cur.toArray h
 have e:r=(splice cur o L).toArray:=by
  apply Array.ext_getElem?
  intro j
  rw[h3]
  simp only[List.size_toArray,List.getElem?_toArray,splice]
  by_cases c1:j<o
  ·rw[if_neg (by omega),List.getElem?_append_left (by rw[List.length_take];omega),List.getElem?_take,if_pos c1]
  ·rw[List.getElem?_append_right (by rw[List.length_take];omega),List.length_take,Nat.min_eq_left (by omega)]
   by_cases c2:j<o+L.length
   ·rw[if_pos (by omega),List.getElem?_append_left (by omega)]
   ·rw[if_neg (by omega),List.getElem?_append_right (by omega),List.getElem?_drop]
    congr 1;omega
 unfold Bx
 rw[h1,e]
theorem Gy {w:World} {base n g:Nat} {e:TypeId} {xs:List Value} (h:w.ownsRow base e 16 (.slice (some ⟨g,0,none⟩) n n) n xs):Bx w g e xs∧xs.length=16*n:=by
 obtain ⟨h1,h2⟩:=h
 rcases h2 with ⟨q,_⟩ | ⟨g',cap,cur,q,_,hh,_,_,hs,ht⟩
 ·cases q
 ·injection q with q1 q2 q3
  injection q1 with q1
  injection q1 with q1
  subst q1 q3
  have:xs.toArray=cur:=by
   rw[←ht,List.take_of_length_le (by simp;omega)]
  refine ⟨?_,by omega⟩
  unfold Bx;rw[hh,this]
end Go.Proofs.YtehlppaidgkpaaaGreatDoor
