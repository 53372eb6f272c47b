import Derived.Test.YtgmfiljjogdccaaDoorPart04
import Derived.Test.YtgmfiljjogdccaaDoorPart03
import Derived.Test.YtgmfiljjogdccaaDoorPart02
import Derived.Deep.MidRow
import Derived.Test.YtgmfiljjogdccaaDoorPart01
import Derived.Test.YtgmfiljjogdccaaDoorPart00
import Derived.Laws.StructEq
import Derived.Laws.Tables
import Derived.Laws.Cover2
namespace Go.Proofs.YtgmfiljjogdccaaDoor
open Go.RowKit
set_option linter.unusedVariables false
/-- The wrapping's state is a and the numbers L. -/
def WSt (n : Nat) (x : Nat × (Nat → Nat)) (a : Nat) (L : List Nat) : Prop := x.1 = a ∧ ∀ j, j < n → x.2 j = L.getD j 0
theorem W4.eq4 {x : W4} {a b c d : Nat} (h : x.a = a ∧ x.b = b ∧ x.c = c ∧ x.d = d) : x = ⟨a, b, c, d⟩ := by
  obtain ⟨h1, h2, h3, h4⟩ := h
  cases x
  simp only at h1 h2 h3 h4
  rw [h1, h2, h3, h4]
theorem WSt.next {nr : Nat} {K : Nat → Nat} {n : Nat} {x : Nat × (Nat → Nat)} {a : Nat} {L : List Nat} (h : WSt n x a L) (k i r p1 p2 p3 p4 c1 c2 a' v : Nat) (hi : k % n = i) (hin : i < n) (hL : i < L.length) (hr : L.getD i 0 = r) (hj : joinW a r = ⟨p1, p2, p3, p4⟩) (hE : (encW nr K ⟨p1, p2, p3, p4⟩).hi = c1 ∧ (encW nr K ⟨p1, p2, p3, p4⟩).lo = v) (ha : c1 ^^^ (k + 1) = a') : WSt n (wrStep nr K n k x) a' (L.set i v) := by
  obtain ⟨h1, h2⟩ := h
  have e1 : encW nr K (joinW x.1 (x.2 (k % n))) = encW nr K ⟨p1, p2, p3, p4⟩ := by rw [hi, h2 i hin, hr, h1, hj]
  refine ⟨?_, fun j hjn => ?_⟩
  · show (encW nr K (joinW x.1 (x.2 (k % n)))).hi ^^^ (k + 1) = a'
    rw [e1, hE.1, ha]
  · show setR x.2 (k % n) (encW nr K (joinW x.1 (x.2 (k % n)))).lo j = _
    rw [e1, hE.2, hi]
    by_cases e : j = i
    · subst e; rw [setR_same]; simp [List.getD, hL]
    · rw [setR_other _ _ e, h2 j hjn]; simp [List.getD, Ne.symm e]
theorem fore_congr {α : Type} {f g : Nat → α → α} (h : ∀ k x, f k x = g k x) (x : α) (k : Nat) : fore f x k = fore g x k := by
  induction k with
  | zero => rfl
  | succ k ih => rw [fore_succ, fore_succ, ih, h]
theorem wrapF_congr {K F : Nat → Nat} {nr : Nat} (h1 : 1 ≤ nr) (h : ∀ j, j < 4 * (nr + 1) → K j = F j) (n : Nat) (f : Nat → Nat) (k : Nat) : wrapF nr K n f k = wrapF nr F n f k :=
  fore_congr (fun k x => by unfold wrStep; rw [encW_congr h1 h]) _ _
theorem ra0 (x : Nat × (Nat → Nat)) (h : WSt 2 x 12008468691120727718 [4822678189205111, 9843086184167632639]) : WSt 2 (fore (wrStep 10 (wordT W16) 2) x 0) 12008468691120727718 [4822678189205111, 9843086184167632639] := h
theorem ra1 (x : Nat × (Nat → Nat)) (h : WSt 2 x 12008468691120727718 [4822678189205111, 9843086184167632639]) : WSt 2 (fore (wrStep 10 (wordT W16) 2) x 1) 17614704398635246160 [8416813169816110567, 9843086184167632639] := by
  rw [fore_succ]
  exact (ra0 x h).next 0 0 4822678189205111 2795939494 2795939494 1122867 1146447479 17614704398635246161 0 17614704398635246160 8416813169816110567 rfl (by decide) (by decide) rfl (by rfl) (by decide +kernel) (by decide +kernel)
theorem ra2 (x : Nat × (Nat → Nat)) (h : WSt 2 x 12008468691120727718 [4822678189205111, 9843086184167632639]) : WSt 2 (fore (wrStep 10 (wordT W16) 2) x 2) 484786487434841353 [8416813169816110567, 15074372827391883000] := by
  rw [fore_succ]
  exact (ra1 x h).next 1 1 9843086184167632639 4101242962 3895075408 2291772091 3437096703 484786487434841355 0 484786487434841353 15074372827391883000 rfl (by decide) (by decide) rfl (by rfl) (by decide +kernel) (by decide +kernel)
theorem ra3 (x : Nat × (Nat → Nat)) (h : WSt 2 x 12008468691120727718 [4822678189205111, 9843086184167632639]) : WSt 2 (fore (wrStep 10 (wordT W16) 2) x 3) 18200864857137574411 [18333746609216369760, 15074372827391883000] := by
  rw [fore_succ]
  exact (ra2 x h).next 2 0 8416813169816110567 112873149 3883306249 1959692027 3619161575 18200864857137574408 0 18200864857137574411 18333746609216369760 rfl (by decide) (by decide) rfl (by rfl) (by decide +kernel) (by decide +kernel)
theorem ra4 (x : Nat × (Nat → Nat)) (h : WSt 2 x 12008468691120727718 [4822678189205111, 9843086184167632639]) : WSt 2 (fore (wrStep 10 (wordT W16) 2) x 4) 6383547426727141439 [18333746609216369760, 554714161401472764] := by
  rw [fore_succ]
  exact (ra3 x h).next 3 1 15074372827391883000 4237719079 3197334027 3509775928 343832312 6383547426727141435 0 6383547426727141439 554714161401472764 rfl (by decide) (by decide) rfl (by rfl) (by decide +kernel) (by decide +kernel)
theorem ra5 (x : Nat × (Nat → Nat)) (h : WSt 2 x 12008468691120727718 [4822678189205111, 9843086184167632639]) : WSt 2 (fore (wrStep 10 (wordT W16) 2) x 5) 10641626704559050950 [2735272315378553857, 554714161401472764] := by
  rw [fore_succ]
  exact (ra4 x h).next 4 0 18333746609216369760 1486285456 686694463 4268658023 2623353952 10641626704559050947 0 10641626704559050950 2735272315378553857 rfl (by decide) (by decide) rfl (by rfl) (by decide +kernel) (by decide +kernel)
theorem ra6 (x : Nat × (Nat → Nat)) (h : WSt 2 x 12008468691120727718 [4822678189205111, 9843086184167632639]) : WSt 2 (fore (wrStep 10 (wordT W16) 2) x 6) 16424232443190999281 [2735272315378553857, 17386256016787417354] := by
  rw [fore_succ]
  exact (ra5 x h).next 5 1 554714161401472764 2477696795 630034630 129154455 1043769084 16424232443190999287 0 16424232443190999281 17386256016787417354 rfl (by decide) (by decide) rfl (by rfl) (by decide +kernel) (by decide +kernel)
theorem ra7 (x : Nat × (Nat → Nat)) (h : WSt 2 x 12008468691120727718 [4822678189205111, 9843086184167632639]) : WSt 2 (fore (wrStep 10 (wordT W16) 2) x 7) 3169445289405595649 [13066863773179899986, 17386256016787417354] := by
  rw [fore_succ]
  exact (ra6 x h).next 6 0 2735272315378553857 3824064611 1155037425 636855213 3256439809 3169445289405595654 0 3169445289405595649 13066863773179899986 rfl (by decide) (by decide) rfl (by rfl) (by decide +kernel) (by decide +kernel)
theorem ra8 (x : Nat × (Nat → Nat)) (h : WSt 2 x 12008468691120727718 [4822678189205111, 9843086184167632639]) : WSt 2 (fore (wrStep 10 (wordT W16) 2) x 8) 5469848907198773877 [13066863773179899986, 7258366094040461499] := by
  rw [fore_succ]
  exact (ra7 x h).next 7 1 17386256016787417354 737943986 3255713793 4048053179 513583370 5469848907198773885 0 5469848907198773877 7258366094040461499 rfl (by decide) (by decide) rfl (by rfl) (by decide +kernel) (by decide +kernel)
theorem ra9 (x : Nat × (Nat → Nat)) (h : WSt 2 x 12008468691120727718 [4822678189205111, 9843086184167632639]) : WSt 2 (fore (wrStep 10 (wordT W16) 2) x 9) 16997093590946555130 [13695810629572495745, 7258366094040461499] := by
  rw [fore_succ]
  exact (ra8 x h).next 8 0 13066863773179899986 1273548441 3231988341 3042366302 3637440594 16997093590946555123 0 16997093590946555130 13695810629572495745 rfl (by decide) (by decide) rfl (by rfl) (by decide +kernel) (by decide +kernel)
theorem ra10 (x : Nat × (Nat → Nat)) (h : WSt 2 x 12008468691120727718 [4822678189205111, 9843086184167632639]) : WSt 2 (fore (wrStep 10 (wordT W16) 2) x 10) 6529228934383156044 [13695810629572495745, 5752172836115430210] := by
  rw [fore_succ]
  exact (ra9 x h).next 9 1 7258366094040461499 3957444241 108012794 1689970049 2365943995 6529228934383156038 0 6529228934383156044 5752172836115430210 rfl (by decide) (by decide) rfl (by rfl) (by decide +kernel) (by decide +kernel)
theorem ra11 (x : Nat × (Nat → Nat)) (h : WSt 2 x 12008468691120727718 [4822678189205111, 9843086184167632639]) : WSt 2 (fore (wrStep 10 (wordT W16) 2) x 11) 10644004178492661751 [12606503177242180482, 5752172836115430210] := by
  rw [fore_succ]
  exact (ra10 x h).next 10 0 13695810629572495745 1520204575 1528576844 3188804404 1051724161 10644004178492661756 0 10644004178492661751 12606503177242180482 rfl (by decide) (by decide) rfl (by rfl) (by decide +kernel) (by decide +kernel)
theorem ra12 (x : Nat × (Nat → Nat)) (h : WSt 2 x 12008468691120727718 [4822678189205111, 9843086184167632639]) : WSt 2 (fore (wrStep 10 (wordT W16) 2) x 12) 2280663138541155399 [12606503177242180482, 11330641199302365157] := by
  rw [fore_succ]
  exact (ra11 x h).next 11 1 5752172836115430210 2478250343 4006879223 1339282103 3612326722 2280663138541155403 0 2280663138541155399 11330641199302365157 rfl (by decide) (by decide) rfl (by rfl) (by decide +kernel) (by decide +kernel)
theorem rb0 (x : Nat × (Nat → Nat)) (h : WSt 4 x 12008468691120727718 [4822678189205111, 9843086184167632639, 283686952306183, 579005069656919567]) : WSt 4 (fore (wrStep 14 (wordT W32) 4) x 0) 12008468691120727718 [4822678189205111, 9843086184167632639, 283686952306183, 579005069656919567] := h
theorem rb1 (x : Nat × (Nat → Nat)) (h : WSt 4 x 12008468691120727718 [4822678189205111, 9843086184167632639, 283686952306183, 579005069656919567]) : WSt 4 (fore (wrStep 14 (wordT W32) 4) x 1) 8737850604218744288 [17753679697507252785, 9843086184167632639, 283686952306183, 579005069656919567] := by
  rw [fore_succ]
  exact (rb0 x h).next 0 0 4822678189205111 2795939494 2795939494 1122867 1146447479 8737850604218744289 0 8737850604218744288 17753679697507252785 rfl (by decide) (by decide) rfl (by rfl) (by decide +kernel) (by decide +kernel)
theorem rb2 (x : Nat × (Nat → Nat)) (h : WSt 4 x 12008468691120727718 [4822678189205111, 9843086184167632639, 283686952306183, 579005069656919567]) : WSt 4 (fore (wrStep 14 (wordT W32) 4) x 2) 15298985616574559587 [17753679697507252785, 17730122919876665320, 283686952306183, 579005069656919567] := by
  rw [fore_succ]
  exact (rb1 x h).next 1 1 9843086184167632639 2034439380 1424227808 2291772091 3437096703 15298985616574559585 0 15298985616574559587 17730122919876665320 rfl (by decide) (by decide) rfl (by rfl) (by decide +kernel) (by decide +kernel)
theorem rb3 (x : Nat × (Nat → Nat)) (h : WSt 4 x 12008468691120727718 [4822678189205111, 9843086184167632639, 283686952306183, 579005069656919567]) : WSt 4 (fore (wrStep 14 (wordT W32) 4) x 3) 11383117715011797186 [17753679697507252785, 17730122919876665320, 7828387933063958868, 579005069656919567] := by
  rw [fore_succ]
  exact (rb2 x h).next 2 2 283686952306183 3562072668 1539093859 66051 67438087 11383117715011797185 0 11383117715011797186 7828387933063958868 rfl (by decide) (by decide) rfl (by rfl) (by decide +kernel) (by decide +kernel)
theorem rb4 (x : Nat × (Nat → Nat)) (h : WSt 4 x 12008468691120727718 [4822678189205111, 9843086184167632639, 283686952306183, 579005069656919567]) : WSt 4 (fore (wrStep 14 (wordT W32) 4) x 4) 6216103271902031520 [17753679697507252785, 17730122919876665320, 7828387933063958868, 16542351150808395708] := by
  rw [fore_succ]
  exact (rb3 x h).next 3 3 579005069656919567 2650338624 1606156482 134810123 202182159 6216103271902031524 0 6216103271902031520 16542351150808395708 rfl (by decide) (by decide) rfl (by rfl) (by decide +kernel) (by decide +kernel)
theorem rb5 (x : Nat × (Nat → Nat)) (h : WSt 4 x 12008468691120727718 [4822678189205111, 9843086184167632639, 283686952306183, 579005069656919567]) : WSt 4 (fore (wrStep 14 (wordT W32) 4) x 5) 5688097856918302654 [16704160313632510968, 17730122919876665320, 7828387933063958868, 16542351150808395708] := by
  rw [fore_succ]
  exact (rb4 x h).next 4 0 17753679697507252785 1447299325 3504156320 4133600671 838597169 5688097856918302651 0 5688097856918302654 16704160313632510968 rfl (by decide) (by decide) rfl (by rfl) (by decide +kernel) (by decide +kernel)
theorem rb6 (x : Nat × (Nat → Nat)) (h : WSt 4 x 12008468691120727718 [4822678189205111, 9843086184167632639, 283686952306183, 579005069656919567]) : WSt 4 (fore (wrStep 14 (wordT W32) 4) x 6) 10825158158028252138 [16704160313632510968, 17281591202400195958, 7828387933063958868, 16542351150808395708] := by
  rw [fore_succ]
  exact (rb5 x h).next 5 1 17730122919876665320 1324363485 826716094 4128115931 2135072744 10825158158028252140 0 10825158158028252138 17281591202400195958 rfl (by decide) (by decide) rfl (by rfl) (by decide +kernel) (by decide +kernel)
theorem rb7 (x : Nat × (Nat → Nat)) (h : WSt 4 x 12008468691120727718 [4822678189205111, 9843086184167632639, 283686952306183, 579005069656919567]) : WSt 4 (fore (wrStep 14 (wordT W32) 4) x 7) 7410577176342739418 [16704160313632510968, 17281591202400195958, 14079860373270484832, 16542351150808395708] := by
  rw [fore_succ]
  exact (rb6 x h).next 6 2 7828387933063958868 2520428541 2528257002 1822688601 976965972 7410577176342739421 0 7410577176342739418 14079860373270484832 rfl (by decide) (by decide) rfl (by rfl) (by decide +kernel) (by decide +kernel)
theorem rb8 (x : Nat × (Nat → Nat)) (h : WSt 4 x 12008468691120727718 [4822678189205111, 9843086184167632639, 283686952306183, 579005069656919567]) : WSt 4 (fore (wrStep 14 (wordT W32) 4) x 8) 14234643923004143942 [16704160313632510968, 17281591202400195958, 14079860373270484832, 8350719120925285748] := by
  rw [fore_succ]
  exact (rb7 x h).next 7 3 16542351150808395708 1725409453 3498490330 3851566265 4256526268 14234643923004143950 0 14234643923004143942 8350719120925285748 rfl (by decide) (by decide) rfl (by rfl) (by decide +kernel) (by decide +kernel)
theorem rb9 (x : Nat × (Nat → Nat)) (h : WSt 4 x 12008468691120727718 [4822678189205111, 9843086184167632639, 283686952306183, 579005069656919567]) : WSt 4 (fore (wrStep 14 (wordT W32) 4) x 9) 1902792097959526897 [15469347867530440003, 17281591202400195958, 14079860373270484832, 8350719120925285748] := by
  rw [fore_succ]
  exact (rb8 x h).next 8 0 16704160313632510968 3314261306 3335895366 3889240397 2235454456 1902792097959526904 0 1902792097959526897 15469347867530440003 rfl (by decide) (by decide) rfl (by rfl) (by decide +kernel) (by decide +kernel)
theorem rb10 (x : Nat × (Nat → Nat)) (h : WSt 4 x 12008468691120727718 [4822678189205111, 9843086184167632639, 283686952306183, 579005069656919567]) : WSt 4 (fore (wrStep 14 (wordT W32) 4) x 10) 15826801358666326977 [15469347867530440003, 18152909072960124602, 14079860373270484832, 8350719120925285748] := by
  rw [fore_succ]
  exact (rb9 x h).next 9 1 17281591202400195958 443028308 3897311729 4023684003 76830070 15826801358666326987 0 15826801358666326977 18152909072960124602 rfl (by decide) (by decide) rfl (by rfl) (by decide +kernel) (by decide +kernel)
theorem rb11 (x : Nat × (Nat → Nat)) (h : WSt 4 x 12008468691120727718 [4822678189205111, 9843086184167632639, 283686952306183, 579005069656919567]) : WSt 4 (fore (wrStep 14 (wordT W32) 4) x 11) 444144602353389522 [15469347867530440003, 18152909072960124602, 17683104501738275350, 8350719120925285748] := by
  rw [fore_succ]
  exact (rb10 x h).next 10 2 14079860373270484832 3684964347 1375331265 3278222953 1138939744 444144602353389529 0 444144602353389522 17683104501738275350 rfl (by decide) (by decide) rfl (by rfl) (by decide +kernel) (by decide +kernel)
theorem rb12 (x : Nat × (Nat → Nat)) (h : WSt 4 x 12008468691120727718 [4822678189205111, 9843086184167632639, 283686952306183, 579005069656919567]) : WSt 4 (fore (wrStep 14 (wordT W32) 4) x 12) 18009202304121656937 [15469347867530440003, 18152909072960124602, 17683104501738275350, 4391372376983209177] := by
  rw [fore_succ]
  exact (rb11 x h).next 11 3 8350719120925285748 103410473 2754498514 1944303307 3855637876 18009202304121656933 0 18009202304121656937 4391372376983209177 rfl (by decide) (by decide) rfl (by rfl) (by decide +kernel) (by decide +kernel)
theorem rb13 (x : Nat × (Nat → Nat)) (h : WSt 4 x 12008468691120727718 [4822678189205111, 9843086184167632639, 283686952306183, 579005069656919567]) : WSt 4 (fore (wrStep 14 (wordT W32) 4) x 13) 3354666513985529499 [5135657644479213599, 18152909072960124602, 17683104501738275350, 4391372376983209177] := by
  rw [fore_succ]
  exact (rb12 x h).next 12 0 15469347867530440003 4193094164 693196393 3601738220 3877186883 3354666513985529494 0 3354666513985529499 5135657644479213599 rfl (by decide) (by decide) rfl (by rfl) (by decide +kernel) (by decide +kernel)
theorem rb14 (x : Nat × (Nat → Nat)) (h : WSt 4 x 12008468691120727718 [4822678189205111, 9843086184167632639, 283686952306183, 579005069656919567]) : WSt 4 (fore (wrStep 14 (wordT W32) 4) x 14) 1527886047182433727 [5135657644479213599, 13593016770907399691, 17683104501738275350, 4391372376983209177] := by
  rw [fore_succ]
  exact (rb13 x h).next 13 1 18152909072960124602 781069163 2986436251 4226553503 2780886714 1527886047182433713 0 1527886047182433727 13593016770907399691 rfl (by decide) (by decide) rfl (by rfl) (by decide +kernel) (by decide +kernel)
theorem rb15 (x : Nat × (Nat → Nat)) (h : WSt 4 x 12008468691120727718 [4822678189205111, 9843086184167632639, 283686952306183, 579005069656919567]) : WSt 4 (fore (wrStep 14 (wordT W32) 4) x 15) 3746477253408965816 [5135657644479213599, 13593016770907399691, 14011517879349844217, 4391372376983209177] := by
  rw [fore_succ]
  exact (rb14 x h).next 14 2 17683104501738275350 355738691 3415584191 4117168602 4030235158 3746477253408965815 0 3746477253408965816 14011517879349844217 rfl (by decide) (by decide) rfl (by rfl) (by decide +kernel) (by decide +kernel)
theorem rb16 (x : Nat × (Nat → Nat)) (h : WSt 4 x 12008468691120727718 [4822678189205111, 9843086184167632639, 283686952306183, 579005069656919567]) : WSt 4 (fore (wrStep 14 (wordT W32) 4) x 16) 5797620806344739674 [5135657644479213599, 13593016770907399691, 14011517879349844217, 4681083420775378988] := by
  rw [fore_succ]
  exact (rb15 x h).next 15 3 4391372376983209177 872294710 1485161656 1022446057 244057305 5797620806344739658 0 5797620806344739674 4681083420775378988 rfl (by decide) (by decide) rfl (by rfl) (by decide +kernel) (by decide +kernel)
theorem rb17 (x : Nat × (Nat → Nat)) (h : WSt 4 x 12008468691120727718 [4822678189205111, 9843086184167632639, 283686952306183, 579005069656919567]) : WSt 4 (fore (wrStep 14 (wordT W32) 4) x 17) 11905311960678617568 [1997565674167309799, 13593016770907399691, 14011517879349844217, 4681083420775378988] := by
  rw [fore_succ]
  exact (rb16 x h).next 16 0 5135657644479213599 1349863784 9931610 1195738474 4080267295 11905311960678617585 0 11905311960678617568 1997565674167309799 rfl (by decide) (by decide) rfl (by rfl) (by decide +kernel) (by decide +kernel)
theorem rb18 (x : Nat × (Nat → Nat)) (h : WSt 4 x 12008468691120727718 [4822678189205111, 9843086184167632639, 283686952306183, 579005069656919567]) : WSt 4 (fore (wrStep 14 (wordT W32) 4) x 18) 17410213383444097259 [1997565674167309799, 17865125862611225910, 14011517879349844217, 4681083420775378988] := by
  rw [fore_succ]
  exact (rb17 x h).next 17 1 13593016770907399691 2771921446 3027587552 3164870843 4158449163 17410213383444097273 0 17410213383444097259 17865125862611225910 rfl (by decide) (by decide) rfl (by rfl) (by decide +kernel) (by decide +kernel)
theorem rb19 (x : Nat × (Nat → Nat)) (h : WSt 4 x 12008468691120727718 [4822678189205111, 9843086184167632639, 283686952306183, 579005069656919567]) : WSt 4 (fore (wrStep 14 (wordT W32) 4) x 19) 12980135283280976152 [1997565674167309799, 17865125862611225910, 2088534108430711170, 4681083420775378988] := by
  rw [fore_succ]
  exact (rb18 x h).next 18 2 14011517879349844217 4053631188 938469611 3262310726 1789827321 12980135283280976139 0 12980135283280976152 2088534108430711170 rfl (by decide) (by decide) rfl (by rfl) (by decide +kernel) (by decide +kernel)
theorem rb20 (x : Nat × (Nat → Nat)) (h : WSt 4 x 12008468691120727718 [4822678189205111, 9843086184167632639, 283686952306183, 579005069656919567]) : WSt 4 (fore (wrStep 14 (wordT W32) 4) x 20) 15012892515021392419 [1997565674167309799, 17865125862611225910, 2088534108430711170, 567426570879794803] := by
  rw [fore_succ]
  exact (rb19 x h).next 19 3 4681083420775378988 3022173252 3095009560 1089899665 3679023148 15012892515021392439 0 15012892515021392419 567426570879794803 rfl (by decide) (by decide) rfl (by rfl) (by decide +kernel) (by decide +kernel)
theorem rb21 (x : Nat × (Nat → Nat)) (h : WSt 4 x 12008468691120727718 [4822678189205111, 9843086184167632639, 283686952306183, 579005069656919567]) : WSt 4 (fore (wrStep 14 (wordT W32) 4) x 21) 14455031750391643865 [14685309696886700070, 17865125862611225910, 2088534108430711170, 567426570879794803] := by
  rw [fore_succ]
  exact (rb20 x h).next 20 0 1997565674167309799 3495461427 1626901027 465094501 2822870503 14455031750391643852 0 14455031750391643865 14685309696886700070 rfl (by decide) (by decide) rfl (by rfl) (by decide +kernel) (by decide +kernel)
theorem rb22 (x : Nat × (Nat → Nat)) (h : WSt 4 x 12008468691120727718 [4822678189205111, 9843086184167632639, 283686952306183, 579005069656919567]) : WSt 4 (fore (wrStep 14 (wordT W32) 4) x 22) 4165882325631529211 [14685309696886700070, 4564265056208868134, 2088534108430711170, 567426570879794803] := by
  rw [fore_succ]
  exact (rb21 x h).next 21 1 17865125862611225910 3365574346 2065055449 4159548753 2358644022 4165882325631529197 0 4165882325631529211 4564265056208868134 rfl (by decide) (by decide) rfl (by rfl) (by decide +kernel) (by decide +kernel)
theorem rb23 (x : Nat × (Nat → Nat)) (h : WSt 4 x 12008468691120727718 [4822678189205111, 9843086184167632639, 283686952306183, 579005069656919567]) : WSt 4 (fore (wrStep 14 (wordT W32) 4) x 23) 786866244568918284 [14685309696886700070, 4564265056208868134, 14683969985439200315, 567426570879794803] := by
  rw [fore_succ]
  exact (rb22 x h).next 22 2 2088534108430711170 969945063 1129869563 486274740 3259808130 786866244568918299 0 786866244568918284 14683969985439200315 rfl (by decide) (by decide) rfl (by rfl) (by decide +kernel) (by decide +kernel)
theorem rb24 (x : Nat × (Nat → Nat)) (h : WSt 4 x 12008468691120727718 [4822678189205111, 9843086184167632639, 283686952306183, 579005069656919567]) : WSt 4 (fore (wrStep 14 (wordT W32) 4) x 24) 2939148533153403124 [14685309696886700070, 4564265056208868134, 14683969985439200315, 18129393799863131425] := by
  rw [fore_succ]
  exact (rb23 x h).next 23 3 567426570879794803 183206574 826714380 132114293 3110633075 2939148533153403116 0 2939148533153403124 18129393799863131425 rfl (by decide) (by decide) rfl (by rfl) (by decide +kernel) (by decide +kernel)
end Go.Proofs.YtgmfiljjogdccaaDoor
namespace Go.Proofs.YtgmfiljjogdccaaDoor
open Go.RowKit
set_option linter.unusedVariables false
/-- The bytes of what was wrapped. -/
theorem halves_wrB {w : World} {s n : Nat} {X : Nat × (Nat → Nat)} (h : Halves w s 8 n X.2) (h0 : ∀ k, k < 8 → w.cell? ⟨s, k, none⟩ = some (.int .u8 (byteK X.1 k : Nat))) (i : Nat) (hi : i < 8 + 8 * n) : w.cell? ⟨s, i, none⟩ = some (.int .u8 (wrB X i : Nat)) := by
  by_cases h8 : i < 8
  · rw [h0 i h8, wrB, if_pos h8]
  · have hc := h.cell ((i - 8) / 8) ((i - 8) % 8) (by omega) (by omega)
    rw [show 8 + 8 * ((i - 8) / 8) + (i - 8) % 8 = i by omega] at hc
    rw [hc, wrB, if_neg h8]
theorem wrB_lit {n : Nat} {X : Nat × (Nat → Nat)} {a : Nat} {L : List Nat} (h : WSt n X a L) (i : Nat) (hi : i < 8 + 8 * n) : wrB X i = wrB (a, fun j => L.getD j 0) i := by
  unfold wrB
  by_cases h8 : i < 8
  · rw [if_pos h8, if_pos h8, h.1]
  · rw [if_neg h8, if_neg h8, h.2 _ (by omega)]
/-- The bytes of halves that were made of bytes. -/
theorem halves_bytes {w : World} {s n : Nat} {f : Nat → Nat} (hf : ∀ i, f i < 256) (h : Halves w s 0 n (halfs f)) (i : Nat) (hi : i < 8 * n) : w.cell? ⟨s, i, none⟩ = some (.int .u8 (f i : Nat)) := by
  have hc := h.cell (i / 8) (i % 8) (by omega) (by omega)
  rw [show 0 + 8 * (i / 8) + i % 8 = i by omega, halfs, byteK_numK _ (fun k => hf _) _ (by omega), show 8 * (i / 8) + i % 8 = i by omega] at hc
  exact hc
theorem wrapF_ok {K : Nat → Nat} (hK : ∀ i, K i < 4294967296) (nr n : Nat) {f : Nat → Nat} (hf : ∀ i, f i < 256) (k : Nat) (hk : k ≤ 4294967296) : Rok (wrapF nr K n f k) :=
  wr_ok hK nr n _ ⟨show 12008468691120727718 < 18446744073709551616 by decide, halfs_lt hf⟩ k hk
theorem un_wrapF {K : Nat → Nat} (hK : ∀ i, K i < 4294967296) (nr n : Nat) {f : Nat → Nat} (hf : ∀ i, f i < 256) (k : Nat) (hk : k ≤ 4294967296) : aft (unStep nr K n) k (un0 (wrB (wrapF nr K n f k))) = (12008468691120727718, halfs f) := by
  rw [un0_wrB (wrapF_ok hK nr n hf k hk)]
  exact un_wr hK nr n _ ⟨show 12008468691120727718 < 18446744073709551616 by decide, halfs_lt hf⟩ k hk
/-- Unwrap of what was wrapped answers the bytes that were wrapped, of every key. -/
theorem kunwrap_back (g nr n b cap : Nat) (K : Nat → Nat) (f : Nat → Nat) (w : World) (h : KeyAt w g nr K) (hn : 2 ≤ n) (hm : n ≤ 512) (hcap : 8 + 8 * n ≤ cap) (hbg : b ≠ g) (hH : Halves w b 8 n (wrapF nr K n f (6 * n)).2) (h0 : ∀ k, k < 8 → w.cell? ⟨b, k, none⟩ = some (.int .u8 (byteK (wrapF nr K n f (6 * n)).1 k : Nat))) (hf : ∀ i, f i < 256) :
    Calls Tryd.prog 35 #[.pointer (some ⟨g, 0, none⟩), .slice (some ⟨b, 0, none⟩) (8 + 8 * n) cap] w fun e w' => ∃ s, e = .returned (.tuple #[.slice (some ⟨s, 0, none⟩) (8 * n) (8 * n), .int .i64 0]) ∧ w.heap.size ≤ s ∧ s < w'.heap.size ∧ (∀ i, i < 8 * n → w'.cell? ⟨s, i, none⟩ = some (.int .u8 (f i : Nat))) ∧ KeyAt w' g nr K ∧ Touch w w' g 4 1 := by
  have hu := un_wrapF h.ciph.small nr n hf (6 * n) (by omega)
  refine (kunwrap_ok g nr n b 0 cap K (wrB (wrapF nr K n f (6 * n))) w h hn hm hcap hH.here hbg (fun i hi => by rw [Nat.zero_add]; exact halves_wrB hH h0 i hi) (wrB_lt _) (by rw [hu])).mono ?_
  rintro e w' ⟨s, rfl, hs, hh, hk, ht⟩
  rw [hu] at hh
  exact ⟨s, rfl, hs, hh.here, halves_bytes hf hh, hk, ht⟩
end Go.Proofs.YtgmfiljjogdccaaDoor
namespace Go.Proofs.YtgmfiljjogdccaaDoor
open Go.RowKit
set_option linter.unusedVariables false
/-- The numbers from 0 on, n of them, times step, as bytes. -/
def cnt (step : Nat) (k : Nat) : List Int := (List.range k).map fun (i : Nat) => (((i * step % 256 : Nat)) : Int)
theorem cnt_length (step k : Nat) : (cnt step k).length = k := by simp [cnt]
theorem cnt_succ (step k : Nat) : cnt step (k + 1) = cnt step k ++ [((k * step % 256 : Nat) : Int)] := by simp [cnt, List.range_succ]
theorem cnt_at (step k i : Nat) (h : i < k) : (cellsU8 (cnt step k))[i]? = some (.int .u8 ((i * step % 256 : Nat) : Int)) := by simp [cellsU8, cnt, h]
set_option maxHeartbeats 800000 in
set_option maxRecDepth 100000 in
theorem counted_ok (n step : Nat) (w : World) (hn : n ≤ 64) (hn1 : 1 ≤ n) (hs : step ≤ 256) :
    Calls Tryd.prog 26 #[.int .i64 (n : Nat), .int .i64 (step : Nat)] w fun e w' => ∃ g c, e = .returned (.slice (some ⟨g, 0, none⟩) n c) ∧ w.heap.size ≤ g ∧ g < w'.heap.size ∧ (∀ i, i < n → w'.cell? ⟨g, i, none⟩ = some (.int .u8 ((i * step % 256 : Nat) : Int))) ∧ Below w.heap.size w w' := by
  obtain ⟨i0, hi, hz0, hz1, hz2⟩ := info_parts Tryd.info5
  go_enter Tryd.func26, Tryd.ntmps26
  go_wp2
  go_loopw [5, 6] (fun v i wr => ∃ k : Nat, k ≤ n ∧ i = .int .i64 k ∧ wr.ownsRow w.heap.size 5 1 v k (cellsU8 (cnt step k)) ∧ Hid (Below w.heap.size w wr)) (fun _ i _ => n - (intOf i).toNat)
  case atStart => exact ⟨0, by omega, rfl, World.ownsRow_nil _ _ _ _, Below.refl _ _⟩
  case round =>
    obtain ⟨k, hk, rfl, hown2, HB2⟩ := hrel
    by_cases hlt : k < n
    · obtain ⟨p, HP⟩ : ∃ p, Hid (p = k * step) := ⟨_, rfl⟩
      have hpl : p ≤ 16384 := by
        rw [HP.out]
        exact Nat.le_trans (Nat.mul_le_mul (show k ≤ 64 by omega) hs) (by decide)
      have hpm : ((k : Nat) : Int) * ((step : Nat) : Int) = ((p : Nat) : Int) := by rw [HP.out]; push_cast; rfl
      have hpi : ((p : Nat) : Int) ≤ 16384 := by omega
      have hmod : ((p : Nat) : Int) % 256 = ((p % 256 : Nat) : Int) := by omega
      obtain ⟨q, HQ⟩ : ∃ q, Hid (q = p % 256) := ⟨_, rfl⟩
      rw [← HQ.out] at hmod
      go_wp2_with (first
        | (at_builtin; go_must (refine wpList_append_own _ rfl (.tmp 12) (.tmp 17) 22 rfl w.heap.size 5 i0 (.int .u8 0) 1 1 Tryd.underlying22 hi hz0 hz1 hz2 rfl (by decide) _ _ _ rfl (hown2.alloc _) ⟨wr.heap.size, 0, none⟩ 1 1 [.int .u8 (q : Nat)] rfl rfl ?_ ?_ ?_ ?_ ?_ ?_)))
      · intro j u hj
        match j, hj with
        | 0, hj => simp at hj; subst hj; simp [Addr.add]
      · intro u hu; simp at hu; subst hu; rfl
      · unfold maxLen; omega
      · omega
      · have := HB2.out.size; simp; omega
      intro v2 w2 hown3 hgrow2 hnil2
      have HB3 : Hid (Below w.heap.size w w2) := (HB2.out.alloc HB2.out.size _).grown hgrow2 (by have := HB2.out.size; simp; omega) (fun q hq => (hown2.lt q hq).1)
      have ho3 : w2.ownsRow w.heap.size 5 1 v2 (k + 1) (cellsU8 (cnt step (k + 1))) := by
        rw [cnt_succ, cellsU8_append, ← HP.out, ← HQ.out]
        simpa [cellsU8] using hown3
      have HO3 : Hid (w2.ownsRow w.heap.size 5 1 v2 (k + 1) (cellsU8 (cnt step (k + 1)))) := ho3
      clear ho3 hown3 hgrow2 hnil2 hown2 HB2
      go_wp2
      go_roundw
      case rel => exact ⟨k + 1, by omega, by go_num, HO3, HB3⟩
      case measure => simp [intOf]; omega
    · obtain rfl : k = n := by omega
      obtain ⟨hlen, hcase⟩ := hown2
      rcases hcase with ⟨_, hc⟩ | ⟨g, c, cur, rfl, hg1, hg2, hg3, hg4, hg5, hg6⟩
      · omega
      have HC : Hid (w.heap.size ≤ g ∧ g < wr.heap.size ∧ ∀ i, i < k → wr.cell? ⟨g, i, none⟩ = some (.int .u8 ((i * step % 256 : Nat) : Int))) := by
        refine ⟨hg1, ?_, fun i hik => ?_⟩
        · exact (Array.getElem?_eq_some_iff.1 hg2).1
        · have hr := World.rangeAt_of_block hg2 0 k i (.int .u8 ((i * step % 256 : Nat) : Int)) (by
            have h1 := cnt_at step k i hik
            rw [← hg6, Nat.mul_one] at h1
            simpa using h1)
          rw [Nat.zero_add] at hr
          exact hr
      clear hlen hg1 hg2 hg5 hg6 hlt
      unfold maxLen at hg4
      go_wp2
      go_ret
      exact ⟨g, c, rfl, HC.out.1, HC.out.2.1, HC.out.2.2, HB2⟩
end Go.Proofs.YtgmfiljjogdccaaDoor
namespace Go.Proofs.YtgmfiljjogdccaaDoor
open Go.RowKit
set_option linter.unusedVariables false
set_option maxHeartbeats 800000 in
set_option maxRecDepth 100000 in
theorem counted_own (n step : Nat) (w : World) (hn : n ≤ 64) (hn1 : 1 ≤ n) (hs : step ≤ 256) :
    Calls Tryd.prog 26 #[.int .i64 (n : Nat), .int .i64 (step : Nat)] w fun e w' => ∃ v, e = .returned v ∧ w'.ownsRow w.heap.size 5 1 v n (cellsU8 (cnt step n)) ∧ Below w.heap.size w w' := by
  obtain ⟨i0, hi, hz0, hz1, hz2⟩ := info_parts Tryd.info5
  go_enter Tryd.func26, Tryd.ntmps26
  go_wp2
  go_loopw [5, 6] (fun v i wr => ∃ k : Nat, k ≤ n ∧ i = .int .i64 k ∧ wr.ownsRow w.heap.size 5 1 v k (cellsU8 (cnt step k)) ∧ Hid (Below w.heap.size w wr)) (fun _ i _ => n - (intOf i).toNat)
  case atStart => exact ⟨0, by omega, rfl, World.ownsRow_nil _ _ _ _, Below.refl _ _⟩
  case round =>
    obtain ⟨k, hk, rfl, hown2, HB2⟩ := hrel
    by_cases hlt : k < n
    · obtain ⟨p, HP⟩ : ∃ p, Hid (p = k * step) := ⟨_, rfl⟩
      have hpl : p ≤ 16384 := by
        rw [HP.out]
        exact Nat.le_trans (Nat.mul_le_mul (show k ≤ 64 by omega) hs) (by decide)
      have hpm : ((k : Nat) : Int) * ((step : Nat) : Int) = ((p : Nat) : Int) := by rw [HP.out]; push_cast; rfl
      have hpi : ((p : Nat) : Int) ≤ 16384 := by omega
      have hmod : ((p : Nat) : Int) % 256 = ((p % 256 : Nat) : Int) := by omega
      obtain ⟨q, HQ⟩ : ∃ q, Hid (q = p % 256) := ⟨_, rfl⟩
      rw [← HQ.out] at hmod
      go_wp2_with (first
        | (at_builtin; go_must (refine wpList_append_own _ rfl (.tmp 12) (.tmp 17) 22 rfl w.heap.size 5 i0 (.int .u8 0) 1 1 Tryd.underlying22 hi hz0 hz1 hz2 rfl (by decide) _ _ _ rfl (hown2.alloc _) ⟨wr.heap.size, 0, none⟩ 1 1 [.int .u8 (q : Nat)] rfl rfl ?_ ?_ ?_ ?_ ?_ ?_)))
      · intro j u hj
        match j, hj with
        | 0, hj => simp at hj; subst hj; simp [Addr.add]
      · intro u hu; simp at hu; subst hu; rfl
      · unfold maxLen; omega
      · omega
      · have := HB2.out.size; simp; omega
      intro v2 w2 hown3 hgrow2 hnil2
      have HB3 : Hid (Below w.heap.size w w2) := (HB2.out.alloc HB2.out.size _).grown hgrow2 (by have := HB2.out.size; simp; omega) (fun q hq => (hown2.lt q hq).1)
      have ho3 : w2.ownsRow w.heap.size 5 1 v2 (k + 1) (cellsU8 (cnt step (k + 1))) := by
        rw [cnt_succ, cellsU8_append, ← HP.out, ← HQ.out]
        simpa [cellsU8] using hown3
      have HO3 : Hid (w2.ownsRow w.heap.size 5 1 v2 (k + 1) (cellsU8 (cnt step (k + 1)))) := ho3
      clear ho3 hown3 hgrow2 hnil2 hown2 HB2
      go_wp2
      go_roundw
      case rel => exact ⟨k + 1, by omega, by go_num, HO3, HB3⟩
      case measure => simp [intOf]; omega
    · obtain rfl : k = n := by omega
      have HO : Hid (World.ownsRow wr w.heap.size 5 1 _ k (cellsU8 (cnt step k))) := hown2
      clear hown2 hlt
      go_wp2
      go_ret
      exact ⟨_, rfl, HO.out, HB2⟩
end Go.Proofs.YtgmfiljjogdccaaDoor
namespace Go.Proofs.YtgmfiljjogdccaaDoor
open Go.RowKit Go.RwLone
set_option linter.unusedVariables false
set_option linter.unusedSimpArgs false
set_option maxHeartbeats 3200000 in
set_option maxRecDepth 100000 in
theorem kenc_ok (g nr : Nat) (K : Nat → Nat) (s : W4) (w : World) (h : KeyAt w g nr K) (hs : s.ok) :
    Calls Tryd.prog 21 #[.pointer (some ⟨g, 0, none⟩), s.blk] w fun e w' => e = .returned (.tuple #[(encW nr K s).blk, .int .i64 0]) ∧ KeyAt w' g nr K ∧ Touch w w' g 4 1 := by
  have HK : Hid (KeyAt w g nr K) := h
  have HG : Hid (g < w.heap.size) := h.ciph.here
  clear h
  obtain ⟨⟨n0, n1, n2, n3⟩, HN⟩ : ∃ t, Hid (t = encW nr K s) := ⟨_, rfl⟩
  have HB2 : Hid (Below w.heap.size w ((w.alloc (.cells #[.int .u8 (bt0 s.a : Nat), .int .u8 (bt1 s.a : Nat), .int .u8 (bt2 s.a : Nat), .int .u8 (bt3 s.a : Nat), .int .u8 (bt0 s.b : Nat), .int .u8 (bt1 s.b : Nat), .int .u8 (bt2 s.b : Nat), .int .u8 (bt3 s.b : Nat), .int .u8 (bt0 s.c : Nat), .int .u8 (bt1 s.c : Nat), .int .u8 (bt2 s.c : Nat), .int .u8 (bt3 s.c : Nat), .int .u8 (bt0 s.d : Nat), .int .u8 (bt1 s.d : Nat), .int .u8 (bt2 s.d : Nat), .int .u8 (bt3 s.d : Nat)] 42)).alloc (.cells #[.int .u8 0, .int .u8 0, .int .u8 0, .int .u8 0, .int .u8 0, .int .u8 0, .int .u8 0, .int .u8 0, .int .u8 0, .int .u8 0, .int .u8 0, .int .u8 0, .int .u8 0, .int .u8 0, .int .u8 0, .int .u8 0] 42))) := (two_allocs w _ _ 42 42).1
  have HK2 : Hid (KeyAt ((w.alloc (.cells #[.int .u8 (bt0 s.a : Nat), .int .u8 (bt1 s.a : Nat), .int .u8 (bt2 s.a : Nat), .int .u8 (bt3 s.a : Nat), .int .u8 (bt0 s.b : Nat), .int .u8 (bt1 s.b : Nat), .int .u8 (bt2 s.b : Nat), .int .u8 (bt3 s.b : Nat), .int .u8 (bt0 s.c : Nat), .int .u8 (bt1 s.c : Nat), .int .u8 (bt2 s.c : Nat), .int .u8 (bt3 s.c : Nat), .int .u8 (bt0 s.d : Nat), .int .u8 (bt1 s.d : Nat), .int .u8 (bt2 s.d : Nat), .int .u8 (bt3 s.d : Nat)] 42)).alloc (.cells #[.int .u8 0, .int .u8 0, .int .u8 0, .int .u8 0, .int .u8 0, .int .u8 0, .int .u8 0, .int .u8 0, .int .u8 0, .int .u8 0, .int .u8 0, .int .u8 0, .int .u8 0, .int .u8 0, .int .u8 0, .int .u8 0] 42)) g nr K) := HK.out.below HB2.out HG.out
  have HH : Hid (Calls Tryd.prog 39 #[.pointer (some ⟨g, 0, none⟩)] ((w.alloc (.cells #[.int .u8 (bt0 s.a : Nat), .int .u8 (bt1 s.a : Nat), .int .u8 (bt2 s.a : Nat), .int .u8 (bt3 s.a : Nat), .int .u8 (bt0 s.b : Nat), .int .u8 (bt1 s.b : Nat), .int .u8 (bt2 s.b : Nat), .int .u8 (bt3 s.b : Nat), .int .u8 (bt0 s.c : Nat), .int .u8 (bt1 s.c : Nat), .int .u8 (bt2 s.c : Nat), .int .u8 (bt3 s.c : Nat), .int .u8 (bt0 s.d : Nat), .int .u8 (bt1 s.d : Nat), .int .u8 (bt2 s.d : Nat), .int .u8 (bt3 s.d : Nat)] 42)).alloc (.cells #[.int .u8 0, .int .u8 0, .int .u8 0, .int .u8 0, .int .u8 0, .int .u8 0, .int .u8 0, .int .u8 0, .int .u8 0, .int .u8 0, .int .u8 0, .int .u8 0, .int .u8 0, .int .u8 0, .int .u8 0, .int .u8 0] 42)) fun e w' => e = .returned (.int .i64 0) ∧ w' = (((w.alloc (.cells #[.int .u8 (bt0 s.a : Nat), .int .u8 (bt1 s.a : Nat), .int .u8 (bt2 s.a : Nat), .int .u8 (bt3 s.a : Nat), .int .u8 (bt0 s.b : Nat), .int .u8 (bt1 s.b : Nat), .int .u8 (bt2 s.b : Nat), .int .u8 (bt3 s.b : Nat), .int .u8 (bt0 s.c : Nat), .int .u8 (bt1 s.c : Nat), .int .u8 (bt2 s.c : Nat), .int .u8 (bt3 s.c : Nat), .int .u8 (bt0 s.d : Nat), .int .u8 (bt1 s.d : Nat), .int .u8 (bt2 s.d : Nat), .int .u8 (bt3 s.d : Nat)] 42)).alloc (.cells #[.int .u8 0, .int .u8 0, .int .u8 0, .int .u8 0, .int .u8 0, .int .u8 0, .int .u8 0, .int .u8 0, .int .u8 0, .int .u8 0, .int .u8 0, .int .u8 0, .int .u8 0, .int .u8 0, .int .u8 0, .int .u8 0] 42))).setCell ⟨g, 4, none⟩ (.int .i32 1)) := hold_ok g nr K _ HK2.out
  have HE : Hid (∀ u, Ciph u g 6 nr K → Calls Tryd.prog 43 #[.pointer (some ⟨g, 6, none⟩), .agg #[.int .u8 (bt0 s.a : Nat), .int .u8 (bt1 s.a : Nat), .int .u8 (bt2 s.a : Nat), .int .u8 (bt3 s.a : Nat), .int .u8 (bt0 s.b : Nat), .int .u8 (bt1 s.b : Nat), .int .u8 (bt2 s.b : Nat), .int .u8 (bt3 s.b : Nat), .int .u8 (bt0 s.c : Nat), .int .u8 (bt1 s.c : Nat), .int .u8 (bt2 s.c : Nat), .int .u8 (bt3 s.c : Nat), .int .u8 (bt0 s.d : Nat), .int .u8 (bt1 s.d : Nat), .int .u8 (bt2 s.d : Nat), .int .u8 (bt3 s.d : Nat)]] u fun e u' => e = .returned (.agg #[.int .u8 (bt0 n0 : Nat), .int .u8 (bt1 n0 : Nat), .int .u8 (bt2 n0 : Nat), .int .u8 (bt3 n0 : Nat), .int .u8 (bt0 n1 : Nat), .int .u8 (bt1 n1 : Nat), .int .u8 (bt2 n1 : Nat), .int .u8 (bt3 n1 : Nat), .int .u8 (bt0 n2 : Nat), .int .u8 (bt1 n2 : Nat), .int .u8 (bt2 n2 : Nat), .int .u8 (bt3 n2 : Nat), .int .u8 (bt0 n3 : Nat), .int .u8 (bt1 n3 : Nat), .int .u8 (bt2 n3 : Nat), .int .u8 (bt3 n3 : Nat)]) ∧ Below u.heap.size u u') := fun u hu => by
    have := enc_ok g 6 nr K s u hu hs
    rw [← HN.out] at this
    exact this
  clear hs
  have HSZ : Hid (((w.alloc (.cells #[.int .u8 (bt0 s.a : Nat), .int .u8 (bt1 s.a : Nat), .int .u8 (bt2 s.a : Nat), .int .u8 (bt3 s.a : Nat), .int .u8 (bt0 s.b : Nat), .int .u8 (bt1 s.b : Nat), .int .u8 (bt2 s.b : Nat), .int .u8 (bt3 s.b : Nat), .int .u8 (bt0 s.c : Nat), .int .u8 (bt1 s.c : Nat), .int .u8 (bt2 s.c : Nat), .int .u8 (bt3 s.c : Nat), .int .u8 (bt0 s.d : Nat), .int .u8 (bt1 s.d : Nat), .int .u8 (bt2 s.d : Nat), .int .u8 (bt3 s.d : Nat)] 42)).alloc (.cells #[.int .u8 0, .int .u8 0, .int .u8 0, .int .u8 0, .int .u8 0, .int .u8 0, .int .u8 0, .int .u8 0, .int .u8 0, .int .u8 0, .int .u8 0, .int .u8 0, .int .u8 0, .int .u8 0, .int .u8 0, .int .u8 0] 42)).heap.size = w.heap.size + 2) := by show _ = _; simp
  have HTH : Hid (((w.alloc (.cells #[.int .u8 (bt0 s.a : Nat), .int .u8 (bt1 s.a : Nat), .int .u8 (bt2 s.a : Nat), .int .u8 (bt3 s.a : Nat), .int .u8 (bt0 s.b : Nat), .int .u8 (bt1 s.b : Nat), .int .u8 (bt2 s.b : Nat), .int .u8 (bt3 s.b : Nat), .int .u8 (bt0 s.c : Nat), .int .u8 (bt1 s.c : Nat), .int .u8 (bt2 s.c : Nat), .int .u8 (bt3 s.c : Nat), .int .u8 (bt0 s.d : Nat), .int .u8 (bt1 s.d : Nat), .int .u8 (bt2 s.d : Nat), .int .u8 (bt3 s.d : Nat)] 42)).alloc (.cells #[.int .u8 0, .int .u8 0, .int .u8 0, .int .u8 0, .int .u8 0, .int .u8 0, .int .u8 0, .int .u8 0, .int .u8 0, .int .u8 0, .int .u8 0, .int .u8 0, .int .u8 0, .int .u8 0, .int .u8 0, .int .u8 0] 42)).there (w.heap.size + 1) 0 16) := there_two w _ _ 42 42 rfl
  have HRG : Hid (((w.alloc (.cells #[.int .u8 (bt0 s.a : Nat), .int .u8 (bt1 s.a : Nat), .int .u8 (bt2 s.a : Nat), .int .u8 (bt3 s.a : Nat), .int .u8 (bt0 s.b : Nat), .int .u8 (bt1 s.b : Nat), .int .u8 (bt2 s.b : Nat), .int .u8 (bt3 s.b : Nat), .int .u8 (bt0 s.c : Nat), .int .u8 (bt1 s.c : Nat), .int .u8 (bt2 s.c : Nat), .int .u8 (bt3 s.c : Nat), .int .u8 (bt0 s.d : Nat), .int .u8 (bt1 s.d : Nat), .int .u8 (bt2 s.d : Nat), .int .u8 (bt3 s.d : Nat)] 42)).alloc (.cells #[.int .u8 0, .int .u8 0, .int .u8 0, .int .u8 0, .int .u8 0, .int .u8 0, .int .u8 0, .int .u8 0, .int .u8 0, .int .u8 0, .int .u8 0, .int .u8 0, .int .u8 0, .int .u8 0, .int .u8 0, .int .u8 0] 42)).rangeAt w.heap.size 0 [.int .u8 (bt0 s.a : Nat), .int .u8 (bt1 s.a : Nat), .int .u8 (bt2 s.a : Nat), .int .u8 (bt3 s.a : Nat), .int .u8 (bt0 s.b : Nat), .int .u8 (bt1 s.b : Nat), .int .u8 (bt2 s.b : Nat), .int .u8 (bt3 s.b : Nat), .int .u8 (bt0 s.c : Nat), .int .u8 (bt1 s.c : Nat), .int .u8 (bt2 s.c : Nat), .int .u8 (bt3 s.c : Nat), .int .u8 (bt0 s.d : Nat), .int .u8 (bt1 s.d : Nat), .int .u8 (bt2 s.d : Nat), .int .u8 (bt3 s.d : Nat)]) := fun j v hv => by simpa using (two_allocs w #[.int .u8 (bt0 s.a : Nat), .int .u8 (bt1 s.a : Nat), .int .u8 (bt2 s.a : Nat), .int .u8 (bt3 s.a : Nat), .int .u8 (bt0 s.b : Nat), .int .u8 (bt1 s.b : Nat), .int .u8 (bt2 s.b : Nat), .int .u8 (bt3 s.b : Nat), .int .u8 (bt0 s.c : Nat), .int .u8 (bt1 s.c : Nat), .int .u8 (bt2 s.c : Nat), .int .u8 (bt3 s.c : Nat), .int .u8 (bt0 s.d : Nat), .int .u8 (bt1 s.d : Nat), .int .u8 (bt2 s.d : Nat), .int .u8 (bt3 s.d : Nat)] #[.int .u8 0, .int .u8 0, .int .u8 0, .int .u8 0, .int .u8 0, .int .u8 0, .int .u8 0, .int .u8 0, .int .u8 0, .int .u8 0, .int .u8 0, .int .u8 0, .int .u8 0, .int .u8 0, .int .u8 0, .int .u8 0] 42 42).2 j v (by simpa using hv)
  show Calls Tryd.prog 21 #[.pointer (some ⟨g, 0, none⟩), .agg #[.int .u8 (bt0 s.a : Nat), .int .u8 (bt1 s.a : Nat), .int .u8 (bt2 s.a : Nat), .int .u8 (bt3 s.a : Nat), .int .u8 (bt0 s.b : Nat), .int .u8 (bt1 s.b : Nat), .int .u8 (bt2 s.b : Nat), .int .u8 (bt3 s.b : Nat), .int .u8 (bt0 s.c : Nat), .int .u8 (bt1 s.c : Nat), .int .u8 (bt2 s.c : Nat), .int .u8 (bt3 s.c : Nat), .int .u8 (bt0 s.d : Nat), .int .u8 (bt1 s.d : Nat), .int .u8 (bt2 s.d : Nat), .int .u8 (bt3 s.d : Nat)]] w _
  go_enter_defers Tryd.func21, Tryd.ntmps21
  go_wp2_with (first | (go_at_call 39; refine HH.out.mono ?_))
  rintro e1 w1 ⟨rfl, hw1⟩
  have H1 : Hid (Ciph w1 g 6 nr K ∧ Touch ((w.alloc (.cells #[.int .u8 (bt0 s.a : Nat), .int .u8 (bt1 s.a : Nat), .int .u8 (bt2 s.a : Nat), .int .u8 (bt3 s.a : Nat), .int .u8 (bt0 s.b : Nat), .int .u8 (bt1 s.b : Nat), .int .u8 (bt2 s.b : Nat), .int .u8 (bt3 s.b : Nat), .int .u8 (bt0 s.c : Nat), .int .u8 (bt1 s.c : Nat), .int .u8 (bt2 s.c : Nat), .int .u8 (bt3 s.c : Nat), .int .u8 (bt0 s.d : Nat), .int .u8 (bt1 s.d : Nat), .int .u8 (bt2 s.d : Nat), .int .u8 (bt3 s.d : Nat)] 42)).alloc (.cells #[.int .u8 0, .int .u8 0, .int .u8 0, .int .u8 0, .int .u8 0, .int .u8 0, .int .u8 0, .int .u8 0, .int .u8 0, .int .u8 0, .int .u8 0, .int .u8 0, .int .u8 0, .int .u8 0, .int .u8 0, .int .u8 0] 42)) w1 g 4 1 ∧ w1.cell? ⟨g, 4, none⟩ = some (.int .i32 1)) := by
    rw [hw1]
    refine ⟨held_ciph HK2.out 1, (Touch.refl _ g 4 1).setCell 4 _ (by omega) (by omega), ?_⟩
    have := (HK2.out.room 4 (by decide)).1
    exact World.cell?_setCell_same' _ _ _ (by simpa using this)
  clear hw1 HH
  have gl : Hid (∀ u, Below w1.heap.size w1 u → u.rangeAt w.heap.size 0 [.int .u8 (bt0 s.a : Nat), .int .u8 (bt1 s.a : Nat), .int .u8 (bt2 s.a : Nat), .int .u8 (bt3 s.a : Nat), .int .u8 (bt0 s.b : Nat), .int .u8 (bt1 s.b : Nat), .int .u8 (bt2 s.b : Nat), .int .u8 (bt3 s.b : Nat), .int .u8 (bt0 s.c : Nat), .int .u8 (bt1 s.c : Nat), .int .u8 (bt2 s.c : Nat), .int .u8 (bt3 s.c : Nat), .int .u8 (bt0 s.d : Nat), .int .u8 (bt1 s.d : Nat), .int .u8 (bt2 s.d : Nat), .int .u8 (bt3 s.d : Nat)]) := fun u hu j v hv => by
    have hs := H1.out.2.1.size
    have hz := HSZ.out
    have hgw := HG.out
    rw [hu.cell (p := ⟨w.heap.size, 0 + j, none⟩) (show w.heap.size < _ by omega), H1.out.2.1.far (p := ⟨w.heap.size, 0 + j, none⟩) (show w.heap.size < _ by omega) (show w.heap.size ≠ g by omega)]
    exact HRG.out j v hv
  go_wp2_with fail
  have hS0 : Below w1.heap.size w1 w1.drew := (Below.refl _ _).drew
  refine wp_region_noPanic ?_
  refine wp_region_till (fun u => Below w1.heap.size w1 u) 4 (by kernel_rfl) (by decide) (by kernel_rfl) (by kernel_rfl) (by kernel_rfl) (fun inv => ?_)
  refine till_at 0 16 (.pointer (some ⟨g, 0, none⟩)) inv rfl rfl (by decide) (by kernel_rfl) (by kernel_rfl) (fun _ _ _ h => h) (hS0) (Or.inl ⟨by rfl, fun w' hS' => by go_simp⟩) (fun inv' => ?_)
  clear inv; have inv := inv'; clear inv'
  simp only [List.setIfInBounds_toArray, List.set_cons_zero, List.set_cons_succ]
  refine till_at 1 17 (.pointer (some ⟨g, 0, none⟩)) inv rfl rfl (by decide) (by kernel_rfl) (by kernel_rfl) (fun _ _ _ h => h) (hS0) (Or.inl ⟨by rfl, fun w' hS' => by go_simp⟩) (fun inv' => ?_)
  clear inv; have inv := inv'; clear inv'
  simp only [List.setIfInBounds_toArray, List.set_cons_zero, List.set_cons_succ]
  refine till_at 2 18 (.pointer (some ⟨g, 6, none⟩)) inv rfl rfl (by decide) (by kernel_rfl) (by kernel_rfl) (fun _ _ _ h => h) (hS0) (Or.inl ⟨by rfl, fun w' hS' => by go_simp⟩) (fun inv' => ?_)
  clear inv; have inv := inv'; clear inv'
  simp only [List.setIfInBounds_toArray, List.set_cons_zero, List.set_cons_succ]
  refine till_at 3 19 (.agg #[.int .u8 (bt0 s.a : Nat), .int .u8 (bt1 s.a : Nat), .int .u8 (bt2 s.a : Nat), .int .u8 (bt3 s.a : Nat), .int .u8 (bt0 s.b : Nat), .int .u8 (bt1 s.b : Nat), .int .u8 (bt2 s.b : Nat), .int .u8 (bt3 s.b : Nat), .int .u8 (bt0 s.c : Nat), .int .u8 (bt1 s.c : Nat), .int .u8 (bt2 s.c : Nat), .int .u8 (bt3 s.c : Nat), .int .u8 (bt0 s.d : Nat), .int .u8 (bt1 s.d : Nat), .int .u8 (bt2 s.d : Nat), .int .u8 (bt3 s.d : Nat)]) inv rfl rfl (by decide) (by kernel_rfl) (by kernel_rfl) (fun _ _ _ h => h) (hS0) (yieldsIf_load_mid (by rfl) 42 (.tmp 3) rfl w.heap.size 0 rfl [.int .u8 (bt0 s.a : Nat), .int .u8 (bt1 s.a : Nat), .int .u8 (bt2 s.a : Nat), .int .u8 (bt3 s.a : Nat), .int .u8 (bt0 s.b : Nat), .int .u8 (bt1 s.b : Nat), .int .u8 (bt2 s.b : Nat), .int .u8 (bt3 s.b : Nat), .int .u8 (bt0 s.c : Nat), .int .u8 (bt1 s.c : Nat), .int .u8 (bt2 s.c : Nat), .int .u8 (bt3 s.c : Nat), .int .u8 (bt0 s.d : Nat), .int .u8 (bt1 s.d : Nat), .int .u8 (bt2 s.d : Nat), .int .u8 (bt3 s.d : Nat)] _ (fun u hu => gl.out u hu) Tryd.underlying42 rfl size42) (fun inv' => ?_)
  clear inv; have inv := inv'; clear inv'
  simp only [List.setIfInBounds_toArray, List.set_cons_zero, List.set_cons_succ]
  refine till_tail (i := 4) (by kernel_rfl) (by decide) rfl (fun K hK => ?_)
  go_simp
  refine (HE.out _ (H1.out.1.below hS0 H1.out.1.here)).mono ?_
  rintro e1 u2 ⟨rfl, hu2⟩
  go_wp2_with fail
  refine hK.out _ _ ?_
  clear hK K
  try simp only [List.setIfInBounds_toArray, List.set_cons_zero, List.set_cons_succ]
  have HT2 : Hid (u2.there (w.heap.size + 1) 0 16 ∧ Touch w u2 g 4 1 ∧ u2.cell? ⟨g, 4, none⟩ = some (.int .i32 1)) := by
    have hs := H1.out.2.1.size
    have hz := HSZ.out
    have hgw := HG.out
    have hg1 := H1.out.1.here
    have hb : Below w1.heap.size w1 u2 := hS0.trans (hu2.mono (Nat.le_refl _))
    refine ⟨there_below (fun j hj => ?_) hb (by omega), ?_, (hb.cell hg1).trans H1.out.2.2⟩
    · rw [H1.out.2.1.far (p := ⟨w.heap.size + 1, 0 + j, none⟩) (show w.heap.size + 1 < _ by omega) (show w.heap.size + 1 ≠ g by omega), H1.out.2.1.farFrozen (p := ⟨w.heap.size + 1, 0 + j, none⟩) (show w.heap.size + 1 < _ by omega) (show w.heap.size + 1 ≠ g by omega)]
      exact HTH.out j hj
    · exact ((((Touch.refl w g 4 1).alloc _ hgw).alloc _ hgw).trans H1.out.2.1).below hb hgw
  refine till_tail (i := 5) (by kernel_rfl) (by decide) rfl (fun K hK => ?_)
  rw [if_pos (by rfl)]
  refine wp_store_mid 42 (.tmp 4) (.tmp 20) rfl (w.heap.size + 1) 0 #[.int .u8 (bt0 n0 : Nat), .int .u8 (bt1 n0 : Nat), .int .u8 (bt2 n0 : Nat), .int .u8 (bt3 n0 : Nat), .int .u8 (bt0 n1 : Nat), .int .u8 (bt1 n1 : Nat), .int .u8 (bt2 n1 : Nat), .int .u8 (bt3 n1 : Nat), .int .u8 (bt0 n2 : Nat), .int .u8 (bt1 n2 : Nat), .int .u8 (bt2 n2 : Nat), .int .u8 (bt3 n2 : Nat), .int .u8 (bt0 n3 : Nat), .int .u8 (bt1 n3 : Nat), .int .u8 (bt2 n3 : Nat), .int .u8 (bt3 n3 : Nat)] rfl rfl (HT2.out.1) (size42) (by kernel_rfl) ?_
  refine hK.out _ _ ?_
  clear hK K
  try simp only [List.setIfInBounds_toArray, List.set_cons_zero, List.set_cons_succ]
  refine till_tail (i := 6) (by kernel_rfl) (by decide) rfl (fun K hK => ?_)
  go_simp
  refine hK.out _ _ ?_
  clear hK K
  try simp only [List.setIfInBounds_toArray, List.set_cons_zero, List.set_cons_succ]
  refine till_done (by kernel_rfl) ?_ _
  refine NoPanic.normal ?_
  have HF : Hid ((u2.setCells (w.heap.size + 1) 0 [.int .u8 (bt0 n0 : Nat), .int .u8 (bt1 n0 : Nat), .int .u8 (bt2 n0 : Nat), .int .u8 (bt3 n0 : Nat), .int .u8 (bt0 n1 : Nat), .int .u8 (bt1 n1 : Nat), .int .u8 (bt2 n1 : Nat), .int .u8 (bt3 n1 : Nat), .int .u8 (bt0 n2 : Nat), .int .u8 (bt1 n2 : Nat), .int .u8 (bt2 n2 : Nat), .int .u8 (bt3 n2 : Nat), .int .u8 (bt0 n3 : Nat), .int .u8 (bt1 n3 : Nat), .int .u8 (bt2 n3 : Nat), .int .u8 (bt3 n3 : Nat)]).rangeAt (w.heap.size + 1) 0 [.int .u8 (bt0 n0 : Nat), .int .u8 (bt1 n0 : Nat), .int .u8 (bt2 n0 : Nat), .int .u8 (bt3 n0 : Nat), .int .u8 (bt0 n1 : Nat), .int .u8 (bt1 n1 : Nat), .int .u8 (bt2 n1 : Nat), .int .u8 (bt3 n1 : Nat), .int .u8 (bt0 n2 : Nat), .int .u8 (bt1 n2 : Nat), .int .u8 (bt2 n2 : Nat), .int .u8 (bt3 n2 : Nat), .int .u8 (bt0 n3 : Nat), .int .u8 (bt1 n3 : Nat), .int .u8 (bt2 n3 : Nat), .int .u8 (bt3 n3 : Nat)] ∧ Touch w (u2.setCells (w.heap.size + 1) 0 [.int .u8 (bt0 n0 : Nat), .int .u8 (bt1 n0 : Nat), .int .u8 (bt2 n0 : Nat), .int .u8 (bt3 n0 : Nat), .int .u8 (bt0 n1 : Nat), .int .u8 (bt1 n1 : Nat), .int .u8 (bt2 n1 : Nat), .int .u8 (bt3 n1 : Nat), .int .u8 (bt0 n2 : Nat), .int .u8 (bt1 n2 : Nat), .int .u8 (bt2 n2 : Nat), .int .u8 (bt3 n2 : Nat), .int .u8 (bt0 n3 : Nat), .int .u8 (bt1 n3 : Nat), .int .u8 (bt2 n3 : Nat), .int .u8 (bt3 n3 : Nat)]) g 4 1 ∧ (u2.setCells (w.heap.size + 1) 0 [.int .u8 (bt0 n0 : Nat), .int .u8 (bt1 n0 : Nat), .int .u8 (bt2 n0 : Nat), .int .u8 (bt3 n0 : Nat), .int .u8 (bt0 n1 : Nat), .int .u8 (bt1 n1 : Nat), .int .u8 (bt2 n1 : Nat), .int .u8 (bt3 n1 : Nat), .int .u8 (bt0 n2 : Nat), .int .u8 (bt1 n2 : Nat), .int .u8 (bt2 n2 : Nat), .int .u8 (bt3 n2 : Nat), .int .u8 (bt0 n3 : Nat), .int .u8 (bt1 n3 : Nat), .int .u8 (bt2 n3 : Nat), .int .u8 (bt3 n3 : Nat)]).cell? ⟨g, 4, none⟩ = some (.int .i32 1)) := by
    have hgw := HG.out
    refine ⟨World.rangeAt_setCells_same _ _ _ _ HT2.out.1, touch_new HT2.out.2.1 (Nat.le_succ _) _ _ hgw, ?_⟩
    rw [World.cell?_setCells_out (w.heap.size + 1) _ 0 u2 ⟨g, 4, none⟩ (fun e _ => absurd e (by simp; omega))]
    exact HT2.out.2.2
  generalize u2.setCells (w.heap.size + 1) 0 [.int .u8 (bt0 n0 : Nat), .int .u8 (bt1 n0 : Nat), .int .u8 (bt2 n0 : Nat), .int .u8 (bt3 n0 : Nat), .int .u8 (bt0 n1 : Nat), .int .u8 (bt1 n1 : Nat), .int .u8 (bt2 n1 : Nat), .int .u8 (bt3 n1 : Nat), .int .u8 (bt0 n2 : Nat), .int .u8 (bt1 n2 : Nat), .int .u8 (bt2 n2 : Nat), .int .u8 (bt3 n2 : Nat), .int .u8 (bt0 n3 : Nat), .int .u8 (bt1 n3 : Nat), .int .u8 (bt2 n3 : Nat), .int .u8 (bt3 n3 : Nat)] = w3 at HF ⊢
  clear hu2 hS0 gl
  go_wp2
  have hroom : w3.there g 0 1091 := HF.out.2.1.there _ _ HK.out.room
  obtain ⟨x0, c0⟩ := cell_of_there hroom 0 (by decide)
  obtain ⟨x2, c2⟩ := cell_of_there hroom 2 (by decide)
  have hz := (hroom 4 (by decide)).2
  have hcnt := HF.out.2.2
  refine leaves_cons (f := 40) (args := #[.pointer (some ⟨g, 0, none⟩)]) (by simp) (by simp [go_sem]) ?_
  refine (runlock_deferred rwRLib g 0 1 x0 x2 .returning _ c0 c2 hcnt hz (by decide +kernel)).mono ?_
  rintro e5 u5 w5 ⟨rfl, rfl, hw5⟩
  rw [show wrap32 (1 + -1) = 0 by decide +kernel] at hw5
  have hw5' : w5 = w3.setCells g 4 [.int .i32 0] := hw5
  have hg : g ≠ w.heap.size + 1 := by have := HG.out; omega
  have ht5 : Touch w w5 g 4 1 := by rw [hw5']; exact HF.out.2.1.setCells 4 _ (by omega) (by simp)
  have hc5 : w5.cell? ⟨g, 4, none⟩ = some (.int .i32 0) := by
    rw [hw5]
    exact World.cell?_setCell_same' _ _ _ (by rw [show (0 + 4) = 4 from rfl, hcnt]; rfl)
  have hr5 : w5.rangeAt (w.heap.size + 1) 0 [.int .u8 (bt0 n0 : Nat), .int .u8 (bt1 n0 : Nat), .int .u8 (bt2 n0 : Nat), .int .u8 (bt3 n0 : Nat), .int .u8 (bt0 n1 : Nat), .int .u8 (bt1 n1 : Nat), .int .u8 (bt2 n1 : Nat), .int .u8 (bt3 n1 : Nat), .int .u8 (bt0 n2 : Nat), .int .u8 (bt1 n2 : Nat), .int .u8 (bt2 n2 : Nat), .int .u8 (bt3 n2 : Nat), .int .u8 (bt0 n3 : Nat), .int .u8 (bt1 n3 : Nat), .int .u8 (bt2 n3 : Nat), .int .u8 (bt3 n3 : Nat)] := by rw [hw5']; exact World.rangeAt_setCells_apart HF.out.1 _ _ _ (Or.inl (Ne.symm hg))
  have hl := run_loadVar_mid (P := Tryd.prog) w5 (w.heap.size + 1) 0 42 [.int .u8 (bt0 n0 : Nat), .int .u8 (bt1 n0 : Nat), .int .u8 (bt2 n0 : Nat), .int .u8 (bt3 n0 : Nat), .int .u8 (bt0 n1 : Nat), .int .u8 (bt1 n1 : Nat), .int .u8 (bt2 n1 : Nat), .int .u8 (bt3 n1 : Nat), .int .u8 (bt0 n2 : Nat), .int .u8 (bt1 n2 : Nat), .int .u8 (bt2 n2 : Nat), .int .u8 (bt3 n2 : Nat), .int .u8 (bt0 n3 : Nat), .int .u8 (bt1 n3 : Nat), .int .u8 (bt2 n3 : Nat), .int .u8 (bt3 n3 : Nat)] _ hr5 Tryd.underlying42 rfl size42
  refine ⟨.tuple #[.agg #[.int .u8 (bt0 n0 : Nat), .int .u8 (bt1 n0 : Nat), .int .u8 (bt2 n0 : Nat), .int .u8 (bt3 n0 : Nat), .int .u8 (bt0 n1 : Nat), .int .u8 (bt1 n1 : Nat), .int .u8 (bt2 n1 : Nat), .int .u8 (bt3 n1 : Nat), .int .u8 (bt0 n2 : Nat), .int .u8 (bt1 n2 : Nat), .int .u8 (bt2 n2 : Nat), .int .u8 (bt3 n2 : Nat), .int .u8 (bt0 n3 : Nat), .int .u8 (bt1 n3 : Nat), .int .u8 (bt2 n3 : Nat), .int .u8 (bt3 n3 : Nat)], .int .i64 0], ?_, ?_, HK.out.touch ht5 hc5, ht5⟩
  · rw [results_cell_tmp Tryd.results21]
    simp [asAddr, hl]
  · rw [← HN.out]
    exact rfl
end Go.Proofs.YtgmfiljjogdccaaDoor
namespace Go.Proofs.YtgmfiljjogdccaaDoor
open Go.RowKit Go.RwLone
set_option linter.unusedVariables false
set_option linter.unusedSimpArgs false
set_option maxHeartbeats 3200000 in
set_option maxRecDepth 100000 in
theorem kdec_ok (g nr : Nat) (K : Nat → Nat) (s : W4) (w : World) (h : KeyAt w g nr K) (hs : s.ok) :
    Calls Tryd.prog 22 #[.pointer (some ⟨g, 0, none⟩), s.blk] w fun e w' => e = .returned (.tuple #[(dcW nr K s).blk, .int .i64 0]) ∧ KeyAt w' g nr K ∧ Touch w w' g 4 1 := by
  have HK : Hid (KeyAt w g nr K) := h
  have HG : Hid (g < w.heap.size) := h.ciph.here
  clear h
  obtain ⟨⟨n0, n1, n2, n3⟩, HN⟩ : ∃ t, Hid (t = dcW nr K s) := ⟨_, rfl⟩
  have HB2 : Hid (Below w.heap.size w ((w.alloc (.cells #[.int .u8 (bt0 s.a : Nat), .int .u8 (bt1 s.a : Nat), .int .u8 (bt2 s.a : Nat), .int .u8 (bt3 s.a : Nat), .int .u8 (bt0 s.b : Nat), .int .u8 (bt1 s.b : Nat), .int .u8 (bt2 s.b : Nat), .int .u8 (bt3 s.b : Nat), .int .u8 (bt0 s.c : Nat), .int .u8 (bt1 s.c : Nat), .int .u8 (bt2 s.c : Nat), .int .u8 (bt3 s.c : Nat), .int .u8 (bt0 s.d : Nat), .int .u8 (bt1 s.d : Nat), .int .u8 (bt2 s.d : Nat), .int .u8 (bt3 s.d : Nat)] 42)).alloc (.cells #[.int .u8 0, .int .u8 0, .int .u8 0, .int .u8 0, .int .u8 0, .int .u8 0, .int .u8 0, .int .u8 0, .int .u8 0, .int .u8 0, .int .u8 0, .int .u8 0, .int .u8 0, .int .u8 0, .int .u8 0, .int .u8 0] 42))) := (two_allocs w _ _ 42 42).1
  have HK2 : Hid (KeyAt ((w.alloc (.cells #[.int .u8 (bt0 s.a : Nat), .int .u8 (bt1 s.a : Nat), .int .u8 (bt2 s.a : Nat), .int .u8 (bt3 s.a : Nat), .int .u8 (bt0 s.b : Nat), .int .u8 (bt1 s.b : Nat), .int .u8 (bt2 s.b : Nat), .int .u8 (bt3 s.b : Nat), .int .u8 (bt0 s.c : Nat), .int .u8 (bt1 s.c : Nat), .int .u8 (bt2 s.c : Nat), .int .u8 (bt3 s.c : Nat), .int .u8 (bt0 s.d : Nat), .int .u8 (bt1 s.d : Nat), .int .u8 (bt2 s.d : Nat), .int .u8 (bt3 s.d : Nat)] 42)).alloc (.cells #[.int .u8 0, .int .u8 0, .int .u8 0, .int .u8 0, .int .u8 0, .int .u8 0, .int .u8 0, .int .u8 0, .int .u8 0, .int .u8 0, .int .u8 0, .int .u8 0, .int .u8 0, .int .u8 0, .int .u8 0, .int .u8 0] 42)) g nr K) := HK.out.below HB2.out HG.out
  have HH : Hid (Calls Tryd.prog 39 #[.pointer (some ⟨g, 0, none⟩)] ((w.alloc (.cells #[.int .u8 (bt0 s.a : Nat), .int .u8 (bt1 s.a : Nat), .int .u8 (bt2 s.a : Nat), .int .u8 (bt3 s.a : Nat), .int .u8 (bt0 s.b : Nat), .int .u8 (bt1 s.b : Nat), .int .u8 (bt2 s.b : Nat), .int .u8 (bt3 s.b : Nat), .int .u8 (bt0 s.c : Nat), .int .u8 (bt1 s.c : Nat), .int .u8 (bt2 s.c : Nat), .int .u8 (bt3 s.c : Nat), .int .u8 (bt0 s.d : Nat), .int .u8 (bt1 s.d : Nat), .int .u8 (bt2 s.d : Nat), .int .u8 (bt3 s.d : Nat)] 42)).alloc (.cells #[.int .u8 0, .int .u8 0, .int .u8 0, .int .u8 0, .int .u8 0, .int .u8 0, .int .u8 0, .int .u8 0, .int .u8 0, .int .u8 0, .int .u8 0, .int .u8 0, .int .u8 0, .int .u8 0, .int .u8 0, .int .u8 0] 42)) fun e w' => e = .returned (.int .i64 0) ∧ w' = (((w.alloc (.cells #[.int .u8 (bt0 s.a : Nat), .int .u8 (bt1 s.a : Nat), .int .u8 (bt2 s.a : Nat), .int .u8 (bt3 s.a : Nat), .int .u8 (bt0 s.b : Nat), .int .u8 (bt1 s.b : Nat), .int .u8 (bt2 s.b : Nat), .int .u8 (bt3 s.b : Nat), .int .u8 (bt0 s.c : Nat), .int .u8 (bt1 s.c : Nat), .int .u8 (bt2 s.c : Nat), .int .u8 (bt3 s.c : Nat), .int .u8 (bt0 s.d : Nat), .int .u8 (bt1 s.d : Nat), .int .u8 (bt2 s.d : Nat), .int .u8 (bt3 s.d : Nat)] 42)).alloc (.cells #[.int .u8 0, .int .u8 0, .int .u8 0, .int .u8 0, .int .u8 0, .int .u8 0, .int .u8 0, .int .u8 0, .int .u8 0, .int .u8 0, .int .u8 0, .int .u8 0, .int .u8 0, .int .u8 0, .int .u8 0, .int .u8 0] 42))).setCell ⟨g, 4, none⟩ (.int .i32 1)) := hold_ok g nr K _ HK2.out
  have HE : Hid (∀ u, Ciph u g 6 nr K → Calls Tryd.prog 44 #[.pointer (some ⟨g, 6, none⟩), .agg #[.int .u8 (bt0 s.a : Nat), .int .u8 (bt1 s.a : Nat), .int .u8 (bt2 s.a : Nat), .int .u8 (bt3 s.a : Nat), .int .u8 (bt0 s.b : Nat), .int .u8 (bt1 s.b : Nat), .int .u8 (bt2 s.b : Nat), .int .u8 (bt3 s.b : Nat), .int .u8 (bt0 s.c : Nat), .int .u8 (bt1 s.c : Nat), .int .u8 (bt2 s.c : Nat), .int .u8 (bt3 s.c : Nat), .int .u8 (bt0 s.d : Nat), .int .u8 (bt1 s.d : Nat), .int .u8 (bt2 s.d : Nat), .int .u8 (bt3 s.d : Nat)]] u fun e u' => e = .returned (.agg #[.int .u8 (bt0 n0 : Nat), .int .u8 (bt1 n0 : Nat), .int .u8 (bt2 n0 : Nat), .int .u8 (bt3 n0 : Nat), .int .u8 (bt0 n1 : Nat), .int .u8 (bt1 n1 : Nat), .int .u8 (bt2 n1 : Nat), .int .u8 (bt3 n1 : Nat), .int .u8 (bt0 n2 : Nat), .int .u8 (bt1 n2 : Nat), .int .u8 (bt2 n2 : Nat), .int .u8 (bt3 n2 : Nat), .int .u8 (bt0 n3 : Nat), .int .u8 (bt1 n3 : Nat), .int .u8 (bt2 n3 : Nat), .int .u8 (bt3 n3 : Nat)]) ∧ Below u.heap.size u u') := fun u hu => by
    have := dec_ok g 6 nr K s u hu hs
    rw [← HN.out] at this
    exact this
  clear hs
  have HSZ : Hid (((w.alloc (.cells #[.int .u8 (bt0 s.a : Nat), .int .u8 (bt1 s.a : Nat), .int .u8 (bt2 s.a : Nat), .int .u8 (bt3 s.a : Nat), .int .u8 (bt0 s.b : Nat), .int .u8 (bt1 s.b : Nat), .int .u8 (bt2 s.b : Nat), .int .u8 (bt3 s.b : Nat), .int .u8 (bt0 s.c : Nat), .int .u8 (bt1 s.c : Nat), .int .u8 (bt2 s.c : Nat), .int .u8 (bt3 s.c : Nat), .int .u8 (bt0 s.d : Nat), .int .u8 (bt1 s.d : Nat), .int .u8 (bt2 s.d : Nat), .int .u8 (bt3 s.d : Nat)] 42)).alloc (.cells #[.int .u8 0, .int .u8 0, .int .u8 0, .int .u8 0, .int .u8 0, .int .u8 0, .int .u8 0, .int .u8 0, .int .u8 0, .int .u8 0, .int .u8 0, .int .u8 0, .int .u8 0, .int .u8 0, .int .u8 0, .int .u8 0] 42)).heap.size = w.heap.size + 2) := by show _ = _; simp
  have HTH : Hid (((w.alloc (.cells #[.int .u8 (bt0 s.a : Nat), .int .u8 (bt1 s.a : Nat), .int .u8 (bt2 s.a : Nat), .int .u8 (bt3 s.a : Nat), .int .u8 (bt0 s.b : Nat), .int .u8 (bt1 s.b : Nat), .int .u8 (bt2 s.b : Nat), .int .u8 (bt3 s.b : Nat), .int .u8 (bt0 s.c : Nat), .int .u8 (bt1 s.c : Nat), .int .u8 (bt2 s.c : Nat), .int .u8 (bt3 s.c : Nat), .int .u8 (bt0 s.d : Nat), .int .u8 (bt1 s.d : Nat), .int .u8 (bt2 s.d : Nat), .int .u8 (bt3 s.d : Nat)] 42)).alloc (.cells #[.int .u8 0, .int .u8 0, .int .u8 0, .int .u8 0, .int .u8 0, .int .u8 0, .int .u8 0, .int .u8 0, .int .u8 0, .int .u8 0, .int .u8 0, .int .u8 0, .int .u8 0, .int .u8 0, .int .u8 0, .int .u8 0] 42)).there (w.heap.size + 1) 0 16) := there_two w _ _ 42 42 rfl
  have HRG : Hid (((w.alloc (.cells #[.int .u8 (bt0 s.a : Nat), .int .u8 (bt1 s.a : Nat), .int .u8 (bt2 s.a : Nat), .int .u8 (bt3 s.a : Nat), .int .u8 (bt0 s.b : Nat), .int .u8 (bt1 s.b : Nat), .int .u8 (bt2 s.b : Nat), .int .u8 (bt3 s.b : Nat), .int .u8 (bt0 s.c : Nat), .int .u8 (bt1 s.c : Nat), .int .u8 (bt2 s.c : Nat), .int .u8 (bt3 s.c : Nat), .int .u8 (bt0 s.d : Nat), .int .u8 (bt1 s.d : Nat), .int .u8 (bt2 s.d : Nat), .int .u8 (bt3 s.d : Nat)] 42)).alloc (.cells #[.int .u8 0, .int .u8 0, .int .u8 0, .int .u8 0, .int .u8 0, .int .u8 0, .int .u8 0, .int .u8 0, .int .u8 0, .int .u8 0, .int .u8 0, .int .u8 0, .int .u8 0, .int .u8 0, .int .u8 0, .int .u8 0] 42)).rangeAt w.heap.size 0 [.int .u8 (bt0 s.a : Nat), .int .u8 (bt1 s.a : Nat), .int .u8 (bt2 s.a : Nat), .int .u8 (bt3 s.a : Nat), .int .u8 (bt0 s.b : Nat), .int .u8 (bt1 s.b : Nat), .int .u8 (bt2 s.b : Nat), .int .u8 (bt3 s.b : Nat), .int .u8 (bt0 s.c : Nat), .int .u8 (bt1 s.c : Nat), .int .u8 (bt2 s.c : Nat), .int .u8 (bt3 s.c : Nat), .int .u8 (bt0 s.d : Nat), .int .u8 (bt1 s.d : Nat), .int .u8 (bt2 s.d : Nat), .int .u8 (bt3 s.d : Nat)]) := fun j v hv => by simpa using (two_allocs w #[.int .u8 (bt0 s.a : Nat), .int .u8 (bt1 s.a : Nat), .int .u8 (bt2 s.a : Nat), .int .u8 (bt3 s.a : Nat), .int .u8 (bt0 s.b : Nat), .int .u8 (bt1 s.b : Nat), .int .u8 (bt2 s.b : Nat), .int .u8 (bt3 s.b : Nat), .int .u8 (bt0 s.c : Nat), .int .u8 (bt1 s.c : Nat), .int .u8 (bt2 s.c : Nat), .int .u8 (bt3 s.c : Nat), .int .u8 (bt0 s.d : Nat), .int .u8 (bt1 s.d : Nat), .int .u8 (bt2 s.d : Nat), .int .u8 (bt3 s.d : Nat)] #[.int .u8 0, .int .u8 0, .int .u8 0, .int .u8 0, .int .u8 0, .int .u8 0, .int .u8 0, .int .u8 0, .int .u8 0, .int .u8 0, .int .u8 0, .int .u8 0, .int .u8 0, .int .u8 0, .int .u8 0, .int .u8 0] 42 42).2 j v (by simpa using hv)
  show Calls Tryd.prog 22 #[.pointer (some ⟨g, 0, none⟩), .agg #[.int .u8 (bt0 s.a : Nat), .int .u8 (bt1 s.a : Nat), .int .u8 (bt2 s.a : Nat), .int .u8 (bt3 s.a : Nat), .int .u8 (bt0 s.b : Nat), .int .u8 (bt1 s.b : Nat), .int .u8 (bt2 s.b : Nat), .int .u8 (bt3 s.b : Nat), .int .u8 (bt0 s.c : Nat), .int .u8 (bt1 s.c : Nat), .int .u8 (bt2 s.c : Nat), .int .u8 (bt3 s.c : Nat), .int .u8 (bt0 s.d : Nat), .int .u8 (bt1 s.d : Nat), .int .u8 (bt2 s.d : Nat), .int .u8 (bt3 s.d : Nat)]] w _
  go_enter_defers Tryd.func22, Tryd.ntmps22
  go_wp2_with (first | (go_at_call 39; refine HH.out.mono ?_))
  rintro e1 w1 ⟨rfl, hw1⟩
  have H1 : Hid (Ciph w1 g 6 nr K ∧ Touch ((w.alloc (.cells #[.int .u8 (bt0 s.a : Nat), .int .u8 (bt1 s.a : Nat), .int .u8 (bt2 s.a : Nat), .int .u8 (bt3 s.a : Nat), .int .u8 (bt0 s.b : Nat), .int .u8 (bt1 s.b : Nat), .int .u8 (bt2 s.b : Nat), .int .u8 (bt3 s.b : Nat), .int .u8 (bt0 s.c : Nat), .int .u8 (bt1 s.c : Nat), .int .u8 (bt2 s.c : Nat), .int .u8 (bt3 s.c : Nat), .int .u8 (bt0 s.d : Nat), .int .u8 (bt1 s.d : Nat), .int .u8 (bt2 s.d : Nat), .int .u8 (bt3 s.d : Nat)] 42)).alloc (.cells #[.int .u8 0, .int .u8 0, .int .u8 0, .int .u8 0, .int .u8 0, .int .u8 0, .int .u8 0, .int .u8 0, .int .u8 0, .int .u8 0, .int .u8 0, .int .u8 0, .int .u8 0, .int .u8 0, .int .u8 0, .int .u8 0] 42)) w1 g 4 1 ∧ w1.cell? ⟨g, 4, none⟩ = some (.int .i32 1)) := by
    rw [hw1]
    refine ⟨held_ciph HK2.out 1, (Touch.refl _ g 4 1).setCell 4 _ (by omega) (by omega), ?_⟩
    have := (HK2.out.room 4 (by decide)).1
    exact World.cell?_setCell_same' _ _ _ (by simpa using this)
  clear hw1 HH
  have gl : Hid (∀ u, Below w1.heap.size w1 u → u.rangeAt w.heap.size 0 [.int .u8 (bt0 s.a : Nat), .int .u8 (bt1 s.a : Nat), .int .u8 (bt2 s.a : Nat), .int .u8 (bt3 s.a : Nat), .int .u8 (bt0 s.b : Nat), .int .u8 (bt1 s.b : Nat), .int .u8 (bt2 s.b : Nat), .int .u8 (bt3 s.b : Nat), .int .u8 (bt0 s.c : Nat), .int .u8 (bt1 s.c : Nat), .int .u8 (bt2 s.c : Nat), .int .u8 (bt3 s.c : Nat), .int .u8 (bt0 s.d : Nat), .int .u8 (bt1 s.d : Nat), .int .u8 (bt2 s.d : Nat), .int .u8 (bt3 s.d : Nat)]) := fun u hu j v hv => by
    have hs := H1.out.2.1.size
    have hz := HSZ.out
    have hgw := HG.out
    rw [hu.cell (p := ⟨w.heap.size, 0 + j, none⟩) (show w.heap.size < _ by omega), H1.out.2.1.far (p := ⟨w.heap.size, 0 + j, none⟩) (show w.heap.size < _ by omega) (show w.heap.size ≠ g by omega)]
    exact HRG.out j v hv
  go_wp2_with fail
  have hS0 : Below w1.heap.size w1 w1.drew := (Below.refl _ _).drew
  refine wp_region_noPanic ?_
  refine wp_region_till (fun u => Below w1.heap.size w1 u) 4 (by kernel_rfl) (by decide) (by decide +kernel) (by decide +kernel) (by decide +kernel) (fun inv => ?_)
  refine till_at 0 16 (.pointer (some ⟨g, 0, none⟩)) inv rfl rfl (by decide) (by decide +kernel) (by decide +kernel) (fun _ _ _ h => h) (hS0) (Or.inl ⟨by rfl, fun w' hS' => by go_simp⟩) (fun inv' => ?_)
  clear inv; have inv := inv'; clear inv'
  simp only [List.setIfInBounds_toArray, List.set_cons_zero, List.set_cons_succ]
  refine till_at 1 17 (.pointer (some ⟨g, 0, none⟩)) inv rfl rfl (by decide) (by decide +kernel) (by decide +kernel) (fun _ _ _ h => h) (hS0) (Or.inl ⟨by rfl, fun w' hS' => by go_simp⟩) (fun inv' => ?_)
  clear inv; have inv := inv'; clear inv'
  simp only [List.setIfInBounds_toArray, List.set_cons_zero, List.set_cons_succ]
  refine till_at 2 18 (.pointer (some ⟨g, 6, none⟩)) inv rfl rfl (by decide) (by decide +kernel) (by decide +kernel) (fun _ _ _ h => h) (hS0) (Or.inl ⟨by rfl, fun w' hS' => by go_simp⟩) (fun inv' => ?_)
  clear inv; have inv := inv'; clear inv'
  simp only [List.setIfInBounds_toArray, List.set_cons_zero, List.set_cons_succ]
  refine till_at 3 19 (.agg #[.int .u8 (bt0 s.a : Nat), .int .u8 (bt1 s.a : Nat), .int .u8 (bt2 s.a : Nat), .int .u8 (bt3 s.a : Nat), .int .u8 (bt0 s.b : Nat), .int .u8 (bt1 s.b : Nat), .int .u8 (bt2 s.b : Nat), .int .u8 (bt3 s.b : Nat), .int .u8 (bt0 s.c : Nat), .int .u8 (bt1 s.c : Nat), .int .u8 (bt2 s.c : Nat), .int .u8 (bt3 s.c : Nat), .int .u8 (bt0 s.d : Nat), .int .u8 (bt1 s.d : Nat), .int .u8 (bt2 s.d : Nat), .int .u8 (bt3 s.d : Nat)]) inv rfl rfl (by decide) (by kernel_rfl) (by kernel_rfl) (fun _ _ _ h => h) (hS0) (yieldsIf_load_mid (by rfl) 42 (.tmp 3) rfl w.heap.size 0 rfl [.int .u8 (bt0 s.a : Nat), .int .u8 (bt1 s.a : Nat), .int .u8 (bt2 s.a : Nat), .int .u8 (bt3 s.a : Nat), .int .u8 (bt0 s.b : Nat), .int .u8 (bt1 s.b : Nat), .int .u8 (bt2 s.b : Nat), .int .u8 (bt3 s.b : Nat), .int .u8 (bt0 s.c : Nat), .int .u8 (bt1 s.c : Nat), .int .u8 (bt2 s.c : Nat), .int .u8 (bt3 s.c : Nat), .int .u8 (bt0 s.d : Nat), .int .u8 (bt1 s.d : Nat), .int .u8 (bt2 s.d : Nat), .int .u8 (bt3 s.d : Nat)] _ (fun u hu => gl.out u hu) Tryd.underlying42 rfl size42) (fun inv' => ?_)
  clear inv; have inv := inv'; clear inv'
  simp only [List.setIfInBounds_toArray, List.set_cons_zero, List.set_cons_succ]
  refine till_tail (i := 4) (by decide +kernel) (by decide) rfl (fun K hK => ?_)
  go_simp
  refine (HE.out _ (H1.out.1.below hS0 H1.out.1.here)).mono ?_
  rintro e1 u2 ⟨rfl, hu2⟩
  go_wp2_with fail
  refine hK.out _ _ ?_
  clear hK K
  try simp only [List.setIfInBounds_toArray, List.set_cons_zero, List.set_cons_succ]
  have HT2 : Hid (u2.there (w.heap.size + 1) 0 16 ∧ Touch w u2 g 4 1 ∧ u2.cell? ⟨g, 4, none⟩ = some (.int .i32 1)) := by
    have hs := H1.out.2.1.size
    have hz := HSZ.out
    have hgw := HG.out
    have hg1 := H1.out.1.here
    have hb : Below w1.heap.size w1 u2 := hS0.trans (hu2.mono (Nat.le_refl _))
    refine ⟨there_below (fun j hj => ?_) hb (by omega), ?_, (hb.cell hg1).trans H1.out.2.2⟩
    · rw [H1.out.2.1.far (p := ⟨w.heap.size + 1, 0 + j, none⟩) (show w.heap.size + 1 < _ by omega) (show w.heap.size + 1 ≠ g by omega), H1.out.2.1.farFrozen (p := ⟨w.heap.size + 1, 0 + j, none⟩) (show w.heap.size + 1 < _ by omega) (show w.heap.size + 1 ≠ g by omega)]
      exact HTH.out j hj
    · exact ((((Touch.refl w g 4 1).alloc _ hgw).alloc _ hgw).trans H1.out.2.1).below hb hgw
  refine till_tail (i := 5) (by decide +kernel) (by decide) rfl (fun K hK => ?_)
  rw [if_pos (by rfl)]
  refine wp_store_mid 42 (.tmp 4) (.tmp 20) rfl (w.heap.size + 1) 0 #[.int .u8 (bt0 n0 : Nat), .int .u8 (bt1 n0 : Nat), .int .u8 (bt2 n0 : Nat), .int .u8 (bt3 n0 : Nat), .int .u8 (bt0 n1 : Nat), .int .u8 (bt1 n1 : Nat), .int .u8 (bt2 n1 : Nat), .int .u8 (bt3 n1 : Nat), .int .u8 (bt0 n2 : Nat), .int .u8 (bt1 n2 : Nat), .int .u8 (bt2 n2 : Nat), .int .u8 (bt3 n2 : Nat), .int .u8 (bt0 n3 : Nat), .int .u8 (bt1 n3 : Nat), .int .u8 (bt2 n3 : Nat), .int .u8 (bt3 n3 : Nat)] rfl rfl (HT2.out.1) (size42) (by kernel_rfl) ?_
  refine hK.out _ _ ?_
  clear hK K
  try simp only [List.setIfInBounds_toArray, List.set_cons_zero, List.set_cons_succ]
  refine till_tail (i := 6) (by kernel_rfl) (by decide) rfl (fun K hK => ?_)
  go_simp
  refine hK.out _ _ ?_
  clear hK K
  try simp only [List.setIfInBounds_toArray, List.set_cons_zero, List.set_cons_succ]
  refine till_done (by decide +kernel) ?_ _
  refine NoPanic.normal ?_
  have HF : Hid ((u2.setCells (w.heap.size + 1) 0 [.int .u8 (bt0 n0 : Nat), .int .u8 (bt1 n0 : Nat), .int .u8 (bt2 n0 : Nat), .int .u8 (bt3 n0 : Nat), .int .u8 (bt0 n1 : Nat), .int .u8 (bt1 n1 : Nat), .int .u8 (bt2 n1 : Nat), .int .u8 (bt3 n1 : Nat), .int .u8 (bt0 n2 : Nat), .int .u8 (bt1 n2 : Nat), .int .u8 (bt2 n2 : Nat), .int .u8 (bt3 n2 : Nat), .int .u8 (bt0 n3 : Nat), .int .u8 (bt1 n3 : Nat), .int .u8 (bt2 n3 : Nat), .int .u8 (bt3 n3 : Nat)]).rangeAt (w.heap.size + 1) 0 [.int .u8 (bt0 n0 : Nat), .int .u8 (bt1 n0 : Nat), .int .u8 (bt2 n0 : Nat), .int .u8 (bt3 n0 : Nat), .int .u8 (bt0 n1 : Nat), .int .u8 (bt1 n1 : Nat), .int .u8 (bt2 n1 : Nat), .int .u8 (bt3 n1 : Nat), .int .u8 (bt0 n2 : Nat), .int .u8 (bt1 n2 : Nat), .int .u8 (bt2 n2 : Nat), .int .u8 (bt3 n2 : Nat), .int .u8 (bt0 n3 : Nat), .int .u8 (bt1 n3 : Nat), .int .u8 (bt2 n3 : Nat), .int .u8 (bt3 n3 : Nat)] ∧ Touch w (u2.setCells (w.heap.size + 1) 0 [.int .u8 (bt0 n0 : Nat), .int .u8 (bt1 n0 : Nat), .int .u8 (bt2 n0 : Nat), .int .u8 (bt3 n0 : Nat), .int .u8 (bt0 n1 : Nat), .int .u8 (bt1 n1 : Nat), .int .u8 (bt2 n1 : Nat), .int .u8 (bt3 n1 : Nat), .int .u8 (bt0 n2 : Nat), .int .u8 (bt1 n2 : Nat), .int .u8 (bt2 n2 : Nat), .int .u8 (bt3 n2 : Nat), .int .u8 (bt0 n3 : Nat), .int .u8 (bt1 n3 : Nat), .int .u8 (bt2 n3 : Nat), .int .u8 (bt3 n3 : Nat)]) g 4 1 ∧ (u2.setCells (w.heap.size + 1) 0 [.int .u8 (bt0 n0 : Nat), .int .u8 (bt1 n0 : Nat), .int .u8 (bt2 n0 : Nat), .int .u8 (bt3 n0 : Nat), .int .u8 (bt0 n1 : Nat), .int .u8 (bt1 n1 : Nat), .int .u8 (bt2 n1 : Nat), .int .u8 (bt3 n1 : Nat), .int .u8 (bt0 n2 : Nat), .int .u8 (bt1 n2 : Nat), .int .u8 (bt2 n2 : Nat), .int .u8 (bt3 n2 : Nat), .int .u8 (bt0 n3 : Nat), .int .u8 (bt1 n3 : Nat), .int .u8 (bt2 n3 : Nat), .int .u8 (bt3 n3 : Nat)]).cell? ⟨g, 4, none⟩ = some (.int .i32 1)) := by
    have hgw := HG.out
    refine ⟨World.rangeAt_setCells_same _ _ _ _ HT2.out.1, touch_new HT2.out.2.1 (Nat.le_succ _) _ _ hgw, ?_⟩
    rw [World.cell?_setCells_out (w.heap.size + 1) _ 0 u2 ⟨g, 4, none⟩ (fun e _ => absurd e (by simp; omega))]
    exact HT2.out.2.2
  generalize u2.setCells (w.heap.size + 1) 0 [.int .u8 (bt0 n0 : Nat), .int .u8 (bt1 n0 : Nat), .int .u8 (bt2 n0 : Nat), .int .u8 (bt3 n0 : Nat), .int .u8 (bt0 n1 : Nat), .int .u8 (bt1 n1 : Nat), .int .u8 (bt2 n1 : Nat), .int .u8 (bt3 n1 : Nat), .int .u8 (bt0 n2 : Nat), .int .u8 (bt1 n2 : Nat), .int .u8 (bt2 n2 : Nat), .int .u8 (bt3 n2 : Nat), .int .u8 (bt0 n3 : Nat), .int .u8 (bt1 n3 : Nat), .int .u8 (bt2 n3 : Nat), .int .u8 (bt3 n3 : Nat)] = w3 at HF ⊢
  clear hu2 hS0 gl
  go_wp2
  have hroom : w3.there g 0 1091 := HF.out.2.1.there _ _ HK.out.room
  obtain ⟨x0, c0⟩ := cell_of_there hroom 0 (by decide)
  obtain ⟨x2, c2⟩ := cell_of_there hroom 2 (by decide)
  have hz := (hroom 4 (by decide)).2
  have hcnt := HF.out.2.2
  refine leaves_cons (f := 40) (args := #[.pointer (some ⟨g, 0, none⟩)]) (by simp) (by simp [go_sem]) ?_
  refine (runlock_deferred rwRLib g 0 1 x0 x2 .returning _ c0 c2 hcnt hz (by decide +kernel)).mono ?_
  rintro e5 u5 w5 ⟨rfl, rfl, hw5⟩
  rw [show wrap32 (1 + -1) = 0 by decide +kernel] at hw5
  have hw5' : w5 = w3.setCells g 4 [.int .i32 0] := hw5
  have hg : g ≠ w.heap.size + 1 := by have := HG.out; omega
  have ht5 : Touch w w5 g 4 1 := by rw [hw5']; exact HF.out.2.1.setCells 4 _ (by omega) (by simp)
  have hc5 : w5.cell? ⟨g, 4, none⟩ = some (.int .i32 0) := by
    rw [hw5]
    exact World.cell?_setCell_same' _ _ _ (by rw [show (0 + 4) = 4 from rfl, hcnt]; rfl)
  have hr5 : w5.rangeAt (w.heap.size + 1) 0 [.int .u8 (bt0 n0 : Nat), .int .u8 (bt1 n0 : Nat), .int .u8 (bt2 n0 : Nat), .int .u8 (bt3 n0 : Nat), .int .u8 (bt0 n1 : Nat), .int .u8 (bt1 n1 : Nat), .int .u8 (bt2 n1 : Nat), .int .u8 (bt3 n1 : Nat), .int .u8 (bt0 n2 : Nat), .int .u8 (bt1 n2 : Nat), .int .u8 (bt2 n2 : Nat), .int .u8 (bt3 n2 : Nat), .int .u8 (bt0 n3 : Nat), .int .u8 (bt1 n3 : Nat), .int .u8 (bt2 n3 : Nat), .int .u8 (bt3 n3 : Nat)] := by rw [hw5']; exact World.rangeAt_setCells_apart HF.out.1 _ _ _ (Or.inl (Ne.symm hg))
  have hl := run_loadVar_mid (P := Tryd.prog) w5 (w.heap.size + 1) 0 42 [.int .u8 (bt0 n0 : Nat), .int .u8 (bt1 n0 : Nat), .int .u8 (bt2 n0 : Nat), .int .u8 (bt3 n0 : Nat), .int .u8 (bt0 n1 : Nat), .int .u8 (bt1 n1 : Nat), .int .u8 (bt2 n1 : Nat), .int .u8 (bt3 n1 : Nat), .int .u8 (bt0 n2 : Nat), .int .u8 (bt1 n2 : Nat), .int .u8 (bt2 n2 : Nat), .int .u8 (bt3 n2 : Nat), .int .u8 (bt0 n3 : Nat), .int .u8 (bt1 n3 : Nat), .int .u8 (bt2 n3 : Nat), .int .u8 (bt3 n3 : Nat)] _ hr5 Tryd.underlying42 rfl size42
  refine ⟨.tuple #[.agg #[.int .u8 (bt0 n0 : Nat), .int .u8 (bt1 n0 : Nat), .int .u8 (bt2 n0 : Nat), .int .u8 (bt3 n0 : Nat), .int .u8 (bt0 n1 : Nat), .int .u8 (bt1 n1 : Nat), .int .u8 (bt2 n1 : Nat), .int .u8 (bt3 n1 : Nat), .int .u8 (bt0 n2 : Nat), .int .u8 (bt1 n2 : Nat), .int .u8 (bt2 n2 : Nat), .int .u8 (bt3 n2 : Nat), .int .u8 (bt0 n3 : Nat), .int .u8 (bt1 n3 : Nat), .int .u8 (bt2 n3 : Nat), .int .u8 (bt3 n3 : Nat)], .int .i64 0], ?_, ?_, HK.out.touch ht5 hc5, ht5⟩
  · rw [results_cell_tmp Tryd.results22]
    simp [asAddr, hl]
  · rw [← HN.out]
    exact rfl
end Go.Proofs.YtgmfiljjogdccaaDoor
namespace Go.Proofs.YtgmfiljjogdccaaDoor
open Go.RowKit
set_option maxRecDepth 100000 in
set_option maxHeartbeats 3200000 in
theorem eq_same (x0 x1 x2 x3 x4 x5 x6 x7 x8 x9 x10 x11 x12 x13 x14 x15 : Int) (w : World) : (Op.equalIn 10000 42 (.agg #[.int .u8 x0, .int .u8 x1, .int .u8 x2, .int .u8 x3, .int .u8 x4, .int .u8 x5, .int .u8 x6, .int .u8 x7, .int .u8 x8, .int .u8 x9, .int .u8 x10, .int .u8 x11, .int .u8 x12, .int .u8 x13, .int .u8 x14, .int .u8 x15]) (.agg #[.int .u8 x0, .int .u8 x1, .int .u8 x2, .int .u8 x3, .int .u8 x4, .int .u8 x5, .int .u8 x6, .int .u8 x7, .int .u8 x8, .int .u8 x9, .int .u8 x10, .int .u8 x11, .int .u8 x12, .int .u8 x13, .int .u8 x14, .int .u8 x15])).run Tryd.prog w = .ok true w := by
  have u5 := Tryd.underlying5
  have a5 := Tryd.isAgg5
  have z5 := Tryd.sizeOf5
  have u42 := Tryd.runUnderlying42 w
  have e : ∀ x : Int, (Op.equalIn 9999 5 (.int .u8 x) (.int .u8 x)).run Tryd.prog w = .ok true w := fun x => by
    rw [show (9999 : Nat) = 9998 + 1 from rfl, run_equalIn_int w 9998 5 .u8 .u8 x x u5]
    simp
  rw [show (10000 : Nat) = 9999 + 1 from rfl, Op.equalIn]
  simp only [Sem.run_bind, run_underlying Tryd.underlying42, Result.andThen_ok]
  simp only [Std.Legacy.Range.forIn_eq_forIn_range', Std.Legacy.Range.size, Nat.sub_zero, Nat.add_sub_cancel, Nat.div_one, List.range'_succ, List.range'_zero, List.forIn_cons, List.forIn_nil]
  go_simp
end Go.Proofs.YtgmfiljjogdccaaDoor
namespace Go.Proofs.YtgmfiljjogdccaaDoor
open Go.RowKit
set_option linter.unusedVariables false
theorem num_ok (x : Int) (w : World) : Calls Tryd.prog 11 #[.int .i64 x] w fun e w' => e = .returned (.int .i64 x) ∧ w' = w := by
  go_enter Tryd.func11, Tryd.ntmps11
  go_wp2
  go_ret
  exact ⟨rfl, rfl⟩
theorem wpList_load_want {P : Program} {ops : Array Oper} {rest : List Oper} {op : Oper} {a : Act} {w : World} {Q : Exit → Act → World → Prop} (hw : Region.wanted op (yielded ops a.tmps) = true) (ty : TypeId) (x : Operand) (ho : op.op = .load ty x)
    (b o : Nat) (hx : a.eval x = .pointer (some ⟨b, o, none⟩)) (cs : List Value) (d : TypeDesc) (hc : w.rangeAt b o cs) (hu : P.underlying ty = some d) (hd : d.isRow = true) (hi : (P.info? ty).map (·.size) = some cs.length)
    (h : wpList P ops Q rest (a.put op.dst (.agg cs.toArray)) w) : wpList P ops Q (op :: rest) a w :=
  wpList_step fun K hK => by
    rw [if_pos hw]
    exact wp_load_mid ty x ho b o hx cs d hc hu hd hi (hK _ _ h)
theorem RC.below {w w' : World} (h : RC w) (hb : Below w.heap.size w w') (h0 : 0 < w.heap.size) : RC w' := fun i hi => (hb.cell (p := ⟨0, i, none⟩) h0).trans (h i hi)
set_option maxHeartbeats 3200000 in
set_option maxRecDepth 100000 in
/-- does, where the answer is what is wanted. -/
theorem does_ok (kb ko n cap nk : Nat) (key : Nat → Nat) (s : W4) (w : World) (hnk : nk = 4 ∨ nk = 6 ∨ nk = 8) (hn : n = 4 * nk) (hkb : kb < w.heap.size) (hcell : ∀ i, i < n → w.cell? ⟨kb, ko + i, none⟩ = some (.int .u8 (key i : Nat))) (hkey : ∀ i, key i < 256) (hrc : RC w) (hpos : 0 < w.heap.size) (hs : s.ok) :
    Calls Tryd.prog 27 #[.slice (some ⟨kb, ko, none⟩) n cap, s.blk, (encW (nk + 6) (schedK nk key) s).blk] w fun e w' => e = .returned (.bool true) ∧ Below w.heap.size w w' := by
  obtain ⟨⟨n0, n1, n2, n3⟩, HN⟩ : ∃ t, Hid (t = encW (nk + 6) (schedK nk key) s) := ⟨_, rfl⟩
  rw [← HN.out]
  have HNok : Hid (W4.ok ⟨n0, n1, n2, n3⟩) := by show W4.ok _; rw [HN.out]; exact encW_ok (schedK_lt hkey) _ _
  have HDE : Hid (dcW (nk + 6) (schedK nk key) ⟨n0, n1, n2, n3⟩ = s) := by show _ = _; rw [HN.out]; exact dec_enc (schedK_lt hkey) _ s hs
  have HS : Hid s.ok := hs
  have HB2 : Hid (Below w.heap.size w ((w.alloc (.cells #[.int .u8 (bt0 s.a : Nat), .int .u8 (bt1 s.a : Nat), .int .u8 (bt2 s.a : Nat), .int .u8 (bt3 s.a : Nat), .int .u8 (bt0 s.b : Nat), .int .u8 (bt1 s.b : Nat), .int .u8 (bt2 s.b : Nat), .int .u8 (bt3 s.b : Nat), .int .u8 (bt0 s.c : Nat), .int .u8 (bt1 s.c : Nat), .int .u8 (bt2 s.c : Nat), .int .u8 (bt3 s.c : Nat), .int .u8 (bt0 s.d : Nat), .int .u8 (bt1 s.d : Nat), .int .u8 (bt2 s.d : Nat), .int .u8 (bt3 s.d : Nat)] 42)).alloc (.cells #[.int .u8 (bt0 n0 : Nat), .int .u8 (bt1 n0 : Nat), .int .u8 (bt2 n0 : Nat), .int .u8 (bt3 n0 : Nat), .int .u8 (bt0 n1 : Nat), .int .u8 (bt1 n1 : Nat), .int .u8 (bt2 n1 : Nat), .int .u8 (bt3 n1 : Nat), .int .u8 (bt0 n2 : Nat), .int .u8 (bt1 n2 : Nat), .int .u8 (bt2 n2 : Nat), .int .u8 (bt3 n2 : Nat), .int .u8 (bt0 n3 : Nat), .int .u8 (bt1 n3 : Nat), .int .u8 (bt2 n3 : Nat), .int .u8 (bt3 n3 : Nat)] 42)) ∧ ((w.alloc (.cells #[.int .u8 (bt0 s.a : Nat), .int .u8 (bt1 s.a : Nat), .int .u8 (bt2 s.a : Nat), .int .u8 (bt3 s.a : Nat), .int .u8 (bt0 s.b : Nat), .int .u8 (bt1 s.b : Nat), .int .u8 (bt2 s.b : Nat), .int .u8 (bt3 s.b : Nat), .int .u8 (bt0 s.c : Nat), .int .u8 (bt1 s.c : Nat), .int .u8 (bt2 s.c : Nat), .int .u8 (bt3 s.c : Nat), .int .u8 (bt0 s.d : Nat), .int .u8 (bt1 s.d : Nat), .int .u8 (bt2 s.d : Nat), .int .u8 (bt3 s.d : Nat)] 42)).alloc (.cells #[.int .u8 (bt0 n0 : Nat), .int .u8 (bt1 n0 : Nat), .int .u8 (bt2 n0 : Nat), .int .u8 (bt3 n0 : Nat), .int .u8 (bt0 n1 : Nat), .int .u8 (bt1 n1 : Nat), .int .u8 (bt2 n1 : Nat), .int .u8 (bt3 n1 : Nat), .int .u8 (bt0 n2 : Nat), .int .u8 (bt1 n2 : Nat), .int .u8 (bt2 n2 : Nat), .int .u8 (bt3 n2 : Nat), .int .u8 (bt0 n3 : Nat), .int .u8 (bt1 n3 : Nat), .int .u8 (bt2 n3 : Nat), .int .u8 (bt3 n3 : Nat)] 42)).heap.size = w.heap.size + 2) := ⟨(two_allocs w _ _ 42 42).1, by simp⟩
  have HRa : Hid (((w.alloc (.cells #[.int .u8 (bt0 s.a : Nat), .int .u8 (bt1 s.a : Nat), .int .u8 (bt2 s.a : Nat), .int .u8 (bt3 s.a : Nat), .int .u8 (bt0 s.b : Nat), .int .u8 (bt1 s.b : Nat), .int .u8 (bt2 s.b : Nat), .int .u8 (bt3 s.b : Nat), .int .u8 (bt0 s.c : Nat), .int .u8 (bt1 s.c : Nat), .int .u8 (bt2 s.c : Nat), .int .u8 (bt3 s.c : Nat), .int .u8 (bt0 s.d : Nat), .int .u8 (bt1 s.d : Nat), .int .u8 (bt2 s.d : Nat), .int .u8 (bt3 s.d : Nat)] 42)).alloc (.cells #[.int .u8 (bt0 n0 : Nat), .int .u8 (bt1 n0 : Nat), .int .u8 (bt2 n0 : Nat), .int .u8 (bt3 n0 : Nat), .int .u8 (bt0 n1 : Nat), .int .u8 (bt1 n1 : Nat), .int .u8 (bt2 n1 : Nat), .int .u8 (bt3 n1 : Nat), .int .u8 (bt0 n2 : Nat), .int .u8 (bt1 n2 : Nat), .int .u8 (bt2 n2 : Nat), .int .u8 (bt3 n2 : Nat), .int .u8 (bt0 n3 : Nat), .int .u8 (bt1 n3 : Nat), .int .u8 (bt2 n3 : Nat), .int .u8 (bt3 n3 : Nat)] 42)).rangeAt w.heap.size 0 [.int .u8 (bt0 s.a : Nat), .int .u8 (bt1 s.a : Nat), .int .u8 (bt2 s.a : Nat), .int .u8 (bt3 s.a : Nat), .int .u8 (bt0 s.b : Nat), .int .u8 (bt1 s.b : Nat), .int .u8 (bt2 s.b : Nat), .int .u8 (bt3 s.b : Nat), .int .u8 (bt0 s.c : Nat), .int .u8 (bt1 s.c : Nat), .int .u8 (bt2 s.c : Nat), .int .u8 (bt3 s.c : Nat), .int .u8 (bt0 s.d : Nat), .int .u8 (bt1 s.d : Nat), .int .u8 (bt2 s.d : Nat), .int .u8 (bt3 s.d : Nat)]) := fun j v hv => by simpa using (two_allocs w #[.int .u8 (bt0 s.a : Nat), .int .u8 (bt1 s.a : Nat), .int .u8 (bt2 s.a : Nat), .int .u8 (bt3 s.a : Nat), .int .u8 (bt0 s.b : Nat), .int .u8 (bt1 s.b : Nat), .int .u8 (bt2 s.b : Nat), .int .u8 (bt3 s.b : Nat), .int .u8 (bt0 s.c : Nat), .int .u8 (bt1 s.c : Nat), .int .u8 (bt2 s.c : Nat), .int .u8 (bt3 s.c : Nat), .int .u8 (bt0 s.d : Nat), .int .u8 (bt1 s.d : Nat), .int .u8 (bt2 s.d : Nat), .int .u8 (bt3 s.d : Nat)] #[.int .u8 (bt0 n0 : Nat), .int .u8 (bt1 n0 : Nat), .int .u8 (bt2 n0 : Nat), .int .u8 (bt3 n0 : Nat), .int .u8 (bt0 n1 : Nat), .int .u8 (bt1 n1 : Nat), .int .u8 (bt2 n1 : Nat), .int .u8 (bt3 n1 : Nat), .int .u8 (bt0 n2 : Nat), .int .u8 (bt1 n2 : Nat), .int .u8 (bt2 n2 : Nat), .int .u8 (bt3 n2 : Nat), .int .u8 (bt0 n3 : Nat), .int .u8 (bt1 n3 : Nat), .int .u8 (bt2 n3 : Nat), .int .u8 (bt3 n3 : Nat)] 42 42).2 j v (by simpa using hv)
  have HRb : Hid (((w.alloc (.cells #[.int .u8 (bt0 s.a : Nat), .int .u8 (bt1 s.a : Nat), .int .u8 (bt2 s.a : Nat), .int .u8 (bt3 s.a : Nat), .int .u8 (bt0 s.b : Nat), .int .u8 (bt1 s.b : Nat), .int .u8 (bt2 s.b : Nat), .int .u8 (bt3 s.b : Nat), .int .u8 (bt0 s.c : Nat), .int .u8 (bt1 s.c : Nat), .int .u8 (bt2 s.c : Nat), .int .u8 (bt3 s.c : Nat), .int .u8 (bt0 s.d : Nat), .int .u8 (bt1 s.d : Nat), .int .u8 (bt2 s.d : Nat), .int .u8 (bt3 s.d : Nat)] 42)).alloc (.cells #[.int .u8 (bt0 n0 : Nat), .int .u8 (bt1 n0 : Nat), .int .u8 (bt2 n0 : Nat), .int .u8 (bt3 n0 : Nat), .int .u8 (bt0 n1 : Nat), .int .u8 (bt1 n1 : Nat), .int .u8 (bt2 n1 : Nat), .int .u8 (bt3 n1 : Nat), .int .u8 (bt0 n2 : Nat), .int .u8 (bt1 n2 : Nat), .int .u8 (bt2 n2 : Nat), .int .u8 (bt3 n2 : Nat), .int .u8 (bt0 n3 : Nat), .int .u8 (bt1 n3 : Nat), .int .u8 (bt2 n3 : Nat), .int .u8 (bt3 n3 : Nat)] 42)).rangeAt (w.heap.size + 1) 0 [.int .u8 (bt0 n0 : Nat), .int .u8 (bt1 n0 : Nat), .int .u8 (bt2 n0 : Nat), .int .u8 (bt3 n0 : Nat), .int .u8 (bt0 n1 : Nat), .int .u8 (bt1 n1 : Nat), .int .u8 (bt2 n1 : Nat), .int .u8 (bt3 n1 : Nat), .int .u8 (bt0 n2 : Nat), .int .u8 (bt1 n2 : Nat), .int .u8 (bt2 n2 : Nat), .int .u8 (bt3 n2 : Nat), .int .u8 (bt0 n3 : Nat), .int .u8 (bt1 n3 : Nat), .int .u8 (bt2 n3 : Nat), .int .u8 (bt3 n3 : Nat)]) := by
    have h := rangeAt_new (w.alloc (.cells #[.int .u8 (bt0 s.a : Nat), .int .u8 (bt1 s.a : Nat), .int .u8 (bt2 s.a : Nat), .int .u8 (bt3 s.a : Nat), .int .u8 (bt0 s.b : Nat), .int .u8 (bt1 s.b : Nat), .int .u8 (bt2 s.b : Nat), .int .u8 (bt3 s.b : Nat), .int .u8 (bt0 s.c : Nat), .int .u8 (bt1 s.c : Nat), .int .u8 (bt2 s.c : Nat), .int .u8 (bt3 s.c : Nat), .int .u8 (bt0 s.d : Nat), .int .u8 (bt1 s.d : Nat), .int .u8 (bt2 s.d : Nat), .int .u8 (bt3 s.d : Nat)] 42)) #[.int .u8 (bt0 n0 : Nat), .int .u8 (bt1 n0 : Nat), .int .u8 (bt2 n0 : Nat), .int .u8 (bt3 n0 : Nat), .int .u8 (bt0 n1 : Nat), .int .u8 (bt1 n1 : Nat), .int .u8 (bt2 n1 : Nat), .int .u8 (bt3 n1 : Nat), .int .u8 (bt0 n2 : Nat), .int .u8 (bt1 n2 : Nat), .int .u8 (bt2 n2 : Nat), .int .u8 (bt3 n2 : Nat), .int .u8 (bt0 n3 : Nat), .int .u8 (bt1 n3 : Nat), .int .u8 (bt2 n3 : Nat), .int .u8 (bt3 n3 : Nat)] 42
    show World.rangeAt _ _ _ _
    simpa using h
  have KN : Hid (Calls Tryd.prog 9 #[.slice (some ⟨kb, ko, none⟩) n cap] ((w.alloc (.cells #[.int .u8 (bt0 s.a : Nat), .int .u8 (bt1 s.a : Nat), .int .u8 (bt2 s.a : Nat), .int .u8 (bt3 s.a : Nat), .int .u8 (bt0 s.b : Nat), .int .u8 (bt1 s.b : Nat), .int .u8 (bt2 s.b : Nat), .int .u8 (bt3 s.b : Nat), .int .u8 (bt0 s.c : Nat), .int .u8 (bt1 s.c : Nat), .int .u8 (bt2 s.c : Nat), .int .u8 (bt3 s.c : Nat), .int .u8 (bt0 s.d : Nat), .int .u8 (bt1 s.d : Nat), .int .u8 (bt2 s.d : Nat), .int .u8 (bt3 s.d : Nat)] 42)).alloc (.cells #[.int .u8 (bt0 n0 : Nat), .int .u8 (bt1 n0 : Nat), .int .u8 (bt2 n0 : Nat), .int .u8 (bt3 n0 : Nat), .int .u8 (bt0 n1 : Nat), .int .u8 (bt1 n1 : Nat), .int .u8 (bt2 n1 : Nat), .int .u8 (bt3 n1 : Nat), .int .u8 (bt0 n2 : Nat), .int .u8 (bt1 n2 : Nat), .int .u8 (bt2 n2 : Nat), .int .u8 (bt3 n2 : Nat), .int .u8 (bt0 n3 : Nat), .int .u8 (bt1 n3 : Nat), .int .u8 (bt2 n3 : Nat), .int .u8 (bt3 n3 : Nat)] 42)) fun e w' => ∃ g, e = .returned (.tuple #[.pointer (some ⟨g, 0, none⟩), .int .i64 0]) ∧ ((w.alloc (.cells #[.int .u8 (bt0 s.a : Nat), .int .u8 (bt1 s.a : Nat), .int .u8 (bt2 s.a : Nat), .int .u8 (bt3 s.a : Nat), .int .u8 (bt0 s.b : Nat), .int .u8 (bt1 s.b : Nat), .int .u8 (bt2 s.b : Nat), .int .u8 (bt3 s.b : Nat), .int .u8 (bt0 s.c : Nat), .int .u8 (bt1 s.c : Nat), .int .u8 (bt2 s.c : Nat), .int .u8 (bt3 s.c : Nat), .int .u8 (bt0 s.d : Nat), .int .u8 (bt1 s.d : Nat), .int .u8 (bt2 s.d : Nat), .int .u8 (bt3 s.d : Nat)] 42)).alloc (.cells #[.int .u8 (bt0 n0 : Nat), .int .u8 (bt1 n0 : Nat), .int .u8 (bt2 n0 : Nat), .int .u8 (bt3 n0 : Nat), .int .u8 (bt0 n1 : Nat), .int .u8 (bt1 n1 : Nat), .int .u8 (bt2 n1 : Nat), .int .u8 (bt3 n1 : Nat), .int .u8 (bt0 n2 : Nat), .int .u8 (bt1 n2 : Nat), .int .u8 (bt2 n2 : Nat), .int .u8 (bt3 n2 : Nat), .int .u8 (bt0 n3 : Nat), .int .u8 (bt1 n3 : Nat), .int .u8 (bt2 n3 : Nat), .int .u8 (bt3 n3 : Nat)] 42)).heap.size ≤ g ∧ KeyAt w' g (nk + 6) (schedK nk key) ∧ Below ((w.alloc (.cells #[.int .u8 (bt0 s.a : Nat), .int .u8 (bt1 s.a : Nat), .int .u8 (bt2 s.a : Nat), .int .u8 (bt3 s.a : Nat), .int .u8 (bt0 s.b : Nat), .int .u8 (bt1 s.b : Nat), .int .u8 (bt2 s.b : Nat), .int .u8 (bt3 s.b : Nat), .int .u8 (bt0 s.c : Nat), .int .u8 (bt1 s.c : Nat), .int .u8 (bt2 s.c : Nat), .int .u8 (bt3 s.c : Nat), .int .u8 (bt0 s.d : Nat), .int .u8 (bt1 s.d : Nat), .int .u8 (bt2 s.d : Nat), .int .u8 (bt3 s.d : Nat)] 42)).alloc (.cells #[.int .u8 (bt0 n0 : Nat), .int .u8 (bt1 n0 : Nat), .int .u8 (bt2 n0 : Nat), .int .u8 (bt3 n0 : Nat), .int .u8 (bt0 n1 : Nat), .int .u8 (bt1 n1 : Nat), .int .u8 (bt2 n1 : Nat), .int .u8 (bt3 n1 : Nat), .int .u8 (bt0 n2 : Nat), .int .u8 (bt1 n2 : Nat), .int .u8 (bt2 n2 : Nat), .int .u8 (bt3 n2 : Nat), .int .u8 (bt0 n3 : Nat), .int .u8 (bt1 n3 : Nat), .int .u8 (bt2 n3 : Nat), .int .u8 (bt3 n3 : Nat)] 42)).heap.size ((w.alloc (.cells #[.int .u8 (bt0 s.a : Nat), .int .u8 (bt1 s.a : Nat), .int .u8 (bt2 s.a : Nat), .int .u8 (bt3 s.a : Nat), .int .u8 (bt0 s.b : Nat), .int .u8 (bt1 s.b : Nat), .int .u8 (bt2 s.b : Nat), .int .u8 (bt3 s.b : Nat), .int .u8 (bt0 s.c : Nat), .int .u8 (bt1 s.c : Nat), .int .u8 (bt2 s.c : Nat), .int .u8 (bt3 s.c : Nat), .int .u8 (bt0 s.d : Nat), .int .u8 (bt1 s.d : Nat), .int .u8 (bt2 s.d : Nat), .int .u8 (bt3 s.d : Nat)] 42)).alloc (.cells #[.int .u8 (bt0 n0 : Nat), .int .u8 (bt1 n0 : Nat), .int .u8 (bt2 n0 : Nat), .int .u8 (bt3 n0 : Nat), .int .u8 (bt0 n1 : Nat), .int .u8 (bt1 n1 : Nat), .int .u8 (bt2 n1 : Nat), .int .u8 (bt3 n1 : Nat), .int .u8 (bt0 n2 : Nat), .int .u8 (bt1 n2 : Nat), .int .u8 (bt2 n2 : Nat), .int .u8 (bt3 n2 : Nat), .int .u8 (bt0 n3 : Nat), .int .u8 (bt1 n3 : Nat), .int .u8 (bt2 n3 : Nat), .int .u8 (bt3 n3 : Nat)] 42)) w') :=
    new_ok kb ko n cap nk key _ hnk hn (Nat.lt_of_lt_of_le hkb HB2.out.1.size) (fun i hi => (HB2.out.1.cell hkb).trans (hcell i hi)) hkey (hrc.below HB2.out.1 hpos) (Nat.lt_of_lt_of_le hpos HB2.out.1.size)
  clear hnk hn hkb hcell hkey hrc hpos hs
  show Calls Tryd.prog 27 #[.slice (some ⟨kb, ko, none⟩) n cap, .agg #[.int .u8 (bt0 s.a : Nat), .int .u8 (bt1 s.a : Nat), .int .u8 (bt2 s.a : Nat), .int .u8 (bt3 s.a : Nat), .int .u8 (bt0 s.b : Nat), .int .u8 (bt1 s.b : Nat), .int .u8 (bt2 s.b : Nat), .int .u8 (bt3 s.b : Nat), .int .u8 (bt0 s.c : Nat), .int .u8 (bt1 s.c : Nat), .int .u8 (bt2 s.c : Nat), .int .u8 (bt3 s.c : Nat), .int .u8 (bt0 s.d : Nat), .int .u8 (bt1 s.d : Nat), .int .u8 (bt2 s.d : Nat), .int .u8 (bt3 s.d : Nat)], .agg #[.int .u8 (bt0 n0 : Nat), .int .u8 (bt1 n0 : Nat), .int .u8 (bt2 n0 : Nat), .int .u8 (bt3 n0 : Nat), .int .u8 (bt0 n1 : Nat), .int .u8 (bt1 n1 : Nat), .int .u8 (bt2 n1 : Nat), .int .u8 (bt3 n1 : Nat), .int .u8 (bt0 n2 : Nat), .int .u8 (bt1 n2 : Nat), .int .u8 (bt2 n2 : Nat), .int .u8 (bt3 n2 : Nat), .int .u8 (bt0 n3 : Nat), .int .u8 (bt1 n3 : Nat), .int .u8 (bt2 n3 : Nat), .int .u8 (bt3 n3 : Nat)]] w _
  go_enter Tryd.func27, Tryd.ntmps27
  go_upto_region 1 with fail
  generalize ((w.alloc (.cells #[.int .u8 (bt0 s.a : Nat), .int .u8 (bt1 s.a : Nat), .int .u8 (bt2 s.a : Nat), .int .u8 (bt3 s.a : Nat), .int .u8 (bt0 s.b : Nat), .int .u8 (bt1 s.b : Nat), .int .u8 (bt2 s.b : Nat), .int .u8 (bt3 s.b : Nat), .int .u8 (bt0 s.c : Nat), .int .u8 (bt1 s.c : Nat), .int .u8 (bt2 s.c : Nat), .int .u8 (bt3 s.c : Nat), .int .u8 (bt0 s.d : Nat), .int .u8 (bt1 s.d : Nat), .int .u8 (bt2 s.d : Nat), .int .u8 (bt3 s.d : Nat)] 42)).alloc (.cells #[.int .u8 (bt0 n0 : Nat), .int .u8 (bt1 n0 : Nat), .int .u8 (bt2 n0 : Nat), .int .u8 (bt3 n0 : Nat), .int .u8 (bt0 n1 : Nat), .int .u8 (bt1 n1 : Nat), .int .u8 (bt2 n1 : Nat), .int .u8 (bt3 n1 : Nat), .int .u8 (bt0 n2 : Nat), .int .u8 (bt1 n2 : Nat), .int .u8 (bt2 n2 : Nat), .int .u8 (bt3 n2 : Nat), .int .u8 (bt0 n3 : Nat), .int .u8 (bt1 n3 : Nat), .int .u8 (bt2 n3 : Nat), .int .u8 (bt3 n3 : Nat)] 42)) = w2 at HB2 HRa HRb KN ⊢
  go_wp2_with (first | (go_at_call 9; refine KN.out.mono ?_))
  rintro e3 w3 ⟨g, rfl, hg3, hk3, hb3⟩
  have H3 : Hid (KeyAt w3 g (nk + 6) (schedK nk key) ∧ w.heap.size + 2 ≤ g ∧ Below w.heap.size w w3 ∧ w3.rangeAt w.heap.size 0 [.int .u8 (bt0 s.a : Nat), .int .u8 (bt1 s.a : Nat), .int .u8 (bt2 s.a : Nat), .int .u8 (bt3 s.a : Nat), .int .u8 (bt0 s.b : Nat), .int .u8 (bt1 s.b : Nat), .int .u8 (bt2 s.b : Nat), .int .u8 (bt3 s.b : Nat), .int .u8 (bt0 s.c : Nat), .int .u8 (bt1 s.c : Nat), .int .u8 (bt2 s.c : Nat), .int .u8 (bt3 s.c : Nat), .int .u8 (bt0 s.d : Nat), .int .u8 (bt1 s.d : Nat), .int .u8 (bt2 s.d : Nat), .int .u8 (bt3 s.d : Nat)] ∧ w3.rangeAt (w.heap.size + 1) 0 [.int .u8 (bt0 n0 : Nat), .int .u8 (bt1 n0 : Nat), .int .u8 (bt2 n0 : Nat), .int .u8 (bt3 n0 : Nat), .int .u8 (bt0 n1 : Nat), .int .u8 (bt1 n1 : Nat), .int .u8 (bt2 n1 : Nat), .int .u8 (bt3 n1 : Nat), .int .u8 (bt0 n2 : Nat), .int .u8 (bt1 n2 : Nat), .int .u8 (bt2 n2 : Nat), .int .u8 (bt3 n2 : Nat), .int .u8 (bt0 n3 : Nat), .int .u8 (bt1 n3 : Nat), .int .u8 (bt2 n3 : Nat), .int .u8 (bt3 n3 : Nat)]) := by
    have hz := HB2.out.2
    exact ⟨hk3, by omega, HB2.out.1.trans (hb3.mono (by omega)), fun j v hv => (hb3.cell (p := ⟨w.heap.size, 0 + j, none⟩) (show w.heap.size < _ by omega)).trans (HRa.out j v hv), fun j v hv => (hb3.cell (p := ⟨w.heap.size + 1, 0 + j, none⟩) (show w.heap.size + 1 < _ by omega)).trans (HRb.out j v hv)⟩
  clear hg3 hk3 hb3 KN HRa HRb HB2
  have KE : Hid (Calls Tryd.prog 21 #[.pointer (some ⟨g, 0, none⟩), .agg #[.int .u8 (bt0 s.a : Nat), .int .u8 (bt1 s.a : Nat), .int .u8 (bt2 s.a : Nat), .int .u8 (bt3 s.a : Nat), .int .u8 (bt0 s.b : Nat), .int .u8 (bt1 s.b : Nat), .int .u8 (bt2 s.b : Nat), .int .u8 (bt3 s.b : Nat), .int .u8 (bt0 s.c : Nat), .int .u8 (bt1 s.c : Nat), .int .u8 (bt2 s.c : Nat), .int .u8 (bt3 s.c : Nat), .int .u8 (bt0 s.d : Nat), .int .u8 (bt1 s.d : Nat), .int .u8 (bt2 s.d : Nat), .int .u8 (bt3 s.d : Nat)]] w3 fun e w' => e = .returned (.tuple #[.agg #[.int .u8 (bt0 n0 : Nat), .int .u8 (bt1 n0 : Nat), .int .u8 (bt2 n0 : Nat), .int .u8 (bt3 n0 : Nat), .int .u8 (bt0 n1 : Nat), .int .u8 (bt1 n1 : Nat), .int .u8 (bt2 n1 : Nat), .int .u8 (bt3 n1 : Nat), .int .u8 (bt0 n2 : Nat), .int .u8 (bt1 n2 : Nat), .int .u8 (bt2 n2 : Nat), .int .u8 (bt3 n2 : Nat), .int .u8 (bt0 n3 : Nat), .int .u8 (bt1 n3 : Nat), .int .u8 (bt2 n3 : Nat), .int .u8 (bt3 n3 : Nat)], .int .i64 0]) ∧ KeyAt w' g (nk + 6) (schedK nk key) ∧ Touch w3 w' g 4 1) := by
    have h := kenc_ok g (nk + 6) (schedK nk key) s w3 H3.out.1 HS.out
    rw [← HN.out] at h
    exact h
  go_wp2_with (first
    | (go_at_call 11; refine (num_ok _ _).mono ?_; rintro e9 w9 ⟨rfl, hw9⟩; obtain rfl := hw9.symm)
    | (refine wpList_load_mid (by rfl) 42 (.tmp 4) (by rfl) w.heap.size 0 (by rfl) [.int .u8 (bt0 s.a : Nat), .int .u8 (bt1 s.a : Nat), .int .u8 (bt2 s.a : Nat), .int .u8 (bt3 s.a : Nat), .int .u8 (bt0 s.b : Nat), .int .u8 (bt1 s.b : Nat), .int .u8 (bt2 s.b : Nat), .int .u8 (bt3 s.b : Nat), .int .u8 (bt0 s.c : Nat), .int .u8 (bt1 s.c : Nat), .int .u8 (bt2 s.c : Nat), .int .u8 (bt3 s.c : Nat), .int .u8 (bt0 s.d : Nat), .int .u8 (bt1 s.d : Nat), .int .u8 (bt2 s.d : Nat), .int .u8 (bt3 s.d : Nat)] _ H3.out.2.2.2.1 Tryd.underlying42 rfl size42 ?_)
    | (go_at_call 21; refine KE.out.mono ?_))
  rintro e4 w4 ⟨rfl, hk4, ht4⟩
  have H4 : Hid (KeyAt w4 g (nk + 6) (schedK nk key) ∧ w.heap.size + 2 ≤ g ∧ Below w.heap.size w w4 ∧ w4.rangeAt w.heap.size 0 [.int .u8 (bt0 s.a : Nat), .int .u8 (bt1 s.a : Nat), .int .u8 (bt2 s.a : Nat), .int .u8 (bt3 s.a : Nat), .int .u8 (bt0 s.b : Nat), .int .u8 (bt1 s.b : Nat), .int .u8 (bt2 s.b : Nat), .int .u8 (bt3 s.b : Nat), .int .u8 (bt0 s.c : Nat), .int .u8 (bt1 s.c : Nat), .int .u8 (bt2 s.c : Nat), .int .u8 (bt3 s.c : Nat), .int .u8 (bt0 s.d : Nat), .int .u8 (bt1 s.d : Nat), .int .u8 (bt2 s.d : Nat), .int .u8 (bt3 s.d : Nat)] ∧ w4.rangeAt (w.heap.size + 1) 0 [.int .u8 (bt0 n0 : Nat), .int .u8 (bt1 n0 : Nat), .int .u8 (bt2 n0 : Nat), .int .u8 (bt3 n0 : Nat), .int .u8 (bt0 n1 : Nat), .int .u8 (bt1 n1 : Nat), .int .u8 (bt2 n1 : Nat), .int .u8 (bt3 n1 : Nat), .int .u8 (bt0 n2 : Nat), .int .u8 (bt1 n2 : Nat), .int .u8 (bt2 n2 : Nat), .int .u8 (bt3 n2 : Nat), .int .u8 (bt0 n3 : Nat), .int .u8 (bt1 n3 : Nat), .int .u8 (bt2 n3 : Nat), .int .u8 (bt3 n3 : Nat)]) := by
    obtain ⟨q1, q2, q3, q4, q5⟩ := H3.out
    have hg := q1.ciph.here
    exact ⟨hk4, q2, q3.trans (ht4.toBelow (by omega) (by omega)), fun j v hv => (ht4.far (p := ⟨w.heap.size, 0 + j, none⟩) (show w.heap.size < _ by omega) (show w.heap.size ≠ g by omega)).trans (q4 j v hv), fun j v hv => (ht4.far (p := ⟨w.heap.size + 1, 0 + j, none⟩) (show w.heap.size + 1 < _ by omega) (show w.heap.size + 1 ≠ g by omega)).trans (q5 j v hv)⟩
  clear hk4 ht4 KE H3
  go_upto_region 5 with fail
  have H5 : Hid (KeyAt (w4.alloc (.cells #[.int .u8 (bt0 n0 : Nat), .int .u8 (bt1 n0 : Nat), .int .u8 (bt2 n0 : Nat), .int .u8 (bt3 n0 : Nat), .int .u8 (bt0 n1 : Nat), .int .u8 (bt1 n1 : Nat), .int .u8 (bt2 n1 : Nat), .int .u8 (bt3 n1 : Nat), .int .u8 (bt0 n2 : Nat), .int .u8 (bt1 n2 : Nat), .int .u8 (bt2 n2 : Nat), .int .u8 (bt3 n2 : Nat), .int .u8 (bt0 n3 : Nat), .int .u8 (bt1 n3 : Nat), .int .u8 (bt2 n3 : Nat), .int .u8 (bt3 n3 : Nat)] 42)) g (nk + 6) (schedK nk key) ∧ Below w.heap.size w (w4.alloc (.cells #[.int .u8 (bt0 n0 : Nat), .int .u8 (bt1 n0 : Nat), .int .u8 (bt2 n0 : Nat), .int .u8 (bt3 n0 : Nat), .int .u8 (bt0 n1 : Nat), .int .u8 (bt1 n1 : Nat), .int .u8 (bt2 n1 : Nat), .int .u8 (bt3 n1 : Nat), .int .u8 (bt0 n2 : Nat), .int .u8 (bt1 n2 : Nat), .int .u8 (bt2 n2 : Nat), .int .u8 (bt3 n2 : Nat), .int .u8 (bt0 n3 : Nat), .int .u8 (bt1 n3 : Nat), .int .u8 (bt2 n3 : Nat), .int .u8 (bt3 n3 : Nat)] 42)) ∧ (w4.alloc (.cells #[.int .u8 (bt0 n0 : Nat), .int .u8 (bt1 n0 : Nat), .int .u8 (bt2 n0 : Nat), .int .u8 (bt3 n0 : Nat), .int .u8 (bt0 n1 : Nat), .int .u8 (bt1 n1 : Nat), .int .u8 (bt2 n1 : Nat), .int .u8 (bt3 n1 : Nat), .int .u8 (bt0 n2 : Nat), .int .u8 (bt1 n2 : Nat), .int .u8 (bt2 n2 : Nat), .int .u8 (bt3 n2 : Nat), .int .u8 (bt0 n3 : Nat), .int .u8 (bt1 n3 : Nat), .int .u8 (bt2 n3 : Nat), .int .u8 (bt3 n3 : Nat)] 42)).rangeAt w.heap.size 0 [.int .u8 (bt0 s.a : Nat), .int .u8 (bt1 s.a : Nat), .int .u8 (bt2 s.a : Nat), .int .u8 (bt3 s.a : Nat), .int .u8 (bt0 s.b : Nat), .int .u8 (bt1 s.b : Nat), .int .u8 (bt2 s.b : Nat), .int .u8 (bt3 s.b : Nat), .int .u8 (bt0 s.c : Nat), .int .u8 (bt1 s.c : Nat), .int .u8 (bt2 s.c : Nat), .int .u8 (bt3 s.c : Nat), .int .u8 (bt0 s.d : Nat), .int .u8 (bt1 s.d : Nat), .int .u8 (bt2 s.d : Nat), .int .u8 (bt3 s.d : Nat)] ∧ (w4.alloc (.cells #[.int .u8 (bt0 n0 : Nat), .int .u8 (bt1 n0 : Nat), .int .u8 (bt2 n0 : Nat), .int .u8 (bt3 n0 : Nat), .int .u8 (bt0 n1 : Nat), .int .u8 (bt1 n1 : Nat), .int .u8 (bt2 n1 : Nat), .int .u8 (bt3 n1 : Nat), .int .u8 (bt0 n2 : Nat), .int .u8 (bt1 n2 : Nat), .int .u8 (bt2 n2 : Nat), .int .u8 (bt3 n2 : Nat), .int .u8 (bt0 n3 : Nat), .int .u8 (bt1 n3 : Nat), .int .u8 (bt2 n3 : Nat), .int .u8 (bt3 n3 : Nat)] 42)).rangeAt (w.heap.size + 1) 0 [.int .u8 (bt0 n0 : Nat), .int .u8 (bt1 n0 : Nat), .int .u8 (bt2 n0 : Nat), .int .u8 (bt3 n0 : Nat), .int .u8 (bt0 n1 : Nat), .int .u8 (bt1 n1 : Nat), .int .u8 (bt2 n1 : Nat), .int .u8 (bt3 n1 : Nat), .int .u8 (bt0 n2 : Nat), .int .u8 (bt1 n2 : Nat), .int .u8 (bt2 n2 : Nat), .int .u8 (bt3 n2 : Nat), .int .u8 (bt0 n3 : Nat), .int .u8 (bt1 n3 : Nat), .int .u8 (bt2 n3 : Nat), .int .u8 (bt3 n3 : Nat)] ∧ (w4.alloc (.cells #[.int .u8 (bt0 n0 : Nat), .int .u8 (bt1 n0 : Nat), .int .u8 (bt2 n0 : Nat), .int .u8 (bt3 n0 : Nat), .int .u8 (bt0 n1 : Nat), .int .u8 (bt1 n1 : Nat), .int .u8 (bt2 n1 : Nat), .int .u8 (bt3 n1 : Nat), .int .u8 (bt0 n2 : Nat), .int .u8 (bt1 n2 : Nat), .int .u8 (bt2 n2 : Nat), .int .u8 (bt3 n2 : Nat), .int .u8 (bt0 n3 : Nat), .int .u8 (bt1 n3 : Nat), .int .u8 (bt2 n3 : Nat), .int .u8 (bt3 n3 : Nat)] 42)).rangeAt w4.heap.size 0 [.int .u8 (bt0 n0 : Nat), .int .u8 (bt1 n0 : Nat), .int .u8 (bt2 n0 : Nat), .int .u8 (bt3 n0 : Nat), .int .u8 (bt0 n1 : Nat), .int .u8 (bt1 n1 : Nat), .int .u8 (bt2 n1 : Nat), .int .u8 (bt3 n1 : Nat), .int .u8 (bt0 n2 : Nat), .int .u8 (bt1 n2 : Nat), .int .u8 (bt2 n2 : Nat), .int .u8 (bt3 n2 : Nat), .int .u8 (bt0 n3 : Nat), .int .u8 (bt1 n3 : Nat), .int .u8 (bt2 n3 : Nat), .int .u8 (bt3 n3 : Nat)] ∧ w.heap.size + 2 ≤ g ∧ g < w4.heap.size ∧ w4.heap.size < (w4.alloc (.cells #[.int .u8 (bt0 n0 : Nat), .int .u8 (bt1 n0 : Nat), .int .u8 (bt2 n0 : Nat), .int .u8 (bt3 n0 : Nat), .int .u8 (bt0 n1 : Nat), .int .u8 (bt1 n1 : Nat), .int .u8 (bt2 n1 : Nat), .int .u8 (bt3 n1 : Nat), .int .u8 (bt0 n2 : Nat), .int .u8 (bt1 n2 : Nat), .int .u8 (bt2 n2 : Nat), .int .u8 (bt3 n2 : Nat), .int .u8 (bt0 n3 : Nat), .int .u8 (bt1 n3 : Nat), .int .u8 (bt2 n3 : Nat), .int .u8 (bt3 n3 : Nat)] 42)).heap.size) := by
    obtain ⟨q1, q2, q3, q4, q5⟩ := H4.out
    have hg := q1.ciph.here
    have hb : Below w4.heap.size w4 (w4.alloc (.cells #[.int .u8 (bt0 n0 : Nat), .int .u8 (bt1 n0 : Nat), .int .u8 (bt2 n0 : Nat), .int .u8 (bt3 n0 : Nat), .int .u8 (bt0 n1 : Nat), .int .u8 (bt1 n1 : Nat), .int .u8 (bt2 n1 : Nat), .int .u8 (bt3 n1 : Nat), .int .u8 (bt0 n2 : Nat), .int .u8 (bt1 n2 : Nat), .int .u8 (bt2 n2 : Nat), .int .u8 (bt3 n2 : Nat), .int .u8 (bt0 n3 : Nat), .int .u8 (bt1 n3 : Nat), .int .u8 (bt2 n3 : Nat), .int .u8 (bt3 n3 : Nat)] 42)) := (Below.refl _ _).alloc (Nat.le_refl _) _
    exact ⟨q1.below hb hg, q3.alloc (by omega) _, World.rangeAt_alloc q4 _, World.rangeAt_alloc q5 _, rangeAt_new w4 #[.int .u8 (bt0 n0 : Nat), .int .u8 (bt1 n0 : Nat), .int .u8 (bt2 n0 : Nat), .int .u8 (bt3 n0 : Nat), .int .u8 (bt0 n1 : Nat), .int .u8 (bt1 n1 : Nat), .int .u8 (bt2 n1 : Nat), .int .u8 (bt3 n1 : Nat), .int .u8 (bt0 n2 : Nat), .int .u8 (bt1 n2 : Nat), .int .u8 (bt2 n2 : Nat), .int .u8 (bt3 n2 : Nat), .int .u8 (bt0 n3 : Nat), .int .u8 (bt1 n3 : Nat), .int .u8 (bt2 n3 : Nat), .int .u8 (bt3 n3 : Nat)] 42, q2, hg, by simp⟩
  obtain ⟨A, HA⟩ : ∃ A, Hid (w4.heap.size = A) := ⟨_, rfl⟩
  generalize w4.alloc (.cells #[.int .u8 (bt0 n0 : Nat), .int .u8 (bt1 n0 : Nat), .int .u8 (bt2 n0 : Nat), .int .u8 (bt3 n0 : Nat), .int .u8 (bt0 n1 : Nat), .int .u8 (bt1 n1 : Nat), .int .u8 (bt2 n1 : Nat), .int .u8 (bt3 n1 : Nat), .int .u8 (bt0 n2 : Nat), .int .u8 (bt1 n2 : Nat), .int .u8 (bt2 n2 : Nat), .int .u8 (bt3 n2 : Nat), .int .u8 (bt0 n3 : Nat), .int .u8 (bt1 n3 : Nat), .int .u8 (bt2 n3 : Nat), .int .u8 (bt3 n3 : Nat)] 42) = w5 at H5 ⊢
  rw [HA.out] at H5 ⊢
  clear H4 HA
  have KD : Hid (Calls Tryd.prog 22 #[.pointer (some ⟨g, 0, none⟩), .agg #[.int .u8 (bt0 n0 : Nat), .int .u8 (bt1 n0 : Nat), .int .u8 (bt2 n0 : Nat), .int .u8 (bt3 n0 : Nat), .int .u8 (bt0 n1 : Nat), .int .u8 (bt1 n1 : Nat), .int .u8 (bt2 n1 : Nat), .int .u8 (bt3 n1 : Nat), .int .u8 (bt0 n2 : Nat), .int .u8 (bt1 n2 : Nat), .int .u8 (bt2 n2 : Nat), .int .u8 (bt3 n2 : Nat), .int .u8 (bt0 n3 : Nat), .int .u8 (bt1 n3 : Nat), .int .u8 (bt2 n3 : Nat), .int .u8 (bt3 n3 : Nat)]] w5 fun e w' => e = .returned (.tuple #[.agg #[.int .u8 (bt0 s.a : Nat), .int .u8 (bt1 s.a : Nat), .int .u8 (bt2 s.a : Nat), .int .u8 (bt3 s.a : Nat), .int .u8 (bt0 s.b : Nat), .int .u8 (bt1 s.b : Nat), .int .u8 (bt2 s.b : Nat), .int .u8 (bt3 s.b : Nat), .int .u8 (bt0 s.c : Nat), .int .u8 (bt1 s.c : Nat), .int .u8 (bt2 s.c : Nat), .int .u8 (bt3 s.c : Nat), .int .u8 (bt0 s.d : Nat), .int .u8 (bt1 s.d : Nat), .int .u8 (bt2 s.d : Nat), .int .u8 (bt3 s.d : Nat)], .int .i64 0]) ∧ KeyAt w' g (nk + 6) (schedK nk key) ∧ Touch w5 w' g 4 1) := by
    have h := kdec_ok g (nk + 6) (schedK nk key) ⟨n0, n1, n2, n3⟩ w5 H5.out.1 HNok.out
    rw [HDE.out] at h
    exact h
  go_wp2_with (first
    | (refine wpList_load_mid (by rfl) 42 (.tmp 9) (by rfl) A 0 (by rfl) [.int .u8 (bt0 n0 : Nat), .int .u8 (bt1 n0 : Nat), .int .u8 (bt2 n0 : Nat), .int .u8 (bt3 n0 : Nat), .int .u8 (bt0 n1 : Nat), .int .u8 (bt1 n1 : Nat), .int .u8 (bt2 n1 : Nat), .int .u8 (bt3 n1 : Nat), .int .u8 (bt0 n2 : Nat), .int .u8 (bt1 n2 : Nat), .int .u8 (bt2 n2 : Nat), .int .u8 (bt3 n2 : Nat), .int .u8 (bt0 n3 : Nat), .int .u8 (bt1 n3 : Nat), .int .u8 (bt2 n3 : Nat), .int .u8 (bt3 n3 : Nat)] _ H5.out.2.2.2.2.1 Tryd.underlying42 rfl size42 ?_)
    | (go_at_call 22; refine KD.out.mono ?_))
  rintro e6 w6 ⟨rfl, hk6, ht6⟩
  have H6 : Hid (Below w.heap.size w (w6.alloc (.cells #[.int .u8 (bt0 s.a : Nat), .int .u8 (bt1 s.a : Nat), .int .u8 (bt2 s.a : Nat), .int .u8 (bt3 s.a : Nat), .int .u8 (bt0 s.b : Nat), .int .u8 (bt1 s.b : Nat), .int .u8 (bt2 s.b : Nat), .int .u8 (bt3 s.b : Nat), .int .u8 (bt0 s.c : Nat), .int .u8 (bt1 s.c : Nat), .int .u8 (bt2 s.c : Nat), .int .u8 (bt3 s.c : Nat), .int .u8 (bt0 s.d : Nat), .int .u8 (bt1 s.d : Nat), .int .u8 (bt2 s.d : Nat), .int .u8 (bt3 s.d : Nat)] 42)) ∧ (w6.alloc (.cells #[.int .u8 (bt0 s.a : Nat), .int .u8 (bt1 s.a : Nat), .int .u8 (bt2 s.a : Nat), .int .u8 (bt3 s.a : Nat), .int .u8 (bt0 s.b : Nat), .int .u8 (bt1 s.b : Nat), .int .u8 (bt2 s.b : Nat), .int .u8 (bt3 s.b : Nat), .int .u8 (bt0 s.c : Nat), .int .u8 (bt1 s.c : Nat), .int .u8 (bt2 s.c : Nat), .int .u8 (bt3 s.c : Nat), .int .u8 (bt0 s.d : Nat), .int .u8 (bt1 s.d : Nat), .int .u8 (bt2 s.d : Nat), .int .u8 (bt3 s.d : Nat)] 42)).rangeAt w.heap.size 0 [.int .u8 (bt0 s.a : Nat), .int .u8 (bt1 s.a : Nat), .int .u8 (bt2 s.a : Nat), .int .u8 (bt3 s.a : Nat), .int .u8 (bt0 s.b : Nat), .int .u8 (bt1 s.b : Nat), .int .u8 (bt2 s.b : Nat), .int .u8 (bt3 s.b : Nat), .int .u8 (bt0 s.c : Nat), .int .u8 (bt1 s.c : Nat), .int .u8 (bt2 s.c : Nat), .int .u8 (bt3 s.c : Nat), .int .u8 (bt0 s.d : Nat), .int .u8 (bt1 s.d : Nat), .int .u8 (bt2 s.d : Nat), .int .u8 (bt3 s.d : Nat)] ∧ (w6.alloc (.cells #[.int .u8 (bt0 s.a : Nat), .int .u8 (bt1 s.a : Nat), .int .u8 (bt2 s.a : Nat), .int .u8 (bt3 s.a : Nat), .int .u8 (bt0 s.b : Nat), .int .u8 (bt1 s.b : Nat), .int .u8 (bt2 s.b : Nat), .int .u8 (bt3 s.b : Nat), .int .u8 (bt0 s.c : Nat), .int .u8 (bt1 s.c : Nat), .int .u8 (bt2 s.c : Nat), .int .u8 (bt3 s.c : Nat), .int .u8 (bt0 s.d : Nat), .int .u8 (bt1 s.d : Nat), .int .u8 (bt2 s.d : Nat), .int .u8 (bt3 s.d : Nat)] 42)).rangeAt (w.heap.size + 1) 0 [.int .u8 (bt0 n0 : Nat), .int .u8 (bt1 n0 : Nat), .int .u8 (bt2 n0 : Nat), .int .u8 (bt3 n0 : Nat), .int .u8 (bt0 n1 : Nat), .int .u8 (bt1 n1 : Nat), .int .u8 (bt2 n1 : Nat), .int .u8 (bt3 n1 : Nat), .int .u8 (bt0 n2 : Nat), .int .u8 (bt1 n2 : Nat), .int .u8 (bt2 n2 : Nat), .int .u8 (bt3 n2 : Nat), .int .u8 (bt0 n3 : Nat), .int .u8 (bt1 n3 : Nat), .int .u8 (bt2 n3 : Nat), .int .u8 (bt3 n3 : Nat)] ∧ (w6.alloc (.cells #[.int .u8 (bt0 s.a : Nat), .int .u8 (bt1 s.a : Nat), .int .u8 (bt2 s.a : Nat), .int .u8 (bt3 s.a : Nat), .int .u8 (bt0 s.b : Nat), .int .u8 (bt1 s.b : Nat), .int .u8 (bt2 s.b : Nat), .int .u8 (bt3 s.b : Nat), .int .u8 (bt0 s.c : Nat), .int .u8 (bt1 s.c : Nat), .int .u8 (bt2 s.c : Nat), .int .u8 (bt3 s.c : Nat), .int .u8 (bt0 s.d : Nat), .int .u8 (bt1 s.d : Nat), .int .u8 (bt2 s.d : Nat), .int .u8 (bt3 s.d : Nat)] 42)).rangeAt A 0 [.int .u8 (bt0 n0 : Nat), .int .u8 (bt1 n0 : Nat), .int .u8 (bt2 n0 : Nat), .int .u8 (bt3 n0 : Nat), .int .u8 (bt0 n1 : Nat), .int .u8 (bt1 n1 : Nat), .int .u8 (bt2 n1 : Nat), .int .u8 (bt3 n1 : Nat), .int .u8 (bt0 n2 : Nat), .int .u8 (bt1 n2 : Nat), .int .u8 (bt2 n2 : Nat), .int .u8 (bt3 n2 : Nat), .int .u8 (bt0 n3 : Nat), .int .u8 (bt1 n3 : Nat), .int .u8 (bt2 n3 : Nat), .int .u8 (bt3 n3 : Nat)] ∧ (w6.alloc (.cells #[.int .u8 (bt0 s.a : Nat), .int .u8 (bt1 s.a : Nat), .int .u8 (bt2 s.a : Nat), .int .u8 (bt3 s.a : Nat), .int .u8 (bt0 s.b : Nat), .int .u8 (bt1 s.b : Nat), .int .u8 (bt2 s.b : Nat), .int .u8 (bt3 s.b : Nat), .int .u8 (bt0 s.c : Nat), .int .u8 (bt1 s.c : Nat), .int .u8 (bt2 s.c : Nat), .int .u8 (bt3 s.c : Nat), .int .u8 (bt0 s.d : Nat), .int .u8 (bt1 s.d : Nat), .int .u8 (bt2 s.d : Nat), .int .u8 (bt3 s.d : Nat)] 42)).rangeAt w6.heap.size 0 [.int .u8 (bt0 s.a : Nat), .int .u8 (bt1 s.a : Nat), .int .u8 (bt2 s.a : Nat), .int .u8 (bt3 s.a : Nat), .int .u8 (bt0 s.b : Nat), .int .u8 (bt1 s.b : Nat), .int .u8 (bt2 s.b : Nat), .int .u8 (bt3 s.b : Nat), .int .u8 (bt0 s.c : Nat), .int .u8 (bt1 s.c : Nat), .int .u8 (bt2 s.c : Nat), .int .u8 (bt3 s.c : Nat), .int .u8 (bt0 s.d : Nat), .int .u8 (bt1 s.d : Nat), .int .u8 (bt2 s.d : Nat), .int .u8 (bt3 s.d : Nat)]) := by
    obtain ⟨q1, q2, q3, q4, q5, q6, q7, q8⟩ := H5.out
    have hs6 := ht6.size
    have hA : g ≠ A := by omega
    refine ⟨(q2.trans (ht6.toBelow (by omega) (by omega))).alloc (by omega) _, World.rangeAt_alloc (fun j v hv => (ht6.far (p := ⟨w.heap.size, 0 + j, none⟩) (show w.heap.size < _ by omega) (show w.heap.size ≠ g by omega)).trans (q3 j v hv)) _, World.rangeAt_alloc (fun j v hv => (ht6.far (p := ⟨w.heap.size + 1, 0 + j, none⟩) (show w.heap.size + 1 < _ by omega) (show w.heap.size + 1 ≠ g by omega)).trans (q4 j v hv)) _, World.rangeAt_alloc (fun j v hv => (ht6.far (p := ⟨A, 0 + j, none⟩) (show A < _ by omega) (show A ≠ g by omega)).trans (q5 j v hv)) _, rangeAt_new w6 #[.int .u8 (bt0 s.a : Nat), .int .u8 (bt1 s.a : Nat), .int .u8 (bt2 s.a : Nat), .int .u8 (bt3 s.a : Nat), .int .u8 (bt0 s.b : Nat), .int .u8 (bt1 s.b : Nat), .int .u8 (bt2 s.b : Nat), .int .u8 (bt3 s.b : Nat), .int .u8 (bt0 s.c : Nat), .int .u8 (bt1 s.c : Nat), .int .u8 (bt2 s.c : Nat), .int .u8 (bt3 s.c : Nat), .int .u8 (bt0 s.d : Nat), .int .u8 (bt1 s.d : Nat), .int .u8 (bt2 s.d : Nat), .int .u8 (bt3 s.d : Nat)] 42⟩
  clear hk6 ht6 KD H5
  go_upto_region 6 with fail
  obtain ⟨C, HC⟩ : ∃ C, Hid (w6.heap.size = C) := ⟨_, rfl⟩
  generalize w6.alloc (.cells #[.int .u8 (bt0 s.a : Nat), .int .u8 (bt1 s.a : Nat), .int .u8 (bt2 s.a : Nat), .int .u8 (bt3 s.a : Nat), .int .u8 (bt0 s.b : Nat), .int .u8 (bt1 s.b : Nat), .int .u8 (bt2 s.b : Nat), .int .u8 (bt3 s.b : Nat), .int .u8 (bt0 s.c : Nat), .int .u8 (bt1 s.c : Nat), .int .u8 (bt2 s.c : Nat), .int .u8 (bt3 s.c : Nat), .int .u8 (bt0 s.d : Nat), .int .u8 (bt1 s.d : Nat), .int .u8 (bt2 s.d : Nat), .int .u8 (bt3 s.d : Nat)] 42) = w7 at H6 ⊢
  rw [HC.out] at H6 ⊢
  clear HC
  have q1 := fun u => eq_same ((bt0 n0 : Nat) : Int) ((bt1 n0 : Nat) : Int) ((bt2 n0 : Nat) : Int) ((bt3 n0 : Nat) : Int) ((bt0 n1 : Nat) : Int) ((bt1 n1 : Nat) : Int) ((bt2 n1 : Nat) : Int) ((bt3 n1 : Nat) : Int) ((bt0 n2 : Nat) : Int) ((bt1 n2 : Nat) : Int) ((bt2 n2 : Nat) : Int) ((bt3 n2 : Nat) : Int) ((bt0 n3 : Nat) : Int) ((bt1 n3 : Nat) : Int) ((bt2 n3 : Nat) : Int) ((bt3 n3 : Nat) : Int) u
  have q2 := fun u => eq_same ((bt0 s.a : Nat) : Int) ((bt1 s.a : Nat) : Int) ((bt2 s.a : Nat) : Int) ((bt3 s.a : Nat) : Int) ((bt0 s.b : Nat) : Int) ((bt1 s.b : Nat) : Int) ((bt2 s.b : Nat) : Int) ((bt3 s.b : Nat) : Int) ((bt0 s.c : Nat) : Int) ((bt1 s.c : Nat) : Int) ((bt2 s.c : Nat) : Int) ((bt3 s.c : Nat) : Int) ((bt0 s.d : Nat) : Int) ((bt1 s.d : Nat) : Int) ((bt2 s.d : Nat) : Int) ((bt3 s.d : Nat) : Int) u
  go_wp2_with (first
    | (go_at_call 11; refine (num_ok _ _).mono ?_; rintro e9 w9 ⟨rfl, hw9⟩; obtain rfl := hw9.symm)
    | (refine wpList_load_want (by rfl) 42 (.tmp 9) (by rfl) A 0 (by rfl) [.int .u8 (bt0 n0 : Nat), .int .u8 (bt1 n0 : Nat), .int .u8 (bt2 n0 : Nat), .int .u8 (bt3 n0 : Nat), .int .u8 (bt0 n1 : Nat), .int .u8 (bt1 n1 : Nat), .int .u8 (bt2 n1 : Nat), .int .u8 (bt3 n1 : Nat), .int .u8 (bt0 n2 : Nat), .int .u8 (bt1 n2 : Nat), .int .u8 (bt2 n2 : Nat), .int .u8 (bt3 n2 : Nat), .int .u8 (bt0 n3 : Nat), .int .u8 (bt1 n3 : Nat), .int .u8 (bt2 n3 : Nat), .int .u8 (bt3 n3 : Nat)] _ H6.out.2.2.2.1 Tryd.underlying42 rfl size42 ?_)
    | (refine wpList_load_want (by rfl) 42 (.tmp 5) (by rfl) (w.heap.size + 1) 0 (by rfl) [.int .u8 (bt0 n0 : Nat), .int .u8 (bt1 n0 : Nat), .int .u8 (bt2 n0 : Nat), .int .u8 (bt3 n0 : Nat), .int .u8 (bt0 n1 : Nat), .int .u8 (bt1 n1 : Nat), .int .u8 (bt2 n1 : Nat), .int .u8 (bt3 n1 : Nat), .int .u8 (bt0 n2 : Nat), .int .u8 (bt1 n2 : Nat), .int .u8 (bt2 n2 : Nat), .int .u8 (bt3 n2 : Nat), .int .u8 (bt0 n3 : Nat), .int .u8 (bt1 n3 : Nat), .int .u8 (bt2 n3 : Nat), .int .u8 (bt3 n3 : Nat)] _ H6.out.2.2.1 Tryd.underlying42 rfl size42 ?_)
    | (refine wpList_load_want (by rfl) 42 (.tmp 11) (by rfl) C 0 (by rfl) [.int .u8 (bt0 s.a : Nat), .int .u8 (bt1 s.a : Nat), .int .u8 (bt2 s.a : Nat), .int .u8 (bt3 s.a : Nat), .int .u8 (bt0 s.b : Nat), .int .u8 (bt1 s.b : Nat), .int .u8 (bt2 s.b : Nat), .int .u8 (bt3 s.b : Nat), .int .u8 (bt0 s.c : Nat), .int .u8 (bt1 s.c : Nat), .int .u8 (bt2 s.c : Nat), .int .u8 (bt3 s.c : Nat), .int .u8 (bt0 s.d : Nat), .int .u8 (bt1 s.d : Nat), .int .u8 (bt2 s.d : Nat), .int .u8 (bt3 s.d : Nat)] _ H6.out.2.2.2.2 Tryd.underlying42 rfl size42 ?_)
    | (refine wpList_load_want (by rfl) 42 (.tmp 4) (by rfl) w.heap.size 0 (by rfl) [.int .u8 (bt0 s.a : Nat), .int .u8 (bt1 s.a : Nat), .int .u8 (bt2 s.a : Nat), .int .u8 (bt3 s.a : Nat), .int .u8 (bt0 s.b : Nat), .int .u8 (bt1 s.b : Nat), .int .u8 (bt2 s.b : Nat), .int .u8 (bt3 s.b : Nat), .int .u8 (bt0 s.c : Nat), .int .u8 (bt1 s.c : Nat), .int .u8 (bt2 s.c : Nat), .int .u8 (bt3 s.c : Nat), .int .u8 (bt0 s.d : Nat), .int .u8 (bt1 s.d : Nat), .int .u8 (bt2 s.d : Nat), .int .u8 (bt3 s.d : Nat)] _ H6.out.2.1 Tryd.underlying42 rfl size42 ?_))
  go_ret
  exact ⟨rfl, H6.out.1⟩
end Go.Proofs.YtgmfiljjogdccaaDoor
