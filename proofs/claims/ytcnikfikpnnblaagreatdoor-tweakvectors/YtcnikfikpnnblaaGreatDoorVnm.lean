import Derived.Test.YtcnikfikpnnblaaGreatDoorSld
import Derived.Test.YtcnikfikpnnblaaGreatDoorPart13
namespace Go.Proofs.YtcnikfikpnnblaaGreatDoor
open Go.RowKit
set_option linter.unusedVariables false
set_option maxRecDepth 100000
theorem encV_lit {K : Nat → Nat} {W : Nat} (hW : ∀ j, j < 44 → schedK 4 K j = wordT W j) {v y : BitVec 128} (a b c d : Nat) (a' b' c' d' : Nat) (ha : (toW v).a = a ∧ (toW v).b = b ∧ (toW v).c = c ∧ (toW v).d = d) (h : (encW 10 (wordT W) ⟨a, b, c, d⟩).a = a' ∧ (encW 10 (wordT W) ⟨a, b, c, d⟩).b = b' ∧ (encW 10 (wordT W) ⟨a, b, c, d⟩).c = c' ∧ (encW 10 (wordT W) ⟨a, b, c, d⟩).d = d') (hy : ofW ⟨a', b', c', d'⟩ = y) : encV 10 (schedK 4 K) v = y := by
  have e1 : toW v = ⟨a, b, c, d⟩ := by
    obtain ⟨h1, h2, h3, h4⟩ := ha
    generalize toW v = x at h1 h2 h3 h4
    cases x
    simp only at h1 h2 h3 h4
    rw [h1, h2, h3, h4]
  have e2 : encW 10 (wordT W) ⟨a, b, c, d⟩ = ⟨a', b', c', d'⟩ := by
    obtain ⟨h1, h2, h3, h4⟩ := h
    generalize encW 10 (wordT W) ⟨a, b, c, d⟩ = x at h1 h2 h3 h4
    cases x
    simp only at h1 h2 h3 h4
    rw [h1, h2, h3, h4]
  unfold encV
  rw [e1, encW_congr (by decide) hW, e2, hy]
theorem sched_lit {K : Nat → Nat} {W : Nat} (h1 : ∀ j : Fin 4, keyW K 16 j.1 = wordT W j.1) (h2 : ∀ m : Fin 40, nextW 4 (4 + m.1) (wordT W) = wordT W (4 + m.1)) : ∀ j, j < 44 → schedK 4 K j = wordT W j := fun j hj =>
  goW_at (fun j hj => h1 ⟨j, hj⟩) (by decide) (M := 40) (fun m hm => h2 ⟨m, hm⟩) 40 (Nat.le_refl _) j (by omega)
theorem xts2 {E : BitVec 128 → BitVec 128} {t y0 y1 : BitVec 128} {zs : List Int} (hl : zs.length = 32) (h0 : E (cutV zs 0 ^^^ t) ^^^ t = y0) (h1 : E (cutV zs 1 ^^^ Fld.TX t) ^^^ Fld.TX t = y1) : xtsL E t zs = Fd.BL y0 ++ Fd.BL y1 := by
  rw [xtsL, hl, mskL, if_pos (by rw [hl]), show 32 / 16 = 2 from rfl, bkL_succ, bkL_succ]
  show (bkL _ 0 ++ Fd.BL (E (cutV zs 0 ^^^ t) ^^^ t)) ++ Fd.BL (E (cutV zs 1 ^^^ Fld.TX t) ^^^ Fld.TX t) = _
  rw [h0, h1]
  rfl
theorem xts17 {E : BitVec 128 → BitVec 128} {t y0 y1 : BitVec 128} {zs : List Int} (hl : zs.length = 17) (h0 : E (cutV zs 0 ^^^ t) ^^^ t = y0) (h1 : E (stB zs 1 1 y0 ^^^ Fld.TX t) ^^^ Fld.TX t = y1) : xtsL E t zs = splice (Fd.BL y0 ++ (Fd.BL y0).take 1) 0 (Fd.BL y1) := by
  have e0 : mskF E (dbN t) zs 0 = y0 := h0
  have e1 : mskY E (dbN t) zs 1 = y1 := by
    unfold mskY
    rw [hl]
    show E (stB zs 1 1 (mskF E (dbN t) zs 0) ^^^ Fld.TX t) ^^^ Fld.TX t = y1
    rw [e0, h1]
  rw [xtsL, hl, mskL, if_neg (by rw [hl]; decide), show 17 / 16 = 1 from rfl, hl, e1, bkL_succ, show 17 - 16 * 1 = 1 from rfl, show 1 - 1 = 0 from rfl, e0]
  rfl
def kz1 : List Int := [0, 0, 0, 0, 0, 0, 0, 0, 0, 0, 0, 0, 0, 0, 0, 0, 0, 0, 0, 0, 0, 0, 0, 0, 0, 0, 0, 0, 0, 0, 0, 0]
def zs1 : List Int := [0, 0, 0, 0, 0, 0, 0, 0, 0, 0, 0, 0, 0, 0, 0, 0, 0, 0, 0, 0, 0, 0, 0, 0, 0, 0, 0, 0, 0, 0, 0, 0]
def ou1 : List Int := [145, 124, 246, 158, 189, 104, 178, 236, 155, 159, 233, 163, 234, 221, 166, 146, 205, 67, 210, 245, 149, 152, 237, 133, 140, 2, 194, 101, 47, 191, 146, 46]
def k1aW : Nat := 3086728411186113434010085328564694758707888827541578525932508294103916441570402791573795542183113716643934545717942891964977536574737262303920945443090379424315780933359357697865937954607470053738532527582126206885359368073629817969429017897983538849373117181778557738073968277760425851298675606418015817317664206104021910653608042734345322994807190351775813526333037773955515966668464502694248422946196324805974133693218816
theorem k1aS : ∀ j, j < 44 → schedK 4 (nat8 (kz1.take 16)) j = wordT k1aW j := sched_lit (by decide +kernel) (by decide +kernel)
def k1bW : Nat := 3086728411186113434010085328564694758707888827541578525932508294103916441570402791573795542183113716643934545717942891964977536574737262303920945443090379424315780933359357697865937954607470053738532527582126206885359368073629817969429017897983538849373117181778557738073968277760425851298675606418015817317664206104021910653608042734345322994807190351775813526333037773955515966668464502694248422946196324805974133693218816
theorem k1bS : ∀ j, j < 44 → schedK 4 (nat8 (kz1.drop 16)) j = wordT k1bW j := sched_lit (by decide +kernel) (by decide +kernel)
theorem v1t : encV 10 (schedK 4 (nat8 (kz1.drop 16))) (0#128) = 61368827288258104251737371505591052646#128 := encV_lit k1bS 0 0 0 0 1726565332 4018809915 2286746201 3392416558 (by decide +kernel) (by decide +kernel) (by decide +kernel)
theorem v1p : encV 10 (schedK 4 (nat8 (kz1.drop 16))) (plV true 0) = 61368827288258104251737371505591052646#128 := v1t
theorem v1e0 : encV 10 (schedK 4 (nat8 (kz1.take 16))) (61368827288258104251737371505591052646#128) = 250631705478751664928468182656761042423#128 := encV_lit k1aS 1726565332 4018809915 2286746201 3392416558 4153785674 1390583511 332600314 552177084 (by decide +kernel) (by decide +kernel) (by decide +kernel)
theorem v1e1 : encV 10 (schedK 4 (nat8 (kz1.take 16))) (122737654576516208503474743011182105292#128) = 152554037021370616309212608030772138241#128 := encV_lit k1aS 3436353448 3742718326 278525107 2489931356 26297693 1250800883 2627417814 3151414386 (by decide +kernel) (by decide +kernel) (by decide +kernel)
theorem v1o : xtsL (encV 10 (schedK 4 (nat8 (kz1.take 16)))) (encV 10 (schedK 4 (nat8 (kz1.drop 16))) (plV true 0)) zs1 = cellsU8 ou1 := by
  rw [v1p, xts2 (y0 := 194933709665755424236731954824245312657#128) (y1 := 61906440842902680264704181464613405645#128) rfl (by rw [show cutV zs1 0 ^^^ 61368827288258104251737371505591052646#128 = 61368827288258104251737371505591052646#128 by decide +kernel, v1e0]; decide +kernel) (by rw [show Fld.TX (61368827288258104251737371505591052646#128) = 122737654576516208503474743011182105292#128 by decide +kernel, show cutV zs1 1 ^^^ 122737654576516208503474743011182105292#128 = 122737654576516208503474743011182105292#128 by decide +kernel, v1e1]; decide +kernel)]
  kernel_rfl
def kz2 : List Int := [17, 17, 17, 17, 17, 17, 17, 17, 17, 17, 17, 17, 17, 17, 17, 17, 34, 34, 34, 34, 34, 34, 34, 34, 34, 34, 34, 34, 34, 34, 34, 34]
def zs2 : List Int := [68, 68, 68, 68, 68, 68, 68, 68, 68, 68, 68, 68, 68, 68, 68, 68, 68, 68, 68, 68, 68, 68, 68, 68, 68, 68, 68, 68, 68, 68, 68, 68]
def ou2 : List Int := [196, 84, 24, 94, 106, 22, 147, 110, 57, 51, 64, 56, 172, 239, 131, 139, 251, 24, 111, 255, 116, 128, 173, 196, 40, 147, 130, 236, 214, 211, 148, 240]
def k2aW : Nat := 2362251493845004848259177870139529228643043081172709758164241959885396325841657695196736456363748422364016293065347684722783765715742525476696627405054253507149391266760096797634662403825653712451625444706977774703690914810834668434513253028951224009623618131967470855084623051294345083563732914227819021638993475203855145736609907194226681493650814631507205908924832625110592133619325295828628334279358884399664365936120081
theorem k2aS : ∀ j, j < 44 → schedK 4 (nat8 (kz2.take 16)) j = wordT k2aW j := sched_lit (by decide +kernel) (by decide +kernel)
def k2bW : Nat := 431046860405625409791761294876026274907761090568473772364868699010123109118382204177875231043943456349835916322001230970911792610530837880394813119957826450689560095728695142439646693699946488870135628585978127982883165976630122072735770116859379834099744376479775585729834643011851127135454498732370199779335174886753910742207489813695594520066388420446222123275475800709597509409519814761210449205118984826252213876826658
theorem k2bS : ∀ j, j < 44 → schedK 4 (nat8 (kz2.drop 16)) j = wordT k2bW j := sched_lit (by decide +kernel) (by decide +kernel)
theorem v2t : encV 10 (schedK 4 (nat8 (kz2.drop 16))) (219902325555#128) = 221720595410134830620552995095508123711#128 := encV_lit k2bS 858993459 855638016 0 0 1065368525 226480819 1968718239 1507184038 (by decide +kernel) (by decide +kernel) (by decide +kernel)
theorem v2p : encV 10 (schedK 4 (nat8 (kz2.drop 16))) (plV true 219902325555) = 221720595410134830620552995095508123711#128 := v2t
theorem v2e0 : encV 10 (schedK 4 (nat8 (kz2.take 16))) (301119815031802895995211471504006956155#128) = 60221454807629470904437593594753438971#128 := encV_lit k2aS 2076475273 1228642039 823920091 496077282 4224983955 1734951389 1282081191 4114239021 (by decide +kernel) (by decide +kernel) (by decide +kernel)
theorem v2e1 : encV 10 (schedK 4 (nat8 (kz2.take 16))) (13125780982357013536823948435742999741#128) = 251304437894825599140239405766292281346#128 := encV_lit k2aS 3175363550 1606082595 2952054394 4159627017 35133541 1870530979 3273851090 1702432701 (by decide +kernel) (by decide +kernel) (by decide +kernel)
theorem v2o : xtsL (encV 10 (schedK 4 (nat8 (kz2.take 16)))) (encV 10 (schedK 4 (nat8 (kz2.drop 16))) (plV true 219902325555)) zs2 = cellsU8 ou2 := by
  rw [v2p, xts2 (y0 := 185447743443119367658237501361681355972#128) (y1 := 319787475539892430155266113452817455355#128) rfl (by rw [show cutV zs2 0 ^^^ 221720595410134830620552995095508123711#128 = 301119815031802895995211471504006956155#128 by decide +kernel, v2e0]; decide +kernel) (by rw [show Fld.TX (221720595410134830620552995095508123711#128) = 103158823899331197777731382759248036089#128 by decide +kernel, show cutV zs2 1 ^^^ 103158823899331197777731382759248036089#128 = 13125780982357013536823948435742999741#128 by decide +kernel, v2e1]; decide +kernel)]
  kernel_rfl
def kz3 : List Int := [255, 254, 253, 252, 251, 250, 249, 248, 247, 246, 245, 244, 243, 242, 241, 240, 191, 190, 189, 188, 187, 186, 185, 184, 183, 182, 181, 180, 179, 178, 177, 176]
def zs3 : List Int := [0, 1, 2, 3, 4, 5, 6, 7, 8, 9, 10, 11, 12, 13, 14, 15, 16]
def ou3 : List Int := [108, 22, 37, 219, 70, 113, 82, 45, 61, 117, 153, 96, 29, 231, 202, 9, 237]
def k3aW : Nat := 1348177626595005635815512422675503297086144209392466052110850238832091759394421953475923556752088911710129412869320858824574106223861623689306251103855983972175958081203649781660952563384128716956593619412362782909989602680296474644715583224606988972433651302694369474002092596390111588736683448736875468015866206586232768462270321861472288085979528208771387627976755851082840211589646783620440889822038598041777758160223740
theorem k3aS : ∀ j, j < 44 → schedK 4 (nat8 (kz3.take 16)) j = wordT k3aW j := sched_lit (by decide +kernel) (by decide +kernel)
def k3bW : Nat := 1808665379760162690742177502284500343148217563983387858585253228445534496233077379676856317876206746418161562852528938957346087310648028807676816506486532331869433191732178887691967177210690994749387316475400412956363570502274144375213268654886326050009946576072726604210563021440049450439330105868003589761137048557666788470210963884180881171633224104782782717523589766664182114611872763798110774490598899995037264617848252
theorem k3bS : ∀ j, j < 44 → schedK 4 (nat8 (kz3.drop 16)) j = wordT k3bW j := sched_lit (by decide +kernel) (by decide +kernel)
theorem v3t : encV 10 (schedK 4 (nat8 (kz3.drop 16))) (78187493530#128) = 299124532233852940544932998416074235255#128 := encV_lit k3bS 2591577652 301989888 0 0 2002590690 235340126 3612890201 340396513 (by decide +kernel) (by decide +kernel) (by decide +kernel)
theorem v3p : encV 10 (schedK 4 (nat8 (kz3.drop 16))) (plV true 78187493530) = 299124532233852940544932998416074235255#128 := v3t
theorem v3e0 : encV 10 (schedK 4 (nat8 (kz3.take 16))) (316394051052869277619568206417231436919#128) = 226693570290395722678121405481413436058#128 := encV_lit k3aS 2002524641 167905113 3746651730 407308270 2598536782 3931794996 2757669394 4053240746 (by decide +kernel) (by decide +kernel) (by decide +kernel)
theorem v3e1 : encV 10 (schedK 4 (nat8 (kz3.take 16))) (182853423104993803707152880405897217401#128) = 270957156007030495898960678546255883269#128 := encV_lit k3aS 2030414696 4182994390 3719778041 3444150409 95163167 1535070353 2479108562 896784587 (by decide +kernel) (by decide +kernel) (by decide +kernel)
theorem v3o : xtsL (encV 10 (schedK 4 (nat8 (kz3.take 16)))) (encV 10 (schedK 4 (nat8 (kz3.drop 16))) (plV true 78187493530)) zs3 = cellsU8 ou3 := by
  rw [v3p, xts17 (y0 := 100371598854739299983547657794099199981#128) (y1 := 13016583491619514725276992163864188524#128) rfl (by rw [show cutV zs3 0 ^^^ 299124532233852940544932998416074235255#128 = 316394051052869277619568206417231436919#128 by decide +kernel, v3e0]; decide +kernel) (by rw [show Fld.TX (299124532233852940544932998416074235255#128) = 257966697546767417626491389400380258921#128 by decide +kernel, show stB zs3 1 1 (100371598854739299983547657794099199981#128) ^^^ 257966697546767417626491389400380258921#128 = 182853423104993803707152880405897217401#128 by decide +kernel, v3e1]; decide +kernel)]
  kernel_rfl
def kz4 : List Int := [43, 126, 21, 22, 40, 174, 210, 166, 171, 247, 21, 136, 9, 207, 79, 60]
def zs4 : List Int := [107, 193, 190, 226, 46, 64, 159, 150, 233, 61, 126, 17, 115, 147, 23, 42]
def ou4 : List Int := [58, 215, 123, 180, 13, 122, 54, 96, 168, 158, 202, 243, 36, 102, 239, 151]
def k4aW : Nat := 5046468880051722124165138377573495752352814026446080871608016796122220429082579000232600314235784662476030427341372658306567627449033442801373289480869096360226894485099629028185229497190130648053266891598727969131253797210077642090429746202649527074628884158587131746570320957489095398094032979503431341887810050553743204897050105276776682016117297116796442808330014977125357325912016584471395215433345801901684693189661974
theorem k4aS : ∀ j, j < 44 → schedK 4 (nat8 (kz4.take 16)) j = wordT k4aW j := sched_lit (by decide +kernel) (by decide +kernel)
theorem v4e : encV 10 (schedK 4 (nat8 (kz4.take 16))) (55949989281577055826901839314960695659#128) = 201956458046155353237632218168454534970#128 := encV_lit k4aS 1807859426 775987094 3913121297 1939019562 987200436 226113120 2828978931 610725783 (by decide +kernel) (by decide +kernel) (by decide +kernel)
theorem v4o : bkL (fun j => encV 10 (schedK 4 (nat8 (kz4.take 16))) (cutV zs4 j)) 1 = cellsU8 ou4 := by
  rw [bkL_succ]
  show bkL _ 0 ++ Fd.BL (encV 10 (schedK 4 (nat8 (kz4.take 16))) (cutV zs4 0)) = _
  rw [show cutV zs4 0 = 55949989281577055826901839314960695659#128 by decide +kernel, v4e]
  kernel_rfl
def tk1T : ByteArray := ⟨#[48, 48, 48, 48, 48, 48, 48, 48, 48, 48, 48, 48, 48, 48, 48, 48, 48, 48, 48, 48, 48, 48, 48, 48, 48, 48, 48, 48, 48, 48, 48, 48, 48, 48, 48, 48, 48, 48, 48, 48, 48, 48, 48, 48, 48, 48, 48, 48, 48, 48, 48, 48, 48, 48, 48, 48, 48, 48, 48, 48, 48, 48, 48, 48]⟩
theorem tk1H : HexT tk1T 32 kz1 := ⟨rfl, by decide +kernel, by decide +kernel, rfl, by decide, by decide, by
  have h : ∀ i : Fin 32, 0 ≤ kz1.getD i.1 0 ∧ kz1.getD i.1 0 < 256 := by decide +kernel
  intro i
  by_cases hi : i < 32
  · exact h ⟨i, hi⟩
  · rw [List.getD_eq_getElem?_getD, List.getElem?_eq_none (by show kz1.length ≤ i; rw [show kz1.length = 32 from rfl]; omega)]; simp⟩
def tp1T : ByteArray := ⟨#[48, 48, 48, 48, 48, 48, 48, 48, 48, 48, 48, 48, 48, 48, 48, 48, 48, 48, 48, 48, 48, 48, 48, 48, 48, 48, 48, 48, 48, 48, 48, 48, 48, 48, 48, 48, 48, 48, 48, 48, 48, 48, 48, 48, 48, 48, 48, 48, 48, 48, 48, 48, 48, 48, 48, 48, 48, 48, 48, 48, 48, 48, 48, 48]⟩
theorem tp1H : HexT tp1T 32 zs1 := ⟨rfl, by decide +kernel, by decide +kernel, rfl, by decide, by decide, by
  have h : ∀ i : Fin 32, 0 ≤ zs1.getD i.1 0 ∧ zs1.getD i.1 0 < 256 := by decide +kernel
  intro i
  by_cases hi : i < 32
  · exact h ⟨i, hi⟩
  · rw [List.getD_eq_getElem?_getD, List.getElem?_eq_none (by show zs1.length ≤ i; rw [show zs1.length = 32 from rfl]; omega)]; simp⟩
def tk2T : ByteArray := ⟨#[49, 49, 49, 49, 49, 49, 49, 49, 49, 49, 49, 49, 49, 49, 49, 49, 49, 49, 49, 49, 49, 49, 49, 49, 49, 49, 49, 49, 49, 49, 49, 49, 50, 50, 50, 50, 50, 50, 50, 50, 50, 50, 50, 50, 50, 50, 50, 50, 50, 50, 50, 50, 50, 50, 50, 50, 50, 50, 50, 50, 50, 50, 50, 50]⟩
theorem tk2H : HexT tk2T 32 kz2 := ⟨rfl, by decide +kernel, by decide +kernel, rfl, by decide, by decide, by
  have h : ∀ i : Fin 32, 0 ≤ kz2.getD i.1 0 ∧ kz2.getD i.1 0 < 256 := by decide +kernel
  intro i
  by_cases hi : i < 32
  · exact h ⟨i, hi⟩
  · rw [List.getD_eq_getElem?_getD, List.getElem?_eq_none (by show kz2.length ≤ i; rw [show kz2.length = 32 from rfl]; omega)]; simp⟩
def tp2T : ByteArray := ⟨#[52, 52, 52, 52, 52, 52, 52, 52, 52, 52, 52, 52, 52, 52, 52, 52, 52, 52, 52, 52, 52, 52, 52, 52, 52, 52, 52, 52, 52, 52, 52, 52, 52, 52, 52, 52, 52, 52, 52, 52, 52, 52, 52, 52, 52, 52, 52, 52, 52, 52, 52, 52, 52, 52, 52, 52, 52, 52, 52, 52, 52, 52, 52, 52]⟩
theorem tp2H : HexT tp2T 32 zs2 := ⟨rfl, by decide +kernel, by decide +kernel, rfl, by decide, by decide, by
  have h : ∀ i : Fin 32, 0 ≤ zs2.getD i.1 0 ∧ zs2.getD i.1 0 < 256 := by decide +kernel
  intro i
  by_cases hi : i < 32
  · exact h ⟨i, hi⟩
  · rw [List.getD_eq_getElem?_getD, List.getElem?_eq_none (by show zs2.length ≤ i; rw [show zs2.length = 32 from rfl]; omega)]; simp⟩
def tk3T : ByteArray := ⟨#[102, 102, 102, 101, 102, 100, 102, 99, 102, 98, 102, 97, 102, 57, 102, 56, 102, 55, 102, 54, 102, 53, 102, 52, 102, 51, 102, 50, 102, 49, 102, 48, 98, 102, 98, 101, 98, 100, 98, 99, 98, 98, 98, 97, 98, 57, 98, 56, 98, 55, 98, 54, 98, 53, 98, 52, 98, 51, 98, 50, 98, 49, 98, 48]⟩
theorem tk3H : HexT tk3T 32 kz3 := ⟨rfl, by decide +kernel, by decide +kernel, rfl, by decide, by decide, by
  have h : ∀ i : Fin 32, 0 ≤ kz3.getD i.1 0 ∧ kz3.getD i.1 0 < 256 := by decide +kernel
  intro i
  by_cases hi : i < 32
  · exact h ⟨i, hi⟩
  · rw [List.getD_eq_getElem?_getD, List.getElem?_eq_none (by show kz3.length ≤ i; rw [show kz3.length = 32 from rfl]; omega)]; simp⟩
def tp3T : ByteArray := ⟨#[48, 48, 48, 49, 48, 50, 48, 51, 48, 52, 48, 53, 48, 54, 48, 55, 48, 56, 48, 57, 48, 97, 48, 98, 48, 99, 48, 100, 48, 101, 48, 102, 49, 48]⟩
theorem tp3H : HexT tp3T 17 zs3 := ⟨rfl, by decide +kernel, by decide +kernel, rfl, by decide, by decide, by
  have h : ∀ i : Fin 17, 0 ≤ zs3.getD i.1 0 ∧ zs3.getD i.1 0 < 256 := by decide +kernel
  intro i
  by_cases hi : i < 17
  · exact h ⟨i, hi⟩
  · rw [List.getD_eq_getElem?_getD, List.getElem?_eq_none (by show zs3.length ≤ i; rw [show zs3.length = 17 from rfl]; omega)]; simp⟩
def tk4T : ByteArray := ⟨#[50, 98, 55, 101, 49, 53, 49, 54, 50, 56, 97, 101, 100, 50, 97, 54, 97, 98, 102, 55, 49, 53, 56, 56, 48, 57, 99, 102, 52, 102, 51, 99]⟩
theorem tk4H : HexT tk4T 16 kz4 := ⟨rfl, by decide +kernel, by decide +kernel, rfl, by decide, by decide, by
  have h : ∀ i : Fin 16, 0 ≤ kz4.getD i.1 0 ∧ kz4.getD i.1 0 < 256 := by decide +kernel
  intro i
  by_cases hi : i < 16
  · exact h ⟨i, hi⟩
  · rw [List.getD_eq_getElem?_getD, List.getElem?_eq_none (by show kz4.length ≤ i; rw [show kz4.length = 16 from rfl]; omega)]; simp⟩
def tp4T : ByteArray := ⟨#[54, 98, 99, 49, 98, 101, 101, 50, 50, 101, 52, 48, 57, 102, 57, 54, 101, 57, 51, 100, 55, 101, 49, 49, 55, 51, 57, 51, 49, 55, 50, 97]⟩
theorem tp4H : HexT tp4T 16 zs4 := ⟨rfl, by decide +kernel, by decide +kernel, rfl, by decide, by decide, by
  have h : ∀ i : Fin 16, 0 ≤ zs4.getD i.1 0 ∧ zs4.getD i.1 0 < 256 := by decide +kernel
  intro i
  by_cases hi : i < 16
  · exact h ⟨i, hi⟩
  · rw [List.getD_eq_getElem?_getD, List.getElem?_eq_none (by show zs4.length ≤ i; rw [show zs4.length = 16 from rfl]; omega)]; simp⟩
theorem ou1B : AllBytes ou1 := by
  have h : ∀ i : Fin 32, 0 ≤ ou1.getD i.1 0 ∧ ou1.getD i.1 0 < 256 := by decide +kernel
  intro i
  by_cases hi : i < 32
  · exact h ⟨i, hi⟩
  · rw [List.getD_eq_getElem?_getD, List.getElem?_eq_none (by show ou1.length ≤ i; rw [show ou1.length = 32 from rfl]; omega)]; simp
theorem ou2B : AllBytes ou2 := by
  have h : ∀ i : Fin 32, 0 ≤ ou2.getD i.1 0 ∧ ou2.getD i.1 0 < 256 := by decide +kernel
  intro i
  by_cases hi : i < 32
  · exact h ⟨i, hi⟩
  · rw [List.getD_eq_getElem?_getD, List.getElem?_eq_none (by show ou2.length ≤ i; rw [show ou2.length = 32 from rfl]; omega)]; simp
theorem ou3B : AllBytes ou3 := by
  have h : ∀ i : Fin 17, 0 ≤ ou3.getD i.1 0 ∧ ou3.getD i.1 0 < 256 := by decide +kernel
  intro i
  by_cases hi : i < 17
  · exact h ⟨i, hi⟩
  · rw [List.getD_eq_getElem?_getD, List.getElem?_eq_none (by show ou3.length ≤ i; rw [show ou3.length = 17 from rfl]; omega)]; simp
theorem ou4B : AllBytes ou4 := by
  have h : ∀ i : Fin 16, 0 ≤ ou4.getD i.1 0 ∧ ou4.getD i.1 0 < 256 := by decide +kernel
  intro i
  by_cases hi : i < 16
  · exact h ⟨i, hi⟩
  · rw [List.getD_eq_getElem?_getD, List.getElem?_eq_none (by show ou4.length ≤ i; rw [show ou4.length = 16 from rfl]; omega)]; simp
end Go.Proofs.YtcnikfikpnnblaaGreatDoor
