import Derived.Test.YtioggmjocelolaaTexts
namespace Go.Proofs.Ytioggmjocelolaa.digestTextBack
open Go.RowKit

theorem low_eq (c : Int) : lowS c = lowC c := rfl

set_option maxHeartbeats 400000 in
theorem walk_long (v0 : Value) (xs : List Int) (s : ByteArray) (w : World) (h0 : View w v0 xs) (hl : 65536 < xs.length ∨ 65536 < s.size) :
    Calls Try.prog 4 #[v0, .string s] w fun e w' => e = .returned (.bool true) ∧ Below w.heap.size w w' := by
  obtain ⟨a, c, rfl, _⟩ := h0
  generalize xs.length = n at hl ⊢
  by_cases hn : 65536 < n
  · have h1 : decide ((65536 : Int) < (n : Int)) = true := by simp; omega
    clear hl hn
    go_enter Try.func4, Try.ntmps4
    go_wp2
    go_ret
    exact ⟨rfl, Below.refl _ _⟩
  · have h1 : decide ((65536 : Int) < (n : Int)) = false := by simp; omega
    have h2 : decide ((65536 : Int) < (s.size : Int)) = true := by simp; omega
    clear hl hn
    go_enter Try.func4, Try.ntmps4
    go_wp2
    go_ret
    exact ⟨rfl, Below.refl _ _⟩

set_option maxHeartbeats 3200000 in
set_option maxRecDepth 100000 in
theorem walk_short (v0 : Value) (xs : List Int) (s : ByteArray) (w : World) (ax : AllBytes xs) (hn : xs.length ≤ 65536) (hs : s.size ≤ 65536) (hv0 : View w v0 xs) :
    Calls Try.prog 4 #[v0, .string s] w fun e w' => e = .returned (.bool true) ∧ Below w.heap.size w w' := by
  have HV : Hid (View w v0 xs) := hv0
  obtain ⟨a0, c0, he0, _⟩ := hv0
  obtain ⟨n, hxl⟩ : ∃ n, n = xs.length := ⟨_, rfl⟩
  rw [← hxl] at he0 hn
  have HX : Hid (n = xs.length) := hxl
  subst he0
  have h1 : decide ((65536 : Int) < (n : Int)) = false := by simp; omega
  have h2 : decide ((65536 : Int) < (s.size : Int)) = false := by simp; omega
  clear hxl
  go_enter Try.func4, Try.ntmps4
  go_wp2_with fail
  refine (hex_any _ xs _ (by rw [← HX.out]; exact hn) ax HV.out).mono ?_
  rintro e w1 ⟨rfl, b1⟩
  go_wp2_with fail
  refine (b64_any _ xs _ (by rw [← HX.out]; exact hn) ax (HV.out.kept b1.block)).mono ?_
  rintro e w2 ⟨rfl, b2⟩
  have hh := hexGood_hex xs ax
  have hb := b64Good_b64 xs ax
  have szh : (strOfNums (hexBytes xs)).size = 2 * n := by rw [strOfNums_size, hexBytes_length, HX.out]
  have szt : (strOfNums (b64 xs)).size = (n + 2) / 3 * 4 := by rw [strOfNums_size, b64_length xs.length xs (Nat.le_refl _), HX.out]
  have e3 : unhex (nums (strOfNums (hexBytes xs))) = xs := by rw [hh.2, unhex_hexBytes xs (bytes_of ax)]
  have e4 : unb64 (nums (strOfNums (b64 xs))) = xs := by rw [hb.2, unb64_b64 xs.length xs (Nat.le_refl _) (bytes_of ax)]
  generalize strOfNums (hexBytes xs) = H at hh szh e3 ⊢
  generalize strOfNums (b64 xs) = X at hb szt e4 ⊢
  have B2 : Hid (Below w.heap.size w w2) := b1.trans (b2.mono b1.size)
  have V2 : Hid (View w2 (.slice a0 n c0) xs) := (HV.out.kept b1.block).kept b2.block
  have E3 : Hid (unhex (nums H) = xs) := e3
  have E4 : Hid (unb64 (nums X) = xs) := e4
  have HH : Hid (HexGood H) := hh.1
  have HT : Hid (B64Good X) := hb.1
  have SH : Hid (H.size = 2 * n) := szh
  have ST : Hid (X.size = (n + 2) / 3 * 4) := szt
  clear b1 b2 HV hh hb e3 e4 szh szt
  go_wp2_with fail
  refine (fromHex_good H _ (by rw [SH.out]; omega) HH.out).mono ?_
  rintro e w3 ⟨x, rfl, ox, b3⟩
  go_wp2_with fail
  refine (fromB64_good X _ (by rw [ST.out]; omega) HT.out).mono ?_
  rintro e w4 ⟨y, rfl, oy, b4⟩
  have vx := (view_of_own ox).1.kept b4.block
  have vy := (view_of_own oy).1
  rw [E3.out] at vx
  rw [E4.out] at vy
  have V4 : Hid (View w4 (.slice a0 n c0) xs) := (V2.out.kept b3.block).kept b4.block
  have B4 : Hid (Below w.heap.size w w4) := (B2.out.trans (b3.mono B2.out.size)).trans (b4.mono ((B2.out.trans (b3.mono B2.out.size)).size))
  have hl1 : ((H.size : Int) != 2 * (n : Int)) = false := by have := SH.out; simp; omega
  have hl2 : ((X.size : Int) != ((n : Int) + 2) / 3 * 4) = false := by have := ST.out; simp; omega
  have VX : Hid (View w4 x xs) := vx
  have VY : Hid (View w4 y xs) := vy
  clear ox oy b3 b4 vx vy V2 B2 E3 E4 HH HT SH ST
  go_wp2_with (first | (go_at_call 15; refine (num_any _ _).mono ?_; rintro e w' ⟨rfl, hw⟩; obtain rfl := hw.symm))
  refine (same_any _ _ xs xs _ VX.out V4.out).mono ?_
  rintro e w5 ⟨rfl, m5, rfl⟩
  simp only [decide_true]
  go_wp2_with (first | (go_at_call 15; refine (num_any _ _).mono ?_; rintro e w' ⟨rfl, hw⟩; obtain rfl := hw.symm))
  refine (same_any _ _ xs xs _ (by exact VY.out.kept (fun _ _ => rfl)) (by exact V4.out.kept (fun _ _ => rfl))).mono ?_
  rintro e w6 ⟨rfl, m6, rfl⟩
  simp only [decide_true]
  have B6 : Hid (Below w.heap.size w ((w4.drewN m5).drewN m6)) := ⟨B4.out.os, B4.out.tape, B4.out.output, B4.out.size, B4.out.block⟩
  generalize (w4.drewN m5).drewN m6 = w6 at B6 ⊢
  clear VX VY V4 B4
  go_wp2_with fail
  by_cases hg : HexGood s
  · refine (fromHex_good s _ (by omega) hg).mono ?_
    rintro e w7 ⟨x2, rfl, ox, b7⟩
    have h2m : (nums s).length = 2 * (s.size / 2) := by rw [nums_length]; have := hg.2; omega
    have hback := hexBytes_unhex (s.size / 2) (nums s) h2m (nums_bytes s) hg.1
    have hlow : hexBytes (unhex (nums s)) = (nums s).map lowC := hback.1
    have vx2 := view_of_own ox
    have B7 : Hid (Below w.heap.size w w7) := B6.out.trans (b7.mono B6.out.size)
    have VX : Hid (View w7 x2 (unhex (nums s))) := vx2.1
    have HL : Hid (hexBytes (unhex (nums s)) = (nums s).map lowC) := hlow
    have HA : Hid (AllBytes (unhex (nums s))) := allBytes_of hback.2
    have HN : Hid ((unhex (nums s)).length ≤ 65536) := by rw [vx2.2]; show s.size / 2 ≤ 65536; omega
    clear ox b7 h2m hback hlow vx2 B6
    go_wp2_with (first | (go_at_call 15; refine (num_any _ _).mono ?_; rintro e w' ⟨rfl, hw⟩; obtain rfl := hw.symm))
    refine (hex_any _ (unhex (nums s)) _ HN.out HA.out VX.out).mono ?_
    rintro e w8 ⟨rfl, b8⟩
    rw [HL.out]
    go_wp2_with fail
    refine (small_any s s.size _ rfl (by omega)).mono ?_
    rintro e w9 ⟨rfl, b9⟩
    have B9 : Hid (Below w.heap.size w w9) := (B7.out.trans (b8.mono B7.out.size)).trans (b9.mono ((B7.out.trans (b8.mono B7.out.size)).size))
    clear b8 b9 B7 VX HL HA HN
    go_wp2_with (first | (go_at_call 15; refine (num_any _ _).mono ?_; rintro e w' ⟨rfl, hw⟩; obtain rfl := hw.symm))
    by_cases hq : B64Good s
    · refine (fromB64_good s _ (by omega) hq).mono ?_
      rintro e wa ⟨y2, rfl, oy, ba⟩
      have h4m : (nums s).length = 4 * (s.size / 4) := by rw [nums_length]; have := hq.2; omega
      have hgood := good_all (nums s) (s.size / 4) h4m (fun i hi => hq.1 i (by have := hq.2; omega))
      have hbk := b64_unb64 (s.size / 4) (nums s) h4m (nums_bytes s) hgood
      have hby := unb64_bytes (s.size / 4) (nums s) h4m
      have vy2 := view_of_own oy
      have hle : (unb64 (nums s)).length ≤ 65536 := by
        rw [← unq_eq (s.size / 4) (nums s) h4m]
        have := unq_length (nums s) (s.size / 4)
        omega
      have BA : Hid (Below w.heap.size w wa) := B9.out.trans (ba.mono B9.out.size)
      have VY : Hid (View wa y2 (unb64 (nums s))) := vy2.1
      have HL : Hid (strOfNums (b64 (unb64 (nums s))) = s) := by rw [hbk]; exact strOfNums_nums s
      have HA : Hid (AllBytes (unb64 (nums s))) := allBytes_of hby
      have HN : Hid ((unb64 (nums s)).length ≤ 65536) := hle
      clear oy ba h4m hgood hbk hby vy2 hle
      go_wp2_with (first | (go_at_call 15; refine (num_any _ _).mono ?_; rintro e w' ⟨rfl, hw⟩; obtain rfl := hw.symm))
      refine (b64_any _ (unb64 (nums s)) _ HN.out HA.out VY.out).mono ?_
      rintro e wb ⟨rfl, bb⟩
      rw [HL.out]
      have BB : Hid (Below w.heap.size w wb) := BA.out.trans (bb.mono BA.out.size)
      clear bb VY HL HA HN BA
      go_wp2_with (first | (go_at_call 15; refine (num_any _ _).mono ?_; rintro e w' ⟨rfl, hw⟩; obtain rfl := hw.symm))
      go_ret
      exact ⟨rfl, BB⟩
    · refine (fromB64_bad s _ (by omega) hq).mono ?_
      rintro e wa ⟨pq, hpq, rfl, hw⟩
      obtain rfl := hw.symm
      have hpq1 : (0 : Int) ≤ (pq : Int) := by omega
      have hpq2 : (pq : Int) ≤ (s.size : Int) := by omega
      go_wp2_with (first | (go_at_call 15; refine (num_any _ _).mono ?_; rintro e w' ⟨rfl, hw⟩; obtain rfl := hw.symm))
      go_ret
      exact ⟨rfl, B9⟩
  · refine (fromHex_bad s _ (by omega) hg).mono ?_
    rintro e w9 ⟨p, hp, rfl, hw⟩
    obtain rfl := hw.symm
    have hp1 : (0 : Int) ≤ (p : Int) := by omega
    have hp2 : ¬ ((s.size : Int) < (p : Int)) := by omega
    go_wp2_with (first | (go_at_call 15; refine (num_any _ _).mono ?_; rintro e w' ⟨rfl, hw⟩; obtain rfl := hw.symm))
    by_cases hq : B64Good s
    · refine (fromB64_good s _ (by omega) hq).mono ?_
      rintro e wa ⟨y2, rfl, oy, ba⟩
      have h4m : (nums s).length = 4 * (s.size / 4) := by rw [nums_length]; have := hq.2; omega
      have hgood := good_all (nums s) (s.size / 4) h4m (fun i hi => hq.1 i (by have := hq.2; omega))
      have hbk := b64_unb64 (s.size / 4) (nums s) h4m (nums_bytes s) hgood
      have hby := unb64_bytes (s.size / 4) (nums s) h4m
      have vy2 := view_of_own oy
      have hle : (unb64 (nums s)).length ≤ 65536 := by
        rw [← unq_eq (s.size / 4) (nums s) h4m]
        have := unq_length (nums s) (s.size / 4)
        omega
      have BA : Hid (Below w.heap.size w wa) := B6.out.trans (ba.mono B6.out.size)
      have VY : Hid (View wa y2 (unb64 (nums s))) := vy2.1
      have HL : Hid (strOfNums (b64 (unb64 (nums s))) = s) := by rw [hbk]; exact strOfNums_nums s
      have HA : Hid (AllBytes (unb64 (nums s))) := allBytes_of hby
      have HN : Hid ((unb64 (nums s)).length ≤ 65536) := hle
      clear oy ba h4m hgood hbk hby vy2 hle
      go_wp2_with (first | (go_at_call 15; refine (num_any _ _).mono ?_; rintro e w' ⟨rfl, hw⟩; obtain rfl := hw.symm))
      refine (b64_any _ (unb64 (nums s)) _ HN.out HA.out VY.out).mono ?_
      rintro e wb ⟨rfl, bb⟩
      rw [HL.out]
      have BB : Hid (Below w.heap.size w wb) := BA.out.trans (bb.mono BA.out.size)
      clear bb VY HL HA HN BA
      go_wp2_with (first | (go_at_call 15; refine (num_any _ _).mono ?_; rintro e w' ⟨rfl, hw⟩; obtain rfl := hw.symm))
      go_ret
      exact ⟨rfl, BB⟩
    · refine (fromB64_bad s _ (by omega) hq).mono ?_
      rintro e wa ⟨pq, hpq, rfl, hw⟩
      obtain rfl := hw.symm
      have hpq1 : (0 : Int) ≤ (pq : Int) := by omega
      have hpq2 : (pq : Int) ≤ (s.size : Int) := by omega
      go_wp2_with (first | (go_at_call 15; refine (num_any _ _).mono ?_; rintro e w' ⟨rfl, hw⟩; obtain rfl := hw.symm))
      go_ret
      exact ⟨rfl, B6⟩

/-- The law, of any input. -/
theorem walk (v0 : Value) (xs : List Int) (s : ByteArray) (w : World) (ax : AllBytes xs) (h0 : View w v0 xs) :
    Calls Try.prog 4 #[v0, .string s] w fun e w' => e = .returned (.bool true) ∧ Below w.heap.size w w' := by
  by_cases hn : xs.length ≤ 65536
  · by_cases hs : s.size ≤ 65536
    · exact walk_short v0 xs s w ax hn hs h0
    · exact walk_long v0 xs s w h0 (.inr (by omega))
  · exact walk_long v0 xs s w h0 (.inl (by omega))
end Go.Proofs.Ytioggmjocelolaa.digestTextBack
