/- Merged texts of this seat. PhyLaw: The law function of physical frames (FnPhysicalFrames) returns true and leaves what was there. Conditions: the argument is a slice of bytes that came in; package errors' variable errorType holds the handle of the type error. -/
import Derived.Test.YtdelpepepbkjmaaGreatDoorG5
import Derived.Test.YtdelpepepbkjmaaGreatDoorG7
import Derived.Test.YtdelpepepbkjmaaGreatDoorG8
section
namespace Go.Proofs.YtdelpepepbkjmaaGreatDoor.phyLaw
open Go.RowKit sl harn phm phs draw
set_option linter.unusedVariables false
set_option maxRecDepth 100000 in
set_option maxHeartbeats 8000000 in
theorem walk (a : Option Addr) (len cap : Nat) (z0 : List Int) (w : World) (r0 : kit.IsRow .u8 w a len cap z0) (hg : asErr.Handle w) :
    Calls Tryz.prog 3 #[.slice a len cap] w fun e w' => e = .returned (.bool true) ∧ Below w.heap.size w w' := by
  have HC := Lib.hid (draw.code_of_row r0)
  have HG := Lib.hid hg
  have hlen : (len : Int) ≤ 9223372036854775807 := by have := HC.out.1; omega
  obtain ⟨i0, hi0, hz0, hz1, hz2⟩ := info_parts intInfo
  have HI := Lib.hid (And.intro hi0 hz1)
  clear r0 hg hi0 hz0 hz1 hz2
  by_cases hbig : 1048576 < (len : Int)
  · go_enter Tryz.func3, Tryz.ntmps3
    go_wp2
    go_ret
    exact ⟨rfl, Below.refl _ _⟩
  go_enter Tryz.func3, Tryz.ntmps3
  go_wp2_with (go_at_call 6; go_in)
  clear hbig
  go_wp2_with fail
  (with_reducible refine (draw.drawTx _ a len cap HC.out).mono ?_)
  rintro e w1 ⟨r, l, s, A, n, c, zs, rfl, hr, hl, hs, hn, ho, hb⟩
  have HRL := Lib.hid (And.intro hr (And.intro hl hs))
  have hcap := ho.rd.cap_
  obtain ⟨b, hbb⟩ : ∃ b, b = w1.heap.size := ⟨_, rfl⟩
  obtain ⟨w2, hW⟩ : ∃ w2, w2 = w1.alloc (.cells #[.int .i64 r, .int .i64 l, .int .i64 s] 25) := ⟨_, rfl⟩
  have B2 := Lib.hid (show Below w.heap.size w w2 by rw [hW]; exact hb.alloc hb.size _)
  have X2 := Lib.hid (show Box w2 b r l s by rw [hW, hbb]; exact Box.made _ _ _ _)
  have O2 := Lib.hid (show Ow 5 .u8 w2 w.heap.size w1.heap.size A n c zs by rw [hW]; exact ho.alloc _)
  have HNN := Lib.hid hn
  clear hb hr hl hs ho hn
  go_wp2_with fail
  rw [← hW, ← hbb]
  clear hW hbb HC
  (with_reducible refine (implTx r l s zs _ _ A n c _ O2.out.rd (by have := HNN.out; omega)).mono ?_)
  rintro e w3 ⟨A3, n3, c3, rfl, ho, hb⟩
  have O3 := Lib.hid ho
  have B3 := Lib.hid (B2.out.trans (hb.mono B2.out.size))
  have X3 := Lib.hid (X2.out.below hb)
  have P3 := Lib.hid (O2.out.below hb)
  have hcap3 := ho.rd.cap_
  clear ho hb B2 X2 O2
  have x0 := X3.out.c0
  have x1 := X3.out.c1
  have x2 := X3.out.c2
  by_cases hv : Hv r l s
  · have HV := Lib.hid (hv_yes hv)
    have HVH := Lib.hid hv
    have HQ := Lib.hid (fsy_yes hv)
    have HPI := Lib.hid (psy_in hv)
    obtain ⟨q, hq⟩ : ∃ q, fsy r l s = q := ⟨_, rfl⟩
    have hqin : 81 ≤ q ∧ q ≤ 2010 := by have := HQ.out; have := HPI.out; omega
    have HFQ := Lib.hid hq
    clear hv hq
    by_cases hnl : (n : Int) = l
    · have HN3 := Lib.hid (show (n3 : Int) = q by rw [← O3.out.len, ← HFQ.out]; exact tx_len_yes HVH.out (by rw [P3.out.len]; exact hnl))
      have HB := Lib.hid (show crcm.Byt zs from crcs.byt_of_wf P3.out.wf)
      have RX1 := Lib.hid (show rx (tx r l s zs) = ((r, l, s), zs, 0) from rx_tx HVH.out HB.out (by rw [P3.out.len]; exact hnl))
      have RX2 := Lib.hid (show rx ((tx r l s zs).take 54) = ((0, 0, 0), [], 1) from rx_short HVH.out (by rw [P3.out.len]; exact hnl))
      have hnl2 : ((n : Int) == l) = true := by simpa using hnl
      clear hnl
      go_wp2_with fail
      (with_reducible refine (specHv r l s _).mono ?_)
      rw [HV.out]
      rintro e w4 ⟨rfl, hb⟩
      have B4 := Lib.hid (B3.out.trans (hb.mono B3.out.size))
      have X4 := Lib.hid (X3.out.below hb)
      have P4 := Lib.hid (P3.out.below hb)
      have O4 := Lib.hid (O3.out.below hb)
      clear hb x0 x1 x2
      have x0 := X4.out.c0
      have x1 := X4.out.c1
      have x2 := X4.out.c2
      have H54 := Lib.hid (show 54 ≤ n3 by have := HN3.out; omega)
      obtain ⟨A5, hA5, sl5⟩ := cuts.slice_pre (P := Tryz.prog) 28 3 i0 Tryz.underlying28 HI.out.1 HI.out.2 A3 n3 c3 54 (by have := H54.out; omega)
      have sl5 : ∀ W, (Instr.slice 28 (.slice A3 n3 c3) none (some (.int .i64 54)) none).run Tryz.prog W = .ok (.slice A5 54 c3) W := sl5
      have R54 := Lib.hid (fun W (h : Ow 3 .i64 W w2.heap.size w3.heap.size A3 n3 c3 (tx r l s zs)) => cuts.rd_pre h.rd (j := 54) H54.out A5 hA5)
      clear hA5
      go_wp2_with fail
      (with_reducible refine (implRx (tx r l s zs) _ _ A3 n3 c3 _ (HG.out.below B4.out) O4.out.rd (by have := HN3.out; omega)).mono ?_)
      rintro e w5 hpost
      obtain ⟨A6, n6, c6, rfl, ho, hb⟩ := rx_parts RX1.out hpost
      obtain ⟨b6, hbb⟩ : ∃ b, b = w5.heap.size := ⟨_, rfl⟩
      obtain ⟨w6, hW⟩ : ∃ x, x = w5.alloc (.cells #[.int .i64 r, .int .i64 l, .int .i64 s] 25) := ⟨_, rfl⟩
      have B5 := Lib.hid (B4.out.trans (hb.mono B4.out.size))
      have X5 := Lib.hid (X4.out.below hb)
      have P5 := Lib.hid (P4.out.below hb)
      have O5 := Lib.hid (O4.out.below hb)
      have B6 := Lib.hid (show Below w.heap.size w w6 by rw [hW]; exact B5.out.alloc B5.out.size _)
      have X6 := Lib.hid (show Box w6 b r l s by rw [hW]; exact X5.out.below (below_box _ _))
      have Y6 := Lib.hid (show Box w6 b6 r l s by rw [hW, hbb]; exact Box.made _ _ _ _)
      have P6 := Lib.hid (show Ow 5 .u8 w6 w.heap.size w1.heap.size A n c zs by rw [hW]; exact P5.out.alloc _)
      have O6 := Lib.hid (show Ow 3 .i64 w6 w2.heap.size w3.heap.size A3 n3 c3 (tx r l s zs) by rw [hW]; exact O5.out.alloc _)
      have Q6 := Lib.hid (show Ow 5 .u8 w6 w4.heap.size w5.heap.size A6 n6 c6 zs by rw [hW]; exact ho.alloc _)
      clear hb hpost x0 x1 x2 ho X4 P4 O4 B4 X5 P5 O5 B5
      go_wp2_with fail
      rw [← hW, ← hbb]
      clear hW hbb
      (with_reducible refine (rng.specMin n3 54 54 (by have := H54.out; rw [eq_comm]; split <;> omega) _).mono ?_)
      rintro e w7 ⟨rfl, rfl⟩
      go_wp2_with fail
      (with_reducible refine (implRx ((tx r l s zs).take 54) _ _ A5 54 c3 _ (HG.out.below B6.out) (R54.out _ O6.out) (by omega)).mono ?_)
      rintro e w8 hpost
      obtain ⟨A9, n9, c9, rfl, ho, hb⟩ := rx_parts RX2.out hpost
      obtain ⟨w9, hW⟩ : ∃ x, x = w8.alloc (.cells #[.int .i64 0, .int .i64 0, .int .i64 0] 25) := ⟨_, rfl⟩
      have B8 := Lib.hid (B6.out.trans (hb.mono B6.out.size))
      have X8 := Lib.hid (X6.out.below hb)
      have Y8 := Lib.hid (Y6.out.below hb)
      have P8 := Lib.hid (P6.out.below hb)
      have Q8 := Lib.hid (Q6.out.below hb)
      have B9 := Lib.hid (show Below w.heap.size w w9 by rw [hW]; exact B8.out.alloc B8.out.size _)
      have X9 := Lib.hid (show Box w9 b r l s by rw [hW]; exact X8.out.below (below_box _ _))
      have Y9 := Lib.hid (show Box w9 b6 r l s by rw [hW]; exact Y8.out.below (below_box _ _))
      have P9 := Lib.hid (show Ow 5 .u8 w9 w.heap.size w1.heap.size A n c zs by rw [hW]; exact P8.out.alloc _)
      have Q9 := Lib.hid (show Ow 5 .u8 w9 w4.heap.size w5.heap.size A6 n6 c6 zs by rw [hW]; exact Q8.out.alloc _)
      have x0 := X9.out.c0
      have x1 := X9.out.c1
      have x2 := X9.out.c2
      rw [hW] at x0 x1 x2
      clear hb hpost ho X6 Y6 P6 O6 Q6 B6 X8 Y8 P8 Q8 B8
      go_wp2_with fail
      rw [← hW]
      rw [← hW] at x0 x1 x2
      clear hW
      (with_reducible refine (implFsy r l s _).mono ?_)
      rw [HFQ.out]
      rintro e w10 ⟨rfl, hb⟩
      have B10 := Lib.hid (B9.out.trans (hb.mono B9.out.size))
      have X10 := Lib.hid (X9.out.below hb)
      have Y10 := Lib.hid (Y9.out.below hb)
      have P10 := Lib.hid (P9.out.below hb)
      have Q10 := Lib.hid (Q9.out.below hb)
      clear hb x0 x1 x2 X9 Y9 P9 Q9 B9
      have hn3 : ((n3 : Int) == q) = true := by have := HN3.out; simpa using this
      have x0 := X10.out.c0
      have x1 := X10.out.c1
      have x2 := X10.out.c2
      have y0 := Y10.out.c0
      have y1 := Y10.out.c1
      have y2 := Y10.out.c2
      go_wp2_with fail
      (with_reducible refine (harn.sameB_yes zs _ _ _ _ A6 A n6 c6 n c _ Q10.out.rd P10.out.rd).mono ?_)
      rintro e w11 ⟨rfl, hb⟩
      have B11 := Lib.hid (B10.out.trans (hb.mono B10.out.size))
      go_wp2_with fail
      go_ret
      exact ⟨rfl, B11.out⟩
    · have HN3 := Lib.hid (show n3 = 0 by rw [← O3.out.len, tx_no (fun g => hnl (by rw [← P3.out.len]; exact g.2))]; rfl)
      have hnl2 : ((n : Int) == l) = false := by simpa using hnl
      have hz := HN3.out
      subst hz
      clear hnl
      go_wp2_with fail
      (with_reducible refine (specHv r l s _).mono ?_)
      rw [HV.out]
      rintro e w4 ⟨rfl, hb⟩
      have B4 := Lib.hid (B3.out.trans (hb.mono B3.out.size))
      have X4 := Lib.hid (X3.out.below hb)
      clear hb x0 x1 x2
      have x0 := X4.out.c0
      have x1 := X4.out.c1
      have x2 := X4.out.c2
      have X4D := Lib.hid (show Box w4.drew b r l s from X4.out)
      have B4D := Lib.hid (own.below_drew B4.out)
      have q0 : (q == 0) = false := by simpa using (show ¬ q = 0 by omega)
      go_wp2_with fail
      go_region_held3 (fun w' => w'.cell? ⟨b, 0, none⟩ = some (.int .i64 r) ∧ w'.cell? ⟨b, 1, none⟩ = some (.int .i64 l) ∧ w'.cell? ⟨b, 2, none⟩ = some (.int .i64 s)) (first | exact ⟨x0, x1, x2⟩ | exact ⟨k0, k1, k2⟩ | exact ⟨j0, j1, j2⟩)
        (first
        | (go_at_call 10; refine (implFsy r l s _).mono ?_; rw [HFQ.out]; rintro e w5 ⟨rfl, hb⟩; have B5 := Lib.hid (B4D.out.trans (hb.mono B4D.out.size)); have X5 := Lib.hid (X4D.out.below hb); have k0 := X5.out.c0; have k1 := X5.out.c1; have k2 := X5.out.c2; clear hb)
        | (go_at_call 9; refine (specHv r l s _).mono ?_; rw [HV.out]; rintro e w6 ⟨rfl, hb⟩; have B6 := Lib.hid (B5.out.trans (hb.mono B5.out.size)); have X6 := Lib.hid (X5.out.below hb); have j0 := X6.out.c0; have j1 := X6.out.c1; have j2 := X6.out.c2; clear hb))
      go_wp2_with fail
      go_ret
      exact ⟨rfl, B6.out⟩
  · have HV := Lib.hid (hv_no hv)
    have HF := Lib.hid (fsy_no hv)
    have HN3 := Lib.hid (show n3 = 0 by rw [← O3.out.len, tx_no (fun g => hv g.1)]; rfl)
    have hz := HN3.out
    subst hz
    clear hv
    go_wp2_with fail
    (with_reducible refine (specHv r l s _).mono ?_)
    rw [HV.out]
    rintro e w4 ⟨rfl, hb⟩
    have B4 := Lib.hid (B3.out.trans (hb.mono B3.out.size))
    have X4 := Lib.hid (X3.out.below hb)
    clear hb x0 x1 x2
    have x0 := X4.out.c0
    have x1 := X4.out.c1
    have x2 := X4.out.c2
    have X4D := Lib.hid (show Box w4.drew b r l s from X4.out)
    have B4D := Lib.hid (own.below_drew B4.out)
    go_wp2_with fail
    go_region_held3 (fun w' => w'.cell? ⟨b, 0, none⟩ = some (.int .i64 r) ∧ w'.cell? ⟨b, 1, none⟩ = some (.int .i64 l) ∧ w'.cell? ⟨b, 2, none⟩ = some (.int .i64 s)) (first | exact ⟨x0, x1, x2⟩ | exact ⟨k0, k1, k2⟩ | exact ⟨j0, j1, j2⟩)
      (first
      | (go_at_call 10; refine (implFsy r l s _).mono ?_; rw [HF.out]; rintro e w5 ⟨rfl, hb⟩; have B5 := Lib.hid (B4D.out.trans (hb.mono B4D.out.size)); have X5 := Lib.hid (X4D.out.below hb); have k0 := X5.out.c0; have k1 := X5.out.c1; have k2 := X5.out.c2; clear hb)
      | (go_at_call 9; refine (specHv r l s _).mono ?_; rw [HV.out]; rintro e w6 ⟨rfl, hb⟩; have B6 := Lib.hid (B5.out.trans (hb.mono B5.out.size)); have X6 := Lib.hid (X5.out.below hb); have j0 := X6.out.c0; have j1 := X6.out.c1; have j2 := X6.out.c2; clear hb))
    go_wp2_with fail
    go_ret
    exact ⟨rfl, B6.out⟩
end Go.Proofs.YtdelpepepbkjmaaGreatDoor.phyLaw
end
