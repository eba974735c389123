/- The coded payload and TransmitFrame, program and specification. Condition: the payload has up to 2^20 bytes. -/
import Derived.Test.YtdelpepepbkjmaaPh2
import Derived.Test.YtdelpepepbkjmaaCrc2
import Derived.Test.YtdelpepepbkjmaaBits6
import Derived.Test.YtdelpepepbkjmaaBtb
import Derived.Test.YtdelpepepbkjmaaScr2
import Derived.Test.YtdelpepepbkjmaaCnv2
import Derived.Test.YtdelpepepbkjmaaCnv3
import Derived.Test.YtdelpepepbkjmaaItl2
import Derived.Test.YtdelpepepbkjmaaItl3
namespace Go.Proofs.Ytdelpepepbkjmaa.phs
open Go.RowKit sl harn rng phm
set_option linter.unusedVariables false

set_option maxRecDepth 100000 in
set_option maxHeartbeats 4000000 in
theorem encPay (r l s : Int) (zs : List Int) (lo hi : Nat) (A : Option Addr) (n cap : Nat) (w : World) (h : Rd .u8 w lo hi A n cap zs) (hn : n ≤ 1000) :
    Calls Try.prog 61 #[.agg #[.int .i64 r, .int .i64 l, .int .i64 s], .slice A n cap] w (SlPost 3 .i64 w (pay r s zs)) := by
  have HR := Lib.hid h
  have HL := Lib.hid h.len
  have hcp := h.cap_
  obtain ⟨W2, hW2⟩ : ∃ x, bits8 s zs = x := ⟨_, rfl⟩
  have HB8 := Lib.hid (show scrm.scr s (bm.btb (crcs.wc zs)) = W2 from hW2)
  have LB8 := Lib.hid (show W2.length ≤ 10000 by rw [← hW2, bits8_len, h.len]; omega)
  have HWD := Lib.hid (show cvm.conv W2 = word s zs by rw [← hW2]; rfl)
  have LWD := Lib.hid (show (word s zs).length ≤ 20000 by rw [word_len, h.len]; omega)
  clear h hW2
  go_enter Try.func61, Try.ntmps61
  go_wp2_with fail
  generalize hW0 : w.alloc (.cells #[.int .i64 r, .int .i64 l, .int .i64 s] 25) = w0
  have X0 := Lib.hid (show Box w0.drew w.heap.size r l s from (show Box w0 w.heap.size r l s by rw [← hW0]; exact Box.made _ _ _ _))
  have B0 := Lib.hid (show Below w.heap.size w w0.drew from own.below_drew (show Below w.heap.size w w0 by rw [← hW0]; exact below_box _ _))
  clear hW0
  have R0 := Lib.hid (show Rd .u8 w0.drew lo hi A n cap zs from Rd.upto HR.out B0.out HR.out.hi_)
  have k0 := X0.out.c2
  go_region_held3 (fun w' => w'.cell? ⟨w.heap.size, 2, none⟩ = some (.int .i64 s)) (first | exact k0 | exact k1 | exact k2 | exact k3 | exact k4 | go_keep)
    (first
    | (go_at_call 80; refine (crcs.implAppend zs _ _ A n cap _ R0.out (by omega)).mono ?_; rintro e w1 ⟨A1, n1, c1, rfl, ho, hb⟩; have N1 := Lib.hid (show n1 ≤ 1002 by rw [← ho.len, crcs.wc_len, HL.out]; omega); have O1 := Lib.hid ho; have X1 := Lib.hid (X0.out.below hb); have B1 := Lib.hid (B0.out.trans (hb.mono B0.out.size)); have k1 := X1.out.c2; clear ho hb)
    | (go_at_call 79; refine (bits.implBtb (crcs.wc zs) _ _ A1 n1 c1 _ O1.out.rd (by have := N1.out; omega)).mono ?_; rintro e w2 ⟨A2, n2, c2, rfl, ho, hb⟩; have N2 := Lib.hid (show n2 ≤ 8016 by rw [← ho.len, bm.btb_len, crcs.wc_len, HL.out]; omega); have O2 := Lib.hid ho; have X2 := Lib.hid (X1.out.below hb); have B2 := Lib.hid (B1.out.trans (hb.mono B1.out.size)); have k2 := X2.out.c2; clear ho hb)
    | (go_at_call 78; refine (scrs.implScr s (bm.btb (crcs.wc zs)) _ _ A2 n2 c2 _ O2.out.rd (by have := N2.out; omega)).mono ?_; rw [HB8.out]; rintro e w3 ⟨A3, n3, c3, rfl, ho, hb⟩; have N3 := Lib.hid (show n3 ≤ 10000 by rw [← ho.len]; exact LB8.out); have O3 := Lib.hid ho; have X3 := Lib.hid (X2.out.below hb); have B3 := Lib.hid (B2.out.trans (hb.mono B2.out.size)); have k3 := X3.out.c2; clear ho hb)
    | (go_at_call 77; refine (cvs.implCv W2 _ _ A3 n3 c3 _ O3.out.rd (by have := N3.out; omega)).mono ?_; rw [HWD.out]; rintro e w4 ⟨A4, n4, c4, rfl, ho, hb⟩; have O4 := Lib.hid (ho.down (lo2 := w.heap.size) (show w.heap.size ≤ w3.heap.size from B3.out.size)); have X4 := Lib.hid (X3.out.below hb); have B4 := Lib.hid (B3.out.trans (hb.mono B3.out.size)); have k4 := X4.out.c2; clear ho hb))
  have HN4 := Lib.hid (show n4 ≤ 20000 by rw [← O4.out.len]; exact LWD.out)
  have y0 := X4.out.c0
  clear k0 k1 k2 k3 k4 N1 N2 N3 O1 O2 O3 X1 X2 X3 B1 B2 B3 R0
  by_cases h2 : r = 2
  · have HP := Lib.hid (show pay r s zs = itm.itl (cvm.punc (word s zs)) 8 by unfold pay; rw [pun_fast h2])
    subst h2
    go_wp2_with fail
    (with_reducible refine (cvs.implPc (word s zs) _ _ A4 n4 c4 _ O4.out.rd (by have := HN4.out; omega)).mono ?_)
    rintro e w5 ⟨A5, n5, c5, rfl, ho, hb⟩
    have O5 := Lib.hid ho
    have N5 := Lib.hid (show n5 ≤ 20000 by rw [← ho.len, cvm.punc_len]; have := LWD.out; omega)
    have B5 := Lib.hid (B4.out.trans (hb.mono B4.out.size))
    clear ho hb y0
    go_wp2_with fail
    (with_reducible refine (itl.implItl (cvm.punc (word s zs)) 8 _ _ A5 n5 c5 _ O5.out.rd (by have := N5.out; omega)).mono ?_)
    rintro e w6 ⟨A6, n6, c6, rfl, ho, hb⟩
    go_wp2_with fail
    go_ret
    rw [HP.out]
    exact ⟨_, _, _, rfl, ho.down (lo2 := w.heap.size) B5.out.size, B5.out.trans (hb.mono B5.out.size)⟩
  · have HP := Lib.hid (show pay r s zs = itm.itl (word s zs) 8 by unfold pay; rw [pun_slow h2])
    have h3 : (r == 2) = false := by simpa using h2
    go_wp2_with fail
    (with_reducible refine (itl.implItl (word s zs) 8 _ _ A4 n4 c4 _ O4.out.rd (by have := HN4.out; omega)).mono ?_)
    rintro e w6 ⟨A6, n6, c6, rfl, ho, hb⟩
    go_wp2_with fail
    go_ret
    rw [HP.out]
    exact ⟨_, _, _, rfl, ho.down (lo2 := w.heap.size) B4.out.size, B4.out.trans (hb.mono B4.out.size)⟩
set_option maxRecDepth 100000 in
set_option maxHeartbeats 4000000 in
theorem implTx (r l s : Int) (zs : List Int) (lo hi : Nat) (A : Option Addr) (n cap : Nat) (w : World) (h : Rd .u8 w lo hi A n cap zs) (hbig : n ≤ 67108864) :
    Calls Try.prog 31 #[.agg #[.int .i64 r, .int .i64 l, .int .i64 s], .slice A n cap] w (SlPost 3 .i64 w (tx r l s zs)) := by
  obtain ⟨i0, hi0, hz0, hz1, hz2⟩ := info_parts intInfo
  have HI0 := Lib.hid (And.intro hi0 (And.intro hz0 (And.intro hz1 hz2)))
  clear hi0 hz0 hz1 hz2
  by_cases hv : Hv r l s
  · have HV := Lib.hid (hv_yes hv)
    by_cases hnl : (n : Int) = l
    · have HE := Lib.hid (show tx r l s zs = enc r l s ++ pay r s zs from tx_yes hv (by rw [h.len]; exact hnl))
      have hn : n ≤ 1000 := by unfold Hv at hv; omega
      have LE := Lib.hid (enc_len hv)
      have LP := Lib.hid (show (pay r s zs).length ≤ 20000 by have := pay_len r s zs; rw [h.len] at this; omega)
      clear hv
      subst hnl
      have HR := Lib.hid h
      have hcp := h.cap_
      clear h
      go_enter Try.func31, Try.ntmps31
      go_wp2_with fail
      (with_reducible refine (implHv _ _ _ _).mono ?_)
      rw [HV.out]
      rintro e w1 ⟨rfl, hb⟩
      have B1 := Lib.hid (own.below_drew ((below_box w (.cells #[.int .i64 r, .int .i64 n, .int .i64 s] 25)).trans (hb.mono (by simp))))
      have Y1 := Lib.hid ((Box.made w r n s).below hb)
      have X1 := Lib.hid (show Box w1.drew w.heap.size r n s from Y1.out)
      clear hb
      have c0 := Y1.out.c0
      have c1 := Y1.out.c1
      have c2 := Y1.out.c2
      have R1 := Lib.hid (show Rd .u8 w1.drew lo hi A n cap zs from Rd.upto HR.out B1.out HR.out.hi_)
      go_wp2_with fail
      go_region_held3 (fun w' => w'.cell? ⟨w.heap.size, 0, none⟩ = some (.int .i64 r) ∧ w'.cell? ⟨w.heap.size, 1, none⟩ = some (.int .i64 n) ∧ w'.cell? ⟨w.heap.size, 2, none⟩ = some (.int .i64 s)) (first | exact ⟨c0, c1, c2⟩ | exact ⟨k0, k1, k2⟩ | exact ⟨q0, q1, q2⟩ | exact ⟨p0, p1, p2⟩ | go_keep)
        (first
        | (go_at_call 13; refine (implEnc r n s _).mono ?_; rintro e w2 ⟨A2, n2, c2', rfl, ho, hb⟩; have O2 := Lib.hid (ho.down (lo2 := w.heap.size + 1) (show w.heap.size + 1 ≤ w1.heap.size from Y1.out.lt)); have N2 := Lib.hid (show n2 = 54 by rw [← ho.len]; exact LE.out); have X2 := Lib.hid (X1.out.below hb); have B2 := Lib.hid (B1.out.trans (hb.mono B1.out.size)); have R2 := Lib.hid (R1.out.below hb); have k0 := X2.out.c0; have k1 := X2.out.c1; have k2 := X2.out.c2; clear ho hb)
        | (go_at_call 61; refine (encPay r n s zs _ _ A n cap _ R2.out hn).mono ?_; rintro e w3 ⟨A3, n3, c3, rfl, ho, hb⟩; have O3 := Lib.hid ho; have N3 := Lib.hid (show n3 ≤ 20000 by rw [← ho.len]; exact LP.out); have X3 := Lib.hid (X2.out.below hb); have B3 := Lib.hid (B2.out.trans (hb.mono B2.out.size)); have O23 := Lib.hid (O2.out.below hb); have q0 := X3.out.c0; have q1 := X3.out.c1; have q2 := X3.out.c2; clear ho hb)
        | (refine bits.step_app rfl _ _ 27 rfl 3 i0 _ .i64 Try.underlying27 HI0.out.1 HI0.out.2.1 HI0.out.2.2.1 (by rw [HI0.out.2.2.2]; omega) rfl rfl rfl O23.out O3.out.rd (by have h1 := N2.out; have h2 := N3.out; omega) (show w.heap.size + 1 ≤ w3.heap.size from X3.out.lt) ?_; intro A4 c4 w4 ho4 hb4; have O4 := Lib.hid ho4; have X4 := Lib.hid (X3.out.up hb4 (Nat.lt_succ_self _)); have B4 := Lib.hid (B3.out.trans (hb4.mono (Nat.le_succ _))); have p0 := X4.out.c0; have p1 := X4.out.c1; have p2 := X4.out.c2; clear ho4 hb4))
      clear c0 c1 c2 k0 k1 k2 q0 q1 q2 p0 p1 p2
      go_wp2_with fail
      go_ret
      rw [HE.out]
      exact ⟨_, _, _, rfl, O4.out.down (lo2 := w.heap.size) (Nat.le_succ _), B4.out⟩
    · have HE := Lib.hid (show tx r l s zs = [] from tx_no fun g => hnl (by rw [← h.len]; exact g.2))
      have hn2 : ((n : Int) == l) = false := by simpa using hnl
      clear hv hnl h
      go_enter Try.func31, Try.ntmps31
      go_wp2_with fail
      (with_reducible refine (implHv _ _ _ _).mono ?_)
      rw [HV.out]
      rintro e w1 ⟨rfl, hb⟩
      have B1 := Lib.hid ((below_box w (.cells #[.int .i64 r, .int .i64 l, .int .i64 s] 25)).trans (hb.mono (by simp)))
      have X1 := Lib.hid ((Box.made w r l s).below hb)
      have c0 := X1.out.c0
      have c1 := X1.out.c1
      have c2 := X1.out.c2
      clear hb
      go_wp2_with fail
      go_ret
      rw [HE.out]
      exact ⟨_, 0, 0, rfl, ((Ow.empty 3 .i64 w1).down B1.out.size).up, B1.out.alloc B1.out.size _⟩
  · have HV := Lib.hid (hv_no hv)
    have HE := Lib.hid (show tx r l s zs = [] from tx_no fun g => hv g.1)
    clear hv h
    go_enter Try.func31, Try.ntmps31
    go_wp2_with fail
    (with_reducible refine (implHv _ _ _ _).mono ?_)
    rw [HV.out]
    rintro e w1 ⟨rfl, hb⟩
    have B1 := Lib.hid ((below_box w (.cells #[.int .i64 r, .int .i64 l, .int .i64 s] 25)).trans (hb.mono (by simp)))
    clear hb
    go_wp2_with fail
    go_ret
    rw [HE.out]
    exact ⟨_, 0, 0, rfl, ((Ow.empty 3 .i64 w1).down B1.out.size).up, B1.out.alloc B1.out.size _⟩
set_option maxRecDepth 100000 in
set_option maxHeartbeats 4000000 in
theorem specTx (r l s : Int) (zs : List Int) (lo hi : Nat) (A : Option Addr) (n cap : Nat) (w : World) (h : Rd .u8 w lo hi A n cap zs) (hbig : n ≤ 67108864) :
    Calls Try.prog 29 #[.agg #[.int .i64 r, .int .i64 l, .int .i64 s], .slice A n cap] w (SlPost 3 .i64 w (tx r l s zs)) := by
  obtain ⟨i0, hi0, hz0, hz1, hz2⟩ := info_parts intInfo
  have HI0 := Lib.hid (And.intro hi0 (And.intro hz0 (And.intro hz1 hz2)))
  clear hi0 hz0 hz1 hz2
  by_cases hv : Hv r l s
  · have HV := Lib.hid (hv_yes hv)
    by_cases hnl : (n : Int) = l
    · have HE := Lib.hid (show tx r l s zs = enc r l s ++ pay r s zs from tx_yes hv (by rw [h.len]; exact hnl))
      have hn : n ≤ 1000 := by unfold Hv at hv; omega
      have LE := Lib.hid (enc_len hv)
      have LP := Lib.hid (show (pay r s zs).length ≤ 20000 by have := pay_len r s zs; rw [h.len] at this; omega)
      clear hv
      subst hnl
      have HR := Lib.hid h
      have HL := Lib.hid h.len
      have hcp := h.cap_
      obtain ⟨W2, hW2⟩ : ∃ x, bits8 s zs = x := ⟨_, rfl⟩
      have HB8 := Lib.hid (show scrm.scr s (bm.btb (crcs.wc zs)) = W2 from hW2)
      have LB8 := Lib.hid (show W2.length ≤ 10000 by rw [← hW2, bits8_len, h.len]; omega)
      have HWD := Lib.hid (show cvm.conv W2 = word s zs by rw [← hW2]; rfl)
      have LWD := Lib.hid (show (word s zs).length ≤ 20000 by rw [word_len, h.len]; omega)
      clear h hW2
      go_enter Try.func29, Try.ntmps29
      go_wp2_with fail
      (with_reducible refine (specHv _ _ _ _).mono ?_)
      rw [HV.out]
      rintro e w0 ⟨rfl, hb⟩
      have B0 := Lib.hid (show Below w.heap.size w w0.drew from own.below_drew ((below_box w (.cells #[.int .i64 r, .int .i64 n, .int .i64 s] 25)).trans (hb.mono (by simp))))
      have Y0 := Lib.hid ((Box.made w r n s).below hb)
      have X0 := Lib.hid (show Box w0.drew w.heap.size r n s from Y0.out)
      clear hb
      have y0 := Y0.out.c0
      have y1 := Y0.out.c1
      have y2 := Y0.out.c2
      have R0 := Lib.hid (show Rd .u8 w0.drew lo hi A n cap zs from Rd.upto HR.out B0.out HR.out.hi_)
      have k0 := X0.out.c2
      go_wp2_with fail
      go_region_held3 (fun w' => w'.cell? ⟨w.heap.size, 2, none⟩ = some (.int .i64 s)) (first | exact k0 | exact k1 | exact k2 | exact k3 | exact k4 | go_keep)
        (first
        | (go_at_call 58; refine (crcs.specAppend zs _ _ A n cap _ R0.out (by omega)).mono ?_; rintro e w1 ⟨A1, n1, c1, rfl, ho, hb⟩; have N1 := Lib.hid (show n1 ≤ 1002 by rw [← ho.len, crcs.wc_len, HL.out]; omega); have O1 := Lib.hid ho; have X1 := Lib.hid (X0.out.below hb); have B1 := Lib.hid (B0.out.trans (hb.mono B0.out.size)); have k1 := X1.out.c2; clear ho hb)
        | (go_at_call 57; refine (bits.specBtb (crcs.wc zs) _ _ A1 n1 c1 _ O1.out.rd (by have := N1.out; omega)).mono ?_; rintro e w2 ⟨A2, n2, c2, rfl, ho, hb⟩; have N2 := Lib.hid (show n2 ≤ 8016 by rw [← ho.len, bm.btb_len, crcs.wc_len, HL.out]; omega); have O2 := Lib.hid ho; have X2 := Lib.hid (X1.out.below hb); have B2 := Lib.hid (B1.out.trans (hb.mono B1.out.size)); have k2 := X2.out.c2; clear ho hb)
        | (go_at_call 56; refine (scrs.specScr s (bm.btb (crcs.wc zs)) _ _ A2 n2 c2 _ O2.out.rd (by have := N2.out; omega)).mono ?_; rw [HB8.out]; rintro e w3 ⟨A3, n3, c3, rfl, ho, hb⟩; have N3 := Lib.hid (show n3 ≤ 10000 by rw [← ho.len]; exact LB8.out); have O3 := Lib.hid ho; have X3 := Lib.hid (X2.out.below hb); have B3 := Lib.hid (B2.out.trans (hb.mono B2.out.size)); have k3 := X3.out.c2; clear ho hb)
        | (go_at_call 55; refine (cvs.specCv W2 _ _ A3 n3 c3 _ O3.out.rd (by have := N3.out; omega)).mono ?_; rw [HWD.out]; rintro e w4 ⟨A4, n4, c4, rfl, ho, hb⟩; have O4 := Lib.hid (ho.down (lo2 := w.heap.size) (show w.heap.size ≤ w3.heap.size from B3.out.size)); have X4 := Lib.hid (X3.out.below hb); have B4 := Lib.hid (B3.out.trans (hb.mono B3.out.size)); have k4 := X4.out.c2; clear ho hb))
      have HN4 := Lib.hid (show n4 ≤ 20000 by rw [← O4.out.len]; exact LWD.out)
      clear k0 k1 k2 k3 k4 N1 N2 N3 O1 O2 O3 X1 X2 X3 B1 B2 B3 R0 y0 y1 y2 X0 Y0
      have y0 := X4.out.c0
      have y1 := X4.out.c1
      have y2 := X4.out.c2
      by_cases h2 : r = 2
      · have HP := Lib.hid (show pay r s zs = itm.itl (cvm.punc (word s zs)) 8 by unfold pay; rw [pun_fast h2])
        subst h2
        go_wp2_with fail
        (with_reducible refine (cvs.specPc (word s zs) _ _ A4 n4 c4 _ O4.out.rd (by have := HN4.out; omega)).mono ?_)
        rintro e w5 ⟨A5, n5, c5, rfl, ho, hb⟩
        have O5 := Lib.hid ho
        have N5 := Lib.hid (show n5 ≤ 20000 by rw [← ho.len, cvm.punc_len]; have := LWD.out; omega)
        have B5 := Lib.hid (B4.out.trans (hb.mono B4.out.size))
        have X5 := Lib.hid (X4.out.below hb)
        clear ho hb y0 y1 y2
        have y0 := X5.out.c0
        have y1 := X5.out.c1
        have y2 := X5.out.c2
        go_wp2_with fail
        (with_reducible refine (specEnc 2 n s _).mono ?_)
        rintro e w6 ⟨A6, n6, c6, rfl, ho, hb⟩
        have O6 := Lib.hid ho
        have N6 := Lib.hid (show n6 = 54 by rw [← ho.len]; exact LE.out)
        have B6 := Lib.hid (B5.out.trans (hb.mono B5.out.size))
        have O56 := Lib.hid (O5.out.below hb)
        have S6 := Lib.hid hb.size
        clear ho hb y0 y1 y2
        go_wp2_with fail
        (with_reducible refine (itl.specItl (cvm.punc (word s zs)) 8 _ _ A5 n5 c5 _ O56.out.rd (by have := N5.out; omega)).mono ?_)
        rintro e w7 ⟨A7, n7, c7, rfl, ho, hb⟩
        rw [← HP.out] at ho
        have O7 := Lib.hid ho
        have N7 := Lib.hid (show n7 ≤ 20000 by rw [← ho.len]; exact LP.out)
        have B7 := Lib.hid (B6.out.trans (hb.mono B6.out.size))
        have O67 := Lib.hid (O6.out.below hb)
        have S7 := Lib.hid (show w5.heap.size ≤ w7.heap.size by have h1 := S6.out; have h2 := hb.size; omega)
        clear ho hb
        go_wp2_with (at_builtin; refine wpList_app _ rfl _ _ 27 rfl 3 i0 _ .i64 Try.underlying27 HI0.out.1 HI0.out.2.1 HI0.out.2.2.1 (by rw [HI0.out.2.2.2]; omega) rfl rfl rfl O67.out O7.out.rd (by have h1 := N6.out; have h2 := N7.out; omega) S7.out ?_; intro A8 c8 w8 ho8 hb8; have O8 := Lib.hid ho8; have B8 := Lib.hid (B7.out.trans (hb8.mono B5.out.size)); clear ho8 hb8)
        go_ret
        rw [HE.out]
        exact ⟨_, _, _, rfl, O8.out.down (lo2 := w.heap.size) B5.out.size, B8.out⟩
      · have HP := Lib.hid (show pay r s zs = itm.itl (word s zs) 8 by unfold pay; rw [pun_slow h2])
        have h3 : (r == 2) = false := by simpa using h2
        go_wp2_with fail
        (with_reducible refine (specEnc r n s _).mono ?_)
        rintro e w6 ⟨A6, n6, c6, rfl, ho, hb⟩
        have O6 := Lib.hid ho
        have N6 := Lib.hid (show n6 = 54 by rw [← ho.len]; exact LE.out)
        have B6 := Lib.hid (B4.out.trans (hb.mono B4.out.size))
        have O56 := Lib.hid (O4.out.below hb)
        have S6 := Lib.hid hb.size
        clear ho hb y0 y1 y2
        go_wp2_with fail
        (with_reducible refine (itl.specItl (word s zs) 8 _ _ A4 n4 c4 _ O56.out.rd (by have := HN4.out; omega)).mono ?_)
        rintro e w7 ⟨A7, n7, c7, rfl, ho, hb⟩
        rw [← HP.out] at ho
        have O7 := Lib.hid ho
        have N7 := Lib.hid (show n7 ≤ 20000 by rw [← ho.len]; exact LP.out)
        have B7 := Lib.hid (B6.out.trans (hb.mono B6.out.size))
        have O67 := Lib.hid (O6.out.below hb)
        have S7 := Lib.hid (show w4.heap.size ≤ w7.heap.size by have h1 := S6.out; have h2 := hb.size; omega)
        clear ho hb
        go_wp2_with (at_builtin; refine wpList_app _ rfl _ _ 27 rfl 3 i0 _ .i64 Try.underlying27 HI0.out.1 HI0.out.2.1 HI0.out.2.2.1 (by rw [HI0.out.2.2.2]; omega) rfl rfl rfl O67.out O7.out.rd (by have h1 := N6.out; have h2 := N7.out; omega) S7.out ?_; intro A8 c8 w8 ho8 hb8; have O8 := Lib.hid ho8; have B8 := Lib.hid (B7.out.trans (hb8.mono B4.out.size)); clear ho8 hb8)
        go_ret
        rw [HE.out]
        exact ⟨_, _, _, rfl, O8.out.down (lo2 := w.heap.size) B4.out.size, B8.out⟩
    · have HE := Lib.hid (show tx r l s zs = [] from tx_no fun g => hnl (by rw [← h.len]; exact g.2))
      have hn2 : ((n : Int) == l) = false := by simpa using hnl
      clear hv hnl h
      go_enter Try.func29, Try.ntmps29
      go_wp2_with fail
      (with_reducible refine (specHv _ _ _ _).mono ?_)
      rw [HV.out]
      rintro e w1 ⟨rfl, hb⟩
      have B1 := Lib.hid ((below_box w (.cells #[.int .i64 r, .int .i64 l, .int .i64 s] 25)).trans (hb.mono (by simp)))
      have X1 := Lib.hid ((Box.made w r l s).below hb)
      have c0 := X1.out.c0
      have c1 := X1.out.c1
      have c2 := X1.out.c2
      clear hb
      go_wp2_with fail
      go_ret
      rw [HE.out]
      exact ⟨_, 0, 0, rfl, ((Ow.empty 3 .i64 w1).down B1.out.size).up, B1.out.alloc B1.out.size _⟩
  · have HV := Lib.hid (hv_no hv)
    have HE := Lib.hid (show tx r l s zs = [] from tx_no fun g => hv g.1)
    clear hv h
    go_enter Try.func29, Try.ntmps29
    go_wp2_with fail
    (with_reducible refine (specHv _ _ _ _).mono ?_)
    rw [HV.out]
    rintro e w1 ⟨rfl, hb⟩
    have B1 := Lib.hid ((below_box w (.cells #[.int .i64 r, .int .i64 l, .int .i64 s] 25)).trans (hb.mono (by simp)))
    clear hb
    go_wp2_with fail
    go_ret
    rw [HE.out]
    exact ⟨_, 0, 0, rfl, ((Ow.empty 3 .i64 w1).down B1.out.size).up, B1.out.alloc B1.out.size _⟩
end Go.Proofs.Ytdelpepepbkjmaa.phs
