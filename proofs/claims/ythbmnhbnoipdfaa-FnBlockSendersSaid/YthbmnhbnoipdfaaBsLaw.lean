/- The law function of the senders (FnBlockSenders) returns true and leaves what was there. Condition: the argument is a slice of bytes that came in. -/
import Derived.Test.YthbmnhbnoipdfaaDb2
import Derived.Test.YthbmnhbnoipdfaaRwv
import Derived.Deep.Cut
namespace Go.Proofs.Ythbmnhbnoipdfaa.bsLaw
open Go.RowKit sl harn rng bx stw
set_option linter.unusedVariables false
open bs hiding below_box below_box2
set_option linter.unusedSimpArgs false

set_option maxRecDepth 100000 in
set_option maxHeartbeats 16000000 in
theorem walk (a : Option Addr) (len cap : Nat) (zz : List Int) (w : World) (r0 : kit.IsRow .u8 w a len cap zz) :
    Calls Try.prog 3 #[.slice a len cap] w (fun e w' => e = .returned (.bool true) ∧ Below w.heap.size w w') := by
  have HC := Lib.hid (draw.code_of_row r0)
  have hlen : (len : Int) ≤ 9223372036854775807 := by have := HC.out.1; omega
  clear r0
  by_cases hbig : 1048576 < (len : Int)
  · go_enter Try.func3, Try.ntmps3
    go_wp2
    go_ret
    exact ⟨rfl, Below.refl _ _⟩
  go_enter Try.func3, Try.ntmps3
  go_wp2_with (go_at_call 12; go_in)
  clear hbig
  go_wp2_with fail
  (with_reducible refine (dRb _ a len cap HC.out).mono ?_)
  rintro e w1 ⟨s, n, x, c, b, rfl, hb⟩
  have B1 := Lib.hid hb
  clear hb HC hlen
  obtain ⟨bX, hbb⟩ : ∃ b, w1.heap.size = b := ⟨_, rfl⟩
  go_upto_region 4 with fail
  generalize hW : (w1.alloc (.cells #[.int .i64 s, .int .i64 n, .int .i64 x] 25)).alloc (.cells #[.int .i64 c, .int .i64 b] 27) = wa2
  have LX := Lib.hid (show w.heap.size ≤ bX by have h1 := B1.out.size;  have h3 := hbb; omega)
  have X2 := Lib.hid (show Bx 25 wa2 (bX) #[.int .i64 s, .int .i64 n, .int .i64 x] by
      rw [← hW, ← hbb]
      have hh : Bx 25 (w1.alloc (.cells #[.int .i64 s, .int .i64 n, .int .i64 x] 25)) (w1.heap.size) #[.int .i64 s, .int .i64 n, .int .i64 x] := by have hh := Bx.made 25 w1 #[.int .i64 s, .int .i64 n, .int .i64 x]; simpa using hh
      exact (hh.below (below_box _ _)))
  have LA := Lib.hid (show w.heap.size ≤ bX + 1 by have h1 := B1.out.size;  have h3 := hbb; omega)
  have A2 := Lib.hid (show Bx 27 wa2 (bX + 1) #[.int .i64 c, .int .i64 b] by
      rw [← hW, ← hbb]
      have hh : Bx 27 ((w1.alloc (.cells #[.int .i64 s, .int .i64 n, .int .i64 x] 25)).alloc (.cells #[.int .i64 c, .int .i64 b] 27)) (w1.heap.size + 1) #[.int .i64 c, .int .i64 b] := by have hh := Bx.made 27 (w1.alloc (.cells #[.int .i64 s, .int .i64 n, .int .i64 x] 25)) #[.int .i64 c, .int .i64 b]; simpa using hh
      exact hh)
  have hb : Below w1.heap.size w1 wa2 := by rw [← hW]; exact ((Below.refl _ _).alloc (by simp <;> omega) _).alloc (by simp <;> omega) _
  (try rw [hbb])
  clear hW hbb
  have SS2 := Lib.hid hb.size
  have B2 := Lib.hid (B1.out.trans (hb.mono B1.out.size))
  clear hb B1 
  obtain ⟨⟨x0, x1, x2⟩, hx⟩ : ∃ q, rcv ⟨s, n, x⟩ c b = q := ⟨_, rfl⟩
  have HX := Lib.hid hx
  clear hx
  go_wp2_with (first | (refine stw.list_load rfl 25 _ rfl (bX) rfl 25 _ X2.out Try.underlying25 rfl szS ?_) | (refine stw.list_load rfl 27 _ rfl (bX + 1) rfl 27 _ A2.out Try.underlying27 rfl szA ?_))
  (with_reducible refine (implRcv s n x c b _).mono ?_)
  rintro e wa3 hp
  obtain ⟨rfl, hb⟩ := s_parts HX.out hp
  clear hp
  have SS3 := Lib.hid hb.size
  have B3 := Lib.hid (B2.out.trans (hb.mono B2.out.size))
  have X3 := Lib.hid (X2.out.below hb)
  have A3 := Lib.hid (A2.out.below hb)
  clear hb  B2 X2 A2
  obtain ⟨bY, hbb⟩ : ∃ b, wa3.heap.size = b := ⟨_, rfl⟩
  go_upto_region 5 with fail
  generalize hW : wa3.alloc (.cells #[.int .i64 x0, .int .i64 x1, .int .i64 x2] 25) = wa4
  have LY := Lib.hid (show w.heap.size ≤ bY ∧ bX < bY ∧ bX + 1 < bY by have h1 := B3.out.size; have h2X := X3.out.lt; have h2A := A3.out.lt; have h3 := hbb; omega)
  have Y4 := Lib.hid (show Bx 25 wa4 bY #[.int .i64 x0, .int .i64 x1, .int .i64 x2] by rw [← hW, ← hbb]; exact Bx.made _ _ _)
  have hb : Below wa3.heap.size wa3 wa4 := by rw [← hW]; exact below_box _ _
  (try rw [hbb])
  clear hW hbb
  have SS4 := Lib.hid hb.size
  have B4 := Lib.hid (B3.out.trans (hb.mono B3.out.size))
  have X4 := Lib.hid (X3.out.below hb)
  have A4 := Lib.hid (A3.out.below hb)
  clear hb B3 X3 A3
  have LWY := Lib.hid Y4.out.lt
  obtain ⟨t, ht⟩ : ∃ t, vs ⟨s, n, x⟩ = t := ⟨_, rfl⟩
  have HV := Lib.hid ht
  clear ht
  have mX0 : ∀ m : bx.Af wa4, m.w.cell? ⟨bX, 0, none⟩ = some (.int .i64 s) := fun m => (bx.Af.cells X4.out m).cell 0
  have mX1 : ∀ m : bx.Af wa4, m.w.cell? ⟨bX, 1, none⟩ = some (.int .i64 n) := fun m => (bx.Af.cells X4.out m).cell 1
  have mX2 : ∀ m : bx.Af wa4, m.w.cell? ⟨bX, 2, none⟩ = some (.int .i64 x) := fun m => (bx.Af.cells X4.out m).cell 2
  have q1 := Lib.hid (fun m => (by have hh := implVs s n x m.w; rw [HV.out] at hh; exact hh) : ∀ m : bx.Af wa4, Calls Try.prog 15 #[.agg #[.int .i64 s, .int .i64 n, .int .i64 x]] m.w fun e w' => e = .returned (.bool t) ∧ Below m.w.heap.size m.w w')
  have q2 := Lib.hid (fun m => (by have hh := specVs s n x m.w; rw [HV.out] at hh; exact hh) : ∀ m : bx.Af wa4, Calls Try.prog 16 #[.agg #[.int .i64 s, .int .i64 n, .int .i64 x]] m.w fun e w' => e = .returned (.bool t) ∧ Below m.w.heap.size m.w w')
  refine bx.region_after (by kernel_rfl) (by kernel_rfl) ?_
  repeat (go_big_quiet_step (first | (go_at_call 15; with_reducible exact bx.Af.call (q1.out _)) | (go_at_call 16; with_reducible exact bx.Af.call (q2.out _))))
  refine wpQuiet_nil ?_
  intro _ hw'
  obtain ⟨nq9, hw''⟩ := hw'
  subst hw''
  clear mX0 mX1 mX2 q1 q2
  obtain ⟨wa5, hw5⟩ : ∃ w5, nq9.w = w5 := ⟨_, rfl⟩
  have hb := nq9.below
  rw [hw5] at hb
  (try rw [hw5])
  clear hw5
  have SS5 := Lib.hid hb.size
  have B5 := Lib.hid (B4.out.trans (hb.mono B4.out.size))
  have X5 := Lib.hid (X4.out.below hb)
  have A5 := Lib.hid (A4.out.below hb)
  have Y5 := Lib.hid (Y4.out.below hb)
  clear hb nq9 B4 X4 A4 Y4
  have htt : (t != t) = false := by simp
  go_upto_region 7 with fail
  clear htt
  go_wp2_with (refine stw.list_load rfl 25 _ rfl (bX) rfl 25 _ X5.out Try.underlying25 rfl szS ?_)
  (with_reducible refine (specVs s n x _).mono ?_)
  rintro e wa6 hp
  obtain ⟨rfl, hb⟩ := b_parts HV.out hp
  clear hp
  have SS6 := Lib.hid hb.size
  have B6 := Lib.hid (B5.out.trans (hb.mono B5.out.size))
  have X6 := Lib.hid (X5.out.below hb)
  have A6 := Lib.hid (A5.out.below hb)
  have Y6 := Lib.hid (Y5.out.below hb)
  clear hb  B5 X5 A5 Y5
  cases t with
  | true =>
    obtain ⟨f, hf⟩ : ∃ f, va c b = f := ⟨_, rfl⟩
    have HF := Lib.hid hf
    clear hf
    have cA0 : wa6.cell? ⟨bX + 1, 0, none⟩ = some (.int .i64 c) := A6.out.cell 0
    have cA1 : wa6.cell? ⟨bX + 1, 1, none⟩ = some (.int .i64 b) := A6.out.cell 1
    go_wp2_with fail
    clear cA0 cA1
    (with_reducible refine (specVa c b _).mono ?_)
    rintro e wa7 hp
    obtain ⟨rfl, hb⟩ := b_parts HF.out hp
    clear hp
    have SS7 := Lib.hid hb.size
    have B7 := Lib.hid (B6.out.trans (hb.mono B6.out.size))
    have X7 := Lib.hid (X6.out.below hb)
    have A7 := Lib.hid (A6.out.below hb)
    have Y7 := Lib.hid (Y6.out.below hb)
    clear hb  B6 X6 A6 Y6
    cases f with
    | true =>
      have hok := rcv_ok c b HV.out
      rw [HX.out] at hok
      obtain ⟨hok1, rfl, hok3, hok4⟩ : vs ⟨x0, x1, x2⟩ = true ∧ x1 = n ∧ (∀ y ∈ outs ⟨x0, x1, x2⟩, y ∈ outs ⟨s, n, x⟩) ∧ rcv ⟨x0, x1, x2⟩ c b = ⟨x0, x1, x2⟩ := hok
      have HVY := Lib.hid hok1
      have HSUB := Lib.hid hok3
      have HAG := Lib.hid hok4
      clear hok1 hok3 hok4
      go_wp2_with (refine stw.list_load rfl 25 _ rfl (bX) rfl 25 _ X7.out Try.underlying25 rfl szS ?_)
      (with_reducible refine (implOs s x1 x _).mono ?_)
      rintro e wa8 ⟨A1, k1, c1, rfl, ho, hb⟩
      have SS8 := Lib.hid hb.size
      have B8 := Lib.hid (B7.out.trans (hb.mono B7.out.size))
      have X8 := Lib.hid (X7.out.below hb)
      have A8 := Lib.hid (A7.out.below hb)
      have Y8 := Lib.hid (Y7.out.below hb)
      clear hb B7 X7 A7 Y7
      have L8 := Lib.hid ho
      have LNL := Lib.hid ho.len
      have hlL : k1 ≤ 16 := by rw [← LNL.out]; exact outs_len _
      clear ho
      go_wp2_with (refine stw.list_load rfl 25 _ rfl (bY) rfl 25 _ Y8.out Try.underlying25 rfl szS ?_)
      (with_reducible refine (implOs x0 x1 x2 _).mono ?_)
      rintro e wa9 ⟨A2, k2, c2, rfl, ho, hb⟩
      have SS9 := Lib.hid hb.size
      have B9 := Lib.hid (B8.out.trans (hb.mono B8.out.size))
      have X9 := Lib.hid (X8.out.below hb)
      have A9 := Lib.hid (A8.out.below hb)
      have Y9 := Lib.hid (Y8.out.below hb)
      have L9 := Lib.hid (L8.out.below hb)
      clear hb B8 X8 A8 Y8 L8
      have M9 := Lib.hid ho
      have LNM := Lib.hid ho.len
      have hlM : k2 ≤ 16 := by rw [← LNM.out]; exact outs_len _
      clear ho
      go_wp2_with (refine stw.list_load rfl 25 _ rfl (bY) rfl 25 _ Y9.out Try.underlying25 rfl szS ?_)
      (with_reducible refine (implVs x0 x1 x2 _).mono ?_)
      rintro e wa10 hp
      obtain ⟨rfl, hb⟩ := b_parts HVY.out hp
      clear hp
      have SS10 := Lib.hid hb.size
      have B10 := Lib.hid (B9.out.trans (hb.mono B9.out.size))
      have X10 := Lib.hid (X9.out.below hb)
      have A10 := Lib.hid (A9.out.below hb)
      have Y10 := Lib.hid (Y9.out.below hb)
      have L10 := Lib.hid (L9.out.below hb)
      have M10 := Lib.hid (M9.out.below hb)
      clear hb  B9 X9 A9 Y9 L9 M9
      have cX0 : wa10.cell? ⟨bX, 0, none⟩ = some (.int .i64 s) := X10.out.cell 0
      have cX1 : wa10.cell? ⟨bX, 1, none⟩ = some (.int .i64 x1) := X10.out.cell 1
      have cX2 : wa10.cell? ⟨bX, 2, none⟩ = some (.int .i64 x) := X10.out.cell 2
      have cY0 : wa10.cell? ⟨bY, 0, none⟩ = some (.int .i64 x0) := Y10.out.cell 0
      have cY1 : wa10.cell? ⟨bY, 1, none⟩ = some (.int .i64 x1) := Y10.out.cell 1
      have cY2 : wa10.cell? ⟨bY, 2, none⟩ = some (.int .i64 x2) := Y10.out.cell 2
      have hk16 : decide ((k1 : Int) > 16) = false := decide_eq_false (by omega)
      go_wp2_with fail
      clear hk16
      clear cX0 cX1 cX2 cY0 cY1 cY2
      (with_reducible refine (specOs s x1 x _).mono ?_)
      rintro e wa11 ⟨A3, k3, c3, rfl, ho, hb⟩
      obtain rfl : k3 = k1 := ho.len.symm.trans LNL.out
      clear ho
      have SS11 := Lib.hid hb.size
      have B11 := Lib.hid (B10.out.trans (hb.mono B10.out.size))
      have X11 := Lib.hid (X10.out.below hb)
      have A11 := Lib.hid (A10.out.below hb)
      have Y11 := Lib.hid (Y10.out.below hb)
      have L11 := Lib.hid (L10.out.below hb)
      have M11 := Lib.hid (M10.out.below hb)
      clear hb B10 X10 A10 Y10 L10 M10
      go_wp2_with fail
      go_loopw [8] (fun v0 wr => ∃ (i : Nat), v0 = .int .i64 (i : Int) ∧ (i ≤ k2) ∧ Below w.heap.size w wr ∧ Bx 25 wr bX #[.int .i64 s, .int .i64 x1, .int .i64 x] ∧ Bx 27 wr (bX + 1) #[.int .i64 c, .int .i64 b] ∧ Bx 25 wr bY #[.int .i64 x0, .int .i64 x1, .int .i64 x2] ∧ Ow 3 .i64 wr (wa7.heap.size) (wa8.heap.size) A1 k3 c1 (outs ⟨s, x1, x⟩) ∧ Ow 3 .i64 wr (wa8.heap.size) (wa9.heap.size) A2 k2 c2 (outs ⟨x0, x1, x2⟩)) ((fun i _ => k2 - (intOf i).toNat))
      case atStart => exact ⟨0, rfl, by omega, B11.out, X11.out, A11.out, Y11.out, L11.out, M11.out⟩
      case round =>
        obtain ⟨i, rfl, ghi, gB12, gX12, gA12, gY12, gL12, gM12⟩ := hrel
        have B12 := Lib.hid gB12
        have X12 := Lib.hid gX12
        have A12 := Lib.hid gA12
        have Y12 := Lib.hid gY12
        have L12 := Lib.hid gL12
        have M12 := Lib.hid gM12
        have hi := Lib.hid ghi
        clear gB12 gX12 gA12 gY12 gL12 gM12 ghi
        have LUX12 := Lib.hid X12.out.lt
        have LUA12 := Lib.hid A12.out.lt
        have LUY12 := Lib.hid Y12.out.lt
        have SBR12 := Lib.hid B12.out.size
        have hi := hi.out
        by_cases hlt : i < k2
        · have hlt2 : (i : Int) < k2 := by omega
          obtain ⟨g2, rfl, hgl⟩ := own.own_some M12.out (by omega)
          clear hgl
          obtain ⟨y, hy⟩ : ∃ y, (outs ⟨x0, x1, x2⟩).getD i 0 = y := ⟨_, rfl⟩
          have cM : wr.cell? ⟨g2, i, none⟩ = some (.int .i64 y) := by rw [← hy]; exact own.cell_of M12.out hlt
          have HIN := Lib.hid (show decide (y ∈ outs ⟨s, x1, x⟩) = true from decide_eq_true (HSUB.out y (by rw [← hy]; exact rfm.mem_getD (by rw [LNM.out]; exact hlt))))
          clear hy
          go_wp2_with fail
          clear cM
          (with_reducible refine (lawContains (outs ⟨s, x1, x⟩) y _ _ A1 k3 c1 _ L12.out.rd).mono ?_)
          rw [HIN.out]
          rintro e wq ⟨rfl, rfl⟩
          go_wp2_with fail
          go_roundw
          case rel => exact ⟨i + 1, by go_num, by omega, B12.out, X12.out, A12.out, Y12.out, L12.out, M12.out⟩
          case measure => simp [intOf]; omega
        · have hlt2 : ¬ (i : Int) < k2 := by omega
          obtain ⟨bV, hbb⟩ : ∃ b, wr.heap.size = b := ⟨_, rfl⟩
          go_upto_region 19 with (refine stw.list_load rfl 25 _ rfl (bX) rfl 25 _ X12.out Try.underlying25 rfl szS ?_)
          generalize hW : wr.alloc (.cells #[.int .i64 s, .int .i64 x1, .int .i64 x] 25) = wa13
          have LV := Lib.hid (show w.heap.size ≤ bV ∧ bX < bV ∧ bX + 1 < bV ∧ bY < bV ∧ wa8.heap.size ≤ bV ∧ wa9.heap.size ≤ bV by have h1 := B12.out.size; have h2X := X12.out.lt; have h2A := A12.out.lt; have h2Y := Y12.out.lt; have h2L := L12.out.hi_; have h2M := M12.out.hi_; have h3 := hbb; omega)
          have V13 := Lib.hid (show Bx 25 wa13 bV #[.int .i64 s, .int .i64 x1, .int .i64 x] by rw [← hW, ← hbb]; exact Bx.made _ _ _)
          have hb : Below wr.heap.size wr wa13 := by rw [← hW]; exact below_box _ _
          (try rw [hbb])
          clear hW hbb
          have SS13 := Lib.hid hb.size
          have B13 := Lib.hid (B12.out.trans (hb.mono B12.out.size))
          have X13 := Lib.hid (X12.out.below hb)
          have A13 := Lib.hid (A12.out.below hb)
          have Y13 := Lib.hid (Y12.out.below hb)
          have L13 := Lib.hid (L12.out.below hb)
          have M13 := Lib.hid (M12.out.below hb)
          clear hb B12 X12 A12 Y12 L12 M12
          have LWV := Lib.hid V13.out.lt
          go_wp2_with fail
          go_loopw [10] (fun v0 wr => ∃ (j : Nat) (d0 : Int) (d1 : Int) (d2 : Int), v0 = .int .i64 (j : Int) ∧ (j ≤ k3) ∧ ((⟨d0, d1, d2⟩ : Bs) = ((outs ⟨s, x1, x⟩).take j).foldl giv ⟨s, x1, x⟩) ∧ Below w.heap.size w wr ∧ Bx 25 wr bX #[.int .i64 s, .int .i64 x1, .int .i64 x] ∧ Bx 27 wr (bX + 1) #[.int .i64 c, .int .i64 b] ∧ Bx 25 wr bY #[.int .i64 x0, .int .i64 x1, .int .i64 x2] ∧ Bx 25 wr bV #[.int .i64 d0, .int .i64 d1, .int .i64 d2] ∧ Ow 3 .i64 wr (wa7.heap.size) (wa8.heap.size) A1 k3 c1 (outs ⟨s, x1, x⟩) ∧ Ow 3 .i64 wr (wa8.heap.size) (wa9.heap.size) A2 k2 c2 (outs ⟨x0, x1, x2⟩)) ((fun i _ => k3 - (intOf i).toNat))
          case atStart => exact ⟨0, s, x1, x, rfl, by omega, rfl, B13.out, X13.out, A13.out, Y13.out, V13.out, L13.out, M13.out⟩
          case round =>
            obtain ⟨j, d0, d1, d2, rfl, ghj, ghv, gB14, gX14, gA14, gY14, gV14, gL14, gM14⟩ := hrel
            have B14 := Lib.hid gB14
            have X14 := Lib.hid gX14
            have A14 := Lib.hid gA14
            have Y14 := Lib.hid gY14
            have V14 := Lib.hid gV14
            have L14 := Lib.hid gL14
            have M14 := Lib.hid gM14
            have hj := Lib.hid ghj
            have hv := Lib.hid ghv
            clear gB14 gX14 gA14 gY14 gV14 gL14 gM14 ghj ghv
            have LUX14 := Lib.hid X14.out.lt
            have LUA14 := Lib.hid A14.out.lt
            have LUY14 := Lib.hid Y14.out.lt
            have LUV14 := Lib.hid V14.out.lt
            have SBR14 := Lib.hid B14.out.size
            have hj := hj.out
            by_cases hlt : j < k3
            · have hlt2 : (j : Int) < k3 := by omega
              obtain ⟨g1, rfl, hgl⟩ := own.own_some L14.out (by omega)
              clear hgl
              obtain ⟨y, hy⟩ : ∃ y, (outs ⟨s, x1, x⟩).getD j 0 = y := ⟨_, rfl⟩
              have HGD := Lib.hid hy
              obtain ⟨⟨z0, z1, z2⟩, hz⟩ : ∃ q, giv ⟨d0, d1, d2⟩ y = q := ⟨_, rfl⟩
              have HZ := Lib.hid hz
              have HF2 := Lib.hid (show (⟨z0, z1, z2⟩ : Bs) = ((outs ⟨s, x1, x⟩).take (j + 1)).foldl giv ⟨s, x1, x⟩ by rw [foldl_take _ _ (by rw [LNL.out]; exact hlt), ← hv.out, hy, hz])
              clear hy hz
              go_upto_region 22 with fail
              refine reg.region_tail reg.Bel 6 153 [some [], some [], some [], some [(1, 91), (2, 92)], some [(3, 93)], some [(0, 90), (4, 94)], none] [(0, 90), (1, 91), (2, 92), (3, 93), (4, 94), (5, 95)]
                (fun w' => Below w.heap.size w w' ∧ Bx 25 w' (bX) #[.int .i64 s, .int .i64 x1, .int .i64 x] ∧ Bx 27 w' (bX + 1) #[.int .i64 c, .int .i64 b] ∧ Bx 25 w' (bY) #[.int .i64 x0, .int .i64 x1, .int .i64 x2] ∧ Bx 25 w' (bV) #[.int .i64 d0, .int .i64 d1, .int .i64 d2] ∧ Ow 3 .i64 w' (wa7.heap.size) (wa8.heap.size) (some ⟨g1, 0, none⟩) k3 c1 (outs ⟨s, x1, x⟩) ∧ Ow 3 .i64 w' (wa8.heap.size) (wa9.heap.size) A2 k2 c2 (outs ⟨x0, x1, x2⟩) ∧ True)
                (reg.rl [reg.is (.agg #[.int .i64 d0, .int .i64 d1, .int .i64 d2]), reg.is (.slice (some ⟨g1, 0, none⟩) k3 c1), reg.is (.int .i64 ((j : Int))), reg.is (.pointer (some ⟨g1, j, none⟩)), reg.is (.int .i64 y), reg.is (.agg #[.int .i64 z0, .int .i64 z1, .int .i64 z2]), reg.free])
                (by kernel_rfl) rfl (by kernel_rfl) (by kernel_rfl) rfl
                (fun w1 w2 hc hb => ⟨hc.1.trans (hb.mono hc.1.size), hc.2.1.below hb, hc.2.2.1.below hb, hc.2.2.2.1.below hb, hc.2.2.2.2.1.below hb, hc.2.2.2.2.2.1.below hb, hc.2.2.2.2.2.2.1.below hb, trivial⟩) (reg.rl_keep _) (⟨own.below_drew B14.out, X14.out.same rfl, A14.out.same rfl, Y14.out.same rfl, V14.out.same rfl, own.ow_drew L14.out, own.ow_drew M14.out, trivial⟩) (by kernel_rfl) ⟨?_, ?_, ?_, ?_, ?_, ?_, trivial⟩ ?_
              · refine fun w8 hc  K hK => ?_
                (try simp only [Act.put, List.setIfInBounds_toArray, List.set_cons_zero, List.set_cons_succ])
                rw [if_pos (by rfl)]
                refine stw.wp_load_bx 25 _ rfl (bV) rfl 25 _ hc.2.2.2.2.1 Try.underlying25 rfl szS ?_
                exact hK _ _ rfl (Below.refl _ _)
              · refine fun w8 hc  K hK => ?_
                (try simp only [Act.put, List.setIfInBounds_toArray, List.set_cons_zero, List.set_cons_succ])
                go_simp
                exact hK (.slice (some ⟨g1, 0, none⟩) k3 c1) _ rfl (Below.refl _ _)
              · refine fun w8 hc  K hK => ?_
                (try simp only [Act.put, List.setIfInBounds_toArray, List.set_cons_zero, List.set_cons_succ])
                go_simp
                exact hK (.int .i64 ((j : Int))) _ rfl (Below.refl _ _)
              · refine fun w8 hc v1 h1 v2 h2 K hK => ?_
                obtain rfl : v1 = .slice (some ⟨g1, 0, none⟩) k3 c1 := h1
                obtain rfl : v2 = .int .i64 ((j : Int)) := h2
                (try simp only [Act.put, List.setIfInBounds_toArray, List.set_cons_zero, List.set_cons_succ])
                go_simp
                exact hK (.pointer (some ⟨g1, j, none⟩)) _ rfl (Below.refl _ _)
              · refine fun w8 hc v3 h3 K hK => ?_
                obtain rfl : v3 = .pointer (some ⟨g1, j, none⟩) := h3
                (try simp only [Act.put, List.setIfInBounds_toArray, List.set_cons_zero, List.set_cons_succ])
                have c0 : w8.cell? ⟨g1, j, none⟩ = some (.int .i64 y) := by rw [← HGD.out]; exact own.cell_of hc.2.2.2.2.2.1 hlt
                go_simp
                exact hK (.int .i64 y) _ rfl (Below.refl _ _)
              · refine fun w8 hc v0 h0 v4 h4 K hK => ?_
                obtain rfl : v0 = .agg #[.int .i64 d0, .int .i64 d1, .int .i64 d2] := h0
                obtain rfl : v4 = .int .i64 y := h4
                (try simp only [Act.put, List.setIfInBounds_toArray, List.set_cons_zero, List.set_cons_succ])
                go_simp
                (with_reducible refine (implGiv d0 d1 d2 y _).mono ?_)
                rintro e w3 hp
                obtain ⟨rfl, hb⟩ := s_parts HZ.out hp
                exact hK _ _ rfl hb
              refine fun wg15 hc v0 h0 v1 h1 v2 h2 v3 h3 v4 h4 v5 h5 => ?_
              obtain rfl : v0 = .agg #[.int .i64 d0, .int .i64 d1, .int .i64 d2] := h0
              obtain rfl : v1 = .slice (some ⟨g1, 0, none⟩) k3 c1 := h1
              obtain rfl : v2 = .int .i64 ((j : Int)) := h2
              obtain rfl : v3 = .pointer (some ⟨g1, j, none⟩) := h3
              obtain rfl : v4 = .int .i64 y := h4
              obtain rfl : v5 = .agg #[.int .i64 z0, .int .i64 z1, .int .i64 z2] := h5
              (try simp only [reg.Obs])
              (try simp only [Act.put, List.setIfInBounds_toArray, List.set_cons_zero, List.set_cons_succ])
              simp only [List.drop_succ_cons, List.drop_zero]
              have B15 := Lib.hid hc.1
              have X15 := Lib.hid hc.2.1
              have A15 := Lib.hid hc.2.2.1
              have Y15 := Lib.hid hc.2.2.2.1
              have V15 := Lib.hid hc.2.2.2.2.1
              have L15 := Lib.hid hc.2.2.2.2.2.1
              have M15 := Lib.hid hc.2.2.2.2.2.2.1
              clear hc B14 X14 A14 Y14 V14 L14 M14
              refine stw.list_store rfl 25 _ _ rfl (bV) #[.int .i64 z0, .int .i64 z1, .int .i64 z2] rfl rfl 25 _ V15.out rfl szS (oneS _ _ _) ?_
              intro wz16 hz
              (try simp only [Act.put])
              have B16 := Lib.hid (hz.on B15.out (by have hlX := LX.out; have hlA := LA.out; have hlY := LY.out; have hlV := LV.out; have hs0 := SS2.out; have hs1 := SS3.out; have hs2 := SS4.out; have hs3 := LWY.out; have hs4 := SS5.out; have hs5 := SS6.out; have hs6 := SS7.out; have hs7 := SS8.out; have hs8 := SS9.out; have hs9 := SS10.out; have hs10 := SS11.out; have hs11 := LUX12.out; have hs12 := LUA12.out; have hs13 := LUY12.out; have hs14 := SBR12.out; have hs15 := SS13.out; have hs16 := LWV.out; have hs17 := LUX14.out; have hs18 := LUA14.out; have hs19 := LUY14.out; have hs20 := LUV14.out; have hs21 := SBR14.out; first | omega | (simp <;> omega)))
              have X16 := Lib.hid (hz.keep X15.out (by have hlX := LX.out; have hlA := LA.out; have hlY := LY.out; have hlV := LV.out; have hs0 := SS2.out; have hs1 := SS3.out; have hs2 := SS4.out; have hs3 := LWY.out; have hs4 := SS5.out; have hs5 := SS6.out; have hs6 := SS7.out; have hs7 := SS8.out; have hs8 := SS9.out; have hs9 := SS10.out; have hs10 := SS11.out; have hs11 := LUX12.out; have hs12 := LUA12.out; have hs13 := LUY12.out; have hs14 := SBR12.out; have hs15 := SS13.out; have hs16 := LWV.out; have hs17 := LUX14.out; have hs18 := LUA14.out; have hs19 := LUY14.out; have hs20 := LUV14.out; have hs21 := SBR14.out; first | omega | (simp <;> omega)))
              have A16 := Lib.hid (hz.keep A15.out (by have hlX := LX.out; have hlA := LA.out; have hlY := LY.out; have hlV := LV.out; have hs0 := SS2.out; have hs1 := SS3.out; have hs2 := SS4.out; have hs3 := LWY.out; have hs4 := SS5.out; have hs5 := SS6.out; have hs6 := SS7.out; have hs7 := SS8.out; have hs8 := SS9.out; have hs9 := SS10.out; have hs10 := SS11.out; have hs11 := LUX12.out; have hs12 := LUA12.out; have hs13 := LUY12.out; have hs14 := SBR12.out; have hs15 := SS13.out; have hs16 := LWV.out; have hs17 := LUX14.out; have hs18 := LUA14.out; have hs19 := LUY14.out; have hs20 := LUV14.out; have hs21 := SBR14.out; first | omega | (simp <;> omega)))
              have Y16 := Lib.hid (hz.keep Y15.out (by have hlX := LX.out; have hlA := LA.out; have hlY := LY.out; have hlV := LV.out; have hs0 := SS2.out; have hs1 := SS3.out; have hs2 := SS4.out; have hs3 := LWY.out; have hs4 := SS5.out; have hs5 := SS6.out; have hs6 := SS7.out; have hs7 := SS8.out; have hs8 := SS9.out; have hs9 := SS10.out; have hs10 := SS11.out; have hs11 := LUX12.out; have hs12 := LUA12.out; have hs13 := LUY12.out; have hs14 := SBR12.out; have hs15 := SS13.out; have hs16 := LWV.out; have hs17 := LUX14.out; have hs18 := LUA14.out; have hs19 := LUY14.out; have hs20 := LUV14.out; have hs21 := SBR14.out; first | omega | (simp <;> omega)))
              have V16 := Lib.hid (hz.box)
              have L16 := Lib.hid (L15.out.same hz.below.size fun b h1 h2 => hz.other b (by have hlX := LX.out; have hlA := LA.out; have hlY := LY.out; have hlV := LV.out; have hs0 := SS2.out; have hs1 := SS3.out; have hs2 := SS4.out; have hs3 := LWY.out; have hs4 := SS5.out; have hs5 := SS6.out; have hs6 := SS7.out; have hs7 := SS8.out; have hs8 := SS9.out; have hs9 := SS10.out; have hs10 := SS11.out; have hs11 := LUX12.out; have hs12 := LUA12.out; have hs13 := LUY12.out; have hs14 := SBR12.out; have hs15 := SS13.out; have hs16 := LWV.out; have hs17 := LUX14.out; have hs18 := LUA14.out; have hs19 := LUY14.out; have hs20 := LUV14.out; have hs21 := SBR14.out; first | omega | (simp <;> omega)))
              have M16 := Lib.hid (M15.out.same hz.below.size fun b h1 h2 => hz.other b (by have hlX := LX.out; have hlA := LA.out; have hlY := LY.out; have hlV := LV.out; have hs0 := SS2.out; have hs1 := SS3.out; have hs2 := SS4.out; have hs3 := LWY.out; have hs4 := SS5.out; have hs5 := SS6.out; have hs6 := SS7.out; have hs7 := SS8.out; have hs8 := SS9.out; have hs9 := SS10.out; have hs10 := SS11.out; have hs11 := LUX12.out; have hs12 := LUA12.out; have hs13 := LUY12.out; have hs14 := SBR12.out; have hs15 := SS13.out; have hs16 := LWV.out; have hs17 := LUX14.out; have hs18 := LUA14.out; have hs19 := LUY14.out; have hs20 := LUV14.out; have hs21 := SBR14.out; first | omega | (simp <;> omega)))
              clear hz B15 X15 A15 Y15 V15 L15 M15
              go_wp2_with fail
              go_roundw
              case rel => exact ⟨j + 1, z0, z1, z2, by go_num, by omega, HF2.out, B16.out, X16.out, A16.out, Y16.out, V16.out, L16.out, M16.out⟩
              case measure => simp [intOf]; omega
            · have hlt2 : ¬ (j : Int) < k3 := by omega
              have HAD := Lib.hid (all_done HV.out)
              have hvv : (⟨d0, d1, d2⟩ : Bs) = (outs ⟨s, x1, x⟩).foldl giv ⟨s, x1, x⟩ := by rw [hv.out, List.take_of_length_le (by rw [LNL.out]; omega)]
              have HDN := Lib.hid (show don ⟨d0, d1, d2⟩ = true by rw [hvv]; exact HAD.out.1)
              obtain rfl : d0 = x1 := by have h := HAD.out.2; rw [← hvv] at h; exact h
              clear hvv HAD
              obtain ⟨mb, hm⟩ : ∃ m, may ⟨x0, d0, x2⟩ = m := ⟨_, rfl⟩
              have HM := Lib.hid hm
              clear hm
              cases mb with
              | true =>
                obtain ⟨n2, hn2⟩ : ∃ y, nsq d0 = y := ⟨_, rfl⟩
                have HNX := Lib.hid (show nxt ⟨x0, d0, x2⟩ = (⟨x0, n2, x2⟩, d0, true) by unfold nxt; rw [if_pos HM.out, ← hn2]; rfl)
                have hst := sent HM.out
                have HVU := Lib.hid (show vs ⟨x0, n2, x2⟩ = true by rw [← hn2]; exact hst.1)
                have HCU := Lib.hid (show decide (d0 ∈ outs ⟨x0, n2, x2⟩) = true from decide_eq_true (by rw [← hn2]; exact hst.2))
                clear hn2 hst
                go_wp2_with (refine stw.list_load rfl 25 _ rfl (bY) rfl 25 _ Y14.out Try.underlying25 rfl szS ?_)
                (with_reducible refine (implSn x0 d0 x2 _).mono ?_)
                rintro e wa15 hp
                obtain ⟨rfl, hb⟩ := nx_parts HNX.out hp
                clear hp
                have SS15 := Lib.hid hb.size
                have B15 := Lib.hid (B14.out.trans (hb.mono B14.out.size))
                have X15 := Lib.hid (X14.out.below hb)
                have A15 := Lib.hid (A14.out.below hb)
                have Y15 := Lib.hid (Y14.out.below hb)
                have V15 := Lib.hid (V14.out.below hb)
                have L15 := Lib.hid (L14.out.below hb)
                have M15 := Lib.hid (M14.out.below hb)
                clear hb  B14 X14 A14 Y14 V14 L14 M14
                obtain ⟨bU, hbb⟩ : ∃ b, wa15.heap.size = b := ⟨_, rfl⟩
                go_upto_region 24 with fail
                generalize hW : wa15.alloc (.cells #[.int .i64 x0, .int .i64 n2, .int .i64 x2] 25) = wa16
                have LU := Lib.hid (show w.heap.size ≤ bU ∧ bX < bU ∧ bX + 1 < bU ∧ bY < bU ∧ bV < bU ∧ wa8.heap.size ≤ bU ∧ wa9.heap.size ≤ bU by have h1 := B15.out.size; have h2X := X15.out.lt; have h2A := A15.out.lt; have h2Y := Y15.out.lt; have h2V := V15.out.lt; have h2L := L15.out.hi_; have h2M := M15.out.hi_; have h3 := hbb; omega)
                have U16 := Lib.hid (show Bx 25 wa16 bU #[.int .i64 x0, .int .i64 n2, .int .i64 x2] by rw [← hW, ← hbb]; exact Bx.made _ _ _)
                have hb : Below wa15.heap.size wa15 wa16 := by rw [← hW]; exact below_box _ _
                (try rw [hbb])
                clear hW hbb
                have SS16 := Lib.hid hb.size
                have B16 := Lib.hid (B15.out.trans (hb.mono B15.out.size))
                have X16 := Lib.hid (X15.out.below hb)
                have A16 := Lib.hid (A15.out.below hb)
                have Y16 := Lib.hid (Y15.out.below hb)
                have V16 := Lib.hid (V15.out.below hb)
                have L16 := Lib.hid (L15.out.below hb)
                have M16 := Lib.hid (M15.out.below hb)
                clear hb B15 X15 A15 Y15 V15 L15 M15
                have LWU := Lib.hid U16.out.lt
                have HN5 := Lib.hid (show nxt ⟨5, 21, 0⟩ = (⟨5, 21, 0⟩, 0, false) by unfold nxt; rw [if_neg (by decide +kernel)])
                go_wp2_with fail
                (with_reducible refine (implSn 5 21 0 _).mono ?_)
                rintro e wa17 hp
                obtain ⟨rfl, hb⟩ := nx_parts HN5.out hp
                clear hp
                have SS17 := Lib.hid hb.size
                have B17 := Lib.hid (B16.out.trans (hb.mono B16.out.size))
                have X17 := Lib.hid (X16.out.below hb)
                have A17 := Lib.hid (A16.out.below hb)
                have Y17 := Lib.hid (Y16.out.below hb)
                have V17 := Lib.hid (V16.out.below hb)
                have U17 := Lib.hid (U16.out.below hb)
                have L17 := Lib.hid (L16.out.below hb)
                have M17 := Lib.hid (M16.out.below hb)
                clear hb  B16 X16 A16 Y16 V16 U16 L16 M16
                obtain ⟨bR, hbb⟩ : ∃ b, wa17.heap.size = b := ⟨_, rfl⟩
                go_upto_region 25 with fail
                generalize hW : wa17.alloc (.cells #[.int .i64 5, .int .i64 21, .int .i64 0] 25) = wa18
                have LR := Lib.hid (show w.heap.size ≤ bR ∧ bX < bR ∧ bX + 1 < bR ∧ bY < bR ∧ bV < bR ∧ bU < bR ∧ wa8.heap.size ≤ bR ∧ wa9.heap.size ≤ bR by have h1 := B17.out.size; have h2X := X17.out.lt; have h2A := A17.out.lt; have h2Y := Y17.out.lt; have h2V := V17.out.lt; have h2U := U17.out.lt; have h2L := L17.out.hi_; have h2M := M17.out.hi_; have h3 := hbb; omega)
                have R18 := Lib.hid (show Bx 25 wa18 bR #[.int .i64 5, .int .i64 21, .int .i64 0] by rw [← hW, ← hbb]; exact Bx.made _ _ _)
                have hb : Below wa17.heap.size wa17 wa18 := by rw [← hW]; exact below_box _ _
                (try rw [hbb])
                clear hW hbb
                have SS18 := Lib.hid hb.size
                have B18 := Lib.hid (B17.out.trans (hb.mono B17.out.size))
                have X18 := Lib.hid (X17.out.below hb)
                have A18 := Lib.hid (A17.out.below hb)
                have Y18 := Lib.hid (Y17.out.below hb)
                have V18 := Lib.hid (V17.out.below hb)
                have U18 := Lib.hid (U17.out.below hb)
                have L18 := Lib.hid (L17.out.below hb)
                have M18 := Lib.hid (M17.out.below hb)
                clear hb B17 X17 A17 Y17 V17 U17 L17 M17
                have LWR := Lib.hid R18.out.lt
                refine reg.region_plain reg.Bel 153 [some [], some [(0, 108)], some [(1, 109)], some [(2, 110)], some [(3, 111), (2, 110)], some [(2, 110)], some [(5, 113), (2, 110)], some [(4, 112), (6, 114), (2, 110)], some [(2, 110), (7, 115)], some [(8, 116)], some [(9, 117)], some [(9, 117)], some [(10, 118), (11, 119), (9, 117)], some [(9, 117)], some [(12, 120), (13, 121), (9, 117)], some [(9, 117), (14, 122)], some [(15, 123)], some [(16, 124)], some [(17, 125), (16, 124)], some [(18, 126), (16, 124)], some [(19, 127)], some [(19, 127)], some [(21, 129), (19, 127)], some [(20, 128), (22, 130), (19, 127)], some [(23, 131), (19, 127)], some [(24, 132)], some [(25, 133), (24, 132)], some [(24, 132), (26, 134), (19, 127)], some [(27, 135), (19, 127)], some [(28, 136)], some [(29, 137), (28, 136)], some [(28, 136)], some [(30, 138), (31, 139), (28, 136)], some [(28, 136), (32, 140), (19, 127)], some [(19, 127), (33, 141), (16, 124)], some [(16, 124), (34, 142)], some [(35, 143)], some [(36, 144)], some [(37, 145), (36, 144)], some [(36, 144), (38, 146)], some [(39, 147)], some [(40, 148)], some [(41, 149), (40, 148)], some [(42, 150), (40, 148)], some [(40, 148), (43, 151)], some [(44, 152)]] [(0, 108), (1, 109), (2, 110), (3, 111), (4, 112), (5, 113), (6, 114), (7, 115), (8, 116), (9, 117), (10, 118), (11, 119), (12, 120), (13, 121), (14, 122), (15, 123), (16, 124), (17, 125), (18, 126), (19, 127), (20, 128), (21, 129), (22, 130), (23, 131), (24, 132), (25, 133), (26, 134), (27, 135), (28, 136), (29, 137), (30, 138), (31, 139), (32, 140), (33, 141), (34, 142), (35, 143), (36, 144), (37, 145), (38, 146), (39, 147), (40, 148), (41, 149), (42, 150), (43, 151), (44, 152), (45, 2)]
                  (fun w' => Below w.heap.size w w' ∧ Bx 25 w' (bX) #[.int .i64 s, .int .i64 d0, .int .i64 x] ∧ Bx 27 w' (bX + 1) #[.int .i64 c, .int .i64 b] ∧ Bx 25 w' (bY) #[.int .i64 x0, .int .i64 d0, .int .i64 x2] ∧ Bx 25 w' (bV) #[.int .i64 d0, .int .i64 d1, .int .i64 d2] ∧ Bx 25 w' (bU) #[.int .i64 x0, .int .i64 n2, .int .i64 x2] ∧ Bx 25 w' (bR) #[.int .i64 5, .int .i64 21, .int .i64 0] ∧ Ow 3 .i64 w' (wa7.heap.size) (wa8.heap.size) A1 k3 c1 (outs ⟨s, d0, x⟩) ∧ Ow 3 .i64 w' (wa8.heap.size) (wa9.heap.size) A2 k2 c2 (outs ⟨x0, d0, x2⟩) ∧ True)
                  (reg.rl [reg.is (.agg #[.int .i64 d0, .int .i64 d1, .int .i64 d2]), reg.is (.bool true), reg.is (.bool true), reg.is (.pointer (some ⟨bV, 0, none⟩)), reg.is (.int .i64 d0), reg.is (.pointer (some ⟨bX, 1, none⟩)), reg.is (.int .i64 d0), reg.is (.bool true), reg.is (.bool true), reg.is (.bool true), reg.is (.agg #[.int .i64 x0, .int .i64 d0, .int .i64 x2]), reg.is (.agg #[.int .i64 c, .int .i64 b]), reg.is (.agg #[.int .i64 x0, .int .i64 d0, .int .i64 x2]), reg.is (.agg #[.int .i64 x0, .int .i64 d0, .int .i64 x2]), reg.is (.bool true), reg.is (.bool true), reg.is (.bool true), reg.is (.bool true), reg.is (.bool false), reg.is (.bool false), reg.is (.int .i64 d0), reg.is (.pointer (some ⟨bY, 1, none⟩)), reg.is (.int .i64 d0), reg.is (.bool true), reg.is (.bool true), reg.is (.agg #[.int .i64 x0, .int .i64 n2, .int .i64 x2]), reg.is (.bool true), reg.is (.bool true), reg.is (.bool true), reg.is (.agg #[.int .i64 x0, .int .i64 n2, .int .i64 x2]), stw.rowv .i64 (outs ⟨x0, n2, x2⟩) (fun A n c => .slice A n c), reg.is (.int .i64 d0), reg.is (.bool true), reg.is (.bool true), reg.is (.bool true), reg.is (.bool true), reg.is (.bool true), reg.is (.bool false), reg.is (.bool true), reg.is (.bool true), reg.is (.bool true), reg.is (.pointer (some ⟨bR, 0, none⟩)), reg.is (.int .i64 5), reg.is (.bool true), reg.is (.bool true), reg.is (.bool true)])
                  (by kernel_rfl) (by kernel_rfl) rfl
                  (fun w1 w2 hc hb => ⟨hc.1.trans (hb.mono hc.1.size), hc.2.1.below hb, hc.2.2.1.below hb, hc.2.2.2.1.below hb, hc.2.2.2.2.1.below hb, hc.2.2.2.2.2.1.below hb, hc.2.2.2.2.2.2.1.below hb, hc.2.2.2.2.2.2.2.1.below hb, hc.2.2.2.2.2.2.2.2.1.below hb, trivial⟩) (reg.rl_keep _) (⟨own.below_drew B18.out, X18.out.same rfl, A18.out.same rfl, Y18.out.same rfl, V18.out.same rfl, U18.out.same rfl, R18.out.same rfl, own.ow_drew L18.out, own.ow_drew M18.out, trivial⟩) (by kernel_rfl) ⟨?_, ?_, ?_, ?_, ?_, ?_, ?_, ?_, ?_, ?_, ?_, ?_, ?_, ?_, ?_, ?_, ?_, ?_, ?_, ?_, ?_, ?_, ?_, ?_, ?_, ?_, ?_, ?_, ?_, ?_, ?_, ?_, ?_, ?_, ?_, ?_, ?_, ?_, ?_, ?_, ?_, ?_, ?_, ?_, ?_, ?_, trivial⟩ ?_
                · refine fun w8 hc  K hK => ?_
                  (try simp only [Act.put, List.setIfInBounds_toArray, List.set_cons_zero, List.set_cons_succ])
                  rw [if_pos (by rfl)]
                  refine stw.wp_load_bx 25 _ rfl (bV) rfl 25 _ hc.2.2.2.2.1 Try.underlying25 rfl szS ?_
                  exact hK _ _ rfl (Below.refl _ _)
                · refine fun w8 hc v0 h0 K hK => ?_
                  obtain rfl : v0 = .agg #[.int .i64 d0, .int .i64 d1, .int .i64 d2] := h0
                  (try simp only [Act.put, List.setIfInBounds_toArray, List.set_cons_zero, List.set_cons_succ])
                  go_simp
                  (with_reducible refine (implDon d0 d1 d2 _).mono ?_)
                  rintro e w3 hp
                  obtain ⟨rfl, hb⟩ := b_parts HDN.out hp
                  exact hK _ _ rfl hb
                · refine fun w8 hc v1 h1 K hK => ?_
                  obtain rfl : v1 = .bool true := h1
                  (try simp only [Act.put, List.setIfInBounds_toArray, List.set_cons_zero, List.set_cons_succ])
                  go_simp
                  exact hK (.bool true) _ rfl (Below.refl _ _)
                · refine fun w8 hc v2 h2 K hK => ?_
                  obtain rfl : v2 = .bool true := h2
                  (try simp only [Act.put, List.setIfInBounds_toArray, List.set_cons_zero, List.set_cons_succ])
                  rw [if_pos (by rfl)]
                  go_simp
                  exact hK (.pointer (some ⟨bV, 0, none⟩)) _ rfl (Below.refl _ _)
                · refine fun w8 hc v3 h3 v2 h2 K hK => ?_
                  obtain rfl : v3 = .pointer (some ⟨bV, 0, none⟩) := h3
                  obtain rfl : v2 = .bool true := h2
                  (try simp only [Act.put, List.setIfInBounds_toArray, List.set_cons_zero, List.set_cons_succ])
                  rw [if_pos (by rfl)]
                  have c0 : w8.cell? ⟨bV, 0, none⟩ = some (.int .i64 d0) := hc.2.2.2.2.1.cell 0
                  go_simp
                  exact hK (.int .i64 d0) _ rfl (Below.refl _ _)
                · refine fun w8 hc v2 h2 K hK => ?_
                  obtain rfl : v2 = .bool true := h2
                  (try simp only [Act.put, List.setIfInBounds_toArray, List.set_cons_zero, List.set_cons_succ])
                  rw [if_pos (by rfl)]
                  go_simp
                  exact hK (.pointer (some ⟨bX, 1, none⟩)) _ rfl (Below.refl _ _)
                · refine fun w8 hc v5 h5 v2 h2 K hK => ?_
                  obtain rfl : v5 = .pointer (some ⟨bX, 1, none⟩) := h5
                  obtain rfl : v2 = .bool true := h2
                  (try simp only [Act.put, List.setIfInBounds_toArray, List.set_cons_zero, List.set_cons_succ])
                  rw [if_pos (by rfl)]
                  have c0 : w8.cell? ⟨bX, 1, none⟩ = some (.int .i64 d0) := hc.2.1.cell 1
                  go_simp
                  exact hK (.int .i64 d0) _ rfl (Below.refl _ _)
                · refine fun w8 hc v4 h4 v6 h6 v2 h2 K hK => ?_
                  obtain rfl : v4 = .int .i64 d0 := h4
                  obtain rfl : v6 = .int .i64 d0 := h6
                  obtain rfl : v2 = .bool true := h2
                  (try simp only [Act.put, List.setIfInBounds_toArray, List.set_cons_zero, List.set_cons_succ])
                  rw [if_pos (by rfl)]
                  go_simp
                  exact hK (.bool true) _ rfl (Below.refl _ _)
                · refine fun w8 hc v2 h2 v7 h7 K hK => ?_
                  obtain rfl : v2 = .bool true := h2
                  obtain rfl : v7 = .bool true := h7
                  (try simp only [Act.put, List.setIfInBounds_toArray, List.set_cons_zero, List.set_cons_succ])
                  go_simp
                  exact hK (.bool true) _ rfl (Below.refl _ _)
                · refine fun w8 hc v8 h8 K hK => ?_
                  obtain rfl : v8 = .bool true := h8
                  (try simp only [Act.put, List.setIfInBounds_toArray, List.set_cons_zero, List.set_cons_succ])
                  go_simp
                  exact hK (.bool true) _ rfl (Below.refl _ _)
                · refine fun w8 hc v9 h9 K hK => ?_
                  obtain rfl : v9 = .bool true := h9
                  (try simp only [Act.put, List.setIfInBounds_toArray, List.set_cons_zero, List.set_cons_succ])
                  rw [if_pos (by rfl)]
                  refine stw.wp_load_bx 25 _ rfl (bY) rfl 25 _ hc.2.2.2.1 Try.underlying25 rfl szS ?_
                  exact hK _ _ rfl (Below.refl _ _)
                · refine fun w8 hc v9 h9 K hK => ?_
                  obtain rfl : v9 = .bool true := h9
                  (try simp only [Act.put, List.setIfInBounds_toArray, List.set_cons_zero, List.set_cons_succ])
                  rw [if_pos (by rfl)]
                  refine stw.wp_load_bx 27 _ rfl (bX + 1) rfl 27 _ hc.2.2.1 Try.underlying27 rfl szA ?_
                  exact hK _ _ rfl (Below.refl _ _)
                · refine fun w8 hc v10 h10 v11 h11 v9 h9 K hK => ?_
                  obtain rfl : v10 = .agg #[.int .i64 x0, .int .i64 d0, .int .i64 x2] := h10
                  obtain rfl : v11 = .agg #[.int .i64 c, .int .i64 b] := h11
                  obtain rfl : v9 = .bool true := h9
                  (try simp only [Act.put, List.setIfInBounds_toArray, List.set_cons_zero, List.set_cons_succ])
                  rw [if_pos (by rfl)]
                  go_simp
                  (with_reducible refine (implRcv x0 d0 x2 c b _).mono ?_)
                  rintro e w3 hp
                  obtain ⟨rfl, hb⟩ := s_parts HAG.out hp
                  exact hK _ _ rfl hb
                · refine fun w8 hc v9 h9 K hK => ?_
                  obtain rfl : v9 = .bool true := h9
                  (try simp only [Act.put, List.setIfInBounds_toArray, List.set_cons_zero, List.set_cons_succ])
                  rw [if_pos (by rfl)]
                  refine stw.wp_load_bx 25 _ rfl (bY) rfl 25 _ hc.2.2.2.1 Try.underlying25 rfl szS ?_
                  exact hK _ _ rfl (Below.refl _ _)
                · refine fun w8 hc v12 h12 v13 h13 v9 h9 K hK => ?_
                  obtain rfl : v12 = .agg #[.int .i64 x0, .int .i64 d0, .int .i64 x2] := h12
                  obtain rfl : v13 = .agg #[.int .i64 x0, .int .i64 d0, .int .i64 x2] := h13
                  obtain rfl : v9 = .bool true := h9
                  (try simp only [Act.put, List.setIfInBounds_toArray, List.set_cons_zero, List.set_cons_succ])
                  rw [if_pos (by rfl)]
                  go_simp
                  exact hK (.bool true) _ rfl (Below.refl _ _)
                · refine fun w8 hc v9 h9 v14 h14 K hK => ?_
                  obtain rfl : v9 = .bool true := h9
                  obtain rfl : v14 = .bool true := h14
                  (try simp only [Act.put, List.setIfInBounds_toArray, List.set_cons_zero, List.set_cons_succ])
                  go_simp
                  exact hK (.bool true) _ rfl (Below.refl _ _)
                · refine fun w8 hc v15 h15 K hK => ?_
                  obtain rfl : v15 = .bool true := h15
                  (try simp only [Act.put, List.setIfInBounds_toArray, List.set_cons_zero, List.set_cons_succ])
                  go_simp
                  exact hK (.bool true) _ rfl (Below.refl _ _)
                · refine fun w8 hc v16 h16 K hK => ?_
                  obtain rfl : v16 = .bool true := h16
                  (try simp only [Act.put, List.setIfInBounds_toArray, List.set_cons_zero, List.set_cons_succ])
                  rw [if_pos (by rfl)]
                  go_simp
                  exact hK (.bool true) _ rfl (Below.refl _ _)
                · refine fun w8 hc v17 h17 v16 h16 K hK => ?_
                  obtain rfl : v17 = .bool true := h17
                  obtain rfl : v16 = .bool true := h16
                  (try simp only [Act.put, List.setIfInBounds_toArray, List.set_cons_zero, List.set_cons_succ])
                  rw [if_pos (by rfl)]
                  go_simp
                  exact hK (.bool false) _ rfl (Below.refl _ _)
                · refine fun w8 hc v18 h18 v16 h16 K hK => ?_
                  obtain rfl : v18 = .bool false := h18
                  obtain rfl : v16 = .bool true := h16
                  (try simp only [Act.put, List.setIfInBounds_toArray, List.set_cons_zero, List.set_cons_succ])
                  rw [if_pos (by rfl)]
                  go_simp
                  exact hK (.bool false) _ rfl (Below.refl _ _)
                · refine fun w8 hc v19 h19 K hK => ?_
                  obtain rfl : v19 = .bool false := h19
                  (try simp only [Act.put, List.setIfInBounds_toArray, List.set_cons_zero, List.set_cons_succ])
                  rw [if_pos (by rfl)]
                  go_simp
                  exact hK (.int .i64 d0) _ rfl (Below.refl _ _)
                · refine fun w8 hc v19 h19 K hK => ?_
                  obtain rfl : v19 = .bool false := h19
                  (try simp only [Act.put, List.setIfInBounds_toArray, List.set_cons_zero, List.set_cons_succ])
                  rw [if_pos (by rfl)]
                  go_simp
                  exact hK (.pointer (some ⟨bY, 1, none⟩)) _ rfl (Below.refl _ _)
                · refine fun w8 hc v21 h21 v19 h19 K hK => ?_
                  obtain rfl : v21 = .pointer (some ⟨bY, 1, none⟩) := h21
                  obtain rfl : v19 = .bool false := h19
                  (try simp only [Act.put, List.setIfInBounds_toArray, List.set_cons_zero, List.set_cons_succ])
                  rw [if_pos (by rfl)]
                  have c0 : w8.cell? ⟨bY, 1, none⟩ = some (.int .i64 d0) := hc.2.2.2.1.cell 1
                  go_simp
                  exact hK (.int .i64 d0) _ rfl (Below.refl _ _)
                · refine fun w8 hc v20 h20 v22 h22 v19 h19 K hK => ?_
                  obtain rfl : v20 = .int .i64 d0 := h20
                  obtain rfl : v22 = .int .i64 d0 := h22
                  obtain rfl : v19 = .bool false := h19
                  (try simp only [Act.put, List.setIfInBounds_toArray, List.set_cons_zero, List.set_cons_succ])
                  rw [if_pos (by rfl)]
                  go_simp
                  exact hK (.bool true) _ rfl (Below.refl _ _)
                · refine fun w8 hc v23 h23 v19 h19 K hK => ?_
                  obtain rfl : v23 = .bool true := h23
                  obtain rfl : v19 = .bool false := h19
                  (try simp only [Act.put, List.setIfInBounds_toArray, List.set_cons_zero, List.set_cons_succ])
                  rw [if_pos (by rfl)]
                  go_simp
                  exact hK (.bool true) _ rfl (Below.refl _ _)
                · refine fun w8 hc v24 h24 K hK => ?_
                  obtain rfl : v24 = .bool true := h24
                  (try simp only [Act.put, List.setIfInBounds_toArray, List.set_cons_zero, List.set_cons_succ])
                  rw [if_pos (by rfl)]
                  refine stw.wp_load_bx 25 _ rfl (bU) rfl 25 _ hc.2.2.2.2.2.1 Try.underlying25 rfl szS ?_
                  exact hK _ _ rfl (Below.refl _ _)
                · refine fun w8 hc v25 h25 v24 h24 K hK => ?_
                  obtain rfl : v25 = .agg #[.int .i64 x0, .int .i64 n2, .int .i64 x2] := h25
                  obtain rfl : v24 = .bool true := h24
                  (try simp only [Act.put, List.setIfInBounds_toArray, List.set_cons_zero, List.set_cons_succ])
                  rw [if_pos (by rfl)]
                  go_simp
                  (with_reducible refine (implVs x0 n2 x2 _).mono ?_)
                  rintro e w3 hp
                  obtain ⟨rfl, hb⟩ := b_parts HVU.out hp
                  exact hK _ _ rfl hb
                · refine fun w8 hc v24 h24 v26 h26 v19 h19 K hK => ?_
                  obtain rfl : v24 = .bool true := h24
                  obtain rfl : v26 = .bool true := h26
                  obtain rfl : v19 = .bool false := h19
                  (try simp only [Act.put, List.setIfInBounds_toArray, List.set_cons_zero, List.set_cons_succ])
                  rw [if_pos (by rfl)]
                  go_simp
                  exact hK (.bool true) _ rfl (Below.refl _ _)
                · refine fun w8 hc v27 h27 v19 h19 K hK => ?_
                  obtain rfl : v27 = .bool true := h27
                  obtain rfl : v19 = .bool false := h19
                  (try simp only [Act.put, List.setIfInBounds_toArray, List.set_cons_zero, List.set_cons_succ])
                  rw [if_pos (by rfl)]
                  go_simp
                  exact hK (.bool true) _ rfl (Below.refl _ _)
                · refine fun w8 hc v28 h28 K hK => ?_
                  obtain rfl : v28 = .bool true := h28
                  (try simp only [Act.put, List.setIfInBounds_toArray, List.set_cons_zero, List.set_cons_succ])
                  rw [if_pos (by rfl)]
                  refine stw.wp_load_bx 25 _ rfl (bU) rfl 25 _ hc.2.2.2.2.2.1 Try.underlying25 rfl szS ?_
                  exact hK _ _ rfl (Below.refl _ _)
                · refine fun w8 hc v29 h29 v28 h28 K hK => ?_
                  obtain rfl : v29 = .agg #[.int .i64 x0, .int .i64 n2, .int .i64 x2] := h29
                  obtain rfl : v28 = .bool true := h28
                  (try simp only [Act.put, List.setIfInBounds_toArray, List.set_cons_zero, List.set_cons_succ])
                  rw [if_pos (by rfl)]
                  go_simp
                  (with_reducible refine (implOs x0 n2 x2 _).mono ?_)
                  rintro e w3 ⟨A, n, c, rfl, ho, hb⟩
                  exact hK _ _ ⟨_, _, _, _, _, rfl, ho.rd⟩ hb
                · refine fun w8 hc v28 h28 K hK => ?_
                  obtain rfl : v28 = .bool true := h28
                  (try simp only [Act.put, List.setIfInBounds_toArray, List.set_cons_zero, List.set_cons_succ])
                  rw [if_pos (by rfl)]
                  go_simp
                  exact hK (.int .i64 d0) _ rfl (Below.refl _ _)
                · refine fun w8 hc v30 h30 v31 h31 v28 h28 K hK => ?_
                  obtain ⟨Av30, nv30, cv30, lov30, hiv30, rfl, hRv30⟩ := h30
                  obtain rfl : v31 = .int .i64 d0 := h31
                  obtain rfl : v28 = .bool true := h28
                  (try simp only [Act.put, List.setIfInBounds_toArray, List.set_cons_zero, List.set_cons_succ])
                  rw [if_pos (by rfl)]
                  go_simp
                  (with_reducible refine (lawContains (outs ⟨x0, n2, x2⟩) d0 _ _ _ _ _ _ hRv30).mono ?_)
                  rw [HCU.out]
                  rintro e w3 ⟨rfl, rfl⟩
                  exact hK _ _ rfl (Below.refl _ _)
                · refine fun w8 hc v28 h28 v32 h32 v19 h19 K hK => ?_
                  obtain rfl : v28 = .bool true := h28
                  obtain rfl : v32 = .bool true := h32
                  obtain rfl : v19 = .bool false := h19
                  (try simp only [Act.put, List.setIfInBounds_toArray, List.set_cons_zero, List.set_cons_succ])
                  rw [if_pos (by rfl)]
                  go_simp
                  exact hK (.bool true) _ rfl (Below.refl _ _)
                · refine fun w8 hc v19 h19 v33 h33 v16 h16 K hK => ?_
                  obtain rfl : v19 = .bool false := h19
                  obtain rfl : v33 = .bool true := h33
                  obtain rfl : v16 = .bool true := h16
                  (try simp only [Act.put, List.setIfInBounds_toArray, List.set_cons_zero, List.set_cons_succ])
                  rw [if_pos (by rfl)]
                  go_simp
                  exact hK (.bool true) _ rfl (Below.refl _ _)
                · refine fun w8 hc v16 h16 v34 h34 K hK => ?_
                  obtain rfl : v16 = .bool true := h16
                  obtain rfl : v34 = .bool true := h34
                  (try simp only [Act.put, List.setIfInBounds_toArray, List.set_cons_zero, List.set_cons_succ])
                  go_simp
                  exact hK (.bool true) _ rfl (Below.refl _ _)
                · refine fun w8 hc v35 h35 K hK => ?_
                  obtain rfl : v35 = .bool true := h35
                  (try simp only [Act.put, List.setIfInBounds_toArray, List.set_cons_zero, List.set_cons_succ])
                  go_simp
                  exact hK (.bool true) _ rfl (Below.refl _ _)
                · refine fun w8 hc v36 h36 K hK => ?_
                  obtain rfl : v36 = .bool true := h36
                  (try simp only [Act.put, List.setIfInBounds_toArray, List.set_cons_zero, List.set_cons_succ])
                  rw [if_pos (by rfl)]
                  go_simp
                  exact hK (.bool false) _ rfl (Below.refl _ _)
                · refine fun w8 hc v37 h37 v36 h36 K hK => ?_
                  obtain rfl : v37 = .bool false := h37
                  obtain rfl : v36 = .bool true := h36
                  (try simp only [Act.put, List.setIfInBounds_toArray, List.set_cons_zero, List.set_cons_succ])
                  rw [if_pos (by rfl)]
                  go_simp
                  exact hK (.bool true) _ rfl (Below.refl _ _)
                · refine fun w8 hc v36 h36 v38 h38 K hK => ?_
                  obtain rfl : v36 = .bool true := h36
                  obtain rfl : v38 = .bool true := h38
                  (try simp only [Act.put, List.setIfInBounds_toArray, List.set_cons_zero, List.set_cons_succ])
                  go_simp
                  exact hK (.bool true) _ rfl (Below.refl _ _)
                · refine fun w8 hc v39 h39 K hK => ?_
                  obtain rfl : v39 = .bool true := h39
                  (try simp only [Act.put, List.setIfInBounds_toArray, List.set_cons_zero, List.set_cons_succ])
                  go_simp
                  exact hK (.bool true) _ rfl (Below.refl _ _)
                · refine fun w8 hc v40 h40 K hK => ?_
                  obtain rfl : v40 = .bool true := h40
                  (try simp only [Act.put, List.setIfInBounds_toArray, List.set_cons_zero, List.set_cons_succ])
                  rw [if_pos (by rfl)]
                  go_simp
                  exact hK (.pointer (some ⟨bR, 0, none⟩)) _ rfl (Below.refl _ _)
                · refine fun w8 hc v41 h41 v40 h40 K hK => ?_
                  obtain rfl : v41 = .pointer (some ⟨bR, 0, none⟩) := h41
                  obtain rfl : v40 = .bool true := h40
                  (try simp only [Act.put, List.setIfInBounds_toArray, List.set_cons_zero, List.set_cons_succ])
                  rw [if_pos (by rfl)]
                  have c0 : w8.cell? ⟨bR, 0, none⟩ = some (.int .i64 5) := hc.2.2.2.2.2.2.1.cell 0
                  go_simp
                  exact hK (.int .i64 5) _ rfl (Below.refl _ _)
                · refine fun w8 hc v42 h42 v40 h40 K hK => ?_
                  obtain rfl : v42 = .int .i64 5 := h42
                  obtain rfl : v40 = .bool true := h40
                  (try simp only [Act.put, List.setIfInBounds_toArray, List.set_cons_zero, List.set_cons_succ])
                  rw [if_pos (by rfl)]
                  go_simp
                  exact hK (.bool true) _ rfl (Below.refl _ _)
                · refine fun w8 hc v40 h40 v43 h43 K hK => ?_
                  obtain rfl : v40 = .bool true := h40
                  obtain rfl : v43 = .bool true := h43
                  (try simp only [Act.put, List.setIfInBounds_toArray, List.set_cons_zero, List.set_cons_succ])
                  go_simp
                  exact hK (.bool true) _ rfl (Below.refl _ _)
                · refine fun w8 hc v44 h44 K hK => ?_
                  obtain rfl : v44 = .bool true := h44
                  (try simp only [Act.put, List.setIfInBounds_toArray, List.set_cons_zero, List.set_cons_succ])
                  go_simp
                  exact hK (.bool true) _ rfl (Below.refl _ _)
                refine fun wg19 hc v0 h0 v1 h1 v2 h2 v3 h3 v4 h4 v5 h5 v6 h6 v7 h7 v8 h8 v9 h9 v10 h10 v11 h11 v12 h12 v13 h13 v14 h14 v15 h15 v16 h16 v17 h17 v18 h18 v19 h19 v20 h20 v21 h21 v22 h22 v23 h23 v24 h24 v25 h25 v26 h26 v27 h27 v28 h28 v29 h29 v30 h30 v31 h31 v32 h32 v33 h33 v34 h34 v35 h35 v36 h36 v37 h37 v38 h38 v39 h39 v40 h40 v41 h41 v42 h42 v43 h43 v44 h44 v45 h45 => ?_
                obtain rfl : v0 = .agg #[.int .i64 d0, .int .i64 d1, .int .i64 d2] := h0
                obtain rfl : v1 = .bool true := h1
                obtain rfl : v2 = .bool true := h2
                obtain rfl : v3 = .pointer (some ⟨bV, 0, none⟩) := h3
                obtain rfl : v4 = .int .i64 d0 := h4
                obtain rfl : v5 = .pointer (some ⟨bX, 1, none⟩) := h5
                obtain rfl : v6 = .int .i64 d0 := h6
                obtain rfl : v7 = .bool true := h7
                obtain rfl : v8 = .bool true := h8
                obtain rfl : v9 = .bool true := h9
                obtain rfl : v10 = .agg #[.int .i64 x0, .int .i64 d0, .int .i64 x2] := h10
                obtain rfl : v11 = .agg #[.int .i64 c, .int .i64 b] := h11
                obtain rfl : v12 = .agg #[.int .i64 x0, .int .i64 d0, .int .i64 x2] := h12
                obtain rfl : v13 = .agg #[.int .i64 x0, .int .i64 d0, .int .i64 x2] := h13
                obtain rfl : v14 = .bool true := h14
                obtain rfl : v15 = .bool true := h15
                obtain rfl : v16 = .bool true := h16
                obtain rfl : v17 = .bool true := h17
                obtain rfl : v18 = .bool false := h18
                obtain rfl : v19 = .bool false := h19
                obtain rfl : v20 = .int .i64 d0 := h20
                obtain rfl : v21 = .pointer (some ⟨bY, 1, none⟩) := h21
                obtain rfl : v22 = .int .i64 d0 := h22
                obtain rfl : v23 = .bool true := h23
                obtain rfl : v24 = .bool true := h24
                obtain rfl : v25 = .agg #[.int .i64 x0, .int .i64 n2, .int .i64 x2] := h25
                obtain rfl : v26 = .bool true := h26
                obtain rfl : v27 = .bool true := h27
                obtain rfl : v28 = .bool true := h28
                obtain rfl : v29 = .agg #[.int .i64 x0, .int .i64 n2, .int .i64 x2] := h29
                obtain ⟨Av30, nv30, cv30, lov30, hiv30, rfl, hRv30⟩ := h30
                obtain rfl : v31 = .int .i64 d0 := h31
                obtain rfl : v32 = .bool true := h32
                obtain rfl : v33 = .bool true := h33
                obtain rfl : v34 = .bool true := h34
                obtain rfl : v35 = .bool true := h35
                obtain rfl : v36 = .bool true := h36
                obtain rfl : v37 = .bool false := h37
                obtain rfl : v38 = .bool true := h38
                obtain rfl : v39 = .bool true := h39
                obtain rfl : v40 = .bool true := h40
                obtain rfl : v41 = .pointer (some ⟨bR, 0, none⟩) := h41
                obtain rfl : v42 = .int .i64 5 := h42
                obtain rfl : v43 = .bool true := h43
                obtain rfl : v44 = .bool true := h44
                obtain rfl : v45 = .bool true := h45
                (try simp only [reg.Obs])
                (try simp only [Act.put, List.setIfInBounds_toArray, List.set_cons_zero, List.set_cons_succ])
                have B19 := Lib.hid hc.1
                have X19 := Lib.hid hc.2.1
                have A19 := Lib.hid hc.2.2.1
                have Y19 := Lib.hid hc.2.2.2.1
                have V19 := Lib.hid hc.2.2.2.2.1
                have U19 := Lib.hid hc.2.2.2.2.2.1
                have R19 := Lib.hid hc.2.2.2.2.2.2.1
                have L19 := Lib.hid hc.2.2.2.2.2.2.2.1
                have M19 := Lib.hid hc.2.2.2.2.2.2.2.2.1
                clear hc B18 X18 A18 Y18 V18 U18 R18 L18 M18
                go_wp2_with fail
                go_ret
                exact ⟨rfl, B19.out⟩
              | false =>
                have HNX := Lib.hid (show nxt ⟨x0, d0, x2⟩ = (⟨x0, d0, x2⟩, 0, false) by unfold nxt; rw [if_neg (by rw [HM.out]; decide)])
                go_wp2_with (refine stw.list_load rfl 25 _ rfl (bY) rfl 25 _ Y14.out Try.underlying25 rfl szS ?_)
                (with_reducible refine (implSn x0 d0 x2 _).mono ?_)
                rintro e wa15 hp
                obtain ⟨rfl, hb⟩ := nx_parts HNX.out hp
                clear hp
                have SS15 := Lib.hid hb.size
                have B15 := Lib.hid (B14.out.trans (hb.mono B14.out.size))
                have X15 := Lib.hid (X14.out.below hb)
                have A15 := Lib.hid (A14.out.below hb)
                have Y15 := Lib.hid (Y14.out.below hb)
                have V15 := Lib.hid (V14.out.below hb)
                have L15 := Lib.hid (L14.out.below hb)
                have M15 := Lib.hid (M14.out.below hb)
                clear hb  B14 X14 A14 Y14 V14 L14 M14
                obtain ⟨bU, hbb⟩ : ∃ b, wa15.heap.size = b := ⟨_, rfl⟩
                go_upto_region 24 with fail
                generalize hW : wa15.alloc (.cells #[.int .i64 x0, .int .i64 d0, .int .i64 x2] 25) = wa16
                have LU := Lib.hid (show w.heap.size ≤ bU ∧ bX < bU ∧ bX + 1 < bU ∧ bY < bU ∧ bV < bU ∧ wa8.heap.size ≤ bU ∧ wa9.heap.size ≤ bU by have h1 := B15.out.size; have h2X := X15.out.lt; have h2A := A15.out.lt; have h2Y := Y15.out.lt; have h2V := V15.out.lt; have h2L := L15.out.hi_; have h2M := M15.out.hi_; have h3 := hbb; omega)
                have U16 := Lib.hid (show Bx 25 wa16 bU #[.int .i64 x0, .int .i64 d0, .int .i64 x2] by rw [← hW, ← hbb]; exact Bx.made _ _ _)
                have hb : Below wa15.heap.size wa15 wa16 := by rw [← hW]; exact below_box _ _
                (try rw [hbb])
                clear hW hbb
                have SS16 := Lib.hid hb.size
                have B16 := Lib.hid (B15.out.trans (hb.mono B15.out.size))
                have X16 := Lib.hid (X15.out.below hb)
                have A16 := Lib.hid (A15.out.below hb)
                have Y16 := Lib.hid (Y15.out.below hb)
                have V16 := Lib.hid (V15.out.below hb)
                have L16 := Lib.hid (L15.out.below hb)
                have M16 := Lib.hid (M15.out.below hb)
                clear hb B15 X15 A15 Y15 V15 L15 M15
                have LWU := Lib.hid U16.out.lt
                have HN5 := Lib.hid (show nxt ⟨5, 21, 0⟩ = (⟨5, 21, 0⟩, 0, false) by unfold nxt; rw [if_neg (by decide +kernel)])
                go_wp2_with fail
                (with_reducible refine (implSn 5 21 0 _).mono ?_)
                rintro e wa17 hp
                obtain ⟨rfl, hb⟩ := nx_parts HN5.out hp
                clear hp
                have SS17 := Lib.hid hb.size
                have B17 := Lib.hid (B16.out.trans (hb.mono B16.out.size))
                have X17 := Lib.hid (X16.out.below hb)
                have A17 := Lib.hid (A16.out.below hb)
                have Y17 := Lib.hid (Y16.out.below hb)
                have V17 := Lib.hid (V16.out.below hb)
                have U17 := Lib.hid (U16.out.below hb)
                have L17 := Lib.hid (L16.out.below hb)
                have M17 := Lib.hid (M16.out.below hb)
                clear hb  B16 X16 A16 Y16 V16 U16 L16 M16
                obtain ⟨bR, hbb⟩ : ∃ b, wa17.heap.size = b := ⟨_, rfl⟩
                go_upto_region 25 with fail
                generalize hW : wa17.alloc (.cells #[.int .i64 5, .int .i64 21, .int .i64 0] 25) = wa18
                have LR := Lib.hid (show w.heap.size ≤ bR ∧ bX < bR ∧ bX + 1 < bR ∧ bY < bR ∧ bV < bR ∧ bU < bR ∧ wa8.heap.size ≤ bR ∧ wa9.heap.size ≤ bR by have h1 := B17.out.size; have h2X := X17.out.lt; have h2A := A17.out.lt; have h2Y := Y17.out.lt; have h2V := V17.out.lt; have h2U := U17.out.lt; have h2L := L17.out.hi_; have h2M := M17.out.hi_; have h3 := hbb; omega)
                have R18 := Lib.hid (show Bx 25 wa18 bR #[.int .i64 5, .int .i64 21, .int .i64 0] by rw [← hW, ← hbb]; exact Bx.made _ _ _)
                have hb : Below wa17.heap.size wa17 wa18 := by rw [← hW]; exact below_box _ _
                (try rw [hbb])
                clear hW hbb
                have SS18 := Lib.hid hb.size
                have B18 := Lib.hid (B17.out.trans (hb.mono B17.out.size))
                have X18 := Lib.hid (X17.out.below hb)
                have A18 := Lib.hid (A17.out.below hb)
                have Y18 := Lib.hid (Y17.out.below hb)
                have V18 := Lib.hid (V17.out.below hb)
                have U18 := Lib.hid (U17.out.below hb)
                have L18 := Lib.hid (L17.out.below hb)
                have M18 := Lib.hid (M17.out.below hb)
                clear hb B17 X17 A17 Y17 V17 U17 L17 M17
                have LWR := Lib.hid R18.out.lt
                have mV0 : ∀ m : bx.Af wa18, m.w.cell? ⟨bV, 0, none⟩ = some (.int .i64 d0) := fun m => (bx.Af.cells V18.out m).cell 0
                have mV1 : ∀ m : bx.Af wa18, m.w.cell? ⟨bV, 1, none⟩ = some (.int .i64 d1) := fun m => (bx.Af.cells V18.out m).cell 1
                have mV2 : ∀ m : bx.Af wa18, m.w.cell? ⟨bV, 2, none⟩ = some (.int .i64 d2) := fun m => (bx.Af.cells V18.out m).cell 2
                have mX0 : ∀ m : bx.Af wa18, m.w.cell? ⟨bX, 0, none⟩ = some (.int .i64 s) := fun m => (bx.Af.cells X18.out m).cell 0
                have mX1 : ∀ m : bx.Af wa18, m.w.cell? ⟨bX, 1, none⟩ = some (.int .i64 d0) := fun m => (bx.Af.cells X18.out m).cell 1
                have mX2 : ∀ m : bx.Af wa18, m.w.cell? ⟨bX, 2, none⟩ = some (.int .i64 x) := fun m => (bx.Af.cells X18.out m).cell 2
                have mY0 : ∀ m : bx.Af wa18, m.w.cell? ⟨bY, 0, none⟩ = some (.int .i64 x0) := fun m => (bx.Af.cells Y18.out m).cell 0
                have mY1 : ∀ m : bx.Af wa18, m.w.cell? ⟨bY, 1, none⟩ = some (.int .i64 d0) := fun m => (bx.Af.cells Y18.out m).cell 1
                have mY2 : ∀ m : bx.Af wa18, m.w.cell? ⟨bY, 2, none⟩ = some (.int .i64 x2) := fun m => (bx.Af.cells Y18.out m).cell 2
                have mA0 : ∀ m : bx.Af wa18, m.w.cell? ⟨bX + 1, 0, none⟩ = some (.int .i64 c) := fun m => (bx.Af.cells A18.out m).cell 0
                have mA1 : ∀ m : bx.Af wa18, m.w.cell? ⟨bX + 1, 1, none⟩ = some (.int .i64 b) := fun m => (bx.Af.cells A18.out m).cell 1
                have mR0 : ∀ m : bx.Af wa18, m.w.cell? ⟨bR, 0, none⟩ = some (.int .i64 5) := fun m => (bx.Af.cells R18.out m).cell 0
                have mR1 : ∀ m : bx.Af wa18, m.w.cell? ⟨bR, 1, none⟩ = some (.int .i64 21) := fun m => (bx.Af.cells R18.out m).cell 1
                have mR2 : ∀ m : bx.Af wa18, m.w.cell? ⟨bR, 2, none⟩ = some (.int .i64 0) := fun m => (bx.Af.cells R18.out m).cell 2
                have q1 := Lib.hid (fun m => (by have hh := implDon d0 d1 d2 m.w; rw [HDN.out] at hh; exact hh) : ∀ m : bx.Af wa18, Calls Try.prog 23 #[.agg #[.int .i64 d0, .int .i64 d1, .int .i64 d2]] m.w fun e w' => e = .returned (.bool true) ∧ Below m.w.heap.size m.w w')
                have q2 := Lib.hid (fun m => (by have hh := implRcv x0 d0 x2 c b m.w; rw [HAG.out] at hh; exact hh) : ∀ m : bx.Af wa18, Calls Try.prog 14 #[.agg #[.int .i64 x0, .int .i64 d0, .int .i64 x2], .agg #[.int .i64 c, .int .i64 b]] m.w fun e w' => e = .returned (.agg #[.int .i64 x0, .int .i64 d0, .int .i64 x2]) ∧ Below m.w.heap.size m.w w')
                refine bx.region_after (by kernel_rfl) (by kernel_rfl) ?_
                repeat (go_big_quiet_step (first | (go_at_call 23; with_reducible exact bx.Af.call (q1.out _)) | (go_at_call 14; with_reducible exact bx.Af.call (q2.out _))))
                refine wpQuiet_nil ?_
                intro _ hw'
                obtain ⟨nq9, hw''⟩ := hw'
                subst hw''
                clear mV0 mV1 mV2 mX0 mX1 mX2 mY0 mY1 mY2 mA0 mA1 mR0 mR1 mR2 q1 q2
                obtain ⟨wa19, hw5⟩ : ∃ w5, nq9.w = w5 := ⟨_, rfl⟩
                have hb := nq9.below
                rw [hw5] at hb
                (try rw [hw5])
                clear hw5
                have SS19 := Lib.hid hb.size
                have B19 := Lib.hid (B18.out.trans (hb.mono B18.out.size))
                have X19 := Lib.hid (X18.out.below hb)
                have A19 := Lib.hid (A18.out.below hb)
                have Y19 := Lib.hid (Y18.out.below hb)
                have V19 := Lib.hid (V18.out.below hb)
                have U19 := Lib.hid (U18.out.below hb)
                have R19 := Lib.hid (R18.out.below hb)
                have L19 := Lib.hid (L18.out.below hb)
                have M19 := Lib.hid (M18.out.below hb)
                clear hb nq9 B18 X18 A18 Y18 V18 U18 R18 L18 M18
                go_wp2_with fail
                go_ret
                exact ⟨rfl, B19.out⟩
    | false =>
      have hxx : (⟨x0, x1, x2⟩ : Bs) = ⟨s, n, x⟩ := by rw [← HX.out]; unfold rcv mfa; rw [HF.out, Bool.false_and, Bool.and_false, if_neg (by decide)]
      obtain ⟨rfl, rfl, rfl⟩ : x0 = s ∧ x1 = n ∧ x2 = x := ⟨congrArg Bs.st hxx, congrArg Bs.nx hxx, congrArg Bs.ac hxx⟩
      clear hxx
      have cX0 : wa7.cell? ⟨bX, 0, none⟩ = some (.int .i64 x0) := X7.out.cell 0
      have cX1 : wa7.cell? ⟨bX, 1, none⟩ = some (.int .i64 x1) := X7.out.cell 1
      have cX2 : wa7.cell? ⟨bX, 2, none⟩ = some (.int .i64 x2) := X7.out.cell 2
      have cY0 : wa7.cell? ⟨bY, 0, none⟩ = some (.int .i64 x0) := Y7.out.cell 0
      have cY1 : wa7.cell? ⟨bY, 1, none⟩ = some (.int .i64 x1) := Y7.out.cell 1
      have cY2 : wa7.cell? ⟨bY, 2, none⟩ = some (.int .i64 x2) := Y7.out.cell 2
      go_wp2_with fail
      clear cX0 cX1 cX2 cY0 cY1 cY2
      go_ret
      exact ⟨by first | rfl | simp, B7.out⟩
  | false =>
    have hxx : (⟨x0, x1, x2⟩ : Bs) = ⟨s, n, x⟩ := by rw [← HX.out]; unfold rcv mfa; rw [HV.out, Bool.false_and, if_neg (by decide)]
    obtain ⟨rfl, rfl, rfl⟩ : x0 = s ∧ x1 = n ∧ x2 = x := ⟨congrArg Bs.st hxx, congrArg Bs.nx hxx, congrArg Bs.ac hxx⟩
    clear hxx
    have cX0 : wa6.cell? ⟨bX, 0, none⟩ = some (.int .i64 x0) := X6.out.cell 0
    have cX1 : wa6.cell? ⟨bX, 1, none⟩ = some (.int .i64 x1) := X6.out.cell 1
    have cX2 : wa6.cell? ⟨bX, 2, none⟩ = some (.int .i64 x2) := X6.out.cell 2
    have cY0 : wa6.cell? ⟨bY, 0, none⟩ = some (.int .i64 x0) := Y6.out.cell 0
    have cY1 : wa6.cell? ⟨bY, 1, none⟩ = some (.int .i64 x1) := Y6.out.cell 1
    have cY2 : wa6.cell? ⟨bY, 2, none⟩ = some (.int .i64 x2) := Y6.out.cell 2
    go_wp2_with fail
    clear cX0 cX1 cX2 cY0 cY1 cY2
    go_ret
    exact ⟨by first | rfl | simp, B6.out⟩
end Go.Proofs.Ythbmnhbnoipdfaa.bsLaw
