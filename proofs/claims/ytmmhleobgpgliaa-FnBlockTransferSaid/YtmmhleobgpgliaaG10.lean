/- Merged texts of this seat. BtLaw: The law function of block transfers (FnBlockTransfer) returns true and leaves what was there. Condition: the argument is a slice of bytes that came in. -/
import Derived.Deep.Cut
import Derived.Test.YtmmhleobgpgliaaG1
import Derived.Test.YtmmhleobgpgliaaG3
import Derived.Test.YtmmhleobgpgliaaG9
section
namespace Go.Proofs.Ytmmhleobgpgliaa.btLaw
open Go.RowKit sl harn bx rng stw
set_option linter.unusedVariables false
open bt
open ux (Nf Rob RR OO row rowB rowNf)
open bs (Bs rcv outs fr)
open ro (ack)
set_option linter.unusedSimpArgs false

def Lw (b : Nat) (w : World) : Prop := b < w.heap.size
theorem Lw.same {b : Nat} {w w2 : World} (h : Lw b w) (hs : w.heap.size ≤ w2.heap.size) (_ : ∀ j, 0 ≤ j → j < 0 → w2.heap[j]? = w.heap[j]?) : Lw b w2 := Nat.lt_of_lt_of_le h hs
theorem Lw.below {b : Nat} {w w2 : World} (h : Lw b w) (hb : Below w.heap.size w w2) : Lw b w2 := Nat.lt_of_lt_of_le h hb.size
theorem Lw.hi_ {b : Nat} {w : World} (h : Lw b w) : 0 ≤ w.heap.size := Nat.zero_le _
theorem _root_.Go.Proofs.Ytmmhleobgpgliaa.bt.J.small {f : Int} {q : Bs} {r : Rob} {A sent p : Nat} (h : J f q r A sent p) : r.Pending.length ≤ 16 ∧ ∀ x ∈ r.Pending, x.Body.length ≤ 100 := by
  have h1 := ro.vr_ok h.hr
  refine ⟨?_, fun x hx => (ro.near (s := r.Start) (xs := r.Pending) h.hr x hx).2⟩
  rw [← h1.2]
  have h2 := ro.pend_len (ro.start r).ws r.Start
  rw [h1.1.len] at h2
  exact h2
set_option maxRecDepth 100000 in
set_option maxHeartbeats 16000000 in
theorem walk (a : Option Addr) (len cap : Nat) (zz : List Int) (w : World) (r0 : kit.IsRow .u8 w a len cap zz) :
    Calls Try.prog 3 #[.slice a len cap] w (fun e w' => e = .returned (.bool true) ∧ Below w.heap.size w w') := by
  obtain ⟨zc, hzc⟩ := sl.Rd.of_row r0
  have HC := Lib.hid (draw.code_of_row r0)
  have hlen : (len : Int) ≤ 9223372036854775807 := by have := HC.out.1; omega
  have I0 := Lib.hid hzc
  clear r0 hzc
  by_cases hbig : 1048576 < (len : Int)
  · go_enter Try.func3, Try.ntmps3
    go_wp2
    go_ret
    exact ⟨rfl, Below.refl _ _⟩
  have HBG := Lib.hid (show len ≤ 1048576 by omega)
  have B0 := Lib.hid (Below.refl w.heap.size w)
  go_enter Try.func3, Try.ntmps3
  go_wp2_with (go_at_call 12; go_in)
  clear hbig HC
  obtain ⟨bq, hbb⟩ : ∃ b, w.heap.size = b := ⟨_, rfl⟩
  go_wp2_with fail
  generalize hW : w.alloc (.cells #[.int .i64 0, .int .i64 7, .int .i64 4090] 3) = wa1
  have LQ := Lib.hid (show w.heap.size ≤ bq ∧ w.heap.size ≤ bq by have h1 := B0.out.size; have h2I := I0.out.hi_; have h3 := hbb; omega)
  have Q1 := Lib.hid (show Bx 3 wa1 bq #[.int .i64 0, .int .i64 7, .int .i64 4090] by rw [← hW, ← hbb]; exact Bx.made _ _ _)
  have hb : Below w.heap.size w wa1 := by rw [← hW]; exact below_box _ _
  (try rw [hbb])
  clear hW hbb
  have SS1 := Lib.hid hb.size
  have B1 := Lib.hid (B0.out.trans (hb.mono B0.out.size))
  have I1 := Lib.hid (I0.out.below hb)
  clear hb B0 I0
  have LWQ := Lib.hid Q1.out.lt
  obtain ⟨v0, hv0⟩ : ∃ v, lawAt.atv zc len 0 = v := ⟨_, rfl⟩
  have HV0 := Lib.hid hv0
  have hr0 : 0 ≤ v0 ∧ v0 ≤ 255 := by rw [← hv0]; exact lawAt.atv_in I1.out 0
  clear hv0
  obtain ⟨v1, hv1⟩ : ∃ v, lawAt.atv zc len 1 = v := ⟨_, rfl⟩
  have HV1 := Lib.hid hv1
  have hr1 : 0 ≤ v1 ∧ v1 ≤ 255 := by rw [← hv1]; exact lawAt.atv_in I1.out 1
  clear hv1
  (with_reducible refine (lawAt.at_v 0 0 (by first | rfl | omega) (by omega) v0 a len cap _ _ zc _ I1.out HBG.out HV0.out).mono ?_)
  rintro e wq ⟨rfl, rfl⟩
  obtain ⟨j0, hj⟩ : ∃ j : Nat, v0 % 3 = (j : Int) := ⟨(v0 % 3).toNat, by omega⟩
  have hj3 : j0 < 3 := by omega
  have hjt : v0.tmod 3 = (j0 : Int) := by rw [Int.tmod_eq_emod_of_nonneg (by omega)]; exact hj
  obtain ⟨f, cf, hf0⟩ : ∃ f : Int, wa1.cell? ⟨bq, j0, none⟩ = some (.int .i64 f) ∧ 0 ≤ f ∧ f ≤ 4095 := by rcases (show j0 = 0 ∨ j0 = 1 ∨ j0 = 2 by omega) with e | e | e; (rw [e]; exact ⟨0, Q1.out.cell 0, by omega⟩); (rw [e]; exact ⟨7, Q1.out.cell 1, by omega⟩); (rw [e]; exact ⟨4090, Q1.out.cell 2, by omega⟩)
  have HF0 := Lib.hid hf0
  clear hf0
  go_wp2_with fail
  clear cf hj hjt hj3
  obtain ⟨⟨s0, n0, a0⟩, hq0⟩ : ∃ q, bs.new f = q := ⟨_, rfl⟩
  have HQ0 := Lib.hid hq0
  clear hq0
  (with_reducible refine (bs.implNew f _).mono ?_)
  rintro e wa2 hp
  obtain ⟨rfl, hb⟩ := bs.s_parts HQ0.out hp
  clear hp
  have SS2 := Lib.hid hb.size
  have B2 := Lib.hid (B1.out.trans (hb.mono B1.out.size))
  have I2 := Lib.hid (I1.out.below hb)
  clear hb  B1 I1
  obtain ⟨bS, hbb⟩ : ∃ b, wa2.heap.size = b := ⟨_, rfl⟩
  go_upto_region 5 with fail
  generalize hW : wa2.alloc (.cells #[.int .i64 s0, .int .i64 n0, .int .i64 a0] 27) = wa3
  have LS := Lib.hid (show w.heap.size ≤ bS ∧ w.heap.size ≤ bS by have h1 := B2.out.size; have h2I := I2.out.hi_; have h3 := hbb; omega)
  have S3 := Lib.hid (show Bx 27 wa3 bS #[.int .i64 s0, .int .i64 n0, .int .i64 a0] by rw [← hW, ← hbb]; exact Bx.made _ _ _)
  have hb : Below wa2.heap.size wa2 wa3 := by rw [← hW]; exact below_box _ _
  (try rw [hbb])
  clear hW hbb
  have SS3 := Lib.hid hb.size
  have B3 := Lib.hid (B2.out.trans (hb.mono B2.out.size))
  have I3 := Lib.hid (I2.out.below hb)
  clear hb B2 I2
  have LWS := Lib.hid S3.out.lt
  go_wp2_with fail
  (with_reducible refine (ro.implNew f _).mono ?_)
  rintro e wa4 hp
  obtain ⟨A1, n1, c1, f1, rfl, ho, hb⟩ := ro.ro_parts hp
  clear hp
  have HRN := Lib.hid (show ro.new f = ⟨f, []⟩ by unfold ro.new; rw [if_pos HF0.out])
  rw [HRN.out] at ho ⊢
  obtain ⟨hl1, hl2, hl3⟩ := ro.nf_len ho.rd
  have HN1 := Lib.hid (show n1 = 0 ∧ c1 ≤ 9223372036854775807 from ⟨hl1.symm, hl3⟩)
  clear ho hl1 hl2 hl3
  have SS4 := Lib.hid hb.size
  have B4 := Lib.hid (B3.out.trans (hb.mono B3.out.size))
  have S4 := Lib.hid (S3.out.below hb)
  have I4 := Lib.hid (I3.out.below hb)
  clear hb B3 S3 I3
  obtain ⟨bR, hbb⟩ : ∃ b, wa4.heap.size = b := ⟨_, rfl⟩
  go_upto_region 6 with fail
  generalize hW : wa4.alloc (.cells #[.int .i64 f, .slice A1 n1 c1] 31) = wa5
  have LR := Lib.hid (show w.heap.size ≤ bR ∧ bS < bR ∧ w.heap.size ≤ bR by have h1 := B4.out.size; have h2S := S4.out.lt; have h2I := I4.out.hi_; have h3 := hbb; omega)
  have R5 := Lib.hid (show Bx 31 wa5 bR #[.int .i64 f, .slice A1 n1 c1] by rw [← hW, ← hbb]; exact Bx.made _ _ _)
  have hb : Below wa4.heap.size wa4 wa5 := by rw [← hW]; exact below_box _ _
  (try rw [hbb])
  clear hW hbb
  have SS5 := Lib.hid hb.size
  have B5 := Lib.hid (B4.out.trans (hb.mono B4.out.size))
  have S5 := Lib.hid (S4.out.below hb)
  have I5 := Lib.hid (I4.out.below hb)
  clear hb B4 S4 I4
  have LWR := Lib.hid R5.out.lt
  go_wp2_with fail
  (with_reducible refine (lawAt.at_v 1 1 (by first | rfl | omega) (by omega) v1 a len cap _ _ zc _ I5.out HBG.out HV1.out).mono ?_)
  rintro e wq ⟨rfl, rfl⟩
  obtain ⟨tt, htt⟩ : ∃ t : Nat, 1 + v1 % 20 = (t : Int) := ⟨(1 + v1 % 20).toNat, by omega⟩
  have htr : 1 ≤ tt ∧ tt ≤ 20 := by omega
  have hta : IntKind.i64.wrap (1 + v1 % 20) = (tt : Int) := by rw [htt]; exact IntWalk.i64_in _ (by omega)
  have htb : IntKind.i64.wrap (1 + v1.tmod 20) = (tt : Int) := by rw [Int.tmod_eq_emod_of_nonneg (by omega)]; exact hta
  go_upto_region 8 with fail
  clear hta htb htt hr0 hr1
  have HTT := Lib.hid htr
  clear htr
  obtain ⟨be, hbb⟩ : ∃ b, wa5.heap.size = b := ⟨_, rfl⟩
  go_upto_region 9 with fail
  generalize hW : wa5.alloc (.cells #[] 22) = wa6
  have LE := Lib.hid (show w.heap.size ≤ be ∧ bS < be ∧ bR < be ∧ w.heap.size ≤ be by have h1 := B5.out.size; have h2S := S5.out.lt; have h2R := R5.out.lt; have h2I := I5.out.hi_; have h3 := hbb; omega)
  have E6 := Lib.hid (show Bx 22 wa6 be #[] by rw [← hW, ← hbb]; exact Bx.made _ _ _)
  have hb : Below wa5.heap.size wa5 wa6 := by rw [← hW]; exact below_box _ _
  (try rw [hbb])
  clear hW hbb
  have SS6 := Lib.hid hb.size
  have B6 := Lib.hid (B5.out.trans (hb.mono B5.out.size))
  have S6 := Lib.hid (S5.out.below hb)
  have R6 := Lib.hid (R5.out.below hb)
  have I6 := Lib.hid (I5.out.below hb)
  clear hb B5 S5 R5 I5
  have LWE := Lib.hid E6.out.lt
  obtain ⟨rfl, hc1⟩ := HN1.out
  have G6 := Lib.hid (show GR be wa6.heap.size wa6 A1 0 c1 [] (some ⟨be, 0, none⟩) 0 0 (Gt 0) from gr_start E6.out (Nat.le_refl _) (by unfold maxLen; omega))
  have HBE := Lib.hid (show be < wa6.heap.size from E6.out.lt)
  clear E6 HN1 hc1
  have HJ0 := Lib.hid (show J f ⟨s0, n0, a0⟩ ⟨f, []⟩ 0 0 0 by rw [← HQ0.out, ← HRN.out]; exact J_start HF0.out)
  clear HQ0 HRN
  go_wp2_with fail
  go_loopw [7, 8, 9] (fun v0 v1 v2 wr => ∃ (rd : Nat) (sent : Nat) (A : Nat) (p : Nat) (s : Int) (n : Int) (x : Int) (rs : Int) (xs : List Nf) (A1 : Option Addr) (n1 : Nat) (c1 : Nat) (Ag : Option Addr) (cg : Nat) (H : Nat), v0 = .int .i64 ((sent : Int)) ∧ v1 = .slice Ag p cg ∧ v2 = .int .i64 ((rd : Int)) ∧ (J f ⟨s, n, x⟩ ⟨rs, xs⟩ A sent p) ∧ (sent ≤ tt ∧ rd ≤ 60 ∧ be < wr.heap.size) ∧ ((31 ≤ rd → A = sent ∧ p = sent ∧ (sent = tt ∨ 16 ≤ sent)) ∧ (32 ≤ rd → sent = tt)) ∧ Below w.heap.size w wr ∧ Bx 27 wr bS #[.int .i64 s, .int .i64 n, .int .i64 x] ∧ Bx 31 wr bR #[.int .i64 rs, .slice A1 n1 c1] ∧ Rd .u8 wr (0) (w.heap.size) a len cap zc ∧ GR be H wr A1 n1 c1 xs Ag p cg (Gt p)) (fun _ _ v _ => 60 - (intOf v).toNat)
  case atStart => exact ⟨0, 0, 0, 0, s0, n0, a0, f, [], A1, 0, c1, some ⟨be, 0, none⟩, 0, wa6.heap.size, rfl, rfl, rfl, HJ0.out, (by have := HBE.out; omega), ⟨fun h => by omega, fun h => by omega⟩, B6.out, S6.out, R6.out, I6.out, G6.out⟩
  case round =>
    obtain ⟨rd, sent, A, p, s, n, x, rs, xs, A1, n1, c1, Ag, cg, H, rfl, rfl, rfl, gHJ, gHSB, gHDN, gB7, gS7, gR7, gI7, gG7⟩ := hrel
    have B7 := Lib.hid gB7
    have S7 := Lib.hid gS7
    have R7 := Lib.hid gR7
    have I7 := Lib.hid gI7
    have G7 := Lib.hid gG7
    have HJ := Lib.hid gHJ
    have HSB := Lib.hid gHSB
    have HDN := Lib.hid gHDN
    clear gB7 gS7 gR7 gI7 gG7 gHJ gHSB gHDN
    have LUS7 := Lib.hid S7.out.lt
    have LUR7 := Lib.hid R7.out.lt
    have SBR7 := Lib.hid B7.out.size
    have hsb := HSB.out
    have htt := HTT.out
    by_cases hlt : rd < 60
    · have hlt2 : (rd : Int) < 60 := by omega
      go_wp2_with fail
      have HBW := Lib.hid hsb.2.2
      clear hsb htt
      go_loopw [7] (fun v0 wr => ∃ (se : Nat) (sa : Int) (na : Int) (xa : Int), v0 = .int .i64 ((se : Int)) ∧ (J f ⟨sa, na, xa⟩ ⟨rs, xs⟩ A se p) ∧ (se ≤ tt ∧ sent ≤ se ∧ be < wr.heap.size) ∧ Below w.heap.size w wr ∧ Bx 27 wr bS #[.int .i64 sa, .int .i64 na, .int .i64 xa] ∧ Bx 31 wr bR #[.int .i64 rs, .slice A1 n1 c1] ∧ Rd .u8 wr (0) (w.heap.size) a len cap zc ∧ GR be H wr A1 n1 c1 xs Ag p cg (Gt p)) (fun v _ => tt - (intOf v).toNat)
      case atStart => exact ⟨sent, s, n, x, rfl, HJ.out, by have := HSB.out; have hlQ := LQ.out; have hlS := LS.out; have hlR := LR.out; have hlE := LE.out; have hs0 := SS1.out; have hs1 := LWQ.out; have hs2 := SS2.out; have hs3 := SS3.out; have hs4 := LWS.out; have hs5 := SS4.out; have hs6 := SS5.out; have hs7 := LWR.out; have hs8 := SS6.out; have hs9 := LWE.out; have hs10 := LUS7.out; have hs11 := LUR7.out; have hs12 := SBR7.out; have hs13 := HBW.out; omega, B7.out, S7.out, R7.out, I7.out, G7.out⟩
      case round =>
        obtain ⟨se, sa, na, xa, rfl, gHJ1, gHSE, gB8, gS8, gR8, gI8, gG8⟩ := hrel
        have B8 := Lib.hid gB8
        have S8 := Lib.hid gS8
        have R8 := Lib.hid gR8
        have I8 := Lib.hid gI8
        have G8 := Lib.hid gG8
        have HJ1 := Lib.hid gHJ1
        have HSE := Lib.hid gHSE
        clear gB8 gS8 gR8 gI8 gG8 gHJ1 gHSE
        have LUS8 := Lib.hid S8.out.lt
        have LUR8 := Lib.hid R8.out.lt
        have SBR8 := Lib.hid B8.out.size
        have hse := HSE.out
        have htt := HTT.out
        have HBW1 := Lib.hid HSE.out.2.2
        by_cases hl1 : se < tt
        · have hl2 : (se : Int) < tt := by omega
          go_wp2_with (refine stw.list_load rfl 27 _ rfl (bS) rfl 27 _ S8.out Try.underlying27 rfl bs.szS ?_)
          obtain ⟨⟨⟨s2, n2, x2⟩, y2, v2⟩, hx2⟩ : ∃ q, bs.nxt (⟨sa, na, xa⟩ : Bs) = q := ⟨_, rfl⟩
          have HX2 := Lib.hid hx2
          have HO2 := Lib.hid (show (v2 = true ∧ se + 1 ≤ A + 16 ∧ J f ⟨s2, n2, x2⟩ ⟨rs, xs⟩ A (se + 1) p) ∨ (v2 = false ∧ se = A + 16) by have h1 := HJ1.out.send (by omega); rw [hx2] at h1; exact h1)
          clear hx2
          (with_reducible refine (bs.implSn sa na xa _).mono ?_)
          rintro e wa9 hp
          obtain ⟨rfl, hb⟩ := bs.nx_parts HX2.out hp
          clear hp
          have SS9 := Lib.hid hb.size
          have B9 := Lib.hid (B8.out.trans (hb.mono B8.out.size))
          have S9 := Lib.hid (S8.out.below hb)
          have R9 := Lib.hid (R8.out.below hb)
          have I9 := Lib.hid (I8.out.below hb)
          have G9 := Lib.hid (G8.out.below hb)
          clear hb  B8 S8 R8 I8 G8
          obtain ⟨bX, hbb⟩ : ∃ b, wa9.heap.size = b := ⟨_, rfl⟩
          go_upto_region 14 with fail
          generalize hW : wa9.alloc (.cells #[.int .i64 s2, .int .i64 n2, .int .i64 x2] 27) = wa10
          have LX := Lib.hid (show w.heap.size ≤ bX ∧ bS < bX ∧ bR < bX ∧ w.heap.size ≤ bX ∧ H ≤ bX by have h1 := B9.out.size; have h2S := S9.out.lt; have h2R := R9.out.lt; have h2I := I9.out.hi_; have h2G := G9.out.hi_; have h3 := hbb; omega)
          have X10 := Lib.hid (show Bx 27 wa10 bX #[.int .i64 s2, .int .i64 n2, .int .i64 x2] by rw [← hW, ← hbb]; exact Bx.made _ _ _)
          have hb : Below wa9.heap.size wa9 wa10 := by rw [← hW]; exact below_box _ _
          (try rw [hbb])
          clear hW hbb
          have SS10 := Lib.hid hb.size
          have B10 := Lib.hid (B9.out.trans (hb.mono B9.out.size))
          have S10 := Lib.hid (S9.out.below hb)
          have R10 := Lib.hid (R9.out.below hb)
          have I10 := Lib.hid (I9.out.below hb)
          have G10 := Lib.hid (G9.out.below hb)
          clear hb B9 S9 R9 I9 G9
          have LWX := Lib.hid X10.out.lt
          rcases HO2.out with ⟨rfl, ho1, hj2⟩ | ⟨rfl, ho1⟩
          · have HJ2 := Lib.hid hj2
            clear hj2 ho1
            go_wp2_with (first | (refine stw.list_load rfl 27 _ rfl (bX) rfl 27 _ X10.out Try.underlying27 rfl bs.szS ?_) | (refine stw.list_store rfl 27 _ _ rfl (bS) #[.int .i64 s2, .int .i64 n2, .int .i64 x2] rfl rfl 27 _ S10.out rfl bs.szS (bs.oneS _ _ _) ?_; intro wz11 hz))
            have SS11 := Lib.hid hz.below.size
            have B11 := Lib.hid (hz.on B10.out (by have hlQ := LQ.out; have hlS := LS.out; have hlR := LR.out; have hlE := LE.out; have hlX := LX.out; have hs0 := SS1.out; have hs1 := LWQ.out; have hs2 := SS2.out; have hs3 := SS3.out; have hs4 := LWS.out; have hs5 := SS4.out; have hs6 := SS5.out; have hs7 := LWR.out; have hs8 := SS6.out; have hs9 := LWE.out; have hs10 := LUS7.out; have hs11 := LUR7.out; have hs12 := SBR7.out; have hs13 := HBW.out; have hs14 := LUS8.out; have hs15 := LUR8.out; have hs16 := SBR8.out; have hs17 := HBW1.out; have hs18 := SS9.out; have hs19 := SS10.out; have hs20 := LWX.out; have hs21 := SS11.out; first | omega | (simp <;> omega)))
            have S11 := Lib.hid (hz.box)
            have R11 := Lib.hid (hz.keep R10.out (by have hlQ := LQ.out; have hlS := LS.out; have hlR := LR.out; have hlE := LE.out; have hlX := LX.out; have hs0 := SS1.out; have hs1 := LWQ.out; have hs2 := SS2.out; have hs3 := SS3.out; have hs4 := LWS.out; have hs5 := SS4.out; have hs6 := SS5.out; have hs7 := LWR.out; have hs8 := SS6.out; have hs9 := LWE.out; have hs10 := LUS7.out; have hs11 := LUR7.out; have hs12 := SBR7.out; have hs13 := HBW.out; have hs14 := LUS8.out; have hs15 := LUR8.out; have hs16 := SBR8.out; have hs17 := HBW1.out; have hs18 := SS9.out; have hs19 := SS10.out; have hs20 := LWX.out; have hs21 := SS11.out; first | omega | (simp <;> omega)))
            have X11 := Lib.hid (hz.keep X10.out (by have hlQ := LQ.out; have hlS := LS.out; have hlR := LR.out; have hlE := LE.out; have hlX := LX.out; have hs0 := SS1.out; have hs1 := LWQ.out; have hs2 := SS2.out; have hs3 := SS3.out; have hs4 := LWS.out; have hs5 := SS4.out; have hs6 := SS5.out; have hs7 := LWR.out; have hs8 := SS6.out; have hs9 := LWE.out; have hs10 := LUS7.out; have hs11 := LUR7.out; have hs12 := SBR7.out; have hs13 := HBW.out; have hs14 := LUS8.out; have hs15 := LUR8.out; have hs16 := SBR8.out; have hs17 := HBW1.out; have hs18 := SS9.out; have hs19 := SS10.out; have hs20 := LWX.out; have hs21 := SS11.out; first | omega | (simp <;> omega)))
            have I11 := Lib.hid (I10.out.same hz.below.size fun b h1 h2 => hz.other b (by have hlQ := LQ.out; have hlS := LS.out; have hlR := LR.out; have hlE := LE.out; have hlX := LX.out; have hs0 := SS1.out; have hs1 := LWQ.out; have hs2 := SS2.out; have hs3 := SS3.out; have hs4 := LWS.out; have hs5 := SS4.out; have hs6 := SS5.out; have hs7 := LWR.out; have hs8 := SS6.out; have hs9 := LWE.out; have hs10 := LUS7.out; have hs11 := LUR7.out; have hs12 := SBR7.out; have hs13 := HBW.out; have hs14 := LUS8.out; have hs15 := LUR8.out; have hs16 := SBR8.out; have hs17 := HBW1.out; have hs18 := SS9.out; have hs19 := SS10.out; have hs20 := LWX.out; have hs21 := SS11.out; first | omega | (simp <;> omega)))
            have G11 := Lib.hid (G10.out.same hz.below.size fun b h1 h2 => hz.other b (by have hlQ := LQ.out; have hlS := LS.out; have hlR := LR.out; have hlE := LE.out; have hlX := LX.out; have hs0 := SS1.out; have hs1 := LWQ.out; have hs2 := SS2.out; have hs3 := SS3.out; have hs4 := LWS.out; have hs5 := SS4.out; have hs6 := SS5.out; have hs7 := LWR.out; have hs8 := SS6.out; have hs9 := LWE.out; have hs10 := LUS7.out; have hs11 := LUR7.out; have hs12 := SBR7.out; have hs13 := HBW.out; have hs14 := LUS8.out; have hs15 := LUR8.out; have hs16 := SBR8.out; have hs17 := HBW1.out; have hs18 := SS9.out; have hs19 := SS10.out; have hs20 := LWX.out; have hs21 := SS11.out; first | omega | (simp <;> omega)))
            clear hz B10 S10 R10 X10 I10 G10
            go_roundw
            case rel => exact ⟨se + 1, s2, n2, x2, by go_num, HJ2.out, by have hlQ := LQ.out; have hlS := LS.out; have hlR := LR.out; have hlE := LE.out; have hlX := LX.out; have hs0 := SS1.out; have hs1 := LWQ.out; have hs2 := SS2.out; have hs3 := SS3.out; have hs4 := LWS.out; have hs5 := SS4.out; have hs6 := SS5.out; have hs7 := LWR.out; have hs8 := SS6.out; have hs9 := LWE.out; have hs10 := LUS7.out; have hs11 := LUR7.out; have hs12 := SBR7.out; have hs13 := HBW.out; have hs14 := LUS8.out; have hs15 := LUR8.out; have hs16 := SBR8.out; have hs17 := HBW1.out; have hs18 := SS9.out; have hs19 := SS10.out; have hs20 := LWX.out; have hs21 := SS11.out; omega, B11.out, S11.out, R11.out, I11.out, G11.out⟩
            case measure => simp [intOf]; omega
          · have HSX := Lib.hid (show se = tt ∨ se = A + 16 from .inr ho1)
            clear ho1 hl1 hl2 hse htt HO2
            go_wp2_with (refine stw.list_load rfl 27 _ rfl (bS) rfl 27 _ S10.out Try.underlying27 rfl bs.szS ?_)
            (with_reducible refine (bs.implOs sa na xa _).mono ?_)
            rintro e wa11 ⟨A3, k3, c3, rfl, ho, hb⟩
            obtain ⟨l0, l1, hl01, hoo⟩ : ∃ l0 l1, be < l0 ∧ Ow 3 .i64 wa11 l0 l1 A3 k3 c3 (outs (⟨sa, na, xa⟩ : Bs)) := ⟨_, _, (by have hlQ := LQ.out; have hlS := LS.out; have hlR := LR.out; have hlE := LE.out; have hlX := LX.out; have hs0 := SS1.out; have hs1 := LWQ.out; have hs2 := SS2.out; have hs3 := SS3.out; have hs4 := LWS.out; have hs5 := SS4.out; have hs6 := SS5.out; have hs7 := LWR.out; have hs8 := SS6.out; have hs9 := LWE.out; have hs10 := LUS7.out; have hs11 := LUR7.out; have hs12 := SBR7.out; have hs13 := HBW.out; have hs14 := LUS8.out; have hs15 := LUR8.out; have hs16 := SBR8.out; have hs17 := HBW1.out; have hs18 := SS9.out; have hs19 := SS10.out; have hs20 := LWX.out; omega), ho⟩
            clear ho
            have HL01 := Lib.hid hl01
            clear hl01
            have SS11 := Lib.hid hb.size
            have B11 := Lib.hid (B10.out.trans (hb.mono B10.out.size))
            have S11 := Lib.hid (S10.out.below hb)
            have R11 := Lib.hid (R10.out.below hb)
            have I11 := Lib.hid (I10.out.below hb)
            have G11 := Lib.hid (G10.out.below hb)
            clear hb B10 S10 R10 I10 G10
            have L11 := Lib.hid hoo
            have LNL := Lib.hid hoo.len
            have HK3 := Lib.hid (show k3 ≤ 16 by have h1 := bs.outs_len (⟨sa, na, xa⟩ : Bs); have h2 := LNL.out; omega)
            clear hoo
            go_wp2_with fail
            go_loopw [8, 14] (fun v0 v1 wr => ∃ (i : Nat) (pp : Nat) (r2 : Int) (ys : List Nf) (A4 : Option Addr) (n4 : Nat) (c4 : Nat) (Ag4 : Option Addr) (cg4 : Nat) (H4 : Nat), v0 = .slice Ag4 pp cg4 ∧ v1 = .int .i64 ((i : Int)) ∧ (J f ⟨sa, na, xa⟩ ⟨r2, ys⟩ A se pp) ∧ (i ≤ k3 ∧ be < wr.heap.size) ∧ (30 ≤ rd → ∀ (q : Nat) (y : Int), q < i → (outs (⟨sa, na, xa⟩ : Bs))[q]? = some y → ∀ k : Nat, y = fr f k → k < se → A ≤ k → Rc ⟨r2, ys⟩ pp k) ∧ Below w.heap.size w wr ∧ Bx 27 wr bS #[.int .i64 sa, .int .i64 na, .int .i64 xa] ∧ Bx 31 wr bR #[.int .i64 r2, .slice A4 n4 c4] ∧ Rd .u8 wr (0) (w.heap.size) a len cap zc ∧ GR be H4 wr A4 n4 c4 ys Ag4 pp cg4 (Gt pp) ∧ Ow 3 .i64 wr (l0) (l1) A3 k3 c3 (outs (⟨sa, na, xa⟩ : Bs))) (fun _ v _ => k3 - (intOf v).toNat)
            case atStart => exact ⟨0, p, rs, xs, A1, n1, c1, Ag, cg, H, rfl, rfl, HJ1.out, by have hlQ := LQ.out; have hlS := LS.out; have hlR := LR.out; have hlE := LE.out; have hlX := LX.out; have hs0 := SS1.out; have hs1 := LWQ.out; have hs2 := SS2.out; have hs3 := SS3.out; have hs4 := LWS.out; have hs5 := SS4.out; have hs6 := SS5.out; have hs7 := LWR.out; have hs8 := SS6.out; have hs9 := LWE.out; have hs10 := LUS7.out; have hs11 := LUR7.out; have hs12 := SBR7.out; have hs13 := HBW.out; have hs14 := LUS8.out; have hs15 := LUR8.out; have hs16 := SBR8.out; have hs17 := HBW1.out; have hs18 := SS9.out; have hs19 := SS10.out; have hs20 := LWX.out; have hs21 := SS11.out; have hs22 := HL01.out; omega, fun _ q y hq => by omega, B11.out, S11.out, R11.out, I11.out, G11.out, L11.out⟩
            case round =>
              obtain ⟨i, pp, r2, ys, A4, n4, c4, Ag4, cg4, H4, rfl, rfl, gHJ3, gHI, gHRC, gB12, gS12, gR12, gI12, gG12, gL12⟩ := hrel
              have B12 := Lib.hid gB12
              have S12 := Lib.hid gS12
              have R12 := Lib.hid gR12
              have I12 := Lib.hid gI12
              have G12 := Lib.hid gG12
              have L12 := Lib.hid gL12
              have HJ3 := Lib.hid gHJ3
              have HI := Lib.hid gHI
              have HRC := Lib.hid gHRC
              clear gB12 gS12 gR12 gI12 gG12 gL12 gHJ3 gHI gHRC
              have LUS12 := Lib.hid S12.out.lt
              have LUR12 := Lib.hid R12.out.lt
              have SBR12 := Lib.hid B12.out.size
              have hi9 := HI.out.1
              have hk16 := HK3.out
              have HBW3 := Lib.hid HI.out.2
              by_cases hik : i < k3
              · have hik2 : (i : Int) < k3 := by omega
                obtain ⟨g3, rfl, hgl⟩ := own.own_some L12.out (by omega)
                clear hgl
                obtain ⟨y1, hy1⟩ : ∃ y, (outs (⟨sa, na, xa⟩ : Bs)).getD i 0 = y := ⟨_, rfl⟩
                have HGD := Lib.hid hy1
                have HGE := Lib.hid (show (outs (⟨sa, na, xa⟩ : Bs))[i]? = some y1 by have h1 := LNL.out; rw [← hy1, List.getD_eq_getElem?_getD, List.getElem?_eq_getElem (by omega)]; rfl)
                clear hy1
                obtain ⟨k, hk1, hk2, hk3, hk4⟩ := HJ3.out.out (List.mem_of_getElem? HGE.out)
                have HKA := Lib.hid (And.intro hk1 (And.intro hk2 (And.intro hk3 hk4)))
                have HKT := Lib.hid (show k < 20 by have h1 := HSE.out; have h2 := HTT.out; omega)
                clear hk1 hk2 hk3 hk4
                by_cases h30 : rd < 30
                · have h30i : (rd : Int) < 30 := by omega
                  obtain ⟨v, hv⟩ : ∃ v, lawAt.atv zc len (rd * 7 + i) = v := ⟨_, rfl⟩
                  have HV := Lib.hid hv
                  have hvr : 0 ≤ v ∧ v ≤ 255 := by rw [← hv]; exact lawAt.atv_in I12.out _
                  clear hv
                  have hwa : IntKind.i64.wrap ((rd : Int) * 7) = (rd : Int) * 7 := IntWalk.i64_in _ (by omega)
                  have hwb : IntKind.i64.wrap ((rd : Int) * 7 + (i : Int)) = (rd : Int) * 7 + (i : Int) := IntWalk.i64_in _ (by omega)
                  go_wp2_with fail
                  (with_reducible refine (lawAt.at_v (rd * 7 + i) ((rd : Int) * 7 + (i : Int)) (by first | rfl | omega) (by omega) v a len cap _ _ zc _ I12.out HBG.out HV.out).mono ?_)
                  rintro e wq ⟨rfl, rfl⟩
                  clear hwa hwb
                  by_cases hm3 : v % 3 = 0
                  · have hmt : v.tmod 3 = 0 := by rw [Int.tmod_eq_emod_of_nonneg (by omega)]; exact hm3
                    have hb3 : (v.tmod 3 == 0) = true := by rw [hmt]; rfl
                    have hb4 : (v % 3 == 0) = true := by rw [hm3]; rfl
                    go_wp2_with fail
                    go_roundw
                    case rel => exact ⟨i + 1, pp, r2, ys, A4, n4, c4, Ag4, cg4, H4, rfl, by go_num, HJ3.out, by have hlQ := LQ.out; have hlS := LS.out; have hlR := LR.out; have hlE := LE.out; have hlX := LX.out; have hs0 := SS1.out; have hs1 := LWQ.out; have hs2 := SS2.out; have hs3 := SS3.out; have hs4 := LWS.out; have hs5 := SS4.out; have hs6 := SS5.out; have hs7 := LWR.out; have hs8 := SS6.out; have hs9 := LWE.out; have hs10 := LUS7.out; have hs11 := LUR7.out; have hs12 := SBR7.out; have hs13 := HBW.out; have hs14 := LUS8.out; have hs15 := LUR8.out; have hs16 := SBR8.out; have hs17 := HBW1.out; have hs18 := SS9.out; have hs19 := SS10.out; have hs20 := LWX.out; have hs21 := SS11.out; have hs22 := HL01.out; have hs23 := LUS12.out; have hs24 := LUR12.out; have hs25 := SBR12.out; have hs26 := HBW3.out; omega, fun h9 => absurd h9 (by omega), B12.out, S12.out, R12.out, I12.out, G12.out, L12.out⟩
                    case measure => simp [intOf]; omega
                  · have hmt : v.tmod 3 ≠ 0 := by rw [Int.tmod_eq_emod_of_nonneg (by omega)]; exact hm3
                    have hb3 : (v.tmod 3 == 0) = false := beq_false_of_ne hmt
                    have hb4 : (v % 3 == 0) = false := beq_false_of_ne hm3
                    have cL : wr.cell? ⟨g3, i, none⟩ = some (.int .i64 y1) := by rw [← HGD.out]; exact own.cell_of L12.out hik
                    have hfr := bs.fr_rng f k
                    have hf0 := HF0.out
                    have hwd : IntKind.i64.wrap (y1 - f) = y1 - f := IntWalk.i64_in _ (by rw [HKA.out.2.2.1]; omega)
                    go_wp2_with fail
                    clear cL hfr hf0 hwd hm3 hmt hb3 hb4 h30i hvr
                    (with_reducible refine (hsh.specMod (y1 - f) 4096 (by omega) _).mono ?_)
                    rw [HKA.out.2.2.2]
                    rintro e wq ⟨rfl, rfl⟩
                    have hw8 : IntKind.u8.wrap (k : Int) = (k : Int) := IntWalk.u8_in _ (by have := HKT.out; omega)
                    go_upto_region 23 with fail
                    obtain ⟨⟨⟨r3, zs⟩, ll⟩, hxr⟩ : ∃ q, ro.recv (⟨r2, ys⟩ : Rob) y1 [(k : Int)] = q := ⟨_, rfl⟩
                    have HXR := Lib.hid hxr
                    obtain ⟨nn, hj4, hl4, hrc4, hmo4⟩ := HJ3.out.arr HKA.out.1 HKA.out.2.1
                    rw [← HKA.out.2.2.1, hxr] at hj4 hl4 hrc4 hmo4
                    have HJ4 := Lib.hid hj4
                    have HL4 := Lib.hid hl4
                    have HRC4 := Lib.hid hrc4
                    have HMO4 := Lib.hid hmo4
                    have HSM := Lib.hid (show ys.length ≤ 16 ∧ ∀ x ∈ ys, x.Body.length ≤ 100 from HJ3.out.small)
                    have HLG := Lib.hid G12.out.len
                    have HBR := Lib.hid (show bR < wr.heap.size ∧ bS < wr.heap.size ∧ H4 ≤ wr.heap.size ∧ be ≤ wr.heap.size ∧ l1 ≤ wr.heap.size by have h1 := R12.out.lt; have h2 := S12.out.lt; have h3 := G12.out.hi_; have h4 := L12.out.hi_; have hlQ := LQ.out; have hlS := LS.out; have hlR := LR.out; have hlE := LE.out; have hlX := LX.out; have hs0 := SS1.out; have hs1 := LWQ.out; have hs2 := SS2.out; have hs3 := SS3.out; have hs4 := LWS.out; have hs5 := SS4.out; have hs6 := SS5.out; have hs7 := LWR.out; have hs8 := SS6.out; have hs9 := LWE.out; have hs10 := LUS7.out; have hs11 := LUR7.out; have hs12 := SBR7.out; have hs13 := HBW.out; have hs14 := LUS8.out; have hs15 := LUR8.out; have hs16 := SBR8.out; have hs17 := HBW1.out; have hs18 := SS9.out; have hs19 := SS10.out; have hs20 := LWX.out; have hs21 := SS11.out; have hs22 := HL01.out; have hs23 := LUS12.out; have hs24 := LUR12.out; have hs25 := SBR12.out; have hs26 := HBW3.out; exact ⟨h1, h2, h3, by omega, h4⟩)
                    clear hxr hj4 hl4 hrc4 hmo4
                    refine reg.region_tailY (Er wr.heap.size) (fun _ _ => True) 14 155 [(13, 16)] [some [], some [], some [], some [(1, 83), (2, 84)], some [(3, 85)], some [], some [(5, 87)], some [(6, 88)], some [(0, 82), (4, 86), (7, 89)], some [(8, 90)], some [(9, 81)], some [(9, 81)], some [], some [(12, 16), (10, 91)], none] [(0, 82), (1, 83), (2, 84), (3, 85), (4, 86), (5, 87), (6, 88), (7, 89), (8, 90), (9, 81), (10, 91), (11, 92), (12, 16)]
                      (fun w' => Below wr.heap.size wr w')
                      (Rr wr.heap.size (⟨r3, zs⟩ : Rob) ll (k : Int) [(0, .agg #[.int .i64 r2, .slice A4 n4 c4]), (1, .slice (some ⟨g3, 0, none⟩) k3 c3), (2, .int .i64 ((i : Int))), (3, .pointer (some ⟨g3, i, none⟩)), (4, .int .i64 y1), (5, .int .i64 ((k : Int))), (6, .int .u8 (k : Int))])
                      (by kernel_rfl) rfl (by kernel_rfl) (by kernel_rfl) rfl
                      (fun i w1 w2 hc he => by unfold Er at he; by_cases i13 : i = 13; (rw [if_pos i13] at he; obtain ⟨q, cur, cs, _, hq, _, hp⟩ := he; exact hp.on hc hq); (rw [if_neg i13] at he; exact hc.trans (he.mono hc.size)))
                      rr_keep (fun _ _ _ _ _ _ _ _ => trivial) (own.below_drew (Below.refl _ _)) (fun _ => trivial) (by kernel_rfl) ⟨?_, ?_, ?_, ?_, ?_, ?_, ?_, ?_, ?_, ?_, ?_, ?_, ?_, ?_, trivial⟩ ?_
                    · refine fun w8 hc _  K hK => ?_
                      (try simp only [Act.put, List.setIfInBounds_toArray, List.set_cons_zero, List.set_cons_succ])
                      rw [if_pos (by rfl)]
                      refine stw.wp_load_bx 31 _ rfl (bR) rfl 31 _ (R12.out.below hc) Try.underlying31 rfl ux.szRob ?_
                      exact hK _ _ rfl (Below.refl _ _)
                    · refine fun w8 hc _  K hK => ?_
                      (try simp only [Act.put, List.setIfInBounds_toArray, List.set_cons_zero, List.set_cons_succ])
                      go_simp
                      exact hK (.slice (some ⟨g3, 0, none⟩) k3 c3) _ rfl (Below.refl _ _)
                    · refine fun w8 hc _  K hK => ?_
                      (try simp only [Act.put, List.setIfInBounds_toArray, List.set_cons_zero, List.set_cons_succ])
                      go_simp
                      exact hK (.int .i64 ((i : Int))) _ rfl (Below.refl _ _)
                    · refine fun w8 hc _ v1 h1 v2 h2 K hK => ?_
                      obtain rfl : v1 = .slice (some ⟨g3, 0, none⟩) k3 c3 := h1
                      obtain rfl : v2 = .int .i64 ((i : Int)) := h2
                      (try simp only [Act.put, List.setIfInBounds_toArray, List.set_cons_zero, List.set_cons_succ])
                      go_simp
                      exact hK (.pointer (some ⟨g3, i, none⟩)) _ rfl (Below.refl _ _)
                    · refine fun w8 hc _ v3 h3 K hK => ?_
                      obtain rfl : v3 = .pointer (some ⟨g3, i, none⟩) := h3
                      (try simp only [Act.put, List.setIfInBounds_toArray, List.set_cons_zero, List.set_cons_succ])
                      have c0 : w8.cell? ⟨g3, i, none⟩ = some (.int .i64 y1) := by rw [← HGD.out]; exact own.cell_of (L12.out.below hc) hik
                      go_simp
                      exact hK (.int .i64 y1) _ rfl (Below.refl _ _)
                    · refine fun w8 hc _  K hK => ?_
                      (try simp only [Act.put, List.setIfInBounds_toArray, List.set_cons_zero, List.set_cons_succ])
                      go_simp
                      exact hK (.int .i64 ((k : Int))) _ rfl (Below.refl _ _)
                    · refine fun w8 hc _ v5 h5 K hK => ?_
                      obtain rfl : v5 = .int .i64 ((k : Int)) := h5
                      (try simp only [Act.put, List.setIfInBounds_toArray, List.set_cons_zero, List.set_cons_succ])
                      go_simp
                      exact hK (.int .u8 (k : Int)) _ rfl (Below.refl _ _)
                    · refine fun w8 hc _ v6 h6 K hK => ?_
                      obtain rfl : v6 = .int .u8 (k : Int) := h6
                      (try simp only [Act.put, List.setIfInBounds_toArray, List.set_cons_zero, List.set_cons_succ])
                      go_simp
                      exact hK (.slice (some ⟨w8.heap.size, 0, none⟩) 1 1) _ ⟨_, rfl, Bx.made _ _ _⟩ (bx.below_box _ _)
                    · refine fun w8 hc _ v0 h0 v4 h4 v7 h7 K hK => ?_
                      obtain rfl : v0 = .agg #[.int .i64 r2, .slice A4 n4 c4] := h0
                      obtain rfl : v4 = .int .i64 y1 := h4
                      obtain ⟨q7, rfl, hq7⟩ : To (k : Int) v7 w8 := h7
                      (try simp only [Act.put, List.setIfInBounds_toArray, List.set_cons_zero, List.set_cons_succ])
                      go_simp
                      (with_reducible refine (ro.implRc r2 ys _ _ A4 n4 c4 y1 [(k : Int)] _ _ (some ⟨q7, 0, none⟩) 1 1 _ (G12.out.below hc).rr (by have h1 := HLG.out.1; have h2 := HSM.out.1; omega) (fun x hx => by have := HSM.out.2 x hx; omega) (rd_one hq7 (by have := HKT.out; omega))).mono ?_)
                      rintro e w3 hp
                      rw [HXR.out] at hp
                      obtain ⟨A5, n5, c5, f5, A6, n6, c6, f6, rfl, ho5, ho6, _, hb⟩ := ro.r2_parts hp
                      exact hK _ _ ⟨A5, n5, c5, f5, A6, n6, c6, f6, rfl, ho5.lower hc.size, ho6.lower hc.size⟩ hb
                    · refine fun w8 hc _ v8 h8 K hK => ?_
                      obtain ⟨A5, n5, c5, f5, A6, n6, c6, f6, rfl, hN5, hO6⟩ : Tp wr.heap.size (⟨r3, zs⟩ : Rob) ll v8 w8 := h8
                      (try simp only [Act.put, List.setIfInBounds_toArray, List.set_cons_zero, List.set_cons_succ])
                      go_simp
                      exact hK _ _ ⟨A5, n5, c5, f5, A6, n6, c6, f6, rfl, hN5, hO6⟩ (Below.refl _ _)
                    · refine fun w8 hc _ v9 h9 K hK => ?_
                      obtain ⟨A5, n5, c5, f5, A6, n6, c6, f6, rfl, hN5, hO6⟩ : Tp wr.heap.size (⟨r3, zs⟩ : Rob) ll v9 w8 := h9
                      (try simp only [Act.put, List.setIfInBounds_toArray, List.set_cons_zero, List.set_cons_succ])
                      go_simp
                      exact hK _ _ ⟨A5, n5, c5, f5, rfl, hN5⟩ (Below.refl _ _)
                    · refine fun w8 hc _ v9 h9 K hK => ?_
                      obtain ⟨A5, n5, c5, f5, A6, n6, c6, f6, rfl, hN5, hO6⟩ : Tp wr.heap.size (⟨r3, zs⟩ : Rob) ll v9 w8 := h9
                      (try simp only [Act.put, List.setIfInBounds_toArray, List.set_cons_zero, List.set_cons_succ])
                      go_simp
                      exact hK _ _ ⟨A6, n6, c6, f6, rfl, hO6⟩ (Below.refl _ _)
                    · refine fun w8 hc _  K hK => ?_
                      (try simp only [Act.put, List.setIfInBounds_toArray, List.set_cons_zero, List.set_cons_succ])
                      rw [if_pos (by rfl)]
                      have hge := hc.size
                      go_simp
                      exact hK (.pointer (some ⟨w8.heap.size, 0, none⟩)) _ ⟨w8.heap.size, #[.int .i64 0, .slice none 0 0], rfl, hge, rfl, Bx.made _ _ _⟩ (bx.below_box _ _)
                    · refine fun w8 hc _ v12 h12 v10 h10 K hK => ?_
                      obtain ⟨q12, cs12, rfl, hq12, hs12, hX12⟩ : Tq wr.heap.size v12 w8 := h12
                      obtain ⟨A5, n5, c5, f5, rfl, hN5⟩ : Ta wr.heap.size (⟨r3, zs⟩ : Rob) v10 w8 := h10
                      (try simp only [Act.put, List.setIfInBounds_toArray, List.set_cons_zero, List.set_cons_succ])
                      refine stw.step_store rfl 31 _ _ rfl (q12) #[.int .i64 r3, .slice A5 n5 c5] rfl rfl 31 _ hX12 (by rw [hs12]; rfl) ux.szRob (ux.oneRob _ _ _ _) ?_
                      intro wz hz
                      have hT : Tx wr.heap.size (⟨r3, zs⟩ : Rob) (.pointer (some ⟨q12, 0, none⟩)) wz := ⟨q12, A5, n5, c5, f5, rfl, hq12, hz.box, oo_put hN5 hz (not_rowN hX12 (by decide) (by decide) hN5.1)⟩
                      have hE : Er wr.heap.size 13 w8 wz := ⟨q12, cs12, #[.int .i64 r3, .slice A5 n5 c5], rfl, hq12, hX12, hz⟩
                      exact hK undef _ hT hE
                    refine fun wx7 hc v0 h0 v1 h1 v2 h2 v3 h3 v4 h4 v5 h5 v6 h6 v7 h7 v8 h8 v9 h9 v10 h10 v11 h11 v12 h12 => ?_
                    obtain rfl : v0 = .agg #[.int .i64 r2, .slice A4 n4 c4] := h0
                    obtain rfl : v1 = .slice (some ⟨g3, 0, none⟩) k3 c3 := h1
                    obtain rfl : v2 = .int .i64 ((i : Int)) := h2
                    obtain rfl : v3 = .pointer (some ⟨g3, i, none⟩) := h3
                    obtain rfl : v4 = .int .i64 y1 := h4
                    obtain rfl : v5 = .int .i64 ((k : Int)) := h5
                    obtain rfl : v6 = .int .u8 (k : Int) := h6
                    obtain ⟨q7, rfl, hq7⟩ : To (k : Int) v7 wx7 := h7
                    obtain ⟨A5, n5, c5, f5, A6, n6, c6, f6, rfl, hN5, hO6⟩ : Tp wr.heap.size (⟨r3, zs⟩ : Rob) ll v8 wx7 := h8
                    obtain ⟨A5, n5, c5, f5, A6, n6, c6, f6, rfl, hN5, hO6⟩ : Tp wr.heap.size (⟨r3, zs⟩ : Rob) ll v9 wx7 := h9
                    obtain ⟨A5, n5, c5, f5, rfl, hN5⟩ : Ta wr.heap.size (⟨r3, zs⟩ : Rob) v10 wx7 := h10
                    obtain ⟨A6, n6, c6, f6, rfl, hO6⟩ : Ts wr.heap.size ll v11 wx7 := h11
                    obtain ⟨q12, cs12, rfl, hq12, hs12, hX12⟩ : Tq wr.heap.size v12 wx7 := h12
                    (try simp only [reg.Obs])
                    intro hrf
                    simp only [Act.put, List.setIfInBounds_toArray, List.set_cons_zero, List.set_cons_succ] at hrf ⊢
                    have g13 := hrf (13, 16) (by simp) rfl
                    clear hrf
                    simp only [List.drop_succ_cons, List.drop_zero]
                    clear hN5
                    obtain ⟨q13, A5, n5, c5, f5, e13, hq13, hX13, hN5⟩ : Tx wr.heap.size (⟨r3, zs⟩ : Rob) (.pointer (some ⟨q12, 0, none⟩)) wx7 := g13
                    obtain rfl : q12 = q13 := by injection e13 with e13; injection e13 with e13; injection e13
                    have HX13 := Lib.hid hX13
                    have HQ13 := Lib.hid hq13
                    have HN5 := Lib.hid hN5.rd
                    have HO6 := Lib.hid hO6.rd
                    have hb := hc
                    clear hc hX13 hq13 hN5 hO6 hq12 hs12 hX12 e13 hw8
                    have SS13 := Lib.hid hb.size
                    have B13 := Lib.hid (B12.out.trans (hb.mono B12.out.size))
                    have S13 := Lib.hid (S12.out.below hb)
                    have R13 := Lib.hid (R12.out.below hb)
                    have I13 := Lib.hid (I12.out.below hb)
                    have G13 := Lib.hid (G12.out.below hb)
                    have L13 := Lib.hid (L12.out.below hb)
                    clear hb B12 S12 R12 I12 G12 L12
                    have X13 := HX13
                    have N13 := HN5
                    have O13 := HO6
                    clear HX13 HN5 HO6
                    have HX7 := Lib.hid (show wr.heap.size ≤ wx7.heap.size from SS13.out)
                    go_upto_region 24 with fail
                    go_upto_region 25 with (first | (refine stw.list_load rfl 31 _ rfl (q12) rfl 31 _ X13.out Try.underlying31 rfl ux.szRob ?_) | (refine stw.list_store rfl 31 _ _ rfl (bR) #[.int .i64 r3, .slice A5 n5 c5] rfl rfl 31 _ R13.out rfl ux.szRob (ux.oneRob _ _ _ _) ?_; intro wz14 hz))
                    have SS14 := Lib.hid hz.below.size
                    have B14 := Lib.hid (hz.on B13.out (by have hlQ := LQ.out; have hlS := LS.out; have hlR := LR.out; have hlE := LE.out; have hlX := LX.out; have hs0 := SS1.out; have hs1 := LWQ.out; have hs2 := SS2.out; have hs3 := SS3.out; have hs4 := LWS.out; have hs5 := SS4.out; have hs6 := SS5.out; have hs7 := LWR.out; have hs8 := SS6.out; have hs9 := LWE.out; have hs10 := LUS7.out; have hs11 := LUR7.out; have hs12 := SBR7.out; have hs13 := HBW.out; have hs14 := LUS8.out; have hs15 := LUR8.out; have hs16 := SBR8.out; have hs17 := HBW1.out; have hs18 := SS9.out; have hs19 := SS10.out; have hs20 := LWX.out; have hs21 := SS11.out; have hs22 := HL01.out; have hs23 := LUS12.out; have hs24 := LUR12.out; have hs25 := SBR12.out; have hs26 := HBW3.out; have hs27 := SS13.out; have hs28 := HQ13.out; have hs29 := HBR.out; have hs30 := SS14.out; first | omega | (simp <;> omega)))
                    have S14 := Lib.hid (hz.keep S13.out (by have hlQ := LQ.out; have hlS := LS.out; have hlR := LR.out; have hlE := LE.out; have hlX := LX.out; have hs0 := SS1.out; have hs1 := LWQ.out; have hs2 := SS2.out; have hs3 := SS3.out; have hs4 := LWS.out; have hs5 := SS4.out; have hs6 := SS5.out; have hs7 := LWR.out; have hs8 := SS6.out; have hs9 := LWE.out; have hs10 := LUS7.out; have hs11 := LUR7.out; have hs12 := SBR7.out; have hs13 := HBW.out; have hs14 := LUS8.out; have hs15 := LUR8.out; have hs16 := SBR8.out; have hs17 := HBW1.out; have hs18 := SS9.out; have hs19 := SS10.out; have hs20 := LWX.out; have hs21 := SS11.out; have hs22 := HL01.out; have hs23 := LUS12.out; have hs24 := LUR12.out; have hs25 := SBR12.out; have hs26 := HBW3.out; have hs27 := SS13.out; have hs28 := HQ13.out; have hs29 := HBR.out; have hs30 := SS14.out; first | omega | (simp <;> omega)))
                    have R14 := Lib.hid (hz.box)
                    have X14 := Lib.hid (hz.keep X13.out (by have hlQ := LQ.out; have hlS := LS.out; have hlR := LR.out; have hlE := LE.out; have hlX := LX.out; have hs0 := SS1.out; have hs1 := LWQ.out; have hs2 := SS2.out; have hs3 := SS3.out; have hs4 := LWS.out; have hs5 := SS4.out; have hs6 := SS5.out; have hs7 := LWR.out; have hs8 := SS6.out; have hs9 := LWE.out; have hs10 := LUS7.out; have hs11 := LUR7.out; have hs12 := SBR7.out; have hs13 := HBW.out; have hs14 := LUS8.out; have hs15 := LUR8.out; have hs16 := SBR8.out; have hs17 := HBW1.out; have hs18 := SS9.out; have hs19 := SS10.out; have hs20 := LWX.out; have hs21 := SS11.out; have hs22 := HL01.out; have hs23 := LUS12.out; have hs24 := LUR12.out; have hs25 := SBR12.out; have hs26 := HBW3.out; have hs27 := SS13.out; have hs28 := HQ13.out; have hs29 := HBR.out; have hs30 := SS14.out; first | omega | (simp <;> omega)))
                    have I14 := Lib.hid (I13.out.same hz.below.size fun b h1 h2 => hz.other b (by have hlQ := LQ.out; have hlS := LS.out; have hlR := LR.out; have hlE := LE.out; have hlX := LX.out; have hs0 := SS1.out; have hs1 := LWQ.out; have hs2 := SS2.out; have hs3 := SS3.out; have hs4 := LWS.out; have hs5 := SS4.out; have hs6 := SS5.out; have hs7 := LWR.out; have hs8 := SS6.out; have hs9 := LWE.out; have hs10 := LUS7.out; have hs11 := LUR7.out; have hs12 := SBR7.out; have hs13 := HBW.out; have hs14 := LUS8.out; have hs15 := LUR8.out; have hs16 := SBR8.out; have hs17 := HBW1.out; have hs18 := SS9.out; have hs19 := SS10.out; have hs20 := LWX.out; have hs21 := SS11.out; have hs22 := HL01.out; have hs23 := LUS12.out; have hs24 := LUR12.out; have hs25 := SBR12.out; have hs26 := HBW3.out; have hs27 := SS13.out; have hs28 := HQ13.out; have hs29 := HBR.out; have hs30 := SS14.out; first | omega | (simp <;> omega)))
                    have G14 := Lib.hid (G13.out.same hz.below.size fun b h1 h2 => hz.other b (by have hlQ := LQ.out; have hlS := LS.out; have hlR := LR.out; have hlE := LE.out; have hlX := LX.out; have hs0 := SS1.out; have hs1 := LWQ.out; have hs2 := SS2.out; have hs3 := SS3.out; have hs4 := LWS.out; have hs5 := SS4.out; have hs6 := SS5.out; have hs7 := LWR.out; have hs8 := SS6.out; have hs9 := LWE.out; have hs10 := LUS7.out; have hs11 := LUR7.out; have hs12 := SBR7.out; have hs13 := HBW.out; have hs14 := LUS8.out; have hs15 := LUR8.out; have hs16 := SBR8.out; have hs17 := HBW1.out; have hs18 := SS9.out; have hs19 := SS10.out; have hs20 := LWX.out; have hs21 := SS11.out; have hs22 := HL01.out; have hs23 := LUS12.out; have hs24 := LUR12.out; have hs25 := SBR12.out; have hs26 := HBW3.out; have hs27 := SS13.out; have hs28 := HQ13.out; have hs29 := HBR.out; have hs30 := SS14.out; first | omega | (simp <;> omega)))
                    have L14 := Lib.hid (L13.out.same hz.below.size fun b h1 h2 => hz.other b (by have hlQ := LQ.out; have hlS := LS.out; have hlR := LR.out; have hlE := LE.out; have hlX := LX.out; have hs0 := SS1.out; have hs1 := LWQ.out; have hs2 := SS2.out; have hs3 := SS3.out; have hs4 := LWS.out; have hs5 := SS4.out; have hs6 := SS5.out; have hs7 := LWR.out; have hs8 := SS6.out; have hs9 := LWE.out; have hs10 := LUS7.out; have hs11 := LUR7.out; have hs12 := SBR7.out; have hs13 := HBW.out; have hs14 := LUS8.out; have hs15 := LUR8.out; have hs16 := SBR8.out; have hs17 := HBW1.out; have hs18 := SS9.out; have hs19 := SS10.out; have hs20 := LWX.out; have hs21 := SS11.out; have hs22 := HL01.out; have hs23 := LUS12.out; have hs24 := LUR12.out; have hs25 := SBR12.out; have hs26 := HBW3.out; have hs27 := SS13.out; have hs28 := HQ13.out; have hs29 := HBR.out; have hs30 := SS14.out; first | omega | (simp <;> omega)))
                    have N14 := Lib.hid (N13.out.same hz.below.size fun b h1 h2 => hz.other b (by have hlQ := LQ.out; have hlS := LS.out; have hlR := LR.out; have hlE := LE.out; have hlX := LX.out; have hs0 := SS1.out; have hs1 := LWQ.out; have hs2 := SS2.out; have hs3 := SS3.out; have hs4 := LWS.out; have hs5 := SS4.out; have hs6 := SS5.out; have hs7 := LWR.out; have hs8 := SS6.out; have hs9 := LWE.out; have hs10 := LUS7.out; have hs11 := LUR7.out; have hs12 := SBR7.out; have hs13 := HBW.out; have hs14 := LUS8.out; have hs15 := LUR8.out; have hs16 := SBR8.out; have hs17 := HBW1.out; have hs18 := SS9.out; have hs19 := SS10.out; have hs20 := LWX.out; have hs21 := SS11.out; have hs22 := HL01.out; have hs23 := LUS12.out; have hs24 := LUR12.out; have hs25 := SBR12.out; have hs26 := HBW3.out; have hs27 := SS13.out; have hs28 := HQ13.out; have hs29 := HBR.out; have hs30 := SS14.out; first | omega | (simp <;> omega)))
                    have O14 := Lib.hid (O13.out.same hz.below.size fun b h1 h2 => hz.other b (by have hlQ := LQ.out; have hlS := LS.out; have hlR := LR.out; have hlE := LE.out; have hlX := LX.out; have hs0 := SS1.out; have hs1 := LWQ.out; have hs2 := SS2.out; have hs3 := SS3.out; have hs4 := LWS.out; have hs5 := SS4.out; have hs6 := SS5.out; have hs7 := LWR.out; have hs8 := SS6.out; have hs9 := LWE.out; have hs10 := LUS7.out; have hs11 := LUR7.out; have hs12 := SBR7.out; have hs13 := HBW.out; have hs14 := LUS8.out; have hs15 := LUR8.out; have hs16 := SBR8.out; have hs17 := HBW1.out; have hs18 := SS9.out; have hs19 := SS10.out; have hs20 := LWX.out; have hs21 := SS11.out; have hs22 := HL01.out; have hs23 := LUS12.out; have hs24 := LUR12.out; have hs25 := SBR12.out; have hs26 := HBW3.out; have hs27 := SS13.out; have hs28 := HQ13.out; have hs29 := HBR.out; have hs30 := SS14.out; first | omega | (simp <;> omega)))
                    clear hz B13 S13 R13 X13 I13 G13 L13 N13 O13
                    obtain ⟨rfl⟩ : PLift (ll = (List.range nn).map (one pp)) := ⟨HL4.out⟩
                    have HNN := Lib.hid (show n6 = nn by obtain ⟨_, _, _, e9, h9, _⟩ := O14.out; injection e9 with _ e9 _; rw [e9, ← h9]; simp)
                    have HPP := Lib.hid (show pp ≤ 20 by have h1 := HJ3.out.hA; have h2 := HJ3.out.le; omega)
                    have HNL := Lib.hid (show nn ≤ 20 by have h1 := HJ4.out.hA; have h2 := HJ4.out.le; omega)
                    go_wp2_with (at_builtin; refine list_gr rfl _ _ rfl rfl rfl G14.out HBR.out.2.2.1 HBR.out.2.2.2.1 N14.out O14.out N14.out.hi_ HX7.out (by have h1 := HNN.out; have h2 := HPP.out; have h3 := HNL.out; omega) ?_; intro A7 c7 w7 hg7 hk7)
                    have HG7 := Lib.hid hg7
                    have HK7 := Lib.hid hk7
                    clear hg7 hk7
                    have HQB := Lib.hid G14.out.blk
                    have B15 := Lib.hid (B14.out.trans (ux.ks_bel HK7.out (fun q hq => by have h9 := HQB.out q hq; have hlQ := LQ.out; have hlS := LS.out; have hlR := LR.out; have hlE := LE.out; have hlX := LX.out; have hs0 := SS1.out; have hs1 := LWQ.out; have hs2 := SS2.out; have hs3 := SS3.out; have hs4 := LWS.out; have hs5 := SS4.out; have hs6 := SS5.out; have hs7 := LWR.out; have hs8 := SS6.out; have hs9 := LWE.out; have hs10 := LUS7.out; have hs11 := LUR7.out; have hs12 := SBR7.out; have hs13 := HBW.out; have hs14 := LUS8.out; have hs15 := LUR8.out; have hs16 := SBR8.out; have hs17 := HBW1.out; have hs18 := SS9.out; have hs19 := SS10.out; have hs20 := LWX.out; have hs21 := SS11.out; have hs22 := HL01.out; have hs23 := LUS12.out; have hs24 := LUR12.out; have hs25 := SBR12.out; have hs26 := HBW3.out; have hs27 := SS13.out; have hs28 := HQ13.out; have hs29 := HBR.out; have hs30 := SS14.out; omega) B14.out.size))
                    have S15 := Lib.hid (ux.bx_ks S14.out HK7.out (fun hm => by have h9 := HQB.out _ hm; have hlQ := LQ.out; have hlS := LS.out; have hlR := LR.out; have hlE := LE.out; have hlX := LX.out; have hs0 := SS1.out; have hs1 := LWQ.out; have hs2 := SS2.out; have hs3 := SS3.out; have hs4 := LWS.out; have hs5 := SS4.out; have hs6 := SS5.out; have hs7 := LWR.out; have hs8 := SS6.out; have hs9 := LWE.out; have hs10 := LUS7.out; have hs11 := LUR7.out; have hs12 := SBR7.out; have hs13 := HBW.out; have hs14 := LUS8.out; have hs15 := LUR8.out; have hs16 := SBR8.out; have hs17 := HBW1.out; have hs18 := SS9.out; have hs19 := SS10.out; have hs20 := LWX.out; have hs21 := SS11.out; have hs22 := HL01.out; have hs23 := LUS12.out; have hs24 := LUR12.out; have hs25 := SBR12.out; have hs26 := HBW3.out; have hs27 := SS13.out; have hs28 := HQ13.out; have hs29 := HBR.out; have hs30 := SS14.out; omega))
                    have R15 := Lib.hid (ux.bx_ks R14.out HK7.out (fun hm => by have h9 := HQB.out _ hm; have hlQ := LQ.out; have hlS := LS.out; have hlR := LR.out; have hlE := LE.out; have hlX := LX.out; have hs0 := SS1.out; have hs1 := LWQ.out; have hs2 := SS2.out; have hs3 := SS3.out; have hs4 := LWS.out; have hs5 := SS4.out; have hs6 := SS5.out; have hs7 := LWR.out; have hs8 := SS6.out; have hs9 := LWE.out; have hs10 := LUS7.out; have hs11 := LUR7.out; have hs12 := SBR7.out; have hs13 := HBW.out; have hs14 := LUS8.out; have hs15 := LUR8.out; have hs16 := SBR8.out; have hs17 := HBW1.out; have hs18 := SS9.out; have hs19 := SS10.out; have hs20 := LWX.out; have hs21 := SS11.out; have hs22 := HL01.out; have hs23 := LUS12.out; have hs24 := LUR12.out; have hs25 := SBR12.out; have hs26 := HBW3.out; have hs27 := SS13.out; have hs28 := HQ13.out; have hs29 := HBR.out; have hs30 := SS14.out; omega))
                    have I15 := Lib.hid (I14.out.same HK7.out.size fun b h1 h2 => HK7.out.block b (by have h8 := I14.out.hi_; omega) (fun hm => by have h9 := HQB.out _ hm; have hlQ := LQ.out; have hlS := LS.out; have hlR := LR.out; have hlE := LE.out; have hlX := LX.out; have hs0 := SS1.out; have hs1 := LWQ.out; have hs2 := SS2.out; have hs3 := SS3.out; have hs4 := LWS.out; have hs5 := SS4.out; have hs6 := SS5.out; have hs7 := LWR.out; have hs8 := SS6.out; have hs9 := LWE.out; have hs10 := LUS7.out; have hs11 := LUR7.out; have hs12 := SBR7.out; have hs13 := HBW.out; have hs14 := LUS8.out; have hs15 := LUR8.out; have hs16 := SBR8.out; have hs17 := HBW1.out; have hs18 := SS9.out; have hs19 := SS10.out; have hs20 := LWX.out; have hs21 := SS11.out; have hs22 := HL01.out; have hs23 := LUS12.out; have hs24 := LUR12.out; have hs25 := SBR12.out; have hs26 := HBW3.out; have hs27 := SS13.out; have hs28 := HQ13.out; have hs29 := HBR.out; have hs30 := SS14.out; omega))
                    have L15 := Lib.hid (ux.ow_as L14.out HK7.out.size fun b hb => HK7.out.block b (by have h8 := L14.out.hi_; have h7 := ux.ow_in L14.out b hb; omega) (G14.out.ne L14.out b hb))
                    have G15 := Lib.hid (show GR be w7.heap.size w7 A5 n5 c5 zs A7 (pp + nn) c7 (Gt (pp + nn)) by have h1 := HG7.out; rw [gt_more, HNN.out] at h1; exact h1)
                    rw [HNN.out]
                    go_roundw
                    case rel => exact ⟨i + 1, pp + nn, r3, zs, A5, n5, c5, A7, c7, w7.heap.size, rfl, by go_num, HJ4.out, by have hlQ := LQ.out; have hlS := LS.out; have hlR := LR.out; have hlE := LE.out; have hlX := LX.out; have hs0 := SS1.out; have hs1 := LWQ.out; have hs2 := SS2.out; have hs3 := SS3.out; have hs4 := LWS.out; have hs5 := SS4.out; have hs6 := SS5.out; have hs7 := LWR.out; have hs8 := SS6.out; have hs9 := LWE.out; have hs10 := LUS7.out; have hs11 := LUR7.out; have hs12 := SBR7.out; have hs13 := HBW.out; have hs14 := LUS8.out; have hs15 := LUR8.out; have hs16 := SBR8.out; have hs17 := HBW1.out; have hs18 := SS9.out; have hs19 := SS10.out; have hs20 := LWX.out; have hs21 := SS11.out; have hs22 := HL01.out; have hs23 := LUS12.out; have hs24 := LUR12.out; have hs25 := SBR12.out; have hs26 := HBW3.out; have hs27 := SS13.out; have hs28 := HQ13.out; have hs29 := HBR.out; have hs30 := SS14.out; have h9 := HK7.out.size; omega, fun h9 q y hq hy k9 hk9 hk8 hk7 => by rcases Nat.lt_or_ge q i with h1 | h1; exact HMO4.out _ (HRC.out h9 q y h1 hy k9 hk9 hk8 hk7); (obtain rfl : i = q := (by omega); have h2 := HGE.out.symm.trans hy; obtain rfl : y1 = y := Option.some.inj h2; obtain rfl : k = k9 := (by have h3 := HKA.out.2.2.1; rw [hk9] at h3; unfold fr at h3; have h4 := HKA.out.2.1; have h5 := HJ3.out.le; omega); exact HRC4.out), B15.out, S15.out, R15.out, I15.out, G15.out, L15.out⟩
                    case measure => simp [intOf]; omega
                · have h30i : ¬ (rd : Int) < 30 := by omega
                  have cL : wr.cell? ⟨g3, i, none⟩ = some (.int .i64 y1) := by rw [← HGD.out]; exact own.cell_of L12.out hik
                  have hfr := bs.fr_rng f k
                  have hf0 := HF0.out
                  have hwd : IntKind.i64.wrap (y1 - f) = y1 - f := IntWalk.i64_in _ (by rw [HKA.out.2.2.1]; omega)
                  go_wp2_with fail
                  clear cL hfr hf0 hwd h30i
                  (with_reducible refine (hsh.specMod (y1 - f) 4096 (by omega) _).mono ?_)
                  rw [HKA.out.2.2.2]
                  rintro e wq ⟨rfl, rfl⟩
                  have hw8 : IntKind.u8.wrap (k : Int) = (k : Int) := IntWalk.u8_in _ (by have := HKT.out; omega)
                  go_upto_region 23 with fail
                  obtain ⟨⟨⟨r3, zs⟩, ll⟩, hxr⟩ : ∃ q, ro.recv (⟨r2, ys⟩ : Rob) y1 [(k : Int)] = q := ⟨_, rfl⟩
                  have HXR := Lib.hid hxr
                  obtain ⟨nn, hj4, hl4, hrc4, hmo4⟩ := HJ3.out.arr HKA.out.1 HKA.out.2.1
                  rw [← HKA.out.2.2.1, hxr] at hj4 hl4 hrc4 hmo4
                  have HJ4 := Lib.hid hj4
                  have HL4 := Lib.hid hl4
                  have HRC4 := Lib.hid hrc4
                  have HMO4 := Lib.hid hmo4
                  have HSM := Lib.hid (show ys.length ≤ 16 ∧ ∀ x ∈ ys, x.Body.length ≤ 100 from HJ3.out.small)
                  have HLG := Lib.hid G12.out.len
                  have HBR := Lib.hid (show bR < wr.heap.size ∧ bS < wr.heap.size ∧ H4 ≤ wr.heap.size ∧ be ≤ wr.heap.size ∧ l1 ≤ wr.heap.size by have h1 := R12.out.lt; have h2 := S12.out.lt; have h3 := G12.out.hi_; have h4 := L12.out.hi_; have hlQ := LQ.out; have hlS := LS.out; have hlR := LR.out; have hlE := LE.out; have hlX := LX.out; have hs0 := SS1.out; have hs1 := LWQ.out; have hs2 := SS2.out; have hs3 := SS3.out; have hs4 := LWS.out; have hs5 := SS4.out; have hs6 := SS5.out; have hs7 := LWR.out; have hs8 := SS6.out; have hs9 := LWE.out; have hs10 := LUS7.out; have hs11 := LUR7.out; have hs12 := SBR7.out; have hs13 := HBW.out; have hs14 := LUS8.out; have hs15 := LUR8.out; have hs16 := SBR8.out; have hs17 := HBW1.out; have hs18 := SS9.out; have hs19 := SS10.out; have hs20 := LWX.out; have hs21 := SS11.out; have hs22 := HL01.out; have hs23 := LUS12.out; have hs24 := LUR12.out; have hs25 := SBR12.out; have hs26 := HBW3.out; exact ⟨h1, h2, h3, by omega, h4⟩)
                  clear hxr hj4 hl4 hrc4 hmo4
                  refine reg.region_tailY (Er wr.heap.size) (fun _ _ => True) 14 155 [(13, 16)] [some [], some [], some [], some [(1, 83), (2, 84)], some [(3, 85)], some [], some [(5, 87)], some [(6, 88)], some [(0, 82), (4, 86), (7, 89)], some [(8, 90)], some [(9, 81)], some [(9, 81)], some [], some [(12, 16), (10, 91)], none] [(0, 82), (1, 83), (2, 84), (3, 85), (4, 86), (5, 87), (6, 88), (7, 89), (8, 90), (9, 81), (10, 91), (11, 92), (12, 16)]
                    (fun w' => Below wr.heap.size wr w')
                    (Rr wr.heap.size (⟨r3, zs⟩ : Rob) ll (k : Int) [(0, .agg #[.int .i64 r2, .slice A4 n4 c4]), (1, .slice (some ⟨g3, 0, none⟩) k3 c3), (2, .int .i64 ((i : Int))), (3, .pointer (some ⟨g3, i, none⟩)), (4, .int .i64 y1), (5, .int .i64 ((k : Int))), (6, .int .u8 (k : Int))])
                    (by kernel_rfl) rfl (by kernel_rfl) (by kernel_rfl) rfl
                    (fun i w1 w2 hc he => by unfold Er at he; by_cases i13 : i = 13; (rw [if_pos i13] at he; obtain ⟨q, cur, cs, _, hq, _, hp⟩ := he; exact hp.on hc hq); (rw [if_neg i13] at he; exact hc.trans (he.mono hc.size)))
                    rr_keep (fun _ _ _ _ _ _ _ _ => trivial) (own.below_drew (Below.refl _ _)) (fun _ => trivial) (by kernel_rfl) ⟨?_, ?_, ?_, ?_, ?_, ?_, ?_, ?_, ?_, ?_, ?_, ?_, ?_, ?_, trivial⟩ ?_
                  · refine fun w8 hc _  K hK => ?_
                    (try simp only [Act.put, List.setIfInBounds_toArray, List.set_cons_zero, List.set_cons_succ])
                    rw [if_pos (by rfl)]
                    refine stw.wp_load_bx 31 _ rfl (bR) rfl 31 _ (R12.out.below hc) Try.underlying31 rfl ux.szRob ?_
                    exact hK _ _ rfl (Below.refl _ _)
                  · refine fun w8 hc _  K hK => ?_
                    (try simp only [Act.put, List.setIfInBounds_toArray, List.set_cons_zero, List.set_cons_succ])
                    go_simp
                    exact hK (.slice (some ⟨g3, 0, none⟩) k3 c3) _ rfl (Below.refl _ _)
                  · refine fun w8 hc _  K hK => ?_
                    (try simp only [Act.put, List.setIfInBounds_toArray, List.set_cons_zero, List.set_cons_succ])
                    go_simp
                    exact hK (.int .i64 ((i : Int))) _ rfl (Below.refl _ _)
                  · refine fun w8 hc _ v1 h1 v2 h2 K hK => ?_
                    obtain rfl : v1 = .slice (some ⟨g3, 0, none⟩) k3 c3 := h1
                    obtain rfl : v2 = .int .i64 ((i : Int)) := h2
                    (try simp only [Act.put, List.setIfInBounds_toArray, List.set_cons_zero, List.set_cons_succ])
                    go_simp
                    exact hK (.pointer (some ⟨g3, i, none⟩)) _ rfl (Below.refl _ _)
                  · refine fun w8 hc _ v3 h3 K hK => ?_
                    obtain rfl : v3 = .pointer (some ⟨g3, i, none⟩) := h3
                    (try simp only [Act.put, List.setIfInBounds_toArray, List.set_cons_zero, List.set_cons_succ])
                    have c0 : w8.cell? ⟨g3, i, none⟩ = some (.int .i64 y1) := by rw [← HGD.out]; exact own.cell_of (L12.out.below hc) hik
                    go_simp
                    exact hK (.int .i64 y1) _ rfl (Below.refl _ _)
                  · refine fun w8 hc _  K hK => ?_
                    (try simp only [Act.put, List.setIfInBounds_toArray, List.set_cons_zero, List.set_cons_succ])
                    go_simp
                    exact hK (.int .i64 ((k : Int))) _ rfl (Below.refl _ _)
                  · refine fun w8 hc _ v5 h5 K hK => ?_
                    obtain rfl : v5 = .int .i64 ((k : Int)) := h5
                    (try simp only [Act.put, List.setIfInBounds_toArray, List.set_cons_zero, List.set_cons_succ])
                    go_simp
                    exact hK (.int .u8 (k : Int)) _ rfl (Below.refl _ _)
                  · refine fun w8 hc _ v6 h6 K hK => ?_
                    obtain rfl : v6 = .int .u8 (k : Int) := h6
                    (try simp only [Act.put, List.setIfInBounds_toArray, List.set_cons_zero, List.set_cons_succ])
                    go_simp
                    exact hK (.slice (some ⟨w8.heap.size, 0, none⟩) 1 1) _ ⟨_, rfl, Bx.made _ _ _⟩ (bx.below_box _ _)
                  · refine fun w8 hc _ v0 h0 v4 h4 v7 h7 K hK => ?_
                    obtain rfl : v0 = .agg #[.int .i64 r2, .slice A4 n4 c4] := h0
                    obtain rfl : v4 = .int .i64 y1 := h4
                    obtain ⟨q7, rfl, hq7⟩ : To (k : Int) v7 w8 := h7
                    (try simp only [Act.put, List.setIfInBounds_toArray, List.set_cons_zero, List.set_cons_succ])
                    go_simp
                    (with_reducible refine (ro.implRc r2 ys _ _ A4 n4 c4 y1 [(k : Int)] _ _ (some ⟨q7, 0, none⟩) 1 1 _ (G12.out.below hc).rr (by have h1 := HLG.out.1; have h2 := HSM.out.1; omega) (fun x hx => by have := HSM.out.2 x hx; omega) (rd_one hq7 (by have := HKT.out; omega))).mono ?_)
                    rintro e w3 hp
                    rw [HXR.out] at hp
                    obtain ⟨A5, n5, c5, f5, A6, n6, c6, f6, rfl, ho5, ho6, _, hb⟩ := ro.r2_parts hp
                    exact hK _ _ ⟨A5, n5, c5, f5, A6, n6, c6, f6, rfl, ho5.lower hc.size, ho6.lower hc.size⟩ hb
                  · refine fun w8 hc _ v8 h8 K hK => ?_
                    obtain ⟨A5, n5, c5, f5, A6, n6, c6, f6, rfl, hN5, hO6⟩ : Tp wr.heap.size (⟨r3, zs⟩ : Rob) ll v8 w8 := h8
                    (try simp only [Act.put, List.setIfInBounds_toArray, List.set_cons_zero, List.set_cons_succ])
                    go_simp
                    exact hK _ _ ⟨A5, n5, c5, f5, A6, n6, c6, f6, rfl, hN5, hO6⟩ (Below.refl _ _)
                  · refine fun w8 hc _ v9 h9 K hK => ?_
                    obtain ⟨A5, n5, c5, f5, A6, n6, c6, f6, rfl, hN5, hO6⟩ : Tp wr.heap.size (⟨r3, zs⟩ : Rob) ll v9 w8 := h9
                    (try simp only [Act.put, List.setIfInBounds_toArray, List.set_cons_zero, List.set_cons_succ])
                    go_simp
                    exact hK _ _ ⟨A5, n5, c5, f5, rfl, hN5⟩ (Below.refl _ _)
                  · refine fun w8 hc _ v9 h9 K hK => ?_
                    obtain ⟨A5, n5, c5, f5, A6, n6, c6, f6, rfl, hN5, hO6⟩ : Tp wr.heap.size (⟨r3, zs⟩ : Rob) ll v9 w8 := h9
                    (try simp only [Act.put, List.setIfInBounds_toArray, List.set_cons_zero, List.set_cons_succ])
                    go_simp
                    exact hK _ _ ⟨A6, n6, c6, f6, rfl, hO6⟩ (Below.refl _ _)
                  · refine fun w8 hc _  K hK => ?_
                    (try simp only [Act.put, List.setIfInBounds_toArray, List.set_cons_zero, List.set_cons_succ])
                    rw [if_pos (by rfl)]
                    have hge := hc.size
                    go_simp
                    exact hK (.pointer (some ⟨w8.heap.size, 0, none⟩)) _ ⟨w8.heap.size, #[.int .i64 0, .slice none 0 0], rfl, hge, rfl, Bx.made _ _ _⟩ (bx.below_box _ _)
                  · refine fun w8 hc _ v12 h12 v10 h10 K hK => ?_
                    obtain ⟨q12, cs12, rfl, hq12, hs12, hX12⟩ : Tq wr.heap.size v12 w8 := h12
                    obtain ⟨A5, n5, c5, f5, rfl, hN5⟩ : Ta wr.heap.size (⟨r3, zs⟩ : Rob) v10 w8 := h10
                    (try simp only [Act.put, List.setIfInBounds_toArray, List.set_cons_zero, List.set_cons_succ])
                    refine stw.step_store rfl 31 _ _ rfl (q12) #[.int .i64 r3, .slice A5 n5 c5] rfl rfl 31 _ hX12 (by rw [hs12]; rfl) ux.szRob (ux.oneRob _ _ _ _) ?_
                    intro wz hz
                    have hT : Tx wr.heap.size (⟨r3, zs⟩ : Rob) (.pointer (some ⟨q12, 0, none⟩)) wz := ⟨q12, A5, n5, c5, f5, rfl, hq12, hz.box, oo_put hN5 hz (not_rowN hX12 (by decide) (by decide) hN5.1)⟩
                    have hE : Er wr.heap.size 13 w8 wz := ⟨q12, cs12, #[.int .i64 r3, .slice A5 n5 c5], rfl, hq12, hX12, hz⟩
                    exact hK undef _ hT hE
                  refine fun wx7 hc v0 h0 v1 h1 v2 h2 v3 h3 v4 h4 v5 h5 v6 h6 v7 h7 v8 h8 v9 h9 v10 h10 v11 h11 v12 h12 => ?_
                  obtain rfl : v0 = .agg #[.int .i64 r2, .slice A4 n4 c4] := h0
                  obtain rfl : v1 = .slice (some ⟨g3, 0, none⟩) k3 c3 := h1
                  obtain rfl : v2 = .int .i64 ((i : Int)) := h2
                  obtain rfl : v3 = .pointer (some ⟨g3, i, none⟩) := h3
                  obtain rfl : v4 = .int .i64 y1 := h4
                  obtain rfl : v5 = .int .i64 ((k : Int)) := h5
                  obtain rfl : v6 = .int .u8 (k : Int) := h6
                  obtain ⟨q7, rfl, hq7⟩ : To (k : Int) v7 wx7 := h7
                  obtain ⟨A5, n5, c5, f5, A6, n6, c6, f6, rfl, hN5, hO6⟩ : Tp wr.heap.size (⟨r3, zs⟩ : Rob) ll v8 wx7 := h8
                  obtain ⟨A5, n5, c5, f5, A6, n6, c6, f6, rfl, hN5, hO6⟩ : Tp wr.heap.size (⟨r3, zs⟩ : Rob) ll v9 wx7 := h9
                  obtain ⟨A5, n5, c5, f5, rfl, hN5⟩ : Ta wr.heap.size (⟨r3, zs⟩ : Rob) v10 wx7 := h10
                  obtain ⟨A6, n6, c6, f6, rfl, hO6⟩ : Ts wr.heap.size ll v11 wx7 := h11
                  obtain ⟨q12, cs12, rfl, hq12, hs12, hX12⟩ : Tq wr.heap.size v12 wx7 := h12
                  (try simp only [reg.Obs])
                  intro hrf
                  simp only [Act.put, List.setIfInBounds_toArray, List.set_cons_zero, List.set_cons_succ] at hrf ⊢
                  have g13 := hrf (13, 16) (by simp) rfl
                  clear hrf
                  simp only [List.drop_succ_cons, List.drop_zero]
                  clear hN5
                  obtain ⟨q13, A5, n5, c5, f5, e13, hq13, hX13, hN5⟩ : Tx wr.heap.size (⟨r3, zs⟩ : Rob) (.pointer (some ⟨q12, 0, none⟩)) wx7 := g13
                  obtain rfl : q12 = q13 := by injection e13 with e13; injection e13 with e13; injection e13
                  have HX13 := Lib.hid hX13
                  have HQ13 := Lib.hid hq13
                  have HN5 := Lib.hid hN5.rd
                  have HO6 := Lib.hid hO6.rd
                  have hb := hc
                  clear hc hX13 hq13 hN5 hO6 hq12 hs12 hX12 e13 hw8
                  have SS13 := Lib.hid hb.size
                  have B13 := Lib.hid (B12.out.trans (hb.mono B12.out.size))
                  have S13 := Lib.hid (S12.out.below hb)
                  have R13 := Lib.hid (R12.out.below hb)
                  have I13 := Lib.hid (I12.out.below hb)
                  have G13 := Lib.hid (G12.out.below hb)
                  have L13 := Lib.hid (L12.out.below hb)
                  clear hb B12 S12 R12 I12 G12 L12
                  have X13 := HX13
                  have N13 := HN5
                  have O13 := HO6
                  clear HX13 HN5 HO6
                  have HX7 := Lib.hid (show wr.heap.size ≤ wx7.heap.size from SS13.out)
                  go_upto_region 24 with fail
                  go_upto_region 25 with (first | (refine stw.list_load rfl 31 _ rfl (q12) rfl 31 _ X13.out Try.underlying31 rfl ux.szRob ?_) | (refine stw.list_store rfl 31 _ _ rfl (bR) #[.int .i64 r3, .slice A5 n5 c5] rfl rfl 31 _ R13.out rfl ux.szRob (ux.oneRob _ _ _ _) ?_; intro wz14 hz))
                  have SS14 := Lib.hid hz.below.size
                  have B14 := Lib.hid (hz.on B13.out (by have hlQ := LQ.out; have hlS := LS.out; have hlR := LR.out; have hlE := LE.out; have hlX := LX.out; have hs0 := SS1.out; have hs1 := LWQ.out; have hs2 := SS2.out; have hs3 := SS3.out; have hs4 := LWS.out; have hs5 := SS4.out; have hs6 := SS5.out; have hs7 := LWR.out; have hs8 := SS6.out; have hs9 := LWE.out; have hs10 := LUS7.out; have hs11 := LUR7.out; have hs12 := SBR7.out; have hs13 := HBW.out; have hs14 := LUS8.out; have hs15 := LUR8.out; have hs16 := SBR8.out; have hs17 := HBW1.out; have hs18 := SS9.out; have hs19 := SS10.out; have hs20 := LWX.out; have hs21 := SS11.out; have hs22 := HL01.out; have hs23 := LUS12.out; have hs24 := LUR12.out; have hs25 := SBR12.out; have hs26 := HBW3.out; have hs27 := SS13.out; have hs28 := HQ13.out; have hs29 := HBR.out; have hs30 := SS14.out; first | omega | (simp <;> omega)))
                  have S14 := Lib.hid (hz.keep S13.out (by have hlQ := LQ.out; have hlS := LS.out; have hlR := LR.out; have hlE := LE.out; have hlX := LX.out; have hs0 := SS1.out; have hs1 := LWQ.out; have hs2 := SS2.out; have hs3 := SS3.out; have hs4 := LWS.out; have hs5 := SS4.out; have hs6 := SS5.out; have hs7 := LWR.out; have hs8 := SS6.out; have hs9 := LWE.out; have hs10 := LUS7.out; have hs11 := LUR7.out; have hs12 := SBR7.out; have hs13 := HBW.out; have hs14 := LUS8.out; have hs15 := LUR8.out; have hs16 := SBR8.out; have hs17 := HBW1.out; have hs18 := SS9.out; have hs19 := SS10.out; have hs20 := LWX.out; have hs21 := SS11.out; have hs22 := HL01.out; have hs23 := LUS12.out; have hs24 := LUR12.out; have hs25 := SBR12.out; have hs26 := HBW3.out; have hs27 := SS13.out; have hs28 := HQ13.out; have hs29 := HBR.out; have hs30 := SS14.out; first | omega | (simp <;> omega)))
                  have R14 := Lib.hid (hz.box)
                  have X14 := Lib.hid (hz.keep X13.out (by have hlQ := LQ.out; have hlS := LS.out; have hlR := LR.out; have hlE := LE.out; have hlX := LX.out; have hs0 := SS1.out; have hs1 := LWQ.out; have hs2 := SS2.out; have hs3 := SS3.out; have hs4 := LWS.out; have hs5 := SS4.out; have hs6 := SS5.out; have hs7 := LWR.out; have hs8 := SS6.out; have hs9 := LWE.out; have hs10 := LUS7.out; have hs11 := LUR7.out; have hs12 := SBR7.out; have hs13 := HBW.out; have hs14 := LUS8.out; have hs15 := LUR8.out; have hs16 := SBR8.out; have hs17 := HBW1.out; have hs18 := SS9.out; have hs19 := SS10.out; have hs20 := LWX.out; have hs21 := SS11.out; have hs22 := HL01.out; have hs23 := LUS12.out; have hs24 := LUR12.out; have hs25 := SBR12.out; have hs26 := HBW3.out; have hs27 := SS13.out; have hs28 := HQ13.out; have hs29 := HBR.out; have hs30 := SS14.out; first | omega | (simp <;> omega)))
                  have I14 := Lib.hid (I13.out.same hz.below.size fun b h1 h2 => hz.other b (by have hlQ := LQ.out; have hlS := LS.out; have hlR := LR.out; have hlE := LE.out; have hlX := LX.out; have hs0 := SS1.out; have hs1 := LWQ.out; have hs2 := SS2.out; have hs3 := SS3.out; have hs4 := LWS.out; have hs5 := SS4.out; have hs6 := SS5.out; have hs7 := LWR.out; have hs8 := SS6.out; have hs9 := LWE.out; have hs10 := LUS7.out; have hs11 := LUR7.out; have hs12 := SBR7.out; have hs13 := HBW.out; have hs14 := LUS8.out; have hs15 := LUR8.out; have hs16 := SBR8.out; have hs17 := HBW1.out; have hs18 := SS9.out; have hs19 := SS10.out; have hs20 := LWX.out; have hs21 := SS11.out; have hs22 := HL01.out; have hs23 := LUS12.out; have hs24 := LUR12.out; have hs25 := SBR12.out; have hs26 := HBW3.out; have hs27 := SS13.out; have hs28 := HQ13.out; have hs29 := HBR.out; have hs30 := SS14.out; first | omega | (simp <;> omega)))
                  have G14 := Lib.hid (G13.out.same hz.below.size fun b h1 h2 => hz.other b (by have hlQ := LQ.out; have hlS := LS.out; have hlR := LR.out; have hlE := LE.out; have hlX := LX.out; have hs0 := SS1.out; have hs1 := LWQ.out; have hs2 := SS2.out; have hs3 := SS3.out; have hs4 := LWS.out; have hs5 := SS4.out; have hs6 := SS5.out; have hs7 := LWR.out; have hs8 := SS6.out; have hs9 := LWE.out; have hs10 := LUS7.out; have hs11 := LUR7.out; have hs12 := SBR7.out; have hs13 := HBW.out; have hs14 := LUS8.out; have hs15 := LUR8.out; have hs16 := SBR8.out; have hs17 := HBW1.out; have hs18 := SS9.out; have hs19 := SS10.out; have hs20 := LWX.out; have hs21 := SS11.out; have hs22 := HL01.out; have hs23 := LUS12.out; have hs24 := LUR12.out; have hs25 := SBR12.out; have hs26 := HBW3.out; have hs27 := SS13.out; have hs28 := HQ13.out; have hs29 := HBR.out; have hs30 := SS14.out; first | omega | (simp <;> omega)))
                  have L14 := Lib.hid (L13.out.same hz.below.size fun b h1 h2 => hz.other b (by have hlQ := LQ.out; have hlS := LS.out; have hlR := LR.out; have hlE := LE.out; have hlX := LX.out; have hs0 := SS1.out; have hs1 := LWQ.out; have hs2 := SS2.out; have hs3 := SS3.out; have hs4 := LWS.out; have hs5 := SS4.out; have hs6 := SS5.out; have hs7 := LWR.out; have hs8 := SS6.out; have hs9 := LWE.out; have hs10 := LUS7.out; have hs11 := LUR7.out; have hs12 := SBR7.out; have hs13 := HBW.out; have hs14 := LUS8.out; have hs15 := LUR8.out; have hs16 := SBR8.out; have hs17 := HBW1.out; have hs18 := SS9.out; have hs19 := SS10.out; have hs20 := LWX.out; have hs21 := SS11.out; have hs22 := HL01.out; have hs23 := LUS12.out; have hs24 := LUR12.out; have hs25 := SBR12.out; have hs26 := HBW3.out; have hs27 := SS13.out; have hs28 := HQ13.out; have hs29 := HBR.out; have hs30 := SS14.out; first | omega | (simp <;> omega)))
                  have N14 := Lib.hid (N13.out.same hz.below.size fun b h1 h2 => hz.other b (by have hlQ := LQ.out; have hlS := LS.out; have hlR := LR.out; have hlE := LE.out; have hlX := LX.out; have hs0 := SS1.out; have hs1 := LWQ.out; have hs2 := SS2.out; have hs3 := SS3.out; have hs4 := LWS.out; have hs5 := SS4.out; have hs6 := SS5.out; have hs7 := LWR.out; have hs8 := SS6.out; have hs9 := LWE.out; have hs10 := LUS7.out; have hs11 := LUR7.out; have hs12 := SBR7.out; have hs13 := HBW.out; have hs14 := LUS8.out; have hs15 := LUR8.out; have hs16 := SBR8.out; have hs17 := HBW1.out; have hs18 := SS9.out; have hs19 := SS10.out; have hs20 := LWX.out; have hs21 := SS11.out; have hs22 := HL01.out; have hs23 := LUS12.out; have hs24 := LUR12.out; have hs25 := SBR12.out; have hs26 := HBW3.out; have hs27 := SS13.out; have hs28 := HQ13.out; have hs29 := HBR.out; have hs30 := SS14.out; first | omega | (simp <;> omega)))
                  have O14 := Lib.hid (O13.out.same hz.below.size fun b h1 h2 => hz.other b (by have hlQ := LQ.out; have hlS := LS.out; have hlR := LR.out; have hlE := LE.out; have hlX := LX.out; have hs0 := SS1.out; have hs1 := LWQ.out; have hs2 := SS2.out; have hs3 := SS3.out; have hs4 := LWS.out; have hs5 := SS4.out; have hs6 := SS5.out; have hs7 := LWR.out; have hs8 := SS6.out; have hs9 := LWE.out; have hs10 := LUS7.out; have hs11 := LUR7.out; have hs12 := SBR7.out; have hs13 := HBW.out; have hs14 := LUS8.out; have hs15 := LUR8.out; have hs16 := SBR8.out; have hs17 := HBW1.out; have hs18 := SS9.out; have hs19 := SS10.out; have hs20 := LWX.out; have hs21 := SS11.out; have hs22 := HL01.out; have hs23 := LUS12.out; have hs24 := LUR12.out; have hs25 := SBR12.out; have hs26 := HBW3.out; have hs27 := SS13.out; have hs28 := HQ13.out; have hs29 := HBR.out; have hs30 := SS14.out; first | omega | (simp <;> omega)))
                  clear hz B13 S13 R13 X13 I13 G13 L13 N13 O13
                  obtain ⟨rfl⟩ : PLift (ll = (List.range nn).map (one pp)) := ⟨HL4.out⟩
                  have HNN := Lib.hid (show n6 = nn by obtain ⟨_, _, _, e9, h9, _⟩ := O14.out; injection e9 with _ e9 _; rw [e9, ← h9]; simp)
                  have HPP := Lib.hid (show pp ≤ 20 by have h1 := HJ3.out.hA; have h2 := HJ3.out.le; omega)
                  have HNL := Lib.hid (show nn ≤ 20 by have h1 := HJ4.out.hA; have h2 := HJ4.out.le; omega)
                  go_wp2_with (at_builtin; refine list_gr rfl _ _ rfl rfl rfl G14.out HBR.out.2.2.1 HBR.out.2.2.2.1 N14.out O14.out N14.out.hi_ HX7.out (by have h1 := HNN.out; have h2 := HPP.out; have h3 := HNL.out; omega) ?_; intro A7 c7 w7 hg7 hk7)
                  have HG7 := Lib.hid hg7
                  have HK7 := Lib.hid hk7
                  clear hg7 hk7
                  have HQB := Lib.hid G14.out.blk
                  have B15 := Lib.hid (B14.out.trans (ux.ks_bel HK7.out (fun q hq => by have h9 := HQB.out q hq; have hlQ := LQ.out; have hlS := LS.out; have hlR := LR.out; have hlE := LE.out; have hlX := LX.out; have hs0 := SS1.out; have hs1 := LWQ.out; have hs2 := SS2.out; have hs3 := SS3.out; have hs4 := LWS.out; have hs5 := SS4.out; have hs6 := SS5.out; have hs7 := LWR.out; have hs8 := SS6.out; have hs9 := LWE.out; have hs10 := LUS7.out; have hs11 := LUR7.out; have hs12 := SBR7.out; have hs13 := HBW.out; have hs14 := LUS8.out; have hs15 := LUR8.out; have hs16 := SBR8.out; have hs17 := HBW1.out; have hs18 := SS9.out; have hs19 := SS10.out; have hs20 := LWX.out; have hs21 := SS11.out; have hs22 := HL01.out; have hs23 := LUS12.out; have hs24 := LUR12.out; have hs25 := SBR12.out; have hs26 := HBW3.out; have hs27 := SS13.out; have hs28 := HQ13.out; have hs29 := HBR.out; have hs30 := SS14.out; omega) B14.out.size))
                  have S15 := Lib.hid (ux.bx_ks S14.out HK7.out (fun hm => by have h9 := HQB.out _ hm; have hlQ := LQ.out; have hlS := LS.out; have hlR := LR.out; have hlE := LE.out; have hlX := LX.out; have hs0 := SS1.out; have hs1 := LWQ.out; have hs2 := SS2.out; have hs3 := SS3.out; have hs4 := LWS.out; have hs5 := SS4.out; have hs6 := SS5.out; have hs7 := LWR.out; have hs8 := SS6.out; have hs9 := LWE.out; have hs10 := LUS7.out; have hs11 := LUR7.out; have hs12 := SBR7.out; have hs13 := HBW.out; have hs14 := LUS8.out; have hs15 := LUR8.out; have hs16 := SBR8.out; have hs17 := HBW1.out; have hs18 := SS9.out; have hs19 := SS10.out; have hs20 := LWX.out; have hs21 := SS11.out; have hs22 := HL01.out; have hs23 := LUS12.out; have hs24 := LUR12.out; have hs25 := SBR12.out; have hs26 := HBW3.out; have hs27 := SS13.out; have hs28 := HQ13.out; have hs29 := HBR.out; have hs30 := SS14.out; omega))
                  have R15 := Lib.hid (ux.bx_ks R14.out HK7.out (fun hm => by have h9 := HQB.out _ hm; have hlQ := LQ.out; have hlS := LS.out; have hlR := LR.out; have hlE := LE.out; have hlX := LX.out; have hs0 := SS1.out; have hs1 := LWQ.out; have hs2 := SS2.out; have hs3 := SS3.out; have hs4 := LWS.out; have hs5 := SS4.out; have hs6 := SS5.out; have hs7 := LWR.out; have hs8 := SS6.out; have hs9 := LWE.out; have hs10 := LUS7.out; have hs11 := LUR7.out; have hs12 := SBR7.out; have hs13 := HBW.out; have hs14 := LUS8.out; have hs15 := LUR8.out; have hs16 := SBR8.out; have hs17 := HBW1.out; have hs18 := SS9.out; have hs19 := SS10.out; have hs20 := LWX.out; have hs21 := SS11.out; have hs22 := HL01.out; have hs23 := LUS12.out; have hs24 := LUR12.out; have hs25 := SBR12.out; have hs26 := HBW3.out; have hs27 := SS13.out; have hs28 := HQ13.out; have hs29 := HBR.out; have hs30 := SS14.out; omega))
                  have I15 := Lib.hid (I14.out.same HK7.out.size fun b h1 h2 => HK7.out.block b (by have h8 := I14.out.hi_; omega) (fun hm => by have h9 := HQB.out _ hm; have hlQ := LQ.out; have hlS := LS.out; have hlR := LR.out; have hlE := LE.out; have hlX := LX.out; have hs0 := SS1.out; have hs1 := LWQ.out; have hs2 := SS2.out; have hs3 := SS3.out; have hs4 := LWS.out; have hs5 := SS4.out; have hs6 := SS5.out; have hs7 := LWR.out; have hs8 := SS6.out; have hs9 := LWE.out; have hs10 := LUS7.out; have hs11 := LUR7.out; have hs12 := SBR7.out; have hs13 := HBW.out; have hs14 := LUS8.out; have hs15 := LUR8.out; have hs16 := SBR8.out; have hs17 := HBW1.out; have hs18 := SS9.out; have hs19 := SS10.out; have hs20 := LWX.out; have hs21 := SS11.out; have hs22 := HL01.out; have hs23 := LUS12.out; have hs24 := LUR12.out; have hs25 := SBR12.out; have hs26 := HBW3.out; have hs27 := SS13.out; have hs28 := HQ13.out; have hs29 := HBR.out; have hs30 := SS14.out; omega))
                  have L15 := Lib.hid (ux.ow_as L14.out HK7.out.size fun b hb => HK7.out.block b (by have h8 := L14.out.hi_; have h7 := ux.ow_in L14.out b hb; omega) (G14.out.ne L14.out b hb))
                  have G15 := Lib.hid (show GR be w7.heap.size w7 A5 n5 c5 zs A7 (pp + nn) c7 (Gt (pp + nn)) by have h1 := HG7.out; rw [gt_more, HNN.out] at h1; exact h1)
                  rw [HNN.out]
                  go_roundw
                  case rel => exact ⟨i + 1, pp + nn, r3, zs, A5, n5, c5, A7, c7, w7.heap.size, rfl, by go_num, HJ4.out, by have hlQ := LQ.out; have hlS := LS.out; have hlR := LR.out; have hlE := LE.out; have hlX := LX.out; have hs0 := SS1.out; have hs1 := LWQ.out; have hs2 := SS2.out; have hs3 := SS3.out; have hs4 := LWS.out; have hs5 := SS4.out; have hs6 := SS5.out; have hs7 := LWR.out; have hs8 := SS6.out; have hs9 := LWE.out; have hs10 := LUS7.out; have hs11 := LUR7.out; have hs12 := SBR7.out; have hs13 := HBW.out; have hs14 := LUS8.out; have hs15 := LUR8.out; have hs16 := SBR8.out; have hs17 := HBW1.out; have hs18 := SS9.out; have hs19 := SS10.out; have hs20 := LWX.out; have hs21 := SS11.out; have hs22 := HL01.out; have hs23 := LUS12.out; have hs24 := LUR12.out; have hs25 := SBR12.out; have hs26 := HBW3.out; have hs27 := SS13.out; have hs28 := HQ13.out; have hs29 := HBR.out; have hs30 := SS14.out; have h9 := HK7.out.size; omega, fun h9 q y hq hy k9 hk9 hk8 hk7 => by rcases Nat.lt_or_ge q i with h1 | h1; exact HMO4.out _ (HRC.out h9 q y h1 hy k9 hk9 hk8 hk7); (obtain rfl : i = q := (by omega); have h2 := HGE.out.symm.trans hy; obtain rfl : y1 = y := Option.some.inj h2; obtain rfl : k = k9 := (by have h3 := HKA.out.2.2.1; rw [hk9] at h3; unfold fr at h3; have h4 := HKA.out.2.1; have h5 := HJ3.out.le; omega); exact HRC4.out), B15.out, S15.out, R15.out, I15.out, G15.out, L15.out⟩
                  case measure => simp [intOf]; omega
              · have hik2 : ¬ (i : Int) < k3 := by omega
                have HIK := Lib.hid (show i = k3 by omega)
                by_cases h30 : rd < 30
                · have h30i : ¬ (30 : Int) ≤ (rd : Int) := by omega
                  have h30j : ¬ (rd : Int) ≥ 30 := by omega
                  obtain ⟨v, hv⟩ : ∃ v, lawAt.atv zc len (rd + 2) = v := ⟨_, rfl⟩
                  have HV := Lib.hid hv
                  have hvr : 0 ≤ v ∧ v ≤ 255 := by rw [← hv]; exact lawAt.atv_in I12.out _
                  clear hv
                  have hwa : IntKind.i64.wrap ((rd : Int) + 2) = (rd : Int) + 2 := IntWalk.i64_in _ (by omega)
                  go_wp2_with fail
                  (with_reducible refine (lawAt.at_v (rd + 2) ((rd : Int) + 2) (by first | rfl | omega) (by omega) v a len cap _ _ zc _ I12.out HBG.out HV.out).mono ?_)
                  rintro e wq ⟨rfl, rfl⟩
                  clear hwa
                  by_cases hm3 : v % 4 = 0
                  · have hmt : v.tmod 4 = 0 := by rw [Int.tmod_eq_emod_of_nonneg (by omega)]; exact hm3
                    have hb3 : (v.tmod 4 != 0) = false := by rw [hmt]; rfl
                    have hb4 : (v % 4 != 0) = false := by rw [hm3]; rfl
                    clear L12
                    have HVR := Lib.hid HJ3.out.hr
                    have HVS := Lib.hid HJ3.out.vs
                    go_wp2_with (refine stw.list_load rfl 31 _ rfl (bR) rfl 31 _ R12.out Try.underlying31 rfl ux.szRob ?_)
                    (with_reducible refine (ro.implVr r2 ys _ _ A4 n4 c4 _ G12.out.rr).mono ?_)
                    rintro e wa13 hp
                    obtain ⟨rfl, hb⟩ := bx.b_parts HVR.out hp
                    clear hp
                    have SS13 := Lib.hid hb.size
                    have B13 := Lib.hid (B12.out.trans (hb.mono B12.out.size))
                    have S13 := Lib.hid (S12.out.below hb)
                    have R13 := Lib.hid (R12.out.below hb)
                    have I13 := Lib.hid (I12.out.below hb)
                    have G13 := Lib.hid (G12.out.below hb)
                    clear hb  B12 S12 R12 I12 G12
                    have cS0 : wa13.cell? ⟨bS, 0, none⟩ = some (.int .i64 sa) := S13.out.cell 0
                    have cS1 : wa13.cell? ⟨bS, 1, none⟩ = some (.int .i64 na) := S13.out.cell 1
                    have cS2 : wa13.cell? ⟨bS, 2, none⟩ = some (.int .i64 xa) := S13.out.cell 2
                    go_wp2_with fail
                    clear cS0 cS1 cS2
                    (with_reducible refine (bs.implVs sa na xa _).mono ?_)
                    rintro e wa14 hp
                    obtain ⟨rfl, hb⟩ := bx.b_parts HVS.out hp
                    clear hp
                    have SS14 := Lib.hid hb.size
                    have B14 := Lib.hid (B13.out.trans (hb.mono B13.out.size))
                    have S14 := Lib.hid (S13.out.below hb)
                    have R14 := Lib.hid (R13.out.below hb)
                    have I14 := Lib.hid (I13.out.below hb)
                    have G14 := Lib.hid (G13.out.below hb)
                    clear hb  B13 S13 R13 I13 G13
                    go_wp2_with fail
                    go_roundw
                    case rel => exact ⟨rd + 1, se, A, pp, sa, na, xa, r2, ys, A4, n4, c4, Ag4, cg4, H4, rfl, rfl, by go_num, HJ3.out, by have h1 := HSE.out; have hlQ := LQ.out; have hlS := LS.out; have hlR := LR.out; have hlE := LE.out; have hlX := LX.out; have hs0 := SS1.out; have hs1 := LWQ.out; have hs2 := SS2.out; have hs3 := SS3.out; have hs4 := LWS.out; have hs5 := SS4.out; have hs6 := SS5.out; have hs7 := LWR.out; have hs8 := SS6.out; have hs9 := LWE.out; have hs10 := LUS7.out; have hs11 := LUR7.out; have hs12 := SBR7.out; have hs13 := HBW.out; have hs14 := LUS8.out; have hs15 := LUR8.out; have hs16 := SBR8.out; have hs17 := HBW1.out; have hs18 := SS9.out; have hs19 := SS10.out; have hs20 := LWX.out; have hs21 := SS11.out; have hs22 := HL01.out; have hs23 := LUS12.out; have hs24 := LUR12.out; have hs25 := SBR12.out; have hs26 := HBW3.out; have hs27 := SS13.out; have hs28 := SS14.out; have hG := G14.out.hi_; omega, ⟨fun h9 => by omega, fun h9 => by omega⟩, B14.out, S14.out, R14.out, I14.out, G14.out⟩
                    case measure => simp [intOf]; omega
                  · have hmt : v.tmod 4 ≠ 0 := by rw [Int.tmod_eq_emod_of_nonneg (by omega)]; exact hm3
                    have hb3 : (v.tmod 4 != 0) = true := bne_iff_ne.2 hmt
                    have hb4 : (v % 4 != 0) = true := bne_iff_ne.2 hm3
                    go_upto_region 27 with fail
                    clear hm3 hmt hb3 hb4 h30i h30j hvr
                    obtain ⟨⟨ca, ba⟩, hca⟩ : ∃ q, ack (⟨r2, ys⟩ : Rob) = q := ⟨_, rfl⟩
                    have HCA := Lib.hid hca
                    obtain ⟨⟨s3, n3, x3⟩, hrc3⟩ : ∃ q, rcv (⟨sa, na, xa⟩ : Bs) ca ba = q := ⟨_, rfl⟩
                    have HRV := Lib.hid hrc3
                    obtain ⟨A9, hA9, hj9, hdn9⟩ := HJ3.out.ackd
                    rw [hca] at hj9
                    rw [hrc3] at hj9
                    have HJ4 := Lib.hid hj9
                    have HDN2 := Lib.hid hdn9
                    clear hca hrc3 hA9 hj9 hdn9
                    clear L12
                    have E12 := Lib.hid (show Lw be wr from (show be < wr.heap.size by have hlQ := LQ.out; have hlS := LS.out; have hlR := LR.out; have hlE := LE.out; have hlX := LX.out; have hs0 := SS1.out; have hs1 := LWQ.out; have hs2 := SS2.out; have hs3 := SS3.out; have hs4 := LWS.out; have hs5 := SS4.out; have hs6 := SS5.out; have hs7 := LWR.out; have hs8 := SS6.out; have hs9 := LWE.out; have hs10 := LUS7.out; have hs11 := LUR7.out; have hs12 := SBR7.out; have hs13 := HBW.out; have hs14 := LUS8.out; have hs15 := LUR8.out; have hs16 := SBR8.out; have hs17 := HBW1.out; have hs18 := SS9.out; have hs19 := SS10.out; have hs20 := LWX.out; have hs21 := SS11.out; have hs22 := HL01.out; have hs23 := LUS12.out; have hs24 := LUR12.out; have hs25 := SBR12.out; have hs26 := HBW3.out; omega))
                    refine reg.region_tail reg.Bel 4 155 [some [], some [], some [(1, 108)], some [(0, 107), (2, 109)], none] [(0, 107), (1, 108), (2, 109), (3, 110)]
                      (fun w' => Below w.heap.size w w' ∧ Bx 27 w' (bS) #[.int .i64 sa, .int .i64 na, .int .i64 xa] ∧ Bx 31 w' (bR) #[.int .i64 r2, .slice A4 n4 c4] ∧ Rd .u8 w' (0) (w.heap.size) a len cap zc ∧ GR be H4 w' A4 n4 c4 ys Ag4 pp cg4 (Gt pp) ∧ Lw be w' ∧ True)
                      (reg.rl [reg.is (.agg #[.int .i64 sa, .int .i64 na, .int .i64 xa]), reg.is (.agg #[.int .i64 r2, .slice A4 n4 c4]), reg.is (.agg #[.int .i64 ca, .int .i64 ba]), reg.is (.agg #[.int .i64 s3, .int .i64 n3, .int .i64 x3]), reg.free])
                      (by kernel_rfl) rfl (by kernel_rfl) (by kernel_rfl) rfl
                      (fun w1 w2 hc hb => ⟨hc.1.trans (hb.mono hc.1.size), hc.2.1.below hb, hc.2.2.1.below hb, hc.2.2.2.1.below hb, hc.2.2.2.2.1.below hb, hc.2.2.2.2.2.1.below hb, trivial⟩) (reg.rl_keep _) (⟨own.below_drew B12.out, S12.out.same rfl, R12.out.same rfl, own.rd_drew I12.out, G12.out.same (Nat.le_refl _) (fun _ _ _ => rfl), E12.out.same (Nat.le_refl _) (fun _ _ _ => rfl), trivial⟩) (by kernel_rfl) ⟨?_, ?_, ?_, ?_, trivial⟩ ?_
                    · refine fun w8 hc  K hK => ?_
                      (try simp only [Act.put, List.setIfInBounds_toArray, List.set_cons_zero, List.set_cons_succ])
                      rw [if_pos (by rfl)]
                      refine stw.wp_load_bx 27 _ rfl (bS) rfl 27 _ hc.2.1 Try.underlying27 rfl bs.szS ?_
                      exact hK _ _ rfl (Below.refl _ _)
                    · refine fun w8 hc  K hK => ?_
                      (try simp only [Act.put, List.setIfInBounds_toArray, List.set_cons_zero, List.set_cons_succ])
                      rw [if_pos (by rfl)]
                      refine stw.wp_load_bx 31 _ rfl (bR) rfl 31 _ hc.2.2.1 Try.underlying31 rfl ux.szRob ?_
                      exact hK _ _ rfl (Below.refl _ _)
                    · refine fun w8 hc v1 h1 K hK => ?_
                      obtain rfl : v1 = .agg #[.int .i64 r2, .slice A4 n4 c4] := h1
                      (try simp only [Act.put, List.setIfInBounds_toArray, List.set_cons_zero, List.set_cons_succ])
                      go_simp
                      (with_reducible refine (ro.implAck r2 ys _ _ A4 n4 c4 _ (hc.2.2.2.2.1).rr).mono ?_)
                      rintro e w3 hp
                      obtain ⟨rfl, hb⟩ := ro.ak_parts HCA.out hp
                      exact hK _ _ rfl hb
                    · refine fun w8 hc v0 h0 v2 h2 K hK => ?_
                      obtain rfl : v0 = .agg #[.int .i64 sa, .int .i64 na, .int .i64 xa] := h0
                      obtain rfl : v2 = .agg #[.int .i64 ca, .int .i64 ba] := h2
                      (try simp only [Act.put, List.setIfInBounds_toArray, List.set_cons_zero, List.set_cons_succ])
                      go_simp
                      (with_reducible refine (bs.implRcv sa na xa ca ba _).mono ?_)
                      rintro e w3 hp
                      obtain ⟨rfl, hb⟩ := bs.s_parts HRV.out hp
                      exact hK _ _ rfl hb
                    refine fun wg13 hc v0 h0 v1 h1 v2 h2 v3 h3 => ?_
                    obtain rfl : v0 = .agg #[.int .i64 sa, .int .i64 na, .int .i64 xa] := h0
                    obtain rfl : v1 = .agg #[.int .i64 r2, .slice A4 n4 c4] := h1
                    obtain rfl : v2 = .agg #[.int .i64 ca, .int .i64 ba] := h2
                    obtain rfl : v3 = .agg #[.int .i64 s3, .int .i64 n3, .int .i64 x3] := h3
                    (try simp only [reg.Obs])
                    (try simp only [Act.put, List.setIfInBounds_toArray, List.set_cons_zero, List.set_cons_succ])
                    simp only [List.drop_succ_cons, List.drop_zero]
                    have B13 := Lib.hid hc.1
                    have S13 := Lib.hid hc.2.1
                    have R13 := Lib.hid hc.2.2.1
                    have I13 := Lib.hid hc.2.2.2.1
                    have G13 := Lib.hid hc.2.2.2.2.1
                    have E13 := Lib.hid hc.2.2.2.2.2.1
                    clear hc B12 S12 R12 I12 G12 E12
                    refine stw.list_store rfl 27 _ _ rfl (bS) #[.int .i64 s3, .int .i64 n3, .int .i64 x3] rfl rfl 27 _ S13.out rfl bs.szS (bs.oneS _ _ _) ?_
                    intro wz14 hz
                    (try simp only [Act.put])
                    have SS14 := Lib.hid hz.below.size
                    have B14 := Lib.hid (hz.on B13.out (by have hlQ := LQ.out; have hlS := LS.out; have hlR := LR.out; have hlE := LE.out; have hlX := LX.out; have hs0 := SS1.out; have hs1 := LWQ.out; have hs2 := SS2.out; have hs3 := SS3.out; have hs4 := LWS.out; have hs5 := SS4.out; have hs6 := SS5.out; have hs7 := LWR.out; have hs8 := SS6.out; have hs9 := LWE.out; have hs10 := LUS7.out; have hs11 := LUR7.out; have hs12 := SBR7.out; have hs13 := HBW.out; have hs14 := LUS8.out; have hs15 := LUR8.out; have hs16 := SBR8.out; have hs17 := HBW1.out; have hs18 := SS9.out; have hs19 := SS10.out; have hs20 := LWX.out; have hs21 := SS11.out; have hs22 := HL01.out; have hs23 := LUS12.out; have hs24 := LUR12.out; have hs25 := SBR12.out; have hs26 := HBW3.out; have hs27 := SS14.out; first | omega | (simp <;> omega)))
                    have S14 := Lib.hid (hz.box)
                    have R14 := Lib.hid (hz.keep R13.out (by have hlQ := LQ.out; have hlS := LS.out; have hlR := LR.out; have hlE := LE.out; have hlX := LX.out; have hs0 := SS1.out; have hs1 := LWQ.out; have hs2 := SS2.out; have hs3 := SS3.out; have hs4 := LWS.out; have hs5 := SS4.out; have hs6 := SS5.out; have hs7 := LWR.out; have hs8 := SS6.out; have hs9 := LWE.out; have hs10 := LUS7.out; have hs11 := LUR7.out; have hs12 := SBR7.out; have hs13 := HBW.out; have hs14 := LUS8.out; have hs15 := LUR8.out; have hs16 := SBR8.out; have hs17 := HBW1.out; have hs18 := SS9.out; have hs19 := SS10.out; have hs20 := LWX.out; have hs21 := SS11.out; have hs22 := HL01.out; have hs23 := LUS12.out; have hs24 := LUR12.out; have hs25 := SBR12.out; have hs26 := HBW3.out; have hs27 := SS14.out; first | omega | (simp <;> omega)))
                    have I14 := Lib.hid (I13.out.same hz.below.size fun b h1 h2 => hz.other b (by have hlQ := LQ.out; have hlS := LS.out; have hlR := LR.out; have hlE := LE.out; have hlX := LX.out; have hs0 := SS1.out; have hs1 := LWQ.out; have hs2 := SS2.out; have hs3 := SS3.out; have hs4 := LWS.out; have hs5 := SS4.out; have hs6 := SS5.out; have hs7 := LWR.out; have hs8 := SS6.out; have hs9 := LWE.out; have hs10 := LUS7.out; have hs11 := LUR7.out; have hs12 := SBR7.out; have hs13 := HBW.out; have hs14 := LUS8.out; have hs15 := LUR8.out; have hs16 := SBR8.out; have hs17 := HBW1.out; have hs18 := SS9.out; have hs19 := SS10.out; have hs20 := LWX.out; have hs21 := SS11.out; have hs22 := HL01.out; have hs23 := LUS12.out; have hs24 := LUR12.out; have hs25 := SBR12.out; have hs26 := HBW3.out; have hs27 := SS14.out; first | omega | (simp <;> omega)))
                    have G14 := Lib.hid (G13.out.same hz.below.size fun b h1 h2 => hz.other b (by have hlQ := LQ.out; have hlS := LS.out; have hlR := LR.out; have hlE := LE.out; have hlX := LX.out; have hs0 := SS1.out; have hs1 := LWQ.out; have hs2 := SS2.out; have hs3 := SS3.out; have hs4 := LWS.out; have hs5 := SS4.out; have hs6 := SS5.out; have hs7 := LWR.out; have hs8 := SS6.out; have hs9 := LWE.out; have hs10 := LUS7.out; have hs11 := LUR7.out; have hs12 := SBR7.out; have hs13 := HBW.out; have hs14 := LUS8.out; have hs15 := LUR8.out; have hs16 := SBR8.out; have hs17 := HBW1.out; have hs18 := SS9.out; have hs19 := SS10.out; have hs20 := LWX.out; have hs21 := SS11.out; have hs22 := HL01.out; have hs23 := LUS12.out; have hs24 := LUR12.out; have hs25 := SBR12.out; have hs26 := HBW3.out; have hs27 := SS14.out; first | omega | (simp <;> omega)))
                    have E14 := Lib.hid (E13.out.same hz.below.size fun b h1 h2 => hz.other b (by have hlQ := LQ.out; have hlS := LS.out; have hlR := LR.out; have hlE := LE.out; have hlX := LX.out; have hs0 := SS1.out; have hs1 := LWQ.out; have hs2 := SS2.out; have hs3 := SS3.out; have hs4 := LWS.out; have hs5 := SS4.out; have hs6 := SS5.out; have hs7 := LWR.out; have hs8 := SS6.out; have hs9 := LWE.out; have hs10 := LUS7.out; have hs11 := LUR7.out; have hs12 := SBR7.out; have hs13 := HBW.out; have hs14 := LUS8.out; have hs15 := LUR8.out; have hs16 := SBR8.out; have hs17 := HBW1.out; have hs18 := SS9.out; have hs19 := SS10.out; have hs20 := LWX.out; have hs21 := SS11.out; have hs22 := HL01.out; have hs23 := LUS12.out; have hs24 := LUR12.out; have hs25 := SBR12.out; have hs26 := HBW3.out; have hs27 := SS14.out; first | omega | (simp <;> omega)))
                    clear hz B13 S13 R13 I13 G13 E13
                    have HBA := Lib.hid (show be < wz14.heap.size from E14.out)
                    clear E14
                    have HVR := Lib.hid HJ4.out.hr
                    have HVS := Lib.hid HJ4.out.vs
                    go_wp2_with (refine stw.list_load rfl 31 _ rfl (bR) rfl 31 _ R14.out Try.underlying31 rfl ux.szRob ?_)
                    (with_reducible refine (ro.implVr r2 ys _ _ A4 n4 c4 _ G14.out.rr).mono ?_)
                    rintro e wa15 hp
                    obtain ⟨rfl, hb⟩ := bx.b_parts HVR.out hp
                    clear hp
                    have SS15 := Lib.hid hb.size
                    have B15 := Lib.hid (B14.out.trans (hb.mono B14.out.size))
                    have S15 := Lib.hid (S14.out.below hb)
                    have R15 := Lib.hid (R14.out.below hb)
                    have I15 := Lib.hid (I14.out.below hb)
                    have G15 := Lib.hid (G14.out.below hb)
                    clear hb  B14 S14 R14 I14 G14
                    have cS0 : wa15.cell? ⟨bS, 0, none⟩ = some (.int .i64 s3) := S15.out.cell 0
                    have cS1 : wa15.cell? ⟨bS, 1, none⟩ = some (.int .i64 n3) := S15.out.cell 1
                    have cS2 : wa15.cell? ⟨bS, 2, none⟩ = some (.int .i64 x3) := S15.out.cell 2
                    go_wp2_with fail
                    clear cS0 cS1 cS2
                    (with_reducible refine (bs.implVs s3 n3 x3 _).mono ?_)
                    rintro e wa16 hp
                    obtain ⟨rfl, hb⟩ := bx.b_parts HVS.out hp
                    clear hp
                    have SS16 := Lib.hid hb.size
                    have B16 := Lib.hid (B15.out.trans (hb.mono B15.out.size))
                    have S16 := Lib.hid (S15.out.below hb)
                    have R16 := Lib.hid (R15.out.below hb)
                    have I16 := Lib.hid (I15.out.below hb)
                    have G16 := Lib.hid (G15.out.below hb)
                    clear hb  B15 S15 R15 I15 G15
                    go_wp2_with fail
                    go_roundw
                    case rel => exact ⟨rd + 1, se, A9, pp, s3, n3, x3, r2, ys, A4, n4, c4, Ag4, cg4, H4, rfl, rfl, by go_num, HJ4.out, by have h1 := HSE.out; have hlQ := LQ.out; have hlS := LS.out; have hlR := LR.out; have hlE := LE.out; have hlX := LX.out; have hs0 := SS1.out; have hs1 := LWQ.out; have hs2 := SS2.out; have hs3 := SS3.out; have hs4 := LWS.out; have hs5 := SS4.out; have hs6 := SS5.out; have hs7 := LWR.out; have hs8 := SS6.out; have hs9 := LWE.out; have hs10 := LUS7.out; have hs11 := LUR7.out; have hs12 := SBR7.out; have hs13 := HBW.out; have hs14 := LUS8.out; have hs15 := LUR8.out; have hs16 := SBR8.out; have hs17 := HBW1.out; have hs18 := SS9.out; have hs19 := SS10.out; have hs20 := LWX.out; have hs21 := SS11.out; have hs22 := HL01.out; have hs23 := LUS12.out; have hs24 := LUR12.out; have hs25 := SBR12.out; have hs26 := HBW3.out; have hs27 := SS14.out; have hs28 := HBA.out; have hs29 := SS15.out; have hs30 := SS16.out; have hG := G16.out.hi_; omega, ⟨fun h9 => by omega, fun h9 => by omega⟩, B16.out, S16.out, R16.out, I16.out, G16.out⟩
                    case measure => simp [intOf]; omega
                · have h30i : (30 : Int) ≤ (rd : Int) := by omega
                  have h30j : (rd : Int) ≥ 30 := by omega
                  have HALL := Lib.hid (show ∀ y, y ∈ outs (⟨sa, na, xa⟩ : Bs) → ∀ k : Nat, y = fr f k → k < se → A ≤ k → Rc ⟨r2, ys⟩ pp k by intro y hy; obtain ⟨q, hq⟩ := List.getElem?_of_mem hy; exact HRC.out (by omega) q y (by have h1 := (List.getElem?_eq_some_iff.1 hq).1; have h2 := LNL.out; have h3 := HIK.out; omega) hq)
                  go_upto_region 27 with fail
                  clear h30i h30j
                  obtain ⟨⟨ca, ba⟩, hca⟩ : ∃ q, ack (⟨r2, ys⟩ : Rob) = q := ⟨_, rfl⟩
                  have HCA := Lib.hid hca
                  obtain ⟨⟨s3, n3, x3⟩, hrc3⟩ : ∃ q, rcv (⟨sa, na, xa⟩ : Bs) ca ba = q := ⟨_, rfl⟩
                  have HRV := Lib.hid hrc3
                  obtain ⟨A9, hA9, hj9, hdn9⟩ := HJ3.out.ackd
                  rw [hca] at hj9
                  rw [hrc3] at hj9
                  have HJ4 := Lib.hid hj9
                  have HDN2 := Lib.hid hdn9
                  clear hca hrc3 hA9 hj9 hdn9
                  clear L12
                  have E12 := Lib.hid (show Lw be wr from (show be < wr.heap.size by have hlQ := LQ.out; have hlS := LS.out; have hlR := LR.out; have hlE := LE.out; have hlX := LX.out; have hs0 := SS1.out; have hs1 := LWQ.out; have hs2 := SS2.out; have hs3 := SS3.out; have hs4 := LWS.out; have hs5 := SS4.out; have hs6 := SS5.out; have hs7 := LWR.out; have hs8 := SS6.out; have hs9 := LWE.out; have hs10 := LUS7.out; have hs11 := LUR7.out; have hs12 := SBR7.out; have hs13 := HBW.out; have hs14 := LUS8.out; have hs15 := LUR8.out; have hs16 := SBR8.out; have hs17 := HBW1.out; have hs18 := SS9.out; have hs19 := SS10.out; have hs20 := LWX.out; have hs21 := SS11.out; have hs22 := HL01.out; have hs23 := LUS12.out; have hs24 := LUR12.out; have hs25 := SBR12.out; have hs26 := HBW3.out; omega))
                  refine reg.region_tail reg.Bel 4 155 [some [], some [], some [(1, 108)], some [(0, 107), (2, 109)], none] [(0, 107), (1, 108), (2, 109), (3, 110)]
                    (fun w' => Below w.heap.size w w' ∧ Bx 27 w' (bS) #[.int .i64 sa, .int .i64 na, .int .i64 xa] ∧ Bx 31 w' (bR) #[.int .i64 r2, .slice A4 n4 c4] ∧ Rd .u8 w' (0) (w.heap.size) a len cap zc ∧ GR be H4 w' A4 n4 c4 ys Ag4 pp cg4 (Gt pp) ∧ Lw be w' ∧ True)
                    (reg.rl [reg.is (.agg #[.int .i64 sa, .int .i64 na, .int .i64 xa]), reg.is (.agg #[.int .i64 r2, .slice A4 n4 c4]), reg.is (.agg #[.int .i64 ca, .int .i64 ba]), reg.is (.agg #[.int .i64 s3, .int .i64 n3, .int .i64 x3]), reg.free])
                    (by kernel_rfl) rfl (by kernel_rfl) (by kernel_rfl) rfl
                    (fun w1 w2 hc hb => ⟨hc.1.trans (hb.mono hc.1.size), hc.2.1.below hb, hc.2.2.1.below hb, hc.2.2.2.1.below hb, hc.2.2.2.2.1.below hb, hc.2.2.2.2.2.1.below hb, trivial⟩) (reg.rl_keep _) (⟨own.below_drew B12.out, S12.out.same rfl, R12.out.same rfl, own.rd_drew I12.out, G12.out.same (Nat.le_refl _) (fun _ _ _ => rfl), E12.out.same (Nat.le_refl _) (fun _ _ _ => rfl), trivial⟩) (by kernel_rfl) ⟨?_, ?_, ?_, ?_, trivial⟩ ?_
                  · refine fun w8 hc  K hK => ?_
                    (try simp only [Act.put, List.setIfInBounds_toArray, List.set_cons_zero, List.set_cons_succ])
                    rw [if_pos (by rfl)]
                    refine stw.wp_load_bx 27 _ rfl (bS) rfl 27 _ hc.2.1 Try.underlying27 rfl bs.szS ?_
                    exact hK _ _ rfl (Below.refl _ _)
                  · refine fun w8 hc  K hK => ?_
                    (try simp only [Act.put, List.setIfInBounds_toArray, List.set_cons_zero, List.set_cons_succ])
                    rw [if_pos (by rfl)]
                    refine stw.wp_load_bx 31 _ rfl (bR) rfl 31 _ hc.2.2.1 Try.underlying31 rfl ux.szRob ?_
                    exact hK _ _ rfl (Below.refl _ _)
                  · refine fun w8 hc v1 h1 K hK => ?_
                    obtain rfl : v1 = .agg #[.int .i64 r2, .slice A4 n4 c4] := h1
                    (try simp only [Act.put, List.setIfInBounds_toArray, List.set_cons_zero, List.set_cons_succ])
                    go_simp
                    (with_reducible refine (ro.implAck r2 ys _ _ A4 n4 c4 _ (hc.2.2.2.2.1).rr).mono ?_)
                    rintro e w3 hp
                    obtain ⟨rfl, hb⟩ := ro.ak_parts HCA.out hp
                    exact hK _ _ rfl hb
                  · refine fun w8 hc v0 h0 v2 h2 K hK => ?_
                    obtain rfl : v0 = .agg #[.int .i64 sa, .int .i64 na, .int .i64 xa] := h0
                    obtain rfl : v2 = .agg #[.int .i64 ca, .int .i64 ba] := h2
                    (try simp only [Act.put, List.setIfInBounds_toArray, List.set_cons_zero, List.set_cons_succ])
                    go_simp
                    (with_reducible refine (bs.implRcv sa na xa ca ba _).mono ?_)
                    rintro e w3 hp
                    obtain ⟨rfl, hb⟩ := bs.s_parts HRV.out hp
                    exact hK _ _ rfl hb
                  refine fun wg13 hc v0 h0 v1 h1 v2 h2 v3 h3 => ?_
                  obtain rfl : v0 = .agg #[.int .i64 sa, .int .i64 na, .int .i64 xa] := h0
                  obtain rfl : v1 = .agg #[.int .i64 r2, .slice A4 n4 c4] := h1
                  obtain rfl : v2 = .agg #[.int .i64 ca, .int .i64 ba] := h2
                  obtain rfl : v3 = .agg #[.int .i64 s3, .int .i64 n3, .int .i64 x3] := h3
                  (try simp only [reg.Obs])
                  (try simp only [Act.put, List.setIfInBounds_toArray, List.set_cons_zero, List.set_cons_succ])
                  simp only [List.drop_succ_cons, List.drop_zero]
                  have B13 := Lib.hid hc.1
                  have S13 := Lib.hid hc.2.1
                  have R13 := Lib.hid hc.2.2.1
                  have I13 := Lib.hid hc.2.2.2.1
                  have G13 := Lib.hid hc.2.2.2.2.1
                  have E13 := Lib.hid hc.2.2.2.2.2.1
                  clear hc B12 S12 R12 I12 G12 E12
                  refine stw.list_store rfl 27 _ _ rfl (bS) #[.int .i64 s3, .int .i64 n3, .int .i64 x3] rfl rfl 27 _ S13.out rfl bs.szS (bs.oneS _ _ _) ?_
                  intro wz14 hz
                  (try simp only [Act.put])
                  have SS14 := Lib.hid hz.below.size
                  have B14 := Lib.hid (hz.on B13.out (by have hlQ := LQ.out; have hlS := LS.out; have hlR := LR.out; have hlE := LE.out; have hlX := LX.out; have hs0 := SS1.out; have hs1 := LWQ.out; have hs2 := SS2.out; have hs3 := SS3.out; have hs4 := LWS.out; have hs5 := SS4.out; have hs6 := SS5.out; have hs7 := LWR.out; have hs8 := SS6.out; have hs9 := LWE.out; have hs10 := LUS7.out; have hs11 := LUR7.out; have hs12 := SBR7.out; have hs13 := HBW.out; have hs14 := LUS8.out; have hs15 := LUR8.out; have hs16 := SBR8.out; have hs17 := HBW1.out; have hs18 := SS9.out; have hs19 := SS10.out; have hs20 := LWX.out; have hs21 := SS11.out; have hs22 := HL01.out; have hs23 := LUS12.out; have hs24 := LUR12.out; have hs25 := SBR12.out; have hs26 := HBW3.out; have hs27 := SS14.out; first | omega | (simp <;> omega)))
                  have S14 := Lib.hid (hz.box)
                  have R14 := Lib.hid (hz.keep R13.out (by have hlQ := LQ.out; have hlS := LS.out; have hlR := LR.out; have hlE := LE.out; have hlX := LX.out; have hs0 := SS1.out; have hs1 := LWQ.out; have hs2 := SS2.out; have hs3 := SS3.out; have hs4 := LWS.out; have hs5 := SS4.out; have hs6 := SS5.out; have hs7 := LWR.out; have hs8 := SS6.out; have hs9 := LWE.out; have hs10 := LUS7.out; have hs11 := LUR7.out; have hs12 := SBR7.out; have hs13 := HBW.out; have hs14 := LUS8.out; have hs15 := LUR8.out; have hs16 := SBR8.out; have hs17 := HBW1.out; have hs18 := SS9.out; have hs19 := SS10.out; have hs20 := LWX.out; have hs21 := SS11.out; have hs22 := HL01.out; have hs23 := LUS12.out; have hs24 := LUR12.out; have hs25 := SBR12.out; have hs26 := HBW3.out; have hs27 := SS14.out; first | omega | (simp <;> omega)))
                  have I14 := Lib.hid (I13.out.same hz.below.size fun b h1 h2 => hz.other b (by have hlQ := LQ.out; have hlS := LS.out; have hlR := LR.out; have hlE := LE.out; have hlX := LX.out; have hs0 := SS1.out; have hs1 := LWQ.out; have hs2 := SS2.out; have hs3 := SS3.out; have hs4 := LWS.out; have hs5 := SS4.out; have hs6 := SS5.out; have hs7 := LWR.out; have hs8 := SS6.out; have hs9 := LWE.out; have hs10 := LUS7.out; have hs11 := LUR7.out; have hs12 := SBR7.out; have hs13 := HBW.out; have hs14 := LUS8.out; have hs15 := LUR8.out; have hs16 := SBR8.out; have hs17 := HBW1.out; have hs18 := SS9.out; have hs19 := SS10.out; have hs20 := LWX.out; have hs21 := SS11.out; have hs22 := HL01.out; have hs23 := LUS12.out; have hs24 := LUR12.out; have hs25 := SBR12.out; have hs26 := HBW3.out; have hs27 := SS14.out; first | omega | (simp <;> omega)))
                  have G14 := Lib.hid (G13.out.same hz.below.size fun b h1 h2 => hz.other b (by have hlQ := LQ.out; have hlS := LS.out; have hlR := LR.out; have hlE := LE.out; have hlX := LX.out; have hs0 := SS1.out; have hs1 := LWQ.out; have hs2 := SS2.out; have hs3 := SS3.out; have hs4 := LWS.out; have hs5 := SS4.out; have hs6 := SS5.out; have hs7 := LWR.out; have hs8 := SS6.out; have hs9 := LWE.out; have hs10 := LUS7.out; have hs11 := LUR7.out; have hs12 := SBR7.out; have hs13 := HBW.out; have hs14 := LUS8.out; have hs15 := LUR8.out; have hs16 := SBR8.out; have hs17 := HBW1.out; have hs18 := SS9.out; have hs19 := SS10.out; have hs20 := LWX.out; have hs21 := SS11.out; have hs22 := HL01.out; have hs23 := LUS12.out; have hs24 := LUR12.out; have hs25 := SBR12.out; have hs26 := HBW3.out; have hs27 := SS14.out; first | omega | (simp <;> omega)))
                  have E14 := Lib.hid (E13.out.same hz.below.size fun b h1 h2 => hz.other b (by have hlQ := LQ.out; have hlS := LS.out; have hlR := LR.out; have hlE := LE.out; have hlX := LX.out; have hs0 := SS1.out; have hs1 := LWQ.out; have hs2 := SS2.out; have hs3 := SS3.out; have hs4 := LWS.out; have hs5 := SS4.out; have hs6 := SS5.out; have hs7 := LWR.out; have hs8 := SS6.out; have hs9 := LWE.out; have hs10 := LUS7.out; have hs11 := LUR7.out; have hs12 := SBR7.out; have hs13 := HBW.out; have hs14 := LUS8.out; have hs15 := LUR8.out; have hs16 := SBR8.out; have hs17 := HBW1.out; have hs18 := SS9.out; have hs19 := SS10.out; have hs20 := LWX.out; have hs21 := SS11.out; have hs22 := HL01.out; have hs23 := LUS12.out; have hs24 := LUR12.out; have hs25 := SBR12.out; have hs26 := HBW3.out; have hs27 := SS14.out; first | omega | (simp <;> omega)))
                  clear hz B13 S13 R13 I13 G13 E13
                  have HBA := Lib.hid (show be < wz14.heap.size from E14.out)
                  clear E14
                  have HVR := Lib.hid HJ4.out.hr
                  have HVS := Lib.hid HJ4.out.vs
                  go_wp2_with (refine stw.list_load rfl 31 _ rfl (bR) rfl 31 _ R14.out Try.underlying31 rfl ux.szRob ?_)
                  (with_reducible refine (ro.implVr r2 ys _ _ A4 n4 c4 _ G14.out.rr).mono ?_)
                  rintro e wa15 hp
                  obtain ⟨rfl, hb⟩ := bx.b_parts HVR.out hp
                  clear hp
                  have SS15 := Lib.hid hb.size
                  have B15 := Lib.hid (B14.out.trans (hb.mono B14.out.size))
                  have S15 := Lib.hid (S14.out.below hb)
                  have R15 := Lib.hid (R14.out.below hb)
                  have I15 := Lib.hid (I14.out.below hb)
                  have G15 := Lib.hid (G14.out.below hb)
                  clear hb  B14 S14 R14 I14 G14
                  have cS0 : wa15.cell? ⟨bS, 0, none⟩ = some (.int .i64 s3) := S15.out.cell 0
                  have cS1 : wa15.cell? ⟨bS, 1, none⟩ = some (.int .i64 n3) := S15.out.cell 1
                  have cS2 : wa15.cell? ⟨bS, 2, none⟩ = some (.int .i64 x3) := S15.out.cell 2
                  go_wp2_with fail
                  clear cS0 cS1 cS2
                  (with_reducible refine (bs.implVs s3 n3 x3 _).mono ?_)
                  rintro e wa16 hp
                  obtain ⟨rfl, hb⟩ := bx.b_parts HVS.out hp
                  clear hp
                  have SS16 := Lib.hid hb.size
                  have B16 := Lib.hid (B15.out.trans (hb.mono B15.out.size))
                  have S16 := Lib.hid (S15.out.below hb)
                  have R16 := Lib.hid (R15.out.below hb)
                  have I16 := Lib.hid (I15.out.below hb)
                  have G16 := Lib.hid (G15.out.below hb)
                  clear hb  B15 S15 R15 I15 G15
                  go_wp2_with fail
                  go_roundw
                  case rel => exact ⟨rd + 1, se, A9, pp, s3, n3, x3, r2, ys, A4, n4, c4, Ag4, cg4, H4, rfl, rfl, by go_num, HJ4.out, by have h1 := HSE.out; have hlQ := LQ.out; have hlS := LS.out; have hlR := LR.out; have hlE := LE.out; have hlX := LX.out; have hs0 := SS1.out; have hs1 := LWQ.out; have hs2 := SS2.out; have hs3 := SS3.out; have hs4 := LWS.out; have hs5 := SS4.out; have hs6 := SS5.out; have hs7 := LWR.out; have hs8 := SS6.out; have hs9 := LWE.out; have hs10 := LUS7.out; have hs11 := LUR7.out; have hs12 := SBR7.out; have hs13 := HBW.out; have hs14 := LUS8.out; have hs15 := LUR8.out; have hs16 := SBR8.out; have hs17 := HBW1.out; have hs18 := SS9.out; have hs19 := SS10.out; have hs20 := LWX.out; have hs21 := SS11.out; have hs22 := HL01.out; have hs23 := LUS12.out; have hs24 := LUR12.out; have hs25 := SBR12.out; have hs26 := HBW3.out; have hs27 := SS14.out; have hs28 := HBA.out; have hs29 := SS15.out; have hs30 := SS16.out; have hG := G16.out.hi_; omega, (by have h1 := HDN2.out HALL.out; have h2 := HSX.out; have h3 := HDN.out; have h4 := HSE.out; have h5 := HTT.out; have h6 := HJ3.out.hA; have h7 := HSB.out; exact ⟨fun h9 => ⟨h1.1, h1.2, by omega⟩, fun h9 => by have h8 := h3.1 (by omega); omega⟩), B16.out, S16.out, R16.out, I16.out, G16.out⟩
                  case measure => simp [intOf]; omega
        · have hl2 : ¬ (se : Int) < tt := by omega
          have HSX := Lib.hid (show se = tt ∨ se = A + 16 from .inl (by omega))
          clear hl1 hse htt
          go_wp2_with (refine stw.list_load rfl 27 _ rfl (bS) rfl 27 _ S8.out Try.underlying27 rfl bs.szS ?_)
          (with_reducible refine (bs.implOs sa na xa _).mono ?_)
          rintro e wa9 ⟨A3, k3, c3, rfl, ho, hb⟩
          obtain ⟨l0, l1, hl01, hoo⟩ : ∃ l0 l1, be < l0 ∧ Ow 3 .i64 wa9 l0 l1 A3 k3 c3 (outs (⟨sa, na, xa⟩ : Bs)) := ⟨_, _, (by have hlQ := LQ.out; have hlS := LS.out; have hlR := LR.out; have hlE := LE.out; have hs0 := SS1.out; have hs1 := LWQ.out; have hs2 := SS2.out; have hs3 := SS3.out; have hs4 := LWS.out; have hs5 := SS4.out; have hs6 := SS5.out; have hs7 := LWR.out; have hs8 := SS6.out; have hs9 := LWE.out; have hs10 := LUS7.out; have hs11 := LUR7.out; have hs12 := SBR7.out; have hs13 := HBW.out; have hs14 := LUS8.out; have hs15 := LUR8.out; have hs16 := SBR8.out; have hs17 := HBW1.out; omega), ho⟩
          clear ho
          have HL01 := Lib.hid hl01
          clear hl01
          have SS9 := Lib.hid hb.size
          have B9 := Lib.hid (B8.out.trans (hb.mono B8.out.size))
          have S9 := Lib.hid (S8.out.below hb)
          have R9 := Lib.hid (R8.out.below hb)
          have I9 := Lib.hid (I8.out.below hb)
          have G9 := Lib.hid (G8.out.below hb)
          clear hb B8 S8 R8 I8 G8
          have L9 := Lib.hid hoo
          have LNL := Lib.hid hoo.len
          have HK3 := Lib.hid (show k3 ≤ 16 by have h1 := bs.outs_len (⟨sa, na, xa⟩ : Bs); have h2 := LNL.out; omega)
          clear hoo
          go_wp2_with fail
          go_loopw [8, 14] (fun v0 v1 wr => ∃ (i : Nat) (pp : Nat) (r2 : Int) (ys : List Nf) (A4 : Option Addr) (n4 : Nat) (c4 : Nat) (Ag4 : Option Addr) (cg4 : Nat) (H4 : Nat), v0 = .slice Ag4 pp cg4 ∧ v1 = .int .i64 ((i : Int)) ∧ (J f ⟨sa, na, xa⟩ ⟨r2, ys⟩ A se pp) ∧ (i ≤ k3 ∧ be < wr.heap.size) ∧ (30 ≤ rd → ∀ (q : Nat) (y : Int), q < i → (outs (⟨sa, na, xa⟩ : Bs))[q]? = some y → ∀ k : Nat, y = fr f k → k < se → A ≤ k → Rc ⟨r2, ys⟩ pp k) ∧ Below w.heap.size w wr ∧ Bx 27 wr bS #[.int .i64 sa, .int .i64 na, .int .i64 xa] ∧ Bx 31 wr bR #[.int .i64 r2, .slice A4 n4 c4] ∧ Rd .u8 wr (0) (w.heap.size) a len cap zc ∧ GR be H4 wr A4 n4 c4 ys Ag4 pp cg4 (Gt pp) ∧ Ow 3 .i64 wr (l0) (l1) A3 k3 c3 (outs (⟨sa, na, xa⟩ : Bs))) (fun _ v _ => k3 - (intOf v).toNat)
          case atStart => exact ⟨0, p, rs, xs, A1, n1, c1, Ag, cg, H, rfl, rfl, HJ1.out, by have hlQ := LQ.out; have hlS := LS.out; have hlR := LR.out; have hlE := LE.out; have hs0 := SS1.out; have hs1 := LWQ.out; have hs2 := SS2.out; have hs3 := SS3.out; have hs4 := LWS.out; have hs5 := SS4.out; have hs6 := SS5.out; have hs7 := LWR.out; have hs8 := SS6.out; have hs9 := LWE.out; have hs10 := LUS7.out; have hs11 := LUR7.out; have hs12 := SBR7.out; have hs13 := HBW.out; have hs14 := LUS8.out; have hs15 := LUR8.out; have hs16 := SBR8.out; have hs17 := HBW1.out; have hs18 := SS9.out; have hs19 := HL01.out; omega, fun _ q y hq => by omega, B9.out, S9.out, R9.out, I9.out, G9.out, L9.out⟩
          case round =>
            obtain ⟨i, pp, r2, ys, A4, n4, c4, Ag4, cg4, H4, rfl, rfl, gHJ3, gHI, gHRC, gB10, gS10, gR10, gI10, gG10, gL10⟩ := hrel
            have B10 := Lib.hid gB10
            have S10 := Lib.hid gS10
            have R10 := Lib.hid gR10
            have I10 := Lib.hid gI10
            have G10 := Lib.hid gG10
            have L10 := Lib.hid gL10
            have HJ3 := Lib.hid gHJ3
            have HI := Lib.hid gHI
            have HRC := Lib.hid gHRC
            clear gB10 gS10 gR10 gI10 gG10 gL10 gHJ3 gHI gHRC
            have LUS10 := Lib.hid S10.out.lt
            have LUR10 := Lib.hid R10.out.lt
            have SBR10 := Lib.hid B10.out.size
            have hi9 := HI.out.1
            have hk16 := HK3.out
            have HBW3 := Lib.hid HI.out.2
            by_cases hik : i < k3
            · have hik2 : (i : Int) < k3 := by omega
              obtain ⟨g3, rfl, hgl⟩ := own.own_some L10.out (by omega)
              clear hgl
              obtain ⟨y1, hy1⟩ : ∃ y, (outs (⟨sa, na, xa⟩ : Bs)).getD i 0 = y := ⟨_, rfl⟩
              have HGD := Lib.hid hy1
              have HGE := Lib.hid (show (outs (⟨sa, na, xa⟩ : Bs))[i]? = some y1 by have h1 := LNL.out; rw [← hy1, List.getD_eq_getElem?_getD, List.getElem?_eq_getElem (by omega)]; rfl)
              clear hy1
              obtain ⟨k, hk1, hk2, hk3, hk4⟩ := HJ3.out.out (List.mem_of_getElem? HGE.out)
              have HKA := Lib.hid (And.intro hk1 (And.intro hk2 (And.intro hk3 hk4)))
              have HKT := Lib.hid (show k < 20 by have h1 := HSE.out; have h2 := HTT.out; omega)
              clear hk1 hk2 hk3 hk4
              by_cases h30 : rd < 30
              · have h30i : (rd : Int) < 30 := by omega
                obtain ⟨v, hv⟩ : ∃ v, lawAt.atv zc len (rd * 7 + i) = v := ⟨_, rfl⟩
                have HV := Lib.hid hv
                have hvr : 0 ≤ v ∧ v ≤ 255 := by rw [← hv]; exact lawAt.atv_in I10.out _
                clear hv
                have hwa : IntKind.i64.wrap ((rd : Int) * 7) = (rd : Int) * 7 := IntWalk.i64_in _ (by omega)
                have hwb : IntKind.i64.wrap ((rd : Int) * 7 + (i : Int)) = (rd : Int) * 7 + (i : Int) := IntWalk.i64_in _ (by omega)
                go_wp2_with fail
                (with_reducible refine (lawAt.at_v (rd * 7 + i) ((rd : Int) * 7 + (i : Int)) (by first | rfl | omega) (by omega) v a len cap _ _ zc _ I10.out HBG.out HV.out).mono ?_)
                rintro e wq ⟨rfl, rfl⟩
                clear hwa hwb
                by_cases hm3 : v % 3 = 0
                · have hmt : v.tmod 3 = 0 := by rw [Int.tmod_eq_emod_of_nonneg (by omega)]; exact hm3
                  have hb3 : (v.tmod 3 == 0) = true := by rw [hmt]; rfl
                  have hb4 : (v % 3 == 0) = true := by rw [hm3]; rfl
                  go_wp2_with fail
                  go_roundw
                  case rel => exact ⟨i + 1, pp, r2, ys, A4, n4, c4, Ag4, cg4, H4, rfl, by go_num, HJ3.out, by have hlQ := LQ.out; have hlS := LS.out; have hlR := LR.out; have hlE := LE.out; have hs0 := SS1.out; have hs1 := LWQ.out; have hs2 := SS2.out; have hs3 := SS3.out; have hs4 := LWS.out; have hs5 := SS4.out; have hs6 := SS5.out; have hs7 := LWR.out; have hs8 := SS6.out; have hs9 := LWE.out; have hs10 := LUS7.out; have hs11 := LUR7.out; have hs12 := SBR7.out; have hs13 := HBW.out; have hs14 := LUS8.out; have hs15 := LUR8.out; have hs16 := SBR8.out; have hs17 := HBW1.out; have hs18 := SS9.out; have hs19 := HL01.out; have hs20 := LUS10.out; have hs21 := LUR10.out; have hs22 := SBR10.out; have hs23 := HBW3.out; omega, fun h9 => absurd h9 (by omega), B10.out, S10.out, R10.out, I10.out, G10.out, L10.out⟩
                  case measure => simp [intOf]; omega
                · have hmt : v.tmod 3 ≠ 0 := by rw [Int.tmod_eq_emod_of_nonneg (by omega)]; exact hm3
                  have hb3 : (v.tmod 3 == 0) = false := beq_false_of_ne hmt
                  have hb4 : (v % 3 == 0) = false := beq_false_of_ne hm3
                  have cL : wr.cell? ⟨g3, i, none⟩ = some (.int .i64 y1) := by rw [← HGD.out]; exact own.cell_of L10.out hik
                  have hfr := bs.fr_rng f k
                  have hf0 := HF0.out
                  have hwd : IntKind.i64.wrap (y1 - f) = y1 - f := IntWalk.i64_in _ (by rw [HKA.out.2.2.1]; omega)
                  go_wp2_with fail
                  clear cL hfr hf0 hwd hm3 hmt hb3 hb4 h30i hvr
                  (with_reducible refine (hsh.specMod (y1 - f) 4096 (by omega) _).mono ?_)
                  rw [HKA.out.2.2.2]
                  rintro e wq ⟨rfl, rfl⟩
                  have hw8 : IntKind.u8.wrap (k : Int) = (k : Int) := IntWalk.u8_in _ (by have := HKT.out; omega)
                  go_upto_region 23 with fail
                  obtain ⟨⟨⟨r3, zs⟩, ll⟩, hxr⟩ : ∃ q, ro.recv (⟨r2, ys⟩ : Rob) y1 [(k : Int)] = q := ⟨_, rfl⟩
                  have HXR := Lib.hid hxr
                  obtain ⟨nn, hj4, hl4, hrc4, hmo4⟩ := HJ3.out.arr HKA.out.1 HKA.out.2.1
                  rw [← HKA.out.2.2.1, hxr] at hj4 hl4 hrc4 hmo4
                  have HJ4 := Lib.hid hj4
                  have HL4 := Lib.hid hl4
                  have HRC4 := Lib.hid hrc4
                  have HMO4 := Lib.hid hmo4
                  have HSM := Lib.hid (show ys.length ≤ 16 ∧ ∀ x ∈ ys, x.Body.length ≤ 100 from HJ3.out.small)
                  have HLG := Lib.hid G10.out.len
                  have HBR := Lib.hid (show bR < wr.heap.size ∧ bS < wr.heap.size ∧ H4 ≤ wr.heap.size ∧ be ≤ wr.heap.size ∧ l1 ≤ wr.heap.size by have h1 := R10.out.lt; have h2 := S10.out.lt; have h3 := G10.out.hi_; have h4 := L10.out.hi_; have hlQ := LQ.out; have hlS := LS.out; have hlR := LR.out; have hlE := LE.out; have hs0 := SS1.out; have hs1 := LWQ.out; have hs2 := SS2.out; have hs3 := SS3.out; have hs4 := LWS.out; have hs5 := SS4.out; have hs6 := SS5.out; have hs7 := LWR.out; have hs8 := SS6.out; have hs9 := LWE.out; have hs10 := LUS7.out; have hs11 := LUR7.out; have hs12 := SBR7.out; have hs13 := HBW.out; have hs14 := LUS8.out; have hs15 := LUR8.out; have hs16 := SBR8.out; have hs17 := HBW1.out; have hs18 := SS9.out; have hs19 := HL01.out; have hs20 := LUS10.out; have hs21 := LUR10.out; have hs22 := SBR10.out; have hs23 := HBW3.out; exact ⟨h1, h2, h3, by omega, h4⟩)
                  clear hxr hj4 hl4 hrc4 hmo4
                  refine reg.region_tailY (Er wr.heap.size) (fun _ _ => True) 14 155 [(13, 16)] [some [], some [], some [], some [(1, 83), (2, 84)], some [(3, 85)], some [], some [(5, 87)], some [(6, 88)], some [(0, 82), (4, 86), (7, 89)], some [(8, 90)], some [(9, 81)], some [(9, 81)], some [], some [(12, 16), (10, 91)], none] [(0, 82), (1, 83), (2, 84), (3, 85), (4, 86), (5, 87), (6, 88), (7, 89), (8, 90), (9, 81), (10, 91), (11, 92), (12, 16)]
                    (fun w' => Below wr.heap.size wr w')
                    (Rr wr.heap.size (⟨r3, zs⟩ : Rob) ll (k : Int) [(0, .agg #[.int .i64 r2, .slice A4 n4 c4]), (1, .slice (some ⟨g3, 0, none⟩) k3 c3), (2, .int .i64 ((i : Int))), (3, .pointer (some ⟨g3, i, none⟩)), (4, .int .i64 y1), (5, .int .i64 ((k : Int))), (6, .int .u8 (k : Int))])
                    (by kernel_rfl) rfl (by kernel_rfl) (by kernel_rfl) rfl
                    (fun i w1 w2 hc he => by unfold Er at he; by_cases i13 : i = 13; (rw [if_pos i13] at he; obtain ⟨q, cur, cs, _, hq, _, hp⟩ := he; exact hp.on hc hq); (rw [if_neg i13] at he; exact hc.trans (he.mono hc.size)))
                    rr_keep (fun _ _ _ _ _ _ _ _ => trivial) (own.below_drew (Below.refl _ _)) (fun _ => trivial) (by kernel_rfl) ⟨?_, ?_, ?_, ?_, ?_, ?_, ?_, ?_, ?_, ?_, ?_, ?_, ?_, ?_, trivial⟩ ?_
                  · refine fun w8 hc _  K hK => ?_
                    (try simp only [Act.put, List.setIfInBounds_toArray, List.set_cons_zero, List.set_cons_succ])
                    rw [if_pos (by rfl)]
                    refine stw.wp_load_bx 31 _ rfl (bR) rfl 31 _ (R10.out.below hc) Try.underlying31 rfl ux.szRob ?_
                    exact hK _ _ rfl (Below.refl _ _)
                  · refine fun w8 hc _  K hK => ?_
                    (try simp only [Act.put, List.setIfInBounds_toArray, List.set_cons_zero, List.set_cons_succ])
                    go_simp
                    exact hK (.slice (some ⟨g3, 0, none⟩) k3 c3) _ rfl (Below.refl _ _)
                  · refine fun w8 hc _  K hK => ?_
                    (try simp only [Act.put, List.setIfInBounds_toArray, List.set_cons_zero, List.set_cons_succ])
                    go_simp
                    exact hK (.int .i64 ((i : Int))) _ rfl (Below.refl _ _)
                  · refine fun w8 hc _ v1 h1 v2 h2 K hK => ?_
                    obtain rfl : v1 = .slice (some ⟨g3, 0, none⟩) k3 c3 := h1
                    obtain rfl : v2 = .int .i64 ((i : Int)) := h2
                    (try simp only [Act.put, List.setIfInBounds_toArray, List.set_cons_zero, List.set_cons_succ])
                    go_simp
                    exact hK (.pointer (some ⟨g3, i, none⟩)) _ rfl (Below.refl _ _)
                  · refine fun w8 hc _ v3 h3 K hK => ?_
                    obtain rfl : v3 = .pointer (some ⟨g3, i, none⟩) := h3
                    (try simp only [Act.put, List.setIfInBounds_toArray, List.set_cons_zero, List.set_cons_succ])
                    have c0 : w8.cell? ⟨g3, i, none⟩ = some (.int .i64 y1) := by rw [← HGD.out]; exact own.cell_of (L10.out.below hc) hik
                    go_simp
                    exact hK (.int .i64 y1) _ rfl (Below.refl _ _)
                  · refine fun w8 hc _  K hK => ?_
                    (try simp only [Act.put, List.setIfInBounds_toArray, List.set_cons_zero, List.set_cons_succ])
                    go_simp
                    exact hK (.int .i64 ((k : Int))) _ rfl (Below.refl _ _)
                  · refine fun w8 hc _ v5 h5 K hK => ?_
                    obtain rfl : v5 = .int .i64 ((k : Int)) := h5
                    (try simp only [Act.put, List.setIfInBounds_toArray, List.set_cons_zero, List.set_cons_succ])
                    go_simp
                    exact hK (.int .u8 (k : Int)) _ rfl (Below.refl _ _)
                  · refine fun w8 hc _ v6 h6 K hK => ?_
                    obtain rfl : v6 = .int .u8 (k : Int) := h6
                    (try simp only [Act.put, List.setIfInBounds_toArray, List.set_cons_zero, List.set_cons_succ])
                    go_simp
                    exact hK (.slice (some ⟨w8.heap.size, 0, none⟩) 1 1) _ ⟨_, rfl, Bx.made _ _ _⟩ (bx.below_box _ _)
                  · refine fun w8 hc _ v0 h0 v4 h4 v7 h7 K hK => ?_
                    obtain rfl : v0 = .agg #[.int .i64 r2, .slice A4 n4 c4] := h0
                    obtain rfl : v4 = .int .i64 y1 := h4
                    obtain ⟨q7, rfl, hq7⟩ : To (k : Int) v7 w8 := h7
                    (try simp only [Act.put, List.setIfInBounds_toArray, List.set_cons_zero, List.set_cons_succ])
                    go_simp
                    (with_reducible refine (ro.implRc r2 ys _ _ A4 n4 c4 y1 [(k : Int)] _ _ (some ⟨q7, 0, none⟩) 1 1 _ (G10.out.below hc).rr (by have h1 := HLG.out.1; have h2 := HSM.out.1; omega) (fun x hx => by have := HSM.out.2 x hx; omega) (rd_one hq7 (by have := HKT.out; omega))).mono ?_)
                    rintro e w3 hp
                    rw [HXR.out] at hp
                    obtain ⟨A5, n5, c5, f5, A6, n6, c6, f6, rfl, ho5, ho6, _, hb⟩ := ro.r2_parts hp
                    exact hK _ _ ⟨A5, n5, c5, f5, A6, n6, c6, f6, rfl, ho5.lower hc.size, ho6.lower hc.size⟩ hb
                  · refine fun w8 hc _ v8 h8 K hK => ?_
                    obtain ⟨A5, n5, c5, f5, A6, n6, c6, f6, rfl, hN5, hO6⟩ : Tp wr.heap.size (⟨r3, zs⟩ : Rob) ll v8 w8 := h8
                    (try simp only [Act.put, List.setIfInBounds_toArray, List.set_cons_zero, List.set_cons_succ])
                    go_simp
                    exact hK _ _ ⟨A5, n5, c5, f5, A6, n6, c6, f6, rfl, hN5, hO6⟩ (Below.refl _ _)
                  · refine fun w8 hc _ v9 h9 K hK => ?_
                    obtain ⟨A5, n5, c5, f5, A6, n6, c6, f6, rfl, hN5, hO6⟩ : Tp wr.heap.size (⟨r3, zs⟩ : Rob) ll v9 w8 := h9
                    (try simp only [Act.put, List.setIfInBounds_toArray, List.set_cons_zero, List.set_cons_succ])
                    go_simp
                    exact hK _ _ ⟨A5, n5, c5, f5, rfl, hN5⟩ (Below.refl _ _)
                  · refine fun w8 hc _ v9 h9 K hK => ?_
                    obtain ⟨A5, n5, c5, f5, A6, n6, c6, f6, rfl, hN5, hO6⟩ : Tp wr.heap.size (⟨r3, zs⟩ : Rob) ll v9 w8 := h9
                    (try simp only [Act.put, List.setIfInBounds_toArray, List.set_cons_zero, List.set_cons_succ])
                    go_simp
                    exact hK _ _ ⟨A6, n6, c6, f6, rfl, hO6⟩ (Below.refl _ _)
                  · refine fun w8 hc _  K hK => ?_
                    (try simp only [Act.put, List.setIfInBounds_toArray, List.set_cons_zero, List.set_cons_succ])
                    rw [if_pos (by rfl)]
                    have hge := hc.size
                    go_simp
                    exact hK (.pointer (some ⟨w8.heap.size, 0, none⟩)) _ ⟨w8.heap.size, #[.int .i64 0, .slice none 0 0], rfl, hge, rfl, Bx.made _ _ _⟩ (bx.below_box _ _)
                  · refine fun w8 hc _ v12 h12 v10 h10 K hK => ?_
                    obtain ⟨q12, cs12, rfl, hq12, hs12, hX12⟩ : Tq wr.heap.size v12 w8 := h12
                    obtain ⟨A5, n5, c5, f5, rfl, hN5⟩ : Ta wr.heap.size (⟨r3, zs⟩ : Rob) v10 w8 := h10
                    (try simp only [Act.put, List.setIfInBounds_toArray, List.set_cons_zero, List.set_cons_succ])
                    refine stw.step_store rfl 31 _ _ rfl (q12) #[.int .i64 r3, .slice A5 n5 c5] rfl rfl 31 _ hX12 (by rw [hs12]; rfl) ux.szRob (ux.oneRob _ _ _ _) ?_
                    intro wz hz
                    have hT : Tx wr.heap.size (⟨r3, zs⟩ : Rob) (.pointer (some ⟨q12, 0, none⟩)) wz := ⟨q12, A5, n5, c5, f5, rfl, hq12, hz.box, oo_put hN5 hz (not_rowN hX12 (by decide) (by decide) hN5.1)⟩
                    have hE : Er wr.heap.size 13 w8 wz := ⟨q12, cs12, #[.int .i64 r3, .slice A5 n5 c5], rfl, hq12, hX12, hz⟩
                    exact hK undef _ hT hE
                  refine fun wx7 hc v0 h0 v1 h1 v2 h2 v3 h3 v4 h4 v5 h5 v6 h6 v7 h7 v8 h8 v9 h9 v10 h10 v11 h11 v12 h12 => ?_
                  obtain rfl : v0 = .agg #[.int .i64 r2, .slice A4 n4 c4] := h0
                  obtain rfl : v1 = .slice (some ⟨g3, 0, none⟩) k3 c3 := h1
                  obtain rfl : v2 = .int .i64 ((i : Int)) := h2
                  obtain rfl : v3 = .pointer (some ⟨g3, i, none⟩) := h3
                  obtain rfl : v4 = .int .i64 y1 := h4
                  obtain rfl : v5 = .int .i64 ((k : Int)) := h5
                  obtain rfl : v6 = .int .u8 (k : Int) := h6
                  obtain ⟨q7, rfl, hq7⟩ : To (k : Int) v7 wx7 := h7
                  obtain ⟨A5, n5, c5, f5, A6, n6, c6, f6, rfl, hN5, hO6⟩ : Tp wr.heap.size (⟨r3, zs⟩ : Rob) ll v8 wx7 := h8
                  obtain ⟨A5, n5, c5, f5, A6, n6, c6, f6, rfl, hN5, hO6⟩ : Tp wr.heap.size (⟨r3, zs⟩ : Rob) ll v9 wx7 := h9
                  obtain ⟨A5, n5, c5, f5, rfl, hN5⟩ : Ta wr.heap.size (⟨r3, zs⟩ : Rob) v10 wx7 := h10
                  obtain ⟨A6, n6, c6, f6, rfl, hO6⟩ : Ts wr.heap.size ll v11 wx7 := h11
                  obtain ⟨q12, cs12, rfl, hq12, hs12, hX12⟩ : Tq wr.heap.size v12 wx7 := h12
                  (try simp only [reg.Obs])
                  intro hrf
                  simp only [Act.put, List.setIfInBounds_toArray, List.set_cons_zero, List.set_cons_succ] at hrf ⊢
                  have g13 := hrf (13, 16) (by simp) rfl
                  clear hrf
                  simp only [List.drop_succ_cons, List.drop_zero]
                  clear hN5
                  obtain ⟨q13, A5, n5, c5, f5, e13, hq13, hX13, hN5⟩ : Tx wr.heap.size (⟨r3, zs⟩ : Rob) (.pointer (some ⟨q12, 0, none⟩)) wx7 := g13
                  obtain rfl : q12 = q13 := by injection e13 with e13; injection e13 with e13; injection e13
                  have HX13 := Lib.hid hX13
                  have HQ13 := Lib.hid hq13
                  have HN5 := Lib.hid hN5.rd
                  have HO6 := Lib.hid hO6.rd
                  have hb := hc
                  clear hc hX13 hq13 hN5 hO6 hq12 hs12 hX12 e13 hw8
                  have SS11 := Lib.hid hb.size
                  have B11 := Lib.hid (B10.out.trans (hb.mono B10.out.size))
                  have S11 := Lib.hid (S10.out.below hb)
                  have R11 := Lib.hid (R10.out.below hb)
                  have I11 := Lib.hid (I10.out.below hb)
                  have G11 := Lib.hid (G10.out.below hb)
                  have L11 := Lib.hid (L10.out.below hb)
                  clear hb B10 S10 R10 I10 G10 L10
                  have X11 := HX13
                  have N11 := HN5
                  have O11 := HO6
                  clear HX13 HN5 HO6
                  have HX7 := Lib.hid (show wr.heap.size ≤ wx7.heap.size from SS11.out)
                  go_upto_region 24 with fail
                  go_upto_region 25 with (first | (refine stw.list_load rfl 31 _ rfl (q12) rfl 31 _ X11.out Try.underlying31 rfl ux.szRob ?_) | (refine stw.list_store rfl 31 _ _ rfl (bR) #[.int .i64 r3, .slice A5 n5 c5] rfl rfl 31 _ R11.out rfl ux.szRob (ux.oneRob _ _ _ _) ?_; intro wz12 hz))
                  have SS12 := Lib.hid hz.below.size
                  have B12 := Lib.hid (hz.on B11.out (by have hlQ := LQ.out; have hlS := LS.out; have hlR := LR.out; have hlE := LE.out; have hs0 := SS1.out; have hs1 := LWQ.out; have hs2 := SS2.out; have hs3 := SS3.out; have hs4 := LWS.out; have hs5 := SS4.out; have hs6 := SS5.out; have hs7 := LWR.out; have hs8 := SS6.out; have hs9 := LWE.out; have hs10 := LUS7.out; have hs11 := LUR7.out; have hs12 := SBR7.out; have hs13 := HBW.out; have hs14 := LUS8.out; have hs15 := LUR8.out; have hs16 := SBR8.out; have hs17 := HBW1.out; have hs18 := SS9.out; have hs19 := HL01.out; have hs20 := LUS10.out; have hs21 := LUR10.out; have hs22 := SBR10.out; have hs23 := HBW3.out; have hs24 := SS11.out; have hs25 := HQ13.out; have hs26 := HBR.out; have hs27 := SS12.out; first | omega | (simp <;> omega)))
                  have S12 := Lib.hid (hz.keep S11.out (by have hlQ := LQ.out; have hlS := LS.out; have hlR := LR.out; have hlE := LE.out; have hs0 := SS1.out; have hs1 := LWQ.out; have hs2 := SS2.out; have hs3 := SS3.out; have hs4 := LWS.out; have hs5 := SS4.out; have hs6 := SS5.out; have hs7 := LWR.out; have hs8 := SS6.out; have hs9 := LWE.out; have hs10 := LUS7.out; have hs11 := LUR7.out; have hs12 := SBR7.out; have hs13 := HBW.out; have hs14 := LUS8.out; have hs15 := LUR8.out; have hs16 := SBR8.out; have hs17 := HBW1.out; have hs18 := SS9.out; have hs19 := HL01.out; have hs20 := LUS10.out; have hs21 := LUR10.out; have hs22 := SBR10.out; have hs23 := HBW3.out; have hs24 := SS11.out; have hs25 := HQ13.out; have hs26 := HBR.out; have hs27 := SS12.out; first | omega | (simp <;> omega)))
                  have R12 := Lib.hid (hz.box)
                  have X12 := Lib.hid (hz.keep X11.out (by have hlQ := LQ.out; have hlS := LS.out; have hlR := LR.out; have hlE := LE.out; have hs0 := SS1.out; have hs1 := LWQ.out; have hs2 := SS2.out; have hs3 := SS3.out; have hs4 := LWS.out; have hs5 := SS4.out; have hs6 := SS5.out; have hs7 := LWR.out; have hs8 := SS6.out; have hs9 := LWE.out; have hs10 := LUS7.out; have hs11 := LUR7.out; have hs12 := SBR7.out; have hs13 := HBW.out; have hs14 := LUS8.out; have hs15 := LUR8.out; have hs16 := SBR8.out; have hs17 := HBW1.out; have hs18 := SS9.out; have hs19 := HL01.out; have hs20 := LUS10.out; have hs21 := LUR10.out; have hs22 := SBR10.out; have hs23 := HBW3.out; have hs24 := SS11.out; have hs25 := HQ13.out; have hs26 := HBR.out; have hs27 := SS12.out; first | omega | (simp <;> omega)))
                  have I12 := Lib.hid (I11.out.same hz.below.size fun b h1 h2 => hz.other b (by have hlQ := LQ.out; have hlS := LS.out; have hlR := LR.out; have hlE := LE.out; have hs0 := SS1.out; have hs1 := LWQ.out; have hs2 := SS2.out; have hs3 := SS3.out; have hs4 := LWS.out; have hs5 := SS4.out; have hs6 := SS5.out; have hs7 := LWR.out; have hs8 := SS6.out; have hs9 := LWE.out; have hs10 := LUS7.out; have hs11 := LUR7.out; have hs12 := SBR7.out; have hs13 := HBW.out; have hs14 := LUS8.out; have hs15 := LUR8.out; have hs16 := SBR8.out; have hs17 := HBW1.out; have hs18 := SS9.out; have hs19 := HL01.out; have hs20 := LUS10.out; have hs21 := LUR10.out; have hs22 := SBR10.out; have hs23 := HBW3.out; have hs24 := SS11.out; have hs25 := HQ13.out; have hs26 := HBR.out; have hs27 := SS12.out; first | omega | (simp <;> omega)))
                  have G12 := Lib.hid (G11.out.same hz.below.size fun b h1 h2 => hz.other b (by have hlQ := LQ.out; have hlS := LS.out; have hlR := LR.out; have hlE := LE.out; have hs0 := SS1.out; have hs1 := LWQ.out; have hs2 := SS2.out; have hs3 := SS3.out; have hs4 := LWS.out; have hs5 := SS4.out; have hs6 := SS5.out; have hs7 := LWR.out; have hs8 := SS6.out; have hs9 := LWE.out; have hs10 := LUS7.out; have hs11 := LUR7.out; have hs12 := SBR7.out; have hs13 := HBW.out; have hs14 := LUS8.out; have hs15 := LUR8.out; have hs16 := SBR8.out; have hs17 := HBW1.out; have hs18 := SS9.out; have hs19 := HL01.out; have hs20 := LUS10.out; have hs21 := LUR10.out; have hs22 := SBR10.out; have hs23 := HBW3.out; have hs24 := SS11.out; have hs25 := HQ13.out; have hs26 := HBR.out; have hs27 := SS12.out; first | omega | (simp <;> omega)))
                  have L12 := Lib.hid (L11.out.same hz.below.size fun b h1 h2 => hz.other b (by have hlQ := LQ.out; have hlS := LS.out; have hlR := LR.out; have hlE := LE.out; have hs0 := SS1.out; have hs1 := LWQ.out; have hs2 := SS2.out; have hs3 := SS3.out; have hs4 := LWS.out; have hs5 := SS4.out; have hs6 := SS5.out; have hs7 := LWR.out; have hs8 := SS6.out; have hs9 := LWE.out; have hs10 := LUS7.out; have hs11 := LUR7.out; have hs12 := SBR7.out; have hs13 := HBW.out; have hs14 := LUS8.out; have hs15 := LUR8.out; have hs16 := SBR8.out; have hs17 := HBW1.out; have hs18 := SS9.out; have hs19 := HL01.out; have hs20 := LUS10.out; have hs21 := LUR10.out; have hs22 := SBR10.out; have hs23 := HBW3.out; have hs24 := SS11.out; have hs25 := HQ13.out; have hs26 := HBR.out; have hs27 := SS12.out; first | omega | (simp <;> omega)))
                  have N12 := Lib.hid (N11.out.same hz.below.size fun b h1 h2 => hz.other b (by have hlQ := LQ.out; have hlS := LS.out; have hlR := LR.out; have hlE := LE.out; have hs0 := SS1.out; have hs1 := LWQ.out; have hs2 := SS2.out; have hs3 := SS3.out; have hs4 := LWS.out; have hs5 := SS4.out; have hs6 := SS5.out; have hs7 := LWR.out; have hs8 := SS6.out; have hs9 := LWE.out; have hs10 := LUS7.out; have hs11 := LUR7.out; have hs12 := SBR7.out; have hs13 := HBW.out; have hs14 := LUS8.out; have hs15 := LUR8.out; have hs16 := SBR8.out; have hs17 := HBW1.out; have hs18 := SS9.out; have hs19 := HL01.out; have hs20 := LUS10.out; have hs21 := LUR10.out; have hs22 := SBR10.out; have hs23 := HBW3.out; have hs24 := SS11.out; have hs25 := HQ13.out; have hs26 := HBR.out; have hs27 := SS12.out; first | omega | (simp <;> omega)))
                  have O12 := Lib.hid (O11.out.same hz.below.size fun b h1 h2 => hz.other b (by have hlQ := LQ.out; have hlS := LS.out; have hlR := LR.out; have hlE := LE.out; have hs0 := SS1.out; have hs1 := LWQ.out; have hs2 := SS2.out; have hs3 := SS3.out; have hs4 := LWS.out; have hs5 := SS4.out; have hs6 := SS5.out; have hs7 := LWR.out; have hs8 := SS6.out; have hs9 := LWE.out; have hs10 := LUS7.out; have hs11 := LUR7.out; have hs12 := SBR7.out; have hs13 := HBW.out; have hs14 := LUS8.out; have hs15 := LUR8.out; have hs16 := SBR8.out; have hs17 := HBW1.out; have hs18 := SS9.out; have hs19 := HL01.out; have hs20 := LUS10.out; have hs21 := LUR10.out; have hs22 := SBR10.out; have hs23 := HBW3.out; have hs24 := SS11.out; have hs25 := HQ13.out; have hs26 := HBR.out; have hs27 := SS12.out; first | omega | (simp <;> omega)))
                  clear hz B11 S11 R11 X11 I11 G11 L11 N11 O11
                  obtain ⟨rfl⟩ : PLift (ll = (List.range nn).map (one pp)) := ⟨HL4.out⟩
                  have HNN := Lib.hid (show n6 = nn by obtain ⟨_, _, _, e9, h9, _⟩ := O12.out; injection e9 with _ e9 _; rw [e9, ← h9]; simp)
                  have HPP := Lib.hid (show pp ≤ 20 by have h1 := HJ3.out.hA; have h2 := HJ3.out.le; omega)
                  have HNL := Lib.hid (show nn ≤ 20 by have h1 := HJ4.out.hA; have h2 := HJ4.out.le; omega)
                  go_wp2_with (at_builtin; refine list_gr rfl _ _ rfl rfl rfl G12.out HBR.out.2.2.1 HBR.out.2.2.2.1 N12.out O12.out N12.out.hi_ HX7.out (by have h1 := HNN.out; have h2 := HPP.out; have h3 := HNL.out; omega) ?_; intro A7 c7 w7 hg7 hk7)
                  have HG7 := Lib.hid hg7
                  have HK7 := Lib.hid hk7
                  clear hg7 hk7
                  have HQB := Lib.hid G12.out.blk
                  have B13 := Lib.hid (B12.out.trans (ux.ks_bel HK7.out (fun q hq => by have h9 := HQB.out q hq; have hlQ := LQ.out; have hlS := LS.out; have hlR := LR.out; have hlE := LE.out; have hs0 := SS1.out; have hs1 := LWQ.out; have hs2 := SS2.out; have hs3 := SS3.out; have hs4 := LWS.out; have hs5 := SS4.out; have hs6 := SS5.out; have hs7 := LWR.out; have hs8 := SS6.out; have hs9 := LWE.out; have hs10 := LUS7.out; have hs11 := LUR7.out; have hs12 := SBR7.out; have hs13 := HBW.out; have hs14 := LUS8.out; have hs15 := LUR8.out; have hs16 := SBR8.out; have hs17 := HBW1.out; have hs18 := SS9.out; have hs19 := HL01.out; have hs20 := LUS10.out; have hs21 := LUR10.out; have hs22 := SBR10.out; have hs23 := HBW3.out; have hs24 := SS11.out; have hs25 := HQ13.out; have hs26 := HBR.out; have hs27 := SS12.out; omega) B12.out.size))
                  have S13 := Lib.hid (ux.bx_ks S12.out HK7.out (fun hm => by have h9 := HQB.out _ hm; have hlQ := LQ.out; have hlS := LS.out; have hlR := LR.out; have hlE := LE.out; have hs0 := SS1.out; have hs1 := LWQ.out; have hs2 := SS2.out; have hs3 := SS3.out; have hs4 := LWS.out; have hs5 := SS4.out; have hs6 := SS5.out; have hs7 := LWR.out; have hs8 := SS6.out; have hs9 := LWE.out; have hs10 := LUS7.out; have hs11 := LUR7.out; have hs12 := SBR7.out; have hs13 := HBW.out; have hs14 := LUS8.out; have hs15 := LUR8.out; have hs16 := SBR8.out; have hs17 := HBW1.out; have hs18 := SS9.out; have hs19 := HL01.out; have hs20 := LUS10.out; have hs21 := LUR10.out; have hs22 := SBR10.out; have hs23 := HBW3.out; have hs24 := SS11.out; have hs25 := HQ13.out; have hs26 := HBR.out; have hs27 := SS12.out; omega))
                  have R13 := Lib.hid (ux.bx_ks R12.out HK7.out (fun hm => by have h9 := HQB.out _ hm; have hlQ := LQ.out; have hlS := LS.out; have hlR := LR.out; have hlE := LE.out; have hs0 := SS1.out; have hs1 := LWQ.out; have hs2 := SS2.out; have hs3 := SS3.out; have hs4 := LWS.out; have hs5 := SS4.out; have hs6 := SS5.out; have hs7 := LWR.out; have hs8 := SS6.out; have hs9 := LWE.out; have hs10 := LUS7.out; have hs11 := LUR7.out; have hs12 := SBR7.out; have hs13 := HBW.out; have hs14 := LUS8.out; have hs15 := LUR8.out; have hs16 := SBR8.out; have hs17 := HBW1.out; have hs18 := SS9.out; have hs19 := HL01.out; have hs20 := LUS10.out; have hs21 := LUR10.out; have hs22 := SBR10.out; have hs23 := HBW3.out; have hs24 := SS11.out; have hs25 := HQ13.out; have hs26 := HBR.out; have hs27 := SS12.out; omega))
                  have I13 := Lib.hid (I12.out.same HK7.out.size fun b h1 h2 => HK7.out.block b (by have h8 := I12.out.hi_; omega) (fun hm => by have h9 := HQB.out _ hm; have hlQ := LQ.out; have hlS := LS.out; have hlR := LR.out; have hlE := LE.out; have hs0 := SS1.out; have hs1 := LWQ.out; have hs2 := SS2.out; have hs3 := SS3.out; have hs4 := LWS.out; have hs5 := SS4.out; have hs6 := SS5.out; have hs7 := LWR.out; have hs8 := SS6.out; have hs9 := LWE.out; have hs10 := LUS7.out; have hs11 := LUR7.out; have hs12 := SBR7.out; have hs13 := HBW.out; have hs14 := LUS8.out; have hs15 := LUR8.out; have hs16 := SBR8.out; have hs17 := HBW1.out; have hs18 := SS9.out; have hs19 := HL01.out; have hs20 := LUS10.out; have hs21 := LUR10.out; have hs22 := SBR10.out; have hs23 := HBW3.out; have hs24 := SS11.out; have hs25 := HQ13.out; have hs26 := HBR.out; have hs27 := SS12.out; omega))
                  have L13 := Lib.hid (ux.ow_as L12.out HK7.out.size fun b hb => HK7.out.block b (by have h8 := L12.out.hi_; have h7 := ux.ow_in L12.out b hb; omega) (G12.out.ne L12.out b hb))
                  have G13 := Lib.hid (show GR be w7.heap.size w7 A5 n5 c5 zs A7 (pp + nn) c7 (Gt (pp + nn)) by have h1 := HG7.out; rw [gt_more, HNN.out] at h1; exact h1)
                  rw [HNN.out]
                  go_roundw
                  case rel => exact ⟨i + 1, pp + nn, r3, zs, A5, n5, c5, A7, c7, w7.heap.size, rfl, by go_num, HJ4.out, by have hlQ := LQ.out; have hlS := LS.out; have hlR := LR.out; have hlE := LE.out; have hs0 := SS1.out; have hs1 := LWQ.out; have hs2 := SS2.out; have hs3 := SS3.out; have hs4 := LWS.out; have hs5 := SS4.out; have hs6 := SS5.out; have hs7 := LWR.out; have hs8 := SS6.out; have hs9 := LWE.out; have hs10 := LUS7.out; have hs11 := LUR7.out; have hs12 := SBR7.out; have hs13 := HBW.out; have hs14 := LUS8.out; have hs15 := LUR8.out; have hs16 := SBR8.out; have hs17 := HBW1.out; have hs18 := SS9.out; have hs19 := HL01.out; have hs20 := LUS10.out; have hs21 := LUR10.out; have hs22 := SBR10.out; have hs23 := HBW3.out; have hs24 := SS11.out; have hs25 := HQ13.out; have hs26 := HBR.out; have hs27 := SS12.out; have h9 := HK7.out.size; omega, fun h9 q y hq hy k9 hk9 hk8 hk7 => by rcases Nat.lt_or_ge q i with h1 | h1; exact HMO4.out _ (HRC.out h9 q y h1 hy k9 hk9 hk8 hk7); (obtain rfl : i = q := (by omega); have h2 := HGE.out.symm.trans hy; obtain rfl : y1 = y := Option.some.inj h2; obtain rfl : k = k9 := (by have h3 := HKA.out.2.2.1; rw [hk9] at h3; unfold fr at h3; have h4 := HKA.out.2.1; have h5 := HJ3.out.le; omega); exact HRC4.out), B13.out, S13.out, R13.out, I13.out, G13.out, L13.out⟩
                  case measure => simp [intOf]; omega
              · have h30i : ¬ (rd : Int) < 30 := by omega
                have cL : wr.cell? ⟨g3, i, none⟩ = some (.int .i64 y1) := by rw [← HGD.out]; exact own.cell_of L10.out hik
                have hfr := bs.fr_rng f k
                have hf0 := HF0.out
                have hwd : IntKind.i64.wrap (y1 - f) = y1 - f := IntWalk.i64_in _ (by rw [HKA.out.2.2.1]; omega)
                go_wp2_with fail
                clear cL hfr hf0 hwd h30i
                (with_reducible refine (hsh.specMod (y1 - f) 4096 (by omega) _).mono ?_)
                rw [HKA.out.2.2.2]
                rintro e wq ⟨rfl, rfl⟩
                have hw8 : IntKind.u8.wrap (k : Int) = (k : Int) := IntWalk.u8_in _ (by have := HKT.out; omega)
                go_upto_region 23 with fail
                obtain ⟨⟨⟨r3, zs⟩, ll⟩, hxr⟩ : ∃ q, ro.recv (⟨r2, ys⟩ : Rob) y1 [(k : Int)] = q := ⟨_, rfl⟩
                have HXR := Lib.hid hxr
                obtain ⟨nn, hj4, hl4, hrc4, hmo4⟩ := HJ3.out.arr HKA.out.1 HKA.out.2.1
                rw [← HKA.out.2.2.1, hxr] at hj4 hl4 hrc4 hmo4
                have HJ4 := Lib.hid hj4
                have HL4 := Lib.hid hl4
                have HRC4 := Lib.hid hrc4
                have HMO4 := Lib.hid hmo4
                have HSM := Lib.hid (show ys.length ≤ 16 ∧ ∀ x ∈ ys, x.Body.length ≤ 100 from HJ3.out.small)
                have HLG := Lib.hid G10.out.len
                have HBR := Lib.hid (show bR < wr.heap.size ∧ bS < wr.heap.size ∧ H4 ≤ wr.heap.size ∧ be ≤ wr.heap.size ∧ l1 ≤ wr.heap.size by have h1 := R10.out.lt; have h2 := S10.out.lt; have h3 := G10.out.hi_; have h4 := L10.out.hi_; have hlQ := LQ.out; have hlS := LS.out; have hlR := LR.out; have hlE := LE.out; have hs0 := SS1.out; have hs1 := LWQ.out; have hs2 := SS2.out; have hs3 := SS3.out; have hs4 := LWS.out; have hs5 := SS4.out; have hs6 := SS5.out; have hs7 := LWR.out; have hs8 := SS6.out; have hs9 := LWE.out; have hs10 := LUS7.out; have hs11 := LUR7.out; have hs12 := SBR7.out; have hs13 := HBW.out; have hs14 := LUS8.out; have hs15 := LUR8.out; have hs16 := SBR8.out; have hs17 := HBW1.out; have hs18 := SS9.out; have hs19 := HL01.out; have hs20 := LUS10.out; have hs21 := LUR10.out; have hs22 := SBR10.out; have hs23 := HBW3.out; exact ⟨h1, h2, h3, by omega, h4⟩)
                clear hxr hj4 hl4 hrc4 hmo4
                refine reg.region_tailY (Er wr.heap.size) (fun _ _ => True) 14 155 [(13, 16)] [some [], some [], some [], some [(1, 83), (2, 84)], some [(3, 85)], some [], some [(5, 87)], some [(6, 88)], some [(0, 82), (4, 86), (7, 89)], some [(8, 90)], some [(9, 81)], some [(9, 81)], some [], some [(12, 16), (10, 91)], none] [(0, 82), (1, 83), (2, 84), (3, 85), (4, 86), (5, 87), (6, 88), (7, 89), (8, 90), (9, 81), (10, 91), (11, 92), (12, 16)]
                  (fun w' => Below wr.heap.size wr w')
                  (Rr wr.heap.size (⟨r3, zs⟩ : Rob) ll (k : Int) [(0, .agg #[.int .i64 r2, .slice A4 n4 c4]), (1, .slice (some ⟨g3, 0, none⟩) k3 c3), (2, .int .i64 ((i : Int))), (3, .pointer (some ⟨g3, i, none⟩)), (4, .int .i64 y1), (5, .int .i64 ((k : Int))), (6, .int .u8 (k : Int))])
                  (by kernel_rfl) rfl (by kernel_rfl) (by kernel_rfl) rfl
                  (fun i w1 w2 hc he => by unfold Er at he; by_cases i13 : i = 13; (rw [if_pos i13] at he; obtain ⟨q, cur, cs, _, hq, _, hp⟩ := he; exact hp.on hc hq); (rw [if_neg i13] at he; exact hc.trans (he.mono hc.size)))
                  rr_keep (fun _ _ _ _ _ _ _ _ => trivial) (own.below_drew (Below.refl _ _)) (fun _ => trivial) (by kernel_rfl) ⟨?_, ?_, ?_, ?_, ?_, ?_, ?_, ?_, ?_, ?_, ?_, ?_, ?_, ?_, trivial⟩ ?_
                · refine fun w8 hc _  K hK => ?_
                  (try simp only [Act.put, List.setIfInBounds_toArray, List.set_cons_zero, List.set_cons_succ])
                  rw [if_pos (by rfl)]
                  refine stw.wp_load_bx 31 _ rfl (bR) rfl 31 _ (R10.out.below hc) Try.underlying31 rfl ux.szRob ?_
                  exact hK _ _ rfl (Below.refl _ _)
                · refine fun w8 hc _  K hK => ?_
                  (try simp only [Act.put, List.setIfInBounds_toArray, List.set_cons_zero, List.set_cons_succ])
                  go_simp
                  exact hK (.slice (some ⟨g3, 0, none⟩) k3 c3) _ rfl (Below.refl _ _)
                · refine fun w8 hc _  K hK => ?_
                  (try simp only [Act.put, List.setIfInBounds_toArray, List.set_cons_zero, List.set_cons_succ])
                  go_simp
                  exact hK (.int .i64 ((i : Int))) _ rfl (Below.refl _ _)
                · refine fun w8 hc _ v1 h1 v2 h2 K hK => ?_
                  obtain rfl : v1 = .slice (some ⟨g3, 0, none⟩) k3 c3 := h1
                  obtain rfl : v2 = .int .i64 ((i : Int)) := h2
                  (try simp only [Act.put, List.setIfInBounds_toArray, List.set_cons_zero, List.set_cons_succ])
                  go_simp
                  exact hK (.pointer (some ⟨g3, i, none⟩)) _ rfl (Below.refl _ _)
                · refine fun w8 hc _ v3 h3 K hK => ?_
                  obtain rfl : v3 = .pointer (some ⟨g3, i, none⟩) := h3
                  (try simp only [Act.put, List.setIfInBounds_toArray, List.set_cons_zero, List.set_cons_succ])
                  have c0 : w8.cell? ⟨g3, i, none⟩ = some (.int .i64 y1) := by rw [← HGD.out]; exact own.cell_of (L10.out.below hc) hik
                  go_simp
                  exact hK (.int .i64 y1) _ rfl (Below.refl _ _)
                · refine fun w8 hc _  K hK => ?_
                  (try simp only [Act.put, List.setIfInBounds_toArray, List.set_cons_zero, List.set_cons_succ])
                  go_simp
                  exact hK (.int .i64 ((k : Int))) _ rfl (Below.refl _ _)
                · refine fun w8 hc _ v5 h5 K hK => ?_
                  obtain rfl : v5 = .int .i64 ((k : Int)) := h5
                  (try simp only [Act.put, List.setIfInBounds_toArray, List.set_cons_zero, List.set_cons_succ])
                  go_simp
                  exact hK (.int .u8 (k : Int)) _ rfl (Below.refl _ _)
                · refine fun w8 hc _ v6 h6 K hK => ?_
                  obtain rfl : v6 = .int .u8 (k : Int) := h6
                  (try simp only [Act.put, List.setIfInBounds_toArray, List.set_cons_zero, List.set_cons_succ])
                  go_simp
                  exact hK (.slice (some ⟨w8.heap.size, 0, none⟩) 1 1) _ ⟨_, rfl, Bx.made _ _ _⟩ (bx.below_box _ _)
                · refine fun w8 hc _ v0 h0 v4 h4 v7 h7 K hK => ?_
                  obtain rfl : v0 = .agg #[.int .i64 r2, .slice A4 n4 c4] := h0
                  obtain rfl : v4 = .int .i64 y1 := h4
                  obtain ⟨q7, rfl, hq7⟩ : To (k : Int) v7 w8 := h7
                  (try simp only [Act.put, List.setIfInBounds_toArray, List.set_cons_zero, List.set_cons_succ])
                  go_simp
                  (with_reducible refine (ro.implRc r2 ys _ _ A4 n4 c4 y1 [(k : Int)] _ _ (some ⟨q7, 0, none⟩) 1 1 _ (G10.out.below hc).rr (by have h1 := HLG.out.1; have h2 := HSM.out.1; omega) (fun x hx => by have := HSM.out.2 x hx; omega) (rd_one hq7 (by have := HKT.out; omega))).mono ?_)
                  rintro e w3 hp
                  rw [HXR.out] at hp
                  obtain ⟨A5, n5, c5, f5, A6, n6, c6, f6, rfl, ho5, ho6, _, hb⟩ := ro.r2_parts hp
                  exact hK _ _ ⟨A5, n5, c5, f5, A6, n6, c6, f6, rfl, ho5.lower hc.size, ho6.lower hc.size⟩ hb
                · refine fun w8 hc _ v8 h8 K hK => ?_
                  obtain ⟨A5, n5, c5, f5, A6, n6, c6, f6, rfl, hN5, hO6⟩ : Tp wr.heap.size (⟨r3, zs⟩ : Rob) ll v8 w8 := h8
                  (try simp only [Act.put, List.setIfInBounds_toArray, List.set_cons_zero, List.set_cons_succ])
                  go_simp
                  exact hK _ _ ⟨A5, n5, c5, f5, A6, n6, c6, f6, rfl, hN5, hO6⟩ (Below.refl _ _)
                · refine fun w8 hc _ v9 h9 K hK => ?_
                  obtain ⟨A5, n5, c5, f5, A6, n6, c6, f6, rfl, hN5, hO6⟩ : Tp wr.heap.size (⟨r3, zs⟩ : Rob) ll v9 w8 := h9
                  (try simp only [Act.put, List.setIfInBounds_toArray, List.set_cons_zero, List.set_cons_succ])
                  go_simp
                  exact hK _ _ ⟨A5, n5, c5, f5, rfl, hN5⟩ (Below.refl _ _)
                · refine fun w8 hc _ v9 h9 K hK => ?_
                  obtain ⟨A5, n5, c5, f5, A6, n6, c6, f6, rfl, hN5, hO6⟩ : Tp wr.heap.size (⟨r3, zs⟩ : Rob) ll v9 w8 := h9
                  (try simp only [Act.put, List.setIfInBounds_toArray, List.set_cons_zero, List.set_cons_succ])
                  go_simp
                  exact hK _ _ ⟨A6, n6, c6, f6, rfl, hO6⟩ (Below.refl _ _)
                · refine fun w8 hc _  K hK => ?_
                  (try simp only [Act.put, List.setIfInBounds_toArray, List.set_cons_zero, List.set_cons_succ])
                  rw [if_pos (by rfl)]
                  have hge := hc.size
                  go_simp
                  exact hK (.pointer (some ⟨w8.heap.size, 0, none⟩)) _ ⟨w8.heap.size, #[.int .i64 0, .slice none 0 0], rfl, hge, rfl, Bx.made _ _ _⟩ (bx.below_box _ _)
                · refine fun w8 hc _ v12 h12 v10 h10 K hK => ?_
                  obtain ⟨q12, cs12, rfl, hq12, hs12, hX12⟩ : Tq wr.heap.size v12 w8 := h12
                  obtain ⟨A5, n5, c5, f5, rfl, hN5⟩ : Ta wr.heap.size (⟨r3, zs⟩ : Rob) v10 w8 := h10
                  (try simp only [Act.put, List.setIfInBounds_toArray, List.set_cons_zero, List.set_cons_succ])
                  refine stw.step_store rfl 31 _ _ rfl (q12) #[.int .i64 r3, .slice A5 n5 c5] rfl rfl 31 _ hX12 (by rw [hs12]; rfl) ux.szRob (ux.oneRob _ _ _ _) ?_
                  intro wz hz
                  have hT : Tx wr.heap.size (⟨r3, zs⟩ : Rob) (.pointer (some ⟨q12, 0, none⟩)) wz := ⟨q12, A5, n5, c5, f5, rfl, hq12, hz.box, oo_put hN5 hz (not_rowN hX12 (by decide) (by decide) hN5.1)⟩
                  have hE : Er wr.heap.size 13 w8 wz := ⟨q12, cs12, #[.int .i64 r3, .slice A5 n5 c5], rfl, hq12, hX12, hz⟩
                  exact hK undef _ hT hE
                refine fun wx7 hc v0 h0 v1 h1 v2 h2 v3 h3 v4 h4 v5 h5 v6 h6 v7 h7 v8 h8 v9 h9 v10 h10 v11 h11 v12 h12 => ?_
                obtain rfl : v0 = .agg #[.int .i64 r2, .slice A4 n4 c4] := h0
                obtain rfl : v1 = .slice (some ⟨g3, 0, none⟩) k3 c3 := h1
                obtain rfl : v2 = .int .i64 ((i : Int)) := h2
                obtain rfl : v3 = .pointer (some ⟨g3, i, none⟩) := h3
                obtain rfl : v4 = .int .i64 y1 := h4
                obtain rfl : v5 = .int .i64 ((k : Int)) := h5
                obtain rfl : v6 = .int .u8 (k : Int) := h6
                obtain ⟨q7, rfl, hq7⟩ : To (k : Int) v7 wx7 := h7
                obtain ⟨A5, n5, c5, f5, A6, n6, c6, f6, rfl, hN5, hO6⟩ : Tp wr.heap.size (⟨r3, zs⟩ : Rob) ll v8 wx7 := h8
                obtain ⟨A5, n5, c5, f5, A6, n6, c6, f6, rfl, hN5, hO6⟩ : Tp wr.heap.size (⟨r3, zs⟩ : Rob) ll v9 wx7 := h9
                obtain ⟨A5, n5, c5, f5, rfl, hN5⟩ : Ta wr.heap.size (⟨r3, zs⟩ : Rob) v10 wx7 := h10
                obtain ⟨A6, n6, c6, f6, rfl, hO6⟩ : Ts wr.heap.size ll v11 wx7 := h11
                obtain ⟨q12, cs12, rfl, hq12, hs12, hX12⟩ : Tq wr.heap.size v12 wx7 := h12
                (try simp only [reg.Obs])
                intro hrf
                simp only [Act.put, List.setIfInBounds_toArray, List.set_cons_zero, List.set_cons_succ] at hrf ⊢
                have g13 := hrf (13, 16) (by simp) rfl
                clear hrf
                simp only [List.drop_succ_cons, List.drop_zero]
                clear hN5
                obtain ⟨q13, A5, n5, c5, f5, e13, hq13, hX13, hN5⟩ : Tx wr.heap.size (⟨r3, zs⟩ : Rob) (.pointer (some ⟨q12, 0, none⟩)) wx7 := g13
                obtain rfl : q12 = q13 := by injection e13 with e13; injection e13 with e13; injection e13
                have HX13 := Lib.hid hX13
                have HQ13 := Lib.hid hq13
                have HN5 := Lib.hid hN5.rd
                have HO6 := Lib.hid hO6.rd
                have hb := hc
                clear hc hX13 hq13 hN5 hO6 hq12 hs12 hX12 e13 hw8
                have SS11 := Lib.hid hb.size
                have B11 := Lib.hid (B10.out.trans (hb.mono B10.out.size))
                have S11 := Lib.hid (S10.out.below hb)
                have R11 := Lib.hid (R10.out.below hb)
                have I11 := Lib.hid (I10.out.below hb)
                have G11 := Lib.hid (G10.out.below hb)
                have L11 := Lib.hid (L10.out.below hb)
                clear hb B10 S10 R10 I10 G10 L10
                have X11 := HX13
                have N11 := HN5
                have O11 := HO6
                clear HX13 HN5 HO6
                have HX7 := Lib.hid (show wr.heap.size ≤ wx7.heap.size from SS11.out)
                go_upto_region 24 with fail
                go_upto_region 25 with (first | (refine stw.list_load rfl 31 _ rfl (q12) rfl 31 _ X11.out Try.underlying31 rfl ux.szRob ?_) | (refine stw.list_store rfl 31 _ _ rfl (bR) #[.int .i64 r3, .slice A5 n5 c5] rfl rfl 31 _ R11.out rfl ux.szRob (ux.oneRob _ _ _ _) ?_; intro wz12 hz))
                have SS12 := Lib.hid hz.below.size
                have B12 := Lib.hid (hz.on B11.out (by have hlQ := LQ.out; have hlS := LS.out; have hlR := LR.out; have hlE := LE.out; have hs0 := SS1.out; have hs1 := LWQ.out; have hs2 := SS2.out; have hs3 := SS3.out; have hs4 := LWS.out; have hs5 := SS4.out; have hs6 := SS5.out; have hs7 := LWR.out; have hs8 := SS6.out; have hs9 := LWE.out; have hs10 := LUS7.out; have hs11 := LUR7.out; have hs12 := SBR7.out; have hs13 := HBW.out; have hs14 := LUS8.out; have hs15 := LUR8.out; have hs16 := SBR8.out; have hs17 := HBW1.out; have hs18 := SS9.out; have hs19 := HL01.out; have hs20 := LUS10.out; have hs21 := LUR10.out; have hs22 := SBR10.out; have hs23 := HBW3.out; have hs24 := SS11.out; have hs25 := HQ13.out; have hs26 := HBR.out; have hs27 := SS12.out; first | omega | (simp <;> omega)))
                have S12 := Lib.hid (hz.keep S11.out (by have hlQ := LQ.out; have hlS := LS.out; have hlR := LR.out; have hlE := LE.out; have hs0 := SS1.out; have hs1 := LWQ.out; have hs2 := SS2.out; have hs3 := SS3.out; have hs4 := LWS.out; have hs5 := SS4.out; have hs6 := SS5.out; have hs7 := LWR.out; have hs8 := SS6.out; have hs9 := LWE.out; have hs10 := LUS7.out; have hs11 := LUR7.out; have hs12 := SBR7.out; have hs13 := HBW.out; have hs14 := LUS8.out; have hs15 := LUR8.out; have hs16 := SBR8.out; have hs17 := HBW1.out; have hs18 := SS9.out; have hs19 := HL01.out; have hs20 := LUS10.out; have hs21 := LUR10.out; have hs22 := SBR10.out; have hs23 := HBW3.out; have hs24 := SS11.out; have hs25 := HQ13.out; have hs26 := HBR.out; have hs27 := SS12.out; first | omega | (simp <;> omega)))
                have R12 := Lib.hid (hz.box)
                have X12 := Lib.hid (hz.keep X11.out (by have hlQ := LQ.out; have hlS := LS.out; have hlR := LR.out; have hlE := LE.out; have hs0 := SS1.out; have hs1 := LWQ.out; have hs2 := SS2.out; have hs3 := SS3.out; have hs4 := LWS.out; have hs5 := SS4.out; have hs6 := SS5.out; have hs7 := LWR.out; have hs8 := SS6.out; have hs9 := LWE.out; have hs10 := LUS7.out; have hs11 := LUR7.out; have hs12 := SBR7.out; have hs13 := HBW.out; have hs14 := LUS8.out; have hs15 := LUR8.out; have hs16 := SBR8.out; have hs17 := HBW1.out; have hs18 := SS9.out; have hs19 := HL01.out; have hs20 := LUS10.out; have hs21 := LUR10.out; have hs22 := SBR10.out; have hs23 := HBW3.out; have hs24 := SS11.out; have hs25 := HQ13.out; have hs26 := HBR.out; have hs27 := SS12.out; first | omega | (simp <;> omega)))
                have I12 := Lib.hid (I11.out.same hz.below.size fun b h1 h2 => hz.other b (by have hlQ := LQ.out; have hlS := LS.out; have hlR := LR.out; have hlE := LE.out; have hs0 := SS1.out; have hs1 := LWQ.out; have hs2 := SS2.out; have hs3 := SS3.out; have hs4 := LWS.out; have hs5 := SS4.out; have hs6 := SS5.out; have hs7 := LWR.out; have hs8 := SS6.out; have hs9 := LWE.out; have hs10 := LUS7.out; have hs11 := LUR7.out; have hs12 := SBR7.out; have hs13 := HBW.out; have hs14 := LUS8.out; have hs15 := LUR8.out; have hs16 := SBR8.out; have hs17 := HBW1.out; have hs18 := SS9.out; have hs19 := HL01.out; have hs20 := LUS10.out; have hs21 := LUR10.out; have hs22 := SBR10.out; have hs23 := HBW3.out; have hs24 := SS11.out; have hs25 := HQ13.out; have hs26 := HBR.out; have hs27 := SS12.out; first | omega | (simp <;> omega)))
                have G12 := Lib.hid (G11.out.same hz.below.size fun b h1 h2 => hz.other b (by have hlQ := LQ.out; have hlS := LS.out; have hlR := LR.out; have hlE := LE.out; have hs0 := SS1.out; have hs1 := LWQ.out; have hs2 := SS2.out; have hs3 := SS3.out; have hs4 := LWS.out; have hs5 := SS4.out; have hs6 := SS5.out; have hs7 := LWR.out; have hs8 := SS6.out; have hs9 := LWE.out; have hs10 := LUS7.out; have hs11 := LUR7.out; have hs12 := SBR7.out; have hs13 := HBW.out; have hs14 := LUS8.out; have hs15 := LUR8.out; have hs16 := SBR8.out; have hs17 := HBW1.out; have hs18 := SS9.out; have hs19 := HL01.out; have hs20 := LUS10.out; have hs21 := LUR10.out; have hs22 := SBR10.out; have hs23 := HBW3.out; have hs24 := SS11.out; have hs25 := HQ13.out; have hs26 := HBR.out; have hs27 := SS12.out; first | omega | (simp <;> omega)))
                have L12 := Lib.hid (L11.out.same hz.below.size fun b h1 h2 => hz.other b (by have hlQ := LQ.out; have hlS := LS.out; have hlR := LR.out; have hlE := LE.out; have hs0 := SS1.out; have hs1 := LWQ.out; have hs2 := SS2.out; have hs3 := SS3.out; have hs4 := LWS.out; have hs5 := SS4.out; have hs6 := SS5.out; have hs7 := LWR.out; have hs8 := SS6.out; have hs9 := LWE.out; have hs10 := LUS7.out; have hs11 := LUR7.out; have hs12 := SBR7.out; have hs13 := HBW.out; have hs14 := LUS8.out; have hs15 := LUR8.out; have hs16 := SBR8.out; have hs17 := HBW1.out; have hs18 := SS9.out; have hs19 := HL01.out; have hs20 := LUS10.out; have hs21 := LUR10.out; have hs22 := SBR10.out; have hs23 := HBW3.out; have hs24 := SS11.out; have hs25 := HQ13.out; have hs26 := HBR.out; have hs27 := SS12.out; first | omega | (simp <;> omega)))
                have N12 := Lib.hid (N11.out.same hz.below.size fun b h1 h2 => hz.other b (by have hlQ := LQ.out; have hlS := LS.out; have hlR := LR.out; have hlE := LE.out; have hs0 := SS1.out; have hs1 := LWQ.out; have hs2 := SS2.out; have hs3 := SS3.out; have hs4 := LWS.out; have hs5 := SS4.out; have hs6 := SS5.out; have hs7 := LWR.out; have hs8 := SS6.out; have hs9 := LWE.out; have hs10 := LUS7.out; have hs11 := LUR7.out; have hs12 := SBR7.out; have hs13 := HBW.out; have hs14 := LUS8.out; have hs15 := LUR8.out; have hs16 := SBR8.out; have hs17 := HBW1.out; have hs18 := SS9.out; have hs19 := HL01.out; have hs20 := LUS10.out; have hs21 := LUR10.out; have hs22 := SBR10.out; have hs23 := HBW3.out; have hs24 := SS11.out; have hs25 := HQ13.out; have hs26 := HBR.out; have hs27 := SS12.out; first | omega | (simp <;> omega)))
                have O12 := Lib.hid (O11.out.same hz.below.size fun b h1 h2 => hz.other b (by have hlQ := LQ.out; have hlS := LS.out; have hlR := LR.out; have hlE := LE.out; have hs0 := SS1.out; have hs1 := LWQ.out; have hs2 := SS2.out; have hs3 := SS3.out; have hs4 := LWS.out; have hs5 := SS4.out; have hs6 := SS5.out; have hs7 := LWR.out; have hs8 := SS6.out; have hs9 := LWE.out; have hs10 := LUS7.out; have hs11 := LUR7.out; have hs12 := SBR7.out; have hs13 := HBW.out; have hs14 := LUS8.out; have hs15 := LUR8.out; have hs16 := SBR8.out; have hs17 := HBW1.out; have hs18 := SS9.out; have hs19 := HL01.out; have hs20 := LUS10.out; have hs21 := LUR10.out; have hs22 := SBR10.out; have hs23 := HBW3.out; have hs24 := SS11.out; have hs25 := HQ13.out; have hs26 := HBR.out; have hs27 := SS12.out; first | omega | (simp <;> omega)))
                clear hz B11 S11 R11 X11 I11 G11 L11 N11 O11
                obtain ⟨rfl⟩ : PLift (ll = (List.range nn).map (one pp)) := ⟨HL4.out⟩
                have HNN := Lib.hid (show n6 = nn by obtain ⟨_, _, _, e9, h9, _⟩ := O12.out; injection e9 with _ e9 _; rw [e9, ← h9]; simp)
                have HPP := Lib.hid (show pp ≤ 20 by have h1 := HJ3.out.hA; have h2 := HJ3.out.le; omega)
                have HNL := Lib.hid (show nn ≤ 20 by have h1 := HJ4.out.hA; have h2 := HJ4.out.le; omega)
                go_wp2_with (at_builtin; refine list_gr rfl _ _ rfl rfl rfl G12.out HBR.out.2.2.1 HBR.out.2.2.2.1 N12.out O12.out N12.out.hi_ HX7.out (by have h1 := HNN.out; have h2 := HPP.out; have h3 := HNL.out; omega) ?_; intro A7 c7 w7 hg7 hk7)
                have HG7 := Lib.hid hg7
                have HK7 := Lib.hid hk7
                clear hg7 hk7
                have HQB := Lib.hid G12.out.blk
                have B13 := Lib.hid (B12.out.trans (ux.ks_bel HK7.out (fun q hq => by have h9 := HQB.out q hq; have hlQ := LQ.out; have hlS := LS.out; have hlR := LR.out; have hlE := LE.out; have hs0 := SS1.out; have hs1 := LWQ.out; have hs2 := SS2.out; have hs3 := SS3.out; have hs4 := LWS.out; have hs5 := SS4.out; have hs6 := SS5.out; have hs7 := LWR.out; have hs8 := SS6.out; have hs9 := LWE.out; have hs10 := LUS7.out; have hs11 := LUR7.out; have hs12 := SBR7.out; have hs13 := HBW.out; have hs14 := LUS8.out; have hs15 := LUR8.out; have hs16 := SBR8.out; have hs17 := HBW1.out; have hs18 := SS9.out; have hs19 := HL01.out; have hs20 := LUS10.out; have hs21 := LUR10.out; have hs22 := SBR10.out; have hs23 := HBW3.out; have hs24 := SS11.out; have hs25 := HQ13.out; have hs26 := HBR.out; have hs27 := SS12.out; omega) B12.out.size))
                have S13 := Lib.hid (ux.bx_ks S12.out HK7.out (fun hm => by have h9 := HQB.out _ hm; have hlQ := LQ.out; have hlS := LS.out; have hlR := LR.out; have hlE := LE.out; have hs0 := SS1.out; have hs1 := LWQ.out; have hs2 := SS2.out; have hs3 := SS3.out; have hs4 := LWS.out; have hs5 := SS4.out; have hs6 := SS5.out; have hs7 := LWR.out; have hs8 := SS6.out; have hs9 := LWE.out; have hs10 := LUS7.out; have hs11 := LUR7.out; have hs12 := SBR7.out; have hs13 := HBW.out; have hs14 := LUS8.out; have hs15 := LUR8.out; have hs16 := SBR8.out; have hs17 := HBW1.out; have hs18 := SS9.out; have hs19 := HL01.out; have hs20 := LUS10.out; have hs21 := LUR10.out; have hs22 := SBR10.out; have hs23 := HBW3.out; have hs24 := SS11.out; have hs25 := HQ13.out; have hs26 := HBR.out; have hs27 := SS12.out; omega))
                have R13 := Lib.hid (ux.bx_ks R12.out HK7.out (fun hm => by have h9 := HQB.out _ hm; have hlQ := LQ.out; have hlS := LS.out; have hlR := LR.out; have hlE := LE.out; have hs0 := SS1.out; have hs1 := LWQ.out; have hs2 := SS2.out; have hs3 := SS3.out; have hs4 := LWS.out; have hs5 := SS4.out; have hs6 := SS5.out; have hs7 := LWR.out; have hs8 := SS6.out; have hs9 := LWE.out; have hs10 := LUS7.out; have hs11 := LUR7.out; have hs12 := SBR7.out; have hs13 := HBW.out; have hs14 := LUS8.out; have hs15 := LUR8.out; have hs16 := SBR8.out; have hs17 := HBW1.out; have hs18 := SS9.out; have hs19 := HL01.out; have hs20 := LUS10.out; have hs21 := LUR10.out; have hs22 := SBR10.out; have hs23 := HBW3.out; have hs24 := SS11.out; have hs25 := HQ13.out; have hs26 := HBR.out; have hs27 := SS12.out; omega))
                have I13 := Lib.hid (I12.out.same HK7.out.size fun b h1 h2 => HK7.out.block b (by have h8 := I12.out.hi_; omega) (fun hm => by have h9 := HQB.out _ hm; have hlQ := LQ.out; have hlS := LS.out; have hlR := LR.out; have hlE := LE.out; have hs0 := SS1.out; have hs1 := LWQ.out; have hs2 := SS2.out; have hs3 := SS3.out; have hs4 := LWS.out; have hs5 := SS4.out; have hs6 := SS5.out; have hs7 := LWR.out; have hs8 := SS6.out; have hs9 := LWE.out; have hs10 := LUS7.out; have hs11 := LUR7.out; have hs12 := SBR7.out; have hs13 := HBW.out; have hs14 := LUS8.out; have hs15 := LUR8.out; have hs16 := SBR8.out; have hs17 := HBW1.out; have hs18 := SS9.out; have hs19 := HL01.out; have hs20 := LUS10.out; have hs21 := LUR10.out; have hs22 := SBR10.out; have hs23 := HBW3.out; have hs24 := SS11.out; have hs25 := HQ13.out; have hs26 := HBR.out; have hs27 := SS12.out; omega))
                have L13 := Lib.hid (ux.ow_as L12.out HK7.out.size fun b hb => HK7.out.block b (by have h8 := L12.out.hi_; have h7 := ux.ow_in L12.out b hb; omega) (G12.out.ne L12.out b hb))
                have G13 := Lib.hid (show GR be w7.heap.size w7 A5 n5 c5 zs A7 (pp + nn) c7 (Gt (pp + nn)) by have h1 := HG7.out; rw [gt_more, HNN.out] at h1; exact h1)
                rw [HNN.out]
                go_roundw
                case rel => exact ⟨i + 1, pp + nn, r3, zs, A5, n5, c5, A7, c7, w7.heap.size, rfl, by go_num, HJ4.out, by have hlQ := LQ.out; have hlS := LS.out; have hlR := LR.out; have hlE := LE.out; have hs0 := SS1.out; have hs1 := LWQ.out; have hs2 := SS2.out; have hs3 := SS3.out; have hs4 := LWS.out; have hs5 := SS4.out; have hs6 := SS5.out; have hs7 := LWR.out; have hs8 := SS6.out; have hs9 := LWE.out; have hs10 := LUS7.out; have hs11 := LUR7.out; have hs12 := SBR7.out; have hs13 := HBW.out; have hs14 := LUS8.out; have hs15 := LUR8.out; have hs16 := SBR8.out; have hs17 := HBW1.out; have hs18 := SS9.out; have hs19 := HL01.out; have hs20 := LUS10.out; have hs21 := LUR10.out; have hs22 := SBR10.out; have hs23 := HBW3.out; have hs24 := SS11.out; have hs25 := HQ13.out; have hs26 := HBR.out; have hs27 := SS12.out; have h9 := HK7.out.size; omega, fun h9 q y hq hy k9 hk9 hk8 hk7 => by rcases Nat.lt_or_ge q i with h1 | h1; exact HMO4.out _ (HRC.out h9 q y h1 hy k9 hk9 hk8 hk7); (obtain rfl : i = q := (by omega); have h2 := HGE.out.symm.trans hy; obtain rfl : y1 = y := Option.some.inj h2; obtain rfl : k = k9 := (by have h3 := HKA.out.2.2.1; rw [hk9] at h3; unfold fr at h3; have h4 := HKA.out.2.1; have h5 := HJ3.out.le; omega); exact HRC4.out), B13.out, S13.out, R13.out, I13.out, G13.out, L13.out⟩
                case measure => simp [intOf]; omega
            · have hik2 : ¬ (i : Int) < k3 := by omega
              have HIK := Lib.hid (show i = k3 by omega)
              by_cases h30 : rd < 30
              · have h30i : ¬ (30 : Int) ≤ (rd : Int) := by omega
                have h30j : ¬ (rd : Int) ≥ 30 := by omega
                obtain ⟨v, hv⟩ : ∃ v, lawAt.atv zc len (rd + 2) = v := ⟨_, rfl⟩
                have HV := Lib.hid hv
                have hvr : 0 ≤ v ∧ v ≤ 255 := by rw [← hv]; exact lawAt.atv_in I10.out _
                clear hv
                have hwa : IntKind.i64.wrap ((rd : Int) + 2) = (rd : Int) + 2 := IntWalk.i64_in _ (by omega)
                go_wp2_with fail
                (with_reducible refine (lawAt.at_v (rd + 2) ((rd : Int) + 2) (by first | rfl | omega) (by omega) v a len cap _ _ zc _ I10.out HBG.out HV.out).mono ?_)
                rintro e wq ⟨rfl, rfl⟩
                clear hwa
                by_cases hm3 : v % 4 = 0
                · have hmt : v.tmod 4 = 0 := by rw [Int.tmod_eq_emod_of_nonneg (by omega)]; exact hm3
                  have hb3 : (v.tmod 4 != 0) = false := by rw [hmt]; rfl
                  have hb4 : (v % 4 != 0) = false := by rw [hm3]; rfl
                  clear L10
                  have HVR := Lib.hid HJ3.out.hr
                  have HVS := Lib.hid HJ3.out.vs
                  go_wp2_with (refine stw.list_load rfl 31 _ rfl (bR) rfl 31 _ R10.out Try.underlying31 rfl ux.szRob ?_)
                  (with_reducible refine (ro.implVr r2 ys _ _ A4 n4 c4 _ G10.out.rr).mono ?_)
                  rintro e wa11 hp
                  obtain ⟨rfl, hb⟩ := bx.b_parts HVR.out hp
                  clear hp
                  have SS11 := Lib.hid hb.size
                  have B11 := Lib.hid (B10.out.trans (hb.mono B10.out.size))
                  have S11 := Lib.hid (S10.out.below hb)
                  have R11 := Lib.hid (R10.out.below hb)
                  have I11 := Lib.hid (I10.out.below hb)
                  have G11 := Lib.hid (G10.out.below hb)
                  clear hb  B10 S10 R10 I10 G10
                  have cS0 : wa11.cell? ⟨bS, 0, none⟩ = some (.int .i64 sa) := S11.out.cell 0
                  have cS1 : wa11.cell? ⟨bS, 1, none⟩ = some (.int .i64 na) := S11.out.cell 1
                  have cS2 : wa11.cell? ⟨bS, 2, none⟩ = some (.int .i64 xa) := S11.out.cell 2
                  go_wp2_with fail
                  clear cS0 cS1 cS2
                  (with_reducible refine (bs.implVs sa na xa _).mono ?_)
                  rintro e wa12 hp
                  obtain ⟨rfl, hb⟩ := bx.b_parts HVS.out hp
                  clear hp
                  have SS12 := Lib.hid hb.size
                  have B12 := Lib.hid (B11.out.trans (hb.mono B11.out.size))
                  have S12 := Lib.hid (S11.out.below hb)
                  have R12 := Lib.hid (R11.out.below hb)
                  have I12 := Lib.hid (I11.out.below hb)
                  have G12 := Lib.hid (G11.out.below hb)
                  clear hb  B11 S11 R11 I11 G11
                  go_wp2_with fail
                  go_roundw
                  case rel => exact ⟨rd + 1, se, A, pp, sa, na, xa, r2, ys, A4, n4, c4, Ag4, cg4, H4, rfl, rfl, by go_num, HJ3.out, by have h1 := HSE.out; have hlQ := LQ.out; have hlS := LS.out; have hlR := LR.out; have hlE := LE.out; have hs0 := SS1.out; have hs1 := LWQ.out; have hs2 := SS2.out; have hs3 := SS3.out; have hs4 := LWS.out; have hs5 := SS4.out; have hs6 := SS5.out; have hs7 := LWR.out; have hs8 := SS6.out; have hs9 := LWE.out; have hs10 := LUS7.out; have hs11 := LUR7.out; have hs12 := SBR7.out; have hs13 := HBW.out; have hs14 := LUS8.out; have hs15 := LUR8.out; have hs16 := SBR8.out; have hs17 := HBW1.out; have hs18 := SS9.out; have hs19 := HL01.out; have hs20 := LUS10.out; have hs21 := LUR10.out; have hs22 := SBR10.out; have hs23 := HBW3.out; have hs24 := SS11.out; have hs25 := SS12.out; have hG := G12.out.hi_; omega, ⟨fun h9 => by omega, fun h9 => by omega⟩, B12.out, S12.out, R12.out, I12.out, G12.out⟩
                  case measure => simp [intOf]; omega
                · have hmt : v.tmod 4 ≠ 0 := by rw [Int.tmod_eq_emod_of_nonneg (by omega)]; exact hm3
                  have hb3 : (v.tmod 4 != 0) = true := bne_iff_ne.2 hmt
                  have hb4 : (v % 4 != 0) = true := bne_iff_ne.2 hm3
                  go_upto_region 27 with fail
                  clear hm3 hmt hb3 hb4 h30i h30j hvr
                  obtain ⟨⟨ca, ba⟩, hca⟩ : ∃ q, ack (⟨r2, ys⟩ : Rob) = q := ⟨_, rfl⟩
                  have HCA := Lib.hid hca
                  obtain ⟨⟨s3, n3, x3⟩, hrc3⟩ : ∃ q, rcv (⟨sa, na, xa⟩ : Bs) ca ba = q := ⟨_, rfl⟩
                  have HRV := Lib.hid hrc3
                  obtain ⟨A9, hA9, hj9, hdn9⟩ := HJ3.out.ackd
                  rw [hca] at hj9
                  rw [hrc3] at hj9
                  have HJ4 := Lib.hid hj9
                  have HDN2 := Lib.hid hdn9
                  clear hca hrc3 hA9 hj9 hdn9
                  clear L10
                  have E10 := Lib.hid (show Lw be wr from (show be < wr.heap.size by have hlQ := LQ.out; have hlS := LS.out; have hlR := LR.out; have hlE := LE.out; have hs0 := SS1.out; have hs1 := LWQ.out; have hs2 := SS2.out; have hs3 := SS3.out; have hs4 := LWS.out; have hs5 := SS4.out; have hs6 := SS5.out; have hs7 := LWR.out; have hs8 := SS6.out; have hs9 := LWE.out; have hs10 := LUS7.out; have hs11 := LUR7.out; have hs12 := SBR7.out; have hs13 := HBW.out; have hs14 := LUS8.out; have hs15 := LUR8.out; have hs16 := SBR8.out; have hs17 := HBW1.out; have hs18 := SS9.out; have hs19 := HL01.out; have hs20 := LUS10.out; have hs21 := LUR10.out; have hs22 := SBR10.out; have hs23 := HBW3.out; omega))
                  refine reg.region_tail reg.Bel 4 155 [some [], some [], some [(1, 108)], some [(0, 107), (2, 109)], none] [(0, 107), (1, 108), (2, 109), (3, 110)]
                    (fun w' => Below w.heap.size w w' ∧ Bx 27 w' (bS) #[.int .i64 sa, .int .i64 na, .int .i64 xa] ∧ Bx 31 w' (bR) #[.int .i64 r2, .slice A4 n4 c4] ∧ Rd .u8 w' (0) (w.heap.size) a len cap zc ∧ GR be H4 w' A4 n4 c4 ys Ag4 pp cg4 (Gt pp) ∧ Lw be w' ∧ True)
                    (reg.rl [reg.is (.agg #[.int .i64 sa, .int .i64 na, .int .i64 xa]), reg.is (.agg #[.int .i64 r2, .slice A4 n4 c4]), reg.is (.agg #[.int .i64 ca, .int .i64 ba]), reg.is (.agg #[.int .i64 s3, .int .i64 n3, .int .i64 x3]), reg.free])
                    (by kernel_rfl) rfl (by kernel_rfl) (by kernel_rfl) rfl
                    (fun w1 w2 hc hb => ⟨hc.1.trans (hb.mono hc.1.size), hc.2.1.below hb, hc.2.2.1.below hb, hc.2.2.2.1.below hb, hc.2.2.2.2.1.below hb, hc.2.2.2.2.2.1.below hb, trivial⟩) (reg.rl_keep _) (⟨own.below_drew B10.out, S10.out.same rfl, R10.out.same rfl, own.rd_drew I10.out, G10.out.same (Nat.le_refl _) (fun _ _ _ => rfl), E10.out.same (Nat.le_refl _) (fun _ _ _ => rfl), trivial⟩) (by kernel_rfl) ⟨?_, ?_, ?_, ?_, trivial⟩ ?_
                  · refine fun w8 hc  K hK => ?_
                    (try simp only [Act.put, List.setIfInBounds_toArray, List.set_cons_zero, List.set_cons_succ])
                    rw [if_pos (by rfl)]
                    refine stw.wp_load_bx 27 _ rfl (bS) rfl 27 _ hc.2.1 Try.underlying27 rfl bs.szS ?_
                    exact hK _ _ rfl (Below.refl _ _)
                  · refine fun w8 hc  K hK => ?_
                    (try simp only [Act.put, List.setIfInBounds_toArray, List.set_cons_zero, List.set_cons_succ])
                    rw [if_pos (by rfl)]
                    refine stw.wp_load_bx 31 _ rfl (bR) rfl 31 _ hc.2.2.1 Try.underlying31 rfl ux.szRob ?_
                    exact hK _ _ rfl (Below.refl _ _)
                  · refine fun w8 hc v1 h1 K hK => ?_
                    obtain rfl : v1 = .agg #[.int .i64 r2, .slice A4 n4 c4] := h1
                    (try simp only [Act.put, List.setIfInBounds_toArray, List.set_cons_zero, List.set_cons_succ])
                    go_simp
                    (with_reducible refine (ro.implAck r2 ys _ _ A4 n4 c4 _ (hc.2.2.2.2.1).rr).mono ?_)
                    rintro e w3 hp
                    obtain ⟨rfl, hb⟩ := ro.ak_parts HCA.out hp
                    exact hK _ _ rfl hb
                  · refine fun w8 hc v0 h0 v2 h2 K hK => ?_
                    obtain rfl : v0 = .agg #[.int .i64 sa, .int .i64 na, .int .i64 xa] := h0
                    obtain rfl : v2 = .agg #[.int .i64 ca, .int .i64 ba] := h2
                    (try simp only [Act.put, List.setIfInBounds_toArray, List.set_cons_zero, List.set_cons_succ])
                    go_simp
                    (with_reducible refine (bs.implRcv sa na xa ca ba _).mono ?_)
                    rintro e w3 hp
                    obtain ⟨rfl, hb⟩ := bs.s_parts HRV.out hp
                    exact hK _ _ rfl hb
                  refine fun wg11 hc v0 h0 v1 h1 v2 h2 v3 h3 => ?_
                  obtain rfl : v0 = .agg #[.int .i64 sa, .int .i64 na, .int .i64 xa] := h0
                  obtain rfl : v1 = .agg #[.int .i64 r2, .slice A4 n4 c4] := h1
                  obtain rfl : v2 = .agg #[.int .i64 ca, .int .i64 ba] := h2
                  obtain rfl : v3 = .agg #[.int .i64 s3, .int .i64 n3, .int .i64 x3] := h3
                  (try simp only [reg.Obs])
                  (try simp only [Act.put, List.setIfInBounds_toArray, List.set_cons_zero, List.set_cons_succ])
                  simp only [List.drop_succ_cons, List.drop_zero]
                  have B11 := Lib.hid hc.1
                  have S11 := Lib.hid hc.2.1
                  have R11 := Lib.hid hc.2.2.1
                  have I11 := Lib.hid hc.2.2.2.1
                  have G11 := Lib.hid hc.2.2.2.2.1
                  have E11 := Lib.hid hc.2.2.2.2.2.1
                  clear hc B10 S10 R10 I10 G10 E10
                  refine stw.list_store rfl 27 _ _ rfl (bS) #[.int .i64 s3, .int .i64 n3, .int .i64 x3] rfl rfl 27 _ S11.out rfl bs.szS (bs.oneS _ _ _) ?_
                  intro wz12 hz
                  (try simp only [Act.put])
                  have SS12 := Lib.hid hz.below.size
                  have B12 := Lib.hid (hz.on B11.out (by have hlQ := LQ.out; have hlS := LS.out; have hlR := LR.out; have hlE := LE.out; have hs0 := SS1.out; have hs1 := LWQ.out; have hs2 := SS2.out; have hs3 := SS3.out; have hs4 := LWS.out; have hs5 := SS4.out; have hs6 := SS5.out; have hs7 := LWR.out; have hs8 := SS6.out; have hs9 := LWE.out; have hs10 := LUS7.out; have hs11 := LUR7.out; have hs12 := SBR7.out; have hs13 := HBW.out; have hs14 := LUS8.out; have hs15 := LUR8.out; have hs16 := SBR8.out; have hs17 := HBW1.out; have hs18 := SS9.out; have hs19 := HL01.out; have hs20 := LUS10.out; have hs21 := LUR10.out; have hs22 := SBR10.out; have hs23 := HBW3.out; have hs24 := SS12.out; first | omega | (simp <;> omega)))
                  have S12 := Lib.hid (hz.box)
                  have R12 := Lib.hid (hz.keep R11.out (by have hlQ := LQ.out; have hlS := LS.out; have hlR := LR.out; have hlE := LE.out; have hs0 := SS1.out; have hs1 := LWQ.out; have hs2 := SS2.out; have hs3 := SS3.out; have hs4 := LWS.out; have hs5 := SS4.out; have hs6 := SS5.out; have hs7 := LWR.out; have hs8 := SS6.out; have hs9 := LWE.out; have hs10 := LUS7.out; have hs11 := LUR7.out; have hs12 := SBR7.out; have hs13 := HBW.out; have hs14 := LUS8.out; have hs15 := LUR8.out; have hs16 := SBR8.out; have hs17 := HBW1.out; have hs18 := SS9.out; have hs19 := HL01.out; have hs20 := LUS10.out; have hs21 := LUR10.out; have hs22 := SBR10.out; have hs23 := HBW3.out; have hs24 := SS12.out; first | omega | (simp <;> omega)))
                  have I12 := Lib.hid (I11.out.same hz.below.size fun b h1 h2 => hz.other b (by have hlQ := LQ.out; have hlS := LS.out; have hlR := LR.out; have hlE := LE.out; have hs0 := SS1.out; have hs1 := LWQ.out; have hs2 := SS2.out; have hs3 := SS3.out; have hs4 := LWS.out; have hs5 := SS4.out; have hs6 := SS5.out; have hs7 := LWR.out; have hs8 := SS6.out; have hs9 := LWE.out; have hs10 := LUS7.out; have hs11 := LUR7.out; have hs12 := SBR7.out; have hs13 := HBW.out; have hs14 := LUS8.out; have hs15 := LUR8.out; have hs16 := SBR8.out; have hs17 := HBW1.out; have hs18 := SS9.out; have hs19 := HL01.out; have hs20 := LUS10.out; have hs21 := LUR10.out; have hs22 := SBR10.out; have hs23 := HBW3.out; have hs24 := SS12.out; first | omega | (simp <;> omega)))
                  have G12 := Lib.hid (G11.out.same hz.below.size fun b h1 h2 => hz.other b (by have hlQ := LQ.out; have hlS := LS.out; have hlR := LR.out; have hlE := LE.out; have hs0 := SS1.out; have hs1 := LWQ.out; have hs2 := SS2.out; have hs3 := SS3.out; have hs4 := LWS.out; have hs5 := SS4.out; have hs6 := SS5.out; have hs7 := LWR.out; have hs8 := SS6.out; have hs9 := LWE.out; have hs10 := LUS7.out; have hs11 := LUR7.out; have hs12 := SBR7.out; have hs13 := HBW.out; have hs14 := LUS8.out; have hs15 := LUR8.out; have hs16 := SBR8.out; have hs17 := HBW1.out; have hs18 := SS9.out; have hs19 := HL01.out; have hs20 := LUS10.out; have hs21 := LUR10.out; have hs22 := SBR10.out; have hs23 := HBW3.out; have hs24 := SS12.out; first | omega | (simp <;> omega)))
                  have E12 := Lib.hid (E11.out.same hz.below.size fun b h1 h2 => hz.other b (by have hlQ := LQ.out; have hlS := LS.out; have hlR := LR.out; have hlE := LE.out; have hs0 := SS1.out; have hs1 := LWQ.out; have hs2 := SS2.out; have hs3 := SS3.out; have hs4 := LWS.out; have hs5 := SS4.out; have hs6 := SS5.out; have hs7 := LWR.out; have hs8 := SS6.out; have hs9 := LWE.out; have hs10 := LUS7.out; have hs11 := LUR7.out; have hs12 := SBR7.out; have hs13 := HBW.out; have hs14 := LUS8.out; have hs15 := LUR8.out; have hs16 := SBR8.out; have hs17 := HBW1.out; have hs18 := SS9.out; have hs19 := HL01.out; have hs20 := LUS10.out; have hs21 := LUR10.out; have hs22 := SBR10.out; have hs23 := HBW3.out; have hs24 := SS12.out; first | omega | (simp <;> omega)))
                  clear hz B11 S11 R11 I11 G11 E11
                  have HBA := Lib.hid (show be < wz12.heap.size from E12.out)
                  clear E12
                  have HVR := Lib.hid HJ4.out.hr
                  have HVS := Lib.hid HJ4.out.vs
                  go_wp2_with (refine stw.list_load rfl 31 _ rfl (bR) rfl 31 _ R12.out Try.underlying31 rfl ux.szRob ?_)
                  (with_reducible refine (ro.implVr r2 ys _ _ A4 n4 c4 _ G12.out.rr).mono ?_)
                  rintro e wa13 hp
                  obtain ⟨rfl, hb⟩ := bx.b_parts HVR.out hp
                  clear hp
                  have SS13 := Lib.hid hb.size
                  have B13 := Lib.hid (B12.out.trans (hb.mono B12.out.size))
                  have S13 := Lib.hid (S12.out.below hb)
                  have R13 := Lib.hid (R12.out.below hb)
                  have I13 := Lib.hid (I12.out.below hb)
                  have G13 := Lib.hid (G12.out.below hb)
                  clear hb  B12 S12 R12 I12 G12
                  have cS0 : wa13.cell? ⟨bS, 0, none⟩ = some (.int .i64 s3) := S13.out.cell 0
                  have cS1 : wa13.cell? ⟨bS, 1, none⟩ = some (.int .i64 n3) := S13.out.cell 1
                  have cS2 : wa13.cell? ⟨bS, 2, none⟩ = some (.int .i64 x3) := S13.out.cell 2
                  go_wp2_with fail
                  clear cS0 cS1 cS2
                  (with_reducible refine (bs.implVs s3 n3 x3 _).mono ?_)
                  rintro e wa14 hp
                  obtain ⟨rfl, hb⟩ := bx.b_parts HVS.out hp
                  clear hp
                  have SS14 := Lib.hid hb.size
                  have B14 := Lib.hid (B13.out.trans (hb.mono B13.out.size))
                  have S14 := Lib.hid (S13.out.below hb)
                  have R14 := Lib.hid (R13.out.below hb)
                  have I14 := Lib.hid (I13.out.below hb)
                  have G14 := Lib.hid (G13.out.below hb)
                  clear hb  B13 S13 R13 I13 G13
                  go_wp2_with fail
                  go_roundw
                  case rel => exact ⟨rd + 1, se, A9, pp, s3, n3, x3, r2, ys, A4, n4, c4, Ag4, cg4, H4, rfl, rfl, by go_num, HJ4.out, by have h1 := HSE.out; have hlQ := LQ.out; have hlS := LS.out; have hlR := LR.out; have hlE := LE.out; have hs0 := SS1.out; have hs1 := LWQ.out; have hs2 := SS2.out; have hs3 := SS3.out; have hs4 := LWS.out; have hs5 := SS4.out; have hs6 := SS5.out; have hs7 := LWR.out; have hs8 := SS6.out; have hs9 := LWE.out; have hs10 := LUS7.out; have hs11 := LUR7.out; have hs12 := SBR7.out; have hs13 := HBW.out; have hs14 := LUS8.out; have hs15 := LUR8.out; have hs16 := SBR8.out; have hs17 := HBW1.out; have hs18 := SS9.out; have hs19 := HL01.out; have hs20 := LUS10.out; have hs21 := LUR10.out; have hs22 := SBR10.out; have hs23 := HBW3.out; have hs24 := SS12.out; have hs25 := HBA.out; have hs26 := SS13.out; have hs27 := SS14.out; have hG := G14.out.hi_; omega, ⟨fun h9 => by omega, fun h9 => by omega⟩, B14.out, S14.out, R14.out, I14.out, G14.out⟩
                  case measure => simp [intOf]; omega
              · have h30i : (30 : Int) ≤ (rd : Int) := by omega
                have h30j : (rd : Int) ≥ 30 := by omega
                have HALL := Lib.hid (show ∀ y, y ∈ outs (⟨sa, na, xa⟩ : Bs) → ∀ k : Nat, y = fr f k → k < se → A ≤ k → Rc ⟨r2, ys⟩ pp k by intro y hy; obtain ⟨q, hq⟩ := List.getElem?_of_mem hy; exact HRC.out (by omega) q y (by have h1 := (List.getElem?_eq_some_iff.1 hq).1; have h2 := LNL.out; have h3 := HIK.out; omega) hq)
                go_upto_region 27 with fail
                clear h30i h30j
                obtain ⟨⟨ca, ba⟩, hca⟩ : ∃ q, ack (⟨r2, ys⟩ : Rob) = q := ⟨_, rfl⟩
                have HCA := Lib.hid hca
                obtain ⟨⟨s3, n3, x3⟩, hrc3⟩ : ∃ q, rcv (⟨sa, na, xa⟩ : Bs) ca ba = q := ⟨_, rfl⟩
                have HRV := Lib.hid hrc3
                obtain ⟨A9, hA9, hj9, hdn9⟩ := HJ3.out.ackd
                rw [hca] at hj9
                rw [hrc3] at hj9
                have HJ4 := Lib.hid hj9
                have HDN2 := Lib.hid hdn9
                clear hca hrc3 hA9 hj9 hdn9
                clear L10
                have E10 := Lib.hid (show Lw be wr from (show be < wr.heap.size by have hlQ := LQ.out; have hlS := LS.out; have hlR := LR.out; have hlE := LE.out; have hs0 := SS1.out; have hs1 := LWQ.out; have hs2 := SS2.out; have hs3 := SS3.out; have hs4 := LWS.out; have hs5 := SS4.out; have hs6 := SS5.out; have hs7 := LWR.out; have hs8 := SS6.out; have hs9 := LWE.out; have hs10 := LUS7.out; have hs11 := LUR7.out; have hs12 := SBR7.out; have hs13 := HBW.out; have hs14 := LUS8.out; have hs15 := LUR8.out; have hs16 := SBR8.out; have hs17 := HBW1.out; have hs18 := SS9.out; have hs19 := HL01.out; have hs20 := LUS10.out; have hs21 := LUR10.out; have hs22 := SBR10.out; have hs23 := HBW3.out; omega))
                refine reg.region_tail reg.Bel 4 155 [some [], some [], some [(1, 108)], some [(0, 107), (2, 109)], none] [(0, 107), (1, 108), (2, 109), (3, 110)]
                  (fun w' => Below w.heap.size w w' ∧ Bx 27 w' (bS) #[.int .i64 sa, .int .i64 na, .int .i64 xa] ∧ Bx 31 w' (bR) #[.int .i64 r2, .slice A4 n4 c4] ∧ Rd .u8 w' (0) (w.heap.size) a len cap zc ∧ GR be H4 w' A4 n4 c4 ys Ag4 pp cg4 (Gt pp) ∧ Lw be w' ∧ True)
                  (reg.rl [reg.is (.agg #[.int .i64 sa, .int .i64 na, .int .i64 xa]), reg.is (.agg #[.int .i64 r2, .slice A4 n4 c4]), reg.is (.agg #[.int .i64 ca, .int .i64 ba]), reg.is (.agg #[.int .i64 s3, .int .i64 n3, .int .i64 x3]), reg.free])
                  (by kernel_rfl) rfl (by kernel_rfl) (by kernel_rfl) rfl
                  (fun w1 w2 hc hb => ⟨hc.1.trans (hb.mono hc.1.size), hc.2.1.below hb, hc.2.2.1.below hb, hc.2.2.2.1.below hb, hc.2.2.2.2.1.below hb, hc.2.2.2.2.2.1.below hb, trivial⟩) (reg.rl_keep _) (⟨own.below_drew B10.out, S10.out.same rfl, R10.out.same rfl, own.rd_drew I10.out, G10.out.same (Nat.le_refl _) (fun _ _ _ => rfl), E10.out.same (Nat.le_refl _) (fun _ _ _ => rfl), trivial⟩) (by kernel_rfl) ⟨?_, ?_, ?_, ?_, trivial⟩ ?_
                · refine fun w8 hc  K hK => ?_
                  (try simp only [Act.put, List.setIfInBounds_toArray, List.set_cons_zero, List.set_cons_succ])
                  rw [if_pos (by rfl)]
                  refine stw.wp_load_bx 27 _ rfl (bS) rfl 27 _ hc.2.1 Try.underlying27 rfl bs.szS ?_
                  exact hK _ _ rfl (Below.refl _ _)
                · refine fun w8 hc  K hK => ?_
                  (try simp only [Act.put, List.setIfInBounds_toArray, List.set_cons_zero, List.set_cons_succ])
                  rw [if_pos (by rfl)]
                  refine stw.wp_load_bx 31 _ rfl (bR) rfl 31 _ hc.2.2.1 Try.underlying31 rfl ux.szRob ?_
                  exact hK _ _ rfl (Below.refl _ _)
                · refine fun w8 hc v1 h1 K hK => ?_
                  obtain rfl : v1 = .agg #[.int .i64 r2, .slice A4 n4 c4] := h1
                  (try simp only [Act.put, List.setIfInBounds_toArray, List.set_cons_zero, List.set_cons_succ])
                  go_simp
                  (with_reducible refine (ro.implAck r2 ys _ _ A4 n4 c4 _ (hc.2.2.2.2.1).rr).mono ?_)
                  rintro e w3 hp
                  obtain ⟨rfl, hb⟩ := ro.ak_parts HCA.out hp
                  exact hK _ _ rfl hb
                · refine fun w8 hc v0 h0 v2 h2 K hK => ?_
                  obtain rfl : v0 = .agg #[.int .i64 sa, .int .i64 na, .int .i64 xa] := h0
                  obtain rfl : v2 = .agg #[.int .i64 ca, .int .i64 ba] := h2
                  (try simp only [Act.put, List.setIfInBounds_toArray, List.set_cons_zero, List.set_cons_succ])
                  go_simp
                  (with_reducible refine (bs.implRcv sa na xa ca ba _).mono ?_)
                  rintro e w3 hp
                  obtain ⟨rfl, hb⟩ := bs.s_parts HRV.out hp
                  exact hK _ _ rfl hb
                refine fun wg11 hc v0 h0 v1 h1 v2 h2 v3 h3 => ?_
                obtain rfl : v0 = .agg #[.int .i64 sa, .int .i64 na, .int .i64 xa] := h0
                obtain rfl : v1 = .agg #[.int .i64 r2, .slice A4 n4 c4] := h1
                obtain rfl : v2 = .agg #[.int .i64 ca, .int .i64 ba] := h2
                obtain rfl : v3 = .agg #[.int .i64 s3, .int .i64 n3, .int .i64 x3] := h3
                (try simp only [reg.Obs])
                (try simp only [Act.put, List.setIfInBounds_toArray, List.set_cons_zero, List.set_cons_succ])
                simp only [List.drop_succ_cons, List.drop_zero]
                have B11 := Lib.hid hc.1
                have S11 := Lib.hid hc.2.1
                have R11 := Lib.hid hc.2.2.1
                have I11 := Lib.hid hc.2.2.2.1
                have G11 := Lib.hid hc.2.2.2.2.1
                have E11 := Lib.hid hc.2.2.2.2.2.1
                clear hc B10 S10 R10 I10 G10 E10
                refine stw.list_store rfl 27 _ _ rfl (bS) #[.int .i64 s3, .int .i64 n3, .int .i64 x3] rfl rfl 27 _ S11.out rfl bs.szS (bs.oneS _ _ _) ?_
                intro wz12 hz
                (try simp only [Act.put])
                have SS12 := Lib.hid hz.below.size
                have B12 := Lib.hid (hz.on B11.out (by have hlQ := LQ.out; have hlS := LS.out; have hlR := LR.out; have hlE := LE.out; have hs0 := SS1.out; have hs1 := LWQ.out; have hs2 := SS2.out; have hs3 := SS3.out; have hs4 := LWS.out; have hs5 := SS4.out; have hs6 := SS5.out; have hs7 := LWR.out; have hs8 := SS6.out; have hs9 := LWE.out; have hs10 := LUS7.out; have hs11 := LUR7.out; have hs12 := SBR7.out; have hs13 := HBW.out; have hs14 := LUS8.out; have hs15 := LUR8.out; have hs16 := SBR8.out; have hs17 := HBW1.out; have hs18 := SS9.out; have hs19 := HL01.out; have hs20 := LUS10.out; have hs21 := LUR10.out; have hs22 := SBR10.out; have hs23 := HBW3.out; have hs24 := SS12.out; first | omega | (simp <;> omega)))
                have S12 := Lib.hid (hz.box)
                have R12 := Lib.hid (hz.keep R11.out (by have hlQ := LQ.out; have hlS := LS.out; have hlR := LR.out; have hlE := LE.out; have hs0 := SS1.out; have hs1 := LWQ.out; have hs2 := SS2.out; have hs3 := SS3.out; have hs4 := LWS.out; have hs5 := SS4.out; have hs6 := SS5.out; have hs7 := LWR.out; have hs8 := SS6.out; have hs9 := LWE.out; have hs10 := LUS7.out; have hs11 := LUR7.out; have hs12 := SBR7.out; have hs13 := HBW.out; have hs14 := LUS8.out; have hs15 := LUR8.out; have hs16 := SBR8.out; have hs17 := HBW1.out; have hs18 := SS9.out; have hs19 := HL01.out; have hs20 := LUS10.out; have hs21 := LUR10.out; have hs22 := SBR10.out; have hs23 := HBW3.out; have hs24 := SS12.out; first | omega | (simp <;> omega)))
                have I12 := Lib.hid (I11.out.same hz.below.size fun b h1 h2 => hz.other b (by have hlQ := LQ.out; have hlS := LS.out; have hlR := LR.out; have hlE := LE.out; have hs0 := SS1.out; have hs1 := LWQ.out; have hs2 := SS2.out; have hs3 := SS3.out; have hs4 := LWS.out; have hs5 := SS4.out; have hs6 := SS5.out; have hs7 := LWR.out; have hs8 := SS6.out; have hs9 := LWE.out; have hs10 := LUS7.out; have hs11 := LUR7.out; have hs12 := SBR7.out; have hs13 := HBW.out; have hs14 := LUS8.out; have hs15 := LUR8.out; have hs16 := SBR8.out; have hs17 := HBW1.out; have hs18 := SS9.out; have hs19 := HL01.out; have hs20 := LUS10.out; have hs21 := LUR10.out; have hs22 := SBR10.out; have hs23 := HBW3.out; have hs24 := SS12.out; first | omega | (simp <;> omega)))
                have G12 := Lib.hid (G11.out.same hz.below.size fun b h1 h2 => hz.other b (by have hlQ := LQ.out; have hlS := LS.out; have hlR := LR.out; have hlE := LE.out; have hs0 := SS1.out; have hs1 := LWQ.out; have hs2 := SS2.out; have hs3 := SS3.out; have hs4 := LWS.out; have hs5 := SS4.out; have hs6 := SS5.out; have hs7 := LWR.out; have hs8 := SS6.out; have hs9 := LWE.out; have hs10 := LUS7.out; have hs11 := LUR7.out; have hs12 := SBR7.out; have hs13 := HBW.out; have hs14 := LUS8.out; have hs15 := LUR8.out; have hs16 := SBR8.out; have hs17 := HBW1.out; have hs18 := SS9.out; have hs19 := HL01.out; have hs20 := LUS10.out; have hs21 := LUR10.out; have hs22 := SBR10.out; have hs23 := HBW3.out; have hs24 := SS12.out; first | omega | (simp <;> omega)))
                have E12 := Lib.hid (E11.out.same hz.below.size fun b h1 h2 => hz.other b (by have hlQ := LQ.out; have hlS := LS.out; have hlR := LR.out; have hlE := LE.out; have hs0 := SS1.out; have hs1 := LWQ.out; have hs2 := SS2.out; have hs3 := SS3.out; have hs4 := LWS.out; have hs5 := SS4.out; have hs6 := SS5.out; have hs7 := LWR.out; have hs8 := SS6.out; have hs9 := LWE.out; have hs10 := LUS7.out; have hs11 := LUR7.out; have hs12 := SBR7.out; have hs13 := HBW.out; have hs14 := LUS8.out; have hs15 := LUR8.out; have hs16 := SBR8.out; have hs17 := HBW1.out; have hs18 := SS9.out; have hs19 := HL01.out; have hs20 := LUS10.out; have hs21 := LUR10.out; have hs22 := SBR10.out; have hs23 := HBW3.out; have hs24 := SS12.out; first | omega | (simp <;> omega)))
                clear hz B11 S11 R11 I11 G11 E11
                have HBA := Lib.hid (show be < wz12.heap.size from E12.out)
                clear E12
                have HVR := Lib.hid HJ4.out.hr
                have HVS := Lib.hid HJ4.out.vs
                go_wp2_with (refine stw.list_load rfl 31 _ rfl (bR) rfl 31 _ R12.out Try.underlying31 rfl ux.szRob ?_)
                (with_reducible refine (ro.implVr r2 ys _ _ A4 n4 c4 _ G12.out.rr).mono ?_)
                rintro e wa13 hp
                obtain ⟨rfl, hb⟩ := bx.b_parts HVR.out hp
                clear hp
                have SS13 := Lib.hid hb.size
                have B13 := Lib.hid (B12.out.trans (hb.mono B12.out.size))
                have S13 := Lib.hid (S12.out.below hb)
                have R13 := Lib.hid (R12.out.below hb)
                have I13 := Lib.hid (I12.out.below hb)
                have G13 := Lib.hid (G12.out.below hb)
                clear hb  B12 S12 R12 I12 G12
                have cS0 : wa13.cell? ⟨bS, 0, none⟩ = some (.int .i64 s3) := S13.out.cell 0
                have cS1 : wa13.cell? ⟨bS, 1, none⟩ = some (.int .i64 n3) := S13.out.cell 1
                have cS2 : wa13.cell? ⟨bS, 2, none⟩ = some (.int .i64 x3) := S13.out.cell 2
                go_wp2_with fail
                clear cS0 cS1 cS2
                (with_reducible refine (bs.implVs s3 n3 x3 _).mono ?_)
                rintro e wa14 hp
                obtain ⟨rfl, hb⟩ := bx.b_parts HVS.out hp
                clear hp
                have SS14 := Lib.hid hb.size
                have B14 := Lib.hid (B13.out.trans (hb.mono B13.out.size))
                have S14 := Lib.hid (S13.out.below hb)
                have R14 := Lib.hid (R13.out.below hb)
                have I14 := Lib.hid (I13.out.below hb)
                have G14 := Lib.hid (G13.out.below hb)
                clear hb  B13 S13 R13 I13 G13
                go_wp2_with fail
                go_roundw
                case rel => exact ⟨rd + 1, se, A9, pp, s3, n3, x3, r2, ys, A4, n4, c4, Ag4, cg4, H4, rfl, rfl, by go_num, HJ4.out, by have h1 := HSE.out; have hlQ := LQ.out; have hlS := LS.out; have hlR := LR.out; have hlE := LE.out; have hs0 := SS1.out; have hs1 := LWQ.out; have hs2 := SS2.out; have hs3 := SS3.out; have hs4 := LWS.out; have hs5 := SS4.out; have hs6 := SS5.out; have hs7 := LWR.out; have hs8 := SS6.out; have hs9 := LWE.out; have hs10 := LUS7.out; have hs11 := LUR7.out; have hs12 := SBR7.out; have hs13 := HBW.out; have hs14 := LUS8.out; have hs15 := LUR8.out; have hs16 := SBR8.out; have hs17 := HBW1.out; have hs18 := SS9.out; have hs19 := HL01.out; have hs20 := LUS10.out; have hs21 := LUR10.out; have hs22 := SBR10.out; have hs23 := HBW3.out; have hs24 := SS12.out; have hs25 := HBA.out; have hs26 := SS13.out; have hs27 := SS14.out; have hG := G14.out.hi_; omega, (by have h1 := HDN2.out HALL.out; have h2 := HSX.out; have h3 := HDN.out; have h4 := HSE.out; have h5 := HTT.out; have h6 := HJ3.out.hA; have h7 := HSB.out; exact ⟨fun h9 => ⟨h1.1, h1.2, by omega⟩, fun h9 => by have h8 := h3.1 (by omega); omega⟩), B14.out, S14.out, R14.out, I14.out, G14.out⟩
                case measure => simp [intOf]; omega
    · have hlt2 : ¬ (rd : Int) < 60 := by omega
      have hrd : rd = 60 := by omega
      have hd := HDN.out.1 (by omega)
      have hd3 := HDN.out.2 (by omega)
      obtain ⟨hd1, hd2, _⟩ := hd
      clear hsb htt
      have HT := Lib.hid G7.out.rb
      have HJE := Lib.hid (show J f ⟨s, n, x⟩ ⟨rs, xs⟩ p p p by have h1 := HJ.out; rw [hd1, ← hd2] at h1; exact h1)
      have HP20 := Lib.hid HJE.out.le
      have HPT := Lib.hid (show (p : Int) = (tt : Int) by omega)
      have HST := Lib.hid (show (sent : Int) = (tt : Int) by omega)
      clear hd1 hd2 hd3 hrd hlt
      have T7 := Lib.hid HT.out
      clear HT G7
      go_wp2_with fail
      go_loopw [18] (fun v0 wr => ∃ (i : Nat), v0 = .int .i64 ((i : Int)) ∧ (i ≤ p) ∧ Below w.heap.size w wr ∧ Bx 27 wr bS #[.int .i64 s, .int .i64 n, .int .i64 x] ∧ Bx 31 wr bR #[.int .i64 rs, .slice A1 n1 c1] ∧ Rd .u8 wr (0) (w.heap.size) a len cap zc ∧ RR rowB wr be H (.slice Ag p cg) (Gt p)) (fun i _ => p - (intOf i).toNat)
      case atStart => exact ⟨0, rfl, by omega, B7.out, S7.out, R7.out, I7.out, T7.out⟩
      case round =>
        obtain ⟨i, rfl, gHI4, gB8, gS8, gR8, gI8, gT8⟩ := hrel
        have B8 := Lib.hid gB8
        have S8 := Lib.hid gS8
        have R8 := Lib.hid gR8
        have I8 := Lib.hid gI8
        have T8 := Lib.hid gT8
        have HI4 := Lib.hid gHI4
        clear gB8 gS8 gR8 gI8 gT8 gHI4
        have LUS8 := Lib.hid S8.out.lt
        have LUR8 := Lib.hid R8.out.lt
        have SBR8 := Lib.hid B8.out.size
        have hi4 := HI4.out
        have hp20 := HP20.out
        by_cases hip : i < p
        · have hip2 : (i : Int) < (p : Int) := by omega
          obtain ⟨g4, off4, y4, u4, rfl, hy4, _, _, hru4, hxu4⟩ := ux.row_at (T8.out : RR (row 22 ux.bytes) _ _ _ _ _) hip
          obtain ⟨A0, n0, c0, rfl⟩ := ux.bytes_sl hxu4
          obtain rfl : [(i : Int)] = y4 := by have h1 := gt_at hip; rw [h1] at hy4; exact Option.some.inj hy4
          have hrd := ux.rd_of hxu4
          obtain rfl : 1 = n0 := hrd.len
          obtain ⟨b5, off5, rfl, _, _, hc5⟩ := hrd.at_ (i := 0) (by omega)
          have k4 : wr.cell? ⟨g4, off4 + i, none⟩ = some (.slice (some ⟨b5, off5, none⟩) 1 c0) := by have h1 := hru4 0 _ rfl; rwa [show off4 + i * ux.bytes.n + 0 = off4 + i from by show off4 + i * 1 + 0 = _; omega] at h1
          have k5 : wr.cell? ⟨b5, off5, none⟩ = some (.int .u8 (i : Int)) := by have h1 := hc5; rw [Nat.add_zero] at h1; exact h1
          have hcw : IntKind.i64.wrap (i : Int) = (i : Int) := IntWalk.i64_in _ (by omega)
          have hib : ((i : Int) != (i : Int)) = false := by simp
          clear hy4 hru4 hxu4 hrd hc5
          go_wp2_with fail
          clear k4 k5 hcw hib
          go_roundw
          case rel => exact ⟨i + 1, by go_num, by omega, B8.out, S8.out, R8.out, I8.out, T8.out⟩
          case measure => simp [intOf]; omega
        · have hip2 : ¬ (i : Int) < (p : Int) := by omega
          have hb1 : ((p : Int) == (tt : Int)) = true := by rw [HPT.out]; simp
          have hb2 : ((sent : Int) == (tt : Int)) = true := by rw [HST.out]; simp
          have HDD := Lib.hid HJE.out.done
          have cS0 : wr.cell? ⟨bS, 0, none⟩ = some (.int .i64 s) := S8.out.cell 0
          have cS1 : wr.cell? ⟨bS, 1, none⟩ = some (.int .i64 n) := S8.out.cell 1
          have cS2 : wr.cell? ⟨bS, 2, none⟩ = some (.int .i64 x) := S8.out.cell 2
          go_wp2_with fail
          clear cS0 cS1 cS2
          (with_reducible refine (bs.implDon s n x _).mono ?_)
          rintro e wa9 hp
          obtain ⟨rfl, hb⟩ := bx.b_parts HDD.out hp
          clear hp
          have SS9 := Lib.hid hb.size
          have B9 := Lib.hid (B8.out.trans (hb.mono B8.out.size))
          have S9 := Lib.hid (S8.out.below hb)
          have R9 := Lib.hid (R8.out.below hb)
          have I9 := Lib.hid (I8.out.below hb)
          have T9 := Lib.hid (T8.out.below hb)
          clear hb  B8 S8 R8 I8 T8
          go_wp2_with fail
          go_wp2_with fail
          go_ret
          exact ⟨rfl, B9.out⟩
end Go.Proofs.Ytmmhleobgpgliaa.btLaw
end
