/- The law function of the reservations (FnReservations) returns true and leaves what was there. Condition: the argument is a slice of bytes that came in. -/
import Derived.Test.YtebbnopconbnlaaDrawW
import Derived.Test.YtebbnopconbnlaaRs2
import Derived.Test.YtebbnopconbnlaaRsn
import Derived.Test.YtebbnopconbnlaaDraw2
import Derived.Deep.Cut
namespace Go.Proofs.Ytebbnopconbnlaa.resLaw
open Go.RowKit sl harn rng bx rsm stw
set_option linter.unusedVariables false
set_option linter.unusedSimpArgs false

set_option maxRecDepth 100000 in
set_option maxHeartbeats 16000000 in
theorem walk (a : Option Addr) (len cap : Nat) (zz : List Int) (w : World) (r0 : kit.IsRow .u8 w a len cap zz) :
    Calls Try.prog 3 #[.slice a len cap] w (fun e w' => e = .returned (.bool true) ∧ Below w.heap.size w w') := by
  have HC := Lib.hid (draw.code_of_row r0)
  have hlen : (len : Int) ≤ 9223372036854775807 := by have := HC.out.1; omega
  clear r0
  by_cases hbig : 1048576 < (len : Int)
  · go_enter Try.func3, Try.ntmps3
    go_wp2
    go_ret
    exact ⟨rfl, Below.refl _ _⟩
  go_enter Try.func3, Try.ntmps3
  go_wp2_with (go_at_call 12; go_in)
  clear hbig
  go_wp2_with fail
  (with_reducible refine (draw.drawHf _ a len cap HC.out).mono ?_)
  rintro e w1 ⟨u, h, b, i, k, f, t, s, g, m, r, d, A, n, c, zs, j, rfl, hr, hs, hz, hj, hb⟩
  have B1 := Lib.hid hb
  have HR := Lib.hid hr
  have HS := Lib.hid hs
  have HZ := Lib.hid hz
  have HJ := Lib.hid hj
  clear hb hr hs hz hj HC hlen
  obtain ⟨bx, hbb⟩ : ∃ b, w1.heap.size = b := ⟨_, rfl⟩
  go_upto_region 4 with fail
  generalize hW : (w1.alloc (.cells #[.int .i64 u, .int .i64 h, .int .i64 b] 25)).alloc (.cells #[.int .i64 k, .int .i64 f, .int .i64 t, .int .i64 s, .int .i64 g, .bool m, .bool r, .int .i64 d, .slice A n c] 27) = w2
  have LX := Lib.hid (show w.heap.size ≤ bx by have h1 := B1.out.size;  have h3 := hbb; omega)
  have X2 := Lib.hid (show Bx 25 w2 (bx) #[.int .i64 u, .int .i64 h, .int .i64 b] by
      rw [← hW, ← hbb]
      have hh : Bx 25 (w1.alloc (.cells #[.int .i64 u, .int .i64 h, .int .i64 b] 25)) (w1.heap.size) #[.int .i64 u, .int .i64 h, .int .i64 b] := by have hh := Bx.made 25 w1 #[.int .i64 u, .int .i64 h, .int .i64 b]; simpa using hh
      exact (hh.below (below_box _ _)))
  have LF := Lib.hid (show w.heap.size ≤ bx + 1 by have h1 := B1.out.size;  have h3 := hbb; omega)
  have F2 := Lib.hid (show Bx 27 w2 (bx + 1) #[.int .i64 k, .int .i64 f, .int .i64 t, .int .i64 s, .int .i64 g, .bool m, .bool r, .int .i64 d, .slice A n c] by
      rw [← hW, ← hbb]
      have hh : Bx 27 ((w1.alloc (.cells #[.int .i64 u, .int .i64 h, .int .i64 b] 25)).alloc (.cells #[.int .i64 k, .int .i64 f, .int .i64 t, .int .i64 s, .int .i64 g, .bool m, .bool r, .int .i64 d, .slice A n c] 27)) (w1.heap.size + 1) #[.int .i64 k, .int .i64 f, .int .i64 t, .int .i64 s, .int .i64 g, .bool m, .bool r, .int .i64 d, .slice A n c] := by have hh := Bx.made 27 (w1.alloc (.cells #[.int .i64 u, .int .i64 h, .int .i64 b] 25)) #[.int .i64 k, .int .i64 f, .int .i64 t, .int .i64 s, .int .i64 g, .bool m, .bool r, .int .i64 d, .slice A n c]; simpa using hh
      exact hh)
  have hb : Below w1.heap.size w1 w2 := by rw [← hW]; exact ((Below.refl _ _).alloc (by simp <;> omega) _).alloc (by simp <;> omega) _
  (try rw [hbb])
  clear hW hbb
  have B2 := Lib.hid (B1.out.trans (hb.mono B1.out.size))
  clear hb B1 
  have HCS := hea_cases ⟨u, h, b⟩ i (⟨k, f, t, s, g, m, r, d, zs⟩ : frm.Fm) j
  obtain ⟨⟨x0, x1, x2⟩, hx⟩ : ∃ x, hea ⟨u, h, b⟩ i (⟨k, f, t, s, g, m, r, d, zs⟩ : frm.Fm) j = x := ⟨_, rfl⟩
  rw [hx] at HCS
  have HX := Lib.hid hx
  have HA : (u = x0 ∧ h = x1 ∧ b = x2 ∧ (cnt ⟨u, h, b⟩ i (⟨k, f, t, s, g, m, r, d, zs⟩ : frm.Fm) j = true → ¬ u < j + 1 + d)) ∨ (cnt ⟨u, h, b⟩ i (⟨k, f, t, s, g, m, r, d, zs⟩ : frm.Fm) j = true ∧ u < x0 ∧ j + 1 + d = x0 ∧ vr ⟨x0, x1, x2⟩ = true ∧ (0 ≤ x1 ∧ x1 ≤ 15) ∧ f = x2) := by
    rcases HCS with ⟨he, hn⟩ | ⟨hc, hl, he⟩
    · exact .inl ⟨(congrArg Rv.u he).symm, (congrArg Rv.h he).symm, (congrArg Rv.b he).symm, hn⟩
    · obtain ⟨hv, _, hn, _⟩ := cnt_iff.1 hc
      have e0 := congrArg Rv.u he; have e1 := congrArg Rv.h he; have e2 := congrArg Rv.b he
      refine .inr ⟨hc, ?_, e0.symm, by rw [he]; exact ann_vr hv hn, ?_, e2.symm⟩
      · show u < x0; rw [show x0 = j + 1 + d from e0]; exact hl
      · rw [show x1 = _ from e1]; exact ann_holder hv
  have HL := Lib.hid (show ¬ x0 < u ∧ -1 ≤ x1 ∧ x1 ≤ 63 by have h1 := HR.out; unfold draw.RvIn at h1; rcases HA with ⟨e0, e1, e2, _⟩ | ⟨_, h2, _, _, h3, _⟩ <;> omega)
  have HD := Lib.hid HA
  clear HCS HA hx
  go_wp2_with (first | (refine stw.list_load rfl 25 _ rfl (bx) rfl 25 _ X2.out Try.underlying25 rfl szR ?_) | (refine stw.list_load rfl 27 _ rfl (bx + 1) rfl 27 _ F2.out Try.underlying27 rfl szM ?_))
  (with_reducible refine (implHf u h b i k f t s g m r d A n c zs HZ.out j _).mono ?_)
  rintro e w3 hp
  obtain ⟨rfl, hb⟩ := r_parts HX.out hp
  clear hp
  have B3 := Lib.hid (B2.out.trans (hb.mono B2.out.size))
  have X3 := Lib.hid (X2.out.below hb)
  have F3 := Lib.hid (F2.out.below hb)
  clear hb  B2 X2 F2
  clear HX
  obtain ⟨bY, hbb⟩ : ∃ b, w3.heap.size = b := ⟨_, rfl⟩
  go_upto_region 5 with fail
  generalize hW : w3.alloc (.cells #[.int .i64 x0, .int .i64 x1, .int .i64 x2] 25) = w4
  have LY := Lib.hid (show w.heap.size ≤ bY ∧ bx < bY ∧ bx + 1 < bY by have h1 := B3.out.size; have h2X := X3.out.lt; have h2F := F3.out.lt; have h3 := hbb; omega)
  have Y4 := Lib.hid (show Bx 25 w4 bY #[.int .i64 x0, .int .i64 x1, .int .i64 x2] by rw [← hW, ← hbb]; exact Bx.made _ _ _)
  have hb : Below w3.heap.size w3 w4 := by rw [← hW]; exact below_box _ _
  (try rw [hbb])
  clear hW hbb
  have B4 := Lib.hid (B3.out.trans (hb.mono B3.out.size))
  have X4 := Lib.hid (X3.out.below hb)
  have F4 := Lib.hid (F3.out.below hb)
  clear hb B3 X3 F3
  have hd : decide (x0 < u) = false := decide_eq_false (by have h9 := HL.out; omega)
  have cX0 : w4.cell? ⟨bx, 0, none⟩ = some (.int .i64 u) := X4.out.cell 0
  have cY0 : w4.cell? ⟨bY, 0, none⟩ = some (.int .i64 x0) := Y4.out.cell 0
  go_upto_region 7 with fail
  clear cX0 cY0
  clear hd
  go_cut [65] from 22 (fun s65 wx => s65 = .bool false ∧ Below w.heap.size w wx ∧ Bx 25 wx (bx) #[.int .i64 u, .int .i64 h, .int .i64 b] ∧ Bx 27 wx (bx + 1) #[.int .i64 k, .int .i64 f, .int .i64 t, .int .i64 s, .int .i64 g, .bool m, .bool r, .int .i64 d, .slice A n c] ∧ Bx 25 wx (bY) #[.int .i64 x0, .int .i64 x1, .int .i64 x2])
  case first =>
    rcases HD.out with ⟨e0, e1, e2, _⟩ | ⟨hc, hl, hs0, hv, h3, e2⟩
    · subst e0 e1 e2
      have cX0 : w4.cell? ⟨bx, 0, none⟩ = some (.int .i64 u) := X4.out.cell 0
      have cX1 : w4.cell? ⟨bx, 1, none⟩ = some (.int .i64 h) := X4.out.cell 1
      have cX2 : w4.cell? ⟨bx, 2, none⟩ = some (.int .i64 b) := X4.out.cell 2
      have cY0 : w4.cell? ⟨bY, 0, none⟩ = some (.int .i64 u) := Y4.out.cell 0
      have cY1 : w4.cell? ⟨bY, 1, none⟩ = some (.int .i64 h) := Y4.out.cell 1
      have cY2 : w4.cell? ⟨bY, 2, none⟩ = some (.int .i64 b) := Y4.out.cell 2
      go_wp2_with fail
      clear cX0 cX1 cX2 cY0 cY1 cY2
      go_meet
      case rel => exact ⟨rfl, B4.out, X4.out, F4.out, Y4.out⟩
    · subst e2
      obtain ⟨hvf, _, hn, ht⟩ := cnt_iff.1 hc
      have hd : 0 ≤ d ∧ d ≤ 1000 := hvf.2.2.2.1.2.2
      have hn2 : 0 ≤ j ∧ j ≤ 999999998999 := hn
      have HV := Lib.hid hv
      obtain ⟨p, hp⟩ : ∃ p, j + 1 = p := ⟨_, rfl⟩
      have hy : p + d = x0 := by omega
      have m1 : IntKind.i64.wrap p = p := IntWalk.i64_in _ (by omega)
      have m2 : IntKind.i64.wrap x0 = x0 := IntWalk.i64_in _ (by omega)
      have e0 : (x0 == u) = false := by simp; omega
      have e3 : (t == i) = false := by simp; exact ht
      have HM := Lib.hid (may_own (⟨x0, x1, f⟩ : Rv) j)
      clear hvf hn hn2 ht hd hs0 h3 hc hv hl
      have cX0 : w4.cell? ⟨bx, 0, none⟩ = some (.int .i64 u) := X4.out.cell 0
      have cX1 : w4.cell? ⟨bx, 1, none⟩ = some (.int .i64 h) := X4.out.cell 1
      have cX2 : w4.cell? ⟨bx, 2, none⟩ = some (.int .i64 b) := X4.out.cell 2
      have cY0 : w4.cell? ⟨bY, 0, none⟩ = some (.int .i64 x0) := Y4.out.cell 0
      have cY1 : w4.cell? ⟨bY, 1, none⟩ = some (.int .i64 x1) := Y4.out.cell 1
      have cY2 : w4.cell? ⟨bY, 2, none⟩ = some (.int .i64 f) := Y4.out.cell 2
      have cF1 : w4.cell? ⟨bx + 1, 1, none⟩ = some (.int .i64 f) := F4.out.cell 1
      have cF2 : w4.cell? ⟨bx + 1, 2, none⟩ = some (.int .i64 t) := F4.out.cell 2
      have cF7 : w4.cell? ⟨bx + 1, 7, none⟩ = some (.int .i64 d) := F4.out.cell 7
      go_wp2_with fail
      clear cX0 cX1 cX2 cY0 cY1 cY2 cF1 cF2 cF7
      clear m1 m2 hp hy
      (with_reducible refine (implVr x0 x1 f _).mono ?_)
      rintro e w5 hp
      obtain ⟨rfl, hb⟩ := b_parts HV.out hp
      clear hp
      have B5 := Lib.hid (B4.out.trans (hb.mono B4.out.size))
      have X5 := Lib.hid (X4.out.below hb)
      have F5 := Lib.hid (F4.out.below hb)
      have Y5 := Lib.hid (Y4.out.below hb)
      clear hb  B4 X4 F4 Y4
      have cY0 : w5.cell? ⟨bY, 0, none⟩ = some (.int .i64 x0) := Y5.out.cell 0
      have cY1 : w5.cell? ⟨bY, 1, none⟩ = some (.int .i64 x1) := Y5.out.cell 1
      have cY2 : w5.cell? ⟨bY, 2, none⟩ = some (.int .i64 f) := Y5.out.cell 2
      have cF1 : w5.cell? ⟨bx + 1, 1, none⟩ = some (.int .i64 f) := F5.out.cell 1
      go_wp2_with fail
      clear cY0 cY1 cY2 cF1
      (with_reducible refine (implMt x0 x1 f x1 j _).mono ?_)
      rintro e w6 hp
      obtain ⟨rfl, hb⟩ := b_parts HM.out hp
      clear hp
      have B6 := Lib.hid (B5.out.trans (hb.mono B5.out.size))
      have X6 := Lib.hid (X5.out.below hb)
      have F6 := Lib.hid (F5.out.below hb)
      have Y6 := Lib.hid (Y5.out.below hb)
      clear hb  B5 X5 F5 Y5
      go_wp2_with fail
      go_meet
      case rel => exact ⟨rfl, B6.out, X6.out, F6.out, Y6.out⟩
  case rest =>
    obtain ⟨rfl, gB5, gX5, gF5, gY5⟩ := hcut
    have B5 := Lib.hid gB5
    have X5 := Lib.hid gX5
    have F5 := Lib.hid gF5
    have Y5 := Lib.hid gY5
    clear gB5 gX5 gF5 gY5 B4 X4 F4 Y4
    go_upto_region 9 with fail
    go_cut [100] from 66 (fun s100 wx => s100 = .bool false ∧ Below w.heap.size w wx ∧ Bx 25 wx (bx) #[.int .i64 u, .int .i64 h, .int .i64 b] ∧ Bx 27 wx (bx + 1) #[.int .i64 k, .int .i64 f, .int .i64 t, .int .i64 s, .int .i64 g, .bool m, .bool r, .int .i64 d, .slice A n c] ∧ Bx 25 wx (bY) #[.int .i64 x0, .int .i64 x1, .int .i64 x2])
    case first =>
      rcases HD.out with ⟨e0, e1, e2, hno⟩ | ⟨_, hl, _⟩
      · subst e0 e1 e2
        have HN := Lib.hid hno
        clear hno
        obtain ⟨v1, h1⟩ : ∃ v, vr ⟨u, h, b⟩ = v := ⟨_, rfl⟩
        obtain ⟨v0, h0⟩ : ∃ v, decide (frm.Vf (⟨k, f, t, s, g, m, r, d, zs⟩ : frm.Fm)) = v := ⟨_, rfl⟩
        have H1 := Lib.hid h1
        have H0 := Lib.hid h0
        clear h0 h1
        have cX0 : wc.cell? ⟨bx, 0, none⟩ = some (.int .i64 u) := X5.out.cell 0
        have cX1 : wc.cell? ⟨bx, 1, none⟩ = some (.int .i64 h) := X5.out.cell 1
        have cX2 : wc.cell? ⟨bx, 2, none⟩ = some (.int .i64 b) := X5.out.cell 2
        have cY0 : wc.cell? ⟨bY, 0, none⟩ = some (.int .i64 u) := Y5.out.cell 0
        have cY1 : wc.cell? ⟨bY, 1, none⟩ = some (.int .i64 h) := Y5.out.cell 1
        have cY2 : wc.cell? ⟨bY, 2, none⟩ = some (.int .i64 b) := Y5.out.cell 2
        go_wp2_with fail
        clear cX0 cX1 cX2 cY0 cY1 cY2
        (with_reducible refine (specVr u h b _).mono ?_)
        rintro e w6 hp
        obtain ⟨rfl, hb⟩ := b_parts H1.out hp
        clear hp
        have B6 := Lib.hid (B5.out.trans (hb.mono B5.out.size))
        have X6 := Lib.hid (X5.out.below hb)
        have F6 := Lib.hid (F5.out.below hb)
        have Y6 := Lib.hid (Y5.out.below hb)
        clear hb  B5 X5 F5 Y5
        cases v1 with
        | true =>
          have cF0 : w6.cell? ⟨bx + 1, 0, none⟩ = some (.int .i64 k) := F6.out.cell 0
          have cF1 : w6.cell? ⟨bx + 1, 1, none⟩ = some (.int .i64 f) := F6.out.cell 1
          have cF2 : w6.cell? ⟨bx + 1, 2, none⟩ = some (.int .i64 t) := F6.out.cell 2
          have cF3 : w6.cell? ⟨bx + 1, 3, none⟩ = some (.int .i64 s) := F6.out.cell 3
          have cF4 : w6.cell? ⟨bx + 1, 4, none⟩ = some (.int .i64 g) := F6.out.cell 4
          have cF5 : w6.cell? ⟨bx + 1, 5, none⟩ = some (.bool m) := F6.out.cell 5
          have cF6 : w6.cell? ⟨bx + 1, 6, none⟩ = some (.bool r) := F6.out.cell 6
          have cF7 : w6.cell? ⟨bx + 1, 7, none⟩ = some (.int .i64 d) := F6.out.cell 7
          have cF8 : w6.cell? ⟨bx + 1, 8, none⟩ = some (.slice A n c) := F6.out.cell 8
          go_wp2_with fail
          clear cF0 cF1 cF2 cF3 cF4 cF5 cF6 cF7 cF8
          (with_reducible refine (fbx.specVf k f t s g m r d A n c zs HZ.out _).mono ?_)
          rintro e w7 hp
          obtain ⟨rfl, hb⟩ := fbx.b_parts H0.out hp
          clear hp
          have B7 := Lib.hid (B6.out.trans (hb.mono B6.out.size))
          have X7 := Lib.hid (X6.out.below hb)
          have F7 := Lib.hid (F6.out.below hb)
          have Y7 := Lib.hid (Y6.out.below hb)
          clear hb  B6 X6 F6 Y6
          cases v0 with
          | true =>
            have cF2 : w7.cell? ⟨bx + 1, 2, none⟩ = some (.int .i64 t) := F7.out.cell 2
            have cF7 : w7.cell? ⟨bx + 1, 7, none⟩ = some (.int .i64 d) := F7.out.cell 7
            have cX0 : w7.cell? ⟨bx, 0, none⟩ = some (.int .i64 u) := X7.out.cell 0
            by_cases he : t = i
            · subst he
              go_wp2_with fail
              clear cF2 cF7 cX0
              go_meet
              case rel => exact ⟨rfl, B7.out, X7.out, F7.out, Y7.out⟩
            · have e3 : (t == i) = false := by simp [he]
              have HE := Lib.hid he
              clear he
              by_cases hj0 : 0 ≤ j
              · by_cases hj1 : j < 1000
                · have hvf : frm.Vf (⟨k, f, t, s, g, m, r, d, zs⟩ : frm.Fm) := of_decide_eq_true H0.out
                  have hd : 0 ≤ d ∧ d ≤ 1000 := hvf.2.2.2.1.2.2
                  have hno := HN.out (cnt_iff.2 ⟨hvf, H1.out, ⟨hj0, show j ≤ 999999998999 by omega⟩, HE.out⟩)
                  obtain ⟨p, hp⟩ : ∃ p, j + 1 = p := ⟨_, rfl⟩
                  obtain ⟨y, hy⟩ : ∃ y, p + d = y := ⟨_, rfl⟩
                  have m1 : IntKind.i64.wrap p = p := IntWalk.i64_in _ (by omega)
                  have m2 : IntKind.i64.wrap y = y := IntWalk.i64_in _ (by omega)
                  have hg : ¬ y > u := by omega
                  have hgd : decide (y > u) = false := decide_eq_false hg
                  clear hvf hd hno
                  go_wp2_with fail
                  clear cF2 cF7 cX0
                  go_meet
                  case rel => exact ⟨rfl, B7.out, X7.out, F7.out, Y7.out⟩
                · go_wp2_with fail
                  clear cF2 cF7 cX0
                  go_meet
                  case rel => exact ⟨rfl, B7.out, X7.out, F7.out, Y7.out⟩
              · have hd : decide (j ≥ 0) = false := decide_eq_false hj0
                go_wp2_with fail
                clear cF2 cF7 cX0
                go_meet
                case rel => exact ⟨rfl, B7.out, X7.out, F7.out, Y7.out⟩
          | false =>
            go_wp2_with fail
            go_meet
            case rel => exact ⟨rfl, B7.out, X7.out, F7.out, Y7.out⟩
        | false =>
          go_wp2_with fail
          go_meet
          case rel => exact ⟨rfl, B6.out, X6.out, F6.out, Y6.out⟩
      · have e0 : (x0 == u) = false := by simp; omega
        have cX0 : wc.cell? ⟨bx, 0, none⟩ = some (.int .i64 u) := X5.out.cell 0
        have cX1 : wc.cell? ⟨bx, 1, none⟩ = some (.int .i64 h) := X5.out.cell 1
        have cX2 : wc.cell? ⟨bx, 2, none⟩ = some (.int .i64 b) := X5.out.cell 2
        have cY0 : wc.cell? ⟨bY, 0, none⟩ = some (.int .i64 x0) := Y5.out.cell 0
        have cY1 : wc.cell? ⟨bY, 1, none⟩ = some (.int .i64 x1) := Y5.out.cell 1
        have cY2 : wc.cell? ⟨bY, 2, none⟩ = some (.int .i64 x2) := Y5.out.cell 2
        go_wp2_with fail
        clear cX0 cX1 cX2 cY0 cY1 cY2
        go_meet
        case rel => exact ⟨rfl, B5.out, X5.out, F5.out, Y5.out⟩
    case rest =>
      obtain ⟨rfl, gB6, gX6, gF6, gY6⟩ := hcut
      have B6 := Lib.hid gB6
      have X6 := Lib.hid gX6
      have F6 := Lib.hid gF6
      have Y6 := Lib.hid gY6
      clear gB6 gX6 gF6 gY6 B5 X5 F5 Y5
      obtain ⟨v, hv⟩ : ∃ v, isr ⟨x0, x1, x2⟩ j = v := ⟨_, rfl⟩
      have HV := Lib.hid hv
      clear hv
      go_upto_region 11 with fail
      go_cut [111] from 101 (fun s111 wx => s111 = .bool false ∧ Below w.heap.size w wx ∧ Bx 25 wx (bx) #[.int .i64 u, .int .i64 h, .int .i64 b] ∧ Bx 27 wx (bx + 1) #[.int .i64 k, .int .i64 f, .int .i64 t, .int .i64 s, .int .i64 g, .bool m, .bool r, .int .i64 d, .slice A n c] ∧ Bx 25 wx (bY) #[.int .i64 x0, .int .i64 x1, .int .i64 x2])
      case first =>
        have cY0 : wc.cell? ⟨bY, 0, none⟩ = some (.int .i64 x0) := Y6.out.cell 0
        have cY1 : wc.cell? ⟨bY, 1, none⟩ = some (.int .i64 x1) := Y6.out.cell 1
        have cY2 : wc.cell? ⟨bY, 2, none⟩ = some (.int .i64 x2) := Y6.out.cell 2
        go_wp2_with fail
        clear cY0 cY1 cY2
        (with_reducible refine (implIr x0 x1 x2 j _).mono ?_)
        rintro e w7 hp
        obtain ⟨rfl, hb⟩ := b_parts HV.out hp
        clear hp
        have B7 := Lib.hid (B6.out.trans (hb.mono B6.out.size))
        have X7 := Lib.hid (X6.out.below hb)
        have F7 := Lib.hid (F6.out.below hb)
        have Y7 := Lib.hid (Y6.out.below hb)
        clear hb  B6 X6 F6 Y6
        cases v with
        | true =>
          obtain ⟨x3, h3⟩ : ∃ x, x1 + 1 = x := ⟨_, rfl⟩
          have m1 : IntKind.i64.wrap x3 = x3 := IntWalk.i64_in _ (by have := HL.out; omega)
          have HM := Lib.hid (show may ⟨x0, x1, x2⟩ x3 j = false by have hm := may_next HV.out; rw [← h3]; exact hm)
          have cY0 : w7.cell? ⟨bY, 0, none⟩ = some (.int .i64 x0) := Y7.out.cell 0
          have cY1 : w7.cell? ⟨bY, 1, none⟩ = some (.int .i64 x1) := Y7.out.cell 1
          have cY2 : w7.cell? ⟨bY, 2, none⟩ = some (.int .i64 x2) := Y7.out.cell 2
          go_wp2_with fail
          clear cY0 cY1 cY2
          clear h3 m1
          (with_reducible refine (implMt x0 x1 x2 x3 j _).mono ?_)
          rintro e w8 hp
          obtain ⟨rfl, hb⟩ := b_parts HM.out hp
          clear hp
          have B8 := Lib.hid (B7.out.trans (hb.mono B7.out.size))
          have X8 := Lib.hid (X7.out.below hb)
          have F8 := Lib.hid (F7.out.below hb)
          have Y8 := Lib.hid (Y7.out.below hb)
          clear hb  B7 X7 F7 Y7
          go_wp2_with fail
          go_meet
          case rel => exact ⟨rfl, B8.out, X8.out, F8.out, Y8.out⟩
        | false =>
          go_wp2_with fail
          go_meet
          case rel => exact ⟨rfl, B7.out, X7.out, F7.out, Y7.out⟩
      case rest =>
        obtain ⟨rfl, gB7, gX7, gF7, gY7⟩ := hcut
        have B7 := Lib.hid gB7
        have X7 := Lib.hid gX7
        have F7 := Lib.hid gF7
        have Y7 := Lib.hid gY7
        clear gB7 gX7 gF7 gY7 B6 X6 F6 Y6
        obtain ⟨mx, hm⟩ : ∃ x, (if 0 < j then j else 0) = x := ⟨_, rfl⟩
        have HM := Lib.hid hm.symm
        obtain ⟨⟨z0, z1, z2⟩, hz⟩ : ∃ x, rel ⟨x0, x1, x2⟩ j false = x := ⟨_, rfl⟩
        have HZR := Lib.hid hz
        have HRN := Lib.hid (show isr ⟨z0, z1, z2⟩ mx = false by rw [← hz]; exact rel_no _ _ _ hm.symm)
        obtain ⟨⟨c0, c1, c2⟩, hc⟩ : ∃ x, com ⟨u, h, b⟩ ⟨x0, x1, x2⟩ = x := ⟨_, rfl⟩
        have HCO := Lib.hid hc
        have HCM := Lib.hid (show c0 = if u < x0 then x0 else u from (congrArg Rv.u hc).symm.trans (com_u ⟨u, h, b⟩ ⟨x0, x1, x2⟩))
        have HRY := Lib.hid (rel_yes (⟨x0, x1, x2⟩ : Rv) j)
        have HF4 := Lib.hid (show airs.fs 1 20 = 4 by decide)
        have HR6 := Lib.hid (show rqd 1 20 = 6 by decide)
        have HG5 := Lib.hid (show grd 6 = 5 by decide)
        clear hm hz hc
        go_wp2_with fail
        refine reg.region_plain reg.Bel 145 [some [], some [], some [(0, 112), (1, 113)], some [], some [(2, 114), (3, 115)], some [(4, 116)], some [(5, 117)], some [(5, 117)], some [(6, 118), (7, 119), (5, 117)], some [(5, 117)], some [(9, 121), (5, 117)], some [(8, 120), (10, 122), (5, 117)], some [(11, 123), (5, 117)], some [(5, 117), (12, 124)], some [(13, 125)], some [(14, 126)], some [(14, 126)], some [(15, 127), (16, 128), (14, 126)], some [(17, 129), (14, 126)], some [(14, 126)], some [(19, 131), (14, 126)], some [(14, 126)], some [(21, 133), (14, 126)], some [(20, 132), (22, 134), (14, 126)], some [(18, 130), (23, 135), (14, 126)], some [(14, 126), (24, 136)], some [(25, 137)], some [(26, 138)], some [(27, 139), (26, 138)], some [(26, 138)], some [(29, 141), (26, 138)], some [(28, 140), (30, 142), (26, 138)], some [(26, 138), (31, 143)], some [(32, 144)]] [(0, 112), (1, 113), (2, 114), (3, 115), (4, 116), (5, 117), (6, 118), (7, 119), (8, 120), (9, 121), (10, 122), (11, 123), (12, 124), (13, 125), (14, 126), (15, 127), (16, 128), (17, 129), (18, 130), (19, 131), (20, 132), (21, 133), (22, 134), (23, 135), (24, 136), (25, 137), (26, 138), (27, 139), (28, 140), (29, 141), (30, 142), (31, 143), (32, 144), (33, 2)]
          (fun w' => Below w.heap.size w w' ∧ Bx 25 w' (bx) #[.int .i64 u, .int .i64 h, .int .i64 b] ∧ Bx 27 w' (bx + 1) #[.int .i64 k, .int .i64 f, .int .i64 t, .int .i64 s, .int .i64 g, .bool m, .bool r, .int .i64 d, .slice A n c] ∧ Bx 25 w' (bY) #[.int .i64 x0, .int .i64 x1, .int .i64 x2] ∧ True)
          (reg.rl [reg.is (.agg #[.int .i64 x0, .int .i64 x1, .int .i64 x2]), reg.is (.int .i64 j), reg.is (.agg #[.int .i64 x0, .int .i64 x1, .int .i64 x2]), reg.is (.agg #[.int .i64 x0, .int .i64 x1, .int .i64 x2]), reg.is (.bool true), reg.is (.bool true), reg.is (.agg #[.int .i64 x0, .int .i64 x1, .int .i64 x2]), reg.is (.int .i64 j), reg.is (.agg #[.int .i64 z0, .int .i64 z1, .int .i64 z2]), reg.is (.int .i64 j), reg.is (.int .i64 mx), reg.is (.bool false), reg.is (.bool true), reg.is (.bool true), reg.is (.bool true), reg.is (.agg #[.int .i64 u, .int .i64 h, .int .i64 b]), reg.is (.agg #[.int .i64 x0, .int .i64 x1, .int .i64 x2]), reg.is (.agg #[.int .i64 c0, .int .i64 c1, .int .i64 c2]), reg.is (.int .i64 c0), reg.is (.pointer (some ⟨bx, 0, none⟩)), reg.is (.int .i64 u), reg.is (.pointer (some ⟨bY, 0, none⟩)), reg.is (.int .i64 x0), reg.is (.int .i64 c0), reg.is (.bool true), reg.is (.bool true), reg.is (.bool true), reg.is (.int .i64 6), reg.is (.int .i64 5), reg.is (.int .i64 4), reg.is (.int .i64 5), reg.is (.bool true), reg.is (.bool true), reg.is (.bool true)])
          (by kernel_rfl) (by kernel_rfl) rfl
          (fun w1 w2 hc hb => ⟨hc.1.trans (hb.mono hc.1.size), hc.2.1.below hb, hc.2.2.1.below hb, hc.2.2.2.1.below hb, trivial⟩) (reg.rl_keep _) (⟨own.below_drew B7.out, X7.out.same rfl, F7.out.same rfl, Y7.out.same rfl, trivial⟩) (by kernel_rfl) ⟨?_, ?_, ?_, ?_, ?_, ?_, ?_, ?_, ?_, ?_, ?_, ?_, ?_, ?_, ?_, ?_, ?_, ?_, ?_, ?_, ?_, ?_, ?_, ?_, ?_, ?_, ?_, ?_, ?_, ?_, ?_, ?_, ?_, ?_, trivial⟩ ?_
        · refine fun w8 hc  K hK => ?_
          (try simp only [Act.put, List.setIfInBounds_toArray, List.set_cons_zero, List.set_cons_succ])
          rw [if_pos (by rfl)]
          refine stw.wp_load_bx 25 _ rfl (bY) rfl 25 _ hc.2.2.2.1 Try.underlying25 rfl szR ?_
          exact hK _ _ rfl (Below.refl _ _)
        · refine fun w8 hc  K hK => ?_
          (try simp only [Act.put, List.setIfInBounds_toArray, List.set_cons_zero, List.set_cons_succ])
          go_simp
          exact hK (.int .i64 j) _ rfl (Below.refl _ _)
        · refine fun w8 hc v0 h0 v1 h1 K hK => ?_
          obtain rfl : v0 = .agg #[.int .i64 x0, .int .i64 x1, .int .i64 x2] := h0
          obtain rfl : v1 = .int .i64 j := h1
          (try simp only [Act.put, List.setIfInBounds_toArray, List.set_cons_zero, List.set_cons_succ])
          go_simp
          (with_reducible refine (implRu x0 x1 x2 j true _).mono ?_)
          rintro e w3 hp
          obtain ⟨rfl, hb⟩ := r_parts HRY.out hp
          exact hK _ _ rfl hb
        · refine fun w8 hc  K hK => ?_
          (try simp only [Act.put, List.setIfInBounds_toArray, List.set_cons_zero, List.set_cons_succ])
          rw [if_pos (by rfl)]
          refine stw.wp_load_bx 25 _ rfl (bY) rfl 25 _ hc.2.2.2.1 Try.underlying25 rfl szR ?_
          exact hK _ _ rfl (Below.refl _ _)
        · refine fun w8 hc v2 h2 v3 h3 K hK => ?_
          obtain rfl : v2 = .agg #[.int .i64 x0, .int .i64 x1, .int .i64 x2] := h2
          obtain rfl : v3 = .agg #[.int .i64 x0, .int .i64 x1, .int .i64 x2] := h3
          (try simp only [Act.put, List.setIfInBounds_toArray, List.set_cons_zero, List.set_cons_succ])
          go_simp
          exact hK (.bool true) _ rfl (Below.refl _ _)
        · refine fun w8 hc v4 h4 K hK => ?_
          obtain rfl : v4 = .bool true := h4
          (try simp only [Act.put, List.setIfInBounds_toArray, List.set_cons_zero, List.set_cons_succ])
          go_simp
          exact hK (.bool true) _ rfl (Below.refl _ _)
        · refine fun w8 hc v5 h5 K hK => ?_
          obtain rfl : v5 = .bool true := h5
          (try simp only [Act.put, List.setIfInBounds_toArray, List.set_cons_zero, List.set_cons_succ])
          rw [if_pos (by rfl)]
          refine stw.wp_load_bx 25 _ rfl (bY) rfl 25 _ hc.2.2.2.1 Try.underlying25 rfl szR ?_
          exact hK _ _ rfl (Below.refl _ _)
        · refine fun w8 hc v5 h5 K hK => ?_
          obtain rfl : v5 = .bool true := h5
          (try simp only [Act.put, List.setIfInBounds_toArray, List.set_cons_zero, List.set_cons_succ])
          rw [if_pos (by rfl)]
          go_simp
          exact hK (.int .i64 j) _ rfl (Below.refl _ _)
        · refine fun w8 hc v6 h6 v7 h7 v5 h5 K hK => ?_
          obtain rfl : v6 = .agg #[.int .i64 x0, .int .i64 x1, .int .i64 x2] := h6
          obtain rfl : v7 = .int .i64 j := h7
          obtain rfl : v5 = .bool true := h5
          (try simp only [Act.put, List.setIfInBounds_toArray, List.set_cons_zero, List.set_cons_succ])
          rw [if_pos (by rfl)]
          go_simp
          (with_reducible refine (implRu x0 x1 x2 j false _).mono ?_)
          rintro e w3 hp
          obtain ⟨rfl, hb⟩ := r_parts HZR.out hp
          exact hK _ _ rfl hb
        · refine fun w8 hc v5 h5 K hK => ?_
          obtain rfl : v5 = .bool true := h5
          (try simp only [Act.put, List.setIfInBounds_toArray, List.set_cons_zero, List.set_cons_succ])
          rw [if_pos (by rfl)]
          go_simp
          exact hK (.int .i64 j) _ rfl (Below.refl _ _)
        · refine fun w8 hc v9 h9 v5 h5 K hK => ?_
          obtain rfl : v9 = .int .i64 j := h9
          obtain rfl : v5 = .bool true := h5
          (try simp only [Act.put, List.setIfInBounds_toArray, List.set_cons_zero, List.set_cons_succ])
          rw [if_pos (by rfl)]
          go_simp
          (with_reducible refine (rng.specMax 0 j mx HM.out _).mono ?_)
          rintro e w3 ⟨rfl, rfl⟩
          exact hK _ _ rfl (Below.refl _ _)
        · refine fun w8 hc v8 h8 v10 h10 v5 h5 K hK => ?_
          obtain rfl : v8 = .agg #[.int .i64 z0, .int .i64 z1, .int .i64 z2] := h8
          obtain rfl : v10 = .int .i64 mx := h10
          obtain rfl : v5 = .bool true := h5
          (try simp only [Act.put, List.setIfInBounds_toArray, List.set_cons_zero, List.set_cons_succ])
          rw [if_pos (by rfl)]
          go_simp
          (with_reducible refine (implIr z0 z1 z2 mx _).mono ?_)
          rintro e w3 hp
          obtain ⟨rfl, hb⟩ := b_parts HRN.out hp
          exact hK _ _ rfl hb
        · refine fun w8 hc v11 h11 v5 h5 K hK => ?_
          obtain rfl : v11 = .bool false := h11
          obtain rfl : v5 = .bool true := h5
          (try simp only [Act.put, List.setIfInBounds_toArray, List.set_cons_zero, List.set_cons_succ])
          rw [if_pos (by rfl)]
          go_simp
          exact hK (.bool true) _ rfl (Below.refl _ _)
        · refine fun w8 hc v5 h5 v12 h12 K hK => ?_
          obtain rfl : v5 = .bool true := h5
          obtain rfl : v12 = .bool true := h12
          (try simp only [Act.put, List.setIfInBounds_toArray, List.set_cons_zero, List.set_cons_succ])
          go_simp
          exact hK (.bool true) _ rfl (Below.refl _ _)
        · refine fun w8 hc v13 h13 K hK => ?_
          obtain rfl : v13 = .bool true := h13
          (try simp only [Act.put, List.setIfInBounds_toArray, List.set_cons_zero, List.set_cons_succ])
          go_simp
          exact hK (.bool true) _ rfl (Below.refl _ _)
        · refine fun w8 hc v14 h14 K hK => ?_
          obtain rfl : v14 = .bool true := h14
          (try simp only [Act.put, List.setIfInBounds_toArray, List.set_cons_zero, List.set_cons_succ])
          rw [if_pos (by rfl)]
          refine stw.wp_load_bx 25 _ rfl (bx) rfl 25 _ hc.2.1 Try.underlying25 rfl szR ?_
          exact hK _ _ rfl (Below.refl _ _)
        · refine fun w8 hc v14 h14 K hK => ?_
          obtain rfl : v14 = .bool true := h14
          (try simp only [Act.put, List.setIfInBounds_toArray, List.set_cons_zero, List.set_cons_succ])
          rw [if_pos (by rfl)]
          refine stw.wp_load_bx 25 _ rfl (bY) rfl 25 _ hc.2.2.2.1 Try.underlying25 rfl szR ?_
          exact hK _ _ rfl (Below.refl _ _)
        · refine fun w8 hc v15 h15 v16 h16 v14 h14 K hK => ?_
          obtain rfl : v15 = .agg #[.int .i64 u, .int .i64 h, .int .i64 b] := h15
          obtain rfl : v16 = .agg #[.int .i64 x0, .int .i64 x1, .int .i64 x2] := h16
          obtain rfl : v14 = .bool true := h14
          (try simp only [Act.put, List.setIfInBounds_toArray, List.set_cons_zero, List.set_cons_succ])
          rw [if_pos (by rfl)]
          go_simp
          (with_reducible refine (implCo u h b x0 x1 x2 _).mono ?_)
          rintro e w3 hp
          obtain ⟨rfl, hb⟩ := r_parts HCO.out hp
          exact hK _ _ rfl hb
        · refine fun w8 hc v17 h17 v14 h14 K hK => ?_
          obtain rfl : v17 = .agg #[.int .i64 c0, .int .i64 c1, .int .i64 c2] := h17
          obtain rfl : v14 = .bool true := h14
          (try simp only [Act.put, List.setIfInBounds_toArray, List.set_cons_zero, List.set_cons_succ])
          rw [if_pos (by rfl)]
          go_simp
          exact hK (.int .i64 c0) _ rfl (Below.refl _ _)
        · refine fun w8 hc v14 h14 K hK => ?_
          obtain rfl : v14 = .bool true := h14
          (try simp only [Act.put, List.setIfInBounds_toArray, List.set_cons_zero, List.set_cons_succ])
          rw [if_pos (by rfl)]
          go_simp
          exact hK (.pointer (some ⟨bx, 0, none⟩)) _ rfl (Below.refl _ _)
        · refine fun w8 hc v19 h19 v14 h14 K hK => ?_
          obtain rfl : v19 = .pointer (some ⟨bx, 0, none⟩) := h19
          obtain rfl : v14 = .bool true := h14
          (try simp only [Act.put, List.setIfInBounds_toArray, List.set_cons_zero, List.set_cons_succ])
          rw [if_pos (by rfl)]
          have c0 : w8.cell? ⟨bx, 0, none⟩ = some (.int .i64 u) := hc.2.1.cell 0
          go_simp
          exact hK (.int .i64 u) _ rfl (Below.refl _ _)
        · refine fun w8 hc v14 h14 K hK => ?_
          obtain rfl : v14 = .bool true := h14
          (try simp only [Act.put, List.setIfInBounds_toArray, List.set_cons_zero, List.set_cons_succ])
          rw [if_pos (by rfl)]
          go_simp
          exact hK (.pointer (some ⟨bY, 0, none⟩)) _ rfl (Below.refl _ _)
        · refine fun w8 hc v21 h21 v14 h14 K hK => ?_
          obtain rfl : v21 = .pointer (some ⟨bY, 0, none⟩) := h21
          obtain rfl : v14 = .bool true := h14
          (try simp only [Act.put, List.setIfInBounds_toArray, List.set_cons_zero, List.set_cons_succ])
          rw [if_pos (by rfl)]
          have c0 : w8.cell? ⟨bY, 0, none⟩ = some (.int .i64 x0) := hc.2.2.2.1.cell 0
          go_simp
          exact hK (.int .i64 x0) _ rfl (Below.refl _ _)
        · refine fun w8 hc v20 h20 v22 h22 v14 h14 K hK => ?_
          obtain rfl : v20 = .int .i64 u := h20
          obtain rfl : v22 = .int .i64 x0 := h22
          obtain rfl : v14 = .bool true := h14
          (try simp only [Act.put, List.setIfInBounds_toArray, List.set_cons_zero, List.set_cons_succ])
          rw [if_pos (by rfl)]
          go_simp
          (with_reducible refine (rng.specMax u x0 c0 HCM.out _).mono ?_)
          rintro e w3 ⟨rfl, rfl⟩
          exact hK _ _ rfl (Below.refl _ _)
        · refine fun w8 hc v18 h18 v23 h23 v14 h14 K hK => ?_
          obtain rfl : v18 = .int .i64 c0 := h18
          obtain rfl : v23 = .int .i64 c0 := h23
          obtain rfl : v14 = .bool true := h14
          (try simp only [Act.put, List.setIfInBounds_toArray, List.set_cons_zero, List.set_cons_succ])
          rw [if_pos (by rfl)]
          go_simp
          exact hK (.bool true) _ rfl (Below.refl _ _)
        · refine fun w8 hc v14 h14 v24 h24 K hK => ?_
          obtain rfl : v14 = .bool true := h14
          obtain rfl : v24 = .bool true := h24
          (try simp only [Act.put, List.setIfInBounds_toArray, List.set_cons_zero, List.set_cons_succ])
          go_simp
          exact hK (.bool true) _ rfl (Below.refl _ _)
        · refine fun w8 hc v25 h25 K hK => ?_
          obtain rfl : v25 = .bool true := h25
          (try simp only [Act.put, List.setIfInBounds_toArray, List.set_cons_zero, List.set_cons_succ])
          go_simp
          exact hK (.bool true) _ rfl (Below.refl _ _)
        · refine fun w8 hc v26 h26 K hK => ?_
          obtain rfl : v26 = .bool true := h26
          (try simp only [Act.put, List.setIfInBounds_toArray, List.set_cons_zero, List.set_cons_succ])
          rw [if_pos (by rfl)]
          go_simp
          (with_reducible refine (implRq 1 20 _).mono ?_)
          rintro e w3 hp
          obtain ⟨rfl, hb⟩ := n_parts HR6.out hp
          exact hK _ _ rfl hb
        · refine fun w8 hc v27 h27 v26 h26 K hK => ?_
          obtain rfl : v27 = .int .i64 6 := h27
          obtain rfl : v26 = .bool true := h26
          (try simp only [Act.put, List.setIfInBounds_toArray, List.set_cons_zero, List.set_cons_succ])
          rw [if_pos (by rfl)]
          go_simp
          (with_reducible refine (implGr 6 (by decide) _).mono ?_)
          rintro e w3 hp
          obtain ⟨rfl, hb⟩ := n_parts HG5.out hp
          exact hK _ _ rfl hb
        · refine fun w8 hc v26 h26 K hK => ?_
          obtain rfl : v26 = .bool true := h26
          (try simp only [Act.put, List.setIfInBounds_toArray, List.set_cons_zero, List.set_cons_succ])
          rw [if_pos (by rfl)]
          go_simp
          (with_reducible refine (airs.implFs 1 20 _).mono ?_)
          rintro e w3 hp
          obtain ⟨rfl, hb⟩ := airs.Num.parts HF4.out hp
          exact hK _ _ rfl hb
        · refine fun w8 hc v29 h29 v26 h26 K hK => ?_
          obtain rfl : v29 = .int .i64 4 := h29
          obtain rfl : v26 = .bool true := h26
          (try simp only [Act.put, List.setIfInBounds_toArray, List.set_cons_zero, List.set_cons_succ])
          rw [if_pos (by rfl)]
          go_simp
          exact hK (.int .i64 5) _ rfl (Below.refl _ _)
        · refine fun w8 hc v28 h28 v30 h30 v26 h26 K hK => ?_
          obtain rfl : v28 = .int .i64 5 := h28
          obtain rfl : v30 = .int .i64 5 := h30
          obtain rfl : v26 = .bool true := h26
          (try simp only [Act.put, List.setIfInBounds_toArray, List.set_cons_zero, List.set_cons_succ])
          rw [if_pos (by rfl)]
          go_simp
          exact hK (.bool true) _ rfl (Below.refl _ _)
        · refine fun w8 hc v26 h26 v31 h31 K hK => ?_
          obtain rfl : v26 = .bool true := h26
          obtain rfl : v31 = .bool true := h31
          (try simp only [Act.put, List.setIfInBounds_toArray, List.set_cons_zero, List.set_cons_succ])
          go_simp
          exact hK (.bool true) _ rfl (Below.refl _ _)
        · refine fun w8 hc v32 h32 K hK => ?_
          obtain rfl : v32 = .bool true := h32
          (try simp only [Act.put, List.setIfInBounds_toArray, List.set_cons_zero, List.set_cons_succ])
          go_simp
          exact hK (.bool true) _ rfl (Below.refl _ _)
        refine fun w9 hc v0 h0 v1 h1 v2 h2 v3 h3 v4 h4 v5 h5 v6 h6 v7 h7 v8 h8 v9 h9 v10 h10 v11 h11 v12 h12 v13 h13 v14 h14 v15 h15 v16 h16 v17 h17 v18 h18 v19 h19 v20 h20 v21 h21 v22 h22 v23 h23 v24 h24 v25 h25 v26 h26 v27 h27 v28 h28 v29 h29 v30 h30 v31 h31 v32 h32 v33 h33 => ?_
        obtain rfl : v0 = .agg #[.int .i64 x0, .int .i64 x1, .int .i64 x2] := h0
        obtain rfl : v1 = .int .i64 j := h1
        obtain rfl : v2 = .agg #[.int .i64 x0, .int .i64 x1, .int .i64 x2] := h2
        obtain rfl : v3 = .agg #[.int .i64 x0, .int .i64 x1, .int .i64 x2] := h3
        obtain rfl : v4 = .bool true := h4
        obtain rfl : v5 = .bool true := h5
        obtain rfl : v6 = .agg #[.int .i64 x0, .int .i64 x1, .int .i64 x2] := h6
        obtain rfl : v7 = .int .i64 j := h7
        obtain rfl : v8 = .agg #[.int .i64 z0, .int .i64 z1, .int .i64 z2] := h8
        obtain rfl : v9 = .int .i64 j := h9
        obtain rfl : v10 = .int .i64 mx := h10
        obtain rfl : v11 = .bool false := h11
        obtain rfl : v12 = .bool true := h12
        obtain rfl : v13 = .bool true := h13
        obtain rfl : v14 = .bool true := h14
        obtain rfl : v15 = .agg #[.int .i64 u, .int .i64 h, .int .i64 b] := h15
        obtain rfl : v16 = .agg #[.int .i64 x0, .int .i64 x1, .int .i64 x2] := h16
        obtain rfl : v17 = .agg #[.int .i64 c0, .int .i64 c1, .int .i64 c2] := h17
        obtain rfl : v18 = .int .i64 c0 := h18
        obtain rfl : v19 = .pointer (some ⟨bx, 0, none⟩) := h19
        obtain rfl : v20 = .int .i64 u := h20
        obtain rfl : v21 = .pointer (some ⟨bY, 0, none⟩) := h21
        obtain rfl : v22 = .int .i64 x0 := h22
        obtain rfl : v23 = .int .i64 c0 := h23
        obtain rfl : v24 = .bool true := h24
        obtain rfl : v25 = .bool true := h25
        obtain rfl : v26 = .bool true := h26
        obtain rfl : v27 = .int .i64 6 := h27
        obtain rfl : v28 = .int .i64 5 := h28
        obtain rfl : v29 = .int .i64 4 := h29
        obtain rfl : v30 = .int .i64 5 := h30
        obtain rfl : v31 = .bool true := h31
        obtain rfl : v32 = .bool true := h32
        obtain rfl : v33 = .bool true := h33
        (try simp only [reg.Obs])
        (try simp only [Act.put, List.setIfInBounds_toArray, List.set_cons_zero, List.set_cons_succ])
        have B8 := Lib.hid hc.1
        have X8 := Lib.hid hc.2.1
        have F8 := Lib.hid hc.2.2.1
        have Y8 := Lib.hid hc.2.2.2.1
        clear hc B7 X7 F7 Y7
        go_wp2_with fail
        go_ret
        exact ⟨rfl, B8.out⟩
end Go.Proofs.Ytebbnopconbnlaa.resLaw
