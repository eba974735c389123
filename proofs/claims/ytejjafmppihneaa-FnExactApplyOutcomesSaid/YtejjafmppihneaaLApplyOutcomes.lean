/- The law function of FnExactApplyOutcomes returns true and leaves what was there. Condition: none. -/
import Derived.Test.YtejjafmppihneaaRt4
namespace Go.Proofs.Ytejjafmppihneaa.xExactApplyOutcomes
open Go.RowKit sl harn bx stw ra
set_option linter.unusedVariables false
set_option linter.unusedSimpArgs false

set_option maxRecDepth 100000 in
set_option maxHeartbeats 4000000 in
theorem walk (r g b t : Int) (p : Bool) (l : List Bool) (A : Option Addr) (n cap : Nat) (w : World) (h0 : bls.Rb w 0 w.heap.size A n cap l) :
    Calls Try.prog 9 #[.agg #[.int .i64 r, .int .i64 g, .int .i64 b, .int .i64 t, .bool p], .slice A n cap] w (fun e w' => e = .returned (.bool true) ∧ Below w.heap.size w w') := by
  by_cases hbig : 1048576 < (n : Int)
  · have hcap := h0.cap_
    have hn9 : (n : Int) ≤ 9223372036854775807 := by omega
    clear hcap
    go_enter Try.func9, Try.ntmps9
    go_wp2
    go_ret
    exact ⟨rfl, bx.below_box _ _⟩
  · have hcap := h0.cap_
    have hn9 : (n : Int) ≤ 9223372036854775807 := by omega
    clear hcap
    have RW := Lib.hid h0
    have HLN := Lib.hid (show n ≤ 67108864 by omega)
    clear h0
    obtain ⟨⟨x0, x1, x2, x3, x4⟩, hx⟩ : ∃ x, app ⟨r, g, b, t, p⟩ l = x := ⟨_, rfl⟩
    have HX := Lib.hid hx
    clear hx
    go_enter Try.func9, Try.ntmps9
    go_wp2_with fail
    obtain ⟨w0, hW⟩ : ∃ w0, w.alloc (.cells #[.int .i64 r, .int .i64 g, .int .i64 b, .int .i64 t, .bool p] 41) = w0 := ⟨_, rfl⟩
    rw [hW]
    have B0 := Lib.hid (show Below w.heap.size w w0 by rw [← hW]; exact (Below.refl _ _).alloc (by simp <;> omega) _)
    have X0 := Lib.hid (show Bx 41 w0 (w.heap.size) #[.int .i64 r, .int .i64 g, .int .i64 b, .int .i64 t, .bool p] by
        rw [← hW]
        have hh := Bx.made 41 w #[.int .i64 r, .int .i64 g, .int .i64 b, .int .i64 t, .bool p]
        exact hh)
    have R0 := Lib.hid (show bls.Rb w0 0 w.heap.size A n cap l by rw [← hW]; exact (RW.out.below (below_box _ _)))
    clear hW
    have LTX := Lib.hid X0.out.lt
    go_wp2_with (refine stw.list_load rfl 41 _ rfl (w.heap.size) rfl 41 _ X0.out Try.underlying41 rfl szLR ?_)
    (with_reducible refine (toR r g b t p _).mono ?_)
    rintro e w1 ⟨rfl, hb⟩
    have SS1 := Lib.hid hb.size
    have B1 := Lib.hid (B0.out.trans (hb.mono B0.out.size))
    have X1 := Lib.hid (X0.out.below hb)
    have R1 := Lib.hid (R0.out.below hb)
    clear hb  B0 X0 R0
    go_wp2_with fail
    (with_reducible refine (bls.toBoolS l _ _ A n cap _ R1.out HLN.out).mono ?_)
    rintro e w2 ⟨AP, nP, cP, rfl, ho, hb⟩
    have SS2 := Lib.hid hb.size
    have B2 := Lib.hid (B1.out.trans (hb.mono B1.out.size))
    have X2 := Lib.hid (X1.out.below hb)
    have R2 := Lib.hid (R1.out.below hb)
    clear hb B1 X1 R1
    have P2 := Lib.hid ho
    clear ho
    go_wp2_with fail
    (with_reducible refine (specAp r g b t p l AP nP cP _ _ _ P2.out.rb).mono ?_)
    rintro e w3 hp
    obtain ⟨rfl, hb⟩ := r_parts HX.out hp
    clear hp
    have SS3 := Lib.hid hb.size
    have B3 := Lib.hid (B2.out.trans (hb.mono B2.out.size))
    have X3 := Lib.hid (X2.out.below hb)
    have R3 := Lib.hid (R2.out.below hb)
    have P3 := Lib.hid (P2.out.below hb)
    clear hb  B2 X2 R2 P2
    obtain ⟨bN, hbb⟩ : ∃ b, w3.heap.size = b := ⟨_, rfl⟩
    go_upto_region 4 with fail
    generalize hW : w3.alloc (.cells #[.int .i64 x0, .int .i64 x1, .int .i64 x2, .int .i64 x3, .bool x4] 32) = w4
    have LN := Lib.hid (show w.heap.size ≤ bN ∧ w.heap.size < bN ∧ w.heap.size ≤ bN ∧ w2.heap.size ≤ bN by have h1 := B3.out.size; have h2X := X3.out.lt; have h2R := R3.out.hi_; have h2P := P3.out.hi_; have h3 := hbb; omega)
    have N4 := Lib.hid (show Bx 32 w4 bN #[.int .i64 x0, .int .i64 x1, .int .i64 x2, .int .i64 x3, .bool x4] by rw [← hW, ← hbb]; exact Bx.made _ _ _)
    have hb : Below w3.heap.size w3 w4 := by rw [← hW]; exact below_box _ _
    (try rw [hbb])
    clear hW hbb
    have SS4 := Lib.hid hb.size
    have B4 := Lib.hid (B3.out.trans (hb.mono B3.out.size))
    have X4 := Lib.hid (X3.out.below hb)
    have R4 := Lib.hid (R3.out.below hb)
    have P4 := Lib.hid (P3.out.below hb)
    clear hb B3 X3 R3 P3
    have LWN := Lib.hid N4.out.lt
    go_wp2_with fail
    (with_reducible refine (bls.toBoolS l _ _ A n cap _ R4.out HLN.out).mono ?_)
    rintro e w5 ⟨AS, nS, cS, rfl, ho, hb⟩
    have SS5 := Lib.hid hb.size
    have B5 := Lib.hid (B4.out.trans (hb.mono B4.out.size))
    have X5 := Lib.hid (X4.out.below hb)
    have N5 := Lib.hid (N4.out.below hb)
    have R5 := Lib.hid (R4.out.below hb)
    have P5 := Lib.hid (P4.out.below hb)
    clear hb B4 X4 N4 R4 P4
    have S5 := Lib.hid ho
    clear ho
    go_wp2_with (refine stw.list_load rfl 41 _ rfl (w.heap.size) rfl 41 _ X5.out Try.underlying41 rfl szLR ?_)
    (with_reducible refine (toR r g b t p _).mono ?_)
    rintro e w6 ⟨rfl, hb⟩
    have SS6 := Lib.hid hb.size
    have B6 := Lib.hid (B5.out.trans (hb.mono B5.out.size))
    have X6 := Lib.hid (X5.out.below hb)
    have N6 := Lib.hid (N5.out.below hb)
    have R6 := Lib.hid (R5.out.below hb)
    have P6 := Lib.hid (P5.out.below hb)
    have S6 := Lib.hid (S5.out.below hb)
    clear hb  B5 X5 N5 R5 P5 S5
    go_wp2_with fail
    (with_reducible refine (implAp r g b t p l AS nS cS _ _ _ S6.out.rb).mono ?_)
    rintro e w7 hp
    obtain ⟨rfl, hb⟩ := r_parts HX.out hp
    clear hp
    have SS7 := Lib.hid hb.size
    have B7 := Lib.hid (B6.out.trans (hb.mono B6.out.size))
    have X7 := Lib.hid (X6.out.below hb)
    have N7 := Lib.hid (N6.out.below hb)
    have R7 := Lib.hid (R6.out.below hb)
    have P7 := Lib.hid (P6.out.below hb)
    have S7 := Lib.hid (S6.out.below hb)
    clear hb  B6 X6 N6 R6 P6 S6
    obtain ⟨bM, hbb⟩ : ∃ b, w7.heap.size = b := ⟨_, rfl⟩
    go_upto_region 6 with fail
    generalize hW : w7.alloc (.cells #[.int .i64 x0, .int .i64 x1, .int .i64 x2, .int .i64 x3, .bool x4] 32) = w8
    have LM := Lib.hid (show w.heap.size ≤ bM ∧ w.heap.size < bM ∧ bN < bM ∧ w.heap.size ≤ bM ∧ w2.heap.size ≤ bM ∧ w5.heap.size ≤ bM by have h1 := B7.out.size; have h2X := X7.out.lt; have h2N := N7.out.lt; have h2R := R7.out.hi_; have h2P := P7.out.hi_; have h2S := S7.out.hi_; have h3 := hbb; omega)
    have M8 := Lib.hid (show Bx 32 w8 bM #[.int .i64 x0, .int .i64 x1, .int .i64 x2, .int .i64 x3, .bool x4] by rw [← hW, ← hbb]; exact Bx.made _ _ _)
    have hb : Below w7.heap.size w7 w8 := by rw [← hW]; exact below_box _ _
    (try rw [hbb])
    clear hW hbb
    have SS8 := Lib.hid hb.size
    have B8 := Lib.hid (B7.out.trans (hb.mono B7.out.size))
    have X8 := Lib.hid (X7.out.below hb)
    have N8 := Lib.hid (N7.out.below hb)
    have R8 := Lib.hid (R7.out.below hb)
    have P8 := Lib.hid (P7.out.below hb)
    have S8 := Lib.hid (S7.out.below hb)
    clear hb B7 X7 N7 R7 P7 S7
    have LWM := Lib.hid M8.out.lt
    go_wp2_with (first | (refine stw.list_load rfl 32 _ rfl (bM) rfl 32 _ M8.out Try.underlying32 rfl szR ?_) | (refine stw.list_load rfl 32 _ rfl (bN) rfl 32 _ N8.out Try.underlying32 rfl szR ?_))
    (with_reducible refine (eqR_yes x0 x1 x2 x3 x4 _).mono ?_)
    rintro e w9 ⟨rfl, hb⟩
    have SS9 := Lib.hid hb.size
    have B9 := Lib.hid (B8.out.trans (hb.mono B8.out.size))
    have X9 := Lib.hid (X8.out.below hb)
    have N9 := Lib.hid (N8.out.below hb)
    have M9 := Lib.hid (M8.out.below hb)
    have R9 := Lib.hid (R8.out.below hb)
    have P9 := Lib.hid (P8.out.below hb)
    have S9 := Lib.hid (S8.out.below hb)
    clear hb  B8 X8 N8 M8 R8 P8 S8
    go_wp2_with fail
    (with_reducible refine (bls.toBoolS l _ _ A n cap _ R9.out HLN.out).mono ?_)
    rintro e w10 ⟨AQ, nQ, cQ, rfl, ho, hb⟩
    have SS10 := Lib.hid hb.size
    have B10 := Lib.hid (B9.out.trans (hb.mono B9.out.size))
    have X10 := Lib.hid (X9.out.below hb)
    have N10 := Lib.hid (N9.out.below hb)
    have M10 := Lib.hid (M9.out.below hb)
    have R10 := Lib.hid (R9.out.below hb)
    have P10 := Lib.hid (P9.out.below hb)
    have S10 := Lib.hid (S9.out.below hb)
    clear hb B9 X9 N9 M9 R9 P9 S9
    have Q10 := Lib.hid ho
    clear ho
    go_wp2_with fail
    obtain rfl : nQ = nS := by rw [← Q10.out.len, ← S10.out.len]
    (with_reducible refine (bls.eqBoolS_yes l _ _ _ _ AS AQ nQ cS cQ _ S10.out.rb Q10.out.rb).mono ?_)
    rintro e w11 ⟨rfl, hb⟩
    have SS11 := Lib.hid hb.size
    have B11 := Lib.hid (B10.out.trans (hb.mono B10.out.size))
    have X11 := Lib.hid (X10.out.below hb)
    have N11 := Lib.hid (N10.out.below hb)
    have M11 := Lib.hid (M10.out.below hb)
    have R11 := Lib.hid (R10.out.below hb)
    have P11 := Lib.hid (P10.out.below hb)
    have S11 := Lib.hid (S10.out.below hb)
    have Q11 := Lib.hid (Q10.out.below hb)
    clear hb  B10 X10 N10 M10 R10 P10 S10 Q10
    go_wp2_with fail
    go_ret
    exact ⟨rfl, B11.out⟩
end Go.Proofs.Ytejjafmppihneaa.xExactApplyOutcomes
