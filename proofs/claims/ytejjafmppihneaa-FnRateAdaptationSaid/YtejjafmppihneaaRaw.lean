/- The law function of rate adaptation (FnRateAdaptation) returns true and leaves what was there. Condition: the argument is a slice of bytes that came in. -/
import Derived.Test.YtejjafmppihneaaDra
namespace Go.Proofs.Ytejjafmppihneaa.ra
open Go.RowKit sl harn rng bx stw
set_option linter.unusedVariables false
set_option linter.unusedSimpArgs false

/-- What a success leads to, from a valid state. -/
structure SuWays (q q2 : Rs) : Prop where
  rng : q.r ≤ q2.r ∧ q2.r ≤ q.r + 1
  way : (q.g + 1 < q.t ∧ q.r = q2.r ∧ q2.p = false) ∨ (¬ q.g + 1 < q.t ∧ q.r < 3 ∧ q2.r = q.r + 1 ∧ q2.p = true) ∨ (¬ q.g + 1 < q.t ∧ ¬ q.r < 3 ∧ q.r = q2.r ∧ q2.p = false)
theorem su_ways {q q2 : Rs} (h : Va q) (e : su q = q2) : SuWays q q2 := by
  unfold su at e
  rw [if_pos h] at e
  split at e
  · rename_i h1
    subst e
    exact ⟨by dsimp only; omega, Or.inl ⟨h1, rfl, rfl⟩⟩
  · rename_i h1
    split at e
    · rename_i h2
      subst e
      exact ⟨by dsimp only; omega, Or.inr (Or.inl ⟨h1, h2, rfl, rfl⟩)⟩
    · rename_i h2
      subst e
      exact ⟨by dsimp only; omega, Or.inr (Or.inr ⟨h1, h2, rfl, rfl⟩)⟩
structure FaWays (q q2 : Rs) : Prop where
  rng : q2.r ≤ q.r ∧ q.r - 1 ≤ q2.r
  down : q.p = true → 0 < q.r → q2.r = q.r - 1 ∧ q.t ≤ q2.t
theorem fa_ways {q q2 : Rs} (h : Va q) (e : fa q = q2) : FaWays q q2 := by
  have h9 := h
  obtain ⟨⟨a1, a2⟩, a3, ⟨a4, a5⟩, ⟨a6, a7⟩, a8, a9⟩ := h9
  unfold Vt at a3
  unfold fa at e
  rw [if_pos h] at e
  split at e
  · rename_i h1
    subst e
    refine ⟨by dsimp only; omega, fun _ _ => ⟨rfl, ?_⟩⟩
    dsimp only; split <;> omega
  · rename_i h1
    split at e
    · rename_i h2
      subst e
      refine ⟨by dsimp only; split <;> omega, fun h3 h4 => absurd ⟨h3, h4⟩ h1⟩
    · subst e
      exact ⟨by dsimp only; omega, fun h3 h4 => absurd ⟨h3, h4⟩ h1⟩
theorem va_rng {q : Rs} (h : Va q) : (0 ≤ q.r ∧ q.r ≤ 3) ∧ (0 ≤ q.g ∧ q.g ≤ 40) := by
  obtain ⟨⟨a1, a2⟩, a3, ⟨a4, a5⟩, _⟩ := h
  unfold Vt at a3
  omega
/-- A slice of bools among a region's values. -/
def rowb (l : List Bool) (n : Nat) : reg.Stay reg.Bel :=
  ⟨fun v w => ∃ A lo hi, v = .slice A n n ∧ bls.Rb w lo hi A n n l, fun v w w' ⟨A, lo, hi, h1, h2⟩ h => ⟨A, lo, hi, h1, h2.below h⟩⟩
set_option maxRecDepth 100000 in
set_option maxHeartbeats 16000000 in
theorem raLaw (a : Option Addr) (len cap : Nat) (zz : List Int) (w : World) (r0 : kit.IsRow .u8 w a len cap zz) :
    Calls Try.prog 4 #[.slice a len cap] w (fun e w' => e = .returned (.bool true) ∧ Below w.heap.size w w') := by
  have HC := Lib.hid (draw.code_of_row r0)
  have hlen : (len : Int) ≤ 9223372036854775807 := by have := HC.out.1; omega
  clear r0
  by_cases hbig : 1048576 < (len : Int)
  · go_enter Try.func4, Try.ntmps4
    go_wp2
    go_ret
    exact ⟨rfl, Below.refl _ _⟩
  obtain ⟨i0, hi0, hz0, hz1, hz2⟩ := info_parts boolInfo
  have HZ := Lib.hid (And.intro hi0 (And.intro hz0 (And.intro hz1 hz2)))
  have HMK := Lib.hid (fun W => run_make1 (P := Try.prog) 36 4 i0 _ Try.underlying36 hi0 hz0 hz1 20 (by omega) (by omega) W)
  clear hi0 hz0 hz1 hz2
  go_enter Try.func4, Try.ntmps4
  go_wp2_with (go_at_call 12; go_in)
  clear hbig
  go_wp2_with fail
  (with_reducible refine (dRs _ a len cap HC.out).mono ?_)
  rintro e w1 ⟨r, g, b, t, p, rfl, hb⟩
  have B1 := Lib.hid hb
  clear hb HC hlen
  obtain ⟨bX, hbb⟩ : ∃ b, w1.heap.size = b := ⟨_, rfl⟩
  go_upto_region 4 with fail
  generalize hW : w1.alloc (.cells #[.int .i64 r, .int .i64 g, .int .i64 b, .int .i64 t, .bool p] 32) = wa2
  have LX := Lib.hid (show w.heap.size ≤ bX by have h1 := B1.out.size;  have h3 := hbb; omega)
  have X2 := Lib.hid (show Bx 32 wa2 bX #[.int .i64 r, .int .i64 g, .int .i64 b, .int .i64 t, .bool p] by rw [← hW, ← hbb]; exact Bx.made _ _ _)
  have hb : Below w1.heap.size w1 wa2 := by rw [← hW]; exact below_box _ _
  (try rw [hbb])
  clear hW hbb
  have SS2 := Lib.hid hb.size
  have B2 := Lib.hid (B1.out.trans (hb.mono B1.out.size))
  clear hb B1 
  have LWX := Lib.hid X2.out.lt
  obtain ⟨⟨r2, g2, b2, t2, p2⟩, hu⟩ : ∃ x, su ⟨r, g, b, t, p⟩ = x := ⟨_, rfl⟩
  obtain ⟨⟨r3, g3, b3, t3, p3⟩, hd⟩ : ∃ x, fa ⟨r, g, b, t, p⟩ = x := ⟨_, rfl⟩
  have HU := Lib.hid hu
  have HD := Lib.hid hd
  clear hu hd
  go_wp2_with (refine stw.list_load rfl 32 _ rfl (bX) rfl 32 _ X2.out Try.underlying32 rfl szR ?_)
  (with_reducible refine (implSu r g b t p _).mono ?_)
  rintro e wa3 hp
  obtain ⟨rfl, hb⟩ := r_parts HU.out hp
  clear hp
  have SS3 := Lib.hid hb.size
  have B3 := Lib.hid (B2.out.trans (hb.mono B2.out.size))
  have X3 := Lib.hid (X2.out.below hb)
  clear hb  B2 X2
  obtain ⟨bU, hbb⟩ : ∃ b, wa3.heap.size = b := ⟨_, rfl⟩
  go_upto_region 5 with fail
  generalize hW : wa3.alloc (.cells #[.int .i64 r2, .int .i64 g2, .int .i64 b2, .int .i64 t2, .bool p2] 32) = wa4
  have LU := Lib.hid (show w.heap.size ≤ bU ∧ bX < bU by have h1 := B3.out.size; have h2X := X3.out.lt; have h3 := hbb; omega)
  have U4 := Lib.hid (show Bx 32 wa4 bU #[.int .i64 r2, .int .i64 g2, .int .i64 b2, .int .i64 t2, .bool p2] by rw [← hW, ← hbb]; exact Bx.made _ _ _)
  have hb : Below wa3.heap.size wa3 wa4 := by rw [← hW]; exact below_box _ _
  (try rw [hbb])
  clear hW hbb
  have SS4 := Lib.hid hb.size
  have B4 := Lib.hid (B3.out.trans (hb.mono B3.out.size))
  have X4 := Lib.hid (X3.out.below hb)
  clear hb B3 X3
  have LWU := Lib.hid U4.out.lt
  go_wp2_with (refine stw.list_load rfl 32 _ rfl (bX) rfl 32 _ X4.out Try.underlying32 rfl szR ?_)
  (with_reducible refine (implFa r g b t p _).mono ?_)
  rintro e wa5 hp
  obtain ⟨rfl, hb⟩ := r_parts HD.out hp
  clear hp
  have SS5 := Lib.hid hb.size
  have B5 := Lib.hid (B4.out.trans (hb.mono B4.out.size))
  have X5 := Lib.hid (X4.out.below hb)
  have U5 := Lib.hid (U4.out.below hb)
  clear hb  B4 X4 U4
  obtain ⟨bD, hbb⟩ : ∃ b, wa5.heap.size = b := ⟨_, rfl⟩
  go_upto_region 6 with fail
  generalize hW : wa5.alloc (.cells #[.int .i64 r3, .int .i64 g3, .int .i64 b3, .int .i64 t3, .bool p3] 32) = wa6
  have LD := Lib.hid (show w.heap.size ≤ bD ∧ bX < bD ∧ bU < bD by have h1 := B5.out.size; have h2X := X5.out.lt; have h2U := U5.out.lt; have h3 := hbb; omega)
  have D6 := Lib.hid (show Bx 32 wa6 bD #[.int .i64 r3, .int .i64 g3, .int .i64 b3, .int .i64 t3, .bool p3] by rw [← hW, ← hbb]; exact Bx.made _ _ _)
  have hb : Below wa5.heap.size wa5 wa6 := by rw [← hW]; exact below_box _ _
  (try rw [hbb])
  clear hW hbb
  have SS6 := Lib.hid hb.size
  have B6 := Lib.hid (B5.out.trans (hb.mono B5.out.size))
  have X6 := Lib.hid (X5.out.below hb)
  have U6 := Lib.hid (U5.out.below hb)
  clear hb B5 X5 U5
  have LWD := Lib.hid D6.out.lt
  obtain ⟨v, hv⟩ : ∃ x, va ⟨r, g, b, t, p⟩ = x := ⟨_, rfl⟩
  have HV := Lib.hid hv
  clear hv
  go_wp2_with (refine stw.list_load rfl 32 _ rfl (bX) rfl 32 _ X6.out Try.underlying32 rfl szR ?_)
  (with_reducible refine (specVa r g b t p _).mono ?_)
  rintro e wa7 hp
  obtain ⟨rfl, hb⟩ := b_parts HV.out hp
  clear hp
  have SS7 := Lib.hid hb.size
  have B7 := Lib.hid (B6.out.trans (hb.mono B6.out.size))
  have X7 := Lib.hid (X6.out.below hb)
  have U7 := Lib.hid (U6.out.below hb)
  have D7 := Lib.hid (D6.out.below hb)
  clear hb  B6 X6 U6 D6
  cases v with
  | true =>
    have hva := of_decide_eq_true HV.out
    have HVU := Lib.hid (show va ⟨r2, g2, b2, t2, p2⟩ = true by unfold va; rw [decide_eq_true_iff, ← HU.out]; exact su_va hva)
    have HVD := Lib.hid (show va ⟨r3, g3, b3, t3, p3⟩ = true by unfold va; rw [decide_eq_true_iff, ← HD.out]; exact fa_va hva)
    have HW := Lib.hid (su_ways hva HU.out)
    have HX := Lib.hid (fa_ways hva HD.out)
    have HRG := Lib.hid (va_rng hva)
    clear hva
    go_upto_region 8 with fail
    go_cut [69] from 32 (fun s69 wx => s69 = .bool false ∧ Below w.heap.size w wx ∧ Bx 32 wx (bX) #[.int .i64 r, .int .i64 g, .int .i64 b, .int .i64 t, .bool p] ∧ Bx 32 wx (bU) #[.int .i64 r2, .int .i64 g2, .int .i64 b2, .int .i64 t2, .bool p2] ∧ Bx 32 wx (bD) #[.int .i64 r3, .int .i64 g3, .int .i64 b3, .int .i64 t3, .bool p3])
    case first =>
      go_wp2_with (refine stw.list_load rfl 32 _ rfl (bU) rfl 32 _ U7.out Try.underlying32 rfl szR ?_)
      (with_reducible refine (implVa r2 g2 b2 t2 p2 _).mono ?_)
      rintro e wa8 hp
      obtain ⟨rfl, hb⟩ := b_parts HVU.out hp
      clear hp
      have SS8 := Lib.hid hb.size
      have B8 := Lib.hid (B7.out.trans (hb.mono B7.out.size))
      have X8 := Lib.hid (X7.out.below hb)
      have U8 := Lib.hid (U7.out.below hb)
      have D8 := Lib.hid (D7.out.below hb)
      clear hb  B7 X7 U7 D7
      have cD0 : wa8.cell? ⟨bD, 0, none⟩ = some (.int .i64 r3) := D8.out.cell 0
      have cD1 : wa8.cell? ⟨bD, 1, none⟩ = some (.int .i64 g3) := D8.out.cell 1
      have cD2 : wa8.cell? ⟨bD, 2, none⟩ = some (.int .i64 b3) := D8.out.cell 2
      have cD3 : wa8.cell? ⟨bD, 3, none⟩ = some (.int .i64 t3) := D8.out.cell 3
      have cD4 : wa8.cell? ⟨bD, 4, none⟩ = some (.bool p3) := D8.out.cell 4
      go_wp2_with fail
      clear cD0 cD1 cD2 cD3 cD4
      (with_reducible refine (implVa r3 g3 b3 t3 p3 _).mono ?_)
      rintro e wa9 hp
      obtain ⟨rfl, hb⟩ := b_parts HVD.out hp
      clear hp
      have SS9 := Lib.hid hb.size
      have B9 := Lib.hid (B8.out.trans (hb.mono B8.out.size))
      have X9 := Lib.hid (X8.out.below hb)
      have U9 := Lib.hid (U8.out.below hb)
      have D9 := Lib.hid (D8.out.below hb)
      clear hb  B8 X8 U8 D8
      have m1 : IntKind.i64.wrap (r + 1) = r + 1 := IntWalk.i64_in _ (by have := HRG.out; omega)
      have m2 : IntKind.i64.wrap (r - 1) = r - 1 := IntWalk.i64_in _ (by have := HRG.out; omega)
      have f1 : decide (r2 < r) = false := decide_eq_false (by have := HW.out.rng; dsimp only at this; omega)
      have f2 : decide (r2 > r + 1) = false := decide_eq_false (by have := HW.out.rng; dsimp only at this; omega)
      have f3 : decide (r3 > r) = false := decide_eq_false (by have := HX.out.rng; dsimp only at this; omega)
      have f4 : decide (r3 < r - 1) = false := decide_eq_false (by have := HX.out.rng; dsimp only at this; omega)
      have cX0 : wa9.cell? ⟨bX, 0, none⟩ = some (.int .i64 r) := X9.out.cell 0
      have cU0 : wa9.cell? ⟨bU, 0, none⟩ = some (.int .i64 r2) := U9.out.cell 0
      have cD0 : wa9.cell? ⟨bD, 0, none⟩ = some (.int .i64 r3) := D9.out.cell 0
      go_wp2_with fail
      clear cX0 cU0 cD0
      go_meet
      case rel => exact ⟨rfl, B9.out, X9.out, U9.out, D9.out⟩
    case rest =>
      obtain ⟨rfl, gB8, gX8, gU8, gD8⟩ := hcut
      have B8 := Lib.hid gB8
      have X8 := Lib.hid gX8
      have U8 := Lib.hid gU8
      have D8 := Lib.hid gD8
      clear gB8 gX8 gU8 gD8 B7 X7 U7 D7
      go_upto_region 10 with fail
      go_cut [120] from 70 (fun s120 wx => s120 = .bool false ∧ Below w.heap.size w wx ∧ Bx 32 wx (bX) #[.int .i64 r, .int .i64 g, .int .i64 b, .int .i64 t, .bool p] ∧ Bx 32 wx (bU) #[.int .i64 r2, .int .i64 g2, .int .i64 b2, .int .i64 t2, .bool p2] ∧ Bx 32 wx (bD) #[.int .i64 r3, .int .i64 g3, .int .i64 b3, .int .i64 t3, .bool p3])
      case first =>
        have m1 : IntKind.i64.wrap (g + 1) = g + 1 := IntWalk.i64_in _ (by have := HRG.out; omega)
        have m2 : IntKind.i64.wrap (r - 1) = r - 1 := IntWalk.i64_in _ (by have := HRG.out; omega)
        have hway := HW.out.way
        dsimp only at hway
        rcases hway with ⟨h1, rfl, rfl⟩ | ⟨h1, h2, rfl, rfl⟩ | ⟨h1, h2, rfl, rfl⟩
        · cases p with
          | true =>
            by_cases h0 : 0 < r
            · have hdown := HX.out.down rfl h0
              dsimp only at hdown
              obtain ⟨rfl, ht3⟩ := hdown
              have f5 : decide (t3 < t) = false := decide_eq_false (by omega)
              have cX0 : wc.cell? ⟨bX, 0, none⟩ = some (.int .i64 r) := X8.out.cell 0
              have cX1 : wc.cell? ⟨bX, 1, none⟩ = some (.int .i64 g) := X8.out.cell 1
              have cX3 : wc.cell? ⟨bX, 3, none⟩ = some (.int .i64 t) := X8.out.cell 3
              have cX4 : wc.cell? ⟨bX, 4, none⟩ = some (.bool true) := X8.out.cell 4
              have cU0 : wc.cell? ⟨bU, 0, none⟩ = some (.int .i64 r) := U8.out.cell 0
              have cU4 : wc.cell? ⟨bU, 4, none⟩ = some (.bool false) := U8.out.cell 4
              have cD0 : wc.cell? ⟨bD, 0, none⟩ = some (.int .i64 ((r - 1))) := D8.out.cell 0
              have cD3 : wc.cell? ⟨bD, 3, none⟩ = some (.int .i64 t3) := D8.out.cell 3
              go_wp2_with fail
              clear cX0 cX1 cX3 cX4 cU0 cU4 cD0 cD3
              go_meet
              case rel => exact ⟨rfl, B8.out, X8.out, U8.out, D8.out⟩
            · have cX0 : wc.cell? ⟨bX, 0, none⟩ = some (.int .i64 r) := X8.out.cell 0
              have cX1 : wc.cell? ⟨bX, 1, none⟩ = some (.int .i64 g) := X8.out.cell 1
              have cX3 : wc.cell? ⟨bX, 3, none⟩ = some (.int .i64 t) := X8.out.cell 3
              have cX4 : wc.cell? ⟨bX, 4, none⟩ = some (.bool true) := X8.out.cell 4
              have cU0 : wc.cell? ⟨bU, 0, none⟩ = some (.int .i64 r) := U8.out.cell 0
              have cU4 : wc.cell? ⟨bU, 4, none⟩ = some (.bool false) := U8.out.cell 4
              have cD0 : wc.cell? ⟨bD, 0, none⟩ = some (.int .i64 r3) := D8.out.cell 0
              have cD3 : wc.cell? ⟨bD, 3, none⟩ = some (.int .i64 t3) := D8.out.cell 3
              go_wp2_with fail
              clear cX0 cX1 cX3 cX4 cU0 cU4 cD0 cD3
              go_meet
              case rel => exact ⟨rfl, B8.out, X8.out, U8.out, D8.out⟩
          | false =>
            have cX0 : wc.cell? ⟨bX, 0, none⟩ = some (.int .i64 r) := X8.out.cell 0
            have cX1 : wc.cell? ⟨bX, 1, none⟩ = some (.int .i64 g) := X8.out.cell 1
            have cX3 : wc.cell? ⟨bX, 3, none⟩ = some (.int .i64 t) := X8.out.cell 3
            have cX4 : wc.cell? ⟨bX, 4, none⟩ = some (.bool false) := X8.out.cell 4
            have cU0 : wc.cell? ⟨bU, 0, none⟩ = some (.int .i64 r) := U8.out.cell 0
            have cU4 : wc.cell? ⟨bU, 4, none⟩ = some (.bool false) := U8.out.cell 4
            have cD0 : wc.cell? ⟨bD, 0, none⟩ = some (.int .i64 r3) := D8.out.cell 0
            have cD3 : wc.cell? ⟨bD, 3, none⟩ = some (.int .i64 t3) := D8.out.cell 3
            go_wp2_with fail
            clear cX0 cX1 cX3 cX4 cU0 cU4 cD0 cD3
            go_meet
            case rel => exact ⟨rfl, B8.out, X8.out, U8.out, D8.out⟩
        · cases p with
          | true =>
            by_cases h0 : 0 < r
            · have hdown := HX.out.down rfl h0
              dsimp only at hdown
              obtain ⟨rfl, ht3⟩ := hdown
              have f5 : decide (t3 < t) = false := decide_eq_false (by omega)
              have cX0 : wc.cell? ⟨bX, 0, none⟩ = some (.int .i64 r) := X8.out.cell 0
              have cX1 : wc.cell? ⟨bX, 1, none⟩ = some (.int .i64 g) := X8.out.cell 1
              have cX3 : wc.cell? ⟨bX, 3, none⟩ = some (.int .i64 t) := X8.out.cell 3
              have cX4 : wc.cell? ⟨bX, 4, none⟩ = some (.bool true) := X8.out.cell 4
              have cU0 : wc.cell? ⟨bU, 0, none⟩ = some (.int .i64 ((r + 1))) := U8.out.cell 0
              have cU4 : wc.cell? ⟨bU, 4, none⟩ = some (.bool true) := U8.out.cell 4
              have cD0 : wc.cell? ⟨bD, 0, none⟩ = some (.int .i64 ((r - 1))) := D8.out.cell 0
              have cD3 : wc.cell? ⟨bD, 3, none⟩ = some (.int .i64 t3) := D8.out.cell 3
              go_wp2_with fail
              clear cX0 cX1 cX3 cX4 cU0 cU4 cD0 cD3
              go_meet
              case rel => exact ⟨rfl, B8.out, X8.out, U8.out, D8.out⟩
            · have cX0 : wc.cell? ⟨bX, 0, none⟩ = some (.int .i64 r) := X8.out.cell 0
              have cX1 : wc.cell? ⟨bX, 1, none⟩ = some (.int .i64 g) := X8.out.cell 1
              have cX3 : wc.cell? ⟨bX, 3, none⟩ = some (.int .i64 t) := X8.out.cell 3
              have cX4 : wc.cell? ⟨bX, 4, none⟩ = some (.bool true) := X8.out.cell 4
              have cU0 : wc.cell? ⟨bU, 0, none⟩ = some (.int .i64 ((r + 1))) := U8.out.cell 0
              have cU4 : wc.cell? ⟨bU, 4, none⟩ = some (.bool true) := U8.out.cell 4
              have cD0 : wc.cell? ⟨bD, 0, none⟩ = some (.int .i64 r3) := D8.out.cell 0
              have cD3 : wc.cell? ⟨bD, 3, none⟩ = some (.int .i64 t3) := D8.out.cell 3
              go_wp2_with fail
              clear cX0 cX1 cX3 cX4 cU0 cU4 cD0 cD3
              go_meet
              case rel => exact ⟨rfl, B8.out, X8.out, U8.out, D8.out⟩
          | false =>
            have cX0 : wc.cell? ⟨bX, 0, none⟩ = some (.int .i64 r) := X8.out.cell 0
            have cX1 : wc.cell? ⟨bX, 1, none⟩ = some (.int .i64 g) := X8.out.cell 1
            have cX3 : wc.cell? ⟨bX, 3, none⟩ = some (.int .i64 t) := X8.out.cell 3
            have cX4 : wc.cell? ⟨bX, 4, none⟩ = some (.bool false) := X8.out.cell 4
            have cU0 : wc.cell? ⟨bU, 0, none⟩ = some (.int .i64 ((r + 1))) := U8.out.cell 0
            have cU4 : wc.cell? ⟨bU, 4, none⟩ = some (.bool true) := U8.out.cell 4
            have cD0 : wc.cell? ⟨bD, 0, none⟩ = some (.int .i64 r3) := D8.out.cell 0
            have cD3 : wc.cell? ⟨bD, 3, none⟩ = some (.int .i64 t3) := D8.out.cell 3
            go_wp2_with fail
            clear cX0 cX1 cX3 cX4 cU0 cU4 cD0 cD3
            go_meet
            case rel => exact ⟨rfl, B8.out, X8.out, U8.out, D8.out⟩
        · cases p with
          | true =>
            by_cases h0 : 0 < r
            · have hdown := HX.out.down rfl h0
              dsimp only at hdown
              obtain ⟨rfl, ht3⟩ := hdown
              have f5 : decide (t3 < t) = false := decide_eq_false (by omega)
              have cX0 : wc.cell? ⟨bX, 0, none⟩ = some (.int .i64 r) := X8.out.cell 0
              have cX1 : wc.cell? ⟨bX, 1, none⟩ = some (.int .i64 g) := X8.out.cell 1
              have cX3 : wc.cell? ⟨bX, 3, none⟩ = some (.int .i64 t) := X8.out.cell 3
              have cX4 : wc.cell? ⟨bX, 4, none⟩ = some (.bool true) := X8.out.cell 4
              have cU0 : wc.cell? ⟨bU, 0, none⟩ = some (.int .i64 r) := U8.out.cell 0
              have cU4 : wc.cell? ⟨bU, 4, none⟩ = some (.bool false) := U8.out.cell 4
              have cD0 : wc.cell? ⟨bD, 0, none⟩ = some (.int .i64 ((r - 1))) := D8.out.cell 0
              have cD3 : wc.cell? ⟨bD, 3, none⟩ = some (.int .i64 t3) := D8.out.cell 3
              go_wp2_with fail
              clear cX0 cX1 cX3 cX4 cU0 cU4 cD0 cD3
              go_meet
              case rel => exact ⟨rfl, B8.out, X8.out, U8.out, D8.out⟩
            · exfalso
              omega
          | false =>
            have cX0 : wc.cell? ⟨bX, 0, none⟩ = some (.int .i64 r) := X8.out.cell 0
            have cX1 : wc.cell? ⟨bX, 1, none⟩ = some (.int .i64 g) := X8.out.cell 1
            have cX3 : wc.cell? ⟨bX, 3, none⟩ = some (.int .i64 t) := X8.out.cell 3
            have cX4 : wc.cell? ⟨bX, 4, none⟩ = some (.bool false) := X8.out.cell 4
            have cU0 : wc.cell? ⟨bU, 0, none⟩ = some (.int .i64 r) := U8.out.cell 0
            have cU4 : wc.cell? ⟨bU, 4, none⟩ = some (.bool false) := U8.out.cell 4
            have cD0 : wc.cell? ⟨bD, 0, none⟩ = some (.int .i64 r3) := D8.out.cell 0
            have cD3 : wc.cell? ⟨bD, 3, none⟩ = some (.int .i64 t3) := D8.out.cell 3
            go_wp2_with fail
            clear cX0 cX1 cX3 cX4 cU0 cU4 cD0 cD3
            go_meet
            case rel => exact ⟨rfl, B8.out, X8.out, U8.out, D8.out⟩
      case rest =>
        obtain ⟨rfl, gB9, gX9, gU9, gD9⟩ := hcut
        have B9 := Lib.hid gB9
        have X9 := Lib.hid gX9
        have U9 := Lib.hid gU9
        have D9 := Lib.hid gD9
        clear gB9 gX9 gU9 gD9 B8 X8 U8 D8
        obtain ⟨be, hbb⟩ : ∃ b, wc.heap.size = b := ⟨_, rfl⟩
        go_upto_region 13 with fail
        generalize hW : wc.alloc (.cells #[] 4) = wa10
        have LE := Lib.hid (show w.heap.size ≤ be ∧ bX < be ∧ bU < be ∧ bD < be by have h1 := B9.out.size; have h2X := X9.out.lt; have h2U := U9.out.lt; have h2D := D9.out.lt; have h3 := hbb; omega)
        have E10 := Lib.hid (show Bx 4 wa10 be #[] by rw [← hW, ← hbb]; exact Bx.made _ _ _)
        have hb : Below wc.heap.size wc wa10 := by rw [← hW]; exact below_box _ _
        (try rw [hbb])
        clear hW hbb
        have SS10 := Lib.hid hb.size
        have B10 := Lib.hid (B9.out.trans (hb.mono B9.out.size))
        have X10 := Lib.hid (X9.out.below hb)
        have U10 := Lib.hid (U9.out.below hb)
        have D10 := Lib.hid (D9.out.below hb)
        clear hb B9 X9 U9 D9
        have LWE := Lib.hid E10.out.lt
        have O10 := Lib.hid (bls.Ob.of_bx (l := []) E10.out (Nat.le_refl _) rfl (by unfold maxLen; simp) rfl)
        clear E10
        go_wp2_with fail
        go_loopw [6, 7] (fun v0 v1 wr => ∃ (k : Nat) (A1 : Option Addr) (c1 : Nat), v0 = .slice A1 k c1 ∧ v1 = .int .i64 (k : Nat) ∧ (k ≤ 200) ∧ (be < wr.heap.size) ∧ Below w.heap.size w wr ∧ Bx 32 wr bX #[.int .i64 r, .int .i64 g, .int .i64 b, .int .i64 t, .bool p] ∧ Bx 32 wr bU #[.int .i64 r2, .int .i64 g2, .int .i64 b2, .int .i64 t2, .bool p2] ∧ Bx 32 wr bD #[.int .i64 r3, .int .i64 g3, .int .i64 b3, .int .i64 t3, .bool p3] ∧ bls.Ob wr be wr.heap.size A1 k c1 (List.replicate k true)) ((fun _ i _ => 200 - (intOf i).toNat))
        case atStart => exact ⟨0, _, _, rfl, rfl, by omega, by have hlX := LX.out; have hlU := LU.out; have hlD := LD.out; have hlE := LE.out; have hs0 := SS2.out; have hs1 := LWX.out; have hs2 := SS3.out; have hs3 := SS4.out; have hs4 := LWU.out; have hs5 := SS5.out; have hs6 := SS6.out; have hs7 := LWD.out; have hs8 := SS7.out; have hs9 := SS10.out; have hs10 := LWE.out; omega, B10.out, X10.out, U10.out, D10.out, O10.out.up⟩
        case round =>
          obtain ⟨k, A1, c1, rfl, rfl, ghk, ghbe, gB11, gX11, gU11, gD11, gO11⟩ := hrel
          have B11 := Lib.hid gB11
          have X11 := Lib.hid gX11
          have U11 := Lib.hid gU11
          have D11 := Lib.hid gD11
          have O11 := Lib.hid gO11
          have hk := Lib.hid ghk
          have hbe := Lib.hid ghbe
          clear gB11 gX11 gU11 gD11 gO11 ghk ghbe
          have LUX11 := Lib.hid X11.out.lt
          have LUU11 := Lib.hid U11.out.lt
          have LUD11 := Lib.hid D11.out.lt
          have SBR11 := Lib.hid B11.out.size
          have hk := hk.out
          by_cases hlt : k < 200
          · have hlt2 : (k : Int) < 200 := by omega
            go_wp2_with (at_builtin; refine bls.wpList_app (y := true) _ rfl _ _ 36 rfl i0 _ Try.underlying36 HZ.out.1 HZ.out.2.1 HZ.out.2.2.1 (by rw [HZ.out.2.2.2]; omega) rfl rfl rfl (O11.out.alloc _) (by simp) (by omega) (by have hlX := LX.out; have hlU := LU.out; have hlD := LD.out; have hlE := LE.out; have hs0 := SS2.out; have hs1 := LWX.out; have hs2 := SS3.out; have hs3 := SS4.out; have hs4 := LWU.out; have hs5 := SS5.out; have hs6 := SS6.out; have hs7 := LWD.out; have hs8 := SS7.out; have hs9 := SS10.out; have hs10 := LWE.out; have hs11 := LUX11.out; have hs12 := LUU11.out; have hs13 := LUD11.out; have hs14 := SBR11.out; have hs15 := hbe.out; first | omega | (simp <;> omega)) ?_; intro A2 c2 wa12 ho hb1; have hb2 : Below be wr wa12 := (((Below.refl _ _).alloc (by have hlX := LX.out; have hlU := LU.out; have hlD := LD.out; have hlE := LE.out; have hs0 := SS2.out; have hs1 := LWX.out; have hs2 := SS3.out; have hs3 := SS4.out; have hs4 := LWU.out; have hs5 := SS5.out; have hs6 := SS6.out; have hs7 := LWD.out; have hs8 := SS7.out; have hs9 := SS10.out; have hs10 := LWE.out; have hs11 := LUX11.out; have hs12 := LUU11.out; have hs13 := LUD11.out; have hs14 := SBR11.out; have hs15 := hbe.out; first | omega | (simp <;> omega)) _).trans hb1); clear hb1; have B12 := Lib.hid (B11.out.trans (hb2.mono (by have hlX := LX.out; have hlU := LU.out; have hlD := LD.out; have hlE := LE.out; have hs0 := SS2.out; have hs1 := LWX.out; have hs2 := SS3.out; have hs3 := SS4.out; have hs4 := LWU.out; have hs5 := SS5.out; have hs6 := SS6.out; have hs7 := LWD.out; have hs8 := SS7.out; have hs9 := SS10.out; have hs10 := LWE.out; have hs11 := LUX11.out; have hs12 := LUU11.out; have hs13 := LUD11.out; have hs14 := SBR11.out; have hs15 := hbe.out; first | omega | (simp <;> omega)))); have X12 := Lib.hid (X11.out.up hb2 (by have hlX := LX.out; have hlU := LU.out; have hlD := LD.out; have hlE := LE.out; have hs0 := SS2.out; have hs1 := LWX.out; have hs2 := SS3.out; have hs3 := SS4.out; have hs4 := LWU.out; have hs5 := SS5.out; have hs6 := SS6.out; have hs7 := LWD.out; have hs8 := SS7.out; have hs9 := SS10.out; have hs10 := LWE.out; have hs11 := LUX11.out; have hs12 := LUU11.out; have hs13 := LUD11.out; have hs14 := SBR11.out; have hs15 := hbe.out; first | omega | (simp <;> omega))); have U12 := Lib.hid (U11.out.up hb2 (by have hlX := LX.out; have hlU := LU.out; have hlD := LD.out; have hlE := LE.out; have hs0 := SS2.out; have hs1 := LWX.out; have hs2 := SS3.out; have hs3 := SS4.out; have hs4 := LWU.out; have hs5 := SS5.out; have hs6 := SS6.out; have hs7 := LWD.out; have hs8 := SS7.out; have hs9 := SS10.out; have hs10 := LWE.out; have hs11 := LUX11.out; have hs12 := LUU11.out; have hs13 := LUD11.out; have hs14 := SBR11.out; have hs15 := hbe.out; first | omega | (simp <;> omega))); have D12 := Lib.hid (D11.out.up hb2 (by have hlX := LX.out; have hlU := LU.out; have hlD := LD.out; have hlE := LE.out; have hs0 := SS2.out; have hs1 := LWX.out; have hs2 := SS3.out; have hs3 := SS4.out; have hs4 := LWU.out; have hs5 := SS5.out; have hs6 := SS6.out; have hs7 := LWD.out; have hs8 := SS7.out; have hs9 := SS10.out; have hs10 := LWE.out; have hs11 := LUX11.out; have hs12 := LUU11.out; have hs13 := LUD11.out; have hs14 := SBR11.out; have hs15 := hbe.out; first | omega | (simp <;> omega))); have SS12 := Lib.hid hb2.size; have O12 := Lib.hid (show bls.Ob wa12 be wa12.heap.size A2 (k + 1) c2 (List.replicate k true ++ [true]) from ho); clear ho hb2 B11 X11 U11 D11 O11)
            go_roundw
            case rel => exact ⟨k + 1, A2, c2, rfl, by go_num, by omega, by have hlX := LX.out; have hlU := LU.out; have hlD := LD.out; have hlE := LE.out; have hs0 := SS2.out; have hs1 := LWX.out; have hs2 := SS3.out; have hs3 := SS4.out; have hs4 := LWU.out; have hs5 := SS5.out; have hs6 := SS6.out; have hs7 := LWD.out; have hs8 := SS7.out; have hs9 := SS10.out; have hs10 := LWE.out; have hs11 := LUX11.out; have hs12 := LUU11.out; have hs13 := LUD11.out; have hs14 := SBR11.out; have hs15 := hbe.out; have hs16 := SS12.out; omega, B12.out, X12.out, U12.out, D12.out, (by rw [List.replicate_succ']; exact O12.out.up)⟩
            case measure => simp [intOf]; omega
          · have hlt2 : ¬ (k : Int) < 200 := by omega
            obtain rfl : k = 200 := by omega
            clear hlt hk
            obtain ⟨⟨x0, x1, x2, x3, x4⟩, hx⟩ : ∃ x, app ⟨r, g, b, t, p⟩ (List.replicate 200 true) = x := ⟨_, rfl⟩
            obtain ⟨⟨y0, y1, y2, y3, y4⟩, hy⟩ : ∃ x, app ⟨r, g, b, t, p⟩ (List.replicate 20 false) = x := ⟨_, rfl⟩
            obtain ⟨⟨z0, z1, z2, z3, z4⟩, hz⟩ : ∃ x, fa ⟨r2, g2, b2, t2, p2⟩ = x := ⟨_, rfl⟩
            obtain rfl : x0 = 3 := by have h := rise200 (of_decide_eq_true HV.out); rw [hx] at h; exact h
            obtain rfl : y0 = 0 := by have h := fall20 (of_decide_eq_true HV.out); rw [hy] at h; exact h
            have HA := Lib.hid hx
            have HB := Lib.hid hy
            have HF := Lib.hid hz
            have HG := Lib.hid (show app ⟨r, g, b, t, p⟩ [true, false] = ⟨z0, z1, z2, z3, z4⟩ by show fa (su ⟨r, g, b, t, p⟩) = _; rw [HU.out, hz])
            clear hx hy hz
            go_wp2_with fail
            refine reg.region_plain reg.Bel 149 [some [], some [], some [(0, 129), (1, 130)], some [(2, 131)], some [(3, 132)], some [(4, 133)], some [(5, 134)], some [(5, 134)], some [(6, 135), (7, 136), (5, 134)], some [(8, 137), (5, 134)], some [(9, 138), (5, 134)], some [(5, 134), (10, 139)], some [(11, 140)], some [(12, 141)], some [(12, 141)], some [(13, 142), (14, 143), (12, 141)], some [(12, 141)], some [(16, 145), (12, 141)], some [(15, 144), (17, 146), (12, 141)], some [(12, 141), (18, 147)], some [(19, 148)]] [(0, 129), (1, 130), (2, 131), (3, 132), (4, 133), (5, 134), (6, 135), (7, 136), (8, 137), (9, 138), (10, 139), (11, 140), (12, 141), (13, 142), (14, 143), (15, 144), (16, 145), (17, 146), (18, 147), (19, 148), (20, 2)]
              (fun w' => Below w.heap.size w w' ∧ Bx 32 w' (bX) #[.int .i64 r, .int .i64 g, .int .i64 b, .int .i64 t, .bool p] ∧ Bx 32 w' (bU) #[.int .i64 r2, .int .i64 g2, .int .i64 b2, .int .i64 t2, .bool p2] ∧ Bx 32 w' (bD) #[.int .i64 r3, .int .i64 g3, .int .i64 b3, .int .i64 t3, .bool p3] ∧ bls.Ob w' be wr.heap.size A1 200 c1 (List.replicate 200 true) ∧ True)
              (reg.rl [reg.is (.agg #[.int .i64 r, .int .i64 g, .int .i64 b, .int .i64 t, .bool p]), reg.is (.slice A1 200 c1), reg.is (.agg #[.int .i64 3, .int .i64 x1, .int .i64 x2, .int .i64 x3, .bool x4]), reg.is (.int .i64 3), reg.is (.bool true), reg.is (.bool true), reg.is (.agg #[.int .i64 r, .int .i64 g, .int .i64 b, .int .i64 t, .bool p]), rowb (List.replicate 20 false) 20, reg.is (.agg #[.int .i64 0, .int .i64 y1, .int .i64 y2, .int .i64 y3, .bool y4]), reg.is (.int .i64 0), reg.is (.bool true), reg.is (.bool true), reg.is (.bool true), reg.is (.agg #[.int .i64 r, .int .i64 g, .int .i64 b, .int .i64 t, .bool p]), rowb [true, false] 2, reg.is (.agg #[.int .i64 z0, .int .i64 z1, .int .i64 z2, .int .i64 z3, .bool z4]), reg.is (.agg #[.int .i64 r2, .int .i64 g2, .int .i64 b2, .int .i64 t2, .bool p2]), reg.is (.agg #[.int .i64 z0, .int .i64 z1, .int .i64 z2, .int .i64 z3, .bool z4]), reg.is (.bool true), reg.is (.bool true), reg.is (.bool true)])
              (by kernel_rfl) (by kernel_rfl) rfl
              (fun w1 w2 hc hb => ⟨hc.1.trans (hb.mono hc.1.size), hc.2.1.below hb, hc.2.2.1.below hb, hc.2.2.2.1.below hb, hc.2.2.2.2.1.below hb, trivial⟩) (reg.rl_keep _) (⟨own.below_drew B11.out, X11.out.same rfl, U11.out.same rfl, D11.out.same rfl, O11.out.same (Nat.le_refl _) (fun _ _ _ => rfl), trivial⟩) (by kernel_rfl) ⟨?_, ?_, ?_, ?_, ?_, ?_, ?_, ?_, ?_, ?_, ?_, ?_, ?_, ?_, ?_, ?_, ?_, ?_, ?_, ?_, ?_, trivial⟩ ?_
            · refine fun w8 hc  K hK => ?_
              (try simp only [Act.put, List.setIfInBounds_toArray, List.set_cons_zero, List.set_cons_succ])
              rw [if_pos (by rfl)]
              refine stw.wp_load_bx 32 _ rfl (bX) rfl 32 _ hc.2.1 Try.underlying32 rfl szR ?_
              exact hK _ _ rfl (Below.refl _ _)
            · refine fun w8 hc  K hK => ?_
              (try simp only [Act.put, List.setIfInBounds_toArray, List.set_cons_zero, List.set_cons_succ])
              go_simp
              exact hK (.slice A1 200 c1) _ rfl (Below.refl _ _)
            · refine fun w8 hc v0 h0 v1 h1 K hK => ?_
              obtain rfl : v0 = .agg #[.int .i64 r, .int .i64 g, .int .i64 b, .int .i64 t, .bool p] := h0
              obtain rfl : v1 = .slice A1 200 c1 := h1
              (try simp only [Act.put, List.setIfInBounds_toArray, List.set_cons_zero, List.set_cons_succ])
              go_simp
              (with_reducible refine (implAp r g b t p (List.replicate 200 true) A1 200 c1 _ _ _ hc.2.2.2.2.1.rb).mono ?_)
              rintro e w3 hp
              obtain ⟨rfl, hb⟩ := r_parts HA.out hp
              exact hK _ _ rfl hb
            · refine fun w8 hc v2 h2 K hK => ?_
              obtain rfl : v2 = .agg #[.int .i64 3, .int .i64 x1, .int .i64 x2, .int .i64 x3, .bool x4] := h2
              (try simp only [Act.put, List.setIfInBounds_toArray, List.set_cons_zero, List.set_cons_succ])
              go_simp
              exact hK (.int .i64 3) _ rfl (Below.refl _ _)
            · refine fun w8 hc v3 h3 K hK => ?_
              obtain rfl : v3 = .int .i64 3 := h3
              (try simp only [Act.put, List.setIfInBounds_toArray, List.set_cons_zero, List.set_cons_succ])
              go_simp
              exact hK (.bool true) _ rfl (Below.refl _ _)
            · refine fun w8 hc v4 h4 K hK => ?_
              obtain rfl : v4 = .bool true := h4
              (try simp only [Act.put, List.setIfInBounds_toArray, List.set_cons_zero, List.set_cons_succ])
              go_simp
              exact hK (.bool true) _ rfl (Below.refl _ _)
            · refine fun w8 hc v5 h5 K hK => ?_
              obtain rfl : v5 = .bool true := h5
              (try simp only [Act.put, List.setIfInBounds_toArray, List.set_cons_zero, List.set_cons_succ])
              rw [if_pos (by rfl)]
              refine stw.wp_load_bx 32 _ rfl (bX) rfl 32 _ hc.2.1 Try.underlying32 rfl szR ?_
              exact hK _ _ rfl (Below.refl _ _)
            · refine fun w8 hc v5 h5 K hK => ?_
              obtain rfl : v5 = .bool true := h5
              (try simp only [Act.put, List.setIfInBounds_toArray, List.set_cons_zero, List.set_cons_succ])
              rw [if_pos (by rfl)]
              have hmk := HMK.out
              go_simp
              exact hK (.slice (some ⟨w8.heap.size, 0, none⟩) 20 20) _ ⟨_, _, _, rfl, (bls.Ob.of_bx (lo := 0) (Bx.made _ _ _) (Nat.zero_le _) (bls.made_false 20) (by unfold maxLen; simp) (by simp [size_madeCells])).rb⟩ (bx.below_box _ _)
            · refine fun w8 hc v6 h6 v7 h7 v5 h5 K hK => ?_
              obtain rfl : v6 = .agg #[.int .i64 r, .int .i64 g, .int .i64 b, .int .i64 t, .bool p] := h6
              obtain ⟨Av7, lov7, hiv7, rfl, hRv7⟩ := h7
              obtain rfl : v5 = .bool true := h5
              (try simp only [Act.put, List.setIfInBounds_toArray, List.set_cons_zero, List.set_cons_succ])
              rw [if_pos (by rfl)]
              go_simp
              (with_reducible refine (implAp r g b t p (List.replicate 20 false) _ _ _ _ _ _ hRv7).mono ?_)
              rintro e w3 hp
              obtain ⟨rfl, hb⟩ := r_parts HB.out hp
              exact hK _ _ rfl hb
            · refine fun w8 hc v8 h8 v5 h5 K hK => ?_
              obtain rfl : v8 = .agg #[.int .i64 0, .int .i64 y1, .int .i64 y2, .int .i64 y3, .bool y4] := h8
              obtain rfl : v5 = .bool true := h5
              (try simp only [Act.put, List.setIfInBounds_toArray, List.set_cons_zero, List.set_cons_succ])
              rw [if_pos (by rfl)]
              go_simp
              exact hK (.int .i64 0) _ rfl (Below.refl _ _)
            · refine fun w8 hc v9 h9 v5 h5 K hK => ?_
              obtain rfl : v9 = .int .i64 0 := h9
              obtain rfl : v5 = .bool true := h5
              (try simp only [Act.put, List.setIfInBounds_toArray, List.set_cons_zero, List.set_cons_succ])
              rw [if_pos (by rfl)]
              go_simp
              exact hK (.bool true) _ rfl (Below.refl _ _)
            · refine fun w8 hc v5 h5 v10 h10 K hK => ?_
              obtain rfl : v5 = .bool true := h5
              obtain rfl : v10 = .bool true := h10
              (try simp only [Act.put, List.setIfInBounds_toArray, List.set_cons_zero, List.set_cons_succ])
              go_simp
              exact hK (.bool true) _ rfl (Below.refl _ _)
            · refine fun w8 hc v11 h11 K hK => ?_
              obtain rfl : v11 = .bool true := h11
              (try simp only [Act.put, List.setIfInBounds_toArray, List.set_cons_zero, List.set_cons_succ])
              go_simp
              exact hK (.bool true) _ rfl (Below.refl _ _)
            · refine fun w8 hc v12 h12 K hK => ?_
              obtain rfl : v12 = .bool true := h12
              (try simp only [Act.put, List.setIfInBounds_toArray, List.set_cons_zero, List.set_cons_succ])
              rw [if_pos (by rfl)]
              refine stw.wp_load_bx 32 _ rfl (bX) rfl 32 _ hc.2.1 Try.underlying32 rfl szR ?_
              exact hK _ _ rfl (Below.refl _ _)
            · refine fun w8 hc v12 h12 K hK => ?_
              obtain rfl : v12 = .bool true := h12
              (try simp only [Act.put, List.setIfInBounds_toArray, List.set_cons_zero, List.set_cons_succ])
              rw [if_pos (by rfl)]
              go_simp
              exact hK (.slice (some ⟨w8.heap.size, 0, none⟩) 2 2) _ ⟨_, _, _, rfl, (bls.Ob.of_bx (lo := 0) (Bx.made _ _ _) (Nat.zero_le _) rfl (by unfold maxLen; simp) rfl).rb⟩ (bx.below_box _ _)
            · refine fun w8 hc v13 h13 v14 h14 v12 h12 K hK => ?_
              obtain rfl : v13 = .agg #[.int .i64 r, .int .i64 g, .int .i64 b, .int .i64 t, .bool p] := h13
              obtain ⟨Av14, lov14, hiv14, rfl, hRv14⟩ := h14
              obtain rfl : v12 = .bool true := h12
              (try simp only [Act.put, List.setIfInBounds_toArray, List.set_cons_zero, List.set_cons_succ])
              rw [if_pos (by rfl)]
              go_simp
              (with_reducible refine (implAp r g b t p [true, false] _ _ _ _ _ _ hRv14).mono ?_)
              rintro e w3 hp
              obtain ⟨rfl, hb⟩ := r_parts HG.out hp
              exact hK _ _ rfl hb
            · refine fun w8 hc v12 h12 K hK => ?_
              obtain rfl : v12 = .bool true := h12
              (try simp only [Act.put, List.setIfInBounds_toArray, List.set_cons_zero, List.set_cons_succ])
              rw [if_pos (by rfl)]
              refine stw.wp_load_bx 32 _ rfl (bU) rfl 32 _ hc.2.2.1 Try.underlying32 rfl szR ?_
              exact hK _ _ rfl (Below.refl _ _)
            · refine fun w8 hc v16 h16 v12 h12 K hK => ?_
              obtain rfl : v16 = .agg #[.int .i64 r2, .int .i64 g2, .int .i64 b2, .int .i64 t2, .bool p2] := h16
              obtain rfl : v12 = .bool true := h12
              (try simp only [Act.put, List.setIfInBounds_toArray, List.set_cons_zero, List.set_cons_succ])
              rw [if_pos (by rfl)]
              go_simp
              (with_reducible refine (implFa r2 g2 b2 t2 p2 _).mono ?_)
              rintro e w3 hp
              obtain ⟨rfl, hb⟩ := r_parts HF.out hp
              exact hK _ _ rfl hb
            · refine fun w8 hc v15 h15 v17 h17 v12 h12 K hK => ?_
              obtain rfl : v15 = .agg #[.int .i64 z0, .int .i64 z1, .int .i64 z2, .int .i64 z3, .bool z4] := h15
              obtain rfl : v17 = .agg #[.int .i64 z0, .int .i64 z1, .int .i64 z2, .int .i64 z3, .bool z4] := h17
              obtain rfl : v12 = .bool true := h12
              (try simp only [Act.put, List.setIfInBounds_toArray, List.set_cons_zero, List.set_cons_succ])
              rw [if_pos (by rfl)]
              go_simp
              exact hK (.bool true) _ rfl (Below.refl _ _)
            · refine fun w8 hc v12 h12 v18 h18 K hK => ?_
              obtain rfl : v12 = .bool true := h12
              obtain rfl : v18 = .bool true := h18
              (try simp only [Act.put, List.setIfInBounds_toArray, List.set_cons_zero, List.set_cons_succ])
              go_simp
              exact hK (.bool true) _ rfl (Below.refl _ _)
            · refine fun w8 hc v19 h19 K hK => ?_
              obtain rfl : v19 = .bool true := h19
              (try simp only [Act.put, List.setIfInBounds_toArray, List.set_cons_zero, List.set_cons_succ])
              go_simp
              exact hK (.bool true) _ rfl (Below.refl _ _)
            refine fun wg12 hc v0 h0 v1 h1 v2 h2 v3 h3 v4 h4 v5 h5 v6 h6 v7 h7 v8 h8 v9 h9 v10 h10 v11 h11 v12 h12 v13 h13 v14 h14 v15 h15 v16 h16 v17 h17 v18 h18 v19 h19 v20 h20 => ?_
            obtain rfl : v0 = .agg #[.int .i64 r, .int .i64 g, .int .i64 b, .int .i64 t, .bool p] := h0
            obtain rfl : v1 = .slice A1 200 c1 := h1
            obtain rfl : v2 = .agg #[.int .i64 3, .int .i64 x1, .int .i64 x2, .int .i64 x3, .bool x4] := h2
            obtain rfl : v3 = .int .i64 3 := h3
            obtain rfl : v4 = .bool true := h4
            obtain rfl : v5 = .bool true := h5
            obtain rfl : v6 = .agg #[.int .i64 r, .int .i64 g, .int .i64 b, .int .i64 t, .bool p] := h6
            obtain ⟨Av7, lov7, hiv7, rfl, hRv7⟩ := h7
            obtain rfl : v8 = .agg #[.int .i64 0, .int .i64 y1, .int .i64 y2, .int .i64 y3, .bool y4] := h8
            obtain rfl : v9 = .int .i64 0 := h9
            obtain rfl : v10 = .bool true := h10
            obtain rfl : v11 = .bool true := h11
            obtain rfl : v12 = .bool true := h12
            obtain rfl : v13 = .agg #[.int .i64 r, .int .i64 g, .int .i64 b, .int .i64 t, .bool p] := h13
            obtain ⟨Av14, lov14, hiv14, rfl, hRv14⟩ := h14
            obtain rfl : v15 = .agg #[.int .i64 z0, .int .i64 z1, .int .i64 z2, .int .i64 z3, .bool z4] := h15
            obtain rfl : v16 = .agg #[.int .i64 r2, .int .i64 g2, .int .i64 b2, .int .i64 t2, .bool p2] := h16
            obtain rfl : v17 = .agg #[.int .i64 z0, .int .i64 z1, .int .i64 z2, .int .i64 z3, .bool z4] := h17
            obtain rfl : v18 = .bool true := h18
            obtain rfl : v19 = .bool true := h19
            obtain rfl : v20 = .bool true := h20
            (try simp only [reg.Obs])
            (try simp only [Act.put, List.setIfInBounds_toArray, List.set_cons_zero, List.set_cons_succ])
            have B12 := Lib.hid hc.1
            have X12 := Lib.hid hc.2.1
            have U12 := Lib.hid hc.2.2.1
            have D12 := Lib.hid hc.2.2.2.1
            have O12 := Lib.hid hc.2.2.2.2.1
            clear hc B11 X11 U11 D11 O11
            go_wp2_with fail
            go_ret
            exact ⟨rfl, B12.out⟩
  | false =>
    have eu : (⟨r2, g2, b2, t2, p2⟩ : Rs) = ⟨r, g, b, t, p⟩ := by rw [← HU.out]; unfold su; rw [if_neg (of_decide_eq_false HV.out)]
    have ed : (⟨r3, g3, b3, t3, p3⟩ : Rs) = ⟨r, g, b, t, p⟩ := by rw [← HD.out]; unfold fa; rw [if_neg (of_decide_eq_false HV.out)]
    obtain ⟨rfl, rfl, rfl, rfl, rfl⟩ : r2 = r ∧ g2 = g ∧ b2 = b ∧ t2 = t ∧ p2 = p := ⟨congrArg Rs.r eu, congrArg Rs.g eu, congrArg Rs.b eu, congrArg Rs.t eu, congrArg Rs.p eu⟩
    obtain ⟨rfl, rfl, rfl, rfl, rfl⟩ : r3 = r2 ∧ g3 = g2 ∧ b3 = b2 ∧ t3 = t2 ∧ p3 = p2 := ⟨congrArg Rs.r ed, congrArg Rs.g ed, congrArg Rs.b ed, congrArg Rs.t ed, congrArg Rs.p ed⟩
    have cU0 : wa7.cell? ⟨bU, 0, none⟩ = some (.int .i64 r3) := U7.out.cell 0
    have cU1 : wa7.cell? ⟨bU, 1, none⟩ = some (.int .i64 g3) := U7.out.cell 1
    have cU2 : wa7.cell? ⟨bU, 2, none⟩ = some (.int .i64 b3) := U7.out.cell 2
    have cU3 : wa7.cell? ⟨bU, 3, none⟩ = some (.int .i64 t3) := U7.out.cell 3
    have cU4 : wa7.cell? ⟨bU, 4, none⟩ = some (.bool p3) := U7.out.cell 4
    have cX0 : wa7.cell? ⟨bX, 0, none⟩ = some (.int .i64 r3) := X7.out.cell 0
    have cX1 : wa7.cell? ⟨bX, 1, none⟩ = some (.int .i64 g3) := X7.out.cell 1
    have cX2 : wa7.cell? ⟨bX, 2, none⟩ = some (.int .i64 b3) := X7.out.cell 2
    have cX3 : wa7.cell? ⟨bX, 3, none⟩ = some (.int .i64 t3) := X7.out.cell 3
    have cX4 : wa7.cell? ⟨bX, 4, none⟩ = some (.bool p3) := X7.out.cell 4
    have cD0 : wa7.cell? ⟨bD, 0, none⟩ = some (.int .i64 r3) := D7.out.cell 0
    have cD1 : wa7.cell? ⟨bD, 1, none⟩ = some (.int .i64 g3) := D7.out.cell 1
    have cD2 : wa7.cell? ⟨bD, 2, none⟩ = some (.int .i64 b3) := D7.out.cell 2
    have cD3 : wa7.cell? ⟨bD, 3, none⟩ = some (.int .i64 t3) := D7.out.cell 3
    have cD4 : wa7.cell? ⟨bD, 4, none⟩ = some (.bool p3) := D7.out.cell 4
    go_wp2_with fail
    clear cU0 cU1 cU2 cU3 cU4 cX0 cX1 cX2 cX3 cX4 cD0 cD1 cD2 cD3 cD4
    (with_reducible refine (implVa r3 g3 b3 t3 p3 _).mono ?_)
    rintro e wa8 hp
    obtain ⟨rfl, hb⟩ := b_parts HV.out hp
    clear hp
    have SS8 := Lib.hid hb.size
    have B8 := Lib.hid (B7.out.trans (hb.mono B7.out.size))
    have X8 := Lib.hid (X7.out.below hb)
    have U8 := Lib.hid (U7.out.below hb)
    have D8 := Lib.hid (D7.out.below hb)
    clear hb  B7 X7 U7 D7
    go_wp2_with fail
    go_ret
    exact ⟨by first | rfl | simp, B8.out⟩
end Go.Proofs.Ytejjafmppihneaa.ra
