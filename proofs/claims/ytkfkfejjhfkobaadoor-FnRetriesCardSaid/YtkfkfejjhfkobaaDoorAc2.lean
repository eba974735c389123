/- WindowAfter and InternalWinner, program and specification. Condition: none. -/
import Derived.Test.YtkfkfejjhfkobaaDoorAc1
namespace Go.Proofs.YtkfkfejjhfkobaaDoor.bx
open Go.RowKit sl harn rng acm
set_option linter.unusedVariables false

set_option maxRecDepth 100000 in
set_option maxHeartbeats 4000000 in
theorem specWa (a b c d f : Int) (w : World) :
    Calls Tryd.prog 28 #[.agg #[.int .i64 a, .int .i64 b, .int .i64 c, .int .i64 d], .int .i64 f] w (NPost (wa a b c d f) w) := by
  obtain ⟨v, hv⟩ : ∃ v, vp a b c d = v := ⟨_, rfl⟩
  have HV := Lib.hid hv
  clear hv
  go_enter Tryd.func28, Tryd.ntmps28
  go_wp2_with fail
  obtain ⟨w0, hW⟩ : ∃ w0, w.alloc (.cells #[.int .i64 a, .int .i64 b, .int .i64 c, .int .i64 d] 26) = w0 := ⟨_, rfl⟩
  rw [hW]
  have B0 := Lib.hid (show Below w.heap.size w w0 by rw [← hW]; exact below_box _ _)
  have X0 := Lib.hid (show Bx 26 w0 w.heap.size #[.int .i64 a, .int .i64 b, .int .i64 c, .int .i64 d] by rw [← hW]; exact Bx.made _ _ _)
  clear hW
  (with_reducible refine (specVp a b c d _).mono ?_)
  rintro e w1 hp
  obtain ⟨rfl, hb⟩ := b_parts HV.out hp
  have B1 := Lib.hid (B0.out.trans (hb.mono B0.out.size))
  have X1 := Lib.hid (X0.out.below hb)
  clear hb hp B0 X0
  have c0 : w1.cell? ⟨w.heap.size, 0, none⟩ = some (.int .i64 a) := X1.out.cell 0
  have c1 : w1.cell? ⟨w.heap.size, 1, none⟩ = some (.int .i64 b) := X1.out.cell 1
  have c2 : w1.cell? ⟨w.heap.size, 2, none⟩ = some (.int .i64 c) := X1.out.cell 2
  have c3 : w1.cell? ⟨w.heap.size, 3, none⟩ = some (.int .i64 d) := X1.out.cell 3
  cases v with
  | false =>
    go_wp2_with fail
    go_ret
    exact ⟨by rw [wa_no HV.out]; rfl, B1.out⟩
  | true =>
    have HQ := Lib.hid (vp_iff.1 HV.out)
    have HC := Lib.hid (cap_le f)
    go_wp2_with fail
    clear c0 c1 c2 c3
    go_loopw [5, 6] (fun x i wr => ∃ k : Nat, i = .int .i64 k ∧ x = .int .i64 (it b c k) ∧ k ≤ cap f ∧ Below w1.heap.size w1 wr) (fun _ i _ => 20 - (intOf i).toNat)
    case atStart => exact ⟨0, rfl, rfl, Nat.zero_le _, Below.refl _ _⟩
    case round =>
      obtain ⟨k, rfl, rfl, hk, hb⟩ := hrel
      have B2 := Lib.hid (B1.out.trans (hb.mono B1.out.size))
      have X2 := Lib.hid (X1.out.below hb)
      have D2 := Lib.hid hb
      clear hb
      have hk2 : k ≤ 20 := by have := HC.out; omega
      have HK := Lib.hid hk
      clear hk
      obtain ⟨x, hx⟩ : ∃ x, it b c k = x := ⟨_, rfl⟩
      rw [hx]
      have HX := Lib.hid hx
      clear hx
      have c0 : wr.cell? ⟨w.heap.size, 0, none⟩ = some (.int .i64 a) := X2.out.cell 0
      have c1 : wr.cell? ⟨w.heap.size, 1, none⟩ = some (.int .i64 b) := X2.out.cell 1
      have c2 : wr.cell? ⟨w.heap.size, 2, none⟩ = some (.int .i64 c) := X2.out.cell 2
      have c3 : wr.cell? ⟨w.heap.size, 3, none⟩ = some (.int .i64 d) := X2.out.cell 3
      by_cases h1 : (k : Int) < f
      · by_cases h2 : (k : Int) < 20
        · have HL := Lib.hid (show k < cap f from cap_lt.2 ⟨h1, h2⟩)
          obtain ⟨y, hy⟩ : ∃ y, nw a b c d x = y := ⟨_, rfl⟩
          have HY := Lib.hid hy
          have HI := Lib.hid (show it b c (k + 1) = y by show nx b c (it b c k) = y; rw [HX.out, ← nw_yes HV.out, hy])
          clear hy
          go_wp2_with fail
          clear c0 c1 c2 c3
          (with_reducible refine (specNw a b c d x _).mono ?_)
          rintro e w3 hp
          obtain ⟨rfl, hb⟩ := n_parts HY.out hp
          have D3 := Lib.hid (D2.out.trans (hb.mono D2.out.size))
          clear hb hp
          go_wp2_with fail
          go_roundw
          case rel => exact ⟨k + 1, by go_num, by rw [HI.out], by have := HL.out; omega, D3.out⟩
          case measure => simp [intOf]; have := HL.out; have := HC.out; omega
        · have HL := Lib.hid (show ¬ k < cap f from fun h => h2 (cap_lt.1 h).2)
          have HE := Lib.hid (show it b c (cap f) = x by rw [← HX.out]; have := HL.out; have := HK.out; rw [show cap f = k by omega])
          go_wp2_with fail
          go_ret
          exact ⟨by rw [wa_yes HV.out, HE.out]; rfl, B2.out⟩
      · have HL := Lib.hid (show ¬ k < cap f from fun h => h1 (cap_lt.1 h).1)
        have HE := Lib.hid (show it b c (cap f) = x by rw [← HX.out]; have := HL.out; have := HK.out; rw [show cap f = k by omega])
        go_wp2_with fail
        go_ret
        exact ⟨by rw [wa_yes HV.out, HE.out]; rfl, B2.out⟩
theorem isCat (n : Int) (v : Bool) (w : World) (h : decide (0 ≤ n ∧ n ≤ 3) = v) :
    Calls Tryd.prog 17 #[.int .i64 n] w fun e w' => e = .returned (.bool v) ∧ w = w' := by
  have HV := Lib.hid h
  clear h
  go_enter Tryd.func17, Tryd.ntmps17
  go_wp2_with fail
  (with_reducible refine (inR n 0 3 v _ HV.out).mono ?_)
  rintro e w1 ⟨rfl, rfl⟩
  go_wp2_with fail
  go_ret
  exact ⟨rfl, rfl⟩
end Go.Proofs.YtkfkfejjhfkobaaDoor.bx
