/- Who is received: the specification's function. Condition: positions within 2^30. -/
import Derived.Test.YtichhbkgebimeaaRc4
namespace Go.Proofs.Ytichhbkgebimeaa.bx
open Go.RowKit sl harn rng plm rfm
set_option linter.unusedVariables false

/-- The best of the first k senders, or -1. -/
def Bk (z : List Int) (s : Int) (l : List Int) (q : Int) (k : Nat) (b : Int) : Prop :=
  (b = -1 ∧ ∀ j, j < k → win z s (l.getD j 0) q = false) ∨ ((∃ j, j < k ∧ l.getD j 0 = b) ∧ win z s b q = true ∧ ∀ j, j < k → win z s (l.getD j 0) q = true → dst z b q < dst z (l.getD j 0) q ∨ (dst z b q = dst z (l.getD j 0) q ∧ b ≤ l.getD j 0))
section
variable {z : List Int} {s : Int} {l : List Int} {q : Int} {k : Nat} {b x : Int}
theorem Bk.zero : Bk z s l q 0 (-1) := .inl ⟨rfl, fun j h => absurd h (by omega)⟩
theorem lt_succ_cases {P : Nat → Prop} (h : ∀ j, j < k → P j) (hk : P k) : ∀ j, j < k + 1 → P j := fun j hj => by
  rcases Nat.lt_or_ge j k with h1 | h1
  · exact h j h1
  · obtain rfl : j = k := by omega
    exact hk
theorem Bk.pass (h : Bk z s l q k b) (hx : l.getD k 0 = x) (hw : win z s x q = false) : Bk z s l q (k + 1) b := by
  rcases h with ⟨h1, h2⟩ | ⟨⟨j, hj, e⟩, h1, h2⟩
  · exact .inl ⟨h1, lt_succ_cases h2 (by rw [hx]; exact hw)⟩
  · exact .inr ⟨⟨j, by omega, e⟩, h1, lt_succ_cases h2 (by rw [hx, hw]; intro h; cases h)⟩
theorem Bk.first (h : ∀ j, j < k → win z s (l.getD j 0) q = false) (hx : l.getD k 0 = x) (hw : win z s x q = true) : Bk z s l q (k + 1) x :=
  .inr ⟨⟨k, by omega, hx⟩, hw, lt_succ_cases (fun j hj g => by rw [h j hj] at g; cases g) fun _ => by rw [hx]; exact .inr ⟨rfl, Int.le_refl _⟩⟩
theorem Bk.better (h : ∀ j, j < k → win z s (l.getD j 0) q = true → dst z b q < dst z (l.getD j 0) q ∨ (dst z b q = dst z (l.getD j 0) q ∧ b ≤ l.getD j 0)) (hx : l.getD k 0 = x) (hw : win z s x q = true) (hd : dst z x q < dst z b q ∨ (dst z x q = dst z b q ∧ x < b)) : Bk z s l q (k + 1) x :=
  .inr ⟨⟨k, by omega, hx⟩, hw, lt_succ_cases (fun j hj g => by have := h j hj g; omega) fun _ => by rw [hx]; exact .inr ⟨rfl, Int.le_refl _⟩⟩
theorem Bk.worse (h0 : ∃ j, j < k ∧ l.getD j 0 = b) (h1 : win z s b q = true) (h : ∀ j, j < k → win z s (l.getD j 0) q = true → dst z b q < dst z (l.getD j 0) q ∨ (dst z b q = dst z (l.getD j 0) q ∧ b ≤ l.getD j 0)) (hx : l.getD k 0 = x) (hd : ¬ (dst z x q < dst z b q ∨ (dst z x q = dst z b q ∧ x < b))) : Bk z s l q (k + 1) b := by
  obtain ⟨j, hj, e⟩ := h0
  exact .inr ⟨⟨j, by omega, e⟩, h1, lt_succ_cases h fun _ => by rw [hx]; omega⟩
theorem all_of_at {P : Int → Prop} {n : Nat} (hn : l.length = n) (h : ∀ j, j < n → P (l.getD j 0)) : ∀ y ∈ l, P y := fun y hy => by
  obtain ⟨j, hj, rfl⟩ := ex_getD hy
  exact h j (by omega)
theorem best_of_at {n : Nat} (hn : l.length = n) (h0 : ∃ j, j < n ∧ l.getD j 0 = b) (h1 : win z s b q = true) (h : ∀ j, j < n → win z s (l.getD j 0) q = true → dst z b q < dst z (l.getD j 0) q ∨ (dst z b q = dst z (l.getD j 0) q ∧ b ≤ l.getD j 0)) : Best z s l q b := by
  obtain ⟨j, hj, e⟩ := h0
  exact ⟨by rw [← e]; exact mem_getD (by omega), h1, all_of_at hn h⟩
end

set_option maxRecDepth 100000 in
set_option maxHeartbeats 4000000 in
theorem specRf (A : Option Addr) (n cap : Nat) (r s : Int) (z : List Int) (A2 : Option Addr) (n2 cap2 : Nat) (l : List Int) (q : Int) (lo hi lo2 hi2 : Nat) (w : World) (h : Rd .i64 w lo hi A n cap z) (h2 : Rd .i64 w lo2 hi2 A2 n2 cap2 l) (hs : Sm z) :
    Calls Try.prog 23 #[.agg #[.slice A n cap, .int .i64 r, .int .i64 s], .slice A2 n2 cap2, .int .i64 q] w (RfPost z r s l q w) := by
  have hc := h2.cap_
  have HR := Lib.hid h
  have HS := Lib.hid h2
  have HL := Lib.hid h2.len
  have HM := Lib.hid hs
  clear h h2 hs
  go_enter Try.func23, Try.ntmps23
  go_wp2_with fail
  obtain ⟨w0, hW⟩ : ∃ w0, w.alloc (.cells #[.slice A n cap, .int .i64 r, .int .i64 s] 26) = w0 := ⟨_, rfl⟩
  rw [hW]
  have B0 := Lib.hid (show Below w.heap.size w w0 by rw [← hW]; exact below_box _ _)
  have X0 := Lib.hid (show Bx 26 w0 w.heap.size #[.slice A n cap, .int .i64 r, .int .i64 s] by rw [← hW]; exact Bx.made _ _ _)
  have R0 := Lib.hid (HR.out.below B0.out)
  have S0 := Lib.hid (HS.out.below B0.out)
  clear hW HR HS
  (with_reducible refine (specPl A n cap r s z q _ _ _ R0.out).mono ?_)
  rintro e w1 ⟨rfl, hb⟩
  have B1 := Lib.hid (B0.out.trans (hb.mono B0.out.size))
  have X1 := Lib.hid (X0.out.below hb)
  have R1 := Lib.hid (R0.out.below hb)
  have S1 := Lib.hid (S0.out.below hb)
  clear hb B0 X0 R0 S0
  cases hp : plc z q with
  | false =>
    have HP := Lib.hid hp
    clear hp
    go_wp2_with fail
    go_ret
    refine ⟨-1, rfl, .inl ⟨rfl, .inr (.inl fun y _ => win_no2 HP.out)⟩, B1.out⟩
  | true =>
    clear hp
    go_wp2_with fail
    go_loopw [7, 8] (fun v i wr => ∃ (k : Nat) (b : Int), v = .int .i64 b ∧ i = .int .i64 k ∧ k ≤ n2 ∧ (∀ j, j < k → l.getD j 0 ≠ q) ∧ Bk z s l q k b ∧ Below w1.heap.size w1 wr) (fun _ i _ => n2 - (intOf i).toNat)
    case atStart => exact ⟨0, -1, rfl, rfl, by omega, fun j h => absurd h (by omega), Bk.zero, Below.refl _ _⟩
    case round =>
      obtain ⟨k, b, rfl, rfl, hk, hne, hbk, hb⟩ := hrel
      have HE := Lib.hid hne
      have HK := Lib.hid hbk
      have B2 := Lib.hid (B1.out.trans (hb.mono B1.out.size))
      have X2 := Lib.hid (X1.out.below hb)
      have R2 := Lib.hid (R1.out.below hb)
      have S2 := Lib.hid (S1.out.below hb)
      have D2 := Lib.hid hb
      clear hne hbk hb
      by_cases hlt : k < n2
      · have hlt2 : (k : Int) < n2 := by omega
        have HT := Lib.hid (show k < l.length by rw [HL.out]; exact hlt)
        obtain ⟨b1, off, rfl, _, _, hcl⟩ := S2.out.at_ hlt
        obtain ⟨x, hx⟩ : ∃ x, l.getD k 0 = x := ⟨_, rfl⟩
        rw [hx] at hcl
        have HX := Lib.hid hx
        clear hx
        have c0 : wr.cell? ⟨w.heap.size, 0, none⟩ = some (.slice A n cap) := X2.out.cell 0
        have c1 : wr.cell? ⟨w.heap.size, 1, none⟩ = some (.int .i64 r) := X2.out.cell 1
        have c2 : wr.cell? ⟨w.heap.size, 2, none⟩ = some (.int .i64 s) := X2.out.cell 2
        by_cases hxq : x = q
        · have h1 : (x == q) = true := by simpa using hxq
          have HQ := Lib.hid (show q ∈ l by rw [← hxq, ← HX.out]; exact mem_getD HT.out)
          clear hxq
          go_wp2_with fail
          go_ret
          exact ⟨-1, rfl, .inl ⟨rfl, .inl HQ.out⟩, B2.out⟩
        · have h1 : (x == q) = false := by simpa using hxq
          have HE2 := Lib.hid (none_yet HE.out HX.out hxq)
          clear hxq
          go_wp2_with fail
          cases hw : win z s x q with
          | false =>
            have HW := Lib.hid hw
            clear hw
            (with_reducible refine (specCs A n cap r s z x q _ _ _ R2.out).mono ?_)
            rintro e w3 hp
            obtain ⟨rfl, hb⟩ := b_parts HW.out hp
            have B3 := Lib.hid (B2.out.trans (hb.mono B2.out.size))
            have X3 := Lib.hid (X2.out.below hb)
            have R3 := Lib.hid (R2.out.below hb)
            have S3 := Lib.hid (S2.out.below hb)
            have D3 := Lib.hid (D2.out.trans (hb.mono D2.out.size))
            clear hp hb c0 c1 c2 hcl
            go_wp2_with fail
            go_roundw
            case rel => exact ⟨k + 1, b, rfl, by go_num, by omega, HE2.out, HK.out.pass HX.out HW.out, D3.out⟩
            case measure => simp [intOf]; omega
          | true =>
            have HW := Lib.hid hw
            clear hw
            (with_reducible refine (specCs A n cap r s z x q _ _ _ R2.out).mono ?_)
            rintro e w3 hp
            obtain ⟨rfl, hb⟩ := b_parts HW.out hp
            have B3 := Lib.hid (B2.out.trans (hb.mono B2.out.size))
            have X3 := Lib.hid (X2.out.below hb)
            have R3 := Lib.hid (R2.out.below hb)
            have S3 := Lib.hid (S2.out.below hb)
            have D3 := Lib.hid (D2.out.trans (hb.mono D2.out.size))
            clear hp hb c0 c1 c2 hcl
            go_wp2_with fail
            rcases HK.out with ⟨rfl, hnone⟩ | ⟨hin, hbw, hmin⟩
            · have HN := Lib.hid (Bk.first hnone HX.out HW.out)
              clear hnone HK
              have c0 : ∀ m : Af w3, m.w.cell? ⟨w.heap.size, 0, none⟩ = some (.slice A n cap) := fun m => (Af.cells X3.out m).cell 0
              have c1 : ∀ m : Af w3, m.w.cell? ⟨w.heap.size, 1, none⟩ = some (.int .i64 r) := fun m => (Af.cells X3.out m).cell 1
              have c2 : ∀ m : Af w3, m.w.cell? ⟨w.heap.size, 2, none⟩ = some (.int .i64 s) := fun m => (Af.cells X3.out m).cell 2
              refine region_after (by kernel_rfl) (by kernel_rfl) ?_
              repeat (go_big_quiet_step (fail))
              refine wpQuiet_nil ?_
              intro _ hw'
              obtain ⟨nq, hw''⟩ := hw'
              subst hw''
              clear c0 c1 c2 
              go_wp2_with fail
              go_roundw
              case rel => exact ⟨k + 1, x, rfl, by go_num, by omega, HE2.out, HN.out, Af.on D3.out nq⟩
              case measure => simp [intOf]; omega
            · have hb0 : 0 ≤ b := (plc_iff.1 (win_iff.1 hbw).2.1).1
              have hb1 : ¬ b < 0 := by omega
              have hb2 : decide (b < 0) = false := decide_eq_false hb1
              obtain ⟨d, hd⟩ : ∃ d, dst z x q = d := ⟨_, rfl⟩
              obtain ⟨g, hg⟩ : ∃ g, dst z b q = g := ⟨_, rfl⟩
              have HD := Lib.hid hd
              have HG := Lib.hid hg
              have HI := Lib.hid hin
              have HV := Lib.hid hbw
              have HN := Lib.hid hmin
              clear hin hbw hmin HK hb0
              by_cases hdg : d < g
              · have hf1 : decide (d < g) = true := decide_eq_true hdg
                have HF := Lib.hid (Bk.better HN.out HX.out HW.out (by rw [HD.out, HG.out]; exact .inl hdg))
                have c0 : ∀ m : Af w3, m.w.cell? ⟨w.heap.size, 0, none⟩ = some (.slice A n cap) := fun m => (Af.cells X3.out m).cell 0
                have c1 : ∀ m : Af w3, m.w.cell? ⟨w.heap.size, 1, none⟩ = some (.int .i64 r) := fun m => (Af.cells X3.out m).cell 1
                have c2 : ∀ m : Af w3, m.w.cell? ⟨w.heap.size, 2, none⟩ = some (.int .i64 s) := fun m => (Af.cells X3.out m).cell 2
                have k0 := Lib.hid (fun m => by have hh := specDst A n cap r s z x q _ _ _ (Af.rd R3.out m); rw [HD.out] at hh; exact hh : ∀ m : Af w3, Calls Try.prog 25 #[.agg #[.slice A n cap, .int .i64 r, .int .i64 s], .int .i64 x, .int .i64 q] m.w fun e w' => e = .returned (.int .i64 d) ∧ Below m.w.heap.size m.w w')
                have k1 := Lib.hid (fun m => by have hh := specDst A n cap r s z b q _ _ _ (Af.rd R3.out m); rw [HG.out] at hh; exact hh : ∀ m : Af w3, Calls Try.prog 25 #[.agg #[.slice A n cap, .int .i64 r, .int .i64 s], .int .i64 b, .int .i64 q] m.w fun e w' => e = .returned (.int .i64 g) ∧ Below m.w.heap.size m.w w')
                refine region_after (by kernel_rfl) (by kernel_rfl) ?_
                repeat (go_big_quiet_step ((first
                  | (go_at_call 25; with_reducible exact Af.call (k0.out _))
                  | (go_at_call 25; with_reducible exact Af.call (k1.out _)))))
                refine wpQuiet_nil ?_
                intro _ hw'
                obtain ⟨nq, hw''⟩ := hw'
                subst hw''
                clear c0 c1 c2 k0 k1
                go_wp2_with fail
                go_roundw
                case rel => exact ⟨k + 1, x, rfl, by go_num, by omega, HE2.out, HF.out, Af.on D3.out nq⟩
                case measure => simp [intOf]; omega
              · have hf1 : decide (d < g) = false := decide_eq_false hdg
                by_cases heq : d = g
                · have hf2 : (d == g) = true := by simpa using heq
                  by_cases hxb : x < b
                  · have hf3 : decide (x < b) = true := decide_eq_true hxb
                    have HF := Lib.hid (Bk.better HN.out HX.out HW.out (by rw [HD.out, HG.out]; exact .inr ⟨heq, hxb⟩))
                    clear heq
                    have c0 : ∀ m : Af w3, m.w.cell? ⟨w.heap.size, 0, none⟩ = some (.slice A n cap) := fun m => (Af.cells X3.out m).cell 0
                    have c1 : ∀ m : Af w3, m.w.cell? ⟨w.heap.size, 1, none⟩ = some (.int .i64 r) := fun m => (Af.cells X3.out m).cell 1
                    have c2 : ∀ m : Af w3, m.w.cell? ⟨w.heap.size, 2, none⟩ = some (.int .i64 s) := fun m => (Af.cells X3.out m).cell 2
                    have k0 := Lib.hid (fun m => by have hh := specDst A n cap r s z x q _ _ _ (Af.rd R3.out m); rw [HD.out] at hh; exact hh : ∀ m : Af w3, Calls Try.prog 25 #[.agg #[.slice A n cap, .int .i64 r, .int .i64 s], .int .i64 x, .int .i64 q] m.w fun e w' => e = .returned (.int .i64 d) ∧ Below m.w.heap.size m.w w')
                    have k1 := Lib.hid (fun m => by have hh := specDst A n cap r s z b q _ _ _ (Af.rd R3.out m); rw [HG.out] at hh; exact hh : ∀ m : Af w3, Calls Try.prog 25 #[.agg #[.slice A n cap, .int .i64 r, .int .i64 s], .int .i64 b, .int .i64 q] m.w fun e w' => e = .returned (.int .i64 g) ∧ Below m.w.heap.size m.w w')
                    refine region_after (by kernel_rfl) (by kernel_rfl) ?_
                    repeat (go_big_quiet_step ((first
                      | (go_at_call 25; with_reducible exact Af.call (k0.out _))
                      | (go_at_call 25; with_reducible exact Af.call (k1.out _)))))
                    refine wpQuiet_nil ?_
                    intro _ hw'
                    obtain ⟨nq, hw''⟩ := hw'
                    subst hw''
                    clear c0 c1 c2 k0 k1
                    go_wp2_with fail
                    go_roundw
                    case rel => exact ⟨k + 1, x, rfl, by go_num, by omega, HE2.out, HF.out, Af.on D3.out nq⟩
                    case measure => simp [intOf]; omega
                  · have hf3 : decide (x < b) = false := decide_eq_false hxb
                    have HF := Lib.hid (Bk.worse HI.out HV.out HN.out HX.out (by rw [HD.out, HG.out]; omega))
                    clear heq
                    have c0 : ∀ m : Af w3, m.w.cell? ⟨w.heap.size, 0, none⟩ = some (.slice A n cap) := fun m => (Af.cells X3.out m).cell 0
                    have c1 : ∀ m : Af w3, m.w.cell? ⟨w.heap.size, 1, none⟩ = some (.int .i64 r) := fun m => (Af.cells X3.out m).cell 1
                    have c2 : ∀ m : Af w3, m.w.cell? ⟨w.heap.size, 2, none⟩ = some (.int .i64 s) := fun m => (Af.cells X3.out m).cell 2
                    have k0 := Lib.hid (fun m => by have hh := specDst A n cap r s z x q _ _ _ (Af.rd R3.out m); rw [HD.out] at hh; exact hh : ∀ m : Af w3, Calls Try.prog 25 #[.agg #[.slice A n cap, .int .i64 r, .int .i64 s], .int .i64 x, .int .i64 q] m.w fun e w' => e = .returned (.int .i64 d) ∧ Below m.w.heap.size m.w w')
                    have k1 := Lib.hid (fun m => by have hh := specDst A n cap r s z b q _ _ _ (Af.rd R3.out m); rw [HG.out] at hh; exact hh : ∀ m : Af w3, Calls Try.prog 25 #[.agg #[.slice A n cap, .int .i64 r, .int .i64 s], .int .i64 b, .int .i64 q] m.w fun e w' => e = .returned (.int .i64 g) ∧ Below m.w.heap.size m.w w')
                    refine region_after (by kernel_rfl) (by kernel_rfl) ?_
                    repeat (go_big_quiet_step ((first
                      | (go_at_call 25; with_reducible exact Af.call (k0.out _))
                      | (go_at_call 25; with_reducible exact Af.call (k1.out _)))))
                    refine wpQuiet_nil ?_
                    intro _ hw'
                    obtain ⟨nq, hw''⟩ := hw'
                    subst hw''
                    clear c0 c1 c2 k0 k1
                    go_wp2_with fail
                    go_roundw
                    case rel => exact ⟨k + 1, b, rfl, by go_num, by omega, HE2.out, HF.out, Af.on D3.out nq⟩
                    case measure => simp [intOf]; omega
                · have hf2 : (d == g) = false := by simpa using heq
                  have HF := Lib.hid (Bk.worse HI.out HV.out HN.out HX.out (by rw [HD.out, HG.out]; omega))
                  clear heq
                  have c0 : ∀ m : Af w3, m.w.cell? ⟨w.heap.size, 0, none⟩ = some (.slice A n cap) := fun m => (Af.cells X3.out m).cell 0
                  have c1 : ∀ m : Af w3, m.w.cell? ⟨w.heap.size, 1, none⟩ = some (.int .i64 r) := fun m => (Af.cells X3.out m).cell 1
                  have c2 : ∀ m : Af w3, m.w.cell? ⟨w.heap.size, 2, none⟩ = some (.int .i64 s) := fun m => (Af.cells X3.out m).cell 2
                  have k0 := Lib.hid (fun m => by have hh := specDst A n cap r s z x q _ _ _ (Af.rd R3.out m); rw [HD.out] at hh; exact hh : ∀ m : Af w3, Calls Try.prog 25 #[.agg #[.slice A n cap, .int .i64 r, .int .i64 s], .int .i64 x, .int .i64 q] m.w fun e w' => e = .returned (.int .i64 d) ∧ Below m.w.heap.size m.w w')
                  have k1 := Lib.hid (fun m => by have hh := specDst A n cap r s z b q _ _ _ (Af.rd R3.out m); rw [HG.out] at hh; exact hh : ∀ m : Af w3, Calls Try.prog 25 #[.agg #[.slice A n cap, .int .i64 r, .int .i64 s], .int .i64 b, .int .i64 q] m.w fun e w' => e = .returned (.int .i64 g) ∧ Below m.w.heap.size m.w w')
                  refine region_after (by kernel_rfl) (by kernel_rfl) ?_
                  repeat (go_big_quiet_step ((first
                    | (go_at_call 25; with_reducible exact Af.call (k0.out _))
                    | (go_at_call 25; with_reducible exact Af.call (k1.out _)))))
                  refine wpQuiet_nil ?_
                  intro _ hw'
                  obtain ⟨nq, hw''⟩ := hw'
                  subst hw''
                  clear c0 c1 c2 k0 k1
                  go_wp2_with fail
                  go_roundw
                  case rel => exact ⟨k + 1, b, rfl, by go_num, by omega, HE2.out, HF.out, Af.on D3.out nq⟩
                  case measure => simp [intOf]; omega
      · have hlt2 : ¬ (k : Int) < n2 := by omega
        obtain rfl : k = n2 := by omega
        clear hlt
        have HQ := Lib.hid (show q ∉ l from fun hq => all_of_at (P := fun y => y ≠ q) HL.out HE.out q hq rfl)
        rcases HK.out with ⟨rfl, hnone⟩ | ⟨hin, hbw, hmin⟩
        · have HN := Lib.hid (all_of_at (P := fun y => win z s y q = false) HL.out hnone)
          clear hnone HK hlt2
          go_wp2_with fail
          go_loopw [10] (fun i w5 => ∃ j : Nat, i = .int .i64 j ∧ j ≤ k ∧  Below wr.heap.size wr w5) (fun i _ => k - (intOf i).toNat)
          case atStart => exact ⟨0, rfl, by omega, Below.refl _ _⟩
          case round =>
            obtain ⟨j, rfl, hj, hb⟩ := hrel
            have X5 := Lib.hid (X2.out.below hb)
            have R5 := Lib.hid (R2.out.below hb)
            have D5 := Lib.hid hb
            by_cases hjt : j < k
            · have hjt2 : (j : Int) < k := by omega
              obtain ⟨b1, off, rfl, _, _, hcl⟩ := (S2.out.below hb).at_ hjt
              obtain ⟨x, hx⟩ : ∃ x, l.getD j 0 = x := ⟨_, rfl⟩
              rw [hx] at hcl
              clear hx hb
              go_wp2_with fail
              clear hcl
              have c0 : ∀ m : Af wr, m.w.cell? ⟨w.heap.size, 0, none⟩ = some (.slice A n cap) := fun m => (Af.cells X5.out m).cell 0
              have c1 : ∀ m : Af wr, m.w.cell? ⟨w.heap.size, 1, none⟩ = some (.int .i64 r) := fun m => (Af.cells X5.out m).cell 1
              have c2 : ∀ m : Af wr, m.w.cell? ⟨w.heap.size, 2, none⟩ = some (.int .i64 s) := fun m => (Af.cells X5.out m).cell 2
              refine region_after (by kernel_rfl) (by kernel_rfl) ?_
              repeat (go_big_quiet_step (fail))
              refine wpQuiet_nil ?_
              intro _ hw'
              obtain ⟨nq, hw''⟩ := hw'
              subst hw''
              clear c0 c1 c2 
              go_wp2_with fail
              go_roundw
              case rel => exact ⟨j + 1, by go_num, by omega, Af.on D5.out nq⟩
              case measure => simp [intOf]; omega
            · have hjt2 : ¬ (j : Int) < k := by omega
              clear hb
              go_wp2_with fail
              go_ret
              exact ⟨-1, rfl, .inl ⟨rfl, .inr (.inl HN.out)⟩, B2.out.trans (D5.out.mono B2.out.size)⟩
        · have HB := Lib.hid (best_of_at HL.out hin hbw hmin)
          have HV := Lib.hid hbw
          have hb0 : 0 ≤ b := (plc_iff.1 (win_iff.1 hbw).2.1).1
          have hb1 : ¬ b < 0 := by omega
          have hb2 : decide (b < 0) = false := decide_eq_false hb1
          have hb3 : decide (0 ≤ b) = true := decide_eq_true hb0
          have hb4 : decide (b ≥ 0) = true := decide_eq_true hb0
          clear hin hbw hmin HK hlt2
          obtain ⟨g, hg⟩ : ∃ g, dst z b q = g := ⟨_, rfl⟩
          have HG := Lib.hid hg
          have hg2 : 0 ≤ g ∧ g ≤ 2147483648 := by rw [← hg]; exact win_sm HM.out HV.out
          have hm1 : IntKind.i64.wrap (2 * g) = 2 * g := IntWalk.i64_in _ (by omega)
          clear hg
          go_wp2_with fail
          go_loopw [10] (fun i w5 => ∃ j : Nat, i = .int .i64 j ∧ j ≤ k ∧ (∀ i, i < j → l.getD i 0 ≠ b → win z s (l.getD i 0) q = true → 2 * g ≤ dst z (l.getD i 0) q) ∧ Below wr.heap.size wr w5) (fun i _ => k - (intOf i).toNat)
          case atStart => exact ⟨0, rfl, by omega, fun i h => absurd h (by omega), Below.refl _ _⟩
          case round =>
            obtain ⟨j, rfl, hj, hall, hb⟩ := hrel
            have HA := Lib.hid hall
            have X5 := Lib.hid (X2.out.below hb)
            have R5 := Lib.hid (R2.out.below hb)
            have D5 := Lib.hid hb
            clear hall
            by_cases hjt : j < k
            · have hjt2 : (j : Int) < k := by omega
              have HT := Lib.hid (show j < l.length by rw [HL.out]; exact hjt)
              obtain ⟨b1, off, rfl, _, _, hcl⟩ := (S2.out.below hb).at_ hjt
              obtain ⟨x, hx⟩ : ∃ x, l.getD j 0 = x := ⟨_, rfl⟩
              rw [hx] at hcl
              have HX := Lib.hid hx
              clear hx hb
              go_wp2_with fail
              clear hcl
              by_cases hxb : x = b
              · have hx1 : (x != b) = false := by simp [hxb]
                have HF := Lib.hid (lt_succ_cases HA.out (by rw [HX.out]; exact fun h => absurd hxb h))
                clear hxb
                have c0 : ∀ m : Af wr, m.w.cell? ⟨w.heap.size, 0, none⟩ = some (.slice A n cap) := fun m => (Af.cells X5.out m).cell 0
                have c1 : ∀ m : Af wr, m.w.cell? ⟨w.heap.size, 1, none⟩ = some (.int .i64 r) := fun m => (Af.cells X5.out m).cell 1
                have c2 : ∀ m : Af wr, m.w.cell? ⟨w.heap.size, 2, none⟩ = some (.int .i64 s) := fun m => (Af.cells X5.out m).cell 2
                refine region_after (by kernel_rfl) (by kernel_rfl) ?_
                repeat (go_big_quiet_step (fail))
                refine wpQuiet_nil ?_
                intro _ hw'
                obtain ⟨nq, hw''⟩ := hw'
                subst hw''
                clear c0 c1 c2 
                go_wp2_with fail
                go_roundw
                case rel => exact ⟨j + 1, by go_num, by omega, HF.out, Af.on D5.out nq⟩
                case measure => simp [intOf]; omega
              · have hx1 : (x != b) = true := by simpa using hxb
                have HXB := Lib.hid hxb
                clear hxb
                cases hw : win z s x q with
                | false =>
                  have HW := Lib.hid hw
                  have HF := Lib.hid (lt_succ_cases HA.out (by rw [HX.out, HW.out]; exact fun _ h => by cases h))
                  clear hw
                  have c0 : ∀ m : Af wr, m.w.cell? ⟨w.heap.size, 0, none⟩ = some (.slice A n cap) := fun m => (Af.cells X5.out m).cell 0
                  have c1 : ∀ m : Af wr, m.w.cell? ⟨w.heap.size, 1, none⟩ = some (.int .i64 r) := fun m => (Af.cells X5.out m).cell 1
                  have c2 : ∀ m : Af wr, m.w.cell? ⟨w.heap.size, 2, none⟩ = some (.int .i64 s) := fun m => (Af.cells X5.out m).cell 2
                  have k0 := Lib.hid (fun m => by have hh := specCs A n cap r s z x q _ _ _ (Af.rd R5.out m); rw [HW.out] at hh; exact hh : ∀ m : Af wr, Calls Try.prog 24 #[.agg #[.slice A n cap, .int .i64 r, .int .i64 s], .int .i64 x, .int .i64 q] m.w fun e w' => e = .returned (.bool false) ∧ Below m.w.heap.size m.w w')
                  refine region_after (by kernel_rfl) (by kernel_rfl) ?_
                  repeat (go_big_quiet_step ((first
                    | (go_at_call 24; with_reducible exact Af.call (k0.out _)))))
                  refine wpQuiet_nil ?_
                  intro _ hw'
                  obtain ⟨nq, hw''⟩ := hw'
                  subst hw''
                  clear c0 c1 c2 k0
                  go_wp2_with fail
                  go_roundw
                  case rel => exact ⟨j + 1, by go_num, by omega, HF.out, Af.on D5.out nq⟩
                  case measure => simp [intOf]; omega
                | true =>
                  have HW := Lib.hid hw
                  obtain ⟨d, hd⟩ : ∃ d, dst z x q = d := ⟨_, rfl⟩
                  have HD := Lib.hid hd
                  clear hw hd
                  by_cases hdg : d < 2 * g
                  · have hf1 : decide (d < 2 * g) = true := decide_eq_true hdg
                    have HF := Lib.hid (show ∃ y ∈ l, win z s y q = true ∧ y ≠ b ∧ dst z y q < 2 * dst z b q from ⟨x, by rw [← HX.out]; exact mem_getD HT.out, HW.out, HXB.out, by rw [HD.out, HG.out]; exact hdg⟩)
                    have c0 : ∀ m : Af wr, m.w.cell? ⟨w.heap.size, 0, none⟩ = some (.slice A n cap) := fun m => (Af.cells X5.out m).cell 0
                    have c1 : ∀ m : Af wr, m.w.cell? ⟨w.heap.size, 1, none⟩ = some (.int .i64 r) := fun m => (Af.cells X5.out m).cell 1
                    have c2 : ∀ m : Af wr, m.w.cell? ⟨w.heap.size, 2, none⟩ = some (.int .i64 s) := fun m => (Af.cells X5.out m).cell 2
                    have k0 := Lib.hid (fun m => by have hh := specCs A n cap r s z x q _ _ _ (Af.rd R5.out m); rw [HW.out] at hh; exact hh : ∀ m : Af wr, Calls Try.prog 24 #[.agg #[.slice A n cap, .int .i64 r, .int .i64 s], .int .i64 x, .int .i64 q] m.w fun e w' => e = .returned (.bool true) ∧ Below m.w.heap.size m.w w')
                    have k1 := Lib.hid (fun m => by have hh := specDst A n cap r s z x q _ _ _ (Af.rd R5.out m); rw [HD.out] at hh; exact hh : ∀ m : Af wr, Calls Try.prog 25 #[.agg #[.slice A n cap, .int .i64 r, .int .i64 s], .int .i64 x, .int .i64 q] m.w fun e w' => e = .returned (.int .i64 d) ∧ Below m.w.heap.size m.w w')
                    have k2 := Lib.hid (fun m => by have hh := specDst A n cap r s z b q _ _ _ (Af.rd R5.out m); rw [HG.out] at hh; exact hh : ∀ m : Af wr, Calls Try.prog 25 #[.agg #[.slice A n cap, .int .i64 r, .int .i64 s], .int .i64 b, .int .i64 q] m.w fun e w' => e = .returned (.int .i64 g) ∧ Below m.w.heap.size m.w w')
                    refine region_after (by kernel_rfl) (by kernel_rfl) ?_
                    repeat (go_big_quiet_step ((first
                      | (go_at_call 24; with_reducible exact Af.call (k0.out _))
                      | (go_at_call 25; with_reducible exact Af.call (k1.out _))
                      | (go_at_call 25; with_reducible exact Af.call (k2.out _)))))
                    refine wpQuiet_nil ?_
                    intro _ hw'
                    obtain ⟨nq, hw''⟩ := hw'
                    subst hw''
                    clear c0 c1 c2 k0 k1 k2
                    go_wp2_with fail
                    go_ret
                    exact ⟨-1, rfl, .inl ⟨rfl, .inr (.inr ⟨b, HB.out, .inr HF.out⟩)⟩, B2.out.trans ((Af.on D5.out nq).mono B2.out.size)⟩
                  · have hf1 : decide (d < 2 * g) = false := decide_eq_false hdg
                    have HF := Lib.hid (lt_succ_cases HA.out (by rw [HX.out, HD.out]; exact fun _ _ => by omega))
                    have c0 : ∀ m : Af wr, m.w.cell? ⟨w.heap.size, 0, none⟩ = some (.slice A n cap) := fun m => (Af.cells X5.out m).cell 0
                    have c1 : ∀ m : Af wr, m.w.cell? ⟨w.heap.size, 1, none⟩ = some (.int .i64 r) := fun m => (Af.cells X5.out m).cell 1
                    have c2 : ∀ m : Af wr, m.w.cell? ⟨w.heap.size, 2, none⟩ = some (.int .i64 s) := fun m => (Af.cells X5.out m).cell 2
                    have k0 := Lib.hid (fun m => by have hh := specCs A n cap r s z x q _ _ _ (Af.rd R5.out m); rw [HW.out] at hh; exact hh : ∀ m : Af wr, Calls Try.prog 24 #[.agg #[.slice A n cap, .int .i64 r, .int .i64 s], .int .i64 x, .int .i64 q] m.w fun e w' => e = .returned (.bool true) ∧ Below m.w.heap.size m.w w')
                    have k1 := Lib.hid (fun m => by have hh := specDst A n cap r s z x q _ _ _ (Af.rd R5.out m); rw [HD.out] at hh; exact hh : ∀ m : Af wr, Calls Try.prog 25 #[.agg #[.slice A n cap, .int .i64 r, .int .i64 s], .int .i64 x, .int .i64 q] m.w fun e w' => e = .returned (.int .i64 d) ∧ Below m.w.heap.size m.w w')
                    have k2 := Lib.hid (fun m => by have hh := specDst A n cap r s z b q _ _ _ (Af.rd R5.out m); rw [HG.out] at hh; exact hh : ∀ m : Af wr, Calls Try.prog 25 #[.agg #[.slice A n cap, .int .i64 r, .int .i64 s], .int .i64 b, .int .i64 q] m.w fun e w' => e = .returned (.int .i64 g) ∧ Below m.w.heap.size m.w w')
                    refine region_after (by kernel_rfl) (by kernel_rfl) ?_
                    repeat (go_big_quiet_step ((first
                      | (go_at_call 24; with_reducible exact Af.call (k0.out _))
                      | (go_at_call 25; with_reducible exact Af.call (k1.out _))
                      | (go_at_call 25; with_reducible exact Af.call (k2.out _)))))
                    refine wpQuiet_nil ?_
                    intro _ hw'
                    obtain ⟨nq, hw''⟩ := hw'
                    subst hw''
                    clear c0 c1 c2 k0 k1 k2
                    go_wp2_with fail
                    go_roundw
                    case rel => exact ⟨j + 1, by go_num, by omega, HF.out, Af.on D5.out nq⟩
                    case measure => simp [intOf]; omega
            · have hjt2 : ¬ (j : Int) < k := by omega
              obtain rfl : j = k := by omega
              clear hb
              have HF := Lib.hid (all_of_at (P := fun y => y ≠ b → win z s y q = true → 2 * g ≤ dst z y q) HL.out HA.out)
              have c0 : wr.cell? ⟨w.heap.size, 0, none⟩ = some (.slice A n cap) := X5.out.cell 0
              have c1 : wr.cell? ⟨w.heap.size, 1, none⟩ = some (.int .i64 r) := X5.out.cell 1
              have c2 : wr.cell? ⟨w.heap.size, 2, none⟩ = some (.int .i64 s) := X5.out.cell 2
              go_wp2_with fail
              cases hw : win z r b q with
              | false =>
                have HW := Lib.hid hw
                clear hw
                (with_reducible refine (specCr A n cap r s z b q _ _ _ R5.out).mono ?_)
                rintro e w6 hp
                obtain ⟨rfl, hb⟩ := b_parts HW.out hp
                have B6 := Lib.hid ((B2.out.trans (D5.out.mono B2.out.size)).trans (hb.mono (B2.out.trans (D5.out.mono B2.out.size)).size))
                clear hp hb c0 c1 c2
                go_wp2_with fail
                go_ret
                exact ⟨-1, rfl, .inl ⟨rfl, .inr (.inr ⟨b, HB.out, .inl HW.out⟩)⟩, B6.out⟩
              | true =>
                have HW := Lib.hid hw
                clear hw
                (with_reducible refine (specCr A n cap r s z b q _ _ _ R5.out).mono ?_)
                rintro e w6 hp
                obtain ⟨rfl, hb⟩ := b_parts HW.out hp
                have B6 := Lib.hid ((B2.out.trans (D5.out.mono B2.out.size)).trans (hb.mono (B2.out.trans (D5.out.mono B2.out.size)).size))
                clear hp hb c0 c1 c2
                go_wp2_with fail
                go_ret
                exact ⟨b, rfl, .inr ⟨HQ.out, HB.out, HW.out, fun y hy hv hn => by rw [HG.out]; exact HF.out y hy hn hv⟩, B6.out⟩
end Go.Proofs.Ytichhbkgebimeaa.bx
