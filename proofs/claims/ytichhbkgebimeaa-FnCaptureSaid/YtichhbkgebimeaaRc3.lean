/- The nearest of several by a closure, and the outcome of reception: the program's functions. Condition: none. -/
import Derived.Test.YtichhbkgebimeaaRc2
namespace Go.Proofs.Ytichhbkgebimeaa.bx
open Go.RowKit sl harn rng plm rfm
set_option linter.unusedVariables false

def FstPost (d : Int → Int) (m : List Int) (w : World) (e : Ending) (w' : World) : Prop := ∃ x : Int, e = .returned (.int .i64 x) ∧ Fst d m m.length x ∧ Below w.heap.size w w'
theorem cmp3_lt {x y c : Int} (h : cmp3 x y = c) (hl : x < y) : c < 0 := by rw [← h]; unfold cmp3; rw [if_pos hl]; omega
theorem cmp3_ge {x y c : Int} (h : cmp3 x y = c) (hl : ¬ x < y) : ¬ c < 0 := by rw [← h]; unfold cmp3; rw [if_neg hl]; split <;> omega
set_option maxRecDepth 100000 in
set_option maxHeartbeats 4000000 in
theorem minF (A : Option Addr) (n cap : Nat) (r s : Int) (z : List Int) (q : Int) (b1 b2 : Nat) (A2 : Option Addr) (n2 cap2 : Nat) (l : List Int) (lo hi lo2 hi2 : Nat) (w : World) (h : Rd .i64 w lo hi A n cap z) (hX : Bx 26 w b1 #[.slice A n cap, .int .i64 r, .int .i64 s]) (hQ : Bx 3 w b2 #[.int .i64 q]) (h2 : Rd .i64 w lo2 hi2 A2 n2 cap2 l) (h0 : 0 < n2) :
    Calls Try.prog 61 #[.slice A2 n2 cap2, .func (.func 62) #[] #[.pointer (some ⟨b1, 0, none⟩), .pointer (some ⟨b2, 0, none⟩)]] w (FstPost (fun y => dst z y q) l w) := by
  have hc := h2.cap_
  have HR := Lib.hid h
  have HS := Lib.hid h2
  have HX := Lib.hid hX
  have HQ := Lib.hid hQ
  have HM := Lib.hid h2.len
  obtain ⟨b, off, rfl, _, _, hcl⟩ := h2.at_ h0
  obtain ⟨x0, hx0⟩ : ∃ x, l.getD 0 0 = x := ⟨_, rfl⟩
  rw [hx0, Nat.add_zero] at hcl
  have HX0 := Lib.hid hx0
  have h1 : ¬ (n2 : Int) < 1 := by omega
  have h3 : (0 : Int) < n2 := by omega
  clear h h2 hX hQ hx0
  go_enter Try.func61, Try.ntmps61
  go_wp2_with fail
  go_loopw [5, 6] (fun v i wr => ∃ (k : Nat) (x : Int), v = .int .i64 x ∧ i = .int .i64 k ∧ 1 ≤ k ∧ k ≤ n2 ∧ Fst (fun y => dst z y q) l k x ∧ Below w.heap.size w wr) (fun _ i _ => n2 - (intOf i).toNat)
  case atStart => exact ⟨1, x0, rfl, rfl, by omega, by omega, by rw [← HX0.out]; exact Fst.start _ _, Below.refl _ _⟩
  case round =>
    clear hcl h1 h3
    obtain ⟨k, x, rfl, rfl, hk1, hk, hf, hb0⟩ := hrel
    have HF := Lib.hid hf
    have HB := Lib.hid hb0
    have HR1 := Lib.hid (HR.out.below hb0)
    have HX1 := Lib.hid (HX.out.below hb0)
    have HQ1 := Lib.hid (HQ.out.below hb0)
    clear hf hb0
    by_cases hlt : k < n2
    · have hlt2 : (k : Int) < n2 := by omega
      obtain ⟨b', off', e1, _, _, hcl⟩ := (HS.out.below HB.out).at_ hlt
      obtain ⟨rfl, rfl⟩ : b = b' ∧ off = off' := by simpa using e1
      obtain ⟨y, hy⟩ : ∃ y, l.getD k 0 = y := ⟨_, rfl⟩
      rw [hy] at hcl
      have HY := Lib.hid hy
      obtain ⟨c, hc3⟩ : ∃ c, cmp3 (dst z y q) (dst z x q) = c := ⟨_, rfl⟩
      have HC := Lib.hid hc3
      clear hy e1 hc3
      by_cases hd : dst z y q < dst z x q
      · have hneg : c < 0 := cmp3_lt HC.out hd
        have HN := Lib.hid (HF.out.take HY.out hd)
        clear hd
        go_wp2_with fail
        (with_reducible refine (cmpFn A n cap r s z q b1 b2 y x _ _ _ HR1.out HX1.out HQ1.out).mono ?_)
        rintro e w2 hp
        obtain ⟨rfl, hb⟩ := n_parts HC.out hp
        have HB2 := Lib.hid (HB.out.trans (hb.mono HB.out.size))
        have hcl2 : w2.cell? ⟨b, off + k, none⟩ = some (.int .i64 y) := by rw [hb.cell (block_lt_of_cell hcl)]; exact hcl
        clear hp hb hcl
        go_wp2_with fail
        go_roundw
        case rel => exact ⟨k + 1, y, rfl, by go_num, by omega, by omega, HN.out, HB2.out⟩
        case measure => simp [intOf]; omega
      · have hneg : ¬ c < 0 := cmp3_ge HC.out hd
        have HN := Lib.hid (HF.out.keep HY.out hd)
        clear hd
        go_wp2_with fail
        (with_reducible refine (cmpFn A n cap r s z q b1 b2 y x _ _ _ HR1.out HX1.out HQ1.out).mono ?_)
        rintro e w2 hp
        obtain ⟨rfl, hb⟩ := n_parts HC.out hp
        have HB2 := Lib.hid (HB.out.trans (hb.mono HB.out.size))
        clear hp hb hcl
        go_wp2_with fail
        go_roundw
        case rel => exact ⟨k + 1, x, rfl, by go_num, by omega, by omega, HN.out, HB2.out⟩
        case measure => simp [intOf]; omega
    · have hlt2 : ¬ (k : Int) < n2 := by omega
      obtain rfl : k = n2 := by omega
      go_wp2_with fail
      go_ret
      exact ⟨x, rfl, by rw [HM.out]; exact HF.out, HB.out⟩
/-- The nearest of these, and what becomes of its transmission. -/
def Rcp (z : List Int) (r q : Int) (m : List Int) (x c : Int) : Prop :=
  (m = [] ∧ c = 0) ∨ (Fst (fun y => dst z y q) m m.length x ∧ ((win z r x q = false ∧ c = 1) ∨ (win z r x q = true ∧ (∃ y ∈ m, y ≠ x ∧ dis (dst z y q) (dst z x q) = true) ∧ c = 2) ∨ (win z r x q = true ∧ (∀ y ∈ m, y ≠ x → dis (dst z y q) (dst z x q) = false) ∧ c = 3)))
def RcPost (z : List Int) (r q : Int) (m : List Int) (w : World) (e : Ending) (w' : World) : Prop := ∃ x c : Int, e = .returned (.tuple #[.int .i64 x, .int .i64 c]) ∧ Rcp z r q m x c ∧ Below w.heap.size w w'
theorem calm_next {l : List Int} {k : Nat} {x y : Int} {f : Int → Bool} (h : ∀ j, j < k → l.getD j 0 ≠ x → f (l.getD j 0) = false) (hy : l.getD k 0 = y) (hn : y ≠ x → f y = false) : ∀ j, j < k + 1 → l.getD j 0 ≠ x → f (l.getD j 0) = false := fun j hj => by
  rcases Nat.lt_or_ge j k with h1 | h1
  · exact h j h1
  · obtain rfl : j = k := by omega
    rw [hy]; exact hn
set_option maxRecDepth 100000 in
set_option maxHeartbeats 4000000 in
theorem implRc (A : Option Addr) (n cap : Nat) (r s : Int) (z : List Int) (A2 : Option Addr) (n2 cap2 : Nat) (l : List Int) (q : Int) (lo hi lo2 hi2 : Nat) (w : World) (h : Rd .i64 w lo hi A n cap z) (h2 : Rd .i64 w lo2 hi2 A2 n2 cap2 l) :
    Calls Try.prog 50 #[.agg #[.slice A n cap, .int .i64 r, .int .i64 s], .slice A2 n2 cap2, .int .i64 q] w (RcPost z r q l w) := by
  have hc := h2.cap_
  have HR := Lib.hid h
  have HS := Lib.hid h2
  have HM := Lib.hid h2.len
  clear h h2
  rcases Nat.eq_zero_or_pos n2 with h0 | h0
  · subst h0
    go_enter Try.func50, Try.ntmps50
    go_wp2_with fail
    go_ret2
    exact ⟨_, _, rfl, .inl ⟨List.eq_nil_of_length_eq_zero HM.out, rfl⟩, below_box2 _ _ _⟩
  · have h01 : ((n2 : Int) == 0) = false := by simp; omega
    have H0 := Lib.hid h0
    clear h0
    go_enter Try.func50, Try.ntmps50
    go_wp2_with fail
    obtain ⟨w0, hW⟩ : ∃ w0, (w.alloc (.cells #[.slice A n cap, .int .i64 r, .int .i64 s] 26)).alloc (.cells #[.int .i64 q] 3) = w0 := ⟨_, rfl⟩
    rw [hW]
    have B0 := Lib.hid (show Below w.heap.size w w0 by rw [← hW]; exact below_box2 _ _ _)
    have X0 := Lib.hid (show Bx 26 w0 w.heap.size #[.slice A n cap, .int .i64 r, .int .i64 s] by rw [← hW]; exact (Bx.made _ _ _).below (below_box _ _))
    have Q0 := Lib.hid (show Bx 3 w0 (w.heap.size + 1) #[.int .i64 q] by rw [← hW]; have hh := Bx.made 3 (w.alloc (.cells #[.slice A n cap, .int .i64 r, .int .i64 s] 26)) #[.int .i64 q]; simpa using hh)
    have R0 := Lib.hid (HR.out.below B0.out)
    have S0 := Lib.hid (HS.out.below B0.out)
    clear hW HR HS
    (with_reducible refine (minF A n cap r s z q w.heap.size (w.heap.size + 1) A2 n2 cap2 l _ _ _ _ _ R0.out X0.out Q0.out S0.out H0.out).mono ?_)
    rintro e w1 ⟨x, rfl, hf, hb⟩
    have HF := Lib.hid hf
    have B1 := Lib.hid (B0.out.trans (hb.mono B0.out.size))
    have X1 := Lib.hid (X0.out.below hb)
    have Q1 := Lib.hid (Q0.out.below hb)
    have R1 := Lib.hid (R0.out.below hb)
    have S1 := Lib.hid (S0.out.below hb)
    clear hf hb B0 X0 Q0 R0 S0
    have c0 : w1.cell? ⟨w.heap.size, 0, none⟩ = some (.slice A n cap) := X1.out.cell 0
    have c1 : w1.cell? ⟨w.heap.size, 1, none⟩ = some (.int .i64 r) := X1.out.cell 1
    have c2 : w1.cell? ⟨w.heap.size, 2, none⟩ = some (.int .i64 s) := X1.out.cell 2
    have c3 : w1.cell? ⟨w.heap.size + 1, 0, none⟩ = some (.int .i64 q) := Q1.out.cell 0
    go_wp2_with fail
    by_cases hw : win z r x q = true
    · have HV := Lib.hid hw
      clear hw
      (with_reducible refine (implCr A n cap r s z x q _ _ _ R1.out).mono ?_)
      rintro e w2 hp
      obtain ⟨rfl, hb⟩ := b_parts HV.out hp
      have B2 := Lib.hid (B1.out.trans (hb.mono B1.out.size))
      have X2 := Lib.hid (X1.out.below hb)
      have Q2 := Lib.hid (Q1.out.below hb)
      have R2 := Lib.hid (R1.out.below hb)
      have S2 := Lib.hid (S1.out.below hb)
      clear hp hb B1 X1 Q1 R1 S1 c0 c1 c2 c3
      go_wp2_with fail
      go_loopw [25] (fun i wr => ∃ k : Nat, i = .int .i64 k ∧ k ≤ n2 ∧ (∀ j, j < k → l.getD j 0 ≠ x → dis (dst z (l.getD j 0) q) (dst z x q) = false) ∧ Below w2.heap.size w2 wr) (fun i _ => n2 - (intOf i).toNat)
      case atStart => exact ⟨0, rfl, by omega, fun j h => absurd h (by omega), Below.refl _ _⟩
      case round =>
        obtain ⟨k, rfl, hk, hall, hb0⟩ := hrel
        have HA := Lib.hid hall
        have HB := Lib.hid hb0
        have X3 := Lib.hid (X2.out.below hb0)
        have Q3 := Lib.hid (Q2.out.below hb0)
        have R3 := Lib.hid (R2.out.below hb0)
        clear hall hb0
        by_cases hlt : k < n2
        · have hlt2 : (k : Int) < n2 := by omega
          have HK := Lib.hid (show k < l.length by rw [HM.out]; exact hlt)
          obtain ⟨b, off, rfl, _, _, hcl⟩ := (S2.out.below HB.out).at_ hlt
          obtain ⟨y, hy⟩ : ∃ y, l.getD k 0 = y := ⟨_, rfl⟩
          rw [hy] at hcl
          have HY := Lib.hid hy
          clear hy
          by_cases hyx : y = x
          · have HN := Lib.hid (calm_next (x := x) (f := fun y => dis (dst z y q) (dst z x q)) HA.out HY.out fun h => absurd hyx h)
            have hn1 : (y != x) = false := by simp [hyx]
            clear hyx
            go_wp2_with fail
            clear hcl
            refine region_after (by kernel_rfl) (by kernel_rfl) ?_
            repeat (go_big_quiet_step (fail))
            refine wpQuiet_nil ?_
            intro _ hw'
            obtain ⟨nq, hw''⟩ := hw'
            subst hw''
            go_wp2_with fail
            go_roundw
            case rel => exact ⟨k + 1, by go_num, by omega, HN.out, Af.on HB.out nq⟩
            case measure => simp [intOf]; omega
          · obtain ⟨d, hd⟩ : ∃ d, dst z y q = d := ⟨_, rfl⟩
            obtain ⟨g, hg⟩ : ∃ g, dst z x q = g := ⟨_, rfl⟩
            have HD := Lib.hid hd
            have HG := Lib.hid hg
            have hn1 : (y != x) = true := by simpa using hyx
            have HYX := Lib.hid hyx
            have c0 : ∀ m : Af wr, m.w.cell? ⟨w.heap.size, 0, none⟩ = some (.slice A n cap) := fun m => (Af.cells X3.out m).cell 0
            have c1 : ∀ m : Af wr, m.w.cell? ⟨w.heap.size, 1, none⟩ = some (.int .i64 r) := fun m => (Af.cells X3.out m).cell 1
            have c2 : ∀ m : Af wr, m.w.cell? ⟨w.heap.size, 2, none⟩ = some (.int .i64 s) := fun m => (Af.cells X3.out m).cell 2
            have c3 : ∀ m : Af wr, m.w.cell? ⟨w.heap.size + 1, 0, none⟩ = some (.int .i64 q) := fun m => (Af.cells Q3.out m).cell 0
            have k0 := Lib.hid (fun m => by have hh := implDst A n cap r s z y q _ _ _ (Af.rd R3.out m); rw [HD.out] at hh; exact hh : ∀ m : Af wr, Calls Try.prog 15 #[.agg #[.slice A n cap, .int .i64 r, .int .i64 s], .int .i64 y, .int .i64 q] m.w fun e w' => e = .returned (.int .i64 d) ∧ Below m.w.heap.size m.w w')
            have k1 := Lib.hid (fun m => by have hh := implDst A n cap r s z x q _ _ _ (Af.rd R3.out m); rw [HG.out] at hh; exact hh : ∀ m : Af wr, Calls Try.prog 15 #[.agg #[.slice A n cap, .int .i64 r, .int .i64 s], .int .i64 x, .int .i64 q] m.w fun e w' => e = .returned (.int .i64 g) ∧ Below m.w.heap.size m.w w')
            clear hd hg hyx
            cases hv : dis d g with
            | true =>
              have HV2 := Lib.hid hv
              have k2 := Lib.hid (fun m => (implDis d g _).mono (fun _ _ ⟨h1, h2⟩ => ⟨by rw [HV2.out] at h1; exact h1, by rw [← h2]; exact Below.refl _ _⟩) : ∀ m : Af wr, Calls Try.prog 64 #[.int .i64 d, .int .i64 g] m.w fun e' w' => e' = .returned (.bool true) ∧ Below m.w.heap.size m.w w')
              have HN := Lib.hid (show ∃ y ∈ l, y ≠ x ∧ dis (dst z y q) (dst z x q) = true from ⟨y, by rw [← HY.out]; exact mem_getD HK.out, HYX.out, by rw [HD.out, HG.out]; exact HV2.out⟩)
              clear hv
              go_wp2_with fail
              refine region_after (by kernel_rfl) (by kernel_rfl) ?_
              repeat (go_big_quiet_step ((first
                | (go_at_call 15; with_reducible exact Af.call (k0.out _))
                | (go_at_call 15; with_reducible exact Af.call (k1.out _))
                | (go_at_call 64; with_reducible exact Af.call (k2.out _)))))
              refine wpQuiet_nil ?_
              intro _ hw'
              obtain ⟨nq, hw''⟩ := hw'
              subst hw''
              clear c0 c1 c2 c3 k0 k1 k2 hcl
              go_wp2_with fail
              go_ret2
              exact ⟨x, 2, rfl, .inr ⟨HF.out, .inr (.inl ⟨HV.out, HN.out, rfl⟩)⟩, B2.out.trans ((Af.on HB.out nq).mono B2.out.size)⟩
            | false =>
              have HV2 := Lib.hid hv
              have k2 := Lib.hid (fun m => (implDis d g _).mono (fun _ _ ⟨h1, h2⟩ => ⟨by rw [HV2.out] at h1; exact h1, by rw [← h2]; exact Below.refl _ _⟩) : ∀ m : Af wr, Calls Try.prog 64 #[.int .i64 d, .int .i64 g] m.w fun e' w' => e' = .returned (.bool false) ∧ Below m.w.heap.size m.w w')
              have HN := Lib.hid (calm_next (x := x) (f := fun y => dis (dst z y q) (dst z x q)) HA.out HY.out fun _ => by show dis (dst z y q) (dst z x q) = false; rw [HD.out, HG.out]; exact HV2.out)
              clear hv
              go_wp2_with fail
              refine region_after (by kernel_rfl) (by kernel_rfl) ?_
              repeat (go_big_quiet_step ((first
                | (go_at_call 15; with_reducible exact Af.call (k0.out _))
                | (go_at_call 15; with_reducible exact Af.call (k1.out _))
                | (go_at_call 64; with_reducible exact Af.call (k2.out _)))))
              refine wpQuiet_nil ?_
              intro _ hw'
              obtain ⟨nq, hw''⟩ := hw'
              subst hw''
              clear c0 c1 c2 c3 k0 k1 k2 hcl
              go_wp2_with fail
              go_roundw
              case rel => exact ⟨k + 1, by go_num, by omega, HN.out, Af.on HB.out nq⟩
              case measure => simp [intOf]; omega
        · have hlt2 : ¬ (k : Int) < n2 := by omega
          obtain rfl : k = n2 := by omega
          go_wp2_with fail
          go_ret2
          refine ⟨x, 3, rfl, .inr ⟨HF.out, .inr (.inr ⟨HV.out, fun y hy hn => ?_, rfl⟩)⟩, B2.out.trans (HB.out.mono B2.out.size)⟩
          obtain ⟨j, hj, rfl⟩ := ex_getD hy
          exact HA.out j (by rw [← HM.out]; exact hj) hn
    · have HV := Lib.hid (show win z r x q = false by simpa using hw)
      clear hw
      (with_reducible refine (implCr A n cap r s z x q _ _ _ R1.out).mono ?_)
      rintro e w2 hp
      obtain ⟨rfl, hb⟩ := b_parts HV.out hp
      have B2 := Lib.hid (B1.out.trans (hb.mono B1.out.size))
      clear hp hb c0 c1 c2 c3
      go_wp2_with fail
      go_ret2
      exact ⟨x, 1, rfl, .inr ⟨HF.out, .inl ⟨HV.out, rfl⟩⟩, B2.out⟩
end Go.Proofs.Ytichhbkgebimeaa.bx
