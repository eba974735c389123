/- The specification's decoder. Condition: lengths up to 2^26. -/
import Derived.Test.YtgdmfpahaccamaaVit7
import Derived.Test.YtgdmfpahaccamaaBk
namespace Go.Proofs.Ytgdmfpahaccamaa.vts
open Go.RowKit sl harn bm rng cvm cvs vit

/-- What a decoder hands back. -/
def VitPostS (t : List Int × Int) (w : World) (e : Ending) (w' : World) : Prop :=
  ∃ A m c, e = .returned (.tuple #[.slice A m c, .int .i64 t.2]) ∧ Ow 3 .i64 w' w.heap.size w'.heap.size A m c t.1 ∧ Below w.heap.size w w'
theorem Bk.drewN {E : TypeId} {kd : IntKind} {bo : Nat} {w : World} {n j : Nat} {L : List Int} (h : Bk E kd bo w n j L) (q : Nat) : Bk E kd bo (w.drewN q) n j L := h
theorem Below.drewN {B : Nat} {w w' : World} (h : Below B w w') (q : Nat) : Below B w (w'.drewN q) := ⟨h.os, h.tape, h.output, h.size, h.block⟩
set_option maxRecDepth 100000 in
set_option maxHeartbeats 8000000 in
theorem specVit (zs : List Int) (lo hi : Nat) (A : Option Addr) (n cap : Nat) (w : World) (h : Rd .i64 w lo hi A n cap zs) :
    Calls Try.prog 28 #[.slice A n cap] w (VitPostS (vit zs) w) := by
  obtain ⟨i0, hi0, hz0, hz1, hz2⟩ := info_parts intInfo
  have HI0 := Lib.hid (And.intro hi0 (And.intro hz0 (And.intro hz1 hz2)))
  have HL := Lib.hid h.len
  have hb := h.cap_
  have HW := Lib.hid (show (Lit.int .i64 (n : Int)).wf = true from WalkArith.wf_i64 (by omega))
  have HR := Lib.hid h
  clear h hi0 hz0 hz1 hz2
  rcases vit_cases zs with ⟨m, hm, hs⟩ | hno
  · have hm2 := inl_nat hm
    have HV := Lib.hid (vit_yes hm hs)
    have HZ := Lib.hid hm2.1
    have HM := Lib.hid (show inl n = m by rw [← HL.out]; exact hm)
    have HS := Lib.hid hs
    have hm3 := hm2.2
    have HNM := Lib.hid (show n = 2 * (m + 2) by rw [← HL.out]; exact hm2.1)
    clear hm hs hm2
    go_enter Try.func28, Try.ntmps28
    go_wp2_with fail
    (with_reducible refine (specInl _ HW.out _).mono ?_)
    rw [HM.out]
    rintro e w1 ⟨rfl, rfl⟩
    go_wp2_with fail
    (with_reducible refine (bits.specIss zs _ _ A n cap _ HR.out).mono ?_)
    rw [HS.out]
    rintro e w1 ⟨rfl, rfl⟩
    go_wp2_with fail
    (with_reducible refine (costs7 zs m hm3 _ _ A n cap HNM.out _ HR.out).mono ?_)
    rintro e w1 ⟨v, rfl, hC, hB⟩
    obtain ⟨g, cp, rfl⟩ := hC.form
    have C1 := Lib.hid hC
    have B1 := Lib.hid hB
    clear hC hB
    have hmk := fun W => run_make1 (P := Try.prog) 24 3 i0 _ Try.underlying24 HI0.out.1 HI0.out.2.1 HI0.out.2.2.1 m (by rw [HI0.out.2.2.2]; omega) (by omega) W
    have K0 := Lib.hid (Bk.start 3 .i64 w1 m (j := m + 2) (by omega) (path zs (m + 2) 0) #[.int .i64 0])
    have B0 := Lib.hid ((Below.refl w1.heap.size w1).alloc (Nat.le_refl _) (.cells (madeCells #[.int .i64 0] m) 3))
    go_wp2_with fail
    clear hmk
    go_loopw [7, 8] (fun st i wr => ∃ i' t : Int, st = .int .i64 t ∧ i = .int .i64 i' ∧ (-1 ≤ i' ∧ i' ≤ m + 1) ∧ On zs (m + 2) (i' + 1).toNat t ∧ Bk 3 .i64 w1.heap.size wr m (i' + 1).toNat (path zs (m + 2) 0) ∧ Below w1.heap.size w1 wr) (fun _ i _ => (intOf i + 1).toNat)
    case atStart =>
      have e : ((m : Int) + 1 + 1).toNat = m + 2 := by omega
      exact ⟨(m : Int) + 1, 0, rfl, by go_num, by omega, by rw [e]; exact On.start HZ.out, by rw [e]; exact K0.out, B0.out⟩
    case round =>
      clear K0 B0
      obtain ⟨w2, rfl⟩ : ∃ w2, w2 = wr := ⟨wr, rfl⟩
      obtain ⟨i', t, rfl, rfl, hi', hon, hbk, hbl⟩ := hrel
      by_cases hge : 0 ≤ i'
      · obtain ⟨j, rfl⟩ := Int.eq_ofNat_of_zero_le hge
        have ej : ((j : Int) + 1).toNat = j + 1 := by omega
        rw [ej] at hon hbk
        have ht := hon.1.1
        obtain ⟨t, rfl⟩ := Int.eq_ofNat_of_zero_le ht.1
        have ht4 : t < 4 := by omega
        have ht5 : (t : Int) < 4 := by omega
        obtain ⟨s1, s2, s3, s4⟩ := hon.spec HZ.out
        obtain ⟨hnx, hbit⟩ := hon.next
        have K2 := Lib.hid hbk
        have B2 := Lib.hid hbl
        obtain ⟨j1, hj1⟩ : ∃ j1 : Nat, j + 1 = j1 := ⟨_, rfl⟩
        obtain ⟨r, hr⟩ : ∃ r : Nat, 2 * j = r := ⟨_, rfl⟩
        obtain ⟨r1, hr1⟩ : ∃ r1 : Nat, r + 1 = r1 := ⟨_, rfl⟩
        have CW := C1.out.below B2.out (Nat.le_refl _)
        obtain ⟨ba, ha1, ha2, _⟩ := CW.at_ (i := j) (by omega)
        obtain ⟨bc, hc1, hc2, _⟩ := CW.at_ (i := j1) (by omega)
        have hct := hc2.cell ht4
        have RA := Lib.hid ha2
        obtain ⟨ab, off, rfl, _, _, hx0⟩ := (HR.out.below (B1.out.trans (B2.out.mono B1.out.size))).at_ (i := r) (by rw [HNM.out]; omega)
        obtain ⟨ab', off', e, _, _, hy0⟩ := (HR.out.below (B1.out.trans (B2.out.mono B1.out.size))).at_ (i := r1) (by rw [HNM.out]; omega)
        injection e with e; injection e with e1 e2 e3
        subst e1 e2
        obtain ⟨x, hx⟩ : ∃ x, zs.getD r 0 = x := ⟨_, rfl⟩
        obtain ⟨y, hy⟩ : ∃ y, zs.getD r1 0 = y := ⟨_, rfl⟩
        rw [hx] at hx0
        rw [hy] at hy0
        obtain ⟨C, hCC⟩ : ∃ C, scost zs m j1 t = C := ⟨_, rfl⟩
        obtain ⟨p, hp⟩ : ∃ p, pre zs j t = p := ⟨_, rfl⟩
        obtain ⟨v, hv⟩ : ∃ v, (t : Int) % 2 = v := ⟨_, rfl⟩
        rw [hr, hr1, hx, hy, hj1, hCC] at s1
        rw [hj1, hCC] at s2
        rw [hr, hr1, hx, hy, hp] at s3
        rw [hCC] at hct
        rw [hv] at hbit
        rw [hp] at hnx
        have ON := Lib.hid hnx
        have HBIT := Lib.hid hbit
        have HQB := Lib.hid (show ∀ (free : Bool), (free = true ∨ (t : Int) % 2 = 0) → ∀ (q : Nat), Calls Try.prog 53 #[.slice (some ⟨ba, 0, none⟩) 4 4, .int .i64 C, .int .i64 t, .bool free, .int .i64 x, .int .i64 y] (w2.drewN q) fun e w' => e = .returned (.tuple #[.int .i64 p, .int .i64 v]) ∧ ∃ l, w' = (w2.drewN q).drewN l from fun free hf q =>
          (back7 (scost zs m j) ba t C x y free ht s1 s2 hf (fun u => by have := scost_in zs m j u; omega) (w2.drewN q) RA.out).mono fun e w' ⟨h1, h2⟩ => ⟨by rw [h1, s3, hv], h2⟩)
        have S4 := Lib.hid s4
        have hi1 : (r : Int) < n := by rw [HNM.out]; omega
        have hi2 : (r1 : Int) < n := by rw [HNM.out]; omega
        have hi3 : (j : Int) < (m : Int) + 2 + 1 := by omega
        have hi4 : (j1 : Int) < (m : Int) + 2 + 1 := by omega
        have w1' : IntKind.i64.wrap (r : Int) = r := IntWalk.i64_in _ (by omega)
        have w2' : IntKind.i64.wrap (r1 : Int) = r1 := IntWalk.i64_in _ (by omega)
        have w3' : 2 * (j : Int) = r := by omega
        have w4' : (r : Int) + 1 = r1 := by omega
        have w5' : (j : Int) + 1 = j1 := by omega
        have w6' : IntKind.i64.wrap (j1 : Int) = j1 := IntWalk.i64_in _ (by omega)
        clear hx hy e3 hr hr1 hCC hp hv s1 s2 s3 s4 hon hbk hbl ha2 hc2 CW hnx hbit hj1 ej
        by_cases hjm : j < m
        · have hjm2 : (j : Int) < m := by omega
          have HQ := Lib.hid (HQB.out true (Or.inl rfl))
          go_wp2_with fail
          go_quiet ((go_at_call 53; exact Calls.quiet_of (HQ.out _)))
          obtain ⟨v0, hv0⟩ := (Bk.drewN K2.out nq).cell hjm
          have hfr := (Bk.drewN K2.out nq).free j
          have KN := Lib.hid ((Bk.drewN K2.out nq).step hjm HBIT.out)
          have BN := Lib.hid ((Below.drewN B2.out nq).setCell (p := ⟨w1.heap.size, j, none⟩) (Nat.le_refl _) (.int .i64 v))
          have ej : ((j : Int) - 1 + 1).toNat = j := by omega
          have ON2 := Lib.hid (show On zs (m + 2) ((j : Int) - 1 + 1).toNat p by rw [ej]; exact ON.out)
          have KN2 := Lib.hid (show Bk 3 .i64 w1.heap.size _ m ((j : Int) - 1 + 1).toNat (path zs (m + 2) 0) by rw [ej]; exact KN.out)
          clear w1' w2' w3' w4' w5' w6' hx0 hy0 ha1 hc1 hct KN K2 B2 ej
          go_wp2_with fail
          go_roundw
          case rel => exact ⟨(j : Int) - 1, p, rfl, rfl, by omega, ON2.out, KN2.out, BN.out⟩
          case measure => simp [intOf]
        · have hjm2 : ¬ (j : Int) < m := by omega
          have HQ := Lib.hid (HQB.out false (Or.inr (by rcases S4.out with h | h; exact absurd h hjm; exact h)))
          go_wp2_with fail
          go_quiet ((go_at_call 53; exact Calls.quiet_of (HQ.out _)))
          have KN := Lib.hid ((Bk.drewN K2.out nq).skip (by omega))
          have BN := Lib.hid (Below.drewN B2.out nq)
          have ej : ((j : Int) - 1 + 1).toNat = j := by omega
          have ON2 := Lib.hid (show On zs (m + 2) ((j : Int) - 1 + 1).toNat p by rw [ej]; exact ON.out)
          have KN2 := Lib.hid (show Bk 3 .i64 w1.heap.size _ m ((j : Int) - 1 + 1).toNat (path zs (m + 2) 0) by rw [ej]; exact KN.out)
          clear w1' w2' w3' w4' w5' w6' hx0 hy0 ha1 hc1 hct KN K2 B2 ej
          go_wp2_with fail
          go_roundw
          case rel => exact ⟨(j : Int) - 1, p, rfl, rfl, by omega, ON2.out, KN2.out, BN.out⟩
          case measure => simp [intOf]
      · obtain rfl : i' = -1 := by omega
        obtain ⟨e0, he0⟩ : ∃ e0 : Nat, m + 2 = e0 := ⟨_, rfl⟩
        have CW := C1.out.below hbl (Nat.le_refl _)
        obtain ⟨ba, ha1, ha2, _⟩ := CW.at_ (i := e0) (by omega)
        have hc0 := ha2.cell (s := 0) (by omega)
        rw [← he0, show ((0 : Nat) : Int) = 0 from rfl, scost_end] at hc0
        obtain ⟨c, hcc⟩ : ∃ c, cost zs (m + 2) 0 = c := ⟨_, rfl⟩
        rw [hcc] at hc0 HV
        have K2 := Lib.hid (show Bk 3 .i64 w1.heap.size w2 m 0 (path zs (m + 2) 0) from hbk)
        have B2 := Lib.hid hbl
        have w1' : (m : Int) + 2 = e0 := by omega
        have w2' : IntKind.i64.wrap (e0 : Int) = e0 := IntWalk.i64_in _ (by omega)
        have hi3 : (e0 : Int) < (m : Int) + 2 + 1 := by omega
        have hi4 : (e0 : Int) < (e0 : Int) + 1 := by omega
        clear hcc he0 hon hbk hbl CW ha2
        go_wp2_with fail
        go_quiet (fail)
        clear w1' w2' hi3 hi4 ha1 hc0
        go_wp2_with fail
        go_ret2
        rw [HV.out]
        exact ⟨_, m, m, rfl, (Bk.drewN K2.out nq).done (dec_len zs m) (fun i hi => dec_at zs hi) (Wf.of_i64 fun z hz => by have := isb_all (dec_bit HZ.out) z hz; omega) (by unfold maxLen; omega) B1.out.size, B1.out.trans ((Below.drewN B2.out nq).mono B1.out.size)⟩
  · have HV := Lib.hid (vit_no hno)
    by_cases h0 : inl zs.length < 0
    · have HI := Lib.hid (show inl n = -1 by rw [← HL.out]; have := inl_in zs.length; omega)
      clear hno h0
      go_enter Try.func28, Try.ntmps28
      go_wp2_with fail
      (with_reducible refine (specInl _ HW.out _).mono ?_)
      rw [HI.out]
      rintro e w1 ⟨rfl, rfl⟩
      go_wp2_with fail
      go_ret2
      rw [HV.out]
      exact ⟨_, _, _, rfl, (Ow.empty _ _ _).up, (Below.refl _ _).alloc (Nat.le_refl _) _⟩
    · have hs : inr zs 0 2 = false := by
        cases h : inr zs 0 2
        · rfl
        · exact absurd ⟨by omega, h⟩ hno
      have HS := Lib.hid hs
      obtain ⟨m, hm⟩ := Int.eq_ofNat_of_zero_le (show 0 ≤ inl zs.length by omega)
      have HI := Lib.hid (show inl n = m by rw [← HL.out]; exact hm)
      have hm2 := (inl_nat hm).2
      clear hno h0 hs hm
      go_enter Try.func28, Try.ntmps28
      go_wp2_with fail
      (with_reducible refine (specInl _ HW.out _).mono ?_)
      rw [HI.out]
      rintro e w1 ⟨rfl, rfl⟩
      go_wp2_with fail
      (with_reducible refine (bits.specIss zs _ _ A n cap _ HR.out).mono ?_)
      rw [HS.out]
      rintro e w1 ⟨rfl, rfl⟩
      go_wp2_with fail
      go_ret2
      rw [HV.out]
      exact ⟨_, _, _, rfl, (Ow.empty _ _ _).up, (Below.refl _ _).alloc (Nat.le_refl _) _⟩
end Go.Proofs.Ytgdmfpahaccamaa.vts
