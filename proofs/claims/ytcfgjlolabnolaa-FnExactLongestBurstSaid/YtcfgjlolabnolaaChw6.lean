/- IsValidPattern, the specification. Condition: lengths up to 2^26. -/
import Derived.Test.YtcfgjlolabnolaaChw5
namespace Go.Proofs.Ytcfgjlolabnolaa.chw
open Go.RowKit sl harn rng chm own
set_option linter.unusedVariables false

/-- The specification draws, and does no more. -/
def VpPost (zs : List Int) (c : Int) (w : World) (e : Ending) (w' : World) : Prop := e = .returned (.bool (vpat zs c)) ∧ ∃ m, w' = w.drewN m
theorem VpPost.below {zs : List Int} {c : Int} {w w' : World} {e : Ending} (h : VpPost zs c w e w') : e = .returned (.bool (vpat zs c)) ∧ Below w.heap.size w w' := by
  obtain ⟨h1, m, rfl⟩ := h
  exact ⟨h1, below_drewN (Below.refl _ _)⟩
theorem drewN_add (w : World) (a b : Nat) : (w.drewN a).drewN b = w.drewN (a + b) := by
  induction b with
  | zero => rfl
  | succ b ih => show ((w.drewN a).drewN b).drew = _; rw [ih]; rfl
set_option maxRecDepth 100000 in
set_option maxHeartbeats 4000000 in
theorem specVp (zs : List Int) (c : Int) (lo hi : Nat) (A : Option Addr) (n cap : Nat) (w : World) (h : Rd .i64 w lo hi A n cap zs) (hn : n ≤ 67108864) :
    Calls Try.prog 30 #[.slice A n cap, .int .i64 c] w fun e w' => e = .returned (.bool (vpat zs (top c))) ∧ Below w.heap.size w w' := by
  have hb := h.cap_
  have HL := Lib.hid h.len
  have HR := Lib.hid h
  obtain ⟨c1, hc1⟩ : ∃ c1, top c = c1 := ⟨_, rfl⟩
  have hc : wrap64 (c - 1) = c1 := hc1
  have hc2 : IntKind.i64.wrap (c - 1) = c1 := by rw [IntKind.wrap_i64]; unfold wrap64 at hc; exact hc
  rw [hc1]
  have hc3 : IntKind.i64.wrap c1 = c1 := IntWalk.i64_in _ (by unfold wrap64 at hc; omega)
  clear h hc1
  go_enter Try.func30, Try.ntmps30
  go_wp2_with fail
  go_loopw [5] (fun i wr => ∃ k : Nat, i = .int .i64 k ∧ k ≤ n ∧ inn zs c1 k ∧ (∀ j, j + 1 < k → zs.getD j 0 < zs.getD (j + 1) 0) ∧ Below w.heap.size w wr) (fun i _ => n - (intOf i).toNat)
  case atStart => exact ⟨0, rfl, by omega, fun j hj => by omega, fun j hj => by omega, Below.refl _ _⟩
  case round =>
    obtain ⟨k, rfl, hk, hi', hg, hb'⟩ := hrel
    have HB := Lib.hid hb'
    have HI := Lib.hid hi'
    have HG := Lib.hid hg
    clear hb' hi' hg
    by_cases hlt : k < n
    · have hlt2 : (k : Int) < n := by omega
      have HKn := Lib.hid hlt
      obtain ⟨b1, f1, rfl, g1, g2, d1⟩ := (HR.out.below HB.out).at_ hlt
      obtain ⟨v, hv⟩ : ∃ v, zs.getD k 0 = v := ⟨_, rfl⟩
      have HV := Lib.hid hv
      rw [hv] at d1
      clear g1 g2 hv
      by_cases hin : 0 ≤ v ∧ v ≤ c1
      · have HX1 := Lib.hid hin
        have HN := Lib.hid (inn_more HI.out HV.out hin)
        have HQ := Lib.hid (fun W => (l1In_yes v 0 c1 HX1.out W).mono (fun _ _ ⟨q1, q2⟩ => ⟨q1, q2.symm⟩) : ∀ W, Calls Try.prog 44 #[.int .i64 v, .int .i64 0, .int .i64 c1] W fun e w' => e = .returned (.bool true) ∧ w' = W)
        clear hin
        rcases Nat.eq_zero_or_pos k with h0 | h0
        · have hgt : decide ((0 : Int) < k) = false := decide_eq_false (by omega)
          have hgt2 : decide (0 < k) = false := decide_eq_false (by omega)
          have H0 := Lib.hid h0
          clear h0
          go_wp2_with fail
          go_quiet ((go_at_call 44; exact Calls.quiet_of_same (HQ.out _)))
          clear d1 hgt
          go_wp2_with fail
          go_roundw
          case rel => exact ⟨k + 1, by go_num, by omega, HN.out, fun j hj => by have := H0.out; omega, below_drewN HB.out⟩
          case measure => simp [intOf]; omega
        · obtain ⟨k0, hk0⟩ : ∃ k0, k0 + 1 = k := ⟨k - 1, by omega⟩
          have hk3 : (k : Int) - 1 = k0 := by omega
          have hk4 : IntKind.i64.wrap (k0 : Int) = k0 := IntWalk.i64_in _ (by omega)
          have hk5 : (k0 : Int) < n := by omega
          have hgt : decide ((0 : Int) < k) = true := decide_eq_true (by omega)
          obtain ⟨b2, f2, e2, g3, g4, d2⟩ := (HR.out.below HB.out).at_ (show k0 < n by omega)
          injection e2 with e2
          injection e2 with e3 e4 _
          subst e3 e4
          obtain ⟨u, hu⟩ : ∃ u, zs.getD k0 0 = u := ⟨_, rfl⟩
          have HU := Lib.hid hu
          have HK0 := Lib.hid hk0
          rw [hu] at d2
          by_cases hle : v ≤ u
          · have HM := Lib.hid (vpat_no (c := c1) (vp_asc (asc_not HK0.out (by rw [HL.out]; exact HKn.out) HU.out HV.out hle)))
            have hvy : decide (v ≤ u) = true := decide_eq_true hle
            clear g3 g4 hu hk0 hle
            go_wp2_with fail
            go_quiet ((go_at_call 44; exact Calls.quiet_of_same (HQ.out _)))
            clear d1 d2 hvy hk4 hk3 hgt
            go_wp2_with fail
            go_ret
            rw [HM.out]
            exact ⟨rfl, below_drewN HB.out⟩
          · have HM := Lib.hid (asc_more HG.out HK0.out HU.out HV.out (by omega))
            have hvy : decide (v ≤ u) = false := decide_eq_false hle
            clear g3 g4 hu hk0 hle HG
            go_wp2_with fail
            go_quiet ((go_at_call 44; exact Calls.quiet_of_same (HQ.out _)))
            clear d1 d2 hvy hk4 hk3 hgt
            go_wp2_with fail
            go_roundw
            case rel => exact ⟨k + 1, by go_num, by omega, HN.out, HM.out, below_drewN HB.out⟩
            case measure => simp [intOf]; omega
      · have HX1 := Lib.hid hin
        have HM := Lib.hid (vpat_no (vp_range (by rw [HL.out]; exact HKn.out) HV.out hin))
        have HQ := Lib.hid (fun W => (l1In_no v 0 c1 HX1.out W).mono (fun _ _ ⟨q1, q2⟩ => ⟨q1, q2.symm⟩) : ∀ W, Calls Try.prog 44 #[.int .i64 v, .int .i64 0, .int .i64 c1] W fun e w' => e = .returned (.bool false) ∧ w' = W)
        clear hin
        go_wp2_with fail
        go_quiet ((go_at_call 44; exact Calls.quiet_of_same (HQ.out _)))
        clear d1
        go_wp2_with fail
        go_ret
        rw [HM.out]
        exact ⟨rfl, below_drewN HB.out⟩
    · have hlt2 : ¬ (k : Int) < n := by omega
      obtain rfl : k = n := by omega
      have HM := Lib.hid (vpat_yes (vp_of HL.out (fun i hi => HG.out i (by have := HL.out; omega)) HI.out))
      go_wp2_with fail
      go_ret
      rw [HM.out]
      exact ⟨rfl, HB.out⟩
end Go.Proofs.Ytcfgjlolabnolaa.chw
