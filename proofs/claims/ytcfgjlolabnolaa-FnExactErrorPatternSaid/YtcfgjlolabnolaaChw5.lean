/- IsValidPattern, program and specification: promoted methods, a method value that is called for each element. Condition: lengths up to 2^26. -/
import Derived.Test.YtcfgjlolabnolaaChw1
import Derived.BigQuiet
namespace Go.Proofs.Ytcfgjlolabnolaa.chw
open Go.RowKit sl harn rng chm own
set_option linter.unusedVariables false

noncomputable def ascB (l : List Int) : Bool := @decide (Asc l) (Classical.propDecidable _)
theorem ascB_yes {l : List Int} (h : Asc l) : ascB l = true := @decide_eq_true _ (Classical.propDecidable _) h
theorem ascB_no {l : List Int} (h : ¬ Asc l) : ascB l = false := @decide_eq_false _ (Classical.propDecidable _) h
theorem asc_more {l : List Int} {k k0 : Nat} {u v : Int} (h : ∀ j, j + 1 < k → l.getD j 0 < l.getD (j + 1) 0) (e : k0 + 1 = k) (hu : l.getD k0 0 = u) (hv : l.getD k 0 = v) (hlt : u < v) : ∀ j, j + 1 < k + 1 → l.getD j 0 < l.getD (j + 1) 0 := fun j hj => by
  by_cases h1 : j + 1 < k
  · exact h j h1
  · obtain rfl : j = k0 := by omega
    rw [e, hu, hv]; exact hlt
theorem asc_not {l : List Int} {k k0 : Nat} {u v : Int} (e : k0 + 1 = k) (hk : k < l.length) (hu : l.getD k0 0 = u) (hv : l.getD k 0 = v) (hle : v ≤ u) : ¬ Asc l := fun h => by
  have := h k0 (by omega)
  rw [e, hu, hv] at this
  omega
theorem row_wf {zs : List Int} {lo hi : Nat} {A : Option Addr} {n cap : Nat} {w : World} (h : Rd .i64 w lo hi A n cap zs) {i : Nat} (hi' : i < n) : -9223372036854775808 ≤ zs.getD i 0 ∧ zs.getD i 0 ≤ 9223372036854775807 := wf_in (h.wf.getD (by rw [h.len]; exact hi'))

set_option maxRecDepth 100000 in
set_option maxHeartbeats 4000000 in
theorem isAscending (zs : List Int) (lo hi : Nat) (A : Option Addr) (n cap : Nat) (w : World) (h : Rd .i64 w lo hi A n cap zs) (hn : n ≤ 67108864) :
    Calls Try.prog 41 #[.slice A n cap] w fun e w' => e = .returned (.bool (ascB zs)) ∧ Below w.heap.size w w' := by
  have hb := h.cap_
  have HL := Lib.hid h.len
  have HR := Lib.hid h
  clear h
  go_enter Try.func41, Try.ntmps41
  go_wp2_with fail
  go_loopw [3] (fun i wr => ∃ k : Nat, i = .int .i64 k ∧ 1 ≤ k ∧ k ≤ n + 1 ∧ (∀ j, j + 1 < k → zs.getD j 0 < zs.getD (j + 1) 0) ∧ Below w.heap.size w wr) (fun i _ => n + 1 - (intOf i).toNat)
  case atStart => exact ⟨1, rfl, by omega, by omega, fun j hj => by omega, Below.refl _ _⟩
  case round =>
    obtain ⟨k, rfl, hk1, hk2, hg, hb'⟩ := hrel
    have HG := Lib.hid hg
    have HB := Lib.hid hb'
    clear hg hb'
    by_cases hlt : k < n
    · have hlt2 : (k : Int) < n := by omega
      obtain ⟨k0, hk0⟩ : ∃ k0, k0 + 1 = k := ⟨k - 1, by omega⟩
      have hk3 : (k : Int) - 1 = k0 := by omega
      have hk4 : IntKind.i64.wrap (k0 : Int) = k0 := IntWalk.i64_in _ (by omega)
      have hk5 : (k0 : Int) < n := by omega
      obtain ⟨b1, f1, rfl, g1, g2, c1⟩ := (HR.out.below HB.out).at_ hlt
      obtain ⟨b2, f2, e2, g3, g4, c2⟩ := (HR.out.below HB.out).at_ (show k0 < n by omega)
      injection e2 with e2
      injection e2 with e3 e4 _
      subst e3 e4
      obtain ⟨u, hu⟩ : ∃ u, zs.getD k0 0 = u := ⟨_, rfl⟩
      obtain ⟨v, hv⟩ : ∃ v, zs.getD k 0 = v := ⟨_, rfl⟩
      have HU := Lib.hid hu
      have HV := Lib.hid hv
      have HK0 := Lib.hid hk0
      have HKn := Lib.hid hlt
      rw [hu] at c2
      rw [hv] at c1
      by_cases hle : v ≤ u
      · have HN := Lib.hid (ascB_no (asc_not HK0.out (by rw [HL.out]; exact HKn.out) HU.out HV.out hle))
        have hvy : decide (v ≤ u) = true := decide_eq_true hle
        clear g1 g2 g3 g4 hu hv hk0 hle
        go_wp2_with fail
        go_quiet (fail)
        clear c1 c2 hvy hk4 hk3
        go_wp2_with fail
        go_ret
        rw [HN.out]
        exact ⟨rfl, below_drewN HB.out⟩
      · have HN := Lib.hid (asc_more HG.out HK0.out HU.out HV.out (by omega))
        have hvy : decide (v ≤ u) = false := decide_eq_false hle
        clear g1 g2 g3 g4 hu hv hk0 hle HG
        go_wp2_with fail
        go_quiet (fail)
        clear c1 c2 hvy hk4 hk3
        go_wp2_with fail
        go_roundw
        case rel => exact ⟨k + 1, by go_num, by omega, by omega, HN.out, below_drewN HB.out⟩
        case measure => simp [intOf]; omega
    · have hlt2 : ¬ (k : Int) < n := by omega
      have HN := Lib.hid (ascB_yes (l := zs) fun i hi => HG.out i (by have := HL.out; omega))
      go_wp2_with fail
      go_ret
      rw [HN.out]
      exact ⟨rfl, HB.out⟩

/-- Each element is a position. -/
def inn (l : List Int) (c : Int) (k : Nat) : Prop := ∀ j, j < k → 0 ≤ l.getD j 0 ∧ l.getD j 0 ≤ c
theorem inn_more {l : List Int} {c : Int} {k : Nat} {x : Int} (h : inn l c k) (hx : l.getD k 0 = x) (h1 : 0 ≤ x ∧ x ≤ c) : inn l c (k + 1) := fun j hj => by
  by_cases e : j < k
  · exact h j e
  · obtain rfl : j = k := by omega
    rw [hx]; exact h1
set_option maxRecDepth 100000 in
set_option maxHeartbeats 4000000 in
theorem all_yes (zs : List Int) (c c1 : Int) (hc : wrap64 (c - 1) = c1) (lo hi : Nat) (A : Option Addr) (n cap : Nat) (w : World) (h : Rd .i64 w lo hi A n cap zs) (hn : n ≤ 67108864) (ha : inn zs c1 n) :
    Calls Try.prog 42 #[.slice A n cap, .func (.func 40) #[.agg #[.slice A n cap, .int .i64 c]] #[]] w fun e w' => e = .returned (.bool true) ∧ Below w.heap.size w w' := by
  have hb := h.cap_
  have HR := Lib.hid h
  have HC := Lib.hid hc
  have HA := Lib.hid ha
  clear h hc ha
  go_enter Try.func42, Try.ntmps42
  go_wp2_with fail
  go_loopw [9] (fun i wr => ∃ k : Nat, i = .int .i64 k ∧ k ≤ n ∧ Below w.heap.size w wr) (fun i _ => n - (intOf i).toNat)
  case atStart => exact ⟨0, rfl, by omega, Below.refl _ _⟩
  case round =>
    obtain ⟨k, rfl, hk, hb'⟩ := hrel
    have HB := Lib.hid hb'
    clear hb'
    by_cases hlt : k < n
    · have hlt2 : (k : Int) < n := by omega
      obtain ⟨b1, f1, rfl, g1, g2, c1⟩ := (HR.out.below HB.out).at_ hlt
      obtain ⟨x, hx⟩ : ∃ x, zs.getD k 0 = x := ⟨_, rfl⟩
      have HX := Lib.hid (show 0 ≤ x ∧ x ≤ _ by rw [← hx]; exact HA.out k hlt)
      rw [hx] at c1
      clear g1 g2 hx
      go_wp2_with fail
      (with_reducible refine (hasBit_yes _ n cap c _ x HC.out HX.out _).mono ?_)
      rintro e w2 ⟨rfl, hb⟩
      have HB2 := Lib.hid (HB.out.trans (hb.mono HB.out.size))
      clear hb
      go_wp2_with fail
      go_roundw
      case rel => exact ⟨k + 1, by go_num, by omega, HB2.out⟩
      case measure => simp [intOf]; omega
    · have hlt2 : ¬ (k : Int) < n := by omega
      go_wp2_with fail
      go_ret
      exact ⟨rfl, HB.out⟩
set_option maxRecDepth 100000 in
set_option maxHeartbeats 4000000 in
theorem all_no (zs : List Int) (c c1 : Int) (hc : wrap64 (c - 1) = c1) (lo hi : Nat) (A : Option Addr) (n cap : Nat) (w : World) (h : Rd .i64 w lo hi A n cap zs) (hn : n ≤ 67108864) (ha : ¬ inn zs c1 n) :
    Calls Try.prog 42 #[.slice A n cap, .func (.func 40) #[.agg #[.slice A n cap, .int .i64 c]] #[]] w fun e w' => e = .returned (.bool false) ∧ Below w.heap.size w w' := by
  have hb := h.cap_
  have HR := Lib.hid h
  have HC := Lib.hid hc
  have HA := Lib.hid ha
  clear h hc ha
  go_enter Try.func42, Try.ntmps42
  go_wp2_with fail
  go_loopw [9] (fun i wr => ∃ k : Nat, i = .int .i64 k ∧ k ≤ n ∧ inn zs c1 k ∧ Below w.heap.size w wr) (fun i _ => n - (intOf i).toNat)
  case atStart => exact ⟨0, rfl, by omega, fun j hj => by omega, Below.refl _ _⟩
  case round =>
    obtain ⟨k, rfl, hk, hi', hb'⟩ := hrel
    have HB := Lib.hid hb'
    have HI := Lib.hid hi'
    clear hb' hi'
    by_cases hlt : k < n
    · have hlt2 : (k : Int) < n := by omega
      obtain ⟨b1, f1, rfl, g1, g2, d1⟩ := (HR.out.below HB.out).at_ hlt
      obtain ⟨x, hx⟩ : ∃ x, zs.getD k 0 = x := ⟨_, rfl⟩
      have HX := Lib.hid hx
      rw [hx] at d1
      clear g1 g2 hx
      by_cases hin : 0 ≤ x ∧ x ≤ c1
      · have HN := Lib.hid (inn_more HI.out HX.out hin)
        have HX1 := Lib.hid hin
        clear hin
        go_wp2_with fail
        (with_reducible refine (hasBit_yes _ n cap c _ x HC.out HX1.out _).mono ?_)
        rintro e w2 ⟨rfl, hb⟩
        have HB2 := Lib.hid (HB.out.trans (hb.mono HB.out.size))
        clear hb
        go_wp2_with fail
        go_roundw
        case rel => exact ⟨k + 1, by go_num, by omega, HN.out, HB2.out⟩
        case measure => simp [intOf]; omega
      · have HX1 := Lib.hid hin
        clear hin
        go_wp2_with fail
        (with_reducible refine (hasBit_no _ n cap c _ x HC.out HX1.out _).mono ?_)
        rintro e w2 ⟨rfl, hb⟩
        have HB2 := Lib.hid (HB.out.trans (hb.mono HB.out.size))
        clear hb
        go_wp2_with fail
        go_ret
        exact ⟨rfl, HB2.out⟩
    · exact absurd (by rw [show n = k by omega]; exact HI.out) HA.out

theorem vp_of {l : List Int} {n : Nat} {c : Int} (hl : l.length = n) (h1 : Asc l) (h2 : inn l c n) : Vp l c := ⟨h1, fun i hi => h2 i (by omega)⟩
theorem vp_asc {l : List Int} {c : Int} (h1 : ¬ Asc l) : ¬ Vp l c := fun g => h1 g.1
theorem vp_inn {l : List Int} {n : Nat} {c : Int} (hl : l.length = n) (h1 : ¬ inn l c n) : ¬ Vp l c := fun g => h1 fun j hj => g.2 j (by omega)
/-- The last position that counts. -/
def top (c : Int) : Int := wrap64 (c - 1)
set_option maxRecDepth 100000 in
set_option maxHeartbeats 4000000 in
theorem implVp (zs : List Int) (c : Int) (lo hi : Nat) (A : Option Addr) (n cap : Nat) (w : World) (h : Rd .i64 w lo hi A n cap zs) (hn : n ≤ 67108864) :
    Calls Try.prog 19 #[.slice A n cap, .int .i64 c] w fun e w' => e = .returned (.bool (vpat zs (top c))) ∧ Below w.heap.size w w' := by
  have HL := Lib.hid h.len
  have HR := Lib.hid h
  have HB0 := Lib.hid ((Below.refl w.heap.size w).alloc (Nat.le_refl _) (.cells #[.slice A n cap, .int .i64 c] 52))
  have HR0 := Lib.hid (HR.out.below HB0.out)
  clear h
  go_enter Try.func19, Try.ntmps19
  go_wp2_with fail
  (with_reducible refine (isAscending zs _ _ A n cap _ HR0.out hn).mono ?_)
  by_cases ha : Asc zs
  · rw [ascB_yes ha]
    rintro e w1 ⟨rfl, hb⟩
    have HB := Lib.hid (HB0.out.trans (hb.mono (by simp)))
    have HR1 := Lib.hid (HR0.out.below hb)
    have hc0 := (hb.block w.heap.size (by simp)).trans (heap_alloc_new w _)
    have c0 : w1.cell? ⟨w.heap.size, 0, none⟩ = some (.slice A n cap) := by simp [World.cell?, hc0]
    have c1 : w1.cell? ⟨w.heap.size, 1, none⟩ = some (.int .i64 c) := by simp [World.cell?, hc0]
    clear hb hc0
    by_cases hi' : inn zs (top c) n
    · have HV := Lib.hid (vpat_yes (vp_of HL.out ha hi'))
      have HI := Lib.hid hi'
      clear ha hi'
      go_wp2_with fail
      (with_reducible refine (all_yes zs c (top c) rfl _ _ A n cap _ HR1.out hn HI.out).mono ?_)
      rintro e w2 ⟨rfl, hb⟩
      have HB2 := Lib.hid (HB.out.trans (hb.mono HB.out.size))
      clear hb
      go_wp2_with fail
      go_ret
      rw [HV.out]
      exact ⟨rfl, HB2.out⟩
    · have HV := Lib.hid (vpat_no (vp_inn HL.out hi'))
      have HI := Lib.hid hi'
      clear ha hi'
      go_wp2_with fail
      (with_reducible refine (all_no zs c (top c) rfl _ _ A n cap _ HR1.out hn HI.out).mono ?_)
      rintro e w2 ⟨rfl, hb⟩
      have HB2 := Lib.hid (HB.out.trans (hb.mono HB.out.size))
      clear hb
      go_wp2_with fail
      go_ret
      rw [HV.out]
      exact ⟨rfl, HB2.out⟩
  · rw [ascB_no ha]
    rintro e w1 ⟨rfl, hb⟩
    have HB := Lib.hid (HB0.out.trans (hb.mono (by simp)))
    have HV := Lib.hid (vpat_no (vp_asc (c := top c) ha))
    clear hb ha
    go_wp2_with fail
    go_ret
    rw [HV.out]
    exact ⟨rfl, HB.out⟩
end Go.Proofs.Ytcfgjlolabnolaa.chw
