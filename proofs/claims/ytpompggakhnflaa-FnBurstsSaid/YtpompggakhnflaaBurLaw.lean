/- The law function of bursts (FnBursts) returns true and leaves what was there. Condition: the argument is a slice of bytes that came in. -/
import Derived.Test.YtpompggakhnflaaAt
import Derived.Test.YtpompggakhnflaaEnd8
import Derived.Test.YtpompggakhnflaaItm2
import Derived.Test.YtpompggakhnflaaDraw
namespace Go.Proofs.Ytpompggakhnflaa.burLaw
open Go.RowKit sl harn rng itm itl
set_option linter.unusedVariables false

set_option maxRecDepth 100000 in
set_option maxHeartbeats 4000000 in
theorem walk (a : Option Addr) (len cap : Nat) (z0 : List Int) (w : World) (r0 : kit.IsRow .u8 w a len cap z0) :
    Calls Try.prog 4 #[.slice a len cap] w fun e w' => e = .returned (.bool true) ∧ Below w.heap.size w w' := by
  obtain ⟨y0, hr0⟩ := Rd.of_row r0
  have R0 := Lib.hid hr0
  have hlen : (len : Int) ≤ 9223372036854775807 := by have := hr0.cap_; omega
  clear r0 hr0
  by_cases hbig : 1048576 < (len : Int)
  · go_enter Try.func4, Try.ntmps4
    go_wp2
    go_ret
    exact ⟨rfl, Below.refl _ _⟩
  have HLN := Lib.hid (show len ≤ 1048576 by omega)
  go_enter Try.func4, Try.ntmps4
  go_wp2_with (go_at_call 11; go_in)
  clear hbig
  go_wp2_with fail
  (with_reducible refine (lawAt.at_ 0 (by omega) (by omega) a len cap _ _ y0 _ R0.out HLN.out).mono ?_)
  rintro e w1 ⟨x, rfl, hx0, hx1, rfl⟩
  obtain ⟨r, hr⟩ : ∃ r, x % 40 = r := ⟨_, rfl⟩
  have hrt : x.tmod 40 = r := by rw [Int.tmod_eq_emod_of_nonneg hx0]; exact hr
  obtain ⟨n, hn⟩ : ∃ n : Nat, 2 + r = (n : Int) := ⟨(2 + r).toNat, by omega⟩
  have hn2 : 2 ≤ n ∧ n ≤ 41 := by omega
  have HN2 := Lib.hid hn2
  have hn41 : n ≤ 41 := hn2.2
  clear hn2
  go_wp2_with fail
  (with_reducible refine (lawAt.at_ 1 (by omega) (by omega) a len cap _ _ y0 _ R0.out HLN.out).mono ?_)
  rintro e w1 ⟨x1, rfl, hx10, hx11, rfl⟩
  obtain ⟨r1, hr1⟩ : ∃ r1, x1 % 9 = r1 := ⟨_, rfl⟩
  have hrt1 : x1.tmod 9 = r1 := by rw [Int.tmod_eq_emod_of_nonneg hx10]; exact hr1
  obtain ⟨c, hc⟩ : ∃ c : Nat, 1 + r1 = (c : Int) := ⟨(1 + r1).toNat, by omega⟩
  have HC := Lib.hid (show 1 ≤ c ∧ c ≤ 64 by omega)
  have HOk : Hid (Ok n c) := ⟨by omega, by omega⟩
  have HSP := Lib.hid (spread_yes HOk.out HN2.out.1)
  obtain ⟨sp, hsp⟩ : ∃ sp, least n c (n - 1) = sp := ⟨_, rfl⟩
  rw [hsp] at HSP
  have hsp0 : 1 ≤ sp := by rw [← hsp]; exact least_pos (by have := HC.out; omega) (by have := HN2.out; omega) _ (by have := HN2.out; omega)
  have hsp1 : sp ≤ 41 := by have := least_le n c (n - 1); omega
  have HD := Lib.hid (show ∀ i, i + 1 < n → sp ≤ dist n c i from fun i hi => by rw [← hsp]; exact least_dist n c _ i (by omega))
  clear hsp
  go_wp2_with fail
  (with_reducible refine (implSpr n c _).mono ?_)
  rw [HSP.out]
  rintro e w2 ⟨rfl, hb⟩
  have B2 := Lib.hid hb
  have R2 := Lib.hid (R0.out.below hb)
  clear hb hr hrt hn hr1 hrt1 hc hx0 hx1 hx10 hx11
  go_wp2_with fail
  (with_reducible refine (lawAt.at_ 2 (by omega) (by omega) a len cap _ _ y0 _ R2.out HLN.out).mono ?_)
  rintro e w3 ⟨x2, rfl, hx20, hx21, rfl⟩
  obtain ⟨s, hs⟩ : ∃ s : Nat, x2 % (n : Int) = s := ⟨(x2 % (n : Int)).toNat, by have := Int.emod_nonneg x2 (show (n : Int) ≠ 0 by have := HN2.out; omega); omega⟩
  have hst : x2.tmod (n : Int) = s := by rw [Int.tmod_eq_emod_of_nonneg hx20]; exact hs
  have hsn : s < n := by have := Int.emod_lt_of_pos x2 (show 0 < (n : Int) by have := HN2.out; omega); omega
  have hnz : ((n : Int) == 0) = false := by
    have : ¬ (n : Int) = 0 := by have := HN2.out; omega
    simpa using this
  have hn0 : 1 ≤ (n : Int) := by have := HN2.out; omega
  have HH := Lib.hid (hits_nat (s := s) (d := sp) HC.out (show n ≤ 10000 by omega) (by omega) (by omega))
  have HT := Lib.hid (hit_count (n := n) (c := c) (by have := HC.out; omega) s sp)
  have HG := Lib.hid (hit_gap (n := n) (c := c) HD.out (show (s : Int) + sp - 1 = (s : Int) + sp - 1 from rfl) n (Nat.le_refl _))
  have HH2 := Lib.hid (hits_nat (s := 0) (d := n) HC.out (show n ≤ 10000 by omega) (by omega) (by omega))
  have HT2 := Lib.hid (hit_count (n := n) (c := c) (by have := HC.out; omega) 0 n)
  go_wp2_with fail
  (with_reducible refine (implHits n c s sp _).mono ?_)
  rw [HH.out]
  rintro e w4 ⟨A, q, ac, rfl, ho, hb⟩
  have B4 := Lib.hid (B2.out.trans (hb.mono B2.out.size))
  have O4 := Lib.hid ho
  obtain ⟨hl, hhl⟩ : ∃ hl, hitN n c s ((s : Int) + sp - 1) n = hl := ⟨_, rfl⟩
  rw [hhl] at O4 HG HT
  have HQ := Lib.hid (show hl.length = q from O4.out.len)
  have HMIN := Lib.hid (show (q : Int) = if ((n : Int) - s) < sp then ((n : Int) - s) else sp by
    have h1 := HT.out
    rw [HQ.out] at h1
    split <;> omega)
  have hq : q ≤ 41 := by have h1 := HT.out; rw [HQ.out] at h1; omega
  have HWF := Lib.hid (show ∀ z ∈ hl, 0 ≤ z ∧ z ≤ 40 from fun z hz => by
    rw [← hhl] at hz
    obtain ⟨i, h1, h2, _⟩ := mem_hitN hz
    omega)
  clear ho hb hhl hs hst hx20 hx21 B2 R2
  go_wp2_with fail
  go_loopw [8] (fun i wr => ∃ k : Nat, i = .int .i64 k ∧ 1 ≤ k ∧ k ≤ 42 ∧ Below w4.heap.size w4 wr) (fun i _ => 42 - (intOf i).toNat)
  case atStart => exact ⟨1, rfl, by omega, by omega, Below.refl _ _⟩
  case round =>
    obtain ⟨k, rfl, hk1, hk2, hb⟩ := hrel
    have HB := Lib.hid hb
    clear hb
    by_cases hlt : k < q
    · have hlt2 : (k : Int) < q := by omega
      obtain ⟨k0, hk0⟩ : ∃ k0, k0 + 1 = k := ⟨k - 1, by omega⟩
      have hk3 : (k : Int) - 1 = k0 := by omega
      have hk4 : IntKind.i64.wrap (k0 : Int) = k0 := IntWalk.i64_in _ (by omega)
      have hk5 : (k0 : Int) < q := by omega
      obtain ⟨b1, f1, rfl, g1, g2, c1⟩ := (O4.out.rd.below HB.out).at_ hlt
      obtain ⟨b2, f2, e2, g3, g4, c2⟩ := (O4.out.rd.below HB.out).at_ (show k0 < q by omega)
      injection e2 with e2
      injection e2 with e3 e4 _
      subst e3 e4
      obtain ⟨u, hu⟩ : ∃ u, hl.getD k0 0 = u := ⟨_, rfl⟩
      obtain ⟨v, hv⟩ : ∃ v, hl.getD k 0 = v := ⟨_, rfl⟩
      have hgap : u + 1 < v := by
        have := HG.out k0 (by rw [HQ.out]; omega)
        rw [hk0, hu, hv] at this
        exact this
      have hu01 : 0 ≤ u ∧ u ≤ 40 := by rw [← hu]; exact HWF.out _ (getD_mem (by rw [HQ.out]; omega))
      rw [hu] at c2
      rw [hv] at c1
      obtain ⟨y, hy⟩ : ∃ y, u + 1 = y := ⟨_, rfl⟩
      have hy2 : IntKind.i64.wrap y = y := IntWalk.i64_in _ (by omega)
      have hvy : decide (v ≤ y) = false := decide_eq_false (by omega)
      have HK0 := Lib.hid hk0
      clear g1 g2 g3 g4 hu hv hgap hu01 hk0
      go_wp2_with fail
      go_quiet (fail)
      clear c1 c2 hvy hy2 hy hk4 hk3
      go_wp2_with fail
      go_roundw
      case rel => exact ⟨k + 1, by go_num, by omega, by omega, below_drewN HB.out⟩
      case measure => simp [intOf]; omega
    · have hlt2 : ¬ (k : Int) < q := by omega
      obtain ⟨ns, hns⟩ : ∃ ns, (n : Int) - s = ns := ⟨_, rfl⟩
      have hns2 : 0 ≤ ns ∧ ns ≤ 41 := by omega
      have HM := Lib.hid (show (q : Int) = if ns < sp then ns else sp by rw [← hns]; exact HMIN.out)
      have hsp2 : 1 ≤ (sp : Int) := by omega
      clear hk1 hk2 hlt
      go_wp2_with fail
      (with_reducible refine (specMin sp ns q HM.out _).mono ?_)
      rintro e w5 ⟨rfl, rfl⟩
      go_wp2_with fail
      (with_reducible refine (implHits n c 0 n _).mono ?_)
      rintro e w6 ⟨P, p, pc, rfl, ho, hb⟩
      have hp : p = n := by
        have h1 := ho.len
        have h2 : hits n c 0 n = _ := HH2.out
        rw [h2, HT2.out] at h1
        omega
      subst hp
      have B6 := Lib.hid (B4.out.trans ((HB.out.trans (hb.mono HB.out.size)).mono B4.out.size))
      clear ho hb hns
      go_wp2_with fail
      go_ret
      exact ⟨rfl, B6.out⟩
end Go.Proofs.Ytpompggakhnflaa.burLaw
