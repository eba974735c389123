/- MinimumSpread, program and specification. Condition: none. -/
import Derived.Test.YtpompggakhnflaaItl1
namespace Go.Proofs.Ytpompggakhnflaa.itl
open Go.RowKit sl harn rng itm

set_option maxRecDepth 100000 in
theorem implSpr (n c : Int) (w : World) :
    Calls Try.prog 19 #[.int .i64 n, .int .i64 c] w fun e w' => e = .returned (.int .i64 (spread n c)) ∧ Below w.heap.size w w' := by
  by_cases hok : Ok n c
  · have H0 := Lib.hid hok
    obtain ⟨n, c, rfl, rfl, h1, h2, h3⟩ := hok.nats
    have HC := Lib.hid (show 1 ≤ c ∧ c ≤ 64 from ⟨h1, h2⟩)
    clear hok h1 h2
    by_cases hn : 2 ≤ n
    · have HX := Lib.hid (spread_yes H0.out hn)
      have hn2 : ¬ (n : Int) < 2 := by omega
      obtain ⟨m, hm⟩ : ∃ m : Nat, n - 1 = m := ⟨_, rfl⟩
      have hm1 : (n : Int) - 1 = m := by omega
      have HN := Lib.hid (show m + 1 = n by omega)
      rw [hm] at HX
      clear hn hm
      go_enter Try.func19, Try.ntmps19
      go_wp2_with fail
      (with_reducible refine (fun_yes n c HC.out h3 _).mono ?_)
      rintro e w1 ⟨rfl, hb⟩
      have HB1 := Lib.hid hb
      clear hb
      go_wp2_with fail
      go_loopw [7, 26] (fun v i wr => ∃ k : Nat, i = .int .i64 k ∧ v = .int .i64 (least n c k : Nat) ∧ k ≤ m ∧ Below w.heap.size w wr) (fun _ i _ => m - (intOf i).toNat)
      case atStart => exact ⟨0, rfl, rfl, by omega, HB1.out⟩
      case round =>
        clear HB1 hm1 hn2
        obtain ⟨k, rfl, rfl, hk, hb⟩ := hrel
        have HB := Lib.hid hb
        clear hb
        obtain ⟨L, hL⟩ : ∃ L, least n c k = L := ⟨_, rfl⟩
        have HL := Lib.hid hL
        have hL2 : L ≤ 10000 := by rw [← hL]; have := least_le n c k; omega
        rw [hL]
        clear hL
        by_cases hlt : k < m
        · have hlt2 : (k : Int) < m := by omega
          obtain ⟨k1, hk1⟩ : ∃ k1, k + 1 = k1 := ⟨_, rfl⟩
          have hk2 : (k : Int) + 1 = k1 := by omega
          have hkn : k1 < n := by have := HN.out; omega
          have HKN := Lib.hid (show k < n ∧ k1 < n by omega)
          obtain ⟨a, ha⟩ : ∃ a, pos n c k = a := ⟨_, rfl⟩
          obtain ⟨b, hb⟩ : ∃ b, pos n c k1 = b := ⟨_, rfl⟩
          obtain ⟨d, hd⟩ : ∃ d, dist n c k = d := ⟨_, rfl⟩
          have ha9 : a ≤ 9999 := by rw [← ha]; exact pos_le HC.out h3 (by omega)
          have hb9 : b ≤ 9999 := by rw [← hb]; exact pos_le HC.out h3 hkn
          obtain ⟨mx, mn, d1, d2, d3, d4, d5⟩ := dist_parts (b := b) ha (by rw [hk1]; exact hb) hd
          obtain ⟨L2, hL2e⟩ : ∃ L2, least n c k1 = L2 := ⟨_, rfl⟩
          have hmin : (L2 : Int) = if (d : Int) < L then (d : Int) else L := by
            rw [← hL2e, ← hk1, least, HL.out, hd]
            split <;> omega
          have HM := Lib.hid (And.intro d1 (And.intro d2 hmin))
          have HA := Lib.hid (And.intro ha hb)
          have HLE := Lib.hid hL2e
          have HK1 := Lib.hid hk1
          have hmx : mx ≤ 9999 := by omega
          have hdle : d ≤ 9999 := by omega
          clear d1 d2 d4 hmin ha hb hd hL2e hk1
          go_wp2_with fail
          (with_reducible refine (position n c k HC.out h3 HKN.out.1 _).mono ?_)
          rw [HA.out.1]
          rintro e w2 ⟨rfl, hb⟩
          have HB2 := Lib.hid (HB.out.trans (hb.mono HB.out.size))
          clear hb HB
          go_wp2_with fail
          (with_reducible refine (position n c k1 HC.out h3 HKN.out.2 _).mono ?_)
          rw [HA.out.2]
          rintro e w3 ⟨rfl, hb⟩
          have HB3 := Lib.hid (HB2.out.trans (hb.mono HB2.out.size))
          clear hb HB2
          go_wp2_with fail
          (with_reducible refine (implMax a b mx HM.out.1 _).mono ?_)
          rintro e w4 ⟨rfl, hb⟩
          have HB4 := Lib.hid (HB3.out.trans (hb.mono HB3.out.size))
          clear hb HB3
          go_wp2_with fail
          (with_reducible refine (implMin a b mn HM.out.2.1 _).mono ?_)
          rintro e w5 ⟨rfl, hb⟩
          have HB5 := Lib.hid (HB4.out.trans (hb.mono HB4.out.size))
          clear hb HB4
          go_wp2_with fail
          (with_reducible refine (implMin L d L2 HM.out.2.2 _).mono ?_)
          rintro e w6 ⟨rfl, hb⟩
          have HB6 := Lib.hid (HB5.out.trans (hb.mono HB5.out.size))
          clear hb HB5 d3 d5
          go_wp2_with fail
          go_roundw
          case rel => exact ⟨k1, rfl, by rw [HLE.out], by have := HK1.out; omega, HB6.out⟩
          case measure => have := HK1.out; simp [intOf]; omega
        · have hlt2 : ¬ (k : Int) < m := by omega
          obtain rfl : k = m := by omega
          go_wp2_with fail
          go_ret
          rw [HX.out, HL.out]
          exact ⟨rfl, HB.out⟩
    · have HX := Lib.hid (spread_no (n := n) (c := c) (fun g => hn (by have := g.2; omega)))
      have hn2 : (n : Int) < 2 := by omega
      clear hn
      go_enter Try.func19, Try.ntmps19
      go_wp2_with fail
      (with_reducible refine (fun_yes n c HC.out h3 _).mono ?_)
      rintro e w1 ⟨rfl, hb⟩
      have HB1 := Lib.hid hb
      clear hb
      go_wp2_with fail
      go_ret
      rw [HX.out]
      exact ⟨rfl, HB1.out⟩
  · have H := Lib.hid hok
    have HX := Lib.hid (spread_no (n := n) (c := c) (fun g => hok g.1))
    clear hok
    go_enter Try.func19, Try.ntmps19
    go_wp2_with fail
    (with_reducible refine (fun_no n c H.out _).mono ?_)
    rintro e w1 ⟨rfl, hb⟩
    have HB1 := Lib.hid hb
    clear hb
    go_wp2_with fail
    go_ret
    rw [HX.out]
    exact ⟨rfl, HB1.out⟩

theorem drewN_drewN (w : World) (a b : Nat) : (w.drewN a).drewN b = w.drewN (a + b) := World.drewN_drewN ..
def SprPost (n c : Int) (w : World) (e : Ending) (w' : World) : Prop := e = .returned (.int .i64 (spread n c)) ∧ Below w.heap.size w w'
set_option maxRecDepth 100000 in
theorem specSpr (n c : Int) (wn : (Lit.int .i64 n).wf = true) (w : World) :
    Calls Try.prog 29 #[.int .i64 n, .int .i64 c] w (SprPost n c w) := by
  have hw := bounds_i64 wn
  clear wn
  by_cases hn : 1 < n
  · by_cases hok : Ok n c
    · have H0 := Lib.hid hok
      obtain ⟨n, c, rfl, rfl, h1, h2, h3⟩ := hok.nats
      have HC := Lib.hid (show 1 ≤ c ∧ c ≤ 64 from ⟨h1, h2⟩)
      have hn' : 2 ≤ n := by omega
      have HN2 := Lib.hid hn'
      have HX := Lib.hid (spread_yes H0.out hn')
      clear hok h1 h2 hw hn hn'
      go_enter Try.func29, Try.ntmps29
      go_wp2_with fail
      go_loopw [5, 6] (fun v i wr => ∃ k : Nat, i = .int .i64 k ∧ v = .int .i64 (bst n c k) ∧ k + 1 ≤ n ∧ Below w.heap.size w wr) (fun _ i _ => n - (intOf i).toNat)
      case atStart => exact ⟨0, rfl, rfl, by have := HN2.out; omega, Below.refl _ _⟩
      case round =>
        obtain ⟨k, rfl, rfl, hk, hb⟩ := hrel
        have HB := Lib.hid hb
        clear hb
        obtain ⟨k1, hk1⟩ : ∃ k1, k + 1 = k1 := ⟨_, rfl⟩
        have hk2 : (k : Int) + 1 = k1 := by omega
        have HK1 := Lib.hid hk1
        obtain ⟨v, hv⟩ : ∃ v, bst n c k = v := ⟨_, rfl⟩
        rw [hv]
        have HV := Lib.hid hv
        clear hv
        by_cases hlt : k1 < n
        · have hlt2 : (k1 : Int) < n := by omega
          obtain ⟨a, ha⟩ : ∃ a, pos n c k = a := ⟨_, rfl⟩
          obtain ⟨b, hb⟩ : ∃ b, pos n c k1 = b := ⟨_, rfl⟩
          obtain ⟨d, hd⟩ : ∃ d, dist n c k = d := ⟨_, rfl⟩
          have ha9 : a ≤ 9999 := by rw [← ha]; exact pos_le HC.out h3 (by omega)
          have hb9 : b ≤ 9999 := by rw [← hb]; exact pos_le HC.out h3 hlt
          obtain ⟨mx, mn, d1, d2, d3, d4, d5⟩ := dist_parts (b := b) ha (by rw [hk1]; exact hb) hd
          have HM := Lib.hid (And.intro d1 d2)
          have HI1 := Lib.hid (show idx n c k = a by rw [idx_yes HC.out h3 (by omega), ha])
          have HI2 := Lib.hid (show idx n c k1 = b by rw [idx_yes HC.out h3 hlt, hb])
          have hmx : mx ≤ 9999 := by omega
          have hdle : d ≤ 9999 := by omega
          have HD := Lib.hid hd
          clear d1 d2 d4 ha hb hd hk1 hk
          go_wp2_with fail
          (with_reducible refine (ok_yes n c H0.out _).mono ?_)
          rintro e w1 ⟨rfl, rfl⟩
          go_wp2_with fail
          (with_reducible refine (specIdx n c k _).mono ?_)
          unfold IdxPost
          rw [HI1.out]
          rintro e w2 ⟨rfl, m1, hm1⟩
          have HB2 := Lib.hid (show Below w.heap.size w w2 by rw [hm1]; exact HB.out.trans ⟨rfl, rfl, rfl, Nat.le_refl _, fun _ _ => rfl⟩)
          clear hm1 HB
          go_wp2_with fail
          (with_reducible refine (specIdx n c k1 _).mono ?_)
          unfold IdxPost
          rw [HI2.out]
          rintro e w3 ⟨rfl, m2, hm2⟩
          have HB3 := Lib.hid (show Below w.heap.size w w3 by rw [hm2]; exact HB2.out.trans ⟨rfl, rfl, rfl, Nat.le_refl _, fun _ _ => rfl⟩)
          clear hm2 HB2
          go_wp2_with fail
          (with_reducible refine (specMax a b mx HM.out.1 _).mono ?_)
          rintro e w4 ⟨rfl, rfl⟩
          go_wp2_with fail
          (with_reducible refine (specMin a b mn HM.out.2 _).mono ?_)
          rintro e w4 ⟨rfl, rfl⟩
          clear d5
          by_cases hk0 : k = 0
          · have HE := Lib.hid (show bst n c k1 = d by have h1 := HD.out; rw [hk0] at h1; rw [← HK1.out, hk0]; exact bst_first (by have := HC.out; omega) HN2.out h1)
            have hke : ((k : Int) == 0) = true := by rw [hk0]; rfl
            clear hk0
            go_wp2_with fail
            go_roundw
            case rel => exact ⟨k1, rfl, by rw [HE.out], by omega, HB3.out⟩
            case measure => have := HK1.out; simp [intOf]; omega
          · have hke : ((k : Int) == 0) = false := by
              have : ¬ (k : Int) = 0 := by omega
              simpa using this
            by_cases hdv : (d : Int) < v
            · have HE := Lib.hid (show bst n c k1 = d by rw [← HK1.out]; exact bst_low HD.out HV.out (by omega) hdv)
              clear hk0
              go_wp2_with fail
              go_roundw
              case rel => exact ⟨k1, rfl, by rw [HE.out], by omega, HB3.out⟩
              case measure => have := HK1.out; simp [intOf]; omega
            · have HE := Lib.hid (show bst n c k1 = v by rw [← HK1.out]; exact bst_high HD.out HV.out (by omega) hdv)
              clear hk0
              go_wp2_with fail
              go_roundw
              case rel => exact ⟨k1, rfl, by rw [HE.out], by omega, HB3.out⟩
              case measure => have := HK1.out; simp [intOf]; omega
        · have hlt2 : ¬ (k1 : Int) < n := by omega
          have HE := Lib.hid (show spread n c = v by rw [HX.out, ← HV.out]; exact (bst_end (by omega) HN2.out).symm)
          have hk10 : (k1 : Int) ≤ 10000 := by omega
          clear hk1 hk hlt
          go_wp2_with fail
          go_ret
          exact ⟨by rw [HE.out]; rfl, HB.out⟩
    · have H0 := Lib.hid hok
      have HX := Lib.hid (spread_no (n := n) (c := c) (fun g => hok g.1))
      clear hok
      go_enter Try.func29, Try.ntmps29
      go_wp2_with fail
      go_loopw [5, 6] (fun v i wr => i = .int .i64 0 ∧ v = .int .i64 0 ∧ w = wr) (fun _ _ _ => 0)
      case atStart => exact ⟨rfl, rfl, rfl⟩
      case round =>
        obtain ⟨rfl, rfl, rfl⟩ := hrel
        go_wp2_with fail
        (with_reducible refine (ok_no n c H0.out _).mono ?_)
        rintro e w1 ⟨rfl, rfl⟩
        go_wp2_with fail
        go_ret
        exact ⟨by rw [HX.out]; rfl, Below.refl _ _⟩
  · have HX := Lib.hid (spread_no (n := n) (c := c) (fun g => hn (by have := g.2; omega)))
    go_enter Try.func29, Try.ntmps29
    go_wp2_with fail
    go_loopw [5, 6] (fun v i wr => i = .int .i64 0 ∧ v = .int .i64 0 ∧ w = wr) (fun _ _ _ => 0)
    case atStart => exact ⟨rfl, rfl, rfl⟩
    case round =>
      obtain ⟨rfl, rfl, rfl⟩ := hrel
      go_wp2_with fail
      go_ret
      exact ⟨by rw [HX.out]; rfl, Below.refl _ _⟩
end Go.Proofs.Ytpompggakhnflaa.itl
