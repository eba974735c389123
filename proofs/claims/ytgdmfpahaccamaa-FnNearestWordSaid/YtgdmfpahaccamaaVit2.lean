/- The distance of bits to symbols, program and specification. Condition: at most 2^26 bits. -/
import Derived.Test.YtgdmfpahaccamaaVit1
namespace Go.Proofs.Ytgdmfpahaccamaa.vts
open Go.RowKit sl harn bm rng cvm cvs vit

theorem hd_bd (a b : List Int) (k : Nat) : 0 ≤ hd (a.take k) (b.take k) ∧ hd (a.take k) (b.take k) ≤ k := by
  have h1 := hd_in (a.take k) (b.take k)
  rw [List.length_take] at h1
  omega
theorem pd_no1 {l zs : List Int} (h : isb l = false) : pd l zs = -1 := pd_no fun g => by rw [h] at g; exact absurd g.1.1 (by decide)
theorem pd_no2 {l zs : List Int} (h : inr zs 0 2 = false) : pd l zs = -1 := pd_no fun g => by rw [h] at g; exact absurd g.1.2 (by decide)
set_option maxHeartbeats 1000000 in
theorem implPd (zs ys : List Int) (lo hi lo2 hi2 : Nat) (A B : Option Addr) (n cap n2 cap2 : Nat) (w : World) (h : Rd .i64 w lo hi A n cap zs) (h' : Rd .i64 w lo2 hi2 B n2 cap2 ys) (hn : n ≤ 67108864) :
    Calls Try.prog 21 #[.slice A n cap, .slice B n2 cap2] w fun e w' => e = .returned (.int .i64 (pd zs ys)) ∧ Below w.heap.size w w' := by
  have HR := Lib.hid h
  have HS := Lib.hid h'
  have hb := h.cap_
  have hb' := h'.cap_
  clear h h'
  by_cases h1 : isb zs = true
  · have H1 := Lib.hid h1
    clear h1
    by_cases h2 : inr ys 0 2 = true
    · have H2 := Lib.hid h2
      have HN := Lib.hid (enl_yes (show 0 ≤ (n : Int) ∧ (n : Int) ≤ 1000000000000 by omega))
      clear h2
      by_cases h3 : n2 = 2 * (n + 2)
      · subst h3
        have HE := Lib.hid (show pd zs ys = hd (conv zs) ys from pd_yes ⟨⟨H1.out, H2.out⟩, by rw [HR.out.len, HN.out, HS.out.len]; omega⟩)
        have HL := Lib.hid (show (conv zs).length = 2 * (n + 2) by rw [conv_len_yes H1.out, HR.out.len])
        go_enter Try.func21, Try.ntmps21
        go_wp2_with fail
        (with_reducible refine (bits.implIsb zs _ _ A n cap _ HR.out).mono ?_)
        rw [H1.out]
        rintro e w1 ⟨rfl, rfl⟩
        go_wp2_with fail
        (with_reducible refine (bits.implIss ys _ _ B _ cap2 _ HS.out).mono ?_)
        rw [H2.out]
        rintro e w1 ⟨rfl, rfl⟩
        go_wp2_with fail
        (with_reducible refine (implEnl n _).mono ?_)
        rw [HN.out]
        rintro e w1 ⟨rfl, rfl⟩
        go_wp2_with fail
        (with_reducible refine (implCv zs _ _ A n cap _ HR.out hn).mono ?_)
        rintro e w1 ⟨C, m, c, rfl, ho, hb1⟩
        have hm : m = 2 * (n + 2) := by rw [← ho.len, HL.out]
        subst hm
        have HO := Lib.hid ho.rd
        have HB := Lib.hid hb1
        have HT := Lib.hid (HS.out.below hb1)
        clear ho hb1
        go_wp2_with fail
        go_loop [5, 27] (fun d i => ∃ k : Nat, i = .int .i64 k ∧ d = .int .i64 (hd ((conv zs).take k) (ys.take k)) ∧ k ≤ 2 * (n + 2)) (fun _ i => 2 * (n + 2) - (intOf i).toNat)
        case atStart => exact ⟨0, rfl, rfl, by omega⟩
        case round =>
          obtain ⟨k, rfl, rfl, hk⟩ := hrel
          have hd0 := hd_bd (conv zs) ys k
          obtain ⟨d, hd'⟩ : ∃ d, hd ((conv zs).take k) (ys.take k) = d := ⟨_, rfl⟩
          rw [hd'] at hd0 ⊢
          have HD := Lib.hid hd'
          clear hd'
          by_cases hlt : k < 2 * (n + 2)
          · have hlt2 : (k : Int) < 2 * ((n : Int) + 2) := by omega
            obtain ⟨b, off, rfl, _, _, hc⟩ := HO.out.at_ hlt
            obtain ⟨b2, off2, rfl, _, _, hc2⟩ := HT.out.at_ hlt
            obtain ⟨x, hx⟩ : ∃ x, (conv zs).getD k 0 = x := ⟨_, rfl⟩
            obtain ⟨y, hy⟩ : ∃ y, ys.getD k 0 = y := ⟨_, rfl⟩
            rw [hx] at hc
            rw [hy] at hc2
            have HD2 := Lib.hid (show hd ((conv zs).take (k + 1)) (ys.take (k + 1)) = d + sd x y by rw [hd_take (by rw [HL.out]; exact hlt) (by rw [HS.out.len]; exact hlt), HD.out, hx, hy])
            clear hx hy
            go_wp2_with fail
            (with_reducible refine (implSd x y _).mono ?_)
            rintro e w2 ⟨rfl, rfl⟩
            have h1 := sd_in x y
            obtain ⟨u, hu⟩ : ∃ u, sd x y = u := ⟨_, rfl⟩
            rw [hu] at HD2 h1 ⊢
            clear hu
            go_wp2_with fail
            go_round
            case rel => exact ⟨k + 1, by go_num, by rw [HD2.out], by omega⟩
            case measure => simp [intOf]; omega
          · have hlt2 : ¬ (k : Int) < 2 * ((n : Int) + 2) := by omega
            obtain rfl : k = 2 * (n + 2) := by omega
            have HD2 := Lib.hid (show d = hd (conv zs) ys by rw [← HD.out, List.take_of_length_le (by rw [HL.out]; exact Nat.le_refl _), List.take_of_length_le (by rw [HS.out.len]; exact Nat.le_refl _)])
            go_wp2_with fail
            go_ret
            exact ⟨ret_num (by rw [HE.out, HD2.out]), HB.out⟩
      · have HE := Lib.hid (show pd zs ys = -1 from pd_no fun g => h3 (by have := g.2; rw [HR.out.len, HN.out, HS.out.len] at this; omega))
        obtain ⟨u, hu⟩ : ∃ u, 2 * ((n : Int) + 2) = u := ⟨_, rfl⟩
        rw [hu] at HN
        have hne : ((n2 : Int) == u) = false := by
          have : ¬ (n2 : Int) = u := by omega
          simpa using this
        have hne2 : ((n2 : Int) != u) = true := by
          have : ¬ (n2 : Int) = u := by omega
          simpa using this
        clear hu h3
        go_enter Try.func21, Try.ntmps21
        go_wp2_with fail
        (with_reducible refine (bits.implIsb zs _ _ A n cap _ HR.out).mono ?_)
        rw [H1.out]
        rintro e w1 ⟨rfl, rfl⟩
        go_wp2_with fail
        (with_reducible refine (bits.implIss ys _ _ B n2 cap2 _ HS.out).mono ?_)
        rw [H2.out]
        rintro e w1 ⟨rfl, rfl⟩
        go_wp2_with fail
        (with_reducible refine (implEnl n _).mono ?_)
        rw [HN.out]
        rintro e w1 ⟨rfl, rfl⟩
        go_wp2_with fail
        go_ret
        exact ⟨ret_num HE.out.symm, Below.refl _ _⟩
    · have h2' : inr ys 0 2 = false := by simpa using h2
      have H2 := Lib.hid h2'
      have HE := Lib.hid (pd_no2 (l := zs) h2')
      clear h2 h2'
      go_enter Try.func21, Try.ntmps21
      go_wp2_with fail
      (with_reducible refine (bits.implIsb zs _ _ A n cap _ HR.out).mono ?_)
      rw [H1.out]
      rintro e w1 ⟨rfl, rfl⟩
      go_wp2_with fail
      (with_reducible refine (bits.implIss ys _ _ B n2 cap2 _ HS.out).mono ?_)
      rw [H2.out]
      rintro e w1 ⟨rfl, rfl⟩
      go_wp2_with fail
      go_ret
      exact ⟨ret_num HE.out.symm, Below.refl _ _⟩
  · have h1' : isb zs = false := by simpa using h1
    have H1 := Lib.hid h1'
    have HE := Lib.hid (pd_no1 (zs := ys) h1')
    clear h1 h1'
    go_enter Try.func21, Try.ntmps21
    go_wp2_with fail
    (with_reducible refine (bits.implIsb zs _ _ A n cap _ HR.out).mono ?_)
    rw [H1.out]
    rintro e w1 ⟨rfl, rfl⟩
    go_wp2_with fail
    go_ret
    exact ⟨ret_num HE.out.symm, Below.refl _ _⟩
set_option maxHeartbeats 1000000 in
theorem specPd (zs ys : List Int) (lo hi lo2 hi2 : Nat) (A B : Option Addr) (n cap n2 cap2 : Nat) (w : World) (h : Rd .i64 w lo hi A n cap zs) (h' : Rd .i64 w lo2 hi2 B n2 cap2 ys) (hn : n ≤ 67108864) :
    Calls Try.prog 25 #[.slice A n cap, .slice B n2 cap2] w fun e w' => e = .returned (.int .i64 (pd zs ys)) ∧ Below w.heap.size w w' := by
  have HR := Lib.hid h
  have HS := Lib.hid h'
  have hb := h.cap_
  have hb' := h'.cap_
  clear h h'
  by_cases h1 : isb zs = true
  · have H1 := Lib.hid h1
    clear h1
    by_cases h2 : inr ys 0 2 = true
    · have H2 := Lib.hid h2
      have HN := Lib.hid (enl_yes (show 0 ≤ (n : Int) ∧ (n : Int) ≤ 1000000000000 by omega))
      clear h2
      by_cases h3 : n2 = 2 * (n + 2)
      · subst h3
        have HE := Lib.hid (show pd zs ys = hd (conv zs) ys from pd_yes ⟨⟨H1.out, H2.out⟩, by rw [HR.out.len, HN.out, HS.out.len]; omega⟩)
        have HL := Lib.hid (show (conv zs).length = 2 * (n + 2) by rw [conv_len_yes H1.out, HR.out.len])
        go_enter Try.func25, Try.ntmps25
        go_wp2_with fail
        (with_reducible refine (bits.specIsb zs _ _ A n cap _ HR.out).mono ?_)
        rw [H1.out]
        rintro e w1 ⟨rfl, rfl⟩
        go_wp2_with fail
        (with_reducible refine (bits.specIss ys _ _ B _ cap2 _ HS.out).mono ?_)
        rw [H2.out]
        rintro e w1 ⟨rfl, rfl⟩
        go_wp2_with fail
        (with_reducible refine (specEnl n _).mono ?_)
        rw [HN.out]
        rintro e w1 ⟨rfl, rfl⟩
        go_wp2_with fail
        (with_reducible refine (specCv zs _ _ A n cap _ HR.out hn).mono ?_)
        rintro e w1 ⟨C, m, c, rfl, ho, hb1⟩
        have hm : m = 2 * (n + 2) := by rw [← ho.len, HL.out]
        subst hm
        have HO := Lib.hid ho.rd
        have HB := Lib.hid hb1
        have HT := Lib.hid (HS.out.below hb1)
        clear ho hb1
        go_wp2_with fail
        go_loopw [6, 7] (fun d i wr => ∃ k q : Nat, i = .int .i64 k ∧ d = .int .i64 (hd ((conv zs).take k) (ys.take k)) ∧ k ≤ 2 * (n + 2) ∧ wr = w1.drewN q) (fun _ i _ => 2 * (n + 2) - (intOf i).toNat)
        case atStart => exact ⟨0, 0, rfl, rfl, by omega, rfl⟩
        case round =>
          obtain ⟨k, q, rfl, rfl, hk, rfl⟩ := hrel
          have hd0 := hd_bd (conv zs) ys k
          obtain ⟨d, hd'⟩ : ∃ d, hd ((conv zs).take k) (ys.take k) = d := ⟨_, rfl⟩
          rw [hd'] at hd0 ⊢
          have HD := Lib.hid hd'
          clear hd'
          by_cases hlt : k < 2 * (n + 2)
          · have hlt2 : (k : Int) < 2 * ((n : Int) + 2) := by omega
            obtain ⟨b, off, rfl, _, _, hc⟩ := HO.out.at_ hlt
            obtain ⟨b2, off2, rfl, _, _, hc2⟩ := HT.out.at_ hlt
            obtain ⟨x, hx⟩ : ∃ x, (conv zs).getD k 0 = x := ⟨_, rfl⟩
            obtain ⟨y, hy⟩ : ∃ y, ys.getD k 0 = y := ⟨_, rfl⟩
            rw [hx] at hc
            rw [hy] at hc2
            have HD2 := Lib.hid (show hd ((conv zs).take (k + 1)) (ys.take (k + 1)) = d + sd x y by rw [hd_take (by rw [HL.out]; exact hlt) (by rw [HS.out.len]; exact hlt), HD.out, hx, hy])
            clear hx hy
            by_cases g : y = 2
            · subst g
              rw [sd_yes (Or.inr rfl)] at HD2
              go_wp2_with fail
              go_quiet (fail)
              go_wp2_with fail
              go_roundw
              case rel => exact ⟨k + 1, _, by go_num, by rw [HD2.out, Int.add_zero], by omega, rfl⟩
              case measure => simp [intOf]; omega
            · have g2 : (y != 2) = true := by simpa using g
              by_cases g3 : y = x
              · subst g3
                rw [sd_yes (Or.inl rfl)] at HD2
                clear g
                go_wp2_with fail
                go_quiet (fail)
                go_wp2_with fail
                go_roundw
                case rel => exact ⟨k + 1, _, by go_num, by rw [HD2.out, Int.add_zero], by omega, rfl⟩
                case measure => simp [intOf]; omega
              · have g4 : (y != x) = true := by simpa using g3
                rw [sd_no g3 g] at HD2
                clear g g3
                go_wp2_with fail
                go_quiet (fail)
                go_wp2_with fail
                go_roundw
                case rel => exact ⟨k + 1, _, by go_num, by rw [HD2.out], by omega, rfl⟩
                case measure => simp [intOf]; omega
          · have hlt2 : ¬ (k : Int) < 2 * ((n : Int) + 2) := by omega
            obtain rfl : k = 2 * (n + 2) := by omega
            have HD2 := Lib.hid (show d = hd (conv zs) ys by rw [← HD.out, List.take_of_length_le (by rw [HL.out]; exact Nat.le_refl _), List.take_of_length_le (by rw [HS.out.len]; exact Nat.le_refl _)])
            go_wp2_with fail
            go_ret
            exact ⟨ret_num (by rw [HE.out, HD2.out]), ⟨HB.out.os, HB.out.tape, HB.out.output, HB.out.size, HB.out.block⟩⟩
      · have HE := Lib.hid (show pd zs ys = -1 from pd_no fun g => h3 (by have := g.2; rw [HR.out.len, HN.out, HS.out.len] at this; omega))
        obtain ⟨u, hu⟩ : ∃ u, 2 * ((n : Int) + 2) = u := ⟨_, rfl⟩
        rw [hu] at HN
        have hne : ((n2 : Int) == u) = false := by
          have : ¬ (n2 : Int) = u := by omega
          simpa using this
        have hne2 : ((n2 : Int) != u) = true := by
          have : ¬ (n2 : Int) = u := by omega
          simpa using this
        clear hu h3
        go_enter Try.func25, Try.ntmps25
        go_wp2_with fail
        (with_reducible refine (bits.specIsb zs _ _ A n cap _ HR.out).mono ?_)
        rw [H1.out]
        rintro e w1 ⟨rfl, rfl⟩
        go_wp2_with fail
        (with_reducible refine (bits.specIss ys _ _ B n2 cap2 _ HS.out).mono ?_)
        rw [H2.out]
        rintro e w1 ⟨rfl, rfl⟩
        go_wp2_with fail
        (with_reducible refine (specEnl n _).mono ?_)
        rw [HN.out]
        rintro e w1 ⟨rfl, rfl⟩
        go_wp2_with fail
        go_ret
        exact ⟨ret_num HE.out.symm, Below.refl _ _⟩
    · have h2' : inr ys 0 2 = false := by simpa using h2
      have H2 := Lib.hid h2'
      have HE := Lib.hid (pd_no2 (l := zs) h2')
      clear h2 h2'
      go_enter Try.func25, Try.ntmps25
      go_wp2_with fail
      (with_reducible refine (bits.specIsb zs _ _ A n cap _ HR.out).mono ?_)
      rw [H1.out]
      rintro e w1 ⟨rfl, rfl⟩
      go_wp2_with fail
      (with_reducible refine (bits.specIss ys _ _ B n2 cap2 _ HS.out).mono ?_)
      rw [H2.out]
      rintro e w1 ⟨rfl, rfl⟩
      go_wp2_with fail
      go_ret
      exact ⟨ret_num HE.out.symm, Below.refl _ _⟩
  · have h1' : isb zs = false := by simpa using h1
    have H1 := Lib.hid h1'
    have HE := Lib.hid (pd_no1 (zs := ys) h1')
    clear h1 h1'
    go_enter Try.func25, Try.ntmps25
    go_wp2_with fail
    (with_reducible refine (bits.specIsb zs _ _ A n cap _ HR.out).mono ?_)
    rw [H1.out]
    rintro e w1 ⟨rfl, rfl⟩
    go_wp2_with fail
    go_ret
    exact ⟨ret_num HE.out.symm, Below.refl _ _⟩
end Go.Proofs.Ytgdmfpahaccamaa.vts
