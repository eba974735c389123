/- A step of the decoder. Condition: at most 2000 steps. -/
import Derived.Test.YtgdmfpahaccamaaTab
namespace Go.Proofs.Ytgdmfpahaccamaa.vts
open Go.RowKit sl harn bm rng cvm cvs vit tab

theorem grown_drewN (w : World) (n : Nat) (r : Option Nat) : w.grownBy (w.drewN n) r := ⟨rfl, rfl, rfl, Nat.le_refl _, fun _ _ _ => rfl⟩
theorem grown_refl (w : World) (r : Option Nat) : w.grownBy w r := ⟨rfl, rfl, rfl, Nat.le_refl _, fun _ _ _ => rfl⟩
set_option maxRecDepth 100000 in
set_option maxHeartbeats 4000000 in
theorem implExt (zs : List Int) (k : Nat) (b : Int) (hb : 0 ≤ b ∧ b ≤ 1) (hk : k ≤ 2000) (x y : Int) (hx : zs.getD (2 * k) 0 = x) (hy : zs.getD (2 * k + 1) 0 = y) (B u : Nat) (hu : u ≤ 900000) (w : World) (hT : Tab w B u (srv zs k b 0)) :
    Calls Try.prog 42 #[.map (some B), .int .i64 k, .int .i64 b, .int .i64 x, .int .i64 y] w fun e w' => e = .returned (.tuple #[]) ∧ Tab w' B (u + 4) (srv zs k b 4) ∧ w.grownBy w' (some B) := by
  have HX := Lib.hid (And.intro hx hy)
  have HB := Lib.hid hb
  have T0 := Lib.hid hT
  clear hx hy hT hb
  go_enter Try.func42, Try.ntmps42
  go_wp2_with fail
  go_loopw [18] (fun i wr => ∃ s : Nat, i = .int .i64 s ∧ s ≤ 4 ∧ Tab wr B (u + s) (srv zs k b s) ∧ w.grownBy wr (some B)) (fun i _ => 4 - (intOf i).toNat)
  case atStart => exact ⟨0, rfl, by omega, T0.out, grown_refl _ _⟩
  case round =>
    obtain ⟨s, rfl, hs, hT, hg⟩ := hrel
    have T1 := Lib.hid hT
    have G1 := Lib.hid hg
    clear hT hg
    by_cases hlt : s < 4
    · have hlt2 : (s : Int) < 4 := by omega
      have N1 := Lib.hid (show Nd k s from ⟨by omega, by omega⟩)
      have SB := Lib.hid (show Sb s b from ⟨by omega, HB.out⟩)
      have S1 := Lib.hid (srv_low (zs := zs) (b := b) (m := s) (t := s) (j := k) rfl (Nat.le_refl k))
      by_cases hc : cost zs k s < 0
      · have M1 := Lib.hid (show srv zs k b s k s = none by rw [S1.out, back_no hc])
        have NX := Lib.hid (srv_none zs k b s hc)
        clear hc
        go_wp2_with (at_lookup; refine wpList_lookup_run _ rfl _ _ 53 true rfl (Tab.no (T1.out.alloc _) N1.out M1.out) rfl rfl ?_)
        go_roundw
        case rel => exact ⟨s + 1, by go_num, by omega, (((T1.out.congr NX.out).alloc _).alloc _).mono (by omega), (G1.out.trans (World.grownBy_alloc _ _ _)).trans (World.grownBy_alloc _ _ _)⟩
        case measure => simp [intOf]; omega
      · obtain ⟨i, p, hM⟩ := back_yes hc
        have hcb := cost_in zs k s
        have hbd := bd_in s b x y
        obtain ⟨c, hcc⟩ : ∃ c, cost zs k s = c := ⟨_, rfl⟩
        obtain ⟨t, ht⟩ : ∃ t, nst s b = t := ⟨_, rfl⟩
        obtain ⟨q, hq⟩ : ∃ q, bd s b x y = q := ⟨_, rfl⟩
        have ht3 := nst_in s b
        have M1 := Lib.hid (show srv zs k b s k s = some (c, i, p) by rw [S1.out, hM, hcc])
        have HQ := Lib.hid (And.intro hcc hq)
        have HN := Lib.hid (show nxt s b = t by rw [nxt_yes SB.out, ht])
        have N2 := Lib.hid (show Nd (k + 1) t from ⟨by omega, by omega⟩)
        have S2 := Lib.hid (srv_high zs k b s t)
        have HNS := Lib.hid ht
        rw [hcc] at hc hcb
        rw [hq] at hbd
        rw [ht] at ht3
        have HQB := Lib.hid (show ∀ (W : World) (n : Nat), Calls Try.prog 24 #[.int .i64 s, .int .i64 b, .int .i64 x, .int .i64 y] (W.drewN n) fun e w' => e = .returned (.int .i64 q) ∧ w' = W.drewN n from fun W n => (implBd s b x y _).mono fun e w' ⟨h1, h2⟩ => ⟨by rw [h1, HQ.out.2], h2.symm⟩)
        clear hM hcc ht hq
        go_wp2_with (at_lookup; refine wpList_lookup_run _ rfl _ _ 53 true rfl (Tab.yes (T1.out.alloc _) N1.out M1.out) rfl rfl ?_)
        (with_reducible refine (implNext s b _).mono ?_)
        rw [HN.out]
        rintro e w1 ⟨rfl, rfl⟩
        go_wp2_with fail
        go_quiet ((go_at_call 24; exact Calls.quiet_of_same (HQB.out _ _)))
        have TQ := Lib.hid (((T1.out.alloc (.cells #[.int .i64 k, .int .i64 s] 50)).alloc (.cells #[.int .i64 c, .int .i64 i, .int .i64 p] 52)).alloc (.cells #[.int .i64 ((k : Int) + 1), .int .i64 t] 50) |>.kept (grown_drewN _ nq none) (by simp))
        have GQ := Lib.hid ((((G1.out.trans (World.grownBy_alloc _ (.cells #[.int .i64 k, .int .i64 s] 50) _)).trans (World.grownBy_alloc _ (.cells #[.int .i64 c, .int .i64 i, .int .i64 p] 52) _)).trans (World.grownBy_alloc _ (.cells #[.int .i64 ((k : Int) + 1), .int .i64 t] 50) _)).trans (grown_drewN _ nq _))
        have hlv : lv b s t = s := lv_same (by rw [← HNS.out]; have := HB.out; unfold nst; omega) s
        rw [hlv] at S2
        have hpin := part_in (x := zs.getD (2 * k) 0) (y := zs.getD (2 * k + 1) 0) (m := s) (t := t) (cost_in zs k)
        have HWR := Lib.hid (srv_worse zs k (d := c + q) SB.out (by rw [HQ.out.1]; omega) (by rw [HX.out.1, HX.out.2, HQ.out.1, HQ.out.2]))
        have HBT := Lib.hid (srv_better zs k (d := c + q) SB.out (by rw [HQ.out.1]; omega) (by rw [HX.out.1, HX.out.2, HQ.out.1, HQ.out.2]))
        rw [HNS.out] at HWR HBT
        obtain ⟨f, hf⟩ : ∃ f, from_ (cost zs k) (zs.getD (2 * k) 0) (zs.getD (2 * k + 1) 0) s t = f := ⟨_, rfl⟩
        obtain ⟨P, hP⟩ : ∃ P, vit.part (cost zs k) (zs.getD (2 * k) 0) (zs.getD (2 * k + 1) 0) s t = P := ⟨_, rfl⟩
        rw [hf, hP] at S2
        rw [hP] at hpin HWR HBT
        clear hf hP hlv
        by_cases hP0 : P < 0
        · have M2 := Lib.hid (show srv zs k b s (k + 1) t = none by rw [S2.out, ent_no hP0])
          have NX := Lib.hid (HBT.out (Or.inl hP0))
          clear HWR HBT hP0 hpin
          go_wp2_with (first
            | (at_lookup; refine wpList_lookup_run _ rfl _ _ 53 true rfl (Tab.no TQ.out N2.out M2.out) rfl rfl ?_)
            | (at_mapUpdate; refine wpList_put _ rfl _ _ _ rfl (TQ.out.alloc _) (by omega) N2.out rfl rfl rfl ?_; intro w5 hT5 hg5; have T5 := Lib.hid hT5; have G5 := Lib.hid hg5; clear hT5 hg5))
          go_roundw
          case rel => exact ⟨s + 1, by go_num, by omega, T5.out.congr NX.out, (GQ.out.trans (World.grownBy_alloc _ _ _)).trans G5.out⟩
          case measure => simp [intOf]; omega
        · have M2 := Lib.hid (show srv zs k b s (k + 1) t = some (P, (k : Int), f) by rw [S2.out, ent_yes hP0])
          by_cases hlt5 : c + q < P
          · have NX := Lib.hid (HBT.out (Or.inr hlt5))
            clear HWR HBT
            go_wp2_with (first
              | (at_lookup; refine wpList_lookup_run _ rfl _ _ 53 true rfl (Tab.yes TQ.out N2.out M2.out) rfl rfl ?_)
              | (at_mapUpdate; refine wpList_put _ rfl _ _ _ rfl (TQ.out.alloc _) (by omega) N2.out rfl rfl rfl ?_; intro w5 hT5 hg5; have T5 := Lib.hid hT5; have G5 := Lib.hid hg5; clear hT5 hg5))
            go_roundw
            case rel => exact ⟨s + 1, by go_num, by omega, T5.out.congr NX.out, (GQ.out.trans (World.grownBy_alloc _ _ _)).trans G5.out⟩
            case measure => simp [intOf]; omega
          · have NX := Lib.hid (HWR.out (by intro g; rcases g with g | g; exact hP0 g; exact hlt5 g))
            clear HWR HBT
            go_wp2_with (at_lookup; refine wpList_lookup_run _ rfl _ _ 53 true rfl (Tab.yes TQ.out N2.out M2.out) rfl rfl ?_)
            go_roundw
            case rel => exact ⟨s + 1, by go_num, by omega, ((TQ.out.alloc _).congr NX.out).mono (by omega), GQ.out.trans (World.grownBy_alloc _ _ _)⟩
            case measure => simp [intOf]; omega
    · have hlt2 : ¬ (s : Int) < 4 := by omega
      obtain rfl : s = 4 := by omega
      go_wp2_with fail
      go_end0
      exact ⟨rfl, T1.out, G1.out⟩
end Go.Proofs.Ytgdmfpahaccamaa.vts
