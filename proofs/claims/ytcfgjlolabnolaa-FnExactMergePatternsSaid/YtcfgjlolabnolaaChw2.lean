/- FlipBits, the specification. Condition: lengths up to 2^26. -/
import Derived.Test.YtcfgjlolabnolaaChw1
namespace Go.Proofs.Ytcfgjlolabnolaa.chw
open Go.RowKit sl harn rng chm own
set_option linter.unusedVariables false

set_option maxRecDepth 100000 in
set_option maxHeartbeats 4000000 in
theorem specFlip (zs ps : List Int) (lo hi lo2 hi2 : Nat) (A A2 : Option Addr) (n cap m cap2 : Nat) (w : World) (h : Rd .i64 w lo hi A n cap zs) (h2 : Rd .i64 w lo2 hi2 A2 m cap2 ps) (hn : n ≤ 67108864) (hm : m ≤ 67108864) :
    Calls Try.prog 22 #[.slice A n cap, .slice A2 m cap2] w (SlPost 3 .i64 w (flips zs ps)) := by
  obtain ⟨i0, hi0, hz0, hz1, hz2⟩ := info_parts intInfo
  have HL := Lib.hid h.len
  have HR := Lib.hid h
  have HL2 := Lib.hid h2.len
  have HR2 := Lib.hid h2
  have hb2 := h2.cap_
  have HZ := Lib.hid (And.intro hi0 (And.intro hz0 (And.intro hz1 hz2)))
  clear h h2 hi0 hz0 hz1 hz2
  go_enter Try.func22, Try.ntmps22
  go_wp2_with (at_builtin; refine wpList_app _ rfl _ _ 24 rfl 3 i0 _ .i64 Try.underlying24 HZ.out.1 HZ.out.2.1 HZ.out.2.2.1 (by rw [HZ.out.2.2.2]; omega) rfl rfl rfl (Ow.empty _ _ _) (HR.out.alloc _) (by omega) (by simp) ?_; intro A1 cap1 w1 ho hb1; have HO := Lib.hid (show Ow 3 .i64 w1 w.heap.size w1.heap.size A1 n cap1 zs by simpa using ho); have HB := Lib.hid (((Below.refl _ _).alloc (Nat.le_refl _) _).trans hb1); clear ho hb1)
  go_loopw [6] (fun i wr => ∃ k : Nat, i = .int .i64 k ∧ k ≤ m ∧ Ow 3 .i64 wr w.heap.size wr.heap.size A1 n cap1 (flips zs (ps.take k)) ∧ Below w.heap.size w wr) (fun i _ => m - (intOf i).toNat)
  case atStart => exact ⟨0, rfl, by omega, HO.out, HB.out⟩
  case round =>
    clear HO
    obtain ⟨k, rfl, hk, ho, hb⟩ := hrel
    have HO := Lib.hid ho
    have HB := Lib.hid hb
    clear ho hb
    by_cases hlt : k < m
    · have hlt2 : (k : Int) < m := by omega
      have HKm := Lib.hid hlt
      obtain ⟨b', off, rfl, g1, g2, hc⟩ := (HR2.out.below HB.out).at_ hlt
      obtain ⟨p, hp⟩ : ∃ p, ps.getD k 0 = p := ⟨_, rfl⟩
      have HP := Lib.hid hp
      rw [hp] at hc
      clear hp g1 g2
      by_cases hin : 0 ≤ p ∧ p ≤ (n : Int) - 1
      · have HI := Lib.hid hin
        obtain ⟨j, rfl⟩ := Int.eq_ofNat_of_zero_le hin.1
        have hjn : j < n := by omega
        have hjn2 : (j : Int) < n := by omega
        obtain ⟨b, rfl, hbl⟩ := own_some HO.out (by omega)
        have HBL := Lib.hid hbl
        obtain ⟨x, hx⟩ : ∃ x, (flips zs (ps.take k)).getD j 0 = x := ⟨_, rfl⟩
        have HX := Lib.hid hx
        have HJ := Lib.hid hjn
        have hcell := cell_of HO.out hjn
        have hfree := HO.out.free rfl j
        rw [hx] at hcell
        clear hin hbl hx
        by_cases hx1 : 0 ≤ x ∧ x ≤ 1
        · have HX1 := Lib.hid hx1
          go_wp2_with fail
          (with_reducible refine (l1In_yes j 0 ((n : Int) - 1) HI.out _).mono ?_)
          rintro e w3 ⟨rfl, rfl⟩
          go_wp2_with fail
          (with_reducible refine (l1In_yes x 0 1 HX1.out _).mono ?_)
          rintro e w4 ⟨rfl, rfl⟩
          go_wp2
          go_region
          have HO4 := Lib.hid (ow_set (ow_drew HO.out) j (1 - x) (WalkArith.wf_i64 (by omega))).up
          have HB4 := Lib.hid ((below_drew HB.out).setCell (p := ⟨b, j, none⟩) HBL.out (.int .i64 (1 - x)))
          go_wp2
          go_roundw
          case rel => exact ⟨k + 1, by go_num, by omega, by rw [flip_set HL.out HL2.out HKm.out HP.out HJ.out HX.out HX1.out]; exact HO4.out, HB4.out⟩
          case measure => simp [intOf]; omega
        · have HX1 := Lib.hid hx1
          clear hx1
          go_wp2_with fail
          (with_reducible refine (l1In_yes j 0 ((n : Int) - 1) HI.out _).mono ?_)
          rintro e w3 ⟨rfl, rfl⟩
          go_wp2_with fail
          (with_reducible refine (l1In_no x 0 1 HX1.out _).mono ?_)
          rintro e w4 ⟨rfl, rfl⟩
          go_wp2_with fail
          go_roundw
          case rel => exact ⟨k + 1, by go_num, by omega, by rw [flip_odd HL2.out HKm.out HP.out HX.out HX1.out]; exact HO.out, HB.out⟩
          case measure => simp [intOf]; omega
      · have HI := Lib.hid hin
        clear hin
        go_wp2_with fail
        (with_reducible refine (l1In_no p 0 ((n : Int) - 1) HI.out _).mono ?_)
        rintro e w3 ⟨rfl, rfl⟩
        go_wp2_with fail
        go_roundw
        case rel => exact ⟨k + 1, by go_num, by omega, by rw [flip_out HL.out HL2.out HKm.out HP.out HI.out]; exact HO.out, HB.out⟩
        case measure => simp [intOf]; omega
    · have hlt2 : ¬ (k : Int) < m := by omega
      have HY := Lib.hid (flips_done (b := zs) HL2.out (show k = m by omega))
      go_wp2_with fail
      go_ret
      exact ⟨_, _, _, rfl, by rw [← HY.out]; exact HO.out.up, HB.out⟩
end Go.Proofs.Ytcfgjlolabnolaa.chw
