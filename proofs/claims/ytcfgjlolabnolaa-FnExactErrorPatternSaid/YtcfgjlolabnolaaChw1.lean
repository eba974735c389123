/- FlipBits, program and specification: a struct that embeds a slice. Condition: lengths up to 2^26. -/
import Derived.Test.YtcfgjlolabnolaaOwn
import Derived.Test.YtcfgjlolabnolaaRng
import Derived.Test.YtcfgjlolabnolaaChb
namespace Go.Proofs.Ytcfgjlolabnolaa.chw
open Go.RowKit sl harn rng chm own
set_option linter.unusedVariables false

/-- A pattern of positions for c bits. -/
def pat (A : Option Addr) (n cap : Nat) (c : Int) : Value := .agg #[.slice A n cap, .int .i64 c]
theorem hasBit_yes (A : Option Addr) (n cap : Nat) (c c1 p : Int) (hc : wrap64 (c - 1) = c1) (h : 0 ≤ p ∧ p ≤ c1) (w : World) :
    Calls Try.prog 40 #[.agg #[.slice A n cap, .int .i64 c], .int .i64 p] w fun e w' => e = .returned (.bool true) ∧ Below w.heap.size w w' := by
  have H := Lib.hid h
  have hc2 : IntKind.i64.wrap (c - 1) = c1 := by rw [IntKind.wrap_i64]; unfold wrap64 at hc; exact hc
  clear h
  go_enter Try.func40, Try.ntmps40
  go_wp2_with fail
  (with_reducible refine (inRange_yes p 0 c1 H.out _).mono ?_)
  rintro e w1 ⟨rfl, rfl⟩
  go_wp2_with fail
  go_ret
  exact ⟨rfl, (Below.refl _ _).alloc (Nat.le_refl _) _⟩
theorem hasBit_no (A : Option Addr) (n cap : Nat) (c c1 p : Int) (hc : wrap64 (c - 1) = c1) (h : ¬ (0 ≤ p ∧ p ≤ c1)) (w : World) :
    Calls Try.prog 40 #[.agg #[.slice A n cap, .int .i64 c], .int .i64 p] w fun e w' => e = .returned (.bool false) ∧ Below w.heap.size w w' := by
  have H := Lib.hid h
  have hc2 : IntKind.i64.wrap (c - 1) = c1 := by rw [IntKind.wrap_i64]; unfold wrap64 at hc; exact hc
  clear h
  go_enter Try.func40, Try.ntmps40
  go_wp2_with fail
  (with_reducible refine (inRange_no p 0 c1 H.out _).mono ?_)
  rintro e w1 ⟨rfl, rfl⟩
  go_wp2_with fail
  go_ret
  exact ⟨rfl, (Below.refl _ _).alloc (Nat.le_refl _) _⟩
theorem flips_zero (b ps : List Int) : flips b (ps.take 0) = b := rfl
theorem flips_done {b ps : List Int} {m k : Nat} (h : ps.length = m) (hk : k = m) : flips b (ps.take k) = flips b ps := by rw [List.take_of_length_le (by omega)]
theorem flip_set {b ps : List Int} {n m k j : Nat} {x : Int} (hb : b.length = n) (hm : ps.length = m) (hk : k < m) (hp : ps.getD k 0 = (j : Int)) (hj : j < n) (hx : (flips b (ps.take k)).getD j 0 = x) (h1 : 0 ≤ x ∧ x ≤ 1) :
    flips b (ps.take (k + 1)) = (flips b (ps.take k)).set j (1 - x) := by
  rw [flips_next b ps (by omega), hp]
  exact flip1_yes (by rw [flips_len]; omega) hx h1
theorem flip_out {b ps : List Int} {n m k : Nat} {p : Int} (hb : b.length = n) (hm : ps.length = m) (hk : k < m) (hp : ps.getD k 0 = p) (h : ¬ (0 ≤ p ∧ p ≤ (n : Int) - 1)) : flips b (ps.take (k + 1)) = flips b (ps.take k) := by
  rw [flips_next b ps (by omega), hp]
  exact flip1_out (by rw [flips_len, hb]; exact h)
theorem flip_odd {b ps : List Int} {m k j : Nat} {x : Int} (hm : ps.length = m) (hk : k < m) (hp : ps.getD k 0 = (j : Int)) (hx : (flips b (ps.take k)).getD j 0 = x) (h1 : ¬ (0 ≤ x ∧ x ≤ 1)) : flips b (ps.take (k + 1)) = flips b (ps.take k) := by
  rw [flips_next b ps (by omega), hp]
  exact flip1_odd hx h1

set_option maxRecDepth 100000 in
set_option maxHeartbeats 4000000 in
theorem implFlip (zs ps : List Int) (lo hi lo2 hi2 : Nat) (A A2 : Option Addr) (n cap m cap2 : Nat) (w : World) (h : Rd .i64 w lo hi A n cap zs) (h2 : Rd .i64 w lo2 hi2 A2 m cap2 ps) (hn : n ≤ 67108864) (hm : m ≤ 67108864) :
    Calls Try.prog 18 #[.slice A n cap, .slice A2 m cap2] w (SlPost 3 .i64 w (flips zs ps)) := by
  obtain ⟨i0, hi0, hz0, hz1, hz2⟩ := info_parts intInfo
  have HL := Lib.hid h.len
  have HR := Lib.hid h
  have HL2 := Lib.hid h2.len
  have HR2 := Lib.hid h2
  have hb2 := h2.cap_
  have HZ := Lib.hid (And.intro hi0 (And.intro hz0 (And.intro hz1 hz2)))
  have HW := Lib.hid (show wrap64 ((n : Int) - 1) = (n : Int) - 1 by unfold wrap64; omega)
  clear h h2 hi0 hz0 hz1 hz2
  go_enter Try.func18, Try.ntmps18
  go_wp2_with (at_builtin; refine wpList_app _ rfl _ _ 24 rfl 3 i0 _ .i64 Try.underlying24 HZ.out.1 HZ.out.2.1 HZ.out.2.2.1 (by rw [HZ.out.2.2.2]; omega) rfl rfl rfl (Ow.empty _ _ _) (HR.out.alloc _) (by omega) (by simp) ?_; intro A1 cap1 w1 ho hb1; have HO := Lib.hid (show Ow 3 .i64 w1 w.heap.size w1.heap.size A1 n cap1 zs by simpa using ho); have HB := Lib.hid (((Below.refl _ _).alloc (Nat.le_refl _) _).trans hb1); clear ho hb1)
  have HB1 := Lib.hid ((Below.refl w1.heap.size w1).alloc (Nat.le_refl _) (.cells #[.slice A2 m cap2, .int .i64 n] 52))
  go_loopw [19] (fun i wr => ∃ k : Nat, i = .int .i64 k ∧ k ≤ m ∧ Ow 3 .i64 wr w.heap.size w1.heap.size A1 n cap1 (flips zs (ps.take k)) ∧ wr.heap[w1.heap.size]? = some (.cells #[.slice A2 m cap2, .int .i64 n] 52 (0, 0)) ∧ Below w.heap.size w wr) (fun i _ => m - (intOf i).toNat)
  case atStart => exact ⟨0, rfl, by omega, HO.out.alloc _, heap_alloc_new _ _, HB.out.trans (HB1.out.mono HB.out.size)⟩
  case round =>
    clear HO HB1
    obtain ⟨k, rfl, hk, ho, hblk, hb⟩ := hrel
    have HO := Lib.hid ho
    have HB := Lib.hid hb
    have HK := Lib.hid hblk
    clear ho hb hblk
    have c0 : wr.cell? ⟨w1.heap.size, 0, none⟩ = some (.slice A2 m cap2) := by simp [World.cell?, HK.out]
    have c1 : wr.cell? ⟨w1.heap.size, 1, none⟩ = some (.int .i64 n) := by simp [World.cell?, HK.out]
    by_cases hlt : k < m
    · have hlt2 : (k : Int) < m := by omega
      have HKm := Lib.hid hlt
      obtain ⟨b', off, rfl, g1, g2, hc⟩ := (HR2.out.below HB.out).at_ hlt
      obtain ⟨p, hp⟩ : ∃ p, ps.getD k 0 = p := ⟨_, rfl⟩
      have HP := Lib.hid hp
      rw [hp] at hc
      clear hp g1 g2
      by_cases hin : 0 ≤ p ∧ p ≤ (n : Int) - 1
      · have HI := Lib.hid hin
        obtain ⟨j, rfl⟩ := Int.eq_ofNat_of_zero_le hin.1
        have hjn : j < n := by omega
        have hjn2 : (j : Int) < n := by omega
        obtain ⟨b, rfl, hbl⟩ := own_some HO.out (by omega)
        have HBL := Lib.hid hbl
        obtain ⟨x, hx⟩ : ∃ x, (flips zs (ps.take k)).getD j 0 = x := ⟨_, rfl⟩
        have HX := Lib.hid hx
        have HJ := Lib.hid hjn
        clear hin hbl hx
        go_wp2_with fail
        (with_reducible refine (hasBit_yes (some ⟨b', off, none⟩) m cap2 n ((n : Int) - 1) j HW.out HI.out _).mono ?_)
        rintro e w3 ⟨rfl, hb⟩
        have HO3 := Lib.hid (HO.out.below hb)
        have HB3 := Lib.hid (HB.out.trans (hb.mono HB.out.size))
        have HK3 := Lib.hid ((hb.block w1.heap.size (lt_of_block HK.out)).trans HK.out)
        have hcell := cell_of HO3.out hjn
        have hfree := HO3.out.free rfl j
        rw [HX.out] at hcell
        clear hb HO HB HK hc c0 c1
        by_cases hx1 : 0 ≤ x ∧ x ≤ 1
        · have HX1 := Lib.hid hx1
          go_wp2_with fail
          (with_reducible refine (inRange_yes x 0 1 HX1.out _).mono ?_)
          rintro e w4 ⟨rfl, rfl⟩
          go_wp2_with fail
          have HO4 := Lib.hid (ow_set HO3.out j (1 - x) (WalkArith.wf_i64 (by omega)))
          have HB4 := Lib.hid (HB3.out.setCell (p := ⟨b, j, none⟩) HBL.out (.int .i64 (1 - x)))
          have HK4 := Lib.hid (show (w3.setCell ⟨b, j, none⟩ (.int .i64 (1 - x))).heap[w1.heap.size]? = _ from (heap_setCell_other w3 ⟨b, j, none⟩ w1.heap.size (.int .i64 (1 - x)) (by have := HO3.out.2.2.2 b 0 rfl; simp; omega)).trans HK3.out)
          go_roundw
          case rel => exact ⟨k + 1, by go_num, by omega, by rw [flip_set HL.out HL2.out HKm.out HP.out HJ.out HX.out HX1.out]; exact HO4.out, HK4.out, HB4.out⟩
          case measure => simp [intOf]; omega
        · have HX1 := Lib.hid hx1
          clear hx1
          go_wp2_with fail
          (with_reducible refine (inRange_no x 0 1 HX1.out _).mono ?_)
          rintro e w4 ⟨rfl, rfl⟩
          go_wp2_with fail
          go_roundw
          case rel => exact ⟨k + 1, by go_num, by omega, by rw [flip_odd HL2.out HKm.out HP.out HX.out HX1.out]; exact HO3.out, HK3.out, HB3.out⟩
          case measure => simp [intOf]; omega
      · have HI := Lib.hid hin
        clear hin
        go_wp2_with fail
        (with_reducible refine (hasBit_no (some ⟨b', off, none⟩) m cap2 n ((n : Int) - 1) p HW.out HI.out _).mono ?_)
        rintro e w3 ⟨rfl, hb⟩
        have HO3 := Lib.hid (HO.out.below hb)
        have HB3 := Lib.hid (HB.out.trans (hb.mono HB.out.size))
        have HK3 := Lib.hid ((hb.block w1.heap.size (lt_of_block HK.out)).trans HK.out)
        clear hb HO HB HK hc c0 c1
        go_wp2_with fail
        go_roundw
        case rel => exact ⟨k + 1, by go_num, by omega, by rw [flip_out HL.out HL2.out HKm.out HP.out HI.out]; exact HO3.out, HK3.out, HB3.out⟩
        case measure => simp [intOf]; omega
    · have hlt2 : ¬ (k : Int) < m := by omega
      have HY := Lib.hid (flips_done (b := zs) HL2.out (show k = m by omega))
      go_wp2_with fail
      go_ret
      exact ⟨_, _, _, rfl, by rw [← HY.out]; exact HO.out.up, HB.out⟩
end Go.Proofs.Ytcfgjlolabnolaa.chw
