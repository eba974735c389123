/- Interleave and Deinterleave, the specification. Condition: lengths up to 2^26. -/
import Derived.Test.YtdelpepepbkjmaaItl2
namespace Go.Proofs.Ytdelpepepbkjmaa.itl
open Go.RowKit sl harn rng itm

set_option maxRecDepth 100000 in
set_option maxHeartbeats 4000000 in
theorem specItl (zs : List Int) (c : Int) (lo hi : Nat) (A : Option Addr) (n cap : Nat) (w : World) (h : Rd .i64 w lo hi A n cap zs) (hn : n ≤ 67108864) :
    Calls Try.prog 60 #[.slice A n cap, .int .i64 c] w (SlPost 3 .i64 w (itl zs c)) := by
  obtain ⟨i0, hi0, hz0, hz1, hz2⟩ := info_parts intInfo
  have hb := h.cap_
  have HL := Lib.hid h.len
  have HR := Lib.hid h
  have HZ := Lib.hid (And.intro hi0 (And.intro hz0 (And.intro hz1 hz2)))
  clear h hi0 hz0 hz1 hz2
  by_cases hok : Ok n c
  · have H0 := Lib.hid hok
    obtain ⟨a, c, ha, rfl, h1, h2, h3⟩ := hok.nats
    obtain rfl : n = a := by omega
    have HY := Lib.hid (itl_yes HL.out hok)
    have HC := Lib.hid (show 1 ≤ c ∧ c ≤ 64 from ⟨h1, h2⟩)
    clear hok ha h1 h2
    go_enter Try.func60, Try.ntmps60
    go_wp2_with (at_builtin; refine wpList_app _ rfl _ _ 27 rfl 3 i0 _ .i64 Try.underlying27 HZ.out.1 HZ.out.2.1 HZ.out.2.2.1 (by rw [HZ.out.2.2.2]; omega) rfl rfl rfl (Ow.empty _ _ _) (HR.out.alloc _) (by omega) (by simp) ?_; intro A1 cap1 w1 ho hb1; have HO := Lib.hid (show Ow 3 .i64 w1 w.heap.size w1.heap.size A1 n cap1 zs by simpa using ho); have HB := Lib.hid (((Below.refl _ _).alloc (Nat.le_refl _) _).trans hb1); clear ho hb1)
    go_wp2_with fail
    (with_reducible refine (ok_yes n c H0.out _).mono ?_)
    rintro e w2 ⟨rfl, rfl⟩
    go_wp2_with fail
    go_loopw [6] (fun i wr => ∃ k : Nat, i = .int .i64 k ∧ k ≤ n ∧ Ow 3 .i64 wr w.heap.size wr.heap.size A1 n cap1 (put n c zs k) ∧ Below w.heap.size w wr) (fun i _ => n - (intOf i).toNat)
    case atStart => exact ⟨0, rfl, by omega, HO.out, HB.out⟩
    case round =>
      clear HO HB
      obtain ⟨k, rfl, hk, ho, hb⟩ := hrel
      have HO := Lib.hid ho
      have HB := Lib.hid hb
      clear ho hb
      by_cases hlt : k < n
      · have hlt2 : (k : Int) < n := by omega
        have HK := Lib.hid hlt
        obtain ⟨b, rfl, hbl⟩ := own_some HO.out (by omega)
        have HBL := Lib.hid hbl
        obtain ⟨b', off, rfl, g1, g2, hc⟩ := (rd_drew (HR.out.below HB.out)).at_ hlt
        obtain ⟨x, hx⟩ : ∃ x, zs.getD k 0 = x := ⟨_, rfl⟩
        have HX := Lib.hid hx
        rw [hx] at hc
        obtain ⟨z, hz⟩ : ∃ z, pos n c k = z := ⟨_, rfl⟩
        have HP := Lib.hid hz
        have HI := Lib.hid (show idx n c k = z by rw [idx_yes HC.out h3 hlt, hz])
        have hzn : z < n := by rw [← hz]; exact pos_lt (by have := HC.out; omega) hlt
        have hzn2 : (z : Int) < n := by omega
        have hcell := draw.cell_of (ow_drew HO.out) hzn
        have hfree := (ow_drew HO.out).free rfl z
        obtain ⟨u, hu⟩ : ∃ u, (put n c zs k).getD z 0 = u := ⟨_, rfl⟩
        rw [hu] at hcell
        clear hx hz g1 g2 hbl hu
        go_wp2_with fail
        go_region_with (go_at_call 76; refine (specIdx n c k _).mono ?_; unfold IdxPost; rw [HI.out]; rintro e w8 ⟨rfl, m, hm⟩; have O8 := Lib.hid (by rw [hm]; exact ow_drewN (m := m) (ow_drew HO.out) : Ow 3 .i64 w8 w.heap.size wr.heap.size _ n cap1 (put n c zs k)); have B8 := Lib.hid (by rw [hm]; exact below_drewN (m := m) (below_drew HB.out) : Below w.heap.size w w8); have hc8 : w8.cell? ⟨b', off + k, none⟩ = some (.int .i64 x) := (by rw [hm]; exact hc); have hcell8 : w8.cell? ⟨b, z, none⟩ = some (.int .i64 u) := (by rw [hm]; exact hcell); have hfree8 := O8.out.free rfl z; clear hm)
        all_goals
         (have O9 := Lib.hid (show Ow 3 .i64 (w8.setCell ⟨b, z, none⟩ (.int .i64 x)) w.heap.size (w8.setCell ⟨b, z, none⟩ (.int .i64 x)).heap.size _ n cap1 (put n c zs (k + 1)) by rw [put_next HP.out HX.out]; exact (draw.ow_set O8.out z x (wf_at HR.out.wf HL.out hlt HX.out)).up)
          have B9 := Lib.hid (B8.out.setCell (p := ⟨b, z, none⟩) HBL.out (.int .i64 x))
          clear hcell8 hfree8 hcell hfree hc hc8
          go_wp2
          go_roundw
          case rel => exact ⟨k + 1, by go_num, by omega, O9.out, B9.out⟩
          case measure => simp [intOf]; omega)
      · have hlt2 : ¬ (k : Int) < n := by omega
        obtain rfl : k = n := by omega
        go_wp2_with fail
        go_ret
        rw [HY.out]
        exact ⟨_, _, _, rfl, HO.out, HB.out⟩
  · have H := Lib.hid hok
    have HY := Lib.hid (itl_no (l := zs) (c := c) (by rw [HL.out]; exact hok))
    clear hok
    go_enter Try.func60, Try.ntmps60
    go_wp2_with (at_builtin; refine wpList_app _ rfl _ _ 27 rfl 3 i0 _ .i64 Try.underlying27 HZ.out.1 HZ.out.2.1 HZ.out.2.2.1 (by rw [HZ.out.2.2.2]; omega) rfl rfl rfl (Ow.empty _ _ _) (HR.out.alloc _) (by omega) (by simp) ?_; intro A1 cap1 w1 ho hb1; have HO := Lib.hid (show Ow 3 .i64 w1 w.heap.size w1.heap.size A1 n cap1 zs by simpa using ho); have HB := Lib.hid (((Below.refl _ _).alloc (Nat.le_refl _) _).trans hb1); clear ho hb1)
    go_wp2_with fail
    (with_reducible refine (ok_no n c H.out _).mono ?_)
    rintro e w2 ⟨rfl, rfl⟩
    go_wp2_with fail
    go_ret
    rw [HY.out]
    exact ⟨_, _, _, rfl, HO.out, HB.out⟩
end Go.Proofs.Ytdelpepepbkjmaa.itl
