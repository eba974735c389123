/- Interleave and Deinterleave, program and specification. Condition: lengths up to 2^26. -/
import Derived.Test.YtdelpepepbkjmaaItl1
import Derived.Test.YtdelpepepbkjmaaDraw6
namespace Go.Proofs.Ytdelpepepbkjmaa.itl
open Go.RowKit sl harn rng itm

theorem ow_drewN {E : TypeId} {k : IntKind} {w : World} {lo hi n cap m : Nat} {A : Option Addr} {zs : List Int} (h : Ow E k w lo hi A n cap zs) : Ow E k (w.drewN m) lo hi A n cap zs := h.same (Nat.le_refl _) fun _ _ _ => rfl
theorem ow_drew {E : TypeId} {k : IntKind} {w : World} {lo hi n cap : Nat} {A : Option Addr} {zs : List Int} (h : Ow E k w lo hi A n cap zs) : Ow E k w.drew lo hi A n cap zs := h.same (Nat.le_refl _) fun _ _ _ => rfl
theorem below_drewN {B m : Nat} {a w : World} (h : Below B a w) : Below B a (w.drewN m) := h.trans ⟨rfl, rfl, rfl, Nat.le_refl _, fun _ _ => rfl⟩
theorem below_drew {B : Nat} {a w : World} (h : Below B a w) : Below B a w.drew := h.trans ⟨rfl, rfl, rfl, Nat.le_refl _, fun _ _ => rfl⟩
theorem rd_drew {k : IntKind} {w : World} {lo hi n cap : Nat} {A : Option Addr} {zs : List Int} (h : Rd k w lo hi A n cap zs) : Rd k w.drew lo hi A n cap zs := h.same (Nat.le_refl _) fun _ _ _ => rfl
theorem own_some {E : TypeId} {k : IntKind} {w : World} {lo hi n cap : Nat} {A : Option Addr} {zs : List Int} (h : Ow E k w lo hi A n cap zs) (hn : 0 < n) : ∃ b, A = some ⟨b, 0, none⟩ ∧ lo ≤ b := by
  rcases h.form with ⟨_, h0, _⟩ | ⟨g, cur, h, g1, _⟩
  · omega
  · exact ⟨g, h, g1⟩
theorem wf_at {zs : List Int} {n : Nat} (h : Wf .i64 zs) (hl : zs.length = n) {k : Nat} (hk : k < n) {x : Int} (hx : zs.getD k 0 = x) : (Lit.int .i64 x).wf = true := by
  rw [← hx]; exact h.getD (by omega)

set_option maxRecDepth 100000 in
set_option maxHeartbeats 4000000 in
theorem implItl (zs : List Int) (c : Int) (lo hi : Nat) (A : Option Addr) (n cap : Nat) (w : World) (h : Rd .i64 w lo hi A n cap zs) (hn : n ≤ 67108864) :
    Calls Try.prog 82 #[.slice A n cap, .int .i64 c] w (SlPost 3 .i64 w (itl zs c)) := by
  obtain ⟨i0, hi0, hz0, hz1, hz2⟩ := info_parts intInfo
  have hb := h.cap_
  have HL := Lib.hid h.len
  have HR := Lib.hid h
  have HZ := Lib.hid (And.intro hi0 (And.intro hz0 (And.intro hz1 hz2)))
  clear h hi0 hz0 hz1 hz2
  by_cases hok : Ok n c
  · have H0 := Lib.hid hok
    obtain ⟨a, c, ha, rfl, h1, h2, h3⟩ := hok.nats
    obtain rfl : n = a := by omega
    have HY := Lib.hid (itl_yes HL.out hok)
    have HC := Lib.hid (show 1 ≤ c ∧ c ≤ 64 from ⟨h1, h2⟩)
    clear hok ha h1 h2
    go_enter Try.func82, Try.ntmps82
    go_wp2_with (at_builtin; refine wpList_app _ rfl _ _ 27 rfl 3 i0 _ .i64 Try.underlying27 HZ.out.1 HZ.out.2.1 HZ.out.2.2.1 (by rw [HZ.out.2.2.2]; omega) rfl rfl rfl (Ow.empty _ _ _) (HR.out.alloc _) (by omega) (by simp) ?_; intro A1 cap1 w1 ho hb1; have HO := Lib.hid (show Ow 3 .i64 w1 w.heap.size w1.heap.size A1 n cap1 zs by simpa using ho); have HB := Lib.hid (((Below.refl _ _).alloc (Nat.le_refl _) _).trans hb1); clear ho hb1)
    go_wp2_with fail
    (with_reducible refine (fun_yes n c HC.out h3 _).mono ?_)
    rintro e w2 ⟨rfl, hb⟩
    have HO2 := Lib.hid (HO.out.below hb).up
    have HB2 := Lib.hid (HB.out.trans (hb.mono HB.out.size))
    clear hb HO HB
    go_wp2_with fail
    go_loopw [23] (fun i wr => ∃ k : Nat, i = .int .i64 k ∧ k ≤ n ∧ Ow 3 .i64 wr w.heap.size wr.heap.size A1 n cap1 (put n c zs k) ∧ Below w.heap.size w wr) (fun i _ => n - (intOf i).toNat)
    case atStart => exact ⟨0, rfl, by omega, HO2.out, HB2.out⟩
    case round =>
      clear HO2 HB2
      obtain ⟨k, rfl, hk, ho, hb⟩ := hrel
      have HO := Lib.hid ho
      have HB := Lib.hid hb
      clear ho hb
      by_cases hlt : k < n
      · have hlt2 : (k : Int) < n := by omega
        have HK := Lib.hid hlt
        obtain ⟨b, rfl, hbl⟩ := own_some HO.out (by omega)
        have HBL := Lib.hid hbl
        obtain ⟨b', off, rfl, g1, g2, hc⟩ := (HR.out.below HB.out).at_ hlt
        obtain ⟨x, hx⟩ : ∃ x, zs.getD k 0 = x := ⟨_, rfl⟩
        have HX := Lib.hid hx
        rw [hx] at hc
        obtain ⟨z, hz⟩ : ∃ z, pos n c k = z := ⟨_, rfl⟩
        have HP := Lib.hid hz
        have hzn : z < n := by rw [← hz]; exact pos_lt (by have := HC.out; omega) hlt
        have hzn2 : (z : Int) < n := by omega
        clear hx hz g1 g2 hbl
        go_wp2_with fail
        (with_reducible refine (position n c k HC.out h3 HK.out _).mono ?_)
        rw [HP.out]
        rintro e w3 ⟨rfl, hb⟩
        have HO3 := Lib.hid (HO.out.below hb).up
        have HB3 := Lib.hid (HB.out.trans (hb.mono HB.out.size))
        have hcell := draw.cell_of HO3.out hzn
        have hfree := HO3.out.free rfl z
        obtain ⟨u, hu⟩ : ∃ u, (put n c zs k).getD z 0 = u := ⟨_, rfl⟩
        rw [hu] at hcell
        clear hb HO HB hu hc
        go_wp2_with fail
        have HO4 := Lib.hid (draw.ow_set HO3.out z x (wf_at HR.out.wf HL.out HK.out HX.out)).up
        have HB4 := Lib.hid (HB3.out.setCell (p := ⟨b, z, none⟩) HBL.out (.int .i64 x))
        go_roundw
        case rel => exact ⟨k + 1, by go_num, by omega, by rw [put_next HP.out HX.out]; exact HO4.out, HB4.out⟩
        case measure => simp [intOf]; omega
      · have hlt2 : ¬ (k : Int) < n := by omega
        obtain rfl : k = n := by omega
        go_wp2_with fail
        go_ret
        rw [HY.out]
        exact ⟨_, _, _, rfl, HO.out, HB.out⟩
  · have H := Lib.hid hok
    have HY := Lib.hid (itl_no (l := zs) (c := c) (by rw [HL.out]; exact hok))
    clear hok
    go_enter Try.func82, Try.ntmps82
    go_wp2_with (at_builtin; refine wpList_app _ rfl _ _ 27 rfl 3 i0 _ .i64 Try.underlying27 HZ.out.1 HZ.out.2.1 HZ.out.2.2.1 (by rw [HZ.out.2.2.2]; omega) rfl rfl rfl (Ow.empty _ _ _) (HR.out.alloc _) (by omega) (by simp) ?_; intro A1 cap1 w1 ho hb1; have HO := Lib.hid (show Ow 3 .i64 w1 w.heap.size w1.heap.size A1 n cap1 zs by simpa using ho); have HB := Lib.hid (((Below.refl _ _).alloc (Nat.le_refl _) _).trans hb1); clear ho hb1)
    go_wp2_with fail
    (with_reducible refine (fun_no n c H.out _).mono ?_)
    rintro e w2 ⟨rfl, hb⟩
    have HO2 := Lib.hid (HO.out.below hb).up
    have HB2 := Lib.hid (HB.out.trans (hb.mono HB.out.size))
    clear hb HO HB
    go_wp2_with fail
    go_ret
    rw [HY.out]
    exact ⟨_, _, _, rfl, HO2.out, HB2.out⟩
end Go.Proofs.Ytdelpepepbkjmaa.itl
