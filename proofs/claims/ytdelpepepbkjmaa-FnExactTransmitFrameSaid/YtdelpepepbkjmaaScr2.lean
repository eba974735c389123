/- Scramble, program and specification. Condition: lengths up to 2^26. -/
import Derived.Test.YtdelpepepbkjmaaScr1
import Derived.Test.YtdelpepepbkjmaaApp
import Derived.Test.YtdelpepepbkjmaaDraw6
import Derived.Deep.RegionWith
namespace Go.Proofs.Ytdelpepepbkjmaa.scrs
open Go.RowKit sl harn bm rng scrm

theorem ow_drew {E : TypeId} {k : IntKind} {w : World} {lo hi n cap : Nat} {A : Option Addr} {zs : List Int} (h : Ow E k w lo hi A n cap zs) : Ow E k w.drew lo hi A n cap zs := h.same (Nat.le_refl _) fun _ _ _ => rfl
theorem below_drew {B : Nat} {a w : World} (h : Below B a w) : Below B a w.drew := h.trans ⟨rfl, rfl, rfl, Nat.le_refl _, fun _ _ => rfl⟩
theorem own_some {E : TypeId} {k : IntKind} {w : World} {lo hi n cap : Nat} {A : Option Addr} {zs : List Int} (h : Ow E k w lo hi A n cap zs) (hn : 0 < n) : ∃ b, A = some ⟨b, 0, none⟩ ∧ lo ≤ b := by
  rcases h.form with ⟨_, h0, _⟩ | ⟨g, cur, h, g1, _⟩
  · omega
  · exact ⟨g, h, g1⟩
theorem half_next {a b : List Int} {k : Nat} {v : Int} (h : a.length = b.length) (hk : k < a.length) (hv : a.getD k 0 = v) : (half a b k).set k v = half a b (k + 1) := by
  rw [← hv]; exact half_set h hk

set_option maxRecDepth 100000 in
set_option maxHeartbeats 4000000 in
theorem implScr (s : Int) (zs : List Int) (lo hi : Nat) (A : Option Addr) (n cap : Nat) (w : World) (h : Rd .i64 w lo hi A n cap zs) (hn : n ≤ 67108864) :
    Calls Try.prog 78 #[.int .i64 s, .slice A n cap] w (SlPost 3 .i64 w (scr s zs)) := by
  obtain ⟨i0, hi0, hz0, hz1, hz2⟩ := info_parts intInfo
  have hb := h.cap_
  have HL := Lib.hid h.len
  have HR := Lib.hid h
  have HZ := Lib.hid (And.intro hi0 (And.intro hz0 (And.intro hz1 hz2)))
  clear h hi0 hz0 hz1 hz2
  by_cases h : 1 ≤ s ∧ s ≤ 127
  · have H := Lib.hid h
    by_cases hi1 : isb zs = true
    · have H0 := Lib.hid (scr_yes h hi1)
      have HI := Lib.hid hi1
      clear h hi1
      go_enter Try.func78, Try.ntmps78
      go_wp2_with (at_builtin; refine wpList_app _ rfl _ _ 27 rfl 3 i0 _ .i64 Try.underlying27 HZ.out.1 HZ.out.2.1 HZ.out.2.2.1 (by rw [HZ.out.2.2.2]; omega) rfl rfl rfl (Ow.empty _ _ _) (HR.out.alloc _) (by omega) (by simp) ?_; intro A1 cap1 w1 ho hb1; have HO := Lib.hid (show Ow 3 .i64 w1 w.heap.size w1.heap.size A1 n cap1 zs by simpa using ho); have HB := Lib.hid (((Below.refl _ _).alloc (Nat.le_refl _) _).trans hb1); clear ho hb1)
      go_wp2_with fail
      (with_reducible refine (isState_yes s H.out _).mono ?_)
      rintro e w2 ⟨rfl, rfl⟩
      go_wp2_with fail
      (with_reducible refine (bits.implIsb zs _ _ A n cap _ (HR.out.below HB.out)).mono ?_)
      rw [HI.out]
      rintro e w2 ⟨rfl, rfl⟩
      go_wp2_with fail
      go_loopw [0, 21] (fun t i wr => ∃ k : Nat, i = .int .i64 k ∧ t = .int .i64 (nth k s) ∧ k ≤ n ∧ Ow 3 .i64 wr w.heap.size wr.heap.size A1 n cap1 (half (mixed s zs) zs k) ∧ Below w.heap.size w wr) (fun _ i _ => n - (intOf i).toNat)
      case atStart => exact ⟨0, rfl, rfl, by omega, by rw [half_zero]; exact HO.out, HB.out⟩
      case round =>
        clear HO HB
        obtain ⟨k, rfl, rfl, hk, ho, hb⟩ := hrel
        have HO := Lib.hid ho
        have HB := Lib.hid hb
        clear ho hb
        obtain ⟨t, ht⟩ : ∃ t, nth k s = t := ⟨_, rfl⟩
        have HT := Lib.hid ht
        rw [ht]
        clear ht
        by_cases hlt : k < n
        · have hlt2 : (k : Int) < n := by omega
          have HTT := Lib.hid (show 1 ≤ t ∧ t ≤ 127 by rw [← HT.out]; exact nth_in k H.out)
          obtain ⟨b, rfl, hbl⟩ := own_some HO.out (by omega)
          have HBL := Lib.hid hbl
          have hcell := draw.cell_of (ow_drew HO.out) hlt
          have hfree := (ow_drew HO.out).free rfl k
          rw [half_at (by rw [mixed_len, HL.out]; omega)] at hcell
          obtain ⟨x, hx⟩ : ∃ x, zs.getD k 0 = x := ⟨_, rfl⟩
          obtain ⟨o, hoe⟩ : ∃ o, outp t = o := ⟨_, rfl⟩
          obtain ⟨v, hv⟩ : ∃ v, bits .xor .i64 x o = v := ⟨_, rfl⟩
          have hx01 := bm.isb_getD HI.out k
          have ho01 := outp_in t
          rw [hx] at hcell hx01
          rw [hoe] at ho01
          have HV := Lib.hid (show (Lit.int .i64 v).wf = true by rw [← hv, xor_bit hx01 ho01]; exact WalkArith.wf_i64 (by split <;> omega))
          have HN := Lib.hid (show (half (mixed s zs) zs k).set k v = half (mixed s zs) zs (k + 1) from half_next (mixed_len _ _) (by rw [mixed_len, HL.out]; exact hlt) (by rw [mixed_at _ _ _ (by rw [HL.out]; exact hlt), HT.out, hx, hoe, hv]))
          have HE := Lib.hid hoe
          have HX := Lib.hid hx
          clear hx hoe hx01 ho01 hbl
          go_wp2_with fail
          go_region_with (go_at_call 92; refine (outputBit t HTT.out _).mono ?_; rw [HE.out]; rintro e w8 ⟨rfl, hb8⟩; have O8 := Lib.hid ((ow_drew HO.out).below hb8); have hcell8 := draw.cell_of O8.out hlt; rw [half_at (by rw [mixed_len, HL.out]; omega), HX.out] at hcell8; have hfree8 := O8.out.free rfl k; have B8 := Lib.hid ((below_drew HB.out).trans (hb8.mono (below_drew HB.out).size)); clear hb8)
          all_goals
           (have O9 := Lib.hid (show Ow 3 .i64 (w8.setCell ⟨b, k, none⟩ (.int .i64 v)) w.heap.size (w8.setCell ⟨b, k, none⟩ (.int .i64 v)).heap.size _ n cap1 (half (mixed s zs) zs (k + 1)) by have := draw.ow_set O8.out k v HV.out; rw [HN.out] at this; exact this.up)
            have B9 := Lib.hid (B8.out.setCell (p := ⟨b, k, none⟩) HBL.out (.int .i64 v))
            clear hcell8 hfree8 hcell hfree
            go_wp2_with (go_at_call 93; refine (implNext t _).mono ?_; rintro e w10 ⟨rfl, hb⟩; have O10 := Lib.hid (O9.out.below hb).up; have B10 := Lib.hid (B9.out.trans (hb.mono B9.out.size)); clear hb)
            go_roundw
            case rel => exact ⟨k + 1, by go_num, by rw [nth_succ, HT.out], by omega, O10.out, B10.out⟩
            case measure => simp [intOf]; omega)
        · have hlt2 : ¬ (k : Int) < n := by omega
          obtain rfl : k = n := by omega
          go_wp2
          go_ret
          rw [H0.out]
          refine ⟨_, _, _, rfl, ?_, HB.out⟩
          have := HO.out
          rw [half_all (by rw [mixed_len, HL.out]) HL.out] at this
          exact this
    · have H0 := Lib.hid (scr_no (s := s) (l := zs) (fun h => hi1 h.2))
      have HI := Lib.hid (show isb zs = false by simpa using hi1)
      clear h hi1
      go_enter Try.func78, Try.ntmps78
      go_wp2_with (at_builtin; refine wpList_app _ rfl _ _ 27 rfl 3 i0 _ .i64 Try.underlying27 HZ.out.1 HZ.out.2.1 HZ.out.2.2.1 (by rw [HZ.out.2.2.2]; omega) rfl rfl rfl (Ow.empty _ _ _) (HR.out.alloc _) (by omega) (by simp) ?_; intro A1 cap1 w1 ho hb1; have HO := Lib.hid (show Ow 3 .i64 w1 w.heap.size w1.heap.size A1 n cap1 zs by simpa using ho); have HB := Lib.hid (((Below.refl _ _).alloc (Nat.le_refl _) _).trans hb1); clear ho hb1)
      go_wp2_with fail
      (with_reducible refine (isState_yes s H.out _).mono ?_)
      rintro e w2 ⟨rfl, rfl⟩
      go_wp2_with fail
      (with_reducible refine (bits.implIsb zs _ _ A n cap _ (HR.out.below HB.out)).mono ?_)
      rw [HI.out]
      rintro e w2 ⟨rfl, rfl⟩
      go_wp2_with fail
      go_ret
      rw [H0.out]
      exact ⟨_, _, _, rfl, HO.out, HB.out⟩
  · have H := Lib.hid h
    have H0 := Lib.hid (scr_no (s := s) (l := zs) (fun g => h g.1))
    clear h
    go_enter Try.func78, Try.ntmps78
    go_wp2_with (at_builtin; refine wpList_app _ rfl _ _ 27 rfl 3 i0 _ .i64 Try.underlying27 HZ.out.1 HZ.out.2.1 HZ.out.2.2.1 (by rw [HZ.out.2.2.2]; omega) rfl rfl rfl (Ow.empty _ _ _) (HR.out.alloc _) (by omega) (by simp) ?_; intro A1 cap1 w1 ho hb1; have HO := Lib.hid (show Ow 3 .i64 w1 w.heap.size w1.heap.size A1 n cap1 zs by simpa using ho); have HB := Lib.hid (((Below.refl _ _).alloc (Nat.le_refl _) _).trans hb1); clear ho hb1)
    go_wp2_with fail
    (with_reducible refine (isState_no s H.out _).mono ?_)
    rintro e w2 ⟨rfl, rfl⟩
    go_wp2_with fail
    go_ret
    rw [H0.out]
    exact ⟨_, _, _, rfl, HO.out, HB.out⟩
theorem bits_rd_drew {k : IntKind} {w : World} {lo hi n cap : Nat} {A : Option Addr} {zs : List Int} (h : Rd k w lo hi A n cap zs) : Rd k w.drew lo hi A n cap zs := h.same (Nat.le_refl _) fun _ _ _ => rfl
set_option maxRecDepth 100000 in
set_option maxHeartbeats 4000000 in
theorem specScr (s : Int) (zs : List Int) (lo hi : Nat) (A : Option Addr) (n cap : Nat) (w : World) (h : Rd .i64 w lo hi A n cap zs) (hn : n ≤ 67108864) :
    Calls Try.prog 56 #[.int .i64 s, .slice A n cap] w (SlPost 3 .i64 w (scr s zs)) := by
  obtain ⟨i0, hi0, hz0, hz1, hz2⟩ := info_parts intInfo
  have hb := h.cap_
  have HL := Lib.hid h.len
  have HR := Lib.hid h
  have HZ := Lib.hid (And.intro hi0 (And.intro hz0 (And.intro hz1 hz2)))
  clear h hi0 hz0 hz1 hz2
  by_cases h : 1 ≤ s ∧ s ≤ 127
  · have H := Lib.hid h
    by_cases hi1 : isb zs = true
    · have H0 := Lib.hid (scr_yes h hi1)
      have HI := Lib.hid hi1
      clear h hi1
      go_enter Try.func56, Try.ntmps56
      go_wp2_with (at_builtin; refine wpList_app _ rfl _ _ 27 rfl 3 i0 _ .i64 Try.underlying27 HZ.out.1 HZ.out.2.1 HZ.out.2.2.1 (by rw [HZ.out.2.2.2]; omega) rfl rfl rfl (Ow.empty _ _ _) (HR.out.alloc _) (by omega) (by simp) ?_; intro A1 cap1 w1 ho hb1; have HO := Lib.hid (show Ow 3 .i64 w1 w.heap.size w1.heap.size A1 n cap1 zs by simpa using ho); have HB := Lib.hid (((Below.refl _ _).alloc (Nat.le_refl _) _).trans hb1); clear ho hb1)
      go_wp2_with fail
      (with_reducible refine (l1In_yes s 1 127 H.out _).mono ?_)
      rintro e w2 ⟨rfl, rfl⟩
      go_wp2_with fail
      (with_reducible refine (bits.specIsb zs _ _ A n cap _ (HR.out.below HB.out)).mono ?_)
      rw [HI.out]
      rintro e w2 ⟨rfl, rfl⟩
      go_wp2_with fail
      go_loopw [0, 6] (fun t i wr => ∃ k : Nat, i = .int .i64 k ∧ t = .int .i64 (nth k s) ∧ k ≤ n ∧ Ow 3 .i64 wr w.heap.size wr.heap.size A1 n cap1 (half (mixed s zs) zs k) ∧ Below w.heap.size w wr) (fun _ i _ => n - (intOf i).toNat)
      case atStart => exact ⟨0, rfl, rfl, by omega, by rw [half_zero]; exact HO.out, HB.out⟩
      case round =>
        clear HO HB
        obtain ⟨k, rfl, rfl, hk, ho, hb⟩ := hrel
        have HO := Lib.hid ho
        have HB := Lib.hid hb
        clear ho hb
        obtain ⟨t, ht⟩ : ∃ t, nth k s = t := ⟨_, rfl⟩
        have HT := Lib.hid ht
        rw [ht]
        clear ht
        by_cases hlt : k < n
        · have hlt2 : (k : Int) < n := by omega
          have HTT := Lib.hid (show 1 ≤ t ∧ t ≤ 127 by rw [← HT.out]; exact nth_in k H.out)
          obtain ⟨b, rfl, hbl⟩ := own_some HO.out (by omega)
          have HBL := Lib.hid hbl
          obtain ⟨b', off, rfl, h1, h2, hcell⟩ := (bits_rd_drew (HR.out.below HB.out)).at_ hlt
          have hcell2 := draw.cell_of (ow_drew HO.out) hlt
          obtain ⟨u, hu⟩ : ∃ u, (half (mixed s zs) zs k).getD k 0 = u := ⟨_, rfl⟩
          rw [hu] at hcell2
          clear hu
          have hfree := (ow_drew HO.out).free rfl k
          obtain ⟨x, hx⟩ : ∃ x, zs.getD k 0 = x := ⟨_, rfl⟩
          obtain ⟨o, hoe⟩ : ∃ o, outp t = o := ⟨_, rfl⟩
          obtain ⟨v, hv⟩ : ∃ v, bits .xor .i64 x o = v := ⟨_, rfl⟩
          have hx01 := bm.isb_getD HI.out k
          have ho01 := outp_in t
          rw [hx] at hcell hx01
          rw [hoe] at ho01
          have HV := Lib.hid (show (Lit.int .i64 v).wf = true by rw [← hv, xor_bit hx01 ho01]; exact WalkArith.wf_i64 (by split <;> omega))
          have HN := Lib.hid (show (half (mixed s zs) zs k).set k v = half (mixed s zs) zs (k + 1) from half_next (mixed_len _ _) (by rw [mixed_len, HL.out]; exact hlt) (by rw [mixed_at _ _ _ (by rw [HL.out]; exact hlt), HT.out, hx, hoe, hv]))
          have HE := Lib.hid hoe
          have HX := Lib.hid hx
          clear hx hoe hx01 ho01 hbl
          go_wp2_with fail
          go_region_with (go_at_call 72; refine (l5Out t HTT.out _).mono ?_; rw [HE.out]; rintro e w8 ⟨rfl, rfl⟩)
          all_goals
           (have O9 := Lib.hid (show Ow 3 .i64 ((wr.setCell ⟨b, k, none⟩ (.int .i64 v)).drew) w.heap.size ((wr.setCell ⟨b, k, none⟩ (.int .i64 v)).drew).heap.size _ n cap1 (half (mixed s zs) zs (k + 1)) by have := draw.ow_set HO.out k v HV.out; rw [HN.out] at this; exact ow_drew this.up)
            have B9 := Lib.hid (below_drew (HB.out.setCell (p := ⟨b, k, none⟩) HBL.out (.int .i64 v)))
            clear hcell hcell2 hfree
            go_wp2_with (go_at_call 73; refine (specNext t _).mono ?_; rintro e w10 ⟨rfl, rfl⟩)
            go_roundw
            case rel => exact ⟨k + 1, by go_num, by rw [nth_succ, HT.out], by omega, O9.out, B9.out⟩
            case measure => simp [intOf]; omega)
        · have hlt2 : ¬ (k : Int) < n := by omega
          obtain rfl : k = n := by omega
          go_wp2
          go_ret
          rw [H0.out]
          refine ⟨_, _, _, rfl, ?_, HB.out⟩
          have := HO.out
          rw [half_all (by rw [mixed_len, HL.out]) HL.out] at this
          exact this
    · have H0 := Lib.hid (scr_no (s := s) (l := zs) (fun h => hi1 h.2))
      have HI := Lib.hid (show isb zs = false by simpa using hi1)
      clear h hi1
      go_enter Try.func56, Try.ntmps56
      go_wp2_with (at_builtin; refine wpList_app _ rfl _ _ 27 rfl 3 i0 _ .i64 Try.underlying27 HZ.out.1 HZ.out.2.1 HZ.out.2.2.1 (by rw [HZ.out.2.2.2]; omega) rfl rfl rfl (Ow.empty _ _ _) (HR.out.alloc _) (by omega) (by simp) ?_; intro A1 cap1 w1 ho hb1; have HO := Lib.hid (show Ow 3 .i64 w1 w.heap.size w1.heap.size A1 n cap1 zs by simpa using ho); have HB := Lib.hid (((Below.refl _ _).alloc (Nat.le_refl _) _).trans hb1); clear ho hb1)
      go_wp2_with fail
      (with_reducible refine (l1In_yes s 1 127 H.out _).mono ?_)
      rintro e w2 ⟨rfl, rfl⟩
      go_wp2_with fail
      (with_reducible refine (bits.specIsb zs _ _ A n cap _ (HR.out.below HB.out)).mono ?_)
      rw [HI.out]
      rintro e w2 ⟨rfl, rfl⟩
      go_wp2_with fail
      go_ret
      rw [H0.out]
      exact ⟨_, _, _, rfl, HO.out, HB.out⟩
  · have H := Lib.hid h
    have H0 := Lib.hid (scr_no (s := s) (l := zs) (fun g => h g.1))
    clear h
    go_enter Try.func56, Try.ntmps56
    go_wp2_with (at_builtin; refine wpList_app _ rfl _ _ 27 rfl 3 i0 _ .i64 Try.underlying27 HZ.out.1 HZ.out.2.1 HZ.out.2.2.1 (by rw [HZ.out.2.2.2]; omega) rfl rfl rfl (Ow.empty _ _ _) (HR.out.alloc _) (by omega) (by simp) ?_; intro A1 cap1 w1 ho hb1; have HO := Lib.hid (show Ow 3 .i64 w1 w.heap.size w1.heap.size A1 n cap1 zs by simpa using ho); have HB := Lib.hid (((Below.refl _ _).alloc (Nat.le_refl _) _).trans hb1); clear ho hb1)
    go_wp2_with fail
    (with_reducible refine (l1In_no s 1 127 H.out _).mono ?_)
    rintro e w2 ⟨rfl, rfl⟩
    go_wp2_with fail
    go_ret
    rw [H0.out]
    exact ⟨_, _, _, rfl, HO.out, HB.out⟩
end Go.Proofs.Ytdelpepepbkjmaa.scrs
