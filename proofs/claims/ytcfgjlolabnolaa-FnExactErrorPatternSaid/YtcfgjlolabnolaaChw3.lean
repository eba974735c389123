/- BurstPattern, program and specification. Condition: none. -/
import Derived.Test.YtcfgjlolabnolaaOwn
import Derived.Test.YtcfgjlolabnolaaRng
import Derived.Test.YtcfgjlolabnolaaChb
namespace Go.Proofs.Ytcfgjlolabnolaa.chw
open Go.RowKit sl harn rng chm own
set_option linter.unusedVariables false

theorem cns_wf {s : Int} {k : Nat} (hs : 0 ≤ s ∧ s ≤ 10000) (hk : k ≤ 1000) : Wf .i64 (cns s k) := Wf.of_i64 fun z hz => by
  obtain ⟨i, h1, h2⟩ := ex_getD hz
  rw [cns_len] at h1
  rw [← h2, cns_at s h1]; omega
set_option maxRecDepth 100000 in
set_option maxHeartbeats 4000000 in
theorem implBurst (s l : Int) (w : World) :
    Calls Try.prog 21 #[.int .i64 s, .int .i64 l] w (SlPost 3 .i64 w (brst s l)) := by
  obtain ⟨i0, hi0, hz0, hz1, hz2⟩ := info_parts intInfo
  by_cases hs : 0 ≤ s ∧ s ≤ 10000
  · have HS := Lib.hid hs
    by_cases hl : 0 ≤ l ∧ l ≤ 1000
    · have HLL := Lib.hid hl
      obtain ⟨n, rfl⟩ := Int.eq_ofNat_of_zero_le hl.1
      have hn : n ≤ 1000 := by omega
      have hmk := fun W => run_make1 (P := Try.prog) 24 3 i0 _ Try.underlying24 hi0 hz0 hz1 n (by omega) (by omega) W
      have HY := Lib.hid (brst_yes HS.out hn)
      have HW := Lib.hid (cns_wf HS.out hn)
      clear hi0 hz0 hz1 hz2 hl
      go_enter Try.func21, Try.ntmps21
      go_wp2_with fail
      (with_reducible refine (inRange_yes s 0 10000 HS.out _).mono ?_)
      rintro e w1 ⟨rfl, rfl⟩
      go_wp2_with fail
      (with_reducible refine (inRange_yes n 0 1000 HLL.out _).mono ?_)
      rintro e w1 ⟨rfl, rfl⟩
      go_wp2_with fail
      go_loopw [20] (fun i wr => ∃ k : Nat, i = .int .i64 k ∧ k ≤ n ∧ Part .i64 3 w wr n k (cns s n)) (fun i _ => n - (intOf i).toNat)
      case atStart => exact ⟨0, rfl, by omega, Part.start _ _ _ _ _ _⟩
      case round =>
        clear hmk
        obtain ⟨k, rfl, hk, hp⟩ := hrel
        have HP := Lib.hid hp
        clear hp
        by_cases hlt : k < n
        · have hlt2 : (k : Int) < n := by omega
          obtain ⟨v, hv⟩ := HP.out.cell hlt
          have hf := HP.out.free k
          have HK := Lib.hid hlt
          have HN := Lib.hid (show Part .i64 3 w (wr.setCell ⟨w.heap.size, k, none⟩ (.int .i64 (s + k))) n (k + 1) (cns s n) by rw [← cns_at s hlt]; exact HP.out.step hlt)
          go_wp2_with fail
          go_roundw
          case rel => exact ⟨k + 1, by go_num, by omega, HN.out⟩
          case measure => simp [intOf]; omega
        · have hlt2 : ¬ (k : Int) < n := by omega
          obtain rfl : k = n := by omega
          go_wp2_with fail
          go_ret
          rw [HY.out]
          exact HP.out.done (cns_len s k) HW.out (by unfold maxLen; omega)
    · have HLL := Lib.hid hl
      have HY := Lib.hid (brst_no (s := s) (l := l) (fun g => hl g.2))
      clear hi0 hz0 hz1 hz2 hl
      go_enter Try.func21, Try.ntmps21
      go_wp2_with fail
      (with_reducible refine (inRange_yes s 0 10000 HS.out _).mono ?_)
      rintro e w1 ⟨rfl, rfl⟩
      go_wp2_with fail
      (with_reducible refine (inRange_no l 0 1000 HLL.out _).mono ?_)
      rintro e w1 ⟨rfl, rfl⟩
      go_wp2_with fail
      go_ret
      rw [HY.out]
      exact ⟨_, _, _, rfl, (Ow.empty 3 .i64 w).up, (Below.refl _ _).alloc (Nat.le_refl _) _⟩
  · have HS := Lib.hid hs
    have HY := Lib.hid (brst_no (s := s) (l := l) (fun g => hs g.1))
    clear hi0 hz0 hz1 hz2 hs
    go_enter Try.func21, Try.ntmps21
    go_wp2_with fail
    (with_reducible refine (inRange_no s 0 10000 HS.out _).mono ?_)
    rintro e w1 ⟨rfl, rfl⟩
    go_wp2_with fail
    go_ret
    rw [HY.out]
    exact ⟨_, _, _, rfl, (Ow.empty 3 .i64 w).up, (Below.refl _ _).alloc (Nat.le_refl _) _⟩
/-- What is gathered. -/
def Got (w wr : World) (l : List Int) (v : Value) : Prop := ∃ A q c, v = .slice A q c ∧ Ow 3 .i64 wr w.heap.size wr.heap.size A q c l ∧ Below w.heap.size w wr
set_option maxRecDepth 100000 in
set_option maxHeartbeats 4000000 in
theorem specBurst (s l : Int) (w : World) :
    Calls Try.prog 28 #[.int .i64 s, .int .i64 l] w (SlPost 3 .i64 w (brst s l)) := by
  obtain ⟨i0, hi0, hz0, hz1, hz2⟩ := info_parts intInfo
  have HZ := Lib.hid (And.intro hi0 (And.intro hz0 (And.intro hz1 hz2)))
  clear hi0 hz0 hz1 hz2
  by_cases hl0 : 0 < l
  · by_cases hs : 0 ≤ s ∧ s ≤ 10000
    · have HS := Lib.hid hs
      by_cases hl : l ≤ 1000
      · obtain ⟨n, rfl⟩ := Int.eq_ofNat_of_zero_le (show 0 ≤ l by omega)
        have hn : n ≤ 1000 := by omega
        have HY := Lib.hid (brst_yes HS.out hn)
        go_enter Try.func28, Try.ntmps28
        go_wp2_with fail
        go_loopw [5, 6] (fun v i wr => ∃ k : Nat, i = .int .i64 k ∧ k ≤ n ∧ Got w wr (cns s k) v) (fun _ i _ => n - (intOf i).toNat)
        case atStart => exact ⟨0, rfl, by omega, _, _, _, rfl, (Ow.empty 3 .i64 w).up, (Below.refl _ _).alloc (Nat.le_refl _) _⟩
        case round =>
          obtain ⟨k, rfl, hk, A, q, cp, rfl, ho, hb⟩ := hrel
          have HO := Lib.hid ho
          have HB := Lib.hid hb
          have hq : q ≤ 1000 := by have h1 := ho.len; rw [cns_len] at h1; omega
          clear ho hb
          by_cases hlt : k < n
          · have hlt2 : (k : Int) < n := by omega
            obtain ⟨y, hy⟩ : ∃ y, s + (k : Int) = y := ⟨_, rfl⟩
            have HW := Lib.hid (show (Lit.int .i64 y).wf = true from WalkArith.wf_i64 (by omega))
            have HN := Lib.hid (show cns s (k + 1) = cns s k ++ [y] by rw [cns_succ, hy])
            have k1 : IntKind.i64.wrap y = y := IntWalk.i64_in _ (by omega)
            have k2 : wrap64 y = y := by unfold wrap64; omega
            go_wp2_with fail
            (with_reducible refine (l1In_yes s 0 10000 HS.out _).mono ?_)
            rintro e w1 ⟨rfl, rfl⟩
            go_wp2_with (at_builtin; refine wpList_app _ rfl _ _ 24 rfl 3 i0 _ .i64 Try.underlying24 HZ.out.1 HZ.out.2.1 HZ.out.2.2.1 (by rw [HZ.out.2.2.2]; omega) rfl rfl rfl (HO.out.alloc _) (Rd.one .i64 _ _ _ HW.out) (by omega) (by have := HB.out.size; simp; omega) ?_; intro A1 cap1 w6 ho hb1; have O6 := Lib.hid ho; have B6 := Lib.hid ((HB.out.alloc HB.out.size _).trans hb1); clear ho hb1)
            go_roundw
            case rel => exact ⟨k + 1, by go_num, by omega, _, _, _, rfl, by rw [HN.out]; exact O6.out, B6.out⟩
            case measure => simp [intOf]; omega
          · have hlt2 : ¬ (k : Int) < n := by omega
            obtain rfl : k = n := by omega
            go_wp2_with fail
            go_ret
            rw [HY.out]
            exact ⟨_, _, _, rfl, HO.out, HB.out⟩
      · have HY := Lib.hid (brst_no (s := s) (l := l) (fun g => by omega))
        clear hs
        go_enter Try.func28, Try.ntmps28
        go_wp2_with fail
        go_loopw [5, 6] (fun v i wr => v = .slice (some ⟨w.heap.size, 0, none⟩) 0 0 ∧ i = .int .i64 0 ∧ wr = w.alloc (.cells #[] 3)) (fun _ _ _ => 0)
        case atStart => exact ⟨rfl, rfl, rfl⟩
        case round =>
          obtain ⟨rfl, rfl, rfl⟩ := hrel
          go_wp2_with fail
          (with_reducible refine (l1In_yes s 0 10000 HS.out _).mono ?_)
          rintro e w1 ⟨rfl, rfl⟩
          go_wp2_with fail
          go_ret
          rw [HY.out]
          exact ⟨_, _, _, rfl, (Ow.empty 3 .i64 w).up, (Below.refl _ _).alloc (Nat.le_refl _) _⟩
    · have HS := Lib.hid hs
      have HY := Lib.hid (brst_no (s := s) (l := l) (fun g => hs g.1))
      clear hs
      go_enter Try.func28, Try.ntmps28
      go_wp2_with fail
      go_loopw [5, 6] (fun v i wr => v = .slice (some ⟨w.heap.size, 0, none⟩) 0 0 ∧ i = .int .i64 0 ∧ wr = w.alloc (.cells #[] 3)) (fun _ _ _ => 0)
      case atStart => exact ⟨rfl, rfl, rfl⟩
      case round =>
        obtain ⟨rfl, rfl, rfl⟩ := hrel
        go_wp2_with fail
        (with_reducible refine (l1In_no s 0 10000 HS.out _).mono ?_)
        rintro e w1 ⟨rfl, rfl⟩
        go_wp2_with fail
        go_ret
        rw [HY.out]
        exact ⟨_, _, _, rfl, (Ow.empty 3 .i64 w).up, (Below.refl _ _).alloc (Nat.le_refl _) _⟩
  · have HY : Hid (brst s l = []) := by
      unfold Hid
      by_cases h0 : l = 0
      · subst h0
        by_cases hs : 0 ≤ s ∧ s ≤ 10000
        · exact (brst_yes (l := 0) hs (by omega)).trans rfl
        · exact brst_no fun g => hs g.1
      · exact brst_no fun g => by omega
    go_enter Try.func28, Try.ntmps28
    go_wp2_with fail
    go_loopw [5, 6] (fun v i wr => v = .slice (some ⟨w.heap.size, 0, none⟩) 0 0 ∧ i = .int .i64 0 ∧ wr = w.alloc (.cells #[] 3)) (fun _ _ _ => 0)
    case atStart => exact ⟨rfl, rfl, rfl⟩
    case round =>
      obtain ⟨rfl, rfl, rfl⟩ := hrel
      go_wp2_with fail
      go_ret
      rw [HY.out]
      exact ⟨_, _, _, rfl, (Ow.empty 3 .i64 w).up, (Below.refl _ _).alloc (Nat.le_refl _) _⟩
end Go.Proofs.Ytcfgjlolabnolaa.chw
