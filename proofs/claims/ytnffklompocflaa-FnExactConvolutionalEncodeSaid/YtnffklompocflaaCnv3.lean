/- Puncturing, program and specification. Condition: lengths up to 2^26. -/
import Derived.Test.YtnffklompocflaaCnv1
namespace Go.Proofs.Ytnffklompocflaa.cvs
open Go.RowKit sl harn bm rng cvm

theorem part_low {kd : IntKind} {E : TypeId} {w wr : World} {n k : Nat} {zs : List Int} (h : Part kd E w wr n k zs) : Below w.heap.size w wr := by
  obtain ⟨_, _, _, _, h4⟩ := h
  exact h4
/-- What is kept of the first k. -/
def Kept (w wr : World) (zs : List Int) (k : Nat) (v : Value) : Prop := ∃ A q c, v = .slice A q c ∧ q = k - k / 4 ∧ Ow 3 .i64 wr w.heap.size wr.heap.size A q c (pk 0 (zs.take k)) ∧ Below w.heap.size w wr
theorem Kept.done {w wr : World} {zs : List Int} {k q : Nat} {A : Option Addr} {c : Nat} (ho : Ow 3 .i64 wr w.heap.size wr.heap.size A q c (pk 0 (zs.take k))) (hb : Below w.heap.size w wr) (hl : zs.length = k) : SlPost 3 .i64 w (punc zs) (.returned (.slice A q c)) wr := by
  rw [List.take_of_length_le (by omega)] at ho
  exact ⟨_, _, _, rfl, ho, hb⟩
set_option maxRecDepth 100000 in
theorem implPc (zs : List Int) (lo hi : Nat) (A : Option Addr) (n cap : Nat) (w : World) (h : Rd .i64 w lo hi A n cap zs) (hn : n ≤ 67108864) :
    Calls Try.prog 23 #[.slice A n cap] w (SlPost 3 .i64 w (punc zs)) := by
  obtain ⟨i0, hi0, hz0, hz1, hz2⟩ := info_parts intInfo
  have hb := h.cap_
  have HZ := Lib.hid (And.intro hi0 (And.intro hz0 (And.intro hz1 hz2)))
  have HLen := Lib.hid h.len
  have HR := Lib.hid h
  clear h hi0 hz0 hz1 hz2
  go_enter Try.func23, Try.ntmps23
  go_wp2_with fail
  go_loopw [3, 9] (fun v i wr => ∃ k : Nat, i = .int .i64 k ∧ k ≤ n ∧ Kept w wr zs k v) (fun _ i _ => n - (intOf i).toNat)
  case atStart => exact ⟨0, rfl, by omega, _, _, _, rfl, rfl, (Ow.empty 3 .i64 w).up, (Below.refl _ _).alloc (Nat.le_refl _) _⟩
  case round =>
    obtain ⟨k, rfl, hk, B, q, c, rfl, hq, ho, hb2⟩ := hrel
    have O2 := Lib.hid ho
    have B2 := Lib.hid hb2
    have HQ := Lib.hid hq
    have hq2 : q ≤ 67108864 := by omega
    clear ho hb2 hq
    by_cases hlt : k < n
    · have hlt2 : (k : Int) < n := by omega
      obtain ⟨b, off, rfl, h1, h2, hc⟩ := (HR.out.below B2.out).at_ hlt
      have HV := Lib.hid (HR.out.wf.getD (i := k) (by rw [HLen.out]; exact hlt))
      obtain ⟨x, hx⟩ : ∃ x, zs.getD k 0 = x := ⟨_, rfl⟩
      have HP := Lib.hid (pk_take (by rw [HLen.out]; exact hlt) hx)
      rw [hx] at hc HV
      clear h1 h2 hx
      by_cases h3 : k % 4 = 3
      · have H3 := Lib.hid h3
        have HQ2 := Lib.hid (show q = (k + 1) - (k + 1) / 4 by rw [HQ.out]; omega)
        clear h3
        go_wp2_with fail
        (with_reducible refine (isPun_yes k H3.out _).mono ?_)
        rintro e w7 ⟨rfl, rfl⟩
        go_wp2_with fail
        go_roundw
        case rel => exact ⟨k + 1, by go_num, by omega, _, _, _, rfl, HQ2.out, by rw [HP.out, if_pos H3.out]; exact O2.out, B2.out⟩
        case measure => simp [intOf]; omega
      · have H3 := Lib.hid h3
        have HQ2 := Lib.hid (show q + 1 = (k + 1) - (k + 1) / 4 by rw [HQ.out]; omega)
        clear h3
        go_wp2_with fail
        (with_reducible refine (isPun_no k H3.out _).mono ?_)
        rintro e w7 ⟨rfl, rfl⟩
        go_wp2_with (at_builtin; refine wpList_app _ rfl _ _ 24 rfl 3 i0 _ .i64 Try.underlying24 HZ.out.1 HZ.out.2.1 HZ.out.2.2.1 (by rw [HZ.out.2.2.2]; omega) rfl rfl rfl (O2.out.alloc _) (Rd.one .i64 _ _ _ HV.out) (by omega) (by have := B2.out.size; simp; omega) ?_; intro A1 cap1 w6 ho hb1; have O6 := Lib.hid ho; have B6 := Lib.hid ((B2.out.alloc B2.out.size _).trans hb1); clear ho hb1)
        go_roundw
        case rel => exact ⟨k + 1, by go_num, by omega, _, _, _, rfl, HQ2.out, by rw [HP.out, if_neg H3.out]; exact O6.out, B6.out⟩
        case measure => simp [intOf]; omega
    · have hlt2 : ¬ (k : Int) < n := by omega
      obtain rfl : k = n := by omega
      go_wp2_with fail
      go_ret
      exact Kept.done O2.out B2.out HLen.out
set_option maxRecDepth 100000 in
theorem specPc (zs : List Int) (lo hi : Nat) (A : Option Addr) (n cap : Nat) (w : World) (h : Rd .i64 w lo hi A n cap zs) (hn : n ≤ 67108864) :
    Calls Try.prog 36 #[.slice A n cap] w (SlPost 3 .i64 w (punc zs)) := by
  obtain ⟨i0, hi0, hz0, hz1, hz2⟩ := info_parts intInfo
  have hb := h.cap_
  have HZ := Lib.hid (And.intro hi0 (And.intro hz0 (And.intro hz1 hz2)))
  have HLen := Lib.hid h.len
  have HR := Lib.hid h
  clear h hi0 hz0 hz1 hz2
  go_enter Try.func36, Try.ntmps36
  go_wp2_with fail
  go_loopw [3, 4] (fun v i wr => ∃ k : Nat, i = .int .i64 k ∧ k ≤ n ∧ Kept w wr zs k v) (fun _ i _ => n - (intOf i).toNat)
  case atStart => exact ⟨0, rfl, by omega, _, _, _, rfl, rfl, (Ow.empty 3 .i64 w).up, (Below.refl _ _).alloc (Nat.le_refl _) _⟩
  case round =>
    obtain ⟨k, rfl, hk, B, q, c, rfl, hq, ho, hb2⟩ := hrel
    have O2 := Lib.hid ho
    have B2 := Lib.hid hb2
    have HQ := Lib.hid hq
    have hq2 : q ≤ 67108864 := by omega
    clear ho hb2 hq
    by_cases hlt : k < n
    · have hlt2 : (k : Int) < n := by omega
      obtain ⟨b, off, rfl, h1, h2, hc⟩ := (HR.out.below B2.out).at_ hlt
      have HV := Lib.hid (HR.out.wf.getD (i := k) (by rw [HLen.out]; exact hlt))
      obtain ⟨x, hx⟩ : ∃ x, zs.getD k 0 = x := ⟨_, rfl⟩
      have HP := Lib.hid (pk_take (by rw [HLen.out]; exact hlt) hx)
      rw [hx] at hc HV
      clear h1 h2 hx
      have h0 : 0 ≤ (k : Int) := by omega
      by_cases h3 : k % 4 = 3
      · have H3 := Lib.hid h3
        have HQ2 := Lib.hid (show q = (k + 1) - (k + 1) / 4 by rw [HQ.out]; omega)
        have h4 : (k : Int) % 4 = 3 := by omega
        clear h3
        go_wp2_with fail
        go_roundw
        case rel => exact ⟨k + 1, by go_num, by omega, _, _, _, rfl, HQ2.out, by rw [HP.out, if_pos H3.out]; exact O2.out, B2.out⟩
        case measure => simp [intOf]; omega
      · have H3 := Lib.hid h3
        have HQ2 := Lib.hid (show q + 1 = (k + 1) - (k + 1) / 4 by rw [HQ.out]; omega)
        obtain ⟨r, hr⟩ : ∃ r, (k : Int) % 4 = r := ⟨_, rfl⟩
        have hr2 : (r == 3) = false := by
          have : r ≠ 3 := by omega
          simpa using this
        clear h3
        go_wp2_with (at_builtin; refine wpList_app _ rfl _ _ 24 rfl 3 i0 _ .i64 Try.underlying24 HZ.out.1 HZ.out.2.1 HZ.out.2.2.1 (by rw [HZ.out.2.2.2]; omega) rfl rfl rfl (O2.out.alloc _) (Rd.one .i64 _ _ _ HV.out) (by omega) (by have := B2.out.size; simp; omega) ?_; intro A1 cap1 w6 ho hb1; have O6 := Lib.hid ho; have B6 := Lib.hid ((B2.out.alloc B2.out.size _).trans hb1); clear ho hb1)
        go_roundw
        case rel => exact ⟨k + 1, by go_num, by omega, _, _, _, rfl, HQ2.out, by rw [HP.out, if_neg H3.out]; exact O6.out, B6.out⟩
        case measure => simp [intOf]; omega
    · have hlt2 : ¬ (k : Int) < n := by omega
      obtain rfl : k = n := by omega
      go_wp2_with fail
      go_ret
      exact Kept.done O2.out B2.out HLen.out
set_option maxRecDepth 100000 in
theorem implDp (zs : List Int) (cn : Int) (hcw : (Lit.int .i64 cn).wf = true) (lo hi : Nat) (A : Option Addr) (n cap : Nat) (w : World) (h : Rd .i64 w lo hi A n cap zs) :
    Calls Try.prog 24 #[.slice A n cap, .int .i64 cn] w (SlPost 3 .i64 w (dep zs cn)) := by
  have hb := h.cap_
  have HLen := Lib.hid h.len
  have HR := Lib.hid h
  have HCW := Lib.hid hcw
  clear h hcw
  by_cases hin : 0 ≤ cn ∧ cn ≤ 4000
  · have HIn := Lib.hid hin
    obtain ⟨p, hp⟩ : ∃ p, plen cn = p := ⟨_, rfl⟩
    have HP := Lib.hid hp
    by_cases hpl : (n : Int) = p
    · subst hpl
      have HD := Lib.hid (dep_yes HIn.out (show (zs.length : Int) = plen cn by rw [HLen.out, hp]))
      obtain ⟨hin0, hin1⟩ := hin
      obtain ⟨m, rfl⟩ := Int.eq_ofNat_of_zero_le hin0
      rw [Int.toNat_natCast] at HD
      have hm : m ≤ 4000 := by omega
      have hnm : n = m - m / 4 := by rw [plen_nat] at hp; omega
      have HNM := Lib.hid hnm
      have HDL := Lib.hid (dep1_len zs m)
      have HDW := Lib.hid (dep1_wf HR.out.wf m)
      obtain ⟨i0, hi0, hz0, hz1, hz2⟩ := info_parts intInfo
      have hmk := fun W => run_make1 (P := Try.prog) 24 3 i0 _ Try.underlying24 hi0 hz0 hz1 m (by omega) (by omega) W
      clear hz2 hz1 hz0 hi0 hp hnm hin0 hin1
      go_enter Try.func24, Try.ntmps24
      go_wp2_with fail
      (with_reducible refine (inRange_yes m 0 4000 HIn.out _).mono ?_)
      rintro e w1 ⟨rfl, rfl⟩
      go_wp2_with fail
      (with_reducible refine (implPln m HCW.out _).mono ?_)
      rw [HP.out]
      rintro e w1 ⟨rfl, rfl⟩
      go_wp2_with fail
      go_loopw [22] (fun i wr => ∃ k : Nat, i = .int .i64 k ∧ k ≤ m ∧ Part .i64 3 w wr m k (dep1 zs m)) (fun i _ => m - (intOf i).toNat)
      case atStart => exact ⟨0, rfl, by omega, Part.start _ _ _ _ _ _⟩
      case round =>
        obtain ⟨k, rfl, hk, hp⟩ := hrel
        have HPa := Lib.hid hp
        clear hp
        by_cases hlt : k < m
        · obtain ⟨v, hv⟩ := HPa.out.cell hlt
          have hf := HPa.out.free k
          have hlt2 : (k : Int) < m := by omega
          have HX := Lib.hid (dep1_at zs hlt)
          by_cases h3 : k % 4 = 3
          · have H3 := Lib.hid h3
            clear h3
            go_wp2_with fail
            (with_reducible refine (isPun_yes k H3.out _).mono ?_)
            rintro e w7 ⟨rfl, rfl⟩
            go_wp2_with fail
            go_roundw
            case rel => exact ⟨k + 1, by go_num, by omega, by have := HPa.out.step hlt; rw [HX.out, if_pos H3.out] at this; exact this⟩
            case measure => simp [intOf]; omega
          · have H3 := Lib.hid h3
            obtain ⟨j, hj⟩ : ∃ j, k - k / 4 = j := ⟨_, rfl⟩
            have hjn : j < n := by rw [HNM.out]; omega
            have hjn2 : (j : Int) < n := by omega
            have HJ := Lib.hid (show plen (k : Int) = j by rw [plen_nat, hj])
            have HKW := Lib.hid (show (Lit.int .i64 (k : Int)).wf = true from WalkArith.wf_i64 (by omega))
            have HXJ := Lib.hid hj
            obtain ⟨b, off, rfl, h1, h2, hc⟩ := (HR.out.below (part_low HPa.out)).at_ hjn
            obtain ⟨x, hx⟩ : ∃ x, zs.getD j 0 = x := ⟨_, rfl⟩
            rw [hx] at hc
            have HXX := Lib.hid hx
            clear h3 h1 h2 hx hj
            go_wp2_with fail
            (with_reducible refine (isPun_no k H3.out _).mono ?_)
            rintro e w7 ⟨rfl, rfl⟩
            go_wp2_with fail
            (with_reducible refine (implPln k HKW.out _).mono ?_)
            rw [HJ.out]
            rintro e w8 ⟨rfl, rfl⟩
            go_wp2_with fail
            go_roundw
            case rel => exact ⟨k + 1, by go_num, by omega, by have := HPa.out.step hlt; rw [HX.out, if_neg H3.out, HXJ.out, HXX.out] at this; exact this⟩
            case measure => simp [intOf]; omega
        · have hlt2 : ¬ (k : Int) < m := by omega
          go_wp2_with fail
          go_ret
          obtain rfl : k = m := by omega
          rw [HD.out]
          exact HPa.out.done HDL.out HDW.out (by unfold maxLen; omega)
    · have HD := Lib.hid (dep_no (l := zs) (c := cn) (fun g => hpl (by rw [← hp, ← g.2, HLen.out])))
      have hne : ((n : Int) == p) = false := by simpa using hpl
      clear hp hin hpl
      go_enter Try.func24, Try.ntmps24
      go_wp2_with fail
      (with_reducible refine (inRange_yes cn 0 4000 HIn.out _).mono ?_)
      rintro e w1 ⟨rfl, rfl⟩
      go_wp2_with fail
      (with_reducible refine (implPln cn HCW.out _).mono ?_)
      rw [HP.out]
      rintro e w1 ⟨rfl, rfl⟩
      go_wp2_with fail
      go_ret
      rw [HD.out]
      exact ⟨_, _, _, rfl, (Ow.empty _ _ _).up, (Below.refl _ _).alloc (Nat.le_refl _) _⟩
  · have HIn := Lib.hid hin
    have HD := Lib.hid (dep_no (l := zs) (c := cn) (fun g => hin g.1))
    clear hin
    go_enter Try.func24, Try.ntmps24
    go_wp2_with fail
    (with_reducible refine (inRange_no cn 0 4000 HIn.out _).mono ?_)
    rintro e w1 ⟨rfl, rfl⟩
    go_wp2_with fail
    go_ret
    rw [HD.out]
    exact ⟨_, _, _, rfl, (Ow.empty _ _ _).up, (Below.refl _ _).alloc (Nat.le_refl _) _⟩
/-- What is restored of the first k. -/
def Rest (w wr : World) (zs : List Int) (m k : Nat) (v : Value) : Prop := ∃ A c, v = .slice A k c ∧ Ow 3 .i64 wr w.heap.size wr.heap.size A k c ((dep1 zs m).take k) ∧ Below w.heap.size w wr
set_option maxRecDepth 100000 in
theorem specDp (zs : List Int) (cn : Int) (hcw : (Lit.int .i64 cn).wf = true) (lo hi : Nat) (A : Option Addr) (n cap : Nat) (w : World) (h : Rd .i64 w lo hi A n cap zs) :
    Calls Try.prog 37 #[.slice A n cap, .int .i64 cn] w (SlPost 3 .i64 w (dep zs cn)) := by
  have hb := h.cap_
  have HLen := Lib.hid h.len
  have HR := Lib.hid h
  have HCW := Lib.hid hcw
  clear h hcw
  by_cases hin : 0 ≤ cn ∧ cn ≤ 4000
  · have HIn := Lib.hid hin
    obtain ⟨p, hp⟩ : ∃ p, plen cn = p := ⟨_, rfl⟩
    have HP := Lib.hid hp
    by_cases hpl : (n : Int) = p
    · subst hpl
      have HD := Lib.hid (dep_yes HIn.out (show (zs.length : Int) = plen cn by rw [HLen.out, hp]))
      obtain ⟨hin0, hin1⟩ := hin
      obtain ⟨m, rfl⟩ := Int.eq_ofNat_of_zero_le hin0
      rw [Int.toNat_natCast] at HD
      have hm : m ≤ 4000 := by omega
      have hnm : n = m - m / 4 := by rw [plen_nat] at hp; omega
      have HNM := Lib.hid hnm
      have HDL := Lib.hid (dep1_len zs m)
      have HDW := Lib.hid (dep1_wf HR.out.wf m)
      obtain ⟨i0, hi0, hz0, hz1, hz2⟩ := info_parts intInfo
      have HZ := Lib.hid (And.intro hi0 (And.intro hz0 (And.intro hz1 hz2)))
      clear hz2 hz1 hz0 hi0 hp hnm hin0 hin1
      go_enter Try.func37, Try.ntmps37
      go_wp2_with fail
      (with_reducible refine (l1In_yes m 0 4000 HIn.out _).mono ?_)
      rintro e w1 ⟨rfl, rfl⟩
      go_wp2_with fail
      (with_reducible refine (specPln m HCW.out _).mono ?_)
      rw [HP.out]
      rintro e w1 ⟨rfl, rfl⟩
      go_wp2_with fail
      go_loopw [5, 6, 7] (fun v q i wr => ∃ k j : Nat, i = .int .i64 k ∧ q = .int .i64 j ∧ j = k - k / 4 ∧ k ≤ m ∧ Rest w wr zs m k v) (fun _ _ i _ => m - (intOf i).toNat)
      case atStart => exact ⟨0, 0, rfl, rfl, rfl, by omega, _, _, rfl, (Ow.empty 3 .i64 w).up, (Below.refl _ _).alloc (Nat.le_refl _) _⟩
      case round =>
        obtain ⟨k, j, rfl, rfl, hj, hk, B', c', rfl, ho, hb2⟩ := hrel
        have O2 := Lib.hid ho
        have B2 := Lib.hid hb2
        have hj2 : j ≤ 4000 := by omega
        have HJ := Lib.hid hj
        clear ho hb2 hj
        by_cases hlt : k < m
        · have hlt2 : (k : Int) < m := by omega
          have h0 : 0 ≤ (k : Int) := by omega
          have HX := Lib.hid (dep1_at zs hlt)
          have HT := Lib.hid (cvm.take_one (show k < (dep1 zs m).length by rw [HDL.out]; exact hlt))
          by_cases h3 : k % 4 = 3
          · have H3 := Lib.hid h3
            have h4 : (k : Int) % 4 = 3 := by omega
            have HJ2 := Lib.hid (show j = (k + 1) - (k + 1) / 4 by rw [HJ.out]; omega)
            have HV := Lib.hid (show (Lit.int .i64 2).wf = true by decide)
            clear h3
            go_wp2_with (at_builtin; refine wpList_app _ rfl _ _ 24 rfl 3 i0 _ .i64 Try.underlying24 HZ.out.1 HZ.out.2.1 HZ.out.2.2.1 (by rw [HZ.out.2.2.2]; omega) rfl rfl rfl (O2.out.alloc _) (Rd.one .i64 _ _ _ HV.out) (by omega) (by have := B2.out.size; simp; omega) ?_; intro A1 cap1 w6 ho hb1; have O6 := Lib.hid ho; have B6 := Lib.hid ((B2.out.alloc B2.out.size _).trans hb1); clear ho hb1)
            go_roundw
            case rel => exact ⟨k + 1, j, by go_num, rfl, HJ2.out, by omega, _, _, rfl, by rw [HT.out, HX.out, if_pos H3.out]; exact O6.out, B6.out⟩
            case measure => simp [intOf]; omega
          · have H3 := Lib.hid h3
            have HJ2 := Lib.hid (show j + 1 = (k + 1) - (k + 1) / 4 by rw [HJ.out]; omega)
            obtain ⟨r, hr⟩ : ∃ r, (k : Int) % 4 = r := ⟨_, rfl⟩
            have hr2 : (r == 3) = false := by
              have : r ≠ 3 := by omega
              simpa using this
            have hjn : j < n := by rw [HNM.out, HJ.out]; omega
            have hjn2 : (j : Int) < n := by omega
            obtain ⟨b, off, rfl, h1, h2, hc⟩ := (HR.out.below B2.out).at_ hjn
            have HV := Lib.hid (HR.out.wf.getD (i := j) (by rw [HLen.out]; exact hjn))
            obtain ⟨x, hx⟩ : ∃ x, zs.getD j 0 = x := ⟨_, rfl⟩
            rw [hx] at hc HV
            have HXX := Lib.hid hx
            clear h3 h1 h2 hx
            go_wp2_with (at_builtin; refine wpList_app _ rfl _ _ 24 rfl 3 i0 _ .i64 Try.underlying24 HZ.out.1 HZ.out.2.1 HZ.out.2.2.1 (by rw [HZ.out.2.2.2]; omega) rfl rfl rfl (O2.out.alloc _) (Rd.one .i64 _ _ _ HV.out) (by omega) (by have := B2.out.size; simp; omega) ?_; intro A1 cap1 w6 ho hb1; have O6 := Lib.hid ho; have B6 := Lib.hid ((B2.out.alloc B2.out.size _).trans hb1); clear ho hb1)
            go_roundw
            case rel => exact ⟨k + 1, j + 1, by go_num, by go_num, HJ2.out, by omega, _, _, rfl, by rw [HT.out, HX.out, if_neg H3.out, ← HJ.out, HXX.out]; exact O6.out, B6.out⟩
            case measure => simp [intOf]; omega
        · have hlt2 : ¬ (k : Int) < m := by omega
          obtain rfl : k = m := by omega
          go_wp2_with fail
          go_ret
          rw [HD.out]
          exact ⟨_, _, _, rfl, by have := O2.out; rw [List.take_of_length_le (by rw [HDL.out]; omega)] at this; exact this, B2.out⟩
    · have HD := Lib.hid (dep_no (l := zs) (c := cn) (fun g => hpl (by rw [← hp, ← g.2, HLen.out])))
      have hne : ((n : Int) == p) = false := by simpa using hpl
      clear hp hin hpl
      go_enter Try.func37, Try.ntmps37
      go_wp2_with fail
      (with_reducible refine (l1In_yes cn 0 4000 HIn.out _).mono ?_)
      rintro e w1 ⟨rfl, rfl⟩
      go_wp2_with fail
      (with_reducible refine (specPln cn HCW.out _).mono ?_)
      rw [HP.out]
      rintro e w1 ⟨rfl, rfl⟩
      go_wp2_with fail
      go_ret
      rw [HD.out]
      exact ⟨_, _, _, rfl, (Ow.empty _ _ _).up, (Below.refl _ _).alloc (Nat.le_refl _) _⟩
  · have HIn := Lib.hid hin
    have HD := Lib.hid (dep_no (l := zs) (c := cn) (fun g => hin g.1))
    clear hin
    go_enter Try.func37, Try.ntmps37
    go_wp2_with fail
    (with_reducible refine (l1In_no cn 0 4000 HIn.out _).mono ?_)
    rintro e w1 ⟨rfl, rfl⟩
    go_wp2_with fail
    go_ret
    rw [HD.out]
    exact ⟨_, _, _, rfl, (Ow.empty _ _ _).up, (Below.refl _ _).alloc (Nat.le_refl _) _⟩
end Go.Proofs.Ytnffklompocflaa.cvs
