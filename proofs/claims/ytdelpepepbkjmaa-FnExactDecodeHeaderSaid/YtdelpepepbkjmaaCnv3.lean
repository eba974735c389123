/- Puncturing, program and specification. Condition: lengths up to 2^26. -/
import Derived.Test.YtdelpepepbkjmaaCnv1
namespace Go.Proofs.Ytdelpepepbkjmaa.cvs
open Go.RowKit sl harn bm rng cvm

theorem part_low {kd : IntKind} {E : TypeId} {w wr : World} {n k : Nat} {zs : List Int} (h : Part kd E w wr n k zs) : Below w.heap.size w wr := by
  obtain ⟨_, _, _, _, h4⟩ := h
  exact h4
/-- What is kept of the first k. -/
def Kept (w wr : World) (zs : List Int) (k : Nat) (v : Value) : Prop := ∃ A q c, v = .slice A q c ∧ q = k - k / 4 ∧ Ow 3 .i64 wr w.heap.size wr.heap.size A q c (pk 0 (zs.take k)) ∧ Below w.heap.size w wr
theorem Kept.done {w wr : World} {zs : List Int} {k q : Nat} {A : Option Addr} {c : Nat} (ho : Ow 3 .i64 wr w.heap.size wr.heap.size A q c (pk 0 (zs.take k))) (hb : Below w.heap.size w wr) (hl : zs.length = k) : SlPost 3 .i64 w (punc zs) (.returned (.slice A q c)) wr := by
  rw [List.take_of_length_le (by omega)] at ho
  exact ⟨_, _, _, rfl, ho, hb⟩
set_option maxRecDepth 100000 in
theorem implPc (zs : List Int) (lo hi : Nat) (A : Option Addr) (n cap : Nat) (w : World) (h : Rd .i64 w lo hi A n cap zs) (hn : n ≤ 67108864) :
    Calls Try.prog 81 #[.slice A n cap] w (SlPost 3 .i64 w (punc zs)) := by
  obtain ⟨i0, hi0, hz0, hz1, hz2⟩ := info_parts intInfo
  have hb := h.cap_
  have HZ := Lib.hid (And.intro hi0 (And.intro hz0 (And.intro hz1 hz2)))
  have HLen := Lib.hid h.len
  have HR := Lib.hid h
  clear h hi0 hz0 hz1 hz2
  go_enter Try.func81, Try.ntmps81
  go_wp2_with fail
  go_loopw [3, 9] (fun v i wr => ∃ k : Nat, i = .int .i64 k ∧ k ≤ n ∧ Kept w wr zs k v) (fun _ i _ => n - (intOf i).toNat)
  case atStart => exact ⟨0, rfl, by omega, _, _, _, rfl, rfl, (Ow.empty 3 .i64 w).up, (Below.refl _ _).alloc (Nat.le_refl _) _⟩
  case round =>
    obtain ⟨k, rfl, hk, B, q, c, rfl, hq, ho, hb2⟩ := hrel
    have O2 := Lib.hid ho
    have B2 := Lib.hid hb2
    have HQ := Lib.hid hq
    have hq2 : q ≤ 67108864 := by omega
    clear ho hb2 hq
    by_cases hlt : k < n
    · have hlt2 : (k : Int) < n := by omega
      obtain ⟨b, off, rfl, h1, h2, hc⟩ := (HR.out.below B2.out).at_ hlt
      have HV := Lib.hid (HR.out.wf.getD (i := k) (by rw [HLen.out]; exact hlt))
      obtain ⟨x, hx⟩ : ∃ x, zs.getD k 0 = x := ⟨_, rfl⟩
      have HP := Lib.hid (pk_take (by rw [HLen.out]; exact hlt) hx)
      rw [hx] at hc HV
      clear h1 h2 hx
      by_cases h3 : k % 4 = 3
      · have H3 := Lib.hid h3
        have HQ2 := Lib.hid (show q = (k + 1) - (k + 1) / 4 by rw [HQ.out]; omega)
        clear h3
        go_wp2_with fail
        (with_reducible refine (isPun_yes k H3.out _).mono ?_)
        rintro e w7 ⟨rfl, rfl⟩
        go_wp2_with fail
        go_roundw
        case rel => exact ⟨k + 1, by go_num, by omega, _, _, _, rfl, HQ2.out, by rw [HP.out, if_pos H3.out]; exact O2.out, B2.out⟩
        case measure => simp [intOf]; omega
      · have H3 := Lib.hid h3
        have HQ2 := Lib.hid (show q + 1 = (k + 1) - (k + 1) / 4 by rw [HQ.out]; omega)
        clear h3
        go_wp2_with fail
        (with_reducible refine (isPun_no k H3.out _).mono ?_)
        rintro e w7 ⟨rfl, rfl⟩
        go_wp2_with (at_builtin; refine wpList_app _ rfl _ _ 27 rfl 3 i0 _ .i64 Try.underlying27 HZ.out.1 HZ.out.2.1 HZ.out.2.2.1 (by rw [HZ.out.2.2.2]; omega) rfl rfl rfl (O2.out.alloc _) (Rd.one .i64 _ _ _ HV.out) (by omega) (by have := B2.out.size; simp; omega) ?_; intro A1 cap1 w6 ho hb1; have O6 := Lib.hid ho; have B6 := Lib.hid ((B2.out.alloc B2.out.size _).trans hb1); clear ho hb1)
        go_roundw
        case rel => exact ⟨k + 1, by go_num, by omega, _, _, _, rfl, HQ2.out, by rw [HP.out, if_neg H3.out]; exact O6.out, B6.out⟩
        case measure => simp [intOf]; omega
    · have hlt2 : ¬ (k : Int) < n := by omega
      obtain rfl : k = n := by omega
      go_wp2_with fail
      go_ret
      exact Kept.done O2.out B2.out HLen.out
set_option maxRecDepth 100000 in
theorem specPc (zs : List Int) (lo hi : Nat) (A : Option Addr) (n cap : Nat) (w : World) (h : Rd .i64 w lo hi A n cap zs) (hn : n ≤ 67108864) :
    Calls Try.prog 59 #[.slice A n cap] w (SlPost 3 .i64 w (punc zs)) := by
  obtain ⟨i0, hi0, hz0, hz1, hz2⟩ := info_parts intInfo
  have hb := h.cap_
  have HZ := Lib.hid (And.intro hi0 (And.intro hz0 (And.intro hz1 hz2)))
  have HLen := Lib.hid h.len
  have HR := Lib.hid h
  clear h hi0 hz0 hz1 hz2
  go_enter Try.func59, Try.ntmps59
  go_wp2_with fail
  go_loopw [3, 4] (fun v i wr => ∃ k : Nat, i = .int .i64 k ∧ k ≤ n ∧ Kept w wr zs k v) (fun _ i _ => n - (intOf i).toNat)
  case atStart => exact ⟨0, rfl, by omega, _, _, _, rfl, rfl, (Ow.empty 3 .i64 w).up, (Below.refl _ _).alloc (Nat.le_refl _) _⟩
  case round =>
    obtain ⟨k, rfl, hk, B, q, c, rfl, hq, ho, hb2⟩ := hrel
    have O2 := Lib.hid ho
    have B2 := Lib.hid hb2
    have HQ := Lib.hid hq
    have hq2 : q ≤ 67108864 := by omega
    clear ho hb2 hq
    by_cases hlt : k < n
    · have hlt2 : (k : Int) < n := by omega
      obtain ⟨b, off, rfl, h1, h2, hc⟩ := (HR.out.below B2.out).at_ hlt
      have HV := Lib.hid (HR.out.wf.getD (i := k) (by rw [HLen.out]; exact hlt))
      obtain ⟨x, hx⟩ : ∃ x, zs.getD k 0 = x := ⟨_, rfl⟩
      have HP := Lib.hid (pk_take (by rw [HLen.out]; exact hlt) hx)
      rw [hx] at hc HV
      clear h1 h2 hx
      have h0 : 0 ≤ (k : Int) := by omega
      by_cases h3 : k % 4 = 3
      · have H3 := Lib.hid h3
        have HQ2 := Lib.hid (show q = (k + 1) - (k + 1) / 4 by rw [HQ.out]; omega)
        have h4 : (k : Int) % 4 = 3 := by omega
        clear h3
        go_wp2_with fail
        go_roundw
        case rel => exact ⟨k + 1, by go_num, by omega, _, _, _, rfl, HQ2.out, by rw [HP.out, if_pos H3.out]; exact O2.out, B2.out⟩
        case measure => simp [intOf]; omega
      · have H3 := Lib.hid h3
        have HQ2 := Lib.hid (show q + 1 = (k + 1) - (k + 1) / 4 by rw [HQ.out]; omega)
        obtain ⟨r, hr⟩ : ∃ r, (k : Int) % 4 = r := ⟨_, rfl⟩
        have hr2 : (r == 3) = false := by
          have : r ≠ 3 := by omega
          simpa using this
        clear h3
        go_wp2_with (at_builtin; refine wpList_app _ rfl _ _ 27 rfl 3 i0 _ .i64 Try.underlying27 HZ.out.1 HZ.out.2.1 HZ.out.2.2.1 (by rw [HZ.out.2.2.2]; omega) rfl rfl rfl (O2.out.alloc _) (Rd.one .i64 _ _ _ HV.out) (by omega) (by have := B2.out.size; simp; omega) ?_; intro A1 cap1 w6 ho hb1; have O6 := Lib.hid ho; have B6 := Lib.hid ((B2.out.alloc B2.out.size _).trans hb1); clear ho hb1)
        go_roundw
        case rel => exact ⟨k + 1, by go_num, by omega, _, _, _, rfl, HQ2.out, by rw [HP.out, if_neg H3.out]; exact O6.out, B6.out⟩
        case measure => simp [intOf]; omega
    · have hlt2 : ¬ (k : Int) < n := by omega
      obtain rfl : k = n := by omega
      go_wp2_with fail
      go_ret
      exact Kept.done O2.out B2.out HLen.out
/-- What is restored of the first k. -/
def Rest (w wr : World) (zs : List Int) (m k : Nat) (v : Value) : Prop := ∃ A c, v = .slice A k c ∧ Ow 3 .i64 wr w.heap.size wr.heap.size A k c ((dep1 zs m).take k) ∧ Below w.heap.size w wr
end Go.Proofs.Ytdelpepepbkjmaa.cvs
