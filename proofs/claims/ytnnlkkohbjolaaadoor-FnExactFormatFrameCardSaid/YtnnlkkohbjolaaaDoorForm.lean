/- The two FormatInt functions return the decimal numeral and leave memory as it was, but for new blocks. Condition: the argument is a 64-bit integer; of the program's own one, that the table of powers of ten reads as laid. -/
import Derived.Test.YtnnlkkohbjolaaaDoorRows
import Derived.Test.YtnnlkkohbjolaaaDoorShelf
import Derived.Test.YtnnlkkohbjolaaaDoorNums
import Derived.WalkKit
import Derived.ProofKit
import Derived.LoopTactic
import Derived.WalkSmall
import Derived.Outline
import Derived.Laws.IdiomStrings
import Derived.Laws.Concat
namespace Go.Proofs.YtnnlkkohbjolaaaDoor.form
open Go.RowKit nums
open Go.Lib (itoa)
open Go.Sort (grow)

theorem below_grow (w : World) (k : Nat) (os : Array Obj) : Below w.heap.size w (grow (w.drewN k) os) :=
  ⟨rfl, rfl, rfl, by simp [grow], fun b hb => by simp [grow, Array.getElem?_append, hb]⟩

theorem implFormat (n : Int) (h0 : -9223372036854775808 ≤ n) (h1 : n ≤ 9223372036854775807) (w : World) (htab : Lib.TabIs Tryd.prog w "internal/strconv.uint64pow10" .u64 Lib.pow10Tab) :
    Calls Tryd.prog 13 #[.int .i64 n] w fun e w' => e = .returned (.string ⟨(itoa n).toArray⟩) ∧ Below w.heap.size w w' := by
  have hc := fun (W : World) (ht : Lib.TabIs Tryd.prog W "internal/strconv.uint64pow10" .u64 Lib.pow10Tab) => Tryd.strconv_Itoa n h0 h1 W ht
  go_enter Tryd.func13, Tryd.ntmps13
  go_wp2_with (go_at_call 16; refine (hc _ htab).mono ?_; rintro e w' ⟨rfl, k, os, rfl⟩)
  go_ret
  exact ⟨rfl, below_grow _ _ _⟩

theorem conv (W : World) (b : Nat) (d : Int) (h0 : 0 ≤ d) (h1 : d < 10) (hc : W.cell? ⟨b, 0, none⟩ = some (.int .u8 (48 + d))) :
    (convert 22 9 (.slice (some ⟨b, 0, none⟩) 1 1)).run Tryd.prog W = .ok (.string ⟨[UInt8.ofNat (48 + d.toNat)].toArray⟩) W := by
  refine run_convert_bytes_back W 22 9 5 ⟨b, 0, none⟩ 1 [UInt8.ofNat (48 + d.toNat)] Tryd.underlying22 Tryd.underlying5 Tryd.underlying9 ?_
  intro j hj
  have hj0 : j = 0 := by simpa using hj
  subst hj0
  have e : ((UInt8.ofNat (48 + d.toNat)).toNat : Int) = 48 + d := by simp; omega
  have e2 : (⟨b, 0, none⟩ : Addr).add 0 = ⟨b, 0, none⟩ := by simp [Addr.add]
  rw [e2, hc]
  simp only [List.getElem_cons_zero]
  rw [e]

theorem ret_str {a b : List UInt8} (h : a = b) : Ending.returned (.string ⟨a.toArray⟩) = .returned (.string ⟨b.toArray⟩) := by rw [h]
theorem str_cons (k : Nat) (l : List UInt8) : Value.string (ByteArray.mk #[48 + UInt8.ofNat k] ++ ByteArray.mk l.toArray) = .string ⟨(UInt8.ofNat (48 + k) :: l).toArray⟩ := by
  rw [ByteArray.mk_append_mk]
  simp
theorem digs_round (u k : Nat) (L l : List UInt8) (hu : u ≠ 0) (hk : k = u % 10) (h : L = digs u ++ l) : L = digs (u / 10) ++ (UInt8.ofNat (48 + k) :: l) := by
  rw [h, digs_step u hu, hk]; simp

theorem specFormat_pos (n : Int) (h0 : 0 < n) (h1 : n ≤ 9223372036854775807) (w : World) :
    Calls Tryd.prog 11 #[.int .i64 n] w fun e w' => e = .returned (.string ⟨(itoa n).toArray⟩) ∧ Below w.heap.size w w' := by
  have hn : (n == 0) = false := by simp; omega
  go_enter Tryd.func11, Tryd.ntmps11
  go_wp2
  go_loopw [3, 4] (fun s x wr => ∃ l : List UInt8, ∃ y : Int, s = .string ⟨l.toArray⟩ ∧ x = .int .i64 y ∧ 0 ≤ y ∧ y ≤ n ∧ digs n.natAbs = digs y.natAbs ++ l ∧ Below w.heap.size w wr) (fun _ x _ => (intOf x).natAbs)
  case atStart => exact ⟨[], n, rfl, rfl, by omega, by omega, by simp, Below.refl _ _⟩
  case round =>
    obtain ⟨l, y, rfl, rfl, hy0, hy1, hl, hb⟩ := hrel
    have HL := Lib.hid hl
    clear hl
    by_cases hz : y = 0
    · subst hz
      have hn2 : ¬ n < 0 := by omega
      go_wp2
      go_ret
      have e := HL.out
      rw [show Int.natAbs 0 = 0 from rfl, digs_zero, List.nil_append] at e
      exact ⟨ret_str (by rw [itoa_pos h0, e]), hb⟩
    · have hk := conv (wr.alloc (.cells #[.int .u8 (48 + y % 10)] 5)) wr.heap.size (y % 10) (by omega) (by omega) (by simp)
      have hl1 : (l.length : Int) ≤ 8388608 := by
        have h2 := digs_length n.natAbs (by omega)
        rw [HL.out] at h2; simp at h2; omega
      have hne : (y != 0) = true := by simpa using hz
      have hu : Hid (y.natAbs ≠ 0) := by unfold Hid; omega
      clear hz
      go_wp2
      go_roundw
      case rel =>
        refine ⟨_, y / 10, str_cons _ _, rfl, by omega, by omega, ?_, hb.alloc hb.size _⟩
        rw [show (y / 10).natAbs = y.natAbs / 10 by omega]
        exact digs_round _ _ _ _ hu.out (by omega) HL.out
      case measure => have := hu.out; simp [intOf]; omega

theorem specFormat_neg (n : Int) (h0 : n < 0) (h1 : -9223372036854775808 ≤ n) (w : World) :
    Calls Tryd.prog 11 #[.int .i64 n] w fun e w' => e = .returned (.string ⟨(itoa n).toArray⟩) ∧ Below w.heap.size w w' := by
  have hn : (n == 0) = false := by simp; omega
  go_enter Tryd.func11, Tryd.ntmps11
  go_wp2
  go_loopw [3, 4] (fun s x wr => ∃ l : List UInt8, ∃ y : Int, s = .string ⟨l.toArray⟩ ∧ x = .int .i64 y ∧ n ≤ y ∧ y ≤ 0 ∧ digs n.natAbs = digs y.natAbs ++ l ∧ Below w.heap.size w wr) (fun _ x _ => (intOf x).natAbs)
  case atStart => exact ⟨[], n, rfl, rfl, by omega, by omega, by simp, Below.refl _ _⟩
  case round =>
    obtain ⟨l, y, rfl, rfl, hy0, hy1, hl, hb⟩ := hrel
    have HL := Lib.hid hl
    clear hl
    have hl1 : (l.length : Int) ≤ 8388608 := by
      have h2 := digs_length n.natAbs (by omega)
      rw [HL.out] at h2; simp at h2; omega
    by_cases hz : y = 0
    · subst hz
      go_wp2
      go_ret
      have e := HL.out
      rw [show Int.natAbs 0 = 0 from rfl, digs_zero, List.nil_append] at e
      refine ⟨?_, hb⟩
      rw [itoa_neg h0, e, ByteArray.mk_append_mk]
      simp
    · have e1 : y.tmod 10 = -(((-y) % 10)) := by
        have := Int.neg_tmod (-y) 10
        rw [Int.neg_neg] at this
        rw [this, Int.tmod_eq_emod_of_nonneg (by omega)]
      have e2 : y.tdiv 10 = -((-y) / 10) := by
        have := Int.neg_tdiv (-y) 10
        rw [Int.neg_neg] at this
        rw [this, Int.tdiv_eq_ediv_of_nonneg (by omega)]
      obtain ⟨r, hr⟩ : ∃ r, (-y) % 10 = r := ⟨_, rfl⟩
      obtain ⟨q, hq⟩ : ∃ q, -((-y) / 10) = q := ⟨_, rfl⟩
      rw [hr] at e1
      rw [hq] at e2
      have hu : Hid (y.natAbs ≠ 0 ∧ q.natAbs = y.natAbs / 10 ∧ r.toNat = y.natAbs % 10) := by unfold Hid; omega
      have b1 : 0 ≤ r := by omega
      have b2 : r < 10 := by omega
      have b3 : q ≤ 0 := by omega
      have b4 : n ≤ q := by omega
      clear hr hq
      have hne : (y != 0) = true := by simpa using hz
      clear hz
      by_cases hr0 : r = 0
      · have hk := conv (wr.alloc (.cells #[.int .u8 48] 5)) wr.heap.size 0 (by omega) (by omega) (by simp)
        have e3 : y.tmod 10 = 0 := by omega
        have hu2 : Hid (y.natAbs ≠ 0 ∧ q.natAbs = y.natAbs / 10 ∧ 0 = y.natAbs % 10) := by have := hu.out; unfold Hid; omega
        clear hu e1 hr0
        go_wp2
        go_roundw
        case rel =>
          refine ⟨UInt8.ofNat (48 + 0) :: l, q, ?_, rfl, by omega, by omega, ?_, hb.alloc hb.size _⟩
          · rw [ByteArray.mk_append_mk]; simp
          · rw [hu2.out.2.1]
            exact digs_round _ _ _ _ hu2.out.1 hu2.out.2.2 HL.out
        case measure => have := hu2.out; simp [intOf]; omega
      · have hr1 : -r < 0 := by omega
        have hk := conv (wr.alloc (.cells #[.int .u8 (48 + r)] 5)) wr.heap.size r (by omega) (by omega) (by simp)
        clear hr0
        go_wp2
        go_roundw
        case rel =>
          refine ⟨_, q, str_cons _ _, rfl, by omega, by omega, ?_, hb.alloc hb.size _⟩
          rw [hu.out.2.1]
          exact digs_round _ _ _ _ hu.out.1 hu.out.2.2 HL.out
        case measure => have := hu.out; simp [intOf]; omega

theorem specFormat (n : Int) (h0 : -9223372036854775808 ≤ n) (h1 : n ≤ 9223372036854775807) (w : World) :
    Calls Tryd.prog 11 #[.int .i64 n] w fun e w' => e = .returned (.string ⟨(itoa n).toArray⟩) ∧ Below w.heap.size w w' := by
  rcases Int.lt_trichotomy n 0 with h | rfl | h
  · exact specFormat_neg n h h0 w
  · rw [itoa_zero]
    go_enter Tryd.func11, Tryd.ntmps11
    go_wp2
    go_ret
    exact ⟨rfl, Below.refl _ _⟩
  · exact specFormat_pos n h h1 w
end Go.Proofs.YtnnlkkohbjolaaaDoor.form
