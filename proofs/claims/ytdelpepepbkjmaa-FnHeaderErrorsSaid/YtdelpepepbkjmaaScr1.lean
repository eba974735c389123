/- The scrambler's states, program and specification: outputBit, l5Out, NextScramblerState, ScramblerStateAfter. Condition: none. -/
import Derived.Test.YtdelpepepbkjmaaScrm
import Derived.Test.YtdelpepepbkjmaaCrc1
import Derived.Laws.RangeString
import Derived.Laws.RangeAny
namespace Go.Proofs.Ytdelpepepbkjmaa.scrs
open Go.RowKit sl harn bm rng scrm

theorem low1 (n : Int) : bits .and .i64 n 1 = n % 2 := draw.low_bits 1 (by omega) n
theorem low7 (n : Int) : bits .and .i64 n 127 = n % 128 := draw.low_bits 7 (by omega) n
theorem ret_num2 {a b : Int} (h : a = b) : Ending.returned (.int .i64 a) = .returned (.int .i64 b) := by rw [h]
/-- The output bit as the program gathers it: what its first k characters have given. -/
def got (s : Int) (k : Nat) : Int := if k ≤ 3 then 0 else if k ≤ 6 then s / 8 % 2 else (s / 8 + s / 64) % 2
theorem got_seven (s : Int) : got s 7 = outp s := rfl
def tested : ByteArray := { data := #[48, 48, 48, 49, 48, 48, 49] }
theorem xor2 (x y : Int) : bits .xor .i64 (x % 2) (y % 2) = (x + y) % 2 := by
  rw [xor_bit (by omega) (by omega)]; split <;> omega

set_option maxRecDepth 100000 in
theorem outputBit (s : Int) (h : 1 ≤ s ∧ s ≤ 127) (w : World) :
    Calls Try.prog 92 #[.int .i64 s] w fun e w' => e = .returned (.int .i64 (outp s)) ∧ Below w.heap.size w w' := by
  obtain ⟨h1, h2⟩ := h
  go_enter Try.func92, Try.ntmps92
  go_wp2
  go_loopw [3] (fun n w' => ∃ (k : Nat) (a : Int), w' = w.iter tested k ∧ n = .int .i64 a ∧ a = got s k ∧ k ≤ 7) (fun _ w' => 7 - w'.iterPos w.heap.size)
  case atStart => exact ⟨0, 0, rfl, rfl, rfl, by omega⟩
  case round =>
    obtain ⟨k, a, rfl, rfl, ha, hk⟩ := hrel
    have hk8 : k = 0 ∨ k = 1 ∨ k = 2 ∨ k = 3 ∨ k = 4 ∨ k = 5 ∨ k = 6 ∨ k = 7 := by omega
    rcases hk8 with rfl | rfl | rfl | rfl | rfl | rfl | rfl | rfl
    · have hnx : ∀ ty, (Instr.next (.pointer (some ⟨w.heap.size, 0, none⟩)) true ty).run Try.prog (w.iter tested 0) = .ok (.tuple #[.bool true, .int .i64 0, .int .i32 48]) (w.iter tested 1) := fun ty => run_next_ascii w tested 0 ty (by decide) (by decide)
      go_wp2
      go_roundw
      case rel => exact ⟨1, a, rfl, rfl, ha, by omega⟩
      case measure => simp
    · have hnx : ∀ ty, (Instr.next (.pointer (some ⟨w.heap.size, 0, none⟩)) true ty).run Try.prog (w.iter tested 1) = .ok (.tuple #[.bool true, .int .i64 1, .int .i32 48]) (w.iter tested 2) := fun ty => run_next_ascii w tested 1 ty (by decide) (by decide)
      go_wp2
      go_roundw
      case rel => exact ⟨2, a, rfl, rfl, ha, by omega⟩
      case measure => simp
    · have hnx : ∀ ty, (Instr.next (.pointer (some ⟨w.heap.size, 0, none⟩)) true ty).run Try.prog (w.iter tested 2) = .ok (.tuple #[.bool true, .int .i64 2, .int .i32 48]) (w.iter tested 3) := fun ty => run_next_ascii w tested 2 ty (by decide) (by decide)
      go_wp2
      go_roundw
      case rel => exact ⟨3, a, rfl, rfl, ha, by omega⟩
      case measure => simp
    · have hnx : ∀ ty, (Instr.next (.pointer (some ⟨w.heap.size, 0, none⟩)) true ty).run Try.prog (w.iter tested 3) = .ok (.tuple #[.bool true, .int .i64 3, .int .i32 49]) (w.iter tested 4) := fun ty => run_next_ascii w tested 3 ty (by decide) (by decide)
      have ha2 : a = 0 := ha
      subst ha2
      have hl := low1 (s / 8)
      have hx : bits .xor .i64 0 (s / 8 % 2) = s / 8 % 2 := by have := xor2 0 (s / 8); rw [Int.zero_add] at this; exact this
      clear ha hk
      go_wp2
      go_roundw
      case rel => exact ⟨4, _, rfl, rfl, rfl, by omega⟩
      case measure => simp
    · have hnx : ∀ ty, (Instr.next (.pointer (some ⟨w.heap.size, 0, none⟩)) true ty).run Try.prog (w.iter tested 4) = .ok (.tuple #[.bool true, .int .i64 4, .int .i32 48]) (w.iter tested 5) := fun ty => run_next_ascii w tested 4 ty (by decide) (by decide)
      go_wp2
      go_roundw
      case rel => exact ⟨5, a, rfl, rfl, ha, by omega⟩
      case measure => simp
    · have hnx : ∀ ty, (Instr.next (.pointer (some ⟨w.heap.size, 0, none⟩)) true ty).run Try.prog (w.iter tested 5) = .ok (.tuple #[.bool true, .int .i64 5, .int .i32 48]) (w.iter tested 6) := fun ty => run_next_ascii w tested 5 ty (by decide) (by decide)
      go_wp2
      go_roundw
      case rel => exact ⟨6, a, rfl, rfl, ha, by omega⟩
      case measure => simp
    · have hnx : ∀ ty, (Instr.next (.pointer (some ⟨w.heap.size, 0, none⟩)) true ty).run Try.prog (w.iter tested 6) = .ok (.tuple #[.bool true, .int .i64 6, .int .i32 49]) (w.iter tested 7) := fun ty => run_next_ascii w tested 6 ty (by decide) (by decide)
      have ha2 : a = (s / 8 % 2) := ha
      subst ha2
      have hl := low1 (s / 64)
      have hx := xor2 (s / 8) (s / 64)
      clear ha hk
      go_wp2
      go_roundw
      case rel => exact ⟨7, _, rfl, rfl, rfl, by omega⟩
      case measure => simp
    · have hnx : ∀ ty, (Instr.next (.pointer (some ⟨w.heap.size, 0, none⟩)) true ty).run Try.prog (w.iter tested 7) = .ok (.tuple #[.bool false]) (w.iter tested 7) := fun ty => run_next_end w tested 7 ty (by decide)
      go_wp2
      go_ret
      exact ⟨ret_num2 ha, (Below.refl _ _).alloc (Nat.le_refl _) _⟩
theorem out_all : ∀ s : Nat, s < 128 → bits .and .i64 (bits .xor .i64 ((s : Int) / 8) ((s : Int) / 64)) 1 = outp s := by decide +kernel
theorem or_all : ∀ s : Nat, s < 128 → bits .or .i64 (2 * (s : Int) % 128) (outp s) = 2 * (s : Int) % 128 + outp s := by decide +kernel
theorem l5Out (s : Int) (h : 1 ≤ s ∧ s ≤ 127) (w : World) :
    Calls Try.prog 72 #[.int .i64 s] w fun e w' => e = .returned (.int .i64 (outp s)) ∧ w = w' := by
  obtain ⟨h1, h2⟩ := h
  obtain ⟨m, rfl⟩ := Int.eq_ofNat_of_zero_le (show 0 ≤ s by omega)
  have ho := out_all m (by omega)
  go_enter Try.func72, Try.ntmps72
  go_wp2
  go_ret
  exact ⟨rfl, rfl⟩
theorem isState_yes (s : Int) (h : 1 ≤ s ∧ s ≤ 127) (w : World) :
    Calls Try.prog 44 #[.int .i64 s] w fun e w' => e = .returned (.bool true) ∧ w = w' := by
  have H := Lib.hid h
  clear h
  go_enter Try.func44, Try.ntmps44
  go_wp2_with (go_at_call 43; refine (inRange_yes s 1 127 H.out _).mono ?_; rintro e w1 ⟨rfl, rfl⟩)
  go_ret
  exact ⟨rfl, rfl⟩
theorem isState_no (s : Int) (h : ¬ (1 ≤ s ∧ s ≤ 127)) (w : World) :
    Calls Try.prog 44 #[.int .i64 s] w fun e w' => e = .returned (.bool false) ∧ w = w' := by
  have H := Lib.hid h
  clear h
  go_enter Try.func44, Try.ntmps44
  go_wp2_with (go_at_call 43; refine (inRange_no s 1 127 H.out _).mono ?_; rintro e w1 ⟨rfl, rfl⟩)
  go_ret
  exact ⟨rfl, rfl⟩
theorem implNext (s : Int) (w : World) :
    Calls Try.prog 93 #[.int .i64 s] w fun e w' => e = .returned (.int .i64 (nx s)) ∧ Below w.heap.size w w' := by
  by_cases h : 1 ≤ s ∧ s ≤ 127
  · have H := Lib.hid h
    obtain ⟨h1, h2⟩ := h
    obtain ⟨m, rfl⟩ := Int.eq_ofNat_of_zero_le (show 0 ≤ s by omega)
    have hl : bits .and .i64 ((m : Int) * 2) 127 = 2 * (m : Int) % 128 := by rw [low7]; omega
    have ho := or_all m (by omega)
    have HO := Lib.hid (nx_yes H.out)
    obtain ⟨o, hoe⟩ : ∃ o, outp (m : Int) = o := ⟨_, rfl⟩
    rw [hoe] at ho
    have HE := Lib.hid hoe
    clear hoe
    go_enter Try.func93, Try.ntmps93
    go_wp2_with (first
      | (go_at_call 44; refine (isState_yes _ H.out _).mono ?_; rintro e w1 ⟨rfl, rfl⟩)
      | (go_at_call 92; refine (outputBit _ H.out _).mono ?_; rw [HE.out]; rintro e w2 ⟨rfl, hb⟩; have HB := Lib.hid hb; clear hb))
    go_ret
    exact ⟨ret_num2 (by rw [HO.out, HE.out]), HB.out⟩
  · have H := Lib.hid h
    clear h
    go_enter Try.func93, Try.ntmps93
    go_wp2_with (go_at_call 44; refine (isState_no _ H.out _).mono ?_; rintro e w1 ⟨rfl, rfl⟩)
    go_ret
    exact ⟨ret_num2 (nx_no H.out).symm, Below.refl _ _⟩
theorem specNext (s : Int) (w : World) :
    Calls Try.prog 73 #[.int .i64 s] w fun e w' => e = .returned (.int .i64 (nx s)) ∧ w = w' := by
  by_cases h : 1 ≤ s ∧ s ≤ 127
  · have H := Lib.hid h
    obtain ⟨h1, h2⟩ := h
    obtain ⟨m, rfl⟩ := Int.eq_ofNat_of_zero_le (show 0 ≤ s by omega)
    have hl : bits .and .i64 ((m : Int) * 2) 127 = 2 * (m : Int) % 128 := by rw [low7]; omega
    have ho := or_all m (by omega)
    have HO := Lib.hid (nx_yes H.out)
    obtain ⟨o, hoe⟩ : ∃ o, outp (m : Int) = o := ⟨_, rfl⟩
    rw [hoe] at ho
    have HE := Lib.hid hoe
    clear hoe
    go_enter Try.func73, Try.ntmps73
    go_wp2_with (first
      | (go_at_call 42; refine (l1In_yes _ 1 127 H.out _).mono ?_; rintro e w1 ⟨rfl, rfl⟩)
      | (go_at_call 72; refine (l5Out _ H.out _).mono ?_; rw [HE.out]; rintro e w2 ⟨rfl, rfl⟩))
    go_ret
    exact ⟨ret_num2 (by rw [HO.out, HE.out]), rfl⟩
  · have H := Lib.hid h
    clear h
    go_enter Try.func73, Try.ntmps73
    go_wp2_with (go_at_call 42; refine (l1In_no _ 1 127 H.out _).mono ?_; rintro e w1 ⟨rfl, rfl⟩)
    go_ret
    exact ⟨ret_num2 (nx_no H.out).symm, rfl⟩
end Go.Proofs.Ytdelpepepbkjmaa.scrs
