/- Bit strings, program and specification: IntToBits and XorBits. Condition: lengths up to 2^26. -/
import Derived.Test.YtdelpepepbkjmaaBits2
import Derived.Test.YtdelpepepbkjmaaDraw
import Derived.Deep.RegionWith
import Derived.Deep.RegionHeld3
namespace Go.Proofs.Ytdelpepepbkjmaa.bits
open Go.RowKit sl harn bm rng

theorem low1 (n : Int) : bits .and .i64 n 1 = n % 2 := draw.low_bits 1 (by omega) n
theorem empty_post (E : TypeId) (k : IntKind) (w : World) : SlPost E k w [] (.returned (.slice (some ⟨w.heap.size, 0, none⟩) 0 0)) (w.alloc (.cells #[] E)) :=
  ⟨_, _, _, rfl, (Ow.empty E k w).up, (Below.refl _ _).alloc (Nat.le_refl _) _⟩
theorem itb_at {n : Int} {m k : Nat} (h0 : 0 ≤ n) (hm : m ≤ 40) (hk : k < m) : (itb n m).getD k 0 = n / 2 ^ k % 2 := by
  rw [itb_yes h0 (by omega), Int.toNat_natCast, dig_at n hk]
theorem itb_len_in {n : Int} {m : Nat} (h0 : 0 ≤ n) (hm : m ≤ 40) : (itb n m).length = m := by
  rw [itb_yes h0 (by omega), Int.toNat_natCast, dig_len]
set_option maxRecDepth 100000 in
theorem implItb (n c : Int) (w : World) :
    Calls Try.prog 39 #[.int .i64 n, .int .i64 c] w (SlPost 3 .i64 w (itb n c)) := by
  by_cases hn : n < 0
  · have H0 := Lib.hid (itb_no (n := n) (c := c) (by omega))
    go_enter Try.func39, Try.ntmps39
    go_wp2_with fail
    go_ret
    rw [H0.out]; exact empty_post _ _ _
  · by_cases hc : 0 ≤ c ∧ c ≤ 40
    · obtain ⟨hc0, hc1⟩ := hc
      obtain ⟨m, rfl⟩ := Int.eq_ofNat_of_zero_le hc0
      have hm : m ≤ 40 := by omega
      have hn0 : 0 ≤ n := by omega
      have HC := Lib.hid (And.intro hc0 hc1)
      obtain ⟨i0, hi0, hz0, hz1, hz2⟩ := info_parts intInfo
      have hmk := fun W => run_make1 (P := Try.prog) 27 3 i0 _ Try.underlying27 hi0 hz0 hz1 m (by omega) (by omega) W
      clear hz2 hz1 hz0 hi0 hc0 hc1
      go_enter Try.func39, Try.ntmps39
      go_wp2_with (go_at_call 43; refine (inRange_yes _ 0 40 HC.out _).mono ?_; rintro e w1 ⟨rfl, rfl⟩)
      go_loopw [19] (fun i wr => ∃ k : Nat, i = .int .i64 k ∧ k ≤ m ∧ Part .i64 3 w wr m k (itb n m)) (fun i _ => m - (intOf i).toNat)
      case atStart => exact ⟨0, rfl, by omega, Part.start _ _ _ _ _ _⟩
      case round =>
        obtain ⟨k, rfl, hk, hp⟩ := hrel
        have HP := Lib.hid hp
        clear hp
        by_cases hlt : k < m
        · obtain ⟨v, hv⟩ := HP.out.cell hlt
          have hf := HP.out.free k
          have hlt2 : (k : Int) < m := by omega
          have hx := itb_at hn0 hm hlt
          have hl1 := low1 (n / 2 ^ k)
          obtain ⟨x, hxe⟩ : ∃ x, n / 2 ^ k % 2 = x := ⟨_, rfl⟩
          rw [hxe] at hx hl1
          have HX := Lib.hid hx
          clear hx hxe
          go_wp2
          go_roundw
          case rel => exact ⟨k + 1, by go_num, by omega, by have := HP.out.step hlt; rw [HX.out] at this; exact this⟩
          case measure => simp [intOf]; omega
        · have hlt2 : ¬ (k : Int) < m := by omega
          go_wp2
          go_ret
          obtain rfl : k = m := by omega
          exact HP.out.done (itb_len_in hn0 hm) (itb_wf _ _) (by unfold maxLen; omega)
    · have H0 := Lib.hid (itb_no (n := n) (c := c) (fun h => hc h.2))
      have HC := Lib.hid hc
      clear hc
      go_enter Try.func39, Try.ntmps39
      go_wp2_with (go_at_call 43; refine (inRange_no c 0 40 HC.out _).mono ?_; rintro e w1 ⟨rfl, rfl⟩)
      go_ret
      rw [H0.out]; exact empty_post _ _ _

/-- A list that is being gathered by appends. -/
def Gath (E : TypeId) (kd : IntKind) (w wr : World) (zs : List Int) (k : Nat) (v : Value) : Prop := ∃ A c, v = .slice A k c ∧ Ow E kd wr w.heap.size wr.heap.size A k c (zs.take k) ∧ Below w.heap.size w wr
theorem Gath.start (E : TypeId) (kd : IntKind) (w : World) (zs : List Int) : Gath E kd w (w.alloc (.cells #[] E)) zs 0 (.slice (some ⟨w.heap.size, 0, none⟩) 0 0) :=
  ⟨_, _, rfl, (Ow.empty E kd w).up, (Below.refl _ _).alloc (Nat.le_refl _) _⟩
theorem take_one {zs : List Int} {k : Nat} (h : k < zs.length) : zs.take (k + 1) = zs.take k ++ [zs.getD k 0] := by
  rw [List.take_add_one, List.getElem?_eq_getElem h, List.getD_eq_getElem?_getD, List.getElem?_eq_getElem h]; rfl
theorem Gath.done {E : TypeId} {kd : IntKind} {w wr : World} {zs : List Int} {k : Nat} {A : Option Addr} {c : Nat} (ho : Ow E kd wr w.heap.size wr.heap.size A k c (zs.take k)) (hb : Below w.heap.size w wr) (hl : zs.length = k) : SlPost E kd w zs (.returned (.slice A k c)) wr := by
  rw [take_all hl] at ho
  exact ⟨_, _, _, rfl, ho, hb⟩
set_option maxRecDepth 100000 in
theorem specItb (n c : Int) (w : World) :
    Calls Try.prog 47 #[.int .i64 n, .int .i64 c] w (SlPost 3 .i64 w (itb n c)) := by
  by_cases hn : n < 0
  · have H0 := Lib.hid (itb_no (n := n) (c := c) (by omega))
    go_enter Try.func47, Try.ntmps47
    go_wp2_with fail
    go_ret
    rw [H0.out]; exact empty_post _ _ _
  · by_cases hc : 0 ≤ c ∧ c ≤ 40
    · obtain ⟨hc0, hc1⟩ := hc
      obtain ⟨m, rfl⟩ := Int.eq_ofNat_of_zero_le hc0
      have hm : m ≤ 40 := by omega
      have hn0 : 0 ≤ n := by omega
      have HC := Lib.hid (And.intro hc0 hc1)
      have HW := itb_wf n m
      have HWf := Lib.hid HW
      obtain ⟨i0, hi0, hz0, hz1, hz2⟩ := info_parts intInfo
      have HZ := Lib.hid (And.intro hi0 (And.intro hz0 (And.intro hz1 hz2)))
      clear hz2 hz1 hz0 hi0 hc0 hc1 HW
      go_enter Try.func47, Try.ntmps47
      go_wp2_with (go_at_call 42; refine (l1In_yes _ 0 40 HC.out _).mono ?_; rintro e w1 ⟨rfl, rfl⟩)
      go_loopw [5, 6] (fun v i wr => ∃ k : Nat, i = .int .i64 k ∧ k ≤ m ∧ Gath 3 .i64 w wr (itb n m) k v) (fun _ i _ => m - (intOf i).toNat)
      case atStart => exact ⟨0, rfl, by omega, Gath.start _ _ _ _⟩
      case round =>
        obtain ⟨k, rfl, hk, B, c, rfl, ho, hb⟩ := hrel
        have HO := Lib.hid ho
        have HB := Lib.hid hb
        clear ho hb
        by_cases hlt : k < m
        · have hlt2 : (k : Int) < m := by omega
          have hx := itb_at hn0 hm hlt
          have hl1 := low1 (n / 2 ^ k)
          obtain ⟨x, hxe⟩ : ∃ x, n / 2 ^ k % 2 = x := ⟨_, rfl⟩
          rw [hxe] at hx hl1
          have HX := Lib.hid (show (itb n m).take (k + 1) = (itb n m).take k ++ [x] by rw [take_one (by rw [itb_len_in hn0 hm]; exact hlt), hx])
          have HV := Lib.hid (show (Lit.int .i64 x).wf = true from WalkArith.wf_i64 (by omega))
          clear hx hxe
          go_wp2_with (at_builtin; refine wpList_app _ rfl _ _ 27 rfl 3 i0 _ .i64 Try.underlying27 HZ.out.1 HZ.out.2.1 HZ.out.2.2.1 (by rw [HZ.out.2.2.2]; omega) rfl rfl rfl (HO.out.alloc _) (Rd.one .i64 _ _ _ HV.out) (by omega) (by have := HB.out.size; simp; omega) ?_; intro A1 cap1 w1 ho hb1; have HO1 := Lib.hid ho; have HB1 := Lib.hid ((HB.out.alloc HB.out.size _).trans hb1); clear ho hb1)
          go_roundw
          case rel => exact ⟨k + 1, by go_num, by omega, A1, cap1, rfl, by rw [HX.out]; exact HO1.out, HB1.out⟩
          case measure => simp [intOf]; omega
        · have hlt2 : ¬ (k : Int) < m := by omega
          go_wp2
          go_ret
          obtain rfl : k = m := by omega
          exact Gath.done HO.out HB.out (itb_len_in hn0 hm)
    · have H0 := Lib.hid (itb_no (n := n) (c := c) (fun h => hc h.2))
      have HC := Lib.hid hc
      clear hc
      go_enter Try.func47, Try.ntmps47
      go_wp2_with (go_at_call 42; refine (l1In_no c 0 40 HC.out _).mono ?_; rintro e w1 ⟨rfl, rfl⟩)
      go_ret
      rw [H0.out]; exact empty_post _ _ _
end Go.Proofs.Ytdelpepepbkjmaa.bits
