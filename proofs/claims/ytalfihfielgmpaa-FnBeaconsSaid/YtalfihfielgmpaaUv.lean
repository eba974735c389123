/- The functions of varints, program and specification: AppendUvarint. Condition: lengths up to 2^27. -/
import Derived.Test.YtalfihfielgmpaaApp
import Derived.Test.YtalfihfielgmpaaEnc
import Derived.Laws.Bits128
namespace Go.Proofs.Ytalfihfielgmpaa.uvs
open Go.RowKit sl enc harn

theorem inRange_yes (n a b : Int) (h : a ≤ n ∧ n ≤ b) (w : World) :
    Calls Try.prog 56 #[.int .i64 n, .int .i64 a, .int .i64 b] w fun e w' => e = .returned (.bool true) ∧ w = w' := by
  obtain ⟨h1, h2⟩ := h
  go_enter Try.func56, Try.ntmps56
  go_wp2
  go_ret
  exact ⟨rfl, rfl⟩
theorem inRange_no (n a b : Int) (h : ¬ (a ≤ n ∧ n ≤ b)) (w : World) :
    Calls Try.prog 56 #[.int .i64 n, .int .i64 a, .int .i64 b] w fun e w' => e = .returned (.bool false) ∧ w = w' := by
  by_cases h1 : a ≤ n
  · have h2 : ¬ n ≤ b := by omega
    clear h
    go_enter Try.func56, Try.ntmps56
    go_wp2
    go_ret
    exact ⟨rfl, rfl⟩
  · clear h
    go_enter Try.func56, Try.ntmps56
    go_wp2
    go_ret
    exact ⟨rfl, rfl⟩
theorem l1In_yes (n a b : Int) (h : a ≤ n ∧ n ≤ b) (w : World) :
    Calls Try.prog 54 #[.int .i64 n, .int .i64 a, .int .i64 b] w fun e w' => e = .returned (.bool true) ∧ w = w' := by
  obtain ⟨h1, h2⟩ := h
  go_enter Try.func54, Try.ntmps54
  go_wp2
  go_ret
  exact ⟨rfl, rfl⟩
theorem l1In_no (n a b : Int) (h : ¬ (a ≤ n ∧ n ≤ b)) (w : World) :
    Calls Try.prog 54 #[.int .i64 n, .int .i64 a, .int .i64 b] w fun e w' => e = .returned (.bool false) ∧ w = w' := by
  by_cases h1 : a ≤ n
  · have h2 : ¬ n ≤ b := by omega
    clear h
    go_enter Try.func54, Try.ntmps54
    go_wp2
    go_ret
    exact ⟨rfl, rfl⟩
  · clear h
    go_enter Try.func54, Try.ntmps54
    go_wp2
    go_ret
    exact ⟨rfl, rfl⟩

/-- A part of a slice of bytes: it is read where it lies. -/
def PartPost (lo hi : Nat) (zs : List Int) (i j : Nat) (w : World) (e : Ending) (w' : World) : Prop :=
  ∃ A, e = .returned (.slice A (j - i) (j - i)) ∧ Rd .u8 w lo hi A (j - i) (j - i) ((zs.drop i).take (j - i)) ∧ w = w'
theorem part (lo hi : Nat) (A : Option Addr) (n cap : Nat) (zs : List Int) (i j : Nat) (w : World) (h : Rd .u8 w lo hi A n cap zs) (h1 : i ≤ j) (h2 : j ≤ n) :
    Calls Try.prog 70 #[.slice A n cap, .int .i64 i, .int .i64 j] w (PartPost lo hi zs i j w) := by
  have hb := h.cap_
  have h3 : j ≤ cap := by omega
  have HR := Lib.hid h
  clear h
  by_cases hij : j = i
  · subst hij
    go_enter Try.func70, Try.ntmps70
    go_wp2
    go_ret
    exact ⟨A, by rw [Nat.sub_self]; rfl, HR.out.cut j j (j - j) A (fun h => by omega) h1 h2 (Nat.le_refl _) (by unfold maxLen; omega), rfl⟩
  · go_enter Try.func70, Try.ntmps70
    go_wp2
    go_ret
    exact ⟨_, rfl, HR.out.cut i j (j - i) _ (fun h => by simp) h1 h2 (Nat.le_refl _) (by unfold maxLen; omega), rfl⟩

/-- A slice of bytes from block lo on, below which nothing has turned. -/
def AddPost (lo : Nat) (w : World) (zs : List Int) (e : Ending) (w' : World) : Prop :=
  ∃ A n cap, e = .returned (.slice A n cap) ∧ Ow 5 .u8 w' lo w'.heap.size A n cap zs ∧ Below lo w w'
theorem AddPost.intro {lo : Nat} {w w' : World} {zs : List Int} {A : Option Addr} {n cap hi : Nat} (h : Ow 5 .u8 w' lo hi A n cap zs) (hb : Below lo w w') : AddPost lo w zs (.returned (.slice A n cap)) w' :=
  ⟨A, n, cap, rfl, h.up, hb⟩
/-- A varint that is being written: what is there, and what is to come. -/
def Way (lo : Nat) (w wr : World) (zs : List Int) (N : Nat) (b x : Value) : Prop :=
  ∃ A m cap l y, b = .slice A m cap ∧ x = .int .i64 (y : Nat) ∧ l ++ enc y = zs ++ enc N ∧ Ow 5 .u8 wr lo wr.heap.size A m cap l ∧ Below lo w wr ∧ y ≤ N ∧ lo ≤ wr.heap.size
theorem way_step {l zs : List Int} {y N : Nat} (h : l ++ enc y = zs ++ enc N) (hy : 128 ≤ y) : (l ++ [((y % 128 + 128 : Nat) : Int)]) ++ enc (y / 128) = zs ++ enc N := by
  rw [← h, enc_more hy]; simp
theorem way_last {l zs : List Int} {y N : Nat} (h : l ++ enc y = zs ++ enc N) (hy : y < 128) : l ++ [(y : Int)] = zs ++ enc N := by
  rw [← h, enc_less hy]
theorem way_len {l zs : List Int} {y N : Nat} (h : l ++ enc y = zs ++ enc N) (hN : N ≤ 1000000000000) : l.length ≤ zs.length + 5 := by
  have e := congrArg List.length h
  rw [List.length_append, List.length_append] at e
  have := enc_pos y
  have := enc_len6 hN
  omega
theorem below_push {lo : Nat} {w wr w' : World} {o : Obj} (h : Below lo w wr) (hl : lo ≤ wr.heap.size) (hb : Below lo (wr.alloc o) w') : Below lo w w' := (h.alloc hl o).trans hb

set_option maxRecDepth 100000 in
theorem addIn (lo hi : Nat) (A : Option Addr) (n cap : Nat) (zs : List Int) (N : Nat) (w : World) (h : Ow 5 .u8 w lo hi A n cap zs) (hlo : lo ≤ w.heap.size) (hN : N ≤ 1000000000000) (hn : n ≤ 134217728) :
    Calls Try.prog 66 #[.slice A n cap, .int .i64 N] w (AddPost lo w (zs ++ enc N)) := by
  obtain ⟨i0, hi0, hz0, hz1, hz2⟩ := info_parts u8Info
  have hr := fun W => inRange_yes N 0 1000000000000 (by omega) W
  have HR := Lib.hid h
  have HZ := Lib.hid (And.intro hi0 (And.intro hz0 (And.intro hz1 hz2)))
  clear h hi0 hz0 hz1 hz2
  go_enter Try.func66, Try.ntmps66
  go_wp2_with (go_at_call 56; refine (hr _).mono ?_; rintro e w1 ⟨rfl, rfl⟩)
  go_loopw [0, 1] (fun b x wr => Way lo w wr zs N b x) (fun _ x _ => (intOf x).toNat)
  case atStart => exact ⟨A, n, cap, zs, N, rfl, rfl, rfl, HR.out.up, Below.refl _ _, Nat.le_refl _, hlo⟩
  case round =>
    obtain ⟨B, m, c, l, y, rfl, rfl, hl, ho, hb, hy, hlw⟩ := hrel
    have hm : m ≤ 134217733 := by have h1 := way_len hl hN; have h2 := ho.len; have h3 := HR.out.len; omega
    have HL := Lib.hid hl
    have HO := Lib.hid ho
    have HB := Lib.hid hb
    clear hl ho hb
    by_cases h128 : 128 ≤ y
    · have hx : (Lit.int .u8 (((y : Int) % 128) + 128)).wf = true := WalkArith.wf_u8 (by omega)
      have hX := Lib.hid hx
      clear hx
      go_wp2_with (at_builtin; refine wpList_app _ rfl _ _ 22 rfl 5 i0 _ .u8 Try.underlying22 HZ.out.1 HZ.out.2.1 HZ.out.2.2.1 (by rw [HZ.out.2.2.2]; omega) rfl rfl rfl (HO.out.alloc _) (Rd.one .u8 _ _ _ hX.out) (by omega) (by simp; omega) ?_; intro A1 cap1 w1 ho hb1; have HO1 := Lib.hid ho; have HB1 := Lib.hid (below_push HB.out hlw hb1); clear ho hb1 HO)
      go_roundw
      case rel => exact ⟨A1, m + 1, cap1, l ++ [(y : Int) % 128 + 128], y / 128, by go_num, by go_num, by have := way_step HL.out h128; simpa using this, HO1.out, HB1.out, by omega, by have := HB1.out.size; omega⟩
      case measure => simp [intOf]; omega
    · have hx : (Lit.int .u8 (y : Int)).wf = true := WalkArith.wf_u8 (by omega)
      have hX := Lib.hid hx
      clear hx
      go_wp2_with (at_builtin; refine wpList_app _ rfl _ _ 22 rfl 5 i0 _ .u8 Try.underlying22 HZ.out.1 HZ.out.2.1 HZ.out.2.2.1 (by rw [HZ.out.2.2.2]; omega) rfl rfl rfl (HO.out.alloc _) (Rd.one .u8 _ _ _ hX.out) (by omega) (by simp; omega) ?_; intro A1 cap1 w1 ho hb1; have HO1 := Lib.hid ho; have HB1 := Lib.hid (below_push HB.out hlw hb1); clear ho hb1 HO)
      go_ret
      have e := way_last HL.out (by omega)
      rw [← e]
      exact AddPost.intro HO1.out HB1.out
theorem addOut (lo hi : Nat) (A : Option Addr) (n cap : Nat) (zs : List Int) (N : Int) (w : World) (h : Ow 5 .u8 w lo hi A n cap zs) (hN : ¬ (0 ≤ N ∧ N ≤ 1000000000000)) :
    Calls Try.prog 66 #[.slice A n cap, .int .i64 N] w (AddPost lo w zs) := by
  have hr := fun W => inRange_no N 0 1000000000000 hN W
  have HR := Lib.hid h
  clear h hN
  go_enter Try.func66, Try.ntmps66
  go_wp2_with (go_at_call 56; refine (hr _).mono ?_; rintro e w1 ⟨rfl, rfl⟩)
  go_ret
  exact AddPost.intro HR.out (Below.refl _ _)
theorem addUv (lo hi : Nat) (A : Option Addr) (n cap : Nat) (zs : List Int) (N : Int) (w : World) (h : Ow 5 .u8 w lo hi A n cap zs) (hlo : lo ≤ w.heap.size) (hn : n ≤ 134217728) :
    Calls Try.prog 66 #[.slice A n cap, .int .i64 N] w (AddPost lo w (uv zs N)) := by
  by_cases hN : 0 ≤ N ∧ N ≤ 1000000000000
  · rw [uv_in hN]
    obtain ⟨k, rfl⟩ := Int.eq_ofNat_of_zero_le hN.1
    rw [Int.toNat_natCast]
    exact addIn lo hi A n cap zs k w h hlo (by omega) hn
  · rw [uv_out hN]
    exact addOut lo hi A n cap zs N w h hN

theorem or128 (x : Int) (h0 : 0 ≤ x) (h1 : x < 128) : bits .or .i64 x 128 = x + 128 := by
  obtain ⟨k, rfl⟩ := Int.eq_ofNat_of_zero_le h0
  have e : (k ||| 128) = k + 128 := by
    have := Nat.two_pow_add_eq_or_of_lt (show k < 2 ^ 7 by omega) 1
    rw [Nat.or_comm]
    simpa [Nat.add_comm] using this.symm
  show IntKind.i64.wrap ((BitVec.ofInt 64 (k : Int) ||| BitVec.ofInt 64 128).toNat : Int) = _
  rw [BitVec.toNat_or]
  have e1 : (BitVec.ofInt 64 (k : Int)).toNat = k := by rw [BitVec.ofInt_natCast, BitVec.toNat_ofNat]; omega
  have e2 : (BitVec.ofInt 64 128).toNat = 128 := by rfl
  rw [e1, e2, e, IntKind.wrap_i64]
  omega
theorem and127 (x : Int) : bits .and .i64 x 127 = x % 128 := i64_and127 x

set_option maxRecDepth 100000 in
theorem specIn (lo hi : Nat) (A : Option Addr) (n cap : Nat) (zs : List Int) (N : Nat) (w : World) (h : Rd .u8 w lo hi A n cap zs) (hN : N ≤ 1000000000000) (hn : n ≤ 134217728) :
    Calls Try.prog 62 #[.slice A n cap, .int .i64 N] w (SlPost 5 .u8 w (zs ++ enc N)) := by
  obtain ⟨i0, hi0, hz0, hz1, hz2⟩ := info_parts u8Info
  have hr := fun W => l1In_yes N 0 1000000000000 (by omega) W
  have HR := Lib.hid h
  have HZ := Lib.hid (And.intro hi0 (And.intro hz0 (And.intro hz1 hz2)))
  clear h hi0 hz0 hz1 hz2
  go_enter Try.func62, Try.ntmps62
  go_wp2_with (first
    | (go_at_call 54; refine (hr _).mono ?_; rintro e w1 ⟨rfl, rfl⟩)
    | (at_builtin; refine wpList_app _ rfl _ _ 22 rfl 5 i0 _ .u8 Try.underlying22 HZ.out.1 HZ.out.2.1 HZ.out.2.2.1 (by rw [HZ.out.2.2.2]; omega) rfl rfl rfl (Ow.empty _ _ _) (HR.out.alloc _) (by omega) (by simp) ?_; intro A1 cap1 w1 ho hb1; have HO := Lib.hid ho; have HB := Lib.hid (below_push (Below.refl _ _) (Nat.le_refl _) hb1); clear ho hb1))
  go_loopw [1, 5] (fun x b wr => Way w.heap.size w wr zs N b x) (fun x _ _ => (intOf x).toNat)
  case atStart => exact ⟨A1, 0 + n, cap1, zs, N, by rw [Nat.zero_add], rfl, rfl, by simpa using HO.out, HB.out, Nat.le_refl _, HB.out.size⟩
  case round =>
    obtain ⟨B, m, c, l, y, rfl, rfl, hl, ho, hb, hy, hlw⟩ := hrel
    have hm : m ≤ 134217733 := by have h1 := way_len hl hN; have h2 := ho.len; have h3 := HR.out.len; omega
    have HL := Lib.hid hl
    have HO := Lib.hid ho
    have HB := Lib.hid hb
    clear hl ho hb
    by_cases h128 : 128 ≤ y
    · have ha := and127 (y : Int)
      have hoo := or128 ((y : Int) % 128) (by omega) (by omega)
      have hX := Lib.hid (show (Lit.int .u8 (((y : Int) % 128) + 128)).wf = true from WalkArith.wf_u8 (by omega))
      go_wp2_with (at_builtin; refine wpList_app _ rfl _ _ 22 rfl 5 i0 _ .u8 Try.underlying22 HZ.out.1 HZ.out.2.1 HZ.out.2.2.1 (by rw [HZ.out.2.2.2]; omega) rfl rfl rfl (HO.out.alloc _) (Rd.one .u8 _ _ _ hX.out) (by omega) (by simp; omega) ?_; intro A1 cap1 w1 ho hb1; have HO1 := Lib.hid ho; have HB1 := Lib.hid (below_push HB.out hlw hb1); clear ho hb1 HO)
      go_roundw
      case rel => exact ⟨A1, m + 1, cap1, l ++ [(y : Int) % 128 + 128], y / 128, by go_num, by go_num, by have := way_step HL.out h128; simpa using this, HO1.out, HB1.out, by omega, by have := HB1.out.size; omega⟩
      case measure => simp [intOf]; omega
    · have hX := Lib.hid (show (Lit.int .u8 (y : Int)).wf = true from WalkArith.wf_u8 (by omega))
      go_wp2_with (at_builtin; refine wpList_app _ rfl _ _ 22 rfl 5 i0 _ .u8 Try.underlying22 HZ.out.1 HZ.out.2.1 HZ.out.2.2.1 (by rw [HZ.out.2.2.2]; omega) rfl rfl rfl (HO.out.alloc _) (Rd.one .u8 _ _ _ hX.out) (by omega) (by simp; omega) ?_; intro A1 cap1 w1 ho hb1; have HO1 := Lib.hid ho; have HB1 := Lib.hid (below_push HB.out hlw hb1); clear ho hb1 HO)
      go_ret
      have e := way_last HL.out (by omega)
      rw [← e]
      exact ⟨_, _, _, rfl, HO1.out, HB1.out⟩
end Go.Proofs.Ytalfihfielgmpaa.uvs
