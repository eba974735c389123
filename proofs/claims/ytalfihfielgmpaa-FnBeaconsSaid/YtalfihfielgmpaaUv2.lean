/- AppendUvarint of the specification at every number, and ReadUvarint of the specification. Condition: lengths up to 2^27. -/
import Derived.Test.YtalfihfielgmpaaUv
namespace Go.Proofs.Ytalfihfielgmpaa.uvs
open Go.RowKit sl enc harn

theorem specOut (lo hi : Nat) (A : Option Addr) (n cap : Nat) (zs : List Int) (N : Int) (w : World) (h : Rd .u8 w lo hi A n cap zs) (hN : ¬ (0 ≤ N ∧ N ≤ 1000000000000)) (hn : n ≤ 134217728) :
    Calls Try.prog 62 #[.slice A n cap, .int .i64 N] w (SlPost 5 .u8 w zs) := by
  obtain ⟨i0, hi0, hz0, hz1, hz2⟩ := info_parts u8Info
  have hr := fun W => l1In_no N 0 1000000000000 hN W
  have HR := Lib.hid h
  have HZ := Lib.hid (And.intro hi0 (And.intro hz0 (And.intro hz1 hz2)))
  clear h hi0 hz0 hz1 hz2 hN
  go_enter Try.func62, Try.ntmps62
  go_wp2_with (first
    | (go_at_call 54; refine (hr _).mono ?_; rintro e w1 ⟨rfl, rfl⟩)
    | (at_builtin; refine wpList_app _ rfl _ _ 22 rfl 5 i0 _ .u8 Try.underlying22 HZ.out.1 HZ.out.2.1 HZ.out.2.2.1 (by rw [HZ.out.2.2.2]; omega) rfl rfl rfl (Ow.empty _ _ _) (HR.out.alloc _) (by omega) (by simp) ?_; intro A1 cap1 w1 ho hb1; have HO := Lib.hid ho; have HB := Lib.hid (below_push (Below.refl _ _) (Nat.le_refl _) hb1); clear ho hb1))
  go_ret
  exact ⟨_, _, _, rfl, by simpa using HO.out, HB.out⟩
theorem specUv (lo hi : Nat) (A : Option Addr) (n cap : Nat) (zs : List Int) (N : Int) (w : World) (h : Rd .u8 w lo hi A n cap zs) (hn : n ≤ 134217728) :
    Calls Try.prog 62 #[.slice A n cap, .int .i64 N] w (SlPost 5 .u8 w (uv zs N)) := by
  by_cases hN : 0 ≤ N ∧ N ≤ 1000000000000
  · rw [uv_in hN]
    obtain ⟨k, rfl⟩ := Int.eq_ofNat_of_zero_le hN.1
    rw [Int.toNat_natCast]
    exact specIn lo hi A n cap zs k w h (by omega) hn
  · rw [uv_out hN]
    exact specOut lo hi A n cap zs N w h hN hn

/-- Three results: two numbers and a bool. -/
def three (t : Int × Int × Bool) : Value := .tuple #[.int .i64 t.1, .int .i64 t.2.1, .bool t.2.2]
def RvPost (zs : List Int) (off : Int) (w : World) (e : Ending) (w' : World) : Prop := e = .returned (three (rv zs off)) ∧ Below w.heap.size w w'
/-- A varint of which k groups have been read. -/
def Got (zs : List Int) (off : Int) (k : Nat) (a : Int) : Prop := 0 ≤ a ∧ a < 128 ^ k ∧ (0 < k → off + k ≤ zs.length) ∧ dec 6 (zs.drop off.toNat) 0 0 = dec (6 - k) (zs.drop (off.toNat + k)) k a
theorem Got.start (zs : List Int) (off : Int) : Got zs off 0 0 := ⟨by omega, by simp, fun h => absurd h (by omega), by simp⟩
theorem drop_getD {zs : List Int} {i : Nat} (h : i < zs.length) : zs.drop i = zs.getD i 0 :: zs.drop (i + 1) := by
  rw [List.drop_eq_getElem_cons h, List.getD_eq_getElem?_getD, List.getElem?_eq_getElem h]; rfl
theorem or_shift (k : Nat) (a x : Int) (ha : 0 ≤ a) (ha2 : a < 128 ^ k) (hx : 0 ≤ x) (hb : (x + 1) * 128 ^ k ≤ 9223372036854775807) : bits .or .i64 a (x * 128 ^ k) = a + x * 128 ^ k := by
  obtain ⟨p, rfl⟩ := Int.eq_ofNat_of_zero_le ha
  obtain ⟨q, rfl⟩ := Int.eq_ofNat_of_zero_le hx
  have hp : p < 128 ^ k := by exact_mod_cast ha2
  have hq : (q + 1) * 128 ^ k ≤ 9223372036854775807 := by
    have e : (((q + 1) * 128 ^ k : Nat) : Int) = ((q : Int) + 1) * 128 ^ k := by rw [Int.natCast_mul, Int.natCast_pow]; rfl
    rw [← e] at hb
    exact Int.ofNat_le.1 hb
  have e128 : (128 : Nat) ^ k = 2 ^ (7 * k) := by rw [Nat.pow_mul]
  rw [show ((q : Int) * 128 ^ k) = ((q * 128 ^ k : Nat) : Int) by rw [Int.natCast_mul, Int.natCast_pow, show ((128 : Nat) : Int) = 128 from rfl]]
  have hs : q * 128 ^ k + 128 ^ k ≤ 9223372036854775807 := by rw [Nat.add_mul, Nat.one_mul] at hq; exact hq
  have e : (p ||| q * 128 ^ k) = p + q * 128 ^ k := by
    rw [e128] at hp ⊢
    have := Nat.two_pow_add_eq_or_of_lt hp q
    rw [Nat.or_comm, Nat.mul_comm q, Nat.add_comm p]
    exact this.symm
  show IntKind.i64.wrap ((BitVec.ofInt 64 (p : Int) ||| BitVec.ofInt 64 ((q * 128 ^ k : Nat) : Int)).toNat : Int) = _
  rw [BitVec.toNat_or]
  have e1 : (BitVec.ofInt 64 (p : Int)).toNat = p := by rw [BitVec.ofInt_natCast, BitVec.toNat_ofNat]; omega
  have e2 : (BitVec.ofInt 64 ((q * 128 ^ k : Nat) : Int)).toNat = q * 128 ^ k := by rw [BitVec.ofInt_natCast, BitVec.toNat_ofNat]; omega
  rw [e1, e2, e, IntKind.wrap_i64]
  omega
theorem pow_step {k : Nat} {a x : Int} (ha : 0 ≤ a) (h : a < 128 ^ k) (hx0 : 0 ≤ x) (hx : x < 128) : 0 ≤ a + x * 128 ^ k ∧ a + x * 128 ^ k < 128 ^ (k + 1) := by
  have hp : (0 : Int) ≤ 128 ^ k := Int.pow_nonneg (by omega)
  have h1 : (0 : Int) ≤ x * 128 ^ k := Int.mul_nonneg hx0 hp
  have h2 : x * 128 ^ k ≤ 127 * 128 ^ k := Int.mul_le_mul_of_nonneg_right (by omega) hp
  rw [Int.pow_succ]
  omega
theorem Got.more {zs : List Int} {off : Int} {k : Nat} {a x : Int} (h : Got zs off k a) (h0 : 0 ≤ off) (hl : off + k < zs.length) (hx : zs.getD (off.toNat + k) 0 = x) (hx1 : 128 ≤ x) (hx2 : x ≤ 255) (hk : k < 6) :
    Got zs off (k + 1) (a + (x - 128) * 128 ^ k) := by
  obtain ⟨h1, h2, h3, h4⟩ := h
  have h5 := pow_step h1 h2 (show 0 ≤ x - 128 by omega) (by omega)
  refine ⟨h5.1, h5.2, fun _ => by omega, ?_⟩
  rw [h4, drop_getD (show off.toNat + k < zs.length by omega), hx, show 6 - k = (6 - (k + 1)) + 1 by omega, dec_more (by omega)]
  rfl
theorem Got.last {zs : List Int} {off : Int} {k : Nat} {a x : Int} (h : Got zs off k a) (h0 : 0 ≤ off) (hl : off + k < zs.length) (hx : zs.getD (off.toNat + k) 0 = x) (hx1 : x < 128) (hk : k < 6) :
    dec 6 (zs.drop off.toNat) 0 0 = if (x = 0 ∧ 0 < k) ∨ 1000000000000 < a + x * 128 ^ k then none else some (a + x * 128 ^ k, k + 1) := by
  obtain ⟨h1, h2, h3, h4⟩ := h
  rw [h4, drop_getD (show off.toNat + k < zs.length by omega), hx, show 6 - k = (6 - (k + 1)) + 1 by omega, dec_last hx1]
theorem Got.end_ {zs : List Int} {off : Int} {k : Nat} {a : Int} (h : Got zs off k a) (hl : zs.length ≤ off.toNat + k) : rv zs off = (0, 0, false) := by
  refine rv_none ?_
  rw [h.2.2.2, List.drop_eq_nil_of_le hl, dec_nil]
theorem Got.six {zs : List Int} {off : Int} {a : Int} (h : Got zs off 6 a) : rv zs off = (0, 0, false) := by
  refine rv_none ?_
  rw [h.2.2.2]; rfl
theorem or_wrap (k : Nat) (q y v : Int) (h0 : 0 ≤ q) (h1 : q < 128 ^ k) (hy0 : 0 ≤ y) (hy1 : y < 128) (hk : k < 6) (hv : q + y * 128 ^ k = v) : bits .or .i64 q (wrap64 (y * 2 ^ (7 * k))) = v := by
  have e : (2 : Int) ^ (7 * k) = 128 ^ k := by rw [Int.pow_mul]; rfl
  have hp : (128 : Int) ^ k ≤ 128 ^ 5 := by
    have := Nat.pow_le_pow_right (show 0 < 128 by omega) (show k ≤ 5 by omega)
    exact_mod_cast this
  have hp0 : (0 : Int) ≤ 128 ^ k := Int.pow_nonneg (by omega)
  have h2 : (y + 1) * 128 ^ k ≤ 128 * 128 ^ k := Int.mul_le_mul_of_nonneg_right (by omega) hp0
  have h3 : (0 : Int) ≤ y * 128 ^ k := Int.mul_nonneg hy0 hp0
  have h4 : (y + 1) * 128 ^ k = y * 128 ^ k + 128 ^ k := by rw [Int.add_mul, Int.one_mul]
  have h5 : (128 : Int) ^ 5 = 34359738368 := by decide
  rw [e, IntWalk.wrap64_in _ ⟨by omega, by omega⟩, or_shift k q y h0 h1 hy0 (by omega), hv]
theorem ret_three {t u : Int × Int × Bool} (h : t = u) : Ending.returned (three t) = .returned (three u) := by rw [h]

theorem specRv (lo hi : Nat) (A : Option Addr) (n cap : Nat) (zs : List Int) (off : Int) (w : World) (h : Rd .u8 w lo hi A n cap zs) (hn : n ≤ 134217728) :
    Calls Try.prog 67 #[.slice A n cap, .int .i64 off] w (RvPost zs off w) := by
  have hlen := h.len
  have hb := h.cap_
  have HR := Lib.hid h
  have HL := Lib.hid hlen
  clear h hlen
  go_enter Try.func67, Try.ntmps67
  go_wp2
  go_loop [7, 8, 9] (fun a i x => ∃ (k : Nat) (q : Int), i = .int .i64 k ∧ a = .int .i64 q ∧ k ≤ 6 ∧ Got zs off k q) (fun _ i _ => 6 - (intOf i).toNat)
  case atStart => exact ⟨0, 0, rfl, rfl, by omega, Got.start zs off⟩
  case round =>
    obtain ⟨k, q, rfl, rfl, hk, hg⟩ := hrel
    have HG := Lib.hid hg
    clear hg
    have hcase : k = 6 ∨ k < 6 := by omega
    rcases hcase with rfl | hk6
    · go_wp2
      go_ret3
      exact ⟨ret_three HG.out.six.symm, Below.refl _ _⟩
    · by_cases h0 : off < 0
      · go_wp2
        go_ret3
        exact ⟨ret_three (rv_out (by omega)).symm, Below.refl _ _⟩
      · by_cases h1 : off < (n : Int) - k
        · obtain ⟨o, rfl⟩ := Int.eq_ofNat_of_zero_le (show 0 ≤ off by omega)
          have hok : o + k < n := by omega
          obtain ⟨b, off0, rfl, g1, g2, hc⟩ := HR.out.at_ hok
          obtain ⟨x, hx⟩ : ∃ x, zs.getD (o + k) 0 = x := ⟨_, rfl⟩
          have hx01 : 0 ≤ x ∧ x ≤ 255 := by
            have h1 := HR.out.wf.getD (i := o + k) (by have := HL.out; omega)
            rw [hx] at h1
            have := bounds_u8 h1; omega
          obtain ⟨hx0, hx1⟩ := hx01
          rw [hx] at hc
          have HX := Lib.hid hx
          obtain ⟨y, hy⟩ : ∃ y, x % 128 = y := ⟨_, rfl⟩
          have ha := and127 x
          rw [hy] at ha
          obtain ⟨v, hv⟩ : ∃ v, q + y * 128 ^ k = v := ⟨_, rfl⟩
          have hor := or_wrap k q y v HG.out.1 HG.out.2.1 (by omega) (by omega) hk6 hv
          have hv0 : 0 ≤ v := by have := pow_step HG.out.1 HG.out.2.1 (show 0 ≤ y by omega) (show y < 128 by omega); omega
          have HY := Lib.hid (And.intro hy hv)
          clear hx h0 hy hv
          have hidx : (o : Int) < n - k := by omega
          by_cases hx128 : x < 128
          · have hyx : y = x := by have := HY.out.1; omega
            have HD := Lib.hid (HG.out.last (by omega) (by have := HL.out; omega) HX.out hx128 hk6)
            have HYX := Lib.hid hyx
            clear hyx
            by_cases hbad : (x = 0 ∧ 0 < k) ∨ 1000000000000 < v
            · have HE : Hid (rv zs o = (0, 0, false)) := rv_none (by rw [HD.out, if_pos (by rw [← HYX.out, HY.out.2, HYX.out]; exact hbad)])
              rcases hbad with ⟨rfl, hk0⟩ | hv1
              · go_wp2
                all_goals
                  go_ret3
                  exact ⟨ret_three HE.out.symm, Below.refl _ _⟩
              · go_wp2
                all_goals
                  go_ret3
                  exact ⟨ret_three HE.out.symm, Below.refl _ _⟩
            · have HE : Hid (rv zs o = (v, (o : Int) + ((k + 1 : Nat) : Int), true)) := rv_some (by have := HL.out; omega) (by rw [HD.out, if_neg (by rw [← HYX.out, HY.out.2, HYX.out]; exact hbad), ← HYX.out, HY.out.2])
              have hv1 : v ≤ 1000000000000 := by omega
              by_cases hxz : x = 0
              · have hk0 : ¬ (0 : Int) < k := by omega
                have hz : (x == 0) = true := by simpa using hxz
                have e3 : (v, (o : Int) + 1, true) = rv zs o := by rw [HE.out]; simp; omega
                have E3 := Lib.hid e3
                clear hbad hxz e3
                go_wp2
                all_goals
                  go_ret3
                  exact ⟨ret_three E3.out, Below.refl _ _⟩
              · have hz : (x == 0) = false := by simpa using hxz
                have e3 : (v, (o : Int) + k + 1, true) = rv zs o := by rw [HE.out]; simp; try omega
                have E3 := Lib.hid e3
                clear hbad hxz e3
                go_wp2
                all_goals
                  go_ret3
                  exact ⟨ret_three E3.out, Below.refl _ _⟩
          · have HM := Lib.hid (HG.out.more (by omega) (by have := HL.out; omega) HX.out (by omega) hx1 hk6)
            go_wp2
            go_round
            case rel => exact ⟨k + 1, v, by go_num, rfl, by omega, by have h := HM.out; rw [show x - 128 = y by have := HY.out.1; omega, HY.out.2] at h; exact h⟩
            case measure => simp [intOf]; omega
        · have h2 : (n : Int) - k ≤ off := by omega
          go_wp2
          go_ret3
          exact ⟨ret_three (HG.out.end_ (by have := HL.out; omega)).symm, Below.refl _ _⟩

/-- The smaller of two numbers. -/
theorem ext1 (x y : Int) (b : Nat) (w : World) (hc : w.cell? ⟨b, 0, none⟩ = some (.int .i64 y)) :
    Calls Try.prog 72 #[.int .i64 x, .slice (some ⟨b, 0, none⟩) 1 1] w fun e w' => e = .returned (.tuple #[.int .i64 (if y < x then y else x), .int .i64 (if x < y then y else x)]) ∧ w = w' := by
  rcases Int.lt_trichotomy y x with h | rfl | h
  · have h2 : ¬ x < y := by omega
    rw [if_pos h, if_neg h2]
    go_enter Try.func72, Try.ntmps72
    go_wp2
    go_loop [6, 7, 14] (fun l g i => (l = .int .i64 x ∧ g = .int .i64 x ∧ i = .int .i64 0) ∨ (l = .int .i64 y ∧ g = .int .i64 x ∧ i = .int .i64 1)) (fun _ _ i => (1 - intOf i).toNat)
    case atStart => exact Or.inl ⟨rfl, rfl, rfl⟩
    case round =>
      rcases hrel with ⟨rfl, rfl, rfl⟩ | ⟨rfl, rfl, rfl⟩
      · go_wp2
        go_round
        case rel => exact Or.inr ⟨rfl, rfl, rfl⟩
        case measure => simp [intOf]
      · go_wp2
        go_ret2
        exact ⟨rfl, rfl⟩
  · have h2 : ¬ y < y := by omega
    rw [if_neg h2]
    go_enter Try.func72, Try.ntmps72
    go_wp2
    go_loop [6, 7, 14] (fun l g i => (l = .int .i64 y ∧ g = .int .i64 y ∧ i = .int .i64 0) ∨ (l = .int .i64 y ∧ g = .int .i64 y ∧ i = .int .i64 1)) (fun _ _ i => (1 - intOf i).toNat)
    case atStart => exact Or.inl ⟨rfl, rfl, rfl⟩
    case round =>
      rcases hrel with ⟨rfl, rfl, rfl⟩ | ⟨rfl, rfl, rfl⟩
      · go_wp2
        go_round
        case rel => exact Or.inr ⟨rfl, rfl, rfl⟩
        case measure => simp [intOf]
      · go_wp2
        go_ret2
        exact ⟨rfl, rfl⟩
  · have h2 : ¬ y < x := by omega
    rw [if_neg h2, if_pos h]
    go_enter Try.func72, Try.ntmps72
    go_wp2
    go_loop [6, 7, 14] (fun l g i => (l = .int .i64 x ∧ g = .int .i64 x ∧ i = .int .i64 0) ∨ (l = .int .i64 x ∧ g = .int .i64 y ∧ i = .int .i64 1)) (fun _ _ i => (1 - intOf i).toNat)
    case atStart => exact Or.inl ⟨rfl, rfl, rfl⟩
    case round =>
      rcases hrel with ⟨rfl, rfl, rfl⟩ | ⟨rfl, rfl, rfl⟩
      · go_wp2
        go_round
        case rel => exact Or.inr ⟨rfl, rfl, rfl⟩
        case measure => simp [intOf]
      · go_wp2
        go_ret2
        exact ⟨rfl, rfl⟩
def MinPost (x y : Int) (w : World) (e : Ending) (w' : World) : Prop := ∃ z, e = .returned (.int .i64 z) ∧ z ≤ x ∧ z ≤ y ∧ (z = x ∨ z = y) ∧ Below w.heap.size w w'
theorem minOf (x y : Int) (w : World) : Calls Try.prog 71 #[.int .i64 x, .int .i64 y] w (MinPost x y w) := by
  obtain ⟨z, hz⟩ : ∃ z, (if y < x then y else x) = z := ⟨_, rfl⟩
  obtain ⟨g, hg⟩ : ∃ g, (if x < y then y else x) = g := ⟨_, rfl⟩
  have hc := ext1 x y
  rw [hz, hg] at hc
  have HZ : Hid (z ≤ x ∧ z ≤ y ∧ (z = x ∨ z = y)) := by
    subst hz
    unfold Hid
    split
    · exact ⟨by omega, by omega, Or.inr rfl⟩
    · exact ⟨by omega, by omega, Or.inl rfl⟩
  have HC := Lib.hid hc
  clear hz hg hc
  go_enter Try.func71, Try.ntmps71
  go_wp2_with (go_at_call 72; refine (HC.out _ _ (by go_simp)).mono ?_; rintro e w' ⟨rfl, rfl⟩)
  go_ret
  exact ⟨z, rfl, HZ.out.1, HZ.out.2.1, HZ.out.2.2, (Below.refl _ _).alloc (Nat.le_refl _) _⟩
end Go.Proofs.Ytalfihfielgmpaa.uvs
