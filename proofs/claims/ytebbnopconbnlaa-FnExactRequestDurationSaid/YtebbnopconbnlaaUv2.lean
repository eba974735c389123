/- AppendUvarint of the specification at every number, and ReadUvarint of the specification. Condition: lengths up to 2^27. -/
import Derived.Test.YtebbnopconbnlaaUv
namespace Go.Proofs.Ytebbnopconbnlaa.uvs
open Go.RowKit sl enc harn

/-- Three results: two numbers and a bool. -/
def three (t : Int × Int × Bool) : Value := .tuple #[.int .i64 t.1, .int .i64 t.2.1, .bool t.2.2]
def RvPost (zs : List Int) (off : Int) (w : World) (e : Ending) (w' : World) : Prop := e = .returned (three (rv zs off)) ∧ Below w.heap.size w w'
/-- A varint of which k groups have been read. -/
def Got (zs : List Int) (off : Int) (k : Nat) (a : Int) : Prop := 0 ≤ a ∧ a < 128 ^ k ∧ (0 < k → off + k ≤ zs.length) ∧ dec 6 (zs.drop off.toNat) 0 0 = dec (6 - k) (zs.drop (off.toNat + k)) k a
theorem Got.start (zs : List Int) (off : Int) : Got zs off 0 0 := ⟨by omega, by simp, fun h => absurd h (by omega), by simp⟩
theorem drop_getD {zs : List Int} {i : Nat} (h : i < zs.length) : zs.drop i = zs.getD i 0 :: zs.drop (i + 1) := by
  rw [List.drop_eq_getElem_cons h, List.getD_eq_getElem?_getD, List.getElem?_eq_getElem h]; rfl
theorem or_shift (k : Nat) (a x : Int) (ha : 0 ≤ a) (ha2 : a < 128 ^ k) (hx : 0 ≤ x) (hb : (x + 1) * 128 ^ k ≤ 9223372036854775807) : bits .or .i64 a (x * 128 ^ k) = a + x * 128 ^ k := by
  obtain ⟨p, rfl⟩ := Int.eq_ofNat_of_zero_le ha
  obtain ⟨q, rfl⟩ := Int.eq_ofNat_of_zero_le hx
  have hp : p < 128 ^ k := by exact_mod_cast ha2
  have hq : (q + 1) * 128 ^ k ≤ 9223372036854775807 := by
    have e : (((q + 1) * 128 ^ k : Nat) : Int) = ((q : Int) + 1) * 128 ^ k := by rw [Int.natCast_mul, Int.natCast_pow]; rfl
    rw [← e] at hb
    exact Int.ofNat_le.1 hb
  have e128 : (128 : Nat) ^ k = 2 ^ (7 * k) := by rw [Nat.pow_mul]
  rw [show ((q : Int) * 128 ^ k) = ((q * 128 ^ k : Nat) : Int) by rw [Int.natCast_mul, Int.natCast_pow, show ((128 : Nat) : Int) = 128 from rfl]]
  have hs : q * 128 ^ k + 128 ^ k ≤ 9223372036854775807 := by rw [Nat.add_mul, Nat.one_mul] at hq; exact hq
  have e : (p ||| q * 128 ^ k) = p + q * 128 ^ k := by
    rw [e128] at hp ⊢
    have := Nat.two_pow_add_eq_or_of_lt hp q
    rw [Nat.or_comm, Nat.mul_comm q, Nat.add_comm p]
    exact this.symm
  show IntKind.i64.wrap ((BitVec.ofInt 64 (p : Int) ||| BitVec.ofInt 64 ((q * 128 ^ k : Nat) : Int)).toNat : Int) = _
  rw [BitVec.toNat_or]
  have e1 : (BitVec.ofInt 64 (p : Int)).toNat = p := by rw [BitVec.ofInt_natCast, BitVec.toNat_ofNat]; omega
  have e2 : (BitVec.ofInt 64 ((q * 128 ^ k : Nat) : Int)).toNat = q * 128 ^ k := by rw [BitVec.ofInt_natCast, BitVec.toNat_ofNat]; omega
  rw [e1, e2, e, IntKind.wrap_i64]
  omega
theorem pow_step {k : Nat} {a x : Int} (ha : 0 ≤ a) (h : a < 128 ^ k) (hx0 : 0 ≤ x) (hx : x < 128) : 0 ≤ a + x * 128 ^ k ∧ a + x * 128 ^ k < 128 ^ (k + 1) := by
  have hp : (0 : Int) ≤ 128 ^ k := Int.pow_nonneg (by omega)
  have h1 : (0 : Int) ≤ x * 128 ^ k := Int.mul_nonneg hx0 hp
  have h2 : x * 128 ^ k ≤ 127 * 128 ^ k := Int.mul_le_mul_of_nonneg_right (by omega) hp
  rw [Int.pow_succ]
  omega
theorem Got.more {zs : List Int} {off : Int} {k : Nat} {a x : Int} (h : Got zs off k a) (h0 : 0 ≤ off) (hl : off + k < zs.length) (hx : zs.getD (off.toNat + k) 0 = x) (hx1 : 128 ≤ x) (hx2 : x ≤ 255) (hk : k < 6) :
    Got zs off (k + 1) (a + (x - 128) * 128 ^ k) := by
  obtain ⟨h1, h2, h3, h4⟩ := h
  have h5 := pow_step h1 h2 (show 0 ≤ x - 128 by omega) (by omega)
  refine ⟨h5.1, h5.2, fun _ => by omega, ?_⟩
  rw [h4, drop_getD (show off.toNat + k < zs.length by omega), hx, show 6 - k = (6 - (k + 1)) + 1 by omega, dec_more (by omega)]
  rfl
theorem Got.last {zs : List Int} {off : Int} {k : Nat} {a x : Int} (h : Got zs off k a) (h0 : 0 ≤ off) (hl : off + k < zs.length) (hx : zs.getD (off.toNat + k) 0 = x) (hx1 : x < 128) (hk : k < 6) :
    dec 6 (zs.drop off.toNat) 0 0 = if (x = 0 ∧ 0 < k) ∨ 1000000000000 < a + x * 128 ^ k then none else some (a + x * 128 ^ k, k + 1) := by
  obtain ⟨h1, h2, h3, h4⟩ := h
  rw [h4, drop_getD (show off.toNat + k < zs.length by omega), hx, show 6 - k = (6 - (k + 1)) + 1 by omega, dec_last hx1]
theorem Got.end_ {zs : List Int} {off : Int} {k : Nat} {a : Int} (h : Got zs off k a) (hl : zs.length ≤ off.toNat + k) : rv zs off = (0, 0, false) := by
  refine rv_none ?_
  rw [h.2.2.2, List.drop_eq_nil_of_le hl, dec_nil]
theorem Got.six {zs : List Int} {off : Int} {a : Int} (h : Got zs off 6 a) : rv zs off = (0, 0, false) := by
  refine rv_none ?_
  rw [h.2.2.2]; rfl
theorem or_wrap (k : Nat) (q y v : Int) (h0 : 0 ≤ q) (h1 : q < 128 ^ k) (hy0 : 0 ≤ y) (hy1 : y < 128) (hk : k < 6) (hv : q + y * 128 ^ k = v) : bits .or .i64 q (wrap64 (y * 2 ^ (7 * k))) = v := by
  have e : (2 : Int) ^ (7 * k) = 128 ^ k := by rw [Int.pow_mul]; rfl
  have hp : (128 : Int) ^ k ≤ 128 ^ 5 := by
    have := Nat.pow_le_pow_right (show 0 < 128 by omega) (show k ≤ 5 by omega)
    exact_mod_cast this
  have hp0 : (0 : Int) ≤ 128 ^ k := Int.pow_nonneg (by omega)
  have h2 : (y + 1) * 128 ^ k ≤ 128 * 128 ^ k := Int.mul_le_mul_of_nonneg_right (by omega) hp0
  have h3 : (0 : Int) ≤ y * 128 ^ k := Int.mul_nonneg hy0 hp0
  have h4 : (y + 1) * 128 ^ k = y * 128 ^ k + 128 ^ k := by rw [Int.add_mul, Int.one_mul]
  have h5 : (128 : Int) ^ 5 = 34359738368 := by decide
  rw [e, IntWalk.wrap64_in _ ⟨by omega, by omega⟩, or_shift k q y h0 h1 hy0 (by omega), hv]
theorem ret_three {t u : Int × Int × Bool} (h : t = u) : Ending.returned (three t) = .returned (three u) := by rw [h]

/-- The smaller of two numbers. -/
theorem ext1 (x y : Int) (b : Nat) (w : World) (hc : w.cell? ⟨b, 0, none⟩ = some (.int .i64 y)) :
    Calls Try.prog 66 #[.int .i64 x, .slice (some ⟨b, 0, none⟩) 1 1] w fun e w' => e = .returned (.tuple #[.int .i64 (if y < x then y else x), .int .i64 (if x < y then y else x)]) ∧ w = w' := by
  rcases Int.lt_trichotomy y x with h | rfl | h
  · have h2 : ¬ x < y := by omega
    rw [if_pos h, if_neg h2]
    go_enter Try.func66, Try.ntmps66
    go_wp2
    go_loop [6, 7, 14] (fun l g i => (l = .int .i64 x ∧ g = .int .i64 x ∧ i = .int .i64 0) ∨ (l = .int .i64 y ∧ g = .int .i64 x ∧ i = .int .i64 1)) (fun _ _ i => (1 - intOf i).toNat)
    case atStart => exact Or.inl ⟨rfl, rfl, rfl⟩
    case round =>
      rcases hrel with ⟨rfl, rfl, rfl⟩ | ⟨rfl, rfl, rfl⟩
      · go_wp2
        go_round
        case rel => exact Or.inr ⟨rfl, rfl, rfl⟩
        case measure => simp [intOf]
      · go_wp2
        go_ret2
        exact ⟨rfl, rfl⟩
  · have h2 : ¬ y < y := by omega
    rw [if_neg h2]
    go_enter Try.func66, Try.ntmps66
    go_wp2
    go_loop [6, 7, 14] (fun l g i => (l = .int .i64 y ∧ g = .int .i64 y ∧ i = .int .i64 0) ∨ (l = .int .i64 y ∧ g = .int .i64 y ∧ i = .int .i64 1)) (fun _ _ i => (1 - intOf i).toNat)
    case atStart => exact Or.inl ⟨rfl, rfl, rfl⟩
    case round =>
      rcases hrel with ⟨rfl, rfl, rfl⟩ | ⟨rfl, rfl, rfl⟩
      · go_wp2
        go_round
        case rel => exact Or.inr ⟨rfl, rfl, rfl⟩
        case measure => simp [intOf]
      · go_wp2
        go_ret2
        exact ⟨rfl, rfl⟩
  · have h2 : ¬ y < x := by omega
    rw [if_neg h2, if_pos h]
    go_enter Try.func66, Try.ntmps66
    go_wp2
    go_loop [6, 7, 14] (fun l g i => (l = .int .i64 x ∧ g = .int .i64 x ∧ i = .int .i64 0) ∨ (l = .int .i64 x ∧ g = .int .i64 y ∧ i = .int .i64 1)) (fun _ _ i => (1 - intOf i).toNat)
    case atStart => exact Or.inl ⟨rfl, rfl, rfl⟩
    case round =>
      rcases hrel with ⟨rfl, rfl, rfl⟩ | ⟨rfl, rfl, rfl⟩
      · go_wp2
        go_round
        case rel => exact Or.inr ⟨rfl, rfl, rfl⟩
        case measure => simp [intOf]
      · go_wp2
        go_ret2
        exact ⟨rfl, rfl⟩
def MinPost (x y : Int) (w : World) (e : Ending) (w' : World) : Prop := ∃ z, e = .returned (.int .i64 z) ∧ z ≤ x ∧ z ≤ y ∧ (z = x ∨ z = y) ∧ Below w.heap.size w w'
theorem minOf (x y : Int) (w : World) : Calls Try.prog 50 #[.int .i64 x, .int .i64 y] w (MinPost x y w) := by
  obtain ⟨z, hz⟩ : ∃ z, (if y < x then y else x) = z := ⟨_, rfl⟩
  obtain ⟨g, hg⟩ : ∃ g, (if x < y then y else x) = g := ⟨_, rfl⟩
  have hc := ext1 x y
  rw [hz, hg] at hc
  have HZ : Hid (z ≤ x ∧ z ≤ y ∧ (z = x ∨ z = y)) := by
    subst hz
    unfold Hid
    split
    · exact ⟨by omega, by omega, Or.inr rfl⟩
    · exact ⟨by omega, by omega, Or.inl rfl⟩
  have HC := Lib.hid hc
  clear hz hg hc
  go_enter Try.func50, Try.ntmps50
  go_wp2_with (go_at_call 66; refine (HC.out _ _ (by go_simp)).mono ?_; rintro e w' ⟨rfl, rfl⟩)
  go_ret
  exact ⟨z, rfl, HZ.out.1, HZ.out.2.1, HZ.out.2.2, (Below.refl _ _).alloc (Nat.le_refl _) _⟩
end Go.Proofs.Ytebbnopconbnlaa.uvs
