/- Merged texts of this seat. Crc2: AppendCrc and CheckCrc, program and specification. Condition: lengths up to 2^26. | Uv2: AppendUvarint of the specification at every number, and ReadUvarint of the specification. Condition: lengths up to 2^27. | Uv3: ReadUvarint of the program. Condition: lengths up to 2^27. | Bytes: Byte strings with a length in front, program and specification. Condition: lengths up to 2^26. | Ints: Lists of integers as varints one behind the other, program and specification. Condition: lists up to 2^21 numbers, bytes up to 2^27. | Frm: Medium access frames as values, no program: which are valid, their numbers, the encoding and the decoding, that each undoes the other, and that a frame with one bit inverted is rejected. Condition: none. | Own: Small laws on rows of the call's own and on worlds that only drew. Condition: none. | Fbx: Medium access frames in memory: a block of nine cells; the checks of a frame, IsValidFrame, NeedsAck and ReplyKind, program and specification. Condition: none. | Fb2: IsValidFrame of the specification. Condition: none. | Fb3: NeedsAck, ReplyKind, the flags and the numbers of a frame, program and specification. Condition: none. | App2: An append onto a slice of numbers of the call's own that spares the blocks c1 to below c2, in which the slice does not lie. Condition: together at most 2^30 elements of at most 8 bytes. | Stp: An append onto a slice of the call's own, at a step of a region that draws its order. Condition: none. | Fen: EncodeFrame, program and specification. Condition: the body has up to 2^26 bytes. | Fhr: The harness's functions over frames: copy, size, comparison, marks. Condition: sizes up to 2^26. | DrawF: Draws of stage 12: frames, bytes that were bent, encodings. Condition: the bytes that are drawn from are a slice that came in. -/
import Derived.Laws.EntriesVeiled
import Derived.Deep.RegionHeld3
import Derived.Test.YtbkdbdhbmabgcaaG1
section
namespace Go.Proofs.Ytbkdbdhbmabgcaa.crcs
open Go.RowKit sl harn rng crcm

/-- The bytes with their check. -/
def wc (l : List Int) : List Int := l ++ [(crc l : Int) % 256, (crc l : Int) / 256]
theorem wc_len (l : List Int) : (wc l).length = l.length + 2 := by simp [wc]
/-- The bytes in front of the check. -/
def front (l : List Int) : List Int := l.take (l.length - 2)
theorem front_len (l : List Int) : (front l).length = l.length - 2 := by simp only [front, List.length_take]; omega
theorem front_wf {k : IntKind} {l : List Int} (h : Wf k l) : Wf k (front l) := h.take _
/-- CheckCrc. -/
def chk (l : List Int) : List Int × Bool := if 2 ≤ l.length ∧ wc (front l) = l then (front l, true) else ([], false)
theorem chk_yes {l : List Int} (h : 2 ≤ l.length) (h2 : wc (front l) = l) : chk l = (front l, true) := if_pos ⟨h, h2⟩
theorem chk_no {l : List Int} (h : ¬ (2 ≤ l.length ∧ wc (front l) = l)) : chk l = ([], false) := if_neg h
theorem chk_len (l : List Int) : (chk l).1.length ≤ l.length := by
  unfold chk; split
  · rw [front_len]; omega
  · simp
theorem two_last {l : List Int} {n : Nat} (h : l.length = n + 2) : l = l.take n ++ [l.getD n 0, l.getD (n + 1) 0] := by
  conv => lhs; rw [← List.take_append_drop n l]
  congr 1
  rw [List.drop_eq_getElem_cons (by omega), List.drop_eq_getElem_cons (by omega), List.drop_of_length_le (by omega), List.getD_eq_getElem?_getD, List.getD_eq_getElem?_getD, List.getElem?_eq_getElem (by omega), List.getElem?_eq_getElem (by omega)]
  rfl
theorem wc_iff {l : List Int} {n : Nat} (h : l.length = n + 2) (hb : Byt l) : wc (front l) = l ↔ l.getD n 0 + l.getD (n + 1) 0 * 256 = (crc (l.take n) : Int) := by
  have e := two_last h
  have hf : front l = l.take n := by rw [front, h]; rfl
  have hx : 0 ≤ l.getD n 0 ∧ l.getD n 0 ≤ 255 := by
    apply hb; rw [List.getD_eq_getElem?_getD, List.getElem?_eq_getElem (by omega)]; exact List.getElem_mem _
  have hy : 0 ≤ l.getD (n + 1) 0 ∧ l.getD (n + 1) 0 ≤ 255 := by
    apply hb; rw [List.getD_eq_getElem?_getD, List.getElem?_eq_getElem (by omega)]; exact List.getElem_mem _
  have hc : crc (l.take n) < 65536 := crc_lt fun z hz => hb z (List.mem_of_mem_take hz)
  rw [hf]
  constructor
  · intro g
    rw [wc] at g
    have g2 := List.append_cancel_left (g.trans e)
    injection g2 with g3 g4
    injection g4 with g4 _
    omega
  · intro g
    conv => rhs; rw [e]
    rw [wc]
    congr 2
    · omega
    · congr 1; omega

theorem Rd.two (k : IntKind) (E : TypeId) (w : World) (x y : Int) (hx : (Lit.int k x).wf = true) (hy : (Lit.int k y).wf = true) : Rd k (w.alloc (.cells #[.int k x, .int k y] E)) w.heap.size (w.heap.size + 1) (some ⟨w.heap.size, 0, none⟩) 2 2 [x, y] :=
  ⟨rfl, by omega, by unfold maxLen; omega, by simp, fun z hz => by
    rcases List.mem_cons.1 hz with rfl | hz
    · exact hx
    · have : z = y := by simpa using hz
      rw [this]; exact hy, fun _ => ⟨_, 0, rfl, Nat.le_refl _, by omega, fun i hi => by
    have : i = 0 ∨ i = 1 := by omega
    rcases this with rfl | rfl <;> simp⟩⟩

theorem copyFront (lo hi : Nat) (A : Option Addr) (n cap : Nat) (zs : List Int) (m : Nat) (w : World) (h : Rd .u8 w lo hi A n cap zs) (h2 : m ≤ n) (hn : n ≤ 134217728) :
    Calls Try.prog 52 #[.slice A n cap, .int .i64 0, .int .i64 m] w (SlPost 5 .u8 w (zs.take m)) := by
  have := uvs.copyPart lo hi A n cap zs 0 m w h (Nat.zero_le _) h2 hn
  rwa [List.drop_zero, Nat.sub_zero] at this
/-- What CheckCrc hands back. -/
def CkPost (zs : List Int) (w : World) (e : Ending) (w' : World) : Prop :=
  ∃ A n cap, e = .returned (.tuple #[.slice A n cap, .bool (chk zs).2]) ∧ Ow 5 .u8 w' w.heap.size w'.heap.size A n cap (chk zs).1 ∧ Below w.heap.size w w'
theorem CkPost.parts {zs ys : List Int} {t : Bool} (ht : chk zs = (ys, t)) {w : World} {e : Ending} {w' : World} (h : CkPost zs w e w') :
    ∃ A n cap, e = .returned (.tuple #[.slice A n cap, .bool t]) ∧ Ow 5 .u8 w' w.heap.size w'.heap.size A n cap ys ∧ Below w.heap.size w w' := by
  unfold CkPost at h; rw [ht] at h; exact h
theorem ck_yes {zs : List Int} (h : chk zs = (front zs, true)) {w w' : World} {A : Option Addr} {n cap : Nat} (ho : Ow 5 .u8 w' w.heap.size w'.heap.size A n cap (front zs)) (hb : Below w.heap.size w w') :
    CkPost zs w (.returned (.tuple #[.slice A n cap, .bool true])) w' := by
  unfold CkPost; rw [h]; exact ⟨_, _, _, rfl, ho, hb⟩
theorem ck_empty {zs : List Int} (h : chk zs = ([], false)) {w w' : World} (hb : Below w.heap.size w w') :
    CkPost zs w (.returned (.tuple #[.slice (some ⟨w'.heap.size, 0, none⟩) 0 0, .bool false])) (w'.alloc (.cells #[] 5)) := by
  unfold CkPost; rw [h]
  exact ⟨_, _, _, rfl, (Ow.empty 5 .u8 w').up.down hb.size, hb.alloc hb.size _⟩

theorem or_high {p q : Nat} (hp : p < 256) (hq : q < 256) : bits .or .i64 (p : Int) ((q : Int) * 256) = (p : Int) + (q : Int) * 256 := by
  have e : (p ||| q * 256) = p + q * 256 := by
    have := Nat.two_pow_add_eq_or_of_lt (show p < 2 ^ 8 by omega) q
    rw [Nat.or_comm, Nat.mul_comm q, Nat.add_comm p]
    exact this.symm
  rw [show ((q : Int) * 256) = ((q * 256 : Nat) : Int) by omega]
  show IntKind.i64.wrap ((BitVec.ofInt 64 (p : Int) ||| BitVec.ofInt 64 ((q * 256 : Nat) : Int)).toNat : Int) = _
  rw [BitVec.toNat_or]
  have e1 : (BitVec.ofInt 64 (p : Int)).toNat = p := by rw [BitVec.ofInt_natCast, BitVec.toNat_ofNat]; omega
  have e2 : (BitVec.ofInt 64 ((q * 256 : Nat) : Int)).toNat = q * 256 := by rw [BitVec.ofInt_natCast, BitVec.toNat_ofNat]; omega
  rw [e1, e2, e, IntKind.wrap_i64]
  omega
end Go.Proofs.Ytbkdbdhbmabgcaa.crcs
end

section
namespace Go.Proofs.Ytbkdbdhbmabgcaa.uvs
open Go.RowKit sl enc harn

/-- Three results: two numbers and a bool. -/
def three (t : Int × Int × Bool) : Value := .tuple #[.int .i64 t.1, .int .i64 t.2.1, .bool t.2.2]
def RvPost (zs : List Int) (off : Int) (w : World) (e : Ending) (w' : World) : Prop := e = .returned (three (rv zs off)) ∧ Below w.heap.size w w'
/-- A varint of which k groups have been read. -/
def Got (zs : List Int) (off : Int) (k : Nat) (a : Int) : Prop := 0 ≤ a ∧ a < 128 ^ k ∧ (0 < k → off + k ≤ zs.length) ∧ dec 6 (zs.drop off.toNat) 0 0 = dec (6 - k) (zs.drop (off.toNat + k)) k a
theorem Got.start (zs : List Int) (off : Int) : Got zs off 0 0 := ⟨by omega, by simp, fun h => absurd h (by omega), by simp⟩
theorem drop_getD {zs : List Int} {i : Nat} (h : i < zs.length) : zs.drop i = zs.getD i 0 :: zs.drop (i + 1) := by
  rw [List.drop_eq_getElem_cons h, List.getD_eq_getElem?_getD, List.getElem?_eq_getElem h]; rfl
theorem or_shift (k : Nat) (a x : Int) (ha : 0 ≤ a) (ha2 : a < 128 ^ k) (hx : 0 ≤ x) (hb : (x + 1) * 128 ^ k ≤ 9223372036854775807) : bits .or .i64 a (x * 128 ^ k) = a + x * 128 ^ k := by
  obtain ⟨p, rfl⟩ := Int.eq_ofNat_of_zero_le ha
  obtain ⟨q, rfl⟩ := Int.eq_ofNat_of_zero_le hx
  have hp : p < 128 ^ k := by exact_mod_cast ha2
  have hq : (q + 1) * 128 ^ k ≤ 9223372036854775807 := by
    have e : (((q + 1) * 128 ^ k : Nat) : Int) = ((q : Int) + 1) * 128 ^ k := by rw [Int.natCast_mul, Int.natCast_pow]; rfl
    rw [← e] at hb
    exact Int.ofNat_le.1 hb
  have e128 : (128 : Nat) ^ k = 2 ^ (7 * k) := by rw [Nat.pow_mul]
  rw [show ((q : Int) * 128 ^ k) = ((q * 128 ^ k : Nat) : Int) by rw [Int.natCast_mul, Int.natCast_pow, show ((128 : Nat) : Int) = 128 from rfl]]
  have hs : q * 128 ^ k + 128 ^ k ≤ 9223372036854775807 := by rw [Nat.add_mul, Nat.one_mul] at hq; exact hq
  have e : (p ||| q * 128 ^ k) = p + q * 128 ^ k := by
    rw [e128] at hp ⊢
    have := Nat.two_pow_add_eq_or_of_lt hp q
    rw [Nat.or_comm, Nat.mul_comm q, Nat.add_comm p]
    exact this.symm
  show IntKind.i64.wrap ((BitVec.ofInt 64 (p : Int) ||| BitVec.ofInt 64 ((q * 128 ^ k : Nat) : Int)).toNat : Int) = _
  rw [BitVec.toNat_or]
  have e1 : (BitVec.ofInt 64 (p : Int)).toNat = p := by rw [BitVec.ofInt_natCast, BitVec.toNat_ofNat]; omega
  have e2 : (BitVec.ofInt 64 ((q * 128 ^ k : Nat) : Int)).toNat = q * 128 ^ k := by rw [BitVec.ofInt_natCast, BitVec.toNat_ofNat]; omega
  rw [e1, e2, e, IntKind.wrap_i64]
  omega
theorem pow_step {k : Nat} {a x : Int} (ha : 0 ≤ a) (h : a < 128 ^ k) (hx0 : 0 ≤ x) (hx : x < 128) : 0 ≤ a + x * 128 ^ k ∧ a + x * 128 ^ k < 128 ^ (k + 1) := by
  have hp : (0 : Int) ≤ 128 ^ k := Int.pow_nonneg (by omega)
  have h1 : (0 : Int) ≤ x * 128 ^ k := Int.mul_nonneg hx0 hp
  have h2 : x * 128 ^ k ≤ 127 * 128 ^ k := Int.mul_le_mul_of_nonneg_right (by omega) hp
  rw [Int.pow_succ]
  omega
theorem Got.more {zs : List Int} {off : Int} {k : Nat} {a x : Int} (h : Got zs off k a) (h0 : 0 ≤ off) (hl : off + k < zs.length) (hx : zs.getD (off.toNat + k) 0 = x) (hx1 : 128 ≤ x) (hx2 : x ≤ 255) (hk : k < 6) :
    Got zs off (k + 1) (a + (x - 128) * 128 ^ k) := by
  obtain ⟨h1, h2, h3, h4⟩ := h
  have h5 := pow_step h1 h2 (show 0 ≤ x - 128 by omega) (by omega)
  refine ⟨h5.1, h5.2, fun _ => by omega, ?_⟩
  rw [h4, drop_getD (show off.toNat + k < zs.length by omega), hx, show 6 - k = (6 - (k + 1)) + 1 by omega, dec_more (by omega)]
  rfl
theorem Got.last {zs : List Int} {off : Int} {k : Nat} {a x : Int} (h : Got zs off k a) (h0 : 0 ≤ off) (hl : off + k < zs.length) (hx : zs.getD (off.toNat + k) 0 = x) (hx1 : x < 128) (hk : k < 6) :
    dec 6 (zs.drop off.toNat) 0 0 = if (x = 0 ∧ 0 < k) ∨ 1000000000000 < a + x * 128 ^ k then none else some (a + x * 128 ^ k, k + 1) := by
  obtain ⟨h1, h2, h3, h4⟩ := h
  rw [h4, drop_getD (show off.toNat + k < zs.length by omega), hx, show 6 - k = (6 - (k + 1)) + 1 by omega, dec_last hx1]
theorem Got.end_ {zs : List Int} {off : Int} {k : Nat} {a : Int} (h : Got zs off k a) (hl : zs.length ≤ off.toNat + k) : rv zs off = (0, 0, false) := by
  refine rv_none ?_
  rw [h.2.2.2, List.drop_eq_nil_of_le hl, dec_nil]
theorem Got.six {zs : List Int} {off : Int} {a : Int} (h : Got zs off 6 a) : rv zs off = (0, 0, false) := by
  refine rv_none ?_
  rw [h.2.2.2]; rfl
theorem or_wrap (k : Nat) (q y v : Int) (h0 : 0 ≤ q) (h1 : q < 128 ^ k) (hy0 : 0 ≤ y) (hy1 : y < 128) (hk : k < 6) (hv : q + y * 128 ^ k = v) : bits .or .i64 q (wrap64 (y * 2 ^ (7 * k))) = v := by
  have e : (2 : Int) ^ (7 * k) = 128 ^ k := by rw [Int.pow_mul]; rfl
  have hp : (128 : Int) ^ k ≤ 128 ^ 5 := by
    have := Nat.pow_le_pow_right (show 0 < 128 by omega) (show k ≤ 5 by omega)
    exact_mod_cast this
  have hp0 : (0 : Int) ≤ 128 ^ k := Int.pow_nonneg (by omega)
  have h2 : (y + 1) * 128 ^ k ≤ 128 * 128 ^ k := Int.mul_le_mul_of_nonneg_right (by omega) hp0
  have h3 : (0 : Int) ≤ y * 128 ^ k := Int.mul_nonneg hy0 hp0
  have h4 : (y + 1) * 128 ^ k = y * 128 ^ k + 128 ^ k := by rw [Int.add_mul, Int.one_mul]
  have h5 : (128 : Int) ^ 5 = 34359738368 := by decide
  rw [e, IntWalk.wrap64_in _ ⟨by omega, by omega⟩, or_shift k q y h0 h1 hy0 (by omega), hv]
theorem ret_three {t u : Int × Int × Bool} (h : t = u) : Ending.returned (three t) = .returned (three u) := by rw [h]

/-- The smaller of two numbers. -/
theorem ext1 (x y : Int) (b : Nat) (w : World) (hc : w.cell? ⟨b, 0, none⟩ = some (.int .i64 y)) :
    Calls Try.prog 90 #[.int .i64 x, .slice (some ⟨b, 0, none⟩) 1 1] w fun e w' => e = .returned (.tuple #[.int .i64 (if y < x then y else x), .int .i64 (if x < y then y else x)]) ∧ w = w' := by
  rcases Int.lt_trichotomy y x with h | rfl | h
  · have h2 : ¬ x < y := by omega
    rw [if_pos h, if_neg h2]
    go_enter Try.func90, Try.ntmps90
    go_wp2
    go_loop [6, 7, 14] (fun l g i => (l = .int .i64 x ∧ g = .int .i64 x ∧ i = .int .i64 0) ∨ (l = .int .i64 y ∧ g = .int .i64 x ∧ i = .int .i64 1)) (fun _ _ i => (1 - intOf i).toNat)
    case atStart => exact Or.inl ⟨rfl, rfl, rfl⟩
    case round =>
      rcases hrel with ⟨rfl, rfl, rfl⟩ | ⟨rfl, rfl, rfl⟩
      · go_wp2
        go_round
        case rel => exact Or.inr ⟨rfl, rfl, rfl⟩
        case measure => simp [intOf]
      · go_wp2
        go_ret2
        exact ⟨rfl, rfl⟩
  · have h2 : ¬ y < y := by omega
    rw [if_neg h2]
    go_enter Try.func90, Try.ntmps90
    go_wp2
    go_loop [6, 7, 14] (fun l g i => (l = .int .i64 y ∧ g = .int .i64 y ∧ i = .int .i64 0) ∨ (l = .int .i64 y ∧ g = .int .i64 y ∧ i = .int .i64 1)) (fun _ _ i => (1 - intOf i).toNat)
    case atStart => exact Or.inl ⟨rfl, rfl, rfl⟩
    case round =>
      rcases hrel with ⟨rfl, rfl, rfl⟩ | ⟨rfl, rfl, rfl⟩
      · go_wp2
        go_round
        case rel => exact Or.inr ⟨rfl, rfl, rfl⟩
        case measure => simp [intOf]
      · go_wp2
        go_ret2
        exact ⟨rfl, rfl⟩
  · have h2 : ¬ y < x := by omega
    rw [if_neg h2, if_pos h]
    go_enter Try.func90, Try.ntmps90
    go_wp2
    go_loop [6, 7, 14] (fun l g i => (l = .int .i64 x ∧ g = .int .i64 x ∧ i = .int .i64 0) ∨ (l = .int .i64 x ∧ g = .int .i64 y ∧ i = .int .i64 1)) (fun _ _ i => (1 - intOf i).toNat)
    case atStart => exact Or.inl ⟨rfl, rfl, rfl⟩
    case round =>
      rcases hrel with ⟨rfl, rfl, rfl⟩ | ⟨rfl, rfl, rfl⟩
      · go_wp2
        go_round
        case rel => exact Or.inr ⟨rfl, rfl, rfl⟩
        case measure => simp [intOf]
      · go_wp2
        go_ret2
        exact ⟨rfl, rfl⟩
def MinPost (x y : Int) (w : World) (e : Ending) (w' : World) : Prop := ∃ z, e = .returned (.int .i64 z) ∧ z ≤ x ∧ z ≤ y ∧ (z = x ∨ z = y) ∧ Below w.heap.size w w'
theorem minOf (x y : Int) (w : World) : Calls Try.prog 53 #[.int .i64 x, .int .i64 y] w (MinPost x y w) := by
  obtain ⟨z, hz⟩ : ∃ z, (if y < x then y else x) = z := ⟨_, rfl⟩
  obtain ⟨g, hg⟩ : ∃ g, (if x < y then y else x) = g := ⟨_, rfl⟩
  have hc := ext1 x y
  rw [hz, hg] at hc
  have HZ : Hid (z ≤ x ∧ z ≤ y ∧ (z = x ∨ z = y)) := by
    subst hz
    unfold Hid
    split
    · exact ⟨by omega, by omega, Or.inr rfl⟩
    · exact ⟨by omega, by omega, Or.inl rfl⟩
  have HC := Lib.hid hc
  clear hz hg hc
  go_enter Try.func53, Try.ntmps53
  go_wp2_with (go_at_call 90; refine (HC.out _ _ (by go_simp)).mono ?_; rintro e w' ⟨rfl, rfl⟩)
  go_ret
  exact ⟨z, rfl, HZ.out.1, HZ.out.2.1, HZ.out.2.2, (Below.refl _ _).alloc (Nat.le_refl _) _⟩
end Go.Proofs.Ytbkdbdhbmabgcaa.uvs
end

section
namespace Go.Proofs.Ytbkdbdhbmabgcaa.uvs
open Go.RowKit sl enc harn

theorem and127u8 (x : Int) (h0 : 0 ≤ x) (h1 : x ≤ 255) : bits .and .u8 x 127 = x % 128 := by
  obtain ⟨k, rfl⟩ := Int.eq_ofNat_of_zero_le h0
  show IntKind.u8.wrap ((BitVec.ofInt 8 (k : Int) &&& BitVec.ofInt 8 127).toNat : Int) = _
  rw [BitVec.toNat_and]
  have e1 : (BitVec.ofInt 8 (k : Int)).toNat = k := by rw [BitVec.ofInt_natCast, BitVec.toNat_ofNat]; omega
  have e2 : (BitVec.ofInt 8 127).toNat = 2 ^ 7 - 1 := by rfl
  rw [e1, e2, Nat.and_two_pow_sub_one_eq_mod]
  have := IntWalk.u8_in ((k % 2 ^ 7 : Nat) : Int) (by omega)
  rw [this]; omega

end Go.Proofs.Ytbkdbdhbmabgcaa.uvs
end

section
namespace Go.Proofs.Ytbkdbdhbmabgcaa.uvs
open Go.RowKit sl enc harn

/-- What ReadBytes hands back. -/
def rb (b : List Int) (off most : Int) : List Int × Int × Bool :=
  let t := rv b off
  if t.2.2 = true ∧ t.1 ≤ most ∧ t.1 ≤ b.length - t.2.1 then ((b.drop t.2.1.toNat).take t.1.toNat, t.2.1 + t.1, true) else ([], 0, false)
theorem rb_yes {b : List Int} {off most m nx : Int} (h : rv b off = (m, nx, true)) (h1 : m ≤ most) (h2 : m ≤ b.length - nx) : rb b off most = ((b.drop nx.toNat).take m.toNat, nx + m, true) := by
  unfold rb; rw [h]; exact if_pos ⟨rfl, h1, h2⟩
theorem rb_no {b : List Int} {off most m nx : Int} {ok : Bool} (h : rv b off = (m, nx, ok)) (h1 : ¬ (ok = true ∧ m ≤ most ∧ m ≤ b.length - nx)) : rb b off most = ([], 0, false) := by
  unfold rb; rw [h]; exact if_neg h1
/-- A slice of bytes, a number and a bool. -/
def SlIBPost (E : TypeId) (k : IntKind) (w : World) (t : List Int × Int × Bool) (e : Ending) (w' : World) : Prop :=
  ∃ A n cap, e = .returned (.tuple #[.slice A n cap, .int .i64 t.2.1, .bool t.2.2]) ∧ Ow E k w' w.heap.size w'.heap.size A n cap t.1 ∧ Below w.heap.size w w'
theorem SlIBPost.no (E : TypeId) (k : IntKind) {w w1 : World} (hb : Below w.heap.size w w1) {t : List Int × Int × Bool} (ht : t = ([], 0, false)) :
    SlIBPost E k w t (.returned (.tuple #[.slice (some ⟨w1.heap.size, 0, none⟩) 0 0, .int .i64 0, .bool false])) (w1.alloc (.cells #[] E)) := by
  subst ht
  refine ⟨_, _, _, rfl, ?_, hb.alloc hb.size _⟩
  have h := (Ow.empty E k w1).down (lo2 := w.heap.size) hb.size
  simpa using h
theorem SlIBPost.parts {E : TypeId} {k : IntKind} {w : World} {t : List Int × Int × Bool} {e : Ending} {w' : World} (h : SlIBPost E k w t e w') {l : List Int} {i : Int} {b : Bool} (ht : t = (l, i, b)) :
    ∃ A n cap, e = .returned (.tuple #[.slice A n cap, .int .i64 i, .bool b]) ∧ Ow E k w' w.heap.size w'.heap.size A n cap l ∧ Below w.heap.size w w' := by
  subst ht; exact h
theorem RvPost.parts {zs : List Int} {off m nx : Int} {ok : Bool} (ht : rv zs off = (m, nx, ok)) {w : World} {e : Ending} {w' : World} (h : RvPost zs off w e w') : e = .returned (.tuple #[.int .i64 m, .int .i64 nx, .bool ok]) ∧ Below w.heap.size w w' := by
  unfold RvPost at h; rw [ht] at h; exact h
theorem rb_len {b : List Int} {off most : Int} {l : List Int} {i : Int} {ok : Bool} (h : rb b off most = (l, i, ok)) : l.length ≤ b.length := by
  unfold rb at h
  simp only at h
  split at h
  · injection h with h _; rw [← h]; simp; omega
  · injection h with h _; rw [← h]; simp
theorem split3 (zs : List Int) (off : Int) : ∃ m nx ok, rv zs off = (m, nx, ok) := ⟨_, _, _, rfl⟩

/-- A cut of a slice, run. -/
theorem cut_run {P : Program} (t E : TypeId) (i0 : TypeInfo) (hu : P.underlying t = some (.slice (P.elem t))) (hE : P.elem t = E) (hi : P.info? E = some i0) (hs : i0.size = 1) (A : Option Addr) (n cap : Nat) (i j : Int) (h0 : 0 ≤ i) (h1 : i ≤ j) (h2 : j ≤ cap) :
    ∃ A', (i < j → A' = A.map (·.add i.toNat)) ∧ ∀ W, (Instr.slice t (.slice A n cap) (some (.int .i64 i)) (some (.int .i64 j)) none).run P W = .ok (.slice A' (j.toNat - i.toNat) (cap - i.toNat)) W := by
  refine ⟨if cap = i.toNat then A else A.map (·.add i.toNat), fun h => if_neg (by omega), fun W => ?_⟩
  rw [run_slice_lh W t A n cap hu .i64 .i64 i j h0 h1 h2, hE]
  simp [sizeOf, typeInfo, hi, hs, go_sem, sliced]

theorem RvPost_eq {zs : List Int} {off m nx : Int} {ok : Bool} (h : rv zs off = (m, nx, ok)) : RvPost zs off = fun w e w' => e = .returned (.tuple #[.int .i64 m, .int .i64 nx, .bool ok]) ∧ Below w.heap.size w w' := by
  funext w e w'
  unfold RvPost
  rw [h]; rfl

end Go.Proofs.Ytbkdbdhbmabgcaa.uvs
end

section
namespace Go.Proofs.Ytbkdbdhbmabgcaa.uvs
open Go.RowKit sl enc harn

/-- What EncodeInts hands back. -/
def encs (l : List Int) : List Int := l.foldl uv []
theorem encs_nil : encs [] = [] := rfl
theorem encs_snoc (l : List Int) (x : Int) : encs (l ++ [x]) = uv (encs l) x := by simp [encs, List.foldl_append]
theorem encs_take {l : List Int} {k : Nat} (h : k < l.length) : encs (l.take (k + 1)) = uv (encs (l.take k)) (l.getD k 0) := by
  rw [List.take_succ_eq_append_getElem h, encs_snoc, List.getD_eq_getElem?_getD, List.getElem?_eq_getElem h]; rfl
theorem encs_len (l : List Int) : ∀ k, (encs (l.take k)).length ≤ 6 * k := by
  intro k
  induction k with
  | zero => simp [encs]
  | succ k ih =>
    rcases Nat.lt_or_ge k l.length with h | h
    · rw [encs_take h]
      have := uv_len (encs (l.take k)) (l.getD k 0)
      omega
    · rw [List.take_of_length_le (by omega)]
      rw [List.take_of_length_le h] at ih
      omega
theorem encs_len_all (l : List Int) : (encs l).length ≤ 6 * l.length := by
  have := encs_len l l.length
  rwa [List.take_of_length_le (Nat.le_refl _)] at this

/-- What DecodeInts hands back. -/
def dvs : Nat → List Int → Int → List Int → List Int × Int × Bool
  | 0, _, off, acc => (acc, off, true)
  | c + 1, zs, off, acc => if (rv zs off).2.2 = true then dvs c zs (rv zs off).2.1 (acc ++ [(rv zs off).1]) else ([], 0, false)
theorem dvs_zero (zs : List Int) (off : Int) (acc : List Int) : dvs 0 zs off acc = (acc, off, true) := rfl
theorem dvs_yes {c : Nat} {zs : List Int} {off m nx : Int} {acc : List Int} (h : rv zs off = (m, nx, true)) : dvs (c + 1) zs off acc = dvs c zs nx (acc ++ [m]) := by
  rw [dvs, h, if_pos rfl]
theorem dvs_no {c : Nat} {zs : List Int} {off m nx : Int} {acc : List Int} (h : rv zs off = (m, nx, false)) : dvs (c + 1) zs off acc = ([], 0, false) := by
  rw [dvs, h]; exact if_neg (by simp)
def dv (zs : List Int) (off count : Int) : List Int × Int × Bool :=
  if (0 ≤ count ∧ count ≤ 100) ∧ (0 ≤ off ∧ off ≤ zs.length) then dvs count.toNat zs off [] else ([], 0, false)
theorem dv_in {zs : List Int} {off : Int} {count : Nat} (h : (0 ≤ (count : Int) ∧ (count : Int) ≤ 100) ∧ (0 ≤ off ∧ off ≤ zs.length)) : dv zs off count = dvs count zs off [] := by
  unfold dv; rw [if_pos h, Int.toNat_natCast]
theorem dv_out {zs : List Int} {off count : Int} (h : ¬ ((0 ≤ count ∧ count ≤ 100) ∧ (0 ≤ off ∧ off ≤ zs.length))) : dv zs off count = ([], 0, false) := if_neg h
theorem dvs_len : ∀ (c : Nat) (zs : List Int) (off : Int) (acc : List Int), (dvs c zs off acc).1.length ≤ acc.length + c
  | 0, _, _, _ => by simp [dvs]
  | c + 1, zs, off, acc => by
    rw [dvs]
    split
    · have := dvs_len c zs (rv zs off).2.1 (acc ++ [(rv zs off).1])
      rw [List.length_append] at this
      simp at this ⊢; omega
    · simp
theorem dv_len {zs : List Int} {off count : Int} {l : List Int} {i : Int} {ok : Bool} (h : dv zs off count = (l, i, ok)) : l.length ≤ 100 := by
  unfold dv at h
  split at h
  · rename_i hc
    have := dvs_len count.toNat zs off []
    rw [h] at this
    simp at this; omega
  · injection h with h _; rw [← h]; simp
theorem SlIBPost.mk_ (E : TypeId) (k : IntKind) {w w1 : World} {t : List Int × Int × Bool} {A : Option Addr} {n cap hi : Nat} {l : List Int} {off : Int} (ho : Ow E k w1 w.heap.size hi A n cap l) (hb : Below w.heap.size w w1) (ht : t = (l, off, true)) :
    SlIBPost E k w t (.returned (.tuple #[.slice A n cap, .int .i64 off, .bool true])) w1 := by
  subst ht
  exact ⟨_, _, _, rfl, ho.up, hb⟩
/-- Numbers that are being decoded: j of them are there, the rest is to come. -/
def Dway (w wr : World) (zs : List Int) (off0 : Int) (count : Nat) (j : Nat) (o v : Value) : Prop :=
  ∃ A m cap l off, v = .slice A m cap ∧ o = .int .i64 off ∧ l.length = j ∧ Ow 3 .i64 wr w.heap.size wr.heap.size A m cap l ∧ Below w.heap.size w wr ∧ dvs count zs off0 [] = dvs (count - j) zs off l

end Go.Proofs.Ytbkdbdhbmabgcaa.uvs
end

section
namespace Go.Proofs.Ytbkdbdhbmabgcaa.frm
open Go.RowKit sl enc uvs crcm crcs
set_option linter.unusedVariables false

structure Fm where
  k : Int
  f : Int
  t : Int
  s : Int
  g : Int
  m : Bool
  r : Bool
  d : Int
  z : List Int
def zero : Fm := ⟨0, 0, 0, 0, 0, false, false, 0, []⟩
/-- Kinds that carry nothing. -/
def Ctl (k : Int) : Prop := k = 2 ∨ k = 3 ∨ k = 4 ∨ k = 7
instance (k : Int) : Decidable (Ctl k) := by unfold Ctl; exact inferInstance
def To (k f t : Int) : Prop := ((0 ≤ t ∧ t ≤ 15) ∧ ¬ t = f) ∨ (t = 63 ∧ ¬ Ctl k)
instance (k f t : Int) : Decidable (To k f t) := by unfold To; exact inferInstance
def Nr (s g d : Int) : Prop := (0 ≤ s ∧ s ≤ 4095) ∧ (0 ≤ g ∧ g ≤ 15) ∧ (0 ≤ d ∧ d ≤ 1000)
instance (s g d : Int) : Decidable (Nr s g d) := by unfold Nr; exact inferInstance
def Bd (k : Int) (n : Nat) : Prop := n ≤ 100 ∧ (n = 0 ∨ ¬ Ctl k)
instance (k : Int) (n : Nat) : Decidable (Bd k n) := by unfold Bd; exact inferInstance
def Vf (x : Fm) : Prop := (1 ≤ x.k ∧ x.k ≤ 7) ∧ (0 ≤ x.f ∧ x.f ≤ 15) ∧ To x.k x.f x.t ∧ Nr x.s x.g x.d ∧ Bd x.k x.z.length
instance (x : Fm) : Decidable (Vf x) := by unfold Vf; exact inferInstance
def fl (m r : Bool) : Int := (if m = true then 1 else 0) + (if r = true then 2 else 0)
theorem fl_in (m r : Bool) : 0 ≤ fl m r ∧ fl m r ≤ 3 := by cases m <;> cases r <;> decide
def nums (x : Fm) : List Int := [x.k, x.f, x.t, x.s, x.g, fl x.m x.r, x.d]
/-- EncodeFrame. -/
def ef (x : Fm) : List Int := if Vf x then wc (encs (nums x) ++ x.z) else []
theorem ef_yes {x : Fm} (h : Vf x) : ef x = wc (encs (nums x) ++ x.z) := if_pos h
theorem ef_no {x : Fm} (h : ¬ Vf x) : ef x = [] := if_neg h
theorem ef_len (x : Fm) : (ef x).length ≤ 144 := by
  by_cases h : Vf x
  · rw [ef_yes h, wc_len, List.length_append]
    have h1 := encs_len_all (nums x)
    have h2 : (nums x).length = 7 := rfl
    have h3 := h.2.2.2.2.1
    omega
  · rw [ef_no h]; simp

/-- The varints of a list, one behind the other. -/
def flat : List Int → List Int
  | [] => []
  | x :: l => enc x.toNat ++ flat l
def Goo (l : List Int) : Prop := ∀ x ∈ l, 0 ≤ x ∧ x ≤ 1000000000000
theorem fold_flat : ∀ (l b : List Int), Goo l → l.foldl uv b = b ++ flat l
  | [], b, _ => by simp [flat]
  | x :: l, b, h => by
    rw [List.foldl_cons, uv_in (h x (List.mem_cons_self ..)), fold_flat l _ (fun y hy => h y (List.mem_cons_of_mem _ hy)), flat, List.append_assoc]
theorem encs_flat {l : List Int} (h : Goo l) : encs l = flat l := by unfold encs; rw [fold_flat l [] h]; rfl
theorem flat_byt : ∀ (l : List Int), Byt (flat l)
  | [] => fun z hz => by simp [flat] at hz
  | x :: l => fun z hz => by
    rcases List.mem_append.1 hz with hz | hz
    · exact enc_wf _ z hz
    · exact flat_byt l z hz
theorem dvs_flat : ∀ (l : List Int) (c : Nat) (b r acc : List Int), Goo l → dvs (l.length + c) (b ++ (flat l ++ r)) b.length acc = dvs c (b ++ (flat l ++ r)) ((b.length : Int) + ((flat l).length : Int)) (acc ++ l)
  | [], c, b, r, acc, _ => by simp [flat]
  | x :: l, c, b, r, acc, h => by
    have hx := rv_enc b (flat l ++ r) x (h x (List.mem_cons_self ..))
    rw [List.length_cons, show l.length + 1 + c = (l.length + c) + 1 by omega, flat, List.append_assoc, dvs_yes hx]
    have ih := dvs_flat l c (b ++ enc x.toNat) r (acc ++ [x]) (fun y hy => h y (List.mem_cons_of_mem _ hy))
    rw [List.append_assoc, List.append_assoc] at ih
    have e : ((b ++ enc x.toNat).length : Int) = (b.length : Int) + ((enc x.toNat).length : Int) := by simp
    rw [e] at ih
    rw [ih]
    simp [List.length_append, Int.add_assoc]
/-- Seven numbers and what lies behind them. -/
theorem dv_seven {l : List Int} (h : Goo l) (h7 : l.length = 7) (r : List Int) : dv (flat l ++ r) 0 7 = (l, ((flat l).length : Int), true) := by
  have e7 : (7 : Int) = ((7 : Nat) : Int) := rfl
  rw [e7, dv_in (by omega)]
  have := dvs_flat l 0 [] r [] h
  simp only [Nat.add_zero, List.nil_append, List.length_nil, h7] at this
  have e : ((0 : Nat) : Int) = 0 := rfl
  rw [e] at this
  rw [this, dvs_zero]; simp
/-- What numbers that were decoded say. -/
theorem dvs_ok : ∀ (c : Nat) (zs : List Int) (off : Int) (acc l : List Int) (i : Int), Byt zs → 0 ≤ off → off ≤ zs.length → dvs c zs off acc = (l, i, true) →
    ∃ ms, l = acc ++ ms ∧ ms.length = c ∧ Goo ms ∧ off ≤ i ∧ i ≤ zs.length ∧ zs.drop off.toNat = flat ms ++ zs.drop i.toNat := by
  intro c
  induction c with
  | zero =>
    intro zs off acc l i hb h0 h1 h
    rw [dvs_zero] at h
    injection h with e1 h; injection h with e2 _
    subst e1 e2
    exact ⟨[], by simp, rfl, fun x hx => by simp at hx, by omega, h1, by simp [flat]⟩
  | succ c ih =>
    intro zs off acc l i hb h0 h1 h
    obtain ⟨m, nx, ok, ht⟩ : ∃ m nx ok, rv zs off = (m, nx, ok) := ⟨_, _, _, rfl⟩
    cases ok with
    | false => rw [dvs_no ht] at h; injection h with _ h; injection h with _ h; cases h
    | true =>
      rw [dvs_yes ht] at h
      obtain ⟨g1, g2, g3, g4, g5, g6⟩ := rv_ok hb ht
      obtain ⟨ms, e1, e2, e3, e4, e5, e6⟩ := ih zs nx _ l i hb (by omega) g3 h
      refine ⟨m :: ms, by rw [e1]; simp, by rw [List.length_cons, e2], fun x hx => ?_, by omega, e5, ?_⟩
      · rcases List.mem_cons.1 hx with rfl | hx
        · exact ⟨g4, g5⟩
        · exact e3 x hx
      · rw [flat, List.append_assoc, ← e6, g6]
        have : zs.drop nx.toNat = (zs.drop off.toNat).drop (nx - off).toNat := by
          rw [List.drop_drop]; congr 1; omega
        rw [this, List.take_append_drop]
theorem dv_ok {zs l : List Int} {i : Int} (hb : Byt zs) (h : dv zs 0 7 = (l, i, true)) : l.length = 7 ∧ Goo l ∧ 0 ≤ i ∧ i ≤ zs.length ∧ zs = flat l ++ zs.drop i.toNat := by
  have e7 : (7 : Int) = ((7 : Nat) : Int) := rfl
  rw [e7, dv_in (by omega)] at h
  obtain ⟨ms, e1, e2, e3, e4, e5, e6⟩ := dvs_ok 7 zs 0 [] l i hb (by omega) (by omega) h
  have e1 : l = ms := by simpa using e1
  subst e1
  exact ⟨e2, e3, e4, e5, by simpa using e6⟩
theorem flat_inj {l l' r : List Int} (h : Goo l) (h' : Goo l') (h7 : l.length = 7) (h7' : l'.length = 7) (e : flat l ++ r = flat l' ++ r) : l = l' := by
  have h1 := dv_seven h h7 r
  rw [e, dv_seven h' h7' r] at h1
  injection h1 with h1 _
  exact h1.symm
theorem nums_good {x : Fm} (h : Vf x) : Goo (nums x) := by
  obtain ⟨h1, h2, h3, ⟨h4, h5, h6⟩, _⟩ := h
  have h7 := fl_in x.m x.r
  have h8 : 0 ≤ x.t ∧ x.t ≤ 63 := by rcases h3 with ⟨h, _⟩ | ⟨h, _⟩ <;> omega
  intro y hy
  simp only [nums, List.mem_cons, List.not_mem_nil, or_false] at hy
  omega

theorem byt_at {l : List Int} (h : Byt l) (i : Nat) : 0 ≤ l.getD i 0 ∧ l.getD i 0 ≤ 255 := by
  rw [List.getD_eq_getElem?_getD]
  rcases Nat.lt_or_ge i l.length with hi | hi
  · rw [List.getElem?_eq_getElem hi]; exact h _ (List.getElem_mem hi)
  · rw [List.getElem?_eq_none hi]; simp
theorem byt_set {l : List Int} (h : Byt l) (i : Nat) {v : Int} (hv : 0 ≤ v ∧ v ≤ 255) : Byt (l.set i v) := fun z hz => by
  rcases List.mem_or_eq_of_mem_set hz with hz | hz
  · exact h z hz
  · rw [hz]; exact hv
theorem good_iff {l : List Int} (h2 : 2 ≤ l.length) (hb : Byt l) : wc (front l) = l ↔ miss l = 0 := by
  obtain ⟨n, hn⟩ : ∃ n, l.length = n + 2 := ⟨l.length - 2, by omega⟩
  rw [wc_iff hn hb, miss, xor_zero_iff, hn, show n + 2 - 2 = n by omega, show n + 2 - 1 = n + 1 by omega]
  have h1 := byt_at hb n
  have h3 := byt_at hb (n + 1)
  rw [or_xor (by omega)]
  omega
theorem front_wc (l : List Int) : front (wc l) = l := by
  rw [front, wc_len, wc, show l.length + 2 - 2 = l.length by omega, List.take_left]
theorem wc_byt {l : List Int} (h : Byt l) : Byt (wc l) := fun z hz => by
  have := crc_lt h
  rcases List.mem_append.1 hz with hz | hz
  · exact h z hz
  · simp only [List.mem_cons, List.not_mem_nil, or_false] at hz
    omega
theorem wc_inj {l l' : List Int} (h : wc l = wc l') : l = l' := by rw [← front_wc l, h, front_wc]
theorem chk_wc (l : List Int) : chk (wc l) = (l, true) := by
  have := chk_yes (l := wc l) (by rw [wc_len]; omega) (by rw [front_wc])
  rwa [front_wc] at this
theorem miss_wc {l : List Int} (h : Byt l) : miss (wc l) = 0 := (good_iff (by rw [wc_len]; omega) (wc_byt h)).1 (by rw [front_wc])
theorem chk_bad {l : List Int} (h2 : 2 ≤ l.length) (hb : Byt l) (h : miss l ≠ 0) : chk l = ([], false) := chk_no fun g => h ((good_iff h2 hb).1 g.2)
theorem chk_ok {zs ys : List Int} (h : chk zs = (ys, true)) : zs = wc ys := by
  unfold chk at h
  split at h
  · rename_i g; injection h with h _; rw [← h]; exact g.2.symm
  · injection h with _ h; cases h
theorem chk_nok {zs ys : List Int} (h : chk zs = (ys, false)) : ys = [] := by
  unfold chk at h
  split at h
  · injection h with _ h; cases h
  · injection h with h _; exact h.symm

/-- The frame of numbers and a body. -/
def frOf (l z : List Int) : Fm := ⟨l.getD 0 0, l.getD 1 0, l.getD 2 0, l.getD 3 0, l.getD 4 0, decide (l.getD 5 0 % 2 = 1), decide (l.getD 5 0 / 2 % 2 = 1), l.getD 6 0, z⟩
theorem seven {l : List Int} (h : l.length = 7) : ∃ a b c d e f g, l = [a, b, c, d, e, f, g] := by
  match l, h with
  | [a, b, c, d, e, f, g], _ => exact ⟨a, b, c, d, e, f, g, rfl⟩
theorem fl_of {y : Int} (h0 : 0 ≤ y) (h3 : y ≤ 3) : fl (decide (y % 2 = 1)) (decide (y / 2 % 2 = 1)) = y := by
  have : y = 0 ∨ y = 1 ∨ y = 2 ∨ y = 3 := by omega
  rcases this with rfl | rfl | rfl | rfl <;> decide
theorem nums_frOf {l : List Int} (h : l.length = 7) (h0 : 0 ≤ l.getD 5 0) (h3 : l.getD 5 0 ≤ 3) (z : List Int) : nums (frOf l z) = l := by
  obtain ⟨a, b, c, d, e, f, g, rfl⟩ := seven h
  have := fl_of (y := f) h0 h3
  simp only [nums, frOf, List.getD_cons_zero, List.getD_cons_succ, this]
theorem frOf_nums (x : Fm) : frOf (nums x) x.z = x := by
  obtain ⟨k, f, t, s, g, m, r, d, z⟩ := x
  cases m <;> cases r <;> rfl
/-- DecodeFrame. -/
def df (zs : List Int) : Fm × Bool :=
  if (chk zs).2 = true ∧ (dv (chk zs).1 0 7).2.2 = true ∧ (dv (chk zs).1 0 7).1.getD 5 0 ≤ 3 ∧ Vf (frOf (dv (chk zs).1 0 7).1 ((chk zs).1.drop (dv (chk zs).1 0 7).2.1.toNat))
  then (frOf (dv (chk zs).1 0 7).1 ((chk zs).1.drop (dv (chk zs).1 0 7).2.1.toNat), true) else (zero, false)
theorem df_yes {zs ys l : List Int} {i : Int} (h1 : chk zs = (ys, true)) (h2 : dv ys 0 7 = (l, i, true)) (h3 : l.getD 5 0 ≤ 3) (h4 : Vf (frOf l (ys.drop i.toNat))) : df zs = (frOf l (ys.drop i.toNat), true) := by
  unfold df; rw [h1]; simp only; rw [h2]; exact if_pos ⟨by simp, by simp, h3, h4⟩
theorem df_chk {zs ys : List Int} (h1 : chk zs = (ys, false)) : df zs = (zero, false) := by
  unfold df; rw [h1]; exact if_neg (by simp)
theorem df_dv {zs ys l : List Int} {i : Int} {b : Bool} (h1 : chk zs = (ys, b)) (h2 : dv ys 0 7 = (l, i, false)) : df zs = (zero, false) := by
  unfold df; rw [h1]; simp only; rw [h2]; exact if_neg (by simp)
theorem df_flag {zs ys l : List Int} {i : Int} {b c : Bool} (h1 : chk zs = (ys, b)) (h2 : dv ys 0 7 = (l, i, c)) (h3 : ¬ l.getD 5 0 ≤ 3) : df zs = (zero, false) := by
  unfold df; rw [h1]; simp only; rw [h2]; exact if_neg fun h => h3 h.2.2.1
theorem df_vf {zs ys l : List Int} {i : Int} {b c : Bool} (h1 : chk zs = (ys, b)) (h2 : dv ys 0 7 = (l, i, c)) (h4 : ¬ Vf (frOf l (ys.drop i.toNat))) : df zs = (zero, false) := by
  unfold df; rw [h1]; simp only; rw [h2]; exact if_neg fun h => h4 h.2.2.2
/-- The program's own question is the specification's. -/
theorem same_ask {zs ys l : List Int} {i : Int} (hb : Byt zs) (h1 : chk zs = (ys, true)) (h2 : dv ys 0 7 = (l, i, true)) : ef (frOf l (ys.drop i.toNat)) = zs ↔ l.getD 5 0 ≤ 3 ∧ Vf (frOf l (ys.drop i.toNat)) := by
  have hw := chk_ok h1
  have hby : Byt ys := fun z hz => hb z (by rw [hw]; exact List.mem_append_left _ hz)
  obtain ⟨g1, g2, g3, g4, g5⟩ := dv_ok hby h2
  have h05 : 0 ≤ l.getD 5 0 := by
    have : l.getD 5 0 ∈ l := by rw [List.getD_eq_getElem?_getD, List.getElem?_eq_getElem (by omega)]; exact List.getElem_mem _
    exact (g2 _ this).1
  constructor
  · intro h
    by_cases hv : Vf (frOf l (ys.drop i.toNat))
    · refine ⟨?_, hv⟩
      rw [ef_yes hv, hw, encs_flat (nums_good hv)] at h
      have h := wc_inj h
      have h' : flat (nums (frOf l (ys.drop i.toNat))) ++ ys.drop i.toNat = flat l ++ ys.drop i.toNat := h.trans g5
      have e := flat_inj (nums_good hv) g2 rfl g1 h'
      have e5 := congrArg (fun l => l.getD 5 0) e
      have := fl_in (frOf l (ys.drop i.toNat)).m (frOf l (ys.drop i.toNat)).r
      have e5 : fl (frOf l (ys.drop i.toNat)).m (frOf l (ys.drop i.toNat)).r = l.getD 5 0 := e5
      omega
    · rw [ef_no hv] at h
      have := congrArg List.length h
      rw [hw, wc_len] at this
      simp at this
  · rintro ⟨h3, hv⟩
    rw [ef_yes hv, nums_frOf g1 h05 h3, encs_flat g2, hw]
    show wc (flat l ++ ys.drop i.toNat) = wc ys
    rw [← g5]
theorem df_ef {x : Fm} (h : Vf x) : df (ef x) = (x, true) := by
  have hg := nums_good h
  have h1 : chk (ef x) = (flat (nums x) ++ x.z, true) := by rw [ef_yes h, encs_flat hg, chk_wc]
  have h2 := dv_seven hg rfl x.z
  have e : (flat (nums x) ++ x.z).drop ((flat (nums x)).length : Int).toNat = x.z := by rw [Int.toNat_natCast, List.drop_left]
  have e2 : frOf (nums x) ((flat (nums x) ++ x.z).drop ((flat (nums x)).length : Int).toNat) = x := by rw [e, frOf_nums]
  have := df_yes h1 h2 (fl_in x.m x.r).2 (by rw [e2]; exact h)
  rwa [e2] at this
theorem df_nil : df [] = (zero, false) := df_chk (ys := []) (chk_no (by simp))
theorem df_ok {zs : List Int} (hb : Byt zs) {x : Fm} (h : df zs = (x, true)) : Vf x ∧ ef x = zs := by
  obtain ⟨ys, c, h1⟩ : ∃ ys c, chk zs = (ys, c) := ⟨_, _, rfl⟩
  obtain ⟨l, i, b, h2⟩ : ∃ l i b, dv ys 0 7 = (l, i, b) := ⟨_, _, _, rfl⟩
  cases c with
  | false => rw [df_chk h1] at h; injection h with _ h; cases h
  | true =>
    cases b with
    | false => rw [df_dv h1 h2] at h; injection h with _ h; cases h
    | true =>
      by_cases h3 : l.getD 5 0 ≤ 3
      · by_cases h4 : Vf (frOf l (ys.drop i.toNat))
        · rw [df_yes h1 h2 h3 h4] at h
          injection h with h _
          subst h
          exact ⟨h4, (same_ask hb h1 h2).2 ⟨h3, h4⟩⟩
        · rw [df_vf h1 h2 h4] at h; injection h with _ h; cases h
      · rw [df_flag h1 h2 h3] at h; injection h with _ h; cases h
theorem df_no {zs : List Int} {x : Fm} (h : df zs = (x, false)) : x = zero := by
  unfold df at h
  split at h
  · injection h with _ h; cases h
  · injection h with h _; exact h.symm
theorem df_len {zs : List Int} {x : Fm} {b : Bool} (h : df zs = (x, b)) : x.z.length ≤ 100 := by
  unfold df at h
  split at h
  · rename_i g; injection h with h _; rw [← h]; exact g.2.2.2.2.2.2.2.1
  · injection h with h _; rw [← h]; simp [zero]
theorem ef_byt {x : Fm} (hz : Byt x.z) : Byt (ef x) := by
  by_cases h : Vf x
  · rw [ef_yes h, encs_flat (nums_good h)]
    refine wc_byt fun z hz' => ?_
    rcases List.mem_append.1 hz' with h1 | h1
    · exact flat_byt _ z h1
    · exact hz z h1
  · rw [ef_no h]; intro z hz; cases hz
/-- A byte with one bit inverted. -/
def inv (x : Int) (q : Nat) : Int := ((x.toNat ^^^ 2 ^ q : Nat) : Int)
theorem inv_in {x : Int} (h : 0 ≤ x ∧ x ≤ 255) {q : Nat} (hq : q < 8) : 0 ≤ inv x q ∧ inv x q ≤ 255 := by
  have h1 : 2 ^ q < 2 ^ 8 := Nat.pow_lt_pow_right (by omega) hq
  have h2 : x.toNat ^^^ 2 ^ q < 2 ^ 8 := Nat.xor_lt_two_pow (by omega) h1
  unfold inv; omega
theorem st_pos {x : Nat} (h : x < 65536) (h0 : x ≠ 0) : st x ≠ 0 := by
  unfold st
  split
  · intro e
    have := xor_zero_iff.1 e
    omega
  · omega
theorem sn_pos : ∀ (n : Nat) {x : Nat}, x < 65536 → x ≠ 0 → sn n x ≠ 0
  | 0, _, _, h0 => h0
  | n + 1, _, h, h0 => sn_pos n (st_lt h) (st_pos h h0)
theorem syn_pos (k : Nat) {q : Nat} (hq : q < 8) : syn k q ≠ 0 := by
  have h1 : 0 < 2 ^ q := Nat.pow_pos (by omega)
  have h2 : 2 ^ q < 2 ^ 8 := Nat.pow_lt_pow_right (by omega) hq
  unfold syn
  split
  · omega
  · split
    · omega
    · exact sn_pos _ (by omega) (by omega)
/-- A frame in which one bit was inverted is rejected. -/
theorem df_bit {x : Fm} (h : Vf x) (hz : Byt x.z) {j q : Nat} (hj : j < (ef x).length) (hq : q < 8) : df ((ef x).set j (inv ((ef x).getD j 0) q)) = (zero, false) := by
  have hb := ef_byt hz
  have hm : miss (ef x) = 0 := by
    rw [ef_yes h]
    refine miss_wc fun z hz' => ?_
    rcases List.mem_append.1 hz' with h1 | h1
    · rw [encs_flat (nums_good h)] at h1; exact flat_byt _ z h1
    · exact hz z h1
  have h2 : 2 ≤ (ef x).length := by rw [ef_yes h, wc_len]; omega
  have e := miss_set (ef x) j q (inv ((ef x).getD j 0) q) h2 hj (by rw [inv, Int.toNat_natCast])
  rw [hm, Nat.zero_xor] at e
  exact df_chk (chk_bad (by rw [List.length_set]; exact h2) (byt_set hb j (inv_in (byt_at hb j) hq)) (by rw [e]; exact syn_pos _ hq))
/-- ReplyKind. -/
def Ack (k t : Int) : Prop := (k = 1 ∨ k = 6) ∧ ¬ t = 63
instance (k t : Int) : Decidable (Ack k t) := by unfold Ack; exact inferInstance
def rk (k t : Int) : Int := if Ack k t ∨ k = 7 then 2 else if k = 3 then 4 else 0
/-- ReplyTo. -/
def rt (x : Fm) : Fm × Bool := if Vf x ∧ ¬ rk x.k x.t = 0 then (⟨rk x.k x.t, x.t, x.f, x.s, x.g, false, false, if 0 < x.d - 1 then x.d - 1 else 0, []⟩, true) else (zero, false)
theorem rt_yes {x : Fm} (h : Vf x) (h2 : ¬ rk x.k x.t = 0) : rt x = (⟨rk x.k x.t, x.t, x.f, x.s, x.g, false, false, if 0 < x.d - 1 then x.d - 1 else 0, []⟩, true) := if_pos ⟨h, h2⟩
theorem rt_no {x : Fm} (h : ¬ (Vf x ∧ ¬ rk x.k x.t = 0)) : rt x = (zero, false) := if_neg h
end Go.Proofs.Ytbkdbdhbmabgcaa.frm
end

section
namespace Go.Proofs.Ytbkdbdhbmabgcaa.own
open Go.RowKit sl harn

section
variable {E : TypeId} {k : IntKind} {w : World} {lo hi n cap m : Nat} {A : Option Addr} {zs : List Int}
theorem ow_drewN (h : Ow E k w lo hi A n cap zs) : Ow E k (w.drewN m) lo hi A n cap zs := h.same (Nat.le_refl _) fun _ _ _ => rfl
theorem ow_drew (h : Ow E k w lo hi A n cap zs) : Ow E k w.drew lo hi A n cap zs := h.same (Nat.le_refl _) fun _ _ _ => rfl
theorem below_drewN {B m : Nat} {a w : World} (h : Below B a w) : Below B a (w.drewN m) := h.trans ⟨rfl, rfl, rfl, Nat.le_refl _, fun _ _ => rfl⟩
theorem below_drew {B : Nat} {a w : World} (h : Below B a w) : Below B a w.drew := h.trans ⟨rfl, rfl, rfl, Nat.le_refl _, fun _ _ => rfl⟩
theorem rd_drew (h : Rd k w lo hi A n cap zs) : Rd k w.drew lo hi A n cap zs := h.same (Nat.le_refl _) fun _ _ _ => rfl
theorem rd_drewN (h : Rd k w lo hi A n cap zs) : Rd k (w.drewN m) lo hi A n cap zs := h.same (Nat.le_refl _) fun _ _ _ => rfl
theorem own_some (h : Ow E k w lo hi A n cap zs) (hn : 0 < n) : ∃ b, A = some ⟨b, 0, none⟩ ∧ lo ≤ b := by
  rcases h.form with ⟨_, h0, _⟩ | ⟨g, cur, h, g1, _⟩
  · omega
  · exact ⟨g, h, g1⟩
/-- Behind a change of one cell of a row of the call's own. -/
theorem ow_set {b : Nat} (h : Ow E k w lo hi (some ⟨b, 0, none⟩) n cap zs) (i : Nat) (v : Int) (hv : (Lit.int k v).wf = true) : Ow E k (w.setCell ⟨b, i, none⟩ (.int k v)) lo hi (some ⟨b, 0, none⟩) n cap (zs.set i v) := by
  have hs := h.1.stored i (.int k v)
  have e : (zs.map (Value.int k)).set i (.int k v) = (zs.set i v).map (Value.int k) := by rw [List.map_set]
  refine ⟨?_, ?_, ?_, h.2.2.2⟩
  · rw [← e]; exact hs.1
  · intro z hz
    rcases List.mem_or_eq_of_mem_set hz with hz | hz
    · exact h.wf z hz
    · rw [hz]; exact hv
  · have := h.hi_; simpa [World.setCell] using this
theorem cell_of {b : Nat} (h : Ow E k w lo hi (some ⟨b, 0, none⟩) n cap zs) {j : Nat} (hj : j < n) : w.cell? ⟨b, j, none⟩ = some (.int k (zs.getD j 0)) := by
  obtain ⟨b', off, e, _, _, hc⟩ := h.rd.at_ hj
  injection e with e; injection e with e1 e2 e3
  subst e1 e2
  rwa [Nat.zero_add] at hc
end
theorem wf_at {zs : List Int} {n : Nat} (h : Wf .i64 zs) (hl : zs.length = n) {k : Nat} (hk : k < n) {x : Int} (hx : zs.getD k 0 = x) : (Lit.int .i64 x).wf = true := by
  rw [← hx]; exact h.getD (by omega)
theorem wf_in {x : Int} (h : (Lit.int .i64 x).wf = true) : -9223372036854775808 ≤ x ∧ x ≤ 9223372036854775807 := by have := bounds_i64 h; omega
end Go.Proofs.Ytbkdbdhbmabgcaa.own
end

section
namespace Go.Proofs.Ytbkdbdhbmabgcaa.fbx
open Go.RowKit sl harn rng frm
set_option linter.unusedVariables false

theorem results_cell1 {fn : Func} {p : Tmp} {ty : TypeId} (h : fn.results = #[.cell p ty]) (tmps : Array Value) (P : Program) (w : World) :
    (results fn tmps).run P w = ((asAddr (tmps.getD p undef)).run P w).andThen fun a w₁ => (loadVar ty a).run P w₁ := by
  simp only [results, h]
  simp [Sem.run_bind, Result.andThen]
theorem results_cell_tmp1 {fn : Func} {p u : Tmp} {ty : TypeId} (h : fn.results = #[.cell p ty, .tmp u]) (tmps : Array Value) (P : Program) (w : World) :
    (results fn tmps).run P w =
      ((asAddr (tmps.getD p undef)).run P w).andThen fun a w₁ => ((loadVar ty a).run P w₁).andThen fun v w₂ => .ok (.tuple #[v, tmps.getD u undef]) w₂ := by
  simp only [results, h]
  simp [Sem.run_bind, Result.andThen]
theorem below_box (w : World) (o : Obj) : Below w.heap.size w (w.alloc o) := (Below.refl _ _).alloc (Nat.le_refl _) _
theorem below_box2 (w : World) (o o' : Obj) : Below w.heap.size w ((w.alloc o).alloc o') := ((Below.refl _ _).alloc (Nat.le_refl _) _).alloc (by simp) _
/-- A block that holds these cells. -/
def Bx (T : TypeId) (w : World) (b : Nat) (cs : Array Value) : Prop := w.heap[b]? = some (.cells cs T (0, 0))
section
variable {T : TypeId} {w w' : World} {b : Nat} {cs : Array Value}
theorem Bx.cell (h : Bx T w b cs) (i : Nat) : w.cell? ⟨b, i, none⟩ = cs[i]? := by unfold Bx at h; simp [World.cell?, h]
theorem Bx.lt (h : Bx T w b cs) : b < w.heap.size := lt_of_block h
theorem Bx.same (h : Bx T w b cs) (hb : w'.heap[b]? = w.heap[b]?) : Bx T w' b cs := by unfold Bx at h ⊢; rw [hb]; exact h
theorem Bx.below (h : Bx T w b cs) (hb : Below w.heap.size w w') : Bx T w' b cs := h.same (hb.block b h.lt)
theorem Bx.free (h : Bx T w b cs) (i : Nat) : w.frozen? ⟨b, i, none⟩ = false := by unfold Bx at h; simp [World.frozen?, h]
theorem Bx.tch {lo hi : Nat} (h : Bx T w b cs) (hb : Tch lo hi w w') (hd : b < lo ∨ hi ≤ b) : Bx T w' b cs := h.same (hb.block b h.lt hd)
theorem Bx.made (T : TypeId) (w : World) (cs : Array Value) : Bx T (w.alloc (.cells cs T)) w.heap.size cs := heap_alloc_new w _
theorem Bx.up {B : Nat} (h : Bx T w b cs) (hb : Below B w w') (hB : b < B) : Bx T w' b cs := h.same (hb.block b hB)
theorem Bx.set (h : Bx T w b cs) (i : Nat) (v : Value) : Bx T (w.setCell ⟨b, i, none⟩ v) b (cs.setIfInBounds i v) := by
  unfold Bx at h ⊢
  simp [World.setCell, Array.getElem?_modify, h]
theorem Bx.other {c : Nat} (h : Bx T w b cs) (hc : b ≠ c) (i : Nat) (v : Value) : Bx T (w.setCell ⟨c, i, none⟩ v) b cs := h.same (Below.heap_setCell _ _ _ _ hc)
end
/-- What a function of a frame hands back that is a bool, or an integer. -/
def BPost (b : Bool) (w : World) (e : Ending) (w' : World) : Prop := e = .returned (.bool b) ∧ Below w.heap.size w w'
def NPost (n : Int) (w : World) (e : Ending) (w' : World) : Prop := e = .returned (.int .i64 n) ∧ Below w.heap.size w w'
theorem b_parts {a b : Bool} (ht : a = b) {w w' : World} {e : Ending} (h : BPost a w e w') : e = .returned (.bool b) ∧ Below w.heap.size w w' := by subst ht; exact h
theorem n_parts {a b : Int} (ht : a = b) {w w' : World} {e : Ending} (h : NPost a w e w') : e = .returned (.int .i64 b) ∧ Below w.heap.size w w' := by subst ht; exact h

theorem inR (n a b : Int) (v : Bool) (w : World) (h : decide (a ≤ n ∧ n ≤ b) = v) :
    Calls Try.prog 54 #[.int .i64 n, .int .i64 a, .int .i64 b] w fun e w' => e = .returned (.bool v) ∧ w = w' := by
  cases v with
  | true => exact inRange_yes n a b (of_decide_eq_true h) w
  | false => exact inRange_no n a b (of_decide_eq_false h) w
theorem l1R (n a b : Int) (v : Bool) (w : World) (h : decide (a ≤ n ∧ n ≤ b) = v) :
    Calls Try.prog 57 #[.int .i64 n, .int .i64 a, .int .i64 b] w fun e w' => e = .returned (.bool v) ∧ w = w' := by
  cases v with
  | true => exact l1In_yes n a b (of_decide_eq_true h) w
  | false => exact l1In_no n a b (of_decide_eq_false h) w
theorem ctl_cases (k : Int) : (k = 2 ∨ k = 3 ∨ k = 4 ∨ k = 7) ∨ ((k == 2) = false ∧ (k == 3) = false ∧ (k == 4) = false ∧ (k == 7) = false ∧ ¬ Ctl k) := by
  by_cases h : Ctl k
  · exact .inl h
  · have h' : ¬ (k = 2 ∨ k = 3 ∨ k = 4 ∨ k = 7) := h
    refine .inr ⟨?_, ?_, ?_, ?_, h⟩ <;> simp <;> omega

theorem specCtl (k : Int) (v : Bool) (w : World) (h : decide (Ctl k) = v) :
    Calls Try.prog 96 #[.int .i64 k] w fun e w' => e = .returned (.bool v) ∧ w = w' := by
  rcases ctl_cases k with (rfl | rfl | rfl | rfl) | ⟨h1, h2, h3, h4, h5⟩
  · obtain rfl : v = true := by rw [← h]; decide
    go_enter Try.func96, Try.ntmps96
    go_wp2
    go_ret
    exact ⟨rfl, rfl⟩
  · obtain rfl : v = true := by rw [← h]; decide
    go_enter Try.func96, Try.ntmps96
    go_wp2
    go_ret
    exact ⟨rfl, rfl⟩
  · obtain rfl : v = true := by rw [← h]; decide
    go_enter Try.func96, Try.ntmps96
    go_wp2
    go_ret
    exact ⟨rfl, rfl⟩
  · obtain rfl : v = true := by rw [← h]; decide
    go_enter Try.func96, Try.ntmps96
    go_wp2
    go_ret
    exact ⟨rfl, rfl⟩
  · obtain rfl : v = false := by rw [← h]; exact decide_eq_false h5
    clear h h5
    go_enter Try.func96, Try.ntmps96
    go_wp2
    go_ret
    exact ⟨rfl, rfl⟩

end Go.Proofs.Ytbkdbdhbmabgcaa.fbx
end

section
namespace Go.Proofs.Ytbkdbdhbmabgcaa.fbx
open Go.RowKit sl harn rng frm
set_option linter.unusedVariables false

end Go.Proofs.Ytbkdbdhbmabgcaa.fbx
end

section
namespace Go.Proofs.Ytbkdbdhbmabgcaa.fbx
open Go.RowKit sl harn rng frm
set_option linter.unusedVariables false
theorem ack_k {k t : Int} (h : k = 1 ∨ k = 6) (h2 : ¬ t = 63) : decide (Ack k t) = true := decide_eq_true ⟨h, h2⟩
theorem ack_t {k t : Int} (h2 : t = 63) : decide (Ack k t) = false := decide_eq_false fun h => h.2 h2
theorem ack_n {k t : Int} (h : ¬ (k = 1 ∨ k = 6)) : decide (Ack k t) = false := decide_eq_false fun g => h g.1

theorem seven_own (w : World) (o : Obj) (a b c d e f g : Int) (hw : Wf .i64 [a, b, c, d, e, f, g]) :
    Ow 3 .i64 ((w.alloc o).alloc (.cells #[.int .i64 a, .int .i64 b, .int .i64 c, .int .i64 d, .int .i64 e, .int .i64 f, .int .i64 g] 3)) w.heap.size ((w.alloc o).alloc (.cells #[.int .i64 a, .int .i64 b, .int .i64 c, .int .i64 d, .int .i64 e, .int .i64 f, .int .i64 g] 3)).heap.size (some ⟨w.heap.size + 1, 0, none⟩) 7 7 [a, b, c, d, e, f, g] := by
  have h := Ow.down (lo2 := w.heap.size) (Ow.lit (k := .i64) (E := 3) (n := 7) (w.alloc o) #[.int .i64 a, .int .i64 b, .int .i64 c, .int .i64 d, .int .i64 e, .int .i64 f, .int .i64 g] [a, b, c, d, e, f, g] rfl hw (by simp [maxLen]) rfl) (by simp)
  simpa using h
end Go.Proofs.Ytbkdbdhbmabgcaa.fbx
end

section
namespace Go.Proofs.Ytbkdbdhbmabgcaa.sl
open Go.RowKit

/-- A slice that lies outside the blocks c1 to below c2. -/
def Out (c1 c2 : Nat) (A : Option Addr) : Prop := ∀ g o, A = some ⟨g, o, none⟩ → g < c1 ∨ c2 ≤ g
/-- Those blocks are as before. -/
def Spares (c1 c2 : Nat) (w w' : World) : Prop := w.heap.size ≤ w'.heap.size ∧ ∀ q, c1 ≤ q → q < c2 → w'.heap[q]? = w.heap[q]?
theorem Spares.refl (c1 c2 : Nat) (w : World) : Spares c1 c2 w w := ⟨Nat.le_refl _, fun _ _ _ => rfl⟩
theorem Spares.trans {c1 c2 : Nat} {w w' w'' : World} (h : Spares c1 c2 w w') (g : Spares c1 c2 w' w'') : Spares c1 c2 w w'' := ⟨Nat.le_trans h.1 g.1, fun q h1 h2 => (g.2 q h1 h2).trans (h.2 q h1 h2)⟩
theorem Spares.below {c1 c2 B : Nat} {w w' : World} (h : Below B w w') (hc : c2 ≤ B) : Spares c1 c2 w w' := ⟨h.size, fun q _ h2 => h.block q (by omega)⟩
theorem Spares.alloc {c1 c2 : Nat} {w w' : World} (h : Spares c1 c2 w w') (hc : c2 ≤ w'.heap.size) (o : Obj) : Spares c1 c2 w (w'.alloc o) := h.trans (Spares.below ((Below.refl w'.heap.size w').alloc (Nat.le_refl _) o) hc)
theorem Rd.spared {k : IntKind} {w w' : World} {lo hi n cap : Nat} {A : Option Addr} {zs : List Int} (h : Rd k w lo hi A n cap zs) {c1 c2 : Nat} (hs : Spares c1 c2 w w') (h1 : c1 ≤ lo) (h2 : hi ≤ c2) : Rd k w' lo hi A n cap zs :=
  h.same hs.1 fun b g1 g2 => hs.2 b (by omega) (by omega)
theorem app_out {P : Program} (t ty E : TypeId) (i : TypeInfo) (z : Value) (k : IntKind) (h1 : P.underlying t = some (.slice E)) (h2 : P.info? E = some i) (h3 : i.zero = some z) (h4 : i.size = 1) (h5 : i.bytes ≤ 8) (h6 : z.cells.size = 1)
    {w : World} {lo hi lo2 hi2 n cap m c : Nat} {A : Option Addr} {ad : Addr} {zs ys : List Int} (ho : Ow E k w lo hi A n cap zs) (hr : Rd k w lo2 hi2 (some ad) m c ys) (hn : n + m ≤ 1073741824) (hlo : lo ≤ w.heap.size)
    {c1 c2 : Nat} (hA : Out c1 c2 A) (hc : c2 ≤ w.heap.size) :
    ∃ A' cap' w', (Builtin.append_ #[t, t] ty #[.slice A n cap, .slice (some ad) m c]).run P w = .ok (.slice A' (n + m) cap') w' ∧ Ow E k w' lo w'.heap.size A' (n + m) cap' (zs ++ ys) ∧ Below lo w w' ∧ Out c1 c2 A' ∧ Spares c1 c2 w w' := by
  have hwf : Wf k (zs ++ ys) := ho.wf.append hr.wf
  have hcells : ∀ j u, (ys.map (Value.int k))[j]? = some u → w.cell? (ad.add j) = some u := by
    intro j u hu
    have hj : j < ys.length := by
      have := (List.getElem?_eq_some_iff.1 hu).1
      simpa using this
    have hl := hr.len
    obtain ⟨b, off, e, _, _, hc⟩ := hr.at_ (i := j) (by omega)
    injection e with e
    subst e
    have e2 : (⟨b, off, none⟩ : Addr).add j = ⟨b, off + j, none⟩ := by unfold Addr.add; split <;> simp_all
    rw [e2, hc]
    rw [List.getElem?_map, List.getElem?_eq_getElem hj] at hu
    rw [List.getD_eq_getElem?_getD, List.getElem?_eq_getElem hj]
    simpa using hu
  have hb8 : (n + m) * i.bytes ≤ 140737488355328 := by
    have := Nat.mul_le_mul hn h5
    omega
  obtain ⟨v', w', hrun, g1, g2, _, g3⟩ := run_append_own_at (P := P) w lo t ty E i z 1 i.bytes h1 h2 h3 h4 rfl h6 (by omega) _ n _ ho.1 ad m c (ys.map (Value.int k)) (by simpa using hr.len) hcells (one_cells k ys) (by unfold maxLen; omega) hb8 hlo
  rw [← List.map_append] at g1
  obtain ⟨A', cap', rfl, hO⟩ := Ow.of_own g1 hwf
  have hg := (Below.refl lo w).grown g2 hlo fun q hq => by
    rcases ho.form with ⟨rfl, _⟩ | ⟨g, cur, rfl, hg, _⟩
    · simp [Value.ownBlock] at hq
    · simp [Value.ownBlock] at hq; omega
  refine ⟨A', cap', w', hrun, hO, hg, fun g o e => ?_, hg.size, fun q q1 q2 => g2.block q (by omega) ?_⟩
  · subst e
    rcases g3 with g3 | g3
    · cases A with
      | none => simp [Value.ownBlock] at g3
      | some a =>
        simp only [Value.ownBlock, Option.some.injEq] at g3
        rcases ho.form with ⟨h, _⟩ | ⟨b, cur, h, _⟩
        · cases h
        · injection h with h; subst h
          simp only at g3
          subst g3
          exact hA _ _ rfl
    · simp only [Value.ownBlock, Option.some.injEq] at g3
      right; omega
  · intro e
    cases A with
    | none => simp [Value.ownBlock] at e
    | some a =>
      simp only [Value.ownBlock, Option.some.injEq] at e
      rcases ho.form with ⟨h, _⟩ | ⟨b, cur, h, _⟩
      · cases h
      · injection h with h; subst h
        simp only at e
        subst e
        have := hA _ _ rfl
        omega
theorem wpList_app_out {P : Program} (w : World) {ops : Array Oper} {rest : List Oper} {o : Oper} {a : Act} {Q : Exit → Act → World → Prop} (hg : o.guard = none) (s x : Operand) (t : TypeId)
    (hop : o.op = .call { callee := .builtin .append, args := #[s, x], argTypes := #[t, t] })
    (E : TypeId) (i : TypeInfo) (z : Value) (k : IntKind) (h1 : P.underlying t = some (.slice E)) (h2 : P.info? E = some i) (h3 : i.zero = some z) (h4 : i.size = 1) (h5 : i.bytes ≤ 8) (h6 : z.cells.size = 1)
    {lo hi lo2 hi2 n cap m c : Nat} {A : Option Addr} {ad : Addr} {zs ys : List Int} (hs : a.eval s = .slice A n cap) (hx : a.eval x = .slice (some ad) m c) (ho : Ow E k w lo hi A n cap zs) (hr : Rd k w lo2 hi2 (some ad) m c ys) (hn : n + m ≤ 1073741824) (hlo : lo ≤ w.heap.size)
    (c1 c2 : Nat) (hA : Out c1 c2 A) (hc : c2 ≤ w.heap.size)
    (hK : ∀ A' cap' w', Ow E k w' lo w'.heap.size A' (n + m) cap' (zs ++ ys) → Below lo w w' → Out c1 c2 A' → Spares c1 c2 w w' → wpList P ops Q rest (a.put o.dst (.slice A' (n + m) cap')) w') : wpList P ops Q (o :: rest) a w := by
  refine wpList_plain hg fun K hK' => ?_
  obtain ⟨A', cap', w', hrun, g1, g2, g3, g4⟩ := app_out (P := P) t o.type E i z k h1 h2 h3 h4 h5 h6 ho hr hn hlo hA hc
  unfold Oper.wp execOp
  simp only [hop, resolve, invoke, builtin, Sem.run_bind, Sem.run_pure, Result.andThen_ok, List.map_toArray, List.map_cons, List.map_nil, hs, hx, hrun]
  exact hK' _ _ (hK A' cap' w' g1 g2 g3 g4)
end Go.Proofs.Ytbkdbdhbmabgcaa.sl
end

section
namespace Go.Proofs.Ytbkdbdhbmabgcaa.stp
open Go.RowKit sl harn

theorem step_app {P : Program} {ops : Array Oper} {o : Oper} {a : Act} {w : World} {K : Act → World → Prop} {Q : Exit → Act → World → Prop} {X : Prop} (hg : o.guard = none) (s x : Operand) (t : TypeId)
    (hop : o.op = .call { callee := .builtin .append, args := #[s, x], argTypes := #[t, t] })
    (E : TypeId) (i : TypeInfo) (z : Value) (k : IntKind) (h1 : P.underlying t = some (.slice E)) (h2 : P.info? E = some i) (h3 : i.zero = some z) (h4 : i.size = 1) (h5 : i.bytes ≤ 8) (h6 : z.cells.size = 1)
    {lo hi lo2 hi2 n cap m c : Nat} {A B : Option Addr} {zs ys : List Int} (hs : a.eval s = .slice A n cap) (hx : a.eval x = .slice B m c) (ho : Ow E k w lo hi A n cap zs) (hr : Rd k w lo2 hi2 B m c ys) (hn : n + m ≤ 1073741824) (hlo : lo ≤ w.heap.size)
    (hK : ∀ A' cap' w', Ow E k w' lo w'.heap.size A' (n + m) cap' (zs ++ ys) → Below lo w w' → K (a.put o.dst (.slice A' (n + m) cap')) w') :
    if Region.wanted o (yielded ops a.tmps) = true then Oper.wp P o a w K Q else X := by
  have hw : Region.wanted o (yielded ops a.tmps) = true := by simp [Region.wanted, hg]
  rw [if_pos hw]
  obtain ⟨A', cap', w', hrun, g1, g2⟩ := app (P := P) t o.type E i z k h1 h2 h3 h4 h5 h6 ho hr hn hlo
  unfold Oper.wp execOp
  simp only [hop, resolve, invoke, builtin, Sem.run_bind, Sem.run_pure, Result.andThen_ok, List.map_toArray, List.map_cons, List.map_nil, hs, hx, hrun]
  exact hK A' cap' w' g1 g2
/-- The same, sparing some blocks; a slice without an address is appended as well. -/
theorem app_spare {P : Program} (t ty E : TypeId) (i : TypeInfo) (z : Value) (k : IntKind) (h1 : P.underlying t = some (.slice E)) (h2 : P.info? E = some i) (h3 : i.zero = some z) (h4 : i.size = 1) (h5 : i.bytes ≤ 8) (h6 : z.cells.size = 1)
    {w : World} {lo hi lo2 hi2 n cap m c : Nat} {A B : Option Addr} {zs ys : List Int} (ho : Ow E k w lo hi A n cap zs) (hr : Rd k w lo2 hi2 B m c ys) (hn : n + m ≤ 1073741824) (hlo : lo ≤ w.heap.size)
    {c1 c2 : Nat} (hA : Out c1 c2 A) (hc : c2 ≤ w.heap.size) :
    ∃ A' cap' w', (Builtin.append_ #[t, t] ty #[.slice A n cap, .slice B m c]).run P w = .ok (.slice A' (n + m) cap') w' ∧ Ow E k w' lo w'.heap.size A' (n + m) cap' (zs ++ ys) ∧ Below lo w w' ∧ Spares c1 c2 w w' := by
  cases B with
  | some ad =>
    obtain ⟨A', cap', w', g1, g2, g3, g4, g5⟩ := app_out (P := P) t ty E i z k h1 h2 h3 h4 h5 h6 ho hr hn hlo hA hc
    exact ⟨A', cap', w', g1, g2, g3, g5⟩
  | none =>
    have hm : m = 0 := by
      rcases Nat.eq_zero_or_pos m with h | h
      · exact h
      · obtain ⟨b, off, e, _⟩ := hr.at_ h; cases e
    subst hm
    have hy : ys = [] := List.eq_nil_of_length_eq_zero hr.len
    subst hy
    refine ⟨A, cap, w, ?_, by simpa using ho.up, Below.refl _ _, Spares.refl _ _ _⟩
    rcases ho.form with ⟨rfl, rfl, rfl⟩ | ⟨g, cur, rfl, _, _, _, hnc, _⟩
    · simp [Builtin.append_, run_underlying h1, sizeOf, typeInfo, h2, Builtin.lenOf, Builtin.firstCells]
    · simp [Builtin.append_, run_underlying h1, sizeOf, typeInfo, h2, Builtin.lenOf, Builtin.firstCells, hnc, storeCells]
theorem step_spare {P : Program} {ops : Array Oper} {o : Oper} {a : Act} {w : World} {K : Act → World → Prop} {Q : Exit → Act → World → Prop} {X : Prop} (hg : o.guard = none) (s x : Operand) (t : TypeId)
    (hop : o.op = .call { callee := .builtin .append, args := #[s, x], argTypes := #[t, t] })
    (E : TypeId) (i : TypeInfo) (z : Value) (k : IntKind) (h1 : P.underlying t = some (.slice E)) (h2 : P.info? E = some i) (h3 : i.zero = some z) (h4 : i.size = 1) (h5 : i.bytes ≤ 8) (h6 : z.cells.size = 1)
    {lo hi lo2 hi2 n cap m c : Nat} {A B : Option Addr} {zs ys : List Int} (hs : a.eval s = .slice A n cap) (hx : a.eval x = .slice B m c) (ho : Ow E k w lo hi A n cap zs) (hr : Rd k w lo2 hi2 B m c ys) (hn : n + m ≤ 1073741824) (hlo : lo ≤ w.heap.size)
    {c1 c2 : Nat} (hA : Out c1 c2 A) (hc : c2 ≤ w.heap.size)
    (hK : ∀ A' cap' w', Ow E k w' lo w'.heap.size A' (n + m) cap' (zs ++ ys) → Below lo w w' → Spares c1 c2 w w' → K (a.put o.dst (.slice A' (n + m) cap')) w') :
    if Region.wanted o (yielded ops a.tmps) = true then Oper.wp P o a w K Q else X := by
  have hw : Region.wanted o (yielded ops a.tmps) = true := by simp [Region.wanted, hg]
  rw [if_pos hw]
  obtain ⟨A', cap', w', hrun, g1, g2, g3⟩ := app_spare (P := P) t o.type E i z k h1 h2 h3 h4 h5 h6 ho hr hn hlo hA hc
  unfold Oper.wp execOp
  simp only [hop, resolve, invoke, builtin, Sem.run_bind, Sem.run_pure, Result.andThen_ok, List.map_toArray, List.map_cons, List.map_nil, hs, hx, hrun]
  exact hK A' cap' w' g1 g2 g3
end Go.Proofs.Ytbkdbdhbmabgcaa.stp
end

section
namespace Go.Proofs.Ytbkdbdhbmabgcaa.fbx
open Go.RowKit sl harn rng frm crcs
set_option linter.unusedVariables false
theorem no_bytes {w w' : World} {zs : List Int} (h : zs = []) (hb : Below w.heap.size w w') : SlPost 5 .u8 w zs (.returned (.slice (some ⟨w'.heap.size, 0, none⟩) 0 0)) (w'.alloc (.cells #[] 5)) := by
  subst h
  exact ⟨_, _, _, rfl, (Ow.empty 5 .u8 w').up.down hb.size, hb.alloc hb.size _⟩
theorem nums_wf {x : Fm} (h : Vf x) : Wf .i64 (nums x) := Wf.of_i64 fun z hz => by have := nums_good h z hz; omega

end Go.Proofs.Ytbkdbdhbmabgcaa.fbx
end

section
namespace Go.Proofs.Ytbkdbdhbmabgcaa.fbx
open Go.RowKit sl harn rng frm
set_option linter.unusedVariables false
/-- A frame that a function hands back: its body is the call's own. -/
def FPost (x : Fm) (w : World) (e : Ending) (w' : World) : Prop :=
  ∃ A n cap, e = .returned (.agg #[.int .i64 x.k, .int .i64 x.f, .int .i64 x.t, .int .i64 x.s, .int .i64 x.g, .bool x.m, .bool x.r, .int .i64 x.d, .slice A n cap]) ∧ Ow 5 .u8 w' w.heap.size w'.heap.size A n cap x.z ∧ Below w.heap.size w w'
/-- The same with a bool. -/
def DPost (t : Fm × Bool) (w : World) (e : Ending) (w' : World) : Prop :=
  ∃ A n cap, e = .returned (.tuple #[.agg #[.int .i64 t.1.k, .int .i64 t.1.f, .int .i64 t.1.t, .int .i64 t.1.s, .int .i64 t.1.g, .bool t.1.m, .bool t.1.r, .int .i64 t.1.d, .slice A n cap], .bool t.2]) ∧ Ow 5 .u8 w' w.heap.size w'.heap.size A n cap t.1.z ∧ Below w.heap.size w w'
theorem DPost.parts {t : Fm × Bool} {k f t' s g : Int} {m r : Bool} {d : Int} {z : List Int} {b : Bool} (ht : t = (⟨k, f, t', s, g, m, r, d, z⟩, b)) {w w' : World} {e : Ending} (h : DPost t w e w') :
    ∃ A n cap, e = .returned (.tuple #[.agg #[.int .i64 k, .int .i64 f, .int .i64 t', .int .i64 s, .int .i64 g, .bool m, .bool r, .int .i64 d, .slice A n cap], .bool b]) ∧ Ow 5 .u8 w' w.heap.size w'.heap.size A n cap z ∧ Below w.heap.size w w' := by
  subst ht; exact h
theorem DPost.make {t : Fm × Bool} {k f t' s g : Int} {m r : Bool} {d : Int} {z : List Int} {b : Bool} (ht : t = (⟨k, f, t', s, g, m, r, d, z⟩, b)) {w w' : World} {A : Option Addr} {n cap hi : Nat} (ho : Ow 5 .u8 w' w.heap.size hi A n cap z) (h : Below w.heap.size w w') :
    DPost t w (.returned (.tuple #[.agg #[.int .i64 k, .int .i64 f, .int .i64 t', .int .i64 s, .int .i64 g, .bool m, .bool r, .int .i64 d, .slice A n cap], .bool b])) w' := by
  subst ht; exact ⟨_, _, _, rfl, ho.up, h⟩
theorem ow_none (E : TypeId) (k : IntKind) (w : World) (lo hi : Nat) (h : hi ≤ w.heap.size) : Ow E k w lo hi none 0 0 [] :=
  ⟨⟨by simp, .inl ⟨rfl, rfl⟩⟩, Wf.nil k, h, fun _ _ e => by cases e⟩
/-- Nine cells written into one block. -/
theorem below_nine {B c : Nat} {a w : World} (h : Below B a w) (hc : B ≤ c) (v0 v1 v2 v3 v4 v5 v6 v7 v8 : Value) :
    Below B a (((((((((w.setCell ⟨c, 0, none⟩ v0).setCell ⟨c, 1, none⟩ v1).setCell ⟨c, 2, none⟩ v2).setCell ⟨c, 3, none⟩ v3).setCell ⟨c, 4, none⟩ v4).setCell ⟨c, 5, none⟩ v5).setCell ⟨c, 6, none⟩ v6).setCell ⟨c, 7, none⟩ v7).setCell ⟨c, 8, none⟩ v8) :=
  ((((((((h.setCell (p := ⟨c, 0, none⟩) hc v0).setCell (p := ⟨c, 1, none⟩) hc v1).setCell (p := ⟨c, 2, none⟩) hc v2).setCell (p := ⟨c, 3, none⟩) hc v3).setCell (p := ⟨c, 4, none⟩) hc v4).setCell (p := ⟨c, 5, none⟩) hc v5).setCell (p := ⟨c, 6, none⟩) hc v6).setCell (p := ⟨c, 7, none⟩) hc v7).setCell (p := ⟨c, 8, none⟩) hc v8
theorem size_nine (w : World) (c : Nat) (v0 v1 v2 v3 v4 v5 v6 v7 v8 : Value) :
    (((((((((w.setCell ⟨c, 0, none⟩ v0).setCell ⟨c, 1, none⟩ v1).setCell ⟨c, 2, none⟩ v2).setCell ⟨c, 3, none⟩ v3).setCell ⟨c, 4, none⟩ v4).setCell ⟨c, 5, none⟩ v5).setCell ⟨c, 6, none⟩ v6).setCell ⟨c, 7, none⟩ v7).setCell ⟨c, 8, none⟩ v8).heap.size = w.heap.size := by simp [World.setCell]
theorem block_nine (w : World) (c b : Nat) (h : b ≠ c) (v0 v1 v2 v3 v4 v5 v6 v7 v8 : Value) :
    (((((((((w.setCell ⟨c, 0, none⟩ v0).setCell ⟨c, 1, none⟩ v1).setCell ⟨c, 2, none⟩ v2).setCell ⟨c, 3, none⟩ v3).setCell ⟨c, 4, none⟩ v4).setCell ⟨c, 5, none⟩ v5).setCell ⟨c, 6, none⟩ v6).setCell ⟨c, 7, none⟩ v7).setCell ⟨c, 8, none⟩ v8).heap[b]? = w.heap[b]? := by
  rw [Below.heap_setCell _ _ _ _ h, Below.heap_setCell _ _ _ _ h, Below.heap_setCell _ _ _ _ h, Below.heap_setCell _ _ _ _ h, Below.heap_setCell _ _ _ _ h, Below.heap_setCell _ _ _ _ h, Below.heap_setCell _ _ _ _ h, Below.heap_setCell _ _ _ _ h, Below.heap_setCell _ _ _ _ h]
theorem ow_nine {E : TypeId} {k : IntKind} {w : World} {lo hi n cap : Nat} {A : Option Addr} {zs : List Int} (h : Ow E k w lo hi A n cap zs) {c : Nat} (hc : c < lo) (v0 v1 v2 v3 v4 v5 v6 v7 v8 : Value) :
    Ow E k (((((((((w.setCell ⟨c, 0, none⟩ v0).setCell ⟨c, 1, none⟩ v1).setCell ⟨c, 2, none⟩ v2).setCell ⟨c, 3, none⟩ v3).setCell ⟨c, 4, none⟩ v4).setCell ⟨c, 5, none⟩ v5).setCell ⟨c, 6, none⟩ v6).setCell ⟨c, 7, none⟩ v7).setCell ⟨c, 8, none⟩ v8) lo hi A n cap zs :=
  h.same (by rw [size_nine]; exact Nat.le_refl _) fun b h1 h2 => block_nine w c b (by omega) v0 v1 v2 v3 v4 v5 v6 v7 v8

set_option maxRecDepth 100000 in
set_option maxHeartbeats 4000000 in
theorem toMac (k f t s g : Int) (m r : Bool) (d : Int) (A : Option Addr) (n cap : Nat) (z : List Int) (lo hi : Nat) (w : World) (h : Rd .u8 w lo hi A n cap z) (hn : n ≤ 67108864) :
    Calls Try.prog 37 #[.agg #[.int .i64 k, .int .i64 f, .int .i64 t, .int .i64 s, .int .i64 g, .bool m, .bool r, .int .i64 d, .slice A n cap]] w (FPost ⟨k, f, t, s, g, m, r, d, z⟩ w) := by
  have HR := Lib.hid h
  clear h
  go_enter Try.func37, Try.ntmps37
  go_wp2_with fail
  obtain ⟨w0, hW⟩ : ∃ w0, ((w.alloc (.cells #[.int .i64 k, .int .i64 f, .int .i64 t, .int .i64 s, .int .i64 g, .bool m, .bool r, .int .i64 d, .slice A n cap] 56)).alloc (.cells #[.int .i64 0, .int .i64 0, .int .i64 0, .int .i64 0, .int .i64 0, .bool false, .bool false, .int .i64 0, .slice none 0 0] 25)).alloc (.cells #[.int .i64 k, .int .i64 f, .int .i64 t, .int .i64 s, .int .i64 g, .bool m, .bool r, .int .i64 d, .slice none 0 0] 25) = w0 := ⟨_, rfl⟩
  rw [hW]
  have B0 := Lib.hid (show Below w.heap.size w w0 by rw [← hW]; exact (below_box2 w _ _).alloc (by simp; omega) _)
  have X0 := Lib.hid (show Bx 25 w0 (w.heap.size + 1 + 1) #[.int .i64 k, .int .i64 f, .int .i64 t, .int .i64 s, .int .i64 g, .bool m, .bool r, .int .i64 d, .slice none 0 0] by rw [← hW]; have hh := Bx.made 25 ((w.alloc (.cells #[.int .i64 k, .int .i64 f, .int .i64 t, .int .i64 s, .int .i64 g, .bool m, .bool r, .int .i64 d, .slice A n cap] 56)).alloc (.cells #[.int .i64 0, .int .i64 0, .int .i64 0, .int .i64 0, .int .i64 0, .bool false, .bool false, .int .i64 0, .slice none 0 0] 25)) #[.int .i64 k, .int .i64 f, .int .i64 t, .int .i64 s, .int .i64 g, .bool m, .bool r, .int .i64 d, .slice none 0 0]; simpa using hh)
  have Z0 := Lib.hid (show Bx 25 w0 (w.heap.size + 1) #[.int .i64 0, .int .i64 0, .int .i64 0, .int .i64 0, .int .i64 0, .bool false, .bool false, .int .i64 0, .slice none 0 0] by rw [← hW]; have hh := (Bx.made 25 (w.alloc (.cells #[.int .i64 k, .int .i64 f, .int .i64 t, .int .i64 s, .int .i64 g, .bool m, .bool r, .int .i64 d, .slice A n cap] 56)) #[.int .i64 0, .int .i64 0, .int .i64 0, .int .i64 0, .int .i64 0, .bool false, .bool false, .int .i64 0, .slice none 0 0]).below (below_box _ (.cells #[.int .i64 k, .int .i64 f, .int .i64 t, .int .i64 s, .int .i64 g, .bool m, .bool r, .int .i64 d, .slice none 0 0] 25)); simpa using hh)
  have R0 := Lib.hid (HR.out.below B0.out)
  clear hW HR
  (with_reducible refine (harn.toByteS z _ _ A n cap _ R0.out hn).mono ?_)
  rintro e w1 ⟨A1, n1, cap1, rfl, ho, hb⟩
  have O1 := Lib.hid ho
  have B1 := Lib.hid (B0.out.trans (hb.mono B0.out.size))
  have X1 := Lib.hid (X0.out.below hb)
  have Z1 := Lib.hid (Z0.out.below hb)
  have L1 := Lib.hid (show w.heap.size + 1 + 1 < w0.heap.size from X0.out.lt)
  clear ho hb B0 X0 Z0 R0
  have x0 : w1.cell? ⟨w.heap.size + 1 + 1, 0, none⟩ = some (.int .i64 k) := X1.out.cell 0
  have x1 : w1.cell? ⟨w.heap.size + 1 + 1, 1, none⟩ = some (.int .i64 f) := X1.out.cell 1
  have x2 : w1.cell? ⟨w.heap.size + 1 + 1, 2, none⟩ = some (.int .i64 t) := X1.out.cell 2
  have x3 : w1.cell? ⟨w.heap.size + 1 + 1, 3, none⟩ = some (.int .i64 s) := X1.out.cell 3
  have x4 : w1.cell? ⟨w.heap.size + 1 + 1, 4, none⟩ = some (.int .i64 g) := X1.out.cell 4
  have x5 : w1.cell? ⟨w.heap.size + 1 + 1, 5, none⟩ = some (.bool m) := X1.out.cell 5
  have x6 : w1.cell? ⟨w.heap.size + 1 + 1, 6, none⟩ = some (.bool r) := X1.out.cell 6
  have x7 : w1.cell? ⟨w.heap.size + 1 + 1, 7, none⟩ = some (.int .i64 d) := X1.out.cell 7
  have x8 : w1.cell? ⟨w.heap.size + 1 + 1, 8, none⟩ = some (.slice none 0 0) := X1.out.cell 8
  have fx : w1.frozen? ⟨w.heap.size + 1 + 1, 8, none⟩ = false := X1.out.free 8
  have y0 : w1.cell? ⟨w.heap.size + 1, 0, none⟩ = some (.int .i64 0) := Z1.out.cell 0
  have y1 : w1.cell? ⟨w.heap.size + 1, 1, none⟩ = some (.int .i64 0) := Z1.out.cell 1
  have y2 : w1.cell? ⟨w.heap.size + 1, 2, none⟩ = some (.int .i64 0) := Z1.out.cell 2
  have y3 : w1.cell? ⟨w.heap.size + 1, 3, none⟩ = some (.int .i64 0) := Z1.out.cell 3
  have y4 : w1.cell? ⟨w.heap.size + 1, 4, none⟩ = some (.int .i64 0) := Z1.out.cell 4
  have y5 : w1.cell? ⟨w.heap.size + 1, 5, none⟩ = some (.bool false) := Z1.out.cell 5
  have y6 : w1.cell? ⟨w.heap.size + 1, 6, none⟩ = some (.bool false) := Z1.out.cell 6
  have y7 : w1.cell? ⟨w.heap.size + 1, 7, none⟩ = some (.int .i64 0) := Z1.out.cell 7
  have y8 : w1.cell? ⟨w.heap.size + 1, 8, none⟩ = some (.slice none 0 0) := Z1.out.cell 8
  have fy0 : w1.frozen? ⟨w.heap.size + 1, 0, none⟩ = false := Z1.out.free 0
  have fy1 : w1.frozen? ⟨w.heap.size + 1, 1, none⟩ = false := Z1.out.free 1
  have fy2 : w1.frozen? ⟨w.heap.size + 1, 2, none⟩ = false := Z1.out.free 2
  have fy3 : w1.frozen? ⟨w.heap.size + 1, 3, none⟩ = false := Z1.out.free 3
  have fy4 : w1.frozen? ⟨w.heap.size + 1, 4, none⟩ = false := Z1.out.free 4
  have fy5 : w1.frozen? ⟨w.heap.size + 1, 5, none⟩ = false := Z1.out.free 5
  have fy6 : w1.frozen? ⟨w.heap.size + 1, 6, none⟩ = false := Z1.out.free 6
  have fy7 : w1.frozen? ⟨w.heap.size + 1, 7, none⟩ = false := Z1.out.free 7
  have fy8 : w1.frozen? ⟨w.heap.size + 1, 8, none⟩ = false := Z1.out.free 8
  go_wp2_with fail
  (try simp only [Exit.inBlock, Exit.then])
  refine bodyPost_ret (v := .agg #[.int .i64 k, .int .i64 f, .int .i64 t, .int .i64 s, .int .i64 g, .bool m, .bool r, .int .i64 d, .slice A1 n1 cap1]) ?_ rfl ⟨A1, n1, cap1, rfl, ?_, ?_⟩
  · rw [results_cell1 rfl]
    go_simp
  · exact (ow_nine (O1.out.same (by simp [World.setCell]) (fun b h1 _ => Below.heap_setCell _ _ _ _ (by show b ≠ w.heap.size + 1 + 1; have := L1.out; omega))) (by have := L1.out; omega) _ _ _ _ _ _ _ _ _).up.down (by have := L1.out; omega)
  · exact below_nine (B1.out.setCell (p := ⟨w.heap.size + 1 + 1, 8, none⟩) (by show w.heap.size ≤ w.heap.size + 1 + 1; omega) _) (by omega) _ _ _ _ _ _ _ _ _
theorem szB_in (A : Option Addr) (n cap : Nat) (left : Int) (hl : 0 ≤ left ∧ left ≤ 1048576) (hn : (n : Int) ≤ 9223372036854775807) (hle : (n : Int) ≤ left) (w : World) :
    Calls Try.prog 81 #[.slice A n cap, .int .i64 left] w fun e w' => e = .returned (.int .i64 (left - n)) ∧ w = w' := by
  obtain ⟨h0, h1⟩ := hl
  have hd : IntKind.i64.wrap (left - n) = left - n := IntWalk.i64_in _ (by omega)
  have hq : ¬ left - n < 0 := by omega
  go_enter Try.func81, Try.ntmps81
  go_wp2
  go_ret
  exact ⟨rfl, rfl⟩
theorem szB_out (A : Option Addr) (n cap : Nat) (left : Int) (hl : 0 ≤ left ∧ left ≤ 1048576) (hn : (n : Int) ≤ 9223372036854775807) (hle : left < (n : Int)) (w : World) :
    Calls Try.prog 81 #[.slice A n cap, .int .i64 left] w fun e w' => e = .returned (.int .i64 (-1)) ∧ w = w' := by
  obtain ⟨h0, h1⟩ := hl
  have hd : IntKind.i64.wrap (left - n) = left - n := IntWalk.i64_in _ (by omega)
  have hq : left - n < 0 := by omega
  go_enter Try.func81, Try.ntmps81
  go_wp2
  go_ret
  exact ⟨rfl, rfl⟩
theorem sz_in (k f t s g : Int) (m r : Bool) (d : Int) (A : Option Addr) (n cap : Nat) (left : Int) (hl : 0 ≤ left ∧ left ≤ 1048576) (hn : (n : Int) ≤ 9223372036854775807) (hle : (n : Int) ≤ left) (w : World) :
    Calls Try.prog 36 #[.agg #[.int .i64 k, .int .i64 f, .int .i64 t, .int .i64 s, .int .i64 g, .bool m, .bool r, .int .i64 d, .slice A n cap], .int .i64 left] w (NPost (left - n) w) := by
  have HL := Lib.hid hl
  have HN := Lib.hid hn
  have HE := Lib.hid hle
  have hq : ¬ left - n < 0 := by omega
  clear hl hn hle
  go_enter Try.func36, Try.ntmps36
  go_wp2_with fail
  (with_reducible refine (szB_in A n cap left HL.out HN.out HE.out _).mono ?_)
  rintro e w1 ⟨rfl, rfl⟩
  go_wp2_with fail
  go_ret
  exact ⟨rfl, below_box _ _⟩
theorem sz_out (k f t s g : Int) (m r : Bool) (d : Int) (A : Option Addr) (n cap : Nat) (left : Int) (hl : 0 ≤ left ∧ left ≤ 1048576) (hn : (n : Int) ≤ 9223372036854775807) (hle : left < (n : Int)) (w : World) :
    Calls Try.prog 36 #[.agg #[.int .i64 k, .int .i64 f, .int .i64 t, .int .i64 s, .int .i64 g, .bool m, .bool r, .int .i64 d, .slice A n cap], .int .i64 left] w (NPost (-1) w) := by
  have HL := Lib.hid hl
  have HN := Lib.hid hn
  have HE := Lib.hid hle
  skip
  clear hl hn hle
  go_enter Try.func36, Try.ntmps36
  go_wp2_with fail
  (with_reducible refine (szB_out A n cap left HL.out HN.out HE.out _).mono ?_)
  rintro e w1 ⟨rfl, rfl⟩
  go_wp2_with fail
  go_ret
  exact ⟨rfl, below_box _ _⟩
set_option maxRecDepth 100000 in
set_option maxHeartbeats 4000000 in
theorem eqMac (k f t s g : Int) (m r : Bool) (d : Int) (A : Option Addr) (n cap : Nat) (A' : Option Addr) (n' cap' : Nat) (z : List Int) (lo hi lo2 hi2 : Nat) (w : World) (h : Rd .u8 w lo hi A n cap z) (h2 : Rd .u8 w lo2 hi2 A' n' cap' z) :
    Calls Try.prog 38 #[.agg #[.int .i64 k, .int .i64 f, .int .i64 t, .int .i64 s, .int .i64 g, .bool m, .bool r, .int .i64 d, .slice A n cap], .agg #[.int .i64 k, .int .i64 f, .int .i64 t, .int .i64 s, .int .i64 g, .bool m, .bool r, .int .i64 d, .slice A' n' cap']] w (BPost true w) := by
  have HR := Lib.hid (h.below (below_box2 w (.cells #[.int .i64 k, .int .i64 f, .int .i64 t, .int .i64 s, .int .i64 g, .bool m, .bool r, .int .i64 d, .slice A n cap] 25) (.cells #[.int .i64 k, .int .i64 f, .int .i64 t, .int .i64 s, .int .i64 g, .bool m, .bool r, .int .i64 d, .slice A' n' cap'] 25)))
  have HS := Lib.hid (h2.below (below_box2 w (.cells #[.int .i64 k, .int .i64 f, .int .i64 t, .int .i64 s, .int .i64 g, .bool m, .bool r, .int .i64 d, .slice A n cap] 25) (.cells #[.int .i64 k, .int .i64 f, .int .i64 t, .int .i64 s, .int .i64 g, .bool m, .bool r, .int .i64 d, .slice A' n' cap'] 25)))
  clear h h2
  go_enter Try.func38, Try.ntmps38
  go_wp2_with fail
  (with_reducible refine (harn.eqByteS_yes z _ _ _ _ A A' n cap n' cap' _ HR.out HS.out).mono ?_)
  rintro e w1 ⟨rfl, hb⟩
  have B1 := Lib.hid ((below_box2 w _ _).trans (hb.mono (by simp; omega)))
  clear hb
  go_wp2_with fail
  go_ret
  exact ⟨rfl, B1.out⟩
def MPost (w : World) (lo hi : Nat) (A : Option Addr) (n cap : Nat) (q : Int) (e : Ending) (w' : World) : Prop :=
  e = .returned (.int .i64 (q + n)) ∧ Ow 5 .u8 w' lo hi A n cap (marks .u8 q n) ∧ Tch lo hi w w'
theorem markMac (k f t s g : Int) (m r : Bool) (d : Int) (A : Option Addr) (n cap : Nat) (z : List Int) (lo hi : Nat) (q : Int) (w : World) (h : Ow 5 .u8 w lo hi A n cap z) (hk0 : 0 ≤ q) (hk : q ≤ 1099511627776) (hn : n ≤ 67108864) :
    Calls Try.prog 42 #[.agg #[.int .i64 k, .int .i64 f, .int .i64 t, .int .i64 s, .int .i64 g, .bool m, .bool r, .int .i64 d, .slice A n cap], .int .i64 q] w (MPost w lo hi A n cap q) := by
  have HR := Lib.hid (h.below (below_box w (.cells #[.int .i64 k, .int .i64 f, .int .i64 t, .int .i64 s, .int .i64 g, .bool m, .bool r, .int .i64 d, .slice A n cap] 25)))
  have HH := Lib.hid h.hi_
  clear h
  go_enter Try.func42, Try.ntmps42
  go_wp2_with fail
  (with_reducible refine (harn.markByteS z lo hi A n cap q _ HR.out hk0 hk hn).mono ?_)
  rintro e w1 ⟨rfl, ho, ht⟩
  have O1 := Lib.hid ho
  have T1 := Lib.hid (show Tch lo hi w w1 from ⟨ht.os, ht.tape, ht.output, by have := ht.size; simp at this; omega, fun b hb hd => by rw [ht.block b (by simp; omega) hd]; exact heap_alloc_old _ _ hb⟩)
  clear ho ht
  go_wp2_with fail
  go_ret
  exact ⟨rfl, O1.out, T1.out⟩
end Go.Proofs.Ytbkdbdhbmabgcaa.fbx
end

section
namespace Go.Proofs.Ytbkdbdhbmabgcaa.draw
open Go.RowKit sl harn fbx frm
set_option linter.unusedVariables false

theorem bx_keep {T : TypeId} {w w' : World} {p b : Nat} {cs : Array Value} (h : Bx T w b cs) (k : Keep p w w') (hn : b ≠ p) : Bx T w' b cs := h.same (k.block b h.lt hn)
theorem Keep.later {p : Nat} {w w1 w2 : World} (h : Keep p w w1) {B : Nat} (hB : w.heap.size ≤ B) (hb : Below B w1 w2) : Keep p w w2 :=
  ⟨hb.os.trans h.os, hb.tape.trans h.tape, hb.output.trans h.output, Nat.le_trans h.size hb.size, fun j hj hn => (hb.block j (by omega)).trans (h.block j hj hn)⟩
/-- The cursor behind a change above it. -/
theorem Cur.later {w w1 w2 : World} {p B : Nat} {a : Option Addr} {len cap : Nat} (h0 : Cur w p a len cap) (hk : Keep p w w1) (h : Cur w1 p a len cap) (hB : w.heap.size ≤ B) (hb : Below B w1 w2) : Cur w2 p a len cap := by
  have k2 := hk.later hB hb
  have hp := h0.lt
  obtain ⟨-, i, g, hi, hblk⟩ := h
  exact ⟨h0.1.keep k2, i, g, hi, (hb.block p (by omega)).trans hblk⟩
/-- Numbers of a drawn frame. -/
def Small (x : Int) : Prop := -100000 ≤ x ∧ x ≤ 100000
/-- A frame that was drawn. -/
def FrmPost (p : Nat) (a : Option Addr) (len cap : Nat) (w : World) (e : Ending) (w' : World) : Prop :=
  ∃ (k f t s g : Int) (m r : Bool) (d : Int) (A : Option Addr) (n c : Nat) (z : List Int), e = .returned (.agg #[.int .i64 k, .int .i64 f, .int .i64 t, .int .i64 s, .int .i64 g, .bool m, .bool r, .int .i64 d, .slice A n c]) ∧ (Small k ∧ Small f ∧ Small t ∧ Small s ∧ Small g ∧ Small d) ∧ n ≤ 1000 ∧
    Ow 5 .u8 w' w.heap.size w'.heap.size A n c z ∧ Keep p w w' ∧ Cur w' p a len cap

set_option maxRecDepth 100000 in
set_option maxHeartbeats 4000000 in
theorem frm_ (w : World) (p : Nat) (a : Option Addr) (len cap : Nat) (hc : Cur w p a len cap) :
    Calls Try.prog 86 #[.pointer (some ⟨p, 0, none⟩)] w (FrmPost p a len cap w) := by
  have C0 := Lib.hid hc
  have P0 := Lib.hid hc.lt
  clear hc
  go_enter Try.func86, Try.ntmps86
  go_wp2_with fail
  obtain ⟨w1, hW⟩ : ∃ w1, w.alloc (.cells #[.int .i64 0, .int .i64 0, .int .i64 0, .int .i64 0, .int .i64 0, .bool false, .bool false, .int .i64 0, .slice none 0 0] 25) = w1 := ⟨_, rfl⟩
  rw [hW]
  have K1 := Lib.hid (show Keep p w w1 by rw [← hW]; exact (Keep.refl p w).alloc _)
  have C1 := Lib.hid (show Cur w1 p a len cap by rw [← hW]; exact C0.out.alloc _)
  have Z1 := Lib.hid (show Bx 25 w1 w.heap.size #[.int .i64 0, .int .i64 0, .int .i64 0, .int .i64 0, .int .i64 0, .bool false, .bool false, .int .i64 0, .slice none 0 0] by rw [← hW]; exact Bx.made _ _ _)
  clear hW
  (with_reducible refine (below 7 (by omega) _ p a len cap C1.out).mono ?_)
  rintro e w2 ⟨x0, rfl, hx0, hx1, hk, hc⟩
  have K2 := Lib.hid (K1.out.trans hk)
  have C2 := Lib.hid hc
  have Z2 := Lib.hid (bx_keep Z1.out hk (by have := P0.out; omega))
  have lx0 := hx0
  have ux0 := hx1 (by omega)
  clear hx0 hx1
  clear hk hc K1 C1 Z1
  go_wp2_with fail
  (with_reducible refine (below 4 (by omega) _ p a len cap C2.out).mono ?_)
  rintro e w3 ⟨x1, rfl, hx0, hx1, hk, hc⟩
  have K3 := Lib.hid (K2.out.trans hk)
  have C3 := Lib.hid hc
  have Z3 := Lib.hid (bx_keep Z2.out hk (by have := P0.out; omega))
  have lx1 := hx0
  have ux1 := hx1 (by omega)
  clear hx0 hx1
  clear hk hc K2 C2 Z2
  go_wp2_with fail
  (with_reducible refine (below 3 (by omega) _ p a len cap C3.out).mono ?_)
  rintro e w4 ⟨x2, rfl, hx0, hx1, hk, hc⟩
  have K4 := Lib.hid (K3.out.trans hk)
  have C4 := Lib.hid hc
  have Z4 := Lib.hid (bx_keep Z3.out hk (by have := P0.out; omega))
  have lx2 := hx0
  have ux2 := hx1 (by omega)
  clear hx0 hx1
  clear hk hc K3 C3 Z3
  go_wp2_with fail
  (with_reducible refine (below 20 (by omega) _ p a len cap C4.out).mono ?_)
  rintro e w5 ⟨x3, rfl, hx0, hx1, hk, hc⟩
  have K5 := Lib.hid (K4.out.trans hk)
  have C5 := Lib.hid hc
  have Z5 := Lib.hid (bx_keep Z4.out hk (by have := P0.out; omega))
  have lx3 := hx0
  have ux3 := hx1 (by omega)
  clear hx0 hx1
  clear hk hc K4 C4 Z4
  go_wp2_with fail
  (with_reducible refine (below 3 (by omega) _ p a len cap C5.out).mono ?_)
  rintro e w6 ⟨x4, rfl, hx0, hx1, hk, hc⟩
  have K6 := Lib.hid (K5.out.trans hk)
  have C6 := Lib.hid hc
  have Z6 := Lib.hid (bx_keep Z5.out hk (by have := P0.out; omega))
  have lx4 := hx0
  have ux4 := hx1 (by omega)
  clear hx0 hx1
  clear hk hc K5 C5 Z5
  go_wp2_with fail
  (with_reducible refine (once 3 (by omega) _ p a len cap C6.out).mono ?_)
  rintro e w7 ⟨b0, rfl, hk, hc⟩
  have K7 := Lib.hid (K6.out.trans hk)
  have C7 := Lib.hid hc
  have Z7 := Lib.hid (bx_keep Z6.out hk (by have := P0.out; omega))
  clear hk hc K6 C6 Z6
  go_wp2_with fail
  (with_reducible refine (once 3 (by omega) _ p a len cap C7.out).mono ?_)
  rintro e w8 ⟨b1, rfl, hk, hc⟩
  have K8 := Lib.hid (K7.out.trans hk)
  have C8 := Lib.hid hc
  have Z8 := Lib.hid (bx_keep Z7.out hk (by have := P0.out; omega))
  clear hk hc K7 C7 Z7
  go_wp2_with fail
  (with_reducible refine (below 9 (by omega) _ p a len cap C8.out).mono ?_)
  rintro e w9 ⟨x7, rfl, hx0, hx1, hk, hc⟩
  have K9 := Lib.hid (K8.out.trans hk)
  have C9 := Lib.hid hc
  have Z9 := Lib.hid (bx_keep Z8.out hk (by have := P0.out; omega))
  have lx7 := hx0
  have ux7 := hx1 (by omega)
  clear hx0 hx1
  clear hk hc K8 C8 Z8
  obtain ⟨k, hk⟩ : ∃ k, 1 + x0 = k := ⟨_, rfl⟩
  obtain ⟨t, ht⟩ : ∃ t, 4 + x2 = t := ⟨_, rfl⟩
  have e1 : IntKind.i64.wrap k = k := IntWalk.i64_in _ (by omega)
  have e2 : IntKind.i64.wrap t = t := IntWalk.i64_in _ (by omega)
  have HS := Lib.hid (show Small k ∧ Small x1 ∧ Small t ∧ Small x3 ∧ Small x4 ∧ Small x7 by unfold Small; omega)
  have HS2 := Lib.hid (show Small k ∧ Small x1 ∧ Small 63 ∧ Small x3 ∧ Small x4 ∧ Small x7 by unfold Small; omega)
  obtain ⟨b, hb⟩ : ∃ b, w9.heap.size = b := ⟨_, rfl⟩
  have S3 := Lib.hid (show w.heap.size < b by rw [← hb]; exact Z9.out.lt)
  go_wp2_with fail
  obtain ⟨w10, hW⟩ : ∃ w10, w9.alloc (.cells #[.int .i64 k, .int .i64 x1, .int .i64 t, .int .i64 x3, .int .i64 x4, .bool b0, .bool b1, .int .i64 x7, .slice none 0 0] 25) = w10 := ⟨_, rfl⟩
  rw [hW]
  have K10 := Lib.hid (show Keep p w w10 by rw [← hW]; exact K9.out.alloc _)
  have C10 := Lib.hid (show Cur w10 p a len cap by rw [← hW]; exact C9.out.alloc _)
  have Z10 := Lib.hid (show Bx 25 w10 w.heap.size #[.int .i64 0, .int .i64 0, .int .i64 0, .int .i64 0, .int .i64 0, .bool false, .bool false, .int .i64 0, .slice none 0 0] by rw [← hW]; exact Z9.out.below (below_box _ _))
  have X10 := Lib.hid (show Bx 25 w10 b #[.int .i64 k, .int .i64 x1, .int .i64 t, .int .i64 x3, .int .i64 x4, .bool b0, .bool b1, .int .i64 x7, .slice none 0 0] by rw [← hW, ← hb]; exact Bx.made _ _ _)
  try rw [hb]
  clear hW hk ht K9 C9 Z9 e1 e2 lx0 ux0 lx1 ux1 lx2 ux2 lx3 ux3 lx4 ux4 lx7 ux7
  obtain ⟨ct, hct⟩ : ∃ ct, decide (Ctl k) = ct := ⟨_, rfl⟩
  have HCT := Lib.hid hct
  clear hct
  (with_reducible refine (specCtl k ct _ HCT.out).mono ?_)
  rintro e w11 ⟨rfl, rfl⟩
  cases ct with
  | true =>
    have z0 : w10.cell? ⟨w.heap.size, 0, none⟩ = some (.int .i64 0) := Z10.out.cell 0
    have z1 : w10.cell? ⟨w.heap.size, 1, none⟩ = some (.int .i64 0) := Z10.out.cell 1
    have z2 : w10.cell? ⟨w.heap.size, 2, none⟩ = some (.int .i64 0) := Z10.out.cell 2
    have z3 : w10.cell? ⟨w.heap.size, 3, none⟩ = some (.int .i64 0) := Z10.out.cell 3
    have z4 : w10.cell? ⟨w.heap.size, 4, none⟩ = some (.int .i64 0) := Z10.out.cell 4
    have z5 : w10.cell? ⟨w.heap.size, 5, none⟩ = some (.bool false) := Z10.out.cell 5
    have z6 : w10.cell? ⟨w.heap.size, 6, none⟩ = some (.bool false) := Z10.out.cell 6
    have z7 : w10.cell? ⟨w.heap.size, 7, none⟩ = some (.int .i64 0) := Z10.out.cell 7
    have z8 : w10.cell? ⟨w.heap.size, 8, none⟩ = some (.slice none 0 0) := Z10.out.cell 8
    have u0 : w10.frozen? ⟨w.heap.size, 0, none⟩ = false := Z10.out.free 0
    have u1 : w10.frozen? ⟨w.heap.size, 1, none⟩ = false := Z10.out.free 1
    have u2 : w10.frozen? ⟨w.heap.size, 2, none⟩ = false := Z10.out.free 2
    have u3 : w10.frozen? ⟨w.heap.size, 3, none⟩ = false := Z10.out.free 3
    have u4 : w10.frozen? ⟨w.heap.size, 4, none⟩ = false := Z10.out.free 4
    have u5 : w10.frozen? ⟨w.heap.size, 5, none⟩ = false := Z10.out.free 5
    have u6 : w10.frozen? ⟨w.heap.size, 6, none⟩ = false := Z10.out.free 6
    have u7 : w10.frozen? ⟨w.heap.size, 7, none⟩ = false := Z10.out.free 7
    have u8 : w10.frozen? ⟨w.heap.size, 8, none⟩ = false := Z10.out.free 8
    have x_0 : w10.cell? ⟨b, 0, none⟩ = some (.int .i64 k) := X10.out.cell 0
    have x_1 : w10.cell? ⟨b, 1, none⟩ = some (.int .i64 x1) := X10.out.cell 1
    have x_2 : w10.cell? ⟨b, 2, none⟩ = some (.int .i64 t) := X10.out.cell 2
    have x_3 : w10.cell? ⟨b, 3, none⟩ = some (.int .i64 x3) := X10.out.cell 3
    have x_4 : w10.cell? ⟨b, 4, none⟩ = some (.int .i64 x4) := X10.out.cell 4
    have x_5 : w10.cell? ⟨b, 5, none⟩ = some (.bool b0) := X10.out.cell 5
    have x_6 : w10.cell? ⟨b, 6, none⟩ = some (.bool b1) := X10.out.cell 6
    have x_7 : w10.cell? ⟨b, 7, none⟩ = some (.int .i64 x7) := X10.out.cell 7
    have x_8 : w10.cell? ⟨b, 8, none⟩ = some (.slice none 0 0) := X10.out.cell 8
    go_wp2_with fail
    (try simp only [Exit.inBlock, Exit.then])
    refine bodyPost_ret (v := .agg #[.int .i64 k, .int .i64 x1, .int .i64 t, .int .i64 x3, .int .i64 x4, .bool b0, .bool b1, .int .i64 x7, .slice none 0 0]) ?_ rfl ?_
    · rw [results_cell1 rfl]
      go_simp
    · have hbl : Below w.heap.size w10 (((((((((w10.setCell ⟨w.heap.size, 0, none⟩ (.int .i64 k)).setCell ⟨w.heap.size, 1, none⟩ (.int .i64 x1)).setCell ⟨w.heap.size, 2, none⟩ (.int .i64 t)).setCell ⟨w.heap.size, 3, none⟩ (.int .i64 x3)).setCell ⟨w.heap.size, 4, none⟩ (.int .i64 x4)).setCell ⟨w.heap.size, 5, none⟩ (.bool b0)).setCell ⟨w.heap.size, 6, none⟩ (.bool b1)).setCell ⟨w.heap.size, 7, none⟩ (.int .i64 x7)).setCell ⟨w.heap.size, 8, none⟩ (.slice none 0 0)) := below_nine (B := w.heap.size) ((Below.refl w10.heap.size w10).mono (by have := Z10.out.lt; omega)) (Nat.le_refl _) _ _ _ _ _ _ _ _ _
      exact ⟨_, _, _, _, _, _, _, _, _, _, _, [], rfl, HS.out, by omega, ow_none _ _ _ _ _ (by first | exact Nat.le_refl _ | simp), K10.out.later (Nat.le_refl _) hbl, Cur.later C0.out K10.out C10.out (Nat.le_refl _) hbl⟩
  | false =>
    go_wp2_with fail
    (with_reducible refine (below 6 (by omega) _ p a len cap C10.out).mono ?_)
    rintro e w11 ⟨y, rfl, hx0, hx1, hk, hc⟩
    have K11 := Lib.hid (K10.out.trans hk)
    have C11 := Lib.hid hc
    have Z11 := Lib.hid (bx_keep Z10.out hk (by have := P0.out; omega))
    have X11 := Lib.hid (bx_keep X10.out hk (by have := P0.out; have := S3.out; omega))
    have ly := hx0
    have uy := hx1 (by omega)
    clear hx0 hx1
    clear hk hc K10 C10 Z10 X10
    have SY := Lib.hid (show b < w11.heap.size from X11.out.lt)
    go_wp2_with fail
    (with_reducible refine (bytes y ly (by omega) _ p a len cap C11.out).mono ?_)
    rintro e w12 ⟨A, n, c, zs, rfl, hn, ho, hk, hc⟩
    have K12 := Lib.hid (K11.out.trans hk)
    have C12 := Lib.hid hc
    have Z12 := Lib.hid (bx_keep Z11.out hk (by have := P0.out; omega))
    have X12 := Lib.hid (bx_keep X11.out hk (by have := P0.out; have := S3.out; omega))
    have Y12 := Lib.hid ho
    clear ho
    clear hk hc K11 C11 Z11 X11
    have HN := Lib.hid (show n ≤ 1000 by omega)
    clear hn ly uy
    have x_8 : w12.cell? ⟨b, 8, none⟩ = some (.slice none 0 0) := X12.out.cell 8
    have fx : w12.frozen? ⟨b, 8, none⟩ = false := X12.out.free 8
    go_wp2_with fail
    obtain ⟨w13, hW⟩ : ∃ w13, w12.setCell ⟨b, 8, none⟩ (.slice A n c) = w13 := ⟨_, rfl⟩
    rw [hW]
    have hbl : Below w.heap.size w12 w13 := by rw [← hW]; exact ((Below.refl w12.heap.size w12).mono (by have := Z12.out.lt; omega)).setCell (p := ⟨b, 8, none⟩) (by show w.heap.size ≤ b; have := S3.out; omega) _
    have K13 := Lib.hid (K12.out.later (Nat.le_refl _) hbl)
    have C13 := Lib.hid (Cur.later C0.out K12.out C12.out (Nat.le_refl _) hbl)
    have Z13 := Lib.hid (show Bx 25 w13 w.heap.size #[.int .i64 0, .int .i64 0, .int .i64 0, .int .i64 0, .int .i64 0, .bool false, .bool false, .int .i64 0, .slice none 0 0] by rw [← hW]; exact Z12.out.other (by have := S3.out; omega) _ _)
    have X13 := Lib.hid (show Bx 25 w13 b #[.int .i64 k, .int .i64 x1, .int .i64 t, .int .i64 x3, .int .i64 x4, .bool b0, .bool b1, .int .i64 x7, .slice A n c] by rw [← hW]; exact X12.out.set 8 _)
    have Y13 := Lib.hid (show Ow 5 .u8 w13 w11.heap.size w12.heap.size A n c zs by rw [← hW]; exact Y12.out.same (by simp [World.setCell]) (fun q h1 _ => Below.heap_setCell _ _ _ _ (by show q ≠ b; have := SY.out; omega)))
    clear hW hbl K12 C12 Z12 X12 Y12 x_8 fx
    (with_reducible refine (once 4 (by omega) _ p a len cap C13.out).mono ?_)
    rintro e w14 ⟨bb, rfl, hk, hc⟩
    have K14 := Lib.hid (K13.out.trans hk)
    have C14 := Lib.hid hc
    have Z14 := Lib.hid (bx_keep Z13.out hk (by have := P0.out; omega))
    have X14 := Lib.hid (bx_keep X13.out hk (by have := P0.out; have := S3.out; omega))
    have Y14 := Lib.hid (ow_keep Y13.out hk (by have := P0.out; have := SY.out; have := S3.out; omega))
    clear hk hc K13 C13 Z13 X13 Y13
    cases bb with
    | true =>
      have hne : b ≠ w.heap.size := by have := S3.out; omega
      have z0 : w14.cell? ⟨w.heap.size, 0, none⟩ = some (.int .i64 0) := Z14.out.cell 0
      have z1 : w14.cell? ⟨w.heap.size, 1, none⟩ = some (.int .i64 0) := Z14.out.cell 1
      have z2 : w14.cell? ⟨w.heap.size, 2, none⟩ = some (.int .i64 0) := Z14.out.cell 2
      have z3 : w14.cell? ⟨w.heap.size, 3, none⟩ = some (.int .i64 0) := Z14.out.cell 3
      have z4 : w14.cell? ⟨w.heap.size, 4, none⟩ = some (.int .i64 0) := Z14.out.cell 4
      have z5 : w14.cell? ⟨w.heap.size, 5, none⟩ = some (.bool false) := Z14.out.cell 5
      have z6 : w14.cell? ⟨w.heap.size, 6, none⟩ = some (.bool false) := Z14.out.cell 6
      have z7 : w14.cell? ⟨w.heap.size, 7, none⟩ = some (.int .i64 0) := Z14.out.cell 7
      have z8 : w14.cell? ⟨w.heap.size, 8, none⟩ = some (.slice none 0 0) := Z14.out.cell 8
      have u0 : w14.frozen? ⟨w.heap.size, 0, none⟩ = false := Z14.out.free 0
      have u1 : w14.frozen? ⟨w.heap.size, 1, none⟩ = false := Z14.out.free 1
      have u2 : w14.frozen? ⟨w.heap.size, 2, none⟩ = false := Z14.out.free 2
      have u3 : w14.frozen? ⟨w.heap.size, 3, none⟩ = false := Z14.out.free 3
      have u4 : w14.frozen? ⟨w.heap.size, 4, none⟩ = false := Z14.out.free 4
      have u5 : w14.frozen? ⟨w.heap.size, 5, none⟩ = false := Z14.out.free 5
      have u6 : w14.frozen? ⟨w.heap.size, 6, none⟩ = false := Z14.out.free 6
      have u7 : w14.frozen? ⟨w.heap.size, 7, none⟩ = false := Z14.out.free 7
      have u8 : w14.frozen? ⟨w.heap.size, 8, none⟩ = false := Z14.out.free 8
      have x_0 : w14.cell? ⟨b, 0, none⟩ = some (.int .i64 k) := X14.out.cell 0
      have x_1 : w14.cell? ⟨b, 1, none⟩ = some (.int .i64 x1) := X14.out.cell 1
      have x_2 : w14.cell? ⟨b, 2, none⟩ = some (.int .i64 t) := X14.out.cell 2
      have x_3 : w14.cell? ⟨b, 3, none⟩ = some (.int .i64 x3) := X14.out.cell 3
      have x_4 : w14.cell? ⟨b, 4, none⟩ = some (.int .i64 x4) := X14.out.cell 4
      have x_5 : w14.cell? ⟨b, 5, none⟩ = some (.bool b0) := X14.out.cell 5
      have x_6 : w14.cell? ⟨b, 6, none⟩ = some (.bool b1) := X14.out.cell 6
      have x_7 : w14.cell? ⟨b, 7, none⟩ = some (.int .i64 x7) := X14.out.cell 7
      have x_8 : w14.cell? ⟨b, 8, none⟩ = some (.slice A n c) := X14.out.cell 8
      have fx : w14.frozen? ⟨b, 2, none⟩ = false := X14.out.free 2
      go_wp2_with fail
      (try simp only [Exit.inBlock, Exit.then])
      refine bodyPost_ret (v := .agg #[.int .i64 k, .int .i64 x1, .int .i64 63, .int .i64 x3, .int .i64 x4, .bool b0, .bool b1, .int .i64 x7, .slice A n c]) ?_ rfl ?_
      · rw [results_cell1 rfl]
        go_simp
      · have hb1 : Below w.heap.size w14 (w14.setCell ⟨b, 2, none⟩ (.int .i64 63)) := ((Below.refl w14.heap.size w14).mono (by have := Z14.out.lt; omega)).setCell (p := ⟨b, 2, none⟩) (by show w.heap.size ≤ b; have := S3.out; omega) _
        have hbl : Below w.heap.size w14 ((((((((((w14.setCell ⟨b, 2, none⟩ (.int .i64 63)).setCell ⟨w.heap.size, 0, none⟩ (.int .i64 k)).setCell ⟨w.heap.size, 1, none⟩ (.int .i64 x1)).setCell ⟨w.heap.size, 2, none⟩ (.int .i64 63)).setCell ⟨w.heap.size, 3, none⟩ (.int .i64 x3)).setCell ⟨w.heap.size, 4, none⟩ (.int .i64 x4)).setCell ⟨w.heap.size, 5, none⟩ (.bool b0)).setCell ⟨w.heap.size, 6, none⟩ (.bool b1)).setCell ⟨w.heap.size, 7, none⟩ (.int .i64 x7)).setCell ⟨w.heap.size, 8, none⟩ (.slice A n c)) := below_nine hb1 (Nat.le_refl _) _ _ _ _ _ _ _ _ _
        exact ⟨_, _, _, _, _, _, _, _, _, _, _, zs, rfl, HS2.out, HN.out, ((ow_nine (Y14.out.same (by simp [World.setCell]) (fun q h1 _ => Below.heap_setCell _ _ _ _ (by show q ≠ b; have := SY.out; omega))) (by have := SY.out; have := S3.out; omega) _ _ _ _ _ _ _ _ _).down (by have := SY.out; have := S3.out; omega)).up, K14.out.later (Nat.le_refl _) hbl, Cur.later C0.out K14.out C14.out (Nat.le_refl _) hbl⟩
    | false =>
      have z0 : w14.cell? ⟨w.heap.size, 0, none⟩ = some (.int .i64 0) := Z14.out.cell 0
      have z1 : w14.cell? ⟨w.heap.size, 1, none⟩ = some (.int .i64 0) := Z14.out.cell 1
      have z2 : w14.cell? ⟨w.heap.size, 2, none⟩ = some (.int .i64 0) := Z14.out.cell 2
      have z3 : w14.cell? ⟨w.heap.size, 3, none⟩ = some (.int .i64 0) := Z14.out.cell 3
      have z4 : w14.cell? ⟨w.heap.size, 4, none⟩ = some (.int .i64 0) := Z14.out.cell 4
      have z5 : w14.cell? ⟨w.heap.size, 5, none⟩ = some (.bool false) := Z14.out.cell 5
      have z6 : w14.cell? ⟨w.heap.size, 6, none⟩ = some (.bool false) := Z14.out.cell 6
      have z7 : w14.cell? ⟨w.heap.size, 7, none⟩ = some (.int .i64 0) := Z14.out.cell 7
      have z8 : w14.cell? ⟨w.heap.size, 8, none⟩ = some (.slice none 0 0) := Z14.out.cell 8
      have u0 : w14.frozen? ⟨w.heap.size, 0, none⟩ = false := Z14.out.free 0
      have u1 : w14.frozen? ⟨w.heap.size, 1, none⟩ = false := Z14.out.free 1
      have u2 : w14.frozen? ⟨w.heap.size, 2, none⟩ = false := Z14.out.free 2
      have u3 : w14.frozen? ⟨w.heap.size, 3, none⟩ = false := Z14.out.free 3
      have u4 : w14.frozen? ⟨w.heap.size, 4, none⟩ = false := Z14.out.free 4
      have u5 : w14.frozen? ⟨w.heap.size, 5, none⟩ = false := Z14.out.free 5
      have u6 : w14.frozen? ⟨w.heap.size, 6, none⟩ = false := Z14.out.free 6
      have u7 : w14.frozen? ⟨w.heap.size, 7, none⟩ = false := Z14.out.free 7
      have u8 : w14.frozen? ⟨w.heap.size, 8, none⟩ = false := Z14.out.free 8
      have x_0 : w14.cell? ⟨b, 0, none⟩ = some (.int .i64 k) := X14.out.cell 0
      have x_1 : w14.cell? ⟨b, 1, none⟩ = some (.int .i64 x1) := X14.out.cell 1
      have x_2 : w14.cell? ⟨b, 2, none⟩ = some (.int .i64 t) := X14.out.cell 2
      have x_3 : w14.cell? ⟨b, 3, none⟩ = some (.int .i64 x3) := X14.out.cell 3
      have x_4 : w14.cell? ⟨b, 4, none⟩ = some (.int .i64 x4) := X14.out.cell 4
      have x_5 : w14.cell? ⟨b, 5, none⟩ = some (.bool b0) := X14.out.cell 5
      have x_6 : w14.cell? ⟨b, 6, none⟩ = some (.bool b1) := X14.out.cell 6
      have x_7 : w14.cell? ⟨b, 7, none⟩ = some (.int .i64 x7) := X14.out.cell 7
      have x_8 : w14.cell? ⟨b, 8, none⟩ = some (.slice A n c) := X14.out.cell 8
      go_wp2_with fail
      (try simp only [Exit.inBlock, Exit.then])
      refine bodyPost_ret (v := .agg #[.int .i64 k, .int .i64 x1, .int .i64 t, .int .i64 x3, .int .i64 x4, .bool b0, .bool b1, .int .i64 x7, .slice A n c]) ?_ rfl ?_
      · rw [results_cell1 rfl]
        go_simp
      · have hbl : Below w.heap.size w14 (((((((((w14.setCell ⟨w.heap.size, 0, none⟩ (.int .i64 k)).setCell ⟨w.heap.size, 1, none⟩ (.int .i64 x1)).setCell ⟨w.heap.size, 2, none⟩ (.int .i64 t)).setCell ⟨w.heap.size, 3, none⟩ (.int .i64 x3)).setCell ⟨w.heap.size, 4, none⟩ (.int .i64 x4)).setCell ⟨w.heap.size, 5, none⟩ (.bool b0)).setCell ⟨w.heap.size, 6, none⟩ (.bool b1)).setCell ⟨w.heap.size, 7, none⟩ (.int .i64 x7)).setCell ⟨w.heap.size, 8, none⟩ (.slice A n c)) := below_nine (B := w.heap.size) ((Below.refl w14.heap.size w14).mono (by have := Z14.out.lt; omega)) (Nat.le_refl _) _ _ _ _ _ _ _ _ _
        exact ⟨_, _, _, _, _, _, _, _, _, _, _, zs, rfl, HS.out, HN.out, ((ow_nine Y14.out (by have := SY.out; have := S3.out; omega) _ _ _ _ _ _ _ _ _).down (by have := SY.out; have := S3.out; omega)).up, K14.out.later (Nat.le_refl _) hbl, Cur.later C0.out K14.out C14.out (Nat.le_refl _) hbl⟩
end Go.Proofs.Ytbkdbdhbmabgcaa.draw
end
