/- Varints as lists of numbers: the encoding, the decoding, and that each undoes the other. Condition: none (no program). -/
namespace Go.Proofs.Ytalfihfielgmpaa.enc

/-- The varint of a number. -/
def enc (n : Nat) : List Int := if n < 128 then [(n : Int)] else ((n % 128 + 128 : Nat) : Int) :: enc (n / 128)
termination_by n
decreasing_by omega
theorem enc_less {n : Nat} (h : n < 128) : enc n = [(n : Int)] := by rw [enc, if_pos h]
theorem enc_more {n : Nat} (h : 128 ≤ n) : enc n = ((n % 128 + 128 : Nat) : Int) :: enc (n / 128) := by rw [enc, if_neg (by omega)]
theorem enc_len : ∀ (k n : Nat), n < 128 ^ (k + 1) → (enc n).length ≤ k + 1
  | 0, n, h => by rw [enc_less (by simpa using h)]; simp
  | k + 1, n, h => by
    by_cases h1 : n < 128
    · rw [enc_less h1]; simp
    · rw [enc_more (by omega), List.length_cons]
      have := enc_len k (n / 128) (by rw [Nat.div_lt_iff_lt_mul (by omega)]; rw [Nat.pow_succ] at h; exact h)
      omega
theorem enc_len6 {n : Nat} (h : n ≤ 1000000000000) : (enc n).length ≤ 6 := enc_len 5 n (by omega)
theorem enc_pos (n : Nat) : 1 ≤ (enc n).length := by rw [enc]; split <;> simp
theorem enc_wf (n : Nat) : ∀ z ∈ enc n, 0 ≤ z ∧ z ≤ 255 := by
  induction n using Nat.strongRecOn with
  | _ n ih =>
    intro z hz
    by_cases h : n < 128
    · rw [enc_less h] at hz
      have : z = n := by simpa using hz
      omega
    · rw [enc_more (by omega)] at hz
      rcases List.mem_cons.1 hz with hz | hz
      · omega
      · exact ih (n / 128) (by omega) z hz

/-- The varint in front of a list: its number and how many bytes; f groups at most, k of them read, a gathered. -/
def dec : Nat → List Int → Nat → Int → Option (Int × Nat)
  | 0, _, _, _ => none
  | _ + 1, [], _, _ => none
  | f + 1, x :: r, k, a => if x < 128 then (if (x = 0 ∧ 0 < k) ∨ 1000000000000 < a + x * 128 ^ k then none else some (a + x * 128 ^ k, k + 1)) else dec f r (k + 1) (a + (x - 128) * 128 ^ k)
theorem dec_zero (l : List Int) (k : Nat) (a : Int) : dec 0 l k a = none := rfl
theorem dec_nil (f k : Nat) (a : Int) : dec f [] k a = none := by cases f <;> rfl
theorem dec_last {f : Nat} {x : Int} {r : List Int} {k : Nat} {a : Int} (h : x < 128) : dec (f + 1) (x :: r) k a = if (x = 0 ∧ 0 < k) ∨ 1000000000000 < a + x * 128 ^ k then none else some (a + x * 128 ^ k, k + 1) := by
  rw [dec, if_pos h]
theorem dec_more {f : Nat} {x : Int} {r : List Int} {k : Nat} {a : Int} (h : ¬ x < 128) : dec (f + 1) (x :: r) k a = dec f r (k + 1) (a + (x - 128) * 128 ^ k) := by
  rw [dec, if_neg h]

theorem dec_enc : ∀ (f n k : Nat) (a : Int) (r : List Int), (enc n).length ≤ f → (0 < k → 0 < n) → a + n * 128 ^ k ≤ 1000000000000 → dec f (enc n ++ r) k a = some (a + n * 128 ^ k, k + (enc n).length) := by
  intro f
  induction f with
  | zero => intro n k a r h; have := enc_pos n; omega
  | succ f ih =>
    intro n k a r h h0 hm
    by_cases hn : n < 128
    · rw [enc_less hn, List.singleton_append, dec_last (by omega), if_neg (by rintro (h | h) <;> omega)]
      rfl
    · have hp : (0 : Int) ≤ 128 ^ k := Int.pow_nonneg (by omega)
      have e : (a + (((n % 128 + 128 : Nat) : Int) - 128) * 128 ^ k) + ((n / 128 : Nat) : Int) * 128 ^ (k + 1) = a + n * 128 ^ k := by
        have e1 : ((n % 128 + 128 : Nat) : Int) - 128 = ((n % 128 : Nat) : Int) := by omega
        have e2 : (n : Int) = ((n % 128 : Nat) : Int) + ((n / 128 : Nat) : Int) * 128 := by omega
        rw [e1, Int.pow_succ]
        conv => rhs; rw [e2]
        rw [Int.add_mul, Int.add_assoc, Int.mul_assoc, Int.mul_comm 128 (128 ^ k)]
      rw [enc_more (by omega)] at h ⊢
      rw [List.cons_append, dec_more (by omega), ih (n / 128) (k + 1) _ r (by simpa using h) (by omega) (by rw [e]; exact hm), e, List.length_cons]
      congr 2; omega

theorem enc_dec : ∀ (f : Nat) (l : List Int) (k : Nat) (a m : Int) (c : Nat), (∀ z ∈ l, 0 ≤ z ∧ z ≤ 255) → dec f l k a = some (m, c) →
    ∃ y : Nat, m = a + y * 128 ^ k ∧ (0 < k → 0 < y) ∧ c = k + (enc y).length ∧ l.take (c - k) = enc y ∧ m ≤ 1000000000000 := by
  intro f
  induction f with
  | zero => intro l k a m c _ h; cases h
  | succ f ih =>
    intro l k a m c hl h
    cases l with
    | nil => cases h
    | cons x r =>
      have hx := hl x (List.mem_cons_self ..)
      by_cases h1 : x < 128
      · rw [dec_last h1] at h
        split at h
        · cases h
        · injection h with h
          injection h with e1 e2
          have ex : ((x.toNat : Nat) : Int) = x := by omega
          have el : enc x.toNat = [x] := by rw [enc_less (by omega), ex]
          rename_i hno
          refine ⟨x.toNat, by rw [ex, e1], fun h => ?_, by rw [el, ← e2]; rfl, ?_, by omega⟩
          · rcases Nat.eq_zero_or_pos x.toNat with h0 | h0
            · exact absurd (Or.inl ⟨by omega, h⟩) hno
            · exact h0
          · rw [el, ← e2, Nat.add_sub_cancel_left]; simp
      · rw [dec_more h1] at h
        obtain ⟨y, e1, e2, e3, e4, e5⟩ := ih r (k + 1) _ m c (fun z hz => hl z (List.mem_cons_of_mem _ hz)) h
        have hy := e2 (by omega)
        have ey : enc ((x - 128).toNat + 128 * y) = x :: enc y := by
          rw [enc_more (by omega)]
          have d1 : ((x - 128).toNat + 128 * y) / 128 = y := by omega
          have d2 : ((((x - 128).toNat + 128 * y) % 128 + 128 : Nat) : Int) = x := by omega
          rw [d1, d2]
        have hc : k + 1 ≤ c := by omega
        refine ⟨(x - 128).toNat + 128 * y, ?_, by omega, by rw [ey, List.length_cons]; omega, ?_, e5⟩
        · rw [e1, Int.pow_succ]
          have e6 : (((x - 128).toNat + 128 * y : Nat) : Int) = (x - 128) + y * 128 := by omega
          rw [e6, Int.add_mul, Int.add_assoc, Int.mul_assoc, Int.mul_comm 128 (128 ^ k)]
        · rw [ey, show c - k = (c - (k + 1)) + 1 by omega, List.take_succ_cons, e4]
theorem dec_c {f : Nat} {l : List Int} {k : Nat} {a m : Int} {c : Nat} (hl : ∀ z ∈ l, 0 ≤ z ∧ z ≤ 255) (h : dec f l k a = some (m, c)) : k + 1 ≤ c ∧ c ≤ k + l.length ∧ (0 ≤ a → a ≤ m) := by
  obtain ⟨y, e1, e2, e3, e4, e5⟩ := enc_dec f l k a m c hl h
  have h1 := enc_pos y
  have h2 := congrArg List.length e4
  rw [List.length_take] at h2
  refine ⟨by omega, by omega, fun h0 => ?_⟩
  have : (0 : Int) ≤ y * 128 ^ k := Int.mul_nonneg (by omega) (Int.pow_nonneg (by omega))
  omega

/-- What AppendUvarint hands back. -/
def uv (b : List Int) (n : Int) : List Int := if 0 ≤ n ∧ n ≤ 1000000000000 then b ++ enc n.toNat else b
theorem uv_in {b : List Int} {n : Int} (h : 0 ≤ n ∧ n ≤ 1000000000000) : uv b n = b ++ enc n.toNat := if_pos h
theorem uv_out {b : List Int} {n : Int} (h : ¬ (0 ≤ n ∧ n ≤ 1000000000000)) : uv b n = b := if_neg h
theorem uv_len (b : List Int) (n : Int) : (uv b n).length ≤ b.length + 6 := by
  unfold uv
  split
  · rename_i h
    rw [List.length_append]
    have := enc_len6 (n := n.toNat) (by omega)
    omega
  · omega
theorem uv_wf {b : List Int} (hb : ∀ z ∈ b, 0 ≤ z ∧ z ≤ 255) (n : Int) : ∀ z ∈ uv b n, 0 ≤ z ∧ z ≤ 255 := by
  unfold uv
  split
  · intro z hz
    rcases List.mem_append.1 hz with hz | hz
    · exact hb z hz
    · exact enc_wf _ z hz
  · exact hb
/-- What ReadUvarint hands back. -/
def rv (b : List Int) (off : Int) : Int × Int × Bool :=
  if 0 ≤ off ∧ off < b.length then
    match dec 6 (b.drop off.toNat) 0 0 with
    | some (m, c) => (m, off + c, true)
    | none => (0, 0, false)
  else (0, 0, false)
theorem rv_out {b : List Int} {off : Int} (h : ¬ (0 ≤ off ∧ off < b.length)) : rv b off = (0, 0, false) := if_neg h
theorem rv_none {b : List Int} {off : Int} (hd : dec 6 (b.drop off.toNat) 0 0 = none) : rv b off = (0, 0, false) := by
  unfold rv; split
  · rw [hd]
  · rfl
theorem rv_some {b : List Int} {off m : Int} {c : Nat} (h : 0 ≤ off ∧ off < b.length) (hd : dec 6 (b.drop off.toNat) 0 0 = some (m, c)) : rv b off = (m, off + c, true) := by
  unfold rv; rw [if_pos h, hd]
/-- What a reading that went well says. -/
theorem rv_ok {b : List Int} (hb : ∀ z ∈ b, 0 ≤ z ∧ z ≤ 255) {off m nx : Int} (h : rv b off = (m, nx, true)) :
    0 ≤ off ∧ off < nx ∧ nx ≤ b.length ∧ 0 ≤ m ∧ m ≤ 1000000000000 ∧ enc m.toNat = (b.drop off.toNat).take (nx - off).toNat := by
  unfold rv at h
  split at h
  · rename_i ho
    cases hd : dec 6 (b.drop off.toNat) 0 0 with
    | none => rw [hd] at h; cases h
    | some p =>
      obtain ⟨m', c⟩ := p
      rw [hd] at h
      injection h with e1 e2; injection e2 with e2 e3
      subst e1 e2
      obtain ⟨y, g1, g2, g3, g4, g5⟩ := enc_dec 6 _ 0 0 m' c (fun z hz => hb z (List.mem_of_mem_drop hz)) hd
      obtain ⟨g6, g7, g8⟩ := dec_c (fun z hz => hb z (List.mem_of_mem_drop hz)) hd
      rw [List.length_drop] at g7
      have ey : m'.toNat = y := by rw [g1]; simp
      refine ⟨ho.1, by omega, by omega, g8 (by omega), g5, ?_⟩
      rw [ey, ← g4]
      congr 1; omega
  · cases h
theorem rv_bad {b : List Int} {off : Int} (h : (rv b off).2.2 = false) : rv b off = (0, 0, false) := by
  unfold rv at h ⊢
  split at h
  · rename_i ho
    rw [if_pos ho]
    cases hd : dec 6 (b.drop off.toNat) 0 0 with
    | none => rfl
    | some p => rw [hd] at h; cases h
  · rename_i ho
    rw [if_neg ho]
theorem rv_enc (b r : List Int) (n : Int) (h : 0 ≤ n ∧ n ≤ 1000000000000) : rv (b ++ (enc n.toNat ++ r)) b.length = (n, (b.length : Int) + ((enc n.toNat).length : Int), true) := by
  have hp := enc_pos n.toNat
  have hd := dec_enc 6 n.toNat 0 0 r (enc_len6 (by omega)) (by omega) (by simp; omega)
  have e : (b ++ (enc n.toNat ++ r)).drop ((b.length : Int)).toNat = enc n.toNat ++ r := by simp
  rw [rv_some (by simp; omega) (by rw [e]; exact hd)]
  simp; omega
end Go.Proofs.Ytalfihfielgmpaa.enc
