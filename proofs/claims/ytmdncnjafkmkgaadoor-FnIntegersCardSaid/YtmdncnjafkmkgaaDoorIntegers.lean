/- The law function of integers (FnIntegers) returns true and leaves what was there. Conditions: the argument is a slice of bytes that came in; the listed library variables hold what was laid. -/
import Derived.Test.YtmdncnjafkmkgaaDoorDraw2
import Derived.Test.YtmdncnjafkmkgaaDoorParse2
namespace Go.Proofs.YtmdncnjafkmkgaaDoor.integers
open Go.RowKit nums facts
open Go.Lib (itoa)

/-- The remainder from 0 on. -/
def Rem (a b r : Int) : Prop := ((b < 1 ∨ 1000000000000 < b) ∧ r = 0) ∨ (1 ≤ b ∧ b ≤ 1000000000000 ∧ 0 ≤ r ∧ r < b ∧ (a.tmod b = r ∨ a.tmod b = r - b) ∧ -b < a.tmod b)
def ModPost (a b : Int) (w : World) (e : Ending) (w' : World) : Prop := ∃ r : Int, e = .returned (.int .i64 r) ∧ Rem a b r ∧ w = w'
theorem mod (a b : Int) (w : World) :
    Calls Tryd.prog 13 #[.int .i64 a, .int .i64 b] w (ModPost a b w) := by
  by_cases h : 1 ≤ b ∧ b ≤ 1000000000000
  · have hr := fun W => parse.inRange_yes b 1 1000000000000 h W
    obtain ⟨h3, h4⟩ := h
    have b1 : a.tmod b < b := by have := Int.tmod_lt_of_pos a (show 0 < b by omega); omega
    have b2 : -b < a.tmod b := by
      have := Int.tmod_lt_of_pos (-a) (show 0 < b by omega)
      rw [Int.neg_tmod] at this; omega
    obtain ⟨r, hr2⟩ : ∃ r, a.tmod b = r := ⟨_, rfl⟩
    rw [hr2] at b1 b2
    have HR := Lib.hid hr2
    by_cases h5 : r < 0
    all_goals
      go_enter Tryd.func13, Tryd.ntmps13
      go_wp2_with (go_at_call 21; refine (hr _).mono ?_; rintro e w2 ⟨rfl, rfl⟩)
      go_ret
    · exact ⟨_, rfl, Or.inr ⟨h3, h4, by omega, by omega, Or.inr (by rw [HR.out]; omega), by rw [HR.out]; omega⟩, rfl⟩
    · exact ⟨_, rfl, Or.inr ⟨h3, h4, by omega, by omega, Or.inl HR.out, by rw [HR.out]; omega⟩, rfl⟩
  · have hr := fun W => parse.inRange_no b 1 1000000000000 h W
    go_enter Tryd.func13, Tryd.ntmps13
    go_wp2_with (go_at_call 21; refine (hr _).mono ?_; rintro e w2 ⟨rfl, rfl⟩)
    go_ret
    exact ⟨0, rfl, Or.inl ⟨by omega, rfl⟩, rfl⟩

/-- The quotient, rounded up. -/
def Up (a b q : Int) : Prop := ((b < 1 ∨ 1000000000000 < b ∨ a < 0 ∨ 1000000000000 < a) ∧ q = 0) ∨ (1 ≤ b ∧ b ≤ 1000000000000 ∧ 0 ≤ a ∧ a ≤ 1000000000000 ∧ a ≤ q * b ∧ q * b < a + b)
def UpPost (a b : Int) (w : World) (e : Ending) (w' : World) : Prop := ∃ q : Int, e = .returned (.int .i64 q) ∧ Up a b q ∧ w = w'
theorem up (a b : Int) (w : World) :
    Calls Tryd.prog 12 #[.int .i64 a, .int .i64 b] w (UpPost a b w) := by
  by_cases h : 0 ≤ a ∧ a ≤ 1000000000000
  · have hr := fun W => parse.inRange_yes a 0 1000000000000 h W
    by_cases h2 : 1 ≤ b ∧ b ≤ 1000000000000
    · have hr2 := fun W => parse.inRange_yes b 1 1000000000000 h2 W
      obtain ⟨h3, h4⟩ := h
      obtain ⟨h5, h6⟩ := h2
      go_enter Tryd.func12, Tryd.ntmps12
      go_wp2_with (first
        | (go_at_call 21; with_reducible refine (hr _).mono ?_; rintro e w2 ⟨rfl, rfl⟩)
        | (go_at_call 21; with_reducible refine (hr2 _).mono ?_; rintro e w2 ⟨rfl, rfl⟩))
      go_ret
      refine ⟨_, rfl, Or.inr ⟨h5, h6, h3, h4, ?_, ?_⟩, rfl⟩
      · have h7 := Int.mul_ediv_add_emod (a + b - 1) b
        have h8 := Int.emod_lt_of_pos (a + b - 1) (show 0 < b by omega)
        rw [Int.mul_comm] at h7; omega
      · have h7 := Int.mul_ediv_add_emod (a + b - 1) b
        have h8 := Int.emod_nonneg (a + b - 1) (show b ≠ 0 by omega)
        rw [Int.mul_comm] at h7; omega
    · have hr2 := fun W => parse.inRange_no b 1 1000000000000 h2 W
      go_enter Tryd.func12, Tryd.ntmps12
      go_wp2_with (first
        | (go_at_call 21; with_reducible refine (hr _).mono ?_; rintro e w2 ⟨rfl, rfl⟩)
        | (go_at_call 21; with_reducible refine (hr2 _).mono ?_; rintro e w2 ⟨rfl, rfl⟩))
      go_ret
      exact ⟨0, rfl, Or.inl ⟨by omega, rfl⟩, rfl⟩
  · have hr := fun W => parse.inRange_no a 0 1000000000000 h W
    go_enter Tryd.func12, Tryd.ntmps12
    go_wp2_with (go_at_call 21; refine (hr _).mono ?_; rintro e w2 ⟨rfl, rfl⟩)
    go_ret
    exact ⟨0, rfl, Or.inl ⟨by omega, rfl⟩, rfl⟩

/-- ParseInt, in relations. -/
def ParsePost (l : List UInt8) (w : World) (e : Ending) (w' : World) : Prop := ∃ (n : Int) (ok : Bool), e = .returned (.tuple #[.int .i64 n, .bool ok]) ∧ (ok = true → 0 ≤ n ∧ n ≤ 1000000000000 ∧ itoa n = l) ∧ (∀ m : Int, 0 ≤ m → m ≤ 1000000000000 → itoa m = l → ok = true ∧ n = m) ∧ Below w.heap.size w w'
theorem parseRel (s : ByteArray) (hs : s.size ≤ 1048576) (w : World) (ht : Tab w) (he : Errs w) :
    Calls Tryd.prog 8 #[.string s] w (ParsePost s.data.toList w) := by
  refine (parse.implParse s hs w ht he).mono ?_
  rintro e w1 ⟨rfl, hb⟩
  refine ⟨_, _, rfl, ?_, ?_, hb⟩
  · intro h
    cases hn : num s.data.toList with
    | none => rw [hn] at h; cases h
    | some v => exact itoa_num hn
  · intro m h0 h1 h2
    rw [← h2, num_itoa h0 h1]
    exact ⟨rfl, rfl⟩
theorem itoa_range {m k : Int} (h : itoa k = itoa m) (hk : 0 ≤ k) : 0 ≤ m := by
  rcases Int.lt_or_le m 0 with hm | hm
  · exfalso
    have h1 := decFrom_decDigits k.toNat
    have e : itoa k = Lib.decDigits k.toNat := by unfold Lib.itoa; rw [if_neg (by omega)]
    rw [← e, h, itoa_neg hm] at h1
    simp [Lib.decFrom, Lib.digitVal] at h1
  · exact hm
theorem itoa_inj {m k : Int} (h : itoa k = itoa m) (hk : 0 ≤ k) (hm : 0 ≤ m) : k = m := by
  have e : itoa k = Lib.decDigits k.toNat := by unfold Lib.itoa; rw [if_neg (by omega)]
  have e2 : itoa m = Lib.decDigits m.toNat := by unfold Lib.itoa; rw [if_neg (by omega)]
  have h1 := decFrom_decDigits k.toNat
  have h2 := decFrom_decDigits m.toNat
  rw [← e, h, e2, h2] at h1
  injection h1 with h1
  omega
/-- What the law asks of the parsed numeral of m. -/
theorem fine_cases {m k : Int} {fine : Bool} (h1 : fine = true → 0 ≤ k ∧ k ≤ 1000000000000 ∧ itoa k = itoa m) (h2 : ∀ x : Int, 0 ≤ x → x ≤ 1000000000000 → itoa x = itoa m → fine = true ∧ k = x) :
    (fine = true ∧ k = m ∧ 0 ≤ m ∧ m ≤ 1000000000000) ∨ (fine = false ∧ m < 0) ∨ (fine = false ∧ 0 ≤ m ∧ 1000000000000 < m) := by
  by_cases hm : 0 ≤ m ∧ m ≤ 1000000000000
  · obtain ⟨a, b⟩ := h2 m hm.1 hm.2 rfl
    exact Or.inl ⟨a, b, hm.1, hm.2⟩
  · cases fine with
    | false => rcases Int.lt_or_le m 0 with h | h
               · exact Or.inr (Or.inl ⟨rfl, h⟩)
               · exact Or.inr (Or.inr ⟨rfl, h, by omega⟩)
    | true =>
      exfalso
      obtain ⟨a, b, c⟩ := h1 rfl
      have hm0 := itoa_range c a
      have := itoa_inj c a hm0
      omega
end Go.Proofs.YtmdncnjafkmkgaaDoor.integers
