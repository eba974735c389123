/- The specification's ParseInt returns the number whose numeral the string is, and whether there is one, and leaves memory as it was, but for new blocks. Condition: the string has at most 1048576 bytes. -/
import Derived.Test.YtmdncnjafkmkgaaDoorParse
namespace Go.Proofs.YtmdncnjafkmkgaaDoor.parse
open Go.RowKit nums facts
open Go.Lib (itoa decFrom)

theorem in_yes (n a b : Int) (h : a ≤ n ∧ n ≤ b) (w : World) :
    Calls Tryd.prog 24 #[.int .i64 n, .int .i64 a, .int .i64 b] w fun e w' => e = .returned (.bool true) ∧ w = w' := by
  obtain ⟨h1, h2⟩ := h
  go_enter Tryd.func24, Tryd.ntmps24
  go_wp2
  go_ret
  exact ⟨rfl, rfl⟩
theorem in_no (n a b : Int) (h : ¬ (a ≤ n ∧ n ≤ b)) (w : World) :
    Calls Tryd.prog 24 #[.int .i64 n, .int .i64 a, .int .i64 b] w fun e w' => e = .returned (.bool false) ∧ w = w' := by
  by_cases h1 : a ≤ n
  · have h2 : ¬ n ≤ b := by omega
    clear h
    go_enter Tryd.func24, Tryd.ntmps24
    go_wp2
    go_ret
    exact ⟨rfl, rfl⟩
  · clear h
    go_enter Tryd.func24, Tryd.ntmps24
    go_wp2
    go_ret
    exact ⟨rfl, rfl⟩

theorem take_snoc (s : ByteArray) (k : Nat) (h : k < s.size) : s.data.toList.take (k + 1) = s.data.toList.take k ++ [s[k]] := by
  rw [List.take_succ_eq_append_getElem (by simpa using h)]; rfl
theorem dec_snoc {l : List UInt8} {c : UInt8} {u : Nat} (h : decFrom 0 l = some u) (hc : 48 ≤ c.toNat ∧ c.toNat ≤ 57) : decFrom 0 (l ++ [c]) = some (u * 10 + (c.toNat - 48)) := by
  rw [decFrom_append, h, Option.bind_some, decFrom_one]
  unfold Lib.digitVal
  rw [if_pos hc]
theorem dec_bound {l : List UInt8} {u : Nat} (h : decFrom 0 l = some u) (hl : l.length ≤ 12) : u ≤ 1000000000000 := by
  have h1 := Lib.decFrom_lt l 0 u h
  have h2 : 10 ^ l.length ≤ 10 ^ 12 := Nat.pow_le_pow_right (by omega) hl
  have h3 : (10 : Nat) ^ 12 = 1000000000000 := by decide
  omega
/-- A byte that is no digit: no numeral. -/
theorem num_bad (s : ByteArray) (k : Nat) (h : k < s.size) (hb : ¬ (48 ≤ (s[k].toNat : Int) ∧ (s[k].toNat : Int) ≤ 57)) : num s.data.toList = none := by
  cases hn : num s.data.toList with
  | none => rfl
  | some v =>
    exfalso
    obtain ⟨h0, h1, h2⟩ := itoa_num hn
    have e : itoa v = Lib.decDigits v.toNat := by unfold Lib.itoa; rw [if_neg (by omega)]
    have hd := decFrom_decDigits v.toNat
    rw [← e, h2] at hd
    obtain ⟨d, hd2⟩ := Lib.digit_of_decFrom _ _ _ hd k s[k] (by rw [List.getElem?_eq_getElem (by simpa using h)]; rfl)
    have := Lib.digitVal_eq hd2
    omega
theorem num_of_dec {s : ByteArray} {u : Nat} (h : decFrom 0 s.data.toList = some u) (h1 : 1 ≤ s.size) : num s.data.toList = if (u : Int) ≤ 1000000000000 ∧ itoa u = s.data.toList then some (u : Int) else none := by
  have hne : s.data.toList ≠ [] := by
    intro hc
    have h2 : s.data.toList.length = 0 := by rw [hc]; rfl
    have e : s.data.toList.length = s.size := Array.length_toList
    omega
  have hd : Lib.decNat s.data.toList = some u := by
    unfold Lib.decNat; rw [if_neg (by simpa using hne), h]
  unfold num
  rw [hd]
  simp only
  have e : itoa (u : Int) = Lib.decDigits u := by unfold Lib.itoa; rw [if_neg (by omega)]; simp
  rw [e]
  by_cases hc : u ≤ 1000000000000 ∧ Lib.decDigits u = s.data.toList
  · rw [if_pos hc, if_pos ⟨by omega, hc.2⟩]
  · rw [if_neg hc, if_neg (fun h => hc ⟨by omega, h.2⟩)]

theorem specParse_len (s : ByteArray) (hs : s.size ≤ 1048576) (h : ¬ (1 ≤ s.size ∧ s.size ≤ 13)) (w : World) :
    Calls Tryd.prog 15 #[.string s] w fun e w' => e = .returned (.tuple #[.int .i64 0, .bool false]) ∧ Below w.heap.size w w' := by
  have hi := fun W => in_no s.size 1 13 (by omega) W
  clear h
  go_enter Tryd.func15, Tryd.ntmps15
  go_wp2_with (go_at_call 24; refine (hi _).mono ?_; rintro e w2 ⟨rfl, rfl⟩)
  go_ret2
  exact ⟨rfl, Below.refl _ _⟩

def post (s : ByteArray) (w : World) (e : Ending) (w' : World) : Prop := e = .returned (parsed s.data.toList) ∧ Below w.heap.size w w'

theorem specParse_mid (s : ByteArray) (h1 : 1 ≤ s.size) (h13 : s.size ≤ 13) (w : World) :
    Calls Tryd.prog 15 #[.string s] w (post s w) := by
  have hi := fun W => in_yes s.size 1 13 (by omega) W
  go_enter Tryd.func15, Tryd.ntmps15
  go_wp2_with (go_at_call 24; refine (hi _).mono ?_; rintro e w2 ⟨rfl, rfl⟩)
  clear hi
  go_loop [4, 5] (fun n i => ∃ k u : Nat, k ≤ s.size ∧ i = .int .i64 k ∧ n = .int .i64 u ∧ decFrom 0 (s.data.toList.take k) = some u) (fun _ i => s.size - (intOf i).toNat)
  case atStart => exact ⟨0, 0, by omega, rfl, rfl, rfl⟩
  case round =>
    obtain ⟨k, u, hk, rfl, rfl, hu⟩ := hrel
    by_cases hlt : k < s.size
    · have ub : u ≤ 1000000000000 := dec_bound hu (by have := List.length_take_le k s.data.toList; omega)
      have HU := Lib.hid hu
      clear hu
      have hts := take_snoc s k hlt
      have hbad := num_bad s k hlt
      obtain ⟨c, hc⟩ : ∃ c : UInt8, s[k] = c := ⟨_, rfl⟩
      rw [hc] at hts hbad
      have hb0 : (c.toNat : Int) ≤ 255 := by have := c.toNat_lt; omega
      have HT := Lib.hid hts
      clear hts
      by_cases hd : 48 ≤ (c.toNat : Int) ∧ (c.toNat : Int) ≤ 57
      · have hy := fun W => in_yes c.toNat 48 57 hd W
        obtain ⟨hd1, hd2⟩ := hd
        clear hbad
        go_wp2_with (go_at_call 24; refine (hy _).mono ?_; rintro e w2 ⟨rfl, rfl⟩)
        go_round
        case rel => exact ⟨k + 1, u * 10 + (c.toNat - 48), by omega, by go_num, by go_num, by rw [HT.out]; exact dec_snoc HU.out (by omega)⟩
        case measure => simp [intOf]; omega
      · have hy := fun W => in_no c.toNat 48 57 hd W
        have HD := Lib.hid (hbad hd)
        clear hd hbad
        go_wp2_with (go_at_call 24; refine (hy _).mono ?_; rintro e w2 ⟨rfl, rfl⟩)
        go_ret2
        unfold post parsed
        rw [HD.out]
        exact ⟨rfl, Below.refl _ _⟩
    · obtain rfl : k = s.size := by omega
      rw [List.take_of_length_le (by simp)] at hu
      have hn := num_of_dec hu h1
      have ub : u < 10000000000000 := by
        have h2 := Lib.decFrom_lt _ 0 u hu
        have e : s.data.toList.length = s.size := Array.length_toList
        have h3 : 10 ^ s.data.toList.length ≤ 10 ^ 13 := Nat.pow_le_pow_right (by omega) (by omega)
        have h4 : (10 : Nat) ^ 13 = 10000000000000 := by decide
        omega
      have UB := Lib.hid ub
      clear hu hlt hk ub
      by_cases hb : (u : Int) ≤ 1000000000000
      · have hb2 : ¬ (1000000000000 < (u : Int)) := by omega
        by_cases he : itoa (u : Int) = s.data.toList
        · have hq : (!itoa (u : Int) == s.toList) = false := by rw [ByteArray.toList_eq, he]; simp
          rw [if_pos ⟨hb, he⟩] at hn
          have HN := Lib.hid hn
          clear hn he
          go_wp2_with (go_at_call 14; refine (form.specFormat u (by omega) (by omega) _).mono ?_; rintro e w2 ⟨rfl, hb2⟩; have HB2 := Lib.hid hb2; clear hb2)
          go_ret2
          unfold post parsed
          rw [HN.out]
          exact ⟨rfl, HB2.out⟩
        · have hq : (!itoa (u : Int) == s.toList) = true := by rw [ByteArray.toList_eq]; simpa using he
          rw [if_neg (fun h => he h.2)] at hn
          have HN := Lib.hid hn
          clear hn he
          go_wp2_with (go_at_call 14; refine (form.specFormat u (by omega) (by omega) _).mono ?_; rintro e w2 ⟨rfl, hb2⟩; have HB2 := Lib.hid hb2; clear hb2)
          go_ret2
          unfold post parsed
          rw [HN.out]
          exact ⟨rfl, HB2.out⟩
      · have hb2 : 1000000000000 < (u : Int) := by omega
        rw [if_neg (fun h => hb h.1)] at hn
        have HN := Lib.hid hn
        clear hn hb
        go_wp2_with fail
        go_ret2
        unfold post parsed
        rw [HN.out]
        exact ⟨rfl, Below.refl _ _⟩

theorem specParse (s : ByteArray) (hs : s.size ≤ 1048576) (w : World) :
    Calls Tryd.prog 15 #[.string s] w fun e w' => e = .returned (parsed s.data.toList) ∧ Below w.heap.size w w' := by
  by_cases h : 1 ≤ s.size ∧ s.size ≤ 13
  · exact specParse_mid s h.1 h.2 w
  · have hn : num s.data.toList = none := by
      cases hn : num s.data.toList with
      | none => rfl
      | some v =>
        exfalso
        have h1 := num_length hn
        have e : s.data.toList.length = s.size := Array.length_toList
        omega
    unfold parsed
    rw [hn]
    exact specParse_len s hs h w

theorem walkLaw (s : ByteArray) (ws : s.size ≤ maxLen) (w : World) (ht : Tab w) (he : Errs w) :
    Calls Tryd.prog 5 #[.string s] w fun e w' => e = .returned (.bool true) ∧ Below w.heap.size w w' := by
  unfold maxLen at ws
  have HT := Lib.hid ht
  have HE := Lib.hid he
  clear ht he
  by_cases hs : s.size ≤ 1048576
  · have hs2 : ¬ (1048576 : Int) < s.size := by omega
    have HS := Lib.hid hs
    clear hs
    have hsp := fun W => specParse s HS.out W
    have him := fun W a b => implParse s HS.out W a b
    unfold parsed at hsp him
    cases hn : num s.data.toList with
    | none =>
      rw [hn] at hsp him
      simp only [Option.getD_none, Option.isSome_none] at hsp him
      clear hn
      go_enter Tryd.func5, Tryd.ntmps5
      go_wp2_with (first
        | (go_at_call 15; refine (hsp _).mono ?_; rintro e w1 ⟨rfl, hb1⟩; have B1 := Lib.hid hb1; clear hb1)
        | (go_at_call 8; refine (him _ (HT.out.below B1.out) (HE.out.below B1.out)).mono ?_; rintro e w2 ⟨rfl, hb2⟩; have B2 := Lib.hid hb2; clear hb2))
      go_ret
      exact ⟨rfl, B1.out.trans (B2.out.mono B1.out.size)⟩
    | some v =>
      rw [hn] at hsp him
      simp only [Option.getD_some, Option.isSome_some] at hsp him
      clear hn
      go_enter Tryd.func5, Tryd.ntmps5
      go_wp2_with (first
        | (go_at_call 15; refine (hsp _).mono ?_; rintro e w1 ⟨rfl, hb1⟩; have B1 := Lib.hid hb1; clear hb1)
        | (go_at_call 8; refine (him _ (HT.out.below B1.out) (HE.out.below B1.out)).mono ?_; rintro e w2 ⟨rfl, hb2⟩; have B2 := Lib.hid hb2; clear hb2))
      go_ret
      exact ⟨rfl, B1.out.trans (B2.out.mono B1.out.size)⟩
  · have hs2 : (1048576 : Int) < s.size := by omega
    clear hs
    go_enter Tryd.func5, Tryd.ntmps5
    go_wp2
    go_ret
    exact ⟨rfl, Below.refl _ _⟩
end Go.Proofs.YtmdncnjafkmkgaaDoor.parse
