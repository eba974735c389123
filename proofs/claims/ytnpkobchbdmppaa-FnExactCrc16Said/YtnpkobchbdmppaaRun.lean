/- LongestRun, program and specification. Condition: none. -/
import Derived.Test.YtnpkobchbdmppaaCrc1
import Derived.Test.YtnpkobchbdmppaaRng
namespace Go.Proofs.Ytnpkobchbdmppaa.runs
open Go.RowKit sl harn rng

/-- The length of the run that ends at index k. -/
def ends (zs : List Int) : Nat → Nat
  | 0 => 1
  | k + 1 => if zs.getD (k + 1) 0 = zs.getD k 0 then ends zs k + 1 else 1
theorem ends_in (zs : List Int) : ∀ k, 1 ≤ ends zs k ∧ ends zs k ≤ k + 1
  | 0 => ⟨Nat.le_refl _, Nat.le_refl _⟩
  | k + 1 => by have := ends_in zs k; rw [ends]; split <;> omega
/-- The longest run of the first k elements. -/
def best (zs : List Int) : Nat → Nat
  | 0 => 0
  | k + 1 => if best zs k < ends zs k then ends zs k else best zs k
theorem best_in (zs : List Int) : ∀ k, best zs k ≤ k
  | 0 => Nat.le_refl _
  | k + 1 => by have := best_in zs k; have := ends_in zs k; rw [best]; split <;> omega
def lr (zs : List Int) : Nat := best zs zs.length
theorem ends_same {zs : List Int} {k : Nat} {x : Int} (h1 : zs.getD (k + 1) 0 = x) (h2 : zs.getD k 0 = x) : ends zs (k + 1) = ends zs k + 1 := by rw [ends, if_pos (by rw [h1, h2])]
theorem ends_new {zs : List Int} {k : Nat} {x y : Int} (h1 : zs.getD (k + 1) 0 = x) (h2 : zs.getD k 0 = y) (h : ¬ x = y) : ends zs (k + 1) = 1 := by rw [ends, if_neg (by rw [h1, h2]; exact h)]
theorem best_next (zs : List Int) (k : Nat) {b m r : Nat} (hb : b = best zs k) (hr : r = ends zs k) (hm : (m : Int) = if (b : Int) < r then (r : Int) else b) : m = best zs (k + 1) := by
  rw [best, ← hb, ← hr]; split at hm <;> split <;> omega
theorem ret_num2 {a b : Int} (h : a = b) : Ending.returned (.int .i64 a) = .returned (.int .i64 b) := by rw [h]
theorem max_ex (b r : Nat) : ∃ m : Nat, (m : Int) = if (b : Int) < r then (r : Int) else b := by
  by_cases h : (b : Int) < r
  · exact ⟨r, by rw [if_pos h]⟩
  · exact ⟨b, by rw [if_neg h]⟩

set_option maxRecDepth 100000 in
theorem implRun (zs : List Int) (lo hi : Nat) (A : Option Addr) (n cap : Nat) (w : World) (h : Rd .i64 w lo hi A n cap zs) :
    Calls Try.prog 39 #[.slice A n cap] w fun e w' => e = .returned (.int .i64 (lr zs : Nat)) ∧ Below w.heap.size w w' := by
  have hb := h.cap_
  have HR := Lib.hid h
  clear h
  go_enter Try.func39, Try.ntmps39
  go_wp2
  go_loopw [3, 4, 9] (fun l s i wr => ∃ k b t : Nat, i = .int .i64 k ∧ l = .int .i64 b ∧ s = .int .i64 t ∧ k ≤ n ∧ b = best zs k ∧ (k = 0 → t = 0) ∧ (∀ j, k = j + 1 → t + ends zs j = k ∧ zs.getD t 0 = zs.getD j 0) ∧ Below w.heap.size w wr) (fun _ _ i _ => n - (intOf i).toNat)
  case atStart => exact ⟨0, 0, 0, rfl, rfl, rfl, by omega, rfl, fun _ => rfl, fun j h => absurd h (by omega), Below.refl _ _⟩
  case round =>
    obtain ⟨k, b, t, rfl, rfl, rfl, hk, hbe, ht0, hts, hbl⟩ := hrel
    have hbb : b ≤ k := by rw [hbe]; exact best_in zs k
    have HE := Lib.hid hbe
    have HB := Lib.hid hbl
    clear hbe hbl
    by_cases hlt : k < n
    · obtain ⟨p, off, rfl, h1, h2, hc⟩ := (HR.out.below HB.out).at_ hlt
      obtain ⟨x, hx⟩ : ∃ x, zs.getD k 0 = x := ⟨_, rfl⟩
      rw [hx] at hc
      have hlt2 : (k : Int) < n := by omega
      cases k with
      | zero =>
        obtain rfl := ht0 rfl
        obtain rfl : b = 0 := by omega
        rw [Nat.add_zero] at hc
        clear ht0 hts hx h1 h2
        have HM := Lib.hid (show ((1 : Nat) : Int) = if ((0 : Nat) : Int) < ((1 : Nat) : Int) then ((1 : Nat) : Int) else ((0 : Nat) : Int) from rfl)
        go_wp2_with fail
        (with_reducible refine (implMax 0 1 1 rfl _).mono ?_)
        rintro e w2 ⟨rfl, hb2⟩
        have HB2 := Lib.hid (HB.out.trans (hb2.mono HB.out.size))
        clear hb2
        go_wp2_with fail
        go_roundw
        case rel => exact ⟨1, 1, 0, rfl, rfl, rfl, by omega, rfl, fun _ => rfl, fun j h => (by cases (show j = 0 by omega); exact ⟨rfl, rfl⟩), HB2.out⟩
        case measure => simp [intOf]; omega
      | succ j =>
        have hts2 := hts j rfl
        have hj := ends_in zs j
        obtain ⟨r, hr⟩ : ∃ r, r = ends zs j := ⟨_, rfl⟩
        rw [← hr] at hts2 hj
        obtain ⟨hta, htb⟩ := hts2
        have htn : t < n := by omega
        obtain ⟨p', off', e, h1', h2', hc'⟩ := (HR.out.below HB.out).at_ htn
        injection e with e; injection e with e1 e2; subst e1 e2
        obtain ⟨y, hy⟩ : ∃ y, zs.getD t 0 = y := ⟨_, rfl⟩
        rw [hy] at hc'
        have HJ := Lib.hid (show zs.getD j 0 = y by rw [← htb, hy])
        have HX := Lib.hid hx
        have HT := Lib.hid hta
        have HRR := Lib.hid hr
        have HY := Lib.hid hy
        have htn2 : (t : Int) < n := by omega
        clear ht0 hts hx h1 h2 h1' h2' hta htb hr hy
        by_cases hxy : x = y
        · subst hxy
          obtain ⟨m, hm⟩ := max_ex b (r + 1)
          have HM := Lib.hid hm
          have HN := Lib.hid (show (m : Int) = if (b : Int) < (r : Int) + 1 then (r : Int) + 1 else b by rw [hm, Int.natCast_add]; rfl)
          have hq : (j : Int) + 1 - t + 1 = ((r + 1 : Nat) : Int) := by have := HT.out; omega
          clear hm
          go_wp2_with fail
          (with_reducible refine (implMax b ((r : Int) + 1) m HN.out _).mono ?_)
          rintro e w2 ⟨rfl, hb2⟩
          have HB2 := Lib.hid (HB.out.trans (hb2.mono HB.out.size))
          clear hb2
          go_wp2_with fail
          go_roundw
          case rel => exact ⟨j + 1 + 1, m, t, by go_num, rfl, rfl, by omega, best_next zs (j + 1) HE.out (by rw [ends_same HX.out HJ.out, HRR.out]) HM.out, fun h => absurd h (by omega), fun i h => by
                        obtain rfl : i = j + 1 := by omega
                        exact ⟨by rw [ends_same HX.out HJ.out, ← HRR.out]; have := HT.out; omega, by rw [HY.out, HX.out]⟩, HB2.out⟩
          case measure => simp [intOf]; omega
        · have hne : (x == y) = false := by simpa using hxy
          obtain ⟨m, hm⟩ := max_ex b 1
          have HM := Lib.hid hm
          have HN := Lib.hid (show (m : Int) = if (b : Int) < 1 then 1 else (b : Int) by rw [hm]; rfl)
          clear hm
          go_wp2_with fail
          (with_reducible refine (implMax b 1 m HN.out _).mono ?_)
          rintro e w2 ⟨rfl, hb2⟩
          have HB2 := Lib.hid (HB.out.trans (hb2.mono HB.out.size))
          clear hb2
          go_wp2_with fail
          go_roundw
          case rel => exact ⟨j + 1 + 1, m, j + 1, by go_num, rfl, by go_num, by omega, best_next zs (j + 1) HE.out (by rw [ends_new HX.out HJ.out hxy]) HM.out, fun h => absurd h (by omega), fun i h => by
                        obtain rfl : i = j + 1 := by omega
                        exact ⟨by rw [ends_new HX.out HJ.out hxy], rfl⟩, HB2.out⟩
          case measure => simp [intOf]; omega
    · have hlt2 : ¬ (k : Int) < n := by omega
      obtain rfl : k = n := by omega
      clear ht0 hts
      go_wp2
      go_ret
      exact ⟨ret_num2 (by rw [HE.out, lr, HR.out.len]), HB.out⟩

set_option maxRecDepth 100000 in
theorem specRun (zs : List Int) (lo hi : Nat) (A : Option Addr) (n cap : Nat) (w : World) (h : Rd .i64 w lo hi A n cap zs) :
    Calls Try.prog 38 #[.slice A n cap] w fun e w' => e = .returned (.int .i64 (lr zs : Nat)) ∧ Below w.heap.size w w' := by
  have hb := h.cap_
  have HR := Lib.hid h
  clear h
  go_enter Try.func38, Try.ntmps38
  go_wp2
  go_loopw [3, 4, 5] (fun l s i wr => ∃ k b r q : Nat, i = .int .i64 k ∧ l = .int .i64 b ∧ s = .int .i64 r ∧ k ≤ n ∧ b = best zs k ∧ r ≤ k ∧ (∀ j, k = j + 1 → r = ends zs j) ∧ wr = w.drewN q) (fun _ _ i _ => n - (intOf i).toNat)
  case atStart => exact ⟨0, 0, 0, 0, rfl, rfl, rfl, by omega, rfl, by omega, fun j h => absurd h (by omega), rfl⟩
  case round =>
    obtain ⟨k, b, r, q, rfl, rfl, rfl, hk, hbe, hrk, hts, rfl⟩ := hrel
    have hbb : b ≤ k := by rw [hbe]; exact best_in zs k
    have HE := Lib.hid hbe
    clear hbe
    by_cases hlt : k < n
    · obtain ⟨p, off, rfl, h1, h2, hc⟩ := HR.out.at_ hlt
      obtain ⟨x, hx⟩ : ∃ x, zs.getD k 0 = x := ⟨_, rfl⟩
      rw [hx] at hc
      have hlt2 : (k : Int) < n := by omega
      cases k with
      | zero =>
        obtain rfl : b = 0 := by omega
        obtain rfl : r = 0 := by omega
        rw [Nat.add_zero] at hc
        clear hts hx h1 h2
        go_wp2
        go_quiet (fail)
        go_wp2_with fail
        (with_reducible refine (specMax 0 1 1 rfl _).mono ?_)
        rintro e w2 ⟨rfl, rfl⟩
        go_wp2_with fail
        go_roundw
        case rel => exact ⟨1, 1, 1, _, rfl, rfl, rfl, by omega, rfl, by omega, fun j h => (by cases (show j = 0 by omega); rfl), rfl⟩
        case measure => simp [intOf]; omega
      | succ j =>
        have HRR := Lib.hid (hts j rfl)
        have htn : j < n := by omega
        obtain ⟨p', off', e, h1', h2', hc'⟩ := HR.out.at_ htn
        injection e with e; injection e with e1 e2; subst e1 e2
        obtain ⟨y, hy⟩ : ∃ y, zs.getD j 0 = y := ⟨_, rfl⟩
        rw [hy] at hc'
        have HX := Lib.hid hx
        have HY := Lib.hid hy
        have hjn2 : (j : Int) < n := by omega
        have hpos : (0 : Int) < ((j + 1 : Nat) : Int) := by omega
        have hsub : ((j + 1 : Nat) : Int) - 1 = j := by omega
        clear hts hx h1 h2 h1' h2' hy
        by_cases hxy : x = y
        · subst hxy
          obtain ⟨m, hm⟩ := max_ex b (r + 1)
          have HM := Lib.hid hm
          have HN := Lib.hid (show (m : Int) = if (b : Int) < (r : Int) + 1 then (r : Int) + 1 else b by rw [hm, Int.natCast_add]; rfl)
          clear hm
          go_wp2
          go_quiet (fail)
          go_wp2_with fail
          (with_reducible refine (specMax b ((r : Int) + 1) m HN.out _).mono ?_)
          rintro e w2 ⟨rfl, rfl⟩
          go_wp2_with fail
          go_roundw
          case rel => exact ⟨j + 1 + 1, m, r + 1, _, by go_num, rfl, by go_num, by omega, best_next zs (j + 1) HE.out (by rw [ends_same HX.out HY.out, HRR.out]) HM.out, by omega, fun i h => by
                        obtain rfl : i = j + 1 := by omega
                        rw [ends_same HX.out HY.out, HRR.out], rfl⟩
          case measure => simp [intOf]; omega
        · have hne : (x == y) = false := by simpa using hxy
          obtain ⟨m, hm⟩ := max_ex b 1
          have HM := Lib.hid hm
          have HN := Lib.hid (show (m : Int) = if (b : Int) < 1 then 1 else (b : Int) by rw [hm]; rfl)
          clear hm
          go_wp2
          go_quiet (fail)
          go_wp2_with fail
          (with_reducible refine (specMax b 1 m HN.out _).mono ?_)
          rintro e w2 ⟨rfl, rfl⟩
          go_wp2_with fail
          go_roundw
          case rel => exact ⟨j + 1 + 1, m, 1, _, by go_num, rfl, rfl, by omega, best_next zs (j + 1) HE.out (by rw [ends_new HX.out HY.out hxy]) HM.out, by omega, fun i h => by
                        obtain rfl : i = j + 1 := by omega
                        rw [ends_new HX.out HY.out hxy], rfl⟩
          case measure => simp [intOf]; omega
    · have hlt2 : ¬ (k : Int) < n := by omega
      obtain rfl : k = n := by omega
      clear hts
      go_wp2
      go_ret
      exact ⟨ret_num2 (by rw [HE.out, lr, HR.out.len]), below_drews w q⟩
end Go.Proofs.Ytnpkobchbdmppaa.runs
