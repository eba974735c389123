/- The scrambler as numbers, no program: its states, its bits, and that every state recurs after all states were passed. Condition: none. -/
import Derived.Test.YtdelpepepbkjmaaBitm
namespace Go.Proofs.Ytdelpepepbkjmaa.scrm
open Go.RowKit sl bm

def outp (s : Int) : Int := (s / 8 + s / 64) % 2
theorem outp_in (s : Int) : 0 ≤ outp s ∧ outp s ≤ 1 := by unfold outp; omega
def nx (s : Int) : Int := if 1 ≤ s ∧ s ≤ 127 then 2 * s % 128 + outp s else 0
theorem nx_yes {s : Int} (h : 1 ≤ s ∧ s ≤ 127) : nx s = 2 * s % 128 + outp s := if_pos h
theorem nx_no {s : Int} (h : ¬ (1 ≤ s ∧ s ≤ 127)) : nx s = 0 := if_neg h
theorem nx_in {s : Int} (h : 1 ≤ s ∧ s ≤ 127) : 1 ≤ nx s ∧ nx s ≤ 127 := by
  rw [nx_yes h]; unfold outp; omega
/-- The state k steps on. -/
def nth : Nat → Int → Int
  | 0, s => s
  | k + 1, s => nth k (nx s)
theorem nth_succ : ∀ (k : Nat) (s : Int), nth (k + 1) s = nx (nth k s)
  | 0, _ => rfl
  | k + 1, s => by rw [nth, nth_succ k, nth]
theorem nth_in : ∀ (k : Nat) {s : Int}, (1 ≤ s ∧ s ≤ 127) → 1 ≤ nth k s ∧ nth k s ≤ 127
  | 0, _, h => h
  | k + 1, _, h => nth_in k (nx_in h)
/-- The state k steps on, or 0. -/
def aft (s c : Int) : Int := if (1 ≤ s ∧ s ≤ 127) ∧ (0 ≤ c ∧ c ≤ 1000) then nth c.toNat s else 0
theorem aft_yes {s c : Int} (h : 1 ≤ s ∧ s ≤ 127) (hc : 0 ≤ c ∧ c ≤ 1000) : aft s c = nth c.toNat s := if_pos ⟨h, hc⟩
theorem aft_no {s c : Int} (h : ¬ ((1 ≤ s ∧ s ≤ 127) ∧ (0 ≤ c ∧ c ≤ 1000))) : aft s c = 0 := if_neg h
theorem aft_in (s c : Int) : 0 ≤ aft s c ∧ aft s c ≤ 127 := by
  unfold aft; split
  · rename_i h; have := nth_in c.toNat h.1; omega
  · omega

/-- The bits combined with the output bits. -/
def mixed : Int → List Int → List Int
  | _, [] => []
  | s, x :: l => bits .xor .i64 x (outp s) :: mixed (nx s) l
theorem mixed_len : ∀ (l : List Int) (s : Int), (mixed s l).length = l.length
  | [], _ => rfl
  | _ :: l, s => by rw [mixed, List.length_cons, List.length_cons, mixed_len l]
theorem mixed_at : ∀ (l : List Int) (s : Int) (k : Nat), k < l.length → (mixed s l).getD k 0 = bits .xor .i64 (l.getD k 0) (outp (nth k s))
  | _ :: _, _, 0, _ => by rw [mixed, List.getD_cons_zero, List.getD_cons_zero, nth]
  | _ :: l, s, k + 1, h => by rw [mixed, List.getD_cons_succ, List.getD_cons_succ, mixed_at l _ k (by simpa using h), nth]
  | [], _, _, h => absurd h (by simp)
theorem xor_bit {x y : Int} (hx : 0 ≤ x ∧ x ≤ 1) (hy : 0 ≤ y ∧ y ≤ 1) : bits .xor .i64 x y = if x = y then 0 else 1 := by
  have h1 : x = 0 ∨ x = 1 := by omega
  have h2 : y = 0 ∨ y = 1 := by omega
  rcases h1 with rfl | rfl <;> rcases h2 with rfl | rfl <;> decide
theorem xor_xor_bit {x y : Int} (hx : 0 ≤ x ∧ x ≤ 1) (hy : 0 ≤ y ∧ y ≤ 1) : bits .xor .i64 (bits .xor .i64 x y) y = x := by
  have h1 : x = 0 ∨ x = 1 := by omega
  have h2 : y = 0 ∨ y = 1 := by omega
  rcases h1 with rfl | rfl <;> rcases h2 with rfl | rfl <;> decide
theorem mixed_bit : ∀ (l : List Int) (s : Int), (∀ z ∈ l, 0 ≤ z ∧ z ≤ 1) → ∀ z ∈ mixed s l, 0 ≤ z ∧ z ≤ 1
  | [], _, _, z, hz => by cases hz
  | x :: l, s, h, z, hz => by
    rcases List.mem_cons.1 hz with hz | hz
    · rw [hz, xor_bit (h x (List.mem_cons_self ..)) (outp_in s)]; split <;> omega
    · exact mixed_bit l _ (fun z hz => h z (List.mem_cons_of_mem _ hz)) z hz
theorem mixed_mixed : ∀ (l : List Int) (s : Int), (∀ z ∈ l, 0 ≤ z ∧ z ≤ 1) → mixed s (mixed s l) = l
  | [], _, _ => rfl
  | x :: l, s, h => by
    rw [mixed, mixed, mixed_mixed l _ fun z hz => h z (List.mem_cons_of_mem _ hz), xor_xor_bit (h x (List.mem_cons_self ..)) (outp_in s)]
/-- Scramble. -/
def scr (s : Int) (l : List Int) : List Int := if (1 ≤ s ∧ s ≤ 127) ∧ isb l = true then mixed s l else l
theorem scr_yes {s : Int} {l : List Int} (h : 1 ≤ s ∧ s ≤ 127) (hb : isb l = true) : scr s l = mixed s l := if_pos ⟨h, hb⟩
theorem scr_no {s : Int} {l : List Int} (h : ¬ ((1 ≤ s ∧ s ≤ 127) ∧ isb l = true)) : scr s l = l := if_neg h
theorem scr_len (s : Int) (l : List Int) : (scr s l).length = l.length := by
  unfold scr; split
  · exact mixed_len l s
  · rfl
theorem scr_scr (s : Int) (l : List Int) : scr s (scr s l) = l := by
  by_cases h : (1 ≤ s ∧ s ≤ 127) ∧ isb l = true
  · rw [scr_yes h.1 h.2, scr_yes h.1 ((isb_iff _).2 (mixed_bit l s (isb_all h.2))), mixed_mixed l s (isb_all h.2)]
  · rw [scr_no h, scr_no h]
/-- What has been combined so far. -/
def half (a b : List Int) (k : Nat) : List Int := a.take k ++ b.drop k
theorem half_zero (a b : List Int) : half a b 0 = b := by simp [half]
theorem half_all {a b : List Int} {n : Nat} (h : a.length = n) (h2 : b.length = n) : half a b n = a := by
  unfold half
  rw [List.take_of_length_le (by omega), List.drop_of_length_le (by omega), List.append_nil]
theorem half_len {a b : List Int} (h : a.length = b.length) (k : Nat) : (half a b k).length = b.length := by
  simp only [half, List.length_append, List.length_take, List.length_drop]; omega
theorem half_at {a b : List Int} {k : Nat} (h : k ≤ a.length) : (half a b k).getD k 0 = b.getD k 0 := by
  unfold half
  rw [List.getD_eq_getElem?_getD, List.getElem?_append_right (by simp; omega), List.getElem?_drop, List.length_take, Nat.min_eq_left h, List.getD_eq_getElem?_getD]
  congr 2; omega
theorem half_set {a b : List Int} {k : Nat} (h : a.length = b.length) (hk : k < a.length) : (half a b k).set k (a.getD k 0) = half a b (k + 1) := by
  unfold half
  rw [List.set_append_right _ _ (by simp; omega), List.length_take, Nat.min_eq_left (by omega), Nat.sub_self, List.drop_eq_getElem_cons (show k < b.length by omega), List.set_cons_zero, List.take_add_one,
    List.getElem?_eq_getElem hk, List.getD_eq_getElem?_getD, List.getElem?_eq_getElem hk]
  simp only [Option.toList_some, Option.getD_some, List.append_assoc, List.singleton_append]

/-- The cycle of the states, as natural numbers. -/
def nxN (s : Nat) : Nat := 2 * s % 128 + (s / 8 + s / 64) % 2
theorem nx_nat {s : Nat} (h : 1 ≤ s ∧ s ≤ 127) : nx s = (nxN s : Nat) := by
  rw [nx_yes (by omega)]; unfold outp nxN; omega
def cyc : Nat → Nat → Nat → Bool
  | 0, t, s => t == s
  | k + 1, t, s => (k == 0 || !(nxN t == s)) && cyc k (nxN t) s
theorem cyc_all : ∀ s, s < 127 → cyc 127 (s + 1) (s + 1) = true := by decide +kernel
theorem cyc_nth : ∀ (k t s : Nat), (1 ≤ t ∧ t ≤ 127) → cyc k t s = true → nth k t = s ∧ ∀ j, 0 < j → j < k → ¬ nth j t = s
  | 0, t, s, _, h => ⟨by have : t = s := by simpa [cyc] using h
                         rw [this]; rfl, fun j h1 h2 => absurd h2 (by omega)⟩
  | k + 1, t, s, ht, h => by
    simp only [cyc, Bool.and_eq_true] at h
    have hn := nx_nat ht
    have hin := nx_in (s := t) (by omega)
    have ih := cyc_nth k (nxN t) s (by omega) h.2
    refine ⟨by rw [nth, hn]; exact ih.1, fun j h1 h2 => ?_⟩
    cases j with
    | zero => omega
    | succ j =>
      rw [nth, hn]
      cases j with
      | zero =>
        have h3 := h.1
        rw [nth]
        simp at h3
        rcases h3 with h3 | h3
        · omega
        · exact_mod_cast h3
      | succ j => exact ih.2 (j + 1) (by omega) (by omega)
theorem recur {s : Int} (h : 1 ≤ s ∧ s ≤ 127) : nth 127 s = s := by
  obtain ⟨m, rfl⟩ := Int.eq_ofNat_of_zero_le (show 0 ≤ s by omega)
  obtain ⟨n, rfl⟩ : ∃ n, m = n + 1 := ⟨m - 1, by omega⟩
  exact (cyc_nth 127 (n + 1) (n + 1) (by omega) (cyc_all n (by omega))).1
theorem not_before {s : Int} (h : 1 ≤ s ∧ s ≤ 127) {k : Nat} (h0 : 0 < k) (hk : k < 127) : ¬ nth k s = s := by
  obtain ⟨m, rfl⟩ := Int.eq_ofNat_of_zero_le (show 0 ≤ s by omega)
  obtain ⟨n, rfl⟩ : ∃ n, m = n + 1 := ⟨m - 1, by omega⟩
  exact (cyc_nth 127 (n + 1) (n + 1) (by omega) (cyc_all n (by omega))).2 k h0 hk
end Go.Proofs.Ytdelpepepbkjmaa.scrm
