/- Merged texts of this seat. Scrm: The scrambler as numbers, no program: its states, its bits, and that every state recurs after all states were passed. Condition: none. | Vitm: The best path through the trellis: its cost, the path, that no other is nearer; two code words differ in at least five symbols. Condition: none (no program). | Vitp: The decoded bits: the best path's bits, whose distance is the least; up to two inverted symbols are corrected. Condition: none (no program). | Phm: Physical frames as lists of numbers: the header and its three copies, the coded payload, what is received. Condition: none (no program). | Scr1: The scrambler's states, program and specification: outputBit, l5Out, NextScramblerState, ScramblerStateAfter. Condition: none. | Ph1: Headers as values: IsValidHeader, the numbers of symbols, EqualHeaders, and the harness's copy and comparison, program and specification. Condition: none. | Ph2: slices.Repeat of eighteen elements three times, walked in the library's own text; EncodeHeader, program and specification. Condition: none. -/
import Derived.Laws.RangeString
import Derived.Laws.RangeAny
import Derived.Laws.CopyOwn
import Derived.Deep.RegionHeld3
import Derived.Deep.RegionLaw
import Derived.Test.YtdelpepepbkjmaaGreatDoorG1
import Derived.Test.YtdelpepepbkjmaaGreatDoorG2
section
namespace Go.Proofs.YtdelpepepbkjmaaGreatDoor.scrm
open Go.RowKit sl bm

def outp (s : Int) : Int := (s / 8 + s / 64) % 2
theorem outp_in (s : Int) : 0 ≤ outp s ∧ outp s ≤ 1 := by unfold outp; omega
def nx (s : Int) : Int := if 1 ≤ s ∧ s ≤ 127 then 2 * s % 128 + outp s else 0
theorem nx_yes {s : Int} (h : 1 ≤ s ∧ s ≤ 127) : nx s = 2 * s % 128 + outp s := if_pos h
theorem nx_no {s : Int} (h : ¬ (1 ≤ s ∧ s ≤ 127)) : nx s = 0 := if_neg h
theorem nx_in {s : Int} (h : 1 ≤ s ∧ s ≤ 127) : 1 ≤ nx s ∧ nx s ≤ 127 := by
  rw [nx_yes h]; unfold outp; omega
/-- The state k steps on. -/
def nth : Nat → Int → Int
  | 0, s => s
  | k + 1, s => nth k (nx s)
theorem nth_succ : ∀ (k : Nat) (s : Int), nth (k + 1) s = nx (nth k s)
  | 0, _ => rfl
  | k + 1, s => by rw [nth, nth_succ k, nth]
theorem nth_in : ∀ (k : Nat) {s : Int}, (1 ≤ s ∧ s ≤ 127) → 1 ≤ nth k s ∧ nth k s ≤ 127
  | 0, _, h => h
  | k + 1, _, h => nth_in k (nx_in h)
/-- The state k steps on, or 0. -/
def aft (s c : Int) : Int := if (1 ≤ s ∧ s ≤ 127) ∧ (0 ≤ c ∧ c ≤ 1000) then nth c.toNat s else 0
theorem aft_yes {s c : Int} (h : 1 ≤ s ∧ s ≤ 127) (hc : 0 ≤ c ∧ c ≤ 1000) : aft s c = nth c.toNat s := if_pos ⟨h, hc⟩
theorem aft_no {s c : Int} (h : ¬ ((1 ≤ s ∧ s ≤ 127) ∧ (0 ≤ c ∧ c ≤ 1000))) : aft s c = 0 := if_neg h
theorem aft_in (s c : Int) : 0 ≤ aft s c ∧ aft s c ≤ 127 := by
  unfold aft; split
  · rename_i h; have := nth_in c.toNat h.1; omega
  · omega

/-- The bits combined with the output bits. -/
def mixed : Int → List Int → List Int
  | _, [] => []
  | s, x :: l => bits .xor .i64 x (outp s) :: mixed (nx s) l
theorem mixed_len : ∀ (l : List Int) (s : Int), (mixed s l).length = l.length
  | [], _ => rfl
  | _ :: l, s => by rw [mixed, List.length_cons, List.length_cons, mixed_len l]
theorem mixed_at : ∀ (l : List Int) (s : Int) (k : Nat), k < l.length → (mixed s l).getD k 0 = bits .xor .i64 (l.getD k 0) (outp (nth k s))
  | _ :: _, _, 0, _ => by rw [mixed, List.getD_cons_zero, List.getD_cons_zero, nth]
  | _ :: l, s, k + 1, h => by rw [mixed, List.getD_cons_succ, List.getD_cons_succ, mixed_at l _ k (by simpa using h), nth]
  | [], _, _, h => absurd h (by simp)
theorem xor_bit {x y : Int} (hx : 0 ≤ x ∧ x ≤ 1) (hy : 0 ≤ y ∧ y ≤ 1) : bits .xor .i64 x y = if x = y then 0 else 1 := by
  have h1 : x = 0 ∨ x = 1 := by omega
  have h2 : y = 0 ∨ y = 1 := by omega
  rcases h1 with rfl | rfl <;> rcases h2 with rfl | rfl <;> decide
theorem xor_xor_bit {x y : Int} (hx : 0 ≤ x ∧ x ≤ 1) (hy : 0 ≤ y ∧ y ≤ 1) : bits .xor .i64 (bits .xor .i64 x y) y = x := by
  have h1 : x = 0 ∨ x = 1 := by omega
  have h2 : y = 0 ∨ y = 1 := by omega
  rcases h1 with rfl | rfl <;> rcases h2 with rfl | rfl <;> decide
theorem mixed_bit : ∀ (l : List Int) (s : Int), (∀ z ∈ l, 0 ≤ z ∧ z ≤ 1) → ∀ z ∈ mixed s l, 0 ≤ z ∧ z ≤ 1
  | [], _, _, z, hz => by cases hz
  | x :: l, s, h, z, hz => by
    rcases List.mem_cons.1 hz with hz | hz
    · rw [hz, xor_bit (h x (List.mem_cons_self ..)) (outp_in s)]; split <;> omega
    · exact mixed_bit l _ (fun z hz => h z (List.mem_cons_of_mem _ hz)) z hz
theorem mixed_mixed : ∀ (l : List Int) (s : Int), (∀ z ∈ l, 0 ≤ z ∧ z ≤ 1) → mixed s (mixed s l) = l
  | [], _, _ => rfl
  | x :: l, s, h => by
    rw [mixed, mixed, mixed_mixed l _ fun z hz => h z (List.mem_cons_of_mem _ hz), xor_xor_bit (h x (List.mem_cons_self ..)) (outp_in s)]
/-- Scramble. -/
def scr (s : Int) (l : List Int) : List Int := if (1 ≤ s ∧ s ≤ 127) ∧ isb l = true then mixed s l else l
theorem scr_yes {s : Int} {l : List Int} (h : 1 ≤ s ∧ s ≤ 127) (hb : isb l = true) : scr s l = mixed s l := if_pos ⟨h, hb⟩
theorem scr_no {s : Int} {l : List Int} (h : ¬ ((1 ≤ s ∧ s ≤ 127) ∧ isb l = true)) : scr s l = l := if_neg h
theorem scr_len (s : Int) (l : List Int) : (scr s l).length = l.length := by
  unfold scr; split
  · exact mixed_len l s
  · rfl
theorem scr_scr (s : Int) (l : List Int) : scr s (scr s l) = l := by
  by_cases h : (1 ≤ s ∧ s ≤ 127) ∧ isb l = true
  · rw [scr_yes h.1 h.2, scr_yes h.1 ((isb_iff _).2 (mixed_bit l s (isb_all h.2))), mixed_mixed l s (isb_all h.2)]
  · rw [scr_no h, scr_no h]
/-- What has been combined so far. -/
def half (a b : List Int) (k : Nat) : List Int := a.take k ++ b.drop k
theorem half_zero (a b : List Int) : half a b 0 = b := by simp [half]
theorem half_all {a b : List Int} {n : Nat} (h : a.length = n) (h2 : b.length = n) : half a b n = a := by
  unfold half
  rw [List.take_of_length_le (by omega), List.drop_of_length_le (by omega), List.append_nil]
theorem half_len {a b : List Int} (h : a.length = b.length) (k : Nat) : (half a b k).length = b.length := by
  simp only [half, List.length_append, List.length_take, List.length_drop]; omega
theorem half_at {a b : List Int} {k : Nat} (h : k ≤ a.length) : (half a b k).getD k 0 = b.getD k 0 := by
  unfold half
  rw [List.getD_eq_getElem?_getD, List.getElem?_append_right (by simp; omega), List.getElem?_drop, List.length_take, Nat.min_eq_left h, List.getD_eq_getElem?_getD]
  congr 2; omega
theorem half_set {a b : List Int} {k : Nat} (h : a.length = b.length) (hk : k < a.length) : (half a b k).set k (a.getD k 0) = half a b (k + 1) := by
  unfold half
  rw [List.set_append_right _ _ (by simp; omega), List.length_take, Nat.min_eq_left (by omega), Nat.sub_self, List.drop_eq_getElem_cons (show k < b.length by omega), List.set_cons_zero, List.take_add_one,
    List.getElem?_eq_getElem hk, List.getD_eq_getElem?_getD, List.getElem?_eq_getElem hk]
  simp only [Option.toList_some, Option.getD_some, List.append_assoc, List.singleton_append]

/-- The cycle of the states, as natural numbers. -/
def nxN (s : Nat) : Nat := 2 * s % 128 + (s / 8 + s / 64) % 2
theorem nx_nat {s : Nat} (h : 1 ≤ s ∧ s ≤ 127) : nx s = (nxN s : Nat) := by
  rw [nx_yes (by omega)]; unfold outp nxN; omega
def cyc : Nat → Nat → Nat → Bool
  | 0, t, s => t == s
  | k + 1, t, s => (k == 0 || !(nxN t == s)) && cyc k (nxN t) s
theorem cyc_all : ∀ s, s < 127 → cyc 127 (s + 1) (s + 1) = true := by decide +kernel
theorem cyc_nth : ∀ (k t s : Nat), (1 ≤ t ∧ t ≤ 127) → cyc k t s = true → nth k t = s ∧ ∀ j, 0 < j → j < k → ¬ nth j t = s
  | 0, t, s, _, h => ⟨by have : t = s := by simpa [cyc] using h
                         rw [this]; rfl, fun j h1 h2 => absurd h2 (by omega)⟩
  | k + 1, t, s, ht, h => by
    simp only [cyc, Bool.and_eq_true] at h
    have hn := nx_nat ht
    have hin := nx_in (s := t) (by omega)
    have ih := cyc_nth k (nxN t) s (by omega) h.2
    refine ⟨by rw [nth, hn]; exact ih.1, fun j h1 h2 => ?_⟩
    cases j with
    | zero => omega
    | succ j =>
      rw [nth, hn]
      cases j with
      | zero =>
        have h3 := h.1
        rw [nth]
        simp at h3
        rcases h3 with h3 | h3
        · omega
        · exact_mod_cast h3
      | succ j => exact ih.2 (j + 1) (by omega) (by omega)
theorem recur {s : Int} (h : 1 ≤ s ∧ s ≤ 127) : nth 127 s = s := by
  obtain ⟨m, rfl⟩ := Int.eq_ofNat_of_zero_le (show 0 ≤ s by omega)
  obtain ⟨n, rfl⟩ : ∃ n, m = n + 1 := ⟨m - 1, by omega⟩
  exact (cyc_nth 127 (n + 1) (n + 1) (by omega) (cyc_all n (by omega))).1
theorem not_before {s : Int} (h : 1 ≤ s ∧ s ≤ 127) {k : Nat} (h0 : 0 < k) (hk : k < 127) : ¬ nth k s = s := by
  obtain ⟨m, rfl⟩ := Int.eq_ofNat_of_zero_le (show 0 ≤ s by omega)
  obtain ⟨n, rfl⟩ : ∃ n, m = n + 1 := ⟨m - 1, by omega⟩
  exact (cyc_nth 127 (n + 1) (n + 1) (by omega) (cyc_all n (by omega))).2 k h0 hk
end Go.Proofs.YtdelpepepbkjmaaGreatDoor.scrm
end

section
namespace Go.Proofs.YtdelpepepbkjmaaGreatDoor.vit
open Go.RowKit sl bm cvm
set_option linter.unusedVariables false

/-- A symbol against a bit. -/
def sd (b x : Int) : Int := if x = b ∨ x = 2 then 0 else 1
theorem sd_in (b x : Int) : 0 ≤ sd b x ∧ sd b x ≤ 1 := by unfold sd; split <;> omega
/-- A pair of symbols against a step. -/
def bd (s b x y : Int) : Int := sd (outp s b).1 x + sd (outp s b).2 y
theorem bd_in (s b x y : Int) : 0 ≤ bd s b x y ∧ bd s b x y ≤ 2 := by
  have h1 := sd_in (outp s b).1 x
  have h2 := sd_in (outp s b).2 y
  unfold bd; omega
/-- Symbols against bits. -/
def hd : List Int → List Int → Int
  | b :: r, x :: q => sd b x + hd r q
  | _, _ => 0
theorem hd_in : ∀ (a b : List Int), 0 ≤ hd a b ∧ hd a b ≤ a.length
  | [], _ => by simp [hd]
  | _ :: _, [] => by simp [hd]; omega
  | x :: a, y :: b => by
    have h1 := sd_in x y
    have h2 := hd_in a b
    simp only [hd, List.length_cons]; omega
theorem hd_append : ∀ (a b c d : List Int), a.length = c.length → hd (a ++ b) (c ++ d) = hd a c + hd b d
  | [], b, [], d, _ => by simp [hd]
  | [], _, _ :: _, _, h => by simp at h
  | _ :: _, _, [], _, h => by simp at h
  | x :: a, b, y :: c, d, h => by
    have ih := hd_append a b c d (by simpa using h)
    simp only [List.cons_append, hd, ih]; omega
theorem hd_take {a b : List Int} {k : Nat} (ha : k < a.length) (hb : k < b.length) : hd (a.take (k + 1)) (b.take (k + 1)) = hd (a.take k) (b.take k) + sd (a.getD k 0) (b.getD k 0) := by
  rw [take_one ha, take_one hb, hd_append _ _ _ _ (by simp; omega)]
  simp [hd]
/-- The better of two costs (a negative one: none); of equal ones the first. -/
def comb (a b : Int) : Int := if 0 ≤ b ∧ (a < 0 ∨ b < a) then b else a
def plus (c d : Int) : Int := if c < 0 then -1 else c + d
def via (c : Int → Int) (x y t s : Int) : Int := plus (c s) (bd s (t % 2) x y)
/-- The cost of a state behind a step, by the states below m. -/
def part (c : Int → Int) (x y m t : Int) : Int := comb (if t / 2 < m then via c x y t (t / 2) else -1) (if t / 2 + 2 < m then via c x y t (t / 2 + 2) else -1)
/-- The state ahead of it. -/
def from_ (c : Int → Int) (x y m t : Int) : Int := if 0 ≤ (if t / 2 + 2 < m then via c x y t (t / 2 + 2) else -1) ∧ ((if t / 2 < m then via c x y t (t / 2) else -1) < 0 ∨ (if t / 2 + 2 < m then via c x y t (t / 2 + 2) else -1) < (if t / 2 < m then via c x y t (t / 2) else -1)) then t / 2 + 2 else t / 2
def cost (zs : List Int) : Nat → Int → Int
  | 0, s => if s = 0 then 0 else -1
  | k + 1, t => part (cost zs k) (zs.getD (2 * k) 0) (zs.getD (2 * k + 1) 0) 4 t
def pre (zs : List Int) (k : Nat) (t : Int) : Int := from_ (cost zs k) (zs.getD (2 * k) 0) (zs.getD (2 * k + 1) 0) 4 t

theorem via_in {c : Int → Int} {x y t s : Int} {u : Int} (h : -1 ≤ c s ∧ c s ≤ u) : -1 ≤ via c x y t s ∧ via c x y t s ≤ u + 2 := by
  have := bd_in s (t % 2) x y
  unfold via plus; split <;> omega
theorem part_in {c : Int → Int} {x y m t : Int} {u : Int} (h : ∀ s, -1 ≤ c s ∧ c s ≤ u) : -1 ≤ part c x y m t ∧ part c x y m t ≤ u + 2 := by
  have h1 := via_in (x := x) (y := y) (t := t) (h (t / 2))
  have h2 := via_in (x := x) (y := y) (t := t) (h (t / 2 + 2))
  have h3 := h 0
  unfold part comb; split <;> split <;> (try split) <;> omega
theorem cost_in (zs : List Int) : ∀ (k : Nat) (t : Int), -1 ≤ cost zs k t ∧ cost zs k t ≤ 2 * k
  | 0, t => by unfold cost; split <;> omega
  | k + 1, t => by
    have := part_in (x := zs.getD (2 * k) 0) (y := zs.getD (2 * k + 1) 0) (m := 4) (t := t) (cost_in zs k)
    unfold cost; omega
theorem part_zero (c : Int → Int) (x y t : Int) (h : 0 ≤ t) : part c x y 0 t = -1 := by
  unfold part; rw [if_neg (by omega), if_neg (by omega)]; rfl
theorem part_wide (c : Int → Int) (x y t : Int) (h : 0 ≤ t ∧ t ≤ 3) : part c x y 4 t = comb (via c x y t (t / 2)) (via c x y t (t / 2 + 2)) := by
  unfold part; rw [if_pos (by omega), if_pos (by omega)]
theorem from_wide (c : Int → Int) (x y t : Int) (h : 0 ≤ t ∧ t ≤ 3) : from_ c x y 4 t = if 0 ≤ via c x y t (t / 2 + 2) ∧ (via c x y t (t / 2) < 0 ∨ via c x y t (t / 2 + 2) < via c x y t (t / 2)) then t / 2 + 2 else t / 2 := by
  unfold from_; rw [if_pos (show t / 2 < 4 by omega), if_pos (show t / 2 + 2 < 4 by omega)]
/-- A state that does not lead to t changes nothing. -/
theorem part_other (c : Int → Int) (x y : Int) {m t : Int} (h : 0 ≤ t ∧ t ≤ 3) (h1 : ¬ t / 2 = m) (h2 : ¬ t / 2 + 2 = m) : part c x y (m + 1) t = part c x y m t := by
  unfold part
  simp only [show (t / 2 < m + 1) = (t / 2 < m) from propext (by omega), show (t / 2 + 2 < m + 1) = (t / 2 + 2 < m) from propext (by omega)]
theorem from_other (c : Int → Int) (x y : Int) {m t : Int} (h : 0 ≤ t ∧ t ≤ 3) (h1 : ¬ t / 2 = m) (h2 : ¬ t / 2 + 2 = m) : from_ c x y (m + 1) t = from_ c x y m t := by
  unfold from_
  simp only [show (t / 2 < m + 1) = (t / 2 < m) from propext (by omega), show (t / 2 + 2 < m + 1) = (t / 2 + 2 < m) from propext (by omega)]
/-- What the state m does to the cost of its successor t. -/
theorem part_step (c : Int → Int) (x y : Int) {m t d : Int} (h : 0 ≤ t ∧ t ≤ 3) (hm : t / 2 = m ∨ t / 2 + 2 = m) (hd : via c x y t m = d) :
    part c x y (m + 1) t = (if 0 ≤ d ∧ (part c x y m t < 0 ∨ d < part c x y m t) then d else part c x y m t) ∨ part c x y m t = -1 ∧ d < 0 ∧ part c x y (m + 1) t = d := by
  subst hd
  rcases hm with rfl | rfl
  · have e1 : part c x y (t / 2) t = -1 := by unfold part; rw [if_neg (by omega), if_neg (by omega)]; rfl
    have e2 : part c x y (t / 2 + 1) t = via c x y t (t / 2) := by
      unfold part; rw [if_pos (by omega), if_neg (by omega)]; unfold comb; rw [if_neg (by omega)]
    rw [e1, e2]
    by_cases h0 : 0 ≤ via c x y t (t / 2)
    · left; rw [if_pos ⟨h0, Or.inl (by omega)⟩]
    · right; exact ⟨rfl, by omega, rfl⟩
  · have e1 : part c x y (t / 2 + 2) t = via c x y t (t / 2) := by
      unfold part; rw [if_pos (by omega), if_neg (by omega)]; unfold comb; rw [if_neg (by omega)]
    have e2 : part c x y (t / 2 + 2 + 1) t = comb (via c x y t (t / 2)) (via c x y t (t / 2 + 2)) := by
      unfold part; rw [if_pos (by omega), if_pos (by omega)]
    left
    rw [e1, e2]; rfl
theorem via_neg {c : Int → Int} {x y t s : Int} (h : c s < 0) : via c x y t s = -1 := by unfold via plus; rw [if_pos h]
theorem via_pos {c : Int → Int} {x y t s : Int} (h : 0 ≤ c s) : via c x y t s = c s + bd s (t % 2) x y := by unfold via plus; rw [if_neg (by omega)]
/-- .. a state that is not reached: nothing. -/
theorem part_none (c : Int → Int) (x y : Int) {m t : Int} (h : 0 ≤ t ∧ t ≤ 3) (hc : c m < 0) : part c x y (m + 1) t = part c x y m t := by
  by_cases h1 : t / 2 = m
  · subst h1
    unfold part; rw [if_pos (by omega), if_neg (by omega), if_neg (by omega), if_neg (by omega), via_neg hc]
  · by_cases h2 : t / 2 + 2 = m
    · subst h2
      unfold part; rw [if_pos (by omega), if_pos (by omega), if_pos (by omega), if_neg (by omega), via_neg hc]
    · exact part_other c x y h h1 h2
theorem from_none (c : Int → Int) (x y : Int) {m t : Int} (h : 0 ≤ t ∧ t ≤ 3) (hc : c m < 0) : from_ c x y (m + 1) t = from_ c x y m t := by
  by_cases h1 : t / 2 = m
  · subst h1
    unfold from_
    rw [if_pos (show t / 2 < t / 2 + 1 by omega), if_neg (show ¬ t / 2 + 2 < t / 2 + 1 by omega), if_neg (show ¬ t / 2 < t / 2 by omega), if_neg (show ¬ t / 2 + 2 < t / 2 by omega), via_neg hc]
  · by_cases h2 : t / 2 + 2 = m
    · subst h2
      unfold from_
      rw [if_pos (show t / 2 < t / 2 + 2 + 1 by omega), if_pos (show t / 2 + 2 < t / 2 + 2 + 1 by omega), if_pos (show t / 2 < t / 2 + 2 by omega), if_neg (show ¬ t / 2 + 2 < t / 2 + 2 by omega), via_neg hc]
    · exact from_other c x y h h1 h2
/-- .. one that is reached, by a better way. -/
theorem part_better (c : Int → Int) (x y : Int) {m t b d : Int} (ht : t = nst m b) (hs : Sb m b) (hc : 0 ≤ c m) (hd : c m + bd m b x y = d) (hl : part c x y m t < 0 ∨ d < part c x y m t) :
    part c x y (m + 1) t = d ∧ from_ c x y (m + 1) t = m := by
  obtain ⟨⟨hm0, hm3⟩, hb0, hb1⟩ := hs
  have hb : t % 2 = b := by subst ht; unfold nst; omega
  have h2 : t / 2 = m ∨ t / 2 + 2 = m := by subst ht; unfold nst; omega
  have hv : via c x y t m = d := by rw [via_pos hc, hb]; exact hd
  have hdp := bd_in m b x y
  clear ht
  rcases h2 with rfl | rfl
  · constructor
    · unfold part; rw [if_pos (by omega), if_neg (by omega)]; unfold comb; rw [if_neg (by omega)]; exact hv
    · unfold from_; rw [if_pos (show t / 2 < t / 2 + 1 by omega), if_neg (show ¬ t / 2 + 2 < t / 2 + 1 by omega), if_neg (by omega)]
  · have e1 : part c x y (t / 2 + 2) t = via c x y t (t / 2) := by
      unfold part; rw [if_pos (by omega), if_neg (by omega)]; unfold comb; rw [if_neg (by omega)]
    rw [e1] at hl
    constructor
    · unfold part; rw [if_pos (by omega), if_pos (by omega)]; unfold comb; rw [hv, if_pos ⟨by omega, hl⟩]
    · unfold from_; rw [if_pos (show t / 2 < t / 2 + 2 + 1 by omega), if_pos (show t / 2 + 2 < t / 2 + 2 + 1 by omega), hv, if_pos ⟨by omega, hl⟩]
/-- .. one that is reached, by no better way. -/
theorem part_worse (c : Int → Int) (x y : Int) {m t b d : Int} (ht : t = nst m b) (hs : Sb m b) (hc : 0 ≤ c m) (hd : c m + bd m b x y = d) (hl : ¬ (part c x y m t < 0 ∨ d < part c x y m t)) :
    part c x y (m + 1) t = part c x y m t ∧ from_ c x y (m + 1) t = from_ c x y m t := by
  obtain ⟨⟨hm0, hm3⟩, hb0, hb1⟩ := hs
  have hb : t % 2 = b := by subst ht; unfold nst; omega
  have h2 : t / 2 = m ∨ t / 2 + 2 = m := by subst ht; unfold nst; omega
  have hv : via c x y t m = d := by rw [via_pos hc, hb]; exact hd
  have hdp := bd_in m b x y
  clear ht
  rcases h2 with rfl | rfl
  · exfalso
    apply hl
    left
    unfold part; rw [if_neg (by omega), if_neg (by omega)]; decide
  · have e1 : part c x y (t / 2 + 2) t = via c x y t (t / 2) := by
      unfold part; rw [if_pos (by omega), if_neg (by omega)]; unfold comb; rw [if_neg (by omega)]
    have hl2 := hl
    rw [e1] at hl2
    constructor
    · rw [e1]; unfold part; rw [if_pos (by omega), if_pos (by omega)]; unfold comb; rw [hv, if_neg (fun g => hl2 g.2)]
    · unfold from_; rw [if_pos (show t / 2 < t / 2 + 2 + 1 by omega), if_pos (show t / 2 + 2 < t / 2 + 2 + 1 by omega), hv, if_neg (fun g => hl2 g.2), if_neg (show ¬ t / 2 + 2 < t / 2 + 2 by omega), if_neg (by omega)]
/-- The state ahead: one of two, reached, and the way through it has the cost. -/
theorem from_ok {c : Int → Int} {x y t : Int} (h : 0 ≤ t ∧ t ≤ 3) (hp : 0 ≤ part c x y 4 t) :
    0 ≤ c (from_ c x y 4 t) ∧ (0 ≤ from_ c x y 4 t ∧ from_ c x y 4 t ≤ 3) ∧ nst (from_ c x y 4 t) (t % 2) = t ∧ part c x y 4 t = c (from_ c x y 4 t) + bd (from_ c x y 4 t) (t % 2) x y := by
  rw [part_wide c x y t h] at hp ⊢
  rw [from_wide c x y t h]
  unfold comb at hp ⊢
  by_cases hq : 0 ≤ via c x y t (t / 2 + 2) ∧ (via c x y t (t / 2) < 0 ∨ via c x y t (t / 2 + 2) < via c x y t (t / 2))
  · rw [if_pos hq] at hp ⊢
    rw [if_pos hq]
    have h0 : 0 ≤ c (t / 2 + 2) := by
      rcases Int.lt_or_le (c (t / 2 + 2)) 0 with g | g
      · rw [via_neg g] at hp; omega
      · exact g
    exact ⟨h0, by omega, by unfold nst; omega, via_pos h0⟩
  · rw [if_neg hq] at hp ⊢
    rw [if_neg hq]
    have h0 : 0 ≤ c (t / 2) := by
      rcases Int.lt_or_le (c (t / 2)) 0 with g | g
      · rw [via_neg g] at hp; omega
      · exact g
    exact ⟨h0, by omega, by unfold nst; omega, via_pos h0⟩
/-- No way into t is better. -/
theorem part_least {c : Int → Int} {x y s b : Int} (hs : Sb s b) (h0 : 0 ≤ c s) : 0 ≤ part c x y 4 (nst s b) ∧ part c x y 4 (nst s b) ≤ c s + bd s b x y := by
  obtain ⟨⟨hs0, hs3⟩, hb0, hb1⟩ := hs
  rw [part_wide c x y _ (nst_in s b)]
  have hb : nst s b % 2 = b := by unfold nst; omega
  have h2 : nst s b / 2 = s ∨ nst s b / 2 + 2 = s := by unfold nst; omega
  have hd := bd_in s b x y
  have hv : via c x y (nst s b) s = c s + bd s b x y := by rw [via_pos h0, hb]
  unfold comb
  rcases h2 with h2 | h2
  · rw [h2, hv]; split <;> omega
  · rw [h2, hv]; split <;> omega
end Go.Proofs.YtdelpepepbkjmaaGreatDoor.vit
end

section
namespace Go.Proofs.YtdelpepepbkjmaaGreatDoor.vit
open Go.RowKit sl bm cvm
set_option linter.unusedVariables false

/-- The best path to a state. -/
def path (zs : List Int) : Nat → Int → List Int
  | 0, _ => []
  | k + 1, t => path zs k (pre zs k t) ++ [t % 2]
theorem path_len (zs : List Int) : ∀ (k : Nat) (t : Int), (path zs k t).length = k
  | 0, _ => rfl
  | k + 1, t => by simp [path, path_len zs k]
theorem take_two {zs : List Int} {k : Nat} (h : 2 * (k + 1) ≤ zs.length) : zs.take (2 * (k + 1)) = zs.take (2 * k) ++ [zs.getD (2 * k) 0, zs.getD (2 * k + 1) 0] := by
  rw [show 2 * (k + 1) = 2 * k + 1 + 1 by omega, take_one (by omega), take_one (by omega), List.append_assoc]; rfl
theorem hd_two (b1 b2 x y : Int) : hd [b1, b2] [x, y] = sd b1 x + sd b2 y := by simp [hd]
theorem hd_step {zs p : List Int} {k : Nat} {b : Int} (hz : 2 * (k + 1) ≤ zs.length) (hp : p.length = k) (hs : Sb (fin 0 p) b) :
    hd (cw 0 (p ++ [b])) (zs.take (2 * (k + 1))) = hd (cw 0 p) (zs.take (2 * k)) + bd (fin 0 p) b (zs.getD (2 * k) 0) (zs.getD (2 * k + 1) 0) := by
  rw [cw_append, take_two hz, hd_append _ _ _ _ (by rw [cw_len, List.length_take]; omega)]
  show _ + hd [op1 (fin 0 p) b, op2 (fin 0 p) b] _ = _
  rw [hd_two]
  unfold bd
  rw [outp_yes hs]
/-- A state that is reached, at a step. -/
def Live (zs : List Int) (k : Nat) (t : Int) : Prop := (0 ≤ t ∧ t ≤ 3) ∧ 0 ≤ cost zs k t
theorem Live.pre {zs : List Int} {k : Nat} {t : Int} (h : Live zs (k + 1) t) : Live zs k (vit.pre zs k t) ∧ nst (vit.pre zs k t) (t % 2) = t ∧ cost zs (k + 1) t = cost zs k (vit.pre zs k t) + bd (vit.pre zs k t) (t % 2) (zs.getD (2 * k) 0) (zs.getD (2 * k + 1) 0) := by
  obtain ⟨h1, h2⟩ := h
  obtain ⟨g1, g2, g3, g4⟩ := from_ok h1 (show 0 ≤ part (cost zs k) (zs.getD (2 * k) 0) (zs.getD (2 * k + 1) 0) 4 t from h2)
  exact ⟨⟨g2, g1⟩, g3, g4⟩
theorem Live.zero {zs : List Int} {t : Int} (h : Live zs 0 t) : t = 0 := by
  have h2 := h.2
  unfold cost at h2
  split at h2
  · assumption
  · omega
theorem path_ok (zs : List Int) : ∀ (k : Nat) (t : Int), 2 * k ≤ zs.length → Live zs k t → (∀ z ∈ path zs k t, 0 ≤ z ∧ z ≤ 1) ∧ fin 0 (path zs k t) = t ∧ hd (cw 0 (path zs k t)) (zs.take (2 * k)) = cost zs k t
  | 0, t, _, h => by
    have := h.zero
    subst this
    exact ⟨fun z hz => (by cases hz), rfl, by simp [path, cw, hd, cost]⟩
  | k + 1, t, hz, h => by
    obtain ⟨g1, g2, g3⟩ := h.pre
    obtain ⟨i1, i2, i3⟩ := path_ok zs k _ (by omega) g1
    have hs : Sb (pre zs k t) (t % 2) := ⟨g1.1, by omega⟩
    refine ⟨fun z hz => ?_, ?_, ?_⟩
    · rcases List.mem_append.1 (show z ∈ path zs k (pre zs k t) ++ [t % 2] from hz) with hz | hz
      · exact i1 z hz
      · have : z = t % 2 := by simpa using hz
        omega
    · show fin 0 (path zs k (pre zs k t) ++ [t % 2]) = t
      rw [fin_append, i2]; exact g2
    · show hd (cw 0 (path zs k (pre zs k t) ++ [t % 2])) _ = _
      rw [hd_step hz (path_len zs k _) (by rw [i2]; exact hs), i2, i3, g3]
theorem best (zs : List Int) : ∀ (k : Nat) (p : List Int), p.length = k → 2 * k ≤ zs.length → (∀ z ∈ p, 0 ≤ z ∧ z ≤ 1) → Live zs k (fin 0 p) ∧ cost zs k (fin 0 p) ≤ hd (cw 0 p) (zs.take (2 * k))
  | 0, p, hp, _, _ => by
    have := List.eq_nil_of_length_eq_zero hp
    subst this
    exact ⟨⟨by simp [fin], by simp [fin, cost]⟩, by simp [fin, cw, hd, cost]⟩
  | k + 1, p, hp, hz, hb => by
    rcases List.eq_nil_or_concat p with rfl | ⟨q, b, e⟩
    · simp at hp
    · rw [List.concat_eq_append] at e
      subst e
      have hq : q.length = k := by simpa using hp
      obtain ⟨i1, i2⟩ := best zs k q hq (by omega) fun z hz => hb z (List.mem_append_left _ hz)
      have hs : Sb (fin 0 q) b := ⟨i1.1, hb b (by simp)⟩
      have hl := part_least (x := zs.getD (2 * k) 0) (y := zs.getD (2 * k + 1) 0) hs i1.2
      have ef : fin 0 (q ++ [b]) = nst (fin 0 q) b := by rw [fin_append]; rfl
      rw [hd_step hz hq hs, ef]
      have hc : cost zs (k + 1) (nst (fin 0 q) b) = part (cost zs k) (zs.getD (2 * k) 0) (zs.getD (2 * k + 1) 0) 4 (nst (fin 0 q) b) := rfl
      exact ⟨⟨nst_in _ _, by omega⟩, by omega⟩
/-- The decoded bits. -/
def dec (zs : List Int) (n : Nat) : List Int := (path zs (n + 2) 0).take n
theorem dec_len (zs : List Int) (n : Nat) : (dec zs n).length = n := by rw [dec, List.length_take, path_len]; omega
theorem fin_tail (l : List Int) : fin 0 (tail l) = 0 := by
  unfold tail; rw [fin_append]; show nst (nst _ 0) 0 = 0; unfold nst; omega
theorem end_live {zs : List Int} {n : Nat} (hz : zs.length = 2 * (n + 2)) : Live zs (n + 2) 0 := by
  have := (best zs (n + 2) (tail (List.replicate n 0)) (by simp [tail]) (by omega) fun z hz => by
    rcases List.mem_append.1 hz with hz | hz
    · have := List.eq_of_mem_replicate hz; omega
    · simp at hz; omega).1
  rwa [fin_tail] at this
theorem path_tail {zs : List Int} {n : Nat} (hz : zs.length = 2 * (n + 2)) : path zs (n + 2) 0 = tail (dec zs n) := by
  obtain ⟨g1, g2, _⟩ := (end_live hz).pre
  have h0 : pre zs (n + 1) 0 % 2 = 0 := by
    have h3 := g1.1
    unfold nst at g2; omega
  unfold dec tail
  show path zs n _ ++ [pre zs (n + 1) 0 % 2] ++ [0 % 2] = _
  rw [show path zs (n + 2) 0 = path zs n (pre zs n (pre zs (n + 1) 0)) ++ [pre zs (n + 1) 0 % 2] ++ [0 % 2] from rfl, h0, List.append_assoc, List.take_append_of_le_length (by rw [path_len]; exact Nat.le_refl _), List.take_of_length_le (by rw [path_len]; exact Nat.le_refl _)]
  rfl
theorem dec_bit {zs : List Int} {n : Nat} (hz : zs.length = 2 * (n + 2)) : isb (dec zs n) = true := (isb_iff _).2 fun z h => (path_ok zs (n + 2) 0 (by omega) (end_live hz)).1 z (List.mem_of_mem_take h)
theorem dec_hd {zs : List Int} {n : Nat} (hz : zs.length = 2 * (n + 2)) : hd (conv (dec zs n)) zs = cost zs (n + 2) 0 := by
  have := (path_ok zs (n + 2) 0 (by omega) (end_live hz)).2.2
  rw [path_tail hz, ← hz, List.take_length] at this
  rw [conv_yes (dec_bit hz)]; exact this
theorem dec_best {zs ys : List Int} {n : Nat} (hz : zs.length = 2 * (n + 2)) (hy : isb ys = true) (hl : ys.length = n) : cost zs (n + 2) 0 ≤ hd (conv ys) zs := by
  have := (best zs (n + 2) (tail ys) (by rw [tail_len, hl]) (by omega) (isb_all (tail_isb hy))).2
  rw [fin_tail, ← hz, List.take_length] at this
  rw [conv_yes hy]; exact this
theorem dec_nn {zs : List Int} {n : Nat} (hz : zs.length = 2 * (n + 2)) : 0 ≤ cost zs (n + 2) 0 := (end_live hz).2
/-- How many bits some symbols stand for. -/
def inl (c : Int) : Int := if (4 ≤ c ∧ c ≤ 2004) ∧ c % 2 = 0 then c / 2 - 2 else -1
theorem inl_yes {c : Int} (h : (4 ≤ c ∧ c ≤ 2004) ∧ c % 2 = 0) : inl c = c / 2 - 2 := if_pos h
theorem inl_no {c : Int} (h : ¬ ((4 ≤ c ∧ c ≤ 2004) ∧ c % 2 = 0)) : inl c = -1 := if_neg h
theorem inl_in (c : Int) : -1 ≤ inl c ∧ inl c ≤ 1000 := by unfold inl; split <;> omega
theorem inl_nat {m n : Nat} (h : inl m = n) : m = 2 * (n + 2) ∧ n ≤ 1000 := by unfold inl at h; split at h <;> omega
theorem inl_enc {n : Nat} (h : n ≤ 1000) : inl ((2 * (n + 2) : Nat) : Int) = n := by rw [inl_yes (by omega)]; omega
/-- The distance of bits to symbols. -/
def pd (l zs : List Int) : Int := if (isb l = true ∧ inr zs 0 2 = true) ∧ (zs.length : Int) = enl l.length then hd (conv l) zs else -1
theorem pd_yes {l zs : List Int} (h : (isb l = true ∧ inr zs 0 2 = true) ∧ (zs.length : Int) = enl l.length) : pd l zs = hd (conv l) zs := if_pos h
theorem pd_no {l zs : List Int} (h : ¬ ((isb l = true ∧ inr zs 0 2 = true) ∧ (zs.length : Int) = enl l.length)) : pd l zs = -1 := if_neg h
theorem pd_in (l zs : List Int) : -1 ≤ pd l zs ∧ pd l zs ≤ 2 * ((l.length : Int) + 2) := by
  unfold pd
  split
  · have := hd_in (conv l) zs
    have := conv_len l
    omega
  · omega
/-- What is decoded. -/
def vit (zs : List Int) : List Int × Int := if 0 ≤ inl zs.length ∧ inr zs 0 2 = true then (dec zs (inl zs.length).toNat, cost zs ((inl zs.length).toNat + 2) 0) else ([], -1)
theorem vit_yes {zs : List Int} {n : Nat} (h : inl zs.length = n) (hs : inr zs 0 2 = true) : vit zs = (dec zs n, cost zs (n + 2) 0) := by
  unfold vit; rw [h, if_pos ⟨by omega, hs⟩, Int.toNat_natCast]
theorem vit_no {zs : List Int} (h : ¬ (0 ≤ inl zs.length ∧ inr zs 0 2 = true)) : vit zs = ([], -1) := if_neg h
theorem vit_cases (zs : List Int) : (∃ n : Nat, inl zs.length = n ∧ inr zs 0 2 = true) ∨ ¬ (0 ≤ inl zs.length ∧ inr zs 0 2 = true) := by
  by_cases h : 0 ≤ inl zs.length ∧ inr zs 0 2 = true
  · exact Or.inl ⟨(inl zs.length).toNat, by omega, h.2⟩
  · exact Or.inr h
theorem pd_dec {zs : List Int} {n : Nat} (h : inl zs.length = n) (hs : inr zs 0 2 = true) : pd (dec zs n) zs = cost zs (n + 2) 0 := by
  obtain ⟨h1, h2⟩ := inl_nat h
  rw [pd_yes ⟨⟨dec_bit h1, hs⟩, by rw [dec_len, enl_yes (by omega)]; omega⟩, dec_hd h1]
theorem pd_best {zs ys : List Int} {n : Nat} (h : inl zs.length = n) (hs : inr zs 0 2 = true) (hy : isb ys = true) (hl : ys.length = n) : cost zs (n + 2) 0 ≤ pd ys zs := by
  obtain ⟨h1, h2⟩ := inl_nat h
  rw [pd_yes ⟨⟨hy, hs⟩, by rw [hl, enl_yes (by omega)]; omega⟩]
  exact dec_best h1 hy hl
/-- The weight of a word from a state to state 0. -/
theorem wt_cons (x : Int) (l : List Int) : wt (x :: l) = (if x = 1 then 1 else 0) + wt l := by
  unfold wt
  rw [List.countP_cons]
  by_cases h : x = 1
  · simp [h]; omega
  · simp [h]
def phi (s : Int) : Int := if s = 0 then 0 else if s = 2 then 2 else 3
theorem phi_le : ∀ (p : List Int) (s : Int), 0 ≤ s ∧ s ≤ 3 → (∀ z ∈ p, 0 ≤ z ∧ z ≤ 1) → fin s p = 0 → phi s ≤ wt (cw s p)
  | [], s, _, _, h => by
    have : s = 0 := h
    subst this
    decide
  | b :: r, s, hs, hb, h => by
    have hb0 := hb b (List.mem_cons_self ..)
    have ih := phi_le r (nst s b) (nst_in s b) (fun z hz => hb z (List.mem_cons_of_mem _ hz)) h
    show _ ≤ wt (op1 s b :: op2 s b :: cw (nst s b) r)
    rw [wt_cons, wt_cons]
    have hs4 : s = 0 ∨ s = 1 ∨ s = 2 ∨ s = 3 := by omega
    have hb2 : b = 0 ∨ b = 1 := by omega
    generalize cw (nst s b) r = q at ih ⊢
    generalize wt q = g at ih ⊢
    rcases hs4 with rfl | rfl | rfl | rfl <;> rcases hb2 with rfl | rfl <;> revert ih <;> simp [phi, op1, op2, nst] <;> omega
theorem five : ∀ (p : List Int), (∀ z ∈ p, 0 ≤ z ∧ z ≤ 1) → fin 0 p = 0 → (∃ z ∈ p, z ≠ 0) → 5 ≤ wt (cw 0 p)
  | [], _, _, ⟨z, hz, _⟩ => by cases hz
  | b :: r, hb, h, ⟨z, hz, hne⟩ => by
    have hb0 := hb b (List.mem_cons_self ..)
    have hr := fun z hz => hb z (List.mem_cons_of_mem b hz)
    have hb2 : b = 0 ∨ b = 1 := by omega
    show _ ≤ wt (op1 0 b :: op2 0 b :: cw (nst 0 b) r)
    rw [wt_cons, wt_cons]
    rcases hb2 with rfl | rfl
    · have ih := five r hr h (by
        rcases List.mem_cons.1 hz with rfl | hz
        · exact absurd rfl hne
        · exact ⟨z, hz, hne⟩)
      have e : nst 0 0 = 0 := by decide
      rw [e]
      have : op1 0 0 = 0 := by decide
      have : op2 0 0 = 0 := by decide
      simp [*]
    · have ih := phi_le r (nst 0 1) (nst_in 0 1) hr h
      have e : nst 0 1 = 1 := by decide
      rw [e] at ih ⊢
      have e1 : op1 0 1 = 1 := by decide
      have e2 : op2 0 1 = 1 := by decide
      have e3 : phi 1 = 3 := by decide
      rw [e1, e2]; rw [e3] at ih
      simp; omega
theorem xor_ne : ∀ (a b : List Int), (∀ z ∈ a, 0 ≤ z ∧ z ≤ 1) → (∀ z ∈ b, 0 ≤ z ∧ z ≤ 1) → a.length = b.length → a ≠ b → ∃ z ∈ xorB a b, z ≠ 0
  | [], [], _, _, _, h => absurd rfl h
  | [], _ :: _, _, _, h, _ => by simp at h
  | _ :: _, [], _, _, h, _ => by simp at h
  | x :: a, y :: b, ha, hb, hl, hne => by
    have e : xorB (x :: a) (y :: b) = bx x y :: xorB a b := rfl
    have hx := ha x (List.mem_cons_self ..)
    have hy := hb y (List.mem_cons_self ..)
    by_cases hxy : x = y
    · subst hxy
      obtain ⟨z, hz, h⟩ := xor_ne a b (fun z hz => ha z (List.mem_cons_of_mem _ hz)) (fun z hz => hb z (List.mem_cons_of_mem _ hz)) (by simpa using hl) (fun h => hne (by rw [h]))
      exact ⟨z, by rw [e]; exact List.mem_cons_of_mem _ hz, h⟩
    · refine ⟨bx x y, by rw [e]; exact List.mem_cons_self .., ?_⟩
      rw [bx_in hx hy]; omega
/-- Two code words differ in at least five symbols. -/
theorem apart {a b : List Int} (ha : isb a = true) (hb : isb b = true) (hl : a.length = b.length) (hne : a ≠ b) : 5 ≤ diff (conv a) (conv b) := by
  rw [← wt_xor _ _ (conv_bit a) (conv_bit b), conv_lin ha hb hl, conv_yes (xor_isb ha hb)]
  refine five _ (isb_all (tail_isb (xor_isb ha hb))) (fin_tail _) ?_
  obtain ⟨z, hz, h⟩ := xor_ne a b (isb_all ha) (isb_all hb) hl hne
  exact ⟨z, List.mem_append_left _ hz, h⟩
theorem hd_diff : ∀ (a b : List Int), (∀ z ∈ b, z ≠ 2) → hd a b = diff a b
  | [], b, _ => by simp [hd, diff]
  | _ :: _, [], _ => by simp [hd, diff]
  | x :: a, y :: b, h => by
    have ih := hd_diff a b fun z hz => h z (List.mem_cons_of_mem _ hz)
    have hy := h y (List.mem_cons_self ..)
    simp only [hd, diff, ih]
    unfold sd
    by_cases hxy : x = y
    · rw [if_pos (Or.inl hxy.symm), if_pos hxy]
    · rw [if_neg (by intro g; rcases g with g | g; exact hxy g.symm; exact hy g), if_neg hxy]
theorem diff_tri : ∀ (a b c : List Int), a.length = c.length → b.length = c.length → diff a b ≤ diff a c + diff b c
  | [], b, c, _, _ => by
    have h1 := diff_in [] c
    have h2 := diff_in b c
    have : diff [] b = 0 := by simp [diff]
    omega
  | _ :: _, [], [], h, _ => by simp at h
  | _ :: _, _ :: _, [], h, _ => by simp at h
  | _ :: _, [], _ :: _, _, h => by simp at h
  | x :: a, y :: b, z :: c, h, g => by
    have ih := diff_tri a b c (by simpa using h) (by simpa using g)
    simp only [diff]
    by_cases h1 : x = z
    · by_cases h2 : y = z
      · subst h1; subst h2; simp; omega
      · subst h1
        rw [if_neg (fun g => h2 g.symm), if_pos rfl, if_neg h2]; omega
    · rw [if_neg h1]
      by_cases h2 : x = y
      · rw [if_pos h2]; split <;> omega
      · rw [if_neg h2]; split <;> omega
/-- Up to two inverted symbols are corrected. -/
theorem corrects {l zs : List Int} {n : Nat} (hl : isb l = true) (hn : l.length = n) (hz : zs.length = 2 * (n + 2)) (hb : ∀ z ∈ zs, z ≠ 2) {d : Int} (hd' : diff (conv l) zs = d) (h2 : d ≤ 2) : dec zs n = l ∧ cost zs (n + 2) 0 = d := by
  have hb1 := dec_best hz hl hn
  rw [hd_diff _ _ hb, hd'] at hb1
  have he := dec_hd hz
  rw [hd_diff _ _ hb] at he
  have e : dec zs n = l := by
    by_cases g : dec zs n = l
    · exact g
    · exfalso
      have h5 := apart (dec_bit hz) hl (by rw [dec_len, hn]) g
      have ht := diff_tri (conv (dec zs n)) (conv l) zs (by rw [conv_len_yes (dec_bit hz), dec_len, hz]) (by rw [conv_len_yes hl, hn, hz])
      omega
  exact ⟨e, by rw [← he, e, hd']⟩
theorem diff_self : ∀ (a : List Int), diff a a = 0
  | [] => by simp [diff]
  | x :: a => by simp [diff, diff_self a]
theorem diff_set : ∀ (a b : List Int) (i : Nat) (v : Int), i < a.length → i < b.length → diff a (b.set i v) = diff a b - (if a.getD i 0 = b.getD i 0 then 0 else 1) + (if a.getD i 0 = v then 0 else 1)
  | [], _, _, _, h, _ => by simp at h
  | _ :: _, [], _, _, _, h => by simp at h
  | x :: a, y :: b, 0, v, _, _ => by
    simp only [List.set_cons_zero, diff, List.getD_cons_zero]; omega
  | x :: a, y :: b, i + 1, v, h, g => by
    have ih := diff_set a b i v (by simpa using h) (by simpa using g)
    simp only [List.set_cons_succ, diff, List.getD_cons_succ, ih]; omega
end Go.Proofs.YtdelpepepbkjmaaGreatDoor.vit
end

section
namespace Go.Proofs.YtdelpepepbkjmaaGreatDoor.phm
open Go.RowKit sl bm cvm vit itm scrm crcm crcs
set_option linter.unusedVariables false

/-- A valid header: rate, length, seed. -/
def Hv (r l s : Int) : Prop := (1 ≤ r ∧ r ≤ 2) ∧ (0 ≤ l ∧ l ≤ 120) ∧ (1 ≤ s ∧ s ≤ 127)
instance (r l s : Int) : Decidable (Hv r l s) := inferInstanceAs (Decidable ((1 ≤ r ∧ r ≤ 2) ∧ (0 ≤ l ∧ l ≤ 120) ∧ (1 ≤ s ∧ s ≤ 127)))
def hv (r l s : Int) : Bool := decide (Hv r l s)
theorem hv_yes {r l s : Int} (h : Hv r l s) : hv r l s = true := decide_eq_true h
theorem hv_no {r l s : Int} (h : ¬ Hv r l s) : hv r l s = false := decide_eq_false h
theorem hv_iff (r l s : Int) : hv r l s = true ↔ Hv r l s := by unfold hv; exact decide_eq_true_iff
/-- Its seventeen bits, and the eighteen. -/
def hd17 (r l s : Int) : List Int := dig r 2 ++ (dig l 8 ++ dig s 7)
theorem hd17_len (r l s : Int) : (hd17 r l s).length = 17 := by simp [hd17, dig_len]
theorem hd17_bit (r l s : Int) : ∀ z ∈ hd17 r l s, 0 ≤ z ∧ z ≤ 1 := fun z hz => by
  unfold hd17 at hz
  rcases List.mem_append.1 hz with h | h
  · exact dig_bit _ _ z h
  · rcases List.mem_append.1 h with h | h
    · exact dig_bit _ _ z h
    · exact dig_bit _ _ z h
def hd18 (r l s : Int) : List Int := hd17 r l s ++ [wt (hd17 r l s) % 2]
theorem hd18_len (r l s : Int) : (hd18 r l s).length = 18 := by simp [hd18, hd17_len]
theorem hd18_bit (r l s : Int) : ∀ z ∈ hd18 r l s, 0 ≤ z ∧ z ≤ 1 := fun z hz => by
  unfold hd18 at hz
  rcases List.mem_append.1 hz with h | h
  · exact hd17_bit _ _ _ z h
  · have : z = wt (hd17 r l s) % 2 := by simpa using h
    omega
def enc (r l s : Int) : List Int := if Hv r l s then hd18 r l s ++ (hd18 r l s ++ hd18 r l s) else []
theorem enc_yes {r l s : Int} (h : Hv r l s) : enc r l s = hd18 r l s ++ (hd18 r l s ++ hd18 r l s) := if_pos h
theorem enc_no {r l s : Int} (h : ¬ Hv r l s) : enc r l s = [] := if_neg h
theorem enc_len {r l s : Int} (h : Hv r l s) : (enc r l s).length = 54 := by rw [enc_yes h]; simp [hd18_len]
theorem enc_le (r l s : Int) : (enc r l s).length ≤ 54 := by
  unfold enc; split
  · simp [hd18_len]
  · simp
theorem enc_bit (r l s : Int) : ∀ z ∈ enc r l s, 0 ≤ z ∧ z ≤ 1 := fun z hz => by
  unfold enc at hz
  split at hz
  · rcases List.mem_append.1 hz with h | h
    · exact hd18_bit _ _ _ z h
    · rcases List.mem_append.1 h with h | h
      · exact hd18_bit _ _ _ z h
      · exact hd18_bit _ _ _ z h
  · cases hz
/-- The bits of which most copies are left. -/
def mj (zs : List Int) (i : Nat) : Int := if 2 ≤ wt [zs.getD i 0, zs.getD (i + 18) 0, zs.getD (i + 36) 0] then 1 else 0
theorem mj_in (zs : List Int) (i : Nat) : 0 ≤ mj zs i ∧ mj zs i ≤ 1 := by unfold mj; split <;> omega
def maj (zs : List Int) : List Int := (List.range 18).map (mj zs)
theorem maj_len (zs : List Int) : (maj zs).length = 18 := by simp [maj]
theorem maj_at (zs : List Int) {i : Nat} (h : i < 18) : (maj zs).getD i 0 = mj zs i := by simp [maj, List.getD_eq_getElem?_getD, h]
theorem maj_bit (zs : List Int) : ∀ z ∈ maj zs, 0 ≤ z ∧ z ≤ 1 := fun z hz => by
  obtain ⟨i, _, rfl⟩ := List.mem_map.1 hz
  exact mj_in zs i
theorem maj_isb (zs : List Int) : isb (maj zs) = true := (isb_iff _).2 (maj_bit zs)
/-- The three fields. -/
def fr (b : List Int) : Int := num (b.take 2)
def fl (b : List Int) : Int := num ((b.drop 2).take 8)
def fs (b : List Int) : Int := num ((b.drop 10).take 7)
def Dh (zs : List Int) : Prop := zs.length = 54 ∧ wt (maj zs) % 2 = 0 ∧ Hv (fr (maj zs)) (fl (maj zs)) (fs (maj zs))
noncomputable def dh (zs : List Int) : (Int × Int × Int) × Bool :=
  open Classical in if Dh zs then ((fr (maj zs), fl (maj zs), fs (maj zs)), true) else ((0, 0, 0), false)
theorem dh_yes {zs : List Int} (h : Dh zs) : dh zs = ((fr (maj zs), fl (maj zs), fs (maj zs)), true) := if_pos h
theorem dh_no {zs : List Int} (h : ¬ Dh zs) : dh zs = ((0, 0, 0), false) := if_neg h
theorem dh_cases (zs : List Int) : (∃ r l s, dh zs = ((r, l, s), true) ∧ Hv r l s ∧ zs.length = 54) ∨ dh zs = ((0, 0, 0), false) := by
  by_cases h : Dh zs
  · exact Or.inl ⟨_, _, _, dh_yes h, h.2.2, h.1⟩
  · exact Or.inr (dh_no h)
/-- A header is decoded from its copies. -/
theorem hd18_getD (r l s : Int) {k : Nat} (h : k < 54) : (hd18 r l s ++ (hd18 r l s ++ hd18 r l s)).getD k 0 = (hd18 r l s).getD (k % 18) 0 := by
  have hl := hd18_len r l s
  simp only [List.getD_eq_getElem?_getD]
  rcases Nat.lt_or_ge k 18 with h1 | h1
  · rw [List.getElem?_append_left (by omega), Nat.mod_eq_of_lt h1]
  · rw [List.getElem?_append_right (by omega), hl]
    rcases Nat.lt_or_ge k 36 with h2 | h2
    · rw [List.getElem?_append_left (by omega), show k % 18 = k - 18 by omega]
    · rw [List.getElem?_append_right (by omega), hl, show k % 18 = k - 18 - 18 by omega]
theorem three {x : Int} (h : 0 ≤ x ∧ x ≤ 1) : (if 2 ≤ wt [x, x, x] then (1 : Int) else 0) = x := by
  have : x = 0 ∨ x = 1 := by omega
  rcases this with rfl | rfl <;> decide
theorem list_eq {a b : List Int} {n : Nat} (ha : a.length = n) (hb : b.length = n) (h : ∀ i, i < n → a.getD i 0 = b.getD i 0) : a = b := itm.list_eq ha hb h
theorem getD_in {b : List Int} (h : ∀ z ∈ b, 0 ≤ z ∧ z ≤ 1) (i : Nat) : 0 ≤ b.getD i 0 ∧ b.getD i 0 ≤ 1 := isb_getD ((isb_iff b).2 h) i
theorem maj_hd18 (r l s : Int) : maj (hd18 r l s ++ (hd18 r l s ++ hd18 r l s)) = hd18 r l s := by
  refine list_eq (maj_len _) (hd18_len r l s) fun i hi => ?_
  rw [maj_at _ hi]
  unfold mj
  rw [hd18_getD r l s (by omega), hd18_getD r l s (by omega), hd18_getD r l s (by omega), show (i + 18) % 18 = i % 18 by omega, show (i + 36) % 18 = i % 18 by omega, Nat.mod_eq_of_lt hi]
  exact three (getD_in (hd18_bit r l s) i)
theorem wt_append (a b : List Int) : wt (a ++ b) = wt a + wt b := by simp [wt]
theorem wt_last {x : Int} (h : 0 ≤ x ∧ x ≤ 1) : wt [x] = x := by
  have : x = 0 ∨ x = 1 := by omega
  rcases this with rfl | rfl <;> decide
theorem hd18_even (r l s : Int) : wt (hd18 r l s) % 2 = 0 := by
  unfold hd18
  rw [wt_append, wt_last (by omega)]
  omega
theorem fr_hd18 {r l s : Int} (h : Hv r l s) : fr (hd18 r l s) = r := by
  unfold fr hd18 hd17
  rw [List.append_assoc, List.take_append_of_le_length (by rw [dig_len]; omega), List.take_of_length_le (by rw [dig_len]; omega), num_dig]
  unfold Hv at h; omega
theorem fl_hd18 {r l s : Int} (h : Hv r l s) : fl (hd18 r l s) = l := by
  unfold fl hd18 hd17
  rw [List.append_assoc, List.drop_append_of_le_length (by rw [dig_len]; omega), List.drop_of_length_le (by rw [dig_len]; omega), List.nil_append, List.append_assoc, List.take_append_of_le_length (by rw [dig_len]; omega), List.take_of_length_le (by rw [dig_len]; omega), num_dig]
  unfold Hv at h; omega
theorem fs_hd18 {r l s : Int} (h : Hv r l s) : fs (hd18 r l s) = s := by
  unfold fs hd18 hd17
  have e : (dig r 2 ++ (dig l 8 ++ dig s 7) ++ [wt (dig r 2 ++ (dig l 8 ++ dig s 7)) % 2]).drop 10 = dig s 7 ++ [wt (dig r 2 ++ (dig l 8 ++ dig s 7)) % 2] := by
    rw [← List.append_assoc (dig r 2), List.append_assoc (dig r 2 ++ dig l 8), List.drop_append_of_le_length (by simp [dig_len]), List.drop_of_length_le (by simp [dig_len]), List.nil_append]
  rw [e, List.take_append_of_le_length (by rw [dig_len]; omega), List.take_of_length_le (by rw [dig_len]; omega), num_dig]
  unfold Hv at h; omega
theorem dh_enc {r l s : Int} (h : Hv r l s) : dh (enc r l s) = ((r, l, s), true) := by
  have e : maj (enc r l s) = hd18 r l s := by rw [enc_yes h, maj_hd18]
  have hd : Dh (enc r l s) := ⟨enc_len h, by rw [e]; exact hd18_even r l s, by rw [e, fr_hd18 h, fl_hd18 h, fs_hd18 h]; exact h⟩
  rw [dh_yes hd, e, fr_hd18 h, fl_hd18 h, fs_hd18 h]
/-- One symbol of the copies inverted: the header all the same. -/
theorem two_of_three {x v : Int} (h : 0 ≤ x ∧ x ≤ 1) (hv : v = 1 - x) : (if 2 ≤ wt [v, x, x] then (1 : Int) else 0) = x ∧ (if 2 ≤ wt [x, v, x] then (1 : Int) else 0) = x ∧ (if 2 ≤ wt [x, x, v] then (1 : Int) else 0) = x := by
  have : x = 0 ∨ x = 1 := by omega
  subst hv
  rcases this with rfl | rfl <;> decide
theorem getD_set (L : List Int) (i j : Nat) (v : Int) (hj : j < L.length) : (L.set i v).getD j 0 = if i = j then v else L.getD j 0 := by
  simp only [List.getD_eq_getElem?_getD]
  by_cases h : i = j
  · subst h; rw [if_pos rfl, List.getElem?_set_self hj]; rfl
  · rw [if_neg h, List.getElem?_set_ne h]
theorem maj_one {r l s : Int} {k : Nat} (hk : k < 54) {v : Int} (hv : v = 1 - (hd18 r l s).getD (k % 18) 0) : maj ((hd18 r l s ++ (hd18 r l s ++ hd18 r l s)).set k v) = hd18 r l s := by
  have hl : (hd18 r l s ++ (hd18 r l s ++ hd18 r l s)).length = 54 := by simp [hd18_len]
  refine list_eq (maj_len _) (hd18_len r l s) fun i hi => ?_
  rw [maj_at _ hi]
  unfold mj
  rw [getD_set _ _ _ _ (by omega), getD_set _ _ _ _ (by omega), getD_set _ _ _ _ (by omega), hd18_getD r l s (show i < 54 by omega), hd18_getD r l s (show i + 18 < 54 by omega), hd18_getD r l s (show i + 36 < 54 by omega), show (i + 18) % 18 = i % 18 by omega, show (i + 36) % 18 = i % 18 by omega, Nat.mod_eq_of_lt hi]
  have hb := getD_in (hd18_bit r l s) i
  by_cases h0 : k = i
  · subst h0
    rw [if_pos rfl, if_neg (show ¬ k = k + 18 by omega), if_neg (show ¬ k = k + 36 by omega)]
    exact (two_of_three hb (by rw [hv, Nat.mod_eq_of_lt hi])).1
  · rw [if_neg h0]
    by_cases h1 : k = i + 18
    · rw [if_pos h1, if_neg (show ¬ k = i + 36 by omega)]
      exact (two_of_three hb (by rw [hv, show k % 18 = i by omega])).2.1
    · rw [if_neg h1]
      by_cases h2 : k = i + 36
      · rw [if_pos h2]
        exact (two_of_three hb (by rw [hv, show k % 18 = i by omega])).2.2
      · rw [if_neg h2]; exact three hb
theorem dh_one {r l s : Int} (h : Hv r l s) {k : Nat} (hk : k < 54) {v : Int} (hv : v = 1 - (enc r l s).getD k 0) : dh ((enc r l s).set k v) = ((r, l, s), true) := by
  have e : maj ((enc r l s).set k v) = hd18 r l s := by rw [enc_yes h]; exact maj_one hk (by rw [hv, enc_yes h, hd18_getD r l s hk])
  have hd : Dh ((enc r l s).set k v) := ⟨by rw [List.length_set, enc_len h], by rw [e]; exact hd18_even r l s, by rw [e, fr_hd18 h, fl_hd18 h, fs_hd18 h]; exact h⟩
  rw [dh_yes hd, e, fr_hd18 h, fl_hd18 h, fs_hd18 h]
/-- The numbers of symbols. -/
def cl (l : Int) : Int := enl (8 * (l + 2))
theorem cl_eq {l : Int} (h : 0 ≤ l ∧ l ≤ 120) : cl l = 2 * (8 * (l + 2) + 2) := enl_yes (by omega)
def psy (r l s : Int) : Int := if Hv r l s then (if r = 2 then plen (cl l) else cl l) else 0
theorem psy_no {r l s : Int} (h : ¬ Hv r l s) : psy r l s = 0 := if_neg h
theorem psy_fast {r l s : Int} (h : Hv r l s) (h2 : r = 2) : psy r l s = plen (cl l) := by unfold psy; rw [if_pos h, if_pos h2]
theorem psy_slow {r l s : Int} (h : Hv r l s) (h2 : ¬ r = 2) : psy r l s = cl l := by unfold psy; rw [if_pos h, if_neg h2]
theorem plen_pos {n : Int} (h : 0 ≤ n) : plen n = n - n / 4 := by unfold plen; rw [if_neg (by omega)]
theorem psy_in {r l s : Int} (h : Hv r l s) : 27 ≤ psy r l s ∧ psy r l s ≤ 1956 := by
  have h' := h
  unfold Hv at h'
  by_cases h2 : r = 2
  · rw [psy_fast h h2, plen_pos (by rw [cl_eq (by omega)]; omega), cl_eq (by omega)]; omega
  · rw [psy_slow h h2, cl_eq (by omega)]; omega
def fsy (r l s : Int) : Int := if Hv r l s then 54 + psy r l s else 0
theorem fsy_yes {r l s : Int} (h : Hv r l s) : fsy r l s = 54 + psy r l s := if_pos h
theorem fsy_no {r l s : Int} (h : ¬ Hv r l s) : fsy r l s = 0 := if_neg h
/-- The coded payload. -/
def bits8 (s : Int) (b : List Int) : List Int := scr s (btb (wc b))
def word (s : Int) (b : List Int) : List Int := conv (bits8 s b)
def pun (r : Int) (c : List Int) : List Int := if r = 2 then punc c else c
theorem pun_fast {r : Int} (h : r = 2) (c : List Int) : pun r c = punc c := if_pos h
theorem pun_slow {r : Int} (h : ¬ r = 2) (c : List Int) : pun r c = c := if_neg h
def pay (r s : Int) (b : List Int) : List Int := itl (pun r (word s b)) 8
def tx (r l s : Int) (b : List Int) : List Int := if Hv r l s ∧ (b.length : Int) = l then enc r l s ++ pay r s b else []
theorem tx_yes {r l s : Int} {b : List Int} (h : Hv r l s) (hl : (b.length : Int) = l) : tx r l s b = enc r l s ++ pay r s b := if_pos ⟨h, hl⟩
theorem tx_no {r l s : Int} {b : List Int} (h : ¬ (Hv r l s ∧ (b.length : Int) = l)) : tx r l s b = [] := if_neg h
theorem bits8_isb (s : Int) (b : List Int) : isb (bits8 s b) = true := by
  unfold bits8 scr
  split
  · rename_i h
    exact (isb_iff _).2 (mixed_bit _ _ (isb_all h.2))
  · exact btb_isb _
theorem bits8_len (s : Int) (b : List Int) : (bits8 s b).length = 8 * (b.length + 2) := by rw [bits8, scr_len, btb_len, wc_len]
theorem word_len (s : Int) (b : List Int) : (word s b).length = 2 * (8 * (b.length + 2) + 2) := by rw [word, conv_len_yes (bits8_isb s b), bits8_len]
theorem word_isb (s : Int) (b : List Int) : isb (word s b) = true := conv_isb _
theorem pay_len (r s : Int) (b : List Int) : (pay r s b).length ≤ 2 * (8 * (b.length + 2) + 2) := by
  rw [pay, itl_len]
  unfold pun
  split
  · rw [punc_len, word_len]; omega
  · rw [word_len]; omega
theorem pay_len_yes {r l s : Int} {b : List Int} (h : Hv r l s) (hl : (b.length : Int) = l) : ((pay r s b).length : Int) = psy r l s := by
  rw [pay, itl_len]
  have h' := h
  unfold Hv at h'
  by_cases h2 : r = 2
  · rw [psy_fast h h2, pun_fast h2, punc_len, word_len, plen_pos (by rw [cl_eq (by omega)]; omega), cl_eq (by omega)]; omega
  · rw [psy_slow h h2, pun_slow h2, word_len, cl_eq (by omega)]; omega
theorem tx_len (r l s : Int) (b : List Int) : (tx r l s b).length ≤ 54 + 2 * (8 * (b.length + 2) + 2) := by
  unfold tx
  split
  · rw [List.length_append]
    have h1 := enc_le r l s
    have h2 := pay_len r s b
    omega
  · simp
theorem tx_len_yes {r l s : Int} {b : List Int} (h : Hv r l s) (hl : (b.length : Int) = l) : ((tx r l s b).length : Int) = fsy r l s := by
  rw [tx_yes h hl, List.length_append, enc_len h, fsy_yes h]
  have := pay_len_yes h hl
  omega
/-- What is received of a payload. -/
def undo (r l : Int) (zs : List Int) : List Int := if r = 2 then dep (dei zs 8) (cl l) else dei zs 8
theorem undo_fast {r : Int} (h : r = 2) (l : Int) (zs : List Int) : undo r l zs = dep (dei zs 8) (cl l) := if_pos h
theorem undo_slow {r : Int} (h : ¬ r = 2) (l : Int) (zs : List Int) : undo r l zs = dei zs 8 := if_neg h
def unpay (r l s : Int) (zs : List Int) : List Int × Bool := chk (bb (scr s (vit.vit (undo r l zs)).1)).1
noncomputable def rx (zs : List Int) : (Int × Int × Int) × List Int × Int :=
  if (dh (zs.take 54)).2 = true ∧ (zs.length : Int) = fsy (dh (zs.take 54)).1.1 (dh (zs.take 54)).1.2.1 (dh (zs.take 54)).1.2.2 then
    (if (unpay (dh (zs.take 54)).1.1 (dh (zs.take 54)).1.2.1 (dh (zs.take 54)).1.2.2 (zs.drop 54)).2 = true then ((dh (zs.take 54)).1, (unpay (dh (zs.take 54)).1.1 (dh (zs.take 54)).1.2.1 (dh (zs.take 54)).1.2.2 (zs.drop 54)).1, 0) else ((dh (zs.take 54)).1, [], 2))
  else ((0, 0, 0), [], 1)
theorem rx_bad {zs : List Int} (h : dh (zs.take 54) = ((0, 0, 0), false)) : rx zs = ((0, 0, 0), [], 1) := by unfold rx; rw [if_neg (by rw [h]; simp)]
theorem rx_len {zs : List Int} {r l s : Int} (h : dh (zs.take 54) = ((r, l, s), true)) (hl : ¬ (zs.length : Int) = fsy r l s) : rx zs = ((0, 0, 0), [], 1) := by unfold rx; rw [if_neg (by rw [h]; intro g; exact hl g.2)]
theorem rx_ok {zs : List Int} {r l s : Int} (h : dh (zs.take 54) = ((r, l, s), true)) (hl : (zs.length : Int) = fsy r l s) {p : List Int} (hp : unpay r l s (zs.drop 54) = (p, true)) : rx zs = ((r, l, s), p, 0) := by
  unfold rx; rw [h]; rw [if_pos ⟨rfl, hl⟩]; simp only; rw [hp]; rfl
theorem rx_sum {zs : List Int} {r l s : Int} (h : dh (zs.take 54) = ((r, l, s), true)) (hl : (zs.length : Int) = fsy r l s) {p : List Int} (hp : unpay r l s (zs.drop 54) = (p, false)) : rx zs = ((r, l, s), [], 2) := by
  unfold rx; rw [h]; rw [if_pos ⟨rfl, hl⟩]; simp only; rw [hp]; rfl
theorem vit_len (zs : List Int) : (vit.vit zs).1.length ≤ zs.length := by
  rcases vit_cases zs with ⟨m, hm, hs⟩ | hno
  · rw [vit_yes hm hs]
    simp only [dec_len]
    have := (inl_nat hm).1
    omega
  · rw [vit_no hno]; simp
theorem undo_len (r l : Int) (zs : List Int) : (undo r l zs).length ≤ 4000 + zs.length := by
  unfold undo; split
  · have := dep_len (dei zs 8) (cl l); omega
  · rw [dei_len]; omega
theorem unpay_len (r l s : Int) (zs : List Int) : (unpay r l s zs).1.length ≤ 4000 + zs.length := by
  unfold unpay
  have h1 := chk_len (bb (scr s (vit.vit (undo r l zs)).1)).1
  have h2 := bb_len (scr s (vit.vit (undo r l zs)).1)
  rw [scr_len] at h2
  have h3 := vit_len (undo r l zs)
  have h4 := undo_len r l zs
  omega
theorem rx_le (zs : List Int) : (rx zs).2.1.length ≤ 4000 + zs.length := by
  unfold rx; split
  · split
    · have := unpay_len (dh (zs.take 54)).1.1 (dh (zs.take 54)).1.2.1 (dh (zs.take 54)).1.2.2 (zs.drop 54)
      simp only [List.length_drop] at this ⊢; omega
    · simp
  · simp
/-- Of two paths through the trellis whose symbols agree at the even places. -/
theorem even_eq : ∀ (a b : List Int) (s : Int), (∀ z ∈ a, 0 ≤ z ∧ z ≤ 1) → (∀ z ∈ b, 0 ≤ z ∧ z ≤ 1) → a.length = b.length → (∀ k, k < a.length → (cw s a).getD (2 * k) 0 = (cw s b).getD (2 * k) 0) → a = b
  | [], [], _, _, _, _, _ => rfl
  | [], _ :: _, _, _, _, h, _ => by simp at h
  | _ :: _, [], _, _, _, h, _ => by simp at h
  | x :: a, y :: b, s, ha, hb, hl, h => by
    have hx := ha x (List.mem_cons_self ..)
    have hy := hb y (List.mem_cons_self ..)
    have h0 := h 0 (by simp)
    have e : op1 s x = op1 s y := by simpa [cw] using h0
    have exy : x = y := by unfold op1 at e; omega
    subst exy
    congr 1
    refine even_eq a b (nst s x) (fun z hz => ha z (List.mem_cons_of_mem _ hz)) (fun z hz => hb z (List.mem_cons_of_mem _ hz)) (by simpa using hl) fun k hk => ?_
    have h1 := h (k + 1) (by simpa using hk)
    rw [show 2 * (k + 1) = 2 * k + 2 by omega] at h1
    simpa [cw] using h1
/-- Symbols that are as near as can be. -/
theorem hd_zero : ∀ (a b : List Int), a.length = b.length → hd a b = 0 → ∀ i, i < a.length → b.getD i 0 = a.getD i 0 ∨ b.getD i 0 = 2
  | [], _, _, _, i, h => by simp at h
  | _ :: _, [], h, _, _, _ => by simp at h
  | x :: a, y :: b, hl, h, i, hi => by
    have h1 := sd_in x y
    have h2 := hd_in a b
    simp only [hd] at h
    rcases i with _ | i
    · have : sd x y = 0 := by omega
      unfold sd at this
      by_cases g : y = x ∨ y = 2
      · simpa using g
      · rw [if_neg g] at this; omega
    · have := hd_zero a b (by simpa using hl) (by omega) i (by simpa using hi)
      simpa using this
theorem hd_near : ∀ (a b : List Int), a.length = b.length → (∀ i, i < a.length → b.getD i 0 = a.getD i 0 ∨ b.getD i 0 = 2) → hd a b = 0
  | [], _, _, _ => by simp [hd]
  | _ :: _, [], h, _ => by simp at h
  | x :: a, y :: b, hl, h => by
    have h0 := h 0 (by simp)
    have ih := hd_near a b (by simpa using hl) fun i hi => by simpa using h (i + 1) (by simpa using hi)
    have h0' : y = x ∨ y = 2 := by simpa using h0
    simp only [hd, ih]
    unfold sd; rw [if_pos h0']; rfl
/-- A punctured word is decoded. -/
theorem dec_punc {l zs : List Int} {n : Nat} (hl : isb l = true) (hn : l.length = n) (hz : zs.length = 2 * (n + 2)) (h : ∀ i, i < 2 * (n + 2) → zs.getD i 0 = if i % 4 = 3 then 2 else (conv l).getD i 0) : dec zs n = l := by
  have hc : (conv l).length = 2 * (n + 2) := by rw [conv_len_yes hl, hn]
  have h0 : hd (conv l) zs = 0 := hd_near _ _ (by rw [hc, hz]) fun i hi => by
    rw [h i (by omega)]
    split
    · exact Or.inr rfl
    · exact Or.inl rfl
  have hb := dec_best hz hl hn
  have hh := dec_hd hz
  have hnn := dec_nn hz
  have hd0 : hd (conv (dec zs n)) zs = 0 := by omega
  have hdl : (conv (dec zs n)).length = 2 * (n + 2) := by rw [conv_len_yes (dec_bit hz), dec_len]
  have hagree := hd_zero _ _ (by rw [hdl, hz]) hd0
  rw [hdl] at hagree
  have ht : tail (dec zs n) = tail l := by
    refine even_eq _ _ 0 (isb_all (tail_isb (dec_bit hz))) (isb_all (tail_isb hl)) (by rw [tail_len, tail_len, dec_len, hn]) fun k hk => ?_
    rw [tail_len, dec_len] at hk
    have g1 := hagree (2 * k) (by omega)
    have g2 := h (2 * k) (by omega)
    rw [if_neg (by omega)] at g2
    have hbit := getD_in (conv_bit l) (2 * k)
    rw [conv_yes (dec_bit hz)] at g1
    rw [conv_yes hl] at g2 hbit
    rcases g1 with g1 | g1
    · rw [← g1, g2]
    · omega
  have := congrArg (List.take n) ht
  unfold tail at this
  rwa [List.take_append_of_le_length (by rw [dec_len]; omega), List.take_of_length_le (by rw [dec_len]; omega), List.take_append_of_le_length (by omega), List.take_of_length_le (by omega)] at this
/-- The bytes of a payload come back from its bits. -/
theorem chk_wc (l : List Int) : chk (wc l) = (l, true) := by
  have hf : front (wc l) = l := by rw [front, wc_len, wc, List.take_append_of_le_length (by omega), List.take_of_length_le (by omega)]
  rw [chk_yes (by rw [wc_len]; omega) (by rw [hf]), hf]
theorem wc_byt {l : List Int} (h : Byt l) : Byt (wc l) := fun z hz => by
  have hc := crc_lt h
  unfold wc at hz
  rcases List.mem_append.1 hz with hz | hz
  · exact h z hz
  · rcases List.mem_cons.1 hz with rfl | hz
    · omega
    · have : z = (crc l : Int) / 256 := by simpa using hz
      omega
theorem back_bytes {s : Int} {b : List Int} (hb : Byt b) : chk (bb (scr s (bits8 s b))).1 = (b, true) := by
  unfold bits8
  rw [scr_scr, bb_btb (wc_byt hb), chk_wc]
theorem inl_word {n : Nat} (hn : n ≤ 120) : inl ((2 * (8 * (n + 2) + 2) : Nat) : Int) = ((8 * (n + 2) : Nat) : Int) := by
  rw [show 2 * (8 * (n + 2) + 2) = 2 * ((8 * (n + 2)) + 2) by omega]; exact inl_enc (by omega)
theorem unpay_of {r l s : Int} {b zs U : List Int} (hb : Byt b) (hl : b.length ≤ 120) (hU : undo r l zs = U) (hUl : U.length = 2 * (8 * (b.length + 2) + 2)) (hUs : inr U 0 2 = true) (hd : dec U (8 * (b.length + 2)) = bits8 s b) : unpay r l s zs = (b, true) := by
  unfold unpay
  rw [hU, vit_yes (n := 8 * (b.length + 2)) (by rw [hUl]; exact inl_word hl) hUs]
  simp only
  rw [hd, back_bytes hb]
/-- An undisturbed payload. -/
theorem unpay_pay {r l s : Int} {b : List Int} (h : Hv r l s) (hb : Byt b) (hl : (b.length : Int) = l) : unpay r l s (pay r s b) = (b, true) := by
  have h' := h
  unfold Hv at h'
  have hw := word_len s b
  by_cases h2 : r = 2
  · have hU : undo r l (pay r s b) = dep1 (punc (word s b)) (word s b).length := by
      rw [undo_fast h2, pay, pun_fast h2, dei_itl, ← dep_punc _ (by omega)]
      congr 1
      rw [cl_eq (by omega), hw]; omega
    refine unpay_of hb (by omega) hU (by rw [dep1_len, hw]) ?_ ?_
    · refine inr_of_at fun i hi => ?_
      rw [dep1_len] at hi
      rw [dep1_at _ hi]
      split
      · omega
      · rename_i h3
        rw [punc_at _ hi h3]
        have := isb_getD (word_isb s b) i
        omega
    · refine dec_punc (bits8_isb s b) (bits8_len s b) (by rw [dep1_len, hw]) fun i hi => ?_
      rw [dep1_at _ (by rw [hw]; exact hi)]
      split
      · rfl
      · rename_i h3
        rw [punc_at _ (by rw [hw]; exact hi) h3]; rfl
  · have hU : undo r l (pay r s b) = word s b := by rw [undo_slow h2, pay, pun_slow h2, dei_itl]
    refine unpay_of hb (by omega) hU hw ((inr_iff _ _ _).2 fun z hz => by have := isb_all (word_isb s b) z hz; omega) ?_
    exact (corrects (d := 0) (bits8_isb s b) (bits8_len s b) hw (fun z hz => by have := isb_all (word_isb s b) z hz; omega) (diff_self _) (by omega)).1
theorem rx_tx {r l s : Int} {b : List Int} (h : Hv r l s) (hb : Byt b) (hl : (b.length : Int) = l) : rx (tx r l s b) = ((r, l, s), b, 0) := by
  have hlen := tx_len_yes h hl
  rw [tx_yes h hl] at hlen ⊢
  have he := enc_len h
  refine rx_ok ?_ hlen ?_
  · rw [List.take_append_of_le_length (by omega), List.take_of_length_le (by omega)]; exact dh_enc h
  · rw [List.drop_append_of_le_length (by omega), List.drop_of_length_le (by omega), List.nil_append]; exact unpay_pay h hb hl
theorem rx_short {r l s : Int} {b : List Int} (h : Hv r l s) (hl : (b.length : Int) = l) : rx ((tx r l s b).take 54) = ((0, 0, 0), [], 1) := by
  have he := enc_len h
  have e : (tx r l s b).take 54 = enc r l s := by rw [tx_yes h hl, List.take_append_of_le_length (by omega), List.take_of_length_le (by omega)]
  rw [e]
  refine rx_len (r := r) (l := l) (s := s) ?_ ?_
  · rw [List.take_of_length_le (by omega)]; exact dh_enc h
  · rw [he, fsy_yes h]
    have := psy_in h
    omega
end Go.Proofs.YtdelpepepbkjmaaGreatDoor.phm
end

section
namespace Go.Proofs.YtdelpepepbkjmaaGreatDoor.scrs
open Go.RowKit sl harn bm rng scrm

theorem low1 (n : Int) : bits .and .i64 n 1 = n % 2 := draw.low_bits 1 (by omega) n
theorem low7 (n : Int) : bits .and .i64 n 127 = n % 128 := draw.low_bits 7 (by omega) n
theorem ret_num2 {a b : Int} (h : a = b) : Ending.returned (.int .i64 a) = .returned (.int .i64 b) := by rw [h]
/-- The output bit as the program gathers it: what its first k characters have given. -/
def got (s : Int) (k : Nat) : Int := if k ≤ 3 then 0 else if k ≤ 6 then s / 8 % 2 else (s / 8 + s / 64) % 2
theorem got_seven (s : Int) : got s 7 = outp s := rfl
def tested : ByteArray := { data := #[48, 48, 48, 49, 48, 48, 49] }
theorem xor2 (x y : Int) : bits .xor .i64 (x % 2) (y % 2) = (x + y) % 2 := by
  rw [xor_bit (by omega) (by omega)]; split <;> omega

set_option maxRecDepth 100000 in
theorem outputBit (s : Int) (h : 1 ≤ s ∧ s ≤ 127) (w : World) :
    Calls Tryz.prog 91 #[.int .i64 s] w fun e w' => e = .returned (.int .i64 (outp s)) ∧ Below w.heap.size w w' := by
  obtain ⟨h1, h2⟩ := h
  go_enter Tryz.func91, Tryz.ntmps91
  go_wp2
  go_loopw [3] (fun n w' => ∃ (k : Nat) (a : Int), w' = w.iter tested k ∧ n = .int .i64 a ∧ a = got s k ∧ k ≤ 7) (fun _ w' => 7 - w'.iterPos w.heap.size)
  case atStart => exact ⟨0, 0, rfl, rfl, rfl, by omega⟩
  case round =>
    obtain ⟨k, a, rfl, rfl, ha, hk⟩ := hrel
    have hk8 : k = 0 ∨ k = 1 ∨ k = 2 ∨ k = 3 ∨ k = 4 ∨ k = 5 ∨ k = 6 ∨ k = 7 := by omega
    rcases hk8 with rfl | rfl | rfl | rfl | rfl | rfl | rfl | rfl
    · have hnx : ∀ ty, (Instr.next (.pointer (some ⟨w.heap.size, 0, none⟩)) true ty).run Tryz.prog (w.iter tested 0) = .ok (.tuple #[.bool true, .int .i64 0, .int .i32 48]) (w.iter tested 1) := fun ty => run_next_ascii w tested 0 ty (by decide) (by decide)
      go_wp2
      go_roundw
      case rel => exact ⟨1, a, rfl, rfl, ha, by omega⟩
      case measure => simp
    · have hnx : ∀ ty, (Instr.next (.pointer (some ⟨w.heap.size, 0, none⟩)) true ty).run Tryz.prog (w.iter tested 1) = .ok (.tuple #[.bool true, .int .i64 1, .int .i32 48]) (w.iter tested 2) := fun ty => run_next_ascii w tested 1 ty (by decide) (by decide)
      go_wp2
      go_roundw
      case rel => exact ⟨2, a, rfl, rfl, ha, by omega⟩
      case measure => simp
    · have hnx : ∀ ty, (Instr.next (.pointer (some ⟨w.heap.size, 0, none⟩)) true ty).run Tryz.prog (w.iter tested 2) = .ok (.tuple #[.bool true, .int .i64 2, .int .i32 48]) (w.iter tested 3) := fun ty => run_next_ascii w tested 2 ty (by decide) (by decide)
      go_wp2
      go_roundw
      case rel => exact ⟨3, a, rfl, rfl, ha, by omega⟩
      case measure => simp
    · have hnx : ∀ ty, (Instr.next (.pointer (some ⟨w.heap.size, 0, none⟩)) true ty).run Tryz.prog (w.iter tested 3) = .ok (.tuple #[.bool true, .int .i64 3, .int .i32 49]) (w.iter tested 4) := fun ty => run_next_ascii w tested 3 ty (by decide) (by decide)
      have ha2 : a = 0 := ha
      subst ha2
      have hl := low1 (s / 8)
      have hx : bits .xor .i64 0 (s / 8 % 2) = s / 8 % 2 := by have := xor2 0 (s / 8); rw [Int.zero_add] at this; exact this
      clear ha hk
      go_wp2
      go_roundw
      case rel => exact ⟨4, _, rfl, rfl, rfl, by omega⟩
      case measure => simp
    · have hnx : ∀ ty, (Instr.next (.pointer (some ⟨w.heap.size, 0, none⟩)) true ty).run Tryz.prog (w.iter tested 4) = .ok (.tuple #[.bool true, .int .i64 4, .int .i32 48]) (w.iter tested 5) := fun ty => run_next_ascii w tested 4 ty (by decide) (by decide)
      go_wp2
      go_roundw
      case rel => exact ⟨5, a, rfl, rfl, ha, by omega⟩
      case measure => simp
    · have hnx : ∀ ty, (Instr.next (.pointer (some ⟨w.heap.size, 0, none⟩)) true ty).run Tryz.prog (w.iter tested 5) = .ok (.tuple #[.bool true, .int .i64 5, .int .i32 48]) (w.iter tested 6) := fun ty => run_next_ascii w tested 5 ty (by decide) (by decide)
      go_wp2
      go_roundw
      case rel => exact ⟨6, a, rfl, rfl, ha, by omega⟩
      case measure => simp
    · have hnx : ∀ ty, (Instr.next (.pointer (some ⟨w.heap.size, 0, none⟩)) true ty).run Tryz.prog (w.iter tested 6) = .ok (.tuple #[.bool true, .int .i64 6, .int .i32 49]) (w.iter tested 7) := fun ty => run_next_ascii w tested 6 ty (by decide) (by decide)
      have ha2 : a = (s / 8 % 2) := ha
      subst ha2
      have hl := low1 (s / 64)
      have hx := xor2 (s / 8) (s / 64)
      clear ha hk
      go_wp2
      go_roundw
      case rel => exact ⟨7, _, rfl, rfl, rfl, by omega⟩
      case measure => simp
    · have hnx : ∀ ty, (Instr.next (.pointer (some ⟨w.heap.size, 0, none⟩)) true ty).run Tryz.prog (w.iter tested 7) = .ok (.tuple #[.bool false]) (w.iter tested 7) := fun ty => run_next_end w tested 7 ty (by decide)
      go_wp2
      go_ret
      exact ⟨ret_num2 ha, (Below.refl _ _).alloc (Nat.le_refl _) _⟩
theorem out_all : ∀ s : Nat, s < 128 → bits .and .i64 (bits .xor .i64 ((s : Int) / 8) ((s : Int) / 64)) 1 = outp s := by decide +kernel
theorem or_all : ∀ s : Nat, s < 128 → bits .or .i64 (2 * (s : Int) % 128) (outp s) = 2 * (s : Int) % 128 + outp s := by decide +kernel
theorem l5Out (s : Int) (h : 1 ≤ s ∧ s ≤ 127) (w : World) :
    Calls Tryz.prog 82 #[.int .i64 s] w fun e w' => e = .returned (.int .i64 (outp s)) ∧ w = w' := by
  obtain ⟨h1, h2⟩ := h
  obtain ⟨m, rfl⟩ := Int.eq_ofNat_of_zero_le (show 0 ≤ s by omega)
  have ho := out_all m (by omega)
  go_enter Tryz.func82, Tryz.ntmps82
  go_wp2
  go_ret
  exact ⟨rfl, rfl⟩
theorem isState_yes (s : Int) (h : 1 ≤ s ∧ s ≤ 127) (w : World) :
    Calls Tryz.prog 50 #[.int .i64 s] w fun e w' => e = .returned (.bool true) ∧ w = w' := by
  have H := Lib.hid h
  clear h
  go_enter Tryz.func50, Tryz.ntmps50
  go_wp2_with (go_at_call 49; refine (inRange_yes s 1 127 H.out _).mono ?_; rintro e w1 ⟨rfl, rfl⟩)
  go_ret
  exact ⟨rfl, rfl⟩
theorem isState_no (s : Int) (h : ¬ (1 ≤ s ∧ s ≤ 127)) (w : World) :
    Calls Tryz.prog 50 #[.int .i64 s] w fun e w' => e = .returned (.bool false) ∧ w = w' := by
  have H := Lib.hid h
  clear h
  go_enter Tryz.func50, Tryz.ntmps50
  go_wp2_with (go_at_call 49; refine (inRange_no s 1 127 H.out _).mono ?_; rintro e w1 ⟨rfl, rfl⟩)
  go_ret
  exact ⟨rfl, rfl⟩
theorem implNext (s : Int) (w : World) :
    Calls Tryz.prog 92 #[.int .i64 s] w fun e w' => e = .returned (.int .i64 (nx s)) ∧ Below w.heap.size w w' := by
  by_cases h : 1 ≤ s ∧ s ≤ 127
  · have H := Lib.hid h
    obtain ⟨h1, h2⟩ := h
    obtain ⟨m, rfl⟩ := Int.eq_ofNat_of_zero_le (show 0 ≤ s by omega)
    have hl : bits .and .i64 ((m : Int) * 2) 127 = 2 * (m : Int) % 128 := by rw [low7]; omega
    have ho := or_all m (by omega)
    have HO := Lib.hid (nx_yes H.out)
    obtain ⟨o, hoe⟩ : ∃ o, outp (m : Int) = o := ⟨_, rfl⟩
    rw [hoe] at ho
    have HE := Lib.hid hoe
    clear hoe
    go_enter Tryz.func92, Tryz.ntmps92
    go_wp2_with (first
      | (go_at_call 50; refine (isState_yes _ H.out _).mono ?_; rintro e w1 ⟨rfl, rfl⟩)
      | (go_at_call 91; refine (outputBit _ H.out _).mono ?_; rw [HE.out]; rintro e w2 ⟨rfl, hb⟩; have HB := Lib.hid hb; clear hb))
    go_ret
    exact ⟨ret_num2 (by rw [HO.out, HE.out]), HB.out⟩
  · have H := Lib.hid h
    clear h
    go_enter Tryz.func92, Tryz.ntmps92
    go_wp2_with (go_at_call 50; refine (isState_no _ H.out _).mono ?_; rintro e w1 ⟨rfl, rfl⟩)
    go_ret
    exact ⟨ret_num2 (nx_no H.out).symm, Below.refl _ _⟩
theorem specNext (s : Int) (w : World) :
    Calls Tryz.prog 83 #[.int .i64 s] w fun e w' => e = .returned (.int .i64 (nx s)) ∧ w = w' := by
  by_cases h : 1 ≤ s ∧ s ≤ 127
  · have H := Lib.hid h
    obtain ⟨h1, h2⟩ := h
    obtain ⟨m, rfl⟩ := Int.eq_ofNat_of_zero_le (show 0 ≤ s by omega)
    have hl : bits .and .i64 ((m : Int) * 2) 127 = 2 * (m : Int) % 128 := by rw [low7]; omega
    have ho := or_all m (by omega)
    have HO := Lib.hid (nx_yes H.out)
    obtain ⟨o, hoe⟩ : ∃ o, outp (m : Int) = o := ⟨_, rfl⟩
    rw [hoe] at ho
    have HE := Lib.hid hoe
    clear hoe
    go_enter Tryz.func83, Tryz.ntmps83
    go_wp2_with (first
      | (go_at_call 32; refine (l1In_yes _ 1 127 H.out _).mono ?_; rintro e w1 ⟨rfl, rfl⟩)
      | (go_at_call 82; refine (l5Out _ H.out _).mono ?_; rw [HE.out]; rintro e w2 ⟨rfl, rfl⟩))
    go_ret
    exact ⟨ret_num2 (by rw [HO.out, HE.out]), rfl⟩
  · have H := Lib.hid h
    clear h
    go_enter Tryz.func83, Tryz.ntmps83
    go_wp2_with (go_at_call 32; refine (l1In_no _ 1 127 H.out _).mono ?_; rintro e w1 ⟨rfl, rfl⟩)
    go_ret
    exact ⟨ret_num2 (nx_no H.out).symm, rfl⟩
end Go.Proofs.YtdelpepepbkjmaaGreatDoor.scrs
end

section
namespace Go.Proofs.YtdelpepepbkjmaaGreatDoor.phs
open Go.RowKit sl harn rng phm

/-- A header as a value. -/
abbrev hval (r l s : Int) : Value := .agg #[.int .i64 r, .int .i64 l, .int .i64 s]
theorem results_cell1 {fn : Func} {p : Tmp} {ty : TypeId} (h : fn.results = #[.cell p ty]) (tmps : Array Value) (P : Program) (w : World) :
    (results fn tmps).run P w = ((asAddr (tmps.getD p undef)).run P w).andThen fun a w₁ => (loadVar ty a).run P w₁ := by
  simp only [results, h]
  simp [Sem.run_bind, Result.andThen]
theorem below_box2 (w : World) (o o' : Obj) : Below w.heap.size w ((w.alloc o).alloc o') := ((Below.refl _ _).alloc (Nat.le_refl _) _).alloc (by simp) _
theorem below_box (w : World) (o : Obj) : Below w.heap.size w (w.alloc o) := (Below.refl _ _).alloc (Nat.le_refl _) _
/-- A header in a block of its own. -/
def Box (w : World) (b : Nat) (r l s : Int) : Prop := w.heap[b]? = some (.cells #[.int .i64 r, .int .i64 l, .int .i64 s] 25 (0, 0))
section
variable {w w' : World} {b : Nat} {r l s : Int}
theorem Box.c0 (h : Box w b r l s) : w.cell? ⟨b, 0, none⟩ = some (.int .i64 r) := by unfold Box at h; simp [World.cell?, h]
theorem Box.c1 (h : Box w b r l s) : w.cell? ⟨b, 1, none⟩ = some (.int .i64 l) := by unfold Box at h; simp [World.cell?, h]
theorem Box.c2 (h : Box w b r l s) : w.cell? ⟨b, 2, none⟩ = some (.int .i64 s) := by unfold Box at h; simp [World.cell?, h]
theorem Box.lt (h : Box w b r l s) : b < w.heap.size := lt_of_block h
theorem Box.same (h : Box w b r l s) (hb : w'.heap[b]? = w.heap[b]?) : Box w' b r l s := by unfold Box at h ⊢; rw [hb]; exact h
theorem Box.below (h : Box w b r l s) (hb : Below w.heap.size w w') : Box w' b r l s := h.same (hb.block b h.lt)
theorem Box.free (h : Box w b r l s) (i : Nat) : w.frozen? ⟨b, i, none⟩ = false := by unfold Box at h; simp [World.frozen?, h]
theorem Box.tch {lo hi : Nat} (h : Box w b r l s) (hb : Tch lo hi w w') (hd : b < lo ∨ hi ≤ b) : Box w' b r l s := h.same (hb.block b h.lt hd)
theorem Box.made (w : World) (r l s : Int) : Box (w.alloc (.cells #[.int .i64 r, .int .i64 l, .int .i64 s] 25)) w.heap.size r l s := heap_alloc_new w _
theorem Box.up {B : Nat} (h : Box w b r l s) (hb : Below B w w') (hB : b < B) : Box w' b r l s := h.same (hb.block b hB)
end
/-- What a function of a header hands back that is a bool, or an integer. -/
def BPost (b : Bool) (w : World) (e : Ending) (w' : World) : Prop := e = .returned (.bool b) ∧ Below w.heap.size w w'
def NPost (n : Int) (w : World) (e : Ending) (w' : World) : Prop := e = .returned (.int .i64 n) ∧ Below w.heap.size w w'

theorem implHv (r l s : Int) (w : World) :
    Calls Tryz.prog 29 #[.agg #[.int .i64 r, .int .i64 l, .int .i64 s]] w (BPost (hv r l s) w) := by
  by_cases hr : 1 ≤ r ∧ r ≤ 2
  · by_cases hl : 0 ≤ l ∧ l ≤ 120
    · by_cases hs : 1 ≤ s ∧ s ≤ 127
      · have HV := Lib.hid (hv_yes (show Hv r l s from ⟨hr, hl, hs⟩))
        have H1 := Lib.hid hr
        have H2 := Lib.hid hl
        have H3 := Lib.hid hs
        clear hr hl hs
        go_enter Tryz.func29, Tryz.ntmps29
        go_wp2_with fail
        (with_reducible refine (inRange_yes _ _ _ H1.out _).mono ?_)
        rintro e w1 ⟨rfl, rfl⟩
        go_wp2_with fail
        (with_reducible refine (inRange_yes _ _ _ H2.out _).mono ?_)
        rintro e w1 ⟨rfl, rfl⟩
        go_wp2_with fail
        (with_reducible refine (scrs.isState_yes _ H3.out _).mono ?_)
        rintro e w1 ⟨rfl, rfl⟩
        go_wp2_with fail
        go_ret
        rw [HV.out]
        exact ⟨rfl, below_box _ _⟩
      · have HV := Lib.hid (hv_no (show ¬ Hv r l s from fun h => hs h.2.2))
        have H1 := Lib.hid hr
        have H2 := Lib.hid hl
        have H3 := Lib.hid hs
        clear hr hl hs
        go_enter Tryz.func29, Tryz.ntmps29
        go_wp2_with fail
        (with_reducible refine (inRange_yes _ _ _ H1.out _).mono ?_)
        rintro e w1 ⟨rfl, rfl⟩
        go_wp2_with fail
        (with_reducible refine (inRange_yes _ _ _ H2.out _).mono ?_)
        rintro e w1 ⟨rfl, rfl⟩
        go_wp2_with fail
        (with_reducible refine (scrs.isState_no _ H3.out _).mono ?_)
        rintro e w1 ⟨rfl, rfl⟩
        go_wp2_with fail
        go_ret
        rw [HV.out]
        exact ⟨rfl, below_box _ _⟩
    · have HV := Lib.hid (hv_no (show ¬ Hv r l s from fun h => hl h.2.1))
      have H1 := Lib.hid hr
      have H2 := Lib.hid hl
      clear hr hl
      go_enter Tryz.func29, Tryz.ntmps29
      go_wp2_with fail
      (with_reducible refine (inRange_yes _ _ _ H1.out _).mono ?_)
      rintro e w1 ⟨rfl, rfl⟩
      go_wp2_with fail
      (with_reducible refine (inRange_no _ _ _ H2.out _).mono ?_)
      rintro e w1 ⟨rfl, rfl⟩
      go_wp2_with fail
      go_ret
      rw [HV.out]
      exact ⟨rfl, below_box _ _⟩
  · have HV := Lib.hid (hv_no (show ¬ Hv r l s from fun h => hr h.1))
    have H1 := Lib.hid hr
    clear hr
    go_enter Tryz.func29, Tryz.ntmps29
    go_wp2_with fail
    (with_reducible refine (inRange_no _ _ _ H1.out _).mono ?_)
    rintro e w1 ⟨rfl, rfl⟩
    go_wp2_with fail
    go_ret
    rw [HV.out]
    exact ⟨rfl, below_box _ _⟩
theorem specHv (r l s : Int) (w : World) :
    Calls Tryz.prog 9 #[.agg #[.int .i64 r, .int .i64 l, .int .i64 s]] w (BPost (hv r l s) w) := by
  by_cases hr : 1 ≤ r ∧ r ≤ 2
  · by_cases hl : 0 ≤ l ∧ l ≤ 120
    · by_cases hs : 1 ≤ s ∧ s ≤ 127
      · have HV := Lib.hid (hv_yes (show Hv r l s from ⟨hr, hl, hs⟩))
        have H1 := Lib.hid hr
        have H2 := Lib.hid hl
        have H3 := Lib.hid hs
        clear hr hl hs
        go_enter Tryz.func9, Tryz.ntmps9
        go_wp2_with fail
        (with_reducible refine (l1In_yes _ _ _ H1.out _).mono ?_)
        rintro e w1 ⟨rfl, rfl⟩
        go_wp2_with fail
        (with_reducible refine (l1In_yes _ _ _ H2.out _).mono ?_)
        rintro e w1 ⟨rfl, rfl⟩
        go_wp2_with fail
        (with_reducible refine (l1In_yes _ _ _ H3.out _).mono ?_)
        rintro e w1 ⟨rfl, rfl⟩
        go_wp2_with fail
        go_ret
        rw [HV.out]
        exact ⟨rfl, below_box _ _⟩
      · have HV := Lib.hid (hv_no (show ¬ Hv r l s from fun h => hs h.2.2))
        have H1 := Lib.hid hr
        have H2 := Lib.hid hl
        have H3 := Lib.hid hs
        clear hr hl hs
        go_enter Tryz.func9, Tryz.ntmps9
        go_wp2_with fail
        (with_reducible refine (l1In_yes _ _ _ H1.out _).mono ?_)
        rintro e w1 ⟨rfl, rfl⟩
        go_wp2_with fail
        (with_reducible refine (l1In_yes _ _ _ H2.out _).mono ?_)
        rintro e w1 ⟨rfl, rfl⟩
        go_wp2_with fail
        (with_reducible refine (l1In_no _ _ _ H3.out _).mono ?_)
        rintro e w1 ⟨rfl, rfl⟩
        go_wp2_with fail
        go_ret
        rw [HV.out]
        exact ⟨rfl, below_box _ _⟩
    · have HV := Lib.hid (hv_no (show ¬ Hv r l s from fun h => hl h.2.1))
      have H1 := Lib.hid hr
      have H2 := Lib.hid hl
      clear hr hl
      go_enter Tryz.func9, Tryz.ntmps9
      go_wp2_with fail
      (with_reducible refine (l1In_yes _ _ _ H1.out _).mono ?_)
      rintro e w1 ⟨rfl, rfl⟩
      go_wp2_with fail
      (with_reducible refine (l1In_no _ _ _ H2.out _).mono ?_)
      rintro e w1 ⟨rfl, rfl⟩
      go_wp2_with fail
      go_ret
      rw [HV.out]
      exact ⟨rfl, below_box _ _⟩
  · have HV := Lib.hid (hv_no (show ¬ Hv r l s from fun h => hr h.1))
    have H1 := Lib.hid hr
    clear hr
    go_enter Tryz.func9, Tryz.ntmps9
    go_wp2_with fail
    (with_reducible refine (l1In_no _ _ _ H1.out _).mono ?_)
    rintro e w1 ⟨rfl, rfl⟩
    go_wp2_with fail
    go_ret
    rw [HV.out]
    exact ⟨rfl, below_box _ _⟩

/-- Two headers alike. -/
def eqh (r l s r' l' s' : Int) : Bool := decide (r = r' ∧ l = l' ∧ s = s')
theorem eqh_yes {r l s r' l' s' : Int} (h : r = r' ∧ l = l' ∧ s = s') : eqh r l s r' l' s' = true := decide_eq_true h
theorem eqh_no {r l s r' l' s' : Int} (h : ¬ (r = r' ∧ l = l' ∧ s = s')) : eqh r l s r' l' s' = false := decide_eq_false h
theorem eqHdr (r l s r' l' s' : Int) (w : World) :
    Calls Tryz.prog 18 #[.agg #[.int .i64 r, .int .i64 l, .int .i64 s], .agg #[.int .i64 r', .int .i64 l', .int .i64 s']] w (BPost (eqh r l s r' l' s') w) := by
  by_cases h : r = r' ∧ l = l' ∧ s = s'
  · have HD := Lib.hid (eqh_yes h)
    obtain ⟨rfl, rfl, rfl⟩ := h
    go_enter Tryz.func18, Tryz.ntmps18
    go_wp2
    go_ret
    rw [HD.out]
    exact ⟨rfl, below_box2 _ _ _⟩
  · have HD := Lib.hid (eqh_no h)
    by_cases h1 : r = r'
    · subst h1
      by_cases h2 : l = l'
      · subst h2
        have h3 : (s == s') = false := by
          have : ¬ s = s' := fun e => h ⟨rfl, rfl, e⟩
          simpa using this
        clear h
        go_enter Tryz.func18, Tryz.ntmps18
        go_wp2
        go_ret
        rw [HD.out]
        exact ⟨rfl, below_box2 _ _ _⟩
      · have h3 : (l == l') = false := by simpa using h2
        clear h h2
        go_enter Tryz.func18, Tryz.ntmps18
        go_wp2
        go_ret
        rw [HD.out]
        exact ⟨rfl, below_box2 _ _ _⟩
    · have h3 : (r == r') = false := by simpa using h1
      clear h h1
      go_enter Tryz.func18, Tryz.ntmps18
      go_wp2
      go_ret
      rw [HD.out]
      exact ⟨rfl, below_box2 _ _ _⟩
theorem wf_num {n : Int} (h : -1000000 ≤ n ∧ n ≤ 1000000) : (Lit.int .i64 n).wf = true := WalkArith.wf_i64 (by omega)
theorem codedLen (r l s : Int) (h : 0 ≤ l ∧ l ≤ 120) (w : World) :
    Calls Tryz.prog 62 #[.agg #[.int .i64 r, .int .i64 l, .int .i64 s]] w (NPost (cl l) w) := by
  obtain ⟨m, hm⟩ : ∃ m, 8 * (l + 2) = m := ⟨_, rfl⟩
  have HM := Lib.hid (show cvm.enl m = cl l by rw [← hm]; rfl)
  go_enter Tryz.func62, Tryz.ntmps62
  go_wp2_with fail
  (with_reducible refine (cvs.implEnl m _).mono ?_)
  rw [HM.out]
  rintro e w1 ⟨rfl, rfl⟩
  go_wp2_with fail
  go_ret
  exact ⟨rfl, below_box _ _⟩
theorem implPsy (r l s : Int) (w : World) :
    Calls Tryz.prog 33 #[.agg #[.int .i64 r, .int .i64 l, .int .i64 s]] w (NPost (psy r l s) w) := by
  by_cases h : Hv r l s
  · have HV := Lib.hid (hv_yes h)
    have HL := Lib.hid h.2.1
    have hcl := cl_eq h.2.1
    have HW := Lib.hid (show (Lit.int .i64 (cl l)).wf = true from wf_num (by have := h.2.1; omega))
    clear hcl
    by_cases h2 : r = 2
    · have HP := Lib.hid (psy_fast h h2)
      subst h2
      clear h
      go_enter Tryz.func33, Tryz.ntmps33
      go_wp2_with fail
      (with_reducible refine (implHv _ _ _ _).mono ?_)
      rw [HV.out]
      rintro e w1 ⟨rfl, hb⟩
      have B1 := Lib.hid ((below_box w (.cells #[.int .i64 2, .int .i64 l, .int .i64 s] 25)).trans (hb.mono (by simp)))
      have X1 := Lib.hid ((Box.made w 2 l s).below hb)
      have c0 := X1.out.c0
      have c1 := X1.out.c1
      have c2 := X1.out.c2
      clear hb
      go_wp2_with fail
      (with_reducible refine (codedLen _ _ _ HL.out _).mono ?_)
      rintro e w2 ⟨rfl, hb⟩
      have B2 := Lib.hid (B1.out.trans (hb.mono B1.out.size))
      clear hb c0 c1 c2
      go_wp2_with fail
      (with_reducible refine (cvs.implPln _ HW.out _).mono ?_)
      rintro e w3 ⟨rfl, rfl⟩
      go_wp2_with fail
      go_ret
      rw [HP.out]
      exact ⟨rfl, B2.out⟩
    · have HP := Lib.hid (psy_slow h h2)
      have h3 : (r == 2) = false := by simpa using h2
      clear h h2
      go_enter Tryz.func33, Tryz.ntmps33
      go_wp2_with fail
      (with_reducible refine (implHv _ _ _ _).mono ?_)
      rw [HV.out]
      rintro e w1 ⟨rfl, hb⟩
      have B1 := Lib.hid ((below_box w (.cells #[.int .i64 r, .int .i64 l, .int .i64 s] 25)).trans (hb.mono (by simp)))
      have X1 := Lib.hid ((Box.made w r l s).below hb)
      have c0 := X1.out.c0
      have c1 := X1.out.c1
      have c2 := X1.out.c2
      clear hb
      go_wp2_with fail
      (with_reducible refine (codedLen _ _ _ HL.out _).mono ?_)
      rintro e w2 ⟨rfl, hb⟩
      have B2 := Lib.hid (B1.out.trans (hb.mono B1.out.size))
      clear hb c0 c1 c2
      go_wp2_with fail
      go_ret
      rw [HP.out]
      exact ⟨rfl, B2.out⟩
  · have HV := Lib.hid (hv_no h)
    have HP := Lib.hid (psy_no h)
    clear h
    go_enter Tryz.func33, Tryz.ntmps33
    go_wp2_with fail
    (with_reducible refine (implHv _ _ _ _).mono ?_)
    rw [HV.out]
    rintro e w1 ⟨rfl, hb⟩
    have B1 := Lib.hid ((below_box w (.cells #[.int .i64 r, .int .i64 l, .int .i64 s] 25)).trans (hb.mono (by simp)))
    clear hb
    go_wp2_with fail
    go_ret
    rw [HP.out]
    exact ⟨rfl, B1.out⟩
theorem specPsy (r l s : Int) (w : World) :
    Calls Tryz.prog 37 #[.agg #[.int .i64 r, .int .i64 l, .int .i64 s]] w (NPost (psy r l s) w) := by
  by_cases h : Hv r l s
  · have HV := Lib.hid (hv_yes h)
    have hL := h.2.1
    have hcl := cl_eq h.2.1
    have HW := Lib.hid (show (Lit.int .i64 (cl l)).wf = true from wf_num (by have := h.2.1; omega))
    obtain ⟨m, hm⟩ : ∃ m, 8 * (l + 2) = m := ⟨_, rfl⟩
    have HM := Lib.hid (show cvm.enl m = cl l by rw [← hm]; rfl)
    clear hcl
    by_cases h2 : r = 2
    · have HP := Lib.hid (psy_fast h h2)
      subst h2
      clear h
      go_enter Tryz.func37, Tryz.ntmps37
      go_wp2_with fail
      (with_reducible refine (specHv _ _ _ _).mono ?_)
      rw [HV.out]
      rintro e w1 ⟨rfl, hb⟩
      have B1 := Lib.hid ((below_box w (.cells #[.int .i64 2, .int .i64 l, .int .i64 s] 25)).trans (hb.mono (by simp)))
      have X1 := Lib.hid ((Box.made w 2 l s).below hb)
      have c0 := X1.out.c0
      have c1 := X1.out.c1
      have c2 := X1.out.c2
      clear hb
      go_wp2_with fail
      (with_reducible refine (cvs.specEnl m _).mono ?_)
      rw [HM.out]
      rintro e w2 ⟨rfl, rfl⟩
      go_wp2_with fail
      (with_reducible refine (cvs.specPln _ HW.out _).mono ?_)
      rintro e w3 ⟨rfl, rfl⟩
      go_wp2_with fail
      go_ret
      rw [HP.out]
      exact ⟨rfl, B1.out⟩
    · have HP := Lib.hid (psy_slow h h2)
      have h3 : (r == 2) = false := by simpa using h2
      clear h h2
      go_enter Tryz.func37, Tryz.ntmps37
      go_wp2_with fail
      (with_reducible refine (specHv _ _ _ _).mono ?_)
      rw [HV.out]
      rintro e w1 ⟨rfl, hb⟩
      have B1 := Lib.hid ((below_box w (.cells #[.int .i64 r, .int .i64 l, .int .i64 s] 25)).trans (hb.mono (by simp)))
      have X1 := Lib.hid ((Box.made w r l s).below hb)
      have c0 := X1.out.c0
      have c1 := X1.out.c1
      have c2 := X1.out.c2
      clear hb
      go_wp2_with fail
      (with_reducible refine (cvs.specEnl m _).mono ?_)
      rw [HM.out]
      rintro e w2 ⟨rfl, rfl⟩
      go_wp2_with fail
      go_ret
      rw [HP.out]
      exact ⟨rfl, B1.out⟩
  · have HV := Lib.hid (hv_no h)
    have HP := Lib.hid (psy_no h)
    clear h
    go_enter Tryz.func37, Tryz.ntmps37
    go_wp2_with fail
    (with_reducible refine (specHv _ _ _ _).mono ?_)
    rw [HV.out]
    rintro e w1 ⟨rfl, hb⟩
    have B1 := Lib.hid ((below_box w (.cells #[.int .i64 r, .int .i64 l, .int .i64 s] 25)).trans (hb.mono (by simp)))
    clear hb
    go_wp2_with fail
    go_ret
    rw [HP.out]
    exact ⟨rfl, B1.out⟩
theorem implFsy (r l s : Int) (w : World) :
    Calls Tryz.prog 10 #[.agg #[.int .i64 r, .int .i64 l, .int .i64 s]] w (NPost (fsy r l s) w) := by
  by_cases h : Hv r l s
  · have HV := Lib.hid (hv_yes h)
    have hin := psy_in h
    obtain ⟨m, hm⟩ : ∃ m, psy r l s = m := ⟨_, rfl⟩
    rw [hm] at hin
    have HP := Lib.hid (show fsy r l s = 54 + m by rw [← hm]; exact fsy_yes h)
    have HM := Lib.hid hm
    clear hm h
    go_enter Tryz.func10, Tryz.ntmps10
    go_wp2_with fail
    (with_reducible refine (implHv _ _ _ _).mono ?_)
    rw [HV.out]
    rintro e w1 ⟨rfl, hb⟩
    have B1 := Lib.hid ((below_box w (.cells #[.int .i64 r, .int .i64 l, .int .i64 s] 25)).trans (hb.mono (by simp)))
    have X1 := Lib.hid ((Box.made w r l s).below hb)
    have c0 := X1.out.c0
    have c1 := X1.out.c1
    have c2 := X1.out.c2
    clear hb
    go_wp2_with fail
    (with_reducible refine (implPsy _ _ _ _).mono ?_)
    rw [HM.out]
    rintro e w2 ⟨rfl, hb⟩
    have B2 := Lib.hid (B1.out.trans (hb.mono B1.out.size))
    clear hb c0 c1 c2
    go_wp2_with fail
    go_ret
    rw [HP.out]
    exact ⟨rfl, B2.out⟩
  · have HV := Lib.hid (hv_no h)
    have HP := Lib.hid (fsy_no h)
    clear h
    go_enter Tryz.func10, Tryz.ntmps10
    go_wp2_with fail
    (with_reducible refine (implHv _ _ _ _).mono ?_)
    rw [HV.out]
    rintro e w1 ⟨rfl, hb⟩
    have B1 := Lib.hid ((below_box w (.cells #[.int .i64 r, .int .i64 l, .int .i64 s] 25)).trans (hb.mono (by simp)))
    clear hb
    go_wp2_with fail
    go_ret
    rw [HP.out]
    exact ⟨rfl, B1.out⟩
theorem specFsy (r l s : Int) (w : World) :
    Calls Tryz.prog 15 #[.agg #[.int .i64 r, .int .i64 l, .int .i64 s]] w (NPost (fsy r l s) w) := by
  by_cases h : Hv r l s
  · have HV := Lib.hid (hv_yes h)
    have hin := psy_in h
    obtain ⟨m, hm⟩ : ∃ m, psy r l s = m := ⟨_, rfl⟩
    rw [hm] at hin
    have HP := Lib.hid (show fsy r l s = 54 + m by rw [← hm]; exact fsy_yes h)
    have HM := Lib.hid hm
    clear hm h
    go_enter Tryz.func15, Tryz.ntmps15
    go_wp2_with fail
    (with_reducible refine (specHv _ _ _ _).mono ?_)
    rw [HV.out]
    rintro e w1 ⟨rfl, hb⟩
    have B1 := Lib.hid ((below_box w (.cells #[.int .i64 r, .int .i64 l, .int .i64 s] 25)).trans (hb.mono (by simp)))
    have X1 := Lib.hid ((Box.made w r l s).below hb)
    have c0 := X1.out.c0
    have c1 := X1.out.c1
    have c2 := X1.out.c2
    clear hb
    go_wp2_with fail
    (with_reducible refine (specPsy _ _ _ _).mono ?_)
    rw [HM.out]
    rintro e w2 ⟨rfl, hb⟩
    have B2 := Lib.hid (B1.out.trans (hb.mono B1.out.size))
    clear hb c0 c1 c2
    go_wp2_with fail
    go_ret
    rw [HP.out]
    exact ⟨rfl, B2.out⟩
  · have HV := Lib.hid (hv_no h)
    have HP := Lib.hid (fsy_no h)
    clear h
    go_enter Tryz.func15, Tryz.ntmps15
    go_wp2_with fail
    (with_reducible refine (specHv _ _ _ _).mono ?_)
    rw [HV.out]
    rintro e w1 ⟨rfl, hb⟩
    have B1 := Lib.hid ((below_box w (.cells #[.int .i64 r, .int .i64 l, .int .i64 s] 25)).trans (hb.mono (by simp)))
    clear hb
    go_wp2_with fail
    go_ret
    rw [HP.out]
    exact ⟨rfl, B1.out⟩
/-- What exlaw.py takes of these contracts. -/
theorem b_parts {a r : Bool} (ht : a = r) {w w' : World} {e : Ending} (h : BPost a w e w') : e = .returned (.bool r) ∧ Below w.heap.size w w' := by
  subst ht; exact h
theorem n_parts {a r : Int} (ht : a = r) {w w' : World} {e : Ending} (h : NPost a w e w') : e = .returned (.int .i64 r) ∧ Below w.heap.size w w' := by
  subst ht; exact h
theorem eqHdr_yes (r l s : Int) (w : World) :
    Calls Tryz.prog 18 #[.agg #[.int .i64 r, .int .i64 l, .int .i64 s], .agg #[.int .i64 r, .int .i64 l, .int .i64 s]] w fun e w' => e = .returned (.bool true) ∧ Below w.heap.size w w' :=
  (eqHdr r l s r l s w).mono fun e w' h => by rw [eqh_yes ⟨rfl, rfl, rfl⟩] at h; exact h
section
variable {w w' : World} {b : Nat} {r l s : Int}
end
end Go.Proofs.YtdelpepepbkjmaaGreatDoor.phs
end

section
namespace Go.Proofs.YtdelpepepbkjmaaGreatDoor.cat
open Go.RowKit sl harn
theorem cell_in {w : World} {b i : Nat} {cs : Array Value} {t : TypeId} {v : Value} (h : w.heap[b]? = some (.cells cs t (0, 0))) (hi : cs[i]? = some v) : w.cell? ⟨b, i, none⟩ = some v := by simp [World.cell?, h, hi]
/-- Three slices side by side, as slices.Concat reads them. -/
def trip (A : Option Addr) (n cap : Nat) (zs : List Int) (B : Option Addr) (m c : Nat) (ys : List Int) (C : Option Addr) (q d : Nat) (xs : List Int) : List Piece := [⟨A, n, cap, zs⟩, ⟨B, m, c, ys⟩, ⟨C, q, d, xs⟩]
section
variable {A B C : Option Addr} {n cap m c q d : Nat} {zs ys xs : List Int}
theorem trip_flat : flat (trip A n cap zs B m c ys C q d xs) = zs ++ (ys ++ xs) := by simp [flat, trip]
theorem trip_tot : tot (trip A n cap zs B m c ys C q d xs) = n + (m + q) := by simp [tot, trip]
theorem trip_lie {w : World} {lo hi lo2 hi2 lo3 hi3 : Nat} (h : Rd .i64 w lo hi A n cap zs) (g : Rd .i64 w lo2 hi2 B m c ys) (k : Rd .i64 w lo3 hi3 C q d xs) (E : TypeId) :
    Pieces (w.alloc (.cells #[.slice A n cap, .slice B m c, .slice C q d] E)) (some ⟨w.heap.size, 0, none⟩) 3 (trip A n cap zs B m c ys C q d xs) := by
  refine ⟨rfl, fun j s hj => ?_⟩
  have hb : ∀ j v, (#[Value.slice A n cap, .slice B m c, .slice C q d] : Array Value)[j]? = some v →
      (w.alloc (.cells #[.slice A n cap, .slice B m c, .slice C q d] E)).cell? ⟨w.heap.size, 0 + j, none⟩ = some v := fun j v hv => by
    rw [Nat.zero_add]
    exact cell_in (heap_alloc_new w _) hv
  rcases j with _ | _ | _ | j
  · injection hj with hj; subst hj
    exact ⟨⟨_, 0, rfl, by simp, hb 0 _ rfl⟩, (h.alloc _).wide⟩
  · injection hj with hj; subst hj
    exact ⟨⟨_, 0, rfl, by simp, hb 1 _ rfl⟩, (g.alloc _).wide⟩
  · injection hj with hj; subst hj
    exact ⟨⟨_, 0, rfl, by simp, hb 2 _ rfl⟩, (k.alloc _).wide⟩
  · simp [trip] at hj
end
end Go.Proofs.YtdelpepepbkjmaaGreatDoor.cat
namespace Go.Proofs.YtdelpepepbkjmaaGreatDoor.phs
open Go.RowKit sl harn rng phm

theorem mul64 (w : World) : Calls Tryz.prog 119 #[.int .u64 18, .int .u64 3] w fun e w' => e = .returned (.tuple #[.int .u64 0, .int .u64 54]) ∧ w = w' := by
  have h1 : bits .and .u64 18 4294967295 = 18 := by decide
  have h2 : bits .and .u64 3 4294967295 = 3 := by decide
  have h3 : bits .and .u64 0 4294967295 = 0 := by decide
  go_enter Tryz.func119, Tryz.ntmps119
  go_wp2
  go_ret2
  exact ⟨rfl, rfl⟩
theorem mul (w : World) : Calls Tryz.prog 87 #[.int .u64 18, .int .u64 3] w fun e w' => e = .returned (.tuple #[.int .u64 0, .int .u64 54]) ∧ w = w' := by
  go_enter Tryz.func87, Tryz.ntmps87
  go_wp2_with fail
  (with_reducible refine (mul64 _).mono ?_)
  rintro e w1 ⟨rfl, rfl⟩
  go_wp2_with fail
  go_ret2
  exact ⟨rfl, rfl⟩
theorem Rd.upto {k : IntKind} {w w' : World} {lo hi n cap B : Nat} {A : Option Addr} {zs : List Int} (h : Rd k w lo hi A n cap zs) (hb : Below B w w') (hB : hi ≤ B) : Rd k w' lo hi A n cap zs := h.same hb.size fun b _ hlt => hb.block b (by omega)
/-- A row of numbers that is known whole. -/
def Rw (w : World) (b : Nat) (L : List Int) : Prop := w.heap[b]? = some (.cells (L.map (Value.int .i64)).toArray 3 (0, 0))
theorem Rw.at_ {w : World} {b : Nat} {L : List Int} (h : Rw w b L) {i : Nat} (hi : i < L.length) : w.cell? ⟨b, i, none⟩ = some (.int .i64 (L.getD i 0)) := by
  unfold Rw at h
  simp [World.cell?, h, List.getD_eq_getElem?_getD, hi]
theorem Rw.rd {w : World} {b : Nat} {L : List Int} (h : Rw w b L) (hw : Wf .i64 L) {n : Nat} (hn : n ≤ L.length) {c : Nat} (hc : n ≤ c) (hm : c ≤ maxLen) : Rd .i64 w b (b + 1) (some ⟨b, 0, none⟩) n c (L.take n) :=
  ⟨by simp; omega, hc, hm, lt_of_block h, Wf.take hw n, fun _ => ⟨b, 0, rfl, Nat.le_refl _, by omega, fun i hi => by
    rw [Nat.zero_add, h.at_ (by omega), List.getD_eq_getElem?_getD, List.getD_eq_getElem?_getD, List.getElem?_take, if_pos hi]⟩⟩
theorem Rw.own {w : World} {b lo n : Nat} {L : List Int} (h : Rw w b L) (hw : Wf .i64 L) (hl : lo ≤ b) (hn : L.length = n) (hm : n ≤ maxLen) : Ow 3 .i64 w lo w.heap.size (some ⟨b, 0, none⟩) n n L := by
  refine ⟨⟨by simpa using hn, Or.inr ⟨b, n, _, rfl, hl, h, Nat.le_refl _, hm, by simp; omega, by rw [Nat.mul_one, ← hn]; exact List.take_of_length_le (by simp)⟩⟩, hw, Nat.le_refl _, fun g o e => ?_⟩
  injection e with e; injection e with e _
  subst e
  exact lt_of_block h
theorem splice_map (L M : List Int) (o : Nat) : splice (L.map (Value.int .i64)) o (M.map (Value.int .i64)) = (splice L o M).map (Value.int .i64) := by simp [splice, List.map_take, List.map_drop]
theorem Rd.src {k : IntKind} {w : World} {lo hi n cap : Nat} {A : Option Addr} {zs : List Int} (h : Rd k w lo hi A n cap zs) (hn : 0 < n) : ∃ ad, A = some ad ∧ ∀ j v, (zs.map (Value.int k))[j]? = some v → w.cell? (ad.add j) = some v := by
  obtain ⟨_, h2⟩ := h.reads
  obtain ⟨ad, e, _, h3⟩ := h2 hn
  exact ⟨ad, e, h3⟩
/-- So many copies are there. -/
def reps (k : Nat) (zs : List Int) : List Int := (List.replicate k zs).flatten
theorem reps_succ (k : Nat) (zs : List Int) : reps (k + 1) zs = reps k zs ++ zs := by simp [reps, List.replicate_succ']
theorem reps_len (k : Nat) {zs : List Int} (h : zs.length = 18) : (reps k zs).length = 18 * k := by simp [reps, h, Nat.mul_comm]
theorem reps_three (zs : List Int) : reps 3 zs = zs ++ (zs ++ zs) := by simp [reps, List.replicate]
theorem reps_first {zs L : List Int} {k : Nat} (hz : zs.length = 18) (hk : 1 ≤ k) (h : L.take (18 * k) = reps k zs) : L.take 18 = zs := by
  have e : (L.take (18 * k)).take 18 = L.take 18 := by rw [List.take_take, Nat.min_eq_left (by omega)]
  rw [← e, h]
  obtain ⟨j, rfl⟩ : ∃ j, k = j + 1 := ⟨k - 1, by omega⟩
  unfold reps
  rw [List.replicate_succ, List.flatten_cons, List.take_append_of_le_length (by omega), List.take_of_length_le (by omega)]
theorem reps_next {zs L : List Int} {k : Nat} (hz : zs.length = 18) (hL : L.length = 54) (hk : k < 3) (h : L.take (18 * k) = reps k zs) : (splice L (18 * k) zs).take (18 * (k + 1)) = reps (k + 1) zs ∧ (splice L (18 * k) zs).length = 54 := by
  refine ⟨?_, by rw [length_splice _ _ _ (by omega), hL]⟩
  unfold splice
  rw [h, reps_succ, ← List.append_assoc, List.take_append_of_le_length (by rw [List.length_append, reps_len k hz]; omega), List.take_of_length_le (by rw [List.length_append, reps_len k hz]; omega)]
theorem splice_wf {L M : List Int} (h : Wf .i64 L) (g : Wf .i64 M) (o : Nat) : Wf .i64 (splice L o M) := (Wf.take h o).append (g.append (Wf.drop h _))
theorem madeN (n : Nat) : madeCells #[.int .i64 0] n = ((List.replicate n (0 : Int)).map (Value.int .i64)).toArray := by
  apply Array.ext
  · simp [madeCells]
  · intro i h1 h2
    simp [madeCells, Nat.mod_one]
theorem made54 : madeCells #[.int .i64 0] 54 = ((List.replicate 54 (0 : Int)).map (Value.int .i64)).toArray := madeN 54
set_option maxRecDepth 100000 in
set_option maxHeartbeats 1000000 in
theorem repeat3 (zs : List Int) (lo hi : Nat) (A : Option Addr) (cap : Nat) (w : World) (h : Rd .i64 w lo hi A 18 cap zs) :
    Calls Tryz.prog 54 #[.slice A 18 cap, .int .i64 3] w (SlPost 3 .i64 w (zs ++ (zs ++ zs))) := by
  obtain ⟨i0, hi0, hz0, hz1, hz2⟩ := info_parts intInfo
  have hmk : ∀ W : World, (Instr.makeSlice 28 (.int .i64 54) (.int .i64 54)).run Tryz.prog W = .ok (.slice (some ⟨W.heap.size, 0, none⟩) 54 54) (W.alloc (.cells (madeCells #[.int .i64 0] 54) 3)) := fun W => run_make1 (P := Tryz.prog) 28 3 i0 _ Tryz.underlying28 hi0 hz0 hz1 54 (by omega) (by omega) W
  have HS := Lib.hid (show (Tryz.prog.info? 3).map (·.size) = some 1 by rw [hi0]; simp [hz1])
  have HR := Lib.hid h
  have HL := Lib.hid h.len
  have R0 := Lib.hid (show Rw (w.alloc (.cells (madeCells #[.int .i64 0] 54) 3)) w.heap.size (List.replicate 54 0) by unfold Rw; rw [← made54]; exact heap_alloc_new w _)
  have B0 := Lib.hid ((Below.refl w.heap.size w).alloc (Nat.le_refl _) (.cells (madeCells #[.int .i64 0] 54) 3))
  have X0 := Lib.hid (h.alloc (.cells (madeCells #[.int .i64 0] 54) 3))
  clear h hi0 hz0 hz1 hz2
  go_enter Tryz.func54, Tryz.ntmps54
  go_wp2_with fail
  (with_reducible refine (mul _).mono ?_)
  rintro e w1 ⟨rfl, rfl⟩
  obtain ⟨Z, hZ⟩ : ∃ Z, Z = (List.replicate 54 (0 : Int)) := ⟨_, rfl⟩
  have HZ0 := Lib.hid (show Z.length = 54 by rw [hZ]; rfl)
  have HZW := Lib.hid (show Wf .i64 Z by rw [hZ]; exact Wf.of_i64 fun z hz => by have := List.eq_of_mem_replicate hz; omega)
  rw [← hZ] at R0
  clear hZ
  obtain ⟨cs, hcs⟩ : ∃ cs, cs = zs.map (Value.int .i64) := ⟨_, rfl⟩
  have HCL := Lib.hid (show cs.length = 18 by rw [hcs, List.length_map]; exact HL.out)
  have HC := Lib.hid hcs
  clear hcs
  go_wp2_with (refine wpList_copy_splice rfl _ _ 28 28 rfl 3 Tryz.underlying28 HS.out _ _ 54 54 18 cap rfl rfl w.heap.size 0 (Z.map (Value.int .i64)) 3 R0.out cs (by rw [HCL.out]; rfl) (fun _ => ⟨rfl, by have hc := HC.out; subst hc; exact Rd.src X0.out (by omega)⟩) (by rw [HCL.out, List.length_map, HZ0.out]; omega) (by have hc := HC.out; subst hc; exact one_cells _ _) w.heap.size w B0.out (Nat.le_refl _) ?_; intro w2 hg2 hb2; have G2 := Lib.hid hg2.out; have B2 := Lib.hid hb2; clear hg2 hb2)
  have HCL0 : ((cs.length : Nat) : Int) = 18 := by rw [HCL.out]; rfl
  rw [HCL0]
  have G3 := Lib.hid (show Rw w2 w.heap.size (splice Z 0 zs) by have := G2.out; rw [HC.out, splice_map] at this; exact this)
  have HT3 := Lib.hid (show (splice Z 0 zs).take (18 * 1) = reps 1 zs ∧ (splice Z 0 zs).length = 54 from reps_next (k := 0) HL.out HZ0.out (by omega) (by simp [reps]))
  have HW3 := Lib.hid (splice_wf HZW.out HR.out.wf 0)
  clear G2 HCL0 hmk R0 B0
  go_loopw [8] (fun i wr => ∃ (k : Nat) (n : Int) (L : List Int), i = .int .i64 n ∧ ((k = 1 ∧ n = 18) ∨ (k = 2 ∧ n = 36) ∨ (k = 3 ∧ n = 54)) ∧ L.length = 54 ∧ L.take (18 * k) = reps k zs ∧ Wf .i64 L ∧ Rw wr w.heap.size L ∧ Below w.heap.size w wr) (fun i _ => 54 - (intOf i).toNat)
  case atStart => exact ⟨1, _, _, rfl, Or.inl ⟨rfl, rfl⟩, HT3.out.2, HT3.out.1, HW3.out, G3.out, B2.out⟩
  case round =>
    clear HT3 HW3 G3 B2
    obtain ⟨w3, rfl⟩ : ∃ w3, w3 = wr := ⟨wr, rfl⟩
    obtain ⟨k, n, L, rfl, hk, hLl, hLt, hLw, hLr, hbl⟩ := hrel
    have HLL := Lib.hid hLl
    have HTK := Lib.hid hLt
    have HLW := Lib.hid hLw
    have RL := Lib.hid hLr
    have BL := Lib.hid hbl
    have HTZ := Lib.hid (reps_first HL.out (by omega) hLt)
    clear hLl hLt hLw hLr hbl
    rcases hk with ⟨rfl, rfl⟩ | ⟨rfl, rfl⟩ | ⟨rfl, rfl⟩
    · have HT := Lib.hid (reps_next HL.out HLL.out (k := 1) (by omega) HTK.out)
      have HW := Lib.hid (splice_wf HLW.out HR.out.wf (18 * 1))
      have hsrc := Lib.hid (Rd.src (own.rd_drew (Rw.rd RL.out HLW.out (n := 18) (by rw [HLL.out]; omega) (c := 54) (by omega) (by unfold maxLen; omega))) (by omega))
      rw [HTZ.out] at hsrc
      have HCL0 : ((cs.length : Nat) : Int) = 18 := by rw [HCL.out]; rfl
      go_wp2_with fail
      go_region_law (refine step_copy_splice rfl (.tmp 41) (.tmp 44) 28 28 rfl 3 Tryz.underlying28 HS.out (some ⟨w.heap.size, 18, none⟩) (some ⟨w.heap.size, 0, none⟩) 36 36 18 54 (by go_simp) (by go_simp) w.heap.size 18 (L.map (Value.int .i64)) 3 RL.out cs (by rw [HCL.out]; rfl) (fun _ => ⟨rfl, by have hc := HC.out; subst hc; exact hsrc.out⟩) (by rw [HCL.out, List.length_map, HLL.out]; omega) (by have hc := HC.out; subst hc; exact one_cells _ _) w.heap.size w (own.below_drew BL.out) (Nat.le_refl _) ?_; intro w4 hg4 hb4)
      have G4 := Lib.hid (show Rw w4 w.heap.size (splice L 18 zs) by have := hg4.out; rw [HC.out, splice_map] at this; exact this)
      have B4 := Lib.hid hb4
      clear hg4 hb4 hsrc
      simp only [List.getElem_toArray, List.getElem_cons_succ, List.getElem_cons_zero, Act.put, List.setIfInBounds_toArray, List.set_cons_succ, List.set_cons_zero]
      go_wp2_with fail
      go_roundw
      case rel => exact ⟨2, _, _, rfl, Or.inr (Or.inl ⟨rfl, rfl⟩), HT.out.2, HT.out.1, HW.out, G4.out, B4.out⟩
      case measure => simp [intOf]; decide
    · have HT := Lib.hid (reps_next HL.out HLL.out (k := 2) (by omega) HTK.out)
      have HW := Lib.hid (splice_wf HLW.out HR.out.wf (18 * 2))
      have hsrc := Lib.hid (Rd.src (own.rd_drew (Rw.rd RL.out HLW.out (n := 18) (by rw [HLL.out]; omega) (c := 54) (by omega) (by unfold maxLen; omega))) (by omega))
      rw [HTZ.out] at hsrc
      have HCL0 : ((cs.length : Nat) : Int) = 18 := by rw [HCL.out]; rfl
      go_wp2_with fail
      go_region_law (refine step_copy_splice rfl (.tmp 41) (.tmp 44) 28 28 rfl 3 Tryz.underlying28 HS.out (some ⟨w.heap.size, 36, none⟩) (some ⟨w.heap.size, 0, none⟩) 18 18 36 54 (by go_simp) (by go_simp) w.heap.size 36 (L.map (Value.int .i64)) 3 RL.out cs (by rw [HCL.out]; rfl) (fun _ => ⟨rfl, by have hc := HC.out; subst hc; exact hsrc.out⟩) (by rw [HCL.out, List.length_map, HLL.out]; omega) (by have hc := HC.out; subst hc; exact one_cells _ _) w.heap.size w (own.below_drew BL.out) (Nat.le_refl _) ?_; intro w4 hg4 hb4)
      have G4 := Lib.hid (show Rw w4 w.heap.size (splice L 36 zs) by have := hg4.out; rw [HC.out, splice_map] at this; exact this)
      have B4 := Lib.hid hb4
      clear hg4 hb4 hsrc
      simp only [List.getElem_toArray, List.getElem_cons_succ, List.getElem_cons_zero, Act.put, List.setIfInBounds_toArray, List.set_cons_succ, List.set_cons_zero]
      go_wp2_with fail
      go_roundw
      case rel => exact ⟨3, _, _, rfl, Or.inr (Or.inr ⟨rfl, rfl⟩), HT.out.2, HT.out.1, HW.out, G4.out, B4.out⟩
      case measure => simp [intOf]; decide
    · have HT3 := Lib.hid (show L = zs ++ (zs ++ zs) by have h := HTK.out; rw [reps_three, List.take_of_length_le (by rw [HLL.out]; omega)] at h; exact h)
      have O3 := Lib.hid (Rw.own RL.out HLW.out (Nat.le_refl w.heap.size) HLL.out (by unfold maxLen; omega))
      rw [HT3.out] at O3
      go_wp2_with fail
      go_ret
      exact ⟨_, _, _, rfl, O3.out, BL.out⟩

theorem itb_dig {n : Int} (h : 0 ≤ n) (c : Nat) (hc : c ≤ 40) : bm.itb n (c : Int) = bm.dig n c := by rw [bm.itb_yes h (by omega), Int.toNat_natCast]
theorem itb_len' {n : Int} (h : 0 ≤ n) (c : Nat) (hc : c ≤ 40) : (bm.itb n (c : Int)).length = c := by rw [itb_dig h c hc, bm.dig_len]
theorem par17 (r l s : Int) : hd17 r l s ++ [bits.par (hd17 r l s)] = hd18 r l s := rfl
theorem wf_par (L : List Int) : (Lit.int .i64 (bits.par L)).wf = true := WalkArith.wf_i64 (by unfold bits.par; omega)
set_option maxRecDepth 100000 in
set_option maxHeartbeats 4000000 in
theorem implEnc (r l s : Int) (w : World) :
    Calls Tryz.prog 30 #[.agg #[.int .i64 r, .int .i64 l, .int .i64 s]] w (SlPost 3 .i64 w (enc r l s)) := by
  by_cases h : Hv r l s
  · obtain ⟨i0, hi0, hz0, hz1, hz2⟩ := info_parts intInfo
    have HI0 := Lib.hid (And.intro hi0 (And.intro hz0 (And.intro hz1 hz2)))
    have HV := Lib.hid (hv_yes h)
    have HE := Lib.hid (enc_yes h)
    have h' := h
    unfold Hv at h'
    have E1 := Lib.hid (show bm.itb r 2 = bm.dig r 2 from itb_dig (by omega) 2 (by omega))
    have E2 := Lib.hid (show bm.itb l 8 = bm.dig l 8 from itb_dig (by omega) 8 (by omega))
    have E3 := Lib.hid (show bm.itb s 7 = bm.dig s 7 from itb_dig (by omega) 7 (by omega))
    clear h h' hi0 hz0 hz1 hz2
    go_enter Tryz.func30, Tryz.ntmps30
    go_wp2_with fail
    (with_reducible refine (implHv _ _ _ _).mono ?_)
    rw [HV.out]
    rintro e w1 ⟨rfl, hb⟩
    have B1 := Lib.hid ((below_box w (.cells #[.int .i64 r, .int .i64 l, .int .i64 s] 25)).trans (hb.mono (by simp)))
    have X1 := Lib.hid ((Box.made w r l s).below hb)
    clear hb
    have c0 := X1.out.c0
    have c1 := X1.out.c1
    have c2 := X1.out.c2
    go_wp2_with fail
    go_region_held3 (fun w' => w'.cell? ⟨w.heap.size, 0, none⟩ = some (.int .i64 r) ∧ w'.cell? ⟨w.heap.size, 1, none⟩ = some (.int .i64 l) ∧ w'.cell? ⟨w.heap.size, 2, none⟩ = some (.int .i64 s)) (first | exact ⟨c0, c1, c2⟩ | exact ⟨k0, k1, k2⟩ | exact ⟨q0, q1, q2⟩ | exact ⟨p0, p1, p2⟩ | exact ⟨d0, d1, d2⟩ | go_keep)
      (first
      | (go_at_call 51; refine (cat.concat _ _ 3 3 _ (cat.trip_lie O24.out.rd O34.out.rd O4.out.rd _) (by omega) (by rw [cat.trip_tot, ← O24.out.len, ← O34.out.len, ← O4.out.len, bm.dig_len, bm.dig_len, bm.dig_len]; omega)).mono ?_; rw [cat.trip_flat]; rintro e w5 ⟨A5, n5, c5, rfl, ho, hb⟩; have O5 := Lib.hid (show Ow _ _ _ _ _ _ _ _ (hd17 r l s) from ho); have B5 := Lib.hid ((B4.out.alloc B4.out.size _).trans (hb.mono (by have := B4.out.size; simp; omega))); have X5 := Lib.hid ((X4.out.below (below_box w4 _)).below hb); have d0 := X5.out.c0; have d1 := X5.out.c1; have d2 := X5.out.c2; clear ho hb)
      | (have g9 := q0; clear g9; go_at_call 52; refine (bits.implItb s 7 _).mono ?_; rintro e w4 ⟨A4, n4, c4, rfl, ho, hb⟩; rw [E3.out] at ho; have O4 := Lib.hid ho; have X4 := Lib.hid (X3.out.below hb); have B4 := Lib.hid (B3.out.trans (hb.mono B3.out.size)); have O24 := Lib.hid (O23.out.below hb); have O34 := Lib.hid (O3.out.below hb); have p0 := X4.out.c0; have p1 := X4.out.c1; have p2 := X4.out.c2; clear ho hb)
      | (have g9 := k0; clear g9; go_at_call 52; refine (bits.implItb l 8 _).mono ?_; rintro e w3 ⟨A3, n3, c3, rfl, ho, hb⟩; rw [E2.out] at ho; have O3 := Lib.hid ho; have X3 := Lib.hid (X2.out.below hb); have B3 := Lib.hid (B2.out.trans (hb.mono B2.out.size)); have O23 := Lib.hid (O2.out.below hb); have q0 := X3.out.c0; have q1 := X3.out.c1; have q2 := X3.out.c2; clear ho hb)
      | (go_at_call 52; refine (bits.implItb r 2 _).mono ?_; rintro e w2 ⟨A2, n2, c2', rfl, ho, hb⟩; rw [E1.out] at ho; have O2 := Lib.hid ho; have X2 := Lib.hid (X1.out.same (w' := w2) (hb.block _ X1.out.lt)); have B2 := Lib.hid (B1.out.trans ((show Below w1.heap.size w1 w2 from ⟨hb.os, hb.tape, hb.output, hb.size, hb.block⟩).mono B1.out.size)); have k0 := X2.out.c0; have k1 := X2.out.c1; have k2 := X2.out.c2; clear ho hb))
    clear c0 c1 c2 k0 k1 k2 q0 q1 q2 p0 p1 p2 d0 d1 d2
    have hn5 : n5 = 17 := by rw [← O5.out.len]; exact hd17_len r l s
    subst hn5
    have P5 := Lib.hid (O5.out.down (lo2 := w.heap.size) (by have := B4.out.size; simp; omega))
    clear O2 X2 B2 O3 X3 B3 O23 O4 X4 B4 O24 O34 O5 X5 X1
    go_wp2_with fail
    (with_reducible refine (bits.implPar (hd17 r l s) _ _ A5 17 c5 _ P5.out.rd).mono ?_)
    rintro e w6 ⟨rfl, rfl⟩
    go_wp2_with (at_builtin; refine wpList_app _ rfl _ _ 28 rfl 3 i0 _ .i64 Tryz.underlying28 HI0.out.1 HI0.out.2.1 HI0.out.2.2.1 (by rw [HI0.out.2.2.2]; omega) rfl rfl rfl (P5.out.alloc _) (Rd.one .i64 3 w5 _ (wf_par _)) (by omega) (by have := B5.out.size; simp; omega) ?_; intro A7 c7 w7 ho7 hb7; have O7 := Lib.hid (show Ow _ _ _ _ _ _ _ _ (hd18 r l s) from ho7); have B7 := Lib.hid ((B5.out.alloc B5.out.size _).trans hb7); clear ho7 hb7)
    (with_reducible refine (repeat3 (hd18 r l s) _ _ A7 c7 _ O7.out.rd).mono ?_)
    rintro e w8 ⟨A8, n8, c8, rfl, ho, hb⟩
    have O8 := Lib.hid (ho.down (lo2 := w.heap.size) B7.out.size)
    have B8 := Lib.hid (B7.out.trans (hb.mono B7.out.size))
    clear ho hb
    go_wp2_with fail
    go_ret
    rw [HE.out]
    exact ⟨_, _, _, rfl, O8.out, B8.out⟩
  · have HV := Lib.hid (hv_no h)
    have HE := Lib.hid (enc_no h)
    clear h
    go_enter Tryz.func30, Tryz.ntmps30
    go_wp2_with fail
    (with_reducible refine (implHv _ _ _ _).mono ?_)
    rw [HV.out]
    rintro e w1 ⟨rfl, hb⟩
    have B1 := Lib.hid ((below_box w (.cells #[.int .i64 r, .int .i64 l, .int .i64 s] 25)).trans (hb.mono (by simp)))
    clear hb
    go_wp2_with fail
    go_ret
    rw [HE.out]
    exact ⟨_, 0, 0, rfl, ((Ow.empty 3 .i64 w1).down B1.out.size).up, B1.out.alloc B1.out.size _⟩
set_option maxRecDepth 100000 in
set_option maxHeartbeats 4000000 in
theorem specEnc (r l s : Int) (w : World) :
    Calls Tryz.prog 114 #[.agg #[.int .i64 r, .int .i64 l, .int .i64 s]] w (SlPost 3 .i64 w (enc r l s)) := by
  by_cases h : Hv r l s
  · obtain ⟨i0, hi0, hz0, hz1, hz2⟩ := info_parts intInfo
    have HI0 := Lib.hid (And.intro hi0 (And.intro hz0 (And.intro hz1 hz2)))
    have HV := Lib.hid (hv_yes h)
    have HE := Lib.hid (enc_yes h)
    have h' := h
    unfold Hv at h'
    have E1 := Lib.hid (show bm.itb r 2 = bm.dig r 2 from itb_dig (by omega) 2 (by omega))
    have E2 := Lib.hid (show bm.itb l 8 = bm.dig l 8 from itb_dig (by omega) 8 (by omega))
    have E3 := Lib.hid (show bm.itb s 7 = bm.dig s 7 from itb_dig (by omega) 7 (by omega))
    clear h h' hi0 hz0 hz1 hz2
    go_enter Tryz.func114, Tryz.ntmps114
    go_wp2_with fail
    (with_reducible refine (specHv _ _ _ _).mono ?_)
    rw [HV.out]
    rintro e w1 ⟨rfl, hb⟩
    have B1 := Lib.hid ((below_box w (.cells #[.int .i64 r, .int .i64 l, .int .i64 s] 25)).trans (hb.mono (by simp)))
    have X1 := Lib.hid ((Box.made w r l s).below hb)
    clear hb
    have c0 := X1.out.c0
    have c1 := X1.out.c1
    have c2 := X1.out.c2
    go_wp2_with fail
    go_region_held3 (fun w' => w'.cell? ⟨w.heap.size, 0, none⟩ = some (.int .i64 r) ∧ w'.cell? ⟨w.heap.size, 1, none⟩ = some (.int .i64 l) ∧ w'.cell? ⟨w.heap.size, 2, none⟩ = some (.int .i64 s)) (first | exact ⟨c0, c1, c2⟩ | exact ⟨k0, k1, k2⟩ | exact ⟨q0, q1, q2⟩ | exact ⟨p0, p1, p2⟩ | exact ⟨d0, d1, d2⟩ | exact ⟨e0, e1, e2⟩ | go_keep)
      (first
      | (have g9 := p0; clear g9; go_at_call 133; refine (bits.specItb s 7 _).mono ?_; rintro e w5 ⟨A5, n5, c5, rfl, ho, hb⟩; rw [E3.out] at ho; have O5 := Lib.hid ho; have X5 := Lib.hid (X4.out.below hb); have B5 := Lib.hid (B4.out.trans (hb.mono B4.out.size)); have O45 := Lib.hid (O4.out.below hb); have N5 := Lib.hid (show n5 = 7 by rw [← ho.len, bm.dig_len]); have L5 := Lib.hid hb.size; have d0 := X5.out.c0; have d1 := X5.out.c1; have d2 := X5.out.c2; clear ho hb)
      | (have g9 := k0; clear g9; go_at_call 133; refine (bits.specItb l 8 _).mono ?_; rintro e w3 ⟨A3, n3, c3, rfl, ho, hb⟩; rw [E2.out] at ho; have O3 := Lib.hid ho; have X3 := Lib.hid (X2.out.below hb); have B3 := Lib.hid (B2.out.trans (hb.mono B2.out.size)); have O23 := Lib.hid (O2.out.below hb); have N3 := Lib.hid (show n3 = 8 by rw [← ho.len, bm.dig_len]); have L3 := Lib.hid hb.size; have q0 := X3.out.c0; have q1 := X3.out.c1; have q2 := X3.out.c2; clear ho hb)
      | (go_at_call 133; refine (bits.specItb r 2 _).mono ?_; rintro e w2 ⟨A2, n2, c2', rfl, ho, hb⟩; rw [E1.out] at ho; have O2 := Lib.hid (show Ow 3 .i64 w2 w1.heap.size w2.heap.size A2 n2 c2' (bm.dig r 2) from ho); have X2 := Lib.hid (X1.out.same (w' := w2) (hb.block _ X1.out.lt)); have B2 := Lib.hid (B1.out.trans ((show Below w1.heap.size w1 w2 from ⟨hb.os, hb.tape, hb.output, hb.size, hb.block⟩).mono B1.out.size)); have N2 := Lib.hid (show n2 = 2 by rw [← ho.len, bm.dig_len]); have L2 := Lib.hid (show w1.heap.size ≤ w2.heap.size from hb.size); have k0 := X2.out.c0; have k1 := X2.out.c1; have k2 := X2.out.c2; clear ho hb)
      | (have g9 := d0; clear g9; refine bits.step_app rfl _ _ 28 rfl 3 i0 _ .i64 Tryz.underlying28 HI0.out.1 HI0.out.2.1 HI0.out.2.2.1 (by rw [HI0.out.2.2.2]; omega) rfl rfl rfl O45.out O5.out.rd (by rw [N2.out, N3.out, N5.out]; omega) (by have := L2.out; have := L3.out; have := L4.out; have := L5.out; omega) ?_; intro A6 c6 w6 ho6 hb6; have O6 := Lib.hid ho6; have X6 := Lib.hid (X5.out.up hb6 X1.out.lt); have B6 := Lib.hid (B5.out.trans (hb6.mono B1.out.size)); have e0 := X6.out.c0; have e1 := X6.out.c1; have e2 := X6.out.c2; clear ho6 hb6)
      | (refine bits.step_app rfl _ _ 28 rfl 3 i0 _ .i64 Tryz.underlying28 HI0.out.1 HI0.out.2.1 HI0.out.2.2.1 (by rw [HI0.out.2.2.2]; omega) rfl rfl rfl O23.out O3.out.rd (by rw [N2.out, N3.out]; omega) (by have := L2.out; have := L3.out; omega) ?_; intro A4 c4 w4 ho4 hb4; have O4 := Lib.hid ho4; have L4 := Lib.hid hb4.size; have X4 := Lib.hid (X3.out.up hb4 X1.out.lt); have B4 := Lib.hid (B3.out.trans (hb4.mono B1.out.size)); have p0 := X4.out.c0; have p1 := X4.out.c1; have p2 := X4.out.c2; clear ho4 hb4))
    clear c0 c1 c2 k0 k1 k2 q0 q1 q2 p0 p1 p2 d0 d1 d2 e0 e1 e2
    have hs6 : n2 + n3 + n5 = 17 := by rw [N2.out, N3.out, N5.out]
    rw [hs6] at O6 ⊢
    have P6 := Lib.hid (show Ow 3 .i64 w6 w.heap.size w6.heap.size A6 17 c6 (hd17 r l s) by have := O6.out.down (lo2 := w.heap.size) B1.out.size; rw [List.append_assoc] at this; exact this)
    clear hs6 O2 X2 B2 N2 L2 O3 X3 B3 N3 L3 O23 O4 X4 B4 L4 O5 X5 B5 O45 N5 L5 O6 X6 X1
    go_wp2_with fail
    (with_reducible refine (bits.specPar (hd17 r l s) _ _ A6 17 c6 _ P6.out.rd).mono ?_)
    rintro e w7 ⟨rfl, rfl⟩
    go_wp2_with (first
      | (have g9 := O9; clear g9; at_builtin; refine wpList_app _ rfl _ _ 28 rfl 3 i0 _ .i64 Tryz.underlying28 HI0.out.1 HI0.out.2.1 HI0.out.2.2.1 (by rw [HI0.out.2.2.2]; omega) rfl rfl rfl O9.out R9.out (by simp) S9.out ?_; intro A10 c10 w10 ho10 hb10; have O10 := Lib.hid ho10; have B10 := Lib.hid (B9.out.trans (hb10.mono B7.out.size)); clear ho10 hb10)
      | (have g9 := O8; clear g9; at_builtin; refine wpList_app _ rfl _ _ 28 rfl 3 i0 _ .i64 Tryz.underlying28 HI0.out.1 HI0.out.2.1 HI0.out.2.2.1 (by rw [HI0.out.2.2.2]; omega) rfl rfl rfl O8.out R8.out (by simp) S8.out ?_; intro A9 c9 w9 ho9 hb9; have O9 := Lib.hid ho9; have S9 := Lib.hid (Nat.le_trans S8.out hb9.size); have B9 := Lib.hid (B8.out.trans (hb9.mono B7.out.size)); have R9 := Lib.hid (Rd.upto R8.out hb9 (Nat.le_refl _)); clear ho9 hb9)
      | (have g9 := O7; clear g9; at_builtin; refine wpList_app _ rfl _ _ 28 rfl 3 i0 _ .i64 Tryz.underlying28 HI0.out.1 HI0.out.2.1 HI0.out.2.2.1 (by rw [HI0.out.2.2.2]; omega) rfl rfl rfl (Ow.empty 3 .i64 w7) (O7.out.rd.alloc _) (by simp) (by simp) ?_; intro A8 c8 w8 ho8 hb8; have O8 := Lib.hid ho8; have B8 := Lib.hid ((B7.out.alloc B7.out.size _).trans (hb8.mono B7.out.size)); have R8 := Lib.hid (Rd.upto (O7.out.rd.alloc _) hb8 (Nat.le_refl _)); have S8 := Lib.hid (show w7.heap.size ≤ w8.heap.size by have := hb8.size; simp at this; omega); clear ho8 hb8)
      | (at_builtin; refine wpList_app _ rfl _ _ 28 rfl 3 i0 _ .i64 Tryz.underlying28 HI0.out.1 HI0.out.2.1 HI0.out.2.2.1 (by rw [HI0.out.2.2.2]; omega) rfl rfl rfl (P6.out.alloc _) (Rd.one .i64 3 w6 _ (wf_par _)) (by omega) (by have := B6.out.size; simp; omega) ?_; intro A7 c7 w7 ho7 hb7; have O7 := Lib.hid (show Ow _ _ _ _ _ _ _ _ (hd18 r l s) from ho7); have B7 := Lib.hid ((B6.out.alloc B6.out.size _).trans hb7); clear ho7 hb7))
    go_ret
    rw [HE.out]
    have hz := (O10.out.down (lo2 := w.heap.size) B7.out.size)
    rw [List.nil_append, List.append_assoc] at hz
    exact ⟨_, _, _, rfl, hz, B10.out⟩
  · have HV := Lib.hid (hv_no h)
    have HE := Lib.hid (enc_no h)
    clear h
    go_enter Tryz.func114, Tryz.ntmps114
    go_wp2_with fail
    (with_reducible refine (specHv _ _ _ _).mono ?_)
    rw [HV.out]
    rintro e w1 ⟨rfl, hb⟩
    have B1 := Lib.hid ((below_box w (.cells #[.int .i64 r, .int .i64 l, .int .i64 s] 25)).trans (hb.mono (by simp)))
    clear hb
    go_wp2_with fail
    go_ret
    rw [HE.out]
    exact ⟨_, 0, 0, rfl, ((Ow.empty 3 .i64 w1).down B1.out.size).up, B1.out.alloc B1.out.size _⟩
end Go.Proofs.YtdelpepepbkjmaaGreatDoor.phs
end
