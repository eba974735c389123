/- Placements as numbers, no program: who exists, distances, who hears whom. Condition: none. -/
import Derived.Test.YtejjafmppihneaaSl
namespace Go.Proofs.Ytejjafmppihneaa.plm
open Go.RowKit
set_option linter.unusedVariables false

/-- The station exists. -/
def plc (z : List Int) (a : Int) : Bool := decide (0 ≤ a ∧ a ≤ (z.length : Int) - 1)
def at_ (z : List Int) (a : Int) : Int := z.getD a.toNat 0
def mx (x y : Int) : Int := if x < y then y else x
def mn (x y : Int) : Int := if y < x then y else x
def dst (z : List Int) (a b : Int) : Int := if plc z a = true ∧ plc z b = true then wrap64 (mx (at_ z a) (at_ z b) - mn (at_ z a) (at_ z b)) else -1
/-- Different stations at most so far apart. -/
def win (z : List Int) (lim a b : Int) : Bool := decide (a ≠ b ∧ plc z a = true ∧ plc z b = true ∧ dst z a b ≤ lim)
/-- The stations within this distance of a, in ascending order. -/
def nbs (z : List Int) (lim a : Int) (k : Nat) : List Int := (List.range k).flatMap fun (b : Nat) => if win z lim a b = true then [(b : Int)] else []
def hdn (z : List Int) (r s a b q : Int) : Bool := decide (a ≠ b ∧ win z r a q = true ∧ win z r b q = true ∧ win z s a b = false)
theorem mx_comm (x y : Int) : mx x y = mx y x := by unfold mx; split <;> split <;> omega
theorem mn_comm (x y : Int) : mn x y = mn y x := by unfold mn; split <;> split <;> omega
theorem dst_comm (z : List Int) (a b : Int) : dst z a b = dst z b a := by
  unfold dst
  rw [mx_comm, mn_comm]
  by_cases h1 : plc z a = true <;> by_cases h2 : plc z b = true <;> simp [h1, h2]
theorem win_comm (z : List Int) (l a b : Int) : win z l a b = win z l b a := by
  unfold win
  rw [dst_comm]
  apply decide_eq_decide.2
  constructor
  · rintro ⟨h1, h2, h3, h4⟩; exact ⟨fun e => h1 e.symm, h3, h2, h4⟩
  · rintro ⟨h1, h2, h3, h4⟩; exact ⟨fun e => h1 e.symm, h3, h2, h4⟩
theorem plc_iff {z : List Int} {a : Int} : plc z a = true ↔ 0 ≤ a ∧ a ≤ (z.length : Int) - 1 := by unfold plc; exact decide_eq_true_iff
theorem plc_nat {z : List Int} {a : Int} (h : plc z a = true) {n : Nat} (hn : z.length = n) : ∃ i : Nat, a = (i : Int) ∧ i < n := by
  have := plc_iff.1 h
  exact ⟨a.toNat, by omega, by omega⟩
theorem at_nat (z : List Int) (i : Nat) : at_ z (i : Int) = z.getD i 0 := by unfold at_; simp
theorem dst_in {z : List Int} {a b : Int} (ha : plc z a = true) (hb : plc z b = true) {x y m g : Int} (hx : at_ z a = x) (hy : at_ z b = y) (hm : m = mx x y) (hg : g = mn x y) : dst z a b = wrap64 (m - g) := by
  subst hx hy hm hg
  unfold dst
  rw [if_pos ⟨ha, hb⟩]
theorem dst_no1 {z : List Int} {a b : Int} (ha : plc z a = false) : dst z a b = -1 := by unfold dst; rw [if_neg]; simp [ha]
theorem dst_no2 {z : List Int} {a b : Int} (hb : plc z b = false) : dst z a b = -1 := by unfold dst; rw [if_neg]; simp [hb]
theorem win_no0 {z : List Int} {l a b : Int} (h : a = b) : win z l a b = false := decide_eq_false fun hh => hh.1 h
theorem win_no1 {z : List Int} {l a b : Int} (h : plc z a = false) : win z l a b = false := decide_eq_false fun hh => by have := hh.2.1; rw [h] at this; cases this
theorem win_no2 {z : List Int} {l a b : Int} (h : plc z b = false) : win z l a b = false := decide_eq_false fun hh => by have := hh.2.2.1; rw [h] at this; cases this
theorem win_at {z : List Int} {l a b d : Int} {v : Bool} (h0 : ¬ a = b) (h1 : plc z a = true) (h2 : plc z b = true) (hd : dst z a b = d) (hv : decide (d ≤ l) = v) : win z l a b = v := by
  subst hd hv
  unfold win
  exact decide_eq_decide.2 ⟨fun h => h.2.2.2, fun h => ⟨h0, h1, h2, h⟩⟩
theorem win_iff {z : List Int} {l a b : Int} : win z l a b = true ↔ a ≠ b ∧ plc z a = true ∧ plc z b = true ∧ dst z a b ≤ l := by unfold win; exact decide_eq_true_iff
theorem nbs_zero (z : List Int) (l a : Int) : nbs z l a 0 = [] := rfl
theorem nbs_yes {z : List Int} {l a : Int} {k : Nat} (h : win z l a k = true) : nbs z l a (k + 1) = nbs z l a k ++ [(k : Int)] := by
  unfold nbs; rw [List.range_succ, List.flatMap_append]; simp [h]
theorem nbs_no {z : List Int} {l a : Int} {k : Nat} (h : win z l a k = false) : nbs z l a (k + 1) = nbs z l a k := by
  unfold nbs; rw [List.range_succ, List.flatMap_append]; simp [h]
theorem nbs_len (z : List Int) (l a : Int) (k : Nat) : (nbs z l a k).length ≤ k := by
  induction k with
  | zero => simp [nbs]
  | succ k ih =>
    by_cases h : win z l a k = true
    · rw [nbs_yes h]; simp; omega
    · rw [nbs_no (by simpa using h)]; omega
theorem nbs_mem (z : List Int) (l a : Int) (k : Nat) (x : Int) : x ∈ nbs z l a k ↔ ∃ i : Nat, i < k ∧ x = (i : Int) ∧ win z l a i = true := by
  unfold nbs
  simp only [List.mem_flatMap, List.mem_range]
  constructor
  · rintro ⟨i, h1, h2⟩
    by_cases h : win z l a i = true
    · rw [if_pos h] at h2; simp at h2; exact ⟨i, h1, h2, h⟩
    · rw [if_neg h] at h2; simp at h2
  · rintro ⟨i, h1, rfl, h⟩
    exact ⟨i, h1, by rw [if_pos h]; simp⟩
theorem hdn_no0 {z : List Int} {r s a b q : Int} (h : a = b) : hdn z r s a b q = false := decide_eq_false fun hh => hh.1 h
theorem hdn_no1 {z : List Int} {r s a b q : Int} (h : win z r a q = false) : hdn z r s a b q = false := decide_eq_false fun hh => by have := hh.2.1; rw [h] at this; cases this
theorem hdn_no2 {z : List Int} {r s a b q : Int} (h : win z r b q = false) : hdn z r s a b q = false := decide_eq_false fun hh => by have := hh.2.2.1; rw [h] at this; cases this
theorem hdn_at {z : List Int} {r s a b q : Int} {v : Bool} (h0 : ¬ a = b) (h1 : win z r a q = true) (h2 : win z r b q = true) (hv : win z s a b = v) : hdn z r s a b q = !v := by
  subst hv
  unfold hdn
  cases h : win z s a b with
  | true => exact decide_eq_false fun hh => by have := hh.2.2.2; cases this
  | false => exact decide_eq_true ⟨h0, h1, h2, rfl⟩
end Go.Proofs.Ytejjafmppihneaa.plm
