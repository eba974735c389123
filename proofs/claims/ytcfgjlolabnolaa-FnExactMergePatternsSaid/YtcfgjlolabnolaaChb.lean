/- Bursts as numbers, no program: consecutive integers around the circle of the machine's integers. Condition: none. -/
import Derived.Test.YtcfgjlolabnolaaChm
namespace Go.Proofs.Ytcfgjlolabnolaa.chm
open Go.RowKit sl bm

/-- The integer that lies d further. -/
def nx (x d : Int) : Int := (x + d + 9223372036854775808) % 18446744073709551616 - 9223372036854775808
theorem nx_wrap (x d : Int) : IntKind.i64.wrap (x + d) = nx x d := IntKind.wrap_i64 _
theorem nx_in (x d : Int) : -9223372036854775808 ≤ nx x d ∧ nx x d ≤ 9223372036854775807 := by unfold nx; omega
theorem nx_nx (x a b : Int) : nx (nx x a) b = nx x (a + b) := by unfold nx; omega
theorem nx_zero {x : Int} (h : -9223372036854775808 ≤ x ∧ x ≤ 9223372036854775807) : nx x 0 = x := by unfold nx; omega
theorem nx_inj {x a b : Int} (h : nx x a = nx x b) (h1 : a - b < 18446744073709551616) (h2 : b - a < 18446744073709551616) : a = b := by unfold nx at h; omega
theorem nx_small {x d : Int} (h : -9223372036854775808 ≤ x + d ∧ x + d ≤ 9223372036854775807) : nx x d = x + d := by unfold nx; omega
/-- From x on n consecutive integers are there, if x is, and no more. -/
def Bl (S : List Int) (x : Int) (n : Nat) : Prop := 1 ≤ n ∧ (∀ m : Nat, 1 ≤ m → m < n → nx x m ∈ S) ∧ nx x n ∉ S
theorem Bl.unique {S : List Int} {x : Int} {n m : Nat} (h : Bl S x n) (g : Bl S x m) : n = m := by
  rcases Nat.lt_trichotomy n m with h1 | h1 | h1
  · exact absurd (g.2.1 n h.1 h1) h.2.2
  · exact h1
  · exact absurd (h.2.1 m g.1 h1) g.2.2
def away (x : Int) (s : Int) (k : Nat) : List Int := (List.range k).map fun (i : Nat) => nx x (s * ((i : Int) + 1))
theorem away_mem {x s : Int} {k : Nat} {z : Int} (h : z ∈ away x s k) : ∃ i : Nat, i < k ∧ z = nx x (s * ((i : Int) + 1)) := by
  obtain ⟨i, h1, rfl⟩ := List.mem_map.1 h
  exact ⟨i, List.mem_range.1 h1, rfl⟩
theorem away_nodup {x s : Int} (hs : s = 1 ∨ s = -1) : ∀ k, k ≤ 4611686018427387904 → (away x s k).Nodup
  | 0, _ => by simp [away]
  | k + 1, h => by
    have e : away x s (k + 1) = away x s k ++ [nx x (s * ((k : Int) + 1))] := by unfold away; rw [List.range_succ, List.map_append]; rfl
    rw [e, List.nodup_append]
    refine ⟨away_nodup hs k (by omega), by simp, fun a ha b hb e => ?_⟩
    obtain ⟨i, h1, h2⟩ := away_mem ha
    have e1 : b = nx x (s * ((k : Int) + 1)) := by simpa using hb
    rw [e, e1] at h2
    rcases hs with rfl | rfl
    · have := nx_inj h2 (by omega) (by omega); omega
    · have := nx_inj h2 (by omega) (by omega); omega
theorem away_len {S : List Int} {x s : Int} (hs : s = 1 ∨ s = -1) {k : Nat} (hk : k ≤ 4611686018427387904) (h : ∀ m : Nat, 1 ≤ m → m ≤ k → nx x (s * m) ∈ S) : k ≤ S.length := by
  have := sub_len (away_nodup (x := x) hs k hk) (b := S) fun z hz => by
    obtain ⟨i, h1, rfl⟩ := away_mem hz
    have := h (i + 1) (by omega) (by omega)
    rwa [Int.natCast_add] at this
  simpa [away] using this
theorem run_len {S : List Int} {x : Int} {k : Nat} (hS : S.length ≤ 1073741824) (h : ∀ m : Nat, 1 ≤ m → m ≤ k → nx x m ∈ S) : k ≤ S.length := by
  rcases Nat.lt_or_ge k 4611686018427387904 with h1 | h1
  · exact away_len (s := 1) (Or.inl rfl) (by omega) fun m h2 h3 => by rw [Int.one_mul]; exact h m h2 h3
  · have := away_len (S := S) (x := x) (s := 1) (k := 4611686018427387904) (Or.inl rfl) (Nat.le_refl _) fun m h2 h3 => by rw [Int.one_mul]; exact h m h2 (by omega)
    omega
/-- Each integer lies in a burst that begins somewhere. -/
theorem begins {S : List Int} {x : Int} (hS : S.length ≤ 1073741824) (hx : x ∈ S) (hr : -9223372036854775808 ≤ x ∧ x ≤ 9223372036854775807) : ∃ j : Nat, (∀ i : Nat, i ≤ j → nx x (-(i : Int)) ∈ S) ∧ nx x (-((j : Int) + 1)) ∉ S := by
  apply Classical.byContradiction
  intro hno
  have hall : ∀ j : Nat, ∀ i : Nat, i ≤ j → nx x (-(i : Int)) ∈ S := by
    intro j
    induction j with
    | zero =>
      intro i hi
      obtain rfl : i = 0 := by omega
      show nx x (-(0 : Int)) ∈ S
      rw [Int.neg_zero, nx_zero hr]; exact hx
    | succ j ih =>
      intro i hi
      rcases Nat.lt_or_ge j i with h1 | h1
      · obtain rfl : i = j + 1 := by omega
        apply Classical.byContradiction
        intro hn
        exact hno ⟨j, ih, by rwa [Int.natCast_add] at hn⟩
      · exact ih i h1
  have := away_len (S := S) (x := x) (s := -1) (k := S.length + 1) (Or.inr rfl) (by omega) fun m h1 h2 => by
    rw [Int.neg_one_mul]; exact hall m m (Nat.le_refl _)
  omega
theorem longer {S : List Int} {x : Int} (hS : S.length ≤ 1073741824) (hx : x ∈ S) (hr : -9223372036854775808 ≤ x ∧ x ≤ 9223372036854775807) {n : Nat} (h : Bl S x n) : ∃ y, y ∈ S ∧ nx y (-1) ∉ S ∧ ∃ m, Bl S y m ∧ n ≤ m := by
  obtain ⟨j, h1, h2⟩ := begins hS hx hr
  refine ⟨nx x (-(j : Int)), h1 j (Nat.le_refl _), by rw [nx_nx]; rw [show -(j : Int) + -1 = -((j : Int) + 1) by omega]; exact h2, n + j, ⟨by have := h.1; omega, fun m hm1 hm2 => ?_, ?_⟩, by omega⟩
  · rw [nx_nx]
    rcases Nat.lt_or_ge j m with h3 | h3
    · have := h.2.1 (m - j) (by omega) (by omega)
      rw [show ((m - j : Nat) : Int) = -(j : Int) + m by omega] at this
      exact this
    · have := h1 (j - m) (by omega)
      rw [show -((j - m : Nat) : Int) = -(j : Int) + m by omega] at this
      exact this
  · rw [nx_nx, show -(j : Int) + ((n + j : Nat) : Int) = n by omega]
    exact h.2.2
/-- The length of the longest burst. -/
def Lb (S : List Int) (r : Nat) : Prop := (∀ x ∈ S, ∀ n, Bl S x n → n ≤ r) ∧ (r = 0 ∨ ∃ x ∈ S, Bl S x r)
theorem Lb.unique {S : List Int} {r s : Nat} (h : Lb S r) (g : Lb S s) : r = s := by
  rcases h.2 with h1 | ⟨x, h1, h2⟩ <;> rcases g.2 with g1 | ⟨y, g1, g2⟩
  · omega
  · have := h.1 y g1 s g2; omega
  · have := g.1 x h1 r h2; omega
  · have := h.1 y g1 s g2
    have := g.1 x h1 r h2
    omega
noncomputable def lb (S : List Int) : Nat := Classical.epsilon fun r => Lb S r
theorem Lb.eq {S : List Int} {r : Nat} (h : Lb S r) : lb S = r := (Classical.epsilon_spec (p := fun r => Lb S r) ⟨r, h⟩).unique h
theorem lb_begins {S : List Int} {r : Nat} (hS : S.length ≤ 1073741824) (hw : ∀ x ∈ S, -9223372036854775808 ≤ x ∧ x ≤ 9223372036854775807) (h : ∀ x ∈ S, nx x (-1) ∉ S → ∃ n, Bl S x n ∧ n ≤ r) (h2 : r = 0 ∨ ∃ x ∈ S, Bl S x r) : Lb S r :=
  ⟨fun x hx n hn => by
    obtain ⟨y, g1, g2, m, g3, g4⟩ := longer hS hx (hw x hx) hn
    obtain ⟨m', g5, g6⟩ := h y g1 g2
    have := g3.unique g5
    omega, h2⟩
theorem lb_all {S : List Int} {r : Nat} (h : ∀ x ∈ S, ∃ n, Bl S x n ∧ n ≤ r) (h2 : r = 0 ∨ ∃ x ∈ S, Bl S x r) : Lb S r :=
  ⟨fun x hx n hn => by
    obtain ⟨m, g5, g6⟩ := h x hx
    have := hn.unique g5
    omega, h2⟩
theorem lb_five : Lb (brst 3 5) 5 := by
  have e : brst 3 5 = [3, 4, 5, 6, 7] := by rw [show (5 : Int) = ((5 : Nat) : Int) by rfl, brst_yes (by omega) (by omega)]; rfl
  rw [e]
  refine lb_begins (by simp) (fun x hx => by simp at hx; omega) (fun x hx hp => ⟨5, ?_, Nat.le_refl _⟩) (Or.inr ⟨3, by simp, ?_⟩)
  · have : x = 3 := by
      apply Classical.byContradiction
      intro hne
      apply hp
      rw [nx_small (by simp at hx; omega)]
      simp at hx ⊢
      omega
    subst this
    refine ⟨by omega, fun m h1 h2 => ?_, ?_⟩
    · rw [nx_small (by omega)]; simp; omega
    · rw [nx_small (by omega)]; simp
  · refine ⟨by omega, fun m h1 h2 => ?_, ?_⟩
    · rw [nx_small (by omega)]; simp; omega
    · rw [nx_small (by omega)]; simp
end Go.Proofs.Ytcfgjlolabnolaa.chm
